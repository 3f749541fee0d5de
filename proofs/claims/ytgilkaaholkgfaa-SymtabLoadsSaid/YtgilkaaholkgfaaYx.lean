/-
  What a table tells is what the document's tells: every text, every number.
-/
import Derived.Test.YtgilkaaholkgfaaYt
namespace Go.Proofs.Ytgilkaaholkgfaa
open Go.RowKit

theorem tells_ok : TellsOk := by
  intro bt br g gr f L s n w h hr hF h1 hL
  have hN := number_any bt g f L s w h
  have hRN := rnumber_any br gr L s w hr (by omega)
  have hok : decide (0 ≤ numI L s) = (numOf L s).isSome := by
    unfold numI
    cases numOf L s with
    | some m => simp
    | none => simp
  have hmx : max (numI L s) 0 = (((numOf L s).getD 0 : Nat) : Int) := by
    unfold numI
    cases numOf L s with
    | some m =>
      show max (m : Int) 0 = (m : Int)
      omega
    | none => rfl
  by_cases hi : 0 ≤ n ∧ n < (L.length : Int)
  · obtain ⟨i, rfl⟩ := Int.eq_ofNat_of_zero_le hi.1
    have hil : i < L.length := by omega
    exact tells_core bt br g gr f L s i _ _ 0 _ true L[i] w h hr hF h1 hL hN hRN (symbol_ok bt g i f L w h hil)
      (fun _ => ⟨i, rfl, List.getElem?_eq_getElem hil, rfl⟩) (fun h => by cases h) hok hmx
  · exact tells_core bt br g gr f L s n _ _ 50 _ false ⟨#[]⟩ w h hr hF h1 hL hN hRN (symbol_bad bt g n f L w h (by omega))
      (fun h => by cases h) (fun _ => ⟨by omega, rfl, rfl⟩) hok hmx
end Go.Proofs.Ytgilkaaholkgfaa
