/-
  The document's file system: what lies in its rows; the place of a name.
-/
import Derived.Test.YtmcmlkglkpbnpaaGreatQav
import Derived.Deep.DrawnRows
import Derived.StillTailTactics
namespace Go.Proofs.YtmcmlkglkpbnpaaGreat
open Go.RowKit
attribute [local go_sem ↓] Go.wp_at_zero Go.wp_at_succ
theorem own_cells {w : World} {base m size : Nat} {e : TypeId} {A : Option Addr} {n c : Nat} {xs : List Value} (h : w.ownsRow base e size (.slice A n c) m xs) (hl : xs.length = m * size) (hm : 0 < m) : ∃ b, A = some ⟨b, 0, none⟩ ∧ ∀ (j : Nat) (u : Value), xs[j]? = some u → w.cell? ⟨b, j, none⟩ = some u := by
 rcases h.2 with ⟨_, h0⟩ | ⟨b, cap, cur, hv, h5, h6, _, _, h8, h9⟩
 ·omega
 ·injection hv with hA _ _
  refine ⟨b, hA, fun j u hu => ?_⟩
  have hj : j < m * size := by
   rw [← hl]
   exact (List.getElem?_eq_some_iff.1 hu).1
  rw [blk_cell h6, ← hu, ← h9, List.getElem?_take, if_pos hj, Array.getElem?_toList]
theorem own_form0 {w : World} {base m size : Nat} {e : TypeId} {v : Value} {xs : List Value} (h : w.ownsRow base e size v m xs) : ∃ A c, v = .slice A m c ∧ m ≤ c ∧ c ≤ maxLen := by
 rcases h.2 with ⟨h1, h0⟩ | ⟨g, cap, cur, hv, _, _, h3, h4, _⟩
 ·exact ⟨none, 0, by rw [h1, h0], by omega, Nat.zero_le _⟩
 ·exact ⟨_, cap, hv, h3, h4⟩
theorem E_elem {w : World} {base : Nat} {A : Option Addr} {n c : Nat} {l : List RE} (h : w.ownsRow base 151 2 (.slice A n c) l.length (encE l)) {i : Nat} (hi : i < l.length) : ∃ b, A = some ⟨b, 0, none⟩ ∧ w.cell? ⟨b, i * 2, none⟩ = some (.string l[i].name) ∧ w.cell? ⟨b, i * 2 + 1, none⟩ = some (.int .i64 (l[i].n : Int)) := by
 obtain ⟨b, hA, hc⟩ := own_cells h (encE_len l) (by omega)
 obtain ⟨h1, h2⟩ := encE_at hi
 exact ⟨b, hA, hc _ _ h1, hc _ _ h2⟩
theorem D_elem {w : World} {base : Nat} {A : Option Addr} {n c : Nat} {l : List RD} (h : w.ownsRow base 111 3 (.slice A n c) l.length (encD l)) {i : Nat} (hi : i < l.length) : ∃ b, A = some ⟨b, 0, none⟩ ∧ w.cell? ⟨b, i * 3, none⟩ = some (.bool l[i].cut) ∧ w.cell? ⟨b, i * 3 + 1, none⟩ = some (.int .i64 (l[i].at_ : Int)) ∧ w.cell? ⟨b, i * 3 + 2, none⟩ = some (.string l[i].p) := by
 obtain ⟨b, hA, hc⟩ := own_cells h (encD_len l) (by omega)
 obtain ⟨h1, h2, h3⟩ := encD_at hi
 exact ⟨b, hA, hc _ _ h1, hc _ _ h2, hc _ _ h3⟩
theorem M_elem {w : World} {base : Nat} {A : Option Addr} {n c : Nat} {l : List RM} (h : w.ownsRow base 103 4 (.slice A n c) l.length (encM l)) {i : Nat} (hi : i < l.length) : ∃ b, A = some ⟨b, 0, none⟩ ∧ w.cell? ⟨b, i * 4, none⟩ = some (.int .u8 (l[i].kind : Int)) ∧ w.cell? ⟨b, i * 4 + 1, none⟩ = some (.string l[i].a) ∧ w.cell? ⟨b, i * 4 + 2, none⟩ = some (.string l[i].b) ∧ w.cell? ⟨b, i * 4 + 3, none⟩ = some (.int .i64 (l[i].n : Int)) := by
 obtain ⟨b, hA, hc⟩ := own_cells h (encM_len l) (by omega)
 obtain ⟨h1, h2, h3, h4⟩ := encM_at hi
 exact ⟨b, hA, hc _ _ h1, hc _ _ h2, hc _ _ h3, hc _ _ h4⟩
theorem P_elem {w : World} {base : Nat} {A : Option Addr} {n c : Nat} {l : List Nat} (h : w.ownsRow base 104 1 (.slice A n c) l.length (encP l)) {i : Nat} (hi : i < l.length) : ∃ b, A = some ⟨b, 0, none⟩ ∧ w.cell? ⟨b, i, none⟩ = some (.pointer (some ⟨l[i], 0, none⟩)) := by
 obtain ⟨b, hA, hc⟩ := own_cells h (encP_len l) (by omega)
 exact ⟨b, hA, hc _ _ (encP_at hi)⟩
theorem rstr_ne {a b : ByteArray} (h : a ≠ b) : (a.toList == b.toList) = false := by
 rw [ByteArray.toList_eq, ByteArray.toList_eq]
 refine beq_eq_false_iff_ne.2 fun e => h ?_
 obtain ⟨⟨x⟩⟩ := a
 obtain ⟨⟨y⟩⟩ := b
 have e' : x = y := e
 rw [e']
set_option maxHeartbeats 4000000 in
set_option maxRecDepth 100000 in
theorem rAt_place (l : List RE) (v : Value) (s : ByteArray) (base : Nat) (w : World) (h : w.ownsRow base 151 2 v l.length (encE l)) :
  Calls Tryz.prog 71 #[v, .string s] w fun e w' => e = .returned (.int .i64 (atR l s)) ∧ w = w' := by
 obtain ⟨A, c, rfl, hc, hm⟩ := own_form0 h
 unfold maxLen at hm
 have H := hide h
 clear h
 go_enter Tryz.func71, Tryz.ntmps71
 go_wp2
 go_loopw [5] (fun i wr => ∃ j : Nat, i = .int .i64 (j : Int) ∧ j ≤ l.length ∧ (∀ (i : Nat) (hi : i < l.length), i < j → l[i].name ≠ s) ∧ w = wr) (fun i _ => l.length - (intOf i).toNat)
 case atStart => exact ⟨0, rfl, Nat.zero_le _, fun i _ h => by omega, rfl⟩
 case round =>
  obtain ⟨j, rfl, hj, hall, rfl⟩ := hrel
  have HA := hide hall
  clear hall
  by_cases hlt : j < l.length
  ·obtain ⟨b, rfl, p0, p1⟩ := E_elem H.out hlt
   obtain ⟨x, hx⟩ : ∃ x, x = l[j].name := ⟨_, rfl⟩
   rw [← hx] at p0
   have HX := hide hx
   clear hx
   by_cases hs : x = s
   ·have HS := hide (atR_found hlt (HX.out.symm.trans hs) HA.out)
    subst hs
    go_wp2
    go_ret
    exact ⟨by rw [HS.out]; rfl, rfl⟩
   ·have hs' := rstr_ne hs
    have HS := hide hs
    go_wp2
    go_roundw
    case rel =>
     refine ⟨j + 1, by go_num, by omega, fun i hi h => ?_, trivial⟩
     by_cases hij : i = j
     ·subst hij
      rw [← HX.out]
      exact HS.out
     ·exact HA.out i hi (by omega)
    case measure => simp [intOf]; omega
  ·have HB := hide (atR_none (d := l) (s := s) fun i hi => HA.out i hi (by omega))
   go_wp2
   go_ret
   exact ⟨by rw [HB.out]; rfl, rfl⟩
end Go.Proofs.YtmcmlkglkpbnpaaGreat
