/-
  What a table tells is what the document's tells: every text, every number.
-/
import Derived.Test.YtmcmlkglkpbnpaaGreatQar
import Derived.Deep.RegionHeld
import Derived.Deep.CutBlock
import Derived.Deep.DeepCutAuto
namespace Go.Proofs.YtmcmlkglkpbnpaaGreat
open Go.RowKit
set_option maxHeartbeats 40000000 in
set_option maxRecDepth 100000 in
theorem tells_core (bt br g gr : Nat) (f : List Nat) (L : List ByteArray) (s : ByteArray) (n a k er : Int) (ok inb : Bool) (b : ByteArray) (w : World) (h : TabF w bt f g L) (hr : RTab w br gr L) (hF : FitY L) (h1 : 1 ≤ L.length) (hL : L.length ≤ 66000)
  (hN : Calls Tryz.prog 59 #[.pointer (some ⟨g, 0, none⟩), .string s] w fun e w' => e = .returned (.tuple #[.int .i64 a, .bool ok]) ∧ w = w')
  (hRN : Calls Tryz.prog 60 #[.pointer (some ⟨gr, 0, none⟩), .string s] w fun e w' => e = .returned (.int .i64 k) ∧ w = w')
  (hSY : Calls Tryz.prog 28 #[.pointer (some ⟨g, 0, none⟩), .int .i64 n] w fun e w' => e = .returned (.tuple #[.string b, .int .i64 er]) ∧ w = w')
  (hin : inb = true → ∃ i : Nat, n = (i : Int) ∧ L[i]? = some b ∧ er = 0) (hout : inb = false → (n < 0 ∨ (L.length : Int) ≤ n) ∧ b = ⟨#[]⟩ ∧ er = 50)
  (hok : decide (0 ≤ k) = ok) (hmx : max k 0 = a) :
  Calls Tryz.prog 24 #[.pointer (some ⟨g, 0, none⟩), .pointer (some ⟨gr, 0, none⟩), .string s, .int .i64 n] w fun e w' => e = .returned (.bool true) ∧ w.grownBy w' none := by
 have HT := hide h
 have HR := hide hr
 have HN := hide hN
 have HRN := hide hRN
 have HSY := hide hSY
 have HIN := hide hin
 have HOUT := hide hout
 have HOK := hide hok
 have HMX := hide hmx
 have HTB := hide (fun (w2 : World) (ht : TabF w2 bt f g L) => strPost_of (bytes_any bt g f L w2 ht h1 (by omega) hF.size))
 have HRB := hide (fun (w2 : World) (ht : RTab w2 br gr L) => strPost_of (rbytes_any br gr L w2 ht h1 (by omega) hF.size))
 obtain ⟨Ar, cr, p0, hnr, hmr, hrr, _⟩ := hr.open_
 have HRR := hide hrr
 clear h hr hF hrr hN hRN hSY hin hout hok hmx
 generalize (syB (L.drop 1)).length = nb at HTB HRB
 generalize (⟨(syB (L.drop 1)).toArray⟩ : ByteArray) = X at HTB HRB
 go_enter Tryz.func24, Tryz.ntmps24
 go_upto_region 6 with (first
  | (go_at_call 59; refine HN.out.mono ?_; rintro e wq ⟨rfl, rfl⟩)
  | (go_at_call 28; refine HSY.out.mono ?_; rintro e wq ⟨rfl, rfl⟩)
  | (go_at_call 60; refine HRN.out.mono ?_; rintro e wq ⟨rfl, rfl⟩))
 go_cut [41] (fun t wc => t = .bool inb ∧ w = wc)
 case first =>
  cases inb with
  | true =>
   obtain ⟨i, rfl, hi, her⟩ := HIN.out rfl
   clear her
   have hil := (List.getElem?_eq_some_iff.1 hi).1
   have hi0 : (0 : Int) ≤ (i : Int) := by omega
   have hi1 : (i : Int) < (L.length : Int) := by omega
   clear hi
   go_wp2_with fail
   go_meet
   case rel => exact ⟨rfl, rfl⟩
  | false =>
   rcases (HOUT.out rfl).1 with hn | hn
   ·have hn0 : ¬ (0 : Int) ≤ n := by omega
    go_wp2_with fail
    go_meet
    case rel => exact ⟨rfl, rfl⟩
   ·have hn0 : (0 : Int) ≤ n := by omega
    have hn1 : ¬ n < (L.length : Int) := by omega
    go_wp2_with fail
    go_meet
    case rel => exact ⟨rfl, rfl⟩
 case rest =>
  obtain ⟨rfl, rfl⟩ := hcut
  go_upto_if 41 with fail
  go_cut [14, 15] (fun x f wc => x = .string b ∧ f = .int .i64 er ∧ w = wc)
  case first =>
   cases inb with
   | true =>
    obtain ⟨i, rfl, hi, rfl⟩ := HIN.out rfl
    have hil := (List.getElem?_eq_some_iff.1 hi).1
    obtain ⟨ad, hA, _, hcell⟩ := HRR.out.str hil
    rw [(List.getElem?_eq_some_iff.1 hi).2] at hcell
    subst hA
    have hi0 : (0 : Int) ≤ (i : Int) := by omega
    have hi1 : (i : Int) < (L.length : Int) := by omega
    clear hi
    go_wp2_with fail
    go_meet
    case rel => exact ⟨rfl, rfl, rfl⟩
   | false =>
    obtain ⟨_, rfl, rfl⟩ := HOUT.out rfl
    go_wp2_with fail
    go_meet
    case rel => exact ⟨rfl, rfl, rfl⟩
  case rest =>
   obtain ⟨rfl, rfl, rfl⟩ := hcut
   have hok := HOK.out
   have hmx := HMX.out
   go_wp2_with fail
   go_region_held (fun w' => w'.cell? ⟨gr, 0, none⟩ = some (.slice Ar L.length cr)) (first | exact p0 | exact cell_gb p0 G8.out | exact cell_gb p0 G7.out | exact cell_gb p0 G6.out | exact cell_gb p0 G5.out | assumption | go_keep) (first
    | (go_at_call 30; refine (len_as HT.out.drew rfl).mono ?_; rintro e wq ⟨rfl, rfl⟩)
    | (go_at_call 62; refine (all_any HT.out.drew (by omega)).mono ?_; rintro e w5 ⟨A5, c5, rfl, hr5, hg5⟩; have HR5 := hide hr5; have G5 := hide (show w.grownBy w5 none from gb_trans (gb_drew (gb_refl w none)) hg5 (.inl rfl)); clear hr5 hg5)
    | (go_at_call 61; refine (texts_yes A5 Ar L.length c5 cr w5.heap.size w.heap.size L w5 HR5.out (HRR.out.grown G5.out (Nat.le_refl _) (by simp)) (Nat.le_refl _) G5.out.size rfl (by omega)).mono ?_; rintro e w6 ⟨rfl, hg6⟩; have G6 := hide (gb_trans G5.out hg6 (.inl rfl)); clear hg6)
    | (go_at_call 63; refine (HTB.out w6 (HT.out.grown G6.out)).mono ?_; rintro e w7 ⟨A7, c7, rfl, hs7, hg7⟩; have q7 := hs7 w7 (gb_refl w7 none); have HS7 := hide hs7; have G7 := hide (gb_trans G6.out hg7 (.inl rfl)); clear hs7 hg7)
    | (go_at_call 64; refine (HRB.out w7 (HR.out.grown G7.out)).mono ?_; rintro e w8 ⟨A8, c8, rfl, hs8, hg8⟩; have q78 := HS7.out w8 hg8; have q8 := hs8 w8 (gb_refl w8 none); have G8 := hide (gb_trans G7.out hg8 (.inl rfl)); clear hs8 hg8)
    | (go_at_call 12; refine (lnum_any _ _).mono ?_; rintro e wq ⟨rfl, rfl⟩))
   all_goals
    go_wp2_with fail
    go_ret
    exact ⟨rfl, G8.out⟩
end Go.Proofs.YtmcmlkglkpbnpaaGreat
namespace Go.Proofs.YtmcmlkglkpbnpaaGreat
open Go.RowKit
theorem tells_ok : TellsOk := by
 intro bt br g gr f L s n w h hr hF h1 hL
 have hN := number_any bt g f L s w h
 have hRN := rnumber_any br gr L s w hr (by omega)
 have hok : decide (0 ≤ numI L s) = (numOf L s).isSome := by
  unfold numI
  cases numOf L s with
  | some m => simp
  | none => simp
 have hmx : max (numI L s) 0 = (((numOf L s).getD 0 : Nat) : Int) := by
  unfold numI
  cases numOf L s with
  | some m =>
   show max (m : Int) 0 = (m : Int)
   omega
  | none => rfl
 by_cases hi : 0 ≤ n ∧ n < (L.length : Int)
 ·obtain ⟨i, rfl⟩ := Int.eq_ofNat_of_zero_le hi.1
  have hil : i < L.length := by omega
  exact tells_core bt br g gr f L s i _ _ 0 _ true L[i] w h hr hF h1 hL hN hRN (symbol_ok bt g i f L w h hil)
   (fun _ => ⟨i, rfl, List.getElem?_eq_getElem hil, rfl⟩) (fun h => by cases h) hok hmx
 ·exact tells_core bt br g gr f L s n _ _ 50 _ false ⟨#[]⟩ w h hr hF h1 hL hN hRN (symbol_bad bt g n f L w h (by omega))
   (fun h => by cases h) (fun _ => ⟨by omega, rfl, rfl⟩) hok hmx
end Go.Proofs.YtmcmlkglkpbnpaaGreat
