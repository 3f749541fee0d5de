/-
  The walk of the law SymtabLoads (what tells says is handed in).
-/
import Derived.Test.YtgilkaaholkgfaaYr
namespace Go.Proofs.Ytgilkaaholkgfaa
open Go.RowKit

/-- What tells says of a table and the document's of the same symbols. -/
def TellsOk : Prop := ∀ (bt br g gr : Nat) (f : List Nat) (L : List ByteArray) (s : ByteArray) (n : Int) (w : World), TabF w bt f g L → RTab w br gr L → Fit L → 1 ≤ L.length → L.length ≤ 5000 →
  Calls Try.prog 10 #[.pointer (some ⟨g, 0, none⟩), .pointer (some ⟨gr, 0, none⟩), .string s, .int .i64 n] w fun e w' => e = .returned (.bool true) ∧ w.grownBy w' none

theorem load_none {A : Option Addr} {n c k : Nat} {w : World} (h : Calls Try.prog 7 #[.slice A n c] w (LoadPost none k w)) :
    Calls Try.prog 7 #[.slice A n c] w fun e w' => e = .returned (.tuple #[.pointer none, .int .i64 0, .int .i64 51]) ∧ w.grownBy w' none :=
  h.mono fun e w' ⟨hg, h⟩ => by
    rcases h with ⟨_, h⟩ | ⟨L, g, f, h1, _, _⟩
    · exact ⟨h, hg⟩
    · cases h1
theorem load_some {A : Option Addr} {n c k : Nat} {w : World} {L : List ByteArray} (h : Calls Try.prog 7 #[.slice A n c] w (LoadPost (some L) k w)) :
    Calls Try.prog 7 #[.slice A n c] w fun e w' => ∃ g f, e = .returned (.tuple #[.pointer (some ⟨g, 0, none⟩), .int .i64 (k : Int), .int .i64 0]) ∧ TabF w' w.heap.size f g L ∧ w.grownBy w' none :=
  h.mono fun e w' ⟨hg, h⟩ => by
    rcases h with ⟨h1, _⟩ | ⟨M, g, f, h1, h2, h3⟩
    · cases h1
    · injection h1 with h1
      subst h1
      exact ⟨g, f, h2, h3, hg⟩
theorem rload_none {A : Option Addr} {n c k : Nat} {w : World} (h : Calls Try.prog 8 #[.slice A n c] w (RLoadPost none k w)) :
    Calls Try.prog 8 #[.slice A n c] w fun e w' => e = .returned (.tuple #[.pointer none, .int .i64 0, .int .i64 51]) ∧ w.grownBy w' none :=
  h.mono fun e w' ⟨hg, h⟩ => by
    rcases h with ⟨_, h⟩ | ⟨L, g, h1, _, _⟩
    · exact ⟨h, hg⟩
    · cases h1
theorem rload_some {A : Option Addr} {n c k : Nat} {w : World} {L : List ByteArray} (h : Calls Try.prog 8 #[.slice A n c] w (RLoadPost (some L) k w)) :
    Calls Try.prog 8 #[.slice A n c] w fun e w' => ∃ g, e = .returned (.tuple #[.pointer (some ⟨g, 0, none⟩), .int .i64 (k : Int), .int .i64 0]) ∧ RTab w' w.heap.size g L ∧ w.grownBy w' none :=
  h.mono fun e w' ⟨hg, h⟩ => by
    rcases h with ⟨h1, _⟩ | ⟨M, g, h1, h2, h3⟩
    · cases h1
    · injection h1 with h1
      subst h1
      exact ⟨g, h2, h3, hg⟩

set_option maxHeartbeats 1000000 in
set_option maxRecDepth 100000 in
theorem loads_live (A : Option Addr) (n c : Nat) (s : ByteArray) (i : Int) (w : World) (hh : 20000 < n ∨ 20000 < s.size) :
    Calls Try.prog 3 #[.slice A n c, .string s, .int .i64 i] w fun e w' => e = .returned (.bool true) ∧ w.grownBy w' none := by
  by_cases h1 : 20000 < n
  · have h2 : (20000 : Int) < (n : Int) := by omega
    clear hh
    go_enter Try.func3, Try.ntmps3
    go_wp2_with (go_at_call 6; refine (live_any _).mono ?_; rintro e w1 ⟨rfl, hg⟩; have HG := hide hg; clear hg)
    go_ret
    exact ⟨rfl, HG.out⟩
  · have h2 : ¬ (20000 : Int) < (n : Int) := by omega
    have h3 : (20000 : Int) < (s.size : Int) := by omega
    clear hh
    go_enter Try.func3, Try.ntmps3
    go_wp2_with (go_at_call 6; refine (live_any _).mono ?_; rintro e w1 ⟨rfl, hg⟩; have HG := hide hg; clear hg)
    go_ret
    exact ⟨rfl, HG.out⟩

/-- The bytes handed in, copied. -/
theorem made8 (w : World) : (w.alloc (.cells #[] 5)).ownsRow w.heap.size 5 1 (.slice (some ⟨w.heap.size, 0, none⟩) 0 0) 0 [] := own_empty w 5 1

set_option maxHeartbeats 4000000 in
set_option maxRecDepth 100000 in
theorem loads_main (HTL : TellsOk) (A : Option Addr) (c : Nat) (bs : List UInt8) (s : ByteArray) (i : Int) (w : World) (hr : Rd w w.heap.size A (u8s bs)) (hc : bs.length ≤ c) (hm : c ≤ maxLen) (h1 : bs.length ≤ 20000) (h2 : s.size ≤ 20000) :
    Calls Try.prog 3 #[.slice A bs.length c, .string s, .int .i64 i] w fun e w' => e = .returned (.bool true) ∧ w.grownBy w' none := by
  have HT := hide HTL
  have HR := hide hr
  have HM := hide hm
  have q1 : ¬ (20000 : Int) < (bs.length : Int) := by omega
  have q2 : ¬ (20000 : Int) < (s.size : Int) := by omega
  have HLD := hide (fun (A1 : Option Addr) (c1 : Nat) (w1 : World) (hr1 : Rd w1 w1.heap.size A1 (u8s bs)) (hc1 : bs.length ≤ c1) (hm1 : c1 ≤ maxLen) => load_any A1 bs.length c1 bs w1 hr1 rfl hc1 hm1 (by omega))
  have HRD := hide (fun (w1 : World) (hr1 : Rd w1 w1.heap.size A (u8s bs)) => rload_any A bs.length c bs w1 hr1 rfl hc hm (by omega))
  have hmany := (frs_many bs).1
  have hls := fun L (h : ld (frs bs).1 = some L) => And.intro (fit_new.ldF h) (ldF_some h)
  cases hld : ld (frs bs).1 with
  | none =>
    rw [hld] at HLD HRD
    clear hr hm HTL hmany hls hld
    generalize (frs bs).2.1 = k at HLD HRD
    go_enter Try.func3, Try.ntmps3
    go_wp2_with (first
      | (at_builtin; refine app8 (made8 w) (HR.out.alloc (Nat.le_refl _) _) (u8s_length bs) (u8s_cell bs) (by omega) (by simp) rfl rfl rfl rfl ?_; intro v1 w1 ho1 hg1 hw1; have ho1' := own_as (m := bs.length) (ys := u8s bs) ho1 (by simp) (by simp); obtain ⟨A1, c1, hv1, hn1, hm1, hr1⟩ := own_form ho1'; subst hv1; have HR1 := hide hr1; have HM1 := hide hm1; have HG1 := hide (show w.grownBy w1 none from gb_trans (gb_alloc (gb_refl w none) _) hg1 (.inr (.inr ⟨_, rfl, Nat.le_refl _⟩))); clear ho1 ho1' hg1 hw1 hr1 hm1)
      | (go_at_call 7; refine (load_none (HLD.out A1 c1 w1 HR1.out hn1 HM1.out)).mono ?_; rintro e w2 ⟨rfl, hg2⟩; have HG2 := hide (gb_trans HG1.out hg2 (.inl rfl)); clear hg2)
      | (go_at_call 8; refine (rload_none (HRD.out w2 ((HR.out.grown HG2.out (Nat.le_refl _) (by simp)).more HG2.out.size))).mono ?_; rintro e w3 ⟨rfl, hg3⟩; have HG3 := hide (gb_trans HG2.out hg3 (.inl rfl)); clear hg3)
      | (go_at_call 9; refine (lnum_any _ _).mono ?_; rintro e wq ⟨rfl, rfl⟩)
      | (go_at_call 6; refine (live_any _).mono ?_; rintro e w4 ⟨rfl, hg4⟩; have HG4 := hide (gb_trans HG3.out hg4 (.inl rfl)); clear hg4))
    go_ret
    exact ⟨rfl, HG4.out⟩
  | some L =>
    have HF := hide (hls L hld)
    rw [hld] at HLD HRD
    have HL5 : Hid (1 ≤ L.length ∧ L.length ≤ 5000) := hide (by have := HF.out.2; simp at this; omega)
    clear hr hm HTL hmany hls hld
    generalize (frs bs).2.1 = k at HLD HRD
    go_enter Try.func3, Try.ntmps3
    go_wp2_with (first
      | (at_builtin; refine app8 (made8 w) (HR.out.alloc (Nat.le_refl _) _) (u8s_length bs) (u8s_cell bs) (by omega) (by simp) rfl rfl rfl rfl ?_; intro v1 w1 ho1 hg1 hw1; have ho1' := own_as (m := bs.length) (ys := u8s bs) ho1 (by simp) (by simp); obtain ⟨A1, c1, hv1, hn1, hm1, hr1⟩ := own_form ho1'; subst hv1; have HR1 := hide hr1; have HM1 := hide hm1; have HG1 := hide (show w.grownBy w1 none from gb_trans (gb_alloc (gb_refl w none) _) hg1 (.inr (.inr ⟨_, rfl, Nat.le_refl _⟩))); clear ho1 ho1' hg1 hw1 hr1 hm1)
      | (go_at_call 7; refine (load_some (HLD.out A1 c1 w1 HR1.out hn1 HM1.out)).mono ?_; rintro e w2 ⟨g, f, rfl, ht2, hg2⟩; have HT2 := hide ht2; have HG2 := hide (gb_trans HG1.out hg2 (.inl rfl)); clear hg2 ht2)
      | (go_at_call 8; refine (rload_some (HRD.out w2 ((HR.out.grown HG2.out (Nat.le_refl _) (by simp)).more HG2.out.size))).mono ?_; rintro e w3 ⟨gr, rfl, ht3, hg3⟩; have HT3 := hide ht3; have HU3 := hide (HT2.out.grown hg3); have HG3 := hide (gb_trans HG2.out hg3 (.inl rfl)); clear hg3 ht3)
      | (go_at_call 9; refine (lnum_any _ _).mono ?_; rintro e wq ⟨rfl, rfl⟩)
      | (go_at_call 10; refine (HT.out _ _ g gr f L s i w3 HU3.out HT3.out HF.out.1 HL5.out.1 HL5.out.2).mono ?_; rintro e w4 ⟨rfl, hg4⟩; have HG4 := hide (gb_trans HG3.out hg4 (.inl rfl)); clear hg4)
      | (go_at_call 6; refine (live_any _).mono ?_; rintro e w5 ⟨rfl, hg5⟩; have HG5 := hide (gb_trans HG4.out hg5 (.inl rfl)); clear hg5))
    go_ret
    exact ⟨rfl, HG5.out⟩
end Go.Proofs.Ytgilkaaholkgfaa
