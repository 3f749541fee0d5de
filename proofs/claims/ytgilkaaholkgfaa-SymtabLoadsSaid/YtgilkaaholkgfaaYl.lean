/-
  The walk of the law SymtabBack.
-/
import Derived.Test.YtgilkaaholkgfaaYk
import Derived.Deep.RegionLaw
namespace Go.Proofs.Ytgilkaaholkgfaa
open Go.RowKit

set_option maxHeartbeats 1000000 in
set_option maxRecDepth 100000 in
theorem back_huge (A : Option Addr) (c : Nat) (l : List ByteArray) (cut : Int) (w : World) (hr : Rd w w.heap.size A (strs l)) (hs : ∀ s ∈ l, s.size ≤ 140737488355328) (hh : hugeB l = true) :
    Calls Try.prog 4 #[.slice A l.length c, .int .i64 cut] w fun e w' => e = .returned (.bool true) ∧ w.grownBy w' none := by
  have HR := hide hr
  have HS := hide hs
  have HH := hide hh
  clear hr hs hh
  go_enter Try.func4, Try.ntmps4
  go_wp2_with (first
    | (go_at_call 11; refine (new_tab w).mono ?_; rintro e w1 ⟨g, rfl, ⟨f, ht⟩, hg1⟩; have HG1 := hide hg1; clear ht hg1)
    | (go_at_call 12; refine (huge_any A c w.heap.size l w1 (HR.out.grown HG1.out (Nat.le_refl _) (by simp)) HS.out).mono ?_; rintro e wq ⟨rfl, rfl⟩; rw [HH.out])
    | (go_at_call 6; refine (live_any _).mono ?_; rintro e w2 ⟨rfl, hg2⟩; have HG2 := hide hg2; clear hg2))
  go_ret
  exact ⟨rfl, gb_trans HG1.out HG2.out (.inl rfl)⟩

set_option maxHeartbeats 1000000 in
set_option maxRecDepth 100000 in
theorem back_unfit (A : Option Addr) (c : Nat) (l : List ByteArray) (cut : Int) (w : World) (hr : Rd w w.heap.size A (strs l)) (hs : ∀ s ∈ l, s.size ≤ 140737488355328) (hh : hugeB l = false) (hl : l.length ≤ 300) (hu : l.any unf = true) :
    Calls Try.prog 4 #[.slice A l.length c, .int .i64 cut] w fun e w' => e = .returned (.bool true) ∧ w.grownBy w' none := by
  have HR := hide hr
  have HS := hide hs
  have HH := hide hh
  have HU := hide hu
  clear hr hs hh hu
  go_enter Try.func4, Try.ntmps4
  go_wp2_with (first
    | (go_at_call 11; refine (new_tab w).mono ?_; rintro e w1 ⟨g, rfl, ⟨f, ht⟩, hg1⟩; have HT := hide ht; have HG1 := hide hg1; clear ht hg1)
    | (go_at_call 12; refine (huge_any A c w.heap.size l w1 (HR.out.grown HG1.out (Nat.le_refl _) (by simp)) HS.out).mono ?_; rintro e wq ⟨rfl, rfl⟩; rw [HH.out])
    | (go_at_call 13; refine (intern_bad w.heap.size g f [⟨#[]⟩] l A l.length c w.heap.size w1 HT.out (HR.out.grown HG1.out (Nat.le_refl _) (by simp)) rfl (by omega) HU.out).mono ?_; rintro e wq ⟨rfl, rfl⟩)
    | (go_at_call 14; refine (bytes_any w.heap.size g f [⟨#[]⟩] w1 HT.out (by simp) (by simp) fit_new.size).mono ?_; rintro e w2 ⟨v2, rfl, ho2, hg2⟩; obtain ⟨A2, c2, hv2, _, _, _⟩ := own_form ho2; subst hv2; have HG2 := hide hg2; clear ho2 hg2)
    | (go_at_call 9; refine (lnum_any _ _).mono ?_; rintro e wq ⟨rfl, rfl⟩)
    | (go_at_call 6; refine (live_any _).mono ?_; rintro e w3 ⟨rfl, hg3⟩; have HG3 := hide hg3; clear hg3))
  go_ret
  exact ⟨rfl, gb_trans HG1.out (gb_trans HG2.out HG3.out (.inl rfl)) (.inl rfl)⟩

/-- What Intern leaves of a fresh table. -/
theorem intern_new (A : Option Addr) (c : Nat) (l : List ByteArray) (w0 w : World) (g : Nat) (f : List Nat) (h : TabF w w0.heap.size f g [⟨#[]⟩]) (hg : w0.grownBy w none) (hr : Rd w w0.heap.size A (strs l)) (hl : l.length ≤ 300) (hu : l.any unf = false) :
    Calls Try.prog 13 #[.pointer (some ⟨g, 0, none⟩), .slice A l.length c] w fun e w' =>
      ∃ A1 c1 A2 n2 c2 f', e = .returned (.tuple #[.slice A1 l.length c1, .slice A2 n2 c2, .int .i64 0]) ∧ TabF w' w0.heap.size f' g (inter [⟨#[]⟩] l).1 ∧ w0.grownBy w' none := by
  refine (intern_any w0.heap.size g f [⟨#[]⟩] l A l.length c w0.heap.size w h fit_new hr hg.size (fun ad ha hl hm => ?_) rfl (by omega) hu (by simp) hg.size).mono fun e w' ⟨A1, c1, b, f', he, ho1, ho2, ht, hw, _⟩ => ?_
  · obtain ⟨ad', e1, hb, _⟩ := hr (by simpa [strs] using hl)
    rw [ha] at e1
    injection e1 with e1
    subst e1
    have := (h.lt _ hm).2
    omega
  · obtain ⟨A2, c2, hb2, _, _, _⟩ := own_form ho2
    subst hb2
    exact ⟨A1, c1, A2, _, c2, f', he, ht, hw.gb hg (fun x hx => (h.lt x hx).2)⟩

theorem inter_new (l : List ByteArray) (hl : l.length ≤ 300) (hu : l.any unf = false) : Fit (inter [⟨#[]⟩] l).1 ∧ (inter [⟨#[]⟩] l).1[0]? = some ⟨#[]⟩ ∧ (inter [⟨#[]⟩] l).1.length ≤ 301 ∧ 1 ≤ (inter [⟨#[]⟩] l).1.length := by
  have hs := inter_size [⟨#[]⟩] l
  obtain ⟨r, hr, _⟩ := inter_pre l [⟨#[]⟩] []
  have hr' : (inter [⟨#[]⟩] l).1 = [⟨#[]⟩] ++ r := hr
  refine ⟨fit_new.inter (fun s h => by
    rw [Bool.eq_false_iff]
    intro hc
    rw [List.any_eq_true.2 ⟨s, h, hc⟩] at hu
    cases hu), by rw [hr']; rfl, by simp at hs; omega, by rw [hr']; simp⟩

set_option maxHeartbeats 1000000 in
set_option maxRecDepth 100000 in
theorem back_out (A : Option Addr) (c : Nat) (l : List ByteArray) (cut : Int) (w : World) (hr : Rd w w.heap.size A (strs l)) (hs : ∀ s ∈ l, s.size ≤ 140737488355328) (hh : hugeB l = false) (hl : l.length ≤ 300) (hu : l.any unf = false)
    (hc : cut < 0 ∨ ((syB ((inter [⟨#[]⟩] l).1.drop 1)).length : Int) < cut) :
    Calls Try.prog 4 #[.slice A l.length c, .int .i64 cut] w fun e w' => e = .returned (.bool true) ∧ w.grownBy w' none := by
  have HR := hide hr
  have HS := hide hs
  have HH := hide hh
  have HI := hide (fun w1 g f h hg hr => intern_new A c l w w1 g f h hg hr hl hu)
  have HN := hide (inter_new l hl hu)
  clear hr hs hh hu hl
  generalize (inter [⟨#[]⟩] l).1 = L at *
  generalize hX : (syB (L.drop 1)).length = n at hc
  have HX := hide hX
  clear hX
  rcases hc with hc | hc
  · go_enter Try.func4, Try.ntmps4
    go_wp2_with (first
      | (go_at_call 11; refine (new_tab w).mono ?_; rintro e w1 ⟨g, rfl, ⟨f, ht⟩, hg1⟩; have HT := hide ht; have HG1 := hide hg1; clear ht hg1)
      | (go_at_call 12; refine (huge_any A c w.heap.size l w1 (HR.out.grown HG1.out (Nat.le_refl _) (by simp)) HS.out).mono ?_; rintro e wq ⟨rfl, rfl⟩; rw [HH.out])
      | (go_at_call 13; refine (HI.out w1 g f HT.out HG1.out (HR.out.grown HG1.out (Nat.le_refl _) (by simp))).mono ?_; rintro e w2 ⟨A1, c1, A2, n2, c2, f2, rfl, ht2, hg2⟩; have HT2 := hide ht2; have HG2 := hide hg2; clear ht2 hg2)
      | (go_at_call 14; refine (bytes_any w.heap.size g f2 L w2 HT2.out HN.out.2.2.2 (by have := HN.out.2.2.1; omega) HN.out.1.size).mono ?_; rintro e w3 ⟨v3, rfl, ho3, hg3⟩; rw [HX.out] at ho3; obtain ⟨A3, c3, hv3, _, _, _⟩ := own_form ho3; subst hv3; have HG3 := hide hg3; clear ho3 hg3)
      | (go_at_call 9; refine (lnum_any _ _).mono ?_; rintro e wq ⟨rfl, rfl⟩)
      | (go_at_call 6; refine (live_any _).mono ?_; rintro e w4 ⟨rfl, hg4⟩; have HG4 := hide hg4; clear hg4))
    go_ret
    exact ⟨rfl, gb_trans HG2.out (gb_trans HG3.out HG4.out (.inl rfl)) (.inl rfl)⟩
  · have hc0 : ¬ cut < 0 := by omega
    go_enter Try.func4, Try.ntmps4
    go_wp2_with (first
      | (go_at_call 11; refine (new_tab w).mono ?_; rintro e w1 ⟨g, rfl, ⟨f, ht⟩, hg1⟩; have HT := hide ht; have HG1 := hide hg1; clear ht hg1)
      | (go_at_call 12; refine (huge_any A c w.heap.size l w1 (HR.out.grown HG1.out (Nat.le_refl _) (by simp)) HS.out).mono ?_; rintro e wq ⟨rfl, rfl⟩; rw [HH.out])
      | (go_at_call 13; refine (HI.out w1 g f HT.out HG1.out (HR.out.grown HG1.out (Nat.le_refl _) (by simp))).mono ?_; rintro e w2 ⟨A1, c1, A2, n2, c2, f2, rfl, ht2, hg2⟩; have HT2 := hide ht2; have HG2 := hide hg2; clear ht2 hg2)
      | (go_at_call 14; refine (bytes_any w.heap.size g f2 L w2 HT2.out HN.out.2.2.2 (by have := HN.out.2.2.1; omega) HN.out.1.size).mono ?_; rintro e w3 ⟨v3, rfl, ho3, hg3⟩; rw [HX.out] at ho3; obtain ⟨A3, c3, hv3, _, _, _⟩ := own_form ho3; subst hv3; have HG3 := hide hg3; clear ho3 hg3)
      | (go_at_call 9; refine (lnum_any _ _).mono ?_; rintro e wq ⟨rfl, rfl⟩)
      | (go_at_call 6; refine (live_any _).mono ?_; rintro e w4 ⟨rfl, hg4⟩; have HG4 := hide hg4; clear hg4))
    go_ret
    exact ⟨rfl, gb_trans HG2.out (gb_trans HG3.out HG4.out (.inl rfl)) (.inl rfl)⟩
end Go.Proofs.Ytgilkaaholkgfaa
