/-
  Whether two files are the same: sameFile.
-/
import Derived.Test.YtpkmlehkmmdkoaaSimEs
namespace Go.Proofs.Ytpkmlehkmmdkoaa
open Go.RowKit

def flEq (x y : Fl) : Bool := (x.bytes == y.bytes) && (x.safe == y.safe) && eqL wrEq x.waits y.waits
theorem eq8_still {A A2 : Option Addr} {n c n2 c2 : Nat} {xs ys : List UInt8} {w : World} (h : Rd w w.heap.size A (u8s xs)) (k : Rd w w.heap.size A2 (u8s ys)) (hn : n = xs.length) (hn2 : n2 = ys.length) {b : Bool} (hb : (xs == ys) = b) (j : Nat) :
    Calls Try.prog 81 #[.slice A n c, .slice A2 n2 c2] (w.drewN j) fun e w' => e = .returned (.bool b) ∧ w' = w.drewN j :=
  (eq8_any A A2 n c n2 c2 _ _ xs ys (w.drewN j) (h.drewN j) (k.drewN j) hn hn2).mono fun _ _ ⟨he, hw⟩ => ⟨by rw [he, hb], hw.symm⟩

set_option maxHeartbeats 4000000 in
set_option maxRecDepth 100000 in
theorem sameFile_any (g1 g2 : Nat) (f1 f2 : Fl) (own rd own' rd' : Nat → Prop) (w : World) (h : FileAt w own rd g1 f1) (k : FileAt w own' rd' g2 f2) :
    Calls Try.prog 65 #[.pointer (some ⟨g1, 0, none⟩), .pointer (some ⟨g2, 0, none⟩)] w fun e w' => e = .returned (.bool (flEq f1 f2)) ∧ w.grownBy w' none := by
  obtain ⟨v1, hf1, _, _, hb1, hs1, _, hw1⟩ := h
  obtain ⟨v2, hf2, _, _, hb2, hs2, _, hw2⟩ := k
  obtain ⟨A1, c1, e1, _, _, r1⟩ := hb1.rd
  obtain ⟨B1, d1, e2, _, _, t1⟩ := hs1.rd
  obtain ⟨W1, k1, e3, _, _⟩ := hw1.form
  obtain ⟨A2, c2, e4, _, _, r2⟩ := hb2.rd
  obtain ⟨B2, d2, e5, _, _, t2⟩ := hs2.rd
  obtain ⟨W2, k2, e6, _, _⟩ := hw2.form
  have p1 := hf1.c1
  have p2 := hf1.c2
  have p4 := hf1.c4
  have q1 := hf2.c1
  have q2 := hf2.c2
  have q4 := hf2.c4
  rw [e1] at p1
  rw [e2] at p2
  rw [e3] at p4 hw1
  rw [e4] at q1
  rw [e5] at q2
  rw [e6] at q4 hw2
  have HW := hide (eqf_wr W1 W2 _ k1 _ k2 f1.waits f2.waits own rd own' rd' w.drew (hw1.keep fun _ _ _ => rfl) (hw2.keep fun _ _ _ => rfl))
  clear hf1 hf2 hb1 hb2 hs1 hs2 hw1 hw2 e1 e2 e3 e4 e5 e6
  cases hx : (f1.bytes == f2.bytes)
  · have E1 := fun j => eq8_still (c := c1) (c2 := c2) r1 r2 rfl rfl hx j
    have E1 := hide E1
    have HQ := hide (show flEq f1 f2 = false by unfold flEq; rw [hx]; rfl)
    clear r1 r2 t1 t2 hx
    go_enter Try.func65, Try.ntmps65
    go_wp2
    go_quiet ((go_at_call 81; exact Calls.quiet_of_same (E1.out _)))
    go_wp2
    go_ret
    exact ⟨by rw [HQ.out]; rfl, gb_drewN (gb_refl w none) _⟩
  · cases hy : (f1.safe == f2.safe)
    · have E1 := fun j => eq8_still (c := c1) (c2 := c2) r1 r2 rfl rfl hx j
      have E2 := fun j => eq8_still (c := d1) (c2 := d2) t1 t2 rfl rfl hy j
      have E1 := hide E1
      have E2 := hide E2
      have HQ := hide (show flEq f1 f2 = false by unfold flEq; rw [hx, hy]; rfl)
      clear r1 r2 t1 t2 hx hy
      go_enter Try.func65, Try.ntmps65
      go_wp2
      go_quiet ((first
        | (go_at_call 81; with_reducible exact Calls.quiet_of_same (E1.out _))
        | (go_at_call 81; with_reducible exact Calls.quiet_of_same (E2.out _))))
      go_wp2
      go_ret
      exact ⟨by rw [HQ.out]; rfl, gb_drewN (gb_refl w none) _⟩
    · have E1 := fun j => eq8_still (c := c1) (c2 := c2) r1 r2 rfl rfl hx j
      have E2 := fun j => eq8_still (c := d1) (c2 := d2) t1 t2 rfl rfl hy j
      have E1 := hide E1
      have E2 := hide E2
      have HQ := hide (show flEq f1 f2 = eqL wrEq f1.waits f2.waits by unfold flEq; rw [hx, hy]; rfl)
      generalize eqL wrEq f1.waits f2.waits = b at *
      clear r1 r2 t1 t2 hx hy
      go_enter Try.func65, Try.ntmps65
      go_wp2
      go_still_tail 29, (by kernel_rfl)
      still_call (E1.out 1)
      repeat still_step
      still_call (E2.out 1)
      repeat still_step
      refine wpStill_nil ?_
      go_wp2_with (go_at_call 82; refine HW.out.mono ?_; rintro e w1 ⟨rfl, hg⟩; have HG := hide hg; clear hg)
      go_ret
      exact ⟨by rw [HQ.out]; rfl, ⟨HG.out.os, HG.out.tape, HG.out.output, HG.out.size, HG.out.block⟩⟩

end Go.Proofs.Ytpkmlehkmmdkoaa
