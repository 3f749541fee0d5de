/-
  The contracts of the reference's reader: Count, Text, Done.
-/
import Derived.Test.YtdaefgkhimhpdaaRRdr2
import Derived.Test.YtdaefgkhimhpdaaRefF
namespace Go.Proofs.Ytdaefgkhimhpdaa
open Go.RowKit

theorem refNum_as {w : World} {base g : Nat} {bs : List UInt8} {p n q : Nat} {x y : Int} (h : RefR w base g bs p x) (hp : p ≤ bs.length) (hl : bs.length ≤ 100000000) (hN : rNum bs p x = (n, q, y)) :
    Calls Try.prog 31 #[.pointer (some ⟨g, 0, none⟩)] w (RAfter base g bs (.int .u64 (n : Int)) q y w) := by
  have := refNum_any base g bs p x w h hp hl
  rwa [hN] at this
theorem RefR.err {w : World} {base g : Nat} {bs : List UInt8} {p : Nat} {x : Int} (h : RefR w base g bs p x) : w.cell? ⟨g, 2, none⟩ = some (.int .i64 x) := by
  obtain ⟨v, hb, _, _⟩ := h
  rw [blk_cell hb]; rfl
theorem RefR.at_ {w : World} {base g : Nat} {bs : List UInt8} {p : Nat} {x : Int} (h : RefR w base g bs p x) : w.cell? ⟨g, 1, none⟩ = some (.int .i64 (p : Int)) := by
  obtain ⟨v, hb, _, _⟩ := h
  rw [blk_cell hb]; rfl
theorem RefR.spot {w : World} {base g : Nat} {bs : List UInt8} {p : Nat} {x : Int} (h : RefR w base g bs p x) : w.cell? ⟨g, 3, none⟩ = some (.int .i64 (whyAt x p)) := by
  obtain ⟨v, hb, _, _⟩ := h
  rw [blk_cell hb]; rfl
theorem RefR.bytes {w : World} {base g : Nat} {bs : List UInt8} {p : Nat} {x : Int} (h : RefR w base g bs p x) : ∃ A c, w.cell? ⟨g, 0, none⟩ = some (.slice A bs.length c) ∧ bs.length ≤ c ∧ c ≤ maxLen ∧ Rd w w.heap.size A (u8s bs) := by
  obtain ⟨v, hb, ho, _⟩ := h
  obtain ⟨A, c, rfl, h1, h2, h3⟩ := own_form ho
  exact ⟨A, c, by rw [blk_cell hb]; rfl, h1, h2, h3⟩
theorem RefR.free {w : World} {base g : Nat} {bs : List UInt8} {p : Nat} {x : Int} (h : RefR w base g bs p x) : w.frozen? ⟨g, 1, none⟩ = false := by
  obtain ⟨v, hb, _, _⟩ := h
  exact blk_frozen hb 1
theorem rNum_err {bs : List UInt8} {p n q : Nat} {x y : Int} (h : rNum bs p x = (n, q, y)) (hy : y ≠ 0) : n = 0 ∧ q = p ∧ (rPeek bs p x).2.2 = y := by
  unfold rNum at h
  simp only [Prod.mk.injEq] at h
  obtain ⟨h1, h2, h3⟩ := h
  have := rPeek_err bs p x (by rw [h3]; exact hy)
  omega
theorem rNum_ok {bs : List UInt8} {p n q : Nat} {x : Int} (h : rNum bs p x = (n, q, 0)) : (rPeek bs p x).1 = n ∧ p + (rPeek bs p x).2.1 = q ∧ (rPeek bs p x).2.2 = 0 := by
  unfold rNum at h
  simp only [Prod.mk.injEq] at h
  exact h
theorem u64_of {most : Int} (hm : I64 most) (h0 : 0 ≤ most) : IntKind.u64.wrap most = most := by
  obtain ⟨_, b⟩ := hm
  rw [IntKind.wrap_u64]
  omega

set_option maxHeartbeats 2000000 in
set_option maxRecDepth 4000 in
theorem refCount_any (base g : Nat) (bs : List UInt8) (p : Nat) (x most : Int) (w : World) (h : RefR w base g bs p x) (hp : p ≤ bs.length) (hl : bs.length ≤ 100000000) (hm : I64 most) :
    Calls Try.prog 39 #[.pointer (some ⟨g, 0, none⟩), .int .i64 most] w (RAfter base g bs (.int .i64 ((rCount bs p x most).1 : Int)) (rCount bs p x most).2.1 (rCount bs p x most).2.2 w) := by
  have h1 := h.at_
  rcases hN : rNum bs p x with ⟨n, q, y⟩
  have NM := hide (refNum_as h hp hl hN)
  have hu : U64 n := by have := @rNum_u bs p x; rw [hN] at this; exact this
  by_cases hy : y = 0
  · subst hy
    obtain ⟨k1, k2, k3⟩ := rNum_ok hN
    by_cases ha : most < 0 ∨ most < n
    · have e1 : rCount bs p x most = (0, p, 1) := by unfold rCount; rw [if_pos k3, k1, if_pos ha]
      have E1 := hide e1
      clear e1 k1 k2 k3 hN h
      by_cases h0 : most < 0
      · clear ha hm hu
        go_enter Try.func39, Try.ntmps39
        go_wp2_with (first
          | (go_at_call 31; refine NM.out.mono ?_; rintro e w1 ⟨rfl, hr1, hg1⟩; have HR1 := hide hr1; have HG1 := hide hg1; have k2 := hr1.err; clear hr1 hg1)
          | (go_at_call 41; refine (refFail_at HR1.out 1 (by decide) p).mono ?_; rintro e w2 ⟨rfl, hr2, hg2⟩))
        go_ret
        exact ⟨by rw [E1.out]; rfl, by rw [E1.out]; exact hr2, gb_trans HG1.out hg2 (.inl rfl)⟩
      · have hgt : IntKind.u64.wrap most < (n : Int) := by rw [u64_of hm (by omega)]; omega
        have h00 : 0 ≤ most := by omega
        clear ha hm hu
        go_enter Try.func39, Try.ntmps39
        go_wp2_with (first
          | (go_at_call 31; refine NM.out.mono ?_; rintro e w1 ⟨rfl, hr1, hg1⟩; have HR1 := hide hr1; have HG1 := hide hg1; have k2 := hr1.err; clear hr1 hg1)
          | (go_at_call 41; refine (refFail_at HR1.out 1 (by decide) p).mono ?_; rintro e w2 ⟨rfl, hr2, hg2⟩))
        go_ret
        exact ⟨by rw [E1.out]; rfl, by rw [E1.out]; exact hr2, gb_trans HG1.out hg2 (.inl rfl)⟩
    · have e1 : rCount bs p x most = (n, q, 0) := by unfold rCount; rw [if_pos k3, k1, if_neg ha, k2]
      have E1 := hide e1
      have h00 : 0 ≤ most := by omega
      have hle : (n : Int) ≤ IntKind.u64.wrap most := by rw [u64_of hm h00]; omega
      have E2 := hide (show wrap64 (n : Int) = n by obtain ⟨_, b⟩ := hm; unfold wrap64; omega)
      clear e1 k1 k2 k3 hN h ha hm hu
      go_enter Try.func39, Try.ntmps39
      go_wp2_with (go_at_call 31; refine NM.out.mono ?_; rintro e w1 ⟨rfl, hr1, hg1⟩; have HR1 := hide hr1; have HG1 := hide hg1; have k2 := hr1.err; clear hr1 hg1)
      go_ret
      exact ⟨by rw [E1.out]; exact ret_int E2.out, by rw [E1.out]; exact HR1.out, HG1.out⟩
  · obtain ⟨rfl, rfl, k3⟩ := rNum_err hN hy
    have e1 : rCount bs q x most = (0, q, y) := by unfold rCount; rw [if_neg (by rw [k3]; exact hy), k3]
    have E1 := hide e1
    have hb : (y == 0) = false := beq_eq_false_iff_ne.2 hy
    clear e1 k3 hN h hy hu hm
    go_enter Try.func39, Try.ntmps39
    go_wp2_with (go_at_call 31; refine NM.out.mono ?_; rintro e w1 ⟨rfl, hr1, hg1⟩; have HR1 := hide hr1; have HG1 := hide hg1; have k2 := hr1.err; clear hr1 hg1)
    go_ret
    exact ⟨by rw [E1.out]; rfl, by rw [E1.out]; exact HR1.out, HG1.out⟩

set_option maxHeartbeats 2000000 in
set_option maxRecDepth 4000 in
theorem refDone_any (base g : Nat) (bs : List UInt8) (p : Nat) (x : Int) (w : World) (h : RefR w base g bs p x) (hp : p ≤ bs.length) :
    Calls Try.prog 46 #[.pointer (some ⟨g, 0, none⟩)] w fun e w' => e = .returned (.int .i64 (rDone bs p x)) ∧ ∃ n, w' = w.drewN n := by
  have h1 := h.at_
  have h2 := h.err
  obtain ⟨A, c, h0, _, _, _⟩ := h.bytes
  clear h
  by_cases hx : x = 0
  · subst hx
    by_cases hlt : p < bs.length
    · have E1 := hide (show rDone bs p 0 = 4 by simp [rDone, hlt])
      go_enter Try.func46, Try.ntmps46
      go_wp2
      go_quiet (fail)
      go_wp2
      go_ret
      exact ⟨by rw [E1.out]; rfl, _, rfl⟩
    · have E1 := hide (show rDone bs p 0 = 0 by simp [rDone, hlt])
      have hb : decide ((p : Int) < (bs.length : Int)) = false := decide_eq_false (by omega)
      have hb2 : decide (p < bs.length) = false := decide_eq_false hlt
      go_enter Try.func46, Try.ntmps46
      go_wp2
      go_quiet (fail)
      go_wp2
      go_ret
      exact ⟨by rw [E1.out]; rfl, _, rfl⟩
  · have E1 := hide (show rDone bs p x = x by simp [rDone, hx])
    have hb : (x == 0) = false := beq_eq_false_iff_ne.2 hx
    clear hx
    go_enter Try.func46, Try.ntmps46
    go_wp2
    go_quiet (fail)
    go_wp2
    go_ret
    exact ⟨by rw [E1.out]; rfl, _, rfl⟩

end Go.Proofs.Ytdaefgkhimhpdaa
