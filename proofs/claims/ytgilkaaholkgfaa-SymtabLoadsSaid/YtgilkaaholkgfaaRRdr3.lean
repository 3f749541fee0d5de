/-
  The contracts of the reference's reader: Count, Text, Done.
-/
import Derived.Test.YtgilkaaholkgfaaRRdr2
import Derived.Test.YtgilkaaholkgfaaRefF
namespace Go.Proofs.Ytgilkaaholkgfaa
open Go.RowKit

theorem refNum_as {w : World} {base g : Nat} {bs : List UInt8} {p n q : Nat} {x y : Int} (h : RefR w base g bs p x) (hp : p ≤ bs.length) (hl : bs.length ≤ 100000000) (hN : rNum bs p x = (n, q, y)) :
    Calls Try.prog 53 #[.pointer (some ⟨g, 0, none⟩)] w (RAfter base g bs (.int .u64 (n : Int)) q y w) := by
  have := refNum_any base g bs p x w h hp hl
  rwa [hN] at this
theorem RefR.err {w : World} {base g : Nat} {bs : List UInt8} {p : Nat} {x : Int} (h : RefR w base g bs p x) : w.cell? ⟨g, 2, none⟩ = some (.int .i64 x) := by
  obtain ⟨v, hb, _, _⟩ := h
  rw [blk_cell hb]; rfl
theorem RefR.at_ {w : World} {base g : Nat} {bs : List UInt8} {p : Nat} {x : Int} (h : RefR w base g bs p x) : w.cell? ⟨g, 1, none⟩ = some (.int .i64 (p : Int)) := by
  obtain ⟨v, hb, _, _⟩ := h
  rw [blk_cell hb]; rfl
theorem RefR.spot {w : World} {base g : Nat} {bs : List UInt8} {p : Nat} {x : Int} (h : RefR w base g bs p x) : w.cell? ⟨g, 3, none⟩ = some (.int .i64 (whyAt x p)) := by
  obtain ⟨v, hb, _, _⟩ := h
  rw [blk_cell hb]; rfl
theorem RefR.bytes {w : World} {base g : Nat} {bs : List UInt8} {p : Nat} {x : Int} (h : RefR w base g bs p x) : ∃ A c, w.cell? ⟨g, 0, none⟩ = some (.slice A bs.length c) ∧ bs.length ≤ c ∧ c ≤ maxLen ∧ Rd w w.heap.size A (u8s bs) := by
  obtain ⟨v, hb, ho, _⟩ := h
  obtain ⟨A, c, rfl, h1, h2, h3⟩ := own_form ho
  exact ⟨A, c, by rw [blk_cell hb]; rfl, h1, h2, h3⟩
theorem RefR.free {w : World} {base g : Nat} {bs : List UInt8} {p : Nat} {x : Int} (h : RefR w base g bs p x) : w.frozen? ⟨g, 1, none⟩ = false := by
  obtain ⟨v, hb, _, _⟩ := h
  exact blk_frozen hb 1
theorem rNum_err {bs : List UInt8} {p n q : Nat} {x y : Int} (h : rNum bs p x = (n, q, y)) (hy : y ≠ 0) : n = 0 ∧ q = p ∧ (rPeek bs p x).2.2 = y := by
  unfold rNum at h
  simp only [Prod.mk.injEq] at h
  obtain ⟨h1, h2, h3⟩ := h
  have := rPeek_err bs p x (by rw [h3]; exact hy)
  omega
theorem rNum_ok {bs : List UInt8} {p n q : Nat} {x : Int} (h : rNum bs p x = (n, q, 0)) : (rPeek bs p x).1 = n ∧ p + (rPeek bs p x).2.1 = q ∧ (rPeek bs p x).2.2 = 0 := by
  unfold rNum at h
  simp only [Prod.mk.injEq] at h
  exact h
theorem u64_of {most : Int} (hm : I64 most) (h0 : 0 ≤ most) : IntKind.u64.wrap most = most := by
  obtain ⟨_, b⟩ := hm
  rw [IntKind.wrap_u64]
  omega

set_option maxHeartbeats 2000000 in
set_option maxRecDepth 100000 in
theorem refDone_any (base g : Nat) (bs : List UInt8) (p : Nat) (x : Int) (w : World) (h : RefR w base g bs p x) (hp : p ≤ bs.length) :
    Calls Try.prog 32 #[.pointer (some ⟨g, 0, none⟩)] w fun e w' => e = .returned (.int .i64 (rDone bs p x)) ∧ ∃ n, w' = w.drewN n := by
  have h1 := h.at_
  have h2 := h.err
  obtain ⟨A, c, h0, _, _, _⟩ := h.bytes
  clear h
  by_cases hx : x = 0
  · subst hx
    by_cases hlt : p < bs.length
    · have E1 := hide (show rDone bs p 0 = 4 by simp [rDone, hlt])
      go_enter Try.func32, Try.ntmps32
      go_wp2
      go_quiet (fail)
      go_wp2
      go_ret
      exact ⟨by rw [E1.out]; rfl, _, rfl⟩
    · have E1 := hide (show rDone bs p 0 = 0 by simp [rDone, hlt])
      have hb : decide ((p : Int) < (bs.length : Int)) = false := decide_eq_false (by omega)
      have hb2 : decide (p < bs.length) = false := decide_eq_false hlt
      go_enter Try.func32, Try.ntmps32
      go_wp2
      go_quiet (fail)
      go_wp2
      go_ret
      exact ⟨by rw [E1.out]; rfl, _, rfl⟩
  · have E1 := hide (show rDone bs p x = x by simp [rDone, hx])
    have hb : (x == 0) = false := beq_eq_false_iff_ne.2 hx
    clear hx
    go_enter Try.func32, Try.ntmps32
    go_wp2
    go_quiet (fail)
    go_wp2
    go_ret
    exact ⟨by rw [E1.out]; rfl, _, rfl⟩

end Go.Proofs.Ytgilkaaholkgfaa
