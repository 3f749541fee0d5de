/-
  The contracts of octet.Reader's peek, Num, Int, Byte, Count, At, Left, Why, Done.
-/
import Derived.Test.YtgilkaaholkgfaaRdr
namespace Go.Proofs.Ytgilkaaholkgfaa
open Go.RowKit

/-- The place that Why tells. -/
def whyAt (x : Int) (p : Nat) : Int := if x = 0 then 0 else (p : Int)

/-- What a method of a reader leaves: its answer, the reader's place and error. -/
def After (base g : Nat) (bs : List UInt8) (v : Value) (p : Nat) (x : Int) (w : World) (e : Ending) (w' : World) : Prop :=
  e = .returned v ∧ Rdr w' base g bs p x ∧ w.grownBy w' (some g)

set_option maxHeartbeats 1000000 in
set_option maxRecDepth 100000 in
theorem peek_any (base g : Nat) (bs : List UInt8) (p : Nat) (x : Int) (w : World) (h : Rdr w base g bs p x) (hp : p ≤ bs.length) (hl : bs.length ≤ 100000000) :
    Calls Try.prog 75 #[.pointer (some ⟨g, 0, none⟩)] w (After base g bs (.tuple #[.int .u64 ((rPeek bs p x).1 : Int), .int .i64 ((rPeek bs p x).2.1 : Int)]) p (rPeek bs p x).2.2 w) := by
  obtain ⟨v, hb, ho, hbg⟩ := h
  obtain ⟨A, c, rfl, hnc, hcm, hrd⟩ := own_form ho
  have h0 : w.cell? ⟨g, 0, none⟩ = some (.slice A bs.length c) := by rw [blk_cell hb]; rfl
  have h1 : w.cell? ⟨g, 1, none⟩ = some (.int .i64 (p : Int)) := by rw [blk_cell hb]; rfl
  have h2 : w.cell? ⟨g, 2, none⟩ = some (.int .i64 x) := by rw [blk_cell hb]; rfl
  have H := hide hb
  have HO := hide ho
  clear hb ho
  unfold maxLen at hcm
  by_cases hx : x = 0
  · subst hx
    have e1 : rPeek bs p 0 = ((parse (bs.drop p)).1, (parse (bs.drop p)).2.1, ((parse (bs.drop p)).2.2 : Int)) := by simp [rPeek]
    have E1 := hide e1
    clear e1
    have hcut := hrd.cut (k := p) (cap := c) (by rw [u8s_length]; exact hp) (by rw [u8s_length]; exact hnc)
    rw [u8s_drop] at hcut
    have hlen : (bs.drop p).length = bs.length - p := List.length_drop
    have HL := hide hlen
    clear hlen
    go_enter Try.func75, Try.ntmps75
    go_wp2_with (go_at_call 76; refine (stopped_any _ _ _ _ _ H.out).mono ?_; rintro e w' ⟨rfl, rfl⟩)
    go_quiet ((go_at_call 99; rw [← HL.out]; exact quiet_l (parseNum_any _ _ _ _ _ (hcut.drewN _) (by simp; omega))))
    go_wp2_with (go_at_call 78; refine (fail_any _ _ _ _ _ _ (by exact H.out)).mono ?_; rintro e w2 ⟨rfl, hb2, hg2⟩)
    all_goals
      have hg3 : w.grownBy w2 (some g) := ⟨hg2.os, hg2.tape, hg2.output, hg2.size, hg2.block⟩
      go_ret2
      exact ⟨by rw [E1.out]; rfl, ⟨_, by rw [E1.out]; simpa [rFail] using hb2, HO.out.kept hg3 (.inr (own_ne HO.out H.out (by decide))), hbg⟩, hg3⟩
  · have e1 : rPeek bs p x = (0, 0, x) := by simp [rPeek, hx]
    have E1 := hide e1
    have hb : (x != 0) = true := by simpa using hx
    clear e1 hx
    go_enter Try.func75, Try.ntmps75
    go_wp2_with (go_at_call 76; refine (stopped_any _ _ _ _ _ H.out).mono ?_; rintro e w' ⟨rfl, rfl⟩)
    go_ret2
    exact ⟨by rw [E1.out]; rfl, ⟨_, by rw [E1.out]; exact H.out, HO.out, hbg⟩, gb_refl _ _⟩

set_option maxHeartbeats 1000000 in
set_option maxRecDepth 100000 in
theorem left_any (base g : Nat) (bs : List UInt8) (p : Nat) (x : Int) (w : World) (h : Rdr w base g bs p x) (hp : p ≤ bs.length) (hl : bs.length ≤ 100000000) :
    Calls Try.prog 79 #[.pointer (some ⟨g, 0, none⟩)] w fun e w' => e = .returned (.int .i64 (((bs.length - p : Nat)) : Int)) ∧ ∃ n, w' = w.drewN n := by
  obtain ⟨v, hb, ho, hbg⟩ := h
  obtain ⟨A, c, rfl, hnc, hcm, hrd⟩ := own_form ho
  have h0 : w.cell? ⟨g, 0, none⟩ = some (.slice A bs.length c) := by rw [blk_cell hb]; rfl
  have h1 : w.cell? ⟨g, 1, none⟩ = some (.int .i64 (p : Int)) := by rw [blk_cell hb]; rfl
  clear hb ho hrd
  go_enter Try.func79, Try.ntmps79
  go_wp2
  go_quiet (fail)
  go_wp2
  go_ret
  exact ⟨by rw [show ((bs.length - p : Nat) : Int) = (bs.length : Int) - (p : Int) by omega]; rfl, _, rfl⟩

set_option maxHeartbeats 1000000 in
set_option maxRecDepth 100000 in
theorem why_any (base g : Nat) (bs : List UInt8) (p : Nat) (x : Int) (w : World) (h : Rdr w base g bs p x) :
    Calls Try.prog 81 #[.pointer (some ⟨g, 0, none⟩)] w fun e w' => e = .returned (.tuple #[.int .i64 x, .int .i64 (whyAt x p)]) ∧ ∃ n, w' = w.drewN n := by
  obtain ⟨v, hb, ho, hbg⟩ := h
  have h1 : w.cell? ⟨g, 1, none⟩ = some (.int .i64 (p : Int)) := by rw [blk_cell hb]; rfl
  have h2 : w.cell? ⟨g, 2, none⟩ = some (.int .i64 x) := by rw [blk_cell hb]; rfl
  clear hb ho
  by_cases hx : x = 0
  · subst hx
    go_enter Try.func81, Try.ntmps81
    go_wp2
    go_ret2
    exact ⟨rfl, 0, rfl⟩
  · have e1 : whyAt x p = p := if_neg hx
    have E1 := hide e1
    have hb : (x == 0) = false := by simpa using hx
    clear e1 hx
    go_enter Try.func81, Try.ntmps81
    go_wp2
    go_quiet (fail)
    go_wp2
    go_ret2
    exact ⟨by rw [E1.out]; rfl, _, rfl⟩

set_option maxHeartbeats 1000000 in
set_option maxRecDepth 100000 in
theorem done_any (base g : Nat) (bs : List UInt8) (p : Nat) (x : Int) (w : World) (h : Rdr w base g bs p x) (hp : p ≤ bs.length) (hl : bs.length ≤ 100000000) :
    Calls Try.prog 51 #[.pointer (some ⟨g, 0, none⟩)] w fun e w' => e = .returned (.int .i64 (rDone bs p x)) ∧ ∃ n, w' = w.drewN n := by
  by_cases hx : x = 0
  · subst hx
    by_cases hlt : p < bs.length
    · have e1 : rDone bs p 0 = 4 := by simp [rDone, hlt]
      have E1 := hide e1
      clear e1
      go_enter Try.func51, Try.ntmps51
      go_wp2_with (first
        | (go_at_call 81; refine (why_any _ _ _ _ _ _ h).mono ?_; rintro e w2 ⟨rfl, n, rfl⟩)
        | (go_at_call 79; refine (left_any _ _ _ _ _ _ (h.drewN _) hp hl).mono ?_; rintro e w3 ⟨rfl, m, rfl⟩))
      go_ret
      exact ⟨by rw [E1.out]; rfl, _, rfl⟩
    · have e1 : rDone bs p 0 = 0 := by simp [rDone, hlt]
      have E1 := hide e1
      have hlz : bs.length - p < 1 := by omega
      clear e1
      go_enter Try.func51, Try.ntmps51
      go_wp2_with (first
        | (go_at_call 81; refine (why_any _ _ _ _ _ _ h).mono ?_; rintro e w2 ⟨rfl, n, rfl⟩)
        | (go_at_call 79; refine (left_any _ _ _ _ _ _ (h.drewN _) hp hl).mono ?_; rintro e w3 ⟨rfl, m, rfl⟩))
      go_ret
      exact ⟨by rw [E1.out]; rfl, _, rfl⟩
  · have e1 : rDone bs p x = x := by simp [rDone, hx]
    have E1 := hide e1
    have hb : (x == 0) = false := by simpa using hx
    clear e1 hx
    go_enter Try.func51, Try.ntmps51
    go_wp2_with (first
      | (go_at_call 81; refine (why_any _ _ _ _ _ _ h).mono ?_; rintro e w2 ⟨rfl, n, rfl⟩)
      | (go_at_call 79; refine (left_any _ _ _ _ _ _ (h.drewN _) hp hl).mono ?_; rintro e w3 ⟨rfl, m, rfl⟩))
    go_ret
    exact ⟨by rw [E1.out]; rfl, _, rfl⟩

end Go.Proofs.Ytgilkaaholkgfaa
