/-
  The contracts of octet.Reader's peek, Num, Int, Byte, Count, At, Left, Why, Done.
-/
import Derived.Test.YtdaefgkhimhpdaaRdr
namespace Go.Proofs.Ytdaefgkhimhpdaa
open Go.RowKit

/-- The place that Why tells. -/
def whyAt (x : Int) (p : Nat) : Int := if x = 0 then 0 else (p : Int)

/-- What a method of a reader leaves: its answer, the reader's place and error. -/
def After (base g : Nat) (bs : List UInt8) (v : Value) (p : Nat) (x : Int) (w : World) (e : Ending) (w' : World) : Prop :=
  e = .returned v ∧ Rdr w' base g bs p x ∧ w.grownBy w' (some g)

set_option maxHeartbeats 1000000 in
set_option maxRecDepth 4000 in
theorem peek_any (base g : Nat) (bs : List UInt8) (p : Nat) (x : Int) (w : World) (h : Rdr w base g bs p x) (hp : p ≤ bs.length) (hl : bs.length ≤ 100000000) :
    Calls Try.prog 55 #[.pointer (some ⟨g, 0, none⟩)] w (After base g bs (.tuple #[.int .u64 ((rPeek bs p x).1 : Int), .int .i64 ((rPeek bs p x).2.1 : Int)]) p (rPeek bs p x).2.2 w) := by
  obtain ⟨v, hb, ho, hbg⟩ := h
  obtain ⟨A, c, rfl, hnc, hcm, hrd⟩ := own_form ho
  have h0 : w.cell? ⟨g, 0, none⟩ = some (.slice A bs.length c) := by rw [blk_cell hb]; rfl
  have h1 : w.cell? ⟨g, 1, none⟩ = some (.int .i64 (p : Int)) := by rw [blk_cell hb]; rfl
  have h2 : w.cell? ⟨g, 2, none⟩ = some (.int .i64 x) := by rw [blk_cell hb]; rfl
  have H := hide hb
  have HO := hide ho
  clear hb ho
  unfold maxLen at hcm
  by_cases hx : x = 0
  · subst hx
    have e1 : rPeek bs p 0 = ((parse (bs.drop p)).1, (parse (bs.drop p)).2.1, ((parse (bs.drop p)).2.2 : Int)) := by simp [rPeek]
    have E1 := hide e1
    clear e1
    have hcut := hrd.cut (k := p) (cap := c) (by rw [u8s_length]; exact hp) (by rw [u8s_length]; exact hnc)
    rw [u8s_drop] at hcut
    have hlen : (bs.drop p).length = bs.length - p := List.length_drop
    have HL := hide hlen
    clear hlen
    go_enter Try.func55, Try.ntmps55
    go_wp2_with (go_at_call 58; refine (stopped_any _ _ _ _ _ H.out).mono ?_; rintro e w' ⟨rfl, rfl⟩)
    go_quiet ((go_at_call 61; rw [← HL.out]; exact quiet_l (parseNum_any _ _ _ _ _ (hcut.drewN _) (by simp; omega))))
    go_wp2_with (go_at_call 40; refine (fail_any _ _ _ _ _ _ (by exact H.out)).mono ?_; rintro e w2 ⟨rfl, hb2, hg2⟩)
    all_goals
      have hg3 : w.grownBy w2 (some g) := ⟨hg2.os, hg2.tape, hg2.output, hg2.size, hg2.block⟩
      go_ret2
      exact ⟨by rw [E1.out]; rfl, ⟨_, by rw [E1.out]; simpa [rFail] using hb2, HO.out.kept hg3 (.inr (own_ne HO.out H.out (by decide))), hbg⟩, hg3⟩
  · have e1 : rPeek bs p x = (0, 0, x) := by simp [rPeek, hx]
    have E1 := hide e1
    have hb : (x != 0) = true := by simpa using hx
    clear e1 hx
    go_enter Try.func55, Try.ntmps55
    go_wp2_with (go_at_call 58; refine (stopped_any _ _ _ _ _ H.out).mono ?_; rintro e w' ⟨rfl, rfl⟩)
    go_ret2
    exact ⟨by rw [E1.out]; rfl, ⟨_, by rw [E1.out]; exact H.out, HO.out, hbg⟩, gb_refl _ _⟩

set_option maxHeartbeats 1000000 in
set_option maxRecDepth 4000 in
theorem num_any (base g : Nat) (bs : List UInt8) (p : Nat) (x : Int) (w : World) (h : Rdr w base g bs p x) (hp : p ≤ bs.length) (hl : bs.length ≤ 100000000) :
    Calls Try.prog 30 #[.pointer (some ⟨g, 0, none⟩)] w (After base g bs (.int .u64 ((rNum bs p x).1 : Int)) (rNum bs p x).2.1 (rNum bs p x).2.2 w) := by
  have hsz := rPeek_size bs p x hp
  go_enter Try.func30, Try.ntmps30
  go_wp2_with (first
    | (go_at_call 55; refine (peek_any _ _ _ _ _ _ h hp hl).mono ?_; rintro e w2 ⟨rfl, hr2, hg2⟩; obtain ⟨v, hb2, ho2, hbg⟩ := hr2; have H2 := hide hb2; clear hb2)
    | (go_at_call 56; refine (skip_any _ _ _ _ _ _ H2.out (by omega)).mono ?_; rintro e w3 ⟨rfl, hb3, hg3⟩))
  go_ret
  exact ⟨rfl, ⟨v, hb3, ho2.kept hg3 (.inr (own_ne ho2 H2.out (by decide))), hbg⟩, gb_trans hg2 hg3 (.inl rfl)⟩

set_option maxHeartbeats 1000000 in
set_option maxRecDepth 4000 in
theorem int_any (base g : Nat) (bs : List UInt8) (p : Nat) (x : Int) (w : World) (h : Rdr w base g bs p x) (hp : p ≤ bs.length) (hl : bs.length ≤ 100000000) :
    Calls Try.prog 32 #[.pointer (some ⟨g, 0, none⟩)] w (After base g bs (.int .i64 (unzig (rNum bs p x).1)) (rNum bs p x).2.1 (rNum bs p x).2.2 w) := by
  have hu : U64 (rNum bs p x).1 := by have := rPeek_lt bs p x; unfold U64; show (rPeek bs p x).1 ≤ _; omega
  go_enter Try.func32, Try.ntmps32
  go_wp2_with (first
    | (go_at_call 30; refine (num_any _ _ _ _ _ _ h hp hl).mono ?_; rintro e w2 ⟨rfl, hr2, hg2⟩)
    | (go_at_call 57; refine (unfold_any _ _ hu).mono ?_; rintro e w3 ⟨rfl, rfl⟩))
  go_ret
  exact ⟨rfl, hr2, hg2⟩

set_option maxHeartbeats 1000000 in
set_option maxRecDepth 4000 in
theorem left_any (base g : Nat) (bs : List UInt8) (p : Nat) (x : Int) (w : World) (h : Rdr w base g bs p x) (hp : p ≤ bs.length) (hl : bs.length ≤ 100000000) :
    Calls Try.prog 44 #[.pointer (some ⟨g, 0, none⟩)] w fun e w' => e = .returned (.int .i64 (((bs.length - p : Nat)) : Int)) ∧ ∃ n, w' = w.drewN n := by
  obtain ⟨v, hb, ho, hbg⟩ := h
  obtain ⟨A, c, rfl, hnc, hcm, hrd⟩ := own_form ho
  have h0 : w.cell? ⟨g, 0, none⟩ = some (.slice A bs.length c) := by rw [blk_cell hb]; rfl
  have h1 : w.cell? ⟨g, 1, none⟩ = some (.int .i64 (p : Int)) := by rw [blk_cell hb]; rfl
  clear hb ho hrd
  go_enter Try.func44, Try.ntmps44
  go_wp2
  go_quiet (fail)
  go_wp2
  go_ret
  exact ⟨by rw [show ((bs.length - p : Nat) : Int) = (bs.length : Int) - (p : Int) by omega]; rfl, _, rfl⟩

set_option maxHeartbeats 1000000 in
set_option maxRecDepth 4000 in
theorem at_any (base g : Nat) (bs : List UInt8) (p : Nat) (x : Int) (w : World) (h : Rdr w base g bs p x) :
    Calls Try.prog 43 #[.pointer (some ⟨g, 0, none⟩)] w fun e w' => e = .returned (.int .i64 (p : Int)) ∧ w = w' := by
  obtain ⟨v, hb, ho, hbg⟩ := h
  have h1 : w.cell? ⟨g, 1, none⟩ = some (.int .i64 (p : Int)) := by rw [blk_cell hb]; rfl
  clear hb ho
  go_enter Try.func43, Try.ntmps43
  go_wp2
  go_ret
  exact ⟨rfl, rfl⟩

set_option maxHeartbeats 1000000 in
set_option maxRecDepth 4000 in
theorem why_any (base g : Nat) (bs : List UInt8) (p : Nat) (x : Int) (w : World) (h : Rdr w base g bs p x) :
    Calls Try.prog 42 #[.pointer (some ⟨g, 0, none⟩)] w fun e w' => e = .returned (.tuple #[.int .i64 x, .int .i64 (whyAt x p)]) ∧ ∃ n, w' = w.drewN n := by
  obtain ⟨v, hb, ho, hbg⟩ := h
  have h1 : w.cell? ⟨g, 1, none⟩ = some (.int .i64 (p : Int)) := by rw [blk_cell hb]; rfl
  have h2 : w.cell? ⟨g, 2, none⟩ = some (.int .i64 x) := by rw [blk_cell hb]; rfl
  clear hb ho
  by_cases hx : x = 0
  · subst hx
    go_enter Try.func42, Try.ntmps42
    go_wp2
    go_ret2
    exact ⟨rfl, 0, rfl⟩
  · have e1 : whyAt x p = p := if_neg hx
    have E1 := hide e1
    have hb : (x == 0) = false := by simpa using hx
    clear e1 hx
    go_enter Try.func42, Try.ntmps42
    go_wp2
    go_quiet (fail)
    go_wp2
    go_ret2
    exact ⟨by rw [E1.out]; rfl, _, rfl⟩

set_option maxHeartbeats 1000000 in
set_option maxRecDepth 4000 in
theorem done_any (base g : Nat) (bs : List UInt8) (p : Nat) (x : Int) (w : World) (h : Rdr w base g bs p x) (hp : p ≤ bs.length) (hl : bs.length ≤ 100000000) :
    Calls Try.prog 45 #[.pointer (some ⟨g, 0, none⟩)] w fun e w' => e = .returned (.int .i64 (rDone bs p x)) ∧ ∃ n, w' = w.drewN n := by
  by_cases hx : x = 0
  · subst hx
    by_cases hlt : p < bs.length
    · have e1 : rDone bs p 0 = 4 := by simp [rDone, hlt]
      have E1 := hide e1
      clear e1
      go_enter Try.func45, Try.ntmps45
      go_wp2_with (first
        | (go_at_call 42; refine (why_any _ _ _ _ _ _ h).mono ?_; rintro e w2 ⟨rfl, n, rfl⟩)
        | (go_at_call 44; refine (left_any _ _ _ _ _ _ (h.drewN _) hp hl).mono ?_; rintro e w3 ⟨rfl, m, rfl⟩))
      go_ret
      exact ⟨by rw [E1.out]; rfl, _, rfl⟩
    · have e1 : rDone bs p 0 = 0 := by simp [rDone, hlt]
      have E1 := hide e1
      have hlz : bs.length - p < 1 := by omega
      clear e1
      go_enter Try.func45, Try.ntmps45
      go_wp2_with (first
        | (go_at_call 42; refine (why_any _ _ _ _ _ _ h).mono ?_; rintro e w2 ⟨rfl, n, rfl⟩)
        | (go_at_call 44; refine (left_any _ _ _ _ _ _ (h.drewN _) hp hl).mono ?_; rintro e w3 ⟨rfl, m, rfl⟩))
      go_ret
      exact ⟨by rw [E1.out]; rfl, _, rfl⟩
  · have e1 : rDone bs p x = x := by simp [rDone, hx]
    have E1 := hide e1
    have hb : (x == 0) = false := by simpa using hx
    clear e1 hx
    go_enter Try.func45, Try.ntmps45
    go_wp2_with (first
      | (go_at_call 42; refine (why_any _ _ _ _ _ _ h).mono ?_; rintro e w2 ⟨rfl, n, rfl⟩)
      | (go_at_call 44; refine (left_any _ _ _ _ _ _ (h.drewN _) hp hl).mono ?_; rintro e w3 ⟨rfl, m, rfl⟩))
    go_ret
    exact ⟨by rw [E1.out]; rfl, _, rfl⟩

end Go.Proofs.Ytdaefgkhimhpdaa
