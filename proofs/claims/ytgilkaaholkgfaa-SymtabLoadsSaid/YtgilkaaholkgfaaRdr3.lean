/-
  The contracts of octet.Reader's Byte, Count, Text, and of its methods on a nil Reader.
-/
import Derived.Test.YtgilkaaholkgfaaRdr2
namespace Go.Proofs.Ytgilkaaholkgfaa
open Go.RowKit

theorem ret_int {k : IntKind} {a b : Int} (h : a = b) : Ending.returned (.int k a) = .returned (.int k b) := by rw [h]

set_option maxHeartbeats 1000000 in
theorem above_yes (n : Nat) (most : Int) (w : World) (hm : I64 most) (h : most < 0 ∨ most < n) :
    Calls Try.prog 77 #[.int .u64 n, .int .i64 most] w fun e w' => e = .returned (.bool true) ∧ w = w' := by
  have HM := hide hm
  by_cases h0 : most < 0
  · clear h hm
    go_enter Try.func77, Try.ntmps77
    go_wp2
    go_ret
    exact ⟨rfl, rfl⟩
  · have h1 : most < n := by omega
    have e1 : IntKind.u64.wrap most = most := by obtain ⟨_, b⟩ := hm; rw [IntKind.wrap_u64]; omega
    have E1 := hide e1
    clear h e1 hm
    go_enter Try.func77, Try.ntmps77
    go_wp2
    go_ret
    exact ⟨by simp [E1.out, h1], rfl⟩

set_option maxHeartbeats 1000000 in
theorem above_no (n : Nat) (most : Int) (w : World) (hm : I64 most) (h : ¬ (most < 0 ∨ most < n)) :
    Calls Try.prog 77 #[.int .u64 n, .int .i64 most] w fun e w' => e = .returned (.bool false) ∧ w = w' := by
  have h0 : 0 ≤ most := by omega
  have h1 : n ≤ most := by omega
  have e1 : IntKind.u64.wrap most = most := by obtain ⟨_, b⟩ := hm; rw [IntKind.wrap_u64]; omega
  have E1 := hide e1
  clear h hm e1
  go_enter Try.func77, Try.ntmps77
  go_wp2
  go_ret
  exact ⟨by simp [E1.out, h0, h1], rfl⟩

theorem peek_as {base g : Nat} {bs : List UInt8} {p n s : Nat} {x y : Int} {w : World} (h : Rdr w base g bs p x) (hp : p ≤ bs.length) (hl : bs.length ≤ 100000000)
    (hn : (rPeek bs p x).1 = n) (hs : (rPeek bs p x).2.1 = s) (hy : (rPeek bs p x).2.2 = y) :
    Calls Try.prog 75 #[.pointer (some ⟨g, 0, none⟩)] w (After base g bs (.tuple #[.int .u64 (n : Int), .int .i64 (s : Int)]) p y w) := by
  have := peek_any base g bs p x w h hp hl
  rwa [hn, hs, hy] at this

/-- The string of a cut of what a reader reads. -/
theorem cut_string {w : World} {A : Option Addr} {B c k n : Nat} {bs : List UInt8} (hr : Rd w B A (u8s bs)) (hnc : bs.length ≤ c) (hk : k + n ≤ bs.length) (m : Nat) :
    (convert 22 9 (.slice (if c = k then A else A.map (fun x => x.add k)) n (c - k))).run Try.prog (w.drewN m) = .ok (.string ⟨((bs.drop k).take n).toArray⟩) (w.drewN m) := by
  have h1 := hr.cut (k := k) (cap := c) (by rw [u8s_length]; omega) (by rw [u8s_length]; exact hnc)
  have h2 := (h1.take n).drewN m
  rw [u8s_drop, u8s_take] at h2
  have h3 := run_string_of (P := Try.prog) (w.drewN m) 22 5 Try.underlying22 Try.underlying5 _ B (c - k) _ h2 9 Try.underlying9
  have e : ((bs.drop k).take n).length = n := by rw [List.length_take, List.length_drop]; omega
  rw [e] at h3
  exact h3

set_option maxHeartbeats 2000000 in
set_option maxRecDepth 100000 in
theorem text_ok (base g : Nat) (bs : List UInt8) (p n s : Nat) (x most : Int) (w : World) (h : Rdr w base g bs p x) (hp : p ≤ bs.length) (hl : bs.length ≤ 100000000) (hm : I64 most)
    (hn : (rPeek bs p x).1 = n) (hs : (rPeek bs p x).2.1 = s) (hx : (rPeek bs p x).2.2 = 0) (ha : ¬ (most < 0 ∨ most < n)) (hc : p + s + n ≤ bs.length) :
    Calls Try.prog 50 #[.pointer (some ⟨g, 0, none⟩), .int .i64 most] w (After base g bs (.string ⟨((bs.drop (p + s)).take n).toArray⟩) (p + s + n) 0 w) := by
  have PK := hide (peek_as h hp hl hn hs hx)
  have HA := hide ha
  clear hn hs hx ha h
  go_enter Try.func50, Try.ntmps50
  go_wp2_with (first
    | (go_at_call 75; refine PK.out.mono ?_; rintro e w2 ⟨rfl, hr2, hg2⟩; have HR := hide hr2; obtain ⟨v, hb2, ho2, hbg⟩ := hr2; have H2 := hide hb2; obtain ⟨A, c, rfl, hnc, hcm, hrd⟩ := own_form ho2; have HO := hide ho2; have h0 : w2.cell? ⟨g, 0, none⟩ = some (.slice A bs.length c) := (by rw [blk_cell hb2]; rfl); have h1 : w2.cell? ⟨g, 1, none⟩ = some (.int .i64 (p : Int)) := (by rw [blk_cell hb2]; rfl); have hcs := cut_string hrd hnc (k := p + s) (n := n) hc; clear hb2 ho2 hrd; unfold maxLen at hcm)
    | (go_at_call 76; refine (stopped_any _ _ _ _ _ H2.out).mono ?_; rintro e w' ⟨rfl, rfl⟩)
    | (go_at_call 77; refine (above_no _ _ _ hm HA.out).mono ?_; rintro e w' ⟨rfl, rfl⟩)
    | (go_at_call 79; refine (left_any _ _ _ _ _ _ HR.out hp hl).mono ?_; rintro e w3 ⟨rfl, m, rfl⟩)
    | (go_at_call 80; refine (skip_any g _ p (s + n) 0 _ (by exact H2.out) (by omega)).mono ?_; rintro e w4 ⟨rfl, hb4, hg4⟩))
  all_goals
    have hg5 : w2.grownBy w4 (some g) := ⟨hg4.os, hg4.tape, hg4.output, hg4.size, hg4.block⟩
    go_ret
    exact ⟨rfl, ⟨_, by rw [Nat.add_assoc]; exact hb4, HO.out.kept hg5 (.inr (own_ne HO.out H2.out (by decide))), hbg⟩, gb_trans hg2 hg5 (.inl rfl)⟩

set_option maxHeartbeats 1000000 in
set_option maxRecDepth 100000 in
theorem text_long (base g : Nat) (bs : List UInt8) (p n s : Nat) (x most : Int) (w : World) (h : Rdr w base g bs p x) (hp : p ≤ bs.length) (hl : bs.length ≤ 100000000) (hm : I64 most)
    (hn : (rPeek bs p x).1 = n) (hs : (rPeek bs p x).2.1 = s) (hx : (rPeek bs p x).2.2 = 0) (ha : most < 0 ∨ most < n) :
    Calls Try.prog 50 #[.pointer (some ⟨g, 0, none⟩), .int .i64 most] w (After base g bs (.string ⟨#[]⟩) p 1 w) := by
  have PK := hide (peek_as h hp hl hn hs hx)
  have HA := hide ha
  clear hn hs hx ha h
  go_enter Try.func50, Try.ntmps50
  go_wp2_with (first
    | (go_at_call 75; refine PK.out.mono ?_; rintro e w2 ⟨rfl, hr2, hg2⟩; obtain ⟨v, hb2, ho2, hbg⟩ := hr2; have H2 := hide hb2; have HO := hide ho2; clear hb2 ho2)
    | (go_at_call 76; refine (stopped_any _ _ _ _ _ H2.out).mono ?_; rintro e w' ⟨rfl, rfl⟩)
    | (go_at_call 77; refine (above_yes _ _ _ hm HA.out).mono ?_; rintro e w' ⟨rfl, rfl⟩)
    | (go_at_call 78; refine (fail_any _ _ _ _ _ _ H2.out).mono ?_; rintro e w4 ⟨rfl, hb4, hg4⟩))
  go_ret
  exact ⟨rfl, ⟨_, by simpa [rFail] using hb4, HO.out.kept hg4 (.inr (own_ne HO.out H2.out (by decide))), hbg⟩, gb_trans hg2 hg4 (.inl rfl)⟩

set_option maxHeartbeats 1000000 in
set_option maxRecDepth 100000 in
theorem text_short (base g : Nat) (bs : List UInt8) (p n s : Nat) (x most : Int) (w : World) (h : Rdr w base g bs p x) (hp : p ≤ bs.length) (hl : bs.length ≤ 100000000) (hm : I64 most)
    (hn : (rPeek bs p x).1 = n) (hs : (rPeek bs p x).2.1 = s) (hx : (rPeek bs p x).2.2 = 0) (ha : ¬ (most < 0 ∨ most < n)) (hc : bs.length - p - s < n) (hsz : p + s ≤ bs.length) :
    Calls Try.prog 50 #[.pointer (some ⟨g, 0, none⟩), .int .i64 most] w (After base g bs (.string ⟨#[]⟩) p 3 w) := by
  have PK := hide (peek_as h hp hl hn hs hx)
  have HA := hide ha
  clear hn hs hx ha h
  go_enter Try.func50, Try.ntmps50
  go_wp2_with (first
    | (go_at_call 75; refine PK.out.mono ?_; rintro e w2 ⟨rfl, hr2, hg2⟩; have HR := hide hr2; obtain ⟨v, hb2, ho2, hbg⟩ := hr2; have H2 := hide hb2; have HO := hide ho2; clear hb2 ho2)
    | (go_at_call 76; refine (stopped_any _ _ _ _ _ H2.out).mono ?_; rintro e w' ⟨rfl, rfl⟩)
    | (go_at_call 77; refine (above_no _ _ _ hm HA.out).mono ?_; rintro e w' ⟨rfl, rfl⟩)
    | (go_at_call 79; refine (left_any _ _ _ _ _ _ HR.out hp hl).mono ?_; rintro e w3 ⟨rfl, m, rfl⟩)
    | (go_at_call 78; refine (fail_any _ _ _ _ _ _ (by exact H2.out)).mono ?_; rintro e w4 ⟨rfl, hb4, hg4⟩))
  have hg5 : w2.grownBy w4 (some g) := ⟨hg4.os, hg4.tape, hg4.output, hg4.size, hg4.block⟩
  go_ret
  exact ⟨rfl, ⟨_, by simpa [rFail] using hb4, HO.out.kept hg5 (.inr (own_ne HO.out H2.out (by decide))), hbg⟩, gb_trans hg2 hg5 (.inl rfl)⟩

set_option maxHeartbeats 1000000 in
set_option maxRecDepth 100000 in
theorem text_err (base g : Nat) (bs : List UInt8) (p : Nat) (x y most : Int) (w : World) (h : Rdr w base g bs p x) (hp : p ≤ bs.length) (hl : bs.length ≤ 100000000)
    (hx : (rPeek bs p x).2.2 = y) (hy : y ≠ 0) :
    Calls Try.prog 50 #[.pointer (some ⟨g, 0, none⟩), .int .i64 most] w (After base g bs (.string ⟨#[]⟩) p y w) := by
  have PK := hide (peek_as h hp hl rfl rfl hx)
  have hb : (y != 0) = true := by simpa using hy
  clear hx h hy
  go_enter Try.func50, Try.ntmps50
  go_wp2_with (first
    | (go_at_call 75; refine PK.out.mono ?_; rintro e w2 ⟨rfl, hr2, hg2⟩; have HR := hide hr2; obtain ⟨v, hb2, ho2, hbg⟩ := hr2; have H2 := hide hb2; clear hb2)
    | (go_at_call 76; refine (stopped_any _ _ _ _ _ H2.out).mono ?_; rintro e w' ⟨rfl, rfl⟩))
  go_ret
  exact ⟨rfl, HR.out, hg2⟩

theorem text_any (base g : Nat) (bs : List UInt8) (p : Nat) (x most : Int) (w : World) (h : Rdr w base g bs p x) (hp : p ≤ bs.length) (hl : bs.length ≤ 100000000) (hm : I64 most) :
    Calls Try.prog 50 #[.pointer (some ⟨g, 0, none⟩), .int .i64 most] w (After base g bs (.string ⟨(rText bs p x most).1.toArray⟩) (rText bs p x most).2.1 (rText bs p x most).2.2 w) := by
  have hsz := rPeek_size bs p x hp
  by_cases hx : (rPeek bs p x).2.2 = 0
  · by_cases ha : most < 0 ∨ most < (rPeek bs p x).1
    · have e : rText bs p x most = ([], p, 1) := by unfold rText; rw [if_pos hx, if_pos ha]
      rw [e]
      exact text_long base g bs p _ _ x most w h hp hl hm rfl rfl hx ha
    · by_cases hc : bs.length - p - (rPeek bs p x).2.1 < (rPeek bs p x).1
      · have e : rText bs p x most = ([], p, 3) := by unfold rText; rw [if_pos hx, if_neg ha, if_pos hc]
        rw [e]
        exact text_short base g bs p _ _ x most w h hp hl hm rfl rfl hx ha hc hsz
      · have e : rText bs p x most = ((bs.drop (p + (rPeek bs p x).2.1)).take (rPeek bs p x).1, p + (rPeek bs p x).2.1 + (rPeek bs p x).1, 0) := by unfold rText; rw [if_pos hx, if_neg ha, if_neg hc]
        rw [e]
        exact text_ok base g bs p _ _ x most w h hp hl hm rfl rfl hx ha (by omega)
  · have e : rText bs p x most = ([], p, (rPeek bs p x).2.2) := by unfold rText; rw [if_neg hx]
    rw [e]
    exact text_err base g bs p x _ most w h hp hl rfl hx

/-! ## a nil Reader -/

set_option maxHeartbeats 1000000 in
theorem stopped_nil (w : World) : Calls Try.prog 76 #[.pointer none] w fun e w' => e = .returned (.bool true) ∧ w = w' := by
  go_enter Try.func76, Try.ntmps76
  go_wp2
  go_ret
  exact ⟨rfl, rfl⟩
set_option maxHeartbeats 1000000 in
theorem fail_nil (y : Int) (w : World) : Calls Try.prog 78 #[.pointer none, .int .i64 y] w fun e w' => e = .returned (.tuple #[]) ∧ w = w' := by
  go_enter Try.func78, Try.ntmps78
  go_wp2
  go_end0
  exact ⟨rfl, rfl⟩
set_option maxHeartbeats 1000000 in
theorem skip_nil (w : World) : Calls Try.prog 80 #[.pointer none, .int .i64 0] w fun e w' => e = .returned (.tuple #[]) ∧ w = w' := by
  go_enter Try.func80, Try.ntmps80
  go_wp2
  go_end0
  exact ⟨rfl, rfl⟩
set_option maxHeartbeats 1000000 in
theorem peek_nil (w : World) : Calls Try.prog 75 #[.pointer none] w fun e w' => e = .returned (.tuple #[.int .u64 0, .int .i64 0]) ∧ w = w' := by
  go_enter Try.func75, Try.ntmps75
  go_wp2_with (go_at_call 76; refine (stopped_nil _).mono ?_; rintro e w' ⟨rfl, rfl⟩)
  go_ret2
  exact ⟨rfl, rfl⟩
set_option maxHeartbeats 1000000 in
theorem text_nil (most : Int) (w : World) : Calls Try.prog 50 #[.pointer none, .int .i64 most] w fun e w' => e = .returned (.string ⟨#[]⟩) ∧ w = w' := by
  go_enter Try.func50, Try.ntmps50
  go_wp2_with (first | (go_at_call 75; refine (peek_nil _).mono ?_; rintro e w' ⟨rfl, rfl⟩) | (go_at_call 76; refine (stopped_nil _).mono ?_; rintro e w' ⟨rfl, rfl⟩))
  go_ret
  exact ⟨rfl, rfl⟩
set_option maxHeartbeats 1000000 in
theorem left_nil (w : World) : Calls Try.prog 79 #[.pointer none] w fun e w' => e = .returned (.int .i64 0) ∧ w = w' := by
  go_enter Try.func79, Try.ntmps79
  go_wp2
  go_ret
  exact ⟨rfl, rfl⟩
set_option maxHeartbeats 1000000 in
theorem why_nil (w : World) : Calls Try.prog 81 #[.pointer none] w fun e w' => e = .returned (.tuple #[.int .i64 0, .int .i64 0]) ∧ w = w' := by
  go_enter Try.func81, Try.ntmps81
  go_wp2
  go_ret2
  exact ⟨rfl, rfl⟩
set_option maxHeartbeats 1000000 in
theorem done_nil (w : World) : Calls Try.prog 51 #[.pointer none] w fun e w' => e = .returned (.int .i64 0) ∧ w = w' := by
  go_enter Try.func51, Try.ntmps51
  go_wp2_with (first | (go_at_call 81; refine (why_nil _).mono ?_; rintro e w' ⟨rfl, rfl⟩) | (go_at_call 79; refine (left_nil _).mono ?_; rintro e w' ⟨rfl, rfl⟩))
  go_ret
  exact ⟨rfl, rfl⟩

end Go.Proofs.Ytgilkaaholkgfaa
