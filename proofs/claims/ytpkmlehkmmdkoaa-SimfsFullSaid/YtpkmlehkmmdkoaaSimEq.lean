/-
  Whether two files are the same: bytes.Equal, sameWrite, sameChange.
-/
import Derived.Test.YtpkmlehkmmdkoaaSimY
import Derived.Test.YtpkmlehkmmdkoaaStr
namespace Go.Proofs.Ytpkmlehkmmdkoaa
open Go.RowKit

theorem str8 {w : World} {A : Option Addr} {n c B : Nat} {bs : List UInt8} (hr : Rd w B A (u8s bs)) (hn : n = bs.length) : (convert 32 9 (.slice A n c)).run Try.prog w = .ok (.string ⟨bs.toArray⟩) w := by
  subst hn
  exact run_string_of w 32 5 Try.underlying32 Try.underlying5 _ _ _ _ hr 9 Try.underlying9

set_option maxHeartbeats 1000000 in
theorem eq8_any (A A2 : Option Addr) (n c n2 c2 B B2 : Nat) (xs ys : List UInt8) (w : World) (h : Rd w B A (u8s xs)) (k : Rd w B2 A2 (u8s ys)) (hn : n = xs.length) (hn2 : n2 = ys.length) :
    Calls Try.prog 81 #[.slice A n c, .slice A2 n2 c2] w fun e w' => e = .returned (.bool (xs == ys)) ∧ w = w' := by
  have q1 := str8 (c := c) h hn
  have q2 := str8 (c := c2) k hn2
  clear h k hn hn2
  by_cases he : xs = ys
  · have hb : (xs == ys) = true := by rw [he]; simp
    have HB := hide hb
    clear he
    go_enter Try.func81, Try.ntmps81
    go_wp2
    go_ret
    exact ⟨by rw [HB.out]; rfl, rfl⟩
  · have hb : (xs == ys) = false := beq_eq_false_iff_ne.2 he
    have HB := hide hb
    clear he
    go_enter Try.func81, Try.ntmps81
    go_wp2
    go_ret
    exact ⟨by rw [HB.out]; rfl, rfl⟩

def wrEq (x y : Wr) : Bool := (x.cut == y.cut) && (x.pos == y.pos) && (x.p == y.p)
theorem wrEq_iff (x y : Wr) : wrEq x y = true ↔ x = y := by
  obtain ⟨a, b, c⟩ := x
  obtain ⟨a', b', c'⟩ := y
  simp [wrEq, and_assoc]

set_option maxHeartbeats 2000000 in
set_option maxRecDepth 100000 in
theorem sameWrite_any (x y : Wr) (vx vy : Value) (rd rd' : Nat → Prop) (w : World) (h : BsAt w rd vx x.p) (k : BsAt w rd' vy y.p) :
    Calls Try.prog 83 #[.agg #[.bool x.cut, .int .i64 (x.pos : Int), vx], .agg #[.bool y.cut, .int .i64 (y.pos : Int), vy]] w fun e w' => e = .returned (.bool (wrEq x y)) ∧ w.grownBy w' none := by
  obtain ⟨A1, c1, rfl, _, _, r1⟩ := h.rd
  obtain ⟨A2, c2, rfl, _, _, r2⟩ := k.rd
  have hg : w.grownBy ((w.alloc (.cells #[.bool x.cut, .int .i64 (x.pos : Int), .slice A1 x.p.length c1] 110)).alloc (.cells #[.bool y.cut, .int .i64 (y.pos : Int), .slice A2 y.p.length c2] 110)) none := gb_alloc (gb_alloc (gb_refl w none) _) _
  have HE := hide (eq8_any A1 A2 _ c1 _ c2 _ _ x.p y.p _ (r1.grown hg (Nat.le_refl _) (by simp)) (r2.grown hg (Nat.le_refl _) (by simp)) rfl rfl)
  have HG := hide hg
  clear h k r1 r2 hg
  by_cases e1 : x.cut = y.cut
  · have hc : (x.cut == y.cut) = true := by rw [e1]; simp
    by_cases e2 : x.pos = y.pos
    · have hp : ((x.pos : Int) == (y.pos : Int)) = true := by rw [e2]; simp
      have HQ := hide (show wrEq x y = (x.p == y.p) by unfold wrEq; rw [e1, e2]; simp)
      generalize (x.p == y.p) = b at *
      clear e1 e2
      go_enter Try.func83, Try.ntmps83
      go_wp2_with (go_at_call 81; refine HE.out.mono ?_; rintro e w1 ⟨rfl, rfl⟩)
      go_ret
      exact ⟨by rw [HQ.out]; rfl, HG.out⟩
    · have hp : ((x.pos : Int) == (y.pos : Int)) = false := beq_eq_false_iff_ne.2 (fun e => e2 (by omega))
      have HQ := hide (show wrEq x y = false by
        have : (x.pos == y.pos) = false := beq_eq_false_iff_ne.2 e2
        unfold wrEq; rw [this]; simp)
      clear e1 e2
      go_enter Try.func83, Try.ntmps83
      go_wp2
      go_ret
      exact ⟨by rw [HQ.out]; rfl, HG.out⟩
  · have hc : (x.cut == y.cut) = false := beq_eq_false_iff_ne.2 e1
    have HQ := hide (show wrEq x y = false by unfold wrEq; rw [hc]; simp)
    clear e1
    go_enter Try.func83, Try.ntmps83
    go_wp2
    go_ret
    exact ⟨by rw [HQ.out]; rfl, HG.out⟩

def chEq (x y : Ch) : Bool := decide (x.src = y.src) && decide (x.dst = y.dst)

set_option maxHeartbeats 2000000 in
set_option maxRecDepth 100000 in
theorem sameChange_any (x y : Ch) (w : World) :
    Calls Try.prog 36 #[.agg #[.string x.src, .string x.dst, .int .i64 (x.file : Int)], .agg #[.string y.src, .string y.dst, .int .i64 (y.file : Int)]] w fun e w' => e = .returned (.bool (chEq x y)) ∧ w.grownBy w' none := by
  have HG := hide (show w.grownBy ((w.alloc (.cells #[.string x.src, .string x.dst, .int .i64 (x.file : Int)] 78)).alloc (.cells #[.string y.src, .string y.dst, .int .i64 (y.file : Int)] 78)) none from gb_alloc (gb_alloc (gb_refl w none) _) _)
  by_cases e1 : x.src = y.src
  · have h1 := str_eq e1
    by_cases e2 : x.dst = y.dst
    · have h2 := str_eq e2
      have HQ := hide (show chEq x y = true by unfold chEq; simp [e1, e2])
      clear e1 e2
      go_enter Try.func36, Try.ntmps36
      go_wp2
      go_ret
      exact ⟨by rw [HQ.out]; rfl, HG.out⟩
    · have h2 := str_ne e2
      have HQ := hide (show chEq x y = false by unfold chEq; simp [e2])
      clear e1 e2
      go_enter Try.func36, Try.ntmps36
      go_wp2
      go_ret
      exact ⟨by rw [HQ.out]; rfl, HG.out⟩
  · have h1 := str_ne e1
    have HQ := hide (show chEq x y = false by unfold chEq; simp [e1])
    clear e1
    go_enter Try.func36, Try.ntmps36
    go_wp2
    go_ret
    exact ⟨by rw [HQ.out]; rfl, HG.out⟩

end Go.Proofs.Ytpkmlehkmmdkoaa
