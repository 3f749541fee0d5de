/-
  value.Match.
-/
import Derived.Test.YtfdckhnhancbdaaVc
namespace Go.Proofs.Ytfdckhnhancbdaa
open Go.RowKit
attribute [local go_sem ↓] Go.wp_at_zero Go.wp_at_succ

theorem sames_false {l m : List Vl} (h : l ≠ m) : Vl.sames l m = false := by
  cases e : Vl.sames l m
  · rfl
  · exact absurd ((Vl.sames_eq l m).1 e) h

theorem Vl.same_def (a b : Vl) : Vl.same a b = (decide (a.t = b.t) && decide (a.n = b.n) && decide (a.s = b.s) && Vl.sames a.l b.l) := by
  cases a; cases b
  rw [Bool.eq_iff_iff]
  simp only [Vl.same, Vl.t, Vl.n, Vl.s, Vl.l, Bool.and_eq_true]
  exact ⟨fun ⟨⟨⟨a, b⟩, c⟩, d⟩ => ⟨⟨⟨decide_eq_true (of_decide_eq_true a), decide_eq_true (of_decide_eq_true b)⟩, decide_eq_true (of_decide_eq_true c)⟩, d⟩, fun ⟨⟨⟨a, b⟩, c⟩, d⟩ => ⟨⟨⟨decide_eq_true (of_decide_eq_true a), decide_eq_true (of_decide_eq_true b)⟩, decide_eq_true (of_decide_eq_true c)⟩, d⟩⟩
theorem int_beq_t {a b : Int} (h : a = b) : (a == b) = true := beq_iff_eq.2 h
theorem int_beq_f {a b : Int} (h : ¬ a = b) : (a == b) = false := beq_eq_false_iff_ne.2 h

theorem rMatch_any (a b : Vl) (w : World) (B : Nat) (nA : Option Addr) (nc : Nat) (sA : Option Addr) (sc : Nat) (lA : Option Addr) (lc : Nat) (nA' : Option Addr) (nc' : Nat) (sA' : Option Addr) (sc' : Nat) (lA' : Option Addr) (lc' : Nat) (ht : a.tot ≤ 1100000) (ht' : b.tot ≤ 1100000) (hB : B ≤ w.heap.size) (h : VB w B a nA nc sA sc lA lc) (h' : VB w B b nA' nc' sA' sc' lA' lc') :
    Calls Try.prog 22 #[.agg #[.int .i64 a.t, .slice nA a.n.length nc, .slice sA a.s.length sc, .slice lA a.l.length lc], .agg #[.int .i64 b.t, .slice nA' b.n.length nc', .slice sA' b.s.length sc', .slice lA' b.l.length lc']] w
      fun e w' => e = .returned (.bool (Vl.same a b)) ∧ w.grownBy w' none := rMatch_d a.depth a b w B nA nc sA sc lA lc nA' nc' sA' sc' lA' lc' (Nat.le_refl _) ht ht' hB h h'
end Go.Proofs.Ytfdckhnhancbdaa
