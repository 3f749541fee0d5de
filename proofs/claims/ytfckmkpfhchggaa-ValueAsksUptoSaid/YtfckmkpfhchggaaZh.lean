/-
  What the two Ats answer of a good value; what the law ValueAsks asks besides.
-/
import Derived.Test.YtfckmkpfhchggaaZc
import Derived.Test.YtfckmkpfhchggaaZd
import Derived.Test.YtfckmkpfhchggaaXo
import Derived.Test.YtfckmkpfhchggaaWl
import Derived.Test.YtfckmkpfhchggaaWz
namespace Go.Proofs.Ytfckmkpfhchggaa
open Go.RowKit

theorem atomT_rAtom (t : Int) : atomT t = rAtom t := by
  unfold atomT rAtom hasN hasS
  by_cases h : t < 0
  · rw [decide_eq_true h]
    by_cases h5 : -5 ≤ t
    · have hc : t = -1 ∨ t = -2 ∨ t = -3 ∨ t = -4 ∨ t = -5 := by omega
      rcases hc with rfl | rfl | rfl | rfl | rfl <;> rfl
    · rw [decide_eq_false h5]
      simp only [Bool.and_false, Bool.and_eq_false_iff, Bool.or_eq_false_iff, beq_eq_false_iff_ne]
      right
      omega
  · rw [decide_eq_false h]; rfl
/-- Beside its places there is nothing. -/
theorem at_none {v : Vl} (hk : okV v) {i : Int} (hi : ¬ (0 ≤ i ∧ i < (v.count : Int))) : atF v.depth v i = none := by
  obtain ⟨h1, h2, h3, h4, h5⟩ := ok_own hk
  obtain ⟨p1, p2, p3, p4, p5, p6⟩ := plain_of h4
  obtain ⟨d, hde⟩ : ∃ d, v.depth = d + 1 := ⟨_, Vl.depth_def v⟩
  rw [hde]
  unfold atF
  by_cases h98 : v.t = 98
  · obtain ⟨q1, q2, q3, q4, q5, q6⟩ := tab_ok hk h98
    rw [if_pos h98, if_neg]
    intro hr
    obtain ⟨c, hc⟩ : ∃ c, c ∈ v.l := ⟨_, List.getElem_mem (show 0 < v.l.length by omega)⟩
    have := (rowB_iff _ _).1 hr v (by simp) c hc
    rw [(q6 c hc).2.2] at this
    exact hi this
  rw [if_neg h98]
  by_cases h99 : v.t = 99 ∧ v.l.length = 2
  · rw [if_pos h99]
    have hdic := p4 h99.1
    have hlab : ∃ a b, v.l = [a, b] := by
      have hl2 := h99.2
      match hl : v.l with
      | [] => rw [hl] at hl2; cases hl2
      | [_] => rw [hl] at hl2; cases hl2
      | _ :: _ :: _ :: _ => rw [hl] at hl2; simp at hl2
      | [a, b] => exact ⟨a, b, rfl⟩
    obtain ⟨a, b, hl⟩ := hlab
    have ha := ((okV_iff v).1 hk).2 a (by rw [hl]; simp)
    have hb := ((okV_iff v).1 hk).2 b (by rw [hl]; simp)
    have hcount : v.count = a.count := by rw [Vl.count_def, if_neg (by omega), if_neg (by omega), if_neg (by omega), if_pos (by omega), hl]; rfl
    have hbc : b.count = a.count := by
      unfold evenV evenL at h5
      rw [decide_eq_false (by omega), Bool.false_or, hl] at h5
      simp only [List.all_cons, List.all_nil, Vl.countH, Bool.and_true, Bool.and_eq_true, decide_eq_true_eq] at h5
      exact of_decide_eq_true h5.2
    unfold dicV at hdic
    rw [hl] at hdic
    simp only [Bool.or_eq_true, Bool.and_eq_true, decide_eq_true_eq] at hdic
    rcases hdic with ⟨c1, c2⟩ | ⟨c1, c2⟩
    · have hat : isTab a = false := by
        unfold isTab
        rw [beq_eq_false_iff_ne]
        intro e
        rw [e] at c1
        exact absurd c1 (by decide)
      rw [if_neg (by rw [hl]; simp [hat])]
      have hb98 : b.t ≠ 98 := fun e => by rw [e] at c2; exact absurd c2 (by decide)
      have hb99 : b.t ≠ 99 := fun e => by rw [e] at c2; exact absurd c2 (by decide)
      obtain ⟨d', rfl⟩ : ∃ d', d = d' + 1 := by
        have h7 := Vl.depth_lt (v := v) (x := b) (by rw [hl]; simp)
        have := Vl.depth_def b
        exact ⟨d - 1, by omega⟩
      rw [show v.l.getD 1 v = b by rw [hl]; rfl]
      unfold atF
      rw [if_neg hb98, if_neg (fun e => hb99 e.1), if_neg (by omega)]
    · rw [if_pos (by rw [hl]; simp [isTab, c1, c2]), if_neg]
      intro hr
      obtain ⟨q1, q2, q3, q4, q5, q6⟩ := tab_ok ha c1
      obtain ⟨c, hc⟩ : ∃ c, c ∈ a.l := ⟨_, List.getElem_mem (show 0 < a.l.length by omega)⟩
      have := (rowB_iff _ _).1 hr a (by rw [hl]; simp) c hc
      rw [(q6 c hc).2.2] at this
      exact hi (by omega)
  rw [if_neg h99, if_neg hi]
/-- What an At answers: the value (or none), and the error. -/
def AtU (y : Vl) (k : Int) (w : World) (e : Ending) (w' : World) : Prop := ∃ nA nc sA sc lA lc, e = .returned (.tuple #[.agg #[.int .i64 y.t, .slice nA y.n.length nc, .slice sA y.s.length sc, .slice lA y.l.length lc], .int .i64 k]) ∧ VB w' w'.heap.size y nA nc sA sc lA lc ∧ w.grownBy w' none
theorem VB.zero_ (w : World) (B : Nat) : VB w B (.mk 0 [] [] []) none 0 none 0 none 0 :=
  ⟨Rd.nil_, Rd.nil_, ⟨[], Rd.nil_, rfl⟩, Nat.le_refl _, Nat.le_refl _, Nat.le_refl _⟩
def atY (r : Option Vl) : Vl := match r with | some y => y | none => .mk 0 [] [] []
def atK (r : Option Vl) : Int := match r with | some _ => 0 | none => 33
theorem AtU.of_post {r : Option Vl} {w : World} {e : Ending} {w' : World} (h : AtPost r w e w') : AtU (atY r) (atK r) w e w' := by
  cases r with
  | none =>
    obtain ⟨rfl, hg⟩ := h
    exact ⟨none, 0, none, 0, none, 0, rfl, VB.zero_ _ _, hg⟩
  | some y =>
    obtain ⟨nA, nc, sA, sc, lA, lc, f, rfl, ho, hn, hg⟩ := h
    exact ⟨nA, nc, sA, sc, lA, lc, rfl, ho.vb, hg⟩
theorem atY_tot {v : Vl} (i : Int) (ht : v.tot ≤ 70000) : (atY (atF v.depth v i)).tot ≤ 1100000 := by
  cases h : atF v.depth v i with
  | none => show (Vl.mk 0 [] [] []).tot ≤ _; rw [Vl.tot_def]; decide
  | some y =>
    have := atF_tot _ _ _ _ h
    show y.tot ≤ _
    omega
theorem vAtU (v : Vl) (i : Int) (w : World) (B : Nat) (nA : Option Addr) (nc : Nat) (sA : Option Addr) (sc : Nat) (lA : Option Addr) (lc : Nat) (ht : v.tot ≤ 70000) (hB : B ≤ w.heap.size) (h : VB w B v nA nc sA sc lA lc) :
    Calls Try.prog 10 #[.agg #[.int .i64 v.t, .slice nA v.n.length nc, .slice sA v.s.length sc, .slice lA v.l.length lc], .int .i64 i] w (AtU (atY (atF v.depth v i)) (atK (atF v.depth v i)) w) :=
  (at_d v.depth v i w B nA nc sA sc lA lc (Nat.le_refl _) (by omega) hB h).mono fun _ _ h => AtU.of_post h
theorem rAtU (v : Vl) (hk : okV v) (i : Int) (w : World) (B : Nat) (nA : Option Addr) (nc : Nat) (sA : Option Addr) (sc : Nat) (lA : Option Addr) (lc : Nat) (ht : v.tot ≤ 70000) (hB : B ≤ w.heap.size) (h : VB w B v nA nc sA sc lA lc) :
    Calls Try.prog 11 #[.agg #[.int .i64 v.t, .slice nA v.n.length nc, .slice sA v.s.length sc, .slice lA v.l.length lc], .int .i64 i] w (AtU (atY (atF v.depth v i)) (atK (atF v.depth v i)) w) := by
  have h1 := rAt_any v i w B nA nc sA sc lA lc hk (by omega) hB h
  have h2 : (if 0 ≤ i ∧ i < (v.count : Int) then atF v.depth v i else none) = atF v.depth v i := by
    by_cases hi : 0 ≤ i ∧ i < (v.count : Int)
    · rw [if_pos hi]
    · rw [if_neg hi, at_none hk hi]
  rw [h2] at h1
  exact h1.mono fun _ _ h => AtU.of_post h
end Go.Proofs.Ytfckmkpfhchggaa
