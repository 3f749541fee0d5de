/-
  The document's own plain, of every type that may be.
-/
import Derived.Test.YtniliccobkhnlaaWv
import Derived.Test.YtniliccobkhnlaaWr
namespace Go.Proofs.Ytniliccobkhnlaa
open Go.RowKit

/-- A dictionary's parts. -/
def dicV (v : Vl) : Bool := match v.l with
  | [a, b] => (rCol a.t && rCol b.t) || (decide (a.t = 98) && decide (b.t = 98))
  | _ => false
/-- A lambda's text. -/
def lamS (x : ByteArray) : Bool := if h : 2 ≤ x.size then decide (x[0] = 123) && decide (x[x.size - 1] = 125) else false
def lamV (v : Vl) : Bool := match v.s with
  | [x] => lamS x
  | _ => false
/-- What stands in a value itself is as it must be. -/
def plainV (v : Vl) : Bool :=
  if rAtom v.t = true ∧ v.n.length + v.s.length ≠ 1 then false
  else if v.t = 0 then listV v else if v.t = 98 then tabV v else if v.t = 99 then dicV v else if v.t = 100 then lamV v
  else if rAbs v.t = 1 then bitsV v.n else if rAbs v.t = 3 then v.s.all symS else true
theorem rAtom_big {t : Int} (h : 0 ≤ t) : rAtom t = false := by unfold rAtom; rw [decide_eq_false (by omega)]; rfl
theorem rAbs_pos {t : Int} (h : 0 ≤ t) : rAbs t = t := by unfold rAbs; rw [if_neg (by omega)]
theorem lam_last {x : ByteArray} (h : 2 ≤ x.size) : ∃ m, x.size = m + 1 ∧ 1 ≤ m := ⟨x.size - 1, by omega, by omega⟩

/-- The fields are those of the type. -/
def fieldsOk (v : Vl) : Bool := (fieldsT v.t).2.2.2 && ((fieldsT v.t).1 || decide (v.n.length = 0)) && ((fieldsT v.t).2.1 || decide (v.s.length = 0)) && ((fieldsT v.t).2.2.1 || decide (v.l.length = 0))

theorem fieldsOk_num {v : Vl} (h : fieldsOk v = true) (hk : rAbs v.t = 1 ∨ rAbs v.t = 2 ∨ rAbs v.t = 4 ∨ rAbs v.t = 5) : v.s.length = 0 := by
  have h0 : v.t ≠ 0 := by
    intro e
    rw [e] at hk
    rcases hk with hk | hk | hk | hk <;> exact absurd hk (by decide)
  have hf : fieldsT v.t = (true, false, false, true) := by
    unfold fieldsT
    rw [if_neg (by omega), if_pos ⟨h0, by omega, by omega⟩]
  unfold fieldsOk at h
  rw [hf] at h
  simp only [Bool.and_eq_true, Bool.true_and, Bool.true_or, Bool.false_or, decide_eq_true_eq] at h
  exact h.1
theorem fieldsOk_nil {v : Vl} (h : fieldsOk v = true) (hk : v.t = 101) : v.s.length = 0 := by
  unfold fieldsOk at h
  rw [hk] at h
  have hf : fieldsT 101 = (false, false, false, true) := by decide
  rw [hf] at h
  simp only [Bool.and_eq_true, Bool.true_and, Bool.false_or, decide_eq_true_eq] at h
  exact h.1.2
theorem fieldsOk_cases {v : Vl} (h : fieldsOk v = true) : v.t = 0 ∨ v.t = 98 ∨ v.t = 99 ∨ v.t = 100 ∨ v.t = 101 ∨ (v.t ≠ 0 ∧ -5 ≤ v.t ∧ v.t ≤ 5) := by
  by_cases h1 : rAbs v.t = 3
  · have := rAbs_small h1 (by omega) (by omega)
    omega
  by_cases h2 : v.t ≠ 0 ∧ 1 ≤ rAbs v.t ∧ rAbs v.t ≤ 5
  · have := rAbs_small (t := v.t) rfl h2.2.1 h2.2.2
    omega
  unfold fieldsOk fieldsT at h
  rw [if_neg h1, if_neg h2] at h
  by_cases h3 : v.t = 0 ∨ v.t = 99
  · omega
  rw [if_neg h3] at h
  by_cases h4 : v.t = 98
  · omega
  rw [if_neg h4] at h
  by_cases h5 : v.t = 100
  · omega
  rw [if_neg h5] at h
  by_cases h6 : v.t = 101
  · omega
  simp [h6] at h

theorem rPlain_any (v : Vl) (w : World) (B : Nat) (nA : Option Addr) (nc : Nat) (sA : Option Addr) (sc : Nat) (lA : Option Addr) (lc : Nat) (ht : v.tot ≤ 1100000) (hsz : ∀ s ∈ v.s, s.size ≤ 1100000) (hf : fieldsOk v = true) (hB : B ≤ w.heap.size) (h : VB w B v nA nc sA sc lA lc) :
    Calls Try.prog 73 #[.agg #[.int .i64 v.t, .slice nA v.n.length nc, .slice sA v.s.length sc, .slice lA v.l.length lc]] w fun e w' => e = .returned (.bool (plainV v)) ∧ w.grownBy w' none := by
  by_cases hs : rAtom v.t = true ∧ v.n.length + v.s.length ≠ 1
  · have hp : plainV v = false := by unfold plainV; rw [if_pos hs]
    rw [hp]
    exact plain_sum v w B nA nc sA sc lA lc ht hsz hB h hs.1 hs.2
  by_cases h0 : v.t = 0
  · have hp : plainV v = listV v := by unfold plainV; rw [if_neg hs, if_pos h0]
    rw [hp]
    exact plain_list v w B nA nc sA sc lA lc ht hsz hB h h0
  by_cases h98 : v.t = 98
  · have hp : plainV v = tabV v := by unfold plainV; rw [if_neg hs, if_neg h0, if_pos h98]
    rw [hp]
    exact plain_table v w B nA nc sA sc lA lc ht hsz hB h h98
  by_cases h99 : v.t = 99
  · have hp : plainV v = dicV v := by unfold plainV; rw [if_neg hs, if_neg h0, if_neg h98, if_pos h99]
    rw [hp]
    by_cases hl2 : v.l.length = 2
    · obtain ⟨a, b, hl⟩ : ∃ a b, v.l = [a, b] := by
        match e : v.l, hl2 with
        | [a, b], _ => exact ⟨a, b, rfl⟩
      have hd : dicV v = ((rCol a.t && rCol b.t) || (decide (a.t = 98) && decide (b.t = 98))) := by unfold dicV; rw [hl]
      rw [hd]
      cases k0 : rCol a.t with
      | true =>
        cases k1 : rCol b.t with
        | true => exact plain_dictCC v w B nA nc sA sc lA lc ht hsz hB h h99 a b hl k0 k1
        | false =>
          by_cases t0 : a.t = 98
          · by_cases t1 : b.t = 98
            · rw [decide_eq_true t0, decide_eq_true t1]
              exact plain_dictCNTT v w B nA nc sA sc lA lc ht hsz hB h h99 a b hl k0 k1 t0 t1
            · rw [decide_eq_true t0, decide_eq_false t1]
              exact plain_dictCNTN v w B nA nc sA sc lA lc ht hsz hB h h99 a b hl k0 k1 t0 t1
          · rw [decide_eq_false t0]
            exact plain_dictCNNT v w B nA nc sA sc lA lc ht hsz hB h h99 a b hl k0 k1 t0
      | false =>
        by_cases t0 : a.t = 98
        · by_cases t1 : b.t = 98
          · rw [decide_eq_true t0, decide_eq_true t1]
            exact plain_dictNTT v w B nA nc sA sc lA lc ht hsz hB h h99 a b hl k0 t0 t1
          · rw [decide_eq_true t0, decide_eq_false t1]
            exact plain_dictNTN v w B nA nc sA sc lA lc ht hsz hB h h99 a b hl k0 t0 t1
        · rw [decide_eq_false t0]
          exact plain_dictNNT v w B nA nc sA sc lA lc ht hsz hB h h99 a b hl k0 t0
    · have hd : dicV v = false := by
        unfold dicV
        match e : v.l with
        | [] => rfl
        | [_] => rfl
        | [_, _] => rw [e] at hl2; simp at hl2
        | _ :: _ :: _ :: _ => rfl
      rw [hd]
      exact plain_dict0 v w B nA nc sA sc lA lc ht hsz hB h h99 hl2
  by_cases h100 : v.t = 100
  · have hp : plainV v = lamV v := by unfold plainV; rw [if_neg hs, if_neg h0, if_neg h98, if_neg h99, if_pos h100]
    rw [hp]
    by_cases hl1 : v.s.length = 1
    · obtain ⟨x, hx⟩ : ∃ x, v.s = [x] := List.length_eq_one_iff.1 hl1
      have hd : lamV v = lamS x := by unfold lamV; rw [hx]
      rw [hd]
      by_cases h2 : 2 ≤ x.size
      · have hq : lamS x = (decide (x[0] = 123) && decide (x[x.size - 1] = 125)) := by unfold lamS; rw [dif_pos h2]
        rw [hq]
        by_cases h3 : x[0] = 123
        · obtain ⟨m, hm, h1m⟩ := lam_last h2
          have hme : x[x.size - 1] = x[m] := by congr 1; omega
          rw [hme, decide_eq_true h3]
          by_cases h4 : x[m] = 125
          · rw [decide_eq_true h4]
            exact plain_lamOk v w B nA nc sA sc lA lc ht hsz hB h h100 x hx m hm h1m h3 h4
          · rw [decide_eq_false h4]
            exact plain_lamL v w B nA nc sA sc lA lc ht hsz hB h h100 x hx m hm h1m h3 h4
        · rw [decide_eq_false h3]
          exact plain_lamH v w B nA nc sA sc lA lc ht hsz hB h h100 x hx h2 h3
      · have hq : lamS x = false := by unfold lamS; rw [dif_neg h2]
        rw [hq]
        exact plain_lamS v w B nA nc sA sc lA lc ht hsz hB h h100 x hx (by omega)
    · have hd : lamV v = false := by
        unfold lamV
        match e : v.s with
        | [] => rfl
        | [_] => rw [e] at hl1; simp at hl1
        | _ :: _ :: _ => rfl
      rw [hd]
      exact plain_lam0 v w B nA nc sA sc lA lc ht hsz hB h h100 hl1
  have hp0 : plainV v = if rAbs v.t = 1 then bitsV v.n else if rAbs v.t = 3 then v.s.all symS else true := by
    unfold plainV
    rw [if_neg hs, if_neg h0, if_neg h98, if_neg h99, if_neg h100]
  have hc := fieldsOk_cases hf
  by_cases h101 : v.t = 101
  · have hp : plainV v = true := by
      rw [hp0, rAbs_pos (by omega), if_neg (by omega), if_neg (by omega)]
    rw [hp]
    exact plain_nil v w B nA nc sA sc lA lc ht hsz hB h h101 (fieldsOk_nil hf h101)
  have hb : v.t ≠ 0 ∧ -5 ≤ v.t ∧ v.t ≤ 5 := by omega
  have hra : 1 ≤ rAbs v.t ∧ rAbs v.t ≤ 5 := by unfold rAbs; split <;> omega
  cases hA : rAtom v.t with
  | true =>
    have hsum : v.n.length + v.s.length = 1 := by
      by_cases e : v.n.length + v.s.length = 1
      · exact e
      · exact absurd ⟨hA, e⟩ hs
    by_cases k1 : rAbs v.t = 1
    · rw [hp0, if_pos k1]
      exact plain_boolA v w B nA nc sA sc lA lc ht hsz hB h hA hsum k1 (fieldsOk_num hf (.inl k1))
    by_cases k3 : rAbs v.t = 3
    · rw [hp0, if_neg k1, if_pos k3]
      exact plain_symA v w B nA nc sA sc lA lc ht hsz hB h hA hsum k3
    rw [hp0, if_neg k1, if_neg k3]
    exact plain_numA v w B nA nc sA sc lA lc ht hsz hB h hA hsum (by omega) (fieldsOk_num hf (by omega))
  | false =>
    by_cases k1 : rAbs v.t = 1
    · rw [hp0, if_pos k1]
      exact plain_boolV v w B nA nc sA sc lA lc ht hsz hB h hA k1 (fieldsOk_num hf (.inl k1))
    by_cases k3 : rAbs v.t = 3
    · rw [hp0, if_neg k1, if_pos k3]
      exact plain_symV v w B nA nc sA sc lA lc ht hsz hB h hA k3
    rw [hp0, if_neg k1, if_neg k3]
    exact plain_numV v w B nA nc sA sc lA lc ht hsz hB h hA (by omega) (fieldsOk_num hf (by omega))
end Go.Proofs.Ytniliccobkhnlaa
