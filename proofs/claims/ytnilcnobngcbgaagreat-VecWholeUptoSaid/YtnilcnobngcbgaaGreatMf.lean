/-
  PROVED: whatever v is, of bulk at most 1048576, and whatever n: where v keeps the document's rules, is a vector or a list, and n is 0 .. its count, Join of Take(n, v) and Drop(n, v) is v, Reverse of Reverse is v, Index at 0 .. count-1 is v, each with an error of 0 (P7.12, without the document's answer); the law returns true and leaves its arguments as they were. Condition: what the law reads is of bulk at most 1048576.
-/
import Derived.Test.YtnilcnobngcbgaaGreatMe
import Derived.Test.YtnilcnobngcbgaaGreatMd
import Derived.Test.YtnilcnobngcbgaaGreatMb
import Derived.Test.YtnilcnobngcbgaaGreatWo

namespace Go.Proofs.YtnilcnobngcbgaaGreat
open Go.RowKit

theorem own_parts {v : Vl} (h : ownV v = 0) : fieldsOk v = true ∧ manyV v = false ∧ tooLongV v = false ∧ plainV v = true ∧ evenV v = true := by
  unfold ownV at h
  by_cases h1 : fieldsOk v = false
  · rw [if_pos h1] at h; cases h
  rw [if_neg h1] at h
  by_cases h2 : manyV v = true
  · rw [if_pos h2] at h; cases h
  rw [if_neg h2] at h
  by_cases h3 : tooLongV v = true
  · rw [if_pos h3] at h; cases h
  rw [if_neg h3] at h
  by_cases h4 : plainV v = false
  · rw [if_pos h4] at h; cases h
  rw [if_neg h4] at h
  by_cases h5 : evenV v = false
  · rw [if_pos h5] at h; cases h
  exact ⟨by simpa using h1, by simpa using h2, by simpa using h3, by simpa using h4, by simpa using h5⟩
theorem atom_same (t : Int) : atomT t = rAtom t := by
  by_cases h : t < 0
  · by_cases h2 : -5 ≤ t
    · have : t = -1 ∨ t = -2 ∨ t = -3 ∨ t = -4 ∨ t = -5 := by omega
      rcases this with rfl | rfl | rfl | rfl | rfl <;> rfl
    · have e : ∀ k : Int, -5 ≤ k → (t == k) = false := fun k hk => by rw [beq_eq_false_iff_ne]; omega
      have e2 : atomT t = false := by
        unfold atomT hasN hasS
        rw [e 1 (by decide), e 2 (by decide), e 4 (by decide), e 5 (by decide), e (-1) (by decide), e (-2) (by decide), e (-4) (by decide), e (-5) (by decide), e 3 (by decide), e (-3) (by decide)]
        simp
      rw [e2]
      unfold rAtom
      simp [h2]
  · unfold atomT rAtom
    simp [h]
theorem unif_list {l : List Vl} (h : alikeV l (headT l) l.length = false) : unif l = false := by
  cases l with
  | nil => rfl
  | cons a r =>
    rw [Bool.eq_false_iff] at h ⊢
    intro hu
    apply h
    unfold unif at hu
    rw [Bool.and_eq_true] at hu
    unfold alikeV
    rw [List.take_length, Bool.and_eq_true]
    refine ⟨by simp, List.all_eq_true.2 fun x hx => ?_⟩
    have hxt : x.t = a.t := by
      rcases List.mem_cons.1 hx with rfl | hx
      · rfl
      · exact eq_of_beq (List.all_eq_true.1 hu.2 x hx)
    rw [hxt, ← atom_same, hu.1]
    simp [headT]
theorem plain_of {v : Vl} (h : plainV v = true) : (rAtom v.t = true → v.n.length + v.s.length = 1) ∧ (v.t = 0 → listV v = true) ∧ (v.t = 98 → tabV v = true) ∧ (v.t = 99 → dicV v = true) ∧ (rAbs v.t = 1 → bitsV v.n = true) ∧ (rAbs v.t = 3 → v.s.all symS = true) := by
  unfold plainV at h
  by_cases ha : rAtom v.t = true ∧ v.n.length + v.s.length ≠ 1
  · rw [if_pos ha] at h; cases h
  rw [if_neg ha] at h
  refine ⟨fun hr => Classical.byContradiction fun hne => ha ⟨hr, hne⟩, fun e => ?_, fun e => ?_, fun e => ?_, fun e => ?_, fun e => ?_⟩
  · rw [if_pos e] at h; exact h
  · rw [if_neg (by omega), if_pos e] at h; exact h
  · rw [if_neg (by omega), if_neg (by omega), if_pos e] at h; exact h
  · have h0 : v.t ≠ 0 := fun h0 => by rw [h0] at e; exact absurd e (by decide)
    have h1 : v.t ≠ 98 := fun h0 => by rw [h0] at e; exact absurd e (by decide)
    have h2 : v.t ≠ 99 := fun h0 => by rw [h0] at e; exact absurd e (by decide)
    have h3 : v.t ≠ 100 := fun h0 => by rw [h0] at e; exact absurd e (by decide)
    rw [if_neg h0, if_neg h1, if_neg h2, if_neg h3, if_pos e] at h
    exact h
  · have h0 : v.t ≠ 0 := fun h0 => by rw [h0] at e; exact absurd e (by decide)
    have h1 : v.t ≠ 98 := fun h0 => by rw [h0] at e; exact absurd e (by decide)
    have h2 : v.t ≠ 99 := fun h0 => by rw [h0] at e; exact absurd e (by decide)
    have h3 : v.t ≠ 100 := fun h0 => by rw [h0] at e; exact absurd e (by decide)
    rw [if_neg h0, if_neg h1, if_neg h2, if_neg h3, if_neg (by omega), if_pos e] at h
    exact h
theorem fields_lst {v : Vl} (h : fieldsOk v = true) (ht : v.t = 0) : v.n = [] ∧ v.s = [] := by
  unfold fieldsOk at h
  simp only [Bool.and_eq_true, Bool.or_eq_true, decide_eq_true_eq] at h
  obtain ⟨⟨⟨_, h1⟩, h2⟩, _⟩ := h
  rw [ht] at h1 h2
  exact ⟨List.eq_nil_of_length_eq_zero (h1.resolve_left (by decide)), List.eq_nil_of_length_eq_zero (h2.resolve_left (by decide))⟩
theorem fields_sym {v : Vl} (h : fieldsOk v = true) (ht : v.t = 3 ∨ v.t = -3) : v.n = [] ∧ v.l = [] := by
  unfold fieldsOk at h
  simp only [Bool.and_eq_true, Bool.or_eq_true, decide_eq_true_eq] at h
  obtain ⟨⟨⟨_, h1⟩, _⟩, h3⟩ := h
  rcases ht with e | e <;> rw [e] at h1 h3 <;> exact ⟨List.eq_nil_of_length_eq_zero (h1.resolve_left (by decide)), List.eq_nil_of_length_eq_zero (h3.resolve_left (by decide))⟩
theorem fields_num {v : Vl} (h : fieldsOk v = true) (ht : v.t = 1 ∨ v.t = 2 ∨ v.t = 4 ∨ v.t = 5 ∨ v.t = -1 ∨ v.t = -2 ∨ v.t = -4 ∨ v.t = -5) : v.s = [] ∧ v.l = [] := by
  unfold fieldsOk at h
  simp only [Bool.and_eq_true, Bool.or_eq_true, decide_eq_true_eq] at h
  obtain ⟨⟨_, h2⟩, h3⟩ := h
  rcases ht with e | e | e | e | e | e | e | e <;> rw [e] at h2 h3 <;> exact ⟨List.eq_nil_of_length_eq_zero (h2.resolve_left (by decide)), List.eq_nil_of_length_eq_zero (h3.resolve_left (by decide))⟩
theorem getD_at {α : Type} {l : List α} {i : Nat} (h : i < l.length) (d : α) : l.getD i d = l[i] := by simp [List.getD_eq_getElem?_getD, h]
theorem flatMap_one {α : Type} (f : Vl → List α) (g : Nat → Vl) (l : List α) (h : ∀ i (hi : i < l.length), f (g i) = [l[i]]) : ((List.range l.length).map g).flatMap f = l := by
  suffices ∀ k, k ≤ l.length → ((List.range k).map g).flatMap f = l.take k by
    have := this l.length (Nat.le_refl _)
    rwa [List.take_length] at this
  intro k
  induction k with
  | zero => intro _; simp
  | succ k ih =>
    intro hk
    rw [List.range_succ, List.map_append, List.flatMap_append, ih (by omega), List.take_succ_eq_append_getElem (by omega)]
    simp [h k (by omega)]
theorem flatMap_none {α : Type} (f : Vl → List α) (l : List Vl) (h : ∀ x ∈ l, f x = []) : l.flatMap f = [] := by
  induction l with
  | nil => rfl
  | cons a r ih => rw [List.flatMap_cons, h a (by simp), ih fun x hx => h x (by simp [hx])]; rfl
theorem elem_lst {v : Vl} {i : Nat} (ht : v.t = 0) : elemV v i = v.l.getD i v := by
  unfold elemV
  rw [if_pos ht]
theorem elem_sym {v : Vl} {i : Nat} (ht : v.t = 3) : elemV v i = .mk (-3) [] [v.s.getD i ⟨#[]⟩] [] := by
  unfold elemV
  rw [if_neg (by omega), if_pos ht]
theorem elem_num {v : Vl} {i : Nat} (ht : v.t = 1 ∨ v.t = 2 ∨ v.t = 4 ∨ v.t = 5) : elemV v i = .mk (-v.t) [v.n.getD i 0] [] [] := by
  unfold elemV
  rw [if_neg (by omega), if_neg (by omega), if_pos ⟨by omega, by rcases ht with e | e | e | e <;> rw [e] <;> rfl⟩]
theorem flatNS (l : List Vl) : (l.flatMap Vl.n).length + (l.flatMap Vl.s).length + Vl.chars (l.flatMap Vl.s) ≤ Vl.tots l := by
  induction l with
  | nil => simp [Vl.tots, Vl.chars]
  | cons a r ih =>
    have h := Vl.tot_def a
    have e : Vl.chars (a.s ++ r.flatMap Vl.s) = Vl.chars a.s + Vl.chars (r.flatMap Vl.s) := by simp [Vl.chars]
    simp only [List.flatMap_cons, List.length_append, Vl.tots, e]
    omega
theorem ofV_tot (l : List Vl) : (ofV l).tot ≤ 1 + Vl.tots l := by
  unfold ofV
  split
  · have := flatNS l
    rw [Vl.tot_def]
    simp only [Vl.n, Vl.s, Vl.l, Vl.tots]
    omega
  · rw [Vl.tot_def]
    simp [Vl.n, Vl.s, Vl.l, Vl.chars]
theorem count_lst {v : Vl} (ht : v.t = 0) : v.count = v.l.length := by rw [Vl.count_def, if_neg (by omega), if_neg (by omega), if_pos ht]
theorem count_sym {v : Vl} (ht : v.t = 3) : v.count = v.s.length := by rw [Vl.count_def, if_neg (by omega), if_pos ht]
theorem count_num {v : Vl} (ht : v.t = 1 ∨ v.t = 2 ∨ v.t = 4 ∨ v.t = 5) : v.count = v.n.length := by rw [Vl.count_def, if_pos ht]
theorem firstE_zero {f : Vl → Int} {l : List Vl} (h : firstE f l = 0) : ∀ x ∈ l, f x = 0 := by
  induction l with
  | nil => simp
  | cons a r ih =>
    unfold firstE at h
    by_cases h0 : f a = 0
    · rw [if_neg (by simp [h0])] at h
      intro x hx
      rcases List.mem_cons.1 hx with rfl | hx
      · exact h0
      · exact ih h x hx
    · rw [if_pos h0] at h
      exact absurd h h0
theorem own_zero {d : Nat} {v : Vl} (h : partsV d v = 0) : ownV v = 0 := Classical.byContradiction fun hne => hne (partsV_own hne ▸ h)
/-- An element of a good list, if it is an atom, is flat. -/
def AtomOk (x : Vl) : Prop := atomT x.t = true → (x.t = -3 ∧ ∃ s, x = .mk (-3) [] [s] []) ∨ (numT (-x.t) ∧ ∃ n, x = .mk x.t [n] [] [])
theorem atomOk_of {x : Vl} (h : ownV x = 0) : AtomOk x := by
  intro ha
  obtain ⟨h1, _, _, h4, _⟩ := own_parts h
  have hb := atomT_bd ha
  have hr : rAtom x.t = true := by unfold rAtom; simp; omega
  have h5 := (plain_of h4).1 hr
  unfold atomT hasN hasS at ha
  simp only [Bool.and_eq_true, Bool.or_eq_true, decide_eq_true_eq, beq_iff_eq] at ha
  by_cases e : x.t = -3
  · obtain ⟨e1, e2⟩ := fields_sym h1 (.inr e)
    rw [e1] at h5
    obtain ⟨s, hs⟩ := List.length_eq_one_iff.1 (by simpa using h5)
    exact .inl ⟨e, s, by rw [Vl.eta x, e, e1, hs, e2]⟩
  · have ht : x.t = -1 ∨ x.t = -2 ∨ x.t = -4 ∨ x.t = -5 := by omega
    obtain ⟨e1, e2⟩ := fields_num h1 (by omega)
    rw [e1] at h5
    obtain ⟨n, hn⟩ := List.length_eq_one_iff.1 (by simpa using h5)
    refine .inr ⟨by unfold numT; omega, n, ?_⟩
    conv => lhs; rw [Vl.eta x, e1, hn, e2]
/-- A good vector or list. -/
structure GoodS (v : Vl) : Prop where
  t : seqT v.t
  c : v.count ≤ 65536
  num : numT v.t → v.s = [] ∧ v.l = []
  sym : v.t = 3 → v.n = [] ∧ v.l = []
  lst : v.t = 0 → v.n = [] ∧ v.s = [] ∧ unif v.l = false ∧ v.depth ≤ 32 ∧ ∀ x ∈ v.l, AtomOk x
theorem good_of {v : Vl} (hs : seqT v.t) (h : checkV v = 0) : GoodS v := by
  have hf : faultsV v = 0 := by
    unfold checkV at h
    by_cases h0 : faultsV v = 0
    · exact h0
    · rw [if_neg h0] at h; exact h
  have hd : v.depth ≤ 32 := by
    unfold checkV at h
    rw [if_pos hf] at h
    by_cases h0 : 32 < v.depth
    · rw [if_pos h0] at h; cases h
    · omega
  have ho : ownV v = 0 := own_zero hf
  obtain ⟨h1, h2, h3, h4, h5⟩ := own_parts ho
  obtain ⟨p1, p2, _⟩ := plain_of h4
  refine ⟨hs, ?_, fun ht => fields_num h1 (by unfold numT at ht; omega), fun ht => fields_sym h1 (.inl ht), fun ht => ?_⟩
  · unfold manyV at h2
    rw [if_neg (by rcases hs with (h | h | h | h) | h | h <;> omega)] at h2
    have hq : isSeq v = true := by
      unfold isSeq hasN hasS
      rcases hs with (h | h | h | h) | h | h <;> rw [h] <;> rfl
    rw [hq, Bool.true_and] at h2
    have := of_decide_eq_false h2
    omega
  · obtain ⟨e1, e2⟩ := fields_lst h1 ht
    have hl := p2 ht
    unfold listV at hl
    rw [Bool.and_eq_true] at hl
    refine ⟨e1, e2, unif_list (by simpa using hl.2), hd, fun x hx => ?_⟩
    have hp : partsV 1048576 v = 0 := hf
    rw [show (1048576 : Nat) = 1048575 + 1 from rfl, partsV_succ ho] at hp
    exact atomOk_of (own_zero (firstE_zero hp x hx))
/-! places -/
theorem rowI_eq (a : Int) (m : Nat) : rowI a m = (List.range m).map fun i : Nat => a + (i : Int) := by
  induction m with
  | zero => rfl
  | succ m ih => rw [rowI, ih, List.range_succ, List.map_append]; rfl
theorem map_pick {α : Type} (l : List α) (g : Int → α) (a m : Nat) (hg : ∀ (i : Nat) (hi : i < l.length), g (i : Int) = l[i]) (h : a + m ≤ l.length) : (rowI (a : Int) m).map g = (l.drop a).take m := by
  rw [rowI_eq, List.map_map]
  apply List.ext_getElem
  · simp; omega
  · intro i h1 h2
    simp only [List.getElem_map, List.getElem_range, Function.comp, List.getElem_take, List.getElem_drop]
    rw [show (a : Int) + (i : Int) = ((a + i : Nat) : Int) by omega]
    exact hg _ _
theorem map_rev {α : Type} (l : List α) (g : Int → α) (hg : ∀ (i : Nat) (hi : i < l.length), g (i : Int) = l[i]) : (rowI 0 l.length).reverse.map g = l.reverse := by
  have h := map_pick l g 0 l.length hg (by omega)
  rw [List.map_reverse, show (rowI 0 l.length) = rowI ((0 : Nat) : Int) l.length from rfl, h]
  simp
theorem pickI_at (l : List Int) (d : Int) (i : Nat) (hi : i < l.length) : pickI l d (i : Int) = l[i] := by
  unfold pickI
  rw [if_pos ⟨by omega, by omega⟩, show ((i : Int)).toNat = i from rfl, getD_at hi]
theorem pickS_at (l : List ByteArray) (d : ByteArray) (i : Nat) (hi : i < l.length) : pickS l d (i : Int) = l[i] := by
  unfold pickS
  rw [if_pos ⟨by omega, by omega⟩, show ((i : Int)).toNat = i from rfl, getD_at hi]
theorem pickV_at (l : List Vl) (d : Vl) (i : Nat) (hi : i < l.length) : pickV l d (i : Int) = l[i] := by
  unfold pickV
  rw [if_pos ⟨by omega, by omega⟩, show ((i : Int)).toNat = i from rfl, getD_at hi]
/-- Some elements that stand together. -/
def cutS (v : Vl) (a m : Nat) : Vl := if v.t = 0 then ofV ((v.l.drop a).take m) else if v.t = 3 then .mk 3 [] ((v.s.drop a).take m) [] else .mk v.t ((v.n.drop a).take m) [] []
theorem idx_cut {v : Vl} (h : seqT v.t) (a m : Nat) (hc : a + m ≤ v.count) : idxV v (rowI (a : Int) m) = cutS v a m := by
  unfold idxV cutS
  rcases h with h | h | h
  · have h0 : v.t ≠ 0 := by unfold numT at h; omega
    have h3 : v.t ≠ 3 := by unfold numT at h; omega
    rw [count_num h] at hc
    rw [if_neg h0, if_neg h3, if_neg h0, if_neg h3, map_pick v.n _ a m (fun i hi => pickI_at _ _ i hi) hc]
  · rw [count_sym h] at hc
    rw [if_neg (by omega), if_pos h, if_neg (by omega), if_pos h, map_pick v.s _ a m (fun i hi => pickS_at _ _ i hi) hc]
  · rw [count_lst h] at hc
    rw [if_pos h, if_pos h, map_pick v.l _ a m (fun i hi => pickV_at _ _ i hi) hc]
theorem idx_tots {v : Vl} (h : v.t = 0) (a m : Nat) (hc : a + m ≤ v.count) : Vl.tots ((rowI (a : Int) m).map (pickV v.l emp)) ≤ Vl.tots v.l := by
  rw [count_lst h] at hc
  rw [map_pick v.l _ a m (fun i hi => pickV_at _ _ i hi) hc]
  have h1 := Vl.tots_take_le (v.l.drop a) m
  have h2 : Vl.tots v.l = Vl.tots (v.l.take a) + Vl.tots (v.l.drop a) := by rw [← Vl.tots_append, List.take_append_drop]
  omega
/-- All elements in their order are it. -/
theorem cut_all {v : Vl} (h : GoodS v) : cutS v 0 v.count = v := by
  unfold cutS
  rcases h.t with t | t | t
  · obtain ⟨e1, e2⟩ := h.num t
    rw [if_neg (by unfold numT at t; omega), if_neg (by unfold numT at t; omega), count_num t, List.drop_zero, List.take_length]
    conv => rhs; rw [Vl.eta v, e1, e2]
  · obtain ⟨e1, e2⟩ := h.sym t
    rw [if_neg (by omega), if_pos t, count_sym t, List.drop_zero, List.take_length]
    conv => rhs; rw [Vl.eta v, t, e1, e2]
  · obtain ⟨e1, e2, hu, _⟩ := h.lst t
    rw [if_pos t, count_lst t, List.drop_zero, List.take_length, ofV_list hu]
    conv => rhs; rw [Vl.eta v, t, e1, e2]
/-! turned round -/
theorem unif_iff {l : List Vl} : unif l = true ↔ l ≠ [] ∧ ∃ t, atomT t = true ∧ ∀ x ∈ l, x.t = t := by
  cases l with
  | nil => simp [unif]
  | cons a r =>
    unfold unif
    simp only [Bool.and_eq_true, List.all_eq_true, beq_iff_eq, ne_eq, reduceCtorEq, not_false_eq_true, true_and, List.mem_cons, forall_eq_or_imp]
    constructor
    · rintro ⟨h1, h2⟩
      exact ⟨a.t, h1, rfl, h2⟩
    · rintro ⟨t, h1, h2, h3⟩
      exact ⟨h2 ▸ h1, fun x hx => by rw [h3 x hx, h2]⟩
theorem unif_rev {l : List Vl} (h : unif l = false) : unif l.reverse = false := by
  rw [Bool.eq_false_iff] at h ⊢
  intro h1
  apply h
  obtain ⟨h2, t, h3, h4⟩ := unif_iff.1 h1
  exact unif_iff.2 ⟨by simpa using h2, t, h3, fun x hx => h4 x (by simpa using hx)⟩
theorem tots_rev (l : List Vl) : Vl.tots l.reverse = Vl.tots l := by
  induction l with
  | nil => rfl
  | cons a r ih => rw [List.reverse_cons, Vl.tots_append, ih]; simp [Vl.tots]; omega
theorem chars_rev (l : List ByteArray) : Vl.chars l.reverse = Vl.chars l := by unfold Vl.chars; simp
/-- Turned round. -/
def revV (v : Vl) : Vl := .mk v.t v.n.reverse v.s.reverse v.l.reverse
theorem rev_tot (v : Vl) : (revV v).tot = v.tot := by
  rw [Vl.tot_def, Vl.tot_def v]
  simp [revV, Vl.n, Vl.s, Vl.l, tots_rev, chars_rev]
theorem rev_count (v : Vl) (h : seqT v.t) : (revV v).count = v.count := by
  rcases h with h | h | h
  · rw [count_num (v := revV v) h, count_num h]; simp [revV, Vl.n]
  · rw [count_sym (v := revV v) h, count_sym h]; simp [revV, Vl.s]
  · rw [count_lst (v := revV v) h, count_lst h]; simp [revV, Vl.l]
theorem idx_rev {v : Vl} (h : seqT v.t) (hn : numT v.t → v.s = [] ∧ v.l = []) (hs : v.t = 3 → v.n = [] ∧ v.l = []) (hl : v.t = 0 → v.n = [] ∧ v.s = [] ∧ unif v.l = false) : idxV v (rowI 0 v.count).reverse = revV v := by
  unfold idxV revV
  rcases h with t | t | t
  · obtain ⟨e1, e2⟩ := hn t
    rw [if_neg (by unfold numT at t; omega), if_neg (by unfold numT at t; omega), count_num t, map_rev v.n _ (fun i hi => pickI_at _ _ i hi), e1, e2]
    rfl
  · obtain ⟨e1, e2⟩ := hs t
    rw [if_neg (by omega), if_pos t, count_sym t, map_rev v.s _ (fun i hi => pickS_at _ _ i hi), e1, e2, t]
    rfl
  · obtain ⟨e1, e2, hu⟩ := hl t
    rw [if_pos t, count_lst t, map_rev v.l _ (fun i hi => pickV_at _ _ i hi), ofV_list (unif_rev hu), e1, e2, t]
    rfl
theorem rev_tots {v : Vl} (h : v.t = 0) : Vl.tots ((rowI 0 v.count).reverse.map (pickV v.l emp)) = Vl.tots v.l := by
  rw [count_lst h, map_rev v.l _ (fun i hi => pickV_at _ _ i hi), tots_rev]
theorem idx_rev2 {v : Vl} (h : GoodS v) : idxV (revV v) (rowI 0 (revV v).count).reverse = v := by
  have e : revV (revV v) = v := by
    show Vl.mk v.t v.n.reverse.reverse v.s.reverse.reverse v.l.reverse.reverse = v
    rw [List.reverse_reverse, List.reverse_reverse, List.reverse_reverse]
    exact (Vl.eta v).symm
  rw [idx_rev (v := revV v) h.t (fun t => ?_) (fun t => ?_) (fun t => ?_), e]
  · obtain ⟨e1, e2⟩ := h.num t
    exact ⟨show v.s.reverse = [] by rw [e1]; rfl, show v.l.reverse = [] by rw [e2]; rfl⟩
  · obtain ⟨e1, e2⟩ := h.sym t
    exact ⟨show v.n.reverse = [] by rw [e1]; rfl, show v.l.reverse = [] by rw [e2]; rfl⟩
  · obtain ⟨e1, e2, hu, _⟩ := h.lst t
    exact ⟨show v.n.reverse = [] by rw [e1]; rfl, show v.s.reverse = [] by rw [e2]; rfl, unif_rev hu⟩
end Go.Proofs.YtnilcnobngcbgaaGreat

namespace Go.Proofs.YtnilcnobngcbgaaGreat
open Go.RowKit

theorem tot_num (t : Int) (l : List Int) : (Vl.mk t l [] []).tot = 1 + l.length := by
  rw [Vl.tot_def]
  show 1 + l.length + 0 + 0 + 0 = _
  omega
theorem tot_sym (l : List ByteArray) : (Vl.mk 3 [] l []).tot = 1 + l.length + Vl.chars l := by
  rw [Vl.tot_def]
  show 1 + 0 + l.length + Vl.chars l + 0 = _
  omega
theorem chars_cut (l : List ByteArray) (k : Nat) : Vl.chars l = Vl.chars (l.take k) + Vl.chars (l.drop k) := by
  unfold Vl.chars
  rw [← List.sum_append, ← List.map_append, List.take_append_drop]
theorem kdV_pos {v : Vl} (h : numT v.t ∨ v.t = 3) : kdV v = v.t := by
  unfold kdV
  rcases h with (h | h | h | h) | h <;> rw [h] <;> rfl
theorem kdV_lst {v : Vl} (h : v.t = 0) : kdV v = 0 := by unfold kdV; rw [h]; rfl
theorem kdV_seq {v : Vl} (h : seqT v.t) : kdV v = v.t := by
  rcases h with h | h | h
  · exact kdV_pos (.inl h)
  · exact kdV_pos (.inr h)
  · rw [kdV_lst h, h]
theorem widV_seq {v : Vl} (h : seqT v.t) : widV v = v.count := by unfold widV; rw [if_pos (kdV_seq h)]
theorem not_nil {v : Vl} (h : seqT v.t) : vNl v = false := by
  unfold vNl
  rcases h with (h | h | h | h) | h | h <;> rw [h] <;> rfl
/-- A list of like atoms, as a vector, has them for its elements. -/
theorem atoms_of {x : List Vl} (hu : unif x = true) (ha : ∀ y ∈ x, AtomOk y) :
    (∃ ss : List ByteArray, ss ≠ [] ∧ x = ss.map (fun s => .mk (-3) [] [s] []) ∧ ofV x = .mk 3 [] ss []) ∨ (∃ (t : Int) (ns : List Int), ns ≠ [] ∧ numT t ∧ x = ns.map (fun n => .mk (-t) [n] [] []) ∧ ofV x = .mk t ns [] []) := by
  obtain ⟨hne, t, ht, hall⟩ := unif_iff.1 hu
  have h0 : 0 < x.length := List.length_pos_iff.2 hne
  have ho := ofV_vec hu h0
  rw [hall _ (List.getElem_mem h0)] at ho
  by_cases e : t = -3
  · left
    have key : ∀ l : List Vl, (∀ y ∈ l, y.t = t) → (∀ y ∈ l, AtomOk y) → ∃ ss : List ByteArray, l = ss.map (fun s => .mk (-3) [] [s] []) := by
      intro l
      induction l with
      | nil => intro _ _; exact ⟨[], rfl⟩
      | cons a r ih =>
        intro h1 h2
        obtain ⟨ss, hs⟩ := ih (fun y hy => h1 y (by simp [hy])) (fun y hy => h2 y (by simp [hy]))
        rcases h2 a (by simp) (by rw [h1 a (by simp)]; exact ht) with ⟨_, s, h3⟩ | ⟨h3, _⟩
        · exact ⟨s :: ss, by rw [List.map_cons, ← hs, h3]⟩
        · rw [h1 a (by simp), e] at h3
          rcases h3 with h3 | h3 | h3 | h3 <;> cases h3
    obtain ⟨ss, hs⟩ := key x hall ha
    refine ⟨ss, by rintro rfl; exact hne (by rw [hs]; rfl), hs, ?_⟩
    rw [ho, e, hs]
    have f1 : ∀ ss : List ByteArray, (ss.map (fun s => Vl.mk (-3) [] [s] [])).flatMap Vl.n = [] := by
      intro ss
      induction ss with
      | nil => rfl
      | cons a r ih => rw [List.map_cons, List.flatMap_cons, ih]; rfl
    have f2 : ∀ ss : List ByteArray, (ss.map (fun s => Vl.mk (-3) [] [s] [])).flatMap Vl.s = ss := by
      intro ss
      induction ss with
      | nil => rfl
      | cons a r ih => rw [List.map_cons, List.flatMap_cons, ih]; rfl
    rw [f1, f2]
    rfl
  · right
    have key : ∀ l : List Vl, (∀ y ∈ l, y.t = t) → (∀ y ∈ l, AtomOk y) → ∃ ns : List Int, l = ns.map (fun n => .mk t [n] [] []) := by
      intro l
      induction l with
      | nil => intro _ _; exact ⟨[], rfl⟩
      | cons a r ih =>
        intro h1 h2
        obtain ⟨ns, hs⟩ := ih (fun y hy => h1 y (by simp [hy])) (fun y hy => h2 y (by simp [hy]))
        rcases h2 a (by simp) (by rw [h1 a (by simp)]; exact ht) with ⟨h3, _⟩ | ⟨_, n, h3⟩
        · exact absurd (h3 ▸ (h1 a (by simp)).symm) e
        · exact ⟨n :: ns, by rw [List.map_cons, ← hs, ← h1 a (by simp), ← h3]⟩
    obtain ⟨ns, hs⟩ := key x hall ha
    have hnt : numT (-t) := by
      rcases ha _ (List.getElem_mem h0) (by rw [hall _ (List.getElem_mem h0)]; exact ht) with ⟨h3, _⟩ | ⟨h3, _⟩
      · exact absurd (h3 ▸ (hall _ (List.getElem_mem h0)).symm) e
      · rwa [hall _ (List.getElem_mem h0)] at h3
    refine ⟨-t, ns, by rintro rfl; exact hne (by rw [hs]; rfl), hnt, by rw [Int.neg_neg]; exact hs, ?_⟩
    rw [ho, hs]
    have f1 : ∀ ns : List Int, (ns.map (fun n => Vl.mk t [n] [] [])).flatMap Vl.s = [] := by
      intro ns
      induction ns with
      | nil => rfl
      | cons a r ih => rw [List.map_cons, List.flatMap_cons, ih]; rfl
    have f2 : ∀ ns : List Int, (ns.map (fun n => Vl.mk t [n] [] [])).flatMap Vl.n = ns := by
      intro ns
      induction ns with
      | nil => rfl
      | cons a r ih => rw [List.map_cons, List.flatMap_cons, ih]; rfl
    rw [f1, f2]
theorem ofV_seq {x : List Vl} (ha : ∀ y ∈ x, AtomOk y) : seqT (ofV x).t := by
  cases hu : unif x
  · rw [ofV_list hu]; exact .inr (.inr rfl)
  · rcases atoms_of hu ha with ⟨ss, _, _, h⟩ | ⟨t, ns, _, ht, _, h⟩
    · rw [h]; exact .inr (.inl rfl)
    · rw [h]; exact .inl ht
theorem ofV_els {x : List Vl} (ha : ∀ y ∈ x, AtomOk y) : elS (ofV x) (ofV x).count = x ∧ (ofV x).count = x.length := by
  cases hu : unif x
  · rw [ofV_list hu]
    have hc : (Vl.mk 0 [] [] x).count = x.length := count_lst rfl
    rw [hc]
    refine ⟨?_, rfl⟩
    unfold elS
    apply List.ext_getElem
    · simp
    · intro i h1 h2
      simp only [List.getElem_map, List.getElem_range]
      rw [elem_lst rfl]
      exact getD_at h2 _
  · rcases atoms_of hu ha with ⟨ss, _, hx, h⟩ | ⟨t, ns, _, ht, hx, h⟩
    · rw [h]
      have hc : (Vl.mk 3 [] ss []).count = ss.length := count_sym rfl
      rw [hc, hx]
      refine ⟨?_, by simp⟩
      unfold elS
      apply List.ext_getElem
      · simp
      · intro i h1 h2
        simp only [List.getElem_map, List.getElem_range]
        rw [elem_sym rfl]
        show Vl.mk (-3) [] [ss.getD i ⟨#[]⟩] [] = _
        rw [getD_at (by simpa using h2)]
    · rw [h]
      have hc : (Vl.mk t ns [] []).count = ns.length := count_num ht
      rw [hc, hx]
      refine ⟨?_, by simp⟩
      unfold elS
      apply List.ext_getElem
      · simp
      · intro i h1 h2
        simp only [List.getElem_map, List.getElem_range]
        rw [elem_num (v := .mk t ns [] []) ht]
        show Vl.mk (-t) [ns.getD i 0] [] [] = _
        rw [getD_at (by simpa using h2)]
theorem kd_unif {x : List Vl} (ha : ∀ y ∈ x, AtomOk y) (h : kdV (ofV x) ≠ 0) : ∃ t, x ≠ [] ∧ atomT t = true ∧ (∀ y ∈ x, y.t = t) ∧ kdV (ofV x) = -t := by
  cases hu : unif x
  · rw [ofV_list hu] at h
    exact absurd (kdV_lst rfl) h
  · obtain ⟨hne, t, ht, hall⟩ := unif_iff.1 hu
    have h0 : 0 < x.length := List.length_pos_iff.2 hne
    refine ⟨t, hne, ht, hall, ?_⟩
    rw [kdV_seq (ofV_seq ha), ofV_vec hu h0, hall _ (List.getElem_mem h0)]
    rfl
theorem cut_seq {v : Vl} (h : GoodS v) (a m : Nat) : seqT (cutS v a m).t := by
  unfold cutS
  rcases h.t with t | t | t
  · rw [if_neg (by unfold numT at t; omega), if_neg (by unfold numT at t; omega)]; exact .inl t
  · rw [if_neg (by omega), if_pos t]; exact .inr (.inl rfl)
  · rw [if_pos t]
    exact ofV_seq fun y hy => (h.lst t).2.2.2.2 y (List.mem_of_mem_drop (List.mem_of_mem_take hy))
theorem cut_tot {v : Vl} (h : GoodS v) (k : Nat) (hk : k ≤ v.count) : (cutS v 0 k).tot + (cutS v k (v.count - k)).tot ≤ 1 + v.tot := by
  have hv := Vl.tot_def v
  unfold cutS
  rcases h.t with t | t | t
  · rw [count_num t] at hk ⊢
    rw [if_neg (by unfold numT at t; omega), if_neg (by unfold numT at t; omega), if_neg (by unfold numT at t; omega), if_neg (by unfold numT at t; omega), tot_num, tot_num]
    simp only [List.drop_zero, List.length_take, List.length_drop]
    omega
  · rw [count_sym t] at hk ⊢
    rw [if_neg (by omega), if_pos t, if_neg (by omega), if_pos t, tot_sym, tot_sym]
    have e2 := chars_cut v.s k
    have e3 : (v.s.drop k).take (v.s.length - k) = v.s.drop k := List.take_of_length_le (by simp)
    rw [e3, List.drop_zero]
    simp only [List.length_take, List.length_drop]
    omega
  · rw [count_lst t] at hk ⊢
    rw [if_pos t, if_pos t]
    have e : v.l = v.l.take k ++ v.l.drop k := (List.take_append_drop k v.l).symm
    have e2 : Vl.tots v.l = Vl.tots (v.l.take k) + Vl.tots (v.l.drop k) := by
      conv => lhs; rw [e]
      exact Vl.tots_append _ _
    have e3 : (v.l.drop k).take (v.l.length - k) = v.l.drop k := List.take_of_length_le (by simp)
    rw [e3, List.drop_zero]
    have h1 := ofV_tot (v.l.take k)
    have h2 := ofV_tot (v.l.drop k)
    omega
theorem join_cut (v : Vl) (k : Nat) (w : World) (B : Nat) (A : Option Addr) (c : Nat) (hg : GoodS v) (hk : k ≤ v.count) (ht : v.tot ≤ 1090000) (hB : B ≤ w.heap.size) (h : RdV w B A [cutS v 0 k, cutS v k (v.count - k)]) :
    Calls Tryz.prog 25 #[.slice A 2 c] w (TupV v w) := by
  have htt := cut_tot hg k hk
  have s1 := cut_seq hg 0 k
  have s2 := cut_seq hg k (v.count - k)
  have hnil : ([cutS v 0 k, cutS v k (v.count - k)]).any vNl = false := by simp [not_nil s1, not_nil s2]
  have htots : Vl.tots [cutS v 0 k, cutS v k (v.count - k)] ≤ 1100000 := by simp only [Vl.tots]; omega
  rcases hg.t with t | t | t
  · obtain ⟨e1, e2⟩ := hg.num t
    have ea : cutS v 0 k = .mk v.t (v.n.take k) [] [] := by unfold cutS; rw [if_neg (by unfold numT at t; omega), if_neg (by unfold numT at t; omega), List.drop_zero]
    have eb : cutS v k (v.count - k) = .mk v.t (v.n.drop k) [] [] := by unfold cutS; rw [if_neg (by unfold numT at t; omega), if_neg (by unfold numT at t; omega), count_num t, List.take_of_length_le (by simp)]
    have ka : kdV (cutS v 0 k) = v.t := by rw [kdV_seq s1, ea]; rfl
    have kb : kdV (cutS v k (v.count - k)) = v.t := by rw [kdV_seq s2, eb]; rfl
    have h9 := join_kind [cutS v 0 k, cutS v k (v.count - k)] v.t v.n [] (hide (by rw [ea, eb]; simp [Vl.n])) (hide (by rw [ea, eb]; simp [Vl.s])) w B A c (by simp) ka (by
      unfold oneK
      simp only [ka, List.any_cons, kb, List.any_nil, bne_self_eq_false, Bool.or_false, Bool.not_false, Bool.and_true]
      unfold numT at t
      simp
      omega) hnil (by
      have hc := hg.c
      rw [count_num t] at hc hk
      unfold widS
      simp only [List.map_cons, List.map_nil, List.foldr_cons, List.foldr_nil, widV_seq s1, widV_seq s2]
      rw [eb, ea, count_num (v := .mk v.t _ [] []) t, count_num (v := .mk v.t _ [] []) t]
      show (v.n.take k).length + ((v.n.drop k).length + 0) ≤ 65536
      rw [List.length_take, List.length_drop]
      omega) htots hB h
    have ev : Vl.mk v.t v.n [] [] = v := by conv => rhs; rw [Vl.eta v, e1, e2]
    rw [ev] at h9
    exact h9
  · obtain ⟨e1, e2⟩ := hg.sym t
    have ea : cutS v 0 k = .mk 3 [] (v.s.take k) [] := by unfold cutS; rw [if_neg (by omega), if_pos t, List.drop_zero]
    have eb : cutS v k (v.count - k) = .mk 3 [] (v.s.drop k) [] := by unfold cutS; rw [if_neg (by omega), if_pos t, count_sym t, List.take_of_length_le (by simp)]
    have ka : kdV (cutS v 0 k) = 3 := by rw [kdV_seq s1, ea]; rfl
    have kb : kdV (cutS v k (v.count - k)) = 3 := by rw [kdV_seq s2, eb]; rfl
    have h9 := join_kind [cutS v 0 k, cutS v k (v.count - k)] 3 [] v.s (hide (by rw [ea, eb]; simp [Vl.n])) (hide (by rw [ea, eb]; simp [Vl.s])) w B A c (by simp) ka (by
      unfold oneK
      simp only [ka, List.any_cons, kb, List.any_nil, bne_self_eq_false, Bool.or_false, Bool.not_false, Bool.and_true]
      decide) hnil (by
      have hc := hg.c
      rw [count_sym t] at hc hk
      unfold widS
      simp only [List.map_cons, List.map_nil, List.foldr_cons, List.foldr_nil, widV_seq s1, widV_seq s2]
      rw [eb, ea, count_sym (v := .mk 3 [] _ []) rfl, count_sym (v := .mk 3 [] _ []) rfl]
      show (v.s.take k).length + ((v.s.drop k).length + 0) ≤ 65536
      rw [List.length_take, List.length_drop]
      omega) htots hB h
    have ev : Vl.mk 3 [] v.s [] = v := by conv => rhs; rw [Vl.eta v, t, e1, e2]
    rw [ev] at h9
    exact h9
  · obtain ⟨e1, e2, hu, hd, hat⟩ := hg.lst t
    have ea : cutS v 0 k = ofV (v.l.take k) := by unfold cutS; rw [if_pos t, List.drop_zero]
    have eb : cutS v k (v.count - k) = ofV (v.l.drop k) := by unfold cutS; rw [if_pos t, count_lst t, List.take_of_length_le (by simp)]
    have a1 : ∀ y ∈ v.l.take k, AtomOk y := fun y hy => hat y (List.mem_of_mem_take hy)
    have a2 : ∀ y ∈ v.l.drop k, AtomOk y := fun y hy => hat y (List.mem_of_mem_drop hy)
    obtain ⟨x1, c1⟩ := ofV_els a1
    obtain ⟨x2, c2⟩ := ofV_els a2
    have hfe : flE [cutS v 0 k, cutS v k (v.count - k)] = v.l := by
      rw [eb, ea]
      unfold flE
      simp only [List.flatMap_cons, List.flatMap_nil, List.append_nil]
      rw [x1, x2, List.take_append_drop]
    have hone : oneK [cutS v 0 k, cutS v k (v.count - k)] = false := by
      rw [Bool.eq_false_iff]
      intro h1
      unfold oneK at h1
      simp only [List.any_cons, List.any_nil, bne_self_eq_false, Bool.or_false, Bool.false_or, Bool.and_eq_true, bne_iff_ne, ne_eq, Bool.not_eq_true', bne_eq_false_iff_eq] at h1
      obtain ⟨h1, h2⟩ := h1
      rw [ea] at h1
      rw [eb, ea] at h2
      obtain ⟨t1, n1, b1, b2, b3⟩ := kd_unif a1 h1
      obtain ⟨t2, n2, b4, b5, b6⟩ := kd_unif a2 (by rw [h2]; exact h1)
      have e : t2 = t1 := by rw [h2, b3] at b6; omega
      rw [Bool.eq_false_iff] at hu
      apply hu
      refine unif_iff.2 ⟨fun h3 => n1 (by rw [h3]; simp), t1, b1, fun y hy => ?_⟩
      rw [← List.take_append_drop k v.l] at hy
      rcases List.mem_append.1 hy with hy | hy
      · exact b2 y hy
      · rw [← e]; exact b5 y hy
    have hvl : ofV v.l = v := by
      rw [ofV_list hu]
      conv => rhs; rw [Vl.eta v, t, e1, e2]
    have htv := Vl.tot_def v
    have h9 := join_list [cutS v 0 k, cutS v k (v.count - k)] w B A c (by simp [s1, s2]) hone hnil (by
      have hc := hg.c
      rw [count_lst t] at hc hk
      unfold widS
      simp only [List.map_cons, List.map_nil, List.foldr_cons, List.foldr_nil, widV_seq s1, widV_seq s2]
      rw [eb, ea, c1, c2]
      simp only [List.length_take, List.length_drop]
      omega) htots (by rw [hfe]; omega) (by rw [hfe, hvl]; omega) (by rw [hfe, hvl]; exact hd) hB h
    rw [hfe, hvl] at h9
    exact h9
end Go.Proofs.YtnilcnobngcbgaaGreat

namespace Go.Proofs.YtnilcnobngcbgaaGreat
open Go.RowKit
attribute [local go_sem ↓] Go.wp_at_zero Go.wp_at_succ

theorem rdV_one {w : World} {a : Vl} {x0 x1 x2 x3 : Value} (h1 : VAt w w.heap.size a [x0, x1, x2, x3]) :
    RdV (w.alloc (.cells #[x0, x1, x2, x3] 26)) (w.heap.size + 1) (some ⟨w.heap.size, 0, none⟩) [a] := by
  have hg := gb_alloc (gb_refl w none) (.cells #[x0, x1, x2, x3] 26)
  exact ⟨[[x0, x1, x2, x3]], Rd.new w _ _ _ rfl, _, _, rfl, (h1.gb hg (Nat.le_refl _)).up (Nat.le_succ _), rfl⟩
/-- A value in its box, at known places. -/
structure BoxE (w : World) (b : Nat) (v : Vl) (nA : Option Addr) (nc : Nat) (sA : Option Addr) (sc : Nat) (lA : Option Addr) (lc : Nat) : Prop where
  blk : w.heap[b]? = some (.cells #[.int .i64 v.t, .slice nA v.n.length nc, .slice sA v.s.length sc, .slice lA v.l.length lc] 26 (0, 0))
  vb : VB w w.heap.size v nA nc sA sc lA lc
theorem BoxE.gb {w w' : World} {b : Nat} {v : Vl} {nA : Option Addr} {nc : Nat} {sA : Option Addr} {sc : Nat} {lA : Option Addr} {lc : Nat} (h : BoxE w b v nA nc sA sc lA lc) (hg : w.grownBy w' none) : BoxE w' b v nA nc sA sc lA lc :=
  ⟨blk_keep h.blk hg (by simp), (h.vb.gb hg (Nat.le_refl _)).up hg.size⟩
theorem BoxE.c4 {w : World} {b : Nat} {v : Vl} {nA : Option Addr} {nc : Nat} {sA : Option Addr} {sc : Nat} {lA : Option Addr} {lc : Nat} (h : BoxE w b v nA nc sA sc lA lc) : C4 w b 0 (.int .i64 v.t) (.slice nA v.n.length nc) (.slice sA v.s.length sc) (.slice lA v.l.length lc) :=
  ⟨by rw [blk_cell h.blk]; rfl, by rw [blk_cell h.blk]; rfl, by rw [blk_cell h.blk]; rfl, by rw [blk_cell h.blk]; rfl⟩
theorem BoxE.c4a {w : World} {b : Nat} {v : Vl} {nA : Option Addr} {nc : Nat} {sA : Option Addr} {sc : Nat} {lA : Option Addr} {lc : Nat} (h : BoxE w b v nA nc sA sc lA lc) (o : Obj) : C4 (w.alloc o) b 0 (.int .i64 v.t) (.slice nA v.n.length nc) (.slice sA v.s.length sc) (.slice lA v.l.length lc) :=
  (h.gb (gb_alloc (gb_refl w none) o)).c4
theorem BoxE.new {w : World} {v : Vl} {nA : Option Addr} {nc : Nat} {sA : Option Addr} {sc : Nat} {lA : Option Addr} {lc : Nat} (h : VB w w.heap.size v nA nc sA sc lA lc) : BoxE (w.alloc (.cells #[.int .i64 v.t, .slice nA v.n.length nc, .slice sA v.s.length sc, .slice lA v.l.length lc] 26)) w.heap.size v nA nc sA sc lA lc :=
  ⟨heap_alloc_new w _, (h.gb (gb_alloc (gb_refl w none) _) (Nat.le_refl _)).up (by rw [World.size_alloc]; omega)⟩
set_option maxHeartbeats 8000000 in
set_option maxRecDepth 100000 in
theorem whole_off (v : Vl) (n : Int) (w : World) (nA : Option Addr) (nc : Nat) (sA : Option Addr) (sc : Nat) (lA : Option Addr) (lc : Nat)
    (ht : v.tot ≤ 1090000) (h : VB w w.heap.size v nA nc sA sc lA lc) (hno : checkV v = 0 → ¬ (seqT v.t ∧ 0 ≤ n ∧ n ≤ v.count)) :
    Calls Tryz.prog 5 #[.agg #[.int .i64 v.t, .slice nA v.n.length nc, .slice sA v.s.length sc, .slice lA v.l.length lc], .int .i64 n] w fun e w' => e = .returned (.bool true) ∧ w.grownBy w' none := by
  have HT := hide (show v.tot ≤ 1100000 by omega)
  have HNO := hide hno
  clear hno
  obtain ⟨wa, hwa⟩ : ∃ wa, wa = w.alloc (.cells #[.int .i64 v.t, .slice nA v.n.length nc, .slice sA v.s.length sc, .slice lA v.l.length lc] 26) := ⟨_, rfl⟩
  have hga : w.grownBy wa none := by rw [hwa]; exact gb_alloc (gb_refl w none) _
  have hsa : wa.heap.size = w.heap.size + 1 := by rw [hwa, World.size_alloc]
  have hba : BoxE wa w.heap.size v nA nc sA sc lA lc := by rw [hwa]; exact BoxE.new h
  obtain ⟨wb, hwb⟩ : ∃ wb, wb = wa.alloc (.cells #[.int .i64 v.t, .slice nA v.n.length nc, .slice sA v.s.length sc, .slice lA v.l.length lc] 26) := ⟨_, rfl⟩
  have hgb : wa.grownBy wb none := by rw [hwb]; exact gb_alloc (gb_refl wa none) _
  have hrb : RdV wb (wa.heap.size + 1) (some ⟨wa.heap.size, 0, none⟩) [v] := by rw [hwb]; exact rdV_one hba.vb.at_
  have HR : Hid (Calls Tryz.prog 6 #[.slice (some ⟨w.heap.size + 1, 0, none⟩) 1 1] wb (RightR [v] wb)) := hide (by
    have hx := right7_any [v] wb (wa.heap.size + 1) (some ⟨wa.heap.size, 0, none⟩) 1 (by simp only [Vl.tots]; omega) (by rw [hwb, World.size_alloc]; exact Nat.le_refl _) hrb
    rw [hsa] at hx
    exact hx)
  have HBv := hide (hba.gb hgb)
  have HG0 := hide (gb_trans hga hgb (.inl rfl))
  have HWA := hide hwa
  have HWB := hide hwb
  obtain ⟨d0, d1, d2, d3⟩ := C4.box w (.int .i64 v.t) (.slice nA v.n.length nc) (.slice sA v.s.length sc) (.slice lA v.l.length lc) 26
  clear h hga hsa hba hgb hrb hwa hwb
  go_enter Tryz.func5, Tryz.ntmps5
  go_wp2_with fail
  rw [← HWA.out, ← HWB.out]
  clear d0 d1 d2 d3
  refine HR.out.mono ?_
  rintro e w1 ⟨bb, rfl, hbb, hgw⟩
  have HBvn := hide (HBv.out.gb hgw)
  clear HBv
  have HBv := hide HBvn.out
  clear HBvn
  have HGn := hide (gb_trans HG0.out hgw (.inl rfl))
  clear HG0
  have HG0 := hide HGn.out
  clear HGn
  clear HR hgw ht
  cases bb
  · clear hbb HBv
    go_wp2_with fail
    refine (live7_any _).mono ?_
    rintro e wl ⟨rfl, hgl⟩
    have HGn := hide (gb_trans HG0.out hgl (.inl rfl))
    clear HG0 hgl
    go_wp2_with fail
    exact bodyPost_ret (v := .bool true) (by simp [results, Tryz.results5, go_sem]) rfl ⟨rfl, HGn.out⟩
  · have hck : checkV v = 0 := hbb rfl _ (by simp)
    have hno := HNO.out hck
    clear hbb hck HNO
    by_cases h0 : n < 0
    · have HN := hide (show decide (n < 0) = true from decide_eq_true h0)
      clear hno
      have h1 := h0
      cases hv : rVec v.t
      · by_cases h2 : v.t = 0
        · have h3 : (v.t != 0) = false := by simp [h2]
          clear h2
          obtain ⟨cv0, cv1, cv2, cv3⟩ := HBv.out.c4
          go_wp2_with (first | (go_at_call 23 ; refine (rVec_any _ _ _ _ _).mono ?_ ; rintro e wi ⟨rfl, hgw⟩ ; clear cv0 cv1 cv2 cv3 ; have HBvn := hide (HBv.out.gb hgw) ; clear HBv ; have HBv := hide HBvn.out ; clear HBvn ; have HGn := hide (gb_trans HG0.out hgw (.inl rfl)) ; clear HG0 ; have HG0 := hide HGn.out ; clear HGn ; obtain ⟨cv0, cv1, cv2, cv3⟩ := HBv.out.c4 ; clear hgw) | (go_at_call 24 ; refine (rCount_any v _ _ nA nc sA sc lA lc HT.out (Nat.le_refl _) HBv.out.vb).mono ?_ ; rintro e wj ⟨rfl, hgw⟩ ; clear cv0 cv1 cv2 cv3 ; have HBvn := hide (HBv.out.gb hgw) ; clear HBv ; have HBv := hide HBvn.out ; clear HBvn ; have HGn := hide (gb_trans HG0.out hgw (.inl rfl)) ; clear HG0 ; have HG0 := hide HGn.out ; clear HGn ; obtain ⟨cv0, cv1, cv2, cv3⟩ := HBv.out.c4 ; clear hgw))
          clear cv0 cv1 cv2 cv3
          refine (live7_any _).mono ?_
          rintro e wl ⟨rfl, hgl⟩
          have HGn := hide (gb_trans HG0.out hgl (.inl rfl))
          clear HG0 hgl
          go_wp2_with fail
          exact bodyPost_ret (v := .bool true) (by simp [results, Tryz.results5, go_sem]) rfl ⟨rfl, HGn.out⟩
        · have h3 : (v.t != 0) = true := by simp [h2]
          clear h2
          obtain ⟨cv0, cv1, cv2, cv3⟩ := HBv.out.c4
          go_wp2_with (first | (go_at_call 23 ; refine (rVec_any _ _ _ _ _).mono ?_ ; rintro e wi ⟨rfl, hgw⟩ ; clear cv0 cv1 cv2 cv3 ; have HBvn := hide (HBv.out.gb hgw) ; clear HBv ; have HBv := hide HBvn.out ; clear HBvn ; have HGn := hide (gb_trans HG0.out hgw (.inl rfl)) ; clear HG0 ; have HG0 := hide HGn.out ; clear HGn ; obtain ⟨cv0, cv1, cv2, cv3⟩ := HBv.out.c4 ; clear hgw) | (go_at_call 24 ; refine (rCount_any v _ _ nA nc sA sc lA lc HT.out (Nat.le_refl _) HBv.out.vb).mono ?_ ; rintro e wj ⟨rfl, hgw⟩ ; clear cv0 cv1 cv2 cv3 ; have HBvn := hide (HBv.out.gb hgw) ; clear HBv ; have HBv := hide HBvn.out ; clear HBvn ; have HGn := hide (gb_trans HG0.out hgw (.inl rfl)) ; clear HG0 ; have HG0 := hide HGn.out ; clear HGn ; obtain ⟨cv0, cv1, cv2, cv3⟩ := HBv.out.c4 ; clear hgw))
          clear cv0 cv1 cv2 cv3
          refine (live7_any _).mono ?_
          rintro e wl ⟨rfl, hgl⟩
          have HGn := hide (gb_trans HG0.out hgl (.inl rfl))
          clear HG0 hgl
          go_wp2_with fail
          exact bodyPost_ret (v := .bool true) (by simp [results, Tryz.results5, go_sem]) rfl ⟨rfl, HGn.out⟩
      · skip
        obtain ⟨cv0, cv1, cv2, cv3⟩ := HBv.out.c4
        go_wp2_with (first | (go_at_call 23 ; refine (rVec_any _ _ _ _ _).mono ?_ ; rintro e wi ⟨rfl, hgw⟩ ; clear cv0 cv1 cv2 cv3 ; have HBvn := hide (HBv.out.gb hgw) ; clear HBv ; have HBv := hide HBvn.out ; clear HBvn ; have HGn := hide (gb_trans HG0.out hgw (.inl rfl)) ; clear HG0 ; have HG0 := hide HGn.out ; clear HGn ; obtain ⟨cv0, cv1, cv2, cv3⟩ := HBv.out.c4 ; clear hgw) | (go_at_call 24 ; refine (rCount_any v _ _ nA nc sA sc lA lc HT.out (Nat.le_refl _) HBv.out.vb).mono ?_ ; rintro e wj ⟨rfl, hgw⟩ ; clear cv0 cv1 cv2 cv3 ; have HBvn := hide (HBv.out.gb hgw) ; clear HBv ; have HBv := hide HBvn.out ; clear HBvn ; have HGn := hide (gb_trans HG0.out hgw (.inl rfl)) ; clear HG0 ; have HG0 := hide HGn.out ; clear HGn ; obtain ⟨cv0, cv1, cv2, cv3⟩ := HBv.out.c4 ; clear hgw))
        clear cv0 cv1 cv2 cv3
        refine (live7_any _).mono ?_
        rintro e wl ⟨rfl, hgl⟩
        have HGn := hide (gb_trans HG0.out hgl (.inl rfl))
        clear HG0 hgl
        go_wp2_with fail
        exact bodyPost_ret (v := .bool true) (by simp [results, Tryz.results5, go_sem]) rfl ⟨rfl, HGn.out⟩
    · by_cases h4 : (v.count : Int) < n
      · clear hno
        cases hv : rVec v.t
        · by_cases h2 : v.t = 0
          · have h3 : (v.t != 0) = false := by simp [h2]
            clear h2
            obtain ⟨cv0, cv1, cv2, cv3⟩ := HBv.out.c4
            go_wp2_with (first | (go_at_call 23 ; refine (rVec_any _ _ _ _ _).mono ?_ ; rintro e wi ⟨rfl, hgw⟩ ; clear cv0 cv1 cv2 cv3 ; have HBvn := hide (HBv.out.gb hgw) ; clear HBv ; have HBv := hide HBvn.out ; clear HBvn ; have HGn := hide (gb_trans HG0.out hgw (.inl rfl)) ; clear HG0 ; have HG0 := hide HGn.out ; clear HGn ; obtain ⟨cv0, cv1, cv2, cv3⟩ := HBv.out.c4 ; clear hgw) | (go_at_call 24 ; refine (rCount_any v _ _ nA nc sA sc lA lc HT.out (Nat.le_refl _) HBv.out.vb).mono ?_ ; rintro e wj ⟨rfl, hgw⟩ ; clear cv0 cv1 cv2 cv3 ; have HBvn := hide (HBv.out.gb hgw) ; clear HBv ; have HBv := hide HBvn.out ; clear HBvn ; have HGn := hide (gb_trans HG0.out hgw (.inl rfl)) ; clear HG0 ; have HG0 := hide HGn.out ; clear HGn ; obtain ⟨cv0, cv1, cv2, cv3⟩ := HBv.out.c4 ; clear hgw))
            clear cv0 cv1 cv2 cv3
            refine (live7_any _).mono ?_
            rintro e wl ⟨rfl, hgl⟩
            have HGn := hide (gb_trans HG0.out hgl (.inl rfl))
            clear HG0 hgl
            go_wp2_with fail
            exact bodyPost_ret (v := .bool true) (by simp [results, Tryz.results5, go_sem]) rfl ⟨rfl, HGn.out⟩
          · have h3 : (v.t != 0) = true := by simp [h2]
            clear h2
            obtain ⟨cv0, cv1, cv2, cv3⟩ := HBv.out.c4
            go_wp2_with (first | (go_at_call 23 ; refine (rVec_any _ _ _ _ _).mono ?_ ; rintro e wi ⟨rfl, hgw⟩ ; clear cv0 cv1 cv2 cv3 ; have HBvn := hide (HBv.out.gb hgw) ; clear HBv ; have HBv := hide HBvn.out ; clear HBvn ; have HGn := hide (gb_trans HG0.out hgw (.inl rfl)) ; clear HG0 ; have HG0 := hide HGn.out ; clear HGn ; obtain ⟨cv0, cv1, cv2, cv3⟩ := HBv.out.c4 ; clear hgw) | (go_at_call 24 ; refine (rCount_any v _ _ nA nc sA sc lA lc HT.out (Nat.le_refl _) HBv.out.vb).mono ?_ ; rintro e wj ⟨rfl, hgw⟩ ; clear cv0 cv1 cv2 cv3 ; have HBvn := hide (HBv.out.gb hgw) ; clear HBv ; have HBv := hide HBvn.out ; clear HBvn ; have HGn := hide (gb_trans HG0.out hgw (.inl rfl)) ; clear HG0 ; have HG0 := hide HGn.out ; clear HGn ; obtain ⟨cv0, cv1, cv2, cv3⟩ := HBv.out.c4 ; clear hgw))
            clear cv0 cv1 cv2 cv3
            refine (live7_any _).mono ?_
            rintro e wl ⟨rfl, hgl⟩
            have HGn := hide (gb_trans HG0.out hgl (.inl rfl))
            clear HG0 hgl
            go_wp2_with fail
            exact bodyPost_ret (v := .bool true) (by simp [results, Tryz.results5, go_sem]) rfl ⟨rfl, HGn.out⟩
        · skip
          obtain ⟨cv0, cv1, cv2, cv3⟩ := HBv.out.c4
          go_wp2_with (first | (go_at_call 23 ; refine (rVec_any _ _ _ _ _).mono ?_ ; rintro e wi ⟨rfl, hgw⟩ ; clear cv0 cv1 cv2 cv3 ; have HBvn := hide (HBv.out.gb hgw) ; clear HBv ; have HBv := hide HBvn.out ; clear HBvn ; have HGn := hide (gb_trans HG0.out hgw (.inl rfl)) ; clear HG0 ; have HG0 := hide HGn.out ; clear HGn ; obtain ⟨cv0, cv1, cv2, cv3⟩ := HBv.out.c4 ; clear hgw) | (go_at_call 24 ; refine (rCount_any v _ _ nA nc sA sc lA lc HT.out (Nat.le_refl _) HBv.out.vb).mono ?_ ; rintro e wj ⟨rfl, hgw⟩ ; clear cv0 cv1 cv2 cv3 ; have HBvn := hide (HBv.out.gb hgw) ; clear HBv ; have HBv := hide HBvn.out ; clear HBvn ; have HGn := hide (gb_trans HG0.out hgw (.inl rfl)) ; clear HG0 ; have HG0 := hide HGn.out ; clear HGn ; obtain ⟨cv0, cv1, cv2, cv3⟩ := HBv.out.c4 ; clear hgw))
          clear cv0 cv1 cv2 cv3
          refine (live7_any _).mono ?_
          rintro e wl ⟨rfl, hgl⟩
          have HGn := hide (gb_trans HG0.out hgl (.inl rfl))
          clear HG0 hgl
          go_wp2_with fail
          exact bodyPost_ret (v := .bool true) (by simp [results, Tryz.results5, go_sem]) rfl ⟨rfl, HGn.out⟩
      · have hs : ¬ seqT v.t := fun hs => hno ⟨hs, by omega, by omega⟩
        have hv : rVec v.t = false := by
          unfold rVec
          unfold seqT numT at hs
          simp
          omega
        have h3 : (v.t != 0) = true := by
          unfold seqT at hs
          simp
          omega
        clear hs hno h4 h0
        obtain ⟨cv0, cv1, cv2, cv3⟩ := HBv.out.c4
        go_wp2_with (first | (go_at_call 23 ; refine (rVec_any _ _ _ _ _).mono ?_ ; rintro e wi ⟨rfl, hgw⟩ ; clear cv0 cv1 cv2 cv3 ; have HBvn := hide (HBv.out.gb hgw) ; clear HBv ; have HBv := hide HBvn.out ; clear HBvn ; have HGn := hide (gb_trans HG0.out hgw (.inl rfl)) ; clear HG0 ; have HG0 := hide HGn.out ; clear HGn ; obtain ⟨cv0, cv1, cv2, cv3⟩ := HBv.out.c4 ; clear hgw) | (go_at_call 24 ; refine (rCount_any v _ _ nA nc sA sc lA lc HT.out (Nat.le_refl _) HBv.out.vb).mono ?_ ; rintro e wj ⟨rfl, hgw⟩ ; clear cv0 cv1 cv2 cv3 ; have HBvn := hide (HBv.out.gb hgw) ; clear HBv ; have HBv := hide HBvn.out ; clear HBvn ; have HGn := hide (gb_trans HG0.out hgw (.inl rfl)) ; clear HG0 ; have HG0 := hide HGn.out ; clear HGn ; obtain ⟨cv0, cv1, cv2, cv3⟩ := HBv.out.c4 ; clear hgw))
        clear cv0 cv1 cv2 cv3
        refine (live7_any _).mono ?_
        rintro e wl ⟨rfl, hgl⟩
        have HGn := hide (gb_trans HG0.out hgl (.inl rfl))
        clear HG0 hgl
        go_wp2_with fail
        exact bodyPost_ret (v := .bool true) (by simp [results, Tryz.results5, go_sem]) rfl ⟨rfl, HGn.out⟩
end Go.Proofs.YtnilcnobngcbgaaGreat

namespace Go.Proofs.YtnilcnobngcbgaaGreat
open Go.RowKit
attribute [local go_sem ↓] Go.wp_at_zero Go.wp_at_succ

set_option maxHeartbeats 8000000 in
set_option maxRecDepth 100000 in
theorem whole_vec (v a b d : Vl) (n : Int) (w : World) (nA : Option Addr) (nc : Nat) (sA : Option Addr) (sc : Nat) (lA : Option Addr) (lc : Nat)
    (ht : v.tot ≤ 1090000) (h : VB w w.heap.size v nA nc sA sc lA lc) (hv : rVec v.t = true) (hn0 : 0 ≤ n) (hn1 : n ≤ v.count) (hcn : v.count ≤ 65536)
    (htk : ∀ (w2 : World) (nA : Option Addr) (nc : Nat) (sA : Option Addr) (sc : Nat) (lA : Option Addr) (lc : Nat), VB w2 w2.heap.size v nA nc sA sc lA lc → Calls Tryz.prog 14 #[.int .i64 n, .agg #[.int .i64 v.t, .slice nA v.n.length nc, .slice sA v.s.length sc, .slice lA v.l.length lc]] w2 (TupV a w2))
    (hdr : ∀ (w2 : World) (nA : Option Addr) (nc : Nat) (sA : Option Addr) (sc : Nat) (lA : Option Addr) (lc : Nat), VB w2 w2.heap.size v nA nc sA sc lA lc → Calls Tryz.prog 16 #[.int .i64 n, .agg #[.int .i64 v.t, .slice nA v.n.length nc, .slice sA v.s.length sc, .slice lA v.l.length lc]] w2 (TupV b w2))
    (hjn : ∀ (w2 : World) (A : Option Addr) (c : Nat), RdV w2 w2.heap.size A [a, b] → Calls Tryz.prog 25 #[.slice A 2 c] w2 (TupV v w2))
    (hrv : ∀ (w2 : World) (nA : Option Addr) (nc : Nat) (sA : Option Addr) (sc : Nat) (lA : Option Addr) (lc : Nat), VB w2 w2.heap.size v nA nc sA sc lA lc → Calls Tryz.prog 10 #[.agg #[.int .i64 v.t, .slice nA v.n.length nc, .slice sA v.s.length sc, .slice lA v.l.length lc]] w2 (TupV d w2))
    (hrw : ∀ (w2 : World) (nA : Option Addr) (nc : Nat) (sA : Option Addr) (sc : Nat) (lA : Option Addr) (lc : Nat), VB w2 w2.heap.size d nA nc sA sc lA lc → Calls Tryz.prog 10 #[.agg #[.int .i64 d.t, .slice nA d.n.length nc, .slice sA d.s.length sc, .slice lA d.l.length lc]] w2 (TupV v w2))
    (hix : ∀ (w2 : World) (nA : Option Addr) (nc : Nat) (sA : Option Addr) (sc : Nat) (lA : Option Addr) (lc : Nat) (pA : Option Addr) (pc : Nat), VB w2 w2.heap.size v nA nc sA sc lA lc → Rd w2 w2.heap.size pA (i64s (rowI 0 v.count)) → Calls Tryz.prog 18 #[.agg #[.int .i64 v.t, .slice nA v.n.length nc, .slice sA v.s.length sc, .slice lA v.l.length lc], .slice pA v.count pc] w2 (TupV v w2)) :
    Calls Tryz.prog 5 #[.agg #[.int .i64 v.t, .slice nA v.n.length nc, .slice sA v.s.length sc, .slice lA v.l.length lc], .int .i64 n] w fun e w' => e = .returned (.bool true) ∧ w.grownBy w' none := by
  have HT := hide (show v.tot ≤ 1100000 by omega)
  have HCN := hide hcn
  have hn2 : ¬ n < 0 := by omega
  have hn3 : ¬ (v.count : Int) < n := by omega
  have HTK := hide htk
  have HDR := hide hdr
  have HJN := hide hjn
  have HRV := hide hrv
  have HRW := hide hrw
  have HIX := hide hix
  clear hcn hn0 hn1 htk hdr hjn hrv hrw hix
  obtain ⟨i1, hi1, hiz, his, hib⟩ := info_parts Tryz.info64
  have HI1 := hide hi1
  have HIZ := hide hiz
  have HIS := hide his
  have HIB := hide hib
  clear hi1 hiz his hib
  obtain ⟨wa, hwa⟩ : ∃ wa, wa = w.alloc (.cells #[.int .i64 v.t, .slice nA v.n.length nc, .slice sA v.s.length sc, .slice lA v.l.length lc] 26) := ⟨_, rfl⟩
  have hga : w.grownBy wa none := by rw [hwa]; exact gb_alloc (gb_refl w none) _
  have hsa : wa.heap.size = w.heap.size + 1 := by rw [hwa, World.size_alloc]
  have hba : BoxE wa w.heap.size v nA nc sA sc lA lc := by rw [hwa]; exact BoxE.new h
  obtain ⟨wb, hwb⟩ : ∃ wb, wb = wa.alloc (.cells #[.int .i64 v.t, .slice nA v.n.length nc, .slice sA v.s.length sc, .slice lA v.l.length lc] 26) := ⟨_, rfl⟩
  have hgb : wa.grownBy wb none := by rw [hwb]; exact gb_alloc (gb_refl wa none) _
  have hrb : RdV wb (wa.heap.size + 1) (some ⟨wa.heap.size, 0, none⟩) [v] := by rw [hwb]; exact rdV_one hba.vb.at_
  have HR : Hid (Calls Tryz.prog 6 #[.slice (some ⟨w.heap.size + 1, 0, none⟩) 1 1] wb (RightR [v] wb)) := hide (by
    have hx := right7_any [v] wb (wa.heap.size + 1) (some ⟨wa.heap.size, 0, none⟩) 1 (by simp only [Vl.tots]; omega) (by rw [hwb, World.size_alloc]; exact Nat.le_refl _) hrb
    rw [hsa] at hx
    exact hx)
  have HBv := hide (hba.gb hgb)
  have HG0 := hide (gb_trans hga hgb (.inl rfl))
  have HWA := hide hwa
  have HWB := hide hwb
  obtain ⟨d0, d1, d2, d3⟩ := C4.box w (.int .i64 v.t) (.slice nA v.n.length nc) (.slice sA v.s.length sc) (.slice lA v.l.length lc) 26
  clear h hga hsa hba hgb hrb hwa hwb
  go_enter Tryz.func5, Tryz.ntmps5
  go_wp2_with fail
  rw [← HWA.out, ← HWB.out]
  clear d0 d1 d2 d3
  refine HR.out.mono ?_
  rintro e w1 ⟨bb, rfl, _, hgw⟩
  have HBvn := hide (HBv.out.gb hgw)
  clear HBv
  have HBv := hide HBvn.out
  clear HBvn
  have HGn := hide (gb_trans HG0.out hgw (.inl rfl))
  clear HG0
  have HG0 := hide HGn.out
  clear HGn
  clear HR hgw
  cases bb
  · clear HBv HTK HDR HJN HRV HRW HIX
    go_wp2_with fail
    refine (live7_any _).mono ?_
    rintro e wl ⟨rfl, hgl⟩
    have HGn := hide (gb_trans HG0.out hgl (.inl rfl))
    clear HG0 hgl
    go_wp2_with fail
    exact bodyPost_ret (v := .bool true) (by simp [results, Tryz.results5, go_sem]) rfl ⟨rfl, HGn.out⟩
  · skip
    obtain ⟨cv0, cv1, cv2, cv3⟩ := HBv.out.c4
    go_wp2_with (first | (go_at_call 23 ; refine (rVec_any _ _ _ _ _).mono ?_ ; rintro e wi ⟨rfl, hgw⟩ ; clear cv0 cv1 cv2 cv3 ; have HBvn := hide (HBv.out.gb hgw) ; clear HBv ; have HBv := hide HBvn.out ; clear HBvn ; have HGn := hide (gb_trans HG0.out hgw (.inl rfl)) ; clear HG0 ; have HG0 := hide HGn.out ; clear HGn ; obtain ⟨cv0, cv1, cv2, cv3⟩ := HBv.out.c4 ; clear hgw) | (go_at_call 24 ; refine (rCount_any v _ _ nA nc sA sc lA lc HT.out (Nat.le_refl _) HBv.out.vb).mono ?_ ; rintro e wj ⟨rfl, hgw⟩ ; clear cv0 cv1 cv2 cv3 ; have HBvn := hide (HBv.out.gb hgw) ; clear HBv ; have HBv := hide HBvn.out ; clear HBvn ; have HGn := hide (gb_trans HG0.out hgw (.inl rfl)) ; clear HG0 ; have HG0 := hide HGn.out ; clear HGn ; obtain ⟨cv0, cv1, cv2, cv3⟩ := HBv.out.c4 ; clear hgw))
    refine (HTK.out _ nA nc sA sc lA lc HBv.out.vb).mono ?_
    rintro e w2 ⟨anA, anc, asA, asc, alA, alc, f, rfl, ho, _, hgw⟩
    clear cv0 cv1 cv2 cv3
    have HBvn := hide (HBv.out.gb hgw)
    clear HBv
    have HBv := hide HBvn.out
    clear HBvn
    have HGn := hide (gb_trans HG0.out hgw (.inl rfl))
    clear HG0
    have HG0 := hide HGn.out
    clear HGn
    clear hgw
    have HVa := hide ho.vb
    clear ho
    obtain ⟨cv0, cv1, cv2, cv3⟩ := HBv.out.c4a (.cells #[.int .i64 a.t, .slice anA a.n.length anc, .slice asA a.s.length asc, .slice alA a.l.length alc] 26)
    go_wp2_with fail
    obtain ⟨w3, hw⟩ : ∃ w3, w3 = w2.alloc (.cells #[.int .i64 a.t, .slice anA a.n.length anc, .slice asA a.s.length asc, .slice alA a.l.length alc] 26) := ⟨_, rfl⟩
    have hgw : w2.grownBy w3 none := by rw [hw]; exact gb_alloc (gb_refl w2 none) _
    have hsw : w3.heap.size = w2.heap.size + 1 := by rw [hw, World.size_alloc]
    have HBvn := hide (HBv.out.gb hgw)
    clear HBv
    have HBv := hide HBvn.out
    clear HBvn
    have HGn := hide (gb_trans HG0.out hgw (.inl rfl))
    clear HG0
    have HG0 := hide HGn.out
    clear HGn
    have HBa := hide (show BoxE w3 w2.heap.size a anA anc asA asc alA alc by rw [hw]; exact BoxE.new HVa.out)
    rw [← hw]
    clear HVa hgw hw
    clear cv0 cv1 cv2 cv3
    clear HTK hsw
    refine (HDR.out _ nA nc sA sc lA lc HBv.out.vb).mono ?_
    rintro e w4 ⟨bnA, bnc, bsA, bsc, blA, blc, f, rfl, ho, _, hgw⟩
    have HBvn := hide (HBv.out.gb hgw)
    clear HBv
    have HBv := hide HBvn.out
    clear HBvn
    have HBan := hide (HBa.out.gb hgw)
    clear HBa
    have HBa := hide HBan.out
    clear HBan
    have HGn := hide (gb_trans HG0.out hgw (.inl rfl))
    clear HG0
    have HG0 := hide HGn.out
    clear HGn
    clear hgw
    have HVb := hide ho.vb
    clear ho
    obtain ⟨ca0, ca1, ca2, ca3⟩ := HBa.out.c4a (.cells #[.int .i64 b.t, .slice bnA b.n.length bnc, .slice bsA b.s.length bsc, .slice blA b.l.length blc] 26)
    obtain ⟨n0, n1, n2, n3⟩ := C4.box w4 (.int .i64 b.t) (.slice bnA b.n.length bnc) (.slice bsA b.s.length bsc) (.slice blA b.l.length blc) 26
    go_wp2_with fail
    obtain ⟨w5, hw⟩ : ∃ w5, w5 = w4.alloc (.cells #[.int .i64 b.t, .slice bnA b.n.length bnc, .slice bsA b.s.length bsc, .slice blA b.l.length blc] 26) := ⟨_, rfl⟩
    have hgw : w4.grownBy w5 none := by rw [hw]; exact gb_alloc (gb_refl w4 none) _
    have hsw : w5.heap.size = w4.heap.size + 1 := by rw [hw, World.size_alloc]
    have HBvn := hide (HBv.out.gb hgw)
    clear HBv
    have HBv := hide HBvn.out
    clear HBvn
    have HBan := hide (HBa.out.gb hgw)
    clear HBa
    have HBa := hide HBan.out
    clear HBan
    have HGn := hide (gb_trans HG0.out hgw (.inl rfl))
    clear HG0
    have HG0 := hide HGn.out
    clear HGn
    have HBb := hide (show BoxE w5 w4.heap.size b bnA bnc bsA bsc blA blc by rw [hw]; exact BoxE.new HVb.out)
    rw [← hw]
    clear HVb hgw hw
    clear ca0 ca1 ca2 ca3
    clear n0 n1 n2 n3
    clear HDR
    have hrd := rdV_two HBa.out.vb HBb.out.vb
    obtain ⟨w6, hw⟩ : ∃ w6, w6 = w5.alloc (.cells #[.int .i64 a.t, .slice anA a.n.length anc, .slice asA a.s.length asc, .slice alA a.l.length alc, .int .i64 b.t, .slice bnA b.n.length bnc, .slice bsA b.s.length bsc, .slice blA b.l.length blc] 26) := ⟨_, rfl⟩
    rw [← hw] at hrd ⊢
    rw [hsw] at hrd
    have hgw : w5.grownBy w6 none := by rw [hw]; exact gb_alloc (gb_refl w5 none) _
    have HRD := hide hrd
    clear HBa HBb hrd hsw
    have HBvn := hide (HBv.out.gb hgw)
    clear HBv
    have HBv := hide HBvn.out
    clear HBvn
    have HGn := hide (gb_trans HG0.out hgw (.inl rfl))
    clear HG0
    have HG0 := hide HGn.out
    clear HGn
    clear hgw hw
    refine (HJN.out _ _ _ HRD.out).mono ?_
    rintro e w7 ⟨cnA, cnc, csA, csc, clA, clc, f, rfl, ho, _, hgw⟩
    have HBvn := hide (HBv.out.gb hgw)
    clear HBv
    have HBv := hide HBvn.out
    clear HBvn
    have HGn := hide (gb_trans HG0.out hgw (.inl rfl))
    clear HG0
    have HG0 := hide HGn.out
    clear HGn
    clear hgw
    have HVc := hide ho.vb
    clear ho
    obtain ⟨cv0, cv1, cv2, cv3⟩ := HBv.out.c4a (.cells #[.int .i64 v.t, .slice cnA v.n.length cnc, .slice csA v.s.length csc, .slice clA v.l.length clc] 26)
    go_wp2_with fail
    obtain ⟨w8, hw⟩ : ∃ w8, w8 = w7.alloc (.cells #[.int .i64 v.t, .slice cnA v.n.length cnc, .slice csA v.s.length csc, .slice clA v.l.length clc] 26) := ⟨_, rfl⟩
    have hgw : w7.grownBy w8 none := by rw [hw]; exact gb_alloc (gb_refl w7 none) _
    have hsw : w8.heap.size = w7.heap.size + 1 := by rw [hw, World.size_alloc]
    have HBvn := hide (HBv.out.gb hgw)
    clear HBv
    have HBv := hide HBvn.out
    clear HBvn
    have HGn := hide (gb_trans HG0.out hgw (.inl rfl))
    clear HG0
    have HG0 := hide HGn.out
    clear HGn
    have HBc := hide (show BoxE w8 w7.heap.size v cnA cnc csA csc clA clc by rw [hw]; exact BoxE.new HVc.out)
    rw [← hw]
    clear HVc hgw hw
    clear cv0 cv1 cv2 cv3
    clear HJN HRD hsw
    refine (HRV.out _ nA nc sA sc lA lc HBv.out.vb).mono ?_
    rintro e w9 ⟨dnA, dnc, dsA, dsc, dlA, dlc, f, rfl, ho, _, hgw⟩
    have HBvn := hide (HBv.out.gb hgw)
    clear HBv
    have HBv := hide HBvn.out
    clear HBvn
    have HBcn := hide (HBc.out.gb hgw)
    clear HBc
    have HBc := hide HBcn.out
    clear HBcn
    have HGn := hide (gb_trans HG0.out hgw (.inl rfl))
    clear HG0
    have HG0 := hide HGn.out
    clear HGn
    clear hgw
    have HVd := hide ho.vb
    clear ho
    obtain ⟨n0, n1, n2, n3⟩ := C4.box w9 (.int .i64 d.t) (.slice dnA d.n.length dnc) (.slice dsA d.s.length dsc) (.slice dlA d.l.length dlc) 26
    go_wp2_with fail
    obtain ⟨w10, hw⟩ : ∃ w10, w10 = w9.alloc (.cells #[.int .i64 d.t, .slice dnA d.n.length dnc, .slice dsA d.s.length dsc, .slice dlA d.l.length dlc] 26) := ⟨_, rfl⟩
    have hgw : w9.grownBy w10 none := by rw [hw]; exact gb_alloc (gb_refl w9 none) _
    have hsw : w10.heap.size = w9.heap.size + 1 := by rw [hw, World.size_alloc]
    have HBvn := hide (HBv.out.gb hgw)
    clear HBv
    have HBv := hide HBvn.out
    clear HBvn
    have HBcn := hide (HBc.out.gb hgw)
    clear HBc
    have HBc := hide HBcn.out
    clear HBcn
    have HGn := hide (gb_trans HG0.out hgw (.inl rfl))
    clear HG0
    have HG0 := hide HGn.out
    clear HGn
    have HBd := hide (show BoxE w10 w9.heap.size d dnA dnc dsA dsc dlA dlc by rw [hw]; exact BoxE.new HVd.out)
    rw [← hw]
    clear HVd hgw hw
    clear n0 n1 n2 n3
    clear HRV hsw
    refine (HRW.out _ dnA dnc dsA dsc dlA dlc HBd.out.vb).mono ?_
    rintro e w11 ⟨xnA, xnc, xsA, xsc, xlA, xlc, f, rfl, ho, _, hgw⟩
    have HBvn := hide (HBv.out.gb hgw)
    clear HBv
    have HBv := hide HBvn.out
    clear HBvn
    have HBcn := hide (HBc.out.gb hgw)
    clear HBc
    have HBc := hide HBcn.out
    clear HBcn
    have HBdn := hide (HBd.out.gb hgw)
    clear HBd
    have HBd := hide HBdn.out
    clear HBdn
    have HGn := hide (gb_trans HG0.out hgw (.inl rfl))
    clear HG0
    have HG0 := hide HGn.out
    clear HGn
    clear hgw
    have HVx := hide ho.vb
    clear ho
    go_wp2_with fail
    obtain ⟨w12, hw⟩ : ∃ w12, w12 = w11.alloc (.cells #[.int .i64 v.t, .slice xnA v.n.length xnc, .slice xsA v.s.length xsc, .slice xlA v.l.length xlc] 26) := ⟨_, rfl⟩
    have hgw : w11.grownBy w12 none := by rw [hw]; exact gb_alloc (gb_refl w11 none) _
    have hsw : w12.heap.size = w11.heap.size + 1 := by rw [hw, World.size_alloc]
    have HBvn := hide (HBv.out.gb hgw)
    clear HBv
    have HBv := hide HBvn.out
    clear HBvn
    have HBcn := hide (HBc.out.gb hgw)
    clear HBc
    have HBc := hide HBcn.out
    clear HBcn
    have HBdn := hide (HBd.out.gb hgw)
    clear HBd
    have HBd := hide HBdn.out
    clear HBdn
    have HGn := hide (gb_trans HG0.out hgw (.inl rfl))
    clear HG0
    have HG0 := hide HGn.out
    clear HGn
    have HBx := hide (show BoxE w12 w11.heap.size v xnA xnc xsA xsc xlA xlc by rw [hw]; exact BoxE.new HVx.out)
    rw [← hw]
    clear HVx hgw hw
    clear HRW hsw HBd
    go_loopw [15, 16] (fun u i wr => ∃ j : Nat, i = .int .i64 (j : Int) ∧ j ≤ v.count ∧ wr.ownsRow w12.heap.size 2 1 u j (i64s (rowI 0 j)) ∧ w12.grownBy wr none) (fun _ i _ => v.count - (intOf i).toNat)
    case atStart => exact ⟨0, rfl, Nat.zero_le _, World.ownsRow_nil _ _ _ _, gb_refl w12 none⟩
    case round =>
      obtain ⟨j, rfl, hj, how, hgr⟩ := hrel
      have HGR := hide hgr
      have hbv := HBv.out.gb hgr
      by_cases hlt : j < v.count
      · have hlt1 : (j : Int) < (v.count : Int) := by omega
        have h6 : IntKind.i64.wrap ((j : Int) + 1) = ((j + 1 : Nat) : Int) := by rw [IntKind.wrap_i64]; have := HCN.out; omega
        have HLT := hide hlt
        have HOW := hide how
        obtain ⟨cv0, cv1, cv2, cv3⟩ := hbv.c4
        have HVB := hide hbv.vb
        clear hlt hj how hgr hbv
        go_wp2_with (first
          | (go_at_call 24; refine (rCount_any v _ _ nA nc sA sc lA lc HT.out (Nat.le_refl _) HVB.out).mono ?_; rintro e w13 ⟨rfl, hg3⟩; have HG3 := hide hg3; have HOW3 := hide ((HOW.out.kept hg3 (by cases hq : u15.ownBlock <;> simp)).alloc (.cells #[.int .i64 (j : Int)] 2)); have HR3 := hide (rd_lit w13 #[.int .i64 (j : Int)] 2 [.int .i64 (j : Int)] rfl); clear hg3)
          | (at_builtin
             have hj := HLT.out
             have hcn := HCN.out
             refine wpList_append_rd _ rfl (.tmp 79) (.tmp 81) 22 rfl w12.heap.size 2 i1 (.int .i64 0) 1 8 Tryz.underlying22 HI1.out HIZ.out HIS.out HIB.out rfl (Nat.succ_pos 0) u15 j (i64s (rowI 0 j)) rfl HOW3.out _ (some ⟨w13.heap.size, 0, none⟩) 1 1 [.int .i64 (j : Int)] rfl rfl HR3.out (cell1 _ _) (by unfold maxLen; omega) (by omega) (by have h1 := HGR.out.size; have h2 := HG3.out.size; rw [World.size_alloc]; omega) ?_
             intro v8 w14 ho8 hg8 hl8
             have HFIN := hide (show w14.ownsRow w12.heap.size 2 1 v8 (j + 1) (i64s (rowI 0 (j + 1))) ∧ w12.grownBy w14 none from by
               have how := HOW.out
               refine ⟨?_, gb_trans (gb_alloc (gb_trans HGR.out HG3.out (.inl rfl)) _) hg8 (match hq : u15.ownBlock with | none => .inr (.inl rfl) | some g => .inr (.inr ⟨g, rfl, (how.lt g hq).1⟩))⟩
               have e : i64s (rowI 0 (j + 1)) = i64s (rowI 0 j) ++ [.int .i64 (j : Int)] := by
                 rw [show rowI 0 (j + 1) = rowI 0 j ++ [0 + (j : Int)] from rfl, i64s_app, Int.zero_add]; rfl
               rw [e]
               exact ho8)
             clear ho8 hg8 hl8 hj hcn))
        go_roundw
        case rel => exact ⟨j + 1, by go_num, by have := HLT.out; omega, HFIN.out.1, HFIN.out.2⟩
        case measure => have := HLT.out; simp [intOf]; omega
      · have hlt1 : ¬ (j : Int) < (v.count : Int) := by omega
        obtain rfl : j = v.count := by omega
        obtain ⟨pA, pc, rfl, _⟩ := own_slice how
        have HRD := hide (Rd.of_own how)
        clear how hlt hj hbv
        have HBvn := hide (HBv.out.gb hgr)
        clear HBv
        have HBv := hide HBvn.out
        clear HBvn
        have HBcn := hide (HBc.out.gb hgr)
        clear HBc
        have HBc := hide HBcn.out
        clear HBcn
        have HBxn := hide (HBx.out.gb hgr)
        clear HBx
        have HBx := hide HBxn.out
        clear HBxn
        have HGn := hide (gb_trans HG0.out hgr (.inl rfl))
        clear HG0
        have HG0 := hide HGn.out
        clear HGn
        clear hgr
        obtain ⟨cv0, cv1, cv2, cv3⟩ := HBv.out.c4
        go_wp2_with (first | (go_at_call 24; refine (rCount_any v _ _ nA nc sA sc lA lc HT.out (Nat.le_refl _) HBv.out.vb).mono ?_; rintro e w13 ⟨rfl, hg3⟩; clear cv0 cv1 cv2 cv3; have HBvn := hide (HBv.out.gb hg3); clear HBv; have HBv := hide HBvn.out; clear HBvn; have HBcn := hide (HBc.out.gb hg3); clear HBc; have HBc := hide HBcn.out; clear HBcn; have HBxn := hide (HBx.out.gb hg3); clear HBx; have HBx := hide HBxn.out; clear HBxn; have HGn := hide (gb_trans HG0.out hg3 (.inl rfl)); clear HG0; have HG0 := hide HGn.out; clear HGn; obtain ⟨cv0, cv1, cv2, cv3⟩ := HBv.out.c4; have HRDn := hide ((HRD.out.grown hg3 (Nat.le_refl _) (by simp)).more hg3.size); clear HRD; have HRD := hide HRDn.out; clear HRDn hg3))
        refine (HIX.out _ nA nc sA sc lA lc _ _ HBv.out.vb HRD.out).mono ?_
        rintro e w14 ⟨ynA, ync, ysA, ysc, ylA, ylc, f, rfl, ho, _, hgw⟩
        clear cv0 cv1 cv2 cv3
        have HBvn := hide (HBv.out.gb hgw)
        clear HBv
        have HBv := hide HBvn.out
        clear HBvn
        have HBcn := hide (HBc.out.gb hgw)
        clear HBc
        have HBc := hide HBcn.out
        clear HBcn
        have HBxn := hide (HBx.out.gb hgw)
        clear HBx
        have HBx := hide HBxn.out
        clear HBxn
        have HGn := hide (gb_trans HG0.out hgw (.inl rfl))
        clear HG0
        have HG0 := hide HGn.out
        clear HGn
        clear hgw
        have HVy := hide ho.vb
        clear ho
        go_wp2_with fail
        obtain ⟨w15, hw⟩ : ∃ w15, w15 = w14.alloc (.cells #[.int .i64 v.t, .slice ynA v.n.length ync, .slice ysA v.s.length ysc, .slice ylA v.l.length ylc] 26) := ⟨_, rfl⟩
        have hgw : w14.grownBy w15 none := by rw [hw]; exact gb_alloc (gb_refl w14 none) _
        have hsw : w15.heap.size = w14.heap.size + 1 := by rw [hw, World.size_alloc]
        have HBvn := hide (HBv.out.gb hgw)
        clear HBv
        have HBv := hide HBvn.out
        clear HBvn
        have HBcn := hide (HBc.out.gb hgw)
        clear HBc
        have HBc := hide HBcn.out
        clear HBcn
        have HBxn := hide (HBx.out.gb hgw)
        clear HBx
        have HBx := hide HBxn.out
        clear HBxn
        have HGn := hide (gb_trans HG0.out hgw (.inl rfl))
        clear HG0
        have HG0 := hide HGn.out
        clear HGn
        have HBy := hide (show BoxE w15 w14.heap.size v ynA ync ysA ysc ylA ylc by rw [hw]; exact BoxE.new HVy.out)
        rw [← hw]
        clear HVy hgw hw
        clear HIX HRD hsw
        obtain ⟨cv0, cv1, cv2, cv3⟩ := HBv.out.c4
        obtain ⟨cx0, cx1, cx2, cx3⟩ := HBx.out.c4
        obtain ⟨cy0, cy1, cy2, cy3⟩ := HBy.out.c4
        obtain ⟨cc0, cc1, cc2, cc3⟩ := HBc.out.c4
        have HSR := hide (Vl.same_refl v)
        refine (num7_any _ _).mono ?_
        rintro e wn ⟨rfl, rfl⟩
        go_wp2_with fail
        refine (num7_any _ _).mono ?_
        rintro e wn ⟨rfl, rfl⟩
        go_wp2_with fail
        refine (num7_any _ _).mono ?_
        rintro e wn ⟨rfl, rfl⟩
        go_wp2_with fail
        refine (num7_any _ _).mono ?_
        rintro e wn ⟨rfl, rfl⟩
        go_wp2_with fail
        refine (num7_any _ _).mono ?_
        rintro e wn ⟨rfl, rfl⟩
        go_wp2_with fail
        refine (rMatch_any v v _ _ xnA xnc xsA xsc xlA xlc nA nc sA sc lA lc HT.out HT.out (Nat.le_refl _) HBx.out.vb HBv.out.vb).mono ?_
        rintro e wm ⟨rfl, hgm⟩
        rw [HSR.out]
        clear cv0 cv1 cv2 cv3 cx0 cx1 cx2 cx3 cy0 cy1 cy2 cy3 cc0 cc1 cc2 cc3
        have HBvn := hide (HBv.out.gb hgm)
        clear HBv
        have HBv := hide HBvn.out
        clear HBvn
        have HBcn := hide (HBc.out.gb hgm)
        clear HBc
        have HBc := hide HBcn.out
        clear HBcn
        have HBxn := hide (HBx.out.gb hgm)
        clear HBx
        have HBx := hide HBxn.out
        clear HBxn
        have HByn := hide (HBy.out.gb hgm)
        clear HBy
        have HBy := hide HByn.out
        clear HByn
        have HGn := hide (gb_trans HG0.out hgm (.inl rfl))
        clear HG0
        have HG0 := hide HGn.out
        clear HGn
        obtain ⟨cv0, cv1, cv2, cv3⟩ := HBv.out.c4
        obtain ⟨cx0, cx1, cx2, cx3⟩ := HBx.out.c4
        obtain ⟨cy0, cy1, cy2, cy3⟩ := HBy.out.c4
        obtain ⟨cc0, cc1, cc2, cc3⟩ := HBc.out.c4
        clear hgm
        go_wp2_with fail
        refine (rMatch_any v v _ _ ynA ync ysA ysc ylA ylc nA nc sA sc lA lc HT.out HT.out (Nat.le_refl _) HBy.out.vb HBv.out.vb).mono ?_
        rintro e wm ⟨rfl, hgm⟩
        rw [HSR.out]
        clear cv0 cv1 cv2 cv3 cx0 cx1 cx2 cx3 cy0 cy1 cy2 cy3 cc0 cc1 cc2 cc3
        have HBvn := hide (HBv.out.gb hgm)
        clear HBv
        have HBv := hide HBvn.out
        clear HBvn
        have HBcn := hide (HBc.out.gb hgm)
        clear HBc
        have HBc := hide HBcn.out
        clear HBcn
        have HBxn := hide (HBx.out.gb hgm)
        clear HBx
        have HBx := hide HBxn.out
        clear HBxn
        have HByn := hide (HBy.out.gb hgm)
        clear HBy
        have HBy := hide HByn.out
        clear HByn
        have HGn := hide (gb_trans HG0.out hgm (.inl rfl))
        clear HG0
        have HG0 := hide HGn.out
        clear HGn
        obtain ⟨cv0, cv1, cv2, cv3⟩ := HBv.out.c4
        obtain ⟨cx0, cx1, cx2, cx3⟩ := HBx.out.c4
        obtain ⟨cy0, cy1, cy2, cy3⟩ := HBy.out.c4
        obtain ⟨cc0, cc1, cc2, cc3⟩ := HBc.out.c4
        clear hgm
        go_wp2_with fail
        refine (num7_any _ _).mono ?_
        rintro e wn ⟨rfl, rfl⟩
        go_wp2_with fail
        refine (rMatch_any v v _ _ cnA cnc csA csc clA clc nA nc sA sc lA lc HT.out HT.out (Nat.le_refl _) HBc.out.vb HBv.out.vb).mono ?_
        rintro e wm ⟨rfl, hgm⟩
        rw [HSR.out]
        clear cv0 cv1 cv2 cv3 cx0 cx1 cx2 cx3 cy0 cy1 cy2 cy3 cc0 cc1 cc2 cc3
        have HBvn := hide (HBv.out.gb hgm)
        clear HBv
        have HBv := hide HBvn.out
        clear HBvn
        have HBcn := hide (HBc.out.gb hgm)
        clear HBc
        have HBc := hide HBcn.out
        clear HBcn
        have HBxn := hide (HBx.out.gb hgm)
        clear HBx
        have HBx := hide HBxn.out
        clear HBxn
        have HByn := hide (HBy.out.gb hgm)
        clear HBy
        have HBy := hide HByn.out
        clear HByn
        have HGn := hide (gb_trans HG0.out hgm (.inl rfl))
        clear HG0
        have HG0 := hide HGn.out
        clear HGn
        obtain ⟨cv0, cv1, cv2, cv3⟩ := HBv.out.c4
        obtain ⟨cx0, cx1, cx2, cx3⟩ := HBx.out.c4
        obtain ⟨cy0, cy1, cy2, cy3⟩ := HBy.out.c4
        obtain ⟨cc0, cc1, cc2, cc3⟩ := HBc.out.c4
        clear hgm
        go_wp2_with fail
        refine (live7_any _).mono ?_
        rintro e wl ⟨rfl, hgl⟩
        have HGN := hide (gb_trans HG0.out hgl (.inl rfl))
        clear hgl
        go_wp2_with fail
        exact bodyPost_ret (v := .bool true) (by simp [results, Tryz.results5, go_sem]) rfl ⟨rfl, HGN.out⟩
end Go.Proofs.YtnilcnobngcbgaaGreat

namespace Go.Proofs.YtnilcnobngcbgaaGreat
open Go.RowKit
attribute [local go_sem ↓] Go.wp_at_zero Go.wp_at_succ

set_option maxHeartbeats 8000000 in
set_option maxRecDepth 100000 in
theorem whole_lst (v a b d : Vl) (n : Int) (w : World) (nA : Option Addr) (nc : Nat) (sA : Option Addr) (sc : Nat) (lA : Option Addr) (lc : Nat)
    (ht : v.tot ≤ 1090000) (h : VB w w.heap.size v nA nc sA sc lA lc) (hv : rVec v.t = false) (h3 : (v.t != 0) = false) (hn0 : 0 ≤ n) (hn1 : n ≤ v.count) (hcn : v.count ≤ 65536)
    (htk : ∀ (w2 : World) (nA : Option Addr) (nc : Nat) (sA : Option Addr) (sc : Nat) (lA : Option Addr) (lc : Nat), VB w2 w2.heap.size v nA nc sA sc lA lc → Calls Tryz.prog 14 #[.int .i64 n, .agg #[.int .i64 v.t, .slice nA v.n.length nc, .slice sA v.s.length sc, .slice lA v.l.length lc]] w2 (TupV a w2))
    (hdr : ∀ (w2 : World) (nA : Option Addr) (nc : Nat) (sA : Option Addr) (sc : Nat) (lA : Option Addr) (lc : Nat), VB w2 w2.heap.size v nA nc sA sc lA lc → Calls Tryz.prog 16 #[.int .i64 n, .agg #[.int .i64 v.t, .slice nA v.n.length nc, .slice sA v.s.length sc, .slice lA v.l.length lc]] w2 (TupV b w2))
    (hjn : ∀ (w2 : World) (A : Option Addr) (c : Nat), RdV w2 w2.heap.size A [a, b] → Calls Tryz.prog 25 #[.slice A 2 c] w2 (TupV v w2))
    (hrv : ∀ (w2 : World) (nA : Option Addr) (nc : Nat) (sA : Option Addr) (sc : Nat) (lA : Option Addr) (lc : Nat), VB w2 w2.heap.size v nA nc sA sc lA lc → Calls Tryz.prog 10 #[.agg #[.int .i64 v.t, .slice nA v.n.length nc, .slice sA v.s.length sc, .slice lA v.l.length lc]] w2 (TupV d w2))
    (hrw : ∀ (w2 : World) (nA : Option Addr) (nc : Nat) (sA : Option Addr) (sc : Nat) (lA : Option Addr) (lc : Nat), VB w2 w2.heap.size d nA nc sA sc lA lc → Calls Tryz.prog 10 #[.agg #[.int .i64 d.t, .slice nA d.n.length nc, .slice sA d.s.length sc, .slice lA d.l.length lc]] w2 (TupV v w2))
    (hix : ∀ (w2 : World) (nA : Option Addr) (nc : Nat) (sA : Option Addr) (sc : Nat) (lA : Option Addr) (lc : Nat) (pA : Option Addr) (pc : Nat), VB w2 w2.heap.size v nA nc sA sc lA lc → Rd w2 w2.heap.size pA (i64s (rowI 0 v.count)) → Calls Tryz.prog 18 #[.agg #[.int .i64 v.t, .slice nA v.n.length nc, .slice sA v.s.length sc, .slice lA v.l.length lc], .slice pA v.count pc] w2 (TupV v w2)) :
    Calls Tryz.prog 5 #[.agg #[.int .i64 v.t, .slice nA v.n.length nc, .slice sA v.s.length sc, .slice lA v.l.length lc], .int .i64 n] w fun e w' => e = .returned (.bool true) ∧ w.grownBy w' none := by
  have HT := hide (show v.tot ≤ 1100000 by omega)
  have HCN := hide hcn
  have hn2 : ¬ n < 0 := by omega
  have hn3 : ¬ (v.count : Int) < n := by omega
  have HTK := hide htk
  have HDR := hide hdr
  have HJN := hide hjn
  have HRV := hide hrv
  have HRW := hide hrw
  have HIX := hide hix
  clear hcn hn0 hn1 htk hdr hjn hrv hrw hix
  obtain ⟨i1, hi1, hiz, his, hib⟩ := info_parts Tryz.info64
  have HI1 := hide hi1
  have HIZ := hide hiz
  have HIS := hide his
  have HIB := hide hib
  clear hi1 hiz his hib
  obtain ⟨wa, hwa⟩ : ∃ wa, wa = w.alloc (.cells #[.int .i64 v.t, .slice nA v.n.length nc, .slice sA v.s.length sc, .slice lA v.l.length lc] 26) := ⟨_, rfl⟩
  have hga : w.grownBy wa none := by rw [hwa]; exact gb_alloc (gb_refl w none) _
  have hsa : wa.heap.size = w.heap.size + 1 := by rw [hwa, World.size_alloc]
  have hba : BoxE wa w.heap.size v nA nc sA sc lA lc := by rw [hwa]; exact BoxE.new h
  obtain ⟨wb, hwb⟩ : ∃ wb, wb = wa.alloc (.cells #[.int .i64 v.t, .slice nA v.n.length nc, .slice sA v.s.length sc, .slice lA v.l.length lc] 26) := ⟨_, rfl⟩
  have hgb : wa.grownBy wb none := by rw [hwb]; exact gb_alloc (gb_refl wa none) _
  have hrb : RdV wb (wa.heap.size + 1) (some ⟨wa.heap.size, 0, none⟩) [v] := by rw [hwb]; exact rdV_one hba.vb.at_
  have HR : Hid (Calls Tryz.prog 6 #[.slice (some ⟨w.heap.size + 1, 0, none⟩) 1 1] wb (RightR [v] wb)) := hide (by
    have hx := right7_any [v] wb (wa.heap.size + 1) (some ⟨wa.heap.size, 0, none⟩) 1 (by simp only [Vl.tots]; omega) (by rw [hwb, World.size_alloc]; exact Nat.le_refl _) hrb
    rw [hsa] at hx
    exact hx)
  have HBv := hide (hba.gb hgb)
  have HG0 := hide (gb_trans hga hgb (.inl rfl))
  have HWA := hide hwa
  have HWB := hide hwb
  obtain ⟨d0, d1, d2, d3⟩ := C4.box w (.int .i64 v.t) (.slice nA v.n.length nc) (.slice sA v.s.length sc) (.slice lA v.l.length lc) 26
  clear h hga hsa hba hgb hrb hwa hwb
  go_enter Tryz.func5, Tryz.ntmps5
  go_wp2_with fail
  rw [← HWA.out, ← HWB.out]
  clear d0 d1 d2 d3
  refine HR.out.mono ?_
  rintro e w1 ⟨bb, rfl, _, hgw⟩
  have HBvn := hide (HBv.out.gb hgw)
  clear HBv
  have HBv := hide HBvn.out
  clear HBvn
  have HGn := hide (gb_trans HG0.out hgw (.inl rfl))
  clear HG0
  have HG0 := hide HGn.out
  clear HGn
  clear HR hgw
  cases bb
  · clear HBv HTK HDR HJN HRV HRW HIX
    go_wp2_with fail
    refine (live7_any _).mono ?_
    rintro e wl ⟨rfl, hgl⟩
    have HGn := hide (gb_trans HG0.out hgl (.inl rfl))
    clear HG0 hgl
    go_wp2_with fail
    exact bodyPost_ret (v := .bool true) (by simp [results, Tryz.results5, go_sem]) rfl ⟨rfl, HGn.out⟩
  · skip
    obtain ⟨cv0, cv1, cv2, cv3⟩ := HBv.out.c4
    go_wp2_with (first | (go_at_call 23 ; refine (rVec_any _ _ _ _ _).mono ?_ ; rintro e wi ⟨rfl, hgw⟩ ; clear cv0 cv1 cv2 cv3 ; have HBvn := hide (HBv.out.gb hgw) ; clear HBv ; have HBv := hide HBvn.out ; clear HBvn ; have HGn := hide (gb_trans HG0.out hgw (.inl rfl)) ; clear HG0 ; have HG0 := hide HGn.out ; clear HGn ; obtain ⟨cv0, cv1, cv2, cv3⟩ := HBv.out.c4 ; clear hgw) | (go_at_call 24 ; refine (rCount_any v _ _ nA nc sA sc lA lc HT.out (Nat.le_refl _) HBv.out.vb).mono ?_ ; rintro e wj ⟨rfl, hgw⟩ ; clear cv0 cv1 cv2 cv3 ; have HBvn := hide (HBv.out.gb hgw) ; clear HBv ; have HBv := hide HBvn.out ; clear HBvn ; have HGn := hide (gb_trans HG0.out hgw (.inl rfl)) ; clear HG0 ; have HG0 := hide HGn.out ; clear HGn ; obtain ⟨cv0, cv1, cv2, cv3⟩ := HBv.out.c4 ; clear hgw))
    refine (HTK.out _ nA nc sA sc lA lc HBv.out.vb).mono ?_
    rintro e w2 ⟨anA, anc, asA, asc, alA, alc, f, rfl, ho, _, hgw⟩
    clear cv0 cv1 cv2 cv3
    have HBvn := hide (HBv.out.gb hgw)
    clear HBv
    have HBv := hide HBvn.out
    clear HBvn
    have HGn := hide (gb_trans HG0.out hgw (.inl rfl))
    clear HG0
    have HG0 := hide HGn.out
    clear HGn
    clear hgw
    have HVa := hide ho.vb
    clear ho
    obtain ⟨cv0, cv1, cv2, cv3⟩ := HBv.out.c4a (.cells #[.int .i64 a.t, .slice anA a.n.length anc, .slice asA a.s.length asc, .slice alA a.l.length alc] 26)
    go_wp2_with fail
    obtain ⟨w3, hw⟩ : ∃ w3, w3 = w2.alloc (.cells #[.int .i64 a.t, .slice anA a.n.length anc, .slice asA a.s.length asc, .slice alA a.l.length alc] 26) := ⟨_, rfl⟩
    have hgw : w2.grownBy w3 none := by rw [hw]; exact gb_alloc (gb_refl w2 none) _
    have hsw : w3.heap.size = w2.heap.size + 1 := by rw [hw, World.size_alloc]
    have HBvn := hide (HBv.out.gb hgw)
    clear HBv
    have HBv := hide HBvn.out
    clear HBvn
    have HGn := hide (gb_trans HG0.out hgw (.inl rfl))
    clear HG0
    have HG0 := hide HGn.out
    clear HGn
    have HBa := hide (show BoxE w3 w2.heap.size a anA anc asA asc alA alc by rw [hw]; exact BoxE.new HVa.out)
    rw [← hw]
    clear HVa hgw hw
    clear cv0 cv1 cv2 cv3
    clear HTK hsw
    refine (HDR.out _ nA nc sA sc lA lc HBv.out.vb).mono ?_
    rintro e w4 ⟨bnA, bnc, bsA, bsc, blA, blc, f, rfl, ho, _, hgw⟩
    have HBvn := hide (HBv.out.gb hgw)
    clear HBv
    have HBv := hide HBvn.out
    clear HBvn
    have HBan := hide (HBa.out.gb hgw)
    clear HBa
    have HBa := hide HBan.out
    clear HBan
    have HGn := hide (gb_trans HG0.out hgw (.inl rfl))
    clear HG0
    have HG0 := hide HGn.out
    clear HGn
    clear hgw
    have HVb := hide ho.vb
    clear ho
    obtain ⟨ca0, ca1, ca2, ca3⟩ := HBa.out.c4a (.cells #[.int .i64 b.t, .slice bnA b.n.length bnc, .slice bsA b.s.length bsc, .slice blA b.l.length blc] 26)
    obtain ⟨n0, n1, n2, n3⟩ := C4.box w4 (.int .i64 b.t) (.slice bnA b.n.length bnc) (.slice bsA b.s.length bsc) (.slice blA b.l.length blc) 26
    go_wp2_with fail
    obtain ⟨w5, hw⟩ : ∃ w5, w5 = w4.alloc (.cells #[.int .i64 b.t, .slice bnA b.n.length bnc, .slice bsA b.s.length bsc, .slice blA b.l.length blc] 26) := ⟨_, rfl⟩
    have hgw : w4.grownBy w5 none := by rw [hw]; exact gb_alloc (gb_refl w4 none) _
    have hsw : w5.heap.size = w4.heap.size + 1 := by rw [hw, World.size_alloc]
    have HBvn := hide (HBv.out.gb hgw)
    clear HBv
    have HBv := hide HBvn.out
    clear HBvn
    have HBan := hide (HBa.out.gb hgw)
    clear HBa
    have HBa := hide HBan.out
    clear HBan
    have HGn := hide (gb_trans HG0.out hgw (.inl rfl))
    clear HG0
    have HG0 := hide HGn.out
    clear HGn
    have HBb := hide (show BoxE w5 w4.heap.size b bnA bnc bsA bsc blA blc by rw [hw]; exact BoxE.new HVb.out)
    rw [← hw]
    clear HVb hgw hw
    clear ca0 ca1 ca2 ca3
    clear n0 n1 n2 n3
    clear HDR
    have hrd := rdV_two HBa.out.vb HBb.out.vb
    obtain ⟨w6, hw⟩ : ∃ w6, w6 = w5.alloc (.cells #[.int .i64 a.t, .slice anA a.n.length anc, .slice asA a.s.length asc, .slice alA a.l.length alc, .int .i64 b.t, .slice bnA b.n.length bnc, .slice bsA b.s.length bsc, .slice blA b.l.length blc] 26) := ⟨_, rfl⟩
    rw [← hw] at hrd ⊢
    rw [hsw] at hrd
    have hgw : w5.grownBy w6 none := by rw [hw]; exact gb_alloc (gb_refl w5 none) _
    have HRD := hide hrd
    clear HBa HBb hrd hsw
    have HBvn := hide (HBv.out.gb hgw)
    clear HBv
    have HBv := hide HBvn.out
    clear HBvn
    have HGn := hide (gb_trans HG0.out hgw (.inl rfl))
    clear HG0
    have HG0 := hide HGn.out
    clear HGn
    clear hgw hw
    refine (HJN.out _ _ _ HRD.out).mono ?_
    rintro e w7 ⟨cnA, cnc, csA, csc, clA, clc, f, rfl, ho, _, hgw⟩
    have HBvn := hide (HBv.out.gb hgw)
    clear HBv
    have HBv := hide HBvn.out
    clear HBvn
    have HGn := hide (gb_trans HG0.out hgw (.inl rfl))
    clear HG0
    have HG0 := hide HGn.out
    clear HGn
    clear hgw
    have HVc := hide ho.vb
    clear ho
    obtain ⟨cv0, cv1, cv2, cv3⟩ := HBv.out.c4a (.cells #[.int .i64 v.t, .slice cnA v.n.length cnc, .slice csA v.s.length csc, .slice clA v.l.length clc] 26)
    go_wp2_with fail
    obtain ⟨w8, hw⟩ : ∃ w8, w8 = w7.alloc (.cells #[.int .i64 v.t, .slice cnA v.n.length cnc, .slice csA v.s.length csc, .slice clA v.l.length clc] 26) := ⟨_, rfl⟩
    have hgw : w7.grownBy w8 none := by rw [hw]; exact gb_alloc (gb_refl w7 none) _
    have hsw : w8.heap.size = w7.heap.size + 1 := by rw [hw, World.size_alloc]
    have HBvn := hide (HBv.out.gb hgw)
    clear HBv
    have HBv := hide HBvn.out
    clear HBvn
    have HGn := hide (gb_trans HG0.out hgw (.inl rfl))
    clear HG0
    have HG0 := hide HGn.out
    clear HGn
    have HBc := hide (show BoxE w8 w7.heap.size v cnA cnc csA csc clA clc by rw [hw]; exact BoxE.new HVc.out)
    rw [← hw]
    clear HVc hgw hw
    clear cv0 cv1 cv2 cv3
    clear HJN HRD hsw
    refine (HRV.out _ nA nc sA sc lA lc HBv.out.vb).mono ?_
    rintro e w9 ⟨dnA, dnc, dsA, dsc, dlA, dlc, f, rfl, ho, _, hgw⟩
    have HBvn := hide (HBv.out.gb hgw)
    clear HBv
    have HBv := hide HBvn.out
    clear HBvn
    have HBcn := hide (HBc.out.gb hgw)
    clear HBc
    have HBc := hide HBcn.out
    clear HBcn
    have HGn := hide (gb_trans HG0.out hgw (.inl rfl))
    clear HG0
    have HG0 := hide HGn.out
    clear HGn
    clear hgw
    have HVd := hide ho.vb
    clear ho
    obtain ⟨n0, n1, n2, n3⟩ := C4.box w9 (.int .i64 d.t) (.slice dnA d.n.length dnc) (.slice dsA d.s.length dsc) (.slice dlA d.l.length dlc) 26
    go_wp2_with fail
    obtain ⟨w10, hw⟩ : ∃ w10, w10 = w9.alloc (.cells #[.int .i64 d.t, .slice dnA d.n.length dnc, .slice dsA d.s.length dsc, .slice dlA d.l.length dlc] 26) := ⟨_, rfl⟩
    have hgw : w9.grownBy w10 none := by rw [hw]; exact gb_alloc (gb_refl w9 none) _
    have hsw : w10.heap.size = w9.heap.size + 1 := by rw [hw, World.size_alloc]
    have HBvn := hide (HBv.out.gb hgw)
    clear HBv
    have HBv := hide HBvn.out
    clear HBvn
    have HBcn := hide (HBc.out.gb hgw)
    clear HBc
    have HBc := hide HBcn.out
    clear HBcn
    have HGn := hide (gb_trans HG0.out hgw (.inl rfl))
    clear HG0
    have HG0 := hide HGn.out
    clear HGn
    have HBd := hide (show BoxE w10 w9.heap.size d dnA dnc dsA dsc dlA dlc by rw [hw]; exact BoxE.new HVd.out)
    rw [← hw]
    clear HVd hgw hw
    clear n0 n1 n2 n3
    clear HRV hsw
    refine (HRW.out _ dnA dnc dsA dsc dlA dlc HBd.out.vb).mono ?_
    rintro e w11 ⟨xnA, xnc, xsA, xsc, xlA, xlc, f, rfl, ho, _, hgw⟩
    have HBvn := hide (HBv.out.gb hgw)
    clear HBv
    have HBv := hide HBvn.out
    clear HBvn
    have HBcn := hide (HBc.out.gb hgw)
    clear HBc
    have HBc := hide HBcn.out
    clear HBcn
    have HBdn := hide (HBd.out.gb hgw)
    clear HBd
    have HBd := hide HBdn.out
    clear HBdn
    have HGn := hide (gb_trans HG0.out hgw (.inl rfl))
    clear HG0
    have HG0 := hide HGn.out
    clear HGn
    clear hgw
    have HVx := hide ho.vb
    clear ho
    go_wp2_with fail
    obtain ⟨w12, hw⟩ : ∃ w12, w12 = w11.alloc (.cells #[.int .i64 v.t, .slice xnA v.n.length xnc, .slice xsA v.s.length xsc, .slice xlA v.l.length xlc] 26) := ⟨_, rfl⟩
    have hgw : w11.grownBy w12 none := by rw [hw]; exact gb_alloc (gb_refl w11 none) _
    have hsw : w12.heap.size = w11.heap.size + 1 := by rw [hw, World.size_alloc]
    have HBvn := hide (HBv.out.gb hgw)
    clear HBv
    have HBv := hide HBvn.out
    clear HBvn
    have HBcn := hide (HBc.out.gb hgw)
    clear HBc
    have HBc := hide HBcn.out
    clear HBcn
    have HBdn := hide (HBd.out.gb hgw)
    clear HBd
    have HBd := hide HBdn.out
    clear HBdn
    have HGn := hide (gb_trans HG0.out hgw (.inl rfl))
    clear HG0
    have HG0 := hide HGn.out
    clear HGn
    have HBx := hide (show BoxE w12 w11.heap.size v xnA xnc xsA xsc xlA xlc by rw [hw]; exact BoxE.new HVx.out)
    rw [← hw]
    clear HVx hgw hw
    clear HRW hsw HBd
    go_loopw [15, 16] (fun u i wr => ∃ j : Nat, i = .int .i64 (j : Int) ∧ j ≤ v.count ∧ wr.ownsRow w12.heap.size 2 1 u j (i64s (rowI 0 j)) ∧ w12.grownBy wr none) (fun _ i _ => v.count - (intOf i).toNat)
    case atStart => exact ⟨0, rfl, Nat.zero_le _, World.ownsRow_nil _ _ _ _, gb_refl w12 none⟩
    case round =>
      obtain ⟨j, rfl, hj, how, hgr⟩ := hrel
      have HGR := hide hgr
      have hbv := HBv.out.gb hgr
      by_cases hlt : j < v.count
      · have hlt1 : (j : Int) < (v.count : Int) := by omega
        have h6 : IntKind.i64.wrap ((j : Int) + 1) = ((j + 1 : Nat) : Int) := by rw [IntKind.wrap_i64]; have := HCN.out; omega
        have HLT := hide hlt
        have HOW := hide how
        obtain ⟨cv0, cv1, cv2, cv3⟩ := hbv.c4
        have HVB := hide hbv.vb
        clear hlt hj how hgr hbv
        go_wp2_with (first
          | (go_at_call 24; refine (rCount_any v _ _ nA nc sA sc lA lc HT.out (Nat.le_refl _) HVB.out).mono ?_; rintro e w13 ⟨rfl, hg3⟩; have HG3 := hide hg3; have HOW3 := hide ((HOW.out.kept hg3 (by cases hq : u15.ownBlock <;> simp)).alloc (.cells #[.int .i64 (j : Int)] 2)); have HR3 := hide (rd_lit w13 #[.int .i64 (j : Int)] 2 [.int .i64 (j : Int)] rfl); clear hg3)
          | (at_builtin
             have hj := HLT.out
             have hcn := HCN.out
             refine wpList_append_rd _ rfl (.tmp 79) (.tmp 81) 22 rfl w12.heap.size 2 i1 (.int .i64 0) 1 8 Tryz.underlying22 HI1.out HIZ.out HIS.out HIB.out rfl (Nat.succ_pos 0) u15 j (i64s (rowI 0 j)) rfl HOW3.out _ (some ⟨w13.heap.size, 0, none⟩) 1 1 [.int .i64 (j : Int)] rfl rfl HR3.out (cell1 _ _) (by unfold maxLen; omega) (by omega) (by have h1 := HGR.out.size; have h2 := HG3.out.size; rw [World.size_alloc]; omega) ?_
             intro v8 w14 ho8 hg8 hl8
             have HFIN := hide (show w14.ownsRow w12.heap.size 2 1 v8 (j + 1) (i64s (rowI 0 (j + 1))) ∧ w12.grownBy w14 none from by
               have how := HOW.out
               refine ⟨?_, gb_trans (gb_alloc (gb_trans HGR.out HG3.out (.inl rfl)) _) hg8 (match hq : u15.ownBlock with | none => .inr (.inl rfl) | some g => .inr (.inr ⟨g, rfl, (how.lt g hq).1⟩))⟩
               have e : i64s (rowI 0 (j + 1)) = i64s (rowI 0 j) ++ [.int .i64 (j : Int)] := by
                 rw [show rowI 0 (j + 1) = rowI 0 j ++ [0 + (j : Int)] from rfl, i64s_app, Int.zero_add]; rfl
               rw [e]
               exact ho8)
             clear ho8 hg8 hl8 hj hcn))
        go_roundw
        case rel => exact ⟨j + 1, by go_num, by have := HLT.out; omega, HFIN.out.1, HFIN.out.2⟩
        case measure => have := HLT.out; simp [intOf]; omega
      · have hlt1 : ¬ (j : Int) < (v.count : Int) := by omega
        obtain rfl : j = v.count := by omega
        obtain ⟨pA, pc, rfl, _⟩ := own_slice how
        have HRD := hide (Rd.of_own how)
        clear how hlt hj hbv
        have HBvn := hide (HBv.out.gb hgr)
        clear HBv
        have HBv := hide HBvn.out
        clear HBvn
        have HBcn := hide (HBc.out.gb hgr)
        clear HBc
        have HBc := hide HBcn.out
        clear HBcn
        have HBxn := hide (HBx.out.gb hgr)
        clear HBx
        have HBx := hide HBxn.out
        clear HBxn
        have HGn := hide (gb_trans HG0.out hgr (.inl rfl))
        clear HG0
        have HG0 := hide HGn.out
        clear HGn
        clear hgr
        obtain ⟨cv0, cv1, cv2, cv3⟩ := HBv.out.c4
        go_wp2_with (first | (go_at_call 24; refine (rCount_any v _ _ nA nc sA sc lA lc HT.out (Nat.le_refl _) HBv.out.vb).mono ?_; rintro e w13 ⟨rfl, hg3⟩; clear cv0 cv1 cv2 cv3; have HBvn := hide (HBv.out.gb hg3); clear HBv; have HBv := hide HBvn.out; clear HBvn; have HBcn := hide (HBc.out.gb hg3); clear HBc; have HBc := hide HBcn.out; clear HBcn; have HBxn := hide (HBx.out.gb hg3); clear HBx; have HBx := hide HBxn.out; clear HBxn; have HGn := hide (gb_trans HG0.out hg3 (.inl rfl)); clear HG0; have HG0 := hide HGn.out; clear HGn; obtain ⟨cv0, cv1, cv2, cv3⟩ := HBv.out.c4; have HRDn := hide ((HRD.out.grown hg3 (Nat.le_refl _) (by simp)).more hg3.size); clear HRD; have HRD := hide HRDn.out; clear HRDn hg3))
        refine (HIX.out _ nA nc sA sc lA lc _ _ HBv.out.vb HRD.out).mono ?_
        rintro e w14 ⟨ynA, ync, ysA, ysc, ylA, ylc, f, rfl, ho, _, hgw⟩
        clear cv0 cv1 cv2 cv3
        have HBvn := hide (HBv.out.gb hgw)
        clear HBv
        have HBv := hide HBvn.out
        clear HBvn
        have HBcn := hide (HBc.out.gb hgw)
        clear HBc
        have HBc := hide HBcn.out
        clear HBcn
        have HBxn := hide (HBx.out.gb hgw)
        clear HBx
        have HBx := hide HBxn.out
        clear HBxn
        have HGn := hide (gb_trans HG0.out hgw (.inl rfl))
        clear HG0
        have HG0 := hide HGn.out
        clear HGn
        clear hgw
        have HVy := hide ho.vb
        clear ho
        go_wp2_with fail
        obtain ⟨w15, hw⟩ : ∃ w15, w15 = w14.alloc (.cells #[.int .i64 v.t, .slice ynA v.n.length ync, .slice ysA v.s.length ysc, .slice ylA v.l.length ylc] 26) := ⟨_, rfl⟩
        have hgw : w14.grownBy w15 none := by rw [hw]; exact gb_alloc (gb_refl w14 none) _
        have hsw : w15.heap.size = w14.heap.size + 1 := by rw [hw, World.size_alloc]
        have HBvn := hide (HBv.out.gb hgw)
        clear HBv
        have HBv := hide HBvn.out
        clear HBvn
        have HBcn := hide (HBc.out.gb hgw)
        clear HBc
        have HBc := hide HBcn.out
        clear HBcn
        have HBxn := hide (HBx.out.gb hgw)
        clear HBx
        have HBx := hide HBxn.out
        clear HBxn
        have HGn := hide (gb_trans HG0.out hgw (.inl rfl))
        clear HG0
        have HG0 := hide HGn.out
        clear HGn
        have HBy := hide (show BoxE w15 w14.heap.size v ynA ync ysA ysc ylA ylc by rw [hw]; exact BoxE.new HVy.out)
        rw [← hw]
        clear HVy hgw hw
        clear HIX HRD hsw
        obtain ⟨cv0, cv1, cv2, cv3⟩ := HBv.out.c4
        obtain ⟨cx0, cx1, cx2, cx3⟩ := HBx.out.c4
        obtain ⟨cy0, cy1, cy2, cy3⟩ := HBy.out.c4
        obtain ⟨cc0, cc1, cc2, cc3⟩ := HBc.out.c4
        have HSR := hide (Vl.same_refl v)
        refine (num7_any _ _).mono ?_
        rintro e wn ⟨rfl, rfl⟩
        go_wp2_with fail
        refine (num7_any _ _).mono ?_
        rintro e wn ⟨rfl, rfl⟩
        go_wp2_with fail
        refine (num7_any _ _).mono ?_
        rintro e wn ⟨rfl, rfl⟩
        go_wp2_with fail
        refine (num7_any _ _).mono ?_
        rintro e wn ⟨rfl, rfl⟩
        go_wp2_with fail
        refine (num7_any _ _).mono ?_
        rintro e wn ⟨rfl, rfl⟩
        go_wp2_with fail
        refine (rMatch_any v v _ _ xnA xnc xsA xsc xlA xlc nA nc sA sc lA lc HT.out HT.out (Nat.le_refl _) HBx.out.vb HBv.out.vb).mono ?_
        rintro e wm ⟨rfl, hgm⟩
        rw [HSR.out]
        clear cv0 cv1 cv2 cv3 cx0 cx1 cx2 cx3 cy0 cy1 cy2 cy3 cc0 cc1 cc2 cc3
        have HBvn := hide (HBv.out.gb hgm)
        clear HBv
        have HBv := hide HBvn.out
        clear HBvn
        have HBcn := hide (HBc.out.gb hgm)
        clear HBc
        have HBc := hide HBcn.out
        clear HBcn
        have HBxn := hide (HBx.out.gb hgm)
        clear HBx
        have HBx := hide HBxn.out
        clear HBxn
        have HByn := hide (HBy.out.gb hgm)
        clear HBy
        have HBy := hide HByn.out
        clear HByn
        have HGn := hide (gb_trans HG0.out hgm (.inl rfl))
        clear HG0
        have HG0 := hide HGn.out
        clear HGn
        obtain ⟨cv0, cv1, cv2, cv3⟩ := HBv.out.c4
        obtain ⟨cx0, cx1, cx2, cx3⟩ := HBx.out.c4
        obtain ⟨cy0, cy1, cy2, cy3⟩ := HBy.out.c4
        obtain ⟨cc0, cc1, cc2, cc3⟩ := HBc.out.c4
        clear hgm
        go_wp2_with fail
        refine (rMatch_any v v _ _ ynA ync ysA ysc ylA ylc nA nc sA sc lA lc HT.out HT.out (Nat.le_refl _) HBy.out.vb HBv.out.vb).mono ?_
        rintro e wm ⟨rfl, hgm⟩
        rw [HSR.out]
        clear cv0 cv1 cv2 cv3 cx0 cx1 cx2 cx3 cy0 cy1 cy2 cy3 cc0 cc1 cc2 cc3
        have HBvn := hide (HBv.out.gb hgm)
        clear HBv
        have HBv := hide HBvn.out
        clear HBvn
        have HBcn := hide (HBc.out.gb hgm)
        clear HBc
        have HBc := hide HBcn.out
        clear HBcn
        have HBxn := hide (HBx.out.gb hgm)
        clear HBx
        have HBx := hide HBxn.out
        clear HBxn
        have HByn := hide (HBy.out.gb hgm)
        clear HBy
        have HBy := hide HByn.out
        clear HByn
        have HGn := hide (gb_trans HG0.out hgm (.inl rfl))
        clear HG0
        have HG0 := hide HGn.out
        clear HGn
        obtain ⟨cv0, cv1, cv2, cv3⟩ := HBv.out.c4
        obtain ⟨cx0, cx1, cx2, cx3⟩ := HBx.out.c4
        obtain ⟨cy0, cy1, cy2, cy3⟩ := HBy.out.c4
        obtain ⟨cc0, cc1, cc2, cc3⟩ := HBc.out.c4
        clear hgm
        go_wp2_with fail
        refine (num7_any _ _).mono ?_
        rintro e wn ⟨rfl, rfl⟩
        go_wp2_with fail
        refine (rMatch_any v v _ _ cnA cnc csA csc clA clc nA nc sA sc lA lc HT.out HT.out (Nat.le_refl _) HBc.out.vb HBv.out.vb).mono ?_
        rintro e wm ⟨rfl, hgm⟩
        rw [HSR.out]
        clear cv0 cv1 cv2 cv3 cx0 cx1 cx2 cx3 cy0 cy1 cy2 cy3 cc0 cc1 cc2 cc3
        have HBvn := hide (HBv.out.gb hgm)
        clear HBv
        have HBv := hide HBvn.out
        clear HBvn
        have HBcn := hide (HBc.out.gb hgm)
        clear HBc
        have HBc := hide HBcn.out
        clear HBcn
        have HBxn := hide (HBx.out.gb hgm)
        clear HBx
        have HBx := hide HBxn.out
        clear HBxn
        have HByn := hide (HBy.out.gb hgm)
        clear HBy
        have HBy := hide HByn.out
        clear HByn
        have HGn := hide (gb_trans HG0.out hgm (.inl rfl))
        clear HG0
        have HG0 := hide HGn.out
        clear HGn
        obtain ⟨cv0, cv1, cv2, cv3⟩ := HBv.out.c4
        obtain ⟨cx0, cx1, cx2, cx3⟩ := HBx.out.c4
        obtain ⟨cy0, cy1, cy2, cy3⟩ := HBy.out.c4
        obtain ⟨cc0, cc1, cc2, cc3⟩ := HBc.out.c4
        clear hgm
        go_wp2_with fail
        refine (live7_any _).mono ?_
        rintro e wl ⟨rfl, hgl⟩
        have HGN := hide (gb_trans HG0.out hgl (.inl rfl))
        clear hgl
        go_wp2_with fail
        exact bodyPost_ret (v := .bool true) (by simp [results, Tryz.results5, go_sem]) rfl ⟨rfl, HGN.out⟩
end Go.Proofs.YtnilcnobngcbgaaGreat

namespace Go.Proofs.YtnilcnobngcbgaaGreat
open Go.RowKit

theorem remI_low (i c : Nat) (h : i < c) : remI (i : Int) (c : Int) = (i : Int) := by
  have e : (i : Int).tmod (c : Int) = (i : Int) := by
    rw [Int.tmod_eq_emod_of_nonneg (by omega)]
    exact Int.emod_eq_of_lt (by omega) (by omega)
  unfold remI
  rw [if_neg (by omega)]
  unfold rmq
  rw [e, if_neg]
  rintro ⟨_, h2⟩
  rw [show decide ((i : Int) < 0) = false from decide_eq_false (by omega), show decide ((c : Int) < 0) = false from decide_eq_false (by omega)] at h2
  cases h2
theorem rem_row (k c : Nat) (h : k ≤ c) : ((rowI 0 k).map fun p => remI p (c : Int)) = rowI 0 k := by
  induction k with
  | zero => rfl
  | succ k ih =>
    show (rowI 0 k ++ [0 + (k : Int)]).map _ = _
    rw [List.map_append, ih (by omega)]
    show _ ++ [remI (0 + (k : Int)) (c : Int)] = _
    rw [Int.zero_add, remI_low k c (by omega), ← Int.zero_add (k : Int)]
    rfl
theorem whole_any (v : Vl) (n : Int) (w : World) (nA : Option Addr) (nc : Nat) (sA : Option Addr) (sc : Nat) (lA : Option Addr) (lc : Nat) (ht : v.tot ≤ 1090000) (h : VB w w.heap.size v nA nc sA sc lA lc) :
    Calls Tryz.prog 5 #[.agg #[.int .i64 v.t, .slice nA v.n.length nc, .slice sA v.s.length sc, .slice lA v.l.length lc], .int .i64 n] w fun e w' => e = .returned (.bool true) ∧ w.grownBy w' none := by
  by_cases hm : checkV v = 0 ∧ seqT v.t ∧ 0 ≤ n ∧ n ≤ v.count
  · obtain ⟨hc, hs, h0, h1⟩ := hm
    have hg := good_of hs hc
    obtain ⟨k, rfl⟩ : ∃ k : Nat, n = (k : Int) := ⟨n.toNat, by omega⟩
    have hk : k ≤ v.count := by omega
    have hcn := hg.c
    have htd := Vl.tot_def v
    have hrs : seqT (revV v).t := hs
    have htr := rev_tot v
    have hrc := rev_count v hs
    have hrd := Vl.tot_def (revV v)
    have e1 : ((rowI (min (k : Int) 0) k).map fun p => remI p (v.count : Int)) = rowI ((0 : Nat) : Int) k := by
      rw [show min (k : Int) 0 = 0 by omega]
      exact rem_row k v.count hk
    have htk : ∀ (w2 : World) (nA : Option Addr) (nc : Nat) (sA : Option Addr) (sc : Nat) (lA : Option Addr) (lc : Nat), VB w2 w2.heap.size v nA nc sA sc lA lc → Calls Tryz.prog 14 #[.int .i64 (k : Int), .agg #[.int .i64 v.t, .slice nA v.n.length nc, .slice sA v.s.length sc, .slice lA v.l.length lc]] w2 (TupV (cutS v 0 k) w2) := fun w2 nA nc sA sc lA lc hv => by
      have hx := take_any (k : Int) k v w2 w2.heap.size nA nc sA sc lA lc hs (by omega) (Nat.le_refl _) hv ⟨by omega, by omega⟩ (by omega) (fun e => by
        rw [e1]
        exact Nat.le_trans (idx_tots e 0 k (by omega)) (by omega))
      rw [e1, idx_cut hs 0 k (by omega)] at hx
      exact hx
    have hdr : ∀ (w2 : World) (nA : Option Addr) (nc : Nat) (sA : Option Addr) (sc : Nat) (lA : Option Addr) (lc : Nat), VB w2 w2.heap.size v nA nc sA sc lA lc → Calls Tryz.prog 16 #[.int .i64 (k : Int), .agg #[.int .i64 v.t, .slice nA v.n.length nc, .slice sA v.s.length sc, .slice lA v.l.length lc]] w2 (TupV (cutS v k (v.count - k)) w2) := fun w2 nA nc sA sc lA lc hv => by
      have hx := drop_any (k : Int) (v.count - k) (k : Int) (v.count : Int) v w2 w2.heap.size nA nc sA sc lA lc hs (by omega) (Nat.le_refl _) hv ⟨by omega, by omega⟩ (by omega) (by omega) (by omega) (fun e => Nat.le_trans (idx_tots e k (v.count - k) (by omega)) (by omega))
      rw [idx_cut hs k (v.count - k) (by omega)] at hx
      exact hx
    have hjn : ∀ (w2 : World) (A : Option Addr) (c : Nat), RdV w2 w2.heap.size A [cutS v 0 k, cutS v k (v.count - k)] → Calls Tryz.prog 25 #[.slice A 2 c] w2 (TupV v w2) := fun w2 A c hr => join_cut v k w2 w2.heap.size A c hg hk ht (Nat.le_refl _) hr
    have hrv : ∀ (w2 : World) (nA : Option Addr) (nc : Nat) (sA : Option Addr) (sc : Nat) (lA : Option Addr) (lc : Nat), VB w2 w2.heap.size v nA nc sA sc lA lc → Calls Tryz.prog 10 #[.agg #[.int .i64 v.t, .slice nA v.n.length nc, .slice sA v.s.length sc, .slice lA v.l.length lc]] w2 (TupV (revV v) w2) := fun w2 nA nc sA sc lA lc hv => by
      have hx := reverse_any v w2 w2.heap.size nA nc sA sc lA lc hs (by omega) (Nat.le_refl _) hv (fun e => by rw [rev_tots e]; omega)
      rw [idx_rev hs hg.num hg.sym (fun e => ⟨(hg.lst e).1, (hg.lst e).2.1, (hg.lst e).2.2.1⟩)] at hx
      exact hx
    have hrw : ∀ (w2 : World) (nA : Option Addr) (nc : Nat) (sA : Option Addr) (sc : Nat) (lA : Option Addr) (lc : Nat), VB w2 w2.heap.size (revV v) nA nc sA sc lA lc → Calls Tryz.prog 10 #[.agg #[.int .i64 (revV v).t, .slice nA (revV v).n.length nc, .slice sA (revV v).s.length sc, .slice lA (revV v).l.length lc]] w2 (TupV v w2) := fun w2 nA nc sA sc lA lc hv => by
      have hx := reverse_any (revV v) w2 w2.heap.size nA nc sA sc lA lc hrs (by omega) (Nat.le_refl _) hv (fun e => by rw [rev_tots e]; omega)
      rw [idx_rev2 hg] at hx
      exact hx
    have hix : ∀ (w2 : World) (nA : Option Addr) (nc : Nat) (sA : Option Addr) (sc : Nat) (lA : Option Addr) (lc : Nat) (pA : Option Addr) (pc : Nat), VB w2 w2.heap.size v nA nc sA sc lA lc → Rd w2 w2.heap.size pA (i64s (rowI 0 v.count)) → Calls Tryz.prog 18 #[.agg #[.int .i64 v.t, .slice nA v.n.length nc, .slice sA v.s.length sc, .slice lA v.l.length lc], .slice pA v.count pc] w2 (TupV v w2) := fun w2 nA nc sA sc lA lc pA pc hv hp => by
      have hx := index_any v (rowI ((0 : Nat) : Int) v.count) w2 w2.heap.size nA nc sA sc lA lc pA pc hs (fun e => Nat.le_trans (idx_tots e 0 v.count (by omega)) (by omega)) (by omega) (Nat.le_refl _) hv hp (by rw [rowI_length]; omega)
      rw [idx_cut hs 0 v.count (by omega), cut_all hg, rowI_length] at hx
      exact hx
    rcases hs with hs' | hs' | hs'
    · exact whole_vec v _ _ _ _ w nA nc sA sc lA lc ht h (by unfold rVec; unfold numT at hs'; simp; omega) h0 h1 hcn htk hdr hjn hrv hrw hix
    · exact whole_vec v _ _ _ _ w nA nc sA sc lA lc ht h (by unfold rVec; simp; omega) h0 h1 hcn htk hdr hjn hrv hrw hix
    · exact whole_lst v _ _ _ _ w nA nc sA sc lA lc ht h (by unfold rVec; simp; omega) (by simp [hs']) h0 h1 hcn htk hdr hjn hrv hrw hix
  · exact whole_off v n w nA nc sA sc lA lc ht h (fun hc hq => hm ⟨hc, hq⟩)
end Go.Proofs.YtnilcnobngcbgaaGreat

namespace Go.Proofs.YtnilcnobngcbgaaGreat
open Go.RowKit Go.ChangeShapes Go.WideShapes Go.ChangeAt


set_option maxRecDepth 100000 in
theorem lawWhole_lifted (os : Os) (started : os.Started) (H : Type) (enc : TypeId × Value → H) (F : Stop.Interp) :
    ReturnsInHanded {} Tryz.checked os 5 .any ((Rows.OpenSpec.upto Rows.vecWholeSpec).pre6 enc Tryz.prog Tryz.f5 Rows.vecWholeUptoRow.domain false) (((Rows.OpenSpec.upto Rows.vecWholeSpec).at F).post enc Tryz.prog Tryz.f5 false true false false) := by
  refine returnsInHanded_of_cond (C := Tryz.checked) (s := Rows.OpenSpec.upto Rows.vecWholeSpec) (k := Rows.uptoSmall) rfl Tryz.own started (by kernel_rfl) Tryz.func5
    (OpenSpec.witness (enc := enc) (C := Tryz.checked) (s := Rows.OpenSpec.upto Rows.vecWholeSpec) (k := Rows.uptoSmall) rfl false ⟨#[], #[.agg #[.int .i64 0, .slice none 0 0, .slice none 0 0, .slice none 0 0], .int .i64 0], []⟩ 8 (by kernel_rfl) (by kernel_rfl) (by kernel_rfl)
      (x := ([.agg [.lit (.int .i64 0), .nil, .nil, .nil], .lit (.int .i64 0)], [], [])) (by kernel_rfl) rfl (by kernel_rfl)) ?_
  intro W base args ds gs before hval0 hW _ hk _
  have hval : ∀ (j : Nat) t v, Tryz.f5.params[j]? = some t → args[j]? = some v → Value.okWide Tryz.prog W .any base t v := hval0
  have hW' := hW
  obtain ⟨p, q, hA0, hV, _, _, _⟩ := hW
  have hA : DataW.TrodAll enc Tryz.prog W 0 (fun _ => true) true Tryz.f5.params.toList args.toList ds p := hA0
  rw [Tryz.params5] at hA hval
  obtain ⟨v0, v1, d0, d1, p0, p1, rfl, rfl, _, t0, t1⟩ := trodAll_two hA
  obtain ⟨rfl, rfl⟩ := trodVars_none hV
  have hb := of_decide_eq_true hk
  simp only [List.append_nil, Rows.uptoBulkAll] at hb
  obtain ⟨v, nA, nc, sA, sc, lA, lc, rfl, hvb, hvt⟩ := open_v (hval 0 _ _ rfl rfl) t0
  obtain ⟨i, rfl, rfl, rfl, _⟩ := open_int Tryz.underlying3 (hval 1 _ _ rfl rfl) t1
  refine (whole_any v i W nA nc sA sc lA lc (by omega) hvb).mono fun e W' ⟨he, hg⟩ => ⟨_, he, post_law hW' rfl ?_ rfl rfl (gb_below hg (Nat.le_refl _) (by simp))⟩
  intro t ht
  rw [Tryz.params5] at ht
  simp only [List.mem_cons, List.not_mem_nil, or_false] at ht
  rcases ht with rfl | rfl <;> exact ⟨by kernel_rfl, of_decide_eq_true (by kernel_rfl)⟩

theorem vecWhole_holds : Rows.VecWholeUptoSaid :=
  OpenClaim.holds_of_cond 5 Tryz.f5 rfl rfl rfl rfl rfl rfl rfl ⟨rfl, rfl, rfl, rfl, rfl⟩ rfl rfl rfl rfl rfl (by kernel_rfl) Tryz.func5 (by kernel_rfl)
    (of_decide_eq_true (by kernel_rfl)) (by unfold Func.isWrapper; first | (rw [if_pos (by decide +kernel)]; kernel_rfl) | (rw [if_neg (by decide +kernel)]; exact ⟨rfl, rfl⟩))
    (fun os started H enc _ F => lawWhole_lifted os started H enc F)
end Go.Proofs.YtnilcnobngcbgaaGreat
