/-
  The elements of what the document's Check calls good are good (for ValueBuilds and ValueAsks).
-/
import Derived.Test.YtfckmkpfhchggaaXm
import Derived.Test.YtfckmkpfhchggaaWz
namespace Go.Proofs.Ytfckmkpfhchggaa
open Go.RowKit

theorem firstE_zero {f : Vl → Int} {l : List Vl} (h : ∀ x ∈ l, f x = 0) : firstE f l = 0 := by
  induction l with
  | nil => rfl
  | cons a r ih =>
    unfold firstE
    rw [if_neg (by simp [h a (by simp)])]
    exact ih fun x hx => h x (by simp [hx])
theorem parts_ok (d : Nat) : ∀ (v : Vl) (e e' : Nat), v.depth ≤ d → v.depth ≤ e → v.depth ≤ e' → partsV e v = 0 → partsV e' v = 0 := by
  induction d with
  | zero => intro v e e' h; rw [Vl.depth_def] at h; omega
  | succ d ih =>
    intro v e e' hd he he' h
    have hd0 := Vl.depth_def v
    obtain ⟨e, rfl⟩ : ∃ k, e = k + 1 := ⟨e - 1, by omega⟩
    obtain ⟨e', rfl⟩ : ∃ k, e' = k + 1 := ⟨e' - 1, by omega⟩
    by_cases ho : ownV v = 0
    · rw [partsV_succ ho] at h ⊢
      exact firstE_zero fun x hx => ih x e e' (by have := Vl.depth_lt hx; omega) (by have := Vl.depth_lt hx; omega) (by have := Vl.depth_lt hx; omega) (firstE_all h x hx)
    · rw [partsV_own ho] at h
      exact absurd h ho
/-- A value, by the document, but for its depth. -/
def okV (v : Vl) : Prop := partsV v.depth v = 0
theorem okV_iff (v : Vl) : okV v ↔ ownV v = 0 ∧ ∀ x ∈ v.l, okV x := by
  unfold okV
  have hd := Vl.depth_def v
  constructor
  · intro h
    by_cases ho : ownV v = 0
    · refine ⟨ho, fun x hx => ?_⟩
      rw [hd, partsV_succ ho] at h
      have hx1 := Vl.depth_lt hx
      exact parts_ok x.depth x _ _ (Nat.le_refl _) (by omega) (Nat.le_refl _) (firstE_all h x hx)
    · rw [partsV_own ho] at h
      exact absurd h ho
  · rintro ⟨ho, h⟩
    rw [hd, partsV_succ ho]
    refine firstE_zero fun x hx => ?_
    have hx1 := Vl.depth_lt hx
    exact parts_ok x.depth x _ _ (Nat.le_refl _) (Nat.le_refl _) (by omega) (h x hx)
theorem check_ok {v : Vl} (h : checkV v = 0) : okV v ∧ v.depth ≤ 32 := by
  obtain ⟨h1, h2⟩ := check_parts h
  exact ⟨parts_ok v.depth v 1048576 _ (Nat.le_refl _) (by omega) (Nat.le_refl _) h1, h2⟩
theorem ok_check {v : Vl} (h : okV v) (hd : v.depth ≤ 32) : checkV v = 0 := by
  unfold checkV faultsV
  rw [parts_ok v.depth v v.depth 1048576 (Nat.le_refl _) (Nat.le_refl _) (by omega) h, if_pos rfl, if_neg (by omega)]
theorem plain_mk (t : Int) (n : List Int) (s : List ByteArray) (l : List Vl) : plainV (.mk t n s l) = (if rAtom t = true ∧ n.length + s.length ≠ 1 then false
  else if t = 0 then listV (.mk t n s l) else if t = 98 then tabV (.mk t n s l) else if t = 99 then dicV (.mk t n s l) else if t = 100 then lamV (.mk t n s l)
  else if rAbs t = 1 then bitsV n else if rAbs t = 3 then s.all symS else true) := rfl
theorem long_mk (t : Int) (n : List Int) (s : List ByteArray) (l : List Vl) : tooLongV (.mk t n s l) = s.any (longS (if t = 100 then 65536 else 64)) := rfl
theorem many_mk (t : Int) (n : List Int) (s : List ByteArray) (l : List Vl) : manyV (.mk t n s l) = if t = 98 then decide (64 < s.length) || decide (64 < l.length) else isSeq (.mk t n s l) && decide (65536 < (Vl.mk t n s l).count) := rfl
theorem even_mk (t : Int) (n : List Int) (s : List ByteArray) (l : List Vl) : evenV (.mk t n s l) = (decide (t = 0) || evenL l) := rfl
theorem own_mk {v : Vl} (h1 : fieldsOk v = true) (h2 : manyV v = false) (h3 : tooLongV v = false) (h4 : plainV v = true) (h5 : evenV v = true) : ownV v = 0 := by
  unfold ownV
  rw [h1, h2, h3, h4, h5]
  rfl

theorem ok_num {t x : Int} (ht : t = 1 ∨ t = 2 ∨ t = 4 ∨ t = 5) (hb : t = 1 → x = 0 ∨ x = 1) : okV (.mk (-t) [x] [] []) := by
  refine (okV_iff _).2 ⟨?_, by simp [Vl.l]⟩
  rcases ht with rfl | rfl | rfl | rfl
  · refine own_mk rfl rfl rfl ?_ rfl
    rcases hb rfl with rfl | rfl <;> rfl
  all_goals exact own_mk rfl rfl rfl rfl rfl
theorem ok_sym {s : ByteArray} (h1 : symS s = true) (h2 : longS 64 s = false) : okV (.mk (-3) [] [s] []) := by
  refine (okV_iff _).2 ⟨?_, by simp [Vl.l]⟩
  refine own_mk rfl rfl ?_ ?_ rfl
  · rw [long_mk]
    simp [h2]
  · rw [plain_mk]
    simp [rAtom, rAbs, h1]
theorem ok_nums {t : Int} {l : List Int} (ht : t = 1 ∨ t = 2 ∨ t = 4 ∨ t = 5) (hb : t = 1 → ∀ x ∈ l, x = 0 ∨ x = 1) (hl : l.length ≤ 65536) : okV (.mk t l [] []) := by
  refine (okV_iff _).2 ⟨?_, by simp [Vl.l]⟩
  have hm : decide ((65536 : Nat) < l.length) = false := decide_eq_false (by omega)
  have e : ∀ t : Int, (t = 1 ∨ t = 2 ∨ t = 4 ∨ t = 5) → manyV (.mk t l [] []) = false := by
    intro t ht
    have hc : (Vl.mk t l [] []).count = l.length := by
      rw [Vl.count_def]
      exact if_pos ht
    rw [many_mk, if_neg (by omega), hc, hm, Bool.and_false]
  rcases ht with rfl | rfl | rfl | rfl
  · refine own_mk rfl (e _ (.inl rfl)) rfl ?_ rfl
    rw [plain_mk, if_neg (by simp [rAtom]), if_neg (by decide), if_neg (by decide), if_neg (by decide), if_neg (by decide), if_pos (by rfl)]
    unfold bitsV
    exact List.all_eq_true.2 fun x hx => by rcases hb rfl x hx with rfl | rfl <;> rfl
  · exact own_mk rfl (e _ (by omega)) rfl rfl rfl
  · exact own_mk rfl (e _ (by omega)) rfl rfl rfl
  · exact own_mk rfl (e _ (by omega)) rfl rfl rfl
theorem ok_syms {l : List ByteArray} (h1 : l.all symS = true) (h2 : l.any (longS 64) = false) (hl : l.length ≤ 65536) : okV (.mk 3 [] l []) := by
  refine (okV_iff _).2 ⟨?_, by simp [Vl.l]⟩
  have hm : decide ((65536 : Nat) < l.length) = false := decide_eq_false (by omega)
  refine own_mk rfl ?_ ?_ ?_ rfl
  · have hc : (Vl.mk 3 [] l []).count = l.length := by
      rw [Vl.count_def]
      rfl
    rw [many_mk, if_neg (by decide), hc, hm, Bool.and_false]
  · rw [long_mk, if_neg (by decide)]
    exact h2
  · rw [plain_mk, if_neg (by simp [rAtom]), if_neg (by decide), if_neg (by decide), if_neg (by decide), if_neg (by decide), if_neg (by decide), if_pos (by rfl)]
    exact h1

/-- What is known of a good value itself. -/
theorem ok_own {v : Vl} (h : okV v) : fieldsOk v = true ∧ manyV v = false ∧ tooLongV v = false ∧ plainV v = true ∧ evenV v = true := own_parts ((okV_iff v).1 h).1
theorem plain_of {v : Vl} (h : plainV v = true) : (rAtom v.t = true → v.n.length + v.s.length = 1) ∧ (v.t = 0 → listV v = true) ∧ (v.t = 98 → tabV v = true) ∧ (v.t = 99 → dicV v = true) ∧ (rAbs v.t = 1 → bitsV v.n = true) ∧ (rAbs v.t = 3 → v.s.all symS = true) := by
  unfold plainV at h
  by_cases ha : rAtom v.t = true ∧ v.n.length + v.s.length ≠ 1
  · rw [if_pos ha] at h; cases h
  rw [if_neg ha] at h
  refine ⟨fun hr => Classical.byContradiction fun hne => ha ⟨hr, hne⟩, fun e => ?_, fun e => ?_, fun e => ?_, fun e => ?_, fun e => ?_⟩
  · rw [if_pos e] at h; exact h
  · rw [if_neg (by omega), if_pos e] at h; exact h
  · rw [if_neg (by omega), if_neg (by omega), if_pos e] at h; exact h
  · have h0 : v.t ≠ 0 := fun h0 => by rw [h0] at e; exact absurd e (by decide)
    have h1 : v.t ≠ 98 := fun h0 => by rw [h0] at e; exact absurd e (by decide)
    have h2 : v.t ≠ 99 := fun h0 => by rw [h0] at e; exact absurd e (by decide)
    have h3 : v.t ≠ 100 := fun h0 => by rw [h0] at e; exact absurd e (by decide)
    rw [if_neg h0, if_neg h1, if_neg h2, if_neg h3, if_pos e] at h
    exact h
  · have h0 : v.t ≠ 0 := fun h0 => by rw [h0] at e; exact absurd e (by decide)
    have h1 : v.t ≠ 98 := fun h0 => by rw [h0] at e; exact absurd e (by decide)
    have h2 : v.t ≠ 99 := fun h0 => by rw [h0] at e; exact absurd e (by decide)
    have h3 : v.t ≠ 100 := fun h0 => by rw [h0] at e; exact absurd e (by decide)
    rw [if_neg h0, if_neg h1, if_neg h2, if_neg h3, if_neg (by omega), if_pos e] at h
    exact h
theorem long_at {v : Vl} (h : tooLongV v = false) (hne : v.t ≠ 100) : ∀ s ∈ v.s, longS 64 s = false := by
  intro s hs
  unfold tooLongV at h
  rw [if_neg hne] at h
  have := List.any_eq_false.1 h s hs
  simpa using this
theorem fields_num {v : Vl} (h : fieldsOk v = true) (ht : v.t = 1 ∨ v.t = 2 ∨ v.t = 4 ∨ v.t = 5 ∨ v.t = -1 ∨ v.t = -2 ∨ v.t = -4 ∨ v.t = -5) : v.s = [] ∧ v.l = [] := by
  unfold fieldsOk at h
  simp only [Bool.and_eq_true, Bool.or_eq_true, decide_eq_true_eq] at h
  obtain ⟨⟨_, h2⟩, h3⟩ := h
  rcases ht with e | e | e | e | e | e | e | e <;> rw [e] at h2 h3 <;> exact ⟨List.eq_nil_of_length_eq_zero (h2.resolve_left (by decide)), List.eq_nil_of_length_eq_zero (h3.resolve_left (by decide))⟩
theorem fields_sym {v : Vl} (h : fieldsOk v = true) (ht : v.t = 3 ∨ v.t = -3) : v.n = [] ∧ v.l = [] := by
  unfold fieldsOk at h
  simp only [Bool.and_eq_true, Bool.or_eq_true, decide_eq_true_eq] at h
  obtain ⟨⟨⟨_, h1⟩, _⟩, h3⟩ := h
  rcases ht with e | e <;> rw [e] at h1 h3 <;> exact ⟨List.eq_nil_of_length_eq_zero (h1.resolve_left (by decide)), List.eq_nil_of_length_eq_zero (h3.resolve_left (by decide))⟩
theorem fields_lst {v : Vl} (h : fieldsOk v = true) (ht : v.t = 0) : v.n = [] ∧ v.s = [] := by
  unfold fieldsOk at h
  simp only [Bool.and_eq_true, Bool.or_eq_true, decide_eq_true_eq] at h
  obtain ⟨⟨⟨_, h1⟩, h2⟩, _⟩ := h
  rw [ht] at h1 h2
  exact ⟨List.eq_nil_of_length_eq_zero (h1.resolve_left (by decide)), List.eq_nil_of_length_eq_zero (h2.resolve_left (by decide))⟩
theorem count_num {v : Vl} (ht : v.t = 1 ∨ v.t = 2 ∨ v.t = 4 ∨ v.t = 5) : v.count = v.n.length := by rw [Vl.count_def, if_pos ht]
theorem count_sym {v : Vl} (ht : v.t = 3) : v.count = v.s.length := by rw [Vl.count_def, if_neg (by omega), if_pos ht]
theorem count_lst {v : Vl} (ht : v.t = 0) : v.count = v.l.length := by rw [Vl.count_def, if_neg (by omega), if_neg (by omega), if_pos ht]
theorem elem_num {v : Vl} {i : Nat} (ht : v.t = 1 ∨ v.t = 2 ∨ v.t = 4 ∨ v.t = 5) : elemV v i = .mk (-v.t) [v.n.getD i 0] [] [] := by
  unfold elemV
  rw [if_neg (by omega), if_neg (by omega), if_pos ⟨by omega, by rcases ht with e | e | e | e <;> rw [e] <;> rfl⟩]
theorem elem_sym {v : Vl} {i : Nat} (ht : v.t = 3) : elemV v i = .mk (-3) [] [v.s.getD i ⟨#[]⟩] [] := by
  unfold elemV
  rw [if_neg (by omega), if_pos ht]
theorem elem_lst {v : Vl} {i : Nat} (ht : v.t = 0) : elemV v i = v.l.getD i v := by
  unfold elemV
  rw [if_pos ht]
theorem col_types {t : Int} (h : rCol t = true) : t = 0 ∨ t = 3 ∨ (t = 1 ∨ t = 2 ∨ t = 4 ∨ t = 5) := by
  unfold rCol rVec at h
  simp at h
  omega
theorem getD_at {α : Type} {l : List α} {i : Nat} (h : i < l.length) (d : α) : l.getD i d = l[i] := by simp [List.getD_eq_getElem?_getD, h]
theorem depth_leaf (t : Int) (n : List Int) (s : List ByteArray) : (Vl.mk t n s []).depth = 1 := by rw [Vl.depth_def]; rfl
/-- An element of a good vector or list is good. -/
theorem elem_ok {v : Vl} (h : okV v) (hc : rCol v.t = true) {i : Nat} (hi : i < v.count) : okV (elemV v i) ∧ (elemV v i).t ≠ 101 ∧ (elemV v i).depth + 1 ≤ max v.depth 2 := by
  obtain ⟨h1, h2, h3, h4, h5⟩ := ok_own h
  obtain ⟨p1, p2, p3, p4, p5, p6⟩ := plain_of h4
  rcases col_types hc with e | e | e
  · rw [count_lst e] at hi
    rw [elem_lst e, getD_at hi]
    have hm := List.getElem_mem hi
    have hl := p2 e
    unfold listV noNil at hl
    rw [Bool.and_eq_true] at hl
    refine ⟨((okV_iff v).1 h).2 _ hm, of_decide_eq_true (List.all_eq_true.1 hl.1 _ hm), ?_⟩
    have := Vl.depth_lt hm
    omega
  · rw [count_sym e] at hi
    rw [elem_sym e, getD_at hi]
    have hm := List.getElem_mem hi
    exact ⟨ok_sym (List.all_eq_true.1 (p6 (by rw [e]; rfl)) _ hm) (long_at h3 (by omega) _ hm), by simp only [Vl.t]; decide, by rw [depth_leaf]; omega⟩
  · rw [count_num e] at hi
    rw [elem_num e, getD_at hi]
    have hm := List.getElem_mem hi
    refine ⟨ok_num e fun e1 => ?_, (show ¬ (-v.t = 101) by omega), by rw [depth_leaf]; omega⟩
    have := p5 (by rw [e1]; rfl)
    unfold bitsV at this
    simpa using List.all_eq_true.1 this _ hm

/-! ## what is built of good elements -/
theorem atom_types {t : Int} (h : rAtom t = true) : t = -3 ∨ (t = -1 ∨ t = -2 ∨ t = -4 ∨ t = -5) := by
  unfold rAtom at h
  simp at h
  omega
theorem atom_num {x : Vl} (h : okV x) (ht : x.t = -1 ∨ x.t = -2 ∨ x.t = -4 ∨ x.t = -5) : ∃ k, x = .mk x.t [k] [] [] ∧ (x.t = -1 → k = 0 ∨ k = 1) := by
  obtain ⟨h1, h2, h3, h4, h5⟩ := ok_own h
  obtain ⟨p1, p2, p3, p4, p5, p6⟩ := plain_of h4
  obtain ⟨e1, e2⟩ := fields_num h1 (by omega)
  have hl := p1 (by unfold rAtom; simp; omega)
  rw [e1] at hl
  simp only [List.length_nil, Nat.add_zero] at hl
  obtain ⟨k, hk⟩ := List.length_eq_one_iff.1 hl
  refine ⟨k, ?_, fun e => ?_⟩
  · conv => lhs; rw [Vl.eta x, hk, e1, e2]
  · have := p5 (by rw [e]; rfl)
    rw [hk] at this
    unfold bitsV at this
    simpa using this
theorem atom_sym {x : Vl} (h : okV x) (ht : x.t = -3) : ∃ s, x = .mk x.t [] [s] [] ∧ symS s = true ∧ longS 64 s = false := by
  obtain ⟨h1, h2, h3, h4, h5⟩ := ok_own h
  obtain ⟨p1, p2, p3, p4, p5, p6⟩ := plain_of h4
  obtain ⟨e1, e2⟩ := fields_sym h1 (by omega)
  have hl := p1 (by rw [ht]; rfl)
  rw [e1] at hl
  simp only [List.length_nil, Nat.zero_add] at hl
  obtain ⟨s, hs⟩ := List.length_eq_one_iff.1 hl
  refine ⟨s, ?_, ?_, long_at h3 (by omega) s (by rw [hs]; simp)⟩
  · conv => lhs; rw [Vl.eta x, e1, hs, e2]
  · have := p6 (by rw [ht]; rfl)
    rw [hs] at this
    simpa using this
theorem unif_types {l : List Vl} (h : unif l = true) : ∃ t, rAtom t = true ∧ (∀ x ∈ l, x.t = t) ∧ (ofV l) = .mk (-t) (l.flatMap Vl.n) (l.flatMap Vl.s) [] ∧ 0 < l.length := by
  cases l with
  | nil => cases h
  | cons a r =>
    have h0 := h
    unfold unif at h
    rw [Bool.and_eq_true] at h
    refine ⟨a.t, by rw [← atom_same]; exact h.1, fun x hx => ?_, ?_, by simp⟩
    · rcases List.mem_cons.1 hx with rfl | hx
      · rfl
      · exact eq_of_beq (List.all_eq_true.1 h.2 x hx)
    · rw [ofV_vec h0 (by simp)]
      rfl
theorem nums_all {l : List Vl} {t : Int} (h : ∀ x ∈ l, okV x) (ht : t = -1 ∨ t = -2 ∨ t = -4 ∨ t = -5) (hx : ∀ x ∈ l, x.t = t) : (l.flatMap Vl.n).length = l.length ∧ l.flatMap Vl.s = [] ∧ (t = -1 → ∀ k ∈ l.flatMap Vl.n, k = 0 ∨ k = 1) := by
  induction l with
  | nil => exact ⟨rfl, rfl, by simp⟩
  | cons a r ih =>
    obtain ⟨i1, i2, i3⟩ := ih (fun x hx => h x (by simp [hx])) (fun x h => hx x (by simp [h]))
    obtain ⟨k, hk, hb⟩ := atom_num (h a (by simp)) (by rw [hx a (by simp)]; exact ht)
    have hn : a.n = [k] := by rw [hk]; rfl
    have hs : a.s = [] := by rw [hk]; rfl
    refine ⟨?_, ?_, fun e x hm => ?_⟩
    · rw [List.flatMap_cons, List.length_append, i1, hn, List.length_cons]
      simp
      omega
    · rw [List.flatMap_cons, i2, hs]
      rfl
    · rw [List.flatMap_cons, hn, List.mem_append] at hm
      rcases hm with hm | hm
      · rw [List.mem_singleton.1 hm]
        exact hb (by rw [hx a (by simp)]; exact e)
      · exact i3 e x hm
theorem syms_all {l : List Vl} (h : ∀ x ∈ l, okV x) (hx : ∀ x ∈ l, x.t = -3) : (l.flatMap Vl.s).length = l.length ∧ l.flatMap Vl.n = [] ∧ (l.flatMap Vl.s).all symS = true ∧ (l.flatMap Vl.s).any (longS 64) = false := by
  induction l with
  | nil => exact ⟨rfl, rfl, rfl, rfl⟩
  | cons a r ih =>
    obtain ⟨i1, i2, i3, i4⟩ := ih (fun x hx => h x (by simp [hx])) (fun x h => hx x (by simp [h]))
    obtain ⟨k, hk, hb, hb2⟩ := atom_sym (h a (by simp)) (hx a (by simp))
    have hn : a.s = [k] := by rw [hk]; rfl
    have hs : a.n = [] := by rw [hk]; rfl
    refine ⟨?_, ?_, ?_, ?_⟩
    · rw [List.flatMap_cons, List.length_append, i1, hn, List.length_cons]
      simp
      omega
    · rw [List.flatMap_cons, i2, hs]
      rfl
    · rw [List.flatMap_cons, hn, List.all_append, i3]
      simp [hb]
    · rw [List.flatMap_cons, hn, List.any_append, i4]
      simp [hb2]
theorem unif_alike {l : List Vl} (h : unif l = false) : alikeV l (headT l) l.length = false := by
  cases l with
  | nil => rfl
  | cons a r =>
    rw [Bool.eq_false_iff] at h ⊢
    intro ha
    apply h
    unfold alikeV at ha
    rw [List.take_length, Bool.and_eq_true] at ha
    have h2 := ha.2
    unfold unif
    rw [Bool.and_eq_true]
    have ha := List.all_eq_true.1 h2 a (by simp)
    rw [Bool.and_eq_true] at ha
    refine ⟨by rw [atom_same]; exact ha.1, List.all_eq_true.2 fun x hx => ?_⟩
    have := List.all_eq_true.1 h2 x (by simp [hx])
    rw [Bool.and_eq_true] at this
    rw [of_decide_eq_true this.2]
    simp [headT]
theorem ok_of {l : List Vl} (h : ∀ x ∈ l, okV x ∧ x.t ≠ 101) (hl : l.length ≤ 65536) : okV (ofV l) ∧ rCol (ofV l).t = true ∧ (ofV l).count = l.length ∧ (ofV l).depth ≤ Vl.depths l + 1 := by
  cases hu : unif l
  · rw [ofV_list hu]
    have hc : (Vl.mk 0 [] [] l).count = l.length := count_lst rfl
    refine ⟨(okV_iff _).2 ⟨own_mk rfl ?_ rfl ?_ rfl, fun x hx => (h x hx).1⟩, rfl, hc, by rw [Vl.depth_def]; exact Nat.le_refl _⟩
    · rw [many_mk, if_neg (by decide), hc, decide_eq_false (by omega), Bool.and_false]
    · rw [plain_mk, if_neg (by simp [rAtom]), if_pos rfl]
      unfold listV noNil
      rw [Bool.and_eq_true]
      refine ⟨List.all_eq_true.2 fun x hx => decide_eq_true (h x hx).2, ?_⟩
      have := unif_alike hu
      simp only [Vl.l]
      rw [this]
      rfl
  · obtain ⟨t, ht, hx, he, h0⟩ := unif_types hu
    rw [he]
    rcases atom_types ht with e | e
    · subst e
      obtain ⟨i1, i2, i3, i4⟩ := syms_all (fun x hx => (h x hx).1) hx
      rw [i2]
      exact ⟨ok_syms i3 i4 (by omega), rfl, by rw [count_sym rfl]; exact i1, by rw [depth_leaf]; omega⟩
    · obtain ⟨i1, i2, i3⟩ := nums_all (fun x hx => (h x hx).1) e hx
      rw [i2]
      refine ⟨ok_nums (by omega) (fun e1 => i3 (by omega)) (by omega), ?_, by rw [count_num (by simp only [Vl.t]; omega)]; exact i1, by rw [depth_leaf]; omega⟩
      rcases e with rfl | rfl | rfl | rfl <;> rfl
theorem depths_le {l : List Vl} {d : Nat} (h : ∀ x ∈ l, x.depth ≤ d) : Vl.depths l ≤ d := by
  induction l with
  | nil => exact Nat.zero_le _
  | cons a r ih =>
    have h1 := h a (by simp)
    have h2 := ih fun x hx => h x (by simp [hx])
    simp only [Vl.depths]
    omega
theorem depth_mem {x : Vl} {l : List Vl} (h : x ∈ l) : x.depth ≤ Vl.depths l := by
  induction l with
  | nil => cases h
  | cons a r ih =>
    simp only [Vl.depths]
    rcases List.mem_cons.1 h with rfl | h
    · omega
    · have := ih h; omega

/-! ## rows -/
theorem tab_ok {t : Vl} (h : okV t) (ht : t.t = 98) : 0 < t.s.length ∧ t.s.length = t.l.length ∧ t.s.length ≤ 64 ∧ t.s.all symS = true ∧ t.s.any (longS 64) = false ∧ (∀ c ∈ t.l, rCol c.t = true ∧ okV c ∧ c.count = t.count) := by
  obtain ⟨h1, h2, h3, h4, h5⟩ := ok_own h
  obtain ⟨p1, p2, p3, p4, p5, p6⟩ := plain_of h4
  have htab := p3 ht
  unfold tabV at htab
  rw [Bool.and_eq_true, Bool.and_eq_true] at htab
  obtain ⟨⟨q1, q2⟩, q3⟩ := htab
  have q1 := of_decide_eq_true q1
  have q2 := of_decide_eq_true q2
  have part : ∀ i (hi : i < t.s.length), symS t.s[i] = true ∧ rCol (t.l[i]'(by omega)).t = true := fun i hi => by
    have k : badT t i = false := by
      have := List.all_eq_true.1 q3 i (List.mem_range.2 hi)
      simpa using this
    unfold badT at k
    rw [getD_at hi, getD_at (show i < t.l.length by omega)] at k
    simp only [Bool.or_eq_false_iff, Bool.not_eq_false'] at k
    exact ⟨k.1.1.2, k.1.2⟩
  unfold manyV at h2
  rw [if_pos ht, Bool.or_eq_false_iff] at h2
  have h2 := of_decide_eq_false h2.1
  have hcount : t.count = Vl.countH t.l := by rw [Vl.count_def, if_neg (by omega), if_neg (by omega), if_neg (by omega), if_pos (by omega)]
  unfold evenV at h5
  rw [decide_eq_false (by omega), Bool.false_or] at h5
  unfold evenL at h5
  refine ⟨q1, q2, by omega, List.all_eq_true.2 fun s hs => ?_, List.any_eq_false.2 fun s hs => ?_, fun c hc => ⟨?_, ((okV_iff t).1 h).2 c hc, ?_⟩⟩
  · obtain ⟨i, hi, rfl⟩ := List.getElem_of_mem hs
    exact (part i hi).1
  · rw [long_at h3 (by omega) s hs]
    simp
  · obtain ⟨i, hi, rfl⟩ := List.getElem_of_mem hc
    exact (part i (by omega)).2
  · rw [hcount]
    exact of_decide_eq_true (List.all_eq_true.1 h5 c hc)
theorem tab_rowOk {t : Vl} (h : okV t) (ht : t.t = 98) {i : Nat} (hi : i < t.count) : rowOk [t] i := by
  intro x hx c hc
  rw [List.mem_singleton.1 hx] at hc
  rw [((tab_ok h ht).2.2.2.2.2 c hc).2.2]
  omega
theorem flat_len {ts : List Vl} (h : ∀ t ∈ ts, t.s.length = t.l.length) : (ts.flatMap Vl.s).length = (ts.flatMap Vl.l).length := by
  induction ts with
  | nil => rfl
  | cons a r ih =>
    rw [List.flatMap_cons, List.flatMap_cons, List.length_append, List.length_append, h a (by simp), ih fun t ht => h t (by simp [ht])]
theorem flat_most {ts : List Vl} (h : ∀ t ∈ ts, t.s.length ≤ 64) : (ts.flatMap Vl.s).length ≤ 64 * ts.length := by
  induction ts with
  | nil => simp
  | cons a r ih =>
    have h1 := h a (by simp)
    have h2 := ih fun t ht => h t (by simp [ht])
    rw [List.flatMap_cons, List.length_append, List.length_cons]
    omega
/-- A row of good tables is good. -/
theorem row_ok {ts : List Vl} {i : Nat} (h : ∀ t ∈ ts, okV t ∧ t.t = 98) (hr : rowOk ts i) (hl : ts.length ≤ 2) : okV (rowV ts i) ∧ (rowV ts i).depth ≤ max 3 (Vl.depths ts) := by
  have hns : ∀ t ∈ ts, t.s.length = t.l.length := fun t ht => (tab_ok (h t ht).1 (h t ht).2).2.1
  have hn64 : ∀ t ∈ ts, t.s.length ≤ 64 := fun t ht => (tab_ok (h t ht).1 (h t ht).2).2.2.1
  have hlen := flat_len hns
  have hmost := flat_most hn64
  have hel : ∀ x ∈ (ts.flatMap Vl.l).map fun c => elemV c i, okV x ∧ x.t ≠ 101 ∧ x.depth + 1 ≤ max (Vl.depths ts - 1) 2 := by
    intro x hx
    obtain ⟨c, hc, rfl⟩ := List.mem_map.1 hx
    obtain ⟨t, ht, hct⟩ := List.mem_flatMap.1 hc
    obtain ⟨k1, k2⟩ := h t ht
    obtain ⟨c1, c2, c3⟩ := (tab_ok k1 k2).2.2.2.2.2 c hct
    have hlt := hr t ht c hct
    obtain ⟨e1, e2, e3⟩ := elem_ok c2 c1 (i := i) (by omega)
    have d1 := Vl.depth_lt hct
    have d2 := depth_mem ht
    exact ⟨e1, e2, by omega⟩
  obtain ⟨o1, o2, o3, o4⟩ := ok_of (fun x hx => ⟨(hel x hx).1, (hel x hx).2.1⟩) (by rw [List.length_map, ← hlen]; omega)
  have hsy : okV (.mk 3 [] (ts.flatMap Vl.s) []) := by
    refine ok_syms (List.all_eq_true.2 fun s hs => ?_) (List.any_eq_false.2 fun s hs => ?_) (by omega)
    · obtain ⟨t, ht, hst⟩ := List.mem_flatMap.1 hs
      exact List.all_eq_true.1 (tab_ok (h t ht).1 (h t ht).2).2.2.2.1 s hst
    · obtain ⟨t, ht, hst⟩ := List.mem_flatMap.1 hs
      exact List.any_eq_false.1 (tab_ok (h t ht).1 (h t ht).2).2.2.2.2.1 s hst
  rw [List.length_map] at o3
  have hdl : Vl.depths ((ts.flatMap Vl.l).map fun c => elemV c i) ≤ max (Vl.depths ts - 2) 1 := depths_le fun x hx => by have := (hel x hx).2.2; omega
  unfold rowV
  generalize ofV ((ts.flatMap Vl.l).map fun c => elemV c i) = o at *
  have hc1 : (Vl.mk 3 [] (ts.flatMap Vl.s) []).count = (ts.flatMap Vl.s).length := count_sym rfl
  refine ⟨(okV_iff _).2 ⟨own_mk rfl ?_ rfl ?_ ?_, fun x hx => ?_⟩, ?_⟩
  · rw [many_mk, if_neg (by decide)]
    rfl
  · rw [plain_mk, if_neg (by simp [rAtom]), if_neg (by decide), if_neg (by decide), if_pos rfl]
    unfold dicV
    simp only [Vl.l]
    rw [o2]
    rfl
  · rw [even_mk]
    unfold evenL
    simp only [List.all_cons, List.all_nil, Vl.countH, hc1, o3, hlen]
    simp
  · simp only [Vl.l, List.mem_cons, List.not_mem_nil, or_false] at hx
    rcases hx with rfl | rfl
    · exact hsy
    · exact o1
  · rw [Vl.depth_def]
    simp only [Vl.l, Vl.depths, depth_leaf]
    omega

/-- Every place of a good value has an element, which is good. -/
theorem at_ok {v : Vl} (h : checkV v = 0) {i : Nat} (hi : i < v.count) : ∃ x, atF v.depth v i = some x ∧ checkV x = 0 := by
  obtain ⟨hok, hd⟩ := check_ok h
  obtain ⟨h1, h2, h3, h4, h5⟩ := ok_own hok
  obtain ⟨p1, p2, p3, p4, p5, p6⟩ := plain_of h4
  have hdd := Vl.depth_def v
  obtain ⟨d, hde⟩ : ∃ d, v.depth = d + 1 := ⟨_, hdd⟩
  have hi0 : (0 : Int) ≤ (i : Int) ∧ (i : Int) < (v.count : Int) := by omega
  rw [hde]
  unfold atF
  by_cases h98 : v.t = 98
  · rw [if_pos h98, if_pos ((rowB_iff _ _).2 (tab_rowOk hok h98 hi))]
    obtain ⟨r1, r2⟩ := row_ok (ts := [v]) (i := i) (fun t ht => by rw [List.mem_singleton.1 ht]; exact ⟨hok, h98⟩) (tab_rowOk hok h98 hi) (by simp)
    refine ⟨_, rfl, ok_check r1 ?_⟩
    simp only [Vl.depths] at r2
    have : (i : Int).toNat = i := rfl
    rw [this]
    omega
  rw [if_neg h98]
  by_cases h99 : v.t = 99 ∧ v.l.length = 2
  · rw [if_pos h99]
    obtain ⟨e99, hl2⟩ := h99
    have hdic := p4 e99
    match hl : v.l, hl2 with
    | [a, b], _ =>
      have ha := ((okV_iff v).1 hok).2 a (by rw [hl]; simp)
      have hb := ((okV_iff v).1 hok).2 b (by rw [hl]; simp)
      have hcount : v.count = a.count := by rw [Vl.count_def, if_neg (by omega), if_neg (by omega), if_neg (by omega), if_pos (by omega), hl]; rfl
      have hbc : b.count = a.count := by
        unfold evenV evenL at h5
        rw [decide_eq_false (by omega), Bool.false_or, hl] at h5
        simp only [List.all_cons, List.all_nil, Vl.countH, Bool.and_true, Bool.and_eq_true, decide_eq_true_eq] at h5
        exact of_decide_eq_true h5.2
      have hda : a.depth < v.depth := Vl.depth_lt (by rw [hl]; simp)
      have hdb : b.depth < v.depth := Vl.depth_lt (by rw [hl]; simp)
      unfold dicV at hdic
      rw [hl] at hdic
      simp only [Bool.or_eq_true, Bool.and_eq_true, decide_eq_true_eq] at hdic
      rcases hdic with ⟨c1, c2⟩ | ⟨c1, c2⟩
      · have hnt : [a, b].all isTab = false := by
          have : isTab a = false := by
            unfold isTab
            rw [beq_eq_false_iff_ne]
            intro e
            rw [e] at c1
            exact absurd c1 (by decide)
          simp [this]
        rw [if_neg (by rw [hnt]; simp)]
        obtain ⟨d', rfl⟩ : ∃ d', d = d' + 1 := by
          have := Vl.depth_def b
          exact ⟨d - 1, by omega⟩
        have hb98 : b.t ≠ 98 := fun e => by rw [e] at c2; exact absurd c2 (by decide)
        have hb99 : b.t ≠ 99 := fun e => by rw [e] at c2; exact absurd c2 (by decide)
        have hbd : ([a, b] : List Vl).getD 1 v = b := rfl
        rw [hbd]
        unfold atF
        rw [if_neg hb98, if_neg (fun e => hb99 e.1), if_pos (by omega)]
        obtain ⟨e1, e2, e3⟩ := elem_ok hb c2 (i := i) (by omega)
        refine ⟨_, rfl, ok_check e1 ?_⟩
        have : (i : Int).toNat = i := rfl
        rw [this]
        omega
      · have hnt : [a, b].all isTab = true := by simp [isTab, c1, c2]
        have hrow : rowOk [a, b] i := by
          intro t ht c hc
          simp only [List.mem_cons, List.not_mem_nil, or_false] at ht
          rcases ht with rfl | rfl
          · rw [((tab_ok ha c1).2.2.2.2.2 c hc).2.2]; omega
          · rw [((tab_ok hb c2).2.2.2.2.2 c hc).2.2]; omega
        rw [if_pos hnt, if_pos ((rowB_iff _ _).2 hrow)]
        obtain ⟨r1, r2⟩ := row_ok (ts := [a, b]) (i := i) (fun t ht => by
          simp only [List.mem_cons, List.not_mem_nil, or_false] at ht
          rcases ht with rfl | rfl
          · exact ⟨ha, c1⟩
          · exact ⟨hb, c2⟩) hrow (by simp)
        refine ⟨_, rfl, ok_check r1 ?_⟩
        simp only [Vl.depths] at r2
        have : (i : Int).toNat = i := rfl
        rw [this]
        omega
  rw [if_neg h99, if_pos hi0]
  refine ⟨_, rfl, ?_⟩
  have : (i : Int).toNat = i := rfl
  rw [this]
  by_cases hc : rCol v.t = true
  · obtain ⟨e1, e2, e3⟩ := elem_ok hok hc hi
    exact ok_check e1 (by omega)
  · have : elemV v i = v := by
      have hn : ¬ (v.t = 0 ∨ v.t = 3 ∨ (v.t = 1 ∨ v.t = 2 ∨ v.t = 4 ∨ v.t = 5)) := by
        intro hx
        apply hc
        rcases hx with e | e | e | e | e | e <;> rw [e] <;> rfl
      unfold elemV
      rw [if_neg (by omega), if_neg (by omega), if_neg ?_]
      rintro ⟨q1, q2⟩
      unfold hasN at q2
      simp at q2
      omega
    rw [this]
    exact h
theorem at_tot {v x : Vl} {i : Nat} (h : atF v.depth v i = some x) : x.tot ≤ 3 + 2 * v.tot := atF_tot _ _ _ _ h

/-- All elements of a value. -/
def elems (v : Vl) (k : Nat) : List Vl := (List.range k).map fun i : Nat => (atF v.depth v (i : Int)).getD v
theorem elems_succ (v : Vl) (k : Nat) : elems v (k + 1) = elems v k ++ [(atF v.depth v (k : Int)).getD v] := by
  unfold elems
  rw [List.range_succ, List.map_append]
  rfl
theorem elems_len (v : Vl) (k : Nat) : (elems v k).length = k := by simp [elems]
theorem atF_col {v : Vl} (hc : rCol v.t = true) {i : Nat} (hi : i < v.count) : atF v.depth v i = some (elemV v i) := by
  obtain ⟨d, hde⟩ : ∃ d, v.depth = d + 1 := ⟨_, Vl.depth_def v⟩
  rw [hde]
  unfold atF
  have h98 : v.t ≠ 98 := fun e => by rw [e] at hc; exact absurd hc (by decide)
  have h99 : v.t ≠ 99 := fun e => by rw [e] at hc; exact absurd hc (by decide)
  rw [if_neg h98, if_neg (fun e => h99 e.1), if_pos (by omega)]
  rfl
theorem flatMap_one {α : Type} (f : Vl → List α) (g : Nat → Vl) (l : List α) (h : ∀ i (hi : i < l.length), f (g i) = [l[i]]) : ((List.range l.length).map g).flatMap f = l := by
  suffices ∀ k, k ≤ l.length → ((List.range k).map g).flatMap f = l.take k by
    have := this l.length (Nat.le_refl _)
    rwa [List.take_length] at this
  intro k
  induction k with
  | zero => intro _; simp
  | succ k ih =>
    intro hk
    rw [List.range_succ, List.map_append, List.flatMap_append, ih (by omega), List.take_succ_eq_append_getElem (by omega)]
    simp [h k (by omega)]
theorem flatMap_none {α : Type} (f : Vl → List α) (l : List Vl) (h : ∀ x ∈ l, f x = []) : l.flatMap f = [] := by
  induction l with
  | nil => rfl
  | cons a r ih => rw [List.flatMap_cons, h a (by simp), ih fun x hx => h x (by simp [hx])]; rfl
theorem tots_range (g : Nat → Vl) (k : Nat) : Vl.tots ((List.range (k + 1)).map g) = Vl.tots ((List.range k).map g) + (g k).tot := by
  rw [List.range_succ, List.map_append, Vl.tots_append]
  simp [Vl.tots]
/-- How much a vector's or a list's elements are. -/
theorem elemsV_tots {v : Vl} (hc : rCol v.t = true) : Vl.tots (elems v v.count) ≤ 2 * v.tot := by
  have ht := Vl.tot_def v
  have hall : elems v v.count = (List.range v.count).map (elemV v) := List.map_congr_left fun i hi => by rw [atF_col hc (List.mem_range.1 hi)]; rfl
  rw [hall]
  rcases col_types hc with e | e | e
  · rw [count_lst e]
    have hle : (List.range v.l.length).map (elemV v) = v.l := by
      apply List.ext_getElem
      · simp
      · intro i a b
        simp only [List.getElem_map, List.getElem_range]
        rw [elem_lst e, getD_at b]
    rw [hle]
    omega
  · rw [count_sym e]
    have key : ∀ k, k ≤ v.s.length → Vl.tots ((List.range k).map (elemV v)) = 2 * k + Vl.chars (v.s.take k) := by
      intro k
      induction k with
      | zero => intro _; rfl
      | succ k ih =>
        intro hk
        rw [tots_range, ih (by omega), elem_sym e, getD_at (show k < v.s.length by omega), Vl.chars_take _ _ (by omega), Vl.tot_def]
        simp only [Vl.n, Vl.s, Vl.l, Vl.chars, Vl.tots, List.length_nil, List.length_singleton, List.map_cons, List.map_nil, List.sum_cons, List.sum_nil]
        omega
    rw [key _ (Nat.le_refl _), List.take_length]
    omega
  · rw [count_num e]
    have key : ∀ k, Vl.tots ((List.range k).map (elemV v)) = 2 * k := by
      intro k
      induction k with
      | zero => rfl
      | succ k ih =>
        rw [tots_range, ih, elem_num e, Vl.tot_def]
        simp only [Vl.n, Vl.s, Vl.l, Vl.chars, Vl.tots, List.length_nil, List.length_singleton, List.map_nil, List.sum_nil]
        omega
    rw [key]
    omega
/-- What is built of a value's elements is it (P3.11). -/
theorem of_elems {v : Vl} (h : okV v) (ht : v.t = 0 ∨ (0 < v.t ∧ v.t ≤ 5 ∧ 0 < v.count)) : ofV (elems v v.count) = v := by
  obtain ⟨h1, h2, h3, h4, h5⟩ := ok_own h
  obtain ⟨p1, p2, p3, p4, p5, p6⟩ := plain_of h4
  have hc : rCol v.t = true := by
    unfold rCol rVec
    simp
    omega
  have hel : ∀ i, i < v.count → (atF v.depth v i).getD v = elemV v i := fun i hi => by rw [atF_col hc hi]; rfl
  have hall : elems v v.count = (List.range v.count).map (elemV v) := List.map_congr_left fun i hi => hel i (List.mem_range.1 hi)
  rw [hall]
  rcases col_types hc with e | e | e
  · rw [count_lst e]
    have hle : (List.range v.l.length).map (elemV v) = v.l := by
      apply List.ext_getElem
      · simp
      · intro i a b
        simp only [List.getElem_map, List.getElem_range]
        rw [elem_lst e, getD_at b]
    rw [hle]
    have hl := p2 e
    unfold listV at hl
    rw [Bool.and_eq_true] at hl
    rw [ofV_list (unif_list (by simpa using hl.2))]
    obtain ⟨e1, e2⟩ := fields_lst h1 e
    conv => rhs; rw [Vl.eta v, e, e1, e2]
  · have h0 : 0 < v.count := by omega
    rw [count_sym e] at h0 ⊢
    obtain ⟨e1, e2⟩ := fields_sym h1 (.inl e)
    have hg : ∀ i, elemV v i = .mk (-3) [] [v.s.getD i ⟨#[]⟩] [] := fun i => elem_sym e
    have hu : unif ((List.range v.s.length).map (elemV v)) = true := by
      rw [unif_cons (by simpa using h0), Bool.and_eq_true]
      simp only [List.getElem_map, hg]
      refine ⟨rfl, List.all_eq_true.2 fun x hx => ?_⟩
      obtain ⟨i, _, rfl⟩ := List.mem_map.1 hx
      rw [hg]
      rfl
    rw [ofV_vec hu (by simpa using h0), flatMap_one Vl.s (elemV v) v.s (fun i hi => by rw [hg, getD_at hi]; rfl), flatMap_none Vl.n _ (fun x hx => by obtain ⟨i, _, rfl⟩ := List.mem_map.1 hx; rw [hg]; rfl)]
    simp only [List.getElem_map, hg, Vl.t]
    conv => rhs; rw [Vl.eta v, e, e1, e2]
    rfl
  · have h0 : 0 < v.count := by omega
    rw [count_num e] at h0 ⊢
    obtain ⟨e1, e2⟩ := fields_num h1 (by omega)
    have hg : ∀ i, elemV v i = .mk (-v.t) [v.n.getD i 0] [] [] := fun i => elem_num e
    have hu : unif ((List.range v.n.length).map (elemV v)) = true := by
      rw [unif_cons (by simpa using h0), Bool.and_eq_true]
      simp only [List.getElem_map, hg]
      refine ⟨?_, List.all_eq_true.2 fun x hx => ?_⟩
      · show atomT (-v.t) = true
        rcases e with e | e | e | e <;> rw [e] <;> rfl
      · obtain ⟨i, _, rfl⟩ := List.mem_map.1 hx
        rw [hg]
        simp [Vl.t]
    rw [ofV_vec hu (by simpa using h0), flatMap_one Vl.n (elemV v) v.n (fun i hi => by rw [hg, getD_at hi]; rfl), flatMap_none Vl.s _ (fun x hx => by obtain ⟨i, _, rfl⟩ := List.mem_map.1 hx; rw [hg]; rfl)]
    simp only [List.getElem_map, hg, Vl.t, Int.neg_neg]
    conv => rhs; rw [Vl.eta v, e1, e2]
    rfl
end Go.Proofs.Ytfckmkpfhchggaa
