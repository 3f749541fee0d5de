/-
  How many unlike elements there are; stays with every mark; unlike.
-/
import Derived.Test.YtfdckhnhancbdaaAv
namespace Go.Proofs.Ytfdckhnhancbdaa
open Go.RowKit
attribute [local go_sem ↓] Go.wp_at_zero Go.wp_at_succ

section
variable {κ ν : Type} [DecidableEq κ]
theorem aget_iff (l : List (κ × ν)) (k : κ) : aget l k ≠ none ↔ k ∈ l.map (·.1) := by
  induction l with
  | nil => simp [aget]
  | cons x l ih =>
    obtain ⟨a, v⟩ := x
    simp only [aget, List.map_cons, List.mem_cons]
    by_cases e : a = k
    · simp [e]
    · rw [if_neg e, ih]
      constructor
      · exact .inr
      · rintro (h | h)
        · exact absurd h.symm e
        · exact h
theorem aput_keys (l : List (κ × ν)) (k : κ) (u : ν) : (aput l k u).map (·.1) = if k ∈ l.map (·.1) then l.map (·.1) else l.map (·.1) ++ [k] := by
  induction l with
  | nil => simp [aput]
  | cons x l ih =>
    obtain ⟨a, v⟩ := x
    simp only [aput, List.map_cons, List.mem_cons]
    by_cases e : a = k
    · subst e
      simp
    · have e' : ¬ k = a := fun h => e h.symm
      rw [if_neg e, List.map_cons, ih]
      by_cases h : k ∈ l.map (·.1)
      · simp [h]
      · simp [h, e']
end
/-- The unlike elements, in the order in which they come first. -/
def setK (es : List (Int × ByteArray)) : List ((Int × ByteArray) × Unit) := es.foldl (fun s k => aput s k ()) []
def uniqK (es : List (Int × ByteArray)) : Nat := (setK es).length
theorem setK_snoc (es : List (Int × ByteArray)) (k : Int × ByteArray) : setK (es ++ [k]) = aput (setK es) k () := by simp [setK]
theorem list_snoc {α : Type} (P : List α → Prop) (h0 : P []) (h1 : ∀ l x, P l → P (l ++ [x])) (l : List α) : P l := by
  rw [← List.reverse_reverse l]
  induction l.reverse with
  | nil => exact h0
  | cons x r ih =>
    rw [List.reverse_cons]
    exact h1 _ _ ih
theorem setK_keys (es : List (Int × ByteArray)) : ((setK es).map (·.1)).Nodup ∧ ∀ k, k ∈ (setK es).map (·.1) ↔ k ∈ es := by
  refine list_snoc (fun es => ((setK es).map (·.1)).Nodup ∧ ∀ k, k ∈ (setK es).map (·.1) ↔ k ∈ es) ⟨by simp [setK], by simp [setK]⟩ (fun l x ih => ?_) es
  obtain ⟨h1, h2⟩ := ih
  rw [setK_snoc, aput_keys]
  by_cases h : x ∈ (setK l).map (·.1)
  · rw [if_pos h]
    refine ⟨h1, fun k => ?_⟩
    rw [h2 k, List.mem_append, List.mem_singleton]
    constructor
    · exact .inl
    · rintro (h' | rfl)
      · exact h'
      · exact (h2 _).1 h
  · rw [if_neg h]
    refine ⟨?_, fun k => ?_⟩
    · rw [List.nodup_append]
      refine ⟨h1, by simp, fun a ha b hb => ?_⟩
      rw [List.mem_singleton.1 hb]
      rintro rfl
      exact h ha
    · rw [List.mem_append, List.mem_append, h2 k]
theorem places_iff (es : List (Int × ByteArray)) (k : Int × ByteArray) : places es k ≠ [] ↔ k ∈ es := by
  unfold places
  constructor
  · intro h
    obtain ⟨i, hi⟩ := List.exists_mem_of_ne_nil _ h
    have := (List.mem_filter.1 hi).2
    exact List.mem_of_getElem? (of_decide_eq_true this)
  · intro h e
    obtain ⟨i, hi⟩ := List.getElem?_of_mem h
    have hl : i < es.length := (List.getElem?_eq_some_iff.1 hi).1
    have : i ∈ (List.range es.length).filter fun i => decide (es[i]? = some k) := List.mem_filter.2 ⟨List.mem_range.2 hl, decide_eq_true hi⟩
    rw [e] at this
    cases this
theorem trV_keys (tr : Tr) : (trV tr).map (·.1) = tr.map (·.1) := by simp [trV, List.map_map, Function.comp_def]
theorem trL_keys (tr : Tr) : (trL tr).map (·.1) = tr.map (·.1) := by simp [trL, List.map_map, Function.comp_def]
theorem IxB.len {w : World} {base g : Nat} {mark t : Int} {v : Value} {mb : Nat} {tr : Tr} {es : List (Int × ByteArray)} {f : List Nat} (h : IxB w base g mark t v mb tr es f) : tr.length = uniqK es := by
  have h1 := h.map.nodup
  rw [trV_keys] at h1
  obtain ⟨h2, h3⟩ := setK_keys es
  have hp : (tr.map (·.1)).Perm ((setK es).map (·.1)) := (List.perm_ext_iff_of_nodup h1 h2).2 fun k => by
    rw [h3 k, ← places_iff es k, ← trL_keys tr, ← aget_iff (trL tr) k, h.pl k]
    by_cases e : places es k = []
    · rw [if_pos e]; simp [e]
    · rw [if_neg e]; simp [e]
  have := hp.length_eq
  simpa [uniqK] using this
/-- Is the vector as its mark says? -/
def holdsG (mark : Int) (es : List (Int × ByteArray)) : Bool := if mark = 1 then decide (fallsK es = 0) else if mark = 2 then ((uniqK es : Int) == (es.length : Int)) else if mark = 4 then ((uniqK es : Int) == runsK es) else true
def Mark5 (mark : Int) : Prop := 0 ≤ mark ∧ mark ≤ 4
theorem holdsG_K {mark : Int} (h : Mark3 mark) (es : List (Int × ByteArray)) : holdsG mark es = holdsK mark es := by
  unfold holdsG holdsK
  rcases h with rfl | rfl | rfl <;> simp

section
variable {κ ν : Type} [DecidableEq κ] {E : EncK κ ν} {P : Program} (w : World) {ops : Array Oper} {rest : List Oper} {o : Oper} {a : Act} {Q : Exit → Act → World → Prop}
omit [DecidableEq κ] in
theorem wpList_mlenK (hg : o.guard = none) (m : Operand) (t : TypeId) (hop : o.op = Op.call { callee := Callee.builtin Builtin.len, args := #[m], argTypes := #[t] }) (kt e : TypeId) (ht : P.underlying t = some (.map kt e))
    (b : Nat) (l : List (κ × ν)) (hm : a.eval m = .map (some b)) (h : MapK E w b l) (hK : wpList P ops Q rest (a.put o.dst (.int .i64 (l.length : Int))) w) : wpList P ops Q (o :: rest) a w := by
  refine wpList_plain hg fun K' hK' => ?_
  unfold Oper.wp
  simp [execOp, hop, resolve, invoke, builtin, hm, h.len (P := P) ht o.type, Result.andThen]
  exact hK' _ _ hK
theorem wpList_putK (kt : TypeId) (K : KeyRun P kt E) (hg : o.guard = none) (m x v : Operand) (t : TypeId) (hop : o.op = Op.mapUpdate t m x v) (e : TypeId) (ht : P.underlying t = some (.map kt e))
    (b : Nat) (l : List (κ × ν)) (hm : a.eval m = .map (some b)) (h : MapK E w b l) (k : κ) (u : ν) (hx : a.eval x = E.ek k) (hv : a.eval v = E.ev u)
    (hK : ∀ w', MapK E w' b (aput l k u) → w.grownBy w' (some b) → w'.heap.size = w.heap.size → wpList P ops Q rest (a.put o.dst undef) w') : wpList P ops Q (o :: rest) a w := by
  refine wpList_plain hg fun K' hK' => ?_
  obtain ⟨w', hrun, r1, r2, r3⟩ := h.update (P := P) K ht k u
  unfold Oper.wp
  simp [execOp, hop, hm, hx, hv, hrun, Result.andThen]
  exact hK' _ _ (hK w' r1 r2 r3)
end
set_option maxHeartbeats 1000000 in
set_option maxRecDepth 100000 in
theorem lenP_any (base g : Nat) (mark t : Int) (v : Value) (mb : Nat) (tr : Tr) (es : List (Int × ByteArray)) (f : List Nat) (b : Nat) (w : World) (h : IxB w base g mark t v mb tr es f) (hb : w.heap[b]? = some (.cells #[.pointer (some ⟨g, 0, none⟩)] 30 (0, 0))) :
    Calls Try.prog 61 #[.pointer (some ⟨b, 0, none⟩)] w fun e w' => e = .returned (.int .i64 ((uniqK es : Nat) : Int)) ∧ w.grownBy w' none := by
  have b0 : w.cell? ⟨b, 0, none⟩ = some (.pointer (some ⟨g, 0, none⟩)) := by rw [blk_cell hb]; rfl
  have c5 : w.cell? ⟨g, 5, none⟩ = some (.map (some mb)) := by rw [blk_cell h.col.blk]; rfl
  have HM := hide h.map
  have HL := hide h.len
  clear h hb
  go_enter Try.func61, Try.ntmps61
  go_wp2_with (refine wpList_mlenK _ rfl (.tmp 5) 75 rfl _ _ Try.underlying75 mb _ rfl HM.out ?_)
  go_ret
  refine ⟨?_, gb_refl w none⟩
  rw [show (trV tr).length = uniqK es by rw [← HL.out]; simp [trV]]
  rfl
end Go.Proofs.Ytfdckhnhancbdaa
