/-
  An index in memory: its column, its map of places, the rows of the places; which blocks are its own.
-/
import Derived.Test.YtfdckhnhancbdaaAe
namespace Go.Proofs.Ytfdckhnhancbdaa
open Go.RowKit

/-- Places as cells. -/
def nts (l : List Nat) : List Value := l.map fun (n : Nat) => Value.int .i64 (n : Int)
theorem nts_length (l : List Nat) : (nts l).length = l.length := by simp [nts]
theorem nts_app (l m : List Nat) : nts (l ++ m) = nts l ++ nts m := by simp [nts]
theorem nts_one (l : List Nat) : ∀ u ∈ nts l, u.oneCell' = true := by
  intro u hu
  obtain ⟨n, _, rfl⟩ := List.mem_map.1 hu
  rfl

section
variable {κ ν μ : Type} [DecidableEq κ]
theorem aget_map (h : ν → μ) (l : List (κ × ν)) (k : κ) : aget (l.map fun x => (x.1, h x.2)) k = (aget l k).map h := by
  induction l with
  | nil => rfl
  | cons x l ih =>
    obtain ⟨a, v⟩ := x
    simp only [List.map_cons, aget]
    by_cases e : a = k
    · simp [e]
    · simp [e, ih]
theorem aput_map (h : ν → μ) (l : List (κ × ν)) (k : κ) (u : ν) : (aput l k u).map (fun x => (x.1, h x.2)) = aput (l.map fun x => (x.1, h x.2)) k (h u) := by
  induction l with
  | nil => rfl
  | cons x l ih =>
    obtain ⟨a, v⟩ := x
    simp only [List.map_cons, aput]
    by_cases e : a = k
    · simp [e]
    · simp [e, ih]
theorem aget_aput (l : List (κ × ν)) (k k' : κ) (u : ν) : aget (aput l k u) k' = if k = k' then some u else aget l k' := by
  induction l with
  | nil => simp [aput, aget]
  | cons x l ih =>
    obtain ⟨a, v⟩ := x
    simp only [aput]
    by_cases e : a = k
    · subst e
      by_cases e' : a = k' <;> simp [aget, e']
    · rw [if_neg e]
      simp only [aget]
      by_cases e2 : a = k'
      · have e' : ¬ k = k' := fun h => e (e2.trans h.symm)
        rw [if_pos e2, if_neg e', if_pos e2]
      · rw [if_neg e2, if_neg e2, ih]
theorem aput_form (l : List (κ × ν)) (k : κ) : ∃ a b, (∀ u, aput l k u = a ++ (k, u) :: b) ∧ (∀ x ∈ a ++ b, x ∈ l) ∧ ((aget l k = none ∧ l = a ∧ b = []) ∨ ∃ y, aget l k = some y ∧ l = a ++ (k, y) :: b) := by
  induction l with
  | nil => exact ⟨[], [], fun u => rfl, by simp, .inl ⟨rfl, rfl, rfl⟩⟩
  | cons x l ih =>
    obtain ⟨c, v⟩ := x
    by_cases e : c = k
    · subst e
      exact ⟨[], l, fun u => by simp [aput], fun x hx => List.mem_cons_of_mem _ hx, .inr ⟨v, by simp [aget], rfl⟩⟩
    · obtain ⟨a, b, h1, h2, h3⟩ := ih
      refine ⟨(c, v) :: a, b, fun u => by simp [aput, e, h1], fun x hx => ?_, ?_⟩
      · rcases List.mem_cons.1 hx with rfl | hx
        · simp
        · exact List.mem_cons_of_mem _ (h2 x hx)
      · rcases h3 with ⟨h3, h4, h5⟩ | ⟨y, h3, h4⟩
        · exact .inl ⟨by simp [aget, e, h3], by rw [← h4], h5⟩
        · exact .inr ⟨y, by simp [aget, e, h3], by rw [List.cons_append, ← h4]⟩
end

/-- The places of an element. -/
def places (es : List (Int × ByteArray)) (k : Int × ByteArray) : List Nat := (List.range es.length).filter fun i => decide (es[i]? = some k)
theorem places_nil (k : Int × ByteArray) : places [] k = [] := rfl
theorem places_snoc (es : List (Int × ByteArray)) (k k' : Int × ByteArray) : places (es ++ [k]) k' = places es k' ++ (if k = k' then [es.length] else []) := by
  unfold places
  rw [List.length_append, List.length_singleton, List.range_succ, List.filter_append]
  congr 1
  · apply List.filter_congr
    intro i hi
    rw [List.getElem?_append_left (List.mem_range.1 hi)]
  · by_cases e : k = k' <;> simp [e]
/-- A list of pairs tells the places of each element. -/
def PlOK (es : List (Int × ByteArray)) (pl : List ((Int × ByteArray) × List Nat)) : Prop := ∀ k, aget pl k = if places es k = [] then none else some (places es k)
theorem PlOK.nil_ : PlOK [] [] := fun _ => rfl
theorem PlOK.get {es : List (Int × ByteArray)} {pl : List ((Int × ByteArray) × List Nat)} (h : PlOK es pl) (k : Int × ByteArray) : (aget pl k).getD [] = places es k := by
  rw [h k]
  by_cases e : places es k = []
  · rw [if_pos e, e]; rfl
  · rw [if_neg e]; rfl
theorem PlOK.snoc {es : List (Int × ByteArray)} {pl : List ((Int × ByteArray) × List Nat)} (h : PlOK es pl) (k : Int × ByteArray) : PlOK (es ++ [k]) (aput pl k (places es k ++ [es.length])) := by
  intro k'
  rw [aget_aput, places_snoc, h k']
  by_cases e : k = k'
  · subst e
    simp
  · simp [e]

/-- An index's map: each element, the slice of its places, these places. -/
abbrev Tr := List ((Int × ByteArray) × (Value × List Nat))
def trV (tr : Tr) : List ((Int × ByteArray) × Value) := tr.map fun x => (x.1, x.2.1)
def trL (tr : Tr) : List ((Int × ByteArray) × List Nat) := tr.map fun x => (x.1, x.2.2)
def trB (tr : Tr) : List Nat := tr.flatMap fun x => x.2.1.ownBlock.toList
theorem trB_app (a b : Tr) : trB (a ++ b) = trB a ++ trB b := by simp [trB]
theorem trB_cons (x : (Int × ByteArray) × (Value × List Nat)) (b : Tr) : trB (x :: b) = x.2.1.ownBlock.toList ++ trB b := by simp [trB]
theorem trV_put (tr : Tr) (k : Int × ByteArray) (u : Value × List Nat) : trV (aput tr k u) = aput (trV tr) k u.1 := aput_map (fun x : Value × List Nat => x.1) tr k u
theorem trL_put (tr : Tr) (k : Int × ByteArray) (u : Value × List Nat) : trL (aput tr k u) = aput (trL tr) k u.2 := aput_map (fun x : Value × List Nat => x.2) tr k u
theorem trV_get (tr : Tr) (k : Int × ByteArray) : aget (trV tr) k = (aget tr k).map (·.1) := aget_map (fun x : Value × List Nat => x.1) tr k
theorem trL_get (tr : Tr) (k : Int × ByteArray) : aget (trL tr) k = (aget tr k).map (·.2) := aget_map (fun x : Value × List Nat => x.2) tr k

structure IxB (w : World) (base g : Nat) (mark t : Int) (v : Value) (mb : Nat) (tr : Tr) (es : List (Int × ByteArray)) (f : List Nat) : Prop where
  col : ColB w base g 77 [.map (some mb)] mark t v es (runsK es) (fallsK es)
  map : MapK encP w mb (trV tr)
  rows : ∀ x ∈ tr, w.ownsRow base 3 1 x.2.1 x.2.2.length (nts x.2.2)
  pl : PlOK es (trL tr)
  foot : f = g :: mb :: (v.ownBlock.toList ++ trB tr)
  nd : f.Nodup
  bg : base ≤ g ∧ base ≤ mb
/-- An index in block g: its mark, its type, its elements; its blocks are f. -/
def IxF (w : World) (base : Nat) (f : List Nat) (g : Nat) (mark t : Int) (es : List (Int × ByteArray)) : Prop := ∃ v mb tr, IxB w base g mark t v mb tr es f

theorem IxB.lt {w : World} {base g : Nat} {mark t : Int} {v : Value} {mb : Nat} {tr : Tr} {es : List (Int × ByteArray)} {f : List Nat} (h : IxB w base g mark t v mb tr es f) : ∀ x ∈ f, base ≤ x ∧ x < w.heap.size := by
  intro x hx
  rw [h.foot] at hx
  rcases List.mem_cons.1 hx with rfl | hx
  · exact ⟨h.bg.1, blk_lt h.col.blk⟩
  rcases List.mem_cons.1 hx with rfl | hx
  · exact ⟨h.bg.2, h.map.lt⟩
  rcases List.mem_append.1 hx with hx | hx
  · have := own_lt h.col.own (g := x) (by simpa using hx)
    exact ⟨this.2, this.1⟩
  · obtain ⟨y, hy, hyx⟩ := List.mem_flatMap.1 hx
    have := own_lt (h.rows y hy) (g := x) (by simpa using hyx)
    exact ⟨this.2, this.1⟩
theorem IxF.lt {w : World} {base g : Nat} {mark t : Int} {es : List (Int × ByteArray)} {f : List Nat} (h : IxF w base f g mark t es) : ∀ x ∈ f, base ≤ x ∧ x < w.heap.size := by
  obtain ⟨v, mb, tr, h⟩ := h
  exact h.lt
theorem IxB.keep {w w' : World} {base g : Nat} {mark t : Int} {v : Value} {mb : Nat} {tr : Tr} {es : List (Int × ByteArray)} {f : List Nat} (h : IxB w base g mark t v mb tr es f) (hk : ∀ b ∈ f, w'.heap[b]? = w.heap[b]?) : IxB w' base g mark t v mb tr es f := by
  have hf := h.foot
  refine ⟨h.col.keep fun b hb => hk b (by
      rw [hf]
      rcases hb with rfl | hb
      · simp
      · simp [hb]), h.map.keep (hk mb (by rw [hf]; simp)), fun x hx => own_keep (h.rows x hx) fun b hb => hk b (by
      rw [hf]
      have : b ∈ trB tr := List.mem_flatMap.2 ⟨x, hx, by simp [hb]⟩
      simp [this]), h.pl, hf, h.nd, h.bg⟩
theorem IxF.gb {w w' : World} {base g : Nat} {mark t : Int} {es : List (Int × ByteArray)} {f : List Nat} (h : IxF w base f g mark t es) (hg : w.grownBy w' none) : IxF w' base f g mark t es := by
  obtain ⟨v, mb, tr, h⟩ := h
  exact ⟨v, mb, tr, h.keep fun b hb => hg.block b (h.lt b hb).2 (by simp)⟩
theorem IxF.wro {w w' : World} {base g : Nat} {mark t : Int} {es : List (Int × ByteArray)} {f F : List Nat} (h : IxF w base f g mark t es) (hg : Wro w w' F) (hF : ∀ x ∈ F, x ∉ f) : IxF w' base f g mark t es := by
  obtain ⟨v, mb, tr, h⟩ := h
  exact ⟨v, mb, tr, h.keep fun b hb => hg.block b (h.lt b hb).2 (fun hm => hF b hm hb)⟩
theorem nodup_swap {p q : List Nat} {x x' : Option Nat} {n : Nat} (h : (p ++ (x.toList ++ q)).Nodup) (hl : ∀ y ∈ p ++ (x.toList ++ q), y < n) (hx : x' = x ∨ ∃ b, x' = some b ∧ n ≤ b) : (p ++ (x'.toList ++ q)).Nodup := by
  rcases hx with rfl | ⟨b, rfl, hb⟩
  · exact h
  · have h1 : (p ++ q).Nodup := by
      refine (List.Sublist.append (List.Sublist.refl p) ?_).nodup h
      exact List.sublist_append_right _ _
    have hp : b ∉ p := fun hm => by have := hl b (by simp [hm]); omega
    have hq : b ∉ q := fun hm => by have := hl b (by simp [hm]); omega
    rw [List.nodup_append] at h1 ⊢
    obtain ⟨a1, a2, a3⟩ := h1
    refine ⟨a1, by simp [hq, a2], fun y hy z hz => ?_⟩
    rcases List.mem_append.1 hz with hz | hz
    · have : z = b := by simpa using hz
      subst this
      rintro rfl
      exact hp hy
    · exact a3 y hy z hz
end Go.Proofs.Ytfdckhnhancbdaa
