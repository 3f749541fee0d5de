/-
  A region's head by facts, its tail as one likes (Gf's walk where the tail is not forced, but waits for all of the head).
-/
import Derived.Test.YtnilcnobngcbgaaGreatGf
namespace Go.Proofs.YtnilcnobngcbgaaGreat
open Go.RowKit

section
variable {P : Program} {ops : Array Oper} {md : Region.Mode} {a0 : Act} {w0 : World}

/-- Each operation from n on waits for each ahead of n. -/
def directB (md : Region.Mode) (ops : Array Oper) (n : Nat) : Bool := (List.range ops.size).all fun t => decide (t < n) || (List.range n).all fun i => Region.waitsFor md ops t i
theorem direct_waits {n : Nat} (h : directB md ops n = true) {listed : Array Bool} {i j : Nat} (hi : i < n) (hun : listed.getD i true = false) (hj : j ∈ Region.ready md ops listed) : j < n := by
  rcases Nat.lt_or_ge j n with h1 | h1
  · exact h1
  · obtain ⟨_, o, ho, hall⟩ := mem_ready.1 hj
    have hjs : j < ops.size := (Array.getElem?_eq_some_iff.1 ho).1
    have h2 := List.all_eq_true.1 h j (List.mem_range.2 hjs)
    rw [decide_eq_false (by omega), Bool.false_or] at h2
    have h3 := List.all_eq_true.1 h2 i (List.mem_range.2 hi)
    obtain ⟨oj, hoj, e, he, hb, hon⟩ := Region.waitsFor_spec h3
    rw [ho] at hoj
    injection hoj with hoj
    subst hoj
    have := hall e he hb
    rw [hon, getD_both hun] at this
    cases this
theorem wpAnyG_firstD {n i : Nat} {oi : Oper} {F : Fct} {L : Array Bool → (Nat → Fct) → Prop} (hi : ops[i]? = some oi) (hs : directB md ops n = true) (hin : i < n)
    (hdone : ∀ listed G, L listed G → ∀ j ∈ Region.ready md ops listed, n ≤ j) :
    ∀ (f : Nat) (listed : Array Bool) (G : Nat → Fct),
      (∀ j oj, ops[j]? = some oj → j ≠ i → listed.getD j true = false → (∀ e ∈ oj.after, Region.binds md e = true → e.on ≠ i) → oi.apart ops oj = true) →
      i ∈ Region.ready md ops listed → Does P ops a0 w0 G oi F →
      wpAnyG P md ops a0 w0 n L f (listed.setIfInBounds i true) (upd G oi.dst F) → wpAnyG P md ops a0 w0 n L (f + 1) listed G := by
  intro f
  induction f with
  | zero =>
    intro listed G _ hr hy H
    have hun := (mem_ready.1 hr).1
    refine ⟨fun h => (by rw [h] at hr; cases hr), fun j hj => ⟨direct_waits hs hin hun hj, ?_⟩⟩
    by_cases hji : j = i
    · subst hji; exact hy.gOp hi H
    · have := hdone _ _ H j (ready_mono hj hji)
      have := direct_waits hs hin hun hj
      omega
  | succ f ih =>
    intro listed G hfree hr hy H
    have hun := (mem_ready.1 hr).1
    refine ⟨fun h => (by rw [h] at hr; cases hr), fun j hj => ⟨direct_waits hs hin hun hj, ?_⟩⟩
    by_cases hji : j = i
    · subst hji; exact hy.gOp hi H
    · have h1 := (H.2 j (ready_mono hj hji)).2
      obtain ⟨hjun, oj, hoj, hall⟩ := mem_ready.1 hj
      have hnot : ∀ e ∈ oj.after, Region.binds md e = true → e.on ≠ i := fun e he hb heq => by
        have h1 := hall e he hb
        rw [heq, getD_both hun] at h1
        cases h1
      have h2 := gOp_put hoj (hfree j oj hoj hji hjun hnot) hy h1
      have hfree' : ∀ k ok, ops[k]? = some ok → k ≠ i → (listed.setIfInBounds j true).getD k true = false →
          (∀ e ∈ ok.after, Region.binds md e = true → e.on ≠ i) → oi.apart ops ok = true := fun k ok hk hki hun hno => by
        refine hfree k ok hk hki ?_ hno
        by_cases hjk : j = k
        · subst hjk; exact hjun
        · rw [getD_set_ne true hjk] at hun; exact hun
      refine gOp_mono (fun G' h3 => ih (listed.setIfInBounds j true) G' hfree' (ready_mono hr (Ne.symm hji)) h3.1 ?_) h2
      rw [Array.setIfInBounds_comm _ _ hji]
      exact h3.2
def lexD (md : Region.Mode) (ops : Array Oper) (ls : Array Bool) : Nat → Nat → Array Bool → Bool
  | 0, _, listed => decide (listed = ls)
  | f + 1, k, listed => (Region.ready md ops listed).contains k && Region.free md ops listed k && lexD md ops ls f (k + 1) (listed.setIfInBounds k true)
theorem wpAnyG_lexD {n : Nat} {ls : Array Bool} {Lq : (Nat → Fct) → Prop} (hs : directB md ops n = true) (hls : (Region.ready md ops ls).all (fun j => decide (n ≤ j)) = true) :
    ∀ (l : List Oper) (k : Nat) (listed : Array Bool) (G : Nat → Fct), (∀ j, j < l.length → l[j]? = ops[k + j]?) → k + l.length = n →
    lexD md ops ls l.length k listed = true → wpFacts P ops a0 w0 Lq l G →
    wpAnyG P md ops a0 w0 n (fun listed' G' => listed' = ls ∧ Lq G') l.length listed G
  | [], _, listed, G, _, _, hB, h => ⟨of_decide_eq_true hB, h⟩
  | o :: l, k, listed, G, hl, hk, hB, h => by
    have h0 : ops[k]? = some o := by simpa using (hl 0 (by simp)).symm
    simp only [List.length_cons, lexD, Bool.and_eq_true] at hB
    obtain ⟨⟨hr, hf⟩, hB'⟩ := hB
    have hkn : k < n := by simp only [List.length_cons] at hk; omega
    have hr' : k ∈ Region.ready md ops listed := by simpa using hr
    obtain ⟨F, hy, hK⟩ := h
    exact wpAnyG_firstD h0 hs hkn (fun listed' G' hL j hj => by rw [hL.1] at hj; exact of_decide_eq_true (List.all_eq_true.1 hls j hj)) l.length listed G (Region.free_spec h0 hf) hr' hy
      (wpAnyG_lexD hs hls l (k + 1) _ _ (fun j hj => by have := hl (j + 1) (by simp; omega); simpa [Nat.add_assoc, Nat.add_comm 1 j] using this) (by simp only [List.length_cons] at hk; omega) hB' hK)
/-- The head's conditions. -/
def headD (md : Region.Mode) (ops : Array Oper) (n : Nat) (ls : Array Bool) : Bool :=
  decide (n ≤ ops.size) && directB md ops n && (Region.ready md ops ls).all (fun j => decide (n ≤ j)) && lexD md ops ls n 0 (Array.replicate ops.size false)
/-- The first n operations by facts; ls has them listed. -/
theorem any_facts {Q : Exit → Act → World → Prop} {a : Act} {w : World} {l : List Oper} (n : Nat) (ls : Array Bool) (hB : headD .any l.toArray n ls = true)
    (h : ∀ (A : Act) (O : Array Oper) (W : World) (L : (Nat → Fct) → Prop), Hid (A = a) → Hid (O = l.toArray) → Hid (W = w) → Hid (∀ G, (∀ a' w', Ctx O A W G a' w' → wpAny P .any l.toArray Q (l.length - n) ls a' w') → L G) →
      wpFacts P O A W L (l.take n) (fun t v _ => v = A.eval (.tmp t))) : wpAny P .any l.toArray Q l.toArray.size (Array.replicate l.toArray.size false) a w := by
  simp only [headD, Bool.and_eq_true, decide_eq_true_eq] at hB
  obtain ⟨⟨⟨hn, hs⟩, hls⟩, hlex⟩ := hB
  have hn' : n ≤ l.length := by simpa using hn
  have htl : (l.take n).length = n := by simp; omega
  have H := wpAnyG_lexD (P := P) (md := .any) (a0 := a) (w0 := w) hs hls (l.take n) 0 _ _ (fun j hj => by
    have hj' : j < n := by rw [htl] at hj; exact hj
    simp [hj']) (by simpa using htl) (by rw [htl]; exact hlex) (h a l.toArray w _ (show Hid _ from rfl) (show Hid _ from rfl) (show Hid _ from rfl) (show Hid _ from fun _ h => h))
  have := wpAny_of_gHead (Q' := Q) (g := l.length - n) (fun listed G a' w' hc' hL => by
    rw [hL.1]
    exact hL.2 a' w' hc') _ _ _ _ _ (Ctx.start a w) H
  rw [htl, show n + (l.length - n) = l.toArray.size by simp; omega] at this
  exact this
/-- One operation whose guard is off. -/
theorem wpFacts_skip {L : (Nat → Fct) → Prop} {G : Nat → Fct} {o : Oper} {rest : List Oper} (g : Nat) (b : Bool) (t : Tmp) (hg : o.guard = some (g, b)) (ht : (ops[g]?).bind (·.dst) = some t) (hs : t < a0.tmps.size)
    (hG : ∀ v w, G t v w → v = .bool (!b)) (hr : wpFacts P ops a0 w0 L rest (upd G o.dst (fun v _ => v = undef))) : wpFacts P ops a0 w0 L (o :: rest) G :=
  ⟨_, ⟨fun _ _ _ h _ => h, fun a w hsz hw hl => .inr ⟨by
    have hm : t ∈ o.looksAt ops := by unfold Oper.looksAt; rw [hg]; simp only [ht]; simp
    have h1 := hG _ _ (hl t hm hs)
    have h2 : a.tmps[t]? = some (.bool (!b)) := by
      simp only [Act.eval, Array.getD_eq_getD_getElem?] at h1
      rw [← hsz] at hs
      rw [Array.getElem?_eq_getElem hs] at h1 ⊢
      simpa using h1
    cases b <;> simp [Region.wanted, hg, yielded, ht, h2], rfl⟩⟩, hr⟩
end
end Go.Proofs.YtnilcnobngcbgaaGreat
