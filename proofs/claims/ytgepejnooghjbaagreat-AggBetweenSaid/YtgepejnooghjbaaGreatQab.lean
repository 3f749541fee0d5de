/-
  slices.insertionSortCmpFunc of places, by a comparator that only reads.
-/
import Derived.Test.YtgepejnooghjbaaGreatQaa
import Derived.StillTail
import Derived.Laws.OwnMore

namespace Go.Proofs.YtgepejnooghjbaaGreat
open Go.RowKit

/-- What holds of a slot's value, in a world. -/
abbrev Fct := Value → World → Prop
/-- Growth does not take it back. -/
def Fct.Up (F : Fct) : Prop := ∀ v w w', F v w → w.grownBy w' none → F v w'
/-- The facts of all slots, one turned. -/
def upd (G : Nat → Fct) (d : Option Tmp) (F : Fct) : Nat → Fct := fun t => match d with
  | some d => bif Nat.beq t d then F else G t
  | none => G t
theorem upd_same (G : Nat → Fct) (d : Tmp) (F : Fct) : upd G (some d) F d = F := by simp [upd]
theorem upd_other (G : Nat → Fct) (d : Option Tmp) (F : Fct) (t : Nat) (h : d ≠ some t) : upd G d F t = G t := by
  cases d with
  | none => rfl
  | some d =>
    have : Nat.beq t d = false := by
      cases e : Nat.beq t d
      · rfl
      · exact absurd (by rw [Nat.eq_of_beq_eq_true e]) h
    simp [upd, this]
theorem upd_comm (G : Nat → Fct) (x y : Option Tmp) (F K : Fct) (h : ∀ d, x = some d → y ≠ some d) : upd (upd G x F) y K = upd (upd G y K) x F := by
  funext t
  by_cases hx : x = some t
  · subst hx
    rw [upd_other _ y K t (h t rfl), upd_same, upd_same]
  · rw [upd_other _ x F t hx]
    by_cases hy : y = some t
    · subst hy
      rw [upd_same, upd_same]
    · rw [upd_other _ y K t hy, upd_other _ y K t hy, upd_other _ x F t hx]

section
variable {P : Program} {ops : Array Oper} {md : Region.Mode} {a0 : Act} {w0 : World}

/-- What an operation does, run in w: its result is so, the world has grown. -/
def gUpon (P : Program) (w : World) (F : Fct) : Result Next → Prop
  | .ok (.value u) w' => w.grownBy w' none ∧ F u w'
  | .ok .skip w' => w.grownBy w' none ∧ F undef w'
  | .ok (.enter f args) w' => w.grownBy w' none ∧ Calls P f args w' (fun e w'' => ∃ v, e = .returned v ∧ w'.grownBy w'' none ∧ F v w'')
  | _ => False

/-- A frame and a world of which the facts hold. -/
structure Ctx (ops : Array Oper) (a0 : Act) (w0 : World) (G : Nat → Fct) (a : Act) (w : World) : Prop where
  grown : w0.grownBy w none
  defers : a.defers = a0.defers
  size : a.tmps.size = a0.tmps.size
  up : ∀ t, (G t).Up
  fact : ∀ t, t < a0.tmps.size → G t (a.eval (.tmp t)) w
  rest : ∀ t, (∀ (i : Nat) (o : Oper), ops[i]? = some o → o.dst ≠ some t) → a.tmps[t]? = a0.tmps[t]?

theorem Ctx.start (a : Act) (w : World) : Ctx ops a w (fun t v _ => v = a.eval (.tmp t)) a w :=
  ⟨gb_refl w none, rfl, rfl, fun _ _ _ _ h _ => h, fun _ _ => rfl, fun _ _ => rfl⟩

theorem eval_put_same {a : Act} {d : Tmp} {v : Value} (h : d < a.tmps.size) : (a.put (some d) v).eval (.tmp d) = v := by
  simp [Act.put, Act.eval, h]

theorem Ctx.put {G : Nat → Fct} {a : Act} {w w' : World} {i : Nat} {o : Oper} {F : Fct} {v : Value} (h : Ctx ops a0 w0 G a w) (ho : ops[i]? = some o) (hg : w.grownBy w' none) (hF : F.Up) (hv : F v w') :
    Ctx ops a0 w0 (upd G o.dst F) (a.put o.dst v) w' := by
  refine ⟨gb_trans h.grown hg (.inl rfl), ?_, ?_, ?_, ?_, ?_⟩
  · cases o.dst <;> exact h.defers
  · cases o.dst <;> simp [Act.put, h.size]
  · intro t
    by_cases e : o.dst = some t
    · rw [e, upd_same]; exact hF
    · rw [upd_other _ _ _ _ e]; exact h.up t
  · intro t ht
    by_cases e : o.dst = some t
    · rw [e, upd_same, eval_put_same (by rw [h.size]; exact ht)]
      exact hv
    · rw [upd_other _ _ _ _ e, Act.eval_put (fun d hd hx => e (by rw [hd]; injection hx with hx; rw [hx]))]
      exact h.up t _ _ _ (h.fact t ht) hg
  · intro t ht
    rw [← h.rest t ht]
    have := ht i o ho
    cases hd : o.dst with
    | none => rfl
    | some d =>
      have hne : d ≠ t := fun e => this (by rw [hd, e])
      simp [Act.put, Array.getElem?_setIfInBounds_ne hne]

/-- Operation o does F, whatever the frame and the world, if the facts hold of what it looks at. -/
def Does (P : Program) (ops : Array Oper) (a0 : Act) (w0 : World) (G : Nat → Fct) (o : Oper) (F : Fct) : Prop :=
  F.Up ∧ ∀ (a : Act) (w : World), a.tmps.size = a0.tmps.size → w0.grownBy w none → (∀ t ∈ o.looksAt ops, t < a0.tmps.size → G t (a.eval (.tmp t)) w) →
    (Region.wanted o (yielded ops a.tmps) = true ∧ gUpon P w F ((execOp a.eval o).run P w)) ∨ (Region.wanted o (yielded ops a.tmps) = false ∧ F undef w)

theorem Does.same {G G' : Nat → Fct} {o : Oper} {F : Fct} (h : Does P ops a0 w0 G o F) (he : ∀ t ∈ o.looksAt ops, G' t = G t) : Does P ops a0 w0 G' o F :=
  ⟨h.1, fun a w hs hg hl => h.2 a w hs hg fun t ht hlt => by have := hl t ht hlt; rwa [he t ht] at this⟩

def gOp (P : Program) (ops : Array Oper) (a0 : Act) (w0 : World) (i : Nat) (K : (Nat → Fct) → Prop) (G : Nat → Fct) : Prop :=
  match ops[i]? with
  | none => K G
  | some o => ∃ F, Does P ops a0 w0 G o F ∧ K (upd G o.dst F)

theorem gOp_mono {i : Nat} {K K' : (Nat → Fct) → Prop} {G : Nat → Fct} (h : ∀ G, K G → K' G) (hh : gOp P ops a0 w0 i K G) : gOp P ops a0 w0 i K' G := by
  unfold gOp at *
  split
  · exact h _ (by simpa [*] using hh)
  · rename_i o ho
    simp only [ho] at hh
    obtain ⟨F, h1, h2⟩ := hh
    exact ⟨F, h1, h _ h2⟩

theorem Does.gOp {i : Nat} {o : Oper} {F : Fct} {G : Nat → Fct} (hi : ops[i]? = some o) (h : Does P ops a0 w0 G o F) {K : (Nat → Fct) → Prop} (hK : K (upd G o.dst F)) : gOp P ops a0 w0 i K G := by
  unfold Go.Proofs.YtgepejnooghjbaaGreat.gOp
  simp only [hi]
  exact ⟨F, h, hK⟩

theorem gOp_put {j : Nat} {oi oj : Oper} {F : Fct} {G : Nat → Fct} (hj : ops[j]? = some oj) (hap : oi.apart ops oj = true) {K : (Nat → Fct) → Prop}
    (hy : Does P ops a0 w0 G oi F) (h : gOp P ops a0 w0 j K (upd G oi.dst F)) : gOp P ops a0 w0 j (fun G' => Does P ops a0 w0 G' oi F ∧ K (upd G' oi.dst F)) G := by
  obtain ⟨h1, h2, h3⟩ := Oper.apart_spec hap
  unfold Go.Proofs.YtgepejnooghjbaaGreat.gOp at *
  simp only [hj] at *
  obtain ⟨Fj, k1, k2⟩ := h
  refine ⟨Fj, k1.same fun t ht => (upd_other _ _ _ _ fun e => h1 t e ht).symm, hy.same fun t ht => upd_other _ _ _ _ fun e => h3 t e ht, ?_⟩
  rw [← upd_comm G oi.dst oj.dst F Fj h2]
  exact k2

theorem wpOp_of_gOp {i : Nat} {K : (Nat → Fct) → Prop} {K' : Act → World → Prop} {Q' : Exit → Act → World → Prop} {G : Nat → Fct} {a : Act} {w : World} (hc : Ctx ops a0 w0 G a w)
    (h : ∀ G' a' w', Ctx ops a0 w0 G' a' w' → K G' → K' a' w') (hh : gOp P ops a0 w0 i K G) : wpOp P ops Q' i K' a w := by
  unfold Go.Proofs.YtgepejnooghjbaaGreat.gOp at hh
  unfold wpOp
  split
  · rename_i ho; simp only [ho] at hh; exact h _ _ _ hc hh
  · rename_i o ho
    simp only [ho] at hh
    obtain ⟨F, ⟨hup, hdo⟩, hK⟩ := hh
    rcases hdo a w hc.size hc.grown (fun t _ ht => hc.fact t ht) with ⟨hw, hr⟩ | ⟨hw, hr⟩
    · simp only [hw, if_true]
      refine .inl ?_
      unfold Oper.wp
      generalize (execOp a.eval o).run P w = r at *
      cases r with
      | ok n w' =>
        cases n <;> simp only [gUpon] at hr <;> simp only [Oper.upon]
        case value u => exact h _ _ _ (hc.put ho hr.1 hup hr.2) hK
        case skip => exact h _ _ _ (hc.put ho hr.1 hup hr.2) hK
        case enter f args =>
          refine hr.2.mono fun e w'' he => ?_
          obtain ⟨v, rfl, hg, hv⟩ := he
          exact h _ _ _ (hc.put ho (gb_trans hr.1 hg (.inl rfl)) hup hv) hK
      | halt x w' => simp only [gUpon] at hr
    · simp only [hw, Bool.false_eq_true, if_false]
      exact h _ _ _ (hc.put ho (gb_refl w none) hup hr) hK

/-- Whatever order is picked of the first n. -/
def wpAnyG (P : Program) (md : Region.Mode) (ops : Array Oper) (a0 : Act) (w0 : World) (n : Nat) (L : Array Bool → (Nat → Fct) → Prop) : Nat → Array Bool → (Nat → Fct) → Prop
  | 0, listed, G => L listed G
  | f + 1, listed, G => Region.ready md ops listed ≠ [] ∧ ∀ i ∈ Region.ready md ops listed, i < n ∧ gOp P ops a0 w0 i (wpAnyG P md ops a0 w0 n L f (listed.setIfInBounds i true)) G

theorem wpAny_of_gHead {n g : Nat} {L : Array Bool → (Nat → Fct) → Prop} {Q' : Exit → Act → World → Prop} (hL : ∀ listed G a w, Ctx ops a0 w0 G a w → L listed G → wpAny P md ops Q' g listed a w) :
    ∀ (f : Nat) (listed : Array Bool) (G : Nat → Fct) (a : Act) (w : World), Ctx ops a0 w0 G a w → wpAnyG P md ops a0 w0 n L f listed G → wpAny P md ops Q' (f + g) listed a w
  | 0, listed, G, a, w, hc, h => by rw [Nat.zero_add]; exact hL _ _ _ _ hc h
  | f + 1, listed, G, a, w, hc, h => by
    rw [show f + 1 + g = (f + g) + 1 by omega]
    exact ⟨fun h0 => absurd h0 h.1, fun i hi => wpOp_of_gOp hc (fun G' a' w' hc' h' => wpAny_of_gHead hL f _ G' a' w' hc' h') (h.2 i hi).2⟩

theorem wpAnyG_first {n i : Nat} {oi : Oper} {F : Fct} {L : Array Bool → (Nat → Fct) → Prop} (hi : ops[i]? = some oi)
    (hs : Region.sinkB md ops n = true) (hc : Region.chainB md ops n = true) (hn : n < ops.size) (hin : i < n)
    (hdone : ∀ listed G, L listed G → ∀ j ∈ Region.ready md ops listed, n ≤ j) :
    ∀ (f : Nat) (listed : Array Bool) (G : Nat → Fct), HeadInv md ops n listed →
      (∀ j oj, ops[j]? = some oj → j ≠ i → listed.getD j true = false → (∀ e ∈ oj.after, Region.binds md e = true → e.on ≠ i) → oi.apart ops oj = true) →
      i ∈ Region.ready md ops listed → Does P ops a0 w0 G oi F →
      wpAnyG P md ops a0 w0 n L f (listed.setIfInBounds i true) (upd G oi.dst F) → wpAnyG P md ops a0 w0 n L (f + 1) listed G := by
  intro f
  induction f with
  | zero =>
    intro listed G inv _ hr hy H
    have hun := (mem_ready.1 hr).1
    refine ⟨fun h => (by rw [h] at hr; cases hr), fun j hj => ?_⟩
    have hjn : j < n := by
      rcases Nat.lt_or_ge j n with h | h
      · exact h
      · exact absurd hj (tail_waits hs hc hn inv _ i rfl hin hun j h)
    refine ⟨hjn, ?_⟩
    by_cases hji : j = i
    · subst hji; exact hy.gOp hi H
    · have := hdone _ _ H j (ready_mono hj hji)
      omega
  | succ f ih =>
    intro listed G inv hfree hr hy H
    have hun := (mem_ready.1 hr).1
    refine ⟨fun h => (by rw [h] at hr; cases hr), fun j hj => ?_⟩
    have hjn : j < n := by
      rcases Nat.lt_or_ge j n with h | h
      · exact h
      · exact absurd hj (tail_waits hs hc hn inv _ i rfl hin hun j h)
    refine ⟨hjn, ?_⟩
    by_cases hji : j = i
    · subst hji; exact hy.gOp hi H
    · have h1 := (H.2 j (ready_mono hj hji)).2
      obtain ⟨hjun, oj, hoj, hall⟩ := mem_ready.1 hj
      have hnot : ∀ e ∈ oj.after, Region.binds md e = true → e.on ≠ i := fun e he hb heq => by
        have h1 := hall e he hb
        rw [heq, getD_both hun] at h1
        cases h1
      have h2 := gOp_put hoj (hfree j oj hoj hji hjun hnot) hy h1
      have hfree' : ∀ k ok, ops[k]? = some ok → k ≠ i → (listed.setIfInBounds j true).getD k true = false →
          (∀ e ∈ ok.after, Region.binds md e = true → e.on ≠ i) → oi.apart ops ok = true := fun k ok hk hki hun hno => by
        refine hfree k ok hk hki ?_ hno
        by_cases hjk : j = k
        · subst hjk; exact hjun
        · rw [getD_set_ne true hjk] at hun; exact hun
      refine gOp_mono (fun G' h3 => ih (listed.setIfInBounds j true) G' (inv.set hj hjn) hfree' (ready_mono hr (Ne.symm hji)) h3.1 ?_) h2
      rw [Array.setIfInBounds_comm _ _ hji]
      exact h3.2

/-- The walk in the order of the text: of each operation what it does. -/
def wpFacts (P : Program) (ops : Array Oper) (a0 : Act) (w0 : World) (L : (Nat → Fct) → Prop) : List Oper → (Nat → Fct) → Prop
  | [], G => L G
  | o :: rest, G => ∃ F, Does P ops a0 w0 G o F ∧ wpFacts P ops a0 w0 L rest (upd G o.dst F)

theorem wpAnyG_lex {n g : Nat} {Lq : (Nat → Fct) → Prop} (hsel : Region.noSelect ops = true) (hs : Region.sinkB md ops n = true) (hc : Region.chainB md ops n = true) (hn : n < ops.size) :
    ∀ (l : List Oper) (k : Nat) (listed : Array Bool) (G : Nat → Fct), (∀ j, j < l.length → l[j]? = ops[k + j]?) → k + l.length = n → HeadInv md ops n listed →
    Region.lexHead md ops g l.length k listed = true → wpFacts P ops a0 w0 Lq l G →
    wpAnyG P md ops a0 w0 n (fun listed' G' => Region.seqB md ops g n listed' = true ∧ Lq G') l.length listed G
  | [], k, listed, G, _, hk, _, hB, h => by
    have : k = n := by simpa using hk
    subst this
    exact ⟨by simpa [Region.lexHead] using hB, h⟩
  | o :: l, k, listed, G, hl, hk, inv, hB, h => by
    have h0 : ops[k]? = some o := by simpa using (hl 0 (by simp)).symm
    simp only [List.length_cons, Region.lexHead, Bool.and_eq_true] at hB
    obtain ⟨⟨hr, hf⟩, hB'⟩ := hB
    have hkn : k < n := by simp only [List.length_cons] at hk; omega
    have hr' : k ∈ Region.ready md ops listed := by simpa using hr
    obtain ⟨F, hy, hK⟩ := h
    exact wpAnyG_first h0 hs hc hn hkn (fun listed' G' hL => seqB_ready hL.1) l.length listed G inv (Region.free_spec h0 hf) hr' hy
      (wpAnyG_lex hsel hs hc hn l (k + 1) _ _ (fun j hj => by have := hl (j + 1) (by simp; omega); simpa [Nat.add_assoc, Nat.add_comm 1 j] using this) (by simp only [List.length_cons] at hk; omega) (inv.set hr' hkn) hB' hK)

/-- A region, its first n operations by facts, the others as they stand. -/
theorem wp_region_facts {id : Nat} {Q : Exit → Act → World → Prop} {a : Act} {w : World} {l : List Oper} (n : Nat) (hm : P.follows .mixedOrders = true) (hB : Region.lexTailB .any l.toArray n = true)
    (h : wpFacts P l.toArray a w.drew (fun G => ∀ a' w', Ctx l.toArray a w.drew G a' w' → wpList P l.toArray Q (l.drop n) a' w') (l.take n) (fun t v _ => v = a.eval (.tmp t))) : (Code.region id l.toArray true).wp P Q a w := by
  simp only [Region.lexTailB, Bool.and_eq_true, decide_eq_true_eq] at hB
  obtain ⟨⟨⟨⟨hsel, hn⟩, hs⟩, hc⟩, hlex⟩ := hB
  have hn' : n < l.length := by simpa using hn
  have htl : (l.take n).length = n := by simp; omega
  have hdl : (l.drop n).length = l.toArray.size - n := by simp
  have inv0 : HeadInv .any l.toArray n (Array.replicate l.toArray.size false) :=
    ⟨by simp, fun j oj _ hl => (by rw [getD_replicate_false] at hl; cases hl), fun t _ ht => getD_in (by simpa using ht) (getD_replicate_false _ _)⟩
  have H := wpAnyG_lex (md := .any) (g := l.toArray.size - n) hsel hs hc hn (l.take n) 0 _ _ (fun j hj => by
    have hj' : j < n := by rw [htl] at hj; exact hj
    simp [hj']) (by simpa using htl) inv0 (by rw [htl]; exact hlex) h
  refine wp_region_any hm ?_
  have := wpAny_of_gHead (Q' := Q) (g := l.toArray.size - n) (fun listed G a' w' hc' hL => by
    have := wpAny_of_seq (md := .any) (Q' := Q) (l.drop n) n listed a' w' (fun j => by simp [List.getElem?_drop]) (by rw [hdl]; exact hL.1) (hL.2 a' w' hc')
    rwa [hdl] at this) _ _ _ _ _ (Ctx.start a w.drew) H
  rw [htl, show n + (l.toArray.size - n) = l.toArray.size by omega] at this
  exact this

/-- The frame behind it: the old one, the results put. -/
theorem Ctx.frame {G : Nat → Fct} {a : Act} {w : World} (h : Ctx ops a0 w0 G a w) (ds : List Tmp) (hB : ops.toList.all (fun o => match o.dst with | some d => ds.contains d | none => true) = true) :
    a = ds.foldl (fun b d => b.put (some d) (a.eval (.tmp d))) a0 := by
  have hd : ∀ (i : Nat) (o : Oper) (d : Tmp), ops[i]? = some o → o.dst = some d → d ∈ ds := fun i o d ho hd => by
    have hm : o ∈ ops.toList := Array.mem_toList_iff.2 (Array.mem_of_getElem? ho)
    have h1 := List.all_eq_true.1 hB o hm
    rw [hd] at h1
    simpa using h1
  have key : ∀ (ds : List Tmp) (b : Act), b.defers = a.defers → b.tmps.size = a.tmps.size → (∀ t, t ∉ ds → b.tmps[t]? = a.tmps[t]?) → a = ds.foldl (fun b d => b.put (some d) (a.eval (.tmp d))) b := by
    intro ds
    induction ds with
    | nil =>
      intro b h1 h2 h3
      have : b.tmps = a.tmps := Array.ext_getElem? fun t => h3 t (by simp)
      cases a; cases b
      simp_all
    | cons d ds ih =>
      intro b h1 h2 h3
      refine ih _ h1 (by simp [Act.put, h2]) fun t ht => ?_
      by_cases e : d = t
      · subst e
        by_cases hs : d < a.tmps.size
        · simp [Act.put, Act.eval, h2, hs]
        · simp [Act.put, h2, hs]
      · simp only [Act.put]
        rw [Array.getElem?_setIfInBounds_ne e]
        exact h3 t (by simp [ht]; exact fun e' => e e'.symm)
  exact key ds a0 h.defers.symm h.size.symm fun t ht => (h.rest t fun i o ho hd' => ht (hd i o t ho hd')).symm

/-- The same, its great parts behind letters. -/
theorem wp_region_facts' {id : Nat} {Q : Exit → Act → World → Prop} {a : Act} {w : World} {l : List Oper} (n : Nat) (hm : P.follows .mixedOrders = true) (hB : Region.lexTailB .any l.toArray n = true)
    (h : ∀ (A : Act) (O : Array Oper) (W : World) (L : (Nat → Fct) → Prop), Hid (A = a) → Hid (O = l.toArray) → Hid (W = w.drew) → Hid (∀ G, (∀ a' w', Ctx O A W G a' w' → wpList P l.toArray Q (l.drop n) a' w') → L G) →
      wpFacts P O A W L (l.take n) (fun t v _ => v = A.eval (.tmp t))) : (Code.region id l.toArray true).wp P Q a w :=
  wp_region_facts n hm hB (h a l.toArray w.drew _ (hide rfl) (hide rfl) (hide rfl) (hide fun _ h => h))

/-- One operation that has no guard. -/
theorem wpFacts_step {L : (Nat → Fct) → Prop} {G : Nat → Fct} {o : Oper} {rest : List Oper} (F : Fct) (hg : o.guard = none) (hup : F.Up)
    (h : ∀ (a : Act) (w : World), w0.grownBy w none → (∀ t ∈ o.op.operands.toList.filterMap (fun | .tmp t => some t | _ => none), t < a0.tmps.size → G t (a.tmps[t]?.getD undef) w) → gUpon P w F ((execOp a.eval o).run P w))
    (hr : wpFacts P ops a0 w0 L rest (upd G o.dst F)) : wpFacts P ops a0 w0 L (o :: rest) G :=
  ⟨F, ⟨hup, fun a w _ hw hl => .inl ⟨by simp [Region.wanted, hg], h a w hw fun t ht hs => by
    have h1 := hl t (by unfold Oper.looksAt; exact List.mem_append_left _ ht) hs
    simpa only [Act.eval, Array.getD_eq_getD_getElem?] using h1⟩⟩, hr⟩
/-- One operation without a guard whose result is known. -/
theorem wpFacts_lit {L : (Nat → Fct) → Prop} {G : Nat → Fct} {o : Oper} {rest : List Oper} (u : Value) (hg : o.guard = none)
    (h : ∀ (a : Act) (w : World), w0.grownBy w none → (∀ t ∈ o.op.operands.toList.filterMap (fun | .tmp t => some t | _ => none), t < a0.tmps.size → G t (a.tmps[t]?.getD undef) w) → (execOp a.eval o).run P w = .ok (.value u) w)
    (hr : wpFacts P ops a0 w0 L rest (upd G o.dst (fun v _ => v = u))) : wpFacts P ops a0 w0 L (o :: rest) G :=
  wpFacts_step _ hg (fun _ _ _ h _ => h) (fun a w hw hl => by rw [h a w hw hl]; exact ⟨gb_refl w none, rfl⟩) hr
end

section
variable {P : Program} {ops : Array Oper} {a0 : Act} {w0 : World}
/-- One operation whose guard lets it be carried out. -/
theorem wpFacts_stepG {L : (Nat → Fct) → Prop} {G : Nat → Fct} {o : Oper} {rest : List Oper} (F : Fct) (g : Nat) (b : Bool) (t : Tmp) (hg : o.guard = some (g, b)) (ht : (ops[g]?).bind (·.dst) = some t) (hs : t < a0.tmps.size)
    (hG : ∀ v w, G t v w → v = .bool b) (hup : F.Up)
    (h : ∀ (a : Act) (w : World), w0.grownBy w none → (∀ t ∈ o.op.operands.toList.filterMap (fun | .tmp t => some t | _ => none), t < a0.tmps.size → G t (a.tmps[t]?.getD undef) w) → gUpon P w F ((execOp a.eval o).run P w))
    (hr : wpFacts P ops a0 w0 L rest (upd G o.dst F)) : wpFacts P ops a0 w0 L (o :: rest) G :=
  ⟨F, ⟨hup, fun a w hsz hw hl => .inl ⟨by
    have hm : t ∈ o.looksAt ops := by unfold Oper.looksAt; rw [hg]; simp only [ht]; simp
    have h1 := hG _ _ (hl t hm hs)
    have h2 : a.tmps[t]? = some (.bool b) := by
      simp only [Act.eval, Array.getD_eq_getD_getElem?] at h1
      rw [← hsz] at hs
      rw [Array.getElem?_eq_getElem hs] at h1 ⊢
      simpa using h1
    simp [Region.wanted, hg, yielded, ht, h2], h a w hw fun t ht hs => by
    have h1 := hl t (by unfold Oper.looksAt; exact List.mem_append_left _ ht) hs
    simpa only [Act.eval, Array.getD_eq_getD_getElem?] using h1⟩⟩, hr⟩
/-- .. and whose result is known. -/
theorem wpFacts_litG {L : (Nat → Fct) → Prop} {G : Nat → Fct} {o : Oper} {rest : List Oper} (u : Value) (g : Nat) (b : Bool) (t : Tmp) (hg : o.guard = some (g, b)) (ht : (ops[g]?).bind (·.dst) = some t) (hs : t < a0.tmps.size)
    (hG : ∀ v w, G t v w → v = .bool b)
    (h : ∀ (a : Act) (w : World), w0.grownBy w none → (∀ t ∈ o.op.operands.toList.filterMap (fun | .tmp t => some t | _ => none), t < a0.tmps.size → G t (a.tmps[t]?.getD undef) w) → (execOp a.eval o).run P w = .ok (.value u) w)
    (hr : wpFacts P ops a0 w0 L rest (upd G o.dst (fun v _ => v = u))) : wpFacts P ops a0 w0 L (o :: rest) G :=
  wpFacts_stepG _ g b t hg ht hs hG (fun _ _ _ h _ => h) (fun a w hw hl => by rw [h a w hw hl]; exact ⟨gb_refl w none, rfl⟩) hr
/-- A callee that hands back what is known. -/
theorem gUpon_lit {w : World} {f : FuncId} {args : Array Value} {u : Value} (h : Calls P f args w fun e w' => e = .returned u ∧ w.grownBy w' none) : gUpon P w (fun v _ => v = u) (.ok (.enter f args) w) :=
  ⟨gb_refl w none, h.mono fun _ _ h => ⟨u, h.1, h.2, rfl⟩⟩
theorem gUpon_same {w : World} {f : FuncId} {args : Array Value} {u : Value} (h : Calls P f args w fun e w' => e = .returned u ∧ w = w') : gUpon P w (fun v _ => v = u) (.ok (.enter f args) w) :=
  ⟨gb_refl w none, h.mono fun _ _ h => ⟨u, h.1, h.2 ▸ gb_refl w none, rfl⟩⟩
theorem Lit.up (u : Value) : Fct.Up (fun v _ => v = u) := fun _ _ _ h _ => h
end

/-! ## facts that come often -/
/-- A new row of its own: these cells. -/
def RowF (base k : Nat) (cs : Array Value) (ty : TypeId) : Fct := fun v w => ∃ b, v = .slice (some ⟨b, 0, none⟩) k k ∧ w.heap[b]? = some (.cells cs ty (0, 0)) ∧ base ≤ b
theorem RowF.up (base k : Nat) (cs : Array Value) (ty : TypeId) : (RowF base k cs ty).Up := by
  rintro v w w' ⟨b, h1, h2, h3⟩ hg
  exact ⟨b, h1, (hg.block b (blk_lt h2) (by simp)).trans h2, h3⟩
theorem RowF.new {P : Program} {w : World} {base k : Nat} (cs : Array Value) (ty : TypeId) (hb : base ≤ w.heap.size) : gUpon P w (RowF base k cs ty) (.ok (.value (.slice (some ⟨w.heap.size, 0, none⟩) k k)) (w.alloc (.cells cs ty))) :=
  ⟨gb_alloc (gb_refl w none) _, _, rfl, heap_alloc_new w _, hb⟩
/-- A new box: these cells. -/
def BoxF (base : Nat) (cs : Array Value) (ty : TypeId) : Fct := fun v w => ∃ b, v = .pointer (some ⟨b, 0, none⟩) ∧ w.heap[b]? = some (.cells cs ty (0, 0)) ∧ base ≤ b
theorem BoxF.up (base : Nat) (cs : Array Value) (ty : TypeId) : (BoxF base cs ty).Up := by
  rintro v w w' ⟨b, h1, h2, h3⟩ hg
  exact ⟨b, h1, (hg.block b (blk_lt h2) (by simp)).trans h2, h3⟩
theorem BoxF.new {P : Program} {w : World} {base : Nat} (cs : Array Value) (ty : TypeId) (hb : base ≤ w.heap.size) : gUpon P w (BoxF base cs ty) (.ok (.value (.pointer (some ⟨w.heap.size, 0, none⟩))) (w.alloc (.cells cs ty))) :=
  ⟨gb_alloc (gb_refl w none) _, _, rfl, heap_alloc_new w _, hb⟩
theorem VB.up {w : World} {B B' : Nat} {v : Vl} {nA : Option Addr} {nc : Nat} {sA : Option Addr} {sc : Nat} {lA : Option Addr} {lc : Nat} (h : VB w B v nA nc sA sc lA lc) (hB : B ≤ B') : VB w B' v nA nc sA sc lA lc :=
  ⟨h.n.more hB, h.s.more hB, h.l.up hB, h.hn, h.hs, h.hl⟩
/-- A value. -/
def ValF (v : Vl) : Fct := fun x w => ∃ nA nc sA sc lA lc, x = .agg #[.int .i64 v.t, .slice nA v.n.length nc, .slice sA v.s.length sc, .slice lA v.l.length lc] ∧ VB w w.heap.size v nA nc sA sc lA lc
theorem ValF.up (v : Vl) : (ValF v).Up := by
  rintro x w w' ⟨nA, nc, sA, sc, lA, lc, h1, h2⟩ hg
  exact ⟨nA, nc, sA, sc, lA, lc, h1, (h2.gb hg (Nat.le_refl _)).up hg.size⟩
/-- A slice of values. -/
def RdVF (l : List Vl) : Fct := fun x w => ∃ A c, x = .slice A l.length c ∧ l.length ≤ c ∧ RdV w w.heap.size A l
theorem RdVF.up (l : List Vl) : (RdVF l).Up := by
  rintro x w w' ⟨A, c, h1, h2, h3⟩ hg
  exact ⟨A, c, h1, h2, (h3.gb hg (Nat.le_refl _)).up hg.size⟩
end Go.Proofs.YtgepejnooghjbaaGreat

namespace Go.Proofs.YtgepejnooghjbaaGreat
open Go.RowKit

/-- A relation of worlds that facts outlive. -/
structure Gr where
  R : World → World → Prop
  refl : ∀ w, R w w
  trans : ∀ {a b c}, R a b → R b c → R a c
  grown : ∀ {a b : World}, a.grownBy b none → R a b
/-- It does not take a fact back. -/
def KUp (ρ : Gr) (F : Fct) : Prop := ∀ v w w', F v w → ρ.R w w' → F v w'
theorem KUp.up {ρ : Gr} {F : Fct} (h : KUp ρ F) : F.Up := fun v w w' hv hg => h v w w' hv (ρ.grown hg)
theorem KLit.up {ρ : Gr} (u : Value) : KUp ρ (fun v _ => v = u) := fun _ _ _ h _ => h
/-- The slot whose fact an operation turns. -/
def Oper.eff (p : Tmp) (o : Oper) : Tmp := o.dst.getD p
/-- Operations that may change places turn facts that the other one does not ask for. -/
def effB (p : Tmp) (ops : Array Oper) : Bool := (List.range ops.size).all fun i => (List.range ops.size).all fun j =>
  match ops[i]?, ops[j]? with
  | some x, some y => (i == j) || !(x.apart ops y) || (!(y.looksAt ops).contains (Oper.eff p x) && !(Oper.eff p x == Oper.eff p y) && !(x.looksAt ops).contains (Oper.eff p y))
  | _, _ => true
structure Ap (p : Tmp) (ops : Array Oper) (x y : Oper) : Prop where
  l : ∀ t ∈ y.looksAt ops, t ≠ Oper.eff p x
  d : Oper.eff p x ≠ Oper.eff p y
  r : ∀ t ∈ x.looksAt ops, t ≠ Oper.eff p y
theorem effB_spec {p : Tmp} {ops : Array Oper} (h : effB p ops = true) {i j : Nat} {x y : Oper} (hi : ops[i]? = some x) (hj : ops[j]? = some y) (hne : i ≠ j) (ha : x.apart ops y = true) : Ap p ops x y := by
  have li : i < ops.size := (Array.getElem?_eq_some_iff.1 hi).1
  have lj : j < ops.size := (Array.getElem?_eq_some_iff.1 hj).1
  have h1 := List.all_eq_true.1 (List.all_eq_true.1 h i (List.mem_range.2 li)) j (List.mem_range.2 lj)
  simp only [hi, hj, ha, Bool.not_true, Bool.or_false, Bool.or_eq_true, Bool.and_eq_true, Bool.not_eq_true', beq_eq_false_iff_ne, beq_iff_eq] at h1
  rcases h1 with h1 | ⟨⟨h1, h2⟩, h3⟩
  · exact absurd h1 hne
  · have no : ∀ {l : List Tmp} {t u : Tmp}, l.contains u = false → t ∈ l → t ≠ u := fun hf ht e => by
      rw [← e, List.contains_iff_mem.2 ht] at hf
      cases hf
    exact ⟨fun _ ht => no h1 ht, h2, fun _ ht => no h3 ht⟩
/-- The facts, that of slot d turned. -/
def updK (G : Nat → Fct) (d : Tmp) (F : Fct) : Nat → Fct := fun t => bif Nat.beq t d then F else G t
theorem updK_same (G : Nat → Fct) (d : Tmp) (F : Fct) : updK G d F d = F := by simp [updK]
theorem updK_other (G : Nat → Fct) (d : Tmp) (F : Fct) (t : Nat) (h : t ≠ d) : updK G d F t = G t := by
  have : Nat.beq t d = false := by
    cases e : Nat.beq t d
    · rfl
    · exact absurd (Nat.eq_of_beq_eq_true e) h
  simp [updK, this]
theorem updK_comm (G : Nat → Fct) (x y : Tmp) (F K : Fct) (h : x ≠ y) : updK (updK G x F) y K = updK (updK G y K) x F := by
  funext t
  by_cases hx : t = x
  · subst hx
    rw [updK_other _ y K t h, updK_same, updK_same]
  · rw [updK_other _ x F t hx]
    by_cases hy : t = y
    · subst hy
      rw [updK_same, updK_same]
    · rw [updK_other _ y K t hy, updK_other _ y K t hy, updK_other _ x F t hx]

section
variable {ρ : Gr} {P : Program} {p : Tmp} {ops : Array Oper} {md : Region.Mode} {a0 : Act} {w0 : World}

/-- What a store does. -/
def kStore (ρ : Gr) (w : World) (K : World → Prop) : Result Next → Prop
  | .ok (.value _) w' => ρ.R w w' ∧ K w'
  | .ok .skip w' => ρ.R w w' ∧ K w'
  | _ => False

/-- A frame and a world of which the facts hold. -/
structure CtxK (ρ : Gr) (p : Tmp) (ops : Array Oper) (a0 : Act) (w0 : World) (G : Nat → Fct) (a : Act) (w : World) : Prop where
  grown : ρ.R w0 w
  defers : a.defers = a0.defers
  size : a.tmps.size = a0.tmps.size
  up : ∀ t, t ≠ p → KUp ρ (G t)
  upp : (G p).Up
  fact : ∀ t, t < a0.tmps.size → G t (a.eval (.tmp t)) w
  rest : ∀ t, (∀ (i : Nat) (o : Oper), ops[i]? = some o → o.dst ≠ some t) → a.tmps[t]? = a0.tmps[t]?

theorem CtxK.start (a : Act) (w : World) : CtxK ρ p ops a w (fun t v _ => v = a.eval (.tmp t)) a w :=
  ⟨ρ.refl w, rfl, rfl, fun _ _ _ _ _ h _ => h, fun _ _ _ h _ => h, fun _ _ => rfl, fun _ _ => rfl⟩
theorem CtxK.anyUp {G : Nat → Fct} {a : Act} {w : World} (h : CtxK ρ p ops a0 w0 G a w) (t : Nat) : (G t).Up := by
  by_cases e : t = p
  · rw [e]; exact h.upp
  · exact (h.up t e).up

/-- How a fact must last. -/
def Lasts (ρ : Gr) (p d : Tmp) (F : Fct) : Prop := F.Up ∧ (d ≠ p → KUp ρ F)

theorem CtxK.put {G : Nat → Fct} {a : Act} {w w' : World} {i : Nat} {o : Oper} {F : Fct} {v : Value} {d : Tmp} (h : CtxK ρ p ops a0 w0 G a w) (ho : ops[i]? = some o) (hd : o.dst = some d) (hg : w.grownBy w' none) (hF : Lasts ρ p (Oper.eff p o) F) (hv : F v w') :
    CtxK ρ p ops a0 w0 (updK G (Oper.eff p o) F) (a.put o.dst v) w' := by
  have he : Oper.eff p o = d := by unfold Oper.eff; rw [hd]; rfl
  rw [he] at hF ⊢
  rw [hd]
  refine ⟨ρ.trans h.grown (ρ.grown hg), h.defers, by simp [Act.put, h.size], ?_, ?_, ?_, ?_⟩
  · intro t ht
    by_cases e : t = d
    · subst e; rw [updK_same]; exact hF.2 ht
    · rw [updK_other _ _ _ _ e]; exact h.up t ht
  · by_cases e : p = d
    · rw [← e, updK_same]; exact hF.1
    · rw [updK_other _ _ _ _ e]; exact h.upp
  · intro t ht
    by_cases e : t = d
    · subst e
      rw [updK_same, eval_put_same (by rw [h.size]; exact ht)]
      exact hv
    · rw [updK_other _ _ _ _ e, Act.eval_put (fun d' hd' hx => e (by injection hd' with hd'; injection hx with hx; rw [hx, hd']))]
      exact h.anyUp t _ _ _ (h.fact t ht) hg
  · intro t ht
    rw [← h.rest t ht]
    have hne : d ≠ t := fun e => ht i o ho (by rw [hd, e])
    simp [Act.put, Array.getElem?_setIfInBounds_ne hne]

theorem CtxK.store {G : Nat → Fct} {a : Act} {w w' : World} {o : Oper} {F : Fct} {v : Value} (h : CtxK ρ p ops a0 w0 G a w) (hd : o.dst = none) (hg : ρ.R w w') (hF : Lasts ρ p (Oper.eff p o) F) (hv : F (a.eval (.tmp p)) w') :
    CtxK ρ p ops a0 w0 (updK G (Oper.eff p o) F) (a.put o.dst v) w' := by
  have he : Oper.eff p o = p := by unfold Oper.eff; rw [hd]; rfl
  rw [he] at hF ⊢
  rw [hd]
  refine ⟨ρ.trans h.grown hg, h.defers, h.size, ?_, ?_, ?_, h.rest⟩
  · intro t ht
    rw [updK_other _ _ _ _ ht]; exact h.up t ht
  · rw [updK_same]; exact hF.1
  · intro t ht
    by_cases e : t = p
    · subst e; rw [updK_same]; exact hv
    · rw [updK_other _ _ _ _ e]; exact h.up t e _ _ _ (h.fact t ht) hg

/-- Operation o does F, whatever the frame and the world, if the facts hold of what it looks at. -/
def DoesK (ρ : Gr) (P : Program) (p : Tmp) (ops : Array Oper) (a0 : Act) (w0 : World) (G : Nat → Fct) (o : Oper) (F : Fct) : Prop :=
  Lasts ρ p (Oper.eff p o) F ∧ ∀ (a : Act) (w : World), a.tmps.size = a0.tmps.size → ρ.R w0 w → (∀ t ∈ o.looksAt ops, t < a0.tmps.size → G t (a.eval (.tmp t)) w) →
    (o.dst.isSome = true ∧ ((Region.wanted o (yielded ops a.tmps) = true ∧ gUpon P w F ((execOp a.eval o).run P w)) ∨ (Region.wanted o (yielded ops a.tmps) = false ∧ F undef w))) ∨
    (o.dst = none ∧ Region.wanted o (yielded ops a.tmps) = true ∧ kStore ρ w (F (a.eval (.tmp p))) ((execOp a.eval o).run P w))

theorem DoesK.same {G G' : Nat → Fct} {o : Oper} {F : Fct} (h : DoesK ρ P p ops a0 w0 G o F) (he : ∀ t ∈ o.looksAt ops, G' t = G t) : DoesK ρ P p ops a0 w0 G' o F :=
  ⟨h.1, fun a w hs hg hl => h.2 a w hs hg fun t ht hlt => by have := hl t ht hlt; rwa [he t ht] at this⟩

def kOp (ρ : Gr) (P : Program) (p : Tmp) (ops : Array Oper) (a0 : Act) (w0 : World) (i : Nat) (K : (Nat → Fct) → Prop) (G : Nat → Fct) : Prop :=
  match ops[i]? with
  | none => K G
  | some o => ∃ F, DoesK ρ P p ops a0 w0 G o F ∧ K (updK G (Oper.eff p o) F)

theorem kOp_mono {i : Nat} {K K' : (Nat → Fct) → Prop} {G : Nat → Fct} (h : ∀ G, K G → K' G) (hh : kOp ρ P p ops a0 w0 i K G) : kOp ρ P p ops a0 w0 i K' G := by
  unfold kOp at *
  split
  · exact h _ (by simpa [*] using hh)
  · rename_i o ho
    simp only [ho] at hh
    obtain ⟨F, h1, h2⟩ := hh
    exact ⟨F, h1, h _ h2⟩

theorem DoesK.kOp {i : Nat} {o : Oper} {F : Fct} {G : Nat → Fct} (hi : ops[i]? = some o) (h : DoesK ρ P p ops a0 w0 G o F) {K : (Nat → Fct) → Prop} (hK : K (updK G (Oper.eff p o) F)) : kOp ρ P p ops a0 w0 i K G := by
  unfold Go.Proofs.YtgepejnooghjbaaGreat.kOp
  simp only [hi]
  exact ⟨F, h, hK⟩

theorem kOp_put {j : Nat} {oi oj : Oper} {F : Fct} {G : Nat → Fct} (hj : ops[j]? = some oj) (hap : Ap p ops oi oj) {K : (Nat → Fct) → Prop}
    (hy : DoesK ρ P p ops a0 w0 G oi F) (h : kOp ρ P p ops a0 w0 j K (updK G (Oper.eff p oi) F)) : kOp ρ P p ops a0 w0 j (fun G' => DoesK ρ P p ops a0 w0 G' oi F ∧ K (updK G' (Oper.eff p oi) F)) G := by
  unfold Go.Proofs.YtgepejnooghjbaaGreat.kOp at *
  simp only [hj] at *
  obtain ⟨Fj, k1, k2⟩ := h
  refine ⟨Fj, k1.same fun t ht => (updK_other _ _ _ _ (hap.l t ht)).symm, hy.same fun t ht => updK_other _ _ _ _ (hap.r t ht), ?_⟩
  rw [← updK_comm G (Oper.eff p oi) (Oper.eff p oj) F Fj hap.d]
  exact k2

theorem wpOp_of_kOp {i : Nat} {K : (Nat → Fct) → Prop} {K' : Act → World → Prop} {Q' : Exit → Act → World → Prop} {G : Nat → Fct} {a : Act} {w : World} (hc : CtxK ρ p ops a0 w0 G a w)
    (h : ∀ G' a' w', CtxK ρ p ops a0 w0 G' a' w' → K G' → K' a' w') (hh : kOp ρ P p ops a0 w0 i K G) : wpOp P ops Q' i K' a w := by
  unfold Go.Proofs.YtgepejnooghjbaaGreat.kOp at hh
  unfold wpOp
  split
  · rename_i ho; simp only [ho] at hh; exact h _ _ _ hc hh
  · rename_i o ho
    simp only [ho] at hh
    obtain ⟨F, ⟨hup, hdo⟩, hK⟩ := hh
    rcases hdo a w hc.size hc.grown (fun t _ ht => hc.fact t ht) with ⟨hsome, hw⟩ | ⟨hnone, hw, hr⟩
    · obtain ⟨d, hd⟩ := Option.isSome_iff_exists.1 hsome
      rcases hw with ⟨hw, hr⟩ | ⟨hw, hr⟩
      · simp only [hw, if_true]
        refine .inl ?_
        unfold Oper.wp
        generalize (execOp a.eval o).run P w = r at *
        cases r with
        | ok n w' =>
          cases n <;> simp only [gUpon] at hr <;> simp only [Oper.upon]
          case value u => exact h _ _ _ (hc.put ho hd hr.1 hup hr.2) hK
          case skip => exact h _ _ _ (hc.put ho hd hr.1 hup hr.2) hK
          case enter f args =>
            refine hr.2.mono fun e w'' he => ?_
            obtain ⟨v, rfl, hg, hv⟩ := he
            exact h _ _ _ (hc.put ho hd (gb_trans hr.1 hg (.inl rfl)) hup hv) hK
        | halt x w' => simp only [gUpon] at hr
      · simp only [hw, Bool.false_eq_true, if_false]
        exact h _ _ _ (hc.put ho hd (gb_refl w none) hup hr) hK
    · simp only [hw, if_true]
      refine .inl ?_
      unfold Oper.wp
      generalize (execOp a.eval o).run P w = r at *
      cases r with
      | ok n w' =>
        cases n <;> simp only [kStore] at hr <;> simp only [Oper.upon]
        case value u => exact h _ _ _ (hc.store hnone hr.1 hup hr.2) hK
        case skip => exact h _ _ _ (hc.store hnone hr.1 hup hr.2) hK
      | halt x w' => simp only [kStore] at hr

/-- Whatever order is picked of the first n. -/
def wpAnyK (ρ : Gr) (P : Program) (p : Tmp) (md : Region.Mode) (ops : Array Oper) (a0 : Act) (w0 : World) (n : Nat) (L : Array Bool → (Nat → Fct) → Prop) : Nat → Array Bool → (Nat → Fct) → Prop
  | 0, listed, G => L listed G
  | f + 1, listed, G => Region.ready md ops listed ≠ [] ∧ ∀ i ∈ Region.ready md ops listed, i < n ∧ kOp ρ P p ops a0 w0 i (wpAnyK ρ P p md ops a0 w0 n L f (listed.setIfInBounds i true)) G

theorem wpAny_of_kHead {n g : Nat} {L : Array Bool → (Nat → Fct) → Prop} {Q' : Exit → Act → World → Prop} (hL : ∀ listed G a w, CtxK ρ p ops a0 w0 G a w → L listed G → wpAny P md ops Q' g listed a w) :
    ∀ (f : Nat) (listed : Array Bool) (G : Nat → Fct) (a : Act) (w : World), CtxK ρ p ops a0 w0 G a w → wpAnyK ρ P p md ops a0 w0 n L f listed G → wpAny P md ops Q' (f + g) listed a w
  | 0, listed, G, a, w, hc, h => by rw [Nat.zero_add]; exact hL _ _ _ _ hc h
  | f + 1, listed, G, a, w, hc, h => by
    rw [show f + 1 + g = (f + g) + 1 by omega]
    exact ⟨fun h0 => absurd h0 h.1, fun i hi => wpOp_of_kOp hc (fun G' a' w' hc' h' => wpAny_of_kHead hL f _ G' a' w' hc' h') (h.2 i hi).2⟩

theorem wpAnyK_first {n i : Nat} {oi : Oper} {F : Fct} {L : Array Bool → (Nat → Fct) → Prop} (hE : effB p ops = true) (hi : ops[i]? = some oi)
    (hs : Region.sinkB md ops n = true) (hc : Region.chainB md ops n = true) (hn : n < ops.size) (hin : i < n)
    (hdone : ∀ listed G, L listed G → ∀ j ∈ Region.ready md ops listed, n ≤ j) :
    ∀ (f : Nat) (listed : Array Bool) (G : Nat → Fct), HeadInv md ops n listed →
      (∀ j oj, ops[j]? = some oj → j ≠ i → listed.getD j true = false → (∀ e ∈ oj.after, Region.binds md e = true → e.on ≠ i) → oi.apart ops oj = true) →
      i ∈ Region.ready md ops listed → DoesK ρ P p ops a0 w0 G oi F →
      wpAnyK ρ P p md ops a0 w0 n L f (listed.setIfInBounds i true) (updK G (Oper.eff p oi) F) → wpAnyK ρ P p md ops a0 w0 n L (f + 1) listed G := by
  intro f
  induction f with
  | zero =>
    intro listed G inv _ hr hy H
    have hun := (mem_ready.1 hr).1
    refine ⟨fun h => (by rw [h] at hr; cases hr), fun j hj => ?_⟩
    have hjn : j < n := by
      rcases Nat.lt_or_ge j n with h | h
      · exact h
      · exact absurd hj (tail_waits hs hc hn inv _ i rfl hin hun j h)
    refine ⟨hjn, ?_⟩
    by_cases hji : j = i
    · subst hji; exact hy.kOp hi H
    · have := hdone _ _ H j (ready_mono hj hji)
      omega
  | succ f ih =>
    intro listed G inv hfree hr hy H
    have hun := (mem_ready.1 hr).1
    refine ⟨fun h => (by rw [h] at hr; cases hr), fun j hj => ?_⟩
    have hjn : j < n := by
      rcases Nat.lt_or_ge j n with h | h
      · exact h
      · exact absurd hj (tail_waits hs hc hn inv _ i rfl hin hun j h)
    refine ⟨hjn, ?_⟩
    by_cases hji : j = i
    · subst hji; exact hy.kOp hi H
    · have h1 := (H.2 j (ready_mono hj hji)).2
      obtain ⟨hjun, oj, hoj, hall⟩ := mem_ready.1 hj
      have hnot : ∀ e ∈ oj.after, Region.binds md e = true → e.on ≠ i := fun e he hb heq => by
        have h1 := hall e he hb
        rw [heq, getD_both hun] at h1
        cases h1
      have h2 := kOp_put hoj (effB_spec hE hi hoj (Ne.symm hji) (hfree j oj hoj hji hjun hnot)) hy h1
      have hfree' : ∀ k ok, ops[k]? = some ok → k ≠ i → (listed.setIfInBounds j true).getD k true = false →
          (∀ e ∈ ok.after, Region.binds md e = true → e.on ≠ i) → oi.apart ops ok = true := fun k ok hk hki hun hno => by
        refine hfree k ok hk hki ?_ hno
        by_cases hjk : j = k
        · subst hjk; exact hjun
        · rw [getD_set_ne true hjk] at hun; exact hun
      refine kOp_mono (fun G' h3 => ih (listed.setIfInBounds j true) G' (inv.set hj hjn) hfree' (ready_mono hr (Ne.symm hji)) h3.1 ?_) h2
      rw [Array.setIfInBounds_comm _ _ hji]
      exact h3.2

/-- The walk in the order of the text: of each operation what it does. -/
def kFacts (ρ : Gr) (P : Program) (p : Tmp) (ops : Array Oper) (a0 : Act) (w0 : World) (L : (Nat → Fct) → Prop) : List Oper → (Nat → Fct) → Prop
  | [], G => L G
  | o :: rest, G => ∃ F, DoesK ρ P p ops a0 w0 G o F ∧ kFacts ρ P p ops a0 w0 L rest (updK G (Oper.eff p o) F)

theorem wpAnyK_lex {n g : Nat} {Lq : (Nat → Fct) → Prop} (hE : effB p ops = true) (hsel : Region.noSelect ops = true) (hs : Region.sinkB md ops n = true) (hc : Region.chainB md ops n = true) (hn : n < ops.size) :
    ∀ (l : List Oper) (k : Nat) (listed : Array Bool) (G : Nat → Fct), (∀ j, j < l.length → l[j]? = ops[k + j]?) → k + l.length = n → HeadInv md ops n listed →
    Region.lexHead md ops g l.length k listed = true → kFacts ρ P p ops a0 w0 Lq l G →
    wpAnyK ρ P p md ops a0 w0 n (fun listed' G' => Region.seqB md ops g n listed' = true ∧ Lq G') l.length listed G
  | [], k, listed, G, _, hk, _, hB, h => by
    have : k = n := by simpa using hk
    subst this
    exact ⟨by simpa [Region.lexHead] using hB, h⟩
  | o :: l, k, listed, G, hl, hk, inv, hB, h => by
    have h0 : ops[k]? = some o := by simpa using (hl 0 (by simp)).symm
    simp only [List.length_cons, Region.lexHead, Bool.and_eq_true] at hB
    obtain ⟨⟨hr, hf⟩, hB'⟩ := hB
    have hkn : k < n := by simp only [List.length_cons] at hk; omega
    have hr' : k ∈ Region.ready md ops listed := by simpa using hr
    obtain ⟨F, hy, hK⟩ := h
    exact wpAnyK_first hE h0 hs hc hn hkn (fun listed' G' hL => seqB_ready hL.1) l.length listed G inv (Region.free_spec h0 hf) hr' hy
      (wpAnyK_lex hE hsel hs hc hn l (k + 1) _ _ (fun j hj => by have := hl (j + 1) (by simp; omega); simpa [Nat.add_assoc, Nat.add_comm 1 j] using this) (by simp only [List.length_cons] at hk; omega) (inv.set hr' hkn) hB' hK)

/-- A region, its first n operations by facts, the others as they stand. -/
theorem wp_region_kfacts {id : Nat} {Q : Exit → Act → World → Prop} {a : Act} {w : World} {l : List Oper} (ρ : Gr) (n : Nat) (p : Tmp) (hm : P.follows .mixedOrders = true) (hB : Region.lexTailB .any l.toArray n = true) (hE : effB p l.toArray = true)
    (h : ∀ (A : Act) (O : Array Oper) (W : World) (L : (Nat → Fct) → Prop), Hid (A = a) → Hid (O = l.toArray) → Hid (W = w.drew) → Hid (∀ G, (∀ a' w', CtxK ρ p O A W G a' w' → wpList P l.toArray Q (l.drop n) a' w') → L G) →
      kFacts ρ P p O A W L (l.take n) (fun t v _ => v = A.eval (.tmp t))) : (Code.region id l.toArray true).wp P Q a w := by
  have h := h a l.toArray w.drew _ (hide rfl) (hide rfl) (hide rfl) (hide fun _ h => h)
  simp only [Region.lexTailB, Bool.and_eq_true, decide_eq_true_eq] at hB
  obtain ⟨⟨⟨⟨hsel, hn⟩, hs⟩, hc⟩, hlex⟩ := hB
  have hn' : n < l.length := by simpa using hn
  have htl : (l.take n).length = n := by simp; omega
  have hdl : (l.drop n).length = l.toArray.size - n := by simp
  have inv0 : HeadInv .any l.toArray n (Array.replicate l.toArray.size false) :=
    ⟨by simp, fun j oj _ hl => (by rw [getD_replicate_false] at hl; cases hl), fun t _ ht => getD_in (by simpa using ht) (getD_replicate_false _ _)⟩
  have H := wpAnyK_lex (md := .any) (g := l.toArray.size - n) hE hsel hs hc hn (l.take n) 0 _ _ (fun j hj => by
    have hj' : j < n := by rw [htl] at hj; exact hj
    simp [hj']) (by simpa using htl) inv0 (by rw [htl]; exact hlex) h
  refine wp_region_any hm ?_
  have := wpAny_of_kHead (Q' := Q) (g := l.toArray.size - n) (fun listed G a' w' hc' hL => by
    have := wpAny_of_seq (md := .any) (Q' := Q) (l.drop n) n listed a' w' (fun j => by simp [List.getElem?_drop]) (by rw [hdl]; exact hL.1) (hL.2 a' w' hc')
    rwa [hdl] at this) _ _ _ _ _ (CtxK.start a w.drew) H
  rw [htl, show n + (l.toArray.size - n) = l.toArray.size by omega] at this
  exact this

/-- The frame behind it: the old one, the results put. -/
theorem CtxK.frame {G : Nat → Fct} {a : Act} {w : World} (h : CtxK ρ p ops a0 w0 G a w) (ds : List Tmp) (hB : ops.toList.all (fun o => match o.dst with | some d => ds.contains d | none => true) = true) :
    a = ds.foldl (fun b d => b.put (some d) (a.eval (.tmp d))) a0 :=
  Ctx.frame (G := fun _ _ _ => True) (w0 := w) (w := w) ⟨gb_refl w none, h.defers, h.size, fun _ _ _ _ _ _ => trivial, fun _ _ => trivial, h.rest⟩ ds hB

/-- One operation that has no guard. -/
theorem kFacts_step {L : (Nat → Fct) → Prop} {G : Nat → Fct} {o : Oper} {rest : List Oper} (F : Fct) (hg : o.guard = none) (hd : o.dst.isSome = true) (hup : Lasts ρ p (Oper.eff p o) F)
    (h : ∀ (a : Act) (w : World), ρ.R w0 w → (∀ t ∈ o.op.operands.toList.filterMap (fun | .tmp t => some t | _ => none), t < a0.tmps.size → G t (a.tmps[t]?.getD undef) w) → gUpon P w F ((execOp a.eval o).run P w))
    (hr : kFacts ρ P p ops a0 w0 L rest (updK G (Oper.eff p o) F)) : kFacts ρ P p ops a0 w0 L (o :: rest) G :=
  ⟨F, ⟨hup, fun a w _ hw hl => .inl ⟨hd, .inl ⟨by simp [Region.wanted, hg], h a w hw fun t ht hs => by
    have h1 := hl t (by unfold Oper.looksAt; exact List.mem_append_left _ ht) hs
    simpa only [Act.eval, Array.getD_eq_getD_getElem?] using h1⟩⟩⟩, hr⟩
/-- One operation without a guard whose result is known. -/
theorem kFacts_lit {L : (Nat → Fct) → Prop} {G : Nat → Fct} {o : Oper} {rest : List Oper} (u : Value) (hg : o.guard = none) (hd : o.dst.isSome = true)
    (h : ∀ (a : Act) (w : World), ρ.R w0 w → (∀ t ∈ o.op.operands.toList.filterMap (fun | .tmp t => some t | _ => none), t < a0.tmps.size → G t (a.tmps[t]?.getD undef) w) → (execOp a.eval o).run P w = .ok (.value u) w)
    (hr : kFacts ρ P p ops a0 w0 L rest (updK G (Oper.eff p o) (fun v _ => v = u))) : kFacts ρ P p ops a0 w0 L (o :: rest) G :=
  kFacts_step _ hg hd ⟨fun _ _ _ h _ => h, fun _ _ _ _ h _ => h⟩ (fun a w hw hl => by rw [h a w hw hl]; exact ⟨gb_refl w none, rfl⟩) hr
/-- The store. -/
theorem kFacts_store {L : (Nat → Fct) → Prop} {G : Nat → Fct} {o : Oper} {rest : List Oper} (F : Fct) (hg : o.guard = none) (hd : o.dst = none) (hup : F.Up)
    (h : ∀ (a : Act) (w : World), ρ.R w0 w → (∀ t ∈ o.op.operands.toList.filterMap (fun | .tmp t => some t | _ => none), t < a0.tmps.size → G t (a.tmps[t]?.getD undef) w) → kStore ρ w (F (a.tmps[p]?.getD undef)) ((execOp a.eval o).run P w))
    (hr : kFacts ρ P p ops a0 w0 L rest (updK G (Oper.eff p o) F)) : kFacts ρ P p ops a0 w0 L (o :: rest) G :=
  ⟨F, ⟨⟨hup, fun hne => absurd (by unfold Oper.eff; rw [hd]; rfl) hne⟩, fun a w _ hw hl => .inr ⟨hd, by simp [Region.wanted, hg], by
    have h1 := h a w hw fun t ht hs => by
      have h1 := hl t (by unfold Oper.looksAt; exact List.mem_append_left _ ht) hs
      simpa only [Act.eval, Array.getD_eq_getD_getElem?] using h1
    simpa only [Act.eval, Array.getD_eq_getD_getElem?] using h1⟩⟩, hr⟩
theorem Lasts.lit {d : Tmp} (u : Value) : Lasts ρ p d (fun v _ => v = u) := ⟨fun _ _ _ h _ => h, fun _ _ _ _ h _ => h⟩
end

/-- What keeps all blocks, but those from s on of which Z tells: of them it keeps that Z does. -/
structure Keeps (s : Nat) (Z : Obj → Prop) (a b : World) : Prop where
  os : b.os = a.os
  tape : b.tape = a.tape
  output : b.output = a.output
  size : a.heap.size ≤ b.heap.size
  block : ∀ i, i < a.heap.size → b.heap[i]? = a.heap[i]? ∨ (s ≤ i ∧ ∃ o o', a.heap[i]? = some o ∧ Z o ∧ b.heap[i]? = some o' ∧ Z o')
theorem Keeps.grown {s : Nat} {Z : Obj → Prop} {a b : World} (h : Keeps s Z a b) (hs : a.heap.size ≤ s) : a.grownBy b none :=
  ⟨h.os, h.tape, h.output, h.size, fun i hi _ => (h.block i hi).resolve_right fun h => by have := h.1; omega⟩
theorem Keeps.refl_ (s : Nat) (Z : Obj → Prop) (w : World) : Keeps s Z w w := ⟨rfl, rfl, rfl, Nat.le_refl _, fun _ _ => .inl rfl⟩
theorem Keeps.trans_ {s : Nat} {Z : Obj → Prop} {a b c : World} (h : Keeps s Z a b) (k : Keeps s Z b c) : Keeps s Z a c :=
  ⟨k.os.trans h.os, k.tape.trans h.tape, k.output.trans h.output, Nat.le_trans h.size k.size, fun i hi => by
    rcases h.block i hi with e | ⟨hs, o, o', h1, h2, h3, h4⟩
    · rcases k.block i (Nat.lt_of_lt_of_le hi h.size) with e2 | ⟨hs, o, o', k1, k2, k3, k4⟩
      · exact .inl (e2.trans e)
      · exact .inr ⟨hs, o, o', e ▸ k1, k2, k3, k4⟩
    · rcases k.block i (Nat.lt_of_lt_of_le hi h.size) with e2 | ⟨_, p, p', _, _, k3, k4⟩
      · exact .inr ⟨hs, o, o', h1, h2, e2.trans h3, h4⟩
      · exact .inr ⟨hs, o, p', h1, h2, k3, k4⟩⟩
theorem Keeps.of_grown {s : Nat} {Z : Obj → Prop} {a b : World} (h : a.grownBy b none) : Keeps s Z a b :=
  ⟨h.os, h.tape, h.output, h.size, fun i hi => .inl (h.block i hi (by simp))⟩
abbrev grK (s : Nat) (Z : Obj → Prop) : Gr where
  R := Keeps s Z
  refl := Keeps.refl_ s Z
  trans := Keeps.trans_
  grown := Keeps.of_grown
theorem Keeps.keep {s : Nat} {Z : Obj → Prop} {a b : World} (h : Keeps s Z a b) {i : Nat} {o : Obj} (ho : a.heap[i]? = some o) (hz : ¬ Z o) : b.heap[i]? = some o := by
  rcases h.block i (blk_lt ho) with e | ⟨_, o', _, h1, h2, _⟩
  · exact e.trans ho
  · rw [ho] at h1; cases h1; exact absurd h2 hz
theorem Keeps.kind {s : Nat} {Z : Obj → Prop} {a b : World} (h : Keeps s Z a b) {i : Nat} (ho : ∃ o, a.heap[i]? = some o ∧ Z o) : ∃ o, b.heap[i]? = some o ∧ Z o := by
  obtain ⟨o, ho, hz⟩ := ho
  rcases h.block i (blk_lt ho) with e | ⟨_, _, o', _, _, h3, h4⟩
  · exact ⟨o, e.trans ho, hz⟩
  · exact ⟨o', h3, h4⟩
theorem heap_setRow_at (w : World) (g : Nat) (c c' : Array Value) (t : TypeId) (l : Nat × Nat) (h : w.heap[g]? = some (.cells c t l)) : (w.setRow g c').heap[g]? = some (.cells c' t l) := by
  simp only [World.setRow]
  rw [Array.getElem?_modify, if_pos rfl, h]
  rfl
theorem Keeps.setRow {s : Nat} {Z : Obj → Prop} {a : World} {g : Nat} {c : Array Value} {t : TypeId} {l : Nat × Nat} (c' : Array Value) (ho : a.heap[g]? = some (.cells c t l)) (hs : s ≤ g) (hz : Z (.cells c t l)) (hz' : Z (.cells c' t l)) : Keeps s Z a (a.setRow g c') := by
  refine ⟨rfl, rfl, rfl, by simp [World.setRow], fun i _ => ?_⟩
  by_cases e : i = g
  · subst e; exact .inr ⟨hs, _, _, ho, hz, heap_setRow_at _ _ _ _ _ _ ho, hz'⟩
  · refine .inl ?_
    simp only [World.setRow]
    rw [Array.getElem?_modify]
    have h' : ¬ g = i := fun x => e x.symm
    simp [h']
end Go.Proofs.YtgepejnooghjbaaGreat

namespace Go.Proofs.YtgepejnooghjbaaGreat
open Go.RowKit
attribute [local go_sem ↓] Go.wp_at_zero Go.wp_at_succ

/-- One operation whose guard keeps it from being carried out. -/
theorem wpFacts_skipG {P : Program} {ops : Array Oper} {a0 : Act} {w0 : World} {L : (Nat → Fct) → Prop} {G : Nat → Fct} {o : Oper} {rest : List Oper} (g : Nat) (b : Bool) (t : Tmp) (hg : o.guard = some (g, b)) (ht : (ops[g]?).bind (·.dst) = some t) (hs : t < a0.tmps.size)
    (hG : ∀ v w, G t v w → v = .bool (!b))
    (hr : wpFacts P ops a0 w0 L rest (upd G o.dst (fun v _ => v = undef))) : wpFacts P ops a0 w0 L (o :: rest) G :=
  ⟨fun v _ => v = undef, ⟨fun _ _ _ h _ => h, fun a w hsz hw hl => .inr ⟨by
    have hm : t ∈ o.looksAt ops := by unfold Oper.looksAt; rw [hg]; simp only [ht]; simp
    have h1 := hG _ _ (hl t hm hs)
    have h2 : a.tmps[t]? = some (.bool (!b)) := by
      simp only [Act.eval, Array.getD_eq_getD_getElem?] at h1
      rw [← hsz] at hs
      rw [Array.getElem?_eq_getElem hs] at h1 ⊢
      simpa using h1
    cases b <;> simp [Region.wanted, hg, yielded, ht, h2], rfl⟩⟩, hr⟩
/-- Two neighbours, swapped. -/
def swp (d : List Int) (j : Nat) : List Int := (d.set (j + 1) (d.getD j 0)).set j (d.getD (j + 1) 0)
/-- What stands at j goes down to where it belongs. -/
def insIn (cf : Int → Int → Int) (a : Nat) : Nat → List Int → List Int
  | 0, d => d
  | j + 1, d => if a < j + 1 ∧ cf (d.getD (j + 1) 0) (d.getD j 0) < 0 then insIn cf a j (swp d j) else d
/-- The first k + 1 from a on are in order. -/
def insUp (cf : Int → Int → Int) (a : Nat) : Nat → List Int → List Int
  | 0, d => d
  | k + 1, d => insIn cf a (a + 1 + k) (insUp cf a k d)
theorem swp_len (d : List Int) (j : Nat) : (swp d j).length = d.length := by simp [swp]
theorem getD_mem {d : List Int} {j : Nat} (h : j < d.length) : d.getD j 0 ∈ d := by
  rw [List.getD_eq_getElem?_getD, List.getElem?_eq_getElem h]
  exact List.getElem_mem h
theorem swp_all {P : Int → Prop} {d : List Int} {j : Nat} (h : ∀ x ∈ d, P x) (hj : j + 1 < d.length) : ∀ x ∈ swp d j, P x := by
  intro x hx
  rcases List.mem_or_eq_of_mem_set hx with hx | rfl
  · rcases List.mem_or_eq_of_mem_set hx with hx | rfl
    · exact h x hx
    · exact h _ (getD_mem (by omega))
  · exact h _ (getD_mem hj)
theorem insIn_len (cf : Int → Int → Int) (a : Nat) : ∀ (j : Nat) (d : List Int), (insIn cf a j d).length = d.length := by
  intro j
  induction j with
  | zero => intro d; rfl
  | succ j ih =>
    intro d
    unfold insIn
    split
    · rw [ih, swp_len]
    · rfl
theorem insIn_all {P : Int → Prop} (cf : Int → Int → Int) (a : Nat) : ∀ (j : Nat) (d : List Int), j < d.length → (∀ x ∈ d, P x) → ∀ x ∈ insIn cf a j d, P x := by
  intro j
  induction j with
  | zero => intro d _ h; exact h
  | succ j ih =>
    intro d hj h
    unfold insIn
    split
    · exact ih _ (by rw [swp_len]; omega) (swp_all h hj)
    · exact h
theorem insUp_len (cf : Int → Int → Int) (a : Nat) (d : List Int) (k : Nat) : (insUp cf a k d).length = d.length := by
  induction k with
  | zero => rfl
  | succ k ih => unfold insUp; rw [insIn_len, ih]
theorem insUp_all {P : Int → Prop} (cf : Int → Int → Int) (a : Nat) (d : List Int) (k : Nat) (hk : a + k < d.length) (h : ∀ x ∈ d, P x) : ∀ x ∈ insUp cf a k d, P x := by
  induction k with
  | zero => exact h
  | succ k ih => unfold insUp; exact insIn_all cf a _ _ (by rw [insUp_len]; omega) (ih (by omega))
theorem i64s_set (d : List Int) (j : Nat) (x : Int) : i64s (d.set j x) = (i64s d).set j (.int .i64 x) := by simp [i64s, List.map_set]
theorem insIn_stop (cf : Int → Int → Int) (ia : Nat) (E : List Int) (m : Nat) (h : ¬ ia < m) : insIn cf ia m E = E := by
  cases m with
  | zero => rfl
  | succ m => unfold insIn; rw [if_neg (fun k => h k.1)]
set_option maxHeartbeats 4000000 in
set_option maxRecDepth 100000 in
theorem insSort_any (cf : Int → Int → Int) (P : Int → Prop) (d : List Int) (ia ib : Nat) (base g c q : Nat) (w : World) (hab : ia ≤ ib) (hbl : ib ≤ d.length) (hl : d.length ≤ 1000000) (hP : ∀ x ∈ d, P x)
    (ho : w.ownsRow base 2 1 (.slice (some ⟨g, 0, none⟩) d.length c) d.length (i64s d))
    (hc : ∀ x y, P x → P y → ∀ w2, w.grownBy w2 (some g) → Calls Tryz.prog 51 #[.int .i64 x, .int .i64 y, .pointer (some ⟨q, 0, none⟩)] w2 fun e w' => e = .returned (.int .i64 (cf x y)) ∧ w2.grownBy w' none) :
    Calls Tryz.prog 131 #[.slice (some ⟨g, 0, none⟩) d.length c, .int .i64 (ia : Int), .int .i64 (ib : Int), .func (.func 51) #[] #[.pointer (some ⟨q, 0, none⟩)]] w fun e w' => e = .returned (.tuple #[]) ∧ w'.ownsRow base 2 1 (.slice (some ⟨g, 0, none⟩) d.length c) d.length (i64s (insUp cf ia (ib - ia - 1) d)) ∧ w.grownBy w' (some g) := by
  have HL := hide hl
  have HBL := hide hbl
  have HAB := hide hab
  have HP := hide hP
  have HO := hide ho
  have HC := hide hc
  have ha1 : IntKind.i64.wrap ((ia : Int) + 1) = ((ia + 1 : Nat) : Int) := by rw [IntKind.wrap_i64]; omega
  clear hl hbl hab hP ho hc
  go_enter Tryz.func131, Tryz.ntmps131
  go_wp2_with fail
  go_loopw [8] (fun i wr => ∃ k : Nat, i = .int .i64 ((ia + 1 + k : Nat) : Int) ∧ (ia + 1 + k ≤ ib ∨ k = 0) ∧
    wr.ownsRow base 2 1 (.slice (some ⟨g, 0, none⟩) d.length c) d.length (i64s (insUp cf ia k d)) ∧ w.grownBy wr (some g)) (fun i _ => ib - (intOf i).toNat)
  case atStart => exact ⟨0, rfl, .inr rfl, HO.out, gb_refl w _⟩
  case round =>
    obtain ⟨k, rfl, hk, how, hgr⟩ := hrel
    by_cases hlt : ia + 1 + k < ib
    · have hlt1 : ((ia + 1 + k : Nat) : Int) < (ib : Int) := by omega
      have h6 : IntKind.i64.wrap (((ia + 1 + k : Nat) : Int) + 1) = ((ia + 1 + (k + 1) : Nat) : Int) := by rw [IntKind.wrap_i64]; have := HL.out; have := HBL.out; omega
      have HLT := hide hlt
      obtain ⟨D, hD⟩ : ∃ D, D = insUp cf ia k d := ⟨_, rfl⟩
      have hDl : D.length = d.length := by rw [hD, insUp_len]
      have hDP : ∀ x ∈ D, P x := by rw [hD]; exact insUp_all cf ia d k (by have := HBL.out; omega) HP.out
      have HDE := hide (show insUp cf ia (k + 1) d = insIn cf ia (ia + 1 + k) D by rw [hD]; rfl)
      rw [← hD] at how
      clear hD
      obtain ⟨i, hi⟩ : ∃ i, i = ia + 1 + k := ⟨_, rfl⟩
      have HI := hide hi
      rw [← hi] at hlt1 h6 ⊢
      have hil : i < D.length := by have := HBL.out; have := HLT.out; omega
      have HOW := hide how
      have HGR := hide hgr
      have HDL := hide hDl
      have HDP := hide hDP
      have HIL := hide hil
      clear how hgr hlt hk hDl hDP hil hi
      go_wp2_with fail
      go_loopw [9] (fun j ws => ∃ (m : Nat) (E : List Int), j = .int .i64 (m : Int) ∧ m < d.length ∧ E.length = d.length ∧ (∀ x ∈ E, P x) ∧ insIn cf ia m E = insIn cf ia i D ∧
        ws.ownsRow base 2 1 (.slice (some ⟨g, 0, none⟩) d.length c) d.length (i64s E) ∧ w.grownBy ws (some g)) (fun j _ => (intOf j).toNat)
      case atStart => exact ⟨i, D, rfl, by have := HDL.out; have := HIL.out; omega, HDL.out, HDP.out, rfl, HOW.out, HGR.out⟩
      case round =>
        obtain ⟨ws, hws⟩ : ∃ ws, ws = wr := ⟨_, rfl⟩
        rw [← hws] at hrel ⊢
        clear hws
        obtain ⟨m, E, rfl, hm, hEl, hEP, hEe, hoE, hgE⟩ := hrel
        by_cases ham : ia < m
        · obtain ⟨m, rfl⟩ : ∃ m', m = m' + 1 := ⟨m - 1, by omega⟩
          have ham1 : (ia : Int) < ((m + 1 : Nat) : Int) := by omega
          have hm1 : IntKind.i64.wrap (((m + 1 : Nat) : Int) - 1) = (m : Int) := by rw [IntKind.wrap_i64]; have := HL.out; omega
          have k1 := hoE.cellAt (m + 1) (by omega)
          have k0 := hoE.cellAt m (by omega)
          obtain ⟨x, hx⟩ : ∃ x, x = E.getD (m + 1) 0 := ⟨_, rfl⟩
          obtain ⟨y, hy⟩ : ∃ y, y = E.getD m 0 := ⟨_, rfl⟩
          have hx1 : (i64s E)[m + 1]? = some (.int .i64 x) := by unfold i64s; rw [hx, List.getElem?_map, List.getD_eq_getElem?_getD, List.getElem?_eq_getElem (by omega)]; rfl
          have hy1 : (i64s E)[m]? = some (.int .i64 y) := by unfold i64s; rw [hy, List.getElem?_map, List.getD_eq_getElem?_getD, List.getElem?_eq_getElem (by omega)]; rfl
          rw [hx1] at k1
          rw [hy1] at k0
          have HPX : P x := by rw [hx]; exact hEP _ (getD_mem (by omega))
          have HPY : P y := by rw [hy]; exact hEP _ (getD_mem (by omega))
          have HCC := hide (HC.out x y HPX HPY)
          have hin : insIn cf ia (m + 1) E = if ia < m + 1 ∧ cf x y < 0 then insIn cf ia m (swp E m) else E := by rw [hx, hy]; rfl
          have hl1 : ((m + 1 : Nat) : Int) < (d.length : Int) := by omega
          have hl0 : (m : Int) < (d.length : Int) := by omega
          obtain ⟨m1, hm1e⟩ : ∃ m1, m1 = m + 1 := ⟨_, rfl⟩
          have HM1 := hide hm1e
          rw [← hm1e] at ham ham1 hm1 k1 hl1 hin hx1 hm hEe ⊢
          have HOE := hide hoE
          have HGE := hide hgE
          have HEL := hide hEl
          have HEP := hide hEP
          have HM := hide hm
          have HX := hide hx
          have HY := hide hy
          by_cases hcf : cf x y < 0
          · rw [if_pos ⟨ham, hcf⟩] at hin
            have HEE := hide (hin.symm.trans hEe)
            have hxy : ¬ (m1 : Int) = (m : Int) := by omega
            clear hin hx hy hx1 hy1 HPX HPY hoE hgE hEl hEP hEe hm ham hm1e
            generalize cf x y = r at *
            go_wp2_with fail
            refine wp_region_facts' 16 (by kernel_rfl) (by kernel_rfl) ?_
            intro A O W L HA HO HW HL
            simp only [List.take_succ_cons, List.take_zero]
            have HS := hide (show A.tmps.size = 53 by rw [HA.out]; rfl)
            have HGW := hide (show ws.grownBy W none by rw [HW.out]; exact gb_drew (gb_refl ws none))
            have A0 := hide (show A.eval (.tmp 0) = .slice (some ⟨g, 0, none⟩) d.length c by rw [HA.out]; rfl)
            have A1 := hide (show A.eval (.tmp 1) = .int .i64 (ia : Int) by rw [HA.out]; rfl)
            have A3 := hide (show A.eval (.tmp 3) = .func (.func 51) #[] #[.pointer (some ⟨q, 0, none⟩)] by rw [HA.out]; rfl)
            have A9 := hide (show A.eval (.tmp 9) = .int .i64 (m1 : Int) by rw [HA.out]; rfl)
            -- slot 18
            refine wpFacts_lit (.int .i64 (m1 : Int)) rfl ?_ ?_
            · intro a wq hw hl
              have e9 : a.tmps[9]?.getD undef = .int .i64 (m1 : Int) := (hl 9 (by first | (simp [Op.operands]; done) | simp [Op.operands, Call.operands]) (by rw [HS.out]; decide)).trans A9.out
              clear hl
              go_simp
            -- slot 19
            refine wpFacts_lit (.int .i64 (ia : Int)) rfl ?_ ?_
            · intro a wq hw hl
              have e1 : a.tmps[1]?.getD undef = .int .i64 (ia : Int) := (hl 1 (by first | (simp [Op.operands]; done) | simp [Op.operands, Call.operands]) (by rw [HS.out]; decide)).trans A1.out
              clear hl
              go_simp
            -- slot 20
            refine wpFacts_lit (.bool true) rfl ?_ ?_
            · intro a wq hw hl
              have e18 : a.tmps[18]?.getD undef = .int .i64 (m1 : Int) := hl 18 (by first | (simp [Op.operands]; done) | simp [Op.operands, Call.operands]) (by rw [HS.out]; decide)
              have e19 : a.tmps[19]?.getD undef = .int .i64 (ia : Int) := hl 19 (by first | (simp [Op.operands]; done) | simp [Op.operands, Call.operands]) (by rw [HS.out]; decide)
              clear hl
              go_simp
            -- slot 21
            refine wpFacts_lit (.bool true) rfl ?_ ?_
            · intro a wq hw hl
              have e20 : a.tmps[20]?.getD undef = .bool true := hl 20 (by first | (simp [Op.operands]; done) | simp [Op.operands, Call.operands]) (by rw [HS.out]; decide)
              clear hl
              go_simp
            -- slot 22
            refine wpFacts_litG (.func (.func 51) #[] #[.pointer (some ⟨q, 0, none⟩)]) 3 true 21 rfl (by rw [HO.out]; rfl) (by rw [HS.out]; decide) (fun _ _ h => h) ?_ ?_
            · intro a wq hw hl
              have e3 : a.tmps[3]?.getD undef = .func (.func 51) #[] #[.pointer (some ⟨q, 0, none⟩)] := (hl 3 (by first | (simp [Op.operands]; done) | simp [Op.operands, Call.operands]) (by rw [HS.out]; decide)).trans A3.out
              clear hl
              go_simp
            -- slot 23
            refine wpFacts_litG (.slice (some ⟨g, 0, none⟩) d.length c) 3 true 21 rfl (by rw [HO.out]; rfl) (by rw [HS.out]; decide) (fun _ _ h => h) ?_ ?_
            · intro a wq hw hl
              have e0 : a.tmps[0]?.getD undef = .slice (some ⟨g, 0, none⟩) d.length c := (hl 0 (by first | (simp [Op.operands]; done) | simp [Op.operands, Call.operands]) (by rw [HS.out]; decide)).trans A0.out
              clear hl
              go_simp
            -- slot 24
            refine wpFacts_litG (.int .i64 (m1 : Int)) 3 true 21 rfl (by rw [HO.out]; rfl) (by rw [HS.out]; decide) (fun _ _ h => h) ?_ ?_
            · intro a wq hw hl
              have e9 : a.tmps[9]?.getD undef = .int .i64 (m1 : Int) := (hl 9 (by first | (simp [Op.operands]; done) | simp [Op.operands, Call.operands]) (by rw [HS.out]; decide)).trans A9.out
              clear hl
              go_simp
            -- slot 25
            refine wpFacts_litG (.pointer (some ⟨g, m1, none⟩)) 3 true 21 rfl (by rw [HO.out]; rfl) (by rw [HS.out]; decide) (fun _ _ h => h) ?_ ?_
            · intro a wq hw hl
              have e23 : a.tmps[23]?.getD undef = .slice (some ⟨g, 0, none⟩) d.length c := hl 23 (by first | (simp [Op.operands]; done) | simp [Op.operands, Call.operands]) (by rw [HS.out]; decide)
              have e24 : a.tmps[24]?.getD undef = .int .i64 (m1 : Int) := hl 24 (by first | (simp [Op.operands]; done) | simp [Op.operands, Call.operands]) (by rw [HS.out]; decide)
              clear hl
              go_simp
            -- slot 26
            refine wpFacts_litG (.int .i64 x) 3 true 21 rfl (by rw [HO.out]; rfl) (by rw [HS.out]; decide) (fun _ _ h => h) ?_ ?_
            · intro a wq hw hl
              have e25 : a.tmps[25]?.getD undef = .pointer (some ⟨g, m1, none⟩) := hl 25 (by first | (simp [Op.operands]; done) | simp [Op.operands, Call.operands]) (by rw [HS.out]; decide)
              have k1 := cell_gb k1 (gb_trans HGW.out hw (.inl rfl))
              clear hl
              go_simp
            -- slot 27
            refine wpFacts_litG (.slice (some ⟨g, 0, none⟩) d.length c) 3 true 21 rfl (by rw [HO.out]; rfl) (by rw [HS.out]; decide) (fun _ _ h => h) ?_ ?_
            · intro a wq hw hl
              have e0 : a.tmps[0]?.getD undef = .slice (some ⟨g, 0, none⟩) d.length c := (hl 0 (by first | (simp [Op.operands]; done) | simp [Op.operands, Call.operands]) (by rw [HS.out]; decide)).trans A0.out
              clear hl
              go_simp
            -- slot 28
            refine wpFacts_litG (.int .i64 (m1 : Int)) 3 true 21 rfl (by rw [HO.out]; rfl) (by rw [HS.out]; decide) (fun _ _ h => h) ?_ ?_
            · intro a wq hw hl
              have e9 : a.tmps[9]?.getD undef = .int .i64 (m1 : Int) := (hl 9 (by first | (simp [Op.operands]; done) | simp [Op.operands, Call.operands]) (by rw [HS.out]; decide)).trans A9.out
              clear hl
              go_simp
            -- slot 29
            refine wpFacts_litG (.int .i64 (m : Int)) 3 true 21 rfl (by rw [HO.out]; rfl) (by rw [HS.out]; decide) (fun _ _ h => h) ?_ ?_
            · intro a wq hw hl
              have e28 : a.tmps[28]?.getD undef = .int .i64 (m1 : Int) := hl 28 (by first | (simp [Op.operands]; done) | simp [Op.operands, Call.operands]) (by rw [HS.out]; decide)
              clear hl
              go_simp
            -- slot 30
            refine wpFacts_litG (.pointer (some ⟨g, m, none⟩)) 3 true 21 rfl (by rw [HO.out]; rfl) (by rw [HS.out]; decide) (fun _ _ h => h) ?_ ?_
            · intro a wq hw hl
              have e27 : a.tmps[27]?.getD undef = .slice (some ⟨g, 0, none⟩) d.length c := hl 27 (by first | (simp [Op.operands]; done) | simp [Op.operands, Call.operands]) (by rw [HS.out]; decide)
              have e29 : a.tmps[29]?.getD undef = .int .i64 (m : Int) := hl 29 (by first | (simp [Op.operands]; done) | simp [Op.operands, Call.operands]) (by rw [HS.out]; decide)
              clear hl
              go_simp
            -- slot 31
            refine wpFacts_litG (.int .i64 y) 3 true 21 rfl (by rw [HO.out]; rfl) (by rw [HS.out]; decide) (fun _ _ h => h) ?_ ?_
            · intro a wq hw hl
              have e30 : a.tmps[30]?.getD undef = .pointer (some ⟨g, m, none⟩) := hl 30 (by first | (simp [Op.operands]; done) | simp [Op.operands, Call.operands]) (by rw [HS.out]; decide)
              have k0 := cell_gb k0 (gb_trans HGW.out hw (.inl rfl))
              clear hl
              go_simp
            -- slot 32
            refine wpFacts_stepG (fun vq _ => vq = .int .i64 r) 3 true 21 rfl (by rw [HO.out]; rfl) (by rw [HS.out]; decide) (fun _ _ h => h) (Lit.up _) ?_ ?_
            · intro a wq hw hl
              have e22 : a.tmps[22]?.getD undef = .func (.func 51) #[] #[.pointer (some ⟨q, 0, none⟩)] := hl 22 (by first | (simp [Op.operands]; done) | simp [Op.operands, Call.operands]) (by rw [HS.out]; decide)
              have e26 : a.tmps[26]?.getD undef = .int .i64 x := hl 26 (by first | (simp [Op.operands]; done) | simp [Op.operands, Call.operands]) (by rw [HS.out]; decide)
              have e31 : a.tmps[31]?.getD undef = .int .i64 y := hl 31 (by first | (simp [Op.operands]; done) | simp [Op.operands, Call.operands]) (by rw [HS.out]; decide)
              clear hl
              go_simp
              exact gUpon_lit (HCC.out wq (gb_trans HGE.out (gb_trans HGW.out hw (.inl rfl)) (.inr (.inl rfl))))
            -- slot 33
            refine wpFacts_litG (.bool true) 3 true 21 rfl (by rw [HO.out]; rfl) (by rw [HS.out]; decide) (fun _ _ h => h) ?_ ?_
            · intro a wq hw hl
              have e32 : a.tmps[32]?.getD undef = .int .i64 r := hl 32 (by first | (simp [Op.operands]; done) | simp [Op.operands, Call.operands]) (by rw [HS.out]; decide)
              clear hl
              go_simp
            refine HL.out _ (fun a' wz hc => ?_)
            have e21 : a'.eval (.tmp 21) = .bool true := hc.fact 21 (by rw [HS.out]; decide)
            have e33 : a'.eval (.tmp 33) = .bool true := hc.fact 33 (by rw [HS.out]; decide)
            have hgwz := gb_trans HGW.out hc.grown (.inl rfl)
            have hfr := hc.frame [18, 19, 20, 21, 22, 23, 24, 25, 26, 27, 28, 29, 30, 31, 32, 33, 34] (by rw [HO.out]; kernel_rfl)
            rw [hfr]
            clear hfr hc
            rw [HA.out]
            clear HA HO HL HW HS HGW A0 A1 A3 A9
            clear A O W L
            simp only [List.drop_succ_cons, List.drop_zero, List.foldl_cons, List.foldl_nil, Act.put, List.setIfInBounds_toArray, List.set_cons_succ, List.set_cons_zero]
            rw [e21, e33]
            generalize a'.eval (.tmp 18) = x18
            generalize a'.eval (.tmp 19) = x19
            generalize a'.eval (.tmp 20) = x20
            generalize a'.eval (.tmp 22) = x22
            generalize a'.eval (.tmp 23) = x23
            generalize a'.eval (.tmp 24) = x24
            generalize a'.eval (.tmp 25) = x25
            generalize a'.eval (.tmp 26) = x26
            generalize a'.eval (.tmp 27) = x27
            generalize a'.eval (.tmp 28) = x28
            generalize a'.eval (.tmp 29) = x29
            generalize a'.eval (.tmp 30) = x30
            generalize a'.eval (.tmp 31) = x31
            generalize a'.eval (.tmp 32) = x32
            generalize a'.eval (.tmp 34) = x34
            clear e21 e33
            clear a'
            have HOZ := hide (HOE.out.kept hgwz (by cases (Value.slice (some ⟨g, 0, none⟩) d.length c).ownBlock <;> simp))
            have HGZ := hide (gb_trans HGE.out hgwz (.inr (.inl rfl)))
            have k1 := cell_gb k1 hgwz
            have k0 := cell_gb k0 hgwz
            have z1 := HOZ.out.frozenAt m1
            have z0 := HOZ.out.frozenAt m
            clear hgwz
            go_wp2_with fail
            go_region_law (fail)
            all_goals
              go_wp2_with fail
              go_roundw
              case rel =>
                refine ⟨m, swp E m, rfl, by have := HM.out; have := HM1.out; omega, by rw [swp_len]; exact HEL.out, swp_all HEP.out (by have := HM.out; have := HM1.out; have := HEL.out; omega), HEE.out, ?_, gb_drew (gb_setCell (gb_setCell HGZ.out (.inl rfl) _) (.inl rfl) _)⟩
                have h1 := ((HOZ.out.stored m1 (.int .i64 y)).1.stored m (.int .i64 x)).1
                unfold swp
                rw [i64s_set, i64s_set, ← HX.out, ← HY.out, ← HM1.out]
                exact h1.kept (gb_drew (gb_refl _ none)) (by cases (Value.slice (some ⟨g, 0, none⟩) d.length c).ownBlock <;> simp)
              case measure => have := HM1.out; simp [intOf]; omega
          · rw [if_neg (fun h => hcf h.2)] at hin
            have HEE := hide (hin.symm.trans hEe)
            clear hin hx hy hx1 hy1 HPX HPY hoE hgE hEl hEP hEe hm ham hm1e
            generalize cf x y = r at *
            go_wp2_with fail
            refine wp_region_facts' 16 (by kernel_rfl) (by kernel_rfl) ?_
            intro A O W L HA HO HW HL
            simp only [List.take_succ_cons, List.take_zero]
            have HS := hide (show A.tmps.size = 53 by rw [HA.out]; rfl)
            have HGW := hide (show ws.grownBy W none by rw [HW.out]; exact gb_drew (gb_refl ws none))
            have A0 := hide (show A.eval (.tmp 0) = .slice (some ⟨g, 0, none⟩) d.length c by rw [HA.out]; rfl)
            have A1 := hide (show A.eval (.tmp 1) = .int .i64 (ia : Int) by rw [HA.out]; rfl)
            have A3 := hide (show A.eval (.tmp 3) = .func (.func 51) #[] #[.pointer (some ⟨q, 0, none⟩)] by rw [HA.out]; rfl)
            have A9 := hide (show A.eval (.tmp 9) = .int .i64 (m1 : Int) by rw [HA.out]; rfl)
            -- slot 18
            refine wpFacts_lit (.int .i64 (m1 : Int)) rfl ?_ ?_
            · intro a wq hw hl
              have e9 : a.tmps[9]?.getD undef = .int .i64 (m1 : Int) := (hl 9 (by first | (simp [Op.operands]; done) | simp [Op.operands, Call.operands]) (by rw [HS.out]; decide)).trans A9.out
              clear hl
              go_simp
            -- slot 19
            refine wpFacts_lit (.int .i64 (ia : Int)) rfl ?_ ?_
            · intro a wq hw hl
              have e1 : a.tmps[1]?.getD undef = .int .i64 (ia : Int) := (hl 1 (by first | (simp [Op.operands]; done) | simp [Op.operands, Call.operands]) (by rw [HS.out]; decide)).trans A1.out
              clear hl
              go_simp
            -- slot 20
            refine wpFacts_lit (.bool true) rfl ?_ ?_
            · intro a wq hw hl
              have e18 : a.tmps[18]?.getD undef = .int .i64 (m1 : Int) := hl 18 (by first | (simp [Op.operands]; done) | simp [Op.operands, Call.operands]) (by rw [HS.out]; decide)
              have e19 : a.tmps[19]?.getD undef = .int .i64 (ia : Int) := hl 19 (by first | (simp [Op.operands]; done) | simp [Op.operands, Call.operands]) (by rw [HS.out]; decide)
              clear hl
              go_simp
            -- slot 21
            refine wpFacts_lit (.bool true) rfl ?_ ?_
            · intro a wq hw hl
              have e20 : a.tmps[20]?.getD undef = .bool true := hl 20 (by first | (simp [Op.operands]; done) | simp [Op.operands, Call.operands]) (by rw [HS.out]; decide)
              clear hl
              go_simp
            -- slot 22
            refine wpFacts_litG (.func (.func 51) #[] #[.pointer (some ⟨q, 0, none⟩)]) 3 true 21 rfl (by rw [HO.out]; rfl) (by rw [HS.out]; decide) (fun _ _ h => h) ?_ ?_
            · intro a wq hw hl
              have e3 : a.tmps[3]?.getD undef = .func (.func 51) #[] #[.pointer (some ⟨q, 0, none⟩)] := (hl 3 (by first | (simp [Op.operands]; done) | simp [Op.operands, Call.operands]) (by rw [HS.out]; decide)).trans A3.out
              clear hl
              go_simp
            -- slot 23
            refine wpFacts_litG (.slice (some ⟨g, 0, none⟩) d.length c) 3 true 21 rfl (by rw [HO.out]; rfl) (by rw [HS.out]; decide) (fun _ _ h => h) ?_ ?_
            · intro a wq hw hl
              have e0 : a.tmps[0]?.getD undef = .slice (some ⟨g, 0, none⟩) d.length c := (hl 0 (by first | (simp [Op.operands]; done) | simp [Op.operands, Call.operands]) (by rw [HS.out]; decide)).trans A0.out
              clear hl
              go_simp
            -- slot 24
            refine wpFacts_litG (.int .i64 (m1 : Int)) 3 true 21 rfl (by rw [HO.out]; rfl) (by rw [HS.out]; decide) (fun _ _ h => h) ?_ ?_
            · intro a wq hw hl
              have e9 : a.tmps[9]?.getD undef = .int .i64 (m1 : Int) := (hl 9 (by first | (simp [Op.operands]; done) | simp [Op.operands, Call.operands]) (by rw [HS.out]; decide)).trans A9.out
              clear hl
              go_simp
            -- slot 25
            refine wpFacts_litG (.pointer (some ⟨g, m1, none⟩)) 3 true 21 rfl (by rw [HO.out]; rfl) (by rw [HS.out]; decide) (fun _ _ h => h) ?_ ?_
            · intro a wq hw hl
              have e23 : a.tmps[23]?.getD undef = .slice (some ⟨g, 0, none⟩) d.length c := hl 23 (by first | (simp [Op.operands]; done) | simp [Op.operands, Call.operands]) (by rw [HS.out]; decide)
              have e24 : a.tmps[24]?.getD undef = .int .i64 (m1 : Int) := hl 24 (by first | (simp [Op.operands]; done) | simp [Op.operands, Call.operands]) (by rw [HS.out]; decide)
              clear hl
              go_simp
            -- slot 26
            refine wpFacts_litG (.int .i64 x) 3 true 21 rfl (by rw [HO.out]; rfl) (by rw [HS.out]; decide) (fun _ _ h => h) ?_ ?_
            · intro a wq hw hl
              have e25 : a.tmps[25]?.getD undef = .pointer (some ⟨g, m1, none⟩) := hl 25 (by first | (simp [Op.operands]; done) | simp [Op.operands, Call.operands]) (by rw [HS.out]; decide)
              have k1 := cell_gb k1 (gb_trans HGW.out hw (.inl rfl))
              clear hl
              go_simp
            -- slot 27
            refine wpFacts_litG (.slice (some ⟨g, 0, none⟩) d.length c) 3 true 21 rfl (by rw [HO.out]; rfl) (by rw [HS.out]; decide) (fun _ _ h => h) ?_ ?_
            · intro a wq hw hl
              have e0 : a.tmps[0]?.getD undef = .slice (some ⟨g, 0, none⟩) d.length c := (hl 0 (by first | (simp [Op.operands]; done) | simp [Op.operands, Call.operands]) (by rw [HS.out]; decide)).trans A0.out
              clear hl
              go_simp
            -- slot 28
            refine wpFacts_litG (.int .i64 (m1 : Int)) 3 true 21 rfl (by rw [HO.out]; rfl) (by rw [HS.out]; decide) (fun _ _ h => h) ?_ ?_
            · intro a wq hw hl
              have e9 : a.tmps[9]?.getD undef = .int .i64 (m1 : Int) := (hl 9 (by first | (simp [Op.operands]; done) | simp [Op.operands, Call.operands]) (by rw [HS.out]; decide)).trans A9.out
              clear hl
              go_simp
            -- slot 29
            refine wpFacts_litG (.int .i64 (m : Int)) 3 true 21 rfl (by rw [HO.out]; rfl) (by rw [HS.out]; decide) (fun _ _ h => h) ?_ ?_
            · intro a wq hw hl
              have e28 : a.tmps[28]?.getD undef = .int .i64 (m1 : Int) := hl 28 (by first | (simp [Op.operands]; done) | simp [Op.operands, Call.operands]) (by rw [HS.out]; decide)
              clear hl
              go_simp
            -- slot 30
            refine wpFacts_litG (.pointer (some ⟨g, m, none⟩)) 3 true 21 rfl (by rw [HO.out]; rfl) (by rw [HS.out]; decide) (fun _ _ h => h) ?_ ?_
            · intro a wq hw hl
              have e27 : a.tmps[27]?.getD undef = .slice (some ⟨g, 0, none⟩) d.length c := hl 27 (by first | (simp [Op.operands]; done) | simp [Op.operands, Call.operands]) (by rw [HS.out]; decide)
              have e29 : a.tmps[29]?.getD undef = .int .i64 (m : Int) := hl 29 (by first | (simp [Op.operands]; done) | simp [Op.operands, Call.operands]) (by rw [HS.out]; decide)
              clear hl
              go_simp
            -- slot 31
            refine wpFacts_litG (.int .i64 y) 3 true 21 rfl (by rw [HO.out]; rfl) (by rw [HS.out]; decide) (fun _ _ h => h) ?_ ?_
            · intro a wq hw hl
              have e30 : a.tmps[30]?.getD undef = .pointer (some ⟨g, m, none⟩) := hl 30 (by first | (simp [Op.operands]; done) | simp [Op.operands, Call.operands]) (by rw [HS.out]; decide)
              have k0 := cell_gb k0 (gb_trans HGW.out hw (.inl rfl))
              clear hl
              go_simp
            -- slot 32
            refine wpFacts_stepG (fun vq _ => vq = .int .i64 r) 3 true 21 rfl (by rw [HO.out]; rfl) (by rw [HS.out]; decide) (fun _ _ h => h) (Lit.up _) ?_ ?_
            · intro a wq hw hl
              have e22 : a.tmps[22]?.getD undef = .func (.func 51) #[] #[.pointer (some ⟨q, 0, none⟩)] := hl 22 (by first | (simp [Op.operands]; done) | simp [Op.operands, Call.operands]) (by rw [HS.out]; decide)
              have e26 : a.tmps[26]?.getD undef = .int .i64 x := hl 26 (by first | (simp [Op.operands]; done) | simp [Op.operands, Call.operands]) (by rw [HS.out]; decide)
              have e31 : a.tmps[31]?.getD undef = .int .i64 y := hl 31 (by first | (simp [Op.operands]; done) | simp [Op.operands, Call.operands]) (by rw [HS.out]; decide)
              clear hl
              go_simp
              exact gUpon_lit (HCC.out wq (gb_trans HGE.out (gb_trans HGW.out hw (.inl rfl)) (.inr (.inl rfl))))
            -- slot 33
            refine wpFacts_litG (.bool false) 3 true 21 rfl (by rw [HO.out]; rfl) (by rw [HS.out]; decide) (fun _ _ h => h) ?_ ?_
            · intro a wq hw hl
              have e32 : a.tmps[32]?.getD undef = .int .i64 r := hl 32 (by first | (simp [Op.operands]; done) | simp [Op.operands, Call.operands]) (by rw [HS.out]; decide)
              clear hl
              go_simp
            refine HL.out _ (fun a' wz hc => ?_)
            have e21 : a'.eval (.tmp 21) = .bool true := hc.fact 21 (by rw [HS.out]; decide)
            have e33 : a'.eval (.tmp 33) = .bool false := hc.fact 33 (by rw [HS.out]; decide)
            have hgwz := gb_trans HGW.out hc.grown (.inl rfl)
            have hfr := hc.frame [18, 19, 20, 21, 22, 23, 24, 25, 26, 27, 28, 29, 30, 31, 32, 33, 34] (by rw [HO.out]; kernel_rfl)
            rw [hfr]
            clear hfr hc
            rw [HA.out]
            clear HA HO HL HW HS HGW A0 A1 A3 A9
            clear A O W L
            simp only [List.drop_succ_cons, List.drop_zero, List.foldl_cons, List.foldl_nil, Act.put, List.setIfInBounds_toArray, List.set_cons_succ, List.set_cons_zero]
            rw [e21, e33]
            generalize a'.eval (.tmp 18) = x18
            generalize a'.eval (.tmp 19) = x19
            generalize a'.eval (.tmp 20) = x20
            generalize a'.eval (.tmp 22) = x22
            generalize a'.eval (.tmp 23) = x23
            generalize a'.eval (.tmp 24) = x24
            generalize a'.eval (.tmp 25) = x25
            generalize a'.eval (.tmp 26) = x26
            generalize a'.eval (.tmp 27) = x27
            generalize a'.eval (.tmp 28) = x28
            generalize a'.eval (.tmp 29) = x29
            generalize a'.eval (.tmp 30) = x30
            generalize a'.eval (.tmp 31) = x31
            generalize a'.eval (.tmp 32) = x32
            generalize a'.eval (.tmp 34) = x34
            clear e21 e33
            clear a'
            have HGZ := hide (gb_trans HGE.out hgwz (.inr (.inl rfl)))
            have HOZ := hide (HOE.out.kept hgwz (by cases (Value.slice (some ⟨g, 0, none⟩) d.length c).ownBlock <;> simp))
            clear hgwz k0 k1
            go_wp2_with fail
            go_roundw
            case rel => exact ⟨k + 1, by go_num, .inl (by have := HLT.out; omega), by rw [HDE.out, ← HI.out, ← HEE.out]; exact HOZ.out, HGZ.out⟩
            case measure => have := HLT.out; have := HI.out; simp [intOf]; omega
        · have ham1 : ¬ (ia : Int) < (m : Int) := by omega
          have ham2 : m ≤ ia := by omega
          have HEE := hide ((insIn_stop cf ia E m ham).symm.trans hEe)
          have HOE := hide hoE
          have HGE := hide hgE
          clear hoE hgE hEl hEP hEe hm ham
          go_wp2_with fail
          refine wp_region_facts' 16 (by kernel_rfl) (by kernel_rfl) ?_
          intro A O W L HA HO HW HL
          simp only [List.take_succ_cons, List.take_zero]
          have HS := hide (show A.tmps.size = 53 by rw [HA.out]; rfl)
          have HGW := hide (show ws.grownBy W none by rw [HW.out]; exact gb_drew (gb_refl ws none))
          have A0 := hide (show A.eval (.tmp 0) = .slice (some ⟨g, 0, none⟩) d.length c by rw [HA.out]; rfl)
          have A1 := hide (show A.eval (.tmp 1) = .int .i64 (ia : Int) by rw [HA.out]; rfl)
          have A3 := hide (show A.eval (.tmp 3) = .func (.func 51) #[] #[.pointer (some ⟨q, 0, none⟩)] by rw [HA.out]; rfl)
          have A9 := hide (show A.eval (.tmp 9) = .int .i64 (m : Int) by rw [HA.out]; rfl)
          -- slot 18
          refine wpFacts_lit (.int .i64 (m : Int)) rfl ?_ ?_
          · intro a wq hw hl
            have e9 : a.tmps[9]?.getD undef = .int .i64 (m : Int) := (hl 9 (by first | (simp [Op.operands]; done) | simp [Op.operands, Call.operands]) (by rw [HS.out]; decide)).trans A9.out
            clear hl
            go_simp
          -- slot 19
          refine wpFacts_lit (.int .i64 (ia : Int)) rfl ?_ ?_
          · intro a wq hw hl
            have e1 : a.tmps[1]?.getD undef = .int .i64 (ia : Int) := (hl 1 (by first | (simp [Op.operands]; done) | simp [Op.operands, Call.operands]) (by rw [HS.out]; decide)).trans A1.out
            clear hl
            go_simp
          -- slot 20
          refine wpFacts_lit (.bool false) rfl ?_ ?_
          · intro a wq hw hl
            have e18 : a.tmps[18]?.getD undef = .int .i64 (m : Int) := hl 18 (by first | (simp [Op.operands]; done) | simp [Op.operands, Call.operands]) (by rw [HS.out]; decide)
            have e19 : a.tmps[19]?.getD undef = .int .i64 (ia : Int) := hl 19 (by first | (simp [Op.operands]; done) | simp [Op.operands, Call.operands]) (by rw [HS.out]; decide)
            clear hl
            go_simp
          -- slot 21
          refine wpFacts_lit (.bool false) rfl ?_ ?_
          · intro a wq hw hl
            have e20 : a.tmps[20]?.getD undef = .bool false := hl 20 (by first | (simp [Op.operands]; done) | simp [Op.operands, Call.operands]) (by rw [HS.out]; decide)
            clear hl
            go_simp
          -- slot 22
          refine wpFacts_skipG 3 true 21 rfl (by rw [HO.out]; rfl) (by rw [HS.out]; decide) (fun _ _ h => h) ?_
          -- slot 23
          refine wpFacts_skipG 3 true 21 rfl (by rw [HO.out]; rfl) (by rw [HS.out]; decide) (fun _ _ h => h) ?_
          -- slot 24
          refine wpFacts_skipG 3 true 21 rfl (by rw [HO.out]; rfl) (by rw [HS.out]; decide) (fun _ _ h => h) ?_
          -- slot 25
          refine wpFacts_skipG 3 true 21 rfl (by rw [HO.out]; rfl) (by rw [HS.out]; decide) (fun _ _ h => h) ?_
          -- slot 26
          refine wpFacts_skipG 3 true 21 rfl (by rw [HO.out]; rfl) (by rw [HS.out]; decide) (fun _ _ h => h) ?_
          -- slot 27
          refine wpFacts_skipG 3 true 21 rfl (by rw [HO.out]; rfl) (by rw [HS.out]; decide) (fun _ _ h => h) ?_
          -- slot 28
          refine wpFacts_skipG 3 true 21 rfl (by rw [HO.out]; rfl) (by rw [HS.out]; decide) (fun _ _ h => h) ?_
          -- slot 29
          refine wpFacts_skipG 3 true 21 rfl (by rw [HO.out]; rfl) (by rw [HS.out]; decide) (fun _ _ h => h) ?_
          -- slot 30
          refine wpFacts_skipG 3 true 21 rfl (by rw [HO.out]; rfl) (by rw [HS.out]; decide) (fun _ _ h => h) ?_
          -- slot 31
          refine wpFacts_skipG 3 true 21 rfl (by rw [HO.out]; rfl) (by rw [HS.out]; decide) (fun _ _ h => h) ?_
          -- slot 32
          refine wpFacts_skipG 3 true 21 rfl (by rw [HO.out]; rfl) (by rw [HS.out]; decide) (fun _ _ h => h) ?_
          -- slot 33
          refine wpFacts_skipG 3 true 21 rfl (by rw [HO.out]; rfl) (by rw [HS.out]; decide) (fun _ _ h => h) ?_
          refine HL.out _ (fun a' wz hc => ?_)
          have e21 : a'.eval (.tmp 21) = .bool false := hc.fact 21 (by rw [HS.out]; decide)
          have e33 : a'.eval (.tmp 33) = undef := hc.fact 33 (by rw [HS.out]; decide)
          have hgwz := gb_trans HGW.out hc.grown (.inl rfl)
          have hfr := hc.frame [18, 19, 20, 21, 22, 23, 24, 25, 26, 27, 28, 29, 30, 31, 32, 33, 34] (by rw [HO.out]; kernel_rfl)
          rw [hfr]
          clear hfr hc
          rw [HA.out]
          clear HA HO HL HW HS HGW A0 A1 A3 A9
          clear A O W L
          simp only [List.drop_succ_cons, List.drop_zero, List.foldl_cons, List.foldl_nil, Act.put, List.setIfInBounds_toArray, List.set_cons_succ, List.set_cons_zero]
          rw [e21, e33]
          generalize a'.eval (.tmp 18) = x18
          generalize a'.eval (.tmp 19) = x19
          generalize a'.eval (.tmp 20) = x20
          generalize a'.eval (.tmp 22) = x22
          generalize a'.eval (.tmp 23) = x23
          generalize a'.eval (.tmp 24) = x24
          generalize a'.eval (.tmp 25) = x25
          generalize a'.eval (.tmp 26) = x26
          generalize a'.eval (.tmp 27) = x27
          generalize a'.eval (.tmp 28) = x28
          generalize a'.eval (.tmp 29) = x29
          generalize a'.eval (.tmp 30) = x30
          generalize a'.eval (.tmp 31) = x31
          generalize a'.eval (.tmp 32) = x32
          generalize a'.eval (.tmp 34) = x34
          clear e21 e33
          clear a'
          have HGZ := hide (gb_trans HGE.out hgwz (.inr (.inl rfl)))
          have HOZ := hide (HOE.out.kept hgwz (by cases (Value.slice (some ⟨g, 0, none⟩) d.length c).ownBlock <;> simp))
          clear hgwz
          go_wp2_with fail
          go_roundw
          case rel => exact ⟨k + 1, by go_num, .inl (by have := HLT.out; omega), by rw [HDE.out, ← HI.out, ← HEE.out]; exact HOZ.out, HGZ.out⟩
          case measure => have := HLT.out; have := HI.out; simp [intOf]; omega
    · have hlt1 : ¬ ((ia + 1 + k : Nat) : Int) < (ib : Int) := by omega
      obtain rfl : k = ib - ia - 1 := by have := HAB.out; omega
      have HOW := hide how
      have HGR := hide hgr
      clear how hgr hk hlt
      generalize ia + 1 + (ib - ia - 1) = i at *
      go_wp2_with fail
      go_end0
      exact ⟨rfl, HOW.out, HGR.out⟩
end Go.Proofs.YtgepejnooghjbaaGreat
