/-
  Acts in memory, and how many of them and of their bytes there are.
-/
import Derived.Test.YtccapgcpdehicaaQaa
import Derived.StillTail
import Derived.Test.YtccapgcpdehicaaQay
import Derived.Test.YtccapgcpdehicaaQam
import Derived.Test.YtccapgcpdehicaaQaj
import Derived.Test.YtccapgcpdehicaaQak
import Derived.Test.YtccapgcpdehicaaQap

namespace Go.Proofs.Ytccapgcpdehicaa
open Go.RowKit

/-- What holds of a slot's value, in a world. -/
abbrev Fct := Value → World → Prop
/-- Growth does not take it back. -/
def Fct.Up (F : Fct) : Prop := ∀ v w w', F v w → w.grownBy w' none → F v w'
/-- The facts of all slots, one turned. -/
def upd (G : Nat → Fct) (d : Option Tmp) (F : Fct) : Nat → Fct := fun t => match d with
  | some d => bif Nat.beq t d then F else G t
  | none => G t
theorem upd_same (G : Nat → Fct) (d : Tmp) (F : Fct) : upd G (some d) F d = F := by simp [upd]
theorem upd_other (G : Nat → Fct) (d : Option Tmp) (F : Fct) (t : Nat) (h : d ≠ some t) : upd G d F t = G t := by
  cases d with
  | none => rfl
  | some d =>
    have : Nat.beq t d = false := by
      cases e : Nat.beq t d
      · rfl
      · exact absurd (by rw [Nat.eq_of_beq_eq_true e]) h
    simp [upd, this]
theorem upd_comm (G : Nat → Fct) (x y : Option Tmp) (F K : Fct) (h : ∀ d, x = some d → y ≠ some d) : upd (upd G x F) y K = upd (upd G y K) x F := by
  funext t
  by_cases hx : x = some t
  · subst hx
    rw [upd_other _ y K t (h t rfl), upd_same, upd_same]
  · rw [upd_other _ x F t hx]
    by_cases hy : y = some t
    · subst hy
      rw [upd_same, upd_same]
    · rw [upd_other _ y K t hy, upd_other _ y K t hy, upd_other _ x F t hx]

section
variable {P : Program} {ops : Array Oper} {md : Region.Mode} {a0 : Act} {w0 : World}

/-- What an operation does, run in w: its result is so, the world has grown. -/
def gUpon (P : Program) (w : World) (F : Fct) : Result Next → Prop
  | .ok (.value u) w' => w.grownBy w' none ∧ F u w'
  | .ok .skip w' => w.grownBy w' none ∧ F undef w'
  | .ok (.enter f args) w' => w.grownBy w' none ∧ Calls P f args w' (fun e w'' => ∃ v, e = .returned v ∧ w'.grownBy w'' none ∧ F v w'')
  | _ => False

/-- A frame and a world of which the facts hold. -/
structure Ctx (ops : Array Oper) (a0 : Act) (w0 : World) (G : Nat → Fct) (a : Act) (w : World) : Prop where
  grown : w0.grownBy w none
  defers : a.defers = a0.defers
  size : a.tmps.size = a0.tmps.size
  up : ∀ t, (G t).Up
  fact : ∀ t, t < a0.tmps.size → G t (a.eval (.tmp t)) w
  rest : ∀ t, (∀ (i : Nat) (o : Oper), ops[i]? = some o → o.dst ≠ some t) → a.tmps[t]? = a0.tmps[t]?

theorem Ctx.start (a : Act) (w : World) : Ctx ops a w (fun t v _ => v = a.eval (.tmp t)) a w :=
  ⟨gb_refl w none, rfl, rfl, fun _ _ _ _ h _ => h, fun _ _ => rfl, fun _ _ => rfl⟩

theorem eval_put_same {a : Act} {d : Tmp} {v : Value} (h : d < a.tmps.size) : (a.put (some d) v).eval (.tmp d) = v := by
  simp [Act.put, Act.eval, h]

theorem Ctx.put {G : Nat → Fct} {a : Act} {w w' : World} {i : Nat} {o : Oper} {F : Fct} {v : Value} (h : Ctx ops a0 w0 G a w) (ho : ops[i]? = some o) (hg : w.grownBy w' none) (hF : F.Up) (hv : F v w') :
    Ctx ops a0 w0 (upd G o.dst F) (a.put o.dst v) w' := by
  refine ⟨gb_trans h.grown hg (.inl rfl), ?_, ?_, ?_, ?_, ?_⟩
  · cases o.dst <;> exact h.defers
  · cases o.dst <;> simp [Act.put, h.size]
  · intro t
    by_cases e : o.dst = some t
    · rw [e, upd_same]; exact hF
    · rw [upd_other _ _ _ _ e]; exact h.up t
  · intro t ht
    by_cases e : o.dst = some t
    · rw [e, upd_same, eval_put_same (by rw [h.size]; exact ht)]
      exact hv
    · rw [upd_other _ _ _ _ e, Act.eval_put (fun d hd hx => e (by rw [hd]; injection hx with hx; rw [hx]))]
      exact h.up t _ _ _ (h.fact t ht) hg
  · intro t ht
    rw [← h.rest t ht]
    have := ht i o ho
    cases hd : o.dst with
    | none => rfl
    | some d =>
      have hne : d ≠ t := fun e => this (by rw [hd, e])
      simp [Act.put, Array.getElem?_setIfInBounds_ne hne]

/-- Operation o does F, whatever the frame and the world, if the facts hold of what it looks at. -/
def Does (P : Program) (ops : Array Oper) (a0 : Act) (w0 : World) (G : Nat → Fct) (o : Oper) (F : Fct) : Prop :=
  F.Up ∧ ∀ (a : Act) (w : World), a.tmps.size = a0.tmps.size → w0.grownBy w none → (∀ t ∈ o.looksAt ops, t < a0.tmps.size → G t (a.eval (.tmp t)) w) →
    (Region.wanted o (yielded ops a.tmps) = true ∧ gUpon P w F ((execOp a.eval o).run P w)) ∨ (Region.wanted o (yielded ops a.tmps) = false ∧ F undef w)

theorem Does.same {G G' : Nat → Fct} {o : Oper} {F : Fct} (h : Does P ops a0 w0 G o F) (he : ∀ t ∈ o.looksAt ops, G' t = G t) : Does P ops a0 w0 G' o F :=
  ⟨h.1, fun a w hs hg hl => h.2 a w hs hg fun t ht hlt => by have := hl t ht hlt; rwa [he t ht] at this⟩

def gOp (P : Program) (ops : Array Oper) (a0 : Act) (w0 : World) (i : Nat) (K : (Nat → Fct) → Prop) (G : Nat → Fct) : Prop :=
  match ops[i]? with
  | none => K G
  | some o => ∃ F, Does P ops a0 w0 G o F ∧ K (upd G o.dst F)

theorem gOp_mono {i : Nat} {K K' : (Nat → Fct) → Prop} {G : Nat → Fct} (h : ∀ G, K G → K' G) (hh : gOp P ops a0 w0 i K G) : gOp P ops a0 w0 i K' G := by
  unfold gOp at *
  split
  · exact h _ (by simpa [*] using hh)
  · rename_i o ho
    simp only [ho] at hh
    obtain ⟨F, h1, h2⟩ := hh
    exact ⟨F, h1, h _ h2⟩

theorem Does.gOp {i : Nat} {o : Oper} {F : Fct} {G : Nat → Fct} (hi : ops[i]? = some o) (h : Does P ops a0 w0 G o F) {K : (Nat → Fct) → Prop} (hK : K (upd G o.dst F)) : gOp P ops a0 w0 i K G := by
  unfold Go.Proofs.Ytccapgcpdehicaa.gOp
  simp only [hi]
  exact ⟨F, h, hK⟩

theorem gOp_put {j : Nat} {oi oj : Oper} {F : Fct} {G : Nat → Fct} (hj : ops[j]? = some oj) (hap : oi.apart ops oj = true) {K : (Nat → Fct) → Prop}
    (hy : Does P ops a0 w0 G oi F) (h : gOp P ops a0 w0 j K (upd G oi.dst F)) : gOp P ops a0 w0 j (fun G' => Does P ops a0 w0 G' oi F ∧ K (upd G' oi.dst F)) G := by
  obtain ⟨h1, h2, h3⟩ := Oper.apart_spec hap
  unfold Go.Proofs.Ytccapgcpdehicaa.gOp at *
  simp only [hj] at *
  obtain ⟨Fj, k1, k2⟩ := h
  refine ⟨Fj, k1.same fun t ht => (upd_other _ _ _ _ fun e => h1 t e ht).symm, hy.same fun t ht => upd_other _ _ _ _ fun e => h3 t e ht, ?_⟩
  rw [← upd_comm G oi.dst oj.dst F Fj h2]
  exact k2

theorem wpOp_of_gOp {i : Nat} {K : (Nat → Fct) → Prop} {K' : Act → World → Prop} {Q' : Exit → Act → World → Prop} {G : Nat → Fct} {a : Act} {w : World} (hc : Ctx ops a0 w0 G a w)
    (h : ∀ G' a' w', Ctx ops a0 w0 G' a' w' → K G' → K' a' w') (hh : gOp P ops a0 w0 i K G) : wpOp P ops Q' i K' a w := by
  unfold Go.Proofs.Ytccapgcpdehicaa.gOp at hh
  unfold wpOp
  split
  · rename_i ho; simp only [ho] at hh; exact h _ _ _ hc hh
  · rename_i o ho
    simp only [ho] at hh
    obtain ⟨F, ⟨hup, hdo⟩, hK⟩ := hh
    rcases hdo a w hc.size hc.grown (fun t _ ht => hc.fact t ht) with ⟨hw, hr⟩ | ⟨hw, hr⟩
    · simp only [hw, if_true]
      refine .inl ?_
      unfold Oper.wp
      generalize (execOp a.eval o).run P w = r at *
      cases r with
      | ok n w' =>
        cases n <;> simp only [gUpon] at hr <;> simp only [Oper.upon]
        case value u => exact h _ _ _ (hc.put ho hr.1 hup hr.2) hK
        case skip => exact h _ _ _ (hc.put ho hr.1 hup hr.2) hK
        case enter f args =>
          refine hr.2.mono fun e w'' he => ?_
          obtain ⟨v, rfl, hg, hv⟩ := he
          exact h _ _ _ (hc.put ho (gb_trans hr.1 hg (.inl rfl)) hup hv) hK
      | halt x w' => simp only [gUpon] at hr
    · simp only [hw, Bool.false_eq_true, if_false]
      exact h _ _ _ (hc.put ho (gb_refl w none) hup hr) hK

/-- Whatever order is picked of the first n. -/
def wpAnyG (P : Program) (md : Region.Mode) (ops : Array Oper) (a0 : Act) (w0 : World) (n : Nat) (L : Array Bool → (Nat → Fct) → Prop) : Nat → Array Bool → (Nat → Fct) → Prop
  | 0, listed, G => L listed G
  | f + 1, listed, G => Region.ready md ops listed ≠ [] ∧ ∀ i ∈ Region.ready md ops listed, i < n ∧ gOp P ops a0 w0 i (wpAnyG P md ops a0 w0 n L f (listed.setIfInBounds i true)) G

theorem wpAny_of_gHead {n g : Nat} {L : Array Bool → (Nat → Fct) → Prop} {Q' : Exit → Act → World → Prop} (hL : ∀ listed G a w, Ctx ops a0 w0 G a w → L listed G → wpAny P md ops Q' g listed a w) :
    ∀ (f : Nat) (listed : Array Bool) (G : Nat → Fct) (a : Act) (w : World), Ctx ops a0 w0 G a w → wpAnyG P md ops a0 w0 n L f listed G → wpAny P md ops Q' (f + g) listed a w
  | 0, listed, G, a, w, hc, h => by rw [Nat.zero_add]; exact hL _ _ _ _ hc h
  | f + 1, listed, G, a, w, hc, h => by
    rw [show f + 1 + g = (f + g) + 1 by omega]
    exact ⟨fun h0 => absurd h0 h.1, fun i hi => wpOp_of_gOp hc (fun G' a' w' hc' h' => wpAny_of_gHead hL f _ G' a' w' hc' h') (h.2 i hi).2⟩

theorem wpAnyG_first {n i : Nat} {oi : Oper} {F : Fct} {L : Array Bool → (Nat → Fct) → Prop} (hi : ops[i]? = some oi)
    (hs : Region.sinkB md ops n = true) (hc : Region.chainB md ops n = true) (hn : n < ops.size) (hin : i < n)
    (hdone : ∀ listed G, L listed G → ∀ j ∈ Region.ready md ops listed, n ≤ j) :
    ∀ (f : Nat) (listed : Array Bool) (G : Nat → Fct), HeadInv md ops n listed →
      (∀ j oj, ops[j]? = some oj → j ≠ i → listed.getD j true = false → (∀ e ∈ oj.after, Region.binds md e = true → e.on ≠ i) → oi.apart ops oj = true) →
      i ∈ Region.ready md ops listed → Does P ops a0 w0 G oi F →
      wpAnyG P md ops a0 w0 n L f (listed.setIfInBounds i true) (upd G oi.dst F) → wpAnyG P md ops a0 w0 n L (f + 1) listed G := by
  intro f
  induction f with
  | zero =>
    intro listed G inv _ hr hy H
    have hun := (mem_ready.1 hr).1
    refine ⟨fun h => (by rw [h] at hr; cases hr), fun j hj => ?_⟩
    have hjn : j < n := by
      rcases Nat.lt_or_ge j n with h | h
      · exact h
      · exact absurd hj (tail_waits hs hc hn inv _ i rfl hin hun j h)
    refine ⟨hjn, ?_⟩
    by_cases hji : j = i
    · subst hji; exact hy.gOp hi H
    · have := hdone _ _ H j (ready_mono hj hji)
      omega
  | succ f ih =>
    intro listed G inv hfree hr hy H
    have hun := (mem_ready.1 hr).1
    refine ⟨fun h => (by rw [h] at hr; cases hr), fun j hj => ?_⟩
    have hjn : j < n := by
      rcases Nat.lt_or_ge j n with h | h
      · exact h
      · exact absurd hj (tail_waits hs hc hn inv _ i rfl hin hun j h)
    refine ⟨hjn, ?_⟩
    by_cases hji : j = i
    · subst hji; exact hy.gOp hi H
    · have h1 := (H.2 j (ready_mono hj hji)).2
      obtain ⟨hjun, oj, hoj, hall⟩ := mem_ready.1 hj
      have hnot : ∀ e ∈ oj.after, Region.binds md e = true → e.on ≠ i := fun e he hb heq => by
        have h1 := hall e he hb
        rw [heq, getD_both hun] at h1
        cases h1
      have h2 := gOp_put hoj (hfree j oj hoj hji hjun hnot) hy h1
      have hfree' : ∀ k ok, ops[k]? = some ok → k ≠ i → (listed.setIfInBounds j true).getD k true = false →
          (∀ e ∈ ok.after, Region.binds md e = true → e.on ≠ i) → oi.apart ops ok = true := fun k ok hk hki hun hno => by
        refine hfree k ok hk hki ?_ hno
        by_cases hjk : j = k
        · subst hjk; exact hjun
        · rw [getD_set_ne true hjk] at hun; exact hun
      refine gOp_mono (fun G' h3 => ih (listed.setIfInBounds j true) G' (inv.set hj hjn) hfree' (ready_mono hr (Ne.symm hji)) h3.1 ?_) h2
      rw [Array.setIfInBounds_comm _ _ hji]
      exact h3.2

/-- The walk in the order of the text: of each operation what it does. -/
def wpFacts (P : Program) (ops : Array Oper) (a0 : Act) (w0 : World) (L : (Nat → Fct) → Prop) : List Oper → (Nat → Fct) → Prop
  | [], G => L G
  | o :: rest, G => ∃ F, Does P ops a0 w0 G o F ∧ wpFacts P ops a0 w0 L rest (upd G o.dst F)

theorem wpAnyG_lex {n g : Nat} {Lq : (Nat → Fct) → Prop} (hsel : Region.noSelect ops = true) (hs : Region.sinkB md ops n = true) (hc : Region.chainB md ops n = true) (hn : n < ops.size) :
    ∀ (l : List Oper) (k : Nat) (listed : Array Bool) (G : Nat → Fct), (∀ j, j < l.length → l[j]? = ops[k + j]?) → k + l.length = n → HeadInv md ops n listed →
    Region.lexHead md ops g l.length k listed = true → wpFacts P ops a0 w0 Lq l G →
    wpAnyG P md ops a0 w0 n (fun listed' G' => Region.seqB md ops g n listed' = true ∧ Lq G') l.length listed G
  | [], k, listed, G, _, hk, _, hB, h => by
    have : k = n := by simpa using hk
    subst this
    exact ⟨by simpa [Region.lexHead] using hB, h⟩
  | o :: l, k, listed, G, hl, hk, inv, hB, h => by
    have h0 : ops[k]? = some o := by simpa using (hl 0 (by simp)).symm
    simp only [List.length_cons, Region.lexHead, Bool.and_eq_true] at hB
    obtain ⟨⟨hr, hf⟩, hB'⟩ := hB
    have hkn : k < n := by simp only [List.length_cons] at hk; omega
    have hr' : k ∈ Region.ready md ops listed := by simpa using hr
    obtain ⟨F, hy, hK⟩ := h
    exact wpAnyG_first h0 hs hc hn hkn (fun listed' G' hL => seqB_ready hL.1) l.length listed G inv (Region.free_spec h0 hf) hr' hy
      (wpAnyG_lex hsel hs hc hn l (k + 1) _ _ (fun j hj => by have := hl (j + 1) (by simp; omega); simpa [Nat.add_assoc, Nat.add_comm 1 j] using this) (by simp only [List.length_cons] at hk; omega) (inv.set hr' hkn) hB' hK)

/-- A region, its first n operations by facts, the others as they stand. -/
theorem wp_region_facts {id : Nat} {Q : Exit → Act → World → Prop} {a : Act} {w : World} {l : List Oper} (n : Nat) (hm : P.follows .mixedOrders = true) (hB : Region.lexTailB .any l.toArray n = true)
    (h : wpFacts P l.toArray a w.drew (fun G => ∀ a' w', Ctx l.toArray a w.drew G a' w' → wpList P l.toArray Q (l.drop n) a' w') (l.take n) (fun t v _ => v = a.eval (.tmp t))) : (Code.region id l.toArray true).wp P Q a w := by
  simp only [Region.lexTailB, Bool.and_eq_true, decide_eq_true_eq] at hB
  obtain ⟨⟨⟨⟨hsel, hn⟩, hs⟩, hc⟩, hlex⟩ := hB
  have hn' : n < l.length := by simpa using hn
  have htl : (l.take n).length = n := by simp; omega
  have hdl : (l.drop n).length = l.toArray.size - n := by simp
  have inv0 : HeadInv .any l.toArray n (Array.replicate l.toArray.size false) :=
    ⟨by simp, fun j oj _ hl => (by rw [getD_replicate_false] at hl; cases hl), fun t _ ht => getD_in (by simpa using ht) (getD_replicate_false _ _)⟩
  have H := wpAnyG_lex (md := .any) (g := l.toArray.size - n) hsel hs hc hn (l.take n) 0 _ _ (fun j hj => by
    have hj' : j < n := by rw [htl] at hj; exact hj
    simp [hj']) (by simpa using htl) inv0 (by rw [htl]; exact hlex) h
  refine wp_region_any hm ?_
  have := wpAny_of_gHead (Q' := Q) (g := l.toArray.size - n) (fun listed G a' w' hc' hL => by
    have := wpAny_of_seq (md := .any) (Q' := Q) (l.drop n) n listed a' w' (fun j => by simp [List.getElem?_drop]) (by rw [hdl]; exact hL.1) (hL.2 a' w' hc')
    rwa [hdl] at this) _ _ _ _ _ (Ctx.start a w.drew) H
  rw [htl, show n + (l.toArray.size - n) = l.toArray.size by omega] at this
  exact this

/-- The frame behind it: the old one, the results put. -/
theorem Ctx.frame {G : Nat → Fct} {a : Act} {w : World} (h : Ctx ops a0 w0 G a w) (ds : List Tmp) (hB : ops.toList.all (fun o => match o.dst with | some d => ds.contains d | none => true) = true) :
    a = ds.foldl (fun b d => b.put (some d) (a.eval (.tmp d))) a0 := by
  have hd : ∀ (i : Nat) (o : Oper) (d : Tmp), ops[i]? = some o → o.dst = some d → d ∈ ds := fun i o d ho hd => by
    have hm : o ∈ ops.toList := Array.mem_toList_iff.2 (Array.mem_of_getElem? ho)
    have h1 := List.all_eq_true.1 hB o hm
    rw [hd] at h1
    simpa using h1
  have key : ∀ (ds : List Tmp) (b : Act), b.defers = a.defers → b.tmps.size = a.tmps.size → (∀ t, t ∉ ds → b.tmps[t]? = a.tmps[t]?) → a = ds.foldl (fun b d => b.put (some d) (a.eval (.tmp d))) b := by
    intro ds
    induction ds with
    | nil =>
      intro b h1 h2 h3
      have : b.tmps = a.tmps := Array.ext_getElem? fun t => h3 t (by simp)
      cases a; cases b
      simp_all
    | cons d ds ih =>
      intro b h1 h2 h3
      refine ih _ h1 (by simp [Act.put, h2]) fun t ht => ?_
      by_cases e : d = t
      · subst e
        by_cases hs : d < a.tmps.size
        · simp [Act.put, Act.eval, h2, hs]
        · simp [Act.put, h2, hs]
      · simp only [Act.put]
        rw [Array.getElem?_setIfInBounds_ne e]
        exact h3 t (by simp [ht]; exact fun e' => e e'.symm)
  exact key ds a0 h.defers.symm h.size.symm fun t ht => (h.rest t fun i o ho hd' => ht (hd i o t ho hd')).symm

/-- The same, its great parts behind letters. -/
theorem wp_region_facts' {id : Nat} {Q : Exit → Act → World → Prop} {a : Act} {w : World} {l : List Oper} (n : Nat) (hm : P.follows .mixedOrders = true) (hB : Region.lexTailB .any l.toArray n = true)
    (h : ∀ (A : Act) (O : Array Oper) (W : World) (L : (Nat → Fct) → Prop), Hid (A = a) → Hid (O = l.toArray) → Hid (W = w.drew) → Hid (∀ G, (∀ a' w', Ctx O A W G a' w' → wpList P l.toArray Q (l.drop n) a' w') → L G) →
      wpFacts P O A W L (l.take n) (fun t v _ => v = A.eval (.tmp t))) : (Code.region id l.toArray true).wp P Q a w :=
  wp_region_facts n hm hB (h a l.toArray w.drew _ (hide rfl) (hide rfl) (hide rfl) (hide fun _ h => h))

/-- One operation that has no guard. -/
theorem wpFacts_step {L : (Nat → Fct) → Prop} {G : Nat → Fct} {o : Oper} {rest : List Oper} (F : Fct) (hg : o.guard = none) (hup : F.Up)
    (h : ∀ (a : Act) (w : World), w0.grownBy w none → (∀ t ∈ o.op.operands.toList.filterMap (fun | .tmp t => some t | _ => none), t < a0.tmps.size → G t (a.tmps[t]?.getD undef) w) → gUpon P w F ((execOp a.eval o).run P w))
    (hr : wpFacts P ops a0 w0 L rest (upd G o.dst F)) : wpFacts P ops a0 w0 L (o :: rest) G :=
  ⟨F, ⟨hup, fun a w _ hw hl => .inl ⟨by simp [Region.wanted, hg], h a w hw fun t ht hs => by
    have h1 := hl t (by unfold Oper.looksAt; exact List.mem_append_left _ ht) hs
    simpa only [Act.eval, Array.getD_eq_getD_getElem?] using h1⟩⟩, hr⟩
/-- One operation without a guard whose result is known. -/
theorem wpFacts_lit {L : (Nat → Fct) → Prop} {G : Nat → Fct} {o : Oper} {rest : List Oper} (u : Value) (hg : o.guard = none)
    (h : ∀ (a : Act) (w : World), w0.grownBy w none → (∀ t ∈ o.op.operands.toList.filterMap (fun | .tmp t => some t | _ => none), t < a0.tmps.size → G t (a.tmps[t]?.getD undef) w) → (execOp a.eval o).run P w = .ok (.value u) w)
    (hr : wpFacts P ops a0 w0 L rest (upd G o.dst (fun v _ => v = u))) : wpFacts P ops a0 w0 L (o :: rest) G :=
  wpFacts_step _ hg (fun _ _ _ h _ => h) (fun a w hw hl => by rw [h a w hw hl]; exact ⟨gb_refl w none, rfl⟩) hr
end

section
variable {P : Program} {ops : Array Oper} {a0 : Act} {w0 : World}
/-- One operation whose guard lets it be carried out. -/
theorem wpFacts_stepG {L : (Nat → Fct) → Prop} {G : Nat → Fct} {o : Oper} {rest : List Oper} (F : Fct) (g : Nat) (b : Bool) (t : Tmp) (hg : o.guard = some (g, b)) (ht : (ops[g]?).bind (·.dst) = some t) (hs : t < a0.tmps.size)
    (hG : ∀ v w, G t v w → v = .bool b) (hup : F.Up)
    (h : ∀ (a : Act) (w : World), w0.grownBy w none → (∀ t ∈ o.op.operands.toList.filterMap (fun | .tmp t => some t | _ => none), t < a0.tmps.size → G t (a.tmps[t]?.getD undef) w) → gUpon P w F ((execOp a.eval o).run P w))
    (hr : wpFacts P ops a0 w0 L rest (upd G o.dst F)) : wpFacts P ops a0 w0 L (o :: rest) G :=
  ⟨F, ⟨hup, fun a w hsz hw hl => .inl ⟨by
    have hm : t ∈ o.looksAt ops := by unfold Oper.looksAt; rw [hg]; simp only [ht]; simp
    have h1 := hG _ _ (hl t hm hs)
    have h2 : a.tmps[t]? = some (.bool b) := by
      simp only [Act.eval, Array.getD_eq_getD_getElem?] at h1
      rw [← hsz] at hs
      rw [Array.getElem?_eq_getElem hs] at h1 ⊢
      simpa using h1
    simp [Region.wanted, hg, yielded, ht, h2], h a w hw fun t ht hs => by
    have h1 := hl t (by unfold Oper.looksAt; exact List.mem_append_left _ ht) hs
    simpa only [Act.eval, Array.getD_eq_getD_getElem?] using h1⟩⟩, hr⟩
/-- .. and whose result is known. -/
theorem wpFacts_litG {L : (Nat → Fct) → Prop} {G : Nat → Fct} {o : Oper} {rest : List Oper} (u : Value) (g : Nat) (b : Bool) (t : Tmp) (hg : o.guard = some (g, b)) (ht : (ops[g]?).bind (·.dst) = some t) (hs : t < a0.tmps.size)
    (hG : ∀ v w, G t v w → v = .bool b)
    (h : ∀ (a : Act) (w : World), w0.grownBy w none → (∀ t ∈ o.op.operands.toList.filterMap (fun | .tmp t => some t | _ => none), t < a0.tmps.size → G t (a.tmps[t]?.getD undef) w) → (execOp a.eval o).run P w = .ok (.value u) w)
    (hr : wpFacts P ops a0 w0 L rest (upd G o.dst (fun v _ => v = u))) : wpFacts P ops a0 w0 L (o :: rest) G :=
  wpFacts_stepG _ g b t hg ht hs hG (fun _ _ _ h _ => h) (fun a w hw hl => by rw [h a w hw hl]; exact ⟨gb_refl w none, rfl⟩) hr
/-- A callee that hands back what is known. -/
theorem gUpon_lit {w : World} {f : FuncId} {args : Array Value} {u : Value} (h : Calls P f args w fun e w' => e = .returned u ∧ w.grownBy w' none) : gUpon P w (fun v _ => v = u) (.ok (.enter f args) w) :=
  ⟨gb_refl w none, h.mono fun _ _ h => ⟨u, h.1, h.2, rfl⟩⟩
theorem Lit.up (u : Value) : Fct.Up (fun v _ => v = u) := fun _ _ _ h _ => h
end

end Go.Proofs.Ytccapgcpdehicaa

namespace Go.Proofs.Ytccapgcpdehicaa
open Go.RowKit
attribute [local go_sem ↓] Go.wp_at_zero Go.wp_at_succ

theorem bl_back (P : ByteArray) : (⟨(bl P).toArray⟩ : ByteArray) = P := by
  obtain ⟨⟨l⟩⟩ := P
  rfl
theorem bs_rd {w : World} {own : Nat → Prop} {A : Option Addr} {n c : Nat} {xs : List UInt8} (h : BsAt w own (.slice A n c) xs) : Rd w w.heap.size A (u8s xs) := by
  obtain ⟨A', c', he, _, _, hr⟩ := h.rd
  injection he with h1
  rw [h1]
  exact hr
/-- Names, in order. -/
def LsF (l : List ByteArray) : Fct := fun v w => ∃ A c N B, v = .slice A N.length c ∧ N.Perm l ∧ N.Pairwise leS ∧ B ≤ w.heap.size ∧ Rd w B A (strs N)
theorem LsF.up (l : List ByteArray) : (LsF l).Up := fun _ _ _ hv hgx => by obtain ⟨A, c, N, B, h1, h2, h3, h4, h5⟩ := hv; exact ⟨A, c, N, B, h1, h2, h3, Nat.le_trans h4 hgx.size, h5.grown hgx h4 (by simp)⟩
end Go.Proofs.Ytccapgcpdehicaa

namespace Go.Proofs.Ytccapgcpdehicaa
open Go.RowKit

/-- An act, and where its parts lie. -/
structure AcV where
  kind : Int
  a : ByteArray
  b : ByteArray
  file : Int
  pos : Int
  n : Int
  dA : Option Addr
  dc : Nat
  d : List UInt8
  dir : Int
  tA : Option Addr
  tn : Nat
  tc : Nat
def AcV.cells (x : AcV) : List Value := [.int .i64 x.kind, .string x.a, .string x.b, .int .i64 x.file, .int .i64 x.pos, .int .i64 x.n, .slice x.dA x.d.length x.dc, .int .i64 x.dir, .slice x.tA x.tn x.tc]
def acells (l : List AcV) : List Value := l.flatMap AcV.cells
theorem acells_at (l : List AcV) (i : Nat) (h : i < l.length) (k : Nat) (hk : k < 9) : (acells l)[i * 9 + k]? = l[i].cells[k]? := by
  induction l generalizing i with
  | nil => simp at h
  | cons x l ih =>
    have e : acells (x :: l) = x.cells ++ acells l := rfl
    have hx : x.cells.length = 9 := rfl
    cases i with
    | zero =>
      rw [e, Nat.zero_mul, Nat.zero_add, List.getElem?_append_left (by omega)]
      rfl
    | succ i =>
      rw [e, List.getElem?_append_right (by omega), show (i + 1) * 9 + k - x.cells.length = i * 9 + k by omega, ih i (by simpa using h)]
      rfl
theorem acells_ne {l : List AcV} (h : 0 < l.length) : acells l ≠ [] := by
  cases l with
  | nil => simp at h
  | cons x l => simp [acells, AcV.cells]
/-- No part takes more than the reach. -/
structure AcV.Small (x : AcV) : Prop where
  a : x.a.size ≤ 140737488351232
  b : x.b.size ≤ 140737488351232
  d : x.d.length ≤ 140737488351232
  t : x.tn ≤ 140737488351232
def AcV.wt (x : AcV) : Nat := x.d.length + x.a.size + x.b.size + x.tn
def wsum (l : List AcV) : Nat := (l.map AcV.wt).sum
theorem wsum_step (l : List AcV) (j : Nat) (h : j < l.length) : wsum (l.take (j + 1)) = wsum (l.take j) + l[j].d.length + l[j].a.size + l[j].b.size + l[j].tn := by
  unfold wsum
  rw [List.take_succ_eq_append_getElem h, List.map_append, List.sum_append]
  simp [AcV.wt]
  omega
theorem wsum_le (l : List AcV) (hs : ∀ x ∈ l, x.Small) : wsum l ≤ l.length * 562949953404928 := by
  induction l with
  | nil => simp [wsum]
  | cons x l ih =>
    have h1 := ih fun y hy => hs y (by simp [hy])
    obtain ⟨a, b, c, d⟩ := hs x (by simp)
    have e : wsum (x :: l) = x.wt + wsum l := by simp [wsum]
    rw [e, List.length_cons, Nat.add_mul]
    unfold AcV.wt
    omega
/-- The cells of an act. -/
structure AcAt (w : World) (b o : Nat) (x : AcV) : Prop where
  c0 : w.cell? ⟨b, o, none⟩ = some (.int .i64 x.kind)
  c1 : w.cell? ⟨b, o + 1, none⟩ = some (.string x.a)
  c2 : w.cell? ⟨b, o + 2, none⟩ = some (.string x.b)
  c3 : w.cell? ⟨b, o + 3, none⟩ = some (.int .i64 x.file)
  c4 : w.cell? ⟨b, o + 4, none⟩ = some (.int .i64 x.pos)
  c5 : w.cell? ⟨b, o + 5, none⟩ = some (.int .i64 x.n)
  c6 : w.cell? ⟨b, o + 6, none⟩ = some (.slice x.dA x.d.length x.dc)
  c7 : w.cell? ⟨b, o + 7, none⟩ = some (.int .i64 x.dir)
  c8 : w.cell? ⟨b, o + 8, none⟩ = some (.slice x.tA x.tn x.tc)
theorem Rd.act {w : World} {B : Nat} {A : Option Addr} {l : List AcV} (h : Rd w B A (acells l)) {i : Nat} (hi : i < l.length) : ∃ b o, A = some ⟨b, o, none⟩ ∧ b < B ∧ AcAt w b (o + i * 9) l[i] := by
  obtain ⟨b, o, hA, hb, hc⟩ := h.lay (acells_ne (by omega))
  have hk : ∀ k u, k < 9 → l[i].cells[k]? = some u → w.cell? ⟨b, o + i * 9 + k, none⟩ = some u := fun k u hk hu => by
    rw [Nat.add_assoc]
    exact hc _ _ ((acells_at l i hi k hk).trans hu)
  exact ⟨b, o, hA, hb, hk 0 _ (by omega) rfl, hk 1 _ (by omega) rfl, hk 2 _ (by omega) rfl, hk 3 _ (by omega) rfl, hk 4 _ (by omega) rfl, hk 5 _ (by omega) rfl, hk 6 _ (by omega) rfl, hk 7 _ (by omega) rfl, hk 8 _ (by omega) rfl⟩
theorem AcAt.grown {w w' : World} {b o : Nat} {x : AcV} (h : AcAt w b o x) (hg : w.grownBy w' none) : AcAt w' b o x :=
  ⟨cell_grown h.c0 hg, cell_grown h.c1 hg, cell_grown h.c2 hg, cell_grown h.c3 hg, cell_grown h.c4 hg, cell_grown h.c5 hg, cell_grown h.c6 hg, cell_grown h.c7 hg, cell_grown h.c8 hg⟩

def longB (l : List AcV) : Bool := decide (60 < l.length) || decide (20000 < wsum l)
def LongPost (l : List AcV) (w : World) (e : Ending) (w' : World) : Prop := e = .returned (.bool (longB l)) ∧ w.grownBy w' none
set_option maxHeartbeats 4000000 in
set_option maxRecDepth 100000 in
theorem long_any (A : Option Addr) (c B : Nat) (l : List AcV) (w : World) (h : Rd w B A (acells l)) (hsz : ∀ x ∈ l, x.Small) (hm : l.length ≤ 9223372036854775807) :
    Calls Try.prog 4 #[.slice A l.length c] w (LongPost l w) := by
  have H := hide h
  have HS := hide hsz
  clear h hsz
  go_enter Try.func4, Try.ntmps4
  go_wp2
  go_loopw [3, 4] (fun n i wr => ∃ (s j : Nat), n = .int .i64 (s : Int) ∧ i = .int .i64 (j : Int) ∧ j ≤ l.length ∧ j ≤ 61 ∧ s = wsum (l.take j) ∧ w.grownBy wr none) (fun _ i _ => l.length - (intOf i).toNat)
  case atStart => exact ⟨0, 0, rfl, rfl, Nat.zero_le _, by omega, by simp [wsum], gb_refl w none⟩
  case round =>
    obtain ⟨s, j, rfl, rfl, hj, hj2, hs, hg⟩ := hrel
    have HSE := hide hs
    have HG := hide hg
    have hs9 : s ≤ 61 * 562949953404928 := by
      rw [hs]
      refine Nat.le_trans (wsum_le _ fun x hx => HS.out x (List.mem_of_mem_take hx)) ?_
      rw [List.length_take]
      exact Nat.mul_le_mul_right _ (by omega)
    have HS9 := hide hs9
    clear hs hg hs9
    by_cases hlt : j < l.length
    · by_cases h60 : j ≤ 60
      · have hlt1 : (j : Int) < (l.length : Int) := by omega
        have h601 : (j : Int) ≤ 60 := by omega
        obtain ⟨b, o, rfl, hbB, hac⟩ := H.out.act hlt
        have hac := hac.grown HG.out
        have d1 := hac.c1
        have d2 := hac.c2
        have d6 := hac.c6
        have d8 : wr.cell? ⟨b, o + j * 9 + 7 + 1, none⟩ = some (.slice l[j].tA l[j].tn l[j].tc) := hac.c8
        obtain ⟨k1, k2, k3, k4⟩ := HS.out l[j] (List.getElem_mem hlt)
        have hst := wsum_step l j hlt
        rw [← HSE.out] at hst
        have HST := hide hst
        clear hac hst
        generalize l[j].a = xa at *
        generalize l[j].b = xb at *
        generalize l[j].d.length = xd at *
        generalize l[j].tn = xt at *
        have s9 := HS9.out
        have f1 : IntKind.i64.wrap ((s : Int) + (xd : Int)) = (s : Int) + (xd : Int) := by rw [IntKind.wrap_i64]; omega
        have f2 : IntKind.i64.wrap ((s : Int) + (xd : Int) + (xa.size : Int)) = (s : Int) + (xd : Int) + (xa.size : Int) := by rw [IntKind.wrap_i64]; omega
        have f3 : IntKind.i64.wrap ((s : Int) + (xd : Int) + (xa.size : Int) + (xb.size : Int)) = (s : Int) + (xd : Int) + (xa.size : Int) + (xb.size : Int) := by rw [IntKind.wrap_i64]; omega
        have f4 : IntKind.i64.wrap ((s : Int) + (xd : Int) + (xa.size : Int) + (xb.size : Int) + (xt : Int)) = (s : Int) + (xd : Int) + (xa.size : Int) + (xb.size : Int) + (xt : Int) := by rw [IntKind.wrap_i64]; omega
        clear s9 k1 k2 k3 k4
        go_wp2_with fail
        go_quiet (fail)
        go_wp2_with fail
        go_roundw
        case rel =>
          have hst := HST.out
          refine ⟨s + xd + xa.size + xb.size + xt, j + 1, by go_num, by go_num, by omega, by omega, hst.symm, ?_⟩
          first | exact gb_drewN HG.out _ | exact HG.out
        case measure => simp [intOf]; omega
      · have h601 : ¬ (j : Int) ≤ 60 := by omega
        have hlt1 : (j : Int) < (l.length : Int) := by omega
        have h6 : (60 : Int) < (l.length : Int) := by omega
        have HB := hide (show longB l = true by unfold longB; simp; omega)
        go_wp2_with fail
        go_ret
        exact ⟨by rw [HB.out]; rfl, HG.out⟩
    · have hlt1 : ¬ (j : Int) < (l.length : Int) := by omega
      have hje : j = l.length := by omega
      have hse : s = wsum l := by rw [HSE.out, hje, List.take_length]
      by_cases h6 : (60 : Int) < (l.length : Int)
      · have HB := hide (show longB l = true by unfold longB; simp; omega)
        clear hse hje
        go_wp2_with fail
        go_ret
        exact ⟨by rw [HB.out]; rfl, HG.out⟩
      · by_cases h2 : (20000 : Int) < (s : Int)
        · have HB := hide (show longB l = true by unfold longB; simp; omega)
          clear hse hje
          go_wp2_with fail
          go_ret
          exact ⟨by rw [HB.out]; rfl, HG.out⟩
        · have HB := hide (show longB l = false by unfold longB; simp; omega)
          clear hse hje
          go_wp2_with fail
          go_ret
          exact ⟨by rw [HB.out]; rfl, HG.out⟩
end Go.Proofs.Ytccapgcpdehicaa
