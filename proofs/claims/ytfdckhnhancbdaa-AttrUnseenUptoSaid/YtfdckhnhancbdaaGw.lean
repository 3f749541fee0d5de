/-
  Regions by facts (Gf), for operations that write: facts outlive a relation of worlds that one chooses (ρ), and each operation keeps it.
-/
import Derived.Test.YtfdckhnhancbdaaGk
namespace Go.Proofs.Ytfdckhnhancbdaa
open Go.RowKit

section
variable {ρ : Gr} {P : Program} {ops : Array Oper} {md : Region.Mode} {a0 : Act} {w0 : World}

/-- What an operation does, run in w: its result is so, the world has grown. -/
def rUpon (ρ : Gr) (P : Program) (w : World) (F : Fct) : Result Next → Prop
  | .ok (.value u) w' => ρ.R w w' ∧ F u w'
  | .ok .skip w' => ρ.R w w' ∧ F undef w'
  | .ok (.enter f args) w' => ρ.R w w' ∧ Calls P f args w' (fun e w'' => ∃ v, e = .returned v ∧ ρ.R w' w'' ∧ F v w'')
  | _ => False

/-- A frame and a world of which the facts hold. -/
structure CtxR (ρ : Gr) (ops : Array Oper) (a0 : Act) (w0 : World) (G : Nat → Fct) (a : Act) (w : World) : Prop where
  grown : ρ.R w0 w
  defers : a.defers = a0.defers
  size : a.tmps.size = a0.tmps.size
  up : ∀ t, KUp ρ (G t)
  fact : ∀ t, t < a0.tmps.size → G t (a.eval (.tmp t)) w
  rest : ∀ t, (∀ (i : Nat) (o : Oper), ops[i]? = some o → o.dst ≠ some t) → a.tmps[t]? = a0.tmps[t]?

theorem CtxR.start (a : Act) (w : World) : CtxR ρ ops a w (fun t v _ => v = a.eval (.tmp t)) a w :=
  ⟨ρ.refl w, rfl, rfl, fun _ _ _ _ h _ => h, fun _ _ => rfl, fun _ _ => rfl⟩

theorem CtxR.put {G : Nat → Fct} {a : Act} {w w' : World} {i : Nat} {o : Oper} {F : Fct} {v : Value} (h : CtxR ρ ops a0 w0 G a w) (ho : ops[i]? = some o) (hg : ρ.R w w') (hF : KUp ρ F) (hv : F v w') :
    CtxR ρ ops a0 w0 (upd G o.dst F) (a.put o.dst v) w' := by
  refine ⟨ρ.trans h.grown hg, ?_, ?_, ?_, ?_, ?_⟩
  · cases o.dst <;> exact h.defers
  · cases o.dst <;> simp [Act.put, h.size]
  · intro t
    by_cases e : o.dst = some t
    · rw [e, upd_same]; exact hF
    · rw [upd_other _ _ _ _ e]; exact h.up t
  · intro t ht
    by_cases e : o.dst = some t
    · rw [e, upd_same, eval_put_same (by rw [h.size]; exact ht)]
      exact hv
    · rw [upd_other _ _ _ _ e, Act.eval_put (fun d hd hx => e (by rw [hd]; injection hx with hx; rw [hx]))]
      exact h.up t _ _ _ (h.fact t ht) hg
  · intro t ht
    rw [← h.rest t ht]
    have := ht i o ho
    cases hd : o.dst with
    | none => rfl
    | some d =>
      have hne : d ≠ t := fun e => this (by rw [hd, e])
      simp [Act.put, Array.getElem?_setIfInBounds_ne hne]

/-- Operation o does F, whatever the frame and the world, if the facts hold of what it looks at. -/
def DoesR (ρ : Gr) (P : Program) (ops : Array Oper) (a0 : Act) (w0 : World) (G : Nat → Fct) (o : Oper) (F : Fct) : Prop :=
  KUp ρ F ∧ ∀ (a : Act) (w : World), a.tmps.size = a0.tmps.size → ρ.R w0 w → (∀ t ∈ o.looksAt ops, t < a0.tmps.size → G t (a.eval (.tmp t)) w) →
    (Region.wanted o (yielded ops a.tmps) = true ∧ rUpon ρ P w F ((execOp a.eval o).run P w)) ∨ (Region.wanted o (yielded ops a.tmps) = false ∧ F undef w)

theorem DoesR.same {G G' : Nat → Fct} {o : Oper} {F : Fct} (h : DoesR ρ P ops a0 w0 G o F) (he : ∀ t ∈ o.looksAt ops, G' t = G t) : DoesR ρ P ops a0 w0 G' o F :=
  ⟨h.1, fun a w hs hg hl => h.2 a w hs hg fun t ht hlt => by have := hl t ht hlt; rwa [he t ht] at this⟩

def rOp (ρ : Gr) (P : Program) (ops : Array Oper) (a0 : Act) (w0 : World) (i : Nat) (K : (Nat → Fct) → Prop) (G : Nat → Fct) : Prop :=
  match ops[i]? with
  | none => K G
  | some o => ∃ F, DoesR ρ P ops a0 w0 G o F ∧ K (upd G o.dst F)

theorem rOp_mono {i : Nat} {K K' : (Nat → Fct) → Prop} {G : Nat → Fct} (h : ∀ G, K G → K' G) (hh : rOp ρ P ops a0 w0 i K G) : rOp ρ P ops a0 w0 i K' G := by
  unfold rOp at *
  split
  · exact h _ (by simpa [*] using hh)
  · rename_i o ho
    simp only [ho] at hh
    obtain ⟨F, h1, h2⟩ := hh
    exact ⟨F, h1, h _ h2⟩

theorem DoesR.rOp {i : Nat} {o : Oper} {F : Fct} {G : Nat → Fct} (hi : ops[i]? = some o) (h : DoesR ρ P ops a0 w0 G o F) {K : (Nat → Fct) → Prop} (hK : K (upd G o.dst F)) : rOp ρ P ops a0 w0 i K G := by
  unfold Go.Proofs.Ytfdckhnhancbdaa.rOp
  simp only [hi]
  exact ⟨F, h, hK⟩

theorem rOp_put {j : Nat} {oi oj : Oper} {F : Fct} {G : Nat → Fct} (hj : ops[j]? = some oj) (hap : oi.apart ops oj = true) {K : (Nat → Fct) → Prop}
    (hy : DoesR ρ P ops a0 w0 G oi F) (h : rOp ρ P ops a0 w0 j K (upd G oi.dst F)) : rOp ρ P ops a0 w0 j (fun G' => DoesR ρ P ops a0 w0 G' oi F ∧ K (upd G' oi.dst F)) G := by
  obtain ⟨h1, h2, h3⟩ := Oper.apart_spec hap
  unfold Go.Proofs.Ytfdckhnhancbdaa.rOp at *
  simp only [hj] at *
  obtain ⟨Fj, k1, k2⟩ := h
  refine ⟨Fj, k1.same fun t ht => (upd_other _ _ _ _ fun e => h1 t e ht).symm, hy.same fun t ht => upd_other _ _ _ _ fun e => h3 t e ht, ?_⟩
  rw [← upd_comm G oi.dst oj.dst F Fj h2]
  exact k2

theorem wpOp_of_rOp {i : Nat} {K : (Nat → Fct) → Prop} {K' : Act → World → Prop} {Q' : Exit → Act → World → Prop} {G : Nat → Fct} {a : Act} {w : World} (hc : CtxR ρ ops a0 w0 G a w)
    (h : ∀ G' a' w', CtxR ρ ops a0 w0 G' a' w' → K G' → K' a' w') (hh : rOp ρ P ops a0 w0 i K G) : wpOp P ops Q' i K' a w := by
  unfold Go.Proofs.Ytfdckhnhancbdaa.rOp at hh
  unfold wpOp
  split
  · rename_i ho; simp only [ho] at hh; exact h _ _ _ hc hh
  · rename_i o ho
    simp only [ho] at hh
    obtain ⟨F, ⟨hup, hdo⟩, hK⟩ := hh
    rcases hdo a w hc.size hc.grown (fun t _ ht => hc.fact t ht) with ⟨hw, hr⟩ | ⟨hw, hr⟩
    · simp only [hw, if_true]
      refine .inl ?_
      unfold Oper.wp
      generalize (execOp a.eval o).run P w = r at *
      cases r with
      | ok n w' =>
        cases n <;> simp only [rUpon] at hr <;> simp only [Oper.upon]
        case value u => exact h _ _ _ (hc.put ho hr.1 hup hr.2) hK
        case skip => exact h _ _ _ (hc.put ho hr.1 hup hr.2) hK
        case enter f args =>
          refine hr.2.mono fun e w'' he => ?_
          obtain ⟨v, rfl, hg, hv⟩ := he
          exact h _ _ _ (hc.put ho (ρ.trans hr.1 hg) hup hv) hK
      | halt x w' => simp only [rUpon] at hr
    · simp only [hw, Bool.false_eq_true, if_false]
      exact h _ _ _ (hc.put ho (ρ.refl w) hup hr) hK

/-- Whatever order is picked of the first n. -/
def wpAnyR (ρ : Gr) (P : Program) (md : Region.Mode) (ops : Array Oper) (a0 : Act) (w0 : World) (n : Nat) (L : Array Bool → (Nat → Fct) → Prop) : Nat → Array Bool → (Nat → Fct) → Prop
  | 0, listed, G => L listed G
  | f + 1, listed, G => Region.ready md ops listed ≠ [] ∧ ∀ i ∈ Region.ready md ops listed, i < n ∧ rOp ρ P ops a0 w0 i (wpAnyR ρ P md ops a0 w0 n L f (listed.setIfInBounds i true)) G

theorem wpAny_of_rHead {n g : Nat} {L : Array Bool → (Nat → Fct) → Prop} {Q' : Exit → Act → World → Prop} (hL : ∀ listed G a w, CtxR ρ ops a0 w0 G a w → L listed G → wpAny P md ops Q' g listed a w) :
    ∀ (f : Nat) (listed : Array Bool) (G : Nat → Fct) (a : Act) (w : World), CtxR ρ ops a0 w0 G a w → wpAnyR ρ P md ops a0 w0 n L f listed G → wpAny P md ops Q' (f + g) listed a w
  | 0, listed, G, a, w, hc, h => by rw [Nat.zero_add]; exact hL _ _ _ _ hc h
  | f + 1, listed, G, a, w, hc, h => by
    rw [show f + 1 + g = (f + g) + 1 by omega]
    exact ⟨fun h0 => absurd h0 h.1, fun i hi => wpOp_of_rOp hc (fun G' a' w' hc' h' => wpAny_of_rHead hL f _ G' a' w' hc' h') (h.2 i hi).2⟩

theorem wpAnyR_first {n i : Nat} {oi : Oper} {F : Fct} {L : Array Bool → (Nat → Fct) → Prop} (hi : ops[i]? = some oi)
    (hs : Region.sinkB md ops n = true) (hc : Region.chainB md ops n = true) (hn : n < ops.size) (hin : i < n)
    (hdone : ∀ listed G, L listed G → ∀ j ∈ Region.ready md ops listed, n ≤ j) :
    ∀ (f : Nat) (listed : Array Bool) (G : Nat → Fct), HeadInv md ops n listed →
      (∀ j oj, ops[j]? = some oj → j ≠ i → listed.getD j true = false → (∀ e ∈ oj.after, Region.binds md e = true → e.on ≠ i) → oi.apart ops oj = true) →
      i ∈ Region.ready md ops listed → DoesR ρ P ops a0 w0 G oi F →
      wpAnyR ρ P md ops a0 w0 n L f (listed.setIfInBounds i true) (upd G oi.dst F) → wpAnyR ρ P md ops a0 w0 n L (f + 1) listed G := by
  intro f
  induction f with
  | zero =>
    intro listed G inv _ hr hy H
    have hun := (mem_ready.1 hr).1
    refine ⟨fun h => (by rw [h] at hr; cases hr), fun j hj => ?_⟩
    have hjn : j < n := by
      rcases Nat.lt_or_ge j n with h | h
      · exact h
      · exact absurd hj (tail_waits hs hc hn inv _ i rfl hin hun j h)
    refine ⟨hjn, ?_⟩
    by_cases hji : j = i
    · subst hji; exact hy.rOp hi H
    · have := hdone _ _ H j (ready_mono hj hji)
      omega
  | succ f ih =>
    intro listed G inv hfree hr hy H
    have hun := (mem_ready.1 hr).1
    refine ⟨fun h => (by rw [h] at hr; cases hr), fun j hj => ?_⟩
    have hjn : j < n := by
      rcases Nat.lt_or_ge j n with h | h
      · exact h
      · exact absurd hj (tail_waits hs hc hn inv _ i rfl hin hun j h)
    refine ⟨hjn, ?_⟩
    by_cases hji : j = i
    · subst hji; exact hy.rOp hi H
    · have h1 := (H.2 j (ready_mono hj hji)).2
      obtain ⟨hjun, oj, hoj, hall⟩ := mem_ready.1 hj
      have hnot : ∀ e ∈ oj.after, Region.binds md e = true → e.on ≠ i := fun e he hb heq => by
        have h1 := hall e he hb
        rw [heq, getD_both hun] at h1
        cases h1
      have h2 := rOp_put hoj (hfree j oj hoj hji hjun hnot) hy h1
      have hfree' : ∀ k ok, ops[k]? = some ok → k ≠ i → (listed.setIfInBounds j true).getD k true = false →
          (∀ e ∈ ok.after, Region.binds md e = true → e.on ≠ i) → oi.apart ops ok = true := fun k ok hk hki hun hno => by
        refine hfree k ok hk hki ?_ hno
        by_cases hjk : j = k
        · subst hjk; exact hjun
        · rw [getD_set_ne true hjk] at hun; exact hun
      refine rOp_mono (fun G' h3 => ih (listed.setIfInBounds j true) G' (inv.set hj hjn) hfree' (ready_mono hr (Ne.symm hji)) h3.1 ?_) h2
      rw [Array.setIfInBounds_comm _ _ hji]
      exact h3.2

/-- The walk in the order of the text: of each operation what it does. -/
def rFacts (ρ : Gr) (P : Program) (ops : Array Oper) (a0 : Act) (w0 : World) (L : (Nat → Fct) → Prop) : List Oper → (Nat → Fct) → Prop
  | [], G => L G
  | o :: rest, G => ∃ F, DoesR ρ P ops a0 w0 G o F ∧ rFacts ρ P ops a0 w0 L rest (upd G o.dst F)

theorem wpAnyR_lex {n g : Nat} {Lq : (Nat → Fct) → Prop} (hsel : Region.noSelect ops = true) (hs : Region.sinkB md ops n = true) (hc : Region.chainB md ops n = true) (hn : n < ops.size) :
    ∀ (l : List Oper) (k : Nat) (listed : Array Bool) (G : Nat → Fct), (∀ j, j < l.length → l[j]? = ops[k + j]?) → k + l.length = n → HeadInv md ops n listed →
    Region.lexHead md ops g l.length k listed = true → rFacts ρ P ops a0 w0 Lq l G →
    wpAnyR ρ P md ops a0 w0 n (fun listed' G' => Region.seqB md ops g n listed' = true ∧ Lq G') l.length listed G
  | [], k, listed, G, _, hk, _, hB, h => by
    have : k = n := by simpa using hk
    subst this
    exact ⟨by simpa [Region.lexHead] using hB, h⟩
  | o :: l, k, listed, G, hl, hk, inv, hB, h => by
    have h0 : ops[k]? = some o := by simpa using (hl 0 (by simp)).symm
    simp only [List.length_cons, Region.lexHead, Bool.and_eq_true] at hB
    obtain ⟨⟨hr, hf⟩, hB'⟩ := hB
    have hkn : k < n := by simp only [List.length_cons] at hk; omega
    have hr' : k ∈ Region.ready md ops listed := by simpa using hr
    obtain ⟨F, hy, hK⟩ := h
    exact wpAnyR_first h0 hs hc hn hkn (fun listed' G' hL => seqB_ready hL.1) l.length listed G inv (Region.free_spec h0 hf) hr' hy
      (wpAnyR_lex hsel hs hc hn l (k + 1) _ _ (fun j hj => by have := hl (j + 1) (by simp; omega); simpa [Nat.add_assoc, Nat.add_comm 1 j] using this) (by simp only [List.length_cons] at hk; omega) (inv.set hr' hkn) hB' hK)

/-- A region, its first n operations by facts, the others as they stand. -/
theorem wp_region_rfacts (ρ : Gr) {id : Nat} {Q : Exit → Act → World → Prop} {a : Act} {w : World} {l : List Oper} (n : Nat) (hm : P.follows .mixedOrders = true) (hB : Region.lexTailB .any l.toArray n = true)
    (h : rFacts ρ P l.toArray a w.drew (fun G => ∀ a' w', CtxR ρ l.toArray a w.drew G a' w' → wpList P l.toArray Q (l.drop n) a' w') (l.take n) (fun t v _ => v = a.eval (.tmp t))) : (Code.region id l.toArray true).wp P Q a w := by
  simp only [Region.lexTailB, Bool.and_eq_true, decide_eq_true_eq] at hB
  obtain ⟨⟨⟨⟨hsel, hn⟩, hs⟩, hc⟩, hlex⟩ := hB
  have hn' : n < l.length := by simpa using hn
  have htl : (l.take n).length = n := by simp; omega
  have hdl : (l.drop n).length = l.toArray.size - n := by simp
  have inv0 : HeadInv .any l.toArray n (Array.replicate l.toArray.size false) :=
    ⟨by simp, fun j oj _ hl => (by rw [getD_replicate_false] at hl; cases hl), fun t _ ht => getD_in (by simpa using ht) (getD_replicate_false _ _)⟩
  have H := wpAnyR_lex (md := .any) (g := l.toArray.size - n) hsel hs hc hn (l.take n) 0 _ _ (fun j hj => by
    have hj' : j < n := by rw [htl] at hj; exact hj
    simp [hj']) (by simpa using htl) inv0 (by rw [htl]; exact hlex) h
  refine wp_region_any hm ?_
  have := wpAny_of_rHead (Q' := Q) (g := l.toArray.size - n) (fun listed G a' w' hc' hL => by
    have := wpAny_of_seq (md := .any) (Q' := Q) (l.drop n) n listed a' w' (fun j => by simp [List.getElem?_drop]) (by rw [hdl]; exact hL.1) (hL.2 a' w' hc')
    rwa [hdl] at this) _ _ _ _ _ (CtxR.start a w.drew) H
  rw [htl, show n + (l.toArray.size - n) = l.toArray.size by omega] at this
  exact this

/-- The frame behind it: the old one, the results put. -/
theorem CtxR.frame {G : Nat → Fct} {a : Act} {w : World} (h : CtxR ρ ops a0 w0 G a w) (ds : List Tmp) (hB : ops.toList.all (fun o => match o.dst with | some d => ds.contains d | none => true) = true) :
    a = ds.foldl (fun b d => b.put (some d) (a.eval (.tmp d))) a0 :=
  Ctx.frame (G := fun _ _ _ => True) (w0 := w) (w := w) ⟨gb_refl w none, h.defers, h.size, fun _ _ _ _ _ _ => trivial, fun _ _ => trivial, h.rest⟩ ds hB

/-- The same, its great parts behind letters. -/
theorem wp_region_rfacts' (ρ : Gr) {id : Nat} {Q : Exit → Act → World → Prop} {a : Act} {w : World} {l : List Oper} (n : Nat) (hm : P.follows .mixedOrders = true) (hB : Region.lexTailB .any l.toArray n = true)
    (h : ∀ (A : Act) (O : Array Oper) (W : World) (L : (Nat → Fct) → Prop), Hid (A = a) → Hid (O = l.toArray) → Hid (W = w.drew) → Hid (∀ G, (∀ a' w', CtxR ρ O A W G a' w' → wpList P l.toArray Q (l.drop n) a' w') → L G) →
      rFacts ρ P O A W L (l.take n) (fun t v _ => v = A.eval (.tmp t))) : (Code.region id l.toArray true).wp P Q a w :=
  wp_region_rfacts ρ n hm hB (h a l.toArray w.drew _ (hide rfl) (hide rfl) (hide rfl) (hide fun _ h => h))

/-- One operation that has no guard. -/
theorem rFacts_step {L : (Nat → Fct) → Prop} {G : Nat → Fct} {o : Oper} {rest : List Oper} (F : Fct) (hg : o.guard = none) (hup : KUp ρ F)
    (h : ∀ (a : Act) (w : World), ρ.R w0 w → (∀ t ∈ o.op.operands.toList.filterMap (fun | .tmp t => some t | _ => none), t < a0.tmps.size → G t (a.tmps[t]?.getD undef) w) → rUpon ρ P w F ((execOp a.eval o).run P w))
    (hr : rFacts ρ P ops a0 w0 L rest (upd G o.dst F)) : rFacts ρ P ops a0 w0 L (o :: rest) G :=
  ⟨F, ⟨hup, fun a w _ hw hl => .inl ⟨by simp [Region.wanted, hg], h a w hw fun t ht hs => by
    have h1 := hl t (by unfold Oper.looksAt; exact List.mem_append_left _ ht) hs
    simpa only [Act.eval, Array.getD_eq_getD_getElem?] using h1⟩⟩, hr⟩
/-- One operation without a guard whose result is known. -/
theorem rFacts_lit {L : (Nat → Fct) → Prop} {G : Nat → Fct} {o : Oper} {rest : List Oper} (u : Value) (hg : o.guard = none)
    (h : ∀ (a : Act) (w : World), ρ.R w0 w → (∀ t ∈ o.op.operands.toList.filterMap (fun | .tmp t => some t | _ => none), t < a0.tmps.size → G t (a.tmps[t]?.getD undef) w) → (execOp a.eval o).run P w = .ok (.value u) w)
    (hr : rFacts ρ P ops a0 w0 L rest (upd G o.dst (fun v _ => v = u))) : rFacts ρ P ops a0 w0 L (o :: rest) G :=
  rFacts_step _ hg (fun _ _ _ h _ => h) (fun a w hw hl => by rw [h a w hw hl]; exact ⟨ρ.refl w, rfl⟩) hr
end

section
variable {ρ : Gr} {P : Program} {ops : Array Oper} {a0 : Act} {w0 : World}
/-- One operation whose guard lets it be carried out. -/
theorem rFacts_stepG {L : (Nat → Fct) → Prop} {G : Nat → Fct} {o : Oper} {rest : List Oper} (F : Fct) (g : Nat) (b : Bool) (t : Tmp) (hg : o.guard = some (g, b)) (ht : (ops[g]?).bind (·.dst) = some t) (hs : t < a0.tmps.size)
    (hG : ∀ v w, G t v w → v = .bool b) (hup : KUp ρ F)
    (h : ∀ (a : Act) (w : World), ρ.R w0 w → (∀ t ∈ o.op.operands.toList.filterMap (fun | .tmp t => some t | _ => none), t < a0.tmps.size → G t (a.tmps[t]?.getD undef) w) → rUpon ρ P w F ((execOp a.eval o).run P w))
    (hr : rFacts ρ P ops a0 w0 L rest (upd G o.dst F)) : rFacts ρ P ops a0 w0 L (o :: rest) G :=
  ⟨F, ⟨hup, fun a w hsz hw hl => .inl ⟨by
    have hm : t ∈ o.looksAt ops := by unfold Oper.looksAt; rw [hg]; simp only [ht]; simp
    have h1 := hG _ _ (hl t hm hs)
    have h2 : a.tmps[t]? = some (.bool b) := by
      simp only [Act.eval, Array.getD_eq_getD_getElem?] at h1
      rw [← hsz] at hs
      rw [Array.getElem?_eq_getElem hs] at h1 ⊢
      simpa using h1
    simp [Region.wanted, hg, yielded, ht, h2], h a w hw fun t ht hs => by
    have h1 := hl t (by unfold Oper.looksAt; exact List.mem_append_left _ ht) hs
    simpa only [Act.eval, Array.getD_eq_getD_getElem?] using h1⟩⟩, hr⟩
/-- .. and whose result is known. -/
theorem rFacts_litG {L : (Nat → Fct) → Prop} {G : Nat → Fct} {o : Oper} {rest : List Oper} (u : Value) (g : Nat) (b : Bool) (t : Tmp) (hg : o.guard = some (g, b)) (ht : (ops[g]?).bind (·.dst) = some t) (hs : t < a0.tmps.size)
    (hG : ∀ v w, G t v w → v = .bool b)
    (h : ∀ (a : Act) (w : World), ρ.R w0 w → (∀ t ∈ o.op.operands.toList.filterMap (fun | .tmp t => some t | _ => none), t < a0.tmps.size → G t (a.tmps[t]?.getD undef) w) → (execOp a.eval o).run P w = .ok (.value u) w)
    (hr : rFacts ρ P ops a0 w0 L rest (upd G o.dst (fun v _ => v = u))) : rFacts ρ P ops a0 w0 L (o :: rest) G :=
  rFacts_stepG _ g b t hg ht hs hG (fun _ _ _ h _ => h) (fun a w hw hl => by rw [h a w hw hl]; exact ⟨ρ.refl w, rfl⟩) hr
/-- A callee that hands back what is known. -/
theorem rUpon_lit {w : World} {f : FuncId} {args : Array Value} {u : Value} (h : Calls P f args w fun e w' => e = .returned u ∧ w.grownBy w' none) : rUpon ρ P w (fun v _ => v = u) (.ok (.enter f args) w) :=
  ⟨ρ.refl w, h.mono fun _ _ h => ⟨u, h.1, ρ.grown h.2, rfl⟩⟩
theorem rUpon_same {w : World} {f : FuncId} {args : Array Value} {u : Value} (h : Calls P f args w fun e w' => e = .returned u ∧ w = w') : rUpon ρ P w (fun v _ => v = u) (.ok (.enter f args) w) :=
  ⟨ρ.refl w, h.mono fun _ _ h => ⟨u, h.1, h.2 ▸ ρ.refl w, rfl⟩⟩
theorem LitR.up (u : Value) : KUp ρ (fun v _ => v = u) := fun _ _ _ h _ => h
end

/-- From w to w' only the blocks f were written (and new ones made). -/
structure Wro (w w' : World) (f : List Nat) : Prop where
  os : w'.os = w.os
  tape : w'.tape = w.tape
  output : w'.output = w.output
  size : w.heap.size ≤ w'.heap.size
  block : ∀ k, k < w.heap.size → k ∉ f → w'.heap[k]? = w.heap[k]?
theorem Wro.refl_ (w : World) (f : List Nat) : Wro w w f := ⟨rfl, rfl, rfl, Nat.le_refl _, fun _ _ _ => rfl⟩
theorem Wro.of_gb {w w' : World} {row : Option Nat} {f : List Nat} (h : w.grownBy w' row) (hf : ∀ g, row = some g → g ∈ f ∨ w.heap.size ≤ g) : Wro w w' f :=
  ⟨h.os, h.tape, h.output, h.size, fun k hk hn => h.block k hk (fun e => by
    rcases hf k e.symm with h | h
    · exact hn h
    · omega)⟩
theorem Wro.of_none {w w' : World} (h : w.grownBy w' none) (f : List Nat) : Wro w w' f := Wro.of_gb h (by simp)
theorem Wro.trans {a b c : World} {f g : List Nat} (h : Wro a b f) (k : Wro b c g) (hg : ∀ x ∈ g, x ∈ f ∨ a.heap.size ≤ x) : Wro a c f :=
  ⟨k.os.trans h.os, k.tape.trans h.tape, k.output.trans h.output, Nat.le_trans h.size k.size, fun x hx hn => by
    rw [k.block x (Nat.lt_of_lt_of_le hx h.size) (fun hm => by
      rcases hg x hm with h1 | h1
      · exact hn h1
      · omega)]
    exact h.block x hx hn⟩
theorem Wro.mono {a b : World} {f g : List Nat} (h : Wro a b f) (hg : ∀ x ∈ f, x ∈ g) : Wro a b g := ⟨h.os, h.tape, h.output, h.size, fun k hk hn => h.block k hk fun hm => hn (hg k hm)⟩
theorem Wro.gb {w0 w w' : World} {f : List Nat} (h : Wro w w' f) (hg : w0.grownBy w none) (hf : ∀ x ∈ f, w0.heap.size ≤ x) : w0.grownBy w' none :=
  ⟨h.os.trans hg.os, h.tape.trans hg.tape, h.output.trans hg.output, Nat.le_trans hg.size h.size, fun x hx _ => by
    rw [h.block x (Nat.lt_of_lt_of_le hx hg.size) (fun hm => by have := hf x hm; omega)]
    exact hg.block x hx (by simp)⟩
theorem Wro.row {w w' : World} {g : Nat} {f : List Nat} (h : Wro w w' f) (hf : ∀ x ∈ f, x = g) : w.grownBy w' (some g) :=
  ⟨h.os, h.tape, h.output, h.size, fun k hk hn => h.block k hk fun hm => hn (by rw [hf k hm])⟩
abbrev grW (f : List Nat) : Gr where
  R a b := Wro a b f
  refl w := Wro.refl_ w f
  trans h k := h.trans k fun _ hx => .inl hx
  grown h := Wro.of_none h f
/-- The same, and beside them a map in block mb that holds o0, or o1 from some operation on. -/
structure WroM (mb : Nat) (o0 o1 : Obj) (f : List Nat) (a b : World) : Prop where
  wro : Wro a b (mb :: f)
  t : a.heap[mb]? = some o0 ∨ a.heap[mb]? = some o1 → b.heap[mb]? = some o0 ∨ b.heap[mb]? = some o1
  s : a.heap[mb]? = some o1 → b.heap[mb]? = some o1
abbrev grM (mb : Nat) (o0 o1 : Obj) (f : List Nat) : Gr where
  R := WroM mb o0 o1 f
  refl w := ⟨Wro.refl_ w _, id, id⟩
  trans h k := ⟨h.wro.trans k.wro fun _ hx => .inl hx, fun x => k.t (h.t x), fun x => k.s (h.s x)⟩
  grown h := ⟨Wro.of_none h _, fun x => by
      rcases x with x | x
      · exact .inl ((h.block mb (blk_lt x) (by simp)).trans x)
      · exact .inr ((h.block mb (blk_lt x) (by simp)).trans x), fun x => (h.block mb (blk_lt x) (by simp)).trans x⟩
/-- A row that is known, which nobody writes. -/
def RowR (base k : Nat) (cs : Array Value) (ty : TypeId) : Fct := RowF base k cs ty
theorem RowR.up {ρ : Gr} {f : List Nat} (hρ : ∀ a b, ρ.R a b → Wro a b f) (base k : Nat) (cs : Array Value) (ty : TypeId) (hf : ∀ x ∈ f, x < base) : KUp ρ (RowR base k cs ty) := by
  rintro v w w' ⟨b, h1, h2, h3⟩ hg
  exact ⟨b, h1, ((hρ _ _ hg).block b (blk_lt h2) (fun hm => by have := hf b hm; omega)).trans h2, h3⟩
theorem RowR.new {ρ : Gr} {P : Program} {w : World} {base k : Nat} (cs : Array Value) (ty : TypeId) (hb : base ≤ w.heap.size) : rUpon ρ P w (RowR base k cs ty) (.ok (.value (.slice (some ⟨w.heap.size, 0, none⟩) k k)) (w.alloc (.cells cs ty))) :=
  ⟨ρ.grown (gb_alloc (gb_refl w none) _), _, rfl, heap_alloc_new w _, hb⟩
end Go.Proofs.Ytfdckhnhancbdaa
