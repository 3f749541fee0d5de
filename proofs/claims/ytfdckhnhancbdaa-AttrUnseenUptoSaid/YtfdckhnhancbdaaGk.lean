/-
  Regions by facts (Gf), where one operation writes a box that is made in the region (its pointer's slot is p): that store turns the fact of slot p, and the others outlive what it does.
-/
import Derived.Test.YtfdckhnhancbdaaGf
namespace Go.Proofs.Ytfdckhnhancbdaa
open Go.RowKit

/-- A relation of worlds that facts outlive. -/
structure Gr where
  R : World → World → Prop
  refl : ∀ w, R w w
  trans : ∀ {a b c}, R a b → R b c → R a c
  grown : ∀ {a b : World}, a.grownBy b none → R a b
/-- It does not take a fact back. -/
def KUp (ρ : Gr) (F : Fct) : Prop := ∀ v w w', F v w → ρ.R w w' → F v w'
theorem KUp.up {ρ : Gr} {F : Fct} (h : KUp ρ F) : F.Up := fun v w w' hv hg => h v w w' hv (ρ.grown hg)
theorem KLit.up {ρ : Gr} (u : Value) : KUp ρ (fun v _ => v = u) := fun _ _ _ h _ => h
/-- The slot whose fact an operation turns. -/
def Oper.eff (p : Tmp) (o : Oper) : Tmp := o.dst.getD p
/-- Operations that may change places turn facts that the other one does not ask for. -/
def effB (p : Tmp) (ops : Array Oper) : Bool := (List.range ops.size).all fun i => (List.range ops.size).all fun j =>
  match ops[i]?, ops[j]? with
  | some x, some y => (i == j) || !(x.apart ops y) || (!(y.looksAt ops).contains (Oper.eff p x) && !(Oper.eff p x == Oper.eff p y) && !(x.looksAt ops).contains (Oper.eff p y))
  | _, _ => true
structure Ap (p : Tmp) (ops : Array Oper) (x y : Oper) : Prop where
  l : ∀ t ∈ y.looksAt ops, t ≠ Oper.eff p x
  d : Oper.eff p x ≠ Oper.eff p y
  r : ∀ t ∈ x.looksAt ops, t ≠ Oper.eff p y
theorem effB_spec {p : Tmp} {ops : Array Oper} (h : effB p ops = true) {i j : Nat} {x y : Oper} (hi : ops[i]? = some x) (hj : ops[j]? = some y) (hne : i ≠ j) (ha : x.apart ops y = true) : Ap p ops x y := by
  have li : i < ops.size := (Array.getElem?_eq_some_iff.1 hi).1
  have lj : j < ops.size := (Array.getElem?_eq_some_iff.1 hj).1
  have h1 := List.all_eq_true.1 (List.all_eq_true.1 h i (List.mem_range.2 li)) j (List.mem_range.2 lj)
  simp only [hi, hj, ha, Bool.not_true, Bool.or_false, Bool.or_eq_true, Bool.and_eq_true, Bool.not_eq_true', beq_eq_false_iff_ne, beq_iff_eq] at h1
  rcases h1 with h1 | ⟨⟨h1, h2⟩, h3⟩
  · exact absurd h1 hne
  · have no : ∀ {l : List Tmp} {t u : Tmp}, l.contains u = false → t ∈ l → t ≠ u := fun hf ht e => by
      rw [← e, List.contains_iff_mem.2 ht] at hf
      cases hf
    exact ⟨fun _ ht => no h1 ht, h2, fun _ ht => no h3 ht⟩
/-- The facts, that of slot d turned. -/
def updK (G : Nat → Fct) (d : Tmp) (F : Fct) : Nat → Fct := fun t => bif Nat.beq t d then F else G t
theorem updK_same (G : Nat → Fct) (d : Tmp) (F : Fct) : updK G d F d = F := by simp [updK]
theorem updK_other (G : Nat → Fct) (d : Tmp) (F : Fct) (t : Nat) (h : t ≠ d) : updK G d F t = G t := by
  have : Nat.beq t d = false := by
    cases e : Nat.beq t d
    · rfl
    · exact absurd (Nat.eq_of_beq_eq_true e) h
  simp [updK, this]
theorem updK_comm (G : Nat → Fct) (x y : Tmp) (F K : Fct) (h : x ≠ y) : updK (updK G x F) y K = updK (updK G y K) x F := by
  funext t
  by_cases hx : t = x
  · subst hx
    rw [updK_other _ y K t h, updK_same, updK_same]
  · rw [updK_other _ x F t hx]
    by_cases hy : t = y
    · subst hy
      rw [updK_same, updK_same]
    · rw [updK_other _ y K t hy, updK_other _ y K t hy, updK_other _ x F t hx]

section
variable {ρ : Gr} {P : Program} {p : Tmp} {ops : Array Oper} {md : Region.Mode} {a0 : Act} {w0 : World}

/-- What a store does. -/
def kStore (ρ : Gr) (w : World) (K : World → Prop) : Result Next → Prop
  | .ok (.value _) w' => ρ.R w w' ∧ K w'
  | .ok .skip w' => ρ.R w w' ∧ K w'
  | _ => False

/-- A frame and a world of which the facts hold. -/
structure CtxK (ρ : Gr) (p : Tmp) (ops : Array Oper) (a0 : Act) (w0 : World) (G : Nat → Fct) (a : Act) (w : World) : Prop where
  grown : ρ.R w0 w
  defers : a.defers = a0.defers
  size : a.tmps.size = a0.tmps.size
  up : ∀ t, t ≠ p → KUp ρ (G t)
  upp : (G p).Up
  fact : ∀ t, t < a0.tmps.size → G t (a.eval (.tmp t)) w
  rest : ∀ t, (∀ (i : Nat) (o : Oper), ops[i]? = some o → o.dst ≠ some t) → a.tmps[t]? = a0.tmps[t]?

theorem CtxK.start (a : Act) (w : World) : CtxK ρ p ops a w (fun t v _ => v = a.eval (.tmp t)) a w :=
  ⟨ρ.refl w, rfl, rfl, fun _ _ _ _ _ h _ => h, fun _ _ _ h _ => h, fun _ _ => rfl, fun _ _ => rfl⟩
theorem CtxK.anyUp {G : Nat → Fct} {a : Act} {w : World} (h : CtxK ρ p ops a0 w0 G a w) (t : Nat) : (G t).Up := by
  by_cases e : t = p
  · rw [e]; exact h.upp
  · exact (h.up t e).up

/-- How a fact must last. -/
def Lasts (ρ : Gr) (p d : Tmp) (F : Fct) : Prop := F.Up ∧ (d ≠ p → KUp ρ F)

theorem CtxK.put {G : Nat → Fct} {a : Act} {w w' : World} {i : Nat} {o : Oper} {F : Fct} {v : Value} {d : Tmp} (h : CtxK ρ p ops a0 w0 G a w) (ho : ops[i]? = some o) (hd : o.dst = some d) (hg : w.grownBy w' none) (hF : Lasts ρ p (Oper.eff p o) F) (hv : F v w') :
    CtxK ρ p ops a0 w0 (updK G (Oper.eff p o) F) (a.put o.dst v) w' := by
  have he : Oper.eff p o = d := by unfold Oper.eff; rw [hd]; rfl
  rw [he] at hF ⊢
  rw [hd]
  refine ⟨ρ.trans h.grown (ρ.grown hg), h.defers, by simp [Act.put, h.size], ?_, ?_, ?_, ?_⟩
  · intro t ht
    by_cases e : t = d
    · subst e; rw [updK_same]; exact hF.2 ht
    · rw [updK_other _ _ _ _ e]; exact h.up t ht
  · by_cases e : p = d
    · rw [← e, updK_same]; exact hF.1
    · rw [updK_other _ _ _ _ e]; exact h.upp
  · intro t ht
    by_cases e : t = d
    · subst e
      rw [updK_same, eval_put_same (by rw [h.size]; exact ht)]
      exact hv
    · rw [updK_other _ _ _ _ e, Act.eval_put (fun d' hd' hx => e (by injection hd' with hd'; injection hx with hx; rw [hx, hd']))]
      exact h.anyUp t _ _ _ (h.fact t ht) hg
  · intro t ht
    rw [← h.rest t ht]
    have hne : d ≠ t := fun e => ht i o ho (by rw [hd, e])
    simp [Act.put, Array.getElem?_setIfInBounds_ne hne]

theorem CtxK.store {G : Nat → Fct} {a : Act} {w w' : World} {o : Oper} {F : Fct} {v : Value} (h : CtxK ρ p ops a0 w0 G a w) (hd : o.dst = none) (hg : ρ.R w w') (hF : Lasts ρ p (Oper.eff p o) F) (hv : F (a.eval (.tmp p)) w') :
    CtxK ρ p ops a0 w0 (updK G (Oper.eff p o) F) (a.put o.dst v) w' := by
  have he : Oper.eff p o = p := by unfold Oper.eff; rw [hd]; rfl
  rw [he] at hF ⊢
  rw [hd]
  refine ⟨ρ.trans h.grown hg, h.defers, h.size, ?_, ?_, ?_, h.rest⟩
  · intro t ht
    rw [updK_other _ _ _ _ ht]; exact h.up t ht
  · rw [updK_same]; exact hF.1
  · intro t ht
    by_cases e : t = p
    · subst e; rw [updK_same]; exact hv
    · rw [updK_other _ _ _ _ e]; exact h.up t e _ _ _ (h.fact t ht) hg

/-- Operation o does F, whatever the frame and the world, if the facts hold of what it looks at. -/
def DoesK (ρ : Gr) (P : Program) (p : Tmp) (ops : Array Oper) (a0 : Act) (w0 : World) (G : Nat → Fct) (o : Oper) (F : Fct) : Prop :=
  Lasts ρ p (Oper.eff p o) F ∧ ∀ (a : Act) (w : World), a.tmps.size = a0.tmps.size → ρ.R w0 w → (∀ t ∈ o.looksAt ops, t < a0.tmps.size → G t (a.eval (.tmp t)) w) →
    (o.dst.isSome = true ∧ ((Region.wanted o (yielded ops a.tmps) = true ∧ gUpon P w F ((execOp a.eval o).run P w)) ∨ (Region.wanted o (yielded ops a.tmps) = false ∧ F undef w))) ∨
    (o.dst = none ∧ Region.wanted o (yielded ops a.tmps) = true ∧ kStore ρ w (F (a.eval (.tmp p))) ((execOp a.eval o).run P w))

theorem DoesK.same {G G' : Nat → Fct} {o : Oper} {F : Fct} (h : DoesK ρ P p ops a0 w0 G o F) (he : ∀ t ∈ o.looksAt ops, G' t = G t) : DoesK ρ P p ops a0 w0 G' o F :=
  ⟨h.1, fun a w hs hg hl => h.2 a w hs hg fun t ht hlt => by have := hl t ht hlt; rwa [he t ht] at this⟩

def kOp (ρ : Gr) (P : Program) (p : Tmp) (ops : Array Oper) (a0 : Act) (w0 : World) (i : Nat) (K : (Nat → Fct) → Prop) (G : Nat → Fct) : Prop :=
  match ops[i]? with
  | none => K G
  | some o => ∃ F, DoesK ρ P p ops a0 w0 G o F ∧ K (updK G (Oper.eff p o) F)

theorem kOp_mono {i : Nat} {K K' : (Nat → Fct) → Prop} {G : Nat → Fct} (h : ∀ G, K G → K' G) (hh : kOp ρ P p ops a0 w0 i K G) : kOp ρ P p ops a0 w0 i K' G := by
  unfold kOp at *
  split
  · exact h _ (by simpa [*] using hh)
  · rename_i o ho
    simp only [ho] at hh
    obtain ⟨F, h1, h2⟩ := hh
    exact ⟨F, h1, h _ h2⟩

theorem DoesK.kOp {i : Nat} {o : Oper} {F : Fct} {G : Nat → Fct} (hi : ops[i]? = some o) (h : DoesK ρ P p ops a0 w0 G o F) {K : (Nat → Fct) → Prop} (hK : K (updK G (Oper.eff p o) F)) : kOp ρ P p ops a0 w0 i K G := by
  unfold Go.Proofs.Ytfdckhnhancbdaa.kOp
  simp only [hi]
  exact ⟨F, h, hK⟩

theorem kOp_put {j : Nat} {oi oj : Oper} {F : Fct} {G : Nat → Fct} (hj : ops[j]? = some oj) (hap : Ap p ops oi oj) {K : (Nat → Fct) → Prop}
    (hy : DoesK ρ P p ops a0 w0 G oi F) (h : kOp ρ P p ops a0 w0 j K (updK G (Oper.eff p oi) F)) : kOp ρ P p ops a0 w0 j (fun G' => DoesK ρ P p ops a0 w0 G' oi F ∧ K (updK G' (Oper.eff p oi) F)) G := by
  unfold Go.Proofs.Ytfdckhnhancbdaa.kOp at *
  simp only [hj] at *
  obtain ⟨Fj, k1, k2⟩ := h
  refine ⟨Fj, k1.same fun t ht => (updK_other _ _ _ _ (hap.l t ht)).symm, hy.same fun t ht => updK_other _ _ _ _ (hap.r t ht), ?_⟩
  rw [← updK_comm G (Oper.eff p oi) (Oper.eff p oj) F Fj hap.d]
  exact k2

theorem wpOp_of_kOp {i : Nat} {K : (Nat → Fct) → Prop} {K' : Act → World → Prop} {Q' : Exit → Act → World → Prop} {G : Nat → Fct} {a : Act} {w : World} (hc : CtxK ρ p ops a0 w0 G a w)
    (h : ∀ G' a' w', CtxK ρ p ops a0 w0 G' a' w' → K G' → K' a' w') (hh : kOp ρ P p ops a0 w0 i K G) : wpOp P ops Q' i K' a w := by
  unfold Go.Proofs.Ytfdckhnhancbdaa.kOp at hh
  unfold wpOp
  split
  · rename_i ho; simp only [ho] at hh; exact h _ _ _ hc hh
  · rename_i o ho
    simp only [ho] at hh
    obtain ⟨F, ⟨hup, hdo⟩, hK⟩ := hh
    rcases hdo a w hc.size hc.grown (fun t _ ht => hc.fact t ht) with ⟨hsome, hw⟩ | ⟨hnone, hw, hr⟩
    · obtain ⟨d, hd⟩ := Option.isSome_iff_exists.1 hsome
      rcases hw with ⟨hw, hr⟩ | ⟨hw, hr⟩
      · simp only [hw, if_true]
        refine .inl ?_
        unfold Oper.wp
        generalize (execOp a.eval o).run P w = r at *
        cases r with
        | ok n w' =>
          cases n <;> simp only [gUpon] at hr <;> simp only [Oper.upon]
          case value u => exact h _ _ _ (hc.put ho hd hr.1 hup hr.2) hK
          case skip => exact h _ _ _ (hc.put ho hd hr.1 hup hr.2) hK
          case enter f args =>
            refine hr.2.mono fun e w'' he => ?_
            obtain ⟨v, rfl, hg, hv⟩ := he
            exact h _ _ _ (hc.put ho hd (gb_trans hr.1 hg (.inl rfl)) hup hv) hK
        | halt x w' => simp only [gUpon] at hr
      · simp only [hw, Bool.false_eq_true, if_false]
        exact h _ _ _ (hc.put ho hd (gb_refl w none) hup hr) hK
    · simp only [hw, if_true]
      refine .inl ?_
      unfold Oper.wp
      generalize (execOp a.eval o).run P w = r at *
      cases r with
      | ok n w' =>
        cases n <;> simp only [kStore] at hr <;> simp only [Oper.upon]
        case value u => exact h _ _ _ (hc.store hnone hr.1 hup hr.2) hK
        case skip => exact h _ _ _ (hc.store hnone hr.1 hup hr.2) hK
      | halt x w' => simp only [kStore] at hr

/-- Whatever order is picked of the first n. -/
def wpAnyK (ρ : Gr) (P : Program) (p : Tmp) (md : Region.Mode) (ops : Array Oper) (a0 : Act) (w0 : World) (n : Nat) (L : Array Bool → (Nat → Fct) → Prop) : Nat → Array Bool → (Nat → Fct) → Prop
  | 0, listed, G => L listed G
  | f + 1, listed, G => Region.ready md ops listed ≠ [] ∧ ∀ i ∈ Region.ready md ops listed, i < n ∧ kOp ρ P p ops a0 w0 i (wpAnyK ρ P p md ops a0 w0 n L f (listed.setIfInBounds i true)) G

theorem wpAny_of_kHead {n g : Nat} {L : Array Bool → (Nat → Fct) → Prop} {Q' : Exit → Act → World → Prop} (hL : ∀ listed G a w, CtxK ρ p ops a0 w0 G a w → L listed G → wpAny P md ops Q' g listed a w) :
    ∀ (f : Nat) (listed : Array Bool) (G : Nat → Fct) (a : Act) (w : World), CtxK ρ p ops a0 w0 G a w → wpAnyK ρ P p md ops a0 w0 n L f listed G → wpAny P md ops Q' (f + g) listed a w
  | 0, listed, G, a, w, hc, h => by rw [Nat.zero_add]; exact hL _ _ _ _ hc h
  | f + 1, listed, G, a, w, hc, h => by
    rw [show f + 1 + g = (f + g) + 1 by omega]
    exact ⟨fun h0 => absurd h0 h.1, fun i hi => wpOp_of_kOp hc (fun G' a' w' hc' h' => wpAny_of_kHead hL f _ G' a' w' hc' h') (h.2 i hi).2⟩

theorem wpAnyK_first {n i : Nat} {oi : Oper} {F : Fct} {L : Array Bool → (Nat → Fct) → Prop} (hE : effB p ops = true) (hi : ops[i]? = some oi)
    (hs : Region.sinkB md ops n = true) (hc : Region.chainB md ops n = true) (hn : n < ops.size) (hin : i < n)
    (hdone : ∀ listed G, L listed G → ∀ j ∈ Region.ready md ops listed, n ≤ j) :
    ∀ (f : Nat) (listed : Array Bool) (G : Nat → Fct), HeadInv md ops n listed →
      (∀ j oj, ops[j]? = some oj → j ≠ i → listed.getD j true = false → (∀ e ∈ oj.after, Region.binds md e = true → e.on ≠ i) → oi.apart ops oj = true) →
      i ∈ Region.ready md ops listed → DoesK ρ P p ops a0 w0 G oi F →
      wpAnyK ρ P p md ops a0 w0 n L f (listed.setIfInBounds i true) (updK G (Oper.eff p oi) F) → wpAnyK ρ P p md ops a0 w0 n L (f + 1) listed G := by
  intro f
  induction f with
  | zero =>
    intro listed G inv _ hr hy H
    have hun := (mem_ready.1 hr).1
    refine ⟨fun h => (by rw [h] at hr; cases hr), fun j hj => ?_⟩
    have hjn : j < n := by
      rcases Nat.lt_or_ge j n with h | h
      · exact h
      · exact absurd hj (tail_waits hs hc hn inv _ i rfl hin hun j h)
    refine ⟨hjn, ?_⟩
    by_cases hji : j = i
    · subst hji; exact hy.kOp hi H
    · have := hdone _ _ H j (ready_mono hj hji)
      omega
  | succ f ih =>
    intro listed G inv hfree hr hy H
    have hun := (mem_ready.1 hr).1
    refine ⟨fun h => (by rw [h] at hr; cases hr), fun j hj => ?_⟩
    have hjn : j < n := by
      rcases Nat.lt_or_ge j n with h | h
      · exact h
      · exact absurd hj (tail_waits hs hc hn inv _ i rfl hin hun j h)
    refine ⟨hjn, ?_⟩
    by_cases hji : j = i
    · subst hji; exact hy.kOp hi H
    · have h1 := (H.2 j (ready_mono hj hji)).2
      obtain ⟨hjun, oj, hoj, hall⟩ := mem_ready.1 hj
      have hnot : ∀ e ∈ oj.after, Region.binds md e = true → e.on ≠ i := fun e he hb heq => by
        have h1 := hall e he hb
        rw [heq, getD_both hun] at h1
        cases h1
      have h2 := kOp_put hoj (effB_spec hE hi hoj (Ne.symm hji) (hfree j oj hoj hji hjun hnot)) hy h1
      have hfree' : ∀ k ok, ops[k]? = some ok → k ≠ i → (listed.setIfInBounds j true).getD k true = false →
          (∀ e ∈ ok.after, Region.binds md e = true → e.on ≠ i) → oi.apart ops ok = true := fun k ok hk hki hun hno => by
        refine hfree k ok hk hki ?_ hno
        by_cases hjk : j = k
        · subst hjk; exact hjun
        · rw [getD_set_ne true hjk] at hun; exact hun
      refine kOp_mono (fun G' h3 => ih (listed.setIfInBounds j true) G' (inv.set hj hjn) hfree' (ready_mono hr (Ne.symm hji)) h3.1 ?_) h2
      rw [Array.setIfInBounds_comm _ _ hji]
      exact h3.2

/-- The walk in the order of the text: of each operation what it does. -/
def kFacts (ρ : Gr) (P : Program) (p : Tmp) (ops : Array Oper) (a0 : Act) (w0 : World) (L : (Nat → Fct) → Prop) : List Oper → (Nat → Fct) → Prop
  | [], G => L G
  | o :: rest, G => ∃ F, DoesK ρ P p ops a0 w0 G o F ∧ kFacts ρ P p ops a0 w0 L rest (updK G (Oper.eff p o) F)

theorem wpAnyK_lex {n g : Nat} {Lq : (Nat → Fct) → Prop} (hE : effB p ops = true) (hsel : Region.noSelect ops = true) (hs : Region.sinkB md ops n = true) (hc : Region.chainB md ops n = true) (hn : n < ops.size) :
    ∀ (l : List Oper) (k : Nat) (listed : Array Bool) (G : Nat → Fct), (∀ j, j < l.length → l[j]? = ops[k + j]?) → k + l.length = n → HeadInv md ops n listed →
    Region.lexHead md ops g l.length k listed = true → kFacts ρ P p ops a0 w0 Lq l G →
    wpAnyK ρ P p md ops a0 w0 n (fun listed' G' => Region.seqB md ops g n listed' = true ∧ Lq G') l.length listed G
  | [], k, listed, G, _, hk, _, hB, h => by
    have : k = n := by simpa using hk
    subst this
    exact ⟨by simpa [Region.lexHead] using hB, h⟩
  | o :: l, k, listed, G, hl, hk, inv, hB, h => by
    have h0 : ops[k]? = some o := by simpa using (hl 0 (by simp)).symm
    simp only [List.length_cons, Region.lexHead, Bool.and_eq_true] at hB
    obtain ⟨⟨hr, hf⟩, hB'⟩ := hB
    have hkn : k < n := by simp only [List.length_cons] at hk; omega
    have hr' : k ∈ Region.ready md ops listed := by simpa using hr
    obtain ⟨F, hy, hK⟩ := h
    exact wpAnyK_first hE h0 hs hc hn hkn (fun listed' G' hL => seqB_ready hL.1) l.length listed G inv (Region.free_spec h0 hf) hr' hy
      (wpAnyK_lex hE hsel hs hc hn l (k + 1) _ _ (fun j hj => by have := hl (j + 1) (by simp; omega); simpa [Nat.add_assoc, Nat.add_comm 1 j] using this) (by simp only [List.length_cons] at hk; omega) (inv.set hr' hkn) hB' hK)

/-- A region, its first n operations by facts, the others as they stand. -/
theorem wp_region_kfacts {id : Nat} {Q : Exit → Act → World → Prop} {a : Act} {w : World} {l : List Oper} (ρ : Gr) (n : Nat) (p : Tmp) (hm : P.follows .mixedOrders = true) (hB : Region.lexTailB .any l.toArray n = true) (hE : effB p l.toArray = true)
    (h : ∀ (A : Act) (O : Array Oper) (W : World) (L : (Nat → Fct) → Prop), Hid (A = a) → Hid (O = l.toArray) → Hid (W = w.drew) → Hid (∀ G, (∀ a' w', CtxK ρ p O A W G a' w' → wpList P l.toArray Q (l.drop n) a' w') → L G) →
      kFacts ρ P p O A W L (l.take n) (fun t v _ => v = A.eval (.tmp t))) : (Code.region id l.toArray true).wp P Q a w := by
  have h := h a l.toArray w.drew _ (hide rfl) (hide rfl) (hide rfl) (hide fun _ h => h)
  simp only [Region.lexTailB, Bool.and_eq_true, decide_eq_true_eq] at hB
  obtain ⟨⟨⟨⟨hsel, hn⟩, hs⟩, hc⟩, hlex⟩ := hB
  have hn' : n < l.length := by simpa using hn
  have htl : (l.take n).length = n := by simp; omega
  have hdl : (l.drop n).length = l.toArray.size - n := by simp
  have inv0 : HeadInv .any l.toArray n (Array.replicate l.toArray.size false) :=
    ⟨by simp, fun j oj _ hl => (by rw [getD_replicate_false] at hl; cases hl), fun t _ ht => getD_in (by simpa using ht) (getD_replicate_false _ _)⟩
  have H := wpAnyK_lex (md := .any) (g := l.toArray.size - n) hE hsel hs hc hn (l.take n) 0 _ _ (fun j hj => by
    have hj' : j < n := by rw [htl] at hj; exact hj
    simp [hj']) (by simpa using htl) inv0 (by rw [htl]; exact hlex) h
  refine wp_region_any hm ?_
  have := wpAny_of_kHead (Q' := Q) (g := l.toArray.size - n) (fun listed G a' w' hc' hL => by
    have := wpAny_of_seq (md := .any) (Q' := Q) (l.drop n) n listed a' w' (fun j => by simp [List.getElem?_drop]) (by rw [hdl]; exact hL.1) (hL.2 a' w' hc')
    rwa [hdl] at this) _ _ _ _ _ (CtxK.start a w.drew) H
  rw [htl, show n + (l.toArray.size - n) = l.toArray.size by omega] at this
  exact this

/-- The frame behind it: the old one, the results put. -/
theorem CtxK.frame {G : Nat → Fct} {a : Act} {w : World} (h : CtxK ρ p ops a0 w0 G a w) (ds : List Tmp) (hB : ops.toList.all (fun o => match o.dst with | some d => ds.contains d | none => true) = true) :
    a = ds.foldl (fun b d => b.put (some d) (a.eval (.tmp d))) a0 :=
  Ctx.frame (G := fun _ _ _ => True) (w0 := w) (w := w) ⟨gb_refl w none, h.defers, h.size, fun _ _ _ _ _ _ => trivial, fun _ _ => trivial, h.rest⟩ ds hB

/-- One operation that has no guard. -/
theorem kFacts_step {L : (Nat → Fct) → Prop} {G : Nat → Fct} {o : Oper} {rest : List Oper} (F : Fct) (hg : o.guard = none) (hd : o.dst.isSome = true) (hup : Lasts ρ p (Oper.eff p o) F)
    (h : ∀ (a : Act) (w : World), ρ.R w0 w → (∀ t ∈ o.op.operands.toList.filterMap (fun | .tmp t => some t | _ => none), t < a0.tmps.size → G t (a.tmps[t]?.getD undef) w) → gUpon P w F ((execOp a.eval o).run P w))
    (hr : kFacts ρ P p ops a0 w0 L rest (updK G (Oper.eff p o) F)) : kFacts ρ P p ops a0 w0 L (o :: rest) G :=
  ⟨F, ⟨hup, fun a w _ hw hl => .inl ⟨hd, .inl ⟨by simp [Region.wanted, hg], h a w hw fun t ht hs => by
    have h1 := hl t (by unfold Oper.looksAt; exact List.mem_append_left _ ht) hs
    simpa only [Act.eval, Array.getD_eq_getD_getElem?] using h1⟩⟩⟩, hr⟩
/-- One operation without a guard whose result is known. -/
theorem kFacts_lit {L : (Nat → Fct) → Prop} {G : Nat → Fct} {o : Oper} {rest : List Oper} (u : Value) (hg : o.guard = none) (hd : o.dst.isSome = true)
    (h : ∀ (a : Act) (w : World), ρ.R w0 w → (∀ t ∈ o.op.operands.toList.filterMap (fun | .tmp t => some t | _ => none), t < a0.tmps.size → G t (a.tmps[t]?.getD undef) w) → (execOp a.eval o).run P w = .ok (.value u) w)
    (hr : kFacts ρ P p ops a0 w0 L rest (updK G (Oper.eff p o) (fun v _ => v = u))) : kFacts ρ P p ops a0 w0 L (o :: rest) G :=
  kFacts_step _ hg hd ⟨fun _ _ _ h _ => h, fun _ _ _ _ h _ => h⟩ (fun a w hw hl => by rw [h a w hw hl]; exact ⟨gb_refl w none, rfl⟩) hr
/-- The store. -/
theorem kFacts_store {L : (Nat → Fct) → Prop} {G : Nat → Fct} {o : Oper} {rest : List Oper} (F : Fct) (hg : o.guard = none) (hd : o.dst = none) (hup : F.Up)
    (h : ∀ (a : Act) (w : World), ρ.R w0 w → (∀ t ∈ o.op.operands.toList.filterMap (fun | .tmp t => some t | _ => none), t < a0.tmps.size → G t (a.tmps[t]?.getD undef) w) → kStore ρ w (F (a.tmps[p]?.getD undef)) ((execOp a.eval o).run P w))
    (hr : kFacts ρ P p ops a0 w0 L rest (updK G (Oper.eff p o) F)) : kFacts ρ P p ops a0 w0 L (o :: rest) G :=
  ⟨F, ⟨⟨hup, fun hne => absurd (by unfold Oper.eff; rw [hd]; rfl) hne⟩, fun a w _ hw hl => .inr ⟨hd, by simp [Region.wanted, hg], by
    have h1 := h a w hw fun t ht hs => by
      have h1 := hl t (by unfold Oper.looksAt; exact List.mem_append_left _ ht) hs
      simpa only [Act.eval, Array.getD_eq_getD_getElem?] using h1
    simpa only [Act.eval, Array.getD_eq_getD_getElem?] using h1⟩⟩, hr⟩
theorem Lasts.lit {d : Tmp} (u : Value) : Lasts ρ p d (fun v _ => v = u) := ⟨fun _ _ _ h _ => h, fun _ _ _ _ h _ => h⟩
end

/-- What keeps all blocks, but those from s on of which Z tells: of them it keeps that Z does. -/
structure Keeps (s : Nat) (Z : Obj → Prop) (a b : World) : Prop where
  os : b.os = a.os
  tape : b.tape = a.tape
  output : b.output = a.output
  size : a.heap.size ≤ b.heap.size
  block : ∀ i, i < a.heap.size → b.heap[i]? = a.heap[i]? ∨ (s ≤ i ∧ ∃ o o', a.heap[i]? = some o ∧ Z o ∧ b.heap[i]? = some o' ∧ Z o')
theorem Keeps.grown {s : Nat} {Z : Obj → Prop} {a b : World} (h : Keeps s Z a b) (hs : a.heap.size ≤ s) : a.grownBy b none :=
  ⟨h.os, h.tape, h.output, h.size, fun i hi _ => (h.block i hi).resolve_right fun h => by have := h.1; omega⟩
theorem Keeps.refl_ (s : Nat) (Z : Obj → Prop) (w : World) : Keeps s Z w w := ⟨rfl, rfl, rfl, Nat.le_refl _, fun _ _ => .inl rfl⟩
theorem Keeps.trans_ {s : Nat} {Z : Obj → Prop} {a b c : World} (h : Keeps s Z a b) (k : Keeps s Z b c) : Keeps s Z a c :=
  ⟨k.os.trans h.os, k.tape.trans h.tape, k.output.trans h.output, Nat.le_trans h.size k.size, fun i hi => by
    rcases h.block i hi with e | ⟨hs, o, o', h1, h2, h3, h4⟩
    · rcases k.block i (Nat.lt_of_lt_of_le hi h.size) with e2 | ⟨hs, o, o', k1, k2, k3, k4⟩
      · exact .inl (e2.trans e)
      · exact .inr ⟨hs, o, o', e ▸ k1, k2, k3, k4⟩
    · rcases k.block i (Nat.lt_of_lt_of_le hi h.size) with e2 | ⟨_, p, p', _, _, k3, k4⟩
      · exact .inr ⟨hs, o, o', h1, h2, e2.trans h3, h4⟩
      · exact .inr ⟨hs, o, p', h1, h2, k3, k4⟩⟩
theorem Keeps.of_grown {s : Nat} {Z : Obj → Prop} {a b : World} (h : a.grownBy b none) : Keeps s Z a b :=
  ⟨h.os, h.tape, h.output, h.size, fun i hi => .inl (h.block i hi (by simp))⟩
abbrev grK (s : Nat) (Z : Obj → Prop) : Gr where
  R := Keeps s Z
  refl := Keeps.refl_ s Z
  trans := Keeps.trans_
  grown := Keeps.of_grown
theorem Keeps.keep {s : Nat} {Z : Obj → Prop} {a b : World} (h : Keeps s Z a b) {i : Nat} {o : Obj} (ho : a.heap[i]? = some o) (hz : ¬ Z o) : b.heap[i]? = some o := by
  rcases h.block i (blk_lt ho) with e | ⟨_, o', _, h1, h2, _⟩
  · exact e.trans ho
  · rw [ho] at h1; cases h1; exact absurd h2 hz
theorem Keeps.kind {s : Nat} {Z : Obj → Prop} {a b : World} (h : Keeps s Z a b) {i : Nat} (ho : ∃ o, a.heap[i]? = some o ∧ Z o) : ∃ o, b.heap[i]? = some o ∧ Z o := by
  obtain ⟨o, ho, hz⟩ := ho
  rcases h.block i (blk_lt ho) with e | ⟨_, _, o', _, _, h3, h4⟩
  · exact ⟨o, e.trans ho, hz⟩
  · exact ⟨o', h3, h4⟩
theorem heap_setRow_at (w : World) (g : Nat) (c c' : Array Value) (t : TypeId) (l : Nat × Nat) (h : w.heap[g]? = some (.cells c t l)) : (w.setRow g c').heap[g]? = some (.cells c' t l) := by
  simp only [World.setRow]
  rw [Array.getElem?_modify, if_pos rfl, h]
  rfl
theorem Keeps.setRow {s : Nat} {Z : Obj → Prop} {a : World} {g : Nat} {c : Array Value} {t : TypeId} {l : Nat × Nat} (c' : Array Value) (ho : a.heap[g]? = some (.cells c t l)) (hs : s ≤ g) (hz : Z (.cells c t l)) (hz' : Z (.cells c' t l)) : Keeps s Z a (a.setRow g c') := by
  refine ⟨rfl, rfl, rfl, by simp [World.setRow], fun i _ => ?_⟩
  by_cases e : i = g
  · subst e; exact .inr ⟨hs, _, _, ho, hz, heap_setRow_at _ _ _ _ _ _ ho, hz'⟩
  · refine .inl ?_
    simp only [World.setRow]
    rw [Array.getElem?_modify]
    have h' : ¬ g = i := fun x => e x.symm
    simp [h']
end Go.Proofs.Ytfdckhnhancbdaa
