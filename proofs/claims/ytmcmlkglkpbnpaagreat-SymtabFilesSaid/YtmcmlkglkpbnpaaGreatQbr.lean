/-
  Regions by facts with calls that write on two sides (Gt): operations with a guard that lets them be carried out.
-/
import Derived.Test.YtmcmlkglkpbnpaaGreatQaa
import Derived.StillTail
namespace Go.Proofs.YtmcmlkglkpbnpaaGreat
open Go.RowKit
abbrev Fct := Value → World → Prop
def Fct.Up (F : Fct) : Prop := ∀ v w w', F v w → w.grownBy w' none → F v w'
def upd (G : Nat → Fct) (d : Option Tmp) (F : Fct) : Nat → Fct := fun t => match d with
 | some d => bif Nat.beq t d then F else G t
 | none => G t
theorem upd_same (G : Nat → Fct) (d : Tmp) (F : Fct) : upd G (some d) F d = F := by simp [upd]
theorem upd_other (G : Nat → Fct) (d : Option Tmp) (F : Fct) (t : Nat) (h : d ≠ some t) : upd G d F t = G t := by
 cases d with
 | none => rfl
 | some d =>
  have : Nat.beq t d = false := by
   cases e : Nat.beq t d
   ·rfl
   ·exact absurd (by rw [Nat.eq_of_beq_eq_true e]) h
  simp [upd, this]
theorem upd_comm (G : Nat → Fct) (x y : Option Tmp) (F K : Fct) (h : ∀ d, x = some d → y ≠ some d) : upd (upd G x F) y K = upd (upd G y K) x F := by
 funext t
 by_cases hx : x = some t
 ·subst hx
  rw [upd_other _ y K t (h t rfl), upd_same, upd_same]
 ·rw [upd_other _ x F t hx]
  by_cases hy : y = some t
  ·subst hy
   rw [upd_same, upd_same]
  ·rw [upd_other _ y K t hy, upd_other _ y K t hy, upd_other _ x F t hx]
section
variable {P : Program} {ops : Array Oper} {md : Region.Mode} {a0 : Act} {w0 : World}
def gUpon (P : Program) (w : World) (F : Fct) : Result Next → Prop
 | .ok (.value u) w' => w.grownBy w' none ∧ F u w'
 | .ok .skip w' => w.grownBy w' none ∧ F undef w'
 | .ok (.enter f args) w' => w.grownBy w' none ∧ Calls P f args w' (fun e w'' => ∃ v, e = .returned v ∧ w'.grownBy w'' none ∧ F v w'')
 | _ => False
structure Ctx (ops : Array Oper) (a0 : Act) (w0 : World) (G : Nat → Fct) (a : Act) (w : World) : Prop where
 grown : w0.grownBy w none
 defers : a.defers = a0.defers
 size : a.tmps.size = a0.tmps.size
 up : ∀ t, (G t).Up
 fact : ∀ t, t < a0.tmps.size → G t (a.eval (.tmp t)) w
 rest : ∀ t, (∀ (i : Nat) (o : Oper), ops[i]? = some o → o.dst ≠ some t) → a.tmps[t]? = a0.tmps[t]?
theorem Ctx.start (a : Act) (w : World) : Ctx ops a w (fun t v _ => v = a.eval (.tmp t)) a w :=
 ⟨gb_refl w none, rfl, rfl, fun _ _ _ _ h _ => h, fun _ _ => rfl, fun _ _ => rfl⟩
theorem eval_put_same {a : Act} {d : Tmp} {v : Value} (h : d < a.tmps.size) : (a.put (some d) v).eval (.tmp d) = v := by
 simp [Act.put, Act.eval, h]
theorem Ctx.put {G : Nat → Fct} {a : Act} {w w' : World} {i : Nat} {o : Oper} {F : Fct} {v : Value} (h : Ctx ops a0 w0 G a w) (ho : ops[i]? = some o) (hg : w.grownBy w' none) (hF : F.Up) (hv : F v w') :
  Ctx ops a0 w0 (upd G o.dst F) (a.put o.dst v) w' := by
 refine ⟨gb_trans h.grown hg (.inl rfl), ?_, ?_, ?_, ?_, ?_⟩
 ·cases o.dst <;> exact h.defers
 ·cases o.dst <;> simp [Act.put, h.size]
 ·intro t
  by_cases e : o.dst = some t
  ·rw [e, upd_same]; exact hF
  ·rw [upd_other _ _ _ _ e]; exact h.up t
 ·intro t ht
  by_cases e : o.dst = some t
  ·rw [e, upd_same, eval_put_same (by rw [h.size]; exact ht)]
   exact hv
  ·rw [upd_other _ _ _ _ e, Act.eval_put (fun d hd hx => e (by rw [hd]; injection hx with hx; rw [hx]))]
   exact h.up t _ _ _ (h.fact t ht) hg
 ·intro t ht
  rw [← h.rest t ht]
  have := ht i o ho
  cases hd : o.dst with
  | none => rfl
  | some d =>
   have hne : d ≠ t := fun e => this (by rw [hd, e])
   simp [Act.put, Array.getElem?_setIfInBounds_ne hne]
def Does (P : Program) (ops : Array Oper) (a0 : Act) (w0 : World) (G : Nat → Fct) (o : Oper) (F : Fct) : Prop :=
 F.Up ∧ ∀ (a : Act) (w : World), a.tmps.size = a0.tmps.size → w0.grownBy w none → (∀ t ∈ o.looksAt ops, t < a0.tmps.size → G t (a.eval (.tmp t)) w) →
  (Region.wanted o (yielded ops a.tmps) = true ∧ gUpon P w F ((execOp a.eval o).run P w)) ∨ (Region.wanted o (yielded ops a.tmps) = false ∧ F undef w)
theorem Does.same {G G' : Nat → Fct} {o : Oper} {F : Fct} (h : Does P ops a0 w0 G o F) (he : ∀ t ∈ o.looksAt ops, G' t = G t) : Does P ops a0 w0 G' o F :=
 ⟨h.1, fun a w hs hg hl => h.2 a w hs hg fun t ht hlt => by have := hl t ht hlt; rwa [he t ht] at this⟩
def gOp (P : Program) (ops : Array Oper) (a0 : Act) (w0 : World) (i : Nat) (K : (Nat → Fct) → Prop) (G : Nat → Fct) : Prop :=
 match ops[i]? with
 | none => K G
 | some o => ∃ F, Does P ops a0 w0 G o F ∧ K (upd G o.dst F)
theorem gOp_mono {i : Nat} {K K' : (Nat → Fct) → Prop} {G : Nat → Fct} (h : ∀ G, K G → K' G) (hh : gOp P ops a0 w0 i K G) : gOp P ops a0 w0 i K' G := by
 unfold gOp at *
 split
 ·exact h _ (by simpa [*] using hh)
 ·rename_i o ho
  simp only [ho] at hh
  obtain ⟨F, h1, h2⟩ := hh
  exact ⟨F, h1, h _ h2⟩
theorem Does.gOp {i : Nat} {o : Oper} {F : Fct} {G : Nat → Fct} (hi : ops[i]? = some o) (h : Does P ops a0 w0 G o F) {K : (Nat → Fct) → Prop} (hK : K (upd G o.dst F)) : gOp P ops a0 w0 i K G := by
 unfold Go.Proofs.YtmcmlkglkpbnpaaGreat.gOp
 simp only [hi]
 exact ⟨F, h, hK⟩
theorem gOp_put {j : Nat} {oi oj : Oper} {F : Fct} {G : Nat → Fct} (hj : ops[j]? = some oj) (hap : oi.apart ops oj = true) {K : (Nat → Fct) → Prop}
  (hy : Does P ops a0 w0 G oi F) (h : gOp P ops a0 w0 j K (upd G oi.dst F)) : gOp P ops a0 w0 j (fun G' => Does P ops a0 w0 G' oi F ∧ K (upd G' oi.dst F)) G := by
 obtain ⟨h1, h2, h3⟩ := Oper.apart_spec hap
 unfold Go.Proofs.YtmcmlkglkpbnpaaGreat.gOp at *
 simp only [hj] at *
 obtain ⟨Fj, k1, k2⟩ := h
 refine ⟨Fj, k1.same fun t ht => (upd_other _ _ _ _ fun e => h1 t e ht).symm, hy.same fun t ht => upd_other _ _ _ _ fun e => h3 t e ht, ?_⟩
 rw [← upd_comm G oi.dst oj.dst F Fj h2]
 exact k2
theorem wpOp_of_gOp {i : Nat} {K : (Nat → Fct) → Prop} {K' : Act → World → Prop} {Q' : Exit → Act → World → Prop} {G : Nat → Fct} {a : Act} {w : World} (hc : Ctx ops a0 w0 G a w)
  (h : ∀ G' a' w', Ctx ops a0 w0 G' a' w' → K G' → K' a' w') (hh : gOp P ops a0 w0 i K G) : wpOp P ops Q' i K' a w := by
 unfold Go.Proofs.YtmcmlkglkpbnpaaGreat.gOp at hh
 unfold wpOp
 split
 ·rename_i ho; simp only [ho] at hh; exact h _ _ _ hc hh
 ·rename_i o ho
  simp only [ho] at hh
  obtain ⟨F, ⟨hup, hdo⟩, hK⟩ := hh
  rcases hdo a w hc.size hc.grown (fun t _ ht => hc.fact t ht) with ⟨hw, hr⟩ | ⟨hw, hr⟩
  ·simp only [hw, if_true]
   refine .inl ?_
   unfold Oper.wp
   generalize (execOp a.eval o).run P w = r at *
   cases r with
   | ok n w' =>
    cases n <;> simp only [gUpon] at hr <;> simp only [Oper.upon]
    case value u => exact h _ _ _ (hc.put ho hr.1 hup hr.2) hK
    case skip => exact h _ _ _ (hc.put ho hr.1 hup hr.2) hK
    case enter f args =>
     refine hr.2.mono fun e w'' he => ?_
     obtain ⟨v, rfl, hg, hv⟩ := he
     exact h _ _ _ (hc.put ho (gb_trans hr.1 hg (.inl rfl)) hup hv) hK
   | halt x w' => simp only [gUpon] at hr
  ·simp only [hw, Bool.false_eq_true, if_false]
   exact h _ _ _ (hc.put ho (gb_refl w none) hup hr) hK
def wpAnyG (P : Program) (md : Region.Mode) (ops : Array Oper) (a0 : Act) (w0 : World) (n : Nat) (L : Array Bool → (Nat → Fct) → Prop) : Nat → Array Bool → (Nat → Fct) → Prop
 | 0, listed, G => L listed G
 | f + 1, listed, G => Region.ready md ops listed ≠ [] ∧ ∀ i ∈ Region.ready md ops listed, i < n ∧ gOp P ops a0 w0 i (wpAnyG P md ops a0 w0 n L f (listed.setIfInBounds i true)) G
theorem wpAny_of_gHead {n g : Nat} {L : Array Bool → (Nat → Fct) → Prop} {Q' : Exit → Act → World → Prop} (hL : ∀ listed G a w, Ctx ops a0 w0 G a w → L listed G → wpAny P md ops Q' g listed a w) :
  ∀ (f : Nat) (listed : Array Bool) (G : Nat → Fct) (a : Act) (w : World), Ctx ops a0 w0 G a w → wpAnyG P md ops a0 w0 n L f listed G → wpAny P md ops Q' (f + g) listed a w
 | 0, listed, G, a, w, hc, h => by rw [Nat.zero_add]; exact hL _ _ _ _ hc h
 | f + 1, listed, G, a, w, hc, h => by
  rw [show f + 1 + g = (f + g) + 1 by omega]
  exact ⟨fun h0 => absurd h0 h.1, fun i hi => wpOp_of_gOp hc (fun G' a' w' hc' h' => wpAny_of_gHead hL f _ G' a' w' hc' h') (h.2 i hi).2⟩
theorem wpAnyG_first {n i : Nat} {oi : Oper} {F : Fct} {L : Array Bool → (Nat → Fct) → Prop} (hi : ops[i]? = some oi)
  (hs : Region.sinkB md ops n = true) (hc : Region.chainB md ops n = true) (hn : n < ops.size) (hin : i < n)
  (hdone : ∀ listed G, L listed G → ∀ j ∈ Region.ready md ops listed, n ≤ j) :
  ∀ (f : Nat) (listed : Array Bool) (G : Nat → Fct), HeadInv md ops n listed →
   (∀ j oj, ops[j]? = some oj → j ≠ i → listed.getD j true = false → (∀ e ∈ oj.after, Region.binds md e = true → e.on ≠ i) → oi.apart ops oj = true) →
   i ∈ Region.ready md ops listed → Does P ops a0 w0 G oi F →
   wpAnyG P md ops a0 w0 n L f (listed.setIfInBounds i true) (upd G oi.dst F) → wpAnyG P md ops a0 w0 n L (f + 1) listed G := by
 intro f
 induction f with
 | zero =>
  intro listed G inv _ hr hy H
  have hun := (mem_ready.1 hr).1
  refine ⟨fun h => (by rw [h] at hr; cases hr), fun j hj => ?_⟩
  have hjn : j < n := by
   rcases Nat.lt_or_ge j n with h | h
   ·exact h
   ·exact absurd hj (tail_waits hs hc hn inv _ i rfl hin hun j h)
  refine ⟨hjn, ?_⟩
  by_cases hji : j = i
  ·subst hji; exact hy.gOp hi H
  ·have := hdone _ _ H j (ready_mono hj hji)
   omega
 | succ f ih =>
  intro listed G inv hfree hr hy H
  have hun := (mem_ready.1 hr).1
  refine ⟨fun h => (by rw [h] at hr; cases hr), fun j hj => ?_⟩
  have hjn : j < n := by
   rcases Nat.lt_or_ge j n with h | h
   ·exact h
   ·exact absurd hj (tail_waits hs hc hn inv _ i rfl hin hun j h)
  refine ⟨hjn, ?_⟩
  by_cases hji : j = i
  ·subst hji; exact hy.gOp hi H
  ·have h1 := (H.2 j (ready_mono hj hji)).2
   obtain ⟨hjun, oj, hoj, hall⟩ := mem_ready.1 hj
   have hnot : ∀ e ∈ oj.after, Region.binds md e = true → e.on ≠ i := fun e he hb heq => by
    have h1 := hall e he hb
    rw [heq, getD_both hun] at h1
    cases h1
   have h2 := gOp_put hoj (hfree j oj hoj hji hjun hnot) hy h1
   have hfree' : ∀ k ok, ops[k]? = some ok → k ≠ i → (listed.setIfInBounds j true).getD k true = false →
     (∀ e ∈ ok.after, Region.binds md e = true → e.on ≠ i) → oi.apart ops ok = true := fun k ok hk hki hun hno => by
    refine hfree k ok hk hki ?_ hno
    by_cases hjk : j = k
    ·subst hjk; exact hjun
    ·rw [getD_set_ne true hjk] at hun; exact hun
   refine gOp_mono (fun G' h3 => ih (listed.setIfInBounds j true) G' (inv.set hj hjn) hfree' (ready_mono hr (Ne.symm hji)) h3.1 ?_) h2
   rw [Array.setIfInBounds_comm _ _ hji]
   exact h3.2
def wpFacts (P : Program) (ops : Array Oper) (a0 : Act) (w0 : World) (L : (Nat → Fct) → Prop) : List Oper → (Nat → Fct) → Prop
 | [], G => L G
 | o :: rest, G => ∃ F, Does P ops a0 w0 G o F ∧ wpFacts P ops a0 w0 L rest (upd G o.dst F)
theorem wpAnyG_lex {n g : Nat} {Lq : (Nat → Fct) → Prop} (hsel : Region.noSelect ops = true) (hs : Region.sinkB md ops n = true) (hc : Region.chainB md ops n = true) (hn : n < ops.size) :
  ∀ (l : List Oper) (k : Nat) (listed : Array Bool) (G : Nat → Fct), (∀ j, j < l.length → l[j]? = ops[k + j]?) → k + l.length = n → HeadInv md ops n listed →
  Region.lexHead md ops g l.length k listed = true → wpFacts P ops a0 w0 Lq l G →
  wpAnyG P md ops a0 w0 n (fun listed' G' => Region.seqB md ops g n listed' = true ∧ Lq G') l.length listed G
 | [], k, listed, G, _, hk, _, hB, h => by
  have : k = n := by simpa using hk
  subst this
  exact ⟨by simpa [Region.lexHead] using hB, h⟩
 | o :: l, k, listed, G, hl, hk, inv, hB, h => by
  have h0 : ops[k]? = some o := by simpa using (hl 0 (by simp)).symm
  simp only [List.length_cons, Region.lexHead, Bool.and_eq_true] at hB
  obtain ⟨⟨hr, hf⟩, hB'⟩ := hB
  have hkn : k < n := by simp only [List.length_cons] at hk; omega
  have hr' : k ∈ Region.ready md ops listed := by simpa using hr
  obtain ⟨F, hy, hK⟩ := h
  exact wpAnyG_first h0 hs hc hn hkn (fun listed' G' hL => seqB_ready hL.1) l.length listed G inv (Region.free_spec h0 hf) hr' hy
   (wpAnyG_lex hsel hs hc hn l (k + 1) _ _ (fun j hj => by have := hl (j + 1) (by simp; omega); simpa [Nat.add_assoc, Nat.add_comm 1 j] using this) (by simp only [List.length_cons] at hk; omega) (inv.set hr' hkn) hB' hK)
theorem wp_region_facts {id : Nat} {Q : Exit → Act → World → Prop} {a : Act} {w : World} {l : List Oper} (n : Nat) (hm : P.follows .mixedOrders = true) (hB : Region.lexTailB .any l.toArray n = true)
  (h : wpFacts P l.toArray a w.drew (fun G => ∀ a' w', Ctx l.toArray a w.drew G a' w' → wpList P l.toArray Q (l.drop n) a' w') (l.take n) (fun t v _ => v = a.eval (.tmp t))) : (Code.region id l.toArray true).wp P Q a w := by
 simp only [Region.lexTailB, Bool.and_eq_true, decide_eq_true_eq] at hB
 obtain ⟨⟨⟨⟨hsel, hn⟩, hs⟩, hc⟩, hlex⟩ := hB
 have hn' : n < l.length := by simpa using hn
 have htl : (l.take n).length = n := by simp; omega
 have hdl : (l.drop n).length = l.toArray.size - n := by simp
 have inv0 : HeadInv .any l.toArray n (Array.replicate l.toArray.size false) :=
  ⟨by simp, fun j oj _ hl => (by rw [getD_replicate_false] at hl; cases hl), fun t _ ht => getD_in (by simpa using ht) (getD_replicate_false _ _)⟩
 have H := wpAnyG_lex (md := .any) (g := l.toArray.size - n) hsel hs hc hn (l.take n) 0 _ _ (fun j hj => by
  have hj' : j < n := by rw [htl] at hj; exact hj
  simp [hj']) (by simpa using htl) inv0 (by rw [htl]; exact hlex) h
 refine wp_region_any hm ?_
 have := wpAny_of_gHead (Q' := Q) (g := l.toArray.size - n) (fun listed G a' w' hc' hL => by
  have := wpAny_of_seq (md := .any) (Q' := Q) (l.drop n) n listed a' w' (fun j => by simp [List.getElem?_drop]) (by rw [hdl]; exact hL.1) (hL.2 a' w' hc')
  rwa [hdl] at this) _ _ _ _ _ (Ctx.start a w.drew) H
 rw [htl, show n + (l.toArray.size - n) = l.toArray.size by omega] at this
 exact this
theorem Ctx.frame {G : Nat → Fct} {a : Act} {w : World} (h : Ctx ops a0 w0 G a w) (ds : List Tmp) (hB : ops.toList.all (fun o => match o.dst with | some d => ds.contains d | none => true) = true) :
  a = ds.foldl (fun b d => b.put (some d) (a.eval (.tmp d))) a0 := by
 have hd : ∀ (i : Nat) (o : Oper) (d : Tmp), ops[i]? = some o → o.dst = some d → d ∈ ds := fun i o d ho hd => by
  have hm : o ∈ ops.toList := Array.mem_toList_iff.2 (Array.mem_of_getElem? ho)
  have h1 := List.all_eq_true.1 hB o hm
  rw [hd] at h1
  simpa using h1
 have key : ∀ (ds : List Tmp) (b : Act), b.defers = a.defers → b.tmps.size = a.tmps.size → (∀ t, t ∉ ds → b.tmps[t]? = a.tmps[t]?) → a = ds.foldl (fun b d => b.put (some d) (a.eval (.tmp d))) b := by
  intro ds
  induction ds with
  | nil =>
   intro b h1 h2 h3
   have : b.tmps = a.tmps := Array.ext_getElem? fun t => h3 t (by simp)
   cases a; cases b
   simp_all
  | cons d ds ih =>
   intro b h1 h2 h3
   refine ih _ h1 (by simp [Act.put, h2]) fun t ht => ?_
   by_cases e : d = t
   ·subst e
    by_cases hs : d < a.tmps.size
    ·simp [Act.put, Act.eval, h2, hs]
    ·simp [Act.put, h2, hs]
   ·simp only [Act.put]
    rw [Array.getElem?_setIfInBounds_ne e]
    exact h3 t (by simp [ht]; exact fun e' => e e'.symm)
 exact key ds a0 h.defers.symm h.size.symm fun t ht => (h.rest t fun i o ho hd' => ht (hd i o t ho hd')).symm
theorem wp_region_facts' {id : Nat} {Q : Exit → Act → World → Prop} {a : Act} {w : World} {l : List Oper} (n : Nat) (hm : P.follows .mixedOrders = true) (hB : Region.lexTailB .any l.toArray n = true)
  (h : ∀ (A : Act) (O : Array Oper) (W : World) (L : (Nat → Fct) → Prop), Hid (A = a) → Hid (O = l.toArray) → Hid (W = w.drew) → Hid (∀ G, (∀ a' w', Ctx O A W G a' w' → wpList P l.toArray Q (l.drop n) a' w') → L G) →
   wpFacts P O A W L (l.take n) (fun t v _ => v = A.eval (.tmp t))) : (Code.region id l.toArray true).wp P Q a w :=
 wp_region_facts n hm hB (h a l.toArray w.drew _ (hide rfl) (hide rfl) (hide rfl) (hide fun _ h => h))
theorem wpFacts_step {L : (Nat → Fct) → Prop} {G : Nat → Fct} {o : Oper} {rest : List Oper} (F : Fct) (hg : o.guard = none) (hup : F.Up)
  (h : ∀ (a : Act) (w : World), w0.grownBy w none → (∀ t ∈ o.op.operands.toList.filterMap (fun | .tmp t => some t | _ => none), t < a0.tmps.size → G t (a.tmps[t]?.getD undef) w) → gUpon P w F ((execOp a.eval o).run P w))
  (hr : wpFacts P ops a0 w0 L rest (upd G o.dst F)) : wpFacts P ops a0 w0 L (o :: rest) G :=
 ⟨F, ⟨hup, fun a w _ hw hl => .inl ⟨by simp [Region.wanted, hg], h a w hw fun t ht hs => by
  have h1 := hl t (by unfold Oper.looksAt; exact List.mem_append_left _ ht) hs
  simpa only [Act.eval, Array.getD_eq_getD_getElem?] using h1⟩⟩, hr⟩
theorem wpFacts_lit {L : (Nat → Fct) → Prop} {G : Nat → Fct} {o : Oper} {rest : List Oper} (u : Value) (hg : o.guard = none)
  (h : ∀ (a : Act) (w : World), w0.grownBy w none → (∀ t ∈ o.op.operands.toList.filterMap (fun | .tmp t => some t | _ => none), t < a0.tmps.size → G t (a.tmps[t]?.getD undef) w) → (execOp a.eval o).run P w = .ok (.value u) w)
  (hr : wpFacts P ops a0 w0 L rest (upd G o.dst (fun v _ => v = u))) : wpFacts P ops a0 w0 L (o :: rest) G :=
 wpFacts_step _ hg (fun _ _ _ h _ => h) (fun a w hw hl => by rw [h a w hw hl]; exact ⟨gb_refl w none, rfl⟩) hr
end
section
variable {P : Program} {ops : Array Oper} {a0 : Act} {w0 : World}
theorem wpFacts_stepG {L : (Nat → Fct) → Prop} {G : Nat → Fct} {o : Oper} {rest : List Oper} (F : Fct) (g : Nat) (b : Bool) (t : Tmp) (hg : o.guard = some (g, b)) (ht : (ops[g]?).bind (·.dst) = some t) (hs : t < a0.tmps.size)
  (hG : ∀ v w, G t v w → v = .bool b) (hup : F.Up)
  (h : ∀ (a : Act) (w : World), w0.grownBy w none → (∀ t ∈ o.op.operands.toList.filterMap (fun | .tmp t => some t | _ => none), t < a0.tmps.size → G t (a.tmps[t]?.getD undef) w) → gUpon P w F ((execOp a.eval o).run P w))
  (hr : wpFacts P ops a0 w0 L rest (upd G o.dst F)) : wpFacts P ops a0 w0 L (o :: rest) G :=
 ⟨F, ⟨hup, fun a w hsz hw hl => .inl ⟨by
  have hm : t ∈ o.looksAt ops := by unfold Oper.looksAt; rw [hg]; simp only [ht]; simp
  have h1 := hG _ _ (hl t hm hs)
  have h2 : a.tmps[t]? = some (.bool b) := by
   simp only [Act.eval, Array.getD_eq_getD_getElem?] at h1
   rw [← hsz] at hs
   rw [Array.getElem?_eq_getElem hs] at h1 ⊢
   simpa using h1
  simp [Region.wanted, hg, yielded, ht, h2], h a w hw fun t ht hs => by
  have h1 := hl t (by unfold Oper.looksAt; exact List.mem_append_left _ ht) hs
  simpa only [Act.eval, Array.getD_eq_getD_getElem?] using h1⟩⟩, hr⟩
theorem wpFacts_litG {L : (Nat → Fct) → Prop} {G : Nat → Fct} {o : Oper} {rest : List Oper} (u : Value) (g : Nat) (b : Bool) (t : Tmp) (hg : o.guard = some (g, b)) (ht : (ops[g]?).bind (·.dst) = some t) (hs : t < a0.tmps.size)
  (hG : ∀ v w, G t v w → v = .bool b)
  (h : ∀ (a : Act) (w : World), w0.grownBy w none → (∀ t ∈ o.op.operands.toList.filterMap (fun | .tmp t => some t | _ => none), t < a0.tmps.size → G t (a.tmps[t]?.getD undef) w) → (execOp a.eval o).run P w = .ok (.value u) w)
  (hr : wpFacts P ops a0 w0 L rest (upd G o.dst (fun v _ => v = u))) : wpFacts P ops a0 w0 L (o :: rest) G :=
 wpFacts_stepG _ g b t hg ht hs hG (fun _ _ _ h _ => h) (fun a w hw hl => by rw [h a w hw hl]; exact ⟨gb_refl w none, rfl⟩) hr
theorem gUpon_lit {w : World} {f : FuncId} {args : Array Value} {u : Value} (h : Calls P f args w fun e w' => e = .returned u ∧ w.grownBy w' none) : gUpon P w (fun v _ => v = u) (.ok (.enter f args) w) :=
 ⟨gb_refl w none, h.mono fun _ _ h => ⟨u, h.1, h.2, rfl⟩⟩
theorem Lit.up (u : Value) : Fct.Up (fun v _ => v = u) := fun _ _ _ h _ => h
end
theorem cell_gb {w w' : World} {a : Addr} {u : Value} (h : w.cell? a = some u) (hg : w.grownBy w' none) : w'.cell? a = some u := by
 rw [World.cell?_of_block (hg.block _ (World.block_lt_of_cell? w _ h) (by simp))]
 exact h
end Go.Proofs.YtmcmlkglkpbnpaaGreat
namespace Go.Proofs.YtmcmlkglkpbnpaaGreat
open Go.RowKit
abbrev Bs := Nat → Bool
def bset (b : Bs) : Option Nat → Bs
 | none => b
 | some k => fun j => if j = k then true else b j
def bfree (b : Bs) : Option Nat → Prop
 | none => True
 | some k => b k = false
theorem bset_comm (b : Bs) (x y : Option Nat) : bset (bset b x) y = bset (bset b y) x := by
 cases x <;> cases y
 ·rfl
 ·rfl
 ·rfl
 ·rename_i i j
  funext t
  simp only [bset]
  by_cases h1 : t = i <;> by_cases h2 : t = j <;> simp [h1, h2]
theorem bfree_back {b : Bs} {x y : Option Nat} (h : bfree (bset b x) y) : bfree b y := by
 cases y with
 | none => trivial
 | some j =>
  cases x with
  | none => exact h
  | some i =>
   simp only [bfree, bset] at h ⊢
   by_cases e : j = i
   ·simp [e] at h
   ·simpa [e] using h
theorem bfree_swap {b : Bs} {x y : Option Nat} (h1 : bfree b x) (h2 : bfree (bset b x) y) : bfree (bset b y) x := by
 cases x with
 | none => trivial
 | some i =>
  cases y with
  | none => exact h1
  | some j =>
   simp only [bfree, bset] at h1 h2 ⊢
   by_cases e : j = i
   ·simp [e] at h2
   ·rw [if_neg (fun q => e q.symm)]
    exact h1
structure TwoL (T : World → World → Prop) (J : Bs → World → Prop) : Prop where
 gb : ∀ w w', w.grownBy w' none → T w w'
 trans : ∀ a b c, T a b → T b c → T a c
 J : ∀ b w w', J b w → w.grownBy w' none → J b w'
section
variable {P : Program} {ops : Array Oper} {md : Region.Mode} {a0 : Act} {w0 : World} {T : World → World → Prop} {J : Bs → World → Prop}
def UpT (T : World → World → Prop) (F : Fct) : Prop := ∀ v w w', F v w → T w w' → F v w'
def sUpon (P : Program) (T : World → World → Prop) (J : Bs → World → Prop) (b : Bs) (k : Option Nat) (w : World) (F : Fct) : Result Next → Prop
 | .ok (.value u) w' => w.grownBy w' none ∧ F u w' ∧ k = none
 | .ok .skip w' => w.grownBy w' none ∧ F undef w' ∧ k = none
 | .ok (.enter f args) w' => w.grownBy w' none ∧ Calls P f args w' (fun e w'' => ∃ v, e = .returned v ∧ T w' w'' ∧ J (bset b k) w'' ∧ F v w'')
 | _ => False
structure CtxT (T : World → World → Prop) (J : Bs → World → Prop) (ops : Array Oper) (a0 : Act) (w0 : World) (G : Nat → Fct) (b : Bs) (a : Act) (w : World) : Prop where
 turned : T w0 w
 st : J b w
 defers : a.defers = a0.defers
 size : a.tmps.size = a0.tmps.size
 up : ∀ t, UpT T (G t)
 fact : ∀ t, t < a0.tmps.size → G t (a.eval (.tmp t)) w
 rest : ∀ t, (∀ (i : Nat) (o : Oper), ops[i]? = some o → o.dst ≠ some t) → a.tmps[t]? = a0.tmps[t]?
theorem CtxT.put {G : Nat → Fct} {b b' : Bs} {a : Act} {w w' : World} {i : Nat} {o : Oper} {F : Fct} {v : Value} (tl : TwoL T J) (h : CtxT T J ops a0 w0 G b a w) (ho : ops[i]? = some o) (hT : T w w') (hJ : J b' w') (hF : UpT T F) (hv : F v w') :
  CtxT T J ops a0 w0 (upd G o.dst F) b' (a.put o.dst v) w' := by
 refine ⟨tl.trans _ _ _ h.turned hT, hJ, ?_, ?_, ?_, ?_, ?_⟩
 ·cases o.dst <;> exact h.defers
 ·cases o.dst <;> simp [Act.put, h.size]
 ·intro t
  by_cases e : o.dst = some t
  ·rw [e, upd_same]; exact hF
  ·rw [upd_other _ _ _ _ e]; exact h.up t
 ·intro t ht
  by_cases e : o.dst = some t
  ·rw [e, upd_same, eval_put_same (by rw [h.size]; exact ht)]
   exact hv
  ·rw [upd_other _ _ _ _ e, Act.eval_put (fun d hd hx => e (by rw [hd]; injection hx with hx; rw [hx]))]
   exact h.up t _ _ _ (h.fact t ht) hT
 ·intro t ht
  rw [← h.rest t ht]
  have := ht i o ho
  cases hd : o.dst with
  | none => rfl
  | some d =>
   have hne : d ≠ t := fun e => this (by rw [hd, e])
   simp [Act.put, Array.getElem?_setIfInBounds_ne hne]
def DoesT (P : Program) (T : World → World → Prop) (J : Bs → World → Prop) (ops : Array Oper) (a0 : Act) (w0 : World) (G : Nat → Fct) (o : Oper) (F : Fct) (k : Option Nat) : Prop :=
 UpT T F ∧ ∀ (a : Act) (w : World) (b : Bs), a.tmps.size = a0.tmps.size → T w0 w → bfree b k → J b w → (∀ t ∈ o.looksAt ops, t < a0.tmps.size → G t (a.eval (.tmp t)) w) →
  (Region.wanted o (yielded ops a.tmps) = true ∧ sUpon P T J b k w F ((execOp a.eval o).run P w)) ∨ (Region.wanted o (yielded ops a.tmps) = false ∧ F undef w ∧ k = none)
theorem DoesT.same {G G' : Nat → Fct} {o : Oper} {F : Fct} {k : Option Nat} (h : DoesT P T J ops a0 w0 G o F k) (he : ∀ t ∈ o.looksAt ops, G' t = G t) : DoesT P T J ops a0 w0 G' o F k :=
 ⟨h.1, fun a w b hs hg hf hj hl => h.2 a w b hs hg hf hj fun t ht hlt => by have := hl t ht hlt; rwa [he t ht] at this⟩
def gOpT (P : Program) (T : World → World → Prop) (J : Bs → World → Prop) (ops : Array Oper) (a0 : Act) (w0 : World) (i : Nat) (K : (Nat → Fct) → Bs → Prop) (G : Nat → Fct) (b : Bs) : Prop :=
 match ops[i]? with
 | none => K G b
 | some o => ∃ F k, DoesT P T J ops a0 w0 G o F k ∧ bfree b k ∧ K (upd G o.dst F) (bset b k)
theorem gOpT_mono {i : Nat} {K K' : (Nat → Fct) → Bs → Prop} {G : Nat → Fct} {b : Bs} (h : ∀ G b, K G b → K' G b) (hh : gOpT P T J ops a0 w0 i K G b) : gOpT P T J ops a0 w0 i K' G b := by
 unfold gOpT at *
 split
 ·exact h _ _ (by simpa [*] using hh)
 ·rename_i o ho
  simp only [ho] at hh
  obtain ⟨F, k, h1, h2, h3⟩ := hh
  exact ⟨F, k, h1, h2, h _ _ h3⟩
theorem DoesT.gOpT {i : Nat} {o : Oper} {F : Fct} {k : Option Nat} {G : Nat → Fct} {b : Bs} (hi : ops[i]? = some o) (h : DoesT P T J ops a0 w0 G o F k) (hf : bfree b k) {K : (Nat → Fct) → Bs → Prop} (hK : K (upd G o.dst F) (bset b k)) : gOpT P T J ops a0 w0 i K G b := by
 unfold Go.Proofs.YtmcmlkglkpbnpaaGreat.gOpT
 simp only [hi]
 exact ⟨F, k, h, hf, hK⟩
theorem gOpT_put {j : Nat} {oi oj : Oper} {F : Fct} {k : Option Nat} {G : Nat → Fct} {b : Bs} (hj : ops[j]? = some oj) (hap : oi.apart ops oj = true) {K : (Nat → Fct) → Bs → Prop}
  (hy : DoesT P T J ops a0 w0 G oi F k) (hf : bfree b k) (h : gOpT P T J ops a0 w0 j K (upd G oi.dst F) (bset b k)) : gOpT P T J ops a0 w0 j (fun G' b' => DoesT P T J ops a0 w0 G' oi F k ∧ bfree b' k ∧ K (upd G' oi.dst F) (bset b' k)) G b := by
 obtain ⟨h1, h2, h3⟩ := Oper.apart_spec hap
 unfold Go.Proofs.YtmcmlkglkpbnpaaGreat.gOpT at *
 simp only [hj] at *
 obtain ⟨Fj, kj, k1, k2, k3⟩ := h
 refine ⟨Fj, kj, k1.same fun t ht => (upd_other _ _ _ _ fun e => h1 t e ht).symm, bfree_back k2, hy.same fun t ht => upd_other _ _ _ _ fun e => h3 t e ht, bfree_swap hf k2, ?_⟩
 rw [← upd_comm G oi.dst oj.dst F Fj h2, bset_comm b kj k]
 exact k3
theorem wpOp_of_gOpT {i : Nat} {K : (Nat → Fct) → Bs → Prop} {K' : Act → World → Prop} {Q' : Exit → Act → World → Prop} {G : Nat → Fct} {b : Bs} {a : Act} {w : World} (tl : TwoL T J) (hc : CtxT T J ops a0 w0 G b a w)
  (h : ∀ G' b' a' w', CtxT T J ops a0 w0 G' b' a' w' → K G' b' → K' a' w') (hh : gOpT P T J ops a0 w0 i K G b) : wpOp P ops Q' i K' a w := by
 unfold Go.Proofs.YtmcmlkglkpbnpaaGreat.gOpT at hh
 unfold wpOp
 split
 ·rename_i ho; simp only [ho] at hh; exact h _ _ _ _ hc hh
 ·rename_i o ho
  simp only [ho] at hh
  obtain ⟨F, k, ⟨hup, hdo⟩, hf, hK⟩ := hh
  rcases hdo a w b hc.size hc.turned hf hc.st (fun t _ ht => hc.fact t ht) with ⟨hw, hr⟩ | ⟨hw, hr, hk⟩
  ·simp only [hw, if_true]
   refine .inl ?_
   unfold Oper.wp
   generalize (execOp a.eval o).run P w = r at *
   cases r with
   | ok n w' =>
    cases n <;> simp only [sUpon] at hr <;> simp only [Oper.upon]
    case value u =>
     obtain ⟨h1, h2, rfl⟩ := hr
     exact h _ _ _ _ (hc.put tl ho (tl.gb _ _ h1) (tl.J _ _ _ hc.st h1) hup h2) hK
    case skip =>
     obtain ⟨h1, h2, rfl⟩ := hr
     exact h _ _ _ _ (hc.put tl ho (tl.gb _ _ h1) (tl.J _ _ _ hc.st h1) hup h2) hK
    case enter f args =>
     refine hr.2.mono fun e w'' he => ?_
     obtain ⟨v, rfl, hg, hj, hv⟩ := he
     exact h _ _ _ _ (hc.put tl ho (tl.trans _ _ _ (tl.gb _ _ hr.1) hg) hj hup hv) hK
   | halt x w' => simp only [sUpon] at hr
  ·simp only [hw, Bool.false_eq_true, if_false]
   subst hk
   exact h _ _ _ _ (hc.put tl ho (tl.gb _ _ (gb_refl w none)) hc.st hup hr) hK
def wpAnyT (P : Program) (T : World → World → Prop) (J : Bs → World → Prop) (md : Region.Mode) (ops : Array Oper) (a0 : Act) (w0 : World) (n : Nat) (L : Array Bool → (Nat → Fct) → Bs → Prop) : Nat → Array Bool → (Nat → Fct) → Bs → Prop
 | 0, listed, G, b => L listed G b
 | f + 1, listed, G, b => Region.ready md ops listed ≠ [] ∧ ∀ i ∈ Region.ready md ops listed, i < n ∧ gOpT P T J ops a0 w0 i (wpAnyT P T J md ops a0 w0 n L f (listed.setIfInBounds i true)) G b
theorem wpAny_of_tHead {n g : Nat} {L : Array Bool → (Nat → Fct) → Bs → Prop} {Q' : Exit → Act → World → Prop} (tl : TwoL T J) (hL : ∀ listed G b a w, CtxT T J ops a0 w0 G b a w → L listed G b → wpAny P md ops Q' g listed a w) :
  ∀ (f : Nat) (listed : Array Bool) (G : Nat → Fct) (b : Bs) (a : Act) (w : World), CtxT T J ops a0 w0 G b a w → wpAnyT P T J md ops a0 w0 n L f listed G b → wpAny P md ops Q' (f + g) listed a w
 | 0, listed, G, b, a, w, hc, h => by rw [Nat.zero_add]; exact hL _ _ _ _ _ hc h
 | f + 1, listed, G, b, a, w, hc, h => by
  rw [show f + 1 + g = (f + g) + 1 by omega]
  exact ⟨fun h0 => absurd h0 h.1, fun i hi => wpOp_of_gOpT tl hc (fun G' b' a' w' hc' h' => wpAny_of_tHead tl hL f _ G' b' a' w' hc' h') (h.2 i hi).2⟩
theorem wpAnyT_first {n i : Nat} {oi : Oper} {F : Fct} {k0 : Option Nat} {L : Array Bool → (Nat → Fct) → Bs → Prop} (hi : ops[i]? = some oi)
  (hs : Region.sinkB md ops n = true) (hc : Region.chainB md ops n = true) (hn : n < ops.size) (hin : i < n)
  (hdone : ∀ listed G b, L listed G b → ∀ j ∈ Region.ready md ops listed, n ≤ j) :
  ∀ (f : Nat) (listed : Array Bool) (G : Nat → Fct) (b : Bs), HeadInv md ops n listed →
   (∀ j oj, ops[j]? = some oj → j ≠ i → listed.getD j true = false → (∀ e ∈ oj.after, Region.binds md e = true → e.on ≠ i) → oi.apart ops oj = true) →
   i ∈ Region.ready md ops listed → DoesT P T J ops a0 w0 G oi F k0 → bfree b k0 →
   wpAnyT P T J md ops a0 w0 n L f (listed.setIfInBounds i true) (upd G oi.dst F) (bset b k0) → wpAnyT P T J md ops a0 w0 n L (f + 1) listed G b := by
 intro f
 induction f with
 | zero =>
  intro listed G b inv _ hr hy hfr H
  have hun := (mem_ready.1 hr).1
  refine ⟨fun h => (by rw [h] at hr; cases hr), fun j hj => ?_⟩
  have hjn : j < n := by
   rcases Nat.lt_or_ge j n with h | h
   ·exact h
   ·exact absurd hj (tail_waits hs hc hn inv _ i rfl hin hun j h)
  refine ⟨hjn, ?_⟩
  by_cases hji : j = i
  ·subst hji; exact hy.gOpT hi hfr H
  ·have := hdone _ _ _ H j (ready_mono hj hji)
   omega
 | succ f ih =>
  intro listed G b inv hfree hr hy hfr H
  have hun := (mem_ready.1 hr).1
  refine ⟨fun h => (by rw [h] at hr; cases hr), fun j hj => ?_⟩
  have hjn : j < n := by
   rcases Nat.lt_or_ge j n with h | h
   ·exact h
   ·exact absurd hj (tail_waits hs hc hn inv _ i rfl hin hun j h)
  refine ⟨hjn, ?_⟩
  by_cases hji : j = i
  ·subst hji; exact hy.gOpT hi hfr H
  ·have h1 := (H.2 j (ready_mono hj hji)).2
   obtain ⟨hjun, oj, hoj, hall⟩ := mem_ready.1 hj
   have hnot : ∀ e ∈ oj.after, Region.binds md e = true → e.on ≠ i := fun e he hb heq => by
    have h1 := hall e he hb
    rw [heq, getD_both hun] at h1
    cases h1
   have h2 := gOpT_put hoj (hfree j oj hoj hji hjun hnot) hy hfr h1
   have hfree' : ∀ k ok, ops[k]? = some ok → k ≠ i → (listed.setIfInBounds j true).getD k true = false →
     (∀ e ∈ ok.after, Region.binds md e = true → e.on ≠ i) → oi.apart ops ok = true := fun k ok hk hki hun hno => by
    refine hfree k ok hk hki ?_ hno
    by_cases hjk : j = k
    ·subst hjk; exact hjun
    ·rw [getD_set_ne true hjk] at hun; exact hun
   refine gOpT_mono (fun G' b' h3 => ih (listed.setIfInBounds j true) G' b' (inv.set hj hjn) hfree' (ready_mono hr (Ne.symm hji)) h3.1 h3.2.1 ?_) h2
   rw [Array.setIfInBounds_comm _ _ hji]
   exact h3.2.2
def wpFactsT (P : Program) (T : World → World → Prop) (J : Bs → World → Prop) (ops : Array Oper) (a0 : Act) (w0 : World) (L : (Nat → Fct) → Bs → Prop) : List Oper → (Nat → Fct) → Bs → Prop
 | [], G, b => L G b
 | o :: rest, G, b => ∃ F k, DoesT P T J ops a0 w0 G o F k ∧ bfree b k ∧ wpFactsT P T J ops a0 w0 L rest (upd G o.dst F) (bset b k)
theorem wpAnyT_lex {n g : Nat} {Lq : (Nat → Fct) → Bs → Prop} (hsel : Region.noSelect ops = true) (hs : Region.sinkB md ops n = true) (hc : Region.chainB md ops n = true) (hn : n < ops.size) :
  ∀ (l : List Oper) (k : Nat) (listed : Array Bool) (G : Nat → Fct) (b : Bs), (∀ j, j < l.length → l[j]? = ops[k + j]?) → k + l.length = n → HeadInv md ops n listed →
  Region.lexHead md ops g l.length k listed = true → wpFactsT P T J ops a0 w0 Lq l G b →
  wpAnyT P T J md ops a0 w0 n (fun listed' G' b' => Region.seqB md ops g n listed' = true ∧ Lq G' b') l.length listed G b
 | [], k, listed, G, b, _, hk, _, hB, h => by
  have : k = n := by simpa using hk
  subst this
  exact ⟨by simpa [Region.lexHead] using hB, h⟩
 | o :: l, k, listed, G, b, hl, hk, inv, hB, h => by
  have h0 : ops[k]? = some o := by simpa using (hl 0 (by simp)).symm
  simp only [List.length_cons, Region.lexHead, Bool.and_eq_true] at hB
  obtain ⟨⟨hr, hf⟩, hB'⟩ := hB
  have hkn : k < n := by simp only [List.length_cons] at hk; omega
  have hr' : k ∈ Region.ready md ops listed := by simpa using hr
  obtain ⟨F, k0, hy, hfr, hK⟩ := h
  exact wpAnyT_first h0 hs hc hn hkn (fun listed' G' b' hL => seqB_ready hL.1) l.length listed G b inv (Region.free_spec h0 hf) hr' hy hfr
   (wpAnyT_lex hsel hs hc hn l (k + 1) _ _ _ (fun j hj => by have := hl (j + 1) (by simp; omega); simpa [Nat.add_assoc, Nat.add_comm 1 j] using this) (by simp only [List.length_cons] at hk; omega) (inv.set hr' hkn) hB' hK)
theorem wp_region_two {id : Nat} {Q : Exit → Act → World → Prop} {a : Act} {w : World} {l : List Oper} (tl : TwoL T J) (b0 : Bs) (hj : J b0 w.drew) (n : Nat) (hm : P.follows .mixedOrders = true) (hB : Region.lexTailB .any l.toArray n = true)
  (h : wpFactsT P T J l.toArray a w.drew (fun G b => ∀ a' w', CtxT T J l.toArray a w.drew G b a' w' → wpList P l.toArray Q (l.drop n) a' w') (l.take n) (fun t v _ => v = a.eval (.tmp t)) b0) : (Code.region id l.toArray true).wp P Q a w := by
 simp only [Region.lexTailB, Bool.and_eq_true, decide_eq_true_eq] at hB
 obtain ⟨⟨⟨⟨hsel, hn⟩, hs⟩, hc⟩, hlex⟩ := hB
 have hn' : n < l.length := by simpa using hn
 have htl : (l.take n).length = n := by simp; omega
 have hdl : (l.drop n).length = l.toArray.size - n := by simp
 have inv0 : HeadInv .any l.toArray n (Array.replicate l.toArray.size false) :=
  ⟨by simp, fun j oj _ hl => (by rw [getD_replicate_false] at hl; cases hl), fun t _ ht => getD_in (by simpa using ht) (getD_replicate_false _ _)⟩
 have H := wpAnyT_lex (md := .any) (g := l.toArray.size - n) hsel hs hc hn (l.take n) 0 _ _ b0 (fun j hj => by
  have hj' : j < n := by rw [htl] at hj; exact hj
  simp [hj']) (by simpa using htl) inv0 (by rw [htl]; exact hlex) h
 refine wp_region_any hm ?_
 have hst : CtxT T J l.toArray a w.drew (fun t v _ => v = a.eval (.tmp t)) b0 a w.drew := ⟨tl.gb _ _ (gb_refl _ none), hj, rfl, rfl, fun _ _ _ _ h _ => h, fun _ _ => rfl, fun _ _ => rfl⟩
 have := wpAny_of_tHead (Q' := Q) (g := l.toArray.size - n) tl (fun listed G b a' w' hc' hL => by
  have := wpAny_of_seq (md := .any) (Q' := Q) (l.drop n) n listed a' w' (fun j => by simp [List.getElem?_drop]) (by rw [hdl]; exact hL.1) (hL.2 a' w' hc')
  rwa [hdl] at this) _ _ _ _ _ _ hst H
 rw [htl, show n + (l.toArray.size - n) = l.toArray.size by omega] at this
 exact this
theorem wp_region_two' {id : Nat} {Q : Exit → Act → World → Prop} {a : Act} {w : World} {l : List Oper} (tl : TwoL T J) (b0 : Bs) (hj : J b0 w.drew) (n : Nat) (hm : P.follows .mixedOrders = true) (hB : Region.lexTailB .any l.toArray n = true)
  (h : ∀ (A : Act) (O : Array Oper) (W : World) (L : (Nat → Fct) → Bs → Prop), Hid (A = a) → Hid (O = l.toArray) → Hid (W = w.drew) → Hid (∀ G b, (∀ a' w', CtxT T J O A W G b a' w' → wpList P l.toArray Q (l.drop n) a' w') → L G b) →
   wpFactsT P T J O A W L (l.take n) (fun t v _ => v = A.eval (.tmp t)) b0) : (Code.region id l.toArray true).wp P Q a w :=
 wp_region_two tl b0 hj n hm hB (h a l.toArray w.drew _ (hide rfl) (hide rfl) (hide rfl) (hide fun _ _ h => h))
theorem CtxT.frame {G : Nat → Fct} {b : Bs} {a : Act} {w : World} (h : CtxT T J ops a0 w0 G b a w) (ds : List Tmp) (hB : ops.toList.all (fun o => match o.dst with | some d => ds.contains d | none => true) = true) :
  a = ds.foldl (fun b d => b.put (some d) (a.eval (.tmp d))) a0 :=
 Ctx.frame (G := fun _ _ _ => True) (w0 := w) (w := w) ⟨gb_refl w none, h.defers, h.size, fun _ _ _ _ h _ => h, fun _ _ => trivial, h.rest⟩ ds hB
theorem tFacts_step {L : (Nat → Fct) → Bs → Prop} {G : Nat → Fct} {b : Bs} {o : Oper} {rest : List Oper} (tl : TwoL T J) (u : Value) (hg : o.guard = none)
  (h : ∀ (a : Act) (w : World), T w0 w → (∀ t ∈ o.op.operands.toList.filterMap (fun | .tmp t => some t | _ => none), t < a0.tmps.size → G t (a.tmps[t]?.getD undef) w) → gUpon P w (fun v _ => v = u) ((execOp a.eval o).run P w))
  (hr : wpFactsT P T J ops a0 w0 L rest (upd G o.dst (fun v _ => v = u)) b) : wpFactsT P T J ops a0 w0 L (o :: rest) G b :=
 ⟨_, none, ⟨fun _ _ _ h _ => h, fun a w b' hsz hw _ hj hl => .inl ⟨by simp [Region.wanted, hg], by
  have hx := h a w hw fun t ht hs => by
   have h1 := hl t (by unfold Oper.looksAt; exact List.mem_append_left _ ht) hs
   simpa [Act.eval] using h1
  generalize (execOp a.eval o).run P w = r at *
  cases r with
  | ok n w' =>
   cases n <;> simp only [gUpon] at hx <;> simp only [sUpon]
   case value u => exact ⟨hx.1, hx.2, trivial⟩
   case skip => exact ⟨hx.1, hx.2, trivial⟩
   case enter f args => exact ⟨hx.1, hx.2.mono fun e w'' ⟨v, he, hgg, hv⟩ => ⟨v, he, tl.gb _ _ hgg, tl.J _ _ _ (tl.J _ _ _ hj hx.1) hgg, hv⟩⟩
  | halt x w' => simp only [gUpon] at hx⟩⟩, trivial, hr⟩
theorem tFacts_lit {L : (Nat → Fct) → Bs → Prop} {G : Nat → Fct} {b : Bs} {o : Oper} {rest : List Oper} (tl : TwoL T J) (u : Value) (hg : o.guard = none)
  (h : ∀ (a : Act) (w : World), T w0 w → (∀ t ∈ o.op.operands.toList.filterMap (fun | .tmp t => some t | _ => none), t < a0.tmps.size → G t (a.tmps[t]?.getD undef) w) → (execOp a.eval o).run P w = .ok (.value u) w)
  (hr : wpFactsT P T J ops a0 w0 L rest (upd G o.dst (fun v _ => v = u)) b) : wpFactsT P T J ops a0 w0 L (o :: rest) G b :=
 tFacts_step tl u hg (fun a w hw hl => by rw [h a w hw hl]; exact ⟨gb_refl w none, rfl⟩) hr
theorem tFacts_write {L : (Nat → Fct) → Bs → Prop} {G : Nat → Fct} {b : Bs} {o : Oper} {rest : List Oper} (k : Nat) (u : Value) (hg : o.guard = none) (hfr : b k = false)
  (h : ∀ (a : Act) (w : World) (b' : Bs), T w0 w → b' k = false → J b' w → (∀ t ∈ o.op.operands.toList.filterMap (fun | .tmp t => some t | _ => none), t < a0.tmps.size → G t (a.tmps[t]?.getD undef) w) → sUpon P T J b' (some k) w (fun v _ => v = u) ((execOp a.eval o).run P w))
  (hr : wpFactsT P T J ops a0 w0 L rest (upd G o.dst (fun v _ => v = u)) (bset b (some k))) : wpFactsT P T J ops a0 w0 L (o :: rest) G b :=
 ⟨_, some k, ⟨fun _ _ _ h _ => h, fun a w b' hsz hw hf hj hl => .inl ⟨by simp [Region.wanted, hg], h a w b' hw hf hj fun t ht hs => by
  have h1 := hl t (by unfold Oper.looksAt; exact List.mem_append_left _ ht) hs
  simpa [Act.eval] using h1⟩⟩, hfr, hr⟩
theorem sUpon_call {b : Bs} {k : Nat} {w : World} {f : FuncId} {args : Array Value} {u : Value} (h : Calls P f args w fun e w' => e = .returned u ∧ T w w' ∧ J (bset b (some k)) w') : sUpon P T J b (some k) w (fun v _ => v = u) (.ok (.enter f args) w) :=
 ⟨gb_refl w none, h.mono fun _ _ h => ⟨u, h.1, h.2.1, h.2.2, rfl⟩⟩
end
end Go.Proofs.YtmcmlkglkpbnpaaGreat
namespace Go.Proofs.YtmcmlkglkpbnpaaGreat
open Go.RowKit
section
variable {P : Program} {ops : Array Oper} {a0 : Act} {w0 : World} {T : World → World → Prop} {J : Bs → World → Prop}
theorem wanted_of {G : Nat → Fct} {o : Oper} {a : Act} {w : World} {g : Nat} {bv : Bool} {t : Tmp} (hg : o.guard = some (g, bv)) (ht : (ops[g]?).bind (·.dst) = some t) (hs : t < a0.tmps.size) (hG : ∀ v w, G t v w → v = .bool bv) (hsz : a.tmps.size = a0.tmps.size)
  (hl : ∀ t ∈ o.looksAt ops, t < a0.tmps.size → G t (a.eval (.tmp t)) w) : Region.wanted o (yielded ops a.tmps) = true := by
 have hm : t ∈ o.looksAt ops := by unfold Oper.looksAt; rw [hg]; simp only [ht]; simp
 have h1 := hG _ _ (hl t hm hs)
 have h2 : a.tmps[t]? = some (.bool bv) := by
  simp only [Act.eval, Array.getD_eq_getD_getElem?] at h1
  rw [← hsz] at hs
  rw [Array.getElem?_eq_getElem hs] at h1 ⊢
  simpa using h1
 simp [Region.wanted, hg, yielded, ht, h2]
theorem tFacts_stepG {L : (Nat → Fct) → Bs → Prop} {G : Nat → Fct} {b : Bs} {o : Oper} {rest : List Oper} (tl : TwoL T J) (u : Value) (g : Nat) (bv : Bool) (t : Tmp) (hg : o.guard = some (g, bv)) (ht : (ops[g]?).bind (·.dst) = some t) (hs : t < a0.tmps.size) (hG : ∀ v w, G t v w → v = .bool bv)
  (h : ∀ (a : Act) (w : World), T w0 w → (∀ t ∈ o.op.operands.toList.filterMap (fun | .tmp t => some t | _ => none), t < a0.tmps.size → G t (a.tmps[t]?.getD undef) w) → gUpon P w (fun v _ => v = u) ((execOp a.eval o).run P w))
  (hr : wpFactsT P T J ops a0 w0 L rest (upd G o.dst (fun v _ => v = u)) b) : wpFactsT P T J ops a0 w0 L (o :: rest) G b :=
 ⟨_, none, ⟨fun _ _ _ h _ => h, fun a w b' hsz hw _ hj hl => .inl ⟨wanted_of hg ht hs hG hsz hl, by
  have hx := h a w hw fun t ht hs => by
   have h1 := hl t (by unfold Oper.looksAt; exact List.mem_append_left _ ht) hs
   simpa [Act.eval] using h1
  generalize (execOp a.eval o).run P w = r at *
  cases r with
  | ok n w' =>
   cases n <;> simp only [gUpon] at hx <;> simp only [sUpon]
   case value u => exact ⟨hx.1, hx.2, trivial⟩
   case skip => exact ⟨hx.1, hx.2, trivial⟩
   case enter f args => exact ⟨hx.1, hx.2.mono fun e w'' ⟨v, he, hgg, hv⟩ => ⟨v, he, tl.gb _ _ hgg, tl.J _ _ _ (tl.J _ _ _ hj hx.1) hgg, hv⟩⟩
  | halt x w' => simp only [gUpon] at hx⟩⟩, trivial, hr⟩
theorem tFacts_litG {L : (Nat → Fct) → Bs → Prop} {G : Nat → Fct} {b : Bs} {o : Oper} {rest : List Oper} (tl : TwoL T J) (u : Value) (g : Nat) (bv : Bool) (t : Tmp) (hg : o.guard = some (g, bv)) (ht : (ops[g]?).bind (·.dst) = some t) (hs : t < a0.tmps.size) (hG : ∀ v w, G t v w → v = .bool bv)
  (h : ∀ (a : Act) (w : World), T w0 w → (∀ t ∈ o.op.operands.toList.filterMap (fun | .tmp t => some t | _ => none), t < a0.tmps.size → G t (a.tmps[t]?.getD undef) w) → (execOp a.eval o).run P w = .ok (.value u) w)
  (hr : wpFactsT P T J ops a0 w0 L rest (upd G o.dst (fun v _ => v = u)) b) : wpFactsT P T J ops a0 w0 L (o :: rest) G b :=
 tFacts_stepG tl u g bv t hg ht hs hG (fun a w hw hl => by rw [h a w hw hl]; exact ⟨gb_refl w none, rfl⟩) hr
theorem tFacts_writeG {L : (Nat → Fct) → Bs → Prop} {G : Nat → Fct} {b : Bs} {o : Oper} {rest : List Oper} (k : Nat) (u : Value) (hfr : b k = false) (g : Nat) (bv : Bool) (t : Tmp) (hg : o.guard = some (g, bv)) (ht : (ops[g]?).bind (·.dst) = some t) (hs : t < a0.tmps.size) (hG : ∀ v w, G t v w → v = .bool bv)
  (h : ∀ (a : Act) (w : World) (b' : Bs), T w0 w → b' k = false → J b' w → (∀ t ∈ o.op.operands.toList.filterMap (fun | .tmp t => some t | _ => none), t < a0.tmps.size → G t (a.tmps[t]?.getD undef) w) → sUpon P T J b' (some k) w (fun v _ => v = u) ((execOp a.eval o).run P w))
  (hr : wpFactsT P T J ops a0 w0 L rest (upd G o.dst (fun v _ => v = u)) (bset b (some k))) : wpFactsT P T J ops a0 w0 L (o :: rest) G b :=
 ⟨_, some k, ⟨fun _ _ _ h _ => h, fun a w b' hsz hw hf hj hl => .inl ⟨wanted_of hg ht hs hG hsz hl, h a w b' hw hf hj fun t ht hs => by
  have h1 := hl t (by unfold Oper.looksAt; exact List.mem_append_left _ ht) hs
  simpa [Act.eval] using h1⟩⟩, hfr, hr⟩
end
end Go.Proofs.YtmcmlkglkpbnpaaGreat
