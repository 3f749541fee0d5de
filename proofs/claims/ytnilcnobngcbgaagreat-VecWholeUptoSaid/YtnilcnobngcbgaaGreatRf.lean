/-
  A range over a function, walked in the plain walk: the rounds alone stand in a fence. What is handed to a round is told by the iterator (Ok). No program stands in it.
-/
import Derived.RangeFuncMany
import Derived.RangeFuncLeaves
import Derived.RangeFuncCalls
import Derived.OrdersIn
import Derived.TacticsIn
import Derived.RegionTactic
import Derived.Test.YtnilcnobngcbgaaGreatLib
namespace Go.Proofs.YtnilcnobngcbgaaGreat
open Go.RowKit

theorem wide_fn (f : FuncId) : Fence.wide.fn f = True := rfl
theorem wide_depth : Fence.wide.depth = none := rfl
section
variable {P : Program} {l n : Nat} {ops : Array Oper} {Q : Exit → Act → World → Prop}

theorem rowsIn_round {row : String} {args : Array Value} {w : World} {R : Value → World → Prop} (h : Rows P row args w R) : RowsIn (Fence.wide.inRound l) n P row args w R := fun c cs _ => by
  obtain ⟨v, w', r, s⟩ := h c cs
  exact ⟨v, w', r, stepsIn_wide.2 s⟩
theorem callsIn_round {f : FuncId} {args : Array Value} {w : World} {R : Ending → World → Prop} (h : Calls P f args w R) : CallsIn (Fence.wide.inRound l) n P f args w R := CallsIn.inRound l (callsIn_wide.2 h)
/-- An operation of the plain walk, in a round. -/
theorem oper_round {o : Oper} {a : Act} {w : World} {K : Act → World → Prop} (hd : ∀ c, o.op ≠ .defer c) (h : o.wp P a w K Q) : o.wpIn (Fence.wide.inRound l) n P a w K Q := by
  refine ⟨fun _ _ => trivial, ?_⟩
  rw [Oper.semAt_eq _ _ _ hd]
  unfold Oper.wp at h
  generalize (execOp a.eval o).run P w = r at *
  cases r with
  | ok x w' =>
    cases x <;> simp only [Oper.upon] at h <;> simp only [Oper.uponIn] <;>
      first
        | exact h
        | exact ⟨fun e => by simp [Fence.wide] at e, callsIn_round h⟩
        | exact ⟨fun e => by simp [Fence.wide] at e, rowsIn_round h⟩
  | halt x w' => cases x <;> simp only [Oper.upon] at h <;> simp only [Oper.uponIn] <;> exact h
/-- No operation of it defers. -/
def calm (l : List Oper) : Bool := l.all fun o => match o.op with | .defer _ => false | _ => true
theorem calm_at {l : List Oper} (h : calm l = true) {o : Oper} (ho : o ∈ l) : ∀ c, o.op ≠ .defer c := fun c e => by
  have := List.all_eq_true.1 h o ho
  rw [e] at this
  cases this
theorem list_round (hq : ¬ LetsOut Q) : ∀ (r : List Oper) (a : Act) (w : World), calm r = true → wpList P ops Q r a w → wpListIn (Fence.wide.inRound l) n P ops Q r a w
  | [], _, _, _, h => h
  | o :: r, a, w, hc, h => by
    have hr : calm r = true := by
      unfold calm at hc ⊢
      rw [List.all_cons, Bool.and_eq_true] at hc
      exact hc.2
    have ho := calm_at hc (o := o) (by simp)
    unfold wpList at h
    unfold wpListIn
    by_cases hw : Region.wanted o (yielded ops a.tmps) = true
    · rw [if_pos hw] at h ⊢
      rcases h with h | h
      · exact Oper.wpIn_mono (fun a w h => list_round hq r a w hr h) (oper_round ho h)
      · exact absurd h.2 hq
    · rw [if_neg hw] at h ⊢
      exact ⟨fun _ _ => trivial, list_round hq r _ _ hr h⟩
theorem any_round {md : Region.Mode} (hq : ¬ LetsOut Q) (hc : calm ops.toList = true) : ∀ (f : Nat) (listed : Array Bool) (a : Act) (w : World), wpAny P md ops Q f listed a w → wpAnyIn (Fence.wide.inRound l) n P md ops Q f listed a w
  | 0, _, _, _, h => h
  | f + 1, listed, a, w, h => by
    refine ⟨h.1, fun i hi => ?_⟩
    have hh := h.2 i hi
    unfold wpOp at hh
    unfold wpOpIn
    split
    · rename_i ho; rw [ho] at hh; exact any_round hq hc f _ _ _ hh
    · rename_i o ho
      rw [ho] at hh
      simp only at hh
      have hd := calm_at hc (o := o) (Array.mem_toList_iff.2 (Array.mem_of_getElem? ho))
      by_cases hw : Region.wanted o (yielded ops a.tmps) = true
      · rw [if_pos hw] at hh ⊢
        rcases hh with hh | hh
        · exact Oper.wpIn_mono (fun a w h => any_round hq hc f _ a w h) (oper_round hd hh)
        · exact absurd hh.2 hq
      · rw [if_neg hw] at hh ⊢
        exact ⟨fun _ _ => trivial, any_round hq hc f _ _ _ hh⟩
/-- A region, by its plain walk. -/
theorem region_round {id : Nat} {ops : List Oper} {a : Act} {w : World} (hq : ¬ LetsOut Q) (hc : calm ops = true) (h : wpList P ops.toArray Q ops a w) : (Code.region id ops.toArray false).wpIn (Fence.wide.inRound l) n P Q a w :=
  wpIn_region_lit (list_round hq ops a w hc h)
theorem region_round_any {id : Nat} {ops : List Oper} {a : Act} {w : World} (hq : ¬ LetsOut Q) (hc : calm ops = true) (hm : P.follows .mixedOrders = true) (h : wpAny P .any ops.toArray Q ops.toArray.size (Array.replicate ops.toArray.size false) a w.drew) : (Code.region id ops.toArray true).wpIn (Fence.wide.inRound l) n P Q a w :=
  wpIn_region_any hm (any_round hq (by simpa using hc) _ _ _ _ h)
end

/-- What an iterator owes: it hands over N things, one by one, each as Ok tells; what a round leaves as Kp says it can go on. -/
def SeqC {α : Type} (P : Program) (gf : Nat) (lb : Array Value) (encs : α → Array Value) (Ok : Nat → α → World → World → Prop) (Kp : World → World → Prop) (N : Nat) (w0 : World) : Prop :=
  ∀ (l : Nat) (J : Nat → World → Prop) (Jx : World → Prop) (W : World), w0.grownBy W none → (∀ i A B, J i A → A.grownBy B none → J i B) →
    (∀ i x W0 W1, J i W0 → W0.grownBy W1 none → i < N → Ok i x W0 W1 → YieldAt Fence.wide 0 P l (encs x) W1 fun e W' => (e = .returned (.bool true) ∧ J (i + 1) W' ∧ Kp W1 W') ∨ (e = .returned (.bool false) ∧ Jx W')) →
    J 0 W → CallsIn Fence.wide 0 P gf (#[.func (.yield l) #[] #[]] ++ lb) W fun e W' => (∃ v, e = .returned v) ∧ (J N W' ∨ Jx W')

/-- What became of the loop's two blocks: nothing. -/
def Keep2 (D : Nat) (A B : World) : Prop := A.heap.size ≤ B.heap.size ∧ B.heap[D]? = A.heap[D]? ∧ B.heap[D + 1]? = A.heap[D + 1]?
theorem Keep2.refl_ (D : Nat) (A : World) : Keep2 D A A := ⟨Nat.le_refl _, rfl, rfl⟩
theorem Keep2.trans_ {D : Nat} {A B C : World} (h : Keep2 D A B) (k : Keep2 D B C) : Keep2 D A C := ⟨Nat.le_trans h.1 k.1, k.2.1.trans h.2.1, k.2.2.trans h.2.2⟩
theorem Keep2.of_gb {D : Nat} {A B : World} (h : A.grownBy B none) (hD : D + 1 < A.heap.size) : Keep2 D A B := ⟨h.size, h.block D (by omega) (by simp), h.block (D + 1) hD (by simp)⟩
/-- How a round's body may be left. -/
def postC (D : Nat) (Kp : World → World → Prop) (I : Nat → World → Prop) (Ix : Code → World → Prop) (i : Nat) (W W2 : World) : Exit → Act → World → Prop
  | .normal, _, W' => Keep2 D W2 W' ∧ Kp W W' ∧ I (i + 1) W'
  | .ret, _, W' => Keep2 D W2 W' ∧ Ix .ret W'
  | .exit id, _, W' => Keep2 D W2 W' ∧ Ix (.exit id) W'
  | .goto _, _, _ => False
  | .panic _, _, _ => False
  | .outgrown, _, _ => False

/-- The record of a loop lies there. -/
def LoopAt (w : World) (b : Nat) : Prop := ∃ r, w.heap[b]? = some (.loop r)

theorem gb_loopPut (W : World) (b : Nat) (o : Obj) : W.grownBy (W.putObj b o) (some b) := grownBy_putObj' W b o

theorem wp_rangeFunc_c {P : Program} {α : Type} {g : Operand} {ps : Array Tmp} {assign body : Code} {Q : Exit → Act → World → Prop} {a : Act} {w : World}
    {gf : Nat} {lb : Array Value} (hg : a.eval g = .func (.func gf) #[] lb) (eg : ∀ args w, (callFunc gf args).run P w = .ok (.enter gf args) w)
    {encs : α → Array Value} {Ok : Nat → α → World → World → Prop} {Kp : World → World → Prop} {N : Nat} {w0 : World} (hseq : SeqC P gf lb encs Ok Kp N w0) (hb0 : w0.grownBy w none) (hps : ∀ x, (encs x).size = ps.size)
    (I : Nat → World → Prop) (Ix : Code → World → Prop)
    (hI : ∀ i A B, I i A → LoopAt A (w.heap.size + 1) → A.grownBy B (some (w.heap.size + 1)) → I i B)
    (hIx : ∀ c A B, Ix c A → LoopAt A (w.heap.size + 1) → A.grownBy B (some (w.heap.size + 1)) → Ix c B)
    (hKp : ∀ A B C, Kp A B → LoopAt B (w.heap.size + 1) → B.grownBy C (some (w.heap.size + 1)) → Kp A C)
    (h0 : ∀ B, w.grownBy B none → w.heap.size + 2 ≤ B.heap.size → I 0 B)
    (hround : ∀ i x W0 W, I i W0 → W0.grownBy W none → i < N → Ok i x W0 W → w.heap.size + 2 ≤ W0.heap.size → LoopAt W (w.heap.size + 1) →
      assign.wpIn (Fence.wide.inRound (w.heap.size + 1)) 0 P (Exit.then (fun a₁ w₁ => Keep2 w.heap.size W w₁ ∧ ∀ w₂, w₁.grownBy w₂ (some (w.heap.size + 1)) → LoopAt w₁ (w.heap.size + 1) → body.wpIn (Fence.wide.inRound (w.heap.size + 1)) 0 P (postC w.heap.size Kp I Ix i W w₂) a₁ w₂) (fun _ _ _ => False))
        { tmps := (ps.zip (encs x)).foldl (fun t (p, v) => t.setIfInBounds p v) a.tmps, defers := [] } W)
    (hdone : ∀ W, I N W → w.heap.size + 2 ≤ W.heap.size → W.heap[w.heap.size]? = some (.deferred (some [])) → Q .normal { a with defers := { target := .collected w.heap.size, args := #[] } :: a.defers } W)
    (hstop : ∀ c W, Ix c W → w.heap.size + 2 ≤ W.heap.size → W.heap[w.heap.size]? = some (.deferred (some [])) → c.wp P Q { a with defers := { target := .collected w.heap.size, args := #[] } :: a.defers } W) :
    (Code.rangeFunc g ps assign body).wp P Q a w := by
  refine (wpIn_wide (n := 0)).1 (wpIn_rangeFunc ?_)
  intro fn _
  obtain ⟨rec, hrec⟩ : ∃ rec : LoopState → Option Code → Loop, rec = fun st pe => { state := st, pending := pe, fn, tmps := a.tmps, params := ps, assign, body, defers := w.heap.size } := ⟨_, rfl⟩
  obtain ⟨W1, hW1⟩ : ∃ W1, (w.alloc (.deferred (some []))).alloc (.loop (rec .ready none)) = W1 := ⟨_, rfl⟩
  have hL1 : W1.heap[w.heap.size + 1]? = some (.loop (rec .ready none)) := by
    rw [← hW1]; have := World.alloc_heap_new (w.alloc (.deferred (some []))) (.loop (rec .ready none)); rwa [World.size_alloc] at this
  have hK1 : W1.heap[w.heap.size]? = some (.deferred (some [])) := by
    rw [← hW1]; exact (Below.heap_alloc _ _ _ (by simp)).trans (World.alloc_heap_new w _)
  have hg1 : w.grownBy W1 none := by rw [← hW1]; exact gb_alloc (gb_alloc (gb_refl w none) _) _
  have hs1 : W1.heap.size = w.heap.size + 2 := by rw [← hW1]; simp
  have hI1 : I 0 W1 := h0 _ hg1 (by omega)
  refine ⟨w.heap.size + 1, [{ target := .collected w.heap.size, args := #[] }], W1, { target := .fn (.func gf) lb, args := #[.func (.yield (w.heap.size + 1)) #[] #[]] }, W1, gf,
    #[.func (.yield (w.heap.size + 1)) #[] #[]] ++ lb, W1, ?_, ?_, ?_, ?_, fun e => by simp [Fence.wide] at e, ?_⟩
  · rw [← hW1, hrec]; exact run_enterLoop_outer _ _ _ _ _
  · simp only [resolve, hg]
    simp [go_sem]
  · intro f' _; trivial
  · simp [invoke, go_sem, eg]
  · refine (hseq (w.heap.size + 1)
      (fun i W => I i W ∧ w.heap.size + 2 ≤ W.heap.size ∧ W.heap[w.heap.size + 1]? = some (.loop (rec .ready none)) ∧ W.heap[w.heap.size]? = some (.deferred (some [])))
      (fun W => ∃ c, Ix c W ∧ w.heap.size + 2 ≤ W.heap.size ∧ W.heap[w.heap.size + 1]? = some (.loop (rec .done (some c))) ∧ W.heap[w.heap.size]? = some (.deferred (some [])))
      W1 (gb_trans hb0 hg1 (.inl rfl)) ?_ ?_ ⟨hI1, by omega, hL1, hK1⟩).mono ?_
    · rintro i A B ⟨h1, h2, h3, h4⟩ hAB
      exact ⟨hI i A B h1 ⟨_, h3⟩ (gb_some hAB _), Nat.le_trans h2 hAB.size, (hAB.block _ (by omega) (by simp)).trans h3, (hAB.block _ (by omega) (by simp)).trans h4⟩
    · rintro i x W0 W ⟨hi, hsz0, hl0, hk0⟩ hgr hlt hok
      have hl : W.heap[w.heap.size + 1]? = some (.loop (rec .ready none)) := (hgr.block _ (by omega) (by simp)).trans hl0
      have hk : W.heap[w.heap.size]? = some (.deferred (some [])) := (hgr.block _ (by omega) (by simp)).trans hk0
      have hsz : w.heap.size + 2 ≤ W.heap.size := Nat.le_trans hsz0 hgr.size
      have hy := run_yield (P := P) (args := encs x) hl (by rw [hrec]; exact hps x)
      rw [hrec] at hy
      refine ⟨fn, _, assign, body, hy, roundIn_of_wpIn trivial (Go.wpIn_mono (hround i x W0 W hi hgr hlt hok hsz0 ⟨_, hl⟩) ?_)⟩
      rintro e a₁ w₁ hp
      cases e with
      | normal =>
        obtain ⟨hk2, hbody⟩ := hp
        have hl1 : w₁.heap[w.heap.size + 1]? = some (.loop (rec .ready none)) := hk2.2.2.trans hl
        have hkk : w₁.heap[w.heap.size]? = some (.deferred (some [])) := hk2.2.1.trans hk
        have hz1 := hk2.1
        have hlt1 : w.heap.size + 1 < w₁.heap.size := by omega
        refine ⟨_, run_beginRound hl1 (by rw [hrec]), ?_⟩
        have hl2 : (w₁.putObj (w.heap.size + 1) (.loop { rec .ready none with state := .busy })).heap[w.heap.size + 1]? = some (.loop { rec .ready none with state := .busy }) := World.putObj_heap_same hlt1
        have hk2' : (w₁.putObj (w.heap.size + 1) (.loop { rec .ready none with state := .busy })).heap[w.heap.size]? = some (.deferred (some [])) := (World.putObj_heap_other (by omega)).trans hkk
        have hgp := gb_loopPut w₁ (w.heap.size + 1) (.loop { rec .ready none with state := .busy })
        have hzp := hgp.size
        refine Go.wpIn_mono (hbody _ hgp ⟨_, hl1⟩) ?_
        have fin : ∀ (jump : Option Code) (W3 : World), Keep2 w.heap.size (w₁.putObj (w.heap.size + 1) (.loop { rec .ready none with state := .busy })) W3 →
            (Instr.endRound (w.heap.size + 1) jump).run P W3 = .ok (.bool jump.isNone) (W3.putObj (w.heap.size + 1) (.loop (rec (if jump.isNone then .ready else .done) jump))) ∧
            W3.heap[w.heap.size + 1]? = some (.loop { rec .ready none with state := .busy }) ∧
            (W3.putObj (w.heap.size + 1) (.loop (rec (if jump.isNone then .ready else .done) jump))).heap[w.heap.size + 1]? = some (.loop (rec (if jump.isNone then .ready else .done) jump)) ∧
            (W3.putObj (w.heap.size + 1) (.loop (rec (if jump.isNone then .ready else .done) jump))).heap[w.heap.size]? = some (.deferred (some [])) ∧
            w.heap.size + 2 ≤ (W3.putObj (w.heap.size + 1) (.loop (rec (if jump.isNone then .ready else .done) jump))).heap.size := fun jump W3 hk3 => by
          have hl3 := hk3.2.2.trans hl2
          have hz3 := hk3.1
          have := run_endRound (P := P) jump hl3
          rw [hrec] at this ⊢
          have hlt3 : w.heap.size + 1 < W3.heap.size := by omega
          refine ⟨this, by rw [hrec] at hl3; exact hl3, World.putObj_heap_same hlt3, (World.putObj_heap_other (by omega)).trans (hk3.2.1.trans hk2'), ?_⟩
          have := (gb_loopPut W3 (w.heap.size + 1) (.loop ((fun st pe => { state := st, pending := pe, fn, tmps := a.tmps, params := ps, assign, body, defers := w.heap.size : Loop }) (if jump.isNone then .ready else .done) jump))).size
          omega
        rintro e a3 W3 hp3
        cases e with
        | normal =>
          obtain ⟨hk3, hkp3, hi3⟩ := hp3
          obtain ⟨hr, hl3, hl4, hk4, hz4⟩ := fin none W3 hk3
          exact ⟨_, _, hr, .inl ⟨rfl, ⟨hI _ _ _ hi3 ⟨_, hl3⟩ (gb_loopPut _ _ _), hz4, hl4, hk4⟩, hKp _ _ _ hkp3 ⟨_, hl3⟩ (gb_loopPut _ _ _)⟩⟩
        | ret =>
          obtain ⟨hk3, hi3⟩ := hp3
          obtain ⟨hr, hl3, hl4, hk4, hz4⟩ := fin (some .ret) W3 hk3
          exact ⟨_, _, hr, .inr ⟨rfl, .ret, hIx _ _ _ hi3 ⟨_, hl3⟩ (gb_loopPut _ _ _), hz4, hl4, hk4⟩⟩
        | exit id =>
          obtain ⟨hk3, hi3⟩ := hp3
          obtain ⟨hr, hl3, hl4, hk4, hz4⟩ := fin (some (.exit id)) W3 hk3
          exact ⟨_, _, hr, .inr ⟨rfl, .exit id, hIx _ _ _ hi3 ⟨_, hl3⟩ (gb_loopPut _ _ _), hz4, hl4, hk4⟩⟩
        | goto t => exact hp3.elim
        | panic ch => exact hp3.elim
        | outgrown => exact hp3.elim
      | ret => exact hp.elim
      | exit id => exact hp.elim
      | goto t => exact hp.elim
      | panic ch => exact hp.elim
      | outgrown => exact hp.elim
    · rintro e W2 ⟨⟨v, rfl⟩, (⟨hi, hz, hl, hk⟩ | ⟨c, hi, hz, hl, hk⟩)⟩
      · have hz' := (gb_loopPut W2 (w.heap.size + 1) (.loop (rec .ready none))).size
        refine ⟨none, _, by have := run_endLoop (P := P) hl (by rw [hrec]; simp); rw [hrec] at this; exact this, hdone _ (hI _ _ _ hi ⟨_, hl⟩ (gb_loopPut _ _ _)) ?_ ((World.putObj_heap_other (by omega)).trans hk)⟩
        exact Nat.le_trans hz ((gb_loopPut W2 (w.heap.size + 1) _).size)
      · refine ⟨some c, _, by have := run_endLoop (P := P) hl (by rw [hrec]; simp); rw [hrec] at this; exact this, wpIn_wide.2 (hstop c _ (hIx _ _ _ hi ⟨_, hl⟩ (gb_loopPut _ _ _)) ?_ ((World.putObj_heap_other (by omega)).trans hk))⟩
        exact Nat.le_trans hz ((gb_loopPut W2 (w.heap.size + 1) _).size)
end Go.Proofs.YtnilcnobngcbgaaGreat
