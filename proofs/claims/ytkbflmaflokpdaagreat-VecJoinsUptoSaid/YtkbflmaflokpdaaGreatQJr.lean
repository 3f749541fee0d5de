/-
  value.At of what is no table and no dictionary, of any size; value.Each of it.
-/
import Derived.RangeFuncMany
import Derived.RangeFuncLeaves
import Derived.RangeFuncCalls
import Derived.OrdersIn
import Derived.TacticsIn
import Derived.RegionTactic
import Derived.Test.YtkbflmaflokpdaaGreatQLib
import Derived.Test.YtkbflmaflokpdaaGreatQJn
import Derived.Test.YtkbflmaflokpdaaGreatQJd
import Derived.OwnWalkIn
import Derived.TacticsInMore
import Derived.LoopNIn
import Derived.LoopIn
import Derived.Deep.CutBlock
import Derived.Deep.DeepCutAuto

namespace Go.Proofs.YtkbflmaflokpdaaGreat
open Go.RowKit

theorem wide_fn (f : FuncId) : Fence.wide.fn f = True := rfl
theorem wide_depth : Fence.wide.depth = none := rfl
section
variable {P : Program} {l n : Nat} {ops : Array Oper} {Q : Exit → Act → World → Prop}

theorem rowsIn_round {row : String} {args : Array Value} {w : World} {R : Value → World → Prop} (h : Rows P row args w R) : RowsIn (Fence.wide.inRound l) n P row args w R := fun c cs _ => by
  obtain ⟨v, w', r, s⟩ := h c cs
  exact ⟨v, w', r, stepsIn_wide.2 s⟩
theorem callsIn_round {f : FuncId} {args : Array Value} {w : World} {R : Ending → World → Prop} (h : Calls P f args w R) : CallsIn (Fence.wide.inRound l) n P f args w R := CallsIn.inRound l (callsIn_wide.2 h)
/-- An operation of the plain walk, in a round. -/
theorem oper_round {o : Oper} {a : Act} {w : World} {K : Act → World → Prop} (hd : ∀ c, o.op ≠ .defer c) (h : o.wp P a w K Q) : o.wpIn (Fence.wide.inRound l) n P a w K Q := by
  refine ⟨fun _ _ => trivial, ?_⟩
  rw [Oper.semAt_eq _ _ _ hd]
  unfold Oper.wp at h
  generalize (execOp a.eval o).run P w = r at *
  cases r with
  | ok x w' =>
    cases x <;> simp only [Oper.upon] at h <;> simp only [Oper.uponIn] <;>
      first
        | exact h
        | exact ⟨fun e => by simp [Fence.wide] at e, callsIn_round h⟩
        | exact ⟨fun e => by simp [Fence.wide] at e, rowsIn_round h⟩
  | halt x w' => cases x <;> simp only [Oper.upon] at h <;> simp only [Oper.uponIn] <;> exact h
/-- No operation of it defers. -/
def calm (l : List Oper) : Bool := l.all fun o => match o.op with | .defer _ => false | _ => true
theorem calm_at {l : List Oper} (h : calm l = true) {o : Oper} (ho : o ∈ l) : ∀ c, o.op ≠ .defer c := fun c e => by
  have := List.all_eq_true.1 h o ho
  rw [e] at this
  cases this
theorem any_round {md : Region.Mode} (hq : ¬ LetsOut Q) (hc : calm ops.toList = true) : ∀ (f : Nat) (listed : Array Bool) (a : Act) (w : World), wpAny P md ops Q f listed a w → wpAnyIn (Fence.wide.inRound l) n P md ops Q f listed a w
  | 0, _, _, _, h => h
  | f + 1, listed, a, w, h => by
    refine ⟨h.1, fun i hi => ?_⟩
    have hh := h.2 i hi
    unfold wpOp at hh
    unfold wpOpIn
    split
    · rename_i ho; rw [ho] at hh; exact any_round hq hc f _ _ _ hh
    · rename_i o ho
      rw [ho] at hh
      simp only at hh
      have hd := calm_at hc (o := o) (Array.mem_toList_iff.2 (Array.mem_of_getElem? ho))
      by_cases hw : Region.wanted o (yielded ops a.tmps) = true
      · rw [if_pos hw] at hh ⊢
        rcases hh with hh | hh
        · exact Oper.wpIn_mono (fun a w h => any_round hq hc f _ a w h) (oper_round hd hh)
        · exact absurd hh.2 hq
      · rw [if_neg hw] at hh ⊢
        exact ⟨fun _ _ => trivial, any_round hq hc f _ _ _ hh⟩
theorem region_round_any {id : Nat} {ops : List Oper} {a : Act} {w : World} (hq : ¬ LetsOut Q) (hc : calm ops = true) (hm : P.follows .mixedOrders = true) (h : wpAny P .any ops.toArray Q ops.toArray.size (Array.replicate ops.toArray.size false) a w.drew) : (Code.region id ops.toArray true).wpIn (Fence.wide.inRound l) n P Q a w :=
  wpIn_region_any hm (any_round hq (by simpa using hc) _ _ _ _ h)
end

/-- What an iterator owes: it hands over N things, one by one, each as Ok tells; what a round leaves as Kp says it can go on. -/
def SeqC {α : Type} (P : Program) (gf : Nat) (lb : Array Value) (encs : α → Array Value) (Ok : Nat → α → World → World → Prop) (Kp : World → World → Prop) (N : Nat) (w0 : World) : Prop :=
  ∀ (l : Nat) (J : Nat → World → Prop) (Jx : World → Prop) (W : World), w0.grownBy W none → (∀ i A B, J i A → A.grownBy B none → J i B) →
    (∀ i x W0 W1, J i W0 → W0.grownBy W1 none → i < N → Ok i x W0 W1 → YieldAt Fence.wide 0 P l (encs x) W1 fun e W' => (e = .returned (.bool true) ∧ J (i + 1) W' ∧ Kp W1 W') ∨ (e = .returned (.bool false) ∧ Jx W')) →
    J 0 W → CallsIn Fence.wide 0 P gf (#[.func (.yield l) #[] #[]] ++ lb) W fun e W' => (∃ v, e = .returned v) ∧ (J N W' ∨ Jx W')

/-- What became of the loop's two blocks: nothing. -/
def Keep2 (D : Nat) (A B : World) : Prop := A.heap.size ≤ B.heap.size ∧ B.heap[D]? = A.heap[D]? ∧ B.heap[D + 1]? = A.heap[D + 1]?
theorem Keep2.refl_ (D : Nat) (A : World) : Keep2 D A A := ⟨Nat.le_refl _, rfl, rfl⟩
theorem Keep2.trans_ {D : Nat} {A B C : World} (h : Keep2 D A B) (k : Keep2 D B C) : Keep2 D A C := ⟨Nat.le_trans h.1 k.1, k.2.1.trans h.2.1, k.2.2.trans h.2.2⟩
theorem Keep2.of_gb {D : Nat} {A B : World} (h : A.grownBy B none) (hD : D + 1 < A.heap.size) : Keep2 D A B := ⟨h.size, h.block D (by omega) (by simp), h.block (D + 1) hD (by simp)⟩
/-- How a round's body may be left. -/
def postC (D : Nat) (Kp : World → World → Prop) (I : Nat → World → Prop) (Ix : Code → World → Prop) (i : Nat) (W W2 : World) : Exit → Act → World → Prop
  | .normal, _, W' => Keep2 D W2 W' ∧ Kp W W' ∧ I (i + 1) W'
  | .ret, _, W' => Keep2 D W2 W' ∧ Ix .ret W'
  | .exit id, _, W' => Keep2 D W2 W' ∧ Ix (.exit id) W'
  | .goto _, _, _ => False
  | .panic _, _, _ => False
  | .outgrown, _, _ => False

/-- The record of a loop lies there. -/
def LoopAt (w : World) (b : Nat) : Prop := ∃ r, w.heap[b]? = some (.loop r)

theorem gb_loopPut (W : World) (b : Nat) (o : Obj) : W.grownBy (W.putObj b o) (some b) := grownBy_putObj' W b o

theorem wp_rangeFunc_c {P : Program} {α : Type} {g : Operand} {ps : Array Tmp} {assign body : Code} {Q : Exit → Act → World → Prop} {a : Act} {w : World}
    {gf : Nat} {lb : Array Value} (hg : a.eval g = .func (.func gf) #[] lb) (eg : ∀ args w, (callFunc gf args).run P w = .ok (.enter gf args) w)
    {encs : α → Array Value} {Ok : Nat → α → World → World → Prop} {Kp : World → World → Prop} {N : Nat} {w0 : World} (hseq : SeqC P gf lb encs Ok Kp N w0) (hb0 : w0.grownBy w none) (hps : ∀ x, (encs x).size = ps.size)
    (I : Nat → World → Prop) (Ix : Code → World → Prop)
    (hI : ∀ i A B, I i A → LoopAt A (w.heap.size + 1) → A.grownBy B (some (w.heap.size + 1)) → I i B)
    (hIx : ∀ c A B, Ix c A → LoopAt A (w.heap.size + 1) → A.grownBy B (some (w.heap.size + 1)) → Ix c B)
    (hKp : ∀ A B C, Kp A B → LoopAt B (w.heap.size + 1) → B.grownBy C (some (w.heap.size + 1)) → Kp A C)
    (h0 : ∀ B, w.grownBy B none → w.heap.size + 2 ≤ B.heap.size → I 0 B)
    (hround : ∀ i x W0 W, I i W0 → W0.grownBy W none → i < N → Ok i x W0 W → w.heap.size + 2 ≤ W0.heap.size → LoopAt W (w.heap.size + 1) →
      assign.wpIn (Fence.wide.inRound (w.heap.size + 1)) 0 P (Exit.then (fun a₁ w₁ => Keep2 w.heap.size W w₁ ∧ ∀ w₂, w₁.grownBy w₂ (some (w.heap.size + 1)) → LoopAt w₁ (w.heap.size + 1) → body.wpIn (Fence.wide.inRound (w.heap.size + 1)) 0 P (postC w.heap.size Kp I Ix i W w₂) a₁ w₂) (fun _ _ _ => False))
        { tmps := (ps.zip (encs x)).foldl (fun t (p, v) => t.setIfInBounds p v) a.tmps, defers := [] } W)
    (hdone : ∀ W, I N W → w.heap.size + 2 ≤ W.heap.size → W.heap[w.heap.size]? = some (.deferred (some [])) → Q .normal { a with defers := { target := .collected w.heap.size, args := #[] } :: a.defers } W)
    (hstop : ∀ c W, Ix c W → w.heap.size + 2 ≤ W.heap.size → W.heap[w.heap.size]? = some (.deferred (some [])) → c.wp P Q { a with defers := { target := .collected w.heap.size, args := #[] } :: a.defers } W) :
    (Code.rangeFunc g ps assign body).wp P Q a w := by
  refine (wpIn_wide (n := 0)).1 (wpIn_rangeFunc ?_)
  intro fn _
  obtain ⟨rec, hrec⟩ : ∃ rec : LoopState → Option Code → Loop, rec = fun st pe => { state := st, pending := pe, fn, tmps := a.tmps, params := ps, assign, body, defers := w.heap.size } := ⟨_, rfl⟩
  obtain ⟨W1, hW1⟩ : ∃ W1, (w.alloc (.deferred (some []))).alloc (.loop (rec .ready none)) = W1 := ⟨_, rfl⟩
  have hL1 : W1.heap[w.heap.size + 1]? = some (.loop (rec .ready none)) := by
    rw [← hW1]; have := World.alloc_heap_new (w.alloc (.deferred (some []))) (.loop (rec .ready none)); rwa [World.size_alloc] at this
  have hK1 : W1.heap[w.heap.size]? = some (.deferred (some [])) := by
    rw [← hW1]; exact (Below.heap_alloc _ _ _ (by simp)).trans (World.alloc_heap_new w _)
  have hg1 : w.grownBy W1 none := by rw [← hW1]; exact gb_alloc (gb_alloc (gb_refl w none) _) _
  have hs1 : W1.heap.size = w.heap.size + 2 := by rw [← hW1]; simp
  have hI1 : I 0 W1 := h0 _ hg1 (by omega)
  refine ⟨w.heap.size + 1, [{ target := .collected w.heap.size, args := #[] }], W1, { target := .fn (.func gf) lb, args := #[.func (.yield (w.heap.size + 1)) #[] #[]] }, W1, gf,
    #[.func (.yield (w.heap.size + 1)) #[] #[]] ++ lb, W1, ?_, ?_, ?_, ?_, fun e => by simp [Fence.wide] at e, ?_⟩
  · rw [← hW1, hrec]; exact run_enterLoop_outer _ _ _ _ _
  · simp only [resolve, hg]
    simp [go_sem]
  · intro f' _; trivial
  · simp [invoke, go_sem, eg]
  · refine (hseq (w.heap.size + 1)
      (fun i W => I i W ∧ w.heap.size + 2 ≤ W.heap.size ∧ W.heap[w.heap.size + 1]? = some (.loop (rec .ready none)) ∧ W.heap[w.heap.size]? = some (.deferred (some [])))
      (fun W => ∃ c, Ix c W ∧ w.heap.size + 2 ≤ W.heap.size ∧ W.heap[w.heap.size + 1]? = some (.loop (rec .done (some c))) ∧ W.heap[w.heap.size]? = some (.deferred (some [])))
      W1 (gb_trans hb0 hg1 (.inl rfl)) ?_ ?_ ⟨hI1, by omega, hL1, hK1⟩).mono ?_
    · rintro i A B ⟨h1, h2, h3, h4⟩ hAB
      exact ⟨hI i A B h1 ⟨_, h3⟩ (gb_some hAB _), Nat.le_trans h2 hAB.size, (hAB.block _ (by omega) (by simp)).trans h3, (hAB.block _ (by omega) (by simp)).trans h4⟩
    · rintro i x W0 W ⟨hi, hsz0, hl0, hk0⟩ hgr hlt hok
      have hl : W.heap[w.heap.size + 1]? = some (.loop (rec .ready none)) := (hgr.block _ (by omega) (by simp)).trans hl0
      have hk : W.heap[w.heap.size]? = some (.deferred (some [])) := (hgr.block _ (by omega) (by simp)).trans hk0
      have hsz : w.heap.size + 2 ≤ W.heap.size := Nat.le_trans hsz0 hgr.size
      have hy := run_yield (P := P) (args := encs x) hl (by rw [hrec]; exact hps x)
      rw [hrec] at hy
      refine ⟨fn, _, assign, body, hy, roundIn_of_wpIn trivial (Go.wpIn_mono (hround i x W0 W hi hgr hlt hok hsz0 ⟨_, hl⟩) ?_)⟩
      rintro e a₁ w₁ hp
      cases e with
      | normal =>
        obtain ⟨hk2, hbody⟩ := hp
        have hl1 : w₁.heap[w.heap.size + 1]? = some (.loop (rec .ready none)) := hk2.2.2.trans hl
        have hkk : w₁.heap[w.heap.size]? = some (.deferred (some [])) := hk2.2.1.trans hk
        have hz1 := hk2.1
        have hlt1 : w.heap.size + 1 < w₁.heap.size := by omega
        refine ⟨_, run_beginRound hl1 (by rw [hrec]), ?_⟩
        have hl2 : (w₁.putObj (w.heap.size + 1) (.loop { rec .ready none with state := .busy })).heap[w.heap.size + 1]? = some (.loop { rec .ready none with state := .busy }) := World.putObj_heap_same hlt1
        have hk2' : (w₁.putObj (w.heap.size + 1) (.loop { rec .ready none with state := .busy })).heap[w.heap.size]? = some (.deferred (some [])) := (World.putObj_heap_other (by omega)).trans hkk
        have hgp := gb_loopPut w₁ (w.heap.size + 1) (.loop { rec .ready none with state := .busy })
        have hzp := hgp.size
        refine Go.wpIn_mono (hbody _ hgp ⟨_, hl1⟩) ?_
        have fin : ∀ (jump : Option Code) (W3 : World), Keep2 w.heap.size (w₁.putObj (w.heap.size + 1) (.loop { rec .ready none with state := .busy })) W3 →
            (Instr.endRound (w.heap.size + 1) jump).run P W3 = .ok (.bool jump.isNone) (W3.putObj (w.heap.size + 1) (.loop (rec (if jump.isNone then .ready else .done) jump))) ∧
            W3.heap[w.heap.size + 1]? = some (.loop { rec .ready none with state := .busy }) ∧
            (W3.putObj (w.heap.size + 1) (.loop (rec (if jump.isNone then .ready else .done) jump))).heap[w.heap.size + 1]? = some (.loop (rec (if jump.isNone then .ready else .done) jump)) ∧
            (W3.putObj (w.heap.size + 1) (.loop (rec (if jump.isNone then .ready else .done) jump))).heap[w.heap.size]? = some (.deferred (some [])) ∧
            w.heap.size + 2 ≤ (W3.putObj (w.heap.size + 1) (.loop (rec (if jump.isNone then .ready else .done) jump))).heap.size := fun jump W3 hk3 => by
          have hl3 := hk3.2.2.trans hl2
          have hz3 := hk3.1
          have := run_endRound (P := P) jump hl3
          rw [hrec] at this ⊢
          have hlt3 : w.heap.size + 1 < W3.heap.size := by omega
          refine ⟨this, by rw [hrec] at hl3; exact hl3, World.putObj_heap_same hlt3, (World.putObj_heap_other (by omega)).trans (hk3.2.1.trans hk2'), ?_⟩
          have := (gb_loopPut W3 (w.heap.size + 1) (.loop ((fun st pe => { state := st, pending := pe, fn, tmps := a.tmps, params := ps, assign, body, defers := w.heap.size : Loop }) (if jump.isNone then .ready else .done) jump))).size
          omega
        rintro e a3 W3 hp3
        cases e with
        | normal =>
          obtain ⟨hk3, hkp3, hi3⟩ := hp3
          obtain ⟨hr, hl3, hl4, hk4, hz4⟩ := fin none W3 hk3
          exact ⟨_, _, hr, .inl ⟨rfl, ⟨hI _ _ _ hi3 ⟨_, hl3⟩ (gb_loopPut _ _ _), hz4, hl4, hk4⟩, hKp _ _ _ hkp3 ⟨_, hl3⟩ (gb_loopPut _ _ _)⟩⟩
        | ret =>
          obtain ⟨hk3, hi3⟩ := hp3
          obtain ⟨hr, hl3, hl4, hk4, hz4⟩ := fin (some .ret) W3 hk3
          exact ⟨_, _, hr, .inr ⟨rfl, .ret, hIx _ _ _ hi3 ⟨_, hl3⟩ (gb_loopPut _ _ _), hz4, hl4, hk4⟩⟩
        | exit id =>
          obtain ⟨hk3, hi3⟩ := hp3
          obtain ⟨hr, hl3, hl4, hk4, hz4⟩ := fin (some (.exit id)) W3 hk3
          exact ⟨_, _, hr, .inr ⟨rfl, .exit id, hIx _ _ _ hi3 ⟨_, hl3⟩ (gb_loopPut _ _ _), hz4, hl4, hk4⟩⟩
        | goto t => exact hp3.elim
        | panic ch => exact hp3.elim
        | outgrown => exact hp3.elim
      | ret => exact hp.elim
      | exit id => exact hp.elim
      | goto t => exact hp.elim
      | panic ch => exact hp.elim
      | outgrown => exact hp.elim
    · rintro e W2 ⟨⟨v, rfl⟩, (⟨hi, hz, hl, hk⟩ | ⟨c, hi, hz, hl, hk⟩)⟩
      · have hz' := (gb_loopPut W2 (w.heap.size + 1) (.loop (rec .ready none))).size
        refine ⟨none, _, by have := run_endLoop (P := P) hl (by rw [hrec]; simp); rw [hrec] at this; exact this, hdone _ (hI _ _ _ hi ⟨_, hl⟩ (gb_loopPut _ _ _)) ?_ ((World.putObj_heap_other (by omega)).trans hk)⟩
        exact Nat.le_trans hz ((gb_loopPut W2 (w.heap.size + 1) _).size)
      · refine ⟨some c, _, by have := run_endLoop (P := P) hl (by rw [hrec]; simp); rw [hrec] at this; exact this, wpIn_wide.2 (hstop c _ (hIx _ _ _ hi ⟨_, hl⟩ (gb_loopPut _ _ _)) ?_ ((World.putObj_heap_other (by omega)).trans hk))⟩
        exact Nat.le_trans hz ((gb_loopPut W2 (w.heap.size + 1) _).size)
end Go.Proofs.YtkbflmaflokpdaaGreat

namespace Go.Proofs.YtkbflmaflokpdaaGreat
open Go.RowKit
attribute [local go_sem ↓] Go.wp_at_zero Go.wp_at_succ
attribute [local go_sem] wide_fn wide_depth Oper.semAt_some

/-- What Each has kept: a copy in a box. -/
structure EachAt (w : World) (v : Vl) (bk : Nat) (f : List Nat) : Prop where
  own : ∃ nA nc sA sc lA lc, C4 w bk 0 (.int .i64 v.t) (.slice nA v.n.length nc) (.slice sA v.s.length sc) (.slice lA v.l.length lc) ∧ VOw w v [.int .i64 v.t, .slice nA v.n.length nc, .slice sA v.s.length sc, .slice lA v.l.length lc] f
  lt : bk < w.heap.size
theorem EachAt.keep {w w' : World} {v : Vl} {bk : Nat} {f : List Nat} (h : EachAt w v bk f) (hs : w.heap.size ≤ w'.heap.size) (hk : ∀ b, b ∈ bk :: f → w'.heap[b]? = w.heap[b]?) : EachAt w' v bk f := by
  obtain ⟨⟨nA, nc, sA, sc, lA, lc, hc, ho⟩, hl⟩ := h
  have hb : w'.heap[bk]? = w.heap[bk]? := hk bk (by simp)
  have hcell : ∀ o, w'.cell? ⟨bk, o, none⟩ = w.cell? ⟨bk, o, none⟩ := fun o => World.cell?_of_block (a := ⟨bk, o, none⟩) hb
  exact ⟨⟨nA, nc, sA, sc, lA, lc, ⟨(hcell _).trans hc.c0, (hcell _).trans hc.c1, (hcell _).trans hc.c2, (hcell _).trans hc.c3⟩, VOw.keep _ _ _ ho fun b hm => hk b (by simp [hm])⟩, by omega⟩
def EachNew (v : Vl) (w : World) (e : Ending) (w' : World) : Prop := ∃ bk f, e = .returned (.func (.func 99) #[] #[.pointer (some ⟨bk, 0, none⟩)]) ∧ EachAt w' v bk f ∧ (∀ b ∈ bk :: f, w.heap.size ≤ b ∧ b < w'.heap.size) ∧ w.grownBy w' none

set_option maxHeartbeats 4000000 in
set_option maxRecDepth 100000 in
theorem eachV_any (v : Vl) (w : World) (B : Nat) (nA : Option Addr) (nc : Nat) (sA : Option Addr) (sc : Nat) (lA : Option Addr) (lc : Nat) (ht : v.tot ≤ 1200000000) (hB : B ≤ w.heap.size) (h : VB w B v nA nc sA sc lA lc) :
    Calls Tryz.prog 70 #[.agg #[.int .i64 v.t, .slice nA v.n.length nc, .slice sA v.s.length sc, .slice lA v.l.length lc]] w (EachNew v w) := by
  obtain ⟨wa, hwa⟩ : ∃ wa, wa = w.alloc (.cells #[.int .i64 v.t, .slice nA v.n.length nc, .slice sA v.s.length sc, .slice lA v.l.length lc] 26) := ⟨_, rfl⟩
  have hg : w.grownBy wa none := by rw [hwa]; exact gb_alloc (gb_refl w none) _
  have hc := C4.box w (.int .i64 v.t) (.slice nA v.n.length nc) (.slice sA v.s.length sc) (.slice lA v.l.length lc) 26
  rw [← hwa] at hc
  obtain ⟨b0, b1, b2, b3⟩ := hc
  have hbw := Nat.le_trans hB hg.size
  have HCL := hide (vClone_any v wa B nA nc sA sc lA lc ht hbw (h.gb hg hB))
  have HG := hide hg
  have HWE := hide hwa
  clear ht hB h hg hwa hbw
  go_enter Tryz.func70, Tryz.ntmps70
  go_wp2_with fail
  rw [← HWE.out]
  go_wp2_with (go_at_call 97; refine HCL.out.mono ?_; rintro e w1 ⟨xA, xc, yA, yc, zA, zc, f, rfl, ho, hn, hg1⟩; have HO := hide ho; have HN := hide hn; have HG1 := hide hg1; clear ho hn hg1)
  go_ret
  have hgx := gb_alloc (gb_refl w1 none) (.cells #[.int .i64 v.t, .slice xA v.n.length xc, .slice yA v.s.length yc, .slice zA v.l.length zc] 26)
  have hs0 := HG.out.size
  have hs1 := HG1.out.size
  refine ⟨_, f, rfl, ⟨⟨xA, xc, yA, yc, zA, zc, C4.box w1 _ _ _ _ _, HO.out.gb hgx⟩, by simp⟩, ?_, gb_trans HG.out (gb_trans HG1.out hgx (.inl rfl)) (.inl rfl)⟩
  intro b hb
  rcases List.mem_cons.1 hb with rfl | hb
  · simp; omega
  · have := HN.out.2 b hb
    simp; omega

/-- These blocks are as they were. -/
def KeptB (fs : List Nat) (A B : World) : Prop := A.heap.size ≤ B.heap.size ∧ ∀ b ∈ fs, B.heap[b]? = A.heap[b]?
end Go.Proofs.YtkbflmaflokpdaaGreat

namespace Go.Proofs.YtkbflmaflokpdaaGreat
open Go.RowKit
attribute [local go_sem ↓] Go.wp_at_zero Go.wp_at_succ

set_option maxHeartbeats 8000000 in
set_option maxRecDepth 100000 in
theorem at_seq (v : Vl) (i : Int) (w : World) (B : Nat) (nA : Option Addr) (nc : Nat) (sA : Option Addr) (sc : Nat) (lA : Option Addr) (lc : Nat) (ht98 : ¬ v.t = 98) (ht99 : ¬ (v.t = 99 ∧ v.l.length = 2)) (ht : v.tot ≤ 1200000000) (hB : B ≤ w.heap.size) (h : VB w B v nA nc sA sc lA lc) :
    Calls Tryz.prog 100 #[.agg #[.int .i64 v.t, .slice nA v.n.length nc, .slice sA v.s.length sc, .slice lA v.l.length lc], .int .i64 i] w (AtPost (if 0 ≤ i ∧ i < (v.count : Int) then some (elemV v i.toNat) else none) w) := by
  obtain ⟨l1, l2, l3, l4⟩ := Vl.lens v (by omega)
  obtain ⟨wa, hwa⟩ : ∃ wa, wa = (w.alloc (.cells #[.int .i64 v.t, .slice nA v.n.length nc, .slice sA v.s.length sc, .slice lA v.l.length lc] 26)).alloc (.cells #[.int .i64 0, .slice none 0 0, .slice none 0 0, .slice none 0 0] 26) := ⟨_, rfl⟩
  have hg : w.grownBy wa none := by rw [hwa]; exact gb_alloc (gb_alloc (gb_refl w none) _) _
  have hc := (C4.box w (.int .i64 v.t) (.slice nA v.n.length nc) (.slice sA v.s.length sc) (.slice lA v.l.length lc) 26).gb (gb_alloc (gb_refl _ none) (.cells #[.int .i64 0, .slice none 0 0, .slice none 0 0, .slice none 0 0] 26))
  have hrb : wa.heap[w.heap.size + 1]? = some (.cells #[.int .i64 0, .slice none 0 0, .slice none 0 0, .slice none 0 0] 26 (0, 0)) := by rw [hwa]; exact alloc2_blk w _ _
  rw [← hwa] at hc
  have hbw := Nat.le_trans hB hg.size
  have HSZ := hide (show wa.heap.size = w.heap.size + 2 by rw [hwa]; simp)
  have HV := hide (h.gb hg hB)
  have HBW := hide hbw
  have HG := hide hg
  have HRB := hide hrb
  have HC := hide hc
  have HWE := hide hwa
  have HTT := hide ht
  have HIT := hide (fun w2 => isTab_any v (.slice nA v.n.length nc) (.slice sA v.s.length sc) (.slice lA v.l.length lc) w2)
  have htt : isTab v = false := int_beq_f ht98
  rw [htt] at HIT
  have ht' : v.tot ≤ 1200000000 := by omega
  have HEG := hide (fun w2 (k : wa.grownBy w2 none) (hin : 0 ≤ i ∧ i < (v.count : Int)) => elem_gotI v i w2 B nA nc sA sc lA lc hin ht' (Nat.le_trans hbw k.size) ((h.gb hg hB).gb k hbw))
  have HEE := hide (fun w2 (k : wa.grownBy w2 none) (hin : i < 0 ∨ (v.count : Int) ≤ i) => elem_err v i w2 B nA nc sA sc lA lc hin ht' (Nat.le_trans hbw k.size) ((h.gb hg hB).gb k hbw))
  have HET := hide (fun (hin : 0 ≤ i ∧ i < (v.count : Int)) => Nat.le_trans (elemV_tot v i.toNat (by omega)) ht')
  have hcase : v.t = 99 ∧ ¬ v.l.length = 2 ∨ ¬ v.t = 99 := by
    by_cases h99 : v.t = 99
    · exact .inl ⟨h99, fun h => ht99 ⟨h99, h⟩⟩
    · exact .inr h99
  have HB := hide hB
  clear hB h hg hwa hrb hc hbw ht ht98 ht99 htt ht'
  by_cases hin : 0 ≤ i ∧ i < (v.count : Int)
  · rw [if_pos hin]
    have HE1 := hide (fun w2 k => HEG.out w2 k hin)
    have HET1 := hide (HET.out hin)
    generalize elemV v i.toNat = x at *
    clear hin HEG HEE HET
    rcases hcase with ⟨h1, h2⟩ | h1
    · have e99 := int_beq_t h1
      have e2 : ((v.l.length : Int) == 2) = false := beq_eq_false_iff_ne.2 (by omega)
      clear h1 h2
      go_enter Tryz.func100, Tryz.ntmps100
      go_wp2_with fail
      rw [← HWE.out]
      refine (HIT.out wa).mono ?_
      rintro e w1 ⟨rfl, hg1⟩
      obtain ⟨c0, c1, c2, c3⟩ := HC.out.gb hg1
      have b0 : w1.cell? ⟨w.heap.size, 0, none⟩ = some (.int .i64 v.t) := c0
      have b1 : w1.cell? ⟨w.heap.size, 1, none⟩ = some (.slice nA v.n.length nc) := c1
      have b2 : w1.cell? ⟨w.heap.size, 2, none⟩ = some (.slice sA v.s.length sc) := c2
      have b3 : w1.cell? ⟨w.heap.size, 3, none⟩ = some (.slice lA v.l.length lc) := c3
      have HG1 := hide hg1
      clear hg1 c0 c1 c2 c3
      go_wp2_with fail
      refine (HE1.out w1 HG1.out).mono ?_
      rintro e w2 ⟨xA, xc, yA, yc, zA, zc, rfl, hvb, hg2⟩
      have hgA : wa.grownBy (w2.alloc (.cells #[.int .i64 x.t, .slice xA x.n.length xc, .slice yA x.s.length yc, .slice zA x.l.length zc] 26)) none := gb_alloc (gb_trans HG1.out hg2 (.inl rfl)) _
      have HCL := hide (vClone_any x _ B xA xc yA yc zA zc HET1.out (Nat.le_trans HBW.out hgA.size) (hvb.gb (gb_alloc (gb_refl w2 none) (.cells #[.int .i64 x.t, .slice xA x.n.length xc, .slice yA x.s.length yc, .slice zA x.l.length zc] 26)) (Nat.le_trans HBW.out (gb_trans HG1.out hg2 (.inl rfl)).size)))
      have HGA := hide hgA
      clear hvb hg2 hgA
      go_wp2_with fail
      refine HCL.out.mono ?_
      rintro e w3 ⟨nA', nc', sA', sc', lA', lc', f, rfl, ho, hn, hg3⟩
      have HO := hide ho
      have HN := hide hn
      have HG3 := hide hg3
      have hr1 := ((gb_trans HGA.out HG3.out (.inl rfl)).block _ (blk_lt HRB.out) (by simp)).trans HRB.out
      have p0 : w3.cell? ⟨w.heap.size + 1, 0, none⟩ = some (.int .i64 0) := by rw [blk_cell hr1]; rfl
      have p1 : w3.cell? ⟨w.heap.size + 1, 1, none⟩ = some (.slice none 0 0) := by rw [blk_cell hr1]; rfl
      have p2 : w3.cell? ⟨w.heap.size + 1, 2, none⟩ = some (.slice none 0 0) := by rw [blk_cell hr1]; rfl
      have p3 : w3.cell? ⟨w.heap.size + 1, 3, none⟩ = some (.slice none 0 0) := by rw [blk_cell hr1]; rfl
      have z0 := blk_frozen hr1 0
      have z1 := blk_frozen hr1 1
      have z2 := blk_frozen hr1 2
      have z3 := blk_frozen hr1 3
      clear ho hn hg3 hr1
      go_wp2_with fail
      refine bodyPost_ret (v := .tuple #[.agg #[.int .i64 x.t, .slice nA' x.n.length nc', .slice sA' x.s.length sc', .slice lA' x.l.length lc'], .int .i64 0]) (by simp [results, Tryz.results100, go_sem, p0, p1, p2, p3]) rfl ?_
      exact NewE.fin HO.out (HN.out.less HGA.out.size) HG.out (gb_trans HGA.out HG3.out (.inl rfl)) (by omega) (by have := HSZ.out; omega)
    · have e99 := int_beq_f h1
      clear h1
      go_enter Tryz.func100, Tryz.ntmps100
      go_wp2_with fail
      rw [← HWE.out]
      refine (HIT.out wa).mono ?_
      rintro e w1 ⟨rfl, hg1⟩
      obtain ⟨c0, c1, c2, c3⟩ := HC.out.gb hg1
      have b0 : w1.cell? ⟨w.heap.size, 0, none⟩ = some (.int .i64 v.t) := c0
      have b1 : w1.cell? ⟨w.heap.size, 1, none⟩ = some (.slice nA v.n.length nc) := c1
      have b2 : w1.cell? ⟨w.heap.size, 2, none⟩ = some (.slice sA v.s.length sc) := c2
      have b3 : w1.cell? ⟨w.heap.size, 3, none⟩ = some (.slice lA v.l.length lc) := c3
      have HG1 := hide hg1
      clear hg1 c0 c1 c2 c3
      go_wp2_with fail
      refine (HE1.out w1 HG1.out).mono ?_
      rintro e w2 ⟨xA, xc, yA, yc, zA, zc, rfl, hvb, hg2⟩
      have hgA : wa.grownBy (w2.alloc (.cells #[.int .i64 x.t, .slice xA x.n.length xc, .slice yA x.s.length yc, .slice zA x.l.length zc] 26)) none := gb_alloc (gb_trans HG1.out hg2 (.inl rfl)) _
      have HCL := hide (vClone_any x _ B xA xc yA yc zA zc HET1.out (Nat.le_trans HBW.out hgA.size) (hvb.gb (gb_alloc (gb_refl w2 none) (.cells #[.int .i64 x.t, .slice xA x.n.length xc, .slice yA x.s.length yc, .slice zA x.l.length zc] 26)) (Nat.le_trans HBW.out (gb_trans HG1.out hg2 (.inl rfl)).size)))
      have HGA := hide hgA
      clear hvb hg2 hgA
      go_wp2_with fail
      refine HCL.out.mono ?_
      rintro e w3 ⟨nA', nc', sA', sc', lA', lc', f, rfl, ho, hn, hg3⟩
      have HO := hide ho
      have HN := hide hn
      have HG3 := hide hg3
      have hr1 := ((gb_trans HGA.out HG3.out (.inl rfl)).block _ (blk_lt HRB.out) (by simp)).trans HRB.out
      have p0 : w3.cell? ⟨w.heap.size + 1, 0, none⟩ = some (.int .i64 0) := by rw [blk_cell hr1]; rfl
      have p1 : w3.cell? ⟨w.heap.size + 1, 1, none⟩ = some (.slice none 0 0) := by rw [blk_cell hr1]; rfl
      have p2 : w3.cell? ⟨w.heap.size + 1, 2, none⟩ = some (.slice none 0 0) := by rw [blk_cell hr1]; rfl
      have p3 : w3.cell? ⟨w.heap.size + 1, 3, none⟩ = some (.slice none 0 0) := by rw [blk_cell hr1]; rfl
      have z0 := blk_frozen hr1 0
      have z1 := blk_frozen hr1 1
      have z2 := blk_frozen hr1 2
      have z3 := blk_frozen hr1 3
      clear ho hn hg3 hr1
      go_wp2_with fail
      refine bodyPost_ret (v := .tuple #[.agg #[.int .i64 x.t, .slice nA' x.n.length nc', .slice sA' x.s.length sc', .slice lA' x.l.length lc'], .int .i64 0]) (by simp [results, Tryz.results100, go_sem, p0, p1, p2, p3]) rfl ?_
      exact NewE.fin HO.out (HN.out.less HGA.out.size) HG.out (gb_trans HGA.out HG3.out (.inl rfl)) (by omega) (by have := HSZ.out; omega)
  · rw [if_neg hin]
    have HE1 := hide (fun w2 k => HEE.out w2 k (by omega))
    clear hin HEG HEE HET
    rcases hcase with ⟨h1, h2⟩ | h1
    · have e99 := int_beq_t h1
      have e2 : ((v.l.length : Int) == 2) = false := beq_eq_false_iff_ne.2 (by omega)
      clear h1 h2
      go_enter Tryz.func100, Tryz.ntmps100
      go_wp2_with fail
      rw [← HWE.out]
      refine (HIT.out wa).mono ?_
      rintro e w1 ⟨rfl, hg1⟩
      obtain ⟨c0, c1, c2, c3⟩ := HC.out.gb hg1
      have b0 : w1.cell? ⟨w.heap.size, 0, none⟩ = some (.int .i64 v.t) := c0
      have b1 : w1.cell? ⟨w.heap.size, 1, none⟩ = some (.slice nA v.n.length nc) := c1
      have b2 : w1.cell? ⟨w.heap.size, 2, none⟩ = some (.slice sA v.s.length sc) := c2
      have b3 : w1.cell? ⟨w.heap.size, 3, none⟩ = some (.slice lA v.l.length lc) := c3
      have HG1 := hide hg1
      clear hg1 c0 c1 c2 c3
      go_wp2_with fail
      refine (HE1.out w1 HG1.out).mono ?_
      rintro e w2 ⟨rfl, hg2⟩
      have hgA : wa.grownBy (w2.alloc (.cells #[.int .i64 0, .slice none 0 0, .slice none 0 0, .slice none 0 0] 26)) none := gb_alloc (gb_trans HG1.out hg2 (.inl rfl)) _
      have HGA := hide hgA
      have hr1 := (hgA.block _ (blk_lt HRB.out) (by simp)).trans HRB.out
      have p0 : (w2.alloc (.cells #[.int .i64 0, .slice none 0 0, .slice none 0 0, .slice none 0 0] 26)).cell? ⟨w.heap.size + 1, 0, none⟩ = some (.int .i64 0) := by rw [blk_cell hr1]; rfl
      have p1 : (w2.alloc (.cells #[.int .i64 0, .slice none 0 0, .slice none 0 0, .slice none 0 0] 26)).cell? ⟨w.heap.size + 1, 1, none⟩ = some (.slice none 0 0) := by rw [blk_cell hr1]; rfl
      have p2 : (w2.alloc (.cells #[.int .i64 0, .slice none 0 0, .slice none 0 0, .slice none 0 0] 26)).cell? ⟨w.heap.size + 1, 2, none⟩ = some (.slice none 0 0) := by rw [blk_cell hr1]; rfl
      have p3 : (w2.alloc (.cells #[.int .i64 0, .slice none 0 0, .slice none 0 0, .slice none 0 0] 26)).cell? ⟨w.heap.size + 1, 3, none⟩ = some (.slice none 0 0) := by rw [blk_cell hr1]; rfl
      have z0 := blk_frozen hr1 0
      have z1 := blk_frozen hr1 1
      have z2 := blk_frozen hr1 2
      have z3 := blk_frozen hr1 3
      clear hgA hg2 hr1
      go_wp2_with fail
      refine bodyPost_ret (v := .tuple #[.agg #[.int .i64 0, .slice none 0 0, .slice none 0 0, .slice none 0 0], .int .i64 33]) (by simp [results, Tryz.results100, go_sem, p0, p1, p2, p3]) rfl ?_
      exact ⟨rfl, put4_to (gb_trans HG.out HGA.out (.inl rfl)) (by omega)⟩
    · have e99 := int_beq_f h1
      clear h1
      go_enter Tryz.func100, Tryz.ntmps100
      go_wp2_with fail
      rw [← HWE.out]
      refine (HIT.out wa).mono ?_
      rintro e w1 ⟨rfl, hg1⟩
      obtain ⟨c0, c1, c2, c3⟩ := HC.out.gb hg1
      have b0 : w1.cell? ⟨w.heap.size, 0, none⟩ = some (.int .i64 v.t) := c0
      have b1 : w1.cell? ⟨w.heap.size, 1, none⟩ = some (.slice nA v.n.length nc) := c1
      have b2 : w1.cell? ⟨w.heap.size, 2, none⟩ = some (.slice sA v.s.length sc) := c2
      have b3 : w1.cell? ⟨w.heap.size, 3, none⟩ = some (.slice lA v.l.length lc) := c3
      have HG1 := hide hg1
      clear hg1 c0 c1 c2 c3
      go_wp2_with fail
      refine (HE1.out w1 HG1.out).mono ?_
      rintro e w2 ⟨rfl, hg2⟩
      have hgA : wa.grownBy (w2.alloc (.cells #[.int .i64 0, .slice none 0 0, .slice none 0 0, .slice none 0 0] 26)) none := gb_alloc (gb_trans HG1.out hg2 (.inl rfl)) _
      have HGA := hide hgA
      have hr1 := (hgA.block _ (blk_lt HRB.out) (by simp)).trans HRB.out
      have p0 : (w2.alloc (.cells #[.int .i64 0, .slice none 0 0, .slice none 0 0, .slice none 0 0] 26)).cell? ⟨w.heap.size + 1, 0, none⟩ = some (.int .i64 0) := by rw [blk_cell hr1]; rfl
      have p1 : (w2.alloc (.cells #[.int .i64 0, .slice none 0 0, .slice none 0 0, .slice none 0 0] 26)).cell? ⟨w.heap.size + 1, 1, none⟩ = some (.slice none 0 0) := by rw [blk_cell hr1]; rfl
      have p2 : (w2.alloc (.cells #[.int .i64 0, .slice none 0 0, .slice none 0 0, .slice none 0 0] 26)).cell? ⟨w.heap.size + 1, 2, none⟩ = some (.slice none 0 0) := by rw [blk_cell hr1]; rfl
      have p3 : (w2.alloc (.cells #[.int .i64 0, .slice none 0 0, .slice none 0 0, .slice none 0 0] 26)).cell? ⟨w.heap.size + 1, 3, none⟩ = some (.slice none 0 0) := by rw [blk_cell hr1]; rfl
      have z0 := blk_frozen hr1 0
      have z1 := blk_frozen hr1 1
      have z2 := blk_frozen hr1 2
      have z3 := blk_frozen hr1 3
      clear hgA hg2 hr1
      go_wp2_with fail
      refine bodyPost_ret (v := .tuple #[.agg #[.int .i64 0, .slice none 0 0, .slice none 0 0, .slice none 0 0], .int .i64 33]) (by simp [results, Tryz.results100, go_sem, p0, p1, p2, p3]) rfl ?_
      exact ⟨rfl, put4_to (gb_trans HG.out HGA.out (.inl rfl)) (by omega)⟩

attribute [local go_sem] wide_fn wide_depth Oper.semAt_some
/-- What is handed over at a place. -/
def HandF (v : Vl) (i : Nat) (x : Nat × Array Value) (W0 W : World) : Prop := x.1 = i ∧ ∃ y nA nc sA sc lA lc g, y = elemV v i ∧ x.2 = #[.int .i64 y.t, .slice nA y.n.length nc, .slice sA y.s.length sc, .slice lA y.l.length lc] ∧
  VOw W y [.int .i64 y.t, .slice nA y.n.length nc, .slice sA y.s.length sc, .slice lA y.l.length lc] g ∧ (∀ b ∈ g, W0.heap.size ≤ b) ∧ g.Nodup
set_option maxHeartbeats 8000000 in
set_option maxRecDepth 100000 in
theorem each_flat (v : Vl) (h98 : ¬ v.t = 98) (h99 : ¬ (v.t = 99 ∧ v.l.length = 2)) (ht : v.tot ≤ 1200000000) (w0 : World) (bk : Nat) (f : List Nat) (h : EachAt w0 v bk f) (hlt : ∀ b ∈ bk :: f, b < w0.heap.size) :
    SeqC Tryz.prog 99 #[.pointer (some ⟨bk, 0, none⟩)] (fun x : Nat × Array Value => #[.int .i64 x.1, .agg x.2]) (HandF v) (KeptB (bk :: f)) v.count w0 := by
  intro l J Jx W hW hJ hY h0
  have hcl := Vl.count_le v.depth v (Nat.le_refl _)
  have hEW := h.keep hW.size (fun b hb => hW.block b (hlt b hb) (by simp))
  obtain ⟨⟨nA, nc, sA, sc, lA, lc, hc4, hov⟩, _⟩ := hEW
  obtain ⟨b0, b1, b2, b3⟩ := hc4
  have HCNT := hide (count_d v.depth v W W.heap.size nA nc sA sc lA lc (Nat.le_refl _) (by omega) (Nat.le_refl _) hov.vb)
  have HE := hide h
  have HJ := hide hJ
  have HY := hide hY
  have H0 := hide h0
  have HW := hide hW
  have HLT := hide hlt
  have HK := hide (And.intro h98 h99)
  have HT := hide ht
  have HCL := hide hcl
  have hcb : (v.count : Int) ≤ 9223372036854775807 := by omega
  clear h hJ hY h0 hW hlt h98 h99 ht hcl hov
  refine callsIn_of_wp Tryz.func99 rfl trivial ?_ rfl
  simp only [Tryz.ntmps99, List.size_toArray, List.length_cons, List.length_nil, Nat.reduceAdd, Nat.reduceSub, Array.replicate_succ, Array.replicate_zero, List.push_toArray, List.append_toArray, List.nil_append, List.cons_append]
  gi_wp2_with (gi_at_call 27; refine (callsIn_wide.2 HCNT.out).mono ?_; rintro e w1 ⟨rfl, hg1⟩; have HG1 := hide hg1; clear hg1)
  have HS0 := hide (show w0.heap.size ≤ w1.heap.size from Nat.le_trans HW.out.size HG1.out.size)
  have HK0 := hide (show ∀ b, b ∈ bk :: f → w1.heap[b]? = w0.heap[b]? from fun b hb => by
    have h1 := HLT.out b hb
    have h2 := HW.out.size
    exact (HG1.out.block b (by omega) (by simp)).trans (HW.out.block b h1 (by simp)))
  have HJ0 := hide (HJ.out 0 W w1 H0.out HG1.out)
  clear b0 b1 b2 b3 HCNT H0
  gi_loopw [8] (fun i wr => ∃ j : Nat, i = .int .i64 (j : Int) ∧ j ≤ v.count ∧ w0.heap.size ≤ wr.heap.size ∧ (∀ b, b ∈ bk :: f → wr.heap[b]? = w0.heap[b]?) ∧ J j wr) (fun i _ => v.count - (intOf i).toNat)
  case atStart => exact ⟨0, rfl, Nat.zero_le _, HS0.out, HK0.out, HJ0.out⟩
  case round =>
    obtain ⟨j, rfl, hj, hsz, hkp, hJj⟩ := hrel
    by_cases hlt : j < v.count
    · have hlt1 : (j : Int) < (v.count : Int) := by omega
      obtain ⟨y, hat⟩ : ∃ y, y = elemV v j := ⟨_, rfl⟩
      obtain ⟨⟨nA, nc, sA, sc, lA, lc, hc4, hov⟩, _⟩ := HE.out.keep hsz hkp
      obtain ⟨b0, b1, b2, b3⟩ := hc4
      have HAT := hide hat
      have hatc := at_seq v (j : Int) wr wr.heap.size nA nc sA sc lA lc HK.out.1 HK.out.2 HT.out (Nat.le_refl _) hov.vb
      rw [if_pos ⟨by omega, by omega⟩, show ((j : Int)).toNat = j from rfl, ← hat] at hatc
      have HATC := hide hatc
      have HKP := hide hkp
      have HSZ := hide hsz
      have HJR := hide hJj
      have HJT := hide hlt
      clear hkp hsz hJj hov hat hatc hlt hj
      gi_wp2_with (gi_at_call 100; refine (callsIn_wide.2 HATC.out).mono ?_; rintro e w2 ⟨xA, xc, yA, yc, zA, zc, g, rfl, ho, hn, hg2⟩; have HG2 := hide (gb_trans hg2 (gb_alloc (gb_refl w2 none) (.cells #[.int .i64 y.t, .slice xA y.n.length xc, .slice yA y.s.length yc, .slice zA y.l.length zc] 26)) (.inl rfl)); obtain ⟨fn, tm, asg, bd, hy, hR⟩ := HY.out j (j, #[.int .i64 y.t, .slice xA y.n.length xc, .slice yA y.s.length yc, .slice zA y.l.length zc]) wr (w2.alloc (.cells #[.int .i64 y.t, .slice xA y.n.length xc, .slice yA y.s.length yc, .slice zA y.l.length zc] 26)) HJR.out HG2.out HJT.out ⟨rfl, y, xA, xc, yA, yc, zA, zc, g, HAT.out, rfl, ho.gb (gb_alloc (gb_refl w2 none) _), fun b hb => (hn.2 b hb).1, hn.1⟩; dsimp only at hy; have HR := hide hR; clear hR ho hn hg2)
      refine HR.out.mono ?_
      rintro e W3 (⟨rfl, hJ3, hs3, hk3⟩ | ⟨rfl, hx3⟩)
      · have HJ3 := hide hJ3
        have HS3 := hide (Nat.le_trans HSZ.out (Nat.le_trans HG2.out.size hs3))
        have HK3 := hide (show ∀ b, b ∈ bk :: f → W3.heap[b]? = w0.heap[b]? from fun b hb => by
          have h1 := HLT.out b hb
          have h2 := HSZ.out
          exact (hk3 b hb).trans ((HG2.out.block b (by omega) (by simp)).trans (HKP.out b hb)))
        clear hJ3 hs3 hk3 hy HR
        have hjm : (j : Int) + 1 ≤ 9223372036854775807 := by omega
        gi_wp2
        go_roundw
        case rel => exact ⟨j + 1, by go_num, HJT.out, HS3.out, HK3.out, HJ3.out⟩
        case measure => simp [intOf]; omega
      · have HX3 := hide hx3
        clear hx3 hy HR
        gi_wp2
        refine bodyPost_ret (results_none rfl _ _ _) rfl ?_
        exact ⟨⟨_, rfl⟩, .inr HX3.out⟩
    · have hlt1 : ¬ (j : Int) < (v.count : Int) := by omega
      have HJE := hide (show J v.count wr by rw [show v.count = j by omega]; exact hJj)
      clear hkp hsz hJj hlt hj
      gi_wp2
      go_end0
      exact ⟨⟨_, rfl⟩, .inl HJE.out⟩
end Go.Proofs.YtkbflmaflokpdaaGreat
