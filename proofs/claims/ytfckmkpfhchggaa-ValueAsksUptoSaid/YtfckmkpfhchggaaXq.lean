/-
  A list in a box, to which values are put one by one.
-/
import Derived.Test.YtfckmkpfhchggaaXo
import Derived.Test.YtfckmkpfhchggaaRg
import Derived.Test.YtfckmkpfhchggaaGi
import Derived.Test.YtfckmkpfhchggaaWz
import Derived.Test.YtfckmkpfhchggaaWl
import Derived.Deep.CutBlock
import Derived.Deep.DeepCutAuto

namespace Go.Proofs.Ytfckmkpfhchggaa
open Go.RowKit

/-- The list in box lb: its row and its parts from block base on. -/
structure CollP (base lb : Nat) (vs : List Vl) (A : Option Addr) (c : Nat) (xs : List (List Value)) (f : List Nat) (W : World) : Prop where
  hlb : lb < base
  hb : W.heap[lb]? = some (.cells #[.slice A vs.length c] 24 (0, 0))
  hc : vs.length ≤ c
  ho : W.ownsRow base 26 4 (.slice A vs.length c) vs.length (List.flatten xs)
  ha : VOwAll W vs xs f
  hf : ∀ b ∈ f, base ≤ b ∧ (Value.slice A vs.length c).ownBlock ≠ some b
def Coll (base lb : Nat) (vs : List Vl) (W : World) : Prop := ∃ A c xs f, CollP base lb vs A c xs f W
theorem CollP.keep {base lb g : Nat} {vs : List Vl} {A : Option Addr} {c : Nat} {xs : List (List Value)} {f : List Nat} {W W' : World} (h : CollP base lb vs A c xs f W) (hg : W.grownBy W' (some g)) (h1 : g < base) (h2 : g ≠ lb) : CollP base lb vs A c xs f W' := by
  obtain ⟨hlb, hb, hc, ho, ha, hf⟩ := h
  refine ⟨hlb, (hg.block lb (blk_lt hb) (by intro e; injection e with e; exact h2 e.symm)).trans hb, hc, ho.kept hg ?_, VOwAll.keep _ _ _ ha fun b hm => hg.block b (VOwAll.lt _ _ _ ha b hm) (by have := (hf b hm).1; intro e; injection e with e; omega), hf⟩
  cases e : (Value.slice A vs.length c).ownBlock with
  | none => exact .inl rfl
  | some b =>
    refine .inr fun e' => ?_
    injection e' with e'
    have := (ho.lt b e).1
    omega
theorem CollP.grown {base lb : Nat} {vs : List Vl} {A : Option Addr} {c : Nat} {xs : List (List Value)} {f : List Nat} {W W' : World} (h : CollP base lb vs A c xs f W) (hg : W.grownBy W' none) : CollP base lb vs A c xs f W' := by
  obtain ⟨hlb, hb, hc, ho, ha, hf⟩ := h
  exact ⟨hlb, (hg.block lb (blk_lt hb) (by simp)).trans hb, hc, ho.kept hg (by cases (Value.slice A vs.length c).ownBlock <;> simp), VOwAll.keep _ _ _ ha fun b hm => hg.block b (VOwAll.lt _ _ _ ha b hm) (by simp), hf⟩
theorem Coll.keep {base lb g : Nat} {vs : List Vl} {W W' : World} (h : Coll base lb vs W) (hg : W.grownBy W' (some g)) (h1 : g < base) (h2 : g ≠ lb) : Coll base lb vs W' := by
  obtain ⟨A, c, xs, f, h⟩ := h
  exact ⟨A, c, xs, f, h.keep hg h1 h2⟩
/-- The new list: what the append has left, the zero it put overwritten, the box set. -/
structure Set2 (w8 wf : World) (lb g8 i : Nat) (v c0 c1 c2 c3 : Value) : Prop where
  size : wf.heap.size = w8.heap.size
  os : wf.os = w8.os
  tape : wf.tape = w8.tape
  output : wf.output = w8.output
  box : ∀ u t, w8.heap[lb]? = some (.cells #[u] t (0, 0)) → wf.heap[lb]? = some (.cells #[v] t (0, 0))
  row : ∀ cur t, w8.heap[g8]? = some (.cells cur t (0, 0)) → wf.heap[g8]? = some (.cells ((((cur.setIfInBounds i c0).setIfInBounds (i + 1) c1).setIfInBounds (i + 2) c2).setIfInBounds (i + 3) c3) t (0, 0))
  rest : ∀ b, b ≠ lb → b ≠ g8 → wf.heap[b]? = w8.heap[b]?
theorem setCell_other (w : World) (p : Addr) (u : Value) (b : Nat) (h : b ≠ p.block) : (w.setCell p u).heap[b]? = w.heap[b]? := Below.heap_setCell w p u b (fun e => h e)
theorem put4_other (w : World) (g i : Nat) (c0 c1 c2 c3 : Value) (b : Nat) (h : b ≠ g) : (put4 w g i c0 c1 c2 c3).heap[b]? = w.heap[b]? := by
  unfold put4
  rw [setCell_other _ _ _ _ h, setCell_other _ _ _ _ h, setCell_other _ _ _ _ h, setCell_other _ _ _ _ h]
theorem Set2.rowFirst (w8 : World) (lb g8 i : Nat) (v c0 c1 c2 c3 : Value) (hne : lb ≠ g8) : Set2 w8 ((put4 w8 g8 i c0 c1 c2 c3).setCell ⟨lb, 0, none⟩ v) lb g8 i v c0 c1 c2 c3 := by
  have k1 := gb_setCell (gb_refl (put4 w8 g8 i c0 c1 c2 c3) (some lb)) (p := ⟨lb, 0, none⟩) (.inl rfl) v
  have k2 := put4_gb w8 g8 i c0 c1 c2 c3
  refine ⟨by simp [put4, World.setCell], k1.os.trans k2.os, k1.tape.trans k2.tape, k1.output.trans k2.output, fun u t h => ?_, fun cur t h => ?_, fun b h1 h2 => ?_⟩
  · have h2 : (put4 w8 g8 i c0 c1 c2 c3).heap[lb]? = some (.cells #[u] t (0, 0)) := (put4_other _ _ _ _ _ _ _ _ hne).trans h
    rw [blk_set h2 0 v, List.setIfInBounds_toArray]
    rfl
  · rw [setCell_other _ _ _ _ (show g8 ≠ lb from fun e => hne e.symm)]
    exact put4_blk h c0 c1 c2 c3
  · rw [setCell_other _ _ _ _ h1, put4_other _ _ _ _ _ _ _ _ h2]
theorem Set2.boxFirst (w8 : World) (lb g8 i : Nat) (v c0 c1 c2 c3 : Value) (hne : lb ≠ g8) : Set2 w8 (put4 (w8.setCell ⟨lb, 0, none⟩ v) g8 i c0 c1 c2 c3) lb g8 i v c0 c1 c2 c3 := by
  have k1 := gb_setCell (gb_refl w8 (some lb)) (p := ⟨lb, 0, none⟩) (.inl rfl) v
  have k2 := put4_gb (w8.setCell ⟨lb, 0, none⟩ v) g8 i c0 c1 c2 c3
  refine ⟨by simp [put4, World.setCell], k2.os.trans k1.os, k2.tape.trans k1.tape, k2.output.trans k1.output, fun u t h => ?_, fun cur t h => ?_, fun b h1 h2 => ?_⟩
  · rw [put4_other _ _ _ _ _ _ _ _ hne]
    rw [blk_set h 0 v, List.setIfInBounds_toArray]
    rfl
  · have h2 : (w8.setCell ⟨lb, 0, none⟩ v).heap[g8]? = some (.cells cur t (0, 0)) := (setCell_other _ _ _ _ (show g8 ≠ lb from fun e => hne e.symm)).trans h
    exact put4_blk h2 c0 c1 c2 c3
  · rw [put4_other _ _ _ _ _ _ _ _ h2, setCell_other _ _ _ _ h1]
/-- One more. -/
theorem CollP.step {base lb : Nat} {vs : List Vl} {W0 w5 w8 wf : World} {A A8 : Option Addr} {c c8 g8 : Nat} {xs : List (List Value)} {f f6 : List Nat} {y : Vl} {c0 c1 c2 c3 z0 z1 z2 z3 : Value} (h : CollP base lb vs A c xs f W0)
    (h5 : W0.grownBy w5 none) (hbs : base ≤ W0.heap.size) (hy : VOw w5 y [c0, c1, c2, c3] f6) (hn6 : ∀ b ∈ f6, base ≤ b ∧ (Value.slice A vs.length c).ownBlock ≠ some b)
    (h8 : w8.ownsRow base 26 4 (.slice A8 (vs.length + 1) c8) (vs.length + 1) (List.flatten xs ++ [z0, z1, z2, z3])) (hg8 : w5.grownBy w8 (Value.slice A vs.length c).ownBlock)
    (hl8 : (Value.slice A8 (vs.length + 1) c8).ownBlock = (Value.slice A vs.length c).ownBlock ∨ (Value.slice A8 (vs.length + 1) c8).ownBlock = some w5.heap.size)
    (hA8 : A8 = some ⟨g8, 0, none⟩) (hs : Set2 w8 wf lb g8 (vs.length * 4) (.slice A8 (vs.length + 1) c8) c0 c1 c2 c3) :
    Coll base lb (vs ++ [y]) wf ∧ (wf.os = W0.os ∧ wf.tape = W0.tape ∧ wf.output = W0.output ∧ W0.heap.size ≤ wf.heap.size) ∧ ∀ b, b < base → b ≠ lb → wf.heap[b]? = W0.heap[b]? := by
  obtain ⟨hlb, hb, _, ho, ha, hf⟩ := h
  subst hA8
  have s0 := h5.size
  have s8 := hg8.size
  have hob : (Value.slice (some ⟨g8, 0, none⟩) (vs.length + 1) c8).ownBlock = some g8 := rfl
  rw [hob] at hl8
  have hLb : ∀ b, (Value.slice A vs.length c).ownBlock = some b → base ≤ b ∧ b < W0.heap.size := fun b e => ho.lt b e
  have hg8b : base ≤ g8 := by
    rcases hl8 with e | e
    · exact (hLb g8 e.symm).1
    · injection e with e; omega
  have hold : ∀ b, b < W0.heap.size → b ≠ lb → (Value.slice A vs.length c).ownBlock ≠ some b → wf.heap[b]? = W0.heap[b]? := fun b h1 h2 h3 => by
    have hne : b ≠ g8 := fun e => by
      subst e
      rcases hl8 with e | e
      · exact h3 e.symm
      · injection e with e; omega
    rw [hs.rest b h2 hne, hg8.block b (by omega) (fun e => h3 e.symm), h5.block b h1 (by simp)]
  have hnew : ∀ b ∈ f6, wf.heap[b]? = w5.heap[b]? := fun b hm => by
    have h1 := hn6 b hm
    have h2 := VOw.lt _ _ _ hy b hm
    have hne : b ≠ g8 := fun e => by
      subst e
      rcases hl8 with e | e
      · exact h1.2 e.symm
      · injection e with e; omega
    rw [hs.rest b (by omega) hne, hg8.block b h2 (fun e => h1.2 e.symm)]
  have hb8 : w8.heap[lb]? = some (.cells #[.slice A vs.length c] 24 (0, 0)) := by
    have h1 := blk_lt hb
    rw [hg8.block lb (by omega) (fun e => by have := (hLb lb e.symm).1; omega), h5.block lb h1 (by simp)]
    exact hb
  refine ⟨⟨some ⟨g8, 0, none⟩, c8, xs ++ [[c0, c1, c2, c3]], f ++ f6, hlb, ?_, ?_, ?_, ?_, ?_⟩, ⟨hs.os.trans (hg8.os.trans h5.os), hs.tape.trans (hg8.tape.trans h5.tape), hs.output.trans (hg8.output.trans h5.output), by have := hs.size; omega⟩, fun b h1 h2 => hold b (by omega) h2 (fun e => by have := (hLb b e).1; omega)⟩
  · rw [List.length_append]
    exact hs.box _ _ hb8
  · rw [List.length_append]
    rcases h8.2 with ⟨h, _⟩ | ⟨_, cap, cur, e1, _, _, h, _⟩
    · cases h
    · injection e1 with e1 e2 e3
      simp only [List.length_singleton]
      omega
  · rw [List.length_append, List.length_singleton]
    have h8l := h8.1
    rcases h8.2 with ⟨h, _⟩ | ⟨g, cap, cur, e1, e2, e3, e4, e5, e6, e7⟩
    · cases h
    · injection e1 with e1 _ e8
      injection e1 with e1
      injection e1 with e1
      subst e1
      subst e8
      have hx4 : (List.flatten xs).length = vs.length * 4 := by
        rw [List.length_append, show [z0, z1, z2, z3].length = 4 from rfl] at h8l
        omega
      refine ⟨?_, .inr ⟨g8, c8, _, rfl, e2, hs.row _ _ e3, e4, e5, by simp [e6], ?_⟩⟩
      · rw [List.flatten_append, List.length_append, hx4]
        simp
        omega
      · rw [Nat.add_mul, Nat.one_mul, put4_take cur (vs.length * 4) (by omega), List.flatten_append]
        have : cur.toList.take (vs.length * 4) = List.flatten xs := by
          have e9 := congrArg (List.take (vs.length * 4)) e7
          rw [List.take_take, Nat.min_eq_left (by omega), List.take_left' hx4] at e9
          exact e9
        rw [this]
        simp
  · refine VOwAll.snoc _ _ _ (VOwAll.keep _ _ _ ha fun b hm => ?_) (VOw.keep _ _ _ hy hnew)
    have h1 := VOwAll.lt _ _ _ ha b hm
    have h2 := hf b hm
    exact hold b h1 (by omega) h2.2
  · intro b hm
    rw [List.length_append, List.length_singleton, hob]
    rcases List.mem_append.1 hm with hm | hm
    · have h1 := VOwAll.lt _ _ _ ha b hm
      have h2 := hf b hm
      refine ⟨h2.1, fun e => ?_⟩
      injection e with e
      subst e
      rcases hl8 with e | e
      · exact h2.2 e.symm
      · injection e with e; omega
    · have h1 := hn6 b hm
      have h2 := VOw.lt _ _ _ hy b hm
      refine ⟨h1.1, fun e => ?_⟩
      injection e with e
      subst e
      rcases hl8 with e | e
      · exact h1.2 e.symm
      · injection e with e; omega
theorem Coll.list {base lb : Nat} {vs : List Vl} {W : World} (h : Coll base lb vs W) : ∃ A c, W.heap[lb]? = some (.cells #[.slice A vs.length c] 24 (0, 0)) ∧ vs.length ≤ c ∧ RdV W W.heap.size A vs := by
  obtain ⟨A, c, xs, f, _, hb, hc, ho, ha, hf⟩ := h
  exact ⟨A, c, hb, hc, xs, Rd.of_own ho, VOwAll.at_ _ _ _ ha (VOwAll.lt _ _ _ ha)⟩
end Go.Proofs.Ytfckmkpfhchggaa

/- The law that a value is built of its elements: its walk. -/
namespace Go.Proofs.Ytfckmkpfhchggaa
open Go.RowKit
attribute [local go_sem ↓] Go.wp_at_zero Go.wp_at_succ
attribute [local go_sem] wide_fn wide_depth Oper.semAt_some

/-- What the law begins with: its argument in a box, its result in a box. -/
structure Beg (w wa : World) (v : Vl) (nA : Option Addr) (nc : Nat) (sA : Option Addr) (sc : Nat) (lA : Option Addr) (lc : Nat) : Prop where
  c : C4 wa w.heap.size 0 (.int .i64 v.t) (.slice nA v.n.length nc) (.slice sA v.s.length sc) (.slice lA v.l.length lc)
  r : wa.heap[w.heap.size + 1]? = some (.cells #[.bool false] 4 (0, 0))
  g : w.grownBy wa none
  s : wa.heap.size = w.heap.size + 2
  v : VB wa w.heap.size v nA nc sA sc lA lc
theorem alloc2_new (w : World) (x y : Obj) : ((w.alloc x).alloc y).heap[w.heap.size + 1]? = some y := by
  have := heap_alloc_new (w.alloc x) y
  rwa [World.size_alloc] at this
theorem Beg.mk_ {w : World} {v : Vl} {nA : Option Addr} {nc : Nat} {sA : Option Addr} {sc : Nat} {lA : Option Addr} {lc : Nat} (h : VB w w.heap.size v nA nc sA sc lA lc) :
    Beg w ((w.alloc (.cells #[.int .i64 v.t, .slice nA v.n.length nc, .slice sA v.s.length sc, .slice lA v.l.length lc] 26)).alloc (.cells #[.bool false] 4)) v nA nc sA sc lA lc := by
  have hg := gb_alloc (gb_alloc (gb_refl w none) (.cells #[.int .i64 v.t, .slice nA v.n.length nc, .slice sA v.s.length sc, .slice lA v.l.length lc] 26)) (.cells #[.bool false] 4)
  exact ⟨(C4.box w _ _ _ _ _).gb (gb_alloc (gb_refl _ none) _), alloc2_new w _ _, hg, by simp, h.gb hg (Nat.le_refl _)⟩

set_option maxHeartbeats 8000000 in
set_option maxRecDepth 100000 in
theorem builds_huge (v : Vl) (w : World) (nA : Option Addr) (nc : Nat) (sA : Option Addr) (sc : Nat) (lA : Option Addr) (lc : Nat) (ht : v.tot ≤ 1100000) (h : VB w w.heap.size v nA nc sA sc lA lc) (hhu : hugeV [v] = true) :
    Calls Try.prog 5 #[.agg #[.int .i64 v.t, .slice nA v.n.length nc, .slice sA v.s.length sc, .slice lA v.l.length lc]] w fun e w' => e = .returned (.bool true) ∧ w.grownBy w' none := by
  obtain ⟨wa, hwa⟩ : ∃ wa, wa = (w.alloc (.cells #[.int .i64 v.t, .slice nA v.n.length nc, .slice sA v.s.length sc, .slice lA v.l.length lc] 26)).alloc (.cells #[.bool false] 4) := ⟨_, rfl⟩
  have hbg := Beg.mk_ h
  rw [← hwa] at hbg
  obtain ⟨⟨b0, b1, b2, b3⟩, hr, hg, hs, hv⟩ := hbg
  have hvb := hv.up hg.size
  have HU : Hid (Calls Try.prog 7 #[.slice (some ⟨w.heap.size + 2, 0, none⟩) 1 1] (wa.alloc (.cells #[.int .i64 v.t, .slice nA v.n.length nc, .slice sA v.s.length sc, .slice lA v.l.length lc] 26)) fun e w' => e = .returned (.bool true) ∧ (wa.alloc (.cells #[.int .i64 v.t, .slice nA v.n.length nc, .slice sA v.s.length sc, .slice lA v.l.length lc] 26)).grownBy w' none) := hide (by
    have hx := hugeV_any [v] (some ⟨wa.heap.size, 0, none⟩) 1 (wa.heap.size + 1) (wa.alloc (.cells #[.int .i64 v.t, .slice nA v.n.length nc, .slice sA v.s.length sc, .slice lA v.l.length lc] 26)) (by simp only [Vl.tots]; omega) (by simp) (RdV.lit1 hvb.at_)
    rw [hs, hhu] at hx
    exact hx)
  have HG := hide hg
  have HWE := hide hwa
  have HR := hide hr
  have HS := hide hs
  clear h hg hwa hr hv hvb hhu ht hs
  go_enter Try.func5, Try.ntmps5
  go_wp2_with fail
  rw [← HWE.out]
  go_wp2_with (first
    | (go_at_call 7; refine HU.out.mono ?_; rintro e w1 ⟨rfl, hg1⟩; have HG1 := hide (gb_trans (gb_alloc (gb_refl wa none) _) hg1 (.inl rfl)); clear hg1)
    | (go_at_call 9; refine (live_any _).mono ?_; rintro e w2 ⟨rfl, hg2⟩; have HG2 := hide (gb_trans HG1.out hg2 (.inl rfl)); have hb2 := (HG2.out.block _ (by rw [HS.out]; omega) (by simp)).trans HR.out; have hc2 := blk_cell hb2 0; have hz2 := blk_frozen hb2 0; have HB2 := hide hb2; clear hg2 hb2))
  have hc3 := blk_cell (blk_set HB2.out 0 (.bool true)) 0
  rw [List.setIfInBounds_toArray] at hc3
  refine bodyPost_ret (v := .bool true) (by simp [results, Try.results5, go_sem, hc3]) rfl ⟨rfl, gb_setCell (gb_trans HG.out HG2.out (.inl rfl)) (.inr (Nat.le_succ _)) _⟩
set_option maxHeartbeats 8000000 in
set_option maxRecDepth 100000 in
theorem builds_bad (v : Vl) (w : World) (nA : Option Addr) (nc : Nat) (sA : Option Addr) (sc : Nat) (lA : Option Addr) (lc : Nat) (ht : v.tot ≤ 1100000) (h : VB w w.heap.size v nA nc sA sc lA lc) (hhu : hugeV [v] = false) (hk : ¬ checkV v = 0) :
    Calls Try.prog 5 #[.agg #[.int .i64 v.t, .slice nA v.n.length nc, .slice sA v.s.length sc, .slice lA v.l.length lc]] w fun e w' => e = .returned (.bool true) ∧ w.grownBy w' none := by
  obtain ⟨wa, hwa⟩ : ∃ wa, wa = (w.alloc (.cells #[.int .i64 v.t, .slice nA v.n.length nc, .slice sA v.s.length sc, .slice lA v.l.length lc] 26)).alloc (.cells #[.bool false] 4) := ⟨_, rfl⟩
  have hbg := Beg.mk_ h
  rw [← hwa] at hbg
  obtain ⟨hc, hr, hg, hs, hv⟩ := hbg
  have HC := hide hc
  obtain ⟨b0, b1, b2, b3⟩ := hc
  have hvb := hv.up hg.size
  have HU : Hid (Calls Try.prog 7 #[.slice (some ⟨w.heap.size + 2, 0, none⟩) 1 1] (wa.alloc (.cells #[.int .i64 v.t, .slice nA v.n.length nc, .slice sA v.s.length sc, .slice lA v.l.length lc] 26)) fun e w' => e = .returned (.bool false) ∧ (wa.alloc (.cells #[.int .i64 v.t, .slice nA v.n.length nc, .slice sA v.s.length sc, .slice lA v.l.length lc] 26)).grownBy w' none) := hide (by
    have hx := hugeV_any [v] (some ⟨wa.heap.size, 0, none⟩) 1 (wa.heap.size + 1) (wa.alloc (.cells #[.int .i64 v.t, .slice nA v.n.length nc, .slice sA v.s.length sc, .slice lA v.l.length lc] 26)) (by simp only [Vl.tots]; omega) (by simp) (RdV.lit1 hvb.at_)
    rw [hs, hhu] at hx
    exact hx)
  have HCH := hide (fun w2 (k : wa.grownBy w2 none) => rCheck_any v w2 w2.heap.size nA nc sA sc lA lc ht (Nat.le_refl _) ((hvb.gb k (Nat.le_refl _)).up k.size))
  have HG := hide hg
  have HWE := hide hwa
  have HR := hide hr
  have HS := hide hs
  have hz1 : (checkV v != 0) = true := int_bne_f hk
  clear hk
  generalize checkV v = z at *
  clear h hg hwa hr hv hvb hhu ht hs
  go_enter Try.func5, Try.ntmps5
  go_wp2_with fail
  rw [← HWE.out]
  go_wp2_with (first
    | (go_at_call 7; refine HU.out.mono ?_; rintro e w1 ⟨rfl, hg1⟩; have HG1 := hide (gb_trans (gb_alloc (gb_refl wa none) _) hg1 (.inl rfl)); have b0 := cell_gb b0 HG1.out; have b1 := cell_gb b1 HG1.out; have b2 := cell_gb b2 HG1.out; have b3 := cell_gb b3 HG1.out; clear hg1)
    | (go_at_call 8; refine (HCH.out w1 HG1.out).mono ?_; rintro e w2 ⟨rfl, hg2⟩; have HG2 := hide (gb_trans HG1.out hg2 (.inl rfl)); clear hg2)
    | (go_at_call 9; refine (live_any _).mono ?_; rintro e w3 ⟨rfl, hg3⟩; have HG3 := hide (gb_trans HG2.out hg3 (.inl rfl)); have hb2 := (HG3.out.block _ (by rw [HS.out]; omega) (by simp)).trans HR.out; have hc2 := blk_cell hb2 0; have hz2 := blk_frozen hb2 0; have HB2 := hide hb2; clear hg3 hb2))
  have hc3 := blk_cell (blk_set HB2.out 0 (.bool true)) 0
  rw [List.setIfInBounds_toArray] at hc3
  refine bodyPost_ret (v := .bool true) (by simp [results, Try.results5, go_sem, hc3]) rfl ⟨rfl, gb_setCell (gb_trans HG.out HG3.out (.inl rfl)) (.inr (Nat.le_succ _)) _⟩

theorem eql_fn (b : Nat) (w : World) : (binOp BinOp.eql 41 (.func (Fn.func 57) #[] #[.pointer (some ⟨b, 0, none⟩)]) Value.nilFunc).run Try.prog w = .ok (.bool false) w := by kernel_rfl

/-- What the loop keeps. -/
def BuI (v : Vl) (w4 : World) (lb i : Nat) (W : World) : Prop := w4.grownBy W (some lb) ∧ Coll (w4.heap.size + 2) lb (elems v i) W
theorem infoV_ : ∃ i, Try.prog.info? 26 = some i ∧ i.zero = some (.agg #[.int .i64 0, .slice none 0 0, .slice none 0 0, .slice none 0 0]) ∧ i.size = 4 ∧ i.bytes = 80 := info_parts Try.infoV
theorem row_at {w : World} {base n c g : Nat} {xs ys : List Value} (h : w.ownsRow base 26 4 (.slice (some ⟨g, 0, none⟩) n c) n (xs ++ ys)) {k m : Nat} {u : Value} (hk : xs.length = m) (hu : ys[k]? = some u) : w.cell? ⟨g, m + k, none⟩ = some u ∧ w.frozen? ⟨g, m + k, none⟩ = false := by
  rcases h.2 with ⟨h, _⟩ | ⟨g', cap, cur, e1, e2, e3, e4, e5, e6, e7⟩
  · cases h
  · injection e1 with e1
    injection e1 with e1
    injection e1 with e1
    subst e1
    refine ⟨?_, blk_frozen e3 _⟩
    rw [blk_cell e3]
    have h1 : (cur.toList.take (n * 4))[m + k]? = some u := by
      rw [e7, List.getElem?_append_right (by omega), hk, Nat.add_sub_cancel_left]
      exact hu
    rw [List.getElem?_take] at h1
    split at h1
    · simpa using h1
    · cases h1

set_option maxRecDepth 100000 in
/-- The end: behind a range over a function the law hands back its result's box. -/
theorem ends_marked {tmps : Array Value} {w wE : World} {D : Nat} (hg : w.grownBy wE none) (hr : wE.heap[w.heap.size + 1]? = some (.cells #[.bool false] 4 (0, 0))) (hd : wE.heap[D]? = some (.deferred (some []))) (hD : w.heap.size ≤ D) (ht : tmps.getD 2 undef = .pointer (some ⟨w.heap.size + 1, 0, none⟩)) :
    LeavesInM Fence.wide 0 Try.prog Try.f5 tmps (fun e w' => e = .returned (.bool true) ∧ w.grownBy w' none) [{ target := .collected D, args := #[] }] .returning (wE.setCell ⟨w.heap.size + 1, 0, none⟩ (.bool true)) := by
  have hne : w.heap.size + 1 ≠ D := fun e => by rw [← e, hr] at hd; cases hd
  have hK : (wE.setCell ⟨w.heap.size + 1, 0, none⟩ (.bool true)).heap[D]? = some (.deferred (some [])) := (setCell_other _ _ _ _ (fun e => hne e.symm)).trans hd
  have hb : ((wE.setCell ⟨w.heap.size + 1, 0, none⟩ (.bool true)).putObj D (.deferred none)).heap[w.heap.size + 1]? = some (.cells #[.bool true] 4 (0, 0)) := by
    rw [World.putObj_heap_other hne, blk_set hr 0 (.bool true), List.setIfInBounds_toArray]
    rfl
  have hc : ((wE.setCell ⟨w.heap.size + 1, 0, none⟩ (.bool true)).putObj D (.deferred none)).cell? ⟨w.heap.size + 1, 0, none⟩ = some (.bool true) := by rw [blk_cell hb]; rfl
  refine ⟨by simp, .inl ⟨_, _, rfl, run_takeDeferred hK, .bool true, ?_, rfl, ?_⟩⟩
  · have ht2 : tmps[2]?.getD undef = .pointer (some ⟨w.heap.size + 1, 0, none⟩) := by rw [← Array.getD_eq_getD_getElem?]; exact ht
    simp [results, Try.results5, go_sem, hc, ht2]
  · exact gb_trans (gb_setCell hg (.inr (Nat.le_succ _)) _) (gb_loopPut _ D _) (.inr (.inr ⟨_, rfl, hD⟩))

set_option maxHeartbeats 16000000 in
set_option maxRecDepth 100000 in
theorem builds_good (v : Vl) (w : World) (nA : Option Addr) (nc : Nat) (sA : Option Addr) (sc : Nat) (lA : Option Addr) (lc : Nat) (ht : v.tot ≤ 70000) (h : VB w w.heap.size v nA nc sA sc lA lc) (hhu : hugeV [v] = false) (hk : checkV v = 0) :
    Calls Try.prog 5 #[.agg #[.int .i64 v.t, .slice nA v.n.length nc, .slice sA v.s.length sc, .slice lA v.l.length lc]] w fun e w' => e = .returned (.bool true) ∧ w.grownBy w' none := by
  obtain ⟨wa, hwa⟩ : ∃ wa, wa = (w.alloc (.cells #[.int .i64 v.t, .slice nA v.n.length nc, .slice sA v.s.length sc, .slice lA v.l.length lc] 26)).alloc (.cells #[.bool false] 4) := ⟨_, rfl⟩
  have hbg := Beg.mk_ h
  rw [← hwa] at hbg
  obtain ⟨hc, hr, hg, hs, hv⟩ := hbg
  have HC := hide hc
  obtain ⟨b0, b1, b2, b3⟩ := hc
  have hvb := hv.up hg.size
  have HU : Hid (Calls Try.prog 7 #[.slice (some ⟨w.heap.size + 2, 0, none⟩) 1 1] (wa.alloc (.cells #[.int .i64 v.t, .slice nA v.n.length nc, .slice sA v.s.length sc, .slice lA v.l.length lc] 26)) fun e w' => e = .returned (.bool false) ∧ (wa.alloc (.cells #[.int .i64 v.t, .slice nA v.n.length nc, .slice sA v.s.length sc, .slice lA v.l.length lc] 26)).grownBy w' none) := hide (by
    have hx := hugeV_any [v] (some ⟨wa.heap.size, 0, none⟩) 1 (wa.heap.size + 1) (wa.alloc (.cells #[.int .i64 v.t, .slice nA v.n.length nc, .slice sA v.s.length sc, .slice lA v.l.length lc] 26)) (by simp only [Vl.tots]; omega) (by simp) (RdV.lit1 hvb.at_)
    rw [hs, hhu] at hx
    exact hx)
  have HCH := hide (fun w2 (k : wa.grownBy w2 none) => rCheck_any v w2 w2.heap.size nA nc sA sc lA lc (by omega) (Nat.le_refl _) ((hvb.gb k (Nat.le_refl _)).up k.size))
  have HEA := hide (fun w2 (k : wa.grownBy w2 none) => each_any v w2 w2.heap.size nA nc sA sc lA lc (by omega) (Nat.le_refl _) ((hvb.gb k (Nat.le_refl _)).up k.size))
  have HV := hide hvb
  have HG := hide hg
  have HWE := hide hwa
  have HR := hide hr
  have HS := hide hs
  have HT := hide ht
  have HK := hide hk
  rw [hk] at HCH
  clear hk h hg hwa hr hv hvb hhu ht hs
  have hfn := eql_fn
  refine (callsIn_wide (n := 0)).1 (callsIn_of_wp_marks Try.func5 rfl trivial (wpIn_wide.2 ?_))
  simp only [Try.ntmps5, List.size_toArray, List.length_cons, List.length_nil, Nat.reduceAdd, Nat.reduceSub, Array.replicate_succ, Array.replicate_zero, List.push_toArray, List.append_toArray, List.nil_append, List.cons_append]
  go_wp2_with fail
  rw [← HWE.out]
  go_wp2_with (first
    | (go_at_call 7; refine HU.out.mono ?_; rintro e w1 ⟨rfl, hg1⟩; have HG1 := hide (gb_trans (gb_alloc (gb_refl wa none) _) hg1 (.inl rfl)); have b0 := cell_gb b0 HG1.out; have b1 := cell_gb b1 HG1.out; have b2 := cell_gb b2 HG1.out; have b3 := cell_gb b3 HG1.out; clear hg1)
    | (go_at_call 8; refine (HCH.out w1 HG1.out).mono ?_; rintro e w2 ⟨rfl, hg2⟩; have HG2 := hide (gb_trans HG1.out hg2 (.inl rfl)); have HG3 := hide (gb_trans HG2.out (gb_alloc (gb_refl w2 none) (.cells #[.slice none 0 0] 24)) (.inl rfl)); obtain ⟨k0, k1, k2, k3⟩ := HC.out.gb HG3.out; clear hg2)
    | (go_at_call 28; refine (HEA.out _ HG3.out).mono ?_; rintro e w4 ⟨bk, f, rfl, hea, hnew, hg4⟩; have HEK := hide hea; have HNW := hide hnew; have HG4 := hide hg4; clear hea hnew hg4))
  clear hfn k0 k1 k2 k3 HEA HCH HU
  generalize hwl : w2.alloc (.cells #[.slice none 0 0] 24) = w3 at *
  have HLB := hide (show w3.heap[w2.heap.size]? = some (.cells #[.slice none 0 0] 24 (0, 0)) ∧ w3.heap.size = w2.heap.size + 1 by rw [← hwl]; exact ⟨heap_alloc_new w2 _, by simp⟩)
  clear hwl
  have HSZ := hide (show w2.heap.size < w4.heap.size by have h1 := HLB.out.2; have h2 := HG4.out.size; omega)
  have HI4 := hide (show w4.heap[w2.heap.size]? = some (.cells #[.slice none 0 0] 24 (0, 0)) from (HG4.out.block _ (by have h1 := HLB.out.2; omega) (by simp)).trans HLB.out.1)
  refine wp_rangeFunc_c (gf := 57) (lb := #[.pointer (some ⟨bk, 0, none⟩)]) rfl (enters_of Try.func57 (by kernel_rfl) rfl) (each_seq v HK.out (by have := HT.out; omega) w4 bk f HEK.out (fun b hb => (HNW.out b hb).2)) (gb_refl w4 none) (fun _ => rfl)
    (BuI v w4 w2.heap.size) (fun _ _ => False) ?hI (fun _ _ _ h _ _ => h.elim) ?hKp ?h0 ?hround ?hdone (fun _ _ h _ _ => h.elim)
  case hI =>
    rintro i A B ⟨h1, h2⟩ _ h3
    have h4 := HSZ.out
    exact ⟨gb_trans h1 h3 (.inr (.inr ⟨_, rfl, by omega⟩)), h2.keep h3 (by omega) (by omega)⟩
  case hKp =>
    rintro A B C ⟨h1, h2⟩ ⟨r, hr⟩ h3
    have h4 := blk_lt hr
    refine ⟨Nat.le_trans h1 h3.size, fun b hb => ?_⟩
    have h5 := (HNW.out b hb).2
    exact (h3.block b (by omega) (by intro e; injection e with e; omega)).trans (h2 b hb)
  case h0 =>
    intro B h1 h2
    have h4 := HSZ.out
    exact ⟨gb_some h1 _, none, 0, [], [], by omega, (h1.block _ h4 (by simp)).trans HI4.out, Nat.le_refl _, ⟨rfl, .inl ⟨rfl, rfl⟩⟩, ⟨rfl, rfl⟩, by simp⟩
  case hround =>
    rintro i ⟨xi, xc⟩ W0 W ⟨hgi, hco⟩ hgr hlt ⟨hxi, y, xA, xk, yA, yk, zA, zk, g, hat, hxc, hov, hgb, hgd⟩ hsz hla
    simp only at hxi hxc
    subst hxi hxc
    obtain ⟨y', hy', hcy⟩ := at_ok HK.out hlt
    rw [hat] at hy'
    injection hy' with hy'
    subst hy'
    have hty := at_tot hat
    have hes := elems_succ v xi
    rw [hat, Option.getD_some] at hes
    have hln := elems_len v xi
    have hcl := Vl.count_le v.depth v (Nat.le_refl _)
    have hxl : xi < 70000 := by have := HT.out; omega
    have HES := hide hes
    have HLN := hide hln
    have HXL := hide hxl
    have HCY := hide hcy
    have HTY := hide (show y.tot ≤ 1100000 by have := HT.out; omega)
    have HCO := hide hco
    have HGI := hide hgi
    have HGR := hide hgr
    have HOV := hide hov
    have HGB := hide hgb
    have HSW := hide hsz
    have HLA := hide hla
    clear hgi hco hgr hlt hat hov hgb hsz hla hgd hty hes hln hcl hxl hcy
    gi_wp2
    have hs0 := HSW.out
    have hs1 := HGR.out.size
    refine ⟨Keep2.of_gb (gb_alloc (gb_refl W none) _) (by omega), fun w₂ hgl hl2 => ?_⟩
    have hga := gb_alloc (gb_refl W none) (.cells #[.int .i64 y.t, .slice xA y.n.length xk, .slice yA y.s.length yk, .slice zA y.l.length zk] 26)
    have hsA : (W.alloc (.cells #[.int .i64 y.t, .slice xA y.n.length xk, .slice yA y.s.length yk, .slice zA y.l.length zk] 26)).heap.size = W.heap.size + 1 := by simp
    have hkb : ∀ b, b < W.heap.size + 1 → b ≠ w4.heap.size + 1 → w₂.heap[b]? = (W.alloc (.cells #[.int .i64 y.t, .slice xA y.n.length xk, .slice yA y.s.length yk, .slice zA y.l.length zk] 26)).heap[b]? := fun b h1 h2 => hgl.block b (by omega) (by intro e; injection e with e; exact h2 e)
    have hbx := (hkb W.heap.size (by omega) (by omega)).trans (heap_alloc_new W _)
    have d0 : w₂.cell? ⟨W.heap.size, 0, none⟩ = some (.int .i64 y.t) := by rw [blk_cell hbx]; rfl
    have d1 : w₂.cell? ⟨W.heap.size, 1, none⟩ = some (.slice xA y.n.length xk) := by rw [blk_cell hbx]; rfl
    have d2 : w₂.cell? ⟨W.heap.size, 2, none⟩ = some (.slice yA y.s.length yk) := by rw [blk_cell hbx]; rfl
    have d3 : w₂.cell? ⟨W.heap.size, 3, none⟩ = some (.slice zA y.l.length zk) := by rw [blk_cell hbx]; rfl
    have HOV2 := hide (show VOw w₂ y [.int .i64 y.t, .slice xA y.n.length xk, .slice yA y.s.length yk, .slice zA y.l.length zk] g from VOw.keep _ _ _ (HOV.out.gb hga) fun b hb => hkb b (by have := VOw.lt _ _ _ HOV.out b hb; omega) (by have := HGB.out b hb; omega))
    obtain ⟨L, Lc, xs, fx, hcp⟩ := HCO.out
    have HCP := hide (show CollP (w4.heap.size + 2) w2.heap.size (elems v xi) L Lc xs fx w₂ from ((hcp.grown HGR.out).grown hga).keep hgl (by omega) (by have := HSZ.out; omega))
    have HRB := hide (show ∀ b ∈ g, w4.heap.size + 2 ≤ b ∧ (Value.slice L (elems v xi).length Lc).ownBlock ≠ some b from fun b hb => ⟨by have := HGB.out b hb; omega, fun e => by have := HGB.out b hb; have := (hcp.ho.lt b e).2; omega⟩)
    have HSW2 := hide (show w4.heap.size + 2 ≤ w₂.heap.size by have := hgl.size; omega)
    have HGI2 := hide (show w4.grownBy w₂ (some w2.heap.size) from gb_trans (gb_trans (gb_trans HGI.out HGR.out (.inr (.inl rfl))) hga (.inr (.inl rfl))) hgl (.inr (.inr ⟨_, rfl, by omega⟩)))
    have HKB0 := hide (show ∀ b, b ∈ bk :: f → w₂.heap[b]? = W.heap[b]? from fun b hb => by
      have h1 := (HNW.out b hb).2
      rw [hkb b (by omega) (by omega)]
      exact hga.block b (by omega) (by simp))
    have HWS := hide (show W.heap.size ≤ w₂.heap.size by have := hgl.size; omega)
    clear hcp
    have HGL := hide hgl
    have HG2' := hide hga
    have HCH2 := hide (vCheck_good y w₂ w₂.heap.size xA xk yA yk zA zk HCY.out HTY.out (Nat.le_refl _) HOV2.out.vb)
    clear hbx hkb hsA hga hgl hl2 hs0 hs1
    gi_wp2_with (first
      | (gi_at_call 33; refine (callsIn_round HCH2.out).mono ?_; rintro e w5 ⟨rfl, hg5⟩; have HG5 := hide hg5; have d0 := cell_gb d0 hg5; have d1 := cell_gb d1 hg5; have d2 := cell_gb d2 hg5; have d3 := cell_gb d3 hg5; clear hg5)
      | (gi_at_call 13; refine (callsIn_round (vnum_any _ _)).mono ?_; rintro e w6 ⟨rfl, rfl⟩))
    have HCP5 := hide (HCP.out.grown HG5.out)
    generalize elems v xi = vs at *
    obtain rfl : vs.length = xi := HLN.out
    have l3 : w5.cell? ⟨w2.heap.size, 0, none⟩ = some (.slice L vs.length Lc) := by rw [blk_cell HCP5.out.hb]; rfl
    refine region_round_any (by rintro ⟨a, w, h⟩; exact h) (by kernel_rfl) (by kernel_rfl) ?_
    refine any_facts 4 #[true, true, true, true, false, false, false, false] (by kernel_rfl) ?_
    intro A O Wd Ls HA HO HWd HL
    simp only [List.take_succ_cons, List.take_zero]
    have HS' := hide (show A.tmps.size = 67 by rw [HA.out]; rfl)
    have HGW := hide (show w5.grownBy Wd none by rw [HWd.out]; exact gb_drew (gb_refl w5 none))
    have A3 := hide (show A.eval (.tmp 3) = .pointer (some ⟨w2.heap.size, 0, none⟩) by rw [HA.out]; rfl)
    have A6 := hide (show A.eval (.tmp 6) = .pointer (some ⟨W.heap.size, 0, none⟩) by rw [HA.out]; rfl)
    -- slot 28
    refine wpFacts_lit (.slice L vs.length Lc) rfl ?_ ?_
    · intro aq wq hw hl
      have e3 : aq.tmps[3]?.getD undef = .pointer (some ⟨w2.heap.size, 0, none⟩) := (hl 3 (by first | (simp [Op.operands]; done) | simp [Op.operands, Call.operands]) (by rw [HS'.out]; decide)).trans A3.out
      have c0 := cell_gb l3 (gb_trans HGW.out hw (.inl rfl))
      clear hl
      go_simp
    -- slot 29
    refine wpFacts_lit (.agg #[.int .i64 y.t, .slice xA y.n.length xk, .slice yA y.s.length yk, .slice zA y.l.length zk]) rfl ?_ ?_
    · intro aq wq hw hl
      have e6 : aq.tmps[6]?.getD undef = .pointer (some ⟨W.heap.size, 0, none⟩) := (hl 6 (by first | (simp [Op.operands]; done) | simp [Op.operands, Call.operands]) (by rw [HS'.out]; decide)).trans A6.out
      have c0 := cell_gb d0 (gb_trans HGW.out hw (.inl rfl))
      have c1 := cell_gb d1 (gb_trans HGW.out hw (.inl rfl))
      have c2 := cell_gb d2 (gb_trans HGW.out hw (.inl rfl))
      have c3 := cell_gb d3 (gb_trans HGW.out hw (.inl rfl))
      clear hl
      go_simp
    -- slot 30
    refine wpFacts_lit (.int .i64 (vs.length : Nat)) rfl ?_ ?_
    · intro aq wq hw hl
      have e28 : aq.tmps[28]?.getD undef = .slice L vs.length Lc := hl 28 (by first | (simp [Op.operands]; done) | simp [Op.operands, Call.operands]) (by rw [HS'.out]; decide)
      clear hl
      go_simp
    -- slot 31
    refine wpFacts_step (RowF Wd.heap.size 1 zero4 26) rfl (RowF.up _ _ _ _) ?_ ?_
    · intro aq wq hw hl
      clear hl
      go_simp
      exact RowF.new _ _ hw.size
    refine HL.out _ (fun a' w6 hc => ?_)
    have e28 : a'.eval (.tmp 28) = .slice L vs.length Lc := hc.fact 28 (by rw [HS'.out]; decide)
    have e29 : a'.eval (.tmp 29) = .agg #[.int .i64 y.t, .slice xA y.n.length xk, .slice yA y.s.length yk, .slice zA y.l.length zk] := hc.fact 29 (by rw [HS'.out]; decide)
    have e30 : a'.eval (.tmp 30) = .int .i64 (vs.length : Nat) := hc.fact 30 (by rw [HS'.out]; decide)
    obtain ⟨bz, e31, hz, hbz⟩ : RowF Wd.heap.size 1 zero4 26 (a'.eval (.tmp 31)) w6 := hc.fact 31 (by rw [HS'.out]; decide)
    have hg6 := gb_trans HGW.out hc.grown (.inl rfl)
    have hfr := hc.frame [28, 29, 30, 31, 32, 33] (by rw [HO.out]; kernel_rfl)
    rw [hfr]
    clear hfr hc
    rw [HA.out]
    clear HA HO HL HWd HS' HGW A3 A6
    simp only [List.foldl_cons, List.foldl_nil, Act.put, List.setIfInBounds_toArray, List.set_cons_succ, List.set_cons_zero]
    rw [e28, e29, e30, e31]
    generalize a'.eval (.tmp 32) = x32
    generalize a'.eval (.tmp 33) = x33
    clear e28 e29 e30 e31
    clear a'
    obtain ⟨i1, hi1, hiz, his, hib⟩ := infoV_
    refine wpAny_ready (rs := [4]) (by kernel_rfl) (by simp) (AllReady.cons rfl (fun K hK => ?_) AllReady.nil)
    refine step_append_row' (by rfl) (.tmp 28) (.tmp 31) 24 (by rfl) (w4.heap.size + 2) 26 i1 (.agg #[.int .i64 0, .slice none 0 0, .slice none 0 0, .slice none 0 0]) 4 80 Try.underlying24 hi1 hiz his hib rfl (Nat.succ_pos 3) (.slice L vs.length Lc) vs.length (List.flatten xs) (by rfl) (HCP5.out.ho.kept hg6 (by cases (Value.slice L vs.length Lc).ownBlock <;> simp)) w6.heap.size (some ⟨bz, 0, none⟩) 1 1 [.int .i64 0, .slice none 0 0, .slice none 0 0, .slice none 0 0] (by rfl) rfl (rd_row hz (xs := [.int .i64 0, .slice none 0 0, .slice none 0 0, .slice none 0 0]) rfl (by simp)) (V4_one 0 none none none 0 0 0 0 0 0) (by have := HXL.out; unfold maxLen; omega) (by have := HXL.out; omega) (by have := HSW2.out; have := HG5.out.size; have := hg6.size; omega) ?_
    intro v8 w8 ho8 hg8 hl8
    obtain ⟨A8, c8, rfl, hc8⟩ := own_slice ho8
    obtain ⟨g8, rfl⟩ : ∃ g8, A8 = some ⟨g8, 0, none⟩ := by
      rcases ho8.2 with ⟨h, h'⟩ | ⟨g, _, _, h, _⟩
      · omega
      · injection h with h
        exact ⟨g, h⟩
    have hfl : (List.flatten xs).length = vs.length * 4 := HCP5.out.ho.1
    obtain ⟨x0, q0⟩ : w8.cell? ⟨g8, vs.length * 4, none⟩ = some (.int .i64 0) ∧ w8.frozen? ⟨g8, vs.length * 4, none⟩ = false := row_at ho8 (k := 0) hfl rfl
    obtain ⟨x1, q1⟩ := row_at ho8 (k := 1) hfl rfl
    obtain ⟨x2, q2⟩ := row_at ho8 (k := 2) hfl rfl
    obtain ⟨x3, q3⟩ := row_at ho8 (k := 3) hfl rfl
    have hlbn : (Value.slice L vs.length Lc).ownBlock ≠ some w2.heap.size := fun e => by have := (HCP5.out.ho.lt _ e).1; have := HSZ.out; omega
    have hb8 : w8.heap[w2.heap.size]? = some (.cells #[.slice L vs.length Lc] 24 (0, 0)) := by
      have h1 := blk_lt HCP5.out.hb
      have h2 := hg6.size
      rw [hg8.block _ (by omega) (fun e => hlbn e.symm), hg6.block _ h1 (by simp)]
      exact HCP5.out.hb
    have l8 : w8.cell? ⟨w2.heap.size, 0, none⟩ = some (.slice L vs.length Lc) := blk_cell hb8 0
    have z8 := blk_frozen hb8 0
    have hne8 : w2.heap.size ≠ g8 := fun e => by
      subst e
      rcases hl8 with e | e
      · exact hlbn e.symm
      · have e : some w2.heap.size = some w6.heap.size := e
        injection e with e
        have := HSZ.out; have := HSW2.out; have := HG5.out.size; have := hg6.size; omega
    have H8 := hide ho8
    have HG8 := hide hg8
    have HL8 := hide hl8
    have HG6 := hide hg6
    have HNE := hide hne8
    have hne9 : g8 ≠ w2.heap.size := fun e => HNE.out e.symm
    clear ho8 hg8 hl8 hg6 hb8 hc8 hfl hlbn hz hi1 hiz his hib
    refine hK _ _ ?_
    simp only [Act.put, List.setIfInBounds_toArray, List.set_cons_succ, List.set_cons_zero]
    clear hK K
    have hix : (vs.length : Int) < (vs.length : Int) + 1 := by omega
    have HFIN := hide (show ∀ wf, Set2 w8 wf w2.heap.size g8 (vs.length * 4) (.slice (some ⟨g8, 0, none⟩) (vs.length + 1) c8) (.int .i64 y.t) (.slice xA y.n.length xk) (.slice yA y.s.length yk) (.slice zA y.l.length zk) →
        Keep2 w4.heap.size w₂ wf ∧ KeptB (bk :: f) W wf ∧ BuI v w4 w2.heap.size (vs.length + 1) wf from fun wf hs => by
      obtain ⟨k1, ⟨k2, k3, k4, k5⟩, k6⟩ := HCP.out.step (gb_trans HG5.out HG6.out (.inl rfl)) HSW2.out ((HOV2.out.gb HG5.out).gb HG6.out) HRB.out H8.out HG8.out HL8.out rfl hs
      have n1 := HSZ.out
      have n2 := HLB.out.2
      have n3 := HWS.out
      have n4 := HSW2.out
      refine ⟨⟨k5, k6 _ (by omega) (by omega), k6 _ (by omega) (by omega)⟩, ⟨by omega, fun b hb => ?_⟩, ⟨k2.trans HGI2.out.os, k3.trans HGI2.out.tape, k4.trans HGI2.out.output, by omega, fun b h1 h2 => ?_⟩, ?_⟩
      · have h1 := HNW.out b hb
        exact (k6 b (by omega) (by omega)).trans (HKB0.out b hb)
      · exact (k6 b (by omega) (fun e => h2 (by rw [e]))).trans (HGI2.out.block b h1 h2)
      · rw [HES.out]
        exact k1)
    refine wpAny_ready (rs := [5, 7]) (by kernel_rfl) (by simp) (AllReady.cons rfl (fun K hK => ?_) (AllReady.cons rfl (fun K hK => ?_) AllReady.nil))
    · go_simp
      refine hK _ _ ?_
      clear hK K
      refine wpAny_ready (rs := [6, 7]) (by kernel_rfl) (by simp) (AllReady.cons rfl (fun K hK => ?_) (AllReady.cons rfl (fun K hK => ?_) AllReady.nil))
      · go_simp
        refine hK _ _ ?_
        clear hK K
        refine wpAny_ready (rs := [7]) (by kernel_rfl) (by simp) (AllReady.cons rfl (fun K hK => ?_) AllReady.nil)
        go_simp
        refine hK _ _ ?_
        clear hK K
        refine wpAny_done (by kernel_rfl) ?_ _
        exact HFIN.out _ (Set2.rowFirst _ _ _ _ _ _ _ _ _ HNE.out)
      · go_simp
        refine hK _ _ ?_
        clear hK K
        refine wpAny_ready (rs := [6]) (by kernel_rfl) (by simp) (AllReady.cons rfl (fun K hK => ?_) AllReady.nil)
        go_simp
        refine hK _ _ ?_
        clear hK K
        refine wpAny_done (by kernel_rfl) ?_ _
        exact HFIN.out _ (Set2.boxFirst _ _ _ _ _ _ _ _ _ HNE.out)
    · go_simp
      refine hK _ _ ?_
      clear hK K
      refine wpAny_ready (rs := [5]) (by kernel_rfl) (by simp) (AllReady.cons rfl (fun K hK => ?_) AllReady.nil)
      go_simp
      refine hK _ _ ?_
      clear hK K
      refine wpAny_ready (rs := [6]) (by kernel_rfl) (by simp) (AllReady.cons rfl (fun K hK => ?_) AllReady.nil)
      go_simp
      refine hK _ _ ?_
      clear hK K
      refine wpAny_done (by kernel_rfl) ?_ _
      exact HFIN.out _ (Set2.boxFirst _ _ _ _ _ _ _ _ _ HNE.out)
  case hdone =>
    rintro W ⟨hgw, hcl⟩ hsw hdef
    obtain ⟨A, c, hlc, hAc, hrd⟩ := hcl.list
    have n1 := HSZ.out
    have n2 := HLB.out.2
    have n3 := HG2.out.size
    have n4 := HS.out
    have hwa4 : wa.grownBy w4 none := gb_trans HG3.out HG4.out (.inl rfl)
    have hwaW : wa.grownBy W (some w2.heap.size) := gb_trans (gb_some hwa4 _) hgw (.inl rfl)
    have hvW : VB W wa.heap.size v nA nc sA sc lA lc := ⟨HV.out.n.grown hwaW (Nat.le_refl _) (fun g e => by injection e with e; omega), HV.out.s.grown hwaW (Nat.le_refl _) (fun g e => by injection e with e; omega), HV.out.l.grown hwaW (Nat.le_refl _) (fun g e => by injection e with e; omega), HV.out.hn, HV.out.hs, HV.out.hl⟩
    have hcW : C4 W w.heap.size 0 (.int .i64 v.t) (.slice nA v.n.length nc) (.slice sA v.s.length sc) (.slice lA v.l.length lc) := by
      have hk : ∀ o, W.cell? ⟨w.heap.size, o, none⟩ = wa.cell? ⟨w.heap.size, o, none⟩ := fun o => World.cell?_of_block (a := ⟨w.heap.size, o, none⟩) (hwaW.block w.heap.size (by omega) (by intro e; injection e with e; omega))
      exact ⟨(hk _).trans HC.out.c0, (hk _).trans HC.out.c1, (hk _).trans HC.out.c2, (hk _).trans HC.out.c3⟩
    have hrW : W.heap[w.heap.size + 1]? = some (.cells #[.bool false] 4 (0, 0)) := (hwaW.block _ (by omega) (by intro e; injection e with e; omega)).trans HR.out
    have HOF := hide (fun (hh : v.t = 0 ∨ (0 < v.t ∧ v.t ≤ 5 ∧ 0 < v.count)) => (show Calls Try.prog 34 #[.slice A (elems v v.count).length c] W (NewV v W) from by
      have h1 := of_elems (check_ok HK.out).1 hh
      have h2 := elemsV_tots (v := v) (by unfold rCol rVec; simp; omega)
      have h3 := of_any (elems v v.count) W W.heap.size A c (by have := HT.out; omega) (Nat.le_refl _) hrd
      rw [h1] at h3
      exact h3))
    have HMT := hide (fun (a : Option Addr) (ac : Nat) (b : Option Addr) (bc : Nat) (d : Option Addr) (dc : Nat) (w9 : World) (k : W.grownBy w9 none) (h : VB w9 w9.heap.size v a ac b bc d dc) => (show Calls Try.prog 31 #[.agg #[.int .i64 v.t, .slice a v.n.length ac, .slice b v.s.length bc, .slice d v.l.length dc], .agg #[.int .i64 v.t, .slice nA v.n.length nc, .slice sA v.s.length sc, .slice lA v.l.length lc]] w9 fun e w' => e = .returned (.bool true) ∧ w9.grownBy w' none from by
      have h1 := vMatch_any v v w9 w9.heap.size a ac b bc d dc nA nc sA sc lA lc (by have := HT.out; omega) (by have := HT.out; omega) (Nat.le_refl _) h ((hvW.gb k (Nat.le_trans (Nat.le_refl _) hwaW.size)).up (Nat.le_trans hwaW.size k.size))
      rw [Vl.same_refl] at h1
      exact h1))
    have HCW := hide hcW
    have HRW := hide hrW
    have HRL := hide (show w.heap.size + 1 < W.heap.size by omega)
    have HGWW := hide (show w.grownBy W none from gb_trans HG.out (⟨hwaW.os, hwaW.tape, hwaW.output, hwaW.size, fun b h1 _ => hwaW.block b h1 (by intro e; injection e with e; omega)⟩) (.inl rfl))
    have HDW := hide hdef
    have HDL := hide (show w4.heap.size < W.heap.size by omega)
    have HDN := hide (show w.heap.size ≤ w4.heap.size by omega)
    have hl0 : W.cell? ⟨w2.heap.size, 0, none⟩ = some (.slice A (elems v v.count).length c) := by rw [blk_cell hlc]; rfl
    rw [elems_len] at hl0 HOF
    obtain ⟨j0, j1, j2, j3⟩ := hcW
    clear hgw hcl hsw hdef hlc hAc hrd n1 n2 n3 n4 hwa4 hwaW hvW hrW
    generalize v.count = n at *
    clear HC HV HG HWE HR HS HG1 HG2 HG3 HG4 HEK HNW HLB HSZ HI4
    by_cases c0 : v.t = 0
    · have e0 := int_beq_t c0
      have HO2 := hide (HOF.out (.inl c0))
      clear c0 HOF
      go_wp2_with (first
        | (go_at_call 34; refine HO2.out.mono ?_; rintro e w6 ⟨uA, uc, vA, vc, xA, xc, fu, rfl, hou, hnu, hgu⟩; have HGV := hide (gb_trans hgu (gb_alloc (gb_refl w6 none) (.cells #[.int .i64 v.t, .slice uA v.n.length uc, .slice vA v.s.length vc, .slice xA v.l.length xc] 26)) (.inl rfl)); have HOU := hide (hou.gb (gb_alloc (gb_refl w6 none) (.cells #[.int .i64 v.t, .slice uA v.n.length uc, .slice vA v.s.length vc, .slice xA v.l.length xc] 26))); obtain ⟨u0, u1, u2, u3⟩ := C4.box w6 (.int .i64 v.t) (.slice uA v.n.length uc) (.slice vA v.s.length vc) (.slice xA v.l.length xc) 26; have j0 := cell_gb j0 HGV.out; have j1 := cell_gb j1 HGV.out; have j2 := cell_gb j2 HGV.out; have j3 := cell_gb j3 HGV.out; clear hou hnu hgu)
        | (go_at_call 31; refine (HMT.out _ _ _ _ _ _ _ HGV.out HOU.out.vb).mono ?_; rintro e w7 ⟨rfl, hg7⟩; have HG7 := hide (gb_trans HGV.out hg7 (.inl rfl)); have HOU7 := hide (HOU.out.gb hg7); have u0 := cell_gb u0 hg7; have u1 := cell_gb u1 hg7; have u2 := cell_gb u2 hg7; have u3 := cell_gb u3 hg7; clear hg7)
        | (go_at_call 33; refine (vCheck_good v _ _ _ _ _ _ _ _ HK.out (by have := HT.out; omega) (Nat.le_refl _) HOU7.out.vb).mono ?_; rintro e w8 ⟨rfl, hg8⟩; have HG8 := hide (gb_trans HG7.out hg8 (.inl rfl)); clear hg8)
        | (go_at_call 13; refine (vnum_any _ _).mono ?_; rintro e w9 ⟨rfl, rfl⟩)
        | (go_at_call 9; refine (live_any _).mono ?_; rintro e w10 ⟨rfl, hg10⟩; have HGE := hide (gb_trans HG8.out hg10 (.inl rfl)); have r8 := (HGE.out.block _ HRL.out (by simp)).trans HRW.out; have l8 := blk_cell r8 0; have z8 := blk_frozen r8 0; have HR8 := hide r8; clear hg10 r8))
      exact ends_marked (gb_trans HGWW.out HGE.out (.inl rfl)) HR8.out ((HGE.out.block _ HDL.out (by simp)).trans HDW.out) HDN.out rfl
    · have e0 := int_beq_f c0
      by_cases cp : 0 < v.t
      · by_cases c5 : v.t ≤ 5
        · by_cases cn : 0 < n
          · have hn1 : (0 : Int) < (n : Int) := by omega
            have HO2 := hide (HOF.out (.inr ⟨cp, c5, cn⟩))
            clear c0 cn HOF
            go_wp2_with (first
              | (go_at_call 34; refine HO2.out.mono ?_; rintro e w6 ⟨uA, uc, vA, vc, xA, xc, fu, rfl, hou, hnu, hgu⟩; have HGV := hide (gb_trans hgu (gb_alloc (gb_refl w6 none) (.cells #[.int .i64 v.t, .slice uA v.n.length uc, .slice vA v.s.length vc, .slice xA v.l.length xc] 26)) (.inl rfl)); have HOU := hide (hou.gb (gb_alloc (gb_refl w6 none) (.cells #[.int .i64 v.t, .slice uA v.n.length uc, .slice vA v.s.length vc, .slice xA v.l.length xc] 26))); obtain ⟨u0, u1, u2, u3⟩ := C4.box w6 (.int .i64 v.t) (.slice uA v.n.length uc) (.slice vA v.s.length vc) (.slice xA v.l.length xc) 26; have j0 := cell_gb j0 HGV.out; have j1 := cell_gb j1 HGV.out; have j2 := cell_gb j2 HGV.out; have j3 := cell_gb j3 HGV.out; clear hou hnu hgu)
              | (go_at_call 31; refine (HMT.out _ _ _ _ _ _ _ HGV.out HOU.out.vb).mono ?_; rintro e w7 ⟨rfl, hg7⟩; have HG7 := hide (gb_trans HGV.out hg7 (.inl rfl)); have HOU7 := hide (HOU.out.gb hg7); have u0 := cell_gb u0 hg7; have u1 := cell_gb u1 hg7; have u2 := cell_gb u2 hg7; have u3 := cell_gb u3 hg7; clear hg7)
              | (go_at_call 33; refine (vCheck_good v _ _ _ _ _ _ _ _ HK.out (by have := HT.out; omega) (Nat.le_refl _) HOU7.out.vb).mono ?_; rintro e w8 ⟨rfl, hg8⟩; have HG8 := hide (gb_trans HG7.out hg8 (.inl rfl)); clear hg8)
              | (go_at_call 13; refine (vnum_any _ _).mono ?_; rintro e w9 ⟨rfl, rfl⟩)
              | (go_at_call 9; refine (live_any _).mono ?_; rintro e w10 ⟨rfl, hg10⟩; have HGE := hide (gb_trans HG8.out hg10 (.inl rfl)); have r8 := (HGE.out.block _ HRL.out (by simp)).trans HRW.out; have l8 := blk_cell r8 0; have z8 := blk_frozen r8 0; have HR8 := hide r8; clear hg10 r8))
            exact ends_marked (gb_trans HGWW.out HGE.out (.inl rfl)) HR8.out ((HGE.out.block _ HDL.out (by simp)).trans HDW.out) HDN.out rfl
          · obtain rfl : n = 0 := by omega
            clear c0 cn HOF
            go_wp2_with (go_at_call 9; refine (live_any _).mono ?_; rintro e w10 ⟨rfl, hg10⟩; have HGE := hide hg10; have r8 := (HGE.out.block _ HRL.out (by simp)).trans HRW.out; have l8 := blk_cell r8 0; have z8 := blk_frozen r8 0; have HR8 := hide r8; clear hg10 r8)
            exact ends_marked (gb_trans HGWW.out HGE.out (.inl rfl)) HR8.out ((HGE.out.block _ HDL.out (by simp)).trans HDW.out) HDN.out rfl
        · have c6 : 5 < v.t := by omega
          clear c0 c5 HOF
          go_wp2_with (go_at_call 9; refine (live_any _).mono ?_; rintro e w10 ⟨rfl, hg10⟩; have HGE := hide hg10; have r8 := (HGE.out.block _ HRL.out (by simp)).trans HRW.out; have l8 := blk_cell r8 0; have z8 := blk_frozen r8 0; have HR8 := hide r8; clear hg10 r8)
          exact ends_marked (gb_trans HGWW.out HGE.out (.inl rfl)) HR8.out ((HGE.out.block _ HDL.out (by simp)).trans HDW.out) HDN.out rfl
      · have c6 : v.t ≤ 0 := by omega
        clear c0 cp HOF
        go_wp2_with (go_at_call 9; refine (live_any _).mono ?_; rintro e w10 ⟨rfl, hg10⟩; have HGE := hide hg10; have r8 := (HGE.out.block _ HRL.out (by simp)).trans HRW.out; have l8 := blk_cell r8 0; have z8 := blk_frozen r8 0; have HR8 := hide r8; clear hg10 r8)
        exact ends_marked (gb_trans HGWW.out HGE.out (.inl rfl)) HR8.out ((HGE.out.block _ HDL.out (by simp)).trans HDW.out) HDN.out rfl

theorem builds_any (v : Vl) (w : World) (nA : Option Addr) (nc : Nat) (sA : Option Addr) (sc : Nat) (lA : Option Addr) (lc : Nat) (ht : v.tot ≤ 1100000) (h : VB w w.heap.size v nA nc sA sc lA lc) :
    Calls Try.prog 5 #[.agg #[.int .i64 v.t, .slice nA v.n.length nc, .slice sA v.s.length sc, .slice lA v.l.length lc]] w fun e w' => e = .returned (.bool true) ∧ w.grownBy w' none := by
  cases hhu : hugeV [v]
  · by_cases hk : checkV v = 0
    · refine builds_good v w nA nc sA sc lA lc ?_ h hhu hk
      have := of_decide_eq_false hhu
      simp only [Vl.tots] at this
      omega
    · exact builds_bad v w nA nc sA sc lA lc ht h hhu hk
  · exact builds_huge v w nA nc sA sc lA lc ht h hhu
end Go.Proofs.Ytfckmkpfhchggaa
