/-
  Values in a row of their own, each owned or read below a bound.
-/
import Derived.Test.YtkbflmaflokpdaaGreatQJr
import Derived.Test.YtkbflmaflokpdaaGreatQJp
import Derived.Test.YtkbflmaflokpdaaGreatQJo
import Derived.Deep.CutBlock
import Derived.Deep.DeepCutAuto
import Derived.Test.YtkbflmaflokpdaaGreatQJn
import Derived.Test.YtkbflmaflokpdaaGreatQJd
import Derived.Test.YtkbflmaflokpdaaGreatQJj
import Derived.Deep.RegionLaw
import Derived.Test.YtkbflmaflokpdaaGreatQJe

namespace Go.Proofs.YtkbflmaflokpdaaGreat
open Go.RowKit

/-- The list in box lb: its row and its parts from block base on. -/
structure CollP (base lb : Nat) (vs : List Vl) (A : Option Addr) (c : Nat) (xs : List (List Value)) (f : List Nat) (W : World) : Prop where
  hlb : lb < base
  hb : W.heap[lb]? = some (.cells #[.slice A vs.length c] 24 (0, 0))
  hc : vs.length ≤ c
  ho : W.ownsRow base 26 4 (.slice A vs.length c) vs.length (List.flatten xs)
  ha : VOwAll W vs xs f
  hf : ∀ b ∈ f, base ≤ b ∧ (Value.slice A vs.length c).ownBlock ≠ some b
def Coll (base lb : Nat) (vs : List Vl) (W : World) : Prop := ∃ A c xs f, CollP base lb vs A c xs f W
theorem CollP.keep {base lb g : Nat} {vs : List Vl} {A : Option Addr} {c : Nat} {xs : List (List Value)} {f : List Nat} {W W' : World} (h : CollP base lb vs A c xs f W) (hg : W.grownBy W' (some g)) (h1 : g < base) (h2 : g ≠ lb) : CollP base lb vs A c xs f W' := by
  obtain ⟨hlb, hb, hc, ho, ha, hf⟩ := h
  refine ⟨hlb, (hg.block lb (blk_lt hb) (by intro e; injection e with e; exact h2 e.symm)).trans hb, hc, ho.kept hg ?_, VOwAll.keep _ _ _ ha fun b hm => hg.block b (VOwAll.lt _ _ _ ha b hm) (by have := (hf b hm).1; intro e; injection e with e; omega), hf⟩
  cases e : (Value.slice A vs.length c).ownBlock with
  | none => exact .inl rfl
  | some b =>
    refine .inr fun e' => ?_
    injection e' with e'
    have := (ho.lt b e).1
    omega
theorem CollP.grown {base lb : Nat} {vs : List Vl} {A : Option Addr} {c : Nat} {xs : List (List Value)} {f : List Nat} {W W' : World} (h : CollP base lb vs A c xs f W) (hg : W.grownBy W' none) : CollP base lb vs A c xs f W' := by
  obtain ⟨hlb, hb, hc, ho, ha, hf⟩ := h
  exact ⟨hlb, (hg.block lb (blk_lt hb) (by simp)).trans hb, hc, ho.kept hg (by cases (Value.slice A vs.length c).ownBlock <;> simp), VOwAll.keep _ _ _ ha fun b hm => hg.block b (VOwAll.lt _ _ _ ha b hm) (by simp), hf⟩
theorem Coll.keep {base lb g : Nat} {vs : List Vl} {W W' : World} (h : Coll base lb vs W) (hg : W.grownBy W' (some g)) (h1 : g < base) (h2 : g ≠ lb) : Coll base lb vs W' := by
  obtain ⟨A, c, xs, f, h⟩ := h
  exact ⟨A, c, xs, f, h.keep hg h1 h2⟩
/-- The new list: what the append has left, the zero it put overwritten, the box set. -/
structure Set2 (w8 wf : World) (lb g8 i : Nat) (v c0 c1 c2 c3 : Value) : Prop where
  size : wf.heap.size = w8.heap.size
  os : wf.os = w8.os
  tape : wf.tape = w8.tape
  output : wf.output = w8.output
  box : ∀ u t, w8.heap[lb]? = some (.cells #[u] t (0, 0)) → wf.heap[lb]? = some (.cells #[v] t (0, 0))
  row : ∀ cur t, w8.heap[g8]? = some (.cells cur t (0, 0)) → wf.heap[g8]? = some (.cells ((((cur.setIfInBounds i c0).setIfInBounds (i + 1) c1).setIfInBounds (i + 2) c2).setIfInBounds (i + 3) c3) t (0, 0))
  rest : ∀ b, b ≠ lb → b ≠ g8 → wf.heap[b]? = w8.heap[b]?
theorem setCell_other (w : World) (p : Addr) (u : Value) (b : Nat) (h : b ≠ p.block) : (w.setCell p u).heap[b]? = w.heap[b]? := Below.heap_setCell w p u b (fun e => h e)
theorem put4_other (w : World) (g i : Nat) (c0 c1 c2 c3 : Value) (b : Nat) (h : b ≠ g) : (put4 w g i c0 c1 c2 c3).heap[b]? = w.heap[b]? := by
  unfold put4
  rw [setCell_other _ _ _ _ h, setCell_other _ _ _ _ h, setCell_other _ _ _ _ h, setCell_other _ _ _ _ h]
theorem Set2.rowFirst (w8 : World) (lb g8 i : Nat) (v c0 c1 c2 c3 : Value) (hne : lb ≠ g8) : Set2 w8 ((put4 w8 g8 i c0 c1 c2 c3).setCell ⟨lb, 0, none⟩ v) lb g8 i v c0 c1 c2 c3 := by
  have k1 := gb_setCell (gb_refl (put4 w8 g8 i c0 c1 c2 c3) (some lb)) (p := ⟨lb, 0, none⟩) (.inl rfl) v
  have k2 := put4_gb w8 g8 i c0 c1 c2 c3
  refine ⟨by simp [put4, World.setCell], k1.os.trans k2.os, k1.tape.trans k2.tape, k1.output.trans k2.output, fun u t h => ?_, fun cur t h => ?_, fun b h1 h2 => ?_⟩
  · have h2 : (put4 w8 g8 i c0 c1 c2 c3).heap[lb]? = some (.cells #[u] t (0, 0)) := (put4_other _ _ _ _ _ _ _ _ hne).trans h
    rw [blk_set h2 0 v, List.setIfInBounds_toArray]
    rfl
  · rw [setCell_other _ _ _ _ (show g8 ≠ lb from fun e => hne e.symm)]
    exact put4_blk h c0 c1 c2 c3
  · rw [setCell_other _ _ _ _ h1, put4_other _ _ _ _ _ _ _ _ h2]
theorem Set2.boxFirst (w8 : World) (lb g8 i : Nat) (v c0 c1 c2 c3 : Value) (hne : lb ≠ g8) : Set2 w8 (put4 (w8.setCell ⟨lb, 0, none⟩ v) g8 i c0 c1 c2 c3) lb g8 i v c0 c1 c2 c3 := by
  have k1 := gb_setCell (gb_refl w8 (some lb)) (p := ⟨lb, 0, none⟩) (.inl rfl) v
  have k2 := put4_gb (w8.setCell ⟨lb, 0, none⟩ v) g8 i c0 c1 c2 c3
  refine ⟨by simp [put4, World.setCell], k2.os.trans k1.os, k2.tape.trans k1.tape, k2.output.trans k1.output, fun u t h => ?_, fun cur t h => ?_, fun b h1 h2 => ?_⟩
  · rw [put4_other _ _ _ _ _ _ _ _ hne]
    rw [blk_set h 0 v, List.setIfInBounds_toArray]
    rfl
  · have h2 : (w8.setCell ⟨lb, 0, none⟩ v).heap[g8]? = some (.cells cur t (0, 0)) := (setCell_other _ _ _ _ (show g8 ≠ lb from fun e => hne e.symm)).trans h
    exact put4_blk h2 c0 c1 c2 c3
  · rw [put4_other _ _ _ _ _ _ _ _ h2, setCell_other _ _ _ _ h1]
/-- One more. -/
theorem CollP.step {base lb : Nat} {vs : List Vl} {W0 w5 w8 wf : World} {A A8 : Option Addr} {c c8 g8 : Nat} {xs : List (List Value)} {f f6 : List Nat} {y : Vl} {c0 c1 c2 c3 z0 z1 z2 z3 : Value} (h : CollP base lb vs A c xs f W0)
    (h5 : W0.grownBy w5 none) (hbs : base ≤ W0.heap.size) (hy : VOw w5 y [c0, c1, c2, c3] f6) (hn6 : ∀ b ∈ f6, base ≤ b ∧ (Value.slice A vs.length c).ownBlock ≠ some b)
    (h8 : w8.ownsRow base 26 4 (.slice A8 (vs.length + 1) c8) (vs.length + 1) (List.flatten xs ++ [z0, z1, z2, z3])) (hg8 : w5.grownBy w8 (Value.slice A vs.length c).ownBlock)
    (hl8 : (Value.slice A8 (vs.length + 1) c8).ownBlock = (Value.slice A vs.length c).ownBlock ∨ (Value.slice A8 (vs.length + 1) c8).ownBlock = some w5.heap.size)
    (hA8 : A8 = some ⟨g8, 0, none⟩) (hs : Set2 w8 wf lb g8 (vs.length * 4) (.slice A8 (vs.length + 1) c8) c0 c1 c2 c3) :
    Coll base lb (vs ++ [y]) wf ∧ (wf.os = W0.os ∧ wf.tape = W0.tape ∧ wf.output = W0.output ∧ W0.heap.size ≤ wf.heap.size) ∧ ∀ b, b < base → b ≠ lb → wf.heap[b]? = W0.heap[b]? := by
  obtain ⟨hlb, hb, _, ho, ha, hf⟩ := h
  subst hA8
  have s0 := h5.size
  have s8 := hg8.size
  have hob : (Value.slice (some ⟨g8, 0, none⟩) (vs.length + 1) c8).ownBlock = some g8 := rfl
  rw [hob] at hl8
  have hLb : ∀ b, (Value.slice A vs.length c).ownBlock = some b → base ≤ b ∧ b < W0.heap.size := fun b e => ho.lt b e
  have hg8b : base ≤ g8 := by
    rcases hl8 with e | e
    · exact (hLb g8 e.symm).1
    · injection e with e; omega
  have hold : ∀ b, b < W0.heap.size → b ≠ lb → (Value.slice A vs.length c).ownBlock ≠ some b → wf.heap[b]? = W0.heap[b]? := fun b h1 h2 h3 => by
    have hne : b ≠ g8 := fun e => by
      subst e
      rcases hl8 with e | e
      · exact h3 e.symm
      · injection e with e; omega
    rw [hs.rest b h2 hne, hg8.block b (by omega) (fun e => h3 e.symm), h5.block b h1 (by simp)]
  have hnew : ∀ b ∈ f6, wf.heap[b]? = w5.heap[b]? := fun b hm => by
    have h1 := hn6 b hm
    have h2 := VOw.lt _ _ _ hy b hm
    have hne : b ≠ g8 := fun e => by
      subst e
      rcases hl8 with e | e
      · exact h1.2 e.symm
      · injection e with e; omega
    rw [hs.rest b (by omega) hne, hg8.block b h2 (fun e => h1.2 e.symm)]
  have hb8 : w8.heap[lb]? = some (.cells #[.slice A vs.length c] 24 (0, 0)) := by
    have h1 := blk_lt hb
    rw [hg8.block lb (by omega) (fun e => by have := (hLb lb e.symm).1; omega), h5.block lb h1 (by simp)]
    exact hb
  refine ⟨⟨some ⟨g8, 0, none⟩, c8, xs ++ [[c0, c1, c2, c3]], f ++ f6, hlb, ?_, ?_, ?_, ?_, ?_⟩, ⟨hs.os.trans (hg8.os.trans h5.os), hs.tape.trans (hg8.tape.trans h5.tape), hs.output.trans (hg8.output.trans h5.output), by have := hs.size; omega⟩, fun b h1 h2 => hold b (by omega) h2 (fun e => by have := (hLb b e).1; omega)⟩
  · rw [List.length_append]
    exact hs.box _ _ hb8
  · rw [List.length_append]
    rcases h8.2 with ⟨h, _⟩ | ⟨_, cap, cur, e1, _, _, h, _⟩
    · cases h
    · injection e1 with e1 e2 e3
      simp only [List.length_singleton]
      omega
  · rw [List.length_append, List.length_singleton]
    have h8l := h8.1
    rcases h8.2 with ⟨h, _⟩ | ⟨g, cap, cur, e1, e2, e3, e4, e5, e6, e7⟩
    · cases h
    · injection e1 with e1 _ e8
      injection e1 with e1
      injection e1 with e1
      subst e1
      subst e8
      have hx4 : (List.flatten xs).length = vs.length * 4 := by
        rw [List.length_append, show [z0, z1, z2, z3].length = 4 from rfl] at h8l
        omega
      refine ⟨?_, .inr ⟨g8, c8, _, rfl, e2, hs.row _ _ e3, e4, e5, by simp [e6], ?_⟩⟩
      · rw [List.flatten_append, List.length_append, hx4]
        simp
        omega
      · rw [Nat.add_mul, Nat.one_mul, put4_take cur (vs.length * 4) (by omega), List.flatten_append]
        have : cur.toList.take (vs.length * 4) = List.flatten xs := by
          have e9 := congrArg (List.take (vs.length * 4)) e7
          rw [List.take_take, Nat.min_eq_left (by omega), List.take_left' hx4] at e9
          exact e9
        rw [this]
        simp
  · refine VOwAll.snoc _ _ _ (VOwAll.keep _ _ _ ha fun b hm => ?_) (VOw.keep _ _ _ hy hnew)
    have h1 := VOwAll.lt _ _ _ ha b hm
    have h2 := hf b hm
    exact hold b h1 (by omega) h2.2
  · intro b hm
    rw [List.length_append, List.length_singleton, hob]
    rcases List.mem_append.1 hm with hm | hm
    · have h1 := VOwAll.lt _ _ _ ha b hm
      have h2 := hf b hm
      refine ⟨h2.1, fun e => ?_⟩
      injection e with e
      subst e
      rcases hl8 with e | e
      · exact h2.2 e.symm
      · injection e with e; omega
    · have h1 := hn6 b hm
      have h2 := VOw.lt _ _ _ hy b hm
      refine ⟨h1.1, fun e => ?_⟩
      injection e with e
      subst e
      rcases hl8 with e | e
      · exact h1.2 e.symm
      · injection e with e; omega
theorem Coll.list {base lb : Nat} {vs : List Vl} {W : World} (h : Coll base lb vs W) : ∃ A c, W.heap[lb]? = some (.cells #[.slice A vs.length c] 24 (0, 0)) ∧ vs.length ≤ c ∧ RdV W W.heap.size A vs := by
  obtain ⟨A, c, xs, f, _, hb, hc, ho, ha, hf⟩ := h
  exact ⟨A, c, hb, hc, xs, Rd.of_own ho, VOwAll.at_ _ _ _ ha (VOwAll.lt _ _ _ ha)⟩
end Go.Proofs.YtkbflmaflokpdaaGreat

namespace Go.Proofs.YtkbflmaflokpdaaGreat
open Go.RowKit
attribute [local go_sem ↓] Go.wp_at_zero Go.wp_at_succ
attribute [local go_sem] wide_fn wide_depth Oper.semAt_some

/-- The first k elements. -/
def elS (v : Vl) (k : Nat) : List Vl := (List.range k).map (elemV v)
theorem elS_succ (v : Vl) (k : Nat) : elS v (k + 1) = elS v k ++ [elemV v k] := by
  unfold elS
  rw [List.range_succ, List.map_append]
  rfl
theorem elS_len (v : Vl) (k : Nat) : (elS v k).length = k := by simp [elS]
/-- What the loop keeps. -/
def ElI (v : Vl) (w4 : World) (lb i : Nat) (W : World) : Prop := w4.grownBy W (some lb) ∧ Coll (w4.heap.size + 2) lb (elS v i) W
theorem infoV_ : ∃ i, Tryz.prog.info? 26 = some i ∧ i.zero = some (.agg #[.int .i64 0, .slice none 0 0, .slice none 0 0, .slice none 0 0]) ∧ i.size = 4 ∧ i.bytes = 80 := info_parts Tryz.infoV
theorem row_at {w : World} {base n c g : Nat} {xs ys : List Value} (h : w.ownsRow base 26 4 (.slice (some ⟨g, 0, none⟩) n c) n (xs ++ ys)) {k m : Nat} {u : Value} (hk : xs.length = m) (hu : ys[k]? = some u) : w.cell? ⟨g, m + k, none⟩ = some u ∧ w.frozen? ⟨g, m + k, none⟩ = false := by
  rcases h.2 with ⟨h, _⟩ | ⟨g', cap, cur, e1, e2, e3, e4, e5, e6, e7⟩
  · cases h
  · injection e1 with e1
    injection e1 with e1
    injection e1 with e1
    subst e1
    refine ⟨?_, blk_frozen e3 _⟩
    rw [blk_cell e3]
    have h1 : (cur.toList.take (n * 4))[m + k]? = some u := by
      rw [e7, List.getElem?_append_right (by omega), hk, Nat.add_sub_cancel_left]
      exact hu
    rw [List.getElem?_take] at h1
    split at h1
    · simpa using h1
    · cases h1


theorem eql_each (b : Nat) (w : World) : (binOp BinOp.eql 87 (.func (Fn.func 99) #[] #[.pointer (some ⟨b, 0, none⟩)]) Value.nilFunc).run Tryz.prog w = .ok (.bool false) w := by kernel_rfl
/-- What elements gives: a row of values in new blocks. -/
def ElR (l : List Vl) (w : World) (e : Ending) (w' : World) : Prop := w.grownBy w' none ∧ ∃ A c xs f, l.length ≤ c ∧ e = .returned (.slice A l.length c) ∧ Rd w' w'.heap.size A (List.flatten xs) ∧ VOwAll w' l xs f ∧ (List.flatten xs).length = l.length * 4 ∧ ∀ b ∈ f, w.heap.size ≤ b
/-- The end: behind a range over a function. -/
theorem ends_el {tmps : Array Value} {W : World} {D : Nat} {x : Value} {R : Ending → World → Prop} (hd : W.heap[D]? = some (.deferred (some []))) (ht : tmps.getD 2 undef = x) (hR : R (.returned x) (W.putObj D (.deferred none))) :
    LeavesInM Fence.wide 0 Tryz.prog Tryz.f45 tmps R [{ target := .collected D, args := #[] }] .returning W := by
  refine ⟨by simp, .inl ⟨_, _, rfl, run_takeDeferred hd, x, ?_, hR⟩⟩
  have ht2 : tmps[2]?.getD undef = x := by rw [← Array.getD_eq_getD_getElem?]; exact ht
  simp [results, Tryz.results45, go_sem, ht2]
theorem cell_putD {W : World} {D : Nat} {x y : Option (List Deferred)} (hd : W.heap[D]? = some (.deferred x)) (p : Addr) : (W.putObj D (.deferred y)).cell? p = W.cell? p := by
  by_cases e : p.block = D
  · have h1 : (W.putObj D (.deferred y)).heap[p.block]? = some (.deferred y) := by rw [e]; exact World.putObj_heap_same (blk_lt hd)
    have h2 : W.heap[p.block]? = some (.deferred x) := by rw [e]; exact hd
    simp [World.cell?, h1, h2]
  · exact World.cell?_of_block (World.putObj_heap_other e)
set_option maxHeartbeats 16000000 in
set_option maxRecDepth 100000 in
theorem elements_any (v : Vl) (w : World) (nA : Option Addr) (nc : Nat) (sA : Option Addr) (sc : Nat) (lA : Option Addr) (lc : Nat) (hs : seqT v.t) (ht : v.tot ≤ 1200000000) (h : VB w w.heap.size v nA nc sA sc lA lc) :
    Calls Tryz.prog 45 #[.agg #[.int .i64 v.t, .slice nA v.n.length nc, .slice sA v.s.length sc, .slice lA v.l.length lc]] w (ElR (elS v v.count) w) := by
  obtain ⟨wa, hwa⟩ : ∃ wa, wa = w.alloc (.cells #[.int .i64 v.t, .slice nA v.n.length nc, .slice sA v.s.length sc, .slice lA v.l.length lc] 26) := ⟨_, rfl⟩
  have hb : wa.heap[w.heap.size]? = some (.cells #[.int .i64 v.t, .slice nA v.n.length nc, .slice sA v.s.length sc, .slice lA v.l.length lc] 26 (0, 0)) := by rw [hwa]; exact heap_alloc_new w _
  have hg : w.grownBy wa none := by rw [hwa]; exact gb_alloc (gb_refl w none) _
  have hvb := (h.gb hg (Nat.le_refl _)).up hg.size
  have HB := hide hb
  have HC := hide (show C4 wa w.heap.size 0 (.int .i64 v.t) (.slice nA v.n.length nc) (.slice sA v.s.length sc) (.slice lA v.l.length lc) from ⟨by rw [blk_cell hb]; rfl, by rw [blk_cell hb]; rfl, by rw [blk_cell hb]; rfl, by rw [blk_cell hb]; rfl⟩)
  obtain ⟨b0, b1, b2, b3⟩ := HC.out
  have HQ := hide (seqT.kind (x := v) hs)
  have HEA := hide (fun w2 (k : wa.grownBy w2 none) => eachV_any v w2 w2.heap.size nA nc sA sc lA lc ht (Nat.le_refl _) ((hvb.gb k (Nat.le_refl _)).up k.size))
  have HG := hide hg
  have HWE := hide hwa
  have HT := hide ht
  have HK := hide (show ¬ v.t = 98 ∧ ¬ (v.t = 99 ∧ v.l.length = 2) from by rcases hs with (h | h | h | h) | h | h <;> exact ⟨by omega, fun e => by omega⟩)
  clear h hg hwa hvb ht hs hb
  have hfn := eql_each
  refine (callsIn_wide (n := 0)).1 (callsIn_of_wp_marks Tryz.func45 rfl trivial (wpIn_wide.2 ?_))
  simp only [Tryz.ntmps45, List.size_toArray, List.length_cons, List.length_nil, Nat.reduceAdd, Nat.reduceSub, Array.replicate_succ, Array.replicate_zero, List.push_toArray, List.append_toArray, List.nil_append, List.cons_append]
  go_wp2_with fail
  rw [← HWE.out]
  go_wp2_with (first
    | (go_at_call 32; refine (isSeq_any _ _ _ _ _ _ _ _ _).mono ?_; rintro e wl ⟨rfl, hg1⟩; have hqq := HQ.out; have HG1 := hide hg1; have HG3 := hide (gb_trans HG1.out (gb_alloc (gb_refl wl none) (.cells #[.slice none 0 0] 24)) (.inl rfl)); obtain ⟨k0, k1, k2, k3⟩ := HC.out.gb HG3.out; clear hg1 b0 b1 b2 b3)
    | (go_at_call 70; refine (HEA.out _ HG3.out).mono ?_; rintro e w4 ⟨bk, f, rfl, hea, hnew, hg4⟩; have HEK := hide hea; have HNW := hide hnew; have HG4 := hide hg4; clear hea hnew hg4))
  clear hfn k0 k1 k2 k3 HEA hqq
  generalize hwl : wl.alloc (.cells #[.slice none 0 0] 24) = w3 at *
  have HLB := hide (show w3.heap[wl.heap.size]? = some (.cells #[.slice none 0 0] 24 (0, 0)) ∧ w3.heap.size = wl.heap.size + 1 by rw [← hwl]; exact ⟨heap_alloc_new wl _, by simp⟩)
  clear hwl
  have HSZ := hide (show wl.heap.size < w4.heap.size by have h1 := HLB.out.2; have h2 := HG4.out.size; omega)
  have HI4 := hide (show w4.heap[wl.heap.size]? = some (.cells #[.slice none 0 0] 24 (0, 0)) from (HG4.out.block _ (by have h1 := HLB.out.2; omega) (by simp)).trans HLB.out.1)
  refine wp_rangeFunc_c (gf := 99) (lb := #[.pointer (some ⟨bk, 0, none⟩)]) rfl (enters_of Tryz.func99 (by kernel_rfl) rfl) (each_flat v HK.out.1 HK.out.2 HT.out w4 bk f HEK.out (fun b hb => (HNW.out b hb).2)) (gb_refl w4 none) (fun _ => rfl)
    (ElI v w4 wl.heap.size) (fun _ _ => False) ?hI (fun _ _ _ h _ _ => h.elim) ?hKp ?h0 ?hround ?hdone (fun _ _ h _ _ => h.elim)
  case hI =>
    rintro i A B ⟨h1, h2⟩ _ h3
    have h4 := HSZ.out
    exact ⟨gb_trans h1 h3 (.inr (.inr ⟨_, rfl, by omega⟩)), h2.keep h3 (by omega) (by omega)⟩
  case hKp =>
    rintro A B C ⟨h1, h2⟩ ⟨r, hr⟩ h3
    have h4 := blk_lt hr
    refine ⟨Nat.le_trans h1 h3.size, fun b hb => ?_⟩
    have h5 := (HNW.out b hb).2
    exact (h3.block b (by omega) (by intro e; injection e with e; omega)).trans (h2 b hb)
  case h0 =>
    intro B h1 h2
    have h4 := HSZ.out
    exact ⟨gb_some h1 _, none, 0, [], [], by omega, (h1.block _ h4 (by simp)).trans HI4.out, Nat.le_refl _, ⟨rfl, .inl ⟨rfl, rfl⟩⟩, ⟨rfl, rfl⟩, by simp⟩
  case hround =>
    rintro i ⟨xi, xc⟩ W0 W ⟨hgi, hco⟩ hgr hlt ⟨hxi, y, xA, xk, yA, yk, zA, zk, g, hat, hxc, hov, hgb, hgd⟩ hsz hla
    simp only at hxi hxc
    subst hxi hxc
    have hes := elS_succ v xi
    rw [← hat] at hes
    have hln := elS_len v xi
    have hcl := Vl.count_le v.depth v (Nat.le_refl _)
    have hxl : xi < 1200000000 := by have := HT.out; omega
    have HES := hide hes
    have HLN := hide hln
    have HXL := hide hxl
    have HCO := hide hco
    have HGI := hide hgi
    have HGR := hide hgr
    have HOV := hide hov
    have HGB := hide hgb
    have HSW := hide hsz
    have HLA := hide hla
    clear hgi hco hgr hlt hat hov hgb hsz hla hgd hes hln hcl hxl
    gi_wp2
    have hs0 := HSW.out
    have hs1 := HGR.out.size
    refine ⟨Keep2.of_gb (gb_alloc (gb_refl W none) _) (by omega), fun w₂ hgl hl2 => ?_⟩
    have hga := gb_alloc (gb_refl W none) (.cells #[.int .i64 y.t, .slice xA y.n.length xk, .slice yA y.s.length yk, .slice zA y.l.length zk] 26)
    have hsA : (W.alloc (.cells #[.int .i64 y.t, .slice xA y.n.length xk, .slice yA y.s.length yk, .slice zA y.l.length zk] 26)).heap.size = W.heap.size + 1 := by simp
    have hkb : ∀ b, b < W.heap.size + 1 → b ≠ w4.heap.size + 1 → w₂.heap[b]? = (W.alloc (.cells #[.int .i64 y.t, .slice xA y.n.length xk, .slice yA y.s.length yk, .slice zA y.l.length zk] 26)).heap[b]? := fun b h1 h2 => hgl.block b (by omega) (by intro e; injection e with e; exact h2 e)
    have hbx := (hkb W.heap.size (by omega) (by omega)).trans (heap_alloc_new W _)
    have d0 : w₂.cell? ⟨W.heap.size, 0, none⟩ = some (.int .i64 y.t) := by rw [blk_cell hbx]; rfl
    have d1 : w₂.cell? ⟨W.heap.size, 1, none⟩ = some (.slice xA y.n.length xk) := by rw [blk_cell hbx]; rfl
    have d2 : w₂.cell? ⟨W.heap.size, 2, none⟩ = some (.slice yA y.s.length yk) := by rw [blk_cell hbx]; rfl
    have d3 : w₂.cell? ⟨W.heap.size, 3, none⟩ = some (.slice zA y.l.length zk) := by rw [blk_cell hbx]; rfl
    have HOV2 := hide (show VOw w₂ y [.int .i64 y.t, .slice xA y.n.length xk, .slice yA y.s.length yk, .slice zA y.l.length zk] g from VOw.keep _ _ _ (HOV.out.gb hga) fun b hb => hkb b (by have := VOw.lt _ _ _ HOV.out b hb; omega) (by have := HGB.out b hb; omega))
    obtain ⟨L, Lc, xs, fx, hcp⟩ := HCO.out
    have HCP := hide (show CollP (w4.heap.size + 2) wl.heap.size (elS v xi) L Lc xs fx w₂ from ((hcp.grown HGR.out).grown hga).keep hgl (by omega) (by have := HSZ.out; omega))
    have HRB := hide (show ∀ b ∈ g, w4.heap.size + 2 ≤ b ∧ (Value.slice L (elS v xi).length Lc).ownBlock ≠ some b from fun b hb => ⟨by have := HGB.out b hb; omega, fun e => by have := HGB.out b hb; have := (hcp.ho.lt b e).2; omega⟩)
    have HSW2 := hide (show w4.heap.size + 2 ≤ w₂.heap.size by have := hgl.size; omega)
    have HGI2 := hide (show w4.grownBy w₂ (some wl.heap.size) from gb_trans (gb_trans (gb_trans HGI.out HGR.out (.inr (.inl rfl))) hga (.inr (.inl rfl))) hgl (.inr (.inr ⟨_, rfl, by omega⟩)))
    have HKB0 := hide (show ∀ b, b ∈ bk :: f → w₂.heap[b]? = W.heap[b]? from fun b hb => by
      have h1 := (HNW.out b hb).2
      rw [hkb b (by omega) (by omega)]
      exact hga.block b (by omega) (by simp))
    have HWS := hide (show W.heap.size ≤ w₂.heap.size by have := hgl.size; omega)
    clear hcp
    have HGL := hide hgl
    have HG2' := hide hga
    clear hbx hkb hsA hga hgl hl2 hs0 hs1
    have HG5 := hide (gb_refl w₂ none)
    gi_wp2
    have HCP5 := hide (HCP.out.grown HG5.out)
    generalize elS v xi = vs at *
    obtain rfl : vs.length = xi := HLN.out
    have l3 : w₂.cell? ⟨wl.heap.size, 0, none⟩ = some (.slice L vs.length Lc) := by rw [blk_cell HCP5.out.hb]; rfl
    refine region_round_any (by rintro ⟨a, w, h⟩; exact h) (by kernel_rfl) (by kernel_rfl) ?_
    refine any_facts 4 #[true, true, true, true, false, false, false, false] (by kernel_rfl) ?_
    intro A O Wd Ls HA HO HWd HL
    simp only [List.take_succ_cons, List.take_zero]
    have HS' := hide (show A.tmps.size = 22 by rw [HA.out]; rfl)
    have HGW := hide (show w₂.grownBy Wd none by rw [HWd.out]; exact gb_drew (gb_refl w₂ none))
    have A3 := hide (show A.eval (.tmp 3) = .pointer (some ⟨wl.heap.size, 0, none⟩) by rw [HA.out]; rfl)
    have A5 := hide (show A.eval (.tmp 5) = .pointer (some ⟨W.heap.size, 0, none⟩) by rw [HA.out]; rfl)
    -- slot 15
    refine wpFacts_lit (.slice L vs.length Lc) rfl ?_ ?_
    · intro aq wq hw hl
      have e3 : aq.tmps[3]?.getD undef = .pointer (some ⟨wl.heap.size, 0, none⟩) := (hl 3 (by first | (simp [Op.operands]; done) | simp [Op.operands, Call.operands]) (by rw [HS'.out]; decide)).trans A3.out
      have c0 := cell_gb l3 (gb_trans HGW.out hw (.inl rfl))
      clear hl
      go_simp
    -- slot 16
    refine wpFacts_lit (.agg #[.int .i64 y.t, .slice xA y.n.length xk, .slice yA y.s.length yk, .slice zA y.l.length zk]) rfl ?_ ?_
    · intro aq wq hw hl
      have e5 : aq.tmps[5]?.getD undef = .pointer (some ⟨W.heap.size, 0, none⟩) := (hl 5 (by first | (simp [Op.operands]; done) | simp [Op.operands, Call.operands]) (by rw [HS'.out]; decide)).trans A5.out
      have c0 := cell_gb d0 (gb_trans HGW.out hw (.inl rfl))
      have c1 := cell_gb d1 (gb_trans HGW.out hw (.inl rfl))
      have c2 := cell_gb d2 (gb_trans HGW.out hw (.inl rfl))
      have c3 := cell_gb d3 (gb_trans HGW.out hw (.inl rfl))
      clear hl
      go_simp
    -- slot 17
    refine wpFacts_lit (.int .i64 (vs.length : Nat)) rfl ?_ ?_
    · intro aq wq hw hl
      have e15 : aq.tmps[15]?.getD undef = .slice L vs.length Lc := hl 15 (by first | (simp [Op.operands]; done) | simp [Op.operands, Call.operands]) (by rw [HS'.out]; decide)
      clear hl
      go_simp
    -- slot 18
    refine wpFacts_step (RowF Wd.heap.size 1 zero4 26) rfl (RowF.up _ _ _ _) ?_ ?_
    · intro aq wq hw hl
      clear hl
      go_simp
      exact RowF.new _ _ hw.size
    refine HL.out _ (fun a' w6 hc => ?_)
    have e15 : a'.eval (.tmp 15) = .slice L vs.length Lc := hc.fact 15 (by rw [HS'.out]; decide)
    have e16 : a'.eval (.tmp 16) = .agg #[.int .i64 y.t, .slice xA y.n.length xk, .slice yA y.s.length yk, .slice zA y.l.length zk] := hc.fact 16 (by rw [HS'.out]; decide)
    have e17 : a'.eval (.tmp 17) = .int .i64 (vs.length : Nat) := hc.fact 17 (by rw [HS'.out]; decide)
    obtain ⟨bz, e18, hz, hbz⟩ : RowF Wd.heap.size 1 zero4 26 (a'.eval (.tmp 18)) w6 := hc.fact 18 (by rw [HS'.out]; decide)
    have hg6 := gb_trans HGW.out hc.grown (.inl rfl)
    have hfr := hc.frame [15, 16, 17, 18, 19, 20] (by rw [HO.out]; kernel_rfl)
    rw [hfr]
    clear hfr hc
    rw [HA.out]
    clear HA HO HL HWd HS' HGW A3 A5
    simp only [List.foldl_cons, List.foldl_nil, Act.put, List.setIfInBounds_toArray, List.set_cons_succ, List.set_cons_zero]
    rw [e15, e16, e17, e18]
    generalize a'.eval (.tmp 19) = x19
    generalize a'.eval (.tmp 20) = x20
    clear e15 e16 e17 e18
    clear a'
    obtain ⟨i1, hi1, hiz, his, hib⟩ := infoV_
    refine wpAny_ready (rs := [4]) (by kernel_rfl) (by simp) (AllReady.cons rfl (fun K hK => ?_) AllReady.nil)
    refine step_append_row' (by rfl) (.tmp 15) (.tmp 18) 24 (by rfl) (w4.heap.size + 2) 26 i1 (.agg #[.int .i64 0, .slice none 0 0, .slice none 0 0, .slice none 0 0]) 4 80 Tryz.underlying24 hi1 hiz his hib rfl (Nat.succ_pos 3) (.slice L vs.length Lc) vs.length (List.flatten xs) (by rfl) (HCP5.out.ho.kept hg6 (by cases (Value.slice L vs.length Lc).ownBlock <;> simp)) w6.heap.size (some ⟨bz, 0, none⟩) 1 1 [.int .i64 0, .slice none 0 0, .slice none 0 0, .slice none 0 0] (by rfl) rfl (rd_row hz (xs := [.int .i64 0, .slice none 0 0, .slice none 0 0, .slice none 0 0]) rfl (by simp)) (V4_one 0 none none none 0 0 0 0 0 0) (by have := HXL.out; unfold maxLen; omega) (by have := HXL.out; omega) (by have := HSW2.out; have := HG5.out.size; have := hg6.size; omega) ?_
    intro v8 w8 ho8 hg8 hl8
    obtain ⟨A8, c8, rfl, hc8⟩ := own_slice ho8
    obtain ⟨g8, rfl⟩ : ∃ g8, A8 = some ⟨g8, 0, none⟩ := by
      rcases ho8.2 with ⟨h, h'⟩ | ⟨g, _, _, h, _⟩
      · omega
      · injection h with h
        exact ⟨g, h⟩
    have hfl : (List.flatten xs).length = vs.length * 4 := HCP5.out.ho.1
    obtain ⟨x0, q0⟩ : w8.cell? ⟨g8, vs.length * 4, none⟩ = some (.int .i64 0) ∧ w8.frozen? ⟨g8, vs.length * 4, none⟩ = false := row_at ho8 (k := 0) hfl rfl
    obtain ⟨x1, q1⟩ := row_at ho8 (k := 1) hfl rfl
    obtain ⟨x2, q2⟩ := row_at ho8 (k := 2) hfl rfl
    obtain ⟨x3, q3⟩ := row_at ho8 (k := 3) hfl rfl
    have hlbn : (Value.slice L vs.length Lc).ownBlock ≠ some wl.heap.size := fun e => by have := (HCP5.out.ho.lt _ e).1; have := HSZ.out; omega
    have hb8 : w8.heap[wl.heap.size]? = some (.cells #[.slice L vs.length Lc] 24 (0, 0)) := by
      have h1 := blk_lt HCP5.out.hb
      have h2 := hg6.size
      rw [hg8.block _ (by omega) (fun e => hlbn e.symm), hg6.block _ h1 (by simp)]
      exact HCP5.out.hb
    have l8 : w8.cell? ⟨wl.heap.size, 0, none⟩ = some (.slice L vs.length Lc) := blk_cell hb8 0
    have z8 := blk_frozen hb8 0
    have hne8 : wl.heap.size ≠ g8 := fun e => by
      subst e
      rcases hl8 with e | e
      · exact hlbn e.symm
      · have e : some wl.heap.size = some w6.heap.size := e
        injection e with e
        have := HSZ.out; have := HSW2.out; have := HG5.out.size; have := hg6.size; omega
    have H8 := hide ho8
    have HG8 := hide hg8
    have HL8 := hide hl8
    have HG6 := hide hg6
    have HNE := hide hne8
    have hne9 : g8 ≠ wl.heap.size := fun e => HNE.out e.symm
    clear ho8 hg8 hl8 hg6 hb8 hc8 hfl hlbn hz hi1 hiz his hib
    refine hK _ _ ?_
    simp only [Act.put, List.setIfInBounds_toArray, List.set_cons_succ, List.set_cons_zero]
    clear hK K
    have hix : (vs.length : Int) < (vs.length : Int) + 1 := by omega
    have HFIN := hide (show ∀ wf, Set2 w8 wf wl.heap.size g8 (vs.length * 4) (.slice (some ⟨g8, 0, none⟩) (vs.length + 1) c8) (.int .i64 y.t) (.slice xA y.n.length xk) (.slice yA y.s.length yk) (.slice zA y.l.length zk) →
        Keep2 w4.heap.size w₂ wf ∧ KeptB (bk :: f) W wf ∧ ElI v w4 wl.heap.size (vs.length + 1) wf from fun wf hs => by
      obtain ⟨k1, ⟨k2, k3, k4, k5⟩, k6⟩ := HCP.out.step (gb_trans HG5.out HG6.out (.inl rfl)) HSW2.out ((HOV2.out.gb HG5.out).gb HG6.out) HRB.out H8.out HG8.out HL8.out rfl hs
      have n1 := HSZ.out
      have n2 := HLB.out.2
      have n3 := HWS.out
      have n4 := HSW2.out
      refine ⟨⟨k5, k6 _ (by omega) (by omega), k6 _ (by omega) (by omega)⟩, ⟨by omega, fun b hb => ?_⟩, ⟨k2.trans HGI2.out.os, k3.trans HGI2.out.tape, k4.trans HGI2.out.output, by omega, fun b h1 h2 => ?_⟩, ?_⟩
      · have h1 := HNW.out b hb
        exact (k6 b (by omega) (by omega)).trans (HKB0.out b hb)
      · exact (k6 b (by omega) (fun e => h2 (by rw [e]))).trans (HGI2.out.block b h1 h2)
      · rw [HES.out]
        exact k1)
    refine wpAny_ready (rs := [5, 7]) (by kernel_rfl) (by simp) (AllReady.cons rfl (fun K hK => ?_) (AllReady.cons rfl (fun K hK => ?_) AllReady.nil))
    · go_simp
      refine hK _ _ ?_
      clear hK K
      refine wpAny_ready (rs := [6, 7]) (by kernel_rfl) (by simp) (AllReady.cons rfl (fun K hK => ?_) (AllReady.cons rfl (fun K hK => ?_) AllReady.nil))
      · go_simp
        refine hK _ _ ?_
        clear hK K
        refine wpAny_ready (rs := [7]) (by kernel_rfl) (by simp) (AllReady.cons rfl (fun K hK => ?_) AllReady.nil)
        go_simp
        refine hK _ _ ?_
        clear hK K
        refine wpAny_done (by kernel_rfl) ?_ _
        exact HFIN.out _ (Set2.rowFirst _ _ _ _ _ _ _ _ _ HNE.out)
      · go_simp
        refine hK _ _ ?_
        clear hK K
        refine wpAny_ready (rs := [6]) (by kernel_rfl) (by simp) (AllReady.cons rfl (fun K hK => ?_) AllReady.nil)
        go_simp
        refine hK _ _ ?_
        clear hK K
        refine wpAny_done (by kernel_rfl) ?_ _
        exact HFIN.out _ (Set2.boxFirst _ _ _ _ _ _ _ _ _ HNE.out)
    · go_simp
      refine hK _ _ ?_
      clear hK K
      refine wpAny_ready (rs := [5]) (by kernel_rfl) (by simp) (AllReady.cons rfl (fun K hK => ?_) AllReady.nil)
      go_simp
      refine hK _ _ ?_
      clear hK K
      refine wpAny_ready (rs := [6]) (by kernel_rfl) (by simp) (AllReady.cons rfl (fun K hK => ?_) AllReady.nil)
      go_simp
      refine hK _ _ ?_
      clear hK K
      refine wpAny_done (by kernel_rfl) ?_ _
      exact HFIN.out _ (Set2.boxFirst _ _ _ _ _ _ _ _ _ HNE.out)
  case hdone =>
    rintro W ⟨hgw, hcl⟩ hsw hdef
    obtain ⟨A, c, xs, f9, hcp⟩ := hcl
    have hlc := hcp.hb
    have l3 : W.cell? ⟨wl.heap.size, 0, none⟩ = some (.slice A (elS v v.count).length c) := by rw [blk_cell hlc]; rfl
    have n1 := HSZ.out
    have n2 := HLB.out.2
    have n3 := HG1.out.size
    have n4 := HG.out.size
    have hgW : w.grownBy W none := by
      have k1 : w.grownBy w4 none := gb_trans HG.out (gb_trans HG3.out HG4.out (.inl rfl)) (.inl rfl)
      exact gb_trans k1 hgw (.inr (.inr ⟨_, rfl, by have := HG1.out.size; omega⟩))
    have HGW := hide hgW
    have HCP := hide hcp
    have HDF := hide hdef
    have HDL := hide (show w.heap.size ≤ w4.heap.size by omega)
    have HLN := hide (elS_len v v.count)
    clear hgw hcp hsw hdef hlc n1 n2 n3 n4 hgW
    rw [HLN.out] at l3
    have HFIN := hide (show ElR (elS v v.count) w (.returned (.slice A (elS v v.count).length c)) (W.putObj w4.heap.size (.deferred none)) from by
      have hgp := gb_loopPut W w4.heap.size (.deferred none)
      refine ⟨gb_trans HGW.out hgp (.inr (.inr ⟨_, rfl, HDL.out⟩)), A, c, xs, f9, HCP.out.hc, rfl, ?_, ?_, HCP.out.ho.1, fun b hb => by have h1 := (HCP.out.hf b hb).1; have h2 := HDL.out; omega⟩
      · exact ((Rd.of_own HCP.out.ho).keep fun p _ => cell_putD HDF.out p).more hgp.size
      · exact VOwAll.keep _ _ _ HCP.out.ha fun b hb => hgp.block b (VOwAll.lt _ _ _ HCP.out.ha b hb) (by have h1 := (HCP.out.hf b hb).1; intro e; injection e with e; omega))
    rw [HLN.out] at HFIN
    generalize v.count = n at *
    go_wp2_with fail
    exact ends_el (x := .slice A n c) HDF.out rfl HFIN.out
end Go.Proofs.YtkbflmaflokpdaaGreat

namespace Go.Proofs.YtkbflmaflokpdaaGreat
open Go.RowKit
attribute [local go_sem ↓] Go.wp_at_zero Go.wp_at_succ

/-- What was gathered so far: names n, elements x, all of its own. -/
structure GatP (w : World) (n : List ByteArray) (x : List Vl) (nA : Option Addr) (nc : Nat) (eA : Option Addr) (ec : Nat) (xs : List (List Value)) (f : List Nat) (wr : World) : Prop where
  hn : wr.ownsRow (w.heap.size + 1) 9 1 (.slice nA n.length nc) n.length (strs n)
  he : wr.ownsRow (w.heap.size + 1) 26 4 (.slice eA x.length ec) x.length (List.flatten xs)
  hx : VOwAll wr x xs f
  hf : ∀ b ∈ f, (Value.slice nA n.length nc).ownBlock ≠ some b ∧ (Value.slice eA x.length ec).ownBlock ≠ some b
  hg : w.grownBy wr none
  hr : wr.heap[w.heap.size]? = some (.cells #[.int .i64 0, .slice none 0 0, .slice none 0 0, .slice none 0 0] 26 (0, 0))
  hl : ∀ b ∈ f, w.heap.size + 1 ≤ b
theorem GatP.keep {w wr w2 : World} {n : List ByteArray} {x : List Vl} {nA : Option Addr} {nc : Nat} {eA : Option Addr} {ec : Nat} {xs : List (List Value)} {f : List Nat} (h : GatP w n x nA nc eA ec xs f wr) (hg : wr.grownBy w2 none) : GatP w n x nA nc eA ec xs f w2 :=
  ⟨h.hn.kept hg (by cases (Value.slice nA n.length nc).ownBlock <;> simp), h.he.kept hg (by cases (Value.slice eA x.length ec).ownBlock <;> simp), VOwAll.keep _ _ _ h.hx fun b hb => hg.block b (VOwAll.lt _ _ _ h.hx b hb) (by simp), h.hf, gb_trans h.hg hg (.inl rfl), (hg.block _ (blk_lt h.hr) (by simp)).trans h.hr, h.hl⟩
set_option maxHeartbeats 4000000 in
set_option maxRecDepth 100000 in
theorem rAtomN_any (t n : Int) (ht : t = 1 ∨ t = 2 ∨ t = 4 ∨ t = 5) (w : World) : Calls Tryz.prog 25 #[.int .i64 t, .int .i64 n] w (NewV (.mk (-t) [n] [] []) w) := by
  rcases ht with rfl | rfl | rfl | rfl
  · have HA : ∀ w, Calls Tryz.prog 58 #[.int .i64 1] w fun e w' => e = .returned (.int .i64 1) ∧ w = w' := fun w => rAbs_any 1 w
    have HA := hide HA
    go_enter Tryz.func25, Tryz.ntmps25
    go_wp2_with (go_at_call 58; refine (HA.out _).mono ?_; rintro e w1 ⟨rfl, rfl⟩)
    have h := newV_atom w (-1) n (.cells #[.int .i64 (-1), .slice (some ⟨w.heap.size + 1, 0, none⟩) 1 1, .slice none 0 0, .slice none 0 0] 26)
    refine bodyPost_ret (v := .agg #[.int .i64 (-1), .slice (some ⟨w.heap.size + 1, 0, none⟩) 1 1, .slice none 0 0, .slice none 0 0]) (by simp [results, Tryz.results25, go_sem]) rfl h
  · exact rAtomI_any n w
  · have HA : ∀ w, Calls Tryz.prog 58 #[.int .i64 4] w fun e w' => e = .returned (.int .i64 4) ∧ w = w' := fun w => rAbs_any 4 w
    have HA := hide HA
    go_enter Tryz.func25, Tryz.ntmps25
    go_wp2_with (go_at_call 58; refine (HA.out _).mono ?_; rintro e w1 ⟨rfl, rfl⟩)
    have h := newV_atom w (-4) n (.cells #[.int .i64 (-4), .slice (some ⟨w.heap.size + 1, 0, none⟩) 1 1, .slice none 0 0, .slice none 0 0] 26)
    refine bodyPost_ret (v := .agg #[.int .i64 (-4), .slice (some ⟨w.heap.size + 1, 0, none⟩) 1 1, .slice none 0 0, .slice none 0 0]) (by simp [results, Tryz.results25, go_sem]) rfl h
  · have HA : ∀ w, Calls Tryz.prog 58 #[.int .i64 5] w fun e w' => e = .returned (.int .i64 5) ∧ w = w' := fun w => rAbs_any 5 w
    have HA := hide HA
    go_enter Tryz.func25, Tryz.ntmps25
    go_wp2_with (go_at_call 58; refine (HA.out _).mono ?_; rintro e w1 ⟨rfl, rfl⟩)
    have h := newV_atom w (-5) n (.cells #[.int .i64 (-5), .slice (some ⟨w.heap.size + 1, 0, none⟩) 1 1, .slice none 0 0, .slice none 0 0] 26)
    refine bodyPost_ret (v := .agg #[.int .i64 (-5), .slice (some ⟨w.heap.size + 1, 0, none⟩) 1 1, .slice none 0 0, .slice none 0 0]) (by simp [results, Tryz.results25, go_sem]) rfl h
/-- What the document's At begins with. -/
structure AtB (w wa : World) (v : Vl) (nA : Option Addr) (nc : Nat) (sA : Option Addr) (sc : Nat) (lA : Option Addr) (lc : Nat) : Prop where
  c : C4 wa w.heap.size 0 (.int .i64 v.t) (.slice nA v.n.length nc) (.slice sA v.s.length sc) (.slice lA v.l.length lc)
  r : wa.heap[w.heap.size + 1]? = some (.cells zero4 26 (0, 0))
  g : w.grownBy wa none
  s : wa.heap.size = w.heap.size + 2
theorem AtB.mk_ (w : World) (v : Vl) (nA : Option Addr) (nc : Nat) (sA : Option Addr) (sc : Nat) (lA : Option Addr) (lc : Nat) :
    AtB w ((w.alloc (.cells #[.int .i64 v.t, .slice nA v.n.length nc, .slice sA v.s.length sc, .slice lA v.l.length lc] 26)).alloc (.cells #[.int .i64 0, .slice none 0 0, .slice none 0 0, .slice none 0 0] 26)) v nA nc sA sc lA lc :=
  ⟨(C4.box w _ _ _ _ _).gb (gb_alloc (gb_refl _ none) _), alloc2_blk w _ _, gb_alloc (gb_alloc (gb_refl w none) _) _, by simp⟩
set_option maxHeartbeats 8000000 in
set_option maxRecDepth 100000 in
theorem rAt_out (v : Vl) (i : Int) (w : World) (B : Nat) (nA : Option Addr) (nc : Nat) (sA : Option Addr) (sc : Nat) (lA : Option Addr) (lc : Nat) (hi : i < 0 ∨ (v.count : Int) ≤ i) (ht : v.tot ≤ 1200000000) (hB : B ≤ w.heap.size) (h : VB w B v nA nc sA sc lA lc) :
    Calls Tryz.prog 49 #[.agg #[.int .i64 v.t, .slice nA v.n.length nc, .slice sA v.s.length sc, .slice lA v.l.length lc], .int .i64 i] w (ErrV 33 w) := by
  obtain ⟨wa, hwa⟩ : ∃ wa, wa = (w.alloc (.cells #[.int .i64 v.t, .slice nA v.n.length nc, .slice sA v.s.length sc, .slice lA v.l.length lc] 26)).alloc (.cells #[.int .i64 0, .slice none 0 0, .slice none 0 0, .slice none 0 0] 26) := ⟨_, rfl⟩
  obtain ⟨hc, hr, hg, hs⟩ := AtB.mk_ w v nA nc sA sc lA lc
  rw [← hwa] at hc hr hg hs
  obtain ⟨b0, b1, b2, b3⟩ := hc
  have HCT := hide (rCount_any v wa B nA nc sA sc lA lc ht (Nat.le_trans hB hg.size) (h.gb hg hB))
  have HG := hide hg
  have HR := hide hr
  have HWE := hide hwa
  have HS := hide hs
  by_cases h0 : i < 0
  · clear h hg hwa hr hs ht hB hi HCT b0 b1 b2 b3
    go_enter Tryz.func49, Tryz.ntmps49
    go_wp2_with fail
    refine bodyPost_ret (v := .tuple #[.agg #[.int .i64 0, .slice none 0 0, .slice none 0 0, .slice none 0 0], .int .i64 33]) (by simp [results, Tryz.results49, go_sem]) rfl ⟨rfl, ?_⟩
    exact gb_alloc (gb_alloc (gb_refl w none) _) _
  · have h1 : (v.count : Int) ≤ i := by omega
    have h2 : 0 ≤ i := by omega
    clear h hg hwa hr hs ht hB hi h0
    generalize v.count = n at *
    go_enter Tryz.func49, Tryz.ntmps49
    go_wp2_with fail
    rw [← HWE.out]
    go_wp2_with (go_at_call 30; refine HCT.out.mono ?_; rintro e w1 ⟨rfl, hg1⟩; have hr1 := (hg1.block _ (blk_lt HR.out) (by simp)).trans HR.out; have z0 := blk_frozen hr1 0; have z1 := blk_frozen hr1 1; have z2 := blk_frozen hr1 2; have z3 := blk_frozen hr1 3; have p0 : w1.cell? ⟨w.heap.size + 1, 0, none⟩ = some (.int .i64 0) := (by { rw [blk_cell hr1]; rfl }); have p1 : w1.cell? ⟨w.heap.size + 1, 1, none⟩ = some (.slice none 0 0) := (by { rw [blk_cell hr1]; rfl }); have p2 : w1.cell? ⟨w.heap.size + 1, 2, none⟩ = some (.slice none 0 0) := (by { rw [blk_cell hr1]; rfl }); have p3 : w1.cell? ⟨w.heap.size + 1, 3, none⟩ = some (.slice none 0 0) := (by { rw [blk_cell hr1]; rfl }); have HR1 := hide hr1; have HG1 := hide hg1; clear hr1 hg1)
    obtain ⟨m0, m1, m2, m3⟩ := C4.put HR1.out (.int .i64 0) (.slice none 0 0) (.slice none 0 0) (.slice none 0 0)
    simp only [put4, Nat.zero_add] at m0 m1 m2 m3
    refine bodyPost_ret (v := .tuple #[.agg #[.int .i64 0, .slice none 0 0, .slice none 0 0, .slice none 0 0], .int .i64 33]) (by simp [results, Tryz.results49, go_sem, m0, m1, m2, m3]) rfl ⟨rfl, ?_⟩
    exact put4_to (gb_trans HG.out HG1.out (.inl rfl)) (by omega)
set_option maxHeartbeats 8000000 in
set_option maxRecDepth 100000 in
theorem rAt_sym (v : Vl) (k : Nat) (w : World) (B : Nat) (nA : Option Addr) (nc : Nat) (sA : Option Addr) (sc : Nat) (lA : Option Addr) (lc : Nat) (hty : v.t = 3) (hk : k < v.s.length) (ht : v.tot ≤ 500000000) (hB : B ≤ w.heap.size) (h : VB w B v nA nc sA sc lA lc) :
    Calls Tryz.prog 49 #[.agg #[.int .i64 v.t, .slice nA v.n.length nc, .slice sA v.s.length sc, .slice lA v.l.length lc], .int .i64 (k : Int)] w (NewE (.mk (-3) [] [v.s[k]] []) w) := by
  obtain ⟨wa, hwa⟩ : ∃ wa, wa = (w.alloc (.cells #[.int .i64 v.t, .slice nA v.n.length nc, .slice sA v.s.length sc, .slice lA v.l.length lc] 26)).alloc (.cells #[.int .i64 0, .slice none 0 0, .slice none 0 0, .slice none 0 0] 26) := ⟨_, rfl⟩
  obtain ⟨hc, hr, hg, hs⟩ := AtB.mk_ w v nA nc sA sc lA lc
  rw [← hwa] at hc hr hg hs
  have HC := hide hc
  obtain ⟨b0, b1, b2, b3⟩ := hc
  have hv := h.gb hg hB
  have hBa := Nat.le_trans hB hg.size
  have HV := hide hv
  have HBA := hide hBa
  have HCT := hide (rCount_any v wa B nA nc sA sc lA lc (by omega) hBa hv)
  have HG := hide hg
  have HR := hide hr
  have HWE := hide hwa
  have HS := hide hs
  have HT := hide ht
  have h0 : 0 ≤ (k : Int) := by omega
  obtain ⟨l1, l2, l3, l4⟩ := Vl.lens v (by omega)
  rw [count_sym hty] at HCT
  obtain ⟨a, ha, _, hcl⟩ := hv.s.str hk
  subst ha
  have hk1 : ¬ (v.s.length : Int) ≤ (k : Int) := by omega
  obtain ⟨x, hx⟩ : ∃ x, x = v.s[k] := ⟨_, rfl⟩
  rw [← hx] at hcl ⊢
  clear hx
  obtain ⟨X, hX⟩ : ∃ X, X = Vl.mk (-3) [] [x] [] := ⟨_, rfl⟩
  have HSY := hide (fun w2 => rSymbol_any x w2)
  rw [← hX] at HSY ⊢
  clear hX
  clear h hg hwa hr hs ht hB hv hBa HV
  generalize v.t = t at *
  subst hty
  go_enter Tryz.func49, Tryz.ntmps49
  go_wp2_with fail
  rw [← HWE.out]
  go_wp2_with (first
    | (go_at_call 30; refine HCT.out.mono ?_; rintro e w1 ⟨rfl, hg1⟩; have HG1 := hide hg1; have HGS1 := hide hg1; have b0 := cell_gb b0 hg1; have b1 := cell_gb b1 hg1; have b2 := cell_gb b2 hg1; have b3 := cell_gb b3 hg1; have hcl := cell_gb hcl hg1; clear hg1)
    | (go_at_call 72; refine (HSY.out _).mono ?_; rintro e w2 ⟨xA, xc, yA, yc, zA, zc, f, rfl, ho, hn, hg2⟩; have hrr := ((gb_trans HG1.out hg2 (.inl rfl)).block _ (by have := HS.out; omega) (by simp)).trans HR.out; have HRR := hide hrr; have z0 := blk_frozen hrr 0; have z1 := blk_frozen hrr 1; have z2 := blk_frozen hrr 2; have z3 := blk_frozen hrr 3; have p0 : w2.cell? ⟨w.heap.size + 1, 0, none⟩ = some (.int .i64 0) := (by { rw [blk_cell hrr]; rfl }); have p1 : w2.cell? ⟨w.heap.size + 1, 1, none⟩ = some (.slice none 0 0) := (by { rw [blk_cell hrr]; rfl }); have p2 : w2.cell? ⟨w.heap.size + 1, 2, none⟩ = some (.slice none 0 0) := (by { rw [blk_cell hrr]; rfl }); have p3 : w2.cell? ⟨w.heap.size + 1, 3, none⟩ = some (.slice none 0 0) := (by { rw [blk_cell hrr]; rfl }); have HF := hide (NewE.fin (x := X) ho (hn.less HG1.out.size) HG.out (gb_trans HG1.out hg2 (.inl rfl)) (Nat.le_succ w.heap.size) (by have := HS.out; omega)); clear ho hn hg2 hrr))
  obtain ⟨m0, m1, m2, m3⟩ := C4.put HRR.out (.int .i64 X.t) (.slice xA X.n.length xc) (.slice yA X.s.length yc) (.slice zA X.l.length zc)
  simp only [put4, Nat.zero_add] at m0 m1 m2 m3
  refine bodyPost_ret (v := .tuple #[.agg #[.int .i64 X.t, .slice xA X.n.length xc, .slice yA X.s.length yc, .slice zA X.l.length zc], .int .i64 0]) (by simp [results, Tryz.results49, go_sem, m0, m1, m2, m3]) rfl ?_
  exact HF.out
set_option maxHeartbeats 8000000 in
set_option maxRecDepth 100000 in
theorem rAt_lst (v : Vl) (k : Nat) (w : World) (B : Nat) (nA : Option Addr) (nc : Nat) (sA : Option Addr) (sc : Nat) (lA : Option Addr) (lc : Nat) (hty : v.t = 0) (hk : k < v.l.length) (ht : v.tot ≤ 500000000) (hB : B ≤ w.heap.size) (h : VB w B v nA nc sA sc lA lc) :
    Calls Tryz.prog 49 #[.agg #[.int .i64 v.t, .slice nA v.n.length nc, .slice sA v.s.length sc, .slice lA v.l.length lc], .int .i64 (k : Int)] w (NewE (v.l[k]) w) := by
  obtain ⟨wa, hwa⟩ : ∃ wa, wa = (w.alloc (.cells #[.int .i64 v.t, .slice nA v.n.length nc, .slice sA v.s.length sc, .slice lA v.l.length lc] 26)).alloc (.cells #[.int .i64 0, .slice none 0 0, .slice none 0 0, .slice none 0 0] 26) := ⟨_, rfl⟩
  obtain ⟨hc, hr, hg, hs⟩ := AtB.mk_ w v nA nc sA sc lA lc
  rw [← hwa] at hc hr hg hs
  have HC := hide hc
  obtain ⟨b0, b1, b2, b3⟩ := hc
  have hv := h.gb hg hB
  have hBa := Nat.le_trans hB hg.size
  have HV := hide hv
  have HBA := hide hBa
  have HCT := hide (rCount_any v wa B nA nc sA sc lA lc (by omega) hBa hv)
  have HG := hide hg
  have HR := hide hr
  have HWE := hide hwa
  have HS := hide hs
  have HT := hide ht
  have h0 : 0 ≤ (k : Int) := by omega
  obtain ⟨l1, l2, l3, l4⟩ := Vl.lens v (by omega)
  rw [count_lst hty] at HCT
  obtain ⟨q, o, xA1, xc1, yA1, yc1, zA1, zc1, rfl, hqB, hc4', hvb'⟩ := hv.l.at_ hk
  have hk1 : ¬ (v.l.length : Int) ≤ (k : Int) := by omega
  obtain ⟨y, hy⟩ : ∃ y, y = v.l[k] := ⟨_, rfl⟩
  have hc4 : C4 wa q (o + k * 4) (.int .i64 y.t) (.slice xA1 y.n.length xc1) (.slice yA1 y.s.length yc1) (.slice zA1 y.l.length zc1) := by subst hy; exact hc4'
  have hvb : VB wa B y xA1 xc1 yA1 yc1 zA1 zc1 := by subst hy; exact hvb'
  have hyt : y.tot ≤ 1200000000 := by subst hy; have h1 := Vl.tot_mem (List.getElem_mem hk); have h2 := Vl.tot_def v; omega
  rw [show (v.l[k]) = y from hy.symm]
  clear hy hc4' hvb'
  have HVE := hide (fun w2 => rVec_any v.t (.slice nA v.n.length nc) (.slice sA v.s.length sc) (.slice (some ⟨q, o, none⟩) v.l.length lc) w2)
  rw [hty, show rVec 0 = false from rfl] at HVE
  have HCL := hide (fun w2 (k : wa.grownBy w2 none) => rClone_d y.depth y w2 B xA1 xc1 yA1 yc1 zA1 zc1 (Nat.le_refl _) hyt (Nat.le_trans hBa k.size) (hvb.gb k hBa))
  obtain ⟨d0, d1, d2, d3⟩ := hc4
  clear h hg hwa hr hs ht hB hv hBa HV hvb hyt hqB
  generalize v.t = t at *
  subst hty
  go_enter Tryz.func49, Tryz.ntmps49
  go_wp2_with fail
  rw [← HWE.out]
  go_wp2_with (first
    | (go_at_call 30; refine HCT.out.mono ?_; rintro e w1 ⟨rfl, hg1⟩; have HG1 := hide hg1; have HGS1 := hide hg1; have b0 := cell_gb b0 hg1; have b1 := cell_gb b1 hg1; have b2 := cell_gb b2 hg1; have b3 := cell_gb b3 hg1; have d0 := cell_gb d0 hg1; have d1 := cell_gb d1 hg1; have d2 := cell_gb d2 hg1; have d3 := cell_gb d3 hg1; clear hg1)
    | (go_at_call 60; refine (HVE.out _).mono ?_; rintro e w2 ⟨rfl, hg2⟩; have HG2 := hide (gb_trans HG1.out hg2 (.inl rfl)); have b0 := cell_gb b0 hg2; have b1 := cell_gb b1 hg2; have b2 := cell_gb b2 hg2; have b3 := cell_gb b3 hg2; have d0 := cell_gb d0 hg2; have d1 := cell_gb d1 hg2; have d2 := cell_gb d2 hg2; have d3 := cell_gb d3 hg2; clear hg2)
    | (go_at_call 8; refine (HCL.out _ HG2.out).mono ?_; rintro e w3 ⟨xA, xc, yA, yc, zA, zc, f, rfl, ho, hn, hg3⟩; have hrr := ((gb_trans HG2.out hg3 (.inl rfl)).block _ (by have := HS.out; omega) (by simp)).trans HR.out; have HRR := hide hrr; have z0 := blk_frozen hrr 0; have z1 := blk_frozen hrr 1; have z2 := blk_frozen hrr 2; have z3 := blk_frozen hrr 3; have p0 : w3.cell? ⟨w.heap.size + 1, 0, none⟩ = some (.int .i64 0) := (by { rw [blk_cell hrr]; rfl }); have p1 : w3.cell? ⟨w.heap.size + 1, 1, none⟩ = some (.slice none 0 0) := (by { rw [blk_cell hrr]; rfl }); have p2 : w3.cell? ⟨w.heap.size + 1, 2, none⟩ = some (.slice none 0 0) := (by { rw [blk_cell hrr]; rfl }); have p3 : w3.cell? ⟨w.heap.size + 1, 3, none⟩ = some (.slice none 0 0) := (by { rw [blk_cell hrr]; rfl }); have HF := hide (NewE.fin (x := y) ho (hn.less HG2.out.size) HG.out (gb_trans HG2.out hg3 (.inl rfl)) (Nat.le_succ w.heap.size) (by have := HS.out; omega)); clear ho hn hg3 hrr))
  obtain ⟨m0, m1, m2, m3⟩ := C4.put HRR.out (.int .i64 y.t) (.slice xA y.n.length xc) (.slice yA y.s.length yc) (.slice zA y.l.length zc)
  simp only [put4, Nat.zero_add] at m0 m1 m2 m3
  refine bodyPost_ret (v := .tuple #[.agg #[.int .i64 y.t, .slice xA y.n.length xc, .slice yA y.s.length yc, .slice zA y.l.length zc], .int .i64 0]) (by simp [results, Tryz.results49, go_sem, m0, m1, m2, m3]) rfl ?_
  exact HF.out
set_option maxHeartbeats 8000000 in
set_option maxRecDepth 100000 in
theorem rAt_vec (v : Vl) (k : Nat) (w : World) (B : Nat) (nA : Option Addr) (nc : Nat) (sA : Option Addr) (sc : Nat) (lA : Option Addr) (lc : Nat) (hty : v.t = 1 ∨ v.t = 2 ∨ v.t = 4 ∨ v.t = 5) (hk : k < v.n.length) (ht : v.tot ≤ 500000000) (hB : B ≤ w.heap.size) (h : VB w B v nA nc sA sc lA lc) :
    Calls Tryz.prog 49 #[.agg #[.int .i64 v.t, .slice nA v.n.length nc, .slice sA v.s.length sc, .slice lA v.l.length lc], .int .i64 (k : Int)] w (NewE (.mk (-v.t) [v.n[k]] [] []) w) := by
  obtain ⟨wa, hwa⟩ : ∃ wa, wa = (w.alloc (.cells #[.int .i64 v.t, .slice nA v.n.length nc, .slice sA v.s.length sc, .slice lA v.l.length lc] 26)).alloc (.cells #[.int .i64 0, .slice none 0 0, .slice none 0 0, .slice none 0 0] 26) := ⟨_, rfl⟩
  obtain ⟨hc, hr, hg, hs⟩ := AtB.mk_ w v nA nc sA sc lA lc
  rw [← hwa] at hc hr hg hs
  have HC := hide hc
  obtain ⟨b0, b1, b2, b3⟩ := hc
  have hv := h.gb hg hB
  have hBa := Nat.le_trans hB hg.size
  have HV := hide hv
  have HBA := hide hBa
  have HCT := hide (rCount_any v wa B nA nc sA sc lA lc (by omega) hBa hv)
  have HG := hide hg
  have HR := hide hr
  have HWE := hide hwa
  have HS := hide hs
  have HT := hide ht
  have h0 : 0 ≤ (k : Int) := by omega
  obtain ⟨l1, l2, l3, l4⟩ := Vl.lens v (by omega)
  rw [count_num hty] at HCT
  obtain ⟨a, ha, _, hcl⟩ := hv.n.i64 hk
  subst ha
  have hk1 : ¬ (v.n.length : Int) ≤ (k : Int) := by omega
  obtain ⟨x, hx⟩ : ∃ x, x = v.n[k] := ⟨_, rfl⟩
  rw [← hx] at hcl ⊢
  clear hx
  have HVE := hide (fun w2 => rVec_any v.t (.slice (some a) v.n.length nc) (.slice sA v.s.length sc) (.slice lA v.l.length lc) w2)
  rw [show rVec v.t = true by unfold rVec; rw [Bool.and_eq_true, decide_eq_true_eq, decide_eq_true_eq]; omega] at HVE
  obtain ⟨X, hX⟩ : ∃ X, X = Vl.mk (-v.t) [x] [] [] := ⟨_, rfl⟩
  have HAN := hide (fun w2 => rAtomN_any v.t x hty w2)
  rw [← hX] at HAN ⊢
  clear hX
  have e3 : (v.t == 3) = false := int_beq_f (by omega)
  clear h hg hwa hr hs ht hB hv hBa HV hty
  generalize v.t = t at *
  go_enter Tryz.func49, Tryz.ntmps49
  go_wp2_with fail
  rw [← HWE.out]
  go_wp2_with (first
    | (go_at_call 30; refine HCT.out.mono ?_; rintro e w1 ⟨rfl, hg1⟩; have HG1 := hide hg1; have HGS1 := hide hg1; have b0 := cell_gb b0 hg1; have b1 := cell_gb b1 hg1; have b2 := cell_gb b2 hg1; have b3 := cell_gb b3 hg1; have hcl := cell_gb hcl hg1; clear hg1)
    | (go_at_call 60; refine (HVE.out _).mono ?_; rintro e w2 ⟨rfl, hg2⟩; have HG2 := hide (gb_trans HG1.out hg2 (.inl rfl)); have b0 := cell_gb b0 hg2; have b1 := cell_gb b1 hg2; have b2 := cell_gb b2 hg2; have b3 := cell_gb b3 hg2; have hcl := cell_gb hcl hg2; clear hg2))
  go_region_law
    ((go_simp; go_at_call 25; refine (HAN.out _).mono ?_; rintro e w3 ⟨xA, xc, yA, yc, zA, zc, f, rfl, ho, hn, hg3⟩; have hrr := ((gb_trans (gb_drew HG2.out) hg3 (.inl rfl)).block _ (by have := HS.out; omega) (by simp)).trans HR.out; have HRR := hide hrr; have z0 := blk_frozen hrr 0; have z1 := blk_frozen hrr 1; have z2 := blk_frozen hrr 2; have z3 := blk_frozen hrr 3; have p0 : w3.cell? ⟨w.heap.size + 1, 0, none⟩ = some (.int .i64 0) := (by { rw [blk_cell hrr]; rfl }); have p1 : w3.cell? ⟨w.heap.size + 1, 1, none⟩ = some (.slice none 0 0) := (by { rw [blk_cell hrr]; rfl }); have p2 : w3.cell? ⟨w.heap.size + 1, 2, none⟩ = some (.slice none 0 0) := (by { rw [blk_cell hrr]; rfl }); have p3 : w3.cell? ⟨w.heap.size + 1, 3, none⟩ = some (.slice none 0 0) := (by { rw [blk_cell hrr]; rfl }); have HF := hide (NewE.fin (x := X) ho (hn.less (gb_drew HG2.out).size) HG.out (gb_trans (gb_drew HG2.out) hg3 (.inl rfl)) (Nat.le_succ w.heap.size) (by have := HS.out; omega)); clear ho hn hg3 hrr))
  all_goals
    go_wp2_with fail
    obtain ⟨m0, m1, m2, m3⟩ := C4.put HRR.out (.int .i64 X.t) (.slice xA X.n.length xc) (.slice yA X.s.length yc) (.slice zA X.l.length zc)
    simp only [put4, Nat.zero_add] at m0 m1 m2 m3
    refine bodyPost_ret (v := .tuple #[.agg #[.int .i64 X.t, .slice xA X.n.length xc, .slice yA X.s.length yc, .slice zA X.l.length zc], .int .i64 0]) (by simp [results, Tryz.results49, go_sem, m0, m1, m2, m3]) rfl ?_
    exact HF.out
end Go.Proofs.YtkbflmaflokpdaaGreat

namespace Go.Proofs.YtkbflmaflokpdaaGreat
open Go.RowKit

/-- What stands at a place; emp where nothing does. -/
def pickE (v : Vl) (p : Int) : Vl := if 0 ≤ p ∧ p < (v.count : Int) then elemV v p.toNat else emp
def errE (v : Vl) (p : Int) : Int := if 0 ≤ p ∧ p < (v.count : Int) then 0 else 33
end Go.Proofs.YtkbflmaflokpdaaGreat

namespace Go.Proofs.YtkbflmaflokpdaaGreat
open Go.RowKit
attribute [local go_sem ↓] Go.wp_at_zero Go.wp_at_succ

theorem vow_emp (w : World) : VOw w emp [.int .i64 0, .slice none 0 0, .slice none 0 0, .slice none 0 0] [] :=
  VOw.mk_ (v := emp) (xs := []) (fn := []) (fs := []) (fl := []) (fp := []) ⟨Nat.le_refl _, Nat.le_refl _, Nat.le_refl _⟩ Own.nil_ Own.nil_ Own.nil_ ⟨rfl, rfl⟩
theorem newV_of_newE {v : Vl} {w w' : World} {X : Value} (h : NewE v w (.returned (.tuple #[X, .int .i64 0])) w') : NewV v w (.returned X) w' := by
  obtain ⟨nA, nc, sA, sc, lA, lc, f, he, h1, h2, h3⟩ := h
  simp only [Ending.returned.injEq, Value.tuple.injEq, Array.mk.injEq, List.cons.injEq, and_true] at he
  exact ⟨nA, nc, sA, sc, lA, lc, f, by rw [he], h1, h2, h3⟩
set_option maxHeartbeats 4000000 in
set_option maxRecDepth 100000 in
theorem rOf_nil (w : World) (A : Option Addr) (c : Nat) : Calls Tryz.prog 50 #[.slice A 0 c] w (NewV (.mk 0 [] [] []) w) := by
  obtain ⟨wa, hwa⟩ : ∃ wa, wa = w.alloc (.cells #[.int .i64 0, .slice none 0 0, .slice none 0 0, .slice none 0 0] 26) := ⟨_, rfl⟩
  have hg : w.grownBy wa none := by rw [hwa]; exact gb_alloc (gb_refl w none) _
  have hr : wa.heap[w.heap.size]? = some (.cells #[.int .i64 0, .slice none 0 0, .slice none 0 0, .slice none 0 0] 26 (0, 0)) := by rw [hwa]; exact heap_alloc_new w _
  have HG := hide hg
  have HR := hide hr
  have HWE := hide hwa
  have HS := hide (show w.heap.size < wa.heap.size from blk_lt hr)
  clear hg hr hwa
  go_enter Tryz.func50, Tryz.ntmps50
  go_wp2_with fail
  rw [← HWE.out]
  go_loopw [3, 4] (fun al i wr => i = .int .i64 0 ∧ al = .bool false ∧ wa.grownBy wr none) (fun _ _ _ => 0)
  case atStart => exact ⟨rfl, rfl, gb_refl wa none⟩
  case round =>
    obtain ⟨rfl, rfl, hgr⟩ := hrel
    have HGR := hide hgr
    clear hgr
    obtain ⟨w5, hw5⟩ : ∃ w5, w5 = wr.alloc (.cells #[.int .i64 0, .slice none 0 0, .slice none 0 0, .slice none 0 0] 26) := ⟨_, rfl⟩
    have hb5 : w5.heap[wr.heap.size]? = some (.cells #[.int .i64 0, .slice none 0 0, .slice none 0 0, .slice none 0 0] 26 (0, 0)) := by rw [hw5]; exact heap_alloc_new wr _
    have HB5 := hide hb5
    have HG5 := hide (show wa.grownBy w5 none by rw [hw5]; exact gb_trans HGR.out (gb_alloc (gb_refl wr none) _) (.inl rfl))
    go_upto_region 9 with fail
    rw [← hw5]
    clear hb5 hw5
    generalize wr.heap.size = g3 at *
    go_wp2_with fail
    go_loopw [6] (fun i wq => i = .int .i64 0 ∧ w5.grownBy wq none) (fun _ _ => 0)
    case atStart => exact ⟨rfl, gb_refl w5 none⟩
    case round =>
      obtain ⟨rfl, hg6⟩ := hrel
      have HG6 := hide (gb_trans HG5.out hg6 (.inl rfl))
      have hrr := blk_keep HR.out HG6.out (by simp)
      have hbb := blk_keep HB5.out hg6 (by simp)
      obtain ⟨k0, k1, k2, k3⟩ : C4 wr g3 0 (.int .i64 0) (.slice none 0 0) (.slice none 0 0) (.slice none 0 0) := ⟨by rw [blk_cell hbb]; rfl, by rw [blk_cell hbb]; rfl, by rw [blk_cell hbb]; rfl, by rw [blk_cell hbb]; rfl⟩
      obtain ⟨x0, x1, x2, x3, p0, p1, p2, p3⟩ := four_cells hrr (i := 0) (by decide)
      have z0 := blk_frozen hrr 0
      have z1 := blk_frozen hrr 1
      have z2 := blk_frozen hrr 2
      have z3 := blk_frozen hrr 3
      have HRR := hide hrr
      clear hrr hbb hg6
      go_wp2_with fail
      obtain ⟨m0, m1, m2, m3⟩ := C4.put HRR.out (.int .i64 0) (.slice none 0 0) (.slice none 0 0) (.slice none 0 0)
      simp only [put4, Nat.zero_add] at m0 m1 m2 m3
      refine bodyPost_ret (v := .agg #[.int .i64 0, .slice none 0 0, .slice none 0 0, .slice none 0 0]) (by simp [results, Tryz.results50, go_sem, m0, m1, m2, m3]) rfl ?_
      exact newV_of_newE (NewE.fin (x := .mk 0 [] [] []) (vow_emp _) (New.nil_ _ _) HG.out HG6.out (Nat.le_refl _) HS.out)
theorem rOfS (l : List Vl) (w : World) (B : Nat) (A : Option Addr) (c : Nat) (ht : Vl.tots l ≤ 1200000000) (hB : B ≤ w.heap.size) (h : RdV w B A l) :
    Calls Tryz.prog 50 #[.slice A l.length c] w (NewV (ofV l) w) := by
  rcases Nat.eq_zero_or_pos l.length with h0 | h0
  · obtain rfl := List.eq_nil_of_length_eq_zero h0
    exact rOf_nil w A c
  · exact rOf_any l w B A c h0 ht hB h

/-- What the document's At answers: a value of its own, and the error. -/
def AtN (y : Vl) (k : Int) (w : World) (e : Ending) (w' : World) : Prop := ∃ nA nc sA sc lA lc f, e = .returned (.tuple #[.agg #[.int .i64 y.t, .slice nA y.n.length nc, .slice sA y.s.length sc, .slice lA y.l.length lc], .int .i64 k]) ∧
  VOw w' y [.int .i64 y.t, .slice nA y.n.length nc, .slice sA y.s.length sc, .slice lA y.l.length lc] f ∧ New w w' f ∧ w.grownBy w' none
theorem rAtN (v : Vl) (p : Int) (w : World) (B : Nat) (nA : Option Addr) (nc : Nat) (sA : Option Addr) (sc : Nat) (lA : Option Addr) (lc : Nat) (hs : seqT v.t) (ht : v.tot ≤ 500000000) (hB : B ≤ w.heap.size) (h : VB w B v nA nc sA sc lA lc) :
    Calls Tryz.prog 49 #[.agg #[.int .i64 v.t, .slice nA v.n.length nc, .slice sA v.s.length sc, .slice lA v.l.length lc], .int .i64 p] w (AtN (pickE v p) (errE v p) w) := by
  by_cases hp : 0 ≤ p ∧ p < (v.count : Int)
  · obtain ⟨k, rfl⟩ : ∃ k : Nat, p = (k : Int) := ⟨p.toNat, by omega⟩
    have hk : k < v.count := by omega
    have e1 : pickE v (k : Int) = elemV v k := by unfold pickE; rw [if_pos hp]; rfl
    have e2 : errE v (k : Int) = 0 := by unfold errE; rw [if_pos hp]
    rw [e1, e2]
    rcases hs with hs | hs | hs
    · have hl : k < v.n.length := by rw [count_num hs] at hk; exact hk
      rw [elem_num hs, getD_at hl]
      exact rAt_vec v k w B nA nc sA sc lA lc hs hl ht hB h
    · have hl : k < v.s.length := by rw [count_sym hs] at hk; exact hk
      rw [elem_sym hs, getD_at hl]
      exact rAt_sym v k w B nA nc sA sc lA lc hs hl ht hB h
    · have hl : k < v.l.length := by rw [count_lst hs] at hk; exact hk
      rw [elem_lst hs, getD_at hl]
      exact rAt_lst v k w B nA nc sA sc lA lc hs hl ht hB h
  · have e1 : pickE v p = emp := by unfold pickE; rw [if_neg hp]
    have e2 : errE v p = 33 := by unfold errE; rw [if_neg hp]
    rw [e1, e2]
    refine (rAt_out v p w B nA nc sA sc lA lc (by omega) (by omega) hB h).mono ?_
    rintro e w' ⟨rfl, hg⟩
    exact ⟨none, 0, none, 0, none, 0, [], rfl, vow_emp _, New.nil_ _ _, hg⟩
end Go.Proofs.YtkbflmaflokpdaaGreat

namespace Go.Proofs.YtkbflmaflokpdaaGreat
open Go.RowKit
attribute [local go_sem ↓] Go.wp_at_zero Go.wp_at_succ

theorem errE_in {v : Vl} {p : Int} (h : 0 ≤ p ∧ p < (v.count : Int)) : errE v p = 0 := by unfold errE; rw [if_pos h]
end Go.Proofs.YtkbflmaflokpdaaGreat

namespace Go.Proofs.YtkbflmaflokpdaaGreat
open Go.RowKit
attribute [local go_sem ↓] Go.wp_at_zero Go.wp_at_succ

/-- Each value is owned, or lies below B. -/
def Mix (w : World) (B : Nat) : List Vl → List (List Value) → List Nat → Prop
  | [], xs, f => xs = [] ∧ f = []
  | v :: r, xs, f => ∃ c q f1 f2, xs = c :: q ∧ f = f1 ++ f2 ∧ (VOw w v c f1 ∨ (f1 = [] ∧ VAt w B v c)) ∧ Mix w B r q f2
section
variable {w w' : World} {B : Nat}
theorem Mix.of_own : ∀ (l : List Vl) (xs : List (List Value)) (f : List Nat), VOwAll w l xs f → Mix w B l xs f
  | [], xs, f, h => h
  | a :: r, xs, f, h => by
    obtain ⟨c, q, f1, f2, rfl, rfl, h1, h3⟩ := h
    exact ⟨c, q, f1, f2, rfl, rfl, .inl h1, Mix.of_own r q f2 h3⟩
theorem Mix.single {v : Vl} {c : List Value} (h : VAt w B v c) : Mix w B [v] [c] [] := ⟨c, [], [], [], rfl, rfl, .inr ⟨rfl, h⟩, rfl, rfl⟩
theorem Mix.own1 {v : Vl} {c : List Value} {f : List Nat} (h : VOw w v c f) : Mix w B [v] [c] f := ⟨c, [], f, [], rfl, by simp, .inl h, rfl, rfl⟩
theorem Mix.app {l2 : List Vl} {ys : List (List Value)} {g : List Nat} (h2 : Mix w B l2 ys g) : ∀ (l1 : List Vl) (xs : List (List Value)) (f : List Nat), Mix w B l1 xs f → Mix w B (l1 ++ l2) (xs ++ ys) (f ++ g)
  | [], xs, f, h => by
    obtain ⟨rfl, rfl⟩ := h
    exact h2
  | a :: r, xs, f, h => by
    obtain ⟨c, q, f1, f2, rfl, rfl, h1, h3⟩ := h
    exact ⟨c, q ++ ys, f1, f2 ++ g, rfl, by simp, h1, Mix.app h2 r q f2 h3⟩
theorem Mix.grown {row : Option Nat} (hg : w.grownBy w' row) (hB : B ≤ w.heap.size) (hr : ∀ g, row = some g → B ≤ g) : ∀ (l : List Vl) (xs : List (List Value)) (f : List Nat), Mix w B l xs f → (∀ b ∈ f, row ≠ some b) → Mix w' B l xs f
  | [], xs, f, h, _ => h
  | a :: r, xs, f, h, hf => by
    obtain ⟨c, q, f1, f2, rfl, rfl, h1, h3⟩ := h
    refine ⟨c, q, f1, f2, rfl, rfl, ?_, Mix.grown hg hB hr r q f2 h3 fun b hb => hf b (by simp [hb])⟩
    rcases h1 with h1 | ⟨e, h1⟩
    · exact .inl (VOw.keep _ _ _ h1 fun b hb => hg.block b (VOw.lt _ _ _ h1 b hb) (fun e => hf b (by simp [hb]) e.symm))
    · exact .inr ⟨e, h1.grown hg hB hr⟩
theorem Mix.lt : ∀ (l : List Vl) (xs : List (List Value)) (f : List Nat), Mix w B l xs f → ∀ b ∈ f, b < w.heap.size
  | [], xs, f, h => by rw [h.2]; simp
  | v :: r, xs, f, h => by
    obtain ⟨c, q, f1, f2, rfl, rfl, h1, h2⟩ := h
    intro b hb
    simp only [List.mem_append] at hb
    rcases hb with hb | hb
    · rcases h1 with h1 | ⟨e, h1⟩
      · exact VOw.lt _ _ _ h1 b hb
      · rw [e] at hb; cases hb
    · exact Mix.lt r q f2 h2 b hb
theorem Mix.at_ {M : Nat} (hM : B ≤ M) : ∀ (l : List Vl) (xs : List (List Value)) (f : List Nat), Mix w B l xs f → (∀ b ∈ f, b < M) → VAll w M l xs
  | [], xs, f, h, _ => h.1
  | v :: r, xs, f, h, hf => by
    obtain ⟨c, q, f1, f2, rfl, rfl, h1, h2⟩ := h
    refine ⟨c, q, rfl, ?_, Mix.at_ hM r q f2 h2 fun b hb => hf b (by simp [hb])⟩
    rcases h1 with h1 | ⟨e, h1⟩
    · exact VOw.at_ _ _ _ h1 fun b hb => hf b (by simp [hb])
    · exact h1.up hM
theorem vAt_one {v : Vl} {c : List Value} (h : VAt w B v c) : ∀ u ∈ c, u.oneCell' = true := by
  obtain ⟨nA, nc, sA, sc, lA, lc, rfl, _⟩ := h.parts
  intro u hu
  simp only [List.mem_cons, List.not_mem_nil, or_false] at hu
  rcases hu with rfl | rfl | rfl | rfl <;> rfl
theorem vOw_one {v : Vl} {c : List Value} {f : List Nat} (h : VOw w v c f) : ∀ u ∈ c, u.oneCell' = true := by
  obtain ⟨nA, nc, sA, sc, lA, lc, xs, fn, fs, fl, fp, rfl, _⟩ := h.parts
  intro u hu
  simp only [List.mem_cons, List.not_mem_nil, or_false] at hu
  rcases hu with rfl | rfl | rfl | rfl <;> rfl
theorem Mix.one : ∀ (l : List Vl) (xs : List (List Value)) (f : List Nat), Mix w B l xs f → ∀ u ∈ List.flatten xs, u.oneCell' = true
  | [], xs, f, h => by
    obtain ⟨rfl, rfl⟩ := h
    simp
  | v :: r, xs, f, h => by
    obtain ⟨c, q, f1, f2, rfl, rfl, h1, h3⟩ := h
    intro u hu
    rw [List.flatten_cons, List.mem_append] at hu
    rcases hu with hu | hu
    · rcases h1 with h1 | ⟨e, h1⟩
      · exact vOw_one h1 u hu
      · exact vAt_one h1 u hu
    · exact Mix.one r q f2 h3 u hu
end
/-- The row that is built. -/
structure RowM (base B : Nat) (vs : List Vl) (W : World) (u : Value) : Prop where
  p : ∃ xs f, W.ownsRow base 26 4 u vs.length (List.flatten xs) ∧ Mix W B vs xs f ∧ ∀ b ∈ f, u.ownBlock ≠ some b
  hb : B ≤ base ∧ base ≤ W.heap.size
theorem RowM.none_ {base B : Nat} {W : World} (hb : B ≤ base ∧ base ≤ W.heap.size) : RowM base B [] W (.slice none 0 0) := ⟨⟨[], [], ⟨rfl, .inl ⟨rfl, rfl⟩⟩, ⟨rfl, rfl⟩, by simp⟩, hb⟩
theorem RowM.gb {base B : Nat} {vs : List Vl} {W W' : World} {u : Value} (h : RowM base B vs W u) (hg : W.grownBy W' none) : RowM base B vs W' u := by
  obtain ⟨xs, f, h1, h2, h3⟩ := h.p
  exact ⟨⟨xs, f, own_up h1 hg, h2.grown hg (Nat.le_trans h.hb.1 h.hb.2) (by simp) _ _ _ (by simp), h3⟩, h.hb.1, Nat.le_trans h.hb.2 hg.size⟩
theorem RowM.app {base B : Nat} {vs es : List Vl} {W W' : World} {u u' : Value} {xs ys : List (List Value)} {f g : List Nat} (hb : B ≤ base ∧ base ≤ W.heap.size) (how : W.ownsRow base 26 4 u vs.length (List.flatten xs)) (hm : Mix W B vs xs f) (hs : ∀ b ∈ f, u.ownBlock ≠ some b)
    (he : Mix W B es ys g) (hgs : ∀ b ∈ g, u.ownBlock ≠ some b)
    (ho : W'.ownsRow base 26 4 u' (vs.length + es.length) (List.flatten xs ++ List.flatten ys)) (hg : W.grownBy W' u.ownBlock) (hl : u'.ownBlock = u.ownBlock ∨ u'.ownBlock = some W.heap.size) : RowM base B (vs ++ es) W' u' := by
  have hr : ∀ g, u.ownBlock = some g → B ≤ g := fun g e => Nat.le_trans hb.1 (how.lt g e).1
  refine ⟨⟨xs ++ ys, f ++ g, by rw [List.length_append, List.flatten_append]; exact ho, Mix.app (he.grown hg (Nat.le_trans hb.1 hb.2) hr _ _ _ hgs) _ _ _ (hm.grown hg (Nat.le_trans hb.1 hb.2) hr _ _ _ hs), fun b hm2 e => ?_⟩, hb.1, Nat.le_trans hb.2 hg.size⟩
  rcases hl with h1 | h1
  · rw [h1] at e
    rcases List.mem_append.1 hm2 with h2 | h2
    · exact hs b h2 e
    · exact hgs b h2 e
  · rw [h1] at e
    injection e with e
    subst e
    rcases List.mem_append.1 hm2 with h2 | h2
    · exact Nat.lt_irrefl _ (Mix.lt _ _ _ hm _ h2)
    · exact Nat.lt_irrefl _ (Mix.lt _ _ _ he _ h2)
theorem RowM.grown {base B : Nat} {vs : List Vl} {W W' w0 : World} {u : Value} (h : RowM base B vs W u) (h0 : w0.heap.size ≤ base) (hg0 : w0.grownBy W none) (hg : W.grownBy W' u.ownBlock) : w0.grownBy W' none := by
  obtain ⟨xs, f, h1, h2, h3⟩ := h.p
  exact gb_trans hg0 hg (match hq : u.ownBlock with | none => .inr (.inl rfl) | some g => .inr (.inr ⟨g, rfl, Nat.le_trans h0 (h1.lt g hq).1⟩))
/-- The row as a slice that can be read. -/
theorem RowM.rd {base B : Nat} {vs : List Vl} {W : World} {u : Value} (h : RowM base B vs W u) : ∃ A c, u = .slice A vs.length c ∧ RdV W W.heap.size A vs := by
  obtain ⟨xs, f, how, hva, hsep⟩ := h.p
  obtain ⟨uA, uc, rfl, huc⟩ := own_slice how
  exact ⟨uA, uc, rfl, xs, Rd.of_own how, hva.at_ (Nat.le_trans h.hb.1 h.hb.2) _ _ _ (Mix.lt _ _ _ hva)⟩
/-- What a join takes of v. -/
def elX (v : Vl) : List Vl := if kdV v = v.t then elS v v.count else [v]
def flX (l : List Vl) : List Vl := l.flatMap elX
theorem flX_le (l : List Vl) (j : Nat) : (flX (l.take j)).length ≤ (flX l).length := by
  conv => rhs; rw [← List.take_append_drop j l]
  unfold flX
  rw [List.flatMap_append, List.length_append]
  omega
theorem flX_take (l : List Vl) (j : Nat) (h : j < l.length) : flX (l.take (j + 1)) = flX (l.take j) ++ elX l[j] := by
  rw [List.take_succ_eq_append_getElem h]
  unfold flX
  rw [List.flatMap_append]
  simp
theorem kd_seq {v : Vl} (h : kdV v = v.t) : seqT v.t := by
  by_cases hs : seqT v.t
  · exact hs
  exfalso
  unfold kdV kindO at h
  by_cases c1 : v.t = 3 ∨ (v.t = -3 ∧ v.s.length = 1)
  · rw [if_pos c1] at h
    exact hs (.inr (.inl h.symm))
  rw [if_neg c1] at h
  by_cases c2 : hasN v.t = true ∧ (0 < v.t ∨ v.n.length = 1)
  · rw [if_pos c2] at h
    have h4 := c2.1
    unfold hasN at h4
    simp only [Bool.or_eq_true, beq_iff_eq] at h4
    apply hs
    unfold seqT numT
    omega
  · rw [if_neg c2] at h
    exact hs (.inr (.inr h.symm))
def MixR (B : Nat) (l : List Vl) (w : World) (e : Ending) (w' : World) : Prop := w.grownBy w' none ∧ ∃ A c xs f, l.length ≤ c ∧ e = .returned (.slice A l.length c) ∧ Rd w' w'.heap.size A (List.flatten xs) ∧ Mix w' B l xs f ∧ (List.flatten xs).length = l.length * 4 ∧ ∀ b ∈ f, w.heap.size ≤ b
set_option maxHeartbeats 4000000 in
set_option maxRecDepth 100000 in
theorem elem_one (v : Vl) (w : World) (B : Nat) (nA : Option Addr) (nc : Nat) (sA : Option Addr) (sc : Nat) (lA : Option Addr) (lc : Nat) (hk : (kdV v == v.t) = false) (hB : B ≤ w.heap.size) (h : VB w B v nA nc sA sc lA lc) :
    Calls Tryz.prog 45 #[.agg #[.int .i64 v.t, .slice nA v.n.length nc, .slice sA v.s.length sc, .slice lA v.l.length lc]] w (MixR B [v] w) := by
  obtain ⟨wa, hwa⟩ : ∃ wa, wa = w.alloc (.cells #[.int .i64 v.t, .slice nA v.n.length nc, .slice sA v.s.length sc, .slice lA v.l.length lc] 26) := ⟨_, rfl⟩
  have hb : wa.heap[w.heap.size]? = some (.cells #[.int .i64 v.t, .slice nA v.n.length nc, .slice sA v.s.length sc, .slice lA v.l.length lc] 26 (0, 0)) := by rw [hwa]; exact heap_alloc_new w _
  have HB := hide hb
  have HG := hide (show w.grownBy wa none by rw [hwa]; exact gb_alloc (gb_refl w none) _)
  have HWE := hide hwa
  have HV := hide (h.gb HG.out hB)
  have HBB := hide hB
  obtain ⟨c0, c1, c2, c3⟩ : C4 wa w.heap.size 0 (.int .i64 v.t) (.slice nA v.n.length nc) (.slice sA v.s.length sc) (.slice lA v.l.length lc) := ⟨by rw [blk_cell hb]; rfl, by rw [blk_cell hb]; rfl, by rw [blk_cell hb]; rfl, by rw [blk_cell hb]; rfl⟩
  have HIS := hide (fun w2 => (isSeq_any v.t nA v.n.length nc sA v.s.length sc (.slice lA v.l.length lc) w2).mono (fun e w' h => (⟨h.1.trans (by rw [← hk]; rfl), h.2⟩ : e = .returned (.bool false) ∧ w2.grownBy w' none)))
  clear hb hwa h hB hk
  go_enter Tryz.func45, Tryz.ntmps45
  go_wp2_with fail
  rw [← HWE.out]
  go_wp2_with (go_at_call 32; refine (HIS.out _).mono ?_; rintro e w1 ⟨rfl, hg1⟩; have HG1 := hide hg1; clear c0 c1 c2 c3; obtain ⟨c0, c1, c2, c3⟩ : C4 w1 w.heap.size 0 (.int .i64 v.t) (.slice nA v.n.length nc) (.slice sA v.s.length sc) (.slice lA v.l.length lc) := (by have h := blk_keep HB.out hg1 (by simp); exact ⟨by rw [blk_cell h]; rfl, by rw [blk_cell h]; rfl, by rw [blk_cell h]; rfl, by rw [blk_cell h]; rfl⟩); clear hg1)
  have hgx := gb_alloc (gb_refl w1 none) (.cells #[.int .i64 v.t, .slice nA v.n.length nc, .slice sA v.s.length sc, .slice lA v.l.length lc] 26)
  refine bodyPost_ret (v := .slice (some ⟨w1.heap.size, 0, none⟩) 1 1) (by simp [results, Tryz.results45, go_sem]) rfl ?_
  have hV := HV.out.gb HG1.out (by have := HBB.out; have := HG.out.size; omega)
  have hV2 := hV.gb hgx (by have := HBB.out; have := HG.out.size; have := HG1.out.size; omega)
  exact ⟨gb_trans (gb_trans HG.out HG1.out (.inl rfl)) hgx (.inl rfl), some ⟨w1.heap.size, 0, none⟩, 1, [[.int .i64 v.t, .slice nA v.n.length nc, .slice sA v.s.length sc, .slice lA v.l.length lc]], [], Nat.le_refl _, rfl, rd_lit w1 #[.int .i64 v.t, .slice nA v.n.length nc, .slice sA v.s.length sc, .slice lA v.l.length lc] 26 _ rfl, Mix.single hV2.at_, rfl, by simp⟩
theorem elem_any (v : Vl) (w : World) (B : Nat) (nA : Option Addr) (nc : Nat) (sA : Option Addr) (sc : Nat) (lA : Option Addr) (lc : Nat) (ht : v.tot ≤ 1200000000) (hB : B ≤ w.heap.size) (h : VB w B v nA nc sA sc lA lc) :
    Calls Tryz.prog 45 #[.agg #[.int .i64 v.t, .slice nA v.n.length nc, .slice sA v.s.length sc, .slice lA v.l.length lc]] w (MixR B (elX v) w) := by
  by_cases hk : kdV v = v.t
  · unfold elX
    rw [if_pos hk]
    refine (elements_any v w nA nc sA sc lA lc (kd_seq hk) ht (h.up hB)).mono ?_
    rintro e w3 ⟨hg3, A2, c2, ys, g2, hc2, rfl, hr2, ho2, hl2, hf2⟩
    exact ⟨hg3, A2, c2, ys, g2, hc2, rfl, hr2, Mix.of_own _ _ _ ho2, hl2, hf2⟩
  · unfold elX
    rw [if_neg hk]
    exact elem_one v w B nA nc sA sc lA lc (by simp [hk]) hB h
end Go.Proofs.YtkbflmaflokpdaaGreat
