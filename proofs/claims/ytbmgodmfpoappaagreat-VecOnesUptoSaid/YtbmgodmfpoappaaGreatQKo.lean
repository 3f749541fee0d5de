/-
  The document's own Clone.
-/
import Derived.Test.YtbmgodmfpoappaaGreatQKf
import Derived.Test.YtbmgodmfpoappaaGreatQWd
import Derived.Test.YtbmgodmfpoappaaGreatQKa
import Derived.Deep.RegionLaw
import Derived.Test.YtbmgodmfpoappaaGreatQKd
import Derived.Deep.CutBlock
import Derived.Deep.DeepCutAuto
namespace Go.Proofs.YtbmgodmfpoappaaGreat
open Go.RowKit
def RowO (base : Nat) (e : TypeId) (n : Nat) (xs : List Value) : Fct := fun v w => ∃ A c, v = .slice A n c ∧ n ≤ c ∧ w.ownsRow base e 1 (.slice A n c) n xs
theorem RowO.up (base : Nat) (e : TypeId) (n : Nat) (xs : List Value) : (RowO base e n xs).Up := by
 rintro v w w' ⟨A, c, h1, h2, h3⟩ hg
 exact ⟨A, c, h1, h2, h3.kept hg (by cases (Value.slice A n c).ownBlock <;> simp)⟩
theorem run_append_fresh {P : Program} {w : World} {g base : Nat} (t ty e : TypeId) (i : TypeInfo) (z : Value) (ht : P.underlying t = some (.slice e)) (hi : P.info? e = some i) (hz : i.zero = some z) (hs : i.size = 1) (hby : i.bytes ≤ 16) (hzs : z.cells.size = 1)
  (hg : w.heap[g]? = some (.cells #[] e (0, 0))) {A : Option Addr} {c B m : Nat} {news : List Value} (hl : news.length = m) (hr : Rd w B A news) (hm : m ≤ 1200000000) (hbg : base ≤ g) :
  ∃ A' c' w', (Builtin.append_ #[t, t] ty #[.slice (some ⟨g, 0, none⟩) 0 0, .slice A m c]).run P w = .ok (.slice A' m c') w' ∧ m ≤ c' ∧ w'.ownsRow base e 1 (.slice A' m c') m news ∧ w.grownBy w' none := by
 have hown : w.ownsRow base e 1 (.slice (some ⟨g, 0, none⟩) 0 0) 0 [] := ⟨rfl, .inr ⟨g, 0, #[], rfl, hbg, hg, Nat.le_refl _, Nat.zero_le _, rfl, rfl⟩⟩
 rcases Nat.eq_zero_or_pos m with h0 | h0
 ·subst h0
  have hb : news = [] := List.eq_nil_of_length_eq_zero hl
  subst hb
  exact ⟨_, _, w, run_append_none w base t ty e i 1 ht hi _ 0 [] hown A c, Nat.le_refl _, hown, gb_refl _ _⟩
 ·obtain ⟨ad, rfl, _, hc⟩ := hr (by rintro rfl; simp at hl; omega)
  have hbb : (0 + m) * i.bytes ≤ 140737488355328 := Nat.le_trans (Nat.mul_le_mul (show 0 + m ≤ 1200000000 by omega) hby) (by decide)
  have hgrow := run_append_grow (P := P) w t ty e i z ht hi hz ⟨g, 0, none⟩ 0 0 [] (by simp) (by simp) ad m c news (by rw [hs, hl, Nat.mul_one]) hc (by omega) (by omega) (growslice_fits (by omega) hbb)
  have hcm : grownCap w (0 + m) 0 e ≤ maxLen := grownCap_le_maxLen w _ 0 _ (by unfold maxLen; omega)
  have hge := grownCap_ge w (0 + m) 0 e
  rw [Nat.zero_add] at hgrow hcm hge
  have hlt := blk_lt hg
  refine ⟨_, _, _, hgrow, hge, ⟨by rw [hl, Nat.mul_one], .inr ⟨w.heap.size, _, _, rfl, by omega, heap_alloc_new w.drew _, hge, hcm, ?_, ?_⟩⟩, gb_alloc (gb_drew (gb_refl w none)) _⟩
  ·simp only [Array.size_append, List.size_toArray, size_zeroCells, hzs, hl, List.length_nil]
   omega
  ·simp only [Array.toList_append, List.nil_append, Nat.mul_one]
   rw [← hl]
   exact List.take_left
theorem row_not_box {w : World} {base n size g : Nat} {e ty : TypeId} {v : Value} {xs : List Value} {cur : Array Value} (h : w.ownsRow base e size v n xs) (hb : w.heap[g]? = some (.cells cur ty (0, 0))) (hne : e ≠ ty) : v.ownBlock ≠ some g := by
 intro hv
 rcases h.2 with ⟨rfl, _⟩ | ⟨b, cap, cur', rfl, _, hh, _⟩
 ·simp [Value.ownBlock] at hv
 ·simp only [Value.ownBlock, Option.some.injEq] at hv
  subst hv
  rw [hb] at hh
  injection hh with hh
  injection hh with h1 h2
  exact hne h2.symm
theorem Wrote.of_row {a b : World} {row : Option Nat} {f : List Nat} (h : a.grownBy b row) (hf : ∀ g, row = some g → g ∈ f) : Wrote a b f := by
 cases row with
 | none => exact Wrote.of_gb h f
 | some g => exact Wrote.of_some h (hf g rfl)
theorem ev {a : Act} {t : Tmp} {v : Value} (h : a.tmps[t]?.getD undef = v) : a.eval (.tmp t) = v := by
 rw [Act.eval, Array.getD_eq_getD_getElem?]; exact h
theorem exec_append {P : Program} {w w' : World} {a : Act} {o : Oper} {s x : Operand} {t : TypeId} {vs vx v' : Value} (ho : o.op = .call { callee := .builtin .append, args := #[s, x], argTypes := #[t, t] }) (hs : a.eval s = vs) (hx : a.eval x = vx)
  (hrun : (Builtin.append_ #[t, t] o.type #[vs, vx]).run P w = .ok v' w') : (execOp a.eval o).run P w = .ok (.value v') w' := by
 unfold execOp
 simp only [ho, resolve, invoke, builtin, Sem.run_bind, Sem.run_pure, Result.andThen_ok, List.map_toArray, List.map_cons, List.map_nil, hs, hx, hrun]
theorem step_append_row' {w : World} {ops : Array Oper} {o : Oper} {a : Act} {K : Act → World → Prop} {Q : Exit → Act → World → Prop} {E : Prop} (hgd : o.guard = none) (s x : Operand) (t : TypeId)
  (ho : o.op = .call { callee := .builtin .append, args := #[s, x], argTypes := #[t, t] })
  (base : Nat) (e : TypeId) (i : TypeInfo) (z : Value) (size bytes : Nat) (ht : Tryz.prog.underlying t = some (.slice e)) (hi : Tryz.prog.info? e = some i) (hz : i.zero = some z)
  (hsize : i.size = size) (hby : i.bytes = bytes) (hzs : z.cells.size = size) (hsz : 0 < size)
  (v : Value) (n : Nat) (xs : List Value) (hs : a.eval s = v) (hown : w.ownsRow base e size v n xs)
  (B : Nat) (A : Option Addr) (m c : Nat) (news : List Value) (hx : a.eval x = .slice A m c) (hl : news.length = m * size) (hr : Rd w B A news) (h1 : ∀ u ∈ news, u.oneCell' = true)
  (h63 : n + m ≤ maxLen) (hbytes : (n + m) * bytes ≤ 140737488355328) (hbase : base ≤ w.heap.size)
  (h : ∀ v' w', w'.ownsRow base e size v' (n + m) (xs ++ news) → w.grownBy w' v.ownBlock → (v'.ownBlock = v.ownBlock ∨ v'.ownBlock = some w.heap.size) → K (a.put o.dst v') w') :
  if Region.wanted o (yielded ops a.tmps) = true then Oper.wp Tryz.prog o a w K Q else E := by
 have hw : Region.wanted o (yielded ops a.tmps) = true := by simp [Region.wanted, hgd]
 rw [if_pos hw]
 exact wp_append_rd w s x t ho base e i z size bytes ht hi hz hsize hby hzs hsz v n xs hs hown B A m c news hx hl hr h1 h63 hbytes hbase h
end Go.Proofs.YtbmgodmfpoappaaGreat
namespace Go.Proofs.YtbmgodmfpoappaaGreat
open Go.RowKit
attribute [local go_sem ↓] Go.wp_at_zero Go.wp_at_succ
def TopF (base : Nat) (v : Vl) : Fct := fun x w => ∃ N Nc S Sc, x = .agg #[.int .i64 v.t, .slice N v.n.length Nc, .slice S v.s.length Sc, .slice none 0 0] ∧ v.n.length ≤ Nc ∧ v.s.length ≤ Sc ∧
 w.ownsRow base 2 1 (.slice N v.n.length Nc) v.n.length (i64s v.n) ∧ w.ownsRow base 9 1 (.slice S v.s.length Sc) v.s.length (strs v.s)
theorem TopF.up (base : Nat) (v : Vl) : (TopF base v).Up := by
 rintro x w w' ⟨N, Nc, S, Sc, h1, h2, h3, h4, h5⟩ hg
 exact ⟨N, Nc, S, Sc, h1, h2, h3, h4.kept hg (by cases (Value.slice N v.n.length Nc).ownBlock <;> simp), h5.kept hg (by cases (Value.slice S v.s.length Sc).ownBlock <;> simp)⟩
def Cl (v : Vl) (w5 : World) (g3 : Nat) (N : Option Addr) (Nc : Nat) (S : Option Addr) (Sc : Nat) (j : Nat) (wr : World) : Prop := ∃ L Lc xs f, wr.heap[g3]? = some (.cells #[.int .i64 v.t, .slice N v.n.length Nc, .slice S v.s.length Sc, .slice L j Lc] 26 (0, 0)) ∧
 wr.ownsRow w5.heap.size 26 4 (.slice L j Lc) j (List.flatten xs) ∧ VOwAll wr (v.l.take j) xs f ∧ f.Nodup ∧ (∀ b ∈ f, w5.heap.size ≤ b ∧ (Value.slice L j Lc).ownBlock ≠ some b) ∧ Wrote w5 wr [g3]
theorem Cl.step {v : Vl} {w5 wr wd w6 w8 : World} {g3 j Nc Sc Lc c8 : Nat} {N S L A8 : Option Addr} {xs : List (List Value)} {f f6 : List Nat} {c0 c1 c2 c3 : Value} (hlt : j < v.l.length) (hg3 : g3 < w5.heap.size)
  (hb : wr.heap[g3]? = some (.cells #[.int .i64 v.t, .slice N v.n.length Nc, .slice S v.s.length Sc, .slice L j Lc] 26 (0, 0)))
  (ho : wr.ownsRow w5.heap.size 26 4 (.slice L j Lc) j (List.flatten xs)) (ha : VOwAll wr (v.l.take j) xs f) (hn : f.Nodup) (hf : ∀ b ∈ f, w5.heap.size ≤ b ∧ (Value.slice L j Lc).ownBlock ≠ some b) (hw : Wrote w5 wr [g3])
  (hd : wr.grownBy wd none) (h6 : VOw w6 v.l[j] [c0, c1, c2, c3] f6) (hn6 : New wd w6 f6) (hg6 : wd.grownBy w6 none)
  (h8 : w8.ownsRow w5.heap.size 26 4 (.slice A8 (j + 1) c8) (j + 1) (List.flatten xs ++ [c0, c1, c2, c3])) (hg8 : (w6.alloc (.cells #[c0, c1, c2, c3] 26)).grownBy w8 (Value.slice L j Lc).ownBlock)
  (hl8 : (Value.slice A8 (j + 1) c8).ownBlock = (Value.slice L j Lc).ownBlock ∨ (Value.slice A8 (j + 1) c8).ownBlock = some (w6.alloc (.cells #[c0, c1, c2, c3] 26)).heap.size) :
  Cl v w5 g3 N Nc S Sc (j + 1) (w8.setCell ⟨g3, 3, none⟩ (.slice A8 (j + 1) c8)) := by
 have s1 := hw.size
 have s2 := hd.size
 have s3 := hg6.size
 have hgr7 := gb_trans hd (gb_trans hg6 (gb_alloc (gb_refl w6 none) (.cells #[c0, c1, c2, c3] 26)) (.inl rfl)) (.inl rfl)
 have s7 : (w6.alloc (.cells #[c0, c1, c2, c3] 26)).heap.size = w6.heap.size + 1 := by simp
 have s8 := hg8.size
 have hLb : ∀ b, (Value.slice L j Lc).ownBlock = some b → w5.heap.size ≤ b ∧ b < wr.heap.size := fun b e => ho.lt b e
 have hkeep : ∀ b, b < wr.heap.size → b ≠ g3 → (Value.slice L j Lc).ownBlock ≠ some b → (w8.setCell ⟨g3, 3, none⟩ (.slice A8 (j + 1) c8)).heap[b]? = wr.heap[b]? := fun b h1 h2 h3 => by
  rw [(gb_setCell (gb_refl w8 (some g3)) (p := ⟨g3, 3, none⟩) (.inl rfl) (.slice A8 (j + 1) c8)).block b (by omega) (by intro e; injection e with e; exact h2 e), hg8.block b (by omega) (fun e => h3 e.symm), hgr7.block b h1 (by simp)]
 have hkeep6 : ∀ b, b < w6.heap.size → b ≠ g3 → (Value.slice L j Lc).ownBlock ≠ some b → (w8.setCell ⟨g3, 3, none⟩ (.slice A8 (j + 1) c8)).heap[b]? = w6.heap[b]? := fun b h1 h2 h3 => by
  rw [(gb_setCell (gb_refl w8 (some g3)) (p := ⟨g3, 3, none⟩) (.inl rfl) (.slice A8 (j + 1) c8)).block b (by omega) (by intro e; injection e with e; exact h2 e), hg8.block b (by omega) (fun e => h3 e.symm), (gb_alloc (gb_refl w6 none) (.cells #[c0, c1, c2, c3] 26)).block b h1 (by simp)]
 have hg3L : (Value.slice L j Lc).ownBlock ≠ some g3 := fun e => by have := hLb _ e; omega
 have hb8 : w8.heap[g3]? = some (.cells #[.int .i64 v.t, .slice N v.n.length Nc, .slice S v.s.length Sc, .slice L j Lc] 26 (0, 0)) := by
  rw [hg8.block g3 (by omega) (fun e => hg3L e.symm), hgr7.block g3 (by omega) (by simp)]
  exact hb
 refine ⟨A8, c8, xs ++ [[c0, c1, c2, c3]], f ++ f6, ?_, ?_, ?_, ?_, ?_, ?_⟩
 ·exact blk_set hb8 3 (.slice A8 (j + 1) c8)
 ·rw [List.flatten_append]
  refine (h8.kept (gb_setCell (gb_refl w8 (some g3)) (.inl rfl) _) ?_)
  cases e : (Value.slice A8 (j + 1) c8).ownBlock with
  | none => exact .inl rfl
  | some b =>
   refine .inr fun e' => ?_
   injection e' with e'
   have := (h8.lt b e).1
   omega
 ·rw [List.take_succ_eq_append_getElem hlt]
  refine VOwAll.snoc _ _ _ (VOwAll.keep _ _ _ ha fun b hm => ?_) (VOw.keep _ _ _ h6 fun b hm => ?_)
  ·have h1 := VOwAll.lt _ _ _ ha b hm
   have h2 := hf b hm
   exact hkeep b h1 (by omega) h2.2
  ·have h1 := hn6.2 b hm
   exact hkeep6 b h1.2 (by omega) (fun e => by have := hLb b e; omega)
 ·refine List.nodup_append.2 ⟨hn, hn6.1, fun x hx y hy e => ?_⟩
  have h1 := VOwAll.lt _ _ _ ha x hx
  have h2 := (hn6.2 y hy).1
  omega
 ·intro b hm
  rcases List.mem_append.1 hm with hm | hm
  ·have h1 := VOwAll.lt _ _ _ ha b hm
   have h2 := hf b hm
   refine ⟨h2.1, ?_⟩
   rcases hl8 with e | e
   ·rw [e]; exact h2.2
   ·rw [e, s7]; intro e'; injection e' with e'; omega
  ·have h1 := hn6.2 b hm
   refine ⟨by omega, ?_⟩
   rcases hl8 with e | e
   ·rw [e]; intro e'; have := hLb b e'; omega
   ·rw [e, s7]; intro e'; injection e' with e'; omega
 ·have k1 : Wrote w5 (w6.alloc (.cells #[c0, c1, c2, c3] 26)) [g3] := hw.trans (Wrote.of_gb hgr7 []) (by simp)
  have k2 : Wrote w5 w8 [g3] := by
   refine k1.trans (Wrote.of_row hg8 (f := match (Value.slice L j Lc).ownBlock with | some b => [b] | none => []) (fun b e => by rw [e]; simp)) fun x hx => ?_
   cases e : (Value.slice L j Lc).ownBlock with
   | none => rw [e] at hx; simp at hx
   | some b =>
    rw [e] at hx
    obtain rfl := List.mem_singleton.1 hx
    exact .inr (hLb _ e).1
  exact k2.trans (Wrote.of_some (gb_setCell (gb_refl w8 (some g3)) (.inl rfl) _) (f := [g3]) (by simp)) (by simp)
theorem NewV.at_put {v : Vl} {w wa w1 : World} {g : Nat} {A1 A2 A3 : Option Addr} {c1 c2 c3 : Nat} {xs : List (List Value)} {f1 f2 f fp : List Nat} (hg0 : w.heap.size ≤ g) (hga : g < wa.heap.size) (hg : w.grownBy wa none) (hg1 : wa.grownBy w1 none)
  (hc1 : v.n.length ≤ c1) (o1 : Own w1 f1 A1 (i64s v.n)) (hc2 : v.s.length ≤ c2) (o2 : Own w1 f2 A2 (strs v.s)) (hc3 : v.l.length ≤ c3) (o3 : Own w1 f A3 (List.flatten xs)) (ha : VOwAll w1 v.l xs fp)
  (hn : New wa w1 (f1 ++ (f2 ++ (f ++ fp)))) :
  NewV v w (.returned (.agg #[.int .i64 v.t, .slice A1 v.n.length c1, .slice A2 v.s.length c2, .slice A3 v.l.length c3])) (put4 w1 g 0 (.int .i64 v.t) (.slice A1 v.n.length c1) (.slice A2 v.s.length c2) (.slice A3 v.l.length c3)) := by
 have s1 := hg1.size
 have s0 := hg.size
 have hk : ∀ b, b < w1.heap.size → b ≠ g → (put4 w1 g 0 (.int .i64 v.t) (.slice A1 v.n.length c1) (.slice A2 v.s.length c2) (.slice A3 v.l.length c3)).heap[b]? = w1.heap[b]? := fun b hb hne => (put4_gb w1 g 0 _ _ _ _).block b hb (by intro e; injection e with e; exact hne e)
 have hs4 := put4_size w1 g 0 (.int .i64 v.t) (.slice A1 v.n.length c1) (.slice A2 v.s.length c2) (.slice A3 v.l.length c3)
 have hb : ∀ b ∈ f1 ++ (f2 ++ (f ++ fp)), (put4 w1 g 0 (.int .i64 v.t) (.slice A1 v.n.length c1) (.slice A2 v.s.length c2) (.slice A3 v.l.length c3)).heap[b]? = w1.heap[b]? := fun b hb => by
  have := hn.2 b hb
  exact hk b (by omega) (by omega)
 refine ⟨A1, c1, A2, c2, A3, c3, f1 ++ (f2 ++ (f ++ fp)), rfl, VOw.mk_ ⟨hc1, hc2, hc3⟩ (o1.keep fun b h => hb b (by simp [h])) (o2.keep fun b h => hb b (by simp [h])) (o3.keep fun b h => hb b (by simp [h])) (VOwAll.keep _ _ _ ha fun b h => hb b (by simp [h])), ?_, ?_⟩
 ·exact (hn.less s0).more (by omega)
 ·exact gb_trans (gb_trans hg hg1 (.inl rfl)) (put4_gb w1 g 0 _ _ _ _) (.inr (.inr ⟨_, rfl, hg0⟩))
def RCloneC (d : Nat) : Prop := ∀ (v : Vl) (w : World) (B : Nat) (nA : Option Addr) (nc : Nat) (sA : Option Addr) (sc : Nat) (lA : Option Addr) (lc : Nat), v.depth ≤ d → v.tot ≤ 1200000000 → B ≤ w.heap.size → VB w B v nA nc sA sc lA lc →
  Calls Tryz.prog 45 #[.agg #[.int .i64 v.t, .slice nA v.n.length nc, .slice sA v.s.length sc, .slice lA v.l.length lc]] w (NewV v w)
set_option maxHeartbeats 8000000 in
set_option maxRecDepth 100000 in
theorem rClone_d (d : Nat) : RCloneC d := by
 induction d with
 | zero => intro v; intros; rw [Vl.depth_def] at *; omega
 | succ d ih =>
  intro v w B nA nc sA sc lA lc hd ht hB hv
  obtain ⟨l1, l2, l3, l4⟩ := Vl.lens v ht
  obtain ⟨wa, hwa⟩ : ∃ wa, wa = (w.alloc (.cells #[.int .i64 v.t, .slice nA v.n.length nc, .slice sA v.s.length sc, .slice lA v.l.length lc] 26)).alloc (.cells #[.int .i64 0, .slice none 0 0, .slice none 0 0, .slice none 0 0] 26) := ⟨_, rfl⟩
  have hg : w.grownBy wa none := by rw [hwa]; exact gb_alloc (gb_alloc (gb_refl w none) _) _
  have hc := (C4.box w (.int .i64 v.t) (.slice nA v.n.length nc) (.slice sA v.s.length sc) (.slice lA v.l.length lc) 26).gb (gb_alloc (gb_refl _ none) (.cells #[.int .i64 0, .slice none 0 0, .slice none 0 0, .slice none 0 0] 26))
  have hr : wa.heap[w.heap.size + 1]? = some (.cells #[.int .i64 0, .slice none 0 0, .slice none 0 0, .slice none 0 0] 26 (0, 0)) := by
   have h := heap_alloc_new (w.alloc (.cells #[.int .i64 v.t, .slice nA v.n.length nc, .slice sA v.s.length sc, .slice lA v.l.length lc] 26)) (.cells #[.int .i64 0, .slice none 0 0, .slice none 0 0, .slice none 0 0] 26)
   have e : (w.alloc (.cells #[.int .i64 v.t, .slice nA v.n.length nc, .slice sA v.s.length sc, .slice lA v.l.length lc] 26)).heap.size = w.heap.size + 1 := by simp
   rw [e] at h
   rw [hwa]
   exact h
  rw [← hwa] at hc
  have HB0 := hide (show wa.cell? ⟨w.heap.size, 0, none⟩ = some (.int .i64 v.t) from hc.c0)
  have HB1 := hide (show wa.cell? ⟨w.heap.size, 1, none⟩ = some (.slice nA v.n.length nc) from hc.c1)
  have HB2 := hide (show wa.cell? ⟨w.heap.size, 2, none⟩ = some (.slice sA v.s.length sc) from hc.c2)
  have HB3 := hide (show wa.cell? ⟨w.heap.size, 3, none⟩ = some (.slice lA v.l.length lc) from hc.c3)
  have HBW := hide (Nat.le_trans hB hg.size)
  have HVB := hide (hv.gb hg hB)
  have HG := hide hg
  have HWE := hide hwa
  have HR := hide hr
  have HSZ := hide (show wa.heap.size = w.heap.size + 2 by rw [hwa]; simp)
  have IH := hide ih
  have HDD := hide hd
  have HTT := hide ht
  clear ih hd ht hB hv hg hwa hc hr
  go_enter Tryz.func45, Tryz.ntmps45
  go_wp2_with fail
  rw [← HWE.out]
  refine wp_region_facts' 12 (by kernel_rfl) (by kernel_rfl) ?_
  intro A O W L HA HO HW HL
  simp only [List.take_succ_cons, List.take_zero]
  have HS := hide (show A.tmps.size = 35 by rw [HA.out]; rfl)
  have HGW := hide (show wa.grownBy W none by rw [HW.out]; exact gb_drew (gb_refl wa none))
  have A1 := hide (show A.eval (.tmp 1) = .pointer (some ⟨w.heap.size, 0, none⟩) by rw [HA.out]; rfl)
  refine wpFacts_lit (.pointer (some ⟨w.heap.size, 0, none⟩)) rfl ?_ ?_
  ·intro a wq hw hl
   have e1 : a.tmps[1]?.getD undef = .pointer (some ⟨w.heap.size, 0, none⟩) := (hl 1 (by first | (simp [Op.operands]; done) | simp [Op.operands, Call.operands]) (by rw [HS.out]; decide)).trans A1.out
   clear hl
   go_simp
  refine wpFacts_lit (.int .i64 v.t) rfl ?_ ?_
  ·intro a wq hw hl
   have e5 : a.tmps[5]?.getD undef = .pointer (some ⟨w.heap.size, 0, none⟩) := hl 5 (by first | (simp [Op.operands]; done) | simp [Op.operands, Call.operands]) (by rw [HS.out]; decide)
   have c0 := cell_gb HB0.out (gb_trans HGW.out hw (.inl rfl))
   clear hl
   go_simp
  refine wpFacts_step (RowF wa.heap.size 0 #[] 2) rfl (RowF.up _ _ _ _) ?_ ?_
  ·intro a wq hw hl
   clear hl
   go_simp
   exact RowF.new _ _ (Nat.le_trans HGW.out.size hw.size)
  refine wpFacts_lit (.pointer (some ⟨w.heap.size, 1, none⟩)) rfl ?_ ?_
  ·intro a wq hw hl
   have e1 : a.tmps[1]?.getD undef = .pointer (some ⟨w.heap.size, 0, none⟩) := (hl 1 (by first | (simp [Op.operands]; done) | simp [Op.operands, Call.operands]) (by rw [HS.out]; decide)).trans A1.out
   clear hl
   go_simp
  refine wpFacts_lit (.slice nA v.n.length nc) rfl ?_ ?_
  ·intro a wq hw hl
   have e8 : a.tmps[8]?.getD undef = .pointer (some ⟨w.heap.size, 1, none⟩) := hl 8 (by first | (simp [Op.operands]; done) | simp [Op.operands, Call.operands]) (by rw [HS.out]; decide)
   have c1 := cell_gb HB1.out (gb_trans HGW.out hw (.inl rfl))
   clear hl
   go_simp
  refine wpFacts_step (RowO wa.heap.size 2 v.n.length (i64s v.n)) rfl (RowO.up _ _ _ _) ?_ ?_
  ·intro a wq hw hl
   have h7 : (RowF wa.heap.size 0 #[] 2) (a.tmps[7]?.getD undef) wq := hl 7 (by first | (simp [Op.operands]; done) | simp [Op.operands, Call.operands]) (by rw [HS.out]; decide)
   obtain ⟨b, e7, hb, hbb⟩ := h7
   have e9 : a.tmps[9]?.getD undef = .slice nA v.n.length nc := hl 9 (by first | (simp [Op.operands]; done) | simp [Op.operands, Call.operands]) (by rw [HS.out]; decide)
   obtain ⟨i1, hi1, hiz, his, hib⟩ := info_parts Tryz.info64
   obtain ⟨A2, c2, w2, hrun, hle, hown, hgr⟩ := run_append_fresh (P := Tryz.prog) (w := wq) (base := wa.heap.size) (c := nc) 22 22 2 i1 (.int .i64 0) Tryz.underlying22 hi1 hiz his (by rw [hib]; decide) rfl hb (news := (i64s v.n)) (by simp [i64s]) ((HVB.out.gb (gb_trans HGW.out hw (.inl rfl)) HBW.out).n) l1 hbb
   have HO := hide hown
   have HL := hide hle
   have HGR := hide hgr
   clear hb hbb hown hle hgr hi1 hiz his hib i1
   clear hl
   rw [exec_append rfl (ev e7) (ev e9) hrun]
   exact ⟨HGR.out, _, _, rfl, HL.out, HO.out⟩
  refine wpFacts_step (RowF wa.heap.size 0 #[] 9) rfl (RowF.up _ _ _ _) ?_ ?_
  ·intro a wq hw hl
   clear hl
   go_simp
   exact RowF.new _ _ (Nat.le_trans HGW.out.size hw.size)
  refine wpFacts_lit (.pointer (some ⟨w.heap.size, 2, none⟩)) rfl ?_ ?_
  ·intro a wq hw hl
   have e1 : a.tmps[1]?.getD undef = .pointer (some ⟨w.heap.size, 0, none⟩) := (hl 1 (by first | (simp [Op.operands]; done) | simp [Op.operands, Call.operands]) (by rw [HS.out]; decide)).trans A1.out
   clear hl
   go_simp
  refine wpFacts_lit (.slice sA v.s.length sc) rfl ?_ ?_
  ·intro a wq hw hl
   have e12 : a.tmps[12]?.getD undef = .pointer (some ⟨w.heap.size, 2, none⟩) := hl 12 (by first | (simp [Op.operands]; done) | simp [Op.operands, Call.operands]) (by rw [HS.out]; decide)
   have c2 := cell_gb HB2.out (gb_trans HGW.out hw (.inl rfl))
   clear hl
   go_simp
  refine wpFacts_step (RowO wa.heap.size 9 v.s.length (strs v.s)) rfl (RowO.up _ _ _ _) ?_ ?_
  ·intro a wq hw hl
   have h11 : (RowF wa.heap.size 0 #[] 9) (a.tmps[11]?.getD undef) wq := hl 11 (by first | (simp [Op.operands]; done) | simp [Op.operands, Call.operands]) (by rw [HS.out]; decide)
   obtain ⟨b, e11, hb, hbb⟩ := h11
   have e13 : a.tmps[13]?.getD undef = .slice sA v.s.length sc := hl 13 (by first | (simp [Op.operands]; done) | simp [Op.operands, Call.operands]) (by rw [HS.out]; decide)
   obtain ⟨i1, hi1, hiz, his, hib⟩ := info_parts Tryz.infoS
   obtain ⟨A2, c2, w2, hrun, hle, hown, hgr⟩ := run_append_fresh (P := Tryz.prog) (w := wq) (base := wa.heap.size) (c := sc) 23 23 9 i1 (.string ⟨#[]⟩) Tryz.underlying23 hi1 hiz his (by rw [hib]; decide) rfl hb (news := (strs v.s)) (by simp [strs]) ((HVB.out.gb (gb_trans HGW.out hw (.inl rfl)) HBW.out).s) l2 hbb
   have HO := hide hown
   have HL := hide hle
   have HGR := hide hgr
   clear hb hbb hown hle hgr hi1 hiz his hib i1
   clear hl
   rw [exec_append rfl (ev e11) (ev e13) hrun]
   exact ⟨HGR.out, _, _, rfl, HL.out, HO.out⟩
  refine wpFacts_step (TopF wa.heap.size v) rfl (TopF.up _ _) ?_ ?_
  ·intro a wq hw hl
   have e6 : a.tmps[6]?.getD undef = .int .i64 v.t := hl 6 (by first | (simp [Op.operands]; done) | simp [Op.operands, Call.operands]) (by rw [HS.out]; decide)
   have h10 : (RowO wa.heap.size 2 v.n.length (i64s v.n)) (a.tmps[10]?.getD undef) wq := hl 10 (by first | (simp [Op.operands]; done) | simp [Op.operands, Call.operands]) (by rw [HS.out]; decide)
   obtain ⟨N, Nc, e10, hn1, hn2⟩ := h10
   have h14 : (RowO wa.heap.size 9 v.s.length (strs v.s)) (a.tmps[14]?.getD undef) wq := hl 14 (by first | (simp [Op.operands]; done) | simp [Op.operands, Call.operands]) (by rw [HS.out]; decide)
   obtain ⟨S, Sc, e14, hs1, hs2⟩ := h14
   have H1 := hide (And.intro hn1 hn2)
   have H2 := hide (And.intro hs1 hs2)
   clear hn1 hn2 hs1 hs2
   clear hl
   go_simp
   exact ⟨gb_refl wq none, N, Nc, S, Sc, rfl, H1.out.1, H2.out.1, H1.out.2, H2.out.2⟩
  refine wpFacts_step (BoxF wa.heap.size zero4 26) rfl (BoxF.up _ _ _) ?_ ?_
  ·intro a wq hw hl
   clear hl
   go_simp
   exact BoxF.new _ _ (Nat.le_trans HGW.out.size hw.size)
  refine HL.out _ (fun a' w4 hc => ?_)
  have h3 : BoxF wa.heap.size zero4 26 (a'.eval (.tmp 3)) w4 := hc.fact 3 (by rw [HS.out]; decide)
  have h15 : TopF wa.heap.size v (a'.eval (.tmp 15)) w4 := hc.fact 15 (by rw [HS.out]; decide)
  have hg4 := gb_trans HGW.out hc.grown (.inl rfl)
  have hfr := hc.frame [5, 6, 7, 8, 9, 10, 11, 12, 13, 14, 15, 3] (by rw [HO.out]; kernel_rfl)
  rw [hfr]
  clear hfr hc
  rw [HA.out]
  clear HA HO HL HW HS HGW A1
  clear A O W L
  simp only [List.drop_succ_cons, List.drop_zero, List.foldl_cons, List.foldl_nil, Act.put, List.setIfInBounds_toArray, List.set_cons_succ, List.set_cons_zero]
  obtain ⟨g3, e3, hb3, hle3⟩ := h3
  obtain ⟨N, Nc, S, Sc, e15, hn1, hs1, hn2, hs2⟩ := h15
  rw [e3, e15]
  generalize a'.eval (.tmp 5) = v5
  generalize a'.eval (.tmp 6) = v6
  generalize a'.eval (.tmp 7) = v7
  generalize a'.eval (.tmp 8) = v8
  generalize a'.eval (.tmp 9) = v9
  generalize a'.eval (.tmp 10) = v10
  generalize a'.eval (.tmp 11) = v11
  generalize a'.eval (.tmp 12) = v12
  generalize a'.eval (.tmp 13) = v13
  generalize a'.eval (.tmp 14) = v14
  clear e3 e15
  have HB := hide hb3
  have HG4 := hide hg4
  have HN := hide (And.intro hn1 hn2)
  have HSS := hide (And.intro hs1 hs2)
  obtain ⟨u0, u1, u2, u3, p0, p1, p2, p3⟩ := four_cells hb3 (i := 0) (by decide)
  have z0 := blk_frozen hb3 0
  have z1 := blk_frozen hb3 1
  have z2 := blk_frozen hb3 2
  have z3 := blk_frozen hb3 3
  clear hn1 hn2 hs1 hs2 hb3 hg4
  go_upto_region 2 with fail
  have hfz3 := HB.out
  obtain ⟨w5, hw5⟩ : ∃ w5, w5 = put4 w4 g3 0 (.int .i64 v.t) (.slice N v.n.length Nc) (.slice S v.s.length Sc) (.slice none 0 0) := ⟨_, rfl⟩
  have hg5 : w4.grownBy w5 (some g3) := by rw [hw5]; exact put4_gb w4 g3 0 _ _ _ _
  have hb5 : w5.heap[g3]? = some (.cells #[.int .i64 v.t, .slice N v.n.length Nc, .slice S v.s.length Sc, .slice none 0 0] 26 (0, 0)) := by rw [hw5]; exact put4_blk (i := 0) HB.out _ _ _ _
  have hlt4 := blk_lt HB.out
  have hsz5 : w5.heap.size = w4.heap.size := by rw [hw5]; exact put4_size w4 g3 0 _ _ _ _
  have HN5 := hide (HN.out.2.kept hg5 (.inr (row_not_box HN.out.2 HB.out (by decide))))
  have HS5 := hide (HSS.out.2.kept hg5 (.inr (row_not_box HSS.out.2 HB.out (by decide))))
  have HWA5 := hide (show wa.grownBy w5 none from gb_trans HG4.out hg5 (.inr (.inr ⟨_, rfl, hle3⟩)))
  have HB5 := hide hb5
  have HLT3 := hide (show g3 < w5.heap.size by rw [hsz5]; exact hlt4)
  have HLE3 := hide hle3
  simp only [put4, Nat.zero_add] at hw5
  rw [← hw5]
  clear hw5 hg5 hb5 hlt4 hsz5 hfz3 p0 p1 p2 p3 z0 z1 z2 z3 HB HG4 hle3
  go_wp2_with fail
  go_loopw [4] (fun i wr => ∃ j : Nat, i = .int .i64 (j : Int) ∧ j ≤ v.l.length ∧ Cl v w5 g3 N Nc S Sc j wr) (fun i _ => v.l.length - (intOf i).toNat)
  case atStart => exact ⟨0, rfl, Nat.zero_le _, none, 0, [], [], HB5.out, ⟨rfl, .inl ⟨rfl, rfl⟩⟩, ⟨rfl, rfl⟩, List.nodup_nil, by simp, Wrote.refl_ _ _⟩
  case round =>
   obtain ⟨j, rfl, hj, hcl⟩ := hrel
   obtain ⟨L, Lc, xs, f, hb, ho, ha, hnd, hf, hw⟩ := hcl
   have s5 := HWA5.out.size
   have hsa := HSZ.out
   have b3 : wr.cell? ⟨w.heap.size, 3, none⟩ = some (.slice lA v.l.length lc) := hw.cell (cell_gb HB3.out HWA5.out) (by simp; have := HLE3.out; omega)
   clear s5 hsa
   by_cases hlt : j < v.l.length
   ·have hlt1 : (j : Int) < (v.l.length : Int) := by omega
    obtain ⟨q, o, xA, xc, yA, yc, zA, zc, rfl, hqB, hc4, hvb⟩ := HVB.out.l.at_ hlt
    have hwr : wa.grownBy wr none := hw.gb HWA5.out (by simp; exact HLE3.out)
    obtain ⟨d0, d1, d2, d3⟩ := hc4.gb hwr
    have p3 : wr.cell? ⟨g3, 3, none⟩ = some (.slice L j Lc) := by rw [blk_cell hb]; rfl
    have HREC := hide (fun w2 (k : wr.grownBy w2 none) => IH.out v.l[j] w2 B xA xc yA yc zA zc (Vl.depth_part HDD.out (List.getElem_mem hlt)) (Vl.tot_part HTT.out (List.getElem_mem hlt)) (Nat.le_trans HBW.out (Nat.le_trans hwr.size k.size)) (hvb.gb (gb_trans hwr k (.inl rfl)) HBW.out))
    have HLB : Hid (∀ b, (Value.slice L j Lc).ownBlock = some b → w5.heap.size ≤ b ∧ b < wr.heap.size) := hide (fun b e => ho.lt b e)
    have HOR := hide ho
    have HBR := hide hb
    have HAR := hide ha
    have HNR := hide hnd
    have HFR := hide hf
    have HWR := hide hw
    have HGR := hide hwr
    obtain ⟨i1, hi1, hiz, his, hib⟩ := info_parts Tryz.infoV
    have HI1 := hide hi1
    have HIZ := hide hiz
    have HIS := hide his
    have HIB := hide hib
    have HM1 : Hid (j + 1 ≤ maxLen) := hide (by unfold maxLen; omega)
    have HMB : Hid ((j + 1) * 80 ≤ 140737488355328) := hide (by omega)
    have HL5 := hide (show w.heap.size ≠ g3 ∧ w.heap.size < w5.heap.size ∧ q < w5.heap.size ∧ q ≠ g3 by
     have h1 := HSZ.out; have h2 := HWA5.out.size; have h3 := HLE3.out; have h4 := HBW.out
     exact ⟨by omega, by omega, by omega, by omega⟩)
    clear hc4 hvb hwr hb ho ha hnd hf hw hi1 hiz his hib
    go_wp2_with fail
    go_region_law
     (first
     | (go_simp; go_at_call 45; refine (HREC.out _ (gb_drew (gb_refl wr none))).mono ?_; rintro e w6 ⟨aA, ac, bA, bc, cA, cc, f6, rfl, ho6, hn6, hg6⟩; have HO6 := hide ho6; have HN6 := hide hn6; have HG6 := hide hg6; have HGA := hide (gb_trans (gb_drew (gb_refl wr none)) hg6 (.inl rfl)); have HG7 := hide (gb_trans HGA.out (gb_alloc (gb_refl w6 none) (.cells #[.int .i64 v.l[j].t, .slice aA v.l[j].n.length ac, .slice bA v.l[j].s.length bc, .slice cA v.l[j].l.length cc] 26)) (.inl rfl)); have p36 := cell_gb p3 HGA.out; have p37 := cell_gb p3 HG7.out; have HOL := hide (HOR.out.kept HG7.out (by cases (Value.slice L j Lc).ownBlock <;> simp)); have HRN := hide (rd_row (heap_alloc_new w6 (.cells #[.int .i64 v.l[j].t, .slice aA v.l[j].n.length ac, .slice bA v.l[j].s.length bc, .slice cA v.l[j].l.length cc] 26)) (xs := [.int .i64 v.l[j].t, .slice aA v.l[j].n.length ac, .slice bA v.l[j].s.length bc, .slice cA v.l[j].l.length cc]) rfl (by simp)); have HOC := hide (V4_one v.l[j].t aA bA cA v.l[j].n.length v.l[j].s.length v.l[j].l.length ac bc cc); have HBS := hide (Nat.le_trans HWR.out.size HG7.out.size); clear ho6 hn6 hg6)
     | (refine step_append_row' (by rfl) (.tmp 24) (.tmp 31) 24 (by rfl) w5.heap.size 26 i1 (.agg #[.int .i64 0, .slice none 0 0, .slice none 0 0, .slice none 0 0]) 4 80 Tryz.underlying24 HI1.out HIZ.out HIS.out HIB.out rfl (Nat.succ_pos 3) (.slice L j Lc) j (List.flatten xs) (by rfl) HOL.out (w6.alloc (.cells #[.int .i64 v.l[j].t, .slice aA v.l[j].n.length ac, .slice bA v.l[j].s.length bc, .slice cA v.l[j].l.length cc] 26)).heap.size (some ⟨w6.heap.size, 0, none⟩) 1 1 [.int .i64 v.l[j].t, .slice aA v.l[j].n.length ac, .slice bA v.l[j].s.length bc, .slice cA v.l[j].l.length cc] (by rfl) rfl HRN.out HOC.out HM1.out HMB.out HBS.out ?_; intro v8 w8 ho8 hg8 hb8; obtain ⟨A8, c8, rfl, _⟩ := own_slice ho8; have HO8 := hide ho8; have HG8 := hide hg8; have HLL8 := hide hb8; have hx8 : ∀ b, b < w5.heap.size → w8.heap[b]? = (w6.alloc (.cells #[.int .i64 v.l[j].t, .slice aA v.l[j].n.length ac, .slice bA v.l[j].s.length bc, .slice cA v.l[j].l.length cc] 26)).heap[b]? := (fun b h => hg8.block b (Nat.lt_of_lt_of_le h HBS.out) (fun e => by { have h9 := (HLB.out b e.symm).1; omega })); have HH8 := hide ((hx8 g3 HLT3.out).trans ((HG7.out.block g3 (Nat.lt_of_lt_of_le HLT3.out HWR.out.size) (by simp)).trans HBR.out)); have zz := blk_frozen HH8.out 3; have pp3 : w8.cell? ⟨g3, 3, none⟩ = some (.slice L j Lc) := (by { rw [blk_cell HH8.out]; rfl });  clear ho8 hg8 hb8 hx8))
    all_goals
     go_wp2_with fail
     go_roundw
     case rel => exact ⟨j + 1, by go_num, by omega, Cl.step hlt HLT3.out HBR.out HOR.out HAR.out HNR.out HFR.out HWR.out (gb_drew (gb_refl wr none)) HO6.out HN6.out HG6.out HO8.out HG8.out HLL8.out⟩
     case measure => simp [intOf]; omega
   ·have hlt1 : ¬ (j : Int) < (v.l.length : Int) := by omega
    have hje : v.l.length = j := by omega
    have htk := List.take_of_length_le (show v.l.length ≤ j by omega)
    have hall : VOwAll wr v.l xs f := by rw [htk] at ha; exact ha
    have hwr : wa.grownBy wr none := hw.gb HWA5.out (by simp; exact HLE3.out)
    have hkN : ∀ b, b < w5.heap.size → b ≠ g3 → wr.heap[b]? = w5.heap[b]? := fun b h h' => hw.block b h (by simpa using h')
    obtain ⟨f1, o1, r1⟩ := Own.of_row HN5.out
    obtain ⟨f2, o2, r2⟩ := Own.of_row HS5.out
    obtain ⟨fL, o3, r3⟩ := Own.of_row ho
    have e1 : ∀ b ∈ f1, b ≠ g3 := fun b hm e => row_not_box HN5.out HB5.out (by decide) (e ▸ o1.blk b hm)
    have e2 : ∀ b ∈ f2, b ≠ g3 := fun b hm e => row_not_box HS5.out HB5.out (by decide) (e ▸ o2.blk b hm)
    have o1r := o1.keep fun b hm => hkN b (r1 b hm).2 (e1 b hm)
    have o2r := o2.keep fun b hm => hkN b (r2 b hm).2 (e2 b hm)
    have h12 : ∀ x ∈ f1, x ∉ f2 := fun x h1 h2 => by
     rcases rows_apart HN5.out HS5.out (by decide) with h | h
     ·rw [o1.blk x h1] at h; cases h
     ·exact h ((o1.blk x h1).trans (o2.blk x h2).symm)
    have hLc : j ≤ Lc := by
     rcases ho.2 with ⟨h, h'⟩ | ⟨_, _, _, h, _, _, hc, _⟩
     ·omega
     ·injection h with h1 h2 h3; omega
    have nd1 : f1.Nodup := (New.one (a := wa) (c := w5) r1 o1.len (Nat.le_refl _)).1
    have nd2 : f2.Nodup := (New.one (a := wa) (c := w5) r2 o2.len (Nat.le_refl _)).1
    have ndL : fL.Nodup := (New.one (a := w5) (c := wr) r3 o3.len (Nat.le_refl _)).1
    have s5 := HWA5.out.size
    have s6 := hw.size
    have hnew : New wa wr (f1 ++ (f2 ++ (fL ++ f))) := by
     refine ⟨?_, ?_⟩
     ·refine List.nodup_append.2 ⟨nd1, List.nodup_append.2 ⟨nd2, List.nodup_append.2 ⟨ndL, hnd, fun x hx y hy e => ?_⟩, fun x hx y hy e => ?_⟩, fun x hx y hy e => ?_⟩
      ·subst e
       exact (hf x hy).2 (o3.blk x hx)
      ·subst e
       rcases List.mem_append.1 hy with hy | hy
       ·have := r3 x hy; have := r2 x hx; omega
       ·have := hf x hy; have := r2 x hx; omega
      ·subst e
       rcases List.mem_append.1 hy with hy | hy
       ·exact h12 x hx hy
       ·rcases List.mem_append.1 hy with hy | hy
        ·have := r3 x hy; have := r1 x hx; omega
        ·have := hf x hy; have := r1 x hx; omega
     ·intro x hx
      rcases List.mem_append.1 hx with hx | hx
      ·have := r1 x hx; omega
      ·rcases List.mem_append.1 hx with hx | hx
       ·have := r2 x hx; omega
       ·rcases List.mem_append.1 hx with hx | hx
        ·have := r3 x hx; omega
        ·have h1 := hf x hx; have h2 := VOwAll.lt _ _ _ hall x hx; omega
    have hrr : wr.heap[w.heap.size + 1]? = some (.cells zero4 26 (0, 0)) := (hwr.block _ (by have := HSZ.out; omega) (by simp)).trans HR.out
    rw [← hje] at hb
    have FIN := hide (NewV.at_put (g := w.heap.size + 1) (c3 := Lc) (by omega) (by have := HSZ.out; omega) HG.out hwr HN.out.1 o1r HSS.out.1 o2r (by omega) o3 hall hnew)
    obtain ⟨k0, k1, k2, k3⟩ : C4 wr g3 0 (.int .i64 v.t) (.slice N v.n.length Nc) (.slice S v.s.length Sc) (.slice L v.l.length Lc) := c4k hb
    obtain ⟨t0, t1, t2, t3, p0, p1, p2, p3⟩ := four_cells hrr (i := 0) (by decide)
    have z0 := blk_frozen hrr 0
    have z1 := blk_frozen hrr 1
    have z2 := blk_frozen hrr 2
    have z3 := blk_frozen hrr 3
    have HRR := hide hrr
    have HBR := hide hb
    clear htk hb ho ha hnd hf hw hall hwr hkN o1 r1 o2 r2 o3 r3 e1 e2 o1r o2r h12 hLc nd1 nd2 ndL s5 s6 hnew hrr hje
    go_wp2_with fail
    obtain ⟨m0, m1, m2, m3⟩ := C4.put HRR.out (.int .i64 v.t) (.slice N v.n.length Nc) (.slice S v.s.length Sc) (.slice L v.l.length Lc)
    simp only [put4, Nat.zero_add] at m0 m1 m2 m3
    refine bodyPost_ret (v := .agg #[.int .i64 v.t, .slice N v.n.length Nc, .slice S v.s.length Sc, .slice L v.l.length Lc]) (by simp [results, Tryz.results45, go_sem, m0, m1, m2, m3]) rfl ?_
    exact FIN.out
end Go.Proofs.YtbmgodmfpoappaaGreat
