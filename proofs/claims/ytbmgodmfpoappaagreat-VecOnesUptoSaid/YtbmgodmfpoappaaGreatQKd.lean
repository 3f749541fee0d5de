/-
  value.row.
-/
import Derived.Test.YtbmgodmfpoappaaGreatQKa
namespace Go.Proofs.YtbmgodmfpoappaaGreat
open Go.RowKit
attribute [local go_sem ↓] Go.wp_at_zero Go.wp_at_succ
def elemV (v : Vl) (i : Nat) : Vl :=
 if v.t = 0 then v.l.getD i v else if v.t = 3 then .mk (-3) [] [v.s.getD i ⟨#[]⟩] [] else if 0 < v.t ∧ hasN v.t = true then .mk (-v.t) [v.n.getD i 0] [] [] else v
def ErrV (k : Int) (w : World) (e : Ending) (w' : World) : Prop := e = .returned (.tuple #[.agg #[.int .i64 0, .slice none 0 0, .slice none 0 0, .slice none 0 0], .int .i64 k]) ∧ w.grownBy w' none
theorem put4_to {w w' : World} {g i : Nat} {c0 c1 c2 c3 : Value} (h : w.grownBy w' none) (hg : w.heap.size ≤ g) : w.grownBy (put4 w' g i c0 c1 c2 c3) none := gb_trans h (put4_gb w' g i c0 c1 c2 c3) (.inr (.inr ⟨_, rfl, hg⟩))
theorem VB.put4 {w : World} {B g i : Nat} {c0 c1 c2 c3 : Value} {v : Vl} {nA : Option Addr} {nc : Nat} {sA : Option Addr} {sc : Nat} {lA : Option Addr} {lc : Nat} (h : VB w B v nA nc sA sc lA lc) (hB : B ≤ w.heap.size) (hg : B ≤ g) :
  VB (put4 w g i c0 c1 c2 c3) B v nA nc sA sc lA lc := by
 have k := put4_gb w g i c0 c1 c2 c3
 exact ⟨h.n.grown k hB (fun x e => by injection e with e; omega), h.s.grown k hB (fun x e => by injection e with e; omega), h.l.grown k hB (fun x e => by injection e with e; omega), h.hn, h.hs, h.hl⟩
end Go.Proofs.YtbmgodmfpoappaaGreat
namespace Go.Proofs.YtbmgodmfpoappaaGreat
open Go.RowKit
attribute [local go_sem ↓] Go.wp_at_zero Go.wp_at_succ
theorem Own.lit {w : World} {b : Nat} {cs : Array Value} {t : TypeId} (h : w.heap[b]? = some (.cells cs t (0, 0))) (h0 : cs.toList ≠ []) : Own w [b] (some ⟨b, 0, none⟩) cs.toList :=
 .inr ⟨b, t, cs, rfl, rfl, h, List.take_length, h0⟩
theorem alloc2_blk (w : World) (o1 o2 : Obj) : ((w.alloc o1).alloc o2).heap[w.heap.size + 1]? = some o2 := by
 have h := heap_alloc_new (w.alloc o1) o2
 have e : (w.alloc o1).heap.size = w.heap.size + 1 := by simp
 rwa [e] at h
theorem new2 (w : World) (o1 o2 : Obj) : New w ((w.alloc o1).alloc o2) [w.heap.size + 1] := ⟨by simp, fun b hb => by obtain rfl := List.mem_singleton.1 hb; simp⟩
theorem newV_atom (w : World) (t n : Int) (o : Obj) : NewV (.mk t [n] [] []) w (.returned (.agg #[.int .i64 t, .slice (some ⟨w.heap.size + 1, 0, none⟩) 1 1, .slice none 0 0, .slice none 0 0])) ((w.alloc o).alloc (.cells #[.int .i64 n] 2)) :=
 ⟨some ⟨w.heap.size + 1, 0, none⟩, 1, none, 0, none, 0, [w.heap.size + 1], rfl,
  VOw.mk_ (v := .mk t [n] [] []) (fn := [w.heap.size + 1]) (fs := []) (fl := []) (fp := []) (xs := []) ⟨Nat.le_refl _, Nat.le_refl _, Nat.le_refl _⟩ (Own.lit (alloc2_blk w o _) (by simp)) (.inl ⟨rfl, rfl⟩) (.inl ⟨rfl, rfl⟩) ⟨rfl, rfl⟩,
  new2 w o _, gb_alloc (gb_alloc (gb_refl w none) _) _⟩
set_option maxHeartbeats 4000000 in
set_option maxRecDepth 100000 in
theorem atomI_any (n : Int) (w : World) : Calls Tryz.prog 134 #[.int .i64 2, .int .i64 n] w (NewV (.mk (-2) [n] [] []) w) := by
 have HN : Hid (∀ w, Calls Tryz.prog 70 #[.int .i64 2] w fun e w' => e = .returned (.bool true) ∧ w = w') := hide (fun w => hasN_any 2 w)
 go_enter Tryz.func134, Tryz.ntmps134
 go_wp2_with (go_at_call 70; refine (HN.out _).mono ?_; rintro e w1 ⟨rfl, rfl⟩)
 have h := newV_atom w (-2) n (.cells #[.int .i64 (-2), .slice (some ⟨w.heap.size + 1, 0, none⟩) 1 1, .slice none 0 0, .slice none 0 0] 26)
 refine bodyPost_ret (v := .agg #[.int .i64 (-2), .slice (some ⟨w.heap.size + 1, 0, none⟩) 1 1, .slice none 0 0, .slice none 0 0]) (by simp [results, Tryz.results134, go_sem]) rfl h
set_option maxHeartbeats 4000000 in
set_option maxRecDepth 100000 in
theorem rAbs2_any (w : World) : Calls Tryz.prog 54 #[.int .i64 2] w fun e w' => e = .returned (.int .i64 2) ∧ w = w' := by
 go_enter Tryz.func54, Tryz.ntmps54
 go_wp2_with fail
 go_ret
 exact ⟨rfl, rfl⟩
set_option maxHeartbeats 4000000 in
set_option maxRecDepth 100000 in
theorem rAtomI_any (n : Int) (w : World) : Calls Tryz.prog 24 #[.int .i64 2, .int .i64 n] w (NewV (.mk (-2) [n] [] []) w) := by
 go_enter Tryz.func24, Tryz.ntmps24
 go_wp2_with (go_at_call 54; refine (rAbs2_any _).mono ?_; rintro e w1 ⟨rfl, rfl⟩)
 have h := newV_atom w (-2) n (.cells #[.int .i64 (-2), .slice (some ⟨w.heap.size + 1, 0, none⟩) 1 1, .slice none 0 0, .slice none 0 0] 26)
 refine bodyPost_ret (v := .agg #[.int .i64 (-2), .slice (some ⟨w.heap.size + 1, 0, none⟩) 1 1, .slice none 0 0, .slice none 0 0]) (by simp [results, Tryz.results24, go_sem]) rfl h
end Go.Proofs.YtbmgodmfpoappaaGreat
namespace Go.Proofs.YtbmgodmfpoappaaGreat
open Go.RowKit
attribute [local go_sem ↓] Go.wp_at_zero Go.wp_at_succ
def NewE (v : Vl) (w : World) (e : Ending) (w' : World) : Prop := ∃ nA nc sA sc lA lc f, e = .returned (.tuple #[.agg #[.int .i64 v.t, .slice nA v.n.length nc, .slice sA v.s.length sc, .slice lA v.l.length lc], .int .i64 0]) ∧
 VOw w' v [.int .i64 v.t, .slice nA v.n.length nc, .slice sA v.s.length sc, .slice lA v.l.length lc] f ∧ New w w' f ∧ w.grownBy w' none
def rowOk (ts : List Vl) (i : Int) : Prop := ∀ t ∈ ts, ∀ c ∈ t.l, 0 ≤ i ∧ i < (c.count : Int)
def rowV (ts : List Vl) (i : Nat) : Vl := .mk 99 [] [] [.mk 3 [] (ts.flatMap Vl.s) [], ofV ((ts.flatMap Vl.l).map fun c => elemV c i)]
def RowPost (ts : List Vl) (i : Int) (w : World) (e : Ending) (w' : World) : Prop := (rowOk ts i ∧ NewE (rowV ts i.toNat) w e w') ∨ (¬ rowOk ts i ∧ ErrV 33 w e w')
def Gath (w : World) (B : Nat) (n : List ByteArray) (x : List Vl) (N E : Value) (wr : World) : Prop := ∃ nA nc eA ec xs, N = .slice nA n.length nc ∧ E = .slice eA x.length ec ∧ wr.ownsRow (w.heap.size + 1) 9 1 N n.length (strs n) ∧
 wr.ownsRow (w.heap.size + 1) 26 4 E x.length (List.flatten xs) ∧ VAll wr B x xs ∧ w.grownBy wr none ∧ wr.heap[w.heap.size]? = some (.cells #[.int .i64 0, .slice none 0 0, .slice none 0 0, .slice none 0 0] 26 (0, 0))
theorem VAll.grown {w w' : World} {B : Nat} {l : List Vl} {xs : List (List Value)} (h : VAll w B l xs) {row : Option Nat} (hg : w.grownBy w' row) (hB : B ≤ w.heap.size) (hr : ∀ g, row = some g → B ≤ g) : VAll w' B l xs :=
 VAll.mk_ h.length fun i h1 h2 => by
  obtain ⟨_, h8⟩ := h.at_ h1
  exact h8.grown hg hB hr
theorem VAll.snoc {w : World} {B : Nat} {v : Vl} {c : List Value} : ∀ (l : List Vl) (xs : List (List Value)), VAll w B l xs → VAt w B v c → VAll w B (l ++ [v]) (xs ++ [c])
 | [], xs, h, k => by
  simp only [VAll] at h
  subst h
  exact ⟨c, [], rfl, k, rfl⟩
 | a :: r, xs, h, k => by
  obtain ⟨d, q, rfl, h1, h2⟩ := h
  exact ⟨d, q ++ [c], rfl, h1, VAll.snoc r q h2 k⟩
theorem Gath.keep {w wr w2 : World} {B : Nat} {n : List ByteArray} {x : List Vl} {N E : Value} (h : Gath w B n x N E wr) (hg : wr.grownBy w2 none) (hB : B ≤ w.heap.size) : Gath w B n x N E w2 := by
 obtain ⟨nA, nc, eA, ec, xs, h1, h2, h3, h4, h5, h6, h7⟩ := h
 exact ⟨nA, nc, eA, ec, xs, h1, h2, h3.kept hg (by cases N.ownBlock <;> simp), h4.kept hg (by cases E.ownBlock <;> simp), h5.grown hg (Nat.le_trans hB h6.size) (by simp), gb_trans h6 hg (.inl rfl), (hg.block _ (blk_lt h7) (by simp)).trans h7⟩
theorem Gath.names {w wr w2 : World} {B : Nat} {n m : List ByteArray} {x : List Vl} {N N2 E : Value} (h : Gath w B n x N E wr) (hB : B ≤ w.heap.size) (ho : w2.ownsRow (w.heap.size + 1) 9 1 N2 (n.length + m.length) (strs n ++ strs m)) (hg : wr.grownBy w2 N.ownBlock) : Gath w B (n ++ m) x N2 E w2 := by
 obtain ⟨nA, nc, eA, ec, xs, h1, h2, h3, h4, h5, h6, h7⟩ := h
 obtain ⟨A, c, rfl, _⟩ := own_slice ho
 have hlt := h3.lt
 rw [← strs_app] at ho
 refine ⟨A, c, eA, ec, xs, by rw [List.length_append], h2, by rw [List.length_append]; exact ho, h4.kept hg (rows_apart h4 h3 (by decide)), h5.grown hg (Nat.le_trans hB h6.size) (fun g e => by have := (hlt g e).1; omega), ?_, ?_⟩
 ·exact gb_trans h6 hg (match hq : N.ownBlock with | none => .inr (.inl rfl) | some g => .inr (.inr ⟨g, rfl, by have := (hlt g hq).1; omega⟩))
 ·exact (hg.block _ (blk_lt h7) (fun e => by have := (hlt _ e.symm).1; omega)).trans h7
end Go.Proofs.YtbmgodmfpoappaaGreat
/- value.row: its walk. -/
namespace Go.Proofs.YtbmgodmfpoappaaGreat
open Go.RowKit
attribute [local go_sem ↓] Go.wp_at_zero Go.wp_at_succ
theorem Gath.parts {w wr : World} {B : Nat} {n : List ByteArray} {x : List Vl} {N E : Value} (h : Gath w B n x N E wr) : ∃ nA nc eA ec xs, N = .slice nA n.length nc ∧ E = .slice eA x.length ec ∧ wr.ownsRow (w.heap.size + 1) 9 1 (.slice nA n.length nc) n.length (strs n) ∧
 wr.ownsRow (w.heap.size + 1) 26 4 (.slice eA x.length ec) x.length (List.flatten xs) ∧ VAll wr B x xs ∧ w.grownBy wr none ∧ wr.heap[w.heap.size]? = some (.cells #[.int .i64 0, .slice none 0 0, .slice none 0 0, .slice none 0 0] 26 (0, 0)) := by
 obtain ⟨nA, nc, eA, ec, xs, rfl, rfl, h⟩ := h
 exact ⟨nA, nc, eA, ec, xs, rfl, rfl, h⟩
theorem V4_one (a : Int) (x y z : Option Addr) (p q r p' q' r' : Nat) : ∀ u ∈ [Value.int .i64 a, .slice x p p', .slice y q q', .slice z r r'], u.oneCell' = true := by
 intro u hu
 simp only [List.mem_cons, List.not_mem_nil, or_false] at hu
 rcases hu with rfl | rfl | rfl | rfl <;> rfl
end Go.Proofs.YtbmgodmfpoappaaGreat
/- value.all over values. -/
namespace Go.Proofs.YtbmgodmfpoappaaGreat
open Go.RowKit
attribute [local go_sem ↓] Go.wp_at_zero Go.wp_at_succ
def isSeq (v : Vl) : Bool := v.t == 0 || (decide (0 < v.t) && (hasN v.t || hasS v.t))
/-! ## all of them: isTable -/
/-! ## all of them: isSequence -/
end Go.Proofs.YtbmgodmfpoappaaGreat
/- value.At. -/
namespace Go.Proofs.YtbmgodmfpoappaaGreat
open Go.RowKit
attribute [local go_sem ↓] Go.wp_at_zero Go.wp_at_succ
theorem NewE.fin {x : Vl} {w wa w1 : World} {g : Nat} {xA : Option Addr} {xc : Nat} {yA : Option Addr} {yc : Nat} {zA : Option Addr} {zc : Nat} {f : List Nat} (h : VOw w1 x [.int .i64 x.t, .slice xA x.n.length xc, .slice yA x.s.length yc, .slice zA x.l.length zc] f) (hn : New wa w1 f) (hg : w.grownBy wa none) (hg1 : wa.grownBy w1 none) (hgs : w.heap.size ≤ g) (hga : g < wa.heap.size) :
  NewE x w (.returned (.tuple #[.agg #[.int .i64 x.t, .slice xA x.n.length xc, .slice yA x.s.length yc, .slice zA x.l.length zc], .int .i64 0])) (put4 w1 g 0 (.int .i64 x.t) (.slice xA x.n.length xc) (.slice yA x.s.length yc) (.slice zA x.l.length zc)) := by
 have s1 := hg1.size
 have s4 := put4_size w1 g 0 (.int .i64 x.t) (.slice xA x.n.length xc) (.slice yA x.s.length yc) (.slice zA x.l.length zc)
 refine ⟨xA, xc, yA, yc, zA, zc, f, rfl, VOw.keep _ _ _ h fun b hb => ?_, (hn.less hg.size).more (by omega), put4_to (gb_trans hg hg1 (.inl rfl)) hgs⟩
 have := hn.2 b hb
 exact (put4_gb w1 g 0 _ _ _ _).block b (by omega) (by intro e; injection e with e; omega)
def AtPost (r : Option Vl) (w : World) (e : Ending) (w' : World) : Prop := match r with
 | some x => NewE x w e w'
 | none => ErrV 33 w e w'
def rowB (ts : List Vl) (i : Int) : Bool := ts.all fun t => t.l.all fun c => decide (0 ≤ i) && decide (i < (c.count : Int))
theorem rowB_iff (ts : List Vl) (i : Int) : rowB ts i = true ↔ rowOk ts i := by
 unfold rowB rowOk
 simp only [List.all_eq_true, Bool.and_eq_true, decide_eq_true_eq]
theorem AtPost.row {ts : List Vl} {i : Int} {w w' : World} {e : Ending} (h : RowPost ts i w e w') : AtPost (if rowB ts i = true then some (rowV ts i.toNat) else none) w e w' := by
 rcases h with ⟨h1, h2⟩ | ⟨h1, h2⟩
 ·rw [if_pos ((rowB_iff ts i).2 h1)]; exact h2
 ·rw [if_neg (fun h => h1 ((rowB_iff ts i).1 h))]; exact h2
end Go.Proofs.YtbmgodmfpoappaaGreat
