/-
  agg.elementOr, closeSum, closeAvg, Close, Do, where what comes is a number or a value that is known.
-/
import Derived.Test.YtgepejnooghjbaaGreatQao
import Derived.Test.YtgepejnooghjbaaGreatQaj

namespace Go.Proofs.YtgepejnooghjbaaGreat
open Go.RowKit
attribute [local go_sem ↓] Go.wp_at_zero Go.wp_at_succ

theorem newT_fin {x : Vl} {w wa w1 : World} {g : Nat} {xA : Option Addr} {xc : Nat} {yA : Option Addr} {yc : Nat} {zA : Option Addr} {zc : Nat} {f : List Nat} (h : VOw w1 x [.int .i64 x.t, .slice xA x.n.length xc, .slice yA x.s.length yc, .slice zA x.l.length zc] f) (hn : New wa w1 f) (hg : w.grownBy wa none) (hg1 : wa.grownBy w1 none) (hgs : w.heap.size ≤ g) (hga : g < wa.heap.size) :
    TupV x w (.returned (.tuple #[.agg #[.int .i64 x.t, .slice xA x.n.length xc, .slice yA x.s.length yc, .slice zA x.l.length zc], .int .i64 0])) (put4 w1 g 0 (.int .i64 x.t) (.slice xA x.n.length xc) (.slice yA x.s.length yc) (.slice zA x.l.length zc)) := by
  have s1 := hg1.size
  have s4 := put4_size w1 g 0 (.int .i64 x.t) (.slice xA x.n.length xc) (.slice yA x.s.length yc) (.slice zA x.l.length zc)
  refine ⟨xA, xc, yA, yc, zA, zc, f, rfl, VOw.keep _ _ _ h fun b hb => ?_, (hn.less hg.size).more (by omega), put4_to (gb_trans hg hg1 (.inl rfl)) hgs⟩
  have := hn.2 b hb
  exact (put4_gb w1 g 0 _ _ _ _).block b (by omega) (by intro e; injection e with e; omega)
set_option maxHeartbeats 4000000 in
set_option maxRecDepth 100000 in
theorem elementOr_some (F : Vl) (t : Int) (w : World) (B : Nat) (fA : Option Addr) (fc : Nat) (gA : Option Addr) (gc : Nat) (hA : Option Addr) (hc : Nat) (hF : F.tot ≤ 500000) (hB : B ≤ w.heap.size) (h : VB w B F fA fc gA gc hA hc) :
    Calls Tryz.prog 58 #[.agg #[.int .i64 F.t, .slice fA F.n.length fc, .slice gA F.s.length gc, .slice hA F.l.length hc], .bool true, .int .i64 t] w (NewV F w) := by
  obtain ⟨wa, hwa⟩ : ∃ wa, wa = (w.alloc (.cells #[.int .i64 F.t, .slice fA F.n.length fc, .slice gA F.s.length gc, .slice hA F.l.length hc] 26)).alloc (.cells #[.int .i64 0, .slice none 0 0, .slice none 0 0, .slice none 0 0] 26) := ⟨_, rfl⟩
  have ha : wa.heap[w.heap.size]? = some (.cells #[.int .i64 F.t, .slice fA F.n.length fc, .slice gA F.s.length gc, .slice hA F.l.length hc] 26 (0, 0)) := by rw [hwa]; exact (Below.heap_alloc _ _ _ (by rw [World.size_alloc]; omega)).trans (heap_alloc_new w _)
  have hz : wa.heap[w.heap.size + 1]? = some (.cells #[.int .i64 0, .slice none 0 0, .slice none 0 0, .slice none 0 0] 26 (0, 0)) := by rw [hwa]; have := heap_alloc_new (w.alloc (.cells #[.int .i64 F.t, .slice fA F.n.length fc, .slice gA F.s.length gc, .slice hA F.l.length hc] 26)) (.cells #[.int .i64 0, .slice none 0 0, .slice none 0 0, .slice none 0 0] 26); rwa [World.size_alloc] at this
  have HBA := hide ha
  have HBZ := hide hz
  have HSZ := hide (show wa.heap.size = w.heap.size + 2 by rw [hwa]; simp)
  have hga : w.grownBy wa none := by rw [hwa]; exact gb_alloc (gb_alloc (gb_refl w none) _) _
  have HG := hide hga
  have HWE := hide hwa
  have HC := hide (fun w2 (hg : w.grownBy w2 none) => vClone_any F w2 B fA fc gA gc hA hc (by omega) (Nat.le_trans hB hg.size) (h.gb hg hB))
  have a0 : wa.cell? ⟨w.heap.size, 0, none⟩ = some (.int .i64 F.t) := by rw [blk_cell ha]; rfl
  have a1 : wa.cell? ⟨w.heap.size, 1, none⟩ = some (.slice fA F.n.length fc) := by rw [blk_cell ha]; rfl
  have a2 : wa.cell? ⟨w.heap.size, 2, none⟩ = some (.slice gA F.s.length gc) := by rw [blk_cell ha]; rfl
  have a3 : wa.cell? ⟨w.heap.size, 3, none⟩ = some (.slice hA F.l.length hc) := by rw [blk_cell ha]; rfl
  clear ha hz hwa hga hF hB h
  go_enter Tryz.func58, Tryz.ntmps58
  go_upto_region 1 with fail
  rw [← HWE.out]
  go_wp2_with (go_at_call 89; refine (HC.out _ HG.out).mono ?_; rintro e w1 ⟨nA, nc, pA, pc, lA, lc, f, rfl, ho1, hn1, hg1⟩; have HO1 := hide ho1; have HN1 := hide hn1; have HG1 := hide hg1; clear ho1 hn1 hg1; have hrr := blk_keep HBZ.out (HG1.out) (by simp); have HRR := hide hrr; have z0 := blk_frozen hrr 0; have z1 := blk_frozen hrr 1; have z2 := blk_frozen hrr 2; have z3 := blk_frozen hrr 3; have y0 : w1.cell? ⟨w.heap.size + 1, 0, none⟩ = some (.int .i64 0) := (by { rw [blk_cell hrr]; rfl }); have y1 : w1.cell? ⟨w.heap.size + 1, 1, none⟩ = some (.slice none 0 0) := (by { rw [blk_cell hrr]; rfl }); have y2 : w1.cell? ⟨w.heap.size + 1, 2, none⟩ = some (.slice none 0 0) := (by { rw [blk_cell hrr]; rfl }); have y3 : w1.cell? ⟨w.heap.size + 1, 3, none⟩ = some (.slice none 0 0) := (by { rw [blk_cell hrr]; rfl }); clear hrr)
  have HFIN := newV_fin HO1.out HN1.out HG.out HG1.out (Nat.le_succ _) (by have := HSZ.out; have := (HG.out).size; omega)
  obtain ⟨m0, m1, m2, m3⟩ := C4.put HRR.out (.int .i64 F.t) (.slice nA F.n.length nc) (.slice pA F.s.length pc) (.slice lA F.l.length lc)
  simp only [put4, Nat.zero_add] at m0 m1 m2 m3
  exact bodyPost_ret (v := .agg #[.int .i64 F.t, .slice nA F.n.length nc, .slice pA F.s.length pc, .slice lA F.l.length lc]) (by simp [results, Tryz.results58, go_sem, m0, m1, m2, m3]) rfl HFIN
set_option maxHeartbeats 4000000 in
set_option maxRecDepth 100000 in
theorem elementOr_none (x0 x1 x2 x3 : Value) (w : World) : Calls Tryz.prog 58 #[.agg #[x0, x1, x2, x3], .bool false, .int .i64 2] w (NewV (.mk (-2) [-9223372036854775808] [] []) w) := by
  obtain ⟨wa, hwa⟩ : ∃ wa, wa = (w.alloc (.cells #[x0, x1, x2, x3] 26)).alloc (.cells #[.int .i64 0, .slice none 0 0, .slice none 0 0, .slice none 0 0] 26) := ⟨_, rfl⟩
  have ha : wa.heap[w.heap.size]? = some (.cells #[x0, x1, x2, x3] 26 (0, 0)) := by rw [hwa]; exact (Below.heap_alloc _ _ _ (by rw [World.size_alloc]; omega)).trans (heap_alloc_new w _)
  have hz : wa.heap[w.heap.size + 1]? = some (.cells #[.int .i64 0, .slice none 0 0, .slice none 0 0, .slice none 0 0] 26 (0, 0)) := by rw [hwa]; have := heap_alloc_new (w.alloc (.cells #[x0, x1, x2, x3] 26)) (.cells #[.int .i64 0, .slice none 0 0, .slice none 0 0, .slice none 0 0] 26); rwa [World.size_alloc] at this
  have HBA := hide ha
  have HBZ := hide hz
  have HSZ := hide (show wa.heap.size = w.heap.size + 2 by rw [hwa]; simp)
  have hga : w.grownBy wa none := by rw [hwa]; exact gb_alloc (gb_alloc (gb_refl w none) _) _
  have HG := hide hga
  have HWE := hide hwa
  have HC := hide (fun w2 => null2_any w2)
  clear ha hz hwa hga
  go_enter Tryz.func58, Tryz.ntmps58
  go_upto_region 1 with fail
  rw [← HWE.out]
  go_wp2_with (go_at_call 90; refine (HC.out _).mono ?_; rintro e w1 ⟨nA, nc, pA, pc, lA, lc, f, he, ho1, hn1, hg1⟩; obtain rfl : e = .returned (.agg #[.int .i64 (-2), .slice nA 1 nc, .slice pA 0 pc, .slice lA 0 lc]) := he; have HO1 := hide ho1; have HN1 := hide hn1; have HG1 := hide hg1; clear ho1 hn1 hg1; have hrr := blk_keep HBZ.out (HG1.out) (by simp); have HRR := hide hrr; have z0 := blk_frozen hrr 0; have z1 := blk_frozen hrr 1; have z2 := blk_frozen hrr 2; have z3 := blk_frozen hrr 3; have y0 : w1.cell? ⟨w.heap.size + 1, 0, none⟩ = some (.int .i64 0) := (by { rw [blk_cell hrr]; rfl }); have y1 : w1.cell? ⟨w.heap.size + 1, 1, none⟩ = some (.slice none 0 0) := (by { rw [blk_cell hrr]; rfl }); have y2 : w1.cell? ⟨w.heap.size + 1, 2, none⟩ = some (.slice none 0 0) := (by { rw [blk_cell hrr]; rfl }); have y3 : w1.cell? ⟨w.heap.size + 1, 3, none⟩ = some (.slice none 0 0) := (by { rw [blk_cell hrr]; rfl }); clear hrr)
  have HFIN := newV_fin (x := .mk (-2) [-9223372036854775808] [] []) HO1.out HN1.out HG.out HG1.out (Nat.le_succ _) (by have := HSZ.out; have := (HG.out).size; omega)
  obtain ⟨m0, m1, m2, m3⟩ := C4.put HRR.out (.int .i64 (-2)) (.slice nA 1 nc) (.slice pA 0 pc) (.slice lA 0 lc)
  simp only [put4, Nat.zero_add] at m0 m1 m2 m3
  exact bodyPost_ret (v := .agg #[.int .i64 (-2), .slice nA 1 nc, .slice pA 0 pc, .slice lA 0 lc]) (by simp [results, Tryz.results58, go_sem, m0, m1, m2, m3]) rfl HFIN
set_option maxHeartbeats 4000000 in
set_option maxRecDepth 100000 in
theorem closeSum_ok (op : Int) (n s sm : Int) (F : Vl) (fA : Option Addr) (fc : Nat) (gA : Option Addr) (gc : Nat) (hA : Option Addr) (hc : Nat) (sA : Option Addr) (sc : Nat) (tA : Option Addr) (tc : Nat) (uA : Option Addr) (uc : Nat) (hk : (-9223372036854775807 ≤ sm ∧ sm ≤ 9223372036854775807)) (hs : Sum64 sm) (w : World) : Calls Tryz.prog 59 #[.agg #[.int .i64 op, .int .i64 2, .int .i64 n, .int .i64 s, .int .i64 (sm / 4294967296), .int .i64 (sm % 4294967296), .int .i64 F.t, .slice fA F.n.length fc, .slice gA F.s.length gc, .slice hA F.l.length hc, .int .i64 0, .slice sA 0 sc, .slice tA 0 tc, .slice uA 0 uc, .int .i64 0]] w (TupV (.mk (-2) [sm] [] []) w) := by
  obtain ⟨wa, hwa⟩ : ∃ wa, wa = (w.alloc (.cells #[.int .i64 op, .int .i64 2, .int .i64 n, .int .i64 s, .int .i64 (sm / 4294967296), .int .i64 (sm % 4294967296), .int .i64 F.t, .slice fA F.n.length fc, .slice gA F.s.length gc, .slice hA F.l.length hc, .int .i64 0, .slice sA 0 sc, .slice tA 0 tc, .slice uA 0 uc, .int .i64 0] 54)).alloc (.cells #[.int .i64 0, .slice none 0 0, .slice none 0 0, .slice none 0 0] 26) := ⟨_, rfl⟩
  have ha : wa.heap[w.heap.size]? = some (.cells #[.int .i64 op, .int .i64 2, .int .i64 n, .int .i64 s, .int .i64 (sm / 4294967296), .int .i64 (sm % 4294967296), .int .i64 F.t, .slice fA F.n.length fc, .slice gA F.s.length gc, .slice hA F.l.length hc, .int .i64 0, .slice sA 0 sc, .slice tA 0 tc, .slice uA 0 uc, .int .i64 0] 54 (0, 0)) := by rw [hwa]; exact (Below.heap_alloc _ _ _ (by rw [World.size_alloc]; omega)).trans (heap_alloc_new w _)
  have hz : wa.heap[w.heap.size + 1]? = some (.cells #[.int .i64 0, .slice none 0 0, .slice none 0 0, .slice none 0 0] 26 (0, 0)) := by rw [hwa]; have := heap_alloc_new (w.alloc (.cells #[.int .i64 op, .int .i64 2, .int .i64 n, .int .i64 s, .int .i64 (sm / 4294967296), .int .i64 (sm % 4294967296), .int .i64 F.t, .slice fA F.n.length fc, .slice gA F.s.length gc, .slice hA F.l.length hc, .int .i64 0, .slice sA 0 sc, .slice tA 0 tc, .slice uA 0 uc, .int .i64 0] 54)) (.cells #[.int .i64 0, .slice none 0 0, .slice none 0 0, .slice none 0 0] 26); rwa [World.size_alloc] at this
  have HBA := hide ha
  have HBZ := hide hz
  have HSZ := hide (show wa.heap.size = w.heap.size + 2 by rw [hwa]; simp)
  have hga : w.grownBy wa none := by rw [hwa]; exact gb_alloc (gb_alloc (gb_refl w none) _) _
  have HG := hide hga
  have HWE := hide hwa
  have HNU := hide (fun w2 => (show Calls Tryz.prog 44 #[.agg #[.int .i64 (sm / 4294967296), .int .i64 (sm % 4294967296)]] w2 fun e w' => e = .returned (.tuple #[.int .i64 sm, .bool true]) ∧ w2.grownBy w' none by
    have h := number_any sm hs w2
    unfold numR at h
    rwa [if_pos hk] at h))
  have a0 : wa.cell? ⟨w.heap.size, 0, none⟩ = some (.int .i64 op) := by rw [blk_cell ha]; rfl
  have a1 : wa.cell? ⟨w.heap.size, 1, none⟩ = some (.int .i64 2) := by rw [blk_cell ha]; rfl
  have a2 : wa.cell? ⟨w.heap.size, 2, none⟩ = some (.int .i64 n) := by rw [blk_cell ha]; rfl
  have a3 : wa.cell? ⟨w.heap.size, 3, none⟩ = some (.int .i64 s) := by rw [blk_cell ha]; rfl
  have a4 : wa.cell? ⟨w.heap.size, 4, none⟩ = some (.int .i64 (sm / 4294967296)) := by rw [blk_cell ha]; rfl
  have a5 : wa.cell? ⟨w.heap.size, 5, none⟩ = some (.int .i64 (sm % 4294967296)) := by rw [blk_cell ha]; rfl
  have a6 : wa.cell? ⟨w.heap.size, 6, none⟩ = some (.int .i64 F.t) := by rw [blk_cell ha]; rfl
  have a7 : wa.cell? ⟨w.heap.size, 7, none⟩ = some (.slice fA F.n.length fc) := by rw [blk_cell ha]; rfl
  have a8 : wa.cell? ⟨w.heap.size, 8, none⟩ = some (.slice gA F.s.length gc) := by rw [blk_cell ha]; rfl
  have a9 : wa.cell? ⟨w.heap.size, 9, none⟩ = some (.slice hA F.l.length hc) := by rw [blk_cell ha]; rfl
  have a10 : wa.cell? ⟨w.heap.size, 10, none⟩ = some (.int .i64 0) := by rw [blk_cell ha]; rfl
  have a11 : wa.cell? ⟨w.heap.size, 11, none⟩ = some (.slice sA 0 sc) := by rw [blk_cell ha]; rfl
  have a12 : wa.cell? ⟨w.heap.size, 12, none⟩ = some (.slice tA 0 tc) := by rw [blk_cell ha]; rfl
  have a13 : wa.cell? ⟨w.heap.size, 13, none⟩ = some (.slice uA 0 uc) := by rw [blk_cell ha]; rfl
  have a14 : wa.cell? ⟨w.heap.size, 14, none⟩ = some (.int .i64 0) := by rw [blk_cell ha]; rfl
  clear ha hz hwa hga hk hs
  go_enter Tryz.func59, Tryz.ntmps59
  go_upto_region 1 with fail
  rw [← HWE.out]
  go_wp2_with (first
    | (go_at_call 44; refine (HNU.out _).mono ?_; rintro e w2 ⟨rfl, hg2⟩; have HG2 := hide hg2; have k1 := cell_gb a1 hg2; clear hg2 a0 a1 a2 a3 a4 a5 a6 a7 a8 a9 a10 a11 a12 a13 a14)
    | (go_at_call 45; refine (summed_any 2 _).mono ?_; rintro e w3 ⟨rfl, rfl⟩)
    | (go_at_call 57; refine (atomI_any sm _).mono ?_; rintro e w1 ⟨nA, nc, pA, pc, lA, lc, f, he, ho1, hn1, hg1⟩; obtain rfl : e = .returned (.agg #[.int .i64 (-2), .slice nA 1 nc, .slice pA 0 pc, .slice lA 0 lc]) := he; have HO1 := hide ho1; have HN1 := hide hn1; have HG1 := hide hg1; clear ho1 hn1 hg1; have hrr := blk_keep HBZ.out (gb_trans HG2.out HG1.out (.inl rfl)) (by simp); have HRR := hide hrr; have z0 := blk_frozen hrr 0; have z1 := blk_frozen hrr 1; have z2 := blk_frozen hrr 2; have z3 := blk_frozen hrr 3; have y0 : w1.cell? ⟨w.heap.size + 1, 0, none⟩ = some (.int .i64 0) := (by { rw [blk_cell hrr]; rfl }); have y1 : w1.cell? ⟨w.heap.size + 1, 1, none⟩ = some (.slice none 0 0) := (by { rw [blk_cell hrr]; rfl }); have y2 : w1.cell? ⟨w.heap.size + 1, 2, none⟩ = some (.slice none 0 0) := (by { rw [blk_cell hrr]; rfl }); have y3 : w1.cell? ⟨w.heap.size + 1, 3, none⟩ = some (.slice none 0 0) := (by { rw [blk_cell hrr]; rfl }); clear hrr))
  have HFIN := newT_fin (x := .mk (-2) [sm] [] []) HO1.out HN1.out (gb_trans HG.out HG2.out (.inl rfl)) HG1.out (Nat.le_succ _) (by have := HSZ.out; have := ((gb_trans HG.out HG2.out (.inl rfl))).size; have := HG2.out.size; omega)
  obtain ⟨m0, m1, m2, m3⟩ := C4.put HRR.out (.int .i64 (-2)) (.slice nA 1 nc) (.slice pA 0 pc) (.slice lA 0 lc)
  simp only [put4, Nat.zero_add] at m0 m1 m2 m3
  exact bodyPost_ret (v := .tuple #[.agg #[.int .i64 (-2), .slice nA 1 nc, .slice pA 0 pc, .slice lA 0 lc], .int .i64 0]) (by simp [results, Tryz.results59, go_sem, m0, m1, m2, m3]) rfl HFIN
set_option maxHeartbeats 4000000 in
set_option maxRecDepth 100000 in
theorem closeSum_over (op : Int) (n s sm : Int) (F : Vl) (fA : Option Addr) (fc : Nat) (gA : Option Addr) (gc : Nat) (hA : Option Addr) (hc : Nat) (sA : Option Addr) (sc : Nat) (tA : Option Addr) (tc : Nat) (uA : Option Addr) (uc : Nat) (hk : ¬ (-9223372036854775807 ≤ sm ∧ sm ≤ 9223372036854775807)) (hs : Sum64 sm) (w : World) : Calls Tryz.prog 59 #[.agg #[.int .i64 op, .int .i64 2, .int .i64 n, .int .i64 s, .int .i64 (sm / 4294967296), .int .i64 (sm % 4294967296), .int .i64 F.t, .slice fA F.n.length fc, .slice gA F.s.length gc, .slice hA F.l.length hc, .int .i64 0, .slice sA 0 sc, .slice tA 0 tc, .slice uA 0 uc, .int .i64 0]] w fun e w' => e = .returned (.tuple #[.agg #[.int .i64 0, .slice none 0 0, .slice none 0 0, .slice none 0 0], .int .i64 70]) ∧ w.grownBy w' none := by
  obtain ⟨wa, hwa⟩ : ∃ wa, wa = (w.alloc (.cells #[.int .i64 op, .int .i64 2, .int .i64 n, .int .i64 s, .int .i64 (sm / 4294967296), .int .i64 (sm % 4294967296), .int .i64 F.t, .slice fA F.n.length fc, .slice gA F.s.length gc, .slice hA F.l.length hc, .int .i64 0, .slice sA 0 sc, .slice tA 0 tc, .slice uA 0 uc, .int .i64 0] 54)).alloc (.cells #[.int .i64 0, .slice none 0 0, .slice none 0 0, .slice none 0 0] 26) := ⟨_, rfl⟩
  have ha : wa.heap[w.heap.size]? = some (.cells #[.int .i64 op, .int .i64 2, .int .i64 n, .int .i64 s, .int .i64 (sm / 4294967296), .int .i64 (sm % 4294967296), .int .i64 F.t, .slice fA F.n.length fc, .slice gA F.s.length gc, .slice hA F.l.length hc, .int .i64 0, .slice sA 0 sc, .slice tA 0 tc, .slice uA 0 uc, .int .i64 0] 54 (0, 0)) := by rw [hwa]; exact (Below.heap_alloc _ _ _ (by rw [World.size_alloc]; omega)).trans (heap_alloc_new w _)
  have hz : wa.heap[w.heap.size + 1]? = some (.cells #[.int .i64 0, .slice none 0 0, .slice none 0 0, .slice none 0 0] 26 (0, 0)) := by rw [hwa]; have := heap_alloc_new (w.alloc (.cells #[.int .i64 op, .int .i64 2, .int .i64 n, .int .i64 s, .int .i64 (sm / 4294967296), .int .i64 (sm % 4294967296), .int .i64 F.t, .slice fA F.n.length fc, .slice gA F.s.length gc, .slice hA F.l.length hc, .int .i64 0, .slice sA 0 sc, .slice tA 0 tc, .slice uA 0 uc, .int .i64 0] 54)) (.cells #[.int .i64 0, .slice none 0 0, .slice none 0 0, .slice none 0 0] 26); rwa [World.size_alloc] at this
  have HBA := hide ha
  have HBZ := hide hz
  have HSZ := hide (show wa.heap.size = w.heap.size + 2 by rw [hwa]; simp)
  have hga : w.grownBy wa none := by rw [hwa]; exact gb_alloc (gb_alloc (gb_refl w none) _) _
  have HG := hide hga
  have HWE := hide hwa
  have HNU := hide (fun w2 => (show Calls Tryz.prog 44 #[.agg #[.int .i64 (sm / 4294967296), .int .i64 (sm % 4294967296)]] w2 fun e w' => e = .returned (.tuple #[.int .i64 0, .bool false]) ∧ w2.grownBy w' none by
    have h := number_any sm hs w2
    unfold numR at h
    rwa [if_neg hk] at h))
  have a0 : wa.cell? ⟨w.heap.size, 0, none⟩ = some (.int .i64 op) := by rw [blk_cell ha]; rfl
  have a1 : wa.cell? ⟨w.heap.size, 1, none⟩ = some (.int .i64 2) := by rw [blk_cell ha]; rfl
  have a2 : wa.cell? ⟨w.heap.size, 2, none⟩ = some (.int .i64 n) := by rw [blk_cell ha]; rfl
  have a3 : wa.cell? ⟨w.heap.size, 3, none⟩ = some (.int .i64 s) := by rw [blk_cell ha]; rfl
  have a4 : wa.cell? ⟨w.heap.size, 4, none⟩ = some (.int .i64 (sm / 4294967296)) := by rw [blk_cell ha]; rfl
  have a5 : wa.cell? ⟨w.heap.size, 5, none⟩ = some (.int .i64 (sm % 4294967296)) := by rw [blk_cell ha]; rfl
  have a6 : wa.cell? ⟨w.heap.size, 6, none⟩ = some (.int .i64 F.t) := by rw [blk_cell ha]; rfl
  have a7 : wa.cell? ⟨w.heap.size, 7, none⟩ = some (.slice fA F.n.length fc) := by rw [blk_cell ha]; rfl
  have a8 : wa.cell? ⟨w.heap.size, 8, none⟩ = some (.slice gA F.s.length gc) := by rw [blk_cell ha]; rfl
  have a9 : wa.cell? ⟨w.heap.size, 9, none⟩ = some (.slice hA F.l.length hc) := by rw [blk_cell ha]; rfl
  have a10 : wa.cell? ⟨w.heap.size, 10, none⟩ = some (.int .i64 0) := by rw [blk_cell ha]; rfl
  have a11 : wa.cell? ⟨w.heap.size, 11, none⟩ = some (.slice sA 0 sc) := by rw [blk_cell ha]; rfl
  have a12 : wa.cell? ⟨w.heap.size, 12, none⟩ = some (.slice tA 0 tc) := by rw [blk_cell ha]; rfl
  have a13 : wa.cell? ⟨w.heap.size, 13, none⟩ = some (.slice uA 0 uc) := by rw [blk_cell ha]; rfl
  have a14 : wa.cell? ⟨w.heap.size, 14, none⟩ = some (.int .i64 0) := by rw [blk_cell ha]; rfl
  clear ha hz hwa hga hk hs
  go_enter Tryz.func59, Tryz.ntmps59
  go_upto_region 1 with fail
  rw [← HWE.out]
  go_wp2_with (go_at_call 44; refine (HNU.out _).mono ?_; rintro e w2 ⟨rfl, hg2⟩; have HG2 := hide hg2; have k1 := cell_gb a1 hg2; clear hg2 a0 a1 a2 a3 a4 a5 a6 a7 a8 a9 a10 a11 a12 a13 a14; have hrr := blk_keep HBZ.out (HG2.out) (by simp); have HRR := hide hrr; have z0 := blk_frozen hrr 0; have z1 := blk_frozen hrr 1; have z2 := blk_frozen hrr 2; have z3 := blk_frozen hrr 3; have y0 : w2.cell? ⟨w.heap.size + 1, 0, none⟩ = some (.int .i64 0) := (by { rw [blk_cell hrr]; rfl }); have y1 : w2.cell? ⟨w.heap.size + 1, 1, none⟩ = some (.slice none 0 0) := (by { rw [blk_cell hrr]; rfl }); have y2 : w2.cell? ⟨w.heap.size + 1, 2, none⟩ = some (.slice none 0 0) := (by { rw [blk_cell hrr]; rfl }); have y3 : w2.cell? ⟨w.heap.size + 1, 3, none⟩ = some (.slice none 0 0) := (by { rw [blk_cell hrr]; rfl }); clear hrr)
  obtain ⟨m0, m1, m2, m3⟩ := C4.put HRR.out (.int .i64 0) (.slice none 0 0) (.slice none 0 0) (.slice none 0 0)
  simp only [put4, Nat.zero_add] at m0 m1 m2 m3
  exact bodyPost_ret (v := .tuple #[.agg #[.int .i64 0, .slice none 0 0, .slice none 0 0, .slice none 0 0], .int .i64 70]) (by simp [results, Tryz.results59, go_sem, m0, m1, m2, m3]) rfl ⟨rfl, put_four_gb (gb_trans HG.out HG2.out (.inl rfl)) (Nat.le_succ _) _ _ _ _⟩
set_option maxHeartbeats 4000000 in
set_option maxRecDepth 100000 in
theorem closeAvg_none (op : Int) (n s sm : Int) (F : Vl) (fA : Option Addr) (fc : Nat) (gA : Option Addr) (gc : Nat) (hA : Option Addr) (hc : Nat) (sA : Option Addr) (sc : Nat) (tA : Option Addr) (tc : Nat) (uA : Option Addr) (uc : Nat) (hs : s = 0) (w : World) : Calls Tryz.prog 60 #[.agg #[.int .i64 op, .int .i64 2, .int .i64 n, .int .i64 s, .int .i64 (sm / 4294967296), .int .i64 (sm % 4294967296), .int .i64 F.t, .slice fA F.n.length fc, .slice gA F.s.length gc, .slice hA F.l.length hc, .int .i64 0, .slice sA 0 sc, .slice tA 0 tc, .slice uA 0 uc, .int .i64 0]] w (NewV (.mk (-2) [-9223372036854775808] [] []) w) := by
  subst hs
  obtain ⟨wa, hwa⟩ : ∃ wa, wa = (w.alloc (.cells #[.int .i64 op, .int .i64 2, .int .i64 n, .int .i64 0, .int .i64 (sm / 4294967296), .int .i64 (sm % 4294967296), .int .i64 F.t, .slice fA F.n.length fc, .slice gA F.s.length gc, .slice hA F.l.length hc, .int .i64 0, .slice sA 0 sc, .slice tA 0 tc, .slice uA 0 uc, .int .i64 0] 54)).alloc (.cells #[.int .i64 0, .slice none 0 0, .slice none 0 0, .slice none 0 0] 26) := ⟨_, rfl⟩
  have ha : wa.heap[w.heap.size]? = some (.cells #[.int .i64 op, .int .i64 2, .int .i64 n, .int .i64 0, .int .i64 (sm / 4294967296), .int .i64 (sm % 4294967296), .int .i64 F.t, .slice fA F.n.length fc, .slice gA F.s.length gc, .slice hA F.l.length hc, .int .i64 0, .slice sA 0 sc, .slice tA 0 tc, .slice uA 0 uc, .int .i64 0] 54 (0, 0)) := by rw [hwa]; exact (Below.heap_alloc _ _ _ (by rw [World.size_alloc]; omega)).trans (heap_alloc_new w _)
  have hz : wa.heap[w.heap.size + 1]? = some (.cells #[.int .i64 0, .slice none 0 0, .slice none 0 0, .slice none 0 0] 26 (0, 0)) := by rw [hwa]; have := heap_alloc_new (w.alloc (.cells #[.int .i64 op, .int .i64 2, .int .i64 n, .int .i64 0, .int .i64 (sm / 4294967296), .int .i64 (sm % 4294967296), .int .i64 F.t, .slice fA F.n.length fc, .slice gA F.s.length gc, .slice hA F.l.length hc, .int .i64 0, .slice sA 0 sc, .slice tA 0 tc, .slice uA 0 uc, .int .i64 0] 54)) (.cells #[.int .i64 0, .slice none 0 0, .slice none 0 0, .slice none 0 0] 26); rwa [World.size_alloc] at this
  have HBA := hide ha
  have HBZ := hide hz
  have HSZ := hide (show wa.heap.size = w.heap.size + 2 by rw [hwa]; simp)
  have hga : w.grownBy wa none := by rw [hwa]; exact gb_alloc (gb_alloc (gb_refl w none) _) _
  have HG := hide hga
  have HWE := hide hwa
  have HC := hide (fun w2 => null2_any w2)
  have a0 : wa.cell? ⟨w.heap.size, 0, none⟩ = some (.int .i64 op) := by rw [blk_cell ha]; rfl
  have a1 : wa.cell? ⟨w.heap.size, 1, none⟩ = some (.int .i64 2) := by rw [blk_cell ha]; rfl
  have a2 : wa.cell? ⟨w.heap.size, 2, none⟩ = some (.int .i64 n) := by rw [blk_cell ha]; rfl
  have a3 : wa.cell? ⟨w.heap.size, 3, none⟩ = some (.int .i64 0) := by rw [blk_cell ha]; rfl
  have a4 : wa.cell? ⟨w.heap.size, 4, none⟩ = some (.int .i64 (sm / 4294967296)) := by rw [blk_cell ha]; rfl
  have a5 : wa.cell? ⟨w.heap.size, 5, none⟩ = some (.int .i64 (sm % 4294967296)) := by rw [blk_cell ha]; rfl
  have a6 : wa.cell? ⟨w.heap.size, 6, none⟩ = some (.int .i64 F.t) := by rw [blk_cell ha]; rfl
  have a7 : wa.cell? ⟨w.heap.size, 7, none⟩ = some (.slice fA F.n.length fc) := by rw [blk_cell ha]; rfl
  have a8 : wa.cell? ⟨w.heap.size, 8, none⟩ = some (.slice gA F.s.length gc) := by rw [blk_cell ha]; rfl
  have a9 : wa.cell? ⟨w.heap.size, 9, none⟩ = some (.slice hA F.l.length hc) := by rw [blk_cell ha]; rfl
  have a10 : wa.cell? ⟨w.heap.size, 10, none⟩ = some (.int .i64 0) := by rw [blk_cell ha]; rfl
  have a11 : wa.cell? ⟨w.heap.size, 11, none⟩ = some (.slice sA 0 sc) := by rw [blk_cell ha]; rfl
  have a12 : wa.cell? ⟨w.heap.size, 12, none⟩ = some (.slice tA 0 tc) := by rw [blk_cell ha]; rfl
  have a13 : wa.cell? ⟨w.heap.size, 13, none⟩ = some (.slice uA 0 uc) := by rw [blk_cell ha]; rfl
  have a14 : wa.cell? ⟨w.heap.size, 14, none⟩ = some (.int .i64 0) := by rw [blk_cell ha]; rfl
  clear ha hz hwa hga
  go_enter Tryz.func60, Tryz.ntmps60
  go_upto_region 1 with fail
  rw [← HWE.out]
  go_wp2_with (first
    | (go_at_call 45; refine (summed_any 2 _).mono ?_; rintro e w3 ⟨rfl, rfl⟩)
    | (go_at_call 90; refine (HC.out _).mono ?_; rintro e w1 ⟨nA, nc, pA, pc, lA, lc, f, he, ho1, hn1, hg1⟩; obtain rfl : e = .returned (.agg #[.int .i64 (-2), .slice nA 1 nc, .slice pA 0 pc, .slice lA 0 lc]) := he; have HO1 := hide ho1; have HN1 := hide hn1; have HG1 := hide hg1; clear ho1 hn1 hg1; have hrr := blk_keep HBZ.out (HG1.out) (by simp); have HRR := hide hrr; have z0 := blk_frozen hrr 0; have z1 := blk_frozen hrr 1; have z2 := blk_frozen hrr 2; have z3 := blk_frozen hrr 3; have y0 : w1.cell? ⟨w.heap.size + 1, 0, none⟩ = some (.int .i64 0) := (by { rw [blk_cell hrr]; rfl }); have y1 : w1.cell? ⟨w.heap.size + 1, 1, none⟩ = some (.slice none 0 0) := (by { rw [blk_cell hrr]; rfl }); have y2 : w1.cell? ⟨w.heap.size + 1, 2, none⟩ = some (.slice none 0 0) := (by { rw [blk_cell hrr]; rfl }); have y3 : w1.cell? ⟨w.heap.size + 1, 3, none⟩ = some (.slice none 0 0) := (by { rw [blk_cell hrr]; rfl }); clear hrr))
  have HFIN := newV_fin (x := .mk (-2) [-9223372036854775808] [] []) HO1.out HN1.out HG.out HG1.out (Nat.le_succ _) (by have := HSZ.out; have := (HG.out).size; omega)
  obtain ⟨m0, m1, m2, m3⟩ := C4.put HRR.out (.int .i64 (-2)) (.slice nA 1 nc) (.slice pA 0 pc) (.slice lA 0 lc)
  simp only [put4, Nat.zero_add] at m0 m1 m2 m3
  exact bodyPost_ret (v := .agg #[.int .i64 (-2), .slice nA 1 nc, .slice pA 0 pc, .slice lA 0 lc]) (by simp [results, Tryz.results60, go_sem, m0, m1, m2, m3]) rfl HFIN
set_option maxHeartbeats 4000000 in
set_option maxRecDepth 100000 in
theorem closeAvg_some (op : Int) (n s sm : Int) (F : Vl) (fA : Option Addr) (fc : Nat) (gA : Option Addr) (gc : Nat) (hA : Option Addr) (hc : Nat) (sA : Option Addr) (sc : Nat) (tA : Option Addr) (tc : Nat) (uA : Option Addr) (uc : Nat) (hs : 0 < s) (q : Int) (hq : ∀ w2, Calls Tryz.prog 91 #[.agg #[.int .i64 (sm / 4294967296), .int .i64 (sm % 4294967296)], .int .i64 s] w2 fun e w' => e = .returned (.int .i64 q) ∧ w2.grownBy w' none) (w : World) : Calls Tryz.prog 60 #[.agg #[.int .i64 op, .int .i64 2, .int .i64 n, .int .i64 s, .int .i64 (sm / 4294967296), .int .i64 (sm % 4294967296), .int .i64 F.t, .slice fA F.n.length fc, .slice gA F.s.length gc, .slice hA F.l.length hc, .int .i64 0, .slice sA 0 sc, .slice tA 0 tc, .slice uA 0 uc, .int .i64 0]] w (NewV (.mk (-2) [q] [] []) w) := by
  obtain ⟨wa, hwa⟩ : ∃ wa, wa = (w.alloc (.cells #[.int .i64 op, .int .i64 2, .int .i64 n, .int .i64 s, .int .i64 (sm / 4294967296), .int .i64 (sm % 4294967296), .int .i64 F.t, .slice fA F.n.length fc, .slice gA F.s.length gc, .slice hA F.l.length hc, .int .i64 0, .slice sA 0 sc, .slice tA 0 tc, .slice uA 0 uc, .int .i64 0] 54)).alloc (.cells #[.int .i64 0, .slice none 0 0, .slice none 0 0, .slice none 0 0] 26) := ⟨_, rfl⟩
  have ha : wa.heap[w.heap.size]? = some (.cells #[.int .i64 op, .int .i64 2, .int .i64 n, .int .i64 s, .int .i64 (sm / 4294967296), .int .i64 (sm % 4294967296), .int .i64 F.t, .slice fA F.n.length fc, .slice gA F.s.length gc, .slice hA F.l.length hc, .int .i64 0, .slice sA 0 sc, .slice tA 0 tc, .slice uA 0 uc, .int .i64 0] 54 (0, 0)) := by rw [hwa]; exact (Below.heap_alloc _ _ _ (by rw [World.size_alloc]; omega)).trans (heap_alloc_new w _)
  have hz : wa.heap[w.heap.size + 1]? = some (.cells #[.int .i64 0, .slice none 0 0, .slice none 0 0, .slice none 0 0] 26 (0, 0)) := by rw [hwa]; have := heap_alloc_new (w.alloc (.cells #[.int .i64 op, .int .i64 2, .int .i64 n, .int .i64 s, .int .i64 (sm / 4294967296), .int .i64 (sm % 4294967296), .int .i64 F.t, .slice fA F.n.length fc, .slice gA F.s.length gc, .slice hA F.l.length hc, .int .i64 0, .slice sA 0 sc, .slice tA 0 tc, .slice uA 0 uc, .int .i64 0] 54)) (.cells #[.int .i64 0, .slice none 0 0, .slice none 0 0, .slice none 0 0] 26); rwa [World.size_alloc] at this
  have HBA := hide ha
  have HBZ := hide hz
  have HSZ := hide (show wa.heap.size = w.heap.size + 2 by rw [hwa]; simp)
  have hga : w.grownBy wa none := by rw [hwa]; exact gb_alloc (gb_alloc (gb_refl w none) _) _
  have HG := hide hga
  have HWE := hide hwa
  have HOV := hide hq
  have h0 : ¬ s ≤ 0 := by omega
  have a0 : wa.cell? ⟨w.heap.size, 0, none⟩ = some (.int .i64 op) := by rw [blk_cell ha]; rfl
  have a1 : wa.cell? ⟨w.heap.size, 1, none⟩ = some (.int .i64 2) := by rw [blk_cell ha]; rfl
  have a2 : wa.cell? ⟨w.heap.size, 2, none⟩ = some (.int .i64 n) := by rw [blk_cell ha]; rfl
  have a3 : wa.cell? ⟨w.heap.size, 3, none⟩ = some (.int .i64 s) := by rw [blk_cell ha]; rfl
  have a4 : wa.cell? ⟨w.heap.size, 4, none⟩ = some (.int .i64 (sm / 4294967296)) := by rw [blk_cell ha]; rfl
  have a5 : wa.cell? ⟨w.heap.size, 5, none⟩ = some (.int .i64 (sm % 4294967296)) := by rw [blk_cell ha]; rfl
  have a6 : wa.cell? ⟨w.heap.size, 6, none⟩ = some (.int .i64 F.t) := by rw [blk_cell ha]; rfl
  have a7 : wa.cell? ⟨w.heap.size, 7, none⟩ = some (.slice fA F.n.length fc) := by rw [blk_cell ha]; rfl
  have a8 : wa.cell? ⟨w.heap.size, 8, none⟩ = some (.slice gA F.s.length gc) := by rw [blk_cell ha]; rfl
  have a9 : wa.cell? ⟨w.heap.size, 9, none⟩ = some (.slice hA F.l.length hc) := by rw [blk_cell ha]; rfl
  have a10 : wa.cell? ⟨w.heap.size, 10, none⟩ = some (.int .i64 0) := by rw [blk_cell ha]; rfl
  have a11 : wa.cell? ⟨w.heap.size, 11, none⟩ = some (.slice sA 0 sc) := by rw [blk_cell ha]; rfl
  have a12 : wa.cell? ⟨w.heap.size, 12, none⟩ = some (.slice tA 0 tc) := by rw [blk_cell ha]; rfl
  have a13 : wa.cell? ⟨w.heap.size, 13, none⟩ = some (.slice uA 0 uc) := by rw [blk_cell ha]; rfl
  have a14 : wa.cell? ⟨w.heap.size, 14, none⟩ = some (.int .i64 0) := by rw [blk_cell ha]; rfl
  clear ha hz hwa hga hq hs
  go_enter Tryz.func60, Tryz.ntmps60
  go_upto_region 1 with fail
  rw [← HWE.out]
  go_upto_region 3 with fail
  refine wp_region_facts' 12 (by kernel_rfl) (by kernel_rfl) ?_
  intro A O W L HA HO HW HL
  simp only [List.take_succ_cons, List.take_zero]
  have HS := hide (show A.tmps.size = 22 by rw [HA.out]; rfl)
  have HGW := hide (show wa.grownBy W none by rw [HW.out]; exact gb_drew (gb_refl wa none))
  have A1 := hide (show A.eval (.tmp 1) = .pointer (some ⟨w.heap.size, 0, none⟩) by rw [HA.out]; rfl)
  -- slot 10
  refine wpFacts_lit (.pointer (some ⟨w.heap.size, 1, none⟩)) rfl ?_ ?_
  · intro a wq hw hl
    have e1 : a.tmps[1]?.getD undef = .pointer (some ⟨w.heap.size, 0, none⟩) := (hl 1 (by first | (simp [Op.operands]; done) | simp [Op.operands, Call.operands]) (by rw [HS.out]; decide)).trans A1.out
    clear hl
    go_simp
  -- slot 11
  refine wpFacts_lit (.int .i64 2) rfl ?_ ?_
  · intro a wq hw hl
    have e10 : a.tmps[10]?.getD undef = .pointer (some ⟨w.heap.size, 1, none⟩) := hl 10 (by first | (simp [Op.operands]; done) | simp [Op.operands, Call.operands]) (by rw [HS.out]; decide)
    have hbA := blk_keep HBA.out (gb_trans HGW.out hw (.inl rfl)) (by simp)
    have c0 : wq.cell? ⟨w.heap.size, 1, none⟩ = some (.int .i64 2) := by rw [blk_cell hbA]; rfl
    clear hbA
    clear hl
    go_simp
  -- slot 12
  refine wpFacts_step (fun vq _ => vq = .int .i64 2) rfl (Lit.up _) ?_ ?_
  · intro a wq hw hl
    have e11 : a.tmps[11]?.getD undef = .int .i64 2 := hl 11 (by first | (simp [Op.operands]; done) | simp [Op.operands, Call.operands]) (by rw [HS.out]; decide)
    clear hl
    go_simp
    exact gUpon_same (summed_any 2 _)
  -- slot 13
  refine wpFacts_lit (.pointer (some ⟨w.heap.size, 4, none⟩)) rfl ?_ ?_
  · intro a wq hw hl
    have e1 : a.tmps[1]?.getD undef = .pointer (some ⟨w.heap.size, 0, none⟩) := (hl 1 (by first | (simp [Op.operands]; done) | simp [Op.operands, Call.operands]) (by rw [HS.out]; decide)).trans A1.out
    clear hl
    go_simp
  -- slot 14
  refine wpFacts_lit (.int .i64 (sm / 4294967296)) rfl ?_ ?_
  · intro a wq hw hl
    have e13 : a.tmps[13]?.getD undef = .pointer (some ⟨w.heap.size, 4, none⟩) := hl 13 (by first | (simp [Op.operands]; done) | simp [Op.operands, Call.operands]) (by rw [HS.out]; decide)
    have hbA := blk_keep HBA.out (gb_trans HGW.out hw (.inl rfl)) (by simp)
    have c0 : wq.cell? ⟨w.heap.size, 4, none⟩ = some (.int .i64 (sm / 4294967296)) := by rw [blk_cell hbA]; rfl
    clear hbA
    clear hl
    go_simp
  -- slot 15
  refine wpFacts_lit (.pointer (some ⟨w.heap.size, 5, none⟩)) rfl ?_ ?_
  · intro a wq hw hl
    have e1 : a.tmps[1]?.getD undef = .pointer (some ⟨w.heap.size, 0, none⟩) := (hl 1 (by first | (simp [Op.operands]; done) | simp [Op.operands, Call.operands]) (by rw [HS.out]; decide)).trans A1.out
    clear hl
    go_simp
  -- slot 16
  refine wpFacts_lit (.int .i64 (sm % 4294967296)) rfl ?_ ?_
  · intro a wq hw hl
    have e15 : a.tmps[15]?.getD undef = .pointer (some ⟨w.heap.size, 5, none⟩) := hl 15 (by first | (simp [Op.operands]; done) | simp [Op.operands, Call.operands]) (by rw [HS.out]; decide)
    have hbA := blk_keep HBA.out (gb_trans HGW.out hw (.inl rfl)) (by simp)
    have c0 : wq.cell? ⟨w.heap.size, 5, none⟩ = some (.int .i64 (sm % 4294967296)) := by rw [blk_cell hbA]; rfl
    clear hbA
    clear hl
    go_simp
  -- slot 17
  refine wpFacts_lit (.agg #[.int .i64 (sm / 4294967296), .int .i64 (sm % 4294967296)]) rfl ?_ ?_
  · intro a wq hw hl
    have e14 : a.tmps[14]?.getD undef = .int .i64 (sm / 4294967296) := hl 14 (by first | (simp [Op.operands]; done) | simp [Op.operands, Call.operands]) (by rw [HS.out]; decide)
    have e16 : a.tmps[16]?.getD undef = .int .i64 (sm % 4294967296) := hl 16 (by first | (simp [Op.operands]; done) | simp [Op.operands, Call.operands]) (by rw [HS.out]; decide)
    clear hl
    go_simp
  -- slot 18
  refine wpFacts_lit (.pointer (some ⟨w.heap.size, 3, none⟩)) rfl ?_ ?_
  · intro a wq hw hl
    have e1 : a.tmps[1]?.getD undef = .pointer (some ⟨w.heap.size, 0, none⟩) := (hl 1 (by first | (simp [Op.operands]; done) | simp [Op.operands, Call.operands]) (by rw [HS.out]; decide)).trans A1.out
    clear hl
    go_simp
  -- slot 19
  refine wpFacts_lit (.int .i64 s) rfl ?_ ?_
  · intro a wq hw hl
    have e18 : a.tmps[18]?.getD undef = .pointer (some ⟨w.heap.size, 3, none⟩) := hl 18 (by first | (simp [Op.operands]; done) | simp [Op.operands, Call.operands]) (by rw [HS.out]; decide)
    have hbA := blk_keep HBA.out (gb_trans HGW.out hw (.inl rfl)) (by simp)
    have c0 : wq.cell? ⟨w.heap.size, 3, none⟩ = some (.int .i64 s) := by rw [blk_cell hbA]; rfl
    clear hbA
    clear hl
    go_simp
  -- slot 20
  refine wpFacts_step (fun vq _ => vq = .int .i64 q) rfl (Lit.up _) ?_ ?_
  · intro a wq hw hl
    have e17 : a.tmps[17]?.getD undef = .agg #[.int .i64 (sm / 4294967296), .int .i64 (sm % 4294967296)] := hl 17 (by first | (simp [Op.operands]; done) | simp [Op.operands, Call.operands]) (by rw [HS.out]; decide)
    have e19 : a.tmps[19]?.getD undef = .int .i64 s := hl 19 (by first | (simp [Op.operands]; done) | simp [Op.operands, Call.operands]) (by rw [HS.out]; decide)
    clear hl
    go_simp
    exact gUpon_lit (HOV.out wq)
  -- slot 21
  refine wpFacts_step (NewF wa.heap.size (.mk (-2) [q] [] [])) rfl (NewF.up _ _) ?_ ?_
  · intro a wq hw hl
    have e12 : a.tmps[12]?.getD undef = .int .i64 2 := hl 12 (by first | (simp [Op.operands]; done) | simp [Op.operands, Call.operands]) (by rw [HS.out]; decide)
    have e20 : a.tmps[20]?.getD undef = .int .i64 q := hl 20 (by first | (simp [Op.operands]; done) | simp [Op.operands, Call.operands]) (by rw [HS.out]; decide)
    clear hl
    go_simp
    refine ⟨gb_refl _ none, (atomI_any q wq).mono fun _ _ h => ?_⟩
    obtain ⟨x9, h1, h2, h3⟩ := NewF.of (base := wa.heap.size) ((gb_trans HGW.out hw (.inl rfl))).size h
    exact ⟨x9, h1, h2, h3⟩
  refine HL.out _ (fun a' wz hc => ?_)
  have h21 : (NewF wa.heap.size (.mk (-2) [q] [] [])) (a'.eval (.tmp 21)) wz := hc.fact 21 (by rw [HS.out]; decide)
  have hgwz := gb_trans HGW.out hc.grown (.inl rfl)
  have hfr := hc.frame [10, 11, 12, 13, 14, 15, 16, 17, 18, 19, 20, 21] (by rw [HO.out]; kernel_rfl)
  rw [hfr]
  clear hfr hc
  rw [HA.out]
  clear HA HO HL HW HS HGW A1
  clear A O W L
  simp only [List.drop_succ_cons, List.drop_zero, List.foldl_cons, List.foldl_nil, Act.put, List.setIfInBounds_toArray, List.set_cons_succ, List.set_cons_zero]
  generalize a'.eval (.tmp 10) = x10
  generalize a'.eval (.tmp 11) = x11
  generalize a'.eval (.tmp 12) = x12
  generalize a'.eval (.tmp 13) = x13
  generalize a'.eval (.tmp 14) = x14
  generalize a'.eval (.tmp 15) = x15
  generalize a'.eval (.tmp 16) = x16
  generalize a'.eval (.tmp 17) = x17
  generalize a'.eval (.tmp 18) = x18
  generalize a'.eval (.tmp 19) = x19
  generalize a'.eval (.tmp 20) = x20
  generalize a'.eval (.tmp 21) = x21 at h21 ⊢
  clear a'
  obtain ⟨nA, nc, pA, pc, lA, lc, f, e21, ho1, hn1, hf1⟩ := h21
  replace e21 : x21 = .agg #[.int .i64 (-2), .slice nA 1 nc, .slice pA 0 pc, .slice lA 0 lc] := e21
  subst e21
  have HO1 := hide ho1
  have HN1 := hide (show New wa wz f from ⟨hn1, fun b hb => ⟨hf1 b hb, VOw.lt _ _ _ ho1 b hb⟩⟩)
  have HG1 := hide hgwz
  have hrr := blk_keep HBZ.out HG1.out (by simp)
  have HRR := hide hrr
  have z0 := blk_frozen hrr 0
  have z1 := blk_frozen hrr 1
  have z2 := blk_frozen hrr 2
  have z3 := blk_frozen hrr 3
  have y0 : wz.cell? ⟨w.heap.size + 1, 0, none⟩ = some (.int .i64 0) := (by { rw [blk_cell hrr]; rfl })
  have y1 : wz.cell? ⟨w.heap.size + 1, 1, none⟩ = some (.slice none 0 0) := (by { rw [blk_cell hrr]; rfl })
  have y2 : wz.cell? ⟨w.heap.size + 1, 2, none⟩ = some (.slice none 0 0) := (by { rw [blk_cell hrr]; rfl })
  have y3 : wz.cell? ⟨w.heap.size + 1, 3, none⟩ = some (.slice none 0 0) := (by { rw [blk_cell hrr]; rfl })
  clear hrr
  clear ho1 hn1 hf1 hgwz a0 a1 a2 a3 a4 a5 a6 a7 a8 a9 a10 a11 a12 a13 a14
  go_wp2_with fail
  have HFIN := newV_fin (x := .mk (-2) [q] [] []) HO1.out HN1.out HG.out HG1.out (Nat.le_succ _) (by have := HSZ.out; have := (HG.out).size; omega)
  obtain ⟨m0, m1, m2, m3⟩ := C4.put HRR.out (.int .i64 (-2)) (.slice nA 1 nc) (.slice pA 0 pc) (.slice lA 0 lc)
  simp only [put4, Nat.zero_add] at m0 m1 m2 m3
  exact bodyPost_ret (v := .agg #[.int .i64 (-2), .slice nA 1 nc, .slice pA 0 pc, .slice lA 0 lc]) (by simp [results, Tryz.results60, go_sem, m0, m1, m2, m3]) rfl HFIN
end Go.Proofs.YtgepejnooghjbaaGreat
