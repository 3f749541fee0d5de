/-
  Small makers: symbols, atoms.
-/
import Derived.Test.YtnilcnobngcbgaaGreatVk
namespace Go.Proofs.YtnilcnobngcbgaaGreat
open Go.RowKit
attribute [local go_sem ↓] Go.wp_at_zero Go.wp_at_succ

theorem Own.lit {w : World} {b : Nat} {cs : Array Value} {t : TypeId} (h : w.heap[b]? = some (.cells cs t (0, 0))) (h0 : cs.toList ≠ []) : Own w [b] (some ⟨b, 0, none⟩) cs.toList :=
  .inr ⟨b, t, cs, rfl, rfl, h, List.take_length, h0⟩
theorem alloc2_blk (w : World) (o1 o2 : Obj) : ((w.alloc o1).alloc o2).heap[w.heap.size + 1]? = some o2 := by
  have h := heap_alloc_new (w.alloc o1) o2
  have e : (w.alloc o1).heap.size = w.heap.size + 1 := by simp
  rwa [e] at h
theorem new2 (w : World) (o1 o2 : Obj) : New w ((w.alloc o1).alloc o2) [w.heap.size + 1] := ⟨by simp, fun b hb => by obtain rfl := List.mem_singleton.1 hb; simp⟩
theorem newV_atom (w : World) (t n : Int) (o : Obj) : NewV (.mk t [n] [] []) w (.returned (.agg #[.int .i64 t, .slice (some ⟨w.heap.size + 1, 0, none⟩) 1 1, .slice none 0 0, .slice none 0 0])) ((w.alloc o).alloc (.cells #[.int .i64 n] 2)) :=
  ⟨some ⟨w.heap.size + 1, 0, none⟩, 1, none, 0, none, 0, [w.heap.size + 1], rfl,
    VOw.mk_ (v := .mk t [n] [] []) (fn := [w.heap.size + 1]) (fs := []) (fl := []) (fp := []) (xs := []) ⟨Nat.le_refl _, Nat.le_refl _, Nat.le_refl _⟩ (Own.lit (alloc2_blk w o _) (by simp)) (.inl ⟨rfl, rfl⟩) (.inl ⟨rfl, rfl⟩) ⟨rfl, rfl⟩,
    new2 w o _, gb_alloc (gb_alloc (gb_refl w none) _) _⟩
theorem newV_symbol (w : World) (t : Int) (n : ByteArray) (o : Obj) : NewV (.mk t [] [n] []) w (.returned (.agg #[.int .i64 t, .slice none 0 0, .slice (some ⟨w.heap.size + 1, 0, none⟩) 1 1, .slice none 0 0])) ((w.alloc o).alloc (.cells #[.string n] 9)) :=
  ⟨none, 0, some ⟨w.heap.size + 1, 0, none⟩, 1, none, 0, [w.heap.size + 1], rfl,
    VOw.mk_ (v := .mk t [] [n] []) (fn := []) (fs := [w.heap.size + 1]) (fl := []) (fp := []) (xs := []) ⟨Nat.le_refl _, Nat.le_refl _, Nat.le_refl _⟩ (.inl ⟨rfl, rfl⟩) (Own.lit (alloc2_blk w o _) (by simp)) (.inl ⟨rfl, rfl⟩) ⟨rfl, rfl⟩,
    new2 w o _, gb_alloc (gb_alloc (gb_refl w none) _) _⟩

theorem zero_blk (w : World) : (w.alloc (.cells #[.int .i64 0, .slice none 0 0, .slice none 0 0, .slice none 0 0] 26)).heap[w.heap.size]? = some (.cells #[.int .i64 0, .slice none 0 0, .slice none 0 0, .slice none 0 0] 26 (0, 0)) := heap_alloc_new w _

set_option maxHeartbeats 4000000 in
set_option maxRecDepth 100000 in
theorem sym_any (A : Option Addr) (c B : Nat) (l : List ByteArray) (w : World) (h : Rd w B A (strs l)) (hB : B ≤ w.heap.size) (hl : l.length ≤ 1100000) :
    Calls Tryz.prog 142 #[.slice A l.length c] w (NewV (.mk 3 [] l []) w) := by
  obtain ⟨wa, hwa⟩ : ∃ wa, wa = w.alloc (.cells #[.int .i64 0, .slice none 0 0, .slice none 0 0, .slice none 0 0] 26) := ⟨_, rfl⟩
  have hg : w.grownBy wa none := by rw [hwa]; exact gb_alloc (gb_refl w none) _
  have hr : wa.heap[w.heap.size]? = some (.cells #[.int .i64 0, .slice none 0 0, .slice none 0 0, .slice none 0 0] 26 (0, 0)) := by rw [hwa]; exact zero_blk w
  have CS := hide (cloneS_any A c B l wa (h.grown hg hB (by simp)) (Nat.le_trans hB hg.size) hl)
  have HSZ := hide (show wa.heap.size = w.heap.size + 1 by rw [hwa]; simp)
  have HG := hide hg
  have HR := hide hr
  have HWE := hide hwa
  clear h hB hl hg hr hwa
  go_enter Tryz.func142, Tryz.ntmps142
  go_wp2_with fail
  rw [← HWE.out]
  refine CS.out.mono ?_
  rintro e w1 ⟨A1, c1, rfl, hc1, ho1, hg1⟩
  have hr1 := (hg1.block _ (blk_lt HR.out) (by simp)).trans HR.out
  have p0 : w1.cell? ⟨w.heap.size, 0, none⟩ = some (.int .i64 0) := by rw [blk_cell hr1]; rfl
  have p1 : w1.cell? ⟨w.heap.size, 1, none⟩ = some (.slice none 0 0) := by rw [blk_cell hr1]; rfl
  have p2 : w1.cell? ⟨w.heap.size, 2, none⟩ = some (.slice none 0 0) := by rw [blk_cell hr1]; rfl
  have p3 : w1.cell? ⟨w.heap.size, 3, none⟩ = some (.slice none 0 0) := by rw [blk_cell hr1]; rfl
  have z0 := blk_frozen hr1 0
  have z1 := blk_frozen hr1 1
  have z2 := blk_frozen hr1 2
  have z3 := blk_frozen hr1 3
  obtain ⟨f1, o1, b1⟩ := Own.of_row ho1
  have HO1 := hide o1
  have HN1 : Hid (New wa w1 ([] ++ (f1 ++ ([] ++ [])))) := hide (by simpa using New.one b1 o1.len (Nat.le_refl _))
  have HC1 := hide hc1
  have HG1 := hide hg1
  clear hr1 ho1 o1 b1 hc1 hg1
  go_wp2_with fail
  refine bodyPost_ret (v := .agg #[.int .i64 3, .slice none 0 0, .slice A1 l.length c1, .slice none 0 0]) (by simp [results, Tryz.results142, go_sem, p0, p1, p2, p3]) rfl ?_
  exact NewV.of_put (v := .mk 3 [] l []) (f1 := []) (f2 := f1) (f := []) (g := []) (xs := []) HSZ.out HG.out HG1.out (Nat.le_refl _) (.inl ⟨rfl, rfl⟩) HC1.out HO1.out (Nat.le_refl _) (.inl ⟨rfl, rfl⟩) ⟨rfl, rfl⟩ HN1.out

set_option maxHeartbeats 4000000 in
set_option maxRecDepth 100000 in
theorem atomI_any (n : Int) (w : World) : Calls Tryz.prog 67 #[.int .i64 2, .int .i64 n] w (NewV (.mk (-2) [n] [] []) w) := by
  have HN : Hid (∀ w, Calls Tryz.prog 64 #[.int .i64 2] w fun e w' => e = .returned (.bool true) ∧ w = w') := hide (fun w => hasN_any 2 w)
  go_enter Tryz.func67, Tryz.ntmps67
  go_wp2_with (go_at_call 64; refine (HN.out _).mono ?_; rintro e w1 ⟨rfl, rfl⟩)
  have h := newV_atom w (-2) n (.cells #[.int .i64 (-2), .slice (some ⟨w.heap.size + 1, 0, none⟩) 1 1, .slice none 0 0, .slice none 0 0] 26)
  refine bodyPost_ret (v := .agg #[.int .i64 (-2), .slice (some ⟨w.heap.size + 1, 0, none⟩) 1 1, .slice none 0 0, .slice none 0 0]) (by simp [results, Tryz.results67, go_sem]) rfl h

set_option maxHeartbeats 4000000 in
set_option maxRecDepth 100000 in
theorem rAbs2_any (w : World) : Calls Tryz.prog 46 #[.int .i64 2] w fun e w' => e = .returned (.int .i64 2) ∧ w = w' := by
  go_enter Tryz.func46, Tryz.ntmps46
  go_wp2_with fail
  go_ret
  exact ⟨rfl, rfl⟩
set_option maxHeartbeats 4000000 in
set_option maxRecDepth 100000 in
theorem rAtomI_any (n : Int) (w : World) : Calls Tryz.prog 21 #[.int .i64 2, .int .i64 n] w (NewV (.mk (-2) [n] [] []) w) := by
  go_enter Tryz.func21, Tryz.ntmps21
  go_wp2_with (go_at_call 46; refine (rAbs2_any _).mono ?_; rintro e w1 ⟨rfl, rfl⟩)
  have h := newV_atom w (-2) n (.cells #[.int .i64 (-2), .slice (some ⟨w.heap.size + 1, 0, none⟩) 1 1, .slice none 0 0, .slice none 0 0] 26)
  refine bodyPost_ret (v := .agg #[.int .i64 (-2), .slice (some ⟨w.heap.size + 1, 0, none⟩) 1 1, .slice none 0 0, .slice none 0 0]) (by simp [results, Tryz.results21, go_sem]) rfl h
set_option maxHeartbeats 4000000 in
set_option maxRecDepth 100000 in
theorem rSymbol_any (s : ByteArray) (w : World) : Calls Tryz.prog 93 #[.string s] w (NewV (.mk (-3) [] [s] []) w) := by
  go_enter Tryz.func93, Tryz.ntmps93
  go_wp2_with fail
  have h := newV_symbol w (-3) s (.cells #[.int .i64 (-3), .slice none 0 0, .slice (some ⟨w.heap.size + 1, 0, none⟩) 1 1, .slice none 0 0] 26)
  refine bodyPost_ret (v := .agg #[.int .i64 (-3), .slice none 0 0, .slice (some ⟨w.heap.size + 1, 0, none⟩) 1 1, .slice none 0 0]) (by simp [results, Tryz.results93, go_sem]) rfl h

set_option maxHeartbeats 4000000 in
set_option maxRecDepth 100000 in
theorem rSyms_any (A : Option Addr) (c B : Nat) (l : List ByteArray) (w : World) (h : Rd w B A (strs l)) (hB : B ≤ w.heap.size) (hl : l.length ≤ 1100000) :
    Calls Tryz.prog 120 #[.slice A l.length c] w (NewV (.mk 3 [] l []) w) := by
  obtain ⟨wa, hwa⟩ : ∃ wa, wa = w.alloc (.cells #[.int .i64 0, .slice none 0 0, .slice none 0 0, .slice none 0 0] 26) := ⟨_, rfl⟩
  have hg : w.grownBy wa none := by rw [hwa]; exact gb_alloc (gb_refl w none) _
  have hr : wa.heap[w.heap.size]? = some (.cells #[.int .i64 0, .slice none 0 0, .slice none 0 0, .slice none 0 0] 26 (0, 0)) := by rw [hwa]; exact zero_blk w
  have hsz : wa.heap.size = w.heap.size + 1 := by rw [hwa]; simp
  have HO := hide (own_nil wa 9 1)
  have HRD := hide ((h.grown hg hB (by simp)).alloc (Nat.le_trans hB hg.size) (.cells #[] 9))
  have HL1 : Hid ((strs l).length = l.length * 1) := hide (by simp [strs])
  have HOC := hide (strs_one l)
  have HM1 : Hid (0 + l.length ≤ maxLen) := hide (by unfold maxLen; omega)
  have HMB : Hid ((0 + l.length) * 16 ≤ 140737488355328) := hide (by omega)
  have HBS : Hid (wa.heap.size ≤ (wa.alloc (.cells #[] 9)).heap.size) := hide (by simp)
  have HSZ := hide hsz
  have HG := hide hg
  have HR := hide hr
  rw [hsz, hwa] at HO
  rw [hwa] at HRD HBS
  have HWE := hide hwa
  obtain ⟨i1, hi1, hiz, his, hib⟩ := info_parts Tryz.infoS
  have HI1 := hide hi1
  have HIZ := hide hiz
  have HIS := hide his
  have HIB := hide hib
  clear h hB hl hg hr hwa hsz hi1 hiz his hib
  go_enter Tryz.func120, Tryz.ntmps120
  go_wp2_with (at_builtin; refine wpList_append_rd _ rfl (.tmp 3) (.tmp 4) 23 rfl (w.heap.size + 1) 9 i1 (.string ⟨#[]⟩) 1 16 Tryz.underlying23 HI1.out HIZ.out HIS.out HIB.out rfl (Nat.succ_pos 0) (.slice (some ⟨w.heap.size + 1, 0, none⟩) 0 0) 0 [] rfl HO.out B A l.length c (strs l) rfl HL1.out HRD.out HOC.out HM1.out HMB.out (by simp) ?_
               intro v5 w5 ho5 hg5 hb5
               rw [Nat.zero_add, List.nil_append] at ho5
               obtain ⟨A5, c5, rfl, hc5⟩ := own_slice ho5
               rw [← HWE.out] at hg5
               have hg5' : wa.grownBy w5 none := gb_trans (gb_alloc (gb_refl wa none) (.cells #[] 9)) hg5 (.inr (.inr ⟨_, rfl, Nat.le_of_eq HSZ.out⟩))
               have hr1 := (hg5'.block _ (blk_lt HR.out) (by simp)).trans HR.out
               have p0 : w5.cell? ⟨w.heap.size, 0, none⟩ = some (.int .i64 0) := by rw [blk_cell hr1]; rfl
               have p1 : w5.cell? ⟨w.heap.size, 1, none⟩ = some (.slice none 0 0) := by rw [blk_cell hr1]; rfl
               have p2 : w5.cell? ⟨w.heap.size, 2, none⟩ = some (.slice none 0 0) := by rw [blk_cell hr1]; rfl
               have p3 : w5.cell? ⟨w.heap.size, 3, none⟩ = some (.slice none 0 0) := by rw [blk_cell hr1]; rfl
               have z0 := blk_frozen hr1 0
               have z1 := blk_frozen hr1 1
               have z2 := blk_frozen hr1 2
               have z3 := blk_frozen hr1 3
               obtain ⟨f1, o1, b1⟩ := Own.of_row ho5
               have HO1 := hide o1
               have HN1 : Hid (New wa w5 ([] ++ (f1 ++ ([] ++ [])))) := hide (by simpa using New.one (a := wa) (fun x hx => by have := b1 x hx; have := HSZ.out; omega) o1.len (Nat.le_refl w5.heap.size))
               have HC5 := hide hc5
               have HG5 := hide hg5'
               clear ho5 hg5 hb5 hg5' hr1 o1 b1 hc5)
  refine bodyPost_ret (v := .agg #[.int .i64 3, .slice none 0 0, .slice A5 l.length c5, .slice none 0 0]) (by simp [results, Tryz.results120, go_sem, p0, p1, p2, p3]) rfl ?_
  exact NewV.of_put (v := .mk 3 [] l []) (f1 := []) (f2 := f1) (f := []) (g := []) (xs := []) HSZ.out HG.out HG5.out (Nat.le_refl _) (.inl ⟨rfl, rfl⟩) HC5.out HO1.out (Nat.le_refl _) (.inl ⟨rfl, rfl⟩) ⟨rfl, rfl⟩ HN1.out
end Go.Proofs.YtnilcnobngcbgaaGreat
