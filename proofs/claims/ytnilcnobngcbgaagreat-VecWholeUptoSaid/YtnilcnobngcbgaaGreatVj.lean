/-
  value.Of.
-/
import Derived.Test.YtnilcnobngcbgaaGreatVi
namespace Go.Proofs.YtnilcnobngcbgaaGreat
open Go.RowKit
attribute [local go_sem ↓] Go.wp_at_zero Go.wp_at_succ

/-- The list of values, or the vector of atoms. -/
def ofV (l : List Vl) : Vl := if unif l = true then .mk (-(match l with | [] => 0 | a :: _ => a.t)) (l.flatMap Vl.n) (l.flatMap Vl.s) [] else .mk 0 [] [] l
theorem ofV_list {l : List Vl} (h : unif l = false) : ofV l = .mk 0 [] [] l := by unfold ofV; rw [h]; rfl
theorem ofV_vec {l : List Vl} (h : unif l = true) (h0 : 0 < l.length) : ofV l = .mk (-l[0].t) (l.flatMap Vl.n) (l.flatMap Vl.s) [] := by
  cases l with
  | nil => simp at h0
  | cons a r => unfold ofV; rw [h]; rfl
theorem flatN_take (l : List Vl) (j : Nat) (h : j < l.length) : (l.take (j + 1)).flatMap Vl.n = (l.take j).flatMap Vl.n ++ l[j].n := by
  rw [List.take_succ_eq_append_getElem h, List.flatMap_append]; simp
theorem flatS_take (l : List Vl) (j : Nat) (h : j < l.length) : (l.take (j + 1)).flatMap Vl.s = (l.take j).flatMap Vl.s ++ l[j].s := by
  rw [List.take_succ_eq_append_getElem h, List.flatMap_append]; simp
theorem flatN_le (l : List Vl) : (l.flatMap Vl.n).length ≤ Vl.tots l := by
  induction l with
  | nil => simp [Vl.tots]
  | cons a r ih => simp only [List.flatMap_cons, List.length_append, Vl.tots]; have := Vl.tot_def a; omega
theorem flatS_le (l : List Vl) : (l.flatMap Vl.s).length ≤ Vl.tots l := by
  induction l with
  | nil => simp [Vl.tots]
  | cons a r ih => simp only [List.flatMap_cons, List.length_append, Vl.tots]; have := Vl.tot_def a; omega
theorem i64s_app (a b : List Int) : i64s (a ++ b) = i64s a ++ i64s b := by simp [i64s]
theorem strs_app (a b : List ByteArray) : strs (a ++ b) = strs a ++ strs b := by simp [strs]

/-- Where a vector is being built: block r is the value, the rows lie behind it. -/
def Grow (w1 : World) (l : List Vl) (t : Int) (j : Nat) (wr : World) : Prop := ∃ N nc S sc, wr.heap[w1.heap.size]? = some (.cells #[.int .i64 t, .slice N ((l.take j).flatMap Vl.n).length nc, .slice S ((l.take j).flatMap Vl.s).length sc, .slice none 0 0] 26 (0, 0)) ∧
  wr.ownsRow (w1.heap.size + 1) 2 1 (.slice N ((l.take j).flatMap Vl.n).length nc) ((l.take j).flatMap Vl.n).length (i64s ((l.take j).flatMap Vl.n)) ∧
  wr.ownsRow (w1.heap.size + 1) 9 1 (.slice S ((l.take j).flatMap Vl.s).length sc) ((l.take j).flatMap Vl.s).length (strs ((l.take j).flatMap Vl.s)) ∧ w1.grownBy wr none

theorem NewV.of_put {v : Vl} {w wa w1 : World} {A1 A2 A3 : Option Addr} {c1 c2 c3 : Nat} {xs : List (List Value)} {f1 f2 f g : List Nat} (hsz : wa.heap.size = w.heap.size + 1) (hg : w.grownBy wa none) (hg1 : wa.grownBy w1 none)
    (hc1 : v.n.length ≤ c1) (o1 : Own w1 f1 A1 (i64s v.n)) (hc2 : v.s.length ≤ c2) (o2 : Own w1 f2 A2 (strs v.s)) (hc3 : v.l.length ≤ c3) (o3 : Own w1 f A3 (List.flatten xs)) (ha : VOwAll w1 v.l xs g)
    (hn : New wa w1 (f1 ++ (f2 ++ (f ++ g)))) :
    NewV v w (.returned (.agg #[.int .i64 v.t, .slice A1 v.n.length c1, .slice A2 v.s.length c2, .slice A3 v.l.length c3])) (put4 w1 w.heap.size 0 (.int .i64 v.t) (.slice A1 v.n.length c1) (.slice A2 v.s.length c2) (.slice A3 v.l.length c3)) := by
  have s1 := hg1.size
  have hk : ∀ b, b < w1.heap.size → b ≠ w.heap.size → (put4 w1 w.heap.size 0 (.int .i64 v.t) (.slice A1 v.n.length c1) (.slice A2 v.s.length c2) (.slice A3 v.l.length c3)).heap[b]? = w1.heap[b]? := fun b hb hne => (put4_gb w1 w.heap.size 0 _ _ _ _).block b hb (by intro e; injection e with e; exact hne e)
  have hs4 := put4_size w1 w.heap.size 0 (.int .i64 v.t) (.slice A1 v.n.length c1) (.slice A2 v.s.length c2) (.slice A3 v.l.length c3)
  have hb : ∀ b ∈ f1 ++ (f2 ++ (f ++ g)), (put4 w1 w.heap.size 0 (.int .i64 v.t) (.slice A1 v.n.length c1) (.slice A2 v.s.length c2) (.slice A3 v.l.length c3)).heap[b]? = w1.heap[b]? := fun b hb => by
    have := hn.2 b hb
    exact hk b (by omega) (by omega)
  refine ⟨A1, c1, A2, c2, A3, c3, f1 ++ (f2 ++ (f ++ g)), rfl, VOw.mk_ ⟨hc1, hc2, hc3⟩ (o1.keep fun b h => hb b (by simp [h])) (o2.keep fun b h => hb b (by simp [h])) (o3.keep fun b h => hb b (by simp [h])) (VOwAll.keep _ _ _ ha fun b h => hb b (by simp [h])), ?_, ?_⟩
  · exact (hn.less (by omega)).more (by omega)
  · exact gb_trans (gb_trans hg hg1 (.inl rfl)) (put4_gb w1 w.heap.size 0 _ _ _ _) (.inr (.inr ⟨_, rfl, Nat.le_refl _⟩))

set_option maxHeartbeats 8000000 in
set_option maxRecDepth 100000 in
theorem of_list (l : List Vl) (w : World) (B : Nat) (A : Option Addr) (c : Nat) (hu : unif l = false) (ht : Vl.tots l ≤ 1100000) (hB : B ≤ w.heap.size) (h : RdV w B A l) :
    Calls Tryz.prog 36 #[.slice A l.length c] w (NewV (ofV l) w) := by
  rw [ofV_list hu]
  have U := hide (fun w2 (k : w.grownBy w2 none) => unif_any l w2 B A c ht (Nat.le_trans hB k.size) (h.gb k hB))
  have C := hide (fun w2 (k : w.grownBy w2 none) => cloneAll_any l w2 B A c ht (Nat.le_trans hB k.size) (h.gb k hB))
  obtain ⟨wa, hwa⟩ : ∃ wa, wa = w.alloc (.cells #[.int .i64 0, .slice none 0 0, .slice none 0 0, .slice none 0 0] 26) := ⟨_, rfl⟩
  have hg : w.grownBy wa none := by rw [hwa]; exact gb_alloc (gb_refl w none) _
  have hr : wa.heap[w.heap.size]? = some (.cells #[.int .i64 0, .slice none 0 0, .slice none 0 0, .slice none 0 0] 26 (0, 0)) := by rw [hwa]; exact heap_alloc_new w _
  have HSZ := hide (show wa.heap.size = w.heap.size + 1 by rw [hwa]; simp)
  have HG := hide hg
  have HR := hide hr
  have HWE := hide hwa
  rw [hu] at U
  clear hu ht hB h hg hr hwa
  go_enter Tryz.func36, Tryz.ntmps36
  go_wp2_with fail
  rw [← HWE.out]
  refine (U.out _ HG.out).mono ?_
  rintro e w1 ⟨rfl, hg1⟩
  have HG1 := hide hg1
  clear hg1
  go_wp2_with fail
  refine (C.out _ (gb_trans HG.out HG1.out (.inl rfl))).mono ?_
  rintro e w2 ⟨A2, c2, xs, f, g, rfl, hc2, ho2, ha2, hn2, hg2⟩
  have hr2 := (hg2.block _ (by have := blk_lt HR.out; have := HG1.out.size; omega) (by simp)).trans ((HG1.out.block _ (blk_lt HR.out) (by simp)).trans HR.out)
  have p0 : w2.cell? ⟨w.heap.size, 0, none⟩ = some (.int .i64 0) := by rw [blk_cell hr2]; rfl
  have p1 : w2.cell? ⟨w.heap.size, 1, none⟩ = some (.slice none 0 0) := by rw [blk_cell hr2]; rfl
  have p2 : w2.cell? ⟨w.heap.size, 2, none⟩ = some (.slice none 0 0) := by rw [blk_cell hr2]; rfl
  have p3 : w2.cell? ⟨w.heap.size, 3, none⟩ = some (.slice none 0 0) := by rw [blk_cell hr2]; rfl
  have z0 := blk_frozen hr2 0
  have z1 := blk_frozen hr2 1
  have z2 := blk_frozen hr2 2
  have z3 := blk_frozen hr2 3
  have HC2 := hide hc2
  have HO2 := hide ho2
  have HA2 := hide ha2
  have HN2 := hide hn2
  have HG2 := hide hg2
  clear hc2 ho2 ha2 hn2 hg2 hr2
  go_wp2_with fail
  refine bodyPost_ret (v := .agg #[.int .i64 0, .slice none 0 0, .slice none 0 0, .slice A2 l.length c2]) (by simp [results, Tryz.results36, go_sem, p0, p1, p2, p3]) rfl ?_
  exact NewV.of_put (v := .mk 0 [] [] l) (f1 := []) (f2 := []) (f := f) (g := g) HSZ.out HG.out (gb_trans HG1.out HG2.out (.inl rfl)) (Nat.le_refl _) (.inl ⟨rfl, rfl⟩) (Nat.le_refl _) (.inl ⟨rfl, rfl⟩) HC2.out HO2.out HA2.out (HN2.out.less HG1.out.size)

theorem atomT_bd {t : Int} (h : atomT t = true) : -5 ≤ t ∧ t < 0 := by
  unfold atomT hasN hasS at h
  simp only [Bool.and_eq_true, Bool.or_eq_true, decide_eq_true_eq, beq_iff_eq] at h
  omega
theorem Own.blk {w : World} {f : List Nat} {A : Option Addr} {xs : List Value} (h : Own w f A xs) (b : Nat) (hb : b ∈ f) {n c : Nat} : (Value.slice A n c).ownBlock = some b := by
  rcases h with ⟨_, rfl⟩ | ⟨b', t, cur, rfl, rfl, _, _, _⟩
  · cases hb
  · obtain rfl := List.mem_singleton.1 hb
    rfl
theorem rows_apart {w : World} {base base' n n' size size' : Nat} {e e' : TypeId} {v v' : Value} {xs xs' : List Value} (h : w.ownsRow base e size v n xs) (h' : w.ownsRow base' e' size' v' n' xs') (hne : e ≠ e') : v.ownBlock = none ∨ v.ownBlock ≠ v'.ownBlock := by
  rcases h'.2 with ⟨rfl, _⟩ | ⟨g', cap', cur', rfl, _, hh', _⟩
  · rcases h.2 with ⟨rfl, _⟩ | ⟨g, cap, cur, rfl, _⟩
    · exact .inl rfl
    · exact .inr (by simp [Value.ownBlock])
  · exact .inr (own_ne h hh' hne)

set_option maxHeartbeats 8000000 in
set_option maxRecDepth 100000 in
theorem of_vec0 (l : List Vl) (n : List Int) (s : List ByteArray) (HNE : Hid (l.flatMap Vl.n = n)) (HSE : Hid (l.flatMap Vl.s = s)) (w : World) (B : Nat) (A : Option Addr) (c : Nat) (hu : unif l = true) (hl0 : 0 < l.length) (ht : Vl.tots l ≤ 1100000) (hB : B ≤ w.heap.size) (h : RdV w B A l) :
    Calls Tryz.prog 36 #[.slice A l.length c] w (NewV (.mk (-l[0].t) n s []) w) := by
  have hat : atomT l[0].t = true := by
    rw [unif_cons hl0, Bool.and_eq_true] at hu
    exact hu.1
  obtain ⟨hb1, hb2⟩ := atomT_bd hat
  have U := hide (fun w2 (k : w.grownBy w2 none) => unif_any l w2 B A c ht (Nat.le_trans hB k.size) (h.gb k hB))
  obtain ⟨wa, hwa⟩ : ∃ wa, wa = w.alloc (.cells #[.int .i64 0, .slice none 0 0, .slice none 0 0, .slice none 0 0] 26) := ⟨_, rfl⟩
  have hg : w.grownBy wa none := by rw [hwa]; exact gb_alloc (gb_refl w none) _
  have hr : wa.heap[w.heap.size]? = some (.cells #[.int .i64 0, .slice none 0 0, .slice none 0 0, .slice none 0 0] 26 (0, 0)) := by rw [hwa]; exact heap_alloc_new w _
  have HSZ := hide (show wa.heap.size = w.heap.size + 1 by rw [hwa]; simp)
  have HG := hide hg
  have HR := hide hr
  have HWE := hide hwa
  have l1 : l.length ≤ 1100000 := Nat.le_trans (Vl.length_le_tots l) ht
  have HT := hide ht
  have HFN : Hid (n.length ≤ 1100000) := hide (by have := Nat.le_trans (flatN_le l) ht; rwa [HNE.out] at this)
  have HFS : Hid (s.length ≤ 1100000) := hide (by have := Nat.le_trans (flatS_le l) ht; rwa [HSE.out] at this)
  have H := hide h
  have HBB := hide hB
  obtain ⟨b, o, xA0, xc0, yA0, yc0, zA0, zc0, rfl, hbB, hc40, _⟩ := h.first hl0
  have HC40 := hide hc40.c0
  rw [hu] at U
  obtain ⟨i1, hi1, hiz, his, hib⟩ := info_parts Tryz.info64
  have HI1 := hide hi1
  have HIZ := hide hiz
  have HIS := hide his
  have HIB := hide hib
  obtain ⟨i2, hi2, hiz2, his2, hib2⟩ := info_parts Tryz.infoS
  have HJ1 := hide hi2
  have HJZ := hide hiz2
  have HJS := hide his2
  have HJB := hide hib2
  have hl01 : (0 : Int) < (l.length : Int) := by omega
  have hneg : IntKind.i64.wrap (-l[0].t) = -l[0].t := by rw [IntKind.wrap_i64]; omega
  clear hu ht hB h hg hr hwa hat hc40 hi1 hiz his hib hi2 hiz2 his2 hib2
  go_enter Tryz.func36, Tryz.ntmps36
  go_wp2_with fail
  rw [← HWE.out]
  refine (U.out _ HG.out).mono ?_
  rintro e w1 ⟨rfl, hg1⟩
  have d0 := cell_gb HC40.out (gb_trans HG.out hg1 (.inl rfl))
  have HG1 := hide hg1
  clear hg1
  go_wp2_with fail
  go_loopw [20] (fun i wr => ∃ j : Nat, i = .int .i64 (j : Int) ∧ j ≤ l.length ∧ Grow w1 l (-l[0].t) j wr) (fun i _ => l.length - (intOf i).toNat)
  case atStart =>
    refine ⟨0, rfl, Nat.zero_le _, none, 0, none, 0, ?_, ⟨rfl, .inl ⟨rfl, rfl⟩⟩, ⟨rfl, .inl ⟨rfl, rfl⟩⟩, gb_alloc (gb_refl w1 none) _⟩
    exact heap_alloc_new w1 _
  case round =>
    obtain ⟨j, rfl, hj, hfill⟩ := hrel
    by_cases hlt : j < l.length
    · have hlt1 : (j : Int) < (l.length : Int) := by omega
      obtain ⟨N, nc, S, sc, hh, hoN, hoS, hg⟩ := hfill
      obtain ⟨q, p, xA, xc, yA, yc, zA, zc, hA, hqB, hc4', hvb'⟩ := H.out.at_ hlt
      simp only [Option.some.injEq, Addr.mk.injEq, and_true] at hA
      obtain ⟨rfl, rfl⟩ := hA
      have hgw : w.grownBy wr none := gb_trans HG.out (gb_trans HG1.out hg (.inl rfl)) (.inl rfl)
      obtain ⟨f0, f1, f2, f3⟩ := hc4'.gb hgw
      have hvr := hvb'.gb hgw HBB.out
      have hgb : wr.grownBy (wr.alloc (.cells #[.int .i64 l[j].t, .slice xA l[j].n.length xc, .slice yA l[j].s.length yc, .slice zA l[j].l.length zc] 26)) none := gb_alloc (gb_refl wr none) _
      have HFN1 := hide (flatN_take l j hlt)
      have HFS1 := hide (flatS_take l j hlt)
      have hbnd1 : ((l.take j).flatMap Vl.n).length + l[j].n.length ≤ 1100000 := by
        have h1 := flatN_le (l.take (j + 1))
        have h2 := Vl.tots_take_le l (j + 1)
        rw [HFN1.out, List.length_append] at h1
        have := HT.out
        omega
      have hbnd2 : ((l.take j).flatMap Vl.s).length + l[j].s.length ≤ 1100000 := by
        have h1 := flatS_le (l.take (j + 1))
        have h2 := Vl.tots_take_le l (j + 1)
        rw [HFS1.out, List.length_append] at h1
        have := HT.out
        omega
      clear HNE HSE HFN HFS
      generalize (l.take j).flatMap Vl.n = n at *
      generalize (l.take j).flatMap Vl.s = s at *
      have hBR : B ≤ w1.heap.size := by have := HBB.out; have := HG.out.size; have := HG1.out.size; omega
      have hBr : B ≤ wr.heap.size := by have := hg.size; omega
      have hRb := (hgb.block _ (blk_lt hh) (by simp)).trans hh
      have hXb := heap_alloc_new wr (.cells #[.int .i64 l[j].t, .slice xA l[j].n.length xc, .slice yA l[j].s.length yc, .slice zA l[j].l.length zc] 26)
      have r1 : (wr.alloc (.cells #[.int .i64 l[j].t, .slice xA l[j].n.length xc, .slice yA l[j].s.length yc, .slice zA l[j].l.length zc] 26)).cell? ⟨w1.heap.size, 1, none⟩ = some (.slice N n.length nc) := by rw [blk_cell hRb]; rfl
      have HON := hide (hoN.alloc (.cells #[.int .i64 l[j].t, .slice xA l[j].n.length xc, .slice yA l[j].s.length yc, .slice zA l[j].l.length zc] 26))
      have HOS := hide (hoS.alloc (.cells #[.int .i64 l[j].t, .slice xA l[j].n.length xc, .slice yA l[j].s.length yc, .slice zA l[j].l.length zc] 26))
      have HRN := hide (hvr.n.grown hgb hBr (by simp))
      have HRS := hide (hvr.s.grown hgb hBr (by simp))
      have HRB := hide hRb
      have HXB := hide hXb
      have HGR := hide hg
      have HGB := hide hgb
      have HBR := hide hBR
      have HLT := hide (blk_lt hh)
      have HL1 : Hid ((i64s l[j].n).length = l[j].n.length * 1) := hide (by simp [i64s])
      have HOC := hide (i64s_one l[j].n)
      have HM1 : Hid (n.length + l[j].n.length ≤ maxLen) := hide (by unfold maxLen; omega)
      have HMB : Hid ((n.length + l[j].n.length) * 8 ≤ 140737488355328) := hide (by omega)
      have HBS : Hid (w1.heap.size + 1 ≤ (wr.alloc (.cells #[.int .i64 l[j].t, .slice xA l[j].n.length xc, .slice yA l[j].s.length yc, .slice zA l[j].l.length zc] 26)).heap.size) := hide (by have := blk_lt hh; simp; omega)
      have HL2 : Hid ((strs l[j].s).length = l[j].s.length * 1) := hide (by simp [strs])
      have HOC2 := hide (strs_one l[j].s)
      have HM2 : Hid (s.length + l[j].s.length ≤ maxLen) := hide (by unfold maxLen; omega)
      have HMB2 : Hid ((s.length + l[j].s.length) * 16 ≤ 140737488355328) := hide (by omega)
      clear hh hoN hoS hg hc4' hvb' hgw hvr hgb hRb hXb hBR hBr
      go_wp2_with (first
        | (at_builtin; refine wpList_append_rd _ rfl (.tmp 25) (.tmp 27) 22 rfl (w1.heap.size + 1) 2 i1 (.int .i64 0) 1 8 Tryz.underlying22 HI1.out HIZ.out HIS.out HIB.out rfl (Nat.succ_pos 0) (.slice N n.length nc) n.length (i64s n) rfl HON.out B xA l[j].n.length xc (i64s l[j].n) rfl HL1.out HRN.out HOC.out HM1.out HMB.out HBS.out ?_
           intro v5 w5 ho5 hg5 hb5
           rw [← i64s_app] at ho5
           obtain ⟨N5, nc5, rfl, hnc5⟩ := own_slice ho5
           have hR5 := (hg5.block _ (blk_lt HRB.out) (fun e => own_ne HON.out HRB.out (by decide) e.symm)).trans HRB.out
           have hX5 := (hg5.block _ (blk_lt HXB.out) (fun e => own_ne HON.out HXB.out (by decide) e.symm)).trans HXB.out
           have p1 : w5.cell? ⟨w1.heap.size, 1, none⟩ = some (.slice N n.length nc) := by rw [blk_cell hR5]; rfl
           have z1 := blk_frozen hR5 1
           have hgs : w5.grownBy (w5.setCell ⟨w1.heap.size, 1, none⟩ (.slice N5 (n.length + l[j].n.length) nc5)) (some w1.heap.size) := gb_setCell (gb_refl _ _) (.inl rfl) _
           have hRs : (w5.setCell ⟨w1.heap.size, 1, none⟩ (.slice N5 (n.length + l[j].n.length) nc5)).heap[w1.heap.size]? = some (.cells #[.int .i64 (-l[0].t), .slice N5 (n.length + l[j].n.length) nc5, .slice S s.length sc, .slice none 0 0] 26 (0, 0)) := blk_set hR5 1 _
           have hXs := (hgs.block _ (blk_lt hX5) (by intro e; injection e with e; have := HLT.out; omega)).trans hX5
           have q2 : (w5.setCell ⟨w1.heap.size, 1, none⟩ (.slice N5 (n.length + l[j].n.length) nc5)).cell? ⟨w1.heap.size, 2, none⟩ = some (.slice S s.length sc) := by rw [blk_cell hRs]; rfl
           have x2 : (w5.setCell ⟨w1.heap.size, 1, none⟩ (.slice N5 (n.length + l[j].n.length) nc5)).cell? ⟨wr.heap.size, 2, none⟩ = some (.slice yA l[j].s.length yc) := by rw [blk_cell hXs]; rfl
           have hoN5 := ho5.kept hgs (.inr (own_ne ho5 hR5 (by decide)))
           have hoS5a := HOS.out.kept hg5 (rows_apart HOS.out HON.out (by decide))
           have hoS5 := hoS5a.kept hgs (.inr (own_ne hoS5a hR5 (by decide)))
           have hlN := HON.out.lt
           have HRS5 := hide ((HRS.out.grown hg5 (by have := HBS.out; have := HBR.out; omega) (fun g e => by have := (hlN g e).1; have := HBR.out; omega)).grown hgs (by have := HBS.out; have := HBR.out; have := hg5.size; omega) (fun g e => by injection e with e; have := HBR.out; omega))
           have HON5 := hide hoN5
           have HOS5 := hide hoS5
           have HRs5 := hide hRs
           have HBS5 : Hid (w1.heap.size + 1 ≤ (w5.setCell ⟨w1.heap.size, 1, none⟩ (.slice N5 (n.length + l[j].n.length) nc5)).heap.size) := hide (by have := HBS.out; have := hg5.size; have := hgs.size; omega)
           have HG5 := hide (show w1.grownBy (w5.setCell ⟨w1.heap.size, 1, none⟩ (.slice N5 (n.length + l[j].n.length) nc5)) none from gb_trans (gb_trans (gb_trans HGR.out HGB.out (.inl rfl)) hg5 (match hq : (Value.slice N n.length nc).ownBlock with | none => .inr (.inl rfl) | some g => .inr (.inr ⟨g, rfl, by have := (hlN g hq).1; omega⟩))) hgs (.inr (.inr ⟨_, rfl, Nat.le_refl _⟩)))
           have HNC5 := hide hnc5
           clear ho5 hg5 hb5 hR5 hX5 hgs hRs hXs hoN5 hoS5a hoS5 hlN hnc5)
        | (at_builtin; refine wpList_append_rd _ rfl (.tmp 31) (.tmp 33) 23 rfl (w1.heap.size + 1) 9 i2 (.string ⟨#[]⟩) 1 16 Tryz.underlying23 HJ1.out HJZ.out HJS.out HJB.out rfl (Nat.succ_pos 0) (.slice S s.length sc) s.length (strs s) rfl HOS5.out B yA l[j].s.length yc (strs l[j].s) rfl HL2.out HRS5.out HOC2.out HM2.out HMB2.out HBS5.out ?_
           intro v6 w6 ho6 hg6 hb6
           rw [← strs_app] at ho6
           obtain ⟨S6, sc6, rfl, hsc6⟩ := own_slice ho6
           have hR6 := (hg6.block _ (blk_lt HRs5.out) (fun e => own_ne HOS5.out HRs5.out (by decide) e.symm)).trans HRs5.out
           have p2 : w6.cell? ⟨w1.heap.size, 2, none⟩ = some (.slice S s.length sc) := by rw [blk_cell hR6]; rfl
           have z2 := blk_frozen hR6 2
           have hgt : w6.grownBy (w6.setCell ⟨w1.heap.size, 2, none⟩ (.slice S6 (s.length + l[j].s.length) sc6)) (some w1.heap.size) := gb_setCell (gb_refl _ _) (.inl rfl) _
           have hRt : (w6.setCell ⟨w1.heap.size, 2, none⟩ (.slice S6 (s.length + l[j].s.length) sc6)).heap[w1.heap.size]? = some (.cells #[.int .i64 (-l[0].t), .slice N5 (n.length + l[j].n.length) nc5, .slice S6 (s.length + l[j].s.length) sc6, .slice none 0 0] 26 (0, 0)) := blk_set hR6 2 _
           have hlS := HOS5.out.lt
           have hoN6a := HON5.out.kept hg6 (rows_apart HON5.out HOS5.out (by decide))
           have HON6 := hide (hoN6a.kept hgt (.inr (own_ne hoN6a hR6 (by decide))))
           have HOS6 := hide (ho6.kept hgt (.inr (own_ne ho6 hR6 (by decide))))
           have HR6 := hide hRt
           have HG6 := hide (show w1.grownBy (w6.setCell ⟨w1.heap.size, 2, none⟩ (.slice S6 (s.length + l[j].s.length) sc6)) none from gb_trans (gb_trans HG5.out hg6 (match hq : (Value.slice S s.length sc).ownBlock with | none => .inr (.inl rfl) | some g => .inr (.inr ⟨g, rfl, by have := (hlS g hq).1; omega⟩))) hgt (.inr (.inr ⟨_, rfl, Nat.le_refl _⟩)))
           clear ho6 hg6 hb6 hR6 hgt hRt hoN6a hlS hsc6))
      go_roundw
      case rel =>
        refine ⟨j + 1, by go_num, by omega, ?_⟩
        unfold Grow
        rw [HFN1.out, HFS1.out, List.length_append, List.length_append]
        exact ⟨N5, nc5, S6, sc6, HR6.out, HON6.out, HOS6.out, HG6.out⟩
      case measure => simp [intOf]; omega
    · have hlt1 : ¬ (j : Int) < (l.length : Int) := by omega
      obtain rfl : j = l.length := by omega
      obtain ⟨N, nc, S, sc, hh, hoN, hoS, hg⟩ := hfill
      rw [List.take_length, HNE.out] at hoN
      rw [List.take_length, HSE.out] at hoS
      rw [List.take_length, HNE.out, HSE.out] at hh
      have hfn := HFN.out
      have hfs := HFS.out
      obtain ⟨_, _, hvN, hcN⟩ := own_slice hoN
      obtain ⟨_, _, hvS, hcS⟩ := own_slice hoS
      injection hvN with hvN1 hvN2 hvN3
      injection hvS with hvS1 hvS2 hvS3
      clear hvN1 hvN2 hvS1 hvS2
      subst hvN3
      subst hvS3
      obtain ⟨f1, o1, b1⟩ := Own.of_row hoN
      obtain ⟨f2, o2, b2⟩ := Own.of_row hoS
      have hr := (hg.block _ (by have := blk_lt HR.out; have := HG1.out.size; omega) (by simp)).trans ((HG1.out.block _ (blk_lt HR.out) (by simp)).trans HR.out)
      have hn : New wa wr (f1 ++ (f2 ++ ([] ++ []))) := by
        have hs := HG1.out.size
        refine ⟨?_, fun b hb => ?_⟩
        · simp only [List.append_nil]
          refine List.nodup_append.2 ⟨?_, ?_, fun x hx y hy e => ?_⟩
          · match f1, o1.len with
            | [], _ => simp
            | [x], _ => simp
          · match f2, o2.len with
            | [], _ => simp
            | [x], _ => simp
          · subst e
            have k1 := o1.blk x hx (n := n.length) (c := nc)
            have k2 := o2.blk x hy (n := s.length) (c := sc)
            rcases rows_apart hoN hoS (by decide) with h | h
            · rw [h] at k1; cases k1
            · rw [k1, k2] at h; exact h rfl
        · simp only [List.append_nil] at hb
          rcases List.mem_append.1 hb with hb | hb
          · have := b1 b hb; omega
          · have := b2 b hb; omega
      have HN := hide hn
      have HO1 := hide o1
      have HO2 := hide o2
      have HCN := hide hcN
      have HCS := hide hcS
      have HGR := hide hg
      clear hn o1 o2 b1 b2 hcN hcS hg hoN hoS
      have p0 : wr.cell? ⟨w.heap.size, 0, none⟩ = some (.int .i64 0) := by rw [blk_cell hr]; rfl
      have p1 : wr.cell? ⟨w.heap.size, 1, none⟩ = some (.slice none 0 0) := by rw [blk_cell hr]; rfl
      have p2 : wr.cell? ⟨w.heap.size, 2, none⟩ = some (.slice none 0 0) := by rw [blk_cell hr]; rfl
      have p3 : wr.cell? ⟨w.heap.size, 3, none⟩ = some (.slice none 0 0) := by rw [blk_cell hr]; rfl
      have z0 := blk_frozen hr 0
      have z1 := blk_frozen hr 1
      have z2 := blk_frozen hr 2
      have z3 := blk_frozen hr 3
      have q0 : wr.cell? ⟨w1.heap.size, 0, none⟩ = some (.int .i64 (-l[0].t)) := by rw [blk_cell hh]; rfl
      have q1 : wr.cell? ⟨w1.heap.size, 1, none⟩ = some (.slice N n.length nc) := by rw [blk_cell hh]; rfl
      have q2 : wr.cell? ⟨w1.heap.size, 2, none⟩ = some (.slice S s.length sc) := by rw [blk_cell hh]; rfl
      have q3 : wr.cell? ⟨w1.heap.size, 3, none⟩ = some (.slice none 0 0) := by rw [blk_cell hh]; rfl
      clear hr hh
      go_wp2_with fail
      refine bodyPost_ret (v := .agg #[.int .i64 (-l[0].t), .slice N n.length nc, .slice S s.length sc, .slice none 0 0]) (by simp [results, Tryz.results36, go_sem, p0, p1, p2, p3]) rfl ?_
      exact NewV.of_put (v := .mk (-l[0].t) n s []) (f1 := f1) (f2 := f2) (f := []) (g := []) (xs := []) HSZ.out HG.out (gb_trans HG1.out HGR.out (.inl rfl)) HCN.out HO1.out HCS.out HO2.out (Nat.le_refl _) (.inl ⟨rfl, rfl⟩) ⟨rfl, rfl⟩ HN.out

theorem of_vec (l : List Vl) (w : World) (B : Nat) (A : Option Addr) (c : Nat) (hu : unif l = true) (ht : Vl.tots l ≤ 1100000) (hB : B ≤ w.heap.size) (h : RdV w B A l) :
    Calls Tryz.prog 36 #[.slice A l.length c] w (NewV (ofV l) w) := by
  have hl0 : 0 < l.length := by
    rcases l with _ | ⟨a, r⟩
    · cases hu
    · simp
  rw [ofV_vec hu hl0]
  exact of_vec0 l _ _ (hide rfl) (hide rfl) w B A c hu hl0 ht hB h
theorem of_any (l : List Vl) (w : World) (B : Nat) (A : Option Addr) (c : Nat) (ht : Vl.tots l ≤ 1100000) (hB : B ≤ w.heap.size) (h : RdV w B A l) :
    Calls Tryz.prog 36 #[.slice A l.length c] w (NewV (ofV l) w) := by
  cases hu : unif l
  · exact of_list l w B A c hu ht hB h
  · exact of_vec l w B A c hu ht hB h
end Go.Proofs.YtnilcnobngcbgaaGreat
