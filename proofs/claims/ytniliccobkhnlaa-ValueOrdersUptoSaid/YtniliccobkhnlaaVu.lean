/-
  value.At.
-/
import Derived.Test.YtniliccobkhnlaaVt
namespace Go.Proofs.Ytniliccobkhnlaa
open Go.RowKit
attribute [local go_sem ↓] Go.wp_at_zero Go.wp_at_succ

theorem NewE.fin {x : Vl} {w wa w1 : World} {g : Nat} {xA : Option Addr} {xc : Nat} {yA : Option Addr} {yc : Nat} {zA : Option Addr} {zc : Nat} {f : List Nat} (h : VOw w1 x [.int .i64 x.t, .slice xA x.n.length xc, .slice yA x.s.length yc, .slice zA x.l.length zc] f) (hn : New wa w1 f) (hg : w.grownBy wa none) (hg1 : wa.grownBy w1 none) (hgs : w.heap.size ≤ g) (hga : g < wa.heap.size) :
    NewE x w (.returned (.tuple #[.agg #[.int .i64 x.t, .slice xA x.n.length xc, .slice yA x.s.length yc, .slice zA x.l.length zc], .int .i64 0])) (put4 w1 g 0 (.int .i64 x.t) (.slice xA x.n.length xc) (.slice yA x.s.length yc) (.slice zA x.l.length zc)) := by
  have s1 := hg1.size
  have s4 := put4_size w1 g 0 (.int .i64 x.t) (.slice xA x.n.length xc) (.slice yA x.s.length yc) (.slice zA x.l.length zc)
  refine ⟨xA, xc, yA, yc, zA, zc, f, rfl, VOw.keep _ _ _ h fun b hb => ?_, (hn.less hg.size).more (by omega), put4_to (gb_trans hg hg1 (.inl rfl)) hgs⟩
  have := hn.2 b hb
  exact (put4_gb w1 g 0 _ _ _ _).block b (by omega) (by intro e; injection e with e; omega)

set_option maxHeartbeats 8000000 in
set_option maxRecDepth 100000 in
theorem at_tab (v : Vl) (i : Int) (w : World) (B : Nat) (nA : Option Addr) (nc : Nat) (sA : Option Addr) (sc : Nat) (lA : Option Addr) (lc : Nat) (htab : v.t = 98) (ht : v.tot ≤ 500000) (hB : B ≤ w.heap.size) (h : VB w B v nA nc sA sc lA lc) :
    Calls Try.prog 10 #[.agg #[.int .i64 v.t, .slice nA v.n.length nc, .slice sA v.s.length sc, .slice lA v.l.length lc], .int .i64 i] w (RowPost [v] i w) := by
  obtain ⟨l1, l2, l3, l4⟩ := Vl.lens v (by omega)
  obtain ⟨wa, hwa⟩ : ∃ wa, wa = (w.alloc (.cells #[.int .i64 v.t, .slice nA v.n.length nc, .slice sA v.s.length sc, .slice lA v.l.length lc] 26)).alloc (.cells #[.int .i64 0, .slice none 0 0, .slice none 0 0, .slice none 0 0] 26) := ⟨_, rfl⟩
  have hg : w.grownBy wa none := by rw [hwa]; exact gb_alloc (gb_alloc (gb_refl w none) _) _
  have hc := (C4.box w (.int .i64 v.t) (.slice nA v.n.length nc) (.slice sA v.s.length sc) (.slice lA v.l.length lc) 26).gb (gb_alloc (gb_refl _ none) (.cells #[.int .i64 0, .slice none 0 0, .slice none 0 0, .slice none 0 0] 26))
  have hrb : wa.heap[w.heap.size + 1]? = some (.cells #[.int .i64 0, .slice none 0 0, .slice none 0 0, .slice none 0 0] 26 (0, 0)) := by rw [hwa]; exact alloc2_blk w _ _
  rw [← hwa] at hc
  have hbw := Nat.le_trans hB hg.size
  have HSZ := hide (show wa.heap.size = w.heap.size + 2 by rw [hwa]; simp)
  have HV := hide (h.gb hg hB)
  have HBW := hide hbw
  have HG := hide hg
  have HRB := hide hrb
  have HC := hide hc
  have HWE := hide hwa
  have HTT := hide ht
  have HIT := hide (fun w2 => isTab_any v (.slice nA v.n.length nc) (.slice sA v.s.length sc) (.slice lA v.l.length lc) w2)
  have htt : isTab v = true := by unfold isTab; rw [htab]; rfl
  rw [htt] at HIT
  have HROW := hide (fun w2 (k : wa.grownBy w2 none) => row_walk [v] i (w2.alloc (.cells #[.int .i64 v.t, .slice nA v.n.length nc, .slice sA v.s.length sc, .slice lA v.l.length lc] 26)) (w2.heap.size + 1) (some ⟨w2.heap.size, 0, none⟩) 1 (by simp [Vl.tots]; omega) (by simp)
    ⟨[[.int .i64 v.t, .slice nA v.n.length nc, .slice sA v.s.length sc, .slice lA v.l.length lc]], by
      have := Rd.new w2 #[.int .i64 v.t, .slice nA v.n.length nc, .slice sA v.s.length sc, .slice lA v.l.length lc] 26 _ rfl
      simpa using this, _, [], rfl, ((((h.gb hg hB).gb k hbw).gb (gb_alloc (gb_refl w2 none) _) (Nat.le_trans hbw k.size)).at_).up (Nat.le_trans (Nat.le_trans hbw k.size) (Nat.le_succ _)), rfl⟩)
  clear hB h hg hwa hrb hc hbw ht htab htt
  go_enter Try.func10, Try.ntmps10
  go_wp2_with fail
  rw [← HWE.out]
  refine (HIT.out wa).mono ?_
  rintro e w1 ⟨rfl, hg1⟩
  obtain ⟨c0, c1, c2, c3⟩ := HC.out.gb hg1
  have b0 : w1.cell? ⟨w.heap.size, 0, none⟩ = some (.int .i64 v.t) := c0
  have b1 : w1.cell? ⟨w.heap.size, 1, none⟩ = some (.slice nA v.n.length nc) := c1
  have b2 : w1.cell? ⟨w.heap.size, 2, none⟩ = some (.slice sA v.s.length sc) := c2
  have b3 : w1.cell? ⟨w.heap.size, 3, none⟩ = some (.slice lA v.l.length lc) := c3
  have HG1 := hide hg1
  clear hg1 c0 c1 c2 c3
  go_wp2_with fail
  refine (HROW.out w1 HG1.out).mono ?_
  rintro e w2 hpost
  have HGA := hide (gb_alloc HG1.out (.cells #[.int .i64 v.t, .slice nA v.n.length nc, .slice sA v.s.length sc, .slice lA v.l.length lc] 26))
  rcases hpost with ⟨hok, xA, xc, yA, yc, zA, zc, f, rfl, ho, hn, hg2⟩ | ⟨hok, rfl, hg2⟩
  · have HO := hide ho
    have HN := hide hn
    have HG2 := hide hg2
    have HOK := hide hok
    have hr1 := ((gb_trans HGA.out HG2.out (.inl rfl)).block _ (blk_lt HRB.out) (by simp)).trans HRB.out
    have p0 : w2.cell? ⟨w.heap.size + 1, 0, none⟩ = some (.int .i64 0) := by rw [blk_cell hr1]; rfl
    have p1 : w2.cell? ⟨w.heap.size + 1, 1, none⟩ = some (.slice none 0 0) := by rw [blk_cell hr1]; rfl
    have p2 : w2.cell? ⟨w.heap.size + 1, 2, none⟩ = some (.slice none 0 0) := by rw [blk_cell hr1]; rfl
    have p3 : w2.cell? ⟨w.heap.size + 1, 3, none⟩ = some (.slice none 0 0) := by rw [blk_cell hr1]; rfl
    have z0 := blk_frozen hr1 0
    have z1 := blk_frozen hr1 1
    have z2 := blk_frozen hr1 2
    have z3 := blk_frozen hr1 3
    clear ho hn hg2 hok hr1
    generalize hrv : rowV [v] i.toNat = rv at *
    have HRV := hide hrv
    clear hrv
    go_wp2_with fail
    refine bodyPost_ret (v := .tuple #[.agg #[.int .i64 rv.t, .slice xA rv.n.length xc, .slice yA rv.s.length yc, .slice zA rv.l.length zc], .int .i64 0]) (by simp [results, Try.results10, go_sem, p0, p1, p2, p3]) rfl ?_
    exact .inl ⟨HOK.out, by rw [HRV.out]; exact NewE.fin HO.out (HN.out.less HGA.out.size) HG.out (gb_trans HGA.out HG2.out (.inl rfl)) (by omega) (by have := HSZ.out; omega)⟩
  · have HG2 := hide hg2
    have HOK := hide hok
    have hr1 := ((gb_trans HGA.out HG2.out (.inl rfl)).block _ (blk_lt HRB.out) (by simp)).trans HRB.out
    have p0 : w2.cell? ⟨w.heap.size + 1, 0, none⟩ = some (.int .i64 0) := by rw [blk_cell hr1]; rfl
    have p1 : w2.cell? ⟨w.heap.size + 1, 1, none⟩ = some (.slice none 0 0) := by rw [blk_cell hr1]; rfl
    have p2 : w2.cell? ⟨w.heap.size + 1, 2, none⟩ = some (.slice none 0 0) := by rw [blk_cell hr1]; rfl
    have p3 : w2.cell? ⟨w.heap.size + 1, 3, none⟩ = some (.slice none 0 0) := by rw [blk_cell hr1]; rfl
    have z0 := blk_frozen hr1 0
    have z1 := blk_frozen hr1 1
    have z2 := blk_frozen hr1 2
    have z3 := blk_frozen hr1 3
    clear hg2 hok hr1
    go_wp2_with fail
    refine bodyPost_ret (v := .tuple #[.agg #[.int .i64 0, .slice none 0 0, .slice none 0 0, .slice none 0 0], .int .i64 33]) (by simp [results, Try.results10, go_sem, p0, p1, p2, p3]) rfl ?_
    exact .inr ⟨HOK.out, rfl, put4_to (gb_trans HG.out (gb_trans HGA.out HG2.out (.inl rfl)) (.inl rfl)) (by omega)⟩

/-- What At answers. -/
def AtPost (r : Option Vl) (w : World) (e : Ending) (w' : World) : Prop := match r with
  | some x => NewE x w e w'
  | none => ErrV 33 w e w'
def rowB (ts : List Vl) (i : Int) : Bool := ts.all fun t => t.l.all fun c => decide (0 ≤ i) && decide (i < (c.count : Int))
theorem rowB_iff (ts : List Vl) (i : Int) : rowB ts i = true ↔ rowOk ts i := by
  unfold rowB rowOk
  simp only [List.all_eq_true, Bool.and_eq_true, decide_eq_true_eq]
/-- At, by definition: d is how deep it looks. -/
def atF : Nat → Vl → Int → Option Vl
  | 0, _, _ => none
  | d + 1, v, i => if v.t = 98 then (if rowB [v] i = true then some (rowV [v] i.toNat) else none)
    else if v.t = 99 ∧ v.l.length = 2 then (if v.l.all isTab = true then (if rowB v.l i = true then some (rowV v.l i.toNat) else none) else atF d (v.l.getD 1 v) i)
    else if 0 ≤ i ∧ i < (v.count : Int) then some (elemV v i.toNat) else none
theorem AtPost.row {ts : List Vl} {i : Int} {w w' : World} {e : Ending} (h : RowPost ts i w e w') : AtPost (if rowB ts i = true then some (rowV ts i.toNat) else none) w e w' := by
  rcases h with ⟨h1, h2⟩ | ⟨h1, h2⟩
  · rw [if_pos ((rowB_iff ts i).2 h1)]; exact h2
  · rw [if_neg (fun h => h1 ((rowB_iff ts i).1 h))]; exact h2

set_option maxHeartbeats 8000000 in
set_option maxRecDepth 100000 in
theorem at_keyed (v : Vl) (i : Int) (w : World) (B : Nat) (nA : Option Addr) (nc : Nat) (sA : Option Addr) (sc : Nat) (lA : Option Addr) (lc : Nat) (htab : v.t = 99) (hl2 : v.l.length = 2) (hall : v.l.all isTab = true) (ht : v.tot ≤ 500000) (hB : B ≤ w.heap.size) (h : VB w B v nA nc sA sc lA lc) :
    Calls Try.prog 10 #[.agg #[.int .i64 v.t, .slice nA v.n.length nc, .slice sA v.s.length sc, .slice lA v.l.length lc], .int .i64 i] w (RowPost v.l i w) := by
  obtain ⟨l1, l2, l3, l4⟩ := Vl.lens v (by omega)
  obtain ⟨wa, hwa⟩ : ∃ wa, wa = (w.alloc (.cells #[.int .i64 v.t, .slice nA v.n.length nc, .slice sA v.s.length sc, .slice lA v.l.length lc] 26)).alloc (.cells #[.int .i64 0, .slice none 0 0, .slice none 0 0, .slice none 0 0] 26) := ⟨_, rfl⟩
  have hg : w.grownBy wa none := by rw [hwa]; exact gb_alloc (gb_alloc (gb_refl w none) _) _
  have hc := (C4.box w (.int .i64 v.t) (.slice nA v.n.length nc) (.slice sA v.s.length sc) (.slice lA v.l.length lc) 26).gb (gb_alloc (gb_refl _ none) (.cells #[.int .i64 0, .slice none 0 0, .slice none 0 0, .slice none 0 0] 26))
  have hrb : wa.heap[w.heap.size + 1]? = some (.cells #[.int .i64 0, .slice none 0 0, .slice none 0 0, .slice none 0 0] 26 (0, 0)) := by rw [hwa]; exact alloc2_blk w _ _
  rw [← hwa] at hc
  have hbw := Nat.le_trans hB hg.size
  have HSZ := hide (show wa.heap.size = w.heap.size + 2 by rw [hwa]; simp)
  have HV := hide (h.gb hg hB)
  have HBW := hide hbw
  have HG := hide hg
  have HRB := hide hrb
  have HC := hide hc
  have HWE := hide hwa
  have HTT := hide ht
  have HIT := hide (fun w2 => isTab_any v (.slice nA v.n.length nc) (.slice sA v.s.length sc) (.slice lA v.l.length lc) w2)
  have htt : isTab v = false := by unfold isTab; rw [htab]; rfl
  rw [htt] at HIT
  have HALL := hide (fun w2 (k : wa.grownBy w2 none) => isTab_all v.l w2 B lA lc l3 (Nat.le_trans hbw k.size) ((h.gb hg hB).gb k hbw).l)
  rw [hall] at HALL
  have HROW := hide (fun w2 (k : wa.grownBy w2 none) => row_walk v.l i w2 B lA lc (by have := Vl.tot_def v; omega) (Nat.le_trans hbw k.size) ((h.gb hg hB).gb k hbw).l)
  have e99 := int_beq_t htab
  have e2 : ((v.l.length : Int) == 2) = true := beq_iff_eq.2 (by omega)
  clear hB h hg hwa hrb hc hbw ht htab htt hall hl2
  go_enter Try.func10, Try.ntmps10
  go_wp2_with fail
  rw [← HWE.out]
  refine (HIT.out wa).mono ?_
  rintro e wb ⟨rfl, hg1⟩
  obtain ⟨c0, c1, c2, c3⟩ := HC.out.gb hg1
  have b0 : wb.cell? ⟨w.heap.size, 0, none⟩ = some (.int .i64 v.t) := c0
  have b1 : wb.cell? ⟨w.heap.size, 1, none⟩ = some (.slice nA v.n.length nc) := c1
  have b2 : wb.cell? ⟨w.heap.size, 2, none⟩ = some (.slice sA v.s.length sc) := c2
  have b3 : wb.cell? ⟨w.heap.size, 3, none⟩ = some (.slice lA v.l.length lc) := c3
  have HGB := hide hg1
  clear hg1 c0 c1 c2 c3
  go_wp2_with fail
  refine (HALL.out wb HGB.out).mono ?_
  rintro e w1 ⟨rfl, hg1⟩
  have hgc := gb_trans HGB.out hg1 (.inl rfl)
  clear b0 b1 b2 b3
  obtain ⟨c0, c1, c2, c3⟩ := HC.out.gb hgc
  have b0 : w1.cell? ⟨w.heap.size, 0, none⟩ = some (.int .i64 v.t) := c0
  have b1 : w1.cell? ⟨w.heap.size, 1, none⟩ = some (.slice nA v.n.length nc) := c1
  have b2 : w1.cell? ⟨w.heap.size, 2, none⟩ = some (.slice sA v.s.length sc) := c2
  have b3 : w1.cell? ⟨w.heap.size, 3, none⟩ = some (.slice lA v.l.length lc) := c3
  have HG1 := hide hgc
  clear hg1 c0 c1 c2 c3 hgc
  go_wp2_with fail
  refine (HROW.out w1 HG1.out).mono ?_
  rintro e w2 hpost
  have HGA := hide HG1.out
  rcases hpost with ⟨hok, xA, xc, yA, yc, zA, zc, f, rfl, ho, hn, hg2⟩ | ⟨hok, rfl, hg2⟩
  · have HO := hide ho
    have HN := hide hn
    have HG2 := hide hg2
    have HOK := hide hok
    have hr1 := ((gb_trans HGA.out HG2.out (.inl rfl)).block _ (blk_lt HRB.out) (by simp)).trans HRB.out
    have p0 : w2.cell? ⟨w.heap.size + 1, 0, none⟩ = some (.int .i64 0) := by rw [blk_cell hr1]; rfl
    have p1 : w2.cell? ⟨w.heap.size + 1, 1, none⟩ = some (.slice none 0 0) := by rw [blk_cell hr1]; rfl
    have p2 : w2.cell? ⟨w.heap.size + 1, 2, none⟩ = some (.slice none 0 0) := by rw [blk_cell hr1]; rfl
    have p3 : w2.cell? ⟨w.heap.size + 1, 3, none⟩ = some (.slice none 0 0) := by rw [blk_cell hr1]; rfl
    have z0 := blk_frozen hr1 0
    have z1 := blk_frozen hr1 1
    have z2 := blk_frozen hr1 2
    have z3 := blk_frozen hr1 3
    clear ho hn hg2 hok hr1
    generalize hrv : rowV v.l i.toNat = rv at *
    have HRV := hide hrv
    clear hrv
    go_wp2_with fail
    refine bodyPost_ret (v := .tuple #[.agg #[.int .i64 rv.t, .slice xA rv.n.length xc, .slice yA rv.s.length yc, .slice zA rv.l.length zc], .int .i64 0]) (by simp [results, Try.results10, go_sem, p0, p1, p2, p3]) rfl ?_
    exact .inl ⟨HOK.out, by rw [HRV.out]; exact NewE.fin HO.out (HN.out.less HGA.out.size) HG.out (gb_trans HGA.out HG2.out (.inl rfl)) (by omega) (by have := HSZ.out; omega)⟩
  · have HG2 := hide hg2
    have HOK := hide hok
    have hr1 := ((gb_trans HGA.out HG2.out (.inl rfl)).block _ (blk_lt HRB.out) (by simp)).trans HRB.out
    have p0 : w2.cell? ⟨w.heap.size + 1, 0, none⟩ = some (.int .i64 0) := by rw [blk_cell hr1]; rfl
    have p1 : w2.cell? ⟨w.heap.size + 1, 1, none⟩ = some (.slice none 0 0) := by rw [blk_cell hr1]; rfl
    have p2 : w2.cell? ⟨w.heap.size + 1, 2, none⟩ = some (.slice none 0 0) := by rw [blk_cell hr1]; rfl
    have p3 : w2.cell? ⟨w.heap.size + 1, 3, none⟩ = some (.slice none 0 0) := by rw [blk_cell hr1]; rfl
    have z0 := blk_frozen hr1 0
    have z1 := blk_frozen hr1 1
    have z2 := blk_frozen hr1 2
    have z3 := blk_frozen hr1 3
    clear hg2 hok hr1
    go_wp2_with fail
    refine bodyPost_ret (v := .tuple #[.agg #[.int .i64 0, .slice none 0 0, .slice none 0 0, .slice none 0 0], .int .i64 33]) (by simp [results, Try.results10, go_sem, p0, p1, p2, p3]) rfl ?_
    exact .inr ⟨HOK.out, rfl, put4_to (gb_trans HG.out (gb_trans HGA.out HG2.out (.inl rfl)) (.inl rfl)) (by omega)⟩

/-- value.At on values of that depth. -/
def AtC (d : Nat) : Prop := ∀ (v : Vl) (i : Int) (w : World) (B : Nat) (nA : Option Addr) (nc : Nat) (sA : Option Addr) (sc : Nat) (lA : Option Addr) (lc : Nat), v.depth ≤ d → v.tot ≤ 500000 → B ≤ w.heap.size → VB w B v nA nc sA sc lA lc →
    Calls Try.prog 10 #[.agg #[.int .i64 v.t, .slice nA v.n.length nc, .slice sA v.s.length sc, .slice lA v.l.length lc], .int .i64 i] w (AtPost (atF d v i) w)
set_option maxHeartbeats 8000000 in
set_option maxRecDepth 100000 in
theorem at_dict {d : Nat} (hIH : AtC d) (v : Vl) (i : Int) (w : World) (B : Nat) (nA : Option Addr) (nc : Nat) (sA : Option Addr) (sc : Nat) (lA : Option Addr) (lc : Nat) (htab : v.t = 99) (hl2 : v.l.length = 2) (h1l : 1 < v.l.length) (hall : v.l.all isTab = false) (r : Option Vl) (HRE : Hid (atF d (v.l[1]'h1l) i = r)) (hd : v.depth ≤ d + 1) (ht : v.tot ≤ 500000) (hB : B ≤ w.heap.size) (h : VB w B v nA nc sA sc lA lc) :
    Calls Try.prog 10 #[.agg #[.int .i64 v.t, .slice nA v.n.length nc, .slice sA v.s.length sc, .slice lA v.l.length lc], .int .i64 i] w (AtPost r w) := by
  obtain ⟨l1, l2, l3, l4⟩ := Vl.lens v (by omega)
  obtain ⟨wa, hwa⟩ : ∃ wa, wa = (w.alloc (.cells #[.int .i64 v.t, .slice nA v.n.length nc, .slice sA v.s.length sc, .slice lA v.l.length lc] 26)).alloc (.cells #[.int .i64 0, .slice none 0 0, .slice none 0 0, .slice none 0 0] 26) := ⟨_, rfl⟩
  have hg : w.grownBy wa none := by rw [hwa]; exact gb_alloc (gb_alloc (gb_refl w none) _) _
  have hc := (C4.box w (.int .i64 v.t) (.slice nA v.n.length nc) (.slice sA v.s.length sc) (.slice lA v.l.length lc) 26).gb (gb_alloc (gb_refl _ none) (.cells #[.int .i64 0, .slice none 0 0, .slice none 0 0, .slice none 0 0] 26))
  have hrb : wa.heap[w.heap.size + 1]? = some (.cells #[.int .i64 0, .slice none 0 0, .slice none 0 0, .slice none 0 0] 26 (0, 0)) := by rw [hwa]; exact alloc2_blk w _ _
  rw [← hwa] at hc
  have hbw := Nat.le_trans hB hg.size
  have HSZ := hide (show wa.heap.size = w.heap.size + 2 by rw [hwa]; simp)
  have HV := hide (h.gb hg hB)
  have HBW := hide hbw
  have HG := hide hg
  have HRB := hide hrb
  have HC := hide hc
  have HWE := hide hwa
  have HTT := hide ht
  have HIT := hide (fun w2 => isTab_any v (.slice nA v.n.length nc) (.slice sA v.s.length sc) (.slice lA v.l.length lc) w2)
  have htt : isTab v = false := by unfold isTab; rw [htab]; rfl
  rw [htt] at HIT
  have HALL := hide (fun w2 (k : wa.grownBy w2 none) => isTab_all v.l w2 B lA lc l3 (Nat.le_trans hbw k.size) ((h.gb hg hB).gb k hbw).l)
  rw [hall] at HALL
  have hpart : v.l[1].tot ≤ 500000 := by
    have := Vl.tot_mem (List.getElem_mem h1l)
    have := Vl.tot_def v
    omega
  have HDP := hide (Vl.depth_part hd (List.getElem_mem h1l))
  obtain ⟨q, o, xA, xc, yA, yc, zA, zc, hlA, hqB, hc4, hvb⟩ := HV.out.l.at_ h1l
  subst hlA
  have HX4 := hide hc4
  have HREC := hide (fun w2 (k : wa.grownBy w2 none) => hIH v.l[1] i w2 B xA xc yA yc zA zc HDP.out hpart (Nat.le_trans hbw k.size) (hvb.gb k hbw))
  have e99 := int_beq_t htab
  have e2 : ((v.l.length : Int) == 2) = true := beq_iff_eq.2 (by omega)
  have h11 : (1 : Int) < (v.l.length : Int) := by omega
  clear hB h hg hwa hrb hc hbw ht htab htt hall hl2 hd hIH hc4 hvb hpart
  go_enter Try.func10, Try.ntmps10
  go_wp2_with fail
  rw [← HWE.out]
  refine (HIT.out wa).mono ?_
  rintro e wb ⟨rfl, hg1⟩
  obtain ⟨c0, c1, c2, c3⟩ := HC.out.gb hg1
  have b0 : wb.cell? ⟨w.heap.size, 0, none⟩ = some (.int .i64 v.t) := c0
  have b1 : wb.cell? ⟨w.heap.size, 1, none⟩ = some (.slice nA v.n.length nc) := c1
  have b2 : wb.cell? ⟨w.heap.size, 2, none⟩ = some (.slice sA v.s.length sc) := c2
  have b3 : wb.cell? ⟨w.heap.size, 3, none⟩ = some (.slice (some ⟨q, o, none⟩) v.l.length lc) := c3
  have HGB := hide hg1
  clear hg1 c0 c1 c2 c3
  go_wp2_with fail
  refine (HALL.out wb HGB.out).mono ?_
  rintro e w1 ⟨rfl, hg1⟩
  have hgc := gb_trans HGB.out hg1 (.inl rfl)
  clear b0 b1 b2 b3
  obtain ⟨c0, c1, c2, c3⟩ := HC.out.gb hgc
  obtain ⟨y0, y1, y2, y3⟩ := HX4.out.gb hgc
  have d0 : w1.cell? ⟨q, o + 4, none⟩ = some (.int .i64 v.l[1].t) := y0
  have d1 : w1.cell? ⟨q, o + 4 + 1, none⟩ = some (.slice xA v.l[1].n.length xc) := y1
  have d2 : w1.cell? ⟨q, o + 4 + 2, none⟩ = some (.slice yA v.l[1].s.length yc) := y2
  have d3 : w1.cell? ⟨q, o + 4 + 3, none⟩ = some (.slice zA v.l[1].l.length zc) := y3
  have b0 : w1.cell? ⟨w.heap.size, 0, none⟩ = some (.int .i64 v.t) := c0
  have b1 : w1.cell? ⟨w.heap.size, 1, none⟩ = some (.slice nA v.n.length nc) := c1
  have b2 : w1.cell? ⟨w.heap.size, 2, none⟩ = some (.slice sA v.s.length sc) := c2
  have b3 : w1.cell? ⟨w.heap.size, 3, none⟩ = some (.slice (some ⟨q, o, none⟩) v.l.length lc) := c3
  have HG1 := hide hgc
  clear hg1 c0 c1 c2 c3 hgc y0 y1 y2 y3
  go_wp2_with fail
  refine (HREC.out w1 HG1.out).mono ?_
  rintro e w2 hpost
  rw [HRE.out] at hpost
  clear HRE HREC
  rcases r with _ | rv
  · obtain ⟨rfl, hg2⟩ := hpost
    have HG2 := hide hg2
    have hr1 := ((gb_trans HG1.out HG2.out (.inl rfl)).block _ (blk_lt HRB.out) (by simp)).trans HRB.out
    have p0 : w2.cell? ⟨w.heap.size + 1, 0, none⟩ = some (.int .i64 0) := by rw [blk_cell hr1]; rfl
    have p1 : w2.cell? ⟨w.heap.size + 1, 1, none⟩ = some (.slice none 0 0) := by rw [blk_cell hr1]; rfl
    have p2 : w2.cell? ⟨w.heap.size + 1, 2, none⟩ = some (.slice none 0 0) := by rw [blk_cell hr1]; rfl
    have p3 : w2.cell? ⟨w.heap.size + 1, 3, none⟩ = some (.slice none 0 0) := by rw [blk_cell hr1]; rfl
    have z0 := blk_frozen hr1 0
    have z1 := blk_frozen hr1 1
    have z2 := blk_frozen hr1 2
    have z3 := blk_frozen hr1 3
    clear hg2 hr1
    go_wp2_with fail
    refine bodyPost_ret (v := .tuple #[.agg #[.int .i64 0, .slice none 0 0, .slice none 0 0, .slice none 0 0], .int .i64 33]) (by simp [results, Try.results10, go_sem, p0, p1, p2, p3]) rfl ?_
    exact ⟨rfl, put4_to (gb_trans HG.out (gb_trans HG1.out HG2.out (.inl rfl)) (.inl rfl)) (by omega)⟩
  · obtain ⟨nA', nc', sA', sc', lA', lc', f, rfl, ho, hn, hg2⟩ := hpost
    have HO := hide ho
    have HN := hide hn
    have HG2 := hide hg2
    have hr1 := ((gb_trans HG1.out HG2.out (.inl rfl)).block _ (blk_lt HRB.out) (by simp)).trans HRB.out
    have p0 : w2.cell? ⟨w.heap.size + 1, 0, none⟩ = some (.int .i64 0) := by rw [blk_cell hr1]; rfl
    have p1 : w2.cell? ⟨w.heap.size + 1, 1, none⟩ = some (.slice none 0 0) := by rw [blk_cell hr1]; rfl
    have p2 : w2.cell? ⟨w.heap.size + 1, 2, none⟩ = some (.slice none 0 0) := by rw [blk_cell hr1]; rfl
    have p3 : w2.cell? ⟨w.heap.size + 1, 3, none⟩ = some (.slice none 0 0) := by rw [blk_cell hr1]; rfl
    have z0 := blk_frozen hr1 0
    have z1 := blk_frozen hr1 1
    have z2 := blk_frozen hr1 2
    have z3 := blk_frozen hr1 3
    clear ho hn hg2 hr1
    go_wp2_with fail
    refine bodyPost_ret (v := .tuple #[.agg #[.int .i64 rv.t, .slice nA' rv.n.length nc', .slice sA' rv.s.length sc', .slice lA' rv.l.length lc'], .int .i64 0]) (by simp [results, Try.results10, go_sem, p0, p1, p2, p3]) rfl ?_
    exact NewE.fin HO.out (HN.out.less HG1.out.size) HG.out (gb_trans HG1.out HG2.out (.inl rfl)) (by omega) (by have := HSZ.out; omega)

set_option maxHeartbeats 8000000 in
set_option maxRecDepth 100000 in
theorem at_else (v : Vl) (i : Int) (w : World) (B : Nat) (nA : Option Addr) (nc : Nat) (sA : Option Addr) (sc : Nat) (lA : Option Addr) (lc : Nat) (ht98 : ¬ v.t = 98) (ht99 : ¬ (v.t = 99 ∧ v.l.length = 2)) (ht : v.tot ≤ 500000) (hB : B ≤ w.heap.size) (h : VB w B v nA nc sA sc lA lc) :
    Calls Try.prog 10 #[.agg #[.int .i64 v.t, .slice nA v.n.length nc, .slice sA v.s.length sc, .slice lA v.l.length lc], .int .i64 i] w (AtPost (if 0 ≤ i ∧ i < (v.count : Int) then some (elemV v i.toNat) else none) w) := by
  obtain ⟨l1, l2, l3, l4⟩ := Vl.lens v (by omega)
  obtain ⟨wa, hwa⟩ : ∃ wa, wa = (w.alloc (.cells #[.int .i64 v.t, .slice nA v.n.length nc, .slice sA v.s.length sc, .slice lA v.l.length lc] 26)).alloc (.cells #[.int .i64 0, .slice none 0 0, .slice none 0 0, .slice none 0 0] 26) := ⟨_, rfl⟩
  have hg : w.grownBy wa none := by rw [hwa]; exact gb_alloc (gb_alloc (gb_refl w none) _) _
  have hc := (C4.box w (.int .i64 v.t) (.slice nA v.n.length nc) (.slice sA v.s.length sc) (.slice lA v.l.length lc) 26).gb (gb_alloc (gb_refl _ none) (.cells #[.int .i64 0, .slice none 0 0, .slice none 0 0, .slice none 0 0] 26))
  have hrb : wa.heap[w.heap.size + 1]? = some (.cells #[.int .i64 0, .slice none 0 0, .slice none 0 0, .slice none 0 0] 26 (0, 0)) := by rw [hwa]; exact alloc2_blk w _ _
  rw [← hwa] at hc
  have hbw := Nat.le_trans hB hg.size
  have HSZ := hide (show wa.heap.size = w.heap.size + 2 by rw [hwa]; simp)
  have HV := hide (h.gb hg hB)
  have HBW := hide hbw
  have HG := hide hg
  have HRB := hide hrb
  have HC := hide hc
  have HWE := hide hwa
  have HTT := hide ht
  have HIT := hide (fun w2 => isTab_any v (.slice nA v.n.length nc) (.slice sA v.s.length sc) (.slice lA v.l.length lc) w2)
  have htt : isTab v = false := int_beq_f ht98
  rw [htt] at HIT
  have ht' : v.tot ≤ 1100000 := by omega
  have HEG := hide (fun w2 (k : wa.grownBy w2 none) (hin : 0 ≤ i ∧ i < (v.count : Int)) => elem_gotI v i w2 B nA nc sA sc lA lc hin ht' (Nat.le_trans hbw k.size) ((h.gb hg hB).gb k hbw))
  have HEE := hide (fun w2 (k : wa.grownBy w2 none) (hin : i < 0 ∨ (v.count : Int) ≤ i) => elem_err v i w2 B nA nc sA sc lA lc hin ht' (Nat.le_trans hbw k.size) ((h.gb hg hB).gb k hbw))
  have HET := hide (fun (hin : 0 ≤ i ∧ i < (v.count : Int)) => Nat.le_trans (elemV_tot v i.toNat (by omega)) ht')
  have hcase : v.t = 99 ∧ ¬ v.l.length = 2 ∨ ¬ v.t = 99 := by
    by_cases h99 : v.t = 99
    · exact .inl ⟨h99, fun h => ht99 ⟨h99, h⟩⟩
    · exact .inr h99
  have HB := hide hB
  clear hB h hg hwa hrb hc hbw ht ht98 ht99 htt ht'
  by_cases hin : 0 ≤ i ∧ i < (v.count : Int)
  · rw [if_pos hin]
    have HE1 := hide (fun w2 k => HEG.out w2 k hin)
    have HET1 := hide (HET.out hin)
    generalize elemV v i.toNat = x at *
    clear hin HEG HEE HET
    rcases hcase with ⟨h1, h2⟩ | h1
    · have e99 := int_beq_t h1
      have e2 : ((v.l.length : Int) == 2) = false := beq_eq_false_iff_ne.2 (by omega)
      clear h1 h2
      go_enter Try.func10, Try.ntmps10
      go_wp2_with fail
      rw [← HWE.out]
      refine (HIT.out wa).mono ?_
      rintro e w1 ⟨rfl, hg1⟩
      obtain ⟨c0, c1, c2, c3⟩ := HC.out.gb hg1
      have b0 : w1.cell? ⟨w.heap.size, 0, none⟩ = some (.int .i64 v.t) := c0
      have b1 : w1.cell? ⟨w.heap.size, 1, none⟩ = some (.slice nA v.n.length nc) := c1
      have b2 : w1.cell? ⟨w.heap.size, 2, none⟩ = some (.slice sA v.s.length sc) := c2
      have b3 : w1.cell? ⟨w.heap.size, 3, none⟩ = some (.slice lA v.l.length lc) := c3
      have HG1 := hide hg1
      clear hg1 c0 c1 c2 c3
      go_wp2_with fail
      refine (HE1.out w1 HG1.out).mono ?_
      rintro e w2 ⟨xA, xc, yA, yc, zA, zc, rfl, hvb, hg2⟩
      have hgA : wa.grownBy (w2.alloc (.cells #[.int .i64 x.t, .slice xA x.n.length xc, .slice yA x.s.length yc, .slice zA x.l.length zc] 26)) none := gb_alloc (gb_trans HG1.out hg2 (.inl rfl)) _
      have HCL := hide (vClone_any x _ B xA xc yA yc zA zc HET1.out (Nat.le_trans HBW.out hgA.size) (hvb.gb (gb_alloc (gb_refl w2 none) (.cells #[.int .i64 x.t, .slice xA x.n.length xc, .slice yA x.s.length yc, .slice zA x.l.length zc] 26)) (Nat.le_trans HBW.out (gb_trans HG1.out hg2 (.inl rfl)).size)))
      have HGA := hide hgA
      clear hvb hg2 hgA
      go_wp2_with fail
      refine HCL.out.mono ?_
      rintro e w3 ⟨nA', nc', sA', sc', lA', lc', f, rfl, ho, hn, hg3⟩
      have HO := hide ho
      have HN := hide hn
      have HG3 := hide hg3
      have hr1 := ((gb_trans HGA.out HG3.out (.inl rfl)).block _ (blk_lt HRB.out) (by simp)).trans HRB.out
      have p0 : w3.cell? ⟨w.heap.size + 1, 0, none⟩ = some (.int .i64 0) := by rw [blk_cell hr1]; rfl
      have p1 : w3.cell? ⟨w.heap.size + 1, 1, none⟩ = some (.slice none 0 0) := by rw [blk_cell hr1]; rfl
      have p2 : w3.cell? ⟨w.heap.size + 1, 2, none⟩ = some (.slice none 0 0) := by rw [blk_cell hr1]; rfl
      have p3 : w3.cell? ⟨w.heap.size + 1, 3, none⟩ = some (.slice none 0 0) := by rw [blk_cell hr1]; rfl
      have z0 := blk_frozen hr1 0
      have z1 := blk_frozen hr1 1
      have z2 := blk_frozen hr1 2
      have z3 := blk_frozen hr1 3
      clear ho hn hg3 hr1
      go_wp2_with fail
      refine bodyPost_ret (v := .tuple #[.agg #[.int .i64 x.t, .slice nA' x.n.length nc', .slice sA' x.s.length sc', .slice lA' x.l.length lc'], .int .i64 0]) (by simp [results, Try.results10, go_sem, p0, p1, p2, p3]) rfl ?_
      exact NewE.fin HO.out (HN.out.less HGA.out.size) HG.out (gb_trans HGA.out HG3.out (.inl rfl)) (by omega) (by have := HSZ.out; omega)
    · have e99 := int_beq_f h1
      clear h1
      go_enter Try.func10, Try.ntmps10
      go_wp2_with fail
      rw [← HWE.out]
      refine (HIT.out wa).mono ?_
      rintro e w1 ⟨rfl, hg1⟩
      obtain ⟨c0, c1, c2, c3⟩ := HC.out.gb hg1
      have b0 : w1.cell? ⟨w.heap.size, 0, none⟩ = some (.int .i64 v.t) := c0
      have b1 : w1.cell? ⟨w.heap.size, 1, none⟩ = some (.slice nA v.n.length nc) := c1
      have b2 : w1.cell? ⟨w.heap.size, 2, none⟩ = some (.slice sA v.s.length sc) := c2
      have b3 : w1.cell? ⟨w.heap.size, 3, none⟩ = some (.slice lA v.l.length lc) := c3
      have HG1 := hide hg1
      clear hg1 c0 c1 c2 c3
      go_wp2_with fail
      refine (HE1.out w1 HG1.out).mono ?_
      rintro e w2 ⟨xA, xc, yA, yc, zA, zc, rfl, hvb, hg2⟩
      have hgA : wa.grownBy (w2.alloc (.cells #[.int .i64 x.t, .slice xA x.n.length xc, .slice yA x.s.length yc, .slice zA x.l.length zc] 26)) none := gb_alloc (gb_trans HG1.out hg2 (.inl rfl)) _
      have HCL := hide (vClone_any x _ B xA xc yA yc zA zc HET1.out (Nat.le_trans HBW.out hgA.size) (hvb.gb (gb_alloc (gb_refl w2 none) (.cells #[.int .i64 x.t, .slice xA x.n.length xc, .slice yA x.s.length yc, .slice zA x.l.length zc] 26)) (Nat.le_trans HBW.out (gb_trans HG1.out hg2 (.inl rfl)).size)))
      have HGA := hide hgA
      clear hvb hg2 hgA
      go_wp2_with fail
      refine HCL.out.mono ?_
      rintro e w3 ⟨nA', nc', sA', sc', lA', lc', f, rfl, ho, hn, hg3⟩
      have HO := hide ho
      have HN := hide hn
      have HG3 := hide hg3
      have hr1 := ((gb_trans HGA.out HG3.out (.inl rfl)).block _ (blk_lt HRB.out) (by simp)).trans HRB.out
      have p0 : w3.cell? ⟨w.heap.size + 1, 0, none⟩ = some (.int .i64 0) := by rw [blk_cell hr1]; rfl
      have p1 : w3.cell? ⟨w.heap.size + 1, 1, none⟩ = some (.slice none 0 0) := by rw [blk_cell hr1]; rfl
      have p2 : w3.cell? ⟨w.heap.size + 1, 2, none⟩ = some (.slice none 0 0) := by rw [blk_cell hr1]; rfl
      have p3 : w3.cell? ⟨w.heap.size + 1, 3, none⟩ = some (.slice none 0 0) := by rw [blk_cell hr1]; rfl
      have z0 := blk_frozen hr1 0
      have z1 := blk_frozen hr1 1
      have z2 := blk_frozen hr1 2
      have z3 := blk_frozen hr1 3
      clear ho hn hg3 hr1
      go_wp2_with fail
      refine bodyPost_ret (v := .tuple #[.agg #[.int .i64 x.t, .slice nA' x.n.length nc', .slice sA' x.s.length sc', .slice lA' x.l.length lc'], .int .i64 0]) (by simp [results, Try.results10, go_sem, p0, p1, p2, p3]) rfl ?_
      exact NewE.fin HO.out (HN.out.less HGA.out.size) HG.out (gb_trans HGA.out HG3.out (.inl rfl)) (by omega) (by have := HSZ.out; omega)
  · rw [if_neg hin]
    have HE1 := hide (fun w2 k => HEE.out w2 k (by omega))
    clear hin HEG HEE HET
    rcases hcase with ⟨h1, h2⟩ | h1
    · have e99 := int_beq_t h1
      have e2 : ((v.l.length : Int) == 2) = false := beq_eq_false_iff_ne.2 (by omega)
      clear h1 h2
      go_enter Try.func10, Try.ntmps10
      go_wp2_with fail
      rw [← HWE.out]
      refine (HIT.out wa).mono ?_
      rintro e w1 ⟨rfl, hg1⟩
      obtain ⟨c0, c1, c2, c3⟩ := HC.out.gb hg1
      have b0 : w1.cell? ⟨w.heap.size, 0, none⟩ = some (.int .i64 v.t) := c0
      have b1 : w1.cell? ⟨w.heap.size, 1, none⟩ = some (.slice nA v.n.length nc) := c1
      have b2 : w1.cell? ⟨w.heap.size, 2, none⟩ = some (.slice sA v.s.length sc) := c2
      have b3 : w1.cell? ⟨w.heap.size, 3, none⟩ = some (.slice lA v.l.length lc) := c3
      have HG1 := hide hg1
      clear hg1 c0 c1 c2 c3
      go_wp2_with fail
      refine (HE1.out w1 HG1.out).mono ?_
      rintro e w2 ⟨rfl, hg2⟩
      have hgA : wa.grownBy (w2.alloc (.cells #[.int .i64 0, .slice none 0 0, .slice none 0 0, .slice none 0 0] 26)) none := gb_alloc (gb_trans HG1.out hg2 (.inl rfl)) _
      have HGA := hide hgA
      have hr1 := (hgA.block _ (blk_lt HRB.out) (by simp)).trans HRB.out
      have p0 : (w2.alloc (.cells #[.int .i64 0, .slice none 0 0, .slice none 0 0, .slice none 0 0] 26)).cell? ⟨w.heap.size + 1, 0, none⟩ = some (.int .i64 0) := by rw [blk_cell hr1]; rfl
      have p1 : (w2.alloc (.cells #[.int .i64 0, .slice none 0 0, .slice none 0 0, .slice none 0 0] 26)).cell? ⟨w.heap.size + 1, 1, none⟩ = some (.slice none 0 0) := by rw [blk_cell hr1]; rfl
      have p2 : (w2.alloc (.cells #[.int .i64 0, .slice none 0 0, .slice none 0 0, .slice none 0 0] 26)).cell? ⟨w.heap.size + 1, 2, none⟩ = some (.slice none 0 0) := by rw [blk_cell hr1]; rfl
      have p3 : (w2.alloc (.cells #[.int .i64 0, .slice none 0 0, .slice none 0 0, .slice none 0 0] 26)).cell? ⟨w.heap.size + 1, 3, none⟩ = some (.slice none 0 0) := by rw [blk_cell hr1]; rfl
      have z0 := blk_frozen hr1 0
      have z1 := blk_frozen hr1 1
      have z2 := blk_frozen hr1 2
      have z3 := blk_frozen hr1 3
      clear hgA hg2 hr1
      go_wp2_with fail
      refine bodyPost_ret (v := .tuple #[.agg #[.int .i64 0, .slice none 0 0, .slice none 0 0, .slice none 0 0], .int .i64 33]) (by simp [results, Try.results10, go_sem, p0, p1, p2, p3]) rfl ?_
      exact ⟨rfl, put4_to (gb_trans HG.out HGA.out (.inl rfl)) (by omega)⟩
    · have e99 := int_beq_f h1
      clear h1
      go_enter Try.func10, Try.ntmps10
      go_wp2_with fail
      rw [← HWE.out]
      refine (HIT.out wa).mono ?_
      rintro e w1 ⟨rfl, hg1⟩
      obtain ⟨c0, c1, c2, c3⟩ := HC.out.gb hg1
      have b0 : w1.cell? ⟨w.heap.size, 0, none⟩ = some (.int .i64 v.t) := c0
      have b1 : w1.cell? ⟨w.heap.size, 1, none⟩ = some (.slice nA v.n.length nc) := c1
      have b2 : w1.cell? ⟨w.heap.size, 2, none⟩ = some (.slice sA v.s.length sc) := c2
      have b3 : w1.cell? ⟨w.heap.size, 3, none⟩ = some (.slice lA v.l.length lc) := c3
      have HG1 := hide hg1
      clear hg1 c0 c1 c2 c3
      go_wp2_with fail
      refine (HE1.out w1 HG1.out).mono ?_
      rintro e w2 ⟨rfl, hg2⟩
      have hgA : wa.grownBy (w2.alloc (.cells #[.int .i64 0, .slice none 0 0, .slice none 0 0, .slice none 0 0] 26)) none := gb_alloc (gb_trans HG1.out hg2 (.inl rfl)) _
      have HGA := hide hgA
      have hr1 := (hgA.block _ (blk_lt HRB.out) (by simp)).trans HRB.out
      have p0 : (w2.alloc (.cells #[.int .i64 0, .slice none 0 0, .slice none 0 0, .slice none 0 0] 26)).cell? ⟨w.heap.size + 1, 0, none⟩ = some (.int .i64 0) := by rw [blk_cell hr1]; rfl
      have p1 : (w2.alloc (.cells #[.int .i64 0, .slice none 0 0, .slice none 0 0, .slice none 0 0] 26)).cell? ⟨w.heap.size + 1, 1, none⟩ = some (.slice none 0 0) := by rw [blk_cell hr1]; rfl
      have p2 : (w2.alloc (.cells #[.int .i64 0, .slice none 0 0, .slice none 0 0, .slice none 0 0] 26)).cell? ⟨w.heap.size + 1, 2, none⟩ = some (.slice none 0 0) := by rw [blk_cell hr1]; rfl
      have p3 : (w2.alloc (.cells #[.int .i64 0, .slice none 0 0, .slice none 0 0, .slice none 0 0] 26)).cell? ⟨w.heap.size + 1, 3, none⟩ = some (.slice none 0 0) := by rw [blk_cell hr1]; rfl
      have z0 := blk_frozen hr1 0
      have z1 := blk_frozen hr1 1
      have z2 := blk_frozen hr1 2
      have z3 := blk_frozen hr1 3
      clear hgA hg2 hr1
      go_wp2_with fail
      refine bodyPost_ret (v := .tuple #[.agg #[.int .i64 0, .slice none 0 0, .slice none 0 0, .slice none 0 0], .int .i64 33]) (by simp [results, Try.results10, go_sem, p0, p1, p2, p3]) rfl ?_
      exact ⟨rfl, put4_to (gb_trans HG.out HGA.out (.inl rfl)) (by omega)⟩

theorem at_d (d : Nat) : AtC d := by
  induction d with
  | zero => intro v; intros; rw [Vl.depth_def] at *; omega
  | succ d ih =>
    intro v i w B nA nc sA sc lA lc hd ht hB h
    unfold atF
    by_cases h98 : v.t = 98
    · rw [if_pos h98]
      exact (at_tab v i w B nA nc sA sc lA lc h98 ht hB h).mono fun e w' hp => AtPost.row hp
    · rw [if_neg h98]
      by_cases h99 : v.t = 99 ∧ v.l.length = 2
      · rw [if_pos h99]
        by_cases ha : v.l.all isTab = true
        · rw [if_pos ha]
          exact (at_keyed v i w B nA nc sA sc lA lc h99.1 h99.2 ha ht hB h).mono fun e w' hp => AtPost.row hp
        · rw [if_neg ha]
          have h1l : 1 < v.l.length := by omega
          have := at_dict ih v i w B nA nc sA sc lA lc h99.1 h99.2 h1l (Bool.eq_false_iff.2 ha) _ (hide rfl) hd ht hB h
          rwa [List.getD_eq_getElem?_getD, List.getElem?_eq_getElem h1l, Option.getD_some]
      · rw [if_neg h99]
        exact at_else v i w B nA nc sA sc lA lc h98 h99 ht hB h
end Go.Proofs.Ytniliccobkhnlaa
