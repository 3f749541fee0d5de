/-
  live: a vector and a table are built.
-/
import Derived.Test.YtfckmkpfhchggaaVu
import Derived.Test.YtfckmkpfhchggaaWc
import Derived.Test.YtfckmkpfhchggaaWl
import Derived.Test.YtfckmkpfhchggaaVq
import Derived.Test.YtfckmkpfhchggaaGh
import Derived.Deep.CutBlock
import Derived.Deep.DeepCutAuto
namespace Go.Proofs.Ytfckmkpfhchggaa
open Go.RowKit
attribute [local go_sem ↓] Go.wp_at_zero Go.wp_at_succ

def vA : Vl := .mk 2 [1, 2] [] []
def vXY : Vl := .mk 3 [] [⟨#[120]⟩, ⟨#[121]⟩] []
def vT : Vl := .mk 98 [] [⟨#[97]⟩, ⟨#[98]⟩] [vA, vXY]
def vX : Vl := .mk (-2) [2] [] []
def vYs : Vl := .mk (-3) [] [⟨#[121]⟩] []
def vSab : Vl := .mk 3 [] [⟨#[97]⟩, ⟨#[98]⟩] []
def vYl : Vl := .mk 0 [] [] [vX, vYs]
def vY : Vl := .mk 99 [] [] [vSab, vYl]
theorem atA1 : atF 5 vA 1 = some vX := by rfl
theorem atT1 : atF 5 vT 1 = some vY := by rfl
theorem atA2 : atF 5 vA 2 = none := by rfl
theorem good_A : GoodV 2 vA := ⟨by kernel_rfl, by kernel_rfl, by kernel_rfl, fun w B nA nc sA sc lA lc hB h => formed_int vA w B nA nc sA sc lA lc rfl (by decide +kernel) hB h, by kernel_rfl, fun x hx => by simp [vA, Vl.l] at hx⟩
theorem good_XY : GoodV 2 vXY := ⟨by kernel_rfl, by kernel_rfl, by kernel_rfl, fun w B nA nc sA sc lA lc hB h => formed_sym vXY w B nA nc sA sc lA lc rfl (by kernel_rfl) (by decide +kernel) hB h, by kernel_rfl, fun x hx => by simp [vXY, Vl.l] at hx⟩
theorem good_T : GoodV 3 vT := ⟨by kernel_rfl, by kernel_rfl, by kernel_rfl, fun w B nA nc sA sc lA lc hB h => formed_tab vT w B nA nc sA sc lA lc rfl (by kernel_rfl) rfl (by kernel_rfl) (by decide +kernel) hB h, by kernel_rfl, fun x hx => by
  simp only [vT, Vl.l, List.mem_cons, List.not_mem_nil, or_false] at hx
  rcases hx with rfl | rfl
  · exact good_A
  · exact good_XY⟩
theorem gpn {w : World} (n : Int) : gUpon Try.prog w (fun v _ => v = .int .i64 n) (.ok (.enter 13 #[.int .i64 n]) w) := gUpon_same (vnum_any n w)
theorem of_lit : ofV [.mk (-2) [1] [] [], .mk (-2) [2] [] []] = vA := by
  unfold ofV
  rw [if_pos (by kernel_rfl)]
  rfl
theorem RdV.lit2 {w : World} {a b : Vl} {x0 x1 x2 x3 y0 y1 y2 y3 : Value} (h1 : VAt w w.heap.size a [x0, x1, x2, x3]) (h2 : VAt w w.heap.size b [y0, y1, y2, y3]) :
    RdV (w.alloc (.cells #[x0, x1, x2, x3, y0, y1, y2, y3] 26)) (w.heap.size + 1) (some ⟨w.heap.size, 0, none⟩) [a, b] := by
  have hg := gb_alloc (gb_refl w none) (.cells #[x0, x1, x2, x3, y0, y1, y2, y3] 26)
  exact ⟨[[x0, x1, x2, x3], [y0, y1, y2, y3]], Rd.new w _ _ _ rfl, _, _, rfl, (h1.gb hg (Nat.le_refl _)).up (Nat.le_succ _), _, _, rfl, (h2.gb hg (Nat.le_refl _)).up (Nat.le_succ _), rfl⟩

/-- A value in a block of its own. -/
def Loc (w : World) (b : Nat) (v : Vl) : Prop := ∃ nA nc sA sc lA lc, C4 w b 0 (.int .i64 v.t) (.slice nA v.n.length nc) (.slice sA v.s.length sc) (.slice lA v.l.length lc) ∧ VB w w.heap.size v nA nc sA sc lA lc ∧ b < w.heap.size
theorem Loc.gb {w w' : World} {b : Nat} {v : Vl} (h : Loc w b v) (hg : w.grownBy w' none) : Loc w' b v := by
  obtain ⟨nA, nc, sA, sc, lA, lc, h1, h2, h3⟩ := h
  have := h2.gb hg (Nat.le_refl _)
  exact ⟨nA, nc, sA, sc, lA, lc, h1.gb hg, ⟨this.n.more hg.size, this.s.more hg.size, this.l.up hg.size, this.hn, this.hs, this.hl⟩, Nat.lt_of_lt_of_le h3 hg.size⟩

set_option maxHeartbeats 4000000 in
set_option maxRecDepth 100000 in
theorem live_any (w : World) : Calls Try.prog 9 #[] w fun e w' => e = .returned (.bool true) ∧ w.grownBy w' none := by
  go_enter Try.func9, Try.ntmps9
  go_upto_region 2 with (first
    | (go_at_call 39; (with_reducible refine (atomI_any 1 w).mono ?_); rintro e w1 ⟨nA1, nc1, sA1, sc1, lA1, lc1, f1, rfl, ho1, hn1, hg1⟩; have HO1 := hide ho1; have HG1 := hide hg1; clear ho1 hn1 hg1)
    | (go_at_call 39; refine (atomI_any 2 w1).mono ?_; rintro e w2 ⟨nA2, nc2, sA2, sc2, lA2, lc2, f2, rfl, ho2, hn2, hg2⟩; have HG2 := hide hg2; have HRV := hide (RdV.lit2 ((VOw.at_ _ _ _ HO1.out (fun b hb => VOw.lt _ _ _ HO1.out b hb)).gb hg2 (Nat.le_refl _) |>.up hg2.size) (VOw.at_ _ _ _ ho2 (fun b hb => VOw.lt _ _ _ ho2 b hb))); clear ho2 hn2 hg2)
    | (go_at_call 34; go_loud (refine (of_any _ _ (w2.heap.size + 1) _ 2 (by decide) (by simp) HRV.out).mono ?_; rw [of_lit]; rintro e w3 ⟨nA3, nc3, sA3, sc3, lA3, lc3, f3, rfl, ho3, hn3, hg3⟩; have HO3 := hide ho3; have HG3 := hide (show w2.grownBy w3 none from gb_trans (gb_alloc (gb_refl w2 none) _) hg3 (.inl rfl)); clear ho3 hn3 hg3)))
  obtain ⟨w4, hw4⟩ : ∃ w4, w4 = w3.alloc (.cells #[.int .i64 vA.t, .slice nA3 vA.n.length nc3, .slice sA3 vA.s.length sc3, .slice lA3 vA.l.length lc3] 26) := ⟨_, rfl⟩
  have hc4 := C4.box w3 (.int .i64 vA.t) (.slice nA3 vA.n.length nc3) (.slice sA3 vA.s.length sc3) (.slice lA3 vA.l.length lc3) 26
  rw [← hw4] at hc4 ⊢
  have HG4 := hide (show w3.grownBy w4 none by rw [hw4]; exact gb_alloc (gb_refl w3 none) _)
  have HC4 := hide hc4
  clear hc4 hw4
  refine wp_region_facts' 7 (by kernel_rfl) (by kernel_rfl) ?_
  intro A O W L HA HO HW HL
  simp only [List.take_succ_cons, List.take_zero]
  have HS := hide (show A.tmps.size = 88 by rw [HA.out]; rfl)
  have HGW := hide (show w4.grownBy W none by rw [HW.out]; exact gb_drew (gb_refl w4 none))
  have A1 := hide (show A.eval (.tmp 1) = .pointer (some ⟨w3.heap.size, 0, none⟩) by rw [HA.out]; rfl)
  refine wpFacts_step (RowF w4.heap.size 2 #[.string ⟨#[97]⟩, .string ⟨#[98]⟩] 9) rfl (RowF.up _ _ _ _) ?_ ?_
  · intro a w hw hl
    go_simp
    exact RowF.new _ _ (Nat.le_trans HGW.out.size hw.size)
  refine wpFacts_lit (.agg #[.int .i64 vA.t, .slice nA3 vA.n.length nc3, .slice sA3 vA.s.length sc3, .slice lA3 vA.l.length lc3]) rfl ?_ ?_
  · intro a w hw hl
    have e1 := (hl 1 (by simp [Op.operands]) (by rw [HS.out]; decide)).trans A1.out
    obtain ⟨c0, c1, c2, c3⟩ := HC4.out.gb (gb_trans HGW.out hw (.inl rfl))
    clear hl
    go_simp
  refine wpFacts_step (RowF w4.heap.size 2 #[.string ⟨#[120]⟩, .string ⟨#[121]⟩] 9) rfl (RowF.up _ _ _ _) ?_ ?_
  · intro a w hw hl
    go_simp
    exact RowF.new _ _ (Nat.le_trans HGW.out.size hw.size)
  refine wpFacts_step (ValO vXY) rfl (ValO.up _) ?_ ?_
  · intro a w hw hl
    have h15 : RowF w4.heap.size 2 #[.string ⟨#[120]⟩, .string ⟨#[121]⟩] 9 (a.tmps[15]?.getD undef) w := hl 15 (by simp [Op.operands, Call.operands]) (by rw [HS.out]; decide)
    obtain ⟨b, e15, hb, _⟩ := h15
    clear hl
    go_simp
    exact ValO.call (sym_any (some ⟨b, 0, none⟩) 2 w.heap.size [⟨#[120]⟩, ⟨#[121]⟩] w (rd_row hb rfl (by simp [strs])) (Nat.le_refl _) (by simp))
  refine wpFacts_step (RdVO [vA, vXY]) rfl (RdVO.up _) ?_ ?_
  · intro a w hw hl
    have e14 : a.tmps[14]?.getD undef = .agg #[.int .i64 vA.t, .slice nA3 vA.n.length nc3, .slice sA3 vA.s.length sc3, .slice lA3 vA.l.length lc3] := hl 14 (by simp [Op.operands]) (by rw [HS.out]; decide)
    have h16 : ValO vXY (a.tmps[16]?.getD undef) w := hl 16 (by simp [Op.operands]) (by rw [HS.out]; decide)
    obtain ⟨nA, nc, sA, sc, lA, lc, f, e16, hv⟩ := h16
    have HVB := hide hv
    clear hl hv
    go_simp
    exact RdVO.two (HO3.out.gb (gb_trans HG4.out (gb_trans HGW.out hw (.inl rfl)) (.inl rfl))) HVB.out
  refine wpFacts_step (ValO vT) rfl (ValO.up _) ?_ ?_
  · intro a w hw hl
    have h13 : RowF w4.heap.size 2 #[.string ⟨#[97]⟩, .string ⟨#[98]⟩] 9 (a.tmps[13]?.getD undef) w := hl 13 (by simp [Op.operands]) (by rw [HS.out]; decide)
    have h17 : RdVO [vA, vXY] (a.tmps[17]?.getD undef) w := hl 17 (by simp [Op.operands]) (by rw [HS.out]; decide)
    obtain ⟨b, e13, hb, _⟩ := h13
    obtain ⟨A7, c7, xs7, fa7, fb7, e17, hc7, hr7, ha7⟩ := h17
    have HB7 := hide hb
    have HR7 := hide hr7
    have HA7 := hide ha7
    clear hl hb hr7 ha7
    go_simp
    exact ValO.mk_ (v := vT) ⟨Nat.le_refl _, Nat.le_refl _, hc7⟩ Own.nil_ (own_row HB7.out rfl (by simp [strs, vT, Vl.s])) HR7.out HA7.out
  refine wpFacts_step (BoxF w4.heap.size zero4 26) rfl (BoxF.up _ _ _) ?_ ?_
  · intro a w hw hl
    clear hl
    go_simp
    exact BoxF.new _ _ (Nat.le_trans HGW.out.size hw.size)
  refine HL.out _ (fun a' w5 hc => ?_)
  have h2 : BoxF w4.heap.size zero4 26 (a'.eval (.tmp 2)) w5 := hc.fact 2 (by rw [HS.out]; decide)
  have h18 : ValO vT (a'.eval (.tmp 18)) w5 := hc.fact 18 (by rw [HS.out]; decide)
  have hg5 := gb_trans HGW.out hc.grown (.inl rfl)
  have hfr := hc.frame [13, 14, 15, 16, 17, 18, 2] (by rw [HO.out]; kernel_rfl)
  rw [hfr]
  clear hfr hc
  rw [HA.out]
  clear HA HO HL
  simp only [List.drop_succ_cons, List.drop_zero, List.foldl_cons, List.foldl_nil, Act.put, List.setIfInBounds_toArray, List.set_cons_succ, List.set_cons_zero]
  obtain ⟨g5, e2, hb5, hle5⟩ := h2
  obtain ⟨nAT, ncT, sAT, scT, lAT, lcT, fT, e18, hv5⟩ := h18
  rw [e2, e18]
  generalize a'.eval (.tmp 13) = v13
  generalize a'.eval (.tmp 14) = v14
  generalize a'.eval (.tmp 15) = v15
  generalize a'.eval (.tmp 16) = v16
  generalize a'.eval (.tmp 17) = v17
  clear e2 e18
  have HV5 := hide hv5
  have HG5 := hide hg5
  have HB5 := hide hb5
  obtain ⟨u0, u1, u2, u3, p0, p1, p2, p3⟩ := four_cells hb5 (i := 0) (by decide)
  have z0 := blk_frozen hb5 0
  have z1 := blk_frozen hb5 1
  have z2 := blk_frozen hb5 2
  have z3 := blk_frozen hb5 3
  clear hv5 hg5 hb5
  go_upto_region 3 with fail
  have hfz := HB5.out
  obtain ⟨w6, hw6⟩ : ∃ w6, w6 = put4 w5 g5 0 (.int .i64 vT.t) (.slice nAT vT.n.length ncT) (.slice sAT vT.s.length scT) (.slice lAT vT.l.length lcT) := ⟨_, rfl⟩
  have HCT6 := hide (show C4 w6 g5 0 (.int .i64 vT.t) (.slice nAT vT.n.length ncT) (.slice sAT vT.s.length scT) (.slice lAT vT.l.length lcT) by rw [hw6]; exact C4.put HB5.out _ _ _ _)
  have HG6 := hide (show w4.grownBy w6 none by rw [hw6]; exact put4_to HG5.out hle5)
  have HVT6 := hide (show VOw w6 vT [.int .i64 vT.t, .slice nAT vT.n.length ncT, .slice sAT vT.s.length scT, .slice lAT vT.l.length lcT] fT by rw [hw6]; exact HV5.out.put HB5.out (by decide +kernel) _ _ _ _)
  simp only [put4, Nat.zero_add] at hw6
  rw [← hw6]
  clear hw6 HB5 HV5 HG5 p0 p1 p2 p3 z0 z1 z2 z3 hfz hle5
  obtain ⟨k0, k1, k2, k3⟩ := HC4.out.gb HG6.out
  have hva6 := HO3.out.gb (gb_trans HG4.out HG6.out (.inl rfl))
  have AT1 := at_d 5 vA 1 w6 w6.heap.size nA3 nc3 sA3 sc3 lA3 lc3 (by decide +kernel) (by decide +kernel) (Nat.le_refl _) hva6.vb
  rw [atA1] at AT1
  have HAT1 := hide AT1
  clear AT1 hva6
  go_upto_region 4 with (go_at_call 10; refine HAT1.out.mono ?_; rintro e w7 ⟨nAX, ncX, sAX, scX, lAX, lcX, fX, rfl, hoX, _, hg7⟩; have HOX := hide hoX; have HG7 := hide hg7; clear hoX hg7)
  obtain ⟨w8, hw8⟩ : ∃ w8, w8 = w7.alloc (.cells #[.int .i64 vX.t, .slice nAX vX.n.length ncX, .slice sAX vX.s.length scX, .slice lAX vX.l.length lcX] 26) := ⟨_, rfl⟩
  have hc8 := C4.box w7 (.int .i64 vX.t) (.slice nAX vX.n.length ncX) (.slice sAX vX.s.length scX) (.slice lAX vX.l.length lcX) 26
  rw [← hw8] at hc8 ⊢
  have HG8 := hide (show w7.grownBy w8 none by rw [hw8]; exact gb_alloc (gb_refl w7 none) _)
  have HC8 := hide hc8
  have HG68 := hide (gb_trans HG7.out HG8.out (.inl rfl))
  clear hc8 hw8 k0 k1 k2 k3 HAT1
  obtain ⟨k0, k1, k2, k3⟩ := HCT6.out.gb HG68.out
  have AT2 := at_d 5 vT 1 w8 w8.heap.size nAT ncT sAT scT lAT lcT (by decide +kernel) (by decide +kernel) (Nat.le_refl _) (HVT6.out.gb HG68.out).vb
  rw [atT1] at AT2
  have HAT2 := hide AT2
  clear AT2
  go_upto_region 5 with (go_at_call 10; refine HAT2.out.mono ?_; rintro e w9 ⟨nAY, ncY, sAY, scY, lAY, lcY, fY, rfl, hoY, _, hg9⟩; have HOY := hide hoY; have HG9 := hide hg9; clear hoY hg9)
  obtain ⟨w10, hw10⟩ : ∃ w10, w10 = w9.alloc (.cells #[.int .i64 vY.t, .slice nAY vY.n.length ncY, .slice sAY vY.s.length scY, .slice lAY vY.l.length lcY] 26) := ⟨_, rfl⟩
  have hc10 := C4.box w9 (.int .i64 vY.t) (.slice nAY vY.n.length ncY) (.slice sAY vY.s.length scY) (.slice lAY vY.l.length lcY) 26
  rw [← hw10] at hc10 ⊢
  have HG10 := hide (show w9.grownBy w10 none by rw [hw10]; exact gb_alloc (gb_refl w9 none) _)
  have HC10 := hide hc10
  have HG810 := hide (gb_trans HG9.out HG10.out (.inl rfl))
  have HG610 := hide (gb_trans HG68.out HG810.out (.inl rfl))
  have HG410 := hide (gb_trans HG6.out HG610.out (.inl rfl))
  clear hc10 hw10 k0 k1 k2 k3 HAT2
  obtain ⟨k0, k1, k2, k3⟩ := HC4.out.gb HG410.out
  have AT3 := at_d 5 vA 2 w10 w10.heap.size nA3 nc3 sA3 sc3 lA3 lc3 (by decide +kernel) (by decide +kernel) (Nat.le_refl _) (HO3.out.gb (gb_trans HG4.out HG410.out (.inl rfl))).vb
  rw [atA2] at AT3
  have HAT3 := hide AT3
  clear AT3
  go_upto_region 6 with (go_at_call 10; refine HAT3.out.mono ?_; rintro e w11 ⟨rfl, hg11⟩; have HG11 := hide hg11; clear hg11)
  obtain ⟨w12, hw12⟩ : ∃ w12, w12 = w11.alloc (.cells #[.int .i64 0, .slice none 0 0, .slice none 0 0, .slice none 0 0] 26) := ⟨_, rfl⟩
  rw [← hw12]
  have HG12 := hide (gb_trans HG11.out (show w11.grownBy w12 none by rw [hw12]; exact gb_alloc (gb_refl w11 none) _) (.inl rfl))
  clear hw12 k0 k1 k2 k3 HAT3
  have HC1 := hide (HC4.out.gb (gb_trans HG410.out HG12.out (.inl rfl)))
  have HCT := hide (HCT6.out.gb (gb_trans HG610.out HG12.out (.inl rfl)))
  have HCX := hide (HC8.out.gb (gb_trans HG810.out HG12.out (.inl rfl)))
  have HCY := hide (HC10.out.gb HG12.out)
  have HVA := hide (HO3.out.gb (gb_trans HG4.out (gb_trans HG410.out HG12.out (.inl rfl)) (.inl rfl)))
  have HVT := hide (HVT6.out.gb (gb_trans HG610.out HG12.out (.inl rfl)))
  have HVX := hide (HOX.out.gb (gb_trans HG8.out (gb_trans HG810.out HG12.out (.inl rfl)) (.inl rfl)))
  have HVY := hide (HOY.out.gb (gb_trans HG10.out HG12.out (.inl rfl)))
  have HGB := hide (gb_trans (gb_trans HG1.out HG2.out (.inl rfl)) (gb_trans HG3.out (gb_trans HG4.out (gb_trans HG410.out HG12.out (.inl rfl)) (.inl rfl)) (.inl rfl)) (.inl rfl))
  clear HG1 HG2 HG3 HG4 HG6 HG7 HG8 HG68 HG9 HG10 HG810 HG610 HG410 HG11 HG12 HC4 HCT6 HC8 HC10 HO1 HO3 HRV HVT6 HOX HOY HGW HS A1 HW
  clear A O W L
  refine wp_region_facts' 54 (by kernel_rfl) (by kernel_rfl) ?_
  intro A O W L HA HO HW HL
  simp only [List.take_succ_cons, List.take_zero]
  have HS := hide (show A.tmps.size = 88 by rw [HA.out]; rfl)
  have HGW := hide (show w12.grownBy W none by rw [HW.out]; exact gb_drew (gb_refl w12 none))
  have A1 := hide (show A.eval (.tmp 1) = .pointer (some ⟨w3.heap.size, 0, none⟩) by rw [HA.out]; rfl)
  have A2 := hide (show A.eval (.tmp 2) = .pointer (some ⟨g5, 0, none⟩) by rw [HA.out]; rfl)
  have A3 := hide (show A.eval (.tmp 3) = .pointer (some ⟨w7.heap.size, 0, none⟩) by rw [HA.out]; rfl)
  have A4 := hide (show A.eval (.tmp 4) = .int .i64 0 by rw [HA.out]; rfl)
  have A5 := hide (show A.eval (.tmp 5) = .pointer (some ⟨w9.heap.size, 0, none⟩) by rw [HA.out]; rfl)
  have A6 := hide (show A.eval (.tmp 6) = .int .i64 0 by rw [HA.out]; rfl)
  have A8 := hide (show A.eval (.tmp 8) = .int .i64 33 by rw [HA.out]; rfl)
  -- slot 34
  refine wpFacts_lit (.agg #[.int .i64 vA.t, .slice nA3 vA.n.length nc3, .slice sA3 vA.s.length sc3, .slice lA3 vA.l.length lc3]) rfl ?_ ?_
  · intro a wq hw hl
    have e1 : a.tmps[1]?.getD undef = .pointer (some ⟨w3.heap.size, 0, none⟩) := (hl 1 (by first | (simp [Op.operands]; done) | simp [Op.operands, Call.operands]) (by rw [HS.out]; decide)).trans A1.out
    obtain ⟨c0, c1, c2, c3⟩ := HC1.out.gb (gb_trans HGW.out hw (.inl rfl))
    clear hl
    go_simp
  -- slot 35
  refine wpFacts_step (RowF w12.heap.size 2 #[.int .i64 1, .int .i64 2] 2) rfl (RowF.up _ _ _ _) ?_ ?_
  · intro a wq hw hl
    clear hl
    go_simp
    exact RowF.new _ _ (Nat.le_trans HGW.out.size hw.size)
  -- slot 36
  refine wpFacts_step (ValO vA) rfl (ValO.up _) ?_ ?_
  · intro a wq hw hl
    have h35 : (RowF w12.heap.size 2 #[.int .i64 1, .int .i64 2] 2) (a.tmps[35]?.getD undef) wq := hl 35 (by first | (simp [Op.operands]; done) | simp [Op.operands, Call.operands]) (by rw [HS.out]; decide)
    obtain ⟨b35, e35, hb35, _⟩ := h35
    have HB := hide hb35
    clear hb35
    clear hl
    go_simp
    exact ValO.mk_ (v := vA) (xs := []) ⟨Nat.le_refl _, Nat.le_refl _, Nat.le_refl _⟩ (own_row HB.out rfl (by simp [i64s, vA, Vl.n])) Own.nil_ Own.nil_ ⟨rfl, rfl⟩
  -- slot 37
  refine wpFacts_step (fun v _ => v = .bool true) rfl (Lit.up _) ?_ ?_
  · intro a wq hw hl
    have e34 : a.tmps[34]?.getD undef = .agg #[.int .i64 vA.t, .slice nA3 vA.n.length nc3, .slice sA3 vA.s.length sc3, .slice lA3 vA.l.length lc3] := hl 34 (by first | (simp [Op.operands]; done) | simp [Op.operands, Call.operands]) (by rw [HS.out]; decide)
    have h36 : (ValO vA) (a.tmps[36]?.getD undef) wq := hl 36 (by first | (simp [Op.operands]; done) | simp [Op.operands, Call.operands]) (by rw [HS.out]; decide)
    obtain ⟨nB36, mB36, sB36, tB36, lB36, kB36, fB36, e36, ho36⟩ := h36
    have HM := hide (rMatch_any vA vA wq wq.heap.size nA3 nc3 sA3 sc3 lA3 lc3 nB36 mB36 sB36 tB36 lB36 kB36 (by decide +kernel) (by decide +kernel) (Nat.le_refl _) (((HVA.out.gb (gb_trans HGW.out hw (.inl rfl))).vb)) ho36.vb)
    clear ho36
    clear hl
    go_simp
    exact gUpon_lit (HM.out.mono fun _ _ h => ⟨h.1.trans (ret_b (by decide +kernel)), h.2⟩)
  -- slot 38
  refine wpFacts_lit (.bool true) rfl ?_ ?_
  · intro a wq hw hl
    have e37 : a.tmps[37]?.getD undef = .bool true := hl 37 (by first | (simp [Op.operands]; done) | simp [Op.operands, Call.operands]) (by rw [HS.out]; decide)
    clear hl
    go_simp
  -- slot 39
  refine wpFacts_litG (.agg #[.int .i64 vT.t, .slice nAT vT.n.length ncT, .slice sAT vT.s.length scT, .slice lAT vT.l.length lcT]) 4 true 38 rfl (by rw [HO.out]; rfl) (by rw [HS.out]; decide) (fun _ _ h => h) ?_ ?_
  · intro a wq hw hl
    have e2 : a.tmps[2]?.getD undef = .pointer (some ⟨g5, 0, none⟩) := (hl 2 (by first | (simp [Op.operands]; done) | simp [Op.operands, Call.operands]) (by rw [HS.out]; decide)).trans A2.out
    obtain ⟨c0, c1, c2, c3⟩ := HCT.out.gb (gb_trans HGW.out hw (.inl rfl))
    clear hl
    go_simp
  -- slot 40
  refine wpFacts_stepG (fun v _ => v = .int .i64 0) 4 true 38 rfl (by rw [HO.out]; rfl) (by rw [HS.out]; decide) (fun _ _ h => h) (Lit.up _) ?_ ?_
  · intro a wq hw hl
    have e39 : a.tmps[39]?.getD undef = .agg #[.int .i64 vT.t, .slice nAT vT.n.length ncT, .slice sAT vT.s.length scT, .slice lAT vT.l.length lcT] := hl 39 (by first | (simp [Op.operands]; done) | simp [Op.operands, Call.operands]) (by rw [HS.out]; decide)
    have HM := hide (check_good 3 vT wq wq.heap.size nAT ncT sAT scT lAT lcT good_T (by decide +kernel) (by decide +kernel) (Nat.le_refl _) ((HVT.out.gb (gb_trans HGW.out hw (.inl rfl))).vb))
    clear hl
    go_simp
    exact gUpon_lit HM.out
  -- slot 41
  refine wpFacts_stepG (fun v _ => v = .int .i64 0) 4 true 38 rfl (by rw [HO.out]; rfl) (by rw [HS.out]; decide) (fun _ _ h => h) (Lit.up _) ?_ ?_
  · intro a wq hw hl
    have e40 : a.tmps[40]?.getD undef = .int .i64 0 := hl 40 (by first | (simp [Op.operands]; done) | simp [Op.operands, Call.operands]) (by rw [HS.out]; decide)
    clear hl
    go_simp
    exact gpn _
  -- slot 42
  refine wpFacts_litG (.bool true) 4 true 38 rfl (by rw [HO.out]; rfl) (by rw [HS.out]; decide) (fun _ _ h => h) ?_ ?_
  · intro a wq hw hl
    have e41 : a.tmps[41]?.getD undef = .int .i64 0 := hl 41 (by first | (simp [Op.operands]; done) | simp [Op.operands, Call.operands]) (by rw [HS.out]; decide)
    clear hl
    go_simp
  -- slot 43
  refine wpFacts_lit (.bool true) rfl ?_ ?_
  · intro a wq hw hl
    have e38 : a.tmps[38]?.getD undef = .bool true := hl 38 (by first | (simp [Op.operands]; done) | simp [Op.operands, Call.operands]) (by rw [HS.out]; decide)
    have e42 : a.tmps[42]?.getD undef = .bool true := hl 42 (by first | (simp [Op.operands]; done) | simp [Op.operands, Call.operands]) (by rw [HS.out]; decide)
    clear hl
    go_simp
  -- slot 44
  refine wpFacts_lit (.bool true) rfl ?_ ?_
  · intro a wq hw hl
    have e43 : a.tmps[43]?.getD undef = .bool true := hl 43 (by first | (simp [Op.operands]; done) | simp [Op.operands, Call.operands]) (by rw [HS.out]; decide)
    clear hl
    go_simp
  -- slot 45
  refine wpFacts_litG (.int .i64 0) 10 true 44 rfl (by rw [HO.out]; rfl) (by rw [HS.out]; decide) (fun _ _ h => h) ?_ ?_
  · intro a wq hw hl
    have e4 : a.tmps[4]?.getD undef = .int .i64 0 := (hl 4 (by first | (simp [Op.operands]; done) | simp [Op.operands, Call.operands]) (by rw [HS.out]; decide)).trans A4.out
    clear hl
    go_simp
  -- slot 46
  refine wpFacts_stepG (fun v _ => v = .int .i64 0) 10 true 44 rfl (by rw [HO.out]; rfl) (by rw [HS.out]; decide) (fun _ _ h => h) (Lit.up _) ?_ ?_
  · intro a wq hw hl
    have e45 : a.tmps[45]?.getD undef = .int .i64 0 := hl 45 (by first | (simp [Op.operands]; done) | simp [Op.operands, Call.operands]) (by rw [HS.out]; decide)
    clear hl
    go_simp
    exact gpn _
  -- slot 47
  refine wpFacts_litG (.bool true) 10 true 44 rfl (by rw [HO.out]; rfl) (by rw [HS.out]; decide) (fun _ _ h => h) ?_ ?_
  · intro a wq hw hl
    have e46 : a.tmps[46]?.getD undef = .int .i64 0 := hl 46 (by first | (simp [Op.operands]; done) | simp [Op.operands, Call.operands]) (by rw [HS.out]; decide)
    clear hl
    go_simp
  -- slot 48
  refine wpFacts_lit (.bool true) rfl ?_ ?_
  · intro a wq hw hl
    have e44 : a.tmps[44]?.getD undef = .bool true := hl 44 (by first | (simp [Op.operands]; done) | simp [Op.operands, Call.operands]) (by rw [HS.out]; decide)
    have e47 : a.tmps[47]?.getD undef = .bool true := hl 47 (by first | (simp [Op.operands]; done) | simp [Op.operands, Call.operands]) (by rw [HS.out]; decide)
    clear hl
    go_simp
  -- slot 49
  refine wpFacts_lit (.bool true) rfl ?_ ?_
  · intro a wq hw hl
    have e48 : a.tmps[48]?.getD undef = .bool true := hl 48 (by first | (simp [Op.operands]; done) | simp [Op.operands, Call.operands]) (by rw [HS.out]; decide)
    clear hl
    go_simp
  -- slot 50
  refine wpFacts_litG (.agg #[.int .i64 vX.t, .slice nAX vX.n.length ncX, .slice sAX vX.s.length scX, .slice lAX vX.l.length lcX]) 15 true 49 rfl (by rw [HO.out]; rfl) (by rw [HS.out]; decide) (fun _ _ h => h) ?_ ?_
  · intro a wq hw hl
    have e3 : a.tmps[3]?.getD undef = .pointer (some ⟨w7.heap.size, 0, none⟩) := (hl 3 (by first | (simp [Op.operands]; done) | simp [Op.operands, Call.operands]) (by rw [HS.out]; decide)).trans A3.out
    obtain ⟨c0, c1, c2, c3⟩ := HCX.out.gb (gb_trans HGW.out hw (.inl rfl))
    clear hl
    go_simp
  -- slot 51
  refine wpFacts_stepG (RowF w12.heap.size 1 #[.int .i64 2] 2) 15 true 49 rfl (by rw [HO.out]; rfl) (by rw [HS.out]; decide) (fun _ _ h => h) (RowF.up _ _ _ _) ?_ ?_
  · intro a wq hw hl
    clear hl
    go_simp
    exact RowF.new _ _ (Nat.le_trans HGW.out.size hw.size)
  -- slot 52
  refine wpFacts_stepG (ValO vX) 15 true 49 rfl (by rw [HO.out]; rfl) (by rw [HS.out]; decide) (fun _ _ h => h) (ValO.up _) ?_ ?_
  · intro a wq hw hl
    have h51 : (RowF w12.heap.size 1 #[.int .i64 2] 2) (a.tmps[51]?.getD undef) wq := hl 51 (by first | (simp [Op.operands]; done) | simp [Op.operands, Call.operands]) (by rw [HS.out]; decide)
    obtain ⟨b51, e51, hb51, _⟩ := h51
    have HB := hide hb51
    clear hb51
    clear hl
    go_simp
    exact ValO.mk_ (v := vX) (xs := []) ⟨Nat.le_refl _, Nat.le_refl _, Nat.le_refl _⟩ (own_row HB.out rfl (by simp [i64s, vX, Vl.n])) Own.nil_ Own.nil_ ⟨rfl, rfl⟩
  -- slot 53
  refine wpFacts_stepG (fun v _ => v = .bool true) 15 true 49 rfl (by rw [HO.out]; rfl) (by rw [HS.out]; decide) (fun _ _ h => h) (Lit.up _) ?_ ?_
  · intro a wq hw hl
    have e50 : a.tmps[50]?.getD undef = .agg #[.int .i64 vX.t, .slice nAX vX.n.length ncX, .slice sAX vX.s.length scX, .slice lAX vX.l.length lcX] := hl 50 (by first | (simp [Op.operands]; done) | simp [Op.operands, Call.operands]) (by rw [HS.out]; decide)
    have h52 : (ValO vX) (a.tmps[52]?.getD undef) wq := hl 52 (by first | (simp [Op.operands]; done) | simp [Op.operands, Call.operands]) (by rw [HS.out]; decide)
    obtain ⟨nB52, mB52, sB52, tB52, lB52, kB52, fB52, e52, ho52⟩ := h52
    have HM := hide (rMatch_any vX vX wq wq.heap.size nAX ncX sAX scX lAX lcX nB52 mB52 sB52 tB52 lB52 kB52 (by decide +kernel) (by decide +kernel) (Nat.le_refl _) (((HVX.out.gb (gb_trans HGW.out hw (.inl rfl))).vb)) ho52.vb)
    clear ho52
    clear hl
    go_simp
    exact gUpon_lit (HM.out.mono fun _ _ h => ⟨h.1.trans (ret_b (by decide +kernel)), h.2⟩)
  -- slot 54
  refine wpFacts_lit (.bool true) rfl ?_ ?_
  · intro a wq hw hl
    have e49 : a.tmps[49]?.getD undef = .bool true := hl 49 (by first | (simp [Op.operands]; done) | simp [Op.operands, Call.operands]) (by rw [HS.out]; decide)
    have e53 : a.tmps[53]?.getD undef = .bool true := hl 53 (by first | (simp [Op.operands]; done) | simp [Op.operands, Call.operands]) (by rw [HS.out]; decide)
    clear hl
    go_simp
  -- slot 55
  refine wpFacts_lit (.bool true) rfl ?_ ?_
  · intro a wq hw hl
    have e54 : a.tmps[54]?.getD undef = .bool true := hl 54 (by first | (simp [Op.operands]; done) | simp [Op.operands, Call.operands]) (by rw [HS.out]; decide)
    clear hl
    go_simp
  -- slot 56
  refine wpFacts_litG (.int .i64 0) 21 true 55 rfl (by rw [HO.out]; rfl) (by rw [HS.out]; decide) (fun _ _ h => h) ?_ ?_
  · intro a wq hw hl
    have e6 : a.tmps[6]?.getD undef = .int .i64 0 := (hl 6 (by first | (simp [Op.operands]; done) | simp [Op.operands, Call.operands]) (by rw [HS.out]; decide)).trans A6.out
    clear hl
    go_simp
  -- slot 57
  refine wpFacts_stepG (fun v _ => v = .int .i64 0) 21 true 55 rfl (by rw [HO.out]; rfl) (by rw [HS.out]; decide) (fun _ _ h => h) (Lit.up _) ?_ ?_
  · intro a wq hw hl
    have e56 : a.tmps[56]?.getD undef = .int .i64 0 := hl 56 (by first | (simp [Op.operands]; done) | simp [Op.operands, Call.operands]) (by rw [HS.out]; decide)
    clear hl
    go_simp
    exact gpn _
  -- slot 58
  refine wpFacts_litG (.bool true) 21 true 55 rfl (by rw [HO.out]; rfl) (by rw [HS.out]; decide) (fun _ _ h => h) ?_ ?_
  · intro a wq hw hl
    have e57 : a.tmps[57]?.getD undef = .int .i64 0 := hl 57 (by first | (simp [Op.operands]; done) | simp [Op.operands, Call.operands]) (by rw [HS.out]; decide)
    clear hl
    go_simp
  -- slot 59
  refine wpFacts_lit (.bool true) rfl ?_ ?_
  · intro a wq hw hl
    have e55 : a.tmps[55]?.getD undef = .bool true := hl 55 (by first | (simp [Op.operands]; done) | simp [Op.operands, Call.operands]) (by rw [HS.out]; decide)
    have e58 : a.tmps[58]?.getD undef = .bool true := hl 58 (by first | (simp [Op.operands]; done) | simp [Op.operands, Call.operands]) (by rw [HS.out]; decide)
    clear hl
    go_simp
  -- slot 60
  refine wpFacts_lit (.bool true) rfl ?_ ?_
  · intro a wq hw hl
    have e59 : a.tmps[59]?.getD undef = .bool true := hl 59 (by first | (simp [Op.operands]; done) | simp [Op.operands, Call.operands]) (by rw [HS.out]; decide)
    clear hl
    go_simp
  -- slot 61
  refine wpFacts_litG (.agg #[.int .i64 vY.t, .slice nAY vY.n.length ncY, .slice sAY vY.s.length scY, .slice lAY vY.l.length lcY]) 26 true 60 rfl (by rw [HO.out]; rfl) (by rw [HS.out]; decide) (fun _ _ h => h) ?_ ?_
  · intro a wq hw hl
    have e5 : a.tmps[5]?.getD undef = .pointer (some ⟨w9.heap.size, 0, none⟩) := (hl 5 (by first | (simp [Op.operands]; done) | simp [Op.operands, Call.operands]) (by rw [HS.out]; decide)).trans A5.out
    obtain ⟨c0, c1, c2, c3⟩ := HCY.out.gb (gb_trans HGW.out hw (.inl rfl))
    clear hl
    go_simp
  -- slot 62
  refine wpFacts_stepG (RowF w12.heap.size 2 #[.string ⟨#[97]⟩, .string ⟨#[98]⟩] 9) 26 true 60 rfl (by rw [HO.out]; rfl) (by rw [HS.out]; decide) (fun _ _ h => h) (RowF.up _ _ _ _) ?_ ?_
  · intro a wq hw hl
    clear hl
    go_simp
    exact RowF.new _ _ (Nat.le_trans HGW.out.size hw.size)
  -- slot 63
  refine wpFacts_stepG (ValO vSab) 26 true 60 rfl (by rw [HO.out]; rfl) (by rw [HS.out]; decide) (fun _ _ h => h) (ValO.up _) ?_ ?_
  · intro a wq hw hl
    have h62 : (RowF w12.heap.size 2 #[.string ⟨#[97]⟩, .string ⟨#[98]⟩] 9) (a.tmps[62]?.getD undef) wq := hl 62 (by first | (simp [Op.operands]; done) | simp [Op.operands, Call.operands]) (by rw [HS.out]; decide)
    obtain ⟨b62, e62, hb62, _⟩ := h62
    have HB := hide hb62
    clear hb62
    clear hl
    go_simp
    exact ValO.call (rSyms_any _ 2 wq.heap.size [⟨#[97]⟩, ⟨#[98]⟩] wq (rd_row HB.out rfl (by simp [strs])) (Nat.le_refl _) (by simp))
  -- slot 64
  refine wpFacts_stepG (ValO vX) 26 true 60 rfl (by rw [HO.out]; rfl) (by rw [HS.out]; decide) (fun _ _ h => h) (ValO.up _) ?_ ?_
  · intro a wq hw hl
    clear hl
    go_simp
    exact ValO.call (rAtomI_any 2 wq)
  -- slot 65
  refine wpFacts_stepG (ValO vYs) 26 true 60 rfl (by rw [HO.out]; rfl) (by rw [HS.out]; decide) (fun _ _ h => h) (ValO.up _) ?_ ?_
  · intro a wq hw hl
    clear hl
    go_simp
    exact ValO.call (rSymbol_any ⟨#[121]⟩ wq)
  -- slot 66
  refine wpFacts_stepG (RdVO [vX, vYs]) 26 true 60 rfl (by rw [HO.out]; rfl) (by rw [HS.out]; decide) (fun _ _ h => h) (RdVO.up _) ?_ ?_
  · intro a wq hw hl
    have h64 : (ValO vX) (a.tmps[64]?.getD undef) wq := hl 64 (by first | (simp [Op.operands]; done) | simp [Op.operands, Call.operands]) (by rw [HS.out]; decide)
    obtain ⟨nB64, mB64, sB64, tB64, lB64, kB64, fB64, e64, ho64⟩ := h64
    have h65 : (ValO vYs) (a.tmps[65]?.getD undef) wq := hl 65 (by first | (simp [Op.operands]; done) | simp [Op.operands, Call.operands]) (by rw [HS.out]; decide)
    obtain ⟨nB65, mB65, sB65, tB65, lB65, kB65, fB65, e65, ho65⟩ := h65
    have H1 := hide ho64
    have H2 := hide ho65
    clear ho64 ho65
    clear hl
    go_simp
    exact RdVO.two H1.out H2.out
  -- slot 67
  refine wpFacts_stepG (ValO vYl) 26 true 60 rfl (by rw [HO.out]; rfl) (by rw [HS.out]; decide) (fun _ _ h => h) (ValO.up _) ?_ ?_
  · intro a wq hw hl
    have h66 : (RdVO [vX, vYs]) (a.tmps[66]?.getD undef) wq := hl 66 (by first | (simp [Op.operands]; done) | simp [Op.operands, Call.operands]) (by rw [HS.out]; decide)
    obtain ⟨A66, c66, xs66, fa66, fb66, e66, hl66, hr66, ha66⟩ := h66
    have H1 := hide hr66
    have H2 := hide ha66
    clear hr66 ha66
    clear hl
    go_simp
    exact ValO.mk_ (v := vYl) ⟨Nat.le_refl _, Nat.le_refl _, hl66⟩ Own.nil_ Own.nil_ H1.out H2.out
  -- slot 68
  refine wpFacts_stepG (RdVO [vSab, vYl]) 26 true 60 rfl (by rw [HO.out]; rfl) (by rw [HS.out]; decide) (fun _ _ h => h) (RdVO.up _) ?_ ?_
  · intro a wq hw hl
    have h63 : (ValO vSab) (a.tmps[63]?.getD undef) wq := hl 63 (by first | (simp [Op.operands]; done) | simp [Op.operands, Call.operands]) (by rw [HS.out]; decide)
    obtain ⟨nB63, mB63, sB63, tB63, lB63, kB63, fB63, e63, ho63⟩ := h63
    have h67 : (ValO vYl) (a.tmps[67]?.getD undef) wq := hl 67 (by first | (simp [Op.operands]; done) | simp [Op.operands, Call.operands]) (by rw [HS.out]; decide)
    obtain ⟨nB67, mB67, sB67, tB67, lB67, kB67, fB67, e67, ho67⟩ := h67
    have H1 := hide ho63
    have H2 := hide ho67
    clear ho63 ho67
    clear hl
    go_simp
    exact RdVO.two H1.out H2.out
  -- slot 69
  refine wpFacts_stepG (ValO vY) 26 true 60 rfl (by rw [HO.out]; rfl) (by rw [HS.out]; decide) (fun _ _ h => h) (ValO.up _) ?_ ?_
  · intro a wq hw hl
    have h68 : (RdVO [vSab, vYl]) (a.tmps[68]?.getD undef) wq := hl 68 (by first | (simp [Op.operands]; done) | simp [Op.operands, Call.operands]) (by rw [HS.out]; decide)
    obtain ⟨A68, c68, xs68, fa68, fb68, e68, hl68, hr68, ha68⟩ := h68
    have H1 := hide hr68
    have H2 := hide ha68
    clear hr68 ha68
    clear hl
    go_simp
    exact ValO.mk_ (v := vY) ⟨Nat.le_refl _, Nat.le_refl _, hl68⟩ Own.nil_ Own.nil_ H1.out H2.out
  -- slot 70
  refine wpFacts_stepG (fun v _ => v = .bool true) 26 true 60 rfl (by rw [HO.out]; rfl) (by rw [HS.out]; decide) (fun _ _ h => h) (Lit.up _) ?_ ?_
  · intro a wq hw hl
    have e61 : a.tmps[61]?.getD undef = .agg #[.int .i64 vY.t, .slice nAY vY.n.length ncY, .slice sAY vY.s.length scY, .slice lAY vY.l.length lcY] := hl 61 (by first | (simp [Op.operands]; done) | simp [Op.operands, Call.operands]) (by rw [HS.out]; decide)
    have h69 : (ValO vY) (a.tmps[69]?.getD undef) wq := hl 69 (by first | (simp [Op.operands]; done) | simp [Op.operands, Call.operands]) (by rw [HS.out]; decide)
    obtain ⟨nB69, mB69, sB69, tB69, lB69, kB69, fB69, e69, ho69⟩ := h69
    have HM := hide (rMatch_any vY vY wq wq.heap.size nAY ncY sAY scY lAY lcY nB69 mB69 sB69 tB69 lB69 kB69 (by decide +kernel) (by decide +kernel) (Nat.le_refl _) (((HVY.out.gb (gb_trans HGW.out hw (.inl rfl))).vb)) ho69.vb)
    clear ho69
    clear hl
    go_simp
    exact gUpon_lit (HM.out.mono fun _ _ h => ⟨h.1.trans (ret_b (by decide +kernel)), h.2⟩)
  -- slot 71
  refine wpFacts_lit (.bool true) rfl ?_ ?_
  · intro a wq hw hl
    have e60 : a.tmps[60]?.getD undef = .bool true := hl 60 (by first | (simp [Op.operands]; done) | simp [Op.operands, Call.operands]) (by rw [HS.out]; decide)
    have e70 : a.tmps[70]?.getD undef = .bool true := hl 70 (by first | (simp [Op.operands]; done) | simp [Op.operands, Call.operands]) (by rw [HS.out]; decide)
    clear hl
    go_simp
  -- slot 72
  refine wpFacts_lit (.bool true) rfl ?_ ?_
  · intro a wq hw hl
    have e71 : a.tmps[71]?.getD undef = .bool true := hl 71 (by first | (simp [Op.operands]; done) | simp [Op.operands, Call.operands]) (by rw [HS.out]; decide)
    clear hl
    go_simp
  -- slot 73
  refine wpFacts_litG (.int .i64 33) 38 true 72 rfl (by rw [HO.out]; rfl) (by rw [HS.out]; decide) (fun _ _ h => h) ?_ ?_
  · intro a wq hw hl
    have e8 : a.tmps[8]?.getD undef = .int .i64 33 := (hl 8 (by first | (simp [Op.operands]; done) | simp [Op.operands, Call.operands]) (by rw [HS.out]; decide)).trans A8.out
    clear hl
    go_simp
  -- slot 74
  refine wpFacts_stepG (fun v _ => v = .int .i64 33) 38 true 72 rfl (by rw [HO.out]; rfl) (by rw [HS.out]; decide) (fun _ _ h => h) (Lit.up _) ?_ ?_
  · intro a wq hw hl
    have e73 : a.tmps[73]?.getD undef = .int .i64 33 := hl 73 (by first | (simp [Op.operands]; done) | simp [Op.operands, Call.operands]) (by rw [HS.out]; decide)
    clear hl
    go_simp
    exact gpn _
  -- slot 75
  refine wpFacts_litG (.bool true) 38 true 72 rfl (by rw [HO.out]; rfl) (by rw [HS.out]; decide) (fun _ _ h => h) ?_ ?_
  · intro a wq hw hl
    have e74 : a.tmps[74]?.getD undef = .int .i64 33 := hl 74 (by first | (simp [Op.operands]; done) | simp [Op.operands, Call.operands]) (by rw [HS.out]; decide)
    clear hl
    go_simp
  -- slot 76
  refine wpFacts_lit (.bool true) rfl ?_ ?_
  · intro a wq hw hl
    have e72 : a.tmps[72]?.getD undef = .bool true := hl 72 (by first | (simp [Op.operands]; done) | simp [Op.operands, Call.operands]) (by rw [HS.out]; decide)
    have e75 : a.tmps[75]?.getD undef = .bool true := hl 75 (by first | (simp [Op.operands]; done) | simp [Op.operands, Call.operands]) (by rw [HS.out]; decide)
    clear hl
    go_simp
  -- slot 77
  refine wpFacts_lit (.bool true) rfl ?_ ?_
  · intro a wq hw hl
    have e76 : a.tmps[76]?.getD undef = .bool true := hl 76 (by first | (simp [Op.operands]; done) | simp [Op.operands, Call.operands]) (by rw [HS.out]; decide)
    clear hl
    go_simp
  -- slot 78
  refine wpFacts_litG (.agg #[.int .i64 vA.t, .slice nA3 vA.n.length nc3, .slice sA3 vA.s.length sc3, .slice lA3 vA.l.length lc3]) 43 true 77 rfl (by rw [HO.out]; rfl) (by rw [HS.out]; decide) (fun _ _ h => h) ?_ ?_
  · intro a wq hw hl
    have e1 : a.tmps[1]?.getD undef = .pointer (some ⟨w3.heap.size, 0, none⟩) := (hl 1 (by first | (simp [Op.operands]; done) | simp [Op.operands, Call.operands]) (by rw [HS.out]; decide)).trans A1.out
    obtain ⟨c0, c1, c2, c3⟩ := HC1.out.gb (gb_trans HGW.out hw (.inl rfl))
    clear hl
    go_simp
  -- slot 79
  refine wpFacts_litG (.agg #[.int .i64 vT.t, .slice nAT vT.n.length ncT, .slice sAT vT.s.length scT, .slice lAT vT.l.length lcT]) 43 true 77 rfl (by rw [HO.out]; rfl) (by rw [HS.out]; decide) (fun _ _ h => h) ?_ ?_
  · intro a wq hw hl
    have e2 : a.tmps[2]?.getD undef = .pointer (some ⟨g5, 0, none⟩) := (hl 2 (by first | (simp [Op.operands]; done) | simp [Op.operands, Call.operands]) (by rw [HS.out]; decide)).trans A2.out
    obtain ⟨c0, c1, c2, c3⟩ := HCT.out.gb (gb_trans HGW.out hw (.inl rfl))
    clear hl
    go_simp
  -- slot 80
  refine wpFacts_stepG (fun v _ => v = .int .i64 (-1)) 43 true 77 rfl (by rw [HO.out]; rfl) (by rw [HS.out]; decide) (fun _ _ h => h) (Lit.up _) ?_ ?_
  · intro a wq hw hl
    have e78 : a.tmps[78]?.getD undef = .agg #[.int .i64 vA.t, .slice nA3 vA.n.length nc3, .slice sA3 vA.s.length sc3, .slice lA3 vA.l.length lc3] := hl 78 (by first | (simp [Op.operands]; done) | simp [Op.operands, Call.operands]) (by rw [HS.out]; decide)
    have e79 : a.tmps[79]?.getD undef = .agg #[.int .i64 vT.t, .slice nAT vT.n.length ncT, .slice sAT vT.s.length scT, .slice lAT vT.l.length lcT] := hl 79 (by first | (simp [Op.operands]; done) | simp [Op.operands, Call.operands]) (by rw [HS.out]; decide)
    clear hl
    go_simp
    exact gUpon_lit (cmp28_any _ _ _ _ _ _ wq)
  -- slot 81
  refine wpFacts_litG (.bool true) 43 true 77 rfl (by rw [HO.out]; rfl) (by rw [HS.out]; decide) (fun _ _ h => h) ?_ ?_
  · intro a wq hw hl
    have e80 : a.tmps[80]?.getD undef = .int .i64 (-1) := hl 80 (by first | (simp [Op.operands]; done) | simp [Op.operands, Call.operands]) (by rw [HS.out]; decide)
    clear hl
    go_simp
  -- slot 82
  refine wpFacts_lit (.bool true) rfl ?_ ?_
  · intro a wq hw hl
    have e77 : a.tmps[77]?.getD undef = .bool true := hl 77 (by first | (simp [Op.operands]; done) | simp [Op.operands, Call.operands]) (by rw [HS.out]; decide)
    have e81 : a.tmps[81]?.getD undef = .bool true := hl 81 (by first | (simp [Op.operands]; done) | simp [Op.operands, Call.operands]) (by rw [HS.out]; decide)
    clear hl
    go_simp
  -- slot 83
  refine wpFacts_lit (.bool true) rfl ?_ ?_
  · intro a wq hw hl
    have e82 : a.tmps[82]?.getD undef = .bool true := hl 82 (by first | (simp [Op.operands]; done) | simp [Op.operands, Call.operands]) (by rw [HS.out]; decide)
    clear hl
    go_simp
  -- slot 84
  refine wpFacts_litG (.agg #[.int .i64 vT.t, .slice nAT vT.n.length ncT, .slice sAT vT.s.length scT, .slice lAT vT.l.length lcT]) 49 true 83 rfl (by rw [HO.out]; rfl) (by rw [HS.out]; decide) (fun _ _ h => h) ?_ ?_
  · intro a wq hw hl
    have e2 : a.tmps[2]?.getD undef = .pointer (some ⟨g5, 0, none⟩) := (hl 2 (by first | (simp [Op.operands]; done) | simp [Op.operands, Call.operands]) (by rw [HS.out]; decide)).trans A2.out
    obtain ⟨c0, c1, c2, c3⟩ := HCT.out.gb (gb_trans HGW.out hw (.inl rfl))
    clear hl
    go_simp
  -- slot 85
  refine wpFacts_litG (.agg #[.int .i64 vT.t, .slice nAT vT.n.length ncT, .slice sAT vT.s.length scT, .slice lAT vT.l.length lcT]) 49 true 83 rfl (by rw [HO.out]; rfl) (by rw [HS.out]; decide) (fun _ _ h => h) ?_ ?_
  · intro a wq hw hl
    have e2 : a.tmps[2]?.getD undef = .pointer (some ⟨g5, 0, none⟩) := (hl 2 (by first | (simp [Op.operands]; done) | simp [Op.operands, Call.operands]) (by rw [HS.out]; decide)).trans A2.out
    obtain ⟨c0, c1, c2, c3⟩ := HCT.out.gb (gb_trans HGW.out hw (.inl rfl))
    clear hl
    go_simp
  -- slot 86
  refine wpFacts_stepG (fun v _ => v = .bool true) 49 true 83 rfl (by rw [HO.out]; rfl) (by rw [HS.out]; decide) (fun _ _ h => h) (Lit.up _) ?_ ?_
  · intro a wq hw hl
    have e84 : a.tmps[84]?.getD undef = .agg #[.int .i64 vT.t, .slice nAT vT.n.length ncT, .slice sAT vT.s.length scT, .slice lAT vT.l.length lcT] := hl 84 (by first | (simp [Op.operands]; done) | simp [Op.operands, Call.operands]) (by rw [HS.out]; decide)
    have e85 : a.tmps[85]?.getD undef = .agg #[.int .i64 vT.t, .slice nAT vT.n.length ncT, .slice sAT vT.s.length scT, .slice lAT vT.l.length lcT] := hl 85 (by first | (simp [Op.operands]; done) | simp [Op.operands, Call.operands]) (by rw [HS.out]; decide)
    have HM := hide (vMatch_any vT vT wq wq.heap.size nAT ncT sAT scT lAT lcT nAT ncT sAT scT lAT lcT (by decide +kernel) (by decide +kernel) (Nat.le_refl _) ((HVT.out.gb (gb_trans HGW.out hw (.inl rfl))).vb) ((HVT.out.gb (gb_trans HGW.out hw (.inl rfl))).vb))
    clear hl
    go_simp
    exact gUpon_lit (HM.out.mono fun _ _ h => ⟨h.1.trans (ret_b (by decide +kernel)), h.2⟩)
  -- slot 87
  refine wpFacts_lit (.bool true) rfl ?_ ?_
  · intro a wq hw hl
    have e83 : a.tmps[83]?.getD undef = .bool true := hl 83 (by first | (simp [Op.operands]; done) | simp [Op.operands, Call.operands]) (by rw [HS.out]; decide)
    have e86 : a.tmps[86]?.getD undef = .bool true := hl 86 (by first | (simp [Op.operands]; done) | simp [Op.operands, Call.operands]) (by rw [HS.out]; decide)
    clear hl
    go_simp
  refine HL.out _ (fun a' w13 hc => ?_)
  have e87 : a'.eval (.tmp 87) = .bool true := hc.fact 87 (by rw [HS.out]; decide)
  have hg13 := gb_trans HGW.out hc.grown (.inl rfl)
  have hfr := hc.frame [34, 35, 36, 37, 38, 39, 40, 41, 42, 43, 44, 45, 46, 47, 48, 49, 50, 51, 52, 53, 54, 55, 56, 57, 58, 59, 60, 61, 62, 63, 64, 65, 66, 67, 68, 69, 70, 71, 72, 73, 74, 75, 76, 77, 78, 79, 80, 81, 82, 83, 84, 85, 86, 87, 0] (by rw [HO.out]; kernel_rfl)
  rw [hfr]
  clear hfr hc
  rw [HA.out]
  clear HA HO HL
  simp only [List.drop_succ_cons, List.drop_zero, List.foldl_cons, List.foldl_nil, Act.put, List.setIfInBounds_toArray, List.set_cons_succ, List.set_cons_zero]
  rw [e87]
  generalize a'.eval (.tmp 34) = v34
  generalize a'.eval (.tmp 35) = v35
  generalize a'.eval (.tmp 36) = v36
  generalize a'.eval (.tmp 37) = v37
  generalize a'.eval (.tmp 38) = v38
  generalize a'.eval (.tmp 39) = v39
  generalize a'.eval (.tmp 40) = v40
  generalize a'.eval (.tmp 41) = v41
  generalize a'.eval (.tmp 42) = v42
  generalize a'.eval (.tmp 43) = v43
  generalize a'.eval (.tmp 44) = v44
  generalize a'.eval (.tmp 45) = v45
  generalize a'.eval (.tmp 46) = v46
  generalize a'.eval (.tmp 47) = v47
  generalize a'.eval (.tmp 48) = v48
  generalize a'.eval (.tmp 49) = v49
  generalize a'.eval (.tmp 50) = v50
  generalize a'.eval (.tmp 51) = v51
  generalize a'.eval (.tmp 52) = v52
  generalize a'.eval (.tmp 53) = v53
  generalize a'.eval (.tmp 54) = v54
  generalize a'.eval (.tmp 55) = v55
  generalize a'.eval (.tmp 56) = v56
  generalize a'.eval (.tmp 57) = v57
  generalize a'.eval (.tmp 58) = v58
  generalize a'.eval (.tmp 59) = v59
  generalize a'.eval (.tmp 60) = v60
  generalize a'.eval (.tmp 61) = v61
  generalize a'.eval (.tmp 62) = v62
  generalize a'.eval (.tmp 63) = v63
  generalize a'.eval (.tmp 64) = v64
  generalize a'.eval (.tmp 65) = v65
  generalize a'.eval (.tmp 66) = v66
  generalize a'.eval (.tmp 67) = v67
  generalize a'.eval (.tmp 68) = v68
  generalize a'.eval (.tmp 69) = v69
  generalize a'.eval (.tmp 70) = v70
  generalize a'.eval (.tmp 71) = v71
  generalize a'.eval (.tmp 72) = v72
  generalize a'.eval (.tmp 73) = v73
  generalize a'.eval (.tmp 74) = v74
  generalize a'.eval (.tmp 75) = v75
  generalize a'.eval (.tmp 76) = v76
  generalize a'.eval (.tmp 77) = v77
  generalize a'.eval (.tmp 78) = v78
  generalize a'.eval (.tmp 79) = v79
  generalize a'.eval (.tmp 80) = v80
  generalize a'.eval (.tmp 81) = v81
  generalize a'.eval (.tmp 82) = v82
  generalize a'.eval (.tmp 83) = v83
  generalize a'.eval (.tmp 84) = v84
  generalize a'.eval (.tmp 85) = v85
  generalize a'.eval (.tmp 86) = v86
  generalize a'.eval (.tmp 0) = v0
  have HGF := hide hg13
  clear e87 hg13
  go_wp2_with fail
  go_ret
  exact ⟨rfl, gb_trans HGB.out HGF.out (.inl rfl)⟩
end Go.Proofs.Ytfckmkpfhchggaa
