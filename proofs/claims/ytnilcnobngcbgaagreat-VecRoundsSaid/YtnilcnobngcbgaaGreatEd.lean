/-
  vec.Join of atoms and vectors of one type.
-/
import Derived.Test.YtnilcnobngcbgaaGreatEc
import Derived.Test.YtnilcnobngcbgaaGreatVw
import Derived.Test.YtnilcnobngcbgaaGreatVu
namespace Go.Proofs.YtnilcnobngcbgaaGreat
open Go.RowKit
attribute [local go_sem ↓] Go.wp_at_zero Go.wp_at_succ

def vNl (v : Vl) : Bool := v.t == 101
set_option maxHeartbeats 4000000 in
set_option maxRecDepth 100000 in
theorem vNl_any (v : Vl) (c1 c2 c3 : Value) (w : World) : Calls Tryz.prog 51 #[.agg #[.int .i64 v.t, c1, c2, c3]] w fun e w' => e = .returned (.bool (vNl v)) ∧ w.grownBy w' none := by
  have HA := hide (show (v.t == 101) = vNl v from rfl)
  go_enter Tryz.func51, Tryz.ntmps51
  go_wp2_with fail
  go_ret
  exact ⟨ret_b HA.out, gb_alloc (gb_refl w none) _⟩
set_option maxHeartbeats 4000000 in
set_option maxRecDepth 100000 in
theorem vNil_idx (l : List Vl) (w : World) (B : Nat) (A : Option Addr) (c : Nat) (hl : l.length ≤ 1100000) (hB : B ≤ w.heap.size) (h : RdV w B A l) :
    Calls Tryz.prog 86 #[.slice A l.length c, .func (.func 51) #[] #[]] w (IdxPost (l.any vNl) w) := by
  have H := hide h
  have HB := hide hB
  clear h hB
  go_enter Tryz.func86, Tryz.ntmps86
  go_wp2_with fail
  go_loopw [8] (fun i wr => ∃ j : Nat, i = .int .i64 (j : Int) ∧ j ≤ l.length ∧ Hid ((l.take j).any vNl = false) ∧ w.grownBy wr none) (fun i _ => l.length - (intOf i).toNat)
  case atStart => exact ⟨0, rfl, Nat.zero_le _, hide (by simp), gb_refl w none⟩
  case round =>
    obtain ⟨j, rfl, hj, HE, hgr⟩ := hrel
    have HGR := hide hgr
    clear hgr
    by_cases hlt : j < l.length
    · have hlt1 : (j : Int) < (l.length : Int) := by omega
      obtain ⟨q, o, xA, xc, yA, yc, zA, zc, rfl, hqB, hc4, _⟩ := H.out.at_ hlt
      obtain ⟨d0, d1, d2, d3⟩ := hc4.gb HGR.out
      have HC := hide (vNl_any l[j] (.slice xA l[j].n.length xc) (.slice yA l[j].s.length yc) (.slice zA l[j].l.length zc) wr)
      have HL := hide (show l.take (j + 1) = l.take j ++ [l[j]] from List.take_succ_eq_append_getElem hlt)
      have HA : Hid (vNl l[j] = true → l.any vNl = true) := hide (fun h => List.any_eq_true.2 ⟨_, List.getElem_mem hlt, h⟩)
      clear hc4
      cases hp : vNl l[j]
      · rw [hp] at HC
        have HP := hide hp
        clear hp
        go_wp2_with (go_at_call 51; refine HC.out.mono ?_; rintro e w1 ⟨rfl, hg1⟩; have HG1 := hide hg1; clear hg1)
        go_roundw
        case rel => exact ⟨j + 1, by go_num, by omega, hide (by rw [HL.out, List.any_append, HE.out]; simp [HP.out]), gb_trans HGR.out HG1.out (.inl rfl)⟩
        case measure => simp [intOf]; omega
      · rw [hp] at HC
        have HA2 := hide (HA.out hp)
        clear hp
        go_wp2_with (go_at_call 51; refine HC.out.mono ?_; rintro e w1 ⟨rfl, hg1⟩; have HG1 := hide hg1; clear hg1)
        go_ret
        exact ⟨j, rfl, by rw [HA2.out]; exact decide_eq_true (by omega), gb_trans HGR.out HG1.out (.inl rfl)⟩
    · have hlt1 : ¬ (j : Int) < (l.length : Int) := by omega
      have HT := hide (show l.take j = l from List.take_of_length_le (by omega))
      go_wp2_with fail
      go_ret
      exact ⟨-1, rfl, by have := HE.out; rw [HT.out] at this; rw [this]; rfl, HGR.out⟩

set_option maxHeartbeats 4000000 in
set_option maxRecDepth 100000 in
theorem vNil_has  (l : List Vl) (w : World) (B : Nat) (A : Option Addr) (c : Nat) (hl : l.length ≤ 1100000) (hB : B ≤ w.heap.size) (h : RdV w B A l)  :
    Calls Tryz.prog 50 #[.slice A l.length c, .func (.func 51) #[] #[]] w fun e w' => e = .returned (.bool (l.any vNl)) ∧ w.grownBy w' none := by
  have HI := hide (vNil_idx  l w B A c hl hB h )
  clear h hB
  generalize l.any vNl = b at *
  go_enter Tryz.func50, Tryz.ntmps50
  go_wp2_with (go_at_call 86; refine HI.out.mono ?_; rintro e w1 ⟨r, rfl, hr, hg1⟩; have HR := hide hr; have HG1 := hide hg1; clear hr hg1)
  go_ret
  exact ⟨ret_b (by rw [← HR.out]), HG1.out⟩


/-- The kind of a value. -/
def kdV (v : Vl) : Int := kindO v.t v.s.length v.n.length
/-- How many elements a join takes of it. -/
def widV (v : Vl) : Nat := if kdV v = v.t then v.count else 1
set_option maxHeartbeats 4000000 in
set_option maxRecDepth 100000 in
theorem width_any (x : Vl) (w : World) (B : Nat) (xA : Option Addr) (xc : Nat) (yA : Option Addr) (yc : Nat) (zA : Option Addr) (zc : Nat) (ht : x.tot ≤ 1100000) (hB : B ≤ w.heap.size) (h : VB w B x xA xc yA yc zA zc) :
    Calls Tryz.prog 49 #[.agg #[.int .i64 x.t, .slice xA x.n.length xc, .slice yA x.s.length yc, .slice zA x.l.length zc]] w fun e w' => e = .returned (.int .i64 (widV x : Nat)) ∧ w.grownBy w' none := by
  obtain ⟨wa, hwa⟩ : ∃ wa, wa = w.alloc (.cells #[.int .i64 x.t, .slice xA x.n.length xc, .slice yA x.s.length yc, .slice zA x.l.length zc] 26) := ⟨_, rfl⟩
  have hb : wa.heap[w.heap.size]? = some (.cells #[.int .i64 x.t, .slice xA x.n.length xc, .slice yA x.s.length yc, .slice zA x.l.length zc] 26 (0, 0)) := by rw [hwa]; exact heap_alloc_new w _
  have HB := hide hb
  have hg : w.grownBy wa none := by rw [hwa]; exact gb_alloc (gb_refl w none) _
  have HG := hide hg
  have HWE := hide hwa
  have HCN := hide (fun w2 (hg : w.grownBy w2 none) => count_d x.depth x w2 B xA xc yA yc zA zc (Nat.le_refl _) ht (Nat.le_trans hB hg.size) (h.gb hg hB))
  obtain ⟨c0, c1, c2, c3⟩ : C4 wa w.heap.size 0 (.int .i64 x.t) (.slice xA x.n.length xc) (.slice yA x.s.length yc) (.slice zA x.l.length zc) := ⟨by rw [blk_cell hb]; rfl, by rw [blk_cell hb]; rfl, by rw [blk_cell hb]; rfl, by rw [blk_cell hb]; rfl⟩
  have HIS := hide (fun w2 => (isSeq_any x.t xA x.n.length xc yA x.s.length yc (.slice zA x.l.length zc) w2).mono (fun e w' h => (⟨h.1, h.2⟩ : e = .returned (.bool (kdV x == x.t)) ∧ w2.grownBy w' none)))
  clear hb hg hwa ht hB h
  by_cases hk : kdV x = x.t
  · have HW := hide (show widV x = x.count by unfold widV; rw [if_pos hk])
    have hkb : (kdV x == x.t) = true := by simp [hk]
    rw [hkb] at HIS
    clear hk hkb
    go_enter Tryz.func49, Tryz.ntmps49
    go_wp2_with fail
    rw [← HWE.out]
    go_wp2_with (first
      | (go_at_call 34; refine (HIS.out _).mono ?_; rintro e w1 ⟨rfl, hg1⟩; have HG1 := hide hg1; clear c0 c1 c2 c3; obtain ⟨c0, c1, c2, c3⟩ : C4 w1 w.heap.size 0 (.int .i64 x.t) (.slice xA x.n.length xc) (.slice yA x.s.length yc) (.slice zA x.l.length zc) := (by have h := blk_keep HB.out hg1 (by simp); exact ⟨by rw [blk_cell h]; rfl, by rw [blk_cell h]; rfl, by rw [blk_cell h]; rfl, by rw [blk_cell h]; rfl⟩); clear hg1)
      | (go_at_call 30; refine (HCN.out _ (gb_trans HG.out HG1.out (.inl rfl))).mono ?_; rintro e w2 ⟨rfl, hg2⟩; have HG2 := hide hg2; clear hg2))
    exact bodyPost_ret (v := .int .i64 (x.count : Nat)) (by simp [results, Tryz.results49, go_sem]) rfl ⟨by rw [HW.out], gb_trans HG.out (gb_trans HG1.out HG2.out (.inl rfl)) (.inl rfl)⟩
  · have HW := hide (show widV x = 1 by unfold widV; rw [if_neg hk])
    have hkb : (kdV x == x.t) = false := by simp [hk]
    rw [hkb] at HIS
    clear hk hkb
    go_enter Tryz.func49, Tryz.ntmps49
    go_wp2_with fail
    rw [← HWE.out]
    go_wp2_with (go_at_call 34; refine (HIS.out _).mono ?_; rintro e w1 ⟨rfl, hg1⟩; have HG1 := hide hg1; clear hg1)
    exact bodyPost_ret (v := .int .i64 1) (by simp [results, Tryz.results49, go_sem]) rfl ⟨by rw [HW.out]; rfl, gb_trans HG.out HG1.out (.inl rfl)⟩
set_option maxHeartbeats 4000000 in
set_option maxRecDepth 100000 in
theorem unlike_any (x h : Vl) (w : World) (xA : Option Addr) (xc : Nat) (yA : Option Addr) (yc : Nat) (zA : Option Addr) (zc : Nat) (hA : Option Addr) (hc : Nat) (iA : Option Addr) (ic : Nat) (jA : Option Addr) (jc : Nat) (g b o len c : Nat) (hl : 0 < len) (hg : w.cell? ⟨g, 0, none⟩ = some (.slice (some ⟨b, o, none⟩) len c)) (hh : C4 w b o (.int .i64 h.t) (.slice hA h.n.length hc) (.slice iA h.s.length ic) (.slice jA h.l.length jc)) :
    Calls Tryz.prog 87 #[.agg #[.int .i64 x.t, .slice xA x.n.length xc, .slice yA x.s.length yc, .slice zA x.l.length zc], .pointer (some ⟨g, 0, none⟩)] w fun e w' => e = .returned (.bool (kdV x != kdV h)) ∧ w.grownBy w' none := by
  obtain ⟨wa, hwa⟩ : ∃ wa, wa = w.alloc (.cells #[.int .i64 x.t, .slice xA x.n.length xc, .slice yA x.s.length yc, .slice zA x.l.length zc] 26) := ⟨_, rfl⟩
  have hb : wa.heap[w.heap.size]? = some (.cells #[.int .i64 x.t, .slice xA x.n.length xc, .slice yA x.s.length yc, .slice zA x.l.length zc] 26 (0, 0)) := by rw [hwa]; exact heap_alloc_new w _
  have hga : w.grownBy wa none := by rw [hwa]; exact gb_alloc (gb_refl w none) _
  have HG := hide hga
  have HWE := hide hwa
  have HC := hide (show C4 wa w.heap.size 0 (.int .i64 x.t) (.slice xA x.n.length xc) (.slice yA x.s.length yc) (.slice zA x.l.length zc) from ⟨by rw [blk_cell hb]; rfl, by rw [blk_cell hb]; rfl, by rw [blk_cell hb]; rfl, by rw [blk_cell hb]; rfl⟩)
  have HD := hide (hh.gb hga)
  have HGC := hide (cell_gb hg hga)
  have HL0 := hide (show (0 : Int) < (len : Int) by omega)
  have HL1 := hide (show 0 < len from hl)
  clear hb hga hwa hl hg hh
  go_enter Tryz.func87, Tryz.ntmps87
  go_wp2_with fail
  rw [← HWE.out]
  refine wp_region_facts' 7 (by kernel_rfl) (by kernel_rfl) ?_
  intro A O W L HA HO HW HL
  simp only [List.take_succ_cons, List.take_zero]
  have HS := hide (show A.tmps.size = 11 by rw [HA.out]; rfl)
  have HGW := hide (show wa.grownBy W none by rw [HW.out]; exact gb_drew (gb_refl wa none))
  have A1 := hide (show A.eval (.tmp 1) = .pointer (some ⟨g, 0, none⟩) by rw [HA.out]; rfl)
  have A2 := hide (show A.eval (.tmp 2) = .pointer (some ⟨w.heap.size, 0, none⟩) by rw [HA.out]; rfl)
  -- slot 4
  refine wpFacts_lit (.agg #[.int .i64 x.t, .slice xA x.n.length xc, .slice yA x.s.length yc, .slice zA x.l.length zc]) rfl ?_ ?_
  · intro a wq hw hl
    have e2 : a.tmps[2]?.getD undef = .pointer (some ⟨w.heap.size, 0, none⟩) := (hl 2 (by first | (simp [Op.operands]; done) | simp [Op.operands, Call.operands]) (by rw [HS.out]; decide)).trans A2.out
    obtain ⟨c0, c1, c2, c3⟩ := HC.out.gb (gb_trans HGW.out hw (.inl rfl))
    clear hl
    go_simp
  -- slot 5
  refine wpFacts_step (fun vq _ => vq = .int .i64 (kdV x)) rfl (Lit.up _) ?_ ?_
  · intro a wq hw hl
    have e4 : a.tmps[4]?.getD undef = .agg #[.int .i64 x.t, .slice xA x.n.length xc, .slice yA x.s.length yc, .slice zA x.l.length zc] := hl 4 (by first | (simp [Op.operands]; done) | simp [Op.operands, Call.operands]) (by rw [HS.out]; decide)
    clear hl
    go_simp
    exact gUpon_lit (kind_any _ _ _ _ _ _ _ _ _)
  -- slot 6
  refine wpFacts_lit (.slice (some ⟨b, o, none⟩) len c) rfl ?_ ?_
  · intro a wq hw hl
    have e1 : a.tmps[1]?.getD undef = .pointer (some ⟨g, 0, none⟩) := (hl 1 (by first | (simp [Op.operands]; done) | simp [Op.operands, Call.operands]) (by rw [HS.out]; decide)).trans A1.out
    have cg := cell_gb HGC.out (gb_trans HGW.out hw (.inl rfl))
    clear hl
    go_simp
  -- slot 7
  refine wpFacts_lit (.pointer (some ⟨b, o, none⟩)) rfl ?_ ?_
  · intro a wq hw hl
    have e6 : a.tmps[6]?.getD undef = .slice (some ⟨b, o, none⟩) len c := hl 6 (by first | (simp [Op.operands]; done) | simp [Op.operands, Call.operands]) (by rw [HS.out]; decide)
    have l0 := HL0.out
    have l1 := HL1.out
    clear hl
    go_simp
  -- slot 8
  refine wpFacts_lit (.agg #[.int .i64 h.t, .slice hA h.n.length hc, .slice iA h.s.length ic, .slice jA h.l.length jc]) rfl ?_ ?_
  · intro a wq hw hl
    have e7 : a.tmps[7]?.getD undef = .pointer (some ⟨b, o, none⟩) := hl 7 (by first | (simp [Op.operands]; done) | simp [Op.operands, Call.operands]) (by rw [HS.out]; decide)
    obtain ⟨d0, d1, d2, d3⟩ := HD.out.gb (gb_trans HGW.out hw (.inl rfl))
    clear hl
    go_simp
  -- slot 9
  refine wpFacts_step (fun vq _ => vq = .int .i64 (kdV h)) rfl (Lit.up _) ?_ ?_
  · intro a wq hw hl
    have e8 : a.tmps[8]?.getD undef = .agg #[.int .i64 h.t, .slice hA h.n.length hc, .slice iA h.s.length ic, .slice jA h.l.length jc] := hl 8 (by first | (simp [Op.operands]; done) | simp [Op.operands, Call.operands]) (by rw [HS.out]; decide)
    clear hl
    go_simp
    exact gUpon_lit (kind_any _ _ _ _ _ _ _ _ _)
  -- slot 10
  refine wpFacts_lit (.bool (kdV x != kdV h)) rfl ?_ ?_
  · intro a wq hw hl
    have e5 : a.tmps[5]?.getD undef = .int .i64 (kdV x) := hl 5 (by first | (simp [Op.operands]; done) | simp [Op.operands, Call.operands]) (by rw [HS.out]; decide)
    have e9 : a.tmps[9]?.getD undef = .int .i64 (kdV h) := hl 9 (by first | (simp [Op.operands]; done) | simp [Op.operands, Call.operands]) (by rw [HS.out]; decide)
    clear hl
    go_simp
  refine HL.out _ (fun a' w5 hc => ?_)
  have e10 : a'.eval (.tmp 10) = .bool (kdV x != kdV h) := hc.fact 10 (by rw [HS.out]; decide)
  have hgw5 := gb_trans HGW.out hc.grown (.inl rfl)
  have hfr := hc.frame [4, 5, 6, 7, 8, 9, 10, 3] (by rw [HO.out]; kernel_rfl)
  rw [hfr]
  clear hfr hc
  rw [HA.out]
  clear HA HO HL HW HS HGW A1 A2
  clear A O W L
  simp only [List.drop_succ_cons, List.drop_zero, List.foldl_cons, List.foldl_nil, Act.put, List.setIfInBounds_toArray, List.set_cons_succ, List.set_cons_zero]
  rw [e10]
  generalize a'.eval (.tmp 4) = x4
  generalize a'.eval (.tmp 5) = x5
  generalize a'.eval (.tmp 6) = x6
  generalize a'.eval (.tmp 7) = x7
  generalize a'.eval (.tmp 8) = x8
  generalize a'.eval (.tmp 9) = x9
  generalize a'.eval (.tmp 3) = x3
  clear e10
  clear a'
  have HG5 := hide (gb_trans HG.out hgw5 (.inl rfl))
  clear hgw5
  go_wp2_with fail
  exact bodyPost_ret (v := .bool (kdV x != kdV h)) (by simp [results, Tryz.results87, go_sem]) rfl ⟨rfl, HG5.out⟩
set_option maxHeartbeats 4000000 in
set_option maxRecDepth 100000 in
theorem unlike_idx (l : List Vl) (w : World) (B : Nat) (A : Option Addr) (c : Nat) (hl : l.length ≤ 1100000) (hB : B ≤ w.heap.size) (h : RdV w B A l) (K : Int) (g : Nat) (hun : ∀ w2, w.grownBy w2 none → ∀ (x : Vl) (xA : Option Addr) (xc : Nat) (yA : Option Addr) (yc : Nat) (zA : Option Addr) (zc : Nat), Calls Tryz.prog 87 #[.agg #[.int .i64 x.t, .slice xA x.n.length xc, .slice yA x.s.length yc, .slice zA x.l.length zc], .pointer (some ⟨g, 0, none⟩)] w2 fun e w' => e = .returned (.bool (kdV x != K)) ∧ w2.grownBy w' none) :
    Calls Tryz.prog 86 #[.slice A l.length c, .func (.func 87) #[] #[.pointer (some ⟨g, 0, none⟩)]] w (IdxPost (l.any (fun x => kdV x != K)) w) := by
  have H := hide h
  have HUN := hide hun
  clear hun
  have HB := hide hB
  clear h hB
  go_enter Tryz.func86, Tryz.ntmps86
  go_wp2_with fail
  go_loopw [8] (fun i wr => ∃ j : Nat, i = .int .i64 (j : Int) ∧ j ≤ l.length ∧ Hid ((l.take j).any (fun x => kdV x != K) = false) ∧ w.grownBy wr none) (fun i _ => l.length - (intOf i).toNat)
  case atStart => exact ⟨0, rfl, Nat.zero_le _, hide (by simp), gb_refl w none⟩
  case round =>
    obtain ⟨j, rfl, hj, HE, hgr⟩ := hrel
    have HGR := hide hgr
    clear hgr
    by_cases hlt : j < l.length
    · have hlt1 : (j : Int) < (l.length : Int) := by omega
      obtain ⟨q, o, xA, xc, yA, yc, zA, zc, rfl, hqB, hc4, _⟩ := H.out.at_ hlt
      obtain ⟨d0, d1, d2, d3⟩ := hc4.gb HGR.out
      have HC := hide (HUN.out wr HGR.out l[j] xA xc yA yc zA zc)
      have HL := hide (show l.take (j + 1) = l.take j ++ [l[j]] from List.take_succ_eq_append_getElem hlt)
      have HA : Hid ((kdV l[j] != K) = true → l.any fun x => kdV x != K = true) := hide (fun h => List.any_eq_true.2 ⟨_, List.getElem_mem hlt, h⟩)
      clear hc4
      cases hp : (kdV l[j] != K)
      · rw [hp] at HC
        have HP := hide hp
        clear hp
        go_wp2_with (go_at_call 87; refine HC.out.mono ?_; rintro e w1 ⟨rfl, hg1⟩; have HG1 := hide hg1; clear hg1)
        go_roundw
        case rel => exact ⟨j + 1, by go_num, by omega, hide (by rw [HL.out, List.any_append, HE.out]; simp [HP.out]), gb_trans HGR.out HG1.out (.inl rfl)⟩
        case measure => simp [intOf]; omega
      · rw [hp] at HC
        have HA2 := hide (HA.out hp)
        clear hp
        go_wp2_with (go_at_call 87; refine HC.out.mono ?_; rintro e w1 ⟨rfl, hg1⟩; have HG1 := hide hg1; clear hg1)
        go_ret
        exact ⟨j, rfl, by rw [HA2.out]; exact decide_eq_true (by omega), gb_trans HGR.out HG1.out (.inl rfl)⟩
    · have hlt1 : ¬ (j : Int) < (l.length : Int) := by omega
      have HT := hide (show l.take j = l from List.take_of_length_le (by omega))
      go_wp2_with fail
      go_ret
      exact ⟨-1, rfl, by have := HE.out; rw [HT.out] at this; rw [this]; rfl, HGR.out⟩

set_option maxHeartbeats 4000000 in
set_option maxRecDepth 100000 in
theorem unlike_has  (l : List Vl) (w : World) (B : Nat) (A : Option Addr) (c : Nat) (hl : l.length ≤ 1100000) (hB : B ≤ w.heap.size) (h : RdV w B A l) (K : Int) (g : Nat) (hun : ∀ w2, w.grownBy w2 none → ∀ (x : Vl) (xA : Option Addr) (xc : Nat) (yA : Option Addr) (yc : Nat) (zA : Option Addr) (zc : Nat), Calls Tryz.prog 87 #[.agg #[.int .i64 x.t, .slice xA x.n.length xc, .slice yA x.s.length yc, .slice zA x.l.length zc], .pointer (some ⟨g, 0, none⟩)] w2 fun e w' => e = .returned (.bool (kdV x != K)) ∧ w2.grownBy w' none) :
    Calls Tryz.prog 50 #[.slice A l.length c, .func (.func 87) #[] #[.pointer (some ⟨g, 0, none⟩)]] w fun e w' => e = .returned (.bool (l.any (fun x => kdV x != K))) ∧ w.grownBy w' none := by
  have HI := hide (unlike_idx l w B A c hl hB h K g hun)
  clear h hB hun
  generalize (l.any fun x => kdV x != K) = b at *
  go_enter Tryz.func50, Tryz.ntmps50
  go_wp2_with (go_at_call 86; refine HI.out.mono ?_; rintro e w1 ⟨r, rfl, hr, hg1⟩; have HR := hide hr; have HG1 := hide hg1; clear hr hg1)
  go_ret
  exact ⟨ret_b (by rw [← HR.out]), HG1.out⟩

end Go.Proofs.YtnilcnobngcbgaaGreat
