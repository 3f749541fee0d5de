/-
  Marks that ask how many unlike elements there are: holds.
-/
import Derived.Test.YtfdckhnhancbdaaAr
namespace Go.Proofs.Ytfdckhnhancbdaa
open Go.RowKit
attribute [local go_sem ↓] Go.wp_at_zero Go.wp_at_succ

set_option maxHeartbeats 2000000 in
set_option maxRecDepth 100000 in
theorem holds2_ix (base g : Nat) (ty : TypeId) (rest : List Value) (t : Int) (v : Value) (es : List (Int × ByteArray)) (p : Addr) (u : Nat) (w : World) (h : ColB w base g ty rest 2 t v es (runsK es) (fallsK es))
    (hu : ∀ w', w.grownBy w' none → Calls Try.prog 61 #[.pointer (some p)] w' fun e w'' => e = .returned (.int .i64 ((u : Nat) : Int)) ∧ w'.grownBy w'' none) :
    Calls Try.prog 39 #[.pointer (some ⟨g, 0, none⟩), .func (.func 61) #[] #[.pointer (some p)]] w fun e w' => e = .returned (.bool ((u : Int) == (es.length : Int))) ∧ w.grownBy w' none := by
  obtain ⟨Av, cv, rfl, _, _, _⟩ := own_form2 h.own
  obtain ⟨c0, c1, c2, c3, c4⟩ := h.cells
  obtain ⟨b, hb⟩ : ∃ b, ((u : Int) == (es.length : Int)) = b := ⟨_, rfl⟩
  rw [hb]
  have HC := hide h
  have HU := hide hu
  clear h hu
  go_enter Try.func39, Try.ntmps39
  go_wp2_with fail
  refine wp_region_facts' 7 (by kernel_rfl) (by kernel_rfl) ?_
  intro A O W L HA HO HW HL
  simp only [List.take_succ_cons, List.take_zero]
  have HS := hide (show A.tmps.size = 35 by rw [HA.out]; rfl)
  have HGW := hide (show w.grownBy W none by rw [HW.out]; exact gb_drew (gb_refl w none))
  have A0 := hide (show A.eval (.tmp 0) = .pointer (some ⟨g, 0, none⟩) by rw [HA.out]; rfl)
  have A1 := hide (show A.eval (.tmp 1) = .func (.func 61) #[] #[.pointer (some p)] by rw [HA.out]; rfl)
  -- slot 18
  refine wpFacts_lit (.func (.func 61) #[] #[.pointer (some p)]) rfl ?_ ?_
  · intro a wq hw hl
    have e1 : a.tmps[1]?.getD undef = .func (.func 61) #[] #[.pointer (some p)] := (hl 1 (by first | (simp [Op.operands]; done) | simp [Op.operands, Call.operands]) (by rw [HS.out]; decide)).trans A1.out
    clear hl
    go_simp
  -- slot 19
  refine wpFacts_step (fun vq _ => vq = .int .i64 ((u : Nat) : Int)) rfl (Lit.up _) ?_ ?_
  · intro a wq hw hl
    have e18 : a.tmps[18]?.getD undef = .func (.func 61) #[] #[.pointer (some p)] := hl 18 (by first | (simp [Op.operands]; done) | simp [Op.operands, Call.operands]) (by rw [HS.out]; decide)
    clear hl
    go_simp
    exact gUpon_lit (HU.out wq (gb_trans HGW.out hw (.inl rfl)))
  -- slot 20
  refine wpFacts_lit (.pointer (some ⟨g, 0, none⟩)) rfl ?_ ?_
  · intro a wq hw hl
    have e0 : a.tmps[0]?.getD undef = .pointer (some ⟨g, 0, none⟩) := (hl 0 (by first | (simp [Op.operands]; done) | simp [Op.operands, Call.operands]) (by rw [HS.out]; decide)).trans A0.out
    clear hl
    go_simp
  -- slot 21
  refine wpFacts_lit (.pointer (some ⟨g, 0, none⟩)) rfl ?_ ?_
  · intro a wq hw hl
    have e20 : a.tmps[20]?.getD undef = .pointer (some ⟨g, 0, none⟩) := hl 20 (by first | (simp [Op.operands]; done) | simp [Op.operands, Call.operands]) (by rw [HS.out]; decide)
    clear hl
    go_simp
  -- slot 22
  refine wpFacts_lit (.pointer (some ⟨g, 2, none⟩)) rfl ?_ ?_
  · intro a wq hw hl
    have e21 : a.tmps[21]?.getD undef = .pointer (some ⟨g, 0, none⟩) := hl 21 (by first | (simp [Op.operands]; done) | simp [Op.operands, Call.operands]) (by rw [HS.out]; decide)
    clear hl
    go_simp
  -- slot 23
  refine wpFacts_lit (.slice Av es.length cv) rfl ?_ ?_
  · intro a wq hw hl
    have e22 : a.tmps[22]?.getD undef = .pointer (some ⟨g, 2, none⟩) := hl 22 (by first | (simp [Op.operands]; done) | simp [Op.operands, Call.operands]) (by rw [HS.out]; decide)
    have hbg : wq.heap[g]? = some (.cells (colC 2 t (.slice Av es.length cv) (runsK es) (fallsK es) rest) ty (0, 0)) := blk_keep HC.out.blk (gb_trans HGW.out hw (.inl rfl)) (by simp)
    have c0 : wq.cell? ⟨g, 2, none⟩ = some (.slice Av es.length cv) := by rw [blk_cell hbg]; rfl
    clear hbg
    clear hl
    go_simp
  -- slot 24
  refine wpFacts_lit (.int .i64 ((es.length : Nat) : Int)) rfl ?_ ?_
  · intro a wq hw hl
    have e23 : a.tmps[23]?.getD undef = .slice Av es.length cv := hl 23 (by first | (simp [Op.operands]; done) | simp [Op.operands, Call.operands]) (by rw [HS.out]; decide)
    clear hl
    go_simp
  refine HL.out _ (fun a' wz hc => ?_)
  have e19 : a'.eval (.tmp 19) = .int .i64 ((u : Nat) : Int) := hc.fact 19 (by rw [HS.out]; decide)
  have e24 : a'.eval (.tmp 24) = .int .i64 ((es.length : Nat) : Int) := hc.fact 24 (by rw [HS.out]; decide)
  have hgwz := gb_trans HGW.out hc.grown (.inl rfl)
  have hfr := hc.frame [18, 19, 20, 21, 22, 23, 24, 25, 4] (by rw [HO.out]; kernel_rfl)
  rw [hfr]
  clear hfr hc
  rw [HA.out]
  clear HA HO HL HW HS HGW A0 A1
  clear A O W L
  simp only [List.drop_succ_cons, List.drop_zero, List.foldl_cons, List.foldl_nil, Act.put, List.setIfInBounds_toArray, List.set_cons_succ, List.set_cons_zero]
  rw [e19, e24]
  generalize a'.eval (.tmp 18) = x18
  generalize a'.eval (.tmp 20) = x20
  generalize a'.eval (.tmp 21) = x21
  generalize a'.eval (.tmp 22) = x22
  generalize a'.eval (.tmp 23) = x23
  generalize a'.eval (.tmp 25) = x25
  generalize a'.eval (.tmp 4) = x4
  clear e19 e24
  clear a'
  have HGZ := hide hgwz
  clear hgwz
  go_wp2_with fail
  go_ret
  exact ⟨rfl, HGZ.out⟩
set_option maxHeartbeats 2000000 in
set_option maxRecDepth 100000 in
theorem holds2_col (base g : Nat) (ty : TypeId) (rest : List Value) (t : Int) (v : Value) (es : List (Int × ByteArray)) (p : Addr) (u : Nat) (w : World) (h : ColB w base g ty rest 2 t v es (runsK es) (fallsK es))
    (hu : ∀ w', w.grownBy w' none → Calls Try.prog 40 #[.pointer (some p)] w' fun e w'' => e = .returned (.int .i64 ((u : Nat) : Int)) ∧ w'.grownBy w'' none) :
    Calls Try.prog 39 #[.pointer (some ⟨g, 0, none⟩), .func (.func 40) #[.pointer (some p)] #[]] w fun e w' => e = .returned (.bool ((u : Int) == (es.length : Int))) ∧ w.grownBy w' none := by
  obtain ⟨Av, cv, rfl, _, _, _⟩ := own_form2 h.own
  obtain ⟨c0, c1, c2, c3, c4⟩ := h.cells
  obtain ⟨b, hb⟩ : ∃ b, ((u : Int) == (es.length : Int)) = b := ⟨_, rfl⟩
  rw [hb]
  have HC := hide h
  have HU := hide hu
  clear h hu
  go_enter Try.func39, Try.ntmps39
  go_wp2_with fail
  refine wp_region_facts' 7 (by kernel_rfl) (by kernel_rfl) ?_
  intro A O W L HA HO HW HL
  simp only [List.take_succ_cons, List.take_zero]
  have HS := hide (show A.tmps.size = 35 by rw [HA.out]; rfl)
  have HGW := hide (show w.grownBy W none by rw [HW.out]; exact gb_drew (gb_refl w none))
  have A0 := hide (show A.eval (.tmp 0) = .pointer (some ⟨g, 0, none⟩) by rw [HA.out]; rfl)
  have A1 := hide (show A.eval (.tmp 1) = .func (.func 40) #[.pointer (some p)] #[] by rw [HA.out]; rfl)
  -- slot 18
  refine wpFacts_lit (.func (.func 40) #[.pointer (some p)] #[]) rfl ?_ ?_
  · intro a wq hw hl
    have e1 : a.tmps[1]?.getD undef = .func (.func 40) #[.pointer (some p)] #[] := (hl 1 (by first | (simp [Op.operands]; done) | simp [Op.operands, Call.operands]) (by rw [HS.out]; decide)).trans A1.out
    clear hl
    go_simp
  -- slot 19
  refine wpFacts_step (fun vq _ => vq = .int .i64 ((u : Nat) : Int)) rfl (Lit.up _) ?_ ?_
  · intro a wq hw hl
    have e18 : a.tmps[18]?.getD undef = .func (.func 40) #[.pointer (some p)] #[] := hl 18 (by first | (simp [Op.operands]; done) | simp [Op.operands, Call.operands]) (by rw [HS.out]; decide)
    clear hl
    go_simp
    exact gUpon_lit (HU.out wq (gb_trans HGW.out hw (.inl rfl)))
  -- slot 20
  refine wpFacts_lit (.pointer (some ⟨g, 0, none⟩)) rfl ?_ ?_
  · intro a wq hw hl
    have e0 : a.tmps[0]?.getD undef = .pointer (some ⟨g, 0, none⟩) := (hl 0 (by first | (simp [Op.operands]; done) | simp [Op.operands, Call.operands]) (by rw [HS.out]; decide)).trans A0.out
    clear hl
    go_simp
  -- slot 21
  refine wpFacts_lit (.pointer (some ⟨g, 0, none⟩)) rfl ?_ ?_
  · intro a wq hw hl
    have e20 : a.tmps[20]?.getD undef = .pointer (some ⟨g, 0, none⟩) := hl 20 (by first | (simp [Op.operands]; done) | simp [Op.operands, Call.operands]) (by rw [HS.out]; decide)
    clear hl
    go_simp
  -- slot 22
  refine wpFacts_lit (.pointer (some ⟨g, 2, none⟩)) rfl ?_ ?_
  · intro a wq hw hl
    have e21 : a.tmps[21]?.getD undef = .pointer (some ⟨g, 0, none⟩) := hl 21 (by first | (simp [Op.operands]; done) | simp [Op.operands, Call.operands]) (by rw [HS.out]; decide)
    clear hl
    go_simp
  -- slot 23
  refine wpFacts_lit (.slice Av es.length cv) rfl ?_ ?_
  · intro a wq hw hl
    have e22 : a.tmps[22]?.getD undef = .pointer (some ⟨g, 2, none⟩) := hl 22 (by first | (simp [Op.operands]; done) | simp [Op.operands, Call.operands]) (by rw [HS.out]; decide)
    have hbg : wq.heap[g]? = some (.cells (colC 2 t (.slice Av es.length cv) (runsK es) (fallsK es) rest) ty (0, 0)) := blk_keep HC.out.blk (gb_trans HGW.out hw (.inl rfl)) (by simp)
    have c0 : wq.cell? ⟨g, 2, none⟩ = some (.slice Av es.length cv) := by rw [blk_cell hbg]; rfl
    clear hbg
    clear hl
    go_simp
  -- slot 24
  refine wpFacts_lit (.int .i64 ((es.length : Nat) : Int)) rfl ?_ ?_
  · intro a wq hw hl
    have e23 : a.tmps[23]?.getD undef = .slice Av es.length cv := hl 23 (by first | (simp [Op.operands]; done) | simp [Op.operands, Call.operands]) (by rw [HS.out]; decide)
    clear hl
    go_simp
  refine HL.out _ (fun a' wz hc => ?_)
  have e19 : a'.eval (.tmp 19) = .int .i64 ((u : Nat) : Int) := hc.fact 19 (by rw [HS.out]; decide)
  have e24 : a'.eval (.tmp 24) = .int .i64 ((es.length : Nat) : Int) := hc.fact 24 (by rw [HS.out]; decide)
  have hgwz := gb_trans HGW.out hc.grown (.inl rfl)
  have hfr := hc.frame [18, 19, 20, 21, 22, 23, 24, 25, 4] (by rw [HO.out]; kernel_rfl)
  rw [hfr]
  clear hfr hc
  rw [HA.out]
  clear HA HO HL HW HS HGW A0 A1
  clear A O W L
  simp only [List.drop_succ_cons, List.drop_zero, List.foldl_cons, List.foldl_nil, Act.put, List.setIfInBounds_toArray, List.set_cons_succ, List.set_cons_zero]
  rw [e19, e24]
  generalize a'.eval (.tmp 18) = x18
  generalize a'.eval (.tmp 20) = x20
  generalize a'.eval (.tmp 21) = x21
  generalize a'.eval (.tmp 22) = x22
  generalize a'.eval (.tmp 23) = x23
  generalize a'.eval (.tmp 25) = x25
  generalize a'.eval (.tmp 4) = x4
  clear e19 e24
  clear a'
  have HGZ := hide hgwz
  clear hgwz
  go_wp2_with fail
  go_ret
  exact ⟨rfl, HGZ.out⟩
set_option maxHeartbeats 2000000 in
set_option maxRecDepth 100000 in
theorem holds4_ix (base g : Nat) (ty : TypeId) (rest : List Value) (t : Int) (v : Value) (es : List (Int × ByteArray)) (p : Addr) (u : Nat) (w : World) (h : ColB w base g ty rest 4 t v es (runsK es) (fallsK es))
    (hu : ∀ w', w.grownBy w' none → Calls Try.prog 61 #[.pointer (some p)] w' fun e w'' => e = .returned (.int .i64 ((u : Nat) : Int)) ∧ w'.grownBy w'' none) :
    Calls Try.prog 39 #[.pointer (some ⟨g, 0, none⟩), .func (.func 61) #[] #[.pointer (some p)]] w fun e w' => e = .returned (.bool ((u : Int) == runsK es)) ∧ w.grownBy w' none := by
  obtain ⟨Av, cv, rfl, _, _, _⟩ := own_form2 h.own
  obtain ⟨c0, c1, c2, c3, c4⟩ := h.cells
  obtain ⟨b, hb⟩ : ∃ b, ((u : Int) == runsK es) = b := ⟨_, rfl⟩
  rw [hb]
  have HC := hide h
  have HU := hide hu
  clear h hu
  go_enter Try.func39, Try.ntmps39
  go_wp2_with fail
  refine wp_region_facts' 6 (by kernel_rfl) (by kernel_rfl) ?_
  intro A O W L HA HO HW HL
  simp only [List.take_succ_cons, List.take_zero]
  have HS := hide (show A.tmps.size = 35 by rw [HA.out]; rfl)
  have HGW := hide (show w.grownBy W none by rw [HW.out]; exact gb_drew (gb_refl w none))
  have A0 := hide (show A.eval (.tmp 0) = .pointer (some ⟨g, 0, none⟩) by rw [HA.out]; rfl)
  have A1 := hide (show A.eval (.tmp 1) = .func (.func 61) #[] #[.pointer (some p)] by rw [HA.out]; rfl)
  -- slot 28
  refine wpFacts_lit (.func (.func 61) #[] #[.pointer (some p)]) rfl ?_ ?_
  · intro a wq hw hl
    have e1 : a.tmps[1]?.getD undef = .func (.func 61) #[] #[.pointer (some p)] := (hl 1 (by first | (simp [Op.operands]; done) | simp [Op.operands, Call.operands]) (by rw [HS.out]; decide)).trans A1.out
    clear hl
    go_simp
  -- slot 29
  refine wpFacts_step (fun vq _ => vq = .int .i64 ((u : Nat) : Int)) rfl (Lit.up _) ?_ ?_
  · intro a wq hw hl
    have e28 : a.tmps[28]?.getD undef = .func (.func 61) #[] #[.pointer (some p)] := hl 28 (by first | (simp [Op.operands]; done) | simp [Op.operands, Call.operands]) (by rw [HS.out]; decide)
    clear hl
    go_simp
    exact gUpon_lit (HU.out wq (gb_trans HGW.out hw (.inl rfl)))
  -- slot 30
  refine wpFacts_lit (.pointer (some ⟨g, 0, none⟩)) rfl ?_ ?_
  · intro a wq hw hl
    have e0 : a.tmps[0]?.getD undef = .pointer (some ⟨g, 0, none⟩) := (hl 0 (by first | (simp [Op.operands]; done) | simp [Op.operands, Call.operands]) (by rw [HS.out]; decide)).trans A0.out
    clear hl
    go_simp
  -- slot 31
  refine wpFacts_lit (.pointer (some ⟨g, 0, none⟩)) rfl ?_ ?_
  · intro a wq hw hl
    have e30 : a.tmps[30]?.getD undef = .pointer (some ⟨g, 0, none⟩) := hl 30 (by first | (simp [Op.operands]; done) | simp [Op.operands, Call.operands]) (by rw [HS.out]; decide)
    clear hl
    go_simp
  -- slot 32
  refine wpFacts_lit (.pointer (some ⟨g, 3, none⟩)) rfl ?_ ?_
  · intro a wq hw hl
    have e31 : a.tmps[31]?.getD undef = .pointer (some ⟨g, 0, none⟩) := hl 31 (by first | (simp [Op.operands]; done) | simp [Op.operands, Call.operands]) (by rw [HS.out]; decide)
    clear hl
    go_simp
  -- slot 33
  refine wpFacts_lit (.int .i64 (runsK es)) rfl ?_ ?_
  · intro a wq hw hl
    have e32 : a.tmps[32]?.getD undef = .pointer (some ⟨g, 3, none⟩) := hl 32 (by first | (simp [Op.operands]; done) | simp [Op.operands, Call.operands]) (by rw [HS.out]; decide)
    have hbg : wq.heap[g]? = some (.cells (colC 4 t (.slice Av es.length cv) (runsK es) (fallsK es) rest) ty (0, 0)) := blk_keep HC.out.blk (gb_trans HGW.out hw (.inl rfl)) (by simp)
    have c0 : wq.cell? ⟨g, 3, none⟩ = some (.int .i64 (runsK es)) := by rw [blk_cell hbg]; rfl
    clear hbg
    clear hl
    go_simp
  refine HL.out _ (fun a' wz hc => ?_)
  have e29 : a'.eval (.tmp 29) = .int .i64 ((u : Nat) : Int) := hc.fact 29 (by rw [HS.out]; decide)
  have e33 : a'.eval (.tmp 33) = .int .i64 (runsK es) := hc.fact 33 (by rw [HS.out]; decide)
  have hgwz := gb_trans HGW.out hc.grown (.inl rfl)
  have hfr := hc.frame [28, 29, 30, 31, 32, 33, 34, 4] (by rw [HO.out]; kernel_rfl)
  rw [hfr]
  clear hfr hc
  rw [HA.out]
  clear HA HO HL HW HS HGW A0 A1
  clear A O W L
  simp only [List.drop_succ_cons, List.drop_zero, List.foldl_cons, List.foldl_nil, Act.put, List.setIfInBounds_toArray, List.set_cons_succ, List.set_cons_zero]
  rw [e29, e33]
  generalize a'.eval (.tmp 28) = x28
  generalize a'.eval (.tmp 30) = x30
  generalize a'.eval (.tmp 31) = x31
  generalize a'.eval (.tmp 32) = x32
  generalize a'.eval (.tmp 34) = x34
  generalize a'.eval (.tmp 4) = x4
  clear e29 e33
  clear a'
  have HGZ := hide hgwz
  clear hgwz
  go_wp2_with fail
  go_ret
  exact ⟨rfl, HGZ.out⟩
set_option maxHeartbeats 2000000 in
set_option maxRecDepth 100000 in
theorem holds4_col (base g : Nat) (ty : TypeId) (rest : List Value) (t : Int) (v : Value) (es : List (Int × ByteArray)) (p : Addr) (u : Nat) (w : World) (h : ColB w base g ty rest 4 t v es (runsK es) (fallsK es))
    (hu : ∀ w', w.grownBy w' none → Calls Try.prog 40 #[.pointer (some p)] w' fun e w'' => e = .returned (.int .i64 ((u : Nat) : Int)) ∧ w'.grownBy w'' none) :
    Calls Try.prog 39 #[.pointer (some ⟨g, 0, none⟩), .func (.func 40) #[.pointer (some p)] #[]] w fun e w' => e = .returned (.bool ((u : Int) == runsK es)) ∧ w.grownBy w' none := by
  obtain ⟨Av, cv, rfl, _, _, _⟩ := own_form2 h.own
  obtain ⟨c0, c1, c2, c3, c4⟩ := h.cells
  obtain ⟨b, hb⟩ : ∃ b, ((u : Int) == runsK es) = b := ⟨_, rfl⟩
  rw [hb]
  have HC := hide h
  have HU := hide hu
  clear h hu
  go_enter Try.func39, Try.ntmps39
  go_wp2_with fail
  refine wp_region_facts' 6 (by kernel_rfl) (by kernel_rfl) ?_
  intro A O W L HA HO HW HL
  simp only [List.take_succ_cons, List.take_zero]
  have HS := hide (show A.tmps.size = 35 by rw [HA.out]; rfl)
  have HGW := hide (show w.grownBy W none by rw [HW.out]; exact gb_drew (gb_refl w none))
  have A0 := hide (show A.eval (.tmp 0) = .pointer (some ⟨g, 0, none⟩) by rw [HA.out]; rfl)
  have A1 := hide (show A.eval (.tmp 1) = .func (.func 40) #[.pointer (some p)] #[] by rw [HA.out]; rfl)
  -- slot 28
  refine wpFacts_lit (.func (.func 40) #[.pointer (some p)] #[]) rfl ?_ ?_
  · intro a wq hw hl
    have e1 : a.tmps[1]?.getD undef = .func (.func 40) #[.pointer (some p)] #[] := (hl 1 (by first | (simp [Op.operands]; done) | simp [Op.operands, Call.operands]) (by rw [HS.out]; decide)).trans A1.out
    clear hl
    go_simp
  -- slot 29
  refine wpFacts_step (fun vq _ => vq = .int .i64 ((u : Nat) : Int)) rfl (Lit.up _) ?_ ?_
  · intro a wq hw hl
    have e28 : a.tmps[28]?.getD undef = .func (.func 40) #[.pointer (some p)] #[] := hl 28 (by first | (simp [Op.operands]; done) | simp [Op.operands, Call.operands]) (by rw [HS.out]; decide)
    clear hl
    go_simp
    exact gUpon_lit (HU.out wq (gb_trans HGW.out hw (.inl rfl)))
  -- slot 30
  refine wpFacts_lit (.pointer (some ⟨g, 0, none⟩)) rfl ?_ ?_
  · intro a wq hw hl
    have e0 : a.tmps[0]?.getD undef = .pointer (some ⟨g, 0, none⟩) := (hl 0 (by first | (simp [Op.operands]; done) | simp [Op.operands, Call.operands]) (by rw [HS.out]; decide)).trans A0.out
    clear hl
    go_simp
  -- slot 31
  refine wpFacts_lit (.pointer (some ⟨g, 0, none⟩)) rfl ?_ ?_
  · intro a wq hw hl
    have e30 : a.tmps[30]?.getD undef = .pointer (some ⟨g, 0, none⟩) := hl 30 (by first | (simp [Op.operands]; done) | simp [Op.operands, Call.operands]) (by rw [HS.out]; decide)
    clear hl
    go_simp
  -- slot 32
  refine wpFacts_lit (.pointer (some ⟨g, 3, none⟩)) rfl ?_ ?_
  · intro a wq hw hl
    have e31 : a.tmps[31]?.getD undef = .pointer (some ⟨g, 0, none⟩) := hl 31 (by first | (simp [Op.operands]; done) | simp [Op.operands, Call.operands]) (by rw [HS.out]; decide)
    clear hl
    go_simp
  -- slot 33
  refine wpFacts_lit (.int .i64 (runsK es)) rfl ?_ ?_
  · intro a wq hw hl
    have e32 : a.tmps[32]?.getD undef = .pointer (some ⟨g, 3, none⟩) := hl 32 (by first | (simp [Op.operands]; done) | simp [Op.operands, Call.operands]) (by rw [HS.out]; decide)
    have hbg : wq.heap[g]? = some (.cells (colC 4 t (.slice Av es.length cv) (runsK es) (fallsK es) rest) ty (0, 0)) := blk_keep HC.out.blk (gb_trans HGW.out hw (.inl rfl)) (by simp)
    have c0 : wq.cell? ⟨g, 3, none⟩ = some (.int .i64 (runsK es)) := by rw [blk_cell hbg]; rfl
    clear hbg
    clear hl
    go_simp
  refine HL.out _ (fun a' wz hc => ?_)
  have e29 : a'.eval (.tmp 29) = .int .i64 ((u : Nat) : Int) := hc.fact 29 (by rw [HS.out]; decide)
  have e33 : a'.eval (.tmp 33) = .int .i64 (runsK es) := hc.fact 33 (by rw [HS.out]; decide)
  have hgwz := gb_trans HGW.out hc.grown (.inl rfl)
  have hfr := hc.frame [28, 29, 30, 31, 32, 33, 34, 4] (by rw [HO.out]; kernel_rfl)
  rw [hfr]
  clear hfr hc
  rw [HA.out]
  clear HA HO HL HW HS HGW A0 A1
  clear A O W L
  simp only [List.drop_succ_cons, List.drop_zero, List.foldl_cons, List.foldl_nil, Act.put, List.setIfInBounds_toArray, List.set_cons_succ, List.set_cons_zero]
  rw [e29, e33]
  generalize a'.eval (.tmp 28) = x28
  generalize a'.eval (.tmp 30) = x30
  generalize a'.eval (.tmp 31) = x31
  generalize a'.eval (.tmp 32) = x32
  generalize a'.eval (.tmp 34) = x34
  generalize a'.eval (.tmp 4) = x4
  clear e29 e33
  clear a'
  have HGZ := hide hgwz
  clear hgwz
  go_wp2_with fail
  go_ret
  exact ⟨rfl, HGZ.out⟩
end Go.Proofs.Ytfdckhnhancbdaa
