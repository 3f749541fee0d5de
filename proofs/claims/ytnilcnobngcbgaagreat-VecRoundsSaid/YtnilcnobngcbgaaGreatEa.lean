/-
  vec.Index of a vector of ints.
-/
import Derived.Test.YtnilcnobngcbgaaGreatDj
import Derived.Test.YtnilcnobngcbgaaGreatDu
import Derived.Test.YtnilcnobngcbgaaGreatDv
namespace Go.Proofs.YtnilcnobngcbgaaGreat
open Go.RowKit
attribute [local go_sem ↓] Go.wp_at_zero Go.wp_at_succ

/-- A row of ints that is read. -/
def RdIF (l : List Int) : Fct := fun v w => ∃ A c, v = .slice A l.length c ∧ Rd w w.heap.size A (i64s l)
theorem RdIF.up (l : List Int) : (RdIF l).Up := by
  rintro v w w' ⟨A, c, h1, h2⟩ hg
  exact ⟨A, c, h1, (h2.grown hg (Nat.le_refl _) (by simp)).more hg.size⟩
/-- Where a value is found. -/
def CellF (u : Value) : Fct := fun v w => ∃ ad, v = .pointer (some ad) ∧ w.cell? ad = some u
theorem CellF.up (u : Value) : (CellF u).Up := by
  rintro v w w' ⟨ad, h1, h2⟩ hg
  exact ⟨ad, h1, cell_gb h2 hg⟩
/-- A row of ints of its own. -/
def OwnIF (base : Nat) (l : List Int) : Fct := fun v w => ∃ A c, l.length ≤ c ∧ v = .slice A l.length c ∧ w.ownsRow base 2 1 (.slice A l.length c) l.length (i64s l)
theorem own_up {w w' : World} {base n : Nat} {e : TypeId} {size : Nat} {v : Value} {xs : List Value} (h : w.ownsRow base e size v n xs) (hg : w.grownBy w' none) : w'.ownsRow base e size v n xs :=
  h.kept hg (by cases v.ownBlock <;> simp)
theorem OwnIF.up (base : Nat) (l : List Int) : (OwnIF base l).Up := by
  rintro v w w' ⟨A, c, h1, h2, h3⟩ hg
  exact ⟨A, c, h1, h2, own_up h3 hg⟩
/-- A vector of ints with a row of its own. -/
def OwnVF (base : Nat) (l : List Int) : Fct := fun v w => ∃ A c, l.length ≤ c ∧ v = .agg #[.int .i64 2, .slice A l.length c, .slice none 0 0, .slice none 0 0] ∧ w.ownsRow base 2 1 (.slice A l.length c) l.length (i64s l)
theorem OwnVF.up (base : Nat) (l : List Int) : (OwnVF base l).Up := by
  rintro v w w' ⟨A, c, h1, h2, h3⟩ hg
  exact ⟨A, c, h1, h2, own_up h3 hg⟩
section
attribute [-go_sem] Go.storeCells
set_option maxHeartbeats 4000000 in
set_option maxRecDepth 100000 in
theorem index_ints (x : Vl) (ps : List Int) (w : World) (B : Nat) (nA : Option Addr) (nc : Nat) (sA : Option Addr) (sc : Nat) (lA : Option Addr) (lc : Nat) (pA : Option Addr) (pc : Nat)
    (hx : IntV x) (ht : x.t = 2) (hB : B ≤ w.heap.size) (vx : VB w B x nA nc sA sc lA lc) (hp : Rd w w.heap.size pA (i64s ps)) (h1 : ps.length ≤ 1100000) :
    Calls Tryz.prog 18 #[.agg #[.int .i64 x.t, .slice nA x.n.length nc, .slice sA x.s.length sc, .slice lA x.l.length lc], .slice pA ps.length pc] w (DoR (.ok (2, ps.map (pickI x.n (-9223372036854775808)))) w) := by
  have hq := kindO_int hx
  rw [ht] at hq ⊢
  obtain ⟨wa, hwa⟩ : ∃ wa, wa = (w.alloc (.cells #[.int .i64 2, .slice nA x.n.length nc, .slice sA x.s.length sc, .slice lA x.l.length lc] 26)).alloc (.cells #[.int .i64 0, .slice none 0 0, .slice none 0 0, .slice none 0 0] 26) := ⟨_, rfl⟩
  have bx : wa.heap[w.heap.size]? = some (.cells #[.int .i64 2, .slice nA x.n.length nc, .slice sA x.s.length sc, .slice lA x.l.length lc] 26 (0, 0)) := by rw [hwa]; exact (Below.heap_alloc _ _ _ (by rw [World.size_alloc]; omega)).trans (heap_alloc_new w _)
  have bz : wa.heap[w.heap.size + 1]? = some (.cells #[.int .i64 0, .slice none 0 0, .slice none 0 0, .slice none 0 0] 26 (0, 0)) := by rw [hwa]; have := heap_alloc_new (w.alloc (.cells #[.int .i64 2, .slice nA x.n.length nc, .slice sA x.s.length sc, .slice lA x.l.length lc] 26)) (.cells #[.int .i64 0, .slice none 0 0, .slice none 0 0, .slice none 0 0] 26); rwa [World.size_alloc] at this
  have HBX := hide bx
  have HBZ := hide bz
  have HG := hide (show w.grownBy wa none by rw [hwa]; exact gb_alloc (gb_alloc (gb_refl w none) _) _)
  have HWE := hide hwa
  have HQ := hide (show (kindO 2 x.s.length x.n.length == 2) = true by rw [hq]; rfl)
  have HPK := hide (fun w2 (hg : w.grownBy w2 none) => picked_any x.n ps (-9223372036854775808) w2 nA nc pA pc (((vx.gb hg hB).n).more (Nat.le_trans hB hg.size)) ((hp.grown hg (Nat.le_refl _) (by simp)).more hg.size) h1 (Nat.le_trans hx.n (by omega)))
  obtain ⟨c0, c1, c2, c3⟩ : C4 wa w.heap.size 0 (.int .i64 2) (.slice nA x.n.length nc) (.slice sA x.s.length sc) (.slice lA x.l.length lc) := ⟨by rw [blk_cell bx]; rfl, by rw [blk_cell bx]; rfl, by rw [blk_cell bx]; rfl, by rw [blk_cell bx]; rfl⟩
  obtain ⟨rl, hrl⟩ : ∃ rl, rl = ps.map (pickI x.n (-9223372036854775808)) := ⟨_, rfl⟩
  rw [← hrl] at HPK ⊢
  clear bx bz hwa hx hB vx hp h1 ht hq hrl
  go_enter Tryz.func18, Tryz.ntmps18
  go_wp2_with fail
  rw [← HWE.out]
  go_wp2_with (go_at_call 34; refine (isSeq_any _ _ _ _ _ _ _ _ _).mono ?_; rintro e w1 ⟨rfl, hg1⟩; have hqq := HQ.out; have HG1 := hide hg1; clear c0 c1 c2 c3; obtain ⟨c0, c1, c2, c3⟩ : C4 w1 w.heap.size 0 (.int .i64 2) (.slice nA x.n.length nc) (.slice sA x.s.length sc) (.slice lA x.l.length lc) := (by have h := blk_keep HBX.out hg1 (by simp); exact ⟨by rw [blk_cell h]; rfl, by rw [blk_cell h]; rfl, by rw [blk_cell h]; rfl, by rw [blk_cell h]; rfl⟩); clear hg1)
  clear hqq
  have HC := hide (show C4 w1 w.heap.size 0 (.int .i64 2) (.slice nA x.n.length nc) (.slice sA x.s.length sc) (.slice lA x.l.length lc) from ⟨c0, c1, c2, c3⟩)
  have HGG := hide (gb_trans HG.out HG1.out (.inl rfl))
  clear c0 c1 c2 c3 HQ HWE
  refine wp_region_facts' 13 (by kernel_rfl) (by kernel_rfl) ?_
  intro A O W L HA HO HW HL
  simp only [List.take_succ_cons, List.take_zero]
  have HS := hide (show A.tmps.size = 47 by rw [HA.out]; rfl)
  have HGW := hide (show w1.grownBy W none by rw [HW.out]; exact gb_drew (gb_refl w1 none))
  have A1 := hide (show A.eval (.tmp 1) = .slice pA ps.length pc by rw [HA.out]; rfl)
  have A2 := hide (show A.eval (.tmp 2) = .pointer (some ⟨w.heap.size, 0, none⟩) by rw [HA.out]; rfl)
  -- slot 34
  refine wpFacts_lit (.pointer (some ⟨w.heap.size, 0, none⟩)) rfl ?_ ?_
  · intro a wq hw hl
    have e2 : a.tmps[2]?.getD undef = .pointer (some ⟨w.heap.size, 0, none⟩) := (hl 2 (by first | (simp [Op.operands]; done) | simp [Op.operands, Call.operands]) (by rw [HS.out]; decide)).trans A2.out
    clear hl
    go_simp
  -- slot 35
  refine wpFacts_lit (.int .i64 2) rfl ?_ ?_
  · intro a wq hw hl
    have e34 : a.tmps[34]?.getD undef = .pointer (some ⟨w.heap.size, 0, none⟩) := hl 34 (by first | (simp [Op.operands]; done) | simp [Op.operands, Call.operands]) (by rw [HS.out]; decide)
    obtain ⟨c0, c1, c2, c3⟩ := HC.out.gb (gb_trans HGW.out hw (.inl rfl))
    clear hl
    go_simp
  -- slot 36
  refine wpFacts_lit (.pointer (some ⟨w.heap.size, 1, none⟩)) rfl ?_ ?_
  · intro a wq hw hl
    have e2 : a.tmps[2]?.getD undef = .pointer (some ⟨w.heap.size, 0, none⟩) := (hl 2 (by first | (simp [Op.operands]; done) | simp [Op.operands, Call.operands]) (by rw [HS.out]; decide)).trans A2.out
    clear hl
    go_simp
  -- slot 37
  refine wpFacts_lit (.slice nA x.n.length nc) rfl ?_ ?_
  · intro a wq hw hl
    have e36 : a.tmps[36]?.getD undef = .pointer (some ⟨w.heap.size, 1, none⟩) := hl 36 (by first | (simp [Op.operands]; done) | simp [Op.operands, Call.operands]) (by rw [HS.out]; decide)
    obtain ⟨c0, c1, c2, c3⟩ := HC.out.gb (gb_trans HGW.out hw (.inl rfl))
    clear hl
    go_simp
  -- slot 38
  refine wpFacts_lit (.pointer (some ⟨w.heap.size, 0, none⟩)) rfl ?_ ?_
  · intro a wq hw hl
    have e2 : a.tmps[2]?.getD undef = .pointer (some ⟨w.heap.size, 0, none⟩) := (hl 2 (by first | (simp [Op.operands]; done) | simp [Op.operands, Call.operands]) (by rw [HS.out]; decide)).trans A2.out
    clear hl
    go_simp
  -- slot 39
  refine wpFacts_lit (.int .i64 2) rfl ?_ ?_
  · intro a wq hw hl
    have e38 : a.tmps[38]?.getD undef = .pointer (some ⟨w.heap.size, 0, none⟩) := hl 38 (by first | (simp [Op.operands]; done) | simp [Op.operands, Call.operands]) (by rw [HS.out]; decide)
    obtain ⟨c0, c1, c2, c3⟩ := HC.out.gb (gb_trans HGW.out hw (.inl rfl))
    clear hl
    go_simp
  -- slot 40
  refine wpFacts_step (ValF (.mk (-2) [-9223372036854775808] [] [])) rfl (ValF.up _) ?_ ?_
  · intro a wq hw hl
    have e39 : a.tmps[39]?.getD undef = .int .i64 2 := hl 39 (by first | (simp [Op.operands]; done) | simp [Op.operands, Call.operands]) (by rw [HS.out]; decide)
    clear hl
    go_simp
    refine ⟨gb_refl _ none, (null2_any _).mono fun _ _ h => ?_⟩
    obtain ⟨x9, h1, h2, h3⟩ := ValF.of_new h
    exact ⟨x9, h1, h2, h3⟩
  -- slot 41
  refine wpFacts_step (RdIF [-9223372036854775808]) rfl (RdIF.up _) ?_ ?_
  · intro a wq hw hl
    have h40 : (ValF (.mk (-2) [-9223372036854775808] [] [])) (a.tmps[40]?.getD undef) wq := hl 40 (by first | (simp [Op.operands]; done) | simp [Op.operands, Call.operands]) (by rw [HS.out]; decide)
    obtain ⟨mA, mc, tA, tc, kA, kc, e40, hv⟩ := h40
    clear hl
    go_simp
    exact ⟨gb_refl _ none, mA, mc, rfl, hv.n⟩
  -- slot 42
  refine wpFacts_step (CellF (.int .i64 (-9223372036854775808))) rfl (CellF.up _) ?_ ?_
  · intro a wq hw hl
    have h41 : (RdIF [-9223372036854775808]) (a.tmps[41]?.getD undef) wq := hl 41 (by first | (simp [Op.operands]; done) | simp [Op.operands, Call.operands]) (by rw [HS.out]; decide)
    obtain ⟨mA, mc, e41, hr⟩ := h41
    obtain ⟨ad, rfl, _, hcl⟩ := hr.i64 (k := 0) (by decide)
    have e41a : a.tmps[41]?.getD undef = .slice (some ad) 1 mc := e41
    clear e41
    clear hl
    go_simp
    refine ⟨gb_refl _ none, ad, rfl, ?_⟩
    have hcl : wq.cell? (ad.add 0) = some (.int .i64 (-9223372036854775808)) := hcl
    rwa [Addr.add_zero'] at hcl
  -- slot 43
  refine wpFacts_lit (.int .i64 (-9223372036854775808)) rfl ?_ ?_
  · intro a wq hw hl
    have h42 : (CellF (.int .i64 (-9223372036854775808))) (a.tmps[42]?.getD undef) wq := hl 42 (by first | (simp [Op.operands]; done) | simp [Op.operands, Call.operands]) (by rw [HS.out]; decide)
    obtain ⟨ad, e42, hcl⟩ := h42
    clear hl
    go_simp
  -- slot 44
  refine wpFacts_lit (.slice pA ps.length pc) rfl ?_ ?_
  · intro a wq hw hl
    have e1 : a.tmps[1]?.getD undef = .slice pA ps.length pc := (hl 1 (by first | (simp [Op.operands]; done) | simp [Op.operands, Call.operands]) (by rw [HS.out]; decide)).trans A1.out
    clear hl
    go_simp
  -- slot 45
  refine wpFacts_step (OwnIF w.heap.size rl) rfl (OwnIF.up _ _) ?_ ?_
  · intro a wq hw hl
    have e37 : a.tmps[37]?.getD undef = .slice nA x.n.length nc := hl 37 (by first | (simp [Op.operands]; done) | simp [Op.operands, Call.operands]) (by rw [HS.out]; decide)
    have e43 : a.tmps[43]?.getD undef = .int .i64 (-9223372036854775808) := hl 43 (by first | (simp [Op.operands]; done) | simp [Op.operands, Call.operands]) (by rw [HS.out]; decide)
    have e44 : a.tmps[44]?.getD undef = .slice pA ps.length pc := hl 44 (by first | (simp [Op.operands]; done) | simp [Op.operands, Call.operands]) (by rw [HS.out]; decide)
    clear hl
    go_simp
    refine ⟨gb_refl _ none, (HPK.out _ (gb_trans HGG.out (gb_trans HGW.out hw (.inl rfl)) (.inl rfl))).mono fun _ _ h => ?_⟩
    obtain ⟨hg, A, c, h1, h2, h3⟩ := h
    exact ⟨_, h2, hg, A, c, h1, rfl, own_low h3 (Nat.le_trans HGG.out.size (Nat.le_trans HGW.out.size hw.size))⟩
  -- slot 46
  refine wpFacts_step (OwnVF w.heap.size rl) rfl (OwnVF.up _ _) ?_ ?_
  · intro a wq hw hl
    have e35 : a.tmps[35]?.getD undef = .int .i64 2 := hl 35 (by first | (simp [Op.operands]; done) | simp [Op.operands, Call.operands]) (by rw [HS.out]; decide)
    have h45 : (OwnIF w.heap.size rl) (a.tmps[45]?.getD undef) wq := hl 45 (by first | (simp [Op.operands]; done) | simp [Op.operands, Call.operands]) (by rw [HS.out]; decide)
    obtain ⟨rA, rc, h1, e45, h2⟩ := h45
    clear hl
    go_simp
    exact ⟨gb_refl _ none, rA, rc, h1, rfl, h2⟩
  refine HL.out _ (fun a' w5 hc => ?_)
  have h46 : (OwnVF w.heap.size rl) (a'.eval (.tmp 46)) w5 := hc.fact 46 (by rw [HS.out]; decide)
  obtain ⟨rA, rc, hlc, e46, ho⟩ := h46
  have hgw5 := gb_trans HGW.out hc.grown (.inl rfl)
  have hfr := hc.frame [34, 35, 36, 37, 38, 39, 40, 41, 42, 43, 44, 45, 46, 5] (by rw [HO.out]; kernel_rfl)
  rw [hfr]
  clear hfr hc
  rw [HA.out]
  clear HA HO HL HW HS HGW A1 A2
  clear A O W L
  simp only [List.drop_succ_cons, List.drop_zero, List.foldl_cons, List.foldl_nil, Act.put, List.setIfInBounds_toArray, List.set_cons_succ, List.set_cons_zero]
  rw [e46]
  generalize a'.eval (.tmp 34) = x34
  generalize a'.eval (.tmp 35) = x35
  generalize a'.eval (.tmp 36) = x36
  generalize a'.eval (.tmp 37) = x37
  generalize a'.eval (.tmp 38) = x38
  generalize a'.eval (.tmp 39) = x39
  generalize a'.eval (.tmp 40) = x40
  generalize a'.eval (.tmp 41) = x41
  generalize a'.eval (.tmp 42) = x42
  generalize a'.eval (.tmp 43) = x43
  generalize a'.eval (.tmp 44) = x44
  generalize a'.eval (.tmp 45) = x45
  generalize a'.eval (.tmp 5) = x5
  clear e46
  clear a'
  have HG5 := hide (gb_trans HGG.out hgw5 (.inl rfl))
  have hbz := blk_keep HBZ.out (gb_trans HG1.out hgw5 (.inl rfl)) (by simp)
  have HZ := hide hbz
  have HO := hide ho
  have HLC := hide hlc
  have hst := storeCells_row (P := Tryz.prog) (c' := #[.int .i64 2, .slice rA rl.length rc, .slice none 0 0, .slice none 0 0]) hbz info4 rfl (by simp [Value.oneCell'])
  clear hbz ho hlc hgw5 HPK HC HBX HBZ HG1 HGG HG
  go_wp2_with fail
  have hrow := heap_setRow_at _ _ _ #[.int .i64 2, .slice rA rl.length rc, .slice none 0 0, .slice none 0 0] _ _ HZ.out
  have m0 := blk_cell hrow 0
  have m1 := blk_cell hrow 1
  have m2 := blk_cell hrow 2
  have m3 := blk_cell hrow 3
  simp only [List.getElem?_toArray, List.getElem?_cons_zero, List.getElem?_cons_succ] at m0 m1 m2 m3
  have hon := HO.out.kept (gb_setRow_own w5 (w.heap.size + 1) #[.int .i64 2, .slice rA rl.length rc, .slice none 0 0, .slice none 0 0]) (.inr (own_ne HO.out HZ.out (by decide)))
  exact bodyPost_ret (v := .tuple #[.agg #[.int .i64 2, .slice rA rl.length rc, .slice none 0 0, .slice none 0 0], .int .i64 0]) (by simp [results, Tryz.results18, go_sem, m0, m1, m2, m3]) rfl ⟨gb_setRow HG5.out _ _ (by omega), rA, rc, HLC.out, rfl, hon⟩
end
end Go.Proofs.YtnilcnobngcbgaaGreat
