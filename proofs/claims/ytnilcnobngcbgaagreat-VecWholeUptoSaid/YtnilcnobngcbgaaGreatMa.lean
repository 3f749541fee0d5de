/-
  vec.Join of atoms and vectors of one type.
-/
import Derived.Test.YtnilcnobngcbgaaGreatDj
import Derived.Test.YtnilcnobngcbgaaGreatDu
import Derived.Test.YtnilcnobngcbgaaGreatDv
import Derived.Test.YtnilcnobngcbgaaGreatVj
import Derived.Test.YtnilcnobngcbgaaGreatVw
import Derived.Test.YtnilcnobngcbgaaGreatVu

namespace Go.Proofs.YtnilcnobngcbgaaGreat
open Go.RowKit
attribute [local go_sem ↓] Go.wp_at_zero Go.wp_at_succ

/-- A row of ints that is read. -/
def RdIF (l : List Int) : Fct := fun v w => ∃ A c, v = .slice A l.length c ∧ Rd w w.heap.size A (i64s l)
theorem RdIF.up (l : List Int) : (RdIF l).Up := by
  rintro v w w' ⟨A, c, h1, h2⟩ hg
  exact ⟨A, c, h1, (h2.grown hg (Nat.le_refl _) (by simp)).more hg.size⟩
/-- Where a value is found. -/
def CellF (u : Value) : Fct := fun v w => ∃ ad, v = .pointer (some ad) ∧ w.cell? ad = some u
theorem CellF.up (u : Value) : (CellF u).Up := by
  rintro v w w' ⟨ad, h1, h2⟩ hg
  exact ⟨ad, h1, cell_gb h2 hg⟩
/-- A row of ints of its own. -/
def OwnIF (base : Nat) (l : List Int) : Fct := fun v w => ∃ A c, l.length ≤ c ∧ v = .slice A l.length c ∧ w.ownsRow base 2 1 (.slice A l.length c) l.length (i64s l)
theorem own_up {w w' : World} {base n : Nat} {e : TypeId} {size : Nat} {v : Value} {xs : List Value} (h : w.ownsRow base e size v n xs) (hg : w.grownBy w' none) : w'.ownsRow base e size v n xs :=
  h.kept hg (by cases v.ownBlock <;> simp)
theorem OwnIF.up (base : Nat) (l : List Int) : (OwnIF base l).Up := by
  rintro v w w' ⟨A, c, h1, h2, h3⟩ hg
  exact ⟨A, c, h1, h2, own_up h3 hg⟩
/-- A vector of ints with a row of its own. -/
def OwnVF (base : Nat) (l : List Int) : Fct := fun v w => ∃ A c, l.length ≤ c ∧ v = .agg #[.int .i64 2, .slice A l.length c, .slice none 0 0, .slice none 0 0] ∧ w.ownsRow base 2 1 (.slice A l.length c) l.length (i64s l)
theorem OwnVF.up (base : Nat) (l : List Int) : (OwnVF base l).Up := by
  rintro v w w' ⟨A, c, h1, h2, h3⟩ hg
  exact ⟨A, c, h1, h2, own_up h3 hg⟩
section
attribute [-go_sem] Go.storeCells
set_option maxHeartbeats 4000000 in
set_option maxRecDepth 100000 in
theorem index_ints (x : Vl) (ps : List Int) (w : World) (B : Nat) (nA : Option Addr) (nc : Nat) (sA : Option Addr) (sc : Nat) (lA : Option Addr) (lc : Nat) (pA : Option Addr) (pc : Nat)
    (hx : IntV x) (ht : x.t = 2) (hB : B ≤ w.heap.size) (vx : VB w B x nA nc sA sc lA lc) (hp : Rd w w.heap.size pA (i64s ps)) (h1 : ps.length ≤ 1100000) :
    Calls Tryz.prog 18 #[.agg #[.int .i64 x.t, .slice nA x.n.length nc, .slice sA x.s.length sc, .slice lA x.l.length lc], .slice pA ps.length pc] w (DoR (.ok (2, ps.map (pickI x.n (-9223372036854775808)))) w) := by
  have hq := kindO_int hx
  rw [ht] at hq ⊢
  obtain ⟨wa, hwa⟩ : ∃ wa, wa = (w.alloc (.cells #[.int .i64 2, .slice nA x.n.length nc, .slice sA x.s.length sc, .slice lA x.l.length lc] 26)).alloc (.cells #[.int .i64 0, .slice none 0 0, .slice none 0 0, .slice none 0 0] 26) := ⟨_, rfl⟩
  have bx : wa.heap[w.heap.size]? = some (.cells #[.int .i64 2, .slice nA x.n.length nc, .slice sA x.s.length sc, .slice lA x.l.length lc] 26 (0, 0)) := by rw [hwa]; exact (Below.heap_alloc _ _ _ (by rw [World.size_alloc]; omega)).trans (heap_alloc_new w _)
  have bz : wa.heap[w.heap.size + 1]? = some (.cells #[.int .i64 0, .slice none 0 0, .slice none 0 0, .slice none 0 0] 26 (0, 0)) := by rw [hwa]; have := heap_alloc_new (w.alloc (.cells #[.int .i64 2, .slice nA x.n.length nc, .slice sA x.s.length sc, .slice lA x.l.length lc] 26)) (.cells #[.int .i64 0, .slice none 0 0, .slice none 0 0, .slice none 0 0] 26); rwa [World.size_alloc] at this
  have HBX := hide bx
  have HBZ := hide bz
  have HG := hide (show w.grownBy wa none by rw [hwa]; exact gb_alloc (gb_alloc (gb_refl w none) _) _)
  have HWE := hide hwa
  have HQ := hide (show (kindO 2 x.s.length x.n.length == 2) = true by rw [hq]; rfl)
  have HPK := hide (fun w2 (hg : w.grownBy w2 none) => picked_any x.n ps (-9223372036854775808) w2 nA nc pA pc (((vx.gb hg hB).n).more (Nat.le_trans hB hg.size)) ((hp.grown hg (Nat.le_refl _) (by simp)).more hg.size) h1 (Nat.le_trans hx.n (by omega)))
  obtain ⟨c0, c1, c2, c3⟩ : C4 wa w.heap.size 0 (.int .i64 2) (.slice nA x.n.length nc) (.slice sA x.s.length sc) (.slice lA x.l.length lc) := ⟨by rw [blk_cell bx]; rfl, by rw [blk_cell bx]; rfl, by rw [blk_cell bx]; rfl, by rw [blk_cell bx]; rfl⟩
  obtain ⟨rl, hrl⟩ : ∃ rl, rl = ps.map (pickI x.n (-9223372036854775808)) := ⟨_, rfl⟩
  rw [← hrl] at HPK ⊢
  clear bx bz hwa hx hB vx hp h1 ht hq hrl
  go_enter Tryz.func18, Tryz.ntmps18
  go_wp2_with fail
  rw [← HWE.out]
  go_wp2_with (go_at_call 34; refine (isSeq_any _ _ _ _ _ _ _ _ _).mono ?_; rintro e w1 ⟨rfl, hg1⟩; have hqq := HQ.out; have HG1 := hide hg1; clear c0 c1 c2 c3; obtain ⟨c0, c1, c2, c3⟩ : C4 w1 w.heap.size 0 (.int .i64 2) (.slice nA x.n.length nc) (.slice sA x.s.length sc) (.slice lA x.l.length lc) := (by have h := blk_keep HBX.out hg1 (by simp); exact ⟨by rw [blk_cell h]; rfl, by rw [blk_cell h]; rfl, by rw [blk_cell h]; rfl, by rw [blk_cell h]; rfl⟩); clear hg1)
  clear hqq
  have HC := hide (show C4 w1 w.heap.size 0 (.int .i64 2) (.slice nA x.n.length nc) (.slice sA x.s.length sc) (.slice lA x.l.length lc) from ⟨c0, c1, c2, c3⟩)
  have HGG := hide (gb_trans HG.out HG1.out (.inl rfl))
  clear c0 c1 c2 c3 HQ HWE
  refine wp_region_facts' 13 (by kernel_rfl) (by kernel_rfl) ?_
  intro A O W L HA HO HW HL
  simp only [List.take_succ_cons, List.take_zero]
  have HS := hide (show A.tmps.size = 47 by rw [HA.out]; rfl)
  have HGW := hide (show w1.grownBy W none by rw [HW.out]; exact gb_drew (gb_refl w1 none))
  have A1 := hide (show A.eval (.tmp 1) = .slice pA ps.length pc by rw [HA.out]; rfl)
  have A2 := hide (show A.eval (.tmp 2) = .pointer (some ⟨w.heap.size, 0, none⟩) by rw [HA.out]; rfl)
  -- slot 34
  refine wpFacts_lit (.pointer (some ⟨w.heap.size, 0, none⟩)) rfl ?_ ?_
  · intro a wq hw hl
    have e2 : a.tmps[2]?.getD undef = .pointer (some ⟨w.heap.size, 0, none⟩) := (hl 2 (by first | (simp [Op.operands]; done) | simp [Op.operands, Call.operands]) (by rw [HS.out]; decide)).trans A2.out
    clear hl
    go_simp
  -- slot 35
  refine wpFacts_lit (.int .i64 2) rfl ?_ ?_
  · intro a wq hw hl
    have e34 : a.tmps[34]?.getD undef = .pointer (some ⟨w.heap.size, 0, none⟩) := hl 34 (by first | (simp [Op.operands]; done) | simp [Op.operands, Call.operands]) (by rw [HS.out]; decide)
    obtain ⟨c0, c1, c2, c3⟩ := HC.out.gb (gb_trans HGW.out hw (.inl rfl))
    clear hl
    go_simp
  -- slot 36
  refine wpFacts_lit (.pointer (some ⟨w.heap.size, 1, none⟩)) rfl ?_ ?_
  · intro a wq hw hl
    have e2 : a.tmps[2]?.getD undef = .pointer (some ⟨w.heap.size, 0, none⟩) := (hl 2 (by first | (simp [Op.operands]; done) | simp [Op.operands, Call.operands]) (by rw [HS.out]; decide)).trans A2.out
    clear hl
    go_simp
  -- slot 37
  refine wpFacts_lit (.slice nA x.n.length nc) rfl ?_ ?_
  · intro a wq hw hl
    have e36 : a.tmps[36]?.getD undef = .pointer (some ⟨w.heap.size, 1, none⟩) := hl 36 (by first | (simp [Op.operands]; done) | simp [Op.operands, Call.operands]) (by rw [HS.out]; decide)
    obtain ⟨c0, c1, c2, c3⟩ := HC.out.gb (gb_trans HGW.out hw (.inl rfl))
    clear hl
    go_simp
  -- slot 38
  refine wpFacts_lit (.pointer (some ⟨w.heap.size, 0, none⟩)) rfl ?_ ?_
  · intro a wq hw hl
    have e2 : a.tmps[2]?.getD undef = .pointer (some ⟨w.heap.size, 0, none⟩) := (hl 2 (by first | (simp [Op.operands]; done) | simp [Op.operands, Call.operands]) (by rw [HS.out]; decide)).trans A2.out
    clear hl
    go_simp
  -- slot 39
  refine wpFacts_lit (.int .i64 2) rfl ?_ ?_
  · intro a wq hw hl
    have e38 : a.tmps[38]?.getD undef = .pointer (some ⟨w.heap.size, 0, none⟩) := hl 38 (by first | (simp [Op.operands]; done) | simp [Op.operands, Call.operands]) (by rw [HS.out]; decide)
    obtain ⟨c0, c1, c2, c3⟩ := HC.out.gb (gb_trans HGW.out hw (.inl rfl))
    clear hl
    go_simp
  -- slot 40
  refine wpFacts_step (ValF (.mk (-2) [-9223372036854775808] [] [])) rfl (ValF.up _) ?_ ?_
  · intro a wq hw hl
    have e39 : a.tmps[39]?.getD undef = .int .i64 2 := hl 39 (by first | (simp [Op.operands]; done) | simp [Op.operands, Call.operands]) (by rw [HS.out]; decide)
    clear hl
    go_simp
    refine ⟨gb_refl _ none, (null2_any _).mono fun _ _ h => ?_⟩
    obtain ⟨x9, h1, h2, h3⟩ := ValF.of_new h
    exact ⟨x9, h1, h2, h3⟩
  -- slot 41
  refine wpFacts_step (RdIF [-9223372036854775808]) rfl (RdIF.up _) ?_ ?_
  · intro a wq hw hl
    have h40 : (ValF (.mk (-2) [-9223372036854775808] [] [])) (a.tmps[40]?.getD undef) wq := hl 40 (by first | (simp [Op.operands]; done) | simp [Op.operands, Call.operands]) (by rw [HS.out]; decide)
    obtain ⟨mA, mc, tA, tc, kA, kc, e40, hv⟩ := h40
    clear hl
    go_simp
    exact ⟨gb_refl _ none, mA, mc, rfl, hv.n⟩
  -- slot 42
  refine wpFacts_step (CellF (.int .i64 (-9223372036854775808))) rfl (CellF.up _) ?_ ?_
  · intro a wq hw hl
    have h41 : (RdIF [-9223372036854775808]) (a.tmps[41]?.getD undef) wq := hl 41 (by first | (simp [Op.operands]; done) | simp [Op.operands, Call.operands]) (by rw [HS.out]; decide)
    obtain ⟨mA, mc, e41, hr⟩ := h41
    obtain ⟨ad, rfl, _, hcl⟩ := hr.i64 (k := 0) (by decide)
    have e41a : a.tmps[41]?.getD undef = .slice (some ad) 1 mc := e41
    clear e41
    clear hl
    go_simp
    refine ⟨gb_refl _ none, ad, rfl, ?_⟩
    have hcl : wq.cell? (ad.add 0) = some (.int .i64 (-9223372036854775808)) := hcl
    rwa [Addr.add_zero'] at hcl
  -- slot 43
  refine wpFacts_lit (.int .i64 (-9223372036854775808)) rfl ?_ ?_
  · intro a wq hw hl
    have h42 : (CellF (.int .i64 (-9223372036854775808))) (a.tmps[42]?.getD undef) wq := hl 42 (by first | (simp [Op.operands]; done) | simp [Op.operands, Call.operands]) (by rw [HS.out]; decide)
    obtain ⟨ad, e42, hcl⟩ := h42
    clear hl
    go_simp
  -- slot 44
  refine wpFacts_lit (.slice pA ps.length pc) rfl ?_ ?_
  · intro a wq hw hl
    have e1 : a.tmps[1]?.getD undef = .slice pA ps.length pc := (hl 1 (by first | (simp [Op.operands]; done) | simp [Op.operands, Call.operands]) (by rw [HS.out]; decide)).trans A1.out
    clear hl
    go_simp
  -- slot 45
  refine wpFacts_step (OwnIF w.heap.size rl) rfl (OwnIF.up _ _) ?_ ?_
  · intro a wq hw hl
    have e37 : a.tmps[37]?.getD undef = .slice nA x.n.length nc := hl 37 (by first | (simp [Op.operands]; done) | simp [Op.operands, Call.operands]) (by rw [HS.out]; decide)
    have e43 : a.tmps[43]?.getD undef = .int .i64 (-9223372036854775808) := hl 43 (by first | (simp [Op.operands]; done) | simp [Op.operands, Call.operands]) (by rw [HS.out]; decide)
    have e44 : a.tmps[44]?.getD undef = .slice pA ps.length pc := hl 44 (by first | (simp [Op.operands]; done) | simp [Op.operands, Call.operands]) (by rw [HS.out]; decide)
    clear hl
    go_simp
    refine ⟨gb_refl _ none, (HPK.out _ (gb_trans HGG.out (gb_trans HGW.out hw (.inl rfl)) (.inl rfl))).mono fun _ _ h => ?_⟩
    obtain ⟨hg, A, c, h1, h2, h3⟩ := h
    exact ⟨_, h2, hg, A, c, h1, rfl, own_low h3 (Nat.le_trans HGG.out.size (Nat.le_trans HGW.out.size hw.size))⟩
  -- slot 46
  refine wpFacts_step (OwnVF w.heap.size rl) rfl (OwnVF.up _ _) ?_ ?_
  · intro a wq hw hl
    have e35 : a.tmps[35]?.getD undef = .int .i64 2 := hl 35 (by first | (simp [Op.operands]; done) | simp [Op.operands, Call.operands]) (by rw [HS.out]; decide)
    have h45 : (OwnIF w.heap.size rl) (a.tmps[45]?.getD undef) wq := hl 45 (by first | (simp [Op.operands]; done) | simp [Op.operands, Call.operands]) (by rw [HS.out]; decide)
    obtain ⟨rA, rc, h1, e45, h2⟩ := h45
    clear hl
    go_simp
    exact ⟨gb_refl _ none, rA, rc, h1, rfl, h2⟩
  refine HL.out _ (fun a' w5 hc => ?_)
  have h46 : (OwnVF w.heap.size rl) (a'.eval (.tmp 46)) w5 := hc.fact 46 (by rw [HS.out]; decide)
  obtain ⟨rA, rc, hlc, e46, ho⟩ := h46
  have hgw5 := gb_trans HGW.out hc.grown (.inl rfl)
  have hfr := hc.frame [34, 35, 36, 37, 38, 39, 40, 41, 42, 43, 44, 45, 46, 5] (by rw [HO.out]; kernel_rfl)
  rw [hfr]
  clear hfr hc
  rw [HA.out]
  clear HA HO HL HW HS HGW A1 A2
  clear A O W L
  simp only [List.drop_succ_cons, List.drop_zero, List.foldl_cons, List.foldl_nil, Act.put, List.setIfInBounds_toArray, List.set_cons_succ, List.set_cons_zero]
  rw [e46]
  generalize a'.eval (.tmp 34) = x34
  generalize a'.eval (.tmp 35) = x35
  generalize a'.eval (.tmp 36) = x36
  generalize a'.eval (.tmp 37) = x37
  generalize a'.eval (.tmp 38) = x38
  generalize a'.eval (.tmp 39) = x39
  generalize a'.eval (.tmp 40) = x40
  generalize a'.eval (.tmp 41) = x41
  generalize a'.eval (.tmp 42) = x42
  generalize a'.eval (.tmp 43) = x43
  generalize a'.eval (.tmp 44) = x44
  generalize a'.eval (.tmp 45) = x45
  generalize a'.eval (.tmp 5) = x5
  clear e46
  clear a'
  have HG5 := hide (gb_trans HGG.out hgw5 (.inl rfl))
  have hbz := blk_keep HBZ.out (gb_trans HG1.out hgw5 (.inl rfl)) (by simp)
  have HZ := hide hbz
  have HO := hide ho
  have HLC := hide hlc
  have hst := storeCells_row (P := Tryz.prog) (c' := #[.int .i64 2, .slice rA rl.length rc, .slice none 0 0, .slice none 0 0]) hbz info4 rfl (by simp [Value.oneCell'])
  clear hbz ho hlc hgw5 HPK HC HBX HBZ HG1 HGG HG
  go_wp2_with fail
  have hrow := heap_setRow_at _ _ _ #[.int .i64 2, .slice rA rl.length rc, .slice none 0 0, .slice none 0 0] _ _ HZ.out
  have m0 := blk_cell hrow 0
  have m1 := blk_cell hrow 1
  have m2 := blk_cell hrow 2
  have m3 := blk_cell hrow 3
  simp only [List.getElem?_toArray, List.getElem?_cons_zero, List.getElem?_cons_succ] at m0 m1 m2 m3
  have hon := HO.out.kept (gb_setRow_own w5 (w.heap.size + 1) #[.int .i64 2, .slice rA rl.length rc, .slice none 0 0, .slice none 0 0]) (.inr (own_ne HO.out HZ.out (by decide)))
  exact bodyPost_ret (v := .tuple #[.agg #[.int .i64 2, .slice rA rl.length rc, .slice none 0 0, .slice none 0 0], .int .i64 0]) (by simp [results, Tryz.results18, go_sem, m0, m1, m2, m3]) rfl ⟨gb_setRow HG5.out _ _ (by omega), rA, rc, HLC.out, rfl, hon⟩
end
end Go.Proofs.YtnilcnobngcbgaaGreat

namespace Go.Proofs.YtnilcnobngcbgaaGreat
open Go.RowKit
attribute [local go_sem ↓] Go.wp_at_zero Go.wp_at_succ

theorem mapped_at (l : List Int) (g : Int → Int) (j : Nat) (hj : j < l.length) : (i64s ((l.take j).map g ++ l.drop j))[j]? = some (.int .i64 (l.getD j 0)) := by
  have e : ((l.take j).map g).length = j := by simp; omega
  rw [show i64s ((l.take j).map g ++ l.drop j) = i64s ((l.take j).map g) ++ i64s (l.drop j) by simp [i64s], List.getElem?_append_right (by simp [i64s]; omega), show (i64s ((l.take j).map g)).length = j by simp [i64s]; omega, Nat.sub_self]
  simp only [i64s, List.getElem?_map, List.getElem?_drop, Nat.add_zero, List.getElem?_eq_getElem hj, Option.map_some]
  rw [List.getD_eq_getElem?_getD, List.getElem?_eq_getElem hj]
  rfl
theorem mapped_set (l : List Int) (g : Int → Int) (j : Nat) (hj : j < l.length) : (i64s ((l.take j).map g ++ l.drop j)).set j (.int .i64 (g (l.getD j 0))) = i64s ((l.take (j + 1)).map g ++ l.drop (j + 1)) := by
  have e : (i64s ((l.take j).map g)).length = j := by simp [i64s]; omega
  have hd : l.drop j = l[j] :: l.drop (j + 1) := List.drop_eq_getElem_cons hj
  have hg : l.getD j 0 = l[j] := by rw [List.getD_eq_getElem?_getD, List.getElem?_eq_getElem hj]; rfl
  have h1 : i64s ((l.take j).map g ++ l.drop j) = i64s ((l.take j).map g) ++ (.int .i64 l[j] :: i64s (l.drop (j + 1))) := by
    rw [hd]; simp only [i64s, List.map_append, List.map_cons]
  rw [h1, hg, List.set_append_right _ _ (by omega), e, Nat.sub_self, List.set_cons_zero, List.take_add_one, List.getElem?_eq_getElem hj]
  simp only [i64s, List.map_append, List.map_cons, List.map_nil, Option.toList_some, List.append_assoc, List.cons_append, List.nil_append]
set_option maxHeartbeats 8000000 in
set_option maxRecDepth 100000 in
theorem take_ints (n : Int) (m : Nat) (x : Vl) (w : World) (B : Nat) (nA : Option Addr) (nc : Nat) (sA : Option Addr) (sc : Nat) (lA : Option Addr) (lc : Nat)
    (hx : IntV x) (ht : x.t = 2) (hB : B ≤ w.heap.size) (vx : VB w B x nA nc sA sc lA lc) (hn : -65536 ≤ n ∧ n ≤ 65536) (hm : n.natAbs = m) :
    Calls Tryz.prog 14 #[.int .i64 n, .agg #[.int .i64 x.t, .slice nA x.n.length nc, .slice sA x.s.length sc, .slice lA x.l.length lc]] w (DoR (.ok (2, ((rowI (min n 0) m).map fun p => remI p (x.n.length : Int)).map (pickI x.n (-9223372036854775808)))) w) := by
  have hq := kindO_int hx
  have hcnt := fun w2 (hg : w.grownBy w2 none) => (count_d x.depth x w2 B nA nc sA sc lA lc (Nat.le_refl _) hx.tot (Nat.le_trans hB hg.size) (vx.gb hg hB)).mono (fun e w' h => (⟨h.1.trans (by rw [hx.count]), h.2⟩ : e = .returned (.int .i64 (x.n.length : Nat)) ∧ w2.grownBy w' none))
  obtain ⟨ps, hps⟩ : ∃ ps, ps = (rowI (min n 0) m).map fun p => remI p (x.n.length : Int) := ⟨_, rfl⟩
  have hpl : ps.length = m := by rw [hps]; simp [rowI_length]
  have hidx := fun w2 (gb : Nat) (hg : w.grownBy w2 none) (hr : Rd w2 w2.heap.size (some ⟨gb, 0, none⟩) (i64s ps)) => index_ints x ps w2 B nA nc sA sc lA lc (some ⟨gb, 0, none⟩) m hx ht (Nat.le_trans hB hg.size) (vx.gb hg hB) hr (by omega)
  obtain ⟨l, hl⟩ : ∃ l, l = rowI (min n 0) m := ⟨_, rfl⟩
  have hll : l.length = m := by rw [hl, rowI_length]
  have hrow := fun w2 => rowG_any (min n 0) (max n 0) m (by omega) (by omega) (by omega) w2
  rw [← hl] at hrow hps
  rw [← hl, ← hps]
  obtain ⟨rl, hrl⟩ : ∃ rl, rl = ps.map (pickI x.n (-9223372036854775808)) := ⟨_, rfl⟩
  rw [hpl, ht] at hidx
  rw [← hrl] at hidx ⊢
  rw [ht] at hq hcnt ⊢
  have HNX := hide hx.n
  have HB2 := hide (show m ≤ 65536 by omega)
  have HROW := hide hrow
  have HIDX := hide hidx
  have HCNT := hide hcnt
  have HPS := hide hps
  have HLL := hide hll
  have h13 : decide (65536 < n) = false := decide_eq_false (by omega)
  have h14 : decide (n < -65536) = false := decide_eq_false (by omega)
  obtain ⟨wa, hwa⟩ : ∃ wa, wa = (w.alloc (.cells #[.int .i64 2, .slice nA x.n.length nc, .slice sA x.s.length sc, .slice lA x.l.length lc] 26)).alloc (.cells #[.int .i64 0, .slice none 0 0, .slice none 0 0, .slice none 0 0] 26) := ⟨_, rfl⟩
  have bx : wa.heap[w.heap.size]? = some (.cells #[.int .i64 2, .slice nA x.n.length nc, .slice sA x.s.length sc, .slice lA x.l.length lc] 26 (0, 0)) := by rw [hwa]; exact (Below.heap_alloc _ _ _ (by rw [World.size_alloc]; omega)).trans (heap_alloc_new w _)
  have bz : wa.heap[w.heap.size + 1]? = some (.cells #[.int .i64 0, .slice none 0 0, .slice none 0 0, .slice none 0 0] 26 (0, 0)) := by rw [hwa]; have := heap_alloc_new (w.alloc (.cells #[.int .i64 2, .slice nA x.n.length nc, .slice sA x.s.length sc, .slice lA x.l.length lc] 26)) (.cells #[.int .i64 0, .slice none 0 0, .slice none 0 0, .slice none 0 0] 26); rwa [World.size_alloc] at this
  have HBX := hide bx
  have HBZ := hide bz
  have HG0 := hide (show w.grownBy wa none by rw [hwa]; exact gb_alloc (gb_alloc (gb_refl w none) _) _)
  have HWE := hide hwa
  have HQ := hide (show (kindO 2 x.s.length x.n.length == 2) = true by rw [hq]; rfl)
  have HGA := hide (gb_refl wa none)
  have HBXA := hide bx
  have HBZA := hide bz
  obtain ⟨c0, c1, c2, c3⟩ : C4 wa w.heap.size 0 (.int .i64 2) (.slice nA x.n.length nc) (.slice sA x.s.length sc) (.slice lA x.l.length lc) := ⟨by rw [blk_cell bx]; rfl, by rw [blk_cell bx]; rfl, by rw [blk_cell bx]; rfl, by rw [blk_cell bx]; rfl⟩
  clear bx bz hwa hx hB vx ht hq hcnt hpl hidx hrow hps hll hl hn hm hrl
  go_enter Tryz.func14, Tryz.ntmps14
  go_wp2_with fail
  rw [← HWE.out]
  go_wp2_with (first
    | (go_at_call 34; refine (isSeq_any _ _ _ _ _ _ _ _ _).mono ?_; rintro e w1 ⟨rfl, hg1⟩; have hqq := HQ.out; have HBXn := hide (blk_keep HBX.out hg1 (by simp)); have HBZn := hide (blk_keep HBZ.out hg1 (by simp)); clear HBX HBZ; have HBX := hide HBXn.out; have HBZ := hide HBZn.out; clear HBXn HBZn; (try clear c0 c1 c2 c3); obtain ⟨c0, c1, c2, c3⟩ : C4 w1 w.heap.size 0 (.int .i64 2) (.slice nA x.n.length nc) (.slice sA x.s.length sc) (.slice lA x.l.length lc) := (by have h := HBX.out; exact ⟨by rw [blk_cell h]; rfl, by rw [blk_cell h]; rfl, by rw [blk_cell h]; rfl, by rw [blk_cell h]; rfl⟩); have HGn := hide (gb_trans HGA.out hg1 (.inl rfl)); clear HGA; have HGA := hide HGn.out; clear HGn hg1)
    | (go_at_call 29; refine (HROW.out _).mono ?_; rintro e w2 ⟨rfl, hg1, ho⟩; have HO := hide ho; have HBXn := hide (blk_keep HBX.out hg1 (by simp)); have HBZn := hide (blk_keep HBZ.out hg1 (by simp)); clear HBX HBZ; have HBX := hide HBXn.out; have HBZ := hide HBZn.out; clear HBXn HBZn; (try clear c0 c1 c2 c3); obtain ⟨c0, c1, c2, c3⟩ : C4 w2 w.heap.size 0 (.int .i64 2) (.slice nA x.n.length nc) (.slice sA x.s.length sc) (.slice lA x.l.length lc) := (by have h := HBX.out; exact ⟨by rw [blk_cell h]; rfl, by rw [blk_cell h]; rfl, by rw [blk_cell h]; rfl, by rw [blk_cell h]; rfl⟩); have HGn := hide (gb_trans HGA.out hg1 (.inl rfl)); have HGB := hide (HGA.out.size); clear HGA; have HGA := hide HGn.out; clear HGn hg1 ho))
  obtain ⟨gb, hgb⟩ : ∃ gb, gb = w1.heap.size := ⟨_, rfl⟩
  rw [← hgb] at HO ⊢
  have HGB2 := hide (show wa.heap.size ≤ gb by rw [hgb]; exact HGB.out)
  have HO1 := hide (own_low HO.out HGB2.out)
  clear hgb HGB HO HROW HQ hqq h13 h14 HWE
  have HBX0 := hide (show wa.heap[w.heap.size]? = some (.cells #[.int .i64 2, .slice nA x.n.length nc, .slice sA x.s.length sc, .slice lA x.l.length lc] 26 (0, 0)) from HBXA.out)
  have HBZ0 := hide (show wa.heap[w.heap.size + 1]? = some (.cells #[.int .i64 0, .slice none 0 0, .slice none 0 0, .slice none 0 0] 26 (0, 0)) from HBZA.out)
  clear HBX HBZ c0 c1 c2 c3
  go_loopw [29] (fun i wr => ∃ j : Nat, i = .int .i64 (j : Int) ∧ j ≤ m ∧ wr.ownsRow wa.heap.size 2 1 (.slice (some ⟨gb, 0, none⟩) m m) m (i64s ((l.take j).map (fun p => remI p (x.n.length : Int)) ++ l.drop j)) ∧ wa.grownBy wr none) (fun i _ => m - (intOf i).toNat)
  case atStart => exact ⟨0, rfl, Nat.zero_le _, by simpa using HO1.out, HGA.out⟩
  case round =>
    obtain ⟨j, rfl, hj, how, hgr⟩ := hrel
    have hbx := blk_keep HBX0.out hgr (by simp)
    obtain ⟨c0, c1, c2, c3⟩ : C4 wr w.heap.size 0 (.int .i64 2) (.slice nA x.n.length nc) (.slice sA x.s.length sc) (.slice lA x.l.length lc) := ⟨by rw [blk_cell hbx]; rfl, by rw [blk_cell hbx]; rfl, by rw [blk_cell hbx]; rfl, by rw [blk_cell hbx]; rfl⟩
    have HGR := hide hgr
    by_cases hlt : j < m
    · have hlt1 : (j : Int) < (m : Int) := by omega
      have h6 : IntKind.i64.wrap ((j : Int) + 1) = ((j + 1 : Nat) : Int) := by rw [IntKind.wrap_i64]; have := HB2.out; omega
      have HJL := hide (show j < l.length by rw [HLL.out]; exact hlt)
      have HLT := hide hlt
      have c5 := how.cellAt j (by omega)
      rw [mapped_at l _ j HJL.out] at c5
      obtain ⟨p, hp⟩ : ∃ p, p = l.getD j 0 := ⟨_, rfl⟩
      rw [← hp] at c5
      have HP := hide hp
      have HOW := hide how
      have HNUM := hide (show Num64 (x.n.length : Int) from ⟨by omega, by have := HNX.out; omega⟩)
      clear hp how hgr hlt hj hbx
      go_wp2_with (first
        | (go_at_call 30; refine (HCNT.out _ (gb_trans HG0.out HGR.out (.inl rfl))).mono ?_; rintro e w3 ⟨rfl, hg3⟩; have HG3 := hide hg3; have HOW3 := hide (own_up HOW.out hg3); have z5 := HOW3.out.frozenAt j; have c5a := cell_gb c5 hg3; clear hg3)
        | (go_at_call 35; refine (rem_any _ _ HNUM.out _).mono ?_; rintro e w4 ⟨rfl, rfl⟩))
      go_roundw
      case rel =>
        have hlt := HLT.out
        refine ⟨j + 1, by go_num, by omega, ?_, gb_setCell (gb_trans HGR.out HG3.out (.inl rfl)) (.inr HGB2.out) _⟩
        have h1 := (HOW3.out.stored j (.int .i64 (remI p (x.n.length : Int)))).1
        have h2 := mapped_set l (fun p => remI p (x.n.length : Int)) j HJL.out
        rw [← HP.out] at h2
        rw [h2] at h1
        exact h1
      case measure =>
        have hlt := HLT.out
        simp [intOf]
        omega
    · have hlt1 : ¬ (j : Int) < (m : Int) := by omega
      obtain rfl : j = m := by omega
      have HOW := hide (show wr.ownsRow wa.heap.size 2 1 (.slice (some ⟨gb, 0, none⟩) j j) j (i64s ps) by rw [HPS.out]; rw [List.take_of_length_le (by rw [HLL.out]; exact Nat.le_refl _), List.drop_of_length_le (by rw [HLL.out]; exact Nat.le_refl _), List.append_nil] at how; exact how)
      have HRD := hide (Rd.of_own HOW.out)
      have HGW := hide (gb_trans HG0.out HGR.out (.inl rfl))
      have HBZ1 := hide (blk_keep HBZ0.out HGR.out (by simp))
      clear how hgr hlt1 hbx hlt hj
      go_wp2_with (go_at_call 18; refine (HIDX.out _ gb HGW.out HRD.out).mono ?_; rintro e w5 ⟨hg5, A, c, hlc, rfl, ho⟩; have HG5 := hide hg5; have HLC := hide hlc; have HO5 := hide ho; have hr2 := blk_keep HBZ1.out hg5 (by simp); have HR2 := hide hr2; have z0 := blk_frozen hr2 0; have z1 := blk_frozen hr2 1; have z2 := blk_frozen hr2 2; have z3 := blk_frozen hr2 3; have y0 : w5.cell? ⟨w.heap.size + 1, 0, none⟩ = some (.int .i64 0) := (by { rw [blk_cell hr2]; rfl }); have y1 : w5.cell? ⟨w.heap.size + 1, 1, none⟩ = some (.slice none 0 0) := (by { rw [blk_cell hr2]; rfl }); have y2 : w5.cell? ⟨w.heap.size + 1, 2, none⟩ = some (.slice none 0 0) := (by { rw [blk_cell hr2]; rfl }); have y3 : w5.cell? ⟨w.heap.size + 1, 3, none⟩ = some (.slice none 0 0) := (by { rw [blk_cell hr2]; rfl }); clear hg5 hlc ho hr2)
      have hb := put_four HR2.out (.int .i64 2) (.slice A rl.length c) (.slice none 0 0) (.slice none 0 0)
      have m0 : ((((w5.setCell ⟨w.heap.size + 1, 0, none⟩ (.int .i64 2)).setCell ⟨w.heap.size + 1, 1, none⟩ (.slice A rl.length c)).setCell ⟨w.heap.size + 1, 2, none⟩ (.slice none 0 0)).setCell ⟨w.heap.size + 1, 3, none⟩ (.slice none 0 0)).cell? ⟨w.heap.size + 1, 0, none⟩ = some (.int .i64 2) := (blk_cell hb 0).trans rfl
      have m1 : ((((w5.setCell ⟨w.heap.size + 1, 0, none⟩ (.int .i64 2)).setCell ⟨w.heap.size + 1, 1, none⟩ (.slice A rl.length c)).setCell ⟨w.heap.size + 1, 2, none⟩ (.slice none 0 0)).setCell ⟨w.heap.size + 1, 3, none⟩ (.slice none 0 0)).cell? ⟨w.heap.size + 1, 1, none⟩ = some (.slice A rl.length c) := (blk_cell hb 1).trans rfl
      have m2 : ((((w5.setCell ⟨w.heap.size + 1, 0, none⟩ (.int .i64 2)).setCell ⟨w.heap.size + 1, 1, none⟩ (.slice A rl.length c)).setCell ⟨w.heap.size + 1, 2, none⟩ (.slice none 0 0)).setCell ⟨w.heap.size + 1, 3, none⟩ (.slice none 0 0)).cell? ⟨w.heap.size + 1, 2, none⟩ = some (.slice none 0 0) := (blk_cell hb 2).trans rfl
      have m3 : ((((w5.setCell ⟨w.heap.size + 1, 0, none⟩ (.int .i64 2)).setCell ⟨w.heap.size + 1, 1, none⟩ (.slice A rl.length c)).setCell ⟨w.heap.size + 1, 2, none⟩ (.slice none 0 0)).setCell ⟨w.heap.size + 1, 3, none⟩ (.slice none 0 0)).cell? ⟨w.heap.size + 1, 3, none⟩ = some (.slice none 0 0) := (blk_cell hb 3).trans rfl
      have hon := own_low (HO5.out.kept (put_four_row w5 (w.heap.size + 1) (.int .i64 2) (.slice A rl.length c) (.slice none 0 0) (.slice none 0 0)) (.inr (own_ne HO5.out HR2.out (by decide)))) HGW.out.size
      exact bodyPost_ret (v := .tuple #[.agg #[.int .i64 2, .slice A rl.length c, .slice none 0 0, .slice none 0 0], .int .i64 0]) (by simp [results, Tryz.results14, go_sem, m0, m1, m2, m3]) rfl ⟨put_four_gb (gb_trans HGW.out HG5.out (.inl rfl)) (Nat.le_add_right _ 1) _ _ _ _, A, c, HLC.out, rfl, hon⟩

end Go.Proofs.YtnilcnobngcbgaaGreat

namespace Go.Proofs.YtnilcnobngcbgaaGreat
open Go.RowKit
attribute [local go_sem ↓] Go.wp_at_zero Go.wp_at_succ

set_option maxHeartbeats 8000000 in
set_option maxRecDepth 100000 in
theorem joined_any (l : List Vl) (K : Int) (n : List Int) (s : List ByteArray) (HNE : Hid (l.flatMap Vl.n = n)) (HSE : Hid (l.flatMap Vl.s = s)) (w : World) (B : Nat) (A : Option Addr) (c : Nat) (hl0 : 0 < l.length) (hk : kindO l[0].t l[0].s.length l[0].n.length = K) (ht : Vl.tots l ≤ 1100000) (hB : B ≤ w.heap.size) (h : RdV w B A l) :
    Calls Tryz.prog 53 #[.slice A l.length c] w (NewV (.mk K n s []) w) := by
  obtain ⟨wa, hwa⟩ : ∃ wa, wa = w.alloc (.cells #[.int .i64 0, .slice none 0 0, .slice none 0 0, .slice none 0 0] 26) := ⟨_, rfl⟩
  have hg : w.grownBy wa none := by rw [hwa]; exact gb_alloc (gb_refl w none) _
  have hr : wa.heap[w.heap.size]? = some (.cells #[.int .i64 0, .slice none 0 0, .slice none 0 0, .slice none 0 0] 26 (0, 0)) := by rw [hwa]; exact heap_alloc_new w _
  have HSZ := hide (show wa.heap.size = w.heap.size + 1 by rw [hwa]; simp)
  have HG := hide hg
  have HR := hide hr
  have HWE := hide hwa
  have l1 : l.length ≤ 1100000 := Nat.le_trans (Vl.length_le_tots l) ht
  have HT := hide ht
  have HFN : Hid (n.length ≤ 1100000) := hide (by have := Nat.le_trans (flatN_le l) ht; rwa [HNE.out] at this)
  have HFS : Hid (s.length ≤ 1100000) := hide (by have := Nat.le_trans (flatS_le l) ht; rwa [HSE.out] at this)
  have H := hide h
  have HBB := hide hB
  obtain ⟨b, o, xA0, xc0, yA0, yc0, zA0, zc0, rfl, hbB, hc40, _⟩ := h.first hl0
  obtain ⟨d0, d1, d2, d3⟩ := hc40.gb hg
  rw [hwa] at d0 d1 d2 d3
  have HKD := hide (fun w2 => (kind_any l[0].t xA0 l[0].n.length xc0 yA0 l[0].s.length yc0 (.slice zA0 l[0].l.length zc0) w2).mono (fun e w' h => (⟨h.1.trans (by rw [hk]), h.2⟩ : e = .returned (.int .i64 K) ∧ w2.grownBy w' none)))
  obtain ⟨i1, hi1, hiz, his, hib⟩ := info_parts Tryz.info64
  have HI1 := hide hi1
  have HIZ := hide hiz
  have HIS := hide his
  have HIB := hide hib
  obtain ⟨i2, hi2, hiz2, his2, hib2⟩ := info_parts Tryz.infoS
  have HJ1 := hide hi2
  have HJZ := hide hiz2
  have HJS := hide his2
  have HJB := hide hib2
  have hl01 : (0 : Int) < (l.length : Int) := by omega
  clear hk ht hB h hg hr hwa hc40 hi1 hiz his hib hi2 hiz2 his2 hib2
  go_enter Tryz.func53, Tryz.ntmps53
  go_wp2_with fail
  rw [← HWE.out]
  refine (HKD.out _).mono ?_
  rintro e w1 ⟨rfl, hg1⟩
  have HG1 := hide hg1
  clear hg1 d0 d1 d2 d3 HKD
  go_wp2_with fail
  go_loopw [13] (fun i wr => ∃ j : Nat, i = .int .i64 (j : Int) ∧ j ≤ l.length ∧ Grow w1 l (K) j wr) (fun i _ => l.length - (intOf i).toNat)
  case atStart =>
    refine ⟨0, rfl, Nat.zero_le _, none, 0, none, 0, ?_, ⟨rfl, .inl ⟨rfl, rfl⟩⟩, ⟨rfl, .inl ⟨rfl, rfl⟩⟩, gb_alloc (gb_refl w1 none) _⟩
    exact heap_alloc_new w1 _
  case round =>
    obtain ⟨j, rfl, hj, hfill⟩ := hrel
    by_cases hlt : j < l.length
    · have hlt1 : (j : Int) < (l.length : Int) := by omega
      obtain ⟨N, nc, S, sc, hh, hoN, hoS, hg⟩ := hfill
      obtain ⟨q, p, xA, xc, yA, yc, zA, zc, hA, hqB, hc4', hvb'⟩ := H.out.at_ hlt
      simp only [Option.some.injEq, Addr.mk.injEq, and_true] at hA
      obtain ⟨rfl, rfl⟩ := hA
      have hgw : w.grownBy wr none := gb_trans HG.out (gb_trans HG1.out hg (.inl rfl)) (.inl rfl)
      obtain ⟨f0, f1, f2, f3⟩ := hc4'.gb hgw
      have hvr := hvb'.gb hgw HBB.out
      have hgb : wr.grownBy (wr.alloc (.cells #[.int .i64 l[j].t, .slice xA l[j].n.length xc, .slice yA l[j].s.length yc, .slice zA l[j].l.length zc] 26)) none := gb_alloc (gb_refl wr none) _
      have HFN1 := hide (flatN_take l j hlt)
      have HFS1 := hide (flatS_take l j hlt)
      have hbnd1 : ((l.take j).flatMap Vl.n).length + l[j].n.length ≤ 1100000 := by
        have h1 := flatN_le (l.take (j + 1))
        have h2 := Vl.tots_take_le l (j + 1)
        rw [HFN1.out, List.length_append] at h1
        have := HT.out
        omega
      have hbnd2 : ((l.take j).flatMap Vl.s).length + l[j].s.length ≤ 1100000 := by
        have h1 := flatS_le (l.take (j + 1))
        have h2 := Vl.tots_take_le l (j + 1)
        rw [HFS1.out, List.length_append] at h1
        have := HT.out
        omega
      clear HNE HSE HFN HFS
      generalize (l.take j).flatMap Vl.n = n at *
      generalize (l.take j).flatMap Vl.s = s at *
      have hBR : B ≤ w1.heap.size := by have := HBB.out; have := HG.out.size; have := HG1.out.size; omega
      have hBr : B ≤ wr.heap.size := by have := hg.size; omega
      have hRb := (hgb.block _ (blk_lt hh) (by simp)).trans hh
      have hXb := heap_alloc_new wr (.cells #[.int .i64 l[j].t, .slice xA l[j].n.length xc, .slice yA l[j].s.length yc, .slice zA l[j].l.length zc] 26)
      have r1 : (wr.alloc (.cells #[.int .i64 l[j].t, .slice xA l[j].n.length xc, .slice yA l[j].s.length yc, .slice zA l[j].l.length zc] 26)).cell? ⟨w1.heap.size, 1, none⟩ = some (.slice N n.length nc) := by rw [blk_cell hRb]; rfl
      have HON := hide (hoN.alloc (.cells #[.int .i64 l[j].t, .slice xA l[j].n.length xc, .slice yA l[j].s.length yc, .slice zA l[j].l.length zc] 26))
      have HOS := hide (hoS.alloc (.cells #[.int .i64 l[j].t, .slice xA l[j].n.length xc, .slice yA l[j].s.length yc, .slice zA l[j].l.length zc] 26))
      have HRN := hide (hvr.n.grown hgb hBr (by simp))
      have HRS := hide (hvr.s.grown hgb hBr (by simp))
      have HRB := hide hRb
      have HXB := hide hXb
      have HGR := hide hg
      have HGB := hide hgb
      have HBR := hide hBR
      have HLT := hide (blk_lt hh)
      have HL1 : Hid ((i64s l[j].n).length = l[j].n.length * 1) := hide (by simp [i64s])
      have HOC := hide (i64s_one l[j].n)
      have HM1 : Hid (n.length + l[j].n.length ≤ maxLen) := hide (by unfold maxLen; omega)
      have HMB : Hid ((n.length + l[j].n.length) * 8 ≤ 140737488355328) := hide (by omega)
      have HBS : Hid (w1.heap.size + 1 ≤ (wr.alloc (.cells #[.int .i64 l[j].t, .slice xA l[j].n.length xc, .slice yA l[j].s.length yc, .slice zA l[j].l.length zc] 26)).heap.size) := hide (by have := blk_lt hh; simp; omega)
      have HL2 : Hid ((strs l[j].s).length = l[j].s.length * 1) := hide (by simp [strs])
      have HOC2 := hide (strs_one l[j].s)
      have HM2 : Hid (s.length + l[j].s.length ≤ maxLen) := hide (by unfold maxLen; omega)
      have HMB2 : Hid ((s.length + l[j].s.length) * 16 ≤ 140737488355328) := hide (by omega)
      clear hh hoN hoS hg hc4' hvb' hgw hvr hgb hRb hXb hBR hBr
      go_wp2_with (first
        | (at_builtin; refine wpList_append_rd _ rfl (.tmp 18) (.tmp 20) 22 rfl (w1.heap.size + 1) 2 i1 (.int .i64 0) 1 8 Tryz.underlying22 HI1.out HIZ.out HIS.out HIB.out rfl (Nat.succ_pos 0) (.slice N n.length nc) n.length (i64s n) rfl HON.out B xA l[j].n.length xc (i64s l[j].n) rfl HL1.out HRN.out HOC.out HM1.out HMB.out HBS.out ?_
           intro v5 w5 ho5 hg5 hb5
           rw [← i64s_app] at ho5
           obtain ⟨N5, nc5, rfl, hnc5⟩ := own_slice ho5
           have hR5 := (hg5.block _ (blk_lt HRB.out) (fun e => own_ne HON.out HRB.out (by decide) e.symm)).trans HRB.out
           have hX5 := (hg5.block _ (blk_lt HXB.out) (fun e => own_ne HON.out HXB.out (by decide) e.symm)).trans HXB.out
           have p1 : w5.cell? ⟨w1.heap.size, 1, none⟩ = some (.slice N n.length nc) := by rw [blk_cell hR5]; rfl
           have z1 := blk_frozen hR5 1
           have hgs : w5.grownBy (w5.setCell ⟨w1.heap.size, 1, none⟩ (.slice N5 (n.length + l[j].n.length) nc5)) (some w1.heap.size) := gb_setCell (gb_refl _ _) (.inl rfl) _
           have hRs : (w5.setCell ⟨w1.heap.size, 1, none⟩ (.slice N5 (n.length + l[j].n.length) nc5)).heap[w1.heap.size]? = some (.cells #[.int .i64 (K), .slice N5 (n.length + l[j].n.length) nc5, .slice S s.length sc, .slice none 0 0] 26 (0, 0)) := blk_set hR5 1 _
           have hXs := (hgs.block _ (blk_lt hX5) (by intro e; injection e with e; have := HLT.out; omega)).trans hX5
           have q2 : (w5.setCell ⟨w1.heap.size, 1, none⟩ (.slice N5 (n.length + l[j].n.length) nc5)).cell? ⟨w1.heap.size, 2, none⟩ = some (.slice S s.length sc) := by rw [blk_cell hRs]; rfl
           have x2 : (w5.setCell ⟨w1.heap.size, 1, none⟩ (.slice N5 (n.length + l[j].n.length) nc5)).cell? ⟨wr.heap.size, 2, none⟩ = some (.slice yA l[j].s.length yc) := by rw [blk_cell hXs]; rfl
           have hoN5 := ho5.kept hgs (.inr (own_ne ho5 hR5 (by decide)))
           have hoS5a := HOS.out.kept hg5 (rows_apart HOS.out HON.out (by decide))
           have hoS5 := hoS5a.kept hgs (.inr (own_ne hoS5a hR5 (by decide)))
           have hlN := HON.out.lt
           have HRS5 := hide ((HRS.out.grown hg5 (by have := HBS.out; have := HBR.out; omega) (fun g e => by have := (hlN g e).1; have := HBR.out; omega)).grown hgs (by have := HBS.out; have := HBR.out; have := hg5.size; omega) (fun g e => by injection e with e; have := HBR.out; omega))
           have HON5 := hide hoN5
           have HOS5 := hide hoS5
           have HRs5 := hide hRs
           have HBS5 : Hid (w1.heap.size + 1 ≤ (w5.setCell ⟨w1.heap.size, 1, none⟩ (.slice N5 (n.length + l[j].n.length) nc5)).heap.size) := hide (by have := HBS.out; have := hg5.size; have := hgs.size; omega)
           have HG5 := hide (show w1.grownBy (w5.setCell ⟨w1.heap.size, 1, none⟩ (.slice N5 (n.length + l[j].n.length) nc5)) none from gb_trans (gb_trans (gb_trans HGR.out HGB.out (.inl rfl)) hg5 (match hq : (Value.slice N n.length nc).ownBlock with | none => .inr (.inl rfl) | some g => .inr (.inr ⟨g, rfl, by have := (hlN g hq).1; omega⟩))) hgs (.inr (.inr ⟨_, rfl, Nat.le_refl _⟩)))
           have HNC5 := hide hnc5
           clear ho5 hg5 hb5 hR5 hX5 hgs hRs hXs hoN5 hoS5a hoS5 hlN hnc5)
        | (at_builtin; refine wpList_append_rd _ rfl (.tmp 24) (.tmp 26) 23 rfl (w1.heap.size + 1) 9 i2 (.string ⟨#[]⟩) 1 16 Tryz.underlying23 HJ1.out HJZ.out HJS.out HJB.out rfl (Nat.succ_pos 0) (.slice S s.length sc) s.length (strs s) rfl HOS5.out B yA l[j].s.length yc (strs l[j].s) rfl HL2.out HRS5.out HOC2.out HM2.out HMB2.out HBS5.out ?_
           intro v6 w6 ho6 hg6 hb6
           rw [← strs_app] at ho6
           obtain ⟨S6, sc6, rfl, hsc6⟩ := own_slice ho6
           have hR6 := (hg6.block _ (blk_lt HRs5.out) (fun e => own_ne HOS5.out HRs5.out (by decide) e.symm)).trans HRs5.out
           have p2 : w6.cell? ⟨w1.heap.size, 2, none⟩ = some (.slice S s.length sc) := by rw [blk_cell hR6]; rfl
           have z2 := blk_frozen hR6 2
           have hgt : w6.grownBy (w6.setCell ⟨w1.heap.size, 2, none⟩ (.slice S6 (s.length + l[j].s.length) sc6)) (some w1.heap.size) := gb_setCell (gb_refl _ _) (.inl rfl) _
           have hRt : (w6.setCell ⟨w1.heap.size, 2, none⟩ (.slice S6 (s.length + l[j].s.length) sc6)).heap[w1.heap.size]? = some (.cells #[.int .i64 (K), .slice N5 (n.length + l[j].n.length) nc5, .slice S6 (s.length + l[j].s.length) sc6, .slice none 0 0] 26 (0, 0)) := blk_set hR6 2 _
           have hlS := HOS5.out.lt
           have hoN6a := HON5.out.kept hg6 (rows_apart HON5.out HOS5.out (by decide))
           have HON6 := hide (hoN6a.kept hgt (.inr (own_ne hoN6a hR6 (by decide))))
           have HOS6 := hide (ho6.kept hgt (.inr (own_ne ho6 hR6 (by decide))))
           have HR6 := hide hRt
           have HG6 := hide (show w1.grownBy (w6.setCell ⟨w1.heap.size, 2, none⟩ (.slice S6 (s.length + l[j].s.length) sc6)) none from gb_trans (gb_trans HG5.out hg6 (match hq : (Value.slice S s.length sc).ownBlock with | none => .inr (.inl rfl) | some g => .inr (.inr ⟨g, rfl, by have := (hlS g hq).1; omega⟩))) hgt (.inr (.inr ⟨_, rfl, Nat.le_refl _⟩)))
           clear ho6 hg6 hb6 hR6 hgt hRt hoN6a hlS hsc6))
      go_roundw
      case rel =>
        refine ⟨j + 1, by go_num, by omega, ?_⟩
        unfold Grow
        rw [HFN1.out, HFS1.out, List.length_append, List.length_append]
        exact ⟨N5, nc5, S6, sc6, HR6.out, HON6.out, HOS6.out, HG6.out⟩
      case measure => simp [intOf]; omega
    · have hlt1 : ¬ (j : Int) < (l.length : Int) := by omega
      obtain rfl : j = l.length := by omega
      obtain ⟨N, nc, S, sc, hh, hoN, hoS, hg⟩ := hfill
      rw [List.take_length, HNE.out] at hoN
      rw [List.take_length, HSE.out] at hoS
      rw [List.take_length, HNE.out, HSE.out] at hh
      have hfn := HFN.out
      have hfs := HFS.out
      obtain ⟨_, _, hvN, hcN⟩ := own_slice hoN
      obtain ⟨_, _, hvS, hcS⟩ := own_slice hoS
      injection hvN with hvN1 hvN2 hvN3
      injection hvS with hvS1 hvS2 hvS3
      clear hvN1 hvN2 hvS1 hvS2
      subst hvN3
      subst hvS3
      obtain ⟨f1, o1, b1⟩ := Own.of_row hoN
      obtain ⟨f2, o2, b2⟩ := Own.of_row hoS
      have hr := (hg.block _ (by have := blk_lt HR.out; have := HG1.out.size; omega) (by simp)).trans ((HG1.out.block _ (blk_lt HR.out) (by simp)).trans HR.out)
      have hn : New wa wr (f1 ++ (f2 ++ ([] ++ []))) := by
        have hs := HG1.out.size
        refine ⟨?_, fun b hb => ?_⟩
        · simp only [List.append_nil]
          refine List.nodup_append.2 ⟨?_, ?_, fun x hx y hy e => ?_⟩
          · match f1, o1.len with
            | [], _ => simp
            | [x], _ => simp
          · match f2, o2.len with
            | [], _ => simp
            | [x], _ => simp
          · subst e
            have k1 := o1.blk x hx (n := n.length) (c := nc)
            have k2 := o2.blk x hy (n := s.length) (c := sc)
            rcases rows_apart hoN hoS (by decide) with h | h
            · rw [h] at k1; cases k1
            · rw [k1, k2] at h; exact h rfl
        · simp only [List.append_nil] at hb
          rcases List.mem_append.1 hb with hb | hb
          · have := b1 b hb; omega
          · have := b2 b hb; omega
      have HN := hide hn
      have HO1 := hide o1
      have HO2 := hide o2
      have HCN := hide hcN
      have HCS := hide hcS
      have HGR := hide hg
      clear hn o1 o2 b1 b2 hcN hcS hg hoN hoS
      have p0 : wr.cell? ⟨w.heap.size, 0, none⟩ = some (.int .i64 0) := by rw [blk_cell hr]; rfl
      have p1 : wr.cell? ⟨w.heap.size, 1, none⟩ = some (.slice none 0 0) := by rw [blk_cell hr]; rfl
      have p2 : wr.cell? ⟨w.heap.size, 2, none⟩ = some (.slice none 0 0) := by rw [blk_cell hr]; rfl
      have p3 : wr.cell? ⟨w.heap.size, 3, none⟩ = some (.slice none 0 0) := by rw [blk_cell hr]; rfl
      have z0 := blk_frozen hr 0
      have z1 := blk_frozen hr 1
      have z2 := blk_frozen hr 2
      have z3 := blk_frozen hr 3
      have q0 : wr.cell? ⟨w1.heap.size, 0, none⟩ = some (.int .i64 (K)) := by rw [blk_cell hh]; rfl
      have q1 : wr.cell? ⟨w1.heap.size, 1, none⟩ = some (.slice N n.length nc) := by rw [blk_cell hh]; rfl
      have q2 : wr.cell? ⟨w1.heap.size, 2, none⟩ = some (.slice S s.length sc) := by rw [blk_cell hh]; rfl
      have q3 : wr.cell? ⟨w1.heap.size, 3, none⟩ = some (.slice none 0 0) := by rw [blk_cell hh]; rfl
      clear hr hh
      go_wp2_with fail
      refine bodyPost_ret (v := .agg #[.int .i64 (K), .slice N n.length nc, .slice S s.length sc, .slice none 0 0]) (by simp [results, Tryz.results53, go_sem, p0, p1, p2, p3]) rfl ?_
      exact NewV.of_put (v := .mk (K) n s []) (f1 := f1) (f2 := f2) (f := []) (g := []) (xs := []) HSZ.out HG.out (gb_trans HG1.out HGR.out (.inl rfl)) HCN.out HO1.out HCS.out HO2.out (Nat.le_refl _) (.inl ⟨rfl, rfl⟩) ⟨rfl, rfl⟩ HN.out

end Go.Proofs.YtnilcnobngcbgaaGreat

namespace Go.Proofs.YtnilcnobngcbgaaGreat
open Go.RowKit
attribute [local go_sem ↓] Go.wp_at_zero Go.wp_at_succ

def vNl (v : Vl) : Bool := v.t == 101
set_option maxHeartbeats 4000000 in
set_option maxRecDepth 100000 in
theorem vNl_any (v : Vl) (c1 c2 c3 : Value) (w : World) : Calls Tryz.prog 51 #[.agg #[.int .i64 v.t, c1, c2, c3]] w fun e w' => e = .returned (.bool (vNl v)) ∧ w.grownBy w' none := by
  have HA := hide (show (v.t == 101) = vNl v from rfl)
  go_enter Tryz.func51, Tryz.ntmps51
  go_wp2_with fail
  go_ret
  exact ⟨ret_b HA.out, gb_alloc (gb_refl w none) _⟩
set_option maxHeartbeats 4000000 in
set_option maxRecDepth 100000 in
theorem vNil_idx (l : List Vl) (w : World) (B : Nat) (A : Option Addr) (c : Nat) (hl : l.length ≤ 1100000) (hB : B ≤ w.heap.size) (h : RdV w B A l) :
    Calls Tryz.prog 86 #[.slice A l.length c, .func (.func 51) #[] #[]] w (IdxPost (l.any vNl) w) := by
  have H := hide h
  have HB := hide hB
  clear h hB
  go_enter Tryz.func86, Tryz.ntmps86
  go_wp2_with fail
  go_loopw [8] (fun i wr => ∃ j : Nat, i = .int .i64 (j : Int) ∧ j ≤ l.length ∧ Hid ((l.take j).any vNl = false) ∧ w.grownBy wr none) (fun i _ => l.length - (intOf i).toNat)
  case atStart => exact ⟨0, rfl, Nat.zero_le _, hide (by simp), gb_refl w none⟩
  case round =>
    obtain ⟨j, rfl, hj, HE, hgr⟩ := hrel
    have HGR := hide hgr
    clear hgr
    by_cases hlt : j < l.length
    · have hlt1 : (j : Int) < (l.length : Int) := by omega
      obtain ⟨q, o, xA, xc, yA, yc, zA, zc, rfl, hqB, hc4, _⟩ := H.out.at_ hlt
      obtain ⟨d0, d1, d2, d3⟩ := hc4.gb HGR.out
      have HC := hide (vNl_any l[j] (.slice xA l[j].n.length xc) (.slice yA l[j].s.length yc) (.slice zA l[j].l.length zc) wr)
      have HL := hide (show l.take (j + 1) = l.take j ++ [l[j]] from List.take_succ_eq_append_getElem hlt)
      have HA : Hid (vNl l[j] = true → l.any vNl = true) := hide (fun h => List.any_eq_true.2 ⟨_, List.getElem_mem hlt, h⟩)
      clear hc4
      cases hp : vNl l[j]
      · rw [hp] at HC
        have HP := hide hp
        clear hp
        go_wp2_with (go_at_call 51; refine HC.out.mono ?_; rintro e w1 ⟨rfl, hg1⟩; have HG1 := hide hg1; clear hg1)
        go_roundw
        case rel => exact ⟨j + 1, by go_num, by omega, hide (by rw [HL.out, List.any_append, HE.out]; simp [HP.out]), gb_trans HGR.out HG1.out (.inl rfl)⟩
        case measure => simp [intOf]; omega
      · rw [hp] at HC
        have HA2 := hide (HA.out hp)
        clear hp
        go_wp2_with (go_at_call 51; refine HC.out.mono ?_; rintro e w1 ⟨rfl, hg1⟩; have HG1 := hide hg1; clear hg1)
        go_ret
        exact ⟨j, rfl, by rw [HA2.out]; exact decide_eq_true (by omega), gb_trans HGR.out HG1.out (.inl rfl)⟩
    · have hlt1 : ¬ (j : Int) < (l.length : Int) := by omega
      have HT := hide (show l.take j = l from List.take_of_length_le (by omega))
      go_wp2_with fail
      go_ret
      exact ⟨-1, rfl, by have := HE.out; rw [HT.out] at this; rw [this]; rfl, HGR.out⟩

set_option maxHeartbeats 4000000 in
set_option maxRecDepth 100000 in
theorem vNil_has  (l : List Vl) (w : World) (B : Nat) (A : Option Addr) (c : Nat) (hl : l.length ≤ 1100000) (hB : B ≤ w.heap.size) (h : RdV w B A l)  :
    Calls Tryz.prog 50 #[.slice A l.length c, .func (.func 51) #[] #[]] w fun e w' => e = .returned (.bool (l.any vNl)) ∧ w.grownBy w' none := by
  have HI := hide (vNil_idx  l w B A c hl hB h )
  clear h hB
  generalize l.any vNl = b at *
  go_enter Tryz.func50, Tryz.ntmps50
  go_wp2_with (go_at_call 86; refine HI.out.mono ?_; rintro e w1 ⟨r, rfl, hr, hg1⟩; have HR := hide hr; have HG1 := hide hg1; clear hr hg1)
  go_ret
  exact ⟨ret_b (by rw [← HR.out]), HG1.out⟩


/-- The kind of a value. -/
def kdV (v : Vl) : Int := kindO v.t v.s.length v.n.length
/-- How many elements a join takes of it. -/
def widV (v : Vl) : Nat := if kdV v = v.t then v.count else 1
set_option maxHeartbeats 4000000 in
set_option maxRecDepth 100000 in
theorem width_any (x : Vl) (w : World) (B : Nat) (xA : Option Addr) (xc : Nat) (yA : Option Addr) (yc : Nat) (zA : Option Addr) (zc : Nat) (ht : x.tot ≤ 1100000) (hB : B ≤ w.heap.size) (h : VB w B x xA xc yA yc zA zc) :
    Calls Tryz.prog 49 #[.agg #[.int .i64 x.t, .slice xA x.n.length xc, .slice yA x.s.length yc, .slice zA x.l.length zc]] w fun e w' => e = .returned (.int .i64 (widV x : Nat)) ∧ w.grownBy w' none := by
  obtain ⟨wa, hwa⟩ : ∃ wa, wa = w.alloc (.cells #[.int .i64 x.t, .slice xA x.n.length xc, .slice yA x.s.length yc, .slice zA x.l.length zc] 26) := ⟨_, rfl⟩
  have hb : wa.heap[w.heap.size]? = some (.cells #[.int .i64 x.t, .slice xA x.n.length xc, .slice yA x.s.length yc, .slice zA x.l.length zc] 26 (0, 0)) := by rw [hwa]; exact heap_alloc_new w _
  have HB := hide hb
  have hg : w.grownBy wa none := by rw [hwa]; exact gb_alloc (gb_refl w none) _
  have HG := hide hg
  have HWE := hide hwa
  have HCN := hide (fun w2 (hg : w.grownBy w2 none) => count_d x.depth x w2 B xA xc yA yc zA zc (Nat.le_refl _) ht (Nat.le_trans hB hg.size) (h.gb hg hB))
  obtain ⟨c0, c1, c2, c3⟩ : C4 wa w.heap.size 0 (.int .i64 x.t) (.slice xA x.n.length xc) (.slice yA x.s.length yc) (.slice zA x.l.length zc) := ⟨by rw [blk_cell hb]; rfl, by rw [blk_cell hb]; rfl, by rw [blk_cell hb]; rfl, by rw [blk_cell hb]; rfl⟩
  have HIS := hide (fun w2 => (isSeq_any x.t xA x.n.length xc yA x.s.length yc (.slice zA x.l.length zc) w2).mono (fun e w' h => (⟨h.1, h.2⟩ : e = .returned (.bool (kdV x == x.t)) ∧ w2.grownBy w' none)))
  clear hb hg hwa ht hB h
  by_cases hk : kdV x = x.t
  · have HW := hide (show widV x = x.count by unfold widV; rw [if_pos hk])
    have hkb : (kdV x == x.t) = true := by simp [hk]
    rw [hkb] at HIS
    clear hk hkb
    go_enter Tryz.func49, Tryz.ntmps49
    go_wp2_with fail
    rw [← HWE.out]
    go_wp2_with (first
      | (go_at_call 34; refine (HIS.out _).mono ?_; rintro e w1 ⟨rfl, hg1⟩; have HG1 := hide hg1; clear c0 c1 c2 c3; obtain ⟨c0, c1, c2, c3⟩ : C4 w1 w.heap.size 0 (.int .i64 x.t) (.slice xA x.n.length xc) (.slice yA x.s.length yc) (.slice zA x.l.length zc) := (by have h := blk_keep HB.out hg1 (by simp); exact ⟨by rw [blk_cell h]; rfl, by rw [blk_cell h]; rfl, by rw [blk_cell h]; rfl, by rw [blk_cell h]; rfl⟩); clear hg1)
      | (go_at_call 30; refine (HCN.out _ (gb_trans HG.out HG1.out (.inl rfl))).mono ?_; rintro e w2 ⟨rfl, hg2⟩; have HG2 := hide hg2; clear hg2))
    exact bodyPost_ret (v := .int .i64 (x.count : Nat)) (by simp [results, Tryz.results49, go_sem]) rfl ⟨by rw [HW.out], gb_trans HG.out (gb_trans HG1.out HG2.out (.inl rfl)) (.inl rfl)⟩
  · have HW := hide (show widV x = 1 by unfold widV; rw [if_neg hk])
    have hkb : (kdV x == x.t) = false := by simp [hk]
    rw [hkb] at HIS
    clear hk hkb
    go_enter Tryz.func49, Tryz.ntmps49
    go_wp2_with fail
    rw [← HWE.out]
    go_wp2_with (go_at_call 34; refine (HIS.out _).mono ?_; rintro e w1 ⟨rfl, hg1⟩; have HG1 := hide hg1; clear hg1)
    exact bodyPost_ret (v := .int .i64 1) (by simp [results, Tryz.results49, go_sem]) rfl ⟨by rw [HW.out]; rfl, gb_trans HG.out HG1.out (.inl rfl)⟩
set_option maxHeartbeats 4000000 in
set_option maxRecDepth 100000 in
theorem unlike_any (x h : Vl) (w : World) (xA : Option Addr) (xc : Nat) (yA : Option Addr) (yc : Nat) (zA : Option Addr) (zc : Nat) (hA : Option Addr) (hc : Nat) (iA : Option Addr) (ic : Nat) (jA : Option Addr) (jc : Nat) (g b o len c : Nat) (hl : 0 < len) (hg : w.cell? ⟨g, 0, none⟩ = some (.slice (some ⟨b, o, none⟩) len c)) (hh : C4 w b o (.int .i64 h.t) (.slice hA h.n.length hc) (.slice iA h.s.length ic) (.slice jA h.l.length jc)) :
    Calls Tryz.prog 87 #[.agg #[.int .i64 x.t, .slice xA x.n.length xc, .slice yA x.s.length yc, .slice zA x.l.length zc], .pointer (some ⟨g, 0, none⟩)] w fun e w' => e = .returned (.bool (kdV x != kdV h)) ∧ w.grownBy w' none := by
  obtain ⟨wa, hwa⟩ : ∃ wa, wa = w.alloc (.cells #[.int .i64 x.t, .slice xA x.n.length xc, .slice yA x.s.length yc, .slice zA x.l.length zc] 26) := ⟨_, rfl⟩
  have hb : wa.heap[w.heap.size]? = some (.cells #[.int .i64 x.t, .slice xA x.n.length xc, .slice yA x.s.length yc, .slice zA x.l.length zc] 26 (0, 0)) := by rw [hwa]; exact heap_alloc_new w _
  have hga : w.grownBy wa none := by rw [hwa]; exact gb_alloc (gb_refl w none) _
  have HG := hide hga
  have HWE := hide hwa
  have HC := hide (show C4 wa w.heap.size 0 (.int .i64 x.t) (.slice xA x.n.length xc) (.slice yA x.s.length yc) (.slice zA x.l.length zc) from ⟨by rw [blk_cell hb]; rfl, by rw [blk_cell hb]; rfl, by rw [blk_cell hb]; rfl, by rw [blk_cell hb]; rfl⟩)
  have HD := hide (hh.gb hga)
  have HGC := hide (cell_gb hg hga)
  have HL0 := hide (show (0 : Int) < (len : Int) by omega)
  have HL1 := hide (show 0 < len from hl)
  clear hb hga hwa hl hg hh
  go_enter Tryz.func87, Tryz.ntmps87
  go_wp2_with fail
  rw [← HWE.out]
  refine wp_region_facts' 7 (by kernel_rfl) (by kernel_rfl) ?_
  intro A O W L HA HO HW HL
  simp only [List.take_succ_cons, List.take_zero]
  have HS := hide (show A.tmps.size = 11 by rw [HA.out]; rfl)
  have HGW := hide (show wa.grownBy W none by rw [HW.out]; exact gb_drew (gb_refl wa none))
  have A1 := hide (show A.eval (.tmp 1) = .pointer (some ⟨g, 0, none⟩) by rw [HA.out]; rfl)
  have A2 := hide (show A.eval (.tmp 2) = .pointer (some ⟨w.heap.size, 0, none⟩) by rw [HA.out]; rfl)
  -- slot 4
  refine wpFacts_lit (.agg #[.int .i64 x.t, .slice xA x.n.length xc, .slice yA x.s.length yc, .slice zA x.l.length zc]) rfl ?_ ?_
  · intro a wq hw hl
    have e2 : a.tmps[2]?.getD undef = .pointer (some ⟨w.heap.size, 0, none⟩) := (hl 2 (by first | (simp [Op.operands]; done) | simp [Op.operands, Call.operands]) (by rw [HS.out]; decide)).trans A2.out
    obtain ⟨c0, c1, c2, c3⟩ := HC.out.gb (gb_trans HGW.out hw (.inl rfl))
    clear hl
    go_simp
  -- slot 5
  refine wpFacts_step (fun vq _ => vq = .int .i64 (kdV x)) rfl (Lit.up _) ?_ ?_
  · intro a wq hw hl
    have e4 : a.tmps[4]?.getD undef = .agg #[.int .i64 x.t, .slice xA x.n.length xc, .slice yA x.s.length yc, .slice zA x.l.length zc] := hl 4 (by first | (simp [Op.operands]; done) | simp [Op.operands, Call.operands]) (by rw [HS.out]; decide)
    clear hl
    go_simp
    exact gUpon_lit (kind_any _ _ _ _ _ _ _ _ _)
  -- slot 6
  refine wpFacts_lit (.slice (some ⟨b, o, none⟩) len c) rfl ?_ ?_
  · intro a wq hw hl
    have e1 : a.tmps[1]?.getD undef = .pointer (some ⟨g, 0, none⟩) := (hl 1 (by first | (simp [Op.operands]; done) | simp [Op.operands, Call.operands]) (by rw [HS.out]; decide)).trans A1.out
    have cg := cell_gb HGC.out (gb_trans HGW.out hw (.inl rfl))
    clear hl
    go_simp
  -- slot 7
  refine wpFacts_lit (.pointer (some ⟨b, o, none⟩)) rfl ?_ ?_
  · intro a wq hw hl
    have e6 : a.tmps[6]?.getD undef = .slice (some ⟨b, o, none⟩) len c := hl 6 (by first | (simp [Op.operands]; done) | simp [Op.operands, Call.operands]) (by rw [HS.out]; decide)
    have l0 := HL0.out
    have l1 := HL1.out
    clear hl
    go_simp
  -- slot 8
  refine wpFacts_lit (.agg #[.int .i64 h.t, .slice hA h.n.length hc, .slice iA h.s.length ic, .slice jA h.l.length jc]) rfl ?_ ?_
  · intro a wq hw hl
    have e7 : a.tmps[7]?.getD undef = .pointer (some ⟨b, o, none⟩) := hl 7 (by first | (simp [Op.operands]; done) | simp [Op.operands, Call.operands]) (by rw [HS.out]; decide)
    obtain ⟨d0, d1, d2, d3⟩ := HD.out.gb (gb_trans HGW.out hw (.inl rfl))
    clear hl
    go_simp
  -- slot 9
  refine wpFacts_step (fun vq _ => vq = .int .i64 (kdV h)) rfl (Lit.up _) ?_ ?_
  · intro a wq hw hl
    have e8 : a.tmps[8]?.getD undef = .agg #[.int .i64 h.t, .slice hA h.n.length hc, .slice iA h.s.length ic, .slice jA h.l.length jc] := hl 8 (by first | (simp [Op.operands]; done) | simp [Op.operands, Call.operands]) (by rw [HS.out]; decide)
    clear hl
    go_simp
    exact gUpon_lit (kind_any _ _ _ _ _ _ _ _ _)
  -- slot 10
  refine wpFacts_lit (.bool (kdV x != kdV h)) rfl ?_ ?_
  · intro a wq hw hl
    have e5 : a.tmps[5]?.getD undef = .int .i64 (kdV x) := hl 5 (by first | (simp [Op.operands]; done) | simp [Op.operands, Call.operands]) (by rw [HS.out]; decide)
    have e9 : a.tmps[9]?.getD undef = .int .i64 (kdV h) := hl 9 (by first | (simp [Op.operands]; done) | simp [Op.operands, Call.operands]) (by rw [HS.out]; decide)
    clear hl
    go_simp
  refine HL.out _ (fun a' w5 hc => ?_)
  have e10 : a'.eval (.tmp 10) = .bool (kdV x != kdV h) := hc.fact 10 (by rw [HS.out]; decide)
  have hgw5 := gb_trans HGW.out hc.grown (.inl rfl)
  have hfr := hc.frame [4, 5, 6, 7, 8, 9, 10, 3] (by rw [HO.out]; kernel_rfl)
  rw [hfr]
  clear hfr hc
  rw [HA.out]
  clear HA HO HL HW HS HGW A1 A2
  clear A O W L
  simp only [List.drop_succ_cons, List.drop_zero, List.foldl_cons, List.foldl_nil, Act.put, List.setIfInBounds_toArray, List.set_cons_succ, List.set_cons_zero]
  rw [e10]
  generalize a'.eval (.tmp 4) = x4
  generalize a'.eval (.tmp 5) = x5
  generalize a'.eval (.tmp 6) = x6
  generalize a'.eval (.tmp 7) = x7
  generalize a'.eval (.tmp 8) = x8
  generalize a'.eval (.tmp 9) = x9
  generalize a'.eval (.tmp 3) = x3
  clear e10
  clear a'
  have HG5 := hide (gb_trans HG.out hgw5 (.inl rfl))
  clear hgw5
  go_wp2_with fail
  exact bodyPost_ret (v := .bool (kdV x != kdV h)) (by simp [results, Tryz.results87, go_sem]) rfl ⟨rfl, HG5.out⟩
set_option maxHeartbeats 4000000 in
set_option maxRecDepth 100000 in
theorem unlike_idx (l : List Vl) (w : World) (B : Nat) (A : Option Addr) (c : Nat) (hl : l.length ≤ 1100000) (hB : B ≤ w.heap.size) (h : RdV w B A l) (K : Int) (g : Nat) (hun : ∀ w2, w.grownBy w2 none → ∀ (x : Vl) (xA : Option Addr) (xc : Nat) (yA : Option Addr) (yc : Nat) (zA : Option Addr) (zc : Nat), Calls Tryz.prog 87 #[.agg #[.int .i64 x.t, .slice xA x.n.length xc, .slice yA x.s.length yc, .slice zA x.l.length zc], .pointer (some ⟨g, 0, none⟩)] w2 fun e w' => e = .returned (.bool (kdV x != K)) ∧ w2.grownBy w' none) :
    Calls Tryz.prog 86 #[.slice A l.length c, .func (.func 87) #[] #[.pointer (some ⟨g, 0, none⟩)]] w (IdxPost (l.any (fun x => kdV x != K)) w) := by
  have H := hide h
  have HUN := hide hun
  clear hun
  have HB := hide hB
  clear h hB
  go_enter Tryz.func86, Tryz.ntmps86
  go_wp2_with fail
  go_loopw [8] (fun i wr => ∃ j : Nat, i = .int .i64 (j : Int) ∧ j ≤ l.length ∧ Hid ((l.take j).any (fun x => kdV x != K) = false) ∧ w.grownBy wr none) (fun i _ => l.length - (intOf i).toNat)
  case atStart => exact ⟨0, rfl, Nat.zero_le _, hide (by simp), gb_refl w none⟩
  case round =>
    obtain ⟨j, rfl, hj, HE, hgr⟩ := hrel
    have HGR := hide hgr
    clear hgr
    by_cases hlt : j < l.length
    · have hlt1 : (j : Int) < (l.length : Int) := by omega
      obtain ⟨q, o, xA, xc, yA, yc, zA, zc, rfl, hqB, hc4, _⟩ := H.out.at_ hlt
      obtain ⟨d0, d1, d2, d3⟩ := hc4.gb HGR.out
      have HC := hide (HUN.out wr HGR.out l[j] xA xc yA yc zA zc)
      have HL := hide (show l.take (j + 1) = l.take j ++ [l[j]] from List.take_succ_eq_append_getElem hlt)
      have HA : Hid ((kdV l[j] != K) = true → l.any fun x => kdV x != K = true) := hide (fun h => List.any_eq_true.2 ⟨_, List.getElem_mem hlt, h⟩)
      clear hc4
      cases hp : (kdV l[j] != K)
      · rw [hp] at HC
        have HP := hide hp
        clear hp
        go_wp2_with (go_at_call 87; refine HC.out.mono ?_; rintro e w1 ⟨rfl, hg1⟩; have HG1 := hide hg1; clear hg1)
        go_roundw
        case rel => exact ⟨j + 1, by go_num, by omega, hide (by rw [HL.out, List.any_append, HE.out]; simp [HP.out]), gb_trans HGR.out HG1.out (.inl rfl)⟩
        case measure => simp [intOf]; omega
      · rw [hp] at HC
        have HA2 := hide (HA.out hp)
        clear hp
        go_wp2_with (go_at_call 87; refine HC.out.mono ?_; rintro e w1 ⟨rfl, hg1⟩; have HG1 := hide hg1; clear hg1)
        go_ret
        exact ⟨j, rfl, by rw [HA2.out]; exact decide_eq_true (by omega), gb_trans HGR.out HG1.out (.inl rfl)⟩
    · have hlt1 : ¬ (j : Int) < (l.length : Int) := by omega
      have HT := hide (show l.take j = l from List.take_of_length_le (by omega))
      go_wp2_with fail
      go_ret
      exact ⟨-1, rfl, by have := HE.out; rw [HT.out] at this; rw [this]; rfl, HGR.out⟩

set_option maxHeartbeats 4000000 in
set_option maxRecDepth 100000 in
theorem unlike_has  (l : List Vl) (w : World) (B : Nat) (A : Option Addr) (c : Nat) (hl : l.length ≤ 1100000) (hB : B ≤ w.heap.size) (h : RdV w B A l) (K : Int) (g : Nat) (hun : ∀ w2, w.grownBy w2 none → ∀ (x : Vl) (xA : Option Addr) (xc : Nat) (yA : Option Addr) (yc : Nat) (zA : Option Addr) (zc : Nat), Calls Tryz.prog 87 #[.agg #[.int .i64 x.t, .slice xA x.n.length xc, .slice yA x.s.length yc, .slice zA x.l.length zc], .pointer (some ⟨g, 0, none⟩)] w2 fun e w' => e = .returned (.bool (kdV x != K)) ∧ w2.grownBy w' none) :
    Calls Tryz.prog 50 #[.slice A l.length c, .func (.func 87) #[] #[.pointer (some ⟨g, 0, none⟩)]] w fun e w' => e = .returned (.bool (l.any (fun x => kdV x != K))) ∧ w.grownBy w' none := by
  have HI := hide (unlike_idx l w B A c hl hB h K g hun)
  clear h hB hun
  generalize (l.any fun x => kdV x != K) = b at *
  go_enter Tryz.func50, Tryz.ntmps50
  go_wp2_with (go_at_call 86; refine HI.out.mono ?_; rintro e w1 ⟨r, rfl, hr, hg1⟩; have HR := hide hr; have HG1 := hide hg1; clear hr hg1)
  go_ret
  exact ⟨ret_b (by rw [← HR.out]), HG1.out⟩

end Go.Proofs.YtnilcnobngcbgaaGreat
