/-
  vec.Index of a vector of ints.
-/
import Derived.Test.YtgepejnooghjbaaGreatQai
import Derived.Test.YtgepejnooghjbaaGreatQab
import Derived.Test.YtgepejnooghjbaaGreatQag
import Derived.Test.YtgepejnooghjbaaGreatQad

namespace Go.Proofs.YtgepejnooghjbaaGreat
open Go.RowKit
attribute [local go_sem ↓] Go.wp_at_zero Go.wp_at_succ

theorem StrF.keeps {n s : Nat} {w w' : World} {g : Nat} {f : Int → Int → Option Int} (h : StrF n w g f) (hk : Keeps s ZR w w') : StrF n w' g f :=
  fun w2 h2 => h w2 fun i hi hlt => by
    rcases hk.block i hlt with e | ⟨_, o, _, ho, hz, _, _⟩
    · rcases h2 i hi (Nat.lt_of_lt_of_le hlt hk.size) with ⟨o, ho, hz⟩ | e2
      · exact .inl ⟨o, e ▸ ho, hz⟩
      · exact .inr (e2.trans e)
    · exact .inl ⟨o, ho, hz⟩
/-- What ruleOf gives, as a fact. -/
def RuleK (f : Int → Int → Option Int) : Fct := fun v w => ∃ g k, v = .tuple #[.agg #[.int .i64 2, .func (.func 145) #[] #[.pointer (some ⟨g, 0, none⟩)], Value.nilFunc], .bool true] ∧ StrF k w g f
theorem RuleK.lasts (f : Int → Int → Option Int) {p d s : Nat} : Lasts (grK s ZR) p d (RuleK f) :=
  ⟨fun _ _ _ ⟨g, k, h1, h2⟩ hg => ⟨g, k, h1, h2.gb hg⟩, fun _ _ _ _ ⟨g, k, h1, h2⟩ hk => ⟨g, k, h1, StrF.keeps h2 hk⟩⟩
/-- The rule itself. -/
def RuleG (f : Int → Int → Option Int) : Fct := fun v w => ∃ g k, v = .agg #[.int .i64 2, .func (.func 145) #[] #[.pointer (some ⟨g, 0, none⟩)], Value.nilFunc] ∧ StrF k w g f
theorem RuleG.lasts (f : Int → Int → Option Int) {p d s : Nat} : Lasts (grK s ZR) p d (RuleG f) :=
  ⟨fun _ _ _ ⟨g, k, h1, h2⟩ hg => ⟨g, k, h1, h2.gb hg⟩, fun _ _ _ _ ⟨g, k, h1, h2⟩ hk => ⟨g, k, h1, StrF.keeps h2 hk⟩⟩
/-- The rule in its box. -/
def RuleB (s : Nat) (f : Int → Int → Option Int) : Fct := fun v w => ∃ b g k, v = .pointer (some ⟨b, 0, none⟩) ∧ s ≤ b ∧ w.heap[b]? = some (.cells #[.int .i64 2, .func (.func 145) #[] #[.pointer (some ⟨g, 0, none⟩)], Value.nilFunc] 99 (0, 0)) ∧ StrF k w g f
theorem RuleB.up (s : Nat) (f : Int → Int → Option Int) : (RuleB s f).Up := by
  rintro v w w' ⟨b, g, k, h1, h2, h3, h4⟩ hg
  exact ⟨b, g, k, h1, h2, (hg.block b (blk_lt h3) (by simp)).trans h3, h4.gb hg⟩
theorem BoxF.lasts9 (base : Nat) (cs : Array Value) (ty : TypeId) {p s : Nat} : Lasts (grK s ZR) p p (BoxF base cs ty) := ⟨BoxF.up _ _ _, fun h => absurd rfl h⟩
theorem info4 : (Tryz.prog.info? 26).map (·.size) = some 4 := by kernel_rfl
theorem info3 : (Tryz.prog.info? 99).map (·.size) = some 3 := by kernel_rfl
theorem kindO_int {x : Vl} (h : IntV x) : kindO x.t x.s.length x.n.length = 2 := by
  rcases h.t with e | ⟨e, e1⟩
  · rw [e]; rfl
  · rw [e, e1]; rfl
theorem gb_setRow_own (w : World) (g : Nat) (c : Array Value) : w.grownBy (w.setRow g c) (some g) :=
  ⟨rfl, rfl, rfl, by simp [World.setRow], fun i _ hne => heap_setRow w g c i fun e => hne (by rw [e])⟩
section
attribute [-go_sem] Go.storeCells
end
end Go.Proofs.YtgepejnooghjbaaGreat

namespace Go.Proofs.YtgepejnooghjbaaGreat
open Go.RowKit
attribute [local go_sem ↓] Go.wp_at_zero Go.wp_at_succ

set_option maxHeartbeats 2000000 in
set_option maxRecDepth 100000 in
theorem isSeq_any (t : Int) (nA : Option Addr) (nl nc : Nat) (sA : Option Addr) (sl sc : Nat) (c3 : Value) (w : World) :
    Calls Tryz.prog 97 #[.agg #[.int .i64 t, .slice nA nl nc, .slice sA sl sc, c3]] w fun e w' => e = .returned (.bool (kindO t sl nl == t)) ∧ w.grownBy w' none := by
  obtain ⟨wa, hwa⟩ : ∃ wa, wa = w.alloc (.cells #[.int .i64 t, .slice nA nl nc, .slice sA sl sc, c3] 26) := ⟨_, rfl⟩
  have hc := C4.box w (.int .i64 t) (.slice nA nl nc) (.slice sA sl sc) c3 26
  rw [← hwa] at hc
  have HC := hide hc
  have HG := hide (show w.grownBy wa none by rw [hwa]; exact gb_alloc (gb_refl w none) _)
  have HWE := hide hwa
  clear hc hwa
  go_enter Tryz.func97, Tryz.ntmps97
  go_wp2_with fail
  rw [← HWE.out]
  refine wp_region_facts' 5 (by kernel_rfl) (by kernel_rfl) ?_
  intro A O W L HA HO HW HL
  simp only [List.take_succ_cons, List.take_zero]
  have HS := hide (show A.tmps.size = 8 by rw [HA.out]; rfl)
  have HGW := hide (show wa.grownBy W none by rw [HW.out]; exact gb_drew (gb_refl wa none))
  have A1 := hide (show A.eval (.tmp 1) = .pointer (some ⟨w.heap.size, 0, none⟩) by rw [HA.out]; rfl)
  -- slot 3
  refine wpFacts_lit (.agg #[.int .i64 t, .slice nA nl nc, .slice sA sl sc, c3]) rfl ?_ ?_
  · intro a wq hw hl
    have e1 : a.tmps[1]?.getD undef = .pointer (some ⟨w.heap.size, 0, none⟩) := (hl 1 (by first | (simp [Op.operands]; done) | simp [Op.operands, Call.operands]) (by rw [HS.out]; decide)).trans A1.out
    obtain ⟨c0, c1, c2, c3⟩ := HC.out.gb (gb_trans HGW.out hw (.inl rfl))
    clear hl
    go_simp
  -- slot 4
  refine wpFacts_step (fun vq _ => vq = .int .i64 (kindO t sl nl)) rfl (Lit.up _) ?_ ?_
  · intro a wq hw hl
    have e3 : a.tmps[3]?.getD undef = .agg #[.int .i64 t, .slice nA nl nc, .slice sA sl sc, c3] := hl 3 (by first | (simp [Op.operands]; done) | simp [Op.operands, Call.operands]) (by rw [HS.out]; decide)
    clear hl
    go_simp
    exact gUpon_lit (kind_any _ _ _ _ _ _ _ _ _)
  -- slot 5
  refine wpFacts_lit (.pointer (some ⟨w.heap.size, 0, none⟩)) rfl ?_ ?_
  · intro a wq hw hl
    have e1 : a.tmps[1]?.getD undef = .pointer (some ⟨w.heap.size, 0, none⟩) := (hl 1 (by first | (simp [Op.operands]; done) | simp [Op.operands, Call.operands]) (by rw [HS.out]; decide)).trans A1.out
    clear hl
    go_simp
  -- slot 6
  refine wpFacts_lit (.int .i64 t) rfl ?_ ?_
  · intro a wq hw hl
    have e5 : a.tmps[5]?.getD undef = .pointer (some ⟨w.heap.size, 0, none⟩) := hl 5 (by first | (simp [Op.operands]; done) | simp [Op.operands, Call.operands]) (by rw [HS.out]; decide)
    obtain ⟨c0, c1, c2, c3⟩ := HC.out.gb (gb_trans HGW.out hw (.inl rfl))
    clear hl
    go_simp
  -- slot 7
  refine wpFacts_lit (.bool (kindO t sl nl == t)) rfl ?_ ?_
  · intro a wq hw hl
    have e4 : a.tmps[4]?.getD undef = .int .i64 (kindO t sl nl) := hl 4 (by first | (simp [Op.operands]; done) | simp [Op.operands, Call.operands]) (by rw [HS.out]; decide)
    have e6 : a.tmps[6]?.getD undef = .int .i64 t := hl 6 (by first | (simp [Op.operands]; done) | simp [Op.operands, Call.operands]) (by rw [HS.out]; decide)
    clear hl
    go_simp
  refine HL.out _ (fun a' w5 hc => ?_)
  have e7 : a'.eval (.tmp 7) = .bool (kindO t sl nl == t) := hc.fact 7 (by rw [HS.out]; decide)
  have hgw5 := gb_trans HGW.out hc.grown (.inl rfl)
  have hfr := hc.frame [3, 4, 5, 6, 7, 2] (by rw [HO.out]; kernel_rfl)
  rw [hfr]
  clear hfr hc
  rw [HA.out]
  clear HA HO HL HW HS HGW A1
  clear A O W L
  simp only [List.drop_succ_cons, List.drop_zero, List.foldl_cons, List.foldl_nil, Act.put, List.setIfInBounds_toArray, List.set_cons_succ, List.set_cons_zero]
  rw [e7]
  generalize a'.eval (.tmp 3) = x3
  generalize a'.eval (.tmp 4) = x4
  generalize a'.eval (.tmp 5) = x5
  generalize a'.eval (.tmp 6) = x6
  generalize a'.eval (.tmp 2) = x2
  clear e7
  clear a'
  have HG5 := hide (gb_trans HG.out hgw5 (.inl rfl))
  clear hgw5
  go_wp2_with fail
  exact bodyPost_ret (v := .bool (kindO t sl nl == t)) (by simp [results, Tryz.results97, go_sem]) rfl ⟨rfl, HG5.out⟩
end Go.Proofs.YtgepejnooghjbaaGreat

namespace Go.Proofs.YtgepejnooghjbaaGreat
open Go.RowKit
attribute [local go_sem ↓] Go.wp_at_zero Go.wp_at_succ

set_option maxHeartbeats 2000000 in
set_option maxRecDepth 100000 in
theorem null2_any (w : World) : Calls Tryz.prog 90 #[.int .i64 2] w (NewV (.mk (-2) [-9223372036854775808] [] []) w) := by
  obtain ⟨wa, hwa⟩ : ∃ wa, wa = w.alloc (.cells #[.int .i64 0, .slice none 0 0, .slice none 0 0, .slice none 0 0] 26) := ⟨_, rfl⟩
  have hr : wa.heap[w.heap.size]? = some (.cells #[.int .i64 0, .slice none 0 0, .slice none 0 0, .slice none 0 0] 26 (0, 0)) := by rw [hwa]; exact heap_alloc_new w _
  have HR := hide hr
  have HG := hide (show w.grownBy wa none by rw [hwa]; exact gb_alloc (gb_refl w none) _)
  have HS := hide (show wa.heap.size = w.heap.size + 1 by rw [hwa]; simp)
  have HWE := hide hwa
  clear hr hwa
  go_enter Tryz.func90, Tryz.ntmps90
  go_wp2_with fail
  rw [← HWE.out]
  go_wp2_with (go_at_call 57; refine (atomI_any _ _).mono ?_; rintro e w1 ⟨nA, nc, sA, sc, lA, lc, f, he, ho, hn, hg1⟩; obtain rfl : e = .returned (.agg #[.int .i64 (-2), .slice nA 1 nc, .slice sA 0 sc, .slice lA 0 lc]) := he; have HO := hide ho; have HN := hide hn; have HG1 := hide (gb_trans HG.out hg1 (.inl rfl)); have hr2 := (hg1.block _ (blk_lt HR.out) (by simp)).trans HR.out; have HR2 := hide hr2; have z0 := blk_frozen hr2 0; have z1 := blk_frozen hr2 1; have z2 := blk_frozen hr2 2; have z3 := blk_frozen hr2 3; have y0 : w1.cell? ⟨w.heap.size, 0, none⟩ = some (.int .i64 0) := (by { rw [blk_cell hr2]; rfl }); have y1 : w1.cell? ⟨w.heap.size, 1, none⟩ = some (.slice none 0 0) := (by { rw [blk_cell hr2]; rfl }); have y2 : w1.cell? ⟨w.heap.size, 2, none⟩ = some (.slice none 0 0) := (by { rw [blk_cell hr2]; rfl }); have y3 : w1.cell? ⟨w.heap.size, 3, none⟩ = some (.slice none 0 0) := (by { rw [blk_cell hr2]; rfl }); clear ho hn hg1 hr2)
  have hb := put_four HR2.out (.int .i64 (-2)) (.slice nA 1 nc) (.slice sA 0 sc) (.slice lA 0 lc)
  have m0 : ((((w1.setCell ⟨w.heap.size, 0, none⟩ (.int .i64 (-2))).setCell ⟨w.heap.size, 1, none⟩ (.slice nA 1 nc)).setCell ⟨w.heap.size, 2, none⟩ (.slice sA 0 sc)).setCell ⟨w.heap.size, 3, none⟩ (.slice lA 0 lc)).cell? ⟨w.heap.size, 0, none⟩ = some (.int .i64 (-2)) := by rw [blk_cell hb]; rfl
  have m1 : ((((w1.setCell ⟨w.heap.size, 0, none⟩ (.int .i64 (-2))).setCell ⟨w.heap.size, 1, none⟩ (.slice nA 1 nc)).setCell ⟨w.heap.size, 2, none⟩ (.slice sA 0 sc)).setCell ⟨w.heap.size, 3, none⟩ (.slice lA 0 lc)).cell? ⟨w.heap.size, 1, none⟩ = some (.slice nA 1 nc) := by rw [blk_cell hb]; rfl
  have m2 : ((((w1.setCell ⟨w.heap.size, 0, none⟩ (.int .i64 (-2))).setCell ⟨w.heap.size, 1, none⟩ (.slice nA 1 nc)).setCell ⟨w.heap.size, 2, none⟩ (.slice sA 0 sc)).setCell ⟨w.heap.size, 3, none⟩ (.slice lA 0 lc)).cell? ⟨w.heap.size, 2, none⟩ = some (.slice sA 0 sc) := by rw [blk_cell hb]; rfl
  have m3 : ((((w1.setCell ⟨w.heap.size, 0, none⟩ (.int .i64 (-2))).setCell ⟨w.heap.size, 1, none⟩ (.slice nA 1 nc)).setCell ⟨w.heap.size, 2, none⟩ (.slice sA 0 sc)).setCell ⟨w.heap.size, 3, none⟩ (.slice lA 0 lc)).cell? ⟨w.heap.size, 3, none⟩ = some (.slice lA 0 lc) := by rw [blk_cell hb]; rfl
  refine bodyPost_ret (v := .agg #[.int .i64 (-2), .slice nA 1 nc, .slice sA 0 sc, .slice lA 0 lc]) (by simp [results, Tryz.results90, go_sem, m0, m1, m2, m3]) rfl ?_
  refine ⟨nA, nc, sA, sc, lA, lc, f, rfl, ?_, ⟨HN.out.1, fun b hb => ?_⟩, put_four_gb HG1.out (Nat.le_refl _) _ _ _ _⟩
  · exact VOw.keep _ _ _ HO.out fun b hm => put_four_other (by have := (HN.out.2 b hm).1; have := HS.out; omega) _ _ _ _
  · have h2 := HN.out.2 b hb
    have := HS.out
    refine ⟨by omega, ?_⟩
    simp [World.setCell]
    exact h2.2
end Go.Proofs.YtgepejnooghjbaaGreat

namespace Go.Proofs.YtgepejnooghjbaaGreat
open Go.RowKit
attribute [local go_sem ↓] Go.wp_at_zero Go.wp_at_succ

/-- A row of ints that is read. -/
def RdIF (l : List Int) : Fct := fun v w => ∃ A c, v = .slice A l.length c ∧ Rd w w.heap.size A (i64s l)
theorem RdIF.up (l : List Int) : (RdIF l).Up := by
  rintro v w w' ⟨A, c, h1, h2⟩ hg
  exact ⟨A, c, h1, (h2.grown hg (Nat.le_refl _) (by simp)).more hg.size⟩
/-- Where a value is found. -/
def CellF (u : Value) : Fct := fun v w => ∃ ad, v = .pointer (some ad) ∧ w.cell? ad = some u
theorem CellF.up (u : Value) : (CellF u).Up := by
  rintro v w w' ⟨ad, h1, h2⟩ hg
  exact ⟨ad, h1, cell_gb h2 hg⟩
/-- A row of ints of its own. -/
def OwnIF (base : Nat) (l : List Int) : Fct := fun v w => ∃ A c, l.length ≤ c ∧ v = .slice A l.length c ∧ w.ownsRow base 2 1 (.slice A l.length c) l.length (i64s l)
theorem own_up {w w' : World} {base n : Nat} {e : TypeId} {size : Nat} {v : Value} {xs : List Value} (h : w.ownsRow base e size v n xs) (hg : w.grownBy w' none) : w'.ownsRow base e size v n xs :=
  h.kept hg (by cases v.ownBlock <;> simp)
theorem OwnIF.up (base : Nat) (l : List Int) : (OwnIF base l).Up := by
  rintro v w w' ⟨A, c, h1, h2, h3⟩ hg
  exact ⟨A, c, h1, h2, own_up h3 hg⟩
/-- A vector of ints with a row of its own. -/
def OwnVF (base : Nat) (l : List Int) : Fct := fun v w => ∃ A c, l.length ≤ c ∧ v = .agg #[.int .i64 2, .slice A l.length c, .slice none 0 0, .slice none 0 0] ∧ w.ownsRow base 2 1 (.slice A l.length c) l.length (i64s l)
theorem OwnVF.up (base : Nat) (l : List Int) : (OwnVF base l).Up := by
  rintro v w w' ⟨A, c, h1, h2, h3⟩ hg
  exact ⟨A, c, h1, h2, own_up h3 hg⟩
section
attribute [-go_sem] Go.storeCells
set_option maxHeartbeats 4000000 in
set_option maxRecDepth 100000 in
theorem index_ints (x : Vl) (ps : List Int) (w : World) (B : Nat) (nA : Option Addr) (nc : Nat) (sA : Option Addr) (sc : Nat) (lA : Option Addr) (lc : Nat) (pA : Option Addr) (pc : Nat)
    (hx : IntV x) (ht : x.t = 2) (hB : B ≤ w.heap.size) (vx : VB w B x nA nc sA sc lA lc) (hp : Rd w w.heap.size pA (i64s ps)) (h1 : ps.length ≤ 1100000) :
    Calls Tryz.prog 67 #[.agg #[.int .i64 x.t, .slice nA x.n.length nc, .slice sA x.s.length sc, .slice lA x.l.length lc], .slice pA ps.length pc] w (DoR (.ok (2, ps.map (pickI x.n (-9223372036854775808)))) w) := by
  have hq := kindO_int hx
  rw [ht] at hq ⊢
  obtain ⟨wa, hwa⟩ : ∃ wa, wa = (w.alloc (.cells #[.int .i64 2, .slice nA x.n.length nc, .slice sA x.s.length sc, .slice lA x.l.length lc] 26)).alloc (.cells #[.int .i64 0, .slice none 0 0, .slice none 0 0, .slice none 0 0] 26) := ⟨_, rfl⟩
  have bx : wa.heap[w.heap.size]? = some (.cells #[.int .i64 2, .slice nA x.n.length nc, .slice sA x.s.length sc, .slice lA x.l.length lc] 26 (0, 0)) := by rw [hwa]; exact (Below.heap_alloc _ _ _ (by rw [World.size_alloc]; omega)).trans (heap_alloc_new w _)
  have bz : wa.heap[w.heap.size + 1]? = some (.cells #[.int .i64 0, .slice none 0 0, .slice none 0 0, .slice none 0 0] 26 (0, 0)) := by rw [hwa]; have := heap_alloc_new (w.alloc (.cells #[.int .i64 2, .slice nA x.n.length nc, .slice sA x.s.length sc, .slice lA x.l.length lc] 26)) (.cells #[.int .i64 0, .slice none 0 0, .slice none 0 0, .slice none 0 0] 26); rwa [World.size_alloc] at this
  have HBX := hide bx
  have HBZ := hide bz
  have HG := hide (show w.grownBy wa none by rw [hwa]; exact gb_alloc (gb_alloc (gb_refl w none) _) _)
  have HWE := hide hwa
  have HQ := hide (show (kindO 2 x.s.length x.n.length == 2) = true by rw [hq]; rfl)
  have HPK := hide (fun w2 (hg : w.grownBy w2 none) => picked_any x.n ps (-9223372036854775808) w2 nA nc pA pc (((vx.gb hg hB).n).more (Nat.le_trans hB hg.size)) ((hp.grown hg (Nat.le_refl _) (by simp)).more hg.size) h1 (Nat.le_trans hx.n (by omega)))
  obtain ⟨c0, c1, c2, c3⟩ : C4 wa w.heap.size 0 (.int .i64 2) (.slice nA x.n.length nc) (.slice sA x.s.length sc) (.slice lA x.l.length lc) := ⟨by rw [blk_cell bx]; rfl, by rw [blk_cell bx]; rfl, by rw [blk_cell bx]; rfl, by rw [blk_cell bx]; rfl⟩
  obtain ⟨rl, hrl⟩ : ∃ rl, rl = ps.map (pickI x.n (-9223372036854775808)) := ⟨_, rfl⟩
  rw [← hrl] at HPK ⊢
  clear bx bz hwa hx hB vx hp h1 ht hq hrl
  go_enter Tryz.func67, Tryz.ntmps67
  go_wp2_with fail
  rw [← HWE.out]
  go_wp2_with (go_at_call 97; refine (isSeq_any _ _ _ _ _ _ _ _ _).mono ?_; rintro e w1 ⟨rfl, hg1⟩; have hqq := HQ.out; have HG1 := hide hg1; clear c0 c1 c2 c3; obtain ⟨c0, c1, c2, c3⟩ : C4 w1 w.heap.size 0 (.int .i64 2) (.slice nA x.n.length nc) (.slice sA x.s.length sc) (.slice lA x.l.length lc) := (by have h := blk_keep HBX.out hg1 (by simp); exact ⟨by rw [blk_cell h]; rfl, by rw [blk_cell h]; rfl, by rw [blk_cell h]; rfl, by rw [blk_cell h]; rfl⟩); clear hg1)
  clear hqq
  have HC := hide (show C4 w1 w.heap.size 0 (.int .i64 2) (.slice nA x.n.length nc) (.slice sA x.s.length sc) (.slice lA x.l.length lc) from ⟨c0, c1, c2, c3⟩)
  have HGG := hide (gb_trans HG.out HG1.out (.inl rfl))
  clear c0 c1 c2 c3 HQ HWE
  refine wp_region_facts' 13 (by kernel_rfl) (by kernel_rfl) ?_
  intro A O W L HA HO HW HL
  simp only [List.take_succ_cons, List.take_zero]
  have HS := hide (show A.tmps.size = 47 by rw [HA.out]; rfl)
  have HGW := hide (show w1.grownBy W none by rw [HW.out]; exact gb_drew (gb_refl w1 none))
  have A1 := hide (show A.eval (.tmp 1) = .slice pA ps.length pc by rw [HA.out]; rfl)
  have A2 := hide (show A.eval (.tmp 2) = .pointer (some ⟨w.heap.size, 0, none⟩) by rw [HA.out]; rfl)
  -- slot 34
  refine wpFacts_lit (.pointer (some ⟨w.heap.size, 0, none⟩)) rfl ?_ ?_
  · intro a wq hw hl
    have e2 : a.tmps[2]?.getD undef = .pointer (some ⟨w.heap.size, 0, none⟩) := (hl 2 (by first | (simp [Op.operands]; done) | simp [Op.operands, Call.operands]) (by rw [HS.out]; decide)).trans A2.out
    clear hl
    go_simp
  -- slot 35
  refine wpFacts_lit (.int .i64 2) rfl ?_ ?_
  · intro a wq hw hl
    have e34 : a.tmps[34]?.getD undef = .pointer (some ⟨w.heap.size, 0, none⟩) := hl 34 (by first | (simp [Op.operands]; done) | simp [Op.operands, Call.operands]) (by rw [HS.out]; decide)
    obtain ⟨c0, c1, c2, c3⟩ := HC.out.gb (gb_trans HGW.out hw (.inl rfl))
    clear hl
    go_simp
  -- slot 36
  refine wpFacts_lit (.pointer (some ⟨w.heap.size, 1, none⟩)) rfl ?_ ?_
  · intro a wq hw hl
    have e2 : a.tmps[2]?.getD undef = .pointer (some ⟨w.heap.size, 0, none⟩) := (hl 2 (by first | (simp [Op.operands]; done) | simp [Op.operands, Call.operands]) (by rw [HS.out]; decide)).trans A2.out
    clear hl
    go_simp
  -- slot 37
  refine wpFacts_lit (.slice nA x.n.length nc) rfl ?_ ?_
  · intro a wq hw hl
    have e36 : a.tmps[36]?.getD undef = .pointer (some ⟨w.heap.size, 1, none⟩) := hl 36 (by first | (simp [Op.operands]; done) | simp [Op.operands, Call.operands]) (by rw [HS.out]; decide)
    obtain ⟨c0, c1, c2, c3⟩ := HC.out.gb (gb_trans HGW.out hw (.inl rfl))
    clear hl
    go_simp
  -- slot 38
  refine wpFacts_lit (.pointer (some ⟨w.heap.size, 0, none⟩)) rfl ?_ ?_
  · intro a wq hw hl
    have e2 : a.tmps[2]?.getD undef = .pointer (some ⟨w.heap.size, 0, none⟩) := (hl 2 (by first | (simp [Op.operands]; done) | simp [Op.operands, Call.operands]) (by rw [HS.out]; decide)).trans A2.out
    clear hl
    go_simp
  -- slot 39
  refine wpFacts_lit (.int .i64 2) rfl ?_ ?_
  · intro a wq hw hl
    have e38 : a.tmps[38]?.getD undef = .pointer (some ⟨w.heap.size, 0, none⟩) := hl 38 (by first | (simp [Op.operands]; done) | simp [Op.operands, Call.operands]) (by rw [HS.out]; decide)
    obtain ⟨c0, c1, c2, c3⟩ := HC.out.gb (gb_trans HGW.out hw (.inl rfl))
    clear hl
    go_simp
  -- slot 40
  refine wpFacts_step (ValF (.mk (-2) [-9223372036854775808] [] [])) rfl (ValF.up _) ?_ ?_
  · intro a wq hw hl
    have e39 : a.tmps[39]?.getD undef = .int .i64 2 := hl 39 (by first | (simp [Op.operands]; done) | simp [Op.operands, Call.operands]) (by rw [HS.out]; decide)
    clear hl
    go_simp
    refine ⟨gb_refl _ none, (null2_any _).mono fun _ _ h => ?_⟩
    obtain ⟨x9, h1, h2, h3⟩ := ValF.of_new h
    exact ⟨x9, h1, h2, h3⟩
  -- slot 41
  refine wpFacts_step (RdIF [-9223372036854775808]) rfl (RdIF.up _) ?_ ?_
  · intro a wq hw hl
    have h40 : (ValF (.mk (-2) [-9223372036854775808] [] [])) (a.tmps[40]?.getD undef) wq := hl 40 (by first | (simp [Op.operands]; done) | simp [Op.operands, Call.operands]) (by rw [HS.out]; decide)
    obtain ⟨mA, mc, tA, tc, kA, kc, e40, hv⟩ := h40
    clear hl
    go_simp
    exact ⟨gb_refl _ none, mA, mc, rfl, hv.n⟩
  -- slot 42
  refine wpFacts_step (CellF (.int .i64 (-9223372036854775808))) rfl (CellF.up _) ?_ ?_
  · intro a wq hw hl
    have h41 : (RdIF [-9223372036854775808]) (a.tmps[41]?.getD undef) wq := hl 41 (by first | (simp [Op.operands]; done) | simp [Op.operands, Call.operands]) (by rw [HS.out]; decide)
    obtain ⟨mA, mc, e41, hr⟩ := h41
    obtain ⟨ad, rfl, _, hcl⟩ := hr.i64 (k := 0) (by decide)
    have e41a : a.tmps[41]?.getD undef = .slice (some ad) 1 mc := e41
    clear e41
    clear hl
    go_simp
    refine ⟨gb_refl _ none, ad, rfl, ?_⟩
    have hcl : wq.cell? (ad.add 0) = some (.int .i64 (-9223372036854775808)) := hcl
    rwa [Addr.add_zero'] at hcl
  -- slot 43
  refine wpFacts_lit (.int .i64 (-9223372036854775808)) rfl ?_ ?_
  · intro a wq hw hl
    have h42 : (CellF (.int .i64 (-9223372036854775808))) (a.tmps[42]?.getD undef) wq := hl 42 (by first | (simp [Op.operands]; done) | simp [Op.operands, Call.operands]) (by rw [HS.out]; decide)
    obtain ⟨ad, e42, hcl⟩ := h42
    clear hl
    go_simp
  -- slot 44
  refine wpFacts_lit (.slice pA ps.length pc) rfl ?_ ?_
  · intro a wq hw hl
    have e1 : a.tmps[1]?.getD undef = .slice pA ps.length pc := (hl 1 (by first | (simp [Op.operands]; done) | simp [Op.operands, Call.operands]) (by rw [HS.out]; decide)).trans A1.out
    clear hl
    go_simp
  -- slot 45
  refine wpFacts_step (OwnIF w.heap.size rl) rfl (OwnIF.up _ _) ?_ ?_
  · intro a wq hw hl
    have e37 : a.tmps[37]?.getD undef = .slice nA x.n.length nc := hl 37 (by first | (simp [Op.operands]; done) | simp [Op.operands, Call.operands]) (by rw [HS.out]; decide)
    have e43 : a.tmps[43]?.getD undef = .int .i64 (-9223372036854775808) := hl 43 (by first | (simp [Op.operands]; done) | simp [Op.operands, Call.operands]) (by rw [HS.out]; decide)
    have e44 : a.tmps[44]?.getD undef = .slice pA ps.length pc := hl 44 (by first | (simp [Op.operands]; done) | simp [Op.operands, Call.operands]) (by rw [HS.out]; decide)
    clear hl
    go_simp
    refine ⟨gb_refl _ none, (HPK.out _ (gb_trans HGG.out (gb_trans HGW.out hw (.inl rfl)) (.inl rfl))).mono fun _ _ h => ?_⟩
    obtain ⟨hg, A, c, h1, h2, h3⟩ := h
    exact ⟨_, h2, hg, A, c, h1, rfl, own_low h3 (Nat.le_trans HGG.out.size (Nat.le_trans HGW.out.size hw.size))⟩
  -- slot 46
  refine wpFacts_step (OwnVF w.heap.size rl) rfl (OwnVF.up _ _) ?_ ?_
  · intro a wq hw hl
    have e35 : a.tmps[35]?.getD undef = .int .i64 2 := hl 35 (by first | (simp [Op.operands]; done) | simp [Op.operands, Call.operands]) (by rw [HS.out]; decide)
    have h45 : (OwnIF w.heap.size rl) (a.tmps[45]?.getD undef) wq := hl 45 (by first | (simp [Op.operands]; done) | simp [Op.operands, Call.operands]) (by rw [HS.out]; decide)
    obtain ⟨rA, rc, h1, e45, h2⟩ := h45
    clear hl
    go_simp
    exact ⟨gb_refl _ none, rA, rc, h1, rfl, h2⟩
  refine HL.out _ (fun a' w5 hc => ?_)
  have h46 : (OwnVF w.heap.size rl) (a'.eval (.tmp 46)) w5 := hc.fact 46 (by rw [HS.out]; decide)
  obtain ⟨rA, rc, hlc, e46, ho⟩ := h46
  have hgw5 := gb_trans HGW.out hc.grown (.inl rfl)
  have hfr := hc.frame [34, 35, 36, 37, 38, 39, 40, 41, 42, 43, 44, 45, 46, 5] (by rw [HO.out]; kernel_rfl)
  rw [hfr]
  clear hfr hc
  rw [HA.out]
  clear HA HO HL HW HS HGW A1 A2
  clear A O W L
  simp only [List.drop_succ_cons, List.drop_zero, List.foldl_cons, List.foldl_nil, Act.put, List.setIfInBounds_toArray, List.set_cons_succ, List.set_cons_zero]
  rw [e46]
  generalize a'.eval (.tmp 34) = x34
  generalize a'.eval (.tmp 35) = x35
  generalize a'.eval (.tmp 36) = x36
  generalize a'.eval (.tmp 37) = x37
  generalize a'.eval (.tmp 38) = x38
  generalize a'.eval (.tmp 39) = x39
  generalize a'.eval (.tmp 40) = x40
  generalize a'.eval (.tmp 41) = x41
  generalize a'.eval (.tmp 42) = x42
  generalize a'.eval (.tmp 43) = x43
  generalize a'.eval (.tmp 44) = x44
  generalize a'.eval (.tmp 45) = x45
  generalize a'.eval (.tmp 5) = x5
  clear e46
  clear a'
  have HG5 := hide (gb_trans HGG.out hgw5 (.inl rfl))
  have hbz := blk_keep HBZ.out (gb_trans HG1.out hgw5 (.inl rfl)) (by simp)
  have HZ := hide hbz
  have HO := hide ho
  have HLC := hide hlc
  have hst := storeCells_row (P := Tryz.prog) (c' := #[.int .i64 2, .slice rA rl.length rc, .slice none 0 0, .slice none 0 0]) hbz info4 rfl (by simp [Value.oneCell'])
  clear hbz ho hlc hgw5 HPK HC HBX HBZ HG1 HGG HG
  go_wp2_with fail
  have hrow := heap_setRow_at _ _ _ #[.int .i64 2, .slice rA rl.length rc, .slice none 0 0, .slice none 0 0] _ _ HZ.out
  have m0 := blk_cell hrow 0
  have m1 := blk_cell hrow 1
  have m2 := blk_cell hrow 2
  have m3 := blk_cell hrow 3
  simp only [List.getElem?_toArray, List.getElem?_cons_zero, List.getElem?_cons_succ] at m0 m1 m2 m3
  have hon := HO.out.kept (gb_setRow_own w5 (w.heap.size + 1) #[.int .i64 2, .slice rA rl.length rc, .slice none 0 0, .slice none 0 0]) (.inr (own_ne HO.out HZ.out (by decide)))
  exact bodyPost_ret (v := .tuple #[.agg #[.int .i64 2, .slice rA rl.length rc, .slice none 0 0, .slice none 0 0], .int .i64 0]) (by simp [results, Tryz.results67, go_sem, m0, m1, m2, m3]) rfl ⟨gb_setRow HG5.out _ _ (by omega), rA, rc, HLC.out, rfl, hon⟩
end
end Go.Proofs.YtgepejnooghjbaaGreat
