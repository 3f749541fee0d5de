/-
  vec.Do: the sum, the quotient, the rest of ints and vectors of ints.
-/
import Derived.Test.YtnilcnobngcbgaaGreatDi
import Derived.Test.YtnilcnobngcbgaaGreatGk
import Derived.Test.YtnilcnobngcbgaaGreatGh
namespace Go.Proofs.YtnilcnobngcbgaaGreat
open Go.RowKit
attribute [local go_sem ↓] Go.wp_at_zero Go.wp_at_succ

theorem StrF.keeps {n s : Nat} {w w' : World} {g : Nat} {f : Int → Int → Option Int} (h : StrF n w g f) (hk : Keeps s ZR w w') : StrF n w' g f :=
  fun w2 h2 => h w2 fun i hi hlt => by
    rcases hk.block i hlt with e | ⟨_, o, _, ho, hz, _, _⟩
    · rcases h2 i hi (Nat.lt_of_lt_of_le hlt hk.size) with ⟨o, ho, hz⟩ | e2
      · exact .inl ⟨o, e ▸ ho, hz⟩
      · exact .inr (e2.trans e)
    · exact .inl ⟨o, ho, hz⟩
/-- What ruleOf gives, as a fact. -/
def RuleK (f : Int → Int → Option Int) : Fct := fun v w => ∃ g k, v = .tuple #[.agg #[.int .i64 2, .func (.func 99) #[] #[.pointer (some ⟨g, 0, none⟩)], Value.nilFunc], .bool true] ∧ StrF k w g f
theorem RuleK.lasts (f : Int → Int → Option Int) {p d s : Nat} : Lasts (grK s ZR) p d (RuleK f) :=
  ⟨fun _ _ _ ⟨g, k, h1, h2⟩ hg => ⟨g, k, h1, h2.gb hg⟩, fun _ _ _ _ ⟨g, k, h1, h2⟩ hk => ⟨g, k, h1, StrF.keeps h2 hk⟩⟩
/-- The rule itself. -/
def RuleG (f : Int → Int → Option Int) : Fct := fun v w => ∃ g k, v = .agg #[.int .i64 2, .func (.func 99) #[] #[.pointer (some ⟨g, 0, none⟩)], Value.nilFunc] ∧ StrF k w g f
theorem RuleG.lasts (f : Int → Int → Option Int) {p d s : Nat} : Lasts (grK s ZR) p d (RuleG f) :=
  ⟨fun _ _ _ ⟨g, k, h1, h2⟩ hg => ⟨g, k, h1, h2.gb hg⟩, fun _ _ _ _ ⟨g, k, h1, h2⟩ hk => ⟨g, k, h1, StrF.keeps h2 hk⟩⟩
/-- The rule in its box. -/
def RuleB (s : Nat) (f : Int → Int → Option Int) : Fct := fun v w => ∃ b g k, v = .pointer (some ⟨b, 0, none⟩) ∧ s ≤ b ∧ w.heap[b]? = some (.cells #[.int .i64 2, .func (.func 99) #[] #[.pointer (some ⟨g, 0, none⟩)], Value.nilFunc] 68 (0, 0)) ∧ StrF k w g f
theorem RuleB.up (s : Nat) (f : Int → Int → Option Int) : (RuleB s f).Up := by
  rintro v w w' ⟨b, g, k, h1, h2, h3, h4⟩ hg
  exact ⟨b, g, k, h1, h2, (hg.block b (blk_lt h3) (by simp)).trans h3, h4.gb hg⟩
theorem BoxF.lasts9 (base : Nat) (cs : Array Value) (ty : TypeId) {p s : Nat} : Lasts (grK s ZR) p p (BoxF base cs ty) := ⟨BoxF.up _ _ _, fun h => absurd rfl h⟩
theorem info4 : (Tryz.prog.info? 26).map (·.size) = some 4 := by kernel_rfl
theorem info3 : (Tryz.prog.info? 68).map (·.size) = some 3 := by kernel_rfl
theorem kindO_int {x : Vl} (h : IntV x) : kindO x.t x.s.length x.n.length = 2 := by
  rcases h.t with e | ⟨e, e1⟩
  · rw [e]; rfl
  · rw [e, e1]; rfl
theorem gb_setRow_own (w : World) (g : Nat) (c : Array Value) : w.grownBy (w.setRow g c) (some g) :=
  ⟨rfl, rfl, rfl, by simp [World.setRow], fun i _ hne => heap_setRow w g c i fun e => hne (by rw [e])⟩
section
attribute [-go_sem] Go.storeCells
set_option maxHeartbeats 4000000 in
set_option maxRecDepth 100000 in
theorem do_add (x y : Vl) (w : World) (B : Nat) (nA : Option Addr) (nc : Nat) (sA : Option Addr) (sc : Nat) (lA : Option Addr) (lc : Nat) (mA : Option Addr) (mc : Nat) (tA : Option Addr) (tc : Nat) (kA : Option Addr) (kc : Nat)
    (hx : IntV x) (hy : IntV y) (hB : B ≤ w.heap.size) (vx : VB w B x nA nc sA sc lA lc) (vy : VB w B y mA mc tA tc kA kc) :
    Calls Tryz.prog 20 #[.int .i64 0, .agg #[.int .i64 x.t, .slice nA x.n.length nc, .slice sA x.s.length sc, .slice lA x.l.length lc], .agg #[.int .i64 y.t, .slice mA y.n.length mc, .slice tA y.s.length tc, .slice kA y.l.length kc]] w (DoR (doI (strictF sumF) x y) w) := by
  obtain ⟨wa, hwa⟩ : ∃ wa, wa = ((w.alloc (.cells #[.int .i64 x.t, .slice nA x.n.length nc, .slice sA x.s.length sc, .slice lA x.l.length lc] 26)).alloc (.cells #[.int .i64 y.t, .slice mA y.n.length mc, .slice tA y.s.length tc, .slice kA y.l.length kc] 26)).alloc (.cells #[.int .i64 0, .slice none 0 0, .slice none 0 0, .slice none 0 0] 26) := ⟨_, rfl⟩
  have bx : wa.heap[w.heap.size]? = some (.cells #[.int .i64 x.t, .slice nA x.n.length nc, .slice sA x.s.length sc, .slice lA x.l.length lc] 26 (0, 0)) := by rw [hwa]; exact (Below.heap_alloc _ _ _ (by rw [World.size_alloc, World.size_alloc]; omega)).trans ((Below.heap_alloc _ _ _ (by rw [World.size_alloc]; omega)).trans (heap_alloc_new w _))
  have by_ : wa.heap[w.heap.size + 1]? = some (.cells #[.int .i64 y.t, .slice mA y.n.length mc, .slice tA y.s.length tc, .slice kA y.l.length kc] 26 (0, 0)) := by rw [hwa]; exact (Below.heap_alloc _ _ _ (by rw [World.size_alloc, World.size_alloc]; omega)).trans (by have := heap_alloc_new (w.alloc (.cells #[.int .i64 x.t, .slice nA x.n.length nc, .slice sA x.s.length sc, .slice lA x.l.length lc] 26)) (.cells #[.int .i64 y.t, .slice mA y.n.length mc, .slice tA y.s.length tc, .slice kA y.l.length kc] 26); rwa [World.size_alloc] at this)
  have bz : wa.heap[w.heap.size + 2]? = some (.cells #[.int .i64 0, .slice none 0 0, .slice none 0 0, .slice none 0 0] 26 (0, 0)) := by rw [hwa]; have := heap_alloc_new ((w.alloc (.cells #[.int .i64 x.t, .slice nA x.n.length nc, .slice sA x.s.length sc, .slice lA x.l.length lc] 26)).alloc (.cells #[.int .i64 y.t, .slice mA y.n.length mc, .slice tA y.s.length tc, .slice kA y.l.length kc] 26)) (.cells #[.int .i64 0, .slice none 0 0, .slice none 0 0, .slice none 0 0] 26); rwa [World.size_alloc, World.size_alloc] at this
  have HBX := hide bx
  have HBY := hide by_
  have HBZ := hide bz
  have HGA := hide (show w.grownBy wa none by rw [hwa]; exact gb_alloc (gb_alloc (gb_alloc (gb_refl w none) _) _) _)
  have HWE := hide hwa
  have HKX := hide (kindO_int hx)
  have HKY := hide (kindO_int hy)
  have HDO := hide (fun (g k : Nat) (w2 : World) (hg : w.grownBy w2 none) (hS : StrF k w2 g (strictF sumF)) => do_ints (strictF sumF) g k x y w2 B nA nc sA sc lA lc mA mc tA tc kA kc hx hy (Nat.le_trans hB hg.size) (vx.gb hg hB) (vy.gb hg hB) hS)
  clear bx by_ bz hwa hx hy hB vx vy
  go_enter Tryz.func20, Tryz.ntmps20
  go_wp2_with fail
  rw [← HWE.out]
  go_wp2_with (go_at_call 42; refine (ops_any _).mono ?_; rintro e wb ⟨p0, p1, p2, p3, p4, p5, p6, p7, p8, p9, rfl, hc0, hc3, hc4, hgb⟩; have HC0 := hide hc0; have HC3 := hide hc3; have HC4 := hide hc4; have HGB := hide (gb_trans HGA.out hgb (.inl rfl)); have HG1 := hide hgb; have hst := ops_store (heap_alloc_new wb (.cells #[Value.nilFunc, Value.nilFunc, Value.nilFunc, Value.nilFunc, Value.nilFunc, Value.nilFunc, Value.nilFunc, Value.nilFunc, Value.nilFunc, Value.nilFunc] 63)) p0 p1 p2 p3 p4 p5 p6 p7 p8 p9; rw [World.setRow_alloc_new] at hst; clear hc0 hc3 hc4 hgb)
  clear hst
  obtain ⟨wc, hwc⟩ : ∃ wc, wc = wb.alloc (.cells #[.func (.func 98) #[] #[.pointer (some ⟨p0, 0, none⟩)], .func (.func 98) #[] #[.pointer (some ⟨p1, 0, none⟩)], .func (.func 98) #[] #[.pointer (some ⟨p2, 0, none⟩)], .func (.func 98) #[] #[.pointer (some ⟨p3, 0, none⟩)], .func (.func 98) #[] #[.pointer (some ⟨p4, 0, none⟩)], .func (.func 106) #[] #[.pointer (some ⟨p5, 0, none⟩)], .func (.func 106) #[] #[.pointer (some ⟨p6, 0, none⟩)], .func (.func 107) #[] #[.pointer (some ⟨p7, 0, none⟩)], .func (.func 107) #[] #[.pointer (some ⟨p8, 0, none⟩)], .func (.func 107) #[] #[.pointer (some ⟨p9, 0, none⟩)]] 63) := ⟨_, rfl⟩
  rw [← hwc]
  have hgc : wb.grownBy wc none := by rw [hwc]; exact gb_alloc (gb_refl wb none) _
  have HB8 := hide (show wc.heap[wb.heap.size]? = some (.cells #[.func (.func 98) #[] #[.pointer (some ⟨p0, 0, none⟩)], .func (.func 98) #[] #[.pointer (some ⟨p1, 0, none⟩)], .func (.func 98) #[] #[.pointer (some ⟨p2, 0, none⟩)], .func (.func 98) #[] #[.pointer (some ⟨p3, 0, none⟩)], .func (.func 98) #[] #[.pointer (some ⟨p4, 0, none⟩)], .func (.func 106) #[] #[.pointer (some ⟨p5, 0, none⟩)], .func (.func 106) #[] #[.pointer (some ⟨p6, 0, none⟩)], .func (.func 107) #[] #[.pointer (some ⟨p7, 0, none⟩)], .func (.func 107) #[] #[.pointer (some ⟨p8, 0, none⟩)], .func (.func 107) #[] #[.pointer (some ⟨p9, 0, none⟩)]] 63 (0, 0)) by rw [hwc]; exact heap_alloc_new wb _)
  have HG := hide (gb_trans HGB.out hgc (.inl rfl))
  have HGC := hide (gb_trans HG1.out hgc (.inl rfl))
  have H0 : Hid (OpC wc p0 (strictF sumF)) := hide (opC_add (cell_gb HC0.out hgc))
  have HCX := hide (show C4 wc w.heap.size 0 (.int .i64 x.t) (.slice nA x.n.length nc) (.slice sA x.s.length sc) (.slice lA x.l.length lc) by have h := blk_keep HBX.out HGC.out (by simp); exact ⟨by rw [blk_cell h]; rfl, by rw [blk_cell h]; rfl, by rw [blk_cell h]; rfl, by rw [blk_cell h]; rfl⟩)
  have HCY := hide (show C4 wc (w.heap.size + 1) 0 (.int .i64 y.t) (.slice mA y.n.length mc) (.slice tA y.s.length tc) (.slice kA y.l.length kc) by have h := blk_keep HBY.out HGC.out (by simp); exact ⟨by rw [blk_cell h]; rfl, by rw [blk_cell h]; rfl, by rw [blk_cell h]; rfl, by rw [blk_cell h]; rfl⟩)
  obtain ⟨b8, hb8⟩ : ∃ b8, b8 = wb.heap.size := ⟨_, rfl⟩
  rw [← hb8] at HB8 ⊢
  clear hgc hwc hb8 HC0 HC3 HC4 HGA HGB HG1 HWE
  refine wp_region_kfacts (grK wc.heap.size ZR) 14 9 (by kernel_rfl) (by kernel_rfl) (by kernel_rfl) ?_
  intro A O W L HA HO HW HL
  simp only [List.take_succ_cons, List.take_zero]
  have HS := hide (show A.tmps.size = 40 by rw [HA.out]; rfl)
  have HGW := hide (show wc.grownBy W none by rw [HW.out]; exact gb_drew (gb_refl wc none))
  have HSW := hide (show W.heap.size ≤ wc.heap.size by rw [HW.out]; exact Nat.le_refl _)
  have A0 := hide (show A.eval (.tmp 0) = .int .i64 0 by rw [HA.out]; rfl)
  have A4 := hide (show A.eval (.tmp 4) = .pointer (some ⟨w.heap.size, 0, none⟩) by rw [HA.out]; rfl)
  have A5 := hide (show A.eval (.tmp 5) = .pointer (some ⟨w.heap.size + 1, 0, none⟩) by rw [HA.out]; rfl)
  have A8 := hide (show A.eval (.tmp 8) = .pointer (some ⟨b8, 0, none⟩) by rw [HA.out]; rfl)
  -- slot 20
  refine kFacts_lit (.int .i64 0) rfl rfl ?_ ?_
  · intro a wq hw hl
    have e0 : a.tmps[0]?.getD undef = .int .i64 0 := (hl 0 (by first | (simp [Op.operands]; done) | simp [Op.operands, Call.operands]) (by rw [HS.out]; decide)).trans A0.out
    clear hl
    go_simp
  -- slot 21
  refine kFacts_lit (.pointer (some ⟨b8, 0, none⟩)) rfl rfl ?_ ?_
  · intro a wq hw hl
    have e8 : a.tmps[8]?.getD undef = .pointer (some ⟨b8, 0, none⟩) := (hl 8 (by first | (simp [Op.operands]; done) | simp [Op.operands, Call.operands]) (by rw [HS.out]; decide)).trans A8.out
    have e20 : a.tmps[20]?.getD undef = .int .i64 0 := hl 20 (by first | (simp [Op.operands]; done) | simp [Op.operands, Call.operands]) (by rw [HS.out]; decide)
    clear hl
    go_simp
  -- slot 22
  refine kFacts_lit (.func (.func 98) #[] #[.pointer (some ⟨p0, 0, none⟩)]) rfl rfl ?_ ?_
  · intro a wq hw hl
    have e21 : a.tmps[21]?.getD undef = .pointer (some ⟨b8, 0, none⟩) := hl 21 (by first | (simp [Op.operands]; done) | simp [Op.operands, Call.operands]) (by rw [HS.out]; decide)
    have hk := blk_keep HB8.out (gb_trans HGW.out (Keeps.grown hw HSW.out) (.inl rfl)) (by simp)
    have ck : wq.cell? ⟨b8, 0, none⟩ = some (.func (.func 98) #[] #[.pointer (some ⟨p0, 0, none⟩)]) := by rw [blk_cell hk]; rfl
    clear hk
    clear hl
    go_simp
  -- slot 23
  refine kFacts_lit (.agg #[.int .i64 x.t, .slice nA x.n.length nc, .slice sA x.s.length sc, .slice lA x.l.length lc]) rfl rfl ?_ ?_
  · intro a wq hw hl
    have e4 : a.tmps[4]?.getD undef = .pointer (some ⟨w.heap.size, 0, none⟩) := (hl 4 (by first | (simp [Op.operands]; done) | simp [Op.operands, Call.operands]) (by rw [HS.out]; decide)).trans A4.out
    obtain ⟨c0, c1, c2, c3⟩ := HCX.out.gb (gb_trans HGW.out (Keeps.grown hw HSW.out) (.inl rfl))
    clear hl
    go_simp
  -- slot 24
  refine kFacts_step (fun vq _ => vq = .int .i64 2) rfl rfl (Lasts.lit _) ?_ ?_
  · intro a wq hw hl
    have e23 : a.tmps[23]?.getD undef = .agg #[.int .i64 x.t, .slice nA x.n.length nc, .slice sA x.s.length sc, .slice lA x.l.length lc] := hl 23 (by first | (simp [Op.operands]; done) | simp [Op.operands, Call.operands]) (by rw [HS.out]; decide)
    clear hl
    go_simp
    exact gUpon_lit ((kind_any _ _ _ _ _ _ _ _ _).mono fun _ _ h => ⟨h.1.trans (by rw [HKX.out]), h.2⟩)
  -- slot 25
  refine kFacts_lit (.agg #[.int .i64 y.t, .slice mA y.n.length mc, .slice tA y.s.length tc, .slice kA y.l.length kc]) rfl rfl ?_ ?_
  · intro a wq hw hl
    have e5 : a.tmps[5]?.getD undef = .pointer (some ⟨w.heap.size + 1, 0, none⟩) := (hl 5 (by first | (simp [Op.operands]; done) | simp [Op.operands, Call.operands]) (by rw [HS.out]; decide)).trans A5.out
    obtain ⟨c0, c1, c2, c3⟩ := HCY.out.gb (gb_trans HGW.out (Keeps.grown hw HSW.out) (.inl rfl))
    clear hl
    go_simp
  -- slot 26
  refine kFacts_step (fun vq _ => vq = .int .i64 2) rfl rfl (Lasts.lit _) ?_ ?_
  · intro a wq hw hl
    have e25 : a.tmps[25]?.getD undef = .agg #[.int .i64 y.t, .slice mA y.n.length mc, .slice tA y.s.length tc, .slice kA y.l.length kc] := hl 25 (by first | (simp [Op.operands]; done) | simp [Op.operands, Call.operands]) (by rw [HS.out]; decide)
    clear hl
    go_simp
    exact gUpon_lit ((kind_any _ _ _ _ _ _ _ _ _).mono fun _ _ h => ⟨h.1.trans (by rw [HKY.out]), h.2⟩)
  -- slot 27
  refine kFacts_lit (.agg #[.int .i64 2, .int .i64 2]) rfl rfl ?_ ?_
  · intro a wq hw hl
    have e24 : a.tmps[24]?.getD undef = .int .i64 2 := hl 24 (by first | (simp [Op.operands]; done) | simp [Op.operands, Call.operands]) (by rw [HS.out]; decide)
    have e26 : a.tmps[26]?.getD undef = .int .i64 2 := hl 26 (by first | (simp [Op.operands]; done) | simp [Op.operands, Call.operands]) (by rw [HS.out]; decide)
    clear hl
    go_simp
  -- slot 28
  refine kFacts_step (RuleK (strictF sumF)) rfl rfl (RuleK.lasts (strictF sumF)) ?_ ?_
  · intro a wq hw hl
    have e22 : a.tmps[22]?.getD undef = .func (.func 98) #[] #[.pointer (some ⟨p0, 0, none⟩)] := hl 22 (by first | (simp [Op.operands]; done) | simp [Op.operands, Call.operands]) (by rw [HS.out]; decide)
    have e27 : a.tmps[27]?.getD undef = .agg #[.int .i64 2, .int .i64 2] := hl 27 (by first | (simp [Op.operands]; done) | simp [Op.operands, Call.operands]) (by rw [HS.out]; decide)
    clear hl
    go_simp
    exact ⟨gb_refl _ none, (ruleOf_ints p0 _ (H0.out.gb (gb_trans HGW.out (Keeps.grown hw HSW.out) (.inl rfl)))).mono fun _ _ ⟨g, h1, h2, h3⟩ => ⟨_, h1, h3, g, _, rfl, h2⟩⟩
  -- slot 19
  refine kFacts_step (RuleK (strictF sumF)) rfl rfl (RuleK.lasts (strictF sumF)) ?_ ?_
  · intro a wq hw hl
    have h28 : (RuleK (strictF sumF)) (a.tmps[28]?.getD undef) wq := hl 28 (by first | (simp [Op.operands]; done) | simp [Op.operands, Call.operands]) (by rw [HS.out]; decide)
    obtain ⟨g, k, e28, hS⟩ := h28
    clear hl
    go_simp
    exact ⟨gb_refl _ none, g, k, rfl, hS⟩
  -- slot 29
  refine kFacts_step (RuleG (strictF sumF)) rfl rfl (RuleG.lasts (strictF sumF)) ?_ ?_
  · intro a wq hw hl
    have h19 : (RuleK (strictF sumF)) (a.tmps[19]?.getD undef) wq := hl 19 (by first | (simp [Op.operands]; done) | simp [Op.operands, Call.operands]) (by rw [HS.out]; decide)
    obtain ⟨g, k, e19, hS⟩ := h19
    clear hl
    go_simp
    exact ⟨gb_refl _ none, g, k, rfl, hS⟩
  -- slot 30
  refine kFacts_lit (.bool true) rfl rfl ?_ ?_
  · intro a wq hw hl
    have h19 : (RuleK (strictF sumF)) (a.tmps[19]?.getD undef) wq := hl 19 (by first | (simp [Op.operands]; done) | simp [Op.operands, Call.operands]) (by rw [HS.out]; decide)
    obtain ⟨g, k, e19, _⟩ := h19
    clear hl
    go_simp
  -- slot 9
  refine kFacts_step (BoxF wc.heap.size #[.int .i64 0, Value.nilFunc, Value.nilFunc] 68) rfl rfl (BoxF.lasts9 _ _ _) ?_ ?_
  · intro a wq hw hl
    clear hl
    go_simp
    exact BoxF.new _ _ (Nat.le_trans HGW.out.size hw.size)
  -- slot 99
  refine kFacts_store (RuleB wc.heap.size (strictF sumF)) rfl rfl (RuleB.up _ _) ?_ ?_
  · intro a wq hw hl
    have h9 : (BoxF wc.heap.size #[.int .i64 0, Value.nilFunc, Value.nilFunc] 68) (a.tmps[9]?.getD undef) wq := hl 9 (by first | (simp [Op.operands]; done) | simp [Op.operands, Call.operands]) (by rw [HS.out]; decide)
    obtain ⟨b, e9, hb9, hbs⟩ := h9
    have h29 : (RuleG (strictF sumF)) (a.tmps[29]?.getD undef) wq := hl 29 (by first | (simp [Op.operands]; done) | simp [Op.operands, Call.operands]) (by rw [HS.out]; decide)
    obtain ⟨g, k, e29, hS⟩ := h29
    have hst := storeCells_row (P := Tryz.prog) (c' := #[.int .i64 2, .func (.func 99) #[] #[.pointer (some ⟨g, 0, none⟩)], Value.nilFunc]) hb9 info3 rfl (by simp [Value.oneCell'])
    have hkp := Keeps.setRow (s := wc.heap.size) (Z := ZR) #[.int .i64 2, .func (.func 99) #[] #[.pointer (some ⟨g, 0, none⟩)], Value.nilFunc] hb9 hbs ⟨0, _, _, rfl, by decide⟩ ⟨2, _, _, rfl, by decide⟩
    have hrow := heap_setRow_at _ _ _ #[.int .i64 2, .func (.func 99) #[] #[.pointer (some ⟨g, 0, none⟩)], Value.nilFunc] _ _ hb9
    clear hl
    go_simp
    exact ⟨hkp, b, g, k, rfl, hbs, hrow, hS.keeps hkp⟩
  refine HL.out _ (fun a' w5 hc => ?_)
  have h9 : (RuleB wc.heap.size (strictF sumF)) (a'.eval (.tmp 9)) w5 := hc.fact 9 (by rw [HS.out]; decide)
  obtain ⟨b, g, k, e9, hbs, hb9, hS⟩ := h9
  have e30 : a'.eval (.tmp 30) = .bool true := hc.fact 30 (by rw [HS.out]; decide)
  have hgw5 := gb_trans HGW.out (Keeps.grown hc.grown HSW.out) (.inl rfl)
  have hfr := hc.frame [20, 21, 22, 23, 24, 25, 26, 27, 28, 19, 29, 30, 9, 10] (by rw [HO.out]; kernel_rfl)
  rw [hfr]
  clear hfr hc
  rw [HA.out]
  clear HA HO HL HW HS HGW HSW A0 A4 A5 A8
  clear A O W L
  simp only [List.drop_succ_cons, List.drop_zero, List.foldl_cons, List.foldl_nil, Act.put, List.setIfInBounds_toArray, List.set_cons_succ, List.set_cons_zero]
  rw [e9, e30]
  generalize a'.eval (.tmp 20) = x20
  generalize a'.eval (.tmp 21) = x21
  generalize a'.eval (.tmp 22) = x22
  generalize a'.eval (.tmp 23) = x23
  generalize a'.eval (.tmp 24) = x24
  generalize a'.eval (.tmp 25) = x25
  generalize a'.eval (.tmp 26) = x26
  generalize a'.eval (.tmp 27) = x27
  generalize a'.eval (.tmp 28) = x28
  generalize a'.eval (.tmp 19) = x19
  generalize a'.eval (.tmp 29) = x29
  generalize a'.eval (.tmp 10) = x10
  clear e9 e30
  clear a'
  have HG5 := hide (gb_trans HG.out hgw5 (.inl rfl))
  have HDC := hide (HDO.out g k w5 HG5.out hS)
  have hx5 := HCX.out.gb hgw5
  have hy5 := HCY.out.gb hgw5
  have HBZ5 := hide (blk_keep HBZ.out (gb_trans HGC.out hgw5 (.inl rfl)) (by simp))
  have r0 : w5.cell? ⟨b, 0, none⟩ = some (.int .i64 2) := by rw [blk_cell hb9]; rfl
  have r1 : w5.cell? ⟨b, 1, none⟩ = some (.func (.func 99) #[] #[.pointer (some ⟨g, 0, none⟩)]) := by rw [blk_cell hb9]; rfl
  have r2 : w5.cell? ⟨b, 2, none⟩ = some Value.nilFunc := by rw [blk_cell hb9]; rfl
  obtain ⟨x0, x1, x2, x3⟩ := hx5
  obtain ⟨y0, y1, y2, y3⟩ := hy5
  clear hS hgw5 hbs hb9 HDO H0 HB8 HKX HKY HBX HBY HBZ HCX HCY HGC HG
  cases hdo : doI (strictF sumF) x y with
  | error ek =>
    rw [hdo] at HDC
    go_wp2_with (go_at_call 45; refine HDC.out.mono ?_; rintro e wn ⟨hgn, rfl⟩; have HGN := hide (gb_trans HG5.out hgn (.inl rfl)); have hbz := blk_keep HBZ5.out hgn (by simp); have HZ := hide hbz; have hst := storeCells_row (P := Tryz.prog) (c' := #[.int .i64 0, .slice none 0 0, .slice none 0 0, .slice none 0 0]) hbz info4 rfl (by simp [Value.oneCell']); clear hgn hbz)
    have hrow := heap_setRow_at _ _ _ #[.int .i64 0, .slice none 0 0, .slice none 0 0, .slice none 0 0] _ _ HZ.out
    have m0 := blk_cell hrow 0
    have m1 := blk_cell hrow 1
    have m2 := blk_cell hrow 2
    have m3 := blk_cell hrow 3
    simp only [List.getElem?_toArray, List.getElem?_cons_zero, List.getElem?_cons_succ] at m0 m1 m2 m3
    exact bodyPost_ret (v := .tuple #[.agg #[.int .i64 0, .slice none 0 0, .slice none 0 0, .slice none 0 0], .int .i64 ek]) (by simp [results, Tryz.results20, go_sem, m0, m1, m2, m3]) rfl ⟨gb_setRow HGN.out _ _ (by omega), by rw [hdo]⟩
  | ok tl =>
    obtain ⟨t, l⟩ := tl
    rw [hdo] at HDC
    go_wp2_with (go_at_call 45; refine HDC.out.mono ?_; rintro e wn ⟨hgn, A, c, hlc, rfl, ho⟩; have HGN := hide (gb_trans HG5.out hgn (.inl rfl)); have hbz := blk_keep HBZ5.out hgn (by simp); have HZ := hide hbz; have HO := hide ho; have HLC := hide hlc; have hst := storeCells_row (P := Tryz.prog) (c' := #[.int .i64 t, .slice A l.length c, .slice none 0 0, .slice none 0 0]) hbz info4 rfl (by simp [Value.oneCell']); clear hgn hbz ho hlc)
    have hrow := heap_setRow_at _ _ _ #[.int .i64 t, .slice A l.length c, .slice none 0 0, .slice none 0 0] _ _ HZ.out
    have m0 := blk_cell hrow 0
    have m1 := blk_cell hrow 1
    have m2 := blk_cell hrow 2
    have m3 := blk_cell hrow 3
    simp only [List.getElem?_toArray, List.getElem?_cons_zero, List.getElem?_cons_succ] at m0 m1 m2 m3
    have hon := own_low (HO.out.kept (gb_setRow_own wn (w.heap.size + 2) #[.int .i64 t, .slice A l.length c, .slice none 0 0, .slice none 0 0]) (.inr (own_ne HO.out HZ.out (by decide)))) HG5.out.size
    exact bodyPost_ret (v := .tuple #[.agg #[.int .i64 t, .slice A l.length c, .slice none 0 0, .slice none 0 0], .int .i64 0]) (by simp [results, Tryz.results20, go_sem, m0, m1, m2, m3]) rfl ⟨gb_setRow HGN.out _ _ (by omega), by rw [hdo]; exact ⟨A, c, HLC.out, rfl, hon⟩⟩
set_option maxHeartbeats 4000000 in
set_option maxRecDepth 100000 in
theorem do_divide (x y : Vl) (w : World) (B : Nat) (nA : Option Addr) (nc : Nat) (sA : Option Addr) (sc : Nat) (lA : Option Addr) (lc : Nat) (mA : Option Addr) (mc : Nat) (tA : Option Addr) (tc : Nat) (kA : Option Addr) (kc : Nat)
    (hx : IntV x) (hy : IntV y) (hB : B ≤ w.heap.size) (vx : VB w B x nA nc sA sc lA lc) (vy : VB w B y mA mc tA tc kA kc) :
    Calls Tryz.prog 20 #[.int .i64 3, .agg #[.int .i64 x.t, .slice nA x.n.length nc, .slice sA x.s.length sc, .slice lA x.l.length lc], .agg #[.int .i64 y.t, .slice mA y.n.length mc, .slice tA y.s.length tc, .slice kA y.l.length kc]] w (DoR (doI (strictF quoF) x y) w) := by
  obtain ⟨wa, hwa⟩ : ∃ wa, wa = ((w.alloc (.cells #[.int .i64 x.t, .slice nA x.n.length nc, .slice sA x.s.length sc, .slice lA x.l.length lc] 26)).alloc (.cells #[.int .i64 y.t, .slice mA y.n.length mc, .slice tA y.s.length tc, .slice kA y.l.length kc] 26)).alloc (.cells #[.int .i64 0, .slice none 0 0, .slice none 0 0, .slice none 0 0] 26) := ⟨_, rfl⟩
  have bx : wa.heap[w.heap.size]? = some (.cells #[.int .i64 x.t, .slice nA x.n.length nc, .slice sA x.s.length sc, .slice lA x.l.length lc] 26 (0, 0)) := by rw [hwa]; exact (Below.heap_alloc _ _ _ (by rw [World.size_alloc, World.size_alloc]; omega)).trans ((Below.heap_alloc _ _ _ (by rw [World.size_alloc]; omega)).trans (heap_alloc_new w _))
  have by_ : wa.heap[w.heap.size + 1]? = some (.cells #[.int .i64 y.t, .slice mA y.n.length mc, .slice tA y.s.length tc, .slice kA y.l.length kc] 26 (0, 0)) := by rw [hwa]; exact (Below.heap_alloc _ _ _ (by rw [World.size_alloc, World.size_alloc]; omega)).trans (by have := heap_alloc_new (w.alloc (.cells #[.int .i64 x.t, .slice nA x.n.length nc, .slice sA x.s.length sc, .slice lA x.l.length lc] 26)) (.cells #[.int .i64 y.t, .slice mA y.n.length mc, .slice tA y.s.length tc, .slice kA y.l.length kc] 26); rwa [World.size_alloc] at this)
  have bz : wa.heap[w.heap.size + 2]? = some (.cells #[.int .i64 0, .slice none 0 0, .slice none 0 0, .slice none 0 0] 26 (0, 0)) := by rw [hwa]; have := heap_alloc_new ((w.alloc (.cells #[.int .i64 x.t, .slice nA x.n.length nc, .slice sA x.s.length sc, .slice lA x.l.length lc] 26)).alloc (.cells #[.int .i64 y.t, .slice mA y.n.length mc, .slice tA y.s.length tc, .slice kA y.l.length kc] 26)) (.cells #[.int .i64 0, .slice none 0 0, .slice none 0 0, .slice none 0 0] 26); rwa [World.size_alloc, World.size_alloc] at this
  have HBX := hide bx
  have HBY := hide by_
  have HBZ := hide bz
  have HGA := hide (show w.grownBy wa none by rw [hwa]; exact gb_alloc (gb_alloc (gb_alloc (gb_refl w none) _) _) _)
  have HWE := hide hwa
  have HKX := hide (kindO_int hx)
  have HKY := hide (kindO_int hy)
  have HDO := hide (fun (g k : Nat) (w2 : World) (hg : w.grownBy w2 none) (hS : StrF k w2 g (strictF quoF)) => do_ints (strictF quoF) g k x y w2 B nA nc sA sc lA lc mA mc tA tc kA kc hx hy (Nat.le_trans hB hg.size) (vx.gb hg hB) (vy.gb hg hB) hS)
  clear bx by_ bz hwa hx hy hB vx vy
  go_enter Tryz.func20, Tryz.ntmps20
  go_wp2_with fail
  rw [← HWE.out]
  go_wp2_with (go_at_call 42; refine (ops_any _).mono ?_; rintro e wb ⟨p0, p1, p2, p3, p4, p5, p6, p7, p8, p9, rfl, hc0, hc3, hc4, hgb⟩; have HC0 := hide hc0; have HC3 := hide hc3; have HC4 := hide hc4; have HGB := hide (gb_trans HGA.out hgb (.inl rfl)); have HG1 := hide hgb; have hst := ops_store (heap_alloc_new wb (.cells #[Value.nilFunc, Value.nilFunc, Value.nilFunc, Value.nilFunc, Value.nilFunc, Value.nilFunc, Value.nilFunc, Value.nilFunc, Value.nilFunc, Value.nilFunc] 63)) p0 p1 p2 p3 p4 p5 p6 p7 p8 p9; rw [World.setRow_alloc_new] at hst; clear hc0 hc3 hc4 hgb)
  clear hst
  obtain ⟨wc, hwc⟩ : ∃ wc, wc = wb.alloc (.cells #[.func (.func 98) #[] #[.pointer (some ⟨p0, 0, none⟩)], .func (.func 98) #[] #[.pointer (some ⟨p1, 0, none⟩)], .func (.func 98) #[] #[.pointer (some ⟨p2, 0, none⟩)], .func (.func 98) #[] #[.pointer (some ⟨p3, 0, none⟩)], .func (.func 98) #[] #[.pointer (some ⟨p4, 0, none⟩)], .func (.func 106) #[] #[.pointer (some ⟨p5, 0, none⟩)], .func (.func 106) #[] #[.pointer (some ⟨p6, 0, none⟩)], .func (.func 107) #[] #[.pointer (some ⟨p7, 0, none⟩)], .func (.func 107) #[] #[.pointer (some ⟨p8, 0, none⟩)], .func (.func 107) #[] #[.pointer (some ⟨p9, 0, none⟩)]] 63) := ⟨_, rfl⟩
  rw [← hwc]
  have hgc : wb.grownBy wc none := by rw [hwc]; exact gb_alloc (gb_refl wb none) _
  have HB8 := hide (show wc.heap[wb.heap.size]? = some (.cells #[.func (.func 98) #[] #[.pointer (some ⟨p0, 0, none⟩)], .func (.func 98) #[] #[.pointer (some ⟨p1, 0, none⟩)], .func (.func 98) #[] #[.pointer (some ⟨p2, 0, none⟩)], .func (.func 98) #[] #[.pointer (some ⟨p3, 0, none⟩)], .func (.func 98) #[] #[.pointer (some ⟨p4, 0, none⟩)], .func (.func 106) #[] #[.pointer (some ⟨p5, 0, none⟩)], .func (.func 106) #[] #[.pointer (some ⟨p6, 0, none⟩)], .func (.func 107) #[] #[.pointer (some ⟨p7, 0, none⟩)], .func (.func 107) #[] #[.pointer (some ⟨p8, 0, none⟩)], .func (.func 107) #[] #[.pointer (some ⟨p9, 0, none⟩)]] 63 (0, 0)) by rw [hwc]; exact heap_alloc_new wb _)
  have HG := hide (gb_trans HGB.out hgc (.inl rfl))
  have HGC := hide (gb_trans HG1.out hgc (.inl rfl))
  have H3 : Hid (OpC wc p3 (strictF quoF)) := hide (opC_divide (cell_gb HC3.out hgc))
  have HCX := hide (show C4 wc w.heap.size 0 (.int .i64 x.t) (.slice nA x.n.length nc) (.slice sA x.s.length sc) (.slice lA x.l.length lc) by have h := blk_keep HBX.out HGC.out (by simp); exact ⟨by rw [blk_cell h]; rfl, by rw [blk_cell h]; rfl, by rw [blk_cell h]; rfl, by rw [blk_cell h]; rfl⟩)
  have HCY := hide (show C4 wc (w.heap.size + 1) 0 (.int .i64 y.t) (.slice mA y.n.length mc) (.slice tA y.s.length tc) (.slice kA y.l.length kc) by have h := blk_keep HBY.out HGC.out (by simp); exact ⟨by rw [blk_cell h]; rfl, by rw [blk_cell h]; rfl, by rw [blk_cell h]; rfl, by rw [blk_cell h]; rfl⟩)
  obtain ⟨b8, hb8⟩ : ∃ b8, b8 = wb.heap.size := ⟨_, rfl⟩
  rw [← hb8] at HB8 ⊢
  clear hgc hwc hb8 HC0 HC3 HC4 HGA HGB HG1 HWE
  refine wp_region_kfacts (grK wc.heap.size ZR) 14 9 (by kernel_rfl) (by kernel_rfl) (by kernel_rfl) ?_
  intro A O W L HA HO HW HL
  simp only [List.take_succ_cons, List.take_zero]
  have HS := hide (show A.tmps.size = 40 by rw [HA.out]; rfl)
  have HGW := hide (show wc.grownBy W none by rw [HW.out]; exact gb_drew (gb_refl wc none))
  have HSW := hide (show W.heap.size ≤ wc.heap.size by rw [HW.out]; exact Nat.le_refl _)
  have A0 := hide (show A.eval (.tmp 0) = .int .i64 3 by rw [HA.out]; rfl)
  have A4 := hide (show A.eval (.tmp 4) = .pointer (some ⟨w.heap.size, 0, none⟩) by rw [HA.out]; rfl)
  have A5 := hide (show A.eval (.tmp 5) = .pointer (some ⟨w.heap.size + 1, 0, none⟩) by rw [HA.out]; rfl)
  have A8 := hide (show A.eval (.tmp 8) = .pointer (some ⟨b8, 0, none⟩) by rw [HA.out]; rfl)
  -- slot 20
  refine kFacts_lit (.int .i64 3) rfl rfl ?_ ?_
  · intro a wq hw hl
    have e0 : a.tmps[0]?.getD undef = .int .i64 3 := (hl 0 (by first | (simp [Op.operands]; done) | simp [Op.operands, Call.operands]) (by rw [HS.out]; decide)).trans A0.out
    clear hl
    go_simp
  -- slot 21
  refine kFacts_lit (.pointer (some ⟨b8, 3, none⟩)) rfl rfl ?_ ?_
  · intro a wq hw hl
    have e8 : a.tmps[8]?.getD undef = .pointer (some ⟨b8, 0, none⟩) := (hl 8 (by first | (simp [Op.operands]; done) | simp [Op.operands, Call.operands]) (by rw [HS.out]; decide)).trans A8.out
    have e20 : a.tmps[20]?.getD undef = .int .i64 3 := hl 20 (by first | (simp [Op.operands]; done) | simp [Op.operands, Call.operands]) (by rw [HS.out]; decide)
    clear hl
    go_simp
  -- slot 22
  refine kFacts_lit (.func (.func 98) #[] #[.pointer (some ⟨p3, 0, none⟩)]) rfl rfl ?_ ?_
  · intro a wq hw hl
    have e21 : a.tmps[21]?.getD undef = .pointer (some ⟨b8, 3, none⟩) := hl 21 (by first | (simp [Op.operands]; done) | simp [Op.operands, Call.operands]) (by rw [HS.out]; decide)
    have hk := blk_keep HB8.out (gb_trans HGW.out (Keeps.grown hw HSW.out) (.inl rfl)) (by simp)
    have ck : wq.cell? ⟨b8, 3, none⟩ = some (.func (.func 98) #[] #[.pointer (some ⟨p3, 0, none⟩)]) := by rw [blk_cell hk]; rfl
    clear hk
    clear hl
    go_simp
  -- slot 23
  refine kFacts_lit (.agg #[.int .i64 x.t, .slice nA x.n.length nc, .slice sA x.s.length sc, .slice lA x.l.length lc]) rfl rfl ?_ ?_
  · intro a wq hw hl
    have e4 : a.tmps[4]?.getD undef = .pointer (some ⟨w.heap.size, 0, none⟩) := (hl 4 (by first | (simp [Op.operands]; done) | simp [Op.operands, Call.operands]) (by rw [HS.out]; decide)).trans A4.out
    obtain ⟨c0, c1, c2, c3⟩ := HCX.out.gb (gb_trans HGW.out (Keeps.grown hw HSW.out) (.inl rfl))
    clear hl
    go_simp
  -- slot 24
  refine kFacts_step (fun vq _ => vq = .int .i64 2) rfl rfl (Lasts.lit _) ?_ ?_
  · intro a wq hw hl
    have e23 : a.tmps[23]?.getD undef = .agg #[.int .i64 x.t, .slice nA x.n.length nc, .slice sA x.s.length sc, .slice lA x.l.length lc] := hl 23 (by first | (simp [Op.operands]; done) | simp [Op.operands, Call.operands]) (by rw [HS.out]; decide)
    clear hl
    go_simp
    exact gUpon_lit ((kind_any _ _ _ _ _ _ _ _ _).mono fun _ _ h => ⟨h.1.trans (by rw [HKX.out]), h.2⟩)
  -- slot 25
  refine kFacts_lit (.agg #[.int .i64 y.t, .slice mA y.n.length mc, .slice tA y.s.length tc, .slice kA y.l.length kc]) rfl rfl ?_ ?_
  · intro a wq hw hl
    have e5 : a.tmps[5]?.getD undef = .pointer (some ⟨w.heap.size + 1, 0, none⟩) := (hl 5 (by first | (simp [Op.operands]; done) | simp [Op.operands, Call.operands]) (by rw [HS.out]; decide)).trans A5.out
    obtain ⟨c0, c1, c2, c3⟩ := HCY.out.gb (gb_trans HGW.out (Keeps.grown hw HSW.out) (.inl rfl))
    clear hl
    go_simp
  -- slot 26
  refine kFacts_step (fun vq _ => vq = .int .i64 2) rfl rfl (Lasts.lit _) ?_ ?_
  · intro a wq hw hl
    have e25 : a.tmps[25]?.getD undef = .agg #[.int .i64 y.t, .slice mA y.n.length mc, .slice tA y.s.length tc, .slice kA y.l.length kc] := hl 25 (by first | (simp [Op.operands]; done) | simp [Op.operands, Call.operands]) (by rw [HS.out]; decide)
    clear hl
    go_simp
    exact gUpon_lit ((kind_any _ _ _ _ _ _ _ _ _).mono fun _ _ h => ⟨h.1.trans (by rw [HKY.out]), h.2⟩)
  -- slot 27
  refine kFacts_lit (.agg #[.int .i64 2, .int .i64 2]) rfl rfl ?_ ?_
  · intro a wq hw hl
    have e24 : a.tmps[24]?.getD undef = .int .i64 2 := hl 24 (by first | (simp [Op.operands]; done) | simp [Op.operands, Call.operands]) (by rw [HS.out]; decide)
    have e26 : a.tmps[26]?.getD undef = .int .i64 2 := hl 26 (by first | (simp [Op.operands]; done) | simp [Op.operands, Call.operands]) (by rw [HS.out]; decide)
    clear hl
    go_simp
  -- slot 28
  refine kFacts_step (RuleK (strictF quoF)) rfl rfl (RuleK.lasts (strictF quoF)) ?_ ?_
  · intro a wq hw hl
    have e22 : a.tmps[22]?.getD undef = .func (.func 98) #[] #[.pointer (some ⟨p3, 0, none⟩)] := hl 22 (by first | (simp [Op.operands]; done) | simp [Op.operands, Call.operands]) (by rw [HS.out]; decide)
    have e27 : a.tmps[27]?.getD undef = .agg #[.int .i64 2, .int .i64 2] := hl 27 (by first | (simp [Op.operands]; done) | simp [Op.operands, Call.operands]) (by rw [HS.out]; decide)
    clear hl
    go_simp
    exact ⟨gb_refl _ none, (ruleOf_ints p3 _ (H3.out.gb (gb_trans HGW.out (Keeps.grown hw HSW.out) (.inl rfl)))).mono fun _ _ ⟨g, h1, h2, h3⟩ => ⟨_, h1, h3, g, _, rfl, h2⟩⟩
  -- slot 19
  refine kFacts_step (RuleK (strictF quoF)) rfl rfl (RuleK.lasts (strictF quoF)) ?_ ?_
  · intro a wq hw hl
    have h28 : (RuleK (strictF quoF)) (a.tmps[28]?.getD undef) wq := hl 28 (by first | (simp [Op.operands]; done) | simp [Op.operands, Call.operands]) (by rw [HS.out]; decide)
    obtain ⟨g, k, e28, hS⟩ := h28
    clear hl
    go_simp
    exact ⟨gb_refl _ none, g, k, rfl, hS⟩
  -- slot 29
  refine kFacts_step (RuleG (strictF quoF)) rfl rfl (RuleG.lasts (strictF quoF)) ?_ ?_
  · intro a wq hw hl
    have h19 : (RuleK (strictF quoF)) (a.tmps[19]?.getD undef) wq := hl 19 (by first | (simp [Op.operands]; done) | simp [Op.operands, Call.operands]) (by rw [HS.out]; decide)
    obtain ⟨g, k, e19, hS⟩ := h19
    clear hl
    go_simp
    exact ⟨gb_refl _ none, g, k, rfl, hS⟩
  -- slot 30
  refine kFacts_lit (.bool true) rfl rfl ?_ ?_
  · intro a wq hw hl
    have h19 : (RuleK (strictF quoF)) (a.tmps[19]?.getD undef) wq := hl 19 (by first | (simp [Op.operands]; done) | simp [Op.operands, Call.operands]) (by rw [HS.out]; decide)
    obtain ⟨g, k, e19, _⟩ := h19
    clear hl
    go_simp
  -- slot 9
  refine kFacts_step (BoxF wc.heap.size #[.int .i64 0, Value.nilFunc, Value.nilFunc] 68) rfl rfl (BoxF.lasts9 _ _ _) ?_ ?_
  · intro a wq hw hl
    clear hl
    go_simp
    exact BoxF.new _ _ (Nat.le_trans HGW.out.size hw.size)
  -- slot 99
  refine kFacts_store (RuleB wc.heap.size (strictF quoF)) rfl rfl (RuleB.up _ _) ?_ ?_
  · intro a wq hw hl
    have h9 : (BoxF wc.heap.size #[.int .i64 0, Value.nilFunc, Value.nilFunc] 68) (a.tmps[9]?.getD undef) wq := hl 9 (by first | (simp [Op.operands]; done) | simp [Op.operands, Call.operands]) (by rw [HS.out]; decide)
    obtain ⟨b, e9, hb9, hbs⟩ := h9
    have h29 : (RuleG (strictF quoF)) (a.tmps[29]?.getD undef) wq := hl 29 (by first | (simp [Op.operands]; done) | simp [Op.operands, Call.operands]) (by rw [HS.out]; decide)
    obtain ⟨g, k, e29, hS⟩ := h29
    have hst := storeCells_row (P := Tryz.prog) (c' := #[.int .i64 2, .func (.func 99) #[] #[.pointer (some ⟨g, 0, none⟩)], Value.nilFunc]) hb9 info3 rfl (by simp [Value.oneCell'])
    have hkp := Keeps.setRow (s := wc.heap.size) (Z := ZR) #[.int .i64 2, .func (.func 99) #[] #[.pointer (some ⟨g, 0, none⟩)], Value.nilFunc] hb9 hbs ⟨0, _, _, rfl, by decide⟩ ⟨2, _, _, rfl, by decide⟩
    have hrow := heap_setRow_at _ _ _ #[.int .i64 2, .func (.func 99) #[] #[.pointer (some ⟨g, 0, none⟩)], Value.nilFunc] _ _ hb9
    clear hl
    go_simp
    exact ⟨hkp, b, g, k, rfl, hbs, hrow, hS.keeps hkp⟩
  refine HL.out _ (fun a' w5 hc => ?_)
  have h9 : (RuleB wc.heap.size (strictF quoF)) (a'.eval (.tmp 9)) w5 := hc.fact 9 (by rw [HS.out]; decide)
  obtain ⟨b, g, k, e9, hbs, hb9, hS⟩ := h9
  have e30 : a'.eval (.tmp 30) = .bool true := hc.fact 30 (by rw [HS.out]; decide)
  have hgw5 := gb_trans HGW.out (Keeps.grown hc.grown HSW.out) (.inl rfl)
  have hfr := hc.frame [20, 21, 22, 23, 24, 25, 26, 27, 28, 19, 29, 30, 9, 10] (by rw [HO.out]; kernel_rfl)
  rw [hfr]
  clear hfr hc
  rw [HA.out]
  clear HA HO HL HW HS HGW HSW A0 A4 A5 A8
  clear A O W L
  simp only [List.drop_succ_cons, List.drop_zero, List.foldl_cons, List.foldl_nil, Act.put, List.setIfInBounds_toArray, List.set_cons_succ, List.set_cons_zero]
  rw [e9, e30]
  generalize a'.eval (.tmp 20) = x20
  generalize a'.eval (.tmp 21) = x21
  generalize a'.eval (.tmp 22) = x22
  generalize a'.eval (.tmp 23) = x23
  generalize a'.eval (.tmp 24) = x24
  generalize a'.eval (.tmp 25) = x25
  generalize a'.eval (.tmp 26) = x26
  generalize a'.eval (.tmp 27) = x27
  generalize a'.eval (.tmp 28) = x28
  generalize a'.eval (.tmp 19) = x19
  generalize a'.eval (.tmp 29) = x29
  generalize a'.eval (.tmp 10) = x10
  clear e9 e30
  clear a'
  have HG5 := hide (gb_trans HG.out hgw5 (.inl rfl))
  have HDC := hide (HDO.out g k w5 HG5.out hS)
  have hx5 := HCX.out.gb hgw5
  have hy5 := HCY.out.gb hgw5
  have HBZ5 := hide (blk_keep HBZ.out (gb_trans HGC.out hgw5 (.inl rfl)) (by simp))
  have r0 : w5.cell? ⟨b, 0, none⟩ = some (.int .i64 2) := by rw [blk_cell hb9]; rfl
  have r1 : w5.cell? ⟨b, 1, none⟩ = some (.func (.func 99) #[] #[.pointer (some ⟨g, 0, none⟩)]) := by rw [blk_cell hb9]; rfl
  have r2 : w5.cell? ⟨b, 2, none⟩ = some Value.nilFunc := by rw [blk_cell hb9]; rfl
  obtain ⟨x0, x1, x2, x3⟩ := hx5
  obtain ⟨y0, y1, y2, y3⟩ := hy5
  clear hS hgw5 hbs hb9 HDO H3 HB8 HKX HKY HBX HBY HBZ HCX HCY HGC HG
  cases hdo : doI (strictF quoF) x y with
  | error ek =>
    rw [hdo] at HDC
    go_wp2_with (go_at_call 45; refine HDC.out.mono ?_; rintro e wn ⟨hgn, rfl⟩; have HGN := hide (gb_trans HG5.out hgn (.inl rfl)); have hbz := blk_keep HBZ5.out hgn (by simp); have HZ := hide hbz; have hst := storeCells_row (P := Tryz.prog) (c' := #[.int .i64 0, .slice none 0 0, .slice none 0 0, .slice none 0 0]) hbz info4 rfl (by simp [Value.oneCell']); clear hgn hbz)
    have hrow := heap_setRow_at _ _ _ #[.int .i64 0, .slice none 0 0, .slice none 0 0, .slice none 0 0] _ _ HZ.out
    have m0 := blk_cell hrow 0
    have m1 := blk_cell hrow 1
    have m2 := blk_cell hrow 2
    have m3 := blk_cell hrow 3
    simp only [List.getElem?_toArray, List.getElem?_cons_zero, List.getElem?_cons_succ] at m0 m1 m2 m3
    exact bodyPost_ret (v := .tuple #[.agg #[.int .i64 0, .slice none 0 0, .slice none 0 0, .slice none 0 0], .int .i64 ek]) (by simp [results, Tryz.results20, go_sem, m0, m1, m2, m3]) rfl ⟨gb_setRow HGN.out _ _ (by omega), by rw [hdo]⟩
  | ok tl =>
    obtain ⟨t, l⟩ := tl
    rw [hdo] at HDC
    go_wp2_with (go_at_call 45; refine HDC.out.mono ?_; rintro e wn ⟨hgn, A, c, hlc, rfl, ho⟩; have HGN := hide (gb_trans HG5.out hgn (.inl rfl)); have hbz := blk_keep HBZ5.out hgn (by simp); have HZ := hide hbz; have HO := hide ho; have HLC := hide hlc; have hst := storeCells_row (P := Tryz.prog) (c' := #[.int .i64 t, .slice A l.length c, .slice none 0 0, .slice none 0 0]) hbz info4 rfl (by simp [Value.oneCell']); clear hgn hbz ho hlc)
    have hrow := heap_setRow_at _ _ _ #[.int .i64 t, .slice A l.length c, .slice none 0 0, .slice none 0 0] _ _ HZ.out
    have m0 := blk_cell hrow 0
    have m1 := blk_cell hrow 1
    have m2 := blk_cell hrow 2
    have m3 := blk_cell hrow 3
    simp only [List.getElem?_toArray, List.getElem?_cons_zero, List.getElem?_cons_succ] at m0 m1 m2 m3
    have hon := own_low (HO.out.kept (gb_setRow_own wn (w.heap.size + 2) #[.int .i64 t, .slice A l.length c, .slice none 0 0, .slice none 0 0]) (.inr (own_ne HO.out HZ.out (by decide)))) HG5.out.size
    exact bodyPost_ret (v := .tuple #[.agg #[.int .i64 t, .slice A l.length c, .slice none 0 0, .slice none 0 0], .int .i64 0]) (by simp [results, Tryz.results20, go_sem, m0, m1, m2, m3]) rfl ⟨gb_setRow HGN.out _ _ (by omega), by rw [hdo]; exact ⟨A, c, HLC.out, rfl, hon⟩⟩
set_option maxHeartbeats 4000000 in
set_option maxRecDepth 100000 in
theorem do_modulo (x y : Vl) (w : World) (B : Nat) (nA : Option Addr) (nc : Nat) (sA : Option Addr) (sc : Nat) (lA : Option Addr) (lc : Nat) (mA : Option Addr) (mc : Nat) (tA : Option Addr) (tc : Nat) (kA : Option Addr) (kc : Nat)
    (hx : IntV x) (hy : IntV y) (hB : B ≤ w.heap.size) (vx : VB w B x nA nc sA sc lA lc) (vy : VB w B y mA mc tA tc kA kc) :
    Calls Tryz.prog 20 #[.int .i64 4, .agg #[.int .i64 x.t, .slice nA x.n.length nc, .slice sA x.s.length sc, .slice lA x.l.length lc], .agg #[.int .i64 y.t, .slice mA y.n.length mc, .slice tA y.s.length tc, .slice kA y.l.length kc]] w (DoR (doI (strictF remF) x y) w) := by
  obtain ⟨wa, hwa⟩ : ∃ wa, wa = ((w.alloc (.cells #[.int .i64 x.t, .slice nA x.n.length nc, .slice sA x.s.length sc, .slice lA x.l.length lc] 26)).alloc (.cells #[.int .i64 y.t, .slice mA y.n.length mc, .slice tA y.s.length tc, .slice kA y.l.length kc] 26)).alloc (.cells #[.int .i64 0, .slice none 0 0, .slice none 0 0, .slice none 0 0] 26) := ⟨_, rfl⟩
  have bx : wa.heap[w.heap.size]? = some (.cells #[.int .i64 x.t, .slice nA x.n.length nc, .slice sA x.s.length sc, .slice lA x.l.length lc] 26 (0, 0)) := by rw [hwa]; exact (Below.heap_alloc _ _ _ (by rw [World.size_alloc, World.size_alloc]; omega)).trans ((Below.heap_alloc _ _ _ (by rw [World.size_alloc]; omega)).trans (heap_alloc_new w _))
  have by_ : wa.heap[w.heap.size + 1]? = some (.cells #[.int .i64 y.t, .slice mA y.n.length mc, .slice tA y.s.length tc, .slice kA y.l.length kc] 26 (0, 0)) := by rw [hwa]; exact (Below.heap_alloc _ _ _ (by rw [World.size_alloc, World.size_alloc]; omega)).trans (by have := heap_alloc_new (w.alloc (.cells #[.int .i64 x.t, .slice nA x.n.length nc, .slice sA x.s.length sc, .slice lA x.l.length lc] 26)) (.cells #[.int .i64 y.t, .slice mA y.n.length mc, .slice tA y.s.length tc, .slice kA y.l.length kc] 26); rwa [World.size_alloc] at this)
  have bz : wa.heap[w.heap.size + 2]? = some (.cells #[.int .i64 0, .slice none 0 0, .slice none 0 0, .slice none 0 0] 26 (0, 0)) := by rw [hwa]; have := heap_alloc_new ((w.alloc (.cells #[.int .i64 x.t, .slice nA x.n.length nc, .slice sA x.s.length sc, .slice lA x.l.length lc] 26)).alloc (.cells #[.int .i64 y.t, .slice mA y.n.length mc, .slice tA y.s.length tc, .slice kA y.l.length kc] 26)) (.cells #[.int .i64 0, .slice none 0 0, .slice none 0 0, .slice none 0 0] 26); rwa [World.size_alloc, World.size_alloc] at this
  have HBX := hide bx
  have HBY := hide by_
  have HBZ := hide bz
  have HGA := hide (show w.grownBy wa none by rw [hwa]; exact gb_alloc (gb_alloc (gb_alloc (gb_refl w none) _) _) _)
  have HWE := hide hwa
  have HKX := hide (kindO_int hx)
  have HKY := hide (kindO_int hy)
  have HDO := hide (fun (g k : Nat) (w2 : World) (hg : w.grownBy w2 none) (hS : StrF k w2 g (strictF remF)) => do_ints (strictF remF) g k x y w2 B nA nc sA sc lA lc mA mc tA tc kA kc hx hy (Nat.le_trans hB hg.size) (vx.gb hg hB) (vy.gb hg hB) hS)
  clear bx by_ bz hwa hx hy hB vx vy
  go_enter Tryz.func20, Tryz.ntmps20
  go_wp2_with fail
  rw [← HWE.out]
  go_wp2_with (go_at_call 42; refine (ops_any _).mono ?_; rintro e wb ⟨p0, p1, p2, p3, p4, p5, p6, p7, p8, p9, rfl, hc0, hc3, hc4, hgb⟩; have HC0 := hide hc0; have HC3 := hide hc3; have HC4 := hide hc4; have HGB := hide (gb_trans HGA.out hgb (.inl rfl)); have HG1 := hide hgb; have hst := ops_store (heap_alloc_new wb (.cells #[Value.nilFunc, Value.nilFunc, Value.nilFunc, Value.nilFunc, Value.nilFunc, Value.nilFunc, Value.nilFunc, Value.nilFunc, Value.nilFunc, Value.nilFunc] 63)) p0 p1 p2 p3 p4 p5 p6 p7 p8 p9; rw [World.setRow_alloc_new] at hst; clear hc0 hc3 hc4 hgb)
  clear hst
  obtain ⟨wc, hwc⟩ : ∃ wc, wc = wb.alloc (.cells #[.func (.func 98) #[] #[.pointer (some ⟨p0, 0, none⟩)], .func (.func 98) #[] #[.pointer (some ⟨p1, 0, none⟩)], .func (.func 98) #[] #[.pointer (some ⟨p2, 0, none⟩)], .func (.func 98) #[] #[.pointer (some ⟨p3, 0, none⟩)], .func (.func 98) #[] #[.pointer (some ⟨p4, 0, none⟩)], .func (.func 106) #[] #[.pointer (some ⟨p5, 0, none⟩)], .func (.func 106) #[] #[.pointer (some ⟨p6, 0, none⟩)], .func (.func 107) #[] #[.pointer (some ⟨p7, 0, none⟩)], .func (.func 107) #[] #[.pointer (some ⟨p8, 0, none⟩)], .func (.func 107) #[] #[.pointer (some ⟨p9, 0, none⟩)]] 63) := ⟨_, rfl⟩
  rw [← hwc]
  have hgc : wb.grownBy wc none := by rw [hwc]; exact gb_alloc (gb_refl wb none) _
  have HB8 := hide (show wc.heap[wb.heap.size]? = some (.cells #[.func (.func 98) #[] #[.pointer (some ⟨p0, 0, none⟩)], .func (.func 98) #[] #[.pointer (some ⟨p1, 0, none⟩)], .func (.func 98) #[] #[.pointer (some ⟨p2, 0, none⟩)], .func (.func 98) #[] #[.pointer (some ⟨p3, 0, none⟩)], .func (.func 98) #[] #[.pointer (some ⟨p4, 0, none⟩)], .func (.func 106) #[] #[.pointer (some ⟨p5, 0, none⟩)], .func (.func 106) #[] #[.pointer (some ⟨p6, 0, none⟩)], .func (.func 107) #[] #[.pointer (some ⟨p7, 0, none⟩)], .func (.func 107) #[] #[.pointer (some ⟨p8, 0, none⟩)], .func (.func 107) #[] #[.pointer (some ⟨p9, 0, none⟩)]] 63 (0, 0)) by rw [hwc]; exact heap_alloc_new wb _)
  have HG := hide (gb_trans HGB.out hgc (.inl rfl))
  have HGC := hide (gb_trans HG1.out hgc (.inl rfl))
  have H4 : Hid (OpC wc p4 (strictF remF)) := hide (opC_modulo (cell_gb HC4.out hgc))
  have HCX := hide (show C4 wc w.heap.size 0 (.int .i64 x.t) (.slice nA x.n.length nc) (.slice sA x.s.length sc) (.slice lA x.l.length lc) by have h := blk_keep HBX.out HGC.out (by simp); exact ⟨by rw [blk_cell h]; rfl, by rw [blk_cell h]; rfl, by rw [blk_cell h]; rfl, by rw [blk_cell h]; rfl⟩)
  have HCY := hide (show C4 wc (w.heap.size + 1) 0 (.int .i64 y.t) (.slice mA y.n.length mc) (.slice tA y.s.length tc) (.slice kA y.l.length kc) by have h := blk_keep HBY.out HGC.out (by simp); exact ⟨by rw [blk_cell h]; rfl, by rw [blk_cell h]; rfl, by rw [blk_cell h]; rfl, by rw [blk_cell h]; rfl⟩)
  obtain ⟨b8, hb8⟩ : ∃ b8, b8 = wb.heap.size := ⟨_, rfl⟩
  rw [← hb8] at HB8 ⊢
  clear hgc hwc hb8 HC0 HC3 HC4 HGA HGB HG1 HWE
  refine wp_region_kfacts (grK wc.heap.size ZR) 14 9 (by kernel_rfl) (by kernel_rfl) (by kernel_rfl) ?_
  intro A O W L HA HO HW HL
  simp only [List.take_succ_cons, List.take_zero]
  have HS := hide (show A.tmps.size = 40 by rw [HA.out]; rfl)
  have HGW := hide (show wc.grownBy W none by rw [HW.out]; exact gb_drew (gb_refl wc none))
  have HSW := hide (show W.heap.size ≤ wc.heap.size by rw [HW.out]; exact Nat.le_refl _)
  have A0 := hide (show A.eval (.tmp 0) = .int .i64 4 by rw [HA.out]; rfl)
  have A4 := hide (show A.eval (.tmp 4) = .pointer (some ⟨w.heap.size, 0, none⟩) by rw [HA.out]; rfl)
  have A5 := hide (show A.eval (.tmp 5) = .pointer (some ⟨w.heap.size + 1, 0, none⟩) by rw [HA.out]; rfl)
  have A8 := hide (show A.eval (.tmp 8) = .pointer (some ⟨b8, 0, none⟩) by rw [HA.out]; rfl)
  -- slot 20
  refine kFacts_lit (.int .i64 4) rfl rfl ?_ ?_
  · intro a wq hw hl
    have e0 : a.tmps[0]?.getD undef = .int .i64 4 := (hl 0 (by first | (simp [Op.operands]; done) | simp [Op.operands, Call.operands]) (by rw [HS.out]; decide)).trans A0.out
    clear hl
    go_simp
  -- slot 21
  refine kFacts_lit (.pointer (some ⟨b8, 4, none⟩)) rfl rfl ?_ ?_
  · intro a wq hw hl
    have e8 : a.tmps[8]?.getD undef = .pointer (some ⟨b8, 0, none⟩) := (hl 8 (by first | (simp [Op.operands]; done) | simp [Op.operands, Call.operands]) (by rw [HS.out]; decide)).trans A8.out
    have e20 : a.tmps[20]?.getD undef = .int .i64 4 := hl 20 (by first | (simp [Op.operands]; done) | simp [Op.operands, Call.operands]) (by rw [HS.out]; decide)
    clear hl
    go_simp
  -- slot 22
  refine kFacts_lit (.func (.func 98) #[] #[.pointer (some ⟨p4, 0, none⟩)]) rfl rfl ?_ ?_
  · intro a wq hw hl
    have e21 : a.tmps[21]?.getD undef = .pointer (some ⟨b8, 4, none⟩) := hl 21 (by first | (simp [Op.operands]; done) | simp [Op.operands, Call.operands]) (by rw [HS.out]; decide)
    have hk := blk_keep HB8.out (gb_trans HGW.out (Keeps.grown hw HSW.out) (.inl rfl)) (by simp)
    have ck : wq.cell? ⟨b8, 4, none⟩ = some (.func (.func 98) #[] #[.pointer (some ⟨p4, 0, none⟩)]) := by rw [blk_cell hk]; rfl
    clear hk
    clear hl
    go_simp
  -- slot 23
  refine kFacts_lit (.agg #[.int .i64 x.t, .slice nA x.n.length nc, .slice sA x.s.length sc, .slice lA x.l.length lc]) rfl rfl ?_ ?_
  · intro a wq hw hl
    have e4 : a.tmps[4]?.getD undef = .pointer (some ⟨w.heap.size, 0, none⟩) := (hl 4 (by first | (simp [Op.operands]; done) | simp [Op.operands, Call.operands]) (by rw [HS.out]; decide)).trans A4.out
    obtain ⟨c0, c1, c2, c3⟩ := HCX.out.gb (gb_trans HGW.out (Keeps.grown hw HSW.out) (.inl rfl))
    clear hl
    go_simp
  -- slot 24
  refine kFacts_step (fun vq _ => vq = .int .i64 2) rfl rfl (Lasts.lit _) ?_ ?_
  · intro a wq hw hl
    have e23 : a.tmps[23]?.getD undef = .agg #[.int .i64 x.t, .slice nA x.n.length nc, .slice sA x.s.length sc, .slice lA x.l.length lc] := hl 23 (by first | (simp [Op.operands]; done) | simp [Op.operands, Call.operands]) (by rw [HS.out]; decide)
    clear hl
    go_simp
    exact gUpon_lit ((kind_any _ _ _ _ _ _ _ _ _).mono fun _ _ h => ⟨h.1.trans (by rw [HKX.out]), h.2⟩)
  -- slot 25
  refine kFacts_lit (.agg #[.int .i64 y.t, .slice mA y.n.length mc, .slice tA y.s.length tc, .slice kA y.l.length kc]) rfl rfl ?_ ?_
  · intro a wq hw hl
    have e5 : a.tmps[5]?.getD undef = .pointer (some ⟨w.heap.size + 1, 0, none⟩) := (hl 5 (by first | (simp [Op.operands]; done) | simp [Op.operands, Call.operands]) (by rw [HS.out]; decide)).trans A5.out
    obtain ⟨c0, c1, c2, c3⟩ := HCY.out.gb (gb_trans HGW.out (Keeps.grown hw HSW.out) (.inl rfl))
    clear hl
    go_simp
  -- slot 26
  refine kFacts_step (fun vq _ => vq = .int .i64 2) rfl rfl (Lasts.lit _) ?_ ?_
  · intro a wq hw hl
    have e25 : a.tmps[25]?.getD undef = .agg #[.int .i64 y.t, .slice mA y.n.length mc, .slice tA y.s.length tc, .slice kA y.l.length kc] := hl 25 (by first | (simp [Op.operands]; done) | simp [Op.operands, Call.operands]) (by rw [HS.out]; decide)
    clear hl
    go_simp
    exact gUpon_lit ((kind_any _ _ _ _ _ _ _ _ _).mono fun _ _ h => ⟨h.1.trans (by rw [HKY.out]), h.2⟩)
  -- slot 27
  refine kFacts_lit (.agg #[.int .i64 2, .int .i64 2]) rfl rfl ?_ ?_
  · intro a wq hw hl
    have e24 : a.tmps[24]?.getD undef = .int .i64 2 := hl 24 (by first | (simp [Op.operands]; done) | simp [Op.operands, Call.operands]) (by rw [HS.out]; decide)
    have e26 : a.tmps[26]?.getD undef = .int .i64 2 := hl 26 (by first | (simp [Op.operands]; done) | simp [Op.operands, Call.operands]) (by rw [HS.out]; decide)
    clear hl
    go_simp
  -- slot 28
  refine kFacts_step (RuleK (strictF remF)) rfl rfl (RuleK.lasts (strictF remF)) ?_ ?_
  · intro a wq hw hl
    have e22 : a.tmps[22]?.getD undef = .func (.func 98) #[] #[.pointer (some ⟨p4, 0, none⟩)] := hl 22 (by first | (simp [Op.operands]; done) | simp [Op.operands, Call.operands]) (by rw [HS.out]; decide)
    have e27 : a.tmps[27]?.getD undef = .agg #[.int .i64 2, .int .i64 2] := hl 27 (by first | (simp [Op.operands]; done) | simp [Op.operands, Call.operands]) (by rw [HS.out]; decide)
    clear hl
    go_simp
    exact ⟨gb_refl _ none, (ruleOf_ints p4 _ (H4.out.gb (gb_trans HGW.out (Keeps.grown hw HSW.out) (.inl rfl)))).mono fun _ _ ⟨g, h1, h2, h3⟩ => ⟨_, h1, h3, g, _, rfl, h2⟩⟩
  -- slot 19
  refine kFacts_step (RuleK (strictF remF)) rfl rfl (RuleK.lasts (strictF remF)) ?_ ?_
  · intro a wq hw hl
    have h28 : (RuleK (strictF remF)) (a.tmps[28]?.getD undef) wq := hl 28 (by first | (simp [Op.operands]; done) | simp [Op.operands, Call.operands]) (by rw [HS.out]; decide)
    obtain ⟨g, k, e28, hS⟩ := h28
    clear hl
    go_simp
    exact ⟨gb_refl _ none, g, k, rfl, hS⟩
  -- slot 29
  refine kFacts_step (RuleG (strictF remF)) rfl rfl (RuleG.lasts (strictF remF)) ?_ ?_
  · intro a wq hw hl
    have h19 : (RuleK (strictF remF)) (a.tmps[19]?.getD undef) wq := hl 19 (by first | (simp [Op.operands]; done) | simp [Op.operands, Call.operands]) (by rw [HS.out]; decide)
    obtain ⟨g, k, e19, hS⟩ := h19
    clear hl
    go_simp
    exact ⟨gb_refl _ none, g, k, rfl, hS⟩
  -- slot 30
  refine kFacts_lit (.bool true) rfl rfl ?_ ?_
  · intro a wq hw hl
    have h19 : (RuleK (strictF remF)) (a.tmps[19]?.getD undef) wq := hl 19 (by first | (simp [Op.operands]; done) | simp [Op.operands, Call.operands]) (by rw [HS.out]; decide)
    obtain ⟨g, k, e19, _⟩ := h19
    clear hl
    go_simp
  -- slot 9
  refine kFacts_step (BoxF wc.heap.size #[.int .i64 0, Value.nilFunc, Value.nilFunc] 68) rfl rfl (BoxF.lasts9 _ _ _) ?_ ?_
  · intro a wq hw hl
    clear hl
    go_simp
    exact BoxF.new _ _ (Nat.le_trans HGW.out.size hw.size)
  -- slot 99
  refine kFacts_store (RuleB wc.heap.size (strictF remF)) rfl rfl (RuleB.up _ _) ?_ ?_
  · intro a wq hw hl
    have h9 : (BoxF wc.heap.size #[.int .i64 0, Value.nilFunc, Value.nilFunc] 68) (a.tmps[9]?.getD undef) wq := hl 9 (by first | (simp [Op.operands]; done) | simp [Op.operands, Call.operands]) (by rw [HS.out]; decide)
    obtain ⟨b, e9, hb9, hbs⟩ := h9
    have h29 : (RuleG (strictF remF)) (a.tmps[29]?.getD undef) wq := hl 29 (by first | (simp [Op.operands]; done) | simp [Op.operands, Call.operands]) (by rw [HS.out]; decide)
    obtain ⟨g, k, e29, hS⟩ := h29
    have hst := storeCells_row (P := Tryz.prog) (c' := #[.int .i64 2, .func (.func 99) #[] #[.pointer (some ⟨g, 0, none⟩)], Value.nilFunc]) hb9 info3 rfl (by simp [Value.oneCell'])
    have hkp := Keeps.setRow (s := wc.heap.size) (Z := ZR) #[.int .i64 2, .func (.func 99) #[] #[.pointer (some ⟨g, 0, none⟩)], Value.nilFunc] hb9 hbs ⟨0, _, _, rfl, by decide⟩ ⟨2, _, _, rfl, by decide⟩
    have hrow := heap_setRow_at _ _ _ #[.int .i64 2, .func (.func 99) #[] #[.pointer (some ⟨g, 0, none⟩)], Value.nilFunc] _ _ hb9
    clear hl
    go_simp
    exact ⟨hkp, b, g, k, rfl, hbs, hrow, hS.keeps hkp⟩
  refine HL.out _ (fun a' w5 hc => ?_)
  have h9 : (RuleB wc.heap.size (strictF remF)) (a'.eval (.tmp 9)) w5 := hc.fact 9 (by rw [HS.out]; decide)
  obtain ⟨b, g, k, e9, hbs, hb9, hS⟩ := h9
  have e30 : a'.eval (.tmp 30) = .bool true := hc.fact 30 (by rw [HS.out]; decide)
  have hgw5 := gb_trans HGW.out (Keeps.grown hc.grown HSW.out) (.inl rfl)
  have hfr := hc.frame [20, 21, 22, 23, 24, 25, 26, 27, 28, 19, 29, 30, 9, 10] (by rw [HO.out]; kernel_rfl)
  rw [hfr]
  clear hfr hc
  rw [HA.out]
  clear HA HO HL HW HS HGW HSW A0 A4 A5 A8
  clear A O W L
  simp only [List.drop_succ_cons, List.drop_zero, List.foldl_cons, List.foldl_nil, Act.put, List.setIfInBounds_toArray, List.set_cons_succ, List.set_cons_zero]
  rw [e9, e30]
  generalize a'.eval (.tmp 20) = x20
  generalize a'.eval (.tmp 21) = x21
  generalize a'.eval (.tmp 22) = x22
  generalize a'.eval (.tmp 23) = x23
  generalize a'.eval (.tmp 24) = x24
  generalize a'.eval (.tmp 25) = x25
  generalize a'.eval (.tmp 26) = x26
  generalize a'.eval (.tmp 27) = x27
  generalize a'.eval (.tmp 28) = x28
  generalize a'.eval (.tmp 19) = x19
  generalize a'.eval (.tmp 29) = x29
  generalize a'.eval (.tmp 10) = x10
  clear e9 e30
  clear a'
  have HG5 := hide (gb_trans HG.out hgw5 (.inl rfl))
  have HDC := hide (HDO.out g k w5 HG5.out hS)
  have hx5 := HCX.out.gb hgw5
  have hy5 := HCY.out.gb hgw5
  have HBZ5 := hide (blk_keep HBZ.out (gb_trans HGC.out hgw5 (.inl rfl)) (by simp))
  have r0 : w5.cell? ⟨b, 0, none⟩ = some (.int .i64 2) := by rw [blk_cell hb9]; rfl
  have r1 : w5.cell? ⟨b, 1, none⟩ = some (.func (.func 99) #[] #[.pointer (some ⟨g, 0, none⟩)]) := by rw [blk_cell hb9]; rfl
  have r2 : w5.cell? ⟨b, 2, none⟩ = some Value.nilFunc := by rw [blk_cell hb9]; rfl
  obtain ⟨x0, x1, x2, x3⟩ := hx5
  obtain ⟨y0, y1, y2, y3⟩ := hy5
  clear hS hgw5 hbs hb9 HDO H4 HB8 HKX HKY HBX HBY HBZ HCX HCY HGC HG
  cases hdo : doI (strictF remF) x y with
  | error ek =>
    rw [hdo] at HDC
    go_wp2_with (go_at_call 45; refine HDC.out.mono ?_; rintro e wn ⟨hgn, rfl⟩; have HGN := hide (gb_trans HG5.out hgn (.inl rfl)); have hbz := blk_keep HBZ5.out hgn (by simp); have HZ := hide hbz; have hst := storeCells_row (P := Tryz.prog) (c' := #[.int .i64 0, .slice none 0 0, .slice none 0 0, .slice none 0 0]) hbz info4 rfl (by simp [Value.oneCell']); clear hgn hbz)
    have hrow := heap_setRow_at _ _ _ #[.int .i64 0, .slice none 0 0, .slice none 0 0, .slice none 0 0] _ _ HZ.out
    have m0 := blk_cell hrow 0
    have m1 := blk_cell hrow 1
    have m2 := blk_cell hrow 2
    have m3 := blk_cell hrow 3
    simp only [List.getElem?_toArray, List.getElem?_cons_zero, List.getElem?_cons_succ] at m0 m1 m2 m3
    exact bodyPost_ret (v := .tuple #[.agg #[.int .i64 0, .slice none 0 0, .slice none 0 0, .slice none 0 0], .int .i64 ek]) (by simp [results, Tryz.results20, go_sem, m0, m1, m2, m3]) rfl ⟨gb_setRow HGN.out _ _ (by omega), by rw [hdo]⟩
  | ok tl =>
    obtain ⟨t, l⟩ := tl
    rw [hdo] at HDC
    go_wp2_with (go_at_call 45; refine HDC.out.mono ?_; rintro e wn ⟨hgn, A, c, hlc, rfl, ho⟩; have HGN := hide (gb_trans HG5.out hgn (.inl rfl)); have hbz := blk_keep HBZ5.out hgn (by simp); have HZ := hide hbz; have HO := hide ho; have HLC := hide hlc; have hst := storeCells_row (P := Tryz.prog) (c' := #[.int .i64 t, .slice A l.length c, .slice none 0 0, .slice none 0 0]) hbz info4 rfl (by simp [Value.oneCell']); clear hgn hbz ho hlc)
    have hrow := heap_setRow_at _ _ _ #[.int .i64 t, .slice A l.length c, .slice none 0 0, .slice none 0 0] _ _ HZ.out
    have m0 := blk_cell hrow 0
    have m1 := blk_cell hrow 1
    have m2 := blk_cell hrow 2
    have m3 := blk_cell hrow 3
    simp only [List.getElem?_toArray, List.getElem?_cons_zero, List.getElem?_cons_succ] at m0 m1 m2 m3
    have hon := own_low (HO.out.kept (gb_setRow_own wn (w.heap.size + 2) #[.int .i64 t, .slice A l.length c, .slice none 0 0, .slice none 0 0]) (.inr (own_ne HO.out HZ.out (by decide)))) HG5.out.size
    exact bodyPost_ret (v := .tuple #[.agg #[.int .i64 t, .slice A l.length c, .slice none 0 0, .slice none 0 0], .int .i64 0]) (by simp [results, Tryz.results20, go_sem, m0, m1, m2, m3]) rfl ⟨gb_setRow HGN.out _ _ (by omega), by rw [hdo]; exact ⟨A, c, HLC.out, rfl, hon⟩⟩
end
end Go.Proofs.YtnilcnobngcbgaaGreat
