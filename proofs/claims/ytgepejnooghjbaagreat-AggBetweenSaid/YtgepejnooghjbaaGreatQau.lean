/-
  agg.Sums of an int vector, where each sum is a number.
-/
import Derived.Test.YtgepejnooghjbaaGreatQat
import Derived.Test.YtgepejnooghjbaaGreatQak
import Derived.Test.YtgepejnooghjbaaGreatQam
import Derived.Test.YtgepejnooghjbaaGreatQai

namespace Go.Proofs.YtgepejnooghjbaaGreat
open Go.RowKit
attribute [local go_sem ↓] Go.wp_at_zero Go.wp_at_succ

/-- A new value with an error of 0. -/
def TupF (base : Nat) (v : Vl) : Fct := fun x w => ∃ nA nc sA sc lA lc f, x = .tuple #[.agg #[.int .i64 v.t, .slice nA v.n.length nc, .slice sA v.s.length sc, .slice lA v.l.length lc], .int .i64 0] ∧ VOw w v [.int .i64 v.t, .slice nA v.n.length nc, .slice sA v.s.length sc, .slice lA v.l.length lc] f ∧ f.Nodup ∧ ∀ b ∈ f, base ≤ b
theorem TupF.up (base : Nat) (v : Vl) : (TupF base v).Up := by
  rintro x w w' ⟨nA, nc, sA, sc, lA, lc, f, h1, h2, h3, h4⟩ hg
  exact ⟨nA, nc, sA, sc, lA, lc, f, h1, h2.grow hg, h3, h4⟩
theorem TupF.of {base : Nat} {v : Vl} {w w' : World} {e : Ending} (hb : base ≤ w.heap.size) (h : TupV v w e w') : ∃ x, e = .returned x ∧ w.grownBy w' none ∧ TupF base v x w' := by
  obtain ⟨nA, nc, sA, sc, lA, lc, f, rfl, ho, hn, hg⟩ := h
  exact ⟨_, rfl, hg, nA, nc, sA, sc, lA, lc, f, rfl, ho, hn.1, fun b hb2 => Nat.le_trans hb (hn.2 b hb2).1⟩
section
attribute [-go_sem] Go.storeCells
set_option maxHeartbeats 8000000 in
set_option maxRecDepth 100000 in
theorem drop_wide (n : Int) (m : Nat) (fi en : Int) (x : Vl) (w : World) (B : Nat) (nA : Option Addr) (nc : Nat) (sA : Option Addr) (sc : Nat) (lA : Option Addr) (lc : Nat)
    (hs : seqT x.t) (htot : x.tot ≤ 1100000) (hB : B ≤ w.heap.size) (vx : VB w B x nA nc sA sc lA lc) (hn : -9223372036854775808 ≤ n ∧ n ≤ 9223372036854775807) (_hz : n ≤ 1000000 ∨ m = 0) (hfi : max n 0 = fi) (hen : max ((x.count : Int) + min n 0) fi = en) (hm : en - fi = (m : Int)) (htt : x.t = 0 → Vl.tots ((rowI fi m).map (pickV x.l emp)) ≤ 1100000) :
    Calls Tryz.prog 39 #[.int .i64 n, .agg #[.int .i64 x.t, .slice nA x.n.length nc, .slice sA x.s.length sc, .slice lA x.l.length lc]] w (TupV (idxV x (rowI fi m)) w) := by
  have hcc := hs.count htot
  have hcnt := fun w2 (hg : w.grownBy w2 none) => count_d x.depth x w2 B nA nc sA sc lA lc (Nat.le_refl _) htot (Nat.le_trans hB hg.size) (vx.gb hg hB)
  obtain ⟨ps, hps⟩ : ∃ ps, ps = rowI fi m := ⟨_, rfl⟩
  have hpl : ps.length = m := by rw [hps]; simp [rowI_length]
  have hrow := fun w2 => row_any fi en m hm (by omega) (by omega) w2
  rw [← hps] at htt hrow ⊢
  have hidx := fun w2 (A : Option Addr) (c : Nat) (hg : w.grownBy w2 none) (hr : Rd w2 w2.heap.size A (i64s ps)) => index_any x ps w2 B nA nc sA sc lA lc A c hs htt htot (Nat.le_trans hB hg.size) (vx.gb hg hB) hr (by omega)
  obtain ⟨rv, hrv⟩ : ∃ rv, rv = idxV x ps := ⟨_, rfl⟩
  rw [← hrv] at hidx ⊢
  have h9 : IntKind.i64.wrap ((x.count : Int) + min n 0) = (x.count : Int) + min n 0 := by rw [IntKind.wrap_i64]; omega
  have HROW := hide hrow
  have HIDX := hide hidx
  have HCNT := hide hcnt
  obtain ⟨wa, hwa⟩ : ∃ wa, wa = (w.alloc (.cells #[.int .i64 x.t, .slice nA x.n.length nc, .slice sA x.s.length sc, .slice lA x.l.length lc] 26)).alloc (.cells #[.int .i64 0, .slice none 0 0, .slice none 0 0, .slice none 0 0] 26) := ⟨_, rfl⟩
  have bx : wa.heap[w.heap.size]? = some (.cells #[.int .i64 x.t, .slice nA x.n.length nc, .slice sA x.s.length sc, .slice lA x.l.length lc] 26 (0, 0)) := by rw [hwa]; exact (Below.heap_alloc _ _ _ (by rw [World.size_alloc]; omega)).trans (heap_alloc_new w _)
  have bz : wa.heap[w.heap.size + 1]? = some (.cells #[.int .i64 0, .slice none 0 0, .slice none 0 0, .slice none 0 0] 26 (0, 0)) := by rw [hwa]; have := heap_alloc_new (w.alloc (.cells #[.int .i64 x.t, .slice nA x.n.length nc, .slice sA x.s.length sc, .slice lA x.l.length lc] 26)) (.cells #[.int .i64 0, .slice none 0 0, .slice none 0 0, .slice none 0 0] 26); rwa [World.size_alloc] at this
  have HBX := hide bx
  have HBZ := hide bz
  have HG0 := hide (show w.grownBy wa none by rw [hwa]; exact gb_alloc (gb_alloc (gb_refl w none) _) _)
  have HWE := hide hwa
  have HGA := hide (gb_refl wa none)
  have HBXA := hide bx
  have HBZA := hide bz
  obtain ⟨c0, c1, c2, c3⟩ : C4 wa w.heap.size 0 (.int .i64 x.t) (.slice nA x.n.length nc) (.slice sA x.s.length sc) (.slice lA x.l.length lc) := ⟨by rw [blk_cell bx]; rfl, by rw [blk_cell bx]; rfl, by rw [blk_cell bx]; rfl, by rw [blk_cell bx]; rfl⟩
  have HSZ := hide (show wa.heap.size = w.heap.size + 2 by rw [hwa]; simp)
  clear bx bz hwa htot hs hB vx hcnt hidx hrow hps hrv htt hcc hpl hn hm _hz
  generalize x.count = cn at *
  go_enter Tryz.func39, Tryz.ntmps39
  go_wp2_with fail
  rw [← HWE.out]
  go_wp2_with (go_at_call 35; refine (HCNT.out _ HG0.out).mono ?_; rintro e w1 ⟨rfl, hg1⟩; have HG1 := hide hg1; have HBXn := hide (blk_keep HBX.out hg1 (by simp)); have HBZn := hide (blk_keep HBZ.out hg1 (by simp)); clear HBX HBZ; have HBX := hide HBXn.out; have HBZ := hide HBZn.out; clear HBXn HBZn; (try clear c0 c1 c2 c3); obtain ⟨c0, c1, c2, c3⟩ : C4 w1 w.heap.size 0 (.int .i64 x.t) (.slice nA x.n.length nc) (.slice sA x.s.length sc) (.slice lA x.l.length lc) := (by have h := HBX.out; exact ⟨by rw [blk_cell h]; rfl, by rw [blk_cell h]; rfl, by rw [blk_cell h]; rfl, by rw [blk_cell h]; rfl⟩); clear hg1)
  have HC := hide (show C4 w1 w.heap.size 0 (.int .i64 x.t) (.slice nA x.n.length nc) (.slice sA x.s.length sc) (.slice lA x.l.length lc) from ⟨c0, c1, c2, c3⟩)
  have HGG := hide (gb_trans HG0.out HG1.out (.inl rfl))
  clear c0 c1 c2 c3 HWE h9 HGA

  clear hfi hen
  refine wp_region_facts' 7 (by kernel_rfl) (by kernel_rfl) ?_
  intro A O W L HA HO HW HL
  simp only [List.take_succ_cons, List.take_zero]
  have HS := hide (show A.tmps.size = 26 by rw [HA.out]; rfl)
  have HGW := hide (show w1.grownBy W none by rw [HW.out]; exact gb_drew (gb_refl w1 none))
  have A3 := hide (show A.eval (.tmp 3) = .pointer (some ⟨w.heap.size, 0, none⟩) by rw [HA.out]; rfl)
  have A7 := hide (show A.eval (.tmp 7) = .int .i64 fi by rw [HA.out]; rfl)
  have A8 := hide (show A.eval (.tmp 8) = .int .i64 en by rw [HA.out]; rfl)
  -- slot 19
  refine wpFacts_lit (.agg #[.int .i64 x.t, .slice nA x.n.length nc, .slice sA x.s.length sc, .slice lA x.l.length lc]) rfl ?_ ?_
  · intro a wq hw hl
    have e3 : a.tmps[3]?.getD undef = .pointer (some ⟨w.heap.size, 0, none⟩) := (hl 3 (by first | (simp [Op.operands]; done) | simp [Op.operands, Call.operands]) (by rw [HS.out]; decide)).trans A3.out
    obtain ⟨c0, c1, c2, c3⟩ := HC.out.gb (gb_trans HGW.out hw (.inl rfl))
    clear hl
    go_simp
  -- slot 20
  refine wpFacts_lit (.int .i64 fi) rfl ?_ ?_
  · intro a wq hw hl
    have e7 : a.tmps[7]?.getD undef = .int .i64 fi := (hl 7 (by first | (simp [Op.operands]; done) | simp [Op.operands, Call.operands]) (by rw [HS.out]; decide)).trans A7.out
    clear hl
    go_simp
  -- slot 21
  refine wpFacts_lit (.int .i64 en) rfl ?_ ?_
  · intro a wq hw hl
    have e8 : a.tmps[8]?.getD undef = .int .i64 en := (hl 8 (by first | (simp [Op.operands]; done) | simp [Op.operands, Call.operands]) (by rw [HS.out]; decide)).trans A8.out
    clear hl
    go_simp
  -- slot 22
  refine wpFacts_step (OwnIF 0 ps) rfl (OwnIF.up _ _) ?_ ?_
  · intro a wq hw hl
    have e20 : a.tmps[20]?.getD undef = .int .i64 fi := hl 20 (by first | (simp [Op.operands]; done) | simp [Op.operands, Call.operands]) (by rw [HS.out]; decide)
    have e21 : a.tmps[21]?.getD undef = .int .i64 en := hl 21 (by first | (simp [Op.operands]; done) | simp [Op.operands, Call.operands]) (by rw [HS.out]; decide)
    clear hl
    go_simp
    refine ⟨gb_refl _ none, (HROW.out _).mono fun _ _ h => ?_⟩
    obtain ⟨hg, A, c, h1, h2, h3⟩ := h
    exact ⟨_, h2, hg, A, c, h1, rfl, own_low h3 (Nat.zero_le _)⟩
  -- slot 23
  refine wpFacts_step (TupF (w.heap.size + 2) rv) rfl (TupF.up _ _) ?_ ?_
  · intro a wq hw hl
    have e19 : a.tmps[19]?.getD undef = .agg #[.int .i64 x.t, .slice nA x.n.length nc, .slice sA x.s.length sc, .slice lA x.l.length lc] := hl 19 (by first | (simp [Op.operands]; done) | simp [Op.operands, Call.operands]) (by rw [HS.out]; decide)
    have h22 : (OwnIF 0 ps) (a.tmps[22]?.getD undef) wq := hl 22 (by first | (simp [Op.operands]; done) | simp [Op.operands, Call.operands]) (by rw [HS.out]; decide)
    obtain ⟨rA, rc, h1, e22, h2⟩ := h22
    clear hl
    go_simp
    refine ⟨gb_refl _ none, (HIDX.out _ rA rc (gb_trans HGG.out (gb_trans HGW.out hw (.inl rfl)) (.inl rfl)) (Rd.of_own h2)).mono fun _ _ h => ?_⟩
    obtain ⟨x9, h1, h2, h3⟩ := TupF.of (base := w.heap.size + 2) (by have h5 := HSZ.out; have h6 := HG1.out.size; have h7 := ((gb_trans HGW.out hw (.inl rfl))).size; omega) h
    exact ⟨x9, h1, h2, h3⟩
  -- slot 24
  refine wpFacts_step (NewF (w.heap.size + 2) rv) rfl (NewF.up _ _) ?_ ?_
  · intro a wq hw hl
    have h23 : (TupF (w.heap.size + 2) rv) (a.tmps[23]?.getD undef) wq := hl 23 (by first | (simp [Op.operands]; done) | simp [Op.operands, Call.operands]) (by rw [HS.out]; decide)
    obtain ⟨nA9, nc9, sA9, sc9, lA9, lc9, f, e23, h2, h3, h4⟩ := h23
    clear hl
    go_simp
    exact ⟨gb_refl _ none, nA9, nc9, sA9, sc9, lA9, lc9, f, rfl, h2, h3, h4⟩
  -- slot 25
  refine wpFacts_lit (.int .i64 0) rfl ?_ ?_
  · intro a wq hw hl
    have h23 : (TupF (w.heap.size + 2) rv) (a.tmps[23]?.getD undef) wq := hl 23 (by first | (simp [Op.operands]; done) | simp [Op.operands, Call.operands]) (by rw [HS.out]; decide)
    obtain ⟨nA9, nc9, sA9, sc9, lA9, lc9, f, e23, _, _, _⟩ := h23
    clear hl
    go_simp
  refine HL.out _ (fun a' w5 hc => ?_)
  have h24 : (NewF (w.heap.size + 2) rv) (a'.eval (.tmp 24)) w5 := hc.fact 24 (by rw [HS.out]; decide)
  obtain ⟨nA9, nc9, sA9, sc9, lA9, lc9, f, e24, ho, hnd, hfb⟩ := h24
  have e25 : a'.eval (.tmp 25) = .int .i64 0 := hc.fact 25 (by rw [HS.out]; decide)
  have hgw5 := gb_trans HGW.out hc.grown (.inl rfl)
  have hfr := hc.frame [19, 20, 21, 22, 23, 24, 25, 5] (by rw [HO.out]; kernel_rfl)
  rw [hfr]
  clear hfr hc
  rw [HA.out]
  clear HA HO HL HW HS HGW A3 A7 A8
  clear A O W L
  simp only [List.drop_succ_cons, List.drop_zero, List.foldl_cons, List.foldl_nil, Act.put, List.setIfInBounds_toArray, List.set_cons_succ, List.set_cons_zero]
  rw [e24, e25]
  generalize a'.eval (.tmp 19) = x19
  generalize a'.eval (.tmp 20) = x20
  generalize a'.eval (.tmp 21) = x21
  generalize a'.eval (.tmp 22) = x22
  generalize a'.eval (.tmp 23) = x23
  generalize a'.eval (.tmp 5) = x5
  clear e24 e25
  clear a'
  have HG5 := hide (gb_trans HGG.out hgw5 (.inl rfl))
  have hbz := blk_keep HBZ.out hgw5 (by simp)
  have HZ := hide hbz
  have HO := hide ho
  have HND := hide hnd
  have HFB := hide hfb
  clear ho hnd hfb
  have hst := storeCells_row (P := Tryz.prog) (c' := #[.int .i64 rv.t, .slice nA9 rv.n.length nc9, .slice sA9 rv.s.length sc9, .slice lA9 rv.l.length lc9]) hbz info4 rfl (by simp [Value.oneCell'])
  clear hbz hgw5 HC HBX HBZ HG1 HGG HG0
  go_wp2_with fail
  have hrow := heap_setRow_at _ _ _ #[.int .i64 rv.t, .slice nA9 rv.n.length nc9, .slice sA9 rv.s.length sc9, .slice lA9 rv.l.length lc9] _ _ HZ.out
  have m0 := blk_cell hrow 0
  have m1 := blk_cell hrow 1
  have m2 := blk_cell hrow 2
  have m3 := blk_cell hrow 3
  simp only [List.getElem?_toArray, List.getElem?_cons_zero, List.getElem?_cons_succ] at m0 m1 m2 m3
  refine bodyPost_ret (v := .tuple #[.agg #[.int .i64 rv.t, .slice nA9 rv.n.length nc9, .slice sA9 rv.s.length sc9, .slice lA9 rv.l.length lc9], .int .i64 0]) (by simp [results, Tryz.results39, go_sem, m0, m1, m2, m3]) rfl ?_
  have hsz := HSZ.out
  exact TupV.row (v := rv) (base := w.heap.size + 2) (s := w.heap.size + 1) _ (by omega) (by omega) HG5.out HO.out HND.out HFB.out
end
theorem drop_any (n : Int) (m : Nat) (fi en : Int) (x : Vl) (w : World) (B : Nat) (nA : Option Addr) (nc : Nat) (sA : Option Addr) (sc : Nat) (lA : Option Addr) (lc : Nat)
    (hs : seqT x.t) (htot : x.tot ≤ 1100000) (hB : B ≤ w.heap.size) (vx : VB w B x nA nc sA sc lA lc) (hn : -1000000 ≤ n ∧ n ≤ 1000000) (hfi : max n 0 = fi) (hen : max ((x.count : Int) + min n 0) fi = en) (hm : en - fi = (m : Int)) (htt : x.t = 0 → Vl.tots ((rowI fi m).map (pickV x.l emp)) ≤ 1100000) :
    Calls Tryz.prog 39 #[.int .i64 n, .agg #[.int .i64 x.t, .slice nA x.n.length nc, .slice sA x.s.length sc, .slice lA x.l.length lc]] w (TupV (idxV x (rowI fi m)) w) :=
  drop_wide n m fi en x w B nA nc sA sc lA lc hs htot hB vx (by omega) (.inl hn.2) hfi hen hm htt
end Go.Proofs.YtgepejnooghjbaaGreat

namespace Go.Proofs.YtgepejnooghjbaaGreat
open Go.RowKit
attribute [local go_sem ↓] Go.wp_at_zero Go.wp_at_succ

theorem rowI_get (a : Int) (m : Nat) : rowI a m = (List.range m).map fun i : Nat => a + (i : Int) := by
  induction m with
  | zero => rfl
  | succ m ih => rw [List.range_succ, List.map_append, ← ih]; rfl
theorem row_pick (l : List Int) (d : Int) (a m : Nat) (h : a + m ≤ l.length) : (rowI (a : Int) m).map (pickI l d) = (l.drop a).take m := by
  rw [rowI_get, List.map_map]
  apply List.ext_getElem
  · simp; omega
  · intro i h1 h2
    have hi : i < m := by simpa using h1
    simp only [List.getElem_map, List.getElem_range, Function.comp, List.getElem_take, List.getElem_drop]
    unfold pickI
    rw [if_pos ⟨by omega, by omega⟩, show ((a : Int) + (i : Int)).toNat = a + i by omega, List.getD_eq_getElem?_getD, List.getElem?_eq_getElem (by omega)]
    rfl
theorem cut_to8 {P : Program} (w : World) {t e : TypeId} {i : TypeInfo} (A : Option Addr) (n c k : Nat) (ht : P.underlying t = some (.slice e)) (hi : P.info? e = some i) (hk : k ≤ n) (hn : n ≤ c) :
    (Instr.slice t (.slice A n c) none (some (.int .i64 (k : Int))) none).run P w = .ok (.slice A k c) w := by
  have h2 : k ≤ c := by omega
  simp [Instr.slice, Instr.sliceBounds, run_underlying ht, Instr.sliceBound, asIntOf, h2, sizeOf, typeInfo, hi, Result.andThen]
  intro _
  cases A with
  | none => rfl
  | some x => simp only [Option.map_some]; congr 1
/-- What Deltas makes of ints. -/
def dltR (l : List Int) : Except Int (Int × List Int) := match eachO (strictF difF) (l.drop 1) (l.take (l.length - 1)) 0 (l.length - 1) with | none => .error 70 | some xs => .ok (2, l.take 1 ++ xs)
/-- Numbers in a row of their own. -/
def CatF (base : Nat) (L : List Int) : Fct := fun v w => ∃ A c, v = .slice A L.length c ∧ L.length ≤ c ∧ w.ownsRow base 2 1 (.slice A L.length c) L.length (i64s L)
theorem CatF.up (base : Nat) (L : List Int) : (CatF base L).Up := by
  rintro v w w' ⟨A, c, h1, h2, h3⟩ hg
  exact ⟨A, c, h1, h2, h3.kept hg (by cases (Value.slice A L.length c).ownBlock <;> simp)⟩
def CatV (base : Nat) (L : List Int) : Fct := fun v w => ∃ A c, v = .agg #[.int .i64 2, .slice A L.length c, .slice none 0 0, .slice none 0 0] ∧ L.length ≤ c ∧ w.ownsRow base 2 1 (.slice A L.length c) L.length (i64s L)
theorem CatV.up (base : Nat) (L : List Int) : (CatV base L).Up := by
  rintro v w w' ⟨A, c, h1, h2, h3⟩ hg
  exact ⟨A, c, h1, h2, h3.kept hg (by cases (Value.slice A L.length c).ownBlock <;> simp)⟩
theorem eachO_some8 {f : Int → Int → Option Int} {a b : List Int} : ∀ (c i : Nat) (xs : List Int), eachO f a b i c = some xs → xs.length = c := by
  intro c
  induction c with
  | zero =>
    intro i xs h
    injection h with h
    rw [← h]
    rfl
  | succ c ih =>
    intro i xs h
    rw [eachO] at h
    cases hf : f (a.getD (min i (a.length - 1)) 0) (b.getD (min i (b.length - 1)) 0) with
    | none => rw [hf] at h; cases h
    | some n =>
      rw [hf, Option.bind_some] at h
      cases he : eachO f a b (i + 1) c with
      | none => rw [he] at h; cases h
      | some ys =>
        rw [he] at h
        injection h with h
        rw [← h, List.length_cons, ih (i + 1) ys he]
theorem ho2vb {w : World} {v : Vl} {nA : Option Addr} {nc : Nat} {sA : Option Addr} {sc : Nat} {lA : Option Addr} {lc : Nat} {f : List Nat} (h : VOw w v [.int .i64 v.t, .slice nA v.n.length nc, .slice sA v.s.length sc, .slice lA v.l.length lc] f) : VB w w.heap.size v nA nc sA sc lA lc := h.vb
theorem eachO_len {f : Int → Int → Option Int} {a b : List Int} {c i : Nat} {xs : List Int} (h : eachO f a b i c = some xs) : xs.length = c := (eachO_some8 c i xs h)
theorem seqT2 : seqT 2 := .inl (by unfold numT; decide)
theorem drop_ahead (l : List Int) (hl : l.length ≤ 400000) (w : World) (B : Nat) (nA : Option Addr) (nc : Nat) (sA : Option Addr) (sc : Nat) (lA : Option Addr) (lc : Nat) (hB : B ≤ w.heap.size) (h : VB w B (.mk 2 l [] []) nA nc sA sc lA lc) :
    Calls Tryz.prog 39 #[.int .i64 1, .agg #[.int .i64 2, .slice nA l.length nc, .slice sA 0 sc, .slice lA 0 lc]] w (TupV (.mk 2 (l.drop 1) [] []) w) := by
  have hc : (Vl.mk 2 l [] []).count = l.length := by rw [Vl.count_def, if_pos (.inr (.inl rfl))]; rfl
  have ht : (Vl.mk 2 l [] []).tot ≤ 1100000 := by rw [Vl.tot_def]; show 1 + l.length + 0 + 0 + 0 ≤ 1100000; omega
  have h1 := drop_any 1 (l.length - 1) 1 (max (l.length : Int) 1) (.mk 2 l [] []) w B nA nc sA sc lA lc seqT2 ht hB h (by omega) (by decide) (by rw [hc]; omega) (by omega) (fun e => absurd e (show ¬ (2 : Int) = 0 by decide))
  have e : idxV (.mk 2 l [] []) (rowI 1 (l.length - 1)) = .mk 2 (l.drop 1) [] [] := by
    unfold idxV
    have t2 : (Vl.mk 2 l [] []).t = 2 := rfl
    rw [t2, if_neg (show ¬ (2 : Int) = 0 by decide), if_neg (show ¬ (2 : Int) = 3 by decide)]
    show Vl.mk 2 ((rowI 1 (l.length - 1)).map (pickI l (nulT 2))) [] [] = _
    congr 1
    by_cases h0 : l.length = 0
    · rw [List.length_eq_zero_iff.1 h0]; rfl
    · have := row_pick l (nulT 2) 1 (l.length - 1) (by omega)
      rw [show ((1 : Nat) : Int) = 1 from rfl] at this
      rw [this, List.take_of_length_le (by simp)]
  rw [e] at h1
  exact h1
theorem drop_behind (l : List Int) (hl : l.length ≤ 400000) (w : World) (B : Nat) (nA : Option Addr) (nc : Nat) (sA : Option Addr) (sc : Nat) (lA : Option Addr) (lc : Nat) (hB : B ≤ w.heap.size) (h : VB w B (.mk 2 l [] []) nA nc sA sc lA lc) :
    Calls Tryz.prog 39 #[.int .i64 (-1), .agg #[.int .i64 2, .slice nA l.length nc, .slice sA 0 sc, .slice lA 0 lc]] w (TupV (.mk 2 (l.take (l.length - 1)) [] []) w) := by
  have hc : (Vl.mk 2 l [] []).count = l.length := by rw [Vl.count_def, if_pos (.inr (.inl rfl))]; rfl
  have ht : (Vl.mk 2 l [] []).tot ≤ 1100000 := by rw [Vl.tot_def]; show 1 + l.length + 0 + 0 + 0 ≤ 1100000; omega
  have h1 := drop_any (-1) (l.length - 1) 0 (max ((l.length : Int) - 1) 0) (.mk 2 l [] []) w B nA nc sA sc lA lc seqT2 ht hB h (by omega) (by decide) (by rw [hc]; omega) (by omega) (fun e => absurd e (show ¬ (2 : Int) = 0 by decide))
  have e : idxV (.mk 2 l [] []) (rowI 0 (l.length - 1)) = .mk 2 (l.take (l.length - 1)) [] [] := by
    unfold idxV
    have t2 : (Vl.mk 2 l [] []).t = 2 := rfl
    rw [t2, if_neg (show ¬ (2 : Int) = 0 by decide), if_neg (show ¬ (2 : Int) = 3 by decide)]
    show Vl.mk 2 ((rowI 0 (l.length - 1)).map (pickI l (nulT 2))) [] [] = _
    congr 1
    exact row_pick l (nulT 2) 0 (l.length - 1) (by omega)
  rw [e] at h1
  exact h1
set_option maxHeartbeats 4000000 in
set_option maxRecDepth 100000 in
theorem deltas_int (l : List Int) (hI : ∀ k ∈ l, I64 k) (hl : l.length ≤ 400000) (w : World) (B : Nat) (nA : Option Addr) (nc : Nat) (sA : Option Addr) (sc : Nat) (lA : Option Addr) (lc : Nat) (hB : B ≤ w.heap.size) (h : VB w B (.mk 2 l [] []) nA nc sA sc lA lc) : Calls Tryz.prog 17 #[.agg #[.int .i64 2, .slice nA l.length nc, .slice sA 0 sc, .slice lA 0 lc]] w (DoR (dltR l) w) := by
  obtain ⟨wa, hwa⟩ : ∃ wa, wa = (w.alloc (.cells #[.int .i64 2, .slice nA l.length nc, .slice sA 0 sc, .slice lA 0 lc] 26)).alloc (.cells #[.int .i64 0, .slice none 0 0, .slice none 0 0, .slice none 0 0] 26) := ⟨_, rfl⟩
  have ha : wa.heap[w.heap.size]? = some (.cells #[.int .i64 2, .slice nA l.length nc, .slice sA 0 sc, .slice lA 0 lc] 26 (0, 0)) := by rw [hwa]; exact (Below.heap_alloc _ _ _ (by rw [World.size_alloc]; omega)).trans (heap_alloc_new w _)
  have hz : wa.heap[w.heap.size + 1]? = some (.cells #[.int .i64 0, .slice none 0 0, .slice none 0 0, .slice none 0 0] 26 (0, 0)) := by rw [hwa]; have := heap_alloc_new (w.alloc (.cells #[.int .i64 2, .slice nA l.length nc, .slice sA 0 sc, .slice lA 0 lc] 26)) (.cells #[.int .i64 0, .slice none 0 0, .slice none 0 0, .slice none 0 0] 26); rwa [World.size_alloc] at this
  have HBA := hide ha
  have HBZ := hide hz
  have HSZ := hide (show wa.heap.size = w.heap.size + 2 by rw [hwa]; simp)
  have hga : w.grownBy wa none := by rw [hwa]; exact gb_alloc (gb_alloc (gb_refl w none) _) _
  have HG := hide hga
  have HWE := hide hwa
  have HDA := hide (fun w2 (hg : w.grownBy w2 none) => drop_ahead l hl w2 B nA nc sA sc lA lc (Nat.le_trans hB hg.size) (h.gb hg hB))
  have HDB := hide (fun w2 (hg : w.grownBy w2 none) => drop_behind l hl w2 B nA nc sA sc lA lc (Nat.le_trans hB hg.size) (h.gb hg hB))
  have HTK := hide (fun w2 => takes_int 6 (by decide) (by decide) w2)
  have hlen : (l.take (l.length - 1)).length = (l.drop 1).length := by simp
  have HDO := hide (fun (w2 : World) (bA : Option Addr) (bc : Nat) (bB : Option Addr) (bd : Nat) (bC : Option Addr) (be : Nat) (dA : Option Addr) (dc : Nat) (dB : Option Addr) (dd : Nat) (dC : Option Addr) (de : Nat) (h1 : VB w2 w2.heap.size (.mk 2 (l.drop 1) [] []) bA bc bB bd bC be) (h2 : VB w2 w2.heap.size (.mk 2 (l.take (l.length - 1)) [] []) dA dc dB dd dC de) =>
    do_subtract (.mk 2 (l.drop 1) [] []) (.mk 2 (l.take (l.length - 1)) [] []) w2 w2.heap.size bA bc bB bd bC be dA dc dB dd dC de ⟨.inl rfl, by show (l.drop 1).length ≤ 1000000; simp; omega, fun k hk => hI k (List.mem_of_mem_drop hk), by rw [Vl.tot_def]; show 1 + (l.drop 1).length + 0 + 0 + 0 ≤ 1100000; simp; omega⟩ ⟨.inl rfl, by show (l.take (l.length - 1)).length ≤ 1000000; simp; omega, fun k hk => hI k (List.mem_of_mem_take hk), by rw [Vl.tot_def]; show 1 + (l.take (l.length - 1)).length + 0 + 0 + 0 ≤ 1100000; simp; omega⟩ (Nat.le_refl _) h1 h2)
  have hdo : doI (strictF difF) (.mk 2 (l.drop 1) [] []) (.mk 2 (l.take (l.length - 1)) [] []) = match eachO (strictF difF) (l.drop 1) (l.take (l.length - 1)) 0 (l.length - 1) with | none => .error 70 | some xs => .ok (2, xs) := by
    show (if (2 : Int) = 2 then (if (2 : Int) = 2 ∧ (l.take (l.length - 1)).length ≠ (l.drop 1).length then (.error 32 : Except Int (Int × List Int)) else match eachO (strictF difF) (l.drop 1) (l.take (l.length - 1)) 0 (l.drop 1).length with | none => .error 70 | some l => .ok (2, l)) else _) = _
    rw [if_pos rfl, if_neg (fun h => h.2 hlen), show (l.drop 1).length = l.length - 1 by simp]
  obtain ⟨d1, hd1⟩ : ∃ d1, d1 = l.drop 1 := ⟨_, rfl⟩
  obtain ⟨d2, hd2⟩ : ∃ d2, d2 = l.take (l.length - 1) := ⟨_, rfl⟩
  have HRE := hide (show dltR l = match eachO (strictF difF) d1 d2 0 (l.length - 1) with | none => .error 70 | some xs => .ok (2, l.take 1 ++ xs) by rw [hd1, hd2]; rfl)
  rw [← hd1] at HDA HDO hdo
  rw [← hd2] at HDB HDO hdo
  clear hd1 hd2 hlen
  obtain ⟨f, hf⟩ : ∃ f, f = (l.take 1).length := ⟨_, rfl⟩
  have hf2 : f = min l.length 1 := by rw [hf]; simp; omega
  have hmin : min (l.length : Int) 1 = (f : Int) := by omega
  obtain ⟨i1, hi1, hiz, his, hib⟩ := info_parts Tryz.info64
  have HSL := hide (fun w2 => cut_to8 (P := Tryz.prog) w2 nA l.length nc f Tryz.underlying22 hi1 (by omega) h.hn)
  have HCC : Hid (∀ (xs : List Int) (eA : Option Addr) (ec : Nat) (w5 : World), w.grownBy w5 none → xs.length ≤ 400000 → Rd w5 w5.heap.size eA (i64s xs) → ∀ (rb : Nat) (w2 : World), w5.grownBy w2 none → w2.heap[rb]? = some (.cells #[.slice nA f nc, .slice eA xs.length ec] 22 (0, 0)) → Calls Tryz.prog 41 #[.slice (some ⟨rb, 0, none⟩) 2 2] w2 fun e w' => ∃ A c, e = .returned (.slice A (l.take 1 ++ xs).length c) ∧ (l.take 1 ++ xs).length ≤ c ∧ w'.ownsRow w2.heap.size 2 1 (.slice A (l.take 1 ++ xs).length c) (l.take 1 ++ xs).length (i64s (l.take 1 ++ xs)) ∧ w2.grownBy w' none) := hide (by
    intro xs eA ec w5 hg5 hx hr5 rb w2 hg2 hrb
    rw [hf] at hrb
    have hra : Rd w2 w2.heap.size nA (i64s (l.take 1)) := by
      have := (vat_int (h.gb (gb_trans hg5 hg2 (.inl rfl)) hB)).take 1
      rw [show (i64s l).take 1 = i64s (l.take 1) by unfold i64s; rw [List.map_take]] at this
      exact this.more (Nat.le_trans hB (gb_trans hg5 hg2 (.inl rfl)).size)
    refine (concat_two (l.take 1) xs w2 rb w2.heap.size nA nc eA ec (by simp; omega) hrb (Nat.le_refl _) hra ((hr5.grown hg2 (Nat.le_refl _) (by simp)).more hg2.size)).mono ?_
    rintro e w' ⟨A, c, h1, h2, h3⟩
    rw [← List.length_append, ← i64s_app] at *
    obtain ⟨_, _, hv, hle⟩ := own_slice h2
    injection hv with _ _ hv
    exact ⟨A, c, h1, hv ▸ hle, h2, h3⟩)
  have a0 : wa.cell? ⟨w.heap.size, 0, none⟩ = some (.int .i64 2) := by rw [blk_cell ha]; rfl
  have a1 : wa.cell? ⟨w.heap.size, 1, none⟩ = some (.slice nA l.length nc) := by rw [blk_cell ha]; rfl
  have a2 : wa.cell? ⟨w.heap.size, 2, none⟩ = some (.slice sA 0 sc) := by rw [blk_cell ha]; rfl
  have a3 : wa.cell? ⟨w.heap.size, 3, none⟩ = some (.slice lA 0 lc) := by rw [blk_cell ha]; rfl
  clear ha hz hwa hga h hB hI hi1 hiz his hib hf hf2
  go_enter Tryz.func17, Tryz.ntmps17
  go_upto_region 1 with fail
  rw [← HWE.out]
  go_upto_region 4 with (first
    | (go_at_call 38; refine (HTK.out _).mono ?_; rintro e w1 ⟨rfl, rfl⟩)
    | (go_at_call 39; refine (HDA.out _ HG.out).mono ?_; rintro e w2 ⟨bA, bc, bB, bd, bC, be, f2, he, ho2, hn2, hg2⟩; obtain rfl : e = .returned (.tuple #[.agg #[.int .i64 2, .slice bA d1.length bc, .slice bB 0 bd, .slice bC 0 be], .int .i64 0]) := he; have HO2 := hide ho2; have HG2 := hide hg2; clear ho2 hn2 hg2 a0 a1 a2 a3))
  obtain ⟨w3, hw3⟩ : ∃ w3, w3 = w2.alloc (.cells #[.int .i64 2, .slice bA d1.length bc, .slice bB 0 bd, .slice bC 0 be] 26) := ⟨_, rfl⟩
  obtain ⟨s4, hs4⟩ : ∃ s4, s4 = w2.heap.size := ⟨_, rfl⟩
  rw [← hw3, ← hs4]
  have hb3 : w3.heap[s4]? = some (.cells #[.int .i64 2, .slice bA d1.length bc, .slice bB 0 bd, .slice bC 0 be] 26 (0, 0)) := by rw [hw3, hs4]; exact heap_alloc_new w2 _
  have hg3 : w2.grownBy w3 none := by rw [hw3]; exact gb_alloc (gb_refl w2 none) _
  have HB3 := hide hb3
  have HG3 := hide (gb_trans HG2.out hg3 (.inl rfl))
  have HV3 := hide ((ho2vb HO2.out).gb hg3 (Nat.le_refl _) |>.up hg3.size)
  have hba := blk_keep HBA.out HG3.out (by simp)
  obtain ⟨a0, a1, a2, a3⟩ : C4 w3 w.heap.size 0 (.int .i64 2) (.slice nA l.length nc) (.slice sA 0 sc) (.slice lA 0 lc) := ⟨by rw [blk_cell hba]; rfl, by rw [blk_cell hba]; rfl, by rw [blk_cell hba]; rfl, by rw [blk_cell hba]; rfl⟩
  clear hw3 hs4 hb3 hg3 hba HO2
  go_upto_region 5 with (go_at_call 39; refine (HDB.out _ (gb_trans HG.out HG3.out (.inl rfl))).mono ?_; rintro e w4 ⟨dA, dc, dB, dd, dC, de, f4, he, ho4, hn4, hg4⟩; obtain rfl : e = .returned (.tuple #[.agg #[.int .i64 2, .slice dA d2.length dc, .slice dB 0 dd, .slice dC 0 de], .int .i64 0]) := he; have HO4 := hide ho4; have HG4 := hide hg4; clear ho4 hn4 hg4 a0 a1 a2 a3)
  obtain ⟨w5, hw5⟩ : ∃ w5, w5 = w4.alloc (.cells #[.int .i64 2, .slice dA d2.length dc, .slice dB 0 dd, .slice dC 0 de] 26) := ⟨_, rfl⟩
  obtain ⟨s6, hs6⟩ : ∃ s6, s6 = w4.heap.size := ⟨_, rfl⟩
  rw [← hw5, ← hs6]
  have hb5 : w5.heap[s6]? = some (.cells #[.int .i64 2, .slice dA d2.length dc, .slice dB 0 dd, .slice dC 0 de] 26 (0, 0)) := by rw [hw5, hs6]; exact heap_alloc_new w4 _
  have hg5 : w4.grownBy w5 none := by rw [hw5]; exact gb_alloc (gb_refl w4 none) _
  have hg35 := gb_trans HG4.out hg5 (.inl rfl)
  have HG5 := hide (gb_trans HG3.out hg35 (.inl rfl))
  have HV5 := hide ((ho2vb HO4.out).gb hg5 (Nat.le_refl _) |>.up hg5.size)
  have HV35 := hide (HV3.out.gb hg35 (Nat.le_refl _) |>.up hg35.size)
  have hbb := blk_keep HB3.out hg35 (by simp)
  obtain ⟨b0, b1, b2, b3⟩ : C4 w5 s4 0 (.int .i64 2) (.slice bA d1.length bc) (.slice bB 0 bd) (.slice bC 0 be) := ⟨by rw [blk_cell hbb]; rfl, by rw [blk_cell hbb]; rfl, by rw [blk_cell hbb]; rfl, by rw [blk_cell hbb]; rfl⟩
  obtain ⟨q0, q1, q2, q3⟩ : C4 w5 s6 0 (.int .i64 2) (.slice dA d2.length dc) (.slice dB 0 dd) (.slice dC 0 de) := ⟨by rw [blk_cell hb5]; rfl, by rw [blk_cell hb5]; rfl, by rw [blk_cell hb5]; rfl, by rw [blk_cell hb5]; rfl⟩
  have HD := hide (HDO.out w5 bA bc bB bd bC be dA dc dB dd dC de HV35.out HV5.out)
  clear hw5 hs6 hb5 hg5 hg35 hbb HO4 HV3 HDO
  cases hea : eachO (strictF difF) d1 d2 0 (l.length - 1) with
  | none =>
    have HR := hide (show dltR l = .error 70 by rw [HRE.out, hea])
    rw [hdo, hea] at HD
    clear hdo hea
    go_upto_region 6 with (go_at_call 40; refine HD.out.mono ?_; rintro e w6 ⟨hg6, rfl⟩; have HG6 := hide hg6; clear hg6 b0 b1 b2 b3 q0 q1 q2 q3)
    obtain ⟨w7, hw7⟩ : ∃ w7, w7 = w6.alloc (.cells #[.int .i64 0, .slice none 0 0, .slice none 0 0, .slice none 0 0] 26) := ⟨_, rfl⟩
    rw [← hw7]
    have HG7 := hide (show wa.grownBy w7 none by rw [hw7]; exact gb_trans HG5.out (gb_trans HG6.out (gb_alloc (gb_refl w6 none) _) (.inl rfl)) (.inl rfl))
    clear hw7
    have hrr := blk_keep HBZ.out HG7.out (by simp)
    have HRR := hide hrr
    have z0 := blk_frozen hrr 0
    have z1 := blk_frozen hrr 1
    have z2 := blk_frozen hrr 2
    have z3 := blk_frozen hrr 3
    have y0 : w7.cell? ⟨w.heap.size + 1, 0, none⟩ = some (.int .i64 0) := (by { rw [blk_cell hrr]; rfl })
    have y1 : w7.cell? ⟨w.heap.size + 1, 1, none⟩ = some (.slice none 0 0) := (by { rw [blk_cell hrr]; rfl })
    have y2 : w7.cell? ⟨w.heap.size + 1, 2, none⟩ = some (.slice none 0 0) := (by { rw [blk_cell hrr]; rfl })
    have y3 : w7.cell? ⟨w.heap.size + 1, 3, none⟩ = some (.slice none 0 0) := (by { rw [blk_cell hrr]; rfl })
    clear hrr
    go_wp2_with fail
    obtain ⟨m0, m1, m2, m3⟩ := C4.put HRR.out (.int .i64 0) (.slice none 0 0) (.slice none 0 0) (.slice none 0 0)
    simp only [put4, Nat.zero_add] at m0 m1 m2 m3
    refine bodyPost_ret (v := .tuple #[.agg #[.int .i64 0, .slice none 0 0, .slice none 0 0, .slice none 0 0], .int .i64 70]) (by simp [results, Tryz.results17, go_sem, m0, m1, m2, m3]) rfl ?_
    rw [HR.out]
    exact ⟨put_four_gb (gb_trans HG.out HG7.out (.inl rfl)) (Nat.le_succ _) _ _ _ _, rfl⟩
  | some xs =>
    have HR := hide (show dltR l = .ok (2, (l.take 1 ++ xs)) by rw [HRE.out, hea])
    obtain ⟨LX, hLX⟩ : ∃ LX, LX = l.take 1 ++ xs := ⟨_, rfl⟩
    rw [← hLX] at HR
    have HXS := hide (eachO_len hea)
    rw [hdo, hea] at HD
    clear hdo hea
    go_upto_region 6 with (go_at_call 40; refine HD.out.mono ?_; rintro e w6 ⟨hg6, eA, ec, hle6, rfl, ho6⟩; have HG6 := hide hg6; have HO6 := hide ho6; clear hg6 hle6 ho6 b0 b1 b2 b3 q0 q1 q2 q3)
    obtain ⟨w7, hw7⟩ : ∃ w7, w7 = w6.alloc (.cells #[.int .i64 2, .slice eA xs.length ec, .slice none 0 0, .slice none 0 0] 26) := ⟨_, rfl⟩
    obtain ⟨s8, hs8⟩ : ∃ s8, s8 = w6.heap.size := ⟨_, rfl⟩
    rw [← hw7, ← hs8]
    have hb7 : w7.heap[s8]? = some (.cells #[.int .i64 2, .slice eA xs.length ec, .slice none 0 0, .slice none 0 0] 26 (0, 0)) := by rw [hw7, hs8]; exact heap_alloc_new w6 _
    have hg7 : w6.grownBy w7 none := by rw [hw7]; exact gb_alloc (gb_refl w6 none) _
    have HG7 := hide (gb_trans HG5.out (gb_trans HG6.out hg7 (.inl rfl)) (.inl rfl))
    have HBS6 := hide hb7
    have HCX := hide (HCC.out xs eA ec w7 (gb_trans HG.out HG7.out (.inl rfl)) (by have := HXS.out; omega) ((Rd.of_own HO6.out).grown hg7 (Nat.le_refl _) (by simp) |>.more hg7.size))
    rw [← hLX] at HCX
    clear hLX
    have hba := blk_keep HBA.out HG7.out (by simp)
    obtain ⟨a0, a1, a2, a3⟩ : C4 w7 w.heap.size 0 (.int .i64 2) (.slice nA l.length nc) (.slice sA 0 sc) (.slice lA 0 lc) := ⟨by rw [blk_cell hba]; rfl, by rw [blk_cell hba]; rfl, by rw [blk_cell hba]; rfl, by rw [blk_cell hba]; rfl⟩
    have hsl := HSL.out
    clear hw7 hs8 hb7 hg7 hba HCC
    have HCC := hide HCX.out
    go_upto_region 11 with fail
    clear hsl a0 a1 a2 a3
    refine wp_region_facts' 8 (by kernel_rfl) (by kernel_rfl) ?_
    intro A O W L HA HO HW HL
    simp only [List.take_succ_cons, List.take_zero]
    have HS := hide (show A.tmps.size = 57 by rw [HA.out]; rfl)
    have HGW := hide (show w7.grownBy W none by rw [HW.out]; exact gb_drew (gb_refl w7 none))
    have A8 := hide (show A.eval (.tmp 8) = .pointer (some ⟨s8, 0, none⟩) by rw [HA.out]; rfl)
    have A10 := hide (show A.eval (.tmp 10) = .slice nA f nc by rw [HA.out]; rfl)
    -- slot 49
    refine wpFacts_lit (.pointer (some ⟨s8, 0, none⟩)) rfl ?_ ?_
    · intro a wq hw hl
      have e8 : a.tmps[8]?.getD undef = .pointer (some ⟨s8, 0, none⟩) := (hl 8 (by first | (simp [Op.operands]; done) | simp [Op.operands, Call.operands]) (by rw [HS.out]; decide)).trans A8.out
      clear hl
      go_simp
    -- slot 50
    refine wpFacts_lit (.int .i64 2) rfl ?_ ?_
    · intro a wq hw hl
      have e49 : a.tmps[49]?.getD undef = .pointer (some ⟨s8, 0, none⟩) := hl 49 (by first | (simp [Op.operands]; done) | simp [Op.operands, Call.operands]) (by rw [HS.out]; decide)
      have hbS := blk_keep HBS6.out (gb_trans HGW.out hw (.inl rfl)) (by simp)
      have c0 : wq.cell? ⟨s8, 0, none⟩ = some (.int .i64 2) := by rw [blk_cell hbS]; rfl
      clear hbS
      clear hl
      go_simp
    -- slot 51
    refine wpFacts_lit (.slice nA f nc) rfl ?_ ?_
    · intro a wq hw hl
      have e10 : a.tmps[10]?.getD undef = .slice nA f nc := (hl 10 (by first | (simp [Op.operands]; done) | simp [Op.operands, Call.operands]) (by rw [HS.out]; decide)).trans A10.out
      clear hl
      go_simp
    -- slot 52
    refine wpFacts_lit (.pointer (some ⟨s8, 1, none⟩)) rfl ?_ ?_
    · intro a wq hw hl
      have e8 : a.tmps[8]?.getD undef = .pointer (some ⟨s8, 0, none⟩) := (hl 8 (by first | (simp [Op.operands]; done) | simp [Op.operands, Call.operands]) (by rw [HS.out]; decide)).trans A8.out
      clear hl
      go_simp
    -- slot 53
    refine wpFacts_lit (.slice eA xs.length ec) rfl ?_ ?_
    · intro a wq hw hl
      have e52 : a.tmps[52]?.getD undef = .pointer (some ⟨s8, 1, none⟩) := hl 52 (by first | (simp [Op.operands]; done) | simp [Op.operands, Call.operands]) (by rw [HS.out]; decide)
      have hbS := blk_keep HBS6.out (gb_trans HGW.out hw (.inl rfl)) (by simp)
      have c0 : wq.cell? ⟨s8, 1, none⟩ = some (.slice eA xs.length ec) := by rw [blk_cell hbS]; rfl
      clear hbS
      clear hl
      go_simp
    -- slot 54
    refine wpFacts_step (RowF w7.heap.size 2 #[.slice nA f nc, .slice eA xs.length ec] 22) rfl (RowF.up _ _ _ _) ?_ ?_
    · intro a wq hw hl
      have e51 : a.tmps[51]?.getD undef = .slice nA f nc := hl 51 (by first | (simp [Op.operands]; done) | simp [Op.operands, Call.operands]) (by rw [HS.out]; decide)
      have e53 : a.tmps[53]?.getD undef = .slice eA xs.length ec := hl 53 (by first | (simp [Op.operands]; done) | simp [Op.operands, Call.operands]) (by rw [HS.out]; decide)
      clear hl
      go_simp
      exact RowF.new _ _ (Nat.le_trans HGW.out.size hw.size)
    -- slot 55
    refine wpFacts_step (CatF w7.heap.size LX) rfl (CatF.up _ _) ?_ ?_
    · intro a wq hw hl
      have h54 : (RowF w7.heap.size 2 #[.slice nA f nc, .slice eA xs.length ec] 22) (a.tmps[54]?.getD undef) wq := hl 54 (by first | (simp [Op.operands]; done) | simp [Op.operands, Call.operands]) (by rw [HS.out]; decide)
      obtain ⟨rb, e54, hrb, _⟩ := h54
      clear hl
      go_simp
      refine ⟨gb_refl _ none, (HCC.out rb wq (gb_trans HGW.out hw (.inl rfl)) hrb).mono fun _ _ h => ?_⟩
      obtain ⟨kA, kc, h1, h2, h3, h4⟩ := h
      exact ⟨_, h1, h4, kA, kc, rfl, h2, own_low h3 ((gb_trans HGW.out hw (.inl rfl))).size⟩
    -- slot 56
    refine wpFacts_step (CatV w7.heap.size LX) rfl (CatV.up _ _) ?_ ?_
    · intro a wq hw hl
      have e50 : a.tmps[50]?.getD undef = .int .i64 2 := hl 50 (by first | (simp [Op.operands]; done) | simp [Op.operands, Call.operands]) (by rw [HS.out]; decide)
      have h55 : (CatF w7.heap.size LX) (a.tmps[55]?.getD undef) wq := hl 55 (by first | (simp [Op.operands]; done) | simp [Op.operands, Call.operands]) (by rw [HS.out]; decide)
      obtain ⟨kA, kc, e55, hkc, hko⟩ := h55
      clear hl
      go_simp
      exact ⟨gb_refl _ none, kA, kc, rfl, hkc, hko⟩
    refine HL.out _ (fun a' wz hc => ?_)
    have h56 : (CatV w7.heap.size LX) (a'.eval (.tmp 56)) wz := hc.fact 56 (by rw [HS.out]; decide)
    have hgwz := gb_trans HGW.out hc.grown (.inl rfl)
    have hfr := hc.frame [49, 50, 51, 52, 53, 54, 55, 56, 3] (by rw [HO.out]; kernel_rfl)
    rw [hfr]
    clear hfr hc
    rw [HA.out]
    clear HA HO HL HW HS HGW A8 A10
    clear A O W L
    simp only [List.drop_succ_cons, List.drop_zero, List.foldl_cons, List.foldl_nil, Act.put, List.setIfInBounds_toArray, List.set_cons_succ, List.set_cons_zero]
    generalize a'.eval (.tmp 49) = x49
    generalize a'.eval (.tmp 50) = x50
    generalize a'.eval (.tmp 51) = x51
    generalize a'.eval (.tmp 52) = x52
    generalize a'.eval (.tmp 53) = x53
    generalize a'.eval (.tmp 54) = x54
    generalize a'.eval (.tmp 55) = x55
    generalize a'.eval (.tmp 56) = x56 at h56 ⊢
    generalize a'.eval (.tmp 3) = x3
    clear a'
    obtain ⟨kA, kc, e56, hkc, hko⟩ := h56
    subst e56
    have HKO := hide hko
    have HKC := hide hkc
    have HGZ := hide (gb_trans HG7.out hgwz (.inl rfl))
    have hrr := blk_keep HBZ.out HGZ.out (by simp)
    have HRR := hide hrr
    have z0 := blk_frozen hrr 0
    have z1 := blk_frozen hrr 1
    have z2 := blk_frozen hrr 2
    have z3 := blk_frozen hrr 3
    have y0 : wz.cell? ⟨w.heap.size + 1, 0, none⟩ = some (.int .i64 0) := (by { rw [blk_cell hrr]; rfl })
    have y1 : wz.cell? ⟨w.heap.size + 1, 1, none⟩ = some (.slice none 0 0) := (by { rw [blk_cell hrr]; rfl })
    have y2 : wz.cell? ⟨w.heap.size + 1, 2, none⟩ = some (.slice none 0 0) := (by { rw [blk_cell hrr]; rfl })
    have y3 : wz.cell? ⟨w.heap.size + 1, 3, none⟩ = some (.slice none 0 0) := (by { rw [blk_cell hrr]; rfl })
    clear hrr
    clear hko hkc hgwz
    go_wp2_with fail
    obtain ⟨m0, m1, m2, m3⟩ := C4.put HRR.out (.int .i64 2) (.slice kA LX.length kc) (.slice none 0 0) (.slice none 0 0)
    simp only [put4, Nat.zero_add] at m0 m1 m2 m3
    refine bodyPost_ret (v := .tuple #[.agg #[.int .i64 2, .slice kA LX.length kc, .slice none 0 0, .slice none 0 0], .int .i64 0]) (by simp [results, Tryz.results17, go_sem, m0, m1, m2, m3]) rfl ?_
    rw [HR.out]
    have hlo := own_low HKO.out (show w.heap.size ≤ w7.heap.size by have := HG.out.size; have := HG7.out.size; omega)
    exact ⟨put_four_gb (gb_trans HG.out HGZ.out (.inl rfl)) (Nat.le_succ _) _ _ _ _, kA, kc, HKC.out, rfl, hlo.kept (put_four_row _ _ _ _ _ _) (.inr (own_ne HKO.out HRR.out (by decide)))⟩
end Go.Proofs.YtgepejnooghjbaaGreat

namespace Go.Proofs.YtgepejnooghjbaaGreat
open Go.RowKit
attribute [local go_sem ↓] Go.wp_at_zero Go.wp_at_succ

/-- The sums up to each of the first j places. -/
def prefN (l : List Int) (j : Nat) : List Int := (List.range j).map fun i => sumL (l.take (i + 1))
theorem prefN_len (l : List Int) (j : Nat) : (prefN l j).length = j := by simp [prefN]
theorem prefN_succ (l : List Int) (j : Nat) : prefN l (j + 1) = prefN l j ++ [sumL (l.take (j + 1))] := by
  unfold prefN
  rw [List.range_succ, List.map_append]
  rfl
set_option maxHeartbeats 4000000 in
set_option maxRecDepth 100000 in
theorem sums_int (l : List Int) (hI : ∀ k ∈ l, I64 k) (hl : l.length ≤ 400000) (hok : ∀ k, k < l.length → -9223372036854775807 ≤ sumL (l.take (k + 1)) ∧ sumL (l.take (k + 1)) ≤ 9223372036854775807) (w : World) (B : Nat) (nA : Option Addr) (nc : Nat) (sA : Option Addr) (sc : Nat) (lA : Option Addr) (lc : Nat) (hB : B ≤ w.heap.size) (h : VB w B (.mk 2 l [] []) nA nc sA sc lA lc) : Calls Tryz.prog 18 #[.agg #[.int .i64 2, .slice nA l.length nc, .slice sA 0 sc, .slice lA 0 lc]] w (DoR (.ok (2, prefL l)) w) := by
  obtain ⟨wa, hwa⟩ : ∃ wa, wa = (w.alloc (.cells #[.int .i64 2, .slice nA l.length nc, .slice sA 0 sc, .slice lA 0 lc] 26)).alloc (.cells #[.int .i64 0, .slice none 0 0, .slice none 0 0, .slice none 0 0] 26) := ⟨_, rfl⟩
  have ha : wa.heap[w.heap.size]? = some (.cells #[.int .i64 2, .slice nA l.length nc, .slice sA 0 sc, .slice lA 0 lc] 26 (0, 0)) := by rw [hwa]; exact (Below.heap_alloc _ _ _ (by rw [World.size_alloc]; omega)).trans (heap_alloc_new w _)
  have hz : wa.heap[w.heap.size + 1]? = some (.cells #[.int .i64 0, .slice none 0 0, .slice none 0 0, .slice none 0 0] 26 (0, 0)) := by rw [hwa]; have := heap_alloc_new (w.alloc (.cells #[.int .i64 2, .slice nA l.length nc, .slice sA 0 sc, .slice lA 0 lc] 26)) (.cells #[.int .i64 0, .slice none 0 0, .slice none 0 0, .slice none 0 0] 26); rwa [World.size_alloc] at this
  have HBA := hide ha
  have HBZ := hide hz
  have HSZ := hide (show wa.heap.size = w.heap.size + 2 by rw [hwa]; simp)
  have hga : w.grownBy wa none := by rw [hwa]; exact gb_alloc (gb_alloc (gb_refl w none) _) _
  have HG := hide hga
  have HWE := hide hwa
  have HTK := hide (fun w2 => takes_int 3 (by decide) (by decide) w2)
  have HR := hide (vat_int h)
  have HBB := hide hB
  have HL := hide hl
  have HOK := hide hok
  have H64 := hide hI
  obtain ⟨i1, hi1, hiz, his, hib⟩ := info_parts Tryz.info64
  have HI1 := hide hi1
  have HIZ := hide hiz
  have HIS := hide his
  have HIB := hide hib
  obtain ⟨w3, hmk, hown, hg3⟩ := run_make_full (P := Tryz.prog) wa wa.heap.size 22 2 i1 (.int .i64 0) 1 Tryz.underlying22 HI1.out HIZ.out HIS.out .i64 .i64 l.length (by rw [HIB.out]; have := HL.out; omega) (by unfold maxLen; have := HL.out; omega) (Nat.le_refl _)
  rw [show (madeCells (Value.int .i64 0).cells (l.length * 1)).toList = List.replicate l.length (.int .i64 0) by rw [Nat.mul_one]; exact toList_madeCells_one _ l.length] at hown
  have a0 : wa.cell? ⟨w.heap.size, 0, none⟩ = some (.int .i64 2) := by rw [blk_cell ha]; rfl
  have a1 : wa.cell? ⟨w.heap.size, 1, none⟩ = some (.slice nA l.length nc) := by rw [blk_cell ha]; rfl
  have a2 : wa.cell? ⟨w.heap.size, 2, none⟩ = some (.slice sA 0 sc) := by rw [blk_cell ha]; rfl
  have a3 : wa.cell? ⟨w.heap.size, 3, none⟩ = some (.slice lA 0 lc) := by rw [blk_cell ha]; rfl
  clear ha hz hwa hga h hB hI hi1 hiz his hib hl hok
  go_enter Tryz.func18, Tryz.ntmps18
  go_upto_region 1 with fail
  rw [← HWE.out]
  go_upto_region 5 with (go_at_call 38; refine (HTK.out _).mono ?_; rintro e w1 ⟨rfl, rfl⟩)
  obtain ⟨w4, hw4⟩ : ∃ w4, w4 = w3.alloc (.cells #[.int .i64 0, .int .i64 0] 65) := ⟨_, rfl⟩
  obtain ⟨s5, hs5⟩ : ∃ s5, s5 = w3.heap.size := ⟨_, rfl⟩
  rw [← hw4, ← hs5]
  have hg4 : w3.grownBy w4 none := by rw [hw4]; exact gb_alloc (gb_refl w3 none) _
  have HB5 := hide (show w4.heap[s5]? = some (.cells #[.int .i64 0, .int .i64 0] 65 (0, 0)) by rw [hw4, hs5]; exact heap_alloc_new w3 _)
  have HOWN := hide (hown.kept hg4 (by cases (Value.slice (some ⟨wa.heap.size, 0, none⟩) l.length l.length).ownBlock <;> simp))
  have HG4 := hide (gb_trans hg3 hg4 (.inl rfl))
  have hs5l : wa.heap.size < s5 := by
    rw [hs5]
    rcases hown.2 with ⟨h0, _⟩ | ⟨g, _, _, h0, _, hh, _⟩
    · simp at h0
    · simp only [Value.slice.injEq, Option.some.injEq, Addr.mk.injEq, and_true, true_and] at h0
      obtain ⟨rfl, _⟩ := h0
      exact blk_lt hh
  have HS5 := hide hs5l
  clear hs5l
  have hba := blk_keep HBA.out HG4.out (by simp)
  clear a0 a1 a2 a3 hmk
  obtain ⟨a0, a1, a2, a3⟩ : C4 w4 w.heap.size 0 (.int .i64 2) (.slice nA l.length nc) (.slice sA 0 sc) (.slice lA 0 lc) := ⟨by rw [blk_cell hba]; rfl, by rw [blk_cell hba]; rfl, by rw [blk_cell hba]; rfl, by rw [blk_cell hba]; rfl⟩
  clear hw4 hs5 hg4 hown hg3 hba
  go_wp2_with fail
  clear a0 a1 a2 a3
  go_loopw [22] (fun i wr => ∃ j : Nat, i = .int .i64 (j : Int) ∧ j ≤ l.length ∧ wr.heap[s5]? = some (.cells #[.int .i64 (sumL (l.take j) / 4294967296), .int .i64 (sumL (l.take j) % 4294967296)] 65 (0, 0)) ∧
    wr.ownsRow wa.heap.size 2 1 (.slice (some ⟨wa.heap.size, 0, none⟩) l.length l.length) l.length (i64s (prefN l j) ++ List.replicate (l.length - j) (.int .i64 0)) ∧ wa.grownBy wr none) (fun i _ => l.length - (intOf i).toNat)
  case atStart => exact ⟨0, rfl, Nat.zero_le _, HB5.out, by simpa [i64s, prefN] using HOWN.out, HG4.out⟩
  case round =>
    obtain ⟨j, rfl, hj, hb5, how, hgr⟩ := hrel
    by_cases hlt : j < l.length
    · have hlt1 : (j : Int) < (l.length : Int) := by omega
      have h6 : IntKind.i64.wrap ((j : Int) + 1) = ((j + 1 : Nat) : Int) := by rw [IntKind.wrap_i64]; have := HL.out; omega
      obtain ⟨ad, hA, _, hcl0⟩ := HR.out.i64 hlt
      have hcl := cell_gb hcl0 (gb_trans HG.out hgr (.inl rfl))
      clear hcl0
      subst hA
      obtain ⟨n, hn⟩ : ∃ n, n = l[j] := ⟨_, rfl⟩
      rw [← hn] at hcl
      have hs1 := sumL_in (l.take (j + 1)) (fun n hn => H64.out n (List.mem_of_mem_take hn))
      have ht : l.take (j + 1) = l.take j ++ [n] := by rw [hn]; exact List.take_succ_eq_append_getElem hlt
      have hsum : sumL (l.take (j + 1)) = sumL (l.take j) + addN n := by rw [ht, sumL_app]; simp [sumL]
      have hlen : (l.take (j + 1)).length ≤ 400000 := by have := HL.out; simp; omega
      have hs64 : Sum64 (sumL (l.take (j + 1))) := by constructor <;> omega
      have HPL := hide (fun w2 => plus_any (sumL (l.take j)) (addN n) (by rw [← hsum]; exact hs64) w2)
      have HTO := hide (fun w2 => totalOf_any n w2)
      have HNU := hide (fun w2 => (show Calls Tryz.prog 44 #[totV (sumL (l.take (j + 1)))] w2 fun e w' => e = .returned (.tuple #[.int .i64 (sumL (l.take (j + 1))), .bool true]) ∧ w2.grownBy w' none by
        have h := number_any (sumL (l.take (j + 1))) hs64 w2
        unfold numR at h
        rwa [if_pos (HOK.out j hlt)] at h))
      rw [← hsum] at HPL
      have HGR := hide hgr
      have HLT := hide hlt
      have HOW := hide how
      have HC1 := hide hb5
      have HPN := hide (prefN_succ l j)
      clear hs1 ht hsum hlen hgr hlt hj hn hs64 how
      unfold totV at HPL HTO HNU
      generalize hs2 : sumL (l.take (j + 1)) = s2 at *
      have HS2 := hide hs2
      clear hs2
      generalize sumL (l.take j) = s1 at *
      generalize addN n = an at *
      have z0 := blk_cell hb5 0
      have z1 := blk_cell hb5 1
      simp only [List.getElem?_toArray, List.getElem?_cons_zero, List.getElem?_cons_succ] at z0 z1
      clear hb5
      go_upto_region 8 with fail
      clear hcl
      go_cut [] (fun wc => wc.heap[s5]? = some (.cells #[.int .i64 (s2 / 4294967296), .int .i64 (s2 % 4294967296)] 65 (0, 0)) ∧ wc.ownsRow wa.heap.size 2 1 (.slice (some ⟨wa.heap.size, 0, none⟩) l.length l.length) l.length (i64s (prefN l j) ++ List.replicate (l.length - j) (.int .i64 0)) ∧ wa.grownBy wc none)
      case first =>
        go_region_law (first
          | (go_simp; go_at_call 43; refine (HTO.out _).mono ?_; rintro e w1 ⟨rfl, hg1⟩; have HG1 := hide (show wr.grownBy w1 none from ⟨hg1.os, hg1.tape, hg1.output, hg1.size, hg1.block⟩); have z0 := cell_gb z0 HG1.out; have z1 := cell_gb z1 HG1.out; clear hg1)
          | (go_simp; go_at_call 42; refine (HPL.out _).mono ?_; rintro e w2 ⟨rfl, hg2⟩; have HG2 := hide (show w1.grownBy w2 none from ⟨hg2.os, hg2.tape, hg2.output, hg2.size, hg2.block⟩); have hb2 := blk_keep HC1.out (gb_trans HG1.out HG2.out (.inl rfl)) (by simp); have HC2 := hide hb2; have z0 := cell_gb z0 HG2.out; have z1 := cell_gb z1 HG2.out; have y0 := blk_frozen hb2 0; have y1 := blk_frozen hb2 1; clear hg2 hb2))
        all_goals
          go_wp2_with fail
          go_meet
          case rel =>
            have h12 := gb_trans HG1.out HG2.out (.inl rfl)
            refine ⟨put_two HC2.out _ _, ?_, ?_⟩
            · exact (HOW.out.kept h12 (by cases (Value.slice (some ⟨wa.heap.size, 0, none⟩) l.length l.length).ownBlock <;> simp)).kept (gb_setCell (gb_setCell (gb_refl w2 (some s5)) (.inl rfl) _) (.inl rfl) _) (.inr (by have := HS5.out; simp [Value.ownBlock]; omega))
            · exact gb_setCell (gb_setCell (gb_trans HGR.out h12 (.inl rfl)) (.inr (Nat.le_of_lt HS5.out)) _) (.inr (Nat.le_of_lt HS5.out)) _
      case rest =>
        obtain ⟨hb5, how, hgc⟩ := hcut
        have HC5 := hide hb5
        have HOC := hide how
        have HGC := hide hgc
        clear HC1 HOW HGR z0 z1
        have z0 := blk_cell hb5 0
        have z1 := blk_cell hb5 1
        simp only [List.getElem?_toArray, List.getElem?_cons_zero, List.getElem?_cons_succ] at z0 z1
        clear hb5 hgc
        go_wp2_with (go_at_call 44; refine (HNU.out _).mono ?_; rintro e w5 ⟨rfl, hg5⟩; have HG5 := hide hg5; have HO5 := hide (HOC.out.kept hg5 (by cases (Value.slice (some ⟨wa.heap.size, 0, none⟩) l.length l.length).ownBlock <;> simp)); have c5 := HO5.out.cellAt j (by have := HLT.out; omega); rw [List.getElem?_append_right (by simp [i64s, prefN_len]), show j - (i64s (prefN l j)).length = 0 by simp [i64s, prefN_len], List.getElem?_replicate, if_pos (by have := HLT.out; omega)] at c5; have f5 := HO5.out.frozenAt j; clear hg5 z0 z1)
        go_roundw
        case rel =>
          have hlt := HLT.out
          have hgs : w5.grownBy (w5.setCell ⟨wa.heap.size, j, none⟩ (.int .i64 s2)) (some wa.heap.size) := gb_setCell (gb_refl w5 _) (.inl rfl) _
          refine ⟨j + 1, by go_num, by omega, by rw [HS2.out]; exact blk_keep (blk_keep HC5.out HG5.out (by simp)) hgs (by intro e; injection e with e; have := HS5.out; omega), ?_, gb_setCell (gb_trans HGC.out HG5.out (.inl rfl)) (.inr (Nat.le_refl _)) _⟩
          have h1 := (HO5.out.stored j (.int .i64 s2)).1
          obtain ⟨k2, hk2⟩ : ∃ k, l.length - j = k + 1 := ⟨l.length - j - 1, by omega⟩
          rw [hk2] at h1
          have h2 := i64s_set_mid (prefN l j) s2 k2
          rw [prefN_len] at h2
          rw [h2] at h1
          rw [show l.length - (j + 1) = k2 by omega, HPN.out]
          exact h1
        case measure => have := HLT.out; simp [intOf]; omega
    · have hlt1 : ¬ (j : Int) < (l.length : Int) := by omega
      have hjl : j = l.length := by omega
      subst hjl
      rw [Nat.sub_self, List.replicate_zero, List.append_nil] at how
      have HOW := hide how
      have HGR := hide hgr
      have hba := blk_keep HBA.out hgr (by simp)
      obtain ⟨a0, a1, a2, a3⟩ : C4 wr w.heap.size 0 (.int .i64 2) (.slice nA l.length nc) (.slice sA 0 sc) (.slice lA 0 lc) := ⟨by rw [blk_cell hba]; rfl, by rw [blk_cell hba]; rfl, by rw [blk_cell hba]; rfl, by rw [blk_cell hba]; rfl⟩
      have hrr := blk_keep HBZ.out HGR.out (by simp)
      have HRR := hide hrr
      have z0 := blk_frozen hrr 0
      have z1 := blk_frozen hrr 1
      have z2 := blk_frozen hrr 2
      have z3 := blk_frozen hrr 3
      have y0 : wr.cell? ⟨w.heap.size + 1, 0, none⟩ = some (.int .i64 0) := (by { rw [blk_cell hrr]; rfl })
      have y1 : wr.cell? ⟨w.heap.size + 1, 1, none⟩ = some (.slice none 0 0) := (by { rw [blk_cell hrr]; rfl })
      have y2 : wr.cell? ⟨w.heap.size + 1, 2, none⟩ = some (.slice none 0 0) := (by { rw [blk_cell hrr]; rfl })
      have y3 : wr.cell? ⟨w.heap.size + 1, 3, none⟩ = some (.slice none 0 0) := (by { rw [blk_cell hrr]; rfl })
      clear hrr
      clear how hgr hlt hj hba hb5
      go_wp2_with (go_at_call 45; refine (summed_any 2 _).mono ?_; rintro e w5 ⟨he, rfl⟩; obtain rfl : e = .returned (.int .i64 2) := he)
      obtain ⟨m0, m1, m2, m3⟩ := C4.put HRR.out (.int .i64 2) (.slice (some ⟨wa.heap.size, 0, none⟩) l.length l.length) (.slice none 0 0) (.slice none 0 0)
      simp only [put4, Nat.zero_add] at m0 m1 m2 m3
      refine bodyPost_ret (v := .tuple #[.agg #[.int .i64 2, .slice (some ⟨wa.heap.size, 0, none⟩) l.length l.length, .slice none 0 0, .slice none 0 0], .int .i64 0]) (by simp [results, Tryz.results18, go_sem, m0, m1, m2, m3]) rfl ?_
      have hpl : (prefL l).length = l.length := prefN_len l l.length
      have hlo := own_low HOW.out (show w.heap.size ≤ wa.heap.size by have := HG.out.size; omega)
      refine ⟨put_four_gb (gb_trans HG.out HGR.out (.inl rfl)) (Nat.le_succ _) _ _ _ _, some ⟨wa.heap.size, 0, none⟩, l.length, by rw [hpl]; exact Nat.le_refl _, by rw [hpl], ?_⟩
      rw [hpl]
      exact hlo.kept (put_four_row _ _ _ _ _ _) (.inr (by have := HSZ.out; simp [Value.ownBlock]; omega))
end Go.Proofs.YtgepejnooghjbaaGreat
