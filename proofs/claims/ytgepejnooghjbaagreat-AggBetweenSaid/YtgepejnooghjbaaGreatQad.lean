/-
  Small makers: symbols, atoms.
-/
import Derived.Test.YtgepejnooghjbaaGreatQac

namespace Go.Proofs.YtgepejnooghjbaaGreat
open Go.RowKit
attribute [local go_sem ↓] Go.wp_at_zero Go.wp_at_succ

/-- What stands at a place. -/
def elemV (v : Vl) (i : Nat) : Vl :=
  if v.t = 0 then v.l.getD i v else if v.t = 3 then .mk (-3) [] [v.s.getD i ⟨#[]⟩] [] else if 0 < v.t ∧ hasN v.t = true then .mk (-v.t) [v.n.getD i 0] [] [] else v
/-- A value that lies in blocks below B, or an error. -/
def GotV (x : Vl) (w : World) (B : Nat) (e : Ending) (w' : World) : Prop := ∃ nA nc sA sc lA lc, e = .returned (.tuple #[.agg #[.int .i64 x.t, .slice nA x.n.length nc, .slice sA x.s.length sc, .slice lA x.l.length lc], .int .i64 0]) ∧ VB w' B x nA nc sA sc lA lc ∧ w.grownBy w' none
def ErrV (k : Int) (w : World) (e : Ending) (w' : World) : Prop := e = .returned (.tuple #[.agg #[.int .i64 0, .slice none 0 0, .slice none 0 0, .slice none 0 0], .int .i64 k]) ∧ w.grownBy w' none

theorem put4_to {w w' : World} {g i : Nat} {c0 c1 c2 c3 : Value} (h : w.grownBy w' none) (hg : w.heap.size ≤ g) : w.grownBy (put4 w' g i c0 c1 c2 c3) none := gb_trans h (put4_gb w' g i c0 c1 c2 c3) (.inr (.inr ⟨_, rfl, hg⟩))
theorem VB.put4 {w : World} {B g i : Nat} {c0 c1 c2 c3 : Value} {v : Vl} {nA : Option Addr} {nc : Nat} {sA : Option Addr} {sc : Nat} {lA : Option Addr} {lc : Nat} (h : VB w B v nA nc sA sc lA lc) (hB : B ≤ w.heap.size) (hg : B ≤ g) :
    VB (put4 w g i c0 c1 c2 c3) B v nA nc sA sc lA lc := by
  have k := put4_gb w g i c0 c1 c2 c3
  exact ⟨h.n.grown k hB (fun x e => by injection e with e; omega), h.s.grown k hB (fun x e => by injection e with e; omega), h.l.grown k hB (fun x e => by injection e with e; omega), h.hn, h.hs, h.hl⟩

set_option maxHeartbeats 8000000 in
set_option maxRecDepth 100000 in
theorem elem_err (v : Vl) (i : Int) (w : World) (B : Nat) (nA : Option Addr) (nc : Nat) (sA : Option Addr) (sc : Nat) (lA : Option Addr) (lc : Nat) (hi : i < 0 ∨ (v.count : Int) ≤ i) (ht : v.tot ≤ 1100000) (hB : B ≤ w.heap.size) (h : VB w B v nA nc sA sc lA lc) :
    Calls Tryz.prog 142 #[.agg #[.int .i64 v.t, .slice nA v.n.length nc, .slice sA v.s.length sc, .slice lA v.l.length lc], .int .i64 i] w (ErrV 33 w) := by
  obtain ⟨wa, hwa⟩ : ∃ wa, wa = (w.alloc (.cells #[.int .i64 v.t, .slice nA v.n.length nc, .slice sA v.s.length sc, .slice lA v.l.length lc] 26)).alloc (.cells #[.int .i64 0, .slice none 0 0, .slice none 0 0, .slice none 0 0] 26) := ⟨_, rfl⟩
  have hg : w.grownBy wa none := by rw [hwa]; exact gb_alloc (gb_alloc (gb_refl w none) _) _
  have hr : C4 wa (w.heap.size + 1) 0 (.int .i64 0) (.slice none 0 0) (.slice none 0 0) (.slice none 0 0) := by rw [hwa]; exact C4.box2 w _ _ _ _ _ _
  have hrb : wa.heap[w.heap.size + 1]? = some (.cells #[.int .i64 0, .slice none 0 0, .slice none 0 0, .slice none 0 0] 26 (0, 0)) := by
    have h := heap_alloc_new (w.alloc (.cells #[.int .i64 v.t, .slice nA v.n.length nc, .slice sA v.s.length sc, .slice lA v.l.length lc] 26)) (.cells #[.int .i64 0, .slice none 0 0, .slice none 0 0, .slice none 0 0] 26)
    have e : (w.alloc (.cells #[.int .i64 v.t, .slice nA v.n.length nc, .slice sA v.s.length sc, .slice lA v.l.length lc] 26)).heap.size = w.heap.size + 1 := by simp
    rw [e] at h
    rw [hwa]
    exact h
  have CN := hide (fun w2 (k : wa.grownBy w2 none) => count_any v w2 B nA nc sA sc lA lc ht (Nat.le_trans (Nat.le_trans hB hg.size) k.size) ((h.gb hg hB).gb k (Nat.le_trans hB hg.size)))
  have HG := hide hg
  have HRB := hide hrb
  have HWE := hide hwa
  clear ht hB h hg hwa hrb
  by_cases h0 : i < 0
  · clear hi
    have p0 : wa.cell? ⟨w.heap.size + 1, 0, none⟩ = some (.int .i64 0) := hr.c0
    have p1 : wa.cell? ⟨w.heap.size + 1, 1, none⟩ = some (.slice none 0 0) := hr.c1
    have p2 : wa.cell? ⟨w.heap.size + 1, 2, none⟩ = some (.slice none 0 0) := hr.c2
    have p3 : wa.cell? ⟨w.heap.size + 1, 3, none⟩ = some (.slice none 0 0) := hr.c3
    have z0 := blk_frozen HRB.out 0
    have z1 := blk_frozen HRB.out 1
    have z2 := blk_frozen HRB.out 2
    have z3 := blk_frozen HRB.out 3
    rw [HWE.out] at p0 p1 p2 p3 z0 z1 z2 z3
    go_enter Tryz.func142, Tryz.ntmps142
    go_wp2_with fail
    rw [← HWE.out] at p0 p1 p2 p3 ⊢
    refine bodyPost_ret (v := .tuple #[.agg #[.int .i64 0, .slice none 0 0, .slice none 0 0, .slice none 0 0], .int .i64 33]) (by simp [results, Tryz.results142, go_sem, p0, p1, p2, p3]) rfl ?_
    exact ⟨rfl, HG.out⟩
  · have hc : (v.count : Int) ≤ i := by omega
    have h1 : 0 ≤ i := by omega
    clear hi h0
    generalize v.count = m at *
    go_enter Tryz.func142, Tryz.ntmps142
    go_wp2_with fail
    rw [← HWE.out]
    refine (CN.out _ (gb_refl wa none)).mono ?_
    rintro e w1 ⟨rfl, hg1⟩
    have hr1 := (hg1.block _ (blk_lt HRB.out) (by simp)).trans HRB.out
    have p0 : w1.cell? ⟨w.heap.size + 1, 0, none⟩ = some (.int .i64 0) := by rw [blk_cell hr1]; rfl
    have p1 : w1.cell? ⟨w.heap.size + 1, 1, none⟩ = some (.slice none 0 0) := by rw [blk_cell hr1]; rfl
    have p2 : w1.cell? ⟨w.heap.size + 1, 2, none⟩ = some (.slice none 0 0) := by rw [blk_cell hr1]; rfl
    have p3 : w1.cell? ⟨w.heap.size + 1, 3, none⟩ = some (.slice none 0 0) := by rw [blk_cell hr1]; rfl
    have z0 := blk_frozen hr1 0
    have z1 := blk_frozen hr1 1
    have z2 := blk_frozen hr1 2
    have z3 := blk_frozen hr1 3
    have HG1 := hide hg1
    clear hg1 hr1
    go_wp2_with fail
    refine bodyPost_ret (v := .tuple #[.agg #[.int .i64 0, .slice none 0 0, .slice none 0 0, .slice none 0 0], .int .i64 33]) (by simp [results, Tryz.results142, go_sem, p0, p1, p2, p3]) rfl ?_
    exact ⟨rfl, put4_to (gb_trans HG.out HG1.out (.inl rfl)) (by omega)⟩

theorem VB.vecS {w : World} {B : Nat} {b o c : Nat} {t : Int} {x : ByteArray} (hb : b < B) (hx : w.cell? ⟨b, o, none⟩ = some (.string x)) (hc : 1 ≤ c) : VB w B (.mk t [] [x] []) none 0 (some ⟨b, o, none⟩) c none 0 :=
  ⟨Rd.nil_, fun _ => ⟨_, rfl, hb, fun j u hu => by
    obtain ⟨rfl, rfl⟩ : j = 0 ∧ u = .string x := by
      rcases j with _ | j
      · simp [strs, Vl.s] at hu; exact ⟨rfl, hu.symm⟩
      · simp [strs, Vl.s] at hu
    exact hx⟩, RdV.nil_, Nat.le_refl _, hc, Nat.le_refl _⟩
theorem VB.vecN {w : World} {B : Nat} {b o c : Nat} {t x : Int} (hb : b < B) (hx : w.cell? ⟨b, o, none⟩ = some (.int .i64 x)) (hc : 1 ≤ c) : VB w B (.mk t [x] [] []) (some ⟨b, o, none⟩) c none 0 none 0 :=
  ⟨fun _ => ⟨_, rfl, hb, fun j u hu => by
    obtain ⟨rfl, rfl⟩ : j = 0 ∧ u = .int .i64 x := by
      rcases j with _ | j
      · simp [i64s, Vl.n] at hu; exact ⟨rfl, hu.symm⟩
      · simp [i64s, Vl.n] at hu
    exact hx⟩, Rd.nil_, RdV.nil_, hc, Nat.le_refl _, Nat.le_refl _⟩

set_option maxHeartbeats 16000000 in
set_option maxRecDepth 100000 in
theorem elem_got0 (v x : Vl) (i : Nat) (HXE : Hid (elemV v i = x)) (w : World) (B : Nat) (nA : Option Addr) (nc : Nat) (sA : Option Addr) (sc : Nat) (lA : Option Addr) (lc : Nat) (hi : i < v.count) (ht : v.tot ≤ 1100000) (hB : B ≤ w.heap.size) (h : VB w B v nA nc sA sc lA lc) :
    Calls Tryz.prog 142 #[.agg #[.int .i64 v.t, .slice nA v.n.length nc, .slice sA v.s.length sc, .slice lA v.l.length lc], .int .i64 (i : Nat)] w (GotV x w B) := by
  obtain ⟨l1, l2, l3, l4⟩ := Vl.lens v ht
  have hi9 : i ≤ 1100000 := by have := Vl.count_le v.depth v (Nat.le_refl _); omega
  obtain ⟨wa, hwa⟩ : ∃ wa, wa = (w.alloc (.cells #[.int .i64 v.t, .slice nA v.n.length nc, .slice sA v.s.length sc, .slice lA v.l.length lc] 26)).alloc (.cells #[.int .i64 0, .slice none 0 0, .slice none 0 0, .slice none 0 0] 26) := ⟨_, rfl⟩
  have hg : w.grownBy wa none := by rw [hwa]; exact gb_alloc (gb_alloc (gb_refl w none) _) _
  have hc := (C4.box w (.int .i64 v.t) (.slice nA v.n.length nc) (.slice sA v.s.length sc) (.slice lA v.l.length lc) 26).gb (gb_alloc (gb_refl _ none) (.cells #[.int .i64 0, .slice none 0 0, .slice none 0 0, .slice none 0 0] 26))
  have hrb : wa.heap[w.heap.size + 1]? = some (.cells #[.int .i64 0, .slice none 0 0, .slice none 0 0, .slice none 0 0] 26 (0, 0)) := by
    have h := heap_alloc_new (w.alloc (.cells #[.int .i64 v.t, .slice nA v.n.length nc, .slice sA v.s.length sc, .slice lA v.l.length lc] 26)) (.cells #[.int .i64 0, .slice none 0 0, .slice none 0 0, .slice none 0 0] 26)
    have e : (w.alloc (.cells #[.int .i64 v.t, .slice nA v.n.length nc, .slice sA v.s.length sc, .slice lA v.l.length lc] 26)).heap.size = w.heap.size + 1 := by simp
    rw [e] at h
    rw [hwa]
    exact h
  rw [← hwa] at hc
  have hbw := Nat.le_trans hB hg.size
  have CN := hide (fun w2 (k : wa.grownBy w2 none) => count_any v w2 B nA nc sA sc lA lc ht (Nat.le_trans hbw k.size) ((h.gb hg hB).gb k hbw))
  have HV := hide (h.gb hg hB)
  have HBW := hide hbw
  have HBB := hide hB
  have HG := hide hg
  have HRB := hide hrb
  have HC := hide hc
  have HWE := hide hwa
  have HCD := hide (Vl.count_def v)
  have hi1 : (i : Int) < (v.count : Nat) := by omega
  have HI := hide hi
  clear ht hB h hg hwa hrb hc hbw hi
  generalize v.count = m at *
  go_enter Tryz.func142, Tryz.ntmps142
  go_wp2_with fail
  rw [← HWE.out]
  refine (CN.out _ (gb_refl wa none)).mono ?_
  rintro e w1 ⟨rfl, hg1⟩
  have hr1 := (hg1.block _ (blk_lt HRB.out) (by simp)).trans HRB.out
  obtain ⟨c0, c1, c2, c3⟩ := HC.out.gb hg1
  have b0 : w1.cell? ⟨w.heap.size, 0, none⟩ = some (.int .i64 v.t) := c0
  have b1 : w1.cell? ⟨w.heap.size, 1, none⟩ = some (.slice nA v.n.length nc) := c1
  have b2 : w1.cell? ⟨w.heap.size, 2, none⟩ = some (.slice sA v.s.length sc) := c2
  have b3 : w1.cell? ⟨w.heap.size, 3, none⟩ = some (.slice lA v.l.length lc) := c3
  have p0 : w1.cell? ⟨w.heap.size + 1, 0, none⟩ = some (.int .i64 0) := by rw [blk_cell hr1]; rfl
  have p1 : w1.cell? ⟨w.heap.size + 1, 1, none⟩ = some (.slice none 0 0) := by rw [blk_cell hr1]; rfl
  have p2 : w1.cell? ⟨w.heap.size + 1, 2, none⟩ = some (.slice none 0 0) := by rw [blk_cell hr1]; rfl
  have p3 : w1.cell? ⟨w.heap.size + 1, 3, none⟩ = some (.slice none 0 0) := by rw [blk_cell hr1]; rfl
  have z0 := blk_frozen hr1 0
  have z1 := blk_frozen hr1 1
  have z2 := blk_frozen hr1 2
  have z3 := blk_frozen hr1 3
  have HV1 := hide (HV.out.gb hg1 HBW.out)
  have HBW1 := hide (Nat.le_trans HBW.out hg1.size)
  have HG1 := hide (gb_trans HG.out hg1 (.inl rfl))
  clear hg1 hr1 c0 c1 c2 c3
  by_cases h0 : v.t = 0
  · have HM : Hid (m = v.l.length) := hide (by rw [HCD.out, h0]; simp)
    have hil : i < v.l.length := by rw [← HM.out]; exact HI.out
    have hil1 : (i : Int) < (v.l.length : Int) := by omega
    have e0 := int_beq_t h0
    have HE : Hid (elemV v i = v.l[i]) := hide (by unfold elemV; rw [if_pos h0]; simp [List.getD, hil])
    obtain ⟨q, o, xA, xc, yA, yc, zA, zc, rfl, hqB, ⟨d0, d1, d2, d3⟩, hvb⟩ := HV1.out.l.at_ hil
    have HVB := hide hvb
    obtain rfl : v.l[i] = x := HE.out.symm.trans HXE.out
    clear h0 hvb
    go_wp2_with fail
    refine bodyPost_ret (v := .tuple #[.agg #[.int .i64 v.l[i].t, .slice xA v.l[i].n.length xc, .slice yA v.l[i].s.length yc, .slice zA v.l[i].l.length zc], .int .i64 0]) (by simp [results, Tryz.results142, go_sem, p0, p1, p2, p3]) rfl ?_
    exact ⟨xA, xc, yA, yc, zA, zc, rfl, HVB.out.put4 HBW1.out (by have := HBB.out; omega), put4_to HG1.out (by omega)⟩
  have e0 := int_beq_f h0
  by_cases h3 : v.t = 3
  · have HM : Hid (m = v.s.length) := hide (by rw [HCD.out, h3]; simp)
    have hil : i < v.s.length := by rw [← HM.out]; exact HI.out
    have hil1 : (i : Int) < (v.s.length : Int) := by omega
    have e3 := int_beq_t h3
    have HE : Hid (elemV v i = .mk (-3) [] [v.s[i]] []) := hide (by unfold elemV; rw [if_neg h0, if_pos h3]; simp [List.getD, hil])
    obtain ⟨q, o, hA, hqB, hcell⟩ := HV1.out.s.lay (by intro e; have h7 := strs_length v.s; rw [e] at h7; simp at h7; omega)
    subst hA
    have HX := hide (hcell i _ (show (strs v.s)[i]? = some (.string v.s[i]) by simp [strs, hil]))
    have hsc : i + 1 ≤ sc := by have := HV1.out.hs; omega
    have hsc1 : (i : Int) + 1 ≤ (sc : Int) := by omega
    rw [h3] at b0
    obtain rfl : Vl.mk (-3) [] [v.s[i]] [] = x := HE.out.symm.trans HXE.out
    have hw1 : IntKind.i64.wrap ((i : Int) + 1) = (i : Int) + 1 := by rw [IntKind.wrap_i64]; omega
    have hw0 : (0 : Int) ≤ (i : Int) := by omega
    have hw2 : (i : Int) ≤ (i : Int) + 1 := by omega
    have hwn : IntKind.i64.wrap (-3) = -3 := by rw [IntKind.wrap_i64]; omega
    have hne : ¬ sc = i := by omega
    clear h0 h3 hcell
    go_wp2_with fail
    go_region_held3 (fun w' => w'.cell? ⟨w.heap.size, 0, none⟩ = some (.int .i64 3) ∧ w'.cell? ⟨w.heap.size, 2, none⟩ = some (.slice (some ⟨q, o, none⟩) v.s.length sc)) (first | exact ⟨b0, b2⟩ | go_keep) (fail)
    go_wp2_with fail
    refine bodyPost_ret (v := .tuple #[.agg #[.int .i64 (-3), .slice none 0 0, .slice (some ⟨q, o + i, none⟩) 1 (sc - i), .slice none 0 0], .int .i64 0]) (by simp [results, Tryz.results142, go_sem, p0, p1, p2, p3]) rfl ?_
    refine ⟨none, 0, some ⟨q, o + i, none⟩, sc - i, none, 0, rfl, ?_, ?_⟩
    · exact ((VB.vecS (w := w1) hqB HX.out (by omega)).put4 HBW1.out (by have := HBB.out; omega)).gb (gb_drew (gb_refl _ none)) (by rw [put4_size]; exact HBW1.out)
    · exact gb_drew (put4_to HG1.out (by omega))
  have e3 := int_beq_f h3
  by_cases hp : 0 < v.t ∧ hasN v.t = true
  · have hmem : v.t = 1 ∨ v.t = 2 ∨ v.t = 4 ∨ v.t = 5 := by
      have h := hp.2
      have h' := hp.1
      unfold hasN at h
      simp only [Bool.or_eq_true, beq_iff_eq] at h
      omega
    have HM : Hid (m = v.n.length) := hide (by rw [HCD.out, if_pos hmem])
    have hil : i < v.n.length := by rw [← HM.out]; exact HI.out
    have hil1 : (i : Int) < (v.n.length : Int) := by omega
    have HE : Hid (elemV v i = .mk (-v.t) [v.n[i]] [] []) := hide (by unfold elemV; rw [if_neg h0, if_neg h3, if_pos hp]; simp [List.getD, hil])
    obtain ⟨q, o, hA, hqB, hcell⟩ := HV1.out.n.lay (by intro e; have h7 := i64s_length v.n; rw [e] at h7; simp at h7; omega)
    subst hA
    have HX := hide (hcell i _ (show (i64s v.n)[i]? = some (.int .i64 v.n[i]) by simp [i64s, hil]))
    have hsc : i + 1 ≤ nc := by have := HV1.out.hn; omega
    have hsc1 : (i : Int) + 1 ≤ (nc : Int) := by omega
    obtain rfl : Vl.mk (-v.t) [v.n[i]] [] [] = x := HE.out.symm.trans HXE.out
    have HHN := hide (hasN_any v.t)
    rw [hp.2] at HHN
    have hpos := hp.1
    have hw1 : IntKind.i64.wrap ((i : Int) + 1) = (i : Int) + 1 := by rw [IntKind.wrap_i64]; omega
    have hw0 : (0 : Int) ≤ (i : Int) := by omega
    have hw2 : (i : Int) ≤ (i : Int) + 1 := by omega
    have hwn : IntKind.i64.wrap (-v.t) = -v.t := by rw [IntKind.wrap_i64]; omega
    have hne : ¬ nc = i := by omega
    clear h0 h3 hcell hp hmem
    go_wp2_with (go_at_call 86; refine (HHN.out _).mono ?_; rintro e w2 ⟨rfl, rfl⟩)
    go_region_held3 (fun w' => w'.cell? ⟨w.heap.size, 0, none⟩ = some (.int .i64 v.t) ∧ w'.cell? ⟨w.heap.size, 1, none⟩ = some (.slice (some ⟨q, o, none⟩) v.n.length nc)) (first | exact ⟨b0, b1⟩ | go_keep) (fail)
    go_wp2_with fail
    refine bodyPost_ret (v := .tuple #[.agg #[.int .i64 (-v.t), .slice (some ⟨q, o + i, none⟩) 1 (nc - i), .slice none 0 0, .slice none 0 0], .int .i64 0]) (by simp [results, Tryz.results142, go_sem, p0, p1, p2, p3]) rfl ?_
    refine ⟨some ⟨q, o + i, none⟩, nc - i, none, 0, none, 0, rfl, ?_, ?_⟩
    · exact ((VB.vecN (w := w1) hqB HX.out (by omega)).put4 HBW1.out (by have := HBB.out; omega)).gb (gb_drew (gb_refl _ none)) (by rw [put4_size]; exact HBW1.out)
    · exact gb_drew (put4_to HG1.out (by omega))
  · have HE : Hid (elemV v i = v) := hide (by unfold elemV; rw [if_neg h0, if_neg h3, if_neg hp])
    obtain rfl : v = x := HE.out.symm.trans HXE.out
    have HHN := hide (hasN_any v.t)
    by_cases hpos : 0 < v.t
    · have hf : hasN v.t = false := by
        cases hh : hasN v.t
        · rfl
        · exact absurd ⟨hpos, hh⟩ hp
      rw [hf] at HHN
      clear h0 h3 hp hf
      go_wp2_with (go_at_call 86; refine (HHN.out _).mono ?_; rintro e w2 ⟨rfl, rfl⟩)
      refine bodyPost_ret (v := .tuple #[.agg #[.int .i64 v.t, .slice nA v.n.length nc, .slice sA v.s.length sc, .slice lA v.l.length lc], .int .i64 0]) (by simp [results, Tryz.results142, go_sem, p0, p1, p2, p3]) rfl ?_
      exact ⟨nA, nc, sA, sc, lA, lc, rfl, HV1.out.put4 HBW1.out (by have := HBB.out; omega), put4_to HG1.out (by omega)⟩
    · have hpos1 : v.t ≤ 0 := by omega
      clear h0 h3 hp
      go_wp2_with fail
      refine bodyPost_ret (v := .tuple #[.agg #[.int .i64 v.t, .slice nA v.n.length nc, .slice sA v.s.length sc, .slice lA v.l.length lc], .int .i64 0]) (by simp [results, Tryz.results142, go_sem, p0, p1, p2, p3]) rfl ?_
      exact ⟨nA, nc, sA, sc, lA, lc, rfl, HV1.out.put4 HBW1.out (by have := HBB.out; omega), put4_to HG1.out (by omega)⟩
theorem elem_got (v : Vl) (i : Nat) (w : World) (B : Nat) (nA : Option Addr) (nc : Nat) (sA : Option Addr) (sc : Nat) (lA : Option Addr) (lc : Nat) (hi : i < v.count) (ht : v.tot ≤ 1100000) (hB : B ≤ w.heap.size) (h : VB w B v nA nc sA sc lA lc) :
    Calls Tryz.prog 142 #[.agg #[.int .i64 v.t, .slice nA v.n.length nc, .slice sA v.s.length sc, .slice lA v.l.length lc], .int .i64 (i : Nat)] w (GotV (elemV v i) w B) := elem_got0 v _ i (hide rfl) w B nA nc sA sc lA lc hi ht hB h
end Go.Proofs.YtgepejnooghjbaaGreat

namespace Go.Proofs.YtgepejnooghjbaaGreat
open Go.RowKit
attribute [local go_sem ↓] Go.wp_at_zero Go.wp_at_succ

theorem Own.lit {w : World} {b : Nat} {cs : Array Value} {t : TypeId} (h : w.heap[b]? = some (.cells cs t (0, 0))) (h0 : cs.toList ≠ []) : Own w [b] (some ⟨b, 0, none⟩) cs.toList :=
  .inr ⟨b, t, cs, rfl, rfl, h, List.take_length, h0⟩
theorem alloc2_blk (w : World) (o1 o2 : Obj) : ((w.alloc o1).alloc o2).heap[w.heap.size + 1]? = some o2 := by
  have h := heap_alloc_new (w.alloc o1) o2
  have e : (w.alloc o1).heap.size = w.heap.size + 1 := by simp
  rwa [e] at h
theorem new2 (w : World) (o1 o2 : Obj) : New w ((w.alloc o1).alloc o2) [w.heap.size + 1] := ⟨by simp, fun b hb => by obtain rfl := List.mem_singleton.1 hb; simp⟩
theorem newV_atom (w : World) (t n : Int) (o : Obj) : NewV (.mk t [n] [] []) w (.returned (.agg #[.int .i64 t, .slice (some ⟨w.heap.size + 1, 0, none⟩) 1 1, .slice none 0 0, .slice none 0 0])) ((w.alloc o).alloc (.cells #[.int .i64 n] 2)) :=
  ⟨some ⟨w.heap.size + 1, 0, none⟩, 1, none, 0, none, 0, [w.heap.size + 1], rfl,
    VOw.mk_ (v := .mk t [n] [] []) (fn := [w.heap.size + 1]) (fs := []) (fl := []) (fp := []) (xs := []) ⟨Nat.le_refl _, Nat.le_refl _, Nat.le_refl _⟩ (Own.lit (alloc2_blk w o _) (by simp)) (.inl ⟨rfl, rfl⟩) (.inl ⟨rfl, rfl⟩) ⟨rfl, rfl⟩,
    new2 w o _, gb_alloc (gb_alloc (gb_refl w none) _) _⟩
set_option maxHeartbeats 4000000 in
set_option maxRecDepth 100000 in
theorem atomI_any (n : Int) (w : World) : Calls Tryz.prog 57 #[.int .i64 2, .int .i64 n] w (NewV (.mk (-2) [n] [] []) w) := by
  have HN : Hid (∀ w, Calls Tryz.prog 86 #[.int .i64 2] w fun e w' => e = .returned (.bool true) ∧ w = w') := hide (fun w => hasN_any 2 w)
  go_enter Tryz.func57, Tryz.ntmps57
  go_wp2_with (go_at_call 86; refine (HN.out _).mono ?_; rintro e w1 ⟨rfl, rfl⟩)
  have h := newV_atom w (-2) n (.cells #[.int .i64 (-2), .slice (some ⟨w.heap.size + 1, 0, none⟩) 1 1, .slice none 0 0, .slice none 0 0] 26)
  refine bodyPost_ret (v := .agg #[.int .i64 (-2), .slice (some ⟨w.heap.size + 1, 0, none⟩) 1 1, .slice none 0 0, .slice none 0 0]) (by simp [results, Tryz.results57, go_sem]) rfl h

end Go.Proofs.YtgepejnooghjbaaGreat
