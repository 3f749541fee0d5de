/-
  The document's Neg.
-/
import Derived.Test.YtbmgodmfpoappaaGreatQOe
import Derived.Test.YtbmgodmfpoappaaGreatQQn
import Derived.Test.YtbmgodmfpoappaaGreatQKo
import Derived.Deep.RegionLaw
namespace Go.Proofs.YtbmgodmfpoappaaGreat
open Go.RowKit
attribute [local go_sem ↓] Go.wp_at_zero Go.wp_at_succ
def plT (t : Int) : Int := if t = 1 then 2 else t
theorem plain_any (t : Int) (w : World) : Calls Tryz.prog 30 #[.int .i64 t] w fun e w' => e = .returned (.int .i64 (plT t)) ∧ w = w' := by
 by_cases h : t = 1
 ·have HZ := hide (show plT t = 2 by unfold plT; rw [if_pos h])
  have e0 := int_beq_t h
  clear h
  go_enter Tryz.func30, Tryz.ntmps30
  go_wp2_with fail
  exact bodyPost_ret (v := .int .i64 2) (by simp [results, Tryz.results30, go_sem]) rfl ⟨by rw [HZ.out], rfl⟩
 ·have HZ := hide (show plT t = t by unfold plT; rw [if_neg h])
  have e0 := int_beq_f h
  clear h
  go_enter Tryz.func30, Tryz.ntmps30
  go_wp2_with fail
  exact bodyPost_ret (v := .int .i64 t) (by simp [results, Tryz.results30, go_sem]) rfl ⟨by rw [HZ.out], rfl⟩
theorem negW_null : negW (-9223372036854775808) = -9223372036854775808 := by decide
set_option maxHeartbeats 8000000 in
set_option maxRecDepth 100000 in
theorem rNeg_2 (v : Vl) (w : World) (B : Nat) (nA : Option Addr) (nc : Nat) (sA : Option Addr) (sc : Nat) (lA : Option Addr) (lc : Nat) (hs : rFlat v.t = true ∧ plT (rkd v.t) = 2) (ht : v.tot ≤ 1200000000) (hB : B ≤ w.heap.size) (h : VB w B v nA nc sA sc lA lc) :
  Calls Tryz.prog 7 #[.agg #[.int .i64 v.t, .slice nA v.n.length nc, .slice sA v.s.length sc, .slice lA v.l.length lc]] w (NewE (.mk (likeT v.t 2) (v.n.map negW) [] []) w) := by
 obtain ⟨l1, l2, l3, l4⟩ := Vl.lens v ht
 obtain ⟨wa, hwa⟩ : ∃ wa, wa = (w.alloc (.cells #[.int .i64 v.t, .slice nA v.n.length nc, .slice sA v.s.length sc, .slice lA v.l.length lc] 26)).alloc (.cells #[.int .i64 0, .slice none 0 0, .slice none 0 0, .slice none 0 0] 26) := ⟨_, rfl⟩
 have bx : wa.heap[w.heap.size]? = some (.cells #[.int .i64 v.t, .slice nA v.n.length nc, .slice sA v.s.length sc, .slice lA v.l.length lc] 26 (0, 0)) := by rw [hwa]; exact (Below.heap_alloc _ _ _ (by rw [World.size_alloc]; omega)).trans (heap_alloc_new w _)
 have bz : wa.heap[w.heap.size + 1]? = some (.cells #[.int .i64 0, .slice none 0 0, .slice none 0 0, .slice none 0 0] 26 (0, 0)) := by rw [hwa]; have := heap_alloc_new (w.alloc (.cells #[.int .i64 v.t, .slice nA v.n.length nc, .slice sA v.s.length sc, .slice lA v.l.length lc] 26)) (.cells #[.int .i64 0, .slice none 0 0, .slice none 0 0, .slice none 0 0] 26); rwa [World.size_alloc] at this
 have HBX := hide bx
 have HBZ := hide bz
 have HSZ := hide (show wa.heap.size = w.heap.size + 2 by rw [hwa]; simp)
 have HG := hide (show w.grownBy wa none by rw [hwa]; exact gb_alloc (gb_alloc (gb_refl w none) _) _)
 have HWE := hide hwa
 obtain ⟨c0, c1, c2, c3⟩ : C4 wa w.heap.size 0 (.int .i64 v.t) (.slice nA v.n.length nc) (.slice sA v.s.length sc) (.slice lA v.l.length lc) := c4k bx
 have hlow : -1000 ≤ v.t := by
  have h1 := hs.1
  unfold rFlat rAtom rVec at h1
  simp only [Bool.or_eq_true, Bool.and_eq_true, decide_eq_true_eq] at h1
  omega
 have HKD := hide (fun w2 => rKind_any v.t hlow (.slice nA v.n.length nc) (.slice sA v.s.length sc) (.slice lA v.l.length lc) w2)
 have hpl := fun w2 => plain_any (rkd v.t) w2
 rw [hs.2] at hpl
 have HPL := hide hpl
 have hfl := fun w2 => rFlat_any v.t (.slice nA v.n.length nc) (.slice sA v.s.length sc) (.slice lA v.l.length lc) w2
 rw [hs.1] at hfl
 have HFL := hide hfl
 have hat := fun w2 => rAtom_any v.t (.slice nA v.n.length nc) (.slice sA v.s.length sc) (.slice lA v.l.length lc) w2
 have HL := hide l1
 have HN := hide h.n
 have HBB := hide hB
 have hlk : likeT v.t 2 = if rAtom v.t = true then -2 else 2 := by unfold likeT; rw [atom_same]
 generalize rkd v.t = rk at *
 clear hpl hfl hs hlow bx bz hwa h hB ht l1 l2 l3 l4
 cases hra : rAtom v.t
 ·rw [hra] at hat
  have HAT := hide hat
  have HLK := hide (show likeT v.t 2 = 2 by rw [hlk, hra]; rfl)
  clear hat hlk hra
  go_enter Tryz.func7, Tryz.ntmps7
  go_wp2_with fail
  rw [← HWE.out]
  go_wp2_with (first
   | (go_at_call 31; refine (HKD.out _).mono ?_; rintro e w0 ⟨rfl, hg0⟩; have HG0 := hide hg0; clear hg0 c0 c1 c2 c3; obtain ⟨c0, c1, c2, c3⟩ := c4k (blk_keep HBX.out HG0.out (by simp)))
   | (go_at_call 30; refine (HPL.out _).mono ?_; rintro e w9 ⟨rfl, rfl⟩)
   | (go_at_call 32; refine (HFL.out _).mono ?_; rintro e w1 ⟨rfl, hg1⟩; have HGA1 := hide (gb_trans HG0.out hg1 (.inl rfl)); have HG1 := hide (gb_trans HG.out HGA1.out (.inl rfl)); clear hg1 c0 c1 c2 c3; obtain ⟨c0, c1, c2, c3⟩ := c4k (blk_keep HBX.out HGA1.out (by simp)); have k0 : ∀ o : Obj, (w1.alloc o).cell? ⟨w.heap.size, 0, none⟩ = some (.int .i64 v.t) := fun o => cell_gb c0 (gb_alloc (gb_refl w1 none) o); have k1 : ∀ o : Obj, (w1.alloc o).cell? ⟨w.heap.size, 1, none⟩ = some (.slice nA v.n.length nc) := fun o => cell_gb c1 (gb_alloc (gb_refl w1 none) o); have k2 : ∀ o : Obj, (w1.alloc o).cell? ⟨w.heap.size, 2, none⟩ = some (.slice sA v.s.length sc) := fun o => cell_gb c2 (gb_alloc (gb_refl w1 none) o); have k3 : ∀ o : Obj, (w1.alloc o).cell? ⟨w.heap.size, 3, none⟩ = some (.slice lA v.l.length lc) := fun o => cell_gb c3 (gb_alloc (gb_refl w1 none) o))
   | (go_at_call 33; refine (HAT.out _).mono ?_; rintro e w6 ⟨rfl, hg6⟩; have hgo := gb_trans (gb_alloc (gb_refl w1 none) (.cells #[.int .i64 2, .slice none 0 0, .slice none 0 0, .slice none 0 0] 26)) hg6 (.inl rfl); have hbo := blk_keep (heap_alloc_new w1 (.cells #[.int .i64 2, .slice none 0 0, .slice none 0 0, .slice none 0 0] 26)) hg6 (by simp); have HGO := hide hgo; have HBO := hide hbo; have p0 : w6.cell? ⟨w1.heap.size, 0, none⟩ = some (.int .i64 2) := (by { rw [blk_cell hbo]; rfl }); have zz := blk_frozen hbo 0; clear hg6 hgo hbo c0 c1 c2 c3 k0 k1 k2 k3))
  have HGP0 := hide (show GrowP w1 2 [] [] none 0 none 0 w6 from ⟨HBO.out, ⟨rfl, .inl ⟨rfl, rfl⟩⟩, ⟨rfl, .inl ⟨rfl, rfl⟩⟩, HGO.out⟩)
  clear p0 zz
  go_loopw [6] (fun i wq => ∃ (j : Nat) (l : List Int), i = .int .i64 (j : Int) ∧ j ≤ v.n.length ∧ Hid (l = (v.n.take j).map negW) ∧ ∃ N nN, GrowP w1 2 l [] N nN none 0 wq) (fun i _ => v.n.length - (intOf i).toNat)
  case atStart => exact ⟨0, [], rfl, Nat.zero_le _, hide rfl, _, _, HGP0.out⟩
  case round =>
   obtain ⟨j, l, rfl, hj, HLE, N, nN, hgp⟩ := hrel
   have hgr := gb_trans HGA1.out hgp.hg (.inl rfl)
   obtain ⟨c0, c1, c2, c3⟩ := c4k (blk_keep HBX.out hgr (by simp))
   by_cases hlt : j < v.n.length
   ·have hlt1 : (j : Int) < (v.n.length : Int) := by omega
    have h6 : IntKind.i64.wrap ((j : Int) + 1) = ((j + 1 : Nat) : Int) := by rw [IntKind.wrap_i64]; have := HL.out; omega
    obtain ⟨a, ha, _, hcp0⟩ := HN.out.i64 hlt
    subst ha
    obtain ⟨p, hpe⟩ : ∃ p, p = v.n[j] := ⟨_, rfl⟩
    rw [← hpe] at hcp0
    have hcp := cell_gb hcp0 (gb_trans HG.out hgr (.inl rfl))
    have HTK := hide (show (v.n.take (j + 1)).map negW = l ++ [negW p] by rw [List.take_succ_eq_append_getElem hlt, List.map_append, hpe, HLE.out]; rfl)
    have hll : l.length = j := by rw [HLE.out, List.length_map, List.length_take]; omega
    have HM1 : Hid (l.length + 1 ≤ maxLen) := hide (by unfold maxLen; have := HL.out; omega)
    have HMB : Hid ((l.length + 1) * 8 ≤ 140737488355328) := hide (by have := HL.out; omega)
    have HGP := hide hgp
    have HLT := hide hlt
    clear hgp hlt hj hll hgr hcp0 hpe
    obtain ⟨i1, hi1, hiz, his, hib⟩ := info_parts Tryz.info64
    have HI1 := hide hi1
    have HIZ := hide hiz
    have HIS := hide his
    have HIB := hide hib
    clear hi1 hiz his hib
    by_cases hp : p = -9223372036854775808
    ·have e0 := int_beq_t hp
     have HZ := hide (show negW p = -9223372036854775808 by rw [hp]; exact negW_null)
     clear hp
     go_upto_region 11 with fail
     have hk7 : wr.grownBy (wr.alloc (.cells #[.int .i64 (-9223372036854775808)] 2)) none := gb_alloc (gb_refl wr none) _
     have HK7 := hide hk7
     have HON := hide (HGP.out.hn.kept hk7 (by cases (Value.slice N l.length nN).ownBlock <;> simp))
     have HRD := hide (show Rd (wr.alloc (.cells #[.int .i64 (-9223372036854775808)] 2)) (wr.alloc (.cells #[.int .i64 (-9223372036854775808)] 2)).heap.size (some ⟨wr.heap.size, 0, none⟩) (i64s [(-9223372036854775808)]) from (Rd.new wr #[.int .i64 (-9223372036854775808)] 2 _ rfl).more (by rw [World.size_alloc]; exact Nat.le_refl _))
     have HOC := hide (i64s_one [(-9223372036854775808)])
     have HBS : Hid (w1.heap.size + 1 ≤ (wr.alloc (.cells #[.int .i64 (-9223372036854775808)] 2)).heap.size) := hide (by have := blk_lt HGP.out.hh; have := hk7.size; omega)
     have p1 : ∀ o : Obj, (wr.alloc o).cell? ⟨w1.heap.size, 1, none⟩ = some (.slice N l.length nN) := fun o => cell_gb (by rw [blk_cell HGP.out.hh]; rfl) (gb_alloc (gb_refl wr none) o)
     have p0 : wr.cell? ⟨w1.heap.size, 1, none⟩ = some (.slice N l.length nN) := by rw [blk_cell HGP.out.hh]; rfl
     clear hk7
     go_wp2_with (at_builtin; refine wpList_append_rd _ rfl (.tmp 43) (.tmp 44) 22 rfl (w1.heap.size + 1) 2 i1 (.int .i64 0) 1 8 Tryz.underlying22 HI1.out HIZ.out HIS.out HIB.out rfl (Nat.succ_pos 0) (.slice N l.length nN) l.length (i64s l) rfl HON.out (wr.alloc (.cells #[.int .i64 (-9223372036854775808)] 2)).heap.size (some ⟨wr.heap.size, 0, none⟩) 1 1 (i64s [(-9223372036854775808)]) rfl rfl HRD.out HOC.out HM1.out HMB.out HBS.out ?_; intro v5 w5 ho5 hg5 hb5; obtain ⟨N5, nc5, rfl, _⟩ := own_slice ho5; have HST := hide (HGP.out.num (m := [(-9223372036854775808)]) HK7.out ho5 hg5); have hR5 := HST.out.1; have p1 : w5.cell? ⟨w1.heap.size, 1, none⟩ = some (.slice N l.length nN) := (by { rw [blk_cell hR5]; rfl }); have z1 := blk_frozen hR5 1; clear ho5 hg5 hb5 hR5)
     go_roundw
     case rel => exact ⟨j + 1, l ++ [-9223372036854775808], by go_num, by have := HLT.out; omega, hide (by rw [HTK.out, HZ.out]), N5, nc5, HST.out.2.1⟩
     case measure => have := HLT.out; simp [intOf]; omega
    ·have e0 := int_beq_f hp
     obtain ⟨m, hm⟩ : ∃ m, m = IntKind.i64.wrap (-p) := ⟨_, rfl⟩
     have h7 : IntKind.i64.wrap (-p) = m := hm.symm
     have HZ := hide (show negW p = m from h7)
     clear hp hm
     have hkd := gb_drew (gb_refl wr none)
     have hk7 : wr.grownBy (wr.drew.alloc (.cells #[.int .i64 m] 2)) none := gb_alloc hkd _
     have HK7 := hide hk7
     have HON := hide (HGP.out.hn.kept hk7 (by cases (Value.slice N l.length nN).ownBlock <;> simp))
     have HRD := hide (show Rd (wr.drew.alloc (.cells #[.int .i64 m] 2)) (wr.drew.alloc (.cells #[.int .i64 m] 2)).heap.size (some ⟨wr.drew.heap.size, 0, none⟩) (i64s [m]) from (Rd.new wr.drew #[.int .i64 m] 2 _ rfl).more (by rw [World.size_alloc]; exact Nat.le_refl _))
     have HOC := hide (i64s_one [m])
     have HBS : Hid (w1.heap.size + 1 ≤ (wr.drew.alloc (.cells #[.int .i64 m] 2)).heap.size) := hide (by have := blk_lt HGP.out.hh; have := hk7.size; omega)
     have p0 : wr.cell? ⟨w1.heap.size, 1, none⟩ = some (.slice N l.length nN) := by rw [blk_cell HGP.out.hh]; rfl
     have p1 : ∀ o : Obj, (wr.alloc o).cell? ⟨w1.heap.size, 1, none⟩ = some (.slice N l.length nN) := fun o => cell_gb p0 (gb_alloc (gb_refl wr none) o)
     have HL1 : Hid ((i64s [m]).length = 1 * 1) := hide rfl
     clear hk7 hkd
     go_upto_region 12 with fail
     go_region_law (refine step_append_row' (by rfl) (.tmp 48) (.tmp 55) 22 (by rfl) (w1.heap.size + 1) 2 i1 (.int .i64 0) 1 8 Tryz.underlying22 HI1.out HIZ.out HIS.out HIB.out rfl (Nat.succ_pos 0) (.slice N l.length nN) l.length (i64s l) (by rfl) HON.out (wr.drew.alloc (.cells #[.int .i64 m] 2)).heap.size (some ⟨wr.drew.heap.size, 0, none⟩) 1 1 (i64s [m]) (by rfl) HL1.out HRD.out HOC.out HM1.out HMB.out HBS.out ?_; intro v5 w5 ho5 hg5 hb5; obtain ⟨N5, nc5, rfl, _⟩ := own_slice ho5; have HST := hide (HGP.out.num (m := [m]) HK7.out ho5 hg5); have hR5 := HST.out.1; have p1 : w5.cell? ⟨w1.heap.size, 1, none⟩ = some (.slice N l.length nN) := (by { rw [blk_cell hR5]; rfl }); have z1 := blk_frozen hR5 1; clear ho5 hg5 hb5 hR5)
     all_goals
      go_wp2_with fail
      go_roundw
      case rel => exact ⟨j + 1, l ++ [m], by go_num, by have := HLT.out; omega, hide (by rw [HTK.out, HZ.out]), N5, nc5, HST.out.2.1⟩
      case measure => have := HLT.out; simp [intOf]; omega
   ·have hlt1 : ¬ (j : Int) < (v.n.length : Int) := by omega
    have hle := HLE.out
    rw [List.take_of_length_le (by omega)] at hle
    have HLE2 := hide hle
    clear hle hgr
    obtain ⟨hh, hoN, hoS, hg⟩ := hgp
    obtain ⟨_, _, hvN, hcN⟩ := own_slice hoN
    injection hvN with hvN1 hvN2 hvN3
    clear hvN1 hvN2
    subst hvN3
    obtain ⟨f, ho, hnd, hf⟩ := VOw.row64 (t := 2) hcN hoN
    have hrr := blk_keep HBZ.out (gb_trans HGA1.out hg (.inl rfl)) (by simp)
    have HFIN := hide (NewE.fin (x := .mk 2 l [] []) (wa := w1) (g := w.heap.size + 1) ho ⟨hnd, fun b hb => ⟨by have := hf b hb; omega, VOw.lt _ _ _ ho b hb⟩⟩ HG1.out hg (by omega) (by have := blk_lt HBZ.out; have := HGA1.out.size; omega))
    have HRR := hide hrr
    obtain ⟨x0, x1, x2, x3, y0, y1, y2, y3⟩ := four_cells hrr (i := 0) (by decide)
    have z0 := blk_frozen hrr 0
    have z1 := blk_frozen hrr 1
    have z2 := blk_frozen hrr 2
    have z3 := blk_frozen hrr 3
    obtain ⟨q0, q1, q2, q3⟩ : C4 wr w1.heap.size 0 (.int .i64 2) (.slice N l.length nN) (.slice none 0 0) (.slice none 0 0) := c4k hh
    clear hh hoN hoS hg hcN ho hnd hf hrr
    go_wp2_with fail
    obtain ⟨m0, m1, m2, m3⟩ := C4.put HRR.out (.int .i64 2) (.slice N l.length nN) (.slice none 0 0) (.slice none 0 0)
    simp only [put4, Nat.zero_add] at m0 m1 m2 m3
    refine bodyPost_ret (v := .tuple #[.agg #[.int .i64 2, .slice N l.length nN, .slice none 0 0, .slice none 0 0], .int .i64 0]) (by simp [results, Tryz.results7, go_sem, m0, m1, m2, m3]) rfl ?_
    rw [HLK.out, ← HLE2.out]
    exact HFIN.out
 ·rw [hra] at hat
  have HAT := hide hat
  have HLK := hide (show likeT v.t 2 = -2 by rw [hlk, hra]; rfl)
  clear hat hlk hra
  go_enter Tryz.func7, Tryz.ntmps7
  go_wp2_with fail
  rw [← HWE.out]
  go_wp2_with (first
   | (go_at_call 31; refine (HKD.out _).mono ?_; rintro e w0 ⟨rfl, hg0⟩; have HG0 := hide hg0; clear hg0 c0 c1 c2 c3; obtain ⟨c0, c1, c2, c3⟩ := c4k (blk_keep HBX.out HG0.out (by simp)))
   | (go_at_call 30; refine (HPL.out _).mono ?_; rintro e w9 ⟨rfl, rfl⟩)
   | (go_at_call 32; refine (HFL.out _).mono ?_; rintro e w1 ⟨rfl, hg1⟩; have HGA1 := hide (gb_trans HG0.out hg1 (.inl rfl)); have HG1 := hide (gb_trans HG.out HGA1.out (.inl rfl)); clear hg1 c0 c1 c2 c3; obtain ⟨c0, c1, c2, c3⟩ := c4k (blk_keep HBX.out HGA1.out (by simp)); have k0 : ∀ o : Obj, (w1.alloc o).cell? ⟨w.heap.size, 0, none⟩ = some (.int .i64 v.t) := fun o => cell_gb c0 (gb_alloc (gb_refl w1 none) o); have k1 : ∀ o : Obj, (w1.alloc o).cell? ⟨w.heap.size, 1, none⟩ = some (.slice nA v.n.length nc) := fun o => cell_gb c1 (gb_alloc (gb_refl w1 none) o); have k2 : ∀ o : Obj, (w1.alloc o).cell? ⟨w.heap.size, 2, none⟩ = some (.slice sA v.s.length sc) := fun o => cell_gb c2 (gb_alloc (gb_refl w1 none) o); have k3 : ∀ o : Obj, (w1.alloc o).cell? ⟨w.heap.size, 3, none⟩ = some (.slice lA v.l.length lc) := fun o => cell_gb c3 (gb_alloc (gb_refl w1 none) o))
   | (go_at_call 33; refine (HAT.out _).mono ?_; rintro e w6 ⟨rfl, hg6⟩; have hgo := gb_trans (gb_alloc (gb_refl w1 none) (.cells #[.int .i64 2, .slice none 0 0, .slice none 0 0, .slice none 0 0] 26)) hg6 (.inl rfl); have hbo := blk_keep (heap_alloc_new w1 (.cells #[.int .i64 2, .slice none 0 0, .slice none 0 0, .slice none 0 0] 26)) hg6 (by simp); have HGO := hide hgo; have HBO := hide hbo; have p0 : w6.cell? ⟨w1.heap.size, 0, none⟩ = some (.int .i64 2) := (by { rw [blk_cell hbo]; rfl }); have zz := blk_frozen hbo 0; clear hg6 hgo hbo c0 c1 c2 c3 k0 k1 k2 k3))
  have HGP0 := hide (show GrowP w1 (-2) [] [] none 0 none 0 (w6.setCell ⟨w1.heap.size, 0, none⟩ (.int .i64 (-2))) from ⟨by rw [blk_set HBO.out 0 _]; rfl, ⟨rfl, .inl ⟨rfl, rfl⟩⟩, ⟨rfl, .inl ⟨rfl, rfl⟩⟩, gb_setCell HGO.out (.inr (Nat.le_refl _)) _⟩)
  clear p0 zz
  go_loopw [6] (fun i wq => ∃ (j : Nat) (l : List Int), i = .int .i64 (j : Int) ∧ j ≤ v.n.length ∧ Hid (l = (v.n.take j).map negW) ∧ ∃ N nN, GrowP w1 (-2) l [] N nN none 0 wq) (fun i _ => v.n.length - (intOf i).toNat)
  case atStart => exact ⟨0, [], rfl, Nat.zero_le _, hide rfl, _, _, HGP0.out⟩
  case round =>
   obtain ⟨j, l, rfl, hj, HLE, N, nN, hgp⟩ := hrel
   have hgr := gb_trans HGA1.out hgp.hg (.inl rfl)
   obtain ⟨c0, c1, c2, c3⟩ := c4k (blk_keep HBX.out hgr (by simp))
   by_cases hlt : j < v.n.length
   ·have hlt1 : (j : Int) < (v.n.length : Int) := by omega
    have h6 : IntKind.i64.wrap ((j : Int) + 1) = ((j + 1 : Nat) : Int) := by rw [IntKind.wrap_i64]; have := HL.out; omega
    obtain ⟨a, ha, _, hcp0⟩ := HN.out.i64 hlt
    subst ha
    obtain ⟨p, hpe⟩ : ∃ p, p = v.n[j] := ⟨_, rfl⟩
    rw [← hpe] at hcp0
    have hcp := cell_gb hcp0 (gb_trans HG.out hgr (.inl rfl))
    have HTK := hide (show (v.n.take (j + 1)).map negW = l ++ [negW p] by rw [List.take_succ_eq_append_getElem hlt, List.map_append, hpe, HLE.out]; rfl)
    have hll : l.length = j := by rw [HLE.out, List.length_map, List.length_take]; omega
    have HM1 : Hid (l.length + 1 ≤ maxLen) := hide (by unfold maxLen; have := HL.out; omega)
    have HMB : Hid ((l.length + 1) * 8 ≤ 140737488355328) := hide (by have := HL.out; omega)
    have HGP := hide hgp
    have HLT := hide hlt
    clear hgp hlt hj hll hgr hcp0 hpe
    obtain ⟨i1, hi1, hiz, his, hib⟩ := info_parts Tryz.info64
    have HI1 := hide hi1
    have HIZ := hide hiz
    have HIS := hide his
    have HIB := hide hib
    clear hi1 hiz his hib
    by_cases hp : p = -9223372036854775808
    ·have e0 := int_beq_t hp
     have HZ := hide (show negW p = -9223372036854775808 by rw [hp]; exact negW_null)
     clear hp
     go_upto_region 11 with fail
     have hk7 : wr.grownBy (wr.alloc (.cells #[.int .i64 (-9223372036854775808)] 2)) none := gb_alloc (gb_refl wr none) _
     have HK7 := hide hk7
     have HON := hide (HGP.out.hn.kept hk7 (by cases (Value.slice N l.length nN).ownBlock <;> simp))
     have HRD := hide (show Rd (wr.alloc (.cells #[.int .i64 (-9223372036854775808)] 2)) (wr.alloc (.cells #[.int .i64 (-9223372036854775808)] 2)).heap.size (some ⟨wr.heap.size, 0, none⟩) (i64s [(-9223372036854775808)]) from (Rd.new wr #[.int .i64 (-9223372036854775808)] 2 _ rfl).more (by rw [World.size_alloc]; exact Nat.le_refl _))
     have HOC := hide (i64s_one [(-9223372036854775808)])
     have HBS : Hid (w1.heap.size + 1 ≤ (wr.alloc (.cells #[.int .i64 (-9223372036854775808)] 2)).heap.size) := hide (by have := blk_lt HGP.out.hh; have := hk7.size; omega)
     have p1 : ∀ o : Obj, (wr.alloc o).cell? ⟨w1.heap.size, 1, none⟩ = some (.slice N l.length nN) := fun o => cell_gb (by rw [blk_cell HGP.out.hh]; rfl) (gb_alloc (gb_refl wr none) o)
     have p0 : wr.cell? ⟨w1.heap.size, 1, none⟩ = some (.slice N l.length nN) := by rw [blk_cell HGP.out.hh]; rfl
     clear hk7
     go_wp2_with (at_builtin; refine wpList_append_rd _ rfl (.tmp 43) (.tmp 44) 22 rfl (w1.heap.size + 1) 2 i1 (.int .i64 0) 1 8 Tryz.underlying22 HI1.out HIZ.out HIS.out HIB.out rfl (Nat.succ_pos 0) (.slice N l.length nN) l.length (i64s l) rfl HON.out (wr.alloc (.cells #[.int .i64 (-9223372036854775808)] 2)).heap.size (some ⟨wr.heap.size, 0, none⟩) 1 1 (i64s [(-9223372036854775808)]) rfl rfl HRD.out HOC.out HM1.out HMB.out HBS.out ?_; intro v5 w5 ho5 hg5 hb5; obtain ⟨N5, nc5, rfl, _⟩ := own_slice ho5; have HST := hide (HGP.out.num (m := [(-9223372036854775808)]) HK7.out ho5 hg5); have hR5 := HST.out.1; have p1 : w5.cell? ⟨w1.heap.size, 1, none⟩ = some (.slice N l.length nN) := (by { rw [blk_cell hR5]; rfl }); have z1 := blk_frozen hR5 1; clear ho5 hg5 hb5 hR5)
     go_roundw
     case rel => exact ⟨j + 1, l ++ [-9223372036854775808], by go_num, by have := HLT.out; omega, hide (by rw [HTK.out, HZ.out]), N5, nc5, HST.out.2.1⟩
     case measure => have := HLT.out; simp [intOf]; omega
    ·have e0 := int_beq_f hp
     obtain ⟨m, hm⟩ : ∃ m, m = IntKind.i64.wrap (-p) := ⟨_, rfl⟩
     have h7 : IntKind.i64.wrap (-p) = m := hm.symm
     have HZ := hide (show negW p = m from h7)
     clear hp hm
     have hkd := gb_drew (gb_refl wr none)
     have hk7 : wr.grownBy (wr.drew.alloc (.cells #[.int .i64 m] 2)) none := gb_alloc hkd _
     have HK7 := hide hk7
     have HON := hide (HGP.out.hn.kept hk7 (by cases (Value.slice N l.length nN).ownBlock <;> simp))
     have HRD := hide (show Rd (wr.drew.alloc (.cells #[.int .i64 m] 2)) (wr.drew.alloc (.cells #[.int .i64 m] 2)).heap.size (some ⟨wr.drew.heap.size, 0, none⟩) (i64s [m]) from (Rd.new wr.drew #[.int .i64 m] 2 _ rfl).more (by rw [World.size_alloc]; exact Nat.le_refl _))
     have HOC := hide (i64s_one [m])
     have HBS : Hid (w1.heap.size + 1 ≤ (wr.drew.alloc (.cells #[.int .i64 m] 2)).heap.size) := hide (by have := blk_lt HGP.out.hh; have := hk7.size; omega)
     have p0 : wr.cell? ⟨w1.heap.size, 1, none⟩ = some (.slice N l.length nN) := by rw [blk_cell HGP.out.hh]; rfl
     have p1 : ∀ o : Obj, (wr.alloc o).cell? ⟨w1.heap.size, 1, none⟩ = some (.slice N l.length nN) := fun o => cell_gb p0 (gb_alloc (gb_refl wr none) o)
     have HL1 : Hid ((i64s [m]).length = 1 * 1) := hide rfl
     clear hk7 hkd
     go_upto_region 12 with fail
     go_region_law (refine step_append_row' (by rfl) (.tmp 48) (.tmp 55) 22 (by rfl) (w1.heap.size + 1) 2 i1 (.int .i64 0) 1 8 Tryz.underlying22 HI1.out HIZ.out HIS.out HIB.out rfl (Nat.succ_pos 0) (.slice N l.length nN) l.length (i64s l) (by rfl) HON.out (wr.drew.alloc (.cells #[.int .i64 m] 2)).heap.size (some ⟨wr.drew.heap.size, 0, none⟩) 1 1 (i64s [m]) (by rfl) HL1.out HRD.out HOC.out HM1.out HMB.out HBS.out ?_; intro v5 w5 ho5 hg5 hb5; obtain ⟨N5, nc5, rfl, _⟩ := own_slice ho5; have HST := hide (HGP.out.num (m := [m]) HK7.out ho5 hg5); have hR5 := HST.out.1; have p1 : w5.cell? ⟨w1.heap.size, 1, none⟩ = some (.slice N l.length nN) := (by { rw [blk_cell hR5]; rfl }); have z1 := blk_frozen hR5 1; clear ho5 hg5 hb5 hR5)
     all_goals
      go_wp2_with fail
      go_roundw
      case rel => exact ⟨j + 1, l ++ [m], by go_num, by have := HLT.out; omega, hide (by rw [HTK.out, HZ.out]), N5, nc5, HST.out.2.1⟩
      case measure => have := HLT.out; simp [intOf]; omega
   ·have hlt1 : ¬ (j : Int) < (v.n.length : Int) := by omega
    have hle := HLE.out
    rw [List.take_of_length_le (by omega)] at hle
    have HLE2 := hide hle
    clear hle hgr
    obtain ⟨hh, hoN, hoS, hg⟩ := hgp
    obtain ⟨_, _, hvN, hcN⟩ := own_slice hoN
    injection hvN with hvN1 hvN2 hvN3
    clear hvN1 hvN2
    subst hvN3
    obtain ⟨f, ho, hnd, hf⟩ := VOw.row64 (t := (-2)) hcN hoN
    have hrr := blk_keep HBZ.out (gb_trans HGA1.out hg (.inl rfl)) (by simp)
    have HFIN := hide (NewE.fin (x := .mk (-2) l [] []) (wa := w1) (g := w.heap.size + 1) ho ⟨hnd, fun b hb => ⟨by have := hf b hb; omega, VOw.lt _ _ _ ho b hb⟩⟩ HG1.out hg (by omega) (by have := blk_lt HBZ.out; have := HGA1.out.size; omega))
    have HRR := hide hrr
    obtain ⟨x0, x1, x2, x3, y0, y1, y2, y3⟩ := four_cells hrr (i := 0) (by decide)
    have z0 := blk_frozen hrr 0
    have z1 := blk_frozen hrr 1
    have z2 := blk_frozen hrr 2
    have z3 := blk_frozen hrr 3
    obtain ⟨q0, q1, q2, q3⟩ : C4 wr w1.heap.size 0 (.int .i64 (-2)) (.slice N l.length nN) (.slice none 0 0) (.slice none 0 0) := c4k hh
    clear hh hoN hoS hg hcN ho hnd hf hrr
    go_wp2_with fail
    obtain ⟨m0, m1, m2, m3⟩ := C4.put HRR.out (.int .i64 (-2)) (.slice N l.length nN) (.slice none 0 0) (.slice none 0 0)
    simp only [put4, Nat.zero_add] at m0 m1 m2 m3
    refine bodyPost_ret (v := .tuple #[.agg #[.int .i64 (-2), .slice N l.length nN, .slice none 0 0, .slice none 0 0], .int .i64 0]) (by simp [results, Tryz.results7, go_sem, m0, m1, m2, m3]) rfl ?_
    rw [HLK.out, ← HLE2.out]
    exact HFIN.out
set_option maxHeartbeats 8000000 in
set_option maxRecDepth 100000 in
theorem rNeg_5 (v : Vl) (w : World) (B : Nat) (nA : Option Addr) (nc : Nat) (sA : Option Addr) (sc : Nat) (lA : Option Addr) (lc : Nat) (hs : rFlat v.t = true ∧ plT (rkd v.t) = 5) (ht : v.tot ≤ 1200000000) (hB : B ≤ w.heap.size) (h : VB w B v nA nc sA sc lA lc) :
  Calls Tryz.prog 7 #[.agg #[.int .i64 v.t, .slice nA v.n.length nc, .slice sA v.s.length sc, .slice lA v.l.length lc]] w (NewE (.mk (likeT v.t 5) (v.n.map negW) [] []) w) := by
 obtain ⟨l1, l2, l3, l4⟩ := Vl.lens v ht
 obtain ⟨wa, hwa⟩ : ∃ wa, wa = (w.alloc (.cells #[.int .i64 v.t, .slice nA v.n.length nc, .slice sA v.s.length sc, .slice lA v.l.length lc] 26)).alloc (.cells #[.int .i64 0, .slice none 0 0, .slice none 0 0, .slice none 0 0] 26) := ⟨_, rfl⟩
 have bx : wa.heap[w.heap.size]? = some (.cells #[.int .i64 v.t, .slice nA v.n.length nc, .slice sA v.s.length sc, .slice lA v.l.length lc] 26 (0, 0)) := by rw [hwa]; exact (Below.heap_alloc _ _ _ (by rw [World.size_alloc]; omega)).trans (heap_alloc_new w _)
 have bz : wa.heap[w.heap.size + 1]? = some (.cells #[.int .i64 0, .slice none 0 0, .slice none 0 0, .slice none 0 0] 26 (0, 0)) := by rw [hwa]; have := heap_alloc_new (w.alloc (.cells #[.int .i64 v.t, .slice nA v.n.length nc, .slice sA v.s.length sc, .slice lA v.l.length lc] 26)) (.cells #[.int .i64 0, .slice none 0 0, .slice none 0 0, .slice none 0 0] 26); rwa [World.size_alloc] at this
 have HBX := hide bx
 have HBZ := hide bz
 have HSZ := hide (show wa.heap.size = w.heap.size + 2 by rw [hwa]; simp)
 have HG := hide (show w.grownBy wa none by rw [hwa]; exact gb_alloc (gb_alloc (gb_refl w none) _) _)
 have HWE := hide hwa
 obtain ⟨c0, c1, c2, c3⟩ : C4 wa w.heap.size 0 (.int .i64 v.t) (.slice nA v.n.length nc) (.slice sA v.s.length sc) (.slice lA v.l.length lc) := c4k bx
 have hlow : -1000 ≤ v.t := by
  have h1 := hs.1
  unfold rFlat rAtom rVec at h1
  simp only [Bool.or_eq_true, Bool.and_eq_true, decide_eq_true_eq] at h1
  omega
 have HKD := hide (fun w2 => rKind_any v.t hlow (.slice nA v.n.length nc) (.slice sA v.s.length sc) (.slice lA v.l.length lc) w2)
 have hpl := fun w2 => plain_any (rkd v.t) w2
 rw [hs.2] at hpl
 have HPL := hide hpl
 have hfl := fun w2 => rFlat_any v.t (.slice nA v.n.length nc) (.slice sA v.s.length sc) (.slice lA v.l.length lc) w2
 rw [hs.1] at hfl
 have HFL := hide hfl
 have hat := fun w2 => rAtom_any v.t (.slice nA v.n.length nc) (.slice sA v.s.length sc) (.slice lA v.l.length lc) w2
 have HL := hide l1
 have HN := hide h.n
 have HBB := hide hB
 have hlk : likeT v.t 5 = if rAtom v.t = true then -5 else 5 := by unfold likeT; rw [atom_same]
 generalize rkd v.t = rk at *
 clear hpl hfl hs hlow bx bz hwa h hB ht l1 l2 l3 l4
 cases hra : rAtom v.t
 ·rw [hra] at hat
  have HAT := hide hat
  have HLK := hide (show likeT v.t 5 = 5 by rw [hlk, hra]; rfl)
  clear hat hlk hra
  go_enter Tryz.func7, Tryz.ntmps7
  go_wp2_with fail
  rw [← HWE.out]
  go_wp2_with (first
   | (go_at_call 31; refine (HKD.out _).mono ?_; rintro e w0 ⟨rfl, hg0⟩; have HG0 := hide hg0; clear hg0 c0 c1 c2 c3; obtain ⟨c0, c1, c2, c3⟩ := c4k (blk_keep HBX.out HG0.out (by simp)))
   | (go_at_call 30; refine (HPL.out _).mono ?_; rintro e w9 ⟨rfl, rfl⟩)
   | (go_at_call 32; refine (HFL.out _).mono ?_; rintro e w1 ⟨rfl, hg1⟩; have HGA1 := hide (gb_trans HG0.out hg1 (.inl rfl)); have HG1 := hide (gb_trans HG.out HGA1.out (.inl rfl)); clear hg1 c0 c1 c2 c3; obtain ⟨c0, c1, c2, c3⟩ := c4k (blk_keep HBX.out HGA1.out (by simp)); have k0 : ∀ o : Obj, (w1.alloc o).cell? ⟨w.heap.size, 0, none⟩ = some (.int .i64 v.t) := fun o => cell_gb c0 (gb_alloc (gb_refl w1 none) o); have k1 : ∀ o : Obj, (w1.alloc o).cell? ⟨w.heap.size, 1, none⟩ = some (.slice nA v.n.length nc) := fun o => cell_gb c1 (gb_alloc (gb_refl w1 none) o); have k2 : ∀ o : Obj, (w1.alloc o).cell? ⟨w.heap.size, 2, none⟩ = some (.slice sA v.s.length sc) := fun o => cell_gb c2 (gb_alloc (gb_refl w1 none) o); have k3 : ∀ o : Obj, (w1.alloc o).cell? ⟨w.heap.size, 3, none⟩ = some (.slice lA v.l.length lc) := fun o => cell_gb c3 (gb_alloc (gb_refl w1 none) o))
   | (go_at_call 33; refine (HAT.out _).mono ?_; rintro e w6 ⟨rfl, hg6⟩; have hgo := gb_trans (gb_alloc (gb_refl w1 none) (.cells #[.int .i64 5, .slice none 0 0, .slice none 0 0, .slice none 0 0] 26)) hg6 (.inl rfl); have hbo := blk_keep (heap_alloc_new w1 (.cells #[.int .i64 5, .slice none 0 0, .slice none 0 0, .slice none 0 0] 26)) hg6 (by simp); have HGO := hide hgo; have HBO := hide hbo; have p0 : w6.cell? ⟨w1.heap.size, 0, none⟩ = some (.int .i64 5) := (by { rw [blk_cell hbo]; rfl }); have zz := blk_frozen hbo 0; clear hg6 hgo hbo c0 c1 c2 c3 k0 k1 k2 k3))
  have HGP0 := hide (show GrowP w1 5 [] [] none 0 none 0 w6 from ⟨HBO.out, ⟨rfl, .inl ⟨rfl, rfl⟩⟩, ⟨rfl, .inl ⟨rfl, rfl⟩⟩, HGO.out⟩)
  clear p0 zz
  go_loopw [6] (fun i wq => ∃ (j : Nat) (l : List Int), i = .int .i64 (j : Int) ∧ j ≤ v.n.length ∧ Hid (l = (v.n.take j).map negW) ∧ ∃ N nN, GrowP w1 5 l [] N nN none 0 wq) (fun i _ => v.n.length - (intOf i).toNat)
  case atStart => exact ⟨0, [], rfl, Nat.zero_le _, hide rfl, _, _, HGP0.out⟩
  case round =>
   obtain ⟨j, l, rfl, hj, HLE, N, nN, hgp⟩ := hrel
   have hgr := gb_trans HGA1.out hgp.hg (.inl rfl)
   obtain ⟨c0, c1, c2, c3⟩ := c4k (blk_keep HBX.out hgr (by simp))
   by_cases hlt : j < v.n.length
   ·have hlt1 : (j : Int) < (v.n.length : Int) := by omega
    have h6 : IntKind.i64.wrap ((j : Int) + 1) = ((j + 1 : Nat) : Int) := by rw [IntKind.wrap_i64]; have := HL.out; omega
    obtain ⟨a, ha, _, hcp0⟩ := HN.out.i64 hlt
    subst ha
    obtain ⟨p, hpe⟩ : ∃ p, p = v.n[j] := ⟨_, rfl⟩
    rw [← hpe] at hcp0
    have hcp := cell_gb hcp0 (gb_trans HG.out hgr (.inl rfl))
    have HTK := hide (show (v.n.take (j + 1)).map negW = l ++ [negW p] by rw [List.take_succ_eq_append_getElem hlt, List.map_append, hpe, HLE.out]; rfl)
    have hll : l.length = j := by rw [HLE.out, List.length_map, List.length_take]; omega
    have HM1 : Hid (l.length + 1 ≤ maxLen) := hide (by unfold maxLen; have := HL.out; omega)
    have HMB : Hid ((l.length + 1) * 8 ≤ 140737488355328) := hide (by have := HL.out; omega)
    have HGP := hide hgp
    have HLT := hide hlt
    clear hgp hlt hj hll hgr hcp0 hpe
    obtain ⟨i1, hi1, hiz, his, hib⟩ := info_parts Tryz.info64
    have HI1 := hide hi1
    have HIZ := hide hiz
    have HIS := hide his
    have HIB := hide hib
    clear hi1 hiz his hib
    by_cases hp : p = -9223372036854775808
    ·have e0 := int_beq_t hp
     have HZ := hide (show negW p = -9223372036854775808 by rw [hp]; exact negW_null)
     clear hp
     go_upto_region 11 with fail
     have hk7 : wr.grownBy (wr.alloc (.cells #[.int .i64 (-9223372036854775808)] 2)) none := gb_alloc (gb_refl wr none) _
     have HK7 := hide hk7
     have HON := hide (HGP.out.hn.kept hk7 (by cases (Value.slice N l.length nN).ownBlock <;> simp))
     have HRD := hide (show Rd (wr.alloc (.cells #[.int .i64 (-9223372036854775808)] 2)) (wr.alloc (.cells #[.int .i64 (-9223372036854775808)] 2)).heap.size (some ⟨wr.heap.size, 0, none⟩) (i64s [(-9223372036854775808)]) from (Rd.new wr #[.int .i64 (-9223372036854775808)] 2 _ rfl).more (by rw [World.size_alloc]; exact Nat.le_refl _))
     have HOC := hide (i64s_one [(-9223372036854775808)])
     have HBS : Hid (w1.heap.size + 1 ≤ (wr.alloc (.cells #[.int .i64 (-9223372036854775808)] 2)).heap.size) := hide (by have := blk_lt HGP.out.hh; have := hk7.size; omega)
     have p1 : ∀ o : Obj, (wr.alloc o).cell? ⟨w1.heap.size, 1, none⟩ = some (.slice N l.length nN) := fun o => cell_gb (by rw [blk_cell HGP.out.hh]; rfl) (gb_alloc (gb_refl wr none) o)
     have p0 : wr.cell? ⟨w1.heap.size, 1, none⟩ = some (.slice N l.length nN) := by rw [blk_cell HGP.out.hh]; rfl
     clear hk7
     go_wp2_with (at_builtin; refine wpList_append_rd _ rfl (.tmp 43) (.tmp 44) 22 rfl (w1.heap.size + 1) 2 i1 (.int .i64 0) 1 8 Tryz.underlying22 HI1.out HIZ.out HIS.out HIB.out rfl (Nat.succ_pos 0) (.slice N l.length nN) l.length (i64s l) rfl HON.out (wr.alloc (.cells #[.int .i64 (-9223372036854775808)] 2)).heap.size (some ⟨wr.heap.size, 0, none⟩) 1 1 (i64s [(-9223372036854775808)]) rfl rfl HRD.out HOC.out HM1.out HMB.out HBS.out ?_; intro v5 w5 ho5 hg5 hb5; obtain ⟨N5, nc5, rfl, _⟩ := own_slice ho5; have HST := hide (HGP.out.num (m := [(-9223372036854775808)]) HK7.out ho5 hg5); have hR5 := HST.out.1; have p1 : w5.cell? ⟨w1.heap.size, 1, none⟩ = some (.slice N l.length nN) := (by { rw [blk_cell hR5]; rfl }); have z1 := blk_frozen hR5 1; clear ho5 hg5 hb5 hR5)
     go_roundw
     case rel => exact ⟨j + 1, l ++ [-9223372036854775808], by go_num, by have := HLT.out; omega, hide (by rw [HTK.out, HZ.out]), N5, nc5, HST.out.2.1⟩
     case measure => have := HLT.out; simp [intOf]; omega
    ·have e0 := int_beq_f hp
     obtain ⟨m, hm⟩ : ∃ m, m = IntKind.i64.wrap (-p) := ⟨_, rfl⟩
     have h7 : IntKind.i64.wrap (-p) = m := hm.symm
     have HZ := hide (show negW p = m from h7)
     clear hp hm
     have hkd := gb_drew (gb_refl wr none)
     have hk7 : wr.grownBy (wr.drew.alloc (.cells #[.int .i64 m] 2)) none := gb_alloc hkd _
     have HK7 := hide hk7
     have HON := hide (HGP.out.hn.kept hk7 (by cases (Value.slice N l.length nN).ownBlock <;> simp))
     have HRD := hide (show Rd (wr.drew.alloc (.cells #[.int .i64 m] 2)) (wr.drew.alloc (.cells #[.int .i64 m] 2)).heap.size (some ⟨wr.drew.heap.size, 0, none⟩) (i64s [m]) from (Rd.new wr.drew #[.int .i64 m] 2 _ rfl).more (by rw [World.size_alloc]; exact Nat.le_refl _))
     have HOC := hide (i64s_one [m])
     have HBS : Hid (w1.heap.size + 1 ≤ (wr.drew.alloc (.cells #[.int .i64 m] 2)).heap.size) := hide (by have := blk_lt HGP.out.hh; have := hk7.size; omega)
     have p0 : wr.cell? ⟨w1.heap.size, 1, none⟩ = some (.slice N l.length nN) := by rw [blk_cell HGP.out.hh]; rfl
     have p1 : ∀ o : Obj, (wr.alloc o).cell? ⟨w1.heap.size, 1, none⟩ = some (.slice N l.length nN) := fun o => cell_gb p0 (gb_alloc (gb_refl wr none) o)
     have HL1 : Hid ((i64s [m]).length = 1 * 1) := hide rfl
     clear hk7 hkd
     go_upto_region 12 with fail
     go_region_law (refine step_append_row' (by rfl) (.tmp 48) (.tmp 55) 22 (by rfl) (w1.heap.size + 1) 2 i1 (.int .i64 0) 1 8 Tryz.underlying22 HI1.out HIZ.out HIS.out HIB.out rfl (Nat.succ_pos 0) (.slice N l.length nN) l.length (i64s l) (by rfl) HON.out (wr.drew.alloc (.cells #[.int .i64 m] 2)).heap.size (some ⟨wr.drew.heap.size, 0, none⟩) 1 1 (i64s [m]) (by rfl) HL1.out HRD.out HOC.out HM1.out HMB.out HBS.out ?_; intro v5 w5 ho5 hg5 hb5; obtain ⟨N5, nc5, rfl, _⟩ := own_slice ho5; have HST := hide (HGP.out.num (m := [m]) HK7.out ho5 hg5); have hR5 := HST.out.1; have p1 : w5.cell? ⟨w1.heap.size, 1, none⟩ = some (.slice N l.length nN) := (by { rw [blk_cell hR5]; rfl }); have z1 := blk_frozen hR5 1; clear ho5 hg5 hb5 hR5)
     all_goals
      go_wp2_with fail
      go_roundw
      case rel => exact ⟨j + 1, l ++ [m], by go_num, by have := HLT.out; omega, hide (by rw [HTK.out, HZ.out]), N5, nc5, HST.out.2.1⟩
      case measure => have := HLT.out; simp [intOf]; omega
   ·have hlt1 : ¬ (j : Int) < (v.n.length : Int) := by omega
    have hle := HLE.out
    rw [List.take_of_length_le (by omega)] at hle
    have HLE2 := hide hle
    clear hle hgr
    obtain ⟨hh, hoN, hoS, hg⟩ := hgp
    obtain ⟨_, _, hvN, hcN⟩ := own_slice hoN
    injection hvN with hvN1 hvN2 hvN3
    clear hvN1 hvN2
    subst hvN3
    obtain ⟨f, ho, hnd, hf⟩ := VOw.row64 (t := 5) hcN hoN
    have hrr := blk_keep HBZ.out (gb_trans HGA1.out hg (.inl rfl)) (by simp)
    have HFIN := hide (NewE.fin (x := .mk 5 l [] []) (wa := w1) (g := w.heap.size + 1) ho ⟨hnd, fun b hb => ⟨by have := hf b hb; omega, VOw.lt _ _ _ ho b hb⟩⟩ HG1.out hg (by omega) (by have := blk_lt HBZ.out; have := HGA1.out.size; omega))
    have HRR := hide hrr
    obtain ⟨x0, x1, x2, x3, y0, y1, y2, y3⟩ := four_cells hrr (i := 0) (by decide)
    have z0 := blk_frozen hrr 0
    have z1 := blk_frozen hrr 1
    have z2 := blk_frozen hrr 2
    have z3 := blk_frozen hrr 3
    obtain ⟨q0, q1, q2, q3⟩ : C4 wr w1.heap.size 0 (.int .i64 5) (.slice N l.length nN) (.slice none 0 0) (.slice none 0 0) := c4k hh
    clear hh hoN hoS hg hcN ho hnd hf hrr
    go_wp2_with fail
    obtain ⟨m0, m1, m2, m3⟩ := C4.put HRR.out (.int .i64 5) (.slice N l.length nN) (.slice none 0 0) (.slice none 0 0)
    simp only [put4, Nat.zero_add] at m0 m1 m2 m3
    refine bodyPost_ret (v := .tuple #[.agg #[.int .i64 5, .slice N l.length nN, .slice none 0 0, .slice none 0 0], .int .i64 0]) (by simp [results, Tryz.results7, go_sem, m0, m1, m2, m3]) rfl ?_
    rw [HLK.out, ← HLE2.out]
    exact HFIN.out
 ·rw [hra] at hat
  have HAT := hide hat
  have HLK := hide (show likeT v.t 5 = -5 by rw [hlk, hra]; rfl)
  clear hat hlk hra
  go_enter Tryz.func7, Tryz.ntmps7
  go_wp2_with fail
  rw [← HWE.out]
  go_wp2_with (first
   | (go_at_call 31; refine (HKD.out _).mono ?_; rintro e w0 ⟨rfl, hg0⟩; have HG0 := hide hg0; clear hg0 c0 c1 c2 c3; obtain ⟨c0, c1, c2, c3⟩ := c4k (blk_keep HBX.out HG0.out (by simp)))
   | (go_at_call 30; refine (HPL.out _).mono ?_; rintro e w9 ⟨rfl, rfl⟩)
   | (go_at_call 32; refine (HFL.out _).mono ?_; rintro e w1 ⟨rfl, hg1⟩; have HGA1 := hide (gb_trans HG0.out hg1 (.inl rfl)); have HG1 := hide (gb_trans HG.out HGA1.out (.inl rfl)); clear hg1 c0 c1 c2 c3; obtain ⟨c0, c1, c2, c3⟩ := c4k (blk_keep HBX.out HGA1.out (by simp)); have k0 : ∀ o : Obj, (w1.alloc o).cell? ⟨w.heap.size, 0, none⟩ = some (.int .i64 v.t) := fun o => cell_gb c0 (gb_alloc (gb_refl w1 none) o); have k1 : ∀ o : Obj, (w1.alloc o).cell? ⟨w.heap.size, 1, none⟩ = some (.slice nA v.n.length nc) := fun o => cell_gb c1 (gb_alloc (gb_refl w1 none) o); have k2 : ∀ o : Obj, (w1.alloc o).cell? ⟨w.heap.size, 2, none⟩ = some (.slice sA v.s.length sc) := fun o => cell_gb c2 (gb_alloc (gb_refl w1 none) o); have k3 : ∀ o : Obj, (w1.alloc o).cell? ⟨w.heap.size, 3, none⟩ = some (.slice lA v.l.length lc) := fun o => cell_gb c3 (gb_alloc (gb_refl w1 none) o))
   | (go_at_call 33; refine (HAT.out _).mono ?_; rintro e w6 ⟨rfl, hg6⟩; have hgo := gb_trans (gb_alloc (gb_refl w1 none) (.cells #[.int .i64 5, .slice none 0 0, .slice none 0 0, .slice none 0 0] 26)) hg6 (.inl rfl); have hbo := blk_keep (heap_alloc_new w1 (.cells #[.int .i64 5, .slice none 0 0, .slice none 0 0, .slice none 0 0] 26)) hg6 (by simp); have HGO := hide hgo; have HBO := hide hbo; have p0 : w6.cell? ⟨w1.heap.size, 0, none⟩ = some (.int .i64 5) := (by { rw [blk_cell hbo]; rfl }); have zz := blk_frozen hbo 0; clear hg6 hgo hbo c0 c1 c2 c3 k0 k1 k2 k3))
  have HGP0 := hide (show GrowP w1 (-5) [] [] none 0 none 0 (w6.setCell ⟨w1.heap.size, 0, none⟩ (.int .i64 (-5))) from ⟨by rw [blk_set HBO.out 0 _]; rfl, ⟨rfl, .inl ⟨rfl, rfl⟩⟩, ⟨rfl, .inl ⟨rfl, rfl⟩⟩, gb_setCell HGO.out (.inr (Nat.le_refl _)) _⟩)
  clear p0 zz
  go_loopw [6] (fun i wq => ∃ (j : Nat) (l : List Int), i = .int .i64 (j : Int) ∧ j ≤ v.n.length ∧ Hid (l = (v.n.take j).map negW) ∧ ∃ N nN, GrowP w1 (-5) l [] N nN none 0 wq) (fun i _ => v.n.length - (intOf i).toNat)
  case atStart => exact ⟨0, [], rfl, Nat.zero_le _, hide rfl, _, _, HGP0.out⟩
  case round =>
   obtain ⟨j, l, rfl, hj, HLE, N, nN, hgp⟩ := hrel
   have hgr := gb_trans HGA1.out hgp.hg (.inl rfl)
   obtain ⟨c0, c1, c2, c3⟩ := c4k (blk_keep HBX.out hgr (by simp))
   by_cases hlt : j < v.n.length
   ·have hlt1 : (j : Int) < (v.n.length : Int) := by omega
    have h6 : IntKind.i64.wrap ((j : Int) + 1) = ((j + 1 : Nat) : Int) := by rw [IntKind.wrap_i64]; have := HL.out; omega
    obtain ⟨a, ha, _, hcp0⟩ := HN.out.i64 hlt
    subst ha
    obtain ⟨p, hpe⟩ : ∃ p, p = v.n[j] := ⟨_, rfl⟩
    rw [← hpe] at hcp0
    have hcp := cell_gb hcp0 (gb_trans HG.out hgr (.inl rfl))
    have HTK := hide (show (v.n.take (j + 1)).map negW = l ++ [negW p] by rw [List.take_succ_eq_append_getElem hlt, List.map_append, hpe, HLE.out]; rfl)
    have hll : l.length = j := by rw [HLE.out, List.length_map, List.length_take]; omega
    have HM1 : Hid (l.length + 1 ≤ maxLen) := hide (by unfold maxLen; have := HL.out; omega)
    have HMB : Hid ((l.length + 1) * 8 ≤ 140737488355328) := hide (by have := HL.out; omega)
    have HGP := hide hgp
    have HLT := hide hlt
    clear hgp hlt hj hll hgr hcp0 hpe
    obtain ⟨i1, hi1, hiz, his, hib⟩ := info_parts Tryz.info64
    have HI1 := hide hi1
    have HIZ := hide hiz
    have HIS := hide his
    have HIB := hide hib
    clear hi1 hiz his hib
    by_cases hp : p = -9223372036854775808
    ·have e0 := int_beq_t hp
     have HZ := hide (show negW p = -9223372036854775808 by rw [hp]; exact negW_null)
     clear hp
     go_upto_region 11 with fail
     have hk7 : wr.grownBy (wr.alloc (.cells #[.int .i64 (-9223372036854775808)] 2)) none := gb_alloc (gb_refl wr none) _
     have HK7 := hide hk7
     have HON := hide (HGP.out.hn.kept hk7 (by cases (Value.slice N l.length nN).ownBlock <;> simp))
     have HRD := hide (show Rd (wr.alloc (.cells #[.int .i64 (-9223372036854775808)] 2)) (wr.alloc (.cells #[.int .i64 (-9223372036854775808)] 2)).heap.size (some ⟨wr.heap.size, 0, none⟩) (i64s [(-9223372036854775808)]) from (Rd.new wr #[.int .i64 (-9223372036854775808)] 2 _ rfl).more (by rw [World.size_alloc]; exact Nat.le_refl _))
     have HOC := hide (i64s_one [(-9223372036854775808)])
     have HBS : Hid (w1.heap.size + 1 ≤ (wr.alloc (.cells #[.int .i64 (-9223372036854775808)] 2)).heap.size) := hide (by have := blk_lt HGP.out.hh; have := hk7.size; omega)
     have p1 : ∀ o : Obj, (wr.alloc o).cell? ⟨w1.heap.size, 1, none⟩ = some (.slice N l.length nN) := fun o => cell_gb (by rw [blk_cell HGP.out.hh]; rfl) (gb_alloc (gb_refl wr none) o)
     have p0 : wr.cell? ⟨w1.heap.size, 1, none⟩ = some (.slice N l.length nN) := by rw [blk_cell HGP.out.hh]; rfl
     clear hk7
     go_wp2_with (at_builtin; refine wpList_append_rd _ rfl (.tmp 43) (.tmp 44) 22 rfl (w1.heap.size + 1) 2 i1 (.int .i64 0) 1 8 Tryz.underlying22 HI1.out HIZ.out HIS.out HIB.out rfl (Nat.succ_pos 0) (.slice N l.length nN) l.length (i64s l) rfl HON.out (wr.alloc (.cells #[.int .i64 (-9223372036854775808)] 2)).heap.size (some ⟨wr.heap.size, 0, none⟩) 1 1 (i64s [(-9223372036854775808)]) rfl rfl HRD.out HOC.out HM1.out HMB.out HBS.out ?_; intro v5 w5 ho5 hg5 hb5; obtain ⟨N5, nc5, rfl, _⟩ := own_slice ho5; have HST := hide (HGP.out.num (m := [(-9223372036854775808)]) HK7.out ho5 hg5); have hR5 := HST.out.1; have p1 : w5.cell? ⟨w1.heap.size, 1, none⟩ = some (.slice N l.length nN) := (by { rw [blk_cell hR5]; rfl }); have z1 := blk_frozen hR5 1; clear ho5 hg5 hb5 hR5)
     go_roundw
     case rel => exact ⟨j + 1, l ++ [-9223372036854775808], by go_num, by have := HLT.out; omega, hide (by rw [HTK.out, HZ.out]), N5, nc5, HST.out.2.1⟩
     case measure => have := HLT.out; simp [intOf]; omega
    ·have e0 := int_beq_f hp
     obtain ⟨m, hm⟩ : ∃ m, m = IntKind.i64.wrap (-p) := ⟨_, rfl⟩
     have h7 : IntKind.i64.wrap (-p) = m := hm.symm
     have HZ := hide (show negW p = m from h7)
     clear hp hm
     have hkd := gb_drew (gb_refl wr none)
     have hk7 : wr.grownBy (wr.drew.alloc (.cells #[.int .i64 m] 2)) none := gb_alloc hkd _
     have HK7 := hide hk7
     have HON := hide (HGP.out.hn.kept hk7 (by cases (Value.slice N l.length nN).ownBlock <;> simp))
     have HRD := hide (show Rd (wr.drew.alloc (.cells #[.int .i64 m] 2)) (wr.drew.alloc (.cells #[.int .i64 m] 2)).heap.size (some ⟨wr.drew.heap.size, 0, none⟩) (i64s [m]) from (Rd.new wr.drew #[.int .i64 m] 2 _ rfl).more (by rw [World.size_alloc]; exact Nat.le_refl _))
     have HOC := hide (i64s_one [m])
     have HBS : Hid (w1.heap.size + 1 ≤ (wr.drew.alloc (.cells #[.int .i64 m] 2)).heap.size) := hide (by have := blk_lt HGP.out.hh; have := hk7.size; omega)
     have p0 : wr.cell? ⟨w1.heap.size, 1, none⟩ = some (.slice N l.length nN) := by rw [blk_cell HGP.out.hh]; rfl
     have p1 : ∀ o : Obj, (wr.alloc o).cell? ⟨w1.heap.size, 1, none⟩ = some (.slice N l.length nN) := fun o => cell_gb p0 (gb_alloc (gb_refl wr none) o)
     have HL1 : Hid ((i64s [m]).length = 1 * 1) := hide rfl
     clear hk7 hkd
     go_upto_region 12 with fail
     go_region_law (refine step_append_row' (by rfl) (.tmp 48) (.tmp 55) 22 (by rfl) (w1.heap.size + 1) 2 i1 (.int .i64 0) 1 8 Tryz.underlying22 HI1.out HIZ.out HIS.out HIB.out rfl (Nat.succ_pos 0) (.slice N l.length nN) l.length (i64s l) (by rfl) HON.out (wr.drew.alloc (.cells #[.int .i64 m] 2)).heap.size (some ⟨wr.drew.heap.size, 0, none⟩) 1 1 (i64s [m]) (by rfl) HL1.out HRD.out HOC.out HM1.out HMB.out HBS.out ?_; intro v5 w5 ho5 hg5 hb5; obtain ⟨N5, nc5, rfl, _⟩ := own_slice ho5; have HST := hide (HGP.out.num (m := [m]) HK7.out ho5 hg5); have hR5 := HST.out.1; have p1 : w5.cell? ⟨w1.heap.size, 1, none⟩ = some (.slice N l.length nN) := (by { rw [blk_cell hR5]; rfl }); have z1 := blk_frozen hR5 1; clear ho5 hg5 hb5 hR5)
     all_goals
      go_wp2_with fail
      go_roundw
      case rel => exact ⟨j + 1, l ++ [m], by go_num, by have := HLT.out; omega, hide (by rw [HTK.out, HZ.out]), N5, nc5, HST.out.2.1⟩
      case measure => have := HLT.out; simp [intOf]; omega
   ·have hlt1 : ¬ (j : Int) < (v.n.length : Int) := by omega
    have hle := HLE.out
    rw [List.take_of_length_le (by omega)] at hle
    have HLE2 := hide hle
    clear hle hgr
    obtain ⟨hh, hoN, hoS, hg⟩ := hgp
    obtain ⟨_, _, hvN, hcN⟩ := own_slice hoN
    injection hvN with hvN1 hvN2 hvN3
    clear hvN1 hvN2
    subst hvN3
    obtain ⟨f, ho, hnd, hf⟩ := VOw.row64 (t := (-5)) hcN hoN
    have hrr := blk_keep HBZ.out (gb_trans HGA1.out hg (.inl rfl)) (by simp)
    have HFIN := hide (NewE.fin (x := .mk (-5) l [] []) (wa := w1) (g := w.heap.size + 1) ho ⟨hnd, fun b hb => ⟨by have := hf b hb; omega, VOw.lt _ _ _ ho b hb⟩⟩ HG1.out hg (by omega) (by have := blk_lt HBZ.out; have := HGA1.out.size; omega))
    have HRR := hide hrr
    obtain ⟨x0, x1, x2, x3, y0, y1, y2, y3⟩ := four_cells hrr (i := 0) (by decide)
    have z0 := blk_frozen hrr 0
    have z1 := blk_frozen hrr 1
    have z2 := blk_frozen hrr 2
    have z3 := blk_frozen hrr 3
    obtain ⟨q0, q1, q2, q3⟩ : C4 wr w1.heap.size 0 (.int .i64 (-5)) (.slice N l.length nN) (.slice none 0 0) (.slice none 0 0) := c4k hh
    clear hh hoN hoS hg hcN ho hnd hf hrr
    go_wp2_with fail
    obtain ⟨m0, m1, m2, m3⟩ := C4.put HRR.out (.int .i64 (-5)) (.slice N l.length nN) (.slice none 0 0) (.slice none 0 0)
    simp only [put4, Nat.zero_add] at m0 m1 m2 m3
    refine bodyPost_ret (v := .tuple #[.agg #[.int .i64 (-5), .slice N l.length nN, .slice none 0 0, .slice none 0 0], .int .i64 0]) (by simp [results, Tryz.results7, go_sem, m0, m1, m2, m3]) rfl ?_
    rw [HLK.out, ← HLE2.out]
    exact HFIN.out
end Go.Proofs.YtbmgodmfpoappaaGreat
