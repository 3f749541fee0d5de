/-
  The document's Not.
-/
import Derived.Test.YtbmgodmfpoappaaGreatQOa
import Derived.Test.YtbmgodmfpoappaaGreatQKi
import Derived.Test.YtbmgodmfpoappaaGreatQKp
import Derived.Test.YtbmgodmfpoappaaGreatQOc
import Derived.Test.YtbmgodmfpoappaaGreatQKn
namespace Go.Proofs.YtbmgodmfpoappaaGreat
open Go.RowKit
attribute [local go_sem ↓] Go.wp_at_zero Go.wp_at_succ
set_option maxHeartbeats 8000000 in
set_option maxRecDepth 100000 in
theorem rTil_in (n : Nat) (hn : n ≤ 65536) (w : World) : Calls Tryz.prog 13 #[.int .i64 (n : Int)] w (NewE (.mk 2 (rowI 0 n) [] []) w) := by
 obtain ⟨wa, hwa⟩ : ∃ wa, wa = w.alloc (.cells #[.int .i64 0, .slice none 0 0, .slice none 0 0, .slice none 0 0] 26) := ⟨_, rfl⟩
 have hb : wa.heap[w.heap.size]? = some (.cells #[.int .i64 0, .slice none 0 0, .slice none 0 0, .slice none 0 0] 26 (0, 0)) := by rw [hwa]; exact heap_alloc_new w _
 have hg : w.grownBy wa none := by rw [hwa]; exact gb_alloc (gb_refl w none) _
 obtain ⟨w5, hw5⟩ : ∃ w5, w5 = wa.alloc (.cells #[.int .i64 2, .slice none 0 0, .slice none 0 0, .slice none 0 0] 26) := ⟨_, rfl⟩
 have HGP0 := hide (show GrowP wa 2 [] [] none 0 none 0 w5 by rw [hw5]; exact ⟨heap_alloc_new wa _, ⟨rfl, .inl ⟨rfl, rfl⟩⟩, ⟨rfl, .inl ⟨rfl, rfl⟩⟩, gb_alloc (gb_refl wa none) _⟩)
 have HBZ := hide hb
 have HG := hide hg
 have HWE := hide hwa
 have HW5 := hide hw5
 have HNB := hide hn
 have hn1 : ¬ (n : Int) < 0 := by omega
 have hn2 : ¬ (65536 : Int) < (n : Int) := by omega
 clear hwa hb hg hw5 hn
 go_enter Tryz.func13, Tryz.ntmps13
 go_upto_region 1 with fail
 rw [← HWE.out]
 go_upto_region 6 with fail
 rw [← HW5.out]
 go_wp2_with fail
 go_loopw [5] (fun i wr => ∃ (j : Nat) (l : List Int), i = .int .i64 (j : Int) ∧ j ≤ n ∧ Hid (l = rowI 0 j) ∧ ∃ N nN, GrowP wa 2 l [] N nN none 0 wr) (fun i _ => n - (intOf i).toNat)
 case atStart => exact ⟨0, [], rfl, Nat.zero_le _, hide rfl, _, _, HGP0.out⟩
 case round =>
  obtain ⟨j, l, rfl, hj, HLE, N, nN, hgp⟩ := hrel
  by_cases hlt : j < n
  ·have hlt1 : (j : Int) < (n : Int) := by omega
   have h6 : IntKind.i64.wrap ((j : Int) + 1) = ((j + 1 : Nat) : Int) := by rw [IntKind.wrap_i64]; have := HNB.out; omega
   have hll : l.length = j := by rw [HLE.out, rowI_length]
   have HM1 : Hid (l.length + 1 ≤ maxLen) := hide (by unfold maxLen; have := HNB.out; omega)
   have HMB : Hid ((l.length + 1) * 8 ≤ 140737488355328) := hide (by have := HNB.out; omega)
   have HGP := hide hgp
   have HLT := hide hlt
   clear hgp hlt hj hll
   obtain ⟨i1, hi1, hiz, his, hib⟩ := info_parts Tryz.info64
   have HI1 := hide hi1
   have HIZ := hide hiz
   have HIS := hide his
   have HIB := hide hib
   clear hi1 hiz his hib
   have hk7 : wr.grownBy (wr.alloc (.cells #[.int .i64 (j : Int)] 2)) none := gb_alloc (gb_refl wr none) _
   have HK7 := hide hk7
   have HON := hide (HGP.out.hn.kept hk7 (by cases (Value.slice N l.length nN).ownBlock <;> simp))
   have HRD := hide (show Rd (wr.alloc (.cells #[.int .i64 (j : Int)] 2)) (wr.alloc (.cells #[.int .i64 (j : Int)] 2)).heap.size (some ⟨wr.heap.size, 0, none⟩) (i64s [(j : Int)]) from (Rd.new wr #[.int .i64 (j : Int)] 2 _ rfl).more (by rw [World.size_alloc]; exact Nat.le_refl _))
   have HOC := hide (i64s_one [(j : Int)])
   have HBS : Hid (wa.heap.size + 1 ≤ (wr.alloc (.cells #[.int .i64 (j : Int)] 2)).heap.size) := hide (by have := blk_lt HGP.out.hh; have := hk7.size; omega)
   have p1 : ∀ o : Obj, (wr.alloc o).cell? ⟨wa.heap.size, 1, none⟩ = some (.slice N l.length nN) := fun o => cell_gb (by rw [blk_cell HGP.out.hh]; rfl) (gb_alloc (gb_refl wr none) o)
   have p0 : wr.cell? ⟨wa.heap.size, 1, none⟩ = some (.slice N l.length nN) := by rw [blk_cell HGP.out.hh]; rfl
   clear hk7
   go_wp2_with (at_builtin; refine wpList_append_rd _ rfl (.tmp 19) (.tmp 21) 22 rfl (wa.heap.size + 1) 2 i1 (.int .i64 0) 1 8 Tryz.underlying22 HI1.out HIZ.out HIS.out HIB.out rfl (Nat.succ_pos 0) (.slice N l.length nN) l.length (i64s l) rfl HON.out (wr.alloc (.cells #[.int .i64 (j : Int)] 2)).heap.size (some ⟨wr.heap.size, 0, none⟩) 1 1 (i64s [(j : Int)]) rfl rfl HRD.out HOC.out HM1.out HMB.out HBS.out ?_; intro v5 w5 ho5 hg5 hb5; obtain ⟨N5, nc5, rfl, _⟩ := own_slice ho5; have HST := hide (HGP.out.num (m := [(j : Int)]) HK7.out ho5 hg5); have hR5 := HST.out.1; have p1 : w5.cell? ⟨wa.heap.size, 1, none⟩ = some (.slice N l.length nN) := (by { rw [blk_cell hR5]; rfl }); have z1 := blk_frozen hR5 1; clear ho5 hg5 hb5 hR5)
   go_roundw
   case rel => exact ⟨j + 1, l ++ [(j : Int)], by go_num, by have := HLT.out; omega, hide (by rw [HLE.out]; simp [rowI]), N5, nc5, HST.out.2.1⟩
   case measure => have := HLT.out; simp [intOf]; omega
  ·have hlt1 : ¬ (j : Int) < (n : Int) := by omega
   have hle := HLE.out
   rw [show j = n by omega] at hle
   have HLE2 := hide hle
   clear hle
   obtain ⟨hh, hoN, hoS, hg⟩ := hgp
   obtain ⟨_, _, hvN, hcN⟩ := own_slice hoN
   injection hvN with hvN1 hvN2 hvN3
   clear hvN1 hvN2
   subst hvN3
   obtain ⟨f, ho, hnd, hf⟩ := VOw.row64 (t := 2) hcN hoN
   have hrr := blk_keep HBZ.out hg (by simp)
   have HFIN := hide (NewE.fin (x := .mk 2 l [] []) (wa := wa) (g := w.heap.size) ho ⟨hnd, fun b hb => ⟨by have := hf b hb; omega, VOw.lt _ _ _ ho b hb⟩⟩ HG.out hg (by omega) (blk_lt HBZ.out))
   have HRR := hide hrr
   obtain ⟨x0, x1, x2, x3, y0, y1, y2, y3⟩ := four_cells hrr (i := 0) (by decide)
   have z0 := blk_frozen hrr 0
   have z1 := blk_frozen hrr 1
   have z2 := blk_frozen hrr 2
   have z3 := blk_frozen hrr 3
   obtain ⟨q0, q1, q2, q3⟩ : C4 wr wa.heap.size 0 (.int .i64 2) (.slice N l.length nN) (.slice none 0 0) (.slice none 0 0) := c4k hh
   clear hh hoN hoS hg hcN ho hnd hf hrr
   go_wp2_with fail
   obtain ⟨m0, m1, m2, m3⟩ := C4.put HRR.out (.int .i64 2) (.slice N l.length nN) (.slice none 0 0) (.slice none 0 0)
   simp only [put4, Nat.zero_add] at m0 m1 m2 m3
   refine bodyPost_ret (v := .tuple #[.agg #[.int .i64 2, .slice N l.length nN, .slice none 0 0, .slice none 0 0], .int .i64 0]) (by simp [results, Tryz.results13, go_sem, m0, m1, m2, m3]) rfl ?_
   rw [← HLE2.out]
   exact HFIN.out
end Go.Proofs.YtbmgodmfpoappaaGreat
namespace Go.Proofs.YtbmgodmfpoappaaGreat
open Go.RowKit
attribute [local go_sem ↓] Go.wp_at_zero Go.wp_at_succ
set_option maxHeartbeats 8000000 in
set_option maxRecDepth 100000 in
theorem rNot_in (v : Vl) (w : World) (B : Nat) (nA : Option Addr) (nc : Nat) (sA : Option Addr) (sc : Nat) (lA : Option Addr) (lc : Nat) (hs : hasN v.t = true) (ht : v.tot ≤ 1200000000) (hB : B ≤ w.heap.size) (h : VB w B v nA nc sA sc lA lc) :
  Calls Tryz.prog 11 #[.agg #[.int .i64 v.t, .slice nA v.n.length nc, .slice sA v.s.length sc, .slice lA v.l.length lc]] w (NewE (.mk (likeT v.t 1) (v.n.map zeroI) [] []) w) := by
 obtain ⟨l1, l2, l3, l4⟩ := Vl.lens v ht
 obtain ⟨wa, hwa⟩ : ∃ wa, wa = (w.alloc (.cells #[.int .i64 v.t, .slice nA v.n.length nc, .slice sA v.s.length sc, .slice lA v.l.length lc] 26)).alloc (.cells #[.int .i64 0, .slice none 0 0, .slice none 0 0, .slice none 0 0] 26) := ⟨_, rfl⟩
 have bx : wa.heap[w.heap.size]? = some (.cells #[.int .i64 v.t, .slice nA v.n.length nc, .slice sA v.s.length sc, .slice lA v.l.length lc] 26 (0, 0)) := by rw [hwa]; exact (Below.heap_alloc _ _ _ (by rw [World.size_alloc]; omega)).trans (heap_alloc_new w _)
 have bz : wa.heap[w.heap.size + 1]? = some (.cells #[.int .i64 0, .slice none 0 0, .slice none 0 0, .slice none 0 0] 26 (0, 0)) := by rw [hwa]; have := heap_alloc_new (w.alloc (.cells #[.int .i64 v.t, .slice nA v.n.length nc, .slice sA v.s.length sc, .slice lA v.l.length lc] 26)) (.cells #[.int .i64 0, .slice none 0 0, .slice none 0 0, .slice none 0 0] 26); rwa [World.size_alloc] at this
 have HBX := hide bx
 have HBZ := hide bz
 have HSZ := hide (show wa.heap.size = w.heap.size + 2 by rw [hwa]; simp)
 have HG := hide (show w.grownBy wa none by rw [hwa]; exact gb_alloc (gb_alloc (gb_refl w none) _) _)
 have HWE := hide hwa
 obtain ⟨c0, c1, c2, c3⟩ : C4 wa w.heap.size 0 (.int .i64 v.t) (.slice nA v.n.length nc) (.slice sA v.s.length sc) (.slice lA v.l.length lc) := c4k bx
 have hnu := fun w2 => rNumeric_any v.t (.slice nA v.n.length nc) (.slice sA v.s.length sc) (.slice lA v.l.length lc) w2
 rw [hs] at hnu
 have HNU := hide hnu
 have hat := fun w2 => rAtom_any v.t (.slice nA v.n.length nc) (.slice sA v.s.length sc) (.slice lA v.l.length lc) w2
 have HL := hide l1
 have HN := hide h.n
 have HBB := hide hB
 have hlk : likeT v.t 1 = if rAtom v.t = true then -1 else 1 := by unfold likeT; rw [atom_same]
 clear hnu hs bx bz hwa h hB ht l1 l2 l3 l4
 cases hra : rAtom v.t
 ·rw [hra] at hat
  have HAT := hide hat
  have HLK := hide (show likeT v.t 1 = 1 by rw [hlk, hra]; rfl)
  clear hat hlk hra
  go_enter Tryz.func11, Tryz.ntmps11
  go_wp2_with fail
  rw [← HWE.out]
  go_wp2_with (first
   | (go_at_call 36; refine (HNU.out _).mono ?_; rintro e w1 ⟨rfl, hg1⟩; have HGA1 := hide hg1; have HG1 := hide (gb_trans HG.out hg1 (.inl rfl)); clear hg1 c0 c1 c2 c3; obtain ⟨c0, c1, c2, c3⟩ := c4k (blk_keep HBX.out HGA1.out (by simp)); have k0 : ∀ o : Obj, (w1.alloc o).cell? ⟨w.heap.size, 0, none⟩ = some (.int .i64 v.t) := fun o => cell_gb c0 (gb_alloc (gb_refl w1 none) o); have k1 : ∀ o : Obj, (w1.alloc o).cell? ⟨w.heap.size, 1, none⟩ = some (.slice nA v.n.length nc) := fun o => cell_gb c1 (gb_alloc (gb_refl w1 none) o); have k2 : ∀ o : Obj, (w1.alloc o).cell? ⟨w.heap.size, 2, none⟩ = some (.slice sA v.s.length sc) := fun o => cell_gb c2 (gb_alloc (gb_refl w1 none) o); have k3 : ∀ o : Obj, (w1.alloc o).cell? ⟨w.heap.size, 3, none⟩ = some (.slice lA v.l.length lc) := fun o => cell_gb c3 (gb_alloc (gb_refl w1 none) o))
   | (go_at_call 33; refine (HAT.out _).mono ?_; rintro e w6 ⟨rfl, hg6⟩; have hgo := gb_trans (gb_alloc (gb_refl w1 none) (.cells #[.int .i64 1, .slice none 0 0, .slice none 0 0, .slice none 0 0] 26)) hg6 (.inl rfl); have hbo := blk_keep (heap_alloc_new w1 (.cells #[.int .i64 1, .slice none 0 0, .slice none 0 0, .slice none 0 0] 26)) hg6 (by simp); have HGO := hide hgo; have HBO := hide hbo; have p0 : w6.cell? ⟨w1.heap.size, 0, none⟩ = some (.int .i64 1) := (by { rw [blk_cell hbo]; rfl }); have zz := blk_frozen hbo 0; clear hg6 hgo hbo c0 c1 c2 c3 k0 k1 k2 k3))
  have HGP0 := hide (show GrowP w1 1 [] [] none 0 none 0 w6 from ⟨HBO.out, ⟨rfl, .inl ⟨rfl, rfl⟩⟩, ⟨rfl, .inl ⟨rfl, rfl⟩⟩, HGO.out⟩)
  clear p0 zz
  go_loopw [5] (fun i wq => ∃ (j : Nat) (l : List Int), i = .int .i64 (j : Int) ∧ j ≤ v.n.length ∧ Hid (l = (v.n.take j).map zeroI) ∧ ∃ N nN, GrowP w1 1 l [] N nN none 0 wq) (fun i _ => v.n.length - (intOf i).toNat)
  case atStart => exact ⟨0, [], rfl, Nat.zero_le _, hide rfl, _, _, HGP0.out⟩
  case round =>
   obtain ⟨j, l, rfl, hj, HLE, N, nN, hgp⟩ := hrel
   have hgr := gb_trans HGA1.out hgp.hg (.inl rfl)
   obtain ⟨c0, c1, c2, c3⟩ := c4k (blk_keep HBX.out hgr (by simp))
   by_cases hlt : j < v.n.length
   ·have hlt1 : (j : Int) < (v.n.length : Int) := by omega
    have h6 : IntKind.i64.wrap ((j : Int) + 1) = ((j + 1 : Nat) : Int) := by rw [IntKind.wrap_i64]; have := HL.out; omega
    obtain ⟨a, ha, _, hcp0⟩ := HN.out.i64 hlt
    subst ha
    obtain ⟨p, hpe⟩ : ∃ p, p = v.n[j] := ⟨_, rfl⟩
    rw [← hpe] at hcp0
    have hcp := cell_gb hcp0 (gb_trans HG.out hgr (.inl rfl))
    have HTK := hide (show (v.n.take (j + 1)).map zeroI = l ++ [zeroI p] by rw [List.take_succ_eq_append_getElem hlt, List.map_append, hpe, HLE.out]; rfl)
    have hll : l.length = j := by rw [HLE.out, List.length_map, List.length_take]; omega
    have HM1 : Hid (l.length + 1 ≤ maxLen) := hide (by unfold maxLen; have := HL.out; omega)
    have HMB : Hid ((l.length + 1) * 8 ≤ 140737488355328) := hide (by have := HL.out; omega)
    have HGP := hide hgp
    have HLT := hide hlt
    clear hgp hlt hj hll hgr hcp0 hpe
    obtain ⟨i1, hi1, hiz, his, hib⟩ := info_parts Tryz.info64
    have HI1 := hide hi1
    have HIZ := hide hiz
    have HIS := hide his
    have HIB := hide hib
    clear hi1 hiz his hib
    by_cases hp : p = 0
    ·have e0 := int_beq_t hp
     have HZ := hide (show zeroI p = 1 by unfold zeroI; rw [if_pos hp])
     clear hp
     go_upto_region 10 with fail
     have hk7 : wr.grownBy (wr.alloc (.cells #[.int .i64 1] 2)) none := gb_alloc (gb_refl wr none) _
     have HK7 := hide hk7
     have HON := hide (HGP.out.hn.kept hk7 (by cases (Value.slice N l.length nN).ownBlock <;> simp))
     have HRD := hide (show Rd (wr.alloc (.cells #[.int .i64 1] 2)) (wr.alloc (.cells #[.int .i64 1] 2)).heap.size (some ⟨wr.heap.size, 0, none⟩) (i64s [1]) from (Rd.new wr #[.int .i64 1] 2 _ rfl).more (by rw [World.size_alloc]; exact Nat.le_refl _))
     have HOC := hide (i64s_one [1])
     have HBS : Hid (w1.heap.size + 1 ≤ (wr.alloc (.cells #[.int .i64 1] 2)).heap.size) := hide (by have := blk_lt HGP.out.hh; have := hk7.size; omega)
     have p1 : ∀ o : Obj, (wr.alloc o).cell? ⟨w1.heap.size, 1, none⟩ = some (.slice N l.length nN) := fun o => cell_gb (by rw [blk_cell HGP.out.hh]; rfl) (gb_alloc (gb_refl wr none) o)
     have p0 : wr.cell? ⟨w1.heap.size, 1, none⟩ = some (.slice N l.length nN) := by rw [blk_cell HGP.out.hh]; rfl
     clear hk7
     go_wp2_with (at_builtin; refine wpList_append_rd _ rfl (.tmp 28) (.tmp 29) 22 rfl (w1.heap.size + 1) 2 i1 (.int .i64 0) 1 8 Tryz.underlying22 HI1.out HIZ.out HIS.out HIB.out rfl (Nat.succ_pos 0) (.slice N l.length nN) l.length (i64s l) rfl HON.out (wr.alloc (.cells #[.int .i64 1] 2)).heap.size (some ⟨wr.heap.size, 0, none⟩) 1 1 (i64s [1]) rfl rfl HRD.out HOC.out HM1.out HMB.out HBS.out ?_; intro v5 w5 ho5 hg5 hb5; obtain ⟨N5, nc5, rfl, _⟩ := own_slice ho5; have HST := hide (HGP.out.num (m := [1]) HK7.out ho5 hg5); have hR5 := HST.out.1; have p1 : w5.cell? ⟨w1.heap.size, 1, none⟩ = some (.slice N l.length nN) := (by { rw [blk_cell hR5]; rfl }); have z1 := blk_frozen hR5 1; clear ho5 hg5 hb5 hR5)
     go_roundw
     case rel => exact ⟨j + 1, l ++ [1], by go_num, by have := HLT.out; omega, hide (by rw [HTK.out, HZ.out]), N5, nc5, HST.out.2.1⟩
     case measure => have := HLT.out; simp [intOf]; omega
    ·have e0 := int_beq_f hp
     have HZ := hide (show zeroI p = 0 by unfold zeroI; rw [if_neg hp])
     clear hp
     go_upto_region 11 with fail
     have hk7 : wr.grownBy (wr.alloc (.cells #[.int .i64 0] 2)) none := gb_alloc (gb_refl wr none) _
     have HK7 := hide hk7
     have HON := hide (HGP.out.hn.kept hk7 (by cases (Value.slice N l.length nN).ownBlock <;> simp))
     have HRD := hide (show Rd (wr.alloc (.cells #[.int .i64 0] 2)) (wr.alloc (.cells #[.int .i64 0] 2)).heap.size (some ⟨wr.heap.size, 0, none⟩) (i64s [0]) from (Rd.new wr #[.int .i64 0] 2 _ rfl).more (by rw [World.size_alloc]; exact Nat.le_refl _))
     have HOC := hide (i64s_one [0])
     have HBS : Hid (w1.heap.size + 1 ≤ (wr.alloc (.cells #[.int .i64 0] 2)).heap.size) := hide (by have := blk_lt HGP.out.hh; have := hk7.size; omega)
     have p1 : ∀ o : Obj, (wr.alloc o).cell? ⟨w1.heap.size, 1, none⟩ = some (.slice N l.length nN) := fun o => cell_gb (by rw [blk_cell HGP.out.hh]; rfl) (gb_alloc (gb_refl wr none) o)
     have p0 : wr.cell? ⟨w1.heap.size, 1, none⟩ = some (.slice N l.length nN) := by rw [blk_cell HGP.out.hh]; rfl
     clear hk7
     go_wp2_with (at_builtin; refine wpList_append_rd _ rfl (.tmp 33) (.tmp 34) 22 rfl (w1.heap.size + 1) 2 i1 (.int .i64 0) 1 8 Tryz.underlying22 HI1.out HIZ.out HIS.out HIB.out rfl (Nat.succ_pos 0) (.slice N l.length nN) l.length (i64s l) rfl HON.out (wr.alloc (.cells #[.int .i64 0] 2)).heap.size (some ⟨wr.heap.size, 0, none⟩) 1 1 (i64s [0]) rfl rfl HRD.out HOC.out HM1.out HMB.out HBS.out ?_; intro v5 w5 ho5 hg5 hb5; obtain ⟨N5, nc5, rfl, _⟩ := own_slice ho5; have HST := hide (HGP.out.num (m := [0]) HK7.out ho5 hg5); have hR5 := HST.out.1; have p1 : w5.cell? ⟨w1.heap.size, 1, none⟩ = some (.slice N l.length nN) := (by { rw [blk_cell hR5]; rfl }); have z1 := blk_frozen hR5 1; clear ho5 hg5 hb5 hR5)
     go_roundw
     case rel => exact ⟨j + 1, l ++ [0], by go_num, by have := HLT.out; omega, hide (by rw [HTK.out, HZ.out]), N5, nc5, HST.out.2.1⟩
     case measure => have := HLT.out; simp [intOf]; omega
   ·have hlt1 : ¬ (j : Int) < (v.n.length : Int) := by omega
    have hle := HLE.out
    rw [List.take_of_length_le (by omega)] at hle
    have HLE2 := hide hle
    clear hle hgr
    obtain ⟨hh, hoN, hoS, hg⟩ := hgp
    obtain ⟨_, _, hvN, hcN⟩ := own_slice hoN
    injection hvN with hvN1 hvN2 hvN3
    clear hvN1 hvN2
    subst hvN3
    obtain ⟨f, ho, hnd, hf⟩ := VOw.row64 (t := 1) hcN hoN
    have hrr := blk_keep HBZ.out (gb_trans HGA1.out hg (.inl rfl)) (by simp)
    have HFIN := hide (NewE.fin (x := .mk 1 l [] []) (wa := w1) (g := w.heap.size + 1) ho ⟨hnd, fun b hb => ⟨by have := hf b hb; omega, VOw.lt _ _ _ ho b hb⟩⟩ HG1.out hg (by omega) (by have := blk_lt HBZ.out; have := HGA1.out.size; omega))
    have HRR := hide hrr
    obtain ⟨x0, x1, x2, x3, y0, y1, y2, y3⟩ := four_cells hrr (i := 0) (by decide)
    have z0 := blk_frozen hrr 0
    have z1 := blk_frozen hrr 1
    have z2 := blk_frozen hrr 2
    have z3 := blk_frozen hrr 3
    obtain ⟨q0, q1, q2, q3⟩ : C4 wr w1.heap.size 0 (.int .i64 1) (.slice N l.length nN) (.slice none 0 0) (.slice none 0 0) := c4k hh
    clear hh hoN hoS hg hcN ho hnd hf hrr
    go_wp2_with fail
    obtain ⟨m0, m1, m2, m3⟩ := C4.put HRR.out (.int .i64 1) (.slice N l.length nN) (.slice none 0 0) (.slice none 0 0)
    simp only [put4, Nat.zero_add] at m0 m1 m2 m3
    refine bodyPost_ret (v := .tuple #[.agg #[.int .i64 1, .slice N l.length nN, .slice none 0 0, .slice none 0 0], .int .i64 0]) (by simp [results, Tryz.results11, go_sem, m0, m1, m2, m3]) rfl ?_
    rw [HLK.out, ← HLE2.out]
    exact HFIN.out
 ·rw [hra] at hat
  have HAT := hide hat
  have HLK := hide (show likeT v.t 1 = -1 by rw [hlk, hra]; rfl)
  clear hat hlk hra
  go_enter Tryz.func11, Tryz.ntmps11
  go_wp2_with fail
  rw [← HWE.out]
  go_wp2_with (first
   | (go_at_call 36; refine (HNU.out _).mono ?_; rintro e w1 ⟨rfl, hg1⟩; have HGA1 := hide hg1; have HG1 := hide (gb_trans HG.out hg1 (.inl rfl)); clear hg1 c0 c1 c2 c3; obtain ⟨c0, c1, c2, c3⟩ := c4k (blk_keep HBX.out HGA1.out (by simp)); have k0 : ∀ o : Obj, (w1.alloc o).cell? ⟨w.heap.size, 0, none⟩ = some (.int .i64 v.t) := fun o => cell_gb c0 (gb_alloc (gb_refl w1 none) o); have k1 : ∀ o : Obj, (w1.alloc o).cell? ⟨w.heap.size, 1, none⟩ = some (.slice nA v.n.length nc) := fun o => cell_gb c1 (gb_alloc (gb_refl w1 none) o); have k2 : ∀ o : Obj, (w1.alloc o).cell? ⟨w.heap.size, 2, none⟩ = some (.slice sA v.s.length sc) := fun o => cell_gb c2 (gb_alloc (gb_refl w1 none) o); have k3 : ∀ o : Obj, (w1.alloc o).cell? ⟨w.heap.size, 3, none⟩ = some (.slice lA v.l.length lc) := fun o => cell_gb c3 (gb_alloc (gb_refl w1 none) o))
   | (go_at_call 33; refine (HAT.out _).mono ?_; rintro e w6 ⟨rfl, hg6⟩; have hgo := gb_trans (gb_alloc (gb_refl w1 none) (.cells #[.int .i64 1, .slice none 0 0, .slice none 0 0, .slice none 0 0] 26)) hg6 (.inl rfl); have hbo := blk_keep (heap_alloc_new w1 (.cells #[.int .i64 1, .slice none 0 0, .slice none 0 0, .slice none 0 0] 26)) hg6 (by simp); have HGO := hide hgo; have HBO := hide hbo; have p0 : w6.cell? ⟨w1.heap.size, 0, none⟩ = some (.int .i64 1) := (by { rw [blk_cell hbo]; rfl }); have zz := blk_frozen hbo 0; clear hg6 hgo hbo c0 c1 c2 c3 k0 k1 k2 k3))
  have HGP0 := hide (show GrowP w1 (-1) [] [] none 0 none 0 (w6.setCell ⟨w1.heap.size, 0, none⟩ (.int .i64 (-1))) from ⟨by rw [blk_set HBO.out 0 _]; rfl, ⟨rfl, .inl ⟨rfl, rfl⟩⟩, ⟨rfl, .inl ⟨rfl, rfl⟩⟩, gb_setCell HGO.out (.inr (Nat.le_refl _)) _⟩)
  clear p0 zz
  go_loopw [5] (fun i wq => ∃ (j : Nat) (l : List Int), i = .int .i64 (j : Int) ∧ j ≤ v.n.length ∧ Hid (l = (v.n.take j).map zeroI) ∧ ∃ N nN, GrowP w1 (-1) l [] N nN none 0 wq) (fun i _ => v.n.length - (intOf i).toNat)
  case atStart => exact ⟨0, [], rfl, Nat.zero_le _, hide rfl, _, _, HGP0.out⟩
  case round =>
   obtain ⟨j, l, rfl, hj, HLE, N, nN, hgp⟩ := hrel
   have hgr := gb_trans HGA1.out hgp.hg (.inl rfl)
   obtain ⟨c0, c1, c2, c3⟩ := c4k (blk_keep HBX.out hgr (by simp))
   by_cases hlt : j < v.n.length
   ·have hlt1 : (j : Int) < (v.n.length : Int) := by omega
    have h6 : IntKind.i64.wrap ((j : Int) + 1) = ((j + 1 : Nat) : Int) := by rw [IntKind.wrap_i64]; have := HL.out; omega
    obtain ⟨a, ha, _, hcp0⟩ := HN.out.i64 hlt
    subst ha
    obtain ⟨p, hpe⟩ : ∃ p, p = v.n[j] := ⟨_, rfl⟩
    rw [← hpe] at hcp0
    have hcp := cell_gb hcp0 (gb_trans HG.out hgr (.inl rfl))
    have HTK := hide (show (v.n.take (j + 1)).map zeroI = l ++ [zeroI p] by rw [List.take_succ_eq_append_getElem hlt, List.map_append, hpe, HLE.out]; rfl)
    have hll : l.length = j := by rw [HLE.out, List.length_map, List.length_take]; omega
    have HM1 : Hid (l.length + 1 ≤ maxLen) := hide (by unfold maxLen; have := HL.out; omega)
    have HMB : Hid ((l.length + 1) * 8 ≤ 140737488355328) := hide (by have := HL.out; omega)
    have HGP := hide hgp
    have HLT := hide hlt
    clear hgp hlt hj hll hgr hcp0 hpe
    obtain ⟨i1, hi1, hiz, his, hib⟩ := info_parts Tryz.info64
    have HI1 := hide hi1
    have HIZ := hide hiz
    have HIS := hide his
    have HIB := hide hib
    clear hi1 hiz his hib
    by_cases hp : p = 0
    ·have e0 := int_beq_t hp
     have HZ := hide (show zeroI p = 1 by unfold zeroI; rw [if_pos hp])
     clear hp
     go_upto_region 10 with fail
     have hk7 : wr.grownBy (wr.alloc (.cells #[.int .i64 1] 2)) none := gb_alloc (gb_refl wr none) _
     have HK7 := hide hk7
     have HON := hide (HGP.out.hn.kept hk7 (by cases (Value.slice N l.length nN).ownBlock <;> simp))
     have HRD := hide (show Rd (wr.alloc (.cells #[.int .i64 1] 2)) (wr.alloc (.cells #[.int .i64 1] 2)).heap.size (some ⟨wr.heap.size, 0, none⟩) (i64s [1]) from (Rd.new wr #[.int .i64 1] 2 _ rfl).more (by rw [World.size_alloc]; exact Nat.le_refl _))
     have HOC := hide (i64s_one [1])
     have HBS : Hid (w1.heap.size + 1 ≤ (wr.alloc (.cells #[.int .i64 1] 2)).heap.size) := hide (by have := blk_lt HGP.out.hh; have := hk7.size; omega)
     have p1 : ∀ o : Obj, (wr.alloc o).cell? ⟨w1.heap.size, 1, none⟩ = some (.slice N l.length nN) := fun o => cell_gb (by rw [blk_cell HGP.out.hh]; rfl) (gb_alloc (gb_refl wr none) o)
     have p0 : wr.cell? ⟨w1.heap.size, 1, none⟩ = some (.slice N l.length nN) := by rw [blk_cell HGP.out.hh]; rfl
     clear hk7
     go_wp2_with (at_builtin; refine wpList_append_rd _ rfl (.tmp 28) (.tmp 29) 22 rfl (w1.heap.size + 1) 2 i1 (.int .i64 0) 1 8 Tryz.underlying22 HI1.out HIZ.out HIS.out HIB.out rfl (Nat.succ_pos 0) (.slice N l.length nN) l.length (i64s l) rfl HON.out (wr.alloc (.cells #[.int .i64 1] 2)).heap.size (some ⟨wr.heap.size, 0, none⟩) 1 1 (i64s [1]) rfl rfl HRD.out HOC.out HM1.out HMB.out HBS.out ?_; intro v5 w5 ho5 hg5 hb5; obtain ⟨N5, nc5, rfl, _⟩ := own_slice ho5; have HST := hide (HGP.out.num (m := [1]) HK7.out ho5 hg5); have hR5 := HST.out.1; have p1 : w5.cell? ⟨w1.heap.size, 1, none⟩ = some (.slice N l.length nN) := (by { rw [blk_cell hR5]; rfl }); have z1 := blk_frozen hR5 1; clear ho5 hg5 hb5 hR5)
     go_roundw
     case rel => exact ⟨j + 1, l ++ [1], by go_num, by have := HLT.out; omega, hide (by rw [HTK.out, HZ.out]), N5, nc5, HST.out.2.1⟩
     case measure => have := HLT.out; simp [intOf]; omega
    ·have e0 := int_beq_f hp
     have HZ := hide (show zeroI p = 0 by unfold zeroI; rw [if_neg hp])
     clear hp
     go_upto_region 11 with fail
     have hk7 : wr.grownBy (wr.alloc (.cells #[.int .i64 0] 2)) none := gb_alloc (gb_refl wr none) _
     have HK7 := hide hk7
     have HON := hide (HGP.out.hn.kept hk7 (by cases (Value.slice N l.length nN).ownBlock <;> simp))
     have HRD := hide (show Rd (wr.alloc (.cells #[.int .i64 0] 2)) (wr.alloc (.cells #[.int .i64 0] 2)).heap.size (some ⟨wr.heap.size, 0, none⟩) (i64s [0]) from (Rd.new wr #[.int .i64 0] 2 _ rfl).more (by rw [World.size_alloc]; exact Nat.le_refl _))
     have HOC := hide (i64s_one [0])
     have HBS : Hid (w1.heap.size + 1 ≤ (wr.alloc (.cells #[.int .i64 0] 2)).heap.size) := hide (by have := blk_lt HGP.out.hh; have := hk7.size; omega)
     have p1 : ∀ o : Obj, (wr.alloc o).cell? ⟨w1.heap.size, 1, none⟩ = some (.slice N l.length nN) := fun o => cell_gb (by rw [blk_cell HGP.out.hh]; rfl) (gb_alloc (gb_refl wr none) o)
     have p0 : wr.cell? ⟨w1.heap.size, 1, none⟩ = some (.slice N l.length nN) := by rw [blk_cell HGP.out.hh]; rfl
     clear hk7
     go_wp2_with (at_builtin; refine wpList_append_rd _ rfl (.tmp 33) (.tmp 34) 22 rfl (w1.heap.size + 1) 2 i1 (.int .i64 0) 1 8 Tryz.underlying22 HI1.out HIZ.out HIS.out HIB.out rfl (Nat.succ_pos 0) (.slice N l.length nN) l.length (i64s l) rfl HON.out (wr.alloc (.cells #[.int .i64 0] 2)).heap.size (some ⟨wr.heap.size, 0, none⟩) 1 1 (i64s [0]) rfl rfl HRD.out HOC.out HM1.out HMB.out HBS.out ?_; intro v5 w5 ho5 hg5 hb5; obtain ⟨N5, nc5, rfl, _⟩ := own_slice ho5; have HST := hide (HGP.out.num (m := [0]) HK7.out ho5 hg5); have hR5 := HST.out.1; have p1 : w5.cell? ⟨w1.heap.size, 1, none⟩ = some (.slice N l.length nN) := (by { rw [blk_cell hR5]; rfl }); have z1 := blk_frozen hR5 1; clear ho5 hg5 hb5 hR5)
     go_roundw
     case rel => exact ⟨j + 1, l ++ [0], by go_num, by have := HLT.out; omega, hide (by rw [HTK.out, HZ.out]), N5, nc5, HST.out.2.1⟩
     case measure => have := HLT.out; simp [intOf]; omega
   ·have hlt1 : ¬ (j : Int) < (v.n.length : Int) := by omega
    have hle := HLE.out
    rw [List.take_of_length_le (by omega)] at hle
    have HLE2 := hide hle
    clear hle hgr
    obtain ⟨hh, hoN, hoS, hg⟩ := hgp
    obtain ⟨_, _, hvN, hcN⟩ := own_slice hoN
    injection hvN with hvN1 hvN2 hvN3
    clear hvN1 hvN2
    subst hvN3
    obtain ⟨f, ho, hnd, hf⟩ := VOw.row64 (t := (-1)) hcN hoN
    have hrr := blk_keep HBZ.out (gb_trans HGA1.out hg (.inl rfl)) (by simp)
    have HFIN := hide (NewE.fin (x := .mk (-1) l [] []) (wa := w1) (g := w.heap.size + 1) ho ⟨hnd, fun b hb => ⟨by have := hf b hb; omega, VOw.lt _ _ _ ho b hb⟩⟩ HG1.out hg (by omega) (by have := blk_lt HBZ.out; have := HGA1.out.size; omega))
    have HRR := hide hrr
    obtain ⟨x0, x1, x2, x3, y0, y1, y2, y3⟩ := four_cells hrr (i := 0) (by decide)
    have z0 := blk_frozen hrr 0
    have z1 := blk_frozen hrr 1
    have z2 := blk_frozen hrr 2
    have z3 := blk_frozen hrr 3
    obtain ⟨q0, q1, q2, q3⟩ : C4 wr w1.heap.size 0 (.int .i64 (-1)) (.slice N l.length nN) (.slice none 0 0) (.slice none 0 0) := c4k hh
    clear hh hoN hoS hg hcN ho hnd hf hrr
    go_wp2_with fail
    obtain ⟨m0, m1, m2, m3⟩ := C4.put HRR.out (.int .i64 (-1)) (.slice N l.length nN) (.slice none 0 0) (.slice none 0 0)
    simp only [put4, Nat.zero_add] at m0 m1 m2 m3
    refine bodyPost_ret (v := .tuple #[.agg #[.int .i64 (-1), .slice N l.length nN, .slice none 0 0, .slice none 0 0], .int .i64 0]) (by simp [results, Tryz.results11, go_sem, m0, m1, m2, m3]) rfl ?_
    rw [HLK.out, ← HLE2.out]
    exact HFIN.out
end Go.Proofs.YtbmgodmfpoappaaGreat
