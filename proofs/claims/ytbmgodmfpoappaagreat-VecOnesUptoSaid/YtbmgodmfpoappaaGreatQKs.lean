/-
  Where of too many places.
-/
import Derived.Test.YtbmgodmfpoappaaGreatQKr
import Derived.Test.YtbmgodmfpoappaaGreatQKn
import Derived.Test.YtbmgodmfpoappaaGreatQKe
import Derived.Test.YtbmgodmfpoappaaGreatQOa
namespace Go.Proofs.YtbmgodmfpoappaaGreat
open Go.RowKit
attribute [local go_sem ↓] Go.wp_at_zero Go.wp_at_succ
def plW (l : List Int) : Nat → List Int
 | 0 => []
 | j + 1 => plW l j ++ List.replicate (l.getD j 0).toNat (j : Int)
theorem plW_mono (l : List Int) (i k : Nat) : (plW l i).length ≤ (plW l (i + k)).length := by
 induction k with
 | zero => exact Nat.le_refl _
 | succ k ih =>
  have e : plW l (i + (k + 1)) = plW l (i + k) ++ List.replicate (l.getD (i + k) 0).toNat ((i + k : Nat) : Int) := rfl
  rw [e, List.length_append]
  omega
theorem plW_le (l : List Int) {i k : Nat} (h : i ≤ k) : (plW l i).length ≤ (plW l k).length := by
 have := plW_mono l i (k - i)
 rwa [show i + (k - i) = k by omega] at this
set_option maxHeartbeats 8000000 in
set_option maxRecDepth 100000 in
theorem rWhere_in (v : Vl) (w : World) (B : Nat) (nA : Option Addr) (nc : Nat) (sA : Option Addr) (sc : Nat) (lA : Option Addr) (lc : Nat) (hs : v.t = 1 ∨ v.t = 2) (hneg : ∀ x ∈ v.n, 0 ≤ x) (htot : (plW v.n v.n.length).length ≤ 65536) (ht : v.tot ≤ 1200000000) (hB : B ≤ w.heap.size) (h : VB w B v nA nc sA sc lA lc) :
  Calls Tryz.prog 15 #[.agg #[.int .i64 v.t, .slice nA v.n.length nc, .slice sA v.s.length sc, .slice lA v.l.length lc]] w (NewE (.mk 2 (plW v.n v.n.length) [] []) w) := by
 obtain ⟨l1, l2, l3, l4⟩ := Vl.lens v ht
 obtain ⟨wa, hwa⟩ : ∃ wa, wa = (w.alloc (.cells #[.int .i64 v.t, .slice nA v.n.length nc, .slice sA v.s.length sc, .slice lA v.l.length lc] 26)).alloc (.cells #[.int .i64 0, .slice none 0 0, .slice none 0 0, .slice none 0 0] 26) := ⟨_, rfl⟩
 have bx : wa.heap[w.heap.size]? = some (.cells #[.int .i64 v.t, .slice nA v.n.length nc, .slice sA v.s.length sc, .slice lA v.l.length lc] 26 (0, 0)) := by rw [hwa]; exact (Below.heap_alloc _ _ _ (by rw [World.size_alloc]; omega)).trans (heap_alloc_new w _)
 have bz : wa.heap[w.heap.size + 1]? = some (.cells #[.int .i64 0, .slice none 0 0, .slice none 0 0, .slice none 0 0] 26 (0, 0)) := by rw [hwa]; have := heap_alloc_new (w.alloc (.cells #[.int .i64 v.t, .slice nA v.n.length nc, .slice sA v.s.length sc, .slice lA v.l.length lc] 26)) (.cells #[.int .i64 0, .slice none 0 0, .slice none 0 0, .slice none 0 0] 26); rwa [World.size_alloc] at this
 have HBX := hide bx
 have HBZ := hide bz
 have HSZ := hide (show wa.heap.size = w.heap.size + 2 by rw [hwa]; simp)
 have HG := hide (show w.grownBy wa none by rw [hwa]; exact gb_alloc (gb_alloc (gb_refl w none) _) _)
 have HWE := hide hwa
 obtain ⟨c0, c1, c2, c3⟩ : C4 wa w.heap.size 0 (.int .i64 v.t) (.slice nA v.n.length nc) (.slice sA v.s.length sc) (.slice lA v.l.length lc) := c4k bx
 have HL := hide l1
 have HN := hide h.n
 have HBB := hide hB
 have HNG := hide hneg
 have HTT := hide htot
 rcases hs with hs | hs
 ·have e1 : (v.t != 1) = false := by simp [hs]
  clear hs bx bz hwa h hB ht l1 l2 l3 l4 hneg htot
  go_enter Tryz.func15, Tryz.ntmps15
  go_wp2_with fail
  rw [← HWE.out]
  go_wp2_with fail
  clear c0 c1 c2 c3
  go_loopw [5] (fun i wq => ∃ j : Nat, i = .int .i64 (j : Int) ∧ j ≤ v.n.length ∧ wa.grownBy wq none) (fun i _ => v.n.length - (intOf i).toNat)
  case atStart => exact ⟨0, rfl, Nat.zero_le _, gb_refl wa none⟩
  case round =>
   obtain ⟨j, rfl, hj, hgr⟩ := hrel
   obtain ⟨c0, c1, c2, c3⟩ := c4k (blk_keep HBX.out hgr (by simp))
   by_cases hlt : j < v.n.length
   ·have hlt1 : (j : Int) < (v.n.length : Int) := by omega
    have h6 : IntKind.i64.wrap ((j : Int) + 1) = ((j + 1 : Nat) : Int) := by rw [IntKind.wrap_i64]; have := HL.out; omega
    obtain ⟨a, ha, _, hcp0⟩ := HN.out.i64 hlt
    subst ha
    obtain ⟨p, hpe⟩ : ∃ p, p = v.n[j] := ⟨_, rfl⟩
    rw [← hpe] at hcp0
    have hcp := cell_gb hcp0 (gb_trans HG.out hgr (.inl rfl))
    have hp0 : ¬ p < 0 := by have := HNG.out p (by rw [hpe]; exact List.getElem_mem hlt); omega
    have HGR := hide hgr
    have HLT := hide hlt
    clear hgr hlt hj hcp0 hpe
    go_wp2_with fail
    go_roundw
    case rel => exact ⟨j + 1, by go_num, by have := HLT.out; omega, HGR.out⟩
    case measure => have := HLT.out; simp [intOf]; omega
   ·have hlt1 : ¬ (j : Int) < (v.n.length : Int) := by omega
    obtain ⟨w1, hw1⟩ : ∃ w1, w1 = wr := ⟨_, rfl⟩
    rw [← hw1] at hgr c0 c1 c2 c3 ⊢
    have HGA1 := hide hgr
    have HG1 := hide (gb_trans HG.out hgr (.inl rfl))
    clear hgr hlt hj hw1
    obtain ⟨w5, hw5⟩ : ∃ w5, w5 = w1.alloc (.cells #[.int .i64 2, .slice none 0 0, .slice none 0 0, .slice none 0 0] 26) := ⟨_, rfl⟩
    have HGP0 := hide (show GrowP w1 2 [] [] none 0 none 0 w5 by rw [hw5]; exact ⟨heap_alloc_new w1 _, ⟨rfl, .inl ⟨rfl, rfl⟩⟩, ⟨rfl, .inl ⟨rfl, rfl⟩⟩, gb_alloc (gb_refl w1 none) _⟩)
    have HW5 := hide hw5
    clear hw5
    go_upto_region 10 with fail
    rw [← HW5.out]
    clear c0 c1 c2 c3
    go_wp2_with fail
    go_loopw [4, 7] (fun t i wq => ∃ (j : Nat) (l : List Int), i = .int .i64 (j : Int) ∧ j ≤ v.n.length ∧ Hid (l = plW v.n j) ∧ t = .int .i64 (l.length : Nat) ∧ ∃ N nN, GrowP w1 2 l [] N nN none 0 wq) (fun _ i _ => v.n.length - (intOf i).toNat)
    case atStart => exact ⟨0, [], rfl, Nat.zero_le _, hide rfl, rfl, _, _, HGP0.out⟩
    case round =>
     obtain ⟨j, l, rfl, hj, HLE, rfl, N, nN, hgp⟩ := hrel
     have hgr := gb_trans HGA1.out hgp.hg (.inl rfl)
     obtain ⟨c0, c1, c2, c3⟩ := c4k (blk_keep HBX.out hgr (by simp))
     by_cases hlt : j < v.n.length
     ·have hlt1 : (j : Int) < (v.n.length : Int) := by omega
      have h6 : IntKind.i64.wrap ((j : Int) + 1) = ((j + 1 : Nat) : Int) := by rw [IntKind.wrap_i64]; have := HL.out; omega
      obtain ⟨a, ha, _, hcp0⟩ := HN.out.i64 hlt
      subst ha
      obtain ⟨p, hpe⟩ : ∃ p, p = v.n[j] := ⟨_, rfl⟩
      rw [← hpe] at hcp0
      have HCP0 := hide hcp0
      have hcp := cell_gb hcp0 (gb_trans HG.out hgr (.inl rfl))
      have hp0 : 0 ≤ p := HNG.out p (by rw [hpe]; exact List.getElem_mem hlt)
      obtain ⟨q2, rfl⟩ : ∃ q2 : Nat, p = (q2 : Int) := ⟨p.toNat, by omega⟩
      have hnx : plW v.n (j + 1) = l ++ List.replicate q2 (j : Int) := by rw [HLE.out]; show _ ++ List.replicate (v.n.getD j 0).toNat (j : Int) = _; rw [getD_at hlt, ← hpe]; rfl
      have HNX := hide hnx
      have hbd : l.length + q2 ≤ 65536 := by have h1 := plW_le v.n (show j + 1 ≤ v.n.length by omega); rw [hnx, List.length_append, List.length_replicate] at h1; have := HTT.out; omega
      have HBD := hide hbd
      have h7 : IntKind.i64.wrap (65536 - (l.length : Int)) = 65536 - (l.length : Int) := by rw [IntKind.wrap_i64]; omega
      have h8 : IntKind.i64.wrap ((l.length : Int) + (q2 : Int)) = ((l.length + q2 : Nat) : Int) := by rw [IntKind.wrap_i64]; omega
      have h9 : ¬ (65536 - (l.length : Int)) < (q2 : Int) := by omega
      have HGP := hide hgp
      have HLT := hide hlt
      clear hgp hlt hj hgr hcp0 hpe hp0 hnx hbd
      go_wp2_with fail
      clear c0 c1 c2 c3 hcp h7 h8 h9
      go_loopw [8] (fun k wq => ∃ (m : Nat) (r : List Int), k = .int .i64 (m : Int) ∧ m ≤ q2 ∧ Hid (r = l ++ List.replicate m (j : Int)) ∧ ∃ N nN, GrowP w1 2 r [] N nN none 0 wq) (fun k _ => q2 - (intOf k).toNat)
      case atStart => exact ⟨0, l, rfl, Nat.zero_le _, hide (by simp), _, _, HGP.out⟩
      case round =>
       obtain ⟨m, r, rfl, hm, HR, N, nN, hgp⟩ := hrel
       have hgr := gb_trans HGA1.out hgp.hg (.inl rfl)
       obtain ⟨c0, c1, c2, c3⟩ := c4k (blk_keep HBX.out hgr (by simp))
       have hcp := cell_gb HCP0.out (gb_trans HG.out hgr (.inl rfl))
       clear HGP
       by_cases hlm : m < q2
       ·have hlm1 : (m : Int) < (q2 : Int) := by omega
        have h16 : IntKind.i64.wrap ((m : Int) + 1) = ((m + 1 : Nat) : Int) := by rw [IntKind.wrap_i64]; have := HBD.out; omega
        have hrl : r.length = l.length + m := by rw [HR.out, List.length_append, List.length_replicate]
        have HM1 : Hid (r.length + 1 ≤ maxLen) := hide (by unfold maxLen; have := HBD.out; omega)
        have HMB : Hid ((r.length + 1) * 8 ≤ 140737488355328) := hide (by have := HBD.out; omega)
        have HRX := hide (show l ++ List.replicate (m + 1) (j : Int) = r ++ [(j : Int)] by rw [HR.out, List.replicate_succ', List.append_assoc])
        have HGP := hide hgp
        have HLM := hide hlm
        clear hgp hlm hm hrl hgr
        obtain ⟨i1, hi1, hiz, his, hib⟩ := info_parts Tryz.info64
        have HI1 := hide hi1
        have HIZ := hide hiz
        have HIS := hide his
        have HIB := hide hib
        clear hi1 hiz his hib
        go_upto_region 19 with fail
        have hk7 : wr.grownBy (wr.alloc (.cells #[.int .i64 (j : Int)] 2)) none := gb_alloc (gb_refl wr none) _
        have HK7 := hide hk7
        have HON := hide (HGP.out.hn.kept hk7 (by cases (Value.slice N r.length nN).ownBlock <;> simp))
        have HRD := hide (show Rd (wr.alloc (.cells #[.int .i64 (j : Int)] 2)) (wr.alloc (.cells #[.int .i64 (j : Int)] 2)).heap.size (some ⟨wr.heap.size, 0, none⟩) (i64s [(j : Int)]) from (Rd.new wr #[.int .i64 (j : Int)] 2 _ rfl).more (by rw [World.size_alloc]; exact Nat.le_refl _))
        have HOC := hide (i64s_one [(j : Int)])
        have HBS : Hid (w1.heap.size + 1 ≤ (wr.alloc (.cells #[.int .i64 (j : Int)] 2)).heap.size) := hide (by have := blk_lt HGP.out.hh; have := hk7.size; omega)
        have p1 : ∀ o : Obj, (wr.alloc o).cell? ⟨w1.heap.size, 1, none⟩ = some (.slice N r.length nN) := fun o => cell_gb (by rw [blk_cell HGP.out.hh]; rfl) (gb_alloc (gb_refl wr none) o)
        have p0 : wr.cell? ⟨w1.heap.size, 1, none⟩ = some (.slice N r.length nN) := by rw [blk_cell HGP.out.hh]; rfl
        clear hk7
        go_wp2_with (at_builtin; refine wpList_append_rd _ rfl (.tmp 66) (.tmp 68) 22 rfl (w1.heap.size + 1) 2 i1 (.int .i64 0) 1 8 Tryz.underlying22 HI1.out HIZ.out HIS.out HIB.out rfl (Nat.succ_pos 0) (.slice N r.length nN) r.length (i64s r) rfl HON.out (wr.alloc (.cells #[.int .i64 (j : Int)] 2)).heap.size (some ⟨wr.heap.size, 0, none⟩) 1 1 (i64s [(j : Int)]) rfl rfl HRD.out HOC.out HM1.out HMB.out HBS.out ?_; intro v5 w5 ho5 hg5 hb5; obtain ⟨N5, nc5, rfl, _⟩ := own_slice ho5; have HST := hide (HGP.out.num (m := [(j : Int)]) HK7.out ho5 hg5); have hR5 := HST.out.1; have p1 : w5.cell? ⟨w1.heap.size, 1, none⟩ = some (.slice N r.length nN) := (by { rw [blk_cell hR5]; rfl }); have z1 := blk_frozen hR5 1; clear ho5 hg5 hb5 hR5)
        go_roundw
        case rel => exact ⟨m + 1, r ++ [(j : Int)], by go_num, by have := HLM.out; omega, hide HRX.out.symm, N5, nc5, HST.out.2.1⟩
        case measure => have := HLM.out; simp [intOf]; omega
       ·have hlm1 : ¬ (m : Int) < (q2 : Int) := by omega
        have hmq : m = q2 := by omega
        have HRQ := hide (show r = plW v.n (j + 1) by rw [HNX.out, HR.out, hmq])
        have HRL := hide (show r.length = l.length + q2 by rw [HR.out, List.length_append, List.length_replicate, hmq])
        have HGP := hide hgp
        clear hgp hlm hm hmq hgr
        go_wp2_with fail
        go_roundw
        case rel => exact ⟨j + 1, r, by go_num, by have := HLT.out; omega, hide HRQ.out, by rw [HRL.out, Int.natCast_add], N, nN, HGP.out⟩
        case measure => have := HLT.out; simp [intOf]; omega
     ·have hlt1 : ¬ (j : Int) < (v.n.length : Int) := by omega
      have hle := HLE.out
      rw [show j = v.n.length by omega] at hle
      have HLE2 := hide hle
      clear hle hgr
      obtain ⟨hh, hoN, hoS, hg⟩ := hgp
      obtain ⟨_, _, hvN, hcN⟩ := own_slice hoN
      injection hvN with hvN1 hvN2 hvN3
      clear hvN1 hvN2
      subst hvN3
      obtain ⟨f, ho, hnd, hf⟩ := VOw.row64 (t := 2) hcN hoN
      have hrr := blk_keep HBZ.out (gb_trans HGA1.out hg (.inl rfl)) (by simp)
      have HFIN := hide (NewE.fin (x := .mk 2 l [] []) (wa := w1) (g := w.heap.size + 1) ho ⟨hnd, fun b hb => ⟨by have := hf b hb; omega, VOw.lt _ _ _ ho b hb⟩⟩ HG1.out hg (by omega) (by have := blk_lt HBZ.out; have := HGA1.out.size; omega))
      have HRR := hide hrr
      obtain ⟨x0, x1, x2, x3, y0, y1, y2, y3⟩ := four_cells hrr (i := 0) (by decide)
      have z0 := blk_frozen hrr 0
      have z1 := blk_frozen hrr 1
      have z2 := blk_frozen hrr 2
      have z3 := blk_frozen hrr 3
      obtain ⟨q0, q1, q2, q3⟩ : C4 wr w1.heap.size 0 (.int .i64 2) (.slice N l.length nN) (.slice none 0 0) (.slice none 0 0) := c4k hh
      clear hh hoN hoS hg hcN ho hnd hf hrr
      go_wp2_with fail
      obtain ⟨m0, m1, m2, m3⟩ := C4.put HRR.out (.int .i64 2) (.slice N l.length nN) (.slice none 0 0) (.slice none 0 0)
      simp only [put4, Nat.zero_add] at m0 m1 m2 m3
      refine bodyPost_ret (v := .tuple #[.agg #[.int .i64 2, .slice N l.length nN, .slice none 0 0, .slice none 0 0], .int .i64 0]) (by simp [results, Tryz.results15, go_sem, m0, m1, m2, m3]) rfl ?_
      rw [← HLE2.out]
      exact HFIN.out
 ·have e1 : (v.t != 1) = true := by simp [hs]
  have e2 : (v.t != 2) = false := by simp [hs]
  clear hs bx bz hwa h hB ht l1 l2 l3 l4 hneg htot
  go_enter Tryz.func15, Tryz.ntmps15
  go_wp2_with fail
  rw [← HWE.out]
  go_wp2_with fail
  clear c0 c1 c2 c3
  go_loopw [5] (fun i wq => ∃ j : Nat, i = .int .i64 (j : Int) ∧ j ≤ v.n.length ∧ wa.grownBy wq none) (fun i _ => v.n.length - (intOf i).toNat)
  case atStart => exact ⟨0, rfl, Nat.zero_le _, gb_refl wa none⟩
  case round =>
   obtain ⟨j, rfl, hj, hgr⟩ := hrel
   obtain ⟨c0, c1, c2, c3⟩ := c4k (blk_keep HBX.out hgr (by simp))
   by_cases hlt : j < v.n.length
   ·have hlt1 : (j : Int) < (v.n.length : Int) := by omega
    have h6 : IntKind.i64.wrap ((j : Int) + 1) = ((j + 1 : Nat) : Int) := by rw [IntKind.wrap_i64]; have := HL.out; omega
    obtain ⟨a, ha, _, hcp0⟩ := HN.out.i64 hlt
    subst ha
    obtain ⟨p, hpe⟩ : ∃ p, p = v.n[j] := ⟨_, rfl⟩
    rw [← hpe] at hcp0
    have hcp := cell_gb hcp0 (gb_trans HG.out hgr (.inl rfl))
    have hp0 : ¬ p < 0 := by have := HNG.out p (by rw [hpe]; exact List.getElem_mem hlt); omega
    have HGR := hide hgr
    have HLT := hide hlt
    clear hgr hlt hj hcp0 hpe
    go_wp2_with fail
    go_roundw
    case rel => exact ⟨j + 1, by go_num, by have := HLT.out; omega, HGR.out⟩
    case measure => have := HLT.out; simp [intOf]; omega
   ·have hlt1 : ¬ (j : Int) < (v.n.length : Int) := by omega
    obtain ⟨w1, hw1⟩ : ∃ w1, w1 = wr := ⟨_, rfl⟩
    rw [← hw1] at hgr c0 c1 c2 c3 ⊢
    have HGA1 := hide hgr
    have HG1 := hide (gb_trans HG.out hgr (.inl rfl))
    clear hgr hlt hj hw1
    obtain ⟨w5, hw5⟩ : ∃ w5, w5 = w1.alloc (.cells #[.int .i64 2, .slice none 0 0, .slice none 0 0, .slice none 0 0] 26) := ⟨_, rfl⟩
    have HGP0 := hide (show GrowP w1 2 [] [] none 0 none 0 w5 by rw [hw5]; exact ⟨heap_alloc_new w1 _, ⟨rfl, .inl ⟨rfl, rfl⟩⟩, ⟨rfl, .inl ⟨rfl, rfl⟩⟩, gb_alloc (gb_refl w1 none) _⟩)
    have HW5 := hide hw5
    clear hw5
    go_upto_region 10 with fail
    rw [← HW5.out]
    clear c0 c1 c2 c3
    go_wp2_with fail
    go_loopw [4, 7] (fun t i wq => ∃ (j : Nat) (l : List Int), i = .int .i64 (j : Int) ∧ j ≤ v.n.length ∧ Hid (l = plW v.n j) ∧ t = .int .i64 (l.length : Nat) ∧ ∃ N nN, GrowP w1 2 l [] N nN none 0 wq) (fun _ i _ => v.n.length - (intOf i).toNat)
    case atStart => exact ⟨0, [], rfl, Nat.zero_le _, hide rfl, rfl, _, _, HGP0.out⟩
    case round =>
     obtain ⟨j, l, rfl, hj, HLE, rfl, N, nN, hgp⟩ := hrel
     have hgr := gb_trans HGA1.out hgp.hg (.inl rfl)
     obtain ⟨c0, c1, c2, c3⟩ := c4k (blk_keep HBX.out hgr (by simp))
     by_cases hlt : j < v.n.length
     ·have hlt1 : (j : Int) < (v.n.length : Int) := by omega
      have h6 : IntKind.i64.wrap ((j : Int) + 1) = ((j + 1 : Nat) : Int) := by rw [IntKind.wrap_i64]; have := HL.out; omega
      obtain ⟨a, ha, _, hcp0⟩ := HN.out.i64 hlt
      subst ha
      obtain ⟨p, hpe⟩ : ∃ p, p = v.n[j] := ⟨_, rfl⟩
      rw [← hpe] at hcp0
      have HCP0 := hide hcp0
      have hcp := cell_gb hcp0 (gb_trans HG.out hgr (.inl rfl))
      have hp0 : 0 ≤ p := HNG.out p (by rw [hpe]; exact List.getElem_mem hlt)
      obtain ⟨q2, rfl⟩ : ∃ q2 : Nat, p = (q2 : Int) := ⟨p.toNat, by omega⟩
      have hnx : plW v.n (j + 1) = l ++ List.replicate q2 (j : Int) := by rw [HLE.out]; show _ ++ List.replicate (v.n.getD j 0).toNat (j : Int) = _; rw [getD_at hlt, ← hpe]; rfl
      have HNX := hide hnx
      have hbd : l.length + q2 ≤ 65536 := by have h1 := plW_le v.n (show j + 1 ≤ v.n.length by omega); rw [hnx, List.length_append, List.length_replicate] at h1; have := HTT.out; omega
      have HBD := hide hbd
      have h7 : IntKind.i64.wrap (65536 - (l.length : Int)) = 65536 - (l.length : Int) := by rw [IntKind.wrap_i64]; omega
      have h8 : IntKind.i64.wrap ((l.length : Int) + (q2 : Int)) = ((l.length + q2 : Nat) : Int) := by rw [IntKind.wrap_i64]; omega
      have h9 : ¬ (65536 - (l.length : Int)) < (q2 : Int) := by omega
      have HGP := hide hgp
      have HLT := hide hlt
      clear hgp hlt hj hgr hcp0 hpe hp0 hnx hbd
      go_wp2_with fail
      clear c0 c1 c2 c3 hcp h7 h8 h9
      go_loopw [8] (fun k wq => ∃ (m : Nat) (r : List Int), k = .int .i64 (m : Int) ∧ m ≤ q2 ∧ Hid (r = l ++ List.replicate m (j : Int)) ∧ ∃ N nN, GrowP w1 2 r [] N nN none 0 wq) (fun k _ => q2 - (intOf k).toNat)
      case atStart => exact ⟨0, l, rfl, Nat.zero_le _, hide (by simp), _, _, HGP.out⟩
      case round =>
       obtain ⟨m, r, rfl, hm, HR, N, nN, hgp⟩ := hrel
       have hgr := gb_trans HGA1.out hgp.hg (.inl rfl)
       obtain ⟨c0, c1, c2, c3⟩ := c4k (blk_keep HBX.out hgr (by simp))
       have hcp := cell_gb HCP0.out (gb_trans HG.out hgr (.inl rfl))
       clear HGP
       by_cases hlm : m < q2
       ·have hlm1 : (m : Int) < (q2 : Int) := by omega
        have h16 : IntKind.i64.wrap ((m : Int) + 1) = ((m + 1 : Nat) : Int) := by rw [IntKind.wrap_i64]; have := HBD.out; omega
        have hrl : r.length = l.length + m := by rw [HR.out, List.length_append, List.length_replicate]
        have HM1 : Hid (r.length + 1 ≤ maxLen) := hide (by unfold maxLen; have := HBD.out; omega)
        have HMB : Hid ((r.length + 1) * 8 ≤ 140737488355328) := hide (by have := HBD.out; omega)
        have HRX := hide (show l ++ List.replicate (m + 1) (j : Int) = r ++ [(j : Int)] by rw [HR.out, List.replicate_succ', List.append_assoc])
        have HGP := hide hgp
        have HLM := hide hlm
        clear hgp hlm hm hrl hgr
        obtain ⟨i1, hi1, hiz, his, hib⟩ := info_parts Tryz.info64
        have HI1 := hide hi1
        have HIZ := hide hiz
        have HIS := hide his
        have HIB := hide hib
        clear hi1 hiz his hib
        go_upto_region 19 with fail
        have hk7 : wr.grownBy (wr.alloc (.cells #[.int .i64 (j : Int)] 2)) none := gb_alloc (gb_refl wr none) _
        have HK7 := hide hk7
        have HON := hide (HGP.out.hn.kept hk7 (by cases (Value.slice N r.length nN).ownBlock <;> simp))
        have HRD := hide (show Rd (wr.alloc (.cells #[.int .i64 (j : Int)] 2)) (wr.alloc (.cells #[.int .i64 (j : Int)] 2)).heap.size (some ⟨wr.heap.size, 0, none⟩) (i64s [(j : Int)]) from (Rd.new wr #[.int .i64 (j : Int)] 2 _ rfl).more (by rw [World.size_alloc]; exact Nat.le_refl _))
        have HOC := hide (i64s_one [(j : Int)])
        have HBS : Hid (w1.heap.size + 1 ≤ (wr.alloc (.cells #[.int .i64 (j : Int)] 2)).heap.size) := hide (by have := blk_lt HGP.out.hh; have := hk7.size; omega)
        have p1 : ∀ o : Obj, (wr.alloc o).cell? ⟨w1.heap.size, 1, none⟩ = some (.slice N r.length nN) := fun o => cell_gb (by rw [blk_cell HGP.out.hh]; rfl) (gb_alloc (gb_refl wr none) o)
        have p0 : wr.cell? ⟨w1.heap.size, 1, none⟩ = some (.slice N r.length nN) := by rw [blk_cell HGP.out.hh]; rfl
        clear hk7
        go_wp2_with (at_builtin; refine wpList_append_rd _ rfl (.tmp 66) (.tmp 68) 22 rfl (w1.heap.size + 1) 2 i1 (.int .i64 0) 1 8 Tryz.underlying22 HI1.out HIZ.out HIS.out HIB.out rfl (Nat.succ_pos 0) (.slice N r.length nN) r.length (i64s r) rfl HON.out (wr.alloc (.cells #[.int .i64 (j : Int)] 2)).heap.size (some ⟨wr.heap.size, 0, none⟩) 1 1 (i64s [(j : Int)]) rfl rfl HRD.out HOC.out HM1.out HMB.out HBS.out ?_; intro v5 w5 ho5 hg5 hb5; obtain ⟨N5, nc5, rfl, _⟩ := own_slice ho5; have HST := hide (HGP.out.num (m := [(j : Int)]) HK7.out ho5 hg5); have hR5 := HST.out.1; have p1 : w5.cell? ⟨w1.heap.size, 1, none⟩ = some (.slice N r.length nN) := (by { rw [blk_cell hR5]; rfl }); have z1 := blk_frozen hR5 1; clear ho5 hg5 hb5 hR5)
        go_roundw
        case rel => exact ⟨m + 1, r ++ [(j : Int)], by go_num, by have := HLM.out; omega, hide HRX.out.symm, N5, nc5, HST.out.2.1⟩
        case measure => have := HLM.out; simp [intOf]; omega
       ·have hlm1 : ¬ (m : Int) < (q2 : Int) := by omega
        have hmq : m = q2 := by omega
        have HRQ := hide (show r = plW v.n (j + 1) by rw [HNX.out, HR.out, hmq])
        have HRL := hide (show r.length = l.length + q2 by rw [HR.out, List.length_append, List.length_replicate, hmq])
        have HGP := hide hgp
        clear hgp hlm hm hmq hgr
        go_wp2_with fail
        go_roundw
        case rel => exact ⟨j + 1, r, by go_num, by have := HLT.out; omega, hide HRQ.out, by rw [HRL.out, Int.natCast_add], N, nN, HGP.out⟩
        case measure => have := HLT.out; simp [intOf]; omega
     ·have hlt1 : ¬ (j : Int) < (v.n.length : Int) := by omega
      have hle := HLE.out
      rw [show j = v.n.length by omega] at hle
      have HLE2 := hide hle
      clear hle hgr
      obtain ⟨hh, hoN, hoS, hg⟩ := hgp
      obtain ⟨_, _, hvN, hcN⟩ := own_slice hoN
      injection hvN with hvN1 hvN2 hvN3
      clear hvN1 hvN2
      subst hvN3
      obtain ⟨f, ho, hnd, hf⟩ := VOw.row64 (t := 2) hcN hoN
      have hrr := blk_keep HBZ.out (gb_trans HGA1.out hg (.inl rfl)) (by simp)
      have HFIN := hide (NewE.fin (x := .mk 2 l [] []) (wa := w1) (g := w.heap.size + 1) ho ⟨hnd, fun b hb => ⟨by have := hf b hb; omega, VOw.lt _ _ _ ho b hb⟩⟩ HG1.out hg (by omega) (by have := blk_lt HBZ.out; have := HGA1.out.size; omega))
      have HRR := hide hrr
      obtain ⟨x0, x1, x2, x3, y0, y1, y2, y3⟩ := four_cells hrr (i := 0) (by decide)
      have z0 := blk_frozen hrr 0
      have z1 := blk_frozen hrr 1
      have z2 := blk_frozen hrr 2
      have z3 := blk_frozen hrr 3
      obtain ⟨q0, q1, q2, q3⟩ : C4 wr w1.heap.size 0 (.int .i64 2) (.slice N l.length nN) (.slice none 0 0) (.slice none 0 0) := c4k hh
      clear hh hoN hoS hg hcN ho hnd hf hrr
      go_wp2_with fail
      obtain ⟨m0, m1, m2, m3⟩ := C4.put HRR.out (.int .i64 2) (.slice N l.length nN) (.slice none 0 0) (.slice none 0 0)
      simp only [put4, Nat.zero_add] at m0 m1 m2 m3
      refine bodyPost_ret (v := .tuple #[.agg #[.int .i64 2, .slice N l.length nN, .slice none 0 0, .slice none 0 0], .int .i64 0]) (by simp [results, Tryz.results15, go_sem, m0, m1, m2, m3]) rfl ?_
      rw [← HLE2.out]
      exact HFIN.out
end Go.Proofs.YtbmgodmfpoappaaGreat
namespace Go.Proofs.YtbmgodmfpoappaaGreat
open Go.RowKit
attribute [local go_sem ↓] Go.wp_at_zero Go.wp_at_succ
def negB (n : Int) : Bool := decide (n < 0)
theorem negB_any (n : Int) (w : World) : Calls Tryz.prog 39 #[.int .i64 n] w fun e w' => e = .returned (.bool (negB n)) ∧ w.grownBy w' none := by
 have HZ := hide (show negB n = decide (n < 0) from rfl)
 have HG := hide (gb_refl w none)
 go_enter Tryz.func39, Tryz.ntmps39
 go_wp2_with fail
 go_ret
 exact ⟨by rw [HZ.out]; rfl, HG.out⟩
set_option maxHeartbeats 4000000 in
set_option maxRecDepth 100000 in
theorem vNeg_idx (l : List Int) (w : World) (B : Nat) (A : Option Addr) (c : Nat) (hl : l.length ≤ 1200000000) (hB : B ≤ w.heap.size) (h : Rd w B A (i64s l)) :
  Calls Tryz.prog 71 #[.slice A l.length c, .func (.func 39) #[] #[]] w (IdxPost (l.any negB) w) := by
 have H := hide h
 have HB := hide hB
 clear h hB
 go_enter Tryz.func71, Tryz.ntmps71
 go_wp2_with fail
 go_loopw [8] (fun i wr => ∃ j : Nat, i = .int .i64 (j : Int) ∧ j ≤ l.length ∧ Hid ((l.take j).any negB = false) ∧ w.grownBy wr none) (fun i _ => l.length - (intOf i).toNat)
 case atStart => exact ⟨0, rfl, Nat.zero_le _, hide (by simp), gb_refl w none⟩
 case round =>
  obtain ⟨j, rfl, hj, HE, hgr⟩ := hrel
  have HGR := hide hgr
  clear hgr
  by_cases hlt : j < l.length
  ·have hlt1 : (j : Int) < (l.length : Int) := by omega
   obtain ⟨a, ha, _, hcp0⟩ := H.out.i64 hlt
   subst ha
   obtain ⟨p, hpe⟩ : ∃ p, p = l[j] := ⟨_, rfl⟩
   rw [← hpe] at hcp0
   have hcp := cell_gb hcp0 HGR.out
   have HC := hide (negB_any p wr)
   have HL := hide (show l.take (j + 1) = l.take j ++ [p] by rw [hpe]; exact List.take_succ_eq_append_getElem hlt)
   have HA : Hid (negB p = true → l.any negB = true) := hide (fun h => List.any_eq_true.2 ⟨p, by rw [hpe]; exact List.getElem_mem hlt, h⟩)
   clear hcp0 hpe
   cases hp : negB p
   ·rw [hp] at HC
    have HP := hide hp
    clear hp
    go_wp2_with (go_at_call 39; refine HC.out.mono ?_; rintro e w1 ⟨rfl, hg1⟩; have HG1 := hide hg1; clear hg1)
    go_roundw
    case rel => exact ⟨j + 1, by go_num, by omega, hide (by rw [HL.out, List.any_append, HE.out]; simp [HP.out]), gb_trans HGR.out HG1.out (.inl rfl)⟩
    case measure => simp [intOf]; omega
   ·rw [hp] at HC
    have HA2 := hide (HA.out hp)
    clear hp
    go_wp2_with (go_at_call 39; refine HC.out.mono ?_; rintro e w1 ⟨rfl, hg1⟩; have HG1 := hide hg1; clear hg1)
    go_ret
    exact ⟨j, rfl, by rw [HA2.out]; exact decide_eq_true (by omega), gb_trans HGR.out HG1.out (.inl rfl)⟩
  ·have hlt1 : ¬ (j : Int) < (l.length : Int) := by omega
   have HT := hide (show l.take j = l from List.take_of_length_le (by omega))
   go_wp2_with fail
   go_ret
   exact ⟨-1, rfl, by have := HE.out; rw [HT.out] at this; rw [this]; rfl, HGR.out⟩
set_option maxHeartbeats 4000000 in
set_option maxRecDepth 100000 in
theorem vNeg_has  (l : List Int) (w : World) (B : Nat) (A : Option Addr) (c : Nat) (hl : l.length ≤ 1200000000) (hB : B ≤ w.heap.size) (h : Rd w B A (i64s l))  :
  Calls Tryz.prog 38 #[.slice A l.length c, .func (.func 39) #[] #[]] w fun e w' => e = .returned (.bool (l.any negB)) ∧ w.grownBy w' none := by
 have HI := hide (vNeg_idx  l w B A c hl hB h )
 clear h hB
 generalize l.any negB = b at *
 go_enter Tryz.func38, Tryz.ntmps38
 go_wp2_with (go_at_call 71; refine HI.out.mono ?_; rintro e w1 ⟨r, rfl, hr, hg1⟩; have HR := hide hr; have HG1 := hide hg1; clear hr hg1)
 go_ret
 exact ⟨ret_b (by rw [← HR.out]), HG1.out⟩
end Go.Proofs.YtbmgodmfpoappaaGreat
namespace Go.Proofs.YtbmgodmfpoappaaGreat
open Go.RowKit
attribute [local go_sem ↓] Go.wp_at_zero Go.wp_at_succ
set_option maxHeartbeats 8000000 in
set_option maxRecDepth 100000 in
theorem vWhere_in (v : Vl) (w : World) (B : Nat) (nA : Option Addr) (nc : Nat) (sA : Option Addr) (sc : Nat) (lA : Option Addr) (lc : Nat) (hs : v.t = 1 ∨ v.t = 2) (hneg : ∀ x ∈ v.n, 0 ≤ x) (htot : (plW v.n v.n.length).length ≤ 65536) (ht : v.tot ≤ 1200000000) (hB : B ≤ w.heap.size) (h : VB w B v nA nc sA sc lA lc) :
  Calls Tryz.prog 14 #[.agg #[.int .i64 v.t, .slice nA v.n.length nc, .slice sA v.s.length sc, .slice lA v.l.length lc]] w (NewE (.mk 2 (plW v.n v.n.length) [] []) w) := by
 obtain ⟨l1, l2, l3, l4⟩ := Vl.lens v ht
 obtain ⟨wa, hwa⟩ : ∃ wa, wa = (w.alloc (.cells #[.int .i64 v.t, .slice nA v.n.length nc, .slice sA v.s.length sc, .slice lA v.l.length lc] 26)).alloc (.cells #[.int .i64 0, .slice none 0 0, .slice none 0 0, .slice none 0 0] 26) := ⟨_, rfl⟩
 have bx : wa.heap[w.heap.size]? = some (.cells #[.int .i64 v.t, .slice nA v.n.length nc, .slice sA v.s.length sc, .slice lA v.l.length lc] 26 (0, 0)) := by rw [hwa]; exact (Below.heap_alloc _ _ _ (by rw [World.size_alloc]; omega)).trans (heap_alloc_new w _)
 have bz : wa.heap[w.heap.size + 1]? = some (.cells #[.int .i64 0, .slice none 0 0, .slice none 0 0, .slice none 0 0] 26 (0, 0)) := by rw [hwa]; have := heap_alloc_new (w.alloc (.cells #[.int .i64 v.t, .slice nA v.n.length nc, .slice sA v.s.length sc, .slice lA v.l.length lc] 26)) (.cells #[.int .i64 0, .slice none 0 0, .slice none 0 0, .slice none 0 0] 26); rwa [World.size_alloc] at this
 have HBX := hide bx
 have HBZ := hide bz
 have HSZ := hide (show wa.heap.size = w.heap.size + 2 by rw [hwa]; simp)
 have HG := hide (show w.grownBy wa none by rw [hwa]; exact gb_alloc (gb_alloc (gb_refl w none) _) _)
 have HWE := hide hwa
 obtain ⟨c0, c1, c2, c3⟩ : C4 wa w.heap.size 0 (.int .i64 v.t) (.slice nA v.n.length nc) (.slice sA v.s.length sc) (.slice lA v.l.length lc) := c4k bx
 have HL := hide l1
 have HN := hide h.n
 have HBB := hide hB
 have HNG := hide hneg
 have HTT := hide htot
 have hany : v.n.any negB = false := List.any_eq_false.2 fun x hx => by have := hneg x hx; unfold negB; simp; omega
 have hcf := vNeg_has v.n wa wa.heap.size nA nc l1 (Nat.le_refl _) ((h.gb HG.out hB).n.more (Nat.le_trans hB HG.out.size))
 rw [hany] at hcf
 have HCF := hide hcf
 clear hcf hany
 rcases hs with hs | hs
 ·have e1 : (v.t != 1) = false := by simp [hs]
  clear hs bx bz hwa h hB ht l1 l2 l3 l4 hneg htot
  go_enter Tryz.func14, Tryz.ntmps14
  go_wp2_with fail
  rw [← HWE.out]
  go_wp2_with (go_at_call 38; refine (HCF.out).mono ?_; rintro e w1 ⟨rfl, hg1⟩; have HGA1 := hide hg1; clear hg1 c0 c1 c2 c3; obtain ⟨c0, c1, c2, c3⟩ := c4k (blk_keep HBX.out HGA1.out (by simp)))
  clear c0 c1 c2 c3
  go_loopw [4, 23] (fun E i wq => ∃ (j : Nat) (l : List Int), i = .int .i64 (j : Int) ∧ j ≤ v.n.length ∧ Hid (l = plW v.n j) ∧ ∃ rA rc, E = .slice rA l.length rc ∧ wq.ownsRow wa.heap.size 2 1 (.slice rA l.length rc) l.length (i64s l) ∧ wa.grownBy wq none) (fun _ i _ => v.n.length - (intOf i).toNat)
  case atStart => exact ⟨0, [], rfl, Nat.zero_le _, hide rfl, none, 0, rfl, ⟨rfl, .inl ⟨rfl, rfl⟩⟩, HGA1.out⟩
  case round =>
   obtain ⟨j, l, rfl, hj, HLE, rA, rc, rfl, how, hgr⟩ := hrel
   by_cases hlt : j < v.n.length
   ·have hlt1 : (j : Int) < (v.n.length : Int) := by omega
    have h6 : IntKind.i64.wrap ((j : Int) + 1) = ((j + 1 : Nat) : Int) := by rw [IntKind.wrap_i64]; have := HL.out; omega
    obtain ⟨a, ha, _, hcp0⟩ := HN.out.i64 hlt
    subst ha
    obtain ⟨p, hpe⟩ : ∃ p, p = v.n[j] := ⟨_, rfl⟩
    rw [← hpe] at hcp0
    have hcp := cell_gb hcp0 (gb_trans HG.out hgr (.inl rfl))
    have hp0 : 0 ≤ p := HNG.out p (by rw [hpe]; exact List.getElem_mem hlt)
    obtain ⟨q2, rfl⟩ : ∃ q2 : Nat, p = (q2 : Int) := ⟨p.toNat, by omega⟩
    have hnx : plW v.n (j + 1) = l ++ List.replicate q2 (j : Int) := by rw [HLE.out]; show _ ++ List.replicate (v.n.getD j 0).toNat (j : Int) = _; rw [getD_at hlt, ← hpe]; rfl
    have HNX := hide hnx
    have hbd : l.length + q2 ≤ 65536 := by have h1 := plW_le v.n (show j + 1 ≤ v.n.length by omega); rw [hnx, List.length_append, List.length_replicate] at h1; have := HTT.out; omega
    have HBD := hide hbd
    have h7 : IntKind.i64.wrap (65536 - (l.length : Int)) = 65536 - (l.length : Int) := by rw [IntKind.wrap_i64]; omega
    have h9 : ¬ (65536 - (l.length : Int)) < (q2 : Int) := by omega
    have HOW := hide how
    have HGR := hide hgr
    have HLT := hide hlt
    clear how hlt hj hgr hcp0 hpe hp0 hnx hbd
    go_wp2_with fail
    clear hcp h7 h9
    go_loopw [4, 35] (fun E k wq => ∃ (m : Nat) (r : List Int), k = .int .i64 (m : Int) ∧ m ≤ q2 ∧ Hid (r = l ++ List.replicate m (j : Int)) ∧ ∃ rA rc, E = .slice rA r.length rc ∧ wq.ownsRow wa.heap.size 2 1 (.slice rA r.length rc) r.length (i64s r) ∧ wa.grownBy wq none) (fun _ k _ => q2 - (intOf k).toNat)
    case atStart => exact ⟨0, l, rfl, Nat.zero_le _, hide (by simp), rA, rc, rfl, HOW.out, HGR.out⟩
    case round =>
     obtain ⟨m, r, rfl, hm, HR, rA, rc, rfl, how, hgr⟩ := hrel
     clear HOW HGR
     by_cases hlm : m < q2
     ·have hlm1 : (m : Int) < (q2 : Int) := by omega
      have h16 : IntKind.i64.wrap ((m : Int) + 1) = ((m + 1 : Nat) : Int) := by rw [IntKind.wrap_i64]; have := HBD.out; omega
      have hrl : r.length = l.length + m := by rw [HR.out, List.length_append, List.length_replicate]
      have HM1 : Hid (r.length + 1 ≤ maxLen) := hide (by unfold maxLen; have := HBD.out; omega)
      have HMB : Hid ((r.length + 1) * 8 ≤ 140737488355328) := hide (by have := HBD.out; omega)
      have HRX := hide (show l ++ List.replicate (m + 1) (j : Int) = r ++ [(j : Int)] by rw [HR.out, List.replicate_succ', List.append_assoc])
      have HGR := hide hgr
      have HLM := hide hlm
      clear hlm hm hrl
      obtain ⟨i1, hi1, hiz, his, hib⟩ := info_parts Tryz.info64
      have HI1 := hide hi1
      have HIZ := hide hiz
      have HIS := hide his
      have HIB := hide hib
      clear hi1 hiz his hib
      have hk7 : wr.grownBy (wr.alloc (.cells #[.int .i64 (j : Int)] 2)) none := gb_alloc (gb_refl wr none) _
      have HK7 := hide hk7
      have HON := hide (how.kept hk7 (by cases (Value.slice rA r.length rc).ownBlock <;> simp))
      have HRD := hide (show Rd (wr.alloc (.cells #[.int .i64 (j : Int)] 2)) (wr.alloc (.cells #[.int .i64 (j : Int)] 2)).heap.size (some ⟨wr.heap.size, 0, none⟩) (i64s [(j : Int)]) from (Rd.new wr #[.int .i64 (j : Int)] 2 _ rfl).more (by rw [World.size_alloc]; exact Nat.le_refl _))
      have HOC := hide (i64s_one [(j : Int)])
      have HBS : Hid (wa.heap.size ≤ (wr.alloc (.cells #[.int .i64 (j : Int)] 2)).heap.size) := hide (Nat.le_trans hgr.size hk7.size)
      clear hk7 how
      go_wp2_with (at_builtin; refine wpList_append_rd _ rfl (.tmp 37) (.tmp 39) 22 rfl wa.heap.size 2 i1 (.int .i64 0) 1 8 Tryz.underlying22 HI1.out HIZ.out HIS.out HIB.out rfl (Nat.succ_pos 0) (.slice rA r.length rc) r.length (i64s r) rfl HON.out (wr.alloc (.cells #[.int .i64 (j : Int)] 2)).heap.size (some ⟨wr.heap.size, 0, none⟩) 1 1 (i64s [(j : Int)]) rfl rfl HRD.out HOC.out HM1.out HMB.out HBS.out ?_; intro v5 w5 ho5 hg5 hb5; obtain ⟨N5, nc5, rfl, _⟩ := own_slice ho5; have HO5 := hide (show w5.ownsRow wa.heap.size 2 1 (.slice N5 (r.length + 1) nc5) (r.length + 1) (i64s (r ++ [(j : Int)])) by rw [show i64s (r ++ [(j : Int)]) = i64s r ++ i64s [(j : Int)] by simp [i64s]]; exact ho5); have HG5 := hide (gb_trans (gb_trans HGR.out HK7.out (.inl rfl)) hg5 (match hq : (Value.slice rA r.length rc).ownBlock with | none => .inr (.inl rfl) | some g => .inr (.inr ⟨g, rfl, (HON.out.lt g hq).1⟩))); clear ho5 hg5 hb5)
      clear hgr
      go_roundw
      case rel => exact ⟨m + 1, r ++ [(j : Int)], by go_num, by have := HLM.out; omega, hide HRX.out.symm, N5, nc5, by rw [List.length_append]; rfl, by rw [List.length_append]; exact HO5.out, HG5.out⟩
      case measure => have := HLM.out; simp [intOf]; omega
     ·have hlm1 : ¬ (m : Int) < (q2 : Int) := by omega
      have hmq : m = q2 := by omega
      have HRQ := hide (show r = plW v.n (j + 1) by rw [HNX.out, HR.out, hmq])
      have HOW := hide how
      have HGR := hide hgr
      clear how hlm hm hmq hgr
      go_wp2_with fail
      go_roundw
      case rel => exact ⟨j + 1, r, by go_num, by have := HLT.out; omega, hide HRQ.out, rA, rc, rfl, HOW.out, HGR.out⟩
      case measure => have := HLT.out; simp [intOf]; omega
   ·have hlt1 : ¬ (j : Int) < (v.n.length : Int) := by omega
    have hle := HLE.out
    rw [show j = v.n.length by omega] at hle
    have HLE2 := hide hle
    obtain ⟨_, _, hvN, hcN⟩ := own_slice how
    injection hvN with hvN1 hvN2 hvN3
    clear hvN1 hvN2
    subst hvN3
    obtain ⟨f, ho, hnd, hf⟩ := VOw.row64 (t := 2) hcN how
    have HFIN := hide (NewE.fin (x := .mk 2 l [] []) (wa := wa) (g := w.heap.size + 1) ho ⟨hnd, fun b hb => ⟨hf b hb, VOw.lt _ _ _ ho b hb⟩⟩ HG.out hgr (Nat.le_succ _) (by have := HSZ.out; omega))
    have HGR := hide hgr
    have hrr := blk_keep HBZ.out HGR.out (by simp)
    have HRR := hide hrr
    obtain ⟨z0, z1, z2, z3, y0, y1, y2, y3⟩ := zz4 hrr
    clear hrr
    clear hle hgr how ho hnd hf hcN
    go_wp2_with fail
    obtain ⟨m0, m1, m2, m3⟩ := C4.put HRR.out (.int .i64 2) (.slice rA l.length rc) (.slice none 0 0) (.slice none 0 0)
    simp only [put4, Nat.zero_add] at m0 m1 m2 m3
    refine bodyPost_ret (v := .tuple #[.agg #[.int .i64 2, .slice rA l.length rc, .slice none 0 0, .slice none 0 0], .int .i64 0]) (by simp [results, Tryz.results14, go_sem, m0, m1, m2, m3]) rfl ?_
    rw [← HLE2.out]
    exact HFIN.out
 ·have e1 : (v.t != 1) = true := by simp [hs]
  have e2 : (v.t != 2) = false := by simp [hs]
  clear hs bx bz hwa h hB ht l1 l2 l3 l4 hneg htot
  go_enter Tryz.func14, Tryz.ntmps14
  go_wp2_with fail
  rw [← HWE.out]
  go_wp2_with (go_at_call 38; refine (HCF.out).mono ?_; rintro e w1 ⟨rfl, hg1⟩; have HGA1 := hide hg1; clear hg1 c0 c1 c2 c3; obtain ⟨c0, c1, c2, c3⟩ := c4k (blk_keep HBX.out HGA1.out (by simp)))
  clear c0 c1 c2 c3
  go_loopw [4, 23] (fun E i wq => ∃ (j : Nat) (l : List Int), i = .int .i64 (j : Int) ∧ j ≤ v.n.length ∧ Hid (l = plW v.n j) ∧ ∃ rA rc, E = .slice rA l.length rc ∧ wq.ownsRow wa.heap.size 2 1 (.slice rA l.length rc) l.length (i64s l) ∧ wa.grownBy wq none) (fun _ i _ => v.n.length - (intOf i).toNat)
  case atStart => exact ⟨0, [], rfl, Nat.zero_le _, hide rfl, none, 0, rfl, ⟨rfl, .inl ⟨rfl, rfl⟩⟩, HGA1.out⟩
  case round =>
   obtain ⟨j, l, rfl, hj, HLE, rA, rc, rfl, how, hgr⟩ := hrel
   by_cases hlt : j < v.n.length
   ·have hlt1 : (j : Int) < (v.n.length : Int) := by omega
    have h6 : IntKind.i64.wrap ((j : Int) + 1) = ((j + 1 : Nat) : Int) := by rw [IntKind.wrap_i64]; have := HL.out; omega
    obtain ⟨a, ha, _, hcp0⟩ := HN.out.i64 hlt
    subst ha
    obtain ⟨p, hpe⟩ : ∃ p, p = v.n[j] := ⟨_, rfl⟩
    rw [← hpe] at hcp0
    have hcp := cell_gb hcp0 (gb_trans HG.out hgr (.inl rfl))
    have hp0 : 0 ≤ p := HNG.out p (by rw [hpe]; exact List.getElem_mem hlt)
    obtain ⟨q2, rfl⟩ : ∃ q2 : Nat, p = (q2 : Int) := ⟨p.toNat, by omega⟩
    have hnx : plW v.n (j + 1) = l ++ List.replicate q2 (j : Int) := by rw [HLE.out]; show _ ++ List.replicate (v.n.getD j 0).toNat (j : Int) = _; rw [getD_at hlt, ← hpe]; rfl
    have HNX := hide hnx
    have hbd : l.length + q2 ≤ 65536 := by have h1 := plW_le v.n (show j + 1 ≤ v.n.length by omega); rw [hnx, List.length_append, List.length_replicate] at h1; have := HTT.out; omega
    have HBD := hide hbd
    have h7 : IntKind.i64.wrap (65536 - (l.length : Int)) = 65536 - (l.length : Int) := by rw [IntKind.wrap_i64]; omega
    have h9 : ¬ (65536 - (l.length : Int)) < (q2 : Int) := by omega
    have HOW := hide how
    have HGR := hide hgr
    have HLT := hide hlt
    clear how hlt hj hgr hcp0 hpe hp0 hnx hbd
    go_wp2_with fail
    clear hcp h7 h9
    go_loopw [4, 35] (fun E k wq => ∃ (m : Nat) (r : List Int), k = .int .i64 (m : Int) ∧ m ≤ q2 ∧ Hid (r = l ++ List.replicate m (j : Int)) ∧ ∃ rA rc, E = .slice rA r.length rc ∧ wq.ownsRow wa.heap.size 2 1 (.slice rA r.length rc) r.length (i64s r) ∧ wa.grownBy wq none) (fun _ k _ => q2 - (intOf k).toNat)
    case atStart => exact ⟨0, l, rfl, Nat.zero_le _, hide (by simp), rA, rc, rfl, HOW.out, HGR.out⟩
    case round =>
     obtain ⟨m, r, rfl, hm, HR, rA, rc, rfl, how, hgr⟩ := hrel
     clear HOW HGR
     by_cases hlm : m < q2
     ·have hlm1 : (m : Int) < (q2 : Int) := by omega
      have h16 : IntKind.i64.wrap ((m : Int) + 1) = ((m + 1 : Nat) : Int) := by rw [IntKind.wrap_i64]; have := HBD.out; omega
      have hrl : r.length = l.length + m := by rw [HR.out, List.length_append, List.length_replicate]
      have HM1 : Hid (r.length + 1 ≤ maxLen) := hide (by unfold maxLen; have := HBD.out; omega)
      have HMB : Hid ((r.length + 1) * 8 ≤ 140737488355328) := hide (by have := HBD.out; omega)
      have HRX := hide (show l ++ List.replicate (m + 1) (j : Int) = r ++ [(j : Int)] by rw [HR.out, List.replicate_succ', List.append_assoc])
      have HGR := hide hgr
      have HLM := hide hlm
      clear hlm hm hrl
      obtain ⟨i1, hi1, hiz, his, hib⟩ := info_parts Tryz.info64
      have HI1 := hide hi1
      have HIZ := hide hiz
      have HIS := hide his
      have HIB := hide hib
      clear hi1 hiz his hib
      have hk7 : wr.grownBy (wr.alloc (.cells #[.int .i64 (j : Int)] 2)) none := gb_alloc (gb_refl wr none) _
      have HK7 := hide hk7
      have HON := hide (how.kept hk7 (by cases (Value.slice rA r.length rc).ownBlock <;> simp))
      have HRD := hide (show Rd (wr.alloc (.cells #[.int .i64 (j : Int)] 2)) (wr.alloc (.cells #[.int .i64 (j : Int)] 2)).heap.size (some ⟨wr.heap.size, 0, none⟩) (i64s [(j : Int)]) from (Rd.new wr #[.int .i64 (j : Int)] 2 _ rfl).more (by rw [World.size_alloc]; exact Nat.le_refl _))
      have HOC := hide (i64s_one [(j : Int)])
      have HBS : Hid (wa.heap.size ≤ (wr.alloc (.cells #[.int .i64 (j : Int)] 2)).heap.size) := hide (Nat.le_trans hgr.size hk7.size)
      clear hk7 how
      go_wp2_with (at_builtin; refine wpList_append_rd _ rfl (.tmp 37) (.tmp 39) 22 rfl wa.heap.size 2 i1 (.int .i64 0) 1 8 Tryz.underlying22 HI1.out HIZ.out HIS.out HIB.out rfl (Nat.succ_pos 0) (.slice rA r.length rc) r.length (i64s r) rfl HON.out (wr.alloc (.cells #[.int .i64 (j : Int)] 2)).heap.size (some ⟨wr.heap.size, 0, none⟩) 1 1 (i64s [(j : Int)]) rfl rfl HRD.out HOC.out HM1.out HMB.out HBS.out ?_; intro v5 w5 ho5 hg5 hb5; obtain ⟨N5, nc5, rfl, _⟩ := own_slice ho5; have HO5 := hide (show w5.ownsRow wa.heap.size 2 1 (.slice N5 (r.length + 1) nc5) (r.length + 1) (i64s (r ++ [(j : Int)])) by rw [show i64s (r ++ [(j : Int)]) = i64s r ++ i64s [(j : Int)] by simp [i64s]]; exact ho5); have HG5 := hide (gb_trans (gb_trans HGR.out HK7.out (.inl rfl)) hg5 (match hq : (Value.slice rA r.length rc).ownBlock with | none => .inr (.inl rfl) | some g => .inr (.inr ⟨g, rfl, (HON.out.lt g hq).1⟩))); clear ho5 hg5 hb5)
      clear hgr
      go_roundw
      case rel => exact ⟨m + 1, r ++ [(j : Int)], by go_num, by have := HLM.out; omega, hide HRX.out.symm, N5, nc5, by rw [List.length_append]; rfl, by rw [List.length_append]; exact HO5.out, HG5.out⟩
      case measure => have := HLM.out; simp [intOf]; omega
     ·have hlm1 : ¬ (m : Int) < (q2 : Int) := by omega
      have hmq : m = q2 := by omega
      have HRQ := hide (show r = plW v.n (j + 1) by rw [HNX.out, HR.out, hmq])
      have HOW := hide how
      have HGR := hide hgr
      clear how hlm hm hmq hgr
      go_wp2_with fail
      go_roundw
      case rel => exact ⟨j + 1, r, by go_num, by have := HLT.out; omega, hide HRQ.out, rA, rc, rfl, HOW.out, HGR.out⟩
      case measure => have := HLT.out; simp [intOf]; omega
   ·have hlt1 : ¬ (j : Int) < (v.n.length : Int) := by omega
    have hle := HLE.out
    rw [show j = v.n.length by omega] at hle
    have HLE2 := hide hle
    obtain ⟨_, _, hvN, hcN⟩ := own_slice how
    injection hvN with hvN1 hvN2 hvN3
    clear hvN1 hvN2
    subst hvN3
    obtain ⟨f, ho, hnd, hf⟩ := VOw.row64 (t := 2) hcN how
    have HFIN := hide (NewE.fin (x := .mk 2 l [] []) (wa := wa) (g := w.heap.size + 1) ho ⟨hnd, fun b hb => ⟨hf b hb, VOw.lt _ _ _ ho b hb⟩⟩ HG.out hgr (Nat.le_succ _) (by have := HSZ.out; omega))
    have HGR := hide hgr
    have hrr := blk_keep HBZ.out HGR.out (by simp)
    have HRR := hide hrr
    obtain ⟨z0, z1, z2, z3, y0, y1, y2, y3⟩ := zz4 hrr
    clear hrr
    clear hle hgr how ho hnd hf hcN
    go_wp2_with fail
    obtain ⟨m0, m1, m2, m3⟩ := C4.put HRR.out (.int .i64 2) (.slice rA l.length rc) (.slice none 0 0) (.slice none 0 0)
    simp only [put4, Nat.zero_add] at m0 m1 m2 m3
    refine bodyPost_ret (v := .tuple #[.agg #[.int .i64 2, .slice rA l.length rc, .slice none 0 0, .slice none 0 0], .int .i64 0]) (by simp [results, Tryz.results14, go_sem, m0, m1, m2, m3]) rfl ?_
    rw [← HLE2.out]
    exact HFIN.out
end Go.Proofs.YtbmgodmfpoappaaGreat
namespace Go.Proofs.YtbmgodmfpoappaaGreat
open Go.RowKit
attribute [local go_sem ↓] Go.wp_at_zero Go.wp_at_succ
set_option maxHeartbeats 8000000 in
set_option maxRecDepth 100000 in
theorem vWhere_no (v : Vl) (w : World) (nA : Option Addr) (nc : Nat) (sA : Option Addr) (sc : Nat) (lA : Option Addr) (lc : Nat) (hs : v.t ≠ 1 ∧ v.t ≠ 2) :
  Calls Tryz.prog 14 #[.agg #[.int .i64 v.t, .slice nA v.n.length nc, .slice sA v.s.length sc, .slice lA v.l.length lc]] w (ErrV 31 w) := by
 obtain ⟨wa, hwa⟩ : ∃ wa, wa = (w.alloc (.cells #[.int .i64 v.t, .slice nA v.n.length nc, .slice sA v.s.length sc, .slice lA v.l.length lc] 26)).alloc (.cells #[.int .i64 0, .slice none 0 0, .slice none 0 0, .slice none 0 0] 26) := ⟨_, rfl⟩
 have bx : wa.heap[w.heap.size]? = some (.cells #[.int .i64 v.t, .slice nA v.n.length nc, .slice sA v.s.length sc, .slice lA v.l.length lc] 26 (0, 0)) := by rw [hwa]; exact (Below.heap_alloc _ _ _ (by rw [World.size_alloc]; omega)).trans (heap_alloc_new w _)
 have bz : wa.heap[w.heap.size + 1]? = some (.cells #[.int .i64 0, .slice none 0 0, .slice none 0 0, .slice none 0 0] 26 (0, 0)) := by rw [hwa]; have := heap_alloc_new (w.alloc (.cells #[.int .i64 v.t, .slice nA v.n.length nc, .slice sA v.s.length sc, .slice lA v.l.length lc] 26)) (.cells #[.int .i64 0, .slice none 0 0, .slice none 0 0, .slice none 0 0] 26); rwa [World.size_alloc] at this
 have HBX := hide bx
 have HBZ := hide bz
 have HSZ := hide (show wa.heap.size = w.heap.size + 2 by rw [hwa]; simp)
 have HG := hide (show w.grownBy wa none by rw [hwa]; exact gb_alloc (gb_alloc (gb_refl w none) _) _)
 have HWE := hide hwa
 obtain ⟨c0, c1, c2, c3⟩ : C4 wa w.heap.size 0 (.int .i64 v.t) (.slice nA v.n.length nc) (.slice sA v.s.length sc) (.slice lA v.l.length lc) := c4k bx
 have e1 : (v.t != 1) = true := by simp [hs.1]
 have e2 : (v.t != 2) = true := by simp [hs.2]
 have hrr := blk_keep HBZ.out (gb_refl wa none) (by simp)
 have HRR := hide hrr
 obtain ⟨z0, z1, z2, z3, y0, y1, y2, y3⟩ := zz4 hrr
 clear hrr
 clear hs bx bz hwa
 go_enter Tryz.func14, Tryz.ntmps14
 go_upto_region 1 with fail
 rw [← HWE.out]
 go_wp2_with fail
 obtain ⟨m0, m1, m2, m3⟩ := C4.put HRR.out (.int .i64 0) (.slice none 0 0) (.slice none 0 0) (.slice none 0 0)
 simp only [put4, Nat.zero_add] at m0 m1 m2 m3
 refine bodyPost_ret (v := .tuple #[.agg #[.int .i64 0, .slice none 0 0, .slice none 0 0, .slice none 0 0], .int .i64 31]) (by simp [results, Tryz.results14, go_sem, m0, m1, m2, m3]) rfl ⟨rfl, ?_⟩
 exact put4_to HG.out (Nat.le_succ _)
set_option maxHeartbeats 8000000 in
set_option maxRecDepth 100000 in
theorem rWhere_no (v : Vl) (w : World) (nA : Option Addr) (nc : Nat) (sA : Option Addr) (sc : Nat) (lA : Option Addr) (lc : Nat) (hs : v.t ≠ 1 ∧ v.t ≠ 2) :
  Calls Tryz.prog 15 #[.agg #[.int .i64 v.t, .slice nA v.n.length nc, .slice sA v.s.length sc, .slice lA v.l.length lc]] w (ErrV 31 w) := by
 obtain ⟨wa, hwa⟩ : ∃ wa, wa = (w.alloc (.cells #[.int .i64 v.t, .slice nA v.n.length nc, .slice sA v.s.length sc, .slice lA v.l.length lc] 26)).alloc (.cells #[.int .i64 0, .slice none 0 0, .slice none 0 0, .slice none 0 0] 26) := ⟨_, rfl⟩
 have bx : wa.heap[w.heap.size]? = some (.cells #[.int .i64 v.t, .slice nA v.n.length nc, .slice sA v.s.length sc, .slice lA v.l.length lc] 26 (0, 0)) := by rw [hwa]; exact (Below.heap_alloc _ _ _ (by rw [World.size_alloc]; omega)).trans (heap_alloc_new w _)
 have bz : wa.heap[w.heap.size + 1]? = some (.cells #[.int .i64 0, .slice none 0 0, .slice none 0 0, .slice none 0 0] 26 (0, 0)) := by rw [hwa]; have := heap_alloc_new (w.alloc (.cells #[.int .i64 v.t, .slice nA v.n.length nc, .slice sA v.s.length sc, .slice lA v.l.length lc] 26)) (.cells #[.int .i64 0, .slice none 0 0, .slice none 0 0, .slice none 0 0] 26); rwa [World.size_alloc] at this
 have HBX := hide bx
 have HBZ := hide bz
 have HSZ := hide (show wa.heap.size = w.heap.size + 2 by rw [hwa]; simp)
 have HG := hide (show w.grownBy wa none by rw [hwa]; exact gb_alloc (gb_alloc (gb_refl w none) _) _)
 have HWE := hide hwa
 obtain ⟨c0, c1, c2, c3⟩ : C4 wa w.heap.size 0 (.int .i64 v.t) (.slice nA v.n.length nc) (.slice sA v.s.length sc) (.slice lA v.l.length lc) := c4k bx
 have e1 : (v.t != 1) = true := by simp [hs.1]
 have e2 : (v.t != 2) = true := by simp [hs.2]
 have hrr := blk_keep HBZ.out (gb_refl wa none) (by simp)
 have HRR := hide hrr
 obtain ⟨z0, z1, z2, z3, y0, y1, y2, y3⟩ := zz4 hrr
 clear hrr
 clear hs bx bz hwa
 go_enter Tryz.func15, Tryz.ntmps15
 go_upto_region 1 with fail
 rw [← HWE.out]
 go_wp2_with fail
 obtain ⟨m0, m1, m2, m3⟩ := C4.put HRR.out (.int .i64 0) (.slice none 0 0) (.slice none 0 0) (.slice none 0 0)
 simp only [put4, Nat.zero_add] at m0 m1 m2 m3
 refine bodyPost_ret (v := .tuple #[.agg #[.int .i64 0, .slice none 0 0, .slice none 0 0, .slice none 0 0], .int .i64 31]) (by simp [results, Tryz.results15, go_sem, m0, m1, m2, m3]) rfl ⟨rfl, ?_⟩
 exact put4_to HG.out (Nat.le_succ _)
set_option maxHeartbeats 8000000 in
set_option maxRecDepth 100000 in
theorem vWhere_neg (v : Vl) (w : World) (B : Nat) (nA : Option Addr) (nc : Nat) (sA : Option Addr) (sc : Nat) (lA : Option Addr) (lc : Nat) (hs : v.t = 1 ∨ v.t = 2) (hneg : v.n.any negB = true) (ht : v.tot ≤ 1200000000) (hB : B ≤ w.heap.size) (h : VB w B v nA nc sA sc lA lc) :
  Calls Tryz.prog 14 #[.agg #[.int .i64 v.t, .slice nA v.n.length nc, .slice sA v.s.length sc, .slice lA v.l.length lc]] w (ErrV 2 w) := by
 obtain ⟨l1, l2, l3, l4⟩ := Vl.lens v ht
 obtain ⟨wa, hwa⟩ : ∃ wa, wa = (w.alloc (.cells #[.int .i64 v.t, .slice nA v.n.length nc, .slice sA v.s.length sc, .slice lA v.l.length lc] 26)).alloc (.cells #[.int .i64 0, .slice none 0 0, .slice none 0 0, .slice none 0 0] 26) := ⟨_, rfl⟩
 have bx : wa.heap[w.heap.size]? = some (.cells #[.int .i64 v.t, .slice nA v.n.length nc, .slice sA v.s.length sc, .slice lA v.l.length lc] 26 (0, 0)) := by rw [hwa]; exact (Below.heap_alloc _ _ _ (by rw [World.size_alloc]; omega)).trans (heap_alloc_new w _)
 have bz : wa.heap[w.heap.size + 1]? = some (.cells #[.int .i64 0, .slice none 0 0, .slice none 0 0, .slice none 0 0] 26 (0, 0)) := by rw [hwa]; have := heap_alloc_new (w.alloc (.cells #[.int .i64 v.t, .slice nA v.n.length nc, .slice sA v.s.length sc, .slice lA v.l.length lc] 26)) (.cells #[.int .i64 0, .slice none 0 0, .slice none 0 0, .slice none 0 0] 26); rwa [World.size_alloc] at this
 have HBX := hide bx
 have HBZ := hide bz
 have HSZ := hide (show wa.heap.size = w.heap.size + 2 by rw [hwa]; simp)
 have HG := hide (show w.grownBy wa none by rw [hwa]; exact gb_alloc (gb_alloc (gb_refl w none) _) _)
 have HWE := hide hwa
 obtain ⟨c0, c1, c2, c3⟩ : C4 wa w.heap.size 0 (.int .i64 v.t) (.slice nA v.n.length nc) (.slice sA v.s.length sc) (.slice lA v.l.length lc) := c4k bx
 have hcf := vNeg_has v.n wa wa.heap.size nA nc l1 (Nat.le_refl _) ((h.gb HG.out hB).n.more (Nat.le_trans hB HG.out.size))
 rw [hneg] at hcf
 have HCF := hide hcf
 clear hcf hneg
 rcases hs with hs | hs
 ·have e1 : (v.t != 1) = false := by simp [hs]
  clear hs bx bz hwa h hB ht l1 l2 l3 l4
  go_enter Tryz.func14, Tryz.ntmps14
  go_wp2_with fail
  rw [← HWE.out]
  go_wp2_with (go_at_call 38; refine (HCF.out).mono ?_; rintro e w1 ⟨rfl, hg1⟩; have HGA1 := hide hg1; have HG1 := hide (gb_trans HG.out hg1 (.inl rfl)); clear hg1 c0 c1 c2 c3; have hrr := blk_keep HBZ.out HGA1.out (by simp); have HRR := hide hrr; obtain ⟨z0, z1, z2, z3, y0, y1, y2, y3⟩ := zz4 hrr; clear hrr)
  obtain ⟨m0, m1, m2, m3⟩ := C4.put HRR.out (.int .i64 0) (.slice none 0 0) (.slice none 0 0) (.slice none 0 0)
  simp only [put4, Nat.zero_add] at m0 m1 m2 m3
  refine bodyPost_ret (v := .tuple #[.agg #[.int .i64 0, .slice none 0 0, .slice none 0 0, .slice none 0 0], .int .i64 2]) (by simp [results, Tryz.results14, go_sem, m0, m1, m2, m3]) rfl ⟨rfl, ?_⟩
  exact put4_to HG1.out (Nat.le_succ _)
 ·have e1 : (v.t != 1) = true := by simp [hs]
  have e2 : (v.t != 2) = false := by simp [hs]
  clear hs bx bz hwa h hB ht l1 l2 l3 l4
  go_enter Tryz.func14, Tryz.ntmps14
  go_wp2_with fail
  rw [← HWE.out]
  go_wp2_with (go_at_call 38; refine (HCF.out).mono ?_; rintro e w1 ⟨rfl, hg1⟩; have HGA1 := hide hg1; have HG1 := hide (gb_trans HG.out hg1 (.inl rfl)); clear hg1 c0 c1 c2 c3; have hrr := blk_keep HBZ.out HGA1.out (by simp); have HRR := hide hrr; obtain ⟨z0, z1, z2, z3, y0, y1, y2, y3⟩ := zz4 hrr; clear hrr)
  obtain ⟨m0, m1, m2, m3⟩ := C4.put HRR.out (.int .i64 0) (.slice none 0 0) (.slice none 0 0) (.slice none 0 0)
  simp only [put4, Nat.zero_add] at m0 m1 m2 m3
  refine bodyPost_ret (v := .tuple #[.agg #[.int .i64 0, .slice none 0 0, .slice none 0 0, .slice none 0 0], .int .i64 2]) (by simp [results, Tryz.results14, go_sem, m0, m1, m2, m3]) rfl ⟨rfl, ?_⟩
  exact put4_to HG1.out (Nat.le_succ _)
set_option maxHeartbeats 8000000 in
set_option maxRecDepth 100000 in
theorem rWhere_neg (v : Vl) (w : World) (B : Nat) (nA : Option Addr) (nc : Nat) (sA : Option Addr) (sc : Nat) (lA : Option Addr) (lc : Nat) (hs : v.t = 1 ∨ v.t = 2) (hneg : v.n.any negB = true) (ht : v.tot ≤ 1200000000) (hB : B ≤ w.heap.size) (h : VB w B v nA nc sA sc lA lc) :
  Calls Tryz.prog 15 #[.agg #[.int .i64 v.t, .slice nA v.n.length nc, .slice sA v.s.length sc, .slice lA v.l.length lc]] w (ErrV 2 w) := by
 obtain ⟨l1, l2, l3, l4⟩ := Vl.lens v ht
 obtain ⟨wa, hwa⟩ : ∃ wa, wa = (w.alloc (.cells #[.int .i64 v.t, .slice nA v.n.length nc, .slice sA v.s.length sc, .slice lA v.l.length lc] 26)).alloc (.cells #[.int .i64 0, .slice none 0 0, .slice none 0 0, .slice none 0 0] 26) := ⟨_, rfl⟩
 have bx : wa.heap[w.heap.size]? = some (.cells #[.int .i64 v.t, .slice nA v.n.length nc, .slice sA v.s.length sc, .slice lA v.l.length lc] 26 (0, 0)) := by rw [hwa]; exact (Below.heap_alloc _ _ _ (by rw [World.size_alloc]; omega)).trans (heap_alloc_new w _)
 have bz : wa.heap[w.heap.size + 1]? = some (.cells #[.int .i64 0, .slice none 0 0, .slice none 0 0, .slice none 0 0] 26 (0, 0)) := by rw [hwa]; have := heap_alloc_new (w.alloc (.cells #[.int .i64 v.t, .slice nA v.n.length nc, .slice sA v.s.length sc, .slice lA v.l.length lc] 26)) (.cells #[.int .i64 0, .slice none 0 0, .slice none 0 0, .slice none 0 0] 26); rwa [World.size_alloc] at this
 have HBX := hide bx
 have HBZ := hide bz
 have HSZ := hide (show wa.heap.size = w.heap.size + 2 by rw [hwa]; simp)
 have HG := hide (show w.grownBy wa none by rw [hwa]; exact gb_alloc (gb_alloc (gb_refl w none) _) _)
 have HWE := hide hwa
 obtain ⟨c0, c1, c2, c3⟩ : C4 wa w.heap.size 0 (.int .i64 v.t) (.slice nA v.n.length nc) (.slice sA v.s.length sc) (.slice lA v.l.length lc) := c4k bx
 have HL := hide l1
 have HN := hide h.n
 have HBB := hide hB
 have HNG := hide hneg
 clear hneg
 rcases hs with hs | hs
 ·have e1 : (v.t != 1) = false := by simp [hs]
  clear hs bx bz hwa h hB ht l1 l2 l3 l4
  go_enter Tryz.func15, Tryz.ntmps15
  go_wp2_with fail
  rw [← HWE.out]
  go_wp2_with fail
  clear c0 c1 c2 c3
  go_loopw [5] (fun i wq => ∃ j : Nat, i = .int .i64 (j : Int) ∧ j ≤ v.n.length ∧ Hid ((v.n.take j).any negB = false) ∧ wa.grownBy wq none) (fun i _ => v.n.length - (intOf i).toNat)
  case atStart => exact ⟨0, rfl, Nat.zero_le _, hide (by simp), gb_refl wa none⟩
  case round =>
   obtain ⟨j, rfl, hj, HNJ, hgr⟩ := hrel
   obtain ⟨c0, c1, c2, c3⟩ := c4k (blk_keep HBX.out hgr (by simp))
   by_cases hlt : j < v.n.length
   ·have hlt1 : (j : Int) < (v.n.length : Int) := by omega
    have h6 : IntKind.i64.wrap ((j : Int) + 1) = ((j + 1 : Nat) : Int) := by rw [IntKind.wrap_i64]; have := HL.out; omega
    obtain ⟨a, ha, _, hcp0⟩ := HN.out.i64 hlt
    subst ha
    obtain ⟨p, hpe⟩ : ∃ p, p = v.n[j] := ⟨_, rfl⟩
    rw [← hpe] at hcp0
    have hcp := cell_gb hcp0 (gb_trans HG.out hgr (.inl rfl))
    have HTK := hide (show (v.n.take (j + 1)).any negB = ((v.n.take j).any negB || negB p) by rw [List.take_succ_eq_append_getElem hlt, List.any_append, hpe]; simp)
    have HGR := hide hgr
    have HLT := hide hlt
    clear hgr hlt hj hcp0 hpe
    by_cases hp : p < 0
    ·have hrr := blk_keep HBZ.out HGR.out (by simp)
     have HRR := hide hrr
     obtain ⟨z0, z1, z2, z3, y0, y1, y2, y3⟩ := zz4 hrr
     clear hrr
     go_wp2_with fail
     obtain ⟨m0, m1, m2, m3⟩ := C4.put HRR.out (.int .i64 0) (.slice none 0 0) (.slice none 0 0) (.slice none 0 0)
     simp only [put4, Nat.zero_add] at m0 m1 m2 m3
     refine bodyPost_ret (v := .tuple #[.agg #[.int .i64 0, .slice none 0 0, .slice none 0 0, .slice none 0 0], .int .i64 2]) (by simp [results, Tryz.results15, go_sem, m0, m1, m2, m3]) rfl ⟨rfl, ?_⟩
     exact put4_to (gb_trans HG.out HGR.out (.inl rfl)) (Nat.le_succ _)
    ·have HP := hide (show negB p = false by unfold negB; exact decide_eq_false hp)
     go_wp2_with fail
     go_roundw
     case rel => exact ⟨j + 1, by go_num, by have := HLT.out; omega, hide (by rw [HTK.out, HNJ.out, HP.out]; rfl), HGR.out⟩
     case measure => have := HLT.out; simp [intOf]; omega
   ·have h9 := HNJ.out
    rw [List.take_of_length_le (by omega), HNG.out] at h9
    cases h9
 ·have e1 : (v.t != 1) = true := by simp [hs]
  have e2 : (v.t != 2) = false := by simp [hs]
  clear hs bx bz hwa h hB ht l1 l2 l3 l4
  go_enter Tryz.func15, Tryz.ntmps15
  go_wp2_with fail
  rw [← HWE.out]
  go_wp2_with fail
  clear c0 c1 c2 c3
  go_loopw [5] (fun i wq => ∃ j : Nat, i = .int .i64 (j : Int) ∧ j ≤ v.n.length ∧ Hid ((v.n.take j).any negB = false) ∧ wa.grownBy wq none) (fun i _ => v.n.length - (intOf i).toNat)
  case atStart => exact ⟨0, rfl, Nat.zero_le _, hide (by simp), gb_refl wa none⟩
  case round =>
   obtain ⟨j, rfl, hj, HNJ, hgr⟩ := hrel
   obtain ⟨c0, c1, c2, c3⟩ := c4k (blk_keep HBX.out hgr (by simp))
   by_cases hlt : j < v.n.length
   ·have hlt1 : (j : Int) < (v.n.length : Int) := by omega
    have h6 : IntKind.i64.wrap ((j : Int) + 1) = ((j + 1 : Nat) : Int) := by rw [IntKind.wrap_i64]; have := HL.out; omega
    obtain ⟨a, ha, _, hcp0⟩ := HN.out.i64 hlt
    subst ha
    obtain ⟨p, hpe⟩ : ∃ p, p = v.n[j] := ⟨_, rfl⟩
    rw [← hpe] at hcp0
    have hcp := cell_gb hcp0 (gb_trans HG.out hgr (.inl rfl))
    have HTK := hide (show (v.n.take (j + 1)).any negB = ((v.n.take j).any negB || negB p) by rw [List.take_succ_eq_append_getElem hlt, List.any_append, hpe]; simp)
    have HGR := hide hgr
    have HLT := hide hlt
    clear hgr hlt hj hcp0 hpe
    by_cases hp : p < 0
    ·have hrr := blk_keep HBZ.out HGR.out (by simp)
     have HRR := hide hrr
     obtain ⟨z0, z1, z2, z3, y0, y1, y2, y3⟩ := zz4 hrr
     clear hrr
     go_wp2_with fail
     obtain ⟨m0, m1, m2, m3⟩ := C4.put HRR.out (.int .i64 0) (.slice none 0 0) (.slice none 0 0) (.slice none 0 0)
     simp only [put4, Nat.zero_add] at m0 m1 m2 m3
     refine bodyPost_ret (v := .tuple #[.agg #[.int .i64 0, .slice none 0 0, .slice none 0 0, .slice none 0 0], .int .i64 2]) (by simp [results, Tryz.results15, go_sem, m0, m1, m2, m3]) rfl ⟨rfl, ?_⟩
     exact put4_to (gb_trans HG.out HGR.out (.inl rfl)) (Nat.le_succ _)
    ·have HP := hide (show negB p = false by unfold negB; exact decide_eq_false hp)
     go_wp2_with fail
     go_roundw
     case rel => exact ⟨j + 1, by go_num, by have := HLT.out; omega, hide (by rw [HTK.out, HNJ.out, HP.out]; rfl), HGR.out⟩
     case measure => have := HLT.out; simp [intOf]; omega
   ·have h9 := HNJ.out
    rw [List.take_of_length_le (by omega), HNG.out] at h9
    cases h9
end Go.Proofs.YtbmgodmfpoappaaGreat
namespace Go.Proofs.YtbmgodmfpoappaaGreat
open Go.RowKit
attribute [local go_sem ↓] Go.wp_at_zero Go.wp_at_succ
set_option maxHeartbeats 8000000 in
set_option maxRecDepth 100000 in
theorem vWhere_over (v : Vl) (w : World) (B : Nat) (nA : Option Addr) (nc : Nat) (sA : Option Addr) (sc : Nat) (lA : Option Addr) (lc : Nat) (hs : v.t = 1 ∨ v.t = 2) (hneg : ∀ x ∈ v.n, 0 ≤ x) (htot : 65536 < (plW v.n v.n.length).length) (ht : v.tot ≤ 1200000000) (hB : B ≤ w.heap.size) (h : VB w B v nA nc sA sc lA lc) :
  Calls Tryz.prog 14 #[.agg #[.int .i64 v.t, .slice nA v.n.length nc, .slice sA v.s.length sc, .slice lA v.l.length lc]] w (ErrV 6 w) := by
 obtain ⟨l1, l2, l3, l4⟩ := Vl.lens v ht
 obtain ⟨wa, hwa⟩ : ∃ wa, wa = (w.alloc (.cells #[.int .i64 v.t, .slice nA v.n.length nc, .slice sA v.s.length sc, .slice lA v.l.length lc] 26)).alloc (.cells #[.int .i64 0, .slice none 0 0, .slice none 0 0, .slice none 0 0] 26) := ⟨_, rfl⟩
 have bx : wa.heap[w.heap.size]? = some (.cells #[.int .i64 v.t, .slice nA v.n.length nc, .slice sA v.s.length sc, .slice lA v.l.length lc] 26 (0, 0)) := by rw [hwa]; exact (Below.heap_alloc _ _ _ (by rw [World.size_alloc]; omega)).trans (heap_alloc_new w _)
 have bz : wa.heap[w.heap.size + 1]? = some (.cells #[.int .i64 0, .slice none 0 0, .slice none 0 0, .slice none 0 0] 26 (0, 0)) := by rw [hwa]; have := heap_alloc_new (w.alloc (.cells #[.int .i64 v.t, .slice nA v.n.length nc, .slice sA v.s.length sc, .slice lA v.l.length lc] 26)) (.cells #[.int .i64 0, .slice none 0 0, .slice none 0 0, .slice none 0 0] 26); rwa [World.size_alloc] at this
 have HBX := hide bx
 have HBZ := hide bz
 have HSZ := hide (show wa.heap.size = w.heap.size + 2 by rw [hwa]; simp)
 have HG := hide (show w.grownBy wa none by rw [hwa]; exact gb_alloc (gb_alloc (gb_refl w none) _) _)
 have HWE := hide hwa
 obtain ⟨c0, c1, c2, c3⟩ : C4 wa w.heap.size 0 (.int .i64 v.t) (.slice nA v.n.length nc) (.slice sA v.s.length sc) (.slice lA v.l.length lc) := c4k bx
 have HL := hide l1
 have HN := hide h.n
 have HBB := hide hB
 have HNG := hide hneg
 have HTT := hide htot
 have hany : v.n.any negB = false := List.any_eq_false.2 fun x hx => by have := hneg x hx; unfold negB; simp; omega
 have hcf := vNeg_has v.n wa wa.heap.size nA nc l1 (Nat.le_refl _) ((h.gb HG.out hB).n.more (Nat.le_trans hB HG.out.size))
 rw [hany] at hcf
 have HCF := hide hcf
 clear hcf hany
 rcases hs with hs | hs
 ·have e1 : (v.t != 1) = false := by simp [hs]
  clear hs bx bz hwa h hB ht l1 l2 l3 l4 hneg htot
  go_enter Tryz.func14, Tryz.ntmps14
  go_wp2_with fail
  rw [← HWE.out]
  go_wp2_with (go_at_call 38; refine (HCF.out).mono ?_; rintro e w1 ⟨rfl, hg1⟩; have HGA1 := hide hg1; clear hg1 c0 c1 c2 c3; obtain ⟨c0, c1, c2, c3⟩ := c4k (blk_keep HBX.out HGA1.out (by simp)))
  clear c0 c1 c2 c3
  go_loopw [4, 23] (fun E i wq => ∃ (j : Nat) (l : List Int), i = .int .i64 (j : Int) ∧ j ≤ v.n.length ∧ Hid (l = plW v.n j) ∧ l.length ≤ 65536 ∧ ∃ rA rc, E = .slice rA l.length rc ∧ wq.ownsRow wa.heap.size 2 1 (.slice rA l.length rc) l.length (i64s l) ∧ wa.grownBy wq none) (fun _ i _ => v.n.length - (intOf i).toNat)
  case atStart => exact ⟨0, [], rfl, Nat.zero_le _, hide rfl, Nat.zero_le _, none, 0, rfl, ⟨rfl, .inl ⟨rfl, rfl⟩⟩, HGA1.out⟩
  case round =>
   obtain ⟨j, l, rfl, hj, HLE, hl5, rA, rc, rfl, how, hgr⟩ := hrel
   by_cases hlt : j < v.n.length
   ·have hlt1 : (j : Int) < (v.n.length : Int) := by omega
    have h6 : IntKind.i64.wrap ((j : Int) + 1) = ((j + 1 : Nat) : Int) := by rw [IntKind.wrap_i64]; have := HL.out; omega
    obtain ⟨a, ha, _, hcp0⟩ := HN.out.i64 hlt
    subst ha
    obtain ⟨p, hpe⟩ : ∃ p, p = v.n[j] := ⟨_, rfl⟩
    rw [← hpe] at hcp0
    have hcp := cell_gb hcp0 (gb_trans HG.out hgr (.inl rfl))
    have hp0 : 0 ≤ p := HNG.out p (by rw [hpe]; exact List.getElem_mem hlt)
    obtain ⟨q2, rfl⟩ : ∃ q2 : Nat, p = (q2 : Int) := ⟨p.toNat, by omega⟩
    have hnx : plW v.n (j + 1) = l ++ List.replicate q2 (j : Int) := by rw [HLE.out]; show _ ++ List.replicate (v.n.getD j 0).toNat (j : Int) = _; rw [getD_at hlt, ← hpe]; rfl
    have HNX := hide hnx
    have h7 : IntKind.i64.wrap (65536 - (l.length : Int)) = 65536 - (l.length : Int) := by rw [IntKind.wrap_i64]; omega
    by_cases h9 : (65536 - (l.length : Int)) < (q2 : Int)
    ·have HGR := hide hgr
     have hrr := blk_keep HBZ.out HGR.out (by simp)
     have HRR := hide hrr
     obtain ⟨z0, z1, z2, z3, y0, y1, y2, y3⟩ := zz4 hrr
     clear hrr
     clear how hlt hj hgr hcp0 hpe hp0 hnx hl5
     go_wp2_with fail
     obtain ⟨m0, m1, m2, m3⟩ := C4.put HRR.out (.int .i64 0) (.slice none 0 0) (.slice none 0 0) (.slice none 0 0)
     simp only [put4, Nat.zero_add] at m0 m1 m2 m3
     refine bodyPost_ret (v := .tuple #[.agg #[.int .i64 0, .slice none 0 0, .slice none 0 0, .slice none 0 0], .int .i64 6]) (by simp [results, Tryz.results14, go_sem, m0, m1, m2, m3]) rfl ⟨rfl, ?_⟩
     exact put4_to (gb_trans HG.out HGR.out (.inl rfl)) (Nat.le_succ _)
    have hbd : l.length + q2 ≤ 65536 := by omega
    have HBD := hide hbd
    clear hl5
    have HOW := hide how
    have HGR := hide hgr
    have HLT := hide hlt
    clear how hlt hj hgr hcp0 hpe hp0 hnx hbd
    go_wp2_with fail
    clear hcp h7 h9
    go_loopw [4, 35] (fun E k wq => ∃ (m : Nat) (r : List Int), k = .int .i64 (m : Int) ∧ m ≤ q2 ∧ Hid (r = l ++ List.replicate m (j : Int)) ∧ ∃ rA rc, E = .slice rA r.length rc ∧ wq.ownsRow wa.heap.size 2 1 (.slice rA r.length rc) r.length (i64s r) ∧ wa.grownBy wq none) (fun _ k _ => q2 - (intOf k).toNat)
    case atStart => exact ⟨0, l, rfl, Nat.zero_le _, hide (by simp), rA, rc, rfl, HOW.out, HGR.out⟩
    case round =>
     obtain ⟨m, r, rfl, hm, HR, rA, rc, rfl, how, hgr⟩ := hrel
     clear HOW HGR
     by_cases hlm : m < q2
     ·have hlm1 : (m : Int) < (q2 : Int) := by omega
      have h16 : IntKind.i64.wrap ((m : Int) + 1) = ((m + 1 : Nat) : Int) := by rw [IntKind.wrap_i64]; have := HBD.out; omega
      have hrl : r.length = l.length + m := by rw [HR.out, List.length_append, List.length_replicate]
      have HM1 : Hid (r.length + 1 ≤ maxLen) := hide (by unfold maxLen; have := HBD.out; omega)
      have HMB : Hid ((r.length + 1) * 8 ≤ 140737488355328) := hide (by have := HBD.out; omega)
      have HRX := hide (show l ++ List.replicate (m + 1) (j : Int) = r ++ [(j : Int)] by rw [HR.out, List.replicate_succ', List.append_assoc])
      have HGR := hide hgr
      have HLM := hide hlm
      clear hlm hm hrl
      obtain ⟨i1, hi1, hiz, his, hib⟩ := info_parts Tryz.info64
      have HI1 := hide hi1
      have HIZ := hide hiz
      have HIS := hide his
      have HIB := hide hib
      clear hi1 hiz his hib
      have hk7 : wr.grownBy (wr.alloc (.cells #[.int .i64 (j : Int)] 2)) none := gb_alloc (gb_refl wr none) _
      have HK7 := hide hk7
      have HON := hide (how.kept hk7 (by cases (Value.slice rA r.length rc).ownBlock <;> simp))
      have HRD := hide (show Rd (wr.alloc (.cells #[.int .i64 (j : Int)] 2)) (wr.alloc (.cells #[.int .i64 (j : Int)] 2)).heap.size (some ⟨wr.heap.size, 0, none⟩) (i64s [(j : Int)]) from (Rd.new wr #[.int .i64 (j : Int)] 2 _ rfl).more (by rw [World.size_alloc]; exact Nat.le_refl _))
      have HOC := hide (i64s_one [(j : Int)])
      have HBS : Hid (wa.heap.size ≤ (wr.alloc (.cells #[.int .i64 (j : Int)] 2)).heap.size) := hide (Nat.le_trans hgr.size hk7.size)
      clear hk7 how
      go_wp2_with (at_builtin; refine wpList_append_rd _ rfl (.tmp 37) (.tmp 39) 22 rfl wa.heap.size 2 i1 (.int .i64 0) 1 8 Tryz.underlying22 HI1.out HIZ.out HIS.out HIB.out rfl (Nat.succ_pos 0) (.slice rA r.length rc) r.length (i64s r) rfl HON.out (wr.alloc (.cells #[.int .i64 (j : Int)] 2)).heap.size (some ⟨wr.heap.size, 0, none⟩) 1 1 (i64s [(j : Int)]) rfl rfl HRD.out HOC.out HM1.out HMB.out HBS.out ?_; intro v5 w5 ho5 hg5 hb5; obtain ⟨N5, nc5, rfl, _⟩ := own_slice ho5; have HO5 := hide (show w5.ownsRow wa.heap.size 2 1 (.slice N5 (r.length + 1) nc5) (r.length + 1) (i64s (r ++ [(j : Int)])) by rw [show i64s (r ++ [(j : Int)]) = i64s r ++ i64s [(j : Int)] by simp [i64s]]; exact ho5); have HG5 := hide (gb_trans (gb_trans HGR.out HK7.out (.inl rfl)) hg5 (match hq : (Value.slice rA r.length rc).ownBlock with | none => .inr (.inl rfl) | some g => .inr (.inr ⟨g, rfl, (HON.out.lt g hq).1⟩))); clear ho5 hg5 hb5)
      clear hgr
      go_roundw
      case rel => exact ⟨m + 1, r ++ [(j : Int)], by go_num, by have := HLM.out; omega, hide HRX.out.symm, N5, nc5, by rw [List.length_append]; rfl, by rw [List.length_append]; exact HO5.out, HG5.out⟩
      case measure => have := HLM.out; simp [intOf]; omega
     ·have hlm1 : ¬ (m : Int) < (q2 : Int) := by omega
      have hmq : m = q2 := by omega
      have HR5 := hide (show r.length ≤ 65536 by rw [HR.out, List.length_append, List.length_replicate, hmq]; exact HBD.out)
      have HRQ := hide (show r = plW v.n (j + 1) by rw [HNX.out, HR.out, hmq])
      have HOW := hide how
      have HGR := hide hgr
      clear how hlm hm hmq hgr
      go_wp2_with fail
      go_roundw
      case rel => exact ⟨j + 1, r, by go_num, by have := HLT.out; omega, hide HRQ.out, HR5.out, rA, rc, rfl, HOW.out, HGR.out⟩
      case measure => have := HLT.out; simp [intOf]; omega
   ·have hlt1 : ¬ (j : Int) < (v.n.length : Int) := by omega
    have hle := HLE.out
    rw [show j = v.n.length by omega] at hle
    rw [hle] at hl5
    have := HTT.out
    omega
 ·have e1 : (v.t != 1) = true := by simp [hs]
  have e2 : (v.t != 2) = false := by simp [hs]
  clear hs bx bz hwa h hB ht l1 l2 l3 l4 hneg htot
  go_enter Tryz.func14, Tryz.ntmps14
  go_wp2_with fail
  rw [← HWE.out]
  go_wp2_with (go_at_call 38; refine (HCF.out).mono ?_; rintro e w1 ⟨rfl, hg1⟩; have HGA1 := hide hg1; clear hg1 c0 c1 c2 c3; obtain ⟨c0, c1, c2, c3⟩ := c4k (blk_keep HBX.out HGA1.out (by simp)))
  clear c0 c1 c2 c3
  go_loopw [4, 23] (fun E i wq => ∃ (j : Nat) (l : List Int), i = .int .i64 (j : Int) ∧ j ≤ v.n.length ∧ Hid (l = plW v.n j) ∧ l.length ≤ 65536 ∧ ∃ rA rc, E = .slice rA l.length rc ∧ wq.ownsRow wa.heap.size 2 1 (.slice rA l.length rc) l.length (i64s l) ∧ wa.grownBy wq none) (fun _ i _ => v.n.length - (intOf i).toNat)
  case atStart => exact ⟨0, [], rfl, Nat.zero_le _, hide rfl, Nat.zero_le _, none, 0, rfl, ⟨rfl, .inl ⟨rfl, rfl⟩⟩, HGA1.out⟩
  case round =>
   obtain ⟨j, l, rfl, hj, HLE, hl5, rA, rc, rfl, how, hgr⟩ := hrel
   by_cases hlt : j < v.n.length
   ·have hlt1 : (j : Int) < (v.n.length : Int) := by omega
    have h6 : IntKind.i64.wrap ((j : Int) + 1) = ((j + 1 : Nat) : Int) := by rw [IntKind.wrap_i64]; have := HL.out; omega
    obtain ⟨a, ha, _, hcp0⟩ := HN.out.i64 hlt
    subst ha
    obtain ⟨p, hpe⟩ : ∃ p, p = v.n[j] := ⟨_, rfl⟩
    rw [← hpe] at hcp0
    have hcp := cell_gb hcp0 (gb_trans HG.out hgr (.inl rfl))
    have hp0 : 0 ≤ p := HNG.out p (by rw [hpe]; exact List.getElem_mem hlt)
    obtain ⟨q2, rfl⟩ : ∃ q2 : Nat, p = (q2 : Int) := ⟨p.toNat, by omega⟩
    have hnx : plW v.n (j + 1) = l ++ List.replicate q2 (j : Int) := by rw [HLE.out]; show _ ++ List.replicate (v.n.getD j 0).toNat (j : Int) = _; rw [getD_at hlt, ← hpe]; rfl
    have HNX := hide hnx
    have h7 : IntKind.i64.wrap (65536 - (l.length : Int)) = 65536 - (l.length : Int) := by rw [IntKind.wrap_i64]; omega
    by_cases h9 : (65536 - (l.length : Int)) < (q2 : Int)
    ·have HGR := hide hgr
     have hrr := blk_keep HBZ.out HGR.out (by simp)
     have HRR := hide hrr
     obtain ⟨z0, z1, z2, z3, y0, y1, y2, y3⟩ := zz4 hrr
     clear hrr
     clear how hlt hj hgr hcp0 hpe hp0 hnx hl5
     go_wp2_with fail
     obtain ⟨m0, m1, m2, m3⟩ := C4.put HRR.out (.int .i64 0) (.slice none 0 0) (.slice none 0 0) (.slice none 0 0)
     simp only [put4, Nat.zero_add] at m0 m1 m2 m3
     refine bodyPost_ret (v := .tuple #[.agg #[.int .i64 0, .slice none 0 0, .slice none 0 0, .slice none 0 0], .int .i64 6]) (by simp [results, Tryz.results14, go_sem, m0, m1, m2, m3]) rfl ⟨rfl, ?_⟩
     exact put4_to (gb_trans HG.out HGR.out (.inl rfl)) (Nat.le_succ _)
    have hbd : l.length + q2 ≤ 65536 := by omega
    have HBD := hide hbd
    clear hl5
    have HOW := hide how
    have HGR := hide hgr
    have HLT := hide hlt
    clear how hlt hj hgr hcp0 hpe hp0 hnx hbd
    go_wp2_with fail
    clear hcp h7 h9
    go_loopw [4, 35] (fun E k wq => ∃ (m : Nat) (r : List Int), k = .int .i64 (m : Int) ∧ m ≤ q2 ∧ Hid (r = l ++ List.replicate m (j : Int)) ∧ ∃ rA rc, E = .slice rA r.length rc ∧ wq.ownsRow wa.heap.size 2 1 (.slice rA r.length rc) r.length (i64s r) ∧ wa.grownBy wq none) (fun _ k _ => q2 - (intOf k).toNat)
    case atStart => exact ⟨0, l, rfl, Nat.zero_le _, hide (by simp), rA, rc, rfl, HOW.out, HGR.out⟩
    case round =>
     obtain ⟨m, r, rfl, hm, HR, rA, rc, rfl, how, hgr⟩ := hrel
     clear HOW HGR
     by_cases hlm : m < q2
     ·have hlm1 : (m : Int) < (q2 : Int) := by omega
      have h16 : IntKind.i64.wrap ((m : Int) + 1) = ((m + 1 : Nat) : Int) := by rw [IntKind.wrap_i64]; have := HBD.out; omega
      have hrl : r.length = l.length + m := by rw [HR.out, List.length_append, List.length_replicate]
      have HM1 : Hid (r.length + 1 ≤ maxLen) := hide (by unfold maxLen; have := HBD.out; omega)
      have HMB : Hid ((r.length + 1) * 8 ≤ 140737488355328) := hide (by have := HBD.out; omega)
      have HRX := hide (show l ++ List.replicate (m + 1) (j : Int) = r ++ [(j : Int)] by rw [HR.out, List.replicate_succ', List.append_assoc])
      have HGR := hide hgr
      have HLM := hide hlm
      clear hlm hm hrl
      obtain ⟨i1, hi1, hiz, his, hib⟩ := info_parts Tryz.info64
      have HI1 := hide hi1
      have HIZ := hide hiz
      have HIS := hide his
      have HIB := hide hib
      clear hi1 hiz his hib
      have hk7 : wr.grownBy (wr.alloc (.cells #[.int .i64 (j : Int)] 2)) none := gb_alloc (gb_refl wr none) _
      have HK7 := hide hk7
      have HON := hide (how.kept hk7 (by cases (Value.slice rA r.length rc).ownBlock <;> simp))
      have HRD := hide (show Rd (wr.alloc (.cells #[.int .i64 (j : Int)] 2)) (wr.alloc (.cells #[.int .i64 (j : Int)] 2)).heap.size (some ⟨wr.heap.size, 0, none⟩) (i64s [(j : Int)]) from (Rd.new wr #[.int .i64 (j : Int)] 2 _ rfl).more (by rw [World.size_alloc]; exact Nat.le_refl _))
      have HOC := hide (i64s_one [(j : Int)])
      have HBS : Hid (wa.heap.size ≤ (wr.alloc (.cells #[.int .i64 (j : Int)] 2)).heap.size) := hide (Nat.le_trans hgr.size hk7.size)
      clear hk7 how
      go_wp2_with (at_builtin; refine wpList_append_rd _ rfl (.tmp 37) (.tmp 39) 22 rfl wa.heap.size 2 i1 (.int .i64 0) 1 8 Tryz.underlying22 HI1.out HIZ.out HIS.out HIB.out rfl (Nat.succ_pos 0) (.slice rA r.length rc) r.length (i64s r) rfl HON.out (wr.alloc (.cells #[.int .i64 (j : Int)] 2)).heap.size (some ⟨wr.heap.size, 0, none⟩) 1 1 (i64s [(j : Int)]) rfl rfl HRD.out HOC.out HM1.out HMB.out HBS.out ?_; intro v5 w5 ho5 hg5 hb5; obtain ⟨N5, nc5, rfl, _⟩ := own_slice ho5; have HO5 := hide (show w5.ownsRow wa.heap.size 2 1 (.slice N5 (r.length + 1) nc5) (r.length + 1) (i64s (r ++ [(j : Int)])) by rw [show i64s (r ++ [(j : Int)]) = i64s r ++ i64s [(j : Int)] by simp [i64s]]; exact ho5); have HG5 := hide (gb_trans (gb_trans HGR.out HK7.out (.inl rfl)) hg5 (match hq : (Value.slice rA r.length rc).ownBlock with | none => .inr (.inl rfl) | some g => .inr (.inr ⟨g, rfl, (HON.out.lt g hq).1⟩))); clear ho5 hg5 hb5)
      clear hgr
      go_roundw
      case rel => exact ⟨m + 1, r ++ [(j : Int)], by go_num, by have := HLM.out; omega, hide HRX.out.symm, N5, nc5, by rw [List.length_append]; rfl, by rw [List.length_append]; exact HO5.out, HG5.out⟩
      case measure => have := HLM.out; simp [intOf]; omega
     ·have hlm1 : ¬ (m : Int) < (q2 : Int) := by omega
      have hmq : m = q2 := by omega
      have HR5 := hide (show r.length ≤ 65536 by rw [HR.out, List.length_append, List.length_replicate, hmq]; exact HBD.out)
      have HRQ := hide (show r = plW v.n (j + 1) by rw [HNX.out, HR.out, hmq])
      have HOW := hide how
      have HGR := hide hgr
      clear how hlm hm hmq hgr
      go_wp2_with fail
      go_roundw
      case rel => exact ⟨j + 1, r, by go_num, by have := HLT.out; omega, hide HRQ.out, HR5.out, rA, rc, rfl, HOW.out, HGR.out⟩
      case measure => have := HLT.out; simp [intOf]; omega
   ·have hlt1 : ¬ (j : Int) < (v.n.length : Int) := by omega
    have hle := HLE.out
    rw [show j = v.n.length by omega] at hle
    rw [hle] at hl5
    have := HTT.out
    omega
set_option maxHeartbeats 8000000 in
set_option maxRecDepth 100000 in
theorem rWhere_over (v : Vl) (w : World) (B : Nat) (nA : Option Addr) (nc : Nat) (sA : Option Addr) (sc : Nat) (lA : Option Addr) (lc : Nat) (hs : v.t = 1 ∨ v.t = 2) (hneg : ∀ x ∈ v.n, 0 ≤ x) (htot : 65536 < (plW v.n v.n.length).length) (ht : v.tot ≤ 1200000000) (hB : B ≤ w.heap.size) (h : VB w B v nA nc sA sc lA lc) :
  Calls Tryz.prog 15 #[.agg #[.int .i64 v.t, .slice nA v.n.length nc, .slice sA v.s.length sc, .slice lA v.l.length lc]] w (ErrV 6 w) := by
 obtain ⟨l1, l2, l3, l4⟩ := Vl.lens v ht
 obtain ⟨wa, hwa⟩ : ∃ wa, wa = (w.alloc (.cells #[.int .i64 v.t, .slice nA v.n.length nc, .slice sA v.s.length sc, .slice lA v.l.length lc] 26)).alloc (.cells #[.int .i64 0, .slice none 0 0, .slice none 0 0, .slice none 0 0] 26) := ⟨_, rfl⟩
 have bx : wa.heap[w.heap.size]? = some (.cells #[.int .i64 v.t, .slice nA v.n.length nc, .slice sA v.s.length sc, .slice lA v.l.length lc] 26 (0, 0)) := by rw [hwa]; exact (Below.heap_alloc _ _ _ (by rw [World.size_alloc]; omega)).trans (heap_alloc_new w _)
 have bz : wa.heap[w.heap.size + 1]? = some (.cells #[.int .i64 0, .slice none 0 0, .slice none 0 0, .slice none 0 0] 26 (0, 0)) := by rw [hwa]; have := heap_alloc_new (w.alloc (.cells #[.int .i64 v.t, .slice nA v.n.length nc, .slice sA v.s.length sc, .slice lA v.l.length lc] 26)) (.cells #[.int .i64 0, .slice none 0 0, .slice none 0 0, .slice none 0 0] 26); rwa [World.size_alloc] at this
 have HBX := hide bx
 have HBZ := hide bz
 have HSZ := hide (show wa.heap.size = w.heap.size + 2 by rw [hwa]; simp)
 have HG := hide (show w.grownBy wa none by rw [hwa]; exact gb_alloc (gb_alloc (gb_refl w none) _) _)
 have HWE := hide hwa
 obtain ⟨c0, c1, c2, c3⟩ : C4 wa w.heap.size 0 (.int .i64 v.t) (.slice nA v.n.length nc) (.slice sA v.s.length sc) (.slice lA v.l.length lc) := c4k bx
 have HL := hide l1
 have HN := hide h.n
 have HBB := hide hB
 have HNG := hide hneg
 have HTT := hide htot
 rcases hs with hs | hs
 ·have e1 : (v.t != 1) = false := by simp [hs]
  clear hs bx bz hwa h hB ht l1 l2 l3 l4 hneg htot
  go_enter Tryz.func15, Tryz.ntmps15
  go_wp2_with fail
  rw [← HWE.out]
  go_wp2_with fail
  clear c0 c1 c2 c3
  go_loopw [5] (fun i wq => ∃ j : Nat, i = .int .i64 (j : Int) ∧ j ≤ v.n.length ∧ wa.grownBy wq none) (fun i _ => v.n.length - (intOf i).toNat)
  case atStart => exact ⟨0, rfl, Nat.zero_le _, gb_refl wa none⟩
  case round =>
   obtain ⟨j, rfl, hj, hgr⟩ := hrel
   obtain ⟨c0, c1, c2, c3⟩ := c4k (blk_keep HBX.out hgr (by simp))
   by_cases hlt : j < v.n.length
   ·have hlt1 : (j : Int) < (v.n.length : Int) := by omega
    have h6 : IntKind.i64.wrap ((j : Int) + 1) = ((j + 1 : Nat) : Int) := by rw [IntKind.wrap_i64]; have := HL.out; omega
    obtain ⟨a, ha, _, hcp0⟩ := HN.out.i64 hlt
    subst ha
    obtain ⟨p, hpe⟩ : ∃ p, p = v.n[j] := ⟨_, rfl⟩
    rw [← hpe] at hcp0
    have hcp := cell_gb hcp0 (gb_trans HG.out hgr (.inl rfl))
    have hp0 : ¬ p < 0 := by have := HNG.out p (by rw [hpe]; exact List.getElem_mem hlt); omega
    have HGR := hide hgr
    have HLT := hide hlt
    clear hgr hlt hj hcp0 hpe
    go_wp2_with fail
    go_roundw
    case rel => exact ⟨j + 1, by go_num, by have := HLT.out; omega, HGR.out⟩
    case measure => have := HLT.out; simp [intOf]; omega
   ·have hlt1 : ¬ (j : Int) < (v.n.length : Int) := by omega
    obtain ⟨w1, hw1⟩ : ∃ w1, w1 = wr := ⟨_, rfl⟩
    rw [← hw1] at hgr c0 c1 c2 c3 ⊢
    have HGA1 := hide hgr
    have HG1 := hide (gb_trans HG.out hgr (.inl rfl))
    clear hgr hlt hj hw1
    obtain ⟨w5, hw5⟩ : ∃ w5, w5 = w1.alloc (.cells #[.int .i64 2, .slice none 0 0, .slice none 0 0, .slice none 0 0] 26) := ⟨_, rfl⟩
    have HGP0 := hide (show GrowP w1 2 [] [] none 0 none 0 w5 by rw [hw5]; exact ⟨heap_alloc_new w1 _, ⟨rfl, .inl ⟨rfl, rfl⟩⟩, ⟨rfl, .inl ⟨rfl, rfl⟩⟩, gb_alloc (gb_refl w1 none) _⟩)
    have HW5 := hide hw5
    clear hw5
    go_upto_region 10 with fail
    rw [← HW5.out]
    clear c0 c1 c2 c3
    go_wp2_with fail
    go_loopw [4, 7] (fun t i wq => ∃ (j : Nat) (l : List Int), i = .int .i64 (j : Int) ∧ j ≤ v.n.length ∧ Hid (l = plW v.n j) ∧ l.length ≤ 65536 ∧ t = .int .i64 (l.length : Nat) ∧ ∃ N nN, GrowP w1 2 l [] N nN none 0 wq) (fun _ i _ => v.n.length - (intOf i).toNat)
    case atStart => exact ⟨0, [], rfl, Nat.zero_le _, hide rfl, Nat.zero_le _, rfl, _, _, HGP0.out⟩
    case round =>
     obtain ⟨j, l, rfl, hj, HLE, hl5, rfl, N, nN, hgp⟩ := hrel
     have hgr := gb_trans HGA1.out hgp.hg (.inl rfl)
     obtain ⟨c0, c1, c2, c3⟩ := c4k (blk_keep HBX.out hgr (by simp))
     by_cases hlt : j < v.n.length
     ·have hlt1 : (j : Int) < (v.n.length : Int) := by omega
      have h6 : IntKind.i64.wrap ((j : Int) + 1) = ((j + 1 : Nat) : Int) := by rw [IntKind.wrap_i64]; have := HL.out; omega
      obtain ⟨a, ha, _, hcp0⟩ := HN.out.i64 hlt
      subst ha
      obtain ⟨p, hpe⟩ : ∃ p, p = v.n[j] := ⟨_, rfl⟩
      rw [← hpe] at hcp0
      have HCP0 := hide hcp0
      have hcp := cell_gb hcp0 (gb_trans HG.out hgr (.inl rfl))
      have hp0 : 0 ≤ p := HNG.out p (by rw [hpe]; exact List.getElem_mem hlt)
      obtain ⟨q2, rfl⟩ : ∃ q2 : Nat, p = (q2 : Int) := ⟨p.toNat, by omega⟩
      have hnx : plW v.n (j + 1) = l ++ List.replicate q2 (j : Int) := by rw [HLE.out]; show _ ++ List.replicate (v.n.getD j 0).toNat (j : Int) = _; rw [getD_at hlt, ← hpe]; rfl
      have HNX := hide hnx
      have h7 : IntKind.i64.wrap (65536 - (l.length : Int)) = 65536 - (l.length : Int) := by rw [IntKind.wrap_i64]; omega
      by_cases h9 : (65536 - (l.length : Int)) < (q2 : Int)
      ·have HGR := hide hgr
       have hrr := blk_keep HBZ.out HGR.out (by simp)
       have HRR := hide hrr
       obtain ⟨z0, z1, z2, z3, y0, y1, y2, y3⟩ := zz4 hrr
       clear hrr
       clear hgp hlt hj hgr hcp0 hpe hp0 hnx hl5
       go_wp2_with fail
       obtain ⟨m0, m1, m2, m3⟩ := C4.put HRR.out (.int .i64 0) (.slice none 0 0) (.slice none 0 0) (.slice none 0 0)
       simp only [put4, Nat.zero_add] at m0 m1 m2 m3
       refine bodyPost_ret (v := .tuple #[.agg #[.int .i64 0, .slice none 0 0, .slice none 0 0, .slice none 0 0], .int .i64 6]) (by simp [results, Tryz.results15, go_sem, m0, m1, m2, m3]) rfl ⟨rfl, ?_⟩
       exact put4_to (gb_trans HG.out HGR.out (.inl rfl)) (Nat.le_succ _)
      have hbd : l.length + q2 ≤ 65536 := by omega
      have HBD := hide hbd
      have h8 : IntKind.i64.wrap ((l.length : Int) + (q2 : Int)) = ((l.length + q2 : Nat) : Int) := by rw [IntKind.wrap_i64]; omega
      clear hl5
      have HGP := hide hgp
      have HLT := hide hlt
      clear hgp hlt hj hgr hcp0 hpe hp0 hnx hbd
      go_wp2_with fail
      clear c0 c1 c2 c3 hcp h7 h8 h9
      go_loopw [8] (fun k wq => ∃ (m : Nat) (r : List Int), k = .int .i64 (m : Int) ∧ m ≤ q2 ∧ Hid (r = l ++ List.replicate m (j : Int)) ∧ ∃ N nN, GrowP w1 2 r [] N nN none 0 wq) (fun k _ => q2 - (intOf k).toNat)
      case atStart => exact ⟨0, l, rfl, Nat.zero_le _, hide (by simp), _, _, HGP.out⟩
      case round =>
       obtain ⟨m, r, rfl, hm, HR, N, nN, hgp⟩ := hrel
       have hgr := gb_trans HGA1.out hgp.hg (.inl rfl)
       obtain ⟨c0, c1, c2, c3⟩ := c4k (blk_keep HBX.out hgr (by simp))
       have hcp := cell_gb HCP0.out (gb_trans HG.out hgr (.inl rfl))
       clear HGP
       by_cases hlm : m < q2
       ·have hlm1 : (m : Int) < (q2 : Int) := by omega
        have h16 : IntKind.i64.wrap ((m : Int) + 1) = ((m + 1 : Nat) : Int) := by rw [IntKind.wrap_i64]; have := HBD.out; omega
        have hrl : r.length = l.length + m := by rw [HR.out, List.length_append, List.length_replicate]
        have HM1 : Hid (r.length + 1 ≤ maxLen) := hide (by unfold maxLen; have := HBD.out; omega)
        have HMB : Hid ((r.length + 1) * 8 ≤ 140737488355328) := hide (by have := HBD.out; omega)
        have HRX := hide (show l ++ List.replicate (m + 1) (j : Int) = r ++ [(j : Int)] by rw [HR.out, List.replicate_succ', List.append_assoc])
        have HGP := hide hgp
        have HLM := hide hlm
        clear hgp hlm hm hrl hgr
        obtain ⟨i1, hi1, hiz, his, hib⟩ := info_parts Tryz.info64
        have HI1 := hide hi1
        have HIZ := hide hiz
        have HIS := hide his
        have HIB := hide hib
        clear hi1 hiz his hib
        go_upto_region 19 with fail
        have hk7 : wr.grownBy (wr.alloc (.cells #[.int .i64 (j : Int)] 2)) none := gb_alloc (gb_refl wr none) _
        have HK7 := hide hk7
        have HON := hide (HGP.out.hn.kept hk7 (by cases (Value.slice N r.length nN).ownBlock <;> simp))
        have HRD := hide (show Rd (wr.alloc (.cells #[.int .i64 (j : Int)] 2)) (wr.alloc (.cells #[.int .i64 (j : Int)] 2)).heap.size (some ⟨wr.heap.size, 0, none⟩) (i64s [(j : Int)]) from (Rd.new wr #[.int .i64 (j : Int)] 2 _ rfl).more (by rw [World.size_alloc]; exact Nat.le_refl _))
        have HOC := hide (i64s_one [(j : Int)])
        have HBS : Hid (w1.heap.size + 1 ≤ (wr.alloc (.cells #[.int .i64 (j : Int)] 2)).heap.size) := hide (by have := blk_lt HGP.out.hh; have := hk7.size; omega)
        have p1 : ∀ o : Obj, (wr.alloc o).cell? ⟨w1.heap.size, 1, none⟩ = some (.slice N r.length nN) := fun o => cell_gb (by rw [blk_cell HGP.out.hh]; rfl) (gb_alloc (gb_refl wr none) o)
        have p0 : wr.cell? ⟨w1.heap.size, 1, none⟩ = some (.slice N r.length nN) := by rw [blk_cell HGP.out.hh]; rfl
        clear hk7
        go_wp2_with (at_builtin; refine wpList_append_rd _ rfl (.tmp 66) (.tmp 68) 22 rfl (w1.heap.size + 1) 2 i1 (.int .i64 0) 1 8 Tryz.underlying22 HI1.out HIZ.out HIS.out HIB.out rfl (Nat.succ_pos 0) (.slice N r.length nN) r.length (i64s r) rfl HON.out (wr.alloc (.cells #[.int .i64 (j : Int)] 2)).heap.size (some ⟨wr.heap.size, 0, none⟩) 1 1 (i64s [(j : Int)]) rfl rfl HRD.out HOC.out HM1.out HMB.out HBS.out ?_; intro v5 w5 ho5 hg5 hb5; obtain ⟨N5, nc5, rfl, _⟩ := own_slice ho5; have HST := hide (HGP.out.num (m := [(j : Int)]) HK7.out ho5 hg5); have hR5 := HST.out.1; have p1 : w5.cell? ⟨w1.heap.size, 1, none⟩ = some (.slice N r.length nN) := (by { rw [blk_cell hR5]; rfl }); have z1 := blk_frozen hR5 1; clear ho5 hg5 hb5 hR5)
        go_roundw
        case rel => exact ⟨m + 1, r ++ [(j : Int)], by go_num, by have := HLM.out; omega, hide HRX.out.symm, N5, nc5, HST.out.2.1⟩
        case measure => have := HLM.out; simp [intOf]; omega
       ·have hlm1 : ¬ (m : Int) < (q2 : Int) := by omega
        have hmq : m = q2 := by omega
        have HR5 := hide (show r.length ≤ 65536 by rw [HR.out, List.length_append, List.length_replicate, hmq]; exact HBD.out)
        have HRQ := hide (show r = plW v.n (j + 1) by rw [HNX.out, HR.out, hmq])
        have HRL := hide (show r.length = l.length + q2 by rw [HR.out, List.length_append, List.length_replicate, hmq])
        have HGP := hide hgp
        clear hgp hlm hm hmq hgr
        go_wp2_with fail
        go_roundw
        case rel => exact ⟨j + 1, r, by go_num, by have := HLT.out; omega, hide HRQ.out, HR5.out, by rw [HRL.out, Int.natCast_add], N, nN, HGP.out⟩
        case measure => have := HLT.out; simp [intOf]; omega
     ·have hlt1 : ¬ (j : Int) < (v.n.length : Int) := by omega
      have hle := HLE.out
      rw [show j = v.n.length by omega] at hle
      rw [hle] at hl5
      have := HTT.out
      omega
 ·have e1 : (v.t != 1) = true := by simp [hs]
  have e2 : (v.t != 2) = false := by simp [hs]
  clear hs bx bz hwa h hB ht l1 l2 l3 l4 hneg htot
  go_enter Tryz.func15, Tryz.ntmps15
  go_wp2_with fail
  rw [← HWE.out]
  go_wp2_with fail
  clear c0 c1 c2 c3
  go_loopw [5] (fun i wq => ∃ j : Nat, i = .int .i64 (j : Int) ∧ j ≤ v.n.length ∧ wa.grownBy wq none) (fun i _ => v.n.length - (intOf i).toNat)
  case atStart => exact ⟨0, rfl, Nat.zero_le _, gb_refl wa none⟩
  case round =>
   obtain ⟨j, rfl, hj, hgr⟩ := hrel
   obtain ⟨c0, c1, c2, c3⟩ := c4k (blk_keep HBX.out hgr (by simp))
   by_cases hlt : j < v.n.length
   ·have hlt1 : (j : Int) < (v.n.length : Int) := by omega
    have h6 : IntKind.i64.wrap ((j : Int) + 1) = ((j + 1 : Nat) : Int) := by rw [IntKind.wrap_i64]; have := HL.out; omega
    obtain ⟨a, ha, _, hcp0⟩ := HN.out.i64 hlt
    subst ha
    obtain ⟨p, hpe⟩ : ∃ p, p = v.n[j] := ⟨_, rfl⟩
    rw [← hpe] at hcp0
    have hcp := cell_gb hcp0 (gb_trans HG.out hgr (.inl rfl))
    have hp0 : ¬ p < 0 := by have := HNG.out p (by rw [hpe]; exact List.getElem_mem hlt); omega
    have HGR := hide hgr
    have HLT := hide hlt
    clear hgr hlt hj hcp0 hpe
    go_wp2_with fail
    go_roundw
    case rel => exact ⟨j + 1, by go_num, by have := HLT.out; omega, HGR.out⟩
    case measure => have := HLT.out; simp [intOf]; omega
   ·have hlt1 : ¬ (j : Int) < (v.n.length : Int) := by omega
    obtain ⟨w1, hw1⟩ : ∃ w1, w1 = wr := ⟨_, rfl⟩
    rw [← hw1] at hgr c0 c1 c2 c3 ⊢
    have HGA1 := hide hgr
    have HG1 := hide (gb_trans HG.out hgr (.inl rfl))
    clear hgr hlt hj hw1
    obtain ⟨w5, hw5⟩ : ∃ w5, w5 = w1.alloc (.cells #[.int .i64 2, .slice none 0 0, .slice none 0 0, .slice none 0 0] 26) := ⟨_, rfl⟩
    have HGP0 := hide (show GrowP w1 2 [] [] none 0 none 0 w5 by rw [hw5]; exact ⟨heap_alloc_new w1 _, ⟨rfl, .inl ⟨rfl, rfl⟩⟩, ⟨rfl, .inl ⟨rfl, rfl⟩⟩, gb_alloc (gb_refl w1 none) _⟩)
    have HW5 := hide hw5
    clear hw5
    go_upto_region 10 with fail
    rw [← HW5.out]
    clear c0 c1 c2 c3
    go_wp2_with fail
    go_loopw [4, 7] (fun t i wq => ∃ (j : Nat) (l : List Int), i = .int .i64 (j : Int) ∧ j ≤ v.n.length ∧ Hid (l = plW v.n j) ∧ l.length ≤ 65536 ∧ t = .int .i64 (l.length : Nat) ∧ ∃ N nN, GrowP w1 2 l [] N nN none 0 wq) (fun _ i _ => v.n.length - (intOf i).toNat)
    case atStart => exact ⟨0, [], rfl, Nat.zero_le _, hide rfl, Nat.zero_le _, rfl, _, _, HGP0.out⟩
    case round =>
     obtain ⟨j, l, rfl, hj, HLE, hl5, rfl, N, nN, hgp⟩ := hrel
     have hgr := gb_trans HGA1.out hgp.hg (.inl rfl)
     obtain ⟨c0, c1, c2, c3⟩ := c4k (blk_keep HBX.out hgr (by simp))
     by_cases hlt : j < v.n.length
     ·have hlt1 : (j : Int) < (v.n.length : Int) := by omega
      have h6 : IntKind.i64.wrap ((j : Int) + 1) = ((j + 1 : Nat) : Int) := by rw [IntKind.wrap_i64]; have := HL.out; omega
      obtain ⟨a, ha, _, hcp0⟩ := HN.out.i64 hlt
      subst ha
      obtain ⟨p, hpe⟩ : ∃ p, p = v.n[j] := ⟨_, rfl⟩
      rw [← hpe] at hcp0
      have HCP0 := hide hcp0
      have hcp := cell_gb hcp0 (gb_trans HG.out hgr (.inl rfl))
      have hp0 : 0 ≤ p := HNG.out p (by rw [hpe]; exact List.getElem_mem hlt)
      obtain ⟨q2, rfl⟩ : ∃ q2 : Nat, p = (q2 : Int) := ⟨p.toNat, by omega⟩
      have hnx : plW v.n (j + 1) = l ++ List.replicate q2 (j : Int) := by rw [HLE.out]; show _ ++ List.replicate (v.n.getD j 0).toNat (j : Int) = _; rw [getD_at hlt, ← hpe]; rfl
      have HNX := hide hnx
      have h7 : IntKind.i64.wrap (65536 - (l.length : Int)) = 65536 - (l.length : Int) := by rw [IntKind.wrap_i64]; omega
      by_cases h9 : (65536 - (l.length : Int)) < (q2 : Int)
      ·have HGR := hide hgr
       have hrr := blk_keep HBZ.out HGR.out (by simp)
       have HRR := hide hrr
       obtain ⟨z0, z1, z2, z3, y0, y1, y2, y3⟩ := zz4 hrr
       clear hrr
       clear hgp hlt hj hgr hcp0 hpe hp0 hnx hl5
       go_wp2_with fail
       obtain ⟨m0, m1, m2, m3⟩ := C4.put HRR.out (.int .i64 0) (.slice none 0 0) (.slice none 0 0) (.slice none 0 0)
       simp only [put4, Nat.zero_add] at m0 m1 m2 m3
       refine bodyPost_ret (v := .tuple #[.agg #[.int .i64 0, .slice none 0 0, .slice none 0 0, .slice none 0 0], .int .i64 6]) (by simp [results, Tryz.results15, go_sem, m0, m1, m2, m3]) rfl ⟨rfl, ?_⟩
       exact put4_to (gb_trans HG.out HGR.out (.inl rfl)) (Nat.le_succ _)
      have hbd : l.length + q2 ≤ 65536 := by omega
      have HBD := hide hbd
      have h8 : IntKind.i64.wrap ((l.length : Int) + (q2 : Int)) = ((l.length + q2 : Nat) : Int) := by rw [IntKind.wrap_i64]; omega
      clear hl5
      have HGP := hide hgp
      have HLT := hide hlt
      clear hgp hlt hj hgr hcp0 hpe hp0 hnx hbd
      go_wp2_with fail
      clear c0 c1 c2 c3 hcp h7 h8 h9
      go_loopw [8] (fun k wq => ∃ (m : Nat) (r : List Int), k = .int .i64 (m : Int) ∧ m ≤ q2 ∧ Hid (r = l ++ List.replicate m (j : Int)) ∧ ∃ N nN, GrowP w1 2 r [] N nN none 0 wq) (fun k _ => q2 - (intOf k).toNat)
      case atStart => exact ⟨0, l, rfl, Nat.zero_le _, hide (by simp), _, _, HGP.out⟩
      case round =>
       obtain ⟨m, r, rfl, hm, HR, N, nN, hgp⟩ := hrel
       have hgr := gb_trans HGA1.out hgp.hg (.inl rfl)
       obtain ⟨c0, c1, c2, c3⟩ := c4k (blk_keep HBX.out hgr (by simp))
       have hcp := cell_gb HCP0.out (gb_trans HG.out hgr (.inl rfl))
       clear HGP
       by_cases hlm : m < q2
       ·have hlm1 : (m : Int) < (q2 : Int) := by omega
        have h16 : IntKind.i64.wrap ((m : Int) + 1) = ((m + 1 : Nat) : Int) := by rw [IntKind.wrap_i64]; have := HBD.out; omega
        have hrl : r.length = l.length + m := by rw [HR.out, List.length_append, List.length_replicate]
        have HM1 : Hid (r.length + 1 ≤ maxLen) := hide (by unfold maxLen; have := HBD.out; omega)
        have HMB : Hid ((r.length + 1) * 8 ≤ 140737488355328) := hide (by have := HBD.out; omega)
        have HRX := hide (show l ++ List.replicate (m + 1) (j : Int) = r ++ [(j : Int)] by rw [HR.out, List.replicate_succ', List.append_assoc])
        have HGP := hide hgp
        have HLM := hide hlm
        clear hgp hlm hm hrl hgr
        obtain ⟨i1, hi1, hiz, his, hib⟩ := info_parts Tryz.info64
        have HI1 := hide hi1
        have HIZ := hide hiz
        have HIS := hide his
        have HIB := hide hib
        clear hi1 hiz his hib
        go_upto_region 19 with fail
        have hk7 : wr.grownBy (wr.alloc (.cells #[.int .i64 (j : Int)] 2)) none := gb_alloc (gb_refl wr none) _
        have HK7 := hide hk7
        have HON := hide (HGP.out.hn.kept hk7 (by cases (Value.slice N r.length nN).ownBlock <;> simp))
        have HRD := hide (show Rd (wr.alloc (.cells #[.int .i64 (j : Int)] 2)) (wr.alloc (.cells #[.int .i64 (j : Int)] 2)).heap.size (some ⟨wr.heap.size, 0, none⟩) (i64s [(j : Int)]) from (Rd.new wr #[.int .i64 (j : Int)] 2 _ rfl).more (by rw [World.size_alloc]; exact Nat.le_refl _))
        have HOC := hide (i64s_one [(j : Int)])
        have HBS : Hid (w1.heap.size + 1 ≤ (wr.alloc (.cells #[.int .i64 (j : Int)] 2)).heap.size) := hide (by have := blk_lt HGP.out.hh; have := hk7.size; omega)
        have p1 : ∀ o : Obj, (wr.alloc o).cell? ⟨w1.heap.size, 1, none⟩ = some (.slice N r.length nN) := fun o => cell_gb (by rw [blk_cell HGP.out.hh]; rfl) (gb_alloc (gb_refl wr none) o)
        have p0 : wr.cell? ⟨w1.heap.size, 1, none⟩ = some (.slice N r.length nN) := by rw [blk_cell HGP.out.hh]; rfl
        clear hk7
        go_wp2_with (at_builtin; refine wpList_append_rd _ rfl (.tmp 66) (.tmp 68) 22 rfl (w1.heap.size + 1) 2 i1 (.int .i64 0) 1 8 Tryz.underlying22 HI1.out HIZ.out HIS.out HIB.out rfl (Nat.succ_pos 0) (.slice N r.length nN) r.length (i64s r) rfl HON.out (wr.alloc (.cells #[.int .i64 (j : Int)] 2)).heap.size (some ⟨wr.heap.size, 0, none⟩) 1 1 (i64s [(j : Int)]) rfl rfl HRD.out HOC.out HM1.out HMB.out HBS.out ?_; intro v5 w5 ho5 hg5 hb5; obtain ⟨N5, nc5, rfl, _⟩ := own_slice ho5; have HST := hide (HGP.out.num (m := [(j : Int)]) HK7.out ho5 hg5); have hR5 := HST.out.1; have p1 : w5.cell? ⟨w1.heap.size, 1, none⟩ = some (.slice N r.length nN) := (by { rw [blk_cell hR5]; rfl }); have z1 := blk_frozen hR5 1; clear ho5 hg5 hb5 hR5)
        go_roundw
        case rel => exact ⟨m + 1, r ++ [(j : Int)], by go_num, by have := HLM.out; omega, hide HRX.out.symm, N5, nc5, HST.out.2.1⟩
        case measure => have := HLM.out; simp [intOf]; omega
       ·have hlm1 : ¬ (m : Int) < (q2 : Int) := by omega
        have hmq : m = q2 := by omega
        have HR5 := hide (show r.length ≤ 65536 by rw [HR.out, List.length_append, List.length_replicate, hmq]; exact HBD.out)
        have HRQ := hide (show r = plW v.n (j + 1) by rw [HNX.out, HR.out, hmq])
        have HRL := hide (show r.length = l.length + q2 by rw [HR.out, List.length_append, List.length_replicate, hmq])
        have HGP := hide hgp
        clear hgp hlm hm hmq hgr
        go_wp2_with fail
        go_roundw
        case rel => exact ⟨j + 1, r, by go_num, by have := HLT.out; omega, hide HRQ.out, HR5.out, by rw [HRL.out, Int.natCast_add], N, nN, HGP.out⟩
        case measure => have := HLT.out; simp [intOf]; omega
     ·have hlt1 : ¬ (j : Int) < (v.n.length : Int) := by omega
      have hle := HLE.out
      rw [show j = v.n.length by omega] at hle
      rw [hle] at hl5
      have := HTT.out
      omega
end Go.Proofs.YtbmgodmfpoappaaGreat
