/-
  attr's Range.
-/
import Derived.Test.YtfdckhnhancbdaaMya
import Derived.Deep.RegionLaw
import Derived.Laws.EntriesVeiled
import Derived.Deep.DeepCutAuto
namespace Go.Proofs.Ytfdckhnhancbdaa
open Go.RowKit
attribute [local go_sem ↓] Go.wp_at_zero Go.wp_at_succ

/-- What Range leaves. -/
def RangeP (es : List (Int × ByteArray)) (t : Int) (lv hv : Option Vl) (w : World) (e : Ending) (w' : World) : Prop :=
  match bdK t lv, bdK t hv with
  | some kl, some kh => FindP (rangeK es (lv.map fun _ => kl) (hv.map fun _ => kh)) w e w'
  | _, _ => e = .returned (.tuple #[.slice none 0 0, .int .i64 31]) ∧ w.grownBy w' none
theorem erK_cases (o : Option (Int × ByteArray)) : (o = none ∧ erK o = 31) ∨ (∃ k, o = some k ∧ erK o = 0) := by
  cases o with
  | none => exact .inl ⟨rfl, rfl⟩
  | some k => exact .inr ⟨k, rfl, rfl⟩
theorem belowB_eq {es : List (Int × ByteArray)} {lv : Option Vl} {k x : Int × ByteArray} {i : Nat} (h : es[i]? = some x) : belowB es (lv.map fun _ => k) i = (lv.isSome && decide (cmpK x k < 0)) := by
  cases lv <;> simp [belowB, h]
theorem aboveB_eq {es : List (Int × ByteArray)} {lv : Option Vl} {k x : Int × ByteArray} {i : Nat} (h : es[i]? = some x) : aboveB es (lv.map fun _ => k) i = (lv.isSome && decide (0 < cmpK x k)) := by
  cases lv <;> simp [aboveB, h]
/-- Places between two turns, as far as one has looked. -/
def cutK (es : List (Int × ByteArray)) (lo hi : Option (Int × ByteArray)) (a k : Nat) : List Nat := (List.range k).filter fun i => decide (a ≤ i) && (!belowB es lo i && !aboveB es hi i)
theorem cutK_start (es : List (Int × ByteArray)) (lo hi : Option (Int × ByteArray)) (a : Nat) {k : Nat} (h : k ≤ a) : cutK es lo hi a k = [] := by
  unfold cutK
  rw [List.filter_eq_nil_iff]
  intro i hi'
  have := List.mem_range.1 hi'
  simp; omega
theorem cutK_succ (es : List (Int × ByteArray)) (lo hi : Option (Int × ByteArray)) {a k : Nat} (h : a ≤ k) : cutK es lo hi a (k + 1) = cutK es lo hi a k ++ (if (!belowB es lo k && !aboveB es hi k) = true then [k] else []) := by
  unfold cutK
  rw [List.range_succ, List.filter_append]
  congr 1
  simp only [List.filter_cons, List.filter_nil, decide_eq_true h, Bool.true_and]
theorem cutK_len (es : List (Int × ByteArray)) (lo hi : Option (Int × ByteArray)) (a k : Nat) : (cutK es lo hi a k).length ≤ k := by
  unfold cutK
  exact Nat.le_trans (List.length_filter_le _ _) (by simp)
set_option maxHeartbeats 8000000 in
set_option maxRecDepth 100000 in
theorem range_any (base g : Nat) (f : List Nat) (mark t : Int) (es : List (Int × ByteArray)) (htb : 1 ≤ t ∧ t ≤ 5) (lo hi : Option Addr) (lv hv : Option Vl) (w : World) (h : IxF w base f g mark t es) (hlo : BdA w lo lv) (hhi : BdA w hi hv) (hes : es.length ≤ 100000) (hso : mark = 1 → fallsK es = 0) :
    Calls Try.prog 24 #[.pointer (some ⟨g, 0, none⟩), .pointer lo, .pointer hi] w (RangeP es t lv hv w) := by
  obtain ⟨wa, hwa⟩ : ∃ wa, wa = ((w.alloc (.cells #[.pointer (some ⟨g, 0, none⟩)] 30)).alloc (.cells #[.pointer lo] 43)).alloc (.cells #[.pointer hi] 43) := ⟨_, rfl⟩
  have hga : w.grownBy wa none := by rw [hwa]; exact gb_alloc (gb_alloc (gb_alloc (gb_refl w none) _) _) _
  have hsa : wa.heap.size = w.heap.size + 3 := by rw [hwa]; simp
  have hb0 : wa.heap[w.heap.size]? = some (.cells #[.pointer (some ⟨g, 0, none⟩)] 30 (0, 0)) := by
    rw [hwa]
    exact (Below.heap_alloc _ _ _ (by simp only [World.size_alloc]; omega)).trans ((Below.heap_alloc _ _ _ (by simp only [World.size_alloc]; omega)).trans (heap_alloc_new w _))
  have hb1 : wa.heap[w.heap.size + 1]? = some (.cells #[.pointer lo] 43 (0, 0)) := by
    rw [hwa]
    refine (Below.heap_alloc _ _ _ (by simp only [World.size_alloc]; omega)).trans ?_
    have := heap_alloc_new (w.alloc (.cells #[.pointer (some ⟨g, 0, none⟩)] 30)) (.cells #[.pointer lo] 43)
    rwa [World.size_alloc] at this
  have hb2 : wa.heap[w.heap.size + 2]? = some (.cells #[.pointer hi] 43 (0, 0)) := by
    rw [hwa]
    have := heap_alloc_new ((w.alloc (.cells #[.pointer (some ⟨g, 0, none⟩)] 30)).alloc (.cells #[.pointer lo] 43)) (.cells #[.pointer hi] 43)
    rwa [World.size_alloc, World.size_alloc] at this
  have HSL := hide hlo.some_eq
  have HSH := hide hhi.some_eq
  have HEL := hide (fun (wq : World) (hgq : wa.grownBy wq none) => bound_any base g f mark t es htb lo lv wq (h.gb (gb_trans hga hgq (.inl rfl))) (hlo.gb (gb_trans hga hgq (.inl rfl))))
  have HEH := hide (fun (wq : World) (hgq : wa.grownBy wq none) => bound_any base g f mark t es htb hi hv wq (h.gb (gb_trans hga hgq (.inl rfl))) (hhi.gb (gb_trans hga hgq (.inl rfl))))
  obtain ⟨kl, hkl⟩ : ∃ k, (bdK t lv).getD (0, noS) = k := ⟨_, rfl⟩
  obtain ⟨kh, hkh⟩ : ∃ k, (bdK t hv).getD (0, noS) = k := ⟨_, rfl⟩
  obtain ⟨el, hel⟩ : ∃ e, erK (bdK t lv) = e := ⟨_, rfl⟩
  obtain ⟨eh, heh⟩ : ∃ e, erK (bdK t hv) = e := ⟨_, rfl⟩
  rw [hkl, hel] at HEL
  rw [hkh, heh] at HEH
  unfold kagg at HEL HEH
  have y0 : wa.cell? ⟨w.heap.size, 0, none⟩ = some (.pointer (some ⟨g, 0, none⟩)) := by rw [blk_cell hb0]; rfl
  have y1 : wa.cell? ⟨w.heap.size + 1, 0, none⟩ = some (.pointer lo) := by rw [blk_cell hb1]; rfl
  have HB0 := hide hb0
  have HB1 := hide hb1
  have HB2 := hide hb2
  have HI := hide (h.gb hga)
  have HGA := hide hga
  have HSA := hide hsa
  have HWE := hide hwa
  have HES := hide hes
  have HSO := hide hso
  have HKL := hide hkl
  have HKH := hide hkh
  have HLE := hide hel
  have HHE := hide heh
  have c0 : (w.alloc (.cells #[.pointer (some ⟨g, 0, none⟩)] 30)).heap.size = w.heap.size + 1 := World.size_alloc _ _
  clear hwa hga hsa hb0 hb1 hb2 h hlo hhi hes hso hkl hkh hel heh htb c0
  go_enter Try.func24, Try.ntmps24
  go_upto_region 3 with fail
  rw [← HWE.out]
  go_cut [8, 9] (fun p e wc => ∃ bk, p = .pointer (some ⟨bk, 0, none⟩) ∧ e = .int .i64 el ∧ wc.heap[bk]? = some (.cells #[.int .i64 kl.1, .string kl.2] 89 (0, 0)) ∧ wa.heap.size ≤ bk ∧ wa.grownBy wc none)
  case first =>
    have v0 : ∀ o, (wa.alloc o).cell? ⟨w.heap.size, 0, none⟩ = some (.pointer (some ⟨g, 0, none⟩)) := fun o => by rw [World.cell?_alloc_lt wa o _ (blk_lt HB0.out), blk_cell HB0.out]; rfl
    have v1 : ∀ o, (wa.alloc o).cell? ⟨w.heap.size + 1, 0, none⟩ = some (.pointer lo) := fun o => by rw [World.cell?_alloc_lt wa o _ (blk_lt HB1.out), blk_cell HB1.out]; rfl
    go_region_law (first
      | (go_simp; go_at_call 50; refine (HEL.out wa.drew (gb_drew (gb_refl wa none))).mono ?_; rintro e w1 ⟨rfl, hg1⟩; have HG1 := hide (show wa.grownBy w1 none from ⟨hg1.os, hg1.tape, hg1.output, hg1.size, hg1.block⟩); clear hg1)
      | (go_simp; go_at_call 50; refine (HEL.out (wa.alloc (.cells #[.int .i64 0, .string ⟨#[]⟩] 89)).drew (gb_drew (gb_alloc (gb_refl wa none) _))).mono ?_; rintro e w1 ⟨rfl, hg1⟩; have HG1 := hide (show wa.grownBy w1 none from gb_trans (gb_alloc (gb_refl wa none) (.cells #[.int .i64 0, .string ⟨#[]⟩] 89)) (show (wa.alloc (.cells #[.int .i64 0, .string ⟨#[]⟩] 89)).grownBy w1 none from ⟨hg1.os, hg1.tape, hg1.output, hg1.size, hg1.block⟩) (.inl rfl)); have HBX := hide (show w1.heap[wa.heap.size]? = some (.cells #[.int .i64 0, .string ⟨#[]⟩] 89 (0, 0)) from (hg1.block _ (by simp) (by simp)).trans (heap_alloc_new wa _)); have x0 : w1.cell? ⟨wa.heap.size, 0, none⟩ = some (.int .i64 0) := (by { rw [blk_cell HBX.out]; rfl }); have x1 : w1.cell? ⟨wa.heap.size, 1, none⟩ = some (.string ⟨#[]⟩) := (by { rw [blk_cell HBX.out]; rfl }); have z0 := blk_frozen HBX.out 0; have z1 := blk_frozen HBX.out 1; clear hg1))
    all_goals first
      | (go_wp2_with fail
         go_meet
         case rel => exact ⟨w1.heap.size, rfl, rfl, heap_alloc_new w1 _, HG1.out.size, gb_alloc HG1.out _⟩)
      | (go_wp2_with fail
         go_meet
         case rel => exact ⟨wa.heap.size, rfl, rfl, blk_set (blk_set HBX.out 0 _) 1 _, Nat.le_refl _, gb_setCell (p := ⟨wa.heap.size, 1, none⟩) (gb_setCell (p := ⟨wa.heap.size, 0, none⟩) HG1.out (.inr (Nat.le_refl _)) _) (.inr (Nat.le_refl _)) _⟩)
  case rest =>
    obtain ⟨bl, rfl, rfl, hbl, hls, hgc⟩ := hcut
    have y0 : wc.cell? ⟨w.heap.size, 0, none⟩ = some (.pointer (some ⟨g, 0, none⟩)) := by rw [blk_cell (blk_keep HB0.out hgc (by simp))]; rfl
    have y2 : wc.cell? ⟨w.heap.size + 2, 0, none⟩ = some (.pointer hi) := by rw [blk_cell (blk_keep HB2.out hgc (by simp))]; rfl
    have HB0 := hide (blk_keep HB0.out hgc (by simp))
    have HB1 := hide (blk_keep HB1.out hgc (by simp))
    have HB2 := hide (blk_keep HB2.out hgc (by simp))
    have HI := hide (HI.out.gb hgc)
    have HGC := hide (gb_trans HGA.out hgc (.inl rfl))
    have HEH := hide (fun (wq : World) (hgq : wc.grownBy wq none) => HEH.out wq (gb_trans hgc hgq (.inl rfl)))
    have HBL := hide hbl
    have HSC := hide hgc.size
    have HGO := HGA
    clear hbl hls hgc HEL HGA
    rcases erK_cases (bdK t lv) with ⟨hk, he⟩ | ⟨k0, hk, he⟩
    · have he1 : el = 31 := by rw [← HLE.out, he]
      subst he1
      have HK := hide hk
      clear hk he
      go_wp2_with fail
      go_ret2
      unfold RangeP
      rw [HK.out]
      exact ⟨rfl, HGC.out⟩
    have he1 : el = 0 := by rw [← HLE.out, he]
    have hk1 : k0 = kl := by rw [← HKL.out, hk]; rfl
    subst he1 hk1
    have HK := hide hk
    clear hk he
    obtain ⟨wb, rfl⟩ : ∃ wb, wb = wc := ⟨_, rfl⟩
    go_upto_region 6 with fail
    go_cut [10, 9] (fun p e wd => ∃ bk, p = .pointer (some ⟨bk, 0, none⟩) ∧ e = .int .i64 eh ∧ wd.heap[bk]? = some (.cells #[.int .i64 kh.1, .string kh.2] 89 (0, 0)) ∧ wb.heap.size ≤ bk ∧ wb.grownBy wd none)
    case first =>
      have v0 : ∀ o, (wb.alloc o).cell? ⟨w.heap.size, 0, none⟩ = some (.pointer (some ⟨g, 0, none⟩)) := fun o => by rw [World.cell?_alloc_lt wb o _ (blk_lt HB0.out), blk_cell HB0.out]; rfl
      have v1 : ∀ o, (wb.alloc o).cell? ⟨w.heap.size + 2, 0, none⟩ = some (.pointer hi) := fun o => by rw [World.cell?_alloc_lt wb o _ (blk_lt HB2.out), blk_cell HB2.out]; rfl
      go_region_law (first
        | (go_simp; go_at_call 50; refine (HEH.out wb.drew (gb_drew (gb_refl wb none))).mono ?_; rintro e w1 ⟨rfl, hg1⟩; have HG1 := hide (show wb.grownBy w1 none from ⟨hg1.os, hg1.tape, hg1.output, hg1.size, hg1.block⟩); clear hg1)
        | (go_simp; go_at_call 50; refine (HEH.out (wb.alloc (.cells #[.int .i64 0, .string ⟨#[]⟩] 89)).drew (gb_drew (gb_alloc (gb_refl wb none) _))).mono ?_; rintro e w1 ⟨rfl, hg1⟩; have HG1 := hide (show wb.grownBy w1 none from gb_trans (gb_alloc (gb_refl wb none) (.cells #[.int .i64 0, .string ⟨#[]⟩] 89)) (show (wb.alloc (.cells #[.int .i64 0, .string ⟨#[]⟩] 89)).grownBy w1 none from ⟨hg1.os, hg1.tape, hg1.output, hg1.size, hg1.block⟩) (.inl rfl)); have HBX := hide (show w1.heap[wb.heap.size]? = some (.cells #[.int .i64 0, .string ⟨#[]⟩] 89 (0, 0)) from (hg1.block _ (by simp) (by simp)).trans (heap_alloc_new wb _)); have x0 : w1.cell? ⟨wb.heap.size, 0, none⟩ = some (.int .i64 0) := (by { rw [blk_cell HBX.out]; rfl }); have x1 : w1.cell? ⟨wb.heap.size, 1, none⟩ = some (.string ⟨#[]⟩) := (by { rw [blk_cell HBX.out]; rfl }); have z0 := blk_frozen HBX.out 0; have z1 := blk_frozen HBX.out 1; clear hg1))
      all_goals first
        | (go_wp2_with fail
           go_meet
           case rel => exact ⟨w1.heap.size, rfl, rfl, heap_alloc_new w1 _, HG1.out.size, gb_alloc HG1.out _⟩)
        | (go_wp2_with fail
           go_meet
           case rel => exact ⟨wb.heap.size, rfl, rfl, blk_set (blk_set HBX.out 0 _) 1 _, Nat.le_refl _, gb_setCell (p := ⟨wb.heap.size, 1, none⟩) (gb_setCell (p := ⟨wb.heap.size, 0, none⟩) HG1.out (.inr (Nat.le_refl _)) _) (.inr (Nat.le_refl _)) _⟩)
    case rest =>
      obtain ⟨bh, rfl, rfl, hbh, hlh, hgd⟩ := hcut
      have HB0 := hide (blk_keep HB0.out hgd (by simp))
      have HB1 := hide (blk_keep HB1.out hgd (by simp))
      have HB2 := hide (blk_keep HB2.out hgd (by simp))
      have HBL := hide (blk_keep HBL.out hgd (by simp))
      have HBH := hide hbh
      have HI := hide (HI.out.gb hgd)
      have HGD := hide (gb_trans HGC.out hgd (.inl rfl))
      clear hbh hlh hgd HEH HGC
      rcases erK_cases (bdK t hv) with ⟨hk, he⟩ | ⟨k1, hk, he⟩
      · have he1 : eh = 31 := by rw [← HHE.out, he]
        subst he1
        have HK2 := hide hk
        clear hk he
        go_wp2_with fail
        go_ret2
        unfold RangeP
        rw [HK.out, HK2.out]
        exact ⟨rfl, HGD.out⟩
      have he1 : eh = 0 := by rw [← HHE.out, he]
      have hk1 : k1 = kh := by rw [← HKH.out, hk]; rfl
      subst he1 hk1
      have HK2 := hide hk
      clear hk he
      obtain ⟨wd, rfl⟩ : ∃ wd, wd = wc := ⟨_, rfl⟩
      obtain ⟨wf, hwf⟩ : ∃ wf, wf = wd.alloc (.cells #[.func (.func 51) #[] #[.pointer (some ⟨w.heap.size + 1, 0, none⟩), .pointer (some ⟨w.heap.size, 0, none⟩), .pointer (some ⟨bl, 0, none⟩)]] 97) := ⟨_, rfl⟩
      have hgf : wd.grownBy wf none := by rw [hwf]; exact gb_alloc (gb_refl wd none) _
      have hbf : wf.heap[wd.heap.size]? = some (.cells #[.func (.func 51) #[] #[.pointer (some ⟨w.heap.size + 1, 0, none⟩), .pointer (some ⟨w.heap.size, 0, none⟩), .pointer (some ⟨bl, 0, none⟩)]] 97 (0, 0)) := by rw [hwf]; exact heap_alloc_new wd _
      have n0 : (wd.alloc (.cells #[.nilFunc] 97)).cell? ⟨wd.heap.size, 0, none⟩ = some .nilFunc := by rw [blk_cell (heap_alloc_new wd (.cells #[.nilFunc] 97))]; rfl
      have nz := blk_frozen (heap_alloc_new wd (.cells #[.nilFunc] 97)) 0
      have hb0 := blk_keep HB0.out hgf (by simp)
      obtain ⟨v, mb, tr, hI⟩ := HI.out.gb hgf
      obtain ⟨Av, cv, rfl, _, hcm, _⟩ := own_form2 hI.col.own
      have q0 : wf.cell? ⟨w.heap.size, 0, none⟩ = some (.pointer (some ⟨g, 0, none⟩)) := by rw [blk_cell hb0]; rfl
      have g0 : wf.cell? ⟨g, 0, none⟩ = some (.int .i64 mark) := by rw [blk_cell hI.col.blk]; rfl
      have g2 : wf.cell? ⟨g, 2, none⟩ = some (.slice Av es.length cv) := by rw [blk_cell hI.col.blk]; rfl
      have HB0 := hide hb0
      have HB1 := hide (blk_keep HB1.out hgf (by simp))
      have HB2 := hide (blk_keep HB2.out hgf (by simp))
      have HBL := hide (blk_keep HBL.out hgf (by simp))
      have HBH := hide (blk_keep HBH.out hgf (by simp))
      have HBF := hide hbf
      have HI := hide (HI.out.gb hgf)
      have HWF := hide hwf
      have HGF := hide (gb_trans HGD.out hgf (.inl rfl))
      clear hwf hgf hbf hb0 hI hcm HGD y0 y2
      go_upto_region 11 with fail
      rw [← HWF.out]
      go_quiet (fail)
      obtain ⟨wq, hwq⟩ : ∃ wq, wq = wf.drewN nq := ⟨_, rfl⟩
      have hgq : wf.grownBy wq none := by rw [hwq]; exact gb_drewN (gb_refl wf none) _
      rw [← hwq]
      have q0 : wq.cell? ⟨w.heap.size, 0, none⟩ = some (.pointer (some ⟨g, 0, none⟩)) := by rw [blk_cell (blk_keep HB0.out hgq (by simp))]; rfl
      obtain ⟨v', mb', tr', hI⟩ := HI.out.gb hgq
      have g0 : wq.cell? ⟨g, 0, none⟩ = some (.int .i64 mark) := by rw [blk_cell hI.col.blk]; rfl
      have HB0 := hide (blk_keep HB0.out hgq (by simp))
      have HB1 := hide (blk_keep HB1.out hgq (by simp))
      have HB2 := hide (blk_keep HB2.out hgq (by simp))
      have HBL := hide (blk_keep HBL.out hgq (by simp))
      have HBH := hide (blk_keep HBH.out hgq (by simp))
      have HBF := hide (blk_keep HBF.out hgq (by simp))
      have HI := hide (HI.out.gb hgq)
      have HGQ := hide (gb_trans HGF.out hgq (.inl rfl))
      clear hwq hgq hI g2 HGF n0 nz
      obtain ⟨LO, hLO⟩ : ∃ x, x = lv.map fun _ => k0 := ⟨_, rfl⟩
      obtain ⟨HI', hHI⟩ : ∃ x, x = hv.map fun _ => k1 := ⟨_, rfl⟩
      have HBW := hide (fun (i : Nat) (hi' : i < es.length) (wx : World) (hx : wq.grownBy wx none) => (by
        have h1 := below_any base g f mark t es (w.heap.size + 1) w.heap.size bl lo k0 _ i (List.getElem?_eq_getElem hi') wx (HI.out.gb hx) (blk_keep HB1.out hx (by simp)) (blk_keep HB0.out hx (by simp)) (blk_keep HBL.out hx (by simp))
        rw [HSL.out, ← belowB_eq (List.getElem?_eq_getElem hi'), ← hLO] at h1
        exact h1 : Calls Try.prog 51 #[.int .i64 (i : Int), .pointer (some ⟨w.heap.size + 1, 0, none⟩), .pointer (some ⟨w.heap.size, 0, none⟩), .pointer (some ⟨bl, 0, none⟩)] wx fun e w' => e = .returned (.bool (belowB es LO i)) ∧ wx.grownBy w' none))
      have HAW := hide (fun (i : Nat) (hi' : i < es.length) (wx : World) (hx : wq.grownBy wx none) => (by
        have h1 := above_any base g f mark t es (w.heap.size + 2) w.heap.size bh hi k1 _ i (List.getElem?_eq_getElem hi') wx (HI.out.gb hx) (blk_keep HB2.out hx (by simp)) (blk_keep HB0.out hx (by simp)) (blk_keep HBH.out hx (by simp))
        rw [HSH.out, ← aboveB_eq (List.getElem?_eq_getElem hi'), ← hHI] at h1
        exact h1 : Calls Try.prog 53 #[.int .i64 (i : Int), .pointer (some ⟨w.heap.size + 2, 0, none⟩), .pointer (some ⟨w.heap.size, 0, none⟩), .pointer (some ⟨bh, 0, none⟩)] wx fun e w' => e = .returned (.bool (aboveB es HI' i)) ∧ wx.grownBy w' none))
      have HS3 := hide (search3 wd.heap.size es.length (fun i => !belowB es LO i) wq (by have := HES.out; omega) (fun i hi' wx hx => (by
        have h1 := notBelow_any base g f mark t es (w.heap.size + 1) w.heap.size bl wd.heap.size lo k0 _ i (List.getElem?_eq_getElem hi') wx (HI.out.gb hx) (blk_keep HB1.out hx (by simp)) (blk_keep HB0.out hx (by simp)) (blk_keep HBL.out hx (by simp)) (blk_keep HBF.out hx (by simp))
        rw [HSL.out, ← belowB_eq (List.getElem?_eq_getElem hi'), ← hLO] at h1
        exact h1)))
      have HS2 := hide (fun (wx : World) (hx : wq.grownBy wx none) => search2 (w.heap.size + 2) w.heap.size bh es.length (fun i => aboveB es HI' i) wx (by have := HES.out; omega) (fun i hi' wy hy => HAW.out i hi' wy (gb_trans hx hy (.inl rfl))))
      have HLO := hide hLO
      have HHI := hide hHI
      clear hLO hHI
      go_upto_if 54 with fail
      go_cut [13, 14] (fun a b wc => ∃ na nb : Nat, a = .int .i64 (na : Int) ∧ b = .int .i64 (nb : Int) ∧ na ≤ es.length ∧ nb ≤ es.length ∧ (∀ i, i < na → i < es.length → belowB es LO i = true) ∧ (∀ i, nb ≤ i → i < es.length → aboveB es HI' i = true) ∧ wq.grownBy wc none)
      case first =>
        by_cases hm : mark = 1
        · subst hm
          have hf := HSO.out rfl
          have HF := hide hf
          clear hf
          go_wp2_with fail
          refine HS3.out.mono ?_
          rintro e w1 ⟨r, rfl, hr, hr1, hr2, hg1⟩
          have HG1 := hide hg1
          have HR1 := hide hr1
          have HR := hide hr
          clear hg1 hr1 hr2 hr
          go_wp2_with fail
          refine (HS2.out w1 HG1.out).mono ?_
          rintro e w2 ⟨r', rfl, hr, hr1, hr2, hg2⟩
          have HG2 := hide hg2
          have HR2 := hide hr2
          have HR' := hide hr
          clear hg2 hr1 hr2 hr
          go_wp2_with fail
          go_meet
          case rel =>
            refine ⟨r, r', rfl, rfl, HR.out, HR'.out, fun i h1 h2 => ?_, fun i h1 h2 => ?_, gb_trans HG1.out HG2.out (.inl rfl)⟩
            · rcases HR1.out with e | e
              · omega
              · exact below_mono HF.out (show i ≤ r - 1 by omega) (by simpa using e)
            · rcases HR2.out with e | e
              · omega
              · exact above_mono HF.out h1 h2 e
        · have hm2 : (mark == 1) = false := by simp [hm]
          go_wp2_with fail
          go_meet
          case rel => exact ⟨0, es.length, rfl, rfl, Nat.zero_le _, Nat.le_refl _, fun i h1 => absurd h1 (Nat.not_lt_zero i), fun i h1 h2 => by omega, gb_refl wq none⟩
      case rest =>
        obtain ⟨na, nb, rfl, rfl, hna, hnb, hA, hB, hgz⟩ := hcut
        obtain ⟨wz, rfl⟩ : ∃ wz, wz = wc := ⟨_, rfl⟩
        obtain ⟨i1, hi1, hiz, his, hib⟩ := info_parts Try.infoN
        have HI1 := hide hi1
        have HIZ := hide hiz
        have HIS := hide his
        have HIB := hide hib
        have HNA := hide hna
        have HNB := hide hnb
        have HAA := hide hA
        have HBB := hide hB
        have HGZ := hide hgz
        clear hi1 hiz his hib hna hnb hA hB hgz q0 g0
        go_wp2_with fail
        go_loopw [16, 15] (fun i y wr => ∃ (k : Nat) (x : Value), na ≤ k ∧ (k ≤ nb ∨ k = na) ∧ i = .int .i64 (k : Int) ∧ x = y ∧ wr.ownsRow wz.heap.size 3 1 x (cutK es LO HI' na k).length (nts (cutK es LO HI' na k)) ∧ wz.grownBy wr none) (fun i _ _ => nb - (intOf i).toNat)
        case atStart => exact ⟨na, _, Nat.le_refl _, .inr rfl, rfl, rfl, by rw [cutK_start es LO HI' na (Nat.le_refl na)]; exact World.ownsRow_nil wz _ _ 1, gb_refl wz none⟩
        case round =>
          obtain ⟨k, x, hk, hkn, rfl, rfl, ho, hg⟩ := hrel
          by_cases hlt : k < nb
          · have hke : k < es.length := by have := HNB.out; omega
            have hkl : k ≤ 100000 := by have := HES.out; omega
            have HB := hide (HBW.out k hke)
            have HA := hide (HAW.out k hke)
            have hcs := cutK_succ es LO HI' hk
            obtain ⟨q1, hq1⟩ : ∃ q, belowB es LO k = q := ⟨_, rfl⟩
            obtain ⟨q2, hq2⟩ : ∃ q, aboveB es HI' k = q := ⟨_, rfl⟩
            rw [hq1] at HB hcs
            rw [hq2] at HA hcs
            have HLE := hide (cutK_len es LO HI' na k)
            obtain ⟨L, hL⟩ : ∃ L, cutK es LO HI' na k = L := ⟨_, rfl⟩
            rw [hL] at hcs ho HLE
            obtain ⟨M, hM⟩ : ∃ M, cutK es LO HI' na (k + 1) = M := ⟨_, rfl⟩
            rw [hM] at hcs
            have HM := hide hM
            have hw := gb_trans HGZ.out hg (.inl rfl)
            have c11 : wr.cell? ⟨wd.heap.size, 0, none⟩ = some (.func (.func 51) #[] #[.pointer (some ⟨w.heap.size + 1, 0, none⟩), .pointer (some ⟨w.heap.size, 0, none⟩), .pointer (some ⟨bl, 0, none⟩)]) := by rw [blk_cell (blk_keep HBF.out hw (by simp))]; rfl
            have HW := hide hw
            have HO := hide ho
            have HG := hide hg
            have HC := hide hcs
            have HKK := hide hk
            clear hq1 hq2 hL hM hw ho hg hcs hk hkn
            cases q1
            · go_wp2_with fail
              refine (HB.out wr HW.out).mono ?_
              rintro e w1 ⟨rfl, hg1⟩
              have HG1 := hide hg1
              have HW1 := hide (gb_trans HW.out hg1 (.inl rfl))
              clear hg1
              go_wp2_with fail
              refine (HA.out w1 HW1.out).mono ?_
              rintro e w2 ⟨rfl, hg2⟩
              have HG2 := hide (gb_trans (gb_trans HG.out HG1.out (.inl rfl)) hg2 (.inl rfl))
              have HR2 := hide (gb_trans HG1.out hg2 (.inl rfl))
              clear hg2
              cases q2
              · obtain ⟨wy, hwy⟩ : ∃ wy, wy = w2.alloc (.cells #[.int .i64 (k : Int)] 3) := ⟨_, rfl⟩
                have hgy : w2.grownBy wy none := by rw [hwy]; exact gb_alloc (gb_refl w2 none) _
                have HOW := hide (own_gb (own_gb HO.out HR2.out (by cases x.ownBlock <;> simp)) hgy (by cases x.ownBlock <;> simp))
                have HXL : Hid (∀ b, x.ownBlock = some b → wz.heap.size ≤ b) := hide (fun b e => (own_lt HO.out e).2)
                have HGY := hide (gb_trans HG2.out hgy (.inl rfl))
                have HWY := hide hwy
                have HM1 : Hid (L.length + 1 ≤ maxLen) := hide (by have := HLE.out; unfold maxLen; omega)
                have HMB : Hid ((L.length + 1) * 8 ≤ 140737488355328) := hide (by have := HLE.out; omega)
                have HBS : Hid (wz.heap.size ≤ wy.heap.size) := hide HGY.out.size
                have HNW := hide (fun (wq : World) (_ : wq = wy) => (by subst wq; rw [hwy]; exact cell_one_new w2 (.int .i64 (k : Int)) 3 : ∀ j u, [(.int .i64 (k : Int) : Value)][j]? = some u → wq.cell? ((⟨w2.heap.size, 0, none⟩ : Addr).add j) = some u))
                clear hgy hwy
                go_wp2_with (at_builtin; rw [← HWY.out]; refine wpList_append_own_at _ rfl (.tmp 77) (.tmp 79) 55 rfl wz.heap.size 3 i1 (.int .i64 0) 1 8 Try.underlying55 HI1.out HIZ.out HIS.out HIB.out rfl (Nat.succ_pos 0) x L.length (nts L) rfl HOW.out ⟨w2.heap.size, 0, none⟩ 1 1 [.int .i64 (k : Int)] rfl rfl (HNW.out _ rfl) (one_oneCell rfl) HM1.out HMB.out HBS.out ?_; intro v5 w5 ho5 hg5 hn5 hb5; have HO5 := hide ho5; have HG5 := hide hg5; clear ho5 hg5 hn5 hb5)
                go_roundw
                case rel =>
                  have hm : M = L ++ [k] := by simpa using HC.out
                  refine ⟨k + 1, _, by have := HKK.out; omega, .inl (by omega), by go_num, rfl, ?_, gb_trans HGY.out HG5.out ?_⟩
                  · rw [HM.out, hm, List.length_append, List.length_singleton, nts_app]
                    exact HO5.out
                  · cases e : x.ownBlock with
                    | none => exact .inr (.inl rfl)
                    | some b => exact .inr (.inr ⟨b, rfl, HXL.out b e⟩)
                case measure => simp [intOf]; omega
              · go_wp2_with fail
                go_roundw
                case rel =>
                  have hm : M = L := by simpa using HC.out
                  refine ⟨k + 1, _, by have := HKK.out; omega, .inl (by omega), by go_num, rfl, ?_, HG2.out⟩
                  rw [HM.out, hm]
                  exact own_gb HO.out HR2.out (by cases x.ownBlock <;> simp)
                case measure => simp [intOf]; omega
            · go_wp2_with fail
              refine (HB.out wr HW.out).mono ?_
              rintro e w1 ⟨rfl, hg1⟩
              have HG1 := hide hg1
              clear hg1
              go_wp2_with fail
              go_roundw
              case rel =>
                have hm : M = L := by simpa using HC.out
                refine ⟨k + 1, _, by have := HKK.out; omega, .inl (by omega), by go_num, rfl, ?_, gb_trans HG.out HG1.out (.inl rfl)⟩
                rw [HM.out, hm]
                exact own_gb HO.out HG1.out (by cases x.ownBlock <;> simp)
              case measure => simp [intOf]; omega
          · have hfin : cutK es LO HI' na k = rangeK es LO HI' := by
              rw [range_cut HNB.out HAA.out HBB.out]
              show cutK es LO HI' na k = cutK es LO HI' na nb
              rcases hkn with h | h
              · rw [show k = nb by omega]
              · rw [cutK_start _ _ _ _ (by omega), cutK_start _ _ _ _ (by omega)]
            obtain ⟨Ax, cx, rfl, _, _, hrx⟩ := own_form2 ho
            have HO := hide ho
            have HFI := hide hfin
            have HGR := hide (gb_trans (gb_trans HGQ.out HGZ.out (.inl rfl)) hg (.inl rfl))
            have HGS := hide (gb_trans HGQ.out HGZ.out (.inl rfl)).size
            clear ho hg hfin hrx hk hkn
            go_wp2_with fail
            go_ret2
            unfold RangeP
            rw [HK.out, HK2.out]
            show FindP (rangeK es (lv.map fun _ => k0) (hv.map fun _ => k1)) w _ _
            rw [← HLO.out, ← HHI.out, ← HFI.out]
            exact ⟨Ax, cx, rfl, Rd.of_own HO.out, HGR.out, fun ad ha _ => by subst ha; exact Nat.le_trans HGS.out (own_lt HO.out (g := ad.block) rfl).2⟩
end Go.Proofs.Ytfdckhnhancbdaa
