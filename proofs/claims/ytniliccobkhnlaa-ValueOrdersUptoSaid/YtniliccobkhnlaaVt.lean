/-
  value.all over values.
-/
import Derived.Test.YtniliccobkhnlaaVs
namespace Go.Proofs.Ytniliccobkhnlaa
open Go.RowKit
attribute [local go_sem ↓] Go.wp_at_zero Go.wp_at_succ

def isTab (v : Vl) : Bool := v.t == 98
def isSeq (v : Vl) : Bool := v.t == 0 || (decide (0 < v.t) && (hasN v.t || hasS v.t))

set_option maxHeartbeats 4000000 in
set_option maxRecDepth 100000 in
theorem isTab_any (v : Vl) (c1 c2 c3 : Value) (w : World) : Calls Try.prog 44 #[.agg #[.int .i64 v.t, c1, c2, c3]] w fun e w' => e = .returned (.bool (isTab v)) ∧ w.grownBy w' none := by
  have HA := hide (show (v.t == 98) = isTab v from rfl)
  go_enter Try.func44, Try.ntmps44
  go_wp2_with fail
  go_ret
  exact ⟨ret_b HA.out, gb_alloc (gb_refl w none) _⟩
set_option maxHeartbeats 4000000 in
set_option maxRecDepth 100000 in
theorem isSeq_any (v : Vl) (c1 c2 c3 : Value) (w : World) : Calls Try.prog 95 #[.agg #[.int .i64 v.t, c1, c2, c3]] w fun e w' => e = .returned (.bool (isSeq v)) ∧ w.grownBy w' none := by
  have HA := hide (show isSeq v = (v.t == 0 || (decide (0 < v.t) && (hasN v.t || hasS v.t))) from rfl)
  rw [HA.out]
  clear HA
  have HN := hide (hasN_any v.t)
  have HS := hide (hasS_any v.t)
  generalize v.t = t at *
  obtain ⟨wa, hwa⟩ : ∃ wa, wa = w.alloc (.cells #[.int .i64 t, c1, c2, c3] 26) := ⟨_, rfl⟩
  have HG := hide (show w.grownBy wa none by rw [hwa]; exact gb_alloc (gb_refl w none) _)
  have HWE := hide hwa
  clear hwa
  by_cases h0 : t = 0
  · subst h0
    go_enter Try.func95, Try.ntmps95
    go_wp2_with fail
    go_ret
    exact ⟨rfl, by have := HG.out; rwa [HWE.out] at this⟩
  have e0 := int_beq_f h0
  by_cases hp : 0 < t
  · have hpd : decide (0 < t) = true := decide_eq_true hp
    cases hn : hasN t
    · rw [hn] at HN
      clear hn
      generalize hasS t = b at *
      go_enter Try.func95, Try.ntmps95
      go_wp2_with (first
        | (go_at_call 51; refine (HN.out _).mono ?_; rintro e w1 ⟨rfl, rfl⟩)
        | (go_at_call 52; refine (HS.out _).mono ?_; rintro e w1 ⟨rfl, rfl⟩))
      go_ret
      exact ⟨ret_b (by simp [e0, hp]), by have := HG.out; rwa [HWE.out] at this⟩
    · rw [hn] at HN
      clear hn
      go_enter Try.func95, Try.ntmps95
      go_wp2_with (go_at_call 51; refine (HN.out _).mono ?_; rintro e w1 ⟨rfl, rfl⟩)
      go_ret
      exact ⟨ret_b (by simp [e0, hp]), by have := HG.out; rwa [HWE.out] at this⟩
  · have hp1 : t ≤ 0 := by omega
    go_enter Try.func95, Try.ntmps95
    go_wp2_with fail
    go_ret
    exact ⟨ret_b (by simp; intro h; omega), by have := HG.out; rwa [HWE.out] at this⟩

/-! ## all of them: isTable -/

set_option maxHeartbeats 4000000 in
set_option maxRecDepth 100000 in
theorem isTab_not (v : Vl) (c1 c2 c3 : Value) (g : Nat) (w : World) (hg : w.cell? ⟨g, 0, none⟩ = some (.func (.func 44) #[] #[])) :
    Calls Try.prog 77 #[.agg #[.int .i64 v.t, c1, c2, c3], .pointer (some ⟨g, 0, none⟩)] w fun e w' => e = .returned (.bool (!isTab v)) ∧ w.grownBy w' none := by
  obtain ⟨wa, hwa⟩ : ∃ wa, wa = w.alloc (.cells #[.int .i64 v.t, c1, c2, c3] 26) := ⟨_, rfl⟩
  have hgb : w.grownBy wa none := by rw [hwa]; exact gb_alloc (gb_refl w none) _
  have hq := cell_gb hg hgb
  rw [hwa] at hq
  have HC := hide (fun w2 => isTab_any v c1 c2 c3 w2)
  have HG := hide hgb
  have HWE := hide hwa
  clear hwa hgb
  generalize isTab v = b at *
  go_enter Try.func77, Try.ntmps77
  go_wp2_with (go_at_call 44; rw [← HWE.out]; refine (HC.out wa).mono ?_; rintro e w1 ⟨rfl, hg1⟩; have HG1 := hide hg1; clear hg1)
  go_ret
  exact ⟨rfl, gb_trans HG.out HG1.out (.inl rfl)⟩
def isTabPost (l : List Vl) (w : World) (e : Ending) (w' : World) : Prop := ∃ r : Int, e = .returned (.int .i64 r) ∧ decide (0 ≤ r) = (l.any fun x => !isTab x) ∧ w.grownBy w' none
set_option maxHeartbeats 4000000 in
set_option maxRecDepth 100000 in
theorem isTab_idx (l : List Vl) (w : World) (B : Nat) (A : Option Addr) (c g : Nat) (hl : l.length ≤ 1100000) (hB : B ≤ w.heap.size) (h : RdV w B A l) (hg : w.cell? ⟨g, 0, none⟩ = some (.func (.func 44) #[] #[])) :
    Calls Try.prog 87 #[.slice A l.length c, .func (.func 77) #[] #[.pointer (some ⟨g, 0, none⟩)]] w (isTabPost l w) := by
  have H := hide h
  have HB := hide hB
  have HGF := hide hg
  clear h hB hg
  go_enter Try.func87, Try.ntmps87
  go_wp2_with fail
  go_loopw [8] (fun i wr => ∃ j : Nat, i = .int .i64 (j : Int) ∧ j ≤ l.length ∧ Hid ((l.take j).any (fun x => !isTab x) = false) ∧ w.grownBy wr none) (fun i _ => l.length - (intOf i).toNat)
  case atStart => exact ⟨0, rfl, Nat.zero_le _, hide (by simp), gb_refl w none⟩
  case round =>
    obtain ⟨j, rfl, hj, HE, hgr⟩ := hrel
    have HGR := hide hgr
    clear hgr
    by_cases hlt : j < l.length
    · have hlt1 : (j : Int) < (l.length : Int) := by omega
      obtain ⟨q, o, xA, xc, yA, yc, zA, zc, rfl, hqB, hc4, _⟩ := H.out.at_ hlt
      obtain ⟨d0, d1, d2, d3⟩ := hc4.gb HGR.out
      have HC := hide (isTab_not l[j] (.slice xA l[j].n.length xc) (.slice yA l[j].s.length yc) (.slice zA l[j].l.length zc) g wr (cell_gb HGF.out HGR.out))
      have HL := hide (show l.take (j + 1) = l.take j ++ [l[j]] from List.take_succ_eq_append_getElem hlt)
      have HA : Hid (isTab l[j] = false → (l.any fun x => !isTab x) = true) := hide (fun h => List.any_eq_true.2 ⟨_, List.getElem_mem hlt, by rw [h]; rfl⟩)
      clear hc4
      cases hp : isTab l[j]
      · rw [hp] at HC
        have HA2 := hide (HA.out hp)
        clear hp
        go_wp2_with (go_at_call 77; refine HC.out.mono ?_; rintro e w1 ⟨rfl, hg1⟩; have HG1 := hide hg1; clear hg1)
        go_ret
        exact ⟨j, rfl, by rw [HA2.out]; exact decide_eq_true (by omega), gb_trans HGR.out HG1.out (.inl rfl)⟩
      · rw [hp] at HC
        have HP := hide hp
        clear hp
        go_wp2_with (go_at_call 77; refine HC.out.mono ?_; rintro e w1 ⟨rfl, hg1⟩; have HG1 := hide hg1; clear hg1)
        go_roundw
        case rel => exact ⟨j + 1, by go_num, by omega, hide (by rw [HL.out, List.any_append, HE.out]; simp [HP.out]), gb_trans HGR.out HG1.out (.inl rfl)⟩
        case measure => simp [intOf]; omega
    · have hlt1 : ¬ (j : Int) < (l.length : Int) := by omega
      have HT := hide (show l.take j = l from List.take_of_length_le (by omega))
      go_wp2_with fail
      go_ret
      exact ⟨-1, rfl, by have := HE.out; rw [HT.out] at this; rw [this]; rfl, HGR.out⟩
set_option maxHeartbeats 4000000 in
set_option maxRecDepth 100000 in
theorem isTab_all (l : List Vl) (w : World) (B : Nat) (A : Option Addr) (c : Nat) (hl : l.length ≤ 1100000) (hB : B ≤ w.heap.size) (h : RdV w B A l) :
    Calls Try.prog 46 #[.slice A l.length c, .func (.func 44) #[] #[]] w fun e w' => e = .returned (.bool (l.all isTab)) ∧ w.grownBy w' none := by
  obtain ⟨wa, hwa⟩ : ∃ wa, wa = w.alloc (.cells #[.func (.func 44) #[] #[]] 37) := ⟨_, rfl⟩
  have hgb : w.grownBy wa none := by rw [hwa]; exact gb_alloc (gb_refl w none) _
  have hcf : wa.cell? ⟨w.heap.size, 0, none⟩ = some (.func (.func 44) #[] #[]) := by rw [hwa, blk_cell (heap_alloc_new w _)]; rfl
  have HI := hide (isTab_idx l wa B A c w.heap.size hl (Nat.le_trans hB hgb.size) (h.gb hgb hB) hcf)
  have HAL := hide (show (l.any fun x => !isTab x) = !l.all isTab by rw [Bool.eq_iff_iff]; simp)
  have HG := hide hgb
  have HWE := hide hwa
  clear hwa hgb hcf h hB
  generalize l.all isTab = b at *
  have HCN : Hid (Calls Try.prog 76 #[.slice A l.length c, .func (.func 77) #[] #[.pointer (some ⟨w.heap.size, 0, none⟩)]] wa fun e w' => e = .returned (.bool !b) ∧ wa.grownBy w' none) := hide (by
    go_enter Try.func76, Try.ntmps76
    go_wp2_with (go_at_call 87; refine HI.out.mono ?_; rintro e w1 ⟨r, rfl, hr, hg1⟩; have HR := hide hr; have HG1 := hide hg1; clear hr hg1)
    go_ret
    exact ⟨ret_b (by rw [← HAL.out, ← HR.out]), HG1.out⟩)
  clear HI
  go_enter Try.func46, Try.ntmps46
  go_wp2_with (go_at_call 76; rw [← HWE.out]; refine HCN.out.mono ?_; rintro e w1 ⟨rfl, hg1⟩; have HG1 := hide hg1; clear hg1)
  go_ret
  exact ⟨ret_b (by simp), gb_trans HG.out HG1.out (.inl rfl)⟩

/-! ## all of them: isSequence -/

set_option maxHeartbeats 4000000 in
set_option maxRecDepth 100000 in
theorem isSeq_not (v : Vl) (c1 c2 c3 : Value) (g : Nat) (w : World) (hg : w.cell? ⟨g, 0, none⟩ = some (.func (.func 95) #[] #[])) :
    Calls Try.prog 77 #[.agg #[.int .i64 v.t, c1, c2, c3], .pointer (some ⟨g, 0, none⟩)] w fun e w' => e = .returned (.bool (!isSeq v)) ∧ w.grownBy w' none := by
  obtain ⟨wa, hwa⟩ : ∃ wa, wa = w.alloc (.cells #[.int .i64 v.t, c1, c2, c3] 26) := ⟨_, rfl⟩
  have hgb : w.grownBy wa none := by rw [hwa]; exact gb_alloc (gb_refl w none) _
  have hq := cell_gb hg hgb
  rw [hwa] at hq
  have HC := hide (fun w2 => isSeq_any v c1 c2 c3 w2)
  have HG := hide hgb
  have HWE := hide hwa
  clear hwa hgb
  generalize isSeq v = b at *
  go_enter Try.func77, Try.ntmps77
  go_wp2_with (go_at_call 95; rw [← HWE.out]; refine (HC.out wa).mono ?_; rintro e w1 ⟨rfl, hg1⟩; have HG1 := hide hg1; clear hg1)
  go_ret
  exact ⟨rfl, gb_trans HG.out HG1.out (.inl rfl)⟩
def isSeqPost (l : List Vl) (w : World) (e : Ending) (w' : World) : Prop := ∃ r : Int, e = .returned (.int .i64 r) ∧ decide (0 ≤ r) = (l.any fun x => !isSeq x) ∧ w.grownBy w' none
set_option maxHeartbeats 4000000 in
set_option maxRecDepth 100000 in
theorem isSeq_idx (l : List Vl) (w : World) (B : Nat) (A : Option Addr) (c g : Nat) (hl : l.length ≤ 1100000) (hB : B ≤ w.heap.size) (h : RdV w B A l) (hg : w.cell? ⟨g, 0, none⟩ = some (.func (.func 95) #[] #[])) :
    Calls Try.prog 87 #[.slice A l.length c, .func (.func 77) #[] #[.pointer (some ⟨g, 0, none⟩)]] w (isSeqPost l w) := by
  have H := hide h
  have HB := hide hB
  have HGF := hide hg
  clear h hB hg
  go_enter Try.func87, Try.ntmps87
  go_wp2_with fail
  go_loopw [8] (fun i wr => ∃ j : Nat, i = .int .i64 (j : Int) ∧ j ≤ l.length ∧ Hid ((l.take j).any (fun x => !isSeq x) = false) ∧ w.grownBy wr none) (fun i _ => l.length - (intOf i).toNat)
  case atStart => exact ⟨0, rfl, Nat.zero_le _, hide (by simp), gb_refl w none⟩
  case round =>
    obtain ⟨j, rfl, hj, HE, hgr⟩ := hrel
    have HGR := hide hgr
    clear hgr
    by_cases hlt : j < l.length
    · have hlt1 : (j : Int) < (l.length : Int) := by omega
      obtain ⟨q, o, xA, xc, yA, yc, zA, zc, rfl, hqB, hc4, _⟩ := H.out.at_ hlt
      obtain ⟨d0, d1, d2, d3⟩ := hc4.gb HGR.out
      have HC := hide (isSeq_not l[j] (.slice xA l[j].n.length xc) (.slice yA l[j].s.length yc) (.slice zA l[j].l.length zc) g wr (cell_gb HGF.out HGR.out))
      have HL := hide (show l.take (j + 1) = l.take j ++ [l[j]] from List.take_succ_eq_append_getElem hlt)
      have HA : Hid (isSeq l[j] = false → (l.any fun x => !isSeq x) = true) := hide (fun h => List.any_eq_true.2 ⟨_, List.getElem_mem hlt, by rw [h]; rfl⟩)
      clear hc4
      cases hp : isSeq l[j]
      · rw [hp] at HC
        have HA2 := hide (HA.out hp)
        clear hp
        go_wp2_with (go_at_call 77; refine HC.out.mono ?_; rintro e w1 ⟨rfl, hg1⟩; have HG1 := hide hg1; clear hg1)
        go_ret
        exact ⟨j, rfl, by rw [HA2.out]; exact decide_eq_true (by omega), gb_trans HGR.out HG1.out (.inl rfl)⟩
      · rw [hp] at HC
        have HP := hide hp
        clear hp
        go_wp2_with (go_at_call 77; refine HC.out.mono ?_; rintro e w1 ⟨rfl, hg1⟩; have HG1 := hide hg1; clear hg1)
        go_roundw
        case rel => exact ⟨j + 1, by go_num, by omega, hide (by rw [HL.out, List.any_append, HE.out]; simp [HP.out]), gb_trans HGR.out HG1.out (.inl rfl)⟩
        case measure => simp [intOf]; omega
    · have hlt1 : ¬ (j : Int) < (l.length : Int) := by omega
      have HT := hide (show l.take j = l from List.take_of_length_le (by omega))
      go_wp2_with fail
      go_ret
      exact ⟨-1, rfl, by have := HE.out; rw [HT.out] at this; rw [this]; rfl, HGR.out⟩
set_option maxHeartbeats 4000000 in
set_option maxRecDepth 100000 in
theorem isSeq_all (l : List Vl) (w : World) (B : Nat) (A : Option Addr) (c : Nat) (hl : l.length ≤ 1100000) (hB : B ≤ w.heap.size) (h : RdV w B A l) :
    Calls Try.prog 46 #[.slice A l.length c, .func (.func 95) #[] #[]] w fun e w' => e = .returned (.bool (l.all isSeq)) ∧ w.grownBy w' none := by
  obtain ⟨wa, hwa⟩ : ∃ wa, wa = w.alloc (.cells #[.func (.func 95) #[] #[]] 37) := ⟨_, rfl⟩
  have hgb : w.grownBy wa none := by rw [hwa]; exact gb_alloc (gb_refl w none) _
  have hcf : wa.cell? ⟨w.heap.size, 0, none⟩ = some (.func (.func 95) #[] #[]) := by rw [hwa, blk_cell (heap_alloc_new w _)]; rfl
  have HI := hide (isSeq_idx l wa B A c w.heap.size hl (Nat.le_trans hB hgb.size) (h.gb hgb hB) hcf)
  have HAL := hide (show (l.any fun x => !isSeq x) = !l.all isSeq by rw [Bool.eq_iff_iff]; simp)
  have HG := hide hgb
  have HWE := hide hwa
  clear hwa hgb hcf h hB
  generalize l.all isSeq = b at *
  have HCN : Hid (Calls Try.prog 76 #[.slice A l.length c, .func (.func 77) #[] #[.pointer (some ⟨w.heap.size, 0, none⟩)]] wa fun e w' => e = .returned (.bool !b) ∧ wa.grownBy w' none) := hide (by
    go_enter Try.func76, Try.ntmps76
    go_wp2_with (go_at_call 87; refine HI.out.mono ?_; rintro e w1 ⟨r, rfl, hr, hg1⟩; have HR := hide hr; have HG1 := hide hg1; clear hr hg1)
    go_ret
    exact ⟨ret_b (by rw [← HAL.out, ← HR.out]), HG1.out⟩)
  clear HI
  go_enter Try.func46, Try.ntmps46
  go_wp2_with (go_at_call 76; rw [← HWE.out]; refine HCN.out.mono ?_; rintro e w1 ⟨rfl, hg1⟩; have HG1 := hide hg1; clear hg1)
  go_ret
  exact ⟨ret_b (by simp), gb_trans HG.out HG1.out (.inl rfl)⟩
end Go.Proofs.Ytniliccobkhnlaa
