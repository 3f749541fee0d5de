/-
  The law VecRounds, walked.
-/
import Derived.Test.YtgepejnooghjbaaGreatQaa
import Derived.Test.YtgepejnooghjbaaGreatQaf
import Derived.Test.YtgepejnooghjbaaGreatQac
import Derived.Test.YtgepejnooghjbaaGreatQai
import Derived.Test.YtgepejnooghjbaaGreatQaj
import Derived.Test.YtgepejnooghjbaaGreatChecked
import Derived.Laws.Bits128
import Derived.Deep.DrawnRows
import Derived.Deep.RegionLaw
import Derived.Deep.CutBlock
import Derived.Deep.DeepCutAuto
import Derived.Test.YtgepejnooghjbaaGreatQab
import Derived.Test.YtgepejnooghjbaaGreatQae
import Derived.Test.YtgepejnooghjbaaGreatQad

namespace Go.Proofs.YtgepejnooghjbaaGreat
open Go.RowKit
attribute [local go_sem ↓] Go.wp_at_zero Go.wp_at_succ

/-- How many are not null. -/
def nnI (l : List Int) : Nat := l.countP fun x => x != -9223372036854775808
theorem nnI_snoc (l : List Int) (x : Int) : nnI (l ++ [x]) = nnI l + if x = -9223372036854775808 then 0 else 1 := by
  unfold nnI
  rw [List.countP_append]
  by_cases h : x = -9223372036854775808 <;> simp [h]
theorem nnI_le (l : List Int) : nnI l ≤ l.length := List.countP_le_length
/-- Is the one ahead of the other? -/
def ahead (down : Bool) (a b : Int) : Prop := if down then b < a else a < b
instance (down : Bool) (a b : Int) : Decidable (ahead down a b) := by unfold ahead; infer_instance
/-- The place of the best one of the first k; -1 if all are null. -/
def bestN (down : Bool) (l : List Int) : Nat → Int
  | 0 => -1
  | k + 1 => if l.getD k 0 ≠ -9223372036854775808 ∧ (bestN down l k < 0 ∨ ahead down (l.getD k 0) (l.getD (bestN down l k).toNat 0)) then (k : Int) else bestN down l k
theorem bestN_in (down : Bool) (l : List Int) (k : Nat) : -1 ≤ bestN down l k ∧ bestN down l k < (k : Int) := by
  induction k with
  | zero => exact ⟨by show (-1 : Int) ≤ -1; decide, by show (-1 : Int) < ((0 : Nat) : Int); decide⟩
  | succ k ih =>
    unfold bestN
    split <;> omega
theorem vat_int {l : List Int} {w : World} {B : Nat} {nA : Option Addr} {nc : Nat} {sA : Option Addr} {sc : Nat} {lA : Option Addr} {lc : Nat} (h : VB w B (.mk 2 l [] []) nA nc sA sc lA lc) : Rd w B nA (i64s l) := h.n
theorem vow_ints {w : World} {t : Int} {l : List Int} {A : Option Addr} {c : Nat} {f : List Nat} (hlc : l.length ≤ c) (h : Own w f A (i64s l)) :
    VOw w (.mk t l [] []) [.int .i64 t, .slice A l.length c, .slice none 0 0, .slice none 0 0] f :=
  ⟨A, c, none, 0, none, 0, [], f, [], [], [], rfl, ⟨hlc, Nat.le_refl _, Nat.le_refl _⟩, ⟨h, .inl ⟨rfl, rfl⟩, .inl ⟨rfl, rfl⟩⟩, ⟨rfl, rfl⟩, by simp⟩
theorem Own.nodup' {w : World} {f : List Nat} {A : Option Addr} {xs : List Value} (h : Own w f A xs) : f.Nodup := by
  rcases h with ⟨_, rfl⟩ | ⟨b, _, _, rfl, _⟩ <;> simp
theorem newV_fin {x : Vl} {w wa w1 : World} {g : Nat} {xA : Option Addr} {xc : Nat} {yA : Option Addr} {yc : Nat} {zA : Option Addr} {zc : Nat} {f : List Nat} (h : VOw w1 x [.int .i64 x.t, .slice xA x.n.length xc, .slice yA x.s.length yc, .slice zA x.l.length zc] f) (hn : New wa w1 f) (hg : w.grownBy wa none) (hg1 : wa.grownBy w1 none) (hgs : w.heap.size ≤ g) (hga : g < wa.heap.size) :
    NewV x w (.returned (.agg #[.int .i64 x.t, .slice xA x.n.length xc, .slice yA x.s.length yc, .slice zA x.l.length zc])) (put4 w1 g 0 (.int .i64 x.t) (.slice xA x.n.length xc) (.slice yA x.s.length yc) (.slice zA x.l.length zc)) := by
  have s1 := hg1.size
  have s4 := put4_size w1 g 0 (.int .i64 x.t) (.slice xA x.n.length xc) (.slice yA x.s.length yc) (.slice zA x.l.length zc)
  refine ⟨xA, xc, yA, yc, zA, zc, f, rfl, VOw.keep _ _ _ h fun b hb => ?_, (hn.less hg.size).more (by omega), put4_to (gb_trans hg hg1 (.inl rfl)) hgs⟩
  have := hn.2 b hb
  exact (put4_gb w1 g 0 _ _ _ _).block b (by omega) (by intro e; injection e with e; omega)
theorem nullV_int (l : List Int) (j : Nat) (hj : j < l.length) : nullV (.mk 2 l [] []) (j : Int) = (l[j] == -9223372036854775808) := by
  unfold nullV
  rw [if_pos (.inl rfl), if_pos ⟨by omega, by show (j : Int) < (l.length : Int); omega⟩]
  show (l.getD j 0 == _) = _
  rw [List.getD_eq_getElem?_getD, List.getElem?_eq_getElem hj]
  rfl
set_option maxHeartbeats 4000000 in
set_option maxRecDepth 100000 in
theorem some_int (l : List Int) (w : World) (B : Nat) (nA : Option Addr) (nc : Nat) (sA : Option Addr) (sc : Nat) (lA : Option Addr) (lc : Nat) (ht : (Vl.mk 2 l [] []).tot ≤ 1100000) (hB : B ≤ w.heap.size) (h : VB w B (.mk 2 l [] []) nA nc sA sc lA lc) : Calls Tryz.prog 93 #[.agg #[.int .i64 2, .slice nA l.length nc, .slice sA 0 sc, .slice lA 0 lc]] w fun e w' => e = .returned (.int .i64 (nnI l : Nat)) ∧ w.grownBy w' none := by
  have hl : l.length ≤ 1100000 := (Vl.lens (.mk 2 l [] []) ht).1
  obtain ⟨wa, hwa⟩ : ∃ wa, wa = w.alloc (.cells #[.int .i64 2, .slice nA l.length nc, .slice sA 0 sc, .slice lA 0 lc] 26) := ⟨_, rfl⟩
  have bx : wa.heap[w.heap.size]? = some (.cells #[.int .i64 2, .slice nA l.length nc, .slice sA 0 sc, .slice lA 0 lc] 26 (0, 0)) := by rw [hwa]; exact heap_alloc_new w _
  have HBX := hide bx
  have HG := hide (show w.grownBy wa none by rw [hwa]; exact gb_alloc (gb_refl w none) _)
  have HWE := hide hwa
  have HCN : Hid (∀ w2, w.grownBy w2 none → Calls Tryz.prog 35 #[.agg #[.int .i64 2, .slice nA l.length nc, .slice sA 0 sc, .slice lA 0 lc]] w2 fun e w' => e = .returned (.int .i64 (l.length : Nat)) ∧ w2.grownBy w' none) := hide (fun w2 hg => count_d (Vl.mk 2 l [] []).depth (Vl.mk 2 l [] []) w2 B nA nc sA sc lA lc (Nat.le_refl _) ht (Nat.le_trans hB hg.size) (h.gb hg hB))
  have HNU : Hid (∀ w2 (j : Nat), w.grownBy w2 none → Calls Tryz.prog 138 #[.agg #[.int .i64 2, .slice nA l.length nc, .slice sA 0 sc, .slice lA 0 lc], .int .i64 (j : Int)] w2 fun e w' => e = .returned (.bool (nullV (.mk 2 l [] []) (j : Int))) ∧ w2.grownBy w' none) := hide (fun w2 j hg => vNull_num (.mk 2 l [] []) (j : Int) w2 B nA nc sA sc lA lc (.inl rfl) ht (Nat.le_trans hB hg.size) (h.gb hg hB))
  have HL := hide hl
  obtain ⟨c0, c1, c2, c3⟩ : C4 wa w.heap.size 0 (.int .i64 2) (.slice nA l.length nc) (.slice sA 0 sc) (.slice lA 0 lc) := (by have h := blk_keep HBX.out (gb_refl wa none) (by simp); exact ⟨by rw [blk_cell h]; rfl, by rw [blk_cell h]; rfl, by rw [blk_cell h]; rfl, by rw [blk_cell h]; rfl⟩)
  clear bx hwa h hB ht hl
  go_enter Tryz.func93, Tryz.ntmps93
  go_upto_region 1 with fail
  rw [← HWE.out]
  go_wp2_with (go_at_call 35; refine (HCN.out _ HG.out).mono ?_; rintro e w0 ⟨rfl, hg0⟩; have HG0 := hide hg0; clear hg0 c0 c1 c2 c3)
  go_loopw [3, 7] (fun n i wr => ∃ j : Nat, i = .int .i64 (j : Int) ∧ j ≤ l.length ∧ n = .int .i64 (nnI (l.take j) : Nat) ∧ wa.grownBy wr none) (fun _ i _ => l.length - (intOf i).toNat)
  case atStart => exact ⟨0, rfl, Nat.zero_le _, rfl, HG0.out⟩
  case round =>
    obtain ⟨j, rfl, hj, rfl, hgr⟩ := hrel
    obtain ⟨c0, c1, c2, c3⟩ : C4 wr w.heap.size 0 (.int .i64 2) (.slice nA l.length nc) (.slice sA 0 sc) (.slice lA 0 lc) := (by have h := blk_keep HBX.out hgr (by simp); exact ⟨by rw [blk_cell h]; rfl, by rw [blk_cell h]; rfl, by rw [blk_cell h]; rfl, by rw [blk_cell h]; rfl⟩)
    by_cases hlt : j < l.length
    · have hlt1 : (j : Int) < (l.length : Int) := by omega
      have h6 : IntKind.i64.wrap ((j : Int) + 1) = ((j + 1 : Nat) : Int) := by rw [IntKind.wrap_i64]; have := HL.out; omega
      have hnl := nnI_le (l.take j)
      rw [List.length_take] at hnl
      have h7 : IntKind.i64.wrap ((nnI (l.take j) : Int) + 1) = ((nnI (l.take j) + 1 : Nat) : Int) := by rw [IntKind.wrap_i64]; have := HL.out; omega
      have hsn : nnI (l.take (j + 1)) = nnI (l.take j) + if l[j] = -9223372036854775808 then 0 else 1 := by rw [List.take_succ_eq_append_getElem hlt, nnI_snoc]
      have hnu := HNU.out wr j (gb_trans HG.out hgr (.inl rfl))
      rw [nullV_int l j hlt] at hnu
      obtain ⟨p, hpe⟩ : ∃ p, p = l[j] := ⟨_, rfl⟩
      rw [← hpe] at hnu hsn
      have HGR := hide hgr
      have HLT := hide hlt
      generalize nnI (l.take j) = n0 at *
      by_cases hp : p = -9223372036854775808
      · rw [int_beq_t hp] at hnu
        rw [if_pos hp] at hsn
        have HSN := hide hsn
        have HNL := hide hnu
        clear hnu hsn hp hgr hlt hj hnl hpe h7
        go_wp2_with (go_at_call 138; refine HNL.out.mono ?_; rintro e w1 ⟨rfl, hg1⟩; have HG1 := hide hg1; clear hg1)
        go_roundw
        case rel => exact ⟨j + 1, by go_num, by have := HLT.out; omega, by rw [HSN.out]; rfl, gb_trans HGR.out HG1.out (.inl rfl)⟩
        case measure => have := HLT.out; simp [intOf]; omega
      · rw [int_beq_f hp] at hnu
        rw [if_neg hp] at hsn
        have HSN := hide hsn
        have HNL := hide hnu
        clear hnu hsn hp hgr hlt hj hnl hpe
        go_wp2_with (go_at_call 138; refine HNL.out.mono ?_; rintro e w1 ⟨rfl, hg1⟩; have HG1 := hide hg1; clear hg1)
        go_roundw
        case rel => exact ⟨j + 1, by go_num, by have := HLT.out; omega, by rw [HSN.out]; rfl, gb_trans HGR.out HG1.out (.inl rfl)⟩
        case measure => have := HLT.out; simp [intOf]; omega
    · have hlt1 : ¬ (j : Int) < (l.length : Int) := by omega
      have hle : l.take j = l := List.take_of_length_le (by omega)
      rw [hle] at *
      have HGR := hide hgr
      clear hgr hlt hj hle
      obtain ⟨n0, hn0⟩ : ∃ n0, n0 = nnI l := ⟨_, rfl⟩
      have HN0 := hide hn0
      rw [← hn0]
      clear hn0
      go_wp2_with fail
      exact bodyPost_ret (v := .int .i64 (n0 : Int)) (by simp [results, Tryz.results93, go_sem]) rfl ⟨by rw [HN0.out], gb_trans HG.out HGR.out (.inl rfl)⟩
set_option maxHeartbeats 4000000 in
set_option maxRecDepth 100000 in
theorem leadUp_int (l : List Int) (hI : ∀ k ∈ l, I64 k) (hl6 : l.length ≤ 1000000) (w : World) (B : Nat) (nA : Option Addr) (nc : Nat) (sA : Option Addr) (sc : Nat) (lA : Option Addr) (lc : Nat) (ht : (Vl.mk 2 l [] []).tot ≤ 1100000) (hB : B ≤ w.heap.size) (h : VB w B (.mk 2 l [] []) nA nc sA sc lA lc) : Calls Tryz.prog 95 #[.agg #[.int .i64 2, .slice nA l.length nc, .slice sA 0 sc, .slice lA 0 lc], .bool false] w (NewV (.mk 2 (((List.range l.length).map fun i => bestN false l (i + 1)).map (pickI l (-9223372036854775808))) [] []) w) := by
  have hl : l.length ≤ 1100000 := (Vl.lens (.mk 2 l [] []) ht).1
  obtain ⟨wa, hwa⟩ : ∃ wa, wa = (w.alloc (.cells #[.int .i64 2, .slice nA l.length nc, .slice sA 0 sc, .slice lA 0 lc] 26)).alloc (.cells #[.int .i64 0, .slice none 0 0, .slice none 0 0, .slice none 0 0] 26) := ⟨_, rfl⟩
  have bx : wa.heap[w.heap.size]? = some (.cells #[.int .i64 2, .slice nA l.length nc, .slice sA 0 sc, .slice lA 0 lc] 26 (0, 0)) := by rw [hwa]; exact (Below.heap_alloc _ _ _ (by rw [World.size_alloc]; omega)).trans (heap_alloc_new w _)
  have bz : wa.heap[w.heap.size + 1]? = some (.cells #[.int .i64 0, .slice none 0 0, .slice none 0 0, .slice none 0 0] 26 (0, 0)) := by rw [hwa]; have := heap_alloc_new (w.alloc (.cells #[.int .i64 2, .slice nA l.length nc, .slice sA 0 sc, .slice lA 0 lc] 26)) (.cells #[.int .i64 0, .slice none 0 0, .slice none 0 0, .slice none 0 0] 26); rwa [World.size_alloc] at this
  have HBX := hide bx
  have HBZ := hide bz
  have HSZ := hide (show wa.heap.size = w.heap.size + 2 by rw [hwa]; simp)
  have HG := hide (show w.grownBy wa none by rw [hwa]; exact gb_alloc (gb_alloc (gb_refl w none) _) _)
  have HWE := hide hwa
  have HCN : Hid (∀ w2, w.grownBy w2 none → Calls Tryz.prog 35 #[.agg #[.int .i64 2, .slice nA l.length nc, .slice sA 0 sc, .slice lA 0 lc]] w2 fun e w' => e = .returned (.int .i64 (l.length : Nat)) ∧ w2.grownBy w' none) := hide (fun w2 hg => count_d (Vl.mk 2 l [] []).depth (Vl.mk 2 l [] []) w2 B nA nc sA sc lA lc (Nat.le_refl _) ht (Nat.le_trans hB hg.size) (h.gb hg hB))
  have HNU : Hid (∀ w2 (j : Nat), w.grownBy w2 none → Calls Tryz.prog 138 #[.agg #[.int .i64 2, .slice nA l.length nc, .slice sA 0 sc, .slice lA 0 lc], .int .i64 (j : Int)] w2 fun e w' => e = .returned (.bool (nullV (.mk 2 l [] []) (j : Int))) ∧ w2.grownBy w' none) := hide (fun w2 j hg => vNull_num (.mk 2 l [] []) (j : Int) w2 B nA nc sA sc lA lc (.inl rfl) ht (Nat.le_trans hB hg.size) (h.gb hg hB))
  have HL := hide hl
  have HV := hide h
  have HBB := hide hB
  have HT := hide ht
  have HI64 := hide hI
  have HL6 := hide hl6
  obtain ⟨i1, hi1, hiz, his, hib⟩ := info_parts Tryz.info64
  have HI1 := hide hi1
  have HIZ := hide hiz
  have HIS := hide his
  have HIB := hide hib
  clear hi1 hiz his hib
  obtain ⟨c0, c1, c2, c3⟩ : C4 wa w.heap.size 0 (.int .i64 2) (.slice nA l.length nc) (.slice sA 0 sc) (.slice lA 0 lc) := (by have h := blk_keep HBX.out (gb_refl wa none) (by simp); exact ⟨by rw [blk_cell h]; rfl, by rw [blk_cell h]; rfl, by rw [blk_cell h]; rfl, by rw [blk_cell h]; rfl⟩)
  clear bx bz hwa h hB ht hl hI hl6
  go_enter Tryz.func95, Tryz.ntmps95
  go_upto_region 1 with fail
  rw [← HWE.out]
  go_wp2_with (first
    | (go_at_call 49; refine (ordUp_any l wa nA nc sA sc lA lc).mono ?_; rintro e w1 ⟨rfl, hb1, hg1⟩; have HB1 := hide hb1; have HG1 := hide hg1; clear hb1 hg1 c0 c1 c2 c3; obtain ⟨c0, c1, c2, c3⟩ : C4 w1 w.heap.size 0 (.int .i64 2) (.slice nA l.length nc) (.slice sA 0 sc) (.slice lA 0 lc) := (by have h := blk_keep HBX.out HG1.out (by simp); exact ⟨by rw [blk_cell h]; rfl, by rw [blk_cell h]; rfl, by rw [blk_cell h]; rfl, by rw [blk_cell h]; rfl⟩))
    | (go_at_call 35; refine (HCN.out _ (gb_trans HG.out HG1.out (.inl rfl))).mono ?_; rintro e w2 ⟨rfl, hg2⟩; have HG2 := hide (gb_trans HG1.out hg2 (.inl rfl)); have HG12 := hide hg2; clear hg2; obtain ⟨w3, hmk, hown, hg3⟩ := run_make_full (P := Tryz.prog) w2 w2.heap.size 22 2 i1 (.int .i64 0) 1 Tryz.underlying22 HI1.out HIZ.out HIS.out .i64 .i64 l.length (by rw [HIB.out]; have := HL.out; omega) (by unfold maxLen; have := HL.out; omega) (Nat.le_refl _); rw [show (madeCells (Value.int .i64 0).cells (l.length * 1)).toList = List.replicate l.length (.int .i64 0) by rw [Nat.mul_one]; exact toList_madeCells_one _ l.length] at hown; have HOWN := hide hown; have HG3 := hide hg3; clear hown hg3 c0 c1 c2 c3))
  clear hmk
  go_loopw [7, 19] (fun be i wr => ∃ j : Nat, i = .int .i64 (j : Int) ∧ j ≤ l.length ∧ be = .int .i64 (bestN false l j) ∧
    wr.ownsRow w2.heap.size 2 1 (.slice (some ⟨w2.heap.size, 0, none⟩) l.length l.length) l.length (i64s ((List.range j).map fun i => bestN false l (i + 1)) ++ List.replicate (l.length - j) (.int .i64 0)) ∧ w2.grownBy wr none) (fun _ i _ => l.length - (intOf i).toNat)
  case atStart => exact ⟨0, rfl, Nat.zero_le _, rfl, by simpa [i64s] using HOWN.out, HG3.out⟩
  case round =>
    obtain ⟨j, rfl, hj, rfl, how, hgr⟩ := hrel
    have hga := gb_trans HG2.out hgr (.inl rfl)
    obtain ⟨c0, c1, c2, c3⟩ : C4 wr w.heap.size 0 (.int .i64 2) (.slice nA l.length nc) (.slice sA 0 sc) (.slice lA 0 lc) := (by have h := blk_keep HBX.out hga (by simp); exact ⟨by rw [blk_cell h]; rfl, by rw [blk_cell h]; rfl, by rw [blk_cell h]; rfl, by rw [blk_cell h]; rfl⟩)
    by_cases hlt : j < l.length
    · have hlt1 : (j : Int) < (l.length : Int) := by omega
      have h6 : IntKind.i64.wrap ((j : Int) + 1) = ((j + 1 : Nat) : Int) := by rw [IntKind.wrap_i64]; have := HL.out; omega
      have hnu := HNU.out wr j (gb_trans HG.out hga (.inl rfl))
      rw [nullV_int l j hlt] at hnu
      obtain ⟨p, hpe⟩ : ∃ p, p = l[j] := ⟨_, rfl⟩
      rw [← hpe] at hnu
      have hgd : l.getD j 0 = p := by rw [List.getD_eq_getElem?_getD, List.getElem?_eq_getElem hlt, hpe]; rfl
      have hbs : bestN false l (j + 1) = if p ≠ -9223372036854775808 ∧ (bestN false l j < 0 ∨ ahead false p (l.getD (bestN false l j).toNat 0)) then (j : Int) else bestN false l j := by rw [← hgd]; rfl
      have HRN := hide (show (List.range (j + 1)).map (fun i => bestN false l (i + 1)) = (List.range j).map (fun i => bestN false l (i + 1)) ++ [bestN false l (j + 1)] by rw [List.range_succ, List.map_append]; rfl)
      have hbi := bestN_in false l j
      obtain ⟨b1, hb1⟩ : ∃ b1, b1 = bestN false l j := ⟨_, rfl⟩
      rw [← hb1] at hbs hbi ⊢
      clear hb1
      have hlen : ((List.range j).map fun i => bestN false l (i + 1)).length = j := by simp
      obtain ⟨done, hdone⟩ : ∃ d, d = (List.range j).map (fun i => bestN false l (i + 1)) := ⟨_, rfl⟩
      rw [← hdone] at how HRN hlen
      clear hdone
      have HLEN := hide hlen
      have HO5 := hide how
      have HGR := hide hgr
      have HLT := hide hlt
      have hil : (i64s done).length = j := by unfold i64s; rw [List.length_map]; exact hlen
      have HIL := hide hil
      have HSTEP := hide (fun (w4 : World) (how4 : w4.ownsRow w2.heap.size 2 1 (.slice (some ⟨w2.heap.size, 0, none⟩) l.length l.length) l.length (i64s done ++ List.replicate (l.length - j) (.int .i64 0))) => show w4.cell? ⟨w2.heap.size, j, none⟩ = some (.int .i64 0) ∧ w4.frozen? ⟨w2.heap.size, j, none⟩ = false from by
        have c5 := how4.cellAt j (by omega)
        rw [List.getElem?_append_right (by rw [hil]; exact Nat.le_refl _), hil, Nat.sub_self, List.getElem?_replicate, if_pos (by omega)] at c5
        have z5 := how4.frozenAt j
        constructor
        · simpa using c5
        · simpa using z5)
      by_cases hp : p = -9223372036854775808
      · rw [int_beq_t hp] at hnu
        rw [if_neg (fun h => h.1 hp)] at hbs
        have HNL := hide hnu
        have HB2 := hide hbs
        clear hnu hbs hp how hgr hga hlt hj hlen hil hpe hgd hbi
        go_wp2_with (go_at_call 138; refine HNL.out.mono ?_; rintro e w4 ⟨rfl, hg4⟩; have HG4 := hide hg4; have HO4 := hide (HO5.out.kept hg4 (by cases (Value.slice (some ⟨w2.heap.size, 0, none⟩) l.length l.length).ownBlock <;> simp)); have hst := HSTEP.out w4 HO4.out; have c5 := hst.1; have z5 := hst.2; clear hg4 hst c0 c1 c2 c3)
        go_roundw
        case rel =>
          have hlt := HLT.out
          refine ⟨j + 1, by go_num, by omega, by rw [HB2.out], ?_, gb_setCell (gb_trans HGR.out HG4.out (.inl rfl)) (.inr (Nat.le_refl _)) _⟩
          have h1 := (HO4.out.stored j (.int .i64 b1)).1
          obtain ⟨k2, hk2⟩ : ∃ k, l.length - j = k + 1 := ⟨l.length - j - 1, by omega⟩
          rw [hk2] at h1
          have h2 := i64s_set_mid done b1 k2
          rw [HLEN.out] at h2
          rw [h2] at h1
          rw [show l.length - (j + 1) = k2 by omega, HRN.out, HB2.out]
          exact h1
        case measure => have := HLT.out; simp [intOf]; omega
      · rw [int_beq_f hp] at hnu
        have HNL := hide hnu
        by_cases hneg : b1 < 0
        · rw [if_pos ⟨hp, .inl hneg⟩] at hbs
          have HB2 := hide hbs
          clear hnu hbs hp how hgr hga hlt hj hlen hil hpe hgd hbi
          go_wp2_with (go_at_call 138; refine HNL.out.mono ?_; rintro e w4 ⟨rfl, hg4⟩; have HG4 := hide hg4; have HO4 := hide (HO5.out.kept hg4 (by cases (Value.slice (some ⟨w2.heap.size, 0, none⟩) l.length l.length).ownBlock <;> simp)); have hst := HSTEP.out w4 HO4.out; have c5 := hst.1; have z5 := hst.2; clear hg4 hst c0 c1 c2 c3)
          go_roundw
          case rel =>
            have hlt := HLT.out
            refine ⟨j + 1, by go_num, by omega, by rw [HB2.out], ?_, gb_setCell (gb_trans HGR.out HG4.out (.inl rfl)) (.inr (Nat.le_refl _)) _⟩
            have h1 := (HO4.out.stored j (.int .i64 (j : Int))).1
            obtain ⟨k2, hk2⟩ : ∃ k, l.length - j = k + 1 := ⟨l.length - j - 1, by omega⟩
            rw [hk2] at h1
            have h2 := i64s_set_mid done (j : Int) k2
            rw [HLEN.out] at h2
            rw [h2] at h1
            rw [show l.length - (j + 1) = k2 by omega, HRN.out, HB2.out]
            exact h1
          case measure => have := HLT.out; simp [intOf]; omega
        · obtain ⟨k, rfl⟩ : ∃ k : Nat, b1 = (k : Int) := ⟨b1.toNat, by omega⟩
          have hk : k < l.length := by omega
          have hgk : l.getD (k : Int).toNat 0 = l[k] := by rw [Int.toNat_natCast, List.getD_eq_getElem?_getD, List.getElem?_eq_getElem hk]; rfl
          rw [hgk] at hbs
          have HOR := hide (fun (w4 : World) (hg4 : wr.grownBy w4 none) => ord4_any l j k w4 wa.heap.size B nA nc sA sc lA lc hlt hk (blk_keep HB1.out (gb_trans HG12.out (gb_trans hgr hg4 (.inl rfl)) (.inl rfl)) (by simp)) (vat_int (HV.out.gb (gb_trans HG.out (gb_trans hga hg4 (.inl rfl)) (.inl rfl)) HBB.out)))
          rw [← hpe] at HOR
          obtain ⟨q9, hq9⟩ : ∃ q9, q9 = l[k] := ⟨_, rfl⟩
          rw [← hq9] at HOR hbs
          by_cases hah : p < q9
          · rw [if_pos ⟨hp, .inr hah⟩] at hbs
            have HB2 := hide hbs
            obtain ⟨r, hr⟩ : ∃ r, r = cmpI p q9 := ⟨_, rfl⟩
            rw [← hr] at HOR
            have hr0 : r < 0 := by rw [hr]; unfold cmpI; rw [if_pos hah]; decide
            clear hnu hbs hp how hgr hga hlt hj hlen hil hpe hgd hbi hah hr hq9 hgk hk
            go_wp2_with (first
              | (go_at_call 138; refine HNL.out.mono ?_; rintro e w4 ⟨rfl, hg4⟩; have HG4 := hide hg4; have HO4 := hide (HO5.out.kept hg4 (by cases (Value.slice (some ⟨w2.heap.size, 0, none⟩) l.length l.length).ownBlock <;> simp)); have hst := HSTEP.out w4 HO4.out; have c5 := hst.1; have z5 := hst.2; clear hg4 hst c0 c1 c2 c3)
              | (go_at_call 83; refine (HOR.out _ HG4.out).mono ?_; rintro e w5 ⟨rfl, hg5⟩; have HG5 := hide (gb_trans HG4.out hg5 (.inl rfl)); have HO55 := hide (HO4.out.kept hg5 (by cases (Value.slice (some ⟨w2.heap.size, 0, none⟩) l.length l.length).ownBlock <;> simp)); have hst := HSTEP.out w5 HO55.out; clear c5 z5; have c5 := hst.1; have z5 := hst.2; clear hg5 hst))
            go_roundw
            case rel =>
              have hlt := HLT.out
              refine ⟨j + 1, by go_num, by omega, by rw [HB2.out], ?_, gb_setCell (gb_trans HGR.out HG5.out (.inl rfl)) (.inr (Nat.le_refl _)) _⟩
              have h1 := (HO55.out.stored j (.int .i64 (j : Int))).1
              obtain ⟨k2, hk2⟩ : ∃ k, l.length - j = k + 1 := ⟨l.length - j - 1, by omega⟩
              rw [hk2] at h1
              have h2 := i64s_set_mid done (j : Int) k2
              rw [HLEN.out] at h2
              rw [h2] at h1
              rw [show l.length - (j + 1) = k2 by omega, HRN.out, HB2.out]
              exact h1
            case measure => have := HLT.out; simp [intOf]; omega
          · rw [if_neg (fun h => h.2.elim hneg hah)] at hbs
            have HB2 := hide hbs
            obtain ⟨r, hr⟩ : ∃ r, r = cmpI p q9 := ⟨_, rfl⟩
            rw [← hr] at HOR
            have hr0 : ¬ r < 0 := by rw [hr]; unfold cmpI; rw [if_neg hah]; split <;> omega
            clear hnu hbs hp how hgr hga hlt hj hlen hil hpe hgd hbi hah hr hq9 hgk hk
            go_wp2_with (first
              | (go_at_call 138; refine HNL.out.mono ?_; rintro e w4 ⟨rfl, hg4⟩; have HG4 := hide hg4; have HO4 := hide (HO5.out.kept hg4 (by cases (Value.slice (some ⟨w2.heap.size, 0, none⟩) l.length l.length).ownBlock <;> simp)); have hst := HSTEP.out w4 HO4.out; have c5 := hst.1; have z5 := hst.2; clear hg4 hst c0 c1 c2 c3)
              | (go_at_call 83; refine (HOR.out _ HG4.out).mono ?_; rintro e w5 ⟨rfl, hg5⟩; have HG5 := hide (gb_trans HG4.out hg5 (.inl rfl)); have HO55 := hide (HO4.out.kept hg5 (by cases (Value.slice (some ⟨w2.heap.size, 0, none⟩) l.length l.length).ownBlock <;> simp)); have hst := HSTEP.out w5 HO55.out; clear c5 z5; have c5 := hst.1; have z5 := hst.2; clear hg5 hst))
            go_roundw
            case rel =>
              have hlt := HLT.out
              refine ⟨j + 1, by go_num, by omega, by rw [HB2.out], ?_, gb_setCell (gb_trans HGR.out HG5.out (.inl rfl)) (.inr (Nat.le_refl _)) _⟩
              have h1 := (HO55.out.stored j (.int .i64 (k : Int))).1
              obtain ⟨k2, hk2⟩ : ∃ k, l.length - j = k + 1 := ⟨l.length - j - 1, by omega⟩
              rw [hk2] at h1
              have h2 := i64s_set_mid done (k : Int) k2
              rw [HLEN.out] at h2
              rw [h2] at h1
              rw [show l.length - (j + 1) = k2 by omega, HRN.out, HB2.out]
              exact h1
            case measure => have := HLT.out; simp [intOf]; omega
    · have hlt1 : ¬ (j : Int) < (l.length : Int) := by omega
      have hjl : j = l.length := by omega
      subst hjl
      rw [Nat.sub_self, List.replicate_zero, List.append_nil] at how
      obtain ⟨ps, hps⟩ : ∃ ps, ps = (List.range l.length).map (fun i => bestN false l (i + 1)) := ⟨_, rfl⟩
      have hpl : ps.length = l.length := by rw [hps]; simp
      rw [← hps] at how
      have hix := index_ints (.mk 2 l [] []) ps wr B nA nc sA sc lA lc (some ⟨w2.heap.size, 0, none⟩) l.length ⟨.inl rfl, HL6.out, HI64.out, HT.out⟩ rfl (by have := HBB.out; have := HG.out.size; have := hga.size; omega) (HV.out.gb (gb_trans HG.out hga (.inl rfl)) HBB.out) (Rd.of_own how) (by rw [hpl]; exact HL.out)
      rw [hpl] at hix
      obtain ⟨ls, hls⟩ : ∃ ls, ls = ps.map (pickI l (-9223372036854775808)) := ⟨_, rfl⟩
      have HIX := hide (show Calls Tryz.prog 67 #[.agg #[.int .i64 2, .slice nA l.length nc, .slice sA 0 sc, .slice lA 0 lc], .slice (some ⟨w2.heap.size, 0, none⟩) l.length l.length] wr (DoR (.ok (2, ls)) wr) by rw [hls]; exact hix)
      have HLS := hide (show ((List.range l.length).map fun i => bestN false l (i + 1)).map (pickI l (-9223372036854775808)) = ls by rw [hls, hps])
      have HGA := hide hga
      clear how hgr hga hlt hj hix hls hps hpl
      go_upto_region 12 with (go_at_call 67; refine HIX.out.mono ?_; rintro e w5 ⟨hg5, A5, c5, hle5, rfl, how5⟩; have HG5 := hide hg5; have HOW5 := hide how5; have HLE5 := hide hle5; clear hg5 how5 hle5 c0 c1 c2 c3)
      obtain ⟨w6, hw6⟩ : ∃ w6, w6 = w5.alloc (.cells #[.int .i64 2, .slice A5 ls.length c5, .slice none 0 0, .slice none 0 0] 26) := ⟨_, rfl⟩
      rw [← hw6]
      have hb6 : w6.heap[w5.heap.size]? = some (.cells #[.int .i64 2, .slice A5 ls.length c5, .slice none 0 0, .slice none 0 0] 26 (0, 0)) := by rw [hw6]; exact heap_alloc_new w5 _
      have HG6 := hide (show w5.grownBy w6 none by rw [hw6]; exact gb_alloc (gb_refl w5 none) _)
      clear hw6
      obtain ⟨x0, x1, x2, x3⟩ : C4 w6 w5.heap.size 0 (.int .i64 2) (.slice A5 ls.length c5) (.slice none 0 0) (.slice none 0 0) := ⟨by rw [blk_cell hb6]; rfl, by rw [blk_cell hb6]; rfl, by rw [blk_cell hb6]; rfl, by rw [blk_cell hb6]; rfl⟩
      have hrr := blk_keep HBZ.out (gb_trans HGA.out (gb_trans HG5.out HG6.out (.inl rfl)) (.inl rfl)) (by simp)
      have HRR := hide hrr
      have z0 := blk_frozen hrr 0
      have z1 := blk_frozen hrr 1
      have z2 := blk_frozen hrr 2
      have z3 := blk_frozen hrr 3
      have y0 : w6.cell? ⟨w.heap.size + 1, 0, none⟩ = some (.int .i64 0) := (by { rw [blk_cell hrr]; rfl })
      have y1 : w6.cell? ⟨w.heap.size + 1, 1, none⟩ = some (.slice none 0 0) := (by { rw [blk_cell hrr]; rfl })
      have y2 : w6.cell? ⟨w.heap.size + 1, 2, none⟩ = some (.slice none 0 0) := (by { rw [blk_cell hrr]; rfl })
      have y3 : w6.cell? ⟨w.heap.size + 1, 3, none⟩ = some (.slice none 0 0) := (by { rw [blk_cell hrr]; rfl })
      clear hrr
      clear hb6
      obtain ⟨f, hof, hfb⟩ := Own.of_row HOW5.out
      have HFIN := newV_fin (x := .mk 2 ls [] []) (wa := wr) (g := w.heap.size + 1) (vow_ints HLE5.out (hof.gb HG6.out)) ⟨hof.nodup', fun b hb => ⟨(hfb b hb).1, Nat.lt_of_lt_of_le (hfb b hb).2 HG6.out.size⟩⟩ (gb_trans HG.out HGA.out (.inl rfl)) (gb_trans HG5.out HG6.out (.inl rfl)) (Nat.le_succ _) (by have := HSZ.out; have := HGA.out.size; omega)
      clear hof hfb
      go_wp2_with fail
      obtain ⟨m0, m1, m2, m3⟩ := C4.put HRR.out (.int .i64 2) (.slice A5 ls.length c5) (.slice none 0 0) (.slice none 0 0)
      simp only [put4, Nat.zero_add] at m0 m1 m2 m3
      refine bodyPost_ret (v := .agg #[.int .i64 2, .slice A5 ls.length c5, .slice none 0 0, .slice none 0 0]) (by simp [results, Tryz.results95, go_sem, m0, m1, m2, m3]) rfl ?_
      rw [HLS.out]
      exact HFIN
set_option maxHeartbeats 4000000 in
set_option maxRecDepth 100000 in
theorem leadDn_int (l : List Int) (hI : ∀ k ∈ l, I64 k) (hl6 : l.length ≤ 1000000) (w : World) (B : Nat) (nA : Option Addr) (nc : Nat) (sA : Option Addr) (sc : Nat) (lA : Option Addr) (lc : Nat) (ht : (Vl.mk 2 l [] []).tot ≤ 1100000) (hB : B ≤ w.heap.size) (h : VB w B (.mk 2 l [] []) nA nc sA sc lA lc) : Calls Tryz.prog 95 #[.agg #[.int .i64 2, .slice nA l.length nc, .slice sA 0 sc, .slice lA 0 lc], .bool true] w (NewV (.mk 2 (((List.range l.length).map fun i => bestN true l (i + 1)).map (pickI l (-9223372036854775808))) [] []) w) := by
  have hl : l.length ≤ 1100000 := (Vl.lens (.mk 2 l [] []) ht).1
  obtain ⟨wa, hwa⟩ : ∃ wa, wa = (w.alloc (.cells #[.int .i64 2, .slice nA l.length nc, .slice sA 0 sc, .slice lA 0 lc] 26)).alloc (.cells #[.int .i64 0, .slice none 0 0, .slice none 0 0, .slice none 0 0] 26) := ⟨_, rfl⟩
  have bx : wa.heap[w.heap.size]? = some (.cells #[.int .i64 2, .slice nA l.length nc, .slice sA 0 sc, .slice lA 0 lc] 26 (0, 0)) := by rw [hwa]; exact (Below.heap_alloc _ _ _ (by rw [World.size_alloc]; omega)).trans (heap_alloc_new w _)
  have bz : wa.heap[w.heap.size + 1]? = some (.cells #[.int .i64 0, .slice none 0 0, .slice none 0 0, .slice none 0 0] 26 (0, 0)) := by rw [hwa]; have := heap_alloc_new (w.alloc (.cells #[.int .i64 2, .slice nA l.length nc, .slice sA 0 sc, .slice lA 0 lc] 26)) (.cells #[.int .i64 0, .slice none 0 0, .slice none 0 0, .slice none 0 0] 26); rwa [World.size_alloc] at this
  have HBX := hide bx
  have HBZ := hide bz
  have HSZ := hide (show wa.heap.size = w.heap.size + 2 by rw [hwa]; simp)
  have HG := hide (show w.grownBy wa none by rw [hwa]; exact gb_alloc (gb_alloc (gb_refl w none) _) _)
  have HWE := hide hwa
  have HCN : Hid (∀ w2, w.grownBy w2 none → Calls Tryz.prog 35 #[.agg #[.int .i64 2, .slice nA l.length nc, .slice sA 0 sc, .slice lA 0 lc]] w2 fun e w' => e = .returned (.int .i64 (l.length : Nat)) ∧ w2.grownBy w' none) := hide (fun w2 hg => count_d (Vl.mk 2 l [] []).depth (Vl.mk 2 l [] []) w2 B nA nc sA sc lA lc (Nat.le_refl _) ht (Nat.le_trans hB hg.size) (h.gb hg hB))
  have HNU : Hid (∀ w2 (j : Nat), w.grownBy w2 none → Calls Tryz.prog 138 #[.agg #[.int .i64 2, .slice nA l.length nc, .slice sA 0 sc, .slice lA 0 lc], .int .i64 (j : Int)] w2 fun e w' => e = .returned (.bool (nullV (.mk 2 l [] []) (j : Int))) ∧ w2.grownBy w' none) := hide (fun w2 j hg => vNull_num (.mk 2 l [] []) (j : Int) w2 B nA nc sA sc lA lc (.inl rfl) ht (Nat.le_trans hB hg.size) (h.gb hg hB))
  have HL := hide hl
  have HV := hide h
  have HBB := hide hB
  have HT := hide ht
  have HI64 := hide hI
  have HL6 := hide hl6
  obtain ⟨i1, hi1, hiz, his, hib⟩ := info_parts Tryz.info64
  have HI1 := hide hi1
  have HIZ := hide hiz
  have HIS := hide his
  have HIB := hide hib
  clear hi1 hiz his hib
  obtain ⟨c0, c1, c2, c3⟩ : C4 wa w.heap.size 0 (.int .i64 2) (.slice nA l.length nc) (.slice sA 0 sc) (.slice lA 0 lc) := (by have h := blk_keep HBX.out (gb_refl wa none) (by simp); exact ⟨by rw [blk_cell h]; rfl, by rw [blk_cell h]; rfl, by rw [blk_cell h]; rfl, by rw [blk_cell h]; rfl⟩)
  clear bx bz hwa h hB ht hl hI hl6
  go_enter Tryz.func95, Tryz.ntmps95
  go_upto_region 1 with fail
  rw [← HWE.out]
  go_wp2_with (first
    | (go_at_call 49; refine (ordDn_any l wa nA nc sA sc lA lc).mono ?_; rintro e w1 ⟨b, q, rfl, hq1, hb1, hg1⟩; have HQ1 := hide hq1; have HB1 := hide hb1; have HG1 := hide hg1; clear hq1 hb1 hg1 c0 c1 c2 c3; obtain ⟨c0, c1, c2, c3⟩ : C4 w1 w.heap.size 0 (.int .i64 2) (.slice nA l.length nc) (.slice sA 0 sc) (.slice lA 0 lc) := (by have h := blk_keep HBX.out HG1.out (by simp); exact ⟨by rw [blk_cell h]; rfl, by rw [blk_cell h]; rfl, by rw [blk_cell h]; rfl, by rw [blk_cell h]; rfl⟩))
    | (go_at_call 35; refine (HCN.out _ (gb_trans HG.out HG1.out (.inl rfl))).mono ?_; rintro e w2 ⟨rfl, hg2⟩; have HG2 := hide (gb_trans HG1.out hg2 (.inl rfl)); have HG12 := hide hg2; clear hg2; obtain ⟨w3, hmk, hown, hg3⟩ := run_make_full (P := Tryz.prog) w2 w2.heap.size 22 2 i1 (.int .i64 0) 1 Tryz.underlying22 HI1.out HIZ.out HIS.out .i64 .i64 l.length (by rw [HIB.out]; have := HL.out; omega) (by unfold maxLen; have := HL.out; omega) (Nat.le_refl _); rw [show (madeCells (Value.int .i64 0).cells (l.length * 1)).toList = List.replicate l.length (.int .i64 0) by rw [Nat.mul_one]; exact toList_madeCells_one _ l.length] at hown; have HOWN := hide hown; have HG3 := hide hg3; clear hown hg3 c0 c1 c2 c3))
  clear hmk
  go_loopw [7, 19] (fun be i wr => ∃ j : Nat, i = .int .i64 (j : Int) ∧ j ≤ l.length ∧ be = .int .i64 (bestN true l j) ∧
    wr.ownsRow w2.heap.size 2 1 (.slice (some ⟨w2.heap.size, 0, none⟩) l.length l.length) l.length (i64s ((List.range j).map fun i => bestN true l (i + 1)) ++ List.replicate (l.length - j) (.int .i64 0)) ∧ w2.grownBy wr none) (fun _ i _ => l.length - (intOf i).toNat)
  case atStart => exact ⟨0, rfl, Nat.zero_le _, rfl, by simpa [i64s] using HOWN.out, HG3.out⟩
  case round =>
    obtain ⟨j, rfl, hj, rfl, how, hgr⟩ := hrel
    have hga := gb_trans HG2.out hgr (.inl rfl)
    obtain ⟨c0, c1, c2, c3⟩ : C4 wr w.heap.size 0 (.int .i64 2) (.slice nA l.length nc) (.slice sA 0 sc) (.slice lA 0 lc) := (by have h := blk_keep HBX.out hga (by simp); exact ⟨by rw [blk_cell h]; rfl, by rw [blk_cell h]; rfl, by rw [blk_cell h]; rfl, by rw [blk_cell h]; rfl⟩)
    by_cases hlt : j < l.length
    · have hlt1 : (j : Int) < (l.length : Int) := by omega
      have h6 : IntKind.i64.wrap ((j : Int) + 1) = ((j + 1 : Nat) : Int) := by rw [IntKind.wrap_i64]; have := HL.out; omega
      have hnu := HNU.out wr j (gb_trans HG.out hga (.inl rfl))
      rw [nullV_int l j hlt] at hnu
      obtain ⟨p, hpe⟩ : ∃ p, p = l[j] := ⟨_, rfl⟩
      rw [← hpe] at hnu
      have hgd : l.getD j 0 = p := by rw [List.getD_eq_getElem?_getD, List.getElem?_eq_getElem hlt, hpe]; rfl
      have hbs : bestN true l (j + 1) = if p ≠ -9223372036854775808 ∧ (bestN true l j < 0 ∨ ahead true p (l.getD (bestN true l j).toNat 0)) then (j : Int) else bestN true l j := by rw [← hgd]; rfl
      have HRN := hide (show (List.range (j + 1)).map (fun i => bestN true l (i + 1)) = (List.range j).map (fun i => bestN true l (i + 1)) ++ [bestN true l (j + 1)] by rw [List.range_succ, List.map_append]; rfl)
      have hbi := bestN_in true l j
      obtain ⟨b1, hb1⟩ : ∃ b1, b1 = bestN true l j := ⟨_, rfl⟩
      rw [← hb1] at hbs hbi ⊢
      clear hb1
      have hlen : ((List.range j).map fun i => bestN true l (i + 1)).length = j := by simp
      obtain ⟨done, hdone⟩ : ∃ d, d = (List.range j).map (fun i => bestN true l (i + 1)) := ⟨_, rfl⟩
      rw [← hdone] at how HRN hlen
      clear hdone
      have HLEN := hide hlen
      have HO5 := hide how
      have HGR := hide hgr
      have HLT := hide hlt
      have hil : (i64s done).length = j := by unfold i64s; rw [List.length_map]; exact hlen
      have HIL := hide hil
      have HSTEP := hide (fun (w4 : World) (how4 : w4.ownsRow w2.heap.size 2 1 (.slice (some ⟨w2.heap.size, 0, none⟩) l.length l.length) l.length (i64s done ++ List.replicate (l.length - j) (.int .i64 0))) => show w4.cell? ⟨w2.heap.size, j, none⟩ = some (.int .i64 0) ∧ w4.frozen? ⟨w2.heap.size, j, none⟩ = false from by
        have c5 := how4.cellAt j (by omega)
        rw [List.getElem?_append_right (by rw [hil]; exact Nat.le_refl _), hil, Nat.sub_self, List.getElem?_replicate, if_pos (by omega)] at c5
        have z5 := how4.frozenAt j
        constructor
        · simpa using c5
        · simpa using z5)
      by_cases hp : p = -9223372036854775808
      · rw [int_beq_t hp] at hnu
        rw [if_neg (fun h => h.1 hp)] at hbs
        have HNL := hide hnu
        have HB2 := hide hbs
        clear hnu hbs hp how hgr hga hlt hj hlen hil hpe hgd hbi
        go_wp2_with (go_at_call 138; refine HNL.out.mono ?_; rintro e w4 ⟨rfl, hg4⟩; have HG4 := hide hg4; have HO4 := hide (HO5.out.kept hg4 (by cases (Value.slice (some ⟨w2.heap.size, 0, none⟩) l.length l.length).ownBlock <;> simp)); have hst := HSTEP.out w4 HO4.out; have c5 := hst.1; have z5 := hst.2; clear hg4 hst c0 c1 c2 c3)
        go_roundw
        case rel =>
          have hlt := HLT.out
          refine ⟨j + 1, by go_num, by omega, by rw [HB2.out], ?_, gb_setCell (gb_trans HGR.out HG4.out (.inl rfl)) (.inr (Nat.le_refl _)) _⟩
          have h1 := (HO4.out.stored j (.int .i64 b1)).1
          obtain ⟨k2, hk2⟩ : ∃ k, l.length - j = k + 1 := ⟨l.length - j - 1, by omega⟩
          rw [hk2] at h1
          have h2 := i64s_set_mid done b1 k2
          rw [HLEN.out] at h2
          rw [h2] at h1
          rw [show l.length - (j + 1) = k2 by omega, HRN.out, HB2.out]
          exact h1
        case measure => have := HLT.out; simp [intOf]; omega
      · rw [int_beq_f hp] at hnu
        have HNL := hide hnu
        by_cases hneg : b1 < 0
        · rw [if_pos ⟨hp, .inl hneg⟩] at hbs
          have HB2 := hide hbs
          clear hnu hbs hp how hgr hga hlt hj hlen hil hpe hgd hbi
          go_wp2_with (go_at_call 138; refine HNL.out.mono ?_; rintro e w4 ⟨rfl, hg4⟩; have HG4 := hide hg4; have HO4 := hide (HO5.out.kept hg4 (by cases (Value.slice (some ⟨w2.heap.size, 0, none⟩) l.length l.length).ownBlock <;> simp)); have hst := HSTEP.out w4 HO4.out; have c5 := hst.1; have z5 := hst.2; clear hg4 hst c0 c1 c2 c3)
          go_roundw
          case rel =>
            have hlt := HLT.out
            refine ⟨j + 1, by go_num, by omega, by rw [HB2.out], ?_, gb_setCell (gb_trans HGR.out HG4.out (.inl rfl)) (.inr (Nat.le_refl _)) _⟩
            have h1 := (HO4.out.stored j (.int .i64 (j : Int))).1
            obtain ⟨k2, hk2⟩ : ∃ k, l.length - j = k + 1 := ⟨l.length - j - 1, by omega⟩
            rw [hk2] at h1
            have h2 := i64s_set_mid done (j : Int) k2
            rw [HLEN.out] at h2
            rw [h2] at h1
            rw [show l.length - (j + 1) = k2 by omega, HRN.out, HB2.out]
            exact h1
          case measure => have := HLT.out; simp [intOf]; omega
        · obtain ⟨k, rfl⟩ : ∃ k : Nat, b1 = (k : Int) := ⟨b1.toNat, by omega⟩
          have hk : k < l.length := by omega
          have hgk : l.getD (k : Int).toNat 0 = l[k] := by rw [Int.toNat_natCast, List.getD_eq_getElem?_getD, List.getElem?_eq_getElem hk]; rfl
          rw [hgk] at hbs
          have HOR := hide (fun (w4 : World) (hg4 : wr.grownBy w4 none) => ord1_any l j k w4 b q B nA nc sA sc lA lc hlt hk (blk_keep HQ1.out (gb_trans HG12.out (gb_trans hgr hg4 (.inl rfl)) (.inl rfl)) (by simp)) (blk_keep HB1.out (gb_trans HG12.out (gb_trans hgr hg4 (.inl rfl)) (.inl rfl)) (by simp)) (vat_int (HV.out.gb (gb_trans HG.out (gb_trans hga hg4 (.inl rfl)) (.inl rfl)) HBB.out)))
          rw [← hpe] at HOR
          obtain ⟨q9, hq9⟩ : ∃ q9, q9 = l[k] := ⟨_, rfl⟩
          rw [← hq9] at HOR hbs
          by_cases hah : q9 < p
          · rw [if_pos ⟨hp, .inr hah⟩] at hbs
            have HB2 := hide hbs
            obtain ⟨r, hr⟩ : ∃ r, r = cmpI q9 p := ⟨_, rfl⟩
            rw [← hr] at HOR
            have hr0 : r < 0 := by rw [hr]; unfold cmpI; rw [if_pos hah]; decide
            clear hnu hbs hp how hgr hga hlt hj hlen hil hpe hgd hbi hah hr hq9 hgk hk
            go_wp2_with (first
              | (go_at_call 138; refine HNL.out.mono ?_; rintro e w4 ⟨rfl, hg4⟩; have HG4 := hide hg4; have HO4 := hide (HO5.out.kept hg4 (by cases (Value.slice (some ⟨w2.heap.size, 0, none⟩) l.length l.length).ownBlock <;> simp)); have hst := HSTEP.out w4 HO4.out; have c5 := hst.1; have z5 := hst.2; clear hg4 hst c0 c1 c2 c3)
              | (go_at_call 78; refine (HOR.out _ HG4.out).mono ?_; rintro e w5 ⟨rfl, hg5⟩; have HG5 := hide (gb_trans HG4.out hg5 (.inl rfl)); have HO55 := hide (HO4.out.kept hg5 (by cases (Value.slice (some ⟨w2.heap.size, 0, none⟩) l.length l.length).ownBlock <;> simp)); have hst := HSTEP.out w5 HO55.out; clear c5 z5; have c5 := hst.1; have z5 := hst.2; clear hg5 hst))
            go_roundw
            case rel =>
              have hlt := HLT.out
              refine ⟨j + 1, by go_num, by omega, by rw [HB2.out], ?_, gb_setCell (gb_trans HGR.out HG5.out (.inl rfl)) (.inr (Nat.le_refl _)) _⟩
              have h1 := (HO55.out.stored j (.int .i64 (j : Int))).1
              obtain ⟨k2, hk2⟩ : ∃ k, l.length - j = k + 1 := ⟨l.length - j - 1, by omega⟩
              rw [hk2] at h1
              have h2 := i64s_set_mid done (j : Int) k2
              rw [HLEN.out] at h2
              rw [h2] at h1
              rw [show l.length - (j + 1) = k2 by omega, HRN.out, HB2.out]
              exact h1
            case measure => have := HLT.out; simp [intOf]; omega
          · rw [if_neg (fun h => h.2.elim hneg hah)] at hbs
            have HB2 := hide hbs
            obtain ⟨r, hr⟩ : ∃ r, r = cmpI q9 p := ⟨_, rfl⟩
            rw [← hr] at HOR
            have hr0 : ¬ r < 0 := by rw [hr]; unfold cmpI; rw [if_neg hah]; split <;> omega
            clear hnu hbs hp how hgr hga hlt hj hlen hil hpe hgd hbi hah hr hq9 hgk hk
            go_wp2_with (first
              | (go_at_call 138; refine HNL.out.mono ?_; rintro e w4 ⟨rfl, hg4⟩; have HG4 := hide hg4; have HO4 := hide (HO5.out.kept hg4 (by cases (Value.slice (some ⟨w2.heap.size, 0, none⟩) l.length l.length).ownBlock <;> simp)); have hst := HSTEP.out w4 HO4.out; have c5 := hst.1; have z5 := hst.2; clear hg4 hst c0 c1 c2 c3)
              | (go_at_call 78; refine (HOR.out _ HG4.out).mono ?_; rintro e w5 ⟨rfl, hg5⟩; have HG5 := hide (gb_trans HG4.out hg5 (.inl rfl)); have HO55 := hide (HO4.out.kept hg5 (by cases (Value.slice (some ⟨w2.heap.size, 0, none⟩) l.length l.length).ownBlock <;> simp)); have hst := HSTEP.out w5 HO55.out; clear c5 z5; have c5 := hst.1; have z5 := hst.2; clear hg5 hst))
            go_roundw
            case rel =>
              have hlt := HLT.out
              refine ⟨j + 1, by go_num, by omega, by rw [HB2.out], ?_, gb_setCell (gb_trans HGR.out HG5.out (.inl rfl)) (.inr (Nat.le_refl _)) _⟩
              have h1 := (HO55.out.stored j (.int .i64 (k : Int))).1
              obtain ⟨k2, hk2⟩ : ∃ k, l.length - j = k + 1 := ⟨l.length - j - 1, by omega⟩
              rw [hk2] at h1
              have h2 := i64s_set_mid done (k : Int) k2
              rw [HLEN.out] at h2
              rw [h2] at h1
              rw [show l.length - (j + 1) = k2 by omega, HRN.out, HB2.out]
              exact h1
            case measure => have := HLT.out; simp [intOf]; omega
    · have hlt1 : ¬ (j : Int) < (l.length : Int) := by omega
      have hjl : j = l.length := by omega
      subst hjl
      rw [Nat.sub_self, List.replicate_zero, List.append_nil] at how
      obtain ⟨ps, hps⟩ : ∃ ps, ps = (List.range l.length).map (fun i => bestN true l (i + 1)) := ⟨_, rfl⟩
      have hpl : ps.length = l.length := by rw [hps]; simp
      rw [← hps] at how
      have hix := index_ints (.mk 2 l [] []) ps wr B nA nc sA sc lA lc (some ⟨w2.heap.size, 0, none⟩) l.length ⟨.inl rfl, HL6.out, HI64.out, HT.out⟩ rfl (by have := HBB.out; have := HG.out.size; have := hga.size; omega) (HV.out.gb (gb_trans HG.out hga (.inl rfl)) HBB.out) (Rd.of_own how) (by rw [hpl]; exact HL.out)
      rw [hpl] at hix
      obtain ⟨ls, hls⟩ : ∃ ls, ls = ps.map (pickI l (-9223372036854775808)) := ⟨_, rfl⟩
      have HIX := hide (show Calls Tryz.prog 67 #[.agg #[.int .i64 2, .slice nA l.length nc, .slice sA 0 sc, .slice lA 0 lc], .slice (some ⟨w2.heap.size, 0, none⟩) l.length l.length] wr (DoR (.ok (2, ls)) wr) by rw [hls]; exact hix)
      have HLS := hide (show ((List.range l.length).map fun i => bestN true l (i + 1)).map (pickI l (-9223372036854775808)) = ls by rw [hls, hps])
      have HGA := hide hga
      clear how hgr hga hlt hj hix hls hps hpl
      go_upto_region 12 with (go_at_call 67; refine HIX.out.mono ?_; rintro e w5 ⟨hg5, A5, c5, hle5, rfl, how5⟩; have HG5 := hide hg5; have HOW5 := hide how5; have HLE5 := hide hle5; clear hg5 how5 hle5 c0 c1 c2 c3)
      obtain ⟨w6, hw6⟩ : ∃ w6, w6 = w5.alloc (.cells #[.int .i64 2, .slice A5 ls.length c5, .slice none 0 0, .slice none 0 0] 26) := ⟨_, rfl⟩
      rw [← hw6]
      have hb6 : w6.heap[w5.heap.size]? = some (.cells #[.int .i64 2, .slice A5 ls.length c5, .slice none 0 0, .slice none 0 0] 26 (0, 0)) := by rw [hw6]; exact heap_alloc_new w5 _
      have HG6 := hide (show w5.grownBy w6 none by rw [hw6]; exact gb_alloc (gb_refl w5 none) _)
      clear hw6
      obtain ⟨x0, x1, x2, x3⟩ : C4 w6 w5.heap.size 0 (.int .i64 2) (.slice A5 ls.length c5) (.slice none 0 0) (.slice none 0 0) := ⟨by rw [blk_cell hb6]; rfl, by rw [blk_cell hb6]; rfl, by rw [blk_cell hb6]; rfl, by rw [blk_cell hb6]; rfl⟩
      have hrr := blk_keep HBZ.out (gb_trans HGA.out (gb_trans HG5.out HG6.out (.inl rfl)) (.inl rfl)) (by simp)
      have HRR := hide hrr
      have z0 := blk_frozen hrr 0
      have z1 := blk_frozen hrr 1
      have z2 := blk_frozen hrr 2
      have z3 := blk_frozen hrr 3
      have y0 : w6.cell? ⟨w.heap.size + 1, 0, none⟩ = some (.int .i64 0) := (by { rw [blk_cell hrr]; rfl })
      have y1 : w6.cell? ⟨w.heap.size + 1, 1, none⟩ = some (.slice none 0 0) := (by { rw [blk_cell hrr]; rfl })
      have y2 : w6.cell? ⟨w.heap.size + 1, 2, none⟩ = some (.slice none 0 0) := (by { rw [blk_cell hrr]; rfl })
      have y3 : w6.cell? ⟨w.heap.size + 1, 3, none⟩ = some (.slice none 0 0) := (by { rw [blk_cell hrr]; rfl })
      clear hrr
      clear hb6
      obtain ⟨f, hof, hfb⟩ := Own.of_row HOW5.out
      have HFIN := newV_fin (x := .mk 2 ls [] []) (wa := wr) (g := w.heap.size + 1) (vow_ints HLE5.out (hof.gb HG6.out)) ⟨hof.nodup', fun b hb => ⟨(hfb b hb).1, Nat.lt_of_lt_of_le (hfb b hb).2 HG6.out.size⟩⟩ (gb_trans HG.out HGA.out (.inl rfl)) (gb_trans HG5.out HG6.out (.inl rfl)) (Nat.le_succ _) (by have := HSZ.out; have := HGA.out.size; omega)
      clear hof hfb
      go_wp2_with fail
      obtain ⟨m0, m1, m2, m3⟩ := C4.put HRR.out (.int .i64 2) (.slice A5 ls.length c5) (.slice none 0 0) (.slice none 0 0)
      simp only [put4, Nat.zero_add] at m0 m1 m2 m3
      refine bodyPost_ret (v := .agg #[.int .i64 2, .slice A5 ls.length c5, .slice none 0 0, .slice none 0 0]) (by simp [results, Tryz.results95, go_sem, m0, m1, m2, m3]) rfl ?_
      rw [HLS.out]
      exact HFIN
end Go.Proofs.YtgepejnooghjbaaGreat

namespace Go.Proofs.YtgepejnooghjbaaGreat
open Go.RowKit
attribute [local go_sem ↓] Go.wp_at_zero Go.wp_at_succ

/-- The type of a sum. -/
def sumT (t : Int) : Int := if t = 1 then 2 else t
/-- A sum, as agg writes it. -/
def totV (n : Int) : Value := .agg #[.int .i64 (n / 4294967296), .int .i64 (n % 4294967296)]
theorem i64_low32 (n : Int) : bits .and .i64 n 4294967295 = n % 4294967296 := by
  have h32 : (BitVec.ofInt 64 4294967295).toNat = 2 ^ 32 - 1 := by decide
  have key : (BitVec.ofInt 64 n &&& BitVec.ofInt 64 4294967295).toNat = (n % ((2 ^ 64 : Nat) : Int)).toNat % 2 ^ 32 := by
    rw [BitVec.toNat_and, BitVec.toNat_ofInt, h32, Nat.and_two_pow_sub_one_eq_mod]
  show IntKind.i64.wrap ((BitVec.ofInt 64 n &&& BitVec.ofInt 64 4294967295).toNat : Nat) = n % 4294967296
  rw [key, IntKind.wrap_i64]
  omega
set_option maxHeartbeats 400000 in
theorem summed_any (t : Int) (w : World) : Calls Tryz.prog 45 #[.int .i64 t] w fun e w' => e = .returned (.int .i64 (sumT t)) ∧ w = w' := by
  by_cases h : t = 1
  · subst h
    go_enter Tryz.func45, Tryz.ntmps45
    go_wp2_with fail
    go_ret
    exact ⟨rfl, rfl⟩
  · have HE := hide (show sumT t = t from if_neg h)
    have h1 : (t == 1) = false := by simp [h]
    clear h
    go_enter Tryz.func45, Tryz.ntmps45
    go_wp2_with fail
    go_ret
    exact ⟨by rw [HE.out]; rfl, rfl⟩
/-- A number as a sum adds it: null adds nothing. -/
def addN (n : Int) : Int := if n = -9223372036854775808 then 0 else n
set_option maxHeartbeats 400000 in
theorem totalOf_any (n : Int) (w : World) : Calls Tryz.prog 43 #[.int .i64 n] w fun e w' => e = .returned (totV (addN n)) ∧ w.grownBy w' none := by
  by_cases h : n = -9223372036854775808
  · subst h
    go_enter Tryz.func43, Tryz.ntmps43
    go_wp2_with fail
    exact bodyPost_ret (v := .agg #[.int .i64 0, .int .i64 0]) (by simp [results, Tryz.results43, go_sem]) rfl ⟨rfl, gb_alloc (gb_refl w none) _⟩
  · have HE := hide (show addN n = n from if_neg h)
    have h1 : (n == -9223372036854775808) = false := by simp [h]
    have HL := hide (i64_low32 n)
    clear h
    go_enter Tryz.func43, Tryz.ntmps43
    go_wp2_with fail
    rw [HL.out]
    refine bodyPost_ret (v := .agg #[.int .i64 (n / 4294967296), .int .i64 (n % 4294967296)]) (by simp [results, Tryz.results43, go_sem]) rfl ⟨by rw [HE.out]; rfl, gb_alloc (gb_refl w none) _⟩
/-- A sum that a total can hold. -/
def Sum64 (n : Int) : Prop := -9223372036854775808 * 4294967296 ≤ n ∧ n < 9223372036854775808 * 4294967296
set_option maxHeartbeats 800000 in
theorem plus_any (m n : Int) (hs : Sum64 (m + n)) (w : World) : Calls Tryz.prog 42 #[totV m, totV n] w fun e w' => e = .returned (totV (m + n)) ∧ w.grownBy w' none := by
  unfold Sum64 at hs
  have h1 : IntKind.i64.wrap (m % 4294967296 + n % 4294967296) = m % 4294967296 + n % 4294967296 := by rw [IntKind.wrap_i64]; omega
  have HL := hide (i64_low32 (m % 4294967296 + n % 4294967296))
  have HR := hide (show wrap64 (wrap64 (m / 4294967296 + n / 4294967296) + (m % 4294967296 + n % 4294967296) / 4294967296) = (m + n) / 4294967296 by
    unfold wrap64; omega)
  have HR2 := hide (show (m % 4294967296 + n % 4294967296) % 4294967296 = (m + n) % 4294967296 by omega)
  clear hs
  unfold totV
  go_enter Tryz.func42, Tryz.ntmps42
  go_wp2_with fail
  rw [HL.out, HR.out, HR2.out]
  refine bodyPost_ret (v := .agg #[.int .i64 ((m + n) / 4294967296), .int .i64 ((m + n) % 4294967296)]) (by simp [results, Tryz.results42, go_sem]) rfl ⟨rfl, ?_⟩
  exact gb_alloc (gb_alloc (gb_alloc (gb_refl w none) _) _) _
theorem i64_or32 (n : Int) : bits .or .i64 (wrap64 (n / 4294967296 * 4294967296)) (n % 4294967296) = wrap64 n := by
  have key : (BitVec.ofInt 64 (wrap64 (n / 4294967296 * 4294967296)) ||| BitVec.ofInt 64 (n % 4294967296)).toNat = (n % ((2 ^ 64 : Nat) : Int)).toNat := by
    rw [BitVec.toNat_or, BitVec.toNat_ofInt, BitVec.toNat_ofInt]
    obtain ⟨X, hX⟩ : ∃ X : Nat, X = (wrap64 (n / 4294967296 * 4294967296) % ((2 ^ 64 : Nat) : Int)).toNat / 4294967296 := ⟨_, rfl⟩
    obtain ⟨Y, hY⟩ : ∃ Y : Nat, Y = (n % 4294967296 % ((2 ^ 64 : Nat) : Int)).toNat := ⟨_, rfl⟩
    have h1 : (wrap64 (n / 4294967296 * 4294967296) % ((2 ^ 64 : Nat) : Int)).toNat = X <<< 32 := by
      rw [Nat.shiftLeft_eq, hX]
      unfold wrap64
      omega
    have h2 : Y < 2 ^ 32 := by omega
    rw [h1, ← hY, ← Nat.shiftLeft_add_eq_or_of_lt h2, ← h1]
    unfold wrap64
    omega
  show IntKind.i64.wrap ((BitVec.ofInt 64 (wrap64 (n / 4294967296 * 4294967296)) ||| BitVec.ofInt 64 (n % 4294967296)).toNat : Nat) = wrap64 n
  rw [key, IntKind.wrap_i64]
  unfold wrap64
  omega
/-- What of a sum number tells. -/
def numR (n : Int) : Value := if -9223372036854775807 ≤ n ∧ n ≤ 9223372036854775807 then .tuple #[.int .i64 n, .bool true] else .tuple #[.int .i64 0, .bool false]
set_option maxHeartbeats 800000 in
theorem number_any (n : Int) (hn : Sum64 n) (w : World) : Calls Tryz.prog 44 #[totV n] w fun e w' => e = .returned (numR n) ∧ w.grownBy w' none := by
  unfold Sum64 at hn
  have ho := i64_or32 n
  by_cases hr : -9223372036854775807 ≤ n ∧ n ≤ 9223372036854775807
  · have HE := hide (show numR n = .tuple #[.int .i64 n, .bool true] from if_pos hr)
    rw [show wrap64 n = n by unfold wrap64; omega] at ho
    have h1 : (n == -9223372036854775808) = false := by simp; omega
    have h2 : ¬ n = -9223372036854775808 := by omega
    clear hr hn
    unfold totV
    go_enter Tryz.func44, Tryz.ntmps44
    go_wp2_with fail
    exact bodyPost_ret (v := .tuple #[.int .i64 n, .bool true]) (by simp [results, Tryz.results44, go_sem]) rfl ⟨by rw [HE.out], gb_alloc (gb_refl w none) _⟩
  · have HE := hide (show numR n = .tuple #[.int .i64 0, .bool false] from if_neg hr)
    by_cases h0 : n = -9223372036854775808
    · subst h0
      clear ho
      have ho1 : bits .or .i64 (-9223372036854775808) 0 = -9223372036854775808 := by decide
      clear hr hn
      unfold totV
      go_enter Tryz.func44, Tryz.ntmps44
      go_wp2_with fail
      exact bodyPost_ret (v := .tuple #[.int .i64 0, .bool false]) (by simp [results, Tryz.results44, go_sem]) rfl ⟨by rw [HE.out], gb_alloc (gb_refl w none) _⟩
    · obtain ⟨z, hz⟩ : ∃ z, z = wrap64 n := ⟨_, rfl⟩
      rw [← hz] at ho
      have h1 : ¬ z / 4294967296 = n / 4294967296 := by unfold wrap64 at hz; omega
      have h2 : (z / 4294967296 != n / 4294967296) = true := by simp [h1]
      clear hr hn hz h0
      unfold totV
      go_enter Tryz.func44, Tryz.ntmps44
      go_wp2_with fail
      exact bodyPost_ret (v := .tuple #[.int .i64 0, .bool false]) (by simp [results, Tryz.results44, go_sem]) rfl ⟨by rw [HE.out], gb_alloc (gb_refl w none) _⟩
end Go.Proofs.YtgepejnooghjbaaGreat

namespace Go.Proofs.YtgepejnooghjbaaGreat
open Go.RowKit
attribute [local go_sem ↓] Go.wp_at_zero Go.wp_at_succ

set_option maxHeartbeats 2000000 in
theorem takes_int (op : Int) (h0 : 0 ≤ op) (h1 : op ≤ 6) (w : World) : Calls Tryz.prog 38 #[.int .i64 op, .int .i64 2] w fun e w' => e = .returned (.bool true) ∧ w = w' := by
  obtain rfl | rfl | rfl | rfl | rfl | rfl | rfl : op = 0 ∨ op = 1 ∨ op = 2 ∨ op = 3 ∨ op = 4 ∨ op = 5 ∨ op = 6 := by omega
  all_goals
    clear h0 h1
    go_enter Tryz.func38, Tryz.ntmps38
    go_wp2_with fail
    go_ret
    exact ⟨rfl, rfl⟩
end Go.Proofs.YtgepejnooghjbaaGreat

namespace Go.Proofs.YtgepejnooghjbaaGreat
open Go.RowKit
attribute [local go_sem ↓] Go.wp_at_zero Go.wp_at_succ

set_option maxHeartbeats 4000000 in
set_option maxRecDepth 100000 in
theorem stable_small (cf : Int → Int → Int) (P : Int → Prop) (d : List Int) (base g c q : Nat) (w : World) (hl : d.length < 20) (hP : ∀ x ∈ d, P x)
    (ho : w.ownsRow base 2 1 (.slice (some ⟨g, 0, none⟩) d.length c) d.length (i64s d))
    (hc : ∀ x y, P x → P y → ∀ w2, w.grownBy w2 (some g) → Calls Tryz.prog 51 #[.int .i64 x, .int .i64 y, .pointer (some ⟨q, 0, none⟩)] w2 fun e w' => e = .returned (.int .i64 (cf x y)) ∧ w2.grownBy w' none) :
    Calls Tryz.prog 85 #[.slice (some ⟨g, 0, none⟩) d.length c, .int .i64 (d.length : Int), .func (.func 51) #[] #[.pointer (some ⟨q, 0, none⟩)]] w fun e w' => e = .returned (.tuple #[]) ∧ w'.ownsRow base 2 1 (.slice (some ⟨g, 0, none⟩) d.length c) d.length (i64s (insUp cf 0 (d.length - 0 - 1) d)) ∧ w.grownBy w' (some g) := by
  have HI := hide (insSort_any cf P d 0 d.length base g c q w (Nat.zero_le _) (Nat.le_refl _) (by omega) hP ho hc)
  have h1 : ¬ (20 : Int) ≤ (d.length : Int) := by omega
  have h2 : ¬ (20 : Int) < (d.length : Int) := by omega
  clear hl hP ho hc
  generalize d.length = n at *
  go_enter Tryz.func85, Tryz.ntmps85
  go_wp2_with fail
  go_loopw [7, 8] (fun x y wr => x = .int .i64 0 ∧ y = .int .i64 20 ∧ wr = w) (fun _ _ _ => 0)
  case atStart => exact ⟨rfl, rfl, rfl⟩
  case round =>
    obtain ⟨rfl, rfl, rfl⟩ := hrel
    go_wp2_with (go_at_call 131; refine HI.out.mono ?_; rintro e w4 ⟨rfl, ho4, hg4⟩; have HO4 := hide ho4; have HG4 := hide hg4; clear ho4 hg4 HI)
    go_loopw [6] (fun x wr => x = .int .i64 20 ∧ wr = w4) (fun _ _ => 0)
    case atStart => exact ⟨rfl, rfl⟩
    case round =>
      obtain ⟨rfl, rfl⟩ := hrel
      go_wp2_with fail
      go_end0
      exact ⟨rfl, HO4.out, HG4.out⟩
set_option maxHeartbeats 4000000 in
set_option maxRecDepth 100000 in
theorem sortStable_small (cf : Int → Int → Int) (P : Int → Prop) (d : List Int) (base g c q : Nat) (w : World) (hl : d.length < 20) (hP : ∀ x ∈ d, P x)
    (ho : w.ownsRow base 2 1 (.slice (some ⟨g, 0, none⟩) d.length c) d.length (i64s d))
    (hc : ∀ x y, P x → P y → ∀ w2, w.grownBy w2 (some g) → Calls Tryz.prog 51 #[.int .i64 x, .int .i64 y, .pointer (some ⟨q, 0, none⟩)] w2 fun e w' => e = .returned (.int .i64 (cf x y)) ∧ w2.grownBy w' none) :
    Calls Tryz.prog 50 #[.slice (some ⟨g, 0, none⟩) d.length c, .func (.func 51) #[] #[.pointer (some ⟨q, 0, none⟩)]] w fun e w' => e = .returned (.tuple #[]) ∧ w'.ownsRow base 2 1 (.slice (some ⟨g, 0, none⟩) d.length c) d.length (i64s (insUp cf 0 (d.length - 0 - 1) d)) ∧ w.grownBy w' (some g) := by
  have HI := hide (stable_small cf P d base g c q w hl hP ho hc)
  clear hl hP ho hc
  generalize d.length = n at *
  go_enter Tryz.func50, Tryz.ntmps50
  go_wp2_with (go_at_call 85; refine HI.out.mono ?_; rintro e w4 ⟨rfl, ho4, hg4⟩; have HO4 := hide ho4; have HG4 := hide hg4; clear ho4 hg4 HI)
  go_end0
  exact ⟨rfl, HO4.out, HG4.out⟩
/-- How two places stand to each other, from the greatest on. -/
def cfDn (l : List Int) (x y : Int) : Int := cmpI (l.getD y.toNat 0) (l.getD x.toNat 0)
def Pl8 (n : Nat) (x : Int) : Prop := 0 ≤ x ∧ x < (n : Int)
set_option maxHeartbeats 4000000 in
set_option maxRecDepth 100000 in
theorem graded1_dn (l : List Int) (x y : Int) (hx : Pl8 l.length x) (hy : Pl8 l.length y) (w : World) (p b q B : Nat) (nA : Option Addr) (nc : Nat) (sA : Option Addr) (sc : Nat) (lA : Option Addr) (lc : Nat) (hp : w.cell? ⟨p, 0, none⟩ = some (.func (.func 78) #[] #[.pointer (some ⟨q, 0, none⟩)])) (hq : w.heap[q]? = some (.cells #[.func (.func 83) #[] #[.pointer (some ⟨b, 0, none⟩)]] 73 (0, 0))) (hb : w.heap[b]? = some (.cells #[.int .i64 2, .slice nA l.length nc, .slice sA 0 sc, .slice lA 0 lc] 26 (0, 0))) (hr : Rd w B nA (i64s l)) :
    Calls Tryz.prog 51 #[.int .i64 x, .int .i64 y, .pointer (some ⟨p, 0, none⟩)] w fun e w' => e = .returned (.int .i64 (cfDn l x y)) ∧ w.grownBy w' none := by
  obtain ⟨i, rfl⟩ : ∃ i : Nat, x = (i : Int) := ⟨x.toNat, by have := hx.1; omega⟩
  obtain ⟨j, rfl⟩ : ∃ j : Nat, y = (j : Int) := ⟨y.toNat, by have := hy.1; omega⟩
  have hi : i < l.length := by have := hx.2; omega
  have hj : j < l.length := by have := hy.2; omega
  have HO := ord1_any l i j w b q B nA nc sA sc lA lc hi hj hq hb hr
  have hcf : cfDn l (i : Int) (j : Int) = cmpI l[j] l[i] := by
    unfold cfDn
    rw [Int.toNat_natCast, Int.toNat_natCast, List.getD_eq_getElem?_getD, List.getElem?_eq_getElem hj, List.getD_eq_getElem?_getD, List.getElem?_eq_getElem hi]
    rfl
  rw [← hcf] at HO
  have HC := hide HO
  generalize cfDn l (i : Int) (j : Int) = r at *
  clear hx hy hq hb hr hi hj hcf HO
  go_enter Tryz.func51, Tryz.ntmps51
  go_wp2_with (go_at_call 78; refine HC.out.mono ?_; rintro e w1 ⟨rfl, hg1⟩; have HG1 := hide hg1; clear hg1)
  exact bodyPost_ret (v := .int .i64 r) (by simp [results, Tryz.results51, go_sem]) rfl ⟨rfl, HG1.out⟩
/-- The places, in order. -/
def placesL (n : Nat) : List Int := (List.range n).map fun i : Nat => (i : Int)
theorem placesL_len (n : Nat) : (placesL n).length = n := by simp [placesL]
set_option maxHeartbeats 4000000 in
set_option maxRecDepth 100000 in
theorem graded_dn (l : List Int) (hl20 : l.length < 20) (w : World) (B : Nat) (nA : Option Addr) (nc : Nat) (sA : Option Addr) (sc : Nat) (lA : Option Addr) (lc : Nat) (hB : B ≤ w.heap.size) (h : VB w B (.mk 2 l [] []) nA nc sA sc lA lc) :
    Calls Tryz.prog 24 #[.agg #[.int .i64 2, .slice nA l.length nc, .slice sA 0 sc, .slice lA 0 lc], .bool true] w fun e w' => ∃ A, e = .returned (.slice A l.length l.length) ∧ w'.ownsRow w.heap.size 2 1 (.slice A l.length l.length) l.length (i64s (insUp (cfDn l) 0 (l.length - 0 - 1) (placesL l.length))) ∧ w.grownBy w' none := by
  obtain ⟨wa, hwa⟩ : ∃ wa, wa = w.alloc (.cells #[.int .i64 2, .slice nA l.length nc, .slice sA 0 sc, .slice lA 0 lc] 26) := ⟨_, rfl⟩
  have bx : wa.heap[w.heap.size]? = some (.cells #[.int .i64 2, .slice nA l.length nc, .slice sA 0 sc, .slice lA 0 lc] 26 (0, 0)) := by rw [hwa]; exact heap_alloc_new w _
  have HBX := hide bx
  have HG := hide (show w.grownBy wa none by rw [hwa]; exact gb_alloc (gb_refl w none) _)
  have HSZ := hide (show wa.heap.size = w.heap.size + 1 by rw [hwa]; simp)
  have HWE := hide hwa
  have ht : (Vl.mk 2 l [] []).tot ≤ 1100000 := by rw [Vl.tot_def]; show 1 + l.length + 0 + 0 + 0 ≤ 1100000; omega
  have HCN : Hid (∀ w2, w.grownBy w2 none → Calls Tryz.prog 35 #[.agg #[.int .i64 2, .slice nA l.length nc, .slice sA 0 sc, .slice lA 0 lc]] w2 fun e w' => e = .returned (.int .i64 (l.length : Nat)) ∧ w2.grownBy w' none) := hide (fun w2 hg => count_d (Vl.mk 2 l [] []).depth (Vl.mk 2 l [] []) w2 B nA nc sA sc lA lc (Nat.le_refl _) ht (Nat.le_trans hB hg.size) (h.gb hg hB))
  have HL := hide hl20
  have HV := hide h
  have HBB := hide hB
  obtain ⟨i1, hi1, hiz, his, hib⟩ := info_parts Tryz.info64
  have HI1 := hide hi1
  have HIZ := hide hiz
  have HIS := hide his
  have HIB := hide hib
  clear hi1 hiz his hib
  obtain ⟨c0, c1, c2, c3⟩ : C4 wa w.heap.size 0 (.int .i64 2) (.slice nA l.length nc) (.slice sA 0 sc) (.slice lA 0 lc) := (by have h := blk_keep HBX.out (gb_refl wa none) (by simp); exact ⟨by rw [blk_cell h]; rfl, by rw [blk_cell h]; rfl, by rw [blk_cell h]; rfl, by rw [blk_cell h]; rfl⟩)
  clear bx hwa h hB ht hl20
  go_enter Tryz.func24, Tryz.ntmps24
  go_upto_region 1 with fail
  rw [← HWE.out]
  go_wp2_with (go_at_call 35; refine (HCN.out _ HG.out).mono ?_; rintro e w2 ⟨rfl, hg2⟩; have HG2 := hide hg2; clear hg2; obtain ⟨w3, hmk, hown, hg3⟩ := run_make_full (P := Tryz.prog) w2 w2.heap.size 22 2 i1 (.int .i64 0) 1 Tryz.underlying22 HI1.out HIZ.out HIS.out .i64 .i64 l.length (by rw [HIB.out]; have := HL.out; omega) (by unfold maxLen; have := HL.out; omega) (Nat.le_refl _); rw [show (madeCells (Value.int .i64 0).cells (l.length * 1)).toList = List.replicate l.length (.int .i64 0) by rw [Nat.mul_one]; exact toList_madeCells_one _ l.length] at hown; have HOWN := hide hown; have HG3 := hide hg3; clear hown hg3 c0 c1 c2 c3)
  clear hmk
  go_loopw [13] (fun i wr => ∃ j : Nat, i = .int .i64 (j : Int) ∧ j ≤ l.length ∧
    wr.ownsRow w2.heap.size 2 1 (.slice (some ⟨w2.heap.size, 0, none⟩) l.length l.length) l.length (i64s (placesL j) ++ List.replicate (l.length - j) (.int .i64 0)) ∧ w2.grownBy wr none) (fun i _ => l.length - (intOf i).toNat)
  case atStart => exact ⟨0, rfl, Nat.zero_le _, by simpa [i64s, placesL] using HOWN.out, HG3.out⟩
  case round =>
    obtain ⟨j, rfl, hj, how, hgr⟩ := hrel
    by_cases hlt : j < l.length
    · have hlt1 : (j : Int) < (l.length : Int) := by omega
      have h6 : IntKind.i64.wrap ((j : Int) + 1) = ((j + 1 : Nat) : Int) := by rw [IntKind.wrap_i64]; have := HL.out; omega
      have hil : (i64s (placesL j)).length = j := by unfold i64s; rw [List.length_map, placesL_len]
      have HOW := hide how
      have HGR := hide hgr
      have HLT := hide hlt
      have c5 := how.cellAt j (by omega)
      rw [List.getElem?_append_right (by rw [hil]; exact Nat.le_refl _), hil, Nat.sub_self, List.getElem?_replicate, if_pos (by omega)] at c5
      have z5 := how.frozenAt j
      clear how hgr hlt hj hil
      go_wp2_with fail
      go_roundw
      case rel =>
        have hlt := HLT.out
        refine ⟨j + 1, by go_num, by omega, ?_, gb_setCell HGR.out (.inr (Nat.le_refl _)) _⟩
        have h1 := (HOW.out.stored j (.int .i64 (j : Int))).1
        obtain ⟨k2, hk2⟩ : ∃ k, l.length - j = k + 1 := ⟨l.length - j - 1, by omega⟩
        rw [hk2] at h1
        have h2 := i64s_set_mid (placesL j) (j : Int) k2
        rw [placesL_len] at h2
        rw [h2] at h1
        rw [show l.length - (j + 1) = k2 by omega, show placesL (j + 1) = placesL j ++ [(j : Int)] by unfold placesL; rw [List.range_succ, List.map_append]; rfl]
        exact h1
      case measure => have := HLT.out; simp [intOf]; omega
    · have hlt1 : ¬ (j : Int) < (l.length : Int) := by omega
      have hjl : j = l.length := by omega
      subst hjl
      rw [Nat.sub_self, List.replicate_zero, List.append_nil] at how
      have HOW := hide how
      have HGR := hide hgr
      have hga := gb_trans HG2.out hgr (.inl rfl)
      have HGA := hide hga
      obtain ⟨c0, c1, c2, c3⟩ : C4 wr w.heap.size 0 (.int .i64 2) (.slice nA l.length nc) (.slice sA 0 sc) (.slice lA 0 lc) := (by have h := blk_keep HBX.out hga (by simp); exact ⟨by rw [blk_cell h]; rfl, by rw [blk_cell h]; rfl, by rw [blk_cell h]; rfl, by rw [blk_cell h]; rfl⟩)
      have HUP := hide (ordDn_any l wr nA nc sA sc lA lc)
      clear how hgr hga hlt hj
      go_upto_region 8 with (go_at_call 49; refine HUP.out.mono ?_; rintro e w5 ⟨b, q, rfl, hq5, hb5, hg5⟩; have HQ5 := hide hq5; have HB5 := hide hb5; have HG5 := hide hg5; clear hq5 hb5 hg5 c0 c1 c2 c3 HUP)
      obtain ⟨w6, hw6⟩ : ∃ w6, w6 = w5.alloc (.cells #[.func (.func 78) #[] #[.pointer (some ⟨q, 0, none⟩)]] 73) := ⟨_, rfl⟩
      rw [← hw6]
      have hp6 : w6.heap[w5.heap.size]? = some (.cells #[.func (.func 78) #[] #[.pointer (some ⟨q, 0, none⟩)]] 73 (0, 0)) := by rw [hw6]; exact heap_alloc_new w5 _
      have hg6 : w5.grownBy w6 none := by rw [hw6]; exact gb_alloc (gb_refl w5 none) _
      have hgw6 : w2.grownBy w6 none := gb_trans HGR.out (gb_trans HG5.out hg6 (.inl rfl)) (.inl rfl)
      have ho6 := HOW.out.kept (gb_trans HG5.out hg6 (.inl rfl)) (by cases (Value.slice (some ⟨w2.heap.size, 0, none⟩) l.length l.length).ownBlock <;> simp)
      have hq6 := blk_keep HQ5.out hg6 (by simp)
      have hb6 := blk_keep HB5.out hg6 (by simp)
      have n1 : w5.heap.size ≠ w2.heap.size := fun e => own_ne ho6 hp6 (by decide) (by rw [e]; rfl)
      have n2 : q ≠ w2.heap.size := fun e => own_ne ho6 hq6 (by decide) (by rw [e]; rfl)
      have n3 : b ≠ w2.heap.size := fun e => own_ne ho6 hb6 (by decide) (by rw [e]; rfl)
      have hgB : B ≤ w2.heap.size := by have := HBB.out; have := HG.out.size; have := HG2.out.size; omega
      have hr6 : Rd w6 B nA (i64s l) := vat_int (HV.out.gb (gb_trans HG.out (gb_trans HG2.out hgw6 (.inl rfl)) (.inl rfl)) HBB.out)
      have HSO := sortStable_small (cfDn l) (Pl8 l.length) (placesL l.length) w2.heap.size w2.heap.size l.length w5.heap.size w6 (by rw [placesL_len]; exact HL.out)
        (by intro x hx; obtain ⟨i, hi, rfl⟩ := List.mem_map.1 hx; have := List.mem_range.1 hi; exact ⟨by omega, by omega⟩) (by rw [placesL_len]; exact ho6)
        (fun x y hx hy w7 hg7 => graded1_dn l x y hx hy w7 w5.heap.size b q B nA nc sA sc lA lc (by rw [blk_cell (blk_keep hp6 hg7 (by intro e; injection e with e; exact n1 e))]; rfl) (blk_keep hq6 hg7 (by intro e; injection e with e; exact n2 e)) (blk_keep hb6 hg7 (by intro e; injection e with e; exact n3 e)) (hr6.grown hg7 (Nat.le_trans hgB hgw6.size) (by intro g e; injection e with e; omega)))
      rw [placesL_len] at HSO
      have HS := hide HSO
      have HGW := hide hgw6
      have HP6 := hide hp6
      clear hw6 hg6 hgw6 ho6 hq6 hb6 n1 n2 n3 hgB hr6 HSO hp6
      go_wp2_with (go_at_call 50; refine HS.out.mono ?_; rintro e w7 ⟨rfl, ho7, hg7⟩; have HO7 := hide ho7; have HG7 := hide hg7; clear ho7 hg7 HS)
      have hsz : w.heap.size ≤ w2.heap.size := by have := HG.out.size; have := HG2.out.size; omega
      exact bodyPost_ret (v := .slice (some ⟨w2.heap.size, 0, none⟩) l.length l.length) (by simp [results, Tryz.results24, go_sem]) rfl ⟨_, rfl, own_low HO7.out hsz, gb_trans (gb_trans HG.out (gb_trans HG2.out HGW.out (.inl rfl)) (.inl rfl)) HG7.out (.inr (.inr ⟨_, rfl, hsz⟩))⟩
set_option maxHeartbeats 4000000 in
set_option maxRecDepth 100000 in
theorem isSeq_int (nA : Option Addr) (nl nc : Nat) (sA : Option Addr) (sc : Nat) (lA : Option Addr) (lc : Nat) (w : World) : Calls Tryz.prog 23 #[.agg #[.int .i64 2, .slice nA nl nc, .slice sA 0 sc, .slice lA 0 lc]] w fun e w' => e = .returned (.bool true) ∧ w.grownBy w' none := by
  obtain ⟨wa, hwa⟩ : ∃ wa, wa = w.alloc (.cells #[.int .i64 2, .slice nA nl nc, .slice sA 0 sc, .slice lA 0 lc] 26) := ⟨_, rfl⟩
  have c0 : wa.cell? ⟨w.heap.size, 0, none⟩ = some (.int .i64 2) := by rw [hwa, blk_cell (heap_alloc_new w _)]; rfl
  have HG := hide (show w.grownBy wa none by rw [hwa]; exact gb_alloc (gb_refl w none) _)
  have HWE := hide hwa
  have HT := hide (fun w2 => takes_int 0 (by decide) (by decide) w2)
  clear hwa
  go_enter Tryz.func23, Tryz.ntmps23
  go_upto_region 1 with fail
  rw [← HWE.out]
  go_wp2_with (go_at_call 38; refine (HT.out _).mono ?_; rintro e w1 ⟨rfl, rfl⟩)
  exact bodyPost_ret (v := .bool true) (by simp [results, Tryz.results23, go_sem]) rfl ⟨rfl, HG.out⟩
set_option maxHeartbeats 4000000 in
set_option maxRecDepth 100000 in
theorem grade_dn (l : List Int) (hl20 : l.length < 20) (w : World) (B : Nat) (nA : Option Addr) (nc : Nat) (sA : Option Addr) (sc : Nat) (lA : Option Addr) (lc : Nat) (hB : B ≤ w.heap.size) (h : VB w B (.mk 2 l [] []) nA nc sA sc lA lc) :
    Calls Tryz.prog 9 #[.agg #[.int .i64 2, .slice nA l.length nc, .slice sA 0 sc, .slice lA 0 lc], .bool true] w (DoR (.ok (2, insUp (cfDn l) 0 (l.length - 0 - 1) (placesL l.length))) w) := by
  obtain ⟨wa, hwa⟩ : ∃ wa, wa = (w.alloc (.cells #[.int .i64 2, .slice nA l.length nc, .slice sA 0 sc, .slice lA 0 lc] 26)).alloc (.cells #[.int .i64 0, .slice none 0 0, .slice none 0 0, .slice none 0 0] 26) := ⟨_, rfl⟩
  have bx : wa.heap[w.heap.size]? = some (.cells #[.int .i64 2, .slice nA l.length nc, .slice sA 0 sc, .slice lA 0 lc] 26 (0, 0)) := by rw [hwa]; exact (Below.heap_alloc _ _ _ (by rw [World.size_alloc]; omega)).trans (heap_alloc_new w _)
  have bz : wa.heap[w.heap.size + 1]? = some (.cells #[.int .i64 0, .slice none 0 0, .slice none 0 0, .slice none 0 0] 26 (0, 0)) := by rw [hwa]; have := heap_alloc_new (w.alloc (.cells #[.int .i64 2, .slice nA l.length nc, .slice sA 0 sc, .slice lA 0 lc] 26)) (.cells #[.int .i64 0, .slice none 0 0, .slice none 0 0, .slice none 0 0] 26); rwa [World.size_alloc] at this
  have HBX := hide bx
  have HBZ := hide bz
  have HSZ := hide (show wa.heap.size = w.heap.size + 2 by rw [hwa]; simp)
  have HG := hide (show w.grownBy wa none by rw [hwa]; exact gb_alloc (gb_alloc (gb_refl w none) _) _)
  have HWE := hide hwa
  have HGR := hide (fun w2 (hg : w.grownBy w2 none) => graded_dn l hl20 w2 B nA nc sA sc lA lc (Nat.le_trans hB hg.size) (h.gb hg hB))
  have HIS := hide (fun w2 => isSeq_int nA l.length nc sA sc lA lc w2)
  have hln : (insUp (cfDn l) 0 (l.length - 0 - 1) (placesL l.length)).length = l.length := by rw [insUp_len, placesL_len]
  have HLN := hide hln
  obtain ⟨c0, c1, c2, c3⟩ : C4 wa w.heap.size 0 (.int .i64 2) (.slice nA l.length nc) (.slice sA 0 sc) (.slice lA 0 lc) := (by have h := blk_keep HBX.out (gb_refl wa none) (by simp); exact ⟨by rw [blk_cell h]; rfl, by rw [blk_cell h]; rfl, by rw [blk_cell h]; rfl, by rw [blk_cell h]; rfl⟩)
  clear bx bz hwa h hB hl20 hln
  go_enter Tryz.func9, Tryz.ntmps9
  go_upto_region 1 with fail
  rw [← HWE.out]
  go_upto_region 3 with (go_at_call 23; refine (HIS.out _).mono ?_; rintro e w1 ⟨rfl, hg1⟩; have HG1 := hide hg1; clear hg1 c0 c1 c2 c3; obtain ⟨c0, c1, c2, c3⟩ : C4 w1 w.heap.size 0 (.int .i64 2) (.slice nA l.length nc) (.slice sA 0 sc) (.slice lA 0 lc) := (by have h := blk_keep HBX.out HG1.out (by simp); exact ⟨by rw [blk_cell h]; rfl, by rw [blk_cell h]; rfl, by rw [blk_cell h]; rfl, by rw [blk_cell h]; rfl⟩))
  go_wp2_with (go_at_call 24; refine (HGR.out _ (gb_trans HG.out HG1.out (.inl rfl))).mono ?_; rintro e w2 ⟨A, rfl, ho2, hg2⟩; have HO2 := hide ho2; have HG2 := hide (gb_trans HG1.out hg2 (.inl rfl)); clear ho2 hg2 c0 c1 c2 c3; have hrr := blk_keep HBZ.out HG2.out (by simp); have HRR := hide hrr; have z0 := blk_frozen hrr 0; have z1 := blk_frozen hrr 1; have z2 := blk_frozen hrr 2; have z3 := blk_frozen hrr 3; have y0 : w2.cell? ⟨w.heap.size + 1, 0, none⟩ = some (.int .i64 0) := (by { rw [blk_cell hrr]; rfl }); have y1 : w2.cell? ⟨w.heap.size + 1, 1, none⟩ = some (.slice none 0 0) := (by { rw [blk_cell hrr]; rfl }); have y2 : w2.cell? ⟨w.heap.size + 1, 2, none⟩ = some (.slice none 0 0) := (by { rw [blk_cell hrr]; rfl }); have y3 : w2.cell? ⟨w.heap.size + 1, 3, none⟩ = some (.slice none 0 0) := (by { rw [blk_cell hrr]; rfl }); clear hrr)
  obtain ⟨m0, m1, m2, m3⟩ := C4.put HRR.out (.int .i64 2) (.slice A l.length l.length) (.slice none 0 0) (.slice none 0 0)
  simp only [put4, Nat.zero_add] at m0 m1 m2 m3
  refine bodyPost_ret (v := .tuple #[.agg #[.int .i64 2, .slice A l.length l.length, .slice none 0 0, .slice none 0 0], .int .i64 0]) (by simp [results, Tryz.results9, go_sem, m0, m1, m2, m3]) rfl ?_
  have hlo := own_low HO2.out (show w.heap.size ≤ w1.heap.size by have := HG.out.size; have := HG1.out.size; omega)
  refine ⟨put_four_gb (gb_trans HG.out HG2.out (.inl rfl)) (Nat.le_succ _) _ _ _ _, A, l.length, by rw [HLN.out]; exact Nat.le_refl _, by rw [HLN.out], ?_⟩
  rw [HLN.out]
  exact hlo.kept (put_four_row _ _ _ _ _ _) (.inr (own_ne HO2.out HRR.out (by decide)))
end Go.Proofs.YtgepejnooghjbaaGreat

namespace Go.Proofs.YtgepejnooghjbaaGreat
open Go.RowKit
attribute [local go_sem ↓] Go.wp_at_zero Go.wp_at_succ

end Go.Proofs.YtgepejnooghjbaaGreat

namespace Go.Proofs.YtgepejnooghjbaaGreat
open Go.RowKit
attribute [local go_sem ↓] Go.wp_at_zero Go.wp_at_succ

end Go.Proofs.YtgepejnooghjbaaGreat

namespace Go.Proofs.YtgepejnooghjbaaGreat
open Go.RowKit
attribute [local go_sem ↓] Go.wp_at_zero Go.wp_at_succ

end Go.Proofs.YtgepejnooghjbaaGreat

namespace Go.Proofs.YtgepejnooghjbaaGreat
open Go.RowKit
attribute [local go_sem ↓] Go.wp_at_zero Go.wp_at_succ

/-- A value that a function gives with an error of 0: a value in new blocks. -/
def TupV (v : Vl) (w : World) (e : Ending) (w' : World) : Prop := ∃ nA nc sA sc lA lc f, e = .returned (.tuple #[.agg #[.int .i64 v.t, .slice nA v.n.length nc, .slice sA v.s.length sc, .slice lA v.l.length lc], .int .i64 0]) ∧
  VOw w' v [.int .i64 v.t, .slice nA v.n.length nc, .slice sA v.s.length sc, .slice lA v.l.length lc] f ∧ New w w' f ∧ w.grownBy w' none
end Go.Proofs.YtgepejnooghjbaaGreat

namespace Go.Proofs.YtgepejnooghjbaaGreat
open Go.RowKit
attribute [local go_sem ↓] Go.wp_at_zero Go.wp_at_succ

end Go.Proofs.YtgepejnooghjbaaGreat

namespace Go.Proofs.YtgepejnooghjbaaGreat
open Go.RowKit
attribute [local go_sem ↓] Go.wp_at_zero Go.wp_at_succ

theorem rd_lit (w : World) (cs : Array Value) (t : TypeId) (xs : List Value) (h : xs = cs.toList) : Rd (w.alloc (.cells cs t)) (w.alloc (.cells cs t)).heap.size (some ⟨w.heap.size, 0, none⟩) xs :=
  (Rd.new w cs t xs h).more (by rw [World.size_alloc]; exact Nat.le_refl _)
theorem DoR.lit {t : Int} {l : List Int} {w w' : World} {e : Ending} (n : Nat) (hn : l.length = n) (h : DoR (.ok (t, l)) w e w') :
    ∃ A c, e = .returned (.tuple #[.agg #[.int .i64 t, .slice A n c, .slice none 0 0, .slice none 0 0], .int .i64 0]) ∧ VB w' w'.heap.size (.mk t l [] []) A c none 0 none 0 ∧ w.grownBy w' none := by
  subst hn
  obtain ⟨hg, A, c, hlc, rfl, ho⟩ := h
  exact ⟨A, c, rfl, ⟨Rd.of_own ho, Rd.nil_, ⟨[], Rd.nil_, rfl⟩, hlc, Nat.le_refl _, Nat.le_refl _⟩, hg⟩
theorem rd_blk {w : World} {b : Nat} {cs : Array Value} {t : TypeId} {l : List Value} (h : w.heap[b]? = some (.cells cs t (0, 0))) (hl : l = cs.toList) : Rd w w.heap.size (some ⟨b, 0, none⟩) l := by
  intro _
  refine ⟨_, rfl, blk_lt h, fun k v hv => ?_⟩
  have : (⟨b, 0, none⟩ : Addr).add k = ⟨b, k, none⟩ := by unfold Addr.add; split <;> simp_all
  rw [this, blk_cell h]
  rw [hl] at hv
  simpa using hv
/-- A value in its box. -/
def BoxV (w : World) (b : Nat) (v : Vl) : Prop := ∃ nA nc sA sc lA lc, w.heap[b]? = some (.cells #[.int .i64 v.t, .slice nA v.n.length nc, .slice sA v.s.length sc, .slice lA v.l.length lc] 26 (0, 0)) ∧ VB w w.heap.size v nA nc sA sc lA lc
theorem BoxV.gb {w w' : World} {b : Nat} {v : Vl} (h : BoxV w b v) (hg : w.grownBy w' none) : BoxV w' b v := by
  obtain ⟨nA, nc, sA, sc, lA, lc, h1, h2⟩ := h
  exact ⟨nA, nc, sA, sc, lA, lc, blk_keep h1 hg (by simp), (h2.gb hg (Nat.le_refl _)).up hg.size⟩
theorem BoxV.new {w : World} {v : Vl} {nA : Option Addr} {nc : Nat} {sA : Option Addr} {sc : Nat} {lA : Option Addr} {lc : Nat} (h : VB w w.heap.size v nA nc sA sc lA lc) :
    BoxV (w.alloc (.cells #[.int .i64 v.t, .slice nA v.n.length nc, .slice sA v.s.length sc, .slice lA v.l.length lc] 26)) w.heap.size v :=
  ⟨nA, nc, sA, sc, lA, lc, heap_alloc_new w _, (h.gb (gb_alloc (gb_refl w none) _) (Nat.le_refl _)).up (by rw [World.size_alloc]; omega)⟩
section
variable (w : World)
end
end Go.Proofs.YtgepejnooghjbaaGreat

namespace Go.Proofs.YtgepejnooghjbaaGreat
open Go.RowKit
attribute [local go_sem ↓] Go.wp_at_zero Go.wp_at_succ

end Go.Proofs.YtgepejnooghjbaaGreat
