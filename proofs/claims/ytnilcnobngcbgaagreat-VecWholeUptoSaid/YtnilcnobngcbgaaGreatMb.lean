/-
  The law VecRounds, walked.
-/
import Derived.Test.YtnilcnobngcbgaaGreatMa
import Derived.Test.YtnilcnobngcbgaaGreatVq
import Derived.Test.YtnilcnobngcbgaaGreatWf
import Derived.Test.YtnilcnobngcbgaaGreatVd

namespace Go.Proofs.YtnilcnobngcbgaaGreat
open Go.RowKit
attribute [local go_sem ↓] Go.wp_at_zero Go.wp_at_succ

/-- One at least, and all of one kind. -/
def oneK (l : List Vl) : Bool := match l with
  | [] => false
  | h :: r => kdV h != 0 && !((h :: r).any fun x => kdV x != kdV h)
theorem oneK_def {l : List Vl} (h : 0 < l.length) : oneK l = (kdV l[0] != 0 && !(l.any fun x => kdV x != kdV l[0])) := by
  cases l with
  | nil => simp at h
  | cons a r => rfl
set_option maxHeartbeats 4000000 in
set_option maxRecDepth 100000 in
theorem ofOneKind_any (l : List Vl) (w : World) (B : Nat) (A : Option Addr) (c : Nat) (ht : l.length ≤ 1100000) (hB : B ≤ w.heap.size) (h : RdV w B A l) :
    Calls Tryz.prog 52 #[.slice A l.length c] w fun e w' => e = .returned (.bool (oneK l)) ∧ w.grownBy w' none := by
  obtain ⟨wa, hwa⟩ : ∃ wa, wa = w.alloc (.cells #[.slice A l.length c] 24) := ⟨_, rfl⟩
  have hb : wa.heap[w.heap.size]? = some (.cells #[.slice A l.length c] 24 (0, 0)) := by rw [hwa]; exact heap_alloc_new w _
  have hg : w.grownBy wa none := by rw [hwa]; exact gb_alloc (gb_refl w none) _
  have HB := hide hb
  have HG := hide hg
  have HWE := hide hwa
  have b0 : wa.cell? ⟨w.heap.size, 0, none⟩ = some (.slice A l.length c) := by rw [blk_cell hb]; rfl
  rcases Nat.eq_zero_or_pos l.length with hl | hl
  · have HO := hide (show oneK l = false by rw [List.eq_nil_of_length_eq_zero hl]; rfl)
    have hl0 : ((l.length : Int) == 0) = true := by simp [hl]
    have b0a := b0
    rw [hwa] at b0a
    clear hb hg hwa h hB ht hl
    generalize l.length = m at *
    go_enter Tryz.func52, Tryz.ntmps52
    go_wp2_with fail
    rw [← HWE.out]
    exact bodyPost_ret (v := .bool false) (by simp [results, Tryz.results52, go_sem]) rfl ⟨by rw [HO.out], HG.out⟩
  obtain ⟨b, o, xA, xc, yA, yc, zA, zc, rfl, hbB, hc4, _⟩ := h.first hl
  have hl0 : ((l.length : Int) == 0) = false := int_beq_f (by omega)
  have hl1 : (0 : Int) < (l.length : Int) := by omega
  obtain ⟨d0, d1, d2, d3⟩ := hc4.gb hg
  have HD := hide hc4
  have b0a := b0
  rw [hwa] at b0a
  have e0 := d0; have e1 := d1; have e2 := d2; have e3 := d3
  rw [hwa] at e0 e1 e2 e3
  have HKD := hide (fun w2 => (kind_any l[0].t xA l[0].n.length xc yA l[0].s.length yc (.slice zA l[0].l.length zc) w2).mono (fun e w' h => (⟨h.1, h.2⟩ : e = .returned (.int .i64 (kdV l[0])) ∧ w2.grownBy w' none)))
  have HUN := hide (fun w2 (hg2 : wa.grownBy w2 none) => unlike_has l w2 B (some ⟨b, o, none⟩) c ht (Nat.le_trans (Nat.le_trans hB hg.size) hg2.size) (h.gb (gb_trans hg hg2 (.inl rfl)) hB) (kdV l[0]) w.heap.size (fun w3 hg3 x xA' xc' yA' yc' zA' zc' => unlike_any x l[0] w3 xA' xc' yA' yc' zA' zc' xA xc yA yc zA zc w.heap.size b o l.length c hl (cell_gb b0 (gb_trans hg2 hg3 (.inl rfl))) (hc4.gb (gb_trans hg (gb_trans hg2 hg3 (.inl rfl)) (.inl rfl)))))
  have HOD := hide (oneK_def hl)
  clear hb hg hwa h hB ht hc4
  by_cases hk : kdV l[0] = 0
  · have HO := hide (show oneK l = false by rw [HOD.out, hk]; rfl)
    have hk0 : (kdV l[0] == 0) = true := by simp [hk]
    clear hk
    generalize kdV l[0] = K at *
    go_enter Tryz.func52, Tryz.ntmps52
    go_wp2_with (go_at_call 44; rw [← HWE.out]; refine (HKD.out _).mono ?_; rintro e w1 ⟨rfl, hg1⟩; have HG1 := hide hg1; clear hg1)
    exact bodyPost_ret (v := .bool false) (by simp [results, Tryz.results52, go_sem]) rfl ⟨by rw [HO.out], gb_trans HG.out HG1.out (.inl rfl)⟩
  · have HO := hide (show oneK l = !(l.any fun x => kdV x != kdV l[0]) by rw [HOD.out, show (kdV l[0] != 0) = true by simp [hk]]; rfl)
    have hk0 : (kdV l[0] == 0) = false := int_beq_f hk
    clear hk
    generalize (l.any fun x => kdV x != kdV l[0]) = bb at *
    generalize kdV l[0] = K at *
    go_enter Tryz.func52, Tryz.ntmps52
    go_wp2_with (first
      | (go_at_call 44; rw [← HWE.out]; refine (HKD.out _).mono ?_; rintro e w1 ⟨rfl, hg1⟩; have HG1 := hide hg1; have b0 := cell_gb b0 hg1; clear hg1)
      | (go_at_call 50; refine (HUN.out _ HG1.out).mono ?_; rintro e w2 ⟨rfl, hg2⟩; have HG2 := hide hg2; clear hg2))
    exact bodyPost_ret (v := .bool !bb) (by simp [results, Tryz.results52, go_sem]) rfl ⟨by rw [HO.out], gb_trans HG.out (gb_trans HG1.out HG2.out (.inl rfl)) (.inl rfl)⟩
/-- A value that a function gives with an error of 0: a value in new blocks. -/
def TupV (v : Vl) (w : World) (e : Ending) (w' : World) : Prop := ∃ nA nc sA sc lA lc f, e = .returned (.tuple #[.agg #[.int .i64 v.t, .slice nA v.n.length nc, .slice sA v.s.length sc, .slice lA v.l.length lc], .int .i64 0]) ∧
  VOw w' v [.int .i64 v.t, .slice nA v.n.length nc, .slice sA v.s.length sc, .slice lA v.l.length lc] f ∧ New w w' f ∧ w.grownBy w' none
/-- How many elements a join takes of all. -/
def widS (l : List Vl) : Nat := (l.map widV).foldr (· + ·) 0
theorem widS_take (l : List Vl) (j : Nat) (h : j < l.length) : widS (l.take (j + 1)) = widS (l.take j) + widV l[j] := by
  rw [List.take_succ_eq_append_getElem h]
  unfold widS
  induction l.take j with
  | nil => simp
  | cons a r ih => simp only [List.cons_append, List.map_cons, List.foldr_cons, ih]; omega
theorem widS_le (l : List Vl) (j : Nat) : widS (l.take j) ≤ widS l := by
  conv => rhs; rw [← List.take_append_drop j l]
  unfold widS
  induction l.take j with
  | nil => simp
  | cons a r ih => simp only [List.cons_append, List.map_cons, List.foldr_cons]; omega
set_option maxHeartbeats 4000000 in
set_option maxRecDepth 100000 in
theorem join_kind (l : List Vl) (K : Int) (n : List Int) (s : List ByteArray) (HNE : Hid (l.flatMap Vl.n = n)) (HSE : Hid (l.flatMap Vl.s = s)) (w : World) (B : Nat) (A : Option Addr) (c : Nat) (hl0 : 0 < l.length) (hk : kdV l[0] = K) (hone : oneK l = true) (hnil : l.any vNl = false) (hw : widS l ≤ 65536) (ht : Vl.tots l ≤ 1100000) (hB : B ≤ w.heap.size) (h : RdV w B A l) :
    Calls Tryz.prog 25 #[.slice A l.length c] w (TupV (.mk K n s []) w) := by
  have l1 : l.length ≤ 1100000 := Nat.le_trans (Vl.length_le_tots l) ht
  obtain ⟨wa, hwa⟩ : ∃ wa, wa = w.alloc (.cells #[.int .i64 0, .slice none 0 0, .slice none 0 0, .slice none 0 0] 26) := ⟨_, rfl⟩
  have hb : wa.heap[w.heap.size]? = some (.cells #[.int .i64 0, .slice none 0 0, .slice none 0 0, .slice none 0 0] 26 (0, 0)) := by rw [hwa]; exact heap_alloc_new w _
  have hg : w.grownBy wa none := by rw [hwa]; exact gb_alloc (gb_refl w none) _
  have HB := hide hb
  have HG := hide hg
  have HWE := hide hwa
  have HSZ := hide (show wa.heap.size = w.heap.size + 1 by rw [hwa]; simp)
  have HBB := hide hB
  have HT := hide ht
  have H := hide h
  have HL := hide l1
  have HWS := hide hw
  have HNL := hide (fun w2 (hg : w.grownBy w2 none) => (vNil_has l w2 B A c l1 (Nat.le_trans hB hg.size) (h.gb hg hB)).mono (fun e w' h => (⟨h.1.trans (by rw [hnil]), h.2⟩ : e = .returned (.bool false) ∧ w2.grownBy w' none)))
  have HOK := hide (fun w2 (hg : w.grownBy w2 none) => (ofOneKind_any l w2 B A c l1 (Nat.le_trans hB hg.size) (h.gb hg hB)).mono (fun e w' h => (⟨h.1.trans (by rw [hone]), h.2⟩ : e = .returned (.bool true) ∧ w2.grownBy w' none)))
  have HJ := hide (fun w2 (hg : w.grownBy w2 none) => joined_any l K n s HNE HSE w2 B A c hl0 hk ht (Nat.le_trans hB hg.size) (h.gb hg hB))
  have h13 : decide ((65536 : Int) < (widS l : Int)) = false := decide_eq_false (by omega)
  clear hb hg hwa hB ht h l1 hw hk hone hnil hl0 HNE HSE
  go_enter Tryz.func25, Tryz.ntmps25
  go_wp2_with fail
  rw [← HWE.out]
  go_loopw [4, 13] (fun u i wr => ∃ j : Nat, i = .int .i64 (j : Int) ∧ u = .int .i64 (widS (l.take j) : Nat) ∧ j ≤ l.length ∧ wa.grownBy wr none) (fun _ i _ => l.length - (intOf i).toNat)
  case atStart => exact ⟨0, rfl, rfl, Nat.zero_le _, gb_refl wa none⟩
  case round =>
    obtain ⟨j, rfl, rfl, hj, hgr⟩ := hrel
    by_cases hlt : j < l.length
    · have hlt1 : (j : Int) < (l.length : Int) := by omega
      obtain ⟨q, p, xA, xc, yA, yc, zA, zc, hA, hqB, hc4, hvb⟩ := H.out.at_ hlt
      subst hA
      have hgw : w.grownBy wr none := gb_trans HG.out hgr (.inl rfl)
      obtain ⟨f0, f1, f2, f3⟩ := hc4.gb hgw
      have hvr := hvb.gb hgw HBB.out
      have hW := widS_take l j hlt
      have hle := widS_le l (j + 1)
      have h6 : IntKind.i64.wrap ((j : Int) + 1) = ((j + 1 : Nat) : Int) := by rw [IntKind.wrap_i64]; have := HL.out; omega
      have h7 : IntKind.i64.wrap ((widS (l.take j) : Int) + (widV l[j] : Int)) = (widS (l.take (j + 1)) : Int) := by rw [IntKind.wrap_i64, hW]; have := HWS.out; omega
      have HWD := hide (fun w2 (hg : wr.grownBy w2 none) => width_any l[j] w2 B xA xc yA yc zA zc (Nat.le_trans (Vl.tot_mem (List.getElem_mem hlt)) HT.out) (by have := HBB.out; have := hgw.size; have := hg.size; omega) (hvr.gb hg (by have := HBB.out; have := hgw.size; omega)))
      have HGR := hide hgr
      have HLT := hide hlt
      have C4n := hide (C4.box wr (.int .i64 l[j].t) (.slice xA l[j].n.length xc) (.slice yA l[j].s.length yc) (.slice zA l[j].l.length zc) 26)
      clear hc4 hvb hgw hvr hW hle hgr hj
      generalize widS (l.take j) = s0 at *
      obtain ⟨s1, hs1⟩ : ∃ s1, s1 = widS (l.take (j + 1)) := ⟨_, rfl⟩
      rw [← hs1] at h7
      have HS1 := hide hs1
      clear hs1
      generalize widV l[j] = s2 at *
      go_wp2_with (go_at_call 49; refine (HWD.out _ (gb_alloc (gb_refl wr none) _)).mono ?_; rintro e w1 ⟨rfl, hg1⟩; have HG1 := hide (gb_trans (gb_alloc (gb_refl wr none) _) hg1 (.inl rfl)); clear hg1)
      go_roundw
      case rel => exact ⟨j + 1, by go_num, by rw [← HS1.out], by have := HLT.out; omega, gb_trans HGR.out HG1.out (.inl rfl)⟩
      case measure => have := HLT.out; simp [intOf]; omega
    · have hlt1 : ¬ (j : Int) < (l.length : Int) := by omega
      obtain rfl : j = l.length := by omega
      rw [List.take_length]
      have HGR := hide hgr
      have HG2 := hide (gb_trans HG.out hgr (.inl rfl))
      clear hgr hlt hj
      go_wp2_with (first
        | (go_at_call 50; refine (HNL.out _ HG2.out).mono ?_; rintro e w1 ⟨rfl, hg1⟩; have HG3 := hide (gb_trans HG2.out hg1 (.inl rfl)); have HGS := hide (gb_trans HGR.out hg1 (.inl rfl)); clear hg1)
        | (go_at_call 52; refine (HOK.out _ HG3.out).mono ?_; rintro e w2 ⟨rfl, hg2⟩; have HG4 := hide (gb_trans HG3.out hg2 (.inl rfl)); have HGT := hide (gb_trans HGS.out hg2 (.inl rfl)); clear hg2)
        | (go_at_call 53; refine (HJ.out _ HG4.out).mono ?_; rintro e w3 ⟨nA, nc, sA, sc, lA, lc, f, he, ho, hn, hg3⟩; obtain rfl : e = .returned (.agg #[.int .i64 K, .slice nA n.length nc, .slice sA s.length sc, .slice lA 0 lc]) := he; have HO := hide ho; have HN := hide hn; have HG5 := hide (gb_trans HG4.out hg3 (.inl rfl)); have hr2 := blk_keep HB.out (gb_trans HGT.out hg3 (.inl rfl)) (by simp); have HR2 := hide hr2; have z0 := blk_frozen hr2 0; have z1 := blk_frozen hr2 1; have z2 := blk_frozen hr2 2; have z3 := blk_frozen hr2 3; have y0 : w3.cell? ⟨w.heap.size, 0, none⟩ = some (.int .i64 0) := (by { rw [blk_cell hr2]; rfl }); have y1 : w3.cell? ⟨w.heap.size, 1, none⟩ = some (.slice none 0 0) := (by { rw [blk_cell hr2]; rfl }); have y2 : w3.cell? ⟨w.heap.size, 2, none⟩ = some (.slice none 0 0) := (by { rw [blk_cell hr2]; rfl }); have y3 : w3.cell? ⟨w.heap.size, 3, none⟩ = some (.slice none 0 0) := (by { rw [blk_cell hr2]; rfl }); clear ho hn hg3 hr2))
      have hb := put_four HR2.out (.int .i64 K) (.slice nA n.length nc) (.slice sA s.length sc) (.slice lA 0 lc)
      have m0 : ((((w3.setCell ⟨w.heap.size, 0, none⟩ (.int .i64 K)).setCell ⟨w.heap.size, 1, none⟩ (.slice nA n.length nc)).setCell ⟨w.heap.size, 2, none⟩ (.slice sA s.length sc)).setCell ⟨w.heap.size, 3, none⟩ (.slice lA 0 lc)).cell? ⟨w.heap.size, 0, none⟩ = some (.int .i64 K) := (blk_cell hb 0).trans rfl
      have m1 : ((((w3.setCell ⟨w.heap.size, 0, none⟩ (.int .i64 K)).setCell ⟨w.heap.size, 1, none⟩ (.slice nA n.length nc)).setCell ⟨w.heap.size, 2, none⟩ (.slice sA s.length sc)).setCell ⟨w.heap.size, 3, none⟩ (.slice lA 0 lc)).cell? ⟨w.heap.size, 1, none⟩ = some (.slice nA n.length nc) := (blk_cell hb 1).trans rfl
      have m2 : ((((w3.setCell ⟨w.heap.size, 0, none⟩ (.int .i64 K)).setCell ⟨w.heap.size, 1, none⟩ (.slice nA n.length nc)).setCell ⟨w.heap.size, 2, none⟩ (.slice sA s.length sc)).setCell ⟨w.heap.size, 3, none⟩ (.slice lA 0 lc)).cell? ⟨w.heap.size, 2, none⟩ = some (.slice sA s.length sc) := (blk_cell hb 2).trans rfl
      have m3 : ((((w3.setCell ⟨w.heap.size, 0, none⟩ (.int .i64 K)).setCell ⟨w.heap.size, 1, none⟩ (.slice nA n.length nc)).setCell ⟨w.heap.size, 2, none⟩ (.slice sA s.length sc)).setCell ⟨w.heap.size, 3, none⟩ (.slice lA 0 lc)).cell? ⟨w.heap.size, 3, none⟩ = some (.slice lA 0 lc) := (blk_cell hb 3).trans rfl
      refine bodyPost_ret (v := .tuple #[.agg #[.int .i64 K, .slice nA n.length nc, .slice sA s.length sc, .slice lA 0 lc], .int .i64 0]) (by simp [results, Tryz.results25, go_sem, m0, m1, m2, m3]) rfl ?_
      have hsz := HGT.out.size
      have hsz2 := HSZ.out
      have hsz3 := HG4.out.size
      refine ⟨nA, nc, sA, sc, lA, lc, f, rfl, ?_, ⟨HN.out.1, fun b hb => ?_⟩, put_four_gb HG5.out (Nat.le_refl _) _ _ _ _⟩
      · exact VOw.keep _ _ _ HO.out fun b hm => put_four_other (by have := (HN.out.2 b hm).1; omega) _ _ _ _
      · have h2 := HN.out.2 b hb
        refine ⟨by omega, ?_⟩
        simp [World.setCell]
        exact h2.2
end Go.Proofs.YtnilcnobngcbgaaGreat

namespace Go.Proofs.YtnilcnobngcbgaaGreat
open Go.RowKit
attribute [local go_sem ↓] Go.wp_at_zero Go.wp_at_succ

set_option maxHeartbeats 2000000 in
set_option maxRecDepth 100000 in
theorem num7_any (n : Int) (w : World) : Calls Tryz.prog 13 #[.int .i64 n] w fun e w' => e = .returned (.int .i64 n) ∧ w = w' := by
  go_enter Tryz.func13, Tryz.ntmps13
  go_wp2_with fail
  exact bodyPost_ret (v := .int .i64 n) (by simp [results, Tryz.results13, go_sem]) rfl ⟨rfl, rfl⟩
set_option maxHeartbeats 2000000 in
set_option maxRecDepth 100000 in
theorem vector2_any (l : List Int) (w : World) (A : Option Addr) (c : Nat) (hl : l.length ≤ 1100000) (hr : Rd w w.heap.size A (i64s l)) :
    Calls Tryz.prog 58 #[.int .i64 2, .slice A l.length c] w (NewV (.mk 2 l [] []) w) := by
  obtain ⟨wa, hwa⟩ : ∃ wa, wa = w.alloc (.cells #[.int .i64 0, .slice none 0 0, .slice none 0 0, .slice none 0 0] 26) := ⟨_, rfl⟩
  have hb : wa.heap[w.heap.size]? = some (.cells #[.int .i64 0, .slice none 0 0, .slice none 0 0, .slice none 0 0] 26 (0, 0)) := by rw [hwa]; exact heap_alloc_new w _
  have hg : w.grownBy wa none := by rw [hwa]; exact gb_alloc (gb_refl w none) _
  have HB := hide hb
  have HG := hide hg
  have HWE := hide hwa
  have HSZ := hide (show wa.heap.size = w.heap.size + 1 by rw [hwa]; simp)
  obtain ⟨i1, hi1, hiz, his, hib⟩ := info_parts Tryz.info64
  have HI1 := hide hi1
  have HIZ := hide hiz
  have HIS := hide his
  have HIB := hide hib
  have hro : (wa.alloc (.cells #[] 2)).ownsRow (w.heap.size + 1) 2 1 (.slice (some ⟨w.heap.size + 1, 0, none⟩) 0 0) 0 [] := by
    have h := World.ownsRow_lit (base := w.heap.size + 1) (e := 2) (size := 1) wa #[] 0 (by rw [HSZ.out]; exact Nat.le_refl _) (by decide) rfl
    rw [HSZ.out] at h
    exact h
  have HO := hide hro
  have hga : w.grownBy (wa.alloc (.cells #[] 2)) none := gb_alloc hg _
  have HGA := hide (show wa.grownBy (wa.alloc (.cells #[] 2)) none from gb_alloc (gb_refl wa none) _)
  have HR2 := hide (hr.grown hga (Nat.le_refl _) (by simp))
  have HL1 : Hid ((i64s l).length = l.length * 1) := hide (by simp [i64s])
  have HOC := hide (i64s_one l)
  have HM1 : Hid (0 + l.length ≤ maxLen) := hide (by unfold maxLen; omega)
  have HMB : Hid ((0 + l.length) * 8 ≤ 140737488355328) := hide (by omega)
  have HBS : Hid (w.heap.size + 1 ≤ (wa.alloc (.cells #[] 2)).heap.size) := hide (by rw [World.size_alloc, HSZ.out]; omega)
  have HLL := hide (Nat.zero_add l.length)
  clear hb hg hwa hr hl hi1 hiz his hib hro hga
  go_enter Tryz.func58, Tryz.ntmps58
  go_wp2_with (at_builtin; rw [← HWE.out]; refine wpList_append_rd _ rfl (.tmp 6) (.tmp 7) 22 rfl (w.heap.size + 1) 2 i1 (.int .i64 0) 1 8 Tryz.underlying22 HI1.out HIZ.out HIS.out HIB.out rfl (Nat.succ_pos 0) (.slice (some ⟨w.heap.size + 1, 0, none⟩) 0 0) 0 [] rfl HO.out w.heap.size A l.length c (i64s l) rfl HL1.out HR2.out HOC.out HM1.out HMB.out HBS.out ?_
               intro v5 w5 ho5 hg5 hb5
               rw [HLL.out, List.nil_append] at ho5
               obtain ⟨N5, nc5, rfl, hnc5⟩ := own_slice ho5
               have HO5 := hide ho5
               have hgo : (wa.alloc (.cells #[] 2)).grownBy w5 (some (w.heap.size + 1)) := hg5
               have HG5 := hide (show wa.grownBy w5 none from gb_trans HGA.out hgo (.inr (.inr ⟨_, rfl, by rw [HSZ.out]; exact Nat.le_refl _⟩)))
               have hr2 := (HG5.out.block _ (blk_lt HB.out) (by simp)).trans HB.out
               have HNC := hide hnc5
               have HR5 := hide hr2
               have z0 := blk_frozen hr2 0
               have z1 := blk_frozen hr2 1
               have z2 := blk_frozen hr2 2
               have z3 := blk_frozen hr2 3
               have y0 : w5.cell? ⟨w.heap.size, 0, none⟩ = some (.int .i64 0) := (by { rw [blk_cell hr2]; rfl })
               have y1 : w5.cell? ⟨w.heap.size, 1, none⟩ = some (.slice none 0 0) := (by { rw [blk_cell hr2]; rfl })
               have y2 : w5.cell? ⟨w.heap.size, 2, none⟩ = some (.slice none 0 0) := (by { rw [blk_cell hr2]; rfl })
               have y3 : w5.cell? ⟨w.heap.size, 3, none⟩ = some (.slice none 0 0) := (by { rw [blk_cell hr2]; rfl })
               clear ho5 hg5 hb5 hgo hr2 hnc5)
  obtain ⟨f1, o1, b1⟩ := Own.of_row HO5.out
  have hn : New wa w5 (f1 ++ ([] ++ ([] ++ []))) := by
    simp only [List.append_nil]
    refine ⟨?_, fun b hb => ?_⟩
    · match f1, o1.len with
      | [], _ => simp
      | [x], _ => simp
    · have := b1 b hb
      have := HSZ.out
      exact ⟨by omega, by omega⟩
  have hb := put_four HR5.out (.int .i64 2) (.slice N5 l.length nc5) (.slice none 0 0) (.slice none 0 0)
  have m0 := blk_cell hb 0
  have m1 := blk_cell hb 1
  have m2 := blk_cell hb 2
  have m3 := blk_cell hb 3
  simp only [List.getElem?_toArray, List.getElem?_cons_zero, List.getElem?_cons_succ] at m0 m1 m2 m3
  refine bodyPost_ret (v := .agg #[.int .i64 2, .slice N5 l.length nc5, .slice none 0 0, .slice none 0 0]) (by simp [results, Tryz.results58, go_sem, m0, m1, m2, m3]) rfl ?_
  exact NewV.of_put (v := .mk 2 l [] []) (f1 := f1) (f2 := []) (f := []) (g := []) (xs := []) HSZ.out HG.out HG5.out HNC.out o1 (Nat.le_refl _) (.inl ⟨rfl, rfl⟩) (Nat.le_refl _) (.inl ⟨rfl, rfl⟩) ⟨rfl, rfl⟩ hn
set_option maxHeartbeats 2000000 in
set_option maxRecDepth 100000 in
theorem ints7_any (l : List Int) (w : World) (A : Option Addr) (c : Nat) (hl : l.length ≤ 1100000) (hr : Rd w w.heap.size A (i64s l)) :
    Calls Tryz.prog 28 #[.slice A l.length c] w (NewV (.mk 2 l [] []) w) := by
  obtain ⟨wa, hwa⟩ : ∃ wa, wa = w.alloc (.cells #[.int .i64 0, .slice none 0 0, .slice none 0 0, .slice none 0 0] 26) := ⟨_, rfl⟩
  have hb : wa.heap[w.heap.size]? = some (.cells #[.int .i64 0, .slice none 0 0, .slice none 0 0, .slice none 0 0] 26 (0, 0)) := by rw [hwa]; exact heap_alloc_new w _
  have hg : w.grownBy wa none := by rw [hwa]; exact gb_alloc (gb_refl w none) _
  have HB := hide hb
  have HG := hide hg
  have HWE := hide hwa
  have HSZ := hide (show wa.heap.size = w.heap.size + 1 by rw [hwa]; simp)
  have HV := hide (vector2_any l wa A c hl ((hr.grown hg (Nat.le_refl _) (by simp)).more hg.size))
  clear hb hg hwa hr hl
  go_enter Tryz.func28, Tryz.ntmps28
  go_wp2_with (go_at_call 58; rw [← HWE.out]; refine HV.out.mono ?_; rintro e w3 ⟨nA, nc, sA, sc, lA, lc, f, he, ho, hn, hg3⟩; obtain rfl : e = .returned (.agg #[.int .i64 2, .slice nA l.length nc, .slice sA 0 sc, .slice lA 0 lc]) := he; have HO := hide ho; have HN := hide hn; have HG5 := hide (gb_trans HG.out hg3 (.inl rfl)); have hr2 := blk_keep HB.out hg3 (by simp); have HR2 := hide hr2; have z0 := blk_frozen hr2 0; have z1 := blk_frozen hr2 1; have z2 := blk_frozen hr2 2; have z3 := blk_frozen hr2 3; have y0 : w3.cell? ⟨w.heap.size, 0, none⟩ = some (.int .i64 0) := (by { rw [blk_cell hr2]; rfl }); have y1 : w3.cell? ⟨w.heap.size, 1, none⟩ = some (.slice none 0 0) := (by { rw [blk_cell hr2]; rfl }); have y2 : w3.cell? ⟨w.heap.size, 2, none⟩ = some (.slice none 0 0) := (by { rw [blk_cell hr2]; rfl }); have y3 : w3.cell? ⟨w.heap.size, 3, none⟩ = some (.slice none 0 0) := (by { rw [blk_cell hr2]; rfl }); clear ho hn hg3 hr2)
  have hb := put_four HR2.out (.int .i64 2) (.slice nA l.length nc) (.slice sA 0 sc) (.slice lA 0 lc)
  have m0 := blk_cell hb 0
  have m1 := blk_cell hb 1
  have m2 := blk_cell hb 2
  have m3 := blk_cell hb 3
  simp only [List.getElem?_toArray, List.getElem?_cons_zero, List.getElem?_cons_succ] at m0 m1 m2 m3
  refine bodyPost_ret (v := .agg #[.int .i64 2, .slice nA l.length nc, .slice sA 0 sc, .slice lA 0 lc]) (by simp [results, Tryz.results28, go_sem, m0, m1, m2, m3]) rfl ?_
  have hsz := HSZ.out
  refine ⟨nA, nc, sA, sc, lA, lc, f, rfl, ?_, ⟨HN.out.1, fun b hb => ?_⟩, put_four_gb HG5.out (Nat.le_refl _) _ _ _ _⟩
  · exact VOw.keep _ _ _ HO.out fun b hm => put_four_other (by have := (HN.out.2 b hm).1; omega) _ _ _ _
  · have h2 := HN.out.2 b hb
    refine ⟨by omega, ?_⟩
    simp [World.setCell]
    exact h2.2
end Go.Proofs.YtnilcnobngcbgaaGreat

namespace Go.Proofs.YtnilcnobngcbgaaGreat
open Go.RowKit
attribute [local go_sem ↓] Go.wp_at_zero Go.wp_at_succ

theorem rd_lit (w : World) (cs : Array Value) (t : TypeId) (xs : List Value) (h : xs = cs.toList) : Rd (w.alloc (.cells cs t)) (w.alloc (.cells cs t)).heap.size (some ⟨w.heap.size, 0, none⟩) xs :=
  (Rd.new w cs t xs h).more (by rw [World.size_alloc]; exact Nat.le_refl _)
theorem ints_new (l : List Int) (cs : Array Value) (hcs : i64s l = cs.toList) (n : Nat) (hn : l.length = n) (w : World) (hl : l.length ≤ 1100000) :
    Calls Tryz.prog 28 #[.slice (some ⟨w.heap.size, 0, none⟩) n n] (w.alloc (.cells cs 2)) fun e w' => ∃ nA nc sA sc lA lc, e = .returned (.agg #[.int .i64 2, .slice nA n nc, .slice sA 0 sc, .slice lA 0 lc]) ∧ VB w' w'.heap.size (.mk 2 l [] []) nA nc sA sc lA lc ∧ w.grownBy w' none := by
  subst hn
  refine (ints7_any l _ _ _ hl (rd_lit w cs _ _ hcs)).mono ?_
  rintro e w' ⟨nA, nc, sA, sc, lA, lc, f, he, ho, _, hg⟩
  exact ⟨nA, nc, sA, sc, lA, lc, he, ho.vb, gb_trans (gb_alloc (gb_refl w none) _) hg (.inl rfl)⟩
theorem atom_new (n : Int) (w : World) : Calls Tryz.prog 21 #[.int .i64 2, .int .i64 n] w fun e w' => ∃ nA nc sA sc lA lc, e = .returned (.agg #[.int .i64 (-2), .slice nA 1 nc, .slice sA 0 sc, .slice lA 0 lc]) ∧ VB w' w'.heap.size (.mk (-2) [n] [] []) nA nc sA sc lA lc ∧ w.grownBy w' none := by
  refine (rAtomI_any n w).mono ?_
  rintro e w' ⟨nA, nc, sA, sc, lA, lc, f, he, ho, _, hg⟩
  exact ⟨nA, nc, sA, sc, lA, lc, he, ho.vb, hg⟩
theorem DoR.lit {t : Int} {l : List Int} {w w' : World} {e : Ending} (n : Nat) (hn : l.length = n) (h : DoR (.ok (t, l)) w e w') :
    ∃ A c, e = .returned (.tuple #[.agg #[.int .i64 t, .slice A n c, .slice none 0 0, .slice none 0 0], .int .i64 0]) ∧ VB w' w'.heap.size (.mk t l [] []) A c none 0 none 0 ∧ w.grownBy w' none := by
  subst hn
  obtain ⟨hg, A, c, hlc, rfl, ho⟩ := h
  exact ⟨A, c, rfl, ⟨Rd.of_own ho, Rd.nil_, ⟨[], Rd.nil_, rfl⟩, hlc, Nat.le_refl _, Nat.le_refl _⟩, hg⟩
theorem rdV_two {w : World} {a b : Vl} {aA : Option Addr} {ac : Nat} {bA : Option Addr} {bc : Nat} {cA : Option Addr} {cc : Nat} {dA : Option Addr} {dc : Nat} {eA : Option Addr} {ec : Nat} {fA : Option Addr} {fc : Nat}
    (ha : VB w w.heap.size a aA ac bA bc cA cc) (hb : VB w w.heap.size b dA dc eA ec fA fc) :
    RdV (w.alloc (.cells #[.int .i64 a.t, .slice aA a.n.length ac, .slice bA a.s.length bc, .slice cA a.l.length cc, .int .i64 b.t, .slice dA b.n.length dc, .slice eA b.s.length ec, .slice fA b.l.length fc] 26))
      (w.alloc (.cells #[.int .i64 a.t, .slice aA a.n.length ac, .slice bA a.s.length bc, .slice cA a.l.length cc, .int .i64 b.t, .slice dA b.n.length dc, .slice eA b.s.length ec, .slice fA b.l.length fc] 26)).heap.size (some ⟨w.heap.size, 0, none⟩) [a, b] := by
  have hg := gb_alloc (gb_refl w none) (.cells #[.int .i64 a.t, .slice aA a.n.length ac, .slice bA a.s.length bc, .slice cA a.l.length cc, .int .i64 b.t, .slice dA b.n.length dc, .slice eA b.s.length ec, .slice fA b.l.length fc] 26)
  exact ⟨[[.int .i64 a.t, .slice aA a.n.length ac, .slice bA a.s.length bc, .slice cA a.l.length cc], [.int .i64 b.t, .slice dA b.n.length dc, .slice eA b.s.length ec, .slice fA b.l.length fc]], rd_lit w _ _ _ rfl,
    ⟨_, _, rfl, ((ha.gb hg (Nat.le_refl _)).up hg.size).at_, _, _, rfl, ((hb.gb hg (Nat.le_refl _)).up hg.size).at_, rfl⟩⟩
theorem rd_blk {w : World} {b : Nat} {cs : Array Value} {t : TypeId} {l : List Value} (h : w.heap[b]? = some (.cells cs t (0, 0))) (hl : l = cs.toList) : Rd w w.heap.size (some ⟨b, 0, none⟩) l := by
  intro _
  refine ⟨_, rfl, blk_lt h, fun k v hv => ?_⟩
  have : (⟨b, 0, none⟩ : Addr).add k = ⟨b, k, none⟩ := by unfold Addr.add; split <;> simp_all
  rw [this, blk_cell h]
  rw [hl] at hv
  simpa using hv
/-- A value in its box. -/
def BoxV (w : World) (b : Nat) (v : Vl) : Prop := ∃ nA nc sA sc lA lc, w.heap[b]? = some (.cells #[.int .i64 v.t, .slice nA v.n.length nc, .slice sA v.s.length sc, .slice lA v.l.length lc] 26 (0, 0)) ∧ VB w w.heap.size v nA nc sA sc lA lc
theorem BoxV.gb {w w' : World} {b : Nat} {v : Vl} (h : BoxV w b v) (hg : w.grownBy w' none) : BoxV w' b v := by
  obtain ⟨nA, nc, sA, sc, lA, lc, h1, h2⟩ := h
  exact ⟨nA, nc, sA, sc, lA, lc, blk_keep h1 hg (by simp), (h2.gb hg (Nat.le_refl _)).up hg.size⟩
theorem BoxV.new {w : World} {v : Vl} {nA : Option Addr} {nc : Nat} {sA : Option Addr} {sc : Nat} {lA : Option Addr} {lc : Nat} (h : VB w w.heap.size v nA nc sA sc lA lc) :
    BoxV (w.alloc (.cells #[.int .i64 v.t, .slice nA v.n.length nc, .slice sA v.s.length sc, .slice lA v.l.length lc] 26)) w.heap.size v :=
  ⟨nA, nc, sA, sc, lA, lc, heap_alloc_new w _, (h.gb (gb_alloc (gb_refl w none) _) (Nat.le_refl _)).up (by rw [World.size_alloc]; omega)⟩
theorem intV_lit (t : Int) (l : List Int) (ht : t = 2 ∨ t = -2 ∧ l.length = 1) (hl : l.length ≤ 1000000) (hi : ∀ k ∈ l, I64 k) : IntV (.mk t l [] []) :=
  ⟨ht, hl, hi, by rw [Vl.tot_def]; show 1 + l.length + 0 + 0 + 0 ≤ 1100000; omega⟩
section
variable (w : World)
theorem iv12 : IntV (Vl.mk (2) [1, 2] [] []) := intV_lit _ _ (by decide) (by decide) (by intro k hk; simp at hk; unfold I64; omega)
theorem iv1020 : IntV (Vl.mk (2) [10, 20] [] []) := intV_lit _ _ (by decide) (by decide) (by intro k hk; simp at hk; unfold I64; omega)
theorem iv7 : IntV (Vl.mk (-2) [-7] [] []) := intV_lit _ _ (by decide) (by decide) (by intro k hk; simp at hk; unfold I64; omega)
theorem iv2 : IntV (Vl.mk (2) [2] [] []) := intV_lit _ _ (by decide) (by decide) (by intro k hk; simp at hk; unfold I64; omega)
theorem ivM : IntV (Vl.mk (-2) [9223372036854775807] [] []) := intV_lit _ _ (by decide) (by decide) (by intro k hk; simp at hk; unfold I64; omega)
theorem iv1 : IntV (Vl.mk (-2) [1] [] []) := intV_lit _ _ (by decide) (by decide) (by intro k hk; simp at hk; unfold I64; omega)
theorem iv123 : IntV (Vl.mk (2) [1, 2, 3] [] []) := intV_lit _ _ (by decide) (by decide) (by intro k hk; simp at hk; unfold I64; omega)
theorem iv23 : IntV (Vl.mk (2) [2, 3] [] []) := intV_lit _ _ (by decide) (by decide) (by intro k hk; simp at hk; unfold I64; omega)
end
theorem ev1 : doI (strictF sumF) (Vl.mk (2) [1, 2] [] []) (Vl.mk (2) [10, 20] [] []) = .ok (2, [11, 22]) := by rfl
theorem ev2 : doI (strictF quoF) (Vl.mk (-2) [-7] [] []) (Vl.mk (2) [2] [] []) = .ok (2, [-4]) := by rfl
theorem ev3 : doI (strictF sumF) (Vl.mk (-2) [9223372036854775807] [] []) (Vl.mk (-2) [1] [] []) = .error 70 := by rfl
theorem ev4 : doI (strictF sumF) (Vl.mk (2) [1, 2] [] []) (Vl.mk (2) [1, 2, 3] [] []) = .error 32 := by rfl
theorem ev5 : ((rowI (min (-3) 0) 3).map fun p => remI p ((2 : Nat) : Int)).map (pickI [1, 2] (-9223372036854775808)) = [2, 1, 2] := by rfl
set_option maxHeartbeats 8000000 in
set_option maxRecDepth 100000 in
theorem live7_any (w : World) : Calls Tryz.prog 7 #[] w fun e w' => e = .returned (.bool true) ∧ w.grownBy w' none := by
  have HG0 := hide (gb_refl w none)
  go_enter Tryz.func7, Tryz.ntmps7
  go_wp2_with fail
  refine (ints_new [1, 2] _ rfl 2 rfl _ (by decide)).mono ?_
  rintro e w1 ⟨nA1, nc1, sA1, sc1, lA1, lc1, rfl, hv1, hg1⟩
  have HGn := hide (gb_trans HG0.out hg1 (.inl rfl))
  clear HG0
  have HG0 := hide HGn.out
  clear HGn hg1
  have HV1 := hide hv1
  clear hv1
  go_wp2_with fail
  refine (ints_new [10, 20] _ rfl 2 rfl _ (by decide)).mono ?_
  rintro e w2 ⟨nA2, nc2, sA2, sc2, lA2, lc2, rfl, hv2, hg2⟩
  have HV1n := hide ((HV1.out.gb hg2 (Nat.le_refl _)).up hg2.size)
  clear HV1
  have HV1 := hide HV1n.out
  clear HV1n
  have HGn := hide (gb_trans HG0.out hg2 (.inl rfl))
  clear HG0
  have HG0 := hide HGn.out
  clear HGn hg2
  have HV2 := hide hv2
  clear hv2
  go_wp2_with fail
  have CD := do_add (Vl.mk (2) [1, 2] [] []) (Vl.mk (2) [10, 20] [] []) _ _ nA1 nc1 sA1 sc1 lA1 lc1 nA2 nc2 sA2 sc2 lA2 lc2 iv12 iv1020 (Nat.le_refl _) HV1.out HV2.out
  rw [ev1] at CD
  refine CD.mono ?_
  clear CD
  clear HV1
  clear HV2
  intro e w3 hd
  obtain ⟨nA3, nc3, rfl, hv3, hg3⟩ := DoR.lit 2 rfl hd
  clear hd
  have HGn := hide (gb_trans HG0.out hg3 (.inl rfl))
  clear HG0
  have HG0 := hide HGn.out
  clear HGn hg3
  have HB3 := hide (BoxV.new hv3)
  clear hv3
  go_wp2_with fail
  obtain ⟨w4, hw4⟩ : ∃ w4, w4 = w3.alloc (.cells #[.int .i64 2, .slice nA3 2 nc3, .slice none 0 0, .slice none 0 0] 26) := ⟨_, rfl⟩
  have hg4 : w3.grownBy w4 none := by rw [hw4]; exact gb_alloc (gb_refl w3 none) _
  have HBA : Hid (BoxV w4 w3.heap.size (Vl.mk (2) [11, 22] [] [])) := hide (by rw [hw4]; exact HB3.out)
  clear HB3
  have HGn := hide (gb_trans HG0.out hg4 (.inl rfl))
  clear HG0
  have HG0 := hide HGn.out
  clear HGn hg4
  have hs4 : w3.heap.size + 1 = w4.heap.size := by rw [hw4, World.size_alloc]
  rw [← hw4]
  try rw [hs4]
  clear hw4 hs4
  refine (atom_new (-7) _).mono ?_
  rintro e w5 ⟨nA5, nc5, sA5, sc5, lA5, lc5, rfl, hv5, hg5⟩
  have HBAn := hide (HBA.out.gb hg5)
  clear HBA
  have HBA := hide HBAn.out
  clear HBAn
  have HGn := hide (gb_trans HG0.out hg5 (.inl rfl))
  clear HG0
  have HG0 := hide HGn.out
  clear HGn hg5
  have HV5 := hide hv5
  clear hv5
  go_wp2_with fail
  refine (ints_new [2] _ rfl 1 rfl _ (by decide)).mono ?_
  rintro e w6 ⟨nA6, nc6, sA6, sc6, lA6, lc6, rfl, hv6, hg6⟩
  have HBAn := hide (HBA.out.gb hg6)
  clear HBA
  have HBA := hide HBAn.out
  clear HBAn
  have HV5n := hide ((HV5.out.gb hg6 (Nat.le_refl _)).up hg6.size)
  clear HV5
  have HV5 := hide HV5n.out
  clear HV5n
  have HGn := hide (gb_trans HG0.out hg6 (.inl rfl))
  clear HG0
  have HG0 := hide HGn.out
  clear HGn hg6
  have HV6 := hide hv6
  clear hv6
  go_wp2_with fail
  have CD := do_divide (Vl.mk (-2) [-7] [] []) (Vl.mk (2) [2] [] []) _ _ nA5 nc5 sA5 sc5 lA5 lc5 nA6 nc6 sA6 sc6 lA6 lc6 iv7 iv2 (Nat.le_refl _) HV5.out HV6.out
  rw [ev2] at CD
  refine CD.mono ?_
  clear CD
  clear HV5
  clear HV6
  intro e w7 hd
  obtain ⟨nA7, nc7, rfl, hv7, hg7⟩ := DoR.lit 1 rfl hd
  clear hd
  have HBAn := hide (HBA.out.gb hg7)
  clear HBA
  have HBA := hide HBAn.out
  clear HBAn
  have HGn := hide (gb_trans HG0.out hg7 (.inl rfl))
  clear HG0
  have HG0 := hide HGn.out
  clear HGn hg7
  have HB7 := hide (BoxV.new hv7)
  clear hv7
  go_wp2_with fail
  obtain ⟨w8, hw8⟩ : ∃ w8, w8 = w7.alloc (.cells #[.int .i64 2, .slice nA7 1 nc7, .slice none 0 0, .slice none 0 0] 26) := ⟨_, rfl⟩
  have hg8 : w7.grownBy w8 none := by rw [hw8]; exact gb_alloc (gb_refl w7 none) _
  have HBB : Hid (BoxV w8 w7.heap.size (Vl.mk (2) [-4] [] [])) := hide (by rw [hw8]; exact HB7.out)
  clear HB7
  have HBAn := hide (HBA.out.gb hg8)
  clear HBA
  have HBA := hide HBAn.out
  clear HBAn
  have HGn := hide (gb_trans HG0.out hg8 (.inl rfl))
  clear HG0
  have HG0 := hide HGn.out
  clear HGn hg8
  have hs8 : w7.heap.size + 1 = w8.heap.size := by rw [hw8, World.size_alloc]
  rw [← hw8]
  try rw [hs8]
  clear hw8 hs8
  refine (atom_new (9223372036854775807) _).mono ?_
  rintro e w9 ⟨nA9, nc9, sA9, sc9, lA9, lc9, rfl, hv9, hg9⟩
  have HBAn := hide (HBA.out.gb hg9)
  clear HBA
  have HBA := hide HBAn.out
  clear HBAn
  have HBBn := hide (HBB.out.gb hg9)
  clear HBB
  have HBB := hide HBBn.out
  clear HBBn
  have HGn := hide (gb_trans HG0.out hg9 (.inl rfl))
  clear HG0
  have HG0 := hide HGn.out
  clear HGn hg9
  have HV9 := hide hv9
  clear hv9
  go_wp2_with fail
  refine (atom_new (1) _).mono ?_
  rintro e w10 ⟨nA10, nc10, sA10, sc10, lA10, lc10, rfl, hv10, hg10⟩
  have HBAn := hide (HBA.out.gb hg10)
  clear HBA
  have HBA := hide HBAn.out
  clear HBAn
  have HBBn := hide (HBB.out.gb hg10)
  clear HBB
  have HBB := hide HBBn.out
  clear HBBn
  have HV9n := hide ((HV9.out.gb hg10 (Nat.le_refl _)).up hg10.size)
  clear HV9
  have HV9 := hide HV9n.out
  clear HV9n
  have HGn := hide (gb_trans HG0.out hg10 (.inl rfl))
  clear HG0
  have HG0 := hide HGn.out
  clear HGn hg10
  have HV10 := hide hv10
  clear hv10
  go_wp2_with fail
  have CD := do_add (Vl.mk (-2) [9223372036854775807] [] []) (Vl.mk (-2) [1] [] []) _ _ nA9 nc9 sA9 sc9 lA9 lc9 nA10 nc10 sA10 sc10 lA10 lc10 ivM iv1 (Nat.le_refl _) HV9.out HV10.out
  rw [ev3] at CD
  refine CD.mono ?_
  clear CD
  clear HV9
  clear HV10
  rintro e w11 ⟨hg11, rfl⟩
  have HBAn := hide (HBA.out.gb hg11)
  clear HBA
  have HBA := hide HBAn.out
  clear HBAn
  have HBBn := hide (HBB.out.gb hg11)
  clear HBB
  have HBB := hide HBBn.out
  clear HBBn
  have HGn := hide (gb_trans HG0.out hg11 (.inl rfl))
  clear HG0
  have HG0 := hide HGn.out
  clear HGn hg11
  go_wp2_with fail
  obtain ⟨w12, hw12⟩ : ∃ w12, w12 = w11.alloc (.cells #[.int .i64 0, .slice none 0 0, .slice none 0 0, .slice none 0 0] 26) := ⟨_, rfl⟩
  have hg12 : w11.grownBy w12 none := by rw [hw12]; exact gb_alloc (gb_refl w11 none) _
  have HBAn := hide (HBA.out.gb hg12)
  clear HBA
  have HBA := hide HBAn.out
  clear HBAn
  have HBBn := hide (HBB.out.gb hg12)
  clear HBB
  have HBB := hide HBBn.out
  clear HBBn
  have HGn := hide (gb_trans HG0.out hg12 (.inl rfl))
  clear HG0
  have HG0 := hide HGn.out
  clear HGn hg12
  have hs12 : w11.heap.size + 1 = w12.heap.size := by rw [hw12, World.size_alloc]
  rw [← hw12]
  try rw [hs12]
  clear hw12 hs12
  refine (ints_new [1, 2] _ rfl 2 rfl _ (by decide)).mono ?_
  rintro e w13 ⟨nA13, nc13, sA13, sc13, lA13, lc13, rfl, hv13, hg13⟩
  have HBAn := hide (HBA.out.gb hg13)
  clear HBA
  have HBA := hide HBAn.out
  clear HBAn
  have HBBn := hide (HBB.out.gb hg13)
  clear HBB
  have HBB := hide HBBn.out
  clear HBBn
  have HGn := hide (gb_trans HG0.out hg13 (.inl rfl))
  clear HG0
  have HG0 := hide HGn.out
  clear HGn hg13
  have HV13 := hide hv13
  clear hv13
  go_wp2_with fail
  refine (ints_new [1, 2, 3] _ rfl 3 rfl _ (by decide)).mono ?_
  rintro e w14 ⟨nA14, nc14, sA14, sc14, lA14, lc14, rfl, hv14, hg14⟩
  have HBAn := hide (HBA.out.gb hg14)
  clear HBA
  have HBA := hide HBAn.out
  clear HBAn
  have HBBn := hide (HBB.out.gb hg14)
  clear HBB
  have HBB := hide HBBn.out
  clear HBBn
  have HV13n := hide ((HV13.out.gb hg14 (Nat.le_refl _)).up hg14.size)
  clear HV13
  have HV13 := hide HV13n.out
  clear HV13n
  have HGn := hide (gb_trans HG0.out hg14 (.inl rfl))
  clear HG0
  have HG0 := hide HGn.out
  clear HGn hg14
  have HV14 := hide hv14
  clear hv14
  go_wp2_with fail
  have CD := do_add (Vl.mk (2) [1, 2] [] []) (Vl.mk (2) [1, 2, 3] [] []) _ _ nA13 nc13 sA13 sc13 lA13 lc13 nA14 nc14 sA14 sc14 lA14 lc14 iv12 iv123 (Nat.le_refl _) HV13.out HV14.out
  rw [ev4] at CD
  refine CD.mono ?_
  clear CD
  clear HV13
  clear HV14
  rintro e w15 ⟨hg15, rfl⟩
  have HBAn := hide (HBA.out.gb hg15)
  clear HBA
  have HBA := hide HBAn.out
  clear HBAn
  have HBBn := hide (HBB.out.gb hg15)
  clear HBB
  have HBB := hide HBBn.out
  clear HBBn
  have HGn := hide (gb_trans HG0.out hg15 (.inl rfl))
  clear HG0
  have HG0 := hide HGn.out
  clear HGn hg15
  go_wp2_with fail
  obtain ⟨w16, hw16⟩ : ∃ w16, w16 = w15.alloc (.cells #[.int .i64 0, .slice none 0 0, .slice none 0 0, .slice none 0 0] 26) := ⟨_, rfl⟩
  have hg16 : w15.grownBy w16 none := by rw [hw16]; exact gb_alloc (gb_refl w15 none) _
  have HBAn := hide (HBA.out.gb hg16)
  clear HBA
  have HBA := hide HBAn.out
  clear HBAn
  have HBBn := hide (HBB.out.gb hg16)
  clear HBB
  have HBB := hide HBBn.out
  clear HBBn
  have HGn := hide (gb_trans HG0.out hg16 (.inl rfl))
  clear HG0
  have HG0 := hide HGn.out
  clear HGn hg16
  have hs16 : w15.heap.size + 1 = w16.heap.size := by rw [hw16, World.size_alloc]
  rw [← hw16]
  try rw [hs16]
  clear hw16 hs16
  refine (ints_new [1, 2] _ rfl 2 rfl _ (by decide)).mono ?_
  rintro e w17 ⟨nA17, nc17, sA17, sc17, lA17, lc17, rfl, hv17, hg17⟩
  have HBAn := hide (HBA.out.gb hg17)
  clear HBA
  have HBA := hide HBAn.out
  clear HBAn
  have HBBn := hide (HBB.out.gb hg17)
  clear HBB
  have HBB := hide HBBn.out
  clear HBBn
  have HGn := hide (gb_trans HG0.out hg17 (.inl rfl))
  clear HG0
  have HG0 := hide HGn.out
  clear HGn hg17
  have HV17 := hide hv17
  clear hv17
  go_wp2_with fail
  have CT := take_ints (-3) 3 (Vl.mk (2) [1, 2] [] []) _ _ nA17 nc17 sA17 sc17 lA17 lc17 iv12 rfl (Nat.le_refl _) HV17.out (by decide) rfl
  rw [show (((rowI (min (-3) 0) 3).map fun p => remI p (((Vl.mk (2) [1, 2] [] []).n.length : Nat) : Int)).map (pickI (Vl.mk (2) [1, 2] [] []).n (-9223372036854775808))) = [2, 1, 2] from ev5] at CT
  refine CT.mono ?_
  clear CT
  clear HV17
  intro e w18 hd
  obtain ⟨nA18, nc18, rfl, hv18, hg18⟩ := DoR.lit 3 rfl hd
  clear hd
  have HBAn := hide (HBA.out.gb hg18)
  clear HBA
  have HBA := hide HBAn.out
  clear HBAn
  have HBBn := hide (HBB.out.gb hg18)
  clear HBB
  have HBB := hide HBBn.out
  clear HBBn
  have HGn := hide (gb_trans HG0.out hg18 (.inl rfl))
  clear HG0
  have HG0 := hide HGn.out
  clear HGn hg18
  have HB18 := hide (BoxV.new hv18)
  clear hv18
  go_wp2_with fail
  obtain ⟨w19, hw19⟩ : ∃ w19, w19 = w18.alloc (.cells #[.int .i64 2, .slice nA18 3 nc18, .slice none 0 0, .slice none 0 0] 26) := ⟨_, rfl⟩
  have hg19 : w18.grownBy w19 none := by rw [hw19]; exact gb_alloc (gb_refl w18 none) _
  have HBC : Hid (BoxV w19 w18.heap.size (Vl.mk (2) [2, 1, 2] [] [])) := hide (by rw [hw19]; exact HB18.out)
  clear HB18
  have HBAn := hide (HBA.out.gb hg19)
  clear HBA
  have HBA := hide HBAn.out
  clear HBAn
  have HBBn := hide (HBB.out.gb hg19)
  clear HBB
  have HBB := hide HBBn.out
  clear HBBn
  have HGn := hide (gb_trans HG0.out hg19 (.inl rfl))
  clear HG0
  have HG0 := hide HGn.out
  clear HGn hg19
  have hs19 : w18.heap.size + 1 = w19.heap.size := by rw [hw19, World.size_alloc]
  rw [← hw19]
  try rw [hs19]
  clear hw19 hs19
  refine (atom_new (1) _).mono ?_
  rintro e w20 ⟨nA20, nc20, sA20, sc20, lA20, lc20, rfl, hv20, hg20⟩
  have HBAn := hide (HBA.out.gb hg20)
  clear HBA
  have HBA := hide HBAn.out
  clear HBAn
  have HBBn := hide (HBB.out.gb hg20)
  clear HBB
  have HBB := hide HBBn.out
  clear HBBn
  have HBCn := hide (HBC.out.gb hg20)
  clear HBC
  have HBC := hide HBCn.out
  clear HBCn
  have HGn := hide (gb_trans HG0.out hg20 (.inl rfl))
  clear HG0
  have HG0 := hide HGn.out
  clear HGn hg20
  have HV20 := hide hv20
  clear hv20
  go_wp2_with fail
  refine (ints_new [2, 3] _ rfl 2 rfl _ (by decide)).mono ?_
  rintro e w21 ⟨nA21, nc21, sA21, sc21, lA21, lc21, rfl, hv21, hg21⟩
  have HBAn := hide (HBA.out.gb hg21)
  clear HBA
  have HBA := hide HBAn.out
  clear HBAn
  have HBBn := hide (HBB.out.gb hg21)
  clear HBB
  have HBB := hide HBBn.out
  clear HBBn
  have HBCn := hide (HBC.out.gb hg21)
  clear HBC
  have HBC := hide HBCn.out
  clear HBCn
  have HV20n := hide ((HV20.out.gb hg21 (Nat.le_refl _)).up hg21.size)
  clear HV20
  have HV20 := hide HV20n.out
  clear HV20n
  have HGn := hide (gb_trans HG0.out hg21 (.inl rfl))
  clear HG0
  have HG0 := hide HGn.out
  clear HGn hg21
  have HV21 := hide hv21
  clear hv21
  go_wp2_with fail
  have hrv := rdV_two HV20.out HV21.out
  obtain ⟨w22, hw22⟩ : ∃ w22, w22 = w21.alloc (.cells #[.int .i64 (-2), .slice nA20 1 nc20, .slice sA20 0 sc20, .slice lA20 0 lc20, .int .i64 2, .slice nA21 2 nc21, .slice sA21 0 sc21, .slice lA21 0 lc21] 26) := ⟨_, rfl⟩
  have hrv : RdV w22 w22.heap.size (some ⟨w21.heap.size, 0, none⟩) [(Vl.mk (-2) [1] [] []), (Vl.mk (2) [2, 3] [] [])] := by rw [hw22]; exact hrv
  have hg22 : w21.grownBy w22 none := by rw [hw22]; exact gb_alloc (gb_refl _ none) _
  clear HV20
  clear HV21
  have HBAn := hide (HBA.out.gb hg22)
  clear HBA
  have HBA := hide HBAn.out
  clear HBAn
  have HBBn := hide (HBB.out.gb hg22)
  clear HBB
  have HBB := hide HBBn.out
  clear HBBn
  have HBCn := hide (HBC.out.gb hg22)
  clear HBC
  have HBC := hide HBCn.out
  clear HBCn
  have HGn := hide (gb_trans HG0.out hg22 (.inl rfl))
  clear HG0
  have HG0 := hide HGn.out
  clear HGn hg22
  rw [← hw22]
  clear hw22
  have CJ := join_kind [(Vl.mk (-2) [1] [] []), (Vl.mk (2) [2, 3] [] [])] 2 [1, 2, 3] [] (hide rfl) (hide rfl) w22 w22.heap.size (some ⟨w21.heap.size, 0, none⟩) 2 (by decide) rfl (by decide) (by decide) (by decide) (by decide) (Nat.le_refl _) hrv
  refine CJ.mono ?_
  clear CJ hrv
  rintro e w23 ⟨nA23, nc23, sA23, sc23, lA23, lc23, f, he, ho, _, hg23⟩
  obtain rfl : e = .returned (.tuple #[.agg #[.int .i64 2, .slice nA23 3 nc23, .slice sA23 0 sc23, .slice lA23 0 lc23], .int .i64 0]) := he
  have hv23 := ho.vb
  clear ho
  have HBAn := hide (HBA.out.gb hg23)
  clear HBA
  have HBA := hide HBAn.out
  clear HBAn
  have HBBn := hide (HBB.out.gb hg23)
  clear HBB
  have HBB := hide HBBn.out
  clear HBBn
  have HBCn := hide (HBC.out.gb hg23)
  clear HBC
  have HBC := hide HBCn.out
  clear HBCn
  have HGn := hide (gb_trans HG0.out hg23 (.inl rfl))
  clear HG0
  have HG0 := hide HGn.out
  clear HGn hg23
  have HB23 := hide (BoxV.new hv23)
  clear hv23
  go_wp2_with fail
  obtain ⟨w24, hw24⟩ : ∃ w24, w24 = w23.alloc (.cells #[.int .i64 2, .slice nA23 3 nc23, .slice sA23 0 sc23, .slice lA23 0 lc23] 26) := ⟨_, rfl⟩
  have hg24 : w23.grownBy w24 none := by rw [hw24]; exact gb_alloc (gb_refl w23 none) _
  have HBD : Hid (BoxV w24 w23.heap.size (Vl.mk (2) [1, 2, 3] [] [])) := hide (by rw [hw24]; exact HB23.out)
  clear HB23
  have HBAn := hide (HBA.out.gb hg24)
  clear HBA
  have HBA := hide HBAn.out
  clear HBAn
  have HBBn := hide (HBB.out.gb hg24)
  clear HBB
  have HBB := hide HBBn.out
  clear HBBn
  have HBCn := hide (HBC.out.gb hg24)
  clear HBC
  have HBC := hide HBCn.out
  clear HBCn
  have HGn := hide (gb_trans HG0.out hg24 (.inl rfl))
  clear HG0
  have HG0 := hide HGn.out
  clear HGn hg24
  have hs24 : w23.heap.size + 1 = w24.heap.size := by rw [hw24, World.size_alloc]
  rw [← hw24]
  try rw [hs24]
  clear hw24 hs24
  refine wp_region_facts' 52 (by kernel_rfl) (by kernel_rfl) ?_
  intro A O W L HA HO HW HL
  simp only [List.take_succ_cons, List.take_zero]
  have HS := hide (show A.tmps.size = 108 by rw [HA.out]; rfl)
  have HGW := hide (show w24.grownBy W none by rw [HW.out]; exact gb_drew (gb_refl w24 none))
  have A1 := hide (show A.eval (.tmp 1) = .pointer (some ⟨w3.heap.size, 0, none⟩) by rw [HA.out]; rfl)
  have A3 := hide (show A.eval (.tmp 3) = .pointer (some ⟨w7.heap.size, 0, none⟩) by rw [HA.out]; rfl)
  have A9 := hide (show A.eval (.tmp 9) = .pointer (some ⟨w18.heap.size, 0, none⟩) by rw [HA.out]; rfl)
  have A11 := hide (show A.eval (.tmp 11) = .pointer (some ⟨w23.heap.size, 0, none⟩) by rw [HA.out]; rfl)
  have A2 := hide (show A.eval (.tmp 2) = .int .i64 0 by rw [HA.out]; rfl)
  have A4 := hide (show A.eval (.tmp 4) = .int .i64 0 by rw [HA.out]; rfl)
  have A6 := hide (show A.eval (.tmp 6) = .int .i64 70 by rw [HA.out]; rfl)
  have A8 := hide (show A.eval (.tmp 8) = .int .i64 32 by rw [HA.out]; rfl)
  have A10 := hide (show A.eval (.tmp 10) = .int .i64 0 by rw [HA.out]; rfl)
  have A12 := hide (show A.eval (.tmp 12) = .int .i64 0 by rw [HA.out]; rfl)
  -- slot 56
  refine wpFacts_step (ValF (Vl.mk (2) [11, 22] [] [])) rfl (ValF.up _) ?_ ?_
  · intro a wq hw hl
    have e1 : a.tmps[1]?.getD undef = .pointer (some ⟨w3.heap.size, 0, none⟩) := (hl 1 (by first | (simp [Op.operands]; done) | simp [Op.operands, Call.operands]) (by rw [HS.out]; decide)).trans A1.out
    obtain ⟨nA, nc, sA, sc, lA, lc, hb, hv⟩ := HBA.out.gb (gb_trans HGW.out hw (.inl rfl))
    have c0 : wq.cell? ⟨w3.heap.size, 0, none⟩ = some (.int .i64 2) := by rw [blk_cell hb]; rfl
    have c1 : wq.cell? ⟨w3.heap.size, 1, none⟩ = some (.slice nA 2 nc) := by rw [blk_cell hb]; rfl
    have c2 : wq.cell? ⟨w3.heap.size, 2, none⟩ = some (.slice sA 0 sc) := by rw [blk_cell hb]; rfl
    have c3 : wq.cell? ⟨w3.heap.size, 3, none⟩ = some (.slice lA 0 lc) := by rw [blk_cell hb]; rfl
    clear hb
    clear hl
    go_simp
    exact ⟨gb_refl _ none, nA, nc, sA, sc, lA, lc, rfl, hv⟩
  -- slot 57
  refine wpFacts_step (RowF w24.heap.size 2 #[.int .i64 11, .int .i64 22] 2) rfl (RowF.up _ _ _ _) ?_ ?_
  · intro a wq hw hl
    clear hl
    go_simp
    exact RowF.new _ _ (Nat.le_trans HGW.out.size hw.size)
  -- slot 58
  refine wpFacts_step (ValF (Vl.mk (2) [11, 22] [] [])) rfl (ValF.up _) ?_ ?_
  · intro a wq hw hl
    have h57 : (RowF w24.heap.size 2 #[.int .i64 11, .int .i64 22] 2) (a.tmps[57]?.getD undef) wq := hl 57 (by first | (simp [Op.operands]; done) | simp [Op.operands, Call.operands]) (by rw [HS.out]; decide)
    obtain ⟨rb, e57, hrb, _⟩ := h57
    clear hl
    go_simp
    refine ⟨gb_refl _ none, (ints7_any [11, 22] wq (some ⟨rb, 0, none⟩) 2 (by decide) (rd_blk hrb rfl)).mono fun _ _ h => ?_⟩
    obtain ⟨x9, h1, h2, h3⟩ := ValF.of_new h
    exact ⟨x9, h1, h2, h3⟩
  -- slot 59
  refine wpFacts_step (fun vq _ => vq = .bool true) rfl (Lit.up _) ?_ ?_
  · intro a wq hw hl
    have h56 : (ValF (Vl.mk (2) [11, 22] [] [])) (a.tmps[56]?.getD undef) wq := hl 56 (by first | (simp [Op.operands]; done) | simp [Op.operands, Call.operands]) (by rw [HS.out]; decide)
    obtain ⟨nA, nc, sA, sc, lA, lc, e56, hv⟩ := h56
    have h58 : (ValF (Vl.mk (2) [11, 22] [] [])) (a.tmps[58]?.getD undef) wq := hl 58 (by first | (simp [Op.operands]; done) | simp [Op.operands, Call.operands]) (by rw [HS.out]; decide)
    obtain ⟨mA, mc, tA, tc, kA, kc, e58, hv2⟩ := h58
    clear hl
    go_simp
    exact gUpon_lit ((rMatch_any (Vl.mk (2) [11, 22] [] []) (Vl.mk (2) [11, 22] [] []) wq wq.heap.size nA nc sA sc lA lc mA mc tA tc kA kc (by decide) (by decide) (Nat.le_refl _) hv hv2).mono fun _ _ h => ⟨h.1.trans (by rw [show Vl.same (Vl.mk (2) [11, 22] [] []) (Vl.mk (2) [11, 22] [] []) = true by decide]), h.2⟩)
  -- slot 60
  refine wpFacts_lit (.bool true) rfl ?_ ?_
  · intro a wq hw hl
    have e59 : a.tmps[59]?.getD undef = .bool true := hl 59 (by first | (simp [Op.operands]; done) | simp [Op.operands, Call.operands]) (by rw [HS.out]; decide)
    clear hl
    go_simp
  -- slot 61
  refine wpFacts_litG (.int .i64 0) 4 true 60 rfl (by rw [HO.out]; rfl) (by rw [HS.out]; decide) (fun _ _ h => h) ?_ ?_
  · intro a wq hw hl
    have e2 : a.tmps[2]?.getD undef = .int .i64 0 := (hl 2 (by first | (simp [Op.operands]; done) | simp [Op.operands, Call.operands]) (by rw [HS.out]; decide)).trans A2.out
    clear hl
    go_simp
  -- slot 62
  refine wpFacts_stepG (fun vq _ => vq = .int .i64 0) 4 true 60 rfl (by rw [HO.out]; rfl) (by rw [HS.out]; decide) (fun _ _ h => h) (Lit.up _) ?_ ?_
  · intro a wq hw hl
    have e61 : a.tmps[61]?.getD undef = .int .i64 0 := hl 61 (by first | (simp [Op.operands]; done) | simp [Op.operands, Call.operands]) (by rw [HS.out]; decide)
    clear hl
    go_simp
    exact gUpon_same (num7_any _ _)
  -- slot 63
  refine wpFacts_litG (.bool true) 4 true 60 rfl (by rw [HO.out]; rfl) (by rw [HS.out]; decide) (fun _ _ h => h) ?_ ?_
  · intro a wq hw hl
    have e62 : a.tmps[62]?.getD undef = .int .i64 0 := hl 62 (by first | (simp [Op.operands]; done) | simp [Op.operands, Call.operands]) (by rw [HS.out]; decide)
    clear hl
    go_simp
  -- slot 64
  refine wpFacts_lit (.bool true) rfl ?_ ?_
  · intro a wq hw hl
    have e60 : a.tmps[60]?.getD undef = .bool true := hl 60 (by first | (simp [Op.operands]; done) | simp [Op.operands, Call.operands]) (by rw [HS.out]; decide)
    have e63 : a.tmps[63]?.getD undef = .bool true := hl 63 (by first | (simp [Op.operands]; done) | simp [Op.operands, Call.operands]) (by rw [HS.out]; decide)
    clear hl
    go_simp
  -- slot 65
  refine wpFacts_lit (.bool true) rfl ?_ ?_
  · intro a wq hw hl
    have e64 : a.tmps[64]?.getD undef = .bool true := hl 64 (by first | (simp [Op.operands]; done) | simp [Op.operands, Call.operands]) (by rw [HS.out]; decide)
    clear hl
    go_simp
  -- slot 66
  refine wpFacts_stepG (ValF (Vl.mk (2) [-4] [] [])) 9 true 65 rfl (by rw [HO.out]; rfl) (by rw [HS.out]; decide) (fun _ _ h => h) (ValF.up _) ?_ ?_
  · intro a wq hw hl
    have e3 : a.tmps[3]?.getD undef = .pointer (some ⟨w7.heap.size, 0, none⟩) := (hl 3 (by first | (simp [Op.operands]; done) | simp [Op.operands, Call.operands]) (by rw [HS.out]; decide)).trans A3.out
    obtain ⟨nA, nc, sA, sc, lA, lc, hb, hv⟩ := HBB.out.gb (gb_trans HGW.out hw (.inl rfl))
    have c0 : wq.cell? ⟨w7.heap.size, 0, none⟩ = some (.int .i64 2) := by rw [blk_cell hb]; rfl
    have c1 : wq.cell? ⟨w7.heap.size, 1, none⟩ = some (.slice nA 1 nc) := by rw [blk_cell hb]; rfl
    have c2 : wq.cell? ⟨w7.heap.size, 2, none⟩ = some (.slice sA 0 sc) := by rw [blk_cell hb]; rfl
    have c3 : wq.cell? ⟨w7.heap.size, 3, none⟩ = some (.slice lA 0 lc) := by rw [blk_cell hb]; rfl
    clear hb
    clear hl
    go_simp
    exact ⟨gb_refl _ none, nA, nc, sA, sc, lA, lc, rfl, hv⟩
  -- slot 67
  refine wpFacts_stepG (RowF w24.heap.size 1 #[.int .i64 (-4)] 2) 9 true 65 rfl (by rw [HO.out]; rfl) (by rw [HS.out]; decide) (fun _ _ h => h) (RowF.up _ _ _ _) ?_ ?_
  · intro a wq hw hl
    clear hl
    go_simp
    exact RowF.new _ _ (Nat.le_trans HGW.out.size hw.size)
  -- slot 68
  refine wpFacts_stepG (ValF (Vl.mk (2) [-4] [] [])) 9 true 65 rfl (by rw [HO.out]; rfl) (by rw [HS.out]; decide) (fun _ _ h => h) (ValF.up _) ?_ ?_
  · intro a wq hw hl
    have h67 : (RowF w24.heap.size 1 #[.int .i64 (-4)] 2) (a.tmps[67]?.getD undef) wq := hl 67 (by first | (simp [Op.operands]; done) | simp [Op.operands, Call.operands]) (by rw [HS.out]; decide)
    obtain ⟨rb, e67, hrb, _⟩ := h67
    clear hl
    go_simp
    refine ⟨gb_refl _ none, (ints7_any [-4] wq (some ⟨rb, 0, none⟩) 1 (by decide) (rd_blk hrb rfl)).mono fun _ _ h => ?_⟩
    obtain ⟨x9, h1, h2, h3⟩ := ValF.of_new h
    exact ⟨x9, h1, h2, h3⟩
  -- slot 69
  refine wpFacts_stepG (fun vq _ => vq = .bool true) 9 true 65 rfl (by rw [HO.out]; rfl) (by rw [HS.out]; decide) (fun _ _ h => h) (Lit.up _) ?_ ?_
  · intro a wq hw hl
    have h66 : (ValF (Vl.mk (2) [-4] [] [])) (a.tmps[66]?.getD undef) wq := hl 66 (by first | (simp [Op.operands]; done) | simp [Op.operands, Call.operands]) (by rw [HS.out]; decide)
    obtain ⟨nA, nc, sA, sc, lA, lc, e66, hv⟩ := h66
    have h68 : (ValF (Vl.mk (2) [-4] [] [])) (a.tmps[68]?.getD undef) wq := hl 68 (by first | (simp [Op.operands]; done) | simp [Op.operands, Call.operands]) (by rw [HS.out]; decide)
    obtain ⟨mA, mc, tA, tc, kA, kc, e68, hv2⟩ := h68
    clear hl
    go_simp
    exact gUpon_lit ((rMatch_any (Vl.mk (2) [-4] [] []) (Vl.mk (2) [-4] [] []) wq wq.heap.size nA nc sA sc lA lc mA mc tA tc kA kc (by decide) (by decide) (Nat.le_refl _) hv hv2).mono fun _ _ h => ⟨h.1.trans (by rw [show Vl.same (Vl.mk (2) [-4] [] []) (Vl.mk (2) [-4] [] []) = true by decide]), h.2⟩)
  -- slot 70
  refine wpFacts_lit (.bool true) rfl ?_ ?_
  · intro a wq hw hl
    have e65 : a.tmps[65]?.getD undef = .bool true := hl 65 (by first | (simp [Op.operands]; done) | simp [Op.operands, Call.operands]) (by rw [HS.out]; decide)
    have e69 : a.tmps[69]?.getD undef = .bool true := hl 69 (by first | (simp [Op.operands]; done) | simp [Op.operands, Call.operands]) (by rw [HS.out]; decide)
    clear hl
    go_simp
  -- slot 71
  refine wpFacts_lit (.bool true) rfl ?_ ?_
  · intro a wq hw hl
    have e70 : a.tmps[70]?.getD undef = .bool true := hl 70 (by first | (simp [Op.operands]; done) | simp [Op.operands, Call.operands]) (by rw [HS.out]; decide)
    clear hl
    go_simp
  -- slot 72
  refine wpFacts_litG (.int .i64 0) 15 true 71 rfl (by rw [HO.out]; rfl) (by rw [HS.out]; decide) (fun _ _ h => h) ?_ ?_
  · intro a wq hw hl
    have e4 : a.tmps[4]?.getD undef = .int .i64 0 := (hl 4 (by first | (simp [Op.operands]; done) | simp [Op.operands, Call.operands]) (by rw [HS.out]; decide)).trans A4.out
    clear hl
    go_simp
  -- slot 73
  refine wpFacts_stepG (fun vq _ => vq = .int .i64 0) 15 true 71 rfl (by rw [HO.out]; rfl) (by rw [HS.out]; decide) (fun _ _ h => h) (Lit.up _) ?_ ?_
  · intro a wq hw hl
    have e72 : a.tmps[72]?.getD undef = .int .i64 0 := hl 72 (by first | (simp [Op.operands]; done) | simp [Op.operands, Call.operands]) (by rw [HS.out]; decide)
    clear hl
    go_simp
    exact gUpon_same (num7_any _ _)
  -- slot 74
  refine wpFacts_litG (.bool true) 15 true 71 rfl (by rw [HO.out]; rfl) (by rw [HS.out]; decide) (fun _ _ h => h) ?_ ?_
  · intro a wq hw hl
    have e73 : a.tmps[73]?.getD undef = .int .i64 0 := hl 73 (by first | (simp [Op.operands]; done) | simp [Op.operands, Call.operands]) (by rw [HS.out]; decide)
    clear hl
    go_simp
  -- slot 75
  refine wpFacts_lit (.bool true) rfl ?_ ?_
  · intro a wq hw hl
    have e71 : a.tmps[71]?.getD undef = .bool true := hl 71 (by first | (simp [Op.operands]; done) | simp [Op.operands, Call.operands]) (by rw [HS.out]; decide)
    have e74 : a.tmps[74]?.getD undef = .bool true := hl 74 (by first | (simp [Op.operands]; done) | simp [Op.operands, Call.operands]) (by rw [HS.out]; decide)
    clear hl
    go_simp
  -- slot 76
  refine wpFacts_lit (.bool true) rfl ?_ ?_
  · intro a wq hw hl
    have e75 : a.tmps[75]?.getD undef = .bool true := hl 75 (by first | (simp [Op.operands]; done) | simp [Op.operands, Call.operands]) (by rw [HS.out]; decide)
    clear hl
    go_simp
  -- slot 77
  refine wpFacts_litG (.int .i64 70) 20 true 76 rfl (by rw [HO.out]; rfl) (by rw [HS.out]; decide) (fun _ _ h => h) ?_ ?_
  · intro a wq hw hl
    have e6 : a.tmps[6]?.getD undef = .int .i64 70 := (hl 6 (by first | (simp [Op.operands]; done) | simp [Op.operands, Call.operands]) (by rw [HS.out]; decide)).trans A6.out
    clear hl
    go_simp
  -- slot 78
  refine wpFacts_stepG (fun vq _ => vq = .int .i64 70) 20 true 76 rfl (by rw [HO.out]; rfl) (by rw [HS.out]; decide) (fun _ _ h => h) (Lit.up _) ?_ ?_
  · intro a wq hw hl
    have e77 : a.tmps[77]?.getD undef = .int .i64 70 := hl 77 (by first | (simp [Op.operands]; done) | simp [Op.operands, Call.operands]) (by rw [HS.out]; decide)
    clear hl
    go_simp
    exact gUpon_same (num7_any _ _)
  -- slot 79
  refine wpFacts_litG (.bool true) 20 true 76 rfl (by rw [HO.out]; rfl) (by rw [HS.out]; decide) (fun _ _ h => h) ?_ ?_
  · intro a wq hw hl
    have e78 : a.tmps[78]?.getD undef = .int .i64 70 := hl 78 (by first | (simp [Op.operands]; done) | simp [Op.operands, Call.operands]) (by rw [HS.out]; decide)
    clear hl
    go_simp
  -- slot 80
  refine wpFacts_lit (.bool true) rfl ?_ ?_
  · intro a wq hw hl
    have e76 : a.tmps[76]?.getD undef = .bool true := hl 76 (by first | (simp [Op.operands]; done) | simp [Op.operands, Call.operands]) (by rw [HS.out]; decide)
    have e79 : a.tmps[79]?.getD undef = .bool true := hl 79 (by first | (simp [Op.operands]; done) | simp [Op.operands, Call.operands]) (by rw [HS.out]; decide)
    clear hl
    go_simp
  -- slot 81
  refine wpFacts_lit (.bool true) rfl ?_ ?_
  · intro a wq hw hl
    have e80 : a.tmps[80]?.getD undef = .bool true := hl 80 (by first | (simp [Op.operands]; done) | simp [Op.operands, Call.operands]) (by rw [HS.out]; decide)
    clear hl
    go_simp
  -- slot 82
  refine wpFacts_litG (.int .i64 32) 25 true 81 rfl (by rw [HO.out]; rfl) (by rw [HS.out]; decide) (fun _ _ h => h) ?_ ?_
  · intro a wq hw hl
    have e8 : a.tmps[8]?.getD undef = .int .i64 32 := (hl 8 (by first | (simp [Op.operands]; done) | simp [Op.operands, Call.operands]) (by rw [HS.out]; decide)).trans A8.out
    clear hl
    go_simp
  -- slot 83
  refine wpFacts_stepG (fun vq _ => vq = .int .i64 32) 25 true 81 rfl (by rw [HO.out]; rfl) (by rw [HS.out]; decide) (fun _ _ h => h) (Lit.up _) ?_ ?_
  · intro a wq hw hl
    have e82 : a.tmps[82]?.getD undef = .int .i64 32 := hl 82 (by first | (simp [Op.operands]; done) | simp [Op.operands, Call.operands]) (by rw [HS.out]; decide)
    clear hl
    go_simp
    exact gUpon_same (num7_any _ _)
  -- slot 84
  refine wpFacts_litG (.bool true) 25 true 81 rfl (by rw [HO.out]; rfl) (by rw [HS.out]; decide) (fun _ _ h => h) ?_ ?_
  · intro a wq hw hl
    have e83 : a.tmps[83]?.getD undef = .int .i64 32 := hl 83 (by first | (simp [Op.operands]; done) | simp [Op.operands, Call.operands]) (by rw [HS.out]; decide)
    clear hl
    go_simp
  -- slot 85
  refine wpFacts_lit (.bool true) rfl ?_ ?_
  · intro a wq hw hl
    have e81 : a.tmps[81]?.getD undef = .bool true := hl 81 (by first | (simp [Op.operands]; done) | simp [Op.operands, Call.operands]) (by rw [HS.out]; decide)
    have e84 : a.tmps[84]?.getD undef = .bool true := hl 84 (by first | (simp [Op.operands]; done) | simp [Op.operands, Call.operands]) (by rw [HS.out]; decide)
    clear hl
    go_simp
  -- slot 86
  refine wpFacts_lit (.bool true) rfl ?_ ?_
  · intro a wq hw hl
    have e85 : a.tmps[85]?.getD undef = .bool true := hl 85 (by first | (simp [Op.operands]; done) | simp [Op.operands, Call.operands]) (by rw [HS.out]; decide)
    clear hl
    go_simp
  -- slot 87
  refine wpFacts_stepG (ValF (Vl.mk (2) [2, 1, 2] [] [])) 30 true 86 rfl (by rw [HO.out]; rfl) (by rw [HS.out]; decide) (fun _ _ h => h) (ValF.up _) ?_ ?_
  · intro a wq hw hl
    have e9 : a.tmps[9]?.getD undef = .pointer (some ⟨w18.heap.size, 0, none⟩) := (hl 9 (by first | (simp [Op.operands]; done) | simp [Op.operands, Call.operands]) (by rw [HS.out]; decide)).trans A9.out
    obtain ⟨nA, nc, sA, sc, lA, lc, hb, hv⟩ := HBC.out.gb (gb_trans HGW.out hw (.inl rfl))
    have c0 : wq.cell? ⟨w18.heap.size, 0, none⟩ = some (.int .i64 2) := by rw [blk_cell hb]; rfl
    have c1 : wq.cell? ⟨w18.heap.size, 1, none⟩ = some (.slice nA 3 nc) := by rw [blk_cell hb]; rfl
    have c2 : wq.cell? ⟨w18.heap.size, 2, none⟩ = some (.slice sA 0 sc) := by rw [blk_cell hb]; rfl
    have c3 : wq.cell? ⟨w18.heap.size, 3, none⟩ = some (.slice lA 0 lc) := by rw [blk_cell hb]; rfl
    clear hb
    clear hl
    go_simp
    exact ⟨gb_refl _ none, nA, nc, sA, sc, lA, lc, rfl, hv⟩
  -- slot 88
  refine wpFacts_stepG (RowF w24.heap.size 3 #[.int .i64 2, .int .i64 1, .int .i64 2] 2) 30 true 86 rfl (by rw [HO.out]; rfl) (by rw [HS.out]; decide) (fun _ _ h => h) (RowF.up _ _ _ _) ?_ ?_
  · intro a wq hw hl
    clear hl
    go_simp
    exact RowF.new _ _ (Nat.le_trans HGW.out.size hw.size)
  -- slot 89
  refine wpFacts_stepG (ValF (Vl.mk (2) [2, 1, 2] [] [])) 30 true 86 rfl (by rw [HO.out]; rfl) (by rw [HS.out]; decide) (fun _ _ h => h) (ValF.up _) ?_ ?_
  · intro a wq hw hl
    have h88 : (RowF w24.heap.size 3 #[.int .i64 2, .int .i64 1, .int .i64 2] 2) (a.tmps[88]?.getD undef) wq := hl 88 (by first | (simp [Op.operands]; done) | simp [Op.operands, Call.operands]) (by rw [HS.out]; decide)
    obtain ⟨rb, e88, hrb, _⟩ := h88
    clear hl
    go_simp
    refine ⟨gb_refl _ none, (ints7_any [2, 1, 2] wq (some ⟨rb, 0, none⟩) 3 (by decide) (rd_blk hrb rfl)).mono fun _ _ h => ?_⟩
    obtain ⟨x9, h1, h2, h3⟩ := ValF.of_new h
    exact ⟨x9, h1, h2, h3⟩
  -- slot 90
  refine wpFacts_stepG (fun vq _ => vq = .bool true) 30 true 86 rfl (by rw [HO.out]; rfl) (by rw [HS.out]; decide) (fun _ _ h => h) (Lit.up _) ?_ ?_
  · intro a wq hw hl
    have h87 : (ValF (Vl.mk (2) [2, 1, 2] [] [])) (a.tmps[87]?.getD undef) wq := hl 87 (by first | (simp [Op.operands]; done) | simp [Op.operands, Call.operands]) (by rw [HS.out]; decide)
    obtain ⟨nA, nc, sA, sc, lA, lc, e87, hv⟩ := h87
    have h89 : (ValF (Vl.mk (2) [2, 1, 2] [] [])) (a.tmps[89]?.getD undef) wq := hl 89 (by first | (simp [Op.operands]; done) | simp [Op.operands, Call.operands]) (by rw [HS.out]; decide)
    obtain ⟨mA, mc, tA, tc, kA, kc, e89, hv2⟩ := h89
    clear hl
    go_simp
    exact gUpon_lit ((rMatch_any (Vl.mk (2) [2, 1, 2] [] []) (Vl.mk (2) [2, 1, 2] [] []) wq wq.heap.size nA nc sA sc lA lc mA mc tA tc kA kc (by decide) (by decide) (Nat.le_refl _) hv hv2).mono fun _ _ h => ⟨h.1.trans (by rw [show Vl.same (Vl.mk (2) [2, 1, 2] [] []) (Vl.mk (2) [2, 1, 2] [] []) = true by decide]), h.2⟩)
  -- slot 91
  refine wpFacts_lit (.bool true) rfl ?_ ?_
  · intro a wq hw hl
    have e86 : a.tmps[86]?.getD undef = .bool true := hl 86 (by first | (simp [Op.operands]; done) | simp [Op.operands, Call.operands]) (by rw [HS.out]; decide)
    have e90 : a.tmps[90]?.getD undef = .bool true := hl 90 (by first | (simp [Op.operands]; done) | simp [Op.operands, Call.operands]) (by rw [HS.out]; decide)
    clear hl
    go_simp
  -- slot 92
  refine wpFacts_lit (.bool true) rfl ?_ ?_
  · intro a wq hw hl
    have e91 : a.tmps[91]?.getD undef = .bool true := hl 91 (by first | (simp [Op.operands]; done) | simp [Op.operands, Call.operands]) (by rw [HS.out]; decide)
    clear hl
    go_simp
  -- slot 93
  refine wpFacts_litG (.int .i64 0) 36 true 92 rfl (by rw [HO.out]; rfl) (by rw [HS.out]; decide) (fun _ _ h => h) ?_ ?_
  · intro a wq hw hl
    have e10 : a.tmps[10]?.getD undef = .int .i64 0 := (hl 10 (by first | (simp [Op.operands]; done) | simp [Op.operands, Call.operands]) (by rw [HS.out]; decide)).trans A10.out
    clear hl
    go_simp
  -- slot 94
  refine wpFacts_stepG (fun vq _ => vq = .int .i64 0) 36 true 92 rfl (by rw [HO.out]; rfl) (by rw [HS.out]; decide) (fun _ _ h => h) (Lit.up _) ?_ ?_
  · intro a wq hw hl
    have e93 : a.tmps[93]?.getD undef = .int .i64 0 := hl 93 (by first | (simp [Op.operands]; done) | simp [Op.operands, Call.operands]) (by rw [HS.out]; decide)
    clear hl
    go_simp
    exact gUpon_same (num7_any _ _)
  -- slot 95
  refine wpFacts_litG (.bool true) 36 true 92 rfl (by rw [HO.out]; rfl) (by rw [HS.out]; decide) (fun _ _ h => h) ?_ ?_
  · intro a wq hw hl
    have e94 : a.tmps[94]?.getD undef = .int .i64 0 := hl 94 (by first | (simp [Op.operands]; done) | simp [Op.operands, Call.operands]) (by rw [HS.out]; decide)
    clear hl
    go_simp
  -- slot 96
  refine wpFacts_lit (.bool true) rfl ?_ ?_
  · intro a wq hw hl
    have e92 : a.tmps[92]?.getD undef = .bool true := hl 92 (by first | (simp [Op.operands]; done) | simp [Op.operands, Call.operands]) (by rw [HS.out]; decide)
    have e95 : a.tmps[95]?.getD undef = .bool true := hl 95 (by first | (simp [Op.operands]; done) | simp [Op.operands, Call.operands]) (by rw [HS.out]; decide)
    clear hl
    go_simp
  -- slot 97
  refine wpFacts_lit (.bool true) rfl ?_ ?_
  · intro a wq hw hl
    have e96 : a.tmps[96]?.getD undef = .bool true := hl 96 (by first | (simp [Op.operands]; done) | simp [Op.operands, Call.operands]) (by rw [HS.out]; decide)
    clear hl
    go_simp
  -- slot 98
  refine wpFacts_stepG (ValF (Vl.mk (2) [1, 2, 3] [] [])) 41 true 97 rfl (by rw [HO.out]; rfl) (by rw [HS.out]; decide) (fun _ _ h => h) (ValF.up _) ?_ ?_
  · intro a wq hw hl
    have e11 : a.tmps[11]?.getD undef = .pointer (some ⟨w23.heap.size, 0, none⟩) := (hl 11 (by first | (simp [Op.operands]; done) | simp [Op.operands, Call.operands]) (by rw [HS.out]; decide)).trans A11.out
    obtain ⟨nA, nc, sA, sc, lA, lc, hb, hv⟩ := HBD.out.gb (gb_trans HGW.out hw (.inl rfl))
    have c0 : wq.cell? ⟨w23.heap.size, 0, none⟩ = some (.int .i64 2) := by rw [blk_cell hb]; rfl
    have c1 : wq.cell? ⟨w23.heap.size, 1, none⟩ = some (.slice nA 3 nc) := by rw [blk_cell hb]; rfl
    have c2 : wq.cell? ⟨w23.heap.size, 2, none⟩ = some (.slice sA 0 sc) := by rw [blk_cell hb]; rfl
    have c3 : wq.cell? ⟨w23.heap.size, 3, none⟩ = some (.slice lA 0 lc) := by rw [blk_cell hb]; rfl
    clear hb
    clear hl
    go_simp
    exact ⟨gb_refl _ none, nA, nc, sA, sc, lA, lc, rfl, hv⟩
  -- slot 99
  refine wpFacts_stepG (RowF w24.heap.size 3 #[.int .i64 1, .int .i64 2, .int .i64 3] 2) 41 true 97 rfl (by rw [HO.out]; rfl) (by rw [HS.out]; decide) (fun _ _ h => h) (RowF.up _ _ _ _) ?_ ?_
  · intro a wq hw hl
    clear hl
    go_simp
    exact RowF.new _ _ (Nat.le_trans HGW.out.size hw.size)
  -- slot 100
  refine wpFacts_stepG (ValF (Vl.mk (2) [1, 2, 3] [] [])) 41 true 97 rfl (by rw [HO.out]; rfl) (by rw [HS.out]; decide) (fun _ _ h => h) (ValF.up _) ?_ ?_
  · intro a wq hw hl
    have h99 : (RowF w24.heap.size 3 #[.int .i64 1, .int .i64 2, .int .i64 3] 2) (a.tmps[99]?.getD undef) wq := hl 99 (by first | (simp [Op.operands]; done) | simp [Op.operands, Call.operands]) (by rw [HS.out]; decide)
    obtain ⟨rb, e99, hrb, _⟩ := h99
    clear hl
    go_simp
    refine ⟨gb_refl _ none, (ints7_any [1, 2, 3] wq (some ⟨rb, 0, none⟩) 3 (by decide) (rd_blk hrb rfl)).mono fun _ _ h => ?_⟩
    obtain ⟨x9, h1, h2, h3⟩ := ValF.of_new h
    exact ⟨x9, h1, h2, h3⟩
  -- slot 101
  refine wpFacts_stepG (fun vq _ => vq = .bool true) 41 true 97 rfl (by rw [HO.out]; rfl) (by rw [HS.out]; decide) (fun _ _ h => h) (Lit.up _) ?_ ?_
  · intro a wq hw hl
    have h98 : (ValF (Vl.mk (2) [1, 2, 3] [] [])) (a.tmps[98]?.getD undef) wq := hl 98 (by first | (simp [Op.operands]; done) | simp [Op.operands, Call.operands]) (by rw [HS.out]; decide)
    obtain ⟨nA, nc, sA, sc, lA, lc, e98, hv⟩ := h98
    have h100 : (ValF (Vl.mk (2) [1, 2, 3] [] [])) (a.tmps[100]?.getD undef) wq := hl 100 (by first | (simp [Op.operands]; done) | simp [Op.operands, Call.operands]) (by rw [HS.out]; decide)
    obtain ⟨mA, mc, tA, tc, kA, kc, e100, hv2⟩ := h100
    clear hl
    go_simp
    exact gUpon_lit ((rMatch_any (Vl.mk (2) [1, 2, 3] [] []) (Vl.mk (2) [1, 2, 3] [] []) wq wq.heap.size nA nc sA sc lA lc mA mc tA tc kA kc (by decide) (by decide) (Nat.le_refl _) hv hv2).mono fun _ _ h => ⟨h.1.trans (by rw [show Vl.same (Vl.mk (2) [1, 2, 3] [] []) (Vl.mk (2) [1, 2, 3] [] []) = true by decide]), h.2⟩)
  -- slot 102
  refine wpFacts_lit (.bool true) rfl ?_ ?_
  · intro a wq hw hl
    have e97 : a.tmps[97]?.getD undef = .bool true := hl 97 (by first | (simp [Op.operands]; done) | simp [Op.operands, Call.operands]) (by rw [HS.out]; decide)
    have e101 : a.tmps[101]?.getD undef = .bool true := hl 101 (by first | (simp [Op.operands]; done) | simp [Op.operands, Call.operands]) (by rw [HS.out]; decide)
    clear hl
    go_simp
  -- slot 103
  refine wpFacts_lit (.bool true) rfl ?_ ?_
  · intro a wq hw hl
    have e102 : a.tmps[102]?.getD undef = .bool true := hl 102 (by first | (simp [Op.operands]; done) | simp [Op.operands, Call.operands]) (by rw [HS.out]; decide)
    clear hl
    go_simp
  -- slot 104
  refine wpFacts_litG (.int .i64 0) 47 true 103 rfl (by rw [HO.out]; rfl) (by rw [HS.out]; decide) (fun _ _ h => h) ?_ ?_
  · intro a wq hw hl
    have e12 : a.tmps[12]?.getD undef = .int .i64 0 := (hl 12 (by first | (simp [Op.operands]; done) | simp [Op.operands, Call.operands]) (by rw [HS.out]; decide)).trans A12.out
    clear hl
    go_simp
  -- slot 105
  refine wpFacts_stepG (fun vq _ => vq = .int .i64 0) 47 true 103 rfl (by rw [HO.out]; rfl) (by rw [HS.out]; decide) (fun _ _ h => h) (Lit.up _) ?_ ?_
  · intro a wq hw hl
    have e104 : a.tmps[104]?.getD undef = .int .i64 0 := hl 104 (by first | (simp [Op.operands]; done) | simp [Op.operands, Call.operands]) (by rw [HS.out]; decide)
    clear hl
    go_simp
    exact gUpon_same (num7_any _ _)
  -- slot 106
  refine wpFacts_litG (.bool true) 47 true 103 rfl (by rw [HO.out]; rfl) (by rw [HS.out]; decide) (fun _ _ h => h) ?_ ?_
  · intro a wq hw hl
    have e105 : a.tmps[105]?.getD undef = .int .i64 0 := hl 105 (by first | (simp [Op.operands]; done) | simp [Op.operands, Call.operands]) (by rw [HS.out]; decide)
    clear hl
    go_simp
  -- slot 107
  refine wpFacts_lit (.bool true) rfl ?_ ?_
  · intro a wq hw hl
    have e103 : a.tmps[103]?.getD undef = .bool true := hl 103 (by first | (simp [Op.operands]; done) | simp [Op.operands, Call.operands]) (by rw [HS.out]; decide)
    have e106 : a.tmps[106]?.getD undef = .bool true := hl 106 (by first | (simp [Op.operands]; done) | simp [Op.operands, Call.operands]) (by rw [HS.out]; decide)
    clear hl
    go_simp
  refine HL.out _ (fun a' wz hc => ?_)
  have e107 : a'.eval (.tmp 107) = .bool true := hc.fact 107 (by rw [HS.out]; decide)
  have hgwz := gb_trans HGW.out hc.grown (.inl rfl)
  have hfr := hc.frame [56, 57, 58, 59, 60, 61, 62, 63, 64, 65, 66, 67, 68, 69, 70, 71, 72, 73, 74, 75, 76, 77, 78, 79, 80, 81, 82, 83, 84, 85, 86, 87, 88, 89, 90, 91, 92, 93, 94, 95, 96, 97, 98, 99, 100, 101, 102, 103, 104, 105, 106, 107, 0] (by rw [HO.out]; kernel_rfl)
  rw [hfr]
  clear hfr hc
  rw [HA.out]
  clear HA HO HL HW HS HGW A1 A3 A9 A11 A2 A4 A6 A8 A10 A12
  clear A O W L
  simp only [List.drop_succ_cons, List.drop_zero, List.foldl_cons, List.foldl_nil, Act.put, List.setIfInBounds_toArray, List.set_cons_succ, List.set_cons_zero]
  rw [e107]
  generalize a'.eval (.tmp 56) = x56
  generalize a'.eval (.tmp 57) = x57
  generalize a'.eval (.tmp 58) = x58
  generalize a'.eval (.tmp 59) = x59
  generalize a'.eval (.tmp 60) = x60
  generalize a'.eval (.tmp 61) = x61
  generalize a'.eval (.tmp 62) = x62
  generalize a'.eval (.tmp 63) = x63
  generalize a'.eval (.tmp 64) = x64
  generalize a'.eval (.tmp 65) = x65
  generalize a'.eval (.tmp 66) = x66
  generalize a'.eval (.tmp 67) = x67
  generalize a'.eval (.tmp 68) = x68
  generalize a'.eval (.tmp 69) = x69
  generalize a'.eval (.tmp 70) = x70
  generalize a'.eval (.tmp 71) = x71
  generalize a'.eval (.tmp 72) = x72
  generalize a'.eval (.tmp 73) = x73
  generalize a'.eval (.tmp 74) = x74
  generalize a'.eval (.tmp 75) = x75
  generalize a'.eval (.tmp 76) = x76
  generalize a'.eval (.tmp 77) = x77
  generalize a'.eval (.tmp 78) = x78
  generalize a'.eval (.tmp 79) = x79
  generalize a'.eval (.tmp 80) = x80
  generalize a'.eval (.tmp 81) = x81
  generalize a'.eval (.tmp 82) = x82
  generalize a'.eval (.tmp 83) = x83
  generalize a'.eval (.tmp 84) = x84
  generalize a'.eval (.tmp 85) = x85
  generalize a'.eval (.tmp 86) = x86
  generalize a'.eval (.tmp 87) = x87
  generalize a'.eval (.tmp 88) = x88
  generalize a'.eval (.tmp 89) = x89
  generalize a'.eval (.tmp 90) = x90
  generalize a'.eval (.tmp 91) = x91
  generalize a'.eval (.tmp 92) = x92
  generalize a'.eval (.tmp 93) = x93
  generalize a'.eval (.tmp 94) = x94
  generalize a'.eval (.tmp 95) = x95
  generalize a'.eval (.tmp 96) = x96
  generalize a'.eval (.tmp 97) = x97
  generalize a'.eval (.tmp 98) = x98
  generalize a'.eval (.tmp 99) = x99
  generalize a'.eval (.tmp 100) = x100
  generalize a'.eval (.tmp 101) = x101
  generalize a'.eval (.tmp 102) = x102
  generalize a'.eval (.tmp 103) = x103
  generalize a'.eval (.tmp 104) = x104
  generalize a'.eval (.tmp 105) = x105
  generalize a'.eval (.tmp 106) = x106
  generalize a'.eval (.tmp 0) = x0
  clear e107
  clear a'
  have HGZ := hide (gb_trans HG0.out hgwz (.inl rfl))
  clear hgwz
  go_wp2_with fail
  exact bodyPost_ret (v := .bool true) (by simp [results, Tryz.results7, go_sem]) rfl ⟨rfl, HGZ.out⟩
end Go.Proofs.YtnilcnobngcbgaaGreat

namespace Go.Proofs.YtnilcnobngcbgaaGreat
open Go.RowKit
attribute [local go_sem ↓] Go.wp_at_zero Go.wp_at_succ

theorem doI_one (f : Int → Int → Option Int) (a b n : Int) (h : f a b = some n) : doI f (Vl.mk (-2) [a] [] []) (Vl.mk (-2) [b] [] []) = .ok (-2, [n]) := by
  have h1 : eachO f [a] [b] 0 1 = some [n] := by simp [eachO, h]
  unfold doI
  rw [if_neg (show ¬ ((Vl.mk (-2) [a] [] []).t = 2) from (by decide : ¬ ((-2 : Int) = 2)))]
  have e : eachO f (Vl.mk (-2) [a] [] []).n (Vl.mk (-2) [b] [] []).n 0 (Vl.mk (-2) [b] [] []).n.length = some [n] := h1
  rw [e]
  rfl
set_option maxHeartbeats 8000000 in
set_option maxRecDepth 100000 in
theorem rNullI_any (k : Int) (w : World) (nA : Option Addr) (nc : Nat) (sA : Option Addr) (sc : Nat) (lA : Option Addr) (lc : Nat) (h : VB w w.heap.size (.mk (-2) [k] [] []) nA nc sA sc lA lc) :
    Calls Tryz.prog 22 #[.agg #[.int .i64 (-2), .slice nA 1 nc, .slice sA 0 sc, .slice lA 0 lc], .int .i64 0] w fun e w' => e = .returned (.bool (k == (-9223372036854775808))) ∧ w.grownBy w' none := by
  obtain ⟨wa, hwa⟩ : ∃ wa, wa = w.alloc (.cells #[.int .i64 (-2), .slice nA 1 nc, .slice sA 0 sc, .slice lA 0 lc] 26) := ⟨_, rfl⟩
  have hb : wa.heap[w.heap.size]? = some (.cells #[.int .i64 (-2), .slice nA 1 nc, .slice sA 0 sc, .slice lA 0 lc] 26 (0, 0)) := by rw [hwa]; exact heap_alloc_new w _
  have hg : w.grownBy wa none := by rw [hwa]; exact gb_alloc (gb_refl w none) _
  have HB := hide hb
  have HG := hide hg
  have HWE := hide hwa
  obtain ⟨ad, rfl, _, hcl⟩ := h.n.i64 (k := 0) (by show 0 < 1; decide)
  have hcl : w.cell? (ad.add 0) = some (.int .i64 k) := hcl
  rw [Addr.add_zero'] at hcl
  have HCL := hide hcl
  have HCN := hide (fun w2 (hg : w.grownBy w2 none) => rCount_any (.mk (-2) [k] [] []) w2 w.heap.size (some ad) nc sA sc lA lc (by rw [Vl.tot_def]; show 1 + 1 + 0 + 0 + 0 ≤ 1100000; decide) hg.size (h.gb hg (Nat.le_refl _)))
  have HGX := hide (gb_refl wa none)
  obtain ⟨c0, c1, c2, c3⟩ : C4 wa w.heap.size 0 (.int .i64 (-2)) (.slice (some ad) 1 nc) (.slice sA 0 sc) (.slice lA 0 lc) := ⟨by rw [blk_cell hb]; rfl, by rw [blk_cell hb]; rfl, by rw [blk_cell hb]; rfl, by rw [blk_cell hb]; rfl⟩
  have d0 := c0; have d1 := c1; have d2 := c2; have d3 := c3
  rw [hwa] at d0 d1 d2 d3
  have cl := cell_gb hcl hg
  clear hb hg hwa h hcl
  go_enter Tryz.func22, Tryz.ntmps22
  go_wp2_with fail
  rw [← HWE.out]
  clear d0 d1 d2 d3
  go_wp2_with (first
    | (go_at_call 23; refine (rVec_any _ _ _ _ _).mono ?_; rintro e w1 ⟨rfl, hg1⟩; have HGn := hide (gb_trans HGX.out hg1 (.inl rfl)); have cln := cell_gb cl hg1; clear HGX cl c0 c1 c2 c3; have HGX := hide HGn.out; have cl := cln; clear HGn cln hg1; obtain ⟨c0, c1, c2, c3⟩ : C4 w1 w.heap.size 0 (.int .i64 (-2)) (.slice (some ad) 1 nc) (.slice sA 0 sc) (.slice lA 0 lc) := (by have h := blk_keep HB.out HGX.out (by simp); exact ⟨by rw [blk_cell h]; rfl, by rw [blk_cell h]; rfl, by rw [blk_cell h]; rfl, by rw [blk_cell h]; rfl⟩))
    | (go_at_call 48; refine (rAtom_any _ _ _ _ _).mono ?_; rintro e w1 ⟨rfl, hg1⟩; have HGn := hide (gb_trans HGX.out hg1 (.inl rfl)); have cln := cell_gb cl hg1; clear HGX cl c0 c1 c2 c3; have HGX := hide HGn.out; have cl := cln; clear HGn cln hg1; obtain ⟨c0, c1, c2, c3⟩ : C4 w1 w.heap.size 0 (.int .i64 (-2)) (.slice (some ad) 1 nc) (.slice sA 0 sc) (.slice lA 0 lc) := (by have h := blk_keep HB.out HGX.out (by simp); exact ⟨by rw [blk_cell h]; rfl, by rw [blk_cell h]; rfl, by rw [blk_cell h]; rfl, by rw [blk_cell h]; rfl⟩))
    | (go_at_call 24; refine (HCN.out _ (gb_trans HG.out HGX.out (.inl rfl))).mono ?_; rintro e w1 ⟨rfl, hg1⟩; have HGn := hide (gb_trans HGX.out hg1 (.inl rfl)); have cln := cell_gb cl hg1; clear HGX cl c0 c1 c2 c3; have HGX := hide HGn.out; have cl := cln; clear HGn cln hg1; obtain ⟨c0, c1, c2, c3⟩ : C4 w1 w.heap.size 0 (.int .i64 (-2)) (.slice (some ad) 1 nc) (.slice sA 0 sc) (.slice lA 0 lc) := (by have h := blk_keep HB.out HGX.out (by simp); exact ⟨by rw [blk_cell h]; rfl, by rw [blk_cell h]; rfl, by rw [blk_cell h]; rfl, by rw [blk_cell h]; rfl⟩))
    | (go_at_call 46; refine (rAbs_any _ _).mono ?_; rintro e w1 ⟨rfl, rfl⟩))
  exact bodyPost_ret (v := .bool (k == (-9223372036854775808))) (by simp [results, Tryz.results22, go_sem]) rfl ⟨rfl, gb_trans HG.out HGX.out (.inl rfl)⟩
theorem ia_one {a : Int} (h : I64 a) : IntV (.mk (-2) [a] [] []) := intV_lit _ _ (.inr ⟨rfl, rfl⟩) (by show 1 ≤ 1000000; decide) (by intro k hk; simp at hk; subst hk; exact h)
theorem wrap_back (p n a : Int) (h : p + n = a) (ha : I64 a) : IntKind.i64.wrap (IntKind.i64.wrap p + n) = a := by
  have h1 := ha.1
  have h2 := ha.2
  rw [IntKind.wrap_i64, IntKind.wrap_i64]
  omega
set_option maxHeartbeats 8000000 in
set_option maxRecDepth 100000 in
theorem rounds_null_a (a b : Int) (ha : I64 a) (hb : I64 b) (h : a = (-9223372036854775808)) (w : World) : Calls Tryz.prog 4 #[.int .i64 a, .int .i64 b] w fun e w' => e = .returned (.bool true) ∧ w.grownBy w' none := by
  have ia := ia_one ha
  have ib := ia_one hb
  have ev : doI (strictF quoF) (Vl.mk (-2) [a] [] []) (Vl.mk (-2) [b] [] []) = .ok (-2, [(-9223372036854775808)]) := doI_one _ _ _ _ (by unfold strictF; rw [if_pos (.inl h)])
  have e1 : (a == (-9223372036854775808)) = true := by simp [h]
  clear h
  have HG0 := hide (gb_refl w none)
  clear ha hb
  go_enter Tryz.func4, Tryz.ntmps4
  go_wp2_with fail
  refine (atom_new a _).mono ?_
  rintro e w1 ⟨nA1, nc1, sA1, sc1, lA1, lc1, rfl, hv1, hg1⟩
  have HGn := hide (gb_trans HG0.out hg1 (.inl rfl))
  clear HG0
  have HG0 := hide HGn.out
  clear HGn hg1
  have HV1 := hide hv1
  clear hv1
  go_wp2_with fail
  refine (atom_new b _).mono ?_
  rintro e w2 ⟨nA2, nc2, sA2, sc2, lA2, lc2, rfl, hv2, hg2⟩
  have HV1n := hide ((HV1.out.gb hg2 (Nat.le_refl _)).up hg2.size)
  clear HV1
  have HV1 := hide HV1n.out
  clear HV1n
  have HGn := hide (gb_trans HG0.out hg2 (.inl rfl))
  clear HG0
  have HG0 := hide HGn.out
  clear HGn hg2
  have HV2 := hide hv2
  clear hv2
  go_wp2_with fail
  have CD := do_divide (Vl.mk (-2) [a] [] []) (Vl.mk (-2) [b] [] []) _ _ nA1 nc1 sA1 sc1 lA1 lc1 nA2 nc2 sA2 sc2 lA2 lc2 ia ib (Nat.le_refl _) HV1.out HV2.out
  rw [ev] at CD
  refine CD.mono ?_
  clear CD
  clear HV1
  clear HV2
  intro e w3 hd
  obtain ⟨Aq, cq, rfl, hv, hg3⟩ := DoR.lit 1 rfl hd
  clear hd
  have HGn := hide (gb_trans HG0.out hg3 (.inl rfl))
  clear HG0
  have HG0 := hide HGn.out
  clear HGn hg3
  have HQq := hide hv
  clear hv
  go_wp2_with fail
  obtain ⟨w4, hw4⟩ : ∃ w4, w4 = w3.alloc (.cells #[.int .i64 (-2), .slice Aq 1 cq, .slice none 0 0, .slice none 0 0] 26) := ⟨_, rfl⟩
  have hg4 : w3.grownBy w4 none := by rw [hw4]; exact gb_alloc (gb_refl w3 none) _
  have HBq := hide (show w4.heap[w3.heap.size]? = some (.cells #[.int .i64 (-2), .slice Aq 1 cq, .slice none 0 0, .slice none 0 0] 26 (0, 0)) by rw [hw4]; exact heap_alloc_new w3 _)
  have HQqn := hide ((HQq.out.gb hg4 (Nat.le_refl _)).up hg4.size)
  clear HQq
  have HQq := hide HQqn.out
  clear HQqn
  have HGn := hide (gb_trans HG0.out hg4 (.inl rfl))
  clear HG0
  have HG0 := hide HGn.out
  clear HGn hg4
  rw [← hw4]
  clear hw4
  have cq0 : w4.cell? ⟨w3.heap.size, 0, none⟩ = some (.int .i64 (-2)) := by rw [blk_cell HBq.out]; rfl
  have cq1 : w4.cell? ⟨w3.heap.size, 1, none⟩ = some (.slice Aq 1 cq) := by rw [blk_cell HBq.out]; rfl
  have cq2 : w4.cell? ⟨w3.heap.size, 2, none⟩ = some (.slice none 0 0) := by rw [blk_cell HBq.out]; rfl
  have cq3 : w4.cell? ⟨w3.heap.size, 3, none⟩ = some (.slice none 0 0) := by rw [blk_cell HBq.out]; rfl
  refine (num7_any _ _).mono ?_
  rintro e wn ⟨rfl, rfl⟩
  go_wp2_with fail
  refine (rNullI_any (-9223372036854775808) _ Aq cq none 0 none 0 HQq.out).mono ?_
  rintro e wi ⟨rfl, hgi⟩
  have HQqn := hide ((HQq.out.gb hgi (Nat.le_refl _)).up hgi.size)
  clear HQq
  have HQq := hide HQqn.out
  clear HQqn
  have HBqn := hide (blk_keep HBq.out hgi (by simp))
  clear HBq
  have HBq := hide HBqn.out
  clear HBqn
  have HGn := hide (gb_trans HG0.out hgi (.inl rfl))
  clear HG0
  have HG0 := hide HGn.out
  clear HGn hgi
  go_wp2_with fail
  refine (live7_any _).mono ?_
  rintro e wl ⟨rfl, hgl⟩
  have HQqn := hide ((HQq.out.gb hgl (Nat.le_refl _)).up hgl.size)
  clear HQq
  have HQq := hide HQqn.out
  clear HQqn
  have HBqn := hide (blk_keep HBq.out hgl (by simp))
  clear HBq
  have HBq := hide HBqn.out
  clear HBqn
  have HGn := hide (gb_trans HG0.out hgl (.inl rfl))
  clear HG0
  have HG0 := hide HGn.out
  clear HGn hgl
  go_wp2_with fail
  refine bodyPost_ret (v := .bool true) (by simp [results, Tryz.results4, go_sem]) rfl ⟨rfl, HG0.out⟩
set_option maxHeartbeats 8000000 in
set_option maxRecDepth 100000 in
theorem rounds_null_b (a b : Int) (ha : I64 a) (hb : I64 b) (h0 : a ≠ (-9223372036854775808)) (h : b = (-9223372036854775808)) (w : World) : Calls Tryz.prog 4 #[.int .i64 a, .int .i64 b] w fun e w' => e = .returned (.bool true) ∧ w.grownBy w' none := by
  have ia := ia_one ha
  have ib := ia_one hb
  have ev : doI (strictF quoF) (Vl.mk (-2) [a] [] []) (Vl.mk (-2) [b] [] []) = .ok (-2, [(-9223372036854775808)]) := doI_one _ _ _ _ (by unfold strictF; rw [if_pos (.inr h)])
  have e1 := int_beq_f h0
  have e2 : (b == (-9223372036854775808)) = true := by simp [h]
  clear h0 h
  have HG0 := hide (gb_refl w none)
  clear ha hb
  go_enter Tryz.func4, Tryz.ntmps4
  go_wp2_with fail
  refine (atom_new a _).mono ?_
  rintro e w1 ⟨nA1, nc1, sA1, sc1, lA1, lc1, rfl, hv1, hg1⟩
  have HGn := hide (gb_trans HG0.out hg1 (.inl rfl))
  clear HG0
  have HG0 := hide HGn.out
  clear HGn hg1
  have HV1 := hide hv1
  clear hv1
  go_wp2_with fail
  refine (atom_new b _).mono ?_
  rintro e w2 ⟨nA2, nc2, sA2, sc2, lA2, lc2, rfl, hv2, hg2⟩
  have HV1n := hide ((HV1.out.gb hg2 (Nat.le_refl _)).up hg2.size)
  clear HV1
  have HV1 := hide HV1n.out
  clear HV1n
  have HGn := hide (gb_trans HG0.out hg2 (.inl rfl))
  clear HG0
  have HG0 := hide HGn.out
  clear HGn hg2
  have HV2 := hide hv2
  clear hv2
  go_wp2_with fail
  have CD := do_divide (Vl.mk (-2) [a] [] []) (Vl.mk (-2) [b] [] []) _ _ nA1 nc1 sA1 sc1 lA1 lc1 nA2 nc2 sA2 sc2 lA2 lc2 ia ib (Nat.le_refl _) HV1.out HV2.out
  rw [ev] at CD
  refine CD.mono ?_
  clear CD
  clear HV1
  clear HV2
  intro e w3 hd
  obtain ⟨Aq, cq, rfl, hv, hg3⟩ := DoR.lit 1 rfl hd
  clear hd
  have HGn := hide (gb_trans HG0.out hg3 (.inl rfl))
  clear HG0
  have HG0 := hide HGn.out
  clear HGn hg3
  have HQq := hide hv
  clear hv
  go_wp2_with fail
  obtain ⟨w4, hw4⟩ : ∃ w4, w4 = w3.alloc (.cells #[.int .i64 (-2), .slice Aq 1 cq, .slice none 0 0, .slice none 0 0] 26) := ⟨_, rfl⟩
  have hg4 : w3.grownBy w4 none := by rw [hw4]; exact gb_alloc (gb_refl w3 none) _
  have HBq := hide (show w4.heap[w3.heap.size]? = some (.cells #[.int .i64 (-2), .slice Aq 1 cq, .slice none 0 0, .slice none 0 0] 26 (0, 0)) by rw [hw4]; exact heap_alloc_new w3 _)
  have HQqn := hide ((HQq.out.gb hg4 (Nat.le_refl _)).up hg4.size)
  clear HQq
  have HQq := hide HQqn.out
  clear HQqn
  have HGn := hide (gb_trans HG0.out hg4 (.inl rfl))
  clear HG0
  have HG0 := hide HGn.out
  clear HGn hg4
  rw [← hw4]
  clear hw4
  have cq0 : w4.cell? ⟨w3.heap.size, 0, none⟩ = some (.int .i64 (-2)) := by rw [blk_cell HBq.out]; rfl
  have cq1 : w4.cell? ⟨w3.heap.size, 1, none⟩ = some (.slice Aq 1 cq) := by rw [blk_cell HBq.out]; rfl
  have cq2 : w4.cell? ⟨w3.heap.size, 2, none⟩ = some (.slice none 0 0) := by rw [blk_cell HBq.out]; rfl
  have cq3 : w4.cell? ⟨w3.heap.size, 3, none⟩ = some (.slice none 0 0) := by rw [blk_cell HBq.out]; rfl
  refine (num7_any _ _).mono ?_
  rintro e wn ⟨rfl, rfl⟩
  go_wp2_with fail
  refine (rNullI_any (-9223372036854775808) _ Aq cq none 0 none 0 HQq.out).mono ?_
  rintro e wi ⟨rfl, hgi⟩
  have HQqn := hide ((HQq.out.gb hgi (Nat.le_refl _)).up hgi.size)
  clear HQq
  have HQq := hide HQqn.out
  clear HQqn
  have HBqn := hide (blk_keep HBq.out hgi (by simp))
  clear HBq
  have HBq := hide HBqn.out
  clear HBqn
  have HGn := hide (gb_trans HG0.out hgi (.inl rfl))
  clear HG0
  have HG0 := hide HGn.out
  clear HGn hgi
  go_wp2_with fail
  refine (live7_any _).mono ?_
  rintro e wl ⟨rfl, hgl⟩
  have HQqn := hide ((HQq.out.gb hgl (Nat.le_refl _)).up hgl.size)
  clear HQq
  have HQq := hide HQqn.out
  clear HQqn
  have HBqn := hide (blk_keep HBq.out hgl (by simp))
  clear HBq
  have HBq := hide HBqn.out
  clear HBqn
  have HGn := hide (gb_trans HG0.out hgl (.inl rfl))
  clear HG0
  have HG0 := hide HGn.out
  clear HGn hgl
  go_wp2_with fail
  refine bodyPost_ret (v := .bool true) (by simp [results, Tryz.results4, go_sem]) rfl ⟨rfl, HG0.out⟩
set_option maxHeartbeats 8000000 in
set_option maxRecDepth 100000 in
theorem rounds_null_z (a b : Int) (ha : I64 a) (hb : I64 b) (h0 : a ≠ (-9223372036854775808)) (h1 : b ≠ (-9223372036854775808)) (h : b = 0) (w : World) : Calls Tryz.prog 4 #[.int .i64 a, .int .i64 b] w fun e w' => e = .returned (.bool true) ∧ w.grownBy w' none := by
  have ia := ia_one ha
  have ib := ia_one hb
  have ev : doI (strictF quoF) (Vl.mk (-2) [a] [] []) (Vl.mk (-2) [b] [] []) = .ok (-2, [(-9223372036854775808)]) := doI_one _ _ _ _ (by unfold strictF; rw [if_neg (by rintro (x | x); exact h0 x; exact h1 x)]; unfold quoF quoI; rw [if_pos h])
  have e1 := int_beq_f h0
  have e2 := int_beq_f h1
  have e3 : (b == 0) = true := by simp [h]
  clear h0 h1 h
  have HG0 := hide (gb_refl w none)
  clear ha hb
  go_enter Tryz.func4, Tryz.ntmps4
  go_wp2_with fail
  refine (atom_new a _).mono ?_
  rintro e w1 ⟨nA1, nc1, sA1, sc1, lA1, lc1, rfl, hv1, hg1⟩
  have HGn := hide (gb_trans HG0.out hg1 (.inl rfl))
  clear HG0
  have HG0 := hide HGn.out
  clear HGn hg1
  have HV1 := hide hv1
  clear hv1
  go_wp2_with fail
  refine (atom_new b _).mono ?_
  rintro e w2 ⟨nA2, nc2, sA2, sc2, lA2, lc2, rfl, hv2, hg2⟩
  have HV1n := hide ((HV1.out.gb hg2 (Nat.le_refl _)).up hg2.size)
  clear HV1
  have HV1 := hide HV1n.out
  clear HV1n
  have HGn := hide (gb_trans HG0.out hg2 (.inl rfl))
  clear HG0
  have HG0 := hide HGn.out
  clear HGn hg2
  have HV2 := hide hv2
  clear hv2
  go_wp2_with fail
  have CD := do_divide (Vl.mk (-2) [a] [] []) (Vl.mk (-2) [b] [] []) _ _ nA1 nc1 sA1 sc1 lA1 lc1 nA2 nc2 sA2 sc2 lA2 lc2 ia ib (Nat.le_refl _) HV1.out HV2.out
  rw [ev] at CD
  refine CD.mono ?_
  clear CD
  clear HV1
  clear HV2
  intro e w3 hd
  obtain ⟨Aq, cq, rfl, hv, hg3⟩ := DoR.lit 1 rfl hd
  clear hd
  have HGn := hide (gb_trans HG0.out hg3 (.inl rfl))
  clear HG0
  have HG0 := hide HGn.out
  clear HGn hg3
  have HQq := hide hv
  clear hv
  go_wp2_with fail
  obtain ⟨w4, hw4⟩ : ∃ w4, w4 = w3.alloc (.cells #[.int .i64 (-2), .slice Aq 1 cq, .slice none 0 0, .slice none 0 0] 26) := ⟨_, rfl⟩
  have hg4 : w3.grownBy w4 none := by rw [hw4]; exact gb_alloc (gb_refl w3 none) _
  have HBq := hide (show w4.heap[w3.heap.size]? = some (.cells #[.int .i64 (-2), .slice Aq 1 cq, .slice none 0 0, .slice none 0 0] 26 (0, 0)) by rw [hw4]; exact heap_alloc_new w3 _)
  have HQqn := hide ((HQq.out.gb hg4 (Nat.le_refl _)).up hg4.size)
  clear HQq
  have HQq := hide HQqn.out
  clear HQqn
  have HGn := hide (gb_trans HG0.out hg4 (.inl rfl))
  clear HG0
  have HG0 := hide HGn.out
  clear HGn hg4
  rw [← hw4]
  clear hw4
  have cq0 : w4.cell? ⟨w3.heap.size, 0, none⟩ = some (.int .i64 (-2)) := by rw [blk_cell HBq.out]; rfl
  have cq1 : w4.cell? ⟨w3.heap.size, 1, none⟩ = some (.slice Aq 1 cq) := by rw [blk_cell HBq.out]; rfl
  have cq2 : w4.cell? ⟨w3.heap.size, 2, none⟩ = some (.slice none 0 0) := by rw [blk_cell HBq.out]; rfl
  have cq3 : w4.cell? ⟨w3.heap.size, 3, none⟩ = some (.slice none 0 0) := by rw [blk_cell HBq.out]; rfl
  refine (num7_any _ _).mono ?_
  rintro e wn ⟨rfl, rfl⟩
  go_wp2_with fail
  refine (rNullI_any (-9223372036854775808) _ Aq cq none 0 none 0 HQq.out).mono ?_
  rintro e wi ⟨rfl, hgi⟩
  have HQqn := hide ((HQq.out.gb hgi (Nat.le_refl _)).up hgi.size)
  clear HQq
  have HQq := hide HQqn.out
  clear HQqn
  have HBqn := hide (blk_keep HBq.out hgi (by simp))
  clear HBq
  have HBq := hide HBqn.out
  clear HBqn
  have HGn := hide (gb_trans HG0.out hgi (.inl rfl))
  clear HG0
  have HG0 := hide HGn.out
  clear HGn hgi
  go_wp2_with fail
  refine (live7_any _).mono ?_
  rintro e wl ⟨rfl, hgl⟩
  have HQqn := hide ((HQq.out.gb hgl (Nat.le_refl _)).up hgl.size)
  clear HQq
  have HQq := hide HQqn.out
  clear HQqn
  have HBqn := hide (blk_keep HBq.out hgl (by simp))
  clear HBq
  have HBq := hide HBqn.out
  clear HBqn
  have HGn := hide (gb_trans HG0.out hgl (.inl rfl))
  clear HG0
  have HG0 := hide HGn.out
  clear HGn hgl
  go_wp2_with fail
  refine bodyPost_ret (v := .bool true) (by simp [results, Tryz.results4, go_sem]) rfl ⟨rfl, HG0.out⟩
set_option maxHeartbeats 8000000 in
set_option maxRecDepth 100000 in
theorem rounds_num (a b : Int) (ha : I64 a) (hb : I64 b) (h0 : a ≠ (-9223372036854775808)) (h1 : b ≠ (-9223372036854775808)) (h2 : b ≠ 0) (w : World) : Calls Tryz.prog 4 #[.int .i64 a, .int .i64 b] w fun e w' => e = .returned (.bool true) ∧ w.grownBy w' none := by
  have ia := ia_one ha
  have ib := ia_one hb
  have hs : ¬ (a = (-9223372036854775808) ∨ b = (-9223372036854775808)) := by rintro (x | x); exact h0 x; exact h1 x
  have ev : doI (strictF quoF) (Vl.mk (-2) [a] [] []) (Vl.mk (-2) [b] [] []) = .ok (-2, [flq a b]) := doI_one _ _ _ _ (by unfold strictF; rw [if_neg hs]; unfold quoF quoI; rw [if_neg h2])
  have ew : doI (strictF remF) (Vl.mk (-2) [a] [] []) (Vl.mk (-2) [b] [] []) = .ok (-2, [rmq a b]) := doI_one _ _ _ _ (by unfold strictF; rw [if_neg hs]; unfold remF remI; rw [if_neg h2])
  obtain ⟨hq, hr⟩ := flq_rmq a b h2
  have hw1 := wrap_back _ _ _ hq ha
  have e1 := int_beq_f h0
  have e2 := int_beq_f h1
  have e3 := int_beq_f h2
  obtain ⟨fq, hfq⟩ : ∃ fq, fq = flq a b := ⟨_, rfl⟩
  obtain ⟨fr, hfr⟩ : ∃ fr, fr = rmq a b := ⟨_, rfl⟩
  rw [← hfq] at ev hw1
  rw [← hfr] at ew hw1 hr
  have HG0 := hide (gb_refl w none)
  have HR := hide hr
  clear ha hb hs h0 h1 h2 hq hfq hfr hr
  obtain ⟨m1, hm0⟩ : ∃ m1, m1 = IntKind.i64.wrap (fq * b) := ⟨_, rfl⟩
  rw [← hm0] at hw1
  have HM1 := hide hm0.symm
  have HW1 := hide hw1
  clear hm0 hw1
  go_enter Tryz.func4, Tryz.ntmps4
  go_wp2_with fail
  refine (atom_new a _).mono ?_
  rintro e w1 ⟨nA1, nc1, sA1, sc1, lA1, lc1, rfl, hv1, hg1⟩
  have HGn := hide (gb_trans HG0.out hg1 (.inl rfl))
  clear HG0
  have HG0 := hide HGn.out
  clear HGn hg1
  have HV1 := hide hv1
  clear hv1
  go_wp2_with fail
  refine (atom_new b _).mono ?_
  rintro e w2 ⟨nA2, nc2, sA2, sc2, lA2, lc2, rfl, hv2, hg2⟩
  have HV1n := hide ((HV1.out.gb hg2 (Nat.le_refl _)).up hg2.size)
  clear HV1
  have HV1 := hide HV1n.out
  clear HV1n
  have HGn := hide (gb_trans HG0.out hg2 (.inl rfl))
  clear HG0
  have HG0 := hide HGn.out
  clear HGn hg2
  have HV2 := hide hv2
  clear hv2
  go_wp2_with fail
  have CD := do_divide (Vl.mk (-2) [a] [] []) (Vl.mk (-2) [b] [] []) _ _ nA1 nc1 sA1 sc1 lA1 lc1 nA2 nc2 sA2 sc2 lA2 lc2 ia ib (Nat.le_refl _) HV1.out HV2.out
  rw [ev] at CD
  refine CD.mono ?_
  clear CD
  clear HV1
  clear HV2
  intro e w3 hd
  obtain ⟨Aq, cq, rfl, hv, hg3⟩ := DoR.lit 1 rfl hd
  clear hd
  have HGn := hide (gb_trans HG0.out hg3 (.inl rfl))
  clear HG0
  have HG0 := hide HGn.out
  clear HGn hg3
  have HQq := hide hv
  clear hv
  go_wp2_with fail
  obtain ⟨w4, hw4⟩ : ∃ w4, w4 = w3.alloc (.cells #[.int .i64 (-2), .slice Aq 1 cq, .slice none 0 0, .slice none 0 0] 26) := ⟨_, rfl⟩
  have hg4 : w3.grownBy w4 none := by rw [hw4]; exact gb_alloc (gb_refl w3 none) _
  have HBq := hide (show w4.heap[w3.heap.size]? = some (.cells #[.int .i64 (-2), .slice Aq 1 cq, .slice none 0 0, .slice none 0 0] 26 (0, 0)) by rw [hw4]; exact heap_alloc_new w3 _)
  have HQqn := hide ((HQq.out.gb hg4 (Nat.le_refl _)).up hg4.size)
  clear HQq
  have HQq := hide HQqn.out
  clear HQqn
  have HGn := hide (gb_trans HG0.out hg4 (.inl rfl))
  clear HG0
  have HG0 := hide HGn.out
  clear HGn hg4
  rw [← hw4]
  clear hw4
  refine (atom_new a _).mono ?_
  rintro e w5 ⟨nA5, nc5, sA5, sc5, lA5, lc5, rfl, hv5, hg5⟩
  have HQqn := hide ((HQq.out.gb hg5 (Nat.le_refl _)).up hg5.size)
  clear HQq
  have HQq := hide HQqn.out
  clear HQqn
  have HBqn := hide (blk_keep HBq.out hg5 (by simp))
  clear HBq
  have HBq := hide HBqn.out
  clear HBqn
  have HGn := hide (gb_trans HG0.out hg5 (.inl rfl))
  clear HG0
  have HG0 := hide HGn.out
  clear HGn hg5
  have HV5 := hide hv5
  clear hv5
  go_wp2_with fail
  refine (atom_new b _).mono ?_
  rintro e w6 ⟨nA6, nc6, sA6, sc6, lA6, lc6, rfl, hv6, hg6⟩
  have HQqn := hide ((HQq.out.gb hg6 (Nat.le_refl _)).up hg6.size)
  clear HQq
  have HQq := hide HQqn.out
  clear HQqn
  have HBqn := hide (blk_keep HBq.out hg6 (by simp))
  clear HBq
  have HBq := hide HBqn.out
  clear HBqn
  have HV5n := hide ((HV5.out.gb hg6 (Nat.le_refl _)).up hg6.size)
  clear HV5
  have HV5 := hide HV5n.out
  clear HV5n
  have HGn := hide (gb_trans HG0.out hg6 (.inl rfl))
  clear HG0
  have HG0 := hide HGn.out
  clear HGn hg6
  have HV6 := hide hv6
  clear hv6
  go_wp2_with fail
  have CD := do_modulo (Vl.mk (-2) [a] [] []) (Vl.mk (-2) [b] [] []) _ _ nA5 nc5 sA5 sc5 lA5 lc5 nA6 nc6 sA6 sc6 lA6 lc6 ia ib (Nat.le_refl _) HV5.out HV6.out
  rw [ew] at CD
  refine CD.mono ?_
  clear CD
  clear HV5
  clear HV6
  intro e w7 hd
  obtain ⟨Ar, cr, rfl, hv, hg7⟩ := DoR.lit 1 rfl hd
  clear hd
  have HQqn := hide ((HQq.out.gb hg7 (Nat.le_refl _)).up hg7.size)
  clear HQq
  have HQq := hide HQqn.out
  clear HQqn
  have HBqn := hide (blk_keep HBq.out hg7 (by simp))
  clear HBq
  have HBq := hide HBqn.out
  clear HBqn
  have HGn := hide (gb_trans HG0.out hg7 (.inl rfl))
  clear HG0
  have HG0 := hide HGn.out
  clear HGn hg7
  have HQr := hide hv
  clear hv
  go_wp2_with fail
  obtain ⟨w8, hw8⟩ : ∃ w8, w8 = w7.alloc (.cells #[.int .i64 (-2), .slice Ar 1 cr, .slice none 0 0, .slice none 0 0] 26) := ⟨_, rfl⟩
  have hg8 : w7.grownBy w8 none := by rw [hw8]; exact gb_alloc (gb_refl w7 none) _
  have HBr := hide (show w8.heap[w7.heap.size]? = some (.cells #[.int .i64 (-2), .slice Ar 1 cr, .slice none 0 0, .slice none 0 0] 26 (0, 0)) by rw [hw8]; exact heap_alloc_new w7 _)
  have HQqn := hide ((HQq.out.gb hg8 (Nat.le_refl _)).up hg8.size)
  clear HQq
  have HQq := hide HQqn.out
  clear HQqn
  have HBqn := hide (blk_keep HBq.out hg8 (by simp))
  clear HBq
  have HBq := hide HBqn.out
  clear HBqn
  have HQrn := hide ((HQr.out.gb hg8 (Nat.le_refl _)).up hg8.size)
  clear HQr
  have HQr := hide HQrn.out
  clear HQrn
  have HGn := hide (gb_trans HG0.out hg8 (.inl rfl))
  clear HG0
  have HG0 := hide HGn.out
  clear HGn hg8
  rw [← hw8]
  clear hw8
  obtain ⟨adq, rfl, _, hcq⟩ := HQq.out.n.i64 (k := 0) (by show 0 < 1; decide)
  have hcq : w8.cell? (adq.add 0) = some (.int .i64 fq) := hcq
  rw [Addr.add_zero'] at hcq
  have HCq := hide hcq
  have cq0 : w8.cell? ⟨w3.heap.size, 0, none⟩ = some (.int .i64 (-2)) := by rw [blk_cell HBq.out]; rfl
  have cq1 : w8.cell? ⟨w3.heap.size, 1, none⟩ = some (.slice (some adq) 1 cq) := by rw [blk_cell HBq.out]; rfl
  have cq2 : w8.cell? ⟨w3.heap.size, 2, none⟩ = some (.slice none 0 0) := by rw [blk_cell HBq.out]; rfl
  have cq3 : w8.cell? ⟨w3.heap.size, 3, none⟩ = some (.slice none 0 0) := by rw [blk_cell HBq.out]; rfl
  obtain ⟨adr, rfl, _, hcr⟩ := HQr.out.n.i64 (k := 0) (by show 0 < 1; decide)
  have hcr : w8.cell? (adr.add 0) = some (.int .i64 fr) := hcr
  rw [Addr.add_zero'] at hcr
  have HCr := hide hcr
  have cr0 : w8.cell? ⟨w7.heap.size, 0, none⟩ = some (.int .i64 (-2)) := by rw [blk_cell HBr.out]; rfl
  have cr1 : w8.cell? ⟨w7.heap.size, 1, none⟩ = some (.slice (some adr) 1 cr) := by rw [blk_cell HBr.out]; rfl
  have cr2 : w8.cell? ⟨w7.heap.size, 2, none⟩ = some (.slice none 0 0) := by rw [blk_cell HBr.out]; rfl
  have cr3 : w8.cell? ⟨w7.heap.size, 3, none⟩ = some (.slice none 0 0) := by rw [blk_cell HBr.out]; rfl
  clear HQq HQr HBq HBr ev ew ia ib
  have hm1 := HM1.out
  have hw1 := HW1.out
  rcases HR.out with ⟨k1, k2, k3⟩ | ⟨k1, k2, k3⟩
  · have d1 : decide (0 < b) = true := decide_eq_true k1
    clear HR
    go_wp2_with (first | (go_at_call 13; refine (num7_any _ _).mono ?_; rintro e wn ⟨rfl, rfl⟩) | (go_at_call 7; refine (live7_any _).mono ?_; rintro e wl ⟨rfl, hgl⟩; have HGL := hide (gb_trans HG0.out hgl (.inl rfl)); clear hgl))
    exact bodyPost_ret (v := .bool true) (by simp [results, Tryz.results4, go_sem]) rfl ⟨rfl, HGL.out⟩
  · have d1 : decide (0 < b) = false := decide_eq_false (by omega)
    have d2 : ¬ (0 : Int) < b := by omega
    clear HR
    go_wp2_with (first | (go_at_call 13; refine (num7_any _ _).mono ?_; rintro e wn ⟨rfl, rfl⟩) | (go_at_call 7; refine (live7_any _).mono ?_; rintro e wl ⟨rfl, hgl⟩; have HGL := hide (gb_trans HG0.out hgl (.inl rfl)); clear hgl))
    exact bodyPost_ret (v := .bool true) (by simp [results, Tryz.results4, go_sem]) rfl ⟨rfl, HGL.out⟩
theorem rounds_any (a b : Int) (ha : I64 a) (hb : I64 b) (w : World) : Calls Tryz.prog 4 #[.int .i64 a, .int .i64 b] w fun e w' => e = .returned (.bool true) ∧ w.grownBy w' none := by
  by_cases h0 : a = (-9223372036854775808)
  · exact rounds_null_a a b ha hb h0 w
  by_cases h1 : b = (-9223372036854775808)
  · exact rounds_null_b a b ha hb h0 h1 w
  by_cases h2 : b = 0
  · exact rounds_null_z a b ha hb h0 h1 h2 w
  · exact rounds_num a b ha hb h0 h1 h2 w
end Go.Proofs.YtnilcnobngcbgaaGreat
