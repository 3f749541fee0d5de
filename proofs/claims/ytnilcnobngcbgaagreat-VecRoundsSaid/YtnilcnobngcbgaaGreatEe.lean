/-
  vec.Join of atoms and vectors of one type: the law of the whole.
-/
import Derived.Test.YtnilcnobngcbgaaGreatEd
namespace Go.Proofs.YtnilcnobngcbgaaGreat
open Go.RowKit
attribute [local go_sem ↓] Go.wp_at_zero Go.wp_at_succ

/-- One at least, and all of one kind. -/
def oneK (l : List Vl) : Bool := match l with
  | [] => false
  | h :: r => kdV h != 0 && !((h :: r).any fun x => kdV x != kdV h)
theorem oneK_def {l : List Vl} (h : 0 < l.length) : oneK l = (kdV l[0] != 0 && !(l.any fun x => kdV x != kdV l[0])) := by
  cases l with
  | nil => simp at h
  | cons a r => rfl
set_option maxHeartbeats 4000000 in
set_option maxRecDepth 100000 in
theorem ofOneKind_any (l : List Vl) (w : World) (B : Nat) (A : Option Addr) (c : Nat) (ht : l.length ≤ 1100000) (hB : B ≤ w.heap.size) (h : RdV w B A l) :
    Calls Tryz.prog 52 #[.slice A l.length c] w fun e w' => e = .returned (.bool (oneK l)) ∧ w.grownBy w' none := by
  obtain ⟨wa, hwa⟩ : ∃ wa, wa = w.alloc (.cells #[.slice A l.length c] 24) := ⟨_, rfl⟩
  have hb : wa.heap[w.heap.size]? = some (.cells #[.slice A l.length c] 24 (0, 0)) := by rw [hwa]; exact heap_alloc_new w _
  have hg : w.grownBy wa none := by rw [hwa]; exact gb_alloc (gb_refl w none) _
  have HB := hide hb
  have HG := hide hg
  have HWE := hide hwa
  have b0 : wa.cell? ⟨w.heap.size, 0, none⟩ = some (.slice A l.length c) := by rw [blk_cell hb]; rfl
  rcases Nat.eq_zero_or_pos l.length with hl | hl
  · have HO := hide (show oneK l = false by rw [List.eq_nil_of_length_eq_zero hl]; rfl)
    have hl0 : ((l.length : Int) == 0) = true := by simp [hl]
    have b0a := b0
    rw [hwa] at b0a
    clear hb hg hwa h hB ht hl
    generalize l.length = m at *
    go_enter Tryz.func52, Tryz.ntmps52
    go_wp2_with fail
    rw [← HWE.out]
    exact bodyPost_ret (v := .bool false) (by simp [results, Tryz.results52, go_sem]) rfl ⟨by rw [HO.out], HG.out⟩
  obtain ⟨b, o, xA, xc, yA, yc, zA, zc, rfl, hbB, hc4, _⟩ := h.first hl
  have hl0 : ((l.length : Int) == 0) = false := int_beq_f (by omega)
  have hl1 : (0 : Int) < (l.length : Int) := by omega
  obtain ⟨d0, d1, d2, d3⟩ := hc4.gb hg
  have HD := hide hc4
  have b0a := b0
  rw [hwa] at b0a
  have e0 := d0; have e1 := d1; have e2 := d2; have e3 := d3
  rw [hwa] at e0 e1 e2 e3
  have HKD := hide (fun w2 => (kind_any l[0].t xA l[0].n.length xc yA l[0].s.length yc (.slice zA l[0].l.length zc) w2).mono (fun e w' h => (⟨h.1, h.2⟩ : e = .returned (.int .i64 (kdV l[0])) ∧ w2.grownBy w' none)))
  have HUN := hide (fun w2 (hg2 : wa.grownBy w2 none) => unlike_has l w2 B (some ⟨b, o, none⟩) c ht (Nat.le_trans (Nat.le_trans hB hg.size) hg2.size) (h.gb (gb_trans hg hg2 (.inl rfl)) hB) (kdV l[0]) w.heap.size (fun w3 hg3 x xA' xc' yA' yc' zA' zc' => unlike_any x l[0] w3 xA' xc' yA' yc' zA' zc' xA xc yA yc zA zc w.heap.size b o l.length c hl (cell_gb b0 (gb_trans hg2 hg3 (.inl rfl))) (hc4.gb (gb_trans hg (gb_trans hg2 hg3 (.inl rfl)) (.inl rfl)))))
  have HOD := hide (oneK_def hl)
  clear hb hg hwa h hB ht hc4
  by_cases hk : kdV l[0] = 0
  · have HO := hide (show oneK l = false by rw [HOD.out, hk]; rfl)
    have hk0 : (kdV l[0] == 0) = true := by simp [hk]
    clear hk
    generalize kdV l[0] = K at *
    go_enter Tryz.func52, Tryz.ntmps52
    go_wp2_with (go_at_call 44; rw [← HWE.out]; refine (HKD.out _).mono ?_; rintro e w1 ⟨rfl, hg1⟩; have HG1 := hide hg1; clear hg1)
    exact bodyPost_ret (v := .bool false) (by simp [results, Tryz.results52, go_sem]) rfl ⟨by rw [HO.out], gb_trans HG.out HG1.out (.inl rfl)⟩
  · have HO := hide (show oneK l = !(l.any fun x => kdV x != kdV l[0]) by rw [HOD.out, show (kdV l[0] != 0) = true by simp [hk]]; rfl)
    have hk0 : (kdV l[0] == 0) = false := int_beq_f hk
    clear hk
    generalize (l.any fun x => kdV x != kdV l[0]) = bb at *
    generalize kdV l[0] = K at *
    go_enter Tryz.func52, Tryz.ntmps52
    go_wp2_with (first
      | (go_at_call 44; rw [← HWE.out]; refine (HKD.out _).mono ?_; rintro e w1 ⟨rfl, hg1⟩; have HG1 := hide hg1; have b0 := cell_gb b0 hg1; clear hg1)
      | (go_at_call 50; refine (HUN.out _ HG1.out).mono ?_; rintro e w2 ⟨rfl, hg2⟩; have HG2 := hide hg2; clear hg2))
    exact bodyPost_ret (v := .bool !bb) (by simp [results, Tryz.results52, go_sem]) rfl ⟨by rw [HO.out], gb_trans HG.out (gb_trans HG1.out HG2.out (.inl rfl)) (.inl rfl)⟩
/-- A value that a function gives with an error of 0: a value in new blocks. -/
def TupV (v : Vl) (w : World) (e : Ending) (w' : World) : Prop := ∃ nA nc sA sc lA lc f, e = .returned (.tuple #[.agg #[.int .i64 v.t, .slice nA v.n.length nc, .slice sA v.s.length sc, .slice lA v.l.length lc], .int .i64 0]) ∧
  VOw w' v [.int .i64 v.t, .slice nA v.n.length nc, .slice sA v.s.length sc, .slice lA v.l.length lc] f ∧ New w w' f ∧ w.grownBy w' none
/-- How many elements a join takes of all. -/
def widS (l : List Vl) : Nat := (l.map widV).foldr (· + ·) 0
theorem widS_take (l : List Vl) (j : Nat) (h : j < l.length) : widS (l.take (j + 1)) = widS (l.take j) + widV l[j] := by
  rw [List.take_succ_eq_append_getElem h]
  unfold widS
  induction l.take j with
  | nil => simp
  | cons a r ih => simp only [List.cons_append, List.map_cons, List.foldr_cons, ih]; omega
theorem widS_le (l : List Vl) (j : Nat) : widS (l.take j) ≤ widS l := by
  conv => rhs; rw [← List.take_append_drop j l]
  unfold widS
  induction l.take j with
  | nil => simp
  | cons a r ih => simp only [List.cons_append, List.map_cons, List.foldr_cons]; omega
set_option maxHeartbeats 4000000 in
set_option maxRecDepth 100000 in
theorem join_kind (l : List Vl) (K : Int) (n : List Int) (s : List ByteArray) (HNE : Hid (l.flatMap Vl.n = n)) (HSE : Hid (l.flatMap Vl.s = s)) (w : World) (B : Nat) (A : Option Addr) (c : Nat) (hl0 : 0 < l.length) (hk : kdV l[0] = K) (hone : oneK l = true) (hnil : l.any vNl = false) (hw : widS l ≤ 65536) (ht : Vl.tots l ≤ 1100000) (hB : B ≤ w.heap.size) (h : RdV w B A l) :
    Calls Tryz.prog 25 #[.slice A l.length c] w (TupV (.mk K n s []) w) := by
  have l1 : l.length ≤ 1100000 := Nat.le_trans (Vl.length_le_tots l) ht
  obtain ⟨wa, hwa⟩ : ∃ wa, wa = w.alloc (.cells #[.int .i64 0, .slice none 0 0, .slice none 0 0, .slice none 0 0] 26) := ⟨_, rfl⟩
  have hb : wa.heap[w.heap.size]? = some (.cells #[.int .i64 0, .slice none 0 0, .slice none 0 0, .slice none 0 0] 26 (0, 0)) := by rw [hwa]; exact heap_alloc_new w _
  have hg : w.grownBy wa none := by rw [hwa]; exact gb_alloc (gb_refl w none) _
  have HB := hide hb
  have HG := hide hg
  have HWE := hide hwa
  have HSZ := hide (show wa.heap.size = w.heap.size + 1 by rw [hwa]; simp)
  have HBB := hide hB
  have HT := hide ht
  have H := hide h
  have HL := hide l1
  have HWS := hide hw
  have HNL := hide (fun w2 (hg : w.grownBy w2 none) => (vNil_has l w2 B A c l1 (Nat.le_trans hB hg.size) (h.gb hg hB)).mono (fun e w' h => (⟨h.1.trans (by rw [hnil]), h.2⟩ : e = .returned (.bool false) ∧ w2.grownBy w' none)))
  have HOK := hide (fun w2 (hg : w.grownBy w2 none) => (ofOneKind_any l w2 B A c l1 (Nat.le_trans hB hg.size) (h.gb hg hB)).mono (fun e w' h => (⟨h.1.trans (by rw [hone]), h.2⟩ : e = .returned (.bool true) ∧ w2.grownBy w' none)))
  have HJ := hide (fun w2 (hg : w.grownBy w2 none) => joined_any l K n s HNE HSE w2 B A c hl0 hk ht (Nat.le_trans hB hg.size) (h.gb hg hB))
  have h13 : decide ((65536 : Int) < (widS l : Int)) = false := decide_eq_false (by omega)
  clear hb hg hwa hB ht h l1 hw hk hone hnil hl0 HNE HSE
  go_enter Tryz.func25, Tryz.ntmps25
  go_wp2_with fail
  rw [← HWE.out]
  go_loopw [4, 13] (fun u i wr => ∃ j : Nat, i = .int .i64 (j : Int) ∧ u = .int .i64 (widS (l.take j) : Nat) ∧ j ≤ l.length ∧ wa.grownBy wr none) (fun _ i _ => l.length - (intOf i).toNat)
  case atStart => exact ⟨0, rfl, rfl, Nat.zero_le _, gb_refl wa none⟩
  case round =>
    obtain ⟨j, rfl, rfl, hj, hgr⟩ := hrel
    by_cases hlt : j < l.length
    · have hlt1 : (j : Int) < (l.length : Int) := by omega
      obtain ⟨q, p, xA, xc, yA, yc, zA, zc, hA, hqB, hc4, hvb⟩ := H.out.at_ hlt
      subst hA
      have hgw : w.grownBy wr none := gb_trans HG.out hgr (.inl rfl)
      obtain ⟨f0, f1, f2, f3⟩ := hc4.gb hgw
      have hvr := hvb.gb hgw HBB.out
      have hW := widS_take l j hlt
      have hle := widS_le l (j + 1)
      have h6 : IntKind.i64.wrap ((j : Int) + 1) = ((j + 1 : Nat) : Int) := by rw [IntKind.wrap_i64]; have := HL.out; omega
      have h7 : IntKind.i64.wrap ((widS (l.take j) : Int) + (widV l[j] : Int)) = (widS (l.take (j + 1)) : Int) := by rw [IntKind.wrap_i64, hW]; have := HWS.out; omega
      have HWD := hide (fun w2 (hg : wr.grownBy w2 none) => width_any l[j] w2 B xA xc yA yc zA zc (Nat.le_trans (Vl.tot_mem (List.getElem_mem hlt)) HT.out) (by have := HBB.out; have := hgw.size; have := hg.size; omega) (hvr.gb hg (by have := HBB.out; have := hgw.size; omega)))
      have HGR := hide hgr
      have HLT := hide hlt
      have C4n := hide (C4.box wr (.int .i64 l[j].t) (.slice xA l[j].n.length xc) (.slice yA l[j].s.length yc) (.slice zA l[j].l.length zc) 26)
      clear hc4 hvb hgw hvr hW hle hgr hj
      generalize widS (l.take j) = s0 at *
      obtain ⟨s1, hs1⟩ : ∃ s1, s1 = widS (l.take (j + 1)) := ⟨_, rfl⟩
      rw [← hs1] at h7
      have HS1 := hide hs1
      clear hs1
      generalize widV l[j] = s2 at *
      go_wp2_with (go_at_call 49; refine (HWD.out _ (gb_alloc (gb_refl wr none) _)).mono ?_; rintro e w1 ⟨rfl, hg1⟩; have HG1 := hide (gb_trans (gb_alloc (gb_refl wr none) _) hg1 (.inl rfl)); clear hg1)
      go_roundw
      case rel => exact ⟨j + 1, by go_num, by rw [← HS1.out], by have := HLT.out; omega, gb_trans HGR.out HG1.out (.inl rfl)⟩
      case measure => have := HLT.out; simp [intOf]; omega
    · have hlt1 : ¬ (j : Int) < (l.length : Int) := by omega
      obtain rfl : j = l.length := by omega
      rw [List.take_length]
      have HGR := hide hgr
      have HG2 := hide (gb_trans HG.out hgr (.inl rfl))
      clear hgr hlt hj
      go_wp2_with (first
        | (go_at_call 50; refine (HNL.out _ HG2.out).mono ?_; rintro e w1 ⟨rfl, hg1⟩; have HG3 := hide (gb_trans HG2.out hg1 (.inl rfl)); have HGS := hide (gb_trans HGR.out hg1 (.inl rfl)); clear hg1)
        | (go_at_call 52; refine (HOK.out _ HG3.out).mono ?_; rintro e w2 ⟨rfl, hg2⟩; have HG4 := hide (gb_trans HG3.out hg2 (.inl rfl)); have HGT := hide (gb_trans HGS.out hg2 (.inl rfl)); clear hg2)
        | (go_at_call 53; refine (HJ.out _ HG4.out).mono ?_; rintro e w3 ⟨nA, nc, sA, sc, lA, lc, f, he, ho, hn, hg3⟩; obtain rfl : e = .returned (.agg #[.int .i64 K, .slice nA n.length nc, .slice sA s.length sc, .slice lA 0 lc]) := he; have HO := hide ho; have HN := hide hn; have HG5 := hide (gb_trans HG4.out hg3 (.inl rfl)); have hr2 := blk_keep HB.out (gb_trans HGT.out hg3 (.inl rfl)) (by simp); have HR2 := hide hr2; have z0 := blk_frozen hr2 0; have z1 := blk_frozen hr2 1; have z2 := blk_frozen hr2 2; have z3 := blk_frozen hr2 3; have y0 : w3.cell? ⟨w.heap.size, 0, none⟩ = some (.int .i64 0) := (by { rw [blk_cell hr2]; rfl }); have y1 : w3.cell? ⟨w.heap.size, 1, none⟩ = some (.slice none 0 0) := (by { rw [blk_cell hr2]; rfl }); have y2 : w3.cell? ⟨w.heap.size, 2, none⟩ = some (.slice none 0 0) := (by { rw [blk_cell hr2]; rfl }); have y3 : w3.cell? ⟨w.heap.size, 3, none⟩ = some (.slice none 0 0) := (by { rw [blk_cell hr2]; rfl }); clear ho hn hg3 hr2))
      have hb := put_four HR2.out (.int .i64 K) (.slice nA n.length nc) (.slice sA s.length sc) (.slice lA 0 lc)
      have m0 : ((((w3.setCell ⟨w.heap.size, 0, none⟩ (.int .i64 K)).setCell ⟨w.heap.size, 1, none⟩ (.slice nA n.length nc)).setCell ⟨w.heap.size, 2, none⟩ (.slice sA s.length sc)).setCell ⟨w.heap.size, 3, none⟩ (.slice lA 0 lc)).cell? ⟨w.heap.size, 0, none⟩ = some (.int .i64 K) := (blk_cell hb 0).trans rfl
      have m1 : ((((w3.setCell ⟨w.heap.size, 0, none⟩ (.int .i64 K)).setCell ⟨w.heap.size, 1, none⟩ (.slice nA n.length nc)).setCell ⟨w.heap.size, 2, none⟩ (.slice sA s.length sc)).setCell ⟨w.heap.size, 3, none⟩ (.slice lA 0 lc)).cell? ⟨w.heap.size, 1, none⟩ = some (.slice nA n.length nc) := (blk_cell hb 1).trans rfl
      have m2 : ((((w3.setCell ⟨w.heap.size, 0, none⟩ (.int .i64 K)).setCell ⟨w.heap.size, 1, none⟩ (.slice nA n.length nc)).setCell ⟨w.heap.size, 2, none⟩ (.slice sA s.length sc)).setCell ⟨w.heap.size, 3, none⟩ (.slice lA 0 lc)).cell? ⟨w.heap.size, 2, none⟩ = some (.slice sA s.length sc) := (blk_cell hb 2).trans rfl
      have m3 : ((((w3.setCell ⟨w.heap.size, 0, none⟩ (.int .i64 K)).setCell ⟨w.heap.size, 1, none⟩ (.slice nA n.length nc)).setCell ⟨w.heap.size, 2, none⟩ (.slice sA s.length sc)).setCell ⟨w.heap.size, 3, none⟩ (.slice lA 0 lc)).cell? ⟨w.heap.size, 3, none⟩ = some (.slice lA 0 lc) := (blk_cell hb 3).trans rfl
      refine bodyPost_ret (v := .tuple #[.agg #[.int .i64 K, .slice nA n.length nc, .slice sA s.length sc, .slice lA 0 lc], .int .i64 0]) (by simp [results, Tryz.results25, go_sem, m0, m1, m2, m3]) rfl ?_
      have hsz := HGT.out.size
      have hsz2 := HSZ.out
      have hsz3 := HG4.out.size
      refine ⟨nA, nc, sA, sc, lA, lc, f, rfl, ?_, ⟨HN.out.1, fun b hb => ?_⟩, put_four_gb HG5.out (Nat.le_refl _) _ _ _ _⟩
      · exact VOw.keep _ _ _ HO.out fun b hm => put_four_other (by have := (HN.out.2 b hm).1; omega) _ _ _ _
      · have h2 := HN.out.2 b hb
        refine ⟨by omega, ?_⟩
        simp [World.setCell]
        exact h2.2
end Go.Proofs.YtnilcnobngcbgaaGreat
