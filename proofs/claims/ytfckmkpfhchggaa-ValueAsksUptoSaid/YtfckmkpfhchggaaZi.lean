/-
  The law ValueAsks: its walk.
-/
import Derived.Test.YtfckmkpfhchggaaZh
import Derived.Test.YtfckmkpfhchggaaXq
import Derived.Test.YtfckmkpfhchggaaXa
import Derived.Deep.CutBlock
import Derived.Deep.DeepCutAuto
import Derived.LoopN
namespace Go.Proofs.Ytfckmkpfhchggaa
open Go.RowKit
attribute [local go_sem ↓] Go.wp_at_zero Go.wp_at_succ
attribute [local go_sem] wide_fn wide_depth Oper.semAt_some

theorem loop_three {P : Program} {c : Code} {Q : Exit → Act → World → Prop} {a : Act} {w : World}
    (h : ∀ K1 : Act → World → Prop, (∀ a w, (∀ K2 : Act → World → Prop, (∀ a w, c.wp P (Exit.then (fun _ _ => False) Q) a w → K2 a w) → c.wp P (Exit.then K2 Q) a w) → K1 a w) → c.wp P (Exit.then K1 Q) a w) : (Code.loop c).wp P Q a w :=
  wp_loop_rounds 3 (h _ fun _ _ h2 => h2 _ fun _ _ h3 => h3)
theorem wp_rangeFunc_brk {P : Program} {α : Type} {g : Operand} {ps : Array Tmp} {assign body : Code} {Q : Exit → Act → World → Prop} {a : Act} {w : World}
    {gf : Nat} {lb : Array Value} (hg : a.eval g = .func (.func gf) #[] lb) (eg : ∀ args w, (callFunc gf args).run P w = .ok (.enter gf args) w)
    {encs : α → Array Value} {Ok : Nat → α → World → World → Prop} {Kp : World → World → Prop} {N : Nat} {w0 : World} (hseq : SeqC P gf lb encs Ok Kp N w0) (hb0 : w0.grownBy w none) (hps : ∀ x, (encs x).size = ps.size)
    (id : Nat) (I : Nat → World → Prop) (J : World → Prop)
    (hI : ∀ i A B, I i A → LoopAt A (w.heap.size + 1) → A.grownBy B (some (w.heap.size + 1)) → I i B)
    (hJ : ∀ A B, J A → A.grownBy B (some (w.heap.size + 1)) → J B)
    (hKp : ∀ A B C, Kp A B → LoopAt B (w.heap.size + 1) → B.grownBy C (some (w.heap.size + 1)) → Kp A C)
    (h0 : ∀ B, w.grownBy B none → w.heap.size + 2 ≤ B.heap.size → I 0 B)
    (hround : ∀ i x W0 W, I i W0 → W0.grownBy W none → i < N → Ok i x W0 W → w.heap.size + 2 ≤ W0.heap.size → LoopAt W (w.heap.size + 1) →
      assign.wpIn (Fence.wide.inRound (w.heap.size + 1)) 0 P (Exit.then (fun a₁ w₁ => Keep2 w.heap.size W w₁ ∧ ∀ w₂, w₁.grownBy w₂ (some (w.heap.size + 1)) → LoopAt w₁ (w.heap.size + 1) → body.wpIn (Fence.wide.inRound (w.heap.size + 1)) 0 P (postC w.heap.size Kp I (fun c W => c = .exit id ∧ J W) i W w₂) a₁ w₂) (fun _ _ _ => False))
        { tmps := (ps.zip (encs x)).foldl (fun t (p, v) => t.setIfInBounds p v) a.tmps, defers := [] } W)
    (hfin : ∀ W, (I N W ∨ J W) → w.heap.size + 2 ≤ W.heap.size → W.heap[w.heap.size]? = some (.deferred (some [])) → Q .normal { a with defers := { target := .collected w.heap.size, args := #[] } :: a.defers } W) :
    (Code.rangeFunc g ps assign body).wp P (Exit.inBlock id Q) a w :=
  wp_rangeFunc_c hg eg hseq hb0 hps I (fun c W => c = .exit id ∧ J W) hI (fun c A B h _ k => ⟨h.1, hJ _ _ h.2 k⟩) hKp h0 hround (fun W hi hs hd => hfin W (.inl hi) hs hd)
    (fun c W hc hs hd => by
      obtain ⟨rfl, hj⟩ := hc
      refine wp_exit ?_
      simp only [Exit.inBlock, if_true]
      exact hfin W (.inr hj) hs hd)
/-- So many rounds are over: k holds how many. -/
def AsI (w9 : World) (kb i : Nat) (W : World) : Prop := w9.grownBy W (some kb) ∧ W.heap[kb]? = some (.cells #[.int .i64 (i : Int)] 3 (0, 0))

theorem ends_marked2 {tmps : Array Value} {w wE : World} {D E : Nat} (hg : w.grownBy wE none) (hr : wE.heap[w.heap.size + 1]? = some (.cells #[.bool false] 4 (0, 0))) (hd : wE.heap[D]? = some (.deferred (some []))) (he : wE.heap[E]? = some (.deferred (some [])))
    (hD : w.heap.size ≤ D) (hE : w.heap.size ≤ E) (hDE : D ≠ E) (ht : tmps.getD 4 undef = .pointer (some ⟨w.heap.size + 1, 0, none⟩)) :
    LeavesInM Fence.wide 0 Try.prog Try.f3 tmps (fun e w' => e = .returned (.bool true) ∧ w.grownBy w' none) [{ target := .collected D, args := #[] }, { target := .collected E, args := #[] }] .returning (wE.setCell ⟨w.heap.size + 1, 0, none⟩ (.bool true)) := by
  have hne : w.heap.size + 1 ≠ D := fun e => by rw [← e, hr] at hd; cases hd
  have hnf : w.heap.size + 1 ≠ E := fun e => by rw [← e, hr] at he; cases he
  have hK : (wE.setCell ⟨w.heap.size + 1, 0, none⟩ (.bool true)).heap[D]? = some (.deferred (some [])) := (setCell_other _ _ _ _ (fun e => hne e.symm)).trans hd
  have hL : ((wE.setCell ⟨w.heap.size + 1, 0, none⟩ (.bool true)).putObj D (.deferred none)).heap[E]? = some (.deferred (some [])) := (World.putObj_heap_other (fun e => hDE e.symm)).trans ((setCell_other _ _ _ _ (fun e => hnf e.symm)).trans he)
  have hb : (((wE.setCell ⟨w.heap.size + 1, 0, none⟩ (.bool true)).putObj D (.deferred none)).putObj E (.deferred none)).heap[w.heap.size + 1]? = some (.cells #[.bool true] 4 (0, 0)) := by
    rw [World.putObj_heap_other hnf, World.putObj_heap_other hne, blk_set hr 0 (.bool true), List.setIfInBounds_toArray]
    rfl
  have hc : (((wE.setCell ⟨w.heap.size + 1, 0, none⟩ (.bool true)).putObj D (.deferred none)).putObj E (.deferred none)).cell? ⟨w.heap.size + 1, 0, none⟩ = some (.bool true) := by rw [blk_cell hb]; rfl
  refine ⟨by simp, .inl ⟨_, _, rfl, run_takeDeferred hK, by simp, .inl ⟨_, _, rfl, run_takeDeferred hL, .bool true, ?_, rfl, ?_⟩⟩⟩
  · have ht2 : tmps[4]?.getD undef = .pointer (some ⟨w.heap.size + 1, 0, none⟩) := by rw [← Array.getD_eq_getD_getElem?]; exact ht
    simp [results, Try.results3, go_sem, hc, ht2]
  · exact gb_trans (gb_trans (gb_setCell hg (.inr (Nat.le_succ _)) _) (gb_loopPut _ D _) (.inr (.inr ⟨_, rfl, hD⟩))) (gb_loopPut _ E _) (.inr (.inr ⟨_, rfl, hE⟩))

set_option maxHeartbeats 16000000 in
set_option maxRecDepth 100000 in
theorem asks_huge (v : Vl) (i : Int) (w : World) (nA : Option Addr) (nc : Nat) (sA : Option Addr) (sc : Nat) (lA : Option Addr) (lc : Nat) (ht : v.tot ≤ 1100000) (hhu : hugeV [v] = true) (h : VB w w.heap.size v nA nc sA sc lA lc) :
    Calls Try.prog 3 #[.agg #[.int .i64 v.t, .slice nA v.n.length nc, .slice sA v.s.length sc, .slice lA v.l.length lc], .int .i64 i] w fun e w' => e = .returned (.bool true) ∧ w.grownBy w' none := by
  obtain ⟨wa, hwa⟩ : ∃ wa, wa = (w.alloc (.cells #[.int .i64 v.t, .slice nA v.n.length nc, .slice sA v.s.length sc, .slice lA v.l.length lc] 26)).alloc (.cells #[.bool false] 4) := ⟨_, rfl⟩
  have hbg := Beg.mk_ h
  rw [← hwa] at hbg
  obtain ⟨hc, hr, hg, hs, hv⟩ := hbg
  have HC := hide hc
  obtain ⟨b0, b1, b2, b3⟩ := hc
  have hvb := hv.up hg.size
  have HU : Hid (Calls Try.prog 7 #[.slice (some ⟨w.heap.size + 2, 0, none⟩) 1 1] (wa.alloc (.cells #[.int .i64 v.t, .slice nA v.n.length nc, .slice sA v.s.length sc, .slice lA v.l.length lc] 26)) fun e w' => e = .returned (.bool true) ∧ (wa.alloc (.cells #[.int .i64 v.t, .slice nA v.n.length nc, .slice sA v.s.length sc, .slice lA v.l.length lc] 26)).grownBy w' none) := hide (by
    have hx := hugeV_any [v] (some ⟨wa.heap.size, 0, none⟩) 1 (wa.heap.size + 1) (wa.alloc (.cells #[.int .i64 v.t, .slice nA v.n.length nc, .slice sA v.s.length sc, .slice lA v.l.length lc] 26)) (by simp only [Vl.tots]; omega) (by simp) (RdV.lit1 hvb.at_)
    rw [hs, hhu] at hx
    exact hx)
  have HG := hide hg
  have HWE := hide hwa
  have HR := hide hr
  have HS := hide hs
  clear h hg hwa hr hv hvb hhu ht hs
  go_enter Try.func3, Try.ntmps3
  go_wp2_with fail
  rw [← HWE.out]
  go_wp2_with (first
    | (go_at_call 7; refine HU.out.mono ?_; rintro e w1 ⟨rfl, hg1⟩; have HG1 := hide (gb_trans (gb_alloc (gb_refl wa none) _) hg1 (.inl rfl)); have b0 := cell_gb b0 HG1.out; have b1 := cell_gb b1 HG1.out; have b2 := cell_gb b2 HG1.out; have b3 := cell_gb b3 HG1.out; clear hg1)
    | (go_at_call 9; refine (live_any _).mono ?_; rintro e w2 ⟨rfl, hg2⟩; have HG2 := hide (gb_trans HG1.out hg2 (.inl rfl)); have hb2 := (HG2.out.block _ (by rw [HS.out]; omega) (by simp)).trans HR.out; have hc2 := blk_cell hb2 0; have hz2 := blk_frozen hb2 0; have HB2 := hide hb2; clear hg2 hb2))
  have hc3 := blk_cell (blk_set HB2.out 0 (.bool true)) 0
  rw [List.setIfInBounds_toArray] at hc3
  refine bodyPost_ret (v := .bool true) (by simp [results, Try.results3, go_sem, hc3]) rfl ⟨rfl, gb_setCell (gb_trans HG.out HG2.out (.inl rfl)) (.inr (Nat.le_succ _)) _⟩

set_option maxHeartbeats 16000000 in
set_option maxRecDepth 100000 in
theorem asks_bad (v : Vl) (i : Int) (w : World) (nA : Option Addr) (nc : Nat) (sA : Option Addr) (sc : Nat) (lA : Option Addr) (lc : Nat) (ht : v.tot ≤ 1100000) (hhu : hugeV [v] = false) (hk : ¬ checkV v = 0) (h : VB w w.heap.size v nA nc sA sc lA lc) :
    Calls Try.prog 3 #[.agg #[.int .i64 v.t, .slice nA v.n.length nc, .slice sA v.s.length sc, .slice lA v.l.length lc], .int .i64 i] w fun e w' => e = .returned (.bool true) ∧ w.grownBy w' none := by
  obtain ⟨wa, hwa⟩ : ∃ wa, wa = (w.alloc (.cells #[.int .i64 v.t, .slice nA v.n.length nc, .slice sA v.s.length sc, .slice lA v.l.length lc] 26)).alloc (.cells #[.bool false] 4) := ⟨_, rfl⟩
  have hbg := Beg.mk_ h
  rw [← hwa] at hbg
  obtain ⟨hc, hr, hg, hs, hv⟩ := hbg
  have HC := hide hc
  obtain ⟨b0, b1, b2, b3⟩ := hc
  have hvb := hv.up hg.size
  have HU : Hid (Calls Try.prog 7 #[.slice (some ⟨w.heap.size + 2, 0, none⟩) 1 1] (wa.alloc (.cells #[.int .i64 v.t, .slice nA v.n.length nc, .slice sA v.s.length sc, .slice lA v.l.length lc] 26)) fun e w' => e = .returned (.bool false) ∧ (wa.alloc (.cells #[.int .i64 v.t, .slice nA v.n.length nc, .slice sA v.s.length sc, .slice lA v.l.length lc] 26)).grownBy w' none) := hide (by
    have hx := hugeV_any [v] (some ⟨wa.heap.size, 0, none⟩) 1 (wa.heap.size + 1) (wa.alloc (.cells #[.int .i64 v.t, .slice nA v.n.length nc, .slice sA v.s.length sc, .slice lA v.l.length lc] 26)) (by simp only [Vl.tots]; omega) (by simp) (RdV.lit1 hvb.at_)
    rw [hs, hhu] at hx
    exact hx)
  have HG := hide hg
  have HWE := hide hwa
  have HR := hide hr
  have HS := hide hs
  have HCH := hide (fun w2 (k : wa.grownBy w2 none) => rCheck_any v w2 w2.heap.size nA nc sA sc lA lc ht (Nat.le_refl _) ((hvb.gb k (Nat.le_refl _)).up k.size))
  have hz1 : (checkV v != 0) = true := int_bne_f hk
  clear hk
  generalize checkV v = z at *
  clear h hg hwa hr hv hvb hhu ht hs
  go_enter Try.func3, Try.ntmps3
  go_wp2_with fail
  rw [← HWE.out]
  go_wp2_with (first
    | (go_at_call 7; refine HU.out.mono ?_; rintro e w1 ⟨rfl, hg1⟩; have HG1 := hide (gb_trans (gb_alloc (gb_refl wa none) _) hg1 (.inl rfl)); have b0 := cell_gb b0 HG1.out; have b1 := cell_gb b1 HG1.out; have b2 := cell_gb b2 HG1.out; have b3 := cell_gb b3 HG1.out; clear hg1)
    | (go_at_call 8; refine (HCH.out w1 HG1.out).mono ?_; rintro e w2 ⟨rfl, hg2⟩; have HG2 := hide (gb_trans HG1.out hg2 (.inl rfl)); clear hg2)
    | (go_at_call 9; refine (live_any _).mono ?_; rintro e w3 ⟨rfl, hg3⟩; have HG3 := hide (gb_trans HG2.out hg3 (.inl rfl)); have hb3 := (HG3.out.block _ (by rw [HS.out]; omega) (by simp)).trans HR.out; have hc3 := blk_cell hb3 0; have hz3 := blk_frozen hb3 0; have HB3 := hide hb3; clear hg3 hb3))
  have hc3 := blk_cell (blk_set HB3.out 0 (.bool true)) 0
  rw [List.setIfInBounds_toArray] at hc3
  refine bodyPost_ret (v := .bool true) (by simp [results, Try.results3, go_sem, hc3]) rfl ⟨rfl, gb_setCell (gb_trans HG.out HG3.out (.inl rfl)) (.inr (Nat.le_succ _)) _⟩

set_option maxHeartbeats 16000000 in
set_option maxRecDepth 100000 in
theorem asks_good (v : Vl) (i : Int) (w : World) (nA : Option Addr) (nc : Nat) (sA : Option Addr) (sc : Nat) (lA : Option Addr) (lc : Nat) (ht : v.tot ≤ 70000) (hhu : hugeV [v] = false) (hk : checkV v = 0) (h : VB w w.heap.size v nA nc sA sc lA lc) :
    Calls Try.prog 3 #[.agg #[.int .i64 v.t, .slice nA v.n.length nc, .slice sA v.s.length sc, .slice lA v.l.length lc], .int .i64 i] w fun e w' => e = .returned (.bool true) ∧ w.grownBy w' none := by
  obtain ⟨wa, hwa⟩ : ∃ wa, wa = (w.alloc (.cells #[.int .i64 v.t, .slice nA v.n.length nc, .slice sA v.s.length sc, .slice lA v.l.length lc] 26)).alloc (.cells #[.bool false] 4) := ⟨_, rfl⟩
  have hbg := Beg.mk_ h
  rw [← hwa] at hbg
  obtain ⟨hc, hr, hg, hs, hv⟩ := hbg
  have HC := hide hc
  obtain ⟨b0, b1, b2, b3⟩ := hc
  have hvb := hv.up hg.size
  have HU : Hid (Calls Try.prog 7 #[.slice (some ⟨w.heap.size + 2, 0, none⟩) 1 1] (wa.alloc (.cells #[.int .i64 v.t, .slice nA v.n.length nc, .slice sA v.s.length sc, .slice lA v.l.length lc] 26)) fun e w' => e = .returned (.bool false) ∧ (wa.alloc (.cells #[.int .i64 v.t, .slice nA v.n.length nc, .slice sA v.s.length sc, .slice lA v.l.length lc] 26)).grownBy w' none) := hide (by
    have hx := hugeV_any [v] (some ⟨wa.heap.size, 0, none⟩) 1 (wa.heap.size + 1) (wa.alloc (.cells #[.int .i64 v.t, .slice nA v.n.length nc, .slice sA v.s.length sc, .slice lA v.l.length lc] 26)) (by simp only [Vl.tots]; omega) (by simp) (RdV.lit1 hvb.at_)
    rw [hs, hhu] at hx
    exact hx)
  have HG := hide hg
  have HWE := hide hwa
  have HR := hide hr
  have HS := hide hs
  have hok := (check_ok hk).1
  have HK := hide hk
  have HOK := hide hok
  have HT := hide ht
  have HV := hide hvb
  have hvk := fun w2 (k : wa.grownBy w2 none) => (hvb.gb k (Nat.le_refl _)).up k.size
  have HCH := hide (fun w2 (k : wa.grownBy w2 none) => rCheck_any v w2 w2.heap.size nA nc sA sc lA lc (by omega) (Nat.le_refl _) (hvk w2 k))
  rw [hk] at HCH
  have HAV := hide (fun w2 (k : wa.grownBy w2 none) => vAtU v i w2 w2.heap.size nA nc sA sc lA lc ht (Nat.le_refl _) (hvk w2 k))
  have HAR := hide (fun w2 (k : wa.grownBy w2 none) => rAtU v hok i w2 w2.heap.size nA nc sA sc lA lc ht (Nat.le_refl _) (hvk w2 k))
  have HVC := hide (fun w2 (k : wa.grownBy w2 none) => count_any v w2 w2.heap.size nA nc sA sc lA lc (by omega) (Nat.le_refl _) (hvk w2 k))
  have HRC := hide (fun w2 (k : wa.grownBy w2 none) => rCount_any v w2 w2.heap.size nA nc sA sc lA lc (by omega) (Nat.le_refl _) (hvk w2 k))
  have HVA := hide (fun w2 => isAtom_any v.t (.slice nA v.n.length nc) (.slice sA v.s.length sc) (.slice lA v.l.length lc) w2)
  have HRA := hide (fun w2 => rAtom_any v.t (.slice nA v.n.length nc) (.slice sA v.s.length sc) (.slice lA v.l.length lc) w2)
  rw [atom_same] at HVA
  have HVN := hide (fun w2 => vNum_any v.t (.slice nA v.n.length nc) (.slice sA v.s.length sc) (.slice lA v.l.length lc) w2)
  have HRN := hide (fun w2 => rNumeric_any v.t (.slice nA v.n.length nc) (.slice sA v.s.length sc) (.slice lA v.l.length lc) w2)
  have HVL := hide (fun w2 (k : wa.grownBy w2 none) => vNull_any v i w2 w2.heap.size nA nc sA sc lA lc (by omega) (Nat.le_refl _) (hvk w2 k))
  have HRL := hide (fun w2 (k : wa.grownBy w2 none) => rNull_any v i w2 w2.heap.size nA nc sA sc lA lc (fun hf => flat_ok hok hf) (by omega) (Nat.le_refl _) (hvk w2 k))
  rw [null_same hok] at HRL
  have HVD := hide (fun w2 (k : wa.grownBy w2 none) => depth_any v w2 w2.heap.size nA nc sA sc lA lc (by omega) (Nat.le_refl _) (hvk w2 k))
  have HRD := hide (fun w2 (k : wa.grownBy w2 none) => rDepth_any v w2 w2.heap.size nA nc sA sc lA lc (by omega) (Nat.le_refl _) (hvk w2 k))
  have HVS := hide (fun w2 (k : wa.grownBy w2 none) => vSize_any v w2 w2.heap.size nA nc sA sc lA lc (by omega) (Nat.le_refl _) (hvk w2 k))
  have HRS := hide (fun w2 (k : wa.grownBy w2 none) => rSize_any v w2 w2.heap.size nA nc sA sc lA lc (by omega) (Nat.le_refl _) (hvk w2 k))
  have HCL := hide (fun w2 (k : wa.grownBy w2 none) => vClone_any v w2 w2.heap.size nA nc sA sc lA lc (by omega) (Nat.le_refl _) (hvk w2 k))
  have HEA := hide (fun w2 (k : wa.grownBy w2 none) => each_any v w2 w2.heap.size nA nc sA sc lA lc (by omega) (Nat.le_refl _) (hvk w2 k))
  have HYT := hide (atY_tot i ht)
  generalize atY (atF v.depth v i) = y at *
  generalize atK (atF v.depth v i) = ke at *
  generalize hcn : v.count = cn at *
  have HCN := hide hcn
  generalize v.depth = dn at HVD HRD
  generalize v.size = sn at HVS HRS
  generalize rAtom v.t = at1 at HVA HRA
  generalize hasN v.t = nu1 at HVN HRN
  generalize nullV v i = nl at HVL HRL
  clear hk hok h hg hwa hr hv hvb hvk hhu ht hs hcn
  refine (callsIn_wide (n := 0)).1 (callsIn_of_wp_marks Try.func3 rfl trivial (wpIn_wide.2 ?_))
  simp only [Try.ntmps3, List.size_toArray, List.length_cons, List.length_nil, Nat.reduceAdd, Nat.reduceSub, Array.replicate_succ, Array.replicate_zero, List.push_toArray, List.append_toArray, List.nil_append, List.cons_append]
  go_wp2_with fail
  rw [← HWE.out]
  go_upto_region 5 with (first
    | (go_at_call 7; refine HU.out.mono ?_; rintro e w1 ⟨rfl, hg1⟩; have HG1 := hide (gb_trans (gb_alloc (gb_refl wa none) _) hg1 (.inl rfl)); have b0 := cell_gb b0 HG1.out; have b1 := cell_gb b1 HG1.out; have b2 := cell_gb b2 HG1.out; have b3 := cell_gb b3 HG1.out; clear hg1)
    | (go_at_call 8; refine (HCH.out w1 HG1.out).mono ?_; rintro e w2 ⟨rfl, hg2⟩; have HG2 := hide (gb_trans HG1.out hg2 (.inl rfl)); have b0 := cell_gb b0 hg2; have b1 := cell_gb b1 hg2; have b2 := cell_gb b2 hg2; have b3 := cell_gb b3 hg2; clear hg2)
    | (go_at_call 10; refine (HAV.out _ HG2.out).mono ?_; rintro e w3 ⟨xA, xc, yA, yc, zA, zc, rfl, hx3, hg3⟩; have HX3 := hide hx3; have HG3 := hide (gb_trans HG2.out hg3 (.inl rfl)); have HG3b := hide (gb_trans HG3.out (gb_alloc (gb_refl w3 none) (.cells #[.int .i64 y.t, .slice xA y.n.length xc, .slice yA y.s.length yc, .slice zA y.l.length zc] 26)) (.inl rfl)); clear b0 b1 b2 b3; obtain ⟨b0, b1, b2, b3⟩ := HC.out.gb HG3b.out; clear hx3 hg3)
    | (go_at_call 11; refine (HAR.out _ HG3b.out).mono ?_; rintro e w4 ⟨uA, uc, vA, vc, tA, tc, rfl, hx4, hg4⟩; have hgx4 := hg4; have HX4 := hide hx4; have HG4 := hide (gb_trans HG3b.out hg4 (.inl rfl)); have HG4b := hide (gb_trans HG4.out (gb_alloc (gb_refl w4 none) (.cells #[.int .i64 y.t, .slice uA y.n.length uc, .slice vA y.s.length vc, .slice tA y.l.length tc] 26)) (.inl rfl)); clear b0 b1 b2 b3; obtain ⟨b0, b1, b2, b3⟩ := HC.out.gb HG4b.out; clear hx4 hg4))
  obtain ⟨w5, hw5⟩ : ∃ w5, w5 = w4.alloc (.cells #[.int .i64 y.t, .slice uA y.n.length uc, .slice vA y.s.length vc, .slice tA y.l.length tc] 26) := ⟨_, rfl⟩
  have HG5 := hide (show wa.grownBy w5 none by rw [hw5]; exact HG4b.out)
  have HC5 := hide (HC.out.gb HG5.out)
  have hg35 : (w3.alloc (.cells #[.int .i64 y.t, .slice xA y.n.length xc, .slice yA y.s.length yc, .slice zA y.l.length zc] 26)).grownBy w5 none := by rw [hw5]; exact gb_trans hgx4 (gb_alloc (gb_refl w4 none) _) (.inl rfl)
  have HX5 := hide ((C4.box w3 (.int .i64 y.t) (.slice xA y.n.length xc) (.slice yA y.s.length yc) (.slice zA y.l.length zc) 26).gb hg35)
  have HY5 := hide (show C4 w5 w4.heap.size 0 (.int .i64 y.t) (.slice uA y.n.length uc) (.slice vA y.s.length vc) (.slice tA y.l.length tc) by rw [hw5]; exact C4.box w4 _ _ _ _ _)
  have HVX := hide (show VB w5 w5.heap.size y xA xc yA yc zA zc from ((HX3.out.gb (gb_alloc (gb_refl w3 none) _) (Nat.le_refl _)).gb hg35 (by simp)).up (by have := hg35.size; simp at this; omega))
  have HVY := hide (show VB w5 w5.heap.size y uA uc vA vc tA tc by rw [hw5]; exact (HX4.out.gb (gb_alloc (gb_refl w4 none) _) (Nat.le_refl _)).up (by simp))
  have HSM := hide (fun w2 (k : w5.grownBy w2 none) => by
    have h1 := same_any y y w2 w5.heap.size xA xc yA yc zA zc uA uc vA vc tA tc HYT.out HYT.out k.size (HVX.out.gb k (Nat.le_refl _)) (HVY.out.gb k (Nat.le_refl _))
    rw [Vl.same_refl] at h1
    exact h1)
  rw [← hw5]
  clear hw5 hg35 hgx4 b0 b1 b2 b3 HVX HVY HX3 HX4 HAV HAR HU HCH
  refine wp_region_facts' 60 (by kernel_rfl) (by kernel_rfl) ?_
  intro A O W L HA HO HW HL
  simp only [List.take_succ_cons, List.take_zero]
  have HS := hide (show A.tmps.size = 146 by rw [HA.out]; rfl)
  have HGW := hide (show w5.grownBy W none by rw [HW.out]; exact gb_drew (gb_refl w5 none))
  have A1 := hide (show A.eval (.tmp 1) = .int .i64 i by rw [HA.out]; rfl)
  have A2 := hide (show A.eval (.tmp 2) = .pointer (some ⟨w.heap.size, 0, none⟩) by rw [HA.out]; rfl)
  have A5 := hide (show A.eval (.tmp 5) = .pointer (some ⟨w3.heap.size, 0, none⟩) by rw [HA.out]; rfl)
  have A6 := hide (show A.eval (.tmp 6) = .int .i64 ke by rw [HA.out]; rfl)
  have A7 := hide (show A.eval (.tmp 7) = .pointer (some ⟨w4.heap.size, 0, none⟩) by rw [HA.out]; rfl)
  have A8 := hide (show A.eval (.tmp 8) = .int .i64 ke by rw [HA.out]; rfl)
  -- slot 37
  refine wpFacts_lit (.agg #[.int .i64 y.t, .slice xA y.n.length xc, .slice yA y.s.length yc, .slice zA y.l.length zc]) rfl ?_ ?_
  · intro aq wq hw hl
    have e5 : aq.tmps[5]?.getD undef = .pointer (some ⟨w3.heap.size, 0, none⟩) := (hl 5 (by first | (simp [Op.operands]; done) | simp [Op.operands, Call.operands]) (by rw [HS.out]; decide)).trans A5.out
    obtain ⟨c0, c1, c2, c3⟩ := HX5.out.gb (gb_trans HGW.out hw (.inl rfl))
    clear hl
    go_simp
  -- slot 38
  refine wpFacts_lit (.agg #[.int .i64 y.t, .slice uA y.n.length uc, .slice vA y.s.length vc, .slice tA y.l.length tc]) rfl ?_ ?_
  · intro aq wq hw hl
    have e7 : aq.tmps[7]?.getD undef = .pointer (some ⟨w4.heap.size, 0, none⟩) := (hl 7 (by first | (simp [Op.operands]; done) | simp [Op.operands, Call.operands]) (by rw [HS.out]; decide)).trans A7.out
    obtain ⟨c0, c1, c2, c3⟩ := HY5.out.gb (gb_trans HGW.out hw (.inl rfl))
    clear hl
    go_simp
  -- slot 39
  refine wpFacts_step (fun vq _ => vq = .bool true) rfl (Lit.up _) ?_ ?_
  · intro aq wq hw hl
    have e37 : aq.tmps[37]?.getD undef = .agg #[.int .i64 y.t, .slice xA y.n.length xc, .slice yA y.s.length yc, .slice zA y.l.length zc] := hl 37 (by first | (simp [Op.operands]; done) | simp [Op.operands, Call.operands]) (by rw [HS.out]; decide)
    have e38 : aq.tmps[38]?.getD undef = .agg #[.int .i64 y.t, .slice uA y.n.length uc, .slice vA y.s.length vc, .slice tA y.l.length tc] := hl 38 (by first | (simp [Op.operands]; done) | simp [Op.operands, Call.operands]) (by rw [HS.out]; decide)
    clear hl
    go_simp
    exact gUpon_lit (HSM.out wq (gb_trans HGW.out hw (.inl rfl)))
  -- slot 40
  refine wpFacts_lit (.bool false) rfl ?_ ?_
  · intro aq wq hw hl
    have e39 : aq.tmps[39]?.getD undef = .bool true := hl 39 (by first | (simp [Op.operands]; done) | simp [Op.operands, Call.operands]) (by rw [HS.out]; decide)
    clear hl
    go_simp
  -- slot 41
  refine wpFacts_lit (.bool false) rfl ?_ ?_
  · intro aq wq hw hl
    have e40 : aq.tmps[40]?.getD undef = .bool false := hl 40 (by first | (simp [Op.operands]; done) | simp [Op.operands, Call.operands]) (by rw [HS.out]; decide)
    clear hl
    go_simp
  -- slot 42
  refine wpFacts_litG (.int .i64 ke) 4 false 41 rfl (by rw [HO.out]; rfl) (by rw [HS.out]; decide) (fun _ _ h => h) ?_ ?_
  · intro aq wq hw hl
    have e6 : aq.tmps[6]?.getD undef = .int .i64 ke := (hl 6 (by first | (simp [Op.operands]; done) | simp [Op.operands, Call.operands]) (by rw [HS.out]; decide)).trans A6.out
    clear hl
    go_simp
  -- slot 43
  refine wpFacts_stepG (fun vq _ => vq = .int .i64 ke) 4 false 41 rfl (by rw [HO.out]; rfl) (by rw [HS.out]; decide) (fun _ _ h => h) (Lit.up _) ?_ ?_
  · intro aq wq hw hl
    have e42 : aq.tmps[42]?.getD undef = .int .i64 ke := hl 42 (by first | (simp [Op.operands]; done) | simp [Op.operands, Call.operands]) (by rw [HS.out]; decide)
    clear hl
    go_simp
    exact gUpon_same (vnum_any ke wq)
  -- slot 44
  refine wpFacts_litG (.int .i64 ke) 4 false 41 rfl (by rw [HO.out]; rfl) (by rw [HS.out]; decide) (fun _ _ h => h) ?_ ?_
  · intro aq wq hw hl
    have e8 : aq.tmps[8]?.getD undef = .int .i64 ke := (hl 8 (by first | (simp [Op.operands]; done) | simp [Op.operands, Call.operands]) (by rw [HS.out]; decide)).trans A8.out
    clear hl
    go_simp
  -- slot 45
  refine wpFacts_litG (.bool false) 4 false 41 rfl (by rw [HO.out]; rfl) (by rw [HS.out]; decide) (fun _ _ h => h) ?_ ?_
  · intro aq wq hw hl
    have e43 : aq.tmps[43]?.getD undef = .int .i64 ke := hl 43 (by first | (simp [Op.operands]; done) | simp [Op.operands, Call.operands]) (by rw [HS.out]; decide)
    have e44 : aq.tmps[44]?.getD undef = .int .i64 ke := hl 44 (by first | (simp [Op.operands]; done) | simp [Op.operands, Call.operands]) (by rw [HS.out]; decide)
    clear hl
    go_simp
  -- slot 46
  refine wpFacts_lit (.bool false) rfl ?_ ?_
  · intro aq wq hw hl
    have e41 : aq.tmps[41]?.getD undef = .bool false := hl 41 (by first | (simp [Op.operands]; done) | simp [Op.operands, Call.operands]) (by rw [HS.out]; decide)
    have e45 : aq.tmps[45]?.getD undef = .bool false := hl 45 (by first | (simp [Op.operands]; done) | simp [Op.operands, Call.operands]) (by rw [HS.out]; decide)
    clear hl
    go_simp
  -- slot 47
  refine wpFacts_lit (.bool false) rfl ?_ ?_
  · intro aq wq hw hl
    have e46 : aq.tmps[46]?.getD undef = .bool false := hl 46 (by first | (simp [Op.operands]; done) | simp [Op.operands, Call.operands]) (by rw [HS.out]; decide)
    clear hl
    go_simp
  -- slot 48
  refine wpFacts_litG (.agg #[.int .i64 v.t, .slice nA v.n.length nc, .slice sA v.s.length sc, .slice lA v.l.length lc]) 10 false 47 rfl (by rw [HO.out]; rfl) (by rw [HS.out]; decide) (fun _ _ h => h) ?_ ?_
  · intro aq wq hw hl
    have e2 : aq.tmps[2]?.getD undef = .pointer (some ⟨w.heap.size, 0, none⟩) := (hl 2 (by first | (simp [Op.operands]; done) | simp [Op.operands, Call.operands]) (by rw [HS.out]; decide)).trans A2.out
    obtain ⟨c0, c1, c2, c3⟩ := HC5.out.gb (gb_trans HGW.out hw (.inl rfl))
    clear hl
    go_simp
  -- slot 49
  refine wpFacts_stepG (fun vq _ => vq = .int .i64 v.t) 10 false 47 rfl (by rw [HO.out]; rfl) (by rw [HS.out]; decide) (fun _ _ h => h) (Lit.up _) ?_ ?_
  · intro aq wq hw hl
    have e48 : aq.tmps[48]?.getD undef = .agg #[.int .i64 v.t, .slice nA v.n.length nc, .slice sA v.s.length sc, .slice lA v.l.length lc] := hl 48 (by first | (simp [Op.operands]; done) | simp [Op.operands, Call.operands]) (by rw [HS.out]; decide)
    clear hl
    go_simp
    exact gUpon_lit (vType_any _ _ _ _ wq)
  -- slot 50
  refine wpFacts_litG (.pointer (some ⟨w.heap.size, 0, none⟩)) 10 false 47 rfl (by rw [HO.out]; rfl) (by rw [HS.out]; decide) (fun _ _ h => h) ?_ ?_
  · intro aq wq hw hl
    have e2 : aq.tmps[2]?.getD undef = .pointer (some ⟨w.heap.size, 0, none⟩) := (hl 2 (by first | (simp [Op.operands]; done) | simp [Op.operands, Call.operands]) (by rw [HS.out]; decide)).trans A2.out
    clear hl
    go_simp
  -- slot 51
  refine wpFacts_litG (.int .i64 v.t) 10 false 47 rfl (by rw [HO.out]; rfl) (by rw [HS.out]; decide) (fun _ _ h => h) ?_ ?_
  · intro aq wq hw hl
    have e50 : aq.tmps[50]?.getD undef = .pointer (some ⟨w.heap.size, 0, none⟩) := hl 50 (by first | (simp [Op.operands]; done) | simp [Op.operands, Call.operands]) (by rw [HS.out]; decide)
    have c0 := (HC5.out.gb (gb_trans HGW.out hw (.inl rfl))).c0
    clear hl
    go_simp
  -- slot 52
  refine wpFacts_litG (.bool false) 10 false 47 rfl (by rw [HO.out]; rfl) (by rw [HS.out]; decide) (fun _ _ h => h) ?_ ?_
  · intro aq wq hw hl
    have e49 : aq.tmps[49]?.getD undef = .int .i64 v.t := hl 49 (by first | (simp [Op.operands]; done) | simp [Op.operands, Call.operands]) (by rw [HS.out]; decide)
    have e51 : aq.tmps[51]?.getD undef = .int .i64 v.t := hl 51 (by first | (simp [Op.operands]; done) | simp [Op.operands, Call.operands]) (by rw [HS.out]; decide)
    clear hl
    go_simp
  -- slot 53
  refine wpFacts_lit (.bool false) rfl ?_ ?_
  · intro aq wq hw hl
    have e47 : aq.tmps[47]?.getD undef = .bool false := hl 47 (by first | (simp [Op.operands]; done) | simp [Op.operands, Call.operands]) (by rw [HS.out]; decide)
    have e52 : aq.tmps[52]?.getD undef = .bool false := hl 52 (by first | (simp [Op.operands]; done) | simp [Op.operands, Call.operands]) (by rw [HS.out]; decide)
    clear hl
    go_simp
  -- slot 54
  refine wpFacts_lit (.bool false) rfl ?_ ?_
  · intro aq wq hw hl
    have e53 : aq.tmps[53]?.getD undef = .bool false := hl 53 (by first | (simp [Op.operands]; done) | simp [Op.operands, Call.operands]) (by rw [HS.out]; decide)
    clear hl
    go_simp
  -- slot 55
  refine wpFacts_litG (.agg #[.int .i64 v.t, .slice nA v.n.length nc, .slice sA v.s.length sc, .slice lA v.l.length lc]) 17 false 54 rfl (by rw [HO.out]; rfl) (by rw [HS.out]; decide) (fun _ _ h => h) ?_ ?_
  · intro aq wq hw hl
    have e2 : aq.tmps[2]?.getD undef = .pointer (some ⟨w.heap.size, 0, none⟩) := (hl 2 (by first | (simp [Op.operands]; done) | simp [Op.operands, Call.operands]) (by rw [HS.out]; decide)).trans A2.out
    obtain ⟨c0, c1, c2, c3⟩ := HC5.out.gb (gb_trans HGW.out hw (.inl rfl))
    clear hl
    go_simp
  -- slot 56
  refine wpFacts_stepG (fun vq _ => vq = .int .i64 (cn : Nat)) 17 false 54 rfl (by rw [HO.out]; rfl) (by rw [HS.out]; decide) (fun _ _ h => h) (Lit.up _) ?_ ?_
  · intro aq wq hw hl
    have e55 : aq.tmps[55]?.getD undef = .agg #[.int .i64 v.t, .slice nA v.n.length nc, .slice sA v.s.length sc, .slice lA v.l.length lc] := hl 55 (by first | (simp [Op.operands]; done) | simp [Op.operands, Call.operands]) (by rw [HS.out]; decide)
    clear hl
    go_simp
    exact gUpon_lit (HVC.out wq (gb_trans HG5.out (gb_trans HGW.out hw (.inl rfl)) (.inl rfl)))
  -- slot 57
  refine wpFacts_litG (.agg #[.int .i64 v.t, .slice nA v.n.length nc, .slice sA v.s.length sc, .slice lA v.l.length lc]) 17 false 54 rfl (by rw [HO.out]; rfl) (by rw [HS.out]; decide) (fun _ _ h => h) ?_ ?_
  · intro aq wq hw hl
    have e2 : aq.tmps[2]?.getD undef = .pointer (some ⟨w.heap.size, 0, none⟩) := (hl 2 (by first | (simp [Op.operands]; done) | simp [Op.operands, Call.operands]) (by rw [HS.out]; decide)).trans A2.out
    obtain ⟨c0, c1, c2, c3⟩ := HC5.out.gb (gb_trans HGW.out hw (.inl rfl))
    clear hl
    go_simp
  -- slot 58
  refine wpFacts_stepG (fun vq _ => vq = .int .i64 (cn : Nat)) 17 false 54 rfl (by rw [HO.out]; rfl) (by rw [HS.out]; decide) (fun _ _ h => h) (Lit.up _) ?_ ?_
  · intro aq wq hw hl
    have e57 : aq.tmps[57]?.getD undef = .agg #[.int .i64 v.t, .slice nA v.n.length nc, .slice sA v.s.length sc, .slice lA v.l.length lc] := hl 57 (by first | (simp [Op.operands]; done) | simp [Op.operands, Call.operands]) (by rw [HS.out]; decide)
    clear hl
    go_simp
    exact gUpon_lit (HRC.out wq (gb_trans HG5.out (gb_trans HGW.out hw (.inl rfl)) (.inl rfl)))
  -- slot 59
  refine wpFacts_litG (.bool false) 17 false 54 rfl (by rw [HO.out]; rfl) (by rw [HS.out]; decide) (fun _ _ h => h) ?_ ?_
  · intro aq wq hw hl
    have e56 : aq.tmps[56]?.getD undef = .int .i64 (cn : Nat) := hl 56 (by first | (simp [Op.operands]; done) | simp [Op.operands, Call.operands]) (by rw [HS.out]; decide)
    have e58 : aq.tmps[58]?.getD undef = .int .i64 (cn : Nat) := hl 58 (by first | (simp [Op.operands]; done) | simp [Op.operands, Call.operands]) (by rw [HS.out]; decide)
    clear hl
    go_simp
  -- slot 60
  refine wpFacts_lit (.bool false) rfl ?_ ?_
  · intro aq wq hw hl
    have e54 : aq.tmps[54]?.getD undef = .bool false := hl 54 (by first | (simp [Op.operands]; done) | simp [Op.operands, Call.operands]) (by rw [HS.out]; decide)
    have e59 : aq.tmps[59]?.getD undef = .bool false := hl 59 (by first | (simp [Op.operands]; done) | simp [Op.operands, Call.operands]) (by rw [HS.out]; decide)
    clear hl
    go_simp
  -- slot 61
  refine wpFacts_lit (.bool false) rfl ?_ ?_
  · intro aq wq hw hl
    have e60 : aq.tmps[60]?.getD undef = .bool false := hl 60 (by first | (simp [Op.operands]; done) | simp [Op.operands, Call.operands]) (by rw [HS.out]; decide)
    clear hl
    go_simp
  -- slot 62
  refine wpFacts_litG (.agg #[.int .i64 v.t, .slice nA v.n.length nc, .slice sA v.s.length sc, .slice lA v.l.length lc]) 24 false 61 rfl (by rw [HO.out]; rfl) (by rw [HS.out]; decide) (fun _ _ h => h) ?_ ?_
  · intro aq wq hw hl
    have e2 : aq.tmps[2]?.getD undef = .pointer (some ⟨w.heap.size, 0, none⟩) := (hl 2 (by first | (simp [Op.operands]; done) | simp [Op.operands, Call.operands]) (by rw [HS.out]; decide)).trans A2.out
    obtain ⟨c0, c1, c2, c3⟩ := HC5.out.gb (gb_trans HGW.out hw (.inl rfl))
    clear hl
    go_simp
  -- slot 63
  refine wpFacts_stepG (fun vq _ => vq = .bool at1) 24 false 61 rfl (by rw [HO.out]; rfl) (by rw [HS.out]; decide) (fun _ _ h => h) (Lit.up _) ?_ ?_
  · intro aq wq hw hl
    have e62 : aq.tmps[62]?.getD undef = .agg #[.int .i64 v.t, .slice nA v.n.length nc, .slice sA v.s.length sc, .slice lA v.l.length lc] := hl 62 (by first | (simp [Op.operands]; done) | simp [Op.operands, Call.operands]) (by rw [HS.out]; decide)
    clear hl
    go_simp
    exact gUpon_lit (HVA.out wq)
  -- slot 64
  refine wpFacts_litG (.agg #[.int .i64 v.t, .slice nA v.n.length nc, .slice sA v.s.length sc, .slice lA v.l.length lc]) 24 false 61 rfl (by rw [HO.out]; rfl) (by rw [HS.out]; decide) (fun _ _ h => h) ?_ ?_
  · intro aq wq hw hl
    have e2 : aq.tmps[2]?.getD undef = .pointer (some ⟨w.heap.size, 0, none⟩) := (hl 2 (by first | (simp [Op.operands]; done) | simp [Op.operands, Call.operands]) (by rw [HS.out]; decide)).trans A2.out
    obtain ⟨c0, c1, c2, c3⟩ := HC5.out.gb (gb_trans HGW.out hw (.inl rfl))
    clear hl
    go_simp
  -- slot 65
  refine wpFacts_stepG (fun vq _ => vq = .bool at1) 24 false 61 rfl (by rw [HO.out]; rfl) (by rw [HS.out]; decide) (fun _ _ h => h) (Lit.up _) ?_ ?_
  · intro aq wq hw hl
    have e64 : aq.tmps[64]?.getD undef = .agg #[.int .i64 v.t, .slice nA v.n.length nc, .slice sA v.s.length sc, .slice lA v.l.length lc] := hl 64 (by first | (simp [Op.operands]; done) | simp [Op.operands, Call.operands]) (by rw [HS.out]; decide)
    clear hl
    go_simp
    exact gUpon_lit (HRA.out wq)
  -- slot 66
  refine wpFacts_litG (.bool false) 24 false 61 rfl (by rw [HO.out]; rfl) (by rw [HS.out]; decide) (fun _ _ h => h) ?_ ?_
  · intro aq wq hw hl
    have e63 : aq.tmps[63]?.getD undef = .bool at1 := hl 63 (by first | (simp [Op.operands]; done) | simp [Op.operands, Call.operands]) (by rw [HS.out]; decide)
    have e65 : aq.tmps[65]?.getD undef = .bool at1 := hl 65 (by first | (simp [Op.operands]; done) | simp [Op.operands, Call.operands]) (by rw [HS.out]; decide)
    clear hl
    go_simp
  -- slot 67
  refine wpFacts_lit (.bool false) rfl ?_ ?_
  · intro aq wq hw hl
    have e61 : aq.tmps[61]?.getD undef = .bool false := hl 61 (by first | (simp [Op.operands]; done) | simp [Op.operands, Call.operands]) (by rw [HS.out]; decide)
    have e66 : aq.tmps[66]?.getD undef = .bool false := hl 66 (by first | (simp [Op.operands]; done) | simp [Op.operands, Call.operands]) (by rw [HS.out]; decide)
    clear hl
    go_simp
  -- slot 68
  refine wpFacts_lit (.bool false) rfl ?_ ?_
  · intro aq wq hw hl
    have e67 : aq.tmps[67]?.getD undef = .bool false := hl 67 (by first | (simp [Op.operands]; done) | simp [Op.operands, Call.operands]) (by rw [HS.out]; decide)
    clear hl
    go_simp
  -- slot 69
  refine wpFacts_litG (.agg #[.int .i64 v.t, .slice nA v.n.length nc, .slice sA v.s.length sc, .slice lA v.l.length lc]) 31 false 68 rfl (by rw [HO.out]; rfl) (by rw [HS.out]; decide) (fun _ _ h => h) ?_ ?_
  · intro aq wq hw hl
    have e2 : aq.tmps[2]?.getD undef = .pointer (some ⟨w.heap.size, 0, none⟩) := (hl 2 (by first | (simp [Op.operands]; done) | simp [Op.operands, Call.operands]) (by rw [HS.out]; decide)).trans A2.out
    obtain ⟨c0, c1, c2, c3⟩ := HC5.out.gb (gb_trans HGW.out hw (.inl rfl))
    clear hl
    go_simp
  -- slot 70
  refine wpFacts_stepG (fun vq _ => vq = .bool nu1) 31 false 68 rfl (by rw [HO.out]; rfl) (by rw [HS.out]; decide) (fun _ _ h => h) (Lit.up _) ?_ ?_
  · intro aq wq hw hl
    have e69 : aq.tmps[69]?.getD undef = .agg #[.int .i64 v.t, .slice nA v.n.length nc, .slice sA v.s.length sc, .slice lA v.l.length lc] := hl 69 (by first | (simp [Op.operands]; done) | simp [Op.operands, Call.operands]) (by rw [HS.out]; decide)
    clear hl
    go_simp
    exact gUpon_lit (HVN.out wq)
  -- slot 71
  refine wpFacts_litG (.agg #[.int .i64 v.t, .slice nA v.n.length nc, .slice sA v.s.length sc, .slice lA v.l.length lc]) 31 false 68 rfl (by rw [HO.out]; rfl) (by rw [HS.out]; decide) (fun _ _ h => h) ?_ ?_
  · intro aq wq hw hl
    have e2 : aq.tmps[2]?.getD undef = .pointer (some ⟨w.heap.size, 0, none⟩) := (hl 2 (by first | (simp [Op.operands]; done) | simp [Op.operands, Call.operands]) (by rw [HS.out]; decide)).trans A2.out
    obtain ⟨c0, c1, c2, c3⟩ := HC5.out.gb (gb_trans HGW.out hw (.inl rfl))
    clear hl
    go_simp
  -- slot 72
  refine wpFacts_stepG (fun vq _ => vq = .bool nu1) 31 false 68 rfl (by rw [HO.out]; rfl) (by rw [HS.out]; decide) (fun _ _ h => h) (Lit.up _) ?_ ?_
  · intro aq wq hw hl
    have e71 : aq.tmps[71]?.getD undef = .agg #[.int .i64 v.t, .slice nA v.n.length nc, .slice sA v.s.length sc, .slice lA v.l.length lc] := hl 71 (by first | (simp [Op.operands]; done) | simp [Op.operands, Call.operands]) (by rw [HS.out]; decide)
    clear hl
    go_simp
    exact gUpon_lit (HRN.out wq)
  -- slot 73
  refine wpFacts_litG (.bool false) 31 false 68 rfl (by rw [HO.out]; rfl) (by rw [HS.out]; decide) (fun _ _ h => h) ?_ ?_
  · intro aq wq hw hl
    have e70 : aq.tmps[70]?.getD undef = .bool nu1 := hl 70 (by first | (simp [Op.operands]; done) | simp [Op.operands, Call.operands]) (by rw [HS.out]; decide)
    have e72 : aq.tmps[72]?.getD undef = .bool nu1 := hl 72 (by first | (simp [Op.operands]; done) | simp [Op.operands, Call.operands]) (by rw [HS.out]; decide)
    clear hl
    go_simp
  -- slot 74
  refine wpFacts_lit (.bool false) rfl ?_ ?_
  · intro aq wq hw hl
    have e68 : aq.tmps[68]?.getD undef = .bool false := hl 68 (by first | (simp [Op.operands]; done) | simp [Op.operands, Call.operands]) (by rw [HS.out]; decide)
    have e73 : aq.tmps[73]?.getD undef = .bool false := hl 73 (by first | (simp [Op.operands]; done) | simp [Op.operands, Call.operands]) (by rw [HS.out]; decide)
    clear hl
    go_simp
  -- slot 75
  refine wpFacts_lit (.bool false) rfl ?_ ?_
  · intro aq wq hw hl
    have e74 : aq.tmps[74]?.getD undef = .bool false := hl 74 (by first | (simp [Op.operands]; done) | simp [Op.operands, Call.operands]) (by rw [HS.out]; decide)
    clear hl
    go_simp
  -- slot 76
  refine wpFacts_litG (.agg #[.int .i64 v.t, .slice nA v.n.length nc, .slice sA v.s.length sc, .slice lA v.l.length lc]) 38 false 75 rfl (by rw [HO.out]; rfl) (by rw [HS.out]; decide) (fun _ _ h => h) ?_ ?_
  · intro aq wq hw hl
    have e2 : aq.tmps[2]?.getD undef = .pointer (some ⟨w.heap.size, 0, none⟩) := (hl 2 (by first | (simp [Op.operands]; done) | simp [Op.operands, Call.operands]) (by rw [HS.out]; decide)).trans A2.out
    obtain ⟨c0, c1, c2, c3⟩ := HC5.out.gb (gb_trans HGW.out hw (.inl rfl))
    clear hl
    go_simp
  -- slot 77
  refine wpFacts_litG (.int .i64 i) 38 false 75 rfl (by rw [HO.out]; rfl) (by rw [HS.out]; decide) (fun _ _ h => h) ?_ ?_
  · intro aq wq hw hl
    have e1 : aq.tmps[1]?.getD undef = .int .i64 i := (hl 1 (by first | (simp [Op.operands]; done) | simp [Op.operands, Call.operands]) (by rw [HS.out]; decide)).trans A1.out
    clear hl
    go_simp
  -- slot 78
  refine wpFacts_stepG (fun vq _ => vq = .bool nl) 38 false 75 rfl (by rw [HO.out]; rfl) (by rw [HS.out]; decide) (fun _ _ h => h) (Lit.up _) ?_ ?_
  · intro aq wq hw hl
    have e76 : aq.tmps[76]?.getD undef = .agg #[.int .i64 v.t, .slice nA v.n.length nc, .slice sA v.s.length sc, .slice lA v.l.length lc] := hl 76 (by first | (simp [Op.operands]; done) | simp [Op.operands, Call.operands]) (by rw [HS.out]; decide)
    have e77 : aq.tmps[77]?.getD undef = .int .i64 i := hl 77 (by first | (simp [Op.operands]; done) | simp [Op.operands, Call.operands]) (by rw [HS.out]; decide)
    clear hl
    go_simp
    exact gUpon_lit (HVL.out wq (gb_trans HG5.out (gb_trans HGW.out hw (.inl rfl)) (.inl rfl)))
  -- slot 79
  refine wpFacts_litG (.agg #[.int .i64 v.t, .slice nA v.n.length nc, .slice sA v.s.length sc, .slice lA v.l.length lc]) 38 false 75 rfl (by rw [HO.out]; rfl) (by rw [HS.out]; decide) (fun _ _ h => h) ?_ ?_
  · intro aq wq hw hl
    have e2 : aq.tmps[2]?.getD undef = .pointer (some ⟨w.heap.size, 0, none⟩) := (hl 2 (by first | (simp [Op.operands]; done) | simp [Op.operands, Call.operands]) (by rw [HS.out]; decide)).trans A2.out
    obtain ⟨c0, c1, c2, c3⟩ := HC5.out.gb (gb_trans HGW.out hw (.inl rfl))
    clear hl
    go_simp
  -- slot 80
  refine wpFacts_litG (.int .i64 i) 38 false 75 rfl (by rw [HO.out]; rfl) (by rw [HS.out]; decide) (fun _ _ h => h) ?_ ?_
  · intro aq wq hw hl
    have e1 : aq.tmps[1]?.getD undef = .int .i64 i := (hl 1 (by first | (simp [Op.operands]; done) | simp [Op.operands, Call.operands]) (by rw [HS.out]; decide)).trans A1.out
    clear hl
    go_simp
  -- slot 81
  refine wpFacts_stepG (fun vq _ => vq = .bool nl) 38 false 75 rfl (by rw [HO.out]; rfl) (by rw [HS.out]; decide) (fun _ _ h => h) (Lit.up _) ?_ ?_
  · intro aq wq hw hl
    have e79 : aq.tmps[79]?.getD undef = .agg #[.int .i64 v.t, .slice nA v.n.length nc, .slice sA v.s.length sc, .slice lA v.l.length lc] := hl 79 (by first | (simp [Op.operands]; done) | simp [Op.operands, Call.operands]) (by rw [HS.out]; decide)
    have e80 : aq.tmps[80]?.getD undef = .int .i64 i := hl 80 (by first | (simp [Op.operands]; done) | simp [Op.operands, Call.operands]) (by rw [HS.out]; decide)
    clear hl
    go_simp
    exact gUpon_lit (HRL.out wq (gb_trans HG5.out (gb_trans HGW.out hw (.inl rfl)) (.inl rfl)))
  -- slot 82
  refine wpFacts_litG (.bool false) 38 false 75 rfl (by rw [HO.out]; rfl) (by rw [HS.out]; decide) (fun _ _ h => h) ?_ ?_
  · intro aq wq hw hl
    have e78 : aq.tmps[78]?.getD undef = .bool nl := hl 78 (by first | (simp [Op.operands]; done) | simp [Op.operands, Call.operands]) (by rw [HS.out]; decide)
    have e81 : aq.tmps[81]?.getD undef = .bool nl := hl 81 (by first | (simp [Op.operands]; done) | simp [Op.operands, Call.operands]) (by rw [HS.out]; decide)
    clear hl
    go_simp
  -- slot 83
  refine wpFacts_lit (.bool false) rfl ?_ ?_
  · intro aq wq hw hl
    have e75 : aq.tmps[75]?.getD undef = .bool false := hl 75 (by first | (simp [Op.operands]; done) | simp [Op.operands, Call.operands]) (by rw [HS.out]; decide)
    have e82 : aq.tmps[82]?.getD undef = .bool false := hl 82 (by first | (simp [Op.operands]; done) | simp [Op.operands, Call.operands]) (by rw [HS.out]; decide)
    clear hl
    go_simp
  -- slot 84
  refine wpFacts_lit (.bool false) rfl ?_ ?_
  · intro aq wq hw hl
    have e83 : aq.tmps[83]?.getD undef = .bool false := hl 83 (by first | (simp [Op.operands]; done) | simp [Op.operands, Call.operands]) (by rw [HS.out]; decide)
    clear hl
    go_simp
  -- slot 85
  refine wpFacts_litG (.agg #[.int .i64 v.t, .slice nA v.n.length nc, .slice sA v.s.length sc, .slice lA v.l.length lc]) 47 false 84 rfl (by rw [HO.out]; rfl) (by rw [HS.out]; decide) (fun _ _ h => h) ?_ ?_
  · intro aq wq hw hl
    have e2 : aq.tmps[2]?.getD undef = .pointer (some ⟨w.heap.size, 0, none⟩) := (hl 2 (by first | (simp [Op.operands]; done) | simp [Op.operands, Call.operands]) (by rw [HS.out]; decide)).trans A2.out
    obtain ⟨c0, c1, c2, c3⟩ := HC5.out.gb (gb_trans HGW.out hw (.inl rfl))
    clear hl
    go_simp
  -- slot 86
  refine wpFacts_stepG (fun vq _ => vq = .int .i64 (dn : Nat)) 47 false 84 rfl (by rw [HO.out]; rfl) (by rw [HS.out]; decide) (fun _ _ h => h) (Lit.up _) ?_ ?_
  · intro aq wq hw hl
    have e85 : aq.tmps[85]?.getD undef = .agg #[.int .i64 v.t, .slice nA v.n.length nc, .slice sA v.s.length sc, .slice lA v.l.length lc] := hl 85 (by first | (simp [Op.operands]; done) | simp [Op.operands, Call.operands]) (by rw [HS.out]; decide)
    clear hl
    go_simp
    exact gUpon_lit (HVD.out wq (gb_trans HG5.out (gb_trans HGW.out hw (.inl rfl)) (.inl rfl)))
  -- slot 87
  refine wpFacts_litG (.agg #[.int .i64 v.t, .slice nA v.n.length nc, .slice sA v.s.length sc, .slice lA v.l.length lc]) 47 false 84 rfl (by rw [HO.out]; rfl) (by rw [HS.out]; decide) (fun _ _ h => h) ?_ ?_
  · intro aq wq hw hl
    have e2 : aq.tmps[2]?.getD undef = .pointer (some ⟨w.heap.size, 0, none⟩) := (hl 2 (by first | (simp [Op.operands]; done) | simp [Op.operands, Call.operands]) (by rw [HS.out]; decide)).trans A2.out
    obtain ⟨c0, c1, c2, c3⟩ := HC5.out.gb (gb_trans HGW.out hw (.inl rfl))
    clear hl
    go_simp
  -- slot 88
  refine wpFacts_stepG (fun vq _ => vq = .int .i64 (dn : Nat)) 47 false 84 rfl (by rw [HO.out]; rfl) (by rw [HS.out]; decide) (fun _ _ h => h) (Lit.up _) ?_ ?_
  · intro aq wq hw hl
    have e87 : aq.tmps[87]?.getD undef = .agg #[.int .i64 v.t, .slice nA v.n.length nc, .slice sA v.s.length sc, .slice lA v.l.length lc] := hl 87 (by first | (simp [Op.operands]; done) | simp [Op.operands, Call.operands]) (by rw [HS.out]; decide)
    clear hl
    go_simp
    exact gUpon_lit (HRD.out wq (gb_trans HG5.out (gb_trans HGW.out hw (.inl rfl)) (.inl rfl)))
  -- slot 89
  refine wpFacts_litG (.bool false) 47 false 84 rfl (by rw [HO.out]; rfl) (by rw [HS.out]; decide) (fun _ _ h => h) ?_ ?_
  · intro aq wq hw hl
    have e86 : aq.tmps[86]?.getD undef = .int .i64 (dn : Nat) := hl 86 (by first | (simp [Op.operands]; done) | simp [Op.operands, Call.operands]) (by rw [HS.out]; decide)
    have e88 : aq.tmps[88]?.getD undef = .int .i64 (dn : Nat) := hl 88 (by first | (simp [Op.operands]; done) | simp [Op.operands, Call.operands]) (by rw [HS.out]; decide)
    clear hl
    go_simp
  -- slot 90
  refine wpFacts_lit (.bool false) rfl ?_ ?_
  · intro aq wq hw hl
    have e84 : aq.tmps[84]?.getD undef = .bool false := hl 84 (by first | (simp [Op.operands]; done) | simp [Op.operands, Call.operands]) (by rw [HS.out]; decide)
    have e89 : aq.tmps[89]?.getD undef = .bool false := hl 89 (by first | (simp [Op.operands]; done) | simp [Op.operands, Call.operands]) (by rw [HS.out]; decide)
    clear hl
    go_simp
  -- slot 91
  refine wpFacts_lit (.bool false) rfl ?_ ?_
  · intro aq wq hw hl
    have e90 : aq.tmps[90]?.getD undef = .bool false := hl 90 (by first | (simp [Op.operands]; done) | simp [Op.operands, Call.operands]) (by rw [HS.out]; decide)
    clear hl
    go_simp
  -- slot 92
  refine wpFacts_litG (.agg #[.int .i64 v.t, .slice nA v.n.length nc, .slice sA v.s.length sc, .slice lA v.l.length lc]) 54 false 91 rfl (by rw [HO.out]; rfl) (by rw [HS.out]; decide) (fun _ _ h => h) ?_ ?_
  · intro aq wq hw hl
    have e2 : aq.tmps[2]?.getD undef = .pointer (some ⟨w.heap.size, 0, none⟩) := (hl 2 (by first | (simp [Op.operands]; done) | simp [Op.operands, Call.operands]) (by rw [HS.out]; decide)).trans A2.out
    obtain ⟨c0, c1, c2, c3⟩ := HC5.out.gb (gb_trans HGW.out hw (.inl rfl))
    clear hl
    go_simp
  -- slot 93
  refine wpFacts_stepG (fun vq _ => vq = .int .i64 (sn : Nat)) 54 false 91 rfl (by rw [HO.out]; rfl) (by rw [HS.out]; decide) (fun _ _ h => h) (Lit.up _) ?_ ?_
  · intro aq wq hw hl
    have e92 : aq.tmps[92]?.getD undef = .agg #[.int .i64 v.t, .slice nA v.n.length nc, .slice sA v.s.length sc, .slice lA v.l.length lc] := hl 92 (by first | (simp [Op.operands]; done) | simp [Op.operands, Call.operands]) (by rw [HS.out]; decide)
    clear hl
    go_simp
    exact gUpon_lit (HVS.out wq (gb_trans HG5.out (gb_trans HGW.out hw (.inl rfl)) (.inl rfl)))
  -- slot 94
  refine wpFacts_litG (.agg #[.int .i64 v.t, .slice nA v.n.length nc, .slice sA v.s.length sc, .slice lA v.l.length lc]) 54 false 91 rfl (by rw [HO.out]; rfl) (by rw [HS.out]; decide) (fun _ _ h => h) ?_ ?_
  · intro aq wq hw hl
    have e2 : aq.tmps[2]?.getD undef = .pointer (some ⟨w.heap.size, 0, none⟩) := (hl 2 (by first | (simp [Op.operands]; done) | simp [Op.operands, Call.operands]) (by rw [HS.out]; decide)).trans A2.out
    obtain ⟨c0, c1, c2, c3⟩ := HC5.out.gb (gb_trans HGW.out hw (.inl rfl))
    clear hl
    go_simp
  -- slot 95
  refine wpFacts_stepG (fun vq _ => vq = .int .i64 (sn : Nat)) 54 false 91 rfl (by rw [HO.out]; rfl) (by rw [HS.out]; decide) (fun _ _ h => h) (Lit.up _) ?_ ?_
  · intro aq wq hw hl
    have e94 : aq.tmps[94]?.getD undef = .agg #[.int .i64 v.t, .slice nA v.n.length nc, .slice sA v.s.length sc, .slice lA v.l.length lc] := hl 94 (by first | (simp [Op.operands]; done) | simp [Op.operands, Call.operands]) (by rw [HS.out]; decide)
    clear hl
    go_simp
    exact gUpon_lit (HRS.out wq (gb_trans HG5.out (gb_trans HGW.out hw (.inl rfl)) (.inl rfl)))
  -- slot 96
  refine wpFacts_litG (.bool false) 54 false 91 rfl (by rw [HO.out]; rfl) (by rw [HS.out]; decide) (fun _ _ h => h) ?_ ?_
  · intro aq wq hw hl
    have e93 : aq.tmps[93]?.getD undef = .int .i64 (sn : Nat) := hl 93 (by first | (simp [Op.operands]; done) | simp [Op.operands, Call.operands]) (by rw [HS.out]; decide)
    have e95 : aq.tmps[95]?.getD undef = .int .i64 (sn : Nat) := hl 95 (by first | (simp [Op.operands]; done) | simp [Op.operands, Call.operands]) (by rw [HS.out]; decide)
    clear hl
    go_simp
  refine HL.out _ (fun a' w6 hc => ?_)
  have e91 : a'.eval (.tmp 91) = .bool false := hc.fact 91 (by rw [HS.out]; decide)
  have e96 : a'.eval (.tmp 96) = .bool false := hc.fact 96 (by rw [HS.out]; decide)
  have hgw6 := gb_trans HGW.out hc.grown (.inl rfl)
  have hfr := hc.frame [37, 38, 39, 40, 41, 42, 43, 44, 45, 46, 47, 48, 49, 50, 51, 52, 53, 54, 55, 56, 57, 58, 59, 60, 61, 62, 63, 64, 65, 66, 67, 68, 69, 70, 71, 72, 73, 74, 75, 76, 77, 78, 79, 80, 81, 82, 83, 84, 85, 86, 87, 88, 89, 90, 91, 92, 93, 94, 95, 96, 97] (by rw [HO.out]; kernel_rfl)
  rw [hfr]
  clear hfr hc
  rw [HA.out]
  clear HA HO HL HW HS HGW A1 A2 A5 A6 A7 A8
  clear A O W L
  simp only [List.drop_succ_cons, List.drop_zero, List.foldl_cons, List.foldl_nil, Act.put, List.setIfInBounds_toArray, List.set_cons_succ, List.set_cons_zero]
  rw [e91, e96]
  generalize a'.eval (.tmp 37) = x37
  generalize a'.eval (.tmp 38) = x38
  generalize a'.eval (.tmp 39) = x39
  generalize a'.eval (.tmp 40) = x40
  generalize a'.eval (.tmp 41) = x41
  generalize a'.eval (.tmp 42) = x42
  generalize a'.eval (.tmp 43) = x43
  generalize a'.eval (.tmp 44) = x44
  generalize a'.eval (.tmp 45) = x45
  generalize a'.eval (.tmp 46) = x46
  generalize a'.eval (.tmp 47) = x47
  generalize a'.eval (.tmp 48) = x48
  generalize a'.eval (.tmp 49) = x49
  generalize a'.eval (.tmp 50) = x50
  generalize a'.eval (.tmp 51) = x51
  generalize a'.eval (.tmp 52) = x52
  generalize a'.eval (.tmp 53) = x53
  generalize a'.eval (.tmp 54) = x54
  generalize a'.eval (.tmp 55) = x55
  generalize a'.eval (.tmp 56) = x56
  generalize a'.eval (.tmp 57) = x57
  generalize a'.eval (.tmp 58) = x58
  generalize a'.eval (.tmp 59) = x59
  generalize a'.eval (.tmp 60) = x60
  generalize a'.eval (.tmp 61) = x61
  generalize a'.eval (.tmp 62) = x62
  generalize a'.eval (.tmp 63) = x63
  generalize a'.eval (.tmp 64) = x64
  generalize a'.eval (.tmp 65) = x65
  generalize a'.eval (.tmp 66) = x66
  generalize a'.eval (.tmp 67) = x67
  generalize a'.eval (.tmp 68) = x68
  generalize a'.eval (.tmp 69) = x69
  generalize a'.eval (.tmp 70) = x70
  generalize a'.eval (.tmp 71) = x71
  generalize a'.eval (.tmp 72) = x72
  generalize a'.eval (.tmp 73) = x73
  generalize a'.eval (.tmp 74) = x74
  generalize a'.eval (.tmp 75) = x75
  generalize a'.eval (.tmp 76) = x76
  generalize a'.eval (.tmp 77) = x77
  generalize a'.eval (.tmp 78) = x78
  generalize a'.eval (.tmp 79) = x79
  generalize a'.eval (.tmp 80) = x80
  generalize a'.eval (.tmp 81) = x81
  generalize a'.eval (.tmp 82) = x82
  generalize a'.eval (.tmp 83) = x83
  generalize a'.eval (.tmp 84) = x84
  generalize a'.eval (.tmp 85) = x85
  generalize a'.eval (.tmp 86) = x86
  generalize a'.eval (.tmp 87) = x87
  generalize a'.eval (.tmp 88) = x88
  generalize a'.eval (.tmp 89) = x89
  generalize a'.eval (.tmp 90) = x90
  generalize a'.eval (.tmp 92) = x92
  generalize a'.eval (.tmp 93) = x93
  generalize a'.eval (.tmp 94) = x94
  generalize a'.eval (.tmp 95) = x95
  generalize a'.eval (.tmp 97) = x97
  clear e91 e96
  clear a'
  have HG6 := hide (gb_trans HG5.out hgw6 (.inl rfl))
  clear hgw6 HC5 HX5 HY5 HSM HVC HRA HVA HVN HRN HVL HRL HVD HRD HVS HRS
  obtain ⟨b0, b1, b2, b3⟩ := HC.out.gb HG6.out
  go_wp2_with (go_at_call 27; refine (HCL.out _ HG6.out).mono ?_; rintro e w7 ⟨cA, cc, dA, dc, eA, ec, fc, rfl, hoc, hnc, hg7⟩; have HOC := hide hoc; have HG7 := hide (gb_trans HG6.out hg7 (.inl rfl)); clear hoc hnc hg7)
  obtain ⟨wb0, hwb0⟩ : ∃ wb0, wb0 = (w7.alloc (.cells #[.int .i64 v.t, .slice cA v.n.length cc, .slice dA v.s.length dc, .slice eA v.l.length ec] 26)).alloc (.cells #[.int .i64 0] 3) := ⟨_, rfl⟩
  rw [← hwb0]
  have HGC := hide (C4.box w7 (.int .i64 v.t) (.slice cA v.n.length cc) (.slice dA v.s.length dc) (.slice eA v.l.length ec) 26)
  have HG7C := hide (show (w7.alloc (.cells #[.int .i64 v.t, .slice cA v.n.length cc, .slice dA v.s.length dc, .slice eA v.l.length ec] 26)).grownBy wb0 none by rw [hwb0]; exact gb_alloc (gb_refl _ none) _)
  have HCB := hide (HGC.out.gb HG7C.out)
  have HOB := hide ((HOC.out.gb (gb_alloc (gb_refl w7 none) _)).gb HG7C.out)
  have HGb0 := hide (gb_trans HG7.out (gb_trans (gb_alloc (gb_refl w7 none) _) HG7C.out (.inl rfl)) (.inl rfl))
  have HTb0 := hide (show wb0.heap[w7.heap.size + 1]? = some (.cells #[.int .i64 0] 3 (0, 0)) by rw [hwb0]; exact alloc2_new w7 _ _)
  clear hwb0 HGC HG7C HOC HG5 HG6 HG4 HG4b HG3 HG3b HG2 HG1 b0 b1 b2 b3
  refine loop_three ?_
  intro K1 hK1
  have HK1 := hide hK1
  clear hK1
  have HGk0 := hide (gb_trans HGb0.out (gb_alloc (gb_refl wb0 none) (.cells #[.int .i64 0] 3)) (.inl rfl))
  have t0 : wb0.cell? ⟨w7.heap.size + 1, 0, none⟩ = some (.int .i64 0) := by rw [blk_cell HTb0.out]; rfl
  obtain ⟨b0, b1, b2, b3⟩ := HC.out.gb HGk0.out
  go_wp2_with (go_at_call 28; refine (HEA.out _ HGk0.out).mono ?_; rintro e w90 ⟨bk0, f0, rfl, hea, hnew, hg9⟩; have HEK0 := hide hea; have HNW0 := hide hnew; have HG90 := hide hg9; clear hea hnew hg9)
  clear b0 b1 b2 b3 t0
  have HB90 := hide (gb_trans (gb_alloc (gb_refl wb0 none) (.cells #[.int .i64 0] 3)) HG90.out (.inl rfl))
  have HKS0 := hide (show wb0.heap.size + 1 ≤ w90.heap.size by have h1 := HG90.out.size; simpa using h1)
  have HKB0 := hide (show w90.heap[wb0.heap.size]? = some (.cells #[.int .i64 0] 3 (0, 0)) from (HG90.out.block _ (by simp) (by simp)).trans (heap_alloc_new wb0 _))
  have HNX0 := hide (show ∀ b ∈ bk0 :: f0, wb0.heap.size + 1 ≤ b ∧ b < w90.heap.size from fun b hb => by have h1 := HNW0.out b hb; simp at h1; exact h1)
  have HWK0 := hide (show wa.heap.size ≤ wb0.heap.size from HGb0.out.size)
  refine wp_rangeFunc_brk (gf := 57) (lb := #[.pointer (some ⟨bk0, 0, none⟩)]) rfl (enters_of Try.func57 (by kernel_rfl) rfl) (each_seq v HK.out (by have := HT.out; omega) w90 bk0 f0 HEK0.out (fun b hb => (HNX0.out b hb).2)) (gb_refl w90 none) (fun _ => rfl) 2
    (AsI w90 wb0.heap.size) (fun W => w90.grownBy W (some wb0.heap.size)) ?hI0 ?hJ0 ?hKp0 ?h00 ?hround0 ?hfin0
  case hI0 =>
    rintro i A B ⟨h1, h2⟩ _ h3
    have h4 := HKS0.out
    exact ⟨gb_trans h1 h3 (.inr (.inr ⟨_, rfl, Nat.le_succ _⟩)), (h3.block _ (blk_lt h2) (by intro e; injection e with e; omega)).trans h2⟩
  case hJ0 => exact fun A B h1 h3 => gb_trans h1 h3 (.inr (.inr ⟨_, rfl, Nat.le_succ _⟩))
  case hKp0 =>
    rintro A B C ⟨h1, h2⟩ ⟨r, hr⟩ h3
    have h4 := blk_lt hr
    refine ⟨Nat.le_trans h1 h3.size, fun b hb => ?_⟩
    have h5 := (HNX0.out b hb).2
    exact (h3.block b (by omega) (by intro e; injection e with e; omega)).trans (h2 b hb)
  case h00 =>
    intro B h1 h2
    have h4 := HKS0.out
    exact ⟨gb_some h1 _, (h1.block _ (by omega) (by simp)).trans HKB0.out⟩
  case hround0 =>
    rintro j ⟨xi, xc⟩ W0 W ⟨hgi, hki⟩ hgr hlt ⟨hxi, z, xA', xk, yA', yk, zA', zk, g, hat, hxc, hov, hgb, hgd⟩ hsz hla
    simp only at hxi hxc
    subst hxi hxc
    have hcl := Vl.count_le v.depth v (Nat.le_refl _)
    have hxl : xi < 70000 := by have := HT.out; omega
    have hty : z.tot ≤ 1100000 := by have h1 := atF_tot _ _ _ _ hat; have := HT.out; omega
    have HTY := hide hty
    have hix : (xi : Int) + 1 ≤ 9223372036854775807 := by omega
    have HGI := hide hgi
    have HKI := hide hki
    have HGR := hide hgr
    have HAT := hide hat
    have HOV := hide hov
    have HGB := hide hgb
    have HSW := hide hsz
    have HLA := hide hla
    clear hgi hki hgr hlt hat hov hgb hsz hla hgd hcl hxl hty
    gi_wp2
    have hs0 := HSW.out
    have hs1 := HGR.out.size
    refine ⟨Keep2.of_gb (gb_alloc (gb_refl W none) _) (by omega), fun w₂ hgl hl2 => ?_⟩
    have hga := gb_alloc (gb_refl W none) (.cells #[.int .i64 z.t, .slice xA' z.n.length xk, .slice yA' z.s.length yk, .slice zA' z.l.length zk] 26)
    have hsA : (W.alloc (.cells #[.int .i64 z.t, .slice xA' z.n.length xk, .slice yA' z.s.length yk, .slice zA' z.l.length zk] 26)).heap.size = W.heap.size + 1 := by simp
    have hks := HKS0.out
    have hkb : ∀ b, b < W.heap.size + 1 → b ≠ w90.heap.size + 1 → w₂.heap[b]? = (W.alloc (.cells #[.int .i64 z.t, .slice xA' z.n.length xk, .slice yA' z.s.length yk, .slice zA' z.l.length zk] 26)).heap[b]? := fun b h1 h2 => hgl.block b (by omega) (by intro e; injection e with e; exact h2 e)
    have hbx := (hkb W.heap.size (by omega) (by omega)).trans (heap_alloc_new W _)
    have d0 : w₂.cell? ⟨W.heap.size, 0, none⟩ = some (.int .i64 z.t) := by rw [blk_cell hbx]; rfl
    have d1 : w₂.cell? ⟨W.heap.size, 1, none⟩ = some (.slice xA' z.n.length xk) := by rw [blk_cell hbx]; rfl
    have d2 : w₂.cell? ⟨W.heap.size, 2, none⟩ = some (.slice yA' z.s.length yk) := by rw [blk_cell hbx]; rfl
    have d3 : w₂.cell? ⟨W.heap.size, 3, none⟩ = some (.slice zA' z.l.length zk) := by rw [blk_cell hbx]; rfl
    have HOV2 := hide (show VOw w₂ z [.int .i64 z.t, .slice xA' z.n.length xk, .slice yA' z.s.length yk, .slice zA' z.l.length zk] g from VOw.keep _ _ _ (HOV.out.gb hga) fun b hb => hkb b (by have := VOw.lt _ _ _ HOV.out b hb; omega) (by have := HGB.out b hb; omega))
    have hWk : w90.grownBy W (some wb0.heap.size) := gb_trans HGI.out HGR.out (.inr (.inl rfl))
    have h92 : w90.grownBy w₂ (some wb0.heap.size) := gb_trans (gb_trans hWk hga (.inr (.inl rfl))) hgl (.inr (.inr ⟨_, rfl, Nat.le_succ _⟩))
    have hb2 : wb0.grownBy w₂ none := gb_trans HB90.out h92 (.inr (.inr ⟨_, rfl, Nat.le_refl _⟩))
    have hk2 : w₂.heap[wb0.heap.size]? = some (.cells #[.int .i64 (xi : Int)] 3 (0, 0)) := by
      have h1 := blk_lt HKI.out
      rw [hkb _ (by omega) (by omega), hga.block _ (by omega) (by simp), HGR.out.block _ h1 (by simp)]
      exact HKI.out
    have HGA2 := hide (show wa.grownBy w₂ none from gb_trans HGb0.out hb2 (.inl rfl))
    obtain ⟨b0, b1, b2, b3⟩ := HC.out.gb HGA2.out
    have t0 : w₂.cell? ⟨w7.heap.size + 1, 0, none⟩ = some (.int .i64 0) := by rw [blk_cell ((hb2.block _ (blk_lt HTb0.out) (by simp)).trans HTb0.out)]; rfl
    have k0 : w₂.cell? ⟨wb0.heap.size, 0, none⟩ = some (.int .i64 (xi : Int)) := by rw [blk_cell hk2]; rfl
    have har := rAtU v HOK.out (xi : Int) w₂ w₂.heap.size nA nc sA sc lA lc HT.out (Nat.le_refl _) ((HV.out.gb HGA2.out (Nat.le_refl _)).up HGA2.out.size)
    rw [HAT.out] at har
    have HAR2 := hide (show Calls Try.prog 11 #[.agg #[.int .i64 v.t, .slice nA v.n.length nc, .slice sA v.s.length sc, .slice lA v.l.length lc], .int .i64 (xi : Int)] w₂ (AtU z 0 w₂) from har)
    have HZV := hide (HOV2.out.vb)
    have HK2 := hide hk2
    have HB2 := hide hb2
    have H92 := hide h92
    have HKW := hide (show ∀ b, b ∈ bk0 :: f0 → w₂.heap[b]? = W.heap[b]? from fun b hb => by
      have h1 := (HNX0.out b hb).2
      rw [hkb b (by omega) (by omega)]
      exact hga.block b (by omega) (by simp))
    have HWS := hide (show W.heap.size ≤ w₂.heap.size by have := hgl.size; omega)
    have HS2 := hide (show w90.heap.size + 2 ≤ w₂.heap.size by have := hgl.size; omega)
    have hne1 : wb0.heap.size ≠ w7.heap.size + 1 := by have := blk_lt HTb0.out; omega
    have hne2 : w7.heap.size + 1 ≠ wb0.heap.size := fun e => hne1 e.symm
    clear hbx hkb hsA hga hgl hl2 hs0 hs1 hks hWk h92 hb2 hk2 har
    clear HEA HCL
    have HSM2 := hide (fun (pA : Option Addr) (pc : Nat) (qA : Option Addr) (qc : Nat) (rA : Option Addr) (rc : Nat) (w6 : World) (k : w₂.grownBy w6 none) (hz : VB w6 w6.heap.size z pA pc qA qc rA rc) => (show Calls Try.prog 12 #[.agg #[.int .i64 z.t, .slice xA' z.n.length xk, .slice yA' z.s.length yk, .slice zA' z.l.length zk], .agg #[.int .i64 z.t, .slice pA z.n.length pc, .slice qA z.s.length qc, .slice rA z.l.length rc]] w6 fun e w' => e = .returned (.bool true) ∧ w6.grownBy w' none from by
      have h1 := same_any z z w6 w6.heap.size xA' xk yA' yk zA' zk pA pc qA qc rA rc HTY.out HTY.out (Nat.le_refl _) ((HZV.out.gb k (Nat.le_refl _)).up k.size) hz
      rw [Vl.same_refl] at h1
      exact h1))
    by_cases h21 : xi = 1
    · subst h21
      clear hix
      gi_wp2_with (first
        | (gi_at_call 11; refine (callsIn_round HAR2.out).mono ?_; rintro e w5' ⟨pA, pc, qA, qc, rA, rc, rfl, hz5, hg5⟩; have hg6 := gb_trans hg5 (gb_alloc (gb_refl w5' none) (.cells #[.int .i64 z.t, .slice pA z.n.length pc, .slice qA z.s.length qc, .slice rA z.l.length rc] 26)) (.inl rfl); have HG6 := hide hg6; have HZ6 := hide ((hz5.gb (gb_alloc (gb_refl w5' none) (.cells #[.int .i64 z.t, .slice pA z.n.length pc, .slice qA z.s.length qc, .slice rA z.l.length rc] 26)) (Nat.le_refl _)).up (gb_alloc (gb_refl w5' none) (.cells #[.int .i64 z.t, .slice pA z.n.length pc, .slice qA z.s.length qc, .slice rA z.l.length rc] 26)).size); have d0 := cell_gb d0 hg6; have d1 := cell_gb d1 hg6; have d2 := cell_gb d2 hg6; have d3 := cell_gb d3 hg6; have t0 := cell_gb t0 hg6; have k0 := cell_gb k0 hg6; clear hz5 hg5 hg6 b0 b1 b2 b3)
        | (gi_at_call 12; refine (callsIn_round (HSM2.out _ _ _ _ _ _ _ HG6.out HZ6.out)).mono ?_; rintro e w6' ⟨rfl, hg7⟩; have HG7' := hide (gb_trans HG6.out hg7 (.inl rfl)); have t0 := cell_gb t0 hg7; have k0 := cell_gb k0 hg7; have hk6 := (HG7'.out.block _ (blk_lt HK2.out) (by simp)).trans HK2.out; have zk := blk_frozen hk6 0; have HK6 := hide hk6; clear hk6 hg7 d0 d1 d2 d3))
      have HFIN := hide (show ∀ u, Keep2 w90.heap.size w₂ (w6'.setCell ⟨wb0.heap.size, 0, none⟩ u) ∧ KeptB (bk0 :: f0) W (w6'.setCell ⟨wb0.heap.size, 0, none⟩ u) ∧ w90.grownBy (w6'.setCell ⟨wb0.heap.size, 0, none⟩ u) (some wb0.heap.size) ∧ (w6'.setCell ⟨wb0.heap.size, 0, none⟩ u).heap[wb0.heap.size]? = some (.cells #[u] 3 (0, 0)) from fun u => by
        have hgx : w₂.grownBy (w6'.setCell ⟨wb0.heap.size, 0, none⟩ u) (some wb0.heap.size) := gb_setCell (gb_some HG7'.out _) (.inl rfl) u
        have h1 := HS2.out
        have h2 := HKS0.out
        refine ⟨⟨hgx.size, hgx.block _ (by omega) (by intro e; injection e with e; omega), hgx.block _ (by omega) (by intro e; injection e with e; omega)⟩, ⟨Nat.le_trans HWS.out hgx.size, fun b hb => ?_⟩, gb_trans H92.out hgx (.inl rfl), ?_⟩
        · have h3 := HNX0.out b hb
          exact (hgx.block b (by omega) (by intro e; injection e with e; omega)).trans (HKW.out b hb)
        · have h4 := blk_set HK6.out 0 u
          rw [List.setIfInBounds_toArray] at h4
          exact h4)
      exact ⟨(HFIN.out _).1, rfl, (HFIN.out _).2.2.1⟩
    · have e2 : ((xi : Int) + 1 == 2) = false := int_beq_f (by omega)
      clear h21
      gi_wp2_with (first
        | (gi_at_call 11; refine (callsIn_round HAR2.out).mono ?_; rintro e w5' ⟨pA, pc, qA, qc, rA, rc, rfl, hz5, hg5⟩; have hg6 := gb_trans hg5 (gb_alloc (gb_refl w5' none) (.cells #[.int .i64 z.t, .slice pA z.n.length pc, .slice qA z.s.length qc, .slice rA z.l.length rc] 26)) (.inl rfl); have HG6 := hide hg6; have HZ6 := hide ((hz5.gb (gb_alloc (gb_refl w5' none) (.cells #[.int .i64 z.t, .slice pA z.n.length pc, .slice qA z.s.length qc, .slice rA z.l.length rc] 26)) (Nat.le_refl _)).up (gb_alloc (gb_refl w5' none) (.cells #[.int .i64 z.t, .slice pA z.n.length pc, .slice qA z.s.length qc, .slice rA z.l.length rc] 26)).size); have d0 := cell_gb d0 hg6; have d1 := cell_gb d1 hg6; have d2 := cell_gb d2 hg6; have d3 := cell_gb d3 hg6; have t0 := cell_gb t0 hg6; have k0 := cell_gb k0 hg6; clear hz5 hg5 hg6 b0 b1 b2 b3)
        | (gi_at_call 12; refine (callsIn_round (HSM2.out _ _ _ _ _ _ _ HG6.out HZ6.out)).mono ?_; rintro e w6' ⟨rfl, hg7⟩; have HG7' := hide (gb_trans HG6.out hg7 (.inl rfl)); have t0 := cell_gb t0 hg7; have k0 := cell_gb k0 hg7; have hk6 := (HG7'.out.block _ (blk_lt HK2.out) (by simp)).trans HK2.out; have zk := blk_frozen hk6 0; have HK6 := hide hk6; clear hk6 hg7 d0 d1 d2 d3))
      have HFIN := hide (show ∀ u, Keep2 w90.heap.size w₂ (w6'.setCell ⟨wb0.heap.size, 0, none⟩ u) ∧ KeptB (bk0 :: f0) W (w6'.setCell ⟨wb0.heap.size, 0, none⟩ u) ∧ w90.grownBy (w6'.setCell ⟨wb0.heap.size, 0, none⟩ u) (some wb0.heap.size) ∧ (w6'.setCell ⟨wb0.heap.size, 0, none⟩ u).heap[wb0.heap.size]? = some (.cells #[u] 3 (0, 0)) from fun u => by
        have hgx : w₂.grownBy (w6'.setCell ⟨wb0.heap.size, 0, none⟩ u) (some wb0.heap.size) := gb_setCell (gb_some HG7'.out _) (.inl rfl) u
        have h1 := HS2.out
        have h2 := HKS0.out
        refine ⟨⟨hgx.size, hgx.block _ (by omega) (by intro e; injection e with e; omega), hgx.block _ (by omega) (by intro e; injection e with e; omega)⟩, ⟨Nat.le_trans HWS.out hgx.size, fun b hb => ?_⟩, gb_trans H92.out hgx (.inl rfl), ?_⟩
        · have h3 := HNX0.out b hb
          exact (hgx.block b (by omega) (by intro e; injection e with e; omega)).trans (HKW.out b hb)
        · have h4 := blk_set HK6.out 0 u
          rw [List.setIfInBounds_toArray] at h4
          exact h4)
      exact ⟨(HFIN.out _).1, (HFIN.out _).2.1, (HFIN.out _).2.2.1, (HFIN.out _).2.2.2⟩
  case hfin0 =>
    rintro wf0 hIJ hsw hdef
    have hgw : w90.grownBy wf0 (some wb0.heap.size) := by
      rcases hIJ with ⟨h, _⟩ | h
      · exact h
      · exact h
    have hbW : wb0.grownBy wf0 none := gb_trans HB90.out hgw (.inr (.inr ⟨_, rfl, Nat.le_refl _⟩))
    have HT0 := hide (show wf0.cell? ⟨w7.heap.size + 1, 0, none⟩ = some (.int .i64 0) by rw [blk_cell ((hbW.block _ (blk_lt HTb0.out) (by simp)).trans HTb0.out)]; rfl)
    have HBW0 := hide hbW
    have HDF0 := hide hdef
    have HSW0 := hide hsw
    clear hIJ hsw hdef hgw hbW
    go_wp2_with fail
    refine wp_region_facts' 7 (by kernel_rfl) (by kernel_rfl) ?_
    intro A O W L HA HO HW HL
    simp only [List.take_succ_cons, List.take_zero]
    have HS := hide (show A.tmps.size = 146 by rw [HA.out]; rfl)
    have HGW := hide (show wf0.grownBy W none by rw [HW.out]; exact gb_drew (gb_refl wf0 none))
    have A10 := hide (show A.eval (.tmp 10) = .pointer (some ⟨w7.heap.size + 1, 0, none⟩) by rw [HA.out]; rfl)
    -- slot 131
    refine wpFacts_lit (.int .i64 0) rfl ?_ ?_
    · intro aq wq hw hl
      have e10 : aq.tmps[10]?.getD undef = .pointer (some ⟨w7.heap.size + 1, 0, none⟩) := (hl 10 (by first | (simp [Op.operands]; done) | simp [Op.operands, Call.operands]) (by rw [HS.out]; decide)).trans A10.out
      have c0 := cell_gb HT0.out (gb_trans HGW.out hw (.inl rfl))
      clear hl
      go_simp
    -- slot 132
    refine wpFacts_lit (.bool false) rfl ?_ ?_
    · intro aq wq hw hl
      have e131 : aq.tmps[131]?.getD undef = .int .i64 0 := hl 131 (by first | (simp [Op.operands]; done) | simp [Op.operands, Call.operands]) (by rw [HS.out]; decide)
      clear hl
      go_simp
    -- slot 133
    refine wpFacts_lit (.bool false) rfl ?_ ?_
    · intro aq wq hw hl
      have e132 : aq.tmps[132]?.getD undef = .bool false := hl 132 (by first | (simp [Op.operands]; done) | simp [Op.operands, Call.operands]) (by rw [HS.out]; decide)
      clear hl
      go_simp
    -- slot 134
    refine wpFacts_skip 2 true 133 rfl (by rw [HO.out]; rfl) (by rw [HS.out]; decide) (fun _ _ h => h) ?_
    -- slot 135
    refine wpFacts_skip 2 true 133 rfl (by rw [HO.out]; rfl) (by rw [HS.out]; decide) (fun _ _ h => h) ?_
    -- slot 136
    refine wpFacts_skip 2 true 133 rfl (by rw [HO.out]; rfl) (by rw [HS.out]; decide) (fun _ _ h => h) ?_
    -- slot 137
    refine wpFacts_skip 2 true 133 rfl (by rw [HO.out]; rfl) (by rw [HS.out]; decide) (fun _ _ h => h) ?_
    refine HL.out _ (fun a' wg0 hc => ?_)
    have e133 : a'.eval (.tmp 133) = .bool false := hc.fact 133 (by rw [HS.out]; decide)
    have e137 : a'.eval (.tmp 137) = undef := hc.fact 137 (by rw [HS.out]; decide)
    have hgwg0 := gb_trans HGW.out hc.grown (.inl rfl)
    have hfr := hc.frame [131, 132, 133, 134, 135, 136, 137, 138] (by rw [HO.out]; kernel_rfl)
    rw [hfr]
    clear hfr hc
    rw [HA.out]
    clear HA HO HL HW HS HGW A10
    clear A O W L
    simp only [List.drop_succ_cons, List.drop_zero, List.foldl_cons, List.foldl_nil, Act.put, List.setIfInBounds_toArray, List.set_cons_succ, List.set_cons_zero]
    rw [e133, e137]
    generalize a'.eval (.tmp 131) = x131
    generalize a'.eval (.tmp 132) = x132
    generalize a'.eval (.tmp 134) = x134
    generalize a'.eval (.tmp 135) = x135
    generalize a'.eval (.tmp 136) = x136
    generalize a'.eval (.tmp 138) = x138
    clear e133 e137
    clear a'
    have HBG0 := hide (gb_trans HBW0.out hgwg0 (.inl rfl))
    have HDG0 := hide ((hgwg0.block _ (by have := HSW0.out; omega) (by simp)).trans HDF0.out)
    have t0 := cell_gb HT0.out hgwg0
    clear hgwg0 HT0
    go_wp2_with fail
    obtain ⟨wb1, hwb1⟩ : ∃ wb1, wb1 = wg0.alloc (.cells #[.int .i64 1] 3) := ⟨_, rfl⟩
    have hgb1 : wg0.grownBy wb1 none := by rw [hwb1]; exact gb_alloc (gb_refl wg0 none) _
    have HTb1 := hide (show wb1.heap[wg0.heap.size]? = some (.cells #[.int .i64 1] 3 (0, 0)) by rw [hwb1]; exact heap_alloc_new wg0 _)
    have HB01 := hide (gb_trans HBG0.out hgb1 (.inl rfl))
    have HGb1 := hide (gb_trans HGb0.out HB01.out (.inl rfl))
    have HDB1 := hide ((hgb1.block _ (blk_lt HDG0.out) (by simp)).trans HDG0.out)
    rw [← hwb1]
    clear hwb1 hgb1 t0 HBG0 HDG0 HBW0 HDF0 HSW0 HGk0 HEK0 HNW0 HG90 HB90 HKB0 HNX0
    refine HK1.out _ _ ?_
    clear HK1
    intro KQ2 hKQ2
    have HKQ2 := hide hKQ2
    clear hKQ2
    have HGk1 := hide (gb_trans HGb1.out (gb_alloc (gb_refl wb1 none) (.cells #[.int .i64 0] 3)) (.inl rfl))
    have t0 : wb1.cell? ⟨wg0.heap.size, 0, none⟩ = some (.int .i64 1) := by rw [blk_cell HTb1.out]; rfl
    obtain ⟨b0, b1, b2, b3⟩ := HC.out.gb HGk1.out
    go_wp2_with (go_at_call 28; refine (HEA.out _ HGk1.out).mono ?_; rintro e w91 ⟨bk1, f1, rfl, hea, hnew, hg9⟩; have HEK1 := hide hea; have HNW1 := hide hnew; have HG91 := hide hg9; clear hea hnew hg9)
    clear b0 b1 b2 b3 t0
    have HB91 := hide (gb_trans (gb_alloc (gb_refl wb1 none) (.cells #[.int .i64 0] 3)) HG91.out (.inl rfl))
    have HKS1 := hide (show wb1.heap.size + 1 ≤ w91.heap.size by have h1 := HG91.out.size; simpa using h1)
    have HKB1 := hide (show w91.heap[wb1.heap.size]? = some (.cells #[.int .i64 0] 3 (0, 0)) from (HG91.out.block _ (by simp) (by simp)).trans (heap_alloc_new wb1 _))
    have HNX1 := hide (show ∀ b ∈ bk1 :: f1, wb1.heap.size + 1 ≤ b ∧ b < w91.heap.size from fun b hb => by have h1 := HNW1.out b hb; simp at h1; exact h1)
    have HWK1 := hide (show wa.heap.size ≤ wb1.heap.size from HGb1.out.size)
    refine wp_rangeFunc_brk (gf := 57) (lb := #[.pointer (some ⟨bk1, 0, none⟩)]) rfl (enters_of Try.func57 (by kernel_rfl) rfl) (each_seq v HK.out (by have := HT.out; omega) w91 bk1 f1 HEK1.out (fun b hb => (HNX1.out b hb).2)) (gb_refl w91 none) (fun _ => rfl) 2
      (AsI w91 wb1.heap.size) (fun _ => False) ?hI1 ?hJ1 ?hKp1 ?h01 ?hround1 ?hfin1
    case hI1 =>
      rintro i A B ⟨h1, h2⟩ _ h3
      have h4 := HKS1.out
      exact ⟨gb_trans h1 h3 (.inr (.inr ⟨_, rfl, Nat.le_succ _⟩)), (h3.block _ (blk_lt h2) (by intro e; injection e with e; omega)).trans h2⟩
    case hJ1 => exact fun _ _ h _ => h.elim
    case hKp1 =>
      rintro A B C ⟨h1, h2⟩ ⟨r, hr⟩ h3
      have h4 := blk_lt hr
      refine ⟨Nat.le_trans h1 h3.size, fun b hb => ?_⟩
      have h5 := (HNX1.out b hb).2
      exact (h3.block b (by omega) (by intro e; injection e with e; omega)).trans (h2 b hb)
    case h01 =>
      intro B h1 h2
      have h4 := HKS1.out
      exact ⟨gb_some h1 _, (h1.block _ (by omega) (by simp)).trans HKB1.out⟩
    case hround1 =>
      rintro j ⟨xi, xc⟩ W0 W ⟨hgi, hki⟩ hgr hlt ⟨hxi, z, xA', xk, yA', yk, zA', zk, g, hat, hxc, hov, hgb, hgd⟩ hsz hla
      simp only at hxi hxc
      subst hxi hxc
      have hcl := Vl.count_le v.depth v (Nat.le_refl _)
      have hxl : xi < 70000 := by have := HT.out; omega
      have hty : z.tot ≤ 1100000 := by have h1 := atF_tot _ _ _ _ hat; have := HT.out; omega
      have HTY := hide hty
      have hix : (xi : Int) + 1 ≤ 9223372036854775807 := by omega
      have HGI := hide hgi
      have HKI := hide hki
      have HGR := hide hgr
      have HAT := hide hat
      have HOV := hide hov
      have HGB := hide hgb
      have HSW := hide hsz
      have HLA := hide hla
      clear hgi hki hgr hlt hat hov hgb hsz hla hgd hcl hxl hty
      gi_wp2
      have hs0 := HSW.out
      have hs1 := HGR.out.size
      refine ⟨Keep2.of_gb (gb_alloc (gb_refl W none) _) (by omega), fun w₂ hgl hl2 => ?_⟩
      have hga := gb_alloc (gb_refl W none) (.cells #[.int .i64 z.t, .slice xA' z.n.length xk, .slice yA' z.s.length yk, .slice zA' z.l.length zk] 26)
      have hsA : (W.alloc (.cells #[.int .i64 z.t, .slice xA' z.n.length xk, .slice yA' z.s.length yk, .slice zA' z.l.length zk] 26)).heap.size = W.heap.size + 1 := by simp
      have hks := HKS1.out
      have hkb : ∀ b, b < W.heap.size + 1 → b ≠ w91.heap.size + 1 → w₂.heap[b]? = (W.alloc (.cells #[.int .i64 z.t, .slice xA' z.n.length xk, .slice yA' z.s.length yk, .slice zA' z.l.length zk] 26)).heap[b]? := fun b h1 h2 => hgl.block b (by omega) (by intro e; injection e with e; exact h2 e)
      have hbx := (hkb W.heap.size (by omega) (by omega)).trans (heap_alloc_new W _)
      have d0 : w₂.cell? ⟨W.heap.size, 0, none⟩ = some (.int .i64 z.t) := by rw [blk_cell hbx]; rfl
      have d1 : w₂.cell? ⟨W.heap.size, 1, none⟩ = some (.slice xA' z.n.length xk) := by rw [blk_cell hbx]; rfl
      have d2 : w₂.cell? ⟨W.heap.size, 2, none⟩ = some (.slice yA' z.s.length yk) := by rw [blk_cell hbx]; rfl
      have d3 : w₂.cell? ⟨W.heap.size, 3, none⟩ = some (.slice zA' z.l.length zk) := by rw [blk_cell hbx]; rfl
      have HOV2 := hide (show VOw w₂ z [.int .i64 z.t, .slice xA' z.n.length xk, .slice yA' z.s.length yk, .slice zA' z.l.length zk] g from VOw.keep _ _ _ (HOV.out.gb hga) fun b hb => hkb b (by have := VOw.lt _ _ _ HOV.out b hb; omega) (by have := HGB.out b hb; omega))
      have hWk : w91.grownBy W (some wb1.heap.size) := gb_trans HGI.out HGR.out (.inr (.inl rfl))
      have h92 : w91.grownBy w₂ (some wb1.heap.size) := gb_trans (gb_trans hWk hga (.inr (.inl rfl))) hgl (.inr (.inr ⟨_, rfl, Nat.le_succ _⟩))
      have hb2 : wb1.grownBy w₂ none := gb_trans HB91.out h92 (.inr (.inr ⟨_, rfl, Nat.le_refl _⟩))
      have hk2 : w₂.heap[wb1.heap.size]? = some (.cells #[.int .i64 (xi : Int)] 3 (0, 0)) := by
        have h1 := blk_lt HKI.out
        rw [hkb _ (by omega) (by omega), hga.block _ (by omega) (by simp), HGR.out.block _ h1 (by simp)]
        exact HKI.out
      have HGA2 := hide (show wa.grownBy w₂ none from gb_trans HGb1.out hb2 (.inl rfl))
      obtain ⟨b0, b1, b2, b3⟩ := HC.out.gb HGA2.out
      have t0 : w₂.cell? ⟨wg0.heap.size, 0, none⟩ = some (.int .i64 1) := by rw [blk_cell ((hb2.block _ (blk_lt HTb1.out) (by simp)).trans HTb1.out)]; rfl
      have k0 : w₂.cell? ⟨wb1.heap.size, 0, none⟩ = some (.int .i64 (xi : Int)) := by rw [blk_cell hk2]; rfl
      have har := rAtU v HOK.out (xi : Int) w₂ w₂.heap.size nA nc sA sc lA lc HT.out (Nat.le_refl _) ((HV.out.gb HGA2.out (Nat.le_refl _)).up HGA2.out.size)
      rw [HAT.out] at har
      have HAR2 := hide (show Calls Try.prog 11 #[.agg #[.int .i64 v.t, .slice nA v.n.length nc, .slice sA v.s.length sc, .slice lA v.l.length lc], .int .i64 (xi : Int)] w₂ (AtU z 0 w₂) from har)
      have HZV := hide (HOV2.out.vb)
      have HK2 := hide hk2
      have HB2 := hide hb2
      have H92 := hide h92
      have HKW := hide (show ∀ b, b ∈ bk1 :: f1 → w₂.heap[b]? = W.heap[b]? from fun b hb => by
        have h1 := (HNX1.out b hb).2
        rw [hkb b (by omega) (by omega)]
        exact hga.block b (by omega) (by simp))
      have HWS := hide (show W.heap.size ≤ w₂.heap.size by have := hgl.size; omega)
      have HS2 := hide (show w91.heap.size + 2 ≤ w₂.heap.size by have := hgl.size; omega)
      have hne1 : wb1.heap.size ≠ wg0.heap.size := by have := blk_lt HTb1.out; omega
      have hne2 : wg0.heap.size ≠ wb1.heap.size := fun e => hne1 e.symm
      clear hbx hkb hsA hga hgl hl2 hs0 hs1 hks hWk h92 hb2 hk2 har
      clear HEA HCL
      have HSM2 := hide (fun (pA : Option Addr) (pc : Nat) (qA : Option Addr) (qc : Nat) (rA : Option Addr) (rc : Nat) (w6 : World) (k : w₂.grownBy w6 none) (hz : VB w6 w6.heap.size z pA pc qA qc rA rc) => (show Calls Try.prog 12 #[.agg #[.int .i64 z.t, .slice xA' z.n.length xk, .slice yA' z.s.length yk, .slice zA' z.l.length zk], .agg #[.int .i64 z.t, .slice pA z.n.length pc, .slice qA z.s.length qc, .slice rA z.l.length rc]] w6 fun e w' => e = .returned (.bool true) ∧ w6.grownBy w' none from by
        have h1 := same_any z z w6 w6.heap.size xA' xk yA' yk zA' zk pA pc qA qc rA rc HTY.out HTY.out (Nat.le_refl _) ((HZV.out.gb k (Nat.le_refl _)).up k.size) hz
        rw [Vl.same_refl] at h1
        exact h1))
      gi_wp2_with (first
        | (gi_at_call 11; refine (callsIn_round HAR2.out).mono ?_; rintro e w5' ⟨pA, pc, qA, qc, rA, rc, rfl, hz5, hg5⟩; have hg6 := gb_trans hg5 (gb_alloc (gb_refl w5' none) (.cells #[.int .i64 z.t, .slice pA z.n.length pc, .slice qA z.s.length qc, .slice rA z.l.length rc] 26)) (.inl rfl); have HG6 := hide hg6; have HZ6 := hide ((hz5.gb (gb_alloc (gb_refl w5' none) (.cells #[.int .i64 z.t, .slice pA z.n.length pc, .slice qA z.s.length qc, .slice rA z.l.length rc] 26)) (Nat.le_refl _)).up (gb_alloc (gb_refl w5' none) (.cells #[.int .i64 z.t, .slice pA z.n.length pc, .slice qA z.s.length qc, .slice rA z.l.length rc] 26)).size); have d0 := cell_gb d0 hg6; have d1 := cell_gb d1 hg6; have d2 := cell_gb d2 hg6; have d3 := cell_gb d3 hg6; have t0 := cell_gb t0 hg6; have k0 := cell_gb k0 hg6; clear hz5 hg5 hg6 b0 b1 b2 b3)
        | (gi_at_call 12; refine (callsIn_round (HSM2.out _ _ _ _ _ _ _ HG6.out HZ6.out)).mono ?_; rintro e w6' ⟨rfl, hg7⟩; have HG7' := hide (gb_trans HG6.out hg7 (.inl rfl)); have t0 := cell_gb t0 hg7; have k0 := cell_gb k0 hg7; have hk6 := (HG7'.out.block _ (blk_lt HK2.out) (by simp)).trans HK2.out; have zk := blk_frozen hk6 0; have HK6 := hide hk6; clear hk6 hg7 d0 d1 d2 d3))
      have HFIN := hide (show ∀ u, Keep2 w91.heap.size w₂ (w6'.setCell ⟨wb1.heap.size, 0, none⟩ u) ∧ KeptB (bk1 :: f1) W (w6'.setCell ⟨wb1.heap.size, 0, none⟩ u) ∧ w91.grownBy (w6'.setCell ⟨wb1.heap.size, 0, none⟩ u) (some wb1.heap.size) ∧ (w6'.setCell ⟨wb1.heap.size, 0, none⟩ u).heap[wb1.heap.size]? = some (.cells #[u] 3 (0, 0)) from fun u => by
        have hgx : w₂.grownBy (w6'.setCell ⟨wb1.heap.size, 0, none⟩ u) (some wb1.heap.size) := gb_setCell (gb_some HG7'.out _) (.inl rfl) u
        have h1 := HS2.out
        have h2 := HKS1.out
        refine ⟨⟨hgx.size, hgx.block _ (by omega) (by intro e; injection e with e; omega), hgx.block _ (by omega) (by intro e; injection e with e; omega)⟩, ⟨Nat.le_trans HWS.out hgx.size, fun b hb => ?_⟩, gb_trans H92.out hgx (.inl rfl), ?_⟩
        · have h3 := HNX1.out b hb
          exact (hgx.block b (by omega) (by intro e; injection e with e; omega)).trans (HKW.out b hb)
        · have h4 := blk_set HK6.out 0 u
          rw [List.setIfInBounds_toArray] at h4
          exact h4)
      exact ⟨(HFIN.out _).1, (HFIN.out _).2.1, (HFIN.out _).2.2.1, (HFIN.out _).2.2.2⟩
    case hfin1 =>
      rintro wf1 hIJ hsw hdef
      obtain ⟨hgw, hkw⟩ : AsI w91 wb1.heap.size v.count wf1 := by
        rcases hIJ with h | h
        · exact h
        · exact h.elim
      rw [HCN.out] at hkw
      have hbW : wb1.grownBy wf1 none := gb_trans HB91.out hgw (.inr (.inr ⟨_, rfl, Nat.le_refl _⟩))
      have HT0 := hide (show wf1.cell? ⟨wg0.heap.size, 0, none⟩ = some (.int .i64 1) by rw [blk_cell ((hbW.block _ (blk_lt HTb1.out) (by simp)).trans HTb1.out)]; rfl)
      have HK0 := hide (show wf1.cell? ⟨wb1.heap.size, 0, none⟩ = some (.int .i64 (cn : Nat)) by rw [blk_cell hkw]; rfl)
      have HGW1 := hide (gb_trans HGb1.out hbW (.inl rfl))
      have HCW := hide (HC.out.gb HGW1.out)
      have HBW1 := hide hbW
      have HDF1 := hide hdef
      have HSW1 := hide hsw
      clear hIJ hsw hdef hgw hbW hkw
      go_wp2_with fail
      refine wp_region_facts' 7 (by kernel_rfl) (by kernel_rfl) ?_
      intro A O W L HA HO HW HL
      simp only [List.take_succ_cons, List.take_zero]
      have HS := hide (show A.tmps.size = 146 by rw [HA.out]; rfl)
      have HGW := hide (show wf1.grownBy W none by rw [HW.out]; exact gb_drew (gb_refl wf1 none))
      have A10 := hide (show A.eval (.tmp 10) = .pointer (some ⟨wg0.heap.size, 0, none⟩) by rw [HA.out]; rfl)
      have A11 := hide (show A.eval (.tmp 11) = .pointer (some ⟨wb1.heap.size, 0, none⟩) by rw [HA.out]; rfl)
      have A2 := hide (show A.eval (.tmp 2) = .pointer (some ⟨w.heap.size, 0, none⟩) by rw [HA.out]; rfl)
      -- slot 131
      refine wpFacts_lit (.int .i64 1) rfl ?_ ?_
      · intro aq wq hw hl
        have e10 : aq.tmps[10]?.getD undef = .pointer (some ⟨wg0.heap.size, 0, none⟩) := (hl 10 (by first | (simp [Op.operands]; done) | simp [Op.operands, Call.operands]) (by rw [HS.out]; decide)).trans A10.out
        have c0 := cell_gb HT0.out (gb_trans HGW.out hw (.inl rfl))
        clear hl
        go_simp
      -- slot 132
      refine wpFacts_lit (.bool true) rfl ?_ ?_
      · intro aq wq hw hl
        have e131 : aq.tmps[131]?.getD undef = .int .i64 1 := hl 131 (by first | (simp [Op.operands]; done) | simp [Op.operands, Call.operands]) (by rw [HS.out]; decide)
        clear hl
        go_simp
      -- slot 133
      refine wpFacts_lit (.bool true) rfl ?_ ?_
      · intro aq wq hw hl
        have e132 : aq.tmps[132]?.getD undef = .bool true := hl 132 (by first | (simp [Op.operands]; done) | simp [Op.operands, Call.operands]) (by rw [HS.out]; decide)
        clear hl
        go_simp
      -- slot 134
      refine wpFacts_litG (.int .i64 (cn : Nat)) 2 true 133 rfl (by rw [HO.out]; rfl) (by rw [HS.out]; decide) (fun _ _ h => h) ?_ ?_
      · intro aq wq hw hl
        have e11 : aq.tmps[11]?.getD undef = .pointer (some ⟨wb1.heap.size, 0, none⟩) := (hl 11 (by first | (simp [Op.operands]; done) | simp [Op.operands, Call.operands]) (by rw [HS.out]; decide)).trans A11.out
        have c0 := cell_gb HK0.out (gb_trans HGW.out hw (.inl rfl))
        clear hl
        go_simp
      -- slot 135
      refine wpFacts_litG (.agg #[.int .i64 v.t, .slice nA v.n.length nc, .slice sA v.s.length sc, .slice lA v.l.length lc]) 2 true 133 rfl (by rw [HO.out]; rfl) (by rw [HS.out]; decide) (fun _ _ h => h) ?_ ?_
      · intro aq wq hw hl
        have e2 : aq.tmps[2]?.getD undef = .pointer (some ⟨w.heap.size, 0, none⟩) := (hl 2 (by first | (simp [Op.operands]; done) | simp [Op.operands, Call.operands]) (by rw [HS.out]; decide)).trans A2.out
        obtain ⟨c0, c1, c2, c3⟩ := HCW.out.gb (gb_trans HGW.out hw (.inl rfl))
        clear hl
        go_simp
      -- slot 136
      refine wpFacts_stepG (fun vq _ => vq = .int .i64 (cn : Nat)) 2 true 133 rfl (by rw [HO.out]; rfl) (by rw [HS.out]; decide) (fun _ _ h => h) (Lit.up _) ?_ ?_
      · intro aq wq hw hl
        have e135 : aq.tmps[135]?.getD undef = .agg #[.int .i64 v.t, .slice nA v.n.length nc, .slice sA v.s.length sc, .slice lA v.l.length lc] := hl 135 (by first | (simp [Op.operands]; done) | simp [Op.operands, Call.operands]) (by rw [HS.out]; decide)
        clear hl
        go_simp
        exact gUpon_lit (HRC.out wq (gb_trans HGW1.out (gb_trans HGW.out hw (.inl rfl)) (.inl rfl)))
      -- slot 137
      refine wpFacts_litG (.bool false) 2 true 133 rfl (by rw [HO.out]; rfl) (by rw [HS.out]; decide) (fun _ _ h => h) ?_ ?_
      · intro aq wq hw hl
        have e134 : aq.tmps[134]?.getD undef = .int .i64 (cn : Nat) := hl 134 (by first | (simp [Op.operands]; done) | simp [Op.operands, Call.operands]) (by rw [HS.out]; decide)
        have e136 : aq.tmps[136]?.getD undef = .int .i64 (cn : Nat) := hl 136 (by first | (simp [Op.operands]; done) | simp [Op.operands, Call.operands]) (by rw [HS.out]; decide)
        clear hl
        go_simp
      refine HL.out _ (fun a' wg1 hc => ?_)
      have e133 : a'.eval (.tmp 133) = .bool true := hc.fact 133 (by rw [HS.out]; decide)
      have e137 : a'.eval (.tmp 137) = .bool false := hc.fact 137 (by rw [HS.out]; decide)
      have hgwg1 := gb_trans HGW.out hc.grown (.inl rfl)
      have hfr := hc.frame [131, 132, 133, 134, 135, 136, 137, 138] (by rw [HO.out]; kernel_rfl)
      rw [hfr]
      clear hfr hc
      rw [HA.out]
      clear HA HO HL HW HS HGW A10 A11 A2
      clear A O W L
      simp only [List.drop_succ_cons, List.drop_zero, List.foldl_cons, List.foldl_nil, Act.put, List.setIfInBounds_toArray, List.set_cons_succ, List.set_cons_zero]
      rw [e133, e137]
      generalize a'.eval (.tmp 131) = x131
      generalize a'.eval (.tmp 132) = x132
      generalize a'.eval (.tmp 134) = x134
      generalize a'.eval (.tmp 135) = x135
      generalize a'.eval (.tmp 136) = x136
      generalize a'.eval (.tmp 138) = x138
      clear e133 e137
      clear a'
      have HBG1 := hide (gb_trans HBW1.out hgwg1 (.inl rfl))
      have HDG1 := hide ((hgwg1.block _ (by have := HSW1.out; omega) (by simp)).trans HDF1.out)
      have t0 := cell_gb HT0.out hgwg1
      clear hgwg1 HT0 HK0 HCW HGW1
      go_wp2_with fail
      obtain ⟨wb2, hwb2⟩ : ∃ wb2, wb2 = wg1.alloc (.cells #[.int .i64 2] 3) := ⟨_, rfl⟩
      have hgb2 : wg1.grownBy wb2 none := by rw [hwb2]; exact gb_alloc (gb_refl wg1 none) _
      have t2 : wb2.cell? ⟨wg1.heap.size, 0, none⟩ = some (.int .i64 2) := by rw [hwb2, blk_cell (heap_alloc_new wg1 _)]; rfl
      have HB12 := hide (gb_trans HBG1.out hgb2 (.inl rfl))
      have HB02 := hide (gb_trans HB01.out HB12.out (.inl rfl))
      have HGA := hide (gb_trans HGb1.out HB12.out (.inl rfl))
      have HD1 := hide ((hgb2.block _ (blk_lt HDG1.out) (by simp)).trans HDG1.out)
      have HD0 := hide ((HB12.out.block _ (blk_lt HDB1.out) (by simp)).trans HDB1.out)
      rw [← hwb2]
      clear hwb2 hgb2 t0
      obtain ⟨b0, b1, b2, b3⟩ := HC.out.gb HGA.out
      obtain ⟨c0, c1, c2, c3⟩ := HCB.out.gb HB02.out
      have hsc := same_any v v wb2 wb2.heap.size cA cc dA dc eA ec nA nc sA sc lA lc (by have := HT.out; omega) (by have := HT.out; omega) (Nat.le_refl _) ((HOB.out.gb HB02.out).vb) ((HV.out.gb HGA.out (Nat.le_refl _)).up HGA.out.size)
      rw [Vl.same_refl] at hsc
      have HSC := hide hsc
      have hdd : w90.heap.size ≠ w91.heap.size := by have h1 := blk_lt HDB1.out; have h2 := HKS1.out; omega
      have HDD := hide hdd
      have HL1 := hide (show w.heap.size ≤ w90.heap.size by have h1 := HKS0.out; have h2 := HWK0.out; have h3 := HG.out.size; omega)
      have HL2 := hide (show w.heap.size ≤ w91.heap.size by have h1 := HKS1.out; have h2 := HWK1.out; have h3 := HG.out.size; omega)
      clear hsc hdd HBG1 HDG1 HBW1 HDF1 HSW1 HGk1 HEK1 HNW1 HG91 HB91 HKB1 HNX1 HCN HRC HTb1 HTb0
      refine HKQ2.out _ _ ?_
      clear HKQ2
      go_wp2_with (first
        | (go_at_call 12; refine HSC.out.mono ?_; rintro e w10 ⟨rfl, hg10⟩; have HG10 := hide (gb_trans HGA.out hg10 (.inl rfl)); have HD1' := hide ((hg10.block _ (blk_lt HD1.out) (by simp)).trans HD1.out); have HD0' := hide ((hg10.block _ (blk_lt HD0.out) (by simp)).trans HD0.out); clear hg10)
        | (go_at_call 9; refine (live_any _).mono ?_; rintro e w11 ⟨rfl, hg11⟩; have HG11 := hide (gb_trans HG10.out hg11 (.inl rfl)); have HD1'' := hide ((hg11.block _ (blk_lt HD1'.out) (by simp)).trans HD1'.out); have HD0'' := hide ((hg11.block _ (blk_lt HD0'.out) (by simp)).trans HD0'.out); have r8 := (HG11.out.block _ (by rw [HS.out]; omega) (by simp)).trans HR.out; have l8 := blk_cell r8 0; have z8 := blk_frozen r8 0; have HR8 := hide r8; clear hg11 r8))
      exact ends_marked2 (gb_trans HG.out HG11.out (.inl rfl)) HR8.out HD1''.out HD0''.out HL2.out HL1.out (fun e => HDD.out e.symm) rfl


theorem asks_any (v : Vl) (i : Int) (w : World) (nA : Option Addr) (nc : Nat) (sA : Option Addr) (sc : Nat) (lA : Option Addr) (lc : Nat) (ht : v.tot ≤ 1100000) (h : VB w w.heap.size v nA nc sA sc lA lc) :
    Calls Try.prog 3 #[.agg #[.int .i64 v.t, .slice nA v.n.length nc, .slice sA v.s.length sc, .slice lA v.l.length lc], .int .i64 i] w fun e w' => e = .returned (.bool true) ∧ w.grownBy w' none := by
  cases hhu : hugeV [v]
  · by_cases hk : checkV v = 0
    · refine asks_good v i w nA nc sA sc lA lc ?_ hhu hk h
      have := of_decide_eq_false hhu
      simp only [Vl.tots] at this
      omega
    · exact asks_bad v i w nA nc sA sc lA lc ht hhu hk h
  · exact asks_huge v i w nA nc sA sc lA lc ht hhu h
end Go.Proofs.Ytfckmkpfhchggaa
