/-
  attr's Valid.
-/
import Derived.Test.YtfdckhnhancbdaaAx
import Derived.StillTailTactics
import Derived.Deep.DeepCutAuto

namespace Go.Proofs.Ytfdckhnhancbdaa
open Go.RowKit
attribute [local go_sem ↓] Go.wp_at_zero Go.wp_at_succ

/-- holds of a column of its own. -/
theorem holdsG_col (base g : Nat) (ty : TypeId) (rest : List Value) (mark t : Int) (v : Value) (es : List (Int × ByteArray)) (w : World) (h : ColB w base g ty rest mark t v es (runsK es) (fallsK es)) (hm : Mark5 mark) (hl : es.length ≤ 200000) :
    Calls Try.prog 39 #[.pointer (some ⟨g, 0, none⟩), .func (.func 40) #[.pointer (some ⟨g, 0, none⟩)] #[]] w fun e w' => e = .returned (.bool (holdsG mark es)) ∧ w.grownBy w' none := by
  have hc : Mark3 mark ∨ mark = 2 ∨ mark = 4 := by unfold Mark3; unfold Mark5 at hm; omega
  rcases hc with h3 | rfl | rfl
  · refine (holds_any base g ty rest mark t v es _ w h h3).mono ?_
    rintro e w' ⟨rfl, rfl⟩
    exact ⟨by rw [holdsG_K h3], gb_refl w none⟩
  · exact holds2_col base g ty rest t v es ⟨g, 0, none⟩ (uniqK es) w h (fun w' hg => unlike_any base g ty rest 2 t v es _ _ w' (h.gb hg) hl)
  · exact holds4_col base g ty rest t v es ⟨g, 0, none⟩ (uniqK es) w h (fun w' hg => unlike_any base g ty rest 4 t v es _ _ w' (h.gb hg) hl)
set_option maxHeartbeats 2000000 in
set_option maxRecDepth 100000 in
theorem valid_any (mark : Int) (hm : Mark5 mark) (v : Vl) (ht : 1 ≤ v.t ∧ v.t ≤ 5) (nA : Option Addr) (nc : Nat) (sA : Option Addr) (sc : Nat) (lA : Option Addr) (lc ll : Nat) (w : World) (hn : Rd w w.heap.size nA (i64s v.n)) (hs : Rd w w.heap.size sA (strs v.s)) (hl : v.n.length ≤ 100000 ∧ v.s.length ≤ 100000) :
    Calls Try.prog 13 #[.int .i64 mark, .agg #[.int .i64 v.t, .slice nA v.n.length nc, .slice sA v.s.length sc, .slice lA ll lc]] w fun e w' => e = .returned (.int .i64 (bif holdsG mark (keysV v) then 0 else 90)) ∧ w.grownBy w' none := by
  obtain ⟨wa, hwa⟩ : ∃ wa, wa = w.alloc (.cells #[.int .i64 v.t, .slice nA v.n.length nc, .slice sA v.s.length sc, .slice lA ll lc] 26) := ⟨_, rfl⟩
  have hga : w.grownBy wa none := by rw [hwa]; exact gb_alloc (gb_refl w none) _
  have hba : wa.heap[w.heap.size]? = some (.cells #[.int .i64 v.t, .slice nA v.n.length nc, .slice sA v.s.length sc, .slice lA ll lc] 26 (0, 0)) := by rw [hwa]; exact heap_alloc_new w _
  have HF := hide (fun w => fault_ok mark v.t (.slice nA v.n.length nc) (.slice sA v.s.length sc) (.slice lA ll lc) (by unfold Mark5 at hm; omega) ht w)
  have HBA := hide hba
  have HGA := hide hga
  have HWE := hide hwa
  have HN := hide (hn.grown hga (Nat.le_refl _) (by simp))
  have HS := hide (hs.grown hga (Nat.le_refl _) (by simp))
  have HL := hide hl
  have HM := hide hm
  obtain ⟨y0, y1, y2, y3⟩ := box4 hba
  clear hm hwa hga hba hn hs hl
  go_enter Try.func13, Try.ntmps13
  go_wp2_with fail
  rw [← HWE.out]
  refine (HF.out _).mono ?_
  rintro e w1 ⟨rfl, hg1⟩
  have hb1 := blk_keep HBA.out hg1 (by simp)
  have hlt := blk_lt hb1
  have HB1 := hide hb1
  have HG1 := hide hg1
  have x0 : w1.cell? ⟨w.heap.size, 0, none⟩ = some (.int .i64 v.t) := by rw [blk_cell hb1]; rfl
  have y0 : ∀ o, (w1.alloc o).cell? ⟨w.heap.size, 0, none⟩ = some (.int .i64 v.t) := fun o => by rw [World.cell?_alloc_lt _ o _ hlt, blk_cell hb1]; rfl
  have y1 : ∀ o, (w1.alloc o).cell? ⟨w.heap.size, 1, none⟩ = some (.slice nA v.n.length nc) := fun o => by rw [World.cell?_alloc_lt _ o _ hlt, blk_cell hb1]; rfl
  have y2 : ∀ o, (w1.alloc o).cell? ⟨w.heap.size, 2, none⟩ = some (.slice sA v.s.length sc) := fun o => by rw [World.cell?_alloc_lt _ o _ hlt, blk_cell hb1]; rfl
  have y3 : ∀ o, (w1.alloc o).cell? ⟨w.heap.size, 3, none⟩ = some (.slice lA ll lc) := fun o => by rw [World.cell?_alloc_lt _ o _ hlt, blk_cell hb1]; rfl
  clear hb1 hg1 hlt
  go_wp2_with fail
  obtain ⟨w2, hw2⟩ : ∃ w2, w2 = w1.alloc (.cells #[.int .i64 mark, .int .i64 v.t, .slice none 0 0, .int .i64 0, .int .i64 0] 74) := ⟨_, rfl⟩
  have hg12 : w1.grownBy w2 none := by rw [hw2]; exact gb_alloc (gb_refl w1 none) _
  have hga2 : wa.grownBy w2 none := gb_trans HG1.out hg12 (.inl rfl)
  have hcol : ColB w2 w1.heap.size w1.heap.size 74 [] mark v.t (.slice none 0 0) [] (runsK []) (fallsK []) := by
    refine ⟨?_, World.ownsRow_nil _ _ _ 2, by simp [Value.ownBlock]⟩
    rw [hw2]; exact heap_alloc_new w1 _
  rw [← hw2]
  have HCL := hide hcol
  have HG2 := hide (gb_trans HGA.out hga2 (.inl rfl))
  have HS2 := hide (show w1.heap.size < w2.heap.size by rw [hw2]; simp)
  have HKS := hide (keys_any v nA nc sA sc (.slice lA ll lc) w.heap.size w2 (HN.out.grown hga2 HGA.out.size (by simp)) (HS.out.grown hga2 HGA.out.size (by simp)) HG2.out.size ⟨by have := HL.out; omega, by have := HL.out; omega⟩)
  have HKL := hide (keysV_len v 100000 HL.out)
  clear hw2 hg12 hga2 hcol x0 y0 y1 y2 y3
  refine HKS.out.mono ?_
  rintro e w3 ⟨b, rfl, hb, hrd, hg3⟩
  have HG3 := hide (gb_trans HG2.out hg3 (.inl rfl))
  have HPU := hide (push_any w1.heap.size w1.heap.size 74 [] mark v.t (.slice none 0 0) [] (keysV v) (some ⟨b, 0, none⟩) (keysV v).length (keysV v).length w3.heap.size w3 (HCL.out.gb hg3) hrd (Nat.le_refl _) rfl (fun ad ha _ => by
    cases ha
    have := HS2.out
    exact ⟨fun e => by have e : b = w1.heap.size := e; omega, by simp [Value.ownBlock]⟩) (by have := HKL.out; simp; omega) (by have := HS2.out; have := hg3.size; omega))
  rw [List.nil_append] at HPU
  clear hb hrd hg3
  go_wp2_with fail
  refine HPU.out.mono ?_
  rintro e w4 ⟨v4, rfl, hC4, hW4, _⟩
  have HG4 := hide (hW4.gb HG3.out (fun x hx => by
    have h1 := HGA.out.size
    have h2 := HG1.out.size
    have : x = w1.heap.size := by simpa [Value.ownBlock] using hx
    omega))
  have HHO := hide (holdsG_col w1.heap.size w1.heap.size 74 [] mark v.t v4 (keysV v) w4 hC4 HM.out (by have := HKL.out; omega))
  clear hC4 hW4
  obtain ⟨hb, hh⟩ : ∃ hb, holdsG mark (keysV v) = hb := ⟨_, rfl⟩
  rw [hh] at HHO
  have HHB := hide hh
  clear hh
  cases hb
  all_goals
    go_wp2_with fail
    refine HHO.out.mono ?_
    rintro e w5 ⟨rfl, hg5⟩
    have HG5 := hide (gb_trans HG4.out hg5 (.inl rfl))
    clear hg5
    go_wp2_with fail
    go_ret
    exact ⟨by rw [HHB.out]; rfl, HG5.out⟩
end Go.Proofs.Ytfdckhnhancbdaa

/- What is no atom of the type: element, Find. -/
namespace Go.Proofs.Ytfdckhnhancbdaa
open Go.RowKit
attribute [local go_sem ↓] Go.wp_at_zero Go.wp_at_succ

/-- The element that an atom of the type has. -/
def elemK (t : Int) (a : Vl) : Option (Int × ByteArray) := if a.t = -t then (match keysV a with | [k] => some k | _ => none) else none
theorem elemK_some {t : Int} {a : Vl} {k : Int × ByteArray} (h : elemK t a = some k) : a.t = -t ∧ keysV a = [k] := by
  unfold elemK at h
  split at h
  · rename_i ht
    split at h
    · rename_i x hx
      cases h
      exact ⟨ht, hx⟩
    · cases h
  · cases h
theorem elemK_none {t : Int} {a : Vl} (h : elemK t a = none) : a.t ≠ -t ∨ (a.t = -t ∧ (keysV a).length ≠ 1) := by
  unfold elemK at h
  split at h
  · rename_i ht
    refine .inr ⟨ht, fun hl => ?_⟩
    obtain ⟨x, hx⟩ := List.length_eq_one_iff.1 hl
    rw [hx] at h
    cases h
  · rename_i ht
    exact .inl ht
set_option maxHeartbeats 2000000 in
set_option maxRecDepth 100000 in
theorem element_bad1 (base g : Nat) (f : List Nat) (mark t : Int) (es : List (Int × ByteArray)) (a : Vl) (ht : a.t ≠ -t) (htb : 1 ≤ t ∧ t ≤ 5) (nA : Option Addr) (nc : Nat) (sA : Option Addr) (sc : Nat) (lA : Option Addr) (lc ll : Nat) (w : World) (h : IxF w base f g mark t es)
    :
    Calls Try.prog 46 #[.pointer (some ⟨g, 0, none⟩), .agg #[.int .i64 a.t, .slice nA a.n.length nc, .slice sA a.s.length sc, .slice lA ll lc]] w fun e w' => e = .returned (.tuple #[kagg (0, noS), .int .i64 31]) ∧ w.grownBy w' none := by
  obtain ⟨wa, hwa⟩ : ∃ wa, wa = (w.alloc (.cells #[.int .i64 a.t, .slice nA a.n.length nc, .slice sA a.s.length sc, .slice lA ll lc] 26)).alloc (.cells #[.int .i64 0, .string ⟨#[]⟩] 89) := ⟨_, rfl⟩
  have hga : w.grownBy wa none := by rw [hwa]; exact gb_alloc (gb_alloc (gb_refl w none) _) _
  have hba : wa.heap[w.heap.size]? = some (.cells #[.int .i64 a.t, .slice nA a.n.length nc, .slice sA a.s.length sc, .slice lA ll lc] 26 (0, 0)) := by rw [hwa]; exact (Below.heap_alloc _ _ _ (by rw [World.size_alloc]; omega)).trans (heap_alloc_new w _)
  have hbk : wa.heap[w.heap.size + 1]? = some (.cells #[.int .i64 0, .string ⟨#[]⟩] 89 (0, 0)) := by
    rw [hwa]
    have := heap_alloc_new (w.alloc (.cells #[.int .i64 a.t, .slice nA a.n.length nc, .slice sA a.s.length sc, .slice lA ll lc] 26)) (.cells #[.int .i64 0, .string ⟨#[]⟩] 89)
    rwa [World.size_alloc] at this
  obtain ⟨x, mb, tr, hI⟩ := h.gb hga
  have g1 : wa.cell? ⟨g, 1, none⟩ = some (.int .i64 t) := by rw [blk_cell hI.col.blk]; rfl
  have y0 : wa.cell? ⟨w.heap.size, 0, none⟩ = some (.int .i64 a.t) := by rw [blk_cell hba]; rfl
  have hw1 : IntKind.i64.wrap (-t) = -t := by rw [IntKind.wrap_i64]; omega
  have hne : (a.t != -t) = true := by simp [ht]
  have HBK := hide hbk
  have HGA := hide hga
  have HWE := hide hwa
  clear hI hwa hga hba hbk h
  go_enter Try.func46, Try.ntmps46
  go_wp2_with fail
  rw [← HWE.out]
  go_quiet (fail)
  obtain ⟨wq, hwq⟩ : ∃ wq, wq = wa.drewN nq := ⟨_, rfl⟩
  have hgq : wa.grownBy wq none := by rw [hwq]; exact gb_drewN (gb_refl wa none) _
  rw [← hwq]
  have hb3 := blk_keep HBK.out hgq (by simp)
  have z0 := blk_frozen hb3 0
  have z1 := blk_frozen hb3 1
  have x0 : wq.cell? ⟨w.heap.size + 1, 0, none⟩ = some (.int .i64 0) := by rw [blk_cell hb3]; rfl
  have x1 : wq.cell? ⟨w.heap.size + 1, 1, none⟩ = some (.string ⟨#[]⟩) := by rw [blk_cell hb3]; rfl
  have HB3 := hide hb3
  have HG3 := hide (gb_trans HGA.out hgq (.inl rfl))
  clear hwq hgq g1 hb3
  go_wp2_with fail
  have hb := blk_set (blk_set HB3.out 0 (.int .i64 0)) 1 (.string ⟨#[]⟩)
  have m0 := blk_cell hb 0
  have m1 := blk_cell hb 1
  simp at m0 m1
  unfold kagg noS
  refine bodyPost_ret (v := .tuple #[.agg #[.int .i64 0, .string ⟨#[]⟩], .int .i64 31]) (by simp [results, Try.results46, go_sem, m0, m1]) rfl ⟨rfl, ?_⟩
  exact gb_setCell (p := ⟨w.heap.size + 1, 1, none⟩) (gb_setCell (p := ⟨w.heap.size + 1, 0, none⟩) HG3.out (.inr (Nat.le_succ _)) _) (.inr (Nat.le_succ _)) _
set_option maxHeartbeats 2000000 in
set_option maxRecDepth 100000 in
theorem element_bad2 (base g : Nat) (f : List Nat) (mark t : Int) (es : List (Int × ByteArray)) (a : Vl) (hk : (keysV a).length ≠ 1) (ht : a.t = -t) (htb : 1 ≤ t ∧ t ≤ 5) (nA : Option Addr) (nc : Nat) (sA : Option Addr) (sc : Nat) (lA : Option Addr) (lc ll : Nat) (w : World) (h : IxF w base f g mark t es)
    (hn : Rd w w.heap.size nA (i64s a.n)) (hs : Rd w w.heap.size sA (strs a.s)) (hl : a.n.length ≤ 100000 ∧ a.s.length ≤ 100000) :
    Calls Try.prog 46 #[.pointer (some ⟨g, 0, none⟩), .agg #[.int .i64 a.t, .slice nA a.n.length nc, .slice sA a.s.length sc, .slice lA ll lc]] w fun e w' => e = .returned (.tuple #[kagg (0, noS), .int .i64 31]) ∧ w.grownBy w' none := by
  obtain ⟨wa, hwa⟩ : ∃ wa, wa = (w.alloc (.cells #[.int .i64 a.t, .slice nA a.n.length nc, .slice sA a.s.length sc, .slice lA ll lc] 26)).alloc (.cells #[.int .i64 0, .string ⟨#[]⟩] 89) := ⟨_, rfl⟩
  have hga : w.grownBy wa none := by rw [hwa]; exact gb_alloc (gb_alloc (gb_refl w none) _) _
  have hba : wa.heap[w.heap.size]? = some (.cells #[.int .i64 a.t, .slice nA a.n.length nc, .slice sA a.s.length sc, .slice lA ll lc] 26 (0, 0)) := by rw [hwa]; exact (Below.heap_alloc _ _ _ (by rw [World.size_alloc]; omega)).trans (heap_alloc_new w _)
  have hbk : wa.heap[w.heap.size + 1]? = some (.cells #[.int .i64 0, .string ⟨#[]⟩] 89 (0, 0)) := by
    rw [hwa]
    have := heap_alloc_new (w.alloc (.cells #[.int .i64 a.t, .slice nA a.n.length nc, .slice sA a.s.length sc, .slice lA ll lc] 26)) (.cells #[.int .i64 0, .string ⟨#[]⟩] 89)
    rwa [World.size_alloc] at this
  obtain ⟨x, mb, tr, hI⟩ := h.gb hga
  have g1 : wa.cell? ⟨g, 1, none⟩ = some (.int .i64 t) := by rw [blk_cell hI.col.blk]; rfl
  have y0 : wa.cell? ⟨w.heap.size, 0, none⟩ = some (.int .i64 (-t)) := by rw [blk_cell hba, ht]; rfl
  have hw1 : IntKind.i64.wrap (-t) = -t := by rw [IntKind.wrap_i64]; omega
  have HN := hide (hn.grown hga (Nat.le_refl _) (by simp))
  have HS := hide (hs.grown hga (Nat.le_refl _) (by simp))
  have HL := hide hl
  have HBA := hide hba
  have HBK := hide hbk
  have HGA := hide hga
  have HWE := hide hwa
  have HK := hide hk
  have HT := hide ht
  clear hI hwa hga hba hbk h hn hs hl hk ht
  go_enter Try.func46, Try.ntmps46
  go_wp2_with fail
  rw [← HWE.out]
  go_quiet (fail)
  obtain ⟨wq, hwq⟩ : ∃ wq, wq = wa.drewN nq := ⟨_, rfl⟩
  have hgq : wa.grownBy wq none := by rw [hwq]; exact gb_drewN (gb_refl wa none) _
  rw [← hwq]
  have hbq := blk_keep HBA.out hgq (by simp)
  have y0 : wq.cell? ⟨w.heap.size, 0, none⟩ = some (.int .i64 a.t) := by rw [blk_cell hbq]; rfl
  have y1 : wq.cell? ⟨w.heap.size, 1, none⟩ = some (.slice nA a.n.length nc) := by rw [blk_cell hbq]; rfl
  have y2 : wq.cell? ⟨w.heap.size, 2, none⟩ = some (.slice sA a.s.length sc) := by rw [blk_cell hbq]; rfl
  have y3 : wq.cell? ⟨w.heap.size, 3, none⟩ = some (.slice lA ll lc) := by rw [blk_cell hbq]; rfl
  have HKS := hide (keys_any a nA nc sA sc (.slice lA ll lc) w.heap.size wq (HN.out.grown hgq HGA.out.size (by simp)) (HS.out.grown hgq HGA.out.size (by simp)) (Nat.le_trans HGA.out.size hgq.size) ⟨by have := HL.out; omega, by have := HL.out; omega⟩)
  have HGQ := hide (gb_trans HGA.out hgq (.inl rfl))
  have HBQ := hide (blk_keep HBK.out hgq (by simp))
  clear hwq hgq hbq g1
  go_wp2_with fail
  refine HKS.out.mono ?_
  rintro e w3 ⟨b, rfl, hb, hrd, hg3⟩
  have hb3 := blk_keep HBQ.out hg3 (by simp)
  obtain ⟨N, hN⟩ : ∃ N, (keysV a).length = N := ⟨_, rfl⟩
  have hk1 := HK.out
  rw [hN] at hk1 ⊢
  have hne : ((N : Int) != 1) = true := by simp; omega
  have hne2 : ¬ (N : Int) = 1 := by omega
  have hne3 : ¬ N = 1 := hk1
  have z0 := blk_frozen hb3 0
  have z1 := blk_frozen hb3 1
  have x0 : w3.cell? ⟨w.heap.size + 1, 0, none⟩ = some (.int .i64 0) := by rw [blk_cell hb3]; rfl
  have x1 : w3.cell? ⟨w.heap.size + 1, 1, none⟩ = some (.string ⟨#[]⟩) := by rw [blk_cell hb3]; rfl
  have HB3 := hide hb3
  have HG3 := hide (gb_trans HGQ.out hg3 (.inl rfl))
  clear hb3 hg3 hrd y0 y1 y2 y3 hb hN
  go_wp2_with fail
  have hb := blk_set (blk_set HB3.out 0 (.int .i64 0)) 1 (.string ⟨#[]⟩)
  have m0 := blk_cell hb 0
  have m1 := blk_cell hb 1
  simp at m0 m1
  unfold kagg noS
  refine bodyPost_ret (v := .tuple #[.agg #[.int .i64 0, .string ⟨#[]⟩], .int .i64 31]) (by simp [results, Try.results46, go_sem, m0, m1]) rfl ⟨rfl, ?_⟩
  exact gb_setCell (p := ⟨w.heap.size + 1, 1, none⟩) (gb_setCell (p := ⟨w.heap.size + 1, 0, none⟩) HG3.out (.inr (Nat.le_succ _)) _) (.inr (Nat.le_succ _)) _
theorem element_bad (base g : Nat) (f : List Nat) (mark t : Int) (es : List (Int × ByteArray)) (a : Vl) (hk : elemK t a = none) (htb : 1 ≤ t ∧ t ≤ 5) (nA : Option Addr) (nc : Nat) (sA : Option Addr) (sc : Nat) (lA : Option Addr) (lc ll : Nat) (w : World) (h : IxF w base f g mark t es)
    (hn : Rd w w.heap.size nA (i64s a.n)) (hs : Rd w w.heap.size sA (strs a.s)) (hl : a.n.length ≤ 100000 ∧ a.s.length ≤ 100000) :
    Calls Try.prog 46 #[.pointer (some ⟨g, 0, none⟩), .agg #[.int .i64 a.t, .slice nA a.n.length nc, .slice sA a.s.length sc, .slice lA ll lc]] w fun e w' => e = .returned (.tuple #[kagg (0, noS), .int .i64 31]) ∧ w.grownBy w' none := by
  rcases elemK_none hk with ht | ⟨ht, hk⟩
  · exact element_bad1 base g f mark t es a ht htb nA nc sA sc lA lc ll w h
  · exact element_bad2 base g f mark t es a hk ht htb nA nc sA sc lA lc ll w h hn hs hl
set_option maxHeartbeats 4000000 in
set_option maxRecDepth 100000 in
theorem find_bad (base g : Nat) (f : List Nat) (mark t : Int) (es : List (Int × ByteArray)) (a : Vl) (hk : elemK t a = none) (htb : 1 ≤ t ∧ t ≤ 5) (nA : Option Addr) (nc : Nat) (sA : Option Addr) (sc : Nat) (lA : Option Addr) (lc ll : Nat) (w : World) (h : IxF w base f g mark t es)
    (hn : Rd w w.heap.size nA (i64s a.n)) (hs : Rd w w.heap.size sA (strs a.s)) (hl : a.n.length ≤ 100000 ∧ a.s.length ≤ 100000) :
    Calls Try.prog 23 #[.pointer (some ⟨g, 0, none⟩), .agg #[.int .i64 a.t, .slice nA a.n.length nc, .slice sA a.s.length sc, .slice lA ll lc]] w (fun e w' => e = .returned (.tuple #[.slice none 0 0, .int .i64 31]) ∧ w.grownBy w' none) := by
  obtain ⟨wa, hwa⟩ : ∃ wa, wa = w.alloc (.cells #[.int .i64 a.t, .slice nA a.n.length nc, .slice sA a.s.length sc, .slice lA ll lc] 26) := ⟨_, rfl⟩
  have hga : w.grownBy wa none := by rw [hwa]; exact gb_alloc (gb_refl w none) _
  have hba : wa.heap[w.heap.size]? = some (.cells #[.int .i64 a.t, .slice nA a.n.length nc, .slice sA a.s.length sc, .slice lA ll lc] 26 (0, 0)) := by rw [hwa]; exact heap_alloc_new w _
  have y0 : wa.cell? ⟨w.heap.size, 0, none⟩ = some (.int .i64 a.t) := by rw [blk_cell hba]; rfl
  have y1 : wa.cell? ⟨w.heap.size, 1, none⟩ = some (.slice nA a.n.length nc) := by rw [blk_cell hba]; rfl
  have y2 : wa.cell? ⟨w.heap.size, 2, none⟩ = some (.slice sA a.s.length sc) := by rw [blk_cell hba]; rfl
  have y3 : wa.cell? ⟨w.heap.size, 3, none⟩ = some (.slice lA ll lc) := by rw [blk_cell hba]; rfl
  have HE := hide (fun (wq : World) (hgq : wa.grownBy wq none) => element_bad base g f mark t es a hk htb nA nc sA sc lA lc ll wq (h.gb (gb_trans hga hgq (.inl rfl))) ((hn.grown (gb_trans hga hgq (.inl rfl)) (Nat.le_refl _) (by simp)).more (Nat.le_trans hga.size hgq.size)) ((hs.grown (gb_trans hga hgq (.inl rfl)) (Nat.le_refl _) (by simp)).more (Nat.le_trans hga.size hgq.size)) hl)
  have HY := hide hba
  have HI := hide (h.gb hga)
  have HGA := hide hga
  have HWE := hide hwa
  clear hwa hga hba h hn hs hl hk htb
  unfold kagg noS at HE
  go_enter Try.func23, Try.ntmps23
  go_wp2_with fail
  rw [← HWE.out]
  have v0 : ∀ o, (wa.alloc o).cell? ⟨w.heap.size, 0, none⟩ = some (.int .i64 a.t) := fun o => by rw [World.cell?_alloc_lt wa o _ (blk_lt HY.out), blk_cell HY.out]; rfl
  have v1 : ∀ o, (wa.alloc o).cell? ⟨w.heap.size, 1, none⟩ = some (.slice nA a.n.length nc) := fun o => by rw [World.cell?_alloc_lt wa o _ (blk_lt HY.out), blk_cell HY.out]; rfl
  have v2 : ∀ o, (wa.alloc o).cell? ⟨w.heap.size, 2, none⟩ = some (.slice sA a.s.length sc) := fun o => by rw [World.cell?_alloc_lt wa o _ (blk_lt HY.out), blk_cell HY.out]; rfl
  have v3 : ∀ o, (wa.alloc o).cell? ⟨w.heap.size, 3, none⟩ = some (.slice lA ll lc) := fun o => by rw [World.cell?_alloc_lt wa o _ (blk_lt HY.out), blk_cell HY.out]; rfl
  go_region_law (first
    | (go_simp; go_at_call 46; refine (HE.out wa.drew (gb_drew (gb_refl wa none))).mono ?_; rintro e w1 ⟨rfl, hg1⟩; have HG1 := hide (show wa.grownBy w1 none from ⟨hg1.os, hg1.tape, hg1.output, hg1.size, hg1.block⟩); clear hg1)
    | (go_simp; go_at_call 46; refine (HE.out (wa.alloc (.cells #[.int .i64 0, .string ⟨#[]⟩] 89)).drew (gb_drew (gb_alloc (gb_refl wa none) _))).mono ?_; rintro e w1 ⟨rfl, hg1⟩; have HG1 := hide (show wa.grownBy w1 none from gb_trans (gb_alloc (gb_refl wa none) (.cells #[.int .i64 0, .string ⟨#[]⟩] 89)) (show (wa.alloc (.cells #[.int .i64 0, .string ⟨#[]⟩] 89)).grownBy w1 none from ⟨hg1.os, hg1.tape, hg1.output, hg1.size, hg1.block⟩) (.inl rfl)); have HBX := hide (show w1.heap[wa.heap.size]? = some (.cells #[.int .i64 0, .string ⟨#[]⟩] 89 (0, 0)) from (hg1.block _ (by simp) (by simp)).trans (heap_alloc_new wa _)); have x0 : w1.cell? ⟨wa.heap.size, 0, none⟩ = some (.int .i64 0) := (by { rw [blk_cell HBX.out]; rfl }); have x1 : w1.cell? ⟨wa.heap.size, 1, none⟩ = some (.string ⟨#[]⟩) := (by { rw [blk_cell HBX.out]; rfl }); have z0 := blk_frozen HBX.out 0; have z1 := blk_frozen HBX.out 1; clear hg1))
  all_goals first
    | (obtain ⟨wz, hwz⟩ : ∃ wz, wz = w1.alloc (.cells #[.int .i64 0, .string ⟨#[]⟩] 89) := ⟨_, rfl⟩
       have hgz : wa.grownBy wz none := by rw [hwz]; exact gb_alloc HG1.out _
       rw [← hwz]
       have HGZ := hide (gb_trans HGA.out hgz (.inl rfl))
       clear hwz hgz
       go_wp2_with fail
       go_ret2
       exact ⟨rfl, HGZ.out⟩)
    | (obtain ⟨wz, hwz⟩ : ∃ wz, wz = (w1.setCell ⟨wa.heap.size, 0, none⟩ (.int .i64 0)).setCell ⟨wa.heap.size, 1, none⟩ (.string ⟨#[]⟩) := ⟨_, rfl⟩
       have hgz : wa.grownBy wz none := by rw [hwz]; exact gb_setCell (p := ⟨wa.heap.size, 1, none⟩) (gb_setCell (p := ⟨wa.heap.size, 0, none⟩) HG1.out (.inr (Nat.le_refl _)) _) (.inr (Nat.le_refl _)) _
       rw [← hwz]
       have HGZ := hide (gb_trans HGA.out hgz (.inl rfl))
       clear hwz hgz
       go_wp2_with fail
       go_ret2
       exact ⟨rfl, HGZ.out⟩)
end Go.Proofs.Ytfdckhnhancbdaa

/- What Range asks of each place; sort.Search. -/
namespace Go.Proofs.Ytfdckhnhancbdaa
open Go.RowKit
attribute [local go_sem ↓] Go.wp_at_zero Go.wp_at_succ

set_option maxHeartbeats 2000000 in
set_option maxRecDepth 100000 in
theorem below_any (base g : Nat) (f : List Nat) (mark t : Int) (es : List (Int × ByteArray)) (bl bx bk : Nat) (lo : Option Addr) (k x : Int × ByteArray) (i : Nat) (hi : es[i]? = some x) (w : World) (h : IxF w base f g mark t es)
    (hl : w.heap[bl]? = some (.cells #[.pointer lo] 43 (0, 0))) (hx : w.heap[bx]? = some (.cells #[.pointer (some ⟨g, 0, none⟩)] 30 (0, 0))) (hk : w.heap[bk]? = some (.cells #[.int .i64 k.1, .string k.2] 89 (0, 0))) :
    Calls Try.prog 51 #[.int .i64 (i : Int), .pointer (some ⟨bl, 0, none⟩), .pointer (some ⟨bx, 0, none⟩), .pointer (some ⟨bk, 0, none⟩)] w fun e w' => e = .returned (.bool (lo.isSome && decide (cmpK x k < 0))) ∧ w.grownBy w' none := by
  have l0 : w.cell? ⟨bl, 0, none⟩ = some (.pointer lo) := by rw [blk_cell hl]; rfl
  rcases lo with _ | ad
  · clear h hl hx hk hi
    go_enter Try.func51, Try.ntmps51
    go_wp2_with fail
    go_quiet (fail)
    go_wp2_with fail
    go_ret
    exact ⟨rfl, gb_drewN (gb_refl w none) _⟩
  · have x0 : w.cell? ⟨bx, 0, none⟩ = some (.pointer (some ⟨g, 0, none⟩)) := by rw [blk_cell hx]; rfl
    have k0 : w.cell? ⟨bk, 0, none⟩ = some (.int .i64 k.1) := by rw [blk_cell hk]; rfl
    have k1 : w.cell? ⟨bk, 1, none⟩ = some (.string k.2) := by rw [blk_cell hk]; rfl
    obtain ⟨v, mb, tr, hI⟩ := h
    obtain ⟨Av, cv, rfl, _, hcm, hrd⟩ := own_form2 hI.col.own
    have hil : i < es.length := (List.getElem?_eq_some_iff.1 hi).1
    have hxe : es[i] = x := (List.getElem?_eq_some_iff.1 hi).2
    obtain ⟨B, o, rfl, _, hcell⟩ := hrd.key (by omega)
    obtain ⟨e0, e1⟩ := hcell i hil
    rw [hxe] at e0 e1
    have g2 : w.cell? ⟨g, 2, none⟩ = some (.slice (some ⟨B, o, none⟩) es.length cv) := by rw [blk_cell hI.col.blk]; rfl
    have HC := hide (fun w => compare_any x k w)
    obtain ⟨c, hc⟩ : ∃ c, cmpK x k = c := ⟨_, rfl⟩
    rw [hc] at HC ⊢
    unfold kagg at HC
    clear hI hrd hcell hl hx hk hi hxe hcm hc
    go_enter Try.func51, Try.ntmps51
    go_wp2_with fail
    go_still_tail 12, (by kernel_rfl)
    go_wp2_with fail
    refine (HC.out _).mono ?_
    rintro e w1 ⟨rfl, hg1⟩
    have HG := hide (show w.grownBy w1 none from ⟨hg1.os, hg1.tape, hg1.output, hg1.size, hg1.block⟩)
    clear hg1
    go_wp2_with fail
    go_ret
    exact ⟨rfl, HG.out⟩
set_option maxHeartbeats 2000000 in
set_option maxRecDepth 100000 in
theorem above_any (base g : Nat) (f : List Nat) (mark t : Int) (es : List (Int × ByteArray)) (bl bx bk : Nat) (lo : Option Addr) (k x : Int × ByteArray) (i : Nat) (hi : es[i]? = some x) (w : World) (h : IxF w base f g mark t es)
    (hl : w.heap[bl]? = some (.cells #[.pointer lo] 43 (0, 0))) (hx : w.heap[bx]? = some (.cells #[.pointer (some ⟨g, 0, none⟩)] 30 (0, 0))) (hk : w.heap[bk]? = some (.cells #[.int .i64 k.1, .string k.2] 89 (0, 0))) :
    Calls Try.prog 53 #[.int .i64 (i : Int), .pointer (some ⟨bl, 0, none⟩), .pointer (some ⟨bx, 0, none⟩), .pointer (some ⟨bk, 0, none⟩)] w fun e w' => e = .returned (.bool (lo.isSome && decide (0 < cmpK x k))) ∧ w.grownBy w' none := by
  have l0 : w.cell? ⟨bl, 0, none⟩ = some (.pointer lo) := by rw [blk_cell hl]; rfl
  rcases lo with _ | ad
  · clear h hl hx hk hi
    go_enter Try.func53, Try.ntmps53
    go_wp2_with fail
    go_quiet (fail)
    go_wp2_with fail
    go_ret
    exact ⟨rfl, gb_drewN (gb_refl w none) _⟩
  · have x0 : w.cell? ⟨bx, 0, none⟩ = some (.pointer (some ⟨g, 0, none⟩)) := by rw [blk_cell hx]; rfl
    have k0 : w.cell? ⟨bk, 0, none⟩ = some (.int .i64 k.1) := by rw [blk_cell hk]; rfl
    have k1 : w.cell? ⟨bk, 1, none⟩ = some (.string k.2) := by rw [blk_cell hk]; rfl
    obtain ⟨v, mb, tr, hI⟩ := h
    obtain ⟨Av, cv, rfl, _, hcm, hrd⟩ := own_form2 hI.col.own
    have hil : i < es.length := (List.getElem?_eq_some_iff.1 hi).1
    have hxe : es[i] = x := (List.getElem?_eq_some_iff.1 hi).2
    obtain ⟨B, o, rfl, _, hcell⟩ := hrd.key (by omega)
    obtain ⟨e0, e1⟩ := hcell i hil
    rw [hxe] at e0 e1
    have g2 : w.cell? ⟨g, 2, none⟩ = some (.slice (some ⟨B, o, none⟩) es.length cv) := by rw [blk_cell hI.col.blk]; rfl
    have HC := hide (fun w => compare_any x k w)
    obtain ⟨c, hc⟩ : ∃ c, cmpK x k = c := ⟨_, rfl⟩
    rw [hc] at HC ⊢
    unfold kagg at HC
    clear hI hrd hcell hl hx hk hi hxe hcm hc
    go_enter Try.func53, Try.ntmps53
    go_wp2_with fail
    go_still_tail 12, (by kernel_rfl)
    go_wp2_with fail
    refine (HC.out _).mono ?_
    rintro e w1 ⟨rfl, hg1⟩
    have HG := hide (show w.grownBy w1 none from ⟨hg1.os, hg1.tape, hg1.output, hg1.size, hg1.block⟩)
    clear hg1
    go_wp2_with fail
    go_ret
    exact ⟨rfl, HG.out⟩
end Go.Proofs.Ytfdckhnhancbdaa

/- sort.Search, of the two tests that Range hands it. -/
namespace Go.Proofs.Ytfdckhnhancbdaa
open Go.RowKit
attribute [local go_sem ↓] Go.wp_at_zero Go.wp_at_succ

set_option maxHeartbeats 1000000 in
theorem notBelow_any (base g : Nat) (f : List Nat) (mark t : Int) (es : List (Int × ByteArray)) (bl bx bk b11 : Nat) (lo : Option Addr) (k x : Int × ByteArray) (i : Nat) (hi : es[i]? = some x) (w : World) (h : IxF w base f g mark t es)
    (hl : w.heap[bl]? = some (.cells #[.pointer lo] 43 (0, 0))) (hx : w.heap[bx]? = some (.cells #[.pointer (some ⟨g, 0, none⟩)] 30 (0, 0))) (hk : w.heap[bk]? = some (.cells #[.int .i64 k.1, .string k.2] 89 (0, 0)))
    (h11 : w.heap[b11]? = some (.cells #[.func (.func 51) #[] #[.pointer (some ⟨bl, 0, none⟩), .pointer (some ⟨bx, 0, none⟩), .pointer (some ⟨bk, 0, none⟩)]] 97 (0, 0))) :
    Calls Try.prog 55 #[.int .i64 (i : Int), .pointer (some ⟨b11, 0, none⟩)] w fun e w' => e = .returned (.bool (!(lo.isSome && decide (cmpK x k < 0)))) ∧ w.grownBy w' none := by
  have c0 : w.cell? ⟨b11, 0, none⟩ = some (.func (.func 51) #[] #[.pointer (some ⟨bl, 0, none⟩), .pointer (some ⟨bx, 0, none⟩), .pointer (some ⟨bk, 0, none⟩)]) := by rw [blk_cell h11]; rfl
  have HB := hide (below_any base g f mark t es bl bx bk lo k x i hi w h hl hx hk)
  obtain ⟨q, hq⟩ : ∃ q, (lo.isSome && decide (cmpK x k < 0)) = q := ⟨_, rfl⟩
  rw [hq] at HB ⊢
  clear hi h hl hx hk h11 hq
  go_enter Try.func55, Try.ntmps55
  go_wp2_with fail
  refine HB.out.mono ?_
  rintro e w1 ⟨rfl, hg1⟩
  have HG := hide hg1
  clear hg1
  go_wp2_with fail
  go_ret
  exact ⟨rfl, HG.out⟩
/-- What Search tells: a place where the test turns. -/
def SearchP (n : Nat) (p : Nat → Bool) (w : World) (e : Ending) (w' : World) : Prop :=
  ∃ r : Nat, e = .returned (.int .i64 (r : Int)) ∧ r ≤ n ∧ (r = 0 ∨ p (r - 1) = false) ∧ (r = n ∨ p r = true) ∧ w.grownBy w' none
set_option maxHeartbeats 2000000 in
set_option maxRecDepth 100000 in
theorem search3 (b11 : Nat) (n : Nat) (p : Nat → Bool) (w : World) (hn : n ≤ 200000)
    (hf : ∀ (i : Nat), i < n → ∀ w', w.grownBy w' none → Calls Try.prog 55 #[.int .i64 (i : Int), .pointer (some ⟨b11, 0, none⟩)] w' fun e w'' => e = .returned (.bool (p i)) ∧ w'.grownBy w'' none) :
    Calls Try.prog 54 #[.int .i64 (n : Int), .func (.func 55) #[] #[.pointer (some ⟨b11, 0, none⟩)]] w (SearchP n p w) := by
  have HF := hide hf
  have HN := hide hn
  clear hf
  go_enter Try.func54, Try.ntmps54
  go_wp2_with fail
  go_loopw [5, 6] (fun i j wr => ∃ (a b : Nat), i = .int .i64 (a : Int) ∧ j = .int .i64 (b : Int) ∧ a ≤ b ∧ b ≤ n ∧ (a = 0 ∨ p (a - 1) = false) ∧ (b = n ∨ p b = true) ∧ w.grownBy wr none) (fun i j _ => (intOf j).toNat - (intOf i).toNat)
  case atStart => exact ⟨0, n, rfl, rfl, Nat.zero_le _, Nat.le_refl _, .inl rfl, .inl rfl, gb_refl w none⟩
  case round =>
    obtain ⟨a, b, rfl, rfl, hab, hbn, ha, hb, hg⟩ := hrel
    by_cases hlt : a < b
    · obtain ⟨m, hm⟩ : ∃ m : Nat, m = (a + b) / 2 := ⟨_, rfl⟩
      have hma : a ≤ m := by omega
      have hmb : m < b := by omega
      have hal : a ≤ 200000 := by omega
      have hbl : b ≤ 200000 := by omega
      have hml : m ≤ 200000 := by omega
      have hdiv : ((a : Int) + (b : Int)) / 2 = (m : Int) := by omega
      have HDV := hide hdiv
      have HC := hide (HF.out m (by omega) wr hg)
      obtain ⟨q, hq⟩ : ∃ q, p m = q := ⟨_, rfl⟩
      rw [hq] at HC
      have HQ := hide hq
      have HA := hide ha
      have HB := hide hb
      have HG := hide hg
      have HBN := hide hbn
      have HM := hide hm
      clear ha hb hg hq hbn hm
      cases q
      · go_wp2_with fail
        refine HC.out.mono ?_
        rintro e w1 ⟨rfl, hg1⟩
        have HG1 := hide (gb_trans HG.out hg1 (.inl rfl))
        clear hg1
        go_wp2_with fail
        go_roundw
        case rel => exact ⟨m + 1, b, by go_num, rfl, by omega, HBN.out, .inr (by simpa using HQ.out), HB.out, HG1.out⟩
        case measure => simp [intOf]; omega
      · go_wp2_with fail
        refine HC.out.mono ?_
        rintro e w1 ⟨rfl, hg1⟩
        have HG1 := hide (gb_trans HG.out hg1 (.inl rfl))
        clear hg1
        go_wp2_with fail
        go_roundw
        case rel => exact ⟨a, m, rfl, rfl, by omega, by have := HBN.out; omega, HA.out, .inr HQ.out, HG1.out⟩
        case measure => simp [intOf]; omega
    · obtain rfl : a = b := by omega
      have HA := hide ha
      have HB := hide hb
      have HG := hide hg
      have HBN := hide hbn
      clear ha hb hg hbn
      go_wp2_with fail
      go_ret
      exact ⟨a, rfl, HBN.out, HA.out, HB.out, HG.out⟩
set_option maxHeartbeats 2000000 in
set_option maxRecDepth 100000 in
theorem search2 (bl bx bk : Nat) (n : Nat) (p : Nat → Bool) (w : World) (hn : n ≤ 200000)
    (hf : ∀ (i : Nat), i < n → ∀ w', w.grownBy w' none → Calls Try.prog 53 #[.int .i64 (i : Int), .pointer (some ⟨bl, 0, none⟩), .pointer (some ⟨bx, 0, none⟩), .pointer (some ⟨bk, 0, none⟩)] w' fun e w'' => e = .returned (.bool (p i)) ∧ w'.grownBy w'' none) :
    Calls Try.prog 54 #[.int .i64 (n : Int), .func (.func 53) #[] #[.pointer (some ⟨bl, 0, none⟩), .pointer (some ⟨bx, 0, none⟩), .pointer (some ⟨bk, 0, none⟩)]] w (SearchP n p w) := by
  have HF := hide hf
  have HN := hide hn
  clear hf
  go_enter Try.func54, Try.ntmps54
  go_wp2_with fail
  go_loopw [5, 6] (fun i j wr => ∃ (a b : Nat), i = .int .i64 (a : Int) ∧ j = .int .i64 (b : Int) ∧ a ≤ b ∧ b ≤ n ∧ (a = 0 ∨ p (a - 1) = false) ∧ (b = n ∨ p b = true) ∧ w.grownBy wr none) (fun i j _ => (intOf j).toNat - (intOf i).toNat)
  case atStart => exact ⟨0, n, rfl, rfl, Nat.zero_le _, Nat.le_refl _, .inl rfl, .inl rfl, gb_refl w none⟩
  case round =>
    obtain ⟨a, b, rfl, rfl, hab, hbn, ha, hb, hg⟩ := hrel
    by_cases hlt : a < b
    · obtain ⟨m, hm⟩ : ∃ m : Nat, m = (a + b) / 2 := ⟨_, rfl⟩
      have hma : a ≤ m := by omega
      have hmb : m < b := by omega
      have hal : a ≤ 200000 := by omega
      have hbl : b ≤ 200000 := by omega
      have hml : m ≤ 200000 := by omega
      have hdiv : ((a : Int) + (b : Int)) / 2 = (m : Int) := by omega
      have HDV := hide hdiv
      have HC := hide (HF.out m (by omega) wr hg)
      obtain ⟨q, hq⟩ : ∃ q, p m = q := ⟨_, rfl⟩
      rw [hq] at HC
      have HQ := hide hq
      have HA := hide ha
      have HB := hide hb
      have HG := hide hg
      have HBN := hide hbn
      have HM := hide hm
      clear ha hb hg hq hbn hm
      cases q
      · go_wp2_with fail
        refine HC.out.mono ?_
        rintro e w1 ⟨rfl, hg1⟩
        have HG1 := hide (gb_trans HG.out hg1 (.inl rfl))
        clear hg1
        go_wp2_with fail
        go_roundw
        case rel => exact ⟨m + 1, b, by go_num, rfl, by omega, HBN.out, .inr (by simpa using HQ.out), HB.out, HG1.out⟩
        case measure => simp [intOf]; omega
      · go_wp2_with fail
        refine HC.out.mono ?_
        rintro e w1 ⟨rfl, hg1⟩
        have HG1 := hide (gb_trans HG.out hg1 (.inl rfl))
        clear hg1
        go_wp2_with fail
        go_roundw
        case rel => exact ⟨a, m, rfl, rfl, by omega, by have := HBN.out; omega, HA.out, .inr HQ.out, HG1.out⟩
        case measure => simp [intOf]; omega
    · obtain rfl : a = b := by omega
      have HA := hide ha
      have HB := hide hb
      have HG := hide hg
      have HBN := hide hbn
      clear ha hb hg hbn
      go_wp2_with fail
      go_ret
      exact ⟨a, rfl, HBN.out, HA.out, HB.out, HG.out⟩
end Go.Proofs.Ytfdckhnhancbdaa

/- What is sorted: plain facts on Range. -/
namespace Go.Proofs.Ytfdckhnhancbdaa
open Go.RowKit

theorem cmpK_then (a b : Int × ByteArray) : cmpK a b = thenC (cmpI a.1 b.1) (cmpS a.2 b.2) := by
  unfold cmpK thenC
  by_cases h : cmpI a.1 b.1 = 0
  · rw [if_pos h, if_neg (by simp [h])]
  · rw [if_neg h, if_pos h]
theorem cmpK_all : CmpA cmpK := by
  refine ⟨fun x y => ?_, fun x y => ?_, fun x y => ?_, fun x y z => ?_⟩
  · rw [cmpK_then]; exact thenC_val (cmpI_all.val _ _) (cmpS_all.val _ _)
  · rw [cmpK_then, cmpK_then]; exact thenC_anti (cmpI_all.anti _ _) (cmpS_all.anti _ _)
  · rw [cmpK_then, thenC_zero, cmpI_all.same, cmpS_all.same]
    exact ⟨fun h => Prod.ext h.1 h.2, fun h => by rw [h]; exact ⟨rfl, rfl⟩⟩
  · rw [cmpK_then, cmpK_then, cmpK_then]
    have i1 := cmpI_all.anti
    refine thenC_trans (cmpI_all.trans _ _ _) (fun h => by rw [(cmpI_all.same _ _).1 h]) (fun h => by rw [(cmpI_all.same _ _).1 h]) (fun h => by rw [(cmpI_all.same _ _).1 h]; exact i1 _ _) (cmpS_all.trans _ _ _)
theorem fallsK_zero {es : List (Int × ByteArray)} (h : fallsK es = 0) (j : Nat) (hj : j < es.length) : fallAt es j = false := by
  have key : ∀ (l : List Nat), (l.map fun j => bI (fallAt es j)).sum = 0 → ∀ j ∈ l, fallAt es j = false := by
    intro l
    induction l with
    | nil => intro _ j hj; cases hj
    | cons a l ih =>
      intro hs j hj
      rw [List.map_cons, List.sum_cons] at hs
      have h1 := bI_in (fallAt es a)
      have h2 : ∀ l : List Nat, 0 ≤ (l.map fun j => bI (fallAt es j)).sum := fun l => by
        induction l with
        | nil => simp
        | cons a l ih => have := bI_in (fallAt es a); simp only [List.map_cons, List.sum_cons]; omega
      have h3 := h2 l
      rcases List.mem_cons.1 hj with rfl | hj
      · cases e : fallAt es j
        · rfl
        · rw [e, bI_t] at hs; omega
      · exact ih (by omega) j hj
  exact key (List.range es.length) h j (List.mem_range.2 hj)
theorem sorted_le {es : List (Int × ByteArray)} (h : fallsK es = 0) : ∀ (d i : Nat) (a b : Int × ByteArray), es[i]? = some a → es[i + d]? = some b → cmpK a b ≤ 0
  | 0, i, a, b, ha, hb => by
    rw [Nat.add_zero, ha] at hb
    cases hb
    have := (cmpK_all.same a a).2 rfl
    omega
  | d + 1, i, a, b, ha, hb => by
    have hl : i + (d + 1) < es.length := (List.getElem?_eq_some_iff.1 hb).1
    obtain ⟨c, hc⟩ : ∃ c, es[i + d]? = some c := ⟨es[i + d]'(by omega), List.getElem?_eq_getElem (by omega)⟩
    have h1 := sorted_le h d i a c ha hc
    have h2 := fallsK_zero h (i + (d + 1)) hl
    unfold fallAt at h2
    rw [hb, show i + (d + 1) - 1 = i + d by omega, hc] at h2
    have h3 : ¬ cmpK b c < 0 := by
      intro hlt
      have : decide (0 < i + (d + 1)) = true := decide_eq_true (by omega)
      simp [this, hlt] at h2
    have h4 := cmpK_all.anti b c
    exact cmpK_all.trans a c b h1 (by omega)
/-- Is the element at that place below (above) the bound? -/
def belowB (es : List (Int × ByteArray)) (lo : Option (Int × ByteArray)) (i : Nat) : Bool := match lo, es[i]? with | some k, some x => decide (cmpK x k < 0) | _, _ => false
def aboveB (es : List (Int × ByteArray)) (hi : Option (Int × ByteArray)) (i : Nat) : Bool := match hi, es[i]? with | some k, some x => decide (0 < cmpK x k) | _, _ => false
def rangeK (es : List (Int × ByteArray)) (lo hi : Option (Int × ByteArray)) : List Nat := (List.range es.length).filter fun i => !belowB es lo i && !aboveB es hi i
theorem below_mono {es : List (Int × ByteArray)} (h : fallsK es = 0) {lo : Option (Int × ByteArray)} {i j : Nat} (hij : i ≤ j) (hj : belowB es lo j = true) : belowB es lo i = true := by
  cases lo with
  | none => simp [belowB] at hj
  | some k =>
    unfold belowB at hj ⊢
    cases e : es[j]? with
    | none => rw [e] at hj; cases hj
    | some b =>
      rw [e] at hj
      have hl : j < es.length := (List.getElem?_eq_some_iff.1 e).1
      obtain ⟨a, ha⟩ : ∃ a, es[i]? = some a := ⟨es[i]'(by omega), List.getElem?_eq_getElem (by omega)⟩
      rw [ha]
      have h1 := sorted_le h (j - i) i a b ha (by rw [show i + (j - i) = j by omega]; exact e)
      have h2 : cmpK b k < 0 := of_decide_eq_true hj
      have h3 := cmpK_all.trans a b k h1 (by omega)
      refine decide_eq_true ?_
      have h4 : cmpK a k ≠ 0 := fun e0 => by
        have := (cmpK_all.same a k).1 e0
        subst this
        have := cmpK_all.anti a b
        omega
      omega
theorem above_mono {es : List (Int × ByteArray)} (h : fallsK es = 0) {hi : Option (Int × ByteArray)} {i j : Nat} (hij : i ≤ j) (hl : j < es.length) (hi' : aboveB es hi i = true) : aboveB es hi j = true := by
  cases hi with
  | none => simp [aboveB] at hi'
  | some k =>
    unfold aboveB at hi' ⊢
    obtain ⟨a, ha⟩ : ∃ a, es[i]? = some a := ⟨es[i]'(by omega), List.getElem?_eq_getElem (by omega)⟩
    obtain ⟨b, hb⟩ : ∃ b, es[j]? = some b := ⟨es[j]'(by omega), List.getElem?_eq_getElem (by omega)⟩
    rw [ha] at hi'
    rw [hb]
    have h1 := sorted_le h (j - i) i a b ha (by rw [show i + (j - i) = j by omega]; exact hb)
    have h2 : 0 < cmpK a k := of_decide_eq_true hi'
    refine decide_eq_true ?_
    have v := cmpK_all.val b k
    rcases v with v | v | v
    · have := cmpK_all.trans a b k h1 (by omega); omega
    · have := cmpK_all.trans a b k h1 (by omega); omega
    · omega
/-- The places between two turns are all that are in the range. -/
theorem range_cut {es : List (Int × ByteArray)} {lo hi : Option (Int × ByteArray)} {a b : Nat} (hb : b ≤ es.length) (h1 : ∀ i, i < a → i < es.length → belowB es lo i = true) (h2 : ∀ i, b ≤ i → i < es.length → aboveB es hi i = true) :
    rangeK es lo hi = (List.range b).filter fun i => decide (a ≤ i) && (!belowB es lo i && !aboveB es hi i) := by
  unfold rangeK
  have e : List.range es.length = List.range b ++ (List.range' b (es.length - b)) := by
    have h := @List.range'_append_1 0 b (es.length - b)
    rw [Nat.zero_add, show b + (es.length - b) = es.length by omega] at h
    rw [List.range_eq_range', List.range_eq_range']
    exact h.symm
  rw [e, List.filter_append]
  have h3 : (List.range' b (es.length - b)).filter (fun i => !belowB es lo i && !aboveB es hi i) = [] := by
    rw [List.filter_eq_nil_iff]
    intro i hi'
    obtain ⟨h4, h5⟩ := List.mem_range'_1.1 hi'
    rw [h2 i h4 (by omega)]
    simp
  rw [h3, List.append_nil]
  apply List.filter_congr
  intro i hi'
  have hib := List.mem_range.1 hi'
  by_cases hai : a ≤ i
  · simp [hai]
  · rw [h1 i (by omega) (by omega)]
    simp
end Go.Proofs.Ytfdckhnhancbdaa

/- attr's bound. -/
namespace Go.Proofs.Ytfdckhnhancbdaa
open Go.RowKit
attribute [local go_sem ↓] Go.wp_at_zero Go.wp_at_succ

/-- A bound: none, or a value behind a pointer. -/
def BdA (w : World) : Option Addr → Option Vl → Prop
  | none, none => True
  | some ad, some a => ∃ (b : Nat) (nA : Option Addr) (nc : Nat) (sA : Option Addr) (sc : Nat) (lA : Option Addr) (ll lc : Nat), ad = ⟨b, 0, none⟩ ∧ w.heap[b]? = some (.cells #[.int .i64 a.t, .slice nA a.n.length nc, .slice sA a.s.length sc, .slice lA ll lc] 26 (0, 0)) ∧ Rd w w.heap.size nA (i64s a.n) ∧ Rd w w.heap.size sA (strs a.s) ∧ a.n.length ≤ 100000 ∧ a.s.length ≤ 100000
  | _, _ => False
theorem BdA.gb {w w' : World} (hg : w.grownBy w' none) : ∀ {lo : Option Addr} {lv : Option Vl}, BdA w lo lv → BdA w' lo lv
  | none, none, h => h
  | some _, some _, ⟨b, nA, nc, sA, sc, lA, ll, lc, e, hb, h1, h2, h3⟩ => ⟨b, nA, nc, sA, sc, lA, ll, lc, e, blk_keep hb hg (by simp), (h1.grown hg (Nat.le_refl _) (by simp)).more hg.size, (h2.grown hg (Nat.le_refl _) (by simp)).more hg.size, h3⟩
  | none, some _, h => h.elim
  | some _, none, h => h.elim
theorem BdA.some_eq {w : World} : ∀ {lo : Option Addr} {lv : Option Vl}, BdA w lo lv → lo.isSome = lv.isSome
  | none, none, _ => rfl
  | some _, some _, _ => rfl
  | none, some _, h => h.elim
  | some _, none, h => h.elim
/-- The element of a bound. -/
def bdK (t : Int) : Option Vl → Option (Int × ByteArray)
  | none => some (0, noS)
  | some a => elemK t a
def erK (o : Option (Int × ByteArray)) : Int := if o.isSome then 0 else 31
theorem elem_any (base g : Nat) (f : List Nat) (mark t : Int) (es : List (Int × ByteArray)) (a : Vl) (htb : 1 ≤ t ∧ t ≤ 5) (nA : Option Addr) (nc : Nat) (sA : Option Addr) (sc : Nat) (lA : Option Addr) (lc ll : Nat) (w : World) (h : IxF w base f g mark t es)
    (hn : Rd w w.heap.size nA (i64s a.n)) (hs : Rd w w.heap.size sA (strs a.s)) (hl : a.n.length ≤ 100000 ∧ a.s.length ≤ 100000) :
    Calls Try.prog 46 #[.pointer (some ⟨g, 0, none⟩), .agg #[.int .i64 a.t, .slice nA a.n.length nc, .slice sA a.s.length sc, .slice lA ll lc]] w fun e w' => e = .returned (.tuple #[kagg ((elemK t a).getD (0, noS)), .int .i64 (erK (elemK t a))]) ∧ w.grownBy w' none := by
  cases e : elemK t a with
  | none => exact element_bad base g f mark t es a e htb nA nc sA sc lA lc ll w h hn hs hl
  | some k => exact element_ok base g f mark t es a k (elemK_some e).2 (elemK_some e).1 htb nA nc sA sc lA lc ll w h hn hs hl
set_option maxHeartbeats 2000000 in
set_option maxRecDepth 100000 in
theorem bound_any (base g : Nat) (f : List Nat) (mark t : Int) (es : List (Int × ByteArray)) (htb : 1 ≤ t ∧ t ≤ 5) (lo : Option Addr) (lv : Option Vl) (w : World) (h : IxF w base f g mark t es) (hb : BdA w lo lv) :
    Calls Try.prog 50 #[.pointer (some ⟨g, 0, none⟩), .pointer lo] w fun e w' => e = .returned (.tuple #[kagg ((bdK t lv).getD (0, noS)), .int .i64 (erK (bdK t lv))]) ∧ w.grownBy w' none := by
  obtain ⟨wa, hwa⟩ : ∃ wa, wa = w.alloc (.cells #[.int .i64 0, .string ⟨#[]⟩] 89) := ⟨_, rfl⟩
  have hga : w.grownBy wa none := by rw [hwa]; exact gb_alloc (gb_refl w none) _
  have hbk : wa.heap[w.heap.size]? = some (.cells #[.int .i64 0, .string ⟨#[]⟩] 89 (0, 0)) := by rw [hwa]; exact heap_alloc_new w _
  have HWE := hide hwa
  have HGA := hide hga
  have HBK := hide hbk
  cases lo with
  | none =>
    cases lv with
    | some a => exact hb.elim
    | none =>
      have z0 := blk_frozen hbk 0
      have z1 := blk_frozen hbk 1
      have x0 : wa.cell? ⟨w.heap.size, 0, none⟩ = some (.int .i64 0) := by rw [blk_cell hbk]; rfl
      have x1 : wa.cell? ⟨w.heap.size, 1, none⟩ = some (.string ⟨#[]⟩) := by rw [blk_cell hbk]; rfl
      clear h hb hwa hga hbk
      go_enter Try.func50, Try.ntmps50
      go_wp2_with fail
      rw [← HWE.out]
      exact bodyPost_ret (v := .tuple #[.agg #[.int .i64 0, .string ⟨#[]⟩], .int .i64 0]) (by simp [results, Try.results50, go_sem, x0, x1]) rfl ⟨rfl, HGA.out⟩
  | some ad =>
    cases lv with
    | none => exact hb.elim
    | some a =>
      obtain ⟨b, nA, nc, sA, sc, lA, ll, lc, rfl, hbb, h1, h2, h3⟩ := hb.gb hga
      have y0 : wa.cell? ⟨b, 0, none⟩ = some (.int .i64 a.t) := by rw [blk_cell hbb]; rfl
      have y1 : wa.cell? ⟨b, 1, none⟩ = some (.slice nA a.n.length nc) := by rw [blk_cell hbb]; rfl
      have y2 : wa.cell? ⟨b, 2, none⟩ = some (.slice sA a.s.length sc) := by rw [blk_cell hbb]; rfl
      have y3 : wa.cell? ⟨b, 3, none⟩ = some (.slice lA ll lc) := by rw [blk_cell hbb]; rfl
      have HE := hide (elem_any base g f mark t es a htb nA nc sA sc lA lc ll wa (h.gb hga) h1 h2 h3)
      rw [show bdK t (some a) = elemK t a from rfl]
      obtain ⟨k, hk⟩ : ∃ k, (elemK t a).getD (0, noS) = k := ⟨_, rfl⟩
      obtain ⟨er, her⟩ : ∃ er, erK (elemK t a) = er := ⟨_, rfl⟩
      rw [hk, her] at HE ⊢
      unfold kagg at HE
      rw [hwa] at HE y0 y1 y2 y3
      clear h hb hwa hga hbk hbb h1 h2 h3 hk her
      go_enter Try.func50, Try.ntmps50
      go_wp2_with fail
      refine HE.out.mono ?_
      rintro e w1 ⟨rfl, hg1⟩
      rw [← HWE.out] at hg1
      have hb1 := blk_keep HBK.out hg1 (by simp)
      have z0 := blk_frozen hb1 0
      have z1 := blk_frozen hb1 1
      have x0 : w1.cell? ⟨w.heap.size, 0, none⟩ = some (.int .i64 0) := by rw [blk_cell hb1]; rfl
      have x1 : w1.cell? ⟨w.heap.size, 1, none⟩ = some (.string ⟨#[]⟩) := by rw [blk_cell hb1]; rfl
      have HB1 := hide hb1
      have HG1 := hide (gb_trans HGA.out hg1 (.inl rfl))
      clear hb1 hg1 y0 y1 y2 y3
      go_wp2_with fail
      have hb := blk_set (blk_set HB1.out 0 (.int .i64 k.1)) 1 (.string k.2)
      have m0 := blk_cell hb 0
      have m1 := blk_cell hb 1
      simp at m0 m1
      unfold kagg
      refine bodyPost_ret (v := .tuple #[.agg #[.int .i64 k.1, .string k.2], .int .i64 er]) (by simp [results, Try.results50, go_sem, m0, m1]) rfl ⟨rfl, ?_⟩
      exact gb_setCell (p := ⟨w.heap.size, 1, none⟩) (gb_setCell (p := ⟨w.heap.size, 0, none⟩) HG1.out (.inr (Nat.le_refl _)) _) (.inr (Nat.le_refl _)) _
end Go.Proofs.Ytfdckhnhancbdaa
