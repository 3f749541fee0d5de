/-
  attr's Build.
-/
import Derived.Test.YtfdckhnhancbdaaAj
namespace Go.Proofs.Ytfdckhnhancbdaa
open Go.RowKit
attribute [local go_sem ↓] Go.wp_at_zero Go.wp_at_succ

/-- The elements of a value. -/
def keysV (v : Vl) : List (Int × ByteArray) := if v.t = 3 ∨ v.t = -3 then v.s.map (fun x => ((0 : Int), x)) else v.n.map (fun x => (x, noS))
theorem keys_any (v : Vl) (nA : Option Addr) (nc : Nat) (sA : Option Addr) (sc : Nat) (lv : Value) (B : Nat) (w : World) (hn : Rd w B nA (i64s v.n)) (hs : Rd w B sA (strs v.s)) (hB : B ≤ w.heap.size) (hl : v.n.length ≤ 1000000 ∧ v.s.length ≤ 1000000) :
    Calls Try.prog 35 #[.agg #[.int .i64 v.t, .slice nA v.n.length nc, .slice sA v.s.length sc, lv]] w (KeysP (keysV v) w) := by
  unfold keysV
  by_cases h : v.t = 3 ∨ v.t = -3
  · rw [if_pos h]
    exact keysS_any v.t h v.s _ _ _ sA sc B rfl w hs hB hl.2
  · rw [if_neg h]
    exact keysN_any v.t (by omega) v.n _ _ _ nA nc B rfl w hn hB hl.1
theorem keysV_len (v : Vl) (n : Nat) (h : v.n.length ≤ n ∧ v.s.length ≤ n) : (keysV v).length ≤ n := by
  unfold keysV
  split
  · rw [List.length_map]; exact h.2
  · rw [List.length_map]; exact h.1
theorem fallsK_nil : fallsK [] = 0 := rfl
theorem IxF.made (w : World) (mark t : Int) : IxF ((w.alloc (.map #[] 0)).alloc (.cells #[.int .i64 mark, .int .i64 t, .slice none 0 0, .int .i64 0, .int .i64 0, .map (some w.heap.size)] 77)) w.heap.size [w.heap.size + 1, w.heap.size] (w.heap.size + 1) mark t [] := by
  obtain ⟨w1, hw1⟩ : ∃ w1, w1 = w.alloc (.map #[] 0) := ⟨_, rfl⟩
  have hs : w1.heap.size = w.heap.size + 1 := by rw [hw1]; simp
  have hb := heap_alloc_new w1 (.cells #[.int .i64 mark, .int .i64 t, .slice none 0 0, .int .i64 0, .int .i64 0, .map (some w.heap.size)] 77)
  have hm : MapK encP w1 w.heap.size ([] : List ((Int × ByteArray) × Value)) := by rw [hw1]; exact MapK.made w
  rw [← hw1]
  rw [hs] at hb
  refine ⟨.slice none 0 0, w.heap.size, [], ⟨hb, World.ownsRow_nil _ _ _ 2, by simp [Value.ownBlock]⟩, hm.alloc _, by simp, PlOK.nil_, ?_, ?_, by omega, Nat.le_refl _⟩
  · simp [Value.ownBlock, trB]
  · simp
theorem own_less {w : World} {base base' n size : Nat} {t : TypeId} {v : Value} {xs : List Value} (ho : w.ownsRow base t size v n xs) (h : base' ≤ base) : w.ownsRow base' t size v n xs := by
  refine ⟨ho.1, ?_⟩
  rcases ho.2 with h2 | ⟨g, cap, cur, rfl, h4, h5, h6⟩
  · exact .inl h2
  · exact .inr ⟨g, cap, cur, rfl, Nat.le_trans h h4, h5, h6⟩
theorem IxF.less {w : World} {base base' g : Nat} {f : List Nat} {mark t : Int} {es : List (Int × ByteArray)} (h : IxF w base f g mark t es) (hb : base' ≤ base) : IxF w base' f g mark t es := by
  obtain ⟨v, mb, tr, h⟩ := h
  exact ⟨v, mb, tr, ⟨h.col.blk, own_less h.col.own hb, h.col.ne⟩, h.map, fun x hx => own_less (h.rows x hx) hb, h.pl, h.foot, h.nd, Nat.le_trans hb h.bg.1, Nat.le_trans hb h.bg.2⟩
/-- What Build leaves. -/
def BuildP (mark t : Int) (es : List (Int × ByteArray)) (w : World) (e : Ending) (w' : World) : Prop :=
  w.grownBy w' none ∧ (if holdsK mark es = true then ∃ f g, e = .returned (.tuple #[.pointer (some ⟨g, 0, none⟩), .int .i64 0]) ∧ IxF w' w.heap.size f g mark t es else e = .returned (.tuple #[.pointer none, .int .i64 90]))
set_option maxHeartbeats 2000000 in
set_option maxRecDepth 100000 in
theorem build_any (mark : Int) (hm : Mark3 mark) (v : Vl) (ht : 1 ≤ v.t ∧ v.t ≤ 5) (nA : Option Addr) (nc : Nat) (sA : Option Addr) (sc : Nat) (lA : Option Addr) (lc ll : Nat) (w : World) (hn : Rd w w.heap.size nA (i64s v.n)) (hs : Rd w w.heap.size sA (strs v.s)) (hl : v.n.length ≤ 100000 ∧ v.s.length ≤ 100000) :
    Calls Try.prog 9 #[.int .i64 mark, .agg #[.int .i64 v.t, .slice nA v.n.length nc, .slice sA v.s.length sc, .slice lA ll lc]] w (BuildP mark v.t (keysV v) w) := by
  have hmm := @run_makeMap Try.prog
  obtain ⟨wa, hwa⟩ : ∃ wa, wa = w.alloc (.cells #[.int .i64 v.t, .slice nA v.n.length nc, .slice sA v.s.length sc, .slice lA ll lc] 26) := ⟨_, rfl⟩
  have hga : w.grownBy wa none := by rw [hwa]; exact gb_alloc (gb_refl w none) _
  have hba : wa.heap[w.heap.size]? = some (.cells #[.int .i64 v.t, .slice nA v.n.length nc, .slice sA v.s.length sc, .slice lA ll lc] 26 (0, 0)) := by rw [hwa]; exact heap_alloc_new w _
  have HF := hide (fun w => fault_ok mark v.t (.slice nA v.n.length nc) (.slice sA v.s.length sc) (.slice lA ll lc) (by rcases hm with rfl | rfl | rfl <;> omega) ht w)
  have HBA := hide hba
  have HGA := hide hga
  have HWE := hide hwa
  have HN := hide (hn.grown hga (Nat.le_refl _) (by simp))
  have HS := hide (hs.grown hga (Nat.le_refl _) (by simp))
  have HL := hide hl
  have HM := hide hm
  have y0 : wa.cell? ⟨w.heap.size, 0, none⟩ = some (.int .i64 v.t) := by rw [blk_cell hba]; rfl
  have y1 : wa.cell? ⟨w.heap.size, 1, none⟩ = some (.slice nA v.n.length nc) := by rw [blk_cell hba]; rfl
  have y2 : wa.cell? ⟨w.heap.size, 2, none⟩ = some (.slice sA v.s.length sc) := by rw [blk_cell hba]; rfl
  have y3 : wa.cell? ⟨w.heap.size, 3, none⟩ = some (.slice lA ll lc) := by rw [blk_cell hba]; rfl
  clear hm hwa hga hba hn hs hl
  go_enter Try.func9, Try.ntmps9
  go_wp2_with fail
  rw [← HWE.out]
  refine (HF.out _).mono ?_
  rintro e w1 ⟨rfl, hg1⟩
  have hb1 := blk_keep HBA.out hg1 (by simp)
  have hlt := blk_lt hb1
  have y0 : ∀ o o', ((w1.alloc o).alloc o').cell? ⟨w.heap.size, 0, none⟩ = some (.int .i64 v.t) := fun o o' => by rw [World.cell?_alloc_lt _ o' _ (by simp; omega), World.cell?_alloc_lt _ o _ hlt, blk_cell hb1]; rfl
  have y1 : ∀ o o', ((w1.alloc o).alloc o').cell? ⟨w.heap.size, 1, none⟩ = some (.slice nA v.n.length nc) := fun o o' => by rw [World.cell?_alloc_lt _ o' _ (by simp; omega), World.cell?_alloc_lt _ o _ hlt, blk_cell hb1]; rfl
  have y2 : ∀ o o', ((w1.alloc o).alloc o').cell? ⟨w.heap.size, 2, none⟩ = some (.slice sA v.s.length sc) := fun o o' => by rw [World.cell?_alloc_lt _ o' _ (by simp; omega), World.cell?_alloc_lt _ o _ hlt, blk_cell hb1]; rfl
  have y3 : ∀ o o', ((w1.alloc o).alloc o').cell? ⟨w.heap.size, 3, none⟩ = some (.slice lA ll lc) := fun o o' => by rw [World.cell?_alloc_lt _ o' _ (by simp; omega), World.cell?_alloc_lt _ o _ hlt, blk_cell hb1]; rfl
  have x0 : w1.cell? ⟨w.heap.size, 0, none⟩ = some (.int .i64 v.t) := by rw [blk_cell hb1]; rfl
  have HB1 := hide hb1
  have HG1 := hide hg1
  clear hb1 hg1 hlt
  go_wp2_with fail
  obtain ⟨w2, hw2⟩ : ∃ w2, w2 = (w1.alloc (.map #[] 0)).alloc (.cells #[.int .i64 mark, .int .i64 v.t, .slice none 0 0, .int .i64 0, .int .i64 0, .map (some w1.heap.size)] 77) := ⟨_, rfl⟩
  have hg2 : w.grownBy w2 none := by rw [hw2]; exact gb_alloc (gb_alloc (gb_trans HGA.out HG1.out (.inl rfl)) _) _
  have hI : IxF w2 w1.heap.size [w1.heap.size + 1, w1.heap.size] (w1.heap.size + 1) mark v.t [] := by rw [hw2]; exact IxF.made w1 mark v.t
  have hs2 : w2.heap.size = w1.heap.size + 2 := by rw [hw2]; simp
  rw [← hw2]
  have hg12 : w1.grownBy w2 none := by rw [hw2]; exact gb_alloc (gb_alloc (gb_refl w1 none) _) _
  have hga2 : wa.grownBy w2 none := gb_trans HG1.out hg12 (.inl rfl)
  have HIX := hide hI
  have HG2 := hide hg2
  have HS2 := hide hs2
  have HKS := hide (keys_any v nA nc sA sc (.slice lA ll lc) w.heap.size w2 (HN.out.grown hga2 HGA.out.size (by simp)) (HS.out.grown hga2 HGA.out.size (by simp)) hg2.size ⟨by have := HL.out; omega, by have := HL.out; omega⟩)
  have HKL := hide (keysV_len v 100000 HL.out)
  clear hw2 hI hs2 hg12 hga2 y0 y1 y2 y3 x0 hg2
  refine HKS.out.mono ?_
  rintro e w3 ⟨b, rfl, hb, hrd, hg3⟩
  have HRD := hide hrd
  have HG3 := hide hg3
  have HB := hide hb
  have HAD := hide (add_any w1.heap.size (w1.heap.size + 1) [w1.heap.size + 1, w1.heap.size] mark v.t [] (keysV v) (some ⟨b, 0, none⟩) (keysV v).length (keysV v).length w3.heap.size w3 (HIX.out.gb hg3) hrd (Nat.le_refl _) rfl (fun ad ha _ hm => by
    cases ha
    have h2 := HS2.out
    have : b = w1.heap.size + 1 ∨ b = w1.heap.size := by simpa using hm
    omega) (by have := HKL.out; simp; omega) (by have := HS2.out; have := hg3.size; omega))
  rw [List.nil_append] at HAD
  clear hrd hg3 hb
  go_wp2_with fail
  refine HAD.out.mono ?_
  rintro e w4 ⟨f, rfl, hI4, hW4, hf4⟩
  have HI4 := hide hI4
  have HG4 := hide (hW4.gb (gb_trans HG2.out HG3.out (.inl rfl)) (fun x hx => by
    have h1 := HGA.out.size
    have h2 := HG1.out.size
    have : x = w1.heap.size + 1 ∨ x = w1.heap.size := by simpa using hx
    omega))
  have HST := hide (stays_any w1.heap.size (w1.heap.size + 1) f mark v.t (keysV v) w4 hI4 HM.out)
  clear hI4 hW4 hf4
  unfold StaysP at HST
  obtain ⟨hb, hh⟩ : ∃ hb, holdsK mark (keysV v) = hb := ⟨_, rfl⟩
  rw [hh] at HST
  have HHB := hide hh
  have HLE := hide (show w.heap.size ≤ w1.heap.size from Nat.le_trans HGA.out.size HG1.out.size)
  clear hh
  cases hb
  · go_wp2_with fail
    refine HST.out.mono ?_
    rintro e w5 ⟨rfl, hI5, hg5⟩
    have HG5 := hide (gb_trans HG4.out hg5 (.inr (.inr ⟨_, rfl, by have := HLE.out; omega⟩)))
    clear hI5 hg5
    go_wp2_with fail
    go_ret2
    refine ⟨HG5.out, ?_⟩
    rw [if_neg (by rw [HHB.out]; decide)]
    rfl
  · go_wp2_with fail
    refine HST.out.mono ?_
    rintro e w5 ⟨rfl, hI5, hg5⟩
    have HI5 := hide (show IxF w5 w1.heap.size f (w1.heap.size + 1) mark v.t (keysV v) from hI5)
    have HG5 := hide (gb_trans HG4.out hg5 (.inr (.inr ⟨_, rfl, by have := HLE.out; omega⟩)))
    clear hI5 hg5
    go_wp2_with fail
    go_ret2
    refine ⟨HG5.out, ?_⟩
    rw [if_pos HHB.out]
    exact ⟨f, w1.heap.size + 1, rfl, HI5.out.less HLE.out⟩
end Go.Proofs.Ytfdckhnhancbdaa
