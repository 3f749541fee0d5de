/-
  What is named; too many; too long; depth.
-/
import Derived.Test.YtgepejnooghjbaaGreatQad
import Derived.Shelf.Small.Strs
import Derived.Shelf.Strings.Search1

namespace Go.Proofs.YtgepejnooghjbaaGreat
open Go.RowKit
attribute [local go_sem ↓] Go.wp_at_zero Go.wp_at_succ

/-- A new value, and no error. -/
def NewE (v : Vl) (w : World) (e : Ending) (w' : World) : Prop := ∃ nA nc sA sc lA lc f, e = .returned (.tuple #[.agg #[.int .i64 v.t, .slice nA v.n.length nc, .slice sA v.s.length sc, .slice lA v.l.length lc], .int .i64 0]) ∧
  VOw w' v [.int .i64 v.t, .slice nA v.n.length nc, .slice sA v.s.length sc, .slice lA v.l.length lc] f ∧ New w w' f ∧ w.grownBy w' none

theorem elemV_tot (c : Vl) (i : Nat) (h : i < c.count) : (elemV c i).tot ≤ c.tot := by
  have ht := Vl.tot_def c
  unfold elemV
  split
  · rename_i h0
    rw [Vl.count_def, h0] at h
    simp at h
    rw [List.getD_eq_getElem?_getD, List.getElem?_eq_getElem h, Option.getD_some]
    have := Vl.tot_mem (List.getElem_mem h)
    omega
  · split
    · rename_i h3
      rw [Vl.count_def, h3] at h
      simp at h
      rw [List.getD_eq_getElem?_getD, List.getElem?_eq_getElem h, Option.getD_some]
      have h1 := Vl.chars_take c.s i h
      have h2 := Vl.chars_take_le c.s (i + 1)
      rw [Vl.tot_def]
      show 1 + 0 + 1 + Vl.chars [c.s[i]] + 0 ≤ c.tot
      have : Vl.chars [c.s[i]] = c.s[i].size := by simp [Vl.chars]
      omega
    · split
      · rename_i h0 h3 hp
        have hmem : c.t = 1 ∨ c.t = 2 ∨ c.t = 4 ∨ c.t = 5 := by
          have h := hp.2
          have h' := hp.1
          unfold hasN at h
          simp only [Bool.or_eq_true, beq_iff_eq] at h
          omega
        rw [Vl.count_def, if_pos hmem] at h
        rw [Vl.tot_def]
        show 1 + 1 + 0 + 0 + 0 ≤ c.tot
        omega
      · exact Nat.le_refl _

/-- Is there such a row? -/
def rowOk (ts : List Vl) (i : Int) : Prop := ∀ t ∈ ts, ∀ c ∈ t.l, 0 ≤ i ∧ i < (c.count : Int)
/-- The row of tables side by side. -/
def rowV (ts : List Vl) (i : Nat) : Vl := .mk 99 [] [] [.mk 3 [] (ts.flatMap Vl.s) [], ofV ((ts.flatMap Vl.l).map fun c => elemV c i)]
def RowPost (ts : List Vl) (i : Int) (w : World) (e : Ending) (w' : World) : Prop := (rowOk ts i ∧ NewE (rowV ts i.toNat) w e w') ∨ (¬ rowOk ts i ∧ ErrV 33 w e w')

/-- What was gathered so far: names n, elements x. -/
def Gath (w : World) (B : Nat) (n : List ByteArray) (x : List Vl) (N E : Value) (wr : World) : Prop := ∃ nA nc eA ec xs, N = .slice nA n.length nc ∧ E = .slice eA x.length ec ∧ wr.ownsRow (w.heap.size + 1) 9 1 N n.length (strs n) ∧
  wr.ownsRow (w.heap.size + 1) 26 4 E x.length (List.flatten xs) ∧ VAll wr B x xs ∧ w.grownBy wr none ∧ wr.heap[w.heap.size]? = some (.cells #[.int .i64 0, .slice none 0 0, .slice none 0 0, .slice none 0 0] 26 (0, 0))
theorem VAll.grown {w w' : World} {B : Nat} {l : List Vl} {xs : List (List Value)} (h : VAll w B l xs) {row : Option Nat} (hg : w.grownBy w' row) (hB : B ≤ w.heap.size) (hr : ∀ g, row = some g → B ≤ g) : VAll w' B l xs :=
  VAll.mk_ h.length fun i h1 h2 => by
    obtain ⟨_, h8⟩ := h.at_ h1
    exact h8.grown hg hB hr
theorem VAll.snoc {w : World} {B : Nat} {v : Vl} {c : List Value} : ∀ (l : List Vl) (xs : List (List Value)), VAll w B l xs → VAt w B v c → VAll w B (l ++ [v]) (xs ++ [c])
  | [], xs, h, k => by
    simp only [VAll] at h
    subst h
    exact ⟨c, [], rfl, k, rfl⟩
  | a :: r, xs, h, k => by
    obtain ⟨d, q, rfl, h1, h2⟩ := h
    exact ⟨d, q ++ [c], rfl, h1, VAll.snoc r q h2 k⟩
/-- A step that leaves what was gathered. -/
theorem Gath.keep {w wr w2 : World} {B : Nat} {n : List ByteArray} {x : List Vl} {N E : Value} (h : Gath w B n x N E wr) (hg : wr.grownBy w2 none) (hB : B ≤ w.heap.size) : Gath w B n x N E w2 := by
  obtain ⟨nA, nc, eA, ec, xs, h1, h2, h3, h4, h5, h6, h7⟩ := h
  exact ⟨nA, nc, eA, ec, xs, h1, h2, h3.kept hg (by cases N.ownBlock <;> simp), h4.kept hg (by cases E.ownBlock <;> simp), h5.grown hg (Nat.le_trans hB h6.size) (by simp), gb_trans h6 hg (.inl rfl), (hg.block _ (blk_lt h7) (by simp)).trans h7⟩
theorem Gath.names {w wr w2 : World} {B : Nat} {n m : List ByteArray} {x : List Vl} {N N2 E : Value} (h : Gath w B n x N E wr) (hB : B ≤ w.heap.size) (ho : w2.ownsRow (w.heap.size + 1) 9 1 N2 (n.length + m.length) (strs n ++ strs m)) (hg : wr.grownBy w2 N.ownBlock) : Gath w B (n ++ m) x N2 E w2 := by
  obtain ⟨nA, nc, eA, ec, xs, h1, h2, h3, h4, h5, h6, h7⟩ := h
  obtain ⟨A, c, rfl, _⟩ := own_slice ho
  have hlt := h3.lt
  rw [← strs_app] at ho
  refine ⟨A, c, eA, ec, xs, by rw [List.length_append], h2, by rw [List.length_append]; exact ho, h4.kept hg (rows_apart h4 h3 (by decide)), h5.grown hg (Nat.le_trans hB h6.size) (fun g e => by have := (hlt g e).1; omega), ?_, ?_⟩
  · exact gb_trans h6 hg (match hq : N.ownBlock with | none => .inr (.inl rfl) | some g => .inr (.inr ⟨g, rfl, by have := (hlt g hq).1; omega⟩))
  · exact (hg.block _ (blk_lt h7) (fun e => by have := (hlt _ e.symm).1; omega)).trans h7
end Go.Proofs.YtgepejnooghjbaaGreat

/- value.row: its walk. -/
namespace Go.Proofs.YtgepejnooghjbaaGreat
open Go.RowKit
attribute [local go_sem ↓] Go.wp_at_zero Go.wp_at_succ

theorem elem_gotI (v : Vl) (i : Int) (w : World) (B : Nat) (nA : Option Addr) (nc : Nat) (sA : Option Addr) (sc : Nat) (lA : Option Addr) (lc : Nat) (hi : 0 ≤ i ∧ i < (v.count : Int)) (ht : v.tot ≤ 1100000) (hB : B ≤ w.heap.size) (h : VB w B v nA nc sA sc lA lc) :
    Calls Tryz.prog 142 #[.agg #[.int .i64 v.t, .slice nA v.n.length nc, .slice sA v.s.length sc, .slice lA v.l.length lc], .int .i64 i] w (GotV (elemV v i.toNat) w B) := by
  obtain ⟨k, rfl⟩ := Int.eq_ofNat_of_zero_le hi.1
  exact elem_got v k w B nA nc sA sc lA lc (by omega) ht hB h
/-- What was gathered has room. -/
theorem Gath.parts {w wr : World} {B : Nat} {n : List ByteArray} {x : List Vl} {N E : Value} (h : Gath w B n x N E wr) : ∃ nA nc eA ec xs, N = .slice nA n.length nc ∧ E = .slice eA x.length ec ∧ wr.ownsRow (w.heap.size + 1) 9 1 (.slice nA n.length nc) n.length (strs n) ∧
  wr.ownsRow (w.heap.size + 1) 26 4 (.slice eA x.length ec) x.length (List.flatten xs) ∧ VAll wr B x xs ∧ w.grownBy wr none ∧ wr.heap[w.heap.size]? = some (.cells #[.int .i64 0, .slice none 0 0, .slice none 0 0, .slice none 0 0] 26 (0, 0)) := by
  obtain ⟨nA, nc, eA, ec, xs, rfl, rfl, h⟩ := h
  exact ⟨nA, nc, eA, ec, xs, rfl, rfl, h⟩
end Go.Proofs.YtgepejnooghjbaaGreat

/- value.all over values. -/
namespace Go.Proofs.YtgepejnooghjbaaGreat
open Go.RowKit
attribute [local go_sem ↓] Go.wp_at_zero Go.wp_at_succ

def isTab (v : Vl) : Bool := v.t == 98
set_option maxHeartbeats 4000000 in
set_option maxRecDepth 100000 in
theorem isTab_any (v : Vl) (c1 c2 c3 : Value) (w : World) : Calls Tryz.prog 139 #[.agg #[.int .i64 v.t, c1, c2, c3]] w fun e w' => e = .returned (.bool (isTab v)) ∧ w.grownBy w' none := by
  have HA := hide (show (v.t == 98) = isTab v from rfl)
  go_enter Tryz.func139, Tryz.ntmps139
  go_wp2_with fail
  go_ret
  exact ⟨ret_b HA.out, gb_alloc (gb_refl w none) _⟩
/-! ## all of them: isTable -/

/-! ## all of them: isSequence -/

end Go.Proofs.YtgepejnooghjbaaGreat

/- value.At. -/
namespace Go.Proofs.YtgepejnooghjbaaGreat
open Go.RowKit
attribute [local go_sem ↓] Go.wp_at_zero Go.wp_at_succ

theorem NewE.fin {x : Vl} {w wa w1 : World} {g : Nat} {xA : Option Addr} {xc : Nat} {yA : Option Addr} {yc : Nat} {zA : Option Addr} {zc : Nat} {f : List Nat} (h : VOw w1 x [.int .i64 x.t, .slice xA x.n.length xc, .slice yA x.s.length yc, .slice zA x.l.length zc] f) (hn : New wa w1 f) (hg : w.grownBy wa none) (hg1 : wa.grownBy w1 none) (hgs : w.heap.size ≤ g) (hga : g < wa.heap.size) :
    NewE x w (.returned (.tuple #[.agg #[.int .i64 x.t, .slice xA x.n.length xc, .slice yA x.s.length yc, .slice zA x.l.length zc], .int .i64 0])) (put4 w1 g 0 (.int .i64 x.t) (.slice xA x.n.length xc) (.slice yA x.s.length yc) (.slice zA x.l.length zc)) := by
  have s1 := hg1.size
  have s4 := put4_size w1 g 0 (.int .i64 x.t) (.slice xA x.n.length xc) (.slice yA x.s.length yc) (.slice zA x.l.length zc)
  refine ⟨xA, xc, yA, yc, zA, zc, f, rfl, VOw.keep _ _ _ h fun b hb => ?_, (hn.less hg.size).more (by omega), put4_to (gb_trans hg hg1 (.inl rfl)) hgs⟩
  have := hn.2 b hb
  exact (put4_gb w1 g 0 _ _ _ _).block b (by omega) (by intro e; injection e with e; omega)

/-- What At answers. -/
def AtPost (r : Option Vl) (w : World) (e : Ending) (w' : World) : Prop := match r with
  | some x => NewE x w e w'
  | none => ErrV 33 w e w'
def rowB (ts : List Vl) (i : Int) : Bool := ts.all fun t => t.l.all fun c => decide (0 ≤ i) && decide (i < (c.count : Int))
theorem rowB_iff (ts : List Vl) (i : Int) : rowB ts i = true ↔ rowOk ts i := by
  unfold rowB rowOk
  simp only [List.all_eq_true, Bool.and_eq_true, decide_eq_true_eq]
theorem AtPost.row {ts : List Vl} {i : Int} {w w' : World} {e : Ending} (h : RowPost ts i w e w') : AtPost (if rowB ts i = true then some (rowV ts i.toNat) else none) w e w' := by
  rcases h with ⟨h1, h2⟩ | ⟨h1, h2⟩
  · rw [if_pos ((rowB_iff ts i).2 h1)]; exact h2
  · rw [if_neg (fun h => h1 ((rowB_iff ts i).1 h))]; exact h2

set_option maxHeartbeats 8000000 in
set_option maxRecDepth 100000 in
theorem at_else (v : Vl) (i : Int) (w : World) (B : Nat) (nA : Option Addr) (nc : Nat) (sA : Option Addr) (sc : Nat) (lA : Option Addr) (lc : Nat) (ht98 : ¬ v.t = 98) (ht99 : ¬ (v.t = 99 ∧ v.l.length = 2)) (ht : v.tot ≤ 500000) (hB : B ≤ w.heap.size) (h : VB w B v nA nc sA sc lA lc) :
    Calls Tryz.prog 94 #[.agg #[.int .i64 v.t, .slice nA v.n.length nc, .slice sA v.s.length sc, .slice lA v.l.length lc], .int .i64 i] w (AtPost (if 0 ≤ i ∧ i < (v.count : Int) then some (elemV v i.toNat) else none) w) := by
  obtain ⟨l1, l2, l3, l4⟩ := Vl.lens v (by omega)
  obtain ⟨wa, hwa⟩ : ∃ wa, wa = (w.alloc (.cells #[.int .i64 v.t, .slice nA v.n.length nc, .slice sA v.s.length sc, .slice lA v.l.length lc] 26)).alloc (.cells #[.int .i64 0, .slice none 0 0, .slice none 0 0, .slice none 0 0] 26) := ⟨_, rfl⟩
  have hg : w.grownBy wa none := by rw [hwa]; exact gb_alloc (gb_alloc (gb_refl w none) _) _
  have hc := (C4.box w (.int .i64 v.t) (.slice nA v.n.length nc) (.slice sA v.s.length sc) (.slice lA v.l.length lc) 26).gb (gb_alloc (gb_refl _ none) (.cells #[.int .i64 0, .slice none 0 0, .slice none 0 0, .slice none 0 0] 26))
  have hrb : wa.heap[w.heap.size + 1]? = some (.cells #[.int .i64 0, .slice none 0 0, .slice none 0 0, .slice none 0 0] 26 (0, 0)) := by rw [hwa]; exact alloc2_blk w _ _
  rw [← hwa] at hc
  have hbw := Nat.le_trans hB hg.size
  have HSZ := hide (show wa.heap.size = w.heap.size + 2 by rw [hwa]; simp)
  have HV := hide (h.gb hg hB)
  have HBW := hide hbw
  have HG := hide hg
  have HRB := hide hrb
  have HC := hide hc
  have HWE := hide hwa
  have HTT := hide ht
  have HIT := hide (fun w2 => isTab_any v (.slice nA v.n.length nc) (.slice sA v.s.length sc) (.slice lA v.l.length lc) w2)
  have htt : isTab v = false := int_beq_f ht98
  rw [htt] at HIT
  have ht' : v.tot ≤ 1100000 := by omega
  have HEG := hide (fun w2 (k : wa.grownBy w2 none) (hin : 0 ≤ i ∧ i < (v.count : Int)) => elem_gotI v i w2 B nA nc sA sc lA lc hin ht' (Nat.le_trans hbw k.size) ((h.gb hg hB).gb k hbw))
  have HEE := hide (fun w2 (k : wa.grownBy w2 none) (hin : i < 0 ∨ (v.count : Int) ≤ i) => elem_err v i w2 B nA nc sA sc lA lc hin ht' (Nat.le_trans hbw k.size) ((h.gb hg hB).gb k hbw))
  have HET := hide (fun (hin : 0 ≤ i ∧ i < (v.count : Int)) => Nat.le_trans (elemV_tot v i.toNat (by omega)) ht')
  have hcase : v.t = 99 ∧ ¬ v.l.length = 2 ∨ ¬ v.t = 99 := by
    by_cases h99 : v.t = 99
    · exact .inl ⟨h99, fun h => ht99 ⟨h99, h⟩⟩
    · exact .inr h99
  have HB := hide hB
  clear hB h hg hwa hrb hc hbw ht ht98 ht99 htt ht'
  by_cases hin : 0 ≤ i ∧ i < (v.count : Int)
  · rw [if_pos hin]
    have HE1 := hide (fun w2 k => HEG.out w2 k hin)
    have HET1 := hide (HET.out hin)
    generalize elemV v i.toNat = x at *
    clear hin HEG HEE HET
    rcases hcase with ⟨h1, h2⟩ | h1
    · have e99 := int_beq_t h1
      have e2 : ((v.l.length : Int) == 2) = false := beq_eq_false_iff_ne.2 (by omega)
      clear h1 h2
      go_enter Tryz.func94, Tryz.ntmps94
      go_wp2_with fail
      rw [← HWE.out]
      refine (HIT.out wa).mono ?_
      rintro e w1 ⟨rfl, hg1⟩
      obtain ⟨c0, c1, c2, c3⟩ := HC.out.gb hg1
      have b0 : w1.cell? ⟨w.heap.size, 0, none⟩ = some (.int .i64 v.t) := c0
      have b1 : w1.cell? ⟨w.heap.size, 1, none⟩ = some (.slice nA v.n.length nc) := c1
      have b2 : w1.cell? ⟨w.heap.size, 2, none⟩ = some (.slice sA v.s.length sc) := c2
      have b3 : w1.cell? ⟨w.heap.size, 3, none⟩ = some (.slice lA v.l.length lc) := c3
      have HG1 := hide hg1
      clear hg1 c0 c1 c2 c3
      go_wp2_with fail
      refine (HE1.out w1 HG1.out).mono ?_
      rintro e w2 ⟨xA, xc, yA, yc, zA, zc, rfl, hvb, hg2⟩
      have hgA : wa.grownBy (w2.alloc (.cells #[.int .i64 x.t, .slice xA x.n.length xc, .slice yA x.s.length yc, .slice zA x.l.length zc] 26)) none := gb_alloc (gb_trans HG1.out hg2 (.inl rfl)) _
      have HCL := hide (vClone_any x _ B xA xc yA yc zA zc HET1.out (Nat.le_trans HBW.out hgA.size) (hvb.gb (gb_alloc (gb_refl w2 none) (.cells #[.int .i64 x.t, .slice xA x.n.length xc, .slice yA x.s.length yc, .slice zA x.l.length zc] 26)) (Nat.le_trans HBW.out (gb_trans HG1.out hg2 (.inl rfl)).size)))
      have HGA := hide hgA
      clear hvb hg2 hgA
      go_wp2_with fail
      refine HCL.out.mono ?_
      rintro e w3 ⟨nA', nc', sA', sc', lA', lc', f, rfl, ho, hn, hg3⟩
      have HO := hide ho
      have HN := hide hn
      have HG3 := hide hg3
      have hr1 := ((gb_trans HGA.out HG3.out (.inl rfl)).block _ (blk_lt HRB.out) (by simp)).trans HRB.out
      have p0 : w3.cell? ⟨w.heap.size + 1, 0, none⟩ = some (.int .i64 0) := by rw [blk_cell hr1]; rfl
      have p1 : w3.cell? ⟨w.heap.size + 1, 1, none⟩ = some (.slice none 0 0) := by rw [blk_cell hr1]; rfl
      have p2 : w3.cell? ⟨w.heap.size + 1, 2, none⟩ = some (.slice none 0 0) := by rw [blk_cell hr1]; rfl
      have p3 : w3.cell? ⟨w.heap.size + 1, 3, none⟩ = some (.slice none 0 0) := by rw [blk_cell hr1]; rfl
      have z0 := blk_frozen hr1 0
      have z1 := blk_frozen hr1 1
      have z2 := blk_frozen hr1 2
      have z3 := blk_frozen hr1 3
      clear ho hn hg3 hr1
      go_wp2_with fail
      refine bodyPost_ret (v := .tuple #[.agg #[.int .i64 x.t, .slice nA' x.n.length nc', .slice sA' x.s.length sc', .slice lA' x.l.length lc'], .int .i64 0]) (by simp [results, Tryz.results94, go_sem, p0, p1, p2, p3]) rfl ?_
      exact NewE.fin HO.out (HN.out.less HGA.out.size) HG.out (gb_trans HGA.out HG3.out (.inl rfl)) (by omega) (by have := HSZ.out; omega)
    · have e99 := int_beq_f h1
      clear h1
      go_enter Tryz.func94, Tryz.ntmps94
      go_wp2_with fail
      rw [← HWE.out]
      refine (HIT.out wa).mono ?_
      rintro e w1 ⟨rfl, hg1⟩
      obtain ⟨c0, c1, c2, c3⟩ := HC.out.gb hg1
      have b0 : w1.cell? ⟨w.heap.size, 0, none⟩ = some (.int .i64 v.t) := c0
      have b1 : w1.cell? ⟨w.heap.size, 1, none⟩ = some (.slice nA v.n.length nc) := c1
      have b2 : w1.cell? ⟨w.heap.size, 2, none⟩ = some (.slice sA v.s.length sc) := c2
      have b3 : w1.cell? ⟨w.heap.size, 3, none⟩ = some (.slice lA v.l.length lc) := c3
      have HG1 := hide hg1
      clear hg1 c0 c1 c2 c3
      go_wp2_with fail
      refine (HE1.out w1 HG1.out).mono ?_
      rintro e w2 ⟨xA, xc, yA, yc, zA, zc, rfl, hvb, hg2⟩
      have hgA : wa.grownBy (w2.alloc (.cells #[.int .i64 x.t, .slice xA x.n.length xc, .slice yA x.s.length yc, .slice zA x.l.length zc] 26)) none := gb_alloc (gb_trans HG1.out hg2 (.inl rfl)) _
      have HCL := hide (vClone_any x _ B xA xc yA yc zA zc HET1.out (Nat.le_trans HBW.out hgA.size) (hvb.gb (gb_alloc (gb_refl w2 none) (.cells #[.int .i64 x.t, .slice xA x.n.length xc, .slice yA x.s.length yc, .slice zA x.l.length zc] 26)) (Nat.le_trans HBW.out (gb_trans HG1.out hg2 (.inl rfl)).size)))
      have HGA := hide hgA
      clear hvb hg2 hgA
      go_wp2_with fail
      refine HCL.out.mono ?_
      rintro e w3 ⟨nA', nc', sA', sc', lA', lc', f, rfl, ho, hn, hg3⟩
      have HO := hide ho
      have HN := hide hn
      have HG3 := hide hg3
      have hr1 := ((gb_trans HGA.out HG3.out (.inl rfl)).block _ (blk_lt HRB.out) (by simp)).trans HRB.out
      have p0 : w3.cell? ⟨w.heap.size + 1, 0, none⟩ = some (.int .i64 0) := by rw [blk_cell hr1]; rfl
      have p1 : w3.cell? ⟨w.heap.size + 1, 1, none⟩ = some (.slice none 0 0) := by rw [blk_cell hr1]; rfl
      have p2 : w3.cell? ⟨w.heap.size + 1, 2, none⟩ = some (.slice none 0 0) := by rw [blk_cell hr1]; rfl
      have p3 : w3.cell? ⟨w.heap.size + 1, 3, none⟩ = some (.slice none 0 0) := by rw [blk_cell hr1]; rfl
      have z0 := blk_frozen hr1 0
      have z1 := blk_frozen hr1 1
      have z2 := blk_frozen hr1 2
      have z3 := blk_frozen hr1 3
      clear ho hn hg3 hr1
      go_wp2_with fail
      refine bodyPost_ret (v := .tuple #[.agg #[.int .i64 x.t, .slice nA' x.n.length nc', .slice sA' x.s.length sc', .slice lA' x.l.length lc'], .int .i64 0]) (by simp [results, Tryz.results94, go_sem, p0, p1, p2, p3]) rfl ?_
      exact NewE.fin HO.out (HN.out.less HGA.out.size) HG.out (gb_trans HGA.out HG3.out (.inl rfl)) (by omega) (by have := HSZ.out; omega)
  · rw [if_neg hin]
    have HE1 := hide (fun w2 k => HEE.out w2 k (by omega))
    clear hin HEG HEE HET
    rcases hcase with ⟨h1, h2⟩ | h1
    · have e99 := int_beq_t h1
      have e2 : ((v.l.length : Int) == 2) = false := beq_eq_false_iff_ne.2 (by omega)
      clear h1 h2
      go_enter Tryz.func94, Tryz.ntmps94
      go_wp2_with fail
      rw [← HWE.out]
      refine (HIT.out wa).mono ?_
      rintro e w1 ⟨rfl, hg1⟩
      obtain ⟨c0, c1, c2, c3⟩ := HC.out.gb hg1
      have b0 : w1.cell? ⟨w.heap.size, 0, none⟩ = some (.int .i64 v.t) := c0
      have b1 : w1.cell? ⟨w.heap.size, 1, none⟩ = some (.slice nA v.n.length nc) := c1
      have b2 : w1.cell? ⟨w.heap.size, 2, none⟩ = some (.slice sA v.s.length sc) := c2
      have b3 : w1.cell? ⟨w.heap.size, 3, none⟩ = some (.slice lA v.l.length lc) := c3
      have HG1 := hide hg1
      clear hg1 c0 c1 c2 c3
      go_wp2_with fail
      refine (HE1.out w1 HG1.out).mono ?_
      rintro e w2 ⟨rfl, hg2⟩
      have hgA : wa.grownBy (w2.alloc (.cells #[.int .i64 0, .slice none 0 0, .slice none 0 0, .slice none 0 0] 26)) none := gb_alloc (gb_trans HG1.out hg2 (.inl rfl)) _
      have HGA := hide hgA
      have hr1 := (hgA.block _ (blk_lt HRB.out) (by simp)).trans HRB.out
      have p0 : (w2.alloc (.cells #[.int .i64 0, .slice none 0 0, .slice none 0 0, .slice none 0 0] 26)).cell? ⟨w.heap.size + 1, 0, none⟩ = some (.int .i64 0) := by rw [blk_cell hr1]; rfl
      have p1 : (w2.alloc (.cells #[.int .i64 0, .slice none 0 0, .slice none 0 0, .slice none 0 0] 26)).cell? ⟨w.heap.size + 1, 1, none⟩ = some (.slice none 0 0) := by rw [blk_cell hr1]; rfl
      have p2 : (w2.alloc (.cells #[.int .i64 0, .slice none 0 0, .slice none 0 0, .slice none 0 0] 26)).cell? ⟨w.heap.size + 1, 2, none⟩ = some (.slice none 0 0) := by rw [blk_cell hr1]; rfl
      have p3 : (w2.alloc (.cells #[.int .i64 0, .slice none 0 0, .slice none 0 0, .slice none 0 0] 26)).cell? ⟨w.heap.size + 1, 3, none⟩ = some (.slice none 0 0) := by rw [blk_cell hr1]; rfl
      have z0 := blk_frozen hr1 0
      have z1 := blk_frozen hr1 1
      have z2 := blk_frozen hr1 2
      have z3 := blk_frozen hr1 3
      clear hgA hg2 hr1
      go_wp2_with fail
      refine bodyPost_ret (v := .tuple #[.agg #[.int .i64 0, .slice none 0 0, .slice none 0 0, .slice none 0 0], .int .i64 33]) (by simp [results, Tryz.results94, go_sem, p0, p1, p2, p3]) rfl ?_
      exact ⟨rfl, put4_to (gb_trans HG.out HGA.out (.inl rfl)) (by omega)⟩
    · have e99 := int_beq_f h1
      clear h1
      go_enter Tryz.func94, Tryz.ntmps94
      go_wp2_with fail
      rw [← HWE.out]
      refine (HIT.out wa).mono ?_
      rintro e w1 ⟨rfl, hg1⟩
      obtain ⟨c0, c1, c2, c3⟩ := HC.out.gb hg1
      have b0 : w1.cell? ⟨w.heap.size, 0, none⟩ = some (.int .i64 v.t) := c0
      have b1 : w1.cell? ⟨w.heap.size, 1, none⟩ = some (.slice nA v.n.length nc) := c1
      have b2 : w1.cell? ⟨w.heap.size, 2, none⟩ = some (.slice sA v.s.length sc) := c2
      have b3 : w1.cell? ⟨w.heap.size, 3, none⟩ = some (.slice lA v.l.length lc) := c3
      have HG1 := hide hg1
      clear hg1 c0 c1 c2 c3
      go_wp2_with fail
      refine (HE1.out w1 HG1.out).mono ?_
      rintro e w2 ⟨rfl, hg2⟩
      have hgA : wa.grownBy (w2.alloc (.cells #[.int .i64 0, .slice none 0 0, .slice none 0 0, .slice none 0 0] 26)) none := gb_alloc (gb_trans HG1.out hg2 (.inl rfl)) _
      have HGA := hide hgA
      have hr1 := (hgA.block _ (blk_lt HRB.out) (by simp)).trans HRB.out
      have p0 : (w2.alloc (.cells #[.int .i64 0, .slice none 0 0, .slice none 0 0, .slice none 0 0] 26)).cell? ⟨w.heap.size + 1, 0, none⟩ = some (.int .i64 0) := by rw [blk_cell hr1]; rfl
      have p1 : (w2.alloc (.cells #[.int .i64 0, .slice none 0 0, .slice none 0 0, .slice none 0 0] 26)).cell? ⟨w.heap.size + 1, 1, none⟩ = some (.slice none 0 0) := by rw [blk_cell hr1]; rfl
      have p2 : (w2.alloc (.cells #[.int .i64 0, .slice none 0 0, .slice none 0 0, .slice none 0 0] 26)).cell? ⟨w.heap.size + 1, 2, none⟩ = some (.slice none 0 0) := by rw [blk_cell hr1]; rfl
      have p3 : (w2.alloc (.cells #[.int .i64 0, .slice none 0 0, .slice none 0 0, .slice none 0 0] 26)).cell? ⟨w.heap.size + 1, 3, none⟩ = some (.slice none 0 0) := by rw [blk_cell hr1]; rfl
      have z0 := blk_frozen hr1 0
      have z1 := blk_frozen hr1 1
      have z2 := blk_frozen hr1 2
      have z3 := blk_frozen hr1 3
      clear hgA hg2 hr1
      go_wp2_with fail
      refine bodyPost_ret (v := .tuple #[.agg #[.int .i64 0, .slice none 0 0, .slice none 0 0, .slice none 0 0], .int .i64 33]) (by simp [results, Tryz.results94, go_sem, p0, p1, p2, p3]) rfl ?_
      exact ⟨rfl, put4_to (gb_trans HG.out HGA.out (.inl rfl)) (by omega)⟩

end Go.Proofs.YtgepejnooghjbaaGreat

namespace Go.Proofs
open Go.Shelf
end Go.Proofs
namespace Go.Proofs.YtgepejnooghjbaaGreat
open Go.RowKit
attribute [local go_sem ↓] Go.wp_at_zero Go.wp_at_succ

end Go.Proofs.YtgepejnooghjbaaGreat

namespace Go.Proofs.YtgepejnooghjbaaGreat
open Go.RowKit
attribute [local go_sem ↓] Go.wp_at_zero Go.wp_at_succ

end Go.Proofs.YtgepejnooghjbaaGreat

namespace Go.Proofs.YtgepejnooghjbaaGreat
open Go.RowKit
attribute [local go_sem ↓] Go.wp_at_zero Go.wp_at_succ

end Go.Proofs.YtgepejnooghjbaaGreat

/- Too many, too long, level, depth. -/
namespace Go.Proofs.YtgepejnooghjbaaGreat
open Go.RowKit
attribute [local go_sem ↓] Go.wp_at_zero Go.wp_at_succ

/-! ## level -/

mutual
theorem Vl.depth_le_tot : ∀ v : Vl, v.depth ≤ v.tot
  | .mk t n s l => by
    have := Vl.depths_le_tots l
    simp only [Vl.depth, Vl.tot]
    omega
theorem Vl.depths_le_tots : ∀ l : List Vl, Vl.depths l ≤ Vl.tots l
  | [] => by simp [Vl.depths]
  | x :: r => by
    have h1 := Vl.depth_le_tot x
    have h2 := Vl.depths_le_tots r
    simp only [Vl.depths, Vl.tots]
    omega
end
end Go.Proofs.YtgepejnooghjbaaGreat
