/-
  value.row.
-/
import Derived.Test.YtniliccobkhnlaaVq
namespace Go.Proofs.Ytniliccobkhnlaa
open Go.RowKit
attribute [local go_sem ↓] Go.wp_at_zero Go.wp_at_succ

theorem NewV.owned {v : Vl} {w w' : World} {A1 A2 A3 : Option Addr} {c1 c2 c3 : Nat} (h : NewV v w (.returned (.agg #[.int .i64 v.t, .slice A1 v.n.length c1, .slice A2 v.s.length c2, .slice A3 v.l.length c3])) w') :
    ∃ f, VOw w' v [.int .i64 v.t, .slice A1 v.n.length c1, .slice A2 v.s.length c2, .slice A3 v.l.length c3] f ∧ New w w' f ∧ w.grownBy w' none := by
  obtain ⟨nA, nc, sA, sc, lA, lc, f, he, h1, h2, h3⟩ := h
  simp only [Ending.returned.injEq, Value.agg.injEq, Array.mk.injEq, List.cons.injEq, Value.slice.injEq, true_and, and_true] at he
  obtain ⟨⟨rfl, rfl⟩, ⟨rfl, rfl⟩, rfl, rfl⟩ := he
  exact ⟨f, h1, h2, h3⟩
/-- A new value, and no error. -/
def NewE (v : Vl) (w : World) (e : Ending) (w' : World) : Prop := ∃ nA nc sA sc lA lc f, e = .returned (.tuple #[.agg #[.int .i64 v.t, .slice nA v.n.length nc, .slice sA v.s.length sc, .slice lA v.l.length lc], .int .i64 0]) ∧
  VOw w' v [.int .i64 v.t, .slice nA v.n.length nc, .slice sA v.s.length sc, .slice lA v.l.length lc] f ∧ New w w' f ∧ w.grownBy w' none

theorem elemV_tot (c : Vl) (i : Nat) (h : i < c.count) : (elemV c i).tot ≤ c.tot := by
  have ht := Vl.tot_def c
  unfold elemV
  split
  · rename_i h0
    rw [Vl.count_def, h0] at h
    simp at h
    rw [List.getD_eq_getElem?_getD, List.getElem?_eq_getElem h, Option.getD_some]
    have := Vl.tot_mem (List.getElem_mem h)
    omega
  · split
    · rename_i h3
      rw [Vl.count_def, h3] at h
      simp at h
      rw [List.getD_eq_getElem?_getD, List.getElem?_eq_getElem h, Option.getD_some]
      have h1 := Vl.chars_take c.s i h
      have h2 := Vl.chars_take_le c.s (i + 1)
      rw [Vl.tot_def]
      show 1 + 0 + 1 + Vl.chars [c.s[i]] + 0 ≤ c.tot
      have : Vl.chars [c.s[i]] = c.s[i].size := by simp [Vl.chars]
      omega
    · split
      · rename_i h0 h3 hp
        have hmem : c.t = 1 ∨ c.t = 2 ∨ c.t = 4 ∨ c.t = 5 := by
          have h := hp.2
          have h' := hp.1
          unfold hasN at h
          simp only [Bool.or_eq_true, beq_iff_eq] at h
          omega
        rw [Vl.count_def, if_pos hmem] at h
        rw [Vl.tot_def]
        show 1 + 1 + 0 + 0 + 0 ≤ c.tot
        omega
      · exact Nat.le_refl _

/-- Is there such a row? -/
def rowOk (ts : List Vl) (i : Int) : Prop := ∀ t ∈ ts, ∀ c ∈ t.l, 0 ≤ i ∧ i < (c.count : Int)
/-- The row of tables side by side. -/
def rowV (ts : List Vl) (i : Nat) : Vl := .mk 99 [] [] [.mk 3 [] (ts.flatMap Vl.s) [], ofV ((ts.flatMap Vl.l).map fun c => elemV c i)]
def RowPost (ts : List Vl) (i : Int) (w : World) (e : Ending) (w' : World) : Prop := (rowOk ts i ∧ NewE (rowV ts i.toNat) w e w') ∨ (¬ rowOk ts i ∧ ErrV 33 w e w')

/-- What was gathered so far: names n, elements x. -/
def Gath (w : World) (B : Nat) (n : List ByteArray) (x : List Vl) (N E : Value) (wr : World) : Prop := ∃ nA nc eA ec xs, N = .slice nA n.length nc ∧ E = .slice eA x.length ec ∧ wr.ownsRow (w.heap.size + 1) 9 1 N n.length (strs n) ∧
  wr.ownsRow (w.heap.size + 1) 26 4 E x.length (List.flatten xs) ∧ VAll wr B x xs ∧ w.grownBy wr none ∧ wr.heap[w.heap.size]? = some (.cells #[.int .i64 0, .slice none 0 0, .slice none 0 0, .slice none 0 0] 26 (0, 0))
theorem VAll.grown {w w' : World} {B : Nat} {l : List Vl} {xs : List (List Value)} (h : VAll w B l xs) {row : Option Nat} (hg : w.grownBy w' row) (hB : B ≤ w.heap.size) (hr : ∀ g, row = some g → B ≤ g) : VAll w' B l xs :=
  VAll.mk_ h.length fun i h1 h2 => by
    obtain ⟨_, h8⟩ := h.at_ h1
    exact h8.grown hg hB hr
theorem VAll.snoc {w : World} {B : Nat} {v : Vl} {c : List Value} : ∀ (l : List Vl) (xs : List (List Value)), VAll w B l xs → VAt w B v c → VAll w B (l ++ [v]) (xs ++ [c])
  | [], xs, h, k => by
    simp only [VAll] at h
    subst h
    exact ⟨c, [], rfl, k, rfl⟩
  | a :: r, xs, h, k => by
    obtain ⟨d, q, rfl, h1, h2⟩ := h
    exact ⟨d, q ++ [c], rfl, h1, VAll.snoc r q h2 k⟩
/-- A step that leaves what was gathered. -/
theorem Gath.keep {w wr w2 : World} {B : Nat} {n : List ByteArray} {x : List Vl} {N E : Value} (h : Gath w B n x N E wr) (hg : wr.grownBy w2 none) (hB : B ≤ w.heap.size) : Gath w B n x N E w2 := by
  obtain ⟨nA, nc, eA, ec, xs, h1, h2, h3, h4, h5, h6, h7⟩ := h
  exact ⟨nA, nc, eA, ec, xs, h1, h2, h3.kept hg (by cases N.ownBlock <;> simp), h4.kept hg (by cases E.ownBlock <;> simp), h5.grown hg (Nat.le_trans hB h6.size) (by simp), gb_trans h6 hg (.inl rfl), (hg.block _ (blk_lt h7) (by simp)).trans h7⟩
theorem Gath.names {w wr w2 : World} {B : Nat} {n m : List ByteArray} {x : List Vl} {N N2 E : Value} (h : Gath w B n x N E wr) (hB : B ≤ w.heap.size) (ho : w2.ownsRow (w.heap.size + 1) 9 1 N2 (n.length + m.length) (strs n ++ strs m)) (hg : wr.grownBy w2 N.ownBlock) : Gath w B (n ++ m) x N2 E w2 := by
  obtain ⟨nA, nc, eA, ec, xs, h1, h2, h3, h4, h5, h6, h7⟩ := h
  obtain ⟨A, c, rfl, _⟩ := own_slice ho
  have hlt := h3.lt
  rw [← strs_app] at ho
  refine ⟨A, c, eA, ec, xs, by rw [List.length_append], h2, by rw [List.length_append]; exact ho, h4.kept hg (rows_apart h4 h3 (by decide)), h5.grown hg (Nat.le_trans hB h6.size) (fun g e => by have := (hlt g e).1; omega), ?_, ?_⟩
  · exact gb_trans h6 hg (match hq : N.ownBlock with | none => .inr (.inl rfl) | some g => .inr (.inr ⟨g, rfl, by have := (hlt g hq).1; omega⟩))
  · exact (hg.block _ (blk_lt h7) (fun e => by have := (hlt _ e.symm).1; omega)).trans h7
theorem Gath.elem {w wr w2 : World} {B : Nat} {n : List ByteArray} {x : List Vl} {v : Vl} {c : List Value} {N E E2 : Value} {xs : List (List Value)} (h : Gath w B n x N E wr) (hB : B ≤ w.heap.size) (hv : VAt wr B v c)
    (hox : wr.ownsRow (w.heap.size + 1) 26 4 E x.length (List.flatten xs)) (hax : VAll wr B x xs)
    (ho : w2.ownsRow (w.heap.size + 1) 26 4 E2 (x.length + 1) (List.flatten xs ++ c)) (hg : wr.grownBy w2 E.ownBlock) : Gath w B n (x ++ [v]) N E2 w2 := by
  obtain ⟨nA, nc, eA, ec, _, h1, h2, h3, _, _, h6, h7⟩ := h
  obtain ⟨A, c', rfl, _⟩ := own_slice ho
  have hlt := hox.lt
  have hr : ∀ g, E.ownBlock = some g → B ≤ g := fun g e => by have := (hlt g e).1; omega
  refine ⟨nA, nc, A, c', xs ++ [c], h1, by rw [List.length_append]; rfl, h3.kept hg (rows_apart h3 hox (by decide)), ?_, VAll.snoc _ _ (hax.grown hg (Nat.le_trans hB h6.size) hr) (hv.grown hg (Nat.le_trans hB h6.size) hr), ?_, ?_⟩
  · rw [List.length_append, List.flatten_append]
    simpa using ho
  · exact gb_trans h6 hg (match hq : E.ownBlock with | none => .inr (.inl rfl) | some g => .inr (.inr ⟨g, rfl, by have := (hlt g hq).1; omega⟩))
  · exact (hg.block _ (blk_lt h7) (fun e => by have := (hlt _ e.symm).1; omega)).trans h7
end Go.Proofs.Ytniliccobkhnlaa
