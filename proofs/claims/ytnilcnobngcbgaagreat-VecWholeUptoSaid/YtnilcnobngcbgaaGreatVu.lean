/-
  value.row.
-/
import Derived.Test.YtnilcnobngcbgaaGreatVq

namespace Go.Proofs.YtnilcnobngcbgaaGreat
open Go.RowKit
attribute [local go_sem ↓] Go.wp_at_zero Go.wp_at_succ

theorem NewV.owned {v : Vl} {w w' : World} {A1 A2 A3 : Option Addr} {c1 c2 c3 : Nat} (h : NewV v w (.returned (.agg #[.int .i64 v.t, .slice A1 v.n.length c1, .slice A2 v.s.length c2, .slice A3 v.l.length c3])) w') :
    ∃ f, VOw w' v [.int .i64 v.t, .slice A1 v.n.length c1, .slice A2 v.s.length c2, .slice A3 v.l.length c3] f ∧ New w w' f ∧ w.grownBy w' none := by
  obtain ⟨nA, nc, sA, sc, lA, lc, f, he, h1, h2, h3⟩ := h
  simp only [Ending.returned.injEq, Value.agg.injEq, Array.mk.injEq, List.cons.injEq, Value.slice.injEq, true_and, and_true] at he
  obtain ⟨⟨rfl, rfl⟩, ⟨rfl, rfl⟩, rfl, rfl⟩ := he
  exact ⟨f, h1, h2, h3⟩
/-- A new value, and no error. -/
def NewE (v : Vl) (w : World) (e : Ending) (w' : World) : Prop := ∃ nA nc sA sc lA lc f, e = .returned (.tuple #[.agg #[.int .i64 v.t, .slice nA v.n.length nc, .slice sA v.s.length sc, .slice lA v.l.length lc], .int .i64 0]) ∧
  VOw w' v [.int .i64 v.t, .slice nA v.n.length nc, .slice sA v.s.length sc, .slice lA v.l.length lc] f ∧ New w w' f ∧ w.grownBy w' none

theorem elemV_tot (c : Vl) (i : Nat) (h : i < c.count) : (elemV c i).tot ≤ c.tot := by
  have ht := Vl.tot_def c
  unfold elemV
  split
  · rename_i h0
    rw [Vl.count_def, h0] at h
    simp at h
    rw [List.getD_eq_getElem?_getD, List.getElem?_eq_getElem h, Option.getD_some]
    have := Vl.tot_mem (List.getElem_mem h)
    omega
  · split
    · rename_i h3
      rw [Vl.count_def, h3] at h
      simp at h
      rw [List.getD_eq_getElem?_getD, List.getElem?_eq_getElem h, Option.getD_some]
      have h1 := Vl.chars_take c.s i h
      have h2 := Vl.chars_take_le c.s (i + 1)
      rw [Vl.tot_def]
      show 1 + 0 + 1 + Vl.chars [c.s[i]] + 0 ≤ c.tot
      have : Vl.chars [c.s[i]] = c.s[i].size := by simp [Vl.chars]
      omega
    · split
      · rename_i h0 h3 hp
        have hmem : c.t = 1 ∨ c.t = 2 ∨ c.t = 4 ∨ c.t = 5 := by
          have h := hp.2
          have h' := hp.1
          unfold hasN at h
          simp only [Bool.or_eq_true, beq_iff_eq] at h
          omega
        rw [Vl.count_def, if_pos hmem] at h
        rw [Vl.tot_def]
        show 1 + 1 + 0 + 0 + 0 ≤ c.tot
        omega
      · exact Nat.le_refl _

/-- Is there such a row? -/
def rowOk (ts : List Vl) (i : Int) : Prop := ∀ t ∈ ts, ∀ c ∈ t.l, 0 ≤ i ∧ i < (c.count : Int)
/-- The row of tables side by side. -/
def rowV (ts : List Vl) (i : Nat) : Vl := .mk 99 [] [] [.mk 3 [] (ts.flatMap Vl.s) [], ofV ((ts.flatMap Vl.l).map fun c => elemV c i)]
def RowPost (ts : List Vl) (i : Int) (w : World) (e : Ending) (w' : World) : Prop := (rowOk ts i ∧ NewE (rowV ts i.toNat) w e w') ∨ (¬ rowOk ts i ∧ ErrV 33 w e w')

/-- What was gathered so far: names n, elements x. -/
def Gath (w : World) (B : Nat) (n : List ByteArray) (x : List Vl) (N E : Value) (wr : World) : Prop := ∃ nA nc eA ec xs, N = .slice nA n.length nc ∧ E = .slice eA x.length ec ∧ wr.ownsRow (w.heap.size + 1) 9 1 N n.length (strs n) ∧
  wr.ownsRow (w.heap.size + 1) 26 4 E x.length (List.flatten xs) ∧ VAll wr B x xs ∧ w.grownBy wr none ∧ wr.heap[w.heap.size]? = some (.cells #[.int .i64 0, .slice none 0 0, .slice none 0 0, .slice none 0 0] 26 (0, 0))
theorem VAll.grown {w w' : World} {B : Nat} {l : List Vl} {xs : List (List Value)} (h : VAll w B l xs) {row : Option Nat} (hg : w.grownBy w' row) (hB : B ≤ w.heap.size) (hr : ∀ g, row = some g → B ≤ g) : VAll w' B l xs :=
  VAll.mk_ h.length fun i h1 h2 => by
    obtain ⟨_, h8⟩ := h.at_ h1
    exact h8.grown hg hB hr
theorem VAll.snoc {w : World} {B : Nat} {v : Vl} {c : List Value} : ∀ (l : List Vl) (xs : List (List Value)), VAll w B l xs → VAt w B v c → VAll w B (l ++ [v]) (xs ++ [c])
  | [], xs, h, k => by
    simp only [VAll] at h
    subst h
    exact ⟨c, [], rfl, k, rfl⟩
  | a :: r, xs, h, k => by
    obtain ⟨d, q, rfl, h1, h2⟩ := h
    exact ⟨d, q ++ [c], rfl, h1, VAll.snoc r q h2 k⟩
/-- A step that leaves what was gathered. -/
theorem Gath.keep {w wr w2 : World} {B : Nat} {n : List ByteArray} {x : List Vl} {N E : Value} (h : Gath w B n x N E wr) (hg : wr.grownBy w2 none) (hB : B ≤ w.heap.size) : Gath w B n x N E w2 := by
  obtain ⟨nA, nc, eA, ec, xs, h1, h2, h3, h4, h5, h6, h7⟩ := h
  exact ⟨nA, nc, eA, ec, xs, h1, h2, h3.kept hg (by cases N.ownBlock <;> simp), h4.kept hg (by cases E.ownBlock <;> simp), h5.grown hg (Nat.le_trans hB h6.size) (by simp), gb_trans h6 hg (.inl rfl), (hg.block _ (blk_lt h7) (by simp)).trans h7⟩
theorem Gath.names {w wr w2 : World} {B : Nat} {n m : List ByteArray} {x : List Vl} {N N2 E : Value} (h : Gath w B n x N E wr) (hB : B ≤ w.heap.size) (ho : w2.ownsRow (w.heap.size + 1) 9 1 N2 (n.length + m.length) (strs n ++ strs m)) (hg : wr.grownBy w2 N.ownBlock) : Gath w B (n ++ m) x N2 E w2 := by
  obtain ⟨nA, nc, eA, ec, xs, h1, h2, h3, h4, h5, h6, h7⟩ := h
  obtain ⟨A, c, rfl, _⟩ := own_slice ho
  have hlt := h3.lt
  rw [← strs_app] at ho
  refine ⟨A, c, eA, ec, xs, by rw [List.length_append], h2, by rw [List.length_append]; exact ho, h4.kept hg (rows_apart h4 h3 (by decide)), h5.grown hg (Nat.le_trans hB h6.size) (fun g e => by have := (hlt g e).1; omega), ?_, ?_⟩
  · exact gb_trans h6 hg (match hq : N.ownBlock with | none => .inr (.inl rfl) | some g => .inr (.inr ⟨g, rfl, by have := (hlt g hq).1; omega⟩))
  · exact (hg.block _ (blk_lt h7) (fun e => by have := (hlt _ e.symm).1; omega)).trans h7
theorem Gath.elem {w wr w2 : World} {B : Nat} {n : List ByteArray} {x : List Vl} {v : Vl} {c : List Value} {N E E2 : Value} {xs : List (List Value)} (h : Gath w B n x N E wr) (hB : B ≤ w.heap.size) (hv : VAt wr B v c)
    (hox : wr.ownsRow (w.heap.size + 1) 26 4 E x.length (List.flatten xs)) (hax : VAll wr B x xs)
    (ho : w2.ownsRow (w.heap.size + 1) 26 4 E2 (x.length + 1) (List.flatten xs ++ c)) (hg : wr.grownBy w2 E.ownBlock) : Gath w B n (x ++ [v]) N E2 w2 := by
  obtain ⟨nA, nc, eA, ec, _, h1, h2, h3, _, _, h6, h7⟩ := h
  obtain ⟨A, c', rfl, _⟩ := own_slice ho
  have hlt := hox.lt
  have hr : ∀ g, E.ownBlock = some g → B ≤ g := fun g e => by have := (hlt g e).1; omega
  refine ⟨nA, nc, A, c', xs ++ [c], h1, by rw [List.length_append]; rfl, h3.kept hg (rows_apart h3 hox (by decide)), ?_, VAll.snoc _ _ (hax.grown hg (Nat.le_trans hB h6.size) hr) (hv.grown hg (Nat.le_trans hB h6.size) hr), ?_, ?_⟩
  · rw [List.length_append, List.flatten_append]
    simpa using ho
  · exact gb_trans h6 hg (match hq : E.ownBlock with | none => .inr (.inl rfl) | some g => .inr (.inr ⟨g, rfl, by have := (hlt g hq).1; omega⟩))
  · exact (hg.block _ (blk_lt h7) (fun e => by have := (hlt _ e.symm).1; omega)).trans h7
end Go.Proofs.YtnilcnobngcbgaaGreat

/- value.row: its walk. -/
namespace Go.Proofs.YtnilcnobngcbgaaGreat
open Go.RowKit
attribute [local go_sem ↓] Go.wp_at_zero Go.wp_at_succ

theorem elem_gotI (v : Vl) (i : Int) (w : World) (B : Nat) (nA : Option Addr) (nc : Nat) (sA : Option Addr) (sc : Nat) (lA : Option Addr) (lc : Nat) (hi : 0 ≤ i ∧ i < (v.count : Int)) (ht : v.tot ≤ 1100000) (hB : B ≤ w.heap.size) (h : VB w B v nA nc sA sc lA lc) :
    Calls Tryz.prog 136 #[.agg #[.int .i64 v.t, .slice nA v.n.length nc, .slice sA v.s.length sc, .slice lA v.l.length lc], .int .i64 i] w (GotV (elemV v i.toNat) w B) := by
  obtain ⟨k, rfl⟩ := Int.eq_ofNat_of_zero_le hi.1
  exact elem_got v k w B nA nc sA sc lA lc (by omega) ht hB h
theorem Vl.l_tots {t : Vl} {ts : List Vl} (h : t ∈ ts) (ht : Vl.tots ts ≤ 1100000) : Vl.tots t.l ≤ 1100000 := by
  have h1 := Vl.tot_mem h
  have h2 := Vl.tot_def t
  omega
theorem flatL_le (ts : List Vl) : Vl.tots (ts.flatMap Vl.l) ≤ Vl.tots ts := by
  induction ts with
  | nil => simp [Vl.tots]
  | cons a r ih =>
    rw [List.flatMap_cons, Vl.tots_append]
    simp only [Vl.tots]
    have := Vl.tot_def a
    omega
theorem elems_tots (cs : List Vl) (i : Int) (h : ∀ c ∈ cs, 0 ≤ i ∧ i < (c.count : Int)) : Vl.tots (cs.map fun c => elemV c i.toNat) ≤ Vl.tots cs := by
  induction cs with
  | nil => simp [Vl.tots]
  | cons a r ih =>
    simp only [List.map_cons, Vl.tots]
    have h1 := ih fun c hc => h c (by simp [hc])
    have h2 := h a (by simp)
    have h3 := elemV_tot a i.toNat (by omega)
    omega
/-- What was gathered has room. -/
theorem Gath.parts {w wr : World} {B : Nat} {n : List ByteArray} {x : List Vl} {N E : Value} (h : Gath w B n x N E wr) : ∃ nA nc eA ec xs, N = .slice nA n.length nc ∧ E = .slice eA x.length ec ∧ wr.ownsRow (w.heap.size + 1) 9 1 (.slice nA n.length nc) n.length (strs n) ∧
  wr.ownsRow (w.heap.size + 1) 26 4 (.slice eA x.length ec) x.length (List.flatten xs) ∧ VAll wr B x xs ∧ w.grownBy wr none ∧ wr.heap[w.heap.size]? = some (.cells #[.int .i64 0, .slice none 0 0, .slice none 0 0, .slice none 0 0] 26 (0, 0)) := by
  obtain ⟨nA, nc, eA, ec, xs, rfl, rfl, h⟩ := h
  exact ⟨nA, nc, eA, ec, xs, rfl, rfl, h⟩
theorem V4_one (a : Int) (x y z : Option Addr) (p q r p' q' r' : Nat) : ∀ u ∈ [Value.int .i64 a, .slice x p p', .slice y q q', .slice z r r'], u.oneCell' = true := by
  intro u hu
  simp only [List.mem_cons, List.not_mem_nil, or_false] at hu
  rcases hu with rfl | rfl | rfl | rfl <;> rfl

theorem NewE.of_pair {a b : Vl} {w wr w2 w3 : World} {ca cb : List Value} {fa fb : List Nat} {cs : Array Value} (hw : w.heap.size < wr.heap.size) (hg : w.grownBy wr none) (h2 : wr.grownBy w2 none) (h3 : w2.grownBy w3 none)
    (ha : VOw w2 a ca fa) (hna : New wr w2 fa) (hb : VOw w3 b cb fb) (hnb : New w2 w3 fb) (hcs : cs.toList = ca ++ cb) :
    NewE (.mk 99 [] [] [a, b]) w (.returned (.tuple #[.agg #[.int .i64 99, .slice none 0 0, .slice none 0 0, .slice (some ⟨w3.heap.size, 0, none⟩) 2 2], .int .i64 0]))
      (put4 (w3.alloc (.cells cs 26)) w.heap.size 0 (.int .i64 99) (.slice none 0 0) (.slice none 0 0) (.slice (some ⟨w3.heap.size, 0, none⟩) 2 2)) := by
  have s2 := h2.size
  have s3 := h3.size
  have hk4 : w3.grownBy (w3.alloc (.cells cs 26)) none := gb_alloc (gb_refl w3 none) _
  have s4 : (w3.alloc (.cells cs 26)).heap.size = w3.heap.size + 1 := by simp
  have s5 := put4_size (w3.alloc (.cells cs 26)) w.heap.size 0 (.int .i64 99) (.slice none 0 0) (.slice none 0 0) (.slice (some ⟨w3.heap.size, 0, none⟩) 2 2)
  have hk : ∀ i, i < w3.heap.size + 1 → i ≠ w.heap.size → (put4 (w3.alloc (.cells cs 26)) w.heap.size 0 (.int .i64 99) (.slice none 0 0) (.slice none 0 0) (.slice (some ⟨w3.heap.size, 0, none⟩) 2 2)).heap[i]? = (w3.alloc (.cells cs 26)).heap[i]? := fun i hi hne =>
    (put4_gb _ w.heap.size 0 _ _ _ _).block i (by omega) (by intro e; injection e with e; exact hne e)
  have h4 := ha.length4
  have hc : w3.heap.size ≠ w.heap.size := by omega
  refine ⟨none, 0, none, 0, some ⟨w3.heap.size, 0, none⟩, 2, [w3.heap.size] ++ (fa ++ (fb ++ [])), rfl, ?_, ?_, ?_⟩
  · refine VOw.mk_ (v := .mk 99 [] [] [a, b]) (fn := []) (fs := []) (fl := [w3.heap.size]) (fp := fa ++ (fb ++ [])) (xs := [ca, cb]) ⟨Nat.le_refl _, Nat.le_refl _, Nat.le_refl _⟩ (.inl ⟨rfl, rfl⟩) (.inl ⟨rfl, rfl⟩) ?_ ⟨ca, [cb], fa, fb ++ [], rfl, rfl, VOw.keep _ _ _ ha fun x hx => ?_, cb, [], fb, [], rfl, rfl, VOw.keep _ _ _ hb fun x hx => ?_, rfl, rfl⟩
    · have e : List.flatten [ca, cb] = cs.toList := by rw [hcs]; simp
      rw [e]
      exact Own.lit (t := 26) (by rw [hk _ (by omega) hc]; exact heap_alloc_new w3 _) (by rw [hcs]; intro e; have h := (List.append_eq_nil_iff.1 e).1; rw [h] at h4; cases h4)
    · have h := hna.2 x hx
      rw [hk x (by omega) (by omega), hk4.block x (by omega) (by simp), h3.block x (by omega) (by simp)]
    · have h := hnb.2 x hx
      rw [hk x (by omega) (by omega), hk4.block x (by omega) (by simp)]
  · have h := (hna.app hnb s2 s3)
    refine ⟨?_, fun x hx => ?_⟩
    · simp only [List.append_nil, List.singleton_append, List.nodup_cons]
      exact ⟨fun hm => by have := (h.2 _ hm).2; omega, h.1⟩
    · simp only [List.append_nil, List.singleton_append, List.mem_cons] at hx
      rcases hx with rfl | hx
      · omega
      · have := h.2 x hx; omega
  · exact put4_to (gb_trans (gb_trans (gb_trans hg h2 (.inl rfl)) h3 (.inl rfl)) hk4 (.inl rfl)) (Nat.le_refl _)

set_option maxHeartbeats 16000000 in
set_option maxRecDepth 100000 in
theorem row_walk (ts : List Vl) (i : Int) (w : World) (B : Nat) (A : Option Addr) (c : Nat) (ht : Vl.tots ts ≤ 500000) (hB : B ≤ w.heap.size) (h : RdV w B A ts) :
    Calls Tryz.prog 134 #[.int .i64 i, .slice A ts.length c] w (RowPost ts i w) := by
  have hl : ts.length ≤ 500000 := Nat.le_trans (Vl.length_le_tots ts) ht
  obtain ⟨wa, hwa⟩ : ∃ wa, wa = w.alloc (.cells #[.int .i64 0, .slice none 0 0, .slice none 0 0, .slice none 0 0] 26) := ⟨_, rfl⟩
  have hg : w.grownBy wa none := by rw [hwa]; exact gb_alloc (gb_refl w none) _
  have hr : wa.heap[w.heap.size]? = some (.cells #[.int .i64 0, .slice none 0 0, .slice none 0 0, .slice none 0 0] 26 (0, 0)) := by rw [hwa]; exact zero_blk w
  have HG := hide hg
  have HR := hide hr
  have HSZ := hide (show wa.heap.size = w.heap.size + 1 by rw [hwa]; simp)
  have HWE := hide hwa
  have HT := hide ht
  have HB := hide hB
  have H := hide h
  clear ht hB h hg hr hwa
  go_enter Tryz.func134, Tryz.ntmps134
  go_wp2_with fail
  rw [← HWE.out]
  go_loopw [6, 7, 16] (fun N E k wr => ∃ (j : Nat) (n : List ByteArray) (x : List Vl), k = .int .i64 (j : Int) ∧ j ≤ ts.length ∧ Hid (n = (ts.take j).flatMap Vl.s) ∧ Hid (x = ((ts.take j).flatMap Vl.l).map fun c => elemV c i.toNat) ∧ Gath w B n x N E wr ∧ Hid (rowOk (ts.take j) i)) (fun _ _ k _ => ts.length - (intOf k).toNat)
  case atStart => exact ⟨0, [], [], rfl, Nat.zero_le _, hide rfl, hide rfl, ⟨none, 0, none, 0, [], rfl, rfl, ⟨rfl, .inl ⟨rfl, rfl⟩⟩, ⟨rfl, .inl ⟨rfl, rfl⟩⟩, rfl, HG.out, HR.out⟩, hide fun t ht => by simp at ht⟩
  case round =>
    obtain ⟨j, n, x, rfl, hj, HN, HX, hga, HOK⟩ := hrel
    by_cases hlt : j < ts.length
    · have hlt1 : (j : Int) < (ts.length : Int) := by omega
      obtain ⟨nA, nc, eA, ec, xs, rfl, rfl, hoN, hoE, hax, hgr, hres⟩ := hga.parts
      obtain ⟨q, o, xA, xc, yA, yc, zA, zc, hA, hqB, hc4, hvb⟩ := H.out.at_ hlt
      subst hA
      obtain ⟨d0, d1, d2, d3⟩ := hc4.gb hgr
      have hvr := hvb.gb hgr HB.out
      have hBr := Nat.le_trans HB.out hgr.size
      have hmem : ts[j] ∈ ts := List.getElem_mem hlt
      have hnb : n.length + ts[j].s.length ≤ 1100000 := by
        have h1 := flatS_le (ts.take (j + 1))
        have h2 := Vl.tots_take_le ts (j + 1)
        rw [flatS_take ts j hlt, ← HN.out, List.length_append] at h1
        have := HT.out
        omega
      have HNS : Hid ((ts.take (j + 1)).flatMap Vl.s = n ++ ts[j].s) := hide (by rw [HN.out]; exact flatS_take ts j hlt)
      have HNL : Hid ((ts.take (j + 1)).flatMap Vl.l = (ts.take j).flatMap Vl.l ++ ts[j].l) := hide (by rw [List.take_succ_eq_append_getElem hlt, List.flatMap_append]; simp)
      have HTOK : Hid (rowOk (ts.take (j + 1)) i ↔ rowOk (ts.take j) i ∧ ∀ c ∈ ts[j].l, 0 ≤ i ∧ i < (c.count : Int)) := hide (by
        rw [List.take_succ_eq_append_getElem hlt]
        constructor
        · intro h
          exact ⟨fun t ht => h t (List.mem_append_left _ ht), h ts[j] (List.mem_append_right _ (List.mem_singleton.2 rfl))⟩
        · rintro ⟨h1, h2⟩ t ht
          rcases List.mem_append.1 ht with ht | ht
          · exact h1 t ht
          · obtain rfl := List.mem_singleton.1 ht
            exact h2)
      have hxl : x.length + ts[j].l.length ≤ 500000 := by
        have h1 := flatL_le (ts.take (j + 1))
        have h2 := Vl.tots_take_le ts (j + 1)
        have h3 := Vl.length_le_tots ((ts.take (j + 1)).flatMap Vl.l)
        rw [HNL.out, List.length_append] at h3
        rw [HNL.out] at h1
        have h4 : x.length = ((ts.take j).flatMap Vl.l).length := by rw [HX.out, List.length_map]
        have := HT.out
        omega
      have HTL : Hid (∀ c ∈ ts[j].l, c.tot ≤ 500000) := hide (fun c hc => by
        have h1 := Vl.tot_mem hc
        have h2 := Vl.tot_mem hmem
        have h3 := Vl.tot_def ts[j]
        have := HT.out
        omega)
      have HNO : Hid ((∃ c ∈ ts[j].l, ¬ (0 ≤ i ∧ i < (c.count : Int))) → ¬ rowOk ts i) := hide (fun ⟨c, hc, hn⟩ h => hn (h _ hmem c hc))
      have hgb : wr.grownBy (wr.alloc (.cells #[.int .i64 ts[j].t, .slice xA ts[j].n.length xc, .slice yA ts[j].s.length yc, .slice zA ts[j].l.length zc] 26)) none := gb_alloc (gb_refl wr none) _
      have hX1 := heap_alloc_new wr (.cells #[.int .i64 ts[j].t, .slice xA ts[j].n.length xc, .slice yA ts[j].s.length yc, .slice zA ts[j].l.length zc] 26)
      have HON := hide (hoN.alloc (.cells #[.int .i64 ts[j].t, .slice xA ts[j].n.length xc, .slice yA ts[j].s.length yc, .slice zA ts[j].l.length zc] 26))
      have HGA := hide (hga.keep hgb HB.out)
      have HRS := hide (hvr.s.grown hgb hBr (by simp))
      have HV0 := hide hvb
      have HX1 := hide hX1
      have HBr : Hid (B ≤ (wr.alloc (.cells #[.int .i64 ts[j].t, .slice xA ts[j].n.length xc, .slice yA ts[j].s.length yc, .slice zA ts[j].l.length zc] 26)).heap.size) := hide (Nat.le_trans hBr hgb.size)
      have HL2 : Hid ((strs ts[j].s).length = ts[j].s.length * 1) := hide (by simp [strs])
      have HOC2 := hide (strs_one ts[j].s)
      have HM2 : Hid (n.length + ts[j].s.length ≤ maxLen) := hide (by unfold maxLen; omega)
      have HMB2 : Hid ((n.length + ts[j].s.length) * 16 ≤ 140737488355328) := hide (by omega)
      have HBS : Hid (w.heap.size + 1 ≤ (wr.alloc (.cells #[.int .i64 ts[j].t, .slice xA ts[j].n.length xc, .slice yA ts[j].s.length yc, .slice zA ts[j].l.length zc] 26)).heap.size) := hide (by have := blk_lt hres; have := hgb.size; omega)
      obtain ⟨i2, hi2, hiz2, his2, hib2⟩ := info_parts Tryz.infoS
      have HJ1 := hide hi2
      have HJZ := hide hiz2
      have HJS := hide his2
      have HJB := hide hib2
      clear hga hoN hoE hax hgr hres hc4 hvb hvr hBr hmem hgb hX1 hi2 hiz2 his2 hib2 xs
      go_wp2_with (at_builtin; refine wpList_append_rd _ rfl (.tmp 20) (.tmp 22) 23 rfl (w.heap.size + 1) 9 i2 (.string ⟨#[]⟩) 1 16 Tryz.underlying23 HJ1.out HJZ.out HJS.out HJB.out rfl (Nat.succ_pos 0) (.slice nA n.length nc) n.length (strs n) rfl HON.out B yA ts[j].s.length yc (strs ts[j].s) rfl HL2.out HRS.out HOC2.out HM2.out HMB2.out HBS.out ?_
                   intro v5 w5 ho5 hg5 hb5
                   have hga5 := HGA.out.names HB.out ho5 hg5
                   obtain ⟨N5, nc5, rfl, hnc5⟩ := own_slice ho5
                   have hX5 := (hg5.block _ (blk_lt HX1.out) (fun e => own_ne HON.out HX1.out (by decide) e.symm)).trans HX1.out
                   have x3 : w5.cell? ⟨wr.heap.size, 3, none⟩ = some (.slice zA ts[j].l.length zc) := by rw [blk_cell hX5]; rfl
                   have HGA5 := hide hga5
                   clear ho5 hg5 hb5 hga5 hX5 hnc5)
      go_loopw [7, 27] (fun E k w2 => ∃ (m : Nat) (x2 : List Vl), k = .int .i64 (m : Int) ∧ m ≤ ts[j].l.length ∧ Hid (x2 = x ++ (ts[j].l.take m).map fun c => elemV c i.toNat) ∧ Gath w B (n ++ ts[j].s) x2 (.slice N5 (n.length + ts[j].s.length) nc5) E w2 ∧ Hid (∀ c ∈ ts[j].l.take m, 0 ≤ i ∧ i < (c.count : Int))) (fun _ k _ => ts[j].l.length - (intOf k).toNat)
      case atStart => exact ⟨0, x, rfl, Nat.zero_le _, hide (by simp), HGA5.out, hide (by simp)⟩
      case round =>
        obtain ⟨m, x2, rfl, hm, HX2, hga2, HOK2⟩ := hrel
        by_cases hmt : m < ts[j].l.length
        · have hmt1 : (m : Int) < (ts[j].l.length : Int) := by omega
          obtain ⟨N2, nc2, eA2, ec2, xs, hN2, rfl, hoN, hoE, hax, hgr, hres⟩ := hga2.parts
          obtain ⟨q2, o2, aA, ac, bA, bc, cA, cc, hzA, hq2B, hcc, hcv⟩ := HV0.out.l.at_ hmt
          subst hzA
          obtain ⟨f0, f1, f2, f3⟩ := hcc.gb hgr
          have hBw := Nat.le_trans HB.out hgr.size
          have hgb : wr.grownBy (wr.alloc (.cells #[.int .i64 ts[j].l[m].t, .slice aA ts[j].l[m].n.length ac, .slice bA ts[j].l[m].s.length bc, .slice cA ts[j].l[m].l.length cc] 26)) none := gb_alloc (gb_refl wr none) _
          have hcol : ts[j].l[m] ∈ ts[j].l := List.getElem_mem hmt
          have HTC := hide (Nat.le_trans (HTL.out _ hcol) (by omega : 500000 ≤ 1100000))
          have HVC := hide ((hcv.gb hgr HB.out).gb hgb hBw)
          have HBC := hide (Nat.le_trans hBw hgb.size)
          have HLM := hide (show (ts[j].l.take (m + 1)) = ts[j].l.take m ++ [ts[j].l[m]] from List.take_succ_eq_append_getElem hmt)
          by_cases hin : 0 ≤ i ∧ i < (ts[j].l[m].count : Int)
          · have HE := hide (elem_gotI ts[j].l[m] i _ B aA ac bA bc cA cc hin HTC.out HBC.out HVC.out)
            have HIN := hide hin
            have HGA2 := hide (hga2.keep hgb HB.out)
            have hx2l : x2.length ≤ 500000 := by
              rw [HX2.out, List.length_append, List.length_map, List.length_take]
              omega
            obtain ⟨i1, hi1, hiz, his, hib⟩ := info_parts Tryz.infoV
            have HI1 := hide hi1
            have HIZ := hide hiz
            have HIS := hide his
            have HIB := hide hib
            generalize hy : elemV ts[j].l[m] i.toNat = y at HE
            have HY := hide hy
            have HM2' : Hid (x2.length + 1 ≤ maxLen) := hide (by unfold maxLen; omega)
            have HMB2' : Hid ((x2.length + 1) * 80 ≤ 140737488355328) := hide (by omega)
            clear hin hga2 hoN hoE hax hgr hres hcc hcv hBw hgb hcol hi1 hiz his hib hy hN2 xs
            go_wp2_with (first
              | (go_at_call 136; refine HE.out.mono ?_
                 rintro e w6 ⟨yA, yc, zA6, zc6, uA, uc, rfl, hvb6, hg6⟩
                 have hga6 := HGA2.out.keep hg6 HB.out
                 obtain ⟨N6, nc6, eA6, ec6, xs, hN6, hE6, hoN6, hoE6, hax6, hgr6, hres6⟩ := hga6.parts
                 simp only [Value.slice.injEq] at hE6
                 obtain ⟨rfl, _, rfl⟩ := hE6
                 have hk4 : w6.grownBy ((w6.alloc (.cells #[.int .i64 y.t, .slice yA y.n.length yc, .slice zA6 y.s.length zc6, .slice uA y.l.length uc] 26)).alloc (.cells #[.int .i64 y.t, .slice yA y.n.length yc, .slice zA6 y.s.length zc6, .slice uA y.l.length uc] 26)) none := gb_alloc (gb_alloc (gb_refl w6 none) _) _
                 have hB6 := Nat.le_trans HB.out hgr6.size
                 have HGA4 := hide (hga6.keep hk4 HB.out)
                 have HOE4 := hide ((hoE6.alloc (.cells #[.int .i64 y.t, .slice yA y.n.length yc, .slice zA6 y.s.length zc6, .slice uA y.l.length uc] 26)).alloc (.cells #[.int .i64 y.t, .slice yA y.n.length yc, .slice zA6 y.s.length zc6, .slice uA y.l.length uc] 26))
                 have HAX4 := hide (hax6.grown hk4 hB6 (by simp))
                 have HVY4 := hide ((hvb6.gb hk4 hB6).at_)
                 have HRD4 := hide ((Own.lit (alloc2_blk w6 (.cells #[.int .i64 y.t, .slice yA y.n.length yc, .slice zA6 y.s.length zc6, .slice uA y.l.length uc] 26) (.cells #[.int .i64 y.t, .slice yA y.n.length yc, .slice zA6 y.s.length zc6, .slice uA y.l.length uc] 26)) (by simp)).rd (B := w6.heap.size + 2) (fun b hb => by obtain rfl := List.mem_singleton.1 hb; omega))
                 have HOC4 := hide (V4_one y.t yA zA6 uA y.n.length y.s.length y.l.length yc zc6 uc)
                 have HBS4 : Hid (w.heap.size + 1 ≤ ((w6.alloc (.cells #[.int .i64 y.t, .slice yA y.n.length yc, .slice zA6 y.s.length zc6, .slice uA y.l.length uc] 26)).alloc (.cells #[.int .i64 y.t, .slice yA y.n.length yc, .slice zA6 y.s.length zc6, .slice uA y.l.length uc] 26)).heap.size) := hide (by have := blk_lt hres6; have := hk4.size; omega)
                 clear hvb6 hg6 hga6 hN6 hoN6 hoE6 hax6 hgr6 hres6 hk4 hB6)
              | (at_builtin; refine wpList_append_rd _ rfl (.tmp 41) (.tmp 43) 24 rfl (w.heap.size + 1) 26 i1 (.agg #[.int .i64 0, .slice none 0 0, .slice none 0 0, .slice none 0 0]) 4 80 Tryz.underlying24 HI1.out HIZ.out HIS.out HIB.out rfl (Nat.succ_pos 3) (.slice eA2 x2.length ec2) x2.length (List.flatten xs) rfl HOE4.out (w6.heap.size + 2) (some ⟨w6.heap.size + 1, 0, none⟩) 1 1 [.int .i64 y.t, .slice yA y.n.length yc, .slice zA6 y.s.length zc6, .slice uA y.l.length uc] rfl rfl HRD4.out HOC4.out HM2'.out HMB2'.out HBS4.out ?_
                 intro v7 w7 ho7 hg7 hb7
                 have HGA7 := hide (HGA4.out.elem HB.out HVY4.out HOE4.out HAX4.out ho7 hg7)
                 clear ho7 hg7 hb7))
            go_roundw
            case rel =>
              refine ⟨m + 1, x2 ++ [y], by go_num, by omega, hide ?_, HGA7.out, hide ?_⟩
              · rw [HX2.out, HLM.out, List.map_append, ← List.append_assoc]
                simp [HY.out]
              · rw [HLM.out]
                intro c hc
                rcases List.mem_append.1 hc with hc | hc
                · exact HOK2.out c hc
                · obtain rfl := List.mem_singleton.1 hc
                  exact HIN.out
            case measure => simp [intOf]; omega
          · have HE := hide (elem_err ts[j].l[m] i _ B aA ac bA bc cA cc (by omega) HTC.out HBC.out HVC.out)
            have HNR := hide (HNO.out ⟨_, hcol, hin⟩)
            have HGA2 := hide (hga2.keep hgb HB.out)
            clear hin hga2 hoN hoE hax hgr hres hcc hcv hBw hgb hcol hN2 xs
            go_wp2_with (go_at_call 136; refine HE.out.mono ?_
                         rintro e w6 ⟨rfl, hg6⟩
                         have hga6 := (HGA2.out.keep hg6 HB.out).keep (gb_alloc (gb_refl w6 none) (.cells #[.int .i64 0, .slice none 0 0, .slice none 0 0, .slice none 0 0] 26)) HB.out
                         obtain ⟨N6, nc6, eA6, ec6, xs, hN6, hE6, hoN6, hoE6, hax6, hgr6, hres6⟩ := hga6.parts
                         have p0 : (w6.alloc (.cells #[.int .i64 0, .slice none 0 0, .slice none 0 0, .slice none 0 0] 26)).cell? ⟨w.heap.size, 0, none⟩ = some (.int .i64 0) := by rw [blk_cell hres6]; rfl
                         have p1 : (w6.alloc (.cells #[.int .i64 0, .slice none 0 0, .slice none 0 0, .slice none 0 0] 26)).cell? ⟨w.heap.size, 1, none⟩ = some (.slice none 0 0) := by rw [blk_cell hres6]; rfl
                         have p2 : (w6.alloc (.cells #[.int .i64 0, .slice none 0 0, .slice none 0 0, .slice none 0 0] 26)).cell? ⟨w.heap.size, 2, none⟩ = some (.slice none 0 0) := by rw [blk_cell hres6]; rfl
                         have p3 : (w6.alloc (.cells #[.int .i64 0, .slice none 0 0, .slice none 0 0, .slice none 0 0] 26)).cell? ⟨w.heap.size, 3, none⟩ = some (.slice none 0 0) := by rw [blk_cell hres6]; rfl
                         have z0 := blk_frozen hres6 0
                         have z1 := blk_frozen hres6 1
                         have z2 := blk_frozen hres6 2
                         have z3 := blk_frozen hres6 3
                         have HG6 := hide hgr6
                         clear hga6 hN6 hE6 hoN6 hoE6 hax6 hgr6 hres6 hg6)
            refine bodyPost_ret (v := .tuple #[.agg #[.int .i64 0, .slice none 0 0, .slice none 0 0, .slice none 0 0], .int .i64 33]) (by simp [results, Tryz.results134, go_sem, p0, p1, p2, p3]) rfl ?_
            exact .inr ⟨HNR.out, rfl, put4_to HG6.out (Nat.le_refl _)⟩
        · have hmt1 : ¬ (m : Int) < (ts[j].l.length : Int) := by omega
          have HEM := hide (show ts[j].l.take m = ts[j].l from List.take_of_length_le (by omega))
          have HGA2 := hide hga2
          clear hga2
          go_wp2_with fail
          go_roundw
          case rel =>
            refine ⟨j + 1, n ++ ts[j].s, x2, by go_num, by omega, hide HNS.out.symm, hide ?_, HGA2.out, hide ?_⟩
            · rw [HX2.out, HEM.out, HNL.out, List.map_append, HX.out]
            · rw [HTOK.out]
              refine ⟨HOK.out, ?_⟩
              have := HOK2.out
              rwa [HEM.out] at this
          case measure => simp [intOf]; omega
    · have hlt1 : ¬ (j : Int) < (ts.length : Int) := by omega
      have HTE := hide (show ts.take j = ts from List.take_of_length_le (by omega))
      rw [HTE.out] at HN HX HOK
      obtain ⟨nA, nc, eA, ec, xs, rfl, rfl, hoN, hoE, hax, hgr, hres⟩ := hga.parts
      have hxt : Vl.tots x ≤ 500000 := by
        rw [HX.out]
        have h1 := elems_tots (ts.flatMap Vl.l) i (fun c hc => by
          obtain ⟨t, ht, hct⟩ := List.mem_flatMap.1 hc
          exact HOK.out t ht c hct)
        have h2 := flatL_le ts
        have := HT.out
        omega
      have hnl : n.length ≤ 500000 := by
        rw [HN.out]
        have h1 := flatS_le ts
        have := HT.out
        omega
      have HS := hide (sym_any nA nc wr.heap.size n wr (Rd.of_own hoN) (Nat.le_refl _) (by omega))
      have HOF := hide (fun w2 (k : wr.grownBy w2 none) => of_any x w2 w2.heap.size eA ec (by omega) (Nat.le_refl _) ⟨xs, Rd.of_own (hoE.kept k (by cases (Value.slice eA x.length ec).ownBlock <;> simp)), VAll.mk_ hax.length fun i h1 h2 => by
        obtain ⟨_, h8⟩ := hax.at_ h1
        exact (h8.gb k (Nat.le_trans HB.out hgr.size)).up (Nat.le_trans (Nat.le_trans HB.out hgr.size) k.size)⟩)
      have HRES := hide hres
      have HGR := hide hgr
      clear hga hoN hoE hax hgr hres hxt hnl xs
      go_wp2_with (first
        | (go_at_call 142; refine HS.out.mono ?_
           rintro e w2 ⟨nB, nd, sA, sc, lB, ld, fa, rfl, ha, hna, hg2⟩
           have HA := hide ha
           have HNA := hide hna
           have HG2 := hide hg2
           clear ha hna hg2)
        | (go_at_call 36; refine (HOF.out _ HG2.out).mono ?_
           rintro e w3 ⟨uA, uc, vA, vc, tA, tc, fb, rfl, hb, hnb, hg3⟩
           have HBV := hide hb
           have HNB := hide hnb
           have HG3 := hide hg3
           have hr3 := (hg3.block _ (by have := blk_lt HRES.out; have := HG2.out.size; omega) (by simp)).trans ((HG2.out.block _ (blk_lt HRES.out) (by simp)).trans HRES.out)
           have hr4 : ∀ o : Obj, (w3.alloc o).heap[w.heap.size]? = some (.cells #[.int .i64 0, .slice none 0 0, .slice none 0 0, .slice none 0 0] 26 (0, 0)) := fun o => ((gb_alloc (gb_refl w3 none) o).block _ (blk_lt hr3) (by simp)).trans hr3
           have p0 : ∀ o : Obj, (w3.alloc o).cell? ⟨w.heap.size, 0, none⟩ = some (.int .i64 0) := fun o => by rw [blk_cell (hr4 o)]; rfl
           have p1 : ∀ o : Obj, (w3.alloc o).cell? ⟨w.heap.size, 1, none⟩ = some (.slice none 0 0) := fun o => by rw [blk_cell (hr4 o)]; rfl
           have p2 : ∀ o : Obj, (w3.alloc o).cell? ⟨w.heap.size, 2, none⟩ = some (.slice none 0 0) := fun o => by rw [blk_cell (hr4 o)]; rfl
           have p3 : ∀ o : Obj, (w3.alloc o).cell? ⟨w.heap.size, 3, none⟩ = some (.slice none 0 0) := fun o => by rw [blk_cell (hr4 o)]; rfl
           have z0 : ∀ o : Obj, (w3.alloc o).frozen? ⟨w.heap.size, 0, none⟩ = false := fun o => blk_frozen (hr4 o) 0
           have z1 : ∀ o : Obj, (w3.alloc o).frozen? ⟨w.heap.size, 1, none⟩ = false := fun o => blk_frozen (hr4 o) 1
           have z2 : ∀ o : Obj, (w3.alloc o).frozen? ⟨w.heap.size, 2, none⟩ = false := fun o => blk_frozen (hr4 o) 2
           have z3 : ∀ o : Obj, (w3.alloc o).frozen? ⟨w.heap.size, 3, none⟩ = false := fun o => blk_frozen (hr4 o) 3
           clear hb hnb hg3 hr3 hr4))
      refine bodyPost_ret (v := .tuple #[.agg #[.int .i64 99, .slice none 0 0, .slice none 0 0, .slice (some ⟨w3.heap.size, 0, none⟩) 2 2], .int .i64 0]) (by simp [results, Tryz.results134, go_sem, p0, p1, p2, p3]) rfl ?_
      refine .inl ⟨HOK.out, ?_⟩
      have hv : rowV ts i.toNat = .mk 99 [] [] [.mk 3 [] n [], ofV x] := by unfold rowV; rw [← HN.out, ← HX.out]
      rw [hv]
      exact NewE.of_pair (blk_lt HRES.out) HGR.out HG2.out HG3.out HA.out HNA.out HBV.out HNB.out rfl
end Go.Proofs.YtnilcnobngcbgaaGreat

/- value.all over values. -/
namespace Go.Proofs.YtnilcnobngcbgaaGreat
open Go.RowKit
attribute [local go_sem ↓] Go.wp_at_zero Go.wp_at_succ

def isTab (v : Vl) : Bool := v.t == 98
def isSeq (v : Vl) : Bool := v.t == 0 || (decide (0 < v.t) && (hasN v.t || hasS v.t))

set_option maxHeartbeats 4000000 in
set_option maxRecDepth 100000 in
theorem isTab_any (v : Vl) (c1 c2 c3 : Value) (w : World) : Calls Tryz.prog 133 #[.agg #[.int .i64 v.t, c1, c2, c3]] w fun e w' => e = .returned (.bool (isTab v)) ∧ w.grownBy w' none := by
  have HA := hide (show (v.t == 98) = isTab v from rfl)
  go_enter Tryz.func133, Tryz.ntmps133
  go_wp2_with fail
  go_ret
  exact ⟨ret_b HA.out, gb_alloc (gb_refl w none) _⟩
/-! ## all of them: isTable -/

set_option maxHeartbeats 4000000 in
set_option maxRecDepth 100000 in
theorem isTab_not (v : Vl) (c1 c2 c3 : Value) (g : Nat) (w : World) (hg : w.cell? ⟨g, 0, none⟩ = some (.func (.func 133) #[] #[])) :
    Calls Tryz.prog 143 #[.agg #[.int .i64 v.t, c1, c2, c3], .pointer (some ⟨g, 0, none⟩)] w fun e w' => e = .returned (.bool (!isTab v)) ∧ w.grownBy w' none := by
  obtain ⟨wa, hwa⟩ : ∃ wa, wa = w.alloc (.cells #[.int .i64 v.t, c1, c2, c3] 26) := ⟨_, rfl⟩
  have hgb : w.grownBy wa none := by rw [hwa]; exact gb_alloc (gb_refl w none) _
  have hq := cell_gb hg hgb
  rw [hwa] at hq
  have HC := hide (fun w2 => isTab_any v c1 c2 c3 w2)
  have HG := hide hgb
  have HWE := hide hwa
  clear hwa hgb
  generalize isTab v = b at *
  go_enter Tryz.func143, Tryz.ntmps143
  go_wp2_with (go_at_call 133; rw [← HWE.out]; refine (HC.out wa).mono ?_; rintro e w1 ⟨rfl, hg1⟩; have HG1 := hide hg1; clear hg1)
  go_ret
  exact ⟨rfl, gb_trans HG.out HG1.out (.inl rfl)⟩
def isTabPost (l : List Vl) (w : World) (e : Ending) (w' : World) : Prop := ∃ r : Int, e = .returned (.int .i64 r) ∧ decide (0 ≤ r) = (l.any fun x => !isTab x) ∧ w.grownBy w' none
set_option maxHeartbeats 4000000 in
set_option maxRecDepth 100000 in
theorem isTab_idx (l : List Vl) (w : World) (B : Nat) (A : Option Addr) (c g : Nat) (hl : l.length ≤ 1100000) (hB : B ≤ w.heap.size) (h : RdV w B A l) (hg : w.cell? ⟨g, 0, none⟩ = some (.func (.func 133) #[] #[])) :
    Calls Tryz.prog 86 #[.slice A l.length c, .func (.func 143) #[] #[.pointer (some ⟨g, 0, none⟩)]] w (isTabPost l w) := by
  have H := hide h
  have HB := hide hB
  have HGF := hide hg
  clear h hB hg
  go_enter Tryz.func86, Tryz.ntmps86
  go_wp2_with fail
  go_loopw [8] (fun i wr => ∃ j : Nat, i = .int .i64 (j : Int) ∧ j ≤ l.length ∧ Hid ((l.take j).any (fun x => !isTab x) = false) ∧ w.grownBy wr none) (fun i _ => l.length - (intOf i).toNat)
  case atStart => exact ⟨0, rfl, Nat.zero_le _, hide (by simp), gb_refl w none⟩
  case round =>
    obtain ⟨j, rfl, hj, HE, hgr⟩ := hrel
    have HGR := hide hgr
    clear hgr
    by_cases hlt : j < l.length
    · have hlt1 : (j : Int) < (l.length : Int) := by omega
      obtain ⟨q, o, xA, xc, yA, yc, zA, zc, rfl, hqB, hc4, _⟩ := H.out.at_ hlt
      obtain ⟨d0, d1, d2, d3⟩ := hc4.gb HGR.out
      have HC := hide (isTab_not l[j] (.slice xA l[j].n.length xc) (.slice yA l[j].s.length yc) (.slice zA l[j].l.length zc) g wr (cell_gb HGF.out HGR.out))
      have HL := hide (show l.take (j + 1) = l.take j ++ [l[j]] from List.take_succ_eq_append_getElem hlt)
      have HA : Hid (isTab l[j] = false → (l.any fun x => !isTab x) = true) := hide (fun h => List.any_eq_true.2 ⟨_, List.getElem_mem hlt, by rw [h]; rfl⟩)
      clear hc4
      cases hp : isTab l[j]
      · rw [hp] at HC
        have HA2 := hide (HA.out hp)
        clear hp
        go_wp2_with (go_at_call 143; refine HC.out.mono ?_; rintro e w1 ⟨rfl, hg1⟩; have HG1 := hide hg1; clear hg1)
        go_ret
        exact ⟨j, rfl, by rw [HA2.out]; exact decide_eq_true (by omega), gb_trans HGR.out HG1.out (.inl rfl)⟩
      · rw [hp] at HC
        have HP := hide hp
        clear hp
        go_wp2_with (go_at_call 143; refine HC.out.mono ?_; rintro e w1 ⟨rfl, hg1⟩; have HG1 := hide hg1; clear hg1)
        go_roundw
        case rel => exact ⟨j + 1, by go_num, by omega, hide (by rw [HL.out, List.any_append, HE.out]; simp [HP.out]), gb_trans HGR.out HG1.out (.inl rfl)⟩
        case measure => simp [intOf]; omega
    · have hlt1 : ¬ (j : Int) < (l.length : Int) := by omega
      have HT := hide (show l.take j = l from List.take_of_length_le (by omega))
      go_wp2_with fail
      go_ret
      exact ⟨-1, rfl, by have := HE.out; rw [HT.out] at this; rw [this]; rfl, HGR.out⟩
set_option maxHeartbeats 4000000 in
set_option maxRecDepth 100000 in
theorem isTab_all (l : List Vl) (w : World) (B : Nat) (A : Option Addr) (c : Nat) (hl : l.length ≤ 1100000) (hB : B ≤ w.heap.size) (h : RdV w B A l) :
    Calls Tryz.prog 135 #[.slice A l.length c, .func (.func 133) #[] #[]] w fun e w' => e = .returned (.bool (l.all isTab)) ∧ w.grownBy w' none := by
  obtain ⟨wa, hwa⟩ : ∃ wa, wa = w.alloc (.cells #[.func (.func 133) #[] #[]] 47) := ⟨_, rfl⟩
  have hgb : w.grownBy wa none := by rw [hwa]; exact gb_alloc (gb_refl w none) _
  have hcf : wa.cell? ⟨w.heap.size, 0, none⟩ = some (.func (.func 133) #[] #[]) := by rw [hwa, blk_cell (heap_alloc_new w _)]; rfl
  have HI := hide (isTab_idx l wa B A c w.heap.size hl (Nat.le_trans hB hgb.size) (h.gb hgb hB) hcf)
  have HAL := hide (show (l.any fun x => !isTab x) = !l.all isTab by rw [Bool.eq_iff_iff]; simp)
  have HG := hide hgb
  have HWE := hide hwa
  clear hwa hgb hcf h hB
  generalize l.all isTab = b at *
  have HCN : Hid (Calls Tryz.prog 50 #[.slice A l.length c, .func (.func 143) #[] #[.pointer (some ⟨w.heap.size, 0, none⟩)]] wa fun e w' => e = .returned (.bool !b) ∧ wa.grownBy w' none) := hide (by
    go_enter Tryz.func50, Tryz.ntmps50
    go_wp2_with (go_at_call 86; refine HI.out.mono ?_; rintro e w1 ⟨r, rfl, hr, hg1⟩; have HR := hide hr; have HG1 := hide hg1; clear hr hg1)
    go_ret
    exact ⟨ret_b (by rw [← HAL.out, ← HR.out]), HG1.out⟩)
  clear HI
  go_enter Tryz.func135, Tryz.ntmps135
  go_wp2_with (go_at_call 50; rw [← HWE.out]; refine HCN.out.mono ?_; rintro e w1 ⟨rfl, hg1⟩; have HG1 := hide hg1; clear hg1)
  go_ret
  exact ⟨ret_b (by simp), gb_trans HG.out HG1.out (.inl rfl)⟩

/-! ## all of them: isSequence -/

def isSeqPost (l : List Vl) (w : World) (e : Ending) (w' : World) : Prop := ∃ r : Int, e = .returned (.int .i64 r) ∧ decide (0 ≤ r) = (l.any fun x => !isSeq x) ∧ w.grownBy w' none
end Go.Proofs.YtnilcnobngcbgaaGreat

/- value.At. -/
namespace Go.Proofs.YtnilcnobngcbgaaGreat
open Go.RowKit
attribute [local go_sem ↓] Go.wp_at_zero Go.wp_at_succ

theorem NewE.fin {x : Vl} {w wa w1 : World} {g : Nat} {xA : Option Addr} {xc : Nat} {yA : Option Addr} {yc : Nat} {zA : Option Addr} {zc : Nat} {f : List Nat} (h : VOw w1 x [.int .i64 x.t, .slice xA x.n.length xc, .slice yA x.s.length yc, .slice zA x.l.length zc] f) (hn : New wa w1 f) (hg : w.grownBy wa none) (hg1 : wa.grownBy w1 none) (hgs : w.heap.size ≤ g) (hga : g < wa.heap.size) :
    NewE x w (.returned (.tuple #[.agg #[.int .i64 x.t, .slice xA x.n.length xc, .slice yA x.s.length yc, .slice zA x.l.length zc], .int .i64 0])) (put4 w1 g 0 (.int .i64 x.t) (.slice xA x.n.length xc) (.slice yA x.s.length yc) (.slice zA x.l.length zc)) := by
  have s1 := hg1.size
  have s4 := put4_size w1 g 0 (.int .i64 x.t) (.slice xA x.n.length xc) (.slice yA x.s.length yc) (.slice zA x.l.length zc)
  refine ⟨xA, xc, yA, yc, zA, zc, f, rfl, VOw.keep _ _ _ h fun b hb => ?_, (hn.less hg.size).more (by omega), put4_to (gb_trans hg hg1 (.inl rfl)) hgs⟩
  have := hn.2 b hb
  exact (put4_gb w1 g 0 _ _ _ _).block b (by omega) (by intro e; injection e with e; omega)

set_option maxHeartbeats 8000000 in
set_option maxRecDepth 100000 in
theorem at_tab (v : Vl) (i : Int) (w : World) (B : Nat) (nA : Option Addr) (nc : Nat) (sA : Option Addr) (sc : Nat) (lA : Option Addr) (lc : Nat) (htab : v.t = 98) (ht : v.tot ≤ 500000) (hB : B ≤ w.heap.size) (h : VB w B v nA nc sA sc lA lc) :
    Calls Tryz.prog 115 #[.agg #[.int .i64 v.t, .slice nA v.n.length nc, .slice sA v.s.length sc, .slice lA v.l.length lc], .int .i64 i] w (RowPost [v] i w) := by
  obtain ⟨l1, l2, l3, l4⟩ := Vl.lens v (by omega)
  obtain ⟨wa, hwa⟩ : ∃ wa, wa = (w.alloc (.cells #[.int .i64 v.t, .slice nA v.n.length nc, .slice sA v.s.length sc, .slice lA v.l.length lc] 26)).alloc (.cells #[.int .i64 0, .slice none 0 0, .slice none 0 0, .slice none 0 0] 26) := ⟨_, rfl⟩
  have hg : w.grownBy wa none := by rw [hwa]; exact gb_alloc (gb_alloc (gb_refl w none) _) _
  have hc := (C4.box w (.int .i64 v.t) (.slice nA v.n.length nc) (.slice sA v.s.length sc) (.slice lA v.l.length lc) 26).gb (gb_alloc (gb_refl _ none) (.cells #[.int .i64 0, .slice none 0 0, .slice none 0 0, .slice none 0 0] 26))
  have hrb : wa.heap[w.heap.size + 1]? = some (.cells #[.int .i64 0, .slice none 0 0, .slice none 0 0, .slice none 0 0] 26 (0, 0)) := by rw [hwa]; exact alloc2_blk w _ _
  rw [← hwa] at hc
  have hbw := Nat.le_trans hB hg.size
  have HSZ := hide (show wa.heap.size = w.heap.size + 2 by rw [hwa]; simp)
  have HV := hide (h.gb hg hB)
  have HBW := hide hbw
  have HG := hide hg
  have HRB := hide hrb
  have HC := hide hc
  have HWE := hide hwa
  have HTT := hide ht
  have HIT := hide (fun w2 => isTab_any v (.slice nA v.n.length nc) (.slice sA v.s.length sc) (.slice lA v.l.length lc) w2)
  have htt : isTab v = true := by unfold isTab; rw [htab]; rfl
  rw [htt] at HIT
  have HROW := hide (fun w2 (k : wa.grownBy w2 none) => row_walk [v] i (w2.alloc (.cells #[.int .i64 v.t, .slice nA v.n.length nc, .slice sA v.s.length sc, .slice lA v.l.length lc] 26)) (w2.heap.size + 1) (some ⟨w2.heap.size, 0, none⟩) 1 (by simp [Vl.tots]; omega) (by simp)
    ⟨[[.int .i64 v.t, .slice nA v.n.length nc, .slice sA v.s.length sc, .slice lA v.l.length lc]], by
      have := Rd.new w2 #[.int .i64 v.t, .slice nA v.n.length nc, .slice sA v.s.length sc, .slice lA v.l.length lc] 26 _ rfl
      simpa using this, _, [], rfl, ((((h.gb hg hB).gb k hbw).gb (gb_alloc (gb_refl w2 none) _) (Nat.le_trans hbw k.size)).at_).up (Nat.le_trans (Nat.le_trans hbw k.size) (Nat.le_succ _)), rfl⟩)
  clear hB h hg hwa hrb hc hbw ht htab htt
  go_enter Tryz.func115, Tryz.ntmps115
  go_wp2_with fail
  rw [← HWE.out]
  refine (HIT.out wa).mono ?_
  rintro e w1 ⟨rfl, hg1⟩
  obtain ⟨c0, c1, c2, c3⟩ := HC.out.gb hg1
  have b0 : w1.cell? ⟨w.heap.size, 0, none⟩ = some (.int .i64 v.t) := c0
  have b1 : w1.cell? ⟨w.heap.size, 1, none⟩ = some (.slice nA v.n.length nc) := c1
  have b2 : w1.cell? ⟨w.heap.size, 2, none⟩ = some (.slice sA v.s.length sc) := c2
  have b3 : w1.cell? ⟨w.heap.size, 3, none⟩ = some (.slice lA v.l.length lc) := c3
  have HG1 := hide hg1
  clear hg1 c0 c1 c2 c3
  go_wp2_with fail
  refine (HROW.out w1 HG1.out).mono ?_
  rintro e w2 hpost
  have HGA := hide (gb_alloc HG1.out (.cells #[.int .i64 v.t, .slice nA v.n.length nc, .slice sA v.s.length sc, .slice lA v.l.length lc] 26))
  rcases hpost with ⟨hok, xA, xc, yA, yc, zA, zc, f, rfl, ho, hn, hg2⟩ | ⟨hok, rfl, hg2⟩
  · have HO := hide ho
    have HN := hide hn
    have HG2 := hide hg2
    have HOK := hide hok
    have hr1 := ((gb_trans HGA.out HG2.out (.inl rfl)).block _ (blk_lt HRB.out) (by simp)).trans HRB.out
    have p0 : w2.cell? ⟨w.heap.size + 1, 0, none⟩ = some (.int .i64 0) := by rw [blk_cell hr1]; rfl
    have p1 : w2.cell? ⟨w.heap.size + 1, 1, none⟩ = some (.slice none 0 0) := by rw [blk_cell hr1]; rfl
    have p2 : w2.cell? ⟨w.heap.size + 1, 2, none⟩ = some (.slice none 0 0) := by rw [blk_cell hr1]; rfl
    have p3 : w2.cell? ⟨w.heap.size + 1, 3, none⟩ = some (.slice none 0 0) := by rw [blk_cell hr1]; rfl
    have z0 := blk_frozen hr1 0
    have z1 := blk_frozen hr1 1
    have z2 := blk_frozen hr1 2
    have z3 := blk_frozen hr1 3
    clear ho hn hg2 hok hr1
    generalize hrv : rowV [v] i.toNat = rv at *
    have HRV := hide hrv
    clear hrv
    go_wp2_with fail
    refine bodyPost_ret (v := .tuple #[.agg #[.int .i64 rv.t, .slice xA rv.n.length xc, .slice yA rv.s.length yc, .slice zA rv.l.length zc], .int .i64 0]) (by simp [results, Tryz.results115, go_sem, p0, p1, p2, p3]) rfl ?_
    exact .inl ⟨HOK.out, by rw [HRV.out]; exact NewE.fin HO.out (HN.out.less HGA.out.size) HG.out (gb_trans HGA.out HG2.out (.inl rfl)) (by omega) (by have := HSZ.out; omega)⟩
  · have HG2 := hide hg2
    have HOK := hide hok
    have hr1 := ((gb_trans HGA.out HG2.out (.inl rfl)).block _ (blk_lt HRB.out) (by simp)).trans HRB.out
    have p0 : w2.cell? ⟨w.heap.size + 1, 0, none⟩ = some (.int .i64 0) := by rw [blk_cell hr1]; rfl
    have p1 : w2.cell? ⟨w.heap.size + 1, 1, none⟩ = some (.slice none 0 0) := by rw [blk_cell hr1]; rfl
    have p2 : w2.cell? ⟨w.heap.size + 1, 2, none⟩ = some (.slice none 0 0) := by rw [blk_cell hr1]; rfl
    have p3 : w2.cell? ⟨w.heap.size + 1, 3, none⟩ = some (.slice none 0 0) := by rw [blk_cell hr1]; rfl
    have z0 := blk_frozen hr1 0
    have z1 := blk_frozen hr1 1
    have z2 := blk_frozen hr1 2
    have z3 := blk_frozen hr1 3
    clear hg2 hok hr1
    go_wp2_with fail
    refine bodyPost_ret (v := .tuple #[.agg #[.int .i64 0, .slice none 0 0, .slice none 0 0, .slice none 0 0], .int .i64 33]) (by simp [results, Tryz.results115, go_sem, p0, p1, p2, p3]) rfl ?_
    exact .inr ⟨HOK.out, rfl, put4_to (gb_trans HG.out (gb_trans HGA.out HG2.out (.inl rfl)) (.inl rfl)) (by omega)⟩

/-- What At answers. -/
def AtPost (r : Option Vl) (w : World) (e : Ending) (w' : World) : Prop := match r with
  | some x => NewE x w e w'
  | none => ErrV 33 w e w'
def rowB (ts : List Vl) (i : Int) : Bool := ts.all fun t => t.l.all fun c => decide (0 ≤ i) && decide (i < (c.count : Int))
theorem rowB_iff (ts : List Vl) (i : Int) : rowB ts i = true ↔ rowOk ts i := by
  unfold rowB rowOk
  simp only [List.all_eq_true, Bool.and_eq_true, decide_eq_true_eq]
/-- At, by definition: d is how deep it looks. -/
def atF : Nat → Vl → Int → Option Vl
  | 0, _, _ => none
  | d + 1, v, i => if v.t = 98 then (if rowB [v] i = true then some (rowV [v] i.toNat) else none)
    else if v.t = 99 ∧ v.l.length = 2 then (if v.l.all isTab = true then (if rowB v.l i = true then some (rowV v.l i.toNat) else none) else atF d (v.l.getD 1 v) i)
    else if 0 ≤ i ∧ i < (v.count : Int) then some (elemV v i.toNat) else none
theorem AtPost.row {ts : List Vl} {i : Int} {w w' : World} {e : Ending} (h : RowPost ts i w e w') : AtPost (if rowB ts i = true then some (rowV ts i.toNat) else none) w e w' := by
  rcases h with ⟨h1, h2⟩ | ⟨h1, h2⟩
  · rw [if_pos ((rowB_iff ts i).2 h1)]; exact h2
  · rw [if_neg (fun h => h1 ((rowB_iff ts i).1 h))]; exact h2

set_option maxHeartbeats 8000000 in
set_option maxRecDepth 100000 in
theorem at_keyed (v : Vl) (i : Int) (w : World) (B : Nat) (nA : Option Addr) (nc : Nat) (sA : Option Addr) (sc : Nat) (lA : Option Addr) (lc : Nat) (htab : v.t = 99) (hl2 : v.l.length = 2) (hall : v.l.all isTab = true) (ht : v.tot ≤ 500000) (hB : B ≤ w.heap.size) (h : VB w B v nA nc sA sc lA lc) :
    Calls Tryz.prog 115 #[.agg #[.int .i64 v.t, .slice nA v.n.length nc, .slice sA v.s.length sc, .slice lA v.l.length lc], .int .i64 i] w (RowPost v.l i w) := by
  obtain ⟨l1, l2, l3, l4⟩ := Vl.lens v (by omega)
  obtain ⟨wa, hwa⟩ : ∃ wa, wa = (w.alloc (.cells #[.int .i64 v.t, .slice nA v.n.length nc, .slice sA v.s.length sc, .slice lA v.l.length lc] 26)).alloc (.cells #[.int .i64 0, .slice none 0 0, .slice none 0 0, .slice none 0 0] 26) := ⟨_, rfl⟩
  have hg : w.grownBy wa none := by rw [hwa]; exact gb_alloc (gb_alloc (gb_refl w none) _) _
  have hc := (C4.box w (.int .i64 v.t) (.slice nA v.n.length nc) (.slice sA v.s.length sc) (.slice lA v.l.length lc) 26).gb (gb_alloc (gb_refl _ none) (.cells #[.int .i64 0, .slice none 0 0, .slice none 0 0, .slice none 0 0] 26))
  have hrb : wa.heap[w.heap.size + 1]? = some (.cells #[.int .i64 0, .slice none 0 0, .slice none 0 0, .slice none 0 0] 26 (0, 0)) := by rw [hwa]; exact alloc2_blk w _ _
  rw [← hwa] at hc
  have hbw := Nat.le_trans hB hg.size
  have HSZ := hide (show wa.heap.size = w.heap.size + 2 by rw [hwa]; simp)
  have HV := hide (h.gb hg hB)
  have HBW := hide hbw
  have HG := hide hg
  have HRB := hide hrb
  have HC := hide hc
  have HWE := hide hwa
  have HTT := hide ht
  have HIT := hide (fun w2 => isTab_any v (.slice nA v.n.length nc) (.slice sA v.s.length sc) (.slice lA v.l.length lc) w2)
  have htt : isTab v = false := by unfold isTab; rw [htab]; rfl
  rw [htt] at HIT
  have HALL := hide (fun w2 (k : wa.grownBy w2 none) => isTab_all v.l w2 B lA lc l3 (Nat.le_trans hbw k.size) ((h.gb hg hB).gb k hbw).l)
  rw [hall] at HALL
  have HROW := hide (fun w2 (k : wa.grownBy w2 none) => row_walk v.l i w2 B lA lc (by have := Vl.tot_def v; omega) (Nat.le_trans hbw k.size) ((h.gb hg hB).gb k hbw).l)
  have e99 := int_beq_t htab
  have e2 : ((v.l.length : Int) == 2) = true := beq_iff_eq.2 (by omega)
  clear hB h hg hwa hrb hc hbw ht htab htt hall hl2
  go_enter Tryz.func115, Tryz.ntmps115
  go_wp2_with fail
  rw [← HWE.out]
  refine (HIT.out wa).mono ?_
  rintro e wb ⟨rfl, hg1⟩
  obtain ⟨c0, c1, c2, c3⟩ := HC.out.gb hg1
  have b0 : wb.cell? ⟨w.heap.size, 0, none⟩ = some (.int .i64 v.t) := c0
  have b1 : wb.cell? ⟨w.heap.size, 1, none⟩ = some (.slice nA v.n.length nc) := c1
  have b2 : wb.cell? ⟨w.heap.size, 2, none⟩ = some (.slice sA v.s.length sc) := c2
  have b3 : wb.cell? ⟨w.heap.size, 3, none⟩ = some (.slice lA v.l.length lc) := c3
  have HGB := hide hg1
  clear hg1 c0 c1 c2 c3
  go_wp2_with fail
  refine (HALL.out wb HGB.out).mono ?_
  rintro e w1 ⟨rfl, hg1⟩
  have hgc := gb_trans HGB.out hg1 (.inl rfl)
  clear b0 b1 b2 b3
  obtain ⟨c0, c1, c2, c3⟩ := HC.out.gb hgc
  have b0 : w1.cell? ⟨w.heap.size, 0, none⟩ = some (.int .i64 v.t) := c0
  have b1 : w1.cell? ⟨w.heap.size, 1, none⟩ = some (.slice nA v.n.length nc) := c1
  have b2 : w1.cell? ⟨w.heap.size, 2, none⟩ = some (.slice sA v.s.length sc) := c2
  have b3 : w1.cell? ⟨w.heap.size, 3, none⟩ = some (.slice lA v.l.length lc) := c3
  have HG1 := hide hgc
  clear hg1 c0 c1 c2 c3 hgc
  go_wp2_with fail
  refine (HROW.out w1 HG1.out).mono ?_
  rintro e w2 hpost
  have HGA := hide HG1.out
  rcases hpost with ⟨hok, xA, xc, yA, yc, zA, zc, f, rfl, ho, hn, hg2⟩ | ⟨hok, rfl, hg2⟩
  · have HO := hide ho
    have HN := hide hn
    have HG2 := hide hg2
    have HOK := hide hok
    have hr1 := ((gb_trans HGA.out HG2.out (.inl rfl)).block _ (blk_lt HRB.out) (by simp)).trans HRB.out
    have p0 : w2.cell? ⟨w.heap.size + 1, 0, none⟩ = some (.int .i64 0) := by rw [blk_cell hr1]; rfl
    have p1 : w2.cell? ⟨w.heap.size + 1, 1, none⟩ = some (.slice none 0 0) := by rw [blk_cell hr1]; rfl
    have p2 : w2.cell? ⟨w.heap.size + 1, 2, none⟩ = some (.slice none 0 0) := by rw [blk_cell hr1]; rfl
    have p3 : w2.cell? ⟨w.heap.size + 1, 3, none⟩ = some (.slice none 0 0) := by rw [blk_cell hr1]; rfl
    have z0 := blk_frozen hr1 0
    have z1 := blk_frozen hr1 1
    have z2 := blk_frozen hr1 2
    have z3 := blk_frozen hr1 3
    clear ho hn hg2 hok hr1
    generalize hrv : rowV v.l i.toNat = rv at *
    have HRV := hide hrv
    clear hrv
    go_wp2_with fail
    refine bodyPost_ret (v := .tuple #[.agg #[.int .i64 rv.t, .slice xA rv.n.length xc, .slice yA rv.s.length yc, .slice zA rv.l.length zc], .int .i64 0]) (by simp [results, Tryz.results115, go_sem, p0, p1, p2, p3]) rfl ?_
    exact .inl ⟨HOK.out, by rw [HRV.out]; exact NewE.fin HO.out (HN.out.less HGA.out.size) HG.out (gb_trans HGA.out HG2.out (.inl rfl)) (by omega) (by have := HSZ.out; omega)⟩
  · have HG2 := hide hg2
    have HOK := hide hok
    have hr1 := ((gb_trans HGA.out HG2.out (.inl rfl)).block _ (blk_lt HRB.out) (by simp)).trans HRB.out
    have p0 : w2.cell? ⟨w.heap.size + 1, 0, none⟩ = some (.int .i64 0) := by rw [blk_cell hr1]; rfl
    have p1 : w2.cell? ⟨w.heap.size + 1, 1, none⟩ = some (.slice none 0 0) := by rw [blk_cell hr1]; rfl
    have p2 : w2.cell? ⟨w.heap.size + 1, 2, none⟩ = some (.slice none 0 0) := by rw [blk_cell hr1]; rfl
    have p3 : w2.cell? ⟨w.heap.size + 1, 3, none⟩ = some (.slice none 0 0) := by rw [blk_cell hr1]; rfl
    have z0 := blk_frozen hr1 0
    have z1 := blk_frozen hr1 1
    have z2 := blk_frozen hr1 2
    have z3 := blk_frozen hr1 3
    clear hg2 hok hr1
    go_wp2_with fail
    refine bodyPost_ret (v := .tuple #[.agg #[.int .i64 0, .slice none 0 0, .slice none 0 0, .slice none 0 0], .int .i64 33]) (by simp [results, Tryz.results115, go_sem, p0, p1, p2, p3]) rfl ?_
    exact .inr ⟨HOK.out, rfl, put4_to (gb_trans HG.out (gb_trans HGA.out HG2.out (.inl rfl)) (.inl rfl)) (by omega)⟩

/-- value.At on values of that depth. -/
def AtC (d : Nat) : Prop := ∀ (v : Vl) (i : Int) (w : World) (B : Nat) (nA : Option Addr) (nc : Nat) (sA : Option Addr) (sc : Nat) (lA : Option Addr) (lc : Nat), v.depth ≤ d → v.tot ≤ 500000 → B ≤ w.heap.size → VB w B v nA nc sA sc lA lc →
    Calls Tryz.prog 115 #[.agg #[.int .i64 v.t, .slice nA v.n.length nc, .slice sA v.s.length sc, .slice lA v.l.length lc], .int .i64 i] w (AtPost (atF d v i) w)
set_option maxHeartbeats 8000000 in
set_option maxRecDepth 100000 in
theorem at_dict {d : Nat} (hIH : AtC d) (v : Vl) (i : Int) (w : World) (B : Nat) (nA : Option Addr) (nc : Nat) (sA : Option Addr) (sc : Nat) (lA : Option Addr) (lc : Nat) (htab : v.t = 99) (hl2 : v.l.length = 2) (h1l : 1 < v.l.length) (hall : v.l.all isTab = false) (r : Option Vl) (HRE : Hid (atF d (v.l[1]'h1l) i = r)) (hd : v.depth ≤ d + 1) (ht : v.tot ≤ 500000) (hB : B ≤ w.heap.size) (h : VB w B v nA nc sA sc lA lc) :
    Calls Tryz.prog 115 #[.agg #[.int .i64 v.t, .slice nA v.n.length nc, .slice sA v.s.length sc, .slice lA v.l.length lc], .int .i64 i] w (AtPost r w) := by
  obtain ⟨l1, l2, l3, l4⟩ := Vl.lens v (by omega)
  obtain ⟨wa, hwa⟩ : ∃ wa, wa = (w.alloc (.cells #[.int .i64 v.t, .slice nA v.n.length nc, .slice sA v.s.length sc, .slice lA v.l.length lc] 26)).alloc (.cells #[.int .i64 0, .slice none 0 0, .slice none 0 0, .slice none 0 0] 26) := ⟨_, rfl⟩
  have hg : w.grownBy wa none := by rw [hwa]; exact gb_alloc (gb_alloc (gb_refl w none) _) _
  have hc := (C4.box w (.int .i64 v.t) (.slice nA v.n.length nc) (.slice sA v.s.length sc) (.slice lA v.l.length lc) 26).gb (gb_alloc (gb_refl _ none) (.cells #[.int .i64 0, .slice none 0 0, .slice none 0 0, .slice none 0 0] 26))
  have hrb : wa.heap[w.heap.size + 1]? = some (.cells #[.int .i64 0, .slice none 0 0, .slice none 0 0, .slice none 0 0] 26 (0, 0)) := by rw [hwa]; exact alloc2_blk w _ _
  rw [← hwa] at hc
  have hbw := Nat.le_trans hB hg.size
  have HSZ := hide (show wa.heap.size = w.heap.size + 2 by rw [hwa]; simp)
  have HV := hide (h.gb hg hB)
  have HBW := hide hbw
  have HG := hide hg
  have HRB := hide hrb
  have HC := hide hc
  have HWE := hide hwa
  have HTT := hide ht
  have HIT := hide (fun w2 => isTab_any v (.slice nA v.n.length nc) (.slice sA v.s.length sc) (.slice lA v.l.length lc) w2)
  have htt : isTab v = false := by unfold isTab; rw [htab]; rfl
  rw [htt] at HIT
  have HALL := hide (fun w2 (k : wa.grownBy w2 none) => isTab_all v.l w2 B lA lc l3 (Nat.le_trans hbw k.size) ((h.gb hg hB).gb k hbw).l)
  rw [hall] at HALL
  have hpart : v.l[1].tot ≤ 500000 := by
    have := Vl.tot_mem (List.getElem_mem h1l)
    have := Vl.tot_def v
    omega
  have HDP := hide (Vl.depth_part hd (List.getElem_mem h1l))
  obtain ⟨q, o, xA, xc, yA, yc, zA, zc, hlA, hqB, hc4, hvb⟩ := HV.out.l.at_ h1l
  subst hlA
  have HX4 := hide hc4
  have HREC := hide (fun w2 (k : wa.grownBy w2 none) => hIH v.l[1] i w2 B xA xc yA yc zA zc HDP.out hpart (Nat.le_trans hbw k.size) (hvb.gb k hbw))
  have e99 := int_beq_t htab
  have e2 : ((v.l.length : Int) == 2) = true := beq_iff_eq.2 (by omega)
  have h11 : (1 : Int) < (v.l.length : Int) := by omega
  clear hB h hg hwa hrb hc hbw ht htab htt hall hl2 hd hIH hc4 hvb hpart
  go_enter Tryz.func115, Tryz.ntmps115
  go_wp2_with fail
  rw [← HWE.out]
  refine (HIT.out wa).mono ?_
  rintro e wb ⟨rfl, hg1⟩
  obtain ⟨c0, c1, c2, c3⟩ := HC.out.gb hg1
  have b0 : wb.cell? ⟨w.heap.size, 0, none⟩ = some (.int .i64 v.t) := c0
  have b1 : wb.cell? ⟨w.heap.size, 1, none⟩ = some (.slice nA v.n.length nc) := c1
  have b2 : wb.cell? ⟨w.heap.size, 2, none⟩ = some (.slice sA v.s.length sc) := c2
  have b3 : wb.cell? ⟨w.heap.size, 3, none⟩ = some (.slice (some ⟨q, o, none⟩) v.l.length lc) := c3
  have HGB := hide hg1
  clear hg1 c0 c1 c2 c3
  go_wp2_with fail
  refine (HALL.out wb HGB.out).mono ?_
  rintro e w1 ⟨rfl, hg1⟩
  have hgc := gb_trans HGB.out hg1 (.inl rfl)
  clear b0 b1 b2 b3
  obtain ⟨c0, c1, c2, c3⟩ := HC.out.gb hgc
  obtain ⟨y0, y1, y2, y3⟩ := HX4.out.gb hgc
  have d0 : w1.cell? ⟨q, o + 4, none⟩ = some (.int .i64 v.l[1].t) := y0
  have d1 : w1.cell? ⟨q, o + 4 + 1, none⟩ = some (.slice xA v.l[1].n.length xc) := y1
  have d2 : w1.cell? ⟨q, o + 4 + 2, none⟩ = some (.slice yA v.l[1].s.length yc) := y2
  have d3 : w1.cell? ⟨q, o + 4 + 3, none⟩ = some (.slice zA v.l[1].l.length zc) := y3
  have b0 : w1.cell? ⟨w.heap.size, 0, none⟩ = some (.int .i64 v.t) := c0
  have b1 : w1.cell? ⟨w.heap.size, 1, none⟩ = some (.slice nA v.n.length nc) := c1
  have b2 : w1.cell? ⟨w.heap.size, 2, none⟩ = some (.slice sA v.s.length sc) := c2
  have b3 : w1.cell? ⟨w.heap.size, 3, none⟩ = some (.slice (some ⟨q, o, none⟩) v.l.length lc) := c3
  have HG1 := hide hgc
  clear hg1 c0 c1 c2 c3 hgc y0 y1 y2 y3
  go_wp2_with fail
  refine (HREC.out w1 HG1.out).mono ?_
  rintro e w2 hpost
  rw [HRE.out] at hpost
  clear HRE HREC
  rcases r with _ | rv
  · obtain ⟨rfl, hg2⟩ := hpost
    have HG2 := hide hg2
    have hr1 := ((gb_trans HG1.out HG2.out (.inl rfl)).block _ (blk_lt HRB.out) (by simp)).trans HRB.out
    have p0 : w2.cell? ⟨w.heap.size + 1, 0, none⟩ = some (.int .i64 0) := by rw [blk_cell hr1]; rfl
    have p1 : w2.cell? ⟨w.heap.size + 1, 1, none⟩ = some (.slice none 0 0) := by rw [blk_cell hr1]; rfl
    have p2 : w2.cell? ⟨w.heap.size + 1, 2, none⟩ = some (.slice none 0 0) := by rw [blk_cell hr1]; rfl
    have p3 : w2.cell? ⟨w.heap.size + 1, 3, none⟩ = some (.slice none 0 0) := by rw [blk_cell hr1]; rfl
    have z0 := blk_frozen hr1 0
    have z1 := blk_frozen hr1 1
    have z2 := blk_frozen hr1 2
    have z3 := blk_frozen hr1 3
    clear hg2 hr1
    go_wp2_with fail
    refine bodyPost_ret (v := .tuple #[.agg #[.int .i64 0, .slice none 0 0, .slice none 0 0, .slice none 0 0], .int .i64 33]) (by simp [results, Tryz.results115, go_sem, p0, p1, p2, p3]) rfl ?_
    exact ⟨rfl, put4_to (gb_trans HG.out (gb_trans HG1.out HG2.out (.inl rfl)) (.inl rfl)) (by omega)⟩
  · obtain ⟨nA', nc', sA', sc', lA', lc', f, rfl, ho, hn, hg2⟩ := hpost
    have HO := hide ho
    have HN := hide hn
    have HG2 := hide hg2
    have hr1 := ((gb_trans HG1.out HG2.out (.inl rfl)).block _ (blk_lt HRB.out) (by simp)).trans HRB.out
    have p0 : w2.cell? ⟨w.heap.size + 1, 0, none⟩ = some (.int .i64 0) := by rw [blk_cell hr1]; rfl
    have p1 : w2.cell? ⟨w.heap.size + 1, 1, none⟩ = some (.slice none 0 0) := by rw [blk_cell hr1]; rfl
    have p2 : w2.cell? ⟨w.heap.size + 1, 2, none⟩ = some (.slice none 0 0) := by rw [blk_cell hr1]; rfl
    have p3 : w2.cell? ⟨w.heap.size + 1, 3, none⟩ = some (.slice none 0 0) := by rw [blk_cell hr1]; rfl
    have z0 := blk_frozen hr1 0
    have z1 := blk_frozen hr1 1
    have z2 := blk_frozen hr1 2
    have z3 := blk_frozen hr1 3
    clear ho hn hg2 hr1
    go_wp2_with fail
    refine bodyPost_ret (v := .tuple #[.agg #[.int .i64 rv.t, .slice nA' rv.n.length nc', .slice sA' rv.s.length sc', .slice lA' rv.l.length lc'], .int .i64 0]) (by simp [results, Tryz.results115, go_sem, p0, p1, p2, p3]) rfl ?_
    exact NewE.fin HO.out (HN.out.less HG1.out.size) HG.out (gb_trans HG1.out HG2.out (.inl rfl)) (by omega) (by have := HSZ.out; omega)

set_option maxHeartbeats 8000000 in
set_option maxRecDepth 100000 in
theorem at_else (v : Vl) (i : Int) (w : World) (B : Nat) (nA : Option Addr) (nc : Nat) (sA : Option Addr) (sc : Nat) (lA : Option Addr) (lc : Nat) (ht98 : ¬ v.t = 98) (ht99 : ¬ (v.t = 99 ∧ v.l.length = 2)) (ht : v.tot ≤ 500000) (hB : B ≤ w.heap.size) (h : VB w B v nA nc sA sc lA lc) :
    Calls Tryz.prog 115 #[.agg #[.int .i64 v.t, .slice nA v.n.length nc, .slice sA v.s.length sc, .slice lA v.l.length lc], .int .i64 i] w (AtPost (if 0 ≤ i ∧ i < (v.count : Int) then some (elemV v i.toNat) else none) w) := by
  obtain ⟨l1, l2, l3, l4⟩ := Vl.lens v (by omega)
  obtain ⟨wa, hwa⟩ : ∃ wa, wa = (w.alloc (.cells #[.int .i64 v.t, .slice nA v.n.length nc, .slice sA v.s.length sc, .slice lA v.l.length lc] 26)).alloc (.cells #[.int .i64 0, .slice none 0 0, .slice none 0 0, .slice none 0 0] 26) := ⟨_, rfl⟩
  have hg : w.grownBy wa none := by rw [hwa]; exact gb_alloc (gb_alloc (gb_refl w none) _) _
  have hc := (C4.box w (.int .i64 v.t) (.slice nA v.n.length nc) (.slice sA v.s.length sc) (.slice lA v.l.length lc) 26).gb (gb_alloc (gb_refl _ none) (.cells #[.int .i64 0, .slice none 0 0, .slice none 0 0, .slice none 0 0] 26))
  have hrb : wa.heap[w.heap.size + 1]? = some (.cells #[.int .i64 0, .slice none 0 0, .slice none 0 0, .slice none 0 0] 26 (0, 0)) := by rw [hwa]; exact alloc2_blk w _ _
  rw [← hwa] at hc
  have hbw := Nat.le_trans hB hg.size
  have HSZ := hide (show wa.heap.size = w.heap.size + 2 by rw [hwa]; simp)
  have HV := hide (h.gb hg hB)
  have HBW := hide hbw
  have HG := hide hg
  have HRB := hide hrb
  have HC := hide hc
  have HWE := hide hwa
  have HTT := hide ht
  have HIT := hide (fun w2 => isTab_any v (.slice nA v.n.length nc) (.slice sA v.s.length sc) (.slice lA v.l.length lc) w2)
  have htt : isTab v = false := int_beq_f ht98
  rw [htt] at HIT
  have ht' : v.tot ≤ 1100000 := by omega
  have HEG := hide (fun w2 (k : wa.grownBy w2 none) (hin : 0 ≤ i ∧ i < (v.count : Int)) => elem_gotI v i w2 B nA nc sA sc lA lc hin ht' (Nat.le_trans hbw k.size) ((h.gb hg hB).gb k hbw))
  have HEE := hide (fun w2 (k : wa.grownBy w2 none) (hin : i < 0 ∨ (v.count : Int) ≤ i) => elem_err v i w2 B nA nc sA sc lA lc hin ht' (Nat.le_trans hbw k.size) ((h.gb hg hB).gb k hbw))
  have HET := hide (fun (hin : 0 ≤ i ∧ i < (v.count : Int)) => Nat.le_trans (elemV_tot v i.toNat (by omega)) ht')
  have hcase : v.t = 99 ∧ ¬ v.l.length = 2 ∨ ¬ v.t = 99 := by
    by_cases h99 : v.t = 99
    · exact .inl ⟨h99, fun h => ht99 ⟨h99, h⟩⟩
    · exact .inr h99
  have HB := hide hB
  clear hB h hg hwa hrb hc hbw ht ht98 ht99 htt ht'
  by_cases hin : 0 ≤ i ∧ i < (v.count : Int)
  · rw [if_pos hin]
    have HE1 := hide (fun w2 k => HEG.out w2 k hin)
    have HET1 := hide (HET.out hin)
    generalize elemV v i.toNat = x at *
    clear hin HEG HEE HET
    rcases hcase with ⟨h1, h2⟩ | h1
    · have e99 := int_beq_t h1
      have e2 : ((v.l.length : Int) == 2) = false := beq_eq_false_iff_ne.2 (by omega)
      clear h1 h2
      go_enter Tryz.func115, Tryz.ntmps115
      go_wp2_with fail
      rw [← HWE.out]
      refine (HIT.out wa).mono ?_
      rintro e w1 ⟨rfl, hg1⟩
      obtain ⟨c0, c1, c2, c3⟩ := HC.out.gb hg1
      have b0 : w1.cell? ⟨w.heap.size, 0, none⟩ = some (.int .i64 v.t) := c0
      have b1 : w1.cell? ⟨w.heap.size, 1, none⟩ = some (.slice nA v.n.length nc) := c1
      have b2 : w1.cell? ⟨w.heap.size, 2, none⟩ = some (.slice sA v.s.length sc) := c2
      have b3 : w1.cell? ⟨w.heap.size, 3, none⟩ = some (.slice lA v.l.length lc) := c3
      have HG1 := hide hg1
      clear hg1 c0 c1 c2 c3
      go_wp2_with fail
      refine (HE1.out w1 HG1.out).mono ?_
      rintro e w2 ⟨xA, xc, yA, yc, zA, zc, rfl, hvb, hg2⟩
      have hgA : wa.grownBy (w2.alloc (.cells #[.int .i64 x.t, .slice xA x.n.length xc, .slice yA x.s.length yc, .slice zA x.l.length zc] 26)) none := gb_alloc (gb_trans HG1.out hg2 (.inl rfl)) _
      have HCL := hide (vClone_any x _ B xA xc yA yc zA zc HET1.out (Nat.le_trans HBW.out hgA.size) (hvb.gb (gb_alloc (gb_refl w2 none) (.cells #[.int .i64 x.t, .slice xA x.n.length xc, .slice yA x.s.length yc, .slice zA x.l.length zc] 26)) (Nat.le_trans HBW.out (gb_trans HG1.out hg2 (.inl rfl)).size)))
      have HGA := hide hgA
      clear hvb hg2 hgA
      go_wp2_with fail
      refine HCL.out.mono ?_
      rintro e w3 ⟨nA', nc', sA', sc', lA', lc', f, rfl, ho, hn, hg3⟩
      have HO := hide ho
      have HN := hide hn
      have HG3 := hide hg3
      have hr1 := ((gb_trans HGA.out HG3.out (.inl rfl)).block _ (blk_lt HRB.out) (by simp)).trans HRB.out
      have p0 : w3.cell? ⟨w.heap.size + 1, 0, none⟩ = some (.int .i64 0) := by rw [blk_cell hr1]; rfl
      have p1 : w3.cell? ⟨w.heap.size + 1, 1, none⟩ = some (.slice none 0 0) := by rw [blk_cell hr1]; rfl
      have p2 : w3.cell? ⟨w.heap.size + 1, 2, none⟩ = some (.slice none 0 0) := by rw [blk_cell hr1]; rfl
      have p3 : w3.cell? ⟨w.heap.size + 1, 3, none⟩ = some (.slice none 0 0) := by rw [blk_cell hr1]; rfl
      have z0 := blk_frozen hr1 0
      have z1 := blk_frozen hr1 1
      have z2 := blk_frozen hr1 2
      have z3 := blk_frozen hr1 3
      clear ho hn hg3 hr1
      go_wp2_with fail
      refine bodyPost_ret (v := .tuple #[.agg #[.int .i64 x.t, .slice nA' x.n.length nc', .slice sA' x.s.length sc', .slice lA' x.l.length lc'], .int .i64 0]) (by simp [results, Tryz.results115, go_sem, p0, p1, p2, p3]) rfl ?_
      exact NewE.fin HO.out (HN.out.less HGA.out.size) HG.out (gb_trans HGA.out HG3.out (.inl rfl)) (by omega) (by have := HSZ.out; omega)
    · have e99 := int_beq_f h1
      clear h1
      go_enter Tryz.func115, Tryz.ntmps115
      go_wp2_with fail
      rw [← HWE.out]
      refine (HIT.out wa).mono ?_
      rintro e w1 ⟨rfl, hg1⟩
      obtain ⟨c0, c1, c2, c3⟩ := HC.out.gb hg1
      have b0 : w1.cell? ⟨w.heap.size, 0, none⟩ = some (.int .i64 v.t) := c0
      have b1 : w1.cell? ⟨w.heap.size, 1, none⟩ = some (.slice nA v.n.length nc) := c1
      have b2 : w1.cell? ⟨w.heap.size, 2, none⟩ = some (.slice sA v.s.length sc) := c2
      have b3 : w1.cell? ⟨w.heap.size, 3, none⟩ = some (.slice lA v.l.length lc) := c3
      have HG1 := hide hg1
      clear hg1 c0 c1 c2 c3
      go_wp2_with fail
      refine (HE1.out w1 HG1.out).mono ?_
      rintro e w2 ⟨xA, xc, yA, yc, zA, zc, rfl, hvb, hg2⟩
      have hgA : wa.grownBy (w2.alloc (.cells #[.int .i64 x.t, .slice xA x.n.length xc, .slice yA x.s.length yc, .slice zA x.l.length zc] 26)) none := gb_alloc (gb_trans HG1.out hg2 (.inl rfl)) _
      have HCL := hide (vClone_any x _ B xA xc yA yc zA zc HET1.out (Nat.le_trans HBW.out hgA.size) (hvb.gb (gb_alloc (gb_refl w2 none) (.cells #[.int .i64 x.t, .slice xA x.n.length xc, .slice yA x.s.length yc, .slice zA x.l.length zc] 26)) (Nat.le_trans HBW.out (gb_trans HG1.out hg2 (.inl rfl)).size)))
      have HGA := hide hgA
      clear hvb hg2 hgA
      go_wp2_with fail
      refine HCL.out.mono ?_
      rintro e w3 ⟨nA', nc', sA', sc', lA', lc', f, rfl, ho, hn, hg3⟩
      have HO := hide ho
      have HN := hide hn
      have HG3 := hide hg3
      have hr1 := ((gb_trans HGA.out HG3.out (.inl rfl)).block _ (blk_lt HRB.out) (by simp)).trans HRB.out
      have p0 : w3.cell? ⟨w.heap.size + 1, 0, none⟩ = some (.int .i64 0) := by rw [blk_cell hr1]; rfl
      have p1 : w3.cell? ⟨w.heap.size + 1, 1, none⟩ = some (.slice none 0 0) := by rw [blk_cell hr1]; rfl
      have p2 : w3.cell? ⟨w.heap.size + 1, 2, none⟩ = some (.slice none 0 0) := by rw [blk_cell hr1]; rfl
      have p3 : w3.cell? ⟨w.heap.size + 1, 3, none⟩ = some (.slice none 0 0) := by rw [blk_cell hr1]; rfl
      have z0 := blk_frozen hr1 0
      have z1 := blk_frozen hr1 1
      have z2 := blk_frozen hr1 2
      have z3 := blk_frozen hr1 3
      clear ho hn hg3 hr1
      go_wp2_with fail
      refine bodyPost_ret (v := .tuple #[.agg #[.int .i64 x.t, .slice nA' x.n.length nc', .slice sA' x.s.length sc', .slice lA' x.l.length lc'], .int .i64 0]) (by simp [results, Tryz.results115, go_sem, p0, p1, p2, p3]) rfl ?_
      exact NewE.fin HO.out (HN.out.less HGA.out.size) HG.out (gb_trans HGA.out HG3.out (.inl rfl)) (by omega) (by have := HSZ.out; omega)
  · rw [if_neg hin]
    have HE1 := hide (fun w2 k => HEE.out w2 k (by omega))
    clear hin HEG HEE HET
    rcases hcase with ⟨h1, h2⟩ | h1
    · have e99 := int_beq_t h1
      have e2 : ((v.l.length : Int) == 2) = false := beq_eq_false_iff_ne.2 (by omega)
      clear h1 h2
      go_enter Tryz.func115, Tryz.ntmps115
      go_wp2_with fail
      rw [← HWE.out]
      refine (HIT.out wa).mono ?_
      rintro e w1 ⟨rfl, hg1⟩
      obtain ⟨c0, c1, c2, c3⟩ := HC.out.gb hg1
      have b0 : w1.cell? ⟨w.heap.size, 0, none⟩ = some (.int .i64 v.t) := c0
      have b1 : w1.cell? ⟨w.heap.size, 1, none⟩ = some (.slice nA v.n.length nc) := c1
      have b2 : w1.cell? ⟨w.heap.size, 2, none⟩ = some (.slice sA v.s.length sc) := c2
      have b3 : w1.cell? ⟨w.heap.size, 3, none⟩ = some (.slice lA v.l.length lc) := c3
      have HG1 := hide hg1
      clear hg1 c0 c1 c2 c3
      go_wp2_with fail
      refine (HE1.out w1 HG1.out).mono ?_
      rintro e w2 ⟨rfl, hg2⟩
      have hgA : wa.grownBy (w2.alloc (.cells #[.int .i64 0, .slice none 0 0, .slice none 0 0, .slice none 0 0] 26)) none := gb_alloc (gb_trans HG1.out hg2 (.inl rfl)) _
      have HGA := hide hgA
      have hr1 := (hgA.block _ (blk_lt HRB.out) (by simp)).trans HRB.out
      have p0 : (w2.alloc (.cells #[.int .i64 0, .slice none 0 0, .slice none 0 0, .slice none 0 0] 26)).cell? ⟨w.heap.size + 1, 0, none⟩ = some (.int .i64 0) := by rw [blk_cell hr1]; rfl
      have p1 : (w2.alloc (.cells #[.int .i64 0, .slice none 0 0, .slice none 0 0, .slice none 0 0] 26)).cell? ⟨w.heap.size + 1, 1, none⟩ = some (.slice none 0 0) := by rw [blk_cell hr1]; rfl
      have p2 : (w2.alloc (.cells #[.int .i64 0, .slice none 0 0, .slice none 0 0, .slice none 0 0] 26)).cell? ⟨w.heap.size + 1, 2, none⟩ = some (.slice none 0 0) := by rw [blk_cell hr1]; rfl
      have p3 : (w2.alloc (.cells #[.int .i64 0, .slice none 0 0, .slice none 0 0, .slice none 0 0] 26)).cell? ⟨w.heap.size + 1, 3, none⟩ = some (.slice none 0 0) := by rw [blk_cell hr1]; rfl
      have z0 := blk_frozen hr1 0
      have z1 := blk_frozen hr1 1
      have z2 := blk_frozen hr1 2
      have z3 := blk_frozen hr1 3
      clear hgA hg2 hr1
      go_wp2_with fail
      refine bodyPost_ret (v := .tuple #[.agg #[.int .i64 0, .slice none 0 0, .slice none 0 0, .slice none 0 0], .int .i64 33]) (by simp [results, Tryz.results115, go_sem, p0, p1, p2, p3]) rfl ?_
      exact ⟨rfl, put4_to (gb_trans HG.out HGA.out (.inl rfl)) (by omega)⟩
    · have e99 := int_beq_f h1
      clear h1
      go_enter Tryz.func115, Tryz.ntmps115
      go_wp2_with fail
      rw [← HWE.out]
      refine (HIT.out wa).mono ?_
      rintro e w1 ⟨rfl, hg1⟩
      obtain ⟨c0, c1, c2, c3⟩ := HC.out.gb hg1
      have b0 : w1.cell? ⟨w.heap.size, 0, none⟩ = some (.int .i64 v.t) := c0
      have b1 : w1.cell? ⟨w.heap.size, 1, none⟩ = some (.slice nA v.n.length nc) := c1
      have b2 : w1.cell? ⟨w.heap.size, 2, none⟩ = some (.slice sA v.s.length sc) := c2
      have b3 : w1.cell? ⟨w.heap.size, 3, none⟩ = some (.slice lA v.l.length lc) := c3
      have HG1 := hide hg1
      clear hg1 c0 c1 c2 c3
      go_wp2_with fail
      refine (HE1.out w1 HG1.out).mono ?_
      rintro e w2 ⟨rfl, hg2⟩
      have hgA : wa.grownBy (w2.alloc (.cells #[.int .i64 0, .slice none 0 0, .slice none 0 0, .slice none 0 0] 26)) none := gb_alloc (gb_trans HG1.out hg2 (.inl rfl)) _
      have HGA := hide hgA
      have hr1 := (hgA.block _ (blk_lt HRB.out) (by simp)).trans HRB.out
      have p0 : (w2.alloc (.cells #[.int .i64 0, .slice none 0 0, .slice none 0 0, .slice none 0 0] 26)).cell? ⟨w.heap.size + 1, 0, none⟩ = some (.int .i64 0) := by rw [blk_cell hr1]; rfl
      have p1 : (w2.alloc (.cells #[.int .i64 0, .slice none 0 0, .slice none 0 0, .slice none 0 0] 26)).cell? ⟨w.heap.size + 1, 1, none⟩ = some (.slice none 0 0) := by rw [blk_cell hr1]; rfl
      have p2 : (w2.alloc (.cells #[.int .i64 0, .slice none 0 0, .slice none 0 0, .slice none 0 0] 26)).cell? ⟨w.heap.size + 1, 2, none⟩ = some (.slice none 0 0) := by rw [blk_cell hr1]; rfl
      have p3 : (w2.alloc (.cells #[.int .i64 0, .slice none 0 0, .slice none 0 0, .slice none 0 0] 26)).cell? ⟨w.heap.size + 1, 3, none⟩ = some (.slice none 0 0) := by rw [blk_cell hr1]; rfl
      have z0 := blk_frozen hr1 0
      have z1 := blk_frozen hr1 1
      have z2 := blk_frozen hr1 2
      have z3 := blk_frozen hr1 3
      clear hgA hg2 hr1
      go_wp2_with fail
      refine bodyPost_ret (v := .tuple #[.agg #[.int .i64 0, .slice none 0 0, .slice none 0 0, .slice none 0 0], .int .i64 33]) (by simp [results, Tryz.results115, go_sem, p0, p1, p2, p3]) rfl ?_
      exact ⟨rfl, put4_to (gb_trans HG.out HGA.out (.inl rfl)) (by omega)⟩

theorem at_d (d : Nat) : AtC d := by
  induction d with
  | zero => intro v; intros; rw [Vl.depth_def] at *; omega
  | succ d ih =>
    intro v i w B nA nc sA sc lA lc hd ht hB h
    unfold atF
    by_cases h98 : v.t = 98
    · rw [if_pos h98]
      exact (at_tab v i w B nA nc sA sc lA lc h98 ht hB h).mono fun e w' hp => AtPost.row hp
    · rw [if_neg h98]
      by_cases h99 : v.t = 99 ∧ v.l.length = 2
      · rw [if_pos h99]
        by_cases ha : v.l.all isTab = true
        · rw [if_pos ha]
          exact (at_keyed v i w B nA nc sA sc lA lc h99.1 h99.2 ha ht hB h).mono fun e w' hp => AtPost.row hp
        · rw [if_neg ha]
          have h1l : 1 < v.l.length := by omega
          have := at_dict ih v i w B nA nc sA sc lA lc h99.1 h99.2 h1l (Bool.eq_false_iff.2 ha) _ (hide rfl) hd ht hB h
          rwa [List.getD_eq_getElem?_getD, List.getElem?_eq_getElem h1l, Option.getD_some]
      · rw [if_neg h99]
        exact at_else v i w B nA nc sA sc lA lc h98 h99 ht hB h
end Go.Proofs.YtnilcnobngcbgaaGreat
