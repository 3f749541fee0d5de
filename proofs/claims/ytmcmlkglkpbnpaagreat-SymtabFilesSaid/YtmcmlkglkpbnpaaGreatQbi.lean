/-
  The document's file system: the files behind a crash, one by one, in plain words.
-/
import Derived.Test.YtmcmlkglkpbnpaaGreatQbh
import Derived.Test.YtmcmlkglkpbnpaaGreatQaz
namespace Go.Proofs.YtmcmlkglkpbnpaaGreat
open Go.RowKit
attribute [local go_sem ↓] Go.wp_at_zero Go.wp_at_succ
def tornR (l : List Tn) (n : Int) : Tn := (l.find? (fun t => t.1 == n)).getD (0, 0, 0)
theorem tornR_has {l : List Tn} {n : Int} {j : Nat} (hj : j < l.length) (h : l[j].1 = n) (hn : ∀ (i : Nat) (hi : i < l.length), i < j → l[i].1 ≠ n) : tornR l n = l[j] := by
 have : l.find? (fun t => t.1 == n) = some l[j] := by
  rw [List.find?_eq_some_iff_getElem]
  exact ⟨by simp [h], j, hj, rfl, fun i hi => by simpa using hn i (by omega) hi⟩
 unfold tornR
 rw [this]
 rfl
theorem tornR_no {l : List Tn} {n : Int} (hn : ∀ (i : Nat) (hi : i < l.length), l[i].1 ≠ n) : tornR l n = (0, 0, 0) := by
 have : l.find? (fun t => t.1 == n) = none := by
  rw [List.find?_eq_none]
  intro x hx
  obtain ⟨i, hi, rfl⟩ := List.getElem_of_mem hx
  simpa using hn i hi
 unfold tornR
 rw [this]
 rfl
theorem tn_elem {w : World} {B : Nat} {A : Option Addr} {l : List Tn} (h : Rd w B A (tcells l)) {i : Nat} (hi : i < l.length) : ∃ b o, A = some ⟨b, o, none⟩ ∧ b < B ∧ w.cell? ⟨b, o + i * 3, none⟩ = some (.int .i64 l[i].1) ∧ w.cell? ⟨b, o + i * 3 + 1, none⟩ = some (.int .i64 l[i].2.1) ∧ w.cell? ⟨b, o + i * 3 + 2, none⟩ = some (.int .i64 l[i].2.2) := by
 have hne : tcells l ≠ [] := fun e => by
  have := tcells_length l
  rw [e] at this
  simp only [List.length_nil] at this
  omega
 obtain ⟨b, o, h1, h2, h3⟩ := h.lay hne
 obtain ⟨k1, k2, k3⟩ := tcells_at l i hi
 exact ⟨b, o, h1, h2, h3 _ _ k1, by rw [Nat.add_assoc]; exact h3 _ _ k2, by rw [Nat.add_assoc]; exact h3 _ _ k3⟩
set_option maxHeartbeats 4000000 in
set_option maxRecDepth 100000 in
theorem rTorn_any (d n : Int) (A : Option Addr) (c B : Nat) (l : List Tn) (w : World) (h : Rd w B A (tcells l)) (hB : B ≤ w.heap.size) (hl : l.length ≤ 1000000) :
  Calls Tryz.prog 36 #[.agg #[.int .i64 d, .slice A l.length c], .int .i64 n] w fun e w' => e = .returned (.agg #[.int .i64 (tornR l n).1, .int .i64 (tornR l n).2.1, .int .i64 (tornR l n).2.2]) ∧ w.grownBy w' none := by
 obtain ⟨wa, hwa⟩ : ∃ wa, wa = (w.alloc (.cells #[.int .i64 d, .slice A l.length c] 36)).alloc (.cells #[.int .i64 0, .int .i64 0, .int .i64 0] 94) := ⟨_, rfl⟩
 have hg : w.grownBy wa none := by rw [hwa]; exact gb_alloc (gb_alloc (gb_refl w none) _) _
 have hW : wa.heap[w.heap.size]? = some (.cells #[.int .i64 d, .slice A l.length c] 36 (0, 0)) := by rw [hwa]; exact (heap_alloc_old _ _ (by simp)).trans (heap_alloc_new w _)
 have hT : wa.heap[w.heap.size + 1]? = some (.cells #[.int .i64 0, .int .i64 0, .int .i64 0] 94 (0, 0)) := by
  have := heap_alloc_new (w.alloc (.cells #[.int .i64 d, .slice A l.length c] 36)) (.cells #[.int .i64 0, .int .i64 0, .int .i64 0] 94)
  rw [show (w.alloc (.cells #[.int .i64 d, .slice A l.length c] 36)).heap.size = w.heap.size + 1 by simp] at this
  rw [hwa]
  exact this
 have HR := hide (h.grown hg hB (by simp))
 have b1 : wa.cell? ⟨w.heap.size, 1, none⟩ = some (.slice A l.length c) := by rw [blk_cell hW]; rfl
 have t0 : wa.cell? ⟨w.heap.size + 1, 0, none⟩ = some (.int .i64 0) := by rw [blk_cell hT]; rfl
 have t1 : wa.cell? ⟨w.heap.size + 1, 1, none⟩ = some (.int .i64 0) := by rw [blk_cell hT]; rfl
 have t2 : wa.cell? ⟨w.heap.size + 1, 2, none⟩ = some (.int .i64 0) := by rw [blk_cell hT]; rfl
 have z0 := blk_frozen hT 0
 have z1 := blk_frozen hT 1
 have z2 := blk_frozen hT 2
 have HTT := hide hT
 have HWA := hide hwa
 have HG := hide hg
 clear h hB hwa hg hW hT
 go_enter Tryz.func36, Tryz.ntmps36
 go_upto_region 1 with fail
 rw [← HWA.out]
 go_wp2_with fail
 go_loopw [5] (fun i wr => ∃ j : Nat, i = .int .i64 (j : Int) ∧ j ≤ l.length ∧ (∀ (i : Nat) (hi : i < l.length), i < j → l[i].1 ≠ n) ∧ wa = wr) (fun i _ => l.length - (intOf i).toNat)
 case atStart => exact ⟨0, rfl, Nat.zero_le _, fun i _ h => by omega, rfl⟩
 case round =>
  obtain ⟨j, rfl, hj, hall, rfl⟩ := hrel
  have HA := hide hall
  clear hall
  by_cases hlt : j < l.length
  ·obtain ⟨b, o, rfl, _, p0, p1, p2⟩ := tn_elem HR.out hlt
   obtain ⟨x, hx⟩ : ∃ x, x = l[j] := ⟨_, rfl⟩
   rw [← hx] at p0 p1 p2
   have HX := hide hx
   clear hx
   by_cases hs : x.1 = n
   ·have HS := hide (tornR_has hlt (by rw [← HX.out]; exact hs) HA.out)
    have hs2 : (x.1 == n) = true := by simp [hs]
    go_wp2_with fail
    have hf : (((wa.setCell ⟨w.heap.size + 1, 0, none⟩ (.int .i64 n)).setCell ⟨w.heap.size + 1, 1, none⟩ (.int .i64 x.2.1)).setCell ⟨w.heap.size + 1, 2, none⟩ (.int .i64 x.2.2)).heap[w.heap.size + 1]? = some (.cells #[.int .i64 n, .int .i64 x.2.1, .int .i64 x.2.2] 94 (0, 0)) := blk_set (blk_set (blk_set HTT.out 0 _) 1 _) 2 _
    have m0 : (((wa.setCell ⟨w.heap.size + 1, 0, none⟩ (.int .i64 n)).setCell ⟨w.heap.size + 1, 1, none⟩ (.int .i64 x.2.1)).setCell ⟨w.heap.size + 1, 2, none⟩ (.int .i64 x.2.2)).cell? ⟨w.heap.size + 1, 0, none⟩ = some (.int .i64 n) := by rw [blk_cell hf]; rfl
    have m1 : (((wa.setCell ⟨w.heap.size + 1, 0, none⟩ (.int .i64 n)).setCell ⟨w.heap.size + 1, 1, none⟩ (.int .i64 x.2.1)).setCell ⟨w.heap.size + 1, 2, none⟩ (.int .i64 x.2.2)).cell? ⟨w.heap.size + 1, 1, none⟩ = some (.int .i64 x.2.1) := by rw [blk_cell hf]; rfl
    have m2 : (((wa.setCell ⟨w.heap.size + 1, 0, none⟩ (.int .i64 n)).setCell ⟨w.heap.size + 1, 1, none⟩ (.int .i64 x.2.1)).setCell ⟨w.heap.size + 1, 2, none⟩ (.int .i64 x.2.2)).cell? ⟨w.heap.size + 1, 2, none⟩ = some (.int .i64 x.2.2) := by rw [blk_cell hf]; rfl
    refine bodyPost_ret (v := .agg #[.int .i64 n, .int .i64 x.2.1, .int .i64 x.2.2]) (by simp [results, Tryz.results36, go_sem, m0, m1, m2]) rfl ?_
    exact ⟨by rw [HS.out, ← HX.out, hs], gb_trans HG.out (gb_set (gb_set (gb_set (gb_refl wa (some (w.heap.size + 1))) 0 _) 1 _) 2 _) (.inr (.inr ⟨_, rfl, Nat.le_succ _⟩))⟩
   ·have hs' : (x.1 == n) = false := beq_eq_false_iff_ne.2 hs
    have HS := hide hs
    go_wp2_with fail
    go_roundw
    case rel =>
     refine ⟨j + 1, by go_num, by omega, fun i hi h => ?_, trivial⟩
     by_cases hij : i = j
     ·subst hij
      rw [← HX.out]
      exact HS.out
     ·exact HA.out i hi (by omega)
    case measure => simp [intOf]; omega
  ·have HB := hide (tornR_no (l := l) (n := n) fun i hi => HA.out i hi (by omega))
   go_wp2_with fail
   have hf : (((wa.setCell ⟨w.heap.size + 1, 0, none⟩ (.int .i64 0)).setCell ⟨w.heap.size + 1, 1, none⟩ (.int .i64 0)).setCell ⟨w.heap.size + 1, 2, none⟩ (.int .i64 0)).heap[w.heap.size + 1]? = some (.cells #[.int .i64 0, .int .i64 0, .int .i64 0] 94 (0, 0)) := blk_set (blk_set (blk_set HTT.out 0 _) 1 _) 2 _
   have m0 : (((wa.setCell ⟨w.heap.size + 1, 0, none⟩ (.int .i64 0)).setCell ⟨w.heap.size + 1, 1, none⟩ (.int .i64 0)).setCell ⟨w.heap.size + 1, 2, none⟩ (.int .i64 0)).cell? ⟨w.heap.size + 1, 0, none⟩ = some (.int .i64 0) := by rw [blk_cell hf]; rfl
   have m1 : (((wa.setCell ⟨w.heap.size + 1, 0, none⟩ (.int .i64 0)).setCell ⟨w.heap.size + 1, 1, none⟩ (.int .i64 0)).setCell ⟨w.heap.size + 1, 2, none⟩ (.int .i64 0)).cell? ⟨w.heap.size + 1, 1, none⟩ = some (.int .i64 0) := by rw [blk_cell hf]; rfl
   have m2 : (((wa.setCell ⟨w.heap.size + 1, 0, none⟩ (.int .i64 0)).setCell ⟨w.heap.size + 1, 1, none⟩ (.int .i64 0)).setCell ⟨w.heap.size + 1, 2, none⟩ (.int .i64 0)).cell? ⟨w.heap.size + 1, 2, none⟩ = some (.int .i64 0) := by rw [blk_cell hf]; rfl
   refine bodyPost_ret (v := .agg #[.int .i64 0, .int .i64 0, .int .i64 0]) (by simp [results, Tryz.results36, go_sem, m0, m1, m2]) rfl ?_
   exact ⟨by rw [HB.out], gb_trans HG.out (gb_set (gb_set (gb_set (gb_refl wa (some (w.heap.size + 1))) 0 _) 1 _) 2 _) (.inr (.inr ⟨_, rfl, Nat.le_succ _⟩))⟩
end Go.Proofs.YtmcmlkglkpbnpaaGreat
namespace Go.Proofs.YtmcmlkglkpbnpaaGreat
open Go.RowKit
attribute [local go_sem ↓] Go.wp_at_zero Go.wp_at_succ
def doneL (p : ByteArray) (l : List RD) : ByteArray := l.foldl (fun p x => doneR p x x.p.size) p
def leftN (x : RFl) (t : Tn) : Nat := min x.l.length (max t.2.1 0).toNat
def tearP (x : RFl) (t : Tn) : ByteArray :=
 if h : leftN x t < x.l.length then (if (x.l[leftN x t]).cut = false ∧ 0 < t.2.2 then doneR (doneL x.safe (x.l.take (leftN x t))) x.l[leftN x t] (min t.2.2.toNat (x.l[leftN x t]).p.size) else doneL x.safe (x.l.take (leftN x t)))
 else doneL x.safe (x.l.take (leftN x t))
def tearR (x : RFl) (t : Tn) : RFl := ⟨x.n, tearP x t, [], tearP x t⟩
def crashD (S : RS) (k : Nat) : List RE := (S.m.take k).foldl movedR S.safe
def crashN (S : RS) (d : Int) : Nat := min S.m.length (max d 0).toNat
def crashR (S : RS) (d : Int) (l : List Tn) : RS := ⟨S.f.map (fun x => tearR x (tornR l x.n)), crashD S (crashN S d), crashD S (crashN S d), [], S.cap, S.ops, -1, false⟩
theorem crashD_succ {S : RS} {k : Nat} (hk : k < S.m.length) : crashD S (k + 1) = movedR (crashD S k) S.m[k] := by
 unfold crashD
 rw [List.take_succ_eq_append_getElem hk, List.foldl_append]
 rfl
theorem movedR_le (d : List RE) (m : RM) : (movedR d m).length ≤ d.length + 1 := by
 unfold movedR
 have e1 : ∀ (l : List RE) (i : Nat), (l.eraseIdx i).length ≤ l.length := fun l i => List.length_eraseIdx_le l i
 repeat' split
 all_goals first
  | (simp only [List.length_append, List.length_cons, List.length_nil]; have h1 := e1 d (atR d m.a).toNat; have h2 := e1 (d.eraseIdx (atR d m.a).toNat) (atR (d.eraseIdx (atR d m.a).toNat) m.b).toNat; omega)
  | (have h1 := e1 d (atR d m.a).toNat; omega)
theorem crashD_le (S : RS) (k : Nat) : (crashD S k).length ≤ S.safe.length + k := by
 induction k with
 | zero => simp [crashD]
 | succ k ih =>
  by_cases hk : k < S.m.length
  ·rw [crashD_succ hk]
   have := movedR_le (crashD S k) S.m[k]
   omega
  ·have : crashD S (k + 1) = crashD S k := by
    unfold crashD
    rw [List.take_of_length_le (by omega), List.take_of_length_le (by omega)]
   rw [this]
   omega
theorem doneL_succ (p : ByteArray) {l : List RD} {k : Nat} (hk : k < l.length) : doneL p (l.take (k + 1)) = doneR (doneL p (l.take k)) l[k] (l[k]).p.size := by
 unfold doneL
 rw [List.take_succ_eq_append_getElem hk, List.foldl_append]
 rfl
end Go.Proofs.YtmcmlkglkpbnpaaGreat
namespace Go.Proofs.YtmcmlkglkpbnpaaGreat
open Go.RowKit
def GoodR (x : RFl) : Prop := x.safe.size ≤ 1000000000 ∧ x.l.length ≤ 1000000 ∧ ∀ (k : Nat) (hk : k < x.l.length), x.l[k].at_ ≤ (doneL x.safe (x.l.take k)).size ∧ (doneL x.safe (x.l.take k)).size ≤ 1000000000 ∧ x.l[k].p.size ≤ 1000000000
def tearN (S : RS) (l : List Tn) (q : Nat) : List RFl := ((S.f.take q).map fun x => tearR x (tornR l x.n)) ++ S.f.drop q
theorem tearN_zero (S : RS) (l : List Tn) : tearN S l 0 = S.f := by simp [tearN]
theorem tearN_all (S : RS) (l : List Tn) : tearN S l S.f.length = S.f.map fun x => tearR x (tornR l x.n) := by simp [tearN]
theorem tearN_len (S : RS) (l : List Tn) {q : Nat} (hq : q ≤ S.f.length) : (tearN S l q).length = S.f.length := by
 unfold tearN
 rw [List.length_append, List.length_map, List.length_take, List.length_drop]
 omega
theorem tearN_get (S : RS) (l : List Tn) {q : Nat} (hq : q < S.f.length) : (tearN S l q)[q]? = some S.f[q] := by
 unfold tearN
 rw [List.getElem?_append_right (by rw [List.length_map, List.length_take]; omega), List.length_map, List.length_take, Nat.min_eq_left (Nat.le_of_lt hq), Nat.sub_self, List.getElem?_drop, Nat.add_zero, List.getElem?_eq_getElem hq]
theorem tearN_set (S : RS) (l : List Tn) {q : Nat} (hq : q < S.f.length) : (tearN S l q).set q (tearR S.f[q] (tornR l S.f[q].n)) = tearN S l (q + 1) := by
 unfold tearN
 have hl : ((S.f.take q).map fun x => tearR x (tornR l x.n)).length = q := by rw [List.length_map, List.length_take]; omega
 rw [List.set_append_right _ _ (by rw [hl]; exact Nat.le_refl _), hl, Nat.sub_self, List.take_succ_eq_append_getElem hq, List.map_append, List.drop_eq_getElem_cons hq, List.set_cons_zero, List.append_assoc]
 rfl
end Go.Proofs.YtmcmlkglkpbnpaaGreat
