/-
  vec.Reverse of any vector or list.
-/
import Derived.Test.YtbmgodmfpoappaaGreatQKj
import Derived.Test.YtbmgodmfpoappaaGreatQKa
import Derived.Test.YtbmgodmfpoappaaGreatQKd
import Derived.Test.YtbmgodmfpoappaaGreatQKi
import Derived.Deep.RegionLaw
namespace Go.Proofs.YtbmgodmfpoappaaGreat
open Go.RowKit
attribute [local go_sem ↓] Go.wp_at_zero Go.wp_at_succ
end Go.Proofs.YtbmgodmfpoappaaGreat
namespace Go.Proofs.YtbmgodmfpoappaaGreat
open Go.RowKit
attribute [local go_sem ↓] Go.wp_at_zero Go.wp_at_succ
def pickV (l : List Vl) (no : Vl) (p : Int) : Vl := if 0 ≤ p ∧ p < (l.length : Int) then l.getD p.toNat no else no
def FillP (w wa : World) (l : List Vl) (no : Vl) (ps : List Int) (j : Nat) (wr : World) : Prop := ∃ xs cur, wr.heap[w.heap.size + 1]? = some (.cells cur 26 (0, 0)) ∧ cur.size = ps.length * 4 ∧ cur.toList.take (j * 4) = List.flatten xs ∧ VAll w w.heap.size ((ps.take j).map (pickV l no)) xs ∧ wa.grownBy wr none
theorem FillP.step {w wa wr : World} {l : List Vl} {no : Vl} {ps : List Int} {j : Nat} {xs : List (List Value)} {cur : Array Value} {c0 c1 c2 c3 : Value} (hlt : j < ps.length) (hh : wr.heap[w.heap.size + 1]? = some (.cells cur 26 (0, 0))) (hs : cur.size = ps.length * 4)
  (htk : cur.toList.take (j * 4) = List.flatten xs) (hall : VAll w w.heap.size ((ps.take j).map (pickV l no)) xs) (hg : wa.grownBy wr none) (hwa : wa.heap.size = w.heap.size + 1) {p : Int} (hp : ps[j]? = some p) (hv : VAt w w.heap.size (pickV l no p) [c0, c1, c2, c3]) : FillP w wa l no ps (j + 1) (put4 wr (w.heap.size + 1) (j * 4) c0 c1 c2 c3) := by
 refine ⟨xs ++ [[c0, c1, c2, c3]], _, put4_blk hh c0 c1 c2 c3, by simp [hs], ?_, ?_, gb_trans hg (put4_gb wr (w.heap.size + 1) (j * 4) c0 c1 c2 c3) (.inr (.inr ⟨_, rfl, by omega⟩))⟩
 ·rw [show (j + 1) * 4 = j * 4 + 4 by omega, put4_take cur (j * 4) (by omega), htk, List.flatten_append]
  simp
 ·rw [List.take_add_one, hp, Option.toList_some, List.map_append]
  exact VAll.snoc _ _ hall hv
end Go.Proofs.YtbmgodmfpoappaaGreat
namespace Go.Proofs.YtbmgodmfpoappaaGreat
open Go.RowKit
attribute [local go_sem ↓] Go.wp_at_zero Go.wp_at_succ
def numT (t : Int) : Prop := t = 1 ∨ t = 2 ∨ t = 4 ∨ t = 5
end Go.Proofs.YtbmgodmfpoappaaGreat
namespace Go.Proofs.YtbmgodmfpoappaaGreat
open Go.RowKit
attribute [local go_sem ↓] Go.wp_at_zero Go.wp_at_succ
def NewF (base : Nat) (v : Vl) : Fct := fun x w => ∃ nA nc sA sc lA lc f, x = .agg #[.int .i64 v.t, .slice nA v.n.length nc, .slice sA v.s.length sc, .slice lA v.l.length lc] ∧ VOw w v [.int .i64 v.t, .slice nA v.n.length nc, .slice sA v.s.length sc, .slice lA v.l.length lc] f ∧ f.Nodup ∧ ∀ b ∈ f, base ≤ b
theorem VOw.grow {w w' : World} {v : Vl} {cs : List Value} {f : List Nat} (h : VOw w v cs f) (hg : w.grownBy w' none) : VOw w' v cs f :=
 VOw.keep _ _ _ h fun b hb => hg.block b (VOw.lt _ _ _ h b hb) (by simp)
theorem NewF.up (base : Nat) (v : Vl) : (NewF base v).Up := by
 rintro x w w' ⟨nA, nc, sA, sc, lA, lc, f, h1, h2, h3, h4⟩ hg
 exact ⟨nA, nc, sA, sc, lA, lc, f, h1, h2.grow hg, h3, h4⟩
theorem NewF.of {base : Nat} {v : Vl} {w w' : World} {e : Ending} (hb : base ≤ w.heap.size) (h : NewV v w e w') : ∃ x, e = .returned x ∧ w.grownBy w' none ∧ NewF base v x w' := by
 obtain ⟨nA, nc, sA, sc, lA, lc, f, rfl, ho, hn, hg⟩ := h
 exact ⟨_, rfl, hg, nA, nc, sA, sc, lA, lc, f, rfl, ho, hn.1, fun b hb2 => Nat.le_trans hb (hn.2 b hb2).1⟩
theorem TupV.row {v : Vl} {w w5 : World} {base s : Nat} {nA : Option Addr} {nc : Nat} {sA : Option Addr} {sc : Nat} {lA : Option Addr} {lc : Nat} {f : List Nat} (c : Array Value) (hs : w.heap.size ≤ s) (hsb : s < base) (hg : w.grownBy w5 none)
  (ho : VOw w5 v [.int .i64 v.t, .slice nA v.n.length nc, .slice sA v.s.length sc, .slice lA v.l.length lc] f) (hnd : f.Nodup) (hf : ∀ b ∈ f, base ≤ b) :
  TupV v w (.returned (.tuple #[.agg #[.int .i64 v.t, .slice nA v.n.length nc, .slice sA v.s.length sc, .slice lA v.l.length lc], .int .i64 0])) (w5.setRow s c) := by
 refine ⟨nA, nc, sA, sc, lA, lc, f, rfl, VOw.keep _ _ _ ho fun b hb => heap_setRow _ _ _ _ (by have := hf b hb; omega), ⟨hnd, fun b hb => ⟨by have := hf b hb; omega, ?_⟩⟩, gb_setRow hg _ _ hs⟩
 have := VOw.lt _ _ _ ho b hb
 simpa [World.setRow] using this
theorem VOw.ints {w : World} {base : Nat} {t : Int} {l : List Int} {A : Option Addr} {c : Nat} (hlc : l.length ≤ c) (h : w.ownsRow base 2 1 (.slice A l.length c) l.length (i64s l)) :
  ∃ f, VOw w (.mk t l [] []) [.int .i64 t, .slice A l.length c, .slice none 0 0, .slice none 0 0] f ∧ f.Nodup ∧ ∀ b ∈ f, base ≤ b := by
 obtain ⟨f1, o1, b1⟩ := Own.of_row h
 refine ⟨f1, ⟨A, c, none, 0, none, 0, [], f1, [], [], [], rfl, ⟨hlc, Nat.le_refl _, Nat.le_refl _⟩, ⟨o1, .inl ⟨rfl, rfl⟩, .inl ⟨rfl, rfl⟩⟩, ⟨rfl, rfl⟩, by simp⟩, ?_, fun b hb => (b1 b hb).1⟩
 match f1, o1.len with
 | [], _ => simp
 | [x], _ => simp
theorem VOw.strs {w : World} {base : Nat} {t : Int} {l : List ByteArray} {A : Option Addr} {c : Nat} (hlc : l.length ≤ c) (h : w.ownsRow base 9 1 (.slice A l.length c) l.length (strs l)) :
  ∃ f, VOw w (.mk t [] l []) [.int .i64 t, .slice none 0 0, .slice A l.length c, .slice none 0 0] f ∧ f.Nodup ∧ ∀ b ∈ f, base ≤ b := by
 obtain ⟨f1, o1, b1⟩ := Own.of_row h
 refine ⟨f1, ⟨none, 0, A, c, none, 0, [], [], f1, [], [], rfl, ⟨Nat.le_refl _, hlc, Nat.le_refl _⟩, ⟨.inl ⟨rfl, rfl⟩, o1, .inl ⟨rfl, rfl⟩⟩, ⟨rfl, rfl⟩, by simp⟩, ?_, fun b hb => (b1 b hb).1⟩
 match f1, o1.len with
 | [], _ => simp
 | [x], _ => simp
def OwnSF (base : Nat) (l : List ByteArray) : Fct := fun v w => ∃ A c, l.length ≤ c ∧ v = .slice A l.length c ∧ w.ownsRow base 9 1 (.slice A l.length c) l.length (strs l)
theorem OwnSF.up (base : Nat) (l : List ByteArray) : (OwnSF base l).Up := by
 rintro v w w' ⟨A, c, h1, h2, h3⟩ hg
 exact ⟨A, c, h1, h2, own_up h3 hg⟩
def emp : Vl := .mk 0 [] [] []
def seqT (t : Int) : Prop := numT t ∨ t = 3 ∨ t = 0
theorem seqT.kind {x : Vl} (h : seqT x.t) : (kindO x.t x.s.length x.n.length == x.t) = true := by
 rcases h with (h | h | h | h) | h | h <;> rw [h] <;> rfl
section
attribute [-go_sem] Go.storeCells
end
end Go.Proofs.YtbmgodmfpoappaaGreat
namespace Go.Proofs.YtbmgodmfpoappaaGreat
open Go.RowKit
attribute [local go_sem ↓] Go.wp_at_zero Go.wp_at_succ
theorem seqT.count {x : Vl} (h : seqT x.t) (ht : x.tot ≤ 1200000000) : x.count ≤ 1200000000 := by
 obtain ⟨l1, l2, l3, l4⟩ := Vl.lens x ht
 rw [Vl.count_def]
 rcases h with (h | h | h | h) | h | h
 ·rw [if_pos (.inl h)]; exact l1
 ·rw [if_pos (.inr (.inl h))]; exact l1
 ·rw [if_pos (.inr (.inr (.inl h)))]; exact l1
 ·rw [if_pos (.inr (.inr (.inr h)))]; exact l1
 ·rw [if_neg (by omega), if_pos h]; exact l2
 ·rw [if_neg (by omega), if_neg (by omega), if_pos h]; exact l3
end Go.Proofs.YtbmgodmfpoappaaGreat
namespace Go.Proofs.YtbmgodmfpoappaaGreat
open Go.RowKit
attribute [local go_sem ↓] Go.wp_at_zero Go.wp_at_succ
def TupF (base : Nat) (v : Vl) : Fct := fun x w => ∃ nA nc sA sc lA lc f, x = .tuple #[.agg #[.int .i64 v.t, .slice nA v.n.length nc, .slice sA v.s.length sc, .slice lA v.l.length lc], .int .i64 0] ∧ VOw w v [.int .i64 v.t, .slice nA v.n.length nc, .slice sA v.s.length sc, .slice lA v.l.length lc] f ∧ f.Nodup ∧ ∀ b ∈ f, base ≤ b
theorem TupF.up (base : Nat) (v : Vl) : (TupF base v).Up := by
 rintro x w w' ⟨nA, nc, sA, sc, lA, lc, f, h1, h2, h3, h4⟩ hg
 exact ⟨nA, nc, sA, sc, lA, lc, f, h1, h2.grow hg, h3, h4⟩
theorem TupF.of {base : Nat} {v : Vl} {w w' : World} {e : Ending} (hb : base ≤ w.heap.size) (h : TupV v w e w') : ∃ x, e = .returned x ∧ w.grownBy w' none ∧ TupF base v x w' := by
 obtain ⟨nA, nc, sA, sc, lA, lc, f, rfl, ho, hn, hg⟩ := h
 exact ⟨_, rfl, hg, nA, nc, sA, sc, lA, lc, f, rfl, ho, hn.1, fun b hb2 => Nat.le_trans hb (hn.2 b hb2).1⟩
section
attribute [-go_sem] Go.storeCells
end
end Go.Proofs.YtbmgodmfpoappaaGreat
namespace Go.Proofs.YtbmgodmfpoappaaGreat
open Go.RowKit
attribute [local go_sem ↓] Go.wp_at_zero Go.wp_at_succ
end Go.Proofs.YtbmgodmfpoappaaGreat
namespace Go.Proofs.YtbmgodmfpoappaaGreat
open Go.RowKit
attribute [local go_sem ↓] Go.wp_at_zero Go.wp_at_succ
end Go.Proofs.YtbmgodmfpoappaaGreat
