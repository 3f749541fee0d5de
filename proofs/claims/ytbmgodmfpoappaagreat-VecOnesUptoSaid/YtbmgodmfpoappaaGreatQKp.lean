/-
  The document's Of: of atoms of one type their vector.
-/
import Derived.Test.YtbmgodmfpoappaaGreatQKf
import Derived.Test.YtbmgodmfpoappaaGreatQKo
import Derived.Test.YtbmgodmfpoappaaGreatQWk
import Derived.Test.YtbmgodmfpoappaaGreatQKa
import Derived.Test.YtbmgodmfpoappaaGreatQKn
namespace Go.Proofs.YtbmgodmfpoappaaGreat
open Go.RowKit
section
variable {P : Program} {ops : Array Oper} {md : Region.Mode} {a0 : Act} {w0 : World}
theorem wpFacts_skip {L : (Nat → Fct) → Prop} {G : Nat → Fct} {o : Oper} {rest : List Oper} (g : Nat) (b : Bool) (t : Tmp) (hg : o.guard = some (g, b)) (ht : (ops[g]?).bind (·.dst) = some t) (hs : t < a0.tmps.size)
  (hG : ∀ v w, G t v w → v = .bool (!b)) (hr : wpFacts P ops a0 w0 L rest (upd G o.dst (fun v _ => v = undef))) : wpFacts P ops a0 w0 L (o :: rest) G :=
 ⟨_, ⟨fun _ _ _ h _ => h, fun a w hsz hw hl => .inr ⟨by
  have hm : t ∈ o.looksAt ops := by unfold Oper.looksAt; rw [hg]; simp only [ht]; simp
  have h1 := hG _ _ (hl t hm hs)
  have h2 : a.tmps[t]? = some (.bool (!b)) := by
   simp only [Act.eval, Array.getD_eq_getD_getElem?] at h1
   rw [← hsz] at hs
   rw [Array.getElem?_eq_getElem hs] at h1 ⊢
   simpa using h1
  cases b <;> simp [Region.wanted, hg, yielded, ht, h2], rfl⟩⟩, hr⟩
end
end Go.Proofs.YtbmgodmfpoappaaGreat
namespace Go.Proofs.YtbmgodmfpoappaaGreat
open Go.RowKit
attribute [local go_sem ↓] Go.wp_at_zero Go.wp_at_succ
end Go.Proofs.YtbmgodmfpoappaaGreat
namespace Go.Proofs.YtbmgodmfpoappaaGreat
open Go.RowKit
attribute [local go_sem ↓] Go.wp_at_zero Go.wp_at_succ
structure GrowP (w1 : World) (t : Int) (n : List Int) (s : List ByteArray) (N : Option Addr) (nc : Nat) (S : Option Addr) (sc : Nat) (wr : World) : Prop where
 hh : wr.heap[w1.heap.size]? = some (.cells #[.int .i64 t, .slice N n.length nc, .slice S s.length sc, .slice none 0 0] 26 (0, 0))
 hn : wr.ownsRow (w1.heap.size + 1) 2 1 (.slice N n.length nc) n.length (i64s n)
 hs : wr.ownsRow (w1.heap.size + 1) 9 1 (.slice S s.length sc) s.length (strs s)
 hg : w1.grownBy wr none
theorem GrowP.num {w1 wr wd w5 : World} {t : Int} {n m : List Int} {s : List ByteArray} {N N5 S : Option Addr} {nc nc5 sc : Nat} (h : GrowP w1 t n s N nc S sc wr) (hd : wr.grownBy wd none)
  (ho : w5.ownsRow (w1.heap.size + 1) 2 1 (.slice N5 (n.length + m.length) nc5) (n.length + m.length) (i64s n ++ i64s m)) (hg : wd.grownBy w5 (Value.slice N n.length nc).ownBlock) :
  w5.heap[w1.heap.size]? = some (.cells #[.int .i64 t, .slice N n.length nc, .slice S s.length sc, .slice none 0 0] 26 (0, 0)) ∧
  GrowP w1 t (n ++ m) s N5 nc5 S sc (w5.setCell ⟨w1.heap.size, 1, none⟩ (.slice N5 (n.length + m.length) nc5)) ∧
  (∀ b, b < w1.heap.size → (w5.setCell ⟨w1.heap.size, 1, none⟩ (.slice N5 (n.length + m.length) nc5)).heap[b]? = wr.heap[b]?) ∧ wr.heap.size ≤ (w5.setCell ⟨w1.heap.size, 1, none⟩ (.slice N5 (n.length + m.length) nc5)).heap.size := by
 obtain ⟨h1, h2, h3, h4⟩ := h
 rw [← i64s_app] at ho
 have hlt := blk_lt h1
 have hne : ∀ b, b < w1.heap.size + 1 → (Value.slice N n.length nc).ownBlock ≠ some b := fun b hb e => by have := (h2.lt b e).1; omega
 have k1 := (hg.block w1.heap.size (by have := hd.size; omega) (fun e => hne _ (Nat.lt_succ_self _) e.symm)).trans ((hd.block _ hlt (by simp)).trans h1)
 have hgs : w5.grownBy (w5.setCell ⟨w1.heap.size, 1, none⟩ (.slice N5 (n.length + m.length) nc5)) (some w1.heap.size) := gb_setCell (gb_refl _ _) (.inl rfl) _
 have k3 := (h3.kept hd (by cases (Value.slice S s.length sc).ownBlock <;> simp)).kept hg (rows_apart h3 h2 (by decide))
 have hgr : w1.grownBy w5 none := gb_trans (gb_trans h4 hd (.inl rfl)) hg (match hq : (Value.slice N n.length nc).ownBlock with | none => .inr (.inl rfl) | some g => .inr (.inr ⟨g, rfl, by have := (h2.lt g hq).1; omega⟩))
 refine ⟨k1, ⟨?_, ?_, ?_, ?_⟩, fun b hb => ?_, ?_⟩
 ·rw [List.length_append]
  exact blk_set k1 1 _
 ·rw [List.length_append]
  exact ho.kept hgs (.inr (own_ne ho k1 (by decide)))
 ·exact k3.kept hgs (.inr (own_ne k3 k1 (by decide)))
 ·exact gb_trans hgr hgs (.inr (.inr ⟨_, rfl, Nat.le_refl _⟩))
 ·have h9 := h4.size
  have h8 := hd.size
  have h7 := hg.size
  rw [hgs.block b (by omega) (by intro e; injection e with e; omega), hg.block b (by omega) (fun e => hne b (by omega) e.symm), hd.block b (by omega) (by simp)]
 ·have h8 := hd.size
  have h7 := hg.size
  have h6 := hgs.size
  omega
theorem GrowP.str {w1 wr wd w5 : World} {t : Int} {n : List Int} {s m : List ByteArray} {N S S5 : Option Addr} {nc sc sc5 : Nat} (h : GrowP w1 t n s N nc S sc wr) (hd : wr.grownBy wd none)
  (ho : w5.ownsRow (w1.heap.size + 1) 9 1 (.slice S5 (s.length + m.length) sc5) (s.length + m.length) (strs s ++ strs m)) (hg : wd.grownBy w5 (Value.slice S s.length sc).ownBlock) :
  w5.heap[w1.heap.size]? = some (.cells #[.int .i64 t, .slice N n.length nc, .slice S s.length sc, .slice none 0 0] 26 (0, 0)) ∧
  GrowP w1 t n (s ++ m) N nc S5 sc5 (w5.setCell ⟨w1.heap.size, 2, none⟩ (.slice S5 (s.length + m.length) sc5)) := by
 obtain ⟨h1, h2, h3, h4⟩ := h
 rw [← strs_app] at ho
 have hlt := blk_lt h1
 have hne : ∀ b, b < w1.heap.size + 1 → (Value.slice S s.length sc).ownBlock ≠ some b := fun b hb e => by have := (h3.lt b e).1; omega
 have k1 := (hg.block w1.heap.size (by have := hd.size; omega) (fun e => hne _ (Nat.lt_succ_self _) e.symm)).trans ((hd.block _ hlt (by simp)).trans h1)
 have hgs : w5.grownBy (w5.setCell ⟨w1.heap.size, 2, none⟩ (.slice S5 (s.length + m.length) sc5)) (some w1.heap.size) := gb_setCell (gb_refl _ _) (.inl rfl) _
 have k3 := (h2.kept hd (by cases (Value.slice N n.length nc).ownBlock <;> simp)).kept hg (rows_apart h2 h3 (by decide))
 have hgr : w1.grownBy w5 none := gb_trans (gb_trans h4 hd (.inl rfl)) hg (match hq : (Value.slice S s.length sc).ownBlock with | none => .inr (.inl rfl) | some g => .inr (.inr ⟨g, rfl, by have := (h3.lt g hq).1; omega⟩))
 refine ⟨k1, ⟨?_, ?_, ?_, ?_⟩⟩
 ·rw [List.length_append]
  exact blk_set k1 2 _
 ·exact k3.kept hgs (.inr (own_ne k3 k1 (by decide)))
 ·rw [List.length_append]
  exact ho.kept hgs (.inr (own_ne ho k1 (by decide)))
 ·exact gb_trans hgr hgs (.inr (.inr ⟨_, rfl, Nat.le_refl _⟩))
end Go.Proofs.YtbmgodmfpoappaaGreat
