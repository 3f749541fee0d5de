/-
  spoil: writes into a value's own blocks, and nowhere else.
-/
import Derived.Test.YtbmgodmfpoappaaGreatQKa
namespace Go.Proofs.YtbmgodmfpoappaaGreat
open Go.RowKit
structure Wrote (w w' : World) (f : List Nat) : Prop where
 os : w'.os = w.os
 tape : w'.tape = w.tape
 output : w'.output = w.output
 size : w.heap.size ≤ w'.heap.size
 block : ∀ k, k < w.heap.size → k ∉ f → w'.heap[k]? = w.heap[k]?
theorem Wrote.refl_ (w : World) (f : List Nat) : Wrote w w f := ⟨rfl, rfl, rfl, Nat.le_refl _, fun _ _ _ => rfl⟩
theorem Wrote.of_gb {w w' : World} (h : w.grownBy w' none) (f : List Nat) : Wrote w w' f := ⟨h.os, h.tape, h.output, h.size, fun k hk _ => h.block k hk (by simp)⟩
theorem Wrote.trans {a b c : World} {f g : List Nat} (h : Wrote a b f) (k : Wrote b c g) (hg : ∀ x ∈ g, x ∈ f ∨ a.heap.size ≤ x) : Wrote a c f :=
 ⟨k.os.trans h.os, k.tape.trans h.tape, k.output.trans h.output, Nat.le_trans h.size k.size, fun x hx hn => by
  rw [k.block x (Nat.lt_of_lt_of_le hx h.size) (fun hm => by
   rcases hg x hm with h1 | h1
   ·exact hn h1
   ·omega)]
  exact h.block x hx hn⟩
theorem Wrote.more {a b : World} {f g : List Nat} (h : Wrote a b f) (hf : ∀ x ∈ f, x ∈ g) : Wrote a b g := ⟨h.os, h.tape, h.output, h.size, fun x hx hn => h.block x hx fun hm => hn (hf x hm)⟩
theorem Wrote.of_some {a b : World} {g : Nat} {f : List Nat} (h : a.grownBy b (some g)) (hf : g ∈ f) : Wrote a b f :=
 ⟨h.os, h.tape, h.output, h.size, fun x hx hn => h.block x hx (by intro e; injection e with e; exact hn (by rw [e]; exact hf))⟩
theorem Wrote.gb {w0 w w' : World} {f : List Nat} (h : Wrote w w' f) (hg : w0.grownBy w none) (hf : ∀ x ∈ f, w0.heap.size ≤ x) : w0.grownBy w' none :=
 ⟨h.os.trans hg.os, h.tape.trans hg.tape, h.output.trans hg.output, Nat.le_trans hg.size h.size, fun x hx _ => by
  rw [h.block x (Nat.lt_of_lt_of_le hx hg.size) (fun hm => by have := hf x hm; omega)]
  exact hg.block x hx (by simp)⟩
theorem Wrote.cell {w w' : World} {f : List Nat} (h : Wrote w w' f) {a : Addr} {u : Value} (hc : w.cell? a = some u) (hn : a.block ∉ f) : w'.cell? a = some u := by
 rw [World.cell?_of_block (h.block _ (World.block_lt_of_cell? w _ hc) hn)]
 exact hc
def Room (w : World) (f : List Nat) (A : Option Addr) (n : Nat) : Prop := n = 0 ∨ ∃ b t cur, f = [b] ∧ A = some ⟨b, 0, none⟩ ∧ w.heap[b]? = some (.cells cur t (0, 0)) ∧ n ≤ cur.size
theorem Own.room {w : World} {f : List Nat} {A : Option Addr} {xs : List Value} {n : Nat} (h : Own w f A xs) (hn : n = xs.length) : Room w f A n := by
 subst hn
 rcases h with ⟨rfl, _⟩ | ⟨b, t, cur, rfl, hA, hh, ht, _⟩
 ·exact .inl rfl
 ·refine .inr ⟨b, t, cur, rfl, hA, hh, ?_⟩
  have h1 := congrArg List.length ht
  rw [List.length_take] at h1
  have h2 : cur.toList.length = cur.size := Array.length_toList
  omega
theorem Room.keep {w w' : World} {f : List Nat} {A : Option Addr} {n : Nat} (h : Room w f A n) (hk : ∀ b ∈ f, b < w.heap.size → w'.heap[b]? = w.heap[b]?) : Room w' f A n := by
 rcases h with h | ⟨b, t, cur, rfl, hA, hh, hs⟩
 ·exact .inl h
 ·exact .inr ⟨b, t, cur, rfl, hA, (hk b (by simp) (blk_lt hh)).trans hh, hs⟩
theorem Room.set {w : World} {b t n : Nat} {cur : Array Value} (hh : w.heap[b]? = some (.cells cur t (0, 0))) (hs : n ≤ cur.size) (j : Nat) (u : Value) : Room (w.setCell ⟨b, j, none⟩ u) [b] (some ⟨b, 0, none⟩) n :=
 .inr ⟨b, t, _, rfl, rfl, blk_set hh j u, by simpa using hs⟩
def Lft (wa : World) (l : List Vl) (xs : List (List Value)) (fl fp f : List Nat) (lA : Option Addr) (j : Nat) (wr : World) : Prop :=
 Wrote wa wr f ∧ (∃ fj, VOwAll wr (l.drop j) (xs.drop j) fj ∧ fj.Nodup ∧ ∀ b ∈ fj, b ∈ fp) ∧
  (j < l.length → ∃ b t cur, fl = [b] ∧ lA = some ⟨b, 0, none⟩ ∧ wr.heap[b]? = some (.cells cur t (0, 0)) ∧ l.length * 4 ≤ cur.size ∧ ∀ k, j * 4 ≤ k → k < l.length * 4 → cur[k]? = xs.flatten[k]?)
theorem Lft.start {wa : World} {l : List Vl} {xs : List (List Value)} {fl fp f : List Nat} {lA : Option Addr} {wr : World} (h : Wrote wa wr f) (ho : Own wr fl lA (List.flatten xs)) (hall : VOwAll wr l xs fp) (hn : fp.Nodup) : Lft wa l xs fl fp f lA 0 wr := by
 refine ⟨h, ⟨fp, hall, hn, fun _ hb => hb⟩, fun h0 => ?_⟩
 have hlen : (List.flatten xs).length = l.length * 4 := by rw [flat4_length hall.all4, hall.length]
 rcases ho with ⟨h1, _⟩ | ⟨b, t, cur, rfl, hA, hh, ht, _⟩
 ·rw [h1] at hlen; simp at hlen; omega
 ·have h1 := congrArg List.length ht
  rw [List.length_take] at h1
  have h2 : cur.toList.length = cur.size := Array.length_toList
  refine ⟨b, t, cur, rfl, hA, hh, by omega, fun k _ hk => ?_⟩
  rw [← ht, List.getElem?_take, if_pos (by omega), Array.getElem?_toList]
end Go.Proofs.YtbmgodmfpoappaaGreat
