/-
  A table of symbols in memory: its block, its row of symbols, its map; which blocks are its own; what else may turn.
-/
import Derived.Test.YtmcmlkglkpbnpaaGreatQah
import Derived.Test.YtmcmlkglkpbnpaaGreatQai
import Derived.Carry
namespace Go.Proofs.YtmcmlkglkpbnpaaGreat
open Go.RowKit
structure Wrote (w w' : World) (f : List Nat) : Prop where
 os : w'.os = w.os
 tape : w'.tape = w.tape
 output : w'.output = w.output
 size : w.heap.size ≤ w'.heap.size
 block : ∀ k, k < w.heap.size → k ∉ f → w'.heap[k]? = w.heap[k]?
theorem Wrote.of_gb {w w' : World} (h : w.grownBy w' none) (f : List Nat) : Wrote w w' f := ⟨h.os, h.tape, h.output, h.size, fun k hk _ => h.block k hk (by simp)⟩
theorem Wrote.of_row {w w' : World} {row : Option Nat} {f : List Nat} (h : w.grownBy w' row) (hf : ∀ g, row = some g → g ∈ f) : Wrote w w' f :=
 ⟨h.os, h.tape, h.output, h.size, fun k hk hn => h.block k hk (fun e => hn (hf k e.symm))⟩
theorem Wrote.trans {a b c : World} {f g : List Nat} (h : Wrote a b f) (k : Wrote b c g) (hg : ∀ x ∈ g, x ∈ f ∨ a.heap.size ≤ x) : Wrote a c f :=
 ⟨k.os.trans h.os, k.tape.trans h.tape, k.output.trans h.output, Nat.le_trans h.size k.size, fun x hx hn => by
  rw [k.block x (Nat.lt_of_lt_of_le hx h.size) (fun hm => by
   rcases hg x hm with h1 | h1
   ·exact hn h1
   ·omega)]
  exact h.block x hx hn⟩
theorem Wrote.gb {w0 w w' : World} {f : List Nat} (h : Wrote w w' f) (hg : w0.grownBy w none) (hf : ∀ x ∈ f, w0.heap.size ≤ x) : w0.grownBy w' none :=
 ⟨h.os.trans hg.os, h.tape.trans hg.tape, h.output.trans hg.output, Nat.le_trans hg.size h.size, fun x hx _ => by
  rw [h.block x (Nat.lt_of_lt_of_le hx hg.size) (fun hm => by have := hf x hm; omega)]
  exact hg.block x hx (by simp)⟩
theorem Wrote.rd {w w' : World} {f : List Nat} {B : Nat} {A : Option Addr} {xs : List Value} (h : Wrote w w' f) (hr : Rd w B A xs) (hA : ∀ ad, A = some ad → ad.block ∉ f) (hB : B ≤ w.heap.size) : Rd w' B A xs := fun hn => by
 obtain ⟨ad, rfl, hb, hc⟩ := hr hn
 refine ⟨ad, rfl, hb, fun j u hu => ?_⟩
 rw [World.cell?_of_block (h.block _ (by rw [add_block]; omega) (by rw [add_block]; exact hA ad rfl))]
 exact hc j u hu
theorem Wrote.own {w w' : World} {f : List Nat} {base n : Nat} {t : TypeId} {v : Value} {xs : List Value} (h : Wrote w w' f) (ho : w.ownsRow base t 1 v n xs) (hv : ∀ g, v.ownBlock = some g → g ∉ f) : w'.ownsRow base t 1 v n xs := by
 refine ⟨ho.1, ?_⟩
 rcases ho.2 with h2 | ⟨g, cap, cur, rfl, h4, h5, h6⟩
 ·exact .inl h2
 ·exact .inr ⟨g, cap, cur, rfl, h4, (h.block g (blk_lt h5) (hv g rfl)).trans h5, h6⟩
theorem Wrote.blk {w w' : World} {f : List Nat} {g : Nat} {o : Obj} (h : Wrote w w' f) (hg : w.heap[g]? = some o) (hn : g ∉ f) : w'.heap[g]? = some o := (h.block g (blk_lt hg) hn).trans hg
abbrev encY : Enc ByteArray Nat := encS (fun n : Nat => .int .i64 (n : Int))
def TabB (w : World) (base g : Nat) (v : Value) (mb : Nat) (L : List ByteArray) : Prop :=
 w.heap[g]? = some (.cells #[v, .map (some mb)] 140 (0, 0)) ∧ w.ownsRow base 9 1 v L.length (strs L) ∧ MapAt encY w mb (enumF 0 L) ∧ base ≤ g ∧ base ≤ mb
def tabF (g : Nat) (v : Value) (mb : Nat) : List Nat := g :: mb :: v.ownBlock.toList
def TabF (w : World) (base : Nat) (f : List Nat) (g : Nat) (L : List ByteArray) : Prop := ∃ v mb, TabB w base g v mb L ∧ f = tabF g v mb
theorem TabB.map {w : World} {base g mb : Nat} {v : Value} {L : List ByteArray} (h : TabB w base g v mb L) : ∃ es clock, w.heap[mb]? = some (.map es clock) := by
 obtain ⟨es, clock, h1, _⟩ := h.2.2.1
 exact ⟨es, clock, h1⟩
theorem TabB.ne {w : World} {base g mb : Nat} {v : Value} {L : List ByteArray} (h : TabB w base g v mb L) : g ≠ mb ∧ v.ownBlock ≠ some g ∧ v.ownBlock ≠ some mb := by
 obtain ⟨es, clock, hm⟩ := h.map
 refine ⟨?_, own_ne h.2.1 h.1 (by decide), fun e => ?_⟩
 ·rintro rfl
  have := h.1
  rw [hm] at this
  cases this
 ·rcases h.2.1.2 with ⟨rfl, _⟩ | ⟨g', cap, cur, rfl, _, hh, _⟩
  ·simp [Value.ownBlock] at e
  ·have : g' = mb := by simpa [Value.ownBlock] using e
   subst this
   rw [hm] at hh
   cases hh
theorem TabF.lt {w : World} {base g : Nat} {f : List Nat} {L : List ByteArray} (h : TabF w base f g L) : ∀ x ∈ f, x < w.heap.size ∧ base ≤ x := by
 obtain ⟨v, mb, hb, rfl⟩ := h
 intro x hx
 unfold tabF at hx
 rcases List.mem_cons.1 hx with rfl | hx
 ·exact ⟨blk_lt hb.1, hb.2.2.2.1⟩
 rcases List.mem_cons.1 hx with rfl | hx
 ·exact ⟨hb.2.2.1.lt, hb.2.2.2.2⟩
 ·have e : v.ownBlock = some x := by simpa using hx
  rcases hb.2.1.2 with ⟨rfl, _⟩ | ⟨g', cap, cur, rfl, h4, hh, _⟩
  ·simp [Value.ownBlock] at e
  ·have : g' = x := by simpa [Value.ownBlock] using e
   subst this
   exact ⟨blk_lt hh, h4⟩
theorem TabF.grown {w w' : World} {base g : Nat} {f : List Nat} {L : List ByteArray} (h : TabF w base f g L) (hg : w.grownBy w' none) : TabF w' base f g L := by
 obtain ⟨v, mb, hb, rfl⟩ := h
 exact ⟨v, mb, ⟨blk_keep hb.1 hg (by simp), own_grown hb.2.1 hg, hb.2.2.1.grown hg (by simp), hb.2.2.2⟩, rfl⟩
theorem TabF.wrote {w w' : World} {base g : Nat} {f F : List Nat} {L : List ByteArray} (h : TabF w base f g L) (hw : Wrote w w' F) (hF : ∀ x ∈ F, x ∉ f) : TabF w' base f g L := by
 obtain ⟨v, mb, hb, rfl⟩ := h
 have h1 : g ∉ F := fun hm => hF g hm (by simp [tabF])
 have h2 : mb ∉ F := fun hm => hF mb hm (by simp [tabF])
 exact ⟨v, mb, ⟨hw.blk hb.1 h1, hw.own hb.2.1 (fun x hx hm => hF x hm (by simp [tabF, hx])), hb.2.2.1.keep (hw.block mb hb.2.2.1.lt h2), hb.2.2.2⟩, rfl⟩
theorem TabF.drewN {w : World} {base g : Nat} {f : List Nat} {L : List ByteArray} (h : TabF w base f g L) (n : Nat) : TabF (w.drewN n) base f g L := h
theorem TabF.open_ {w : World} {base g : Nat} {f : List Nat} {L : List ByteArray} (h : TabF w base f g L) :
  ∃ A c mb, w.cell? ⟨g, 0, none⟩ = some (.slice A L.length c) ∧ w.cell? ⟨g, 1, none⟩ = some (.map (some mb)) ∧ L.length ≤ c ∧ c ≤ maxLen ∧ Rd w w.heap.size A (strs L) ∧ MapAt encY w mb (enumF 0 L) ∧
   TabB w base g (.slice A L.length c) mb L ∧ f = tabF g (.slice A L.length c) mb := by
 obtain ⟨v, mb, hb, rfl⟩ := h
 obtain ⟨A, c, rfl, hn, hc, hr⟩ := own_form hb.2.1
 exact ⟨A, c, mb, by rw [blk_cell hb.1]; rfl, by rw [blk_cell hb.1]; rfl, hn, hc, hr, hb.2.2.1, hb, rfl⟩
def STab (w : World) (base g : Nat) (L : List ByteArray) : Prop := ∃ f, TabF w base f g L
theorem STab.grown {w w' : World} {base g : Nat} {L : List ByteArray} (h : STab w base g L) (hg : w.grownBy w' none) : STab w' base g L := by
 obtain ⟨f, h⟩ := h
 exact ⟨f, h.grown hg⟩
theorem TabF.more {w : World} {base base' g : Nat} {f : List Nat} {L : List ByteArray} (h : TabF w base f g L) (hb : base' ≤ base) : TabF w base' f g L := by
 obtain ⟨v, mb, h, rfl⟩ := h
 exact ⟨v, mb, ⟨h.1, own_base h.2.1 hb, h.2.2.1, by have := h.2.2.2; omega, by have := h.2.2.2; omega⟩, rfl⟩
end Go.Proofs.YtmcmlkglkpbnpaaGreat
