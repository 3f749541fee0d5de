/-
  spoil: writes into a value's own blocks, and nowhere else.
-/
import Derived.Test.YtnilcnobngcbgaaGreatVh
namespace Go.Proofs.YtnilcnobngcbgaaGreat
open Go.RowKit

/-- From w to w' only the blocks f were written (and new ones made). -/
structure Wrote (w w' : World) (f : List Nat) : Prop where
  os : w'.os = w.os
  tape : w'.tape = w.tape
  output : w'.output = w.output
  size : w.heap.size ≤ w'.heap.size
  block : ∀ k, k < w.heap.size → k ∉ f → w'.heap[k]? = w.heap[k]?
theorem Wrote.refl_ (w : World) (f : List Nat) : Wrote w w f := ⟨rfl, rfl, rfl, Nat.le_refl _, fun _ _ _ => rfl⟩
theorem Wrote.of_gb {w w' : World} (h : w.grownBy w' none) (f : List Nat) : Wrote w w' f := ⟨h.os, h.tape, h.output, h.size, fun k hk _ => h.block k hk (by simp)⟩
theorem Wrote.trans {a b c : World} {f g : List Nat} (h : Wrote a b f) (k : Wrote b c g) (hg : ∀ x ∈ g, x ∈ f ∨ a.heap.size ≤ x) : Wrote a c f :=
  ⟨k.os.trans h.os, k.tape.trans h.tape, k.output.trans h.output, Nat.le_trans h.size k.size, fun x hx hn => by
    rw [k.block x (Nat.lt_of_lt_of_le hx h.size) (fun hm => by
      rcases hg x hm with h1 | h1
      · exact hn h1
      · omega)]
    exact h.block x hx hn⟩
theorem Wrote.more {a b : World} {f g : List Nat} (h : Wrote a b f) (hf : ∀ x ∈ f, x ∈ g) : Wrote a b g := ⟨h.os, h.tape, h.output, h.size, fun x hx hn => h.block x hx fun hm => hn (hf x hm)⟩
theorem Wrote.of_some {a b : World} {g : Nat} {f : List Nat} (h : a.grownBy b (some g)) (hf : g ∈ f) : Wrote a b f :=
  ⟨h.os, h.tape, h.output, h.size, fun x hx hn => h.block x hx (by intro e; injection e with e; exact hn (by rw [e]; exact hf))⟩
theorem Wrote.gb {w0 w w' : World} {f : List Nat} (h : Wrote w w' f) (hg : w0.grownBy w none) (hf : ∀ x ∈ f, w0.heap.size ≤ x) : w0.grownBy w' none :=
  ⟨h.os.trans hg.os, h.tape.trans hg.tape, h.output.trans hg.output, Nat.le_trans hg.size h.size, fun x hx _ => by
    rw [h.block x (Nat.lt_of_lt_of_le hx hg.size) (fun hm => by have := hf x hm; omega)]
    exact hg.block x hx (by simp)⟩
theorem Wrote.cell {w w' : World} {f : List Nat} (h : Wrote w w' f) {a : Addr} {u : Value} (hc : w.cell? a = some u) (hn : a.block ∉ f) : w'.cell? a = some u := by
  rw [World.cell?_of_block (h.block _ (World.block_lt_of_cell? w _ hc) hn)]
  exact hc

/-- A row's block, whatever is in it. -/
def Room (w : World) (f : List Nat) (A : Option Addr) (n : Nat) : Prop := n = 0 ∨ ∃ b t cur, f = [b] ∧ A = some ⟨b, 0, none⟩ ∧ w.heap[b]? = some (.cells cur t (0, 0)) ∧ n ≤ cur.size
theorem Own.room {w : World} {f : List Nat} {A : Option Addr} {xs : List Value} {n : Nat} (h : Own w f A xs) (hn : n = xs.length) : Room w f A n := by
  subst hn
  rcases h with ⟨rfl, _⟩ | ⟨b, t, cur, rfl, hA, hh, ht, _⟩
  · exact .inl rfl
  · refine .inr ⟨b, t, cur, rfl, hA, hh, ?_⟩
    have h1 := congrArg List.length ht
    rw [List.length_take] at h1
    have h2 : cur.toList.length = cur.size := Array.length_toList
    omega
theorem Room.keep {w w' : World} {f : List Nat} {A : Option Addr} {n : Nat} (h : Room w f A n) (hk : ∀ b ∈ f, b < w.heap.size → w'.heap[b]? = w.heap[b]?) : Room w' f A n := by
  rcases h with h | ⟨b, t, cur, rfl, hA, hh, hs⟩
  · exact .inl h
  · exact .inr ⟨b, t, cur, rfl, hA, (hk b (by simp) (blk_lt hh)).trans hh, hs⟩

theorem Room.set {w : World} {b t n : Nat} {cur : Array Value} (hh : w.heap[b]? = some (.cells cur t (0, 0))) (hs : n ≤ cur.size) (j : Nat) (u : Value) : Room (w.setCell ⟨b, j, none⟩ u) [b] (some ⟨b, 0, none⟩) n :=
  .inr ⟨b, t, _, rfl, rfl, blk_set hh j u, by simpa using hs⟩

/-- What is left of a value's parts behind j of them. -/
def Lft (wa : World) (l : List Vl) (xs : List (List Value)) (fl fp f : List Nat) (lA : Option Addr) (j : Nat) (wr : World) : Prop :=
  Wrote wa wr f ∧ (∃ fj, VOwAll wr (l.drop j) (xs.drop j) fj ∧ fj.Nodup ∧ ∀ b ∈ fj, b ∈ fp) ∧
    (j < l.length → ∃ b t cur, fl = [b] ∧ lA = some ⟨b, 0, none⟩ ∧ wr.heap[b]? = some (.cells cur t (0, 0)) ∧ l.length * 4 ≤ cur.size ∧ ∀ k, j * 4 ≤ k → k < l.length * 4 → cur[k]? = xs.flatten[k]?)
theorem Lft.start {wa : World} {l : List Vl} {xs : List (List Value)} {fl fp f : List Nat} {lA : Option Addr} {wr : World} (h : Wrote wa wr f) (ho : Own wr fl lA (List.flatten xs)) (hall : VOwAll wr l xs fp) (hn : fp.Nodup) : Lft wa l xs fl fp f lA 0 wr := by
  refine ⟨h, ⟨fp, hall, hn, fun _ hb => hb⟩, fun h0 => ?_⟩
  have hlen : (List.flatten xs).length = l.length * 4 := by rw [flat4_length hall.all4, hall.length]
  rcases ho with ⟨h1, _⟩ | ⟨b, t, cur, rfl, hA, hh, ht, _⟩
  · rw [h1] at hlen; simp at hlen; omega
  · have h1 := congrArg List.length ht
    rw [List.length_take] at h1
    have h2 : cur.toList.length = cur.size := Array.length_toList
    refine ⟨b, t, cur, rfl, hA, hh, by omega, fun k _ hk => ?_⟩
    rw [← ht, List.getElem?_take, if_pos (by omega), Array.getElem?_toList]
theorem put4_out (cur : Array Value) (i k : Nat) (hk : i + 4 ≤ k) (c0 c1 c2 c3 : Value) : ((((cur.setIfInBounds i c0).setIfInBounds (i + 1) c1).setIfInBounds (i + 2) c2).setIfInBounds (i + 3) c3)[k]? = cur[k]? := by
  simp only [Array.getElem?_setIfInBounds]
  rw [if_neg (by omega), if_neg (by omega), if_neg (by omega), if_neg (by omega)]
/-- The part that is next: its four cells, its blocks. -/
theorem Lft.here {wa : World} {l : List Vl} {xs : List (List Value)} {fl fp f : List Nat} {lA : Option Addr} {j : Nat} {wr : World} (h : Lft wa l xs fl fp f lA j wr) (hj : j < l.length) (hx4 : ∀ c ∈ xs, c.length = 4) (hxl : xs.length = l.length) (hdis : ∀ b ∈ fl, b ∉ fp) :
    ∃ b xA xc yA yc zA zc f1, lA = some ⟨b, 0, none⟩ ∧ fl = [b] ∧ C4 wr b (j * 4) (.int .i64 l[j].t) (.slice xA l[j].n.length xc) (.slice yA l[j].s.length yc) (.slice zA l[j].l.length zc) ∧
      VOw wr l[j] [.int .i64 l[j].t, .slice xA l[j].n.length xc, .slice yA l[j].s.length yc, .slice zA l[j].l.length zc] f1 ∧ f1.Nodup ∧ (∀ x ∈ f1, x ∈ fp) ∧ b < wr.heap.size ∧
      ∀ w6, Wrote wr w6 f1 → ∃ t cur, w6.heap[b]? = some (.cells cur t (0, 0)) ∧ l.length * 4 ≤ cur.size ∧ ∀ c0 c1 c2 c3, (b ∈ f) → (∀ x ∈ fp, x ∈ f) → Lft wa l xs fl fp f lA (j + 1) (put4 w6 b (j * 4) c0 c1 c2 c3) := by
  obtain ⟨hw, ⟨fj, hall, hnd, hsub⟩, hbl⟩ := h
  obtain ⟨b, t, cur, rfl, hA, hh, hs, hcs⟩ := hbl hj
  rw [List.drop_eq_getElem_cons hj] at hall
  obtain ⟨c, q, f1, f2, hxq, rfl, h1, h2⟩ := hall
  have hjx : j < xs.length := by omega
  rw [List.drop_eq_getElem_cons hjx] at hxq
  simp only [List.cons.injEq] at hxq
  obtain ⟨hc, hq⟩ := hxq
  obtain ⟨n1, n2, n3⟩ := List.nodup_append.1 hnd
  have hbn : b ∉ fp := hdis b (by simp)
  obtain ⟨xA, xc, yA, yc, zA, zc, rs, gn, gs, gl, gp, hce, hlen, hown, hsubs, hfe⟩ := h1.parts
  have hcell : ∀ k u, k < 4 → c[k]? = some u → wr.cell? ⟨b, j * 4 + k, none⟩ = some u := by
    intro k u hk hu
    rw [blk_cell hh, hcs (j * 4 + k) (by omega) (by omega), flat4_at hx4 j k hjx hk, hc]
    exact hu
  subst hce
  have hbw := blk_lt hh
  refine ⟨b, xA, xc, yA, yc, zA, zc, f1, hA, rfl, ⟨hcell 0 _ (by omega) rfl, hcell 1 _ (by omega) rfl, hcell 2 _ (by omega) rfl, hcell 3 _ (by omega) rfl⟩, h1, n1, fun x hx => hsub x (by simp [hx]), hbw, fun w6 hw6 => ?_⟩
  have hh6 : w6.heap[b]? = some (.cells cur t (0, 0)) := (hw6.block b hbw (fun hm => hbn (hsub b (by simp [hm])))).trans hh
  refine ⟨t, cur, hh6, hs, fun c0 c1 c2 c3 hbf hff => ⟨?_, ⟨f2, ?_, n2, fun x hx => hsub x (by simp [hx])⟩, fun hj1 => ⟨b, t, _, rfl, hA, put4_blk hh6 c0 c1 c2 c3, by simpa using hs, fun k hk hk2 => ?_⟩⟩⟩
  · exact (hw.trans hw6 fun x hx => .inl (hff x (hsub x (by simp [hx])))).trans (Wrote.of_some (put4_gb w6 b (j * 4) c0 c1 c2 c3) (f := [b]) (by simp)) fun x hx => .inl (by obtain rfl := List.mem_singleton.1 hx; exact hbf)
  · rw [hq]
    refine VOwAll.keep _ _ _ h2 fun x hx => ?_
    have hxw := VOwAll.lt _ _ _ h2 x hx
    have hxb : x ≠ b := fun e => hbn (by rw [← e]; exact hsub x (by simp [hx]))
    rw [(put4_gb w6 b (j * 4) c0 c1 c2 c3).block x (Nat.lt_of_lt_of_le hxw hw6.size) (by intro e; injection e with e; exact hxb e)]
    exact hw6.block x hxw fun hm => n3 x hm x hx rfl
  · rw [put4_out cur (j * 4) k (by omega)]
    exact hcs k (by omega) hk2

end Go.Proofs.YtnilcnobngcbgaaGreat
