/-
  Values in plain Lean: a type, numbers, symbols, parts. No program stands in it.
-/
import Derived.Test.YtbmgodmfpoappaaGreatQLib
namespace Go.Proofs.YtbmgodmfpoappaaGreat
inductive Vl where
 | mk (t : Int) (n : List Int) (s : List ByteArray) (l : List Vl)
namespace Vl
def t : Vl → Int | mk t _ _ _ => t
def n : Vl → List Int | mk _ n _ _ => n
def s : Vl → List ByteArray | mk _ _ s _ => s
def l : Vl → List Vl | mk _ _ _ l => l
theorem eta (v : Vl) : v = mk v.t v.n v.s v.l := by cases v; rfl
def chars (s : List ByteArray) : Nat := (s.map ByteArray.size).sum
mutual
def depth : Vl → Nat | mk _ _ _ l => depths l + 1
def depths : List Vl → Nat | [] => 0 | x :: r => max x.depth (depths r)
end
mutual
def tot : Vl → Nat | mk _ n s l => 1 + n.length + s.length + chars s + tots l
def tots : List Vl → Nat | [] => 0 | x :: r => x.tot + tots r
end
mutual
def size : Vl → Nat | mk _ n s l => 1 + n.length + s.length + sizes l
def sizes : List Vl → Nat | [] => 0 | x :: r => x.size + sizes r
end
theorem depth_def (v : Vl) : v.depth = depths v.l + 1 := by cases v; simp [depth, l]
theorem tot_def (v : Vl) : v.tot = 1 + v.n.length + v.s.length + chars v.s + tots v.l := by cases v; simp [tot, n, s, l]
theorem depth_lt {x v : Vl} (h : x ∈ v.l) : x.depth < v.depth := by
 rw [depth_def v]
 suffices ∀ l : List Vl, x ∈ l → x.depth ≤ depths l by have := this _ h; omega
 intro l hl
 induction l with
 | nil => cases hl
 | cons a r ih =>
  simp only [depths]
  rcases List.mem_cons.1 hl with rfl | h
  ·omega
  ·have := ih h; omega
theorem depths_snoc (l : List Vl) (x : Vl) : depths (l ++ [x]) = max (depths l) x.depth := by
 induction l with
 | nil => simp [depths]
 | cons a r ih => simp only [List.cons_append, depths, ih]; omega
theorem tots_append (l m : List Vl) : tots (l ++ m) = tots l + tots m := by
 induction l with
 | nil => simp [tots]
 | cons a r ih => simp only [List.cons_append, tots, ih]; omega
theorem tots_take_le (l : List Vl) (j : Nat) : tots (l.take j) ≤ tots l := by
 have := tots_append (l.take j) (l.drop j)
 rw [List.take_append_drop] at this
 omega
theorem tot_mem {x : Vl} {l : List Vl} (h : x ∈ l) : x.tot ≤ tots l := by
 induction l with
 | nil => cases h
 | cons a r ih =>
  simp only [tots]
  rcases List.mem_cons.1 h with rfl | h
  ·omega
  ·have := ih h; omega
theorem tot_pos (v : Vl) : 0 < v.tot := by rw [tot_def]; omega
theorem length_le_tots (l : List Vl) : l.length ≤ tots l := by
 induction l with
 | nil => simp
 | cons a r ih => simp only [tots, List.length_cons]; have := tot_pos a; omega
theorem depths_take (l : List Vl) (j : Nat) (h : j < l.length) : depths (l.take (j + 1)) = max (depths (l.take j)) l[j].depth := by
 rw [List.take_succ_eq_append_getElem h, depths_snoc]
mutual
def same : Vl → Vl → Bool | mk t n s l, mk t' n' s' l' => decide (t = t') && decide (n = n') && decide (s = s') && sames l l'
def sames : List Vl → List Vl → Bool
 | [], [] => true
 | x :: r, y :: q => same x y && sames r q
 | _, _ => false
end
mutual
theorem same_eq : ∀ a b : Vl, same a b = true ↔ a = b
 | mk t n s l, mk t' n' s' l' => by
  have := sames_eq l l'
  simp only [same, Bool.and_eq_true, decide_eq_true_eq, mk.injEq, this, and_assoc]
theorem sames_eq : ∀ a b : List Vl, sames a b = true ↔ a = b
 | [], [] => by simp [sames]
 | [], _ :: _ => by simp [sames]
 | _ :: _, [] => by simp [sames]
 | x :: r, y :: q => by
  have h1 := same_eq x y
  have h2 := sames_eq r q
  simp only [sames, Bool.and_eq_true, List.cons.injEq, h1, h2]
end
theorem same_refl (a : Vl) : same a a = true := (same_eq a a).2 rfl
theorem same_ne {a b : Vl} (h : a ≠ b) : same a b = false := by
 cases e : same a b
 ·rfl
 ·exact absurd ((same_eq a b).1 e) h
mutual
def count : Vl → Nat
 | mk t n s l => if t = 1 ∨ t = 2 ∨ t = 4 ∨ t = 5 then n.length else if t = 3 then s.length else if t = 0 then l.length else if t = 98 ∨ t = 99 then countH l else 1
def countH : List Vl → Nat
 | [] => 1
 | x :: _ => x.count
end
theorem count_def (v : Vl) : v.count = if v.t = 1 ∨ v.t = 2 ∨ v.t = 4 ∨ v.t = 5 then v.n.length else if v.t = 3 then v.s.length else if v.t = 0 then v.l.length else if v.t = 98 ∨ v.t = 99 then countH v.l else 1 := by
 cases v; rfl
theorem countH_at {l : List Vl} (h : 0 < l.length) : countH l = l[0].count := by
 cases l with
 | nil => simp at h
 | cons a r => rfl
theorem count_le (d : Nat) : ∀ v : Vl, v.depth ≤ d → v.count ≤ v.tot := by
 induction d with
 | zero => intro v h; rw [depth_def] at h; omega
 | succ d ih =>
  intro v h
  have ht := tot_def v
  have hl := length_le_tots v.l
  rw [count_def]
  split
  ·omega
  ·split
   ·omega
   ·split
    ·omega
    ·split
     ·rcases Nat.eq_zero_or_pos v.l.length with h0 | h0
      ·rw [List.eq_nil_of_length_eq_zero h0]
       simp only [countH]; omega
      ·rw [countH_at h0]
       have h1 := ih v.l[0] (by have := depth_lt (List.getElem_mem h0); omega)
       have h2 := tot_mem (List.getElem_mem h0)
       omega
     ·omega
end Vl
end Go.Proofs.YtbmgodmfpoappaaGreat
/- Values in memory. -/
namespace Go.Proofs.YtbmgodmfpoappaaGreat
open Go.RowKit
theorem ret_i {a b : Int} (h : a = b) : Ending.returned (.int .i64 a) = .returned (.int .i64 b) := by rw [h]
theorem ret_b {a b : Bool} (h : a = b) : Ending.returned (.bool a) = .returned (.bool b) := by rw [h]
theorem flat4_at {xs : List (List Value)} (h4 : ∀ c ∈ xs, c.length = 4) (i k : Nat) (hi : i < xs.length) (hk : k < 4) : xs.flatten[i * 4 + k]? = xs[i][k]? := by
 induction xs generalizing i with
 | nil => simp at hi
 | cons c q ih =>
  have hc : c.length = 4 := h4 c (by simp)
  cases i with
  | zero =>
   rw [List.flatten_cons, List.getElem?_append_left (by omega)]
   simp
  | succ i =>
   rw [List.flatten_cons, List.getElem?_append_right (by omega), show (i + 1) * 4 + k - c.length = i * 4 + k by omega, ih (fun c hc => h4 c (by simp [hc])) i (by simpa using hi)]
   rfl
theorem flat4_length {xs : List (List Value)} (h4 : ∀ c ∈ xs, c.length = 4) : xs.flatten.length = xs.length * 4 := by
 induction xs with
 | nil => rfl
 | cons c q ih =>
  have hc : c.length = 4 := h4 c (by simp)
  rw [List.flatten_cons, List.length_append, ih (fun c hc => h4 c (by simp [hc])), List.length_cons]
  omega
mutual
def VAt (w : World) (B : Nat) : Vl → List Value → Prop
 | .mk t n s l, cs => ∃ nA nc sA sc lA lc xs, cs = [.int .i64 t, .slice nA n.length nc, .slice sA s.length sc, .slice lA l.length lc] ∧ n.length ≤ nc ∧ s.length ≤ sc ∧ l.length ≤ lc ∧
   Rd w B nA (i64s n) ∧ Rd w B sA (strs s) ∧ Rd w B lA (List.flatten xs) ∧ VAll w B l xs
def VAll (w : World) (B : Nat) : List Vl → List (List Value) → Prop
 | [], xs => xs = []
 | v :: r, xs => ∃ c q, xs = c :: q ∧ VAt w B v c ∧ VAll w B r q
end
def RdV (w : World) (B : Nat) (A : Option Addr) (l : List Vl) : Prop := ∃ xs, Rd w B A (List.flatten xs) ∧ VAll w B l xs
structure VB (w : World) (B : Nat) (v : Vl) (nA : Option Addr) (nc : Nat) (sA : Option Addr) (sc : Nat) (lA : Option Addr) (lc : Nat) : Prop where
 n : Rd w B nA (i64s v.n)
 s : Rd w B sA (strs v.s)
 l : RdV w B lA v.l
 hn : v.n.length ≤ nc
 hs : v.s.length ≤ sc
 hl : v.l.length ≤ lc
section
variable {w w' : World} {B B' : Nat} {v : Vl} {l : List Vl} {cs : List Value} {xs : List (List Value)} {A : Option Addr}
theorem VAt.parts (h : VAt w B v cs) : ∃ nA nc sA sc lA lc, cs = [.int .i64 v.t, .slice nA v.n.length nc, .slice sA v.s.length sc, .slice lA v.l.length lc] ∧ VB w B v nA nc sA sc lA lc := by
 cases v with
 | mk t n s l =>
  obtain ⟨nA, nc, sA, sc, lA, lc, xs, h0, h1, h2, h3, h4, h5, h6, h7⟩ := h
  exact ⟨nA, nc, sA, sc, lA, lc, h0, h4, h5, ⟨xs, h6, h7⟩, h1, h2, h3⟩
theorem VB.at_ {nA : Option Addr} {nc : Nat} {sA : Option Addr} {sc : Nat} {lA : Option Addr} {lc : Nat} (h : VB w B v nA nc sA sc lA lc) : VAt w B v [.int .i64 v.t, .slice nA v.n.length nc, .slice sA v.s.length sc, .slice lA v.l.length lc] := by
 cases v with
 | mk t n s l =>
  obtain ⟨h4, h5, ⟨xs, h6, h7⟩, h1, h2, h3⟩ := h
  exact ⟨nA, nc, sA, sc, lA, lc, xs, rfl, h1, h2, h3, h4, h5, h6, h7⟩
theorem VAt.length4 (h : VAt w B v cs) : cs.length = 4 := by
 obtain ⟨_, _, _, _, _, _, rfl, _⟩ := h.parts
 rfl
theorem VAll.length (h : VAll w B l xs) : xs.length = l.length := by
 induction l generalizing xs with
 | nil => simp only [VAll] at h; subst h; rfl
 | cons a r ih =>
  obtain ⟨c, q, rfl, _, h2⟩ := h
  simp [ih h2]
theorem VAll.all4 (h : VAll w B l xs) : ∀ c ∈ xs, c.length = 4 := by
 induction l generalizing xs with
 | nil => simp only [VAll] at h; subst h; simp
 | cons a r ih =>
  obtain ⟨c, q, rfl, h1, h2⟩ := h
  intro d hd
  rcases List.mem_cons.1 hd with rfl | hd
  ·exact h1.length4
  ·exact ih h2 d hd
theorem VAll.at_ (h : VAll w B l xs) {i : Nat} (hi : i < l.length) : ∃ hx : i < xs.length, VAt w B l[i] xs[i] := by
 induction l generalizing xs i with
 | nil => simp at hi
 | cons a r ih =>
  obtain ⟨c, q, rfl, h1, h2⟩ := h
  cases i with
  | zero => exact ⟨by simp, h1⟩
  | succ i =>
   obtain ⟨hx, h3⟩ := ih h2 (i := i) (by simpa using hi)
   exact ⟨by simpa using hx, h3⟩
theorem VAll.mk_ (hl : xs.length = l.length) (h : ∀ (i : Nat) (h1 : i < l.length) (h2 : i < xs.length), VAt w B l[i] xs[i]) : VAll w B l xs := by
 induction l generalizing xs with
 | nil => simp only [VAll]; exact List.eq_nil_of_length_eq_zero (by simpa using hl)
 | cons a r ih =>
  match xs, hl with
  | c :: q, hl => exact ⟨c, q, rfl, h 0 (by simp) (by simp), ih (by simpa using hl) fun i h1 h2 => h (i + 1) (by simpa using h1) (by simpa using h2)⟩
theorem VAt.keep (hk : ∀ p : Addr, p.block < B → w'.cell? p = w.cell? p) : ∀ (d : Nat) (v : Vl) (cs : List Value), v.depth ≤ d → VAt w B v cs → VAt w' B v cs := by
 intro d
 induction d with
 | zero => intro v cs hd; rw [Vl.depth_def] at hd; omega
 | succ d ih =>
  intro v cs hd h
  obtain ⟨nA, nc, sA, sc, lA, lc, rfl, hb⟩ := h.parts
  obtain ⟨xs, h6, h7⟩ := hb.l
  refine VB.at_ ⟨hb.n.keep hk, hb.s.keep hk, ⟨xs, h6.keep hk, VAll.mk_ h7.length fun i h1 h2 => ?_⟩, hb.hn, hb.hs, hb.hl⟩
  obtain ⟨_, h8⟩ := h7.at_ h1
  exact ih _ _ (by have := Vl.depth_lt (List.getElem_mem h1); omega) h8
theorem VAt.more (hB : B ≤ B') : ∀ (d : Nat) (v : Vl) (cs : List Value), v.depth ≤ d → VAt w B v cs → VAt w B' v cs := by
 intro d
 induction d with
 | zero => intro v cs hd; rw [Vl.depth_def] at hd; omega
 | succ d ih =>
  intro v cs hd h
  obtain ⟨nA, nc, sA, sc, lA, lc, rfl, hb⟩ := h.parts
  obtain ⟨xs, h6, h7⟩ := hb.l
  refine VB.at_ ⟨hb.n.more hB, hb.s.more hB, ⟨xs, h6.more hB, VAll.mk_ h7.length fun i h1 h2 => ?_⟩, hb.hn, hb.hs, hb.hl⟩
  obtain ⟨_, h8⟩ := h7.at_ h1
  exact ih _ _ (by have := Vl.depth_lt (List.getElem_mem h1); omega) h8
theorem VAt.grown (h : VAt w B v cs) {row : Option Nat} (hg : w.grownBy w' row) (hB : B ≤ w.heap.size) (hr : ∀ g, row = some g → B ≤ g) : VAt w' B v cs :=
 VAt.keep (fun p hp => World.cell?_of_block (hg.block p.block (by omega) (fun e => by have := hr _ e.symm; omega))) v.depth v cs (Nat.le_refl _) h
theorem VAt.gb (h : VAt w B v cs) (hg : w.grownBy w' none) (hB : B ≤ w.heap.size) : VAt w' B v cs := h.grown hg hB (by simp)
theorem VAt.up (h : VAt w B v cs) (hB : B ≤ B') : VAt w B' v cs := VAt.more hB v.depth v cs (Nat.le_refl _) h
theorem RdV.grown (h : RdV w B A l) {row : Option Nat} (hg : w.grownBy w' row) (hB : B ≤ w.heap.size) (hr : ∀ g, row = some g → B ≤ g) : RdV w' B A l := by
 obtain ⟨xs, h6, h7⟩ := h
 refine ⟨xs, h6.grown hg hB hr, VAll.mk_ h7.length fun i h1 h2 => ?_⟩
 obtain ⟨_, h8⟩ := h7.at_ h1
 exact h8.grown hg hB hr
theorem RdV.gb (h : RdV w B A l) (hg : w.grownBy w' none) (hB : B ≤ w.heap.size) : RdV w' B A l := h.grown hg hB (by simp)
theorem RdV.up (h : RdV w B A l) (hB : B ≤ B') : RdV w B' A l := by
 obtain ⟨xs, h6, h7⟩ := h
 refine ⟨xs, h6.more hB, VAll.mk_ h7.length fun i h1 h2 => ?_⟩
 obtain ⟨_, h8⟩ := h7.at_ h1
 exact h8.up hB
theorem VB.gb {nA : Option Addr} {nc : Nat} {sA : Option Addr} {sc : Nat} {lA : Option Addr} {lc : Nat} (h : VB w B v nA nc sA sc lA lc) (hg : w.grownBy w' none) (hB : B ≤ w.heap.size) : VB w' B v nA nc sA sc lA lc :=
 ⟨h.n.grown hg hB (by simp), h.s.grown hg hB (by simp), h.l.gb hg hB, h.hn, h.hs, h.hl⟩
structure C4 (w : World) (b o : Nat) (c0 c1 c2 c3 : Value) : Prop where
 c0 : w.cell? ⟨b, o, none⟩ = some c0
 c1 : w.cell? ⟨b, o + 1, none⟩ = some c1
 c2 : w.cell? ⟨b, o + 2, none⟩ = some c2
 c3 : w.cell? ⟨b, o + 3, none⟩ = some c3
theorem RdV.nil_ : RdV w B A [] := ⟨[], Rd.nil_, by simp [VAll]⟩
theorem RdV.at_ (h : RdV w B A l) {i : Nat} (hi : i < l.length) : ∃ b o nA nc sA sc lA lc, A = some ⟨b, o, none⟩ ∧ b < B ∧
  C4 w b (o + i * 4) (.int .i64 l[i].t) (.slice nA l[i].n.length nc) (.slice sA l[i].s.length sc) (.slice lA l[i].l.length lc) ∧ VB w B l[i] nA nc sA sc lA lc := by
 obtain ⟨xs, h6, h7⟩ := h
 obtain ⟨hx, h8⟩ := h7.at_ hi
 have h4 := h7.all4
 have hlen := flat4_length h4
 obtain ⟨b, o, hA, hb, hc⟩ := h6.lay (by intro e; rw [e] at hlen; simp at hlen; omega)
 have hk : ∀ k u, k < 4 → xs[i][k]? = some u → w.cell? ⟨b, o + i * 4 + k, none⟩ = some u := fun k u hk hu => by
  rw [Nat.add_assoc]
  exact hc _ _ ((flat4_at h4 i k hx hk).trans hu)
 obtain ⟨nA, nc, sA, sc, lA, lc, he, hvb⟩ := h8.parts
 exact ⟨b, o, nA, nc, sA, sc, lA, lc, hA, hb, ⟨hk 0 _ (by omega) (by rw [he]; rfl), hk 1 _ (by omega) (by rw [he]; rfl), hk 2 _ (by omega) (by rw [he]; rfl), hk 3 _ (by omega) (by rw [he]; rfl)⟩, hvb⟩
theorem cell_gb {p : Addr} {u : Value} (h : w.cell? p = some u) (hg : w.grownBy w' none) : w'.cell? p = some u :=
 (World.cell?_of_block (hg.block p.block (World.block_lt_of_cell? w p h) (by simp))).trans h
theorem C4.gb {b o : Nat} {c0 c1 c2 c3 : Value} (h : C4 w b o c0 c1 c2 c3) (hg : w.grownBy w' none) : C4 w' b o c0 c1 c2 c3 := ⟨cell_gb h.c0 hg, cell_gb h.c1 hg, cell_gb h.c2 hg, cell_gb h.c3 hg⟩
theorem C4.box (w : World) (c0 c1 c2 c3 : Value) (t : TypeId) : C4 (w.alloc (.cells #[c0, c1, c2, c3] t)) w.heap.size 0 c0 c1 c2 c3 := by
 have h := heap_alloc_new w (.cells #[c0, c1, c2, c3] t)
 exact ⟨by rw [blk_cell h]; rfl, by rw [blk_cell h]; rfl, by rw [blk_cell h]; rfl, by rw [blk_cell h]; rfl⟩
theorem C4.box2 (w : World) (o : Obj) (c0 c1 c2 c3 : Value) (t : TypeId) : C4 ((w.alloc o).alloc (.cells #[c0, c1, c2, c3] t)) (w.heap.size + 1) 0 c0 c1 c2 c3 := by
 have h := C4.box (w.alloc o) c0 c1 c2 c3 t
 have e : (w.alloc o).heap.size = w.heap.size + 1 := by simp
 rwa [e] at h
end
theorem c4k {w : World} {g : Nat} {a b c d : Value} {t : TypeId} (h : w.heap[g]? = some (.cells #[a, b, c, d] t (0, 0))) : C4 w g 0 a b c d := ⟨by rw [blk_cell h]; rfl, by rw [blk_cell h]; rfl, by rw [blk_cell h]; rfl, by rw [blk_cell h]; rfl⟩
theorem zz4 {w : World} {g : Nat} {t : TypeId} (h : w.heap[g]? = some (.cells #[.int .i64 0, .slice none 0 0, .slice none 0 0, .slice none 0 0] t (0, 0))) :
 w.frozen? ⟨g, 0, none⟩ = false ∧ w.frozen? ⟨g, 1, none⟩ = false ∧ w.frozen? ⟨g, 2, none⟩ = false ∧ w.frozen? ⟨g, 3, none⟩ = false ∧ w.cell? ⟨g, 0, none⟩ = some (.int .i64 0) ∧ w.cell? ⟨g, 1, none⟩ = some (.slice none 0 0) ∧ w.cell? ⟨g, 2, none⟩ = some (.slice none 0 0) ∧ w.cell? ⟨g, 3, none⟩ = some (.slice none 0 0) :=
 ⟨blk_frozen h 0, blk_frozen h 1, blk_frozen h 2, blk_frozen h 3, by rw [blk_cell h]; rfl, by rw [blk_cell h]; rfl, by rw [blk_cell h]; rfl, by rw [blk_cell h]; rfl⟩
end Go.Proofs.YtbmgodmfpoappaaGreat
