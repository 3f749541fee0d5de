/-
  agg: Open, and how the places of an int vector stand to each other.
-/
import Derived.WalkKit
import Derived.WalkSpells
import Derived.WalkLawsBesides
import Derived.Maps.AppendAt
import Derived.Deep.AppendLies
import Derived.Deep.Draws
import Derived.Laws.BytesArg
import Derived.Test.YtgepejnooghjbaaGreatChecked
import Derived.Deep.QuietTactic
import Derived.BigQuiet
import Derived.Deep.RegionHeld3
import Derived.Deep.DrawnRows
import Derived.Deep.CutBlock
import Derived.Deep.DeepCutAuto
import Derived.Deep.RegionLaw
import Derived.Laws.EntriesVeiled

namespace Go.Proofs.YtgepejnooghjbaaGreat
open Go.RowKit

/-- A fact kept from the walk. -/
theorem hide {p : Prop} (h : p) : Hid p := h

/-! ## frames -/

theorem gb_refl (w : World) (row : Option Nat) : w.grownBy w row := ⟨rfl, rfl, rfl, Nat.le_refl _, fun _ _ _ => rfl⟩
theorem gb_trans {a b c : World} {row row' : Option Nat} (h : a.grownBy b row) (k : b.grownBy c row') (hr : row' = row ∨ row' = none ∨ ∃ g, row' = some g ∧ a.heap.size ≤ g) : a.grownBy c row :=
  ⟨k.os.trans h.os, k.tape.trans h.tape, k.output.trans h.output, Nat.le_trans h.size k.size, fun i hi hne => by
    refine (k.block i (Nat.lt_of_lt_of_le hi h.size) ?_).trans (h.block i hi hne)
    rcases hr with rfl | rfl | ⟨g, rfl, hg⟩
    · exact hne
    · simp
    · intro e; injection e with e; omega⟩
theorem gb_drew {a w : World} {row : Option Nat} (h : a.grownBy w row) : a.grownBy w.drew row := ⟨h.os, h.tape, h.output, h.size, h.block⟩
theorem gb_drewN {a w : World} {row : Option Nat} (h : a.grownBy w row) (n : Nat) : a.grownBy (w.drewN n) row := ⟨h.os, h.tape, h.output, h.size, h.block⟩
theorem gb_alloc {a w : World} {row : Option Nat} (h : a.grownBy w row) (o : Obj) : a.grownBy (w.alloc o) row :=
  ⟨h.os, h.tape, h.output, Nat.le_trans h.size (by simp), fun i hi hne => (Below.heap_alloc w o i (Nat.lt_of_lt_of_le hi h.size)).trans (h.block i hi hne)⟩
theorem gb_setCell {a w : World} {row : Option Nat} (h : a.grownBy w row) {p : Addr} (hp : row = some p.block ∨ a.heap.size ≤ p.block) (u : Value) : a.grownBy (w.setCell p u) row :=
  ⟨h.os, h.tape, h.output, by simpa [World.setCell] using h.size, fun i hi hne => (Below.heap_setCell w p u i (by
    rintro rfl
    rcases hp with hp | hp
    · exact hne hp.symm
    · omega)).trans (h.block i hi hne)⟩
theorem gb_below {w w' : World} {row : Option Nat} {B : Nat} (h : w.grownBy w' row) (hB : B ≤ w.heap.size) (hr : ∀ g, row = some g → B ≤ g) : Below B w w' := (Below.refl B w).grown h hB hr
/-! ## a slice that reads as a list of cells -/

theorem add_block (a : Addr) (n : Nat) : (a.add n).block = a.block := by unfold Addr.add; split <;> rfl
/-- The slice value '.slice A n c' reads as the cells xs, in a block below B. (n is told apart: xs.length = n times the cells of an element.) -/
def Rd (w : World) (B : Nat) (A : Option Addr) (xs : List Value) : Prop :=
  xs ≠ [] → ∃ ad, A = some ad ∧ ad.block < B ∧ ∀ j u, xs[j]? = some u → w.cell? (ad.add j) = some u

section
variable {w w' : World} {B B' : Nat} {A : Option Addr} {xs : List Value}
theorem Rd.nil_ : Rd w B A [] := fun h => absurd rfl h
theorem Rd.keep (h : Rd w B A xs) (hk : ∀ p : Addr, p.block < B → w'.cell? p = w.cell? p) : Rd w' B A xs := fun hn => by
  obtain ⟨ad, e, hb, hc⟩ := h hn
  exact ⟨ad, e, hb, fun j u hu => (hk _ (by rw [add_block]; exact hb)).trans (hc j u hu)⟩
theorem Rd.more (h : Rd w B A xs) (hB : B ≤ B') : Rd w B' A xs := fun hn => by
  obtain ⟨ad, e, hb, hc⟩ := h hn
  exact ⟨ad, e, by omega, hc⟩
theorem Rd.below (h : Rd w B A xs) (hb : Below B w w') : Rd w' B A xs := h.keep fun _ hp => hb.cell hp
theorem Rd.drew (h : Rd w B A xs) : Rd w.drew B A xs := h
theorem Rd.drewN (h : Rd w B A xs) (k : Nat) : Rd (w.drewN k) B A xs := h
theorem Rd.alloc (h : Rd w B A xs) (hB : B ≤ w.heap.size) (o : Obj) : Rd (w.alloc o) B A xs := h.keep fun p hp => World.cell?_alloc_lt w o p (by omega)
theorem Rd.grown (h : Rd w B A xs) {row : Option Nat} (hg : w.grownBy w' row) (hB : B ≤ w.heap.size) (hr : ∀ g, row = some g → B ≤ g) : Rd w' B A xs :=
  h.keep fun p hp => World.cell?_of_block (hg.block p.block (by omega) (fun e => by have := hr _ e.symm; omega))
theorem Rd.cell (h : Rd w B A xs) {k : Nat} (hk : k < xs.length) : ∃ ad, A = some ad ∧ ad.block < B ∧ w.cell? (ad.add k) = some xs[k] := by
  obtain ⟨ad, e, hb, hc⟩ := h (by rintro rfl; simp at hk)
  exact ⟨ad, e, hb, hc k _ (List.getElem?_eq_getElem hk)⟩
theorem Rd.of_own {base : Nat} {e : TypeId} {size c n : Nat} (h : w.ownsRow base e size (.slice A n c) n xs) : Rd w w.heap.size A xs := by
  intro hn
  rcases h.2 with ⟨h1, h2⟩ | ⟨g, cap, cur, hv, _, hgg, _⟩
  · subst h2; have := h.1; simp at this; exact absurd this hn
  · injection hv with hA
    subst hA
    exact ⟨_, rfl, (Array.getElem?_eq_some_iff.1 hgg).1, h.cells rfl⟩
/-- The address laid open. -/
theorem Rd.lay (h : Rd w B A xs) (hn : xs ≠ []) : ∃ b o, A = some ⟨b, o, none⟩ ∧ b < B ∧ ∀ j u, xs[j]? = some u → w.cell? ⟨b, o + j, none⟩ = some u := by
  obtain ⟨ad, rfl, hb, hc⟩ := h hn
  obtain ⟨b, o, sp⟩ := ad
  have h0 : 0 < xs.length := List.length_pos_iff.2 hn
  have hc0 := hc 0 xs[0] (List.getElem?_eq_getElem h0)
  have hsp : sp = none := by
    rcases sp with _ | s
    · rfl
    · simp only [Addr.add, if_true, World.cell?] at hc0
      split at hc0 <;> simp at hc0
  subst hsp
  refine ⟨b, o, rfl, hb, fun j u hu => ?_⟩
  have := hc j u hu
  rwa [Addr.add_lit] at this
theorem Rd.take (h : Rd w B A xs) (k : Nat) : Rd w B A (xs.take k) := fun hn => by
  obtain ⟨ad, rfl, hb, hcell⟩ := h (by rintro rfl; simp at hn)
  exact ⟨ad, rfl, hb, fun j u hu => hcell j u (by
    rw [List.getElem?_take] at hu
    split at hu
    · exact hu
    · cases hu)⟩
/-- A new block, whole. -/
theorem Rd.new (w : World) (cs : Array Value) (t : TypeId) (xs : List Value) (h : xs = cs.toList) : Rd (w.alloc (.cells cs t)) (w.heap.size + 1) (some ⟨w.heap.size, 0, none⟩) xs := fun _ =>
  ⟨_, rfl, by simp, fun j u hu => by
    subst h
    have e : (⟨w.heap.size, 0, none⟩ : Addr).add j = ⟨w.heap.size, j, none⟩ := by unfold Addr.add; split <;> simp_all
    rw [e, cell_of_row _ w.heap.size j cs t (0, 0) (heap_alloc_new w _)]
    simpa using hu⟩
end

/-! ## a block that is known whole -/

theorem blk_cell {w : World} {g : Nat} {cs : Array Value} {t : TypeId} (h : w.heap[g]? = some (.cells cs t (0, 0))) (i : Nat) : w.cell? ⟨g, i, none⟩ = cs[i]? := cell_of_row w g i cs t (0, 0) h
theorem blk_frozen {w : World} {g : Nat} {cs : Array Value} {t : TypeId} (h : w.heap[g]? = some (.cells cs t (0, 0))) (i : Nat) : w.frozen? ⟨g, i, none⟩ = false := by
  simp [World.frozen?, h]
theorem blk_lt {w : World} {g : Nat} {o : Obj} (h : w.heap[g]? = some o) : g < w.heap.size := (Array.getElem?_eq_some_iff.1 h).1
theorem blk_set {w : World} {g : Nat} {cs : Array Value} {t : TypeId} (h : w.heap[g]? = some (.cells cs t (0, 0))) (i : Nat) (u : Value) : (w.setCell ⟨g, i, none⟩ u).heap[g]? = some (.cells (cs.setIfInBounds i u) t (0, 0)) := by
  simp [World.setCell, Array.getElem?_modify, h]
theorem blk_keep {w w' : World} {g : Nat} {o : Obj} {row : Option Nat} (h : w.heap[g]? = some o) (hg : w.grownBy w' row) (hne : some g ≠ row) : w'.heap[g]? = some o := (hg.block g (blk_lt h) hne).trans h
theorem own_ne {w : World} {base g size n : Nat} {e t : TypeId} {v : Value} {xs : List Value} {cs : Array Value} (h : w.ownsRow base e size v n xs) (hg : w.heap[g]? = some (.cells cs t (0, 0))) (hne : e ≠ t) : v.ownBlock ≠ some g := by
  rcases h.2 with ⟨rfl, _⟩ | ⟨g', cap, cur, rfl, _, hh, _⟩
  · simp [Value.ownBlock]
  · intro he
    have : g' = g := by simpa [Value.ownBlock] using he
    subst this
    rw [hh] at hg
    injection hg with hg
    injection hg with _ ht
    exact hne ht
theorem own_form {w : World} {base : Nat} {e : TypeId} {v : Value} {n : Nat} {xs : List Value} (h : w.ownsRow base e 1 v n xs) : ∃ A c, v = .slice A n c ∧ n ≤ c ∧ c ≤ maxLen ∧ Rd w w.heap.size A xs := by
  have h' := h
  rcases h.2 with ⟨rfl, rfl⟩ | ⟨g, cap, cur, rfl, _, _, hnc, hcm, _⟩
  · exact ⟨none, 0, rfl, Nat.le_refl _, Nat.zero_le _, Rd.of_own h'⟩
  · exact ⟨_, cap, rfl, hnc, hcm, Rd.of_own h'⟩

/-! ## append onto a row of the call's own -/

section
variable {P : Program} (w : World)

theorem run_append_none (base : Nat) (t ty e : TypeId) (i : TypeInfo) (size : Nat) (ht : P.underlying t = some (.slice e)) (hi : P.info? e = some i)
    (v : Value) (n : Nat) (xs : List Value) (hown : w.ownsRow base e size v n xs) (A : Option Addr) (c : Nat) : (Builtin.append_ #[t, t] ty #[v, .slice A 0 c]).run P w = .ok v w := by
  rcases hown.2 with ⟨rfl, rfl⟩ | ⟨g, cap, cur, rfl, _, _, hnc, _⟩
  · cases A <;> simp [Builtin.append_, run_underlying ht, sizeOf, typeInfo, hi, Builtin.lenOf, Builtin.firstCells, loadCells, loadCellsFrom]
  · cases A <;> simp [Builtin.append_, run_underlying ht, sizeOf, typeInfo, hi, Builtin.lenOf, Builtin.firstCells, hnc, storeCells, loadCells, loadCellsFrom]

/-- append(s, x...): s a row of the call's own, x reads as 'news', whatever its address. -/
theorem run_append_rd (base : Nat) (t ty e : TypeId) (i : TypeInfo) (z : Value) (size bytes : Nat) (ht : P.underlying t = some (.slice e)) (hi : P.info? e = some i) (hz : i.zero = some z)
    (hsize : i.size = size) (hby : i.bytes = bytes) (hzs : z.cells.size = size) (hsz : 0 < size)
    (v : Value) (n : Nat) (xs : List Value) (hown : w.ownsRow base e size v n xs)
    (B : Nat) (A : Option Addr) (m c : Nat) (news : List Value) (hl : news.length = m * size) (hr : Rd w B A news) (h1 : ∀ u ∈ news, u.oneCell' = true)
    (h63 : n + m ≤ maxLen) (hbytes : (n + m) * bytes ≤ 140737488355328) (hbase : base ≤ w.heap.size) :
    ∃ v' w', (Builtin.append_ #[t, t] ty #[v, .slice A m c]).run P w = .ok v' w' ∧ w'.ownsRow base e size v' (n + m) (xs ++ news) ∧ w.grownBy w' v.ownBlock ∧
      (v'.ownBlock = v.ownBlock ∨ v'.ownBlock = some w.heap.size) := by
  rcases Nat.eq_zero_or_pos m with h0 | h0
  · subst h0
    have hn : news = [] := List.eq_nil_of_length_eq_zero (by simpa using hl)
    subst hn
    exact ⟨v, w, run_append_none w base t ty e i size ht hi v n xs hown A c, by simpa using hown, gb_refl w _, .inl rfl⟩
  · have hne : news ≠ [] := by
      rintro rfl
      have : 0 < m * size := Nat.mul_pos h0 hsz
      simp at hl; omega
    obtain ⟨ad, rfl, _, hcells⟩ := hr hne
    obtain ⟨v', w', hrun, h2, h3, _, h5⟩ := run_append_own_at (P := P) w base t ty e i z size bytes ht hi hz hsize hby hzs hsz v n xs hown ad m c news hl hcells h1 h63 hbytes hbase
    exact ⟨v', w', hrun, h2, h3, h5⟩

theorem wp_append_rd {o : Oper} {a : Act} {K : Act → World → Prop} {Q : Exit → Act → World → Prop} (s x : Operand) (t : TypeId)
    (ho : o.op = .call { callee := .builtin .append, args := #[s, x], argTypes := #[t, t] })
    (base : Nat) (e : TypeId) (i : TypeInfo) (z : Value) (size bytes : Nat) (ht : P.underlying t = some (.slice e)) (hi : P.info? e = some i) (hz : i.zero = some z)
    (hsize : i.size = size) (hby : i.bytes = bytes) (hzs : z.cells.size = size) (hsz : 0 < size)
    (v : Value) (n : Nat) (xs : List Value) (hs : a.eval s = v) (hown : w.ownsRow base e size v n xs)
    (B : Nat) (A : Option Addr) (m c : Nat) (news : List Value) (hx : a.eval x = .slice A m c) (hl : news.length = m * size) (hr : Rd w B A news) (h1 : ∀ u ∈ news, u.oneCell' = true)
    (h63 : n + m ≤ maxLen) (hbytes : (n + m) * bytes ≤ 140737488355328) (hbase : base ≤ w.heap.size)
    (h : ∀ v' w', w'.ownsRow base e size v' (n + m) (xs ++ news) → w.grownBy w' v.ownBlock → (v'.ownBlock = v.ownBlock ∨ v'.ownBlock = some w.heap.size) → K (a.put o.dst v') w') : o.wp P a w K Q := by
  obtain ⟨v', w', hrun, h2, h3, h4⟩ := run_append_rd (P := P) w base t o.type e i z size bytes ht hi hz hsize hby hzs hsz v n xs hown B A m c news hl hr h1 h63 hbytes hbase
  unfold Oper.wp execOp
  simp only [ho, resolve, invoke, builtin, Sem.run_bind, Sem.run_pure, Result.andThen_ok, List.map_toArray, List.map_cons, List.map_nil, hs, hx, hrun]
  exact h v' w' h2 h3 h4

theorem wpList_append_rd {ops : Array Oper} {rest : List Oper} {o : Oper} {a : Act} {Q : Exit → Act → World → Prop} (hgd : o.guard = none) (s x : Operand) (t : TypeId)
    (ho : o.op = .call { callee := .builtin .append, args := #[s, x], argTypes := #[t, t] })
    (base : Nat) (e : TypeId) (i : TypeInfo) (z : Value) (size bytes : Nat) (ht : P.underlying t = some (.slice e)) (hi : P.info? e = some i) (hz : i.zero = some z)
    (hsize : i.size = size) (hby : i.bytes = bytes) (hzs : z.cells.size = size) (hsz : 0 < size)
    (v : Value) (n : Nat) (xs : List Value) (hs : a.eval s = v) (hown : w.ownsRow base e size v n xs)
    (B : Nat) (A : Option Addr) (m c : Nat) (news : List Value) (hx : a.eval x = .slice A m c) (hl : news.length = m * size) (hr : Rd w B A news) (h1 : ∀ u ∈ news, u.oneCell' = true)
    (h63 : n + m ≤ maxLen) (hbytes : (n + m) * bytes ≤ 140737488355328) (hbase : base ≤ w.heap.size)
    (h : ∀ v' w', w'.ownsRow base e size v' (n + m) (xs ++ news) → w.grownBy w' v.ownBlock → (v'.ownBlock = v.ownBlock ∨ v'.ownBlock = some w.heap.size) → wpList P ops Q rest (a.put o.dst v') w') : wpList P ops Q (o :: rest) a w :=
  wpList_plain hgd fun _ hK => wp_append_rd w s x t ho base e i z size bytes ht hi hz hsize hby hzs hsz v n xs hs hown B A m c news hx hl hr h1 h63 hbytes hbase fun v' w' h2 h3 h4 => hK _ _ (h v' w' h2 h3 h4)
end

/-! ## numbers of 64 bits -/

/-- The number has 64 bits (the long numeral behind a name). -/
def U64 (n : Nat) : Prop := n ≤ 18446744073709551615
theorem U64.wrap {n : Nat} (h : U64 n) : IntKind.u64.wrap (n : Int) = (n : Int) := by
  unfold U64 at h
  simp only [IntKind.wrap_u64]
  omega
/-! ## bytes -/

/-- Bytes as cells. -/
def u8s (bs : List UInt8) : List Value := bs.map fun b => Value.int .u8 (b.toNat : Int)
/-- Numbers as cells. -/
def u64s (l : List Nat) : List Value := l.map fun (n : Nat) => Value.int .u64 (n : Int)

theorem u8s_length (bs : List UInt8) : (u8s bs).length = bs.length := by simp [u8s]
def i64s (l : List Int) : List Value := l.map (Value.int .i64)
def strs (l : List ByteArray) : List Value := l.map Value.string
theorem u64s_length (l : List Nat) : (u64s l).length = l.length := by simp [u64s]
theorem i64s_length (l : List Int) : (i64s l).length = l.length := by simp [i64s]
theorem strs_length (l : List ByteArray) : (strs l).length = l.length := by simp [strs]
section
variable {w : World} {B : Nat} {A : Option Addr} {k : Nat}
theorem Rd.u8 {bs : List UInt8} (h : Rd w B A (u8s bs)) (hk : k < bs.length) : ∃ ad, A = some ad ∧ ad.block < B ∧ w.cell? (ad.add k) = some (.int .u8 ((bs[k]).toNat : Int)) := by
  obtain ⟨ad, h1, h2, h3⟩ := h.cell (k := k) (by rw [u8s_length]; exact hk)
  exact ⟨ad, h1, h2, by rw [h3]; simp [u8s]⟩
theorem Rd.u64 {l : List Nat} (h : Rd w B A (u64s l)) (hk : k < l.length) : ∃ ad, A = some ad ∧ ad.block < B ∧ w.cell? (ad.add k) = some (.int .u64 ((l[k] : Nat) : Int)) := by
  obtain ⟨ad, h1, h2, h3⟩ := h.cell (k := k) (by rw [u64s_length]; exact hk)
  exact ⟨ad, h1, h2, by rw [h3]; simp [u64s]⟩
theorem Rd.i64 {l : List Int} (h : Rd w B A (i64s l)) (hk : k < l.length) : ∃ ad, A = some ad ∧ ad.block < B ∧ w.cell? (ad.add k) = some (.int .i64 l[k]) := by
  obtain ⟨ad, h1, h2, h3⟩ := h.cell (k := k) (by rw [i64s_length]; exact hk)
  exact ⟨ad, h1, h2, by rw [h3]; simp [i64s]⟩
theorem Rd.str {l : List ByteArray} (h : Rd w B A (strs l)) (hk : k < l.length) : ∃ ad, A = some ad ∧ ad.block < B ∧ w.cell? (ad.add k) = some (.string l[k]) := by
  obtain ⟨ad, h1, h2, h3⟩ := h.cell (k := k) (by rw [strs_length]; exact hk)
  exact ⟨ad, h1, h2, by rw [h3]; simp [strs]⟩
end
/-! ## lists of bytes: (address, capacity, bytes) -/

def sls (l : List (Option Addr × Nat × List UInt8)) : List Value := l.map fun x => .slice x.1 x.2.2.length x.2.1
def RdB (w : World) (B : Nat) (A : Option Addr) (l : List (Option Addr × Nat × List UInt8)) : Prop :=
  Rd w B A (sls l) ∧ ∀ x ∈ l, Rd w B x.1 (u8s x.2.2) ∧ x.2.2.length ≤ x.2.1 ∧ x.2.1 ≤ maxLen

theorem sls_length (l : List (Option Addr × Nat × List UInt8)) : (sls l).length = l.length := by simp [sls]
section
variable {w w' : World} {B : Nat} {A : Option Addr} {l : List (Option Addr × Nat × List UInt8)}
theorem RdB.at_ (h : RdB w B A l) {k : Nat} (hk : k < l.length) : ∃ ad, A = some ad ∧ ad.block < B ∧ w.cell? (ad.add k) = some (.slice l[k].1 l[k].2.2.length l[k].2.1) ∧ Rd w B l[k].1 (u8s l[k].2.2) ∧ l[k].2.2.length ≤ l[k].2.1 ∧ l[k].2.1 ≤ maxLen := by
  obtain ⟨ad, h1, h2, h3⟩ := h.1.cell (k := k) (by rw [sls_length]; exact hk)
  exact ⟨ad, h1, h2, by rw [h3]; simp [sls], h.2 _ (List.getElem_mem hk)⟩
theorem RdB.grown (h : RdB w B A l) {row : Option Nat} (hg : w.grownBy w' row) (hB : B ≤ w.heap.size) (hr : ∀ g, row = some g → B ≤ g) : RdB w' B A l :=
  ⟨h.1.grown hg hB hr, fun x hx => ⟨(h.2 x hx).1.grown hg hB hr, (h.2 x hx).2⟩⟩
end

end Go.Proofs.YtgepejnooghjbaaGreat

namespace Go.Proofs.YtgepejnooghjbaaGreat

/-- A value as the program's type has it. -/
inductive Vl where
  | mk (t : Int) (n : List Int) (s : List ByteArray) (l : List Vl)

namespace Vl
def t : Vl → Int | mk t _ _ _ => t
def n : Vl → List Int | mk _ n _ _ => n
def s : Vl → List ByteArray | mk _ _ s _ => s
def l : Vl → List Vl | mk _ _ _ l => l
theorem eta (v : Vl) : v = mk v.t v.n v.s v.l := by cases v; rfl

/-- How many bytes of symbols. -/
def chars (s : List ByteArray) : Nat := (s.map ByteArray.size).sum

mutual
/-- How many are in one another. -/
def depth : Vl → Nat | mk _ _ _ l => depths l + 1
def depths : List Vl → Nat | [] => 0 | x :: r => max x.depth (depths r)
end
mutual
/-- How much there is: elements, bytes and parts. -/
def tot : Vl → Nat | mk _ n s l => 1 + n.length + s.length + chars s + tots l
def tots : List Vl → Nat | [] => 0 | x :: r => x.tot + tots r
end
mutual
/-- Elements and parts. -/
def size : Vl → Nat | mk _ n s l => 1 + n.length + s.length + sizes l
def sizes : List Vl → Nat | [] => 0 | x :: r => x.size + sizes r
end

theorem depth_def (v : Vl) : v.depth = depths v.l + 1 := by cases v; simp [depth, l]
theorem tot_def (v : Vl) : v.tot = 1 + v.n.length + v.s.length + chars v.s + tots v.l := by cases v; simp [tot, n, s, l]
theorem depth_lt {x v : Vl} (h : x ∈ v.l) : x.depth < v.depth := by
  rw [depth_def v]
  suffices ∀ l : List Vl, x ∈ l → x.depth ≤ depths l by have := this _ h; omega
  intro l hl
  induction l with
  | nil => cases hl
  | cons a r ih =>
    simp only [depths]
    rcases List.mem_cons.1 hl with rfl | h
    · omega
    · have := ih h; omega
theorem tots_append (l m : List Vl) : tots (l ++ m) = tots l + tots m := by
  induction l with
  | nil => simp [tots]
  | cons a r ih => simp only [List.cons_append, tots, ih]; omega
theorem tots_take_le (l : List Vl) (j : Nat) : tots (l.take j) ≤ tots l := by
  have := tots_append (l.take j) (l.drop j)
  rw [List.take_append_drop] at this
  omega
theorem tot_mem {x : Vl} {l : List Vl} (h : x ∈ l) : x.tot ≤ tots l := by
  induction l with
  | nil => cases h
  | cons a r ih =>
    simp only [tots]
    rcases List.mem_cons.1 h with rfl | h
    · omega
    · have := ih h; omega
theorem tot_pos (v : Vl) : 0 < v.tot := by rw [tot_def]; omega
theorem length_le_tots (l : List Vl) : l.length ≤ tots l := by
  induction l with
  | nil => simp
  | cons a r ih => simp only [tots, List.length_cons]; have := tot_pos a; omega
theorem chars_take (s : List ByteArray) (j : Nat) (h : j < s.length) : chars (s.take (j + 1)) = chars (s.take j) + s[j].size := by
  unfold chars
  rw [List.take_succ_eq_append_getElem h, List.map_append, List.sum_append]
  simp
theorem chars_take_le (s : List ByteArray) (j : Nat) : chars (s.take j) ≤ chars s := by
  unfold chars
  have h : s = s.take j ++ s.drop j := (List.take_append_drop j s).symm
  conv => rhs; rw [h]
  rw [List.map_append, List.sum_append]
  omega

mutual
/-- Are they the same? -/
def same : Vl → Vl → Bool | mk t n s l, mk t' n' s' l' => decide (t = t') && decide (n = n') && decide (s = s') && sames l l'
def sames : List Vl → List Vl → Bool
  | [], [] => true
  | x :: r, y :: q => same x y && sames r q
  | _, _ => false
end
mutual
theorem same_eq : ∀ a b : Vl, same a b = true ↔ a = b
  | mk t n s l, mk t' n' s' l' => by
    have := sames_eq l l'
    simp only [same, Bool.and_eq_true, decide_eq_true_eq, mk.injEq, this, and_assoc]
theorem sames_eq : ∀ a b : List Vl, sames a b = true ↔ a = b
  | [], [] => by simp [sames]
  | [], _ :: _ => by simp [sames]
  | _ :: _, [] => by simp [sames]
  | x :: r, y :: q => by
    have h1 := same_eq x y
    have h2 := sames_eq r q
    simp only [sames, Bool.and_eq_true, List.cons.injEq, h1, h2]
end
theorem same_refl (a : Vl) : same a a = true := (same_eq a a).2 rfl
theorem same_ne {a b : Vl} (h : a ≠ b) : same a b = false := by
  cases e : same a b
  · rfl
  · exact absurd ((same_eq a b).1 e) h
mutual
/-- How many elements, or rows. -/
def count : Vl → Nat
  | mk t n s l => if t = 1 ∨ t = 2 ∨ t = 4 ∨ t = 5 then n.length else if t = 3 then s.length else if t = 0 then l.length else if t = 98 ∨ t = 99 then countH l else 1
def countH : List Vl → Nat
  | [] => 1
  | x :: _ => x.count
end
theorem count_def (v : Vl) : v.count = if v.t = 1 ∨ v.t = 2 ∨ v.t = 4 ∨ v.t = 5 then v.n.length else if v.t = 3 then v.s.length else if v.t = 0 then v.l.length else if v.t = 98 ∨ v.t = 99 then countH v.l else 1 := by
  cases v; rfl
theorem countH_at {l : List Vl} (h : 0 < l.length) : countH l = l[0].count := by
  cases l with
  | nil => simp at h
  | cons a r => rfl
theorem count_le (d : Nat) : ∀ v : Vl, v.depth ≤ d → v.count ≤ v.tot := by
  induction d with
  | zero => intro v h; rw [depth_def] at h; omega
  | succ d ih =>
    intro v h
    have ht := tot_def v
    have hl := length_le_tots v.l
    rw [count_def]
    split
    · omega
    · split
      · omega
      · split
        · omega
        · split
          · rcases Nat.eq_zero_or_pos v.l.length with h0 | h0
            · rw [List.eq_nil_of_length_eq_zero h0]
              simp only [countH]; omega
            · rw [countH_at h0]
              have h1 := ih v.l[0] (by have := depth_lt (List.getElem_mem h0); omega)
              have h2 := tot_mem (List.getElem_mem h0)
              omega
          · omega
end Vl
end Go.Proofs.YtgepejnooghjbaaGreat

/- Values in memory. -/
namespace Go.Proofs.YtgepejnooghjbaaGreat
open Go.RowKit

theorem ret_b {a b : Bool} (h : a = b) : Ending.returned (.bool a) = .returned (.bool b) := by rw [h]
theorem flat4_at {xs : List (List Value)} (h4 : ∀ c ∈ xs, c.length = 4) (i k : Nat) (hi : i < xs.length) (hk : k < 4) : xs.flatten[i * 4 + k]? = xs[i][k]? := by
  induction xs generalizing i with
  | nil => simp at hi
  | cons c q ih =>
    have hc : c.length = 4 := h4 c (by simp)
    cases i with
    | zero =>
      rw [List.flatten_cons, List.getElem?_append_left (by omega)]
      simp
    | succ i =>
      rw [List.flatten_cons, List.getElem?_append_right (by omega), show (i + 1) * 4 + k - c.length = i * 4 + k by omega, ih (fun c hc => h4 c (by simp [hc])) i (by simpa using hi)]
      rfl
theorem flat4_length {xs : List (List Value)} (h4 : ∀ c ∈ xs, c.length = 4) : xs.flatten.length = xs.length * 4 := by
  induction xs with
  | nil => rfl
  | cons c q ih =>
    have hc : c.length = 4 := h4 c (by simp)
    rw [List.flatten_cons, List.length_append, ih (fun c hc => h4 c (by simp [hc])), List.length_cons]
    omega

mutual
/-- These four cells read as the value v, in blocks below B. -/
def VAt (w : World) (B : Nat) : Vl → List Value → Prop
  | .mk t n s l, cs => ∃ nA nc sA sc lA lc xs, cs = [.int .i64 t, .slice nA n.length nc, .slice sA s.length sc, .slice lA l.length lc] ∧ n.length ≤ nc ∧ s.length ≤ sc ∧ l.length ≤ lc ∧
      Rd w B nA (i64s n) ∧ Rd w B sA (strs s) ∧ Rd w B lA (List.flatten xs) ∧ VAll w B l xs
def VAll (w : World) (B : Nat) : List Vl → List (List Value) → Prop
  | [], xs => xs = []
  | v :: r, xs => ∃ c q, xs = c :: q ∧ VAt w B v c ∧ VAll w B r q
end

/-- A slice of values. -/
def RdV (w : World) (B : Nat) (A : Option Addr) (l : List Vl) : Prop := ∃ xs, Rd w B A (List.flatten xs) ∧ VAll w B l xs

/-- Where a value's parts lie. -/
structure VB (w : World) (B : Nat) (v : Vl) (nA : Option Addr) (nc : Nat) (sA : Option Addr) (sc : Nat) (lA : Option Addr) (lc : Nat) : Prop where
  n : Rd w B nA (i64s v.n)
  s : Rd w B sA (strs v.s)
  l : RdV w B lA v.l
  hn : v.n.length ≤ nc
  hs : v.s.length ≤ sc
  hl : v.l.length ≤ lc

section
variable {w w' : World} {B B' : Nat} {v : Vl} {l : List Vl} {cs : List Value} {xs : List (List Value)} {A : Option Addr}
theorem VAt.parts (h : VAt w B v cs) : ∃ nA nc sA sc lA lc, cs = [.int .i64 v.t, .slice nA v.n.length nc, .slice sA v.s.length sc, .slice lA v.l.length lc] ∧ VB w B v nA nc sA sc lA lc := by
  cases v with
  | mk t n s l =>
    obtain ⟨nA, nc, sA, sc, lA, lc, xs, h0, h1, h2, h3, h4, h5, h6, h7⟩ := h
    exact ⟨nA, nc, sA, sc, lA, lc, h0, h4, h5, ⟨xs, h6, h7⟩, h1, h2, h3⟩
theorem VB.at_ {nA : Option Addr} {nc : Nat} {sA : Option Addr} {sc : Nat} {lA : Option Addr} {lc : Nat} (h : VB w B v nA nc sA sc lA lc) : VAt w B v [.int .i64 v.t, .slice nA v.n.length nc, .slice sA v.s.length sc, .slice lA v.l.length lc] := by
  cases v with
  | mk t n s l =>
    obtain ⟨h4, h5, ⟨xs, h6, h7⟩, h1, h2, h3⟩ := h
    exact ⟨nA, nc, sA, sc, lA, lc, xs, rfl, h1, h2, h3, h4, h5, h6, h7⟩
theorem VAt.length4 (h : VAt w B v cs) : cs.length = 4 := by
  obtain ⟨_, _, _, _, _, _, rfl, _⟩ := h.parts
  rfl
theorem VAll.length (h : VAll w B l xs) : xs.length = l.length := by
  induction l generalizing xs with
  | nil => simp only [VAll] at h; subst h; rfl
  | cons a r ih =>
    obtain ⟨c, q, rfl, _, h2⟩ := h
    simp [ih h2]
theorem VAll.all4 (h : VAll w B l xs) : ∀ c ∈ xs, c.length = 4 := by
  induction l generalizing xs with
  | nil => simp only [VAll] at h; subst h; simp
  | cons a r ih =>
    obtain ⟨c, q, rfl, h1, h2⟩ := h
    intro d hd
    rcases List.mem_cons.1 hd with rfl | hd
    · exact h1.length4
    · exact ih h2 d hd
theorem VAll.at_ (h : VAll w B l xs) {i : Nat} (hi : i < l.length) : ∃ hx : i < xs.length, VAt w B l[i] xs[i] := by
  induction l generalizing xs i with
  | nil => simp at hi
  | cons a r ih =>
    obtain ⟨c, q, rfl, h1, h2⟩ := h
    cases i with
    | zero => exact ⟨by simp, h1⟩
    | succ i =>
      obtain ⟨hx, h3⟩ := ih h2 (i := i) (by simpa using hi)
      exact ⟨by simpa using hx, h3⟩
theorem VAll.mk_ (hl : xs.length = l.length) (h : ∀ (i : Nat) (h1 : i < l.length) (h2 : i < xs.length), VAt w B l[i] xs[i]) : VAll w B l xs := by
  induction l generalizing xs with
  | nil => simp only [VAll]; exact List.eq_nil_of_length_eq_zero (by simpa using hl)
  | cons a r ih =>
    match xs, hl with
    | c :: q, hl => exact ⟨c, q, rfl, h 0 (by simp) (by simp), ih (by simpa using hl) fun i h1 h2 => h (i + 1) (by simpa using h1) (by simpa using h2)⟩
theorem VAt.keep (hk : ∀ p : Addr, p.block < B → w'.cell? p = w.cell? p) : ∀ (d : Nat) (v : Vl) (cs : List Value), v.depth ≤ d → VAt w B v cs → VAt w' B v cs := by
  intro d
  induction d with
  | zero => intro v cs hd; rw [Vl.depth_def] at hd; omega
  | succ d ih =>
    intro v cs hd h
    obtain ⟨nA, nc, sA, sc, lA, lc, rfl, hb⟩ := h.parts
    obtain ⟨xs, h6, h7⟩ := hb.l
    refine VB.at_ ⟨hb.n.keep hk, hb.s.keep hk, ⟨xs, h6.keep hk, VAll.mk_ h7.length fun i h1 h2 => ?_⟩, hb.hn, hb.hs, hb.hl⟩
    obtain ⟨_, h8⟩ := h7.at_ h1
    exact ih _ _ (by have := Vl.depth_lt (List.getElem_mem h1); omega) h8
theorem VAt.more (hB : B ≤ B') : ∀ (d : Nat) (v : Vl) (cs : List Value), v.depth ≤ d → VAt w B v cs → VAt w B' v cs := by
  intro d
  induction d with
  | zero => intro v cs hd; rw [Vl.depth_def] at hd; omega
  | succ d ih =>
    intro v cs hd h
    obtain ⟨nA, nc, sA, sc, lA, lc, rfl, hb⟩ := h.parts
    obtain ⟨xs, h6, h7⟩ := hb.l
    refine VB.at_ ⟨hb.n.more hB, hb.s.more hB, ⟨xs, h6.more hB, VAll.mk_ h7.length fun i h1 h2 => ?_⟩, hb.hn, hb.hs, hb.hl⟩
    obtain ⟨_, h8⟩ := h7.at_ h1
    exact ih _ _ (by have := Vl.depth_lt (List.getElem_mem h1); omega) h8
theorem VAt.grown (h : VAt w B v cs) {row : Option Nat} (hg : w.grownBy w' row) (hB : B ≤ w.heap.size) (hr : ∀ g, row = some g → B ≤ g) : VAt w' B v cs :=
  VAt.keep (fun p hp => World.cell?_of_block (hg.block p.block (by omega) (fun e => by have := hr _ e.symm; omega))) v.depth v cs (Nat.le_refl _) h
theorem VAt.gb (h : VAt w B v cs) (hg : w.grownBy w' none) (hB : B ≤ w.heap.size) : VAt w' B v cs := h.grown hg hB (by simp)
theorem VAt.up (h : VAt w B v cs) (hB : B ≤ B') : VAt w B' v cs := VAt.more hB v.depth v cs (Nat.le_refl _) h
theorem RdV.grown (h : RdV w B A l) {row : Option Nat} (hg : w.grownBy w' row) (hB : B ≤ w.heap.size) (hr : ∀ g, row = some g → B ≤ g) : RdV w' B A l := by
  obtain ⟨xs, h6, h7⟩ := h
  refine ⟨xs, h6.grown hg hB hr, VAll.mk_ h7.length fun i h1 h2 => ?_⟩
  obtain ⟨_, h8⟩ := h7.at_ h1
  exact h8.grown hg hB hr
theorem RdV.gb (h : RdV w B A l) (hg : w.grownBy w' none) (hB : B ≤ w.heap.size) : RdV w' B A l := h.grown hg hB (by simp)
theorem RdV.up (h : RdV w B A l) (hB : B ≤ B') : RdV w B' A l := by
  obtain ⟨xs, h6, h7⟩ := h
  refine ⟨xs, h6.more hB, VAll.mk_ h7.length fun i h1 h2 => ?_⟩
  obtain ⟨_, h8⟩ := h7.at_ h1
  exact h8.up hB
theorem VB.gb {nA : Option Addr} {nc : Nat} {sA : Option Addr} {sc : Nat} {lA : Option Addr} {lc : Nat} (h : VB w B v nA nc sA sc lA lc) (hg : w.grownBy w' none) (hB : B ≤ w.heap.size) : VB w' B v nA nc sA sc lA lc :=
  ⟨h.n.grown hg hB (by simp), h.s.grown hg hB (by simp), h.l.gb hg hB, h.hn, h.hs, h.hl⟩

/-- The four cells of an element. -/
structure C4 (w : World) (b o : Nat) (c0 c1 c2 c3 : Value) : Prop where
  c0 : w.cell? ⟨b, o, none⟩ = some c0
  c1 : w.cell? ⟨b, o + 1, none⟩ = some c1
  c2 : w.cell? ⟨b, o + 2, none⟩ = some c2
  c3 : w.cell? ⟨b, o + 3, none⟩ = some c3
theorem RdV.nil_ : RdV w B A [] := ⟨[], Rd.nil_, by simp [VAll]⟩
theorem RdV.at_ (h : RdV w B A l) {i : Nat} (hi : i < l.length) : ∃ b o nA nc sA sc lA lc, A = some ⟨b, o, none⟩ ∧ b < B ∧
    C4 w b (o + i * 4) (.int .i64 l[i].t) (.slice nA l[i].n.length nc) (.slice sA l[i].s.length sc) (.slice lA l[i].l.length lc) ∧ VB w B l[i] nA nc sA sc lA lc := by
  obtain ⟨xs, h6, h7⟩ := h
  obtain ⟨hx, h8⟩ := h7.at_ hi
  have h4 := h7.all4
  have hlen := flat4_length h4
  obtain ⟨b, o, hA, hb, hc⟩ := h6.lay (by intro e; rw [e] at hlen; simp at hlen; omega)
  have hk : ∀ k u, k < 4 → xs[i][k]? = some u → w.cell? ⟨b, o + i * 4 + k, none⟩ = some u := fun k u hk hu => by
    rw [Nat.add_assoc]
    exact hc _ _ ((flat4_at h4 i k hx hk).trans hu)
  obtain ⟨nA, nc, sA, sc, lA, lc, he, hvb⟩ := h8.parts
  exact ⟨b, o, nA, nc, sA, sc, lA, lc, hA, hb, ⟨hk 0 _ (by omega) (by rw [he]; rfl), hk 1 _ (by omega) (by rw [he]; rfl), hk 2 _ (by omega) (by rw [he]; rfl), hk 3 _ (by omega) (by rw [he]; rfl)⟩, hvb⟩
theorem cell_gb {p : Addr} {u : Value} (h : w.cell? p = some u) (hg : w.grownBy w' none) : w'.cell? p = some u :=
  (World.cell?_of_block (hg.block p.block (World.block_lt_of_cell? w p h) (by simp))).trans h
theorem C4.gb {b o : Nat} {c0 c1 c2 c3 : Value} (h : C4 w b o c0 c1 c2 c3) (hg : w.grownBy w' none) : C4 w' b o c0 c1 c2 c3 := ⟨cell_gb h.c0 hg, cell_gb h.c1 hg, cell_gb h.c2 hg, cell_gb h.c3 hg⟩
theorem C4.box (w : World) (c0 c1 c2 c3 : Value) (t : TypeId) : C4 (w.alloc (.cells #[c0, c1, c2, c3] t)) w.heap.size 0 c0 c1 c2 c3 := by
  have h := heap_alloc_new w (.cells #[c0, c1, c2, c3] t)
  exact ⟨by rw [blk_cell h]; rfl, by rw [blk_cell h]; rfl, by rw [blk_cell h]; rfl, by rw [blk_cell h]; rfl⟩
theorem C4.box2 (w : World) (o : Obj) (c0 c1 c2 c3 : Value) (t : TypeId) : C4 ((w.alloc o).alloc (.cells #[c0, c1, c2, c3] t)) (w.heap.size + 1) 0 c0 c1 c2 c3 := by
  have h := C4.box (w.alloc o) c0 c1 c2 c3 t
  have e : (w.alloc o).heap.size = w.heap.size + 1 := by simp
  rwa [e] at h
end
end Go.Proofs.YtgepejnooghjbaaGreat

namespace Go.Proofs.YtgepejnooghjbaaGreat
open Go.RowKit

theorem ba_eq {a b : ByteArray} (h : a = b) : (a.toList == b.toList) = true := by rw [h]; simp
theorem ba_ne {a b : ByteArray} (h : a ≠ b) : (a.toList == b.toList) = false := by
  rw [beq_eq_false_iff_ne]
  intro e
  rw [ByteArray.toList_eq, ByteArray.toList_eq] at e
  exact h (ByteArray.ext (Array.toList_inj.1 e))
theorem take_eq_step {α : Type} {l m : List α} {j : Nat} (h : l.take j = m.take j) (h1 : j < l.length) (h2 : j < m.length) (he : l[j] = m[j]) : l.take (j + 1) = m.take (j + 1) := by
  rw [List.take_succ_eq_append_getElem h1, List.take_succ_eq_append_getElem h2, h, he]
theorem take_eq_all {α : Type} {l m : List α} {j : Nat} (h : l.take j = m.take j) (h1 : ¬ j < l.length) (h2 : l.length = m.length) : l = m := by
  rwa [List.take_of_length_le (by omega), List.take_of_length_le (by omega)] at h

set_option maxHeartbeats 4000000 in
set_option maxRecDepth 100000 in
theorem eqI_any (A A' : Option Addr) (c c' B : Nat) (l m : List Int) (w : World) (h : Rd w B A (i64s l)) (h' : Rd w B A' (i64s m)) (hl : l.length ≤ 1100000) (hm : m.length ≤ 1100000) :
    Calls Tryz.prog 64 #[.slice A l.length c, .slice A' m.length c'] w fun e w' => e = .returned (.bool (decide (l = m))) ∧ w.grownBy w' none := by
  have H := hide h
  have H' := hide h'
  clear h h'
  by_cases hne : l.length = m.length
  · have hb : ((l.length : Int) == (m.length : Int)) = true := beq_iff_eq.2 (by omega)
    have hb2 : ((l.length : Int) != (m.length : Int)) = false := by rw [bne, hb]; rfl
    have HNE := hide hne
    clear hne
    go_enter Tryz.func64, Tryz.ntmps64
    go_wp2_with fail
    go_loopw [13] (fun i wr => ∃ j : Nat, i = .int .i64 (j : Int) ∧ j ≤ l.length ∧ l.take j = m.take j ∧ w.grownBy wr none) (fun i _ => l.length - (intOf i).toNat)
    case atStart => exact ⟨0, rfl, by omega, rfl, gb_refl w none⟩
    case round =>
      obtain ⟨j, rfl, hj, he, hg⟩ := hrel
      have HE := hide he
      have HG := hide hg
      clear he hg
      by_cases hlt : j < l.length
      · have hlt1 : (j : Int) < (l.length : Int) := by omega
        have hltm : j < m.length := by have := HNE.out; omega
        have hlt2 : (j : Int) < (m.length : Int) := by omega
        obtain ⟨a, rfl, _, ca⟩ := H.out.i64 hlt
        obtain ⟨a', rfl, _, ca'⟩ := H'.out.i64 hltm
        have ca := cell_gb ca HG.out
        have ca' := cell_gb ca' HG.out
        by_cases hx : l[j] = m[j]
        · have hx1 : (l[j] == m[j]) = true := beq_iff_eq.2 hx
          have hx2 : (l[j] != m[j]) = false := by rw [bne, hx1]; rfl
          have HX := hide hx
          clear hx
          go_wp2_with fail
          go_quiet (fail)
          go_wp2_with fail
          go_roundw
          case rel => exact ⟨j + 1, by go_num, by omega, take_eq_step HE.out hlt hltm HX.out, by first | exact gb_drewN HG.out _ | exact HG.out⟩
          case measure => simp [intOf]; omega
        · have hx1 : (l[j] == m[j]) = false := beq_eq_false_iff_ne.2 hx
          have hx2 : (l[j] != m[j]) = true := by rw [bne, hx1]; rfl
          have HX := hide hx
          clear hx
          go_wp2_with fail
          go_quiet (fail)
          go_wp2_with fail
          go_ret
          exact ⟨ret_b (Eq.symm (decide_eq_false (by rintro rfl; exact HX.out rfl))), gb_drewN HG.out _⟩
      · have hlt1 : ¬ (j : Int) < (l.length : Int) := by omega
        have HL := hide (take_eq_all HE.out hlt HNE.out)
        go_wp2_with fail
        go_ret
        exact ⟨ret_b (Eq.symm (decide_eq_true HL.out)), HG.out⟩
  · have hb : ((l.length : Int) == (m.length : Int)) = false := beq_eq_false_iff_ne.2 (by omega)
    have hb2 : ((l.length : Int) != (m.length : Int)) = true := by rw [bne, hb]; rfl
    have HNE := hide hne
    clear hne
    go_enter Tryz.func64, Tryz.ntmps64
    go_wp2_with fail
    go_ret
    exact ⟨ret_b (Eq.symm (decide_eq_false (by rintro rfl; exact HNE.out rfl))), gb_refl w none⟩
set_option maxHeartbeats 4000000 in
set_option maxRecDepth 100000 in
theorem eqS_any (A A' : Option Addr) (c c' B : Nat) (l m : List ByteArray) (w : World) (h : Rd w B A (strs l)) (h' : Rd w B A' (strs m)) (hl : l.length ≤ 1100000) (hm : m.length ≤ 1100000) :
    Calls Tryz.prog 65 #[.slice A l.length c, .slice A' m.length c'] w fun e w' => e = .returned (.bool (decide (l = m))) ∧ w.grownBy w' none := by
  have H := hide h
  have H' := hide h'
  clear h h'
  by_cases hne : l.length = m.length
  · have hb : ((l.length : Int) == (m.length : Int)) = true := beq_iff_eq.2 (by omega)
    have hb2 : ((l.length : Int) != (m.length : Int)) = false := by rw [bne, hb]; rfl
    have HNE := hide hne
    clear hne
    go_enter Tryz.func65, Tryz.ntmps65
    go_wp2_with fail
    go_loopw [13] (fun i wr => ∃ j : Nat, i = .int .i64 (j : Int) ∧ j ≤ l.length ∧ l.take j = m.take j ∧ w.grownBy wr none) (fun i _ => l.length - (intOf i).toNat)
    case atStart => exact ⟨0, rfl, by omega, rfl, gb_refl w none⟩
    case round =>
      obtain ⟨j, rfl, hj, he, hg⟩ := hrel
      have HE := hide he
      have HG := hide hg
      clear he hg
      by_cases hlt : j < l.length
      · have hlt1 : (j : Int) < (l.length : Int) := by omega
        have hltm : j < m.length := by have := HNE.out; omega
        have hlt2 : (j : Int) < (m.length : Int) := by omega
        obtain ⟨a, rfl, _, ca⟩ := H.out.str hlt
        obtain ⟨a', rfl, _, ca'⟩ := H'.out.str hltm
        have ca := cell_gb ca HG.out
        have ca' := cell_gb ca' HG.out
        by_cases hx : l[j] = m[j]
        · have hx1 := ba_eq hx
          have HX := hide hx
          clear hx
          go_wp2_with fail
          go_quiet (fail)
          go_wp2_with fail
          go_roundw
          case rel => exact ⟨j + 1, by go_num, by omega, take_eq_step HE.out hlt hltm HX.out, by first | exact gb_drewN HG.out _ | exact HG.out⟩
          case measure => simp [intOf]; omega
        · have hx1 := ba_ne hx
          have HX := hide hx
          clear hx
          go_wp2_with fail
          go_quiet (fail)
          go_wp2_with fail
          go_ret
          exact ⟨ret_b (Eq.symm (decide_eq_false (by rintro rfl; exact HX.out rfl))), gb_drewN HG.out _⟩
      · have hlt1 : ¬ (j : Int) < (l.length : Int) := by omega
        have HL := hide (take_eq_all HE.out hlt HNE.out)
        go_wp2_with fail
        go_ret
        exact ⟨ret_b (Eq.symm (decide_eq_true HL.out)), HG.out⟩
  · have hb : ((l.length : Int) == (m.length : Int)) = false := beq_eq_false_iff_ne.2 (by omega)
    have hb2 : ((l.length : Int) != (m.length : Int)) = true := by rw [bne, hb]; rfl
    have HNE := hide hne
    clear hne
    go_enter Tryz.func65, Tryz.ntmps65
    go_wp2_with fail
    go_ret
    exact ⟨ret_b (Eq.symm (decide_eq_false (by rintro rfl; exact HNE.out rfl))), gb_refl w none⟩
end Go.Proofs.YtgepejnooghjbaaGreat

namespace Go.Proofs.YtgepejnooghjbaaGreat
open Go.RowKit

/-- A row that nobody else has: it begins block f, and may be written. -/
def Own (w : World) (f : List Nat) (A : Option Addr) (xs : List Value) : Prop :=
  (xs = [] ∧ f = []) ∨ ∃ b t cur, f = [b] ∧ A = some ⟨b, 0, none⟩ ∧ w.heap[b]? = some (.cells cur t (0, 0)) ∧ cur.toList.take xs.length = xs ∧ xs ≠ []
theorem Own.of_row {w : World} {base : Nat} {e : TypeId} {size n c : Nat} {A : Option Addr} {xs : List Value} (h : w.ownsRow base e size (.slice A n c) n xs) : ∃ f, Own w f A xs ∧ ∀ b ∈ f, base ≤ b ∧ b < w.heap.size := by
  by_cases hx : xs = []
  · exact ⟨[], .inl ⟨hx, rfl⟩, by simp⟩
  rcases h.2 with ⟨h1, h2⟩ | ⟨g, cap, cur, hv, hb, hh, _, _, _, ht⟩
  · have h3 := h.1
    rw [h2] at h3
    simp at h3
    exact absurd h3 hx
  · injection hv with hA
    subst hA
    refine ⟨[g], .inr ⟨g, e, cur, rfl, rfl, hh, ?_, hx⟩, ?_⟩
    · rw [h.1]; exact ht
    · intro b hb'
      obtain rfl := List.mem_singleton.1 hb'
      exact ⟨hb, blk_lt hh⟩
theorem Own.rd {w : World} {f : List Nat} {A : Option Addr} {xs : List Value} {B : Nat} (h : Own w f A xs) (hB : ∀ b ∈ f, b < B) : Rd w B A xs := by
  rcases h with ⟨rfl, _⟩ | ⟨b, t, cur, rfl, rfl, hh, ht, _⟩
  · exact Rd.nil_
  · refine fun _ => ⟨_, rfl, hB b (by simp), fun j u hu => ?_⟩
    have e : (⟨b, 0, none⟩ : Addr).add j = ⟨b, j, none⟩ := by unfold Addr.add; split <;> simp_all
    rw [e, blk_cell hh]
    rw [← ht, List.getElem?_take] at hu
    split at hu
    · simpa using hu
    · cases hu
theorem Own.keep {w w' : World} {f : List Nat} {A : Option Addr} {xs : List Value} (h : Own w f A xs) (hk : ∀ b ∈ f, w'.heap[b]? = w.heap[b]?) : Own w' f A xs := by
  rcases h with h | ⟨b, t, cur, rfl, hA, hh, ht, hx⟩
  · exact .inl h
  · exact .inr ⟨b, t, cur, rfl, hA, (hk b (by simp)).trans hh, ht, hx⟩
theorem Own.lt {w : World} {f : List Nat} {A : Option Addr} {xs : List Value} (h : Own w f A xs) : ∀ b ∈ f, b < w.heap.size := by
  rcases h with ⟨_, rfl⟩ | ⟨b, t, cur, rfl, _, hh, _, _⟩
  · simp
  · intro c hc
    obtain rfl := List.mem_singleton.1 hc
    exact blk_lt hh

theorem i64s_one (l : List Int) : ∀ u ∈ i64s l, u.oneCell' = true := by
  intro u hu
  obtain ⟨t, _, rfl⟩ := List.mem_map.1 hu
  rfl
theorem strs_one (l : List ByteArray) : ∀ u ∈ strs l, u.oneCell' = true := by
  intro u hu
  obtain ⟨t, _, rfl⟩ := List.mem_map.1 hu
  rfl
theorem Tryz.info64 : (Tryz.prog.info? 2).map (fun i => (i.zero, i.size, i.bytes)) = some (some (.int .i64 0), 1, 8) := by kernel_rfl
theorem Tryz.infoS : (Tryz.prog.info? 9).map (fun i => (i.zero, i.size, i.bytes)) = some (some (.string ⟨#[]⟩), 1, 16) := by kernel_rfl
theorem own_nil (w : World) (t : TypeId) (size : Nat) : (w.alloc (.cells #[] t)).ownsRow w.heap.size t size (.slice (some ⟨w.heap.size, 0, none⟩) 0 0) 0 [] :=
  ⟨by simp, .inr ⟨w.heap.size, 0, #[], rfl, Nat.le_refl _, heap_alloc_new w _, Nat.le_refl _, Nat.zero_le _, by simp, by simp⟩⟩
theorem own_slice {w : World} {base : Nat} {e : TypeId} {size n : Nat} {v : Value} {xs : List Value} (h : w.ownsRow base e size v n xs) : ∃ A c, v = .slice A n c ∧ n ≤ c := by
  rcases h.2 with ⟨rfl, rfl⟩ | ⟨g, cap, cur, rfl, _, _, hc, _⟩
  · exact ⟨none, 0, rfl, Nat.le_refl _⟩
  · exact ⟨_, cap, rfl, hc⟩

/-- What a clone of a row has. -/
def ClonePost (w : World) (e : TypeId) (n : Nat) (xs : List Value) (en : Ending) (w' : World) : Prop := ∃ A c, en = .returned (.slice A n c) ∧ n ≤ c ∧ w'.ownsRow w.heap.size e 1 (.slice A n c) n xs ∧ w.grownBy w' none

set_option maxHeartbeats 4000000 in
set_option maxRecDepth 100000 in
theorem cloneI_any (A : Option Addr) (c B : Nat) (l : List Int) (w : World) (h : Rd w B A (i64s l)) (hB : B ≤ w.heap.size) (hl : l.length ≤ 1100000) :
    Calls Tryz.prog 133 #[.slice A l.length c] w (ClonePost w 2 l.length (i64s l)) := by
  have hq := fun (w : World) (A : Option Addr) (n c : Nat) => Lib.run_eql_slice_nil (P := Tryz.prog) w 22 2 A n c 0 0 Tryz.underlying22
  rcases A with _ | ad
  · have hb : l = [] := by
      rcases l with _ | ⟨b, l⟩
      · rfl
      · obtain ⟨_, e, _⟩ := h (by simp [i64s]); cases e
    subst hb
    go_enter Tryz.func133, Tryz.ntmps133
    go_wp2
    go_ret
    exact ⟨_, _, rfl, Nat.le_refl _, ⟨rfl, .inl ⟨rfl, rfl⟩⟩, gb_refl _ _⟩
  · have HO := hide (own_nil w 2 1)
    have HR := hide (h.alloc hB (.cells #[] 2))
    have HL1 : Hid ((i64s l).length = l.length * 1) := hide (by simp [i64s])
    have HOC := hide (i64s_one l)
    have HM1 : Hid (0 + l.length ≤ maxLen) := hide (by unfold maxLen; omega)
    have HMB : Hid ((0 + l.length) * 8 ≤ 140737488355328) := hide (by omega)
    have HBS : Hid (w.heap.size ≤ (w.alloc (.cells #[] 2)).heap.size) := hide (by simp)
    obtain ⟨i1, hi1, hiz, his, hib⟩ := info_parts Tryz.info64
    have HI1 := hide hi1
    have HIZ := hide hiz
    have HIS := hide his
    have HIB := hide hib
    clear h hl hi1 hiz his hib
    go_enter Tryz.func133, Tryz.ntmps133
    go_wp2_with (at_builtin; refine wpList_append_rd _ rfl (.tmp 5) (.tmp 6) 22 rfl w.heap.size 2 i1 (.int .i64 0) 1 8 Tryz.underlying22 HI1.out HIZ.out HIS.out HIB.out rfl (Nat.succ_pos 0) (.slice (some ⟨w.heap.size, 0, none⟩) 0 0) 0 [] rfl HO.out B (some ad) l.length c (i64s l) rfl HL1.out HR.out HOC.out HM1.out HMB.out HBS.out ?_; intro v5 w5 ho5 hg5 hb5; rw [Nat.zero_add, List.nil_append] at ho5; obtain ⟨A5, c5, rfl, hc5⟩ := own_slice ho5; have HO5 := hide ho5; have HG5 := hide hg5; clear ho5 hg5 hb5)
    go_ret
    exact ⟨A5, c5, rfl, hc5, HO5.out, gb_trans (gb_alloc (gb_refl w none) (.cells #[] 2)) HG5.out (.inr (.inr ⟨_, rfl, Nat.le_refl _⟩))⟩
set_option maxHeartbeats 4000000 in
set_option maxRecDepth 100000 in
theorem cloneS_any (A : Option Addr) (c B : Nat) (l : List ByteArray) (w : World) (h : Rd w B A (strs l)) (hB : B ≤ w.heap.size) (hl : l.length ≤ 1100000) :
    Calls Tryz.prog 134 #[.slice A l.length c] w (ClonePost w 9 l.length (strs l)) := by
  have hq := fun (w : World) (A : Option Addr) (n c : Nat) => Lib.run_eql_slice_nil (P := Tryz.prog) w 23 9 A n c 0 0 Tryz.underlying23
  rcases A with _ | ad
  · have hb : l = [] := by
      rcases l with _ | ⟨b, l⟩
      · rfl
      · obtain ⟨_, e, _⟩ := h (by simp [strs]); cases e
    subst hb
    go_enter Tryz.func134, Tryz.ntmps134
    go_wp2
    go_ret
    exact ⟨_, _, rfl, Nat.le_refl _, ⟨rfl, .inl ⟨rfl, rfl⟩⟩, gb_refl _ _⟩
  · have HO := hide (own_nil w 9 1)
    have HR := hide (h.alloc hB (.cells #[] 9))
    have HL1 : Hid ((strs l).length = l.length * 1) := hide (by simp [strs])
    have HOC := hide (strs_one l)
    have HM1 : Hid (0 + l.length ≤ maxLen) := hide (by unfold maxLen; omega)
    have HMB : Hid ((0 + l.length) * 16 ≤ 140737488355328) := hide (by omega)
    have HBS : Hid (w.heap.size ≤ (w.alloc (.cells #[] 9)).heap.size) := hide (by simp)
    obtain ⟨i1, hi1, hiz, his, hib⟩ := info_parts Tryz.infoS
    have HI1 := hide hi1
    have HIZ := hide hiz
    have HIS := hide his
    have HIB := hide hib
    clear h hl hi1 hiz his hib
    go_enter Tryz.func134, Tryz.ntmps134
    go_wp2_with (at_builtin; refine wpList_append_rd _ rfl (.tmp 5) (.tmp 6) 23 rfl w.heap.size 9 i1 (.string ⟨#[]⟩) 1 16 Tryz.underlying23 HI1.out HIZ.out HIS.out HIB.out rfl (Nat.succ_pos 0) (.slice (some ⟨w.heap.size, 0, none⟩) 0 0) 0 [] rfl HO.out B (some ad) l.length c (strs l) rfl HL1.out HR.out HOC.out HM1.out HMB.out HBS.out ?_; intro v5 w5 ho5 hg5 hb5; rw [Nat.zero_add, List.nil_append] at ho5; obtain ⟨A5, c5, rfl, hc5⟩ := own_slice ho5; have HO5 := hide ho5; have HG5 := hide hg5; clear ho5 hg5 hb5)
    go_ret
    exact ⟨A5, c5, rfl, hc5, HO5.out, gb_trans (gb_alloc (gb_refl w none) (.cells #[] 9)) HG5.out (.inr (.inr ⟨_, rfl, Nat.le_refl _⟩))⟩
end Go.Proofs.YtgepejnooghjbaaGreat

/- Values that nobody else has: their blocks. -/
namespace Go.Proofs.YtgepejnooghjbaaGreat
open Go.RowKit

mutual
/-- These four cells read as the value v, in rows of its own: its blocks are f. -/
def VOw (w : World) : Vl → List Value → List Nat → Prop
  | .mk t n s l, cs, f => ∃ nA nc sA sc lA lc xs fn fs fl fp, cs = [.int .i64 t, .slice nA n.length nc, .slice sA s.length sc, .slice lA l.length lc] ∧ (n.length ≤ nc ∧ s.length ≤ sc ∧ l.length ≤ lc) ∧
      (Own w fn nA (i64s n) ∧ Own w fs sA (strs s) ∧ Own w fl lA (List.flatten xs)) ∧ VOwAll w l xs fp ∧ f = fn ++ (fs ++ (fl ++ fp))
def VOwAll (w : World) : List Vl → List (List Value) → List Nat → Prop
  | [], xs, f => xs = [] ∧ f = []
  | v :: r, xs, f => ∃ c q f1 f2, xs = c :: q ∧ f = f1 ++ f2 ∧ VOw w v c f1 ∧ VOwAll w r q f2
end

section
variable {w w' : World} {v : Vl} {l : List Vl} {cs : List Value} {xs : List (List Value)} {f : List Nat}
theorem VOw.parts (h : VOw w v cs f) : ∃ nA nc sA sc lA lc xs fn fs fl fp, cs = [.int .i64 v.t, .slice nA v.n.length nc, .slice sA v.s.length sc, .slice lA v.l.length lc] ∧ (v.n.length ≤ nc ∧ v.s.length ≤ sc ∧ v.l.length ≤ lc) ∧
      (Own w fn nA (i64s v.n) ∧ Own w fs sA (strs v.s) ∧ Own w fl lA (List.flatten xs)) ∧ VOwAll w v.l xs fp ∧ f = fn ++ (fs ++ (fl ++ fp)) := by
  cases v with
  | mk t n s l => exact h
theorem VOw.mk_ {nA nc sA sc lA lc xs fn fs fl fp} (h1 : v.n.length ≤ nc ∧ v.s.length ≤ sc ∧ v.l.length ≤ lc) (h2 : Own w fn nA (i64s v.n)) (h3 : Own w fs sA (strs v.s)) (h4 : Own w fl lA (List.flatten xs)) (h5 : VOwAll w v.l xs fp) :
    VOw w v [.int .i64 v.t, .slice nA v.n.length nc, .slice sA v.s.length sc, .slice lA v.l.length lc] (fn ++ (fs ++ (fl ++ fp))) := by
  cases v with
  | mk t n s l => exact ⟨nA, nc, sA, sc, lA, lc, xs, fn, fs, fl, fp, rfl, h1, ⟨h2, h3, h4⟩, h5, rfl⟩
theorem VOw.length4 (h : VOw w v cs f) : cs.length = 4 := by
  obtain ⟨_, _, _, _, _, _, _, _, _, _, _, rfl, _⟩ := h.parts
  rfl
theorem VOwAll.length (h : VOwAll w l xs f) : xs.length = l.length := by
  induction l generalizing xs f with
  | nil => obtain ⟨rfl, _⟩ := h; rfl
  | cons a r ih =>
    obtain ⟨c, q, f1, f2, rfl, rfl, _, h2⟩ := h
    simp [ih h2]
theorem VOwAll.all4 (h : VOwAll w l xs f) : ∀ c ∈ xs, c.length = 4 := by
  induction l generalizing xs f with
  | nil => obtain ⟨rfl, _⟩ := h; simp
  | cons a r ih =>
    obtain ⟨c, q, f1, f2, rfl, rfl, h1, h2⟩ := h
    intro d hd
    rcases List.mem_cons.1 hd with rfl | hd
    · exact h1.length4
    · exact ih h2 d hd
mutual
theorem VOw.at_ {B : Nat} : ∀ (v : Vl) (cs : List Value) (f : List Nat), VOw w v cs f → (∀ b ∈ f, b < B) → VAt w B v cs
  | .mk t n s l, cs, f, h, hB => by
    obtain ⟨nA, nc, sA, sc, lA, lc, xs, fn, fs, fl, fp, rfl, ⟨a1, a2, a3⟩, ⟨h2, h3, h4⟩, h5, rfl⟩ := h
    exact ⟨nA, nc, sA, sc, lA, lc, xs, rfl, a1, a2, a3, h2.rd fun b hb => hB b (by simp [hb]), h3.rd fun b hb => hB b (by simp [hb]), h4.rd fun b hb => hB b (by simp [hb]), VOwAll.at_ l xs fp h5 fun b hb => hB b (by simp [hb])⟩
theorem VOwAll.at_ {B : Nat} : ∀ (l : List Vl) (xs : List (List Value)) (f : List Nat), VOwAll w l xs f → (∀ b ∈ f, b < B) → VAll w B l xs
  | [], xs, f, h, _ => h.1
  | v :: r, xs, f, h, hB => by
    obtain ⟨c, q, f1, f2, rfl, rfl, h1, h2⟩ := h
    exact ⟨c, q, rfl, VOw.at_ v c f1 h1 fun b hb => hB b (by simp [hb]), VOwAll.at_ r q f2 h2 fun b hb => hB b (by simp [hb])⟩
end
mutual
theorem VOw.keep : ∀ (v : Vl) (cs : List Value) (f : List Nat), VOw w v cs f → (∀ b ∈ f, w'.heap[b]? = w.heap[b]?) → VOw w' v cs f
  | .mk t n s l, cs, f, h, hB => by
    obtain ⟨nA, nc, sA, sc, lA, lc, xs, fn, fs, fl, fp, rfl, a, ⟨h2, h3, h4⟩, h5, rfl⟩ := h
    exact ⟨nA, nc, sA, sc, lA, lc, xs, fn, fs, fl, fp, rfl, a, ⟨h2.keep fun b hb => hB b (by simp [hb]), h3.keep fun b hb => hB b (by simp [hb]), h4.keep fun b hb => hB b (by simp [hb])⟩, VOwAll.keep l xs fp h5 fun b hb => hB b (by simp [hb]), rfl⟩
theorem VOwAll.keep : ∀ (l : List Vl) (xs : List (List Value)) (f : List Nat), VOwAll w l xs f → (∀ b ∈ f, w'.heap[b]? = w.heap[b]?) → VOwAll w' l xs f
  | [], xs, f, h, _ => h
  | v :: r, xs, f, h, hB => by
    obtain ⟨c, q, f1, f2, rfl, rfl, h1, h2⟩ := h
    exact ⟨c, q, f1, f2, rfl, rfl, VOw.keep v c f1 h1 fun b hb => hB b (by simp [hb]), VOwAll.keep r q f2 h2 fun b hb => hB b (by simp [hb])⟩
end
mutual
theorem VOw.lt : ∀ (v : Vl) (cs : List Value) (f : List Nat), VOw w v cs f → ∀ b ∈ f, b < w.heap.size
  | .mk t n s l, cs, f, h => by
    obtain ⟨nA, nc, sA, sc, lA, lc, xs, fn, fs, fl, fp, rfl, a, ⟨h2, h3, h4⟩, h5, rfl⟩ := h
    intro b hb
    simp only [List.mem_append] at hb
    rcases hb with hb | hb | hb | hb
    · exact h2.lt b hb
    · exact h3.lt b hb
    · exact h4.lt b hb
    · exact VOwAll.lt l xs fp h5 b hb
theorem VOwAll.lt : ∀ (l : List Vl) (xs : List (List Value)) (f : List Nat), VOwAll w l xs f → ∀ b ∈ f, b < w.heap.size
  | [], xs, f, h => by rw [h.2]; simp
  | v :: r, xs, f, h => by
    obtain ⟨c, q, f1, f2, rfl, rfl, h1, h2⟩ := h
    intro b hb
    simp only [List.mem_append] at hb
    rcases hb with hb | hb
    · exact VOw.lt v c f1 h1 b hb
    · exact VOwAll.lt r q f2 h2 b hb
end
theorem VOwAll.snoc {c : List Value} {g : List Nat} : ∀ (l : List Vl) (xs : List (List Value)) (f : List Nat), VOwAll w l xs f → VOw w v c g → VOwAll w (l ++ [v]) (xs ++ [c]) (f ++ g)
  | [], xs, f, h, k => by
    obtain ⟨rfl, rfl⟩ := h
    exact ⟨c, [], g, [], rfl, by simp, k, rfl, rfl⟩
  | a :: r, xs, f, h, k => by
    obtain ⟨d, q, f1, f2, rfl, rfl, h1, h2⟩ := h
    exact ⟨d, q ++ [c], f1, f2 ++ g, rfl, by simp, h1, VOwAll.snoc r q f2 h2 k⟩
end

/-- Blocks that are new since w, each once. -/
def New (w w' : World) (f : List Nat) : Prop := f.Nodup ∧ ∀ b ∈ f, w.heap.size ≤ b ∧ b < w'.heap.size
theorem New.nil_ (w w' : World) : New w w' [] := ⟨List.nodup_nil, by simp⟩
theorem New.app {a b c : World} {f g : List Nat} (h : New a b f) (k : New b c g) (hab : a.heap.size ≤ b.heap.size) (hbc : b.heap.size ≤ c.heap.size) : New a c (f ++ g) :=
  ⟨List.nodup_append.2 ⟨h.1, k.1, fun x hx y hy e => by have := (h.2 x hx).2; have := (k.2 y hy).1; omega⟩, fun x hx => by
    rcases List.mem_append.1 hx with hx | hx
    · have := h.2 x hx; omega
    · have := k.2 x hx; omega⟩
theorem New.more {a b c : World} {f : List Nat} (h : New a b f) (hbc : b.heap.size ≤ c.heap.size) : New a c f := ⟨h.1, fun x hx => by have := h.2 x hx; omega⟩
theorem New.less {a b c : World} {f : List Nat} (h : New b c f) (hab : a.heap.size ≤ b.heap.size) : New a c f := ⟨h.1, fun x hx => by have := h.2 x hx; omega⟩
theorem New.one {a b c : World} {f : List Nat} (h : ∀ x ∈ f, a.heap.size ≤ x ∧ x < b.heap.size) (h1 : f.length ≤ 1) (hbc : b.heap.size ≤ c.heap.size) : New a c f := by
  match f, h1 with
  | [], _ => exact New.nil_ a c
  | [x], _ => exact ⟨by simp, fun y hy => by have := h y hy; omega⟩
theorem Own.len {w : World} {f : List Nat} {A : Option Addr} {xs : List Value} (h : Own w f A xs) : f.length ≤ 1 := by
  rcases h with ⟨_, rfl⟩ | ⟨b, t, cur, rfl, _⟩ <;> simp

/-! ## four cells are stored -/

theorem four_cells {w : World} {g i : Nat} {cur : Array Value} {t : TypeId} (h : w.heap[g]? = some (.cells cur t (0, 0))) (hi : i + 4 ≤ cur.size) :
    ∃ u0 u1 u2 u3, C4 w g i u0 u1 u2 u3 :=
  ⟨cur[i], cur[i + 1], cur[i + 2], cur[i + 3], by rw [blk_cell h]; simp, by rw [blk_cell h]; simp, by rw [blk_cell h]; simp, by rw [blk_cell h]; simp⟩
/-- The world behind a store of four cells. -/
def put4 (w : World) (g i : Nat) (c0 c1 c2 c3 : Value) : World := (((w.setCell ⟨g, i, none⟩ c0).setCell ⟨g, i + 1, none⟩ c1).setCell ⟨g, i + 2, none⟩ c2).setCell ⟨g, i + 3, none⟩ c3
theorem put4_blk {w : World} {g i : Nat} {cur : Array Value} {t : TypeId} (h : w.heap[g]? = some (.cells cur t (0, 0))) (c0 c1 c2 c3 : Value) :
    (put4 w g i c0 c1 c2 c3).heap[g]? = some (.cells ((((cur.setIfInBounds i c0).setIfInBounds (i + 1) c1).setIfInBounds (i + 2) c2).setIfInBounds (i + 3) c3) t (0, 0)) :=
  blk_set (blk_set (blk_set (blk_set h i c0) (i + 1) c1) (i + 2) c2) (i + 3) c3
theorem put4_gb (w : World) (g i : Nat) (c0 c1 c2 c3 : Value) : w.grownBy (put4 w g i c0 c1 c2 c3) (some g) :=
  gb_setCell (gb_setCell (gb_setCell (gb_setCell (gb_refl w (some g)) (.inl rfl) c0) (.inl rfl) c1) (.inl rfl) c2) (.inl rfl) c3
theorem put4_size (w : World) (g i : Nat) (c0 c1 c2 c3 : Value) : (put4 w g i c0 c1 c2 c3).heap.size = w.heap.size := by simp [put4, World.setCell]
theorem put4_take (cur : Array Value) (i : Nat) (hi : i + 4 ≤ cur.size) (c0 c1 c2 c3 : Value) :
    ((((cur.setIfInBounds i c0).setIfInBounds (i + 1) c1).setIfInBounds (i + 2) c2).setIfInBounds (i + 3) c3).toList.take (i + 4) = cur.toList.take i ++ [c0, c1, c2, c3] := by
  apply List.ext_getElem?
  intro k
  by_cases hk : k < i + 4
  · rw [List.getElem?_take, if_pos hk]
    simp only [Array.toList_setIfInBounds, List.getElem?_set, Array.length_toList, List.length_set]
    by_cases h0 : k < i
    · rw [List.getElem?_append_left (by simp; omega), List.getElem?_take, if_pos h0]
      rw [if_neg (by omega), if_neg (by omega), if_neg (by omega), if_neg (by omega)]
    · have hl : (cur.toList.take i).length = i := by simp; omega
      rw [List.getElem?_append_right (by omega), hl]
      have : k = i ∨ k = i + 1 ∨ k = i + 2 ∨ k = i + 3 := by omega
      rcases this with rfl | rfl | rfl | rfl
      · rw [if_neg (by omega), if_neg (by omega), if_neg (by omega), if_pos rfl, if_pos (by omega)]; simp
      · rw [if_neg (by omega), if_neg (by omega), if_pos rfl, if_pos (by omega)]; simp
      · rw [if_neg (by omega), if_pos rfl, if_pos (by omega)]; simp
      · rw [if_pos rfl, if_pos (by omega)]; simp
  · rw [List.getElem?_take, if_neg hk, List.getElem?_append_right (by simp; omega)]
    have hl : (cur.toList.take i).length = i := by simp; omega
    rw [hl]
    symm
    apply List.getElem?_eq_none
    simp; omega
end Go.Proofs.YtgepejnooghjbaaGreat

namespace Go.Proofs.YtgepejnooghjbaaGreat
open Go.RowKit

def cmpI (a b : Int) : Int := if a < b then -1 else if b < a then 1 else 0

/-! ## comparisons: -1, 0, 1 -/

/-- What a comparison is. -/
structure Cmp {α : Type} (f : α → α → Int) (a b c : α) : Prop where
  val : ∀ x y, (x = a ∨ x = b ∨ x = c) → (y = a ∨ y = b ∨ y = c) → f x y = -1 ∨ f x y = 0 ∨ f x y = 1
  anti : ∀ x y, (x = a ∨ x = b ∨ x = c) → (y = a ∨ y = b ∨ y = c) → f y x = - f x y
  same : ∀ x y, (x = a ∨ x = b ∨ x = c) → (y = a ∨ y = b ∨ y = c) → (f x y = 0 ↔ x = y)
  trans : ∀ x y z, (x = a ∨ x = b ∨ x = c) → (y = a ∨ y = b ∨ y = c) → (z = a ∨ z = b ∨ z = c) → f x y ≤ 0 → f y z ≤ 0 → f x z ≤ 0

/-- A comparison of all. -/
structure CmpA {α : Type} (f : α → α → Int) : Prop where
  val : ∀ x y, f x y = -1 ∨ f x y = 0 ∨ f x y = 1
  anti : ∀ x y, f y x = - f x y
  same : ∀ x y, f x y = 0 ↔ x = y
  trans : ∀ x y z, f x y ≤ 0 → f y z ≤ 0 → f x z ≤ 0

/-! ## lists -/
theorem CmpA.cmp {α : Type} {f : α → α → Int} (h : CmpA f) (a b c : α) : Cmp f a b c := ⟨fun x y _ _ => h.val x y, fun x y _ _ => h.anti x y, fun x y _ _ => h.same x y, fun x y z _ _ _ => h.trans x y z⟩
end Go.Proofs.YtgepejnooghjbaaGreat

/- An order of values: strings, values; what the program's cmp.Compare says of them. -/
namespace Go.Proofs.YtgepejnooghjbaaGreat
open Go.RowKit
attribute [local go_sem ↓] Go.wp_at_zero Go.wp_at_succ

theorem toList_inj {a b : ByteArray} (h : a.toList = b.toList) : a = b := by
  cases Classical.em (a = b) with
  | inl e => exact e
  | inr e =>
    have := ba_ne e
    rw [h] at this
    simp at this
/-! ## cmp.Compare -/
set_option maxHeartbeats 4000000 in
theorem nan64_any (a : Int) (w : World) : Calls Tryz.prog 130 #[.int .i64 a] w fun e w' => e = .returned (.bool false) ∧ w = w' := by
  have e1 : (a != a) = false := by simp
  go_enter Tryz.func130, Tryz.ntmps130
  go_wp2_with fail
  go_ret
  exact ⟨by simp, rfl⟩
set_option maxHeartbeats 4000000 in
theorem cmp64_any (a b : Int) (w : World) : Calls Tryz.prog 84 #[.int .i64 a, .int .i64 b] w fun e w' => e = .returned (.int .i64 (cmpI a b)) ∧ w = w' := by
  have HN := hide (fun x w => nan64_any x w)
  by_cases h1 : a < b
  · have HC := hide (show cmpI a b = -1 by unfold cmpI; rw [if_pos h1])
    rw [HC.out]
    go_enter Tryz.func84, Tryz.ntmps84
    go_wp2_with (go_at_call 130; refine (HN.out _ _).mono ?_; rintro e w1 ⟨rfl, rfl⟩)
    go_ret
    exact ⟨rfl, rfl⟩
  · by_cases h2 : b < a
    · have HC := hide (show cmpI a b = 1 by unfold cmpI; rw [if_neg h1, if_pos h2])
      rw [HC.out]
      have h1' : b ≤ a := by omega
      go_enter Tryz.func84, Tryz.ntmps84
      go_wp2_with (go_at_call 130; refine (HN.out _ _).mono ?_; rintro e w1 ⟨rfl, rfl⟩)
      go_ret
      exact ⟨rfl, rfl⟩
    · have HC := hide (show cmpI a b = 0 by unfold cmpI; rw [if_neg h1, if_neg h2])
      rw [HC.out]
      have h1' : b ≤ a := by omega
      have h2' : a ≤ b := by omega
      go_enter Tryz.func84, Tryz.ntmps84
      go_wp2_with (go_at_call 130; refine (HN.out _ _).mono ?_; rintro e w1 ⟨rfl, rfl⟩)
      go_ret
      exact ⟨rfl, rfl⟩
end Go.Proofs.YtgepejnooghjbaaGreat

namespace Go.Proofs.YtgepejnooghjbaaGreat
open Go.RowKit
attribute [local go_sem ↓] Go.wp_at_zero Go.wp_at_succ

set_option maxHeartbeats 4000000 in
set_option maxRecDepth 100000 in
theorem open8_any (op : Int) (h0 : 0 ≤ op) (h6 : op ≤ 6) (w : World) : Calls Tryz.prog 32 #[.int .i64 op] w fun e w' => e = .returned (.tuple #[.agg #[.int .i64 op, .int .i64 (-1), .int .i64 0, .int .i64 0, .int .i64 0, .int .i64 0, .int .i64 0, .slice none 0 0, .slice none 0 0, .slice none 0 0, .int .i64 0, .slice none 0 0, .slice none 0 0, .slice none 0 0, .int .i64 0], .int .i64 0]) ∧ w.grownBy w' none := by
  have h1 : ¬ op < 0 := by omega
  have h2 : ¬ 6 < op := by omega
  clear h0 h6
  go_enter Tryz.func32, Tryz.ntmps32
  go_wp2_with fail
  exact bodyPost_ret (v := .tuple #[.agg #[.int .i64 op, .int .i64 (-1), .int .i64 0, .int .i64 0, .int .i64 0, .int .i64 0, .int .i64 0, .slice none 0 0, .slice none 0 0, .slice none 0 0, .int .i64 0, .slice none 0 0, .slice none 0 0, .slice none 0 0, .int .i64 0], .int .i64 0]) (by simp [results, Tryz.results32, go_sem]) rfl ⟨rfl, gb_alloc (gb_refl w none) _⟩
set_option maxHeartbeats 4000000 in
set_option maxRecDepth 100000 in
theorem ord4_any (l : List Int) (i j : Nat) (w : World) (b : Nat) (B : Nat) (nA : Option Addr) (nc : Nat) (sA : Option Addr) (sc : Nat) (lA : Option Addr) (lc : Nat) (hi : i < l.length) (hj : j < l.length) (hb : w.heap[b]? = some (.cells #[.int .i64 2, .slice nA l.length nc, .slice sA 0 sc, .slice lA 0 lc] 26 (0, 0))) (hr : Rd w B nA (i64s l)) :
    Calls Tryz.prog 83 #[.int .i64 (i : Int), .int .i64 (j : Int), .pointer (some ⟨b, 0, none⟩)] w fun e w' => e = .returned (.int .i64 (cmpI l[i] l[j])) ∧ w.grownBy w' none := by
  obtain ⟨a, ha, _, hci⟩ := hr.i64 hi
  obtain ⟨a', ha', _, hcj⟩ := hr.i64 hj
  subst ha
  obtain rfl : a = a' := by injection ha'
  have c1 : w.cell? ⟨b, 1, none⟩ = some (.slice (some a) l.length nc) := by rw [blk_cell hb]; rfl
  have hi1 : (i : Int) < (l.length : Int) := by omega
  have hj1 : (j : Int) < (l.length : Int) := by omega
  obtain ⟨p, hp⟩ : ∃ p, p = l[i] := ⟨_, rfl⟩
  obtain ⟨q, hq⟩ : ∃ q, q = l[j] := ⟨_, rfl⟩
  rw [← hp] at hci ⊢
  rw [← hq] at hcj ⊢
  have HC := hide (fun w2 => cmp64_any p q w2)
  clear hb hr ha' hi hj hp hq
  generalize cmpI p q = r at *
  go_enter Tryz.func83, Tryz.ntmps83
  go_wp2_with fail
  go_region_law ((go_simp; go_at_call 84; refine (HC.out _).mono ?_; rintro e w1 ⟨rfl, rfl⟩))
  all_goals
    go_wp2_with fail
    exact bodyPost_ret (v := .int .i64 r) (by simp [results, Tryz.results83, go_sem]) rfl ⟨rfl, gb_drew (gb_refl w none)⟩
set_option maxHeartbeats 4000000 in
set_option maxRecDepth 100000 in
theorem ordUp_any (l : List Int) (w : World) (nA : Option Addr) (nc : Nat) (sA : Option Addr) (sc : Nat) (lA : Option Addr) (lc : Nat) : Calls Tryz.prog 49 #[.agg #[.int .i64 2, .slice nA l.length nc, .slice sA 0 sc, .slice lA 0 lc], .bool false] w fun e w' => e = .returned (.func (.func 83) #[] #[.pointer (some ⟨w.heap.size, 0, none⟩)]) ∧ w'.heap[w.heap.size]? = some (.cells #[.int .i64 2, .slice nA l.length nc, .slice sA 0 sc, .slice lA 0 lc] 26 (0, 0)) ∧ w.grownBy w' none := by
  obtain ⟨wa, hwa⟩ : ∃ wa, wa = w.alloc (.cells #[.int .i64 2, .slice nA l.length nc, .slice sA 0 sc, .slice lA 0 lc] 26) := ⟨_, rfl⟩
  have hb : wa.heap[w.heap.size]? = some (.cells #[.int .i64 2, .slice nA l.length nc, .slice sA 0 sc, .slice lA 0 lc] 26 (0, 0)) := by rw [hwa]; exact heap_alloc_new w _
  have c0 : wa.cell? ⟨w.heap.size, 0, none⟩ = some (.int .i64 2) := by rw [blk_cell hb]; rfl
  have HB := hide hb
  have HG := hide (show w.grownBy wa none by rw [hwa]; exact gb_alloc (gb_refl w none) _)
  have HWE := hide hwa
  clear hwa hb
  go_enter Tryz.func49, Tryz.ntmps49
  go_upto_region 1 with fail
  rw [← HWE.out]
  go_wp2_with fail
  exact bodyPost_ret (v := .func (.func 83) #[] #[.pointer (some ⟨w.heap.size, 0, none⟩)]) (by simp [results, Tryz.results49, go_sem]) rfl ⟨rfl, HB.out, HG.out⟩
set_option maxHeartbeats 4000000 in
set_option maxRecDepth 100000 in
theorem ordDn_any (l : List Int) (w : World) (nA : Option Addr) (nc : Nat) (sA : Option Addr) (sc : Nat) (lA : Option Addr) (lc : Nat) : Calls Tryz.prog 49 #[.agg #[.int .i64 2, .slice nA l.length nc, .slice sA 0 sc, .slice lA 0 lc], .bool true] w fun e w' => ∃ b q, e = .returned (.func (.func 78) #[] #[.pointer (some ⟨q, 0, none⟩)]) ∧ w'.heap[q]? = some (.cells #[.func (.func 83) #[] #[.pointer (some ⟨b, 0, none⟩)]] 73 (0, 0)) ∧ w'.heap[b]? = some (.cells #[.int .i64 2, .slice nA l.length nc, .slice sA 0 sc, .slice lA 0 lc] 26 (0, 0)) ∧ w.grownBy w' none := by
  obtain ⟨wa, hwa⟩ : ∃ wa, wa = w.alloc (.cells #[.int .i64 2, .slice nA l.length nc, .slice sA 0 sc, .slice lA 0 lc] 26) := ⟨_, rfl⟩
  have hb : wa.heap[w.heap.size]? = some (.cells #[.int .i64 2, .slice nA l.length nc, .slice sA 0 sc, .slice lA 0 lc] 26 (0, 0)) := by rw [hwa]; exact heap_alloc_new w _
  have c0 : wa.cell? ⟨w.heap.size, 0, none⟩ = some (.int .i64 2) := by rw [blk_cell hb]; rfl
  have c1 : wa.cell? ⟨w.heap.size, 1, none⟩ = some (.slice nA l.length nc) := by rw [blk_cell hb]; rfl
  have c2 : wa.cell? ⟨w.heap.size, 2, none⟩ = some (.slice sA 0 sc) := by rw [blk_cell hb]; rfl
  have c3 : wa.cell? ⟨w.heap.size, 3, none⟩ = some (.slice lA 0 lc) := by rw [blk_cell hb]; rfl
  have HB := hide hb
  have HG := hide (show w.grownBy wa none by rw [hwa]; exact gb_alloc (gb_refl w none) _)
  have HUP := hide (ordUp_any l wa nA nc sA sc lA lc)
  have HWE := hide hwa
  clear hwa hb
  go_enter Tryz.func49, Tryz.ntmps49
  go_upto_region 1 with fail
  rw [← HWE.out]
  go_wp2_with (go_at_call 49; refine HUP.out.mono ?_; rintro e w1 ⟨rfl, hb1, hg1⟩; have HB1 := hide hb1; have HG1 := hide hg1; clear hb1 hg1 c0 c1 c2 c3)
  exact bodyPost_ret (v := .func (.func 78) #[] #[.pointer (some ⟨w1.heap.size, 0, none⟩)]) (by simp [results, Tryz.results49, go_sem]) rfl ⟨wa.heap.size, w1.heap.size, rfl, heap_alloc_new w1 _, blk_keep HB1.out (gb_alloc (gb_refl w1 none) _) (by simp), gb_trans (gb_trans HG.out HG1.out (.inl rfl)) (gb_alloc (gb_refl w1 none) _) (.inl rfl)⟩
set_option maxHeartbeats 4000000 in
set_option maxRecDepth 100000 in
theorem ord1_any (l : List Int) (i j : Nat) (w : World) (b q B : Nat) (nA : Option Addr) (nc : Nat) (sA : Option Addr) (sc : Nat) (lA : Option Addr) (lc : Nat) (hi : i < l.length) (hj : j < l.length) (hq : w.heap[q]? = some (.cells #[.func (.func 83) #[] #[.pointer (some ⟨b, 0, none⟩)]] 73 (0, 0))) (hb : w.heap[b]? = some (.cells #[.int .i64 2, .slice nA l.length nc, .slice sA 0 sc, .slice lA 0 lc] 26 (0, 0))) (hr : Rd w B nA (i64s l)) :
    Calls Tryz.prog 78 #[.int .i64 (i : Int), .int .i64 (j : Int), .pointer (some ⟨q, 0, none⟩)] w fun e w' => e = .returned (.int .i64 (cmpI l[j] l[i])) ∧ w.grownBy w' none := by
  have HO := hide (ord4_any l j i w b B nA nc sA sc lA lc hj hi hb hr)
  have c0 : w.cell? ⟨q, 0, none⟩ = some (.func (.func 83) #[] #[.pointer (some ⟨b, 0, none⟩)]) := by rw [blk_cell hq]; rfl
  generalize cmpI l[j] l[i] = r at *
  clear hb hr hi hj hq
  go_enter Tryz.func78, Tryz.ntmps78
  go_wp2_with (go_at_call 83; refine HO.out.mono ?_; rintro e w1 ⟨rfl, hg1⟩; have HG1 := hide hg1; clear hg1)
  exact bodyPost_ret (v := .int .i64 r) (by simp [results, Tryz.results78, go_sem]) rfl ⟨rfl, HG1.out⟩
end Go.Proofs.YtgepejnooghjbaaGreat
