/-
  Plain words on frames: four bytes of a number either way round, a frame, what stands at the beginning of some bytes, all frames.
-/
import Derived.WalkKit
import Derived.WalkSpells
import Derived.WalkLawsBesides
import Derived.Maps.AppendAt
import Derived.Deep.AppendLies
import Derived.Deep.Draws
import Derived.Laws.BytesArg
import Derived.Maps.RangeWalk
import Derived.Maps.OwnSet
import Derived.Maps.OwnOps
namespace Go.Proofs.YtmcmlkglkpbnpaaGreat
open Go.RowKit
theorem hide {p : Prop} (h : p) : Hid p := h
/-! ## frames -/
theorem gb_refl (w : World) (row : Option Nat) : w.grownBy w row := ⟨rfl, rfl, rfl, Nat.le_refl _, fun _ _ _ => rfl⟩
theorem gb_some {w w' : World} (h : w.grownBy w' none) (g : Option Nat) : w.grownBy w' g := ⟨h.os, h.tape, h.output, h.size, fun k hk _ => h.block k hk (by simp)⟩
theorem gb_trans {a b c : World} {row row' : Option Nat} (h : a.grownBy b row) (k : b.grownBy c row') (hr : row' = row ∨ row' = none ∨ ∃ g, row' = some g ∧ a.heap.size ≤ g) : a.grownBy c row :=
 ⟨k.os.trans h.os, k.tape.trans h.tape, k.output.trans h.output, Nat.le_trans h.size k.size, fun i hi hne => by
  refine (k.block i (Nat.lt_of_lt_of_le hi h.size) ?_).trans (h.block i hi hne)
  rcases hr with rfl | rfl | ⟨g, rfl, hg⟩
  ·exact hne
  ·simp
  ·intro e; injection e with e; omega⟩
theorem gb_drew {a w : World} {row : Option Nat} (h : a.grownBy w row) : a.grownBy w.drew row := ⟨h.os, h.tape, h.output, h.size, h.block⟩
theorem gb_drewN {a w : World} {row : Option Nat} (h : a.grownBy w row) (n : Nat) : a.grownBy (w.drewN n) row := ⟨h.os, h.tape, h.output, h.size, h.block⟩
theorem gb_alloc {a w : World} {row : Option Nat} (h : a.grownBy w row) (o : Obj) : a.grownBy (w.alloc o) row :=
 ⟨h.os, h.tape, h.output, Nat.le_trans h.size (by simp), fun i hi hne => (Below.heap_alloc w o i (Nat.lt_of_lt_of_le hi h.size)).trans (h.block i hi hne)⟩
theorem gb_setCell {a w : World} {row : Option Nat} (h : a.grownBy w row) {p : Addr} (hp : row = some p.block ∨ a.heap.size ≤ p.block) (u : Value) : a.grownBy (w.setCell p u) row :=
 ⟨h.os, h.tape, h.output, by simpa [World.setCell] using h.size, fun i hi hne => (Below.heap_setCell w p u i (by
  rintro rfl
  rcases hp with hp | hp
  ·exact hne hp.symm
  ·omega)).trans (h.block i hi hne)⟩
theorem gb_below {w w' : World} {row : Option Nat} {B : Nat} (h : w.grownBy w' row) (hB : B ≤ w.heap.size) (hr : ∀ g, row = some g → B ≤ g) : Below B w w' := (Below.refl B w).grown h hB hr
theorem gb_of_below {w w' : World} (h : Below w.heap.size w w') (row : Option Nat) : w.grownBy w' row := ⟨h.os, h.tape, h.output, h.size, fun i hi _ => h.block i hi⟩
/-! ## a slice that reads as a list of cells -/
theorem add_block (a : Addr) (n : Nat) : (a.add n).block = a.block := by unfold Addr.add; split <;> rfl
theorem add_add (a : Addr) (i j : Nat) : (a.add i).add j = a.add (i + j) := by
 unfold Addr.add
 by_cases hi : i = 0 <;> by_cases hj : j = 0 <;> simp [hi, hj, Nat.add_assoc]
def Rd (w : World) (B : Nat) (A : Option Addr) (xs : List Value) : Prop :=
 xs ≠ [] → ∃ ad, A = some ad ∧ ad.block < B ∧ ∀ j u, xs[j]? = some u → w.cell? (ad.add j) = some u
section
variable {w w' : World} {B B' : Nat} {A : Option Addr} {xs : List Value}
theorem Rd.nil_ : Rd w B A [] := fun h => absurd rfl h
theorem Rd.keep (h : Rd w B A xs) (hk : ∀ p : Addr, p.block < B → w'.cell? p = w.cell? p) : Rd w' B A xs := fun hn => by
 obtain ⟨ad, e, hb, hc⟩ := h hn
 exact ⟨ad, e, hb, fun j u hu => (hk _ (by rw [add_block]; exact hb)).trans (hc j u hu)⟩
theorem Rd.more (h : Rd w B A xs) (hB : B ≤ B') : Rd w B' A xs := fun hn => by
 obtain ⟨ad, e, hb, hc⟩ := h hn
 exact ⟨ad, e, by omega, hc⟩
theorem Rd.below (h : Rd w B A xs) (hb : Below B w w') : Rd w' B A xs := h.keep fun _ hp => hb.cell hp
theorem Rd.drew (h : Rd w B A xs) : Rd w.drew B A xs := h
theorem Rd.drewN (h : Rd w B A xs) (k : Nat) : Rd (w.drewN k) B A xs := h
theorem Rd.alloc (h : Rd w B A xs) (hB : B ≤ w.heap.size) (o : Obj) : Rd (w.alloc o) B A xs := h.keep fun p hp => World.cell?_alloc_lt w o p (by omega)
theorem Rd.grown (h : Rd w B A xs) {row : Option Nat} (hg : w.grownBy w' row) (hB : B ≤ w.heap.size) (hr : ∀ g, row = some g → B ≤ g) : Rd w' B A xs :=
 h.keep fun p hp => World.cell?_of_block (hg.block p.block (by omega) (fun e => by have := hr _ e.symm; omega))
theorem Rd.cell (h : Rd w B A xs) {k : Nat} (hk : k < xs.length) : ∃ ad, A = some ad ∧ ad.block < B ∧ w.cell? (ad.add k) = some xs[k] := by
 obtain ⟨ad, e, hb, hc⟩ := h (by rintro rfl; simp at hk)
 exact ⟨ad, e, hb, hc k _ (List.getElem?_eq_getElem hk)⟩
theorem Rd.of_own {base : Nat} {e : TypeId} {size c n : Nat} (h : w.ownsRow base e size (.slice A n c) n xs) : Rd w w.heap.size A xs := by
 intro hn
 rcases h.2 with ⟨h1, h2⟩ | ⟨g, cap, cur, hv, _, hgg, _⟩
 ·subst h2; have := h.1; simp at this; exact absurd this hn
 ·injection hv with hA
  subst hA
  exact ⟨_, rfl, (Array.getElem?_eq_some_iff.1 hgg).1, h.cells rfl⟩
theorem Rd.lay (h : Rd w B A xs) (hn : xs ≠ []) : ∃ b o, A = some ⟨b, o, none⟩ ∧ b < B ∧ ∀ j u, xs[j]? = some u → w.cell? ⟨b, o + j, none⟩ = some u := by
 obtain ⟨ad, rfl, hb, hc⟩ := h hn
 obtain ⟨b, o, sp⟩ := ad
 have h0 : 0 < xs.length := List.length_pos_iff.2 hn
 have hc0 := hc 0 xs[0] (List.getElem?_eq_getElem h0)
 have hsp : sp = none := by
  rcases sp with _ | s
  ·rfl
  ·simp only [Addr.add, if_true, World.cell?] at hc0
   split at hc0 <;> simp at hc0
 subst hsp
 refine ⟨b, o, rfl, hb, fun j u hu => ?_⟩
 have := hc j u hu
 rwa [Addr.add_lit] at this
theorem Rd.cut (h : Rd w B A xs) {k cap : Nat} (hk : k ≤ xs.length) (hc : xs.length ≤ cap) : Rd w B (if cap = k then A else A.map (·.add k)) (xs.drop k) := fun hn => by
 have hlt : k < xs.length := by
  rcases Nat.lt_or_ge k xs.length with h | h
  ·exact h
  ·exact absurd (List.drop_of_length_le h) hn
 obtain ⟨ad, rfl, hb, hcell⟩ := h (by rintro rfl; simp at hlt)
 rw [if_neg (by omega)]
 refine ⟨ad.add k, rfl, by rw [add_block]; exact hb, fun j u hu => ?_⟩
 rw [add_add]
 exact hcell _ u (by rw [← hu, List.getElem?_drop])
theorem Rd.take (h : Rd w B A xs) (k : Nat) : Rd w B A (xs.take k) := fun hn => by
 obtain ⟨ad, rfl, hb, hcell⟩ := h (by rintro rfl; simp at hn)
 exact ⟨ad, rfl, hb, fun j u hu => hcell j u (by
  rw [List.getElem?_take] at hu
  split at hu
  ·exact hu
  ·cases hu)⟩
theorem Rd.new (w : World) (cs : Array Value) (t : TypeId) (xs : List Value) (h : xs = cs.toList) : Rd (w.alloc (.cells cs t)) (w.heap.size + 1) (some ⟨w.heap.size, 0, none⟩) xs := fun _ =>
 ⟨_, rfl, by simp, fun j u hu => by
  subst h
  have e : (⟨w.heap.size, 0, none⟩ : Addr).add j = ⟨w.heap.size, j, none⟩ := by unfold Addr.add; split <;> simp_all
  rw [e, cell_of_row _ w.heap.size j cs t (0, 0) (heap_alloc_new w _)]
  simpa using hu⟩
end
/-! ## a block that is known whole -/
theorem blk_cell {w : World} {g : Nat} {cs : Array Value} {t : TypeId} (h : w.heap[g]? = some (.cells cs t (0, 0))) (i : Nat) : w.cell? ⟨g, i, none⟩ = cs[i]? := cell_of_row w g i cs t (0, 0) h
theorem blk_frozen {w : World} {g : Nat} {cs : Array Value} {t : TypeId} (h : w.heap[g]? = some (.cells cs t (0, 0))) (i : Nat) : w.frozen? ⟨g, i, none⟩ = false := by
 simp [World.frozen?, h]
theorem blk_lt {w : World} {g : Nat} {o : Obj} (h : w.heap[g]? = some o) : g < w.heap.size := (Array.getElem?_eq_some_iff.1 h).1
theorem blk_set {w : World} {g : Nat} {cs : Array Value} {t : TypeId} (h : w.heap[g]? = some (.cells cs t (0, 0))) (i : Nat) (u : Value) : (w.setCell ⟨g, i, none⟩ u).heap[g]? = some (.cells (cs.setIfInBounds i u) t (0, 0)) := by
 simp [World.setCell, Array.getElem?_modify, h]
theorem blk_keep {w w' : World} {g : Nat} {o : Obj} {row : Option Nat} (h : w.heap[g]? = some o) (hg : w.grownBy w' row) (hne : some g ≠ row) : w'.heap[g]? = some o := (hg.block g (blk_lt h) hne).trans h
theorem own_ne {w : World} {base g size n : Nat} {e t : TypeId} {v : Value} {xs : List Value} {cs : Array Value} (h : w.ownsRow base e size v n xs) (hg : w.heap[g]? = some (.cells cs t (0, 0))) (hne : e ≠ t) : v.ownBlock ≠ some g := by
 rcases h.2 with ⟨rfl, _⟩ | ⟨g', cap, cur, rfl, _, hh, _⟩
 ·simp [Value.ownBlock]
 ·intro he
  have : g' = g := by simpa [Value.ownBlock] using he
  subst this
  rw [hh] at hg
  injection hg with hg
  injection hg with _ ht
  exact hne ht
theorem own_form {w : World} {base : Nat} {e : TypeId} {v : Value} {n : Nat} {xs : List Value} (h : w.ownsRow base e 1 v n xs) : ∃ A c, v = .slice A n c ∧ n ≤ c ∧ c ≤ maxLen ∧ Rd w w.heap.size A xs := by
 have h' := h
 rcases h.2 with ⟨rfl, rfl⟩ | ⟨g, cap, cur, rfl, _, _, hnc, hcm, _⟩
 ·exact ⟨none, 0, rfl, Nat.le_refl _, Nat.zero_le _, Rd.of_own h'⟩
 ·exact ⟨_, cap, rfl, hnc, hcm, Rd.of_own h'⟩
theorem quiet_l {P : Program} {f : FuncId} {args : Array Value} {w : World} {n : Nat} {v : Value}
  (h : Calls P f args (w.drewN n) fun e w' => e = .returned v ∧ w.drewN n = w') : Calls P f args (w.drewN n) fun e w'' => e = .returned v ∧ ∃ m, w'' = w.drewN m :=
 h.mono fun _ _ ⟨he, hw⟩ => ⟨he, n, hw.symm⟩
/-! ## append onto a row of the call's own -/
section
variable {P : Program} (w : World)
theorem run_append_none (base : Nat) (t ty e : TypeId) (i : TypeInfo) (size : Nat) (ht : P.underlying t = some (.slice e)) (hi : P.info? e = some i)
  (v : Value) (n : Nat) (xs : List Value) (hown : w.ownsRow base e size v n xs) (A : Option Addr) (c : Nat) : (Builtin.append_ #[t, t] ty #[v, .slice A 0 c]).run P w = .ok v w := by
 rcases hown.2 with ⟨rfl, rfl⟩ | ⟨g, cap, cur, rfl, _, _, hnc, _⟩
 ·cases A <;> simp [Builtin.append_, run_underlying ht, sizeOf, typeInfo, hi, Builtin.lenOf, Builtin.firstCells, loadCells, loadCellsFrom]
 ·cases A <;> simp [Builtin.append_, run_underlying ht, sizeOf, typeInfo, hi, Builtin.lenOf, Builtin.firstCells, hnc, storeCells, loadCells, loadCellsFrom]
theorem run_append_rd (base : Nat) (t ty e : TypeId) (i : TypeInfo) (z : Value) (size bytes : Nat) (ht : P.underlying t = some (.slice e)) (hi : P.info? e = some i) (hz : i.zero = some z)
  (hsize : i.size = size) (hby : i.bytes = bytes) (hzs : z.cells.size = size) (hsz : 0 < size)
  (v : Value) (n : Nat) (xs : List Value) (hown : w.ownsRow base e size v n xs)
  (B : Nat) (A : Option Addr) (m c : Nat) (news : List Value) (hl : news.length = m * size) (hr : Rd w B A news) (h1 : ∀ u ∈ news, u.oneCell' = true)
  (h63 : n + m ≤ maxLen) (hbytes : (n + m) * bytes ≤ 140737488355328) (hbase : base ≤ w.heap.size) :
  ∃ v' w', (Builtin.append_ #[t, t] ty #[v, .slice A m c]).run P w = .ok v' w' ∧ w'.ownsRow base e size v' (n + m) (xs ++ news) ∧ w.grownBy w' v.ownBlock ∧
   (v'.ownBlock = v.ownBlock ∨ v'.ownBlock = some w.heap.size) := by
 rcases Nat.eq_zero_or_pos m with h0 | h0
 ·subst h0
  have hn : news = [] := List.eq_nil_of_length_eq_zero (by simpa using hl)
  subst hn
  exact ⟨v, w, run_append_none w base t ty e i size ht hi v n xs hown A c, by simpa using hown, gb_refl w _, .inl rfl⟩
 ·have hne : news ≠ [] := by
   rintro rfl
   have : 0 < m * size := Nat.mul_pos h0 hsz
   simp at hl; omega
  obtain ⟨ad, rfl, _, hcells⟩ := hr hne
  obtain ⟨v', w', hrun, h2, h3, _, h5⟩ := run_append_own_at (P := P) w base t ty e i z size bytes ht hi hz hsize hby hzs hsz v n xs hown ad m c news hl hcells h1 h63 hbytes hbase
  exact ⟨v', w', hrun, h2, h3, h5⟩
theorem wp_append_rd {o : Oper} {a : Act} {K : Act → World → Prop} {Q : Exit → Act → World → Prop} (s x : Operand) (t : TypeId)
  (ho : o.op = .call { callee := .builtin .append, args := #[s, x], argTypes := #[t, t] })
  (base : Nat) (e : TypeId) (i : TypeInfo) (z : Value) (size bytes : Nat) (ht : P.underlying t = some (.slice e)) (hi : P.info? e = some i) (hz : i.zero = some z)
  (hsize : i.size = size) (hby : i.bytes = bytes) (hzs : z.cells.size = size) (hsz : 0 < size)
  (v : Value) (n : Nat) (xs : List Value) (hs : a.eval s = v) (hown : w.ownsRow base e size v n xs)
  (B : Nat) (A : Option Addr) (m c : Nat) (news : List Value) (hx : a.eval x = .slice A m c) (hl : news.length = m * size) (hr : Rd w B A news) (h1 : ∀ u ∈ news, u.oneCell' = true)
  (h63 : n + m ≤ maxLen) (hbytes : (n + m) * bytes ≤ 140737488355328) (hbase : base ≤ w.heap.size)
  (h : ∀ v' w', w'.ownsRow base e size v' (n + m) (xs ++ news) → w.grownBy w' v.ownBlock → (v'.ownBlock = v.ownBlock ∨ v'.ownBlock = some w.heap.size) → K (a.put o.dst v') w') : o.wp P a w K Q := by
 obtain ⟨v', w', hrun, h2, h3, h4⟩ := run_append_rd (P := P) w base t o.type e i z size bytes ht hi hz hsize hby hzs hsz v n xs hown B A m c news hl hr h1 h63 hbytes hbase
 unfold Oper.wp execOp
 simp only [ho, resolve, invoke, builtin, Sem.run_bind, Sem.run_pure, Result.andThen_ok, List.map_toArray, List.map_cons, List.map_nil, hs, hx, hrun]
 exact h v' w' h2 h3 h4
theorem wpList_append_rd {ops : Array Oper} {rest : List Oper} {o : Oper} {a : Act} {Q : Exit → Act → World → Prop} (hgd : o.guard = none) (s x : Operand) (t : TypeId)
  (ho : o.op = .call { callee := .builtin .append, args := #[s, x], argTypes := #[t, t] })
  (base : Nat) (e : TypeId) (i : TypeInfo) (z : Value) (size bytes : Nat) (ht : P.underlying t = some (.slice e)) (hi : P.info? e = some i) (hz : i.zero = some z)
  (hsize : i.size = size) (hby : i.bytes = bytes) (hzs : z.cells.size = size) (hsz : 0 < size)
  (v : Value) (n : Nat) (xs : List Value) (hs : a.eval s = v) (hown : w.ownsRow base e size v n xs)
  (B : Nat) (A : Option Addr) (m c : Nat) (news : List Value) (hx : a.eval x = .slice A m c) (hl : news.length = m * size) (hr : Rd w B A news) (h1 : ∀ u ∈ news, u.oneCell' = true)
  (h63 : n + m ≤ maxLen) (hbytes : (n + m) * bytes ≤ 140737488355328) (hbase : base ≤ w.heap.size)
  (h : ∀ v' w', w'.ownsRow base e size v' (n + m) (xs ++ news) → w.grownBy w' v.ownBlock → (v'.ownBlock = v.ownBlock ∨ v'.ownBlock = some w.heap.size) → wpList P ops Q rest (a.put o.dst v') w') : wpList P ops Q (o :: rest) a w :=
 wpList_plain hgd fun _ hK => wp_append_rd w s x t ho base e i z size bytes ht hi hz hsize hby hzs hsz v n xs hs hown B A m c news hx hl hr h1 h63 hbytes hbase fun v' w' h2 h3 h4 => hK _ _ (h v' w' h2 h3 h4)
end
theorem cell1 (k : IntKind) (n : Int) : ∀ u ∈ [Value.int k n], u.oneCell' = true := by
 intro u hu
 obtain rfl := List.mem_singleton.1 hu
 rfl
/-! ## numbers of 64 bits -/
def U64 (n : Nat) : Prop := n ≤ 18446744073709551615
theorem U64.div {n : Nat} (h : U64 n) {k : Nat} : U64 (n / k) := Nat.le_trans (Nat.div_le_self n k) h
theorem U64.wrap {n : Nat} (h : U64 n) : IntKind.u64.wrap (n : Int) = (n : Int) := by
 unfold U64 at h
 simp only [IntKind.wrap_u64]
 omega
theorem wrap_div128 {n : Nat} (h : U64 n) : IntKind.u64.wrap ((n : Int) / 128) = ((n / 128 : Nat) : Int) := by
 have := (h.div (k := 128)).wrap
 simpa using this
/-! ## bytes -/
def u8s (bs : List UInt8) : List Value := bs.map fun b => Value.int .u8 (b.toNat : Int)
def u64s (l : List Nat) : List Value := l.map fun (n : Nat) => Value.int .u64 (n : Int)
theorem u8s_length (bs : List UInt8) : (u8s bs).length = bs.length := by simp [u8s]
theorem u8s_append (a b : List UInt8) : u8s (a ++ b) = u8s a ++ u8s b := by simp [u8s]
theorem u8s_cell (bs : List UInt8) : ∀ u ∈ u8s bs, u.oneCell' = true := by
 intro u hu
 obtain ⟨_, _, rfl⟩ := List.mem_map.1 hu
 rfl
theorem u8s_drop (bs : List UInt8) (k : Nat) : (u8s bs).drop k = u8s (bs.drop k) := by simp [u8s]
theorem u8s_take (bs : List UInt8) (k : Nat) : (u8s bs).take k = u8s (bs.take k) := by simp [u8s]
def i64s (l : List Int) : List Value := l.map (Value.int .i64)
def strs (l : List ByteArray) : List Value := l.map Value.string
theorem u64s_length (l : List Nat) : (u64s l).length = l.length := by simp [u64s]
theorem i64s_length (l : List Int) : (i64s l).length = l.length := by simp [i64s]
theorem strs_length (l : List ByteArray) : (strs l).length = l.length := by simp [strs]
section
variable {w : World} {B : Nat} {A : Option Addr} {k : Nat}
theorem Rd.u8 {bs : List UInt8} (h : Rd w B A (u8s bs)) (hk : k < bs.length) : ∃ ad, A = some ad ∧ ad.block < B ∧ w.cell? (ad.add k) = some (.int .u8 ((bs[k]).toNat : Int)) := by
 obtain ⟨ad, h1, h2, h3⟩ := h.cell (k := k) (by rw [u8s_length]; exact hk)
 exact ⟨ad, h1, h2, by rw [h3]; simp [u8s]⟩
theorem Rd.lay8 {bs : List UInt8} (h : Rd w B A (u8s bs)) (hn : 0 < bs.length) : ∃ b o, A = some ⟨b, o, none⟩ ∧ b < B ∧ ∀ j (hj : j < bs.length), w.cell? ⟨b, o + j, none⟩ = some (.int .u8 ((bs[j]).toNat : Int)) := by
 obtain ⟨b, o, h1, h2, h3⟩ := h.lay (by rw [← List.length_pos_iff, u8s_length]; exact hn)
 exact ⟨b, o, h1, h2, fun j hj => h3 j _ (by simp [u8s, hj])⟩
theorem Rd.u64 {l : List Nat} (h : Rd w B A (u64s l)) (hk : k < l.length) : ∃ ad, A = some ad ∧ ad.block < B ∧ w.cell? (ad.add k) = some (.int .u64 ((l[k] : Nat) : Int)) := by
 obtain ⟨ad, h1, h2, h3⟩ := h.cell (k := k) (by rw [u64s_length]; exact hk)
 exact ⟨ad, h1, h2, by rw [h3]; simp [u64s]⟩
theorem Rd.i64 {l : List Int} (h : Rd w B A (i64s l)) (hk : k < l.length) : ∃ ad, A = some ad ∧ ad.block < B ∧ w.cell? (ad.add k) = some (.int .i64 l[k]) := by
 obtain ⟨ad, h1, h2, h3⟩ := h.cell (k := k) (by rw [i64s_length]; exact hk)
 exact ⟨ad, h1, h2, by rw [h3]; simp [i64s]⟩
theorem Rd.str {l : List ByteArray} (h : Rd w B A (strs l)) (hk : k < l.length) : ∃ ad, A = some ad ∧ ad.block < B ∧ w.cell? (ad.add k) = some (.string l[k]) := by
 obtain ⟨ad, h1, h2, h3⟩ := h.cell (k := k) (by rw [strs_length]; exact hk)
 exact ⟨ad, h1, h2, by rw [h3]; simp [strs]⟩
end
theorem u8s_ne {bs : List UInt8} (h : bs ≠ []) : u8s bs ≠ [] := by simpa [u8s] using h
/-! ## lists of bytes: (address, capacity, bytes) -/
def sls (l : List (Option Addr × Nat × List UInt8)) : List Value := l.map fun x => .slice x.1 x.2.2.length x.2.1
def catB (l : List (Option Addr × Nat × List UInt8)) : List UInt8 := l.flatMap fun x => x.2.2
def RdB (w : World) (B : Nat) (A : Option Addr) (l : List (Option Addr × Nat × List UInt8)) : Prop :=
 Rd w B A (sls l) ∧ ∀ x ∈ l, Rd w B x.1 (u8s x.2.2) ∧ x.2.2.length ≤ x.2.1 ∧ x.2.1 ≤ maxLen
theorem sls_length (l : List (Option Addr × Nat × List UInt8)) : (sls l).length = l.length := by simp [sls]
theorem catB_take (l : List (Option Addr × Nat × List UInt8)) (k : Nat) (h : k < l.length) : catB (l.take (k + 1)) = catB (l.take k) ++ l[k].2.2 := by
 unfold catB
 rw [List.take_succ_eq_append_getElem h, List.flatMap_append, List.flatMap_cons, List.flatMap_nil, List.append_nil]
theorem catB_take_le (l : List (Option Addr × Nat × List UInt8)) (k : Nat) : (catB (l.take k)).length ≤ (catB l).length := by
 have : catB l = catB (l.take k) ++ catB (l.drop k) := by
  conv => lhs; rw [← List.take_append_drop k l]
  simp only [catB, List.flatMap_append]
 rw [this, List.length_append]; omega
theorem catB_elem (l : List (Option Addr × Nat × List UInt8)) (k : Nat) (h : k < l.length) : (catB (l.take k)).length + l[k].2.2.length ≤ (catB l).length := by
 have h1 := catB_take l k h
 have h2 := catB_take_le l (k + 1)
 rw [h1, List.length_append] at h2
 exact h2
section
variable {w w' : World} {B : Nat} {A : Option Addr} {l : List (Option Addr × Nat × List UInt8)}
theorem RdB.at_ (h : RdB w B A l) {k : Nat} (hk : k < l.length) : ∃ ad, A = some ad ∧ ad.block < B ∧ w.cell? (ad.add k) = some (.slice l[k].1 l[k].2.2.length l[k].2.1) ∧ Rd w B l[k].1 (u8s l[k].2.2) ∧ l[k].2.2.length ≤ l[k].2.1 ∧ l[k].2.1 ≤ maxLen := by
 obtain ⟨ad, h1, h2, h3⟩ := h.1.cell (k := k) (by rw [sls_length]; exact hk)
 exact ⟨ad, h1, h2, by rw [h3]; simp [sls], h.2 _ (List.getElem_mem hk)⟩
theorem RdB.grown (h : RdB w B A l) {row : Option Nat} (hg : w.grownBy w' row) (hB : B ≤ w.heap.size) (hr : ∀ g, row = some g → B ≤ g) : RdB w' B A l :=
 ⟨h.1.grown hg hB hr, fun x hx => ⟨(h.2 x hx).1.grown hg hB hr, (h.2 x hx).2⟩⟩
end
end Go.Proofs.YtmcmlkglkpbnpaaGreat
namespace Go.Proofs.YtmcmlkglkpbnpaaGreat
open Go.RowKit Go.MapKept
section
variable {κ ν : Type}
section
variable [DecidableEq κ]
def aget : List (κ × ν) → κ → Option ν
 | [], _ => none
 | (a, v) :: r, k => if a = k then some v else aget r k
def aput : List (κ × ν) → κ → ν → List (κ × ν)
 | [], k, v => [(k, v)]
 | (a, u) :: r, k, v => if a = k then (k, v) :: r else (a, u) :: aput r k v
def adel : List (κ × ν) → κ → List (κ × ν)
 | [], _ => []
 | (a, u) :: r, k => if a = k then r else (a, u) :: adel r k
end
structure Enc (κ ν : Type) where
 d : TypeDesc
 ek : κ → Value
 ev : ν → Value
 key : ∀ k, IsKey d (ek k)
 inj : ∀ a b, ek a = ek b → a = b
def MapAt (E : Enc κ ν) (w : World) (b : Nat) (l : List (κ × ν)) : Prop :=
 ∃ es clock, w.heap[b]? = some (.map es clock) ∧ Stamped es clock ∧ es.toList.map (fun e => (e.key, e.val)) = l.map (fun x => (E.ek x.1, E.ev x.2))
variable {E : Enc κ ν} {w w' : World} {b : Nat} {l : List (κ × ν)} {P : Program} {t kt e : TypeId}
theorem MapAt.keep (h : MapAt E w b l) (hk : w'.heap[b]? = w.heap[b]?) : MapAt E w' b l := by
 obtain ⟨es, clock, h1, h2⟩ := h
 exact ⟨es, clock, hk.trans h1, h2⟩
theorem MapAt.lt (h : MapAt E w b l) : b < w.heap.size := by
 obtain ⟨es, clock, h1, _⟩ := h
 exact (Array.getElem?_eq_some_iff.1 h1).1
theorem MapAt.drewN (h : MapAt E w b l) (n : Nat) : MapAt E (w.drewN n) b l := h
theorem MapAt.alloc (h : MapAt E w b l) (o : Obj) : MapAt E (w.alloc o) b l := h.keep (heap_alloc_old w o h.lt)
theorem MapAt.setCell (h : MapAt E w b l) {p : Addr} (hp : p.block ≠ b) (u : Value) : MapAt E (w.setCell p u) b l := h.keep (Below.heap_setCell w p u b (fun e => hp e.symm))
theorem MapAt.grown {row : Option Nat} (h : MapAt E w b l) (hg : w.grownBy w' row) (hne : some b ≠ row) : MapAt E w' b l := h.keep (hg.block b h.lt hne)
theorem MapAt.made (w : World) : MapAt E (w.alloc (.map #[] 0)) w.heap.size [] := ⟨#[], 0, heap_alloc_new w _, stamped_empty 0, rfl⟩
theorem MapAt.nodup (h : MapAt E w b l) : (l.map (·.1)).Nodup := by
 obtain ⟨es, clock, _, ⟨_, _, h3⟩, h4⟩ := h
 have e1 : es.toList.map (·.key) = (l.map (·.1)).map E.ek := by
  have := congrArg (List.map Prod.fst) h4
  simpa [List.map_map, Function.comp_def] using this
 rw [e1] at h3
 exact (List.pairwise_map.1 h3).imp (fun h e => h (by rw [e]))
section
variable [DecidableEq κ]
theorem find_aget (k : κ) : ∀ (es : List MapEntry) (l : List (κ × ν)) (i : Nat), es.map (fun e => (e.key, e.val)) = l.map (fun x => (E.ek x.1, E.ev x.2)) →
  (aget l k = none ∧ Instr.findNow E.d (E.ek k) es i = some none ∧ (∀ x ∈ es, x.key ≠ E.ek k) ∧ (∀ v, aput l k v = l ++ [(k, v)]) ∧ adel l k = l) ∨
  ∃ j u x, aget l k = some u ∧ Instr.findNow E.d (E.ek k) es i = some (some (i + j, x.val)) ∧ es[j]? = some x ∧ x.key = E.ek k ∧ x.val = E.ev u ∧ (∀ v, aput l k v = l.set j (k, v)) ∧ adel l k = l.eraseIdx j
 | [], l, i, h => by
  have : l = [] := by simpa using h.symm
  subst this
  exact .inl ⟨rfl, rfl, by simp, fun _ => rfl, rfl⟩
 | x :: es, [], i, h => by simp at h
 | x :: es, (a, u) :: l, i, h => by
  simp only [List.map_cons, List.cons.injEq, Prod.mk.injEq] at h
  obtain ⟨⟨hk, hv⟩, ht⟩ := h
  obtain ⟨r, hr, hiff⟩ := sameNow_of_keys (E.key k) (hk ▸ E.key a : IsKey E.d x.key)
  by_cases hak : a = k
  ·have hr1 : r = true := hiff.2 (by rw [hk, hak])
   subst hr1
   exact .inr ⟨0, u, x, by simp [aget, hak], by simp [Instr.findNow, hr], rfl, by rw [hk, hak], hv, fun v => by simp [aput, hak], by simp [adel, hak]⟩
  ·have hne : x.key ≠ E.ek k := fun q => hak (E.inj _ _ (by rw [← hk, q]))
   have hr1 : r = false := by
    cases r
    ·rfl
    ·exact absurd (hiff.1 rfl).symm hne
   subst hr1
   rcases find_aget k es l (i + 1) ht with ⟨h1, h2, h3, h4, h5⟩ | ⟨j, u', x', h1, h2, h3, h4, h5, h6, h7⟩
   ·exact .inl ⟨by simp [aget, hak, h1], by simp [Instr.findNow, hr, h2], fun y hy => by
     rcases List.mem_cons.1 hy with rfl | hy
     ·exact hne
     ·exact h3 y hy, fun v => by simp [aput, hak, h4], by simp [adel, hak, h5]⟩
   ·exact .inr ⟨j + 1, u', x', by simp [aget, hak, h1], by simp [Instr.findNow, hr, h2]; omega, by simpa using h3, h4, h5, fun v => by simp [aput, hak, h6], by simp [adel, hak, h7]⟩
theorem MapAt.look (h : MapAt E w b l) (hk : P.underlying kt = some E.d) (ht : P.underlying t = some (.map kt e)) {z : Value} (hz : (zeroValue e).run P w = .ok z w) (k : κ) (c : Bool) :
  (Instr.lookup t (.map (some b)) (E.ek k) c).run P w = .ok (if c then .tuple #[((aget l k).map E.ev).getD z, .bool (aget l k).isSome] else ((aget l k).map E.ev).getD z) w := by
 obtain ⟨es, clock, hb, hs, hl⟩ := h
 rcases find_aget (E := E) k es.toList l 0 hl with ⟨h1, h2, _⟩ | ⟨j, u, x, h1, h2, _, _, h5, _⟩
 ·simp [Instr.lookup, run_underlying ht, MapKept.run_getObj_map hb, MapKept.run_checkKey hk (E.key k), MapKept.run_findKey hk h2, hz, h1, Result.andThen]
 ·simp [Instr.lookup, run_underlying ht, MapKept.run_getObj_map hb, MapKept.run_checkKey hk (E.key k), MapKept.run_findKey hk h2, h1, h5, Result.andThen]
theorem MapAt.look_yes (h : MapAt E w b l) (hk : P.underlying kt = some E.d) (ht : P.underlying t = some (.map kt e)) {z : Value} (hz : (zeroValue e).run P w = .ok z w) {k : κ} {v : ν} (hv : aget l k = some v) :
  (Instr.lookup t (.map (some b)) (E.ek k) false).run P w = .ok (E.ev v) w := by
 have := h.look hk ht hz k false
 rw [hv] at this
 exact this
theorem MapAt.look_no (h : MapAt E w b l) (hk : P.underlying kt = some E.d) (ht : P.underlying t = some (.map kt e)) {z : Value} (hz : (zeroValue e).run P w = .ok z w) {k : κ} (hv : aget l k = none) :
  (Instr.lookup t (.map (some b)) (E.ek k) false).run P w = .ok z w := by
 have := h.look hk ht hz k false
 rw [hv] at this
 exact this
theorem MapAt.ok_yes (h : MapAt E w b l) (hk : P.underlying kt = some E.d) (ht : P.underlying t = some (.map kt e)) {z : Value} (hz : (zeroValue e).run P w = .ok z w) {k : κ} {v : ν} (hv : aget l k = some v) :
  (Instr.lookup t (.map (some b)) (E.ek k) true).run P w = .ok (.tuple #[E.ev v, .bool true]) w := by
 have := h.look hk ht hz k true
 rw [hv] at this
 exact this
theorem MapAt.ok_no (h : MapAt E w b l) (hk : P.underlying kt = some E.d) (ht : P.underlying t = some (.map kt e)) {z : Value} (hz : (zeroValue e).run P w = .ok z w) {k : κ} (hv : aget l k = none) :
  (Instr.lookup t (.map (some b)) (E.ek k) true).run P w = .ok (.tuple #[z, .bool false]) w := by
 have := h.look hk ht hz k true
 rw [hv] at this
 exact this
omit [DecidableEq κ] in
theorem gb_setBlock {r : Nat} {o o' : Obj} (hb : w.heap[r]? = some o) : w.grownBy (Go.ChangeMaps.setBlock w r o') (some r) :=
 ⟨rfl, rfl, rfl, by simp [Go.ChangeMaps.setBlock], fun i _ hi => (heap_set hb).2 i (fun e => hi (by rw [e]))⟩
theorem MapAt.update (h : MapAt E w b l) (hk : P.underlying kt = some E.d) (ht : P.underlying t = some (.map kt e)) (k : κ) (v : ν) :
  ∃ w', (Instr.mapUpdate t (.map (some b)) (E.ek k) (E.ev v)).run P w = .ok () w' ∧ MapAt E w' b (aput l k v) ∧ w.grownBy w' (some b) ∧ w'.heap.size = w.heap.size := by
 obtain ⟨es, clock, hb, hs, hl⟩ := h
 rcases find_aget (E := E) k es.toList l 0 hl with ⟨h1, h2, h3, h4, _⟩ | ⟨j, u, x, h1, h2, h3, h4', h5, h6, _⟩
 ·refine ⟨Go.ChangeMaps.setBlock w b (.map (es.push ⟨E.ek k, E.ev v, clock⟩) (clock + 1)), ?_, ⟨_, _, (heap_set hb).1, stamped_push hs h3, ?_⟩, gb_setBlock hb, by simp [Go.ChangeMaps.setBlock]⟩
  ·simp [Instr.mapUpdate, run_underlying ht, MapKept.run_getObj_map hb, MapKept.run_checkKey hk (E.key k), MapKept.run_findKey hk h2, MapKept.run_setObj_map _ hb, Result.andThen, Go.ChangeMaps.setBlock]
  ·rw [h4]
   simp [hl]
 ·have hj : es[j]? = some x := by simpa using h3
  have hlist : (es.modify j (fun e' => { e' with key := E.ek k, val := E.ev v })).toList = es.toList.set j { x with key := E.ek k, val := E.ev v } := by rw [Array.toList_modify, Go.ChangeMaps.modify_eq_set _ _ _ _ h3]
  refine ⟨Go.ChangeMaps.setBlock w b (.map (es.modify j (fun e' => { e' with key := E.ek k, val := E.ev v })) clock), ?_, ⟨_, _, (heap_set hb).1, stamped_modify hs _ _ (fun _ _ => rfl) (fun e' _ he' => by rw [hj] at he'; cases he'; exact h4'.symm), ?_⟩, gb_setBlock hb, by simp [Go.ChangeMaps.setBlock]⟩
  ·simp [Instr.mapUpdate, run_underlying ht, MapKept.run_getObj_map hb, MapKept.run_checkKey hk (E.key k), MapKept.run_findKey hk h2, hj, h4', MapKept.run_keyThatStays (E.key k), MapKept.run_setObj_map _ hb, Result.andThen, Go.ChangeMaps.setBlock]
  ·rw [h6, hlist, List.map_set, hl, List.map_set]
theorem MapAt.drop (h : MapAt E w b l) (hk : P.underlying kt = some E.d) (ht : P.underlying t = some (.map kt e)) (k : κ) (ty : TypeId) :
  ∃ w', (Builtin.delete_ #[t, kt] ty #[.map (some b), E.ek k]).run P w = .ok (.tuple #[]) w' ∧ MapAt E w' b (adel l k) ∧ w.grownBy w' (some b) ∧ w'.heap.size = w.heap.size := by
 obtain ⟨es, clock, hb, hs, hl⟩ := h
 rcases find_aget (E := E) k es.toList l 0 hl with ⟨h1, h2, h3, _, h5⟩ | ⟨j, u, x, h1, h2, h3, h4', _, _, h7⟩
 ·refine ⟨Go.ChangeMaps.setBlock w b (.map es clock), ?_, ⟨_, _, (heap_set hb).1, hs, by rw [h5]; exact hl⟩, gb_setBlock hb, by simp [Go.ChangeMaps.setBlock]⟩
  simp [Builtin.delete_, run_underlying ht, MapKept.run_getObj_map hb, MapKept.run_checkKey hk (E.key k), MapKept.run_findKey hk h2, MapKept.run_setObj_map _ hb, Result.andThen, Go.ChangeMaps.setBlock]
 ·have hjs : j < es.size := by simpa using (List.getElem?_eq_some_iff.1 h3).1
  have hsub : (es.eraseIdxIfInBounds j).toList = es.toList.eraseIdx j := by
   unfold Array.eraseIdxIfInBounds
   rw [dif_pos hjs]
   simp
  refine ⟨Go.ChangeMaps.setBlock w b (.map (es.eraseIdxIfInBounds j) clock), ?_, ⟨_, _, (heap_set hb).1, stamped_erase hs j, ?_⟩, gb_setBlock hb, by simp [Go.ChangeMaps.setBlock]⟩
  ·simp [Builtin.delete_, run_underlying ht, MapKept.run_getObj_map hb, MapKept.run_checkKey hk (E.key k), MapKept.run_findKey hk h2, MapKept.run_setObj_map _ hb, Result.andThen, Go.ChangeMaps.setBlock]
  ·rw [h7, hsub, Go.ChangeMaps.map_eraseIdx, hl, Go.ChangeMaps.map_eraseIdx]
end
theorem MapAt.len (h : MapAt E w b l) (ht : P.underlying t = some (.map kt e)) (ty : TypeId) : (Builtin.len_ #[t] ty #[.map (some b)]).run P w = .ok (.int .i64 (l.length : Int)) w := by
 obtain ⟨es, clock, hb, hs, hl⟩ := h
 have e1 : es.size = l.length := by have := congrArg List.length hl; simpa using this
 simp [Builtin.len_, run_underlying ht, MapKept.run_getObj_map hb, Result.andThen, goInt, e1]
/-! ### ranging -/
def IterAt (E : Enc κ ν) (w : World) (b r : Nat) (l todo : List (κ × ν)) : Prop :=
 ∃ es clock since seen c0, w.heap[b]? = some (.map es clock) ∧ Stamped es clock ∧ es.toList.map (fun e => (e.key, e.val)) = l.map (fun x => (E.ek x.1, E.ev x.2)) ∧
  w.heap[r]? = some (.mapIter (some b) since seen c0) ∧ (∀ x ∈ es.toList, x.born < since) ∧ since ≤ c0 ∧ since ≤ clock ∧ (leftOf es seen).toList.map (fun e => (e.key, e.val)) = todo.map (fun x => (E.ek x.1, E.ev x.2))
theorem IterAt.map {r : Nat} {todo : List (κ × ν)} (h : IterAt E w b r l todo) : MapAt E w b l := by
 obtain ⟨es, clock, since, seen, c0, h1, h2, h3, _⟩ := h
 exact ⟨es, clock, h1, h2, h3⟩
theorem IterAt.lt {r : Nat} {todo : List (κ × ν)} (h : IterAt E w b r l todo) : r < w.heap.size := by
 obtain ⟨es, clock, since, seen, c0, h1, h2, h3, h4, _⟩ := h
 exact (Array.getElem?_eq_some_iff.1 h4).1
theorem IterAt.keep {r : Nat} {todo : List (κ × ν)} (h : IterAt E w b r l todo) (hb : w'.heap[b]? = w.heap[b]?) (hr : w'.heap[r]? = w.heap[r]?) : IterAt E w' b r l todo := by
 obtain ⟨es, clock, since, seen, c0, h1, h2, h3, h4, h5⟩ := h
 exact ⟨es, clock, since, seen, c0, hb.trans h1, h2, h3, hr.trans h4, h5⟩
theorem IterAt.grown {r : Nat} {todo : List (κ × ν)} {row : Option Nat} (h : IterAt E w b r l todo) (hg : w.grownBy w' row) (hb : some b ≠ row) (hr : some r ≠ row) : IterAt E w' b r l todo :=
 h.keep (hg.block b h.map.lt hb) (hg.block r h.lt hr)
theorem IterAt.left {r : Nat} {todo : List (κ × ν)} (h : IterAt E w b r l todo) : w.rangeLeft b r = todo.length := by
 obtain ⟨es, clock, since, seen, c0, h1, h2, h3, h4, _, _, _, h8⟩ := h
 simp only [World.rangeLeft, h1, h4]
 have := congrArg List.length h8
 simpa using this
theorem MapAt.range (h : MapAt E w b l) (ht : P.underlying t = some (.map kt e)) :
  ∃ w', (Instr.range t (.map (some b))).run P w = .ok (.pointer (some ⟨w.heap.size, 0, none⟩)) w' ∧ IterAt E w' b w.heap.size l l ∧ w.grownBy w' none ∧ w'.heap.size = w.heap.size + 1 := by
 have hlt := h.lt
 obtain ⟨es, clock, hb, hs, hl⟩ := h
 refine ⟨_, run_range_map w t kt e b es clock ht hb, ⟨es, clock, clock, #[], clock, (heap_alloc_old w _ hlt).trans hb, hs, hl, heap_alloc_new w _, hs.1, Nat.le_refl _, Nat.le_refl _, ?_⟩, World.grownBy_alloc w _ none, by simp⟩
 have e1 : (leftOf es #[]).toList = es.toList := by
  unfold leftOf
  rw [Array.toList_filter]
  exact List.filter_eq_self.2 (fun x _ => by simp)
 rw [e1]
 exact hl
theorem left_push {es : Array MapEntry} {seen : Array Nat} {x : MapEntry} {j : Nat} (hn : (es.toList.map (·.born)).Nodup) (hj : (leftOf es seen).toList[j]? = some x) :
  (leftOf es (seen.push x.born)).toList = (leftOf es seen).toList.eraseIdx j := by
 have hn' : ((leftOf es seen).toList.map (·.born)).Nodup := by
  unfold leftOf
  rw [Array.toList_filter]
  exact (List.filter_sublist.map _).nodup hn
 have e1 : (leftOf es (seen.push x.born)).toList = (leftOf es seen).toList.filter (fun y => !(y.born == x.born)) := by
  unfold leftOf
  rw [Array.toList_filter, Array.toList_filter, List.filter_filter]
  apply List.filter_congr
  intro y _
  rw [contains_push]
  cases seen.contains y.born <;> cases (y.born == x.born) <;> rfl
 rw [e1]
 generalize (leftOf es seen).toList = L at hn' hj
 clear e1
 induction L generalizing j with
 | nil => simp at hj
 | cons y L ih =>
  have hn2 : y.born ∉ L.map (·.born) ∧ (L.map (·.born)).Nodup := List.nodup_cons.1 hn'
  cases j with
  | zero =>
   simp at hj
   subst hj
   have : L.filter (fun z => !(z.born == y.born)) = L := List.filter_eq_self.2 (fun z hz => by
    have : z.born ≠ y.born := fun e => hn2.1 (by rw [← e]; exact List.mem_map.2 ⟨z, hz, rfl⟩)
    simp [this])
   simp [this]
  | succ j =>
   simp at hj
   have hx : x ∈ L := List.mem_of_getElem? hj
   have hne : y.born ≠ x.born := fun e => hn2.1 (by rw [e]; exact List.mem_map.2 ⟨x, hx, rfl⟩)
   simp [hne, ih hn2.2 hj]
theorem IterAt.next {r : Nat} {todo : List (κ × ν)} (h : IterAt E w b r l todo) (ty : TypeId) :
  (todo = [] ∧ (Instr.next (.pointer (some ⟨r, 0, none⟩)) false ty).run P w = .ok (.tuple #[.bool false]) w) ∨
  ∃ j x w', todo[j]? = some x ∧ (Instr.next (.pointer (some ⟨r, 0, none⟩)) false ty).run P w = .ok (.tuple #[.bool true, E.ek x.1, E.ev x.2]) w' ∧ IterAt E w' b r l (todo.eraseIdx j) ∧ w.grownBy w' (some r) ∧ w'.heap.size = w.heap.size ∧
   (Instr.entry (.pointer (some ⟨r, 0, none⟩))).run P w' = .ok (.tuple #[E.ek x.1, E.ev x.2]) w' := by
 obtain ⟨es, clock, since, seen, c0, hb, hs, hl, hr, hold, hsc, hsk, htd⟩ := h
 have hne : r ≠ b := by
  intro e1
  rw [e1, hb] at hr
  cases hr
 rcases run_next_at (P := P) w ty r b since c0 seen es clock hr hb hold hsc with ⟨h0, hrun⟩ | ⟨e, he, w1, hal, hrun⟩
 ·refine .inl ⟨?_, hrun⟩
  have : (leftOf es seen).toList = [] := by
   have := Array.eq_empty_of_size_eq_zero h0
   rw [this]
  rw [this] at htd
  simpa using htd.symm
 ·obtain ⟨j, hj⟩ := List.getElem?_of_mem he
  have htj : ((leftOf es seen).toList.map (fun e => (e.key, e.val)))[j]? = some (e.key, e.val) := by rw [List.getElem?_map, hj]; rfl
  rw [htd, List.getElem?_map] at htj
  obtain ⟨x, hx, hxe⟩ := Option.map_eq_some_iff.1 htj
  injection hxe with hx1 hx2
  obtain ⟨hem, _⟩ := mem_left he
  have hr1 : w1.heap[r]? = some (.mapIter (some b) since seen c0) := by rcases hal with rfl | rfl <;> exact hr
  have hb1 : w1.heap[b]? = some (.map es clock) := by rcases hal with rfl | rfl <;> exact hb
  have hset := heap_set (o' := .mapIter (some b) since (seen.push e.born) clock) hr1
  have hb' : (Go.ChangeMaps.setBlock w1 r (.mapIter (some b) since (seen.push e.born) clock)).heap[b]? = some (.map es clock) := (hset.2 b (fun e1 => hne e1.symm)).trans hb1
  refine .inr ⟨j, x, _, hx, by rw [hx1, hx2]; exact hrun, ⟨es, clock, since, seen.push e.born, clock, hb', hs, hl, hset.1, hold, hsk, hsk, ?_⟩, ?_, ?_, ?_⟩
  ·rw [left_push hs.2.1 hj, Go.ChangeMaps.map_eraseIdx, htd, Go.ChangeMaps.map_eraseIdx]
  ·rcases hal with rfl | rfl <;> exact ⟨rfl, rfl, rfl, by simp [Go.ChangeMaps.setBlock], fun i _ hi => hset.2 i (fun e1 => hi (by rw [e1]))⟩
  ·rcases hal with rfl | rfl <;> simp [Go.ChangeMaps.setBlock]
  ·rw [hx1, hx2]
   exact run_entry_at _ r b since seen es clock e hset.1 hb' hem hs.2.1
end
/-! ### at the operations, for the walk -/
section
variable {κ ν : Type} {E : Enc κ ν} {P : Program} (w : World) {ops : Array Oper} {rest : List Oper} {o : Oper} {a : Act} {Q : Exit → Act → World → Prop}
section
variable [DecidableEq κ]
theorem wpList_put (hg : o.guard = none) (m x v : Operand) (t : TypeId) (hop : o.op = Op.mapUpdate t m x v) (kt e : TypeId) (hk : P.underlying kt = some E.d) (ht : P.underlying t = some (.map kt e))
  (b : Nat) (l : List (κ × ν)) (hm : a.eval m = .map (some b)) (h : MapAt E w b l) (k : κ) (u : ν) (hx : a.eval x = E.ek k) (hv : a.eval v = E.ev u)
  (hK : ∀ w', MapAt E w' b (aput l k u) → w.grownBy w' (some b) → w'.heap.size = w.heap.size → wpList P ops Q rest (a.put o.dst undef) w') : wpList P ops Q (o :: rest) a w := by
 refine wpList_plain hg fun K' hK' => ?_
 obtain ⟨w', hrun, r1, r2, r3⟩ := h.update (P := P) hk ht k u
 unfold Oper.wp
 simp [execOp, hop, hm, hx, hv, hrun, Result.andThen]
 exact hK' _ _ (hK w' r1 r2 r3)
theorem wpList_del (hg : o.guard = none) (m x : Operand) (t kt : TypeId) (hop : o.op = Op.call { callee := Callee.builtin Builtin.delete, args := #[m, x], argTypes := #[t, kt] }) (e : TypeId) (hk : P.underlying kt = some E.d) (ht : P.underlying t = some (.map kt e))
  (b : Nat) (l : List (κ × ν)) (hm : a.eval m = .map (some b)) (h : MapAt E w b l) (k : κ) (hx : a.eval x = E.ek k)
  (hK : ∀ w', MapAt E w' b (adel l k) → w.grownBy w' (some b) → w'.heap.size = w.heap.size → wpList P ops Q rest (a.put o.dst (.tuple #[])) w') : wpList P ops Q (o :: rest) a w := by
 refine wpList_plain hg fun K' hK' => ?_
 obtain ⟨w', hrun, r1, r2, r3⟩ := h.drop (P := P) hk ht k o.type
 unfold Oper.wp
 simp [execOp, hop, resolve, invoke, builtin, hm, hx, hrun, Result.andThen]
 exact hK' _ _ (hK w' r1 r2 r3)
end
theorem wpList_mlen (hg : o.guard = none) (m : Operand) (t : TypeId) (hop : o.op = Op.call { callee := Callee.builtin Builtin.len, args := #[m], argTypes := #[t] }) (kt e : TypeId) (ht : P.underlying t = some (.map kt e))
  (b : Nat) (l : List (κ × ν)) (hm : a.eval m = .map (some b)) (h : MapAt E w b l) (hK : wpList P ops Q rest (a.put o.dst (.int .i64 (l.length : Int))) w) : wpList P ops Q (o :: rest) a w := by
 refine wpList_plain hg fun K' hK' => ?_
 unfold Oper.wp
 simp [execOp, hop, resolve, invoke, builtin, hm, h.len (P := P) ht o.type, Result.andThen]
 exact hK' _ _ hK
theorem wpList_rng (hg : o.guard = none) (m : Operand) (t : TypeId) (hop : o.op = Op.range t m) (kt e : TypeId) (ht : P.underlying t = some (.map kt e)) (b : Nat) (l : List (κ × ν)) (hm : a.eval m = .map (some b)) (h : MapAt E w b l)
  (hK : ∀ w', IterAt E w' b w.heap.size l l → w.grownBy w' none → w'.heap.size = w.heap.size + 1 → wpList P ops Q rest (a.put o.dst (.pointer (some ⟨w.heap.size, 0, none⟩))) w') : wpList P ops Q (o :: rest) a w := by
 refine wpList_plain hg fun K' hK' => ?_
 obtain ⟨w', hrun, r1, r2, r3⟩ := h.range (P := P) ht
 unfold Oper.wp
 simp [execOp, hop, hm, hrun, Result.andThen]
 exact hK' _ _ (hK w' r1 r2 r3)
theorem wpList_nxt (hg : o.guard = none) (it : Operand) (hop : o.op = Op.next it false) (b r : Nat) (l todo : List (κ × ν)) (hit : a.eval it = .pointer (some ⟨r, 0, none⟩)) (h : IterAt E w b r l todo)
  (hDone : todo = [] → wpList P ops Q rest (a.put o.dst (.tuple #[.bool false])) w)
  (hMore : ∀ j x w', todo[j]? = some x → IterAt E w' b r l (todo.eraseIdx j) → w.grownBy w' (some r) → w'.heap.size = w.heap.size → (Instr.entry (.pointer (some ⟨r, 0, none⟩))).run P w' = .ok (.tuple #[E.ek x.1, E.ev x.2]) w' →
   wpList P ops Q rest (a.put o.dst (.tuple #[.bool true, E.ek x.1, E.ev x.2])) w') : wpList P ops Q (o :: rest) a w := by
 refine wpList_plain hg fun K' hK' => ?_
 unfold Oper.wp
 rcases h.next (P := P) o.type with ⟨h0, hrun⟩ | ⟨j, x, w', hx, hrun, h1, h2, h3, h4⟩
 ·simp [execOp, hop, hit, hrun, Result.andThen]
  exact hK' _ _ (hDone h0)
 ·simp [execOp, hop, hit, hrun, Result.andThen]
  exact hK' _ _ (hMore j x w' hx h1 h2 h3 h4)
end
def encS {ν : Type} (ev : ν → Value) : Enc ByteArray ν := ⟨.string, Value.string, ev, fun _ => trivial, fun a b h => by injection h⟩
def encI {ν : Type} (ev : ν → Value) : Enc Int ν := ⟨.int .i64, Value.int .i64, ev, fun _ => rfl, fun a b h => by injection h⟩
end Go.Proofs.YtmcmlkglkpbnpaaGreat
namespace Go.Proofs.YtmcmlkglkpbnpaaGreat
open Go.RowKit
def crcBit (c : Nat) : Nat := if c % 2 = 1 then (c / 2) ^^^ 2197175160 else c / 2
def crcN : Nat → Nat → Nat
 | 0, c => c
 | k + 1, c => crcN k (crcBit c)
def crcByte (c : Nat) (b : UInt8) : Nat := crcN 8 (c ^^^ b.toNat)
def crcReg (c : Nat) (bs : List UInt8) : Nat := bs.foldl crcByte c
def crc (bs : List UInt8) : Nat := 4294967295 - crcReg 4294967295 bs
theorem crcBit_lt {c : Nat} (h : c < 4294967296) : crcBit c < 4294967296 := by
 unfold crcBit
 split
 ·exact Nat.xor_lt_two_pow (n := 32) (by omega) (by omega)
 ·omega
theorem crcN_lt (k : Nat) : ∀ {c : Nat}, c < 4294967296 → crcN k c < 4294967296 := by
 induction k with
 | zero => exact fun h => h
 | succ k ih => exact fun h => ih (crcBit_lt h)
theorem crcByte_lt {c : Nat} (h : c < 4294967296) (b : UInt8) : crcByte c b < 4294967296 := by
 have := b.toNat_lt
 exact crcN_lt 8 (Nat.xor_lt_two_pow (n := 32) (by omega) (by omega))
theorem crcReg_lt {c : Nat} (h : c < 4294967296) (bs : List UInt8) : crcReg c bs < 4294967296 := by
 induction bs generalizing c with
 | nil => exact h
 | cons b bs ih => exact ih (crcByte_lt h b)
theorem crcReg_append (c : Nat) (a b : List UInt8) : crcReg c (a ++ b) = crcReg (crcReg c a) b := by simp [crcReg]
theorem crcReg_snoc (c : Nat) (a : List UInt8) (b : UInt8) : crcReg c (a ++ [b]) = crcByte (crcReg c a) b := by simp [crcReg]
theorem xor_mod2 (a b : Nat) : (a ^^^ b) % 2 = (a % 2 + b % 2) % 2 := by
 have h := @Nat.xor_mod_two_eq_one a b
 rcases Nat.mod_two_eq_zero_or_one a with ha | ha <;> rcases Nat.mod_two_eq_zero_or_one b with hb | hb <;> rcases Nat.mod_two_eq_zero_or_one (a ^^^ b) with hc | hc <;> rw [ha, hb, hc] <;> rw [ha, hb, hc] at h <;> simp at h ⊢
theorem crcBit_xor (a b : Nat) : crcBit (a ^^^ b) = crcBit a ^^^ crcBit b := by
 have hd : (a ^^^ b) / 2 = a / 2 ^^^ b / 2 := Nat.xor_div_two
 have hm := xor_mod2 a b
 unfold crcBit
 rw [hd]
 rcases Nat.mod_two_eq_zero_or_one a with ha | ha <;> rcases Nat.mod_two_eq_zero_or_one b with hb | hb
 ·rw [if_neg (by omega), if_neg (by omega), if_neg (by omega)]
 ·rw [if_pos (by omega), if_neg (by omega), if_pos (by omega), Nat.xor_assoc]
 ·rw [if_pos (by omega), if_pos (by omega), if_neg (by omega), Nat.xor_assoc, Nat.xor_assoc, Nat.xor_comm (b / 2)]
 ·rw [if_neg (by omega), if_pos (by omega), if_pos (by omega)]
  rw [Nat.xor_assoc, Nat.xor_comm 2197175160 (b / 2 ^^^ 2197175160), Nat.xor_assoc, Nat.xor_self, Nat.xor_zero]
theorem crcN_xor (k : Nat) : ∀ (a b : Nat), crcN k (a ^^^ b) = crcN k a ^^^ crcN k b := by
 induction k with
 | zero => exact fun _ _ => rfl
 | succ k ih => exact fun a b => by simp only [crcN, crcBit_xor, ih]
theorem crcN_high (k : Nat) : ∀ (c : Nat), crcN k (c * 2 ^ k) = c := by
 induction k with
 | zero => intro c; simp [crcN]
 | succ k ih =>
  intro c
  have h1 : crcBit (c * 2 ^ (k + 1)) = c * 2 ^ k := by
   unfold crcBit
   have e : c * 2 ^ (k + 1) = (c * 2 ^ k) * 2 := by rw [Nat.pow_succ, Nat.mul_assoc]
   rw [e]
   rw [if_neg (by omega)]
   omega
  rw [crcN, h1, ih]
theorem split256 (c : Nat) : c = (c % 256) ^^^ (c / 256 * 2 ^ 8) := by
 have h := Nat.shiftLeft_add_eq_or_of_lt (b := c % 256) (i := 8) (by omega) (c / 256)
 have h2 : (c % 256) ^^^ (c / 256 * 2 ^ 8) = (c % 256) ||| (c / 256 * 2 ^ 8) := by
  apply Nat.eq_of_testBit_eq
  intro i
  rw [Nat.testBit_xor, Nat.testBit_or]
  rcases Nat.lt_or_ge i 8 with hi | hi
  ·have : (c / 256 * 2 ^ 8).testBit i = false := by rw [Nat.testBit_mul_two_pow]; simp; omega
   rw [this]; simp
  ·have : (c % 256).testBit i = false := Nat.testBit_lt_two_pow (Nat.lt_of_lt_of_le (show c % 256 < 2 ^ 8 by omega) (Nat.pow_le_pow_right (by decide) hi))
   rw [this]; simp
 rw [h2, Nat.or_comm, ← Nat.shiftLeft_eq, ← h, Nat.shiftLeft_eq]
 omega
theorem crcN8_split (c : Nat) : crcN 8 c = crcN 8 (c % 256) ^^^ c / 256 := by
 conv => lhs; rw [split256 c]
 rw [crcN_xor, crcN_high]
theorem crcByte_table (c : Nat) (b : UInt8) : crcByte c b = crcN 8 ((c % 256) ^^^ b.toNat) ^^^ c / 256 := by
 have hb := b.toNat_lt
 unfold crcByte
 rw [crcN8_split]
 have h1 : (c ^^^ b.toNat) % 256 = (c % 256) ^^^ b.toNat := by
  have := Nat.xor_mod_two_pow (a := c) (b := b.toNat) (n := 8)
  rw [show (2 : Nat) ^ 8 = 256 by decide] at this
  rw [this, Nat.mod_eq_of_lt hb]
 have h2 : (c ^^^ b.toNat) / 256 = c / 256 := by
  have := Nat.shiftRight_xor_distrib (a := c) (b := b.toNat) (i := 8)
  rw [Nat.shiftRight_eq_div_pow, Nat.shiftRight_eq_div_pow, Nat.shiftRight_eq_div_pow, show (2 : Nat) ^ 8 = 256 by decide] at this
  rw [this, show b.toNat / 256 = 0 by omega, Nat.xor_zero]
 rw [h1, h2]
/-! ## the program's words -/
theorem and_one32 (c : Nat) (h : c < 4294967296) : bits .and .u32 (c : Int) 1 = ((c % 2 : Nat) : Int) := by
 have := u32_and_nat c 1 h (by decide)
 rw [show ((1 : Nat) : Int) = 1 by rfl] at this
 rw [this, Nat.and_one_is_mod]
theorem divide_step (c : Nat) (h : c < 4294967296) :
  bits BinOp.xor IntKind.u32 ((c : Int) / 2) (bits BinOp.and IntKind.u32 2197175160 (-(bits BinOp.and IntKind.u32 (c : Int) 1) % 4294967296)) = (crcBit c : Int) := by
 rw [and_one32 c h, show ((c : Int) / 2) = ((c / 2 : Nat) : Int) by omega]
 unfold crcBit
 rcases Nat.mod_two_eq_zero_or_one c with hc | hc
 ·rw [hc, if_neg (by omega)]
  have e : bits BinOp.and IntKind.u32 2197175160 (-((0 : Nat) : Int) % 4294967296) = ((0 : Nat) : Int) := by decide +kernel
  rw [e, u32_xor_nat _ _ (by omega) (by omega), Nat.xor_zero]
 ·rw [hc, if_pos (by omega)]
  have e : bits BinOp.and IntKind.u32 2197175160 (-((1 : Nat) : Int) % 4294967296) = ((2197175160 : Nat) : Int) := by decide +kernel
  rw [e, u32_xor_nat _ _ (by omega) (by omega)]
theorem xor_byte32 (c : Nat) (b : UInt8) (h : c < 4294967296) : bits .xor .u32 (c : Int) (b.toNat : Int) = ((c ^^^ b.toNat : Nat) : Int) := by
 have := b.toNat_lt
 exact u32_xor_nat c _ h (by omega)
theorem table_step (c : Nat) (b : UInt8) (h : c < 4294967296) : bits .xor .u32 ((crcN 8 ((c % 256) ^^^ b.toNat) : Nat) : Int) ((c : Int) / 256) = (crcByte c b : Int) := by
 have hb := b.toNat_lt
 have hx : (c % 256) ^^^ b.toNat < 4294967296 := Nat.xor_lt_two_pow (n := 32) (by omega) (by omega)
 rw [show ((c : Int) / 256) = ((c / 256 : Nat) : Int) by omega, u32_xor_nat _ _ (crcN_lt 8 hx) (by omega), crcByte_table]
theorem xor_byte8 (c : Nat) (b : UInt8) : bits .xor .u8 ((c : Int) % 256) (b.toNat : Int) = (((c % 256) ^^^ b.toNat : Nat) : Int) := by
 have hb := b.toNat_lt
 rw [show ((c : Int) % 256) = ((c % 256 : Nat) : Int) by omega]
 exact u8_xor_nat _ _ (by omega) hb
theorem xor8_lt (c : Nat) (b : UInt8) : (c % 256) ^^^ b.toNat < 256 := Nat.xor_lt_two_pow (n := 8) (by omega) b.toNat_lt
end Go.Proofs.YtmcmlkglkpbnpaaGreat
namespace Go.Proofs.YtmcmlkglkpbnpaaGreat
open Go.RowKit
def hd (n : Nat) : List UInt8 := [UInt8.ofNat (n / 16777216), UInt8.ofNat (n / 65536), UInt8.ofNat (n / 256), UInt8.ofNat n]
def tl (n : Nat) : List UInt8 := [UInt8.ofNat n, UInt8.ofNat (n / 256), UInt8.ofNat (n / 65536), UInt8.ofNat (n / 16777216)]
def be4 (a b c d : UInt8) : Nat := a.toNat * 16777216 + b.toNat * 65536 + c.toNat * 256 + d.toNat
theorem hd_length (n : Nat) : (hd n).length = 4 := rfl
theorem tl_length (n : Nat) : (tl n).length = 4 := rfl
theorem be4_lt (a b c d : UInt8) : be4 a b c d < 4294967296 := by
 have := a.toNat_lt; have := b.toNat_lt; have := c.toNat_lt; have := d.toNat_lt
 unfold be4; omega
theorem ofNat_eq {a : UInt8} {n : Nat} (h : n % 256 = a.toNat) : UInt8.ofNat n = a := by
 apply UInt8.toNat_inj.1
 rw [UInt8.toNat_ofNat']
 exact h
theorem tl_be4 (a b c d : UInt8) : tl (be4 d c b a) = [a, b, c, d] := by
 have := a.toNat_lt; have := b.toNat_lt; have := c.toNat_lt; have := d.toNat_lt
 unfold tl be4
 rw [ofNat_eq (a := a) (by omega), ofNat_eq (a := b) (by omega), ofNat_eq (a := c) (by omega), ofNat_eq (a := d) (by omega)]
theorem be4_hd (n : Nat) (h : n < 4294967296) : be4 (UInt8.ofNat (n / 16777216)) (UInt8.ofNat (n / 65536)) (UInt8.ofNat (n / 256)) (UInt8.ofNat n) = n := by
 unfold be4
 simp only [UInt8.toNat_ofNat']
 omega
theorem tl_iff (n : Nat) (h : n < 4294967296) (a b c d : UInt8) : tl n = [a, b, c, d] ↔ n = be4 d c b a := by
 constructor
 ·intro e
  unfold tl at e
  simp only [List.cons.injEq, and_true] at e
  obtain ⟨e1, e2, e3, e4⟩ := e
  rw [← e1, ← e2, ← e3, ← e4, be4_hd n h]
 ·rintro rfl
  exact tl_be4 a b c d
def frame (bs : List UInt8) : List UInt8 := hd bs.length ++ bs ++ tl (crc (hd bs.length ++ bs))
theorem frame_length (bs : List UInt8) : (frame bs).length = bs.length + 8 := by
 simp [frame, hd_length, tl_length]; omega
theorem crc_lt (bs : List UInt8) : crc bs < 4294967296 := by unfold crc; omega
def headOf (p : List UInt8) : Nat := be4 (p.getD 0 0) (p.getD 1 0) (p.getD 2 0) (p.getD 3 0)
def sumAt (p : List UInt8) (n : Nat) : Nat := be4 (p.getD (n + 3) 0) (p.getD (n + 2) 0) (p.getD (n + 1) 0) (p.getD n 0)
def opn (p : List UInt8) : List UInt8 × Nat × Nat :=
 if p.length < 4 then ([], 0, 3)
 else if 1048576 < headOf p then ([], 0, 1)
 else if p.length < headOf p + 8 then ([], 0, 3)
 else if crc (p.take (4 + headOf p)) = sumAt p (4 + headOf p) then ((p.drop 4).take (headOf p), headOf p + 8, 0)
 else ([], 0, 12)
theorem opn_size (p : List UInt8) (h : (opn p).2.2 = 0) : 8 ≤ (opn p).2.1 ∧ (opn p).2.1 ≤ p.length ∧ (opn p).1.length + 8 = (opn p).2.1 := by
 unfold opn at *
 split at h
 ·simp at h
 ·rename_i h1
  split at h
  ·simp at h
  ·rename_i h2
   split at h
   ·simp at h
   ·rename_i h3
    split at h
    ·rename_i h4
     rw [if_neg h1, if_neg h2, if_neg h3, if_pos h4]
     simp only [List.length_take, List.length_drop]
     omega
    ·simp at h
def frsF : Nat → List UInt8 → List (List UInt8) × Nat × Nat
 | 0, _ => ([], 0, 0)
 | f + 1, p =>
  if p.length = 0 then ([], 0, 0)
  else if (opn p).2.2 = 0 then
   ((opn p).1 :: (frsF f (p.drop (opn p).2.1)).1, (opn p).2.1 + (frsF f (p.drop (opn p).2.1)).2.1, (frsF f (p.drop (opn p).2.1)).2.2)
  else ([], 0, (opn p).2.2)
def frs (p : List UInt8) : List (List UInt8) × Nat × Nat := frsF p.length p
theorem frsF_more (f g : Nat) (p : List UInt8) (hf : p.length ≤ f) (hg : p.length ≤ g) : frsF f p = frsF g p := by
 induction f generalizing g p with
 | zero =>
  have : p = [] := List.eq_nil_of_length_eq_zero (by omega)
  subst this
  cases g <;> simp [frsF]
 | succ f ih =>
  cases g with
  | zero =>
   have : p = [] := List.eq_nil_of_length_eq_zero (by omega)
   subst this
   simp [frsF]
  | succ g =>
   unfold frsF
   by_cases h0 : p.length = 0
   ·rw [if_pos h0, if_pos h0]
   ·rw [if_neg h0, if_neg h0]
    by_cases h1 : (opn p).2.2 = 0
    ·have hs := opn_size p h1
     rw [if_pos h1, if_pos h1, ih g (p.drop (opn p).2.1) (by rw [List.length_drop]; omega) (by rw [List.length_drop]; omega)]
    ·rw [if_neg h1, if_neg h1]
theorem frs_nil : frs [] = ([], 0, 0) := rfl
theorem frs_err (p : List UInt8) (h0 : 0 < p.length) (h : (opn p).2.2 ≠ 0) : frs p = ([], 0, (opn p).2.2) := by
 unfold frs
 obtain ⟨n, hn⟩ : ∃ n, p.length = n + 1 := ⟨p.length - 1, by omega⟩
 rw [hn, frsF, if_neg (by omega), if_neg h]
theorem frs_ok (p : List UInt8) (h0 : 0 < p.length) (h : (opn p).2.2 = 0) :
  frs p = ((opn p).1 :: (frs (p.drop (opn p).2.1)).1, (opn p).2.1 + (frs (p.drop (opn p).2.1)).2.1, (frs (p.drop (opn p).2.1)).2.2) := by
 have hs := opn_size p h
 conv => lhs; unfold frs
 obtain ⟨n, hn⟩ : ∃ n, p.length = n + 1 := ⟨p.length - 1, by omega⟩
 rw [hn, frsF, if_neg (by omega), if_pos h]
 unfold frs
 rw [frsF_more n _ (p.drop (opn p).2.1) (by rw [List.length_drop]; omega) (Nat.le_refl _)]
end Go.Proofs.YtmcmlkglkpbnpaaGreat
