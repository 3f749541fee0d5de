/-
  append of a string's bytes onto a row of the call's own, with word of where the row then lies; bytes as a string.
-/
import Derived.Test.YtmcmlkglkpbnpaaGreatQaa
import Derived.Test.YtmcmlkglkpbnpaaGreatQae
import Derived.WalkSmall
import Derived.Lib.AppendStr
namespace Go.Proofs.YtmcmlkglkpbnpaaGreat
open Go.RowKit
def mk (mask a L : Nat) : Nat → Nat
 | 0 => 0
 | k + 1 => if mask / 2 ^ k % 2 = 1 ∧ a + k < 8 * L then mk mask a L k ^^^ 2 ^ k else mk mask a L k
end Go.Proofs.YtmcmlkglkpbnpaaGreat
namespace Go.Proofs.YtmcmlkglkpbnpaaGreat
open Go.RowKit
def jn (ls : List (List UInt8)) : List UInt8 := ls.flatMap frame
end Go.Proofs.YtmcmlkglkpbnpaaGreat
namespace Go.Proofs.YtmcmlkglkpbnpaaGreat
open Go.RowKit
def I64 (n : Int) : Prop := -9223372036854775808 ≤ n ∧ n ≤ 9223372036854775807
theorem bits_or_u64 (a b : Nat) (ha : a < 18446744073709551616) (hb : b < 18446744073709551616) : bits .or .u64 (a : Int) (b : Int) = ((a ||| b : Nat) : Int) := u64_or_nat a b ha hb
theorem andNot128 (b : UInt8) : bits .andNot .u8 (b.toNat : Int) 128 = ((b.toNat % 128 : Nat) : Int) := by
 have all : ∀ k : Fin 256, bits .andNot .u8 (k.val : Int) 128 = ((k.val % 128 : Nat) : Int) := by decide +kernel
 exact all ⟨b.toNat, b.toNat_lt⟩
theorem pow_int (k : Nat) : (2 : Int) ^ (7 * k) = ((128 ^ k : Nat) : Int) := by
 rw [Int.natCast_pow, Int.pow_mul]
 rfl
theorem num_step (acc k : Nat) (b : UInt8) (hk : k ≤ 9) (ha : acc < 128 ^ k) (h9 : 9 ≤ k → b.toNat ≤ 1) :
  bits BinOp.or IntKind.u64 (acc : Int) (IntKind.u64.wrap (IntKind.u64.wrap (bits BinOp.andNot IntKind.u8 (b.toNat : Int) 128) * 2 ^ (7 * k))) = ((acc + b.toNat % 128 * 128 ^ k : Nat) : Int) := by
 have hb := b.toNat_lt
 have hp : 128 ^ k ≤ 128 ^ 9 := Nat.pow_le_pow_right (by decide) hk
 have hbound : acc + b.toNat % 128 * 128 ^ k < 18446744073709551616 := by
  rcases Nat.lt_or_ge k 9 with h | h
  ·have hp8 : 128 ^ k ≤ 128 ^ 8 := Nat.pow_le_pow_right (by decide) (by omega)
   have : b.toNat % 128 * 128 ^ k ≤ 127 * 128 ^ 8 := Nat.mul_le_mul (by omega) hp8
   omega
  ·have := h9 h
   have : b.toNat % 128 * 128 ^ k ≤ 1 * 128 ^ 9 := Nat.mul_le_mul (by omega) hp
   omega
 have e1 : IntKind.u64.wrap (bits BinOp.andNot IntKind.u8 (b.toNat : Int) 128) = ((b.toNat % 128 : Nat) : Int) := by
  rw [andNot128, IntKind.wrap_u64]; omega
 have e2 : IntKind.u64.wrap (((b.toNat % 128 : Nat) : Int) * 2 ^ (7 * k)) = ((b.toNat % 128 * 128 ^ k : Nat) : Int) := by
  rw [pow_int, ← Int.natCast_mul, IntKind.wrap_u64]; omega
 rw [e1, e2, bits_or_u64 acc _ (by omega) (by omega)]
 congr 1
 have e3 : b.toNat % 128 * 128 ^ k = (b.toNat % 128) <<< (7 * k) := by
  rw [Nat.shiftLeft_eq, Nat.pow_mul]
 have e4 : acc < 2 ^ (7 * k) := by rw [Nat.pow_mul]; exact ha
 rw [e3, Nat.or_comm, Nat.add_comm, Nat.shiftLeft_add_eq_or_of_lt e4]
theorem num_step_sum (acc k : Nat) (b : UInt8) (hk : k ≤ 9) (ha : acc < 128 ^ k) (h9 : 9 ≤ k → b.toNat ≤ 1) :
  acc + b.toNat % 128 * 128 ^ k < 18446744073709551616 := by
 have hb := b.toNat_lt
 have hp : 128 ^ k ≤ 128 ^ 9 := Nat.pow_le_pow_right (by decide) hk
 rcases Nat.lt_or_ge k 9 with h | h
 ·have hp8 : 128 ^ k ≤ 128 ^ 8 := Nat.pow_le_pow_right (by decide) (by omega)
  have : b.toNat % 128 * 128 ^ k ≤ 127 * 128 ^ 8 := Nat.mul_le_mul (by omega) hp8
  omega
 ·have := h9 h
  have : b.toNat % 128 * 128 ^ k ≤ 1 * 128 ^ 9 := Nat.mul_le_mul (by omega) hp
  omega
end Go.Proofs.YtmcmlkglkpbnpaaGreat
namespace Go.Proofs.YtmcmlkglkpbnpaaGreat
open Go.RowKit
section
variable {P : Program} (w : World)
theorem run_append_str (base : Nat) (t u ty e : TypeId) (i : TypeInfo) (ht : P.underlying t = some (.slice e)) (hu : P.underlying u = some .string) (hi : P.info? e = some i) (hz : i.zero = some (.int .u8 0))
  (hsize : i.size = 1) (hby : i.bytes = 1)
  (v : Value) (n : Nat) (xs : List Value) (hown : w.ownsRow base e 1 v n xs) (s : ByteArray)
  (h63 : n + s.size ≤ maxLen) (hbytes : n + s.size ≤ 140737488355328) (hbase : base ≤ w.heap.size) :
  ∃ v' w', (Builtin.append_ #[t, u] ty #[v, .string s]).run P w = .ok v' w' ∧ w'.ownsRow base e 1 v' (n + s.size) (xs ++ u8s s.data.toList) ∧ w.grownBy w' v.ownBlock ∧
   (v'.ownBlock = v.ownBlock ∨ v'.ownBlock = some w.heap.size) := by
 obtain ⟨v', w', hrun, h2, h3, h4⟩ := Lib.run_append_own_string (P := P) w base t u ty e i ht hu hi hz hsize hby v n xs hown s h63 hbytes hbase
 refine ⟨v', w', hrun, h2, h3, ?_⟩
 rcases hown.2 with ⟨rfl, rfl⟩ | ⟨g, cap, cur, rfl, _, hg, hnc, hcm, hcs, htake⟩
 ·by_cases hm : s.size = 0
  ·left; rw [h4.2 ⟨rfl, hm⟩]
  ·have hr := run_append_nil_string (P := P) w t u ty e i (.int .u8 0) ht hu hi hz s (by omega) (by simp only [maxLen] at h63; omega) (by rw [hby]; omega)
   rw [hr] at hrun
   injection hrun with hv
   subst hv
   right; rfl
 ·by_cases hroom : n + s.size ≤ cap
  ·have hr := Lib.run_append_room_string (P := P) w t u ty e i ht hu hi hsize g n cap cur hg s hroom (by omega)
   rw [hr] at hrun
   injection hrun with hv
   subst hv
   left; rfl
  ·have hxl : xs.length = n := by simpa using hown.1
   have hr := Lib.run_append_grow_string (P := P) w t u ty e i (.int .u8 0) ht hu hi hz ⟨g, 0, none⟩ n cap xs (by rw [hsize]; simpa using hxl) (hown.cells (g := g) rfl) s (by omega) (by simp only [maxLen] at h63; omega) (by rw [hby]; exact growslice_fits (by omega) (by omega))
   rw [hr] at hrun
   injection hrun with hv
   subst hv
   right; rfl
theorem wpList_append_str {ops : Array Oper} {rest : List Oper} {o : Oper} {a : Act} {Q : Exit → Act → World → Prop} (hgd : o.guard = none) (sl x : Operand) (t u : TypeId)
  (ho : o.op = .call { callee := .builtin .append, args := #[sl, x], argTypes := #[t, u] })
  (base : Nat) (e : TypeId) (i : TypeInfo) (ht : P.underlying t = some (.slice e)) (hu : P.underlying u = some .string) (hi : P.info? e = some i) (hz : i.zero = some (.int .u8 0))
  (hsize : i.size = 1) (hby : i.bytes = 1)
  (v : Value) (n : Nat) (xs : List Value) (hs : a.eval sl = v) (hown : w.ownsRow base e 1 v n xs) (s : ByteArray) (hx : a.eval x = .string s)
  (h63 : n + s.size ≤ maxLen) (hbytes : n + s.size ≤ 140737488355328) (hbase : base ≤ w.heap.size)
  (h : ∀ v' w', w'.ownsRow base e 1 v' (n + s.size) (xs ++ u8s s.data.toList) → w.grownBy w' v.ownBlock → (v'.ownBlock = v.ownBlock ∨ v'.ownBlock = some w.heap.size) → wpList P ops Q rest (a.put o.dst v') w') : wpList P ops Q (o :: rest) a w := by
 refine wpList_plain hgd fun K hK => ?_
 obtain ⟨v', w', hr, h2, h3, h4⟩ := run_append_str (P := P) w base t u o.type e i ht hu hi hz hsize hby v n xs hown s h63 hbytes hbase
 unfold Oper.wp execOp
 simp only [ho, resolve, invoke, builtin, Sem.run_bind, Sem.run_pure, Result.andThen_ok, List.map_toArray, List.map_cons, List.map_nil, hs, hx, hr]
 exact hK _ _ (h v' w' h2 h3 h4)
theorem run_string_of (src e : TypeId) (hs : P.underlying src = some (.slice e)) (he : P.underlying e = some (.int .u8)) (A : Option Addr) (B c : Nat) (bs : List UInt8) (hr : Rd w B A (u8s bs)) (dst : TypeId)
  (hd : P.underlying dst = some .string) : (convert src dst (.slice A bs.length c)).run P w = .ok (.string ⟨bs.toArray⟩) w := by
 rcases Nat.eq_zero_or_pos bs.length with h0 | h0
 ·have hb : bs = [] := List.eq_nil_of_length_eq_zero h0
  subst hb
  cases A with
  | none => exact run_convert_bytes_nil w src e hs he _ c dst hd
  | some ad =>
   show (convert src dst (.slice (some ad) 0 c)).run P w = _
   rw [run_convert_bytes_string w src dst e _ 0 c hs he hd]
   exact run_bytesToString w ad 0 c [] (by simp [loadCells, loadCellsFrom])
 ·obtain ⟨ad, rfl, _, hc⟩ := hr (u8s_ne (by rintro rfl; simp at h0))
  rw [run_convert_bytes_string w src dst e _ bs.length c hs he hd]
  have hl : (loadCells ad bs.length).run P w = .ok ((bs.map fun b => (b.toNat : Int)).map (Value.int .u8)).toArray w := by
   have := run_loadCells_list (P := P) w ad (u8s bs) hc
   rw [u8s_length] at this
   rw [this]
   simp [u8s, Function.comp_def]
  rw [run_bytesToString w ad bs.length c _ hl, foldl_push_bytes]
  congr 2
  simp [ByteArray.empty, ByteArray.emptyWithCapacity, Function.comp_def]
  rfl
end
end Go.Proofs.YtmcmlkglkpbnpaaGreat
