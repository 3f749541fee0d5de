/-
  The contracts of octet.fold, octet.unfold, octet.Put, octet.PutInt, octet.PutText, quiverref01.PutInt, quiverref01.PutText.
-/
import Derived.Test.YtgilkaaholkgfaaOct1
import Derived.Test.YtgilkaaholkgfaaBits
import Derived.Test.YtgilkaaholkgfaaStr
namespace Go.Proofs.Ytgilkaaholkgfaa
open Go.RowKit

theorem u64_int {n : Nat} (h : U64 n) : (n : Int) ≤ 18446744073709551615 := by unfold U64 at h; omega

theorem putAll_take (l : List Nat) (k : Nat) (h : k < l.length) : putAll (l.take (k + 1)) = putAll (l.take k) ++ putNum l[k] := by
  rw [List.take_succ_eq_append_getElem h, putAll_snoc]
theorem putAll_take_length (l : List Nat) (k : Nat) : (putAll (l.take k)).length ≤ 10 * l.length := by
  have h1 := putAll_length (l.take k)
  have h2 : (l.take k).length ≤ l.length := by simp; omega
  omega

/-- A step of a loop that appends to a row of the call's own: where the row lies. -/
theorem where_trans {w1 wr w2 : World} {v u v' : Value} (hg : w1.grownBy wr v.ownBlock) (hw : u.ownBlock = v.ownBlock ∨ ∃ g, u.ownBlock = some g ∧ w1.heap.size ≤ g)
    (hg2 : wr.grownBy w2 u.ownBlock) (hw2 : v'.ownBlock = u.ownBlock ∨ ∃ g, v'.ownBlock = some g ∧ wr.heap.size ≤ g) :
    w1.grownBy w2 v.ownBlock ∧ (v'.ownBlock = v.ownBlock ∨ ∃ g, v'.ownBlock = some g ∧ w1.heap.size ≤ g) := by
  have hs := hg.size
  constructor
  · rcases hw with hw | ⟨g, hw, hgs⟩
    · exact gb_trans hg hg2 (.inl hw)
    · exact gb_trans hg hg2 (.inr (.inr ⟨g, hw, hgs⟩))
  · rcases hw2 with hw2 | ⟨g, hw2, hgs⟩
    · rcases hw with hw | ⟨g, hw, hgs⟩
      · exact .inl (hw2.trans hw)
      · exact .inr ⟨g, hw2.trans hw, hgs⟩
    · exact .inr ⟨g, hw2, by omega⟩

/-- New bytes: a row of the call's own, nothing else has turned. -/
def NewBytes (base : Nat) (bs : List UInt8) (w : World) (e : Ending) (w' : World) : Prop :=
  ∃ v, e = .returned v ∧ w'.ownsRow base 5 1 v bs.length (u8s bs) ∧ w.grownBy w' none

/-- A row that lies above what was there, written to since: nothing that was there has turned. -/
theorem gb_new {w w1 w2 : World} {v : Value} {t : TypeId} {n : Nat} {xs : List Value} (hg : w.grownBy w1 none) (hown : w1.ownsRow w.heap.size t 1 v n xs) (hg2 : w1.grownBy w2 v.ownBlock) : w.grownBy w2 none :=
  gb_trans hg hg2 (by
    rcases hv : v.ownBlock with _ | g
    · exact .inr (.inl rfl)
    · exact .inr (.inr ⟨g, rfl, (hown.lt g hv).1⟩))

theorem zig_eq (n : Int) : (zig n : Int) = if n < 0 then -2 * n - 1 else 2 * n := by
  unfold zig
  split <;> omega

/-- append of a string's bytes, at bytes. -/
theorem app8s {w : World} {ops : Array Oper} {rest : List Oper} {o : Oper} {a : Act} {Q : Exit → Act → World → Prop} {s x : Operand} {base n : Nat} {v : Value} {xs : List Value} {t : ByteArray}
    (hown : w.ownsRow base 5 1 v n xs) (hsz : n + t.size ≤ 2000000000) (hbase : base ≤ w.heap.size)
    (hgd : o.guard = none) (ho : o.op = .call { callee := .builtin .append, args := #[s, x], argTypes := #[22, 9] }) (hs : a.eval s = v) (hx : a.eval x = .string t)
    (h : ∀ v' w', w'.ownsRow base 5 1 v' (n + t.size) (xs ++ u8s t.data.toList) → w.grownBy w' v.ownBlock → (v'.ownBlock = v.ownBlock ∨ v'.ownBlock = some w.heap.size) → wpList Try.prog ops Q rest (a.put o.dst v') w') :
    wpList Try.prog ops Q (o :: rest) a w := by
  obtain ⟨i0, hi, hz0, hz1, hz2⟩ := info_parts Try.info8
  exact wpList_append_str w hgd s x 22 9 ho base 5 i0 Try.underlying22 Try.underlying9 hi hz0 hz1 hz2 v n xs hs hown t hx (by unfold maxLen; omega) (by omega) hbase h

/-- The bytes of a text with its length ahead. -/
def putStr (s : ByteArray) : List UInt8 := putNum s.size ++ s.data.toList
theorem putStr_length (s : ByteArray) : (putStr s).length ≤ 10 + s.size := by
  have := putNum_length s.size
  have e : s.data.toList.length = s.size := by rw [Array.length_toList]; rfl
  unfold putStr
  rw [List.length_append, e]; omega
def putStrs (l : List ByteArray) : List UInt8 := l.flatMap putStr
def sumLen (l : List ByteArray) : Nat := (l.map ByteArray.size).sum
theorem putStrs_take (l : List ByteArray) (k : Nat) (h : k < l.length) : putStrs (l.take (k + 1)) = putStrs (l.take k) ++ putStr l[k] := by
  unfold putStrs
  rw [List.take_succ_eq_append_getElem h, List.flatMap_append, List.flatMap_cons, List.flatMap_nil, List.append_nil]
theorem putStrs_length (l : List ByteArray) : (putStrs l).length ≤ 10 * l.length + sumLen l := by
  induction l with
  | nil => simp [putStrs]
  | cons a l ih => have := putStr_length a; simp [putStrs, sumLen] at *; omega
theorem sumLen_take (l : List ByteArray) (k : Nat) (h : k < l.length) : sumLen (l.take (k + 1)) = sumLen (l.take k) + l[k].size := by
  unfold sumLen
  rw [List.take_succ_eq_append_getElem h, List.map_append, List.sum_append]; simp
theorem sumLen_take_le (l : List ByteArray) (k : Nat) : sumLen (l.take k) ≤ sumLen l := by
  have : sumLen l = sumLen (l.take k) + sumLen (l.drop k) := by
    conv => lhs; rw [← List.take_append_drop k l]
    simp only [sumLen, List.map_append, List.sum_append]
  omega
theorem sumLen_elem (l : List ByteArray) (k : Nat) (h : k < l.length) : l[k].size ≤ sumLen l := by
  have := sumLen_take l k h
  have := sumLen_take_le l (k + 1)
  omega

/-- Two steps on one row. -/
theorem own_step {w w2 w3 : World} {v v2 v3 : Value} (hg2 : w.grownBy w2 v.ownBlock) (hw2 : v2.ownBlock = v.ownBlock ∨ ∃ g, v2.ownBlock = some g ∧ w.heap.size ≤ g)
    (hg3 : w2.grownBy w3 v2.ownBlock) (hw3 : v3.ownBlock = v2.ownBlock ∨ v3.ownBlock = some w2.heap.size) : w.grownBy w3 v.ownBlock ∧ (v3.ownBlock = v.ownBlock ∨ ∃ g, v3.ownBlock = some g ∧ w.heap.size ≤ g) :=
  where_trans hg2 hw2 hg3 (hw3.imp id fun h => ⟨_, h, Nat.le_refl _⟩)

set_option maxHeartbeats 400000 in
set_option maxRecDepth 100000 in
theorem refPutText_any (v : Value) (m : Nat) (s : ByteArray) (xs : List Value) (w : World) (base : Nat) (hb : base ≤ w.heap.size)
    (hown : w.ownsRow base 5 1 v m xs) (hm : m ≤ 100000000) (hs : s.size ≤ 100000000) :
    Calls Try.prog 85 #[v, .string s] w (OwnNum base v m xs (putStr s) w) := by
  have hu : U64 s.size := by unfold U64; omega
  have hpl := putNum_length s.size
  go_enter Try.func85, Try.ntmps85
  go_wp2_with (first
    | (go_at_call 101; refine (refPut_any _ _ _ _ _ base hb hown hu (by omega)).mono ?_; rintro e w2 ⟨v2, rfl, hown2, hg2, hw2⟩; have hs2 := hg2.size)
    | (at_builtin; refine app8s hown2 (by omega) (by omega) rfl rfl rfl rfl ?_; intro v3 w3 hown3 hg3 hw3))
  go_ret
  have R := own_step hg2 hw2 hg3 hw3
  exact ⟨_, rfl, by simpa [putStr, u8s, Nat.add_assoc] using hown3, R.1, R.2⟩

set_option maxHeartbeats 1000000 in
set_option maxRecDepth 100000 in
theorem putText_any (A AL : Option Addr) (c cl : Nat) (bs : List UInt8) (l : List ByteArray) (w : World)
    (hr : Rd w w.heap.size A (u8s bs)) (hl : Rd w w.heap.size AL (strs l)) (h1 : bs.length ≤ 100000000) (h2 : l.length ≤ 1000000) (h3 : sumLen l ≤ 100000000) :
    Calls Try.prog 60 #[.slice A bs.length c, .slice AL l.length cl] w (NewBytes w.heap.size (bs ++ putStrs l) w) := by
  go_enter Try.func60, Try.ntmps60
  go_wp2
  go_loop [5, 13] (fun s i => ∃ k z : Nat, k ≤ l.length ∧ z ≤ 10 * k + sumLen (l.take k) ∧ i = .int .i64 k ∧ s = .int .i64 z) (fun _ i => l.length - (intOf i).toNat)
  case atStart => exact ⟨0, 0, by omega, by omega, rfl, rfl⟩
  case round =>
    obtain ⟨k, z, hk, hz, rfl, rfl⟩ := hrel
    have hsk := sumLen_take_le l k
    by_cases hlt : k < l.length
    · obtain ⟨ad, rfl, _, hc⟩ := hl.str hlt
      have hsz := sumLen_elem l k hlt
      have hst := hide (sumLen_take l k hlt)
      have hn := hide (u64_int (n := l[k].size) (by unfold U64; omega))
      go_wp2_with (go_at_call 89; refine (width_any _ _ (by omega) hn.out).mono ?_; rintro e w' ⟨⟨q, hq, rfl⟩, rfl⟩)
      go_round
      case rel => exact ⟨k + 1, z + (q + l[k].size), by omega, by rw [hst.out]; omega, by go_num, by go_num⟩
      case measure => simp [intOf]; omega
    · go_wp2_with (go_at_call 74; refine (grown_any _ _ _ _ _ w.heap.size (Nat.le_refl _) hr (by omega) (by omega)).mono ?_; rintro e w1 ⟨v, rfl, hown, hg⟩)
      have hl1 := hl.grown hg (Nat.le_refl _) (by simp)
      have hs1 := hg.size
      have hown0 := hide hown
      have hg0 := hide hg
      clear hg hk hz hlt hsk
      go_loopw [8, 32] (fun b i wr => ∃ k : Nat, k ≤ l.length ∧ i = .int .i64 k ∧ wr.ownsRow w.heap.size 5 1 b (bs.length + (putStrs (l.take k)).length) (u8s bs ++ u8s (putStrs (l.take k))) ∧ w1.grownBy wr v.ownBlock ∧
          (b.ownBlock = v.ownBlock ∨ ∃ g, b.ownBlock = some g ∧ w1.heap.size ≤ g))
        (fun _ i _ => l.length - (intOf i).toNat)
      case atStart => exact ⟨0, by omega, rfl, by simpa [putStrs, u8s] using hown, gb_refl _ _, .inl rfl⟩
      case round =>
        obtain ⟨k, hk, rfl, hownr, hgr, hwr⟩ := hrel
        have HW := hide hwr
        have hgs := hgr.size
        have hpl := putStrs_length (l.take k)
        have hsk := sumLen_take_le l k
        have htl : (l.take k).length ≤ l.length := by simp; omega
        clear hwr
        by_cases hlt : k < l.length
        · have hlr := hl1.grown hgr (by omega) (fun g hg => (hown0.out.lt g hg).1)
          obtain ⟨ad, rfl, _, hc⟩ := hlr.str hlt
          have hsz := sumLen_elem l k hlt
          have hn : U64 l[k].size := by unfold U64; omega
          have hnl := putNum_length l[k].size
          go_wp2_with (first
            | (go_at_call 90; refine (appendNum_any _ _ _ _ _ w.heap.size (by omega) hownr hn (by omega)).mono ?_; rintro e w2 ⟨v2, rfl, hown2, hg2, hw2⟩; have hs2 := hg2.size)
            | (at_builtin; refine app8s hown2 (by omega) (by omega) rfl rfl rfl rfl ?_; intro v3 w3 hown3 hg3 hw3))
          have R0 := own_step hg2 hw2 hg3 hw3
          have R := where_trans hgr HW.out R0.1 R0.2
          have e1 := hide (putStrs_take l k hlt)
          clear hw2 hg2 hg3 hw3 R0
          go_roundw
          case rel => exact ⟨k + 1, by omega, by go_num, by rw [e1.out]; simpa [putStr, u8s, Nat.add_assoc] using hown3, R.1, R.2⟩
          case measure => simp [intOf]; omega
        · go_wp2_with (fail)
          go_ret
          have e : l.take k = l := List.take_of_length_le (by omega)
          rw [e] at hownr
          exact ⟨_, rfl, by simpa [u8s] using hownr, gb_new hg0.out hown0.out hgr⟩

end Go.Proofs.Ytgilkaaholkgfaa
