/-
  The contracts of octet.fold, octet.unfold, octet.Put, octet.PutInt, octet.PutText, quiverref01.PutInt, quiverref01.PutText.
-/
import Derived.Test.YtmcmlkglkpbnpaaGreatRows
import Derived.Test.YtmcmlkglkpbnpaaGreatQad
import Derived.Test.YtmcmlkglkpbnpaaGreatQaa
import Derived.Test.YtmcmlkglkpbnpaaGreatQae
import Derived.Test.YtmcmlkglkpbnpaaGreatQac
namespace Go.Proofs.YtmcmlkglkpbnpaaGreat
open Go.RowKit
theorem Tryz.info8o : (Tryz.prog.info? 5).map (fun i => (i.zero, i.size, i.bytes)) = some (some (.int .u8 0), 1, 1) := by kernel_rfl
theorem app8 {w : World} {ops : Array Oper} {rest : List Oper} {o : Oper} {a : Act} {Q : Exit → Act → World → Prop} {s x : Operand} {base n B m c : Nat} {v : Value} {xs news : List Value} {A : Option Addr}
  (hown : w.ownsRow base 5 1 v n xs) (hr : Rd w B A news) (hl : news.length = m) (h1 : ∀ u ∈ news, u.oneCell' = true) (hsz : n + m ≤ 2000000000) (hbase : base ≤ w.heap.size)
  (hgd : o.guard = none) (ho : o.op = .call { callee := .builtin .append, args := #[s, x], argTypes := #[49, 49] }) (hs : a.eval s = v) (hx : a.eval x = .slice A m c)
  (h : ∀ v' w', w'.ownsRow base 5 1 v' (n + m) (xs ++ news) → w.grownBy w' v.ownBlock → (v'.ownBlock = v.ownBlock ∨ v'.ownBlock = some w.heap.size) → wpList Tryz.prog ops Q rest (a.put o.dst v') w') :
  wpList Tryz.prog ops Q (o :: rest) a w := by
 obtain ⟨i0, hi, hz0, hz1, hz2⟩ := info_parts Tryz.info8o
 exact wpList_append_rd w hgd s x 49 ho base 5 i0 (.int .u8 0) 1 1 Tryz.underlying49 hi hz0 hz1 hz2 rfl (by decide) v n xs hs hown B A m c news hx (by omega) hr h1 (by unfold maxLen; omega) (by omega) hbase h
theorem make8 {w : World} {ops : Array Oper} {rest : List Oper} {o : Oper} {a : Act} {Q : Exit → Act → World → Prop} {l c : Operand} (base n : Nat) {C : Int}
  (hC : C = (n : Int)) (hsz : n ≤ 2000000000) (hbase : base ≤ w.heap.size) (hgd : o.guard = none) (ho : o.op = Op.makeSlice 49 l c) (hl : a.eval l = .int .i64 0) (hc : a.eval c = .int .i64 C)
  (h : ∀ w', w'.ownsRow base 5 1 (.slice (some ⟨w.heap.size, 0, none⟩) 0 n) 0 [] → w.grownBy w' none → wpList Tryz.prog ops Q rest (a.put o.dst (.slice (some ⟨w.heap.size, 0, none⟩) 0 n)) w') :
  wpList Tryz.prog ops Q (o :: rest) a w := by
 obtain ⟨i0, hi, hz0, hz1, hz2⟩ := info_parts Tryz.info8o
 exact wpList_make_own w hgd l c 49 ho base 5 i0 (.int .u8 0) 1 Tryz.underlying49 hi hz0 hz1 .i64 .i64 C n hl hc hC (by rw [hz2]; omega) (by unfold maxLen; omega) hbase h
theorem bitLenAux_le (f n : Nat) : Lib.bitLenAux f n ≤ f := by
 induction f generalizing n with
 | zero => simp [Lib.bitLenAux]
 | succ f ih => unfold Lib.bitLenAux; split <;> first | omega | (have := ih (n / 2); omega)
set_option maxHeartbeats 400000 in
theorem width_any (n : Int) (w : World) (h0 : 0 ≤ n) (h1 : n ≤ 18446744073709551615) :
  Calls Tryz.prog 113 #[.int .u64 n] w fun e w' => (∃ k : Nat, k ≤ 10 ∧ e = .returned (.int .i64 k)) ∧ w = w' := by
 have hb : Lib.bitLen n.toNat ≤ 64 := bitLenAux_le 64 _
 generalize hm : Lib.bitLen n.toNat = m at hb
 have Hm : Hid (Lib.bitLen n.toNat = m) := hm
 clear hm
 go_enter Tryz.func113, Tryz.ntmps113
 go_wp2_with (go_at_call 132; refine (Tryz.bits_Len64 _ _ h0 h1).mono ?_; rintro e w' ⟨rfl, rfl⟩; rw [Hm.out])
 go_ret
 exact ⟨⟨(max 1 ((m + 6) / 7)), by omega, by simp; omega⟩, rfl⟩
set_option maxHeartbeats 400000 in
set_option maxRecDepth 100000 in
theorem grown_any (A : Option Addr) (c : Nat) (bs : List UInt8) (size : Int) (w : World) (base : Nat) (hb : base ≤ w.heap.size)
  (hr : Rd w w.heap.size A (u8s bs)) (hs0 : 0 ≤ size) (hs : bs.length + size ≤ 1000000000) :
  Calls Tryz.prog 114 #[.slice A bs.length c, .int .i64 size] w fun e w' => ∃ v, e = .returned v ∧ w'.ownsRow base 5 1 v bs.length (u8s bs) ∧ w.grownBy w' none := by
 obtain ⟨sz, rfl⟩ := Int.eq_ofNat_of_zero_le hs0
 go_enter Tryz.func114, Tryz.ntmps114
 go_wp2_with (first
  | (at_make; refine make8 base (bs.length + sz) (by omega) (by omega) hb rfl rfl rfl rfl ?_; intro w1 hown hg)
  | (at_builtin; have hr1 := hr.grown hg (Nat.le_refl _) (by simp); refine app8 hown hr1 (u8s_length bs) (u8s_cell bs) (by omega) (by have := hg.size; omega) rfl rfl rfl rfl ?_; intro v' w2 hown2 hg2 hwhere))
 simp only [Nat.zero_add, List.nil_append] at hown2
 go_ret
 exact ⟨_, rfl, hown2, gb_trans hg hg2 (.inr (.inr ⟨_, rfl, Nat.le_refl _⟩))⟩
theorem or128 (n : Nat) : bits .or .u8 ((n : Int) % 256) 128 = ((UInt8.ofNat (n % 128 + 128)).toNat : Int) := by
 have all : ∀ k : Fin 256, bits .or .u8 (k.val : Int) 128 = (((k.val % 128 + 128) : Nat) : Int) := by decide +kernel
 have h := all ⟨n % 256, by omega⟩
 simp only at h
 simp only [UInt8.toNat_ofNat']
 rw [show ((n : Int) % 256) = ((n % 256 : Nat) : Int) by omega, h]
 omega
theorem byte_more {w wr w2 : World} {base t k : Nat} {u0 v v' : Value} {xs : List Value} {pre : List UInt8} {m : Nat} {b : UInt8} {x : Int} {u8 : TypeId}
  (hx : x = (b.toNat : Int)) (hg : w.grownBy wr v.ownBlock) (hw : u0.ownBlock = v.ownBlock ∨ ∃ g, u0.ownBlock = some g ∧ w.heap.size ≤ g)
  (hown2 : w2.ownsRow base t 1 v' (m + pre.length + k) (xs ++ u8s pre ++ [Value.int .u8 x])) (hk : k = 1) (hg2 : (wr.alloc (Obj.cells #[Value.int .u8 x] u8)).grownBy w2 u0.ownBlock)
  (hw2 : v'.ownBlock = u0.ownBlock ∨ v'.ownBlock = some (wr.alloc (Obj.cells #[Value.int .u8 x] u8)).heap.size) :
  w2.ownsRow base t 1 v' (m + (pre ++ [b]).length) (xs ++ u8s (pre ++ [b])) ∧ w.grownBy w2 v.ownBlock ∧ (v'.ownBlock = v.ownBlock ∨ ∃ g, v'.ownBlock = some g ∧ w.heap.size ≤ g) := by
 subst hk
 subst hx
 have hs := hg.size
 refine ⟨by simpa [u8s, Nat.add_assoc] using hown2, ?_, ?_⟩
 ·rcases hw with hw | ⟨g, hw, hgs⟩
  ·exact gb_trans (gb_alloc hg _) hg2 (.inl hw)
  ·exact gb_trans (gb_alloc hg _) hg2 (.inr (.inr ⟨g, hw, hgs⟩))
 ·rcases hw2 with hw2 | hw2
  ·rcases hw with hw | ⟨g, hw, hgs⟩
   ·exact .inl (hw2.trans hw)
   ·exact .inr ⟨g, hw2.trans hw, hgs⟩
  ·exact .inr ⟨_, hw2, by simp; omega⟩
def OwnNum (base : Nat) (v : Value) (m : Nat) (xs : List Value) (bs : List UInt8) (w : World) (e : Ending) (w' : World) : Prop :=
 ∃ v', e = .returned v' ∧ w'.ownsRow base 5 1 v' (m + bs.length) (xs ++ u8s bs) ∧ w.grownBy w' v.ownBlock ∧ (v'.ownBlock = v.ownBlock ∨ ∃ g, v'.ownBlock = some g ∧ w.heap.size ≤ g)
set_option maxHeartbeats 400000 in
set_option maxRecDepth 100000 in
theorem appendNum_any (v : Value) (m n : Nat) (xs : List Value) (w : World) (base : Nat) (hb : base ≤ w.heap.size)
  (hown : w.ownsRow base 5 1 v m xs) (hn2 : n ≤ 18446744073709551615) (hm : m ≤ 1000000000) :
  Calls Tryz.prog 115 #[v, .int .u64 n] w (OwnNum base v m xs (putNum n) w) := by
 have Hn : Hid (n < 128 ^ 10) := hide (by omega)
 clear hn2
 go_enter Tryz.func115, Tryz.ntmps115
 go_wp2
 go_loopw [0, 1] (fun b s wr => ∃ (f n' : Nat) (pre : List UInt8), s = .int .u64 n' ∧ f + pre.length ≤ 9 ∧ n' < 128 ^ (f + 1) ∧ putF 9 n = pre ++ putF f n' ∧ wr.ownsRow base 5 1 b (m + pre.length) (xs ++ u8s pre) ∧ w.grownBy wr v.ownBlock ∧ (b.ownBlock = v.ownBlock ∨ ∃ g, b.ownBlock = some g ∧ w.heap.size ≤ g))
  (fun _ s _ => (intOf s).toNat)
 case atStart => exact ⟨9, n, [], rfl, by simp, Hn.out, by simp, by simpa [u8s] using hown, gb_refl _ _, .inl rfl⟩
 case round =>
  obtain ⟨f, n', pre, rfl, hf, hn', hput, hown', hg, hwhere⟩ := hrel
  have HP := hide hput; have HN := hide hn'
  have HW := hide hwhere
  have hgs := hg.size
  clear hput hn' hwhere
  by_cases hlt : n' < 128
  ·go_wp2_with (at_builtin; refine app8 (m := 1) (hown'.alloc _) (Rd.new _ _ _ _ rfl) rfl (cell1 _ _) (by omega) (by simp; omega) rfl rfl rfl rfl ?_; intro v' w2 hown2 hg2 hwhere2)
   go_ret
   have R := byte_more (b := UInt8.ofNat n') (by simp only [UInt8.toNat_ofNat']; omega) hg HW.out hown2 rfl hg2 hwhere2
   have e : putNum n = pre ++ [UInt8.ofNat n'] := by rw [putNum, HP.out, putF_lt _ _ hlt]
   exact ⟨_, rfl, by rw [e]; exact R.1, R.2.1, R.2.2⟩
  ·go_wp2_with (at_builtin; refine app8 (m := 1) (hown'.alloc _) (Rd.new _ _ _ _ rfl) rfl (cell1 _ _) (by omega) (by simp; omega) rfl rfl rfl rfl ?_; intro v' w2 hown2 hg2 hwhere2)
   have R := byte_more (or128 n') hg HW.out hown2 rfl hg2 hwhere2
   clear hown2 hg2 hwhere2
   go_roundw
   case rel =>
    cases f with
    | zero => exact absurd HN.out (by simpa using hlt)
    | succ f => exact ⟨f, n' / 128, pre ++ [UInt8.ofNat (n' % 128 + 128)], by simp, by simp; omega, Nat.div_lt_of_lt_mul (by have := HN.out; rw [Nat.pow_succ] at this; omega), by rw [HP.out, putF_ge _ _ (by omega)]; simp, R.1, R.2.1, R.2.2⟩
   case measure => simp [intOf]; omega
set_option maxHeartbeats 400000 in
set_option maxRecDepth 100000 in
theorem refPut_any (v : Value) (m n : Nat) (xs : List Value) (w : World) (base : Nat) (hb : base ≤ w.heap.size)
  (hown : w.ownsRow base 5 1 v m xs) (hn2 : n ≤ 18446744073709551615) (hm : m ≤ 1000000000) :
  Calls Tryz.prog 134 #[v, .int .u64 n] w (OwnNum base v m xs (putNum n) w) := by
 have Hn : Hid (n < 128 ^ 10) := hide (by omega)
 have hu : U64 n := hn2
 clear hn2
 go_enter Tryz.func134, Tryz.ntmps134
 go_wp2
 go_loopw [0, 1] (fun b s wr => ∃ (f n' : Nat) (pre : List UInt8), s = .int .u64 n' ∧ U64 n' ∧ f + pre.length ≤ 9 ∧ n' < 128 ^ (f + 1) ∧ putF 9 n = pre ++ putF f n' ∧ wr.ownsRow base 5 1 b (m + pre.length) (xs ++ u8s pre) ∧ w.grownBy wr v.ownBlock ∧ (b.ownBlock = v.ownBlock ∨ ∃ g, b.ownBlock = some g ∧ w.heap.size ≤ g))
  (fun _ s _ => (intOf s).toNat)
 case atStart => exact ⟨9, n, [], rfl, hu, by simp, Hn.out, by simp, by simpa [u8s] using hown, gb_refl _ _, .inl rfl⟩
 case round =>
  obtain ⟨f, n', pre, rfl, hu', hf, hn', hput, hown', hg, hwhere⟩ := hrel
  have HP := hide hput; have HN := hide hn'
  have HW := hide hwhere
  have hgs := hg.size
  clear hput hn' hwhere
  by_cases hlt : n' < 128
  ·go_wp2_with (at_builtin; refine app8 (m := 1) (hown'.alloc _) (Rd.new _ _ _ _ rfl) rfl (cell1 _ _) (by omega) (by simp; omega) rfl rfl rfl rfl ?_; intro v' w2 hown2 hg2 hwhere2)
   go_ret
   have R := byte_more (b := UInt8.ofNat n') (by simp only [UInt8.toNat_ofNat']; omega) hg HW.out hown2 rfl hg2 hwhere2
   have e : putNum n = pre ++ [UInt8.ofNat n'] := by rw [putNum, HP.out, putF_lt _ _ hlt]
   exact ⟨_, rfl, by rw [e]; exact R.1, R.2.1, R.2.2⟩
  ·go_wp2_with (at_builtin; refine app8 (m := 1) (hown'.alloc _) (Rd.new _ _ _ _ rfl) rfl (cell1 _ _) (by omega) (by simp; omega) rfl rfl rfl rfl ?_; intro v' w2 hown2 hg2 hwhere2)
   have R := byte_more (b := UInt8.ofNat (n' % 128 + 128)) (by simp only [UInt8.toNat_ofNat']; omega) hg HW.out hown2 rfl hg2 hwhere2
   clear hown2 hg2 hwhere2
   have W := hide (wrap_div128 hu')
   go_roundw
   all_goals rw [W.out]
   case rel =>
    cases f with
    | zero => exact absurd HN.out (by simpa using hlt)
    | succ f => exact ⟨f, n' / 128, pre ++ [UInt8.ofNat (n' % 128 + 128)], rfl, hu'.div, by simp; omega, Nat.div_lt_of_lt_mul (by have := HN.out; rw [Nat.pow_succ] at this; omega), by rw [HP.out, putF_ge _ _ (by omega)]; simp, R.1, R.2.1, R.2.2⟩
   case measure => simp [intOf]; omega
end Go.Proofs.YtmcmlkglkpbnpaaGreat
namespace Go.Proofs.YtmcmlkglkpbnpaaGreat
open Go.RowKit
theorem u64_int {n : Nat} (h : U64 n) : (n : Int) ≤ 18446744073709551615 := by unfold U64 at h; omega
theorem where_trans {w1 wr w2 : World} {v u v' : Value} (hg : w1.grownBy wr v.ownBlock) (hw : u.ownBlock = v.ownBlock ∨ ∃ g, u.ownBlock = some g ∧ w1.heap.size ≤ g)
  (hg2 : wr.grownBy w2 u.ownBlock) (hw2 : v'.ownBlock = u.ownBlock ∨ ∃ g, v'.ownBlock = some g ∧ wr.heap.size ≤ g) :
  w1.grownBy w2 v.ownBlock ∧ (v'.ownBlock = v.ownBlock ∨ ∃ g, v'.ownBlock = some g ∧ w1.heap.size ≤ g) := by
 have hs := hg.size
 constructor
 ·rcases hw with hw | ⟨g, hw, hgs⟩
  ·exact gb_trans hg hg2 (.inl hw)
  ·exact gb_trans hg hg2 (.inr (.inr ⟨g, hw, hgs⟩))
 ·rcases hw2 with hw2 | ⟨g, hw2, hgs⟩
  ·rcases hw with hw | ⟨g, hw, hgs⟩
   ·exact .inl (hw2.trans hw)
   ·exact .inr ⟨g, hw2.trans hw, hgs⟩
  ·exact .inr ⟨g, hw2, by omega⟩
def NewBytes (base : Nat) (bs : List UInt8) (w : World) (e : Ending) (w' : World) : Prop :=
 ∃ v, e = .returned v ∧ w'.ownsRow base 5 1 v bs.length (u8s bs) ∧ w.grownBy w' none
theorem gb_new {w w1 w2 : World} {v : Value} {t : TypeId} {n : Nat} {xs : List Value} (hg : w.grownBy w1 none) (hown : w1.ownsRow w.heap.size t 1 v n xs) (hg2 : w1.grownBy w2 v.ownBlock) : w.grownBy w2 none :=
 gb_trans hg hg2 (by
  rcases hv : v.ownBlock with _ | g
  ·exact .inr (.inl rfl)
  ·exact .inr (.inr ⟨g, rfl, (hown.lt g hv).1⟩))
theorem app8s {w : World} {ops : Array Oper} {rest : List Oper} {o : Oper} {a : Act} {Q : Exit → Act → World → Prop} {s x : Operand} {base n : Nat} {v : Value} {xs : List Value} {t : ByteArray}
  (hown : w.ownsRow base 5 1 v n xs) (hsz : n + t.size ≤ 2000000000) (hbase : base ≤ w.heap.size)
  (hgd : o.guard = none) (ho : o.op = .call { callee := .builtin .append, args := #[s, x], argTypes := #[49, 9] }) (hs : a.eval s = v) (hx : a.eval x = .string t)
  (h : ∀ v' w', w'.ownsRow base 5 1 v' (n + t.size) (xs ++ u8s t.data.toList) → w.grownBy w' v.ownBlock → (v'.ownBlock = v.ownBlock ∨ v'.ownBlock = some w.heap.size) → wpList Tryz.prog ops Q rest (a.put o.dst v') w') :
  wpList Tryz.prog ops Q (o :: rest) a w := by
 obtain ⟨i0, hi, hz0, hz1, hz2⟩ := info_parts Tryz.info8o
 exact wpList_append_str w hgd s x 49 9 ho base 5 i0 Tryz.underlying49 Tryz.underlying9 hi hz0 hz1 hz2 v n xs hs hown t hx (by unfold maxLen; omega) (by omega) hbase h
def putStr (s : ByteArray) : List UInt8 := putNum s.size ++ s.data.toList
theorem putStr_length (s : ByteArray) : (putStr s).length ≤ 10 + s.size := by
 have := putNum_length s.size
 have e : s.data.toList.length = s.size := by rw [Array.length_toList]; rfl
 unfold putStr
 rw [List.length_append, e]; omega
def putStrs (l : List ByteArray) : List UInt8 := l.flatMap putStr
def sumLen (l : List ByteArray) : Nat := (l.map ByteArray.size).sum
theorem putStrs_take (l : List ByteArray) (k : Nat) (h : k < l.length) : putStrs (l.take (k + 1)) = putStrs (l.take k) ++ putStr l[k] := by
 unfold putStrs
 rw [List.take_succ_eq_append_getElem h, List.flatMap_append, List.flatMap_cons, List.flatMap_nil, List.append_nil]
theorem putStrs_length (l : List ByteArray) : (putStrs l).length ≤ 10 * l.length + sumLen l := by
 induction l with
 | nil => simp [putStrs]
 | cons a l ih => have := putStr_length a; simp [putStrs, sumLen] at *; omega
theorem sumLen_take (l : List ByteArray) (k : Nat) (h : k < l.length) : sumLen (l.take (k + 1)) = sumLen (l.take k) + l[k].size := by
 unfold sumLen
 rw [List.take_succ_eq_append_getElem h, List.map_append, List.sum_append]; simp
theorem sumLen_take_le (l : List ByteArray) (k : Nat) : sumLen (l.take k) ≤ sumLen l := by
 have : sumLen l = sumLen (l.take k) + sumLen (l.drop k) := by
  conv => lhs; rw [← List.take_append_drop k l]
  simp only [sumLen, List.map_append, List.sum_append]
 omega
theorem sumLen_elem (l : List ByteArray) (k : Nat) (h : k < l.length) : l[k].size ≤ sumLen l := by
 have := sumLen_take l k h
 have := sumLen_take_le l (k + 1)
 omega
theorem own_step {w w2 w3 : World} {v v2 v3 : Value} (hg2 : w.grownBy w2 v.ownBlock) (hw2 : v2.ownBlock = v.ownBlock ∨ ∃ g, v2.ownBlock = some g ∧ w.heap.size ≤ g)
  (hg3 : w2.grownBy w3 v2.ownBlock) (hw3 : v3.ownBlock = v2.ownBlock ∨ v3.ownBlock = some w2.heap.size) : w.grownBy w3 v.ownBlock ∧ (v3.ownBlock = v.ownBlock ∨ ∃ g, v3.ownBlock = some g ∧ w.heap.size ≤ g) :=
 where_trans hg2 hw2 hg3 (hw3.imp id fun h => ⟨_, h, Nat.le_refl _⟩)
set_option maxHeartbeats 400000 in
set_option maxRecDepth 100000 in
theorem refPutText_any (v : Value) (m : Nat) (s : ByteArray) (xs : List Value) (w : World) (base : Nat) (hb : base ≤ w.heap.size)
  (hown : w.ownsRow base 5 1 v m xs) (hm : m ≤ 100000000) (hs : s.size ≤ 100000000) :
  Calls Tryz.prog 117 #[v, .string s] w (OwnNum base v m xs (putStr s) w) := by
 have hu : U64 s.size := by unfold U64; omega
 have hpl := putNum_length s.size
 go_enter Tryz.func117, Tryz.ntmps117
 go_wp2_with (first
  | (go_at_call 134; refine (refPut_any _ _ _ _ _ base hb hown hu (by omega)).mono ?_; rintro e w2 ⟨v2, rfl, hown2, hg2, hw2⟩; have hs2 := hg2.size)
  | (at_builtin; refine app8s hown2 (by omega) (by omega) rfl rfl rfl rfl ?_; intro v3 w3 hown3 hg3 hw3))
 go_ret
 have R := own_step hg2 hw2 hg3 hw3
 exact ⟨_, rfl, by simpa [putStr, u8s, Nat.add_assoc] using hown3, R.1, R.2⟩
set_option maxHeartbeats 1000000 in
set_option maxRecDepth 100000 in
theorem putText_any (A AL : Option Addr) (c cl : Nat) (bs : List UInt8) (l : List ByteArray) (w : World)
  (hr : Rd w w.heap.size A (u8s bs)) (hl : Rd w w.heap.size AL (strs l)) (h1 : bs.length ≤ 100000000) (h2 : l.length ≤ 1000000) (h3 : sumLen l ≤ 100000000) :
  Calls Tryz.prog 95 #[.slice A bs.length c, .slice AL l.length cl] w (NewBytes w.heap.size (bs ++ putStrs l) w) := by
 go_enter Tryz.func95, Tryz.ntmps95
 go_wp2
 go_loop [5, 13] (fun s i => ∃ k z : Nat, k ≤ l.length ∧ z ≤ 10 * k + sumLen (l.take k) ∧ i = .int .i64 k ∧ s = .int .i64 z) (fun _ i => l.length - (intOf i).toNat)
 case atStart => exact ⟨0, 0, by omega, by omega, rfl, rfl⟩
 case round =>
  obtain ⟨k, z, hk, hz, rfl, rfl⟩ := hrel
  have hsk := sumLen_take_le l k
  by_cases hlt : k < l.length
  ·obtain ⟨ad, rfl, _, hc⟩ := hl.str hlt
   have hsz := sumLen_elem l k hlt
   have hst := hide (sumLen_take l k hlt)
   have hn := hide (u64_int (n := l[k].size) (by unfold U64; omega))
   go_wp2_with (go_at_call 113; refine (width_any _ _ (by omega) hn.out).mono ?_; rintro e w' ⟨⟨q, hq, rfl⟩, rfl⟩)
   go_round
   case rel => exact ⟨k + 1, z + (q + l[k].size), by omega, by rw [hst.out]; omega, by go_num, by go_num⟩
   case measure => simp [intOf]; omega
  ·go_wp2_with (go_at_call 114; refine (grown_any _ _ _ _ _ w.heap.size (Nat.le_refl _) hr (by omega) (by omega)).mono ?_; rintro e w1 ⟨v, rfl, hown, hg⟩)
   have hl1 := hl.grown hg (Nat.le_refl _) (by simp)
   have hs1 := hg.size
   have hown0 := hide hown
   have hg0 := hide hg
   clear hg hk hz hlt hsk
   go_loopw [8, 32] (fun b i wr => ∃ k : Nat, k ≤ l.length ∧ i = .int .i64 k ∧ wr.ownsRow w.heap.size 5 1 b (bs.length + (putStrs (l.take k)).length) (u8s bs ++ u8s (putStrs (l.take k))) ∧ w1.grownBy wr v.ownBlock ∧
     (b.ownBlock = v.ownBlock ∨ ∃ g, b.ownBlock = some g ∧ w1.heap.size ≤ g))
    (fun _ i _ => l.length - (intOf i).toNat)
   case atStart => exact ⟨0, by omega, rfl, by simpa [putStrs, u8s] using hown, gb_refl _ _, .inl rfl⟩
   case round =>
    obtain ⟨k, hk, rfl, hownr, hgr, hwr⟩ := hrel
    have HW := hide hwr
    have hgs := hgr.size
    have hpl := putStrs_length (l.take k)
    have hsk := sumLen_take_le l k
    have htl : (l.take k).length ≤ l.length := by simp; omega
    clear hwr
    by_cases hlt : k < l.length
    ·have hlr := hl1.grown hgr (by omega) (fun g hg => (hown0.out.lt g hg).1)
     obtain ⟨ad, rfl, _, hc⟩ := hlr.str hlt
     have hsz := sumLen_elem l k hlt
     have hn : U64 l[k].size := by unfold U64; omega
     have hnl := putNum_length l[k].size
     go_wp2_with (first
      | (go_at_call 115; refine (appendNum_any _ _ _ _ _ w.heap.size (by omega) hownr hn (by omega)).mono ?_; rintro e w2 ⟨v2, rfl, hown2, hg2, hw2⟩; have hs2 := hg2.size)
      | (at_builtin; refine app8s hown2 (by omega) (by omega) rfl rfl rfl rfl ?_; intro v3 w3 hown3 hg3 hw3))
     have R0 := own_step hg2 hw2 hg3 hw3
     have R := where_trans hgr HW.out R0.1 R0.2
     have e1 := hide (putStrs_take l k hlt)
     clear hw2 hg2 hg3 hw3 R0
     go_roundw
     case rel => exact ⟨k + 1, by omega, by go_num, by rw [e1.out]; simpa [putStr, u8s, Nat.add_assoc] using hown3, R.1, R.2⟩
     case measure => simp [intOf]; omega
    ·go_wp2_with (fail)
     go_ret
     have e : l.take k = l := List.take_of_length_le (by omega)
     rw [e] at hownr
     exact ⟨_, rfl, by simpa [u8s] using hownr, gb_new hg0.out hown0.out hgr⟩
end Go.Proofs.YtmcmlkglkpbnpaaGreat
