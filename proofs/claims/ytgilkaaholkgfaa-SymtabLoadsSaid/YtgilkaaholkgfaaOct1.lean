/-
  The contracts of octet.width, octet.grown, octet.appendNum, quiverref01.Put; the law on append at bytes.
-/
import Derived.Test.YtgilkaaholkgfaaRows
import Derived.Test.YtgilkaaholkgfaaShelf
import Derived.Test.YtgilkaaholkgfaaLib
import Derived.Test.YtgilkaaholkgfaaNum
namespace Go.Proofs.Ytgilkaaholkgfaa
open Go.RowKit

theorem Try.info8 : (Try.prog.info? 5).map (fun i => (i.zero, i.size, i.bytes)) = some (some (.int .u8 0), 1, 1) := by kernel_rfl

/-- append at bytes, onto a row of the call's own. -/
theorem app8 {w : World} {ops : Array Oper} {rest : List Oper} {o : Oper} {a : Act} {Q : Exit → Act → World → Prop} {s x : Operand} {base n B m c : Nat} {v : Value} {xs news : List Value} {A : Option Addr}
    (hown : w.ownsRow base 5 1 v n xs) (hr : Rd w B A news) (hl : news.length = m) (h1 : ∀ u ∈ news, u.oneCell' = true) (hsz : n + m ≤ 2000000000) (hbase : base ≤ w.heap.size)
    (hgd : o.guard = none) (ho : o.op = .call { callee := .builtin .append, args := #[s, x], argTypes := #[22, 22] }) (hs : a.eval s = v) (hx : a.eval x = .slice A m c)
    (h : ∀ v' w', w'.ownsRow base 5 1 v' (n + m) (xs ++ news) → w.grownBy w' v.ownBlock → (v'.ownBlock = v.ownBlock ∨ v'.ownBlock = some w.heap.size) → wpList Try.prog ops Q rest (a.put o.dst v') w') :
    wpList Try.prog ops Q (o :: rest) a w := by
  obtain ⟨i0, hi, hz0, hz1, hz2⟩ := info_parts Try.info8
  exact wpList_append_rd w hgd s x 22 ho base 5 i0 (.int .u8 0) 1 1 Try.underlying22 hi hz0 hz1 hz2 rfl (by decide) v n xs hs hown B A m c news hx (by omega) hr h1 (by unfold maxLen; omega) (by omega) hbase h

/-- make([]byte, 0, n). -/
theorem make8 {w : World} {ops : Array Oper} {rest : List Oper} {o : Oper} {a : Act} {Q : Exit → Act → World → Prop} {l c : Operand} (base n : Nat) {C : Int}
    (hC : C = (n : Int)) (hsz : n ≤ 2000000000) (hbase : base ≤ w.heap.size) (hgd : o.guard = none) (ho : o.op = Op.makeSlice 22 l c) (hl : a.eval l = .int .i64 0) (hc : a.eval c = .int .i64 C)
    (h : ∀ w', w'.ownsRow base 5 1 (.slice (some ⟨w.heap.size, 0, none⟩) 0 n) 0 [] → w.grownBy w' none → wpList Try.prog ops Q rest (a.put o.dst (.slice (some ⟨w.heap.size, 0, none⟩) 0 n)) w') :
    wpList Try.prog ops Q (o :: rest) a w := by
  obtain ⟨i0, hi, hz0, hz1, hz2⟩ := info_parts Try.info8
  exact wpList_make_own w hgd l c 22 ho base 5 i0 (.int .u8 0) 1 Try.underlying22 hi hz0 hz1 .i64 .i64 C n hl hc hC (by rw [hz2]; omega) (by unfold maxLen; omega) hbase h

theorem bitLenAux_le (f n : Nat) : Lib.bitLenAux f n ≤ f := by
  induction f generalizing n with
  | zero => simp [Lib.bitLenAux]
  | succ f ih => unfold Lib.bitLenAux; split <;> first | omega | (have := ih (n / 2); omega)

set_option maxHeartbeats 400000 in
theorem width_any (n : Int) (w : World) (h0 : 0 ≤ n) (h1 : n ≤ 18446744073709551615) :
    Calls Try.prog 89 #[.int .u64 n] w fun e w' => (∃ k : Nat, k ≤ 10 ∧ e = .returned (.int .i64 k)) ∧ w = w' := by
  have hb : Lib.bitLen n.toNat ≤ 64 := bitLenAux_le 64 _
  generalize hm : Lib.bitLen n.toNat = m at hb
  have Hm : Hid (Lib.bitLen n.toNat = m) := hm
  clear hm
  go_enter Try.func89, Try.ntmps89
  go_wp2_with (go_at_call 104; refine (Try.bits_Len64 _ _ h0 h1).mono ?_; rintro e w' ⟨rfl, rfl⟩; rw [Hm.out])
  go_ret
  exact ⟨⟨(max 1 ((m + 6) / 7)), by omega, by simp; omega⟩, rfl⟩

set_option maxHeartbeats 400000 in
set_option maxRecDepth 100000 in
theorem grown_any (A : Option Addr) (c : Nat) (bs : List UInt8) (size : Int) (w : World) (base : Nat) (hb : base ≤ w.heap.size)
    (hr : Rd w w.heap.size A (u8s bs)) (hs0 : 0 ≤ size) (hs : bs.length + size ≤ 1000000000) :
    Calls Try.prog 74 #[.slice A bs.length c, .int .i64 size] w fun e w' => ∃ v, e = .returned v ∧ w'.ownsRow base 5 1 v bs.length (u8s bs) ∧ w.grownBy w' none := by
  obtain ⟨sz, rfl⟩ := Int.eq_ofNat_of_zero_le hs0
  go_enter Try.func74, Try.ntmps74
  go_wp2_with (first
    | (at_make; refine make8 base (bs.length + sz) (by omega) (by omega) hb rfl rfl rfl rfl ?_; intro w1 hown hg)
    | (at_builtin; have hr1 := hr.grown hg (Nat.le_refl _) (by simp); refine app8 hown hr1 (u8s_length bs) (u8s_cell bs) (by omega) (by have := hg.size; omega) rfl rfl rfl rfl ?_; intro v' w2 hown2 hg2 hwhere))
  simp only [Nat.zero_add, List.nil_append] at hown2
  go_ret
  exact ⟨_, rfl, hown2, gb_trans hg hg2 (.inr (.inr ⟨_, rfl, Nat.le_refl _⟩))⟩

theorem or128 (n : Nat) : bits .or .u8 ((n : Int) % 256) 128 = ((UInt8.ofNat (n % 128 + 128)).toNat : Int) := by
  have all : ∀ k : Fin 256, bits .or .u8 (k.val : Int) 128 = (((k.val % 128 + 128) : Nat) : Int) := by decide +kernel
  have h := all ⟨n % 256, by omega⟩
  simp only at h
  simp only [UInt8.toNat_ofNat']
  rw [show ((n : Int) % 256) = ((n % 256 : Nat) : Int) by omega, h]
  omega

/-- A row of the call's own behind a byte more: what a step of the loop leaves. -/
theorem byte_more {w wr w2 : World} {base t k : Nat} {u0 v v' : Value} {xs : List Value} {pre : List UInt8} {m : Nat} {b : UInt8} {x : Int} {u8 : TypeId}
    (hx : x = (b.toNat : Int)) (hg : w.grownBy wr v.ownBlock) (hw : u0.ownBlock = v.ownBlock ∨ ∃ g, u0.ownBlock = some g ∧ w.heap.size ≤ g)
    (hown2 : w2.ownsRow base t 1 v' (m + pre.length + k) (xs ++ u8s pre ++ [Value.int .u8 x])) (hk : k = 1) (hg2 : (wr.alloc (Obj.cells #[Value.int .u8 x] u8)).grownBy w2 u0.ownBlock)
    (hw2 : v'.ownBlock = u0.ownBlock ∨ v'.ownBlock = some (wr.alloc (Obj.cells #[Value.int .u8 x] u8)).heap.size) :
    w2.ownsRow base t 1 v' (m + (pre ++ [b]).length) (xs ++ u8s (pre ++ [b])) ∧ w.grownBy w2 v.ownBlock ∧ (v'.ownBlock = v.ownBlock ∨ ∃ g, v'.ownBlock = some g ∧ w.heap.size ≤ g) := by
  subst hk
  subst hx
  have hs := hg.size
  refine ⟨by simpa [u8s, Nat.add_assoc] using hown2, ?_, ?_⟩
  · rcases hw with hw | ⟨g, hw, hgs⟩
    · exact gb_trans (gb_alloc hg _) hg2 (.inl hw)
    · exact gb_trans (gb_alloc hg _) hg2 (.inr (.inr ⟨g, hw, hgs⟩))
  · rcases hw2 with hw2 | hw2
    · rcases hw with hw | ⟨g, hw, hgs⟩
      · exact .inl (hw2.trans hw)
      · exact .inr ⟨g, hw2.trans hw, hgs⟩
    · exact .inr ⟨_, hw2, by simp; omega⟩

def OwnNum (base : Nat) (v : Value) (m : Nat) (xs : List Value) (bs : List UInt8) (w : World) (e : Ending) (w' : World) : Prop :=
  ∃ v', e = .returned v' ∧ w'.ownsRow base 5 1 v' (m + bs.length) (xs ++ u8s bs) ∧ w.grownBy w' v.ownBlock ∧ (v'.ownBlock = v.ownBlock ∨ ∃ g, v'.ownBlock = some g ∧ w.heap.size ≤ g)

set_option maxHeartbeats 400000 in
set_option maxRecDepth 100000 in
theorem appendNum_any (v : Value) (m n : Nat) (xs : List Value) (w : World) (base : Nat) (hb : base ≤ w.heap.size)
    (hown : w.ownsRow base 5 1 v m xs) (hn2 : n ≤ 18446744073709551615) (hm : m ≤ 1000000000) :
    Calls Try.prog 90 #[v, .int .u64 n] w (OwnNum base v m xs (putNum n) w) := by
  have Hn : Hid (n < 128 ^ 10) := hide (by omega)
  clear hn2
  go_enter Try.func90, Try.ntmps90
  go_wp2
  go_loopw [0, 1] (fun b s wr => ∃ (f n' : Nat) (pre : List UInt8), s = .int .u64 n' ∧ f + pre.length ≤ 9 ∧ n' < 128 ^ (f + 1) ∧ putF 9 n = pre ++ putF f n' ∧ wr.ownsRow base 5 1 b (m + pre.length) (xs ++ u8s pre) ∧ w.grownBy wr v.ownBlock ∧ (b.ownBlock = v.ownBlock ∨ ∃ g, b.ownBlock = some g ∧ w.heap.size ≤ g))
    (fun _ s _ => (intOf s).toNat)
  case atStart => exact ⟨9, n, [], rfl, by simp, Hn.out, by simp, by simpa [u8s] using hown, gb_refl _ _, .inl rfl⟩
  case round =>
    obtain ⟨f, n', pre, rfl, hf, hn', hput, hown', hg, hwhere⟩ := hrel
    have HP := hide hput; have HN := hide hn'
    have HW := hide hwhere
    have hgs := hg.size
    clear hput hn' hwhere
    by_cases hlt : n' < 128
    · go_wp2_with (at_builtin; refine app8 (m := 1) (hown'.alloc _) (Rd.new _ _ _ _ rfl) rfl (cell1 _ _) (by omega) (by simp; omega) rfl rfl rfl rfl ?_; intro v' w2 hown2 hg2 hwhere2)
      go_ret
      have R := byte_more (b := UInt8.ofNat n') (by simp only [UInt8.toNat_ofNat']; omega) hg HW.out hown2 rfl hg2 hwhere2
      have e : putNum n = pre ++ [UInt8.ofNat n'] := by rw [putNum, HP.out, putF_lt _ _ hlt]
      exact ⟨_, rfl, by rw [e]; exact R.1, R.2.1, R.2.2⟩
    · go_wp2_with (at_builtin; refine app8 (m := 1) (hown'.alloc _) (Rd.new _ _ _ _ rfl) rfl (cell1 _ _) (by omega) (by simp; omega) rfl rfl rfl rfl ?_; intro v' w2 hown2 hg2 hwhere2)
      have R := byte_more (or128 n') hg HW.out hown2 rfl hg2 hwhere2
      clear hown2 hg2 hwhere2
      go_roundw
      case rel =>
        cases f with
        | zero => exact absurd HN.out (by simpa using hlt)
        | succ f => exact ⟨f, n' / 128, pre ++ [UInt8.ofNat (n' % 128 + 128)], by simp, by simp; omega, Nat.div_lt_of_lt_mul (by have := HN.out; rw [Nat.pow_succ] at this; omega), by rw [HP.out, putF_ge _ _ (by omega)]; simp, R.1, R.2.1, R.2.2⟩
      case measure => simp [intOf]; omega

set_option maxHeartbeats 400000 in
set_option maxRecDepth 100000 in
theorem refPut_any (v : Value) (m n : Nat) (xs : List Value) (w : World) (base : Nat) (hb : base ≤ w.heap.size)
    (hown : w.ownsRow base 5 1 v m xs) (hn2 : n ≤ 18446744073709551615) (hm : m ≤ 1000000000) :
    Calls Try.prog 101 #[v, .int .u64 n] w (OwnNum base v m xs (putNum n) w) := by
  have Hn : Hid (n < 128 ^ 10) := hide (by omega)
  have hu : U64 n := hn2
  clear hn2
  go_enter Try.func101, Try.ntmps101
  go_wp2
  go_loopw [0, 1] (fun b s wr => ∃ (f n' : Nat) (pre : List UInt8), s = .int .u64 n' ∧ U64 n' ∧ f + pre.length ≤ 9 ∧ n' < 128 ^ (f + 1) ∧ putF 9 n = pre ++ putF f n' ∧ wr.ownsRow base 5 1 b (m + pre.length) (xs ++ u8s pre) ∧ w.grownBy wr v.ownBlock ∧ (b.ownBlock = v.ownBlock ∨ ∃ g, b.ownBlock = some g ∧ w.heap.size ≤ g))
    (fun _ s _ => (intOf s).toNat)
  case atStart => exact ⟨9, n, [], rfl, hu, by simp, Hn.out, by simp, by simpa [u8s] using hown, gb_refl _ _, .inl rfl⟩
  case round =>
    obtain ⟨f, n', pre, rfl, hu', hf, hn', hput, hown', hg, hwhere⟩ := hrel
    have HP := hide hput; have HN := hide hn'
    have HW := hide hwhere
    have hgs := hg.size
    clear hput hn' hwhere
    by_cases hlt : n' < 128
    · go_wp2_with (at_builtin; refine app8 (m := 1) (hown'.alloc _) (Rd.new _ _ _ _ rfl) rfl (cell1 _ _) (by omega) (by simp; omega) rfl rfl rfl rfl ?_; intro v' w2 hown2 hg2 hwhere2)
      go_ret
      have R := byte_more (b := UInt8.ofNat n') (by simp only [UInt8.toNat_ofNat']; omega) hg HW.out hown2 rfl hg2 hwhere2
      have e : putNum n = pre ++ [UInt8.ofNat n'] := by rw [putNum, HP.out, putF_lt _ _ hlt]
      exact ⟨_, rfl, by rw [e]; exact R.1, R.2.1, R.2.2⟩
    · go_wp2_with (at_builtin; refine app8 (m := 1) (hown'.alloc _) (Rd.new _ _ _ _ rfl) rfl (cell1 _ _) (by omega) (by simp; omega) rfl rfl rfl rfl ?_; intro v' w2 hown2 hg2 hwhere2)
      have R := byte_more (b := UInt8.ofNat (n' % 128 + 128)) (by simp only [UInt8.toNat_ofNat']; omega) hg HW.out hown2 rfl hg2 hwhere2
      clear hown2 hg2 hwhere2
      have W := hide (wrap_div128 hu')
      go_roundw
      all_goals rw [W.out]
      case rel =>
        cases f with
        | zero => exact absurd HN.out (by simpa using hlt)
        | succ f => exact ⟨f, n' / 128, pre ++ [UInt8.ofNat (n' % 128 + 128)], rfl, hu'.div, by simp; omega, Nat.div_lt_of_lt_mul (by have := HN.out; rw [Nat.pow_succ] at this; omega), by rw [HP.out, putF_ge _ _ (by omega)]; simp, R.1, R.2.1, R.2.2⟩
      case measure => simp [intOf]; omega

end Go.Proofs.Ytgilkaaholkgfaa
