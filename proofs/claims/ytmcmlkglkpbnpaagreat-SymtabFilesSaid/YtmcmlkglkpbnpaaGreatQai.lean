/-
  The contract of octet.Frames; lists of bytes of the call's own.
-/
import Derived.Test.YtmcmlkglkpbnpaaGreatQag
import Derived.Test.YtmcmlkglkpbnpaaGreatQaa
import Derived.Deep.OwnRows
namespace Go.Proofs.YtmcmlkglkpbnpaaGreat
open Go.RowKit
theorem crcN_succ (k c : Nat) : crcN (k + 1) c = crcN k (crcBit c) := rfl
set_option maxHeartbeats 1000000 in
theorem divide_any (n : Nat) (w : World) (h : n < 4294967296) :
  Calls Tryz.prog 131 #[.int .u32 (n : Int)] w fun e w' => e = .returned (.int .u32 (crcN 8 n : Int)) ∧ w = w' := by
 have HN := hide h
 clear h
 go_enter Tryz.func131, Tryz.ntmps131
 go_wp2
 go_loop [0, 3] (fun s i => ∃ k c : Nat, k ≤ 8 ∧ c < 4294967296 ∧ i = .int .i64 k ∧ s = .int .u32 c ∧ crcN (8 - k) c = crcN 8 n) (fun _ i => 8 - (intOf i).toNat)
 case atStart => exact ⟨0, n, by omega, HN.out, rfl, rfl, rfl⟩
 case round =>
  obtain ⟨k, c, hk, hc, rfl, rfl, hcc⟩ := hrel
  have HC := hide hcc
  have HB := hide hc
  have ds := hide (divide_step c hc)
  clear hcc hc
  by_cases hlt : k < 8
  ·go_wp2
   go_round
   case rel => exact ⟨k + 1, crcBit c, by omega, crcBit_lt HB.out, by go_num, by rw [← ds.out], by rw [← HC.out, show 8 - k = (8 - (k + 1)) + 1 by omega, crcN_succ]⟩
   case measure => simp [intOf]; omega
  ·go_wp2
   go_ret
   have e : crcN 8 n = c := by rw [← HC.out, show 8 - k = 0 by omega]; rfl
   exact ⟨by rw [e]; rfl, rfl⟩
theorem not32 (c : Nat) (h : c < 4294967296) : bits .xor .u32 IntKind.u32.max (c : Int) = ((4294967295 - c : Nat) : Int) := by
 show IntKind.u32.wrap ((BitVec.ofInt 32 IntKind.u32.max ^^^ BitVec.ofInt 32 (c : Int)).toNat : Int) = _
 have e : (BitVec.ofInt 32 IntKind.u32.max : BitVec 32) = BitVec.allOnes 32 := by decide +kernel
 rw [e, BitVec.allOnes_xor, BitVec.toNat_not, BitVec.ofInt_natCast, BitVec.toNat_ofNat, IntKind.wrap_u32']
 omega
theorem crc_of (bs : List UInt8) : Value.int .u32 (bits .xor .u32 IntKind.u32.max (crcReg 4294967295 bs : Int)) = .int .u32 (crc bs : Int) := by
 rw [not32 _ (crcReg_lt (by omega) bs)]; rfl
theorem ret_crc {a b : List UInt8} (h : a = b) : Ending.returned (.int .u32 (bits .xor .u32 IntKind.u32.max (crcReg 4294967295 a : Int))) = .returned (.int .u32 (crc b : Int)) := by
 rw [crc_of, h]
set_option maxHeartbeats 1000000 in
set_option maxRecDepth 100000 in
theorem crc_short (AL : Option Addr) (cl : Nat) (l : List (Option Addr × Nat × List UInt8)) (w : World) (B : Nat) (hl : RdB w B AL l) (h1 : l.length ≤ 1000000) (h2 : (catB l).length < 1024) :
  Calls Tryz.prog 112 #[.slice AL l.length cl] w fun e w' => e = .returned (.int .u32 (crc (catB l) : Int)) ∧ w = w' := by
 go_enter Tryz.func112, Tryz.ntmps112
 go_wp2
 go_loop [3, 13] (fun s i => ∃ k : Nat, k ≤ l.length ∧ i = .int .i64 k ∧ s = .int .i64 ((catB (l.take k)).length : Int)) (fun _ i => l.length - (intOf i).toNat)
 case atStart => exact ⟨0, by omega, rfl, rfl⟩
 case round =>
  obtain ⟨k, hk, rfl, rfl⟩ := hrel
  have hle := catB_take_le l k
  by_cases hlt : k < l.length
  ·obtain ⟨ad, rfl, _, hc, _⟩ := hl.at_ hlt
   have hel := catB_elem l k hlt
   have e1 := hide (catB_take l k hlt)
   go_wp2
   go_round
   case rel => exact ⟨k + 1, by omega, by go_num, by rw [e1.out, List.length_append]; go_num⟩
   case measure => simp [intOf]; omega
  ·go_wp2
   go_loop [6, 28] (fun s i => ∃ k : Nat, k ≤ l.length ∧ i = .int .i64 k ∧ s = .int .u32 (crcReg 4294967295 (catB (l.take k)) : Int)) (fun _ i => l.length - (intOf i).toNat)
   case atStart => exact ⟨0, by omega, rfl, rfl⟩
   case round =>
    obtain ⟨k, hk, rfl, rfl⟩ := hrel
    by_cases hlt : k < l.length
    ·obtain ⟨ad, rfl, _, hc, hrd, hcap, hcm⟩ := hl.at_ hlt
     have hel := catB_elem l k hlt
     have e1 := hide (catB_take l k hlt)
     generalize hX : l[k] = X at *
     clear hX
     obtain ⟨A, c, bs⟩ := X
     dsimp only at *
     go_wp2
     go_loop [6, 34] (fun s i => ∃ j : Nat, j ≤ bs.length ∧ i = .int .i64 j ∧ s = .int .u32 (crcReg (crcReg 4294967295 (catB (l.take k))) (bs.take j) : Int)) (fun _ i => bs.length - (intOf i).toNat)
     case atStart => exact ⟨0, by omega, rfl, rfl⟩
     case round =>
      obtain ⟨j, hj, rfl, rfl⟩ := hrel
      have hreg : crcReg (crcReg 4294967295 (catB (l.take k))) (bs.take j) < 4294967296 := crcReg_lt (crcReg_lt (by omega) _) _
      by_cases hjt : j < bs.length
      ·obtain ⟨ad, rfl, _, hc⟩ := hrd.u8 hjt
       have e2 : crcReg (crcReg 4294967295 (catB (l.take k))) (bs.take (j + 1)) = crcByte (crcReg (crcReg 4294967295 (catB (l.take k))) (bs.take j)) bs[j] := by
        rw [List.take_succ_eq_append_getElem hjt, crcReg_snoc]
       generalize bs[j] = b at hc e2
       generalize crcReg (crcReg 4294967295 (catB (l.take k))) (bs.take j) = r at hreg e2
       have E2 := hide e2
       have X := hide (xor_byte32 r b hreg)
       have hx : r ^^^ b.toNat < 4294967296 := by have := b.toNat_lt; exact Nat.xor_lt_two_pow (n := 32) (by omega) (by omega)
       have HX := hide hx
       have hb : b.toNat < 256 := b.toNat_lt
       clear e2 hx hreg
       go_wp2_with (go_at_call 131; rw [X.out]; refine (divide_any _ _ HX.out).mono ?_; rintro e w' ⟨rfl, rfl⟩)
       go_round
       case rel => exact ⟨j + 1, by omega, by go_num, by rw [E2.out]; rfl⟩
       case measure => simp [intOf]; omega
      ·have e2 : bs.take j = bs := List.take_of_length_le (by omega)
       have E2 := hide e2
       clear e2 hreg
       go_wp2
       go_round
       case rel => exact ⟨k + 1, by omega, by go_num, by rw [e1.out, crcReg_append, E2.out]⟩
       case measure => simp [intOf]; omega
    ·have e2 : l.take k = l := List.take_of_length_le (by omega)
     have E2 := hide e2
     clear e2
     go_wp2
     go_ret
     exact ⟨ret_crc (congrArg catB E2.out), rfl⟩
/-! ## with a table -/
def tabAt (k i : Nat) : Nat := if i < k then crcN 8 i else 0
def Tab (w : World) (g k : Nat) : Prop := w.rowIs g 216 256 fun i => .int .u32 (tabAt k i : Int)
def tabCells : Array Value := Array.replicate 256 (.int .u32 0)
theorem alloc_tab (w : World) : (Instr.alloc 216 true (.tuple #[])).run Tryz.prog w = .ok (.pointer (some ⟨w.heap.size, 0, none⟩)) (w.alloc (.cells tabCells 216)) := by kernel_rfl
theorem Tab.new (w : World) : Tab (w.alloc (.cells tabCells 216)) w.heap.size 0 :=
 World.rowIs_alloc w tabCells 216 _ (fun i hi => by
  have hs : tabCells.size = 256 := Array.size_replicate
  have e : tabCells[i]? = some (.int .u32 0) := by
   unfold tabCells
   rw [Array.getElem?_replicate, if_pos (by omega)]
  rw [e]) |> fun h => by
   have hs : tabCells.size = 256 := Array.size_replicate
   rw [hs] at h
   exact h
theorem wpList_alloc_tab {w : World} {ops : Array Oper} {rest : List Oper} {o : Oper} {a : Act} {Q : Exit → Act → World → Prop} (hgd : o.guard = none) (ho : o.op = Op.alloc 216)
  (h : wpList Tryz.prog ops Q rest (a.put o.dst (.pointer (some ⟨w.heap.size, 0, none⟩))) (w.alloc (.cells tabCells 216))) : wpList Tryz.prog ops Q (o :: rest) a w :=
 wpList_plain hgd fun K hK => by
  unfold Oper.wp
  simp only [execOp, ho, Sem.run_bind, alloc_tab, Result.andThen_ok, Sem.run_pure]
  exact hK _ _ h
theorem Tab.more {w : World} {g k : Nat} (h : Tab w g k) (hk : k < 256) : Tab (w.setCell ⟨g, k, none⟩ (.int .u32 (crcN 8 k : Int))) g (k + 1) :=
 (World.rowIs.set h k _).congr fun i _ => by
  unfold tabAt
  by_cases e : i = k
  ·subst e; simp
  ·rw [if_neg e]
   by_cases h1 : i < k
   ·rw [if_pos h1, if_pos (by omega)]
   ·rw [if_neg h1, if_neg (by omega)]
theorem Tab.cell {w : World} {g k i : Nat} (h : Tab w g k) (hi : i < 256) : w.cell? ⟨g, i, none⟩ = some (.int .u32 (tabAt k i : Int)) := World.rowIs.cell h hi
set_option maxHeartbeats 1000000 in
set_option maxRecDepth 100000 in
theorem crc_long (AL : Option Addr) (cl : Nat) (l : List (Option Addr × Nat × List UInt8)) (w : World) (hl : RdB w w.heap.size AL l) (h1 : l.length ≤ 1000000) (h2 : (catB l).length ≤ 100000000) :
  Calls Tryz.prog 130 #[.slice AL l.length cl] w fun e w' => e = .returned (.int .u32 (crc (catB l) : Int)) ∧ w.grownBy w' none := by
 go_enter Tryz.func130, Tryz.ntmps130
 go_wp2_with (refine wpList_alloc_tab rfl rfl ?_)
 go_loopw [10] (fun i wr => ∃ k : Nat, k ≤ 256 ∧ i = .int .i64 k ∧ Tab wr w.heap.size k ∧ w.grownBy wr none) (fun i _ => 256 - (intOf i).toNat)
 case atStart => exact ⟨0, by omega, rfl, Tab.new w, gb_alloc (gb_refl _ _) _⟩
 case round =>
  obtain ⟨k, hk, rfl, htab, hg⟩ := hrel
  by_cases hlt : k < 256
  ·have HT := hide htab
   have hc := htab.cell hlt
   have hfz := World.rowIs.frozen htab k
   clear htab
   go_wp2_with (go_at_call 131; refine (divide_any _ _ (by omega)).mono ?_; rintro e w' ⟨rfl, rfl⟩)
   go_roundw
   case rel => exact ⟨k + 1, by omega, by go_num, HT.out.more hlt, gb_setCell hg (.inr (Nat.le_refl _)) _⟩
   case measure => simp [intOf]; omega
  ·obtain rfl : k = 256 := by omega
   have hl2 := hl.grown hg (Nat.le_refl _) (by simp)
   have HT := hide htab
   have HG := hide hg
   clear htab hg
   go_wp2
   go_loop [5, 21] (fun s i => ∃ k : Nat, k ≤ l.length ∧ i = .int .i64 k ∧ s = .int .u32 (crcReg 4294967295 (catB (l.take k)) : Int)) (fun _ i => l.length - (intOf i).toNat)
   case atStart => exact ⟨0, by omega, rfl, rfl⟩
   case round =>
    obtain ⟨k, hk, rfl, rfl⟩ := hrel
    by_cases hlt : k < l.length
    ·obtain ⟨ad, rfl, _, hc, hrd, hcap, hcm⟩ := hl2.at_ hlt
     have hel := catB_elem l k hlt
     have e1 := hide (catB_take l k hlt)
     generalize hX : l[k] = X at *
     clear hX
     obtain ⟨A, c, bs⟩ := X
     dsimp only at *
     go_wp2
     go_loop [5, 27] (fun s i => ∃ j : Nat, j ≤ bs.length ∧ i = .int .i64 j ∧ s = .int .u32 (crcReg (crcReg 4294967295 (catB (l.take k))) (bs.take j) : Int)) (fun _ i => bs.length - (intOf i).toNat)
     case atStart => exact ⟨0, by omega, rfl, rfl⟩
     case round =>
      obtain ⟨j, hj, rfl, rfl⟩ := hrel
      have hreg : crcReg (crcReg 4294967295 (catB (l.take k))) (bs.take j) < 4294967296 := crcReg_lt (crcReg_lt (by omega) _) _
      by_cases hjt : j < bs.length
      ·obtain ⟨ad, rfl, _, hc⟩ := hrd.u8 hjt
       have e2 : crcReg (crcReg 4294967295 (catB (l.take k))) (bs.take (j + 1)) = crcByte (crcReg (crcReg 4294967295 (catB (l.take k))) (bs.take j)) bs[j] := by
        rw [List.take_succ_eq_append_getElem hjt, crcReg_snoc]
       generalize bs[j] = b at hc e2
       generalize crcReg (crcReg 4294967295 (catB (l.take k))) (bs.take j) = r at hreg e2
       have E2 := hide e2
       have X := xor_byte8 r b
       have hx := xor8_lt r b
       have hct := HT.out.cell hx
       have TS := hide (table_step r b hreg)
       rw [show tabAt 256 (r % 256 ^^^ b.toNat) = crcN 8 (r % 256 ^^^ b.toNat) from if_pos hx] at hct
       have hb : b.toNat < 256 := b.toNat_lt
       clear e2
       go_wp2
       go_round
       case rel => exact ⟨j + 1, by omega, by go_num, by rw [E2.out, ← TS.out]⟩
       case measure => simp [intOf]; omega
      ·have e2 : bs.take j = bs := List.take_of_length_le (by omega)
       have E2 := hide e2
       clear e2 hreg
       go_wp2
       go_round
       case rel => exact ⟨_, _, _, _, ⟨k + 1, by omega, by go_num, by rw [e1.out, crcReg_append, E2.out]⟩, rfl, rfl, rfl, rfl⟩
       case measure => simp [intOf]; omega
    ·have e2 : l.take k = l := List.take_of_length_le (by omega)
     have E2 := hide e2
     clear e2
     go_wp2
     go_ret
     exact ⟨ret_crc (congrArg catB E2.out), HG.out⟩
end Go.Proofs.YtmcmlkglkpbnpaaGreat
namespace Go.Proofs.YtmcmlkglkpbnpaaGreat
open Go.RowKit
set_option maxHeartbeats 1000000 in
set_option maxRecDepth 100000 in
theorem crc_big (AL : Option Addr) (cl : Nat) (l : List (Option Addr × Nat × List UInt8)) (w : World) (hl : RdB w w.heap.size AL l) (h1 : l.length ≤ 1000000) (h2 : (catB l).length ≤ 100000000) (h3 : 1024 ≤ (catB l).length) :
  Calls Tryz.prog 112 #[.slice AL l.length cl] w fun e w' => e = .returned (.int .u32 (crc (catB l) : Int)) ∧ w.grownBy w' none := by
 go_enter Tryz.func112, Tryz.ntmps112
 go_wp2
 go_loop [3, 13] (fun s i => ∃ k : Nat, k ≤ l.length ∧ i = .int .i64 k ∧ s = .int .i64 ((catB (l.take k)).length : Int)) (fun _ i => l.length - (intOf i).toNat)
 case atStart => exact ⟨0, by omega, rfl, rfl⟩
 case round =>
  obtain ⟨k, hk, rfl, rfl⟩ := hrel
  have hle := catB_take_le l k
  by_cases hlt : k < l.length
  ·obtain ⟨ad, rfl, _, hc, _⟩ := hl.at_ hlt
   have hel := catB_elem l k hlt
   have e1 := hide (catB_take l k hlt)
   go_wp2
   go_round
   case rel => exact ⟨k + 1, by omega, by go_num, by rw [e1.out, List.length_append]; go_num⟩
   case measure => simp [intOf]; omega
  ·have e2 : (catB (l.take k)).length = (catB l).length := by rw [List.take_of_length_le (by omega)]
   have h4 : 1024 ≤ (catB (l.take k)).length := by omega
   clear e2
   go_wp2_with (go_at_call 130; refine (crc_long _ _ _ _ hl h1 h2).mono ?_; rintro e w' ⟨rfl, hg⟩)
   go_ret
   exact ⟨rfl, hg⟩
theorem crc_any (AL : Option Addr) (cl : Nat) (l : List (Option Addr × Nat × List UInt8)) (w : World) (hl : RdB w w.heap.size AL l) (h1 : l.length ≤ 1000000) (h2 : (catB l).length ≤ 100000000) :
  Calls Tryz.prog 112 #[.slice AL l.length cl] w fun e w' => e = .returned (.int .u32 (crc (catB l) : Int)) ∧ w.grownBy w' none := by
 rcases Nat.lt_or_ge (catB l).length 1024 with h | h
 ·exact (crc_short AL cl l w _ hl h1 h).mono fun e w' ⟨he, hw⟩ => ⟨he, hw ▸ gb_refl _ _⟩
 ·exact crc_big AL cl l w hl h1 h2 h
theorem ref_xor (c : Nat) (h : c < 4294967296) : bits .xor .u32 ((c : Int) / 2) 2197175160 = (((c / 2) ^^^ 2197175160 : Nat) : Int) := by
 rw [show ((c : Int) / 2) = ((c / 2 : Nat) : Int) by omega]
 exact u32_xor_nat _ 2197175160 (by omega) (by omega)
theorem crcBit_odd {c : Nat} (h : c % 2 = 1) : crcBit c = (c / 2) ^^^ 2197175160 := if_pos h
theorem crcBit_even {c : Nat} (h : c % 2 ≠ 1) : crcBit c = c / 2 := if_neg h
set_option maxHeartbeats 1000000 in
set_option maxRecDepth 100000 in
theorem refCrc_any (A : Option Addr) (c : Nat) (bs : List UInt8) (w : World) (B : Nat) (hr : Rd w B A (u8s bs)) (h1 : bs.length ≤ 100000000) :
  Calls Tryz.prog 127 #[.slice A bs.length c] w fun e w' => e = .returned (.int .u32 (crc bs : Int)) ∧ w = w' := by
 go_enter Tryz.func127, Tryz.ntmps127
 go_wp2
 go_loop [3, 4] (fun s i => ∃ k : Nat, k ≤ bs.length ∧ i = .int .i64 k ∧ s = .int .u32 (crcReg 4294967295 (bs.take k) : Int)) (fun _ i => bs.length - (intOf i).toNat)
 case atStart => exact ⟨0, by omega, rfl, rfl⟩
 case round =>
  obtain ⟨k, hk, rfl, rfl⟩ := hrel
  by_cases hkt : k < bs.length
  ·obtain ⟨ad, rfl, _, hc⟩ := hr.u8 hkt
   have e2 : crcReg 4294967295 (bs.take (k + 1)) = crcByte (crcReg 4294967295 (bs.take k)) bs[k] := by
    rw [List.take_succ_eq_append_getElem hkt, crcReg_snoc]
   have hreg : crcReg 4294967295 (bs.take k) < 4294967296 := crcReg_lt (by omega) _
   generalize bs[k] = b at hc e2
   generalize crcReg 4294967295 (bs.take k) = r at hreg e2
   have E2 := hide e2
   have X := xor_byte32 r b hreg
   have hb : b.toNat < 256 := b.toNat_lt
   have hx : r ^^^ b.toNat < 4294967296 := Nat.xor_lt_two_pow (n := 32) (by omega) (by omega)
   have HX := hide hx
   clear e2 hx hreg
   go_wp2
   clear X
   go_loop [3, 5] (fun s i => ∃ j c : Nat, j ≤ 8 ∧ c < 4294967296 ∧ i = .int .i64 j ∧ s = .int .u32 c ∧ crcN (8 - j) c = crcByte r b) (fun _ i => 8 - (intOf i).toNat)
   case atStart => exact ⟨0, _, by omega, HX.out, rfl, rfl, rfl⟩
   case round =>
    obtain ⟨j, c', hj, hc', rfl, rfl, hcc⟩ := hrel
    have HC := hide hcc
    have HB := hide hc'
    have ha0 := and_one32 c' hc'
    have hx0 := ref_xor c' hc'
    clear hcc hc'
    by_cases hjt : j < 8
    ·by_cases hodd : c' % 2 = 1
     ·have ha : bits .and .u32 (c' : Int) 1 = 1 := by rw [ha0, hodd]; rfl
      have hB := hide (crcBit_odd hodd)
      clear ha0 hodd
      go_wp2
      go_round
      case rel => exact ⟨j + 1, crcBit c', by omega, crcBit_lt HB.out, by go_num, by rw [hB.out], by rw [← HC.out, show 8 - j = (8 - (j + 1)) + 1 by omega, crcN_succ]⟩
      case measure => simp [intOf]; omega
     ·have ha : bits .and .u32 (c' : Int) 1 = 0 := by rw [ha0, show c' % 2 = 0 by omega]; rfl
      have hB := hide (crcBit_even hodd)
      clear ha0 hodd hx0
      go_wp2
      go_round
      case rel => exact ⟨j + 1, crcBit c', by omega, crcBit_lt HB.out, by go_num, by rw [hB.out]; go_num, by rw [← HC.out, show 8 - j = (8 - (j + 1)) + 1 by omega, crcN_succ]⟩
      case measure => simp [intOf]; omega
    ·have e : crcByte r b = c' := by rw [← HC.out, show 8 - j = 0 by omega]; rfl
     have E := hide e
     clear ha0 hx0 e
     go_wp2
     go_round
     case rel => exact ⟨k + 1, by omega, by go_num, by rw [E2.out, E.out]⟩
     case measure => simp [intOf]; omega
  ·have e : bs.take k = bs := List.take_of_length_le (by omega)
   have E := hide e
   clear e
   go_wp2
   go_ret
   exact ⟨ret_crc E.out, rfl⟩
end Go.Proofs.YtmcmlkglkpbnpaaGreat
namespace Go.Proofs.YtmcmlkglkpbnpaaGreat
open Go.RowKit
theorem RdB.one {w : World} {A : Option Addr} {c : Nat} {bs : List UInt8} (t : TypeId) (hr : Rd w w.heap.size A (u8s bs)) (hc : bs.length ≤ c) (hm : c ≤ maxLen) :
  RdB (w.alloc (.cells #[.slice A bs.length c] t)) (w.alloc (.cells #[.slice A bs.length c] t)).heap.size (some ⟨w.heap.size, 0, none⟩) [(A, c, bs)] := by
 refine ⟨?_, fun x hx => ?_⟩
 ·have := Rd.new w #[.slice A bs.length c] t (sls [(A, c, bs)]) rfl
  simpa using this
 ·obtain rfl := List.mem_singleton.1 hx
  exact ⟨(hr.alloc (Nat.le_refl _) _).more (by simp), hc, hm⟩
theorem catB_one (A : Option Addr) (c : Nat) (bs : List UInt8) : catB [(A, c, bs)] = bs := by simp [catB]
theorem crc_one {w : World} {A : Option Addr} {c n : Nat} {bs : List UInt8} (hr : Rd w w.heap.size A (u8s bs)) (hn : bs.length = n) (hc : n ≤ c) (hm : c ≤ maxLen) (h : n ≤ 100000000) :
  Calls Tryz.prog 112 #[.slice (some ⟨w.heap.size, 0, none⟩) 1 1] (w.alloc (.cells #[.slice A n c] 49)) fun e w' => e = .returned (.int .u32 (crc bs : Int)) ∧ w.grownBy w' none := by
 subst hn
 have := crc_any _ 1 [(A, c, bs)] _ (RdB.one 49 hr hc hm) (by simp) (by rw [catB_one]; exact h)
 rw [catB_one] at this
 exact this.mono fun e w' ⟨he, hg⟩ => ⟨he, gb_trans (gb_alloc (gb_refl _ _) _) hg (.inl rfl)⟩
theorem cell4 (k : IntKind) (a b c d : Int) : ∀ u ∈ [Value.int k a, .int k b, .int k c, .int k d], u.oneCell' = true := by
 intro u hu
 simp only [List.mem_cons, List.not_mem_nil, or_false] at hu
 rcases hu with rfl | rfl | rfl | rfl <;> rfl
theorem hd_cells (z : Nat) (h : z ≤ 1048576) : [Value.int .u8 ((z : Int) / 16777216), .int .u8 ((z : Int) / 65536), .int .u8 ((z : Int) / 256 % 256), .int .u8 ((z : Int) % 256)] = u8s (hd z) := by
 unfold hd u8s
 simp only [List.map_cons, List.map_nil, UInt8.toNat_ofNat', List.cons.injEq, Value.int.injEq, true_and, and_true]
 omega
theorem tl_cells (z : Nat) : [Value.int .u8 ((z : Int) % 256), .int .u8 ((z : Int) / 256 % 256), .int .u8 ((z : Int) / 65536 % 256), .int .u8 ((z : Int) / 16777216 % 256)] = u8s (tl z) := by
 unfold tl u8s
 simp only [List.map_cons, List.map_nil, UInt8.toNat_ofNat', List.cons.injEq, Value.int.injEq, true_and, and_true]
 omega
theorem own_grown {w w' : World} {base n : Nat} {t : TypeId} {v : Value} {xs : List Value} (h : w.ownsRow base t 1 v n xs) (hg : w.grownBy w' none) : w'.ownsRow base t 1 v n xs :=
 h.kept hg (by cases v.ownBlock <;> simp)
theorem own_as {w : World} {base n m : Nat} {t : TypeId} {v : Value} {xs ys : List Value} (h : w.ownsRow base t 1 v n xs) (hn : n = m) (hx : xs = ys) : w.ownsRow base t 1 v m ys := by
 subst hn; subst hx; exact h
def NewBytesErr (bs : List UInt8) (x : Int) (w : World) (e : Ending) (w' : World) : Prop :=
 ∃ v, e = .returned (.tuple #[v, .int .i64 x]) ∧ w'.ownsRow w.heap.size 5 1 v bs.length (u8s bs) ∧ w.grownBy w' none
set_option maxHeartbeats 2000000 in
set_option maxRecDepth 100000 in
theorem seal_ok (AL : Option Addr) (cl : Nat) (l : List (Option Addr × Nat × List UInt8)) (w : World) (hl : RdB w w.heap.size AL l) (h1 : l.length ≤ 1000000) (h3 : (catB l).length ≤ 1048576) :
  Calls Tryz.prog 94 #[.slice AL l.length cl] w (NewBytesErr (frame (catB l)) 0 w) := by
 go_enter Tryz.func94, Tryz.ntmps94
 go_wp2
 go_loop [4, 13] (fun s i => ∃ k : Nat, k ≤ l.length ∧ i = .int .i64 k ∧ s = .int .i64 ((catB (l.take k)).length : Int)) (fun _ i => l.length - (intOf i).toNat)
 case atStart => exact ⟨0, by omega, rfl, rfl⟩
 case round =>
  obtain ⟨k, hk, rfl, rfl⟩ := hrel
  have hle := catB_take_le l k
  by_cases hlt : k < l.length
  ·obtain ⟨ad, rfl, _, hc, _⟩ := hl.at_ hlt
   have hel := catB_elem l k hlt
   have e1 := hide (catB_take l k hlt)
   go_wp2
   go_round
   case rel => exact ⟨k + 1, by omega, by go_num, by rw [e1.out, List.length_append]; go_num⟩
   case measure => simp [intOf]; omega
  ·have e0 : catB (l.take k) = catB l := by rw [List.take_of_length_le (by omega)]
   rw [e0]
   generalize hz : (catB l).length = z at *
   have HZ := hide hz
   clear hz hle e0
   go_wp2_with (first
    | (at_make; refine make8 w.heap.size (z + 8) (by omega) (by omega) (Nat.le_refl _) rfl rfl rfl rfl ?_; intro w1 hown hg; have hgs := hg.size)
    | (at_builtin; refine app8 (m := 4) (hown.alloc _) (Rd.new _ _ _ _ rfl) rfl (cell4 _ _ _ _ _) (by omega) (by simp; omega) rfl rfl rfl rfl ?_; intro v2 w2 hown2 hg2 hwhere2))
   have hown3 := own_as (m := 4 + (catB (l.take 0)).length) (ys := u8s (hd z ++ catB (l.take 0))) hown2 (by simp [catB]) (by simpa [catB] using hd_cells z h3)
   have hg3 : w.grownBy w2 none := gb_trans (gb_alloc hg _) hg2 (.inr (.inr ⟨_, rfl, Nat.le_refl _⟩))
   clear hown2 hg2 hwhere2 hown hg hgs hlt hk
   go_loopw [7, 44] (fun b i wr => ∃ k : Nat, k ≤ l.length ∧ i = .int .i64 k ∧ wr.ownsRow w.heap.size 5 1 b (4 + (catB (l.take k)).length) (u8s (hd z ++ catB (l.take k))) ∧ w.grownBy wr none) (fun _ i _ => l.length - (intOf i).toNat)
   case atStart => exact ⟨0, by omega, rfl, hown3, hg3⟩
   case round =>
    obtain ⟨k, hk, rfl, hownr, hgr⟩ := hrel
    have hgs := hgr.size
    have hle := catB_take_le l k
    rw [HZ.out] at hle
    by_cases hlt : k < l.length
    ·have hlr := hl.grown hgr (Nat.le_refl _) (by simp)
     obtain ⟨ad, rfl, _, hc, hrd, _⟩ := hlr.at_ hlt
     have hel := catB_elem l k hlt
     rw [HZ.out] at hel
     have e1 := hide (catB_take l k hlt)
     go_wp2_with (at_builtin; refine app8 hownr hrd (u8s_length _) (u8s_cell _) (by omega) (by omega) rfl rfl rfl rfl ?_; intro v4 w4 hown4 hg4 hwhere4)
     have hown5 := own_as (m := 4 + (catB (l.take (k + 1))).length) (ys := u8s (hd z ++ catB (l.take (k + 1)))) hown4 (by rw [e1.out, List.length_append]; omega) (by rw [e1.out, ← List.append_assoc]; exact (u8s_append _ _).symm)
     have hg5 := gb_trans hgr hg4 (by
      rcases hv : Value.ownBlock _ with _ | gg
      ·exact .inr (.inl rfl)
      ·exact .inr (.inr ⟨gg, rfl, (hownr.lt gg hv).1⟩))
     clear hown4 hg4 hwhere4
     go_roundw
     case rel => exact ⟨k + 1, by omega, by go_num, hown5, hg5⟩
     case measure => simp [intOf]; omega
    ·have e0 : catB (l.take k) = catB l := by rw [List.take_of_length_le (by omega)]
     have hown5 := own_as (m := 4 + z) (ys := u8s (hd z ++ catB l)) hownr (by rw [e0, HZ.out]) (by rw [e0])
     obtain ⟨A5, c5, rfl, hnc5, hcm5, hrd5⟩ := own_form hown5
     have hlen5 : (hd z ++ catB l).length = 4 + z := by rw [List.length_append, HZ.out]; rfl
     have HL5 := hide hlen5
     clear hownr hlen5 e0 hle
     go_wp2_with (first
      | (go_at_call 112; refine (crc_one hrd5 HL5.out hnc5 hcm5 (by omega)).mono ?_; rintro e w6 ⟨rfl, hg6⟩; have hs6 := hg6.size; have hown6 := own_grown hown5 hg6)
      | (at_builtin; refine app8 (m := 4) (hown6.alloc _) (Rd.new _ _ _ _ rfl) rfl (cell4 _ _ _ _ _) (by omega) (by simp; omega) rfl rfl rfl rfl ?_; intro v7 w7 hown7 hg7 hwhere7))
     have hg8 := gb_new (gb_trans hgr hg6 (.inl rfl)) hown6 (gb_trans (gb_alloc (gb_refl w6 _) _) hg7 (.inl rfl))
     have e9 : frame (catB l) = hd z ++ catB l ++ tl (crc (hd z ++ catB l)) := by unfold frame; rw [HZ.out]
     have E9 := hide e9
     clear e9 hg7 hwhere7
     go_ret2
     exact ⟨v7, rfl, own_as hown7 (by rw [E9.out, List.length_append, HL5.out]; rfl) (by rw [tl_cells, E9.out]; exact (u8s_append _ _).symm), hg8⟩
end Go.Proofs.YtmcmlkglkpbnpaaGreat
namespace Go.Proofs.YtmcmlkglkpbnpaaGreat
open Go.RowKit
theorem or_nat32 (a b i : Nat) (hb : b < 2 ^ i) (h : a * 2 ^ i + b < 4294967296) : bits .or .u32 ((a * 2 ^ i : Nat) : Int) (b : Int) = ((a * 2 ^ i + b : Nat) : Int) := by
 rw [u32_or_nat _ _ (by omega) (by omega), ← Nat.shiftLeft_eq, Nat.shiftLeft_add_eq_or_of_lt hb]
theorem or4 (a b c d : UInt8) :
  bits BinOp.or IntKind.u32 (bits BinOp.or IntKind.u32 (bits BinOp.or IntKind.u32 ((a.toNat : Int) * 16777216) ((b.toNat : Int) * 65536)) ((c.toNat : Int) * 256)) (d.toNat : Int) = (be4 a b c d : Int) := by
 have := a.toNat_lt; have := b.toNat_lt; have := c.toNat_lt; have := d.toNat_lt
 have e1 : bits BinOp.or IntKind.u32 ((a.toNat : Int) * 16777216) ((b.toNat : Int) * 65536) = ((a.toNat * 16777216 + b.toNat * 65536 : Nat) : Int) := by
  have := or_nat32 a.toNat (b.toNat * 65536) 24 (by omega) (by omega)
  rw [show (2 : Nat) ^ 24 = 16777216 by decide] at this
  rw [← this]; congr 1
 have e2 : bits BinOp.or IntKind.u32 ((a.toNat * 16777216 + b.toNat * 65536 : Nat) : Int) ((c.toNat : Int) * 256) = ((a.toNat * 16777216 + b.toNat * 65536 + c.toNat * 256 : Nat) : Int) := by
  have := or_nat32 (a.toNat * 256 + b.toNat) (c.toNat * 256) 16 (by omega) (by omega)
  rw [show (2 : Nat) ^ 16 = 65536 by decide, show (a.toNat * 256 + b.toNat) * 65536 = a.toNat * 16777216 + b.toNat * 65536 by omega] at this
  rw [← this]; congr 1
 have e3 : bits BinOp.or IntKind.u32 ((a.toNat * 16777216 + b.toNat * 65536 + c.toNat * 256 : Nat) : Int) (d.toNat : Int) = ((a.toNat * 16777216 + b.toNat * 65536 + c.toNat * 256 + d.toNat : Nat) : Int) := by
  have := or_nat32 (a.toNat * 65536 + b.toNat * 256 + c.toNat) d.toNat 8 (by omega) (by omega)
  rw [show (2 : Nat) ^ 8 = 256 by decide, show (a.toNat * 65536 + b.toNat * 256 + c.toNat) * 256 = a.toNat * 16777216 + b.toNat * 65536 + c.toNat * 256 by omega] at this
  rw [← this]
 rw [e1, e2, e3]
 rfl
theorem or4r (a b c d : UInt8) :
  bits BinOp.or IntKind.u32 (bits BinOp.or IntKind.u32 (bits BinOp.or IntKind.u32 (d.toNat : Int) ((c.toNat : Int) * 256)) ((b.toNat : Int) * 65536)) ((a.toNat : Int) * 16777216) = (be4 a b c d : Int) := by
 have := a.toNat_lt; have := b.toNat_lt; have := c.toNat_lt; have := d.toNat_lt
 have comm : ∀ x y : Nat, x < 4294967296 → y < 4294967296 → bits BinOp.or IntKind.u32 (x : Int) (y : Int) = bits BinOp.or IntKind.u32 (y : Int) (x : Int) := fun x y hx hy => by
  rw [u32_or_nat x y hx hy, u32_or_nat y x hy hx, Nat.or_comm]
 have e1 : bits BinOp.or IntKind.u32 (d.toNat : Int) ((c.toNat : Int) * 256) = ((c.toNat * 256 + d.toNat : Nat) : Int) := by
  have := or_nat32 c.toNat d.toNat 8 (by omega) (by omega)
  rw [show (2 : Nat) ^ 8 = 256 by decide] at this
  rw [← this, comm _ _ (by omega) (by omega)]; congr 1
 have e2 : bits BinOp.or IntKind.u32 ((c.toNat * 256 + d.toNat : Nat) : Int) ((b.toNat : Int) * 65536) = ((b.toNat * 65536 + (c.toNat * 256 + d.toNat) : Nat) : Int) := by
  have := or_nat32 b.toNat (c.toNat * 256 + d.toNat) 16 (by omega) (by omega)
  rw [show (2 : Nat) ^ 16 = 65536 by decide] at this
  rw [← this, comm _ _ (by omega) (by omega)]; congr 1
 have e3 : bits BinOp.or IntKind.u32 ((b.toNat * 65536 + (c.toNat * 256 + d.toNat) : Nat) : Int) ((a.toNat : Int) * 16777216) = ((a.toNat * 16777216 + (b.toNat * 65536 + (c.toNat * 256 + d.toNat)) : Nat) : Int) := by
  have := or_nat32 a.toNat (b.toNat * 65536 + (c.toNat * 256 + d.toNat)) 24 (by omega) (by omega)
  rw [show (2 : Nat) ^ 24 = 16777216 by decide] at this
  rw [← this, comm _ _ (by omega) (by omega)]; congr 1
 have e4 : a.toNat * 16777216 + (b.toNat * 65536 + (c.toNat * 256 + d.toNat)) = be4 a b c d := by unfold be4; omega
 rw [e1, e2, e3, e4]
theorem own_base {w : World} {base base' n : Nat} {t : TypeId} {v : Value} {xs : List Value} (h : w.ownsRow base t 1 v n xs) (hb : base' ≤ base) : w.ownsRow base' t 1 v n xs := by
 refine ⟨h.1, ?_⟩
 rcases h.2 with h2 | ⟨g, cap, cur, h3, h4, h5⟩
 ·exact .inl h2
 ·exact .inr ⟨g, cap, cur, h3, by omega, h5⟩
theorem grown_as {A : Option Addr} {c n : Nat} {bs : List UInt8} {w : World} (hn : bs.length = n) (hr : Rd w w.heap.size A (u8s bs)) (hs : n ≤ 100000000) :
  Calls Tryz.prog 114 #[.slice A n c, .int .i64 0] w fun e w' => ∃ v, e = .returned v ∧ w'.ownsRow w.heap.size 5 1 v n (u8s bs) ∧ w.grownBy w' none := by
 subst hn
 exact grown_any A c bs 0 w w.heap.size (Nat.le_refl _) hr (by omega) (by omega)
def Opened (r : List UInt8 × Nat × Nat) (w : World) (e : Ending) (w' : World) : Prop :=
 ∃ v, e = .returned (.tuple #[v, .int .i64 (r.2.1 : Int), .int .i64 (r.2.2 : Int)]) ∧ w'.ownsRow w.heap.size 5 1 v r.1.length (u8s r.1) ∧ w.grownBy w' none
theorem Opened.err {x : Nat} {w w' : World} {e : Ending} (he : e = .returned (.tuple #[.slice none 0 0, .int .i64 0, .int .i64 (x : Int)])) (hg : w.grownBy w' none) : Opened ([], 0, x) w e w' :=
 ⟨_, he, World.ownsRow_nil _ _ _ _, hg⟩
set_option maxHeartbeats 1000000 in
set_option maxRecDepth 100000 in
theorem open_tiny (A : Option Addr) (c : Nat) (bs : List UInt8) (w : World) (h2 : bs.length < 4) :
  Calls Tryz.prog 99 #[.slice A bs.length c] w (Opened (opn bs) w) := by
 have e : opn bs = ([], 0, 3) := by unfold opn; rw [if_pos h2]
 rw [e]
 clear e
 go_enter Tryz.func99, Tryz.ntmps99
 go_wp2
 go_ret3
 exact Opened.err rfl (gb_refl _ _)
def CrcOf (q n c : Nat) (A : Option Addr) (w : World) : Prop := ∀ k, Calls Tryz.prog 112 #[.slice (some ⟨w.heap.size, 0, none⟩) 1 1] ((w.drewN k).alloc (.cells #[.slice A n c] 49)) fun e w' => e = .returned (.int .u32 (q : Int)) ∧ w.grownBy w' none
set_option maxHeartbeats 2000000 in
set_option maxRecDepth 100000 in
theorem open_long (b o c n : Nat) (b0 b1 b2 b3 : UInt8) (len : Nat) (w : World) (h2 : 4 ≤ len)
  (hc0 : w.cell? ⟨b, o, none⟩ = some (.int .u8 (b0.toNat : Int))) (hc1 : w.cell? ⟨b, o + 1, none⟩ = some (.int .u8 (b1.toNat : Int))) (hc2 : w.cell? ⟨b, o + 2, none⟩ = some (.int .u8 (b2.toNat : Int))) (hc3 : w.cell? ⟨b, o + 3, none⟩ = some (.int .u8 (b3.toNat : Int)))
  (hn : be4 b0 b1 b2 b3 = n) (h1 : len ≤ 100000000) (c1 : 1048576 < n) :
  Calls Tryz.prog 99 #[.slice (some ⟨b, o, none⟩) len c] w (Opened ([], 0, 1) w) := by
 have hor := or4 b0 b1 b2 b3
 have hnl := be4_lt b0 b1 b2 b3
 rw [hn] at hor hnl
 have hnl2 : (n : Int) ≤ 4294967295 := by omega
 have g0 : b0.toNat < 256 := b0.toNat_lt
 have g1 : b1.toNat < 256 := b1.toNat_lt
 have g2 : b2.toNat < 256 := b2.toNat_lt
 have g3 : b3.toNat < 256 := b3.toNat_lt
 clear hn hnl
 go_enter Tryz.func99, Tryz.ntmps99
 go_wp2
 go_quiet (fail)
 go_wp2
 go_ret3
 exact Opened.err rfl (gb_drewN (gb_refl _ _) _)
set_option maxHeartbeats 2000000 in
set_option maxRecDepth 100000 in
theorem open_short (b o c n : Nat) (b0 b1 b2 b3 : UInt8) (len : Nat) (w : World) (h2 : 4 ≤ len)
  (hc0 : w.cell? ⟨b, o, none⟩ = some (.int .u8 (b0.toNat : Int))) (hc1 : w.cell? ⟨b, o + 1, none⟩ = some (.int .u8 (b1.toNat : Int))) (hc2 : w.cell? ⟨b, o + 2, none⟩ = some (.int .u8 (b2.toNat : Int))) (hc3 : w.cell? ⟨b, o + 3, none⟩ = some (.int .u8 (b3.toNat : Int)))
  (hn : be4 b0 b1 b2 b3 = n) (h1 : len ≤ 100000000) (c1 : n ≤ 1048576) (c2 : len < n + 8) :
  Calls Tryz.prog 99 #[.slice (some ⟨b, o, none⟩) len c] w (Opened ([], 0, 3) w) := by
 have hor := or4 b0 b1 b2 b3
 rw [hn] at hor
 have g0 : b0.toNat < 256 := b0.toNat_lt
 have g1 : b1.toNat < 256 := b1.toNat_lt
 have g2 : b2.toNat < 256 := b2.toNat_lt
 have g3 : b3.toNat < 256 := b3.toNat_lt
 clear hn
 go_enter Tryz.func99, Tryz.ntmps99
 go_wp2
 go_quiet (fail)
 go_wp2
 go_ret3
 exact Opened.err rfl (gb_drewN (gb_refl _ _) _)
set_option maxHeartbeats 4000000 in
set_option maxRecDepth 100000 in
theorem open_sum (b o c n q s : Nat) (b0 b1 b2 b3 d0 d1 d2 d3 : UInt8) (len : Nat) (w : World) (hcap : len ≤ c)
  (hc0 : w.cell? ⟨b, o, none⟩ = some (.int .u8 (b0.toNat : Int))) (hc1 : w.cell? ⟨b, o + 1, none⟩ = some (.int .u8 (b1.toNat : Int))) (hc2 : w.cell? ⟨b, o + 2, none⟩ = some (.int .u8 (b2.toNat : Int))) (hc3 : w.cell? ⟨b, o + 3, none⟩ = some (.int .u8 (b3.toNat : Int)))
  (hd0 : w.cell? ⟨b, o + (4 + n), none⟩ = some (.int .u8 (d0.toNat : Int))) (hd1 : w.cell? ⟨b, o + (4 + n + 1), none⟩ = some (.int .u8 (d1.toNat : Int))) (hd2 : w.cell? ⟨b, o + (4 + n + 2), none⟩ = some (.int .u8 (d2.toNat : Int))) (hd3 : w.cell? ⟨b, o + (4 + n + 3), none⟩ = some (.int .u8 (d3.toNat : Int)))
  (hn : be4 b0 b1 b2 b3 = n) (hs : be4 d3 d2 d1 d0 = s) (h1 : len ≤ 100000000) (c1 : n ≤ 1048576) (c2 : n + 8 ≤ len) (hcrc : CrcOf q (4 + n) c (some ⟨b, o, none⟩) w) (hq : q ≠ s) :
  Calls Tryz.prog 99 #[.slice (some ⟨b, o, none⟩) len c] w (Opened ([], 0, 12) w) := by
 have hor := or4 b0 b1 b2 b3
 rw [hn] at hor
 have g0 : b0.toNat < 256 := b0.toNat_lt
 have g1 : b1.toNat < 256 := b1.toNat_lt
 have g2 : b2.toNat < 256 := b2.toNat_lt
 have g3 : b3.toNat < 256 := b3.toNat_lt
 clear hn
 have hqi : ((q : Int) == (s : Int)) = false := beq_eq_false_iff_ne.2 (by omega)
 have hqn : ((q : Int) != (s : Int)) = true := bne_iff_ne.2 (by omega)
 clear hq
 go_enter Tryz.func99, Tryz.ntmps99
 go_wp2
 go_quiet (fail)
 go_wp2
 clear hor hc0 hc1 hc2 hc3 g0 g1 g2 g3
 have hor := or4r d3 d2 d1 d0
 rw [hs] at hor
 have g0 : d0.toNat < 256 := d0.toNat_lt
 have g1 : d1.toNat < 256 := d1.toNat_lt
 have g2 : d2.toNat < 256 := d2.toNat_lt
 have g3 : d3.toNat < 256 := d3.toNat_lt
 clear hs
 go_quiet (fail)
 clear hd0 hd1 hd2 hd3 g0 g1 g2 g3 hor
 go_wp2_with (go_at_call 112; refine (hcrc _).mono ?_; rintro e w3 ⟨rfl, hg3⟩)
 go_ret3
 exact Opened.err rfl hg3
set_option maxHeartbeats 4000000 in
set_option maxRecDepth 100000 in
theorem open_ok (b o c n s : Nat) (b0 b1 b2 b3 d0 d1 d2 d3 : UInt8) (load : List UInt8) (len : Nat) (w : World) (hcap : len ≤ c)
  (hc0 : w.cell? ⟨b, o, none⟩ = some (.int .u8 (b0.toNat : Int))) (hc1 : w.cell? ⟨b, o + 1, none⟩ = some (.int .u8 (b1.toNat : Int))) (hc2 : w.cell? ⟨b, o + 2, none⟩ = some (.int .u8 (b2.toNat : Int))) (hc3 : w.cell? ⟨b, o + 3, none⟩ = some (.int .u8 (b3.toNat : Int)))
  (hd0 : w.cell? ⟨b, o + (4 + n), none⟩ = some (.int .u8 (d0.toNat : Int))) (hd1 : w.cell? ⟨b, o + (4 + n + 1), none⟩ = some (.int .u8 (d1.toNat : Int))) (hd2 : w.cell? ⟨b, o + (4 + n + 2), none⟩ = some (.int .u8 (d2.toNat : Int))) (hd3 : w.cell? ⟨b, o + (4 + n + 3), none⟩ = some (.int .u8 (d3.toNat : Int)))
  (hn : be4 b0 b1 b2 b3 = n) (hs : be4 d3 d2 d1 d0 = s) (h1 : len ≤ 100000000) (c1 : n ≤ 1048576) (c2 : n + 8 ≤ len) (hcrc : CrcOf s (4 + n) c (some ⟨b, o, none⟩) w)
  (hl : load.length = n) (hrl : Rd w w.heap.size (some ⟨b, o + 4, none⟩) (u8s load)) :
  Calls Tryz.prog 99 #[.slice (some ⟨b, o, none⟩) len c] w (Opened (load, n + 8, 0) w) := by
 have hor := or4 b0 b1 b2 b3
 rw [hn] at hor
 have g0 : b0.toNat < 256 := b0.toNat_lt
 have g1 : b1.toNat < 256 := b1.toNat_lt
 have g2 : b2.toNat < 256 := b2.toNat_lt
 have g3 : b3.toNat < 256 := b3.toNat_lt
 clear hn
 have HL := hide hl
 clear hl
 go_enter Tryz.func99, Tryz.ntmps99
 go_wp2
 go_quiet (fail)
 go_wp2
 clear hor hc0 hc1 hc2 hc3 g0 g1 g2 g3
 have hor := or4r d3 d2 d1 d0
 rw [hs] at hor
 have g0 : d0.toNat < 256 := d0.toNat_lt
 have g1 : d1.toNat < 256 := d1.toNat_lt
 have g2 : d2.toNat < 256 := d2.toNat_lt
 have g3 : d3.toNat < 256 := d3.toNat_lt
 clear hs
 go_quiet (fail)
 clear hd0 hd1 hd2 hd3 g0 g1 g2 g3 hor
 go_wp2_with (first
  | (go_at_call 112; refine (hcrc _).mono ?_; rintro e w3 ⟨rfl, hg3⟩; have hs3 := hg3.size; have hr3 := (hrl.grown hg3 (Nat.le_refl _) (by simp)).more hg3.size)
  | (go_at_call 114; refine (grown_as HL.out hr3 (by omega)).mono ?_; rintro e w4 ⟨v4, rfl, hown4, hg4⟩))
 go_ret3
 have e8 : ((n + 8 : Nat) : Int) = 4 + (n : Int) + 4 := by omega
 exact ⟨v4, by rw [e8]; rfl, own_base (own_as hown4 HL.out.symm rfl) (by omega), gb_trans hg3 hg4 (.inl rfl)⟩
set_option maxHeartbeats 1000000 in
theorem oopen_any (A : Option Addr) (c : Nat) (bs : List UInt8) (w : World) (hr : Rd w w.heap.size A (u8s bs)) (hc : bs.length ≤ c) (hm : c ≤ maxLen) (h1 : bs.length ≤ 100000000) :
  Calls Tryz.prog 99 #[.slice A bs.length c] w (Opened (opn bs) w) := by
 rcases Nat.lt_or_ge bs.length 4 with h2 | h2
 ·exact open_tiny A c bs w h2
 ·obtain ⟨b, o, rfl, hbl, hcell⟩ := hr.lay8 (by omega)
  have k0 := hcell 0 (by omega)
  have k1 := hcell 1 (by omega)
  have k2 := hcell 2 (by omega)
  have k3 := hcell 3 (by omega)
  rw [Nat.add_zero] at k0
  have hN : be4 bs[0] bs[1] bs[2] bs[3] = headOf bs := by unfold headOf; simp [List.getD, show 0 < bs.length by omega, show 1 < bs.length by omega, show 2 < bs.length by omega, show 3 < bs.length by omega]
  generalize bs[0] = b0 at k0 hN
  generalize bs[1] = b1 at k1 hN
  generalize bs[2] = b2 at k2 hN
  generalize bs[3] = b3 at k3 hN
  have hop : opn bs = if 1048576 < headOf bs then ([], 0, 1) else if bs.length < headOf bs + 8 then ([], 0, 3) else if crc (bs.take (4 + headOf bs)) = sumAt bs (4 + headOf bs) then ((bs.drop 4).take (headOf bs), headOf bs + 8, 0) else ([], 0, 12) := by
   unfold opn; rw [if_neg (by omega)]
  generalize headOf bs = n at hN hop
  by_cases c1 : 1048576 < n
  ·rw [hop, if_pos c1]
   exact open_long b o c n b0 b1 b2 b3 _ w h2 k0 k1 k2 k3 hN h1 c1
  ·by_cases c2 : bs.length < n + 8
   ·rw [hop, if_neg c1, if_pos c2]
    exact open_short b o c n b0 b1 b2 b3 _ w h2 k0 k1 k2 k3 hN h1 (by omega) c2
   ·have hS : be4 bs[4 + n + 3] bs[4 + n + 2] bs[4 + n + 1] bs[4 + n] = sumAt bs (4 + n) := by
     unfold sumAt
     simp [List.getD, show 4 + n < bs.length by omega, show 4 + n + 1 < bs.length by omega, show 4 + n + 2 < bs.length by omega, show 4 + n + 3 < bs.length by omega]
    have m0 := hcell (4 + n) (by omega)
    have m1 := hcell (4 + n + 1) (by omega)
    have m2 := hcell (4 + n + 2) (by omega)
    have m3 := hcell (4 + n + 3) (by omega)
    generalize bs[4 + n] = d0 at m0 hS
    generalize bs[4 + n + 1] = d1 at m1 hS
    generalize bs[4 + n + 2] = d2 at m2 hS
    generalize bs[4 + n + 3] = d3 at m3 hS
    have hrt := hr.take (4 + n)
    rw [u8s_take] at hrt
    have hlt : (bs.take (4 + n)).length = 4 + n := by rw [List.length_take]; omega
    have hq : CrcOf (crc (bs.take (4 + n))) (4 + n) c (some ⟨b, o, none⟩) w := fun k => (crc_one (hrt.drewN k) hlt (by omega) hm (by omega)).mono fun e w' ⟨he, hg⟩ => ⟨he, hg.os, hg.tape, hg.output, hg.size, hg.block⟩
    generalize crc (bs.take (4 + n)) = q at hq hop
    by_cases c3 : q = sumAt bs (4 + n)
    ·rw [hop, if_neg c1, if_neg c2, if_pos c3]
     rw [c3] at hq
     have hrl : Rd w w.heap.size (some ⟨b, o + 4, none⟩) (u8s ((bs.drop 4).take n)) := by
      have h4 := hr.cut (k := 4) (cap := c) (by rw [u8s_length]; omega) (by rw [u8s_length]; exact hc)
      rw [if_neg (by omega)] at h4
      have h5 := h4.take n
      rw [u8s_drop, u8s_take] at h5
      simpa [Addr.add_lit] using h5
     exact open_ok b o c n _ b0 b1 b2 b3 d0 d1 d2 d3 _ _ w hc k0 k1 k2 k3 m0 m1 m2 m3 hN hS h1 (by omega) (by omega) hq (by rw [List.length_take, List.length_drop]; omega) hrl
    ·rw [hop, if_neg c1, if_neg c2, if_neg c3]
     exact open_sum b o c n q _ b0 b1 b2 b3 d0 d1 d2 d3 _ w hc k0 k1 k2 k3 m0 m1 m2 m3 hN hS h1 (by omega) (by omega) hq c3
end Go.Proofs.YtmcmlkglkpbnpaaGreat
namespace Go.Proofs.YtmcmlkglkpbnpaaGreat
open Go.RowKit
theorem Tryz.infoSl : (Tryz.prog.info? 49).map (fun i => (i.zero, i.size, i.bytes)) = some (some (.slice none 0 0), 1, 24) := by kernel_rfl
theorem appS {w : World} {ops : Array Oper} {rest : List Oper} {o : Oper} {a : Act} {Q : Exit → Act → World → Prop} {s x : Operand} {base n B m c : Nat} {v : Value} {xs news : List Value} {A : Option Addr}
  (hown : w.ownsRow base 49 1 v n xs) (hr : Rd w B A news) (hl : news.length = m) (h1 : ∀ u ∈ news, u.oneCell' = true) (hsz : n + m ≤ 2000000000) (hbase : base ≤ w.heap.size)
  (hgd : o.guard = none) (ho : o.op = .call { callee := .builtin .append, args := #[s, x], argTypes := #[141, 141] }) (hs : a.eval s = v) (hx : a.eval x = .slice A m c)
  (h : ∀ v' w', w'.ownsRow base 49 1 v' (n + m) (xs ++ news) → w.grownBy w' v.ownBlock → (v'.ownBlock = v.ownBlock ∨ v'.ownBlock = some w.heap.size) → wpList Tryz.prog ops Q rest (a.put o.dst v') w') :
  wpList Tryz.prog ops Q (o :: rest) a w := by
 obtain ⟨i0, hi, hz0, hz1, hz2⟩ := info_parts Tryz.infoSl
 exact wpList_append_rd w hgd s x 141 ho base 49 i0 (.slice none 0 0) 1 24 Tryz.underlying141 hi hz0 hz1 hz2 rfl (by decide) v n xs hs hown B A m c news hx (by omega) hr h1 (by unfold maxLen; omega) (by omega) hbase h
def OwnB (w : World) (base : Nat) (v : Value) (ls : List (List UInt8)) : Prop :=
 ∃ l : List (Option Addr × Nat × List UInt8), l.map (fun x => x.2.2) = ls ∧ w.ownsRow base 49 1 v l.length (sls l) ∧ ∀ x ∈ l, w.ownsRow base 5 1 (.slice x.1 x.2.2.length x.2.1) x.2.2.length (u8s x.2.2)
theorem OwnB.nil_ (w : World) (base : Nat) : OwnB w base (.slice none 0 0) [] := ⟨[], rfl, World.ownsRow_nil _ _ _ _, by simp⟩
theorem OwnB.grown {w w' : World} {base : Nat} {v : Value} {ls : List (List UInt8)} (h : OwnB w base v ls) (hg : w.grownBy w' none) : OwnB w' base v ls := by
 obtain ⟨l, h1, h2, h3⟩ := h
 exact ⟨l, h1, own_grown h2 hg, fun x hx => own_grown (h3 x hx) hg⟩
theorem own_ne2 {w : World} {base base' n m : Nat} {e t : TypeId} {v u : Value} {xs ys : List Value} (h : w.ownsRow base e 1 v n xs) (h' : w.ownsRow base' t 1 u m ys) (hne : e ≠ t) : v.ownBlock = none ∨ v.ownBlock ≠ u.ownBlock := by
 rcases h'.2 with ⟨rfl, _⟩ | ⟨g, cap, cur, rfl, _, hh, _⟩
 ·cases v.ownBlock <;> simp [Value.ownBlock]
 ·exact .inr (own_ne h hh hne)
theorem OwnB.more {w w1 w' : World} {base : Nat} {v v' : Value} {A : Option Addr} {c : Nat} {ls : List (List UInt8)} {bs : List UInt8} {k n : Nat} {xs : List Value} {l : List (Option Addr × Nat × List UInt8)}
  (h1 : l.map (fun x => x.2.2) = ls) (h2 : w.ownsRow base 49 1 v l.length (sls l)) (h3 : ∀ x ∈ l, w.ownsRow base 5 1 (.slice x.1 x.2.2.length x.2.1) x.2.2.length (u8s x.2.2))
  (hb : w.ownsRow base 5 1 (.slice A bs.length c) bs.length (u8s bs)) (hg1 : w.grownBy w1 none)
  (ho : w'.ownsRow base 49 1 v' (l.length + k) (sls l ++ xs)) (hk : k = 1) (hn : n = bs.length) (hx : xs = [.slice A n c]) (hg : w1.grownBy w' v.ownBlock) : OwnB w' base v' (ls ++ [bs]) := by
 subst hk
 subst hx
 subst hn
 refine ⟨l ++ [(A, c, bs)], by simp [h1], by simpa [sls] using ho, fun x hx => ?_⟩
 have h2' := own_grown h2 hg1
 rcases List.mem_append.1 hx with hx | hx
 ·exact (own_grown (h3 x hx) hg1).kept hg (own_ne2 (own_grown (h3 x hx) hg1) h2' (by decide))
 ·obtain rfl := List.mem_singleton.1 hx
  exact (own_grown hb hg1).kept hg (own_ne2 (own_grown hb hg1) h2' (by decide))
theorem open_as {A : Option Addr} {c n : Nat} {bs : List UInt8} {w : World} (hn : bs.length = n) (hr : Rd w w.heap.size A (u8s bs)) (hc : n ≤ c) (hm : c ≤ maxLen) (h1 : n ≤ 100000000) :
  Calls Tryz.prog 99 #[.slice A n c] w (Opened (opn bs) w) := by
 subst hn
 exact oopen_any A c bs w hr hc hm h1
def Framed (r : List (List UInt8) × Nat × Nat) (w : World) (e : Ending) (w' : World) : Prop :=
 ∃ v, e = .returned (.tuple #[v, .int .i64 (r.2.1 : Int), .int .i64 (r.2.2 : Int)]) ∧ OwnB w' w.heap.size v r.1 ∧ w.grownBy w' none
theorem cellS (A : Option Addr) (n c : Nat) : ∀ u ∈ [Value.slice A n c], u.oneCell' = true := by
 intro u hu
 obtain rfl := List.mem_singleton.1 hu
 rfl
set_option maxHeartbeats 4000000 in
set_option maxRecDepth 100000 in
theorem frames_any (A : Option Addr) (c : Nat) (bs : List UInt8) (w : World) (hr : Rd w w.heap.size A (u8s bs)) (hc : bs.length ≤ c) (hm : c ≤ maxLen) (h1 : bs.length ≤ 100000000) :
  Calls Tryz.prog 66 #[.slice A bs.length c] w (Framed (frs bs) w) := by
 have HM := hide hm
 unfold maxLen at hm
 go_enter Tryz.func66, Tryz.ntmps66
 go_wp2
 go_loopw [5, 6] (fun b i wr => ∃ (k : Nat) (ls : List (List UInt8)), k ≤ bs.length ∧ i = .int .i64 k ∧ ls.length ≤ k ∧ frs bs = (ls ++ (frs (bs.drop k)).1, k + (frs (bs.drop k)).2.1, (frs (bs.drop k)).2.2) ∧ OwnB wr w.heap.size b ls ∧ w.grownBy wr none)
  (fun _ i _ => bs.length - (intOf i).toNat)
 case atStart => exact ⟨0, [], by omega, rfl, by simp, by simp, OwnB.nil_ _ _, gb_refl _ _⟩
 case round =>
  obtain ⟨k, ls, hk, rfl, hlk, hfr, how, hg⟩ := hrel
  have HF := hide hfr
  have HO := hide how
  have hgs := hg.size
  clear hfr how
  by_cases hlt : k < bs.length
  ·have hrw := (hr.grown hg (Nat.le_refl _) (by simp)).more hgs
   have hcut := hrw.cut (k := k) (cap := c) (by rw [u8s_length]; exact hk) (by rw [u8s_length]; exact hc)
   have hne : ¬ c = k := by omega
   rw [if_neg hne, u8s_drop] at hcut
   have hlen : (bs.drop k).length = bs.length - k := List.length_drop
   have OP := hide (open_as hlen hcut (by omega) (by unfold maxLen; omega) (by omega) : Calls Tryz.prog 99 #[.slice _ (bs.length - k) (c - k)] wr _)
   have hsz := opn_size (bs.drop k)
   have hfo := frs_ok (bs.drop k) (by omega)
   have hfe := frs_err (bs.drop k) (by omega)
   rw [hlen] at hsz
   generalize opn (bs.drop k) = r at hsz hfo hfe OP
   obtain ⟨load, sz, er⟩ := r
   dsimp only at hsz hfo hfe
   rcases Nat.eq_zero_or_pos er with hx | hx
   ·subst hx
    have hsz := hsz rfl
    have HFO := hide (hfo rfl)
    clear hfo hfe hlen hcut hrw
    go_wp2_with (first
     | (go_at_call 99; refine OP.out.mono ?_; rintro e w2 ⟨v2, rfl, hown2, hg2⟩; obtain ⟨A2, c2, rfl, hnc2, hcm2, hrd2⟩ := own_form hown2; obtain ⟨l, hl1, hl2, hl3⟩ := HO.out; have hll : l.length ≤ k := (by rw [← hl1, List.length_map] at hlk; exact hlk); have hl2' := own_grown hl2 hg2; have hgs2 := hg2.size)
     | (at_builtin; refine appS (m := 1) (hl2'.alloc _) (Rd.new _ _ _ _ rfl) rfl (cellS _ _ _) (by omega) (by simp; omega) rfl rfl rfl rfl ?_; intro v4 w4 hown4 hg4 hwhere4))
    have hob := OwnB.more hl1 hl2' (fun x hx => own_grown (hl3 x hx) hg2) (own_base hown2 hgs) (gb_alloc (gb_refl w2 none) _) hown4 rfl rfl rfl hg4
    have hg5 := gb_new (gb_trans hg hg2 (.inl rfl)) hl2' (gb_trans (gb_alloc (gb_refl w2 _) _) hg4 (.inl rfl))
    clear hown4 hg4 hwhere4 hown2 hl2 hl2' hl3
    go_roundw
    case rel =>
     exact ⟨k + sz, ls ++ [load], by omega, by go_num, by simp; omega, by rw [HF.out, HFO.out]; simp [List.drop_drop, Nat.add_assoc], hob, hg5⟩
    case measure => simp [intOf]; omega
   ·have HFE := hide (hfe (by omega))
    have hb1 : ((er : Int) == 0) = false := beq_eq_false_iff_ne.2 (by omega)
    clear hfo hfe hlen hcut hrw hsz
    go_wp2_with (go_at_call 99; refine OP.out.mono ?_; rintro e w2 ⟨v2, rfl, hown2, hg2⟩)
    go_ret3
    refine ⟨_, ?_, by rw [HF.out, HFE.out, List.append_nil]; exact OwnB.grown HO.out hg2, gb_trans hg hg2 (.inl rfl)⟩
    rw [HF.out, HFE.out]
    rfl
  ·have e : frs bs = (ls, k, 0) := by rw [HF.out, List.drop_of_length_le (by omega)]; simp [frs_nil]
   have E := hide e
   clear e
   go_wp2_with (fail)
   go_ret3
   exact ⟨_, by rw [E.out]; rfl, by rw [E.out]; exact HO.out, hg⟩
end Go.Proofs.YtmcmlkglkpbnpaaGreat
