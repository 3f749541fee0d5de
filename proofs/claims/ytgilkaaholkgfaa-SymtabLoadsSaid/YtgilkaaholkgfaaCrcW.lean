/-
  The contracts of octet.divide, octet.Crc, octet.longCrc, quiverref01.Crc.
-/
import Derived.Test.YtgilkaaholkgfaaOct3
import Derived.Test.YtgilkaaholkgfaaCrc
import Derived.Deep.OwnRows
namespace Go.Proofs.Ytgilkaaholkgfaa
open Go.RowKit

theorem crcN_succ (k c : Nat) : crcN (k + 1) c = crcN k (crcBit c) := rfl

set_option maxHeartbeats 1000000 in
theorem divide_any (n : Nat) (w : World) (h : n < 4294967296) :
    Calls Try.prog 98 #[.int .u32 (n : Int)] w fun e w' => e = .returned (.int .u32 (crcN 8 n : Int)) ∧ w = w' := by
  have HN := hide h
  clear h
  go_enter Try.func98, Try.ntmps98
  go_wp2
  go_loop [0, 3] (fun s i => ∃ k c : Nat, k ≤ 8 ∧ c < 4294967296 ∧ i = .int .i64 k ∧ s = .int .u32 c ∧ crcN (8 - k) c = crcN 8 n) (fun _ i => 8 - (intOf i).toNat)
  case atStart => exact ⟨0, n, by omega, HN.out, rfl, rfl, rfl⟩
  case round =>
    obtain ⟨k, c, hk, hc, rfl, rfl, hcc⟩ := hrel
    have HC := hide hcc
    have HB := hide hc
    have ds := hide (divide_step c hc)
    clear hcc hc
    by_cases hlt : k < 8
    · go_wp2
      go_round
      case rel => exact ⟨k + 1, crcBit c, by omega, crcBit_lt HB.out, by go_num, by rw [← ds.out], by rw [← HC.out, show 8 - k = (8 - (k + 1)) + 1 by omega, crcN_succ]⟩
      case measure => simp [intOf]; omega
    · go_wp2
      go_ret
      have e : crcN 8 n = c := by rw [← HC.out, show 8 - k = 0 by omega]; rfl
      exact ⟨by rw [e]; rfl, rfl⟩

theorem not32 (c : Nat) (h : c < 4294967296) : bits .xor .u32 IntKind.u32.max (c : Int) = ((4294967295 - c : Nat) : Int) := by
  show IntKind.u32.wrap ((BitVec.ofInt 32 IntKind.u32.max ^^^ BitVec.ofInt 32 (c : Int)).toNat : Int) = _
  have e : (BitVec.ofInt 32 IntKind.u32.max : BitVec 32) = BitVec.allOnes 32 := by decide +kernel
  rw [e, BitVec.allOnes_xor, BitVec.toNat_not, BitVec.ofInt_natCast, BitVec.toNat_ofNat, IntKind.wrap_u32']
  omega
theorem crc_of (bs : List UInt8) : Value.int .u32 (bits .xor .u32 IntKind.u32.max (crcReg 4294967295 bs : Int)) = .int .u32 (crc bs : Int) := by
  rw [not32 _ (crcReg_lt (by omega) bs)]; rfl
theorem ret_crc {a b : List UInt8} (h : a = b) : Ending.returned (.int .u32 (bits .xor .u32 IntKind.u32.max (crcReg 4294967295 a : Int))) = .returned (.int .u32 (crc b : Int)) := by
  rw [crc_of, h]

set_option maxHeartbeats 1000000 in
set_option maxRecDepth 100000 in
theorem crc_short (AL : Option Addr) (cl : Nat) (l : List (Option Addr × Nat × List UInt8)) (w : World) (B : Nat) (hl : RdB w B AL l) (h1 : l.length ≤ 1000000) (h2 : (catB l).length < 1024) :
    Calls Try.prog 73 #[.slice AL l.length cl] w fun e w' => e = .returned (.int .u32 (crc (catB l) : Int)) ∧ w = w' := by
  go_enter Try.func73, Try.ntmps73
  go_wp2
  go_loop [3, 13] (fun s i => ∃ k : Nat, k ≤ l.length ∧ i = .int .i64 k ∧ s = .int .i64 ((catB (l.take k)).length : Int)) (fun _ i => l.length - (intOf i).toNat)
  case atStart => exact ⟨0, by omega, rfl, rfl⟩
  case round =>
    obtain ⟨k, hk, rfl, rfl⟩ := hrel
    have hle := catB_take_le l k
    by_cases hlt : k < l.length
    · obtain ⟨ad, rfl, _, hc, _⟩ := hl.at_ hlt
      have hel := catB_elem l k hlt
      have e1 := hide (catB_take l k hlt)
      go_wp2
      go_round
      case rel => exact ⟨k + 1, by omega, by go_num, by rw [e1.out, List.length_append]; go_num⟩
      case measure => simp [intOf]; omega
    · go_wp2
      go_loop [6, 28] (fun s i => ∃ k : Nat, k ≤ l.length ∧ i = .int .i64 k ∧ s = .int .u32 (crcReg 4294967295 (catB (l.take k)) : Int)) (fun _ i => l.length - (intOf i).toNat)
      case atStart => exact ⟨0, by omega, rfl, rfl⟩
      case round =>
        obtain ⟨k, hk, rfl, rfl⟩ := hrel
        by_cases hlt : k < l.length
        · obtain ⟨ad, rfl, _, hc, hrd, hcap, hcm⟩ := hl.at_ hlt
          have hel := catB_elem l k hlt
          have e1 := hide (catB_take l k hlt)
          generalize hX : l[k] = X at *
          clear hX
          obtain ⟨A, c, bs⟩ := X
          dsimp only at *
          go_wp2
          go_loop [6, 34] (fun s i => ∃ j : Nat, j ≤ bs.length ∧ i = .int .i64 j ∧ s = .int .u32 (crcReg (crcReg 4294967295 (catB (l.take k))) (bs.take j) : Int)) (fun _ i => bs.length - (intOf i).toNat)
          case atStart => exact ⟨0, by omega, rfl, rfl⟩
          case round =>
            obtain ⟨j, hj, rfl, rfl⟩ := hrel
            have hreg : crcReg (crcReg 4294967295 (catB (l.take k))) (bs.take j) < 4294967296 := crcReg_lt (crcReg_lt (by omega) _) _
            by_cases hjt : j < bs.length
            · obtain ⟨ad, rfl, _, hc⟩ := hrd.u8 hjt
              have e2 : crcReg (crcReg 4294967295 (catB (l.take k))) (bs.take (j + 1)) = crcByte (crcReg (crcReg 4294967295 (catB (l.take k))) (bs.take j)) bs[j] := by
                rw [List.take_succ_eq_append_getElem hjt, crcReg_snoc]
              generalize bs[j] = b at hc e2
              generalize crcReg (crcReg 4294967295 (catB (l.take k))) (bs.take j) = r at hreg e2
              have E2 := hide e2
              have X := hide (xor_byte32 r b hreg)
              have hx : r ^^^ b.toNat < 4294967296 := by have := b.toNat_lt; exact Nat.xor_lt_two_pow (n := 32) (by omega) (by omega)
              have HX := hide hx
              have hb : b.toNat < 256 := b.toNat_lt
              clear e2 hx hreg
              go_wp2_with (go_at_call 98; rw [X.out]; refine (divide_any _ _ HX.out).mono ?_; rintro e w' ⟨rfl, rfl⟩)
              go_round
              case rel => exact ⟨j + 1, by omega, by go_num, by rw [E2.out]; rfl⟩
              case measure => simp [intOf]; omega
            · have e2 : bs.take j = bs := List.take_of_length_le (by omega)
              have E2 := hide e2
              clear e2 hreg
              go_wp2
              go_round
              case rel => exact ⟨k + 1, by omega, by go_num, by rw [e1.out, crcReg_append, E2.out]⟩
              case measure => simp [intOf]; omega
        · have e2 : l.take k = l := List.take_of_length_le (by omega)
          have E2 := hide e2
          clear e2
          go_wp2
          go_ret
          exact ⟨ret_crc (congrArg catB E2.out), rfl⟩

/-! ## with a table -/

/-- What the table holds when its first k places are laid. -/
def tabAt (k i : Nat) : Nat := if i < k then crcN 8 i else 0
/-- The table as it lies in block g. -/
def Tab (w : World) (g k : Nat) : Prop := w.rowIs g 166 256 fun i => .int .u32 (tabAt k i : Int)
def tabCells : Array Value := Array.replicate 256 (.int .u32 0)
theorem alloc_tab (w : World) : (Instr.alloc 166 true (.tuple #[])).run Try.prog w = .ok (.pointer (some ⟨w.heap.size, 0, none⟩)) (w.alloc (.cells tabCells 166)) := by kernel_rfl
theorem Tab.new (w : World) : Tab (w.alloc (.cells tabCells 166)) w.heap.size 0 :=
  World.rowIs_alloc w tabCells 166 _ (fun i hi => by
    have hs : tabCells.size = 256 := Array.size_replicate
    have e : tabCells[i]? = some (.int .u32 0) := by
      unfold tabCells
      rw [Array.getElem?_replicate, if_pos (by omega)]
    rw [e]) |> fun h => by
      have hs : tabCells.size = 256 := Array.size_replicate
      rw [hs] at h
      exact h
theorem wpList_alloc_tab {w : World} {ops : Array Oper} {rest : List Oper} {o : Oper} {a : Act} {Q : Exit → Act → World → Prop} (hgd : o.guard = none) (ho : o.op = Op.alloc 166)
    (h : wpList Try.prog ops Q rest (a.put o.dst (.pointer (some ⟨w.heap.size, 0, none⟩))) (w.alloc (.cells tabCells 166))) : wpList Try.prog ops Q (o :: rest) a w :=
  wpList_plain hgd fun K hK => by
    unfold Oper.wp
    simp only [execOp, ho, Sem.run_bind, alloc_tab, Result.andThen_ok, Sem.run_pure]
    exact hK _ _ h
theorem Tab.more {w : World} {g k : Nat} (h : Tab w g k) (hk : k < 256) : Tab (w.setCell ⟨g, k, none⟩ (.int .u32 (crcN 8 k : Int))) g (k + 1) :=
  (World.rowIs.set h k _).congr fun i _ => by
    unfold tabAt
    by_cases e : i = k
    · subst e; simp
    · rw [if_neg e]
      by_cases h1 : i < k
      · rw [if_pos h1, if_pos (by omega)]
      · rw [if_neg h1, if_neg (by omega)]
theorem Tab.cell {w : World} {g k i : Nat} (h : Tab w g k) (hi : i < 256) : w.cell? ⟨g, i, none⟩ = some (.int .u32 (tabAt k i : Int)) := World.rowIs.cell h hi

set_option maxHeartbeats 1000000 in
set_option maxRecDepth 100000 in
theorem crc_long (AL : Option Addr) (cl : Nat) (l : List (Option Addr × Nat × List UInt8)) (w : World) (hl : RdB w w.heap.size AL l) (h1 : l.length ≤ 1000000) (h2 : (catB l).length ≤ 100000000) :
    Calls Try.prog 97 #[.slice AL l.length cl] w fun e w' => e = .returned (.int .u32 (crc (catB l) : Int)) ∧ w.grownBy w' none := by
  go_enter Try.func97, Try.ntmps97
  go_wp2_with (refine wpList_alloc_tab rfl rfl ?_)
  go_loopw [10] (fun i wr => ∃ k : Nat, k ≤ 256 ∧ i = .int .i64 k ∧ Tab wr w.heap.size k ∧ w.grownBy wr none) (fun i _ => 256 - (intOf i).toNat)
  case atStart => exact ⟨0, by omega, rfl, Tab.new w, gb_alloc (gb_refl _ _) _⟩
  case round =>
    obtain ⟨k, hk, rfl, htab, hg⟩ := hrel
    by_cases hlt : k < 256
    · have HT := hide htab
      have hc := htab.cell hlt
      have hfz := World.rowIs.frozen htab k
      clear htab
      go_wp2_with (go_at_call 98; refine (divide_any _ _ (by omega)).mono ?_; rintro e w' ⟨rfl, rfl⟩)
      go_roundw
      case rel => exact ⟨k + 1, by omega, by go_num, HT.out.more hlt, gb_setCell hg (.inr (Nat.le_refl _)) _⟩
      case measure => simp [intOf]; omega
    · obtain rfl : k = 256 := by omega
      have hl2 := hl.grown hg (Nat.le_refl _) (by simp)
      have HT := hide htab
      have HG := hide hg
      clear htab hg
      go_wp2
      go_loop [5, 21] (fun s i => ∃ k : Nat, k ≤ l.length ∧ i = .int .i64 k ∧ s = .int .u32 (crcReg 4294967295 (catB (l.take k)) : Int)) (fun _ i => l.length - (intOf i).toNat)
      case atStart => exact ⟨0, by omega, rfl, rfl⟩
      case round =>
        obtain ⟨k, hk, rfl, rfl⟩ := hrel
        by_cases hlt : k < l.length
        · obtain ⟨ad, rfl, _, hc, hrd, hcap, hcm⟩ := hl2.at_ hlt
          have hel := catB_elem l k hlt
          have e1 := hide (catB_take l k hlt)
          generalize hX : l[k] = X at *
          clear hX
          obtain ⟨A, c, bs⟩ := X
          dsimp only at *
          go_wp2
          go_loop [5, 27] (fun s i => ∃ j : Nat, j ≤ bs.length ∧ i = .int .i64 j ∧ s = .int .u32 (crcReg (crcReg 4294967295 (catB (l.take k))) (bs.take j) : Int)) (fun _ i => bs.length - (intOf i).toNat)
          case atStart => exact ⟨0, by omega, rfl, rfl⟩
          case round =>
            obtain ⟨j, hj, rfl, rfl⟩ := hrel
            have hreg : crcReg (crcReg 4294967295 (catB (l.take k))) (bs.take j) < 4294967296 := crcReg_lt (crcReg_lt (by omega) _) _
            by_cases hjt : j < bs.length
            · obtain ⟨ad, rfl, _, hc⟩ := hrd.u8 hjt
              have e2 : crcReg (crcReg 4294967295 (catB (l.take k))) (bs.take (j + 1)) = crcByte (crcReg (crcReg 4294967295 (catB (l.take k))) (bs.take j)) bs[j] := by
                rw [List.take_succ_eq_append_getElem hjt, crcReg_snoc]
              generalize bs[j] = b at hc e2
              generalize crcReg (crcReg 4294967295 (catB (l.take k))) (bs.take j) = r at hreg e2
              have E2 := hide e2
              have X := xor_byte8 r b
              have hx := xor8_lt r b
              have hct := HT.out.cell hx
              have TS := hide (table_step r b hreg)
              rw [show tabAt 256 (r % 256 ^^^ b.toNat) = crcN 8 (r % 256 ^^^ b.toNat) from if_pos hx] at hct
              have hb : b.toNat < 256 := b.toNat_lt
              clear e2
              go_wp2
              go_round
              case rel => exact ⟨j + 1, by omega, by go_num, by rw [E2.out, ← TS.out]⟩
              case measure => simp [intOf]; omega
            · have e2 : bs.take j = bs := List.take_of_length_le (by omega)
              have E2 := hide e2
              clear e2 hreg
              go_wp2
              go_round
              case rel => exact ⟨_, _, _, _, ⟨k + 1, by omega, by go_num, by rw [e1.out, crcReg_append, E2.out]⟩, rfl, rfl, rfl, rfl⟩
              case measure => simp [intOf]; omega
        · have e2 : l.take k = l := List.take_of_length_le (by omega)
          have E2 := hide e2
          clear e2
          go_wp2
          go_ret
          exact ⟨ret_crc (congrArg catB E2.out), HG.out⟩

end Go.Proofs.Ytgilkaaholkgfaa
