/-
  The contracts of octet.Crc (at all lengths) and quiverref01.Crc.
-/
import Derived.Test.YtgilkaaholkgfaaCrcW
namespace Go.Proofs.Ytgilkaaholkgfaa
open Go.RowKit

set_option maxHeartbeats 1000000 in
set_option maxRecDepth 100000 in
theorem crc_big (AL : Option Addr) (cl : Nat) (l : List (Option Addr × Nat × List UInt8)) (w : World) (hl : RdB w w.heap.size AL l) (h1 : l.length ≤ 1000000) (h2 : (catB l).length ≤ 100000000) (h3 : 1024 ≤ (catB l).length) :
    Calls Try.prog 73 #[.slice AL l.length cl] w fun e w' => e = .returned (.int .u32 (crc (catB l) : Int)) ∧ w.grownBy w' none := by
  go_enter Try.func73, Try.ntmps73
  go_wp2
  go_loop [3, 13] (fun s i => ∃ k : Nat, k ≤ l.length ∧ i = .int .i64 k ∧ s = .int .i64 ((catB (l.take k)).length : Int)) (fun _ i => l.length - (intOf i).toNat)
  case atStart => exact ⟨0, by omega, rfl, rfl⟩
  case round =>
    obtain ⟨k, hk, rfl, rfl⟩ := hrel
    have hle := catB_take_le l k
    by_cases hlt : k < l.length
    · obtain ⟨ad, rfl, _, hc, _⟩ := hl.at_ hlt
      have hel := catB_elem l k hlt
      have e1 := hide (catB_take l k hlt)
      go_wp2
      go_round
      case rel => exact ⟨k + 1, by omega, by go_num, by rw [e1.out, List.length_append]; go_num⟩
      case measure => simp [intOf]; omega
    · have e2 : (catB (l.take k)).length = (catB l).length := by rw [List.take_of_length_le (by omega)]
      have h4 : 1024 ≤ (catB (l.take k)).length := by omega
      clear e2
      go_wp2_with (go_at_call 97; refine (crc_long _ _ _ _ hl h1 h2).mono ?_; rintro e w' ⟨rfl, hg⟩)
      go_ret
      exact ⟨rfl, hg⟩

/-- octet.Crc. -/
theorem crc_any (AL : Option Addr) (cl : Nat) (l : List (Option Addr × Nat × List UInt8)) (w : World) (hl : RdB w w.heap.size AL l) (h1 : l.length ≤ 1000000) (h2 : (catB l).length ≤ 100000000) :
    Calls Try.prog 73 #[.slice AL l.length cl] w fun e w' => e = .returned (.int .u32 (crc (catB l) : Int)) ∧ w.grownBy w' none := by
  rcases Nat.lt_or_ge (catB l).length 1024 with h | h
  · exact (crc_short AL cl l w _ hl h1 h).mono fun e w' ⟨he, hw⟩ => ⟨he, hw ▸ gb_refl _ _⟩
  · exact crc_big AL cl l w hl h1 h2 h

theorem and1_32 (c : Nat) (h : c < 4294967296) : bits .and .u32 (c : Int) 1 = ((c % 2 : Nat) : Int) := and_one32 c h
theorem ref_xor (c : Nat) (h : c < 4294967296) : bits .xor .u32 ((c : Int) / 2) 2197175160 = (((c / 2) ^^^ 2197175160 : Nat) : Int) := by
  rw [show ((c : Int) / 2) = ((c / 2 : Nat) : Int) by omega]
  exact u32_xor_nat _ 2197175160 (by omega) (by omega)
theorem crcBit_odd {c : Nat} (h : c % 2 = 1) : crcBit c = (c / 2) ^^^ 2197175160 := if_pos h
theorem crcBit_even {c : Nat} (h : c % 2 ≠ 1) : crcBit c = c / 2 := if_neg h

set_option maxHeartbeats 1000000 in
set_option maxRecDepth 100000 in
theorem refCrc_any (A : Option Addr) (c : Nat) (bs : List UInt8) (w : World) (B : Nat) (hr : Rd w B A (u8s bs)) (h1 : bs.length ≤ 100000000) :
    Calls Try.prog 83 #[.slice A bs.length c] w fun e w' => e = .returned (.int .u32 (crc bs : Int)) ∧ w = w' := by
  go_enter Try.func83, Try.ntmps83
  go_wp2
  go_loop [3, 4] (fun s i => ∃ k : Nat, k ≤ bs.length ∧ i = .int .i64 k ∧ s = .int .u32 (crcReg 4294967295 (bs.take k) : Int)) (fun _ i => bs.length - (intOf i).toNat)
  case atStart => exact ⟨0, by omega, rfl, rfl⟩
  case round =>
    obtain ⟨k, hk, rfl, rfl⟩ := hrel
    by_cases hkt : k < bs.length
    · obtain ⟨ad, rfl, _, hc⟩ := hr.u8 hkt
      have e2 : crcReg 4294967295 (bs.take (k + 1)) = crcByte (crcReg 4294967295 (bs.take k)) bs[k] := by
        rw [List.take_succ_eq_append_getElem hkt, crcReg_snoc]
      have hreg : crcReg 4294967295 (bs.take k) < 4294967296 := crcReg_lt (by omega) _
      generalize bs[k] = b at hc e2
      generalize crcReg 4294967295 (bs.take k) = r at hreg e2
      have E2 := hide e2
      have X := xor_byte32 r b hreg
      have hb : b.toNat < 256 := b.toNat_lt
      have hx : r ^^^ b.toNat < 4294967296 := Nat.xor_lt_two_pow (n := 32) (by omega) (by omega)
      have HX := hide hx
      clear e2 hx hreg
      go_wp2
      clear X
      go_loop [3, 5] (fun s i => ∃ j c : Nat, j ≤ 8 ∧ c < 4294967296 ∧ i = .int .i64 j ∧ s = .int .u32 c ∧ crcN (8 - j) c = crcByte r b) (fun _ i => 8 - (intOf i).toNat)
      case atStart => exact ⟨0, _, by omega, HX.out, rfl, rfl, rfl⟩
      case round =>
        obtain ⟨j, c', hj, hc', rfl, rfl, hcc⟩ := hrel
        have HC := hide hcc
        have HB := hide hc'
        have ha0 := and_one32 c' hc'
        have hx0 := ref_xor c' hc'
        clear hcc hc'
        by_cases hjt : j < 8
        · by_cases hodd : c' % 2 = 1
          · have ha : bits .and .u32 (c' : Int) 1 = 1 := by rw [ha0, hodd]; rfl
            have hB := hide (crcBit_odd hodd)
            clear ha0 hodd
            go_wp2
            go_round
            case rel => exact ⟨j + 1, crcBit c', by omega, crcBit_lt HB.out, by go_num, by rw [hB.out], by rw [← HC.out, show 8 - j = (8 - (j + 1)) + 1 by omega, crcN_succ]⟩
            case measure => simp [intOf]; omega
          · have ha : bits .and .u32 (c' : Int) 1 = 0 := by rw [ha0, show c' % 2 = 0 by omega]; rfl
            have hB := hide (crcBit_even hodd)
            clear ha0 hodd hx0
            go_wp2
            go_round
            case rel => exact ⟨j + 1, crcBit c', by omega, crcBit_lt HB.out, by go_num, by rw [hB.out]; go_num, by rw [← HC.out, show 8 - j = (8 - (j + 1)) + 1 by omega, crcN_succ]⟩
            case measure => simp [intOf]; omega
        · have e : crcByte r b = c' := by rw [← HC.out, show 8 - j = 0 by omega]; rfl
          have E := hide e
          clear ha0 hx0 e
          go_wp2
          go_round
          case rel => exact ⟨k + 1, by omega, by go_num, by rw [E2.out, E.out]⟩
          case measure => simp [intOf]; omega
    · have e : bs.take k = bs := List.take_of_length_le (by omega)
      have E := hide e
      clear e
      go_wp2
      go_ret
      exact ⟨ret_crc E.out, rfl⟩

end Go.Proofs.Ytgilkaaholkgfaa
