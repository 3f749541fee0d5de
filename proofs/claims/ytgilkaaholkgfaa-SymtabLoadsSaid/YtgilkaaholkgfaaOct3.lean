/-
  The contract of octet.parseNum; the readers as they lie in memory.
-/
import Derived.Test.YtgilkaaholkgfaaOct2
import Derived.Deep.LoopGhost
import Derived.Deep.QuietTactic
import Derived.BigQuiet
namespace Go.Proofs.Ytgilkaaholkgfaa
open Go.RowKit

/-- What parseNum answers. -/
def tup (r : Nat × Nat × Nat) : Ending := .returned (.tuple #[.int .u64 (r.1 : Int), .int .i64 (r.2.1 : Int), .int .i64 (r.2.2 : Int)])

theorem parse_at (bs : List UInt8) (k acc : Nat) (h : k < bs.length) : parseF k (bs.drop k) acc =
    if 9 ≤ k ∧ 1 < bs[k].toNat then (0, 0, 10)
    else if bs[k].toNat = 0 ∧ 0 < k then (0, 0, 11)
    else if bs[k].toNat < 128 then (acc + bs[k].toNat * 128 ^ k, k + 1, 0)
    else parseF (k + 1) (bs.drop (k + 1)) (acc + (bs[k].toNat % 128) * 128 ^ k) := by
  rw [List.drop_eq_getElem_cons h]
  rfl

set_option maxHeartbeats 1000000 in
set_option maxRecDepth 100000 in
theorem parseNum_any (A : Option Addr) (c : Nat) (bs : List UInt8) (w : World) (B : Nat)
    (hr : Rd w B A (u8s bs)) (hl : bs.length ≤ 1000000000) :
    Calls Try.prog 99 #[.slice A bs.length c] w fun e w' => e = tup (parse bs) ∧ w = w' := by
  go_enter Try.func99, Try.ntmps99
  go_wp2
  go_step3
  go_wp2
  go_step3
  go_wp2
  go_loop [5, 6, 11] (fun s x i => ∃ k acc : Nat, k ≤ bs.length ∧ k ≤ 9 ∧ acc < 128 ^ k ∧ parse bs = parseF k (bs.drop k) acc ∧ i = .int .i64 k ∧ s = .int .u64 acc ∧ x = .int .i64 3) (fun _ _ i => bs.length - (intOf i).toNat)
  case atStart => exact ⟨0, 0, by omega, by omega, by simp, rfl, rfl, rfl, rfl⟩
  case round =>
    obtain ⟨k, acc, hk, hk9, hacc, hp, rfl, rfl, rfl⟩ := hrel
    have HP := hide hp
    have HA := hide hacc
    clear hp hacc
    by_cases hlt : k < bs.length
    · obtain ⟨ad, rfl, _, hc⟩ := hr.u8 hlt
      have hpa := parse_at bs k acc hlt
      generalize bs[k] = b at hc hpa
      have HPA := hide hpa
      clear hpa
      have hb := b.toNat_lt
      by_cases c1 : 9 ≤ k ∧ 1 < b.toNat
      · have e : parse bs = (0, 0, 10) := by rw [HP.out, HPA.out, if_pos c1]
        have E := hide e
        obtain ⟨c1, c2⟩ := c1
        clear e
        go_wp2
        go_ret3
        exact ⟨by rw [E.out]; rfl, rfl⟩
      · by_cases c2 : b.toNat < 1 ∧ 0 < k
        · have e : parse bs = (0, 0, 11) := by rw [HP.out, HPA.out, if_neg c1, if_pos ⟨by omega, c2.2⟩]
          have E := hide e
          have C1 := hide c1
          obtain ⟨c3, c4⟩ := c2
          clear e c1
          go_wp2
          all_goals
            go_ret3
            exact ⟨by rw [E.out]; rfl, rfl⟩
        · have h9 : 9 ≤ k → b.toNat ≤ 1 := by omega
          have NS := hide (num_step acc k b hk9 HA.out h9)
          have C1 := hide c1
          have C2 := hide c2
          have H9 := hide h9
          clear c1 c2 h9
          by_cases c3 : b.toNat < 128
          · have e : parse bs = (acc + b.toNat % 128 * 128 ^ k, k + 1, 0) := by
              have := C2.out
              rw [HP.out, HPA.out, if_neg C1.out, if_neg (by omega), if_pos c3, Nat.mod_eq_of_lt c3]
            have E := hide e
            clear e
            rcases Nat.lt_or_ge k 9 with hk8 | hk8
            · rcases Nat.lt_or_ge b.toNat 1 with hb0 | hb0
              · have hk0 : k < 1 := by have := C2.out; omega
                have NS0 := NS.out
                rw [show ((b.toNat : Nat) : Int) = 0 by omega] at NS0
                have NZ := hide NS0
                clear NS0
                go_wp2
                go_ret3
                exact ⟨by rw [E.out]; simp only [tup]; rw [← NZ.out]; rfl, rfl⟩
              · go_wp2
                go_ret3
                exact ⟨by rw [E.out]; simp only [tup]; rw [← NS.out]; rfl, rfl⟩
            · have hb1 := H9.out hk8
              have hb0 : 1 ≤ b.toNat := by have := C2.out; omega
              have hp9 : (2 : Int) ^ (7 * k) = 9223372036854775808 := by
                rw [show k = 9 by omega]; decide
              have NS0 := NS.out
              rw [hp9] at NS0
              clear hp9
              have NZ := hide NS0
              clear NS0
              go_wp2
              go_ret3
              exact ⟨by rw [E.out]; simp only [tup]; rw [← NZ.out, show ((k + 1 : Nat) : Int) = 10 by omega]; rfl, rfl⟩
          · have hk8 : k < 9 := by have := H9.out; omega
            go_wp2
            go_round
            case rel =>
              have := C2.out
              exact ⟨k + 1, acc + b.toNat % 128 * 128 ^ k, by omega, by omega, by
                have h1 : b.toNat % 128 * 128 ^ k ≤ 127 * 128 ^ k := Nat.mul_le_mul (by omega) (Nat.le_refl _)
                have h2 := HA.out
                rw [Nat.pow_succ]; omega, by rw [HP.out, HPA.out, if_neg C1.out, if_neg (by omega), if_neg c3], by go_num, by rw [← NS.out], rfl⟩
            case measure => simp [intOf]; omega
    · have e : parse bs = (0, 0, 3) := by rw [HP.out, List.drop_of_length_le (by omega)]; rfl
      have E := hide e
      clear e
      go_wp2
      go_ret3
      exact ⟨by rw [E.out]; rfl, rfl⟩

end Go.Proofs.Ytgilkaaholkgfaa
