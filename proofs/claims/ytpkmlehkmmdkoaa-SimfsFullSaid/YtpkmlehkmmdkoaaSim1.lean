/-
  The contracts of simfs.fits, CheckName, within; of FS.count, ready, named, find.
-/
import Derived.Test.YtpkmlehkmmdkoaaMp
import Derived.Test.YtpkmlehkmmdkoaaChecked
import Derived.LoopTactic
import Derived.BigQuiet
import Derived.Deep.QuietTactic
import Derived.ProofKit
namespace Go.Proofs.Ytpkmlehkmmdkoaa
open Go.RowKit

/-! ## names -/

def fitB (c : UInt8) : Bool := c == 46 || c == 45 || c == 95 || c == 47 || ((97 ≤ c && c ≤ 122) || (48 ≤ c && c ≤ 57))
def nameOk (s : ByteArray) : Bool := decide (1 ≤ s.size) && decide (s.size ≤ 64) && s.data.toList.all fitB

set_option maxHeartbeats 1000000 in
theorem fits_any (c : UInt8) (w : World) : Calls Try.prog 53 #[.int .u8 (c.toNat : Int)] w fun e w' => e = .returned (.bool (fitB c)) ∧ w = w' := by
  have hc : c.toNat < 256 := c.toNat_lt
  have q : ∀ n : Nat, n < 256 → (c == UInt8.ofNat n) = ((c.toNat : Int) == (n : Int)) := fun n hn => by
    rw [Bool.eq_iff_iff]; simp [← UInt8.toNat_inj]; omega
  have q1 := q 46 (by omega)
  have q2 := q 45 (by omega)
  have q3 := q 95 (by omega)
  have q4 := q 47 (by omega)
  have r : fitB c = (((c.toNat : Int) == 46) || ((c.toNat : Int) == 45) || ((c.toNat : Int) == 95) || ((c.toNat : Int) == 47) || ((decide ((97 : Int) ≤ c.toNat) && decide ((c.toNat : Int) ≤ 122)) || (decide ((48 : Int) ≤ c.toNat) && decide ((c.toNat : Int) ≤ 57)))) := by
    unfold fitB
    rw [show (c == 46) = _ from q1, show (c == 45) = _ from q2, show (c == 95) = _ from q3, show (c == 47) = _ from q4]
    have e1 : (decide (97 ≤ c)) = decide ((97 : Int) ≤ c.toNat) := by rw [Bool.eq_iff_iff]; simp [UInt8.le_iff_toNat_le]; omega
    have e2 : (decide (c ≤ 122)) = decide ((c.toNat : Int) ≤ 122) := by rw [Bool.eq_iff_iff]; simp [UInt8.le_iff_toNat_le]; omega
    have e3 : (decide (48 ≤ c)) = decide ((48 : Int) ≤ c.toNat) := by rw [Bool.eq_iff_iff]; simp [UInt8.le_iff_toNat_le]; omega
    have e4 : (decide (c ≤ 57)) = decide ((c.toNat : Int) ≤ 57) := by rw [Bool.eq_iff_iff]; simp [UInt8.le_iff_toNat_le]; omega
    rw [e1, e2, e3, e4]
    rfl
  have R := hide r
  clear r q q1 q2 q3 q4
  generalize hx : (c.toNat : Int) = x at *
  have h0 : 0 ≤ x := by omega
  have h1 : x < 256 := by omega
  clear hx hc
  by_cases a1 : x = 46
  · subst a1
    go_enter Try.func53, Try.ntmps53
    go_wp2
    go_ret
    exact ⟨by rw [R.out]; rfl, rfl⟩
  by_cases a2 : x = 45
  · subst a2
    go_enter Try.func53, Try.ntmps53
    go_wp2
    go_ret
    exact ⟨by rw [R.out]; rfl, rfl⟩
  by_cases a3 : x = 95
  · subst a3
    go_enter Try.func53, Try.ntmps53
    go_wp2
    go_ret
    exact ⟨by rw [R.out]; rfl, rfl⟩
  by_cases a4 : x = 47
  · subst a4
    go_enter Try.func53, Try.ntmps53
    go_wp2
    go_ret
    exact ⟨by rw [R.out]; rfl, rfl⟩
  have b1 : (x == 46) = false := by simpa using a1
  have b2 : (x == 45) = false := by simpa using a2
  have b3 : (x == 95) = false := by simpa using a3
  have b4 : (x == 47) = false := by simpa using a4
  clear a1 a2 a3 a4
  by_cases c1 : 97 ≤ x <;> by_cases c2 : x ≤ 122 <;> by_cases c3 : 48 ≤ x <;> by_cases c4 : x ≤ 57
  all_goals first
    | (exfalso; omega)
    | (go_enter Try.func53, Try.ntmps53
       go_wp2
       all_goals
         go_ret
         exact ⟨by rw [R.out, b1, b2, b3, b4]; simp [c1, c2, c3, c4], rfl⟩)

/-- CheckName's answer. -/
def nameErr (s : ByteArray) : Int := if nameOk s then 0 else 20
theorem nameErr_ok {s : ByteArray} (h : nameOk s = true) : nameErr s = 0 := by simp [nameErr, h]
theorem nameErr_no {s : ByteArray} (h : nameOk s = false) : nameErr s = 20 := by simp [nameErr, h]
theorem nameOk_short {s : ByteArray} (h : s.size < 1) : nameOk s = false := by unfold nameOk; simp; omega
theorem nameOk_long {s : ByteArray} (h : 64 < s.size) : nameOk s = false := by unfold nameOk; simp; omega

set_option maxHeartbeats 1000000 in
theorem checkName_any (s : ByteArray) (w : World) : Calls Try.prog 29 #[.string s] w fun e w' => e = .returned (.int .i64 (nameErr s)) ∧ w = w' := by
  by_cases h0 : s.size < 1
  · have R := hide (nameErr_no (nameOk_short h0))
    go_enter Try.func29, Try.ntmps29
    go_wp2
    go_ret
    exact ⟨by rw [R.out]; rfl, rfl⟩
  by_cases h1 : 64 < s.size
  · have R := hide (nameErr_no (nameOk_long h1))
    go_enter Try.func29, Try.ntmps29
    go_wp2
    go_ret
    exact ⟨by rw [R.out]; rfl, rfl⟩
  have hok : nameOk s = s.data.toList.all fitB := by unfold nameOk; simp [show 1 ≤ s.size by omega, show s.size ≤ 64 by omega]
  have R := hide hok
  clear hok
  go_enter Try.func29, Try.ntmps29
  go_wp2
  go_loop [14] (fun i => ∃ k : Nat, k ≤ s.size ∧ i = .int .i64 k ∧ (s.data.toList.take k).all fitB = true) (fun i => s.size - (intOf i).toNat)
  case atStart => exact ⟨0, Nat.zero_le _, rfl, rfl⟩
  case round =>
    obtain ⟨k, hk, rfl, ha⟩ := hrel
    have HA := hide ha
    clear ha
    by_cases hlt : k < s.size
    · have hs : s.data.toList.take (k + 1) = s.data.toList.take k ++ [s[k]] := by
        rw [List.take_succ_eq_append_getElem (by simpa using hlt)]; rfl
      have HS := hide hs
      clear hs
      cases hf : fitB s[k]
      all_goals
        have HF := hide hf
        go_wp2_with (go_at_call 53; refine (fits_any _ _).mono ?_; rintro e w' ⟨rfl, rfl⟩)
      · go_ret
        refine ⟨?_, rfl⟩
        have : s.data.toList.all fitB = false := by
          rw [List.all_eq_false]
          exact ⟨s[k], by
            have : s[k] = s.data.toList[k]'(by simpa using hlt) := rfl
            rw [this]; exact List.getElem_mem _, by rw [HF.out]; simp⟩
        rw [nameErr_no (by rw [R.out, this])]
        rfl
      · go_round
        case rel => exact ⟨k + 1, by omega, by go_num, by rw [HS.out, List.all_append, HA.out]; simp [HF.out]⟩
        case measure => simp [intOf]; omega
    · go_wp2
      go_ret
      refine ⟨?_, rfl⟩
      have e : s.data.toList.take k = s.data.toList := List.take_of_length_le (by simp; show s.size ≤ k; omega)
      have h := HA.out
      rw [e] at h
      rw [nameErr_ok (by rw [R.out, h])]
      rfl

theorem ret_int {k : IntKind} {a b : Int} (h : a = b) : Ending.returned (.int k a) = .returned (.int k b) := by rw [h]
def clampI (n m : Int) : Int := max 0 (min n m)
set_option maxHeartbeats 400000 in
theorem within_any (n m : Int) (w : World) : Calls Try.prog 45 #[.int .i64 n, .int .i64 m] w fun e w' => e = .returned (.int .i64 (clampI n m)) ∧ w = w' := by
  by_cases h1 : n ≤ m <;> by_cases h2 : 0 ≤ n <;> by_cases h3 : 0 ≤ m
  all_goals
    go_enter Try.func45, Try.ntmps45
    go_wp2
    all_goals
      go_ret
      exact ⟨ret_int (by unfold clampI; omega), rfl⟩

end Go.Proofs.Ytpkmlehkmmdkoaa
