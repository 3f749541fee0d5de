/-
  The contract of the document's own CheckName (quiverref02).
-/
import Derived.Test.YtpcblmdjgdpgeaaSimN
namespace Go.Proofs.Ytpcblmdjgdpgeaa
open Go.RowKit

theorem fitB_int (c : UInt8) : fitB c = (((c.toNat : Int) == 46) || ((c.toNat : Int) == 45) || ((c.toNat : Int) == 95) || ((c.toNat : Int) == 47) || ((decide ((97 : Int) ≤ c.toNat) && decide ((c.toNat : Int) ≤ 122)) || (decide ((48 : Int) ≤ c.toNat) && decide ((c.toNat : Int) ≤ 57)))) := by
  have hc : c.toNat < 256 := c.toNat_lt
  have q : ∀ n : Nat, n < 256 → (c == UInt8.ofNat n) = ((c.toNat : Int) == (n : Int)) := fun n hn => by
    rw [Bool.eq_iff_iff]; simp [← UInt8.toNat_inj]; omega
  unfold fitB
  rw [show (c == 46) = _ from q 46 (by omega), show (c == 45) = _ from q 45 (by omega), show (c == 95) = _ from q 95 (by omega), show (c == 47) = _ from q 47 (by omega)]
  have e1 : (decide (97 ≤ c)) = decide ((97 : Int) ≤ c.toNat) := by rw [Bool.eq_iff_iff]; simp [UInt8.le_iff_toNat_le]; omega
  have e2 : (decide (c ≤ 122)) = decide ((c.toNat : Int) ≤ 122) := by rw [Bool.eq_iff_iff]; simp [UInt8.le_iff_toNat_le]; omega
  have e3 : (decide (48 ≤ c)) = decide ((48 : Int) ≤ c.toNat) := by rw [Bool.eq_iff_iff]; simp [UInt8.le_iff_toNat_le]; omega
  have e4 : (decide (c ≤ 57)) = decide ((c.toNat : Int) ≤ 57) := by rw [Bool.eq_iff_iff]; simp [UInt8.le_iff_toNat_le]; omega
  rw [e1, e2, e3, e4]
  rfl

set_option maxHeartbeats 4000000 in
set_option maxRecDepth 100000 in
theorem refName_any (s : ByteArray) (w : World) : Calls Try.prog 31 #[.string s] w fun e w' => e = .returned (.int .i64 (nameErr s)) ∧ w = w' := by
  by_cases h0 : s.size < 1
  · have R := hide (nameErr_no (nameOk_short h0))
    go_enter Try.func31, Try.ntmps31
    go_wp2
    go_ret
    exact ⟨by rw [R.out]; rfl, rfl⟩
  by_cases h1 : 64 < s.size
  · have R := hide (nameErr_no (nameOk_long h1))
    go_enter Try.func31, Try.ntmps31
    go_wp2
    go_ret
    exact ⟨by rw [R.out]; rfl, rfl⟩
  have hok : nameOk s = s.data.toList.all fitB := by unfold nameOk; simp [show 1 ≤ s.size by omega, show s.size ≤ 64 by omega]
  have R := hide hok
  clear hok
  go_enter Try.func31, Try.ntmps31
  go_wp2
  go_loop [3] (fun i => ∃ k : Nat, k ≤ s.size ∧ i = .int .i64 k ∧ (s.data.toList.take k).all fitB = true) (fun i => s.size - (intOf i).toNat)
  case atStart => exact ⟨0, Nat.zero_le _, rfl, rfl⟩
  case round =>
    obtain ⟨k, hk, rfl, ha⟩ := hrel
    have HA := hide ha
    clear ha
    by_cases hlt : k < s.size
    · have hs : s.data.toList.take (k + 1) = s.data.toList.take k ++ [s[k]] := by
        rw [List.take_succ_eq_append_getElem (by simpa using hlt)]; rfl
      have HS := hide hs
      have HFI := hide (fitB_int s[k])
      clear hs
      obtain ⟨x, hx⟩ : ∃ x : Int, x = (s[k].toNat : Int) := ⟨_, rfl⟩
      have hx0 : 0 ≤ x := by omega
      have hx1 : x < 256 := by have := s[k].toNat_lt; omega
      have hlen : (s.size : Int) ≤ 64 := by omega
      by_cases a1 : x = 46 <;> by_cases a2 : x = 45 <;> by_cases a3 : x = 95 <;> by_cases a4 : x = 47 <;> by_cases c1 : 97 ≤ x <;> by_cases c2 : x ≤ 122 <;> by_cases c3 : 48 ≤ x <;> by_cases c4 : x ≤ 57
      all_goals first
        | (exfalso; omega)
        | (have hf : fitB s[k] = true := by
             rw [HFI.out, ← hx]
             simp [a1, a2, a3, a4, c1, c2, c3, c4]
           have HF := hide hf
           clear hf
           subst hx
           go_wp2
           go_round
           case rel => exact ⟨k + 1, by omega, by go_num, by rw [HS.out, List.all_append, HA.out]; simp [HF.out]⟩
           case measure => simp [intOf]; omega)
        | (have hf : fitB s[k] = false := by
             rw [HFI.out, ← hx]
             simp [a1, a2, a3, a4, c1, c2, c3, c4]
           have HF := hide hf
           clear hf
           subst hx
           have b1 : ((s[k].toNat : Int) != 46) = true := by simp; omega
           have b2 : ((s[k].toNat : Int) != 45) = true := by simp; omega
           have b3 : ((s[k].toNat : Int) != 95) = true := by simp; omega
           have b4 : ((s[k].toNat : Int) != 47) = true := by simp; omega
           clear a1 a2 a3 a4
           go_wp2
           go_ret
           refine ⟨?_, rfl⟩
           have : s.data.toList.all fitB = false := by
             rw [List.all_eq_false]
             exact ⟨s[k], by
               have : s[k] = s.data.toList[k]'(by simpa using hlt) := rfl
               rw [this]; exact List.getElem_mem _, by rw [HF.out]; simp⟩
           rw [nameErr_no (by rw [R.out, this])]
           rfl)
    · go_wp2
      go_ret
      refine ⟨?_, rfl⟩
      have e : s.data.toList.take k = s.data.toList := List.take_of_length_le (by simp; show s.size ≤ k; omega)
      have h := HA.out
      rw [e] at h
      rw [nameErr_ok (by rw [R.out, h])]
      rfl

end Go.Proofs.Ytpcblmdjgdpgeaa
