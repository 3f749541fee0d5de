/-
  The document's own symbol, list.
-/
import Derived.Test.YtbmgodmfpoappaaGreatQKe
namespace Go.Proofs.YtbmgodmfpoappaaGreat
open Go.RowKit
attribute [local go_sem ↓] Go.wp_at_zero Go.wp_at_succ
def symS (s : ByteArray) : Bool := s.data.toList.all fun c => c != 0
set_option maxHeartbeats 4000000 in
set_option maxRecDepth 100000 in
theorem rSymbol_ok (s : ByteArray) (w : World) (hs : s.size ≤ 1200000000) : Calls Tryz.prog 116 #[.string s] w fun e w' => e = .returned (.bool (symS s)) ∧ w = w' := by
 have R := hide (show symS s = s.data.toList.all (fun c => c != 0) from rfl)
 go_enter Tryz.func116, Tryz.ntmps116
 go_wp2_with fail
 go_loopw [3] (fun i wr => ∃ k : Nat, i = .int .i64 (k : Int) ∧ k ≤ s.size ∧ Hid ((s.data.toList.take k).all (fun c => c != 0) = true) ∧ w = wr) (fun i _ => s.size - (intOf i).toNat)
 case atStart => exact ⟨0, rfl, Nat.zero_le _, hide rfl, rfl⟩
 case round =>
  obtain ⟨k, rfl, hk, HA, rfl⟩ := hrel
  by_cases hlt : k < s.size
  ·have hlt1 : (k : Int) < (s.size : Int) := by omega
   have HS : Hid (s.data.toList.take (k + 1) = s.data.toList.take k ++ [s[k]]) := hide (by rw [List.take_succ_eq_append_getElem (by simpa using hlt)]; rfl)
   by_cases hz : s[k] = 0
   ·have HB := hide (show symS s = false by
     rw [R.out, List.all_eq_false]
     exact ⟨s[k], by
      have : s[k] = s.data.toList[k]'(by simpa using hlt) := rfl
      rw [this]; exact List.getElem_mem _, by rw [hz]; simp⟩)
    have e0 : ((s[k].toNat : Int) == 0) = true := by rw [hz]; rfl
    clear hz
    go_wp2_with fail
    go_ret
    exact ⟨ret_b HB.out.symm, rfl⟩
   ·have HF := hide (show (s[k] != 0) = true by rw [bne_iff_ne]; exact hz)
    have e0 : ((s[k].toNat : Int) == 0) = false := int_beq_f (fun e => hz (UInt8.toNat_inj.1 (by have : s[k].toNat = 0 := (by omega); rw [this]; rfl)))
    clear hz
    go_wp2_with fail
    go_roundw
    case rel => exact ⟨k + 1, by go_num, by omega, hide (by rw [HS.out, List.all_append, HA.out]; simp [HF.out]), trivial⟩
    case measure => simp [intOf]; omega
  ·have hlt1 : ¬ (k : Int) < (s.size : Int) := by omega
   have HB := hide (show symS s = true by
    have h1 := HA.out
    rw [List.take_of_length_le (by rw [Array.length_toList]; show s.size ≤ k; omega)] at h1
    rw [R.out]; exact h1)
   go_wp2_with fail
   go_ret
   exact ⟨ret_b HB.out.symm, rfl⟩
end Go.Proofs.YtbmgodmfpoappaaGreat
