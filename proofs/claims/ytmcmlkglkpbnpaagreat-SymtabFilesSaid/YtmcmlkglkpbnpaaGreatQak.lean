/-
  What may be no symbol; a text's membership asked of a list of texts.
-/
import Derived.Test.YtmcmlkglkpbnpaaGreatQab
import Derived.Test.YtmcmlkglkpbnpaaGreatQaj
namespace Go.Proofs.YtmcmlkglkpbnpaaGreat
open Go.RowKit
theorem ret_b {a b : Bool} (h : a = b) : Ending.returned (.bool a) = .returned (.bool b) := by rw [h]
theorem cell_gb {w w' : World} {a : Addr} {u : Value} (h : w.cell? a = some u) (hg : w.grownBy w' none) : w'.cell? a = some u := by
 rw [World.cell?_of_block (hg.block _ (World.block_lt_of_cell? w _ h) (by simp))]
 exact h
set_option maxHeartbeats 4000000 in
set_option maxRecDepth 100000 in
theorem unfit_any (s : ByteArray) (w : World) : Calls Tryz.prog 92 #[.string s] w fun e w' => e = .returned (.bool (unf s)) ∧ w = w' := by
 have HI : Hid (∀ w, Calls Tryz.prog 110 #[.string s, .int .u8 0] w fun e w' => e = .returned (.int .i64 (Lib.indexByte s.data.toList 0)) ∧ w' = w) := hide (fun w => Tryz.indexByte_any s 0 w)
 by_cases h : 64 < (s.size : Int)
 ·have e1 : unf s = true := by unfold unf; rw [decide_eq_true h]; rfl
  rw [e1]
  clear e1
  go_enter Tryz.func92, Tryz.ntmps92
  go_wp2_with fail
  go_ret
  exact ⟨rfl, rfl⟩
 ·have e1 : unf s = decide (0 ≤ Lib.indexByte s.data.toList 0) := by unfold unf; rw [decide_eq_false h]; rfl
  rw [e1]
  clear e1
  generalize Lib.indexByte s.data.toList 0 = r at *
  go_enter Tryz.func92, Tryz.ntmps92
  go_wp2_with (go_at_call 110; refine (HI.out _).mono ?_; rintro e w1 ⟨rfl, rfl⟩)
  go_ret
  exact ⟨rfl, rfl⟩
def IdxPost (b : Bool) (w : World) (e : Ending) (w' : World) : Prop := ∃ r : Int, e = .returned (.int .i64 r) ∧ decide (0 ≤ r) = b ∧ w = w'
set_option maxHeartbeats 4000000 in
set_option maxRecDepth 100000 in
theorem unf_idx (l : List ByteArray) (w : World) (B : Nat) (A : Option Addr) (c : Nat) (hl : l.length ≤ 1100000) (h : Rd w B A (strs l)) :
  Calls Tryz.prog 109 #[.slice A l.length c, .func (.func 92) #[] #[]] w (IdxPost (l.any unf) w) := by
 have H := hide h
 clear h
 go_enter Tryz.func109, Tryz.ntmps109
 go_wp2_with fail
 go_loop [8] (fun i => ∃ j : Nat, i = .int .i64 (j : Int) ∧ j ≤ l.length ∧ Hid ((l.take j).any unf = false)) (fun i => l.length - (intOf i).toNat)
 case atStart => exact ⟨0, rfl, Nat.zero_le _, hide (by simp)⟩
 case round =>
  obtain ⟨j, rfl, hj, HE⟩ := hrel
  by_cases hlt : j < l.length
  ·have hlt1 : (j : Int) < (l.length : Int) := by omega
   obtain ⟨a, rfl, _, ca⟩ := H.out.str hlt
   have HC := hide (unfit_any l[j] w)
   have HL := hide (show l.take (j + 1) = l.take j ++ [l[j]] from List.take_succ_eq_append_getElem hlt)
   have HA : Hid (unf l[j] = true → l.any unf = true) := hide (fun h => List.any_eq_true.2 ⟨_, List.getElem_mem hlt, h⟩)
   cases hp : unf l[j]
   ·rw [hp] at HC
    have HP := hide hp
    clear hp
    go_wp2_with (go_at_call 92; refine HC.out.mono ?_; rintro e w1 ⟨rfl, rfl⟩)
    go_round
    case rel => exact ⟨j + 1, by go_num, by omega, hide (by rw [HL.out, List.any_append, HE.out]; simp [HP.out])⟩
    case measure => simp [intOf]; omega
   ·rw [hp] at HC
    have HA2 := hide (HA.out hp)
    clear hp
    go_wp2_with (go_at_call 92; refine HC.out.mono ?_; rintro e w1 ⟨rfl, rfl⟩)
    go_ret
    exact ⟨j, rfl, by rw [HA2.out]; exact decide_eq_true (by omega), rfl⟩
  ·have hlt1 : ¬ (j : Int) < (l.length : Int) := by omega
   have HT := hide (show l.take j = l from List.take_of_length_le (by omega))
   go_wp2_with fail
   go_ret
   exact ⟨-1, rfl, by have := HE.out; rw [HT.out] at this; rw [this]; rfl, rfl⟩
set_option maxHeartbeats 4000000 in
set_option maxRecDepth 100000 in
theorem unf_has (l : List ByteArray) (w : World) (B : Nat) (A : Option Addr) (n c : Nat) (hn : l.length = n) (hl : n ≤ 1100000) (h : Rd w B A (strs l)) :
  Calls Tryz.prog 91 #[.slice A n c, .func (.func 92) #[] #[]] w fun e w' => e = .returned (.bool (l.any unf)) ∧ w = w' := by
 subst hn
 have HI := hide (unf_idx l w B A c hl h)
 clear h
 generalize l.any unf = b at *
 go_enter Tryz.func91, Tryz.ntmps91
 go_wp2_with (go_at_call 109; refine HI.out.mono ?_; rintro e w1 ⟨r, rfl, hr, rfl⟩; have HR := hide hr; clear hr)
 go_ret
 exact ⟨ret_b (by rw [← HR.out]), rfl⟩
end Go.Proofs.YtmcmlkglkpbnpaaGreat
