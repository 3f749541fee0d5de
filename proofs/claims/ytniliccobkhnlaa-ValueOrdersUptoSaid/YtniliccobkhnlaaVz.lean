/-
  What is well formed (vectors of numbers, of symbols; tables).
-/
import Derived.Test.YtniliccobkhnlaaVy
namespace Go.Proofs.Ytniliccobkhnlaa
open Go.RowKit
attribute [local go_sem ↓] Go.wp_at_zero Go.wp_at_succ

/-- Is the name at a place no good? -/
def badName (s : List ByteArray) (i : Nat) (x : ByteArray) : Bool := x.toList.isEmpty || hasZ x || inS (s.take i) x
/-- Are the first j names good? -/
def nmGood (s : List ByteArray) (j : Nat) : Bool := (List.range j).all fun i => match s[i]? with | some x => !badName s i x | none => true
def nmOk (s : List ByteArray) : Bool := nmGood s s.length && decide (0 < s.length)
theorem nmGood_succ {s : List ByteArray} {j : Nat} (h : j < s.length) : nmGood s (j + 1) = (nmGood s j && !badName s j s[j]) := by
  unfold nmGood
  rw [List.range_succ, List.all_append]
  simp [h]
theorem nmGood_mono {s : List ByteArray} {j k : Nat} (h : j ≤ k) (hk : nmGood s k = true) : nmGood s j = true := by
  unfold nmGood at *
  rw [List.all_eq_true] at *
  exact fun x hx => hk x (List.mem_range.2 (by have := List.mem_range.1 hx; omega))

set_option maxHeartbeats 8000000 in
set_option maxRecDepth 100000 in
theorem names_any (s : List ByteArray) (w : World) (B : Nat) (A : Option Addr) (c : Nat) (hl : s.length ≤ 1100000) (hc : s.length ≤ c) (hB : B ≤ w.heap.size) (h : Rd w B A (strs s)) :
    Calls Try.prog 102 #[.slice A s.length c] w fun e w' => e = .returned (.bool (nmOk s)) ∧ w.grownBy w' none := by
  have H := hide h
  have HB := hide hB
  have hcc : (s.length : Int) ≤ (c : Int) := by omega
  clear h hB
  go_enter Try.func102, Try.ntmps102
  go_wp2_with fail
  go_loopw [7] (fun i wr => ∃ j : Nat, i = .int .i64 (j : Int) ∧ j ≤ s.length ∧ Hid (nmGood s j = true) ∧ w.grownBy wr none) (fun i _ => s.length - (intOf i).toNat)
  case atStart => exact ⟨0, rfl, Nat.zero_le _, hide rfl, gb_refl w none⟩
  case round =>
    obtain ⟨j, rfl, hj, HE, hgr⟩ := hrel
    have HGR := hide hgr
    by_cases hlt : j < s.length
    · have hlt1 : (j : Int) < (s.length : Int) := by omega
      obtain ⟨a, rfl, _, ca⟩ := H.out.str hlt
      have ca := cell_gb ca hgr
      have HG := hide (nmGood_succ hlt)
      have HBAD : Hid (badName s j s[j] = true → nmOk s = false) := hide (fun hb => by
        unfold nmOk
        cases hk : nmGood s s.length
        · rfl
        · have := nmGood_mono (show j + 1 ≤ s.length by omega) hk
          rw [HG.out, hb] at this
          simp at this)
      have HBN := hide (show badName s j s[j] = (s[j].toList.isEmpty || hasZ s[j] || inS (s.take j) s[j]) from rfl)
      have HZ := hide (fun w2 => hasZ_any s[j] w2)
      have HTL := hide (show (s.take j).length = j by rw [List.length_take]; omega)
      have HMEM := hide (fun w2 (k : w.grownBy w2 none) => memS_any (s.take j) s[j] w2 B (some a) c (by rw [List.length_take]; omega) (by
        have := (H.out.take j).grown k HB.out (by simp)
        simpa [strs] using this))
      rw [HTL.out] at HMEM
      have hj0 : (0 : Int) ≤ (j : Int) := by omega
      have hjc : (j : Int) ≤ (c : Int) := by omega
      clear hgr
      generalize hxe : s[j] = x at *
      clear hxe
      cases he : x.toList.isEmpty
      · have he2 : (x.toList == []) = false := by
          cases hxl : x.toList
          · rw [hxl] at he; cases he
          · rfl
        cases hz : hasZ x
        · rw [hz] at HZ
          cases hm : inS (s.take j) x
          · have HGO := hide (show nmGood s (j + 1) = true by rw [HG.out, HE.out, HBN.out, he, hz, hm]; rfl)
            rw [hm] at HMEM
            clear hz hm HBN HG HBAD
            go_wp2_with (first
              | (go_at_call 100; refine (HZ.out _).mono ?_; rintro e w1 ⟨rfl, hg1⟩; have HG1 := hide (gb_trans HGR.out hg1 (.inl rfl)); clear hg1)
              | (go_at_call 107; refine (HMEM.out _ HG1.out).mono ?_; rintro e w2 ⟨rfl, hg2⟩; have HG2 := hide (gb_trans HG1.out hg2 (.inl rfl)); clear hg2))
            go_roundw
            case rel => exact ⟨j + 1, by go_num, by omega, HGO, HG2.out⟩
            case measure => simp [intOf]; omega
          · have HNO := hide (HBAD.out (by rw [HBN.out, he, hz, hm]; rfl))
            rw [hm] at HMEM
            clear hz hm HBN HG HBAD
            go_wp2_with (first
              | (go_at_call 100; refine (HZ.out _).mono ?_; rintro e w1 ⟨rfl, hg1⟩; have HG1 := hide (gb_trans HGR.out hg1 (.inl rfl)); clear hg1)
              | (go_at_call 107; refine (HMEM.out _ HG1.out).mono ?_; rintro e w2 ⟨rfl, hg2⟩; have HG2 := hide (gb_trans HG1.out hg2 (.inl rfl)); clear hg2))
            go_ret
            exact ⟨ret_b HNO.out.symm, HG2.out⟩
        · rw [hz] at HZ
          have HNO := hide (HBAD.out (by rw [HBN.out, he, hz]; rfl))
          clear hz HBN HG HBAD
          go_wp2_with (first
            | (go_at_call 100; refine (HZ.out _).mono ?_; rintro e w1 ⟨rfl, hg1⟩; have HG1 := hide (gb_trans HGR.out hg1 (.inl rfl)); clear hg1))
          go_ret
          exact ⟨ret_b HNO.out.symm, HG1.out⟩
      · have HNO := hide (HBAD.out (by rw [HBN.out, he]; rfl))
        clear HBN HG HBAD
        go_wp2_with fail
        go_ret
        exact ⟨ret_b HNO.out.symm, HGR.out⟩
    · have hlt1 : ¬ (j : Int) < (s.length : Int) := by omega
      obtain rfl : j = s.length := by omega
      have HR : Hid (decide ((0 : Int) < (s.length : Int)) = nmOk s) := hide (by unfold nmOk; rw [HE.out, Bool.true_and, decide_eq_decide]; omega)
      clear hgr
      go_wp2_with fail
      go_ret
      exact ⟨ret_b (by first | exact HR.out | (rw [← HR.out]; simp)), HGR.out⟩
end Go.Proofs.Ytniliccobkhnlaa
