/-
  Equal lists; equal values.
-/
import Derived.Test.YtfckmkpfhchggaaChecked
import Derived.Test.YtfckmkpfhchggaaVAt
import Derived.Deep.QuietTactic
import Derived.BigQuiet
namespace Go.Proofs.Ytfckmkpfhchggaa
open Go.RowKit

theorem ba_eq {a b : ByteArray} (h : a = b) : (a.toList == b.toList) = true := by rw [h]; simp
theorem ba_ne {a b : ByteArray} (h : a ≠ b) : (a.toList == b.toList) = false := by
  rw [beq_eq_false_iff_ne]
  intro e
  rw [ByteArray.toList_eq, ByteArray.toList_eq] at e
  exact h (ByteArray.ext (Array.toList_inj.1 e))
theorem take_eq_step {α : Type} {l m : List α} {j : Nat} (h : l.take j = m.take j) (h1 : j < l.length) (h2 : j < m.length) (he : l[j] = m[j]) : l.take (j + 1) = m.take (j + 1) := by
  rw [List.take_succ_eq_append_getElem h1, List.take_succ_eq_append_getElem h2, h, he]
theorem take_eq_all {α : Type} {l m : List α} {j : Nat} (h : l.take j = m.take j) (h1 : ¬ j < l.length) (h2 : l.length = m.length) : l = m := by
  rwa [List.take_of_length_le (by omega), List.take_of_length_le (by omega)] at h

set_option maxHeartbeats 4000000 in
set_option maxRecDepth 100000 in
theorem eqI_any (A A' : Option Addr) (c c' B : Nat) (l m : List Int) (w : World) (h : Rd w B A (i64s l)) (h' : Rd w B A' (i64s m)) (hl : l.length ≤ 1100000) (hm : m.length ≤ 1100000) :
    Calls Try.prog 65 #[.slice A l.length c, .slice A' m.length c'] w fun e w' => e = .returned (.bool (decide (l = m))) ∧ w.grownBy w' none := by
  have H := hide h
  have H' := hide h'
  clear h h'
  by_cases hne : l.length = m.length
  · have hb : ((l.length : Int) == (m.length : Int)) = true := beq_iff_eq.2 (by omega)
    have hb2 : ((l.length : Int) != (m.length : Int)) = false := by rw [bne, hb]; rfl
    have HNE := hide hne
    clear hne
    go_enter Try.func65, Try.ntmps65
    go_wp2_with fail
    go_loopw [13] (fun i wr => ∃ j : Nat, i = .int .i64 (j : Int) ∧ j ≤ l.length ∧ l.take j = m.take j ∧ w.grownBy wr none) (fun i _ => l.length - (intOf i).toNat)
    case atStart => exact ⟨0, rfl, by omega, rfl, gb_refl w none⟩
    case round =>
      obtain ⟨j, rfl, hj, he, hg⟩ := hrel
      have HE := hide he
      have HG := hide hg
      clear he hg
      by_cases hlt : j < l.length
      · have hlt1 : (j : Int) < (l.length : Int) := by omega
        have hltm : j < m.length := by have := HNE.out; omega
        have hlt2 : (j : Int) < (m.length : Int) := by omega
        obtain ⟨a, rfl, _, ca⟩ := H.out.i64 hlt
        obtain ⟨a', rfl, _, ca'⟩ := H'.out.i64 hltm
        have ca := cell_gb ca HG.out
        have ca' := cell_gb ca' HG.out
        by_cases hx : l[j] = m[j]
        · have hx1 : (l[j] == m[j]) = true := beq_iff_eq.2 hx
          have hx2 : (l[j] != m[j]) = false := by rw [bne, hx1]; rfl
          have HX := hide hx
          clear hx
          go_wp2_with fail
          go_quiet (fail)
          go_wp2_with fail
          go_roundw
          case rel => exact ⟨j + 1, by go_num, by omega, take_eq_step HE.out hlt hltm HX.out, by first | exact gb_drewN HG.out _ | exact HG.out⟩
          case measure => simp [intOf]; omega
        · have hx1 : (l[j] == m[j]) = false := beq_eq_false_iff_ne.2 hx
          have hx2 : (l[j] != m[j]) = true := by rw [bne, hx1]; rfl
          have HX := hide hx
          clear hx
          go_wp2_with fail
          go_quiet (fail)
          go_wp2_with fail
          go_ret
          exact ⟨ret_b (Eq.symm (decide_eq_false (by rintro rfl; exact HX.out rfl))), gb_drewN HG.out _⟩
      · have hlt1 : ¬ (j : Int) < (l.length : Int) := by omega
        have HL := hide (take_eq_all HE.out hlt HNE.out)
        go_wp2_with fail
        go_ret
        exact ⟨ret_b (Eq.symm (decide_eq_true HL.out)), HG.out⟩
  · have hb : ((l.length : Int) == (m.length : Int)) = false := beq_eq_false_iff_ne.2 (by omega)
    have hb2 : ((l.length : Int) != (m.length : Int)) = true := by rw [bne, hb]; rfl
    have HNE := hide hne
    clear hne
    go_enter Try.func65, Try.ntmps65
    go_wp2_with fail
    go_ret
    exact ⟨ret_b (Eq.symm (decide_eq_false (by rintro rfl; exact HNE.out rfl))), gb_refl w none⟩
set_option maxHeartbeats 4000000 in
set_option maxRecDepth 100000 in
theorem eqS_any (A A' : Option Addr) (c c' B : Nat) (l m : List ByteArray) (w : World) (h : Rd w B A (strs l)) (h' : Rd w B A' (strs m)) (hl : l.length ≤ 1100000) (hm : m.length ≤ 1100000) :
    Calls Try.prog 66 #[.slice A l.length c, .slice A' m.length c'] w fun e w' => e = .returned (.bool (decide (l = m))) ∧ w.grownBy w' none := by
  have H := hide h
  have H' := hide h'
  clear h h'
  by_cases hne : l.length = m.length
  · have hb : ((l.length : Int) == (m.length : Int)) = true := beq_iff_eq.2 (by omega)
    have hb2 : ((l.length : Int) != (m.length : Int)) = false := by rw [bne, hb]; rfl
    have HNE := hide hne
    clear hne
    go_enter Try.func66, Try.ntmps66
    go_wp2_with fail
    go_loopw [13] (fun i wr => ∃ j : Nat, i = .int .i64 (j : Int) ∧ j ≤ l.length ∧ l.take j = m.take j ∧ w.grownBy wr none) (fun i _ => l.length - (intOf i).toNat)
    case atStart => exact ⟨0, rfl, by omega, rfl, gb_refl w none⟩
    case round =>
      obtain ⟨j, rfl, hj, he, hg⟩ := hrel
      have HE := hide he
      have HG := hide hg
      clear he hg
      by_cases hlt : j < l.length
      · have hlt1 : (j : Int) < (l.length : Int) := by omega
        have hltm : j < m.length := by have := HNE.out; omega
        have hlt2 : (j : Int) < (m.length : Int) := by omega
        obtain ⟨a, rfl, _, ca⟩ := H.out.str hlt
        obtain ⟨a', rfl, _, ca'⟩ := H'.out.str hltm
        have ca := cell_gb ca HG.out
        have ca' := cell_gb ca' HG.out
        by_cases hx : l[j] = m[j]
        · have hx1 := ba_eq hx
          have HX := hide hx
          clear hx
          go_wp2_with fail
          go_quiet (fail)
          go_wp2_with fail
          go_roundw
          case rel => exact ⟨j + 1, by go_num, by omega, take_eq_step HE.out hlt hltm HX.out, by first | exact gb_drewN HG.out _ | exact HG.out⟩
          case measure => simp [intOf]; omega
        · have hx1 := ba_ne hx
          have HX := hide hx
          clear hx
          go_wp2_with fail
          go_quiet (fail)
          go_wp2_with fail
          go_ret
          exact ⟨ret_b (Eq.symm (decide_eq_false (by rintro rfl; exact HX.out rfl))), gb_drewN HG.out _⟩
      · have hlt1 : ¬ (j : Int) < (l.length : Int) := by omega
        have HL := hide (take_eq_all HE.out hlt HNE.out)
        go_wp2_with fail
        go_ret
        exact ⟨ret_b (Eq.symm (decide_eq_true HL.out)), HG.out⟩
  · have hb : ((l.length : Int) == (m.length : Int)) = false := beq_eq_false_iff_ne.2 (by omega)
    have hb2 : ((l.length : Int) != (m.length : Int)) = true := by rw [bne, hb]; rfl
    have HNE := hide hne
    clear hne
    go_enter Try.func66, Try.ntmps66
    go_wp2_with fail
    go_ret
    exact ⟨ret_b (Eq.symm (decide_eq_false (by rintro rfl; exact HNE.out rfl))), gb_refl w none⟩
end Go.Proofs.Ytfckmkpfhchggaa
