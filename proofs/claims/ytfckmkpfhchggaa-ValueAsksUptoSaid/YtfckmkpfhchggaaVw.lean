/-
  Texts that fit: too long, with a zero, twice the same.
-/
import Derived.Test.YtfckmkpfhchggaaShf
namespace Go.Proofs.Ytfckmkpfhchggaa
open Go.RowKit
attribute [local go_sem ↓] Go.wp_at_zero Go.wp_at_succ

/-- Is a text too long? -/
def longS (m : Int) (s : ByteArray) : Bool := decide (m < (s.size : Int))
set_option maxHeartbeats 4000000 in
set_option maxRecDepth 100000 in
theorem longS_any (m : Int) (s : ByteArray) (g : Nat) (w : World) (hg : w.cell? ⟨g, 0, none⟩ = some (.int .i64 m)) :
    Calls Try.prog 97 #[.string s, .pointer (some ⟨g, 0, none⟩)] w fun e w' => e = .returned (.bool (longS m s)) ∧ w.grownBy w' none := by
  have HD := hide (show longS m s = decide (m < (s.size : Int)) from rfl)
  rw [HD.out]
  clear HD
  go_enter Try.func97, Try.ntmps97
  go_wp2_with fail
  go_ret
  exact ⟨rfl, gb_refl _ none⟩
def IdxPost (b : Bool) (w : World) (e : Ending) (w' : World) : Prop := ∃ r : Int, e = .returned (.int .i64 r) ∧ decide (0 ≤ r) = b ∧ w.grownBy w' none

set_option maxHeartbeats 4000000 in
set_option maxRecDepth 100000 in
theorem longS_idx (m : Int) (g : Nat) (l : List ByteArray) (w : World) (B : Nat) (A : Option Addr) (c : Nat) (hl : l.length ≤ 1100000) (hB : B ≤ w.heap.size) (h : Rd w B A (strs l)) (hg : w.cell? ⟨g, 0, none⟩ = some (.int .i64 m)) :
    Calls Try.prog 104 #[.slice A l.length c, .func (.func 97) #[] #[.pointer (some ⟨g, 0, none⟩)]] w (IdxPost (l.any (longS m)) w) := by
  have H := hide h
  have HB := hide hB
  have HGF := hide hg
  clear hg
  clear h hB
  go_enter Try.func104, Try.ntmps104
  go_wp2_with fail
  go_loopw [8] (fun i wr => ∃ j : Nat, i = .int .i64 (j : Int) ∧ j ≤ l.length ∧ Hid ((l.take j).any (longS m) = false) ∧ w.grownBy wr none) (fun i _ => l.length - (intOf i).toNat)
  case atStart => exact ⟨0, rfl, Nat.zero_le _, hide (by simp), gb_refl w none⟩
  case round =>
    obtain ⟨j, rfl, hj, HE, hgr⟩ := hrel
    have HGR := hide hgr
    clear hgr
    by_cases hlt : j < l.length
    · have hlt1 : (j : Int) < (l.length : Int) := by omega
      obtain ⟨a, rfl, _, ca⟩ := H.out.str hlt
      have ca := cell_gb ca HGR.out
      have HC := hide (longS_any m l[j] g wr (cell_gb HGF.out HGR.out))
      have HL := hide (show l.take (j + 1) = l.take j ++ [l[j]] from List.take_succ_eq_append_getElem hlt)
      have HA : Hid (((longS m)) l[j] = true → l.any (longS m) = true) := hide (fun h => List.any_eq_true.2 ⟨_, List.getElem_mem hlt, h⟩)
      cases hp : ((longS m)) l[j]
      · rw [hp] at HC
        have HP := hide hp
        clear hp
        go_wp2_with (go_at_call 97; refine HC.out.mono ?_; rintro e w1 ⟨rfl, hg1⟩; have HG1 := hide hg1; clear hg1)
        go_roundw
        case rel => exact ⟨j + 1, by go_num, by omega, hide (by rw [HL.out, List.any_append, HE.out]; simp [HP.out]), gb_trans HGR.out HG1.out (.inl rfl)⟩
        case measure => simp [intOf]; omega
      · rw [hp] at HC
        have HA2 := hide (HA.out hp)
        clear hp
        go_wp2_with (go_at_call 97; refine HC.out.mono ?_; rintro e w1 ⟨rfl, hg1⟩; have HG1 := hide hg1; clear hg1)
        go_ret
        exact ⟨j, rfl, by rw [HA2.out]; exact decide_eq_true (by omega), gb_trans HGR.out HG1.out (.inl rfl)⟩
    · have hlt1 : ¬ (j : Int) < (l.length : Int) := by omega
      have HT := hide (show l.take j = l from List.take_of_length_le (by omega))
      go_wp2_with fail
      go_ret
      exact ⟨-1, rfl, by have := HE.out; rw [HT.out] at this; rw [this]; rfl, HGR.out⟩
set_option maxHeartbeats 4000000 in
set_option maxRecDepth 100000 in
theorem longS_has (m : Int) (g : Nat) (l : List ByteArray) (w : World) (B : Nat) (A : Option Addr) (c : Nat) (hl : l.length ≤ 1100000) (hB : B ≤ w.heap.size) (h : Rd w B A (strs l)) (hg : w.cell? ⟨g, 0, none⟩ = some (.int .i64 m)) :
    Calls Try.prog 96 #[.slice A l.length c, .func (.func 97) #[] #[.pointer (some ⟨g, 0, none⟩)]] w fun e w' => e = .returned (.bool (l.any (longS m))) ∧ w.grownBy w' none := by
  have HI := hide (longS_idx m g l w B A c hl hB h hg)
  clear h hB
  generalize l.any (longS m) = b at *
  go_enter Try.func96, Try.ntmps96
  go_wp2_with (go_at_call 104; refine HI.out.mono ?_; rintro e w1 ⟨r, rfl, hr, hg1⟩; have HR := hide hr; have HG1 := hide hg1; clear hr hg1)
  go_ret
  exact ⟨ret_b (by rw [← HR.out]), HG1.out⟩

set_option maxHeartbeats 4000000 in
set_option maxRecDepth 100000 in
theorem hasZ_idx  (l : List ByteArray) (w : World) (B : Nat) (A : Option Addr) (c : Nat) (hl : l.length ≤ 1100000) (hB : B ≤ w.heap.size) (h : Rd w B A (strs l))  :
    Calls Try.prog 104 #[.slice A l.length c, .func (.func 100) #[] #[]] w (IdxPost (l.any hasZ) w) := by
  have H := hide h
  have HB := hide hB
  clear h hB
  go_enter Try.func104, Try.ntmps104
  go_wp2_with fail
  go_loopw [8] (fun i wr => ∃ j : Nat, i = .int .i64 (j : Int) ∧ j ≤ l.length ∧ Hid ((l.take j).any hasZ = false) ∧ w.grownBy wr none) (fun i _ => l.length - (intOf i).toNat)
  case atStart => exact ⟨0, rfl, Nat.zero_le _, hide (by simp), gb_refl w none⟩
  case round =>
    obtain ⟨j, rfl, hj, HE, hgr⟩ := hrel
    have HGR := hide hgr
    clear hgr
    by_cases hlt : j < l.length
    · have hlt1 : (j : Int) < (l.length : Int) := by omega
      obtain ⟨a, rfl, _, ca⟩ := H.out.str hlt
      have ca := cell_gb ca HGR.out
      have HC := hide (hasZ_any l[j] wr)
      have HL := hide (show l.take (j + 1) = l.take j ++ [l[j]] from List.take_succ_eq_append_getElem hlt)
      have HA : Hid ((hasZ) l[j] = true → l.any hasZ = true) := hide (fun h => List.any_eq_true.2 ⟨_, List.getElem_mem hlt, h⟩)
      cases hp : (hasZ) l[j]
      · rw [hp] at HC
        have HP := hide hp
        clear hp
        go_wp2_with (go_at_call 100; refine HC.out.mono ?_; rintro e w1 ⟨rfl, hg1⟩; have HG1 := hide hg1; clear hg1)
        go_roundw
        case rel => exact ⟨j + 1, by go_num, by omega, hide (by rw [HL.out, List.any_append, HE.out]; simp [HP.out]), gb_trans HGR.out HG1.out (.inl rfl)⟩
        case measure => simp [intOf]; omega
      · rw [hp] at HC
        have HA2 := hide (HA.out hp)
        clear hp
        go_wp2_with (go_at_call 100; refine HC.out.mono ?_; rintro e w1 ⟨rfl, hg1⟩; have HG1 := hide hg1; clear hg1)
        go_ret
        exact ⟨j, rfl, by rw [HA2.out]; exact decide_eq_true (by omega), gb_trans HGR.out HG1.out (.inl rfl)⟩
    · have hlt1 : ¬ (j : Int) < (l.length : Int) := by omega
      have HT := hide (show l.take j = l from List.take_of_length_le (by omega))
      go_wp2_with fail
      go_ret
      exact ⟨-1, rfl, by have := HE.out; rw [HT.out] at this; rw [this]; rfl, HGR.out⟩
set_option maxHeartbeats 4000000 in
set_option maxRecDepth 100000 in
theorem hasZ_has  (l : List ByteArray) (w : World) (B : Nat) (A : Option Addr) (c : Nat) (hl : l.length ≤ 1100000) (hB : B ≤ w.heap.size) (h : Rd w B A (strs l))  :
    Calls Try.prog 96 #[.slice A l.length c, .func (.func 100) #[] #[]] w fun e w' => e = .returned (.bool (l.any hasZ)) ∧ w.grownBy w' none := by
  have HI := hide (hasZ_idx  l w B A c hl hB h )
  clear h hB
  generalize l.any hasZ = b at *
  go_enter Try.func96, Try.ntmps96
  go_wp2_with (go_at_call 104; refine HI.out.mono ?_; rintro e w1 ⟨r, rfl, hr, hg1⟩; have HR := hide hr; have HG1 := hide hg1; clear hr hg1)
  go_ret
  exact ⟨ret_b (by rw [← HR.out]), HG1.out⟩

def inS (l : List ByteArray) (x : ByteArray) : Bool := l.any fun y => decide (y = x)
theorem inS_yes {l : List ByteArray} {x : ByteArray} (h : x ∈ l) : inS l x = true := List.any_eq_true.2 ⟨x, h, decide_eq_true rfl⟩
theorem inS_no {l : List ByteArray} {x : ByteArray} (h : ¬ x ∈ l) : inS l x = false := by
  rw [Bool.eq_false_iff]
  intro hc
  obtain ⟨y, hy, he⟩ := List.any_eq_true.1 hc
  exact h ((of_decide_eq_true he) ▸ hy)
set_option maxHeartbeats 4000000 in
set_option maxRecDepth 100000 in
theorem idxS_any (l : List ByteArray) (x : ByteArray) (w : World) (B : Nat) (A : Option Addr) (c : Nat) (hl : l.length ≤ 1100000) (h : Rd w B A (strs l)) :
    Calls Try.prog 109 #[.slice A l.length c, .string x] w (IdxPost (inS l x) w) := by
  have H := hide h
  clear h
  go_enter Try.func109, Try.ntmps109
  go_wp2_with fail
  go_loop [8] (fun i => ∃ j : Nat, i = .int .i64 (j : Int) ∧ j ≤ l.length ∧ Hid (¬ x ∈ l.take j)) (fun i => l.length - (intOf i).toNat)
  case atStart => exact ⟨0, rfl, Nat.zero_le _, hide (by simp)⟩
  case round =>
    obtain ⟨j, rfl, hj, HE⟩ := hrel
    by_cases hlt : j < l.length
    · have hlt1 : (j : Int) < (l.length : Int) := by omega
      obtain ⟨a, rfl, _, ca⟩ := H.out.str hlt
      have HL := hide (show l.take (j + 1) = l.take j ++ [l[j]] from List.take_succ_eq_append_getElem hlt)
      by_cases hx : x = l[j]
      · have e1 := ba_eq hx
        have HM : Hid (x ∈ l) := hide (by rw [hx]; exact List.getElem_mem hlt)
        clear hx
        go_wp2_with fail
        go_ret
        exact ⟨j, rfl, by rw [inS_yes HM.out]; exact decide_eq_true (by omega), gb_refl _ none⟩
      · have e1 := ba_ne hx
        have HX := hide hx
        clear hx
        go_wp2_with fail
        go_round
        case rel => exact ⟨j + 1, by go_num, by omega, hide (by rw [HL.out, List.mem_append, List.mem_singleton]; exact fun h => h.elim HE.out HX.out)⟩
        case measure => simp [intOf]; omega
    · have hlt1 : ¬ (j : Int) < (l.length : Int) := by omega
      have HT := hide (show l.take j = l from List.take_of_length_le (by omega))
      go_wp2_with fail
      go_ret
      exact ⟨-1, rfl, by have := HE.out; rw [HT.out] at this; rw [inS_no this]; rfl, gb_refl _ none⟩
set_option maxHeartbeats 4000000 in
set_option maxRecDepth 100000 in
theorem memS_any (l : List ByteArray) (x : ByteArray) (w : World) (B : Nat) (A : Option Addr) (c : Nat) (hl : l.length ≤ 1100000) (h : Rd w B A (strs l)) :
    Calls Try.prog 107 #[.slice A l.length c, .string x] w fun e w' => e = .returned (.bool (inS l x)) ∧ w.grownBy w' none := by
  have HI := hide (idxS_any l x w B A c hl h)
  clear h
  generalize inS l x = b at *
  go_enter Try.func107, Try.ntmps107
  go_wp2_with (go_at_call 109; refine HI.out.mono ?_; rintro e w1 ⟨r, rfl, hr, hg1⟩; have HR := hide hr; have HG1 := hide hg1; clear hr hg1)
  go_ret
  exact ⟨ret_b (by rw [← HR.out]), HG1.out⟩
end Go.Proofs.Ytfckmkpfhchggaa
