/-
  A file system's block; the contracts of FS.count, ready, Arm, Dead, Ops, Used, Capacity, SetCapacity.
-/
import Derived.Test.YtpkmlehkmmdkoaaSim1
namespace Go.Proofs.Ytpkmlehkmmdkoaa
open Go.RowKit

/-- What a file system's block holds. -/
structure FsV where
  cap : Int
  used : Int
  last : Int
  mf : Nat
  mn : Nat
  ms : Nat
  vch : Value
  ops : Int
  armed : Int
  dead : Bool
def FsV.cells (v : FsV) : Array Value := #[.int .i64 v.cap, .int .i64 v.used, .int .i64 v.last, .map (some v.mf), .map (some v.mn), .map (some v.ms), v.vch, .int .i64 v.ops, .int .i64 v.armed, .bool v.dead]
def FsB (w : World) (g : Nat) (v : FsV) : Prop := w.heap[g]? = some (.cells v.cells 75 (0, 0))

theorem FsB.lt {w : World} {g : Nat} {v : FsV} (h : FsB w g v) : g < w.heap.size := blk_lt h
theorem FsB.keep {w w' : World} {g : Nat} {v : FsV} (h : FsB w g v) (hk : w'.heap[g]? = w.heap[g]?) : FsB w' g v := hk.trans h
theorem FsB.cell {w : World} {g : Nat} {v : FsV} (h : FsB w g v) (i : Nat) : w.cell? ⟨g, i, none⟩ = v.cells[i]? := blk_cell h i
theorem FsB.c0 {w : World} {g : Nat} {v : FsV} (h : FsB w g v) : w.cell? ⟨g, 0, none⟩ = some (.int .i64 v.cap) := h.cell 0
theorem FsB.c1 {w : World} {g : Nat} {v : FsV} (h : FsB w g v) : w.cell? ⟨g, 1, none⟩ = some (.int .i64 v.used) := h.cell 1
theorem FsB.c2 {w : World} {g : Nat} {v : FsV} (h : FsB w g v) : w.cell? ⟨g, 2, none⟩ = some (.int .i64 v.last) := h.cell 2
theorem FsB.c3 {w : World} {g : Nat} {v : FsV} (h : FsB w g v) : w.cell? ⟨g, 3, none⟩ = some (.map (some v.mf)) := h.cell 3
theorem FsB.c4 {w : World} {g : Nat} {v : FsV} (h : FsB w g v) : w.cell? ⟨g, 4, none⟩ = some (.map (some v.mn)) := h.cell 4
theorem FsB.c5 {w : World} {g : Nat} {v : FsV} (h : FsB w g v) : w.cell? ⟨g, 5, none⟩ = some (.map (some v.ms)) := h.cell 5
theorem FsB.c6 {w : World} {g : Nat} {v : FsV} (h : FsB w g v) : w.cell? ⟨g, 6, none⟩ = some v.vch := h.cell 6
theorem FsB.c7 {w : World} {g : Nat} {v : FsV} (h : FsB w g v) : w.cell? ⟨g, 7, none⟩ = some (.int .i64 v.ops) := h.cell 7
theorem FsB.c8 {w : World} {g : Nat} {v : FsV} (h : FsB w g v) : w.cell? ⟨g, 8, none⟩ = some (.int .i64 v.armed) := h.cell 8
theorem FsB.c9 {w : World} {g : Nat} {v : FsV} (h : FsB w g v) : w.cell? ⟨g, 9, none⟩ = some (.bool v.dead) := h.cell 9
theorem FsB.fr {w : World} {g : Nat} {v : FsV} (h : FsB w g v) (i : Nat) : w.frozen? ⟨g, i, none⟩ = false := blk_frozen h i

theorem gb_set {a w : World} {g : Nat} (h : a.grownBy w (some g)) (i : Nat) (u : Value) : a.grownBy (w.setCell ⟨g, i, none⟩ u) (some g) := gb_setCell h (.inl rfl) u
theorem FsB.set_ {w : World} {g : Nat} {v v' : FsV} (h : FsB w g v) (i : Nat) (u : Value) (e : v.cells.setIfInBounds i u = v'.cells) : FsB (w.setCell ⟨g, i, none⟩ u) g v' := by
  have := blk_set h i u
  rw [e] at this
  exact this
theorem FsB.set0 {w : World} {g : Nat} {v : FsV} (h : FsB w g v) (x : Int) : FsB (w.setCell ⟨g, 0, none⟩ (.int .i64 x)) g { v with cap := x } := h.set_ 0 _ rfl
theorem FsB.set1 {w : World} {g : Nat} {v : FsV} (h : FsB w g v) (x : Int) : FsB (w.setCell ⟨g, 1, none⟩ (.int .i64 x)) g { v with used := x } := h.set_ 1 _ rfl
theorem FsB.set2 {w : World} {g : Nat} {v : FsV} (h : FsB w g v) (x : Int) : FsB (w.setCell ⟨g, 2, none⟩ (.int .i64 x)) g { v with last := x } := h.set_ 2 _ rfl
theorem FsB.set3 {w : World} {g : Nat} {v : FsV} (h : FsB w g v) (x : Nat) : FsB (w.setCell ⟨g, 3, none⟩ (.map (some x))) g { v with mf := x } := h.set_ 3 _ rfl
theorem FsB.set4 {w : World} {g : Nat} {v : FsV} (h : FsB w g v) (x : Nat) : FsB (w.setCell ⟨g, 4, none⟩ (.map (some x))) g { v with mn := x } := h.set_ 4 _ rfl
theorem FsB.set5 {w : World} {g : Nat} {v : FsV} (h : FsB w g v) (x : Nat) : FsB (w.setCell ⟨g, 5, none⟩ (.map (some x))) g { v with ms := x } := h.set_ 5 _ rfl
theorem FsB.set6 {w : World} {g : Nat} {v : FsV} (h : FsB w g v) (x : Value) : FsB (w.setCell ⟨g, 6, none⟩ x) g { v with vch := x } := h.set_ 6 _ rfl
theorem FsB.set7 {w : World} {g : Nat} {v : FsV} (h : FsB w g v) (x : Int) : FsB (w.setCell ⟨g, 7, none⟩ (.int .i64 x)) g { v with ops := x } := h.set_ 7 _ rfl
theorem FsB.set8 {w : World} {g : Nat} {v : FsV} (h : FsB w g v) (x : Int) : FsB (w.setCell ⟨g, 8, none⟩ (.int .i64 x)) g { v with armed := x } := h.set_ 8 _ rfl
theorem FsB.set9 {w : World} {g : Nat} {v : FsV} (h : FsB w g v) (x : Bool) : FsB (w.setCell ⟨g, 9, none⟩ (.bool x)) g { v with dead := x } := h.set_ 9 _ rfl

/-- An operation is counted. -/
def FsV.count (v : FsV) : FsV := if 0 < v.armed then { v with ops := v.ops + 1, armed := v.armed - 1, dead := v.armed - 1 == 0 } else { v with ops := v.ops + 1 }

set_option maxHeartbeats 1000000 in
theorem count_any (g : Nat) (v : FsV) (w : World) (h : FsB w g v) (h0 : 0 ≤ v.ops) (h1 : v.ops ≤ 2000000000) (ha : v.armed ≤ 9223372036854775807) :
    Calls Try.prog 43 #[.pointer (some ⟨g, 0, none⟩)] w fun e w' => e = .returned (.tuple #[]) ∧ FsB w' g v.count ∧ w.grownBy w' (some g) := by
  have h7 := h.c7
  have h8 := h.c8
  have h9 := h.c9
  have f7 := h.fr 7
  have f8 := h.fr 8
  have f9 := h.fr 9
  have H := hide h
  clear h
  by_cases hp : 0 < v.armed
  · have e1 : v.count = { v with ops := v.ops + 1, armed := v.armed - 1, dead := v.armed - 1 == 0 } := if_pos hp
    have E1 := hide e1
    clear e1
    go_enter Try.func43, Try.ntmps43
    go_wp2
    go_end0
    exact ⟨rfl, by rw [E1.out]; exact ((H.out.set7 _).set8 _).set9 _, gb_set (gb_set (gb_set (gb_refl _ _) _ _) _ _) _ _⟩
  · have e1 : v.count = { v with ops := v.ops + 1 } := if_neg hp
    have E1 := hide e1
    clear e1
    go_enter Try.func43, Try.ntmps43
    go_wp2
    go_end0
    exact ⟨rfl, by rw [E1.out]; exact H.out.set7 _, gb_set (gb_refl _ _) _ _⟩

/-- ready's answer. -/
def readyErr (dead : Bool) (l : List ByteArray) : Int := if dead then 21 else if l.all nameOk then 0 else 20
theorem readyErr_dead (l : List ByteArray) : readyErr true l = 21 := rfl
theorem readyErr_ok {l : List ByteArray} (h : l.all nameOk = true) : readyErr false l = 0 := by simp [readyErr, h]
theorem readyErr_no {l : List ByteArray} (h : l.all nameOk = false) : readyErr false l = 20 := by simp [readyErr, h]

theorem ready_nil (A : Option Addr) (n c : Nat) (w : World) : Calls Try.prog 38 #[.pointer none, .slice A n c] w fun e w' => e = .returned (.int .i64 7) ∧ w = w' := by
  go_enter Try.func38, Try.ntmps38
  go_wp2
  go_ret
  exact ⟨rfl, rfl⟩

set_option maxHeartbeats 1000000 in
theorem ready_any (g : Nat) (v : FsV) (A : Option Addr) (c B : Nat) (l : List ByteArray) (w : World) (h : FsB w g v) (hr : Rd w B A (strs l)) (hl : l.length ≤ 1000) :
    Calls Try.prog 38 #[.pointer (some ⟨g, 0, none⟩), .slice A l.length c] w fun e w' => e = .returned (.int .i64 (readyErr v.dead l)) ∧ w = w' := by
  have h9 := h.c9
  have H := hide h
  clear h
  cases hd : v.dead
  · rw [hd] at h9
    clear hd
    have e0 : (l.take 0).all nameOk = true := rfl
    go_enter Try.func38, Try.ntmps38
    go_wp2
    go_loop [6, 7, 18] (fun _ _ i => ∃ k : Nat, k ≤ l.length ∧ i = .int .i64 k ∧ (l.take k).all nameOk = true) (fun _ _ i => l.length - (intOf i).toNat)
    case atStart => exact ⟨0, Nat.zero_le _, rfl, rfl⟩
    case round =>
      obtain ⟨k, hk, rfl, ha⟩ := hrel
      have HA := hide ha
      clear ha e0
      by_cases hlt : k < l.length
      · obtain ⟨ad, rfl, _, hcell⟩ := hr.str hlt
        have hs : l.take (k + 1) = l.take k ++ [l[k]] := List.take_succ_eq_append_getElem hlt
        have HS := hide hs
        clear hs
        cases hf : nameOk l[k]
        all_goals
          have HF := hide hf
          have HN : Hid (nameErr l[k] = if nameOk l[k] then 0 else 20) := hide rfl
          first
            | (have hn := nameErr_ok hf; have hb : (nameErr l[k] != 0) = false := by rw [hn]; rfl)
            | (have hn := nameErr_no hf; have hb : (nameErr l[k] != 0) = true := by rw [hn]; rfl)
          have HNN := hide hn
          clear hf hn
          go_wp2_with (go_at_call 29; refine (checkName_any _ _).mono ?_; rintro e w' ⟨rfl, rfl⟩)
        · go_ret
          refine ⟨?_, rfl⟩
          have : l.all nameOk = false := List.all_eq_false.2 ⟨l[k], List.getElem_mem _, by rw [HF.out]; simp⟩
          rw [readyErr_no this]
          exact ret_int HNN.out
        · go_round
          case rel => exact ⟨k + 1, by omega, by go_num, by rw [HS.out, List.all_append, HA.out]; simp [HF.out]⟩
          case measure => simp [intOf]; omega
      · go_wp2
        go_ret
        refine ⟨?_, rfl⟩
        have h := HA.out
        rw [List.take_of_length_le (by omega)] at h
        rw [readyErr_ok h]
        rfl
  · rw [hd] at h9
    clear hd
    go_enter Try.func38, Try.ntmps38
    go_wp2
    go_ret
    exact ⟨rfl, rfl⟩

/-! ## Arm, Dead, Ops, Used, Capacity, SetCapacity -/

def FsV.arm (v : FsV) (n : Int) : FsV := { v with armed := max n 0, dead := v.dead || n == 0 }
theorem arm_pos {v : FsV} {n : Int} (h : 0 < n) : v.arm n = { v with armed := n } := by
  have h1 : max n 0 = n := by omega
  have h2 : (n == 0) = false := by simp; omega
  simp [FsV.arm, h1, h2]
theorem arm_zero {v : FsV} : v.arm 0 = { v with armed := 0, dead := true } := by simp [FsV.arm]
theorem arm_neg {v : FsV} {n : Int} (h : n < 0) : v.arm n = { v with armed := 0 } := by
  have h1 : max n 0 = 0 := by omega
  have h2 : (n == 0) = false := by simp; omega
  simp [FsV.arm, h1, h2]
theorem set_same {w : World} {g : Nat} {v : FsV} (h : FsB w g v) (b : Bool) (hb : v.dead = b) : FsB (w.setCell ⟨g, 9, none⟩ (.bool b)) g v := by
  subst hb
  exact h.set9 _
set_option maxHeartbeats 1000000 in
theorem arm_any (g : Nat) (v : FsV) (n : Int) (w : World) (h : FsB w g v) :
    Calls Try.prog 18 #[.pointer (some ⟨g, 0, none⟩), .int .i64 n] w fun e w' => e = .returned (.tuple #[]) ∧ FsB w' g (v.arm n) ∧ w.grownBy w' (some g) := by
  have h8 := h.c8
  have h9 := h.c9
  have f8 := h.fr 8
  have f9 := h.fr 9
  have H := hide h
  clear h
  rcases Int.lt_trichotomy n 0 with hn | hn | hn
  · have hb : (n == 0) = false := by simp; omega
    have hm : max n 0 = 0 := by omega
    have E1 := hide (arm_neg (v := v) hn)
    cases hd : v.dead
    all_goals
      rw [hd] at h9
      have HD := hide hd
      clear hd
      go_enter Try.func18, Try.ntmps18
      go_wp2
      go_end0
      exact ⟨rfl, by rw [E1.out]; exact set_same (H.out.set8 _) _ HD.out, gb_set (gb_set (gb_refl _ _) _ _) _ _⟩
  · subst hn
    have E1 := hide (arm_zero (v := v))
    cases hd : v.dead
    all_goals
      rw [hd] at h9
      clear hd
      go_enter Try.func18, Try.ntmps18
      go_wp2
      go_end0
      exact ⟨rfl, by rw [E1.out]; exact (H.out.set8 _).set9 _, gb_set (gb_set (gb_refl _ _) _ _) _ _⟩
  · have hb : (n == 0) = false := by simp; omega
    have hm : max n 0 = n := by omega
    have E1 := hide (arm_pos (v := v) hn)
    cases hd : v.dead
    all_goals
      rw [hd] at h9
      have HD := hide hd
      clear hd
      go_enter Try.func18, Try.ntmps18
      go_wp2
      go_end0
      exact ⟨rfl, by rw [E1.out]; exact set_same (H.out.set8 _) _ HD.out, gb_set (gb_set (gb_refl _ _) _ _) _ _⟩
theorem arm_nil (n : Int) (w : World) : Calls Try.prog 18 #[.pointer none, .int .i64 n] w fun e w' => e = .returned (.tuple #[]) ∧ w = w' := by
  go_enter Try.func18, Try.ntmps18
  go_wp2
  refine bodyPost_ret (results_none rfl _ _ _) rfl ?_
  exact ⟨rfl, rfl⟩

theorem dead_any (g : Nat) (v : FsV) (w : World) (h : FsB w g v) : Calls Try.prog 20 #[.pointer (some ⟨g, 0, none⟩)] w fun e w' => e = .returned (.bool v.dead) ∧ w = w' := by
  have h9 := h.c9
  clear h
  go_enter Try.func20, Try.ntmps20
  go_wp2
  go_ret
  exact ⟨rfl, rfl⟩
theorem dead_nil (w : World) : Calls Try.prog 20 #[.pointer none] w fun e w' => e = .returned (.bool false) ∧ w = w' := by
  go_enter Try.func20, Try.ntmps20
  go_wp2
  go_ret
  exact ⟨rfl, rfl⟩
theorem used_any (g : Nat) (v : FsV) (w : World) (h : FsB w g v) : Calls Try.prog 28 #[.pointer (some ⟨g, 0, none⟩)] w fun e w' => e = .returned (.int .i64 v.used) ∧ w = w' := by
  have h1 := h.c1
  clear h
  go_enter Try.func28, Try.ntmps28
  go_wp2
  go_ret
  exact ⟨rfl, rfl⟩
theorem used_nil (w : World) : Calls Try.prog 28 #[.pointer none] w fun e w' => e = .returned (.int .i64 0) ∧ w = w' := by
  go_enter Try.func28, Try.ntmps28
  go_wp2
  go_ret
  exact ⟨rfl, rfl⟩
end Go.Proofs.Ytpkmlehkmmdkoaa
