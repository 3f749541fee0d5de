/-
  A file system's block; the contracts of FS.count, ready, Arm, Dead, Ops, Used, Capacity, SetCapacity.
-/
import Derived.Test.YtmcmlkglkpbnpaaGreatQaa
import Derived.Test.YtmcmlkglkpbnpaaGreatChecked
import Derived.LoopTactic
import Derived.BigQuiet
import Derived.Deep.QuietTactic
import Derived.ProofKit

namespace Go.Proofs.YtmcmlkglkpbnpaaGreat
open Go.RowKit

/-! ## names -/

def fitB (c : UInt8) : Bool := c == 46 || c == 45 || c == 95 || c == 47 || ((97 ≤ c && c ≤ 122) || (48 ≤ c && c ≤ 57))
def nameOk (s : ByteArray) : Bool := decide (1 ≤ s.size) && decide (s.size ≤ 64) && s.data.toList.all fitB

set_option maxHeartbeats 1000000 in
theorem fits_any (c : UInt8) (w : World) : Calls Tryz.prog 125 #[.int .u8 (c.toNat : Int)] w fun e w' => e = .returned (.bool (fitB c)) ∧ w = w' := by
  have hc : c.toNat < 256 := c.toNat_lt
  have q : ∀ n : Nat, n < 256 → (c == UInt8.ofNat n) = ((c.toNat : Int) == (n : Int)) := fun n hn => by
    rw [Bool.eq_iff_iff]; simp [← UInt8.toNat_inj]; omega
  have q1 := q 46 (by omega)
  have q2 := q 45 (by omega)
  have q3 := q 95 (by omega)
  have q4 := q 47 (by omega)
  have r : fitB c = (((c.toNat : Int) == 46) || ((c.toNat : Int) == 45) || ((c.toNat : Int) == 95) || ((c.toNat : Int) == 47) || ((decide ((97 : Int) ≤ c.toNat) && decide ((c.toNat : Int) ≤ 122)) || (decide ((48 : Int) ≤ c.toNat) && decide ((c.toNat : Int) ≤ 57)))) := by
    unfold fitB
    rw [show (c == 46) = _ from q1, show (c == 45) = _ from q2, show (c == 95) = _ from q3, show (c == 47) = _ from q4]
    have e1 : (decide (97 ≤ c)) = decide ((97 : Int) ≤ c.toNat) := by rw [Bool.eq_iff_iff]; simp [UInt8.le_iff_toNat_le]; omega
    have e2 : (decide (c ≤ 122)) = decide ((c.toNat : Int) ≤ 122) := by rw [Bool.eq_iff_iff]; simp [UInt8.le_iff_toNat_le]; omega
    have e3 : (decide (48 ≤ c)) = decide ((48 : Int) ≤ c.toNat) := by rw [Bool.eq_iff_iff]; simp [UInt8.le_iff_toNat_le]; omega
    have e4 : (decide (c ≤ 57)) = decide ((c.toNat : Int) ≤ 57) := by rw [Bool.eq_iff_iff]; simp [UInt8.le_iff_toNat_le]; omega
    rw [e1, e2, e3, e4]
    rfl
  have R := hide r
  clear r q q1 q2 q3 q4
  generalize hx : (c.toNat : Int) = x at *
  have h0 : 0 ≤ x := by omega
  have h1 : x < 256 := by omega
  clear hx hc
  by_cases a1 : x = 46
  · subst a1
    go_enter Tryz.func125, Tryz.ntmps125
    go_wp2
    go_ret
    exact ⟨by rw [R.out]; rfl, rfl⟩
  by_cases a2 : x = 45
  · subst a2
    go_enter Tryz.func125, Tryz.ntmps125
    go_wp2
    go_ret
    exact ⟨by rw [R.out]; rfl, rfl⟩
  by_cases a3 : x = 95
  · subst a3
    go_enter Tryz.func125, Tryz.ntmps125
    go_wp2
    go_ret
    exact ⟨by rw [R.out]; rfl, rfl⟩
  by_cases a4 : x = 47
  · subst a4
    go_enter Tryz.func125, Tryz.ntmps125
    go_wp2
    go_ret
    exact ⟨by rw [R.out]; rfl, rfl⟩
  have b1 : (x == 46) = false := by simpa using a1
  have b2 : (x == 45) = false := by simpa using a2
  have b3 : (x == 95) = false := by simpa using a3
  have b4 : (x == 47) = false := by simpa using a4
  clear a1 a2 a3 a4
  by_cases c1 : 97 ≤ x <;> by_cases c2 : x ≤ 122 <;> by_cases c3 : 48 ≤ x <;> by_cases c4 : x ≤ 57
  all_goals first
    | (exfalso; omega)
    | (go_enter Tryz.func125, Tryz.ntmps125
       go_wp2
       all_goals
         go_ret
         exact ⟨by rw [R.out, b1, b2, b3, b4]; simp [c1, c2, c3, c4], rfl⟩)

/-- CheckName's answer. -/
def nameErr (s : ByteArray) : Int := if nameOk s then 0 else 20
theorem nameErr_ok {s : ByteArray} (h : nameOk s = true) : nameErr s = 0 := by simp [nameErr, h]
theorem nameErr_no {s : ByteArray} (h : nameOk s = false) : nameErr s = 20 := by simp [nameErr, h]
theorem nameOk_short {s : ByteArray} (h : s.size < 1) : nameOk s = false := by unfold nameOk; simp; omega
theorem nameOk_long {s : ByteArray} (h : 64 < s.size) : nameOk s = false := by unfold nameOk; simp; omega

set_option maxHeartbeats 1000000 in
theorem checkName_any (s : ByteArray) (w : World) : Calls Tryz.prog 104 #[.string s] w fun e w' => e = .returned (.int .i64 (nameErr s)) ∧ w = w' := by
  by_cases h0 : s.size < 1
  · have R := hide (nameErr_no (nameOk_short h0))
    go_enter Tryz.func104, Tryz.ntmps104
    go_wp2
    go_ret
    exact ⟨by rw [R.out]; rfl, rfl⟩
  by_cases h1 : 64 < s.size
  · have R := hide (nameErr_no (nameOk_long h1))
    go_enter Tryz.func104, Tryz.ntmps104
    go_wp2
    go_ret
    exact ⟨by rw [R.out]; rfl, rfl⟩
  have hok : nameOk s = s.data.toList.all fitB := by unfold nameOk; simp [show 1 ≤ s.size by omega, show s.size ≤ 64 by omega]
  have R := hide hok
  clear hok
  go_enter Tryz.func104, Tryz.ntmps104
  go_wp2
  go_loop [14] (fun i => ∃ k : Nat, k ≤ s.size ∧ i = .int .i64 k ∧ (s.data.toList.take k).all fitB = true) (fun i => s.size - (intOf i).toNat)
  case atStart => exact ⟨0, Nat.zero_le _, rfl, rfl⟩
  case round =>
    obtain ⟨k, hk, rfl, ha⟩ := hrel
    have HA := hide ha
    clear ha
    by_cases hlt : k < s.size
    · have hs : s.data.toList.take (k + 1) = s.data.toList.take k ++ [s[k]] := by
        rw [List.take_succ_eq_append_getElem (by simpa using hlt)]; rfl
      have HS := hide hs
      clear hs
      cases hf : fitB s[k]
      all_goals
        have HF := hide hf
        go_wp2_with (go_at_call 125; refine (fits_any _ _).mono ?_; rintro e w' ⟨rfl, rfl⟩)
      · go_ret
        refine ⟨?_, rfl⟩
        have : s.data.toList.all fitB = false := by
          rw [List.all_eq_false]
          exact ⟨s[k], by
            have : s[k] = s.data.toList[k]'(by simpa using hlt) := rfl
            rw [this]; exact List.getElem_mem _, by rw [HF.out]; simp⟩
        rw [nameErr_no (by rw [R.out, this])]
        rfl
      · go_round
        case rel => exact ⟨k + 1, by omega, by go_num, by rw [HS.out, List.all_append, HA.out]; simp [HF.out]⟩
        case measure => simp [intOf]; omega
    · go_wp2
      go_ret
      refine ⟨?_, rfl⟩
      have e : s.data.toList.take k = s.data.toList := List.take_of_length_le (by simp; show s.size ≤ k; omega)
      have h := HA.out
      rw [e] at h
      rw [nameErr_ok (by rw [R.out, h])]
      rfl

theorem ret_int {k : IntKind} {a b : Int} (h : a = b) : Ending.returned (.int k a) = .returned (.int k b) := by rw [h]
def clampI (n m : Int) : Int := max 0 (min n m)
set_option maxHeartbeats 400000 in
theorem within_any (n m : Int) (w : World) : Calls Tryz.prog 31 #[.int .i64 n, .int .i64 m] w fun e w' => e = .returned (.int .i64 (clampI n m)) ∧ w = w' := by
  by_cases h1 : n ≤ m <;> by_cases h2 : 0 ≤ n <;> by_cases h3 : 0 ≤ m
  all_goals
    go_enter Tryz.func31, Tryz.ntmps31
    go_wp2
    all_goals
      go_ret
      exact ⟨ret_int (by unfold clampI; omega), rfl⟩

end Go.Proofs.YtmcmlkglkpbnpaaGreat

namespace Go.Proofs.YtmcmlkglkpbnpaaGreat
open Go.RowKit

/-- What a file system's block holds. -/
structure FsV where
  cap : Int
  used : Int
  last : Int
  mf : Nat
  mn : Nat
  ms : Nat
  vch : Value
  ops : Int
  armed : Int
  dead : Bool
def FsV.cells (v : FsV) : Array Value := #[.int .i64 v.cap, .int .i64 v.used, .int .i64 v.last, .map (some v.mf), .map (some v.mn), .map (some v.ms), v.vch, .int .i64 v.ops, .int .i64 v.armed, .bool v.dead]
def FsB (w : World) (g : Nat) (v : FsV) : Prop := w.heap[g]? = some (.cells v.cells 81 (0, 0))

theorem FsB.lt {w : World} {g : Nat} {v : FsV} (h : FsB w g v) : g < w.heap.size := blk_lt h
theorem FsB.keep {w w' : World} {g : Nat} {v : FsV} (h : FsB w g v) (hk : w'.heap[g]? = w.heap[g]?) : FsB w' g v := hk.trans h
theorem FsB.cell {w : World} {g : Nat} {v : FsV} (h : FsB w g v) (i : Nat) : w.cell? ⟨g, i, none⟩ = v.cells[i]? := blk_cell h i
theorem FsB.c0 {w : World} {g : Nat} {v : FsV} (h : FsB w g v) : w.cell? ⟨g, 0, none⟩ = some (.int .i64 v.cap) := h.cell 0
theorem FsB.c1 {w : World} {g : Nat} {v : FsV} (h : FsB w g v) : w.cell? ⟨g, 1, none⟩ = some (.int .i64 v.used) := h.cell 1
theorem FsB.c2 {w : World} {g : Nat} {v : FsV} (h : FsB w g v) : w.cell? ⟨g, 2, none⟩ = some (.int .i64 v.last) := h.cell 2
theorem FsB.c3 {w : World} {g : Nat} {v : FsV} (h : FsB w g v) : w.cell? ⟨g, 3, none⟩ = some (.map (some v.mf)) := h.cell 3
theorem FsB.c4 {w : World} {g : Nat} {v : FsV} (h : FsB w g v) : w.cell? ⟨g, 4, none⟩ = some (.map (some v.mn)) := h.cell 4
theorem FsB.c5 {w : World} {g : Nat} {v : FsV} (h : FsB w g v) : w.cell? ⟨g, 5, none⟩ = some (.map (some v.ms)) := h.cell 5
theorem FsB.c6 {w : World} {g : Nat} {v : FsV} (h : FsB w g v) : w.cell? ⟨g, 6, none⟩ = some v.vch := h.cell 6
theorem FsB.c7 {w : World} {g : Nat} {v : FsV} (h : FsB w g v) : w.cell? ⟨g, 7, none⟩ = some (.int .i64 v.ops) := h.cell 7
theorem FsB.c8 {w : World} {g : Nat} {v : FsV} (h : FsB w g v) : w.cell? ⟨g, 8, none⟩ = some (.int .i64 v.armed) := h.cell 8
theorem FsB.c9 {w : World} {g : Nat} {v : FsV} (h : FsB w g v) : w.cell? ⟨g, 9, none⟩ = some (.bool v.dead) := h.cell 9
theorem FsB.fr {w : World} {g : Nat} {v : FsV} (h : FsB w g v) (i : Nat) : w.frozen? ⟨g, i, none⟩ = false := blk_frozen h i

theorem gb_set {a w : World} {g : Nat} (h : a.grownBy w (some g)) (i : Nat) (u : Value) : a.grownBy (w.setCell ⟨g, i, none⟩ u) (some g) := gb_setCell h (.inl rfl) u
theorem FsB.set_ {w : World} {g : Nat} {v v' : FsV} (h : FsB w g v) (i : Nat) (u : Value) (e : v.cells.setIfInBounds i u = v'.cells) : FsB (w.setCell ⟨g, i, none⟩ u) g v' := by
  have := blk_set h i u
  rw [e] at this
  exact this
theorem FsB.set0 {w : World} {g : Nat} {v : FsV} (h : FsB w g v) (x : Int) : FsB (w.setCell ⟨g, 0, none⟩ (.int .i64 x)) g { v with cap := x } := h.set_ 0 _ rfl
theorem FsB.set1 {w : World} {g : Nat} {v : FsV} (h : FsB w g v) (x : Int) : FsB (w.setCell ⟨g, 1, none⟩ (.int .i64 x)) g { v with used := x } := h.set_ 1 _ rfl
theorem FsB.set2 {w : World} {g : Nat} {v : FsV} (h : FsB w g v) (x : Int) : FsB (w.setCell ⟨g, 2, none⟩ (.int .i64 x)) g { v with last := x } := h.set_ 2 _ rfl
theorem FsB.set3 {w : World} {g : Nat} {v : FsV} (h : FsB w g v) (x : Nat) : FsB (w.setCell ⟨g, 3, none⟩ (.map (some x))) g { v with mf := x } := h.set_ 3 _ rfl
theorem FsB.set4 {w : World} {g : Nat} {v : FsV} (h : FsB w g v) (x : Nat) : FsB (w.setCell ⟨g, 4, none⟩ (.map (some x))) g { v with mn := x } := h.set_ 4 _ rfl
theorem FsB.set5 {w : World} {g : Nat} {v : FsV} (h : FsB w g v) (x : Nat) : FsB (w.setCell ⟨g, 5, none⟩ (.map (some x))) g { v with ms := x } := h.set_ 5 _ rfl
theorem FsB.set6 {w : World} {g : Nat} {v : FsV} (h : FsB w g v) (x : Value) : FsB (w.setCell ⟨g, 6, none⟩ x) g { v with vch := x } := h.set_ 6 _ rfl
theorem FsB.set7 {w : World} {g : Nat} {v : FsV} (h : FsB w g v) (x : Int) : FsB (w.setCell ⟨g, 7, none⟩ (.int .i64 x)) g { v with ops := x } := h.set_ 7 _ rfl
theorem FsB.set8 {w : World} {g : Nat} {v : FsV} (h : FsB w g v) (x : Int) : FsB (w.setCell ⟨g, 8, none⟩ (.int .i64 x)) g { v with armed := x } := h.set_ 8 _ rfl
theorem FsB.set9 {w : World} {g : Nat} {v : FsV} (h : FsB w g v) (x : Bool) : FsB (w.setCell ⟨g, 9, none⟩ (.bool x)) g { v with dead := x } := h.set_ 9 _ rfl

/-- An operation is counted. -/
def FsV.count (v : FsV) : FsV := if 0 < v.armed then { v with ops := v.ops + 1, armed := v.armed - 1, dead := v.armed - 1 == 0 } else { v with ops := v.ops + 1 }

set_option maxHeartbeats 1000000 in
theorem count_any (g : Nat) (v : FsV) (w : World) (h : FsB w g v) (h0 : 0 ≤ v.ops) (h1 : v.ops ≤ 2000000000) (ha : v.armed ≤ 9223372036854775807) :
    Calls Tryz.prog 97 #[.pointer (some ⟨g, 0, none⟩)] w fun e w' => e = .returned (.tuple #[]) ∧ FsB w' g v.count ∧ w.grownBy w' (some g) := by
  have h7 := h.c7
  have h8 := h.c8
  have h9 := h.c9
  have f7 := h.fr 7
  have f8 := h.fr 8
  have f9 := h.fr 9
  have H := hide h
  clear h
  by_cases hp : 0 < v.armed
  · have e1 : v.count = { v with ops := v.ops + 1, armed := v.armed - 1, dead := v.armed - 1 == 0 } := if_pos hp
    have E1 := hide e1
    clear e1
    go_enter Tryz.func97, Tryz.ntmps97
    go_wp2
    go_end0
    exact ⟨rfl, by rw [E1.out]; exact ((H.out.set7 _).set8 _).set9 _, gb_set (gb_set (gb_set (gb_refl _ _) _ _) _ _) _ _⟩
  · have e1 : v.count = { v with ops := v.ops + 1 } := if_neg hp
    have E1 := hide e1
    clear e1
    go_enter Tryz.func97, Tryz.ntmps97
    go_wp2
    go_end0
    exact ⟨rfl, by rw [E1.out]; exact H.out.set7 _, gb_set (gb_refl _ _) _ _⟩

/-- ready's answer. -/
def readyErr (dead : Bool) (l : List ByteArray) : Int := if dead then 21 else if l.all nameOk then 0 else 20
theorem readyErr_dead (l : List ByteArray) : readyErr true l = 21 := rfl
theorem readyErr_ok {l : List ByteArray} (h : l.all nameOk = true) : readyErr false l = 0 := by simp [readyErr, h]
theorem readyErr_no {l : List ByteArray} (h : l.all nameOk = false) : readyErr false l = 20 := by simp [readyErr, h]

theorem ready_nil (A : Option Addr) (n c : Nat) (w : World) : Calls Tryz.prog 73 #[.pointer none, .slice A n c] w fun e w' => e = .returned (.int .i64 7) ∧ w = w' := by
  go_enter Tryz.func73, Tryz.ntmps73
  go_wp2
  go_ret
  exact ⟨rfl, rfl⟩

set_option maxHeartbeats 1000000 in
theorem ready_any (g : Nat) (v : FsV) (A : Option Addr) (c B : Nat) (l : List ByteArray) (w : World) (h : FsB w g v) (hr : Rd w B A (strs l)) (hl : l.length ≤ 1000) :
    Calls Tryz.prog 73 #[.pointer (some ⟨g, 0, none⟩), .slice A l.length c] w fun e w' => e = .returned (.int .i64 (readyErr v.dead l)) ∧ w = w' := by
  have h9 := h.c9
  have H := hide h
  clear h
  cases hd : v.dead
  · rw [hd] at h9
    clear hd
    have e0 : (l.take 0).all nameOk = true := rfl
    go_enter Tryz.func73, Tryz.ntmps73
    go_wp2
    go_loop [6, 7, 18] (fun _ _ i => ∃ k : Nat, k ≤ l.length ∧ i = .int .i64 k ∧ (l.take k).all nameOk = true) (fun _ _ i => l.length - (intOf i).toNat)
    case atStart => exact ⟨0, Nat.zero_le _, rfl, rfl⟩
    case round =>
      obtain ⟨k, hk, rfl, ha⟩ := hrel
      have HA := hide ha
      clear ha e0
      by_cases hlt : k < l.length
      · obtain ⟨ad, rfl, _, hcell⟩ := hr.str hlt
        have hs : l.take (k + 1) = l.take k ++ [l[k]] := List.take_succ_eq_append_getElem hlt
        have HS := hide hs
        clear hs
        cases hf : nameOk l[k]
        all_goals
          have HF := hide hf
          have HN : Hid (nameErr l[k] = if nameOk l[k] then 0 else 20) := hide rfl
          first
            | (have hn := nameErr_ok hf; have hb : (nameErr l[k] != 0) = false := by rw [hn]; rfl)
            | (have hn := nameErr_no hf; have hb : (nameErr l[k] != 0) = true := by rw [hn]; rfl)
          have HNN := hide hn
          clear hf hn
          go_wp2_with (go_at_call 104; refine (checkName_any _ _).mono ?_; rintro e w' ⟨rfl, rfl⟩)
        · go_ret
          refine ⟨?_, rfl⟩
          have : l.all nameOk = false := List.all_eq_false.2 ⟨l[k], List.getElem_mem _, by rw [HF.out]; simp⟩
          rw [readyErr_no this]
          exact ret_int HNN.out
        · go_round
          case rel => exact ⟨k + 1, by omega, by go_num, by rw [HS.out, List.all_append, HA.out]; simp [HF.out]⟩
          case measure => simp [intOf]; omega
      · go_wp2
        go_ret
        refine ⟨?_, rfl⟩
        have h := HA.out
        rw [List.take_of_length_le (by omega)] at h
        rw [readyErr_ok h]
        rfl
  · rw [hd] at h9
    clear hd
    go_enter Tryz.func73, Tryz.ntmps73
    go_wp2
    go_ret
    exact ⟨rfl, rfl⟩

/-! ## Arm, Dead, Ops, Used, Capacity, SetCapacity -/

def FsV.arm (v : FsV) (n : Int) : FsV := { v with armed := max n 0, dead := v.dead || n == 0 }
theorem arm_pos {v : FsV} {n : Int} (h : 0 < n) : v.arm n = { v with armed := n } := by
  have h1 : max n 0 = n := by omega
  have h2 : (n == 0) = false := by simp; omega
  simp [FsV.arm, h1, h2]
theorem arm_zero {v : FsV} : v.arm 0 = { v with armed := 0, dead := true } := by simp [FsV.arm]
theorem arm_neg {v : FsV} {n : Int} (h : n < 0) : v.arm n = { v with armed := 0 } := by
  have h1 : max n 0 = 0 := by omega
  have h2 : (n == 0) = false := by simp; omega
  simp [FsV.arm, h1, h2]
theorem set_same {w : World} {g : Nat} {v : FsV} (h : FsB w g v) (b : Bool) (hb : v.dead = b) : FsB (w.setCell ⟨g, 9, none⟩ (.bool b)) g v := by
  subst hb
  exact h.set9 _
set_option maxHeartbeats 1000000 in
theorem arm_any (g : Nat) (v : FsV) (n : Int) (w : World) (h : FsB w g v) :
    Calls Tryz.prog 10 #[.pointer (some ⟨g, 0, none⟩), .int .i64 n] w fun e w' => e = .returned (.tuple #[]) ∧ FsB w' g (v.arm n) ∧ w.grownBy w' (some g) := by
  have h8 := h.c8
  have h9 := h.c9
  have f8 := h.fr 8
  have f9 := h.fr 9
  have H := hide h
  clear h
  rcases Int.lt_trichotomy n 0 with hn | hn | hn
  · have hb : (n == 0) = false := by simp; omega
    have hm : max n 0 = 0 := by omega
    have E1 := hide (arm_neg (v := v) hn)
    cases hd : v.dead
    all_goals
      rw [hd] at h9
      have HD := hide hd
      clear hd
      go_enter Tryz.func10, Tryz.ntmps10
      go_wp2
      go_end0
      exact ⟨rfl, by rw [E1.out]; exact set_same (H.out.set8 _) _ HD.out, gb_set (gb_set (gb_refl _ _) _ _) _ _⟩
  · subst hn
    have E1 := hide (arm_zero (v := v))
    cases hd : v.dead
    all_goals
      rw [hd] at h9
      clear hd
      go_enter Tryz.func10, Tryz.ntmps10
      go_wp2
      go_end0
      exact ⟨rfl, by rw [E1.out]; exact (H.out.set8 _).set9 _, gb_set (gb_set (gb_refl _ _) _ _) _ _⟩
  · have hb : (n == 0) = false := by simp; omega
    have hm : max n 0 = n := by omega
    have E1 := hide (arm_pos (v := v) hn)
    cases hd : v.dead
    all_goals
      rw [hd] at h9
      have HD := hide hd
      clear hd
      go_enter Tryz.func10, Tryz.ntmps10
      go_wp2
      go_end0
      exact ⟨rfl, by rw [E1.out]; exact set_same (H.out.set8 _) _ HD.out, gb_set (gb_set (gb_refl _ _) _ _) _ _⟩
end Go.Proofs.YtmcmlkglkpbnpaaGreat
