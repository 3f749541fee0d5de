/-
  Plain facts on frames one behind the other that are cut off.
-/
import Derived.Test.YtgilkaaholkgfaaBurst
namespace Go.Proofs.Ytgilkaaholkgfaa
open Go.RowKit

/-- Frames one behind the other. -/
def jn (ls : List (List UInt8)) : List UInt8 := ls.flatMap frame
theorem jn_cons (x : List UInt8) (ls : List (List UInt8)) : jn (x :: ls) = frame x ++ jn ls := rfl
theorem jn_take_succ (ls : List (List UInt8)) (k : Nat) (h : k < ls.length) : jn (ls.take (k + 1)) = jn (ls.take k) ++ frame ls[k] := by
  unfold jn
  rw [List.take_succ_eq_append_getElem h, List.flatMap_append, List.flatMap_cons, List.flatMap_nil, List.append_nil]
/-- The ends of the first k frames, from 0 on. -/
def ends (ls : List (List UInt8)) (k : Nat) : Nat := (jn (ls.take k)).length
theorem ends_zero (ls : List (List UInt8)) : ends ls 0 = 0 := rfl
theorem ends_cons (x : List UInt8) (ls : List (List UInt8)) (k : Nat) : ends (x :: ls) (k + 1) = x.length + 8 + ends ls k := by
  unfold ends
  rw [List.take_succ_cons, jn_cons, List.length_append, frame_length]
theorem ends_succ (ls : List (List UInt8)) (k : Nat) (h : k < ls.length) : ends ls (k + 1) = ends ls k + ls[k].length + 8 := by
  unfold ends
  rw [jn_take_succ ls k h, List.length_append, frame_length]
  omega
theorem ends_all (ls : List (List UInt8)) : ends ls ls.length = (jn ls).length := by unfold ends; rw [List.take_length]

theorem frame_head (x r : List UInt8) (h : x.length ≤ 1048576) : headOf (frame x ++ r) = x.length := by
  rw [← headOf_take, List.take_append_of_le_length (by rw [frame_length]; omega), headOf_take, headOf_frame x h]

/-- A whole frame is opened. -/
theorem opn_frame (x r : List UInt8) (h : x.length ≤ 1048576) : opn (frame x ++ r) = (x, x.length + 8, 0) := by
  have hl := frame_length x
  have hh := frame_head x r h
  unfold opn
  rw [hh, if_neg (by rw [List.length_append]; omega), if_neg (by omega), if_neg (by rw [List.length_append]; omega)]
  have ht : (frame x ++ r).take (4 + x.length) = hd x.length ++ x := by
    unfold frame
    rw [List.append_assoc, List.take_append_of_le_length (by rw [List.length_append, hd_length]; exact Nat.le_refl _), List.take_of_length_le (by rw [List.length_append, hd_length]; exact Nat.le_refl _)]
  have hs : sumAt (frame x ++ r) (4 + x.length) = crc (hd x.length ++ x) := by
    have hq := crc_lt (hd x.length ++ x)
    have hb := be4_hd _ hq
    have hlen : (hd x.length ++ x).length = 4 + x.length := by rw [List.length_append, hd_length]
    have hg : ∀ j, j < 4 → (frame x ++ r).getD (4 + x.length + j) 0 = (tl (crc (hd x.length ++ x))).getD j 0 := by
      intro j hj
      unfold frame
      rw [List.append_assoc, ← hlen]
      simp only [List.getD_eq_getElem?_getD]
      rw [List.getElem?_append_right (by omega), Nat.add_sub_cancel_left, List.getElem?_append_left (by rw [tl_length]; exact hj)]
    unfold sumAt
    rw [hg 3 (by omega), hg 2 (by omega), hg 1 (by omega), show 4 + x.length = 4 + x.length + 0 from rfl, hg 0 (by omega)]
    exact hb
  rw [ht, hs, if_pos rfl]
  have hd4 : ((frame x ++ r).drop 4).take x.length = x := by
    unfold frame
    rw [List.append_assoc, List.append_assoc, List.drop_append_of_le_length (by rw [hd_length]; exact Nat.le_refl _), List.drop_of_length_le (by rw [hd_length]; exact Nat.le_refl _), List.nil_append, List.take_append_of_le_length (Nat.le_refl _), List.take_of_length_le (Nat.le_refl _)]
  rw [hd4]

/-- A frame that is cut off is too short. -/
theorem opn_torn (x : List UInt8) (c : Nat) (h : x.length ≤ 1048576) (hc : c < x.length + 8) : (opn ((frame x).take c)).2.2 = 3 := by
  have hl := frame_length x
  have hlc : ((frame x).take c).length = c := by rw [List.length_take]; omega
  unfold opn
  rw [hlc]
  split
  · rfl
  · rename_i h4
    have hh : headOf ((frame x).take c) = x.length := by
      rw [← headOf_take, List.take_take, show min 4 c = 4 by omega, headOf_take, headOf_frame x h]
    rw [hh, if_neg (by omega), if_pos (by omega)]

/-- Of frames that are cut off just the whole ones are told. -/
theorem frs_torn (ls : List (List UInt8)) : ∀ (j cut : Nat), (∀ x ∈ ls, x.length ≤ 1048576) → j ≤ ls.length → ends ls j ≤ cut → cut ≤ (jn ls).length → (j < ls.length → cut < ends ls (j + 1)) →
    frs ((jn ls).take cut) = (ls.take j, ends ls j, if cut = ends ls j then 0 else 3) := by
  induction ls with
  | nil =>
    intro j cut _ hj _ hc _
    obtain rfl : j = 0 := by simpa using hj
    obtain rfl : cut = 0 := by simpa [jn] using hc
    simp [jn, frs_nil, ends]
  | cons x xs ih =>
    intro j cut hx hj he hc hn
    have hxl := hx x (by simp)
    have hfl := frame_length x
    rw [jn_cons]
    cases j with
    | zero =>
      have h1 := hn (by simp)
      rw [Nat.zero_add, ends_cons, ends_zero, Nat.add_zero] at h1
      rw [List.take_append_of_le_length (by omega), ends_zero]
      by_cases h0 : cut = 0
      · subst h0
        simp [frs_nil]
      · rw [if_neg h0, frs_err _ (by rw [List.length_take]; omega) (by rw [opn_torn x cut hxl h1]; decide), opn_torn x cut hxl h1]
        simp
    | succ j =>
      rw [ends_cons] at he
      have hlen : (jn (x :: xs)).length = x.length + 8 + (jn xs).length := by rw [jn_cons, List.length_append, hfl]
      obtain ⟨c, rfl⟩ : ∃ c, cut = x.length + 8 + c := ⟨cut - (x.length + 8), by omega⟩
      have ht : (frame x ++ jn xs).take (x.length + 8 + c) = frame x ++ (jn xs).take c := by
        rw [← hfl, List.take_length_add_append]
      rw [ht]
      have ho := opn_frame x ((jn xs).take c) hxl
      have hfo := frs_ok (frame x ++ (jn xs).take c) (by rw [List.length_append]; omega) (by rw [ho])
      rw [ho] at hfo
      rw [hfo]
      have hdrop : (frame x ++ (jn xs).take c).drop (x.length + 8) = (jn xs).take c := by
        rw [← hfl, List.drop_left]
      simp only [hdrop]
      rw [ih j c (fun y hy => hx y (by simp [hy])) (by simpa using hj) (by omega) (by omega) (fun hlt => by
        have := hn (by simpa using hlt)
        rw [ends_cons] at this
        omega)]
      rw [ends_cons, List.take_succ_cons]
      simp

end Go.Proofs.Ytgilkaaholkgfaa
