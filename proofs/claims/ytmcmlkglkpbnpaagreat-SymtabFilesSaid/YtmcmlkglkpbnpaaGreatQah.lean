/-
  Plain words on a table of symbols: numbers, what is new, bytes, and what bytes are a table's.
-/
import Derived.Test.YtmcmlkglkpbnpaaGreatQaa
import Derived.Test.YtmcmlkglkpbnpaaGreatQac
import Derived.Test.YtmcmlkglkpbnpaaGreatQag
import Derived.Lib.Bytealg
namespace Go.Proofs.YtmcmlkglkpbnpaaGreat
open Go.RowKit
def enumF : Nat → List ByteArray → List (ByteArray × Nat)
 | _, [] => []
 | k, x :: r => (x, k) :: enumF (k + 1) r
def numOf (L : List ByteArray) (s : ByteArray) : Option Nat := aget (enumF 0 L) s
theorem enumF_none (s : ByteArray) : ∀ (L : List ByteArray) (k : Nat), s ∉ L → aget (enumF k L) s = none
 | [], _, _ => rfl
 | x :: r, k, h => by
  have h1 : ¬ x = s := fun e => h (by rw [e]; exact List.mem_cons_self ..)
  simp only [enumF, aget, if_neg h1]
  exact enumF_none s r (k + 1) fun hm => h (List.mem_cons_of_mem _ hm)
theorem enumF_some (s : ByteArray) : ∀ (L : List ByteArray) (k n : Nat), aget (enumF k L) s = some n → k ≤ n ∧ L[n - k]? = some s
 | [], _, _, h => by cases h
 | x :: r, k, n, h => by
  by_cases hx : x = s
  ·simp only [enumF, aget, if_pos hx] at h
   injection h with h
   subst h
   subst hx
   exact ⟨Nat.le_refl _, by simp⟩
  ·simp only [enumF, aget, if_neg hx] at h
   have ⟨h1, h2⟩ := enumF_some s r (k + 1) n h
   refine ⟨by omega, ?_⟩
   rw [show n - k = (n - (k + 1)) + 1 by omega, List.getElem?_cons_succ]
   exact h2
theorem enumF_mem (s : ByteArray) : ∀ (L : List ByteArray) (k : Nat), s ∈ L → ∃ n, aget (enumF k L) s = some n
 | [], _, h => by cases h
 | x :: r, k, h => by
  by_cases hx : x = s
  ·exact ⟨k, by simp only [enumF, aget, if_pos hx]⟩
  ·have hr : s ∈ r := by
    rcases List.mem_cons.1 h with e | e
    ·exact absurd e.symm hx
    ·exact e
   obtain ⟨n, hn⟩ := enumF_mem s r (k + 1) hr
   exact ⟨n, by simp only [enumF, aget, if_neg hx]; exact hn⟩
theorem enumF_put (s : ByteArray) : ∀ (L : List ByteArray) (k : Nat), s ∉ L → aput (enumF k L) s (k + L.length) = enumF k (L ++ [s])
 | [], _, _ => rfl
 | x :: r, k, h => by
  have h1 : ¬ x = s := fun e => h (by rw [e]; exact List.mem_cons_self ..)
  simp only [enumF, aput, if_neg h1, List.cons_append, List.length_cons]
  rw [show k + (r.length + 1) = k + 1 + r.length by omega, enumF_put s r (k + 1) fun hm => h (List.mem_cons_of_mem _ hm)]
theorem numOf_none {L : List ByteArray} {s : ByteArray} (h : numOf L s = none) : s ∉ L := fun hm => by
 obtain ⟨n, hn⟩ := enumF_mem s L 0 hm
 unfold numOf at h
 rw [hn] at h
 cases h
theorem numOf_no {L : List ByteArray} {s : ByteArray} (h : s ∉ L) : numOf L s = none := enumF_none s L 0 h
theorem numOf_put {L : List ByteArray} {s : ByteArray} (h : numOf L s = none) : aput (enumF 0 L) s L.length = enumF 0 (L ++ [s]) := by
 have := enumF_put s L 0 (numOf_none h)
 rwa [Nat.zero_add] at this
theorem numOf_some {L : List ByteArray} {s : ByteArray} {n : Nat} (h : numOf L s = some n) : L[n]? = some s := by
 have := (enumF_some s L 0 n h).2
 simpa using this
def step1 (q : List ByteArray × List Nat) (s : ByteArray) : List ByteArray × List Nat :=
 match numOf q.1 s with
 | some n => (q.1, q.2 ++ [n])
 | none => (q.1 ++ [s], q.2 ++ [q.1.length])
def inter (L l : List ByteArray) : List ByteArray × List Nat := l.foldl step1 (L, [])
theorem inter_nil (L : List ByteArray) : inter L [] = (L, []) := rfl
theorem inter_snoc (L l : List ByteArray) (s : ByteArray) : inter L (l ++ [s]) = step1 (inter L l) s := by unfold inter; rw [List.foldl_append]; rfl
theorem inter_take (L l : List ByteArray) (k : Nat) (h : k < l.length) : inter L (l.take (k + 1)) = step1 (inter L (l.take k)) l[k] := by
 rw [List.take_succ_eq_append_getElem h, inter_snoc]
theorem step1_yes {q : List ByteArray × List Nat} {s : ByteArray} {n : Nat} (h : numOf q.1 s = some n) : step1 q s = (q.1, q.2 ++ [n]) := by unfold step1; rw [h]
theorem step1_no {q : List ByteArray × List Nat} {s : ByteArray} (h : numOf q.1 s = none) : step1 q s = (q.1 ++ [s], q.2 ++ [q.1.length]) := by unfold step1; rw [h]
theorem step1_length (q : List ByteArray × List Nat) (s : ByteArray) : (step1 q s).2.length = q.2.length + 1 := by
 unfold step1; split <;> simp
theorem step1_size (q : List ByteArray × List Nat) (s : ByteArray) : (step1 q s).1.length ≤ q.1.length + 1 := by
 unfold step1; split <;> simp
theorem inter_take_length (L l : List ByteArray) : ∀ k, k ≤ l.length → (inter L (l.take k)).2.length = k
 | 0, _ => rfl
 | k + 1, h => by rw [inter_take L l k (by omega), step1_length, inter_take_length L l k (by omega)]
theorem inter_take_size (L l : List ByteArray) : ∀ k, k ≤ l.length → (inter L (l.take k)).1.length ≤ L.length + k
 | 0, _ => Nat.le_refl _
 | k + 1, h => by
  rw [inter_take L l k (by omega)]
  have := step1_size (inter L (l.take k)) l[k]
  have := inter_take_size L l k (by omega)
  omega
theorem inter_length (L l : List ByteArray) : (inter L l).2.length = l.length := by
 have := inter_take_length L l l.length (Nat.le_refl _)
 rwa [List.take_length] at this
theorem inter_size (L l : List ByteArray) : (inter L l).1.length ≤ L.length + l.length := by
 have := inter_take_size L l l.length (Nat.le_refl _)
 rwa [List.take_length] at this
theorem step1_pre (q : List ByteArray × List Nat) (s : ByteArray) : ∃ r, (step1 q s).1 = q.1 ++ r ∧ ∀ x ∈ r, x = s := by
 unfold step1
 split
 ·exact ⟨[], by simp, by simp⟩
 ·exact ⟨[s], rfl, by simp⟩
theorem inter_pre (l : List ByteArray) : ∀ (L : List ByteArray) (ns : List Nat), ∃ r, (l.foldl step1 (L, ns)).1 = L ++ r ∧ ∀ x ∈ r, x ∈ l := by
 induction l with
 | nil => exact fun L ns => ⟨[], by simp, by simp⟩
 | cons s l ih =>
  intro L ns
  rw [List.foldl_cons]
  obtain ⟨r, hr, hm⟩ := step1_pre (L, ns) s
  obtain ⟨r', hr', hm'⟩ := ih (step1 (L, ns) s).1 (step1 (L, ns) s).2
  refine ⟨r ++ r', by rw [show step1 (L, ns) s = ((step1 (L, ns) s).1, (step1 (L, ns) s).2) from rfl, hr', hr, List.append_assoc], fun x hx => ?_⟩
  rcases List.mem_append.1 hx with h | h
  ·rw [hm x h]; exact List.mem_cons_self ..
  ·exact List.mem_cons_of_mem _ (hm' x h)
theorem step1_nodup (q : List ByteArray × List Nat) (s : ByteArray) (h : q.1.Nodup) : (step1 q s).1.Nodup := by
 unfold step1
 split
 ·exact h
 ·rename_i hn
  exact List.nodup_append.2 ⟨h, by simp, fun a ha b hb => by
   obtain rfl := List.mem_singleton.1 hb
   rintro rfl
   exact numOf_none hn ha⟩
theorem inter_nodup (l : List ByteArray) : ∀ (q : List ByteArray × List Nat), q.1.Nodup → (l.foldl step1 q).1.Nodup := by
 induction l with
 | nil => exact fun q h => h
 | cons s l ih => exact fun q h => ih _ (step1_nodup q s h)
/-! ## symbols, and their bytes -/
def unf (s : ByteArray) : Bool := decide (64 < (s.size : Int)) || decide (0 ≤ Lib.indexByte s.data.toList 0)
theorem unf_size {s : ByteArray} (h : unf s = false) : s.size ≤ 64 := by
 unfold unf at h
 rw [Bool.or_eq_false_iff] at h
 have := of_decide_eq_false h.1
 omega
def syB (l : List ByteArray) : List UInt8 := jn (l.map putStr)
theorem syB_nil : syB [] = [] := rfl
theorem syB_snoc (l : List ByteArray) (s : ByteArray) : syB (l ++ [s]) = syB l ++ frame (putStr s) := by simp [syB, jn]
theorem syB_take (l : List ByteArray) (k : Nat) (h : k < l.length) : syB (l.take (k + 1)) = syB (l.take k) ++ frame (putStr l[k]) := by
 rw [List.take_succ_eq_append_getElem h, syB_snoc]
theorem putStr_short {s : ByteArray} (h : s.size ≤ 64) : (putStr s).length ≤ 74 := by have := putStr_length s; omega
theorem putStrs_one (s : ByteArray) : putStrs [s] = putStr s := by simp [putStrs]
theorem frame_short {s : ByteArray} (h : s.size ≤ 64) : (frame (putStr s)).length ≤ 82 := by have := putStr_short h; rw [frame_length]; omega
theorem syB_length (l : List ByteArray) (h : ∀ s ∈ l, s.size ≤ 64) : (syB l).length ≤ 82 * l.length := by
 induction l with
 | nil => simp [syB, jn]
 | cons s l ih =>
  have h1 := frame_short (h s (List.mem_cons_self ..))
  have h2 := ih fun x hx => h x (List.mem_cons_of_mem _ hx)
  have e : syB (s :: l) = frame (putStr s) ++ syB l := rfl
  rw [e, List.length_append, List.length_cons]
  omega
def rest1 (L : List ByteArray) (load : List UInt8) : Option (List ByteArray) :=
 if rDone load (rText load 0 0 64).2.1 (rText load 0 0 64).2.2 = 0 ∧ numOf L ⟨(rText load 0 0 64).1.toArray⟩ = none ∧ unf ⟨(rText load 0 0 64).1.toArray⟩ = false then some (L ++ [⟨(rText load 0 0 64).1.toArray⟩]) else none
def ldF (L : List ByteArray) : List (List UInt8) → Option (List ByteArray)
 | [] => some L
 | x :: r => (rest1 L x).bind fun L' => ldF L' r
def ld (l : List (List UInt8)) : Option (List ByteArray) := ldF [⟨#[]⟩] l
theorem rest1_length {L L' : List ByteArray} {x : List UInt8} (h : rest1 L x = some L') : L'.length = L.length + 1 := by
 unfold rest1 at h
 split at h
 ·injection h with h; rw [← h]; simp
 ·cases h
theorem ldF_some {l : List (List UInt8)} : ∀ {L L' : List ByteArray}, ldF L l = some L' → L'.length = L.length + l.length := by
 induction l with
 | nil => intro L L' h; injection h with h; rw [h]; rfl
 | cons x r ih =>
  intro L L' h
  unfold ldF at h
  obtain ⟨M, h1, h2⟩ := Option.bind_eq_some_iff.1 h
  have := rest1_length h1
  have := ih h2
  rw [List.length_cons]; omega
theorem ldF_step {L M : List ByteArray} {l : List (List UInt8)} {k : Nat} (h : k < l.length) (hM : ldF L (l.take k) = some M) : ldF L (l.take (k + 1)) = rest1 M l[k] ∧ ∀ r, ldF L (l.take k ++ r) = ldF M r := by
 have key : ∀ (a : List (List UInt8)) (L M : List ByteArray), ldF L a = some M → ∀ r, ldF L (a ++ r) = ldF M r := by
  intro a
  induction a with
  | nil => intro L M h r; injection h with h; rw [h]; rfl
  | cons x a ih =>
   intro L M h r
   unfold ldF at h
   obtain ⟨M', h1, h2⟩ := Option.bind_eq_some_iff.1 h
   rw [List.cons_append]
   conv => lhs; unfold ldF
   rw [h1, Option.bind_some, ih M' M h2]
 refine ⟨?_, key _ _ _ hM⟩
 rw [List.take_succ_eq_append_getElem h, key _ _ _ hM]
 unfold ldF
 cases rest1 M l[k] <;> rfl
theorem ldF_stop {L M : List ByteArray} {l : List (List UInt8)} {k : Nat} (h : k < l.length) (hM : ldF L (l.take k) = some M) (hn : rest1 M l[k] = none) : ldF L l = none := by
 have := (ldF_step h hM).2 (l.drop k)
 rw [List.take_append_drop] at this
 rw [this, List.drop_eq_getElem_cons h]
 unfold ldF
 rw [hn]
 rfl
end Go.Proofs.YtmcmlkglkpbnpaaGreat
