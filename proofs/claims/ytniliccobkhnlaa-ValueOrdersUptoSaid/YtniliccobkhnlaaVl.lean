/-
  Values in plain Lean: a type, numbers, symbols, parts. No program stands in it.
-/
namespace Go.Proofs.Ytniliccobkhnlaa

/-- A value as the program's type has it. -/
inductive Vl where
  | mk (t : Int) (n : List Int) (s : List ByteArray) (l : List Vl)

namespace Vl
def t : Vl → Int | mk t _ _ _ => t
def n : Vl → List Int | mk _ n _ _ => n
def s : Vl → List ByteArray | mk _ _ s _ => s
def l : Vl → List Vl | mk _ _ _ l => l
theorem eta (v : Vl) : v = mk v.t v.n v.s v.l := by cases v; rfl

/-- How many bytes of symbols. -/
def chars (s : List ByteArray) : Nat := (s.map ByteArray.size).sum

mutual
/-- How many are in one another. -/
def depth : Vl → Nat | mk _ _ _ l => depths l + 1
def depths : List Vl → Nat | [] => 0 | x :: r => max x.depth (depths r)
end
mutual
/-- How much there is: elements, bytes and parts. -/
def tot : Vl → Nat | mk _ n s l => 1 + n.length + s.length + chars s + tots l
def tots : List Vl → Nat | [] => 0 | x :: r => x.tot + tots r
end
mutual
/-- Elements and parts. -/
def size : Vl → Nat | mk _ n s l => 1 + n.length + s.length + sizes l
def sizes : List Vl → Nat | [] => 0 | x :: r => x.size + sizes r
end

theorem depth_def (v : Vl) : v.depth = depths v.l + 1 := by cases v; simp [depth, l]
theorem tot_def (v : Vl) : v.tot = 1 + v.n.length + v.s.length + chars v.s + tots v.l := by cases v; simp [tot, n, s, l]
theorem size_def (v : Vl) : v.size = 1 + v.n.length + v.s.length + sizes v.l := by cases v; simp [size, n, s, l]
theorem depth_lt {x v : Vl} (h : x ∈ v.l) : x.depth < v.depth := by
  rw [depth_def v]
  suffices ∀ l : List Vl, x ∈ l → x.depth ≤ depths l by have := this _ h; omega
  intro l hl
  induction l with
  | nil => cases hl
  | cons a r ih =>
    simp only [depths]
    rcases List.mem_cons.1 hl with rfl | h
    · omega
    · have := ih h; omega
theorem depths_snoc (l : List Vl) (x : Vl) : depths (l ++ [x]) = max (depths l) x.depth := by
  induction l with
  | nil => simp [depths]
  | cons a r ih => simp only [List.cons_append, depths, ih]; omega
theorem tots_snoc (l : List Vl) (x : Vl) : tots (l ++ [x]) = tots l + x.tot := by
  induction l with
  | nil => simp [tots]
  | cons a r ih => simp only [List.cons_append, tots, ih]; omega
theorem sizes_snoc (l : List Vl) (x : Vl) : sizes (l ++ [x]) = sizes l + x.size := by
  induction l with
  | nil => simp [sizes]
  | cons a r ih => simp only [List.cons_append, sizes, ih]; omega
theorem tots_append (l m : List Vl) : tots (l ++ m) = tots l + tots m := by
  induction l with
  | nil => simp [tots]
  | cons a r ih => simp only [List.cons_append, tots, ih]; omega
theorem tots_take (l : List Vl) (j : Nat) (h : j < l.length) : tots (l.take (j + 1)) = tots (l.take j) + l[j].tot := by
  rw [List.take_succ_eq_append_getElem h, tots_snoc]
theorem tots_take_le (l : List Vl) (j : Nat) : tots (l.take j) ≤ tots l := by
  have := tots_append (l.take j) (l.drop j)
  rw [List.take_append_drop] at this
  omega
theorem tot_mem {x : Vl} {l : List Vl} (h : x ∈ l) : x.tot ≤ tots l := by
  induction l with
  | nil => cases h
  | cons a r ih =>
    simp only [tots]
    rcases List.mem_cons.1 h with rfl | h
    · omega
    · have := ih h; omega
theorem tot_pos (v : Vl) : 0 < v.tot := by rw [tot_def]; omega
theorem length_le_tots (l : List Vl) : l.length ≤ tots l := by
  induction l with
  | nil => simp
  | cons a r ih => simp only [tots, List.length_cons]; have := tot_pos a; omega
theorem sizes_take (l : List Vl) (j : Nat) (h : j < l.length) : sizes (l.take (j + 1)) = sizes (l.take j) + l[j].size := by
  rw [List.take_succ_eq_append_getElem h, sizes_snoc]
theorem depths_take (l : List Vl) (j : Nat) (h : j < l.length) : depths (l.take (j + 1)) = max (depths (l.take j)) l[j].depth := by
  rw [List.take_succ_eq_append_getElem h, depths_snoc]
theorem chars_take (s : List ByteArray) (j : Nat) (h : j < s.length) : chars (s.take (j + 1)) = chars (s.take j) + s[j].size := by
  unfold chars
  rw [List.take_succ_eq_append_getElem h, List.map_append, List.sum_append]
  simp
theorem chars_take_le (s : List ByteArray) (j : Nat) : chars (s.take j) ≤ chars s := by
  unfold chars
  have h : s = s.take j ++ s.drop j := (List.take_append_drop j s).symm
  conv => rhs; rw [h]
  rw [List.map_append, List.sum_append]
  omega

mutual
/-- Are they the same? -/
def same : Vl → Vl → Bool | mk t n s l, mk t' n' s' l' => decide (t = t') && decide (n = n') && decide (s = s') && sames l l'
def sames : List Vl → List Vl → Bool
  | [], [] => true
  | x :: r, y :: q => same x y && sames r q
  | _, _ => false
end
mutual
theorem same_eq : ∀ a b : Vl, same a b = true ↔ a = b
  | mk t n s l, mk t' n' s' l' => by
    have := sames_eq l l'
    simp only [same, Bool.and_eq_true, decide_eq_true_eq, mk.injEq, this, and_assoc]
theorem sames_eq : ∀ a b : List Vl, sames a b = true ↔ a = b
  | [], [] => by simp [sames]
  | [], _ :: _ => by simp [sames]
  | _ :: _, [] => by simp [sames]
  | x :: r, y :: q => by
    have h1 := same_eq x y
    have h2 := sames_eq r q
    simp only [sames, Bool.and_eq_true, List.cons.injEq, h1, h2]
end
theorem same_refl (a : Vl) : same a a = true := (same_eq a a).2 rfl
theorem same_ne {a b : Vl} (h : a ≠ b) : same a b = false := by
  cases e : same a b
  · rfl
  · exact absurd ((same_eq a b).1 e) h
mutual
/-- How many elements, or rows. -/
def count : Vl → Nat
  | mk t n s l => if t = 1 ∨ t = 2 ∨ t = 4 ∨ t = 5 then n.length else if t = 3 then s.length else if t = 0 then l.length else if t = 98 ∨ t = 99 then countH l else 1
def countH : List Vl → Nat
  | [] => 1
  | x :: _ => x.count
end
theorem count_def (v : Vl) : v.count = if v.t = 1 ∨ v.t = 2 ∨ v.t = 4 ∨ v.t = 5 then v.n.length else if v.t = 3 then v.s.length else if v.t = 0 then v.l.length else if v.t = 98 ∨ v.t = 99 then countH v.l else 1 := by
  cases v; rfl
theorem countH_at {l : List Vl} (h : 0 < l.length) : countH l = l[0].count := by
  cases l with
  | nil => simp at h
  | cons a r => rfl
theorem count_le (d : Nat) : ∀ v : Vl, v.depth ≤ d → v.count ≤ v.tot := by
  induction d with
  | zero => intro v h; rw [depth_def] at h; omega
  | succ d ih =>
    intro v h
    have ht := tot_def v
    have hl := length_le_tots v.l
    rw [count_def]
    split
    · omega
    · split
      · omega
      · split
        · omega
        · split
          · rcases Nat.eq_zero_or_pos v.l.length with h0 | h0
            · rw [List.eq_nil_of_length_eq_zero h0]
              simp only [countH]; omega
            · rw [countH_at h0]
              have h1 := ih v.l[0] (by have := depth_lt (List.getElem_mem h0); omega)
              have h2 := tot_mem (List.getElem_mem h0)
              omega
          · omega
end Vl
end Go.Proofs.Ytniliccobkhnlaa
