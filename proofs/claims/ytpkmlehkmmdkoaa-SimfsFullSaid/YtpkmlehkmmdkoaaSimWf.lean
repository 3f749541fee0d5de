/-
  Names, files and what is used of them, in plain lists.
-/
import Derived.Test.YtpkmlehkmmdkoaaSimY
namespace Go.Proofs.Ytpkmlehkmmdkoaa

def sumF (h : Nat → Nat) (l : List (ByteArray × Nat)) : Nat := (l.map fun x => h x.2).sum
theorem sumF_append (h : Nat → Nat) (a b : List (ByteArray × Nat)) : sumF h (a ++ b) = sumF h a + sumF h b := by simp [sumF]
theorem sumF_cons (h : Nat → Nat) (x : ByteArray × Nat) (l : List (ByteArray × Nat)) : sumF h (x :: l) = h x.2 + sumF h l := by simp [sumF]
theorem sumF_eq {h h' : Nat → Nat} : ∀ {l : List (ByteArray × Nat)}, (∀ x ∈ l, h x.2 = h' x.2) → sumF h l = sumF h' l
  | [], _ => rfl
  | x :: l, k => by
    rw [sumF_cons, sumF_cons, k x (by simp), sumF_eq (l := l) (fun y hy => k y (by simp [hy]))]
theorem sumF_mem {h : Nat → Nat} : ∀ {l : List (ByteArray × Nat)} {x : ByteArray × Nat}, x ∈ l → h x.2 ≤ sumF h l
  | y :: l, x, hx => by
    rw [sumF_cons]
    rcases List.mem_cons.1 hx with rfl | hx
    · omega
    · have := sumF_mem (h := h) hx
      omega
/-- One number's length changes. -/
theorem sumF_one {h h' : Nat → Nat} {n : Nat} : ∀ {l : List (ByteArray × Nat)}, (l.map (·.2)).Nodup → n ∈ l.map (·.2) → (∀ m, m ≠ n → h m = h' m) → sumF h' l + h n = sumF h l + h' n
  | [], _, hn, _ => by simp at hn
  | x :: l, hd, hn, k => by
    rw [sumF_cons, sumF_cons]
    rw [List.map_cons, List.nodup_cons] at hd
    by_cases e : x.2 = n
    · have hl : sumF h l = sumF h' l := sumF_eq fun y hy => k y.2 (fun e2 => hd.1 (by rw [e, ← e2]; exact List.mem_map_of_mem hy))
      rw [e, hl]
      omega
    · have hn' : n ∈ l.map (·.2) := by
        rw [List.map_cons] at hn
        rcases List.mem_cons.1 hn with hn | hn
        · exact absurd hn.symm e
        · exact hn
      have := sumF_one hd.2 hn' k
      rw [k x.2 e]
      omega

section
variable {κ ν : Type} [DecidableEq κ]
theorem aget_none {l : List (κ × ν)} {k : κ} (h : aget l k = none) : ∀ x ∈ l, x.1 ≠ k := by
  induction l with
  | nil => intro x hx; cases hx
  | cons y l ih =>
    obtain ⟨a, u⟩ := y
    simp only [aget] at h
    by_cases e : a = k
    · rw [if_pos e] at h; cases h
    · rw [if_neg e] at h
      intro x hx
      rcases List.mem_cons.1 hx with rfl | hx
      · exact e
      · exact ih h x hx
theorem aput_none {l : List (κ × ν)} {k : κ} {v : ν} (h : aget l k = none) : aput l k v = l ++ [(k, v)] := by
  induction l with
  | nil => rfl
  | cons y l ih =>
    obtain ⟨a, u⟩ := y
    simp only [aget] at h
    by_cases e : a = k
    · rw [if_pos e] at h; cases h
    · rw [if_neg e] at h
      simp only [aput, if_neg e, ih h, List.cons_append]
theorem aput_keys {l : List (κ × ν)} {k : κ} {v w : ν} (h : aget l k = some w) : (aput l k v).map (·.1) = l.map (·.1) := by
  induction l with
  | nil => cases h
  | cons y l ih =>
    obtain ⟨a, u⟩ := y
    simp only [aget] at h
    by_cases e : a = k
    · simp [aput, e]
    · rw [if_neg e] at h
      simp only [aput, if_neg e, List.map_cons, ih h]
theorem adel_sub (l : List (κ × ν)) (k : κ) : (adel l k).Sublist l := by
  induction l with
  | nil => exact List.Sublist.slnil
  | cons y l ih =>
    obtain ⟨a, u⟩ := y
    by_cases e : a = k
    · simp only [adel, if_pos e]
      exact List.sublist_cons_self _ _
    · simp only [adel, if_neg e]
      exact ih.cons_cons _
theorem adel_not {l : List (κ × ν)} {k : κ} (hd : (l.map (·.1)).Nodup) : ∀ x ∈ adel l k, x.1 ≠ k := by
  induction l with
  | nil => intro x hx; cases hx
  | cons y l ih =>
    obtain ⟨a, u⟩ := y
    rw [List.map_cons, List.nodup_cons] at hd
    by_cases e : a = k
    · simp only [adel, if_pos e]
      intro x hx e2
      exact hd.1 (List.mem_map.2 ⟨x, hx, e2.trans e.symm⟩)
    · simp only [adel, if_neg e]
      intro x hx
      rcases List.mem_cons.1 hx with rfl | hx
      · exact e
      · exact ih hd.2 x hx
theorem adel_mem {l : List (κ × ν)} {k : κ} {x : κ × ν} (hx : x ∈ l) (h : x.1 ≠ k) : x ∈ adel l k := by
  induction l with
  | nil => cases hx
  | cons y l ih =>
    obtain ⟨a, u⟩ := y
    by_cases e : a = k
    · simp only [adel, if_pos e]
      rcases List.mem_cons.1 hx with rfl | hx
      · exact absurd e h
      · exact hx
    · simp only [adel, if_neg e]
      rcases List.mem_cons.1 hx with rfl | hx
      · exact List.mem_cons_self ..
      · exact List.mem_cons_of_mem _ (ih hx)
theorem aput_mem {l : List (κ × ν)} {k : κ} {v : ν} (hd : (l.map (·.1)).Nodup) {x : κ × ν} : x ∈ aput l k v ↔ x = (k, v) ∨ (x ∈ l ∧ x.1 ≠ k) := by
  induction l with
  | nil => simp [aput]
  | cons y l ih =>
    obtain ⟨a, u⟩ := y
    rw [List.map_cons, List.nodup_cons] at hd
    by_cases e : a = k
    · subst e
      rw [show aput ((a, u) :: l) a v = (a, v) :: l from by simp [aput]]
      constructor
      · intro h
        rcases List.mem_cons.1 h with h | h
        · exact .inl h
        · exact .inr ⟨List.mem_cons_of_mem _ h, fun e2 => hd.1 (List.mem_map.2 ⟨x, h, e2⟩)⟩
      · intro h
        rcases h with h | ⟨h, h2⟩
        · exact List.mem_cons.2 (.inl h)
        · rcases List.mem_cons.1 h with h | h
          · subst h; exact absurd rfl h2
          · exact List.mem_cons.2 (.inr h)
    · rw [show aput ((a, u) :: l) k v = (a, u) :: aput l k v from by simp [aput, e]]
      constructor
      · intro h
        rcases List.mem_cons.1 h with h | h
        · subst h; exact .inr ⟨List.mem_cons_self .., e⟩
        · rcases (ih hd.2).1 h with h | ⟨h, h2⟩
          · exact .inl h
          · exact .inr ⟨List.mem_cons_of_mem _ h, h2⟩
      · intro h
        rcases h with h | ⟨h, h2⟩
        · exact List.mem_cons.2 (.inr ((ih hd.2).2 (.inl h)))
        · rcases List.mem_cons.1 h with h | h
          · exact List.mem_cons.2 (.inl h)
          · exact List.mem_cons.2 (.inr ((ih hd.2).2 (.inr ⟨h, h2⟩)))
end

theorem sumF_adel {h : Nat → Nat} {l : List (ByteArray × Nat)} {k : ByteArray} {v : Nat} (ha : aget l k = some v) : sumF h l = sumF h (adel l k) + h v := by
  induction l with
  | nil => cases ha
  | cons y l ih =>
    obtain ⟨a, u⟩ := y
    simp only [aget] at ha
    by_cases e : a = k
    · rw [if_pos e] at ha
      injection ha with ha
      subst ha
      simp only [adel, if_pos e, sumF_cons]
      omega
    · rw [if_neg e] at ha
      simp only [adel, if_neg e, sumF_cons, ih ha]
      omega
theorem sumF_aput {h : Nat → Nat} {l : List (ByteArray × Nat)} {k : ByteArray} {v v0 : Nat} (ha : aget l k = some v0) : sumF h (aput l k v) + h v0 = sumF h l + h v := by
  induction l with
  | nil => cases ha
  | cons y l ih =>
    obtain ⟨a, u⟩ := y
    simp only [aget] at ha
    by_cases e : a = k
    · rw [if_pos e] at ha
      injection ha with ha
      subst ha
      simp only [aput, if_pos e, sumF_cons]
      omega
    · rw [if_neg e] at ha
      have := ih ha
      simp only [aput, if_neg e, sumF_cons]
      omega
theorem aput_vals {l : List (ByteArray × Nat)} {k : ByteArray} {v : Nat} (hd : (l.map (·.1)).Nodup) (hv : (l.map (·.2)).Nodup) (hn : v ∉ l.map (·.2)) : ((aput l k v).map (·.2)).Nodup := by
  induction l with
  | nil => simp [aput]
  | cons y l ih =>
    obtain ⟨a, u⟩ := y
    rw [List.map_cons, List.nodup_cons] at hd hv
    rw [List.map_cons, List.mem_cons, not_or] at hn
    by_cases e : a = k
    · simp only [aput, if_pos e, List.map_cons, List.nodup_cons]
      exact ⟨hn.2, hv.2⟩
    · simp only [aput, if_neg e, List.map_cons, List.nodup_cons]
      refine ⟨fun hm => ?_, ih hd.2 hv.2 hn.2⟩
      obtain ⟨x, hx, hx2⟩ := List.mem_map.1 hm
      rcases (aput_mem hd.2).1 hx with rfl | ⟨hx, _⟩
      · exact hn.1 hx2
      · exact hv.1 (List.mem_map.2 ⟨x, hx, hx2⟩)
theorem aput_nodup {l : List (ByteArray × Nat)} {k : ByteArray} {v : Nat} (hd : (l.map (·.1)).Nodup) : ((aput l k v).map (·.1)).Nodup := by
  cases ha : aget l k with
  | none =>
    rw [aput_none ha, List.map_append, List.nodup_append]
    refine ⟨hd, by simp, fun a h1 b h2 e => ?_⟩
    obtain ⟨x, hx, rfl⟩ := List.mem_map.1 h1
    simp only [List.map_cons, List.map_nil, List.mem_singleton] at h2
    exact aget_none ha x hx (e.trans h2)
  | some w => rw [aput_keys ha]; exact hd

end Go.Proofs.Ytpkmlehkmmdkoaa
