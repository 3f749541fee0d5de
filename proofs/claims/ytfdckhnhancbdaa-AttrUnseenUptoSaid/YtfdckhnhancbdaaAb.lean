/-
  Comparisons in plain words, and Go's cmp.Compare of numbers and of strings (taken out of Xg, for seats without value's Compare).
-/
import Derived.Test.YtfdckhnhancbdaaVb
import Derived.WalkLawsBesides
import Derived.Deep.QuietTactic
import Derived.BigQuiet
import Derived.Deep.CutBlock
import Derived.Deep.DrawnRows
import Derived.Deep.RegionHeld3
import Derived.Deep.DeepCutAuto
namespace Go.Proofs.Ytfdckhnhancbdaa
open Go.RowKit

def cmpI (a b : Int) : Int := if a < b then -1 else if b < a then 1 else 0

/-! ## comparisons: -1, 0, 1 -/

/-- What a comparison is. -/
structure Cmp {α : Type} (f : α → α → Int) (a b c : α) : Prop where
  val : ∀ x y, (x = a ∨ x = b ∨ x = c) → (y = a ∨ y = b ∨ y = c) → f x y = -1 ∨ f x y = 0 ∨ f x y = 1
  anti : ∀ x y, (x = a ∨ x = b ∨ x = c) → (y = a ∨ y = b ∨ y = c) → f y x = - f x y
  same : ∀ x y, (x = a ∨ x = b ∨ x = c) → (y = a ∨ y = b ∨ y = c) → (f x y = 0 ↔ x = y)
  trans : ∀ x y z, (x = a ∨ x = b ∨ x = c) → (y = a ∨ y = b ∨ y = c) → (z = a ∨ z = b ∨ z = c) → f x y ≤ 0 → f y z ≤ 0 → f x z ≤ 0

/-- A comparison of all. -/
structure CmpA {α : Type} (f : α → α → Int) : Prop where
  val : ∀ x y, f x y = -1 ∨ f x y = 0 ∨ f x y = 1
  anti : ∀ x y, f y x = - f x y
  same : ∀ x y, f x y = 0 ↔ x = y
  trans : ∀ x y z, f x y ≤ 0 → f y z ≤ 0 → f x z ≤ 0

/-- One behind the other. -/
def thenC (c d : Int) : Int := if c ≠ 0 then c else d
theorem thenC_ne {c d : Int} (h : c ≠ 0) : thenC c d = c := by unfold thenC; rw [if_pos h]
theorem thenC_eq {c d : Int} (h : c = 0) : thenC c d = d := by unfold thenC; rw [if_neg (by simp [h])]

theorem cmpI_all : CmpA cmpI := by
  refine ⟨fun x y => ?_, fun x y => ?_, fun x y => ?_, fun x y z => ?_⟩ <;> unfold cmpI <;> (repeat split) <;> omega

/-- The law of a comparison by two keys: what is to be shown for three. -/
theorem thenC_val {c d : Int} (h1 : c = -1 ∨ c = 0 ∨ c = 1) (h2 : d = -1 ∨ d = 0 ∨ d = 1) : thenC c d = -1 ∨ thenC c d = 0 ∨ thenC c d = 1 := by
  by_cases h : c = 0
  · rw [thenC_eq h]; exact h2
  · rw [thenC_ne h]; exact h1
theorem thenC_anti {c d c' d' : Int} (h1 : c' = -c) (h2 : d' = -d) : thenC c' d' = - thenC c d := by
  by_cases h : c = 0
  · rw [thenC_eq h, thenC_eq (by omega)]; exact h2
  · rw [thenC_ne h, thenC_ne (by omega)]; exact h1
theorem thenC_zero {c d : Int} : thenC c d = 0 ↔ c = 0 ∧ d = 0 := by
  by_cases h : c = 0
  · rw [thenC_eq h]; simp [h]
  · rw [thenC_ne h]; simp [h]
/-- Transitivity by two keys: f by the first, its equality lets the second speak. -/
theorem thenC_trans {fxy fyz fxz gxy gyz gxz : Int} (t1 : fxy ≤ 0 → fyz ≤ 0 → fxz ≤ 0) (e1 : fxy = 0 → fxz = fyz) (e2 : fyz = 0 → fxz = fxy) (e3 : fxz = 0 → fxy = - fyz) (t2 : gxy ≤ 0 → gyz ≤ 0 → gxz ≤ 0)
    (h1 : thenC fxy gxy ≤ 0) (h2 : thenC fyz gyz ≤ 0) : thenC fxz gxz ≤ 0 := by
  by_cases a : fxy = 0
  · rw [thenC_eq a] at h1
    have ha := e1 a
    by_cases b : fyz = 0
    · rw [thenC_eq b] at h2
      rw [thenC_eq (by omega)]
      exact t2 h1 h2
    · rw [thenC_ne b] at h2
      rw [thenC_ne (by omega)]
      omega
  · rw [thenC_ne a] at h1
    by_cases b : fyz = 0
    · have hb := e2 b
      rw [thenC_ne (by omega)]
      omega
    · rw [thenC_ne b] at h2
      have := t1 h1 h2
      by_cases c : fxz = 0
      · have := e3 c
        omega
      · rw [thenC_ne c]; exact this

/-! ## lists -/
def lexC {α : Type} (f : α → α → Int) : List α → List α → Int
  | [], [] => 0
  | [], _ :: _ => -1
  | _ :: _, [] => 1
  | x :: r, y :: q => thenC (f x y) (lexC f r q)

theorem lexC_all {α : Type} {f : α → α → Int} : ∀ (l m k : List α), (∀ x ∈ l ++ (m ++ k), ∀ y ∈ l ++ (m ++ k), ∀ z ∈ l ++ (m ++ k), Cmp f x y z) →
    (lexC f l m = -1 ∨ lexC f l m = 0 ∨ lexC f l m = 1) ∧ lexC f m l = - lexC f l m ∧ (lexC f l m = 0 ↔ l = m) ∧ (lexC f l m ≤ 0 → lexC f m k ≤ 0 → lexC f l k ≤ 0) := by
  intro l
  induction l with
  | nil =>
    intro m k h
    cases m with
    | nil => cases k <;> simp [lexC]
    | cons y q => cases k <;> simp [lexC]
  | cons x r ih =>
    intro m k h
    cases m with
    | nil => cases k <;> simp [lexC]
    | cons y q =>
      have hx : x ∈ x :: r ++ (y :: q ++ k) := by simp
      have hy : y ∈ x :: r ++ (y :: q ++ k) := by simp
      have C0 := h x hx y hy y hy
      have v1 := C0.val x y (by simp) (by simp)
      have a1 := C0.anti x y (by simp) (by simp)
      have s1 := C0.same x y (by simp) (by simp)
      cases k with
      | nil =>
        obtain ⟨i1, i2, i3, i4⟩ := ih q [] (fun x hx y hy z hz => h x (by simp at hx ⊢; rcases hx with hx | hx <;> simp [hx]) y (by simp at hy ⊢; rcases hy with hy | hy <;> simp [hy]) z (by simp at hz ⊢; rcases hz with hz | hz <;> simp [hz]))
        refine ⟨thenC_val v1 i1, thenC_anti a1 i2, ?_, ?_⟩
        · show thenC (f x y) (lexC f r q) = 0 ↔ _
          rw [thenC_zero, s1, i3]
          simp
        · intro _ h2
          simp [lexC] at h2
      | cons z p =>
        have hz : z ∈ x :: r ++ (y :: q ++ z :: p) := by simp
        obtain ⟨i1, i2, i3, i4⟩ := ih q p (fun x hx y hy z hz => h x (by simp at hx ⊢; rcases hx with hx | hx | hx <;> simp [hx]) y (by simp at hy ⊢; rcases hy with hy | hy | hy <;> simp [hy]) z (by simp at hz ⊢; rcases hz with hz | hz | hz <;> simp [hz]))
        refine ⟨thenC_val v1 i1, thenC_anti a1 i2, ?_, ?_⟩
        · show thenC (f x y) (lexC f r q) = 0 ↔ _
          rw [thenC_zero, s1, i3]
          simp
        · have C := h x hx y hy z hz
          refine thenC_trans (C.trans x y z (by simp) (by simp) (by simp)) (fun e => ?_) (fun e => ?_) (fun e => ?_) i4
          · rw [(C.same x y (by simp) (by simp)).1 e]
          · rw [(C.same y z (by simp) (by simp)).1 e]
          · have := (C.same x z (by simp) (by simp)).1 e
            subst this
            exact C.anti y x (by simp) (by simp)
theorem CmpA.cmp {α : Type} {f : α → α → Int} (h : CmpA f) (a b c : α) : Cmp f a b c := ⟨fun x y _ _ => h.val x y, fun x y _ _ => h.anti x y, fun x y _ _ => h.same x y, fun x y z _ _ _ => h.trans x y z⟩
theorem CmpA.lex {α : Type} {f : α → α → Int} (h : CmpA f) : CmpA (lexC f) :=
  ⟨fun l m => (lexC_all l m [] fun x _ y _ z _ => h.cmp x y z).1, fun l m => (lexC_all l m [] fun x _ y _ z _ => h.cmp x y z).2.1, fun l m => (lexC_all l m [] fun x _ y _ z _ => h.cmp x y z).2.2.1, fun l m k => (lexC_all l m k fun x _ y _ z _ => h.cmp x y z).2.2.2⟩
end Go.Proofs.Ytfdckhnhancbdaa

/- An order of values: strings, values; what the program's cmp.Compare says of them. -/
namespace Go.Proofs.Ytfdckhnhancbdaa
open Go.RowKit
attribute [local go_sem ↓] Go.wp_at_zero Go.wp_at_succ

def cmpU (a b : UInt8) : Int := if a < b then -1 else if b < a then 1 else 0
theorem cmpU_all : CmpA cmpU := by
  refine ⟨fun x y => ?_, fun x y => ?_, fun x y => ?_, fun x y z => ?_⟩ <;> unfold cmpU <;> simp only [UInt8.lt_iff_toNat_lt, ← UInt8.toNat_inj] <;> (repeat split) <;> omega
theorem less_lex : ∀ l m : List UInt8, Op.bytesLess l m = true ↔ lexC cmpU l m = -1
  | [], [] => by simp [Op.bytesLess, lexC]
  | [], _ :: _ => by simp [Op.bytesLess, lexC]
  | _ :: _, [] => by simp [Op.bytesLess, lexC]
  | x :: r, y :: q => by
    have ih := less_lex r q
    have v := cmpU_all.val x y
    show (decide (x < y) || (x == y && Op.bytesLess r q)) = true ↔ thenC (cmpU x y) (lexC cmpU r q) = -1
    by_cases h : cmpU x y = 0
    · have e := (cmpU_all.same x y).1 h
      subst e
      rw [thenC_eq h, ← ih]
      simp
    · rw [thenC_ne h]
      have hne : x ≠ y := fun e => h ((cmpU_all.same x y).2 e)
      have hb : (x == y) = false := by simpa using hne
      rw [hb]
      by_cases hl : x < y
      · have : cmpU x y = -1 := by unfold cmpU; rw [if_pos hl]
        simp [this, hl]
      · have : cmpU x y ≠ -1 := by unfold cmpU; rw [if_neg hl]; split <;> omega
        simp [this, hl]
def cmpS (a b : ByteArray) : Int := lexC cmpU a.toList b.toList
theorem toList_inj {a b : ByteArray} (h : a.toList = b.toList) : a = b := by
  cases Classical.em (a = b) with
  | inl e => exact e
  | inr e =>
    have := ba_ne e
    rw [h] at this
    simp at this
theorem cmpS_all : CmpA cmpS :=
  ⟨fun x y => cmpU_all.lex.val _ _, fun x y => cmpU_all.lex.anti _ _, fun x y => (cmpU_all.lex.same _ _).trans ⟨toList_inj, fun h => by rw [h]⟩, fun x y z => cmpU_all.lex.trans _ _ _⟩

/-! ## cmp.Compare -/
set_option maxHeartbeats 4000000 in
theorem nan64_any (a : Int) (w : World) : Calls Try.prog 84 #[.int .i64 a] w fun e w' => e = .returned (.bool false) ∧ w = w' := by
  have e1 : (a != a) = false := by simp
  go_enter Try.func84, Try.ntmps84
  go_wp2_with fail
  go_ret
  exact ⟨by simp, rfl⟩
set_option maxHeartbeats 4000000 in
theorem nanS_any (a : ByteArray) (w : World) : Calls Try.prog 85 #[.string a] w fun e w' => e = .returned (.bool false) ∧ w = w' := by
  go_enter Try.func85, Try.ntmps85
  go_wp2_with fail
  go_ret
  exact ⟨by simp, rfl⟩
set_option maxHeartbeats 4000000 in
theorem cmp64_any (a b : Int) (w : World) : Calls Try.prog 70 #[.int .i64 a, .int .i64 b] w fun e w' => e = .returned (.int .i64 (cmpI a b)) ∧ w = w' := by
  have HN := hide (fun x w => nan64_any x w)
  by_cases h1 : a < b
  · have HC := hide (show cmpI a b = -1 by unfold cmpI; rw [if_pos h1])
    rw [HC.out]
    go_enter Try.func70, Try.ntmps70
    go_wp2_with (go_at_call 84; refine (HN.out _ _).mono ?_; rintro e w1 ⟨rfl, rfl⟩)
    go_ret
    exact ⟨rfl, rfl⟩
  · by_cases h2 : b < a
    · have HC := hide (show cmpI a b = 1 by unfold cmpI; rw [if_neg h1, if_pos h2])
      rw [HC.out]
      have h1' : b ≤ a := by omega
      go_enter Try.func70, Try.ntmps70
      go_wp2_with (go_at_call 84; refine (HN.out _ _).mono ?_; rintro e w1 ⟨rfl, rfl⟩)
      go_ret
      exact ⟨rfl, rfl⟩
    · have HC := hide (show cmpI a b = 0 by unfold cmpI; rw [if_neg h1, if_neg h2])
      rw [HC.out]
      have h1' : b ≤ a := by omega
      have h2' : a ≤ b := by omega
      go_enter Try.func70, Try.ntmps70
      go_wp2_with (go_at_call 84; refine (HN.out _ _).mono ?_; rintro e w1 ⟨rfl, rfl⟩)
      go_ret
      exact ⟨rfl, rfl⟩
set_option maxHeartbeats 4000000 in
theorem cmpS_any (a b : ByteArray) (w : World) : Calls Try.prog 71 #[.string a, .string b] w fun e w' => e = .returned (.int .i64 (cmpS a b)) ∧ w = w' := by
  have HN := hide (fun x w => nanS_any x w)
  have HC := hide (show cmpS a b = lexC cmpU a.toList b.toList from rfl)
  have hv := cmpU_all.lex.val a.toList b.toList
  have k1 := less_lex a.toList b.toList
  have k2 := cmpU_all.lex.same a.toList b.toList
  generalize lexC cmpU a.toList b.toList = z at *
  rcases hv with rfl | rfl | rfl
  · have h1 : Op.bytesLess a.toList b.toList = true := k1.2 rfl
    rw [HC.out]
    clear k1 k2 HC
    go_enter Try.func71, Try.ntmps71
    go_wp2_with (go_at_call 85; refine (HN.out _ _).mono ?_; rintro e w1 ⟨rfl, rfl⟩)
    go_ret
    exact ⟨rfl, rfl⟩
  · have h1 : Op.bytesLess a.toList b.toList = false := by
      cases e : Op.bytesLess a.toList b.toList
      · rfl
      · exact absurd (k1.1 e) (by decide)
    have h2 : (a.toList == b.toList) = true := by rw [k2.1 rfl]; simp
    rw [HC.out]
    clear k1 k2 HC
    go_enter Try.func71, Try.ntmps71
    go_wp2_with (go_at_call 85; refine (HN.out _ _).mono ?_; rintro e w1 ⟨rfl, rfl⟩)
    go_ret
    exact ⟨rfl, rfl⟩
  · have h1 : Op.bytesLess a.toList b.toList = false := by
      cases e : Op.bytesLess a.toList b.toList
      · rfl
      · exact absurd (k1.1 e) (by decide)
    have h2 : (a.toList == b.toList) = false := by
      cases e : a.toList == b.toList
      · rfl
      · exact absurd (k2.2 (eq_of_beq e)) (by decide)
    rw [HC.out]
    clear k1 k2 HC
    go_enter Try.func71, Try.ntmps71
    go_wp2_with (go_at_call 85; refine (HN.out _ _).mono ?_; rintro e w1 ⟨rfl, rfl⟩)
    go_ret
    exact ⟨rfl, rfl⟩
end Go.Proofs.Ytfdckhnhancbdaa
