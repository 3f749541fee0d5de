/-
  An order of values, in plain Lean: it is one (P3.8, P3.10).
-/
import Derived.Test.YtfckmkpfhchggaaWb
import Derived.Test.YtfckmkpfhchggaaVb
import Derived.WalkLawsBesides
import Derived.Test.YtfckmkpfhchggaaVd
import Derived.Deep.QuietTactic
import Derived.BigQuiet
import Derived.Test.YtfckmkpfhchggaaWz
import Derived.Deep.CutBlock
import Derived.Deep.DeepCutAuto

namespace Go.Proofs.Ytfckmkpfhchggaa
open Go.RowKit

/-! ## comparisons: -1, 0, 1 -/

/-- What a comparison is. -/
structure Cmp {α : Type} (f : α → α → Int) (a b c : α) : Prop where
  val : ∀ x y, (x = a ∨ x = b ∨ x = c) → (y = a ∨ y = b ∨ y = c) → f x y = -1 ∨ f x y = 0 ∨ f x y = 1
  anti : ∀ x y, (x = a ∨ x = b ∨ x = c) → (y = a ∨ y = b ∨ y = c) → f y x = - f x y
  same : ∀ x y, (x = a ∨ x = b ∨ x = c) → (y = a ∨ y = b ∨ y = c) → (f x y = 0 ↔ x = y)
  trans : ∀ x y z, (x = a ∨ x = b ∨ x = c) → (y = a ∨ y = b ∨ y = c) → (z = a ∨ z = b ∨ z = c) → f x y ≤ 0 → f y z ≤ 0 → f x z ≤ 0

/-- A comparison of all. -/
structure CmpA {α : Type} (f : α → α → Int) : Prop where
  val : ∀ x y, f x y = -1 ∨ f x y = 0 ∨ f x y = 1
  anti : ∀ x y, f y x = - f x y
  same : ∀ x y, f x y = 0 ↔ x = y
  trans : ∀ x y z, f x y ≤ 0 → f y z ≤ 0 → f x z ≤ 0

/-- One behind the other. -/
def thenC (c d : Int) : Int := if c ≠ 0 then c else d
theorem thenC_ne {c d : Int} (h : c ≠ 0) : thenC c d = c := by unfold thenC; rw [if_pos h]
theorem thenC_eq {c d : Int} (h : c = 0) : thenC c d = d := by unfold thenC; rw [if_neg (by simp [h])]

theorem cmpI_all : CmpA cmpI := by
  refine ⟨fun x y => ?_, fun x y => ?_, fun x y => ?_, fun x y z => ?_⟩ <;> unfold cmpI <;> (repeat split) <;> omega

/-- The law of a comparison by two keys: what is to be shown for three. -/
theorem thenC_val {c d : Int} (h1 : c = -1 ∨ c = 0 ∨ c = 1) (h2 : d = -1 ∨ d = 0 ∨ d = 1) : thenC c d = -1 ∨ thenC c d = 0 ∨ thenC c d = 1 := by
  by_cases h : c = 0
  · rw [thenC_eq h]; exact h2
  · rw [thenC_ne h]; exact h1
theorem thenC_anti {c d c' d' : Int} (h1 : c' = -c) (h2 : d' = -d) : thenC c' d' = - thenC c d := by
  by_cases h : c = 0
  · rw [thenC_eq h, thenC_eq (by omega)]; exact h2
  · rw [thenC_ne h, thenC_ne (by omega)]; exact h1
theorem thenC_zero {c d : Int} : thenC c d = 0 ↔ c = 0 ∧ d = 0 := by
  by_cases h : c = 0
  · rw [thenC_eq h]; simp [h]
  · rw [thenC_ne h]; simp [h]
/-- Transitivity by two keys: f by the first, its equality lets the second speak. -/
theorem thenC_trans {fxy fyz fxz gxy gyz gxz : Int} (t1 : fxy ≤ 0 → fyz ≤ 0 → fxz ≤ 0) (e1 : fxy = 0 → fxz = fyz) (e2 : fyz = 0 → fxz = fxy) (e3 : fxz = 0 → fxy = - fyz) (t2 : gxy ≤ 0 → gyz ≤ 0 → gxz ≤ 0)
    (h1 : thenC fxy gxy ≤ 0) (h2 : thenC fyz gyz ≤ 0) : thenC fxz gxz ≤ 0 := by
  by_cases a : fxy = 0
  · rw [thenC_eq a] at h1
    have ha := e1 a
    by_cases b : fyz = 0
    · rw [thenC_eq b] at h2
      rw [thenC_eq (by omega)]
      exact t2 h1 h2
    · rw [thenC_ne b] at h2
      rw [thenC_ne (by omega)]
      omega
  · rw [thenC_ne a] at h1
    by_cases b : fyz = 0
    · have hb := e2 b
      rw [thenC_ne (by omega)]
      omega
    · rw [thenC_ne b] at h2
      have := t1 h1 h2
      by_cases c : fxz = 0
      · have := e3 c
        omega
      · rw [thenC_ne c]; exact this

/-! ## lists -/
def lexC {α : Type} (f : α → α → Int) : List α → List α → Int
  | [], [] => 0
  | [], _ :: _ => -1
  | _ :: _, [] => 1
  | x :: r, y :: q => thenC (f x y) (lexC f r q)

theorem lexC_all {α : Type} {f : α → α → Int} : ∀ (l m k : List α), (∀ x ∈ l ++ (m ++ k), ∀ y ∈ l ++ (m ++ k), ∀ z ∈ l ++ (m ++ k), Cmp f x y z) →
    (lexC f l m = -1 ∨ lexC f l m = 0 ∨ lexC f l m = 1) ∧ lexC f m l = - lexC f l m ∧ (lexC f l m = 0 ↔ l = m) ∧ (lexC f l m ≤ 0 → lexC f m k ≤ 0 → lexC f l k ≤ 0) := by
  intro l
  induction l with
  | nil =>
    intro m k h
    cases m with
    | nil => cases k <;> simp [lexC]
    | cons y q => cases k <;> simp [lexC]
  | cons x r ih =>
    intro m k h
    cases m with
    | nil => cases k <;> simp [lexC]
    | cons y q =>
      have hx : x ∈ x :: r ++ (y :: q ++ k) := by simp
      have hy : y ∈ x :: r ++ (y :: q ++ k) := by simp
      have C0 := h x hx y hy y hy
      have v1 := C0.val x y (by simp) (by simp)
      have a1 := C0.anti x y (by simp) (by simp)
      have s1 := C0.same x y (by simp) (by simp)
      cases k with
      | nil =>
        obtain ⟨i1, i2, i3, i4⟩ := ih q [] (fun x hx y hy z hz => h x (by simp at hx ⊢; rcases hx with hx | hx <;> simp [hx]) y (by simp at hy ⊢; rcases hy with hy | hy <;> simp [hy]) z (by simp at hz ⊢; rcases hz with hz | hz <;> simp [hz]))
        refine ⟨thenC_val v1 i1, thenC_anti a1 i2, ?_, ?_⟩
        · show thenC (f x y) (lexC f r q) = 0 ↔ _
          rw [thenC_zero, s1, i3]
          simp
        · intro _ h2
          simp [lexC] at h2
      | cons z p =>
        have hz : z ∈ x :: r ++ (y :: q ++ z :: p) := by simp
        obtain ⟨i1, i2, i3, i4⟩ := ih q p (fun x hx y hy z hz => h x (by simp at hx ⊢; rcases hx with hx | hx | hx <;> simp [hx]) y (by simp at hy ⊢; rcases hy with hy | hy | hy <;> simp [hy]) z (by simp at hz ⊢; rcases hz with hz | hz | hz <;> simp [hz]))
        refine ⟨thenC_val v1 i1, thenC_anti a1 i2, ?_, ?_⟩
        · show thenC (f x y) (lexC f r q) = 0 ↔ _
          rw [thenC_zero, s1, i3]
          simp
        · have C := h x hx y hy z hz
          refine thenC_trans (C.trans x y z (by simp) (by simp) (by simp)) (fun e => ?_) (fun e => ?_) (fun e => ?_) i4
          · rw [(C.same x y (by simp) (by simp)).1 e]
          · rw [(C.same y z (by simp) (by simp)).1 e]
          · have := (C.same x z (by simp) (by simp)).1 e
            subst this
            exact C.anti y x (by simp) (by simp)
theorem CmpA.cmp {α : Type} {f : α → α → Int} (h : CmpA f) (a b c : α) : Cmp f a b c := ⟨fun x y _ _ => h.val x y, fun x y _ _ => h.anti x y, fun x y _ _ => h.same x y, fun x y z _ _ _ => h.trans x y z⟩
theorem CmpA.lex {α : Type} {f : α → α → Int} (h : CmpA f) : CmpA (lexC f) :=
  ⟨fun l m => (lexC_all l m [] fun x _ y _ z _ => h.cmp x y z).1, fun l m => (lexC_all l m [] fun x _ y _ z _ => h.cmp x y z).2.1, fun l m => (lexC_all l m [] fun x _ y _ z _ => h.cmp x y z).2.2.1, fun l m k => (lexC_all l m k fun x _ y _ z _ => h.cmp x y z).2.2.2⟩
end Go.Proofs.Ytfckmkpfhchggaa

/- An order of values: strings, values; what the program's cmp.Compare says of them. -/
namespace Go.Proofs.Ytfckmkpfhchggaa
open Go.RowKit
attribute [local go_sem ↓] Go.wp_at_zero Go.wp_at_succ

def cmpU (a b : UInt8) : Int := if a < b then -1 else if b < a then 1 else 0
theorem cmpU_all : CmpA cmpU := by
  refine ⟨fun x y => ?_, fun x y => ?_, fun x y => ?_, fun x y z => ?_⟩ <;> unfold cmpU <;> simp only [UInt8.lt_iff_toNat_lt, ← UInt8.toNat_inj] <;> (repeat split) <;> omega
theorem less_lex : ∀ l m : List UInt8, Op.bytesLess l m = true ↔ lexC cmpU l m = -1
  | [], [] => by simp [Op.bytesLess, lexC]
  | [], _ :: _ => by simp [Op.bytesLess, lexC]
  | _ :: _, [] => by simp [Op.bytesLess, lexC]
  | x :: r, y :: q => by
    have ih := less_lex r q
    have v := cmpU_all.val x y
    show (decide (x < y) || (x == y && Op.bytesLess r q)) = true ↔ thenC (cmpU x y) (lexC cmpU r q) = -1
    by_cases h : cmpU x y = 0
    · have e := (cmpU_all.same x y).1 h
      subst e
      rw [thenC_eq h, ← ih]
      simp
    · rw [thenC_ne h]
      have hne : x ≠ y := fun e => h ((cmpU_all.same x y).2 e)
      have hb : (x == y) = false := by simpa using hne
      rw [hb]
      by_cases hl : x < y
      · have : cmpU x y = -1 := by unfold cmpU; rw [if_pos hl]
        simp [this, hl]
      · have : cmpU x y ≠ -1 := by unfold cmpU; rw [if_neg hl]; split <;> omega
        simp [this, hl]
def cmpS (a b : ByteArray) : Int := lexC cmpU a.toList b.toList
theorem toList_inj {a b : ByteArray} (h : a.toList = b.toList) : a = b := by
  cases Classical.em (a = b) with
  | inl e => exact e
  | inr e =>
    have := ba_ne e
    rw [h] at this
    simp at this
theorem cmpS_all : CmpA cmpS :=
  ⟨fun x y => cmpU_all.lex.val _ _, fun x y => cmpU_all.lex.anti _ _, fun x y => (cmpU_all.lex.same _ _).trans ⟨toList_inj, fun h => by rw [h]⟩, fun x y z => cmpU_all.lex.trans _ _ _⟩

mutual
/-- Which of two values is ahead. -/
def cmpV : Vl → Vl → Int
  | .mk t n s l, .mk t' n' s' l' => thenC (cmpI (rankT t) (rankT t')) (thenC (cmpI t t') (thenC (lexC cmpI n n') (thenC (lexC cmpS s s') (cmpL l l'))))
def cmpL : List Vl → List Vl → Int
  | [], [] => 0
  | [], _ :: _ => -1
  | _ :: _, [] => 1
  | x :: r, y :: q => thenC (cmpV x y) (cmpL r q)
end
theorem cmpL_lex : ∀ l m : List Vl, cmpL l m = lexC cmpV l m
  | [], [] => rfl
  | [], _ :: _ => rfl
  | _ :: _, [] => rfl
  | x :: r, y :: q => by
    show thenC (cmpV x y) (cmpL r q) = thenC (cmpV x y) (lexC cmpV r q)
    rw [cmpL_lex r q]
theorem cmpV_def (a b : Vl) : cmpV a b = thenC (cmpI (rankT a.t) (rankT b.t)) (thenC (cmpI a.t b.t) (thenC (lexC cmpI a.n b.n) (thenC (lexC cmpS a.s b.s) (lexC cmpV a.l b.l)))) := by
  cases a; cases b
  show thenC _ _ = _
  rw [← cmpL_lex]
  rfl
theorem cmpV_d (d : Nat) : ∀ a b c : Vl, a.depth ≤ d → b.depth ≤ d → c.depth ≤ d →
    (cmpV a b = -1 ∨ cmpV a b = 0 ∨ cmpV a b = 1) ∧ cmpV b a = - cmpV a b ∧ (cmpV a b = 0 ↔ a = b) ∧ (cmpV a b ≤ 0 → cmpV b c ≤ 0 → cmpV a c ≤ 0) := by
  induction d with
  | zero => intro a b c h; rw [Vl.depth_def] at h; omega
  | succ d ih =>
    intro a b c ha hb hc
    have L := lexC_all (f := cmpV) a.l b.l c.l (fun x hx y hy z hz => by
      have key : ∀ x, x ∈ a.l ++ (b.l ++ c.l) → x.depth ≤ d := fun x hx => by
        simp only [List.mem_append] at hx
        rcases hx with hx | hx | hx
        · have := Vl.depth_lt hx; omega
        · have := Vl.depth_lt hx; omega
        · have := Vl.depth_lt hx; omega
      have k3 : ∀ u, (u = x ∨ u = y ∨ u = z) → u.depth ≤ d := fun u hu => by
        rcases hu with rfl | rfl | rfl
        · exact key _ hx
        · exact key _ hy
        · exact key _ hz
      exact ⟨fun u v hu hv => (ih u v v (k3 u hu) (k3 v hv) (k3 v hv)).1, fun u v hu hv => (ih u v v (k3 u hu) (k3 v hv) (k3 v hv)).2.1, fun u v hu hv => (ih u v v (k3 u hu) (k3 v hv) (k3 v hv)).2.2.1, fun u v t hu hv ht => (ih u v t (k3 u hu) (k3 v hv) (k3 t ht)).2.2.2⟩)
    obtain ⟨l1, l2, l3, l4⟩ := L
    have I := cmpI_all
    have N := cmpI_all.lex
    have S := cmpS_all.lex
    refine ⟨?_, ?_, ?_, ?_⟩
    · rw [cmpV_def a b]
      exact thenC_val (I.val _ _) (thenC_val (I.val _ _) (thenC_val (N.val _ _) (thenC_val (S.val _ _) l1)))
    · rw [cmpV_def a b, cmpV_def b a]
      exact thenC_anti (I.anti _ _) (thenC_anti (I.anti _ _) (thenC_anti (N.anti _ _) (thenC_anti (S.anti _ _) l2)))
    · rw [cmpV_def a b, thenC_zero, thenC_zero, thenC_zero, thenC_zero, I.same, I.same, N.same, S.same, l3]
      constructor
      · rintro ⟨_, h1, h2, h3, h4⟩
        rw [a.eta, b.eta, h1, h2, h3, h4]
      · rintro rfl
        exact ⟨rfl, rfl, rfl, rfl, rfl⟩
    · rw [cmpV_def a b, cmpV_def b c, cmpV_def a c]
      have tr : ∀ {β : Type} {g : β → β → Int} (G : CmpA g) (x y z : β), (g x y = 0 → g x z = g y z) ∧ (g y z = 0 → g x z = g x y) ∧ (g x z = 0 → g x y = - g y z) := fun G x y z =>
        ⟨fun e => by rw [(G.same x y).1 e], fun e => by rw [(G.same y z).1 e], fun e => by have := (G.same x z).1 e; subst this; exact G.anti y x⟩
      refine thenC_trans (I.trans _ _ _) (tr I _ _ _).1 (tr I _ _ _).2.1 (tr I _ _ _).2.2 (thenC_trans (I.trans _ _ _) (tr I _ _ _).1 (tr I _ _ _).2.1 (tr I _ _ _).2.2
        (thenC_trans (N.trans _ _ _) (tr N _ _ _).1 (tr N _ _ _).2.1 (tr N _ _ _).2.2 (thenC_trans (S.trans _ _ _) (tr S _ _ _).1 (tr S _ _ _).2.1 (tr S _ _ _).2.2 l4)))
theorem cmpV_all : CmpA cmpV :=
  ⟨fun a b => (cmpV_d (max a.depth b.depth) a b b (by omega) (by omega) (by omega)).1, fun a b => (cmpV_d (max a.depth b.depth) a b b (by omega) (by omega) (by omega)).2.1, fun a b => (cmpV_d (max a.depth b.depth) a b b (by omega) (by omega) (by omega)).2.2.1,
   fun a b c => (cmpV_d (max a.depth (max b.depth c.depth)) a b c (by omega) (by omega) (by omega)).2.2.2⟩

/-! ## cmp.Compare -/
set_option maxHeartbeats 4000000 in
theorem nan64_any (a : Int) (w : World) : Calls Try.prog 88 #[.int .i64 a] w fun e w' => e = .returned (.bool false) ∧ w = w' := by
  have e1 : (a != a) = false := int_bne_t rfl
  go_enter Try.func88, Try.ntmps88
  go_wp2_with fail
  go_ret
  exact ⟨by simp, rfl⟩
set_option maxHeartbeats 4000000 in
theorem nanS_any (a : ByteArray) (w : World) : Calls Try.prog 89 #[.string a] w fun e w' => e = .returned (.bool false) ∧ w = w' := by
  go_enter Try.func89, Try.ntmps89
  go_wp2_with fail
  go_ret
  exact ⟨by simp, rfl⟩
set_option maxHeartbeats 4000000 in
theorem cmp64_any (a b : Int) (w : World) : Calls Try.prog 80 #[.int .i64 a, .int .i64 b] w fun e w' => e = .returned (.int .i64 (cmpI a b)) ∧ w = w' := by
  have HN := hide (fun x w => nan64_any x w)
  by_cases h1 : a < b
  · have HC := hide (show cmpI a b = -1 by unfold cmpI; rw [if_pos h1])
    rw [HC.out]
    go_enter Try.func80, Try.ntmps80
    go_wp2_with (go_at_call 88; refine (HN.out _ _).mono ?_; rintro e w1 ⟨rfl, rfl⟩)
    go_ret
    exact ⟨rfl, rfl⟩
  · by_cases h2 : b < a
    · have HC := hide (show cmpI a b = 1 by unfold cmpI; rw [if_neg h1, if_pos h2])
      rw [HC.out]
      have h1' : b ≤ a := by omega
      go_enter Try.func80, Try.ntmps80
      go_wp2_with (go_at_call 88; refine (HN.out _ _).mono ?_; rintro e w1 ⟨rfl, rfl⟩)
      go_ret
      exact ⟨rfl, rfl⟩
    · have HC := hide (show cmpI a b = 0 by unfold cmpI; rw [if_neg h1, if_neg h2])
      rw [HC.out]
      have h1' : b ≤ a := by omega
      have h2' : a ≤ b := by omega
      go_enter Try.func80, Try.ntmps80
      go_wp2_with (go_at_call 88; refine (HN.out _ _).mono ?_; rintro e w1 ⟨rfl, rfl⟩)
      go_ret
      exact ⟨rfl, rfl⟩
set_option maxHeartbeats 4000000 in
theorem cmpS_any (a b : ByteArray) (w : World) : Calls Try.prog 81 #[.string a, .string b] w fun e w' => e = .returned (.int .i64 (cmpS a b)) ∧ w = w' := by
  have HN := hide (fun x w => nanS_any x w)
  have HC := hide (show cmpS a b = lexC cmpU a.toList b.toList from rfl)
  have hv := cmpU_all.lex.val a.toList b.toList
  have k1 := less_lex a.toList b.toList
  have k2 := cmpU_all.lex.same a.toList b.toList
  generalize lexC cmpU a.toList b.toList = z at *
  rcases hv with rfl | rfl | rfl
  · have h1 : Op.bytesLess a.toList b.toList = true := k1.2 rfl
    rw [HC.out]
    clear k1 k2 HC
    go_enter Try.func81, Try.ntmps81
    go_wp2_with (go_at_call 89; refine (HN.out _ _).mono ?_; rintro e w1 ⟨rfl, rfl⟩)
    go_ret
    exact ⟨rfl, rfl⟩
  · have h1 : Op.bytesLess a.toList b.toList = false := by
      cases e : Op.bytesLess a.toList b.toList
      · rfl
      · exact absurd (k1.1 e) (by decide)
    have h2 : (a.toList == b.toList) = true := by rw [k2.1 rfl]; simp
    rw [HC.out]
    clear k1 k2 HC
    go_enter Try.func81, Try.ntmps81
    go_wp2_with (go_at_call 89; refine (HN.out _ _).mono ?_; rintro e w1 ⟨rfl, rfl⟩)
    go_ret
    exact ⟨rfl, rfl⟩
  · have h1 : Op.bytesLess a.toList b.toList = false := by
      cases e : Op.bytesLess a.toList b.toList
      · rfl
      · exact absurd (k1.1 e) (by decide)
    have h2 : (a.toList == b.toList) = false := by
      cases e : a.toList == b.toList
      · rfl
      · exact absurd (k2.2 (eq_of_beq e)) (by decide)
    rw [HC.out]
    clear k1 k2 HC
    go_enter Try.func81, Try.ntmps81
    go_wp2_with (go_at_call 89; refine (HN.out _ _).mono ?_; rintro e w1 ⟨rfl, rfl⟩)
    go_ret
    exact ⟨rfl, rfl⟩
end Go.Proofs.Ytfckmkpfhchggaa

/- The program's own Compare: the order of values. -/
namespace Go.Proofs.Ytfckmkpfhchggaa
open Go.RowKit
attribute [local go_sem ↓] Go.wp_at_zero Go.wp_at_succ

section
variable {α : Type} {f : α → α → Int}
theorem lexC_drop (h0 : ∀ x, f x x = 0) : ∀ (j : Nat) (l m : List α), l.take j = m.take j → j ≤ l.length → j ≤ m.length → lexC f l m = lexC f (l.drop j) (m.drop j) := by
  intro j
  induction j with
  | zero => intro l m _ _ _; rfl
  | succ j ih =>
    intro l m h h1 h2
    cases l with
    | nil => simp at h1
    | cons x r =>
      cases m with
      | nil => simp at h2
      | cons y q =>
        simp only [List.take_succ_cons, List.cons.injEq] at h
        obtain ⟨rfl, h⟩ := h
        show thenC (f x x) (lexC f r q) = _
        rw [thenC_eq (h0 x)]
        exact ih r q h (by simpa using h1) (by simpa using h2)
theorem lexC_ne (h0 : ∀ x, f x x = 0) {j : Nat} {l m : List α} (h : l.take j = m.take j) (h1 : j < l.length) (h2 : j < m.length) (hx : f l[j] m[j] ≠ 0) : lexC f l m = f l[j] m[j] := by
  rw [lexC_drop h0 j l m h (by omega) (by omega), List.drop_eq_getElem_cons h1, List.drop_eq_getElem_cons h2]
  exact thenC_ne hx
theorem lexC_long (h0 : ∀ x, f x x = 0) {j : Nat} {l m : List α} (h : l.take j = m.take j) (h1 : j < l.length) (h2 : j = m.length) : lexC f l m = 1 := by
  rw [lexC_drop h0 j l m h (by omega) (by omega), List.drop_eq_getElem_cons h1, List.drop_of_length_le (show m.length ≤ j by omega)]
  rfl
theorem lexC_short (h0 : ∀ x, f x x = 0) {j : Nat} {l m : List α} (h : l.take j = m.take j) (h1 : j = l.length) (h2 : j < m.length) : lexC f l m = -1 := by
  rw [lexC_drop h0 j l m h (by omega) (by omega), List.drop_eq_getElem_cons h2, List.drop_of_length_le (show l.length ≤ j by omega)]
  rfl
theorem lexC_end (h0 : ∀ x, f x x = 0) {j : Nat} {l m : List α} (h : l.take j = m.take j) (h1 : j = l.length) (h2 : j = m.length) : lexC f l m = 0 := by
  rw [lexC_drop h0 j l m h (by omega) (by omega), List.drop_of_length_le (show l.length ≤ j by omega), List.drop_of_length_le (show m.length ≤ j by omega)]
  rfl
end

set_option maxHeartbeats 4000000 in
set_option maxRecDepth 100000 in
theorem cmpNs_any (A A' : Option Addr) (c c' B : Nat) (l m : List Int) (w : World) (h : Rd w B A (i64s l)) (h' : Rd w B A' (i64s m)) (hl : l.length ≤ 1100000) (hm : m.length ≤ 1100000) :
    Calls Try.prog 60 #[.slice A l.length c, .slice A' m.length c'] w fun e w' => e = .returned (.int .i64 (lexC cmpI l m)) ∧ w = w' := by
  have H := hide h
  have H' := hide h'
  have Z : Hid (∀ x, cmpI x x = 0) := hide (fun x => (cmpI_all.same x x).2 rfl)
  have HC := hide (fun x y w => cmp64_any x y w)
  clear h h'
  go_enter Try.func60, Try.ntmps60
  go_wp2_with fail
  go_loopw [11] (fun i wr => ∃ j : Nat, i = .int .i64 (j : Int) ∧ j ≤ l.length ∧ j ≤ m.length ∧ Hid (l.take j = m.take j) ∧ w = wr) (fun i _ => l.length - (intOf i).toNat)
  case atStart => exact ⟨0, rfl, by omega, by omega, hide rfl, rfl⟩
  case round =>
    obtain ⟨j, rfl, hj, hj2, HE, rfl⟩ := hrel
    by_cases hlt : j < l.length
    · have hlt1 : (j : Int) < (l.length : Int) := by omega
      obtain ⟨a, rfl, _, ca⟩ := H.out.i64 hlt
      by_cases hltm : j < m.length
      · have hlt2 : (j : Int) < (m.length : Int) := by omega
        have hle2 : decide ((m.length : Int) ≤ (j : Int)) = false := decide_eq_false (by omega)
        obtain ⟨a', rfl, _, ca'⟩ := H'.out.i64 hltm
        have HNE := hide (fun hx => lexC_ne Z.out HE.out hlt hltm hx)
        have HEQ := hide (fun (hx : cmpI l[j] m[j] = 0) => take_eq_step HE.out hlt hltm ((cmpI_all.same _ _).1 hx))
        have HCJ := hide (fun w => HC.out l[j] m[j] w)
        generalize cmpI l[j] m[j] = z at *
        by_cases hz : z = 0
        · have hz1 : (z != 0) = false := int_bne_t hz
          have HT := hide (HEQ.out hz)
          clear hz HNE HEQ
          go_wp2_with (go_at_call 80; refine (HCJ.out _).mono ?_; rintro e w1 ⟨rfl, rfl⟩)
          go_roundw
          case rel => exact ⟨j + 1, by go_num, by omega, by omega, HT, trivial⟩
          case measure => simp [intOf]; omega
        · have hz1 : (z != 0) = true := int_bne_f hz
          have HT := hide (HNE.out hz)
          clear hz HNE HEQ
          go_wp2_with (go_at_call 80; refine (HCJ.out _).mono ?_; rintro e w1 ⟨rfl, rfl⟩)
          go_ret
          exact ⟨ret_i HT.out.symm, rfl⟩
      · have hle2 : (m.length : Int) ≤ (j : Int) := by omega
        have HT := hide (lexC_long Z.out HE.out hlt (by omega))
        go_wp2_with fail
        go_ret
        exact ⟨ret_i HT.out.symm, rfl⟩
    · have hlt1 : ¬ (j : Int) < (l.length : Int) := by omega
      by_cases hlm : l.length < m.length
      · have hlm1 : (l.length : Int) < (m.length : Int) := by omega
        have HT := hide (lexC_short Z.out HE.out (show j = l.length by omega) (by omega))
        go_wp2_with fail
        go_ret
        exact ⟨ret_i HT.out.symm, rfl⟩
      · have hlm1 : ¬ (l.length : Int) < (m.length : Int) := by omega
        have HT := hide (lexC_end Z.out HE.out (show j = l.length by omega) (by omega))
        go_wp2_with fail
        go_ret
        exact ⟨ret_i HT.out.symm, rfl⟩

set_option maxHeartbeats 4000000 in
set_option maxRecDepth 100000 in
theorem cmpSs_any (A A' : Option Addr) (c c' B : Nat) (l m : List ByteArray) (w : World) (h : Rd w B A (strs l)) (h' : Rd w B A' (strs m)) (hl : l.length ≤ 1100000) (hm : m.length ≤ 1100000) :
    Calls Try.prog 61 #[.slice A l.length c, .slice A' m.length c'] w fun e w' => e = .returned (.int .i64 (lexC cmpS l m)) ∧ w = w' := by
  have H := hide h
  have H' := hide h'
  have Z : Hid (∀ x, cmpS x x = 0) := hide (fun x => (cmpS_all.same x x).2 rfl)
  have HC := hide (fun x y w => cmpS_any x y w)
  clear h h'
  go_enter Try.func61, Try.ntmps61
  go_wp2_with fail
  go_loopw [11] (fun i wr => ∃ j : Nat, i = .int .i64 (j : Int) ∧ j ≤ l.length ∧ j ≤ m.length ∧ Hid (l.take j = m.take j) ∧ w = wr) (fun i _ => l.length - (intOf i).toNat)
  case atStart => exact ⟨0, rfl, by omega, by omega, hide rfl, rfl⟩
  case round =>
    obtain ⟨j, rfl, hj, hj2, HE, rfl⟩ := hrel
    by_cases hlt : j < l.length
    · have hlt1 : (j : Int) < (l.length : Int) := by omega
      obtain ⟨a, rfl, _, ca⟩ := H.out.str hlt
      by_cases hltm : j < m.length
      · have hlt2 : (j : Int) < (m.length : Int) := by omega
        have hle2 : decide ((m.length : Int) ≤ (j : Int)) = false := decide_eq_false (by omega)
        obtain ⟨a', rfl, _, ca'⟩ := H'.out.str hltm
        have HNE := hide (fun hx => lexC_ne Z.out HE.out hlt hltm hx)
        have HEQ := hide (fun (hx : cmpS l[j] m[j] = 0) => take_eq_step HE.out hlt hltm ((cmpS_all.same _ _).1 hx))
        have HCJ := hide (fun w => HC.out l[j] m[j] w)
        generalize cmpS l[j] m[j] = z at *
        by_cases hz : z = 0
        · have hz1 : (z != 0) = false := int_bne_t hz
          have HT := hide (HEQ.out hz)
          clear hz HNE HEQ
          go_wp2_with (go_at_call 81; refine (HCJ.out _).mono ?_; rintro e w1 ⟨rfl, rfl⟩)
          go_roundw
          case rel => exact ⟨j + 1, by go_num, by omega, by omega, HT, trivial⟩
          case measure => simp [intOf]; omega
        · have hz1 : (z != 0) = true := int_bne_f hz
          have HT := hide (HNE.out hz)
          clear hz HNE HEQ
          go_wp2_with (go_at_call 81; refine (HCJ.out _).mono ?_; rintro e w1 ⟨rfl, rfl⟩)
          go_ret
          exact ⟨ret_i HT.out.symm, rfl⟩
      · have hle2 : (m.length : Int) ≤ (j : Int) := by omega
        have HT := hide (lexC_long Z.out HE.out hlt (by omega))
        go_wp2_with fail
        go_ret
        exact ⟨ret_i HT.out.symm, rfl⟩
    · have hlt1 : ¬ (j : Int) < (l.length : Int) := by omega
      by_cases hlm : l.length < m.length
      · have hlm1 : (l.length : Int) < (m.length : Int) := by omega
        have HT := hide (lexC_short Z.out HE.out (show j = l.length by omega) (by omega))
        go_wp2_with fail
        go_ret
        exact ⟨ret_i HT.out.symm, rfl⟩
      · have hlm1 : ¬ (l.length : Int) < (m.length : Int) := by omega
        have HT := hide (lexC_end Z.out HE.out (show j = l.length by omega) (by omega))
        go_wp2_with fail
        go_ret
        exact ⟨ret_i HT.out.symm, rfl⟩

set_option maxHeartbeats 8000000 in
theorem rankV_any (t : Int) (w : World) : Calls Try.prog 59 #[.int .i64 t] w fun e w' => e = .returned (.int .i64 (rankT t)) ∧ w = w' := by
  by_cases h0 : t = 101
  · subst h0
    go_enter Try.func59, Try.ntmps59
    go_wp2_with fail
    go_ret
    exact ⟨rfl, rfl⟩
  by_cases h1 : t = 1
  · subst h1
    go_enter Try.func59, Try.ntmps59
    go_wp2_with fail
    go_ret
    exact ⟨rfl, rfl⟩
  by_cases h2 : t = -1
  · subst h2
    go_enter Try.func59, Try.ntmps59
    go_wp2_with fail
    go_ret
    exact ⟨rfl, rfl⟩
  by_cases h3 : t = 2
  · subst h3
    go_enter Try.func59, Try.ntmps59
    go_wp2_with fail
    go_ret
    exact ⟨rfl, rfl⟩
  by_cases h4 : t = -2
  · subst h4
    go_enter Try.func59, Try.ntmps59
    go_wp2_with fail
    go_ret
    exact ⟨rfl, rfl⟩
  by_cases h5 : t = 4
  · subst h5
    go_enter Try.func59, Try.ntmps59
    go_wp2_with fail
    go_ret
    exact ⟨rfl, rfl⟩
  by_cases h6 : t = -4
  · subst h6
    go_enter Try.func59, Try.ntmps59
    go_wp2_with fail
    go_ret
    exact ⟨rfl, rfl⟩
  by_cases h7 : t = 5
  · subst h7
    go_enter Try.func59, Try.ntmps59
    go_wp2_with fail
    go_ret
    exact ⟨rfl, rfl⟩
  by_cases h8 : t = -5
  · subst h8
    go_enter Try.func59, Try.ntmps59
    go_wp2_with fail
    go_ret
    exact ⟨rfl, rfl⟩
  by_cases h9 : t = 3
  · subst h9
    go_enter Try.func59, Try.ntmps59
    go_wp2_with fail
    go_ret
    exact ⟨rfl, rfl⟩
  by_cases h10 : t = -3
  · subst h10
    go_enter Try.func59, Try.ntmps59
    go_wp2_with fail
    go_ret
    exact ⟨rfl, rfl⟩
  by_cases h11 : t = 0
  · subst h11
    go_enter Try.func59, Try.ntmps59
    go_wp2_with fail
    go_ret
    exact ⟨rfl, rfl⟩
  by_cases h12 : t = 99
  · subst h12
    go_enter Try.func59, Try.ntmps59
    go_wp2_with fail
    go_ret
    exact ⟨rfl, rfl⟩
  by_cases h13 : t = 98
  · subst h13
    go_enter Try.func59, Try.ntmps59
    go_wp2_with fail
    go_ret
    exact ⟨rfl, rfl⟩
  have HR := hide (show rankT t = 9 by unfold rankT; simp [h0, h1, h2, h3, h4, h5, h6, h7, h8, h9, h10, h11, h12, h13])
  rw [HR.out]
  have e0 : (t == 101) = false := int_beq_f h0
  have e1 : (t == 1) = false := int_beq_f h1
  have e2 : (t == -1) = false := int_beq_f h2
  have e3 : (t == 2) = false := int_beq_f h3
  have e4 : (t == -2) = false := int_beq_f h4
  have e5 : (t == 4) = false := int_beq_f h5
  have e6 : (t == -4) = false := int_beq_f h6
  have e7 : (t == 5) = false := int_beq_f h7
  have e8 : (t == -5) = false := int_beq_f h8
  have e9 : (t == 3) = false := int_beq_f h9
  have e10 : (t == -3) = false := int_beq_f h10
  have e11 : (t == 0) = false := int_beq_f h11
  have e12 : (t == 99) = false := int_beq_f h12
  have e13 : (t == 98) = false := int_beq_f h13
  clear h0 h1 h2 h3 h4 h5 h6 h7 h8 h9 h10 h11 h12 h13 HR
  go_enter Try.func59, Try.ntmps59
  go_wp2_with fail
  go_ret
  exact ⟨rfl, rfl⟩

/-- value.Compare on values of that depth. -/
def CompC (d : Nat) : Prop := ∀ (a b : Vl) (w : World) (B : Nat) (nA : Option Addr) (nc : Nat) (sA : Option Addr) (sc : Nat) (lA : Option Addr) (lc : Nat) (nA' : Option Addr) (nc' : Nat) (sA' : Option Addr) (sc' : Nat) (lA' : Option Addr) (lc' : Nat), a.depth ≤ d → a.tot ≤ 1100000 → b.tot ≤ 1100000 → B ≤ w.heap.size → VB w B a nA nc sA sc lA lc → VB w B b nA' nc' sA' sc' lA' lc' →
    Calls Try.prog 29 #[.agg #[.int .i64 a.t, .slice nA a.n.length nc, .slice sA a.s.length sc, .slice lA a.l.length lc], .agg #[.int .i64 b.t, .slice nA' b.n.length nc', .slice sA' b.s.length sc', .slice lA' b.l.length lc']] w fun e w' => e = .returned (.int .i64 (cmpV a b)) ∧ w.grownBy w' none

set_option maxHeartbeats 8000000 in
set_option maxRecDepth 100000 in
theorem cmpF_of {d : Nat} (hM : CompC d) (l m : List Vl) (w : World) (B : Nat) (A : Option Addr) (c : Nat) (A' : Option Addr) (c' : Nat) (hd : ∀ x ∈ l, x.depth ≤ d) (ht : Vl.tots l ≤ 1100000) (ht' : Vl.tots m ≤ 1100000) (hB : B ≤ w.heap.size) (h : RdV w B A l) (h' : RdV w B A' m) :
    Calls Try.prog 62 #[.slice A l.length c, .slice A' m.length c', .func (.func 29) #[] #[]] w
      fun e w' => e = .returned (.int .i64 (lexC cmpV l m)) ∧ w.grownBy w' none := by
  have IH := hide hM
  have H := hide h
  have H' := hide h'
  have HD := hide hd
  have HT := hide (fun x (hx : x ∈ l) => Nat.le_trans (Vl.tot_mem hx) ht)
  have HT' := hide (fun x (hx : x ∈ m) => Nat.le_trans (Vl.tot_mem hx) ht')
  have l1 : l.length ≤ 1100000 := Nat.le_trans (Vl.length_le_tots l) ht
  have m1 : m.length ≤ 1100000 := Nat.le_trans (Vl.length_le_tots m) ht'
  have HBB := hide hB
  have Z : Hid (∀ x, cmpV x x = 0) := hide (fun x => (cmpV_all.same x x).2 rfl)
  clear hM h h' hd ht ht' hB
  go_enter Try.func62, Try.ntmps62
  go_wp2_with fail
  go_loopw [13] (fun i wr => ∃ j : Nat, i = .int .i64 (j : Int) ∧ j ≤ l.length ∧ j ≤ m.length ∧ Hid (l.take j = m.take j) ∧ w.grownBy wr none) (fun i _ => l.length - (intOf i).toNat)
  case atStart => exact ⟨0, rfl, by omega, by omega, hide rfl, gb_refl w none⟩
  case round =>
    obtain ⟨j, rfl, hj, hj2, HE, hg⟩ := hrel
    have HG1 := hide hg
    clear hg
    by_cases hlt : j < l.length
    · have hlt1 : (j : Int) < (l.length : Int) := by omega
      obtain ⟨q, o, xA, xc, yA, yc, zA, zc, rfl, hqB, hc4, hvb⟩ := H.out.at_ hlt
      obtain ⟨d0, d1, d2, d3⟩ := hc4.gb HG1.out
      have hga : wr.grownBy (wr.alloc (.cells #[.int .i64 l[j].t, .slice xA l[j].n.length xc, .slice yA l[j].s.length yc, .slice zA l[j].l.length zc] 26)) none := gb_alloc (gb_refl wr none) _
      by_cases hltm : j < m.length
      · have hlt2 : (j : Int) < (m.length : Int) := by omega
        have hle2 : decide ((m.length : Int) ≤ (j : Int)) = false := decide_eq_false (by omega)
        obtain ⟨q', o', xA', xc', yA', yc', zA', zc', rfl, hqB', hc4', hvb'⟩ := H'.out.at_ hltm
        have hgb := gb_alloc hga (.cells #[.int .i64 m[j].t, .slice xA' m[j].n.length xc', .slice yA' m[j].s.length yc', .slice zA' m[j].l.length zc'] 26)
        have hgw := gb_trans HG1.out hgb (.inl rfl)
        obtain ⟨f0, f1, f2, f3⟩ := hc4'.gb (gb_trans HG1.out hga (.inl rfl))
        have HCALL := hide (IH.out l[j] m[j] _ B xA xc yA yc zA zc xA' xc' yA' yc' zA' zc' (HD.out _ (List.getElem_mem hlt)) (HT.out _ (List.getElem_mem hlt)) (HT'.out _ (List.getElem_mem hltm)) (Nat.le_trans HBB.out hgw.size) (hvb.gb hgw HBB.out) (hvb'.gb hgw HBB.out))
        have HGW := hide hgw
        have HNE := hide (fun hx => lexC_ne Z.out HE.out hlt hltm hx)
        have HEQ := hide (fun (hx : cmpV l[j] m[j] = 0) => take_eq_step HE.out hlt hltm ((cmpV_all.same _ _).1 hx))
        clear hc4 hc4' hvb hvb' hga hgb hgw
        generalize cmpV l[j] m[j] = z at *
        by_cases hz : z = 0
        · have hz1 : (z != 0) = false := int_bne_t hz
          have HT := hide (HEQ.out hz)
          clear hz HNE HEQ
          go_wp2_with (go_at_call 29; refine HCALL.out.mono ?_; rintro e w6 ⟨rfl, hg6⟩; have HG6 := hide hg6; clear hg6)
          go_roundw
          case rel => exact ⟨j + 1, by go_num, by omega, by omega, HT, gb_trans HGW.out HG6.out (.inl rfl)⟩
          case measure => simp [intOf]; omega
        · have hz1 : (z != 0) = true := int_bne_f hz
          have HT := hide (HNE.out hz)
          clear hz HNE HEQ
          go_wp2_with (go_at_call 29; refine HCALL.out.mono ?_; rintro e w6 ⟨rfl, hg6⟩; have HG6 := hide hg6; clear hg6)
          go_ret
          exact ⟨ret_i HT.out.symm, gb_trans HGW.out HG6.out (.inl rfl)⟩
      · have hle2 : (m.length : Int) ≤ (j : Int) := by omega
        have HT := hide (lexC_long Z.out HE.out hlt (by omega))
        have HGA := hide hga
        clear hc4 hvb hga
        go_wp2_with fail
        go_ret
        exact ⟨ret_i HT.out.symm, gb_trans HG1.out HGA.out (.inl rfl)⟩
    · have hlt1 : ¬ (j : Int) < (l.length : Int) := by omega
      by_cases hlm : l.length < m.length
      · have hlm1 : (l.length : Int) < (m.length : Int) := by omega
        have HT := hide (lexC_short Z.out HE.out (show j = l.length by omega) (by omega))
        go_wp2_with fail
        go_ret
        exact ⟨ret_i HT.out.symm, HG1.out⟩
      · have hlm1 : ¬ (l.length : Int) < (m.length : Int) := by omega
        have HT := hide (lexC_end Z.out HE.out (show j = l.length by omega) (by omega))
        go_wp2_with fail
        go_ret
        exact ⟨ret_i HT.out.symm, HG1.out⟩
end Go.Proofs.Ytfckmkpfhchggaa

/- The program's own Compare, whole. -/
namespace Go.Proofs.Ytfckmkpfhchggaa
open Go.RowKit
attribute [local go_sem ↓] Go.wp_at_zero Go.wp_at_succ

set_option maxHeartbeats 16000000 in
set_option maxRecDepth 100000 in
theorem vComp_d (d : Nat) : CompC d := by
  induction d with
  | zero => intro a; intros; rw [Vl.depth_def] at *; omega
  | succ d ih =>
    intro a b w B nA nc sA sc lA lc nA' nc' sA' sc' lA' lc' hd ht ht' hB h h'
    obtain ⟨a1, a2, a3, a4⟩ := Vl.lens a ht
    obtain ⟨b1, b2, b3, b4⟩ := Vl.lens b ht'
    obtain ⟨wa, hwa⟩ : ∃ wa, wa = (w.alloc (.cells #[.int .i64 a.t, .slice nA a.n.length nc, .slice sA a.s.length sc, .slice lA a.l.length lc] 26)).alloc (.cells #[.int .i64 b.t, .slice nA' b.n.length nc', .slice sA' b.s.length sc', .slice lA' b.l.length lc'] 26) := ⟨_, rfl⟩
    have hg : w.grownBy wa none := by rw [hwa]; exact gb_alloc (gb_alloc (gb_refl w none) _) _
    have hc := (C4.box w (.int .i64 a.t) (.slice nA a.n.length nc) (.slice sA a.s.length sc) (.slice lA a.l.length lc) 26).gb (gb_alloc (gb_refl _ none) (.cells #[.int .i64 b.t, .slice nA' b.n.length nc', .slice sA' b.s.length sc', .slice lA' b.l.length lc'] 26))
    have hc' := C4.box2 w (.cells #[.int .i64 a.t, .slice nA a.n.length nc, .slice sA a.s.length sc, .slice lA a.l.length lc] 26) (.int .i64 b.t) (.slice nA' b.n.length nc') (.slice sA' b.s.length sc') (.slice lA' b.l.length lc') 26
    rw [← hwa] at hc hc'
    have q0 : wa.cell? ⟨w.heap.size, 0, none⟩ = some (.int .i64 a.t) := hc.c0
    have q1 : wa.cell? ⟨w.heap.size, 1, none⟩ = some (.slice nA a.n.length nc) := hc.c1
    have q2 : wa.cell? ⟨w.heap.size, 2, none⟩ = some (.slice sA a.s.length sc) := hc.c2
    have q3 : wa.cell? ⟨w.heap.size, 3, none⟩ = some (.slice lA a.l.length lc) := hc.c3
    have k0 : wa.cell? ⟨w.heap.size + 1, 0, none⟩ = some (.int .i64 b.t) := hc'.c0
    have k1 : wa.cell? ⟨w.heap.size + 1, 1, none⟩ = some (.slice nA' b.n.length nc') := hc'.c1
    have k2 : wa.cell? ⟨w.heap.size + 1, 2, none⟩ = some (.slice sA' b.s.length sc') := hc'.c2
    have k3 : wa.cell? ⟨w.heap.size + 1, 3, none⟩ = some (.slice lA' b.l.length lc') := hc'.c3
    have hbw := Nat.le_trans hB hg.size
    have hva := h.gb hg hB
    have hvb := h'.gb hg hB
    have HN := hide (fun w2 (k : wa.grownBy w2 none) => cmpNs_any nA nA' nc nc' B a.n b.n w2 (hva.gb k hbw).n (hvb.gb k hbw).n a1 b1)
    have HS := hide (fun w2 (k : wa.grownBy w2 none) => cmpSs_any sA sA' sc sc' B a.s b.s w2 (hva.gb k hbw).s (hvb.gb k hbw).s a2 b2)
    have HL := hide (fun w2 (k : wa.grownBy w2 none) => cmpF_of ih a.l b.l w2 B lA lc lA' lc' (fun x hx => Vl.depth_part hd hx) a4 b4 (Nat.le_trans hbw k.size) (hva.gb k hbw).l (hvb.gb k hbw).l)
    have HRA := hide (fun w2 => rankV_any a.t w2)
    have HRB := hide (fun w2 => rankV_any b.t w2)
    have HC1 := hide (fun w2 => cmpI_any (rankT a.t) (rankT b.t) w2)
    have HC2 := hide (fun w2 => cmpI_any a.t b.t w2)
    have HG := hide hg
    have HWE := hide hwa
    have HD := hide (cmpV_def a b)
    clear ih hd ht ht' hB h h' hg hwa hc hc' hbw hva hvb
    generalize lexC cmpV a.l b.l = c5 at *
    generalize lexC cmpS a.s b.s = c4 at *
    generalize lexC cmpI a.n b.n = c3 at *
    generalize cmpI a.t b.t = c2 at *
    generalize cmpI (rankT a.t) (rankT b.t) = c1 at *
    generalize rankT a.t = r1 at *
    generalize rankT b.t = r2 at *
    generalize cmpV a b = z at *
    by_cases h1 : ¬ c1 = 0
    · have e1 : (c1 != 0) = true := int_bne_f h1
      have HZ := hide (show z = c1 by rw [HD.out, thenC_ne h1])
      clear h1 HD
      go_enter Try.func29, Try.ntmps29
      go_wp2_with fail
      rw [← HWE.out]
      go_quiet (first
        | (go_at_call 59; with_reducible exact quiet_l (HRA.out _))
        | (go_at_call 59; with_reducible exact quiet_l (HRB.out _))
        | (go_at_call 58; with_reducible exact quiet_l (HC1.out _)))
      have HQ := hide (gb_drewN (gb_refl wa none) nq)
      have q0 := cell_gb q0 HQ.out
      have q1 := cell_gb q1 HQ.out
      have q2 := cell_gb q2 HQ.out
      have q3 := cell_gb q3 HQ.out
      have k0 := cell_gb k0 HQ.out
      have k1 := cell_gb k1 HQ.out
      have k2 := cell_gb k2 HQ.out
      have k3 := cell_gb k3 HQ.out
      generalize wa.drewN nq = w1 at *
      go_wp2_with (first
        | (go_at_call 58; refine (HC2.out _).mono ?_; rintro e wq ⟨rfl, rfl⟩)
        | (go_at_call 60; refine (HN.out _ HQ.out).mono ?_; rintro e wq ⟨rfl, rfl⟩)
        | (go_at_call 61; refine (HS.out _ HQ.out).mono ?_; rintro e wq ⟨rfl, rfl⟩)
        | (go_at_call 62; refine (HL.out _ HQ.out).mono ?_; rintro e w6 ⟨rfl, hg6⟩; have HG6 := hide hg6; clear hg6))
      go_ret
      exact ⟨ret_i HZ.out.symm, gb_trans HG.out HQ.out (.inl rfl)⟩
    have h1 := Classical.not_not.1 h1
    have e1 : (c1 != 0) = false := int_bne_t h1
    rw [thenC_eq h1] at HD
    clear h1
    by_cases h2 : ¬ c2 = 0
    · have e2 : (c2 != 0) = true := int_bne_f h2
      have HZ := hide (show z = c2 by rw [HD.out, thenC_ne h2])
      clear h2 HD
      go_enter Try.func29, Try.ntmps29
      go_wp2_with fail
      rw [← HWE.out]
      go_quiet (first
        | (go_at_call 59; with_reducible exact quiet_l (HRA.out _))
        | (go_at_call 59; with_reducible exact quiet_l (HRB.out _))
        | (go_at_call 58; with_reducible exact quiet_l (HC1.out _)))
      have HQ := hide (gb_drewN (gb_refl wa none) nq)
      have q0 := cell_gb q0 HQ.out
      have q1 := cell_gb q1 HQ.out
      have q2 := cell_gb q2 HQ.out
      have q3 := cell_gb q3 HQ.out
      have k0 := cell_gb k0 HQ.out
      have k1 := cell_gb k1 HQ.out
      have k2 := cell_gb k2 HQ.out
      have k3 := cell_gb k3 HQ.out
      generalize wa.drewN nq = w1 at *
      go_wp2_with (first
        | (go_at_call 58; refine (HC2.out _).mono ?_; rintro e wq ⟨rfl, rfl⟩)
        | (go_at_call 60; refine (HN.out _ HQ.out).mono ?_; rintro e wq ⟨rfl, rfl⟩)
        | (go_at_call 61; refine (HS.out _ HQ.out).mono ?_; rintro e wq ⟨rfl, rfl⟩)
        | (go_at_call 62; refine (HL.out _ HQ.out).mono ?_; rintro e w6 ⟨rfl, hg6⟩; have HG6 := hide hg6; clear hg6))
      go_ret
      exact ⟨ret_i HZ.out.symm, gb_trans HG.out HQ.out (.inl rfl)⟩
    have h2 := Classical.not_not.1 h2
    have e2 : (c2 != 0) = false := int_bne_t h2
    rw [thenC_eq h2] at HD
    clear h2
    by_cases h3 : ¬ c3 = 0
    · have e3 : (c3 != 0) = true := int_bne_f h3
      have HZ := hide (show z = c3 by rw [HD.out, thenC_ne h3])
      clear h3 HD
      go_enter Try.func29, Try.ntmps29
      go_wp2_with fail
      rw [← HWE.out]
      go_quiet (first
        | (go_at_call 59; with_reducible exact quiet_l (HRA.out _))
        | (go_at_call 59; with_reducible exact quiet_l (HRB.out _))
        | (go_at_call 58; with_reducible exact quiet_l (HC1.out _)))
      have HQ := hide (gb_drewN (gb_refl wa none) nq)
      have q0 := cell_gb q0 HQ.out
      have q1 := cell_gb q1 HQ.out
      have q2 := cell_gb q2 HQ.out
      have q3 := cell_gb q3 HQ.out
      have k0 := cell_gb k0 HQ.out
      have k1 := cell_gb k1 HQ.out
      have k2 := cell_gb k2 HQ.out
      have k3 := cell_gb k3 HQ.out
      generalize wa.drewN nq = w1 at *
      go_wp2_with (first
        | (go_at_call 58; refine (HC2.out _).mono ?_; rintro e wq ⟨rfl, rfl⟩)
        | (go_at_call 60; refine (HN.out _ HQ.out).mono ?_; rintro e wq ⟨rfl, rfl⟩)
        | (go_at_call 61; refine (HS.out _ HQ.out).mono ?_; rintro e wq ⟨rfl, rfl⟩)
        | (go_at_call 62; refine (HL.out _ HQ.out).mono ?_; rintro e w6 ⟨rfl, hg6⟩; have HG6 := hide hg6; clear hg6))
      go_ret
      exact ⟨ret_i HZ.out.symm, gb_trans HG.out HQ.out (.inl rfl)⟩
    have h3 := Classical.not_not.1 h3
    have e3 : (c3 != 0) = false := int_bne_t h3
    rw [thenC_eq h3] at HD
    clear h3
    by_cases h4 : ¬ c4 = 0
    · have e4 : (c4 != 0) = true := int_bne_f h4
      have HZ := hide (show z = c4 by rw [HD.out, thenC_ne h4])
      clear h4 HD
      go_enter Try.func29, Try.ntmps29
      go_wp2_with fail
      rw [← HWE.out]
      go_quiet (first
        | (go_at_call 59; with_reducible exact quiet_l (HRA.out _))
        | (go_at_call 59; with_reducible exact quiet_l (HRB.out _))
        | (go_at_call 58; with_reducible exact quiet_l (HC1.out _)))
      have HQ := hide (gb_drewN (gb_refl wa none) nq)
      have q0 := cell_gb q0 HQ.out
      have q1 := cell_gb q1 HQ.out
      have q2 := cell_gb q2 HQ.out
      have q3 := cell_gb q3 HQ.out
      have k0 := cell_gb k0 HQ.out
      have k1 := cell_gb k1 HQ.out
      have k2 := cell_gb k2 HQ.out
      have k3 := cell_gb k3 HQ.out
      generalize wa.drewN nq = w1 at *
      go_wp2_with (first
        | (go_at_call 58; refine (HC2.out _).mono ?_; rintro e wq ⟨rfl, rfl⟩)
        | (go_at_call 60; refine (HN.out _ HQ.out).mono ?_; rintro e wq ⟨rfl, rfl⟩)
        | (go_at_call 61; refine (HS.out _ HQ.out).mono ?_; rintro e wq ⟨rfl, rfl⟩)
        | (go_at_call 62; refine (HL.out _ HQ.out).mono ?_; rintro e w6 ⟨rfl, hg6⟩; have HG6 := hide hg6; clear hg6))
      go_ret
      exact ⟨ret_i HZ.out.symm, gb_trans HG.out HQ.out (.inl rfl)⟩
    have h4 := Classical.not_not.1 h4
    have e4 : (c4 != 0) = false := int_bne_t h4
    rw [thenC_eq h4] at HD
    clear h4
    go_enter Try.func29, Try.ntmps29
    go_wp2_with fail
    rw [← HWE.out]
    go_quiet (first
      | (go_at_call 59; with_reducible exact quiet_l (HRA.out _))
      | (go_at_call 59; with_reducible exact quiet_l (HRB.out _))
      | (go_at_call 58; with_reducible exact quiet_l (HC1.out _)))
    have HQ := hide (gb_drewN (gb_refl wa none) nq)
    have q0 := cell_gb q0 HQ.out
    have q1 := cell_gb q1 HQ.out
    have q2 := cell_gb q2 HQ.out
    have q3 := cell_gb q3 HQ.out
    have k0 := cell_gb k0 HQ.out
    have k1 := cell_gb k1 HQ.out
    have k2 := cell_gb k2 HQ.out
    have k3 := cell_gb k3 HQ.out
    generalize wa.drewN nq = w1 at *
    go_wp2_with (first
      | (go_at_call 58; refine (HC2.out _).mono ?_; rintro e wq ⟨rfl, rfl⟩)
      | (go_at_call 60; refine (HN.out _ HQ.out).mono ?_; rintro e wq ⟨rfl, rfl⟩)
      | (go_at_call 61; refine (HS.out _ HQ.out).mono ?_; rintro e wq ⟨rfl, rfl⟩)
      | (go_at_call 62; refine (HL.out _ HQ.out).mono ?_; rintro e w6 ⟨rfl, hg6⟩; have HG6 := hide hg6; clear hg6))
    go_ret
    exact ⟨ret_i HD.out.symm, gb_trans HG.out (gb_trans HQ.out HG6.out (.inl rfl)) (.inl rfl)⟩
theorem vComp_any (a b : Vl) (w : World) (B : Nat) (nA : Option Addr) (nc : Nat) (sA : Option Addr) (sc : Nat) (lA : Option Addr) (lc : Nat) (nA' : Option Addr) (nc' : Nat) (sA' : Option Addr) (sc' : Nat) (lA' : Option Addr) (lc' : Nat) (ht : a.tot ≤ 1100000) (ht' : b.tot ≤ 1100000) (hB : B ≤ w.heap.size) (h : VB w B a nA nc sA sc lA lc) (h' : VB w B b nA' nc' sA' sc' lA' lc') :
    Calls Try.prog 29 #[.agg #[.int .i64 a.t, .slice nA a.n.length nc, .slice sA a.s.length sc, .slice lA a.l.length lc], .agg #[.int .i64 b.t, .slice nA' b.n.length nc', .slice sA' b.s.length sc', .slice lA' b.l.length lc']] w fun e w' => e = .returned (.int .i64 (cmpV a b)) ∧ w.grownBy w' none :=
  vComp_d a.depth a b w B nA nc sA sc lA lc nA' nc' sA' sc' lA' lc' (Nat.le_refl _) ht ht' hB h h'
end Go.Proofs.Ytfckmkpfhchggaa

/- The document's own Compare: the same order, of values whose fields are their types'. -/
namespace Go.Proofs.Ytfckmkpfhchggaa
open Go.RowKit
attribute [local go_sem ↓] Go.wp_at_zero Go.wp_at_succ

/-- Fields as the types have them, through all parts. -/
def okD : Nat → Vl → Prop
  | 0, _ => False
  | d + 1, v => fieldsOk v = true ∧ ∀ x ∈ v.l, okD d x
theorem firstE_all {f : Vl → Int} : ∀ {l : List Vl}, firstE f l = 0 → ∀ x ∈ l, f x = 0
  | [], _, x, hx => by cases hx
  | a :: r, h, x, hx => by
    simp only [firstE] at h
    by_cases ha : f a = 0
    · rw [if_neg (by simp [ha])] at h
      rcases List.mem_cons.1 hx with rfl | hx
      · exact ha
      · exact firstE_all h x hx
    · rw [if_pos ha] at h
      exact absurd h ha
theorem ownV_ok {v : Vl} (h : ownV v = 0) : fieldsOk v = true := by
  unfold ownV at h
  by_cases hf : fieldsOk v = false
  · rw [if_pos hf] at h; cases h
  · simpa using hf
theorem okD_of (d : Nat) : ∀ (e : Nat) (v : Vl), v.depth ≤ d → d ≤ e → partsV e v = 0 → okD d v := by
  induction d with
  | zero => intro e v h; rw [Vl.depth_def] at h; omega
  | succ d ih =>
    intro e v hd he h
    obtain ⟨e, rfl⟩ : ∃ k, e = k + 1 := ⟨e - 1, by omega⟩
    by_cases ho : ownV v = 0
    · rw [partsV_succ ho] at h
      exact ⟨ownV_ok ho, fun x hx => ih e x (Vl.depth_part hd hx) (by omega) (firstE_all h x hx)⟩
    · rw [partsV_own ho] at h
      exact absurd h ho
theorem okD_check {v : Vl} (h : checkV v = 0) : okD 32 v := by
  unfold checkV at h
  by_cases hf : faultsV v = 0
  · rw [if_pos hf] at h
    by_cases hd : 32 < v.depth
    · rw [if_pos hd] at h; cases h
    · exact okD_of 32 1048576 v (by omega) (by omega) hf
  · rw [if_neg hf] at h
    exact absurd h hf
def typesL : List Int := [0, 98, 99, 100, 101, 1, 2, 3, 4, 5, -1, -2, -3, -4, -5]
theorem ok_types {v : Vl} (h : fieldsOk v = true) : v.t ∈ typesL := by
  have := fieldsOk_cases h
  simp only [typesL, List.mem_cons, List.not_mem_nil, or_false]
  omega
theorem rank_same : ∀ t ∈ typesL, ∀ t' ∈ typesL, rankT t = rankT t' → rAtom t = rAtom t' → t = t' := by decide +kernel
theorem rank_atom : ∀ t ∈ typesL, ∀ t' ∈ typesL, rankT t = rankT t' → rAtom t ≠ rAtom t' → cmpI t t' = if rAtom t = true then -1 else 1 := by decide +kernel
theorem fields_one {v : Vl} (h : fieldsOk v = true) : ((fieldsT v.t).1 = false ∧ v.n = []) ∨ ((fieldsT v.t).2.1 = false ∧ v.s = []) := by
  unfold fieldsOk at h
  simp only [Bool.and_eq_true, Bool.or_eq_true, decide_eq_true_eq] at h
  rcases fieldsT_cases v.t with e | e | e | e | e | e <;> rw [e] at h ⊢ <;> simp at h ⊢ <;> simp [h]
theorem cmpI_ne {a b : Int} (h : a ≠ b) : cmpI a b = if a < b then -1 else 1 := by unfold cmpI; split; rfl; rw [if_pos (by omega)]

/-! ## rank, sign -/
set_option maxHeartbeats 4000000 in
theorem rankR_eq (t : Int) : rankT t = if rAbs t = 101 then 0 else if rAbs t = 1 then 1 else if rAbs t = 2 then 2 else if rAbs t = 4 then 3 else if rAbs t = 5 then 4 else if rAbs t = 3 then 5 else if rAbs t = 0 then 6 else if rAbs t = 99 then 7 else if rAbs t = 98 then 8 else 9 := by
  by_cases h : t < 0 ∧ -5 ≤ t
  · have : t = -1 ∨ t = -2 ∨ t = -3 ∨ t = -4 ∨ t = -5 := by omega
    rcases this with rfl | rfl | rfl | rfl | rfl <;> rfl
  · have e : rAbs t = t := by unfold rAbs; rw [if_neg h]
    rw [e]
    unfold rankT
    have m1 : t ≠ -1 := by omega
    have m2 : t ≠ -2 := by omega
    have m3 : t ≠ -3 := by omega
    have m4 : t ≠ -4 := by omega
    have m5 : t ≠ -5 := by omega
    simp only [m1, m2, m3, m4, m5, or_false]
set_option maxHeartbeats 8000000 in
theorem rRank_any (t : Int) (c1 c2 c3 : Value) (w : World) : Calls Try.prog 63 #[.agg #[.int .i64 t, c1, c2, c3]] w fun e w' => e = .returned (.int .i64 (rankT t)) ∧ w.grownBy w' none := by
  obtain ⟨wa, hwa⟩ : ∃ wa, wa = w.alloc (.cells #[.int .i64 t, c1, c2, c3] 26) := ⟨_, rfl⟩
  have hg : w.grownBy wa none := by rw [hwa]; exact gb_alloc (gb_refl w none) _
  have b0 : wa.cell? ⟨w.heap.size, 0, none⟩ = some (.int .i64 t) := by rw [hwa]; exact (C4.box w (.int .i64 t) c1 c2 c3 26).c0
  have HA := hide (fun w2 => rAbs_any t w2)
  have HR := hide (rankR_eq t)
  have HG := hide hg
  have HWE := hide hwa
  clear hg hwa
  generalize rAbs t = x at *
  generalize rankT t = z at *
  by_cases h0 : x = 101
  · rw [if_pos h0] at HR
    subst h0
    go_enter Try.func63, Try.ntmps63
    go_wp2_with fail
    rw [← HWE.out]
    go_wp2_with (go_at_call 53; refine (HA.out _).mono ?_; rintro e wq ⟨rfl, rfl⟩)
    go_ret
    exact ⟨ret_i HR.out.symm, HG.out⟩
  rw [if_neg h0] at HR
  have e0 : (x == 101) = false := int_beq_f h0
  clear h0
  by_cases h1 : x = 1
  · rw [if_pos h1] at HR
    subst h1
    go_enter Try.func63, Try.ntmps63
    go_wp2_with fail
    rw [← HWE.out]
    go_wp2_with (go_at_call 53; refine (HA.out _).mono ?_; rintro e wq ⟨rfl, rfl⟩)
    go_ret
    exact ⟨ret_i HR.out.symm, HG.out⟩
  rw [if_neg h1] at HR
  have e1 : (x == 1) = false := int_beq_f h1
  clear h1
  by_cases h2 : x = 2
  · rw [if_pos h2] at HR
    subst h2
    go_enter Try.func63, Try.ntmps63
    go_wp2_with fail
    rw [← HWE.out]
    go_wp2_with (go_at_call 53; refine (HA.out _).mono ?_; rintro e wq ⟨rfl, rfl⟩)
    go_ret
    exact ⟨ret_i HR.out.symm, HG.out⟩
  rw [if_neg h2] at HR
  have e2 : (x == 2) = false := int_beq_f h2
  clear h2
  by_cases h3 : x = 4
  · rw [if_pos h3] at HR
    subst h3
    go_enter Try.func63, Try.ntmps63
    go_wp2_with fail
    rw [← HWE.out]
    go_wp2_with (go_at_call 53; refine (HA.out _).mono ?_; rintro e wq ⟨rfl, rfl⟩)
    go_ret
    exact ⟨ret_i HR.out.symm, HG.out⟩
  rw [if_neg h3] at HR
  have e3 : (x == 4) = false := int_beq_f h3
  clear h3
  by_cases h4 : x = 5
  · rw [if_pos h4] at HR
    subst h4
    go_enter Try.func63, Try.ntmps63
    go_wp2_with fail
    rw [← HWE.out]
    go_wp2_with (go_at_call 53; refine (HA.out _).mono ?_; rintro e wq ⟨rfl, rfl⟩)
    go_ret
    exact ⟨ret_i HR.out.symm, HG.out⟩
  rw [if_neg h4] at HR
  have e4 : (x == 5) = false := int_beq_f h4
  clear h4
  by_cases h5 : x = 3
  · rw [if_pos h5] at HR
    subst h5
    go_enter Try.func63, Try.ntmps63
    go_wp2_with fail
    rw [← HWE.out]
    go_wp2_with (go_at_call 53; refine (HA.out _).mono ?_; rintro e wq ⟨rfl, rfl⟩)
    go_ret
    exact ⟨ret_i HR.out.symm, HG.out⟩
  rw [if_neg h5] at HR
  have e5 : (x == 3) = false := int_beq_f h5
  clear h5
  by_cases h6 : x = 0
  · rw [if_pos h6] at HR
    subst h6
    go_enter Try.func63, Try.ntmps63
    go_wp2_with fail
    rw [← HWE.out]
    go_wp2_with (go_at_call 53; refine (HA.out _).mono ?_; rintro e wq ⟨rfl, rfl⟩)
    go_ret
    exact ⟨ret_i HR.out.symm, HG.out⟩
  rw [if_neg h6] at HR
  have e6 : (x == 0) = false := int_beq_f h6
  clear h6
  by_cases h7 : x = 99
  · rw [if_pos h7] at HR
    subst h7
    go_enter Try.func63, Try.ntmps63
    go_wp2_with fail
    rw [← HWE.out]
    go_wp2_with (go_at_call 53; refine (HA.out _).mono ?_; rintro e wq ⟨rfl, rfl⟩)
    go_ret
    exact ⟨ret_i HR.out.symm, HG.out⟩
  rw [if_neg h7] at HR
  have e7 : (x == 99) = false := int_beq_f h7
  clear h7
  by_cases h8 : x = 98
  · rw [if_pos h8] at HR
    subst h8
    go_enter Try.func63, Try.ntmps63
    go_wp2_with fail
    rw [← HWE.out]
    go_wp2_with (go_at_call 53; refine (HA.out _).mono ?_; rintro e wq ⟨rfl, rfl⟩)
    go_ret
    exact ⟨ret_i HR.out.symm, HG.out⟩
  rw [if_neg h8] at HR
  have e8 : (x == 98) = false := int_beq_f h8
  clear h8
  go_enter Try.func63, Try.ntmps63
  go_wp2_with fail
  rw [← HWE.out]
  go_wp2_with (go_at_call 53; refine (HA.out _).mono ?_; rintro e wq ⟨rfl, rfl⟩)
  go_ret
  exact ⟨ret_i HR.out.symm, HG.out⟩
set_option maxHeartbeats 4000000 in
theorem rSign_any (p q : Bool) (w : World) : Calls Try.prog 64 #[.bool p, .bool q] w fun e w' => e = .returned (.int .i64 (if p = true then -1 else if q = true then 1 else 0)) ∧ w = w' := by
  cases p <;> cases q
  all_goals
    go_enter Try.func64, Try.ntmps64
    go_wp2_with fail
    go_ret
    exact ⟨rfl, rfl⟩
end Go.Proofs.Ytfckmkpfhchggaa
