/-
  attr's elements: a number and a symbol; how they lie in rows, and as keys of a map; when two are equal, and how they stand to each other.
-/
import Derived.Test.YtfdckhnhancbdaaChecked
import Derived.Test.YtfdckhnhancbdaaMk
import Derived.Test.YtfdckhnhancbdaaVAt
import Derived.Deep.QuietTactic
import Derived.BigQuiet
import Derived.Deep.RegionHeld3
import Derived.Deep.DrawnRows
import Derived.Laws.StructEq
namespace Go.Proofs.Ytfdckhnhancbdaa
open Go.RowKit
attribute [local go_sem ↓] Go.wp_at_zero Go.wp_at_succ

/-- No symbol. -/
def noS : ByteArray := ⟨#[]⟩
def kagg (k : Int × ByteArray) : Value := .agg #[.int .i64 k.1, .string k.2]
/-- Elements as cells. -/
def kcs (l : List (Int × ByteArray)) : List Value := l.flatMap fun k => [.int .i64 k.1, .string k.2]
theorem kcs_nil : kcs [] = [] := rfl
theorem kcs_cons (k : Int × ByteArray) (l : List (Int × ByteArray)) : kcs (k :: l) = .int .i64 k.1 :: .string k.2 :: kcs l := rfl
theorem kcs_app (l m : List (Int × ByteArray)) : kcs (l ++ m) = kcs l ++ kcs m := by simp [kcs]
theorem kcs_length (l : List (Int × ByteArray)) : (kcs l).length = l.length * 2 := by
  induction l with
  | nil => rfl
  | cons k l ih => rw [kcs_cons, List.length_cons, List.length_cons, ih, List.length_cons]; omega
theorem kcs_one (l : List (Int × ByteArray)) : ∀ u ∈ kcs l, u.oneCell' = true := by
  intro u hu
  obtain ⟨k, _, hk⟩ := List.mem_flatMap.1 hu
  rcases List.mem_cons.1 hk with rfl | hk
  · rfl
  · rw [List.mem_singleton.1 hk]; rfl
theorem kcs_at (l : List (Int × ByteArray)) (j : Nat) (h : j < l.length) : (kcs l)[j * 2]? = some (.int .i64 l[j].1) ∧ (kcs l)[j * 2 + 1]? = some (.string l[j].2) := by
  induction l generalizing j with
  | nil => simp at h
  | cons k l ih =>
    rw [kcs_cons]
    cases j with
    | zero => exact ⟨rfl, rfl⟩
    | succ j =>
      have := ih j (by simpa using h)
      rw [show (j + 1) * 2 = j * 2 + 1 + 1 by omega]
      simpa using this

theorem encK_inj (a b : Int × ByteArray) (h : kagg a = kagg b) : a = b := by
  unfold kagg at h
  simp only [Value.agg.injEq, Array.mk.injEq, List.cons.injEq, Value.int.injEq, Value.string.injEq, true_and, and_true] at h
  exact Prod.ext h.1 h.2
/-- Places by elements. -/
abbrev encP : EncK (Int × ByteArray) Value := ⟨kagg, id, encK_inj⟩

theorem bytes_beq' (a b : ByteArray) : (a == b) = decide (a = b) := by
  rw [Bool.eq_iff_iff, decide_eq_true_eq]
  exact MapKept.bytes_beq a b
theorem equalIn_key (a b : Int × ByteArray) (w : World) : (Op.equalIn 10000 89 (kagg a) (kagg b)).run Try.prog w = .ok (decide (a = b)) w := by
  have u1 := Try.underlying2
  have u2 := Try.underlying9
  have hS : Try.prog.underlying 89 = some (.struct (Try.prog.fieldsOf 89)) := by kernel_rfl
  have hp : Try.prog.stoodInHeld 89 = false := by kernel_rfl
  rw [show (10000 : Nat) = 9999 + 1 from rfl]
  unfold kagg
  rw [run_equalIn_agg w 9999 89 _ _ hS hp]
  have e : decide (a = b) = ((a.1 == b.1) && (a.2.toList == b.2.toList)) := by
    rw [← beq_toListBytes, bytes_beq', Bool.eq_iff_iff]
    simp [Prod.ext_iff]
  rw [e]
  simp only [Program.fieldsOf, Try.underlying89]
  go_simp
  by_cases h1 : a.1 = b.1 <;> by_cases h2 : a.2.toList = b.2.toList <;> simp [h1, h2]
theorem equal_key (a b : Int × ByteArray) (w : World) : (Op.equal 89 (kagg a) (kagg b)).run Try.prog w = .ok (decide (a = b)) w := equalIn_key a b w
theorem key_run : KeyRun Try.prog 89 encP where
  kind := ⟨_, Try.underlying89⟩
  check em k w := by
    kernel_rfl
  eq a b w := equal_key a b w
  bits k := by
    simp [kagg, Instr.sameBits, MapKept.bytes_beq]
end Go.Proofs.Ytfdckhnhancbdaa
