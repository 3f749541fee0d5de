/-
  PROVED: for every capacity and every list of acts (files created, written, appended to, cut, renamed, removed): behind each act no more is used than the capacity, and a write or an append that has no room changes nothing and was not empty (P2.14); the law returns true and leaves its arguments as they were. No condition.
-/
import Derived.Test.YtpkmlehkmmdkoaaSimFe
import Derived.Test.YtpkmlehkmmdkoaaSimFf
namespace Go.Proofs.Ytpkmlehkmmdkoaa
open Go.RowKit Go.ChangeShapes Go.WideShapes Go.ChangeAt

set_option maxRecDepth 100000 in
theorem lawFull_lifted (os : Os) (started : os.Started) (H : Type) (enc : TypeId × Value → H) :
    ReturnsInHanded {} Try.checked os 5 .any (Rows.simfsFullSpec.pre6 enc Try.prog Try.f5 Rows.simfsFullRow.domain false) (Rows.simfsFullSpec.post enc Try.prog Try.f5 false true false false) := by
  refine returnsInHanded_of_change_sized (C := Try.checked) Try.own started (by kernel_rfl) Try.func5
    (ChangeSpec.witness6 (enc := enc) (C := Try.checked) false ⟨#[], #[.int .i64 0, .slice none 0 0], []⟩ 8 (by kernel_rfl) (by kernel_rfl) (by kernel_rfl) (by kernel_rfl)) ?_
  intro W base args ds gs before hval0 hW _ hsz0 _
  have hval : ∀ (j : Nat) t v, Try.f5.params[j]? = some t → args[j]? = some v → Value.okWide Try.prog W .any base t v := hval0
  have hW' := hW
  obtain ⟨p, q, hA0, hV, _, _, _⟩ := hW
  have hA : DataW.TrodAll enc Try.prog W 0 (fun _ => true) true Try.f5.params.toList args.toList ds p := hA0
  have hsz : (DataW.weightsEach Try.prog (Try.f5.params.toList ++ Rows.simfsFullSpec.plain.varTypes Try.prog) (ds ++ gs)).all (· ≤ reachBytes) = true := hsz0
  rw [Try.params5] at hA hval hsz
  obtain ⟨v0, v1, d0, d1, p0, p1, rfl, rfl, _, t0, t1⟩ := trodAll_two hA
  obtain ⟨rfl, rfl⟩ := trodVars_none hV
  simp only [List.cons_append, List.nil_append, List.append_nil, DataW.weightsEach, List.all_append, Bool.and_eq_true, List.all_eq_true, decide_eq_true_eq] at hsz
  obtain ⟨C, rfl, rfl, rfl, _⟩ := open_int Try.underlying3 (hval 0 _ _ rfl rfl) t0
  obtain ⟨A, c, l, rfl, h1, h2, h3, h4⟩ := open_acts (hval 1 _ _ rfl rfl) t1 hsz.2.1
  have hin : Fu.In W A l := ⟨h2, h3, h4, h1⟩
  have hwalk : Calls Try.prog 5 #[.int .i64 C, .slice A l.length c] W fun e w' => e = .returned (.bool true) ∧ W.grownBy w' none := by
    by_cases hh : longB l = true ∨ C < 0 ∨ 10000 < C
    · exact lawFull_off C A c l W hin hh
    · simp only [not_or, Bool.not_eq_true] at hh
      exact lawFull_main C A c l W hin hh.1 hh.2.1 hh.2.2
  refine hwalk.mono fun e W' ⟨he, hg⟩ => ⟨_, he, post_law hW' rfl ?_ rfl rfl (gb_below hg (Nat.le_refl _) (by simp))⟩
  intro t ht
  rw [Try.params5] at ht
  simp only [List.mem_cons, List.not_mem_nil, or_false] at ht
  rcases ht with rfl | rfl <;> exact ⟨by kernel_rfl, of_decide_eq_true (by kernel_rfl)⟩

theorem simfsFull_holds : Rows.SimfsFullSaid :=
  OpenClaim.holds_of_wide 5 Try.f5 rfl rfl rfl rfl rfl rfl rfl ⟨rfl, rfl, rfl, rfl, rfl⟩ rfl rfl rfl rfl rfl (by kernel_rfl) Try.func5 (by kernel_rfl)
    (of_decide_eq_true (by kernel_rfl)) (by unfold Func.isWrapper; first | (rw [if_pos (by decide +kernel)]; kernel_rfl) | (rw [if_neg (by decide +kernel)]; exact ⟨rfl, rfl⟩))
    (fun os started H enc _ => lawFull_lifted os started H enc)

end Go.Proofs.Ytpkmlehkmmdkoaa
