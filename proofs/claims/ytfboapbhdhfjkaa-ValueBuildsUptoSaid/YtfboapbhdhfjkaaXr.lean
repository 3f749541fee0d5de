/-
  PROVED: what is built of a value's elements is that value, and each element is itself a value, where Check calls the value good (P3.11); the law returns true and leaves its argument as it was. Condition: what the law reads is of bulk at most 1048576.
-/
import Derived.Test.YtfboapbhdhfjkaaXq
import Derived.Test.YtfboapbhdhfjkaaWo
namespace Go.Proofs.Ytfboapbhdhfjkaa
open Go.RowKit Go.ChangeShapes Go.WideShapes Go.ChangeAt


set_option maxRecDepth 100000 in
theorem lawBuilds_lifted (os : Os) (started : os.Started) (H : Type) (enc : TypeId × Value → H) (F : Stop.Interp) :
    ReturnsInHanded {} Try.checked os 5 .any ((Rows.OpenSpec.upto Rows.valueBuildsSpec).pre6 enc Try.prog Try.f5 Rows.valueBuildsUptoRow.domain false) (((Rows.OpenSpec.upto Rows.valueBuildsSpec).at F).post enc Try.prog Try.f5 false true false false) := by
  refine returnsInHanded_of_cond (C := Try.checked) (s := Rows.OpenSpec.upto Rows.valueBuildsSpec) (k := Rows.uptoSmall) rfl Try.own started (by kernel_rfl) Try.func5
    (OpenSpec.witness (enc := enc) (C := Try.checked) (s := Rows.OpenSpec.upto Rows.valueBuildsSpec) (k := Rows.uptoSmall) rfl false ⟨#[], #[.agg #[.int .i64 0, .slice none 0 0, .slice none 0 0, .slice none 0 0]], []⟩ 8 (by kernel_rfl) (by kernel_rfl) (by kernel_rfl)
      (x := ([.agg [.lit (.int .i64 0), .nil, .nil, .nil]], [], [])) (by kernel_rfl) rfl (by kernel_rfl)) ?_
  intro W base args ds gs before hval0 hW _ hk _
  have hval : ∀ (j : Nat) t v, Try.f5.params[j]? = some t → args[j]? = some v → Value.okWide Try.prog W .any base t v := hval0
  have hW' := hW
  obtain ⟨p, q, hA0, hV, _, _, _⟩ := hW
  have hA : DataW.TrodAll enc Try.prog W 0 (fun _ => true) true Try.f5.params.toList args.toList ds p := hA0
  rw [Try.params5] at hA hval
  obtain ⟨v0, d0, rfl, rfl, t0⟩ := trodAll_one hA
  obtain ⟨rfl, rfl⟩ := trodVars_none hV
  have hb := of_decide_eq_true hk
  simp only [List.append_nil, Rows.uptoBulkAll] at hb
  obtain ⟨v, nA, nc, sA, sc, lA, lc, rfl, hvb, hvt⟩ := open_v (hval 0 _ _ rfl rfl) t0
  refine (builds_any v W nA nc sA sc lA lc (by omega) hvb).mono fun e W' ⟨he, hg⟩ => ⟨_, he, post_law hW' rfl ?_ rfl rfl (gb_below hg (Nat.le_refl _) (by simp))⟩
  intro t ht
  rw [Try.params5] at ht
  simp only [List.mem_cons, List.not_mem_nil, or_false] at ht
  subst ht
  exact ⟨by kernel_rfl, of_decide_eq_true (by kernel_rfl)⟩

theorem valueBuilds_holds : Rows.ValueBuildsUptoSaid :=
  OpenClaim.holds_of_cond 5 Try.f5 rfl rfl rfl rfl rfl rfl rfl ⟨rfl, rfl, rfl, rfl, rfl⟩ rfl rfl rfl rfl rfl (by kernel_rfl) Try.func5 (by kernel_rfl)
    (of_decide_eq_true (by kernel_rfl)) (by unfold Func.isWrapper; first | (rw [if_pos (by decide +kernel)]; kernel_rfl) | (rw [if_neg (by decide +kernel)]; exact ⟨rfl, rfl⟩))
    (fun os started H enc _ F => lawBuilds_lifted os started H enc F)
end Go.Proofs.Ytfboapbhdhfjkaa
