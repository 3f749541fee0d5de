/-
  PROVED: for all bytes p, every place and every mask: a frame of p with bits turned behind its first four bytes, within 32 neighbouring ones, is opened just if none was turned (P1.10); the law returns true and leaves its arguments as they were. No condition.
-/
import Derived.Test.YtdaefgkhimhpdaaLawBrs
namespace Go.Proofs.Ytdaefgkhimhpdaa
open Go.RowKit Go.ChangeShapes Go.WideShapes Go.ChangeAt

theorem u32_wf {n : Int} (h : (Lit.int .u32 n).wf = true) : 0 ≤ n ∧ n ≤ 4294967295 := by
  have h1 : IntKind.u32.min = 0 := rfl
  have h2 : IntKind.u32.max = 4294967295 := rfl
  simp only [Lit.wf, Bool.and_eq_true, decide_eq_true_eq] at h
  omega

set_option maxRecDepth 100000 in
theorem lawBrs_lifted (os : Os) (started : os.Started) (H : Type) (enc : TypeId × Value → H) :
    ReturnsInHanded {} Try.checked os 8 .any (Rows.octetBurstsSpec.pre6 enc Try.prog Try.f8 Rows.octetBurstsRow.domain false) (Rows.octetBurstsSpec.post enc Try.prog Try.f8 false true false false) := by
  refine returnsInHanded_of_change_sized (C := Try.checked) Try.own started (by kernel_rfl) Try.func8
    (ChangeSpec.witness6 (enc := enc) (C := Try.checked) false ⟨#[], #[.slice none 0 0, .int .i64 0, .int .u32 0], []⟩ 8 (by kernel_rfl) (by kernel_rfl) (by kernel_rfl) (by kernel_rfl)) ?_
  intro W base args ds gs before hval0 hW _ hsz0 _
  have hval : ∀ (j : Nat) t v, Try.f8.params[j]? = some t → args[j]? = some v → Value.okWide Try.prog W .any base t v := hval0
  have hW' := hW
  obtain ⟨p, q, hA0, hV, _, _, _⟩ := hW
  have hA : DataW.TrodAll enc Try.prog W 0 (fun _ => true) true Try.f8.params.toList args.toList ds p := hA0
  have hsz : (DataW.weightsEach Try.prog (Try.f8.params.toList ++ Rows.octetBurstsSpec.plain.varTypes Try.prog) (ds ++ gs)).all (· ≤ reachBytes) = true := hsz0
  rw [Try.params8] at hA hval hsz
  obtain ⟨v0, v1, v2, d0, d1, d2, p0, p1, p2, rfl, rfl, _, t0, t1, t2⟩ := trodAll_three hA
  obtain ⟨rfl, rfl⟩ := trodVars_none hV
  simp only [List.cons_append, List.nil_append, List.append_nil, DataW.weightsEach, List.all_append, Bool.and_eq_true, List.all_eq_true, decide_eq_true_eq] at hsz
  obtain ⟨A, c, bs, rfl, h1, h1m, hb, hbt⟩ := open_u8r (hval 0 _ _ rfl rfl) t0 hsz.1
  obtain ⟨a, rfl, rfl, rfl, _⟩ := open_int Try.underlying3 (hval 1 _ _ rfl rfl) t1
  obtain ⟨m, rfl, rfl, rfl, hmw⟩ := open_int Try.underlying50 (hval 2 _ _ rfl rfl) t2
  have hm := u32_wf hmw
  obtain ⟨k, rfl⟩ := Int.eq_ofNat_of_zero_le hm.1
  have hwalk : Calls Try.prog 8 #[.slice A bs.length c, .int .i64 a, .int .u32 (k : Int)] W fun e w' => e = .returned (.bool true) ∧ W.grownBy w' none := by
    by_cases hh : 20000 < bs.length ∨ a < 32 ∨ 8 * ((bs.length : Int) + 8) ≤ a
    · exact bursts_live A c bs.length a k bs W hb h1 h1m rfl hbt hh
    · obtain ⟨a', rfl⟩ := Int.eq_ofNat_of_zero_le (show 0 ≤ a by omega)
      exact bursts_main A c bs.length a' k bs W hb h1 h1m rfl (by omega) (by omega) (by omega) (by omega)
  refine hwalk.mono fun e W' ⟨he, hg⟩ => ⟨_, he, post_law hW' rfl ?_ rfl rfl (gb_below hg (Nat.le_refl _) (by simp))⟩
  intro t ht
  rw [Try.params8] at ht
  simp only [List.mem_cons, List.not_mem_nil, or_false] at ht
  rcases ht with rfl | rfl | rfl <;> exact ⟨by kernel_rfl, of_decide_eq_true (by kernel_rfl)⟩

theorem octetBursts_holds : Rows.OctetBurstsSaid :=
  OpenClaim.holds_of_wide 8 Try.f8 rfl rfl rfl rfl rfl rfl rfl ⟨rfl, rfl, rfl, rfl, rfl⟩ rfl rfl rfl rfl rfl (by kernel_rfl) Try.func8 (by kernel_rfl)
    (of_decide_eq_true (by kernel_rfl)) (by unfold Func.isWrapper; first | (rw [if_pos (by decide +kernel)]; kernel_rfl) | (rw [if_neg (by decide +kernel)]; exact ⟨rfl, rfl⟩))
    (fun os started H enc _ => lawBrs_lifted os started H enc)

end Go.Proofs.Ytdaefgkhimhpdaa
