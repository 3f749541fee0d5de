/-
  PROVED: for all lists of bytes l and all bytes p: octet.Crc and Seal of l, Open and Frames of p answer what the document's answer does (P1.2 to P1.4); the law returns true and leaves its arguments as they were. No condition.
-/
import Derived.Test.YtdaefgkhimhpdaaLawFrm
namespace Go.Proofs.Ytdaefgkhimhpdaa
open Go.RowKit Go.ChangeShapes Go.WideShapes Go.ChangeAt

set_option maxRecDepth 100000 in
theorem lawFrm_lifted (os : Os) (started : os.Started) (H : Type) (enc : TypeId × Value → H) :
    ReturnsInHanded {} Try.checked os 4 .any (Rows.octetFramesSpec.pre6 enc Try.prog Try.f4 Rows.octetFramesRow.domain false) (Rows.octetFramesSpec.post enc Try.prog Try.f4 false true false false) := by
  refine returnsInHanded_of_change_sized (C := Try.checked) Try.own started (by kernel_rfl) Try.func4
    (ChangeSpec.witness6 (enc := enc) (C := Try.checked) false ⟨#[], #[.slice none 0 0, .slice none 0 0], []⟩ 8 (by kernel_rfl) (by kernel_rfl) (by kernel_rfl) (by kernel_rfl)) ?_
  intro W base args ds gs before hval0 hW _ hsz0 _
  have hval : ∀ (j : Nat) t v, Try.f4.params[j]? = some t → args[j]? = some v → Value.okWide Try.prog W .any base t v := hval0
  have hW' := hW
  obtain ⟨p, q, hA0, hV, _, _, _⟩ := hW
  have hA : DataW.TrodAll enc Try.prog W 0 (fun _ => true) true Try.f4.params.toList args.toList ds p := hA0
  have hsz : (DataW.weightsEach Try.prog (Try.f4.params.toList ++ Rows.octetFramesSpec.plain.varTypes Try.prog) (ds ++ gs)).all (· ≤ reachBytes) = true := hsz0
  rw [Try.params4] at hA hval hsz
  obtain ⟨v0, v1, d0, d1, p0, p1, rfl, rfl, _, t0, t1⟩ := trodAll_two hA
  obtain ⟨rfl, rfl⟩ := trodVars_none hV
  simp only [List.cons_append, List.nil_append, List.append_nil, DataW.weightsEach, List.all_append, Bool.and_eq_true, List.all_eq_true, decide_eq_true_eq] at hsz
  obtain ⟨AL, cl, l, rfl, h1, h1m, hl, hlt⟩ := open_u8s (hval 0 _ _ rfl rfl) t0 hsz.1
  obtain ⟨A, c, bs, rfl, h2, h2m, hb⟩ := open_u8 (hval 1 _ _ rfl rfl) t1
  have hwalk : Calls Try.prog 4 #[.slice AL l.length cl, .slice A bs.length c] W fun e w' => e = .returned (.bool true) ∧ W.grownBy w' none := by
    by_cases hh : hugeB l = true ∨ 20000 < bs.length
    · exact frames_live AL A cl c l bs W hl hlt (Nat.le_trans h1 h1m) hh
    · have hb1 : hugeB l = false := by rcases hx : hugeB l with _ | _; rfl; exact absurd (.inl hx) hh
      have hb2 : bs.length ≤ 20000 := by omega
      exact frames_main AL A cl c bs.length l bs W hl hlt (Nat.le_trans h1 h1m) ⟨A, c, rfl, h2, h2m, hb⟩ hb1 hb2 hb2
  refine hwalk.mono fun e W' ⟨he, hg⟩ => ⟨_, he, post_law hW' rfl ?_ rfl rfl (gb_below hg (Nat.le_refl _) (by simp))⟩
  intro t ht
  rw [Try.params4] at ht
  simp only [List.mem_cons, List.not_mem_nil, or_false] at ht
  rcases ht with rfl | rfl <;> exact ⟨by kernel_rfl, of_decide_eq_true (by kernel_rfl)⟩

theorem octetFrames_holds : Rows.OctetFramesSaid :=
  OpenClaim.holds_of_wide 4 Try.f4 rfl rfl rfl rfl rfl rfl rfl ⟨rfl, rfl, rfl, rfl, rfl⟩ rfl rfl rfl rfl rfl (by kernel_rfl) Try.func4 (by kernel_rfl)
    (of_decide_eq_true (by kernel_rfl)) (by unfold Func.isWrapper; first | (rw [if_pos (by decide +kernel)]; kernel_rfl) | (rw [if_neg (by decide +kernel)]; exact ⟨rfl, rfl⟩))
    (fun os started H enc _ => lawFrm_lifted os started H enc)

end Go.Proofs.Ytdaefgkhimhpdaa
