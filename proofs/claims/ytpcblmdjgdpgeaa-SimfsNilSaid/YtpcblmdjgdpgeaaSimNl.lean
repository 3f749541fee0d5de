/-
  PROVED: a nil file system answers nothing to all its methods, and is the same as a nil one alone (P2.10); the law returns true. No condition.
-/
import Derived.Test.YtpcblmdjgdpgeaaSimO
import Derived.Test.YtpcblmdjgdpgeaaRowb
namespace Go.Proofs.Ytpcblmdjgdpgeaa
open Go.RowKit Go.ChangeShapes Go.WideShapes Go.ChangeAt

set_option maxHeartbeats 4000000 in
set_option maxRecDepth 100000 in
theorem lawNil_walk (w : World) :
    Calls Try.prog 7 #[] w fun e w' => e = .returned (.bool true) ∧ Below w.heap.size w w' := by
  go_enter Try.func7, Try.ntmps7
  go_wp2_with (first
    | (go_at_call 15; refine (create_nil _ _).mono ?_; rintro e w1 ⟨rfl, hg1⟩; have HG1 := hide hg1; clear hg1)
    | (go_at_call 23; refine (open_nil _ _).mono ?_; rintro e w2 ⟨rfl, hg2⟩; have HG2 := hide (gb_trans HG1.out hg2 (.inl rfl)); clear hg2)
    | (go_at_call 24; refine (read_nil _ _ _ _).mono ?_; rintro e wq ⟨rfl, rfl⟩)
    | (go_at_call 32; refine (size_nil _ _).mono ?_; rintro e wq ⟨rfl, rfl⟩)
    | (go_at_call 22; refine (crash_nil _ _ _ _ _).mono ?_; rintro e w3 ⟨rfl, hg3⟩; have HG3 := hide (gb_trans HG2.out hg3 (.inl rfl)); clear hg3)
    | (go_at_call 19; refine (arm_nil _ _).mono ?_; rintro e wq ⟨rfl, rfl⟩)
    | (go_at_call 13; refine (Lv.new 1 _ (by decide) (by decide)).mono ?_; rintro e w4 ⟨g, rfl, hl4⟩; have HG4 := hide (gb_trans HG3.out hl4.grown (.inl rfl)); clear hl4)
    | (go_at_call 9; refine (live_any _).mono ?_; rintro e w5 ⟨rfl, hg5⟩; have HG5 := hide (gb_trans HG4.out hg5 (.inl rfl)); clear hg5)
    | (go_at_call 14; refine (num_any _ _).mono ?_; rintro e wq ⟨rfl, rfl⟩)
    | (go_at_call 26; refine (write_nil _ _ _ _ _ _).mono ?_; rintro e wq ⟨rfl, rfl⟩)
    | (go_at_call 16; refine (append_nil _ _ _ _ _).mono ?_; rintro e wq ⟨rfl, rfl⟩)
    | (go_at_call 27; refine (cut_nil _ _ _).mono ?_; rintro e wq ⟨rfl, rfl⟩)
    | (go_at_call 17; refine (sync_nil _ _).mono ?_; rintro e wq ⟨rfl, rfl⟩)
    | (go_at_call 20; refine (rename_nil _ _ _).mono ?_; rintro e w6 ⟨rfl, hg6⟩; have HG6 := hide (gb_trans HG5.out hg6 (.inl rfl)); clear hg6)
    | (go_at_call 28; refine (remove_nil _ _).mono ?_; rintro e w7 ⟨rfl, hg7⟩; have HG7 := hide (gb_trans HG6.out hg7 (.inl rfl)); clear hg7)
    | (go_at_call 18; refine (syncdir_nil _).mono ?_; rintro e wq ⟨rfl, rfl⟩)
    | (go_at_call 33; refine (setcap_nil _ _).mono ?_; rintro e wq ⟨rfl, rfl⟩)
    | (go_at_call 34; refine (list_nil _).mono ?_; rintro e wq ⟨rfl, rfl⟩)
    | (go_at_call 21; refine (dead_nil _).mono ?_; rintro e wq ⟨rfl, rfl⟩)
    | (go_at_call 35; refine (ops_nil _).mono ?_; rintro e wq ⟨rfl, rfl⟩)
    | (go_at_call 29; refine (used_nil _).mono ?_; rintro e wq ⟨rfl, rfl⟩)
    | (go_at_call 36; refine (capacity_nil _).mono ?_; rintro e wq ⟨rfl, rfl⟩)
    | (go_at_call 37; refine (waiting_nil _ _).mono ?_; rintro e wq ⟨rfl, rfl⟩)
    | (go_at_call 38; refine (waitingdir_nil _).mono ?_; rintro e wq ⟨rfl, rfl⟩)
    | (go_at_call 25; refine (copy_nil _).mono ?_; rintro e wq ⟨rfl, rfl⟩)
    | (go_at_call 11; (with_reducible refine (same_nil _).mono ?_); rintro e wq ⟨rfl, rfl⟩)
    | (go_at_call 11; (with_reducible refine (same_left _ _).mono ?_); rintro e wq ⟨rfl, rfl⟩)
    | (go_at_call 11; (with_reducible refine (same_right _ _).mono ?_); rintro e wq ⟨rfl, rfl⟩))
  go_ret
  exact ⟨rfl, gb_below HG7.out (Nat.le_refl _) (by simp)⟩

set_option maxRecDepth 100000 in
theorem lawNil_lifted (os : Os) (started : os.Started) (H : Type) (enc : TypeId × Value → H) :
    ReturnsInHanded {} Try.checked os 7 .any (Rows.simfsNilSpec.pre6 enc Try.prog Try.f7 Rows.simfsNilRow.domain false) (Rows.simfsNilSpec.post enc Try.prog Try.f7 false true false false) := by
  refine returnsInHanded_of_change (C := Try.checked) Try.own started (by kernel_rfl) Try.func7
    (ChangeSpec.witness6 (enc := enc) (C := Try.checked) false ⟨#[], #[], []⟩ 8 (by kernel_rfl) (by kernel_rfl) (by kernel_rfl) (by kernel_rfl)) ?_
  intro W base args ds gs before hval0 hW _ _
  have hW' := hW
  obtain ⟨p, q, hA0, hV, _, _, _⟩ := hW
  have hA : DataW.TrodAll enc Try.prog W 0 (fun _ => true) true Try.f7.params.toList args.toList ds p := hA0
  rw [Try.params7] at hA
  obtain ⟨rfl, rfl, rfl⟩ := trodAll_none hA
  obtain ⟨rfl, rfl⟩ := trodVars_none hV
  refine (lawNil_walk W).mono fun e W' ⟨he, hb⟩ => ⟨_, he, post_law hW' rfl ?_ rfl rfl hb⟩
  intro t ht
  rw [Try.params7] at ht
  cases ht

theorem simfsNil_holds : Rows.SimfsNilSaid :=
  OpenClaim.holds_of_wide 7 Try.f7 rfl rfl rfl rfl rfl rfl rfl ⟨rfl, rfl, rfl, rfl, rfl⟩ rfl rfl rfl rfl rfl (by kernel_rfl) Try.func7 (by kernel_rfl)
    (of_decide_eq_true (by kernel_rfl)) (by unfold Func.isWrapper; first | (rw [if_pos (by decide +kernel)]; kernel_rfl) | (rw [if_neg (by decide +kernel)]; exact ⟨rfl, rfl⟩))
    (fun os started H enc _ => lawNil_lifted os started H enc)

end Go.Proofs.Ytpcblmdjgdpgeaa
