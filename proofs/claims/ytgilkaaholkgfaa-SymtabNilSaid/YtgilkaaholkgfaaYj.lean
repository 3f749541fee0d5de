/-
  PROVED: a nil table and a nil file answer nothing and ErrNone to all their calls, and Open of no file system answers ErrNone (P5.4, P5.7); the law returns true. No condition.
-/
import Derived.Test.YtgilkaaholkgfaaYi
import Derived.Test.YtgilkaaholkgfaaYn
import Derived.Test.YtgilkaaholkgfaaRow
namespace Go.Proofs.Ytgilkaaholkgfaa
open Go.RowKit Go.ChangeShapes Go.WideShapes Go.ChangeAt
open Go.ChangeMaps (open_string shut_string)

set_option maxHeartbeats 4000000 in
set_option maxRecDepth 100000 in
theorem lawNil_walk (s : ByteArray) (n : Int) (w : World) :
    Calls Try.prog 5 #[.string s, .int .i64 n] w fun e w' => e = .returned (.bool true) ∧ w.grownBy w' none := by
  by_cases hs : 20000 < s.size
  · have h1 : decide ((20000 : Int) < (s.size : Int)) = true := by simp; omega
    go_enter Try.func5, Try.ntmps5
    go_wp2_with (go_at_call 6; refine (live_any _).mono ?_; rintro e w1 ⟨rfl, hg⟩; have HG := hide hg; clear hg)
    go_ret
    exact ⟨rfl, HG.out⟩
  · have h1 : ¬ (20000 : Int) < (s.size : Int) := by omega
    go_enter Try.func5, Try.ntmps5
    go_wp2_with (first
      | (go_at_call 13; refine (intern_nil _ _ _ _).mono ?_; rintro e w1 ⟨rfl, hw⟩; have HG1 : Hid (w.grownBy w1 none) := hide (hw ▸ gb_alloc (gb_refl w none) _); clear hw)
      | (go_at_call 17; refine (number_nil _ _).mono ?_; rintro e wq ⟨rfl, rfl⟩)
      | (go_at_call 16; refine (symbol_nil _ _).mono ?_; rintro e wq ⟨rfl, rfl⟩)
      | (go_at_call 18; refine (enumerate_nil _ _ _ _ _).mono ?_; rintro e w2 ⟨rfl, hg⟩; have HG2 : Hid (w.grownBy w2 none) := hide (gb_trans HG1.out hg (.inl rfl)); clear hg)
      | (go_at_call 19; refine (vector_nil _ _ _ _).mono ?_; rintro e w3 ⟨rfl, hg⟩; have HG3 : Hid (w.grownBy w3 none) := hide (gb_trans HG2.out hg (.inl rfl)); clear hg)
      | (go_at_call 20; refine (add_nil _ _ _ _).mono ?_; rintro e w4 ⟨rfl, hw⟩; have HG4 : Hid (w.grownBy w4 none) := hide (by rw [← hw]; exact gb_alloc (gb_alloc HG3.out _) _); have p0 : w4.cell? ⟨w3.heap.size, 0, none⟩ = some (.int .i64 0) := (by rw [← hw]; exact cell_gb (by rw [blk_cell (heap_alloc_new w3 _)]; rfl) (gb_alloc (gb_refl _ none) _)); clear hw)
      | (go_at_call 21; refine (open_nil _ _).mono ?_; rintro e wq ⟨rfl, rfl⟩)
      | (go_at_call 15; refine (len_nil _).mono ?_; rintro e wq ⟨rfl, rfl⟩)
      | (go_at_call 22; refine (all_nil _).mono ?_; rintro e wq ⟨rfl, rfl⟩)
      | (go_at_call 14; refine (bytes_nil _).mono ?_; rintro e wq ⟨rfl, rfl⟩)
      | (go_at_call 23; refine (copy_nil _).mono ?_; rintro e wq ⟨rfl, rfl⟩)
      | (go_at_call 24; refine (sync_nil _).mono ?_; rintro e wq ⟨rfl, rfl⟩)
      | (go_at_call 9; refine (lnum_any _ _).mono ?_; rintro e wq ⟨rfl, rfl⟩)
      | (go_at_call 6; refine (live_any _).mono ?_; rintro e w5 ⟨rfl, hg⟩; have HG5 : Hid (w.grownBy w5 none) := hide (gb_trans HG4.out hg (.inl rfl)); clear hg))
    go_ret
    exact ⟨rfl, HG5.out⟩

set_option maxRecDepth 100000 in
theorem lawNil_lifted (os : Os) (started : os.Started) (H : Type) (enc : TypeId × Value → H) :
    ReturnsInHanded {} Try.checked os 5 .any (Rows.symtabNilSpec.pre6 enc Try.prog Try.f5 Rows.symtabNilRow.domain false) (Rows.symtabNilSpec.post enc Try.prog Try.f5 false true false false) := by
  refine returnsInHanded_of_change (C := Try.checked) Try.own started (by kernel_rfl) Try.func5
    (ChangeSpec.witness6 (enc := enc) (C := Try.checked) false ⟨#[], #[.string ⟨#[]⟩, .int .i64 0], []⟩ 8 (by kernel_rfl) (by kernel_rfl) (by kernel_rfl) (by kernel_rfl)) ?_
  intro W base args ds gs before hval0 hW _ _
  have hval : ∀ (j : Nat) t v, Try.f5.params[j]? = some t → args[j]? = some v → Value.okWide Try.prog W .any base t v := hval0
  have hW' := hW
  obtain ⟨p, q, hA0, hV, _, _, _⟩ := hW
  have hA : DataW.TrodAll enc Try.prog W 0 (fun _ => true) true Try.f5.params.toList args.toList ds p := hA0
  rw [Try.params5] at hA hval
  obtain ⟨v0, v1, d0, d1, p0, p1, rfl, rfl, _, t0, t1⟩ := trodAll_two hA
  obtain ⟨rfl, rfl⟩ := trodVars_none hV
  obtain ⟨s, rfl, rfl, rfl, _⟩ := open_string Try.underlying9 (hval 0 _ _ rfl rfl) t0
  obtain ⟨n, rfl, rfl, rfl, _⟩ := open_int Try.underlying3 (hval 1 _ _ rfl rfl) t1
  refine (lawNil_walk s n W).mono fun e W' ⟨he, hg⟩ => ⟨_, he, post_law hW' rfl ?_ rfl rfl (gb_below hg (Nat.le_refl _) (by simp))⟩
  intro t ht
  rw [Try.params5] at ht
  simp only [List.mem_cons, List.not_mem_nil, or_false] at ht
  rcases ht with rfl | rfl <;> exact ⟨by kernel_rfl, of_decide_eq_true (by kernel_rfl)⟩

theorem symtabNil_holds : Rows.SymtabNilSaid :=
  OpenClaim.holds_of_wide 5 Try.f5 rfl rfl rfl rfl rfl rfl rfl ⟨rfl, rfl, rfl, rfl, rfl⟩ rfl rfl rfl rfl rfl (by kernel_rfl) Try.func5 (by kernel_rfl)
    (of_decide_eq_true (by kernel_rfl)) (by unfold Func.isWrapper; first | (rw [if_pos (by decide +kernel)]; kernel_rfl) | (rw [if_neg (by decide +kernel)]; exact ⟨rfl, rfl⟩))
    (fun os started H enc _ => lawNil_lifted os started H enc)

end Go.Proofs.Ytgilkaaholkgfaa
