/-
  PROVED: a table of a beginning of a table's bytes has a beginning of its symbols, with the same numbers, and its bytes are that beginning's whole frames; a symbol's number leads to the symbol and back (P5.8, P5.9); the law returns true and leaves its arguments as they were. No condition.
-/
import Derived.Test.YtgilkaaholkgfaaYm
import Derived.Test.YtgilkaaholkgfaaRow
namespace Go.Proofs.Ytgilkaaholkgfaa
open Go.RowKit Go.ChangeShapes Go.WideShapes Go.ChangeAt

theorem reach_le : reachBytes ≤ 140737488355328 := by decide +kernel

theorem back_any (A : Option Addr) (c : Nat) (l : List ByteArray) (cut : Int) (w : World) (hr : Rd w w.heap.size A (strs l)) (hs : ∀ s ∈ l, s.size ≤ 140737488355328) :
    Calls Try.prog 4 #[.slice A l.length c, .int .i64 cut] w fun e w' => e = .returned (.bool true) ∧ w.grownBy w' none := by
  cases hh : hugeB l with
  | true => exact back_huge A c l cut w hr hs hh
  | false =>
    have hl : l.length ≤ 300 := by
      have := of_decide_eq_false hh
      omega
    cases hu : l.any unf with
    | true => exact back_unfit A c l cut w hr hs hh hl hu
    | false =>
      by_cases hc : cut < 0 ∨ ((syB ((inter [⟨#[]⟩] l).1.drop 1)).length : Int) < cut
      · exact back_out A c l cut w hr hs hh hl hu hc
      · obtain ⟨k, rfl⟩ := Int.eq_ofNat_of_zero_le (show 0 ≤ cut by omega)
        exact back_main A c l k w hr hs hh hl hu (by omega)

set_option maxRecDepth 100000 in
theorem lawBack_lifted (os : Os) (started : os.Started) (H : Type) (enc : TypeId × Value → H) :
    ReturnsInHanded {} Try.checked os 4 .any (Rows.symtabBackSpec.pre6 enc Try.prog Try.f4 Rows.symtabBackRow.domain false) (Rows.symtabBackSpec.post enc Try.prog Try.f4 false true false false) := by
  refine returnsInHanded_of_change_sized (C := Try.checked) Try.own started (by kernel_rfl) Try.func4
    (ChangeSpec.witness6 (enc := enc) (C := Try.checked) false ⟨#[], #[.slice none 0 0, .int .i64 0], []⟩ 8 (by kernel_rfl) (by kernel_rfl) (by kernel_rfl) (by kernel_rfl)) ?_
  intro W base args ds gs before hval0 hW _ hsz0 _
  have hval : ∀ (j : Nat) t v, Try.f4.params[j]? = some t → args[j]? = some v → Value.okWide Try.prog W .any base t v := hval0
  have hW' := hW
  obtain ⟨p, q, hA0, hV, _, _, _⟩ := hW
  have hA : DataW.TrodAll enc Try.prog W 0 (fun _ => true) true Try.f4.params.toList args.toList ds p := hA0
  have hsz : (DataW.weightsEach Try.prog (Try.f4.params.toList ++ Rows.symtabBackSpec.plain.varTypes Try.prog) (ds ++ gs)).all (· ≤ reachBytes) = true := hsz0
  rw [Try.params4] at hA hval hsz
  obtain ⟨v0, v1, d0, d1, p0, p1, rfl, rfl, _, t0, t1⟩ := trodAll_two hA
  obtain ⟨rfl, rfl⟩ := trodVars_none hV
  simp only [List.cons_append, List.nil_append, List.append_nil, DataW.weightsEach, List.all_append, Bool.and_eq_true, List.all_eq_true, decide_eq_true_eq] at hsz
  obtain ⟨A, c, l, rfl, h1, h1m, hr, hs⟩ := open_strs (hval 0 _ _ rfl rfl) t0 hsz.1
  obtain ⟨a, rfl, rfl, rfl, _⟩ := open_int Try.underlying3 (hval 1 _ _ rfl rfl) t1
  have hwalk := back_any A c l a W hr (fun s h => Nat.le_trans (hs s h) reach_le)
  refine hwalk.mono fun e W' ⟨he, hg⟩ => ⟨_, he, post_law hW' rfl ?_ rfl rfl (gb_below hg (Nat.le_refl _) (by simp))⟩
  intro t ht
  rw [Try.params4] at ht
  simp only [List.mem_cons, List.not_mem_nil, or_false] at ht
  rcases ht with rfl | rfl <;> exact ⟨by kernel_rfl, of_decide_eq_true (by kernel_rfl)⟩

theorem symtabBack_holds : Rows.SymtabBackSaid :=
  OpenClaim.holds_of_wide 4 Try.f4 rfl rfl rfl rfl rfl rfl rfl ⟨rfl, rfl, rfl, rfl, rfl⟩ rfl rfl rfl rfl rfl (by kernel_rfl) Try.func4 (by kernel_rfl)
    (of_decide_eq_true (by kernel_rfl)) (by unfold Func.isWrapper; first | (rw [if_pos (by decide +kernel)]; kernel_rfl) | (rw [if_neg (by decide +kernel)]; exact ⟨rfl, rfl⟩))
    (fun os started H enc _ => lawBack_lifted os started H enc)

end Go.Proofs.Ytgilkaaholkgfaa
