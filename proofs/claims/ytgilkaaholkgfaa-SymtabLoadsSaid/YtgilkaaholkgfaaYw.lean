/-
  PROVED: every bytes are read as a table, or refused, as the document says, and what the table tells is what the document's tells (P5.2); the law returns true and leaves its arguments as they were. No condition.
-/
import Derived.Test.YtgilkaaholkgfaaYv
import Derived.Test.YtgilkaaholkgfaaYx
import Derived.Test.YtgilkaaholkgfaaRow
namespace Go.Proofs.Ytgilkaaholkgfaa
open Go.RowKit Go.ChangeShapes Go.WideShapes Go.ChangeAt
open Go.ChangeMaps (open_string shut_string)

theorem loads_any (A : Option Addr) (c : Nat) (bs : List UInt8) (s : ByteArray) (i : Int) (w : World) (hr : Rd w w.heap.size A (u8s bs)) (hc : bs.length ≤ c) (hm : c ≤ maxLen) :
    Calls Try.prog 3 #[.slice A bs.length c, .string s, .int .i64 i] w fun e w' => e = .returned (.bool true) ∧ w.grownBy w' none := by
  by_cases hh : 20000 < bs.length ∨ 20000 < s.size
  · exact loads_live A bs.length c s i w hh
  · exact loads_main tells_ok A c bs s i w hr hc hm (by omega) (by omega)

set_option maxRecDepth 100000 in
theorem lawLoads_lifted (os : Os) (started : os.Started) (H : Type) (enc : TypeId × Value → H) :
    ReturnsInHanded {} Try.checked os 3 .any (Rows.symtabLoadsSpec.pre6 enc Try.prog Try.f3 Rows.symtabLoadsRow.domain false) (Rows.symtabLoadsSpec.post enc Try.prog Try.f3 false true false false) := by
  refine returnsInHanded_of_change (C := Try.checked) Try.own started (by kernel_rfl) Try.func3
    (ChangeSpec.witness6 (enc := enc) (C := Try.checked) false ⟨#[], #[.slice none 0 0, .string ⟨#[]⟩, .int .i64 0], []⟩ 8 (by kernel_rfl) (by kernel_rfl) (by kernel_rfl) (by kernel_rfl)) ?_
  intro W base args ds gs before hval0 hW _ _
  have hval : ∀ (j : Nat) t v, Try.f3.params[j]? = some t → args[j]? = some v → Value.okWide Try.prog W .any base t v := hval0
  have hW' := hW
  obtain ⟨p, q, hA0, hV, _, _, _⟩ := hW
  have hA : DataW.TrodAll enc Try.prog W 0 (fun _ => true) true Try.f3.params.toList args.toList ds p := hA0
  rw [Try.params3] at hA hval
  obtain ⟨v0, v1, v2, d0, d1, d2, p0, p1, p2, rfl, rfl, _, t0, t1, t2⟩ := trodAll_three hA
  obtain ⟨rfl, rfl⟩ := trodVars_none hV
  obtain ⟨A, c, bs, rfl, h1, h1m, hb⟩ := open_u8 (hval 0 _ _ rfl rfl) t0
  obtain ⟨s, rfl, rfl, rfl, _⟩ := open_string Try.underlying9 (hval 1 _ _ rfl rfl) t1
  obtain ⟨i, rfl, rfl, rfl, _⟩ := open_int Try.underlying3 (hval 2 _ _ rfl rfl) t2
  refine (loads_any A c bs s i W hb h1 h1m).mono fun e W' ⟨he, hg⟩ => ⟨_, he, post_law hW' rfl ?_ rfl rfl (gb_below hg (Nat.le_refl _) (by simp))⟩
  intro t ht
  rw [Try.params3] at ht
  simp only [List.mem_cons, List.not_mem_nil, or_false] at ht
  rcases ht with rfl | rfl | rfl <;> exact ⟨by kernel_rfl, of_decide_eq_true (by kernel_rfl)⟩

theorem symtabLoads_holds : Rows.SymtabLoadsSaid :=
  OpenClaim.holds_of_wide 3 Try.f3 rfl rfl rfl rfl rfl rfl rfl ⟨rfl, rfl, rfl, rfl, rfl⟩ rfl rfl rfl rfl rfl (by kernel_rfl) Try.func3 (by kernel_rfl)
    (of_decide_eq_true (by kernel_rfl)) (by unfold Func.isWrapper; first | (rw [if_pos (by decide +kernel)]; kernel_rfl) | (rw [if_neg (by decide +kernel)]; exact ⟨rfl, rfl⟩))
    (fun os started H enc _ => lawLoads_lifted os started H enc)

end Go.Proofs.Ytgilkaaholkgfaa
