/-
  PROVED: what Clone, At and Of answer shares nothing with what was handed in: where it is written into, what was handed in reads as it did (P3.9); the law returns true and leaves its arguments as they were. Condition: what the law reads is of bulk at most 1048576.
-/
import Derived.Test.YtniliccobkhnlaaXa
import Derived.Test.YtniliccobkhnlaaWo
namespace Go.Proofs.Ytniliccobkhnlaa
open Go.RowKit Go.ChangeShapes Go.WideShapes Go.ChangeAt

section
variable {H : Type} {enc : TypeId × Value → H}
set_option maxRecDepth 100000 in
/-- An argument of type V. -/
theorem open_v {W : World} {base : Nat} {v0 : Value} {d : DataW H} {p : List MemPlace} (hv : Value.okWide Try.prog W .any base 26 v0) (h : DataW.Trod enc Try.prog W 0 (fun _ => true) true 26 v0 d p) :
    ∃ (v : Vl) (nA : Option Addr) (nc : Nat) (sA : Option Addr) (sc : Nat) (lA : Option Addr) (lc : Nat), v0 = .agg #[.int .i64 v.t, .slice nA v.n.length nc, .slice sA v.s.length sc, .slice lA v.l.length lc] ∧ VB W W.heap.size v nA nc sA sc lA lc ∧ v.tot ≤ Rows.uptoBulk d := by
  obtain ⟨cs, rfl, hsz⟩ := okWide_struct Try.underlying26 hv
  obtain ⟨fuel, hf⟩ := h
  obtain ⟨v, hv1, hv2⟩ := vat_of_trod fuel cs.toList (d, p) (by rw [Array.length_toList, hsz, Try.cellsV]) hf
  obtain ⟨nA, nc, sA, sc, lA, lc, hcs, hvb⟩ := hv1.parts
  refine ⟨v, nA, nc, sA, sc, lA, lc, ?_, hvb, hv2⟩
  have e : cs = #[.int .i64 v.t, .slice nA v.n.length nc, .slice sA v.s.length sc, .slice lA v.l.length lc] := by
    rw [← Array.toList_inj]
    exact hcs
  rw [e]
end

set_option maxRecDepth 100000 in
theorem lawApart_lifted (os : Os) (started : os.Started) (H : Type) (enc : TypeId × Value → H) (F : Stop.Interp) :
    ReturnsInHanded {} Try.checked os 6 .any ((Rows.OpenSpec.upto Rows.valueApartSpec).pre6 enc Try.prog Try.f6 Rows.valueApartUptoRow.domain false) (((Rows.OpenSpec.upto Rows.valueApartSpec).at F).post enc Try.prog Try.f6 false true false false) := by
  refine returnsInHanded_of_cond (C := Try.checked) (s := Rows.OpenSpec.upto Rows.valueApartSpec) (k := Rows.uptoSmall) rfl Try.own started (by kernel_rfl) Try.func6
    (OpenSpec.witness (enc := enc) (C := Try.checked) (s := Rows.OpenSpec.upto Rows.valueApartSpec) (k := Rows.uptoSmall) rfl false ⟨#[], #[.agg #[.int .i64 0, .slice none 0 0, .slice none 0 0, .slice none 0 0], .int .i64 0], []⟩ 8 (by kernel_rfl) (by kernel_rfl) (by kernel_rfl)
      (x := ([.agg [.lit (.int .i64 0), .nil, .nil, .nil], .lit (.int .i64 0)], [], [])) (by kernel_rfl) rfl (by kernel_rfl)) ?_
  intro W base args ds gs before hval0 hW _ hk _
  have hval : ∀ (j : Nat) t v, Try.f6.params[j]? = some t → args[j]? = some v → Value.okWide Try.prog W .any base t v := hval0
  have hW' := hW
  obtain ⟨p, q, hA0, hV, _, _, _⟩ := hW
  have hA : DataW.TrodAll enc Try.prog W 0 (fun _ => true) true Try.f6.params.toList args.toList ds p := hA0
  rw [Try.params6] at hA hval
  obtain ⟨v0, v1, d0, d1, p0, p1, rfl, rfl, _, t0, t1⟩ := trodAll_two hA
  obtain ⟨rfl, rfl⟩ := trodVars_none hV
  have hb := of_decide_eq_true hk
  simp only [List.append_nil, Rows.uptoBulkAll] at hb
  obtain ⟨v, nA, nc, sA, sc, lA, lc, rfl, hvb, hvt⟩ := open_v (hval 0 _ _ rfl rfl) t0
  obtain ⟨i, rfl, rfl, rfl, _⟩ := open_int Try.underlying3 (hval 1 _ _ rfl rfl) t1
  refine (apart_any v i W nA nc sA sc lA lc (by omega) hvb).mono fun e W' ⟨he, hg⟩ => ⟨_, he, post_law hW' rfl ?_ rfl rfl (gb_below hg (Nat.le_refl _) (by simp))⟩
  intro t ht
  rw [Try.params6] at ht
  simp only [List.mem_cons, List.not_mem_nil, or_false] at ht
  rcases ht with rfl | rfl <;> exact ⟨by kernel_rfl, of_decide_eq_true (by kernel_rfl)⟩

theorem valueApart_holds : Rows.ValueApartUptoSaid :=
  OpenClaim.holds_of_cond 6 Try.f6 rfl rfl rfl rfl rfl rfl rfl ⟨rfl, rfl, rfl, rfl, rfl⟩ rfl rfl rfl rfl rfl (by kernel_rfl) Try.func6 (by kernel_rfl)
    (of_decide_eq_true (by kernel_rfl)) (by unfold Func.isWrapper; first | (rw [if_pos (by decide +kernel)]; kernel_rfl) | (rw [if_neg (by decide +kernel)]; exact ⟨rfl, rfl⟩))
    (fun os started H enc _ F => lawApart_lifted os started H enc F)
end Go.Proofs.Ytniliccobkhnlaa
