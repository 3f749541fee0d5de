/-
  The statement VecJoins, where what it reads is of bulk at most 1048576: it tells true of all values; the input reads as it did.
-/
import Derived.Test.YtkbflmaflokpdaaGreatQJw
import Derived.Test.YtkbflmaflokpdaaGreatQWo

namespace Go.Proofs.YtkbflmaflokpdaaGreat
open Go.RowKit Go.ChangeShapes Go.WideShapes Go.ChangeAt

set_option maxRecDepth 100000 in
/-- An argument of type []V. -/
theorem open_vs {H : Type} {enc : TypeId × Value → H} {W : World} {base : Nat} {v0 : Value} {d : DataW H} {p : List MemPlace} (hv : Value.okWide Tryz.prog W .any base 24 v0) (h : DataW.Trod enc Tryz.prog W 0 (fun _ => true) true 24 v0 d p) :
    ∃ (A : Option Addr) (c : Nat) (l : List Vl), v0 = .slice A l.length c ∧ RdV W W.heap.size A l ∧ Vl.tots l ≤ Rows.uptoBulk d := by
  obtain ⟨a0, len0, cap0, rfl⟩ := okWide_slice Tryz.underlying24 hv
  obtain ⟨fuel, hf⟩ := h
  rcases DataW.trod_slice Tryz.underlying24 hf with ⟨hcs, h2⟩ | ⟨a, len, cap, elems, rest, m, hm, hcs, h2, _, hlc, _, hel, heach, _⟩
  · have hcs' : [Value.slice a0 len0 cap0] = [Value.slice none 0 0] := hcs
    simp only [List.cons.injEq, and_true] at hcs'
    rw [hcs']
    exact ⟨none, 0, [], rfl, RdV.nil_, by simp [Vl.tots]⟩
  · have hcs' : [Value.slice a0 len0 cap0] = [Value.slice (some a) len cap] := hcs
    simp only [List.cons.injEq, and_true] at hcs'
    rw [hcs']
    rw [Tryz.cellsV] at heach
    have each : ∀ i, i < len → ∃ s : Vl × List Value, (s.2.length = 4 ∧ (∀ k u, s.2[k]? = some u → W.cell? (a.add (i * 4 + k)) = some u) ∧ VAt W W.heap.size s.1 s.2) ∧ s.1.tot ≤ Rows.uptoBulk ((elems.map (·.1)).getD i .nil) := by
      intro i hi
      have h := heach i hi
      have hie : i < elems.length := by omega
      rw [List.getElem?_eq_getElem hie, Option.bind_eq_some_iff] at h
      obtain ⟨cs', g1, g2⟩ := h
      obtain ⟨_, hlen', hcell⟩ := World.cells?_some g1
      obtain ⟨v, hv1, hv2⟩ := vat_of_trod m cs' _ (by omega) g2
      refine ⟨(v, cs'), ⟨by omega, fun k u hu => ?_, hv1⟩, ?_⟩
      · have hk : k < cs'.length := (List.getElem?_eq_some_iff.1 hu).1
        have := hcell k (by omega)
        rw [Go.Deep.add_add] at this
        rw [this, hu]
      · simp [List.getD, hie]
        exact hv2
    obtain ⟨s, hs⟩ := Go.Deep.choose_lt each
    refine ⟨some a, cap, (List.range len).map fun i => (s i).1, by simp, rdv_of fun i hi => (hs i hi).1, ?_⟩
    have h1 := tots_le (fun i hi => (hs i hi).2)
    have e : (List.range len).map (fun i => (elems.map (·.1)).getD i .nil) = elems.map (·.1) := by
      apply List.ext_getElem
      · simp [hel]
      · intro i g1 g2
        have : i < elems.length := by simpa using g2
        simp [List.getD, this]
    rw [e] at h1
    simp only [Prod.mk.injEq] at h2
    rw [h2.1]
    simp only [Rows.uptoBulk]
    omega
set_option maxRecDepth 100000 in
theorem lawJoins_lifted (os : Os) (started : os.Started) (H : Type) (enc : TypeId × Value → H) (F : Stop.Interp) :
    ReturnsInHanded {} Tryz.checked os 4 .any ((Rows.OpenSpec.upto Rows.vecJoinsSpec).pre6 enc Tryz.prog Tryz.f4 Rows.vecJoinsUptoRow.domain false) (((Rows.OpenSpec.upto Rows.vecJoinsSpec).at F).post enc Tryz.prog Tryz.f4 false true false false) := by
  refine returnsInHanded_of_cond (C := Tryz.checked) (s := Rows.OpenSpec.upto Rows.vecJoinsSpec) (k := Rows.uptoSmall) rfl Tryz.own started (by kernel_rfl) Tryz.func4
    (OpenSpec.witness (enc := enc) (C := Tryz.checked) (s := Rows.OpenSpec.upto Rows.vecJoinsSpec) (k := Rows.uptoSmall) rfl false ⟨#[], #[.slice none 0 0], []⟩ 8 (by kernel_rfl) (by kernel_rfl) (by kernel_rfl)
      (x := ([.nil], [], [])) (by kernel_rfl) rfl (by kernel_rfl)) ?_
  intro W base args ds gs before hval0 hW _ hk _
  have hval : ∀ (j : Nat) t v, Tryz.f4.params[j]? = some t → args[j]? = some v → Value.okWide Tryz.prog W .any base t v := hval0
  have hW' := hW
  obtain ⟨p, q, hA0, hV, _, _, _⟩ := hW
  have hA : DataW.TrodAll enc Tryz.prog W 0 (fun _ => true) true Tryz.f4.params.toList args.toList ds p := hA0
  rw [Tryz.params4] at hA hval
  obtain ⟨v0, d0, rfl, rfl, t0⟩ := trodAll_one hA
  obtain ⟨rfl, rfl⟩ := trodVars_none hV
  have hb := of_decide_eq_true hk
  simp only [List.append_nil, Rows.uptoBulkAll] at hb
  obtain ⟨A, c, l, rfl, hrd, hlt⟩ := open_vs (hval 0 _ _ rfl rfl) t0
  refine (joins_any l W A c (by omega) hrd).mono fun e W' ⟨he, hg⟩ => ⟨_, he, post_law hW' rfl ?_ rfl rfl (gb_below hg (Nat.le_refl _) (by simp))⟩
  intro t ht
  rw [Tryz.params4] at ht
  simp only [List.mem_cons, List.not_mem_nil, or_false] at ht
  rcases ht with rfl
  exact ⟨by kernel_rfl, of_decide_eq_true (by kernel_rfl)⟩

theorem vecJoins_holds : Rows.VecJoinsUptoSaid :=
  OpenClaim.holds_of_cond 4 Tryz.f4 rfl rfl rfl rfl rfl rfl rfl ⟨rfl, rfl, rfl, rfl, rfl⟩ rfl rfl rfl rfl rfl (by kernel_rfl) Tryz.func4 (by kernel_rfl)
    (of_decide_eq_true (by kernel_rfl)) (by unfold Func.isWrapper; first | (rw [if_pos (by decide +kernel)]; kernel_rfl) | (rw [if_neg (by decide +kernel)]; exact ⟨rfl, rfl⟩))
    (fun os started H enc _ F => lawJoins_lifted os started H enc F)
end Go.Proofs.YtkbflmaflokpdaaGreat
