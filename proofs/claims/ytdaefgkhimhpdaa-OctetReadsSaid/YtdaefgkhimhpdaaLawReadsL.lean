/-
  PROVED: for all bytes and every list of readings of them (numbers, ints, bytes, texts, counts, failures): a Reader of octet answers, stands and tells its error just as the document's does, and reads the bytes as they were when it was made (P1.5 to P1.7); the law returns true and leaves its arguments as they were. No condition.
-/
import Derived.Test.YtdaefgkhimhpdaaLawReads
namespace Go.Proofs.Ytdaefgkhimhpdaa
open Go.RowKit Go.ChangeShapes Go.WideShapes Go.ChangeAt

theorem stepCells_length (l : List (Int × Int)) : (stepCells l).length = l.length * 2 := by
  induction l with
  | nil => rfl
  | cons a l ih =>
    have e : stepCells (a :: l) = .int .i64 a.1 :: .int .i64 a.2 :: stepCells l := rfl
    rw [e]
    simp only [List.length_cons, ih]
    omega
theorem Try.cellsStep : Try.prog.cellsOf 62 = 2 := by kernel_rfl
theorem Try.cellsInt : Try.prog.cellsOf 3 = 1 := by kernel_rfl

section
variable {H : Type} {enc : TypeId × Value → H}
/-- An argument []Step. -/
theorem open_steps {W : World} {base : Nat} {v : Value} {d : DataW H} {p : List MemPlace} (hv : Value.okWide Try.prog W .any base 56 v) (h : DataW.Trod enc Try.prog W 0 (fun _ => true) true 56 v d p) :
    ∃ (A : Option Addr) (c : Nat) (l : List (Int × Int)), v = .slice A l.length c ∧ l.length ≤ c ∧ c ≤ maxLen ∧ Rd W W.heap.size A (stepCells l) ∧ ∀ s ∈ l, I64 s.1 ∧ I64 s.2 := by
  obtain ⟨a0, len, cap, rfl⟩ := okWide_slice Try.underlying56 hv
  obtain ⟨fuel, hf⟩ := h
  rcases Go.Deep.open_slice_pairs Try.underlying56 Try.underlying62 Try.cellsStep rfl rfl Try.cellsInt Try.cellsInt hf with ⟨hcs, _⟩ | ⟨a, len', cap', m, n, V0, V1, D0, D1, P0, P1, hcs, _, hl, hm, hmm, _, hc⟩
  · simp only [Value.cells, List.cons.injEq, and_true, Value.slice.injEq] at hcs
    obtain ⟨rfl, rfl, rfl⟩ := hcs
    exact ⟨none, 0, [], rfl, Nat.le_refl _, Nat.zero_le _, Rd.nil_, by simp⟩
  · simp only [Value.cells, List.cons.injEq, and_true, Value.slice.injEq] at hcs
    obtain ⟨rfl, rfl, rfl⟩ := hcs
    simp only [if_true] at hmm
    subst hmm
    have each : ∀ i, i < len → ∃ s : Int × Int, W.cell? (a.add (i * 2)) = some (.int .i64 s.1) ∧ W.cell? (a.add (i * 2 + 1)) = some (.int .i64 s.2) ∧ I64 s.1 ∧ I64 s.2 := by
      intro i hi
      obtain ⟨c0, c1, t0, t1⟩ := hc i (by omega)
      obtain ⟨k0, e0, _, w0⟩ := DataW.trod_int Try.underlying3 t0
      obtain ⟨k1, e1, _, w1⟩ := DataW.trod_int Try.underlying3 t1
      simp only [List.cons.injEq, and_true] at e0 e1
      exact ⟨(k0, k1), by rw [c0, e0], by rw [c1, e1], i64_wf w0, i64_wf w1⟩
    obtain ⟨s, hs⟩ := Go.Deep.choose_lt each
    refine ⟨some a, _, (List.range len).map s, by simp, by simpa using hl, hm, ?_, ?_⟩
    · intro hn
      have h0 : 0 < len := by
        rcases Nat.eq_zero_or_pos len with h | h
        · subst h; simp [stepCells] at hn
        · exact h
      refine ⟨a, rfl, ?_, fun j u hu => ?_⟩
      · have := World.block_lt_of_cell? W _ (hs 0 h0).1
        rwa [add_block] at this
      · have hlen : (stepCells ((List.range len).map s)).length = len * 2 := by
          rw [stepCells_length]; simp
        have hj : j < len * 2 := by
          have := (List.getElem?_eq_some_iff.1 hu).1
          omega
        have hk : j / 2 < ((List.range len).map s).length := by simp; omega
        have ha := stepCells_at ((List.range len).map s) (j / 2) hk
        have hg : ((List.range len).map s)[j / 2] = s (j / 2) := by simp
        rw [hg] at ha
        rcases Nat.mod_two_eq_zero_or_one j with hm2 | hm2
        · have hjj : j / 2 * 2 = j := by omega
          rw [hjj] at ha
          have := (hs (j / 2) (by omega)).1
          rw [hjj] at this
          rw [this, ← hu, ha.1]
        · have hjj : j / 2 * 2 + 1 = j := by omega
          rw [hjj] at ha
          have := (hs (j / 2) (by omega)).2.1
          rw [hjj] at this
          rw [this, ← hu, ha.2]
    · intro x hx
      obtain ⟨i, hi, rfl⟩ := List.mem_map.1 hx
      exact (hs i (List.mem_range.1 hi)).2.2
end

set_option maxHeartbeats 2000000 in
set_option maxRecDepth 100000 in
theorem reads_live (A AL : Option Addr) (c cl n m : Nat) (w : World) (hn : n ≤ maxLen) (hm : m ≤ maxLen) (h : 20000 < n ∨ 60 < m) :
    Calls Try.prog 5 #[.slice A n c, .slice AL m cl] w fun e w' => e = .returned (.bool true) ∧ w.grownBy w' none := by
  have LV := hide live_any
  unfold maxLen at hn hm
  by_cases h1 : 20000 < n
  · clear h
    go_enter Try.func5, Try.ntmps5
    go_wp2_with (go_at_call 10; refine (LV.out _).mono ?_; rintro e w1 ⟨rfl, hg⟩)
    go_ret
    exact ⟨rfl, hg⟩
  · have h2 : 60 < m := by omega
    clear h
    go_enter Try.func5, Try.ntmps5
    go_wp2_with (go_at_call 10; refine (LV.out _).mono ?_; rintro e w1 ⟨rfl, hg⟩)
    go_ret
    exact ⟨rfl, hg⟩

set_option maxRecDepth 100000 in
theorem lawReads_lifted (os : Os) (started : os.Started) (H : Type) (enc : TypeId × Value → H) :
    ReturnsInHanded {} Try.checked os 5 .any (Rows.octetReadsSpec.pre6 enc Try.prog Try.f5 Rows.octetReadsRow.domain false) (Rows.octetReadsSpec.post enc Try.prog Try.f5 false true false false) := by
  refine returnsInHanded_of_change_sized (C := Try.checked) Try.own started (by kernel_rfl) Try.func5
    (ChangeSpec.witness6 (enc := enc) (C := Try.checked) false ⟨#[], #[.slice none 0 0, .slice none 0 0], []⟩ 8 (by kernel_rfl) (by kernel_rfl) (by kernel_rfl) (by kernel_rfl)) ?_
  intro W base args ds gs before hval0 hW _ hsz0 _
  have hval : ∀ (j : Nat) t v, Try.f5.params[j]? = some t → args[j]? = some v → Value.okWide Try.prog W .any base t v := hval0
  have hW' := hW
  obtain ⟨p, q, hA0, hV, _, _, _⟩ := hW
  have hA : DataW.TrodAll enc Try.prog W 0 (fun _ => true) true Try.f5.params.toList args.toList ds p := hA0
  have hsz : (DataW.weightsEach Try.prog (Try.f5.params.toList ++ Rows.octetReadsSpec.plain.varTypes Try.prog) (ds ++ gs)).all (· ≤ reachBytes) = true := hsz0
  rw [Try.params5] at hA hval hsz
  obtain ⟨v0, v1, d0, d1, p0, p1, rfl, rfl, _, t0, t1⟩ := trodAll_two hA
  obtain ⟨rfl, rfl⟩ := trodVars_none hV
  simp only [List.cons_append, List.nil_append, List.append_nil, DataW.weightsEach, List.all_append, Bool.and_eq_true, List.all_eq_true, decide_eq_true_eq] at hsz
  obtain ⟨A, c, bs, rfl, hbc, hcm, hb⟩ := open_u8 (hval 0 _ _ rfl rfl) t0
  obtain ⟨AL, cl, l, rfl, h1, h1m, hl, hI⟩ := open_steps (hval 1 _ _ rfl rfl) t1
  have hwalk : Calls Try.prog 5 #[.slice A bs.length c, .slice AL l.length cl] W fun e w' => e = .returned (.bool true) ∧ W.grownBy w' none := by
    by_cases hh : 20000 < bs.length ∨ 60 < l.length
    · exact reads_live A AL c cl bs.length l.length W (Nat.le_trans hbc hcm) (Nat.le_trans h1 h1m) hh
    · exact reads_main A AL c cl bs l W hb hl hI (by omega) (by omega)
  refine hwalk.mono fun e W' ⟨he, hg⟩ => ⟨_, he, post_law hW' rfl ?_ rfl rfl (gb_below hg (Nat.le_refl _) (by simp))⟩
  intro t ht
  rw [Try.params5] at ht
  simp only [List.mem_cons, List.not_mem_nil, or_false] at ht
  rcases ht with rfl | rfl <;> exact ⟨by kernel_rfl, of_decide_eq_true (by kernel_rfl)⟩

theorem octetReads_holds : Rows.OctetReadsSaid :=
  OpenClaim.holds_of_wide 5 Try.f5 rfl rfl rfl rfl rfl rfl rfl ⟨rfl, rfl, rfl, rfl, rfl⟩ rfl rfl rfl rfl rfl (by kernel_rfl) Try.func5 (by kernel_rfl)
    (of_decide_eq_true (by kernel_rfl)) (by unfold Func.isWrapper; first | (rw [if_pos (by decide +kernel)]; kernel_rfl) | (rw [if_neg (by decide +kernel)]; exact ⟨rfl, rfl⟩))
    (fun os started H enc _ => lawReads_lifted os started H enc)

end Go.Proofs.Ytdaefgkhimhpdaa
