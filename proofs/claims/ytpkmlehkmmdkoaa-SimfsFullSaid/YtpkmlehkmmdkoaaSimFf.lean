/-
  SimfsFull: its arguments opened.
-/
import Derived.Test.YtpkmlehkmmdkoaaSimX
import Derived.Test.YtpkmlehkmmdkoaaSimFc
namespace Go.Proofs.Ytpkmlehkmmdkoaa
open Go.RowKit Go.ChangeShapes Go.WideShapes Go.ChangeAt

theorem Try.cellsAct : Try.prog.cellsOf 54 = 9 := by kernel_rfl
theorem Try.cellsStr : Try.prog.cellsOf 9 = 1 := by kernel_rfl
theorem Try.bytesTorn : Try.prog.bytesOf 65 = 24 := by kernel_rfl

section
variable {H : Type} {enc : TypeId × Value → H} {P : Program} {w : World} {base : Nat} {spare : Nat → Bool} {held : Bool}
theorem trod_struct8 {t : TypeId} {f0 f1 f2 f3 f4 f5 f6 f7 : Field} {fuel : Nat} {cs : List Value} {x : DataW H × List MemPlace} (ht : P.underlying t = some (.struct #[f0, f1, f2, f3, f4, f5, f6, f7])) (h : DataW.trod enc P w base spare held fuel t cs = some x) :
    ∃ y0 y1 y2 y3 y4 y5 y6 y7 n, x.1 = .agg [y0.1, y1.1, y2.1, y3.1, y4.1, y5.1, y6.1, y7.1] ∧ cs.length = P.cellsOf t ∧ DataW.trod enc P w base spare held n f0.type ((cs.drop f0.offset).take (P.cellsOf f0.type)) = some y0 ∧
      DataW.trod enc P w base spare held n f1.type ((cs.drop f1.offset).take (P.cellsOf f1.type)) = some y1 ∧ DataW.trod enc P w base spare held n f2.type ((cs.drop f2.offset).take (P.cellsOf f2.type)) = some y2 ∧
      DataW.trod enc P w base spare held n f3.type ((cs.drop f3.offset).take (P.cellsOf f3.type)) = some y3 ∧ DataW.trod enc P w base spare held n f4.type ((cs.drop f4.offset).take (P.cellsOf f4.type)) = some y4 ∧
      DataW.trod enc P w base spare held n f5.type ((cs.drop f5.offset).take (P.cellsOf f5.type)) = some y5 ∧ DataW.trod enc P w base spare held n f6.type ((cs.drop f6.offset).take (P.cellsOf f6.type)) = some y6 ∧
      DataW.trod enc P w base spare held n f7.type ((cs.drop f7.offset).take (P.cellsOf f7.type)) = some y7 := by
  obtain ⟨xs, n, _, rfl, hl, hlen, hf⟩ := DataW.trod_struct ht h
  match xs, hlen with
  | [y0, y1, y2, y3, y4, y5, y6, y7], _ => exact ⟨y0, y1, y2, y3, y4, y5, y6, y7, n, by simp, hl, by simpa using hf 0 f0 rfl, by simpa using hf 1 f1 rfl, by simpa using hf 2 f2 rfl, by simpa using hf 3 f3 rfl, by simpa using hf 4 f4 rfl, by simpa using hf 5 f5 rfl, by simpa using hf 6 f6 rfl, by simpa using hf 7 f7 rfl⟩
end

section
variable {H : Type} {enc : TypeId × Value → H}
set_option maxRecDepth 100000 in
/-- A cell that reads as a []byte and takes at most the reach. -/
theorem u8_of_trodr {W : World} {v : Value} {n : Nat} {y : DataW H × List MemPlace} (hf : DataW.trod enc Try.prog W 0 (fun _ => true) true n 32 [v] = some y)
    (hsz : ∀ k ∈ y.1.weights Try.prog 32, k ≤ reachBytes) :
    ∃ (A : Option Addr) (c : Nat) (bs : List UInt8), v = .slice A bs.length c ∧ bs.length ≤ c ∧ c ≤ maxLen ∧ Rd W W.heap.size A (u8s bs) ∧ bs.length ≤ reachBytes := by
  obtain ⟨A, c, bs, rfl, h1, h2, h3⟩ := u8_of_trod hf
  refine ⟨A, c, bs, rfl, h1, h2, h3, ?_⟩
  rcases open_ints Try.underlying32 Try.underlying5 Try.cells8 hf with ⟨hcs, _⟩ | ⟨a, len', cap', zs, hcs, _, hl, hm, hz, hx, hcell, hwz⟩
  · simp only [List.cons.injEq, and_true, Value.slice.injEq] at hcs
    omega
  · simp only [List.cons.injEq, and_true, Value.slice.injEq] at hcs
    obtain ⟨rfl, hcs1, hcs2⟩ := hcs
    subst hx
    have hz' : zs.length = cap' := by simpa using hz
    have hw := hsz ((lits .u8 (zs.take len') : List (DataW H)).length + (lits .u8 (zs.drop len') : List (DataW H)).length) (by
      unfold DataW.weights
      rw [Try.underlying32]
      simp [Try.bytes8])
    simp [lits] at hw
    omega
/-- A cell that reads as a string. -/
theorem str_of_trodr {W : World} {v : Value} {n : Nat} {y : DataW H × List MemPlace} (hf : DataW.trod enc Try.prog W 0 (fun _ => true) true n 9 [v] = some y)
    (hsz : ∀ k ∈ y.1.weights Try.prog 9, k ≤ reachBytes) : ∃ s : ByteArray, v = .string s ∧ s.size ≤ reachBytes := by
  obtain ⟨s, hs, rfl, _⟩ := DataW.trod_string Try.underlying9 hf
  simp only [List.cons.injEq, and_true] at hs
  refine ⟨s, hs, ?_⟩
  have := hsz s.data.toList.length (by simp [DataW.weights])
  simpa using this
/-- A cell that reads as a []api.Torn: how many. -/
theorem torn_of_trodr {W : World} {v : Value} {n : Nat} {y : DataW H × List MemPlace} (hf : DataW.trod enc Try.prog W 0 (fun _ => true) true n 33 [v] = some y)
    (hsz : ∀ k ∈ y.1.weights Try.prog 33, k ≤ reachBytes) : ∃ A m c, v = .slice A m c ∧ m ≤ reachBytes := by
  rcases Go.Deep.open_slice Try.underlying33 hf with ⟨hcs, _⟩ | ⟨a, len, cap, m, n', D, Pl, hcs, hb, hl, hm, hmm, hx, _⟩
  · simp only [List.cons.injEq, and_true] at hcs
    exact ⟨_, _, _, hcs, Nat.zero_le _⟩
  · simp only [List.cons.injEq, and_true] at hcs
    refine ⟨_, _, _, hcs, ?_⟩
    subst hx
    have hw := hsz ((((List.range len).map D).length + ((List.range (m - len)).map fun j => D (len + j)).length) * 24) (by
      unfold DataW.weights
      rw [Try.underlying33]
      simp [Try.bytesTorn])
    simp at hw
    omega

theorem mem_weightsAll {t : TypeId} {l : List (DataW H)} {d : DataW H} {n : Nat} (hd : d ∈ l) (hn : n ∈ d.weights Try.prog t) : n ∈ DataW.weightsAll Try.prog t l := by
  induction l with
  | nil => cases hd
  | cons a l ih =>
    unfold DataW.weightsAll
    rw [List.mem_append]
    rcases List.mem_cons.1 hd with rfl | h
    · exact .inl hn
    · exact .inr (ih h)


instance : Inhabited AcV := ⟨⟨0, ⟨#[]⟩, ⟨#[]⟩, 0, 0, 0, none, 0, [], 0, none, 0, 0⟩⟩

set_option maxRecDepth 100000 in
/-- Nine cells that read as an act. -/
theorem act_of_trod {W : World} {cs : List Value} {n : Nat} {y : DataW H × List MemPlace} (hl : cs.length = 9) (hf : DataW.trod enc Try.prog W 0 (fun _ => true) true n 54 cs = some y)
    (hsz : ∀ k ∈ y.1.weights Try.prog 54, k ≤ reachBytes) : ∃ x : AcV, cs = x.cells ∧ Rd W W.heap.size x.dA (u8s x.d) ∧ x.Small := by
  obtain ⟨y0, y1, y2, y3, y4, y5, y6, y7, k, hy, _, h0, h1, h2, h3, h4, h5, h6, h7⟩ := trod_struct8 Try.underlying54 hf
  match cs, hl with
  | [v0, v1, v2, v3, v4, v5, v6, v7, v8], _ =>
    simp only [Try.cellsSl8, Try.cellsI, Try.cellsStr, Try.cellsWreck, List.drop_zero, List.drop_succ_cons, List.take_succ_cons, List.take_zero] at h0 h1 h2 h3 h4 h5 h6 h7
    obtain ⟨z0, z1, k', hz, _, g0, g1⟩ := trod_struct2 Try.underlying35 h7
    simp only [Try.cellsSlT, Try.cellsI, List.drop_zero, List.drop_succ_cons, List.take_succ_cons, List.take_zero] at g0 g1
    rw [hy] at hsz
    unfold DataW.weights at hsz
    rw [Try.underlying54] at hsz
    simp only [List.map_cons, List.map_nil, DataW.weightsEach, List.append_nil, List.mem_append] at hsz
    have w7 : ∀ k ∈ y7.1.weights Try.prog 35, k ≤ reachBytes := fun k hk => hsz k (by simp [hk])
    rw [hz] at w7
    unfold DataW.weights at w7
    rw [Try.underlying35] at w7
    simp only [List.map_cons, List.map_nil, DataW.weightsEach, List.append_nil, List.mem_append] at w7
    obtain ⟨e0, q0, _, _⟩ := DataW.trod_int Try.underlying3 h0
    obtain ⟨s1, rfl, t1⟩ := str_of_trodr h1 (fun k hk => hsz k (by simp [hk]))
    obtain ⟨s2, rfl, t2⟩ := str_of_trodr h2 (fun k hk => hsz k (by simp [hk]))
    obtain ⟨e3, q3, _, _⟩ := DataW.trod_int Try.underlying3 h3
    obtain ⟨e4, q4, _, _⟩ := DataW.trod_int Try.underlying3 h4
    obtain ⟨e5, q5, _, _⟩ := DataW.trod_int Try.underlying3 h5
    obtain ⟨A, c, bs, rfl, b1, b2, b3, b4⟩ := u8_of_trodr h6 (fun k hk => hsz k (by simp [hk]))
    obtain ⟨e7, q7, _, _⟩ := DataW.trod_int Try.underlying3 g0
    obtain ⟨A8, m8, c8, rfl, t8⟩ := torn_of_trodr g1 (fun k hk => w7 k (by simp [hk]))
    simp only [List.cons.injEq, and_true] at q0 q3 q4 q5 q7
    subst q0 q3 q4 q5 q7
    exact ⟨⟨e0, s1, s2, e3, e4, e5, A, c, bs, e7, A8, m8, c8⟩, rfl, b3, t1, t2, b4, t8⟩

set_option maxRecDepth 100000 in
/-- An argument []Act. -/
theorem open_acts {W : World} {base : Nat} {v : Value} {d : DataW H} {p : List MemPlace} (hv : Value.okWide Try.prog W .any base 22 v) (h : DataW.Trod enc Try.prog W 0 (fun _ => true) true 22 v d p)
    (hsz : ∀ n ∈ d.weights Try.prog 22, n ≤ reachBytes) :
    ∃ (A : Option Addr) (c : Nat) (l : List AcV), v = .slice A l.length c ∧ l.length ≤ 9223372036854775807 ∧ Rd W W.heap.size A (acells l) ∧ (∀ x ∈ l, Rd W W.heap.size x.dA (u8s x.d)) ∧ ∀ x ∈ l, x.Small := by
  obtain ⟨a0, len, cap, rfl⟩ := okWide_slice Try.underlying22 hv
  obtain ⟨fuel, hf⟩ := h
  rcases Go.Deep.open_slice Try.underlying22 hf with ⟨hcs, _⟩ | ⟨a, len', cap', m, n', D, Pl, hcs, hb, hl, hm, hmm, hx, hxx⟩
  · simp only [Value.cells, List.cons.injEq, and_true, Value.slice.injEq] at hcs
    obtain ⟨rfl, rfl, rfl⟩ := hcs
    exact ⟨none, 0, [], rfl, Nat.zero_le _, Rd.nil_, by simp, by simp⟩
  · simp only [Value.cells, List.cons.injEq, and_true, Value.slice.injEq] at hcs
    obtain ⟨rfl, rfl, rfl⟩ := hcs
    simp only [if_true] at hmm
    subst hmm
    simp only [Prod.mk.injEq] at hx
    obtain ⟨rfl, _⟩ := hx
    have each : ∀ i, i < len → ∃ x : AcV, (∀ k u, x.cells[k]? = some u → W.cell? (a.add (i * 9 + k)) = some u) ∧ Rd W W.heap.size x.dA (u8s x.d) ∧ x.Small := by
      intro i hi
      obtain ⟨cs', h1, h2⟩ := hxx i (by omega)
      rw [Try.cellsAct] at h1
      obtain ⟨_, hlen, hcell⟩ := World.cells?_some h1
      obtain ⟨x, rfl, hr, hs⟩ := act_of_trod (by omega) h2 (fun k hk => hsz k (by
        unfold DataW.weights
        rw [Try.underlying22]
        simp only [List.mem_cons, List.mem_append]
        exact .inr (.inl (mem_weightsAll (List.mem_map.2 ⟨i, List.mem_range.2 hi, rfl⟩) hk))))
      refine ⟨x, fun k u hu => ?_, hr, hs⟩
      have hk : k < 9 := (List.getElem?_eq_some_iff.1 hu).1
      have := hcell k (by omega)
      rw [Go.Deep.add_add] at this
      rw [this, hu]
    obtain ⟨s, hs⟩ := Go.Deep.choose_lt each
    refine ⟨some a, m, (List.range len).map s, by simp, by unfold maxLen at hm; simp; omega, ?_, ?_, ?_⟩
    · intro hn
      have h0 : 0 < len := by
        rcases Nat.eq_zero_or_pos len with h | h
        · subst h; simp [acells] at hn
        · exact h
      refine ⟨a, rfl, ?_, fun j u hu => ?_⟩
      · have := World.block_lt_of_cell? W _ ((hs 0 h0).1 0 _ rfl)
        rwa [add_block] at this
      · have hlen : ∀ l : List AcV, (acells l).length = l.length * 9 := by
          intro l
          induction l with
          | nil => rfl
          | cons x l ih =>
            have e : acells (x :: l) = x.cells ++ acells l := rfl
            rw [e, List.length_append, ih, List.length_cons, Nat.add_mul]
            have : x.cells.length = 9 := rfl
            omega
        have hj : j < len * 9 := by
          have := (List.getElem?_eq_some_iff.1 hu).1
          rw [hlen] at this
          simpa using this
        have hk : j / 9 < ((List.range len).map s).length := by simp; omega
        have ha := acells_at ((List.range len).map s) (j / 9) hk (j % 9) (by omega)
        have hg : ((List.range len).map s)[j / 9] = s (j / 9) := by simp
        rw [hg, show j / 9 * 9 + j % 9 = j by omega] at ha
        have := (hs (j / 9) (by omega)).1 (j % 9) u (by rw [← ha, hu])
        rwa [show j / 9 * 9 + j % 9 = j by omega] at this
    · intro x hx
      obtain ⟨i, hi, rfl⟩ := List.mem_map.1 hx
      exact (hs i (List.mem_range.1 hi)).2.1
    · intro x hx
      obtain ⟨i, hi, rfl⟩ := List.mem_map.1 hx
      exact (hs i (List.mem_range.1 hi)).2.2
end
end Go.Proofs.Ytpkmlehkmmdkoaa
