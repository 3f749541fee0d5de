/-
  PROVED: for every capacity and every two lists of acts: two file systems on which these acts were done are told as the same just if the document tells so, in either order, and each is the same as itself (P2.10); the law returns true and leaves its arguments as they were. No condition.
-/
import Derived.Test.YtccapgcpdehicaaRows
import Derived.Test.YtccapgcpdehicaaQaa
import Derived.ProofKit
import Derived.SizedLaws
import Derived.SliceStrings
import Derived.OpenShut
import Derived.Test.YtccapgcpdehicaaQao
import Derived.Deep.SlicePairs
import Derived.Deep.Strs
import Derived.Lib.SmallJoins
import Derived.Test.YtccapgcpdehicaaQaz
import Derived.Test.YtccapgcpdehicaaQbf

namespace Go.Proofs.Ytccapgcpdehicaa
open Go.RowKit Go.ChangeShapes Go.WideShapes Go.ChangeAt

theorem Try.own : ownKnob Try.prog.godebug = none := by kernel_rfl
theorem Try.laidOut : laidOutB Try.prog = true := by kernel_rfl

section
variable {H : Type} {enc : TypeId × Value → H}

theorem trodAll_below {W W' : World} (hb : Below W.heap.size W W') : ∀ (ts : List TypeId) (vs : List Value) (ds : List (DataW H)) (p : List MemPlace),
    (∀ t ∈ ts, Try.prog.readableRec t = true ∧ t < Try.prog.types.size) → DataW.TrodAll enc Try.prog W 0 (fun _ => true) true ts vs ds p → (∀ x ∈ p, x.block < W.heap.size) →
    DataW.TrodAll enc Try.prog W' 0 (fun b => decide (b < W.heap.size)) true ts vs ds p := by
  intro ts
  induction ts with
  | nil =>
    intro vs ds p _ h _
    cases vs with
    | nil =>
      cases ds with
      | nil => exact h
      | cons _ _ => simp [DataW.TrodAll] at h
    | cons _ _ => simp [DataW.TrodAll] at h
  | cons t ts ih =>
    intro vs ds p ht h hp
    cases vs with
    | nil => simp [DataW.TrodAll] at h
    | cons v vs =>
      cases ds with
      | nil => simp [DataW.TrodAll] at h
      | cons d ds =>
        obtain ⟨p1, q1, h1, h2, rfl⟩ := h
        have hh := ht t (by simp)
        exact ⟨p1, q1, Below.trod Try.laidOut hh.1 hh.2 h1 hb (fun x hx => hp x (by simp [hx])), ih vs ds q1 (fun t' h' => ht t' (by simp [h'])) h2 (fun x hx => hp x (by simp [hx])), rfl⟩

/-- The post of a law's row: it answered true, and nothing that was there has turned. -/
theorem post_law {f : Func} {s : ChangeSpec} {W W' : World} {args : Array Value} {ds gs : List (DataW H)} {before : List MemPlace}
    (hW : DataW.Whole enc Try.prog f.params.toList s.vars false W args.toList ds gs before) (hv : s.vars = [])
    (hpar : ∀ t ∈ f.params.toList, Try.prog.readableRec t = true ∧ t < Try.prog.types.size) (hres : f.resultTypes = #[4])
    (hs : s.fn H (ds ++ gs) = { results := [.lit (.bool true)], args := ds }) (hb : Below W.heap.size W W') :
    s.post enc Try.prog f false true false false W args (.bool true) W' := by
  have hW' := hW
  obtain ⟨p, q, hA, hV, rfl, hfz, hnd⟩ := hW
  rw [hv] at hV
  obtain ⟨rfl, rfl⟩ := trodVars_none hV
  have hlt : ∀ x ∈ p, x.block < W.heap.size := fun x hx => hW'.lt x (by simpa using hx)
  refine ⟨ds, [], p ++ [], [], p, [], hW', ?_, ?_, ?_, hb.frame _, fun h => by cases h⟩
  · rw [hs, hres]
    exact trodAll_mk1 (shut_bool Try.underlying4 true)
  · rw [hs]
    exact trodAll_below hb _ _ _ _ hpar hA hlt
  · rw [hs, hv]
    rfl

theorem Try.cells8 : Try.prog.cellsOf 5 = 1 := by kernel_rfl
theorem byte_wf {n : Int} (h : (Lit.int .u8 n).wf = true) : 0 ≤ n ∧ n ≤ 255 := by
  have h1 : IntKind.u8.min = 0 := rfl
  have h2 : IntKind.u8.max = 255 := rfl
  simp only [Lit.wf, Bool.and_eq_true, decide_eq_true_eq] at h
  omega
/-- Cells that hold the numbers of a list, and a slice's beginning of it. -/
theorem rd_of_ints {W : World} {a : Addr} {k : IntKind} {zs : List Int} {len : Nat} (hz : len ≤ zs.length) (hc : ∀ i, i < zs.length → W.cell? (a.add i) = some (.int k (zs.getD i 0))) :
    Rd W W.heap.size (some a) ((zs.take len).map (Value.int k)) := by
  intro hn
  have h0 : 0 < len := by
    rcases Nat.eq_zero_or_pos len with h | h
    · subst h; simp at hn
    · exact h
  refine ⟨a, rfl, ?_, fun j u hu => ?_⟩
  · have := World.block_lt_of_cell? W _ (hc 0 (by omega))
    rwa [add_block] at this
  · have hj : j < len := by
      have := (List.getElem?_eq_some_iff.1 hu).1
      simp at this; omega
    rw [hc j (by omega), ← hu]
    simp [List.getD, hj, show j < zs.length by omega]

theorem Try.bytes8 : Try.prog.bytesOf 5 = 1 := by kernel_rfl
end

end Go.Proofs.Ytccapgcpdehicaa

namespace Go.Proofs.Ytccapgcpdehicaa
open Go.RowKit Go.ChangeShapes Go.WideShapes Go.ChangeAt

theorem Try.cellsWreck : Try.prog.cellsOf 35 = 2 := by kernel_rfl
theorem Try.cellsTorn : Try.prog.cellsOf 50 = 3 := by kernel_rfl
theorem Try.cellsI : Try.prog.cellsOf 3 = 1 := by kernel_rfl
theorem Try.cellsSl8 : Try.prog.cellsOf 32 = 1 := by kernel_rfl
theorem Try.cellsSlT : Try.prog.cellsOf 33 = 1 := by kernel_rfl

section
variable {H : Type} {enc : TypeId × Value → H}
set_option maxRecDepth 100000 in
/-- A cell that reads as a []byte. -/
theorem u8_of_trod {W : World} {v : Value} {n : Nat} {y : DataW H × List MemPlace} (hf : DataW.trod enc Try.prog W 0 (fun _ => true) true n 32 [v] = some y) :
    ∃ (A : Option Addr) (c : Nat) (bs : List UInt8), v = .slice A bs.length c ∧ bs.length ≤ c ∧ c ≤ maxLen ∧ Rd W W.heap.size A (u8s bs) := by
  rcases open_ints Try.underlying32 Try.underlying5 Try.cells8 hf with ⟨hcs, _⟩ | ⟨a, len', cap', zs, hcs, _, hl, hm, hz, _, hcell, hwz⟩
  · simp only [List.cons.injEq, and_true] at hcs
    subst hcs
    exact ⟨none, 0, [], rfl, Nat.le_refl _, Nat.zero_le _, Rd.nil_⟩
  · simp only [List.cons.injEq, and_true] at hcs
    subst hcs
    have hz' : zs.length = cap' := by simpa using hz
    have hlen : ((zs.take len').map fun n => UInt8.ofNat n.toNat).length = len' := by simp; omega
    refine ⟨some a, cap', (zs.take len').map fun n => UInt8.ofNat n.toNat, by rw [hlen], by rw [hlen]; exact hl, hm, ?_⟩
    have hr := rd_of_ints (W := W) (a := a) (k := .u8) (zs := zs) (len := len') (by omega) hcell
    have e : u8s ((zs.take len').map fun n => UInt8.ofNat n.toNat) = (zs.take len').map (Value.int .u8) := by
      unfold u8s
      rw [List.map_map]
      apply List.map_congr_left
      intro n hn
      have hw := byte_wf (hwz n (List.mem_of_mem_take hn))
      simp only [Function.comp, Value.int.injEq, true_and, UInt8.toNat_ofNat']
      omega
    rw [e]
    exact hr
set_option maxRecDepth 100000 in
/-- A cell that reads as a []api.Torn. -/
theorem torn_of_trod {W : World} {v : Value} {n : Nat} {y : DataW H × List MemPlace} (hf : DataW.trod enc Try.prog W 0 (fun _ => true) true n 33 [v] = some y) :
    ∃ (A : Option Addr) (c : Nat) (tl : List Tn), v = .slice A tl.length c ∧ tl.length ≤ c ∧ c ≤ maxLen ∧ Rd W W.heap.size A (tcells tl) := by
  rcases Go.Deep.open_slice Try.underlying33 hf with ⟨hcs, _⟩ | ⟨a, len, cap, m, n', D, Pl, hcs, hb, hl, hm, hmm, _, hx⟩
  · simp only [List.cons.injEq, and_true] at hcs
    subst hcs
    exact ⟨none, 0, [], rfl, Nat.le_refl _, Nat.zero_le _, Rd.nil_⟩
  · simp only [List.cons.injEq, and_true] at hcs
    subst hcs
    simp only [if_true] at hmm
    subst hmm
    have each : ∀ i, i < len → ∃ t : Tn, W.cell? (a.add (i * 3)) = some (.int .i64 t.1) ∧ W.cell? (a.add (i * 3 + 1)) = some (.int .i64 t.2.1) ∧ W.cell? (a.add (i * 3 + 2)) = some (.int .i64 t.2.2) := by
      intro i hi
      obtain ⟨cs', h1, h2⟩ := hx i (by omega)
      rw [Try.cellsTorn] at h1
      obtain ⟨_, hlen, hcell⟩ := World.cells?_some h1
      obtain ⟨y0, y1, y2, k, _, _, g0, g1, g2⟩ := Go.Deep.trod_struct3 Try.underlying50 h2
      match cs', hlen with
      | [v0, v1, v2], _ =>
        simp only [Try.cellsI, List.drop_zero, List.drop_succ_cons, List.take_succ_cons, List.take_zero] at g0 g1 g2
        obtain ⟨k0, e0, _, _⟩ := DataW.trod_int Try.underlying3 g0
        obtain ⟨k1, e1, _, _⟩ := DataW.trod_int Try.underlying3 g1
        obtain ⟨k2, e2, _, _⟩ := DataW.trod_int Try.underlying3 g2
        simp only [List.cons.injEq, and_true] at e0 e1 e2
        have c0 := hcell 0 (by omega)
        have c1 := hcell 1 (by omega)
        have c2 := hcell 2 (by omega)
        rw [Go.Deep.add_add] at c0 c1 c2
        exact ⟨(k0, k1, k2), by simpa [e0] using c0, by simpa [e1] using c1, by simpa [e2] using c2⟩
    obtain ⟨s, hs⟩ := Go.Deep.choose_lt each
    refine ⟨some a, _, (List.range len).map s, by simp, by simpa using hl, hm, ?_⟩
    intro hn
    have h0 : 0 < len := by
      rcases Nat.eq_zero_or_pos len with h | h
      · subst h; simp [tcells] at hn
      · exact h
    refine ⟨a, rfl, ?_, fun j u hu => ?_⟩
    · have := World.block_lt_of_cell? W _ (hs 0 h0).1
      rwa [add_block] at this
    · have hlen : (tcells ((List.range len).map s)).length = len * 3 := by
        rw [tcells_length]; simp
      have hj : j < len * 3 := by
        have := (List.getElem?_eq_some_iff.1 hu).1
        omega
      have hk : j / 3 < ((List.range len).map s).length := by simp; omega
      have ha := tcells_at ((List.range len).map s) (j / 3) hk
      have hg : ((List.range len).map s)[j / 3] = s (j / 3) := by simp
      rw [hg] at ha
      obtain ⟨q0, q1, q2⟩ := hs (j / 3) (by omega)
      have h3 : j % 3 = 0 ∨ j % 3 = 1 ∨ j % 3 = 2 := by omega
      rcases h3 with hm2 | hm2 | hm2
      · have hjj : j / 3 * 3 = j := by omega
        rw [hjj] at ha q0
        rw [q0, ← hu, ha.1]
      · have hjj : j / 3 * 3 + 1 = j := by omega
        rw [hjj] at ha q1
        rw [q1, ← hu, ha.2.1]
      · have hjj : j / 3 * 3 + 2 = j := by omega
        rw [hjj] at ha q2
        rw [q2, ← hu, ha.2.2]
end

end Go.Proofs.Ytccapgcpdehicaa

namespace Go.Proofs.Ytccapgcpdehicaa
open Go.RowKit Go.ChangeShapes Go.WideShapes Go.ChangeAt

theorem Try.cellsAct : Try.prog.cellsOf 37 = 9 := by kernel_rfl
theorem Try.cellsStr : Try.prog.cellsOf 9 = 1 := by kernel_rfl
theorem Try.bytesTorn : Try.prog.bytesOf 50 = 24 := by kernel_rfl

section
variable {H : Type} {enc : TypeId × Value → H} {P : Program} {w : World} {base : Nat} {spare : Nat → Bool} {held : Bool}
theorem trod_struct8 {t : TypeId} {f0 f1 f2 f3 f4 f5 f6 f7 : Field} {fuel : Nat} {cs : List Value} {x : DataW H × List MemPlace} (ht : P.underlying t = some (.struct #[f0, f1, f2, f3, f4, f5, f6, f7])) (h : DataW.trod enc P w base spare held fuel t cs = some x) :
    ∃ y0 y1 y2 y3 y4 y5 y6 y7 n, x.1 = .agg [y0.1, y1.1, y2.1, y3.1, y4.1, y5.1, y6.1, y7.1] ∧ cs.length = P.cellsOf t ∧ DataW.trod enc P w base spare held n f0.type ((cs.drop f0.offset).take (P.cellsOf f0.type)) = some y0 ∧
      DataW.trod enc P w base spare held n f1.type ((cs.drop f1.offset).take (P.cellsOf f1.type)) = some y1 ∧ DataW.trod enc P w base spare held n f2.type ((cs.drop f2.offset).take (P.cellsOf f2.type)) = some y2 ∧
      DataW.trod enc P w base spare held n f3.type ((cs.drop f3.offset).take (P.cellsOf f3.type)) = some y3 ∧ DataW.trod enc P w base spare held n f4.type ((cs.drop f4.offset).take (P.cellsOf f4.type)) = some y4 ∧
      DataW.trod enc P w base spare held n f5.type ((cs.drop f5.offset).take (P.cellsOf f5.type)) = some y5 ∧ DataW.trod enc P w base spare held n f6.type ((cs.drop f6.offset).take (P.cellsOf f6.type)) = some y6 ∧
      DataW.trod enc P w base spare held n f7.type ((cs.drop f7.offset).take (P.cellsOf f7.type)) = some y7 := by
  obtain ⟨xs, n, _, rfl, hl, hlen, hf⟩ := DataW.trod_struct ht h
  match xs, hlen with
  | [y0, y1, y2, y3, y4, y5, y6, y7], _ => exact ⟨y0, y1, y2, y3, y4, y5, y6, y7, n, by simp, hl, by simpa using hf 0 f0 rfl, by simpa using hf 1 f1 rfl, by simpa using hf 2 f2 rfl, by simpa using hf 3 f3 rfl, by simpa using hf 4 f4 rfl, by simpa using hf 5 f5 rfl, by simpa using hf 6 f6 rfl, by simpa using hf 7 f7 rfl⟩
end

section
variable {H : Type} {enc : TypeId × Value → H}
set_option maxRecDepth 100000 in
/-- A cell that reads as a []byte and takes at most the reach. -/
theorem u8_of_trodr {W : World} {v : Value} {n : Nat} {y : DataW H × List MemPlace} (hf : DataW.trod enc Try.prog W 0 (fun _ => true) true n 32 [v] = some y)
    (hsz : ∀ k ∈ y.1.weights Try.prog 32, k ≤ reachBytes) :
    ∃ (A : Option Addr) (c : Nat) (bs : List UInt8), v = .slice A bs.length c ∧ bs.length ≤ c ∧ c ≤ maxLen ∧ Rd W W.heap.size A (u8s bs) ∧ bs.length ≤ reachBytes := by
  obtain ⟨A, c, bs, rfl, h1, h2, h3⟩ := u8_of_trod hf
  refine ⟨A, c, bs, rfl, h1, h2, h3, ?_⟩
  rcases open_ints Try.underlying32 Try.underlying5 Try.cells8 hf with ⟨hcs, _⟩ | ⟨a, len', cap', zs, hcs, _, hl, hm, hz, hx, hcell, hwz⟩
  · simp only [List.cons.injEq, and_true, Value.slice.injEq] at hcs
    omega
  · simp only [List.cons.injEq, and_true, Value.slice.injEq] at hcs
    obtain ⟨rfl, hcs1, hcs2⟩ := hcs
    subst hx
    have hz' : zs.length = cap' := by simpa using hz
    have hw := hsz ((lits .u8 (zs.take len') : List (DataW H)).length + (lits .u8 (zs.drop len') : List (DataW H)).length) (by
      unfold DataW.weights
      rw [Try.underlying32]
      simp [Try.bytes8])
    simp [lits] at hw
    omega
/-- A cell that reads as a string. -/
theorem str_of_trodr {W : World} {v : Value} {n : Nat} {y : DataW H × List MemPlace} (hf : DataW.trod enc Try.prog W 0 (fun _ => true) true n 9 [v] = some y)
    (hsz : ∀ k ∈ y.1.weights Try.prog 9, k ≤ reachBytes) : ∃ s : ByteArray, v = .string s ∧ s.size ≤ reachBytes := by
  obtain ⟨s, hs, rfl, _⟩ := DataW.trod_string Try.underlying9 hf
  simp only [List.cons.injEq, and_true] at hs
  refine ⟨s, hs, ?_⟩
  have := hsz s.data.toList.length (by simp [DataW.weights])
  simpa using this
/-- A cell that reads as a []api.Torn: how many. -/
theorem torn_of_trodr {W : World} {v : Value} {n : Nat} {y : DataW H × List MemPlace} (hf : DataW.trod enc Try.prog W 0 (fun _ => true) true n 33 [v] = some y)
    (hsz : ∀ k ∈ y.1.weights Try.prog 33, k ≤ reachBytes) : ∃ A m c, v = .slice A m c ∧ m ≤ reachBytes := by
  rcases Go.Deep.open_slice Try.underlying33 hf with ⟨hcs, _⟩ | ⟨a, len, cap, m, n', D, Pl, hcs, hb, hl, hm, hmm, hx, _⟩
  · simp only [List.cons.injEq, and_true] at hcs
    exact ⟨_, _, _, hcs, Nat.zero_le _⟩
  · simp only [List.cons.injEq, and_true] at hcs
    refine ⟨_, _, _, hcs, ?_⟩
    subst hx
    have hw := hsz ((((List.range len).map D).length + ((List.range (m - len)).map fun j => D (len + j)).length) * 24) (by
      unfold DataW.weights
      rw [Try.underlying33]
      simp [Try.bytesTorn])
    simp at hw
    omega

theorem mem_weightsAll {t : TypeId} {l : List (DataW H)} {d : DataW H} {n : Nat} (hd : d ∈ l) (hn : n ∈ d.weights Try.prog t) : n ∈ DataW.weightsAll Try.prog t l := by
  induction l with
  | nil => cases hd
  | cons a l ih =>
    unfold DataW.weightsAll
    rw [List.mem_append]
    rcases List.mem_cons.1 hd with rfl | h
    · exact .inl hn
    · exact .inr (ih h)


instance : Inhabited AcV := ⟨⟨0, ⟨#[]⟩, ⟨#[]⟩, 0, 0, 0, none, 0, [], 0, none, 0, 0⟩⟩

end
end Go.Proofs.Ytccapgcpdehicaa

namespace Go.Proofs.Ytccapgcpdehicaa
open Go.RowKit Go.ChangeShapes Go.WideShapes Go.ChangeAt

theorem int64_le {n : Int} (h : (Lit.int .i64 n).wf = true) : n ≤ 9223372036854775807 := by
  have h' := h
  simp [Lit.wf] at h'
  exact h'.2
section
variable {H : Type} {enc : TypeId × Value → H}
set_option maxRecDepth 100000 in
/-- Nine cells that read as an act. -/
theorem actp_of_trod {W : World} {cs : List Value} {n : Nat} {y : DataW H × List MemPlace} (hl : cs.length = 9) (hf : DataW.trod enc Try.prog W 0 (fun _ => true) true n 37 cs = some y)
    (hsz : ∀ k ∈ y.1.weights Try.prog 37, k ≤ reachBytes) : ∃ x : AcV, cs = x.cells ∧ (Rd W W.heap.size x.dA (u8s x.d) ∧ (∃ tl : List Tn, tl.length = x.tn ∧ Rd W W.heap.size x.tA (tcells tl)) ∧ x.n ≤ 9223372036854775807) ∧ x.Small := by
  obtain ⟨y0, y1, y2, y3, y4, y5, y6, y7, k, hy, _, h0, h1, h2, h3, h4, h5, h6, h7⟩ := trod_struct8 Try.underlying37 hf
  match cs, hl with
  | [v0, v1, v2, v3, v4, v5, v6, v7, v8], _ =>
    simp only [Try.cellsSl8, Try.cellsI, Try.cellsStr, Try.cellsWreck, List.drop_zero, List.drop_succ_cons, List.take_succ_cons, List.take_zero] at h0 h1 h2 h3 h4 h5 h6 h7
    obtain ⟨z0, z1, k', hz, _, g0, g1⟩ := trod_struct2 Try.underlying35 h7
    simp only [Try.cellsSlT, Try.cellsI, List.drop_zero, List.drop_succ_cons, List.take_succ_cons, List.take_zero] at g0 g1
    rw [hy] at hsz
    unfold DataW.weights at hsz
    rw [Try.underlying37] at hsz
    simp only [List.map_cons, List.map_nil, DataW.weightsEach, List.append_nil, List.mem_append] at hsz
    have w7 : ∀ k ∈ y7.1.weights Try.prog 35, k ≤ reachBytes := fun k hk => hsz k (by simp [hk])
    rw [hz] at w7
    unfold DataW.weights at w7
    rw [Try.underlying35] at w7
    simp only [List.map_cons, List.map_nil, DataW.weightsEach, List.append_nil, List.mem_append] at w7
    obtain ⟨e0, q0, _, _⟩ := DataW.trod_int Try.underlying3 h0
    obtain ⟨s1, rfl, t1⟩ := str_of_trodr h1 (fun k hk => hsz k (by simp [hk]))
    obtain ⟨s2, rfl, t2⟩ := str_of_trodr h2 (fun k hk => hsz k (by simp [hk]))
    obtain ⟨e3, q3, _, _⟩ := DataW.trod_int Try.underlying3 h3
    obtain ⟨e4, q4, _, _⟩ := DataW.trod_int Try.underlying3 h4
    obtain ⟨e5, q5, _, r5⟩ := DataW.trod_int Try.underlying3 h5
    obtain ⟨A, c, bs, rfl, b1, b2, b3, b4⟩ := u8_of_trodr h6 (fun k hk => hsz k (by simp [hk]))
    obtain ⟨e7, q7, _, _⟩ := DataW.trod_int Try.underlying3 g0
    obtain ⟨A8, m8, c8, e8, t8⟩ := torn_of_trodr g1 (fun k hk => w7 k (by simp [hk]))
    obtain ⟨A9, c9, tl, e9, _, _, hrt⟩ := torn_of_trod g1
    rw [e8] at e9
    injection e9 with e91 e92 e93
    subst e8
    have r5' : e5 ≤ 9223372036854775807 := int64_le r5
    simp only [List.cons.injEq, and_true] at q0 q3 q4 q5 q7
    subst q0 q3 q4 q5 q7
    exact ⟨⟨e0, s1, s2, e3, e4, e5, A, c, bs, e7, A8, m8, c8⟩, rfl, ⟨b3, ⟨tl, e92.symm, by rw [e91]; exact hrt⟩, r5'⟩, t1, t2, b4, t8⟩

set_option maxRecDepth 100000 in
/-- An argument []Act. -/
theorem open_actsp {W : World} {base : Nat} {v : Value} {d : DataW H} {p : List MemPlace} (hv : Value.okWide Try.prog W .any base 22 v) (h : DataW.Trod enc Try.prog W 0 (fun _ => true) true 22 v d p)
    (hsz : ∀ n ∈ d.weights Try.prog 22, n ≤ reachBytes) :
    ∃ (A : Option Addr) (c : Nat) (l : List AcV), v = .slice A l.length c ∧ l.length ≤ 9223372036854775807 ∧ Rd W W.heap.size A (acells l) ∧ (∀ x ∈ l, Rd W W.heap.size x.dA (u8s x.d) ∧ (∃ tl : List Tn, tl.length = x.tn ∧ Rd W W.heap.size x.tA (tcells tl)) ∧ x.n ≤ 9223372036854775807) ∧ ∀ x ∈ l, x.Small := by
  obtain ⟨a0, len, cap, rfl⟩ := okWide_slice Try.underlying22 hv
  obtain ⟨fuel, hf⟩ := h
  rcases Go.Deep.open_slice Try.underlying22 hf with ⟨hcs, _⟩ | ⟨a, len', cap', m, n', D, Pl, hcs, hb, hl, hm, hmm, hx, hxx⟩
  · simp only [Value.cells, List.cons.injEq, and_true, Value.slice.injEq] at hcs
    obtain ⟨rfl, rfl, rfl⟩ := hcs
    exact ⟨none, 0, [], rfl, Nat.zero_le _, Rd.nil_, by simp, by simp⟩
  · simp only [Value.cells, List.cons.injEq, and_true, Value.slice.injEq] at hcs
    obtain ⟨rfl, rfl, rfl⟩ := hcs
    simp only [if_true] at hmm
    subst hmm
    simp only [Prod.mk.injEq] at hx
    obtain ⟨rfl, _⟩ := hx
    have each : ∀ i, i < len → ∃ x : AcV, (∀ k u, x.cells[k]? = some u → W.cell? (a.add (i * 9 + k)) = some u) ∧ (Rd W W.heap.size x.dA (u8s x.d) ∧ (∃ tl : List Tn, tl.length = x.tn ∧ Rd W W.heap.size x.tA (tcells tl)) ∧ x.n ≤ 9223372036854775807) ∧ x.Small := by
      intro i hi
      obtain ⟨cs', h1, h2⟩ := hxx i (by omega)
      rw [Try.cellsAct] at h1
      obtain ⟨_, hlen, hcell⟩ := World.cells?_some h1
      obtain ⟨x, rfl, hr, hs⟩ := actp_of_trod (by omega) h2 (fun k hk => hsz k (by
        unfold DataW.weights
        rw [Try.underlying22]
        simp only [List.mem_cons, List.mem_append]
        exact .inr (.inl (mem_weightsAll (List.mem_map.2 ⟨i, List.mem_range.2 hi, rfl⟩) hk))))
      refine ⟨x, fun k u hu => ?_, hr, hs⟩
      have hk : k < 9 := (List.getElem?_eq_some_iff.1 hu).1
      have := hcell k (by omega)
      rw [Go.Deep.add_add] at this
      rw [this, hu]
    obtain ⟨s, hs⟩ := Go.Deep.choose_lt each
    refine ⟨some a, m, (List.range len).map s, by simp, by unfold maxLen at hm; simp; omega, ?_, ?_, ?_⟩
    · intro hn
      have h0 : 0 < len := by
        rcases Nat.eq_zero_or_pos len with h | h
        · subst h; simp [acells] at hn
        · exact h
      refine ⟨a, rfl, ?_, fun j u hu => ?_⟩
      · have := World.block_lt_of_cell? W _ ((hs 0 h0).1 0 _ rfl)
        rwa [add_block] at this
      · have hlen : ∀ l : List AcV, (acells l).length = l.length * 9 := by
          intro l
          induction l with
          | nil => rfl
          | cons x l ih =>
            have e : acells (x :: l) = x.cells ++ acells l := rfl
            rw [e, List.length_append, ih, List.length_cons, Nat.add_mul]
            have : x.cells.length = 9 := rfl
            omega
        have hj : j < len * 9 := by
          have := (List.getElem?_eq_some_iff.1 hu).1
          rw [hlen] at this
          simpa using this
        have hk : j / 9 < ((List.range len).map s).length := by simp; omega
        have ha := acells_at ((List.range len).map s) (j / 9) hk (j % 9) (by omega)
        have hg : ((List.range len).map s)[j / 9] = s (j / 9) := by simp
        rw [hg, show j / 9 * 9 + j % 9 = j by omega] at ha
        have := (hs (j / 9) (by omega)).1 (j % 9) u (by rw [← ha, hu])
        rwa [show j / 9 * 9 + j % 9 = j by omega] at this
    · intro x hx
      obtain ⟨i, hi, rfl⟩ := List.mem_map.1 hx
      exact (hs i (List.mem_range.1 hi)).2.1
    · intro x hx
      obtain ⟨i, hi, rfl⟩ := List.mem_map.1 hx
      exact (hs i (List.mem_range.1 hi)).2.2
end

end Go.Proofs.Ytccapgcpdehicaa

namespace Go.Proofs.Ytccapgcpdehicaa
open Go.RowKit Go.ChangeShapes Go.WideShapes Go.ChangeAt

set_option maxRecDepth 100000 in
theorem lawSame_lifted (os : Os) (started : os.Started) (H : Type) (enc : TypeId × Value → H) :
    ReturnsInHanded {} Try.checked os 3 .any (Rows.simfsSameSpec.pre6 enc Try.prog Try.f3 Rows.simfsSameRow.domain false) (Rows.simfsSameSpec.post enc Try.prog Try.f3 false true false false) := by
  refine returnsInHanded_of_change_sized (C := Try.checked) Try.own started (by kernel_rfl) Try.func3
    (ChangeSpec.witness6 (enc := enc) (C := Try.checked) false ⟨#[], #[.int .i64 0, .slice none 0 0, .slice none 0 0], []⟩ 8 (by kernel_rfl) (by kernel_rfl) (by kernel_rfl) (by kernel_rfl)) ?_
  intro W base args ds gs before hval0 hW _ hsz0 _
  have hval : ∀ (j : Nat) t v, Try.f3.params[j]? = some t → args[j]? = some v → Value.okWide Try.prog W .any base t v := hval0
  have hW' := hW
  obtain ⟨p, q, hA0, hV, _, _, _⟩ := hW
  have hA : DataW.TrodAll enc Try.prog W 0 (fun _ => true) true Try.f3.params.toList args.toList ds p := hA0
  have hsz : (DataW.weightsEach Try.prog (Try.f3.params.toList ++ Rows.simfsSameSpec.plain.varTypes Try.prog) (ds ++ gs)).all (· ≤ reachBytes) = true := hsz0
  rw [Try.params3] at hA hval hsz
  obtain ⟨v0, v1, v2, d0, d1, d2, p0, p1, p2, rfl, rfl, _, t0, t1, t2⟩ := trodAll_three hA
  obtain ⟨rfl, rfl⟩ := trodVars_none hV
  simp only [List.cons_append, List.nil_append, List.append_nil, DataW.weightsEach, List.all_append, Bool.and_eq_true, List.all_eq_true, decide_eq_true_eq] at hsz
  obtain ⟨C, rfl, rfl, rfl, _⟩ := open_int Try.underlying3 (hval 0 _ _ rfl rfl) t0
  obtain ⟨A, c, l, rfl, h1, h2, h3, h4⟩ := open_actsp (hval 1 _ _ rfl rfl) t1 hsz.2.1
  obtain ⟨A2, c2, m, rfl, k1, k2, k3, k4⟩ := open_actsp (hval 2 _ _ rfl rfl) t2 hsz.2.2.1
  have hin : Pl.In W A l := ⟨h2, fun x hx => (h3 x hx).1, h4, h1, fun x hx => (h3 x hx).2.1, fun x hx => (h3 x hx).2.2⟩
  have hin2 : Pl.In W A2 m := ⟨k2, fun x hx => (k3 x hx).1, k4, k1, fun x hx => (k3 x hx).2.1, fun x hx => (k3 x hx).2.2⟩
  have hwalk : Calls Try.prog 3 #[.int .i64 C, .slice A l.length c, .slice A2 m.length c2] W fun e w' => e = .returned (.bool true) ∧ W.grownBy w' none := by
    by_cases hh : longB l = true ∨ longB m = true
    · exact lawSame_off C A A2 c c2 l m W hin hin2 hh
    · have hl : longB l = false := Bool.eq_false_iff.2 fun k => hh (.inl k)
      have hm : longB m = false := Bool.eq_false_iff.2 fun k => hh (.inr k)
      by_cases hc : C < 0 ∨ 67108864 < C
      · exact lawSame_none C A A2 c c2 l m W hin hin2 hl hm hc
      · exact lawSame_main C A A2 c c2 l m W hin hin2 hl hm (fun k => hc (.inl k)) (fun k => hc (.inr k))
  refine hwalk.mono fun e W' ⟨he, hg⟩ => ⟨_, he, post_law hW' rfl ?_ rfl rfl (gb_below hg (Nat.le_refl _) (by simp))⟩
  intro t ht
  rw [Try.params3] at ht
  simp only [List.mem_cons, List.not_mem_nil, or_false] at ht
  rcases ht with rfl | rfl | rfl <;> exact ⟨by kernel_rfl, of_decide_eq_true (by kernel_rfl)⟩

theorem simfsSame_holds : Rows.SimfsSameSaid :=
  OpenClaim.holds_of_wide 3 Try.f3 rfl rfl rfl rfl rfl rfl rfl ⟨rfl, rfl, rfl, rfl, rfl⟩ rfl rfl rfl rfl rfl (by kernel_rfl) Try.func3 (by kernel_rfl)
    (of_decide_eq_true (by kernel_rfl)) (by unfold Func.isWrapper; first | (rw [if_pos (by decide +kernel)]; kernel_rfl) | (rw [if_neg (by decide +kernel)]; exact ⟨rfl, rfl⟩))
    (fun os started H enc _ => lawSame_lifted os started H enc)

end Go.Proofs.Ytccapgcpdehicaa
