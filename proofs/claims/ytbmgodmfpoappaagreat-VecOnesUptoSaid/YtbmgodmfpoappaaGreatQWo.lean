/-
  An argument of type V, opened: what it holds is bounded by the reading's bulk.
-/
import Derived.Test.YtbmgodmfpoappaaGreatRows
import Derived.Test.YtbmgodmfpoappaaGreatQVAt
import Derived.Test.YtbmgodmfpoappaaGreatQRowb
import Derived.ProofKit
import Derived.Deep.Slices
import Derived.Deep.Strs
import Derived.Lib.SmallJoins
import Derived.OpenShut
import Derived.JoinedCond
namespace Go.Proofs.YtbmgodmfpoappaaGreat
open Go.RowKit Go.ChangeShapes Go.WideShapes Go.ChangeAt
theorem Tryz.cells64 : Tryz.prog.cellsOf 2 = 1 := by kernel_rfl
theorem Tryz.cellsS : Tryz.prog.cellsOf 9 = 1 := by kernel_rfl
theorem Tryz.cellsI : Tryz.prog.cellsOf 3 = 1 := by kernel_rfl
theorem Tryz.cellsV : Tryz.prog.cellsOf 26 = 4 := by kernel_rfl
theorem Tryz.cellsSl64 : Tryz.prog.cellsOf 22 = 1 := by kernel_rfl
theorem Tryz.cellsSlS : Tryz.prog.cellsOf 23 = 1 := by kernel_rfl
theorem Tryz.cellsSlV : Tryz.prog.cellsOf 24 = 1 := by kernel_rfl
section
variable {H : Type} {enc : TypeId × Value → H}
theorem bulk_app (l r : List (DataW H)) : Rows.uptoBulkAll (l ++ r) = Rows.uptoBulkAll l + Rows.uptoBulkAll r := by
 induction l with
 | nil => simp [Rows.uptoBulkAll]
 | cons x l ih => simp only [List.cons_append, Rows.uptoBulkAll, ih]; omega
theorem bulk_lits (k : IntKind) (l : List Int) : l.length ≤ Rows.uptoBulkAll (lits k l : List (DataW H)) := by
 unfold lits
 induction l with
 | nil => simp
 | cons x l ih =>
  simp only [List.map_cons, Rows.uptoBulkAll, Rows.uptoBulk, List.length_cons]
  omega
set_option maxRecDepth 100000 in
theorem i64_of_trod {W : World} {v : Value} {n : Nat} {y : DataW H × List MemPlace} (hf : DataW.trod enc Tryz.prog W 0 (fun _ => true) true n 22 [v] = some y) :
  ∃ (A : Option Addr) (c : Nat) (l : List Int), v = .slice A l.length c ∧ l.length ≤ c ∧ Rd W W.heap.size A (i64s l) ∧ l.length + 1 ≤ Rows.uptoBulk y.1 := by
 rcases open_ints Tryz.underlying22 Tryz.underlying2 Tryz.cells64 hf with ⟨hcs, rfl⟩ | ⟨a, len', cap', zs, hcs, _, hl, hm, hz, rfl, hcell, hwz⟩
 ·simp only [List.cons.injEq, and_true] at hcs
  subst hcs
  exact ⟨none, 0, [], rfl, Nat.le_refl _, Rd.nil_, by simp [Rows.uptoBulk]⟩
 ·simp only [List.cons.injEq, and_true] at hcs
  subst hcs
  have hz' : zs.length = cap' := by simpa using hz
  have hlen : (zs.take len').length = len' := by simp; omega
  refine ⟨some a, cap', zs.take len', by rw [hlen], by rw [hlen]; exact hl, rd_of_ints (by omega) hcell, ?_⟩
  have h1 := bulk_lits (H := H) .i64 (zs.take len')
  simp only [Rows.uptoBulk]
  omega
instance : Inhabited (ByteArray) := ⟨⟨#[]⟩⟩
set_option maxRecDepth 100000 in
theorem str_of_trod {W : World} {v : Value} {n : Nat} {y : DataW H × List MemPlace} (hf : DataW.trod enc Tryz.prog W 0 (fun _ => true) true n 23 [v] = some y) :
  ∃ (A : Option Addr) (c : Nat) (l : List ByteArray), v = .slice A l.length c ∧ l.length ≤ c ∧ Rd W W.heap.size A (strs l) ∧ l.length + Vl.chars l + 1 ≤ Rows.uptoBulk y.1 := by
 rcases Go.Deep.open_slice Tryz.underlying23 hf with ⟨hcs, rfl⟩ | ⟨a, len, cap, m, n', D, Pl, hcs, hb, hl, hm, hmm, rfl, hx⟩
 ·simp only [List.cons.injEq, and_true] at hcs
  subst hcs
  exact ⟨none, 0, [], rfl, Nat.le_refl _, Rd.nil_, by simp [Rows.uptoBulk, Vl.chars]⟩
 ·simp only [List.cons.injEq, and_true] at hcs
  subst hcs
  simp only [if_true] at hmm
  subst hmm
  have each : ∀ i, i < len → ∃ s : ByteArray, W.cell? (a.add i) = some (.string s) ∧ Rows.uptoBulk (D i) = s.size + 1 := by
   intro i hi
   obtain ⟨cs', h1, h2⟩ := hx i (by omega)
   rw [Tryz.cellsS] at h1
   obtain ⟨_, hlen, hcell⟩ := World.cells?_some h1
   obtain ⟨s, hs, he, _⟩ := DataW.trod_string Tryz.underlying9 h2
   subst hs
   have c0 := hcell 0 (by omega)
   rw [Go.Deep.add_add] at c0
   simp only [Prod.mk.injEq] at he
   refine ⟨s, by simpa using c0, ?_⟩
   rw [he.1]
   simp [Rows.uptoBulk]
  obtain ⟨s, hs⟩ := Go.Deep.choose_lt each
  refine ⟨some a, m, (List.range len).map s, by simp, by simpa using hl, ?_, ?_⟩
  ·intro hn
   have h0 : 0 < len := by
    rcases Nat.eq_zero_or_pos len with h | h
    ·subst h; simp [strs] at hn
    ·exact h
   refine ⟨a, rfl, ?_, fun j u hu => ?_⟩
   ·have := World.block_lt_of_cell? W _ (hs 0 h0).1
    rwa [add_block] at this
   ·have hj : j < len := by
     have := (List.getElem?_eq_some_iff.1 hu).1
     simpa [strs] using this
    rw [(hs j hj).1, ← hu]
    simp [strs, hj]
  ·have hsum : ∀ k, k ≤ len → ((List.range k).map s).length + Vl.chars ((List.range k).map s) ≤ Rows.uptoBulkAll ((List.range k).map D) := by
    intro k hk
    induction k with
    | zero => simp [Vl.chars, Rows.uptoBulkAll]
    | succ k ih =>
     have h1 := ih (by omega)
     have h2 := (hs k (by omega)).2
     rw [List.range_succ, List.map_append, List.map_append, bulk_app, List.length_append]
     unfold Vl.chars at *
     rw [List.map_append, List.sum_append]
     simp only [List.map_cons, List.map_nil, List.length_cons, List.length_nil, List.sum_cons, List.sum_nil, Rows.uptoBulkAll]
     omega
   have := hsum len (Nat.le_refl _)
   simp only [Rows.uptoBulk]
   omega
theorem trod_struct4f {P : Program} {w : World} {base : Nat} {spare : Nat → Bool} {held : Bool} {t : TypeId} {f0 f1 f2 f3 : Field} {fuel : Nat} {cs : List Value} {x : DataW H × List MemPlace} (ht : P.underlying t = some (.struct #[f0, f1, f2, f3])) (h : DataW.trod enc P w base spare held fuel t cs = some x) :
  ∃ y0 y1 y2 y3 n, fuel = n + 1 ∧ x.1 = .agg [y0.1, y1.1, y2.1, y3.1] ∧ DataW.trod enc P w base spare held n f0.type ((cs.drop f0.offset).take (P.cellsOf f0.type)) = some y0 ∧
   DataW.trod enc P w base spare held n f1.type ((cs.drop f1.offset).take (P.cellsOf f1.type)) = some y1 ∧ DataW.trod enc P w base spare held n f2.type ((cs.drop f2.offset).take (P.cellsOf f2.type)) = some y2 ∧
   DataW.trod enc P w base spare held n f3.type ((cs.drop f3.offset).take (P.cellsOf f3.type)) = some y3 := by
 obtain ⟨xs, n, hn, rfl, hl, hlen, hf⟩ := DataW.trod_struct ht h
 match xs, hlen with
 | [y0, y1, y2, y3], _ => exact ⟨y0, y1, y2, y3, n, hn, by simp, by simpa using hf 0 f0 rfl, by simpa using hf 1 f1 rfl, by simpa using hf 2 f2 rfl, by simpa using hf 3 f3 rfl⟩
instance : Inhabited (Vl × List Value) := ⟨(.mk 0 [] [] [], [])⟩
theorem rdv_of {W : World} {a : Addr} {len : Nat} {s : Nat → Vl × List Value} (hs : ∀ i, i < len → (s i).2.length = 4 ∧ (∀ k u, (s i).2[k]? = some u → W.cell? (a.add (i * 4 + k)) = some u) ∧ VAt W W.heap.size (s i).1 (s i).2) :
  RdV W W.heap.size (some a) ((List.range len).map fun i => (s i).1) := by
 have h4 : ∀ c ∈ (List.range len).map (fun i => (s i).2), c.length = 4 := by
  intro c hc
  obtain ⟨i, hi, rfl⟩ := List.mem_map.1 hc
  exact (hs i (List.mem_range.1 hi)).1
 refine ⟨(List.range len).map fun i => (s i).2, fun hn => ?_, VAll.mk_ (by simp) fun i h1 h2 => ?_⟩
 ·have hfl := flat4_length h4
  have h0 : 0 < len := by
   rcases Nat.eq_zero_or_pos len with h | h
   ·subst h; simp at hn
   ·exact h
  refine ⟨a, rfl, ?_, fun j u hu => ?_⟩
  ·obtain ⟨u, hu⟩ : ∃ u, (s 0).2[0]? = some u := by
    have := (hs 0 h0).1
    exact ⟨_, List.getElem?_eq_getElem (by omega)⟩
   have := World.block_lt_of_cell? W _ ((hs 0 h0).2.1 0 u hu)
   rwa [add_block] at this
  ·have hj : j < len * 4 := by
    have := (List.getElem?_eq_some_iff.1 hu).1
    rw [hfl] at this
    simpa using this
   have hk : j / 4 < ((List.range len).map fun i => (s i).2).length := by simp; omega
   have ha := flat4_at h4 (j / 4) (j % 4) hk (by omega)
   rw [show j / 4 * 4 + j % 4 = j by omega, hu] at ha
   have hg : ((List.range len).map fun i => (s i).2)[j / 4] = (s (j / 4)).2 := by simp
   rw [hg] at ha
   have := (hs (j / 4) (by omega)).2.1 (j % 4) u ha.symm
   rwa [show j / 4 * 4 + j % 4 = j by omega] at this
 ·have hi : i < len := by simpa using h1
  have := (hs i hi).2.2
  simpa using this
theorem tots_le {len : Nat} {s : Nat → Vl × List Value} {e : Nat → DataW H} (h : ∀ i, i < len → (s i).1.tot ≤ Rows.uptoBulk (e i)) : Vl.tots ((List.range len).map fun i => (s i).1) ≤ Rows.uptoBulkAll ((List.range len).map e) := by
 induction len with
 | zero => simp [Vl.tots]
 | succ k ih =>
  have h1 := ih fun i hi => h i (by omega)
  have h2 := h k (by omega)
  rw [List.range_succ, List.map_append, List.map_append, bulk_app, Vl.tots_append]
  simp only [List.map_cons, List.map_nil, Vl.tots, Rows.uptoBulkAll]
  omega
set_option maxRecDepth 100000 in
theorem vat_of_trod {W : World} (n : Nat) : ∀ (cs : List Value) (y : DataW H × List MemPlace), cs.length = 4 → DataW.trod enc Tryz.prog W 0 (fun _ => true) true n 26 cs = some y → ∃ v : Vl, VAt W W.heap.size v cs ∧ v.tot ≤ Rows.uptoBulk y.1 := by
 induction n using Nat.strongRecOn with
 | _ n ih =>
 intro cs y hl hf
 obtain ⟨y0, y1, y2, y3, k, hk, hy, h0, h1, h2, h3⟩ := trod_struct4f Tryz.underlying26 hf
 match cs, hl with
 | [v0, v1, v2, v3], _ =>
 simp only [Tryz.cellsI, Tryz.cellsSl64, Tryz.cellsSlS, Tryz.cellsSlV, List.drop_zero, List.drop_succ_cons, List.take_succ_cons, List.take_zero] at h0 h1 h2 h3
 obtain ⟨t, e0, _, _⟩ := DataW.trod_int Tryz.underlying3 h0
 simp only [List.cons.injEq, and_true] at e0
 subst e0
 obtain ⟨A1, c1, l1, rfl, hc1, hr1, hb1⟩ := i64_of_trod h1
 obtain ⟨A2, c2, l2, rfl, hc2, hr2, hb2⟩ := str_of_trod h2
 have hL : ∃ (A : Option Addr) (c : Nat) (l : List Vl), v3 = .slice A l.length c ∧ l.length ≤ c ∧ RdV W W.heap.size A l ∧ Vl.tots l ≤ Rows.uptoBulk y3.1 := by
  rcases DataW.trod_slice Tryz.underlying24 h3 with ⟨hcs, rfl⟩ | ⟨a, len, cap, elems, rest, m, hm, hcs, rfl, _, hlc, _, hel, heach, _⟩
  ·simp only [List.cons.injEq, and_true] at hcs
   subst hcs
   exact ⟨none, 0, [], rfl, Nat.le_refl _, RdV.nil_, by simp [Vl.tots]⟩
  ·simp only [List.cons.injEq, and_true] at hcs
   subst hcs
   rw [Tryz.cellsV] at heach
   have each : ∀ i, i < len → ∃ s : Vl × List Value, (s.2.length = 4 ∧ (∀ k u, s.2[k]? = some u → W.cell? (a.add (i * 4 + k)) = some u) ∧ VAt W W.heap.size s.1 s.2) ∧ s.1.tot ≤ Rows.uptoBulk ((elems.map (·.1)).getD i .nil) := by
    intro i hi
    have h := heach i hi
    have hie : i < elems.length := by omega
    rw [List.getElem?_eq_getElem hie, Option.bind_eq_some_iff] at h
    obtain ⟨cs', g1, g2⟩ := h
    obtain ⟨_, hlen', hcell⟩ := World.cells?_some g1
    obtain ⟨v, hv1, hv2⟩ := ih m (by omega) cs' _ (by omega) g2
    refine ⟨(v, cs'), ⟨by omega, fun k u hu => ?_, hv1⟩, ?_⟩
    ·have hk : k < cs'.length := (List.getElem?_eq_some_iff.1 hu).1
     have := hcell k (by omega)
     rw [Go.Deep.add_add] at this
     rw [this, hu]
    ·simp [List.getD, hie]
     exact hv2
   obtain ⟨s, hs⟩ := Go.Deep.choose_lt each
   refine ⟨some a, cap, (List.range len).map fun i => (s i).1, by simp, by simpa using hlc, rdv_of fun i hi => (hs i hi).1, ?_⟩
   have h1 := tots_le (fun i hi => (hs i hi).2)
   have e : (List.range len).map (fun i => (elems.map (·.1)).getD i .nil) = elems.map (·.1) := by
    apply List.ext_getElem
    ·simp [hel]
    ·intro i g1 g2
     have : i < elems.length := by simpa using g2
     simp [List.getD, this]
   rw [e] at h1
   simp only [Rows.uptoBulk]
   omega
 obtain ⟨A3, c3, l3, rfl, hc3, hr3, hb3⟩ := hL
 refine ⟨.mk t l1 l2 l3, VB.at_ (v := .mk t l1 l2 l3) ⟨hr1, hr2, hr3, hc1, hc2, hc3⟩, ?_⟩
 rw [Vl.tot_def]
 show 1 + l1.length + l2.length + Vl.chars l2 + Vl.tots l3 ≤ _
 rw [hy]
 simp only [Rows.uptoBulk, Rows.uptoBulkAll]
 omega
end
section
open Go.RowKit Go.ChangeShapes Go.WideShapes Go.ChangeAt
variable {H : Type} {enc : TypeId × Value → H}
set_option maxRecDepth 100000 in
theorem open_v {W : World} {base : Nat} {v0 : Value} {d : DataW H} {p : List MemPlace} (hv : Value.okWide Tryz.prog W .any base 26 v0) (h : DataW.Trod enc Tryz.prog W 0 (fun _ => true) true 26 v0 d p) :
  ∃ (v : Vl) (nA : Option Addr) (nc : Nat) (sA : Option Addr) (sc : Nat) (lA : Option Addr) (lc : Nat), v0 = .agg #[.int .i64 v.t, .slice nA v.n.length nc, .slice sA v.s.length sc, .slice lA v.l.length lc] ∧ VB W W.heap.size v nA nc sA sc lA lc ∧ v.tot ≤ Rows.uptoBulk d := by
 obtain ⟨cs, rfl, hsz⟩ := okWide_struct Tryz.underlying26 hv
 obtain ⟨fuel, hf⟩ := h
 obtain ⟨v, hv1, hv2⟩ := vat_of_trod fuel cs.toList (d, p) (by rw [Array.length_toList, hsz, Tryz.cellsV]) hf
 obtain ⟨nA, nc, sA, sc, lA, lc, hcs, hvb⟩ := hv1.parts
 refine ⟨v, nA, nc, sA, sc, lA, lc, ?_, hvb, hv2⟩
 have e : cs = #[.int .i64 v.t, .slice nA v.n.length nc, .slice sA v.s.length sc, .slice lA v.l.length lc] := by
  rw [← Array.toList_inj]
  exact hcs
 rw [e]
end
end Go.Proofs.YtbmgodmfpoappaaGreat
