/-
  The statement VecOnes, where what it reads is of bulk at most 1048576: it tells true of all values and numbers; the input reads as it did.
-/
import Derived.Test.YtbmgodmfpoappaaGreatQUl
import Derived.Test.YtbmgodmfpoappaaGreatQUm
import Derived.Test.YtbmgodmfpoappaaGreatQWo
namespace Go.Proofs.YtbmgodmfpoappaaGreat
open Go.RowKit Go.ChangeShapes Go.WideShapes Go.ChangeAt
theorem ones_any (v xv : Vl) (n t : Int) (w : World) (nA : Option Addr) (nc : Nat) (sA : Option Addr) (sc : Nat) (lA : Option Addr) (lc : Nat) (xnA : Option Addr) (xnc : Nat) (xsA : Option Addr) (xsc : Nat) (xlA : Option Addr) (xlc : Nat) (hI : ∀ x ∈ v.n, I64 x) (ht : v.tot + xv.tot ≤ 1048576) (h : VB w w.heap.size v nA nc sA sc lA lc) (hx : VB w w.heap.size xv xnA xnc xsA xsc xlA xlc) :
  Calls Tryz.prog 3 #[.agg #[.int .i64 v.t, .slice nA v.n.length nc, .slice sA v.s.length sc, .slice lA v.l.length lc], .int .i64 n, .int .i64 t, .agg #[.int .i64 xv.t, .slice xnA xv.n.length xnc, .slice xsA xv.s.length xsc, .slice xlA xv.l.length xlc]] w fun e w' => e = .returned (.bool true) ∧ w.grownBy w' none := by
 by_cases hm : checkV v = 0 ∧ checkV xv = 0
 ·obtain ⟨hc, hcx⟩ := hm
  have hv1 : v.tot ≤ 1048576 := by omega
  obtain ⟨y1, k1, t1, a1, b1⟩ := both_neg v w nA nc sA sc lA lc hc hv1 h
  obtain ⟨y2, k2, t2, a2, b2⟩ := both_not v w nA nc sA sc lA lc hv1 h
  obtain ⟨y3, k3, t3, a3, b3⟩ := both_til w n
  obtain ⟨y4, k4, t4, a4, b4⟩ := both_where v w nA nc sA sc lA lc hv1 h
  obtain ⟨y5, k5, t5, a5, b5⟩ := both_cast v w nA nc sA sc lA lc t hc hI hv1 h
  obtain ⟨y6, k6, t6, a6, b6⟩ := both_fill xv v w xnA xnc xsA xsc xlA xlc nA nc sA sc lA lc hc hcx hv1 hx h
  exact ones_walk v xv n t w nA nc sA sc lA lc xnA xnc xsA xsc xlA xlc ht h hx y1 y2 y3 y4 y5 y6 k1 k2 k3 k4 k5 k6 (fun _ _ => ⟨t1, t2, t3, t4, t5, t6, a1, b1, a2, b2, a3, b3, a4, b4, a5, b5, a6, b6⟩)
 ·exact ones_walk v xv n t w nA nc sA sc lA lc xnA xnc xsA xsc xlA xlc ht h hx emp emp emp emp emp emp 0 0 0 0 0 0 (fun a b => absurd ⟨a, b⟩ hm)
theorem rd_same {W : World} {B B' : Nat} {A : Option Addr} {l l' : List Int} (h : Rd W B A (i64s l)) (h' : Rd W B' A (i64s l')) (hl : l.length = l'.length) : l = l' := by
 by_cases hne : l = []
 ·subst hne
  exact (List.length_eq_zero_iff.1 hl.symm).symm
 have hne1 : i64s l ≠ [] := by simpa [i64s] using hne
 have hne2 : i64s l' ≠ [] := by
  intro e
  apply hne
  have : l' = [] := by simpa [i64s] using e
  rw [this] at hl
  exact List.length_eq_zero_iff.1 hl
 obtain ⟨b, o, e1, _, c1⟩ := h.lay hne1
 obtain ⟨b', o', e2, _, c2⟩ := h'.lay hne2
 rw [e1] at e2
 simp only [Option.some.injEq, Addr.mk.injEq, and_true] at e2
 obtain ⟨rfl, rfl⟩ := e2
 refine List.ext_getElem hl fun i h1 h2 => ?_
 have d1 := c1 i (.int .i64 l[i]) (by simp [i64s, h1])
 have d2 := c2 i (.int .i64 l'[i]) (by simp [i64s, h2])
 rw [d1] at d2
 simpa using d2
section
variable {H : Type} {enc : TypeId × Value → H}
theorem i64b_of_trod {W : World} {v : Value} {n : Nat} {y : DataW H × List MemPlace} (hf : DataW.trod enc Tryz.prog W 0 (fun _ => true) true n 22 [v] = some y) :
  ∃ (A : Option Addr) (c : Nat) (l : List Int), v = .slice A l.length c ∧ Rd W W.heap.size A (i64s l) ∧ ∀ x ∈ l, I64 x := by
 rcases open_ints Tryz.underlying22 Tryz.underlying2 Tryz.cells64 hf with ⟨hcs, rfl⟩ | ⟨a, len', cap', zs, hcs, _, hl, hm, hz, rfl, hcell, hwz⟩
 ·simp only [List.cons.injEq, and_true] at hcs
  subst hcs
  exact ⟨none, 0, [], rfl, Rd.nil_, by simp⟩
 ·simp only [List.cons.injEq, and_true] at hcs
  subst hcs
  have hz' : zs.length = cap' := by simpa using hz
  have hlen : (zs.take len').length = len' := by simp; omega
  refine ⟨some a, cap', zs.take len', by rw [hlen], rd_of_ints (by omega) hcell, fun x hx => ?_⟩
  have h1 : IntKind.i64.min = -9223372036854775808 := rfl
  have h2 : IntKind.i64.max = 9223372036854775807 := rfl
  have h3 := hwz x (List.mem_of_mem_take hx)
  simp [Lit.wf] at h3
  unfold I64
  omega
set_option maxRecDepth 100000 in
theorem open_vn {W : World} {base : Nat} {v0 : Value} {d : DataW H} {p : List MemPlace} (hv : Value.okWide Tryz.prog W .any base 26 v0) (h : DataW.Trod enc Tryz.prog W 0 (fun _ => true) true 26 v0 d p) :
  ∃ (v : Vl) (nA : Option Addr) (nc : Nat) (sA : Option Addr) (sc : Nat) (lA : Option Addr) (lc : Nat), v0 = .agg #[.int .i64 v.t, .slice nA v.n.length nc, .slice sA v.s.length sc, .slice lA v.l.length lc] ∧ VB W W.heap.size v nA nc sA sc lA lc ∧ v.tot ≤ Rows.uptoBulk d ∧ ∀ x ∈ v.n, I64 x := by
 have h' := h
 obtain ⟨v, nA, nc, sA, sc, lA, lc, rfl, hvb, hvt⟩ := open_v hv h
 refine ⟨v, nA, nc, sA, sc, lA, lc, rfl, hvb, hvt, ?_⟩
 obtain ⟨fuel, hf⟩ := h'
 obtain ⟨y0, y1, y2, y3, k, hk, hy, h0, h1, h2, h3⟩ := trod_struct4f Tryz.underlying26 hf
 simp only [Value.cells, Tryz.cellsSl64, List.drop_zero, List.drop_succ_cons, List.take_succ_cons, List.take_zero] at h1
 obtain ⟨A, c, l, e, hr, hi⟩ := i64b_of_trod h1
 simp only [Value.slice.injEq] at e
 obtain ⟨e1, e2, _⟩ := e
 subst e1
 have := rd_same hvb.n hr e2
 rw [this]
 exact hi
end
set_option maxRecDepth 100000 in
theorem lawOnes_lifted (os : Os) (started : os.Started) (H : Type) (enc : TypeId × Value → H) (F : Stop.Interp) :
  ReturnsInHanded {} Tryz.checked os 3 .any ((Rows.OpenSpec.upto Rows.vecOnesSpec).pre6 enc Tryz.prog Tryz.f3 Rows.vecOnesUptoRow.domain false) (((Rows.OpenSpec.upto Rows.vecOnesSpec).at F).post enc Tryz.prog Tryz.f3 false true false false) := by
 refine returnsInHanded_of_cond (C := Tryz.checked) (s := Rows.OpenSpec.upto Rows.vecOnesSpec) (k := Rows.uptoSmall) rfl Tryz.own started (by kernel_rfl) Tryz.func3
  (OpenSpec.witness (enc := enc) (C := Tryz.checked) (s := Rows.OpenSpec.upto Rows.vecOnesSpec) (k := Rows.uptoSmall) rfl false ⟨#[], #[.agg #[.int .i64 0, .slice none 0 0, .slice none 0 0, .slice none 0 0], .int .i64 0, .int .i64 0, .agg #[.int .i64 0, .slice none 0 0, .slice none 0 0, .slice none 0 0]], []⟩ 8 (by kernel_rfl) (by kernel_rfl) (by kernel_rfl)
   (x := ([.agg [.lit (.int .i64 0), .nil, .nil, .nil], .lit (.int .i64 0), .lit (.int .i64 0), .agg [.lit (.int .i64 0), .nil, .nil, .nil]], [], [])) (by kernel_rfl) rfl (by kernel_rfl)) ?_
 intro W base args ds gs before hval0 hW _ hk _
 have hval : ∀ (j : Nat) t v, Tryz.f3.params[j]? = some t → args[j]? = some v → Value.okWide Tryz.prog W .any base t v := hval0
 have hW' := hW
 obtain ⟨p, q, hA0, hV, _, _, _⟩ := hW
 have hA : DataW.TrodAll enc Tryz.prog W 0 (fun _ => true) true Tryz.f3.params.toList args.toList ds p := hA0
 rw [Tryz.params3] at hA hval
 obtain ⟨v0, v1, v2, v3, d0, d1, d2, d3, p0, p1, p2, p3, rfl, rfl, _, t0, t1, t2, t3⟩ := trodAll_four hA
 obtain ⟨rfl, rfl⟩ := trodVars_none hV
 have hb := of_decide_eq_true hk
 simp only [List.append_nil, Rows.uptoBulkAll] at hb
 obtain ⟨v, nA, nc, sA, sc, lA, lc, rfl, hvb, hvt, hvI⟩ := open_vn (hval 0 _ _ rfl rfl) t0
 obtain ⟨i, rfl, rfl, rfl, _⟩ := open_int Tryz.underlying2 (hval 1 _ _ rfl rfl) t1
 obtain ⟨k, rfl, rfl, rfl, _⟩ := open_int Tryz.underlying3 (hval 2 _ _ rfl rfl) t2
 obtain ⟨x, xnA, xnc, xsA, xsc, xlA, xlc, rfl, hxb, hxt⟩ := open_v (hval 3 _ _ rfl rfl) t3
 refine (ones_any v x i k W nA nc sA sc lA lc xnA xnc xsA xsc xlA xlc hvI (by omega) hvb hxb).mono fun e W' ⟨he, hg⟩ => ⟨_, he, post_law hW' rfl ?_ rfl rfl (gb_below hg (Nat.le_refl _) (by simp))⟩
 intro t ht
 rw [Tryz.params3] at ht
 simp only [List.mem_cons, List.not_mem_nil, or_false] at ht
 rcases ht with rfl | rfl | rfl | rfl <;> exact ⟨by kernel_rfl, of_decide_eq_true (by kernel_rfl)⟩
theorem vecOnes_holds : Rows.VecOnesUptoSaid :=
 OpenClaim.holds_of_cond 3 Tryz.f3 rfl rfl rfl rfl rfl rfl rfl ⟨rfl, rfl, rfl, rfl, rfl⟩ rfl rfl rfl rfl rfl (by kernel_rfl) Tryz.func3 (by kernel_rfl)
  (of_decide_eq_true (by kernel_rfl)) (by unfold Func.isWrapper; first | (rw [if_pos (by decide +kernel)]; kernel_rfl) | (rw [if_neg (by decide +kernel)]; exact ⟨rfl, rfl⟩))
  (fun os started H enc _ F => lawOnes_lifted os started H enc F)
end Go.Proofs.YtbmgodmfpoappaaGreat
