/-
  The law SymtabFiles: its walk.
-/
import Derived.Test.YtmcmlkglkpbnpaaGreatQbs
import Derived.Test.YtmcmlkglkpbnpaaGreatQbu
import Derived.Deep.SlicePairs
import Derived.Deep.Strs
import Derived.Lib.SmallJoins
import Derived.Test.YtmcmlkglkpbnpaaGreatQbr
import Derived.BigQuiet
import Derived.Deep.CutBlock
import Derived.Deep.RegionLaw
import Derived.Deep.DeepCutAuto
namespace Go.Proofs.YtmcmlkglkpbnpaaGreat
open Go.RowKit Go.ChangeShapes Go.WideShapes Go.ChangeAt
theorem Tryz.cellsFAct : Tryz.prog.cellsOf 38 = 5 := by kernel_rfl
theorem Tryz.cellsWreck : Tryz.prog.cellsOf 36 = 2 := by kernel_rfl
theorem Tryz.cellsTorn : Tryz.prog.cellsOf 94 = 3 := by kernel_rfl
theorem Tryz.cellsI : Tryz.prog.cellsOf 3 = 1 := by kernel_rfl
theorem Tryz.cellsSlT : Tryz.prog.cellsOf 34 = 1 := by kernel_rfl
theorem Tryz.cellsSlS : Tryz.prog.cellsOf 33 = 1 := by kernel_rfl
structure AcF where
 kind : Int
 l : List ByteArray
 lA : Option Addr
 lc : Nat
 n : Int
 dir : Int
 tl : List Tn
 tA : Option Addr
 tc : Nat
instance : Inhabited AcF := ⟨⟨0, [], none, 0, 0, 0, [], none, 0⟩⟩
def AcF.cells (x : AcF) : List Value := [.int .i64 x.kind, .slice x.lA x.l.length x.lc, .int .i64 x.n, .int .i64 x.dir, .slice x.tA x.tl.length x.tc]
def fcells (l : List AcF) : List Value := l.flatMap AcF.cells
theorem fcells_cons (x : AcF) (l : List AcF) : fcells (x :: l) = x.cells ++ fcells l := rfl
theorem fcells_at (l : List AcF) (i : Nat) (h : i < l.length) (k : Nat) (hk : k < 5) : (fcells l)[i * 5 + k]? = l[i].cells[k]? := by
 induction l generalizing i with
 | nil => simp at h
 | cons x l ih =>
  rw [fcells_cons]
  have hx : x.cells.length = 5 := rfl
  cases i with
  | zero =>
   rw [List.getElem?_append_left (by omega)]
   simp
  | succ i =>
   rw [List.getElem?_append_right (by rw [hx]; omega), hx, show (i + 1) * 5 + k - 5 = i * 5 + k by omega, ih i (by simpa using h)]
   simp
theorem fcells_length (l : List AcF) : (fcells l).length = l.length * 5 := by
 induction l with
 | nil => rfl
 | cons x l ih =>
  rw [fcells_cons, List.length_append, ih, List.length_cons, Nat.add_mul]
  have : x.cells.length = 5 := rfl
  omega
structure AcF.Ok (W : World) (x : AcF) : Prop where
 strs : Rd W W.heap.size x.lA (strs x.l)
 torn : Rd W W.heap.size x.tA (tcells x.tl)
 small : ∀ s ∈ x.l, s.size ≤ reachBytes
 nb : x.n ≤ 9223372036854775807
 tcap : x.tl.length ≤ x.tc ∧ x.tc ≤ maxLen
structure FcAt (w : World) (b o : Nat) (x : AcF) : Prop where
 c0 : w.cell? ⟨b, o, none⟩ = some (.int .i64 x.kind)
 c1 : w.cell? ⟨b, o + 1, none⟩ = some (.slice x.lA x.l.length x.lc)
 c2 : w.cell? ⟨b, o + 2, none⟩ = some (.int .i64 x.n)
 c3 : w.cell? ⟨b, o + 3, none⟩ = some (.int .i64 x.dir)
 c4 : w.cell? ⟨b, o + 4, none⟩ = some (.slice x.tA x.tl.length x.tc)
theorem Rd.fact {w : World} {B : Nat} {A : Option Addr} {l : List AcF} (h : Rd w B A (fcells l)) {i : Nat} (hi : i < l.length) : ∃ b o, A = some ⟨b, o, none⟩ ∧ b < B ∧ FcAt w b (o + i * 5) l[i] := by
 obtain ⟨b, o, hA, hb, hc⟩ := h.lay (fun e => by have := fcells_length l; rw [e] at this; simp at this; omega)
 have hk : ∀ k u, k < 5 → l[i].cells[k]? = some u → w.cell? ⟨b, o + i * 5 + k, none⟩ = some u := fun k u hk hu => by
  rw [Nat.add_assoc]
  exact hc _ _ ((fcells_at l i hi k hk).trans hu)
 exact ⟨b, o, hA, hb, hk 0 _ (by omega) rfl, hk 1 _ (by omega) rfl, hk 2 _ (by omega) rfl, hk 3 _ (by omega) rfl, hk 4 _ (by omega) rfl⟩
section
variable {H : Type} {enc : TypeId × Value → H}
set_option maxRecDepth 100000 in
theorem torn_of_trod {W : World} {v : Value} {n : Nat} {y : DataW H × List MemPlace} (hf : DataW.trod enc Tryz.prog W 0 (fun _ => true) true n 34 [v] = some y) :
  ∃ (A : Option Addr) (c : Nat) (tl : List Tn), v = .slice A tl.length c ∧ tl.length ≤ c ∧ c ≤ maxLen ∧ Rd W W.heap.size A (tcells tl) := by
 rcases Go.Deep.open_slice Tryz.underlying34 hf with ⟨hcs, _⟩ | ⟨a, len, cap, m, n', D, Pl, hcs, hb, hl, hm, hmm, _, hx⟩
 ·simp only [List.cons.injEq, and_true] at hcs
  subst hcs
  exact ⟨none, 0, [], rfl, Nat.le_refl _, Nat.zero_le _, Rd.nil_⟩
 ·simp only [List.cons.injEq, and_true] at hcs
  subst hcs
  simp only [if_true] at hmm
  subst hmm
  have each : ∀ i, i < len → ∃ t : Tn, W.cell? (a.add (i * 3)) = some (.int .i64 t.1) ∧ W.cell? (a.add (i * 3 + 1)) = some (.int .i64 t.2.1) ∧ W.cell? (a.add (i * 3 + 2)) = some (.int .i64 t.2.2) := by
   intro i hi
   obtain ⟨cs', h1, h2⟩ := hx i (by omega)
   rw [Tryz.cellsTorn] at h1
   obtain ⟨_, hlen, hcell⟩ := World.cells?_some h1
   obtain ⟨y0, y1, y2, k, _, _, g0, g1, g2⟩ := Go.Deep.trod_struct3 Tryz.underlying94 h2
   match cs', hlen with
   | [v0, v1, v2], _ =>
    simp only [Tryz.cellsI, List.drop_zero, List.drop_succ_cons, List.take_succ_cons, List.take_zero] at g0 g1 g2
    obtain ⟨k0, e0, _, _⟩ := DataW.trod_int Tryz.underlying3 g0
    obtain ⟨k1, e1, _, _⟩ := DataW.trod_int Tryz.underlying3 g1
    obtain ⟨k2, e2, _, _⟩ := DataW.trod_int Tryz.underlying3 g2
    simp only [List.cons.injEq, and_true] at e0 e1 e2
    have c0 := hcell 0 (by omega)
    have c1 := hcell 1 (by omega)
    have c2 := hcell 2 (by omega)
    rw [Go.Deep.add_add] at c0 c1 c2
    exact ⟨(k0, k1, k2), by simpa [e0] using c0, by simpa [e1] using c1, by simpa [e2] using c2⟩
  obtain ⟨s, hs⟩ := Go.Deep.choose_lt each
  refine ⟨some a, _, (List.range len).map s, by simp, by simpa using hl, hm, ?_⟩
  intro hn
  have h0 : 0 < len := by
   rcases Nat.eq_zero_or_pos len with h | h
   ·subst h; simp [tcells] at hn
   ·exact h
  refine ⟨a, rfl, ?_, fun j u hu => ?_⟩
  ·have := World.block_lt_of_cell? W _ (hs 0 h0).1
   rwa [add_block] at this
  ·have hlen : (tcells ((List.range len).map s)).length = len * 3 := by
    rw [tcells_length]; simp
   have hj : j < len * 3 := by
    have := (List.getElem?_eq_some_iff.1 hu).1
    omega
   have hk : j / 3 < ((List.range len).map s).length := by simp; omega
   have ha := tcells_at ((List.range len).map s) (j / 3) hk
   have hg : ((List.range len).map s)[j / 3] = s (j / 3) := by simp
   rw [hg] at ha
   obtain ⟨q0, q1, q2⟩ := hs (j / 3) (by omega)
   have h3 : j % 3 = 0 ∨ j % 3 = 1 ∨ j % 3 = 2 := by omega
   rcases h3 with hm2 | hm2 | hm2
   ·have hjj : j / 3 * 3 = j := by omega
    rw [hjj] at ha q0
    rw [q0, ← hu, ha.1]
   ·have hjj : j / 3 * 3 + 1 = j := by omega
    rw [hjj] at ha q1
    rw [q1, ← hu, ha.2.1]
   ·have hjj : j / 3 * 3 + 2 = j := by omega
    rw [hjj] at ha q2
    rw [q2, ← hu, ha.2.2]
set_option maxRecDepth 100000 in
theorem strs_of_trodr {W : World} {v : Value} {n : Nat} {y : DataW H × List MemPlace} (hf : DataW.trod enc Tryz.prog W 0 (fun _ => true) true n 33 [v] = some y)
  (hsz : ∀ k ∈ y.1.weights Tryz.prog 33, k ≤ reachBytes) :
  ∃ (A : Option Addr) (c : Nat) (l : List ByteArray), v = .slice A l.length c ∧ Rd W W.heap.size A (strs l) ∧ ∀ s ∈ l, s.size ≤ reachBytes := by
 rcases open_strings Tryz.underlying33 Tryz.underlying9 Tryz.cellsStr hf with ⟨hcs, _⟩ | ⟨a, len, cap, ss, hcs, _, hl, hm, hz, hx, hcell, hws⟩
 ·simp only [List.cons.injEq, and_true] at hcs
  exact ⟨none, 0, [], hcs, Rd.nil_, by simp⟩
 ·simp only [List.cons.injEq, and_true] at hcs
  have hz' : ss.length = cap := by simpa using hz
  have hlen : (ss.take len).length = len := by simp; omega
  refine ⟨some a, cap, ss.take len, by rw [hlen]; exact hcs, ?_, ?_⟩
  ·intro hn
   have h0 : 0 < len := by
    rcases Nat.eq_zero_or_pos len with h | h
    ·subst h; simp [strs] at hn
    ·exact h
   refine ⟨a, rfl, ?_, fun j u hu => ?_⟩
   ·have := World.block_lt_of_cell? W _ (hcell 0 (by omega))
    rwa [add_block] at this
   ·have hj : j < len := by
     have := (List.getElem?_eq_some_iff.1 hu).1
     simp [strs] at this; omega
    rw [hcell j (by omega), ← hu]
    simp [strs, List.getD, hj, show j < ss.length by omega]
  ·intro s hs
   rw [hx] at hsz
   have hin : (DataW.lit (.string s.data.toList) : DataW H) ∈ ChangeShapes.strs (ss.take len) := List.mem_map.2 ⟨s, hs, rfl⟩
   have hw := hsz s.data.toList.length (by
    unfold DataW.weights
    rw [Tryz.underlying33]
    simp only [List.mem_cons, List.mem_append]
    exact .inr (.inl (mem_weightsAll hin (by simp [DataW.weights]))))
   have e : s.data.toList.length = s.size := by rw [Array.length_toList]; rfl
   omega
set_option maxRecDepth 100000 in
theorem factp_of_trod {W : World} {cs : List Value} {n : Nat} {y : DataW H × List MemPlace} (hl : cs.length = 5) (hf : DataW.trod enc Tryz.prog W 0 (fun _ => true) true n 38 cs = some y)
  (hsz : ∀ k ∈ y.1.weights Tryz.prog 38, k ≤ reachBytes) : ∃ x : AcF, cs = x.cells ∧ x.Ok W := by
 obtain ⟨y0, y1, y2, y3, k, hy1, hy, h0, h1, h2, h3⟩ := Go.Joins.trod_struct4 Tryz.underlying38 hf
 match cs, hl with
 | [v0, v1, v2, v3, v4], _ =>
  simp only [Tryz.cellsSlS, Tryz.cellsI, Tryz.cellsWreck, List.drop_zero, List.drop_succ_cons, List.take_succ_cons, List.take_zero] at h0 h1 h2 h3
  obtain ⟨z0, z1, k', hz, _, g0, g1⟩ := trod_struct2 Tryz.underlying36 h3
  simp only [Tryz.cellsSlT, Tryz.cellsI, List.drop_zero, List.drop_succ_cons, List.take_succ_cons, List.take_zero] at g0 g1
  first | rw [hy] at hsz | rw [hy1] at hsz
  unfold DataW.weights at hsz
  rw [Tryz.underlying38] at hsz
  simp only [List.map_cons, List.map_nil, DataW.weightsEach, List.append_nil, List.mem_append] at hsz
  obtain ⟨e0, q0, _, _⟩ := DataW.trod_int Tryz.underlying3 h0
  obtain ⟨A, c, l, rfl, b1, b2⟩ := strs_of_trodr h1 (fun k hk => hsz k (by simp [hk]))
  obtain ⟨e2, q2, _, r2⟩ := DataW.trod_int Tryz.underlying3 h2
  obtain ⟨e3, q3, _, _⟩ := DataW.trod_int Tryz.underlying3 g0
  obtain ⟨A4, c4, tl, rfl, t1, t2, hrt⟩ := torn_of_trod g1
  have r2 : e2 ≤ 9223372036854775807 := by
   have h := r2
   simp [Lit.wf] at h
   exact h.2
  simp only [List.cons.injEq, and_true] at q0 q2 q3
  subst q0 q2 q3
  exact ⟨⟨e0, l, A, c, e2, e3, tl, A4, c4⟩, rfl, ⟨b1, hrt, b2, r2, t1, t2⟩⟩
set_option maxRecDepth 100000 in
theorem open_facts {W : World} {base : Nat} {v : Value} {d : DataW H} {p : List MemPlace} (hv : Value.okWide Tryz.prog W .any base 22 v) (h : DataW.Trod enc Tryz.prog W 0 (fun _ => true) true 22 v d p)
  (hsz : ∀ n ∈ d.weights Tryz.prog 22, n ≤ reachBytes) :
  ∃ (A : Option Addr) (c : Nat) (l : List AcF), v = .slice A l.length c ∧ l.length ≤ 9223372036854775807 ∧ Rd W W.heap.size A (fcells l) ∧ ∀ x ∈ l, x.Ok W := by
 obtain ⟨a0, len, cap, rfl⟩ := okWide_slice Tryz.underlying22 hv
 obtain ⟨fuel, hf⟩ := h
 rcases Go.Deep.open_slice Tryz.underlying22 hf with ⟨hcs, _⟩ | ⟨a, len', cap', m, n', D, Pl, hcs, hb, hl, hm, hmm, hx, hxx⟩
 ·simp only [Value.cells, List.cons.injEq, and_true, Value.slice.injEq] at hcs
  obtain ⟨rfl, rfl, rfl⟩ := hcs
  exact ⟨none, 0, [], rfl, Nat.zero_le _, Rd.nil_, by simp⟩
 ·simp only [Value.cells, List.cons.injEq, and_true, Value.slice.injEq] at hcs
  obtain ⟨rfl, rfl, rfl⟩ := hcs
  simp only [if_true] at hmm
  subst hmm
  simp only [Prod.mk.injEq] at hx
  obtain ⟨rfl, _⟩ := hx
  have each : ∀ i, i < len → ∃ x : AcF, (∀ k u, x.cells[k]? = some u → W.cell? (a.add (i * 5 + k)) = some u) ∧ x.Ok W := by
   intro i hi
   obtain ⟨cs', h1, h2⟩ := hxx i (by omega)
   rw [Tryz.cellsFAct] at h1
   obtain ⟨_, hlen, hcell⟩ := World.cells?_some h1
   obtain ⟨x, rfl, hr⟩ := factp_of_trod (by omega) h2 (fun k hk => hsz k (by
    unfold DataW.weights
    rw [Tryz.underlying22]
    simp only [List.mem_cons, List.mem_append]
    exact .inr (.inl (mem_weightsAll (List.mem_map.2 ⟨i, List.mem_range.2 hi, rfl⟩) hk))))
   refine ⟨x, fun k u hu => ?_, hr⟩
   have hk : k < 5 := (List.getElem?_eq_some_iff.1 hu).1
   have := hcell k (by omega)
   rw [Go.Deep.add_add] at this
   rw [this, hu]
  obtain ⟨s, hs⟩ := Go.Deep.choose_lt each
  refine ⟨some a, m, (List.range len).map s, by simp, by unfold maxLen at hm; simp; omega, ?_, ?_⟩
  ·intro hn
   have h0 : 0 < len := by
    rcases Nat.eq_zero_or_pos len with h | h
    ·subst h; simp [fcells] at hn
    ·exact h
   refine ⟨a, rfl, ?_, fun j u hu => ?_⟩
   ·have := World.block_lt_of_cell? W _ ((hs 0 h0).1 0 _ rfl)
    rwa [add_block] at this
   ·have hj : j < len * 5 := by
     have := (List.getElem?_eq_some_iff.1 hu).1
     rw [fcells_length] at this
     simpa using this
    have hk : j / 5 < ((List.range len).map s).length := by simp; omega
    have ha := fcells_at ((List.range len).map s) (j / 5) hk (j % 5) (by omega)
    have hg : ((List.range len).map s)[j / 5] = s (j / 5) := by simp
    rw [hg, show j / 5 * 5 + j % 5 = j by omega] at ha
    have := (hs (j / 5) (by omega)).1 (j % 5) u (by rw [← ha, hu])
    rwa [show j / 5 * 5 + j % 5 = j by omega] at this
  ·intro x hx
   obtain ⟨i, hi, rfl⟩ := List.mem_map.1 hx
   exact (hs i (List.mem_range.1 hi)).2
end
end Go.Proofs.YtmcmlkglkpbnpaaGreat
namespace Go.Proofs.YtmcmlkglkpbnpaaGreat
open Go.RowKit
attribute [local go_sem ↓] Go.wp_at_zero Go.wp_at_succ
set_option maxHeartbeats 4000000 in
set_option maxRecDepth 100000 in
theorem files_off (name : ByteArray) (C : Int) (A : Option Addr) (c : Nat) (l : List AcF) (w : World) (h : 60 < l.length ∨ 20000 < name.size ∨ C < 0 ∨ 1000000 < C) :
  Calls Tryz.prog 3 #[.string name, .int .i64 C, .slice A l.length c] w fun e w' => e = .returned (.bool true) ∧ w.grownBy w' none := by
 have LV : Hid (∀ wx, Calls Tryz.prog 4 #[] wx fun e w' => e = .returned (.bool true) ∧ wx.grownBy w' none) := hide live_any
 by_cases h1 : 60 < l.length
 ·have q1 : (60 : Int) < (l.length : Int) := by omega
  clear h h1
  go_enter Tryz.func3, Tryz.ntmps3
  go_wp2_with (go_at_call 4; refine (LV.out _).mono ?_; rintro e w2 ⟨rfl, hg⟩; have HG2 := hide hg; clear hg)
  go_ret
  exact ⟨rfl, HG2.out⟩
 ·have q1 : ¬ (60 : Int) < (l.length : Int) := by omega
  by_cases h2 : 20000 < name.size
  ·have q2 : (20000 : Int) < (name.size : Int) := by omega
   clear h h1 h2
   go_enter Tryz.func3, Tryz.ntmps3
   go_wp2_with (go_at_call 4; refine (LV.out _).mono ?_; rintro e w2 ⟨rfl, hg⟩; have HG2 := hide hg; clear hg)
   go_ret
   exact ⟨rfl, HG2.out⟩
  ·have q2 : ¬ (20000 : Int) < (name.size : Int) := by omega
   by_cases h3 : C < 0
   ·clear h h1 h2
    go_enter Tryz.func3, Tryz.ntmps3
    go_wp2_with (go_at_call 4; refine (LV.out _).mono ?_; rintro e w2 ⟨rfl, hg⟩; have HG2 := hide hg; clear hg)
    go_ret
    exact ⟨rfl, HG2.out⟩
   ·have h4 : 1000000 < C := by omega
    clear h h1 h2
    go_enter Tryz.func3, Tryz.ntmps3
    go_wp2_with (go_at_call 4; refine (LV.out _).mono ?_; rintro e w2 ⟨rfl, hg⟩; have HG2 := hide hg; clear hg)
    go_ret
    exact ⟨rfl, HG2.out⟩
end Go.Proofs.YtmcmlkglkpbnpaaGreat
namespace Go.Proofs.YtmcmlkglkpbnpaaGreat
open Go.RowKit
theorem FcAt.grown {w w' : World} {b o : Nat} {x : AcF} (h : FcAt w b o x) (hg : w.grownBy w' none) : FcAt w' b o x :=
 ⟨cell_grown h.c0 hg, cell_grown h.c1 hg, cell_grown h.c2 hg, cell_grown h.c3 hg, cell_grown h.c4 hg⟩
theorem tcells_ne {tl : List Tn} (h : tl ≠ []) : tcells tl ≠ [] := fun e => h (by
 have := tcells_length tl
 rw [e] at this
 exact List.length_eq_zero_iff.1 (by simp at this; omega))
def StepY (K : Nat → Prop) (w1 : World) (g q D k : Nat) (o : Option (Int × List ByteArray)) (vt vw : Value) (wc : World) : Prop :=
 ∃ S R, Sim D k S R ∧ SyS K g q S R o vt vw wc ∧ (∀ n L, o = some (n, L) → KeepY L) ∧ Turned (fun i => ¬ K i) w1 wc
section
variable {K : Nat → Prop} {g q D k D' k' gF gD : Nat} {n : Int} {o : Option (Int × List ByteArray)} {S : St} {R : RS} {L : List ByteArray} {vt vw : Value} {w1 wc wx w' : World}
theorem SyS.none_ (h : SyS K g q S R none vt vw wx) : vt = .pointer none ∧ vw = .pointer none := by
 obtain ⟨Z, _, _, h3⟩ := h
 rcases h3 with ⟨_, h1, h2⟩ | ⟨n, L, gF, gD, ZP, ZD, h1, _⟩
 ·exact ⟨h1, h2⟩
 ·cases h1
theorem SyS.some_ (h : SyS K g q S R (some (n, L)) vt vw wx) : ∃ gF gD, vt = .pointer (some ⟨gF, 0, none⟩) ∧ vw = .pointer (some ⟨gD, 0, none⟩) := by
 obtain ⟨Z, _, _, h3⟩ := h
 rcases h3 with ⟨h0, _⟩ | ⟨_, _, gF, gD, ZP, ZD, _, h1, h2, _⟩
 ·cases h0
 ·exact ⟨gF, gD, h1, h2⟩
theorem StepY.none_ (h : StepY K w1 g q D k none vt vw wc) : vt = .pointer none ∧ vw = .pointer none := by
 obtain ⟨S, R, _, h, _⟩ := h
 exact h.none_
theorem StepY.some_ (h : StepY K w1 g q D k (some (n, L)) vt vw wc) : ∃ gF gD, vt = .pointer (some ⟨gF, 0, none⟩) ∧ vw = .pointer (some ⟨gD, 0, none⟩) := by
 obtain ⟨S, R, _, h, _⟩ := h
 exact h.some_
theorem StepY.turned (h : StepY K w1 g q D k o vt vw wc) : Turned (fun i => ¬ K i) w1 wc := by
 obtain ⟨S, R, _, _, _, h⟩ := h
 exact h
theorem StepY.to (h : StepY K w1 g q D k o vt vw wc) (hg : wc.grownBy w' none) : StepY K w1 g q D k o vt vw w' := by
 obtain ⟨S, R, h1, h2, h3, h4⟩ := h
 exact ⟨S, R, h1, h2.grown hg, h3, h4.trans (turned_gb (Z := K) hg) (fun _ _ h => h)⟩
theorem StepY.mono (h : StepY K w1 g q D k o vt vw wc) (hD : D ≤ D') (hk : k ≤ k') : StepY K w1 g q D' k' o vt vw wc := by
 obtain ⟨S, R, h1, h2, h3, h4⟩ := h
 exact ⟨S, R, h1.mono hD hk, h2, h3, h4⟩
theorem StepY.forget (h : StepY K w1 g q D k o vt vw wc) : StepY K w1 g q D k none (.pointer none) (.pointer none) wc := by
 obtain ⟨S, R, h1, h2, h3, h4⟩ := h
 exact ⟨S, R, h1, h2.forget, fun _ _ h => (by cases h), h4⟩
/-! ## The acts -/
theorem StepY.crash (h : StepY K w1 g q D k o vt vw wc) (hD : D ≤ 1600000) (hk : k ≤ 900) (dir : Int) (A : Option Addr) (c B : Nat) (tl : List Tn) (hr : Rd w1 B A (tcells tl)) (hB : B ≤ w1.heap.size) (hK : ∀ i, i < B → K i) (htl : tl.length ≤ c ∧ c ≤ maxLen) (hl : tl.length ≤ 300) :
  Calls Tryz.prog 8 #[.pointer (some ⟨g, 0, none⟩), .agg #[.int .i64 dir, .slice A tl.length c]] wc fun e w2 => e = .returned (.tuple #[]) ∧ Turned (fun i => ¬ K i) w1 w2 ∧
   Calls Tryz.prog 9 #[.pointer (some ⟨q, 0, none⟩), .agg #[.int .i64 dir, .slice A tl.length c]] w2 fun e w3 => e = .returned (.tuple #[]) ∧ StepY K w1 g q D (k + 1) none (.pointer none) (.pointer none) w3 := by
 obtain ⟨S, R, hs, ⟨Z, h1, h2, h3⟩, _, hT⟩ := h
 have hrx : ∀ wx, Turned (fun i => ¬ K i) w1 wx → Rd wx B A (tcells tl) := fun wx hx => hr.keep fun p hp => cell_same (hx.block p.block (Nat.lt_of_lt_of_le hp hB) (fun hn => hn (hK _ hp)))
 have hsz := hT.size
 refine (h2.pCrash hs hD (by omega) dir A c tl (gb_refl wc none) ((hrx wc hT).more (by omega)) (fun ad ha hne => .inl ?_) htl).mono fun e w2 hx => ?_
 ·obtain ⟨ad', h4, h5, _⟩ := hr (tcells_ne hne)
  rw [ha] at h4
  injection h4 with h4
  subst h4
  exact h1 _ (hK _ h5)
 ·obtain ⟨he, ks, k0, k1, hb⟩ := hx
  have hT2 : Turned (fun i => ¬ K i) w1 w2 := hT.trans (hb.turned.mono fun i _ hz hk => hz (h1 i hk)) (fun _ _ h => h)
  have hsz2 := hT2.size
  refine ⟨he, hT2, (hb.here.dCrash hs hD (by omega) dir A c B tl (hrx w2 hT2) (by omega) (by omega) (fun i hi => h1 i (hK i hi))).mono fun e w3 hx => ?_⟩
  exact ⟨hx.1, _, _, hs.crash dir tl ks k0 k1, ⟨Z, h1, hx.2.here, .inl ⟨rfl, rfl, rfl⟩⟩, fun n L h => (by cases h), hT2.trans (hx.2.turned.mono fun i _ hz hk => hz (h1 i hk)) (fun _ _ h => h)⟩
theorem StepY.arm (h : StepY K w1 g q D k o vt vw wc) (m : Int) (hm : m ≤ 9223372036854775807) :
  Calls Tryz.prog 10 #[.pointer (some ⟨g, 0, none⟩), .int .i64 m] wc fun e w2 => e = .returned (.tuple #[]) ∧ Turned (fun i => ¬ K i) w1 w2 ∧
   Calls Tryz.prog 11 #[.pointer (some ⟨q, 0, none⟩), .int .i64 m] w2 fun e w3 => e = .returned (.tuple #[]) ∧ StepY K w1 g q D (k + 1) o vt vw w3 := by
 obtain ⟨S, R, hs, ⟨Z, h1, h2, h3⟩, hkp, hT⟩ := h
 refine (h2.pArm m).mono fun e w2 hx => ?_
 have hT2 : Turned (fun i => ¬ K i) w1 w2 := hT.trans (hx.2.turned.mono fun i _ hz hk => hz (h1 i hk)) (fun _ _ h => h)
 refine ⟨hx.1, hT2, (hx.2.here.dArm m).mono fun e w3 hy => ?_⟩
 exact ⟨hy.1, _, _, hs.arm m hm, ⟨Z, h1, hy.2.here, (h3.keep hx.2.turned).keep hy.2.turned⟩, hkp, hT2.trans (hy.2.turned.mono fun i _ hz hk => hz (h1 i hk)) (fun _ _ h => h)⟩
theorem StepY.append {wb : World} (h : StepY K w1 g q D k (some (n, L)) vt (.pointer (some ⟨gD, 0, none⟩)) wc) (hD : D ≤ 1600000) (hk : k ≤ 900) (s : ByteArray) (hss : s.size ≤ 20000) (A : Option Addr) (m c : Nat) (hg : wc.grownBy wb none) (hr : Rd wb wb.heap.size A (u8s (bl s))) (hm : m = s.size) :
  Calls Tryz.prog 15 #[.pointer (some ⟨g, 0, none⟩), .int .i64 n, .slice A m c] wb fun e w2 => (∃ r : Int, e = .returned (.int .i64 r)) ∧ Turned (fun i => ¬ K i) w1 w2 ∧ w2.cell? ⟨gD, 2, none⟩ = some (.int .i64 n) ∧
   ∀ w3, w2.grownBy w3 none → Calls Tryz.prog 16 #[.pointer (some ⟨q, 0, none⟩), .int .i64 n, .string s] w3 fun e w4 => (∃ r : Int, e = .returned (.int .i64 r)) ∧ StepY K w1 g q (D + s.size) (k + 1) none (.pointer none) (.pointer none) w4 := by
 obtain ⟨S, R, hs, ⟨Z, h1, h2, h3⟩, _, hT⟩ := h
 rcases h3 with ⟨h0, _⟩ | ⟨n1, L1, gF1, gD1, ZP, ZD, e1, e2, e3, h4, h5, h6, h7⟩
 ·cases h0
 injection e1 with e1
 injection e1 with ea eb
 injection e3 with e3; injection e3 with e3; injection e3 with e3
 subst ea eb e3
 have hbl : m = (bl s).length := by rw [hm, bl_len]
 refine ((h2.keep hg).pAppend hs hD (by omega) n A m c wb.heap.size (bl s) hr (Nat.le_refl _) hbl (by rw [bl_len]; omega)).mono fun e w2 hx => ?_
 have hT2 : Turned (fun i => ¬ K i) w1 w2 := hT.trans (hx.2.turned.mono fun i _ hz hk => hz (h1 i hk)) (fun _ _ h => h)
 have hd := h5.keep hx.2.turned (fun i hm hz => hm (h7 i hz).1)
 obtain ⟨gT2, v, d1, d2, _⟩ := hd
 refine ⟨⟨_, hx.1⟩, hT2, by rw [blk_cell d1]; rfl, fun w3 hg3 => ((hx.2.here.keep hg3).dAppend hs hD (by omega) n s (by omega)).mono fun e w4 hy => ?_⟩
 exact ⟨⟨_, hy.1⟩, _, _, (hs.append n s).2, ⟨Z, h1, hy.2.here, .inl ⟨rfl, rfl, rfl⟩⟩, fun n L h => (by cases h), hT2.trans (hy.2.turned.mono fun i _ hz hk => hz (h1 i hk)) (fun _ _ h => h)⟩
theorem StepY.open_ (h : StepY K w1 g q D k o vt vw wc) (hD : D ≤ 1600000) (hk : k + 2 ≤ 1000) (a : ByteArray) : ∃ (er : Int) (o2 : Option (Int × List ByteArray)),
  Calls Tryz.prog 17 #[.pointer (some ⟨g, 0, none⟩), .string a] wc fun e w2 => ∃ vx, e = .returned (.tuple #[vx, .int .i64 er]) ∧ Turned (fun i => ¬ K i) w1 w2 ∧
   Calls Tryz.prog 18 #[.pointer (some ⟨q, 0, none⟩), .string a] w2 fun e w3 => ∃ vy, e = .returned (.tuple #[vy, .int .i64 er]) ∧ StepY K w1 g q D (k + 2) o2 vx vy w3 := by
 obtain ⟨S, R, hs, hy, _, hT⟩ := h
 refine ⟨(openA R a).2.1, (openA R a).2.2, (hy.open_ hs hD hk a).mono fun e w2 hx => ?_⟩
 obtain ⟨S', vx, he, hs', hT2, hc⟩ := hx
 refine ⟨vx, he, hT.trans hT2 (fun _ _ h => h), hc.mono fun e w3 hx => ?_⟩
 obtain ⟨vy, he3, hT3, hy3⟩ := hx
 exact ⟨vy, he3, S', _, hs', hy3, fun n L e => open_keep e, (hT.trans hT2 (fun _ _ h => h)).trans hT3 (fun _ _ h => h)⟩
theorem StepY.add {w5 : World} (h : StepY K w1 g q D k (some (n, L)) (.pointer (some ⟨gF, 0, none⟩)) (.pointer (some ⟨gD, 0, none⟩)) wc) (hD : D ≤ 1600000) (hk : k + 1 ≤ 1000) (l : List ByteArray) (A A2 : Option Addr) (c c2 : Nat) (hg : wc.grownBy w5 none)
  (hr : Rd w5 w5.heap.size A (strs l)) (hA : ∀ ad, A = some ad → l ≠ [] → wc.heap.size ≤ ad.block ∧ ad.block < w5.heap.size) (hr2 : Rd w5 w5.heap.size A2 (strs l)) (hA2 : ∀ ad, A2 = some ad → l ≠ [] → K ad.block) (hl : l.length ≤ 300) (hsz : ∀ s ∈ l, s.size ≤ 1000000000) : ∃ (er : Int) (L2 : List ByteArray),
  Calls Tryz.prog 19 #[.pointer (some ⟨gF, 0, none⟩), .slice A l.length c] w5 fun e w2 => ∃ vx, e = .returned (.tuple #[vx, .int .i64 er]) ∧ Turned (fun i => ¬ K i) w1 w2 ∧
   Calls Tryz.prog 20 #[.pointer (some ⟨gD, 0, none⟩), .slice A2 l.length c2] w2 fun e w3 => ∃ vy, e = .returned (.tuple #[vy, .int .i64 er]) ∧
    Calls Tryz.prog 21 #[vx, vy] w3 fun e w4 => e = .returned (.bool true) ∧ StepY K w1 g q (D + 24600) (k + 1) (some (n, L2)) (.pointer (some ⟨gF, 0, none⟩)) (.pointer (some ⟨gD, 0, none⟩)) w4 := by
 obtain ⟨S, R, hs, hy, hkp, hT⟩ := h
 have hy2 : SyS (fun i => K i ∨ (wc.heap.size ≤ i ∧ i < w5.heap.size)) g q S R (some (n, L)) (.pointer (some ⟨gF, 0, none⟩)) (.pointer (some ⟨gD, 0, none⟩)) w5 := hy.more hg fun i hi => hi
 have hT5 : Turned (fun i => ¬ K i) w1 w5 := hT.trans (turned_gb (Z := K) hg) (fun _ _ h => h)
 refine ⟨(addA R n L l).2.1, (addA R n L l).2.2.1, (hy2.add hs (hkp n L rfl) hD hk l A A2 c c2 hr (fun ad ha hne => .inr (hA ad ha hne)) hr2 (fun ad ha hne => .inl (hA2 ad ha hne)) hl hsz).mono fun e w2 hx => ?_⟩
 obtain ⟨S', vx, he, hs', hT2, hc⟩ := hx
 have hT6 : Turned (fun i => ¬ K i) w1 w2 := hT5.trans (hT2.mono fun i _ hz hk => hz (.inl hk)) (fun _ _ h => h)
 refine ⟨vx, he, hT6, hc.mono fun e w3 hx => ?_⟩
 obtain ⟨vy, he3, hT3, hy3, hc3⟩ := hx
 have hT7 : Turned (fun i => ¬ K i) w1 w3 := hT6.trans (hT3.mono fun i _ hz hk => hz (.inl hk)) (fun _ _ h => h)
 refine ⟨vy, he3, hc3.mono fun e w4 hx => ⟨hx.1, ?_⟩⟩
 exact StepY.to ⟨S', _, hs', hy3.less fun i hi => .inl hi, fun n' L' h => by injection h with h; injection h with _ h; rw [← h]; exact add_keep (hkp n L rfl), hT7⟩ hx.2
theorem StepY.both (h : StepY K w1 g q D k o vt vw wc) : ∃ S R, ∃ Z : Nat → Prop, Sim D k S R ∧ Bo wc Z g S q R wc ∧ (∀ i, K i → Z i) ∧ ∀ S' R' wz D' k', Sim D' k' S' R' → Bo wc Z g S' q R' wz → StepY K w1 g q D' k' o vt vw wz := by
 obtain ⟨S, R, hs, ⟨Z, h1, h2, h3⟩, hkp, hT⟩ := h
 exact ⟨S, R, Z, hs, h2, h1, fun S' R' wz D' k' hs' hb => ⟨S', R', hs', ⟨Z, h1, hb.here, h3.keep hb.turned⟩, hkp, hT.trans (hb.turned.mono fun i _ hz hk => hz (h1 i hk)) (fun _ _ h => h)⟩⟩
theorem StepY.two (h : StepY K w1 g q D k (some (n, L)) (.pointer (some ⟨gF, 0, none⟩)) (.pointer (some ⟨gD, 0, none⟩)) wc) : ∃ S R, ∃ Z : Nat → Prop, Sim D k S R ∧ Bo wc Z g S q R wc ∧ (∀ i, K i → Z i) ∧ (∃ ZP, ∀ wq, Turned (fun i => ¬ Z i) wc wq → PF ZP wq gF g n L) ∧
   (∃ gT2, ∀ wq, Turned (fun i => ¬ Z i) wc wq → wq.heap[gD]? = some (.cells #[.pointer (some ⟨gT2, 0, none⟩), .pointer (some ⟨q, 0, none⟩), .int .i64 n] 48 (0, 0))) ∧
   ∀ S' R' wz D' k', Sim D' k' S' R' → Bo wc Z g S' q R' wz → StepY K w1 g q D' k' (some (n, L)) (.pointer (some ⟨gF, 0, none⟩)) (.pointer (some ⟨gD, 0, none⟩)) wz := by
 obtain ⟨S, R, hs, ⟨Z, h1, h2, h3⟩, hkp, hT⟩ := h
 have h3' := h3
 rcases h3' with ⟨h0, _⟩ | ⟨n1, L1, gF1, gD1, ZP, ZD, e1, e2, e3, h4, h5, h6, h7⟩
 ·cases h0
 injection e1 with e1
 injection e1 with ea eb
 injection e2 with e2; injection e2 with e2; injection e2 with e2
 injection e3 with e3; injection e3 with e3; injection e3 with e3
 subst ea eb e2 e3
 obtain ⟨gT2, v, d1, d2, d3, d4⟩ := h5
 exact ⟨S, R, Z, hs, h2, h1, ⟨ZP, fun wq hq => h4.keep hq fun i hm hz => hm (h6 i hz).1⟩, ⟨gT2, fun wq hq => (hq.block gD (blk_lt d1) fun hz => hz (h7 gD d3).1).trans d1⟩,
  fun S' R' wz D' k' hs' hb => ⟨S', R', hs', ⟨Z, h1, hb.here, h3.keep hb.turned⟩, hkp, hT.trans (hb.turned.mono fun i _ hz hk => hz (h1 i hk)) (fun _ _ h => h)⟩⟩
theorem StepY.asks (h : StepY K w1 g q D k (some (n, L)) (.pointer (some ⟨gF, 0, none⟩)) (.pointer (some ⟨gD, 0, none⟩)) wc) :
  ∃ gT gT2 A c, wc.cell? ⟨gF, 0, none⟩ = some (.pointer (some ⟨gT, 0, none⟩)) ∧ wc.cell? ⟨gD, 0, none⟩ = some (.pointer (some ⟨gT2, 0, none⟩)) ∧ wc.cell? ⟨gD, 1, none⟩ = some (.pointer (some ⟨q, 0, none⟩)) ∧ wc.cell? ⟨gD, 2, none⟩ = some (.int .i64 n) ∧ wc.cell? ⟨gT2, 0, none⟩ = some (.slice A L.length c) ∧
   (∀ w2 s m, wc.grownBy w2 none → Calls Tryz.prog 24 #[.pointer (some ⟨gT, 0, none⟩), .pointer (some ⟨gT2, 0, none⟩), .string s, .int .i64 m] w2 fun e w' => e = .returned (.bool true) ∧ w2.grownBy w' none) ∧
   (∀ w2, wc.grownBy w2 none → Calls Tryz.prog 25 #[.pointer (some ⟨gF, 0, none⟩)] w2 fun e w' => e = .returned (.int .i64 (L.length : Int)) ∧ w2.grownBy w' none) := by
 obtain ⟨S, R, hs, hy, hkp, hT⟩ := h
 exact hy.asks (hkp n L rfl)
end
def RoundY (w0 : World) (g q j : Nat) (vt vw : Value) (wr : World) : Prop :=
 ∃ S R o, Sim (25000 * j) (4 * j) S R ∧ w0.grownBy wr none ∧ SyS (fun i => i < w0.heap.size) g q S R o vt vw wr ∧ ∀ n L, o = some (n, L) → KeepY L
theorem RoundY.new {w w1 w2 : World} {C : Int} {g : Nat} {L : Nat → Nat} (h0 : ¬ C < 0) (h1 : ¬ 67108864 < C) (hw : w.grownBy w1 none) (hL : FsAt w1 L g (St.new C)) (hl : ∀ i, L i ≠ 0 → w.heap.size ≤ i) (hg : w1.grownBy w2 none)
  (hR : RAt w2 w1.heap.size (newRS C) [] [] (.slice none 0 0) (.slice none 0 0) (.slice none 0 0) (.slice none 0 0)) : RoundY w g w1.heap.size 0 (.pointer none) (.pointer none) w2 := by
 have hsz := hw.size
 have hbo : Bo w (fun i => i < w.heap.size) g (St.new C) w1.heap.size (newRS C) w2 := by
  refine ⟨L, fun i => i = w1.heap.size, hL.grown hg, ⟨[], [], _, _, _, _, hR, fun i hi => ?_⟩, Turned.of_gb (gb_trans hw hg (.inl rfl)) (by simp), fun i hi => ?_, fun i hi => ⟨Classical.byContradiction fun hc => ?_, hi⟩⟩
  ·have hb := blk_lt hR.box
   simp [ROwn, Value.ownBlock] at hi
   exact ⟨hi, by omega⟩
  ·subst hi
   refine ⟨Classical.byContradiction fun hc => ?_, blk_lt hR.box, by omega⟩
   have := hL.lts hc
   omega
  ·have := hl i hc
   omega
 exact ⟨_, _, none, Sim.new h0 h1, gb_trans hw hg (.inl rfl), ⟨_, fun _ h => h, hbo.here, .inl ⟨rfl, rfl, rfl⟩⟩, fun n L h => (by cases h)⟩
theorem RoundY.step {w0 wr w1 : World} {g q j bx : Nat} {vt vw : Value} (h : RoundY w0 g q j vt vw wr) (hg : wr.grownBy w1 none) (hbx : bx = wr.heap.size) (hlt : bx < w1.heap.size) :
  w0.grownBy w1 none ∧ ∃ o, StepY (fun i => i < w0.heap.size ∨ i = bx) w1 g q (25000 * j) (4 * j) o vt vw w1 := by
 obtain ⟨S, R, o, hs, hgr, hy, hkp⟩ := h
 exact ⟨gb_trans hgr hg (.inl rfl), o, S, R, hs, hy.more hg fun i hi => hi.imp id fun e => by omega, hkp, Turned.refl _ _⟩
theorem RoundY.next {w0 w1 wc : World} {g q j bx D k : Nat} {o : Option (Int × List ByteArray)} {vt vw : Value} (hg : w0.grownBy w1 none) (h : StepY (fun i => i < w0.heap.size ∨ i = bx) w1 g q D k o vt vw wc) (hD : D ≤ 25000 * (j + 1)) (hk : k ≤ 4 * (j + 1)) : RoundY w0 g q (j + 1) vt vw wc := by
 obtain ⟨S, R, hs, hy, hkp, hT⟩ := h
 refine ⟨S, R, o, hs.mono hD hk, ⟨hT.os.trans hg.os, hT.tape.trans hg.tape, hT.output.trans hg.output, Nat.le_trans hg.size hT.size, fun i hi _ => ?_⟩, hy.less fun i hi => .inl hi, hkp⟩
 exact (hT.block i (Nat.lt_of_lt_of_le hi hg.size) fun hn => hn (.inl hi)).trans (hg.block i hi (by simp))
end Go.Proofs.YtmcmlkglkpbnpaaGreat
namespace Go.Proofs.YtmcmlkglkpbnpaaGreat
open Go.RowKit
attribute [local go_sem ↓] Go.wp_at_zero Go.wp_at_succ
theorem Tryz.infoStr5 : (Tryz.prog.info? 9).map (fun i => (i.zero, i.size, i.bytes)) = some (some (.string ⟨#[]⟩), 1, 16) := by kernel_rfl
def RowC (s : ByteArray) : Fct := fun v w => ∃ A c, v = .slice A s.size c ∧ Rd w w.heap.size A (u8s (bl s))
theorem RowC.up (s : ByteArray) : Fct.Up (RowC s) := fun _ _ _ ⟨A, c, h1, h2⟩ hg => ⟨A, c, h1, (h2.grown hg (Nat.le_refl _) (by simp)).more hg.size⟩
theorem own_ad {w : World} {base n c : Nat} {e : TypeId} {A : Option Addr} {xs : List Value} (h : w.ownsRow base e 1 (.slice A n c) n xs) : ∀ ad, A = some ad → base ≤ ad.block ∧ ad.block < w.heap.size := fun ad ha => by
 rcases h.2 with ⟨h1, _⟩ | ⟨g, cap, cur, hv, h1, h2, _⟩
 ·injection h1 with h1
  rw [ha] at h1; cases h1
 ·injection hv with hv
  rw [ha] at hv
  injection hv with hv
  subst hv
  exact ⟨h1, blk_lt h2⟩
theorem bo_fsyncR {Z ZP : Nat → Prop} {g q D k gF : Nat} {n : Int} {S : St} {R Rq : RS} {L : List ByteArray} {B0 wq : World} (h : Bo B0 Z g S q Rq wq) (hs : Sim D k S R) (hp : PF ZP wq gF g n L) (hD : D ≤ 1600000) (hk : k + 1 ≤ 1000) :
  Calls Tryz.prog 22 #[.pointer (some ⟨gF, 0, none⟩)] wq fun e w' => e = .returned (.int .i64 (syncR R n).1) ∧ Bo B0 Z g (S.sync n) q Rq w' := bo_fsync h hs hp hD hk
theorem RoundY.grown {w0 wr : World} {g q j : Nat} {vt vw : Value} (h : RoundY w0 g q j vt vw wr) : w0.grownBy wr none := by
 obtain ⟨_, _, _, _, h, _⟩ := h
 exact h
theorem wrap_j5 {j : Nat} (h : j ≤ 800) : wrap64 ((j : Int) + 1) = ((j + 1 : Nat) : Int) := by unfold wrap64; omega
structure Sub2 (G : Prop) where
 A : Prop
 B : Prop
 h : A → B → G
structure Sub3 (G : Prop) where
 A : Prop
 B : Prop
 C : Prop
 h : A → B → C → G
set_option maxHeartbeats 8000000 in
set_option maxRecDepth 100000 in
noncomputable def filesT : Sub2 (∀ (name : ByteArray) (C : Int) (A : Option Addr) (c : Nat) (l : List AcF) (w : World), Rd w w.heap.size A (fcells l) → (∀ x ∈ l, x.Ok w) → l.length ≤ 60 → name.size ≤ 20000 → 0 ≤ C → C ≤ 1000000 →
  Calls Tryz.prog 3 #[.string name, .int .i64 C, .slice A l.length c] w fun e w' => e = .returned (.bool true) ∧ w.grownBy w' none) := by
 apply Sub2.mk
 case h =>
  intro hFIRST hREST name C A c l w hr hx h1 h2 h3 h4
  have HFIRST := hide hFIRST
  have HREST := hide hREST
  clear hFIRST hREST
  have LV : Hid (∀ wx, Calls Tryz.prog 4 #[] wx fun e w' => e = .returned (.bool true) ∧ wx.grownBy w' none) := hide live_any
  have q1 : ¬ (60 : Int) < (l.length : Int) := by omega
  have q2 : ¬ (20000 : Int) < (name.size : Int) := by omega
  have q3 : ¬ C < 0 := by omega
  have q4 : ¬ 1000000 < C := by omega
  have HR := hide hr
  have HX := hide hx
  have H1 := hide h1
  have H2 := hide h2
  have H3 := hide h3
  have H4 : Hid (C ≤ 67108864) := hide (by omega)
  clear hr hx h1 h2 h3 h4
  go_enter Tryz.func3, Tryz.ntmps3
  go_wp2_with (first
   | (go_at_call 5; refine (new_ok C _ H3.out H4.out).mono ?_; rintro e w2 ⟨g, L, rfl, hL, hg, hl⟩; have HFS := hide hL; have HG2 := hide hg; have HLL := hide hl; clear hL hg hl)
   | (go_at_call 6; refine (rNew_ok C _ (Int.not_lt.2 H3.out) (Int.not_lt.2 H4.out)).mono ?_; rintro e w3 ⟨rfl, hg, hR⟩; have HN3 := hide (RoundY.new (Int.not_lt.2 H3.out) (Int.not_lt.2 H4.out) HG2.out HFS.out (fun i hi => HLL.out i hi) hg hR); clear hg hR))
  have HRY := hide HN3.out
  generalize w2.heap.size = q at *
  clear HFS HG2 HLL HN3 q1 q2 q3 q4
  go_loopw [11, 12, 13] (fun vt vw i wr => ∃ j : Nat, i = .int .i64 (j : Int) ∧ j ≤ l.length ∧ RoundY w g q j vt vw wr) (fun _ _ i _ => l.length - (intOf i).toNat)
  case atStart => exact ⟨0, rfl, Nat.zero_le _, HRY.out⟩
  case round =>
   obtain ⟨j, rfl, hj, hry⟩ := hrel
   clear HRY
   have HRY := hide hry
   clear hry
   by_cases hlt : j < l.length
   ·have hlt1 : (j : Int) < (l.length : Int) := by omega
    have HJ : Hid (j ≤ 59) := hide (by have := H1.out; omega)
    have hgr := HRY.out.grown
    obtain ⟨b, oo, rfl, hbB, hac⟩ := HR.out.fact hlt
    replace hac := hac.grown hgr
    have HOK := hide (HX.out _ (List.getElem_mem hlt))
    have HLT := hide hlt
    clear hbB
    generalize l[j] = x at *
    clear hlt
    obtain ⟨a0, a1, a2, a3, a4⟩ := hac
    obtain ⟨w1, hw1⟩ : ∃ w1, w1 = wr.alloc (.cells x.cells.toArray 38) := ⟨_, rfl⟩
    have hg1 : wr.grownBy w1 none := by rw [hw1]; exact gb_alloc (gb_refl wr none) _
    have hb1 : w1.heap[wr.heap.size]? = some (.cells x.cells.toArray 38 (0, 0)) := by rw [hw1]; exact heap_alloc_new wr _
    have HWE := hide hw1
    have HB1 := hide hb1
    have HG1 := hide hg1
    have HGR := hide hgr
    clear hw1 hb1 hg1 hgr
    go_upto_region 13 with fail
    rw [← show x.cells.toArray = #[.int .i64 x.kind, .slice x.lA x.l.length x.lc, .int .i64 x.n, .int .i64 x.dir, .slice x.tA x.tl.length x.tc] from rfl, ← HWE.out]
    obtain ⟨hgw, o, hst⟩ := HRY.out.step HG1.out rfl (blk_lt HB1.out)
    have HGW := hide hgw
    have HST := hide hst
    have HBL : Hid (w.heap.size ≤ w1.heap.size) := hide hgw.size
    have HSTR := hide (HOK.out.strs.grown hgw (Nat.le_refl _) (by simp))
    have HTRN := hide (HOK.out.torn.grown hgw (Nat.le_refl _) (by simp))
    have HSM := hide HOK.out.small
    have HNB := hide HOK.out.nb
    have HTC := hide HOK.out.tcap
    have HHU : Hid (Calls Tryz.prog 7 #[.slice x.lA x.l.length x.lc] w1 fun e w' => e = .returned (.bool (hugeB x.l)) ∧ w1 = w') := hide (huge_any x.lA x.lc w.heap.size x.l w1 HSTR.out (fun s hs => Nat.le_trans (HSM.out s hs) (by decide)))
    have hwr1 := HGR.out
    clear a0 a1 a2 a3 a4 HWE HRY HG1 HOK hgw hst hwr1 HGR
    generalize wr.heap.size = bx at *
    clear wr
    have hb1 := HB1.out
    have e0 : w1.cell? ⟨bx, 0, none⟩ = some (.int .i64 x.kind) := by rw [blk_cell hb1]; rfl
    have e1 : w1.cell? ⟨bx, 1, none⟩ = some (.slice x.lA x.l.length x.lc) := by rw [blk_cell hb1]; rfl
    have e2 : w1.cell? ⟨bx, 2, none⟩ = some (.int .i64 x.n) := by rw [blk_cell hb1]; rfl
    have e3 : w1.cell? ⟨bx, 3, none⟩ = some (.int .i64 x.dir) := by rw [blk_cell hb1]; rfl
    have e4 : w1.cell? ⟨bx, 4, none⟩ = some (.slice x.tA x.tl.length x.tc) := by rw [blk_cell hb1]; rfl
    clear hb1
    have HCE : Hid (∀ wx, Turned (fun i => ¬ (fun i => i < w.heap.size ∨ i = bx) i) w1 wx → wx.heap[bx]? = some (.cells x.cells.toArray 38 (0, 0))) := hide fun wx hT => (hT.block bx (blk_lt HB1.out) fun hn => hn (.inr rfl)).trans HB1.out
    cases hhu : hugeB x.l with
    | true =>
     rw [hhu] at HHU
     clear hhu
     go_wp2_with (first
      | (go_at_call 7; refine HHU.out.mono ?_; rintro e wq ⟨rfl, rfl⟩)
      | (go_at_call 4; refine (LV.out _).mono ?_; rintro e w5 ⟨rfl, hg⟩; have HG5 := hide hg; clear hg))
     go_ret
     exact ⟨rfl, gb_trans HGW.out HG5.out (.inl rfl)⟩
    | false =>
    obtain ⟨hl300, hlsum⟩ := not_huge hhu
    rw [hhu] at HHU
    have HL3 := hide hl300
    have HLS := hide hlsum
    clear hhu hl300 hlsum
    by_cases htl : 300 < x.tl.length
    ·have htl1 : (300 : Int) < (x.tl.length : Int) := by omega
     clear htl
     go_wp2_with (first
      | (go_at_call 7; refine HHU.out.mono ?_; rintro e wq ⟨rfl, rfl⟩)
      | (go_at_call 4; refine (LV.out _).mono ?_; rintro e w5 ⟨rfl, hg⟩; have HG5 := hide hg; clear hg))
     go_ret
     exact ⟨rfl, gb_trans HGW.out HG5.out (.inl rfl)⟩
    have htl1 : ¬ (300 : Int) < (x.tl.length : Int) := by omega
    have HT3 : Hid (x.tl.length ≤ 300) := hide (by omega)
    clear htl
    go_upto_block 2 with (go_at_call 7; refine HHU.out.mono ?_; rintro e wq ⟨rfl, rfl⟩)
    clear HHU htl1
    rename_i QA KA aA QB KB aB h3 KC aC
    go_cut [11, 12] (fun vt2 vw2 wc => ∃ o2 D2, StepY (fun i => i < w.heap.size ∨ i = bx) w1 g q D2 (4 * j + 1) o2 vt2 vw2 wc ∧ D2 ≤ 25000 * j + 20000 ∧ (x.kind = 0 → D2 ≤ 25000 * j))
    case first =>
     rename_i JD KD aD aE
     clear LV HX H1 H2 H3 H4 HR HLT HGW HSM HL3 hj hlt1 h3
     revert name C c l w QA g KA aA q u6 u11 u12 u14 u15 u16 u17 u18 u19 u20 u21 u22 u52 u53 u54 u55 u56 u57 u58 u59 u60 u61 u62 u63 u64 u65 u66 u67 u68 u69 u70 u71 u72 u73 u74 u75 u76 u77 u78 u79 u80 u81 u82 u83 u84 u85 u86 u87 u88 u89 u90 u91 u92 u93 u94 u95 u96 u97 u98 u99 u100 u101 u102 u103 u104 u105 u106 u107 u108 u109 u110 u111 u112 u113 u114 u115 u116 u117 u118 u119 u120 u121 u122 u123 u124 u125 u126 u127 u128 u129 u130 u131 u132 u133 u134 u135 u136 u137 u138 u139 u140 u141 u142 u143 u144 u145 u146 u147 u148 u149 u150 u151 u152 u153 u154 u155 u156 u157 u158 u159 u160 u161 u162 u163 u164 u165 u166 u167 u168 u169 u170 u171 u172 u173 u174 u175 u176 u177 u178 u179 u180 u181 u182 u183 u184 u185 u186 u187 u188 u189 u190 u191 u192 u193 u194 u195 u196 u197 u198 u199 u200 u201 u202 u203 u204 u205 u206 u207 u208 u209 u210 u211 u212 u213 u214 u215 u216 u217 u218 u219 u220 u221 u222 u223 u224 u225 u226 u227 u228 u229 u230 u231 u232 u233 u234 u235 u236 u237 u238 u239 u240 u241 u242 u243 u244 u245 u246 u247 u248 u249 u250 u251 u252 u253 u254 u255 u256 u257 u258 u259 u260 u261 j HJ b oo x w1 QB KB aB o HBL HSTR HTRN HNB HTC bx HB1 HST e0 e1 e2 e3 e4 HCE HLS HT3 KC aC JD KD aD aE
     exact HFIRST.out
    case rest =>
     rename_i v6 v11 v12 v52 v53 v54 v55 v56 v57 v58 v59 v60 v61 v62 v63 v64 v65 v66 v67 v68 v69 v70 v71 v72 v73 v75 v76 v77 v78 v79 v80 v81 v82 v83 v84 v85 v86 v87 v88 v89 v90 v91 v92 v93 v94 v95 v96 v97 v98 v99 v100 v101 v102 v103 v104 v105 v106 v107 v108 v109 v110 v111 v112 v113 v114 v115 v116 v117 v118 v119 v120 v121 v122 v123 v124 v125 v126 v127 v128 v129 v130 v131 v132 v133 v134 v135 v136 v137 v138 v139 v140 v141 v142 v143 v144 v145 v146 v147 v148 v149 v150 v151 v152 v153 v154 v155 v156 v157 v158 v159 v160 v161 v162 v163 v164 v165 v166 v167 v168 v169 v170 v171 v172 v173 v174 v175 v176 v177 v178 v179 v180 v181 v182 v183 v184 v185 v186 v187 v188 v189 v190 v191 v192 v193 v194 v195 v196 v197 v198 v199 v200 v201 v202 v203 v204 v205 v206 v207 v208 v209 v210 v211 v212 v213 v214 v215 v216 v217 v218 v219 v220 v221 v222 v223 v224 v225 v226 v227 v228 v229 v230 v231 v232 v233 v234 v235 v236 v237 v238 v239 v240 v241 v242 v243 v244 v245 v246 v247 v248 v249 v250 v251 v252 v253 v254 v255 v256 v257 v258 v259 v260 v261
     clear LV HX H1 H2 H3 H4 HR HST HTRN HNB HTC HT3 HB1 e0 e1 e2 e3 e4 hj hlt1 h3
     revert name C c l w QA g KA aA q v6 v11 v12 u14 u15 u16 u17 u18 u19 u20 u21 u22 v52 v53 v54 v55 v56 v57 v58 v59 v60 v61 v62 v63 v64 v65 v66 v67 v68 v69 v70 v71 v72 v73 u74 v75 v76 v77 v78 v79 v80 v81 v82 v83 v84 v85 v86 v87 v88 v89 v90 v91 v92 v93 v94 v95 v96 v97 v98 v99 v100 v101 v102 v103 v104 v105 v106 v107 v108 v109 v110 v111 v112 v113 v114 v115 v116 v117 v118 v119 v120 v121 v122 v123 v124 v125 v126 v127 v128 v129 v130 v131 v132 v133 v134 v135 v136 v137 v138 v139 v140 v141 v142 v143 v144 v145 v146 v147 v148 v149 v150 v151 v152 v153 v154 v155 v156 v157 v158 v159 v160 v161 v162 v163 v164 v165 v166 v167 v168 v169 v170 v171 v172 v173 v174 v175 v176 v177 v178 v179 v180 v181 v182 v183 v184 v185 v186 v187 v188 v189 v190 v191 v192 v193 v194 v195 v196 v197 v198 v199 v200 v201 v202 v203 v204 v205 v206 v207 v208 v209 v210 v211 v212 v213 v214 v215 v216 v217 v218 v219 v220 v221 v222 v223 v224 v225 v226 v227 v228 v229 v230 v231 v232 v233 v234 v235 v236 v237 v238 v239 v240 v241 v242 v243 v244 v245 v246 v247 v248 v249 v250 v251 v252 v253 v254 v255 v256 v257 v258 v259 v260 v261 j HJ b oo HLT x w1 QB KB aB HGW HBL HSTR HSM bx HCE HL3 HLS KC aC wc u6 u11 u12 u52 u53 u54 u55 u56 u57 u58 u59 u60 u61 u62 u63 u64 u65 u66 u67 u68 u69 u70 u71 u72 u73 u75 u76 u77 u78 u79 u80 u81 u82 u83 u84 u85 u86 u87 u88 u89 u90 u91 u92 u93 u94 u95 u96 u97 u98 u99 u100 u101 u102 u103 u104 u105 u106 u107 u108 u109 u110 u111 u112 u113 u114 u115 u116 u117 u118 u119 u120 u121 u122 u123 u124 u125 u126 u127 u128 u129 u130 u131 u132 u133 u134 u135 u136 u137 u138 u139 u140 u141 u142 u143 u144 u145 u146 u147 u148 u149 u150 u151 u152 u153 u154 u155 u156 u157 u158 u159 u160 u161 u162 u163 u164 u165 u166 u167 u168 u169 u170 u171 u172 u173 u174 u175 u176 u177 u178 u179 u180 u181 u182 u183 u184 u185 u186 u187 u188 u189 u190 u191 u192 u193 u194 u195 u196 u197 u198 u199 u200 u201 u202 u203 u204 u205 u206 u207 u208 u209 u210 u211 u212 u213 u214 u215 u216 u217 u218 u219 u220 u221 u222 u223 u224 u225 u226 u227 u228 u229 u230 u231 u232 u233 u234 u235 u236 u237 u238 u239 u240 u241 u242 u243 u244 u245 u246 u247 u248 u249 u250 u251 u252 u253 u254 u255 u256 u257 u258 u259 u260 u261 hcut
     exact HREST.out
   ·have hlt1 : ¬ (j : Int) < (l.length : Int) := by omega
    have HG := hide HRY.out.grown
    go_wp2_with (go_at_call 4; refine (LV.out _).mono ?_; rintro e w5 ⟨rfl, hg⟩; have HG5 := hide hg; clear hg)
    rename_i heq
    injection heq with heq
    subst heq
    go_ret
    exact ⟨rfl, gb_trans HG.out HG5.out (.inl rfl)⟩
end Go.Proofs.YtmcmlkglkpbnpaaGreat
