/-
  The law VecParts tells true of every value of bounded size, every number and all places.
-/
import Derived.Test.YtkbflmaflokpdaaGreatQPj
import Derived.Test.YtkbflmaflokpdaaGreatQLe
import Derived.Test.YtkbflmaflokpdaaGreatQLa

namespace Go.Proofs.YtkbflmaflokpdaaGreat
open Go.RowKit
attribute [local go_sem ↓] Go.wp_at_zero Go.wp_at_succ

theorem rdV_one {w : World} {a : Vl} {x0 x1 x2 x3 : Value} (h1 : VAt w w.heap.size a [x0, x1, x2, x3]) :
    RdV (w.alloc (.cells #[x0, x1, x2, x3] 26)) (w.heap.size + 1) (some ⟨w.heap.size, 0, none⟩) [a] := by
  have hg := gb_alloc (gb_refl w none) (.cells #[x0, x1, x2, x3] 26)
  exact ⟨[[x0, x1, x2, x3]], Rd.new w _ _ _ rfl, _, _, rfl, (h1.gb hg (Nat.le_refl _)).up (Nat.le_succ _), rfl⟩
/-- The two boxes that the law writes again and again, both younger than world Ww. -/
structure Sg (Ww W : World) (ba bb : Nat) : Prop where
  g : Ww.grownBy W none
  ha : ∃ x0 x1 x2 x3, W.heap[ba]? = some (.cells #[x0, x1, x2, x3] 26 (0, 0))
  hb : ∃ x0 x1 x2 x3, W.heap[bb]? = some (.cells #[x0, x1, x2, x3] 26 (0, 0))
  la : Ww.heap.size ≤ ba
  lb : ba < bb
theorem Sg.gb {Ww W W' : World} {ba bb : Nat} (h : Sg Ww W ba bb) (hg : W.grownBy W' none) : Sg Ww W' ba bb := by
  obtain ⟨x0, x1, x2, x3, ha⟩ := h.ha
  obtain ⟨y0, y1, y2, y3, hb⟩ := h.hb
  exact ⟨gb_trans h.g hg (.inl rfl), ⟨x0, x1, x2, x3, blk_keep ha hg (by simp)⟩, ⟨y0, y1, y2, y3, blk_keep hb hg (by simp)⟩, h.la, h.lb⟩
theorem Sg.first {Ww W W2 w3 : World} {ba bb : Nat} {y : Vl} {anA : Option Addr} {anc : Nat} {asA : Option Addr} {asc : Nat} {alA : Option Addr} {alc : Nat} {f : List Nat} (h : Sg Ww W ba bb) (ho : VOw w3 y [.int .i64 y.t, .slice anA y.n.length anc, .slice asA y.s.length asc, .slice alA y.l.length alc] f) (hn : New W w3 f) (hg : W.grownBy w3 none) (e : W2 = ((((w3.setCell ⟨ba, 0, none⟩ (.int .i64 y.t)).setCell ⟨ba, 1, none⟩ (.slice anA y.n.length anc)).setCell ⟨ba, 2, none⟩ (.slice asA y.s.length asc)).setCell ⟨ba, 3, none⟩ (.slice alA y.l.length alc))) :
    Sg Ww W2 ba bb ∧ W2.heap[ba]? = some (.cells #[.int .i64 y.t, .slice anA y.n.length anc, .slice asA y.s.length asc, .slice alA y.l.length alc] 26 (0, 0)) ∧ VOw W2 y [.int .i64 y.t, .slice anA y.n.length anc, .slice asA y.s.length asc, .slice alA y.l.length alc] f ∧ (∀ b ∈ f, bb < b ∧ b < W2.heap.size) := by
  subst e
  obtain ⟨x0, x1, x2, x3, ha⟩ := (h.gb hg).ha
  obtain ⟨y0, y1, y2, y3, hb⟩ := (h.gb hg).hb
  obtain ⟨_, _, _, _, hb0⟩ := h.hb
  have h1 := blk_lt hb0
  have h2 := h.lb
  have hp := put_four ha (.int .i64 y.t) (.slice anA y.n.length anc) (.slice asA y.s.length asc) (.slice alA y.l.length alc)
  refine ⟨⟨put_four_gb (h.gb hg).g h.la _ _ _ _, ⟨_, _, _, _, hp⟩, ⟨y0, y1, y2, y3, (put_four_other (by omega) _ _ _ _).trans hb⟩, h.la, h.lb⟩, hp, VOw.keep _ _ _ ho fun b hm => put_four_other (by have := (hn.2 b hm).1; omega) _ _ _ _, fun b hm => ⟨by have := (hn.2 b hm).1; omega, ?_⟩⟩
  have h3 := (hn.2 b hm).2
  simp [World.setCell]
  exact h3
theorem Sg.second {Ww W2 W3 w4 : World} {ba bb : Nat} {y : Vl} {anA : Option Addr} {anc : Nat} {asA : Option Addr} {asc : Nat} {alA : Option Addr} {alc : Nat} {bnA : Option Addr} {bnc : Nat} {bsA : Option Addr} {bsc : Nat} {blA : Option Addr} {blc : Nat} {f f2 : List Nat} (h : Sg Ww W2 ba bb) (hA : W2.heap[ba]? = some (.cells #[.int .i64 y.t, .slice anA y.n.length anc, .slice asA y.s.length asc, .slice alA y.l.length alc] 26 (0, 0))) (hoA : VOw W2 y [.int .i64 y.t, .slice anA y.n.length anc, .slice asA y.s.length asc, .slice alA y.l.length alc] f) (hfA : ∀ b ∈ f, bb < b ∧ b < W2.heap.size)
    (ho : VOw w4 y [.int .i64 y.t, .slice bnA y.n.length bnc, .slice bsA y.s.length bsc, .slice blA y.l.length blc] f2) (hn : New W2 w4 f2) (hg : W2.grownBy w4 none) (e : W3 = ((((w4.setCell ⟨bb, 0, none⟩ (.int .i64 y.t)).setCell ⟨bb, 1, none⟩ (.slice bnA y.n.length bnc)).setCell ⟨bb, 2, none⟩ (.slice bsA y.s.length bsc)).setCell ⟨bb, 3, none⟩ (.slice blA y.l.length blc))) :
    Sg Ww W3 ba bb ∧ W3.heap[ba]? = some (.cells #[.int .i64 y.t, .slice anA y.n.length anc, .slice asA y.s.length asc, .slice alA y.l.length alc] 26 (0, 0)) ∧ VB W3 W3.heap.size y anA anc asA asc alA alc ∧ W3.heap[bb]? = some (.cells #[.int .i64 y.t, .slice bnA y.n.length bnc, .slice bsA y.s.length bsc, .slice blA y.l.length blc] 26 (0, 0)) ∧ VB W3 W3.heap.size y bnA bnc bsA bsc blA blc := by
  subst e
  obtain ⟨x0, x1, x2, x3, ha⟩ := (h.gb hg).ha
  obtain ⟨y0, y1, y2, y3, hb⟩ := (h.gb hg).hb
  obtain ⟨_, _, _, _, hb0⟩ := h.hb
  have h1 := blk_lt hb0
  have h2 := h.lb
  have hp := put_four hb (.int .i64 y.t) (.slice bnA y.n.length bnc) (.slice bsA y.s.length bsc) (.slice blA y.l.length blc)
  have hA4 := blk_keep hA hg (by simp)
  refine ⟨⟨put_four_gb (h.gb hg).g (by have := h.la; omega) _ _ _ _, ⟨x0, x1, x2, x3, (put_four_other (by omega) _ _ _ _).trans ha⟩, ⟨_, _, _, _, hp⟩, h.la, h.lb⟩, (put_four_other (by omega) _ _ _ _).trans hA4, ?_, hp, ?_⟩
  · exact (VOw.keep _ _ _ (hoA.gb hg) fun b hm => put_four_other (by have := (hfA b hm).1; omega) _ _ _ _).vb
  · exact (VOw.keep _ _ _ ho fun b hm => put_four_other (by have := (hn.2 b hm).1; omega) _ _ _ _).vb
/-- Which numbers are asked of. -/
def NOk (n : Int) : Prop := (-1000 ≤ n ∧ n ≤ 1000) ∨ 65536 < n ∨ n < -65536
/-- Behind the first test. -/
def CutA (v : Vl) (n : Int) (ps : List Int) (wa : World) (b : Value) (wc : World) : Prop := ∃ r : Bool, b = .bool r ∧ (r = false → checkV v = 0 ∧ ps.length ≤ 1000 ∧ NOk n) ∧ wa.grownBy wc none
/-- Behind the second. -/
def CutB (wa : World) (b : Value) (wc : World) : Prop := ∃ r : Bool, b = .bool r ∧ wa.grownBy wc none
/-- What the calls do. -/
structure QuadC (v : Vl) (n : Int) (ps : List Int) (nA : Option Addr) (nc : Nat) (sA : Option Addr) (sc : Nat) (lA : Option Addr) (lc : Nat) (pA : Option Addr) (pc : Nat) (w : World) (y1 y2 y3 y4 : Vl) (k1 k2 k3 k4 : Int) : Prop where
  t1 : y1.tot ≤ 1200000000
  t2 : y2.tot ≤ 1200000000
  t3 : y3.tot ≤ 1200000000
  t4 : y4.tot ≤ 1200000000
  a1 : ∀ w2, w.grownBy w2 none → Calls Tryz.prog 9 #[.agg #[.int .i64 v.t, .slice nA v.n.length nc, .slice sA v.s.length sc, .slice lA v.l.length lc]] w2 (AtN y1 k1 w2)
  b1 : ∀ w2, w.grownBy w2 none → Calls Tryz.prog 10 #[.agg #[.int .i64 v.t, .slice nA v.n.length nc, .slice sA v.s.length sc, .slice lA v.l.length lc]] w2 (AtN y1 k1 w2)
  a2 : ∀ w2, w.grownBy w2 none → Calls Tryz.prog 13 #[.int .i64 n, .agg #[.int .i64 v.t, .slice nA v.n.length nc, .slice sA v.s.length sc, .slice lA v.l.length lc]] w2 (AtN y2 k2 w2)
  b2 : ∀ w2, w.grownBy w2 none → Calls Tryz.prog 14 #[.int .i64 n, .agg #[.int .i64 v.t, .slice nA v.n.length nc, .slice sA v.s.length sc, .slice lA v.l.length lc]] w2 (AtN y2 k2 w2)
  a3 : ∀ w2, w.grownBy w2 none → Calls Tryz.prog 15 #[.int .i64 n, .agg #[.int .i64 v.t, .slice nA v.n.length nc, .slice sA v.s.length sc, .slice lA v.l.length lc]] w2 (AtN y3 k3 w2)
  b3 : ∀ w2, w.grownBy w2 none → Calls Tryz.prog 16 #[.int .i64 n, .agg #[.int .i64 v.t, .slice nA v.n.length nc, .slice sA v.s.length sc, .slice lA v.l.length lc]] w2 (AtN y3 k3 w2)
  a4 : ∀ w2, w.grownBy w2 none → Calls Tryz.prog 17 #[.agg #[.int .i64 v.t, .slice nA v.n.length nc, .slice sA v.s.length sc, .slice lA v.l.length lc], .slice pA ps.length pc] w2 (AtN y4 k4 w2)
  b4 : ∀ w2, w.grownBy w2 none → Calls Tryz.prog 18 #[.agg #[.int .i64 v.t, .slice nA v.n.length nc, .slice sA v.s.length sc, .slice lA v.l.length lc], .slice pA ps.length pc] w2 (AtN y4 k4 w2)
set_option maxHeartbeats 16000000 in
set_option maxRecDepth 100000 in
theorem parts_walk (v : Vl) (n : Int) (ps : List Int) (w : World) (nA : Option Addr) (nc : Nat) (sA : Option Addr) (sc : Nat) (lA : Option Addr) (lc : Nat) (pA : Option Addr) (pc : Nat) (ht : v.tot ≤ 1048576) (h : VB w w.heap.size v nA nc sA sc lA lc) (hpl : ps.length ≤ 1048576)
    (y1 y2 y3 y4 : Vl) (k1 k2 k3 k4 : Int) (H : checkV v = 0 → ps.length ≤ 1000 → NOk n → QuadC v n ps nA nc sA sc lA lc pA pc w y1 y2 y3 y4 k1 k2 k3 k4) :
    Calls Tryz.prog 3 #[.agg #[.int .i64 v.t, .slice nA v.n.length nc, .slice sA v.s.length sc, .slice lA v.l.length lc], .int .i64 n, .slice pA ps.length pc] w fun e w' => e = .returned (.bool true) ∧ w.grownBy w' none := by
  have HT := hide (show v.tot ≤ 1200000000 by omega)
  have HH := hide H
  have HV0 := hide h
  obtain ⟨wa, hwa⟩ : ∃ wa, wa = w.alloc (.cells #[.int .i64 v.t, .slice nA v.n.length nc, .slice sA v.s.length sc, .slice lA v.l.length lc] 26) := ⟨_, rfl⟩
  have hga : w.grownBy wa none := by rw [hwa]; exact gb_alloc (gb_refl w none) _
  have hsa : wa.heap.size = w.heap.size + 1 := by rw [hwa, World.size_alloc]
  have hbv : wa.heap[w.heap.size]? = some (.cells #[.int .i64 v.t, .slice nA v.n.length nc, .slice sA v.s.length sc, .slice lA v.l.length lc] 26 (0, 0)) := by rw [hwa]; exact heap_alloc_new w _
  obtain ⟨wb, hwb⟩ : ∃ wb, wb = wa.alloc (.cells #[.int .i64 v.t, .slice nA v.n.length nc, .slice sA v.s.length sc, .slice lA v.l.length lc] 26) := ⟨_, rfl⟩
  have hgb : wa.grownBy wb none := by rw [hwb]; exact gb_alloc (gb_refl wa none) _
  have hrb : RdV wb (wa.heap.size + 1) (some ⟨wa.heap.size, 0, none⟩) [v] := by rw [hwb]; exact rdV_one ((h.gb hga (Nat.le_refl _)).up (by omega)).at_
  have HR : Hid (Calls Tryz.prog 5 #[.slice (some ⟨wa.heap.size, 0, none⟩) 1 1] wb (RightR [v] wb)) := hide (right7_any [v] wb (wa.heap.size + 1) (some ⟨wa.heap.size, 0, none⟩) 1 (by simp only [Vl.tots]; omega) (by rw [hwb, World.size_alloc]; exact Nat.le_refl _) hrb)
  have HBV := hide hbv
  have HGA := hide hga
  have HGB := hide hgb
  have HSA := hide hsa
  have HWA := hide hwa
  have HWB := hide hwb
  obtain ⟨d0, d1, d2, d3⟩ : C4 wa w.heap.size 0 (.int .i64 v.t) (.slice nA v.n.length nc) (.slice sA v.s.length sc) (.slice lA v.l.length lc) := ⟨by rw [blk_cell hbv]; rfl, by rw [blk_cell hbv]; rfl, by rw [blk_cell hbv]; rfl, by rw [blk_cell hbv]; rfl⟩
  clear h hga hsa hgb hrb hwa hwb hbv H ht
  go_enter Tryz.func3, Tryz.ntmps3
  go_upto_region 1 with fail
  rw [← HWA.out]
  go_cut [36] (fun b wc => CutA v n ps wa b wc)
  case first =>
    go_wp2_with fail
    rw [← HWB.out]
    clear d0 d1 d2 d3
    refine HR.out.mono ?_
    rintro e w1 ⟨bb, rfl, hbb, hgw⟩
    have HG1 := hide (gb_trans HGB.out hgw (.inl rfl))
    clear hgw HR
    cases bb
    · clear hbb
      go_wp2_with fail
      go_meet
      case rel => exact ⟨true, rfl, (fun h => by cases h), HG1.out⟩
    · have HCK := hide (show checkV v = 0 from hbb rfl _ (by simp))
      clear hbb
      by_cases q1 : 1000 < ps.length
      · have q1i : (1000 : Int) < (ps.length : Int) := by omega
        go_wp2_with fail
        go_meet
        case rel => exact ⟨true, rfl, (fun h => by cases h), HG1.out⟩
      · have q1i : ¬ (1000 : Int) < (ps.length : Int) := by omega
        by_cases q2 : 1000 < n
        · by_cases q3 : n ≤ 65536
          · have q4 : -65536 ≤ n := by omega
            go_wp2_with fail
            go_meet
            case rel => exact ⟨true, rfl, (fun h => by cases h), HG1.out⟩
          · have q3' : 65536 < n := by omega
            go_wp2_with fail
            go_meet
            case rel => exact ⟨false, congrArg Value.bool (show _ = false by simp; omega), (fun _ => ⟨HCK.out, by omega, by unfold NOk; omega⟩), HG1.out⟩
        · by_cases q3 : n < -1000
          · by_cases q4 : -65536 ≤ n
            · have q5 : n ≤ 65536 := by omega
              go_wp2_with fail
              go_meet
              case rel => exact ⟨true, rfl, (fun h => by cases h), HG1.out⟩
            · have q4' : n < -65536 := by omega
              have q5 : n ≤ 65536 := by omega
              go_wp2_with fail
              go_meet
              case rel => exact ⟨false, congrArg Value.bool (show _ = false by simp; omega), (fun _ => ⟨HCK.out, by omega, by unfold NOk; omega⟩), HG1.out⟩
          · have q3' : -1000 ≤ n := by omega
            have q2' : n ≤ 1000 := by omega
            go_wp2_with fail
            go_meet
            case rel => exact ⟨false, congrArg Value.bool (show _ = false by simp; omega), (fun _ => ⟨HCK.out, by omega, by unfold NOk; omega⟩), HG1.out⟩
  case rest =>
    obtain ⟨r, rfl, hr, hgc⟩ := hcut
    have HGC := hide hgc
    clear d0 d1 d2 d3 HR
    cases r
    · obtain ⟨hck, hpl, hno⟩ := hr rfl
      have HC := hide (HH.out hck hpl hno)
      clear hgc hr hck hno
      have hbv := blk_keep HBV.out HGC.out (by simp)
      obtain ⟨d0, d1, d2, d3⟩ : C4 wc w.heap.size 0 (.int .i64 v.t) (.slice nA v.n.length nc) (.slice sA v.s.length sc) (.slice lA v.l.length lc) := ⟨by rw [blk_cell hbv]; rfl, by rw [blk_cell hbv]; rfl, by rw [blk_cell hbv]; rfl, by rw [blk_cell hbv]; rfl⟩
      clear hbv
      have HSZ := hide (fun (w2 : World) (hg : wc.grownBy w2 none) => rSize_any v w2 w.heap.size nA nc sA sc lA lc HT.out (gb_trans (gb_trans HGA.out HGC.out (.inl rfl)) hg (.inl rfl)).size (HV0.out.gb (gb_trans (gb_trans HGA.out HGC.out (.inl rfl)) hg (.inl rfl)) (Nat.le_refl _)))
      obtain ⟨wp, rfl⟩ : ∃ wp, wp = wc := ⟨_, rfl⟩
      go_upto_region 3 with fail
      go_cut [58] (fun b wc => CutB wp b wc)
      case first =>
        by_cases q0 : v.t = 0
        · have q0t : (v.t == 0) = true := int_beq_t q0
          clear q0
          generalize v.size = sz at *
          by_cases q1 : 1000 < sz
          · have q1i : (1000 : Int) < (sz : Int) := by omega
            by_cases q2 : 60 < ps.length
            · have q2i : (60 : Int) < (ps.length : Int) := by omega
              go_wp2_with (go_at_call 7; refine (HSZ.out _ (gb_refl wp none)).mono ?_; rintro e wz ⟨rfl, hgz⟩; have HGZ := hide hgz; clear hgz)
              go_meet
              case rel => exact ⟨true, rfl, HGZ.out⟩
            · have q2i : ¬ (60 : Int) < (ps.length : Int) := by omega
              by_cases q3 : 60 < n
              · skip
                go_wp2_with (go_at_call 7; refine (HSZ.out _ (gb_refl wp none)).mono ?_; rintro e wz ⟨rfl, hgz⟩; have HGZ := hide hgz; clear hgz)
                go_meet
                case rel => exact ⟨true, rfl, HGZ.out⟩
              · by_cases q4 : n < -60
                · skip
                  go_wp2_with (go_at_call 7; refine (HSZ.out _ (gb_refl wp none)).mono ?_; rintro e wz ⟨rfl, hgz⟩; have HGZ := hide hgz; clear hgz)
                  go_meet
                  case rel => exact ⟨true, rfl, HGZ.out⟩
                · skip
                  go_wp2_with (go_at_call 7; refine (HSZ.out _ (gb_refl wp none)).mono ?_; rintro e wz ⟨rfl, hgz⟩; have HGZ := hide hgz; clear hgz)
                  go_meet
                  case rel => exact ⟨false, congrArg Value.bool (show _ = false by simp; omega), HGZ.out⟩
          · have q1i : ¬ (1000 : Int) < (sz : Int) := by omega
            go_wp2_with (go_at_call 7; refine (HSZ.out _ (gb_refl wp none)).mono ?_; rintro e wz ⟨rfl, hgz⟩; have HGZ := hide hgz; clear hgz)
            go_meet
            case rel => exact ⟨false, rfl, HGZ.out⟩
        · have q0f : (v.t == 0) = false := int_beq_f q0
          clear q0
          go_wp2_with fail
          go_meet
          case rel => exact ⟨false, rfl, gb_refl wp none⟩
      case rest =>
        obtain ⟨r, rfl, hgd⟩ := hcut
        have HGCD := hide (gb_trans HGC.out hgd (.inl rfl))
        clear HGC
        have HGC := hide HGCD.out
        clear HGCD hgd HSZ d0 d1 d2 d3
        cases r
        · skip
          have HGW := hide (gb_trans HGA.out HGC.out (.inl rfl))
          have hbv := blk_keep HBV.out HGC.out (by simp)
          obtain ⟨d0, d1, d2, d3⟩ : C4 wc w.heap.size 0 (.int .i64 v.t) (.slice nA v.n.length nc) (.slice sA v.s.length sc) (.slice lA v.l.length lc) := ⟨by rw [blk_cell hbv]; rfl, by rw [blk_cell hbv]; rfl, by rw [blk_cell hbv]; rfl, by rw [blk_cell hbv]; rfl⟩
          clear hbv
          go_upto_region 6 with (go_at_call 8; refine (rClone_d v.depth v _ w.heap.size nA nc sA sc lA lc (Nat.le_refl _) (by have := HT.out; omega) HGW.out.size (HV0.out.gb HGW.out (Nat.le_refl _))).mono ?_; rintro e w3 ⟨wnA, wnc, wsA, wsc, wlA, wlc, f, rfl, ho, _, hg3⟩; have HOW := hide ho.vb; have HG3 := hide hg3; clear ho hg3)
          obtain ⟨Ww, hWw⟩ : ∃ Ww, Ww = w3.alloc (.cells #[.int .i64 v.t, .slice wnA v.n.length wnc, .slice wsA v.s.length wsc, .slice wlA v.l.length wlc] 26) := ⟨_, rfl⟩
          rw [← hWw]
          have HBW := hide (show Ww.heap[w3.heap.size]? = some (.cells #[.int .i64 v.t, .slice wnA v.n.length wnc, .slice wsA v.s.length wsc, .slice wlA v.l.length wlc] 26 (0, 0)) by rw [hWw]; exact heap_alloc_new w3 _)
          have HGS := hide (show w.grownBy Ww none by rw [hWw]; exact gb_trans (gb_trans HGW.out HG3.out (.inl rfl)) (gb_alloc (gb_refl w3 none) _) (.inl rfl))
          have HGAS := hide (show wa.grownBy Ww none by rw [hWw]; exact gb_trans (gb_trans HGC.out HG3.out (.inl rfl)) (gb_alloc (gb_refl w3 none) _) (.inl rfl))
          have HVW := hide (show VB Ww Ww.heap.size v wnA wnc wsA wsc wlA wlc by rw [hWw]; exact (HOW.out.gb (gb_alloc (gb_refl w3 none) _) (Nat.le_refl _)).up (by rw [World.size_alloc]; omega))
          obtain ⟨bw, hbw⟩ : ∃ bw, bw = w3.heap.size := ⟨_, rfl⟩
          rw [← hbw] at HBW ⊢
          clear hWw hbw HOW HG3 d0 d1 d2 d3 HGW
          have hbv := blk_keep HBV.out HGAS.out (by simp)
          obtain ⟨d0, d1, d2, d3⟩ : C4 Ww w.heap.size 0 (.int .i64 v.t) (.slice nA v.n.length nc) (.slice sA v.s.length sc) (.slice lA v.l.length lc) := ⟨by rw [blk_cell hbv]; rfl, by rw [blk_cell hbv]; rfl, by rw [blk_cell hbv]; rfl, by rw [blk_cell hbv]; rfl⟩
          clear hbv
          -- Reverse
          go_upto_region 7 with (go_at_call 9; refine (HC.out.a1 _ HGS.out).mono ?_; rintro e w4 ⟨anA, anc, asA, asc, alA, alc, f1, rfl, ho, hn, hg4⟩; have HO1 := hide ho; have HN1 := hide hn; have HG4 := hide hg4; clear ho hn hg4)
          obtain ⟨W2, hW2⟩ : ∃ W2, W2 = w4.alloc (.cells #[.int .i64 y1.t, .slice anA y1.n.length anc, .slice asA y1.s.length asc, .slice alA y1.l.length alc] 26) := ⟨_, rfl⟩
          rw [← hW2]
          have HGS2 := hide (show Ww.grownBy W2 none by rw [hW2]; exact gb_trans HG4.out (gb_alloc (gb_refl w4 none) _) (.inl rfl))
          have HBA := hide (show W2.heap[w4.heap.size]? = some (.cells #[.int .i64 y1.t, .slice anA y1.n.length anc, .slice asA y1.s.length asc, .slice alA y1.l.length alc] 26 (0, 0)) by rw [hW2]; exact heap_alloc_new w4 _)
          have HOA := hide (show VB W2 W2.heap.size y1 anA anc asA asc alA alc by rw [hW2]; exact (HO1.out.vb.gb (gb_alloc (gb_refl w4 none) _) (Nat.le_refl _)).up (by rw [World.size_alloc]; omega))
          have HLA := hide (show Ww.heap.size ≤ w4.heap.size from HG4.out.size)
          obtain ⟨ba, hba⟩ : ∃ ba, ba = w4.heap.size := ⟨_, rfl⟩
          rw [← hba] at HBA HLA ⊢
          clear hW2 hba HO1 HN1 HG4 d0 d1 d2 d3
          have hbv := blk_keep HBV.out (gb_trans HGAS.out HGS2.out (.inl rfl)) (by simp)
          obtain ⟨d0, d1, d2, d3⟩ : C4 W2 w.heap.size 0 (.int .i64 v.t) (.slice nA v.n.length nc) (.slice sA v.s.length sc) (.slice lA v.l.length lc) := ⟨by rw [blk_cell hbv]; rfl, by rw [blk_cell hbv]; rfl, by rw [blk_cell hbv]; rfl, by rw [blk_cell hbv]; rfl⟩
          clear hbv
          go_upto_region 8 with (go_at_call 10; refine (HC.out.b1 _ (gb_trans HGS.out HGS2.out (.inl rfl))).mono ?_; rintro e w5 ⟨bnA, bnc, bsA, bsc, blA, blc, f2, rfl, ho, hn, hg5⟩; have HO2 := hide ho; have HG5 := hide hg5; clear ho hn hg5)
          obtain ⟨W3, hW3⟩ : ∃ W3, W3 = w5.alloc (.cells #[.int .i64 y1.t, .slice bnA y1.n.length bnc, .slice bsA y1.s.length bsc, .slice blA y1.l.length blc] 26) := ⟨_, rfl⟩
          rw [← hW3]
          have HG23 := hide (show W2.grownBy W3 none by rw [hW3]; exact gb_trans HG5.out (gb_alloc (gb_refl w5 none) _) (.inl rfl))
          have HBB := hide (show W3.heap[w5.heap.size]? = some (.cells #[.int .i64 y1.t, .slice bnA y1.n.length bnc, .slice bsA y1.s.length bsc, .slice blA y1.l.length blc] 26 (0, 0)) by rw [hW3]; exact heap_alloc_new w5 _)
          have HOB := hide (show VB W3 W3.heap.size y1 bnA bnc bsA bsc blA blc by rw [hW3]; exact (HO2.out.vb.gb (gb_alloc (gb_refl w5 none) _) (Nat.le_refl _)).up (by rw [World.size_alloc]; omega))
          have HLB := hide (show ba < w5.heap.size by have := blk_lt HBA.out; have := HG5.out.size; omega)
          obtain ⟨bb, hbb⟩ : ∃ bb, bb = w5.heap.size := ⟨_, rfl⟩
          rw [← hbb] at HBB HLB ⊢
          have HBA3 := hide (blk_keep HBA.out HG23.out (by simp))
          have HOA3 := hide ((HOA.out.gb HG23.out (Nat.le_refl _)).up HG23.out.size)
          have HS := hide (show Sg Ww W3 ba bb from ⟨gb_trans HGS2.out HG23.out (.inl rfl), ⟨_, _, _, _, HBA3.out⟩, ⟨_, _, _, _, HBB.out⟩, HLA.out, HLB.out⟩)
          clear hW3 hbb HO2 HG5 HBA HOA HLA HLB HG23 HGS2 d0 d1 d2 d3
          obtain ⟨u0, u1, u2, u3⟩ : C4 W3 ba 0 (.int .i64 y1.t) (.slice anA y1.n.length anc) (.slice asA y1.s.length asc) (.slice alA y1.l.length alc) := ⟨by rw [blk_cell HBA3.out]; rfl, by rw [blk_cell HBA3.out]; rfl, by rw [blk_cell HBA3.out]; rfl, by rw [blk_cell HBA3.out]; rfl⟩
          obtain ⟨x0, x1, x2, x3⟩ : C4 W3 bb 0 (.int .i64 y1.t) (.slice bnA y1.n.length bnc) (.slice bsA y1.s.length bsc) (.slice blA y1.l.length blc) := ⟨by rw [blk_cell HBB.out]; rfl, by rw [blk_cell HBB.out]; rfl, by rw [blk_cell HBB.out]; rfl, by rw [blk_cell HBB.out]; rfl⟩
          have hke : (k1 != k1) = false := by simp
          go_upto_region 10 with (first
            | (go_at_call 11; refine (rMatch_any y1 y1 _ _ anA anc asA asc alA alc bnA bnc bsA bsc blA blc HC.out.t1 HC.out.t1 (Nat.le_refl _) HOA3.out HOB.out).mono ?_; rintro e w6 ⟨rfl, hg6⟩; rw [Vl.same_refl]; have HG6 := hide hg6; clear hg6)
            | (go_at_call 12; refine (num7_any k1 _).mono ?_; rintro e w7 ⟨rfl, rfl⟩))
          have HSn := hide (HS.out.gb HG6.out)
          clear HS
          have HS := hide HSn.out
          clear HSn u0 u1 u2 u3 x0 x1 x2 x3 hke HBA3 HOA3 HBB HOB HG6
          -- pair 2
          obtain ⟨g0, g1, g2, g3, hga⟩ := HS.out.ha
          have hbv := blk_keep HBV.out (gb_trans HGAS.out HS.out.g (.inl rfl)) (by simp)
          obtain ⟨d0, d1, d2, d3⟩ : C4 w6 w.heap.size 0 (.int .i64 v.t) (.slice nA v.n.length nc) (.slice sA v.s.length sc) (.slice lA v.l.length lc) := ⟨by rw [blk_cell hbv]; rfl, by rw [blk_cell hbv]; rfl, by rw [blk_cell hbv]; rfl, by rw [blk_cell hbv]; rfl⟩
          clear hbv
          go_upto_region 11 with (go_at_call 13; refine (HC.out.a2 _ (gb_trans HGS.out HS.out.g (.inl rfl))).mono ?_; rintro e w4 ⟨anA, anc, asA, asc, alA, alc, f1, rfl, ho, hn, hg4⟩; have HO1 := hide ho; have HN1 := hide hn; have HG4 := hide hg4; have ha4 := blk_keep hga hg4 (by simp); have z0 := blk_frozen ha4 0; have z1 := blk_frozen ha4 1; have z2 := blk_frozen ha4 2; have z3 := blk_frozen ha4 3; have s0 : w4.cell? ⟨ba, 0, none⟩ = some g0 := (by { rw [blk_cell ha4]; rfl }); have s1 : w4.cell? ⟨ba, 1, none⟩ = some g1 := (by { rw [blk_cell ha4]; rfl }); have s2 : w4.cell? ⟨ba, 2, none⟩ = some g2 := (by { rw [blk_cell ha4]; rfl }); have s3 : w4.cell? ⟨ba, 3, none⟩ = some g3 := (by { rw [blk_cell ha4]; rfl }); clear ho hn hg4 ha4)
          obtain ⟨W4, hW4⟩ : ∃ W4, W4 = ((((w4.setCell ⟨ba, 0, none⟩ (.int .i64 y2.t)).setCell ⟨ba, 1, none⟩ (.slice anA y2.n.length anc)).setCell ⟨ba, 2, none⟩ (.slice asA y2.s.length asc)).setCell ⟨ba, 3, none⟩ (.slice alA y2.l.length alc)) := ⟨_, rfl⟩
          rw [← hW4]
          have HF := hide (HS.out.first HO1.out HN1.out HG4.out hW4)
          clear hW4 HO1 HN1 HG4 hga d0 d1 d2 d3 z0 z1 z2 z3 s0 s1 s2 s3 HS
          obtain ⟨g4, g5, g6, g7, hgb⟩ := HF.out.1.hb
          have hbv := blk_keep HBV.out (gb_trans HGAS.out HF.out.1.g (.inl rfl)) (by simp)
          obtain ⟨d0, d1, d2, d3⟩ : C4 W4 w.heap.size 0 (.int .i64 v.t) (.slice nA v.n.length nc) (.slice sA v.s.length sc) (.slice lA v.l.length lc) := ⟨by rw [blk_cell hbv]; rfl, by rw [blk_cell hbv]; rfl, by rw [blk_cell hbv]; rfl, by rw [blk_cell hbv]; rfl⟩
          clear hbv
          go_upto_region 12 with (go_at_call 14; refine (HC.out.b2 _ (gb_trans HGS.out HF.out.1.g (.inl rfl))).mono ?_; rintro e w5 ⟨bnA, bnc, bsA, bsc, blA, blc, f2, rfl, ho, hn, hg5⟩; have HO2 := hide ho; have HN2 := hide hn; have HG5 := hide hg5; have ha5 := blk_keep hgb hg5 (by simp); have z0 := blk_frozen ha5 0; have z1 := blk_frozen ha5 1; have z2 := blk_frozen ha5 2; have z3 := blk_frozen ha5 3; have s0 : w5.cell? ⟨bb, 0, none⟩ = some g4 := (by { rw [blk_cell ha5]; rfl }); have s1 : w5.cell? ⟨bb, 1, none⟩ = some g5 := (by { rw [blk_cell ha5]; rfl }); have s2 : w5.cell? ⟨bb, 2, none⟩ = some g6 := (by { rw [blk_cell ha5]; rfl }); have s3 : w5.cell? ⟨bb, 3, none⟩ = some g7 := (by { rw [blk_cell ha5]; rfl }); clear ho hn hg5 ha5)
          obtain ⟨W5, hW5⟩ : ∃ W5, W5 = ((((w5.setCell ⟨bb, 0, none⟩ (.int .i64 y2.t)).setCell ⟨bb, 1, none⟩ (.slice bnA y2.n.length bnc)).setCell ⟨bb, 2, none⟩ (.slice bsA y2.s.length bsc)).setCell ⟨bb, 3, none⟩ (.slice blA y2.l.length blc)) := ⟨_, rfl⟩
          rw [← hW5]
          have HQ := hide (HF.out.1.second HF.out.2.1 HF.out.2.2.1 HF.out.2.2.2 HO2.out HN2.out HG5.out hW5)
          clear hW5 HO2 HN2 HG5 hgb d0 d1 d2 d3 z0 z1 z2 z3 s0 s1 s2 s3 HF
          have HS := hide HQ.out.1
          have HBA3 := hide HQ.out.2.1
          have HOA3 := hide HQ.out.2.2.1
          have HBB := hide HQ.out.2.2.2.1
          have HOB := hide HQ.out.2.2.2.2
          clear HQ
          obtain ⟨u0, u1, u2, u3⟩ : C4 W5 ba 0 (.int .i64 y2.t) (.slice anA y2.n.length anc) (.slice asA y2.s.length asc) (.slice alA y2.l.length alc) := ⟨by rw [blk_cell HBA3.out]; rfl, by rw [blk_cell HBA3.out]; rfl, by rw [blk_cell HBA3.out]; rfl, by rw [blk_cell HBA3.out]; rfl⟩
          obtain ⟨x0, x1, x2, x3⟩ : C4 W5 bb 0 (.int .i64 y2.t) (.slice bnA y2.n.length bnc) (.slice bsA y2.s.length bsc) (.slice blA y2.l.length blc) := ⟨by rw [blk_cell HBB.out]; rfl, by rw [blk_cell HBB.out]; rfl, by rw [blk_cell HBB.out]; rfl, by rw [blk_cell HBB.out]; rfl⟩
          have hke : (k2 != k2) = false := by simp
          go_upto_region 14 with (first
            | (go_at_call 11; refine (rMatch_any y2 y2 _ _ anA anc asA asc alA alc bnA bnc bsA bsc blA blc HC.out.t2 HC.out.t2 (Nat.le_refl _) HOA3.out HOB.out).mono ?_; rintro e w6 ⟨rfl, hg6⟩; rw [Vl.same_refl]; have HG6 := hide hg6; clear hg6)
            | (go_at_call 12; refine (num7_any k2 _).mono ?_; rintro e w7 ⟨rfl, rfl⟩))
          have HSn := hide (HS.out.gb HG6.out)
          clear HS
          have HS := hide HSn.out
          clear HSn u0 u1 u2 u3 x0 x1 x2 x3 hke HBA3 HOA3 HBB HOB HG6
          -- pair 3
          obtain ⟨g0, g1, g2, g3, hga⟩ := HS.out.ha
          have hbv := blk_keep HBV.out (gb_trans HGAS.out HS.out.g (.inl rfl)) (by simp)
          obtain ⟨d0, d1, d2, d3⟩ : C4 w6 w.heap.size 0 (.int .i64 v.t) (.slice nA v.n.length nc) (.slice sA v.s.length sc) (.slice lA v.l.length lc) := ⟨by rw [blk_cell hbv]; rfl, by rw [blk_cell hbv]; rfl, by rw [blk_cell hbv]; rfl, by rw [blk_cell hbv]; rfl⟩
          clear hbv
          go_upto_region 15 with (go_at_call 15; refine (HC.out.a3 _ (gb_trans HGS.out HS.out.g (.inl rfl))).mono ?_; rintro e w4 ⟨anA, anc, asA, asc, alA, alc, f1, rfl, ho, hn, hg4⟩; have HO1 := hide ho; have HN1 := hide hn; have HG4 := hide hg4; have ha4 := blk_keep hga hg4 (by simp); have z0 := blk_frozen ha4 0; have z1 := blk_frozen ha4 1; have z2 := blk_frozen ha4 2; have z3 := blk_frozen ha4 3; have s0 : w4.cell? ⟨ba, 0, none⟩ = some g0 := (by { rw [blk_cell ha4]; rfl }); have s1 : w4.cell? ⟨ba, 1, none⟩ = some g1 := (by { rw [blk_cell ha4]; rfl }); have s2 : w4.cell? ⟨ba, 2, none⟩ = some g2 := (by { rw [blk_cell ha4]; rfl }); have s3 : w4.cell? ⟨ba, 3, none⟩ = some g3 := (by { rw [blk_cell ha4]; rfl }); clear ho hn hg4 ha4)
          obtain ⟨W4, hW4⟩ : ∃ W4, W4 = ((((w4.setCell ⟨ba, 0, none⟩ (.int .i64 y3.t)).setCell ⟨ba, 1, none⟩ (.slice anA y3.n.length anc)).setCell ⟨ba, 2, none⟩ (.slice asA y3.s.length asc)).setCell ⟨ba, 3, none⟩ (.slice alA y3.l.length alc)) := ⟨_, rfl⟩
          rw [← hW4]
          have HF := hide (HS.out.first HO1.out HN1.out HG4.out hW4)
          clear hW4 HO1 HN1 HG4 hga d0 d1 d2 d3 z0 z1 z2 z3 s0 s1 s2 s3 HS
          obtain ⟨g4, g5, g6, g7, hgb⟩ := HF.out.1.hb
          have hbv := blk_keep HBV.out (gb_trans HGAS.out HF.out.1.g (.inl rfl)) (by simp)
          obtain ⟨d0, d1, d2, d3⟩ : C4 W4 w.heap.size 0 (.int .i64 v.t) (.slice nA v.n.length nc) (.slice sA v.s.length sc) (.slice lA v.l.length lc) := ⟨by rw [blk_cell hbv]; rfl, by rw [blk_cell hbv]; rfl, by rw [blk_cell hbv]; rfl, by rw [blk_cell hbv]; rfl⟩
          clear hbv
          go_upto_region 16 with (go_at_call 16; refine (HC.out.b3 _ (gb_trans HGS.out HF.out.1.g (.inl rfl))).mono ?_; rintro e w5 ⟨bnA, bnc, bsA, bsc, blA, blc, f2, rfl, ho, hn, hg5⟩; have HO2 := hide ho; have HN2 := hide hn; have HG5 := hide hg5; have ha5 := blk_keep hgb hg5 (by simp); have z0 := blk_frozen ha5 0; have z1 := blk_frozen ha5 1; have z2 := blk_frozen ha5 2; have z3 := blk_frozen ha5 3; have s0 : w5.cell? ⟨bb, 0, none⟩ = some g4 := (by { rw [blk_cell ha5]; rfl }); have s1 : w5.cell? ⟨bb, 1, none⟩ = some g5 := (by { rw [blk_cell ha5]; rfl }); have s2 : w5.cell? ⟨bb, 2, none⟩ = some g6 := (by { rw [blk_cell ha5]; rfl }); have s3 : w5.cell? ⟨bb, 3, none⟩ = some g7 := (by { rw [blk_cell ha5]; rfl }); clear ho hn hg5 ha5)
          obtain ⟨W5, hW5⟩ : ∃ W5, W5 = ((((w5.setCell ⟨bb, 0, none⟩ (.int .i64 y3.t)).setCell ⟨bb, 1, none⟩ (.slice bnA y3.n.length bnc)).setCell ⟨bb, 2, none⟩ (.slice bsA y3.s.length bsc)).setCell ⟨bb, 3, none⟩ (.slice blA y3.l.length blc)) := ⟨_, rfl⟩
          rw [← hW5]
          have HQ := hide (HF.out.1.second HF.out.2.1 HF.out.2.2.1 HF.out.2.2.2 HO2.out HN2.out HG5.out hW5)
          clear hW5 HO2 HN2 HG5 hgb d0 d1 d2 d3 z0 z1 z2 z3 s0 s1 s2 s3 HF
          have HS := hide HQ.out.1
          have HBA3 := hide HQ.out.2.1
          have HOA3 := hide HQ.out.2.2.1
          have HBB := hide HQ.out.2.2.2.1
          have HOB := hide HQ.out.2.2.2.2
          clear HQ
          obtain ⟨u0, u1, u2, u3⟩ : C4 W5 ba 0 (.int .i64 y3.t) (.slice anA y3.n.length anc) (.slice asA y3.s.length asc) (.slice alA y3.l.length alc) := ⟨by rw [blk_cell HBA3.out]; rfl, by rw [blk_cell HBA3.out]; rfl, by rw [blk_cell HBA3.out]; rfl, by rw [blk_cell HBA3.out]; rfl⟩
          obtain ⟨x0, x1, x2, x3⟩ : C4 W5 bb 0 (.int .i64 y3.t) (.slice bnA y3.n.length bnc) (.slice bsA y3.s.length bsc) (.slice blA y3.l.length blc) := ⟨by rw [blk_cell HBB.out]; rfl, by rw [blk_cell HBB.out]; rfl, by rw [blk_cell HBB.out]; rfl, by rw [blk_cell HBB.out]; rfl⟩
          have hke : (k3 != k3) = false := by simp
          go_upto_region 18 with (first
            | (go_at_call 11; refine (rMatch_any y3 y3 _ _ anA anc asA asc alA alc bnA bnc bsA bsc blA blc HC.out.t3 HC.out.t3 (Nat.le_refl _) HOA3.out HOB.out).mono ?_; rintro e w6 ⟨rfl, hg6⟩; rw [Vl.same_refl]; have HG6 := hide hg6; clear hg6)
            | (go_at_call 12; refine (num7_any k3 _).mono ?_; rintro e w7 ⟨rfl, rfl⟩))
          have HSn := hide (HS.out.gb HG6.out)
          clear HS
          have HS := hide HSn.out
          clear HSn u0 u1 u2 u3 x0 x1 x2 x3 hke HBA3 HOA3 HBB HOB HG6
          -- pair 4
          obtain ⟨g0, g1, g2, g3, hga⟩ := HS.out.ha
          have hbv := blk_keep HBV.out (gb_trans HGAS.out HS.out.g (.inl rfl)) (by simp)
          obtain ⟨d0, d1, d2, d3⟩ : C4 w6 w.heap.size 0 (.int .i64 v.t) (.slice nA v.n.length nc) (.slice sA v.s.length sc) (.slice lA v.l.length lc) := ⟨by rw [blk_cell hbv]; rfl, by rw [blk_cell hbv]; rfl, by rw [blk_cell hbv]; rfl, by rw [blk_cell hbv]; rfl⟩
          clear hbv
          go_upto_region 19 with (go_at_call 17; refine (HC.out.a4 _ (gb_trans HGS.out HS.out.g (.inl rfl))).mono ?_; rintro e w4 ⟨anA, anc, asA, asc, alA, alc, f1, rfl, ho, hn, hg4⟩; have HO1 := hide ho; have HN1 := hide hn; have HG4 := hide hg4; have ha4 := blk_keep hga hg4 (by simp); have z0 := blk_frozen ha4 0; have z1 := blk_frozen ha4 1; have z2 := blk_frozen ha4 2; have z3 := blk_frozen ha4 3; have s0 : w4.cell? ⟨ba, 0, none⟩ = some g0 := (by { rw [blk_cell ha4]; rfl }); have s1 : w4.cell? ⟨ba, 1, none⟩ = some g1 := (by { rw [blk_cell ha4]; rfl }); have s2 : w4.cell? ⟨ba, 2, none⟩ = some g2 := (by { rw [blk_cell ha4]; rfl }); have s3 : w4.cell? ⟨ba, 3, none⟩ = some g3 := (by { rw [blk_cell ha4]; rfl }); clear ho hn hg4 ha4)
          obtain ⟨W4, hW4⟩ : ∃ W4, W4 = ((((w4.setCell ⟨ba, 0, none⟩ (.int .i64 y4.t)).setCell ⟨ba, 1, none⟩ (.slice anA y4.n.length anc)).setCell ⟨ba, 2, none⟩ (.slice asA y4.s.length asc)).setCell ⟨ba, 3, none⟩ (.slice alA y4.l.length alc)) := ⟨_, rfl⟩
          rw [← hW4]
          have HF := hide (HS.out.first HO1.out HN1.out HG4.out hW4)
          clear hW4 HO1 HN1 HG4 hga d0 d1 d2 d3 z0 z1 z2 z3 s0 s1 s2 s3 HS
          obtain ⟨g4, g5, g6, g7, hgb⟩ := HF.out.1.hb
          have hbv := blk_keep HBV.out (gb_trans HGAS.out HF.out.1.g (.inl rfl)) (by simp)
          obtain ⟨d0, d1, d2, d3⟩ : C4 W4 w.heap.size 0 (.int .i64 v.t) (.slice nA v.n.length nc) (.slice sA v.s.length sc) (.slice lA v.l.length lc) := ⟨by rw [blk_cell hbv]; rfl, by rw [blk_cell hbv]; rfl, by rw [blk_cell hbv]; rfl, by rw [blk_cell hbv]; rfl⟩
          clear hbv
          go_upto_region 20 with (go_at_call 18; refine (HC.out.b4 _ (gb_trans HGS.out HF.out.1.g (.inl rfl))).mono ?_; rintro e w5 ⟨bnA, bnc, bsA, bsc, blA, blc, f2, rfl, ho, hn, hg5⟩; have HO2 := hide ho; have HN2 := hide hn; have HG5 := hide hg5; have ha5 := blk_keep hgb hg5 (by simp); have z0 := blk_frozen ha5 0; have z1 := blk_frozen ha5 1; have z2 := blk_frozen ha5 2; have z3 := blk_frozen ha5 3; have s0 : w5.cell? ⟨bb, 0, none⟩ = some g4 := (by { rw [blk_cell ha5]; rfl }); have s1 : w5.cell? ⟨bb, 1, none⟩ = some g5 := (by { rw [blk_cell ha5]; rfl }); have s2 : w5.cell? ⟨bb, 2, none⟩ = some g6 := (by { rw [blk_cell ha5]; rfl }); have s3 : w5.cell? ⟨bb, 3, none⟩ = some g7 := (by { rw [blk_cell ha5]; rfl }); clear ho hn hg5 ha5)
          obtain ⟨W5, hW5⟩ : ∃ W5, W5 = ((((w5.setCell ⟨bb, 0, none⟩ (.int .i64 y4.t)).setCell ⟨bb, 1, none⟩ (.slice bnA y4.n.length bnc)).setCell ⟨bb, 2, none⟩ (.slice bsA y4.s.length bsc)).setCell ⟨bb, 3, none⟩ (.slice blA y4.l.length blc)) := ⟨_, rfl⟩
          rw [← hW5]
          have HQ := hide (HF.out.1.second HF.out.2.1 HF.out.2.2.1 HF.out.2.2.2 HO2.out HN2.out HG5.out hW5)
          clear hW5 HO2 HN2 HG5 hgb d0 d1 d2 d3 z0 z1 z2 z3 s0 s1 s2 s3 HF
          have HS := hide HQ.out.1
          have HBA3 := hide HQ.out.2.1
          have HOA3 := hide HQ.out.2.2.1
          have HBB := hide HQ.out.2.2.2.1
          have HOB := hide HQ.out.2.2.2.2
          clear HQ
          obtain ⟨u0, u1, u2, u3⟩ : C4 W5 ba 0 (.int .i64 y4.t) (.slice anA y4.n.length anc) (.slice asA y4.s.length asc) (.slice alA y4.l.length alc) := ⟨by rw [blk_cell HBA3.out]; rfl, by rw [blk_cell HBA3.out]; rfl, by rw [blk_cell HBA3.out]; rfl, by rw [blk_cell HBA3.out]; rfl⟩
          obtain ⟨x0, x1, x2, x3⟩ : C4 W5 bb 0 (.int .i64 y4.t) (.slice bnA y4.n.length bnc) (.slice bsA y4.s.length bsc) (.slice blA y4.l.length blc) := ⟨by rw [blk_cell HBB.out]; rfl, by rw [blk_cell HBB.out]; rfl, by rw [blk_cell HBB.out]; rfl, by rw [blk_cell HBB.out]; rfl⟩
          have hbv := blk_keep HBV.out (gb_trans HGAS.out HS.out.g (.inl rfl)) (by simp)
          obtain ⟨d0, d1, d2, d3⟩ : C4 W5 w.heap.size 0 (.int .i64 v.t) (.slice nA v.n.length nc) (.slice sA v.s.length sc) (.slice lA v.l.length lc) := ⟨by rw [blk_cell hbv]; rfl, by rw [blk_cell hbv]; rfl, by rw [blk_cell hbv]; rfl, by rw [blk_cell hbv]; rfl⟩
          clear hbv
          have hbw := blk_keep HBW.out HS.out.g (by simp)
          obtain ⟨r0, r1, r2, r3⟩ : C4 W5 bw 0 (.int .i64 v.t) (.slice wnA v.n.length wnc) (.slice wsA v.s.length wsc) (.slice wlA v.l.length wlc) := ⟨by rw [blk_cell hbw]; rfl, by rw [blk_cell hbw]; rfl, by rw [blk_cell hbw]; rfl, by rw [blk_cell hbw]; rfl⟩
          clear hbw
          have hke : (k4 == k4) = true := by simp
          have HBVX := hide (fun (w2 : World) (hg : W5.grownBy w2 none) => show C4 w2 w.heap.size 0 (.int .i64 v.t) (.slice nA v.n.length nc) (.slice sA v.s.length sc) (.slice lA v.l.length lc) from (show C4 W5 w.heap.size 0 _ _ _ _ from ⟨d0, d1, d2, d3⟩).gb hg)
          have HBWX := hide (fun (w2 : World) (hg : W5.grownBy w2 none) => show C4 w2 bw 0 (.int .i64 v.t) (.slice wnA v.n.length wnc) (.slice wsA v.s.length wsc) (.slice wlA v.l.length wlc) from (show C4 W5 bw 0 _ _ _ _ from ⟨r0, r1, r2, r3⟩).gb hg)
          go_wp2_with fail
          refine (rMatch_any y4 y4 _ _ anA anc asA asc alA alc bnA bnc bsA bsc blA blc HC.out.t4 HC.out.t4 (Nat.le_refl _) HOA3.out HOB.out).mono ?_
          rintro e w6 ⟨rfl, hg6⟩
          rw [Vl.same_refl]
          have HG6 := hide hg6
          clear hg6 u0 u1 u2 u3 x0 x1 x2 x3 d0 d1 d2 d3 r0 r1 r2 r3
          obtain ⟨d0, d1, d2, d3⟩ := HBVX.out w6 HG6.out
          obtain ⟨r0, r1, r2, r3⟩ := HBWX.out w6 HG6.out
          go_wp2_with fail
          refine (num7_any k4 _).mono ?_
          rintro e w7 ⟨rfl, rfl⟩
          go_wp2_with fail
          have hgw := gb_trans HS.out.g HG6.out (.inl rfl)
          refine (rMatch_any v v _ _ nA nc sA sc lA lc wnA wnc wsA wsc wlA wlc HT.out HT.out (Nat.le_refl _) ((HV0.out.gb (gb_trans HGS.out hgw (.inl rfl)) (Nat.le_refl _)).up (gb_trans HGS.out hgw (.inl rfl)).size) ((HVW.out.gb hgw (Nat.le_refl _)).up hgw.size)).mono ?_
          rintro e w8 ⟨rfl, hg8⟩
          rw [Vl.same_refl]
          have HG8 := hide (gb_trans (gb_trans HGS.out hgw (.inl rfl)) hg8 (.inl rfl))
          clear hg8 hgw d0 d1 d2 d3 r0 r1 r2 r3
          go_wp2_with fail
          refine (live7_any _).mono ?_
          rintro e wl ⟨rfl, hgl⟩
          have HGL := hide (gb_trans HG8.out hgl (.inl rfl))
          clear hgl
          go_wp2_with fail
          exact bodyPost_ret (v := .bool true) (by simp [results, Tryz.results3, go_sem]) rfl ⟨rfl, HGL.out⟩
        · skip
          go_wp2_with fail
          refine (live7_any _).mono ?_
          rintro e wl ⟨rfl, hgl⟩
          have HGL := hide (gb_trans (gb_trans HGA.out HGC.out (.inl rfl)) hgl (.inl rfl))
          clear hgl
          go_wp2_with fail
          exact bodyPost_ret (v := .bool true) (by simp [results, Tryz.results3, go_sem]) rfl ⟨rfl, HGL.out⟩
    · clear hr hgc
      go_wp2_with fail
      refine (live7_any _).mono ?_
      rintro e wl ⟨rfl, hgl⟩
      have HGL := hide (gb_trans (gb_trans HGA.out HGC.out (.inl rfl)) hgl (.inl rfl))
      clear hgl
      go_wp2_with fail
      exact bodyPost_ret (v := .bool true) (by simp [results, Tryz.results3, go_sem]) rfl ⟨rfl, HGL.out⟩
end Go.Proofs.YtkbflmaflokpdaaGreat

namespace Go.Proofs.YtkbflmaflokpdaaGreat
open Go.RowKit

theorem map_pick {α : Type} (l : List α) (g : Int → α) (a m : Nat) (hg : ∀ (i : Nat) (hi : i < l.length), g (i : Int) = l[i]) (h : a + m ≤ l.length) : (rowI (a : Int) m).map g = (l.drop a).take m := by
  rw [rowI_eq, List.map_map]
  apply List.ext_getElem
  · simp; omega
  · intro i h1 h2
    simp only [List.getElem_map, List.getElem_range, Function.comp, List.getElem_take, List.getElem_drop]
    rw [show (a : Int) + (i : Int) = ((a + i : Nat) : Int) by omega]
    exact hg _ _
theorem map_rev {α : Type} (l : List α) (g : Int → α) (hg : ∀ (i : Nat) (hi : i < l.length), g (i : Int) = l[i]) : (rowI 0 l.length).reverse.map g = l.reverse := by
  have h := map_pick l g 0 l.length hg (by omega)
  rw [List.map_reverse, show (rowI 0 l.length) = rowI ((0 : Nat) : Int) l.length from rfl, h]
  simp
theorem pickI_at (l : List Int) (d : Int) (i : Nat) (hi : i < l.length) : pickI l d (i : Int) = l[i] := by
  unfold pickI
  rw [if_pos ⟨by omega, by omega⟩, show ((i : Int)).toNat = i from rfl, getD_at hi]
theorem pickS_at (l : List ByteArray) (d : ByteArray) (i : Nat) (hi : i < l.length) : pickS l d (i : Int) = l[i] := by
  unfold pickS
  rw [if_pos ⟨by omega, by omega⟩, show ((i : Int)).toNat = i from rfl, getD_at hi]
theorem pickV_at (l : List Vl) (d : Vl) (i : Nat) (hi : i < l.length) : pickV l d (i : Int) = l[i] := by
  unfold pickV
  rw [if_pos ⟨by omega, by omega⟩, show ((i : Int)).toNat = i from rfl, getD_at hi]
/-- Some elements that stand together. -/
def cutS (v : Vl) (a m : Nat) : Vl := if v.t = 0 then ofV ((v.l.drop a).take m) else if v.t = 3 then .mk 3 [] ((v.s.drop a).take m) [] else .mk v.t ((v.n.drop a).take m) [] []
theorem idx_cut {v : Vl} (h : seqT v.t) (a m : Nat) (hc : a + m ≤ v.count) : idxV v (rowI (a : Int) m) = cutS v a m := by
  unfold idxV cutS
  rcases h with h | h | h
  · have h0 : v.t ≠ 0 := by unfold numT at h; omega
    have h3 : v.t ≠ 3 := by unfold numT at h; omega
    rw [count_num h] at hc
    rw [if_neg h0, if_neg h3, if_neg h0, if_neg h3, map_pick v.n _ a m (fun i hi => pickI_at _ _ i hi) hc]
  · rw [count_sym h] at hc
    rw [if_neg (by omega), if_pos h, if_neg (by omega), if_pos h, map_pick v.s _ a m (fun i hi => pickS_at _ _ i hi) hc]
  · rw [count_lst h] at hc
    rw [if_pos h, if_pos h, map_pick v.l _ a m (fun i hi => pickV_at _ _ i hi) hc]
theorem idx_tots {v : Vl} (h : v.t = 0) (a m : Nat) (hc : a + m ≤ v.count) : Vl.tots ((rowI (a : Int) m).map (pickV v.l emp)) ≤ Vl.tots v.l := by
  rw [count_lst h] at hc
  rw [map_pick v.l _ a m (fun i hi => pickV_at _ _ i hi) hc]
  have h1 := Vl.tots_take_le (v.l.drop a) m
  have h2 : Vl.tots v.l = Vl.tots (v.l.take a) + Vl.tots (v.l.drop a) := by rw [← Vl.tots_append, List.take_append_drop]
  omega
theorem unif_iff {l : List Vl} : unif l = true ↔ l ≠ [] ∧ ∃ t, atomT t = true ∧ ∀ x ∈ l, x.t = t := by
  cases l with
  | nil => simp [unif]
  | cons a r =>
    unfold unif
    simp only [Bool.and_eq_true, List.all_eq_true, beq_iff_eq, ne_eq, reduceCtorEq, not_false_eq_true, true_and, List.mem_cons, forall_eq_or_imp]
    constructor
    · rintro ⟨h1, h2⟩
      exact ⟨a.t, h1, rfl, h2⟩
    · rintro ⟨t, h1, h2, h3⟩
      exact ⟨h2 ▸ h1, fun x hx => by rw [h3 x hx, h2]⟩
theorem unif_rev {l : List Vl} (h : unif l = false) : unif l.reverse = false := by
  rw [Bool.eq_false_iff] at h ⊢
  intro h1
  apply h
  obtain ⟨h2, t, h3, h4⟩ := unif_iff.1 h1
  exact unif_iff.2 ⟨by simpa using h2, t, h3, fun x hx => h4 x (by simpa using hx)⟩
theorem chars_rev (l : List ByteArray) : Vl.chars l.reverse = Vl.chars l := by unfold Vl.chars; simp
/-- Turned round. -/
def revV (v : Vl) : Vl := .mk v.t v.n.reverse v.s.reverse v.l.reverse
theorem rev_tot (v : Vl) : (revV v).tot = v.tot := by
  rw [Vl.tot_def, Vl.tot_def v]
  simp [revV, Vl.n, Vl.s, Vl.l, tots_rev, chars_rev]
theorem idx_rev {v : Vl} (h : seqT v.t) (hn : numT v.t → v.s = [] ∧ v.l = []) (hs : v.t = 3 → v.n = [] ∧ v.l = []) (hl : v.t = 0 → v.n = [] ∧ v.s = [] ∧ unif v.l = false) : idxV v (rowI 0 v.count).reverse = revV v := by
  unfold idxV revV
  rcases h with t | t | t
  · obtain ⟨e1, e2⟩ := hn t
    rw [if_neg (by unfold numT at t; omega), if_neg (by unfold numT at t; omega), count_num t, map_rev v.n _ (fun i hi => pickI_at _ _ i hi), e1, e2]
    rfl
  · obtain ⟨e1, e2⟩ := hs t
    rw [if_neg (by omega), if_pos t, count_sym t, map_rev v.s _ (fun i hi => pickS_at _ _ i hi), e1, e2, t]
    rfl
  · obtain ⟨e1, e2, hu⟩ := hl t
    rw [if_pos t, count_lst t, map_rev v.l _ (fun i hi => pickV_at _ _ i hi), ofV_list (unif_rev hu), e1, e2, t]
    rfl
theorem rev_tots {v : Vl} (h : v.t = 0) : Vl.tots ((rowI 0 v.count).reverse.map (pickV v.l emp)) = Vl.tots v.l := by
  rw [count_lst h, map_rev v.l _ (fun i hi => pickV_at _ _ i hi), tots_rev]
theorem tot_num (t : Int) (l : List Int) : (Vl.mk t l [] []).tot = 1 + l.length := by
  rw [Vl.tot_def]
  show 1 + l.length + 0 + 0 + 0 = _
  omega
theorem tot_sym (l : List ByteArray) : (Vl.mk 3 [] l []).tot = 1 + l.length + Vl.chars l := by
  rw [Vl.tot_def]
  show 1 + 0 + l.length + Vl.chars l + 0 = _
  omega
theorem TupV.at {y : Vl} {w : World} {e : Ending} {w' : World} (h : TupV y w e w') : AtN y 0 w e w' := h
theorem NewE.at {y : Vl} {w : World} {e : Ending} {w' : World} (h : NewE y w e w') : AtN y 0 w e w' := h
theorem ErrV.at {k : Int} {w : World} {e : Ending} {w' : World} (h : ErrV k w e w') : AtN emp k w e w' := by
  obtain ⟨rfl, hg⟩ := h
  exact ⟨none, 0, none, 0, none, 0, [], rfl, vow_emp _, New.nil_ _ _, hg⟩
theorem emp_tot : emp.tot ≤ 1200000000 := by rw [Vl.tot_def]; decide
theorem chars_picks (l : List ByteArray) (N : Nat) (h : ∀ x ∈ l, x.size ≤ N) (ps : List Int) : Vl.chars (ps.map (pickS l ⟨#[]⟩)) ≤ ps.length * N := by
  induction ps with
  | nil => simp [Vl.chars]
  | cons p r ih =>
    have h1 : (pickS l ⟨#[]⟩ p).size ≤ N := by
      unfold pickS
      split
      · rename_i hp
        rw [getD_at (by omega)]
        exact h _ (List.getElem_mem _)
      · exact Nat.zero_le _
    have e : Vl.chars ((p :: r).map (pickS l ⟨#[]⟩)) = (pickS l ⟨#[]⟩ p).size + Vl.chars (r.map (pickS l ⟨#[]⟩)) := by simp [Vl.chars]
    rw [e, List.length_cons, Nat.add_mul]
    omega
theorem size_chars {x : ByteArray} {l : List ByteArray} (h : x ∈ l) : x.size ≤ Vl.chars l := by
  induction l with
  | nil => cases h
  | cons a r ih =>
    have e : Vl.chars (a :: r) = a.size + Vl.chars r := by simp [Vl.chars]
    rw [e]
    rcases List.mem_cons.1 h with rfl | h
    · omega
    · have := ih h; omega
theorem idx_tot {v : Vl} (_ : seqT v.t) (ps : List Int) : (idxV v ps).tot ≤ 1 + ps.length * (v.tot + 1) := by
  have hd := Vl.tot_def v
  have hp := Vl.tot_pos v
  unfold idxV
  by_cases h0 : v.t = 0
  · rw [if_pos h0]
    have h1 := ofV_tot (ps.map (pickV v.l emp))
    have h2 := picks_tots v.l v.tot (fun x hx => by have := Vl.tot_mem hx; omega) hp ps
    have h3 : ps.length * v.tot ≤ ps.length * (v.tot + 1) := Nat.mul_le_mul_left _ (by omega)
    omega
  rw [if_neg h0]
  by_cases h3 : v.t = 3
  · rw [if_pos h3, tot_sym, List.length_map]
    have h2 := chars_picks v.s v.tot (fun x hx => by have := size_chars hx; omega) ps
    rw [Nat.mul_add]
    omega
  · rw [if_neg h3, tot_num, List.length_map]
    have h4 : ps.length * 1 ≤ ps.length * (v.tot + 1) := Nat.mul_le_mul_left _ (by omega)
    omega
theorem chars_sub (l : List ByteArray) (a m : Nat) : Vl.chars ((l.drop a).take m) ≤ Vl.chars l := by
  have h1 := Vl.chars_take_le (l.drop a) m
  have h2 : Vl.chars l = Vl.chars (l.take a) + Vl.chars (l.drop a) := by
    unfold Vl.chars
    conv => lhs; rw [← List.take_append_drop a l]
    rw [List.map_append, List.sum_append]
  omega
theorem cut_le {v : Vl} (h : seqT v.t) (a m : Nat) (hc : a + m ≤ v.count) : (idxV v (rowI (a : Int) m)).tot ≤ v.tot + 1 := by
  have hd := Vl.tot_def v
  by_cases h0 : v.t = 0
  · have h1 := ofV_tot ((rowI (a : Int) m).map (pickV v.l emp))
    have h2 := idx_tots h0 a m hc
    unfold idxV
    rw [if_pos h0]
    omega
  rw [idx_cut h a m hc]
  unfold cutS
  rw [if_neg h0]
  by_cases h3 : v.t = 3
  · rw [if_pos h3, tot_sym]
    have h1 := chars_sub v.s a m
    have h2 : ((v.s.drop a).take m).length ≤ v.s.length := by rw [List.length_take, List.length_drop]; omega
    omega
  · rw [if_neg h3, tot_num]
    have h2 : ((v.n.drop a).take m).length ≤ v.n.length := by rw [List.length_take, List.length_drop]; omega
    omega
/-- Of what is a vector or a list. -/
theorem quad_seq (v : Vl) (n : Int) (ps : List Int) (w : World) (nA : Option Addr) (nc : Nat) (sA : Option Addr) (sc : Nat) (lA : Option Addr) (lc : Nat) (pA : Option Addr) (pc : Nat) (hs : seqT v.t) (hck : checkV v = 0) (hpl : ps.length ≤ 1000) (hn : NOk n) (hnb : -9223372036854775808 ≤ n ∧ n ≤ 9223372036854775807) (ht : v.tot ≤ 1048576)
    (h : VB w w.heap.size v nA nc sA sc lA lc) (hp : Rd w w.heap.size pA (i64s ps)) :
    ∃ y1 y2 y3 y4 k1 k2 k3 k4, QuadC v n ps nA nc sA sc lA lc pA pc w y1 y2 y3 y4 k1 k2 k3 k4 := by
  have hg := good_of hs hck
  have hc := hg.c
  have hd := Vl.tot_def v
  have hp1 := Vl.tot_pos v
  have hrv : v.t = 0 → Vl.tots ((rowI 0 v.count).reverse.map (pickV v.l emp)) ≤ 1200000000 := fun e => by rw [rev_tots e]; omega
  have hrt : (idxV v (rowI 0 v.count).reverse).tot ≤ 1200000000 := by
    rw [idx_rev hs hg.num hg.sym (fun e => by obtain ⟨a, b, c, _⟩ := hg.lst e; exact ⟨a, b, c⟩), rev_tot]
    omega
  have hpk : ∀ l : List Int, l.length ≤ 1000 → Vl.tots (l.map (pickV v.l emp)) ≤ 1200000000 := fun l hl => by
    have h1 := picks_tots v.l v.tot (fun x hx => by have := Vl.tot_mem hx; omega) hp1 l
    have h2 : l.length * v.tot ≤ 1000 * v.tot := Nat.mul_le_mul_right _ hl
    omega
  have hit : ∀ l : List Int, l.length ≤ 1000 → (idxV v l).tot ≤ 1200000000 := fun l hl => by
    have h1 := idx_tot hs l
    have h2 : l.length * (v.tot + 1) ≤ 1000 * (v.tot + 1) := Nat.mul_le_mul_right _ hl
    omega
  -- Drop
  obtain ⟨fi, hfi⟩ : ∃ fi, max n 0 = fi := ⟨_, rfl⟩
  obtain ⟨en, hen⟩ : ∃ en, max ((v.count : Int) + min n 0) fi = en := ⟨_, rfl⟩
  obtain ⟨m, hm⟩ : ∃ m : Nat, en - fi = (m : Int) := ⟨(en - fi).toNat, by omega⟩
  obtain ⟨hz, hdt, hdv⟩ : (n ≤ 1000000 ∨ m = 0) ∧ (idxV v (rowI fi m)).tot ≤ 1200000000 ∧ (v.t = 0 → Vl.tots ((rowI fi m).map (pickV v.l emp)) ≤ 1200000000) := by
    rcases Nat.eq_zero_or_pos m with hm0 | hm0
    · refine ⟨.inr hm0, ?_, fun _ => ?_⟩
      · rw [hm0]; exact hit _ (by simp [rowI])
      · rw [hm0]; exact hpk _ (by simp [rowI])
    · obtain ⟨a, ha⟩ : ∃ a : Nat, fi = (a : Int) := ⟨fi.toNat, by omega⟩
      subst ha
      have hac : a + m ≤ v.count := by omega
      refine ⟨.inl (by omega), ?_, fun e => ?_⟩
      · have := cut_le hs a m hac; omega
      · have := idx_tots e a m hac; omega
  -- Take
  obtain ⟨y2, k2, hy2, ha2, hb2⟩ : ∃ y2 k2, y2.tot ≤ 1200000000 ∧ (∀ w2, w.grownBy w2 none → Calls Tryz.prog 13 #[.int .i64 n, .agg #[.int .i64 v.t, .slice nA v.n.length nc, .slice sA v.s.length sc, .slice lA v.l.length lc]] w2 (AtN y2 k2 w2)) ∧ (∀ w2, w.grownBy w2 none → Calls Tryz.prog 14 #[.int .i64 n, .agg #[.int .i64 v.t, .slice nA v.n.length nc, .slice sA v.s.length sc, .slice lA v.l.length lc]] w2 (AtN y2 k2 w2)) := by
    rcases hn with hn | hn | hn
    · have hl1 : ((rowI (min n 0) n.natAbs).map fun p => remI p (v.count : Int)).length ≤ 1000 := by rw [List.length_map, rowI_length]; omega
      have hl2 : ((rowI (min n 0) n.natAbs).map (tkR v.count)).length ≤ 1000 := by rw [List.length_map, rowI_length]; omega
      refine ⟨idxV v ((rowI (min n 0) n.natAbs).map fun p => remI p (v.count : Int)), 0, hit _ hl1, fun w2 k => (take_any n n.natAbs v w2 w.heap.size nA nc sA sc lA lc hs (by omega) k.size (h.gb k (Nat.le_refl _)) (by omega) rfl (fun _ => hpk _ hl1)).mono fun _ _ q => TupV.at q, fun w2 k => ?_⟩
      rw [← idx_nrm hs, ← take_places]
      by_cases h0 : 0 ≤ n
      · obtain ⟨q, rfl⟩ : ∃ q : Nat, n = (q : Int) := ⟨n.toNat, by omega⟩
        rw [show min (q : Int) 0 = 0 by omega, show ((q : Int)).natAbs = q by omega] at hl2 ⊢
        exact (rTake_pos q (by omega) v w2 w.heap.size nA nc sA sc lA lc hs (by omega) hc k.size (h.gb k (Nat.le_refl _)) (fun _ => hpk _ hl2)).mono fun _ _ q => NewE.at q
      · obtain ⟨q, rfl⟩ : ∃ q : Nat, n = -(q : Int) := ⟨(-n).toNat, by omega⟩
        rw [show min (-(q : Int)) 0 = -(q : Int) by omega, show (-(q : Int)).natAbs = q by omega] at hl2 ⊢
        exact (rTake_neg q (by omega) (by omega) v w2 w.heap.size nA nc sA sc lA lc hs (by omega) hc k.size (h.gb k (Nat.le_refl _)) (fun _ => hpk _ hl2)).mono fun _ _ q => NewE.at q
    · exact ⟨emp, 6, emp_tot, fun w2 k => (take_over n hn v hs nA nc sA sc lA lc w2).mono fun _ _ q => ErrV.at q, fun w2 k => (rTake_over n v.t ⟨hs, hn⟩ _ _ _ w2).mono fun _ _ q => ErrV.at q⟩
    · exact ⟨emp, 6, emp_tot, fun w2 k => (take_under n hn v hs nA nc sA sc lA lc w2).mono fun _ _ q => ErrV.at q, fun w2 k => (rTake_under n v.t ⟨hs, hn⟩ _ _ _ w2).mono fun _ _ q => ErrV.at q⟩
  refine ⟨idxV v (rowI 0 v.count).reverse, y2, idxV v (rowI fi m), idxV v ps, 0, k2, 0, 0, hrt, hy2, hdt, hit ps hpl, fun w2 k => ?_, fun w2 k => ?_, ha2, hb2, fun w2 k => ?_, fun w2 k => ?_, fun w2 k => ?_, fun w2 k => ?_⟩
  · exact (reverse_any v w2 w.heap.size nA nc sA sc lA lc hs (by omega) k.size (h.gb k (Nat.le_refl _)) hrv).mono fun _ _ q => TupV.at q
  · exact (rRev_any v w2 w.heap.size nA nc sA sc lA lc hs (by omega) hc k.size (h.gb k (Nat.le_refl _)) hrv).mono fun _ _ q => NewE.at q
  · exact (drop_wide n m fi en v w2 w.heap.size nA nc sA sc lA lc hs (by omega) k.size (h.gb k (Nat.le_refl _)) hnb hz hfi hen hm hdv).mono fun _ _ q => TupV.at q
  · exact (rDrop_any n fi en m v w2 w.heap.size nA nc sA sc lA lc hnb hfi hen hm hs (by omega) hc k.size (h.gb k (Nat.le_refl _)) hdv).mono fun _ _ q => NewE.at q
  · exact (index_any v ps w2 w.heap.size nA nc sA sc lA lc pA pc hs (fun _ => hpk _ hpl) (by omega) k.size (h.gb k (Nat.le_refl _)) ((hp.grown k (Nat.le_refl _) (by simp)).more k.size) (by omega)).mono fun _ _ q => TupV.at q
  · rw [← idx_nrm hs]
    exact (rIdx_any v ps w2 w.heap.size nA nc sA sc lA lc pA pc hs (by omega) hc k.size (h.gb k (Nat.le_refl _)) ((hp.grown k (Nat.le_refl _) (by simp)).more k.size) hpl (fun _ => hpk _ (by rw [List.length_map]; exact hpl))).mono fun _ _ q => NewE.at q
/-- Of whatever else. -/
theorem quad_not (v : Vl) (n : Int) (ps : List Int) (w : World) (nA : Option Addr) (nc : Nat) (sA : Option Addr) (sc : Nat) (lA : Option Addr) (lc : Nat) (pA : Option Addr) (pc : Nat) (hs : ¬ seqT v.t) (hck : checkV v = 0) (hnb : -9223372036854775808 ≤ n ∧ n ≤ 9223372036854775807) (ht : v.tot ≤ 1048576) (h : VB w w.heap.size v nA nc sA sc lA lc) :
    QuadC v n ps nA nc sA sc lA lc pA pc w emp emp emp emp 31 31 31 31 := by
  have hc := count_bd hck
  refine ⟨emp_tot, emp_tot, emp_tot, emp_tot, fun w2 k => ?_, fun w2 k => ?_, fun w2 k => ?_, fun w2 k => ?_, fun w2 k => ?_, fun w2 k => ?_, fun w2 k => ?_, fun w2 k => ?_⟩
  · exact (reverse_err v w2 w.heap.size nA nc sA sc lA lc hs (by omega) k.size (h.gb k (Nat.le_refl _))).mono fun _ _ q => ErrV.at q
  · exact (rReverse_31 v.t hs _ _ _ w2).mono fun _ _ q => ErrV.at q
  · exact (take_err n v hs nA nc sA sc lA lc w2).mono fun _ _ q => ErrV.at q
  · exact (rTake_31 n v.t hs _ _ _ w2).mono fun _ _ q => ErrV.at q
  · exact (drop_err n v w2 w.heap.size nA nc sA sc lA lc hs hc (by omega) k.size (h.gb k (Nat.le_refl _)) hnb).mono fun _ _ q => ErrV.at q
  · exact (rDrop_31 n v.t hs _ _ _ w2).mono fun _ _ q => ErrV.at q
  · exact (index_err v hs nA nc sA sc lA lc _ w2).mono fun _ _ q => ErrV.at q
  · exact (rIndex_31 _ v.t hs _ _ _ w2).mono fun _ _ q => ErrV.at q
theorem parts_any (v : Vl) (n : Int) (ps : List Int) (w : World) (nA : Option Addr) (nc : Nat) (sA : Option Addr) (sc : Nat) (lA : Option Addr) (lc : Nat) (pA : Option Addr) (pc : Nat) (hnb : -9223372036854775808 ≤ n ∧ n ≤ 9223372036854775807) (ht : v.tot ≤ 1048576) (hpl : ps.length ≤ 1048576) (h : VB w w.heap.size v nA nc sA sc lA lc) (hp : Rd w w.heap.size pA (i64s ps)) :
    Calls Tryz.prog 3 #[.agg #[.int .i64 v.t, .slice nA v.n.length nc, .slice sA v.s.length sc, .slice lA v.l.length lc], .int .i64 n, .slice pA ps.length pc] w fun e w' => e = .returned (.bool true) ∧ w.grownBy w' none := by
  by_cases hm : checkV v = 0 ∧ ps.length ≤ 1000 ∧ NOk n
  · obtain ⟨h1, h2, h3⟩ := hm
    by_cases hs : seqT v.t
    · obtain ⟨y1, y2, y3, y4, k1, k2, k3, k4, hq⟩ := quad_seq v n ps w nA nc sA sc lA lc pA pc hs h1 h2 h3 hnb ht h hp
      exact parts_walk v n ps w nA nc sA sc lA lc pA pc ht h hpl y1 y2 y3 y4 k1 k2 k3 k4 (fun _ _ _ => hq)
    · exact parts_walk v n ps w nA nc sA sc lA lc pA pc ht h hpl _ _ _ _ _ _ _ _ (fun _ _ _ => quad_not v n ps w nA nc sA sc lA lc pA pc hs h1 hnb ht h)
  · exact parts_walk v n ps w nA nc sA sc lA lc pA pc ht h hpl emp emp emp emp 0 0 0 0 (fun a b c => absurd ⟨a, b, c⟩ hm)
end Go.Proofs.YtkbflmaflokpdaaGreat
