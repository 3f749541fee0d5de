/-
  vec.Join of vectors and lists that are not all of one type.
-/
import Derived.Test.YtnilcnobngcbgaaGreatMd
import Derived.Test.YtnilcnobngcbgaaGreatWzc
import Derived.Test.YtnilcnobngcbgaaGreatVu
import Derived.Test.YtnilcnobngcbgaaGreatRf
import Derived.OwnWalkIn
import Derived.TacticsInMore
import Derived.LoopNIn
import Derived.LoopIn
import Derived.Deep.CutBlock
import Derived.Deep.DeepCutAuto
import Derived.Test.YtnilcnobngcbgaaGreatRg
import Derived.Test.YtnilcnobngcbgaaGreatGi
import Derived.Test.YtnilcnobngcbgaaGreatMb
import Derived.Test.YtnilcnobngcbgaaGreatVy

namespace Go.Proofs.YtnilcnobngcbgaaGreat
open Go.RowKit
attribute [local go_sem ↓] Go.wp_at_zero Go.wp_at_succ

/-- Some number. -/
def SomeI (w : World) (e : Ending) (w' : World) : Prop := ∃ r : Int, e = .returned (.int .i64 r) ∧ w.grownBy w' none
set_option maxHeartbeats 4000000 in
set_option maxRecDepth 100000 in
theorem size7_d (d : Nat) : ∀ (x : Vl) (w : World) (B : Nat) (nA : Option Addr) (nc : Nat) (sA : Option Addr) (sc : Nat) (lA : Option Addr) (lc : Nat), x.depth ≤ d → x.tot ≤ 1100000 → B ≤ w.heap.size → VB w B x nA nc sA sc lA lc →
    Calls Tryz.prog 26 #[.agg #[.int .i64 x.t, .slice nA x.n.length nc, .slice sA x.s.length sc, .slice lA x.l.length lc]] w (SomeI w) := by
  induction d with
  | zero => intro x; intros; rw [Vl.depth_def] at *; omega
  | succ d ih =>
    intro x w B nA nc sA sc lA lc hd ht hB h
    obtain ⟨l1, l2, l3, l4⟩ := Vl.lens x ht
    obtain ⟨wa, hwa⟩ : ∃ wa, wa = w.alloc (.cells #[.int .i64 x.t, .slice nA x.n.length nc, .slice sA x.s.length sc, .slice lA x.l.length lc] 26) := ⟨_, rfl⟩
    have hb : wa.heap[w.heap.size]? = some (.cells #[.int .i64 x.t, .slice nA x.n.length nc, .slice sA x.s.length sc, .slice lA x.l.length lc] 26 (0, 0)) := by rw [hwa]; exact heap_alloc_new w _
    have hg : w.grownBy wa none := by rw [hwa]; exact gb_alloc (gb_refl w none) _
    have HB := hide hb
    have HG := hide hg
    have HWE := hide hwa
    have HBB := hide hB
    have HL := hide h.l
    have HL3 := hide l3
    have HIH := hide (fun (j : Nat) (hj : j < x.l.length) w2 (hg : w.grownBy w2 none) yA yc zA zc uA uc (hv : VB w2 B x.l[j] yA yc zA zc uA uc) => ih x.l[j] w2 B yA yc zA zc uA uc (by have := Vl.depth_lt (List.getElem_mem hj); omega) (Nat.le_trans (Vl.tot_mem (List.getElem_mem hj)) l4) (Nat.le_trans hB hg.size) hv)
    obtain ⟨c0, c1, c2, c3⟩ : C4 wa w.heap.size 0 (.int .i64 x.t) (.slice nA x.n.length nc) (.slice sA x.s.length sc) (.slice lA x.l.length lc) := ⟨by rw [blk_cell hb]; rfl, by rw [blk_cell hb]; rfl, by rw [blk_cell hb]; rfl, by rw [blk_cell hb]; rfl⟩
    have d0 := c0; have d1 := c1; have d2 := c2; have d3 := c3
    rw [hwa] at d0 d1 d2 d3
    clear hb hg hwa hB h ih hd ht l1 l2 l3 l4
    go_enter Tryz.func26, Tryz.ntmps26
    go_wp2_with fail
    rw [← HWE.out]
    clear d0 d1 d2 d3 c0 c1 c2 c3
    go_loopw [3, 4] (fun u i wr => ∃ (j : Nat) (r : Int), i = .int .i64 (j : Int) ∧ u = .int .i64 r ∧ j ≤ x.l.length ∧ wa.grownBy wr none) (fun _ i _ => x.l.length - (intOf i).toNat)
    case atStart => exact ⟨0, _, rfl, rfl, Nat.zero_le _, gb_refl wa none⟩
    case round =>
      obtain ⟨j, r, rfl, rfl, hj, hgr⟩ := hrel
      have hbx := blk_keep HB.out hgr (by simp)
      obtain ⟨c0, c1, c2, c3⟩ : C4 wr w.heap.size 0 (.int .i64 x.t) (.slice nA x.n.length nc) (.slice sA x.s.length sc) (.slice lA x.l.length lc) := ⟨by rw [blk_cell hbx]; rfl, by rw [blk_cell hbx]; rfl, by rw [blk_cell hbx]; rfl, by rw [blk_cell hbx]; rfl⟩
      have HGR := hide hgr
      by_cases hlt : j < x.l.length
      · have hlt1 : (j : Int) < (x.l.length : Int) := by omega
        by_cases hr : r ≤ 20000
        · have hr1 : decide (r ≤ 20000) = true := decide_eq_true hr
          obtain ⟨q, p, yA, yc, zA, zc, uA, uc, hA, hqB, hc4, hvb⟩ := HL.out.at_ hlt
          subst hA
          have hgw : w.grownBy wr none := gb_trans HG.out hgr (.inl rfl)
          obtain ⟨f0, f1, f2, f3⟩ := hc4.gb hgw
          have h6 : IntKind.i64.wrap ((j : Int) + 1) = ((j + 1 : Nat) : Int) := by rw [IntKind.wrap_i64]; have := HL3.out; omega
          have HCALL := hide (HIH.out j hlt wr hgw _ _ _ _ _ _ (hvb.gb hgw HBB.out))
          have HLT := hide hlt
          clear hc4 hvb hgw hgr hbx hj hr
          go_wp2_with (go_at_call 26; refine HCALL.out.mono ?_; rintro e w1 ⟨r2, rfl, hg1⟩; have HG1 := hide hg1; clear hg1)
          go_roundw
          case rel => exact ⟨j + 1, _, by go_num, rfl, by have := HLT.out; omega, gb_trans HGR.out HG1.out (.inl rfl)⟩
          case measure => have := HLT.out; simp [intOf]; omega
        · have hr1 : decide (r ≤ 20000) = false := decide_eq_false hr
          clear hgr hbx hj hr
          go_wp2_with fail
          exact bodyPost_ret (v := .int .i64 r) (by simp [results, Tryz.results26, go_sem]) rfl ⟨r, rfl, gb_trans HG.out HGR.out (.inl rfl)⟩
      · have hlt1 : ¬ (j : Int) < (x.l.length : Int) := by omega
        clear hgr hbx hj
        go_wp2_with fail
        exact bodyPost_ret (v := .int .i64 r) (by simp [results, Tryz.results26, go_sem]) rfl ⟨r, rfl, gb_trans HG.out HGR.out (.inl rfl)⟩
/-- What right tells. -/
def RightR (l : List Vl) (w : World) (e : Ending) (w' : World) : Prop := ∃ b : Bool, e = .returned (.bool b) ∧ (b = true → ∀ x ∈ l, checkV x = 0) ∧ w.grownBy w' none
set_option maxHeartbeats 4000000 in
set_option maxRecDepth 100000 in
theorem right7_any (l : List Vl) (w : World) (B : Nat) (A : Option Addr) (c : Nat) (ht : Vl.tots l ≤ 1100000) (hB : B ≤ w.heap.size) (h : RdV w B A l) :
    Calls Tryz.prog 6 #[.slice A l.length c] w (RightR l w) := by
  have l1 : l.length ≤ 1100000 := Nat.le_trans (Vl.length_le_tots l) ht
  have H := hide h
  have HB := hide hB
  have HT := hide ht
  have HL := hide l1
  clear h hB ht l1
  go_enter Tryz.func6, Tryz.ntmps6
  go_wp2_with fail
  go_loopw [3, 4] (fun u i wr => ∃ (j : Nat) (r : Int), i = .int .i64 (j : Int) ∧ u = .int .i64 r ∧ j ≤ l.length ∧ w.grownBy wr none) (fun _ i _ => l.length - (intOf i).toNat)
  case atStart => exact ⟨0, 0, rfl, rfl, Nat.zero_le _, gb_refl w none⟩
  case round =>
    obtain ⟨j, r, rfl, rfl, hj, hgr⟩ := hrel
    have HGR := hide hgr
    by_cases hlt : j < l.length ∧ r ≤ 20000
    · obtain ⟨hlt, hr⟩ := hlt
      have hlt1 : (j : Int) < (l.length : Int) := by omega
      have hr1 : decide (r ≤ 20000) = true := decide_eq_true hr
      obtain ⟨q, p, yA, yc, zA, zc, uA, uc, hA, hqB, hc4, hvb⟩ := H.out.at_ hlt
      subst hA
      obtain ⟨f0, f1, f2, f3⟩ := hc4.gb hgr
      have h6 : IntKind.i64.wrap ((j : Int) + 1) = ((j + 1 : Nat) : Int) := by rw [IntKind.wrap_i64]; have := HL.out; omega
      have HCALL := hide (size7_d _ l[j] wr B yA yc zA zc uA uc (Nat.le_refl _) (Nat.le_trans (Vl.tot_mem (List.getElem_mem hlt)) HT.out) (Nat.le_trans HB.out hgr.size) (hvb.gb hgr HB.out))
      have HLT := hide hlt
      clear hc4 hvb hgr hj hr
      go_wp2_with (go_at_call 26; refine HCALL.out.mono ?_; rintro e w1 ⟨r2, rfl, hg1⟩; have HG1 := hide hg1; clear hg1)
      go_roundw
      case rel => exact ⟨j + 1, _, by go_num, rfl, by have := HLT.out; omega, gb_trans HGR.out HG1.out (.inl rfl)⟩
      case measure => have := HLT.out; simp [intOf]; omega
    · have hor : Hid (((j : Int) < (l.length : Int) ∧ decide (r ≤ 20000) = false) ∨ ¬ (j : Int) < (l.length : Int)) := hide (by
        by_cases h1 : j < l.length
        · exact .inl ⟨by omega, decide_eq_false fun h2 => hlt ⟨h1, h2⟩⟩
        · exact .inr (by omega))
      clear hlt hgr hj
      rcases hor.out with ⟨k1, k2⟩ | k1
      all_goals
        clear hor
        by_cases hr : 20000 < r
        · have hr1 : decide (20000 < r) = true := decide_eq_true hr
          clear hr
          go_wp2_with fail
          exact bodyPost_ret (v := .bool false) (by simp [results, Tryz.results6, go_sem]) rfl ⟨false, rfl, (fun h => by cases h), HGR.out⟩
        · have hr1 : decide (20000 < r) = false := decide_eq_false hr
          have hr2 : ¬ 20000 < r := hr
          clear hr
          go_wp2_with fail
          go_loopw [5] (fun i wr => ∃ j : Nat, i = .int .i64 (j : Int) ∧ j ≤ l.length ∧ Hid (∀ x ∈ l.take j, checkV x = 0) ∧ w.grownBy wr none) (fun i _ => l.length - (intOf i).toNat)
          case atStart => exact ⟨0, rfl, Nat.zero_le _, hide (by simp), HGR.out⟩
          case round =>
            obtain ⟨i, rfl, hi, HE, hgq⟩ := hrel
            have HGQ := hide hgq
            by_cases hlt : i < l.length
            · have hlt1 : (i : Int) < (l.length : Int) := by omega
              obtain ⟨q, p, yA, yc, zA, zc, uA, uc, hA, hqB, hc4, hvb⟩ := H.out.at_ hlt
              subst hA
              obtain ⟨f0, f1, f2, f3⟩ := hc4.gb hgq
              have h6 : IntKind.i64.wrap ((i : Int) + 1) = ((i + 1 : Nat) : Int) := by rw [IntKind.wrap_i64]; have := HL.out; omega
              obtain ⟨ck, hck, hcall⟩ : ∃ ck, ck = checkV l[i] ∧ Calls Tryz.prog 27 #[.agg #[.int .i64 l[i].t, .slice yA l[i].n.length yc, .slice zA l[i].s.length zc, .slice uA l[i].l.length uc]] wr fun e w' => e = .returned (.int .i64 ck) ∧ wr.grownBy w' none := ⟨_, rfl, rCheck_any l[i] wr B yA yc zA zc uA uc (Nat.le_trans (Vl.tot_mem (List.getElem_mem hlt)) HT.out) (Nat.le_trans HB.out hgq.size) (hvb.gb hgq HB.out)⟩
              have HCALL := hide hcall
              have HLT := hide hlt
              have HTK := hide (show l.take (i + 1) = l.take i ++ [l[i]] from List.take_succ_eq_append_getElem hlt)
              have HCK := hide hck
              clear hc4 hvb hgq hi hck hcall
              by_cases h0 : ck = 0
              · have h1 : (ck != 0) = false := by simp [h0]
                have H0 := hide h0
                clear h0
                go_wp2_with (go_at_call 27; refine HCALL.out.mono ?_; rintro e w1 ⟨rfl, hg1⟩; have HG1 := hide hg1; clear hg1)
                go_roundw
                case rel => exact ⟨i + 1, by go_num, by have := HLT.out; omega, hide (by rw [HTK.out]; intro x hx; rcases List.mem_append.1 hx with hx | hx; exact HE.out x hx; obtain rfl := List.mem_singleton.1 hx; exact HCK.out.symm.trans H0.out), gb_trans HGQ.out HG1.out (.inl rfl)⟩
                case measure => have := HLT.out; simp [intOf]; omega
              · have h1 : (ck != 0) = true := by simp [h0]
                clear h0
                go_wp2_with (go_at_call 27; refine HCALL.out.mono ?_; rintro e w1 ⟨rfl, hg1⟩; have HG1 := hide hg1; clear hg1)
                exact bodyPost_ret (v := .bool false) (by simp [results, Tryz.results6, go_sem]) rfl ⟨false, rfl, (fun h => by cases h), gb_trans HGQ.out HG1.out (.inl rfl)⟩
            · have hlt1 : ¬ (i : Int) < (l.length : Int) := by omega
              have HTT := hide (show l.take i = l from List.take_of_length_le (by omega))
              clear hgq hi hlt
              go_wp2_with fail
              exact bodyPost_ret (v := .bool true) (by simp [results, Tryz.results6, go_sem]) rfl ⟨true, rfl, (fun _ => by have := HE.out; rwa [HTT.out] at this), HGQ.out⟩
end Go.Proofs.YtnilcnobngcbgaaGreat

namespace Go.Proofs.YtnilcnobngcbgaaGreat
open Go.RowKit
attribute [local go_sem ↓] Go.wp_at_zero Go.wp_at_succ
attribute [local go_sem] wide_fn wide_depth Oper.semAt_some

/-- What Each has kept: a copy in a box. -/
structure EachAt (w : World) (v : Vl) (bk : Nat) (f : List Nat) : Prop where
  own : ∃ nA nc sA sc lA lc, C4 w bk 0 (.int .i64 v.t) (.slice nA v.n.length nc) (.slice sA v.s.length sc) (.slice lA v.l.length lc) ∧ VOw w v [.int .i64 v.t, .slice nA v.n.length nc, .slice sA v.s.length sc, .slice lA v.l.length lc] f
  lt : bk < w.heap.size
theorem EachAt.keep {w w' : World} {v : Vl} {bk : Nat} {f : List Nat} (h : EachAt w v bk f) (hs : w.heap.size ≤ w'.heap.size) (hk : ∀ b, b ∈ bk :: f → w'.heap[b]? = w.heap[b]?) : EachAt w' v bk f := by
  obtain ⟨⟨nA, nc, sA, sc, lA, lc, hc, ho⟩, hl⟩ := h
  have hb : w'.heap[bk]? = w.heap[bk]? := hk bk (by simp)
  have hcell : ∀ o, w'.cell? ⟨bk, o, none⟩ = w.cell? ⟨bk, o, none⟩ := fun o => World.cell?_of_block (a := ⟨bk, o, none⟩) hb
  exact ⟨⟨nA, nc, sA, sc, lA, lc, ⟨(hcell _).trans hc.c0, (hcell _).trans hc.c1, (hcell _).trans hc.c2, (hcell _).trans hc.c3⟩, VOw.keep _ _ _ ho fun b hm => hk b (by simp [hm])⟩, by omega⟩
def EachNew (v : Vl) (w : World) (e : Ending) (w' : World) : Prop := ∃ bk f, e = .returned (.func (.func 114) #[] #[.pointer (some ⟨bk, 0, none⟩)]) ∧ EachAt w' v bk f ∧ (∀ b ∈ bk :: f, w.heap.size ≤ b ∧ b < w'.heap.size) ∧ w.grownBy w' none

set_option maxHeartbeats 4000000 in
set_option maxRecDepth 100000 in
theorem eachV_any (v : Vl) (w : World) (B : Nat) (nA : Option Addr) (nc : Nat) (sA : Option Addr) (sc : Nat) (lA : Option Addr) (lc : Nat) (ht : v.tot ≤ 1100000) (hB : B ≤ w.heap.size) (h : VB w B v nA nc sA sc lA lc) :
    Calls Tryz.prog 88 #[.agg #[.int .i64 v.t, .slice nA v.n.length nc, .slice sA v.s.length sc, .slice lA v.l.length lc]] w (EachNew v w) := by
  obtain ⟨wa, hwa⟩ : ∃ wa, wa = w.alloc (.cells #[.int .i64 v.t, .slice nA v.n.length nc, .slice sA v.s.length sc, .slice lA v.l.length lc] 26) := ⟨_, rfl⟩
  have hg : w.grownBy wa none := by rw [hwa]; exact gb_alloc (gb_refl w none) _
  have hc := C4.box w (.int .i64 v.t) (.slice nA v.n.length nc) (.slice sA v.s.length sc) (.slice lA v.l.length lc) 26
  rw [← hwa] at hc
  obtain ⟨b0, b1, b2, b3⟩ := hc
  have hbw := Nat.le_trans hB hg.size
  have HCL := hide (vClone_any v wa B nA nc sA sc lA lc ht hbw (h.gb hg hB))
  have HG := hide hg
  have HWE := hide hwa
  clear ht hB h hg hwa hbw
  go_enter Tryz.func88, Tryz.ntmps88
  go_wp2_with fail
  rw [← HWE.out]
  go_wp2_with (go_at_call 96; refine HCL.out.mono ?_; rintro e w1 ⟨xA, xc, yA, yc, zA, zc, f, rfl, ho, hn, hg1⟩; have HO := hide ho; have HN := hide hn; have HG1 := hide hg1; clear ho hn hg1)
  go_ret
  have hgx := gb_alloc (gb_refl w1 none) (.cells #[.int .i64 v.t, .slice xA v.n.length xc, .slice yA v.s.length yc, .slice zA v.l.length zc] 26)
  have hs0 := HG.out.size
  have hs1 := HG1.out.size
  refine ⟨_, f, rfl, ⟨⟨xA, xc, yA, yc, zA, zc, C4.box w1 _ _ _ _ _, HO.out.gb hgx⟩, by simp⟩, ?_, gb_trans HG.out (gb_trans HG1.out hgx (.inl rfl)) (.inl rfl)⟩
  intro b hb
  rcases List.mem_cons.1 hb with rfl | hb
  · simp; omega
  · have := HN.out.2 b hb
    simp; omega

/-- What is handed over at a place. -/
def Handed (v : Vl) (i : Nat) (x : Nat × Array Value) (W0 W : World) : Prop := x.1 = i ∧ ∃ y nA nc sA sc lA lc g, atF v.depth v i = some y ∧ x.2 = #[.int .i64 y.t, .slice nA y.n.length nc, .slice sA y.s.length sc, .slice lA y.l.length lc] ∧
  VOw W y [.int .i64 y.t, .slice nA y.n.length nc, .slice sA y.s.length sc, .slice lA y.l.length lc] g ∧ (∀ b ∈ g, W0.heap.size ≤ b) ∧ g.Nodup

/-- These blocks are as they were. -/
def KeptB (fs : List Nat) (A B : World) : Prop := A.heap.size ≤ B.heap.size ∧ ∀ b ∈ fs, B.heap[b]? = A.heap[b]?
set_option maxHeartbeats 8000000 in
set_option maxRecDepth 100000 in
theorem each_seq (v : Vl) (hk : ∀ j : Nat, j < v.count → ∃ y, atF v.depth v (j : Int) = some y) (ht : v.tot ≤ 500000) (w0 : World) (bk : Nat) (f : List Nat) (h : EachAt w0 v bk f) (hlt : ∀ b ∈ bk :: f, b < w0.heap.size) :
    SeqC Tryz.prog 114 #[.pointer (some ⟨bk, 0, none⟩)] (fun x : Nat × Array Value => #[.int .i64 x.1, .agg x.2]) (Handed v) (KeptB (bk :: f)) v.count w0 := by
  intro l J Jx W hW hJ hY h0
  have hcl := Vl.count_le v.depth v (Nat.le_refl _)
  have hEW := h.keep hW.size (fun b hb => hW.block b (hlt b hb) (by simp))
  obtain ⟨⟨nA, nc, sA, sc, lA, lc, hc4, hov⟩, _⟩ := hEW
  obtain ⟨b0, b1, b2, b3⟩ := hc4
  have HCNT := hide (count_d v.depth v W W.heap.size nA nc sA sc lA lc (Nat.le_refl _) (by omega) (Nat.le_refl _) hov.vb)
  have HE := hide h
  have HJ := hide hJ
  have HY := hide hY
  have H0 := hide h0
  have HW := hide hW
  have HLT := hide hlt
  have HK := hide hk
  have HT := hide ht
  have HCL := hide hcl
  have hcb : (v.count : Int) ≤ 9223372036854775807 := by omega
  clear h hJ hY h0 hW hlt hk ht hcl hov
  refine callsIn_of_wp Tryz.func114 rfl trivial ?_ rfl
  simp only [Tryz.ntmps114, List.size_toArray, List.length_cons, List.length_nil, Nat.reduceAdd, Nat.reduceSub, Array.replicate_succ, Array.replicate_zero, List.push_toArray, List.append_toArray, List.nil_append, List.cons_append]
  gi_wp2_with (gi_at_call 30; refine (callsIn_wide.2 HCNT.out).mono ?_; rintro e w1 ⟨rfl, hg1⟩; have HG1 := hide hg1; clear hg1)
  have HS0 := hide (show w0.heap.size ≤ w1.heap.size from Nat.le_trans HW.out.size HG1.out.size)
  have HK0 := hide (show ∀ b, b ∈ bk :: f → w1.heap[b]? = w0.heap[b]? from fun b hb => by
    have h1 := HLT.out b hb
    have h2 := HW.out.size
    exact (HG1.out.block b (by omega) (by simp)).trans (HW.out.block b h1 (by simp)))
  have HJ0 := hide (HJ.out 0 W w1 H0.out HG1.out)
  clear b0 b1 b2 b3 HCNT H0
  gi_loopw [8] (fun i wr => ∃ j : Nat, i = .int .i64 (j : Int) ∧ j ≤ v.count ∧ w0.heap.size ≤ wr.heap.size ∧ (∀ b, b ∈ bk :: f → wr.heap[b]? = w0.heap[b]?) ∧ J j wr) (fun i _ => v.count - (intOf i).toNat)
  case atStart => exact ⟨0, rfl, Nat.zero_le _, HS0.out, HK0.out, HJ0.out⟩
  case round =>
    obtain ⟨j, rfl, hj, hsz, hkp, hJj⟩ := hrel
    by_cases hlt : j < v.count
    · have hlt1 : (j : Int) < (v.count : Int) := by omega
      obtain ⟨y, hat⟩ := HK.out j hlt
      obtain ⟨⟨nA, nc, sA, sc, lA, lc, hc4, hov⟩, _⟩ := HE.out.keep hsz hkp
      obtain ⟨b0, b1, b2, b3⟩ := hc4
      have HAT := hide hat
      have hatc := at_d v.depth v (j : Int) wr wr.heap.size nA nc sA sc lA lc (Nat.le_refl _) HT.out (Nat.le_refl _) hov.vb
      rw [hat] at hatc
      have HATC := hide hatc
      have HKP := hide hkp
      have HSZ := hide hsz
      have HJR := hide hJj
      have HJT := hide hlt
      clear hkp hsz hJj hov hat hatc hlt hj
      gi_wp2_with (gi_at_call 115; refine (callsIn_wide.2 HATC.out).mono ?_; rintro e w2 ⟨xA, xc, yA, yc, zA, zc, g, rfl, ho, hn, hg2⟩; have HG2 := hide (gb_trans hg2 (gb_alloc (gb_refl w2 none) (.cells #[.int .i64 y.t, .slice xA y.n.length xc, .slice yA y.s.length yc, .slice zA y.l.length zc] 26)) (.inl rfl)); obtain ⟨fn, tm, asg, bd, hy, hR⟩ := HY.out j (j, #[.int .i64 y.t, .slice xA y.n.length xc, .slice yA y.s.length yc, .slice zA y.l.length zc]) wr (w2.alloc (.cells #[.int .i64 y.t, .slice xA y.n.length xc, .slice yA y.s.length yc, .slice zA y.l.length zc] 26)) HJR.out HG2.out HJT.out ⟨rfl, y, xA, xc, yA, yc, zA, zc, g, HAT.out, rfl, ho.gb (gb_alloc (gb_refl w2 none) _), fun b hb => (hn.2 b hb).1, hn.1⟩; dsimp only at hy; have HR := hide hR; clear hR ho hn hg2)
      refine HR.out.mono ?_
      rintro e W3 (⟨rfl, hJ3, hs3, hk3⟩ | ⟨rfl, hx3⟩)
      · have HJ3 := hide hJ3
        have HS3 := hide (Nat.le_trans HSZ.out (Nat.le_trans HG2.out.size hs3))
        have HK3 := hide (show ∀ b, b ∈ bk :: f → W3.heap[b]? = w0.heap[b]? from fun b hb => by
          have h1 := HLT.out b hb
          have h2 := HSZ.out
          exact (hk3 b hb).trans ((HG2.out.block b (by omega) (by simp)).trans (HKP.out b hb)))
        clear hJ3 hs3 hk3 hy HR
        have hjm : (j : Int) + 1 ≤ 9223372036854775807 := by omega
        gi_wp2
        go_roundw
        case rel => exact ⟨j + 1, by go_num, HJT.out, HS3.out, HK3.out, HJ3.out⟩
        case measure => simp [intOf]; omega
      · have HX3 := hide hx3
        clear hx3 hy HR
        gi_wp2
        refine bodyPost_ret (results_none rfl _ _ _) rfl ?_
        exact ⟨⟨_, rfl⟩, .inr HX3.out⟩
    · have hlt1 : ¬ (j : Int) < (v.count : Int) := by omega
      have HJE := hide (show J v.count wr by rw [show v.count = j by omega]; exact hJj)
      clear hkp hsz hJj hlt hj
      gi_wp2
      go_end0
      exact ⟨⟨_, rfl⟩, .inl HJE.out⟩
end Go.Proofs.YtnilcnobngcbgaaGreat

namespace Go.Proofs.YtnilcnobngcbgaaGreat
open Go.RowKit
attribute [local go_sem ↓] Go.wp_at_zero Go.wp_at_succ

set_option maxHeartbeats 8000000 in
set_option maxRecDepth 100000 in
theorem at_seq (v : Vl) (i : Int) (w : World) (B : Nat) (nA : Option Addr) (nc : Nat) (sA : Option Addr) (sc : Nat) (lA : Option Addr) (lc : Nat) (ht98 : ¬ v.t = 98) (ht99 : ¬ (v.t = 99 ∧ v.l.length = 2)) (ht : v.tot ≤ 1100000) (hB : B ≤ w.heap.size) (h : VB w B v nA nc sA sc lA lc) :
    Calls Tryz.prog 115 #[.agg #[.int .i64 v.t, .slice nA v.n.length nc, .slice sA v.s.length sc, .slice lA v.l.length lc], .int .i64 i] w (AtPost (if 0 ≤ i ∧ i < (v.count : Int) then some (elemV v i.toNat) else none) w) := by
  obtain ⟨l1, l2, l3, l4⟩ := Vl.lens v (by omega)
  obtain ⟨wa, hwa⟩ : ∃ wa, wa = (w.alloc (.cells #[.int .i64 v.t, .slice nA v.n.length nc, .slice sA v.s.length sc, .slice lA v.l.length lc] 26)).alloc (.cells #[.int .i64 0, .slice none 0 0, .slice none 0 0, .slice none 0 0] 26) := ⟨_, rfl⟩
  have hg : w.grownBy wa none := by rw [hwa]; exact gb_alloc (gb_alloc (gb_refl w none) _) _
  have hc := (C4.box w (.int .i64 v.t) (.slice nA v.n.length nc) (.slice sA v.s.length sc) (.slice lA v.l.length lc) 26).gb (gb_alloc (gb_refl _ none) (.cells #[.int .i64 0, .slice none 0 0, .slice none 0 0, .slice none 0 0] 26))
  have hrb : wa.heap[w.heap.size + 1]? = some (.cells #[.int .i64 0, .slice none 0 0, .slice none 0 0, .slice none 0 0] 26 (0, 0)) := by rw [hwa]; exact alloc2_blk w _ _
  rw [← hwa] at hc
  have hbw := Nat.le_trans hB hg.size
  have HSZ := hide (show wa.heap.size = w.heap.size + 2 by rw [hwa]; simp)
  have HV := hide (h.gb hg hB)
  have HBW := hide hbw
  have HG := hide hg
  have HRB := hide hrb
  have HC := hide hc
  have HWE := hide hwa
  have HTT := hide ht
  have HIT := hide (fun w2 => isTab_any v (.slice nA v.n.length nc) (.slice sA v.s.length sc) (.slice lA v.l.length lc) w2)
  have htt : isTab v = false := int_beq_f ht98
  rw [htt] at HIT
  have ht' : v.tot ≤ 1100000 := by omega
  have HEG := hide (fun w2 (k : wa.grownBy w2 none) (hin : 0 ≤ i ∧ i < (v.count : Int)) => elem_gotI v i w2 B nA nc sA sc lA lc hin ht' (Nat.le_trans hbw k.size) ((h.gb hg hB).gb k hbw))
  have HEE := hide (fun w2 (k : wa.grownBy w2 none) (hin : i < 0 ∨ (v.count : Int) ≤ i) => elem_err v i w2 B nA nc sA sc lA lc hin ht' (Nat.le_trans hbw k.size) ((h.gb hg hB).gb k hbw))
  have HET := hide (fun (hin : 0 ≤ i ∧ i < (v.count : Int)) => Nat.le_trans (elemV_tot v i.toNat (by omega)) ht')
  have hcase : v.t = 99 ∧ ¬ v.l.length = 2 ∨ ¬ v.t = 99 := by
    by_cases h99 : v.t = 99
    · exact .inl ⟨h99, fun h => ht99 ⟨h99, h⟩⟩
    · exact .inr h99
  have HB := hide hB
  clear hB h hg hwa hrb hc hbw ht ht98 ht99 htt ht'
  by_cases hin : 0 ≤ i ∧ i < (v.count : Int)
  · rw [if_pos hin]
    have HE1 := hide (fun w2 k => HEG.out w2 k hin)
    have HET1 := hide (HET.out hin)
    generalize elemV v i.toNat = x at *
    clear hin HEG HEE HET
    rcases hcase with ⟨h1, h2⟩ | h1
    · have e99 := int_beq_t h1
      have e2 : ((v.l.length : Int) == 2) = false := beq_eq_false_iff_ne.2 (by omega)
      clear h1 h2
      go_enter Tryz.func115, Tryz.ntmps115
      go_wp2_with fail
      rw [← HWE.out]
      refine (HIT.out wa).mono ?_
      rintro e w1 ⟨rfl, hg1⟩
      obtain ⟨c0, c1, c2, c3⟩ := HC.out.gb hg1
      have b0 : w1.cell? ⟨w.heap.size, 0, none⟩ = some (.int .i64 v.t) := c0
      have b1 : w1.cell? ⟨w.heap.size, 1, none⟩ = some (.slice nA v.n.length nc) := c1
      have b2 : w1.cell? ⟨w.heap.size, 2, none⟩ = some (.slice sA v.s.length sc) := c2
      have b3 : w1.cell? ⟨w.heap.size, 3, none⟩ = some (.slice lA v.l.length lc) := c3
      have HG1 := hide hg1
      clear hg1 c0 c1 c2 c3
      go_wp2_with fail
      refine (HE1.out w1 HG1.out).mono ?_
      rintro e w2 ⟨xA, xc, yA, yc, zA, zc, rfl, hvb, hg2⟩
      have hgA : wa.grownBy (w2.alloc (.cells #[.int .i64 x.t, .slice xA x.n.length xc, .slice yA x.s.length yc, .slice zA x.l.length zc] 26)) none := gb_alloc (gb_trans HG1.out hg2 (.inl rfl)) _
      have HCL := hide (vClone_any x _ B xA xc yA yc zA zc HET1.out (Nat.le_trans HBW.out hgA.size) (hvb.gb (gb_alloc (gb_refl w2 none) (.cells #[.int .i64 x.t, .slice xA x.n.length xc, .slice yA x.s.length yc, .slice zA x.l.length zc] 26)) (Nat.le_trans HBW.out (gb_trans HG1.out hg2 (.inl rfl)).size)))
      have HGA := hide hgA
      clear hvb hg2 hgA
      go_wp2_with fail
      refine HCL.out.mono ?_
      rintro e w3 ⟨nA', nc', sA', sc', lA', lc', f, rfl, ho, hn, hg3⟩
      have HO := hide ho
      have HN := hide hn
      have HG3 := hide hg3
      have hr1 := ((gb_trans HGA.out HG3.out (.inl rfl)).block _ (blk_lt HRB.out) (by simp)).trans HRB.out
      have p0 : w3.cell? ⟨w.heap.size + 1, 0, none⟩ = some (.int .i64 0) := by rw [blk_cell hr1]; rfl
      have p1 : w3.cell? ⟨w.heap.size + 1, 1, none⟩ = some (.slice none 0 0) := by rw [blk_cell hr1]; rfl
      have p2 : w3.cell? ⟨w.heap.size + 1, 2, none⟩ = some (.slice none 0 0) := by rw [blk_cell hr1]; rfl
      have p3 : w3.cell? ⟨w.heap.size + 1, 3, none⟩ = some (.slice none 0 0) := by rw [blk_cell hr1]; rfl
      have z0 := blk_frozen hr1 0
      have z1 := blk_frozen hr1 1
      have z2 := blk_frozen hr1 2
      have z3 := blk_frozen hr1 3
      clear ho hn hg3 hr1
      go_wp2_with fail
      refine bodyPost_ret (v := .tuple #[.agg #[.int .i64 x.t, .slice nA' x.n.length nc', .slice sA' x.s.length sc', .slice lA' x.l.length lc'], .int .i64 0]) (by simp [results, Tryz.results115, go_sem, p0, p1, p2, p3]) rfl ?_
      exact NewE.fin HO.out (HN.out.less HGA.out.size) HG.out (gb_trans HGA.out HG3.out (.inl rfl)) (by omega) (by have := HSZ.out; omega)
    · have e99 := int_beq_f h1
      clear h1
      go_enter Tryz.func115, Tryz.ntmps115
      go_wp2_with fail
      rw [← HWE.out]
      refine (HIT.out wa).mono ?_
      rintro e w1 ⟨rfl, hg1⟩
      obtain ⟨c0, c1, c2, c3⟩ := HC.out.gb hg1
      have b0 : w1.cell? ⟨w.heap.size, 0, none⟩ = some (.int .i64 v.t) := c0
      have b1 : w1.cell? ⟨w.heap.size, 1, none⟩ = some (.slice nA v.n.length nc) := c1
      have b2 : w1.cell? ⟨w.heap.size, 2, none⟩ = some (.slice sA v.s.length sc) := c2
      have b3 : w1.cell? ⟨w.heap.size, 3, none⟩ = some (.slice lA v.l.length lc) := c3
      have HG1 := hide hg1
      clear hg1 c0 c1 c2 c3
      go_wp2_with fail
      refine (HE1.out w1 HG1.out).mono ?_
      rintro e w2 ⟨xA, xc, yA, yc, zA, zc, rfl, hvb, hg2⟩
      have hgA : wa.grownBy (w2.alloc (.cells #[.int .i64 x.t, .slice xA x.n.length xc, .slice yA x.s.length yc, .slice zA x.l.length zc] 26)) none := gb_alloc (gb_trans HG1.out hg2 (.inl rfl)) _
      have HCL := hide (vClone_any x _ B xA xc yA yc zA zc HET1.out (Nat.le_trans HBW.out hgA.size) (hvb.gb (gb_alloc (gb_refl w2 none) (.cells #[.int .i64 x.t, .slice xA x.n.length xc, .slice yA x.s.length yc, .slice zA x.l.length zc] 26)) (Nat.le_trans HBW.out (gb_trans HG1.out hg2 (.inl rfl)).size)))
      have HGA := hide hgA
      clear hvb hg2 hgA
      go_wp2_with fail
      refine HCL.out.mono ?_
      rintro e w3 ⟨nA', nc', sA', sc', lA', lc', f, rfl, ho, hn, hg3⟩
      have HO := hide ho
      have HN := hide hn
      have HG3 := hide hg3
      have hr1 := ((gb_trans HGA.out HG3.out (.inl rfl)).block _ (blk_lt HRB.out) (by simp)).trans HRB.out
      have p0 : w3.cell? ⟨w.heap.size + 1, 0, none⟩ = some (.int .i64 0) := by rw [blk_cell hr1]; rfl
      have p1 : w3.cell? ⟨w.heap.size + 1, 1, none⟩ = some (.slice none 0 0) := by rw [blk_cell hr1]; rfl
      have p2 : w3.cell? ⟨w.heap.size + 1, 2, none⟩ = some (.slice none 0 0) := by rw [blk_cell hr1]; rfl
      have p3 : w3.cell? ⟨w.heap.size + 1, 3, none⟩ = some (.slice none 0 0) := by rw [blk_cell hr1]; rfl
      have z0 := blk_frozen hr1 0
      have z1 := blk_frozen hr1 1
      have z2 := blk_frozen hr1 2
      have z3 := blk_frozen hr1 3
      clear ho hn hg3 hr1
      go_wp2_with fail
      refine bodyPost_ret (v := .tuple #[.agg #[.int .i64 x.t, .slice nA' x.n.length nc', .slice sA' x.s.length sc', .slice lA' x.l.length lc'], .int .i64 0]) (by simp [results, Tryz.results115, go_sem, p0, p1, p2, p3]) rfl ?_
      exact NewE.fin HO.out (HN.out.less HGA.out.size) HG.out (gb_trans HGA.out HG3.out (.inl rfl)) (by omega) (by have := HSZ.out; omega)
  · rw [if_neg hin]
    have HE1 := hide (fun w2 k => HEE.out w2 k (by omega))
    clear hin HEG HEE HET
    rcases hcase with ⟨h1, h2⟩ | h1
    · have e99 := int_beq_t h1
      have e2 : ((v.l.length : Int) == 2) = false := beq_eq_false_iff_ne.2 (by omega)
      clear h1 h2
      go_enter Tryz.func115, Tryz.ntmps115
      go_wp2_with fail
      rw [← HWE.out]
      refine (HIT.out wa).mono ?_
      rintro e w1 ⟨rfl, hg1⟩
      obtain ⟨c0, c1, c2, c3⟩ := HC.out.gb hg1
      have b0 : w1.cell? ⟨w.heap.size, 0, none⟩ = some (.int .i64 v.t) := c0
      have b1 : w1.cell? ⟨w.heap.size, 1, none⟩ = some (.slice nA v.n.length nc) := c1
      have b2 : w1.cell? ⟨w.heap.size, 2, none⟩ = some (.slice sA v.s.length sc) := c2
      have b3 : w1.cell? ⟨w.heap.size, 3, none⟩ = some (.slice lA v.l.length lc) := c3
      have HG1 := hide hg1
      clear hg1 c0 c1 c2 c3
      go_wp2_with fail
      refine (HE1.out w1 HG1.out).mono ?_
      rintro e w2 ⟨rfl, hg2⟩
      have hgA : wa.grownBy (w2.alloc (.cells #[.int .i64 0, .slice none 0 0, .slice none 0 0, .slice none 0 0] 26)) none := gb_alloc (gb_trans HG1.out hg2 (.inl rfl)) _
      have HGA := hide hgA
      have hr1 := (hgA.block _ (blk_lt HRB.out) (by simp)).trans HRB.out
      have p0 : (w2.alloc (.cells #[.int .i64 0, .slice none 0 0, .slice none 0 0, .slice none 0 0] 26)).cell? ⟨w.heap.size + 1, 0, none⟩ = some (.int .i64 0) := by rw [blk_cell hr1]; rfl
      have p1 : (w2.alloc (.cells #[.int .i64 0, .slice none 0 0, .slice none 0 0, .slice none 0 0] 26)).cell? ⟨w.heap.size + 1, 1, none⟩ = some (.slice none 0 0) := by rw [blk_cell hr1]; rfl
      have p2 : (w2.alloc (.cells #[.int .i64 0, .slice none 0 0, .slice none 0 0, .slice none 0 0] 26)).cell? ⟨w.heap.size + 1, 2, none⟩ = some (.slice none 0 0) := by rw [blk_cell hr1]; rfl
      have p3 : (w2.alloc (.cells #[.int .i64 0, .slice none 0 0, .slice none 0 0, .slice none 0 0] 26)).cell? ⟨w.heap.size + 1, 3, none⟩ = some (.slice none 0 0) := by rw [blk_cell hr1]; rfl
      have z0 := blk_frozen hr1 0
      have z1 := blk_frozen hr1 1
      have z2 := blk_frozen hr1 2
      have z3 := blk_frozen hr1 3
      clear hgA hg2 hr1
      go_wp2_with fail
      refine bodyPost_ret (v := .tuple #[.agg #[.int .i64 0, .slice none 0 0, .slice none 0 0, .slice none 0 0], .int .i64 33]) (by simp [results, Tryz.results115, go_sem, p0, p1, p2, p3]) rfl ?_
      exact ⟨rfl, put4_to (gb_trans HG.out HGA.out (.inl rfl)) (by omega)⟩
    · have e99 := int_beq_f h1
      clear h1
      go_enter Tryz.func115, Tryz.ntmps115
      go_wp2_with fail
      rw [← HWE.out]
      refine (HIT.out wa).mono ?_
      rintro e w1 ⟨rfl, hg1⟩
      obtain ⟨c0, c1, c2, c3⟩ := HC.out.gb hg1
      have b0 : w1.cell? ⟨w.heap.size, 0, none⟩ = some (.int .i64 v.t) := c0
      have b1 : w1.cell? ⟨w.heap.size, 1, none⟩ = some (.slice nA v.n.length nc) := c1
      have b2 : w1.cell? ⟨w.heap.size, 2, none⟩ = some (.slice sA v.s.length sc) := c2
      have b3 : w1.cell? ⟨w.heap.size, 3, none⟩ = some (.slice lA v.l.length lc) := c3
      have HG1 := hide hg1
      clear hg1 c0 c1 c2 c3
      go_wp2_with fail
      refine (HE1.out w1 HG1.out).mono ?_
      rintro e w2 ⟨rfl, hg2⟩
      have hgA : wa.grownBy (w2.alloc (.cells #[.int .i64 0, .slice none 0 0, .slice none 0 0, .slice none 0 0] 26)) none := gb_alloc (gb_trans HG1.out hg2 (.inl rfl)) _
      have HGA := hide hgA
      have hr1 := (hgA.block _ (blk_lt HRB.out) (by simp)).trans HRB.out
      have p0 : (w2.alloc (.cells #[.int .i64 0, .slice none 0 0, .slice none 0 0, .slice none 0 0] 26)).cell? ⟨w.heap.size + 1, 0, none⟩ = some (.int .i64 0) := by rw [blk_cell hr1]; rfl
      have p1 : (w2.alloc (.cells #[.int .i64 0, .slice none 0 0, .slice none 0 0, .slice none 0 0] 26)).cell? ⟨w.heap.size + 1, 1, none⟩ = some (.slice none 0 0) := by rw [blk_cell hr1]; rfl
      have p2 : (w2.alloc (.cells #[.int .i64 0, .slice none 0 0, .slice none 0 0, .slice none 0 0] 26)).cell? ⟨w.heap.size + 1, 2, none⟩ = some (.slice none 0 0) := by rw [blk_cell hr1]; rfl
      have p3 : (w2.alloc (.cells #[.int .i64 0, .slice none 0 0, .slice none 0 0, .slice none 0 0] 26)).cell? ⟨w.heap.size + 1, 3, none⟩ = some (.slice none 0 0) := by rw [blk_cell hr1]; rfl
      have z0 := blk_frozen hr1 0
      have z1 := blk_frozen hr1 1
      have z2 := blk_frozen hr1 2
      have z3 := blk_frozen hr1 3
      clear hgA hg2 hr1
      go_wp2_with fail
      refine bodyPost_ret (v := .tuple #[.agg #[.int .i64 0, .slice none 0 0, .slice none 0 0, .slice none 0 0], .int .i64 33]) (by simp [results, Tryz.results115, go_sem, p0, p1, p2, p3]) rfl ?_
      exact ⟨rfl, put4_to (gb_trans HG.out HGA.out (.inl rfl)) (by omega)⟩

attribute [local go_sem] wide_fn wide_depth Oper.semAt_some
/-- What is handed over at a place. -/
def HandF (v : Vl) (i : Nat) (x : Nat × Array Value) (W0 W : World) : Prop := x.1 = i ∧ ∃ y nA nc sA sc lA lc g, y = elemV v i ∧ x.2 = #[.int .i64 y.t, .slice nA y.n.length nc, .slice sA y.s.length sc, .slice lA y.l.length lc] ∧
  VOw W y [.int .i64 y.t, .slice nA y.n.length nc, .slice sA y.s.length sc, .slice lA y.l.length lc] g ∧ (∀ b ∈ g, W0.heap.size ≤ b) ∧ g.Nodup
set_option maxHeartbeats 8000000 in
set_option maxRecDepth 100000 in
theorem each_flat (v : Vl) (h98 : ¬ v.t = 98) (h99 : ¬ (v.t = 99 ∧ v.l.length = 2)) (ht : v.tot ≤ 1100000) (w0 : World) (bk : Nat) (f : List Nat) (h : EachAt w0 v bk f) (hlt : ∀ b ∈ bk :: f, b < w0.heap.size) :
    SeqC Tryz.prog 114 #[.pointer (some ⟨bk, 0, none⟩)] (fun x : Nat × Array Value => #[.int .i64 x.1, .agg x.2]) (HandF v) (KeptB (bk :: f)) v.count w0 := by
  intro l J Jx W hW hJ hY h0
  have hcl := Vl.count_le v.depth v (Nat.le_refl _)
  have hEW := h.keep hW.size (fun b hb => hW.block b (hlt b hb) (by simp))
  obtain ⟨⟨nA, nc, sA, sc, lA, lc, hc4, hov⟩, _⟩ := hEW
  obtain ⟨b0, b1, b2, b3⟩ := hc4
  have HCNT := hide (count_d v.depth v W W.heap.size nA nc sA sc lA lc (Nat.le_refl _) (by omega) (Nat.le_refl _) hov.vb)
  have HE := hide h
  have HJ := hide hJ
  have HY := hide hY
  have H0 := hide h0
  have HW := hide hW
  have HLT := hide hlt
  have HK := hide (And.intro h98 h99)
  have HT := hide ht
  have HCL := hide hcl
  have hcb : (v.count : Int) ≤ 9223372036854775807 := by omega
  clear h hJ hY h0 hW hlt h98 h99 ht hcl hov
  refine callsIn_of_wp Tryz.func114 rfl trivial ?_ rfl
  simp only [Tryz.ntmps114, List.size_toArray, List.length_cons, List.length_nil, Nat.reduceAdd, Nat.reduceSub, Array.replicate_succ, Array.replicate_zero, List.push_toArray, List.append_toArray, List.nil_append, List.cons_append]
  gi_wp2_with (gi_at_call 30; refine (callsIn_wide.2 HCNT.out).mono ?_; rintro e w1 ⟨rfl, hg1⟩; have HG1 := hide hg1; clear hg1)
  have HS0 := hide (show w0.heap.size ≤ w1.heap.size from Nat.le_trans HW.out.size HG1.out.size)
  have HK0 := hide (show ∀ b, b ∈ bk :: f → w1.heap[b]? = w0.heap[b]? from fun b hb => by
    have h1 := HLT.out b hb
    have h2 := HW.out.size
    exact (HG1.out.block b (by omega) (by simp)).trans (HW.out.block b h1 (by simp)))
  have HJ0 := hide (HJ.out 0 W w1 H0.out HG1.out)
  clear b0 b1 b2 b3 HCNT H0
  gi_loopw [8] (fun i wr => ∃ j : Nat, i = .int .i64 (j : Int) ∧ j ≤ v.count ∧ w0.heap.size ≤ wr.heap.size ∧ (∀ b, b ∈ bk :: f → wr.heap[b]? = w0.heap[b]?) ∧ J j wr) (fun i _ => v.count - (intOf i).toNat)
  case atStart => exact ⟨0, rfl, Nat.zero_le _, HS0.out, HK0.out, HJ0.out⟩
  case round =>
    obtain ⟨j, rfl, hj, hsz, hkp, hJj⟩ := hrel
    by_cases hlt : j < v.count
    · have hlt1 : (j : Int) < (v.count : Int) := by omega
      obtain ⟨y, hat⟩ : ∃ y, y = elemV v j := ⟨_, rfl⟩
      obtain ⟨⟨nA, nc, sA, sc, lA, lc, hc4, hov⟩, _⟩ := HE.out.keep hsz hkp
      obtain ⟨b0, b1, b2, b3⟩ := hc4
      have HAT := hide hat
      have hatc := at_seq v (j : Int) wr wr.heap.size nA nc sA sc lA lc HK.out.1 HK.out.2 HT.out (Nat.le_refl _) hov.vb
      rw [if_pos ⟨by omega, by omega⟩, show ((j : Int)).toNat = j from rfl, ← hat] at hatc
      have HATC := hide hatc
      have HKP := hide hkp
      have HSZ := hide hsz
      have HJR := hide hJj
      have HJT := hide hlt
      clear hkp hsz hJj hov hat hatc hlt hj
      gi_wp2_with (gi_at_call 115; refine (callsIn_wide.2 HATC.out).mono ?_; rintro e w2 ⟨xA, xc, yA, yc, zA, zc, g, rfl, ho, hn, hg2⟩; have HG2 := hide (gb_trans hg2 (gb_alloc (gb_refl w2 none) (.cells #[.int .i64 y.t, .slice xA y.n.length xc, .slice yA y.s.length yc, .slice zA y.l.length zc] 26)) (.inl rfl)); obtain ⟨fn, tm, asg, bd, hy, hR⟩ := HY.out j (j, #[.int .i64 y.t, .slice xA y.n.length xc, .slice yA y.s.length yc, .slice zA y.l.length zc]) wr (w2.alloc (.cells #[.int .i64 y.t, .slice xA y.n.length xc, .slice yA y.s.length yc, .slice zA y.l.length zc] 26)) HJR.out HG2.out HJT.out ⟨rfl, y, xA, xc, yA, yc, zA, zc, g, HAT.out, rfl, ho.gb (gb_alloc (gb_refl w2 none) _), fun b hb => (hn.2 b hb).1, hn.1⟩; dsimp only at hy; have HR := hide hR; clear hR ho hn hg2)
      refine HR.out.mono ?_
      rintro e W3 (⟨rfl, hJ3, hs3, hk3⟩ | ⟨rfl, hx3⟩)
      · have HJ3 := hide hJ3
        have HS3 := hide (Nat.le_trans HSZ.out (Nat.le_trans HG2.out.size hs3))
        have HK3 := hide (show ∀ b, b ∈ bk :: f → W3.heap[b]? = w0.heap[b]? from fun b hb => by
          have h1 := HLT.out b hb
          have h2 := HSZ.out
          exact (hk3 b hb).trans ((HG2.out.block b (by omega) (by simp)).trans (HKP.out b hb)))
        clear hJ3 hs3 hk3 hy HR
        have hjm : (j : Int) + 1 ≤ 9223372036854775807 := by omega
        gi_wp2
        go_roundw
        case rel => exact ⟨j + 1, by go_num, HJT.out, HS3.out, HK3.out, HJ3.out⟩
        case measure => simp [intOf]; omega
      · have HX3 := hide hx3
        clear hx3 hy HR
        gi_wp2
        refine bodyPost_ret (results_none rfl _ _ _) rfl ?_
        exact ⟨⟨_, rfl⟩, .inr HX3.out⟩
    · have hlt1 : ¬ (j : Int) < (v.count : Int) := by omega
      have HJE := hide (show J v.count wr by rw [show v.count = j by omega]; exact hJj)
      clear hkp hsz hJj hlt hj
      gi_wp2
      go_end0
      exact ⟨⟨_, rfl⟩, .inl HJE.out⟩
end Go.Proofs.YtnilcnobngcbgaaGreat


namespace Go.Proofs.YtnilcnobngcbgaaGreat
open Go.RowKit

/-- The list in box lb: its row and its parts from block base on. -/
structure CollP (base lb : Nat) (vs : List Vl) (A : Option Addr) (c : Nat) (xs : List (List Value)) (f : List Nat) (W : World) : Prop where
  hlb : lb < base
  hb : W.heap[lb]? = some (.cells #[.slice A vs.length c] 24 (0, 0))
  hc : vs.length ≤ c
  ho : W.ownsRow base 26 4 (.slice A vs.length c) vs.length (List.flatten xs)
  ha : VOwAll W vs xs f
  hf : ∀ b ∈ f, base ≤ b ∧ (Value.slice A vs.length c).ownBlock ≠ some b
def Coll (base lb : Nat) (vs : List Vl) (W : World) : Prop := ∃ A c xs f, CollP base lb vs A c xs f W
theorem CollP.keep {base lb g : Nat} {vs : List Vl} {A : Option Addr} {c : Nat} {xs : List (List Value)} {f : List Nat} {W W' : World} (h : CollP base lb vs A c xs f W) (hg : W.grownBy W' (some g)) (h1 : g < base) (h2 : g ≠ lb) : CollP base lb vs A c xs f W' := by
  obtain ⟨hlb, hb, hc, ho, ha, hf⟩ := h
  refine ⟨hlb, (hg.block lb (blk_lt hb) (by intro e; injection e with e; exact h2 e.symm)).trans hb, hc, ho.kept hg ?_, VOwAll.keep _ _ _ ha fun b hm => hg.block b (VOwAll.lt _ _ _ ha b hm) (by have := (hf b hm).1; intro e; injection e with e; omega), hf⟩
  cases e : (Value.slice A vs.length c).ownBlock with
  | none => exact .inl rfl
  | some b =>
    refine .inr fun e' => ?_
    injection e' with e'
    have := (ho.lt b e).1
    omega
theorem CollP.grown {base lb : Nat} {vs : List Vl} {A : Option Addr} {c : Nat} {xs : List (List Value)} {f : List Nat} {W W' : World} (h : CollP base lb vs A c xs f W) (hg : W.grownBy W' none) : CollP base lb vs A c xs f W' := by
  obtain ⟨hlb, hb, hc, ho, ha, hf⟩ := h
  exact ⟨hlb, (hg.block lb (blk_lt hb) (by simp)).trans hb, hc, ho.kept hg (by cases (Value.slice A vs.length c).ownBlock <;> simp), VOwAll.keep _ _ _ ha fun b hm => hg.block b (VOwAll.lt _ _ _ ha b hm) (by simp), hf⟩
theorem Coll.keep {base lb g : Nat} {vs : List Vl} {W W' : World} (h : Coll base lb vs W) (hg : W.grownBy W' (some g)) (h1 : g < base) (h2 : g ≠ lb) : Coll base lb vs W' := by
  obtain ⟨A, c, xs, f, h⟩ := h
  exact ⟨A, c, xs, f, h.keep hg h1 h2⟩
/-- The new list: what the append has left, the zero it put overwritten, the box set. -/
structure Set2 (w8 wf : World) (lb g8 i : Nat) (v c0 c1 c2 c3 : Value) : Prop where
  size : wf.heap.size = w8.heap.size
  os : wf.os = w8.os
  tape : wf.tape = w8.tape
  output : wf.output = w8.output
  box : ∀ u t, w8.heap[lb]? = some (.cells #[u] t (0, 0)) → wf.heap[lb]? = some (.cells #[v] t (0, 0))
  row : ∀ cur t, w8.heap[g8]? = some (.cells cur t (0, 0)) → wf.heap[g8]? = some (.cells ((((cur.setIfInBounds i c0).setIfInBounds (i + 1) c1).setIfInBounds (i + 2) c2).setIfInBounds (i + 3) c3) t (0, 0))
  rest : ∀ b, b ≠ lb → b ≠ g8 → wf.heap[b]? = w8.heap[b]?
theorem setCell_other (w : World) (p : Addr) (u : Value) (b : Nat) (h : b ≠ p.block) : (w.setCell p u).heap[b]? = w.heap[b]? := Below.heap_setCell w p u b (fun e => h e)
theorem put4_other (w : World) (g i : Nat) (c0 c1 c2 c3 : Value) (b : Nat) (h : b ≠ g) : (put4 w g i c0 c1 c2 c3).heap[b]? = w.heap[b]? := by
  unfold put4
  rw [setCell_other _ _ _ _ h, setCell_other _ _ _ _ h, setCell_other _ _ _ _ h, setCell_other _ _ _ _ h]
theorem Set2.rowFirst (w8 : World) (lb g8 i : Nat) (v c0 c1 c2 c3 : Value) (hne : lb ≠ g8) : Set2 w8 ((put4 w8 g8 i c0 c1 c2 c3).setCell ⟨lb, 0, none⟩ v) lb g8 i v c0 c1 c2 c3 := by
  have k1 := gb_setCell (gb_refl (put4 w8 g8 i c0 c1 c2 c3) (some lb)) (p := ⟨lb, 0, none⟩) (.inl rfl) v
  have k2 := put4_gb w8 g8 i c0 c1 c2 c3
  refine ⟨by simp [put4, World.setCell], k1.os.trans k2.os, k1.tape.trans k2.tape, k1.output.trans k2.output, fun u t h => ?_, fun cur t h => ?_, fun b h1 h2 => ?_⟩
  · have h2 : (put4 w8 g8 i c0 c1 c2 c3).heap[lb]? = some (.cells #[u] t (0, 0)) := (put4_other _ _ _ _ _ _ _ _ hne).trans h
    rw [blk_set h2 0 v, List.setIfInBounds_toArray]
    rfl
  · rw [setCell_other _ _ _ _ (show g8 ≠ lb from fun e => hne e.symm)]
    exact put4_blk h c0 c1 c2 c3
  · rw [setCell_other _ _ _ _ h1, put4_other _ _ _ _ _ _ _ _ h2]
theorem Set2.boxFirst (w8 : World) (lb g8 i : Nat) (v c0 c1 c2 c3 : Value) (hne : lb ≠ g8) : Set2 w8 (put4 (w8.setCell ⟨lb, 0, none⟩ v) g8 i c0 c1 c2 c3) lb g8 i v c0 c1 c2 c3 := by
  have k1 := gb_setCell (gb_refl w8 (some lb)) (p := ⟨lb, 0, none⟩) (.inl rfl) v
  have k2 := put4_gb (w8.setCell ⟨lb, 0, none⟩ v) g8 i c0 c1 c2 c3
  refine ⟨by simp [put4, World.setCell], k2.os.trans k1.os, k2.tape.trans k1.tape, k2.output.trans k1.output, fun u t h => ?_, fun cur t h => ?_, fun b h1 h2 => ?_⟩
  · rw [put4_other _ _ _ _ _ _ _ _ hne]
    rw [blk_set h 0 v, List.setIfInBounds_toArray]
    rfl
  · have h2 : (w8.setCell ⟨lb, 0, none⟩ v).heap[g8]? = some (.cells cur t (0, 0)) := (setCell_other _ _ _ _ (show g8 ≠ lb from fun e => hne e.symm)).trans h
    exact put4_blk h2 c0 c1 c2 c3
  · rw [put4_other _ _ _ _ _ _ _ _ h2, setCell_other _ _ _ _ h1]
/-- One more. -/
theorem CollP.step {base lb : Nat} {vs : List Vl} {W0 w5 w8 wf : World} {A A8 : Option Addr} {c c8 g8 : Nat} {xs : List (List Value)} {f f6 : List Nat} {y : Vl} {c0 c1 c2 c3 z0 z1 z2 z3 : Value} (h : CollP base lb vs A c xs f W0)
    (h5 : W0.grownBy w5 none) (hbs : base ≤ W0.heap.size) (hy : VOw w5 y [c0, c1, c2, c3] f6) (hn6 : ∀ b ∈ f6, base ≤ b ∧ (Value.slice A vs.length c).ownBlock ≠ some b)
    (h8 : w8.ownsRow base 26 4 (.slice A8 (vs.length + 1) c8) (vs.length + 1) (List.flatten xs ++ [z0, z1, z2, z3])) (hg8 : w5.grownBy w8 (Value.slice A vs.length c).ownBlock)
    (hl8 : (Value.slice A8 (vs.length + 1) c8).ownBlock = (Value.slice A vs.length c).ownBlock ∨ (Value.slice A8 (vs.length + 1) c8).ownBlock = some w5.heap.size)
    (hA8 : A8 = some ⟨g8, 0, none⟩) (hs : Set2 w8 wf lb g8 (vs.length * 4) (.slice A8 (vs.length + 1) c8) c0 c1 c2 c3) :
    Coll base lb (vs ++ [y]) wf ∧ (wf.os = W0.os ∧ wf.tape = W0.tape ∧ wf.output = W0.output ∧ W0.heap.size ≤ wf.heap.size) ∧ ∀ b, b < base → b ≠ lb → wf.heap[b]? = W0.heap[b]? := by
  obtain ⟨hlb, hb, _, ho, ha, hf⟩ := h
  subst hA8
  have s0 := h5.size
  have s8 := hg8.size
  have hob : (Value.slice (some ⟨g8, 0, none⟩) (vs.length + 1) c8).ownBlock = some g8 := rfl
  rw [hob] at hl8
  have hLb : ∀ b, (Value.slice A vs.length c).ownBlock = some b → base ≤ b ∧ b < W0.heap.size := fun b e => ho.lt b e
  have hg8b : base ≤ g8 := by
    rcases hl8 with e | e
    · exact (hLb g8 e.symm).1
    · injection e with e; omega
  have hold : ∀ b, b < W0.heap.size → b ≠ lb → (Value.slice A vs.length c).ownBlock ≠ some b → wf.heap[b]? = W0.heap[b]? := fun b h1 h2 h3 => by
    have hne : b ≠ g8 := fun e => by
      subst e
      rcases hl8 with e | e
      · exact h3 e.symm
      · injection e with e; omega
    rw [hs.rest b h2 hne, hg8.block b (by omega) (fun e => h3 e.symm), h5.block b h1 (by simp)]
  have hnew : ∀ b ∈ f6, wf.heap[b]? = w5.heap[b]? := fun b hm => by
    have h1 := hn6 b hm
    have h2 := VOw.lt _ _ _ hy b hm
    have hne : b ≠ g8 := fun e => by
      subst e
      rcases hl8 with e | e
      · exact h1.2 e.symm
      · injection e with e; omega
    rw [hs.rest b (by omega) hne, hg8.block b h2 (fun e => h1.2 e.symm)]
  have hb8 : w8.heap[lb]? = some (.cells #[.slice A vs.length c] 24 (0, 0)) := by
    have h1 := blk_lt hb
    rw [hg8.block lb (by omega) (fun e => by have := (hLb lb e.symm).1; omega), h5.block lb h1 (by simp)]
    exact hb
  refine ⟨⟨some ⟨g8, 0, none⟩, c8, xs ++ [[c0, c1, c2, c3]], f ++ f6, hlb, ?_, ?_, ?_, ?_, ?_⟩, ⟨hs.os.trans (hg8.os.trans h5.os), hs.tape.trans (hg8.tape.trans h5.tape), hs.output.trans (hg8.output.trans h5.output), by have := hs.size; omega⟩, fun b h1 h2 => hold b (by omega) h2 (fun e => by have := (hLb b e).1; omega)⟩
  · rw [List.length_append]
    exact hs.box _ _ hb8
  · rw [List.length_append]
    rcases h8.2 with ⟨h, _⟩ | ⟨_, cap, cur, e1, _, _, h, _⟩
    · cases h
    · injection e1 with e1 e2 e3
      simp only [List.length_singleton]
      omega
  · rw [List.length_append, List.length_singleton]
    have h8l := h8.1
    rcases h8.2 with ⟨h, _⟩ | ⟨g, cap, cur, e1, e2, e3, e4, e5, e6, e7⟩
    · cases h
    · injection e1 with e1 _ e8
      injection e1 with e1
      injection e1 with e1
      subst e1
      subst e8
      have hx4 : (List.flatten xs).length = vs.length * 4 := by
        rw [List.length_append, show [z0, z1, z2, z3].length = 4 from rfl] at h8l
        omega
      refine ⟨?_, .inr ⟨g8, c8, _, rfl, e2, hs.row _ _ e3, e4, e5, by simp [e6], ?_⟩⟩
      · rw [List.flatten_append, List.length_append, hx4]
        simp
        omega
      · rw [Nat.add_mul, Nat.one_mul, put4_take cur (vs.length * 4) (by omega), List.flatten_append]
        have : cur.toList.take (vs.length * 4) = List.flatten xs := by
          have e9 := congrArg (List.take (vs.length * 4)) e7
          rw [List.take_take, Nat.min_eq_left (by omega), List.take_left' hx4] at e9
          exact e9
        rw [this]
        simp
  · refine VOwAll.snoc _ _ _ (VOwAll.keep _ _ _ ha fun b hm => ?_) (VOw.keep _ _ _ hy hnew)
    have h1 := VOwAll.lt _ _ _ ha b hm
    have h2 := hf b hm
    exact hold b h1 (by omega) h2.2
  · intro b hm
    rw [List.length_append, List.length_singleton, hob]
    rcases List.mem_append.1 hm with hm | hm
    · have h1 := VOwAll.lt _ _ _ ha b hm
      have h2 := hf b hm
      refine ⟨h2.1, fun e => ?_⟩
      injection e with e
      subst e
      rcases hl8 with e | e
      · exact h2.2 e.symm
      · injection e with e; omega
    · have h1 := hn6 b hm
      have h2 := VOw.lt _ _ _ hy b hm
      refine ⟨h1.1, fun e => ?_⟩
      injection e with e
      subst e
      rcases hl8 with e | e
      · exact h1.2 e.symm
      · injection e with e; omega
theorem Coll.list {base lb : Nat} {vs : List Vl} {W : World} (h : Coll base lb vs W) : ∃ A c, W.heap[lb]? = some (.cells #[.slice A vs.length c] 24 (0, 0)) ∧ vs.length ≤ c ∧ RdV W W.heap.size A vs := by
  obtain ⟨A, c, xs, f, _, hb, hc, ho, ha, hf⟩ := h
  exact ⟨A, c, hb, hc, xs, Rd.of_own ho, VOwAll.at_ _ _ _ ha (VOwAll.lt _ _ _ ha)⟩
end Go.Proofs.YtnilcnobngcbgaaGreat

namespace Go.Proofs.YtnilcnobngcbgaaGreat
open Go.RowKit
attribute [local go_sem ↓] Go.wp_at_zero Go.wp_at_succ
attribute [local go_sem] wide_fn wide_depth Oper.semAt_some

/-- The first k elements. -/
def elS (v : Vl) (k : Nat) : List Vl := (List.range k).map (elemV v)
theorem elS_succ (v : Vl) (k : Nat) : elS v (k + 1) = elS v k ++ [elemV v k] := by
  unfold elS
  rw [List.range_succ, List.map_append]
  rfl
theorem elS_len (v : Vl) (k : Nat) : (elS v k).length = k := by simp [elS]
/-- What the loop keeps. -/
def ElI (v : Vl) (w4 : World) (lb i : Nat) (W : World) : Prop := w4.grownBy W (some lb) ∧ Coll (w4.heap.size + 2) lb (elS v i) W
theorem infoV_ : ∃ i, Tryz.prog.info? 26 = some i ∧ i.zero = some (.agg #[.int .i64 0, .slice none 0 0, .slice none 0 0, .slice none 0 0]) ∧ i.size = 4 ∧ i.bytes = 80 := info_parts Tryz.infoV
theorem row_at {w : World} {base n c g : Nat} {xs ys : List Value} (h : w.ownsRow base 26 4 (.slice (some ⟨g, 0, none⟩) n c) n (xs ++ ys)) {k m : Nat} {u : Value} (hk : xs.length = m) (hu : ys[k]? = some u) : w.cell? ⟨g, m + k, none⟩ = some u ∧ w.frozen? ⟨g, m + k, none⟩ = false := by
  rcases h.2 with ⟨h, _⟩ | ⟨g', cap, cur, e1, e2, e3, e4, e5, e6, e7⟩
  · cases h
  · injection e1 with e1
    injection e1 with e1
    injection e1 with e1
    subst e1
    refine ⟨?_, blk_frozen e3 _⟩
    rw [blk_cell e3]
    have h1 : (cur.toList.take (n * 4))[m + k]? = some u := by
      rw [e7, List.getElem?_append_right (by omega), hk, Nat.add_sub_cancel_left]
      exact hu
    rw [List.getElem?_take] at h1
    split at h1
    · simpa using h1
    · cases h1


theorem eql_each (b : Nat) (w : World) : (binOp BinOp.eql 95 (.func (Fn.func 114) #[] #[.pointer (some ⟨b, 0, none⟩)]) Value.nilFunc).run Tryz.prog w = .ok (.bool false) w := by kernel_rfl
/-- What elements gives: a row of values in new blocks. -/
def ElR (l : List Vl) (w : World) (e : Ending) (w' : World) : Prop := w.grownBy w' none ∧ ∃ A c xs f, l.length ≤ c ∧ e = .returned (.slice A l.length c) ∧ Rd w' w'.heap.size A (List.flatten xs) ∧ VOwAll w' l xs f ∧ (List.flatten xs).length = l.length * 4 ∧ ∀ b ∈ f, w.heap.size ≤ b
/-- The end: behind a range over a function. -/
theorem ends_el {tmps : Array Value} {W : World} {D : Nat} {x : Value} {R : Ending → World → Prop} (hd : W.heap[D]? = some (.deferred (some []))) (ht : tmps.getD 2 undef = x) (hR : R (.returned x) (W.putObj D (.deferred none))) :
    LeavesInM Fence.wide 0 Tryz.prog Tryz.f54 tmps R [{ target := .collected D, args := #[] }] .returning W := by
  refine ⟨by simp, .inl ⟨_, _, rfl, run_takeDeferred hd, x, ?_, hR⟩⟩
  have ht2 : tmps[2]?.getD undef = x := by rw [← Array.getD_eq_getD_getElem?]; exact ht
  simp [results, Tryz.results54, go_sem, ht2]
theorem cell_putD {W : World} {D : Nat} {x y : Option (List Deferred)} (hd : W.heap[D]? = some (.deferred x)) (p : Addr) : (W.putObj D (.deferred y)).cell? p = W.cell? p := by
  by_cases e : p.block = D
  · have h1 : (W.putObj D (.deferred y)).heap[p.block]? = some (.deferred y) := by rw [e]; exact World.putObj_heap_same (blk_lt hd)
    have h2 : W.heap[p.block]? = some (.deferred x) := by rw [e]; exact hd
    simp [World.cell?, h1, h2]
  · exact World.cell?_of_block (World.putObj_heap_other e)
theorem RdV.putD {W : World} {D B : Nat} {A : Option Addr} {l : List Vl} {x y : Option (List Deferred)} (hd : W.heap[D]? = some (.deferred x)) (h : RdV W B A l) : RdV (W.putObj D (.deferred y)) B A l := by
  obtain ⟨xs, h6, h7⟩ := h
  refine ⟨xs, h6.keep fun p _ => cell_putD hd p, VAll.mk_ h7.length fun i h1 h2 => ?_⟩
  obtain ⟨_, h8⟩ := h7.at_ h1
  exact VAt.keep (fun p _ => cell_putD hd p) _ _ _ (Nat.le_refl _) h8
set_option maxHeartbeats 16000000 in
set_option maxRecDepth 100000 in
theorem elements_any (v : Vl) (w : World) (nA : Option Addr) (nc : Nat) (sA : Option Addr) (sc : Nat) (lA : Option Addr) (lc : Nat) (hs : seqT v.t) (ht : v.tot ≤ 1100000) (h : VB w w.heap.size v nA nc sA sc lA lc) :
    Calls Tryz.prog 54 #[.agg #[.int .i64 v.t, .slice nA v.n.length nc, .slice sA v.s.length sc, .slice lA v.l.length lc]] w (ElR (elS v v.count) w) := by
  obtain ⟨wa, hwa⟩ : ∃ wa, wa = w.alloc (.cells #[.int .i64 v.t, .slice nA v.n.length nc, .slice sA v.s.length sc, .slice lA v.l.length lc] 26) := ⟨_, rfl⟩
  have hb : wa.heap[w.heap.size]? = some (.cells #[.int .i64 v.t, .slice nA v.n.length nc, .slice sA v.s.length sc, .slice lA v.l.length lc] 26 (0, 0)) := by rw [hwa]; exact heap_alloc_new w _
  have hg : w.grownBy wa none := by rw [hwa]; exact gb_alloc (gb_refl w none) _
  have hvb := (h.gb hg (Nat.le_refl _)).up hg.size
  have HB := hide hb
  have HC := hide (show C4 wa w.heap.size 0 (.int .i64 v.t) (.slice nA v.n.length nc) (.slice sA v.s.length sc) (.slice lA v.l.length lc) from ⟨by rw [blk_cell hb]; rfl, by rw [blk_cell hb]; rfl, by rw [blk_cell hb]; rfl, by rw [blk_cell hb]; rfl⟩)
  obtain ⟨b0, b1, b2, b3⟩ := HC.out
  have HQ := hide (seqT.kind (x := v) hs)
  have HEA := hide (fun w2 (k : wa.grownBy w2 none) => eachV_any v w2 w2.heap.size nA nc sA sc lA lc ht (Nat.le_refl _) ((hvb.gb k (Nat.le_refl _)).up k.size))
  have HG := hide hg
  have HWE := hide hwa
  have HT := hide ht
  have HK := hide (show ¬ v.t = 98 ∧ ¬ (v.t = 99 ∧ v.l.length = 2) from by rcases hs with (h | h | h | h) | h | h <;> exact ⟨by omega, fun e => by omega⟩)
  clear h hg hwa hvb ht hs hb
  have hfn := eql_each
  refine (callsIn_wide (n := 0)).1 (callsIn_of_wp_marks Tryz.func54 rfl trivial (wpIn_wide.2 ?_))
  simp only [Tryz.ntmps54, List.size_toArray, List.length_cons, List.length_nil, Nat.reduceAdd, Nat.reduceSub, Array.replicate_succ, Array.replicate_zero, List.push_toArray, List.append_toArray, List.nil_append, List.cons_append]
  go_wp2_with fail
  rw [← HWE.out]
  go_wp2_with (first
    | (go_at_call 34; refine (isSeq_any _ _ _ _ _ _ _ _ _).mono ?_; rintro e wl ⟨rfl, hg1⟩; have hqq := HQ.out; have HG1 := hide hg1; have HG3 := hide (gb_trans HG1.out (gb_alloc (gb_refl wl none) (.cells #[.slice none 0 0] 24)) (.inl rfl)); obtain ⟨k0, k1, k2, k3⟩ := HC.out.gb HG3.out; clear hg1 b0 b1 b2 b3)
    | (go_at_call 88; refine (HEA.out _ HG3.out).mono ?_; rintro e w4 ⟨bk, f, rfl, hea, hnew, hg4⟩; have HEK := hide hea; have HNW := hide hnew; have HG4 := hide hg4; clear hea hnew hg4))
  clear hfn k0 k1 k2 k3 HEA hqq
  generalize hwl : wl.alloc (.cells #[.slice none 0 0] 24) = w3 at *
  have HLB := hide (show w3.heap[wl.heap.size]? = some (.cells #[.slice none 0 0] 24 (0, 0)) ∧ w3.heap.size = wl.heap.size + 1 by rw [← hwl]; exact ⟨heap_alloc_new wl _, by simp⟩)
  clear hwl
  have HSZ := hide (show wl.heap.size < w4.heap.size by have h1 := HLB.out.2; have h2 := HG4.out.size; omega)
  have HI4 := hide (show w4.heap[wl.heap.size]? = some (.cells #[.slice none 0 0] 24 (0, 0)) from (HG4.out.block _ (by have h1 := HLB.out.2; omega) (by simp)).trans HLB.out.1)
  refine wp_rangeFunc_c (gf := 114) (lb := #[.pointer (some ⟨bk, 0, none⟩)]) rfl (enters_of Tryz.func114 (by kernel_rfl) rfl) (each_flat v HK.out.1 HK.out.2 HT.out w4 bk f HEK.out (fun b hb => (HNW.out b hb).2)) (gb_refl w4 none) (fun _ => rfl)
    (ElI v w4 wl.heap.size) (fun _ _ => False) ?hI (fun _ _ _ h _ _ => h.elim) ?hKp ?h0 ?hround ?hdone (fun _ _ h _ _ => h.elim)
  case hI =>
    rintro i A B ⟨h1, h2⟩ _ h3
    have h4 := HSZ.out
    exact ⟨gb_trans h1 h3 (.inr (.inr ⟨_, rfl, by omega⟩)), h2.keep h3 (by omega) (by omega)⟩
  case hKp =>
    rintro A B C ⟨h1, h2⟩ ⟨r, hr⟩ h3
    have h4 := blk_lt hr
    refine ⟨Nat.le_trans h1 h3.size, fun b hb => ?_⟩
    have h5 := (HNW.out b hb).2
    exact (h3.block b (by omega) (by intro e; injection e with e; omega)).trans (h2 b hb)
  case h0 =>
    intro B h1 h2
    have h4 := HSZ.out
    exact ⟨gb_some h1 _, none, 0, [], [], by omega, (h1.block _ h4 (by simp)).trans HI4.out, Nat.le_refl _, ⟨rfl, .inl ⟨rfl, rfl⟩⟩, ⟨rfl, rfl⟩, by simp⟩
  case hround =>
    rintro i ⟨xi, xc⟩ W0 W ⟨hgi, hco⟩ hgr hlt ⟨hxi, y, xA, xk, yA, yk, zA, zk, g, hat, hxc, hov, hgb, hgd⟩ hsz hla
    simp only at hxi hxc
    subst hxi hxc
    have hes := elS_succ v xi
    rw [← hat] at hes
    have hln := elS_len v xi
    have hcl := Vl.count_le v.depth v (Nat.le_refl _)
    have hxl : xi < 1100000 := by have := HT.out; omega
    have HES := hide hes
    have HLN := hide hln
    have HXL := hide hxl
    have HCO := hide hco
    have HGI := hide hgi
    have HGR := hide hgr
    have HOV := hide hov
    have HGB := hide hgb
    have HSW := hide hsz
    have HLA := hide hla
    clear hgi hco hgr hlt hat hov hgb hsz hla hgd hes hln hcl hxl
    gi_wp2
    have hs0 := HSW.out
    have hs1 := HGR.out.size
    refine ⟨Keep2.of_gb (gb_alloc (gb_refl W none) _) (by omega), fun w₂ hgl hl2 => ?_⟩
    have hga := gb_alloc (gb_refl W none) (.cells #[.int .i64 y.t, .slice xA y.n.length xk, .slice yA y.s.length yk, .slice zA y.l.length zk] 26)
    have hsA : (W.alloc (.cells #[.int .i64 y.t, .slice xA y.n.length xk, .slice yA y.s.length yk, .slice zA y.l.length zk] 26)).heap.size = W.heap.size + 1 := by simp
    have hkb : ∀ b, b < W.heap.size + 1 → b ≠ w4.heap.size + 1 → w₂.heap[b]? = (W.alloc (.cells #[.int .i64 y.t, .slice xA y.n.length xk, .slice yA y.s.length yk, .slice zA y.l.length zk] 26)).heap[b]? := fun b h1 h2 => hgl.block b (by omega) (by intro e; injection e with e; exact h2 e)
    have hbx := (hkb W.heap.size (by omega) (by omega)).trans (heap_alloc_new W _)
    have d0 : w₂.cell? ⟨W.heap.size, 0, none⟩ = some (.int .i64 y.t) := by rw [blk_cell hbx]; rfl
    have d1 : w₂.cell? ⟨W.heap.size, 1, none⟩ = some (.slice xA y.n.length xk) := by rw [blk_cell hbx]; rfl
    have d2 : w₂.cell? ⟨W.heap.size, 2, none⟩ = some (.slice yA y.s.length yk) := by rw [blk_cell hbx]; rfl
    have d3 : w₂.cell? ⟨W.heap.size, 3, none⟩ = some (.slice zA y.l.length zk) := by rw [blk_cell hbx]; rfl
    have HOV2 := hide (show VOw w₂ y [.int .i64 y.t, .slice xA y.n.length xk, .slice yA y.s.length yk, .slice zA y.l.length zk] g from VOw.keep _ _ _ (HOV.out.gb hga) fun b hb => hkb b (by have := VOw.lt _ _ _ HOV.out b hb; omega) (by have := HGB.out b hb; omega))
    obtain ⟨L, Lc, xs, fx, hcp⟩ := HCO.out
    have HCP := hide (show CollP (w4.heap.size + 2) wl.heap.size (elS v xi) L Lc xs fx w₂ from ((hcp.grown HGR.out).grown hga).keep hgl (by omega) (by have := HSZ.out; omega))
    have HRB := hide (show ∀ b ∈ g, w4.heap.size + 2 ≤ b ∧ (Value.slice L (elS v xi).length Lc).ownBlock ≠ some b from fun b hb => ⟨by have := HGB.out b hb; omega, fun e => by have := HGB.out b hb; have := (hcp.ho.lt b e).2; omega⟩)
    have HSW2 := hide (show w4.heap.size + 2 ≤ w₂.heap.size by have := hgl.size; omega)
    have HGI2 := hide (show w4.grownBy w₂ (some wl.heap.size) from gb_trans (gb_trans (gb_trans HGI.out HGR.out (.inr (.inl rfl))) hga (.inr (.inl rfl))) hgl (.inr (.inr ⟨_, rfl, by omega⟩)))
    have HKB0 := hide (show ∀ b, b ∈ bk :: f → w₂.heap[b]? = W.heap[b]? from fun b hb => by
      have h1 := (HNW.out b hb).2
      rw [hkb b (by omega) (by omega)]
      exact hga.block b (by omega) (by simp))
    have HWS := hide (show W.heap.size ≤ w₂.heap.size by have := hgl.size; omega)
    clear hcp
    have HGL := hide hgl
    have HG2' := hide hga
    clear hbx hkb hsA hga hgl hl2 hs0 hs1
    have HG5 := hide (gb_refl w₂ none)
    gi_wp2
    have HCP5 := hide (HCP.out.grown HG5.out)
    generalize elS v xi = vs at *
    obtain rfl : vs.length = xi := HLN.out
    have l3 : w₂.cell? ⟨wl.heap.size, 0, none⟩ = some (.slice L vs.length Lc) := by rw [blk_cell HCP5.out.hb]; rfl
    refine region_round_any (by rintro ⟨a, w, h⟩; exact h) (by kernel_rfl) (by kernel_rfl) ?_
    refine any_facts 4 #[true, true, true, true, false, false, false, false] (by kernel_rfl) ?_
    intro A O Wd Ls HA HO HWd HL
    simp only [List.take_succ_cons, List.take_zero]
    have HS' := hide (show A.tmps.size = 22 by rw [HA.out]; rfl)
    have HGW := hide (show w₂.grownBy Wd none by rw [HWd.out]; exact gb_drew (gb_refl w₂ none))
    have A3 := hide (show A.eval (.tmp 3) = .pointer (some ⟨wl.heap.size, 0, none⟩) by rw [HA.out]; rfl)
    have A5 := hide (show A.eval (.tmp 5) = .pointer (some ⟨W.heap.size, 0, none⟩) by rw [HA.out]; rfl)
    -- slot 15
    refine wpFacts_lit (.slice L vs.length Lc) rfl ?_ ?_
    · intro aq wq hw hl
      have e3 : aq.tmps[3]?.getD undef = .pointer (some ⟨wl.heap.size, 0, none⟩) := (hl 3 (by first | (simp [Op.operands]; done) | simp [Op.operands, Call.operands]) (by rw [HS'.out]; decide)).trans A3.out
      have c0 := cell_gb l3 (gb_trans HGW.out hw (.inl rfl))
      clear hl
      go_simp
    -- slot 16
    refine wpFacts_lit (.agg #[.int .i64 y.t, .slice xA y.n.length xk, .slice yA y.s.length yk, .slice zA y.l.length zk]) rfl ?_ ?_
    · intro aq wq hw hl
      have e5 : aq.tmps[5]?.getD undef = .pointer (some ⟨W.heap.size, 0, none⟩) := (hl 5 (by first | (simp [Op.operands]; done) | simp [Op.operands, Call.operands]) (by rw [HS'.out]; decide)).trans A5.out
      have c0 := cell_gb d0 (gb_trans HGW.out hw (.inl rfl))
      have c1 := cell_gb d1 (gb_trans HGW.out hw (.inl rfl))
      have c2 := cell_gb d2 (gb_trans HGW.out hw (.inl rfl))
      have c3 := cell_gb d3 (gb_trans HGW.out hw (.inl rfl))
      clear hl
      go_simp
    -- slot 17
    refine wpFacts_lit (.int .i64 (vs.length : Nat)) rfl ?_ ?_
    · intro aq wq hw hl
      have e15 : aq.tmps[15]?.getD undef = .slice L vs.length Lc := hl 15 (by first | (simp [Op.operands]; done) | simp [Op.operands, Call.operands]) (by rw [HS'.out]; decide)
      clear hl
      go_simp
    -- slot 18
    refine wpFacts_step (RowF Wd.heap.size 1 zero4 26) rfl (RowF.up _ _ _ _) ?_ ?_
    · intro aq wq hw hl
      clear hl
      go_simp
      exact RowF.new _ _ hw.size
    refine HL.out _ (fun a' w6 hc => ?_)
    have e15 : a'.eval (.tmp 15) = .slice L vs.length Lc := hc.fact 15 (by rw [HS'.out]; decide)
    have e16 : a'.eval (.tmp 16) = .agg #[.int .i64 y.t, .slice xA y.n.length xk, .slice yA y.s.length yk, .slice zA y.l.length zk] := hc.fact 16 (by rw [HS'.out]; decide)
    have e17 : a'.eval (.tmp 17) = .int .i64 (vs.length : Nat) := hc.fact 17 (by rw [HS'.out]; decide)
    obtain ⟨bz, e18, hz, hbz⟩ : RowF Wd.heap.size 1 zero4 26 (a'.eval (.tmp 18)) w6 := hc.fact 18 (by rw [HS'.out]; decide)
    have hg6 := gb_trans HGW.out hc.grown (.inl rfl)
    have hfr := hc.frame [15, 16, 17, 18, 19, 20] (by rw [HO.out]; kernel_rfl)
    rw [hfr]
    clear hfr hc
    rw [HA.out]
    clear HA HO HL HWd HS' HGW A3 A5
    simp only [List.foldl_cons, List.foldl_nil, Act.put, List.setIfInBounds_toArray, List.set_cons_succ, List.set_cons_zero]
    rw [e15, e16, e17, e18]
    generalize a'.eval (.tmp 19) = x19
    generalize a'.eval (.tmp 20) = x20
    clear e15 e16 e17 e18
    clear a'
    obtain ⟨i1, hi1, hiz, his, hib⟩ := infoV_
    refine wpAny_ready (rs := [4]) (by kernel_rfl) (by simp) (AllReady.cons rfl (fun K hK => ?_) AllReady.nil)
    refine step_append_row' (by rfl) (.tmp 15) (.tmp 18) 24 (by rfl) (w4.heap.size + 2) 26 i1 (.agg #[.int .i64 0, .slice none 0 0, .slice none 0 0, .slice none 0 0]) 4 80 Tryz.underlying24 hi1 hiz his hib rfl (Nat.succ_pos 3) (.slice L vs.length Lc) vs.length (List.flatten xs) (by rfl) (HCP5.out.ho.kept hg6 (by cases (Value.slice L vs.length Lc).ownBlock <;> simp)) w6.heap.size (some ⟨bz, 0, none⟩) 1 1 [.int .i64 0, .slice none 0 0, .slice none 0 0, .slice none 0 0] (by rfl) rfl (rd_row hz (xs := [.int .i64 0, .slice none 0 0, .slice none 0 0, .slice none 0 0]) rfl (by simp)) (V4_one 0 none none none 0 0 0 0 0 0) (by have := HXL.out; unfold maxLen; omega) (by have := HXL.out; omega) (by have := HSW2.out; have := HG5.out.size; have := hg6.size; omega) ?_
    intro v8 w8 ho8 hg8 hl8
    obtain ⟨A8, c8, rfl, hc8⟩ := own_slice ho8
    obtain ⟨g8, rfl⟩ : ∃ g8, A8 = some ⟨g8, 0, none⟩ := by
      rcases ho8.2 with ⟨h, h'⟩ | ⟨g, _, _, h, _⟩
      · omega
      · injection h with h
        exact ⟨g, h⟩
    have hfl : (List.flatten xs).length = vs.length * 4 := HCP5.out.ho.1
    obtain ⟨x0, q0⟩ : w8.cell? ⟨g8, vs.length * 4, none⟩ = some (.int .i64 0) ∧ w8.frozen? ⟨g8, vs.length * 4, none⟩ = false := row_at ho8 (k := 0) hfl rfl
    obtain ⟨x1, q1⟩ := row_at ho8 (k := 1) hfl rfl
    obtain ⟨x2, q2⟩ := row_at ho8 (k := 2) hfl rfl
    obtain ⟨x3, q3⟩ := row_at ho8 (k := 3) hfl rfl
    have hlbn : (Value.slice L vs.length Lc).ownBlock ≠ some wl.heap.size := fun e => by have := (HCP5.out.ho.lt _ e).1; have := HSZ.out; omega
    have hb8 : w8.heap[wl.heap.size]? = some (.cells #[.slice L vs.length Lc] 24 (0, 0)) := by
      have h1 := blk_lt HCP5.out.hb
      have h2 := hg6.size
      rw [hg8.block _ (by omega) (fun e => hlbn e.symm), hg6.block _ h1 (by simp)]
      exact HCP5.out.hb
    have l8 : w8.cell? ⟨wl.heap.size, 0, none⟩ = some (.slice L vs.length Lc) := blk_cell hb8 0
    have z8 := blk_frozen hb8 0
    have hne8 : wl.heap.size ≠ g8 := fun e => by
      subst e
      rcases hl8 with e | e
      · exact hlbn e.symm
      · have e : some wl.heap.size = some w6.heap.size := e
        injection e with e
        have := HSZ.out; have := HSW2.out; have := HG5.out.size; have := hg6.size; omega
    have H8 := hide ho8
    have HG8 := hide hg8
    have HL8 := hide hl8
    have HG6 := hide hg6
    have HNE := hide hne8
    have hne9 : g8 ≠ wl.heap.size := fun e => HNE.out e.symm
    clear ho8 hg8 hl8 hg6 hb8 hc8 hfl hlbn hz hi1 hiz his hib
    refine hK _ _ ?_
    simp only [Act.put, List.setIfInBounds_toArray, List.set_cons_succ, List.set_cons_zero]
    clear hK K
    have hix : (vs.length : Int) < (vs.length : Int) + 1 := by omega
    have HFIN := hide (show ∀ wf, Set2 w8 wf wl.heap.size g8 (vs.length * 4) (.slice (some ⟨g8, 0, none⟩) (vs.length + 1) c8) (.int .i64 y.t) (.slice xA y.n.length xk) (.slice yA y.s.length yk) (.slice zA y.l.length zk) →
        Keep2 w4.heap.size w₂ wf ∧ KeptB (bk :: f) W wf ∧ ElI v w4 wl.heap.size (vs.length + 1) wf from fun wf hs => by
      obtain ⟨k1, ⟨k2, k3, k4, k5⟩, k6⟩ := HCP.out.step (gb_trans HG5.out HG6.out (.inl rfl)) HSW2.out ((HOV2.out.gb HG5.out).gb HG6.out) HRB.out H8.out HG8.out HL8.out rfl hs
      have n1 := HSZ.out
      have n2 := HLB.out.2
      have n3 := HWS.out
      have n4 := HSW2.out
      refine ⟨⟨k5, k6 _ (by omega) (by omega), k6 _ (by omega) (by omega)⟩, ⟨by omega, fun b hb => ?_⟩, ⟨k2.trans HGI2.out.os, k3.trans HGI2.out.tape, k4.trans HGI2.out.output, by omega, fun b h1 h2 => ?_⟩, ?_⟩
      · have h1 := HNW.out b hb
        exact (k6 b (by omega) (by omega)).trans (HKB0.out b hb)
      · exact (k6 b (by omega) (fun e => h2 (by rw [e]))).trans (HGI2.out.block b h1 h2)
      · rw [HES.out]
        exact k1)
    refine wpAny_ready (rs := [5, 7]) (by kernel_rfl) (by simp) (AllReady.cons rfl (fun K hK => ?_) (AllReady.cons rfl (fun K hK => ?_) AllReady.nil))
    · go_simp
      refine hK _ _ ?_
      clear hK K
      refine wpAny_ready (rs := [6, 7]) (by kernel_rfl) (by simp) (AllReady.cons rfl (fun K hK => ?_) (AllReady.cons rfl (fun K hK => ?_) AllReady.nil))
      · go_simp
        refine hK _ _ ?_
        clear hK K
        refine wpAny_ready (rs := [7]) (by kernel_rfl) (by simp) (AllReady.cons rfl (fun K hK => ?_) AllReady.nil)
        go_simp
        refine hK _ _ ?_
        clear hK K
        refine wpAny_done (by kernel_rfl) ?_ _
        exact HFIN.out _ (Set2.rowFirst _ _ _ _ _ _ _ _ _ HNE.out)
      · go_simp
        refine hK _ _ ?_
        clear hK K
        refine wpAny_ready (rs := [6]) (by kernel_rfl) (by simp) (AllReady.cons rfl (fun K hK => ?_) AllReady.nil)
        go_simp
        refine hK _ _ ?_
        clear hK K
        refine wpAny_done (by kernel_rfl) ?_ _
        exact HFIN.out _ (Set2.boxFirst _ _ _ _ _ _ _ _ _ HNE.out)
    · go_simp
      refine hK _ _ ?_
      clear hK K
      refine wpAny_ready (rs := [5]) (by kernel_rfl) (by simp) (AllReady.cons rfl (fun K hK => ?_) AllReady.nil)
      go_simp
      refine hK _ _ ?_
      clear hK K
      refine wpAny_ready (rs := [6]) (by kernel_rfl) (by simp) (AllReady.cons rfl (fun K hK => ?_) AllReady.nil)
      go_simp
      refine hK _ _ ?_
      clear hK K
      refine wpAny_done (by kernel_rfl) ?_ _
      exact HFIN.out _ (Set2.boxFirst _ _ _ _ _ _ _ _ _ HNE.out)
  case hdone =>
    rintro W ⟨hgw, hcl⟩ hsw hdef
    obtain ⟨A, c, xs, f9, hcp⟩ := hcl
    have hlc := hcp.hb
    have l3 : W.cell? ⟨wl.heap.size, 0, none⟩ = some (.slice A (elS v v.count).length c) := by rw [blk_cell hlc]; rfl
    have n1 := HSZ.out
    have n2 := HLB.out.2
    have n3 := HG1.out.size
    have n4 := HG.out.size
    have hgW : w.grownBy W none := by
      have k1 : w.grownBy w4 none := gb_trans HG.out (gb_trans HG3.out HG4.out (.inl rfl)) (.inl rfl)
      exact gb_trans k1 hgw (.inr (.inr ⟨_, rfl, by have := HG1.out.size; omega⟩))
    have HGW := hide hgW
    have HCP := hide hcp
    have HDF := hide hdef
    have HDL := hide (show w.heap.size ≤ w4.heap.size by omega)
    have HLN := hide (elS_len v v.count)
    clear hgw hcp hsw hdef hlc n1 n2 n3 n4 hgW
    rw [HLN.out] at l3
    have HFIN := hide (show ElR (elS v v.count) w (.returned (.slice A (elS v v.count).length c)) (W.putObj w4.heap.size (.deferred none)) from by
      have hgp := gb_loopPut W w4.heap.size (.deferred none)
      refine ⟨gb_trans HGW.out hgp (.inr (.inr ⟨_, rfl, HDL.out⟩)), A, c, xs, f9, HCP.out.hc, rfl, ?_, ?_, HCP.out.ho.1, fun b hb => by have h1 := (HCP.out.hf b hb).1; have h2 := HDL.out; omega⟩
      · exact ((Rd.of_own HCP.out.ho).keep fun p _ => cell_putD HDF.out p).more hgp.size
      · exact VOwAll.keep _ _ _ HCP.out.ha fun b hb => hgp.block b (VOwAll.lt _ _ _ HCP.out.ha b hb) (by have h1 := (HCP.out.hf b hb).1; intro e; injection e with e; omega))
    rw [HLN.out] at HFIN
    generalize v.count = n at *
    go_wp2_with fail
    exact ends_el (x := .slice A n c) HDF.out rfl HFIN.out
end Go.Proofs.YtnilcnobngcbgaaGreat

namespace Go.Proofs.YtnilcnobngcbgaaGreat
open Go.RowKit
attribute [local go_sem ↓] Go.wp_at_zero Go.wp_at_succ

theorem VOwAll.app {w : World} {l2 : List Vl} {ys : List (List Value)} {g : List Nat} (h2 : VOwAll w l2 ys g) : ∀ (l1 : List Vl) (xs : List (List Value)) (f : List Nat), VOwAll w l1 xs f → VOwAll w (l1 ++ l2) (xs ++ ys) (f ++ g)
  | [], xs, f, h => by
    obtain ⟨rfl, rfl⟩ := h
    exact h2
  | a :: r, xs, f, h => by
    obtain ⟨c, q, f1, f2, rfl, rfl, h1, h3⟩ := h
    exact ⟨c, q ++ ys, f1, f2 ++ g, rfl, by simp, h1, VOwAll.app h2 r q f2 h3⟩
theorem VOwAll.one {w : World} : ∀ (l : List Vl) (xs : List (List Value)) (f : List Nat), VOwAll w l xs f → ∀ u ∈ List.flatten xs, u.oneCell' = true
  | [], xs, f, h => by
    obtain ⟨rfl, rfl⟩ := h
    simp
  | .mk t n s p :: r, xs, f, h => by
    obtain ⟨c, q, f1, f2, rfl, rfl, h1, h3⟩ := h
    obtain ⟨nA, nc, sA, sc, lA, lc, zs, fn, fs, fl, fp, rfl, _⟩ := h1
    intro u hu
    rw [List.flatten_cons, List.mem_append] at hu
    rcases hu with hu | hu
    · simp only [List.mem_cons, List.not_mem_nil, or_false] at hu
      rcases hu with rfl | rfl | rfl | rfl <;> rfl
    · exact VOwAll.one r q f2 h3 u hu
/-- All elements, one behind the other. -/
def flE (l : List Vl) : List Vl := l.flatMap fun x => elS x x.count
theorem flE_le (l : List Vl) (j : Nat) : (flE (l.take j)).length ≤ (flE l).length := by
  conv => rhs; rw [← List.take_append_drop j l]
  unfold flE
  rw [List.flatMap_append, List.length_append]
  omega
theorem flE_take (l : List Vl) (j : Nat) (h : j < l.length) : flE (l.take (j + 1)) = flE (l.take j) ++ elS l[j] l[j].count := by
  rw [List.take_succ_eq_append_getElem h]
  unfold flE
  rw [List.flatMap_append]
  simp
/-- The row that is built: its values lie outside it. -/
structure AllP (base : Nat) (vs : List Vl) (W : World) (u : Value) : Prop where
  p : ∃ xs f, W.ownsRow base 26 4 u vs.length (List.flatten xs) ∧ VOwAll W vs xs f ∧ ∀ b ∈ f, u.ownBlock ≠ some b
theorem AllP.gb {base : Nat} {vs : List Vl} {W W' : World} {u : Value} (h : AllP base vs W u) (hg : W.grownBy W' none) : AllP base vs W' u := by
  obtain ⟨xs, f, h1, h2, h3⟩ := h.p
  exact ⟨xs, f, own_up h1 hg, VOwAll.keep _ _ _ h2 fun b hb => hg.block b (VOwAll.lt _ _ _ h2 b hb) (by simp), h3⟩
set_option maxHeartbeats 8000000 in
set_option maxRecDepth 100000 in
theorem join_list (l : List Vl) (w : World) (B : Nat) (A : Option Addr) (c : Nat) (hseq : ∀ x ∈ l, seqT x.t) (hone : oneK l = false) (hnil : l.any vNl = false) (hw : widS l ≤ 65536) (ht : Vl.tots l ≤ 1100000)
    (hft : Vl.tots (flE l) ≤ 1100000) (hvt : (ofV (flE l)).tot ≤ 1100000) (hdp : (ofV (flE l)).depth ≤ 32) (hB : B ≤ w.heap.size) (h : RdV w B A l) :
    Calls Tryz.prog 25 #[.slice A l.length c] w (TupV (ofV (flE l)) w) := by
  have l1 : l.length ≤ 1100000 := Nat.le_trans (Vl.length_le_tots l) ht
  have hfl : (flE l).length ≤ 1100000 := Nat.le_trans (Vl.length_le_tots _) hft
  obtain ⟨wa, hwa⟩ : ∃ wa, wa = w.alloc (.cells #[.int .i64 0, .slice none 0 0, .slice none 0 0, .slice none 0 0] 26) := ⟨_, rfl⟩
  have hb : wa.heap[w.heap.size]? = some (.cells #[.int .i64 0, .slice none 0 0, .slice none 0 0, .slice none 0 0] 26 (0, 0)) := by rw [hwa]; exact heap_alloc_new w _
  have hg : w.grownBy wa none := by rw [hwa]; exact gb_alloc (gb_refl w none) _
  have HB := hide hb
  have HG := hide hg
  have HWE := hide hwa
  have HSZ := hide (show wa.heap.size = w.heap.size + 1 by rw [hwa]; simp)
  have HBB := hide hB
  have HT := hide ht
  have H := hide h
  have HL := hide l1
  have HWS := hide hw
  have HFL := hide hfl
  have HSEQ := hide hseq
  have HNL := hide (fun w2 (hg : w.grownBy w2 none) => (vNil_has l w2 B A c l1 (Nat.le_trans hB hg.size) (h.gb hg hB)).mono (fun e w' h => (⟨h.1.trans (by rw [hnil]), h.2⟩ : e = .returned (.bool false) ∧ w2.grownBy w' none)))
  have HOK := hide (fun w2 (hg : w.grownBy w2 none) => (ofOneKind_any l w2 B A c l1 (Nat.le_trans hB hg.size) (h.gb hg hB)).mono (fun e w' h => (⟨h.1.trans (by rw [hone]), h.2⟩ : e = .returned (.bool false) ∧ w2.grownBy w' none)))
  obtain ⟨ov, hov⟩ : ∃ ov, ov = ofV (flE l) := ⟨_, rfl⟩
  have hof := fun w2 A2 c2 (hr : RdV w2 w2.heap.size A2 (flE l)) => of_any (flE l) w2 w2.heap.size A2 c2 hft (Nat.le_refl _) hr
  rw [← hov] at hvt hdp hof ⊢
  have HOF := hide hof
  have HDP := hide (fun w2 iA ic jA jc kA kc (hv : VB w2 w2.heap.size ov iA ic jA jc kA kc) => depth_any ov w2 w2.heap.size iA ic jA jc kA kc hvt (Nat.le_refl _) hv)
  have h32 : decide ((32 : Int) < (ov.depth : Int)) = false := decide_eq_false (by omega)
  obtain ⟨i1, hi1, hiz, his, hib⟩ := info_parts Tryz.infoV
  have HI1 := hide hi1
  have HIZ := hide hiz
  have HIS := hide his
  have HIB := hide hib
  have h13 : decide ((65536 : Int) < (widS l : Int)) = false := decide_eq_false (by omega)
  clear hb hg hwa hB ht h l1 hw hone hnil hseq hft hfl hvt hdp hof hov hi1 hiz his hib
  generalize ov.depth = od at *
  go_enter Tryz.func25, Tryz.ntmps25
  go_wp2_with fail
  rw [← HWE.out]
  go_loopw [4, 13] (fun u i wr => ∃ j : Nat, i = .int .i64 (j : Int) ∧ u = .int .i64 (widS (l.take j) : Nat) ∧ j ≤ l.length ∧ wa.grownBy wr none) (fun _ i _ => l.length - (intOf i).toNat)
  case atStart => exact ⟨0, rfl, rfl, Nat.zero_le _, gb_refl wa none⟩
  case round =>
    obtain ⟨j, rfl, rfl, hj, hgr⟩ := hrel
    by_cases hlt : j < l.length
    · have hlt1 : (j : Int) < (l.length : Int) := by omega
      obtain ⟨q, p, xA, xc, yA, yc, zA, zc, hA, hqB, hc4, hvb⟩ := H.out.at_ hlt
      subst hA
      have hgw : w.grownBy wr none := gb_trans HG.out hgr (.inl rfl)
      obtain ⟨f0, f1, f2, f3⟩ := hc4.gb hgw
      have hvr := hvb.gb hgw HBB.out
      have hW := widS_take l j hlt
      have hle := widS_le l (j + 1)
      have h6 : IntKind.i64.wrap ((j : Int) + 1) = ((j + 1 : Nat) : Int) := by rw [IntKind.wrap_i64]; have := HL.out; omega
      have h7 : IntKind.i64.wrap ((widS (l.take j) : Int) + (widV l[j] : Int)) = (widS (l.take (j + 1)) : Int) := by rw [IntKind.wrap_i64, hW]; have := HWS.out; omega
      have HWD := hide (fun w2 (hg : wr.grownBy w2 none) => width_any l[j] w2 B xA xc yA yc zA zc (Nat.le_trans (Vl.tot_mem (List.getElem_mem hlt)) HT.out) (by have := HBB.out; have := hgw.size; have := hg.size; omega) (hvr.gb hg (by have := HBB.out; have := hgw.size; omega)))
      have HGR := hide hgr
      have HLT := hide hlt
      have C4n := hide (C4.box wr (.int .i64 l[j].t) (.slice xA l[j].n.length xc) (.slice yA l[j].s.length yc) (.slice zA l[j].l.length zc) 26)
      clear hc4 hvb hgw hvr hW hle hgr hj
      generalize widS (l.take j) = s0 at *
      obtain ⟨s1, hs1⟩ : ∃ s1, s1 = widS (l.take (j + 1)) := ⟨_, rfl⟩
      rw [← hs1] at h7
      have HS1 := hide hs1
      clear hs1
      generalize widV l[j] = s2 at *
      go_wp2_with (go_at_call 49; refine (HWD.out _ (gb_alloc (gb_refl wr none) _)).mono ?_; rintro e w1 ⟨rfl, hg1⟩; have HG1 := hide (gb_trans (gb_alloc (gb_refl wr none) _) hg1 (.inl rfl)); clear hg1)
      go_roundw
      case rel => exact ⟨j + 1, by go_num, by rw [← HS1.out], by have := HLT.out; omega, gb_trans HGR.out HG1.out (.inl rfl)⟩
      case measure => have := HLT.out; simp [intOf]; omega
    · have hlt1 : ¬ (j : Int) < (l.length : Int) := by omega
      obtain rfl : j = l.length := by omega
      rw [List.take_length]
      have HGR := hide hgr
      have HG2 := hide (gb_trans HG.out hgr (.inl rfl))
      clear hgr hlt hj
      go_wp2_with (first
        | (go_at_call 50; refine (HNL.out _ HG2.out).mono ?_; rintro e w1 ⟨rfl, hg1⟩; have HG3 := hide (gb_trans HG2.out hg1 (.inl rfl)); have HGS := hide (gb_trans HGR.out hg1 (.inl rfl)); clear hg1)
        | (go_at_call 52; refine (HOK.out _ HG3.out).mono ?_; rintro e w2 ⟨rfl, hg2⟩; have HG4 := hide (gb_trans HG3.out hg2 (.inl rfl)); have HGT := hide (gb_trans HGS.out hg2 (.inl rfl)); clear hg2))
      clear HNL HOK HGR HG2 HG3 HGS h13 HWS
      go_loopw [7, 37] (fun u i wr => ∃ j : Nat, i = .int .i64 (j : Int) ∧ j ≤ l.length ∧ AllP wa.heap.size (flE (l.take j)) wr u ∧ wa.grownBy wr none) (fun _ i _ => l.length - (intOf i).toNat)
      case atStart => exact ⟨0, rfl, Nat.zero_le _, ⟨[], [], ⟨rfl, .inl ⟨rfl, rfl⟩⟩, ⟨rfl, rfl⟩, by simp⟩, HGT.out⟩
      case round =>
        obtain ⟨j, rfl, hj, hall, hgr⟩ := hrel
        by_cases hlt : j < l.length
        · have hlt1 : (j : Int) < (l.length : Int) := by omega
          obtain ⟨q, p, xA, xc, yA, yc, zA, zc, hA, hqB, hc4, hvb⟩ := H.out.at_ hlt
          subst hA
          have hgw : w.grownBy wr none := gb_trans HG.out hgr (.inl rfl)
          obtain ⟨f0, f1, f2, f3⟩ := hc4.gb hgw
          have hvr := hvb.gb hgw HBB.out
          have hle := flE_le l (j + 1)
          have h6 : IntKind.i64.wrap ((j : Int) + 1) = ((j + 1 : Nat) : Int) := by rw [IntKind.wrap_i64]; have := HL.out; omega
          obtain ⟨wq, hwq⟩ : ∃ wq, wq = wr.alloc (.cells #[.int .i64 l[j].t, .slice xA l[j].n.length xc, .slice yA l[j].s.length yc, .slice zA l[j].l.length zc] 26) := ⟨_, rfl⟩
          have hgq : wr.grownBy wq none := by rw [hwq]; exact gb_alloc (gb_refl wr none) _
          obtain ⟨es, m, hem, hft, hcall⟩ : ∃ (es : List Vl) (m : Nat), es.length = m ∧ flE (l.take (j + 1)) = flE (l.take j) ++ es ∧ Calls Tryz.prog 54 #[.agg #[.int .i64 l[j].t, .slice xA l[j].n.length xc, .slice yA l[j].s.length yc, .slice zA l[j].l.length zc]] wq (ElR es wq) := ⟨_, _, elS_len _ _, flE_take l j hlt, elements_any l[j] wq xA xc yA yc zA zc (HSEQ.out _ (List.getElem_mem hlt)) (Nat.le_trans (Vl.tot_mem (List.getElem_mem hlt)) HT.out) ((hvr.gb hgq (by have := HBB.out; have := hgw.size; omega)).up (by have := HBB.out; have := hgw.size; have := hgq.size; omega))⟩
          have HEL := hide hcall
          have HAL := hide (hall.gb hgq)
          have HGR := hide (gb_trans hgr hgq (.inl rfl))
          have HWQ := hide hwq
          have HLT := hide hlt
          have HLN := hide hem
          have HLE := hide (show (flE (l.take j)).length + m ≤ 1100000 by have := HFL.out; rw [hft, List.length_append, hem] at hle; omega)
          have HFT := hide hft
          clear hc4 hvb hgw hvr hle hft hgr hj hall hgq hwq hcall hem
          generalize hvs : flE (l.take j) = vs at *
          clear hvs
          go_wp2_with (first
            | (go_at_call 54; rw [← HWQ.out]; refine HEL.out.mono ?_; rintro e w3 ⟨hg3, A2, c2, ys, g2, hc2, rfl, hr2, ho2, hl2, hf2⟩; rw [HLN.out] at hc2 hl2 ⊢; have HG3 := hide hg3; have HAL3 := hide (HAL.out.gb hg3); have HR2 := hide hr2; have HO2 := hide ho2; have HL2 := hide hl2; have HF2 := hide hf2; clear hg3 hc2 hr2 ho2 hl2 hf2)
            | (at_builtin
               obtain ⟨xs, f, how, hva, hsep⟩ := HAL3.out.p
               refine wpList_append_rd _ rfl (.tmp 41) (.tmp 43) 24 rfl wa.heap.size 26 i1 (.agg #[.int .i64 0, .slice none 0 0, .slice none 0 0, .slice none 0 0]) 4 80 Tryz.underlying24 HI1.out HIZ.out HIS.out HIB.out rfl (Nat.succ_pos 3) u7 vs.length (List.flatten xs) rfl how w3.heap.size A2 m c2 (List.flatten ys) rfl HL2.out HR2.out (VOwAll.one _ _ _ HO2.out) (by have := HLE.out; unfold maxLen; omega) (by have := HLE.out; omega) (Nat.le_trans HGR.out.size HG3.out.size) ?_
               intro v8 w8 ho8 hg8 hl8
               have HFIN := hide (show AllP wa.heap.size (vs ++ es) w8 v8 ∧ wa.grownBy w8 none from by
                 have hown := how.lt
                 refine ⟨⟨xs ++ ys, f ++ g2, by rw [List.length_append, HLN.out, List.flatten_append]; exact ho8, VOwAll.app (VOwAll.keep _ _ _ HO2.out fun b hb => hg8.block b (VOwAll.lt _ _ _ HO2.out b hb) (fun e => by have h1 := (hown b e.symm).2; have h2 := HF2.out b hb; have h3 := HAL.out.p; obtain ⟨_, _, h4, _⟩ := h3; have h5 := (h4.lt b e.symm).2; omega)) _ _ _ (VOwAll.keep _ _ _ hva fun b hb => hg8.block b (VOwAll.lt _ _ _ hva b hb) (fun e => hsep b hb e.symm)), fun b hb e => ?_⟩, gb_trans (gb_trans HGR.out HG3.out (.inl rfl)) hg8 (match hq : u7.ownBlock with | none => .inr (.inl rfl) | some g => .inr (.inr ⟨g, rfl, (hown g hq).1⟩))⟩
                 rcases hl8 with h1 | h1
                 · rw [h1] at e
                   rcases List.mem_append.1 hb with hb | hb
                   · exact hsep b hb e
                   · have h2 := HF2.out b hb
                     obtain ⟨_, _, h4, _⟩ := HAL.out.p
                     have h5 := (h4.lt b e).2
                     omega
                 · rw [h1] at e
                   injection e with e
                   subst e
                   rcases List.mem_append.1 hb with hb | hb
                   · exact Nat.lt_irrefl _ (VOwAll.lt _ _ _ hva _ hb)
                   · exact Nat.lt_irrefl _ (VOwAll.lt _ _ _ HO2.out _ hb))
               clear ho8 hg8 hl8 how hva hsep))
          go_roundw
          case rel => exact ⟨j + 1, by go_num, by have := HLT.out; omega, by rw [HFT.out]; exact HFIN.out.1, HFIN.out.2⟩
          case measure => have := HLT.out; simp [intOf]; omega
        · have hlt1 : ¬ (j : Int) < (l.length : Int) := by omega
          obtain rfl : j = l.length := by omega
          rw [List.take_length] at hall
          obtain ⟨xs, f, how, hva, hsep⟩ := hall.p
          obtain ⟨uA, uc, rfl, huc⟩ := own_slice how
          have HOC := hide (HOF.out wr uA uc ⟨xs, Rd.of_own how, VOwAll.at_ _ _ _ hva (VOwAll.lt _ _ _ hva)⟩)
          have HBZ := hide (blk_keep HB.out hgr (by simp))
          have HGW := hide (gb_trans HG.out hgr (.inl rfl))
          have hszw := hgr.size
          have HSW := hide (show w.heap.size < wr.heap.size by have := HSZ.out; omega)
          clear how hva hsep huc hall hgr hlt hj HOF hszw
          generalize flE l = fs at *
          generalize fs.length = fn at *
          go_wp2_with (first
            | (go_at_call 36; refine HOC.out.mono ?_; rintro e w5 ⟨iA, ic, jA, jc, kA, kc, f5, rfl, ho5, hn5, hg5⟩; have hga := gb_alloc (gb_refl w5 none) (.cells #[.int .i64 ov.t, .slice iA ov.n.length ic, .slice jA ov.s.length jc, .slice kA ov.l.length kc] 26); have HO5 := hide ho5; have HN5 := hide hn5; have HG5 := hide hg5; have HGA := hide hga; have HDC := hide (HDP.out (w5.alloc (.cells #[.int .i64 ov.t, .slice iA ov.n.length ic, .slice jA ov.s.length jc, .slice kA ov.l.length kc] 26)) iA ic jA jc kA kc ((ho5.vb.gb hga (Nat.le_refl _)).up hga.size)); obtain ⟨u0, u1, u2, u3⟩ := C4.box w5 (.int .i64 ov.t) (.slice iA ov.n.length ic) (.slice jA ov.s.length jc) (.slice kA ov.l.length kc) 26; clear ho5 hn5 hg5 hga)
            | (go_at_call 55; refine HDC.out.mono ?_; rintro e w9 ⟨rfl, hg9⟩; have HG9 := hide (gb_trans HGA.out hg9 (.inl rfl)); have v0 := cell_gb u0 hg9; have v1 := cell_gb u1 hg9; have v2 := cell_gb u2 hg9; have v3 := cell_gb u3 hg9; have hr2 := blk_keep HBZ.out (gb_trans HG5.out HG9.out (.inl rfl)) (by simp); have HR2 := hide hr2; have z0 := blk_frozen hr2 0; have z1 := blk_frozen hr2 1; have z2 := blk_frozen hr2 2; have z3 := blk_frozen hr2 3; have y0 : w9.cell? ⟨w.heap.size, 0, none⟩ = some (.int .i64 0) := (by { rw [blk_cell hr2]; rfl }); have y1 : w9.cell? ⟨w.heap.size, 1, none⟩ = some (.slice none 0 0) := (by { rw [blk_cell hr2]; rfl }); have y2 : w9.cell? ⟨w.heap.size, 2, none⟩ = some (.slice none 0 0) := (by { rw [blk_cell hr2]; rfl }); have y3 : w9.cell? ⟨w.heap.size, 3, none⟩ = some (.slice none 0 0) := (by { rw [blk_cell hr2]; rfl }); clear hr2 hg9 u0 u1 u2 u3))
          have hb := put_four HR2.out (.int .i64 ov.t) (.slice iA ov.n.length ic) (.slice jA ov.s.length jc) (.slice kA ov.l.length kc)
          have m0 : ((((w9.setCell ⟨w.heap.size, 0, none⟩ (.int .i64 ov.t)).setCell ⟨w.heap.size, 1, none⟩ (.slice iA ov.n.length ic)).setCell ⟨w.heap.size, 2, none⟩ (.slice jA ov.s.length jc)).setCell ⟨w.heap.size, 3, none⟩ (.slice kA ov.l.length kc)).cell? ⟨w.heap.size, 0, none⟩ = some (.int .i64 ov.t) := (blk_cell hb 0).trans rfl
          have m1 : ((((w9.setCell ⟨w.heap.size, 0, none⟩ (.int .i64 ov.t)).setCell ⟨w.heap.size, 1, none⟩ (.slice iA ov.n.length ic)).setCell ⟨w.heap.size, 2, none⟩ (.slice jA ov.s.length jc)).setCell ⟨w.heap.size, 3, none⟩ (.slice kA ov.l.length kc)).cell? ⟨w.heap.size, 1, none⟩ = some (.slice iA ov.n.length ic) := (blk_cell hb 1).trans rfl
          have m2 : ((((w9.setCell ⟨w.heap.size, 0, none⟩ (.int .i64 ov.t)).setCell ⟨w.heap.size, 1, none⟩ (.slice iA ov.n.length ic)).setCell ⟨w.heap.size, 2, none⟩ (.slice jA ov.s.length jc)).setCell ⟨w.heap.size, 3, none⟩ (.slice kA ov.l.length kc)).cell? ⟨w.heap.size, 2, none⟩ = some (.slice jA ov.s.length jc) := (blk_cell hb 2).trans rfl
          have m3 : ((((w9.setCell ⟨w.heap.size, 0, none⟩ (.int .i64 ov.t)).setCell ⟨w.heap.size, 1, none⟩ (.slice iA ov.n.length ic)).setCell ⟨w.heap.size, 2, none⟩ (.slice jA ov.s.length jc)).setCell ⟨w.heap.size, 3, none⟩ (.slice kA ov.l.length kc)).cell? ⟨w.heap.size, 3, none⟩ = some (.slice kA ov.l.length kc) := (blk_cell hb 3).trans rfl
          refine bodyPost_ret (v := .tuple #[.agg #[.int .i64 ov.t, .slice iA ov.n.length ic, .slice jA ov.s.length jc, .slice kA ov.l.length kc], .int .i64 0]) (by simp [results, Tryz.results25, go_sem, m0, m1, m2, m3]) rfl ?_
          have hsw := HSW.out
          refine ⟨iA, ic, jA, jc, kA, kc, f5, rfl, VOw.keep _ _ _ (HO5.out.grow HG9.out) fun b hm => put_four_other (by have := (HN5.out.2 b hm).1; omega) _ _ _ _, ⟨HN5.out.1, fun b hb => ?_⟩, put_four_gb (gb_trans HGW.out (gb_trans HG5.out HG9.out (.inl rfl)) (.inl rfl)) (Nat.le_refl _) _ _ _ _⟩
          have h2 := HN5.out.2 b hb
          have h3 := HG9.out.size
          refine ⟨by omega, ?_⟩
          simp [World.setCell]
          omega
end Go.Proofs.YtnilcnobngcbgaaGreat
