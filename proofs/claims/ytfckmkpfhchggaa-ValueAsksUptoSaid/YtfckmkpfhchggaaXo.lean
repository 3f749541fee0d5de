/-
  value.Each: what it keeps, and what it hands over, one by one.
-/
import Derived.Test.YtfckmkpfhchggaaXn
import Derived.Test.YtfckmkpfhchggaaVu
import Derived.Test.YtfckmkpfhchggaaRf
import Derived.OwnWalkIn
import Derived.TacticsInMore
import Derived.LoopNIn
import Derived.LoopIn
import Derived.Deep.CutBlock
import Derived.Deep.DeepCutAuto
namespace Go.Proofs.Ytfckmkpfhchggaa
open Go.RowKit
attribute [local go_sem ↓] Go.wp_at_zero Go.wp_at_succ
attribute [local go_sem] wide_fn wide_depth Oper.semAt_some

/-- What Each has kept: a copy in a box. -/
structure EachAt (w : World) (v : Vl) (bk : Nat) (f : List Nat) : Prop where
  own : ∃ nA nc sA sc lA lc, C4 w bk 0 (.int .i64 v.t) (.slice nA v.n.length nc) (.slice sA v.s.length sc) (.slice lA v.l.length lc) ∧ VOw w v [.int .i64 v.t, .slice nA v.n.length nc, .slice sA v.s.length sc, .slice lA v.l.length lc] f
  lt : bk < w.heap.size
theorem EachAt.keep {w w' : World} {v : Vl} {bk : Nat} {f : List Nat} (h : EachAt w v bk f) (hs : w.heap.size ≤ w'.heap.size) (hk : ∀ b, b ∈ bk :: f → w'.heap[b]? = w.heap[b]?) : EachAt w' v bk f := by
  obtain ⟨⟨nA, nc, sA, sc, lA, lc, hc, ho⟩, hl⟩ := h
  have hb : w'.heap[bk]? = w.heap[bk]? := hk bk (by simp)
  have hcell : ∀ o, w'.cell? ⟨bk, o, none⟩ = w.cell? ⟨bk, o, none⟩ := fun o => World.cell?_of_block (a := ⟨bk, o, none⟩) hb
  exact ⟨⟨nA, nc, sA, sc, lA, lc, ⟨(hcell _).trans hc.c0, (hcell _).trans hc.c1, (hcell _).trans hc.c2, (hcell _).trans hc.c3⟩, VOw.keep _ _ _ ho fun b hm => hk b (by simp [hm])⟩, by omega⟩
def EachNew (v : Vl) (w : World) (e : Ending) (w' : World) : Prop := ∃ bk f, e = .returned (.func (.func 57) #[] #[.pointer (some ⟨bk, 0, none⟩)]) ∧ EachAt w' v bk f ∧ (∀ b ∈ bk :: f, w.heap.size ≤ b ∧ b < w'.heap.size) ∧ w.grownBy w' none

set_option maxHeartbeats 4000000 in
set_option maxRecDepth 100000 in
theorem each_any (v : Vl) (w : World) (B : Nat) (nA : Option Addr) (nc : Nat) (sA : Option Addr) (sc : Nat) (lA : Option Addr) (lc : Nat) (ht : v.tot ≤ 1100000) (hB : B ≤ w.heap.size) (h : VB w B v nA nc sA sc lA lc) :
    Calls Try.prog 28 #[.agg #[.int .i64 v.t, .slice nA v.n.length nc, .slice sA v.s.length sc, .slice lA v.l.length lc]] w (EachNew v w) := by
  obtain ⟨wa, hwa⟩ : ∃ wa, wa = w.alloc (.cells #[.int .i64 v.t, .slice nA v.n.length nc, .slice sA v.s.length sc, .slice lA v.l.length lc] 26) := ⟨_, rfl⟩
  have hg : w.grownBy wa none := by rw [hwa]; exact gb_alloc (gb_refl w none) _
  have hc := C4.box w (.int .i64 v.t) (.slice nA v.n.length nc) (.slice sA v.s.length sc) (.slice lA v.l.length lc) 26
  rw [← hwa] at hc
  obtain ⟨b0, b1, b2, b3⟩ := hc
  have hbw := Nat.le_trans hB hg.size
  have HCL := hide (vClone_any v wa B nA nc sA sc lA lc ht hbw (h.gb hg hB))
  have HG := hide hg
  have HWE := hide hwa
  clear ht hB h hg hwa hbw
  go_enter Try.func28, Try.ntmps28
  go_wp2_with fail
  rw [← HWE.out]
  go_wp2_with (go_at_call 27; refine HCL.out.mono ?_; rintro e w1 ⟨xA, xc, yA, yc, zA, zc, f, rfl, ho, hn, hg1⟩; have HO := hide ho; have HN := hide hn; have HG1 := hide hg1; clear ho hn hg1)
  go_ret
  have hgx := gb_alloc (gb_refl w1 none) (.cells #[.int .i64 v.t, .slice xA v.n.length xc, .slice yA v.s.length yc, .slice zA v.l.length zc] 26)
  have hs0 := HG.out.size
  have hs1 := HG1.out.size
  refine ⟨_, f, rfl, ⟨⟨xA, xc, yA, yc, zA, zc, C4.box w1 _ _ _ _ _, HO.out.gb hgx⟩, by simp⟩, ?_, gb_trans HG.out (gb_trans HG1.out hgx (.inl rfl)) (.inl rfl)⟩
  intro b hb
  rcases List.mem_cons.1 hb with rfl | hb
  · simp; omega
  · have := HN.out.2 b hb
    simp; omega

/-- What is handed over at a place. -/
def Handed (v : Vl) (i : Nat) (x : Nat × Array Value) (W0 W : World) : Prop := x.1 = i ∧ ∃ y nA nc sA sc lA lc g, atF v.depth v i = some y ∧ x.2 = #[.int .i64 y.t, .slice nA y.n.length nc, .slice sA y.s.length sc, .slice lA y.l.length lc] ∧
  VOw W y [.int .i64 y.t, .slice nA y.n.length nc, .slice sA y.s.length sc, .slice lA y.l.length lc] g ∧ (∀ b ∈ g, W0.heap.size ≤ b) ∧ g.Nodup

/-- These blocks are as they were. -/
def KeptB (fs : List Nat) (A B : World) : Prop := A.heap.size ≤ B.heap.size ∧ ∀ b ∈ fs, B.heap[b]? = A.heap[b]?
set_option maxHeartbeats 8000000 in
set_option maxRecDepth 100000 in
theorem each_seq (v : Vl) (hk : checkV v = 0) (ht : v.tot ≤ 500000) (w0 : World) (bk : Nat) (f : List Nat) (h : EachAt w0 v bk f) (hlt : ∀ b ∈ bk :: f, b < w0.heap.size) :
    SeqC Try.prog 57 #[.pointer (some ⟨bk, 0, none⟩)] (fun x : Nat × Array Value => #[.int .i64 x.1, .agg x.2]) (Handed v) (KeptB (bk :: f)) v.count w0 := by
  intro l J Jx W hW hJ hY h0
  have hcl := Vl.count_le v.depth v (Nat.le_refl _)
  have hEW := h.keep hW.size (fun b hb => hW.block b (hlt b hb) (by simp))
  obtain ⟨⟨nA, nc, sA, sc, lA, lc, hc4, hov⟩, _⟩ := hEW
  obtain ⟨b0, b1, b2, b3⟩ := hc4
  have HCNT := hide (count_d v.depth v W W.heap.size nA nc sA sc lA lc (Nat.le_refl _) (by omega) (Nat.le_refl _) hov.vb)
  have HE := hide h
  have HJ := hide hJ
  have HY := hide hY
  have H0 := hide h0
  have HW := hide hW
  have HLT := hide hlt
  have HK := hide hk
  have HT := hide ht
  have HCL := hide hcl
  have hcb : (v.count : Int) ≤ 9223372036854775807 := by omega
  clear h hJ hY h0 hW hlt hk ht hcl hov
  refine callsIn_of_wp Try.func57 rfl trivial ?_ rfl
  simp only [Try.ntmps57, List.size_toArray, List.length_cons, List.length_nil, Nat.reduceAdd, Nat.reduceSub, Array.replicate_succ, Array.replicate_zero, List.push_toArray, List.append_toArray, List.nil_append, List.cons_append]
  gi_wp2_with (gi_at_call 15; refine (callsIn_wide.2 HCNT.out).mono ?_; rintro e w1 ⟨rfl, hg1⟩; have HG1 := hide hg1; clear hg1)
  have HS0 := hide (show w0.heap.size ≤ w1.heap.size from Nat.le_trans HW.out.size HG1.out.size)
  have HK0 := hide (show ∀ b, b ∈ bk :: f → w1.heap[b]? = w0.heap[b]? from fun b hb => by
    have h1 := HLT.out b hb
    have h2 := HW.out.size
    exact (HG1.out.block b (by omega) (by simp)).trans (HW.out.block b h1 (by simp)))
  have HJ0 := hide (HJ.out 0 W w1 H0.out HG1.out)
  clear b0 b1 b2 b3 HCNT H0
  gi_loopw [8] (fun i wr => ∃ j : Nat, i = .int .i64 (j : Int) ∧ j ≤ v.count ∧ w0.heap.size ≤ wr.heap.size ∧ (∀ b, b ∈ bk :: f → wr.heap[b]? = w0.heap[b]?) ∧ J j wr) (fun i _ => v.count - (intOf i).toNat)
  case atStart => exact ⟨0, rfl, Nat.zero_le _, HS0.out, HK0.out, HJ0.out⟩
  case round =>
    obtain ⟨j, rfl, hj, hsz, hkp, hJj⟩ := hrel
    by_cases hlt : j < v.count
    · have hlt1 : (j : Int) < (v.count : Int) := by omega
      obtain ⟨y, hat, hcy⟩ := at_ok HK.out hlt
      obtain ⟨⟨nA, nc, sA, sc, lA, lc, hc4, hov⟩, _⟩ := HE.out.keep hsz hkp
      obtain ⟨b0, b1, b2, b3⟩ := hc4
      have HAT := hide hat
      have hatc := at_d v.depth v (j : Int) wr wr.heap.size nA nc sA sc lA lc (Nat.le_refl _) HT.out (Nat.le_refl _) hov.vb
      rw [hat] at hatc
      have HATC := hide hatc
      have HKP := hide hkp
      have HSZ := hide hsz
      have HJR := hide hJj
      have HJT := hide hlt
      clear hkp hsz hJj hov hat hatc hcy hlt hj
      gi_wp2_with (gi_at_call 10; refine (callsIn_wide.2 HATC.out).mono ?_; rintro e w2 ⟨xA, xc, yA, yc, zA, zc, g, rfl, ho, hn, hg2⟩; have HG2 := hide (gb_trans hg2 (gb_alloc (gb_refl w2 none) (.cells #[.int .i64 y.t, .slice xA y.n.length xc, .slice yA y.s.length yc, .slice zA y.l.length zc] 26)) (.inl rfl)); obtain ⟨fn, tm, asg, bd, hy, hR⟩ := HY.out j (j, #[.int .i64 y.t, .slice xA y.n.length xc, .slice yA y.s.length yc, .slice zA y.l.length zc]) wr (w2.alloc (.cells #[.int .i64 y.t, .slice xA y.n.length xc, .slice yA y.s.length yc, .slice zA y.l.length zc] 26)) HJR.out HG2.out HJT.out ⟨rfl, y, xA, xc, yA, yc, zA, zc, g, HAT.out, rfl, ho.gb (gb_alloc (gb_refl w2 none) _), fun b hb => (hn.2 b hb).1, hn.1⟩; dsimp only at hy; have HR := hide hR; clear hR ho hn hg2)
      refine HR.out.mono ?_
      rintro e W3 (⟨rfl, hJ3, hs3, hk3⟩ | ⟨rfl, hx3⟩)
      · have HJ3 := hide hJ3
        have HS3 := hide (Nat.le_trans HSZ.out (Nat.le_trans HG2.out.size hs3))
        have HK3 := hide (show ∀ b, b ∈ bk :: f → W3.heap[b]? = w0.heap[b]? from fun b hb => by
          have h1 := HLT.out b hb
          have h2 := HSZ.out
          exact (hk3 b hb).trans ((HG2.out.block b (by omega) (by simp)).trans (HKP.out b hb)))
        clear hJ3 hs3 hk3 hy HR
        have hjm : (j : Int) + 1 ≤ 9223372036854775807 := by omega
        gi_wp2
        go_roundw
        case rel => exact ⟨j + 1, by go_num, HJT.out, HS3.out, HK3.out, HJ3.out⟩
        case measure => simp [intOf]; omega
      · have HX3 := hide hx3
        clear hx3 hy HR
        gi_wp2
        refine bodyPost_ret (results_none rfl _ _ _) rfl ?_
        exact ⟨⟨_, rfl⟩, .inr HX3.out⟩
    · have hlt1 : ¬ (j : Int) < (v.count : Int) := by omega
      have HJE := hide (show J v.count wr by rw [show v.count = j by omega]; exact hJj)
      clear hkp hsz hJj hlt hj
      gi_wp2
      go_end0
      exact ⟨⟨_, rfl⟩, .inl HJE.out⟩
end Go.Proofs.Ytfckmkpfhchggaa
