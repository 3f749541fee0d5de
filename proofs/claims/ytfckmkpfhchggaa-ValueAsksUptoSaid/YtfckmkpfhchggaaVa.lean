/-
  The laws' count of what is handed in.
-/
import Derived.Test.YtfckmkpfhchggaaChecked
import Derived.Test.YtfckmkpfhchggaaVAt
namespace Go.Proofs.Ytfckmkpfhchggaa
open Go.RowKit

/-- What the laws' count says of n elements, bytes and parts: it stops above 70000. -/
def Cnt (n : Nat) (r : Int) : Prop := 0 ≤ r ∧ r ≤ n ∧ (r = n ∨ 70000 < r)
def SizePost (v : Vl) (w : World) (e : Ending) (w' : World) : Prop := ∃ r : Int, e = .returned (.int .i64 r) ∧ Cnt v.tot r ∧ w.grownBy w' none

set_option maxHeartbeats 4000000 in
set_option maxRecDepth 100000 in
theorem size_d (d : Nat) : ∀ (v : Vl) (w : World) (B : Nat) (nA : Option Addr) (nc : Nat) (sA : Option Addr) (sc : Nat) (lA : Option Addr) (lc : Nat), v.depth ≤ d → v.tot ≤ 1100000 → B ≤ w.heap.size → VB w B v nA nc sA sc lA lc →
    Calls Try.prog 37 #[.agg #[.int .i64 v.t, .slice nA v.n.length nc, .slice sA v.s.length sc, .slice lA v.l.length lc]] w (SizePost v w) := by
  induction d with
  | zero => intro v; intros; rw [Vl.depth_def] at *; omega
  | succ d ih =>
    intro v w B nA nc sA sc lA lc hd ht hB hv
    have IH := hide ih
    have HV := hide hv
    have HD := hide hd
    have HT := hide (Vl.tot_def v)
    have ht1 : 1 + v.n.length + v.s.length + Vl.chars v.s + Vl.tots v.l ≤ 1100000 := by rw [← HT.out]; exact ht
    have HT1 := hide ht1
    have hn : v.n.length ≤ 1100000 := by omega
    have hs : v.s.length ≤ 1100000 := by omega
    have hl : v.l.length ≤ 1100000 := by have := Vl.length_le_tots v.l; omega
    have HBB := hide hB
    clear ih hv hd ht ht1 hB
    obtain ⟨wa, hwa⟩ : ∃ wa, wa = w.alloc (.cells #[.int .i64 v.t, .slice nA v.n.length nc, .slice sA v.s.length sc, .slice lA v.l.length lc] 26) := ⟨_, rfl⟩
    have hc := C4.box w (.int .i64 v.t) (.slice nA v.n.length nc) (.slice sA v.s.length sc) (.slice lA v.l.length lc) 26
    rw [← hwa] at hc
    have HC := hide hc
    have HG := hide (show w.grownBy wa none by rw [hwa]; exact gb_alloc (gb_refl w none) _)
    have HWE := hide hwa
    have b1 : wa.cell? ⟨w.heap.size, 1, none⟩ = some (.slice nA v.n.length nc) := hc.c1
    have b2 : wa.cell? ⟨w.heap.size, 2, none⟩ = some (.slice sA v.s.length sc) := hc.c2
    have b3 : wa.cell? ⟨w.heap.size, 3, none⟩ = some (.slice lA v.l.length lc) := hc.c3
    clear hc hwa
    have f1 : IntKind.i64.wrap (1 + (v.n.length : Int)) = 1 + (v.n.length : Int) := by rw [IntKind.wrap_i64]; omega
    have f2 : IntKind.i64.wrap (1 + (v.n.length : Int) + (v.s.length : Int)) = 1 + (v.n.length : Int) + (v.s.length : Int) := by rw [IntKind.wrap_i64]; omega
    go_enter Try.func37, Try.ntmps37
    go_wp2_with fail
    rw [← HWE.out]
    go_loop [3, 4] (fun n i => ∃ j : Nat, j ≤ v.s.length ∧ i = .int .i64 (j : Int) ∧ n = .int .i64 (1 + (v.n.length : Int) + (v.s.length : Int) + (Vl.chars (v.s.take j) : Nat))) (fun _ i => v.s.length - (intOf i).toNat)
    case atStart => exact ⟨0, by omega, rfl, by simp [Vl.chars]⟩
    case round =>
      obtain ⟨j, hj, rfl, rfl⟩ := hrel
      have hcl := Vl.chars_take_le v.s j
      have hcb : Vl.chars (v.s.take j) ≤ 1100000 := by have := HT1.out; omega
      clear hcl
      by_cases hgo : j < v.s.length ∧ 1 + v.n.length + v.s.length + Vl.chars (v.s.take j) ≤ 70000
      · obtain ⟨hlt, h7⟩ := hgo
        obtain ⟨ad, rfl, _, hc⟩ := (HV.out.gb HG.out HBB.out).s.str hlt
        have hst := Vl.chars_take v.s j hlt
        have hcl := Vl.chars_take_le v.s (j + 1)
        have hxb : v.s[j].size ≤ 1100000 := by have := HT1.out; omega
        have HST := hide hst
        clear hst hcl
        have hlt1 : (j : Int) < (v.s.length : Int) := by omega
        have h71 : 1 + (v.n.length : Int) + (v.s.length : Int) + (Vl.chars (v.s.take j) : Nat) ≤ 70000 := by omega
        generalize v.s[j] = x at *
        generalize Vl.chars (v.s.take j) = y at *
        go_wp2_with fail
        go_round
        case rel => exact ⟨j + 1, by omega, by go_num, by rw [HST.out]; go_num⟩
        case measure => simp [intOf]; omega
      · have HE : Hid ((Vl.chars (v.s.take j) = Vl.chars v.s ∨ 70000 < 1 + v.n.length + v.s.length + Vl.chars (v.s.take j)) ∧ Vl.chars (v.s.take j) ≤ Vl.chars v.s) := by
          refine hide ⟨?_, Vl.chars_take_le v.s j⟩
          by_cases hlt : j < v.s.length
          · exact .inr (by omega)
          · exact .inl (by rw [List.take_of_length_le (by omega)])
        have HX : Hid (1 + v.n.length + v.s.length + Vl.chars (v.s.take j) ≤ 1100000) := hide (by have := HT1.out; have := HE.out.2; omega)
        have hno : ¬ (j : Int) < (v.s.length : Int) ∨ ((j : Int) < (v.s.length : Int) ∧ ¬ 1 + (v.n.length : Int) + (v.s.length : Int) + (Vl.chars (v.s.take j) : Nat) ≤ 70000) := by omega
        clear hgo
        generalize hy : Vl.chars (v.s.take j) = y at *
        clear hy
        rcases hno with hno | ⟨hno0, hno⟩
        all_goals
          go_wp2_with fail
          go_loopw [3, 5] (fun n i wr => ∃ (j : Nat) (r : Int), j ≤ v.l.length ∧ i = .int .i64 (j : Int) ∧ n = .int .i64 r ∧ 0 ≤ r ∧ r ≤ 1 + v.n.length + v.s.length + Vl.chars v.s + Vl.tots (v.l.take j) ∧ (r = 1 + v.n.length + v.s.length + Vl.chars v.s + Vl.tots (v.l.take j) ∨ 70000 < r) ∧ wa.grownBy wr none) (fun _ i _ => v.l.length - (intOf i).toNat)
          case atStart =>
            refine ⟨0, _, by omega, rfl, rfl, by omega, ?_, ?_, gb_refl wa none⟩
            · have := HE.out; simp [Vl.tots]; omega
            · have := HE.out; simp [Vl.tots]; omega
          case round =>
            obtain ⟨m, r, hm, rfl, rfl, hr0, hr1, hr2, hg⟩ := hrel
            have HR1 := hide hr1
            have HR2 := hide hr2
            have HG2 := hide hg
            have hrb : r ≤ 1100000 := by have := HT1.out; have := Vl.tots_take_le v.l m; omega
            clear hr1 hr2 hg
            by_cases hlt : m < v.l.length
            · by_cases h7 : r ≤ 70000
              · have hgw := gb_trans HG.out HG2.out (.inl rfl)
                obtain ⟨b, o, nA', nc', sA', sc', lA', lc', rfl, hbB, hc4, hvb⟩ := HV.out.l.at_ hlt
                have hc4 := hc4.gb hgw
                have HVB := hide (hvb.gb hgw HBB.out)
                have HBW := hide (Nat.le_trans HBB.out hgw.size)
                have HDL := hide (Nat.le_of_lt_succ (Nat.lt_of_lt_of_le (Vl.depth_lt (List.getElem_mem hlt)) HD.out))
                have htk := Vl.tots_take v.l m hlt
                have htl := Vl.tots_take_le v.l (m + 1)
                have HTL : Hid (v.l[m].tot ≤ 1100000) := hide (by have := HT1.out; omega)
                have HTK := hide htk
                have c3 := cell_gb b3 HG2.out
                obtain ⟨d0, d1, d2, d3⟩ := hc4
                have hlt1 : (m : Int) < (v.l.length : Int) := by omega
                clear hgw hvb htk htl
                go_wp2_with (go_at_call 37; refine (IH.out _ _ B _ _ _ _ _ _ HDL.out HTL.out HBW.out HVB.out).mono ?_; rintro e w2 ⟨rc, rfl, hcnt, hg2⟩; have HCN := hide hcnt; have HG3 := hide hg2; have hr0 := hcnt.1; have hrb : rc ≤ 1100000 := (by have := hcnt.2.1; have := HTL.out; omega); clear hcnt hg2)
                go_roundw
                case rel =>
                  have q1 := HR1.out
                  have q2 := HR2.out
                  obtain ⟨q3, q4, q5⟩ := HCN.out
                  have q6 := HTK.out
                  exact ⟨m + 1, r + rc, by omega, by go_num, rfl, by omega, by omega, by omega, gb_trans HG2.out HG3.out (.inl rfl)⟩
                case measure => simp [intOf]; omega
              · have hlt1 : (m : Int) < (v.l.length : Int) := by omega
                have c3 := cell_gb b3 HG2.out
                go_wp2_with fail
                go_ret
                refine ⟨r, rfl, ⟨hr0, ?_, .inr (by omega)⟩, gb_trans HG.out HG2.out (.inl rfl)⟩
                have := HT.out; have := HR1.out; have := Vl.tots_take_le v.l m; omega
            · have hlt1 : ¬ (m : Int) < (v.l.length : Int) := by omega
              have c3 := cell_gb b3 HG2.out
              have HTE := hide (show v.l.take m = v.l from List.take_of_length_le (by omega))
              go_wp2_with fail
              go_ret
              have q1 := HR1.out
              have q2 := HR2.out
              rw [HTE.out] at q1 q2
              have q3 := HT.out
              exact ⟨r, rfl, ⟨hr0, by omega, by omega⟩, gb_trans HG.out HG2.out (.inl rfl)⟩

theorem size_any (v : Vl) (w : World) (B : Nat) (nA : Option Addr) (nc : Nat) (sA : Option Addr) (sc : Nat) (lA : Option Addr) (lc : Nat) (ht : v.tot ≤ 1100000) (hB : B ≤ w.heap.size) (h : VB w B v nA nc sA sc lA lc) :
    Calls Try.prog 37 #[.agg #[.int .i64 v.t, .slice nA v.n.length nc, .slice sA v.s.length sc, .slice lA v.l.length lc]] w (SizePost v w) := size_d v.depth v w B nA nc sA sc lA lc (Nat.le_refl _) ht hB h

/-- Is there too much? -/
def hugeV (l : List Vl) : Bool := decide (70000 < Vl.tots l)
set_option maxHeartbeats 4000000 in
set_option maxRecDepth 100000 in
theorem hugeV_any (l : List Vl) (A : Option Addr) (c B : Nat) (w : World) (ht : Vl.tots l ≤ 1100000) (hB : B ≤ w.heap.size) (h : RdV w B A l) :
    Calls Try.prog 7 #[.slice A l.length c] w fun e w' => e = .returned (.bool (hugeV l)) ∧ w.grownBy w' none := by
  have HV := hide h
  have HT1 := hide ht
  have HBB := hide hB
  have hl : l.length ≤ 1100000 := by have := Vl.length_le_tots l; omega
  clear h ht hB
  go_enter Try.func7, Try.ntmps7
  go_wp2_with fail
  go_loopw [3, 4] (fun n i wr => ∃ (j : Nat) (r : Int), j ≤ l.length ∧ i = .int .i64 (j : Int) ∧ n = .int .i64 r ∧ 0 ≤ r ∧ r ≤ Vl.tots (l.take j) ∧ (r = Vl.tots (l.take j) ∨ 70000 < r) ∧ w.grownBy wr none) (fun _ i _ => l.length - (intOf i).toNat)
  case atStart => exact ⟨0, 0, by omega, rfl, rfl, by omega, by simp, by simp [Vl.tots], gb_refl w none⟩
  case round =>
    obtain ⟨m, r, hm, rfl, rfl, hr0, hr1, hr2, hg⟩ := hrel
    have HR1 := hide hr1
    have HR2 := hide hr2
    have HG2 := hide hg
    have hrb : r ≤ 1100000 := by have := HT1.out; have := Vl.tots_take_le l m; omega
    clear hr1 hr2 hg
    by_cases hlt : m < l.length
    · have hlt1 : (m : Int) < (l.length : Int) := by omega
      by_cases h7 : r ≤ 70000
      · obtain ⟨b, o, nA', nc', sA', sc', lA', lc', rfl, hbB, hc4, hvb⟩ := HV.out.at_ hlt
        have hc4 := hc4.gb HG2.out
        have HVB := hide (hvb.gb HG2.out HBB.out)
        have HBW := hide (Nat.le_trans HBB.out HG2.out.size)
        have htk := Vl.tots_take l m hlt
        have htl := Vl.tots_take_le l (m + 1)
        have HTL : Hid (l[m].tot ≤ 1100000) := hide (by have := HT1.out; omega)
        have HTK := hide htk
        obtain ⟨d0, d1, d2, d3⟩ := hc4
        clear hvb htk htl
        go_wp2_with (go_at_call 37; refine (size_any _ _ B _ _ _ _ _ _ HTL.out HBW.out HVB.out).mono ?_; rintro e w2 ⟨rc, rfl, hcnt, hg2⟩; have HCN := hide hcnt; have HG3 := hide hg2; have hr0 := hcnt.1; have hrb : rc ≤ 1100000 := (by have := hcnt.2.1; have := HTL.out; omega); clear hcnt hg2)
        go_roundw
        case rel =>
          have q1 := HR1.out
          have q2 := HR2.out
          obtain ⟨q3, q4, q5⟩ := HCN.out
          have q6 := HTK.out
          exact ⟨m + 1, r + rc, by omega, by go_num, rfl, by omega, by omega, by omega, gb_trans HG2.out HG3.out (.inl rfl)⟩
        case measure => simp [intOf]; omega
      · have h71 : 70000 < r := by omega
        have HB : Hid (hugeV l = true) := hide (by have := HR1.out; have := Vl.tots_take_le l m; unfold hugeV; simp; omega)
        go_wp2_with fail
        go_ret
        exact ⟨ret_b HB.out.symm, HG2.out⟩
    · have hlt1 : ¬ (m : Int) < (l.length : Int) := by omega
      have HTE := hide (show l.take m = l from List.take_of_length_le (by omega))
      have HB : Hid (decide (70000 < r) = hugeV l) := hide (by
        have q1 := HR1.out
        have q2 := HR2.out
        rw [HTE.out] at q1 q2
        unfold hugeV
        rw [decide_eq_decide]
        omega)
      go_wp2_with fail
      go_ret
      exact ⟨ret_b (by first | exact HB.out | (rw [← HB.out]; simp)), HG2.out⟩
end Go.Proofs.Ytfckmkpfhchggaa
