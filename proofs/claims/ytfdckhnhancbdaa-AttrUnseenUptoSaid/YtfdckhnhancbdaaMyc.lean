/-
  The document's own Within, of a value that is read.
-/
import Derived.Test.YtfdckhnhancbdaaBe
import Derived.Test.YtfdckhnhancbdaaWzc
import Derived.Test.YtfdckhnhancbdaaAv

namespace Go.Proofs.Ytfdckhnhancbdaa
open Go.RowKit
attribute [local go_sem ↓] Go.wp_at_zero Go.wp_at_succ

/-- What is left, values in one another that deep at most. -/
def leftF : Nat → Vl → Int → Nat → Int
  | 0, _, _, _ => 0
  | d + 1, v, n, dp => if 100 < dp then -1 else v.l.foldl (fun m x => if 0 ≤ m then leftF d x m (dp + 1) else m) (n - 1 - (v.n.length : Int) - (v.s.length : Int))
theorem fold_neg (f : Vl → Int → Int) : ∀ (l : List Vl) (m : Int), m < 0 → l.foldl (fun m x => if 0 ≤ m then f x m else m) m = m
  | [], _, _ => rfl
  | x :: l, m, h => by
    rw [List.foldl_cons, if_neg (by omega)]
    exact fold_neg f l m h
theorem fold_take (f : Vl → Int → Int) (l : List Vl) (m : Int) {j : Nat} (h : j < l.length) : (l.take (j + 1)).foldl (fun m x => if 0 ≤ m then f x m else m) m = (if 0 ≤ (l.take j).foldl (fun m x => if 0 ≤ m then f x m else m) m then f l[j] ((l.take j).foldl (fun m x => if 0 ≤ m then f x m else m) m) else (l.take j).foldl (fun m x => if 0 ≤ m then f x m else m) m) := by
  rw [List.take_succ_eq_append_getElem h, List.foldl_append]
  rfl
theorem fold_end (f : Vl → Int → Int) (l : List Vl) (m : Int) (j : Nat) (h : (l.take j).foldl (fun m x => if 0 ≤ m then f x m else m) m < 0) : l.foldl (fun m x => if 0 ≤ m then f x m else m) m = (l.take j).foldl (fun m x => if 0 ≤ m then f x m else m) m := by
  have e : l.foldl (fun m x => if 0 ≤ m then f x m else m) m = (l.take j ++ l.drop j).foldl (fun m x => if 0 ≤ m then f x m else m) m := by rw [List.take_append_drop]
  rw [e, List.foldl_append, fold_neg f _ _ h]
set_option maxHeartbeats 8000000 in
set_option maxRecDepth 100000 in
theorem left_d (d : Nat) : ∀ (v : Vl) (n : Int) (dp : Nat) (w : World) (B : Nat) (nA : Option Addr) (nc : Nat) (sA : Option Addr) (sc : Nat) (lA : Option Addr) (lc : Nat), v.depth ≤ d → 0 ≤ n → n ≤ 3000000 → dp ≤ 101 → v.tot ≤ 1100000 → B ≤ w.heap.size → VB w B v nA nc sA sc lA lc →
    Calls Try.prog 56 #[.agg #[.int .i64 v.t, .slice nA v.n.length nc, .slice sA v.s.length sc, .slice lA v.l.length lc], .int .i64 n, .int .i64 (dp : Int)] w fun e w' => (e = .returned (.int .i64 (leftF d v n dp)) ∧ -2400000 ≤ leftF d v n dp ∧ leftF d v n dp ≤ 3000000) ∧ w.grownBy w' none := by
  induction d with
  | zero => intro v; intros; rw [Vl.depth_def] at *; omega
  | succ d ih =>
    intro v n dp w B nA nc sA sc lA lc hd hn0 hn1 hdp ht hB h
    obtain ⟨l1, l2, l3, l4⟩ := Vl.lens v ht
    obtain ⟨wa, hwa⟩ : ∃ wa, wa = w.alloc (.cells #[.int .i64 v.t, .slice nA v.n.length nc, .slice sA v.s.length sc, .slice lA v.l.length lc] 26) := ⟨_, rfl⟩
    have hg : w.grownBy wa none := by rw [hwa]; exact gb_alloc (gb_refl w none) _
    have hc := C4.box w (.int .i64 v.t) (.slice nA v.n.length nc) (.slice sA v.s.length sc) (.slice lA v.l.length lc) 26
    rw [← hwa] at hc
    have b1 : wa.cell? ⟨w.heap.size, 1, none⟩ = some (.slice nA v.n.length nc) := hc.c1
    have b2 : wa.cell? ⟨w.heap.size, 2, none⟩ = some (.slice sA v.s.length sc) := hc.c2
    have b3 : wa.cell? ⟨w.heap.size, 3, none⟩ = some (.slice lA v.l.length lc) := hc.c3
    have hbw := Nat.le_trans hB hg.size
    have HV := hide (h.gb hg hB)
    have HBW := hide hbw
    have HG := hide hg
    have HWE := hide hwa
    have IH := hide ih
    have HDD := hide hd
    have HTT := hide ht
    have HLL := hide (show v.n.length ≤ 1100000 ∧ v.s.length ≤ 1100000 ∧ v.l.length ≤ 1100000 by omega)
    obtain ⟨n1, hn⟩ : ∃ n1, n - 1 - (v.n.length : Int) - (v.s.length : Int) = n1 := ⟨_, rfl⟩
    have HN := hide hn
    have HN0 : Hid (-2400000 ≤ n1 ∧ n1 ≤ 3000000) := hide (by have := HLL.out; omega)
    have hk1 : v.n.length ≤ 1100000 := HLL.out.1
    have hk2 : v.s.length ≤ 1100000 := HLL.out.2.1
    obtain ⟨fo, hfo⟩ : ∃ fo : Nat → Int, fo = fun j => (v.l.take j).foldl (fun m x => if 0 ≤ m then leftF d x m (dp + 1) else m) n1 := ⟨_, rfl⟩
    have hf0 : fo 0 = n1 := by rw [hfo]; rfl
    have hfs : ∀ (j : Nat) (h : j < v.l.length), fo (j + 1) = if 0 ≤ fo j then leftF d v.l[j] (fo j) (dp + 1) else fo j := fun j h => by rw [hfo]; exact fold_take (fun x m => leftF d x m (dp + 1)) v.l n1 h
    have hfe : ∀ j, ¬ 100 < dp → (fo j < 0 ∨ v.l.length ≤ j) → leftF (d + 1) v n dp = fo j := fun j hdp hj => by
      show (if 100 < dp then -1 else v.l.foldl (fun m x => if 0 ≤ m then leftF d x m (dp + 1) else m) (n - 1 - (v.n.length : Int) - (v.s.length : Int))) = fo j
      rw [if_neg hdp, hn]
      rcases hj with h | h
      · rw [hfo] at h ⊢
        exact fold_end (fun x m => leftF d x m (dp + 1)) v.l n1 j h
      · rw [hfo]
        show _ = (v.l.take j).foldl _ n1
        rw [List.take_of_length_le h]
    have HF0 := hide hf0
    have HFS := hide hfs
    have HFE := hide hfe
    clear hfo hf0 hfs hfe
    clear ih hd ht hB h hg hc hbw hn
    by_cases hdeep : 100 < dp
    · have HE := hide (show leftF (d + 1) v n dp = -1 from if_pos hdeep)
      have hd1 : (100 : Int) < (dp : Int) := by omega
      rw [hwa] at b1 b2
      clear hwa b3 hdeep
      go_enter Try.func56, Try.ntmps56
      go_wp2_with fail
      rw [← HWE.out]
      go_ret
      rw [HE.out]
      exact ⟨⟨rfl, by decide, by decide⟩, HG.out⟩
    · have hd1 : ¬ (100 : Int) < (dp : Int) := by omega
      have hdq : dp ≤ 100 := by omega
      have HND := hide hdeep
      rw [hwa] at b1 b2
      clear hwa hdeep
      go_enter Try.func56, Try.ntmps56
      go_wp2_with fail
      rw [← HWE.out]
      go_loopw [7, 1] (fun i m wr => ∃ (j : Nat) (q : Int), i = .int .i64 (j : Int) ∧ j ≤ v.l.length ∧ m = .int .i64 q ∧ fo j = q ∧ -2400000 ≤ q ∧ q ≤ 3000000 ∧ wa.grownBy wr none) (fun i _ _ => v.l.length - (intOf i).toNat)
      case atStart => exact ⟨0, n1, rfl, Nat.zero_le _, by rw [← HN.out], HF0.out, HN0.out.1, HN0.out.2, gb_refl wa none⟩
      case round =>
        obtain ⟨j, q, rfl, hj, rfl, hfq, hq0, hq1, hgr⟩ := hrel
        have HFQ := hide hfq
        clear hfq
        have b3 := cell_gb b3 hgr
        have hjl : j ≤ 1100000 := by have := HLL.out; omega
        by_cases hlt : j < v.l.length
        · have hlt1 : (j : Int) < (v.l.length : Int) := by omega
          by_cases hqq : 0 ≤ q
          · obtain ⟨y, o, xA, xc, yA, yc, zA, zc, rfl, hqB, hc4, hvb⟩ := HV.out.l.at_ hlt
            obtain ⟨d0, d1, d2, d3⟩ := hc4.gb hgr
            have HREC := hide (IH.out v.l[j] q (dp + 1) wr B xA xc yA yc zA zc (Vl.depth_part HDD.out (List.getElem_mem hlt)) hqq hq1 (by omega) (Vl.tot_part HTT.out (List.getElem_mem hlt)) (Nat.le_trans HBW.out hgr.size) (hvb.gb hgr HBW.out))
            rw [show (((dp + 1 : Nat)) : Int) = (dp : Int) + 1 by omega] at HREC
            have HX := hide (show fo (j + 1) = leftF d v.l[j] q (dp + 1) by rw [HFS.out j hlt, HFQ.out, if_pos hqq])
            have HGW := hide hgr
            have hdl : (dp : Int) ≤ 100 := by omega
            clear hc4 hvb hgr
            go_wp2_with (go_at_call 56; refine HREC.out.mono ?_; rintro e w1 ⟨⟨rfl, hm0, hm1⟩, hg1⟩; have HG1 := hide hg1; have HM := hide (And.intro hm0 hm1); clear hg1 hm0 hm1)
            go_roundw
            case rel => exact ⟨j + 1, _, by go_num, by omega, rfl, HX.out, HM.out.1, HM.out.2, gb_trans HGW.out HG1.out (.inl rfl)⟩
            case measure => simp [intOf]; omega
          · have HEE := hide (HFE.out j HND.out (.inl (by rw [HFQ.out]; omega)))
            have HQ := hide (And.intro hq0 hq1)
            have HGW := hide hgr
            clear hgr hq0 hq1
            go_wp2_with fail
            go_ret
            rw [HEE.out, HFQ.out]
            exact ⟨⟨rfl, HQ.out⟩, gb_trans HG.out HGW.out (.inl rfl)⟩
        · have hlt1 : ¬ (j : Int) < (v.l.length : Int) := by omega
          have HEE := hide (HFE.out j HND.out (.inr (by omega)))
          have HQ := hide (And.intro hq0 hq1)
          have HGW := hide hgr
          clear hgr hq0 hq1
          go_wp2_with fail
          go_ret
          rw [HEE.out, HFQ.out]
          exact ⟨⟨rfl, HQ.out⟩, gb_trans HG.out HGW.out (.inl rfl)⟩
set_option maxHeartbeats 2000000 in
set_option maxRecDepth 100000 in
theorem within_any (v : Vl) (w : World) (B : Nat) (nA : Option Addr) (nc : Nat) (sA : Option Addr) (sc : Nat) (lA : Option Addr) (lc : Nat) (ht : v.tot ≤ 1100000) (hB : B ≤ w.heap.size) (h : VB w B v nA nc sA sc lA lc) :
    Calls Try.prog 29 #[.agg #[.int .i64 v.t, .slice nA v.n.length nc, .slice sA v.s.length sc, .slice lA v.l.length lc], .int .i64 2400] w fun e w' => e = .returned (.bool (decide (0 ≤ leftF v.depth v 2400 0))) ∧ w.grownBy w' none := by
  obtain ⟨wa, hwa⟩ : ∃ wa, wa = w.alloc (.cells #[.int .i64 v.t, .slice nA v.n.length nc, .slice sA v.s.length sc, .slice lA v.l.length lc] 26) := ⟨_, rfl⟩
  have hg : w.grownBy wa none := by rw [hwa]; exact gb_alloc (gb_refl w none) _
  have hc := C4.box w (.int .i64 v.t) (.slice nA v.n.length nc) (.slice sA v.s.length sc) (.slice lA v.l.length lc) 26
  have b0 : (w.alloc (.cells #[.int .i64 v.t, .slice nA v.n.length nc, .slice sA v.s.length sc, .slice lA v.l.length lc] 26)).cell? ⟨w.heap.size, 0, none⟩ = some (.int .i64 v.t) := hc.c0
  have b1 : (w.alloc (.cells #[.int .i64 v.t, .slice nA v.n.length nc, .slice sA v.s.length sc, .slice lA v.l.length lc] 26)).cell? ⟨w.heap.size, 1, none⟩ = some (.slice nA v.n.length nc) := hc.c1
  have b2 : (w.alloc (.cells #[.int .i64 v.t, .slice nA v.n.length nc, .slice sA v.s.length sc, .slice lA v.l.length lc] 26)).cell? ⟨w.heap.size, 2, none⟩ = some (.slice sA v.s.length sc) := hc.c2
  have b3 : (w.alloc (.cells #[.int .i64 v.t, .slice nA v.n.length nc, .slice sA v.s.length sc, .slice lA v.l.length lc] 26)).cell? ⟨w.heap.size, 3, none⟩ = some (.slice lA v.l.length lc) := hc.c3
  have HL := hide (left_d v.depth v 2400 0 wa B nA nc sA sc lA lc (Nat.le_refl _) (by decide) (by decide) (by decide) ht (Nat.le_trans hB hg.size) (h.gb hg hB))
  rw [hwa] at HL
  obtain ⟨m, hm⟩ : ∃ m, leftF v.depth v 2400 0 = m := ⟨_, rfl⟩
  rw [hm] at HL ⊢
  have HG := hide hg
  have HWE := hide hwa
  clear ht hB h hg hwa hc hm
  go_enter Try.func29, Try.ntmps29
  go_wp2_with (go_at_call 56; refine HL.out.mono ?_; rintro e w1 ⟨⟨rfl, hm0, hm1⟩, hg1⟩; rw [← HWE.out] at hg1; have HG1 := hide hg1; clear hg1)
  all_goals (go_ret; exact ⟨rfl, gb_trans HG.out HG1.out (.inl rfl)⟩)
end Go.Proofs.Ytfdckhnhancbdaa

/- The law's small. -/
namespace Go.Proofs.Ytfdckhnhancbdaa
open Go.RowKit
attribute [local go_sem ↓] Go.wp_at_zero Go.wp_at_succ

/-- One operation whose guard keeps it from being carried out. -/
theorem wpFacts_skipG {P : Program} {ops : Array Oper} {a0 : Act} {w0 : World} {L : (Nat → Fct) → Prop} {G : Nat → Fct} {o : Oper} {rest : List Oper} (g : Nat) (b : Bool) (t : Tmp) (hg : o.guard = some (g, b)) (ht : (ops[g]?).bind (·.dst) = some t) (hs : t < a0.tmps.size)
    (hG : ∀ v w, G t v w → v = .bool (!b))
    (hr : wpFacts P ops a0 w0 L rest (upd G o.dst (fun v _ => v = undef))) : wpFacts P ops a0 w0 L (o :: rest) G :=
  ⟨fun v _ => v = undef, ⟨fun _ _ _ h _ => h, fun a w hsz hw hl => .inr ⟨by
    have hm : t ∈ o.looksAt ops := by unfold Oper.looksAt; rw [hg]; simp only [ht]; simp
    have h1 := hG _ _ (hl t hm hs)
    have h2 : a.tmps[t]? = some (.bool (!b)) := by
      simp only [Act.eval, Array.getD_eq_getD_getElem?] at h1
      rw [← hsz] at hs
      rw [Array.getElem?_eq_getElem hs] at h1 ⊢
      simpa using h1
    cases b <;> simp [Region.wanted, hg, yielded, ht, h2], rfl⟩⟩, hr⟩
/-- What small asks of each. -/
def smallV (x : Vl) : Prop := x.n.length + x.s.length + x.l.length ≤ 300 ∧ checkV x = 0
def SmallP (l : List Vl) (w : World) (e : Ending) (w' : World) : Prop := (∃ b : Bool, e = .returned (.bool b) ∧ (b = true → ∀ x ∈ l, smallV x)) ∧ w.grownBy w' none
set_option maxHeartbeats 8000000 in
set_option maxRecDepth 100000 in
theorem small_any (l : List Vl) (A : Option Addr) (c B : Nat) (w : World) (hr : RdV w B A l) (hB : B ≤ w.heap.size) (hl : l.length ≤ 100) (ht : ∀ x ∈ l, x.tot ≤ 1100000) :
    Calls Try.prog 7 #[.slice A l.length c] w (SmallP l w) := by
  have HR := hide hr
  have HB := hide hB
  have HT := hide ht
  clear hr hB ht
  go_enter Try.func7, Try.ntmps7
  go_wp2_with fail
  go_loopw [3] (fun i wr => ∃ j : Nat, i = .int .i64 (j : Int) ∧ j ≤ l.length ∧ (∀ x ∈ l.take j, smallV x) ∧ w.grownBy wr none) (fun i _ => l.length - (intOf i).toNat)
  case atStart => exact ⟨0, rfl, Nat.zero_le _, by simp, gb_refl w none⟩
  case round =>
    obtain ⟨j, rfl, hj, hok, hg⟩ := hrel
    by_cases hlt : j < l.length
    · have hlt1 : (j : Int) < (l.length : Int) := by omega
      obtain ⟨q, o, xA, xc, yA, yc, zA, zc, rfl, hqB, hc4, hvb⟩ := HR.out.at_ hlt
      obtain ⟨d0, d1, d2, d3⟩ := hc4.gb hg
      have hti := HT.out _ (List.getElem_mem hlt)
      obtain ⟨l1, l2, l3, l4⟩ := Vl.lens l[j] hti
      have hbw := Nat.le_trans HB.out hg.size
      have HVB := hide (hvb.gb hg HB.out)
      have HWI := hide (fun (wx : World) (hx : wr.grownBy wx none) => within_any l[j] wx B xA xc yA yc zA zc hti (Nat.le_trans hbw hx.size) ((hvb.gb hg HB.out).gb hx hbw))
      have HCK := hide (fun (wx : World) (hx : wr.grownBy wx none) => rCheck_any l[j] wx B xA xc yA yc zA zc hti (Nat.le_trans hbw hx.size) ((hvb.gb hg HB.out).gb hx hbw))
      have HTK := hide (show l.take (j + 1) = l.take j ++ [l[j]] from List.take_succ_eq_append_getElem hlt)
      have HSV : Hid (l[j].n.length + l[j].s.length + l[j].l.length ≤ 300 → checkV l[j] = 0 → smallV l[j]) := hide (fun h1 h2 => ⟨h1, h2⟩)
      obtain ⟨ck, hck⟩ : ∃ k, checkV l[j] = k := ⟨_, rfl⟩
      rw [hck] at HCK HSV
      obtain ⟨bw, hbw2⟩ : ∃ k, decide (0 ≤ leftF l[j].depth l[j] 2400 0) = k := ⟨_, rfl⟩
      rw [hbw2] at HWI
      have HG := hide hg
      have HOK := hide hok
      have k1 : l[j].n.length ≤ 1100000 := by omega
      have k2 : l[j].s.length ≤ 1100000 := by omega
      have k3 : l[j].l.length ≤ 1100000 := by omega
      clear hc4 hvb hg hok hck hbw2 hbw hti HVB l1 l2 l3 l4
      by_cases hbig : l[j].n.length + l[j].s.length + l[j].l.length ≤ 300
      · have hb1 : decide ((300 : Int) < (l[j].n.length : Int) + (l[j].s.length : Int) + (l[j].l.length : Int)) = false := decide_eq_false (by omega)
        have hb2 : (l[j].n.length : Int) + (l[j].s.length : Int) + (l[j].l.length : Int) ≤ 300 := by omega
        have hw1 : IntKind.i64.wrap ((l[j].n.length : Int) + (l[j].s.length : Int)) = (l[j].n.length : Int) + (l[j].s.length : Int) := by rw [IntKind.wrap_i64]; omega
        have hw2 : IntKind.i64.wrap ((l[j].n.length : Int) + (l[j].s.length : Int) + (l[j].l.length : Int)) = (l[j].n.length : Int) + (l[j].s.length : Int) + (l[j].l.length : Int) := by rw [IntKind.wrap_i64]; omega
        have HBG := hide hbig
        clear hbig
        have hb3 : (300 : Int) < (l[j].n.length : Int) + (l[j].s.length : Int) + (l[j].l.length : Int) ↔ False := ⟨fun h => by omega, False.elim⟩
        go_upto_region 4 with fail
        cases bw
        · skip
          refine wp_region_facts' 36 (by kernel_rfl) (by kernel_rfl) ?_
          intro A O W L HA HO HW HL
          simp only [List.take_succ_cons, List.take_zero]
          have HS := hide (show A.tmps.size = 47 by rw [HA.out]; rfl)
          have HGW := hide (show wr.grownBy W none by rw [HW.out]; exact gb_drew (gb_refl wr none))
          have A0 := hide (show A.eval (.tmp 0) = .slice (some ⟨q, o, none⟩) l.length c by rw [HA.out]; rfl)
          have A3 := hide (show A.eval (.tmp 3) = .int .i64 (j : Int) by rw [HA.out]; rfl)
          -- slot 10
          refine wpFacts_lit (.slice (some ⟨q, o, none⟩) l.length c) rfl ?_ ?_
          · intro a wq hw hl
            have e0 : a.tmps[0]?.getD undef = .slice (some ⟨q, o, none⟩) l.length c := (hl 0 (by first | (simp [Op.operands]; done) | simp [Op.operands, Call.operands]) (by rw [HS.out]; decide)).trans A0.out
            clear hl
            go_simp
          -- slot 11
          refine wpFacts_lit (.int .i64 (j : Int)) rfl ?_ ?_
          · intro a wq hw hl
            have e3 : a.tmps[3]?.getD undef = .int .i64 (j : Int) := (hl 3 (by first | (simp [Op.operands]; done) | simp [Op.operands, Call.operands]) (by rw [HS.out]; decide)).trans A3.out
            clear hl
            go_simp
          -- slot 12
          refine wpFacts_lit (.pointer (some ⟨q, o + j * 4, none⟩)) rfl ?_ ?_
          · intro a wq hw hl
            have e10 : a.tmps[10]?.getD undef = .slice (some ⟨q, o, none⟩) l.length c := hl 10 (by first | (simp [Op.operands]; done) | simp [Op.operands, Call.operands]) (by rw [HS.out]; decide)
            have e11 : a.tmps[11]?.getD undef = .int .i64 (j : Int) := hl 11 (by first | (simp [Op.operands]; done) | simp [Op.operands, Call.operands]) (by rw [HS.out]; decide)
            clear hl
            go_simp
          -- slot 13
          refine wpFacts_lit (.pointer (some ⟨q, o + j * 4 + 1, none⟩)) rfl ?_ ?_
          · intro a wq hw hl
            have e12 : a.tmps[12]?.getD undef = .pointer (some ⟨q, o + j * 4, none⟩) := hl 12 (by first | (simp [Op.operands]; done) | simp [Op.operands, Call.operands]) (by rw [HS.out]; decide)
            clear hl
            go_simp
          -- slot 14
          refine wpFacts_lit (.slice xA l[j].n.length xc) rfl ?_ ?_
          · intro a wq hw hl
            have e13 : a.tmps[13]?.getD undef = .pointer (some ⟨q, o + j * 4 + 1, none⟩) := hl 13 (by first | (simp [Op.operands]; done) | simp [Op.operands, Call.operands]) (by rw [HS.out]; decide)
            have d1 := cell_gb d1 (gb_trans HGW.out hw (.inl rfl))
            clear hl
            go_simp
          -- slot 15
          refine wpFacts_lit (.int .i64 ((l[j].n.length : Nat) : Int)) rfl ?_ ?_
          · intro a wq hw hl
            have e14 : a.tmps[14]?.getD undef = .slice xA l[j].n.length xc := hl 14 (by first | (simp [Op.operands]; done) | simp [Op.operands, Call.operands]) (by rw [HS.out]; decide)
            clear hl
            go_simp
          -- slot 16
          refine wpFacts_lit (.slice (some ⟨q, o, none⟩) l.length c) rfl ?_ ?_
          · intro a wq hw hl
            have e0 : a.tmps[0]?.getD undef = .slice (some ⟨q, o, none⟩) l.length c := (hl 0 (by first | (simp [Op.operands]; done) | simp [Op.operands, Call.operands]) (by rw [HS.out]; decide)).trans A0.out
            clear hl
            go_simp
          -- slot 17
          refine wpFacts_lit (.int .i64 (j : Int)) rfl ?_ ?_
          · intro a wq hw hl
            have e3 : a.tmps[3]?.getD undef = .int .i64 (j : Int) := (hl 3 (by first | (simp [Op.operands]; done) | simp [Op.operands, Call.operands]) (by rw [HS.out]; decide)).trans A3.out
            clear hl
            go_simp
          -- slot 18
          refine wpFacts_lit (.pointer (some ⟨q, o + j * 4, none⟩)) rfl ?_ ?_
          · intro a wq hw hl
            have e16 : a.tmps[16]?.getD undef = .slice (some ⟨q, o, none⟩) l.length c := hl 16 (by first | (simp [Op.operands]; done) | simp [Op.operands, Call.operands]) (by rw [HS.out]; decide)
            have e17 : a.tmps[17]?.getD undef = .int .i64 (j : Int) := hl 17 (by first | (simp [Op.operands]; done) | simp [Op.operands, Call.operands]) (by rw [HS.out]; decide)
            clear hl
            go_simp
          -- slot 19
          refine wpFacts_lit (.pointer (some ⟨q, o + j * 4 + 2, none⟩)) rfl ?_ ?_
          · intro a wq hw hl
            have e18 : a.tmps[18]?.getD undef = .pointer (some ⟨q, o + j * 4, none⟩) := hl 18 (by first | (simp [Op.operands]; done) | simp [Op.operands, Call.operands]) (by rw [HS.out]; decide)
            clear hl
            go_simp
          -- slot 20
          refine wpFacts_lit (.slice yA l[j].s.length yc) rfl ?_ ?_
          · intro a wq hw hl
            have e19 : a.tmps[19]?.getD undef = .pointer (some ⟨q, o + j * 4 + 2, none⟩) := hl 19 (by first | (simp [Op.operands]; done) | simp [Op.operands, Call.operands]) (by rw [HS.out]; decide)
            have d2 := cell_gb d2 (gb_trans HGW.out hw (.inl rfl))
            clear hl
            go_simp
          -- slot 21
          refine wpFacts_lit (.int .i64 ((l[j].s.length : Nat) : Int)) rfl ?_ ?_
          · intro a wq hw hl
            have e20 : a.tmps[20]?.getD undef = .slice yA l[j].s.length yc := hl 20 (by first | (simp [Op.operands]; done) | simp [Op.operands, Call.operands]) (by rw [HS.out]; decide)
            clear hl
            go_simp
          -- slot 22
          refine wpFacts_lit (.int .i64 ((l[j].n.length : Int) + (l[j].s.length : Int))) rfl ?_ ?_
          · intro a wq hw hl
            have e15 : a.tmps[15]?.getD undef = .int .i64 ((l[j].n.length : Nat) : Int) := hl 15 (by first | (simp [Op.operands]; done) | simp [Op.operands, Call.operands]) (by rw [HS.out]; decide)
            have e21 : a.tmps[21]?.getD undef = .int .i64 ((l[j].s.length : Nat) : Int) := hl 21 (by first | (simp [Op.operands]; done) | simp [Op.operands, Call.operands]) (by rw [HS.out]; decide)
            clear hl
            go_simp
          -- slot 23
          refine wpFacts_lit (.slice (some ⟨q, o, none⟩) l.length c) rfl ?_ ?_
          · intro a wq hw hl
            have e0 : a.tmps[0]?.getD undef = .slice (some ⟨q, o, none⟩) l.length c := (hl 0 (by first | (simp [Op.operands]; done) | simp [Op.operands, Call.operands]) (by rw [HS.out]; decide)).trans A0.out
            clear hl
            go_simp
          -- slot 24
          refine wpFacts_lit (.int .i64 (j : Int)) rfl ?_ ?_
          · intro a wq hw hl
            have e3 : a.tmps[3]?.getD undef = .int .i64 (j : Int) := (hl 3 (by first | (simp [Op.operands]; done) | simp [Op.operands, Call.operands]) (by rw [HS.out]; decide)).trans A3.out
            clear hl
            go_simp
          -- slot 25
          refine wpFacts_lit (.pointer (some ⟨q, o + j * 4, none⟩)) rfl ?_ ?_
          · intro a wq hw hl
            have e23 : a.tmps[23]?.getD undef = .slice (some ⟨q, o, none⟩) l.length c := hl 23 (by first | (simp [Op.operands]; done) | simp [Op.operands, Call.operands]) (by rw [HS.out]; decide)
            have e24 : a.tmps[24]?.getD undef = .int .i64 (j : Int) := hl 24 (by first | (simp [Op.operands]; done) | simp [Op.operands, Call.operands]) (by rw [HS.out]; decide)
            clear hl
            go_simp
          -- slot 26
          refine wpFacts_lit (.pointer (some ⟨q, o + j * 4 + 3, none⟩)) rfl ?_ ?_
          · intro a wq hw hl
            have e25 : a.tmps[25]?.getD undef = .pointer (some ⟨q, o + j * 4, none⟩) := hl 25 (by first | (simp [Op.operands]; done) | simp [Op.operands, Call.operands]) (by rw [HS.out]; decide)
            clear hl
            go_simp
          -- slot 27
          refine wpFacts_lit (.slice zA l[j].l.length zc) rfl ?_ ?_
          · intro a wq hw hl
            have e26 : a.tmps[26]?.getD undef = .pointer (some ⟨q, o + j * 4 + 3, none⟩) := hl 26 (by first | (simp [Op.operands]; done) | simp [Op.operands, Call.operands]) (by rw [HS.out]; decide)
            have d3 := cell_gb d3 (gb_trans HGW.out hw (.inl rfl))
            clear hl
            go_simp
          -- slot 28
          refine wpFacts_lit (.int .i64 ((l[j].l.length : Nat) : Int)) rfl ?_ ?_
          · intro a wq hw hl
            have e27 : a.tmps[27]?.getD undef = .slice zA l[j].l.length zc := hl 27 (by first | (simp [Op.operands]; done) | simp [Op.operands, Call.operands]) (by rw [HS.out]; decide)
            clear hl
            go_simp
          -- slot 29
          refine wpFacts_lit (.int .i64 ((l[j].n.length : Int) + (l[j].s.length : Int) + (l[j].l.length : Int))) rfl ?_ ?_
          · intro a wq hw hl
            have e22 : a.tmps[22]?.getD undef = .int .i64 ((l[j].n.length : Int) + (l[j].s.length : Int)) := hl 22 (by first | (simp [Op.operands]; done) | simp [Op.operands, Call.operands]) (by rw [HS.out]; decide)
            have e28 : a.tmps[28]?.getD undef = .int .i64 ((l[j].l.length : Nat) : Int) := hl 28 (by first | (simp [Op.operands]; done) | simp [Op.operands, Call.operands]) (by rw [HS.out]; decide)
            clear hl
            go_simp
          -- slot 30
          refine wpFacts_lit (.bool false) rfl ?_ ?_
          · intro a wq hw hl
            have e29 : a.tmps[29]?.getD undef = .int .i64 ((l[j].n.length : Int) + (l[j].s.length : Int) + (l[j].l.length : Int)) := hl 29 (by first | (simp [Op.operands]; done) | simp [Op.operands, Call.operands]) (by rw [HS.out]; decide)
            clear hl
            go_simp
          -- slot 31
          refine wpFacts_lit (.bool false) rfl ?_ ?_
          · intro a wq hw hl
            have e30 : a.tmps[30]?.getD undef = .bool false := hl 30 (by first | (simp [Op.operands]; done) | simp [Op.operands, Call.operands]) (by rw [HS.out]; decide)
            clear hl
            go_simp
          -- slot 32
          refine wpFacts_litG (.slice (some ⟨q, o, none⟩) l.length c) 21 false 31 rfl (by rw [HO.out]; rfl) (by rw [HS.out]; decide) (fun _ _ h => h) ?_ ?_
          · intro a wq hw hl
            have e0 : a.tmps[0]?.getD undef = .slice (some ⟨q, o, none⟩) l.length c := (hl 0 (by first | (simp [Op.operands]; done) | simp [Op.operands, Call.operands]) (by rw [HS.out]; decide)).trans A0.out
            clear hl
            go_simp
          -- slot 33
          refine wpFacts_litG (.int .i64 (j : Int)) 21 false 31 rfl (by rw [HO.out]; rfl) (by rw [HS.out]; decide) (fun _ _ h => h) ?_ ?_
          · intro a wq hw hl
            have e3 : a.tmps[3]?.getD undef = .int .i64 (j : Int) := (hl 3 (by first | (simp [Op.operands]; done) | simp [Op.operands, Call.operands]) (by rw [HS.out]; decide)).trans A3.out
            clear hl
            go_simp
          -- slot 34
          refine wpFacts_litG (.pointer (some ⟨q, o + j * 4, none⟩)) 21 false 31 rfl (by rw [HO.out]; rfl) (by rw [HS.out]; decide) (fun _ _ h => h) ?_ ?_
          · intro a wq hw hl
            have e32 : a.tmps[32]?.getD undef = .slice (some ⟨q, o, none⟩) l.length c := hl 32 (by first | (simp [Op.operands]; done) | simp [Op.operands, Call.operands]) (by rw [HS.out]; decide)
            have e33 : a.tmps[33]?.getD undef = .int .i64 (j : Int) := hl 33 (by first | (simp [Op.operands]; done) | simp [Op.operands, Call.operands]) (by rw [HS.out]; decide)
            clear hl
            go_simp
          -- slot 35
          refine wpFacts_litG (.agg #[.int .i64 l[j].t, .slice xA l[j].n.length xc, .slice yA l[j].s.length yc, .slice zA l[j].l.length zc]) 21 false 31 rfl (by rw [HO.out]; rfl) (by rw [HS.out]; decide) (fun _ _ h => h) ?_ ?_
          · intro a wq hw hl
            have e34 : a.tmps[34]?.getD undef = .pointer (some ⟨q, o + j * 4, none⟩) := hl 34 (by first | (simp [Op.operands]; done) | simp [Op.operands, Call.operands]) (by rw [HS.out]; decide)
            have d0 := cell_gb d0 (gb_trans HGW.out hw (.inl rfl))
            have d1 := cell_gb d1 (gb_trans HGW.out hw (.inl rfl))
            have d2 := cell_gb d2 (gb_trans HGW.out hw (.inl rfl))
            have d3 := cell_gb d3 (gb_trans HGW.out hw (.inl rfl))
            clear hl
            go_simp
          -- slot 36
          refine wpFacts_stepG (fun vq _ => vq = .bool false) 21 false 31 rfl (by rw [HO.out]; rfl) (by rw [HS.out]; decide) (fun _ _ h => h) (Lit.up _) ?_ ?_
          · intro a wq hw hl
            have e35 : a.tmps[35]?.getD undef = .agg #[.int .i64 l[j].t, .slice xA l[j].n.length xc, .slice yA l[j].s.length yc, .slice zA l[j].l.length zc] := hl 35 (by first | (simp [Op.operands]; done) | simp [Op.operands, Call.operands]) (by rw [HS.out]; decide)
            clear hl
            go_simp
            exact gUpon_lit (HWI.out wq (gb_trans HGW.out hw (.inl rfl)))
          -- slot 37
          refine wpFacts_litG (.bool true) 21 false 31 rfl (by rw [HO.out]; rfl) (by rw [HS.out]; decide) (fun _ _ h => h) ?_ ?_
          · intro a wq hw hl
            have e36 : a.tmps[36]?.getD undef = .bool false := hl 36 (by first | (simp [Op.operands]; done) | simp [Op.operands, Call.operands]) (by rw [HS.out]; decide)
            clear hl
            go_simp
          -- slot 38
          refine wpFacts_lit (.bool true) rfl ?_ ?_
          · intro a wq hw hl
            have e31 : a.tmps[31]?.getD undef = .bool false := hl 31 (by first | (simp [Op.operands]; done) | simp [Op.operands, Call.operands]) (by rw [HS.out]; decide)
            have e37 : a.tmps[37]?.getD undef = .bool true := hl 37 (by first | (simp [Op.operands]; done) | simp [Op.operands, Call.operands]) (by rw [HS.out]; decide)
            clear hl
            go_simp
          -- slot 39
          refine wpFacts_lit (.bool true) rfl ?_ ?_
          · intro a wq hw hl
            have e38 : a.tmps[38]?.getD undef = .bool true := hl 38 (by first | (simp [Op.operands]; done) | simp [Op.operands, Call.operands]) (by rw [HS.out]; decide)
            clear hl
            go_simp
          -- slot 40
          refine wpFacts_skipG 29 false 39 rfl (by rw [HO.out]; rfl) (by rw [HS.out]; decide) (fun _ _ h => h) ?_
          -- slot 41
          refine wpFacts_skipG 29 false 39 rfl (by rw [HO.out]; rfl) (by rw [HS.out]; decide) (fun _ _ h => h) ?_
          -- slot 42
          refine wpFacts_skipG 29 false 39 rfl (by rw [HO.out]; rfl) (by rw [HS.out]; decide) (fun _ _ h => h) ?_
          -- slot 43
          refine wpFacts_skipG 29 false 39 rfl (by rw [HO.out]; rfl) (by rw [HS.out]; decide) (fun _ _ h => h) ?_
          -- slot 44
          refine wpFacts_skipG 29 false 39 rfl (by rw [HO.out]; rfl) (by rw [HS.out]; decide) (fun _ _ h => h) ?_
          -- slot 45
          refine wpFacts_skipG 29 false 39 rfl (by rw [HO.out]; rfl) (by rw [HS.out]; decide) (fun _ _ h => h) ?_
          refine HL.out _ (fun a' wz hc => ?_)
          have e39 : a'.eval (.tmp 39) = .bool true := hc.fact 39 (by rw [HS.out]; decide)
          have hgwz := gb_trans HGW.out hc.grown (.inl rfl)
          have hfr := hc.frame [10, 11, 12, 13, 14, 15, 16, 17, 18, 19, 20, 21, 22, 23, 24, 25, 26, 27, 28, 29, 30, 31, 32, 33, 34, 35, 36, 37, 38, 39, 40, 41, 42, 43, 44, 45, 46] (by rw [HO.out]; kernel_rfl)
          rw [hfr]
          clear hfr hc
          rw [HA.out]
          clear HA HO HL HW HS HGW A0 A3
          clear A O W L
          simp only [List.drop_succ_cons, List.drop_zero, List.foldl_cons, List.foldl_nil, Act.put, List.setIfInBounds_toArray, List.set_cons_succ, List.set_cons_zero]
          rw [e39]
          generalize a'.eval (.tmp 10) = x10
          generalize a'.eval (.tmp 11) = x11
          generalize a'.eval (.tmp 12) = x12
          generalize a'.eval (.tmp 13) = x13
          generalize a'.eval (.tmp 14) = x14
          generalize a'.eval (.tmp 15) = x15
          generalize a'.eval (.tmp 16) = x16
          generalize a'.eval (.tmp 17) = x17
          generalize a'.eval (.tmp 18) = x18
          generalize a'.eval (.tmp 19) = x19
          generalize a'.eval (.tmp 20) = x20
          generalize a'.eval (.tmp 21) = x21
          generalize a'.eval (.tmp 22) = x22
          generalize a'.eval (.tmp 23) = x23
          generalize a'.eval (.tmp 24) = x24
          generalize a'.eval (.tmp 25) = x25
          generalize a'.eval (.tmp 26) = x26
          generalize a'.eval (.tmp 27) = x27
          generalize a'.eval (.tmp 28) = x28
          generalize a'.eval (.tmp 29) = x29
          generalize a'.eval (.tmp 30) = x30
          generalize a'.eval (.tmp 31) = x31
          generalize a'.eval (.tmp 32) = x32
          generalize a'.eval (.tmp 33) = x33
          generalize a'.eval (.tmp 34) = x34
          generalize a'.eval (.tmp 35) = x35
          generalize a'.eval (.tmp 36) = x36
          generalize a'.eval (.tmp 37) = x37
          generalize a'.eval (.tmp 38) = x38
          generalize a'.eval (.tmp 40) = x40
          generalize a'.eval (.tmp 41) = x41
          generalize a'.eval (.tmp 42) = x42
          generalize a'.eval (.tmp 43) = x43
          generalize a'.eval (.tmp 44) = x44
          generalize a'.eval (.tmp 45) = x45
          generalize a'.eval (.tmp 46) = x46
          clear e39
          clear a'
          go_wp2_with fail
          go_ret
          exact ⟨⟨false, rfl, fun h => by cases h⟩, gb_trans HG.out hgwz (.inl rfl)⟩
        · by_cases hk0 : ck = 0
          · subst hk0
            refine wp_region_facts' 36 (by kernel_rfl) (by kernel_rfl) ?_
            intro A O W L HA HO HW HL
            simp only [List.take_succ_cons, List.take_zero]
            have HS := hide (show A.tmps.size = 47 by rw [HA.out]; rfl)
            have HGW := hide (show wr.grownBy W none by rw [HW.out]; exact gb_drew (gb_refl wr none))
            have A0 := hide (show A.eval (.tmp 0) = .slice (some ⟨q, o, none⟩) l.length c by rw [HA.out]; rfl)
            have A3 := hide (show A.eval (.tmp 3) = .int .i64 (j : Int) by rw [HA.out]; rfl)
            -- slot 10
            refine wpFacts_lit (.slice (some ⟨q, o, none⟩) l.length c) rfl ?_ ?_
            · intro a wq hw hl
              have e0 : a.tmps[0]?.getD undef = .slice (some ⟨q, o, none⟩) l.length c := (hl 0 (by first | (simp [Op.operands]; done) | simp [Op.operands, Call.operands]) (by rw [HS.out]; decide)).trans A0.out
              clear hl
              go_simp
            -- slot 11
            refine wpFacts_lit (.int .i64 (j : Int)) rfl ?_ ?_
            · intro a wq hw hl
              have e3 : a.tmps[3]?.getD undef = .int .i64 (j : Int) := (hl 3 (by first | (simp [Op.operands]; done) | simp [Op.operands, Call.operands]) (by rw [HS.out]; decide)).trans A3.out
              clear hl
              go_simp
            -- slot 12
            refine wpFacts_lit (.pointer (some ⟨q, o + j * 4, none⟩)) rfl ?_ ?_
            · intro a wq hw hl
              have e10 : a.tmps[10]?.getD undef = .slice (some ⟨q, o, none⟩) l.length c := hl 10 (by first | (simp [Op.operands]; done) | simp [Op.operands, Call.operands]) (by rw [HS.out]; decide)
              have e11 : a.tmps[11]?.getD undef = .int .i64 (j : Int) := hl 11 (by first | (simp [Op.operands]; done) | simp [Op.operands, Call.operands]) (by rw [HS.out]; decide)
              clear hl
              go_simp
            -- slot 13
            refine wpFacts_lit (.pointer (some ⟨q, o + j * 4 + 1, none⟩)) rfl ?_ ?_
            · intro a wq hw hl
              have e12 : a.tmps[12]?.getD undef = .pointer (some ⟨q, o + j * 4, none⟩) := hl 12 (by first | (simp [Op.operands]; done) | simp [Op.operands, Call.operands]) (by rw [HS.out]; decide)
              clear hl
              go_simp
            -- slot 14
            refine wpFacts_lit (.slice xA l[j].n.length xc) rfl ?_ ?_
            · intro a wq hw hl
              have e13 : a.tmps[13]?.getD undef = .pointer (some ⟨q, o + j * 4 + 1, none⟩) := hl 13 (by first | (simp [Op.operands]; done) | simp [Op.operands, Call.operands]) (by rw [HS.out]; decide)
              have d1 := cell_gb d1 (gb_trans HGW.out hw (.inl rfl))
              clear hl
              go_simp
            -- slot 15
            refine wpFacts_lit (.int .i64 ((l[j].n.length : Nat) : Int)) rfl ?_ ?_
            · intro a wq hw hl
              have e14 : a.tmps[14]?.getD undef = .slice xA l[j].n.length xc := hl 14 (by first | (simp [Op.operands]; done) | simp [Op.operands, Call.operands]) (by rw [HS.out]; decide)
              clear hl
              go_simp
            -- slot 16
            refine wpFacts_lit (.slice (some ⟨q, o, none⟩) l.length c) rfl ?_ ?_
            · intro a wq hw hl
              have e0 : a.tmps[0]?.getD undef = .slice (some ⟨q, o, none⟩) l.length c := (hl 0 (by first | (simp [Op.operands]; done) | simp [Op.operands, Call.operands]) (by rw [HS.out]; decide)).trans A0.out
              clear hl
              go_simp
            -- slot 17
            refine wpFacts_lit (.int .i64 (j : Int)) rfl ?_ ?_
            · intro a wq hw hl
              have e3 : a.tmps[3]?.getD undef = .int .i64 (j : Int) := (hl 3 (by first | (simp [Op.operands]; done) | simp [Op.operands, Call.operands]) (by rw [HS.out]; decide)).trans A3.out
              clear hl
              go_simp
            -- slot 18
            refine wpFacts_lit (.pointer (some ⟨q, o + j * 4, none⟩)) rfl ?_ ?_
            · intro a wq hw hl
              have e16 : a.tmps[16]?.getD undef = .slice (some ⟨q, o, none⟩) l.length c := hl 16 (by first | (simp [Op.operands]; done) | simp [Op.operands, Call.operands]) (by rw [HS.out]; decide)
              have e17 : a.tmps[17]?.getD undef = .int .i64 (j : Int) := hl 17 (by first | (simp [Op.operands]; done) | simp [Op.operands, Call.operands]) (by rw [HS.out]; decide)
              clear hl
              go_simp
            -- slot 19
            refine wpFacts_lit (.pointer (some ⟨q, o + j * 4 + 2, none⟩)) rfl ?_ ?_
            · intro a wq hw hl
              have e18 : a.tmps[18]?.getD undef = .pointer (some ⟨q, o + j * 4, none⟩) := hl 18 (by first | (simp [Op.operands]; done) | simp [Op.operands, Call.operands]) (by rw [HS.out]; decide)
              clear hl
              go_simp
            -- slot 20
            refine wpFacts_lit (.slice yA l[j].s.length yc) rfl ?_ ?_
            · intro a wq hw hl
              have e19 : a.tmps[19]?.getD undef = .pointer (some ⟨q, o + j * 4 + 2, none⟩) := hl 19 (by first | (simp [Op.operands]; done) | simp [Op.operands, Call.operands]) (by rw [HS.out]; decide)
              have d2 := cell_gb d2 (gb_trans HGW.out hw (.inl rfl))
              clear hl
              go_simp
            -- slot 21
            refine wpFacts_lit (.int .i64 ((l[j].s.length : Nat) : Int)) rfl ?_ ?_
            · intro a wq hw hl
              have e20 : a.tmps[20]?.getD undef = .slice yA l[j].s.length yc := hl 20 (by first | (simp [Op.operands]; done) | simp [Op.operands, Call.operands]) (by rw [HS.out]; decide)
              clear hl
              go_simp
            -- slot 22
            refine wpFacts_lit (.int .i64 ((l[j].n.length : Int) + (l[j].s.length : Int))) rfl ?_ ?_
            · intro a wq hw hl
              have e15 : a.tmps[15]?.getD undef = .int .i64 ((l[j].n.length : Nat) : Int) := hl 15 (by first | (simp [Op.operands]; done) | simp [Op.operands, Call.operands]) (by rw [HS.out]; decide)
              have e21 : a.tmps[21]?.getD undef = .int .i64 ((l[j].s.length : Nat) : Int) := hl 21 (by first | (simp [Op.operands]; done) | simp [Op.operands, Call.operands]) (by rw [HS.out]; decide)
              clear hl
              go_simp
            -- slot 23
            refine wpFacts_lit (.slice (some ⟨q, o, none⟩) l.length c) rfl ?_ ?_
            · intro a wq hw hl
              have e0 : a.tmps[0]?.getD undef = .slice (some ⟨q, o, none⟩) l.length c := (hl 0 (by first | (simp [Op.operands]; done) | simp [Op.operands, Call.operands]) (by rw [HS.out]; decide)).trans A0.out
              clear hl
              go_simp
            -- slot 24
            refine wpFacts_lit (.int .i64 (j : Int)) rfl ?_ ?_
            · intro a wq hw hl
              have e3 : a.tmps[3]?.getD undef = .int .i64 (j : Int) := (hl 3 (by first | (simp [Op.operands]; done) | simp [Op.operands, Call.operands]) (by rw [HS.out]; decide)).trans A3.out
              clear hl
              go_simp
            -- slot 25
            refine wpFacts_lit (.pointer (some ⟨q, o + j * 4, none⟩)) rfl ?_ ?_
            · intro a wq hw hl
              have e23 : a.tmps[23]?.getD undef = .slice (some ⟨q, o, none⟩) l.length c := hl 23 (by first | (simp [Op.operands]; done) | simp [Op.operands, Call.operands]) (by rw [HS.out]; decide)
              have e24 : a.tmps[24]?.getD undef = .int .i64 (j : Int) := hl 24 (by first | (simp [Op.operands]; done) | simp [Op.operands, Call.operands]) (by rw [HS.out]; decide)
              clear hl
              go_simp
            -- slot 26
            refine wpFacts_lit (.pointer (some ⟨q, o + j * 4 + 3, none⟩)) rfl ?_ ?_
            · intro a wq hw hl
              have e25 : a.tmps[25]?.getD undef = .pointer (some ⟨q, o + j * 4, none⟩) := hl 25 (by first | (simp [Op.operands]; done) | simp [Op.operands, Call.operands]) (by rw [HS.out]; decide)
              clear hl
              go_simp
            -- slot 27
            refine wpFacts_lit (.slice zA l[j].l.length zc) rfl ?_ ?_
            · intro a wq hw hl
              have e26 : a.tmps[26]?.getD undef = .pointer (some ⟨q, o + j * 4 + 3, none⟩) := hl 26 (by first | (simp [Op.operands]; done) | simp [Op.operands, Call.operands]) (by rw [HS.out]; decide)
              have d3 := cell_gb d3 (gb_trans HGW.out hw (.inl rfl))
              clear hl
              go_simp
            -- slot 28
            refine wpFacts_lit (.int .i64 ((l[j].l.length : Nat) : Int)) rfl ?_ ?_
            · intro a wq hw hl
              have e27 : a.tmps[27]?.getD undef = .slice zA l[j].l.length zc := hl 27 (by first | (simp [Op.operands]; done) | simp [Op.operands, Call.operands]) (by rw [HS.out]; decide)
              clear hl
              go_simp
            -- slot 29
            refine wpFacts_lit (.int .i64 ((l[j].n.length : Int) + (l[j].s.length : Int) + (l[j].l.length : Int))) rfl ?_ ?_
            · intro a wq hw hl
              have e22 : a.tmps[22]?.getD undef = .int .i64 ((l[j].n.length : Int) + (l[j].s.length : Int)) := hl 22 (by first | (simp [Op.operands]; done) | simp [Op.operands, Call.operands]) (by rw [HS.out]; decide)
              have e28 : a.tmps[28]?.getD undef = .int .i64 ((l[j].l.length : Nat) : Int) := hl 28 (by first | (simp [Op.operands]; done) | simp [Op.operands, Call.operands]) (by rw [HS.out]; decide)
              clear hl
              go_simp
            -- slot 30
            refine wpFacts_lit (.bool false) rfl ?_ ?_
            · intro a wq hw hl
              have e29 : a.tmps[29]?.getD undef = .int .i64 ((l[j].n.length : Int) + (l[j].s.length : Int) + (l[j].l.length : Int)) := hl 29 (by first | (simp [Op.operands]; done) | simp [Op.operands, Call.operands]) (by rw [HS.out]; decide)
              clear hl
              go_simp
            -- slot 31
            refine wpFacts_lit (.bool false) rfl ?_ ?_
            · intro a wq hw hl
              have e30 : a.tmps[30]?.getD undef = .bool false := hl 30 (by first | (simp [Op.operands]; done) | simp [Op.operands, Call.operands]) (by rw [HS.out]; decide)
              clear hl
              go_simp
            -- slot 32
            refine wpFacts_litG (.slice (some ⟨q, o, none⟩) l.length c) 21 false 31 rfl (by rw [HO.out]; rfl) (by rw [HS.out]; decide) (fun _ _ h => h) ?_ ?_
            · intro a wq hw hl
              have e0 : a.tmps[0]?.getD undef = .slice (some ⟨q, o, none⟩) l.length c := (hl 0 (by first | (simp [Op.operands]; done) | simp [Op.operands, Call.operands]) (by rw [HS.out]; decide)).trans A0.out
              clear hl
              go_simp
            -- slot 33
            refine wpFacts_litG (.int .i64 (j : Int)) 21 false 31 rfl (by rw [HO.out]; rfl) (by rw [HS.out]; decide) (fun _ _ h => h) ?_ ?_
            · intro a wq hw hl
              have e3 : a.tmps[3]?.getD undef = .int .i64 (j : Int) := (hl 3 (by first | (simp [Op.operands]; done) | simp [Op.operands, Call.operands]) (by rw [HS.out]; decide)).trans A3.out
              clear hl
              go_simp
            -- slot 34
            refine wpFacts_litG (.pointer (some ⟨q, o + j * 4, none⟩)) 21 false 31 rfl (by rw [HO.out]; rfl) (by rw [HS.out]; decide) (fun _ _ h => h) ?_ ?_
            · intro a wq hw hl
              have e32 : a.tmps[32]?.getD undef = .slice (some ⟨q, o, none⟩) l.length c := hl 32 (by first | (simp [Op.operands]; done) | simp [Op.operands, Call.operands]) (by rw [HS.out]; decide)
              have e33 : a.tmps[33]?.getD undef = .int .i64 (j : Int) := hl 33 (by first | (simp [Op.operands]; done) | simp [Op.operands, Call.operands]) (by rw [HS.out]; decide)
              clear hl
              go_simp
            -- slot 35
            refine wpFacts_litG (.agg #[.int .i64 l[j].t, .slice xA l[j].n.length xc, .slice yA l[j].s.length yc, .slice zA l[j].l.length zc]) 21 false 31 rfl (by rw [HO.out]; rfl) (by rw [HS.out]; decide) (fun _ _ h => h) ?_ ?_
            · intro a wq hw hl
              have e34 : a.tmps[34]?.getD undef = .pointer (some ⟨q, o + j * 4, none⟩) := hl 34 (by first | (simp [Op.operands]; done) | simp [Op.operands, Call.operands]) (by rw [HS.out]; decide)
              have d0 := cell_gb d0 (gb_trans HGW.out hw (.inl rfl))
              have d1 := cell_gb d1 (gb_trans HGW.out hw (.inl rfl))
              have d2 := cell_gb d2 (gb_trans HGW.out hw (.inl rfl))
              have d3 := cell_gb d3 (gb_trans HGW.out hw (.inl rfl))
              clear hl
              go_simp
            -- slot 36
            refine wpFacts_stepG (fun vq _ => vq = .bool true) 21 false 31 rfl (by rw [HO.out]; rfl) (by rw [HS.out]; decide) (fun _ _ h => h) (Lit.up _) ?_ ?_
            · intro a wq hw hl
              have e35 : a.tmps[35]?.getD undef = .agg #[.int .i64 l[j].t, .slice xA l[j].n.length xc, .slice yA l[j].s.length yc, .slice zA l[j].l.length zc] := hl 35 (by first | (simp [Op.operands]; done) | simp [Op.operands, Call.operands]) (by rw [HS.out]; decide)
              clear hl
              go_simp
              exact gUpon_lit (HWI.out wq (gb_trans HGW.out hw (.inl rfl)))
            -- slot 37
            refine wpFacts_litG (.bool false) 21 false 31 rfl (by rw [HO.out]; rfl) (by rw [HS.out]; decide) (fun _ _ h => h) ?_ ?_
            · intro a wq hw hl
              have e36 : a.tmps[36]?.getD undef = .bool true := hl 36 (by first | (simp [Op.operands]; done) | simp [Op.operands, Call.operands]) (by rw [HS.out]; decide)
              clear hl
              go_simp
            -- slot 38
            refine wpFacts_lit (.bool false) rfl ?_ ?_
            · intro a wq hw hl
              have e31 : a.tmps[31]?.getD undef = .bool false := hl 31 (by first | (simp [Op.operands]; done) | simp [Op.operands, Call.operands]) (by rw [HS.out]; decide)
              have e37 : a.tmps[37]?.getD undef = .bool false := hl 37 (by first | (simp [Op.operands]; done) | simp [Op.operands, Call.operands]) (by rw [HS.out]; decide)
              clear hl
              go_simp
            -- slot 39
            refine wpFacts_lit (.bool false) rfl ?_ ?_
            · intro a wq hw hl
              have e38 : a.tmps[38]?.getD undef = .bool false := hl 38 (by first | (simp [Op.operands]; done) | simp [Op.operands, Call.operands]) (by rw [HS.out]; decide)
              clear hl
              go_simp
            -- slot 40
            refine wpFacts_litG (.slice (some ⟨q, o, none⟩) l.length c) 29 false 39 rfl (by rw [HO.out]; rfl) (by rw [HS.out]; decide) (fun _ _ h => h) ?_ ?_
            · intro a wq hw hl
              have e0 : a.tmps[0]?.getD undef = .slice (some ⟨q, o, none⟩) l.length c := (hl 0 (by first | (simp [Op.operands]; done) | simp [Op.operands, Call.operands]) (by rw [HS.out]; decide)).trans A0.out
              clear hl
              go_simp
            -- slot 41
            refine wpFacts_litG (.int .i64 (j : Int)) 29 false 39 rfl (by rw [HO.out]; rfl) (by rw [HS.out]; decide) (fun _ _ h => h) ?_ ?_
            · intro a wq hw hl
              have e3 : a.tmps[3]?.getD undef = .int .i64 (j : Int) := (hl 3 (by first | (simp [Op.operands]; done) | simp [Op.operands, Call.operands]) (by rw [HS.out]; decide)).trans A3.out
              clear hl
              go_simp
            -- slot 42
            refine wpFacts_litG (.pointer (some ⟨q, o + j * 4, none⟩)) 29 false 39 rfl (by rw [HO.out]; rfl) (by rw [HS.out]; decide) (fun _ _ h => h) ?_ ?_
            · intro a wq hw hl
              have e40 : a.tmps[40]?.getD undef = .slice (some ⟨q, o, none⟩) l.length c := hl 40 (by first | (simp [Op.operands]; done) | simp [Op.operands, Call.operands]) (by rw [HS.out]; decide)
              have e41 : a.tmps[41]?.getD undef = .int .i64 (j : Int) := hl 41 (by first | (simp [Op.operands]; done) | simp [Op.operands, Call.operands]) (by rw [HS.out]; decide)
              clear hl
              go_simp
            -- slot 43
            refine wpFacts_litG (.agg #[.int .i64 l[j].t, .slice xA l[j].n.length xc, .slice yA l[j].s.length yc, .slice zA l[j].l.length zc]) 29 false 39 rfl (by rw [HO.out]; rfl) (by rw [HS.out]; decide) (fun _ _ h => h) ?_ ?_
            · intro a wq hw hl
              have e42 : a.tmps[42]?.getD undef = .pointer (some ⟨q, o + j * 4, none⟩) := hl 42 (by first | (simp [Op.operands]; done) | simp [Op.operands, Call.operands]) (by rw [HS.out]; decide)
              have d0 := cell_gb d0 (gb_trans HGW.out hw (.inl rfl))
              have d1 := cell_gb d1 (gb_trans HGW.out hw (.inl rfl))
              have d2 := cell_gb d2 (gb_trans HGW.out hw (.inl rfl))
              have d3 := cell_gb d3 (gb_trans HGW.out hw (.inl rfl))
              clear hl
              go_simp
            -- slot 44
            refine wpFacts_stepG (fun vq _ => vq = .int .i64 0) 29 false 39 rfl (by rw [HO.out]; rfl) (by rw [HS.out]; decide) (fun _ _ h => h) (Lit.up _) ?_ ?_
            · intro a wq hw hl
              have e43 : a.tmps[43]?.getD undef = .agg #[.int .i64 l[j].t, .slice xA l[j].n.length xc, .slice yA l[j].s.length yc, .slice zA l[j].l.length zc] := hl 43 (by first | (simp [Op.operands]; done) | simp [Op.operands, Call.operands]) (by rw [HS.out]; decide)
              clear hl
              go_simp
              exact gUpon_lit (HCK.out wq (gb_trans HGW.out hw (.inl rfl)))
            -- slot 45
            refine wpFacts_litG (.bool false) 29 false 39 rfl (by rw [HO.out]; rfl) (by rw [HS.out]; decide) (fun _ _ h => h) ?_ ?_
            · intro a wq hw hl
              have e44 : a.tmps[44]?.getD undef = .int .i64 0 := hl 44 (by first | (simp [Op.operands]; done) | simp [Op.operands, Call.operands]) (by rw [HS.out]; decide)
              clear hl
              go_simp
            refine HL.out _ (fun a' wz hc => ?_)
            have e39 : a'.eval (.tmp 39) = .bool false := hc.fact 39 (by rw [HS.out]; decide)
            have e45 : a'.eval (.tmp 45) = .bool false := hc.fact 45 (by rw [HS.out]; decide)
            have hgwz := gb_trans HGW.out hc.grown (.inl rfl)
            have hfr := hc.frame [10, 11, 12, 13, 14, 15, 16, 17, 18, 19, 20, 21, 22, 23, 24, 25, 26, 27, 28, 29, 30, 31, 32, 33, 34, 35, 36, 37, 38, 39, 40, 41, 42, 43, 44, 45, 46] (by rw [HO.out]; kernel_rfl)
            rw [hfr]
            clear hfr hc
            rw [HA.out]
            clear HA HO HL HW HS HGW A0 A3
            clear A O W L
            simp only [List.drop_succ_cons, List.drop_zero, List.foldl_cons, List.foldl_nil, Act.put, List.setIfInBounds_toArray, List.set_cons_succ, List.set_cons_zero]
            rw [e39, e45]
            generalize a'.eval (.tmp 10) = x10
            generalize a'.eval (.tmp 11) = x11
            generalize a'.eval (.tmp 12) = x12
            generalize a'.eval (.tmp 13) = x13
            generalize a'.eval (.tmp 14) = x14
            generalize a'.eval (.tmp 15) = x15
            generalize a'.eval (.tmp 16) = x16
            generalize a'.eval (.tmp 17) = x17
            generalize a'.eval (.tmp 18) = x18
            generalize a'.eval (.tmp 19) = x19
            generalize a'.eval (.tmp 20) = x20
            generalize a'.eval (.tmp 21) = x21
            generalize a'.eval (.tmp 22) = x22
            generalize a'.eval (.tmp 23) = x23
            generalize a'.eval (.tmp 24) = x24
            generalize a'.eval (.tmp 25) = x25
            generalize a'.eval (.tmp 26) = x26
            generalize a'.eval (.tmp 27) = x27
            generalize a'.eval (.tmp 28) = x28
            generalize a'.eval (.tmp 29) = x29
            generalize a'.eval (.tmp 30) = x30
            generalize a'.eval (.tmp 31) = x31
            generalize a'.eval (.tmp 32) = x32
            generalize a'.eval (.tmp 33) = x33
            generalize a'.eval (.tmp 34) = x34
            generalize a'.eval (.tmp 35) = x35
            generalize a'.eval (.tmp 36) = x36
            generalize a'.eval (.tmp 37) = x37
            generalize a'.eval (.tmp 38) = x38
            generalize a'.eval (.tmp 40) = x40
            generalize a'.eval (.tmp 41) = x41
            generalize a'.eval (.tmp 42) = x42
            generalize a'.eval (.tmp 43) = x43
            generalize a'.eval (.tmp 44) = x44
            generalize a'.eval (.tmp 46) = x46
            clear e39 e45
            clear a'
            have HGZ := hide hgwz
            clear hgwz
            go_wp2_with fail
            go_roundw
            case rel =>
              refine ⟨j + 1, by go_num, by omega, ?_, gb_trans HG.out HGZ.out (.inl rfl)⟩
              rw [HTK.out]
              intro x hx
              rcases List.mem_append.1 hx with hx | hx
              · exact HOK.out x hx
              · rw [List.mem_singleton.1 hx]; exact HSV.out HBG.out rfl
            case measure => simp [intOf]; omega
          · have hk1 : (ck == 0) = false := by simp [hk0]
            have hk2 : (ck != 0) = true := by simp [hk0]
            refine wp_region_facts' 36 (by kernel_rfl) (by kernel_rfl) ?_
            intro A O W L HA HO HW HL
            simp only [List.take_succ_cons, List.take_zero]
            have HS := hide (show A.tmps.size = 47 by rw [HA.out]; rfl)
            have HGW := hide (show wr.grownBy W none by rw [HW.out]; exact gb_drew (gb_refl wr none))
            have A0 := hide (show A.eval (.tmp 0) = .slice (some ⟨q, o, none⟩) l.length c by rw [HA.out]; rfl)
            have A3 := hide (show A.eval (.tmp 3) = .int .i64 (j : Int) by rw [HA.out]; rfl)
            -- slot 10
            refine wpFacts_lit (.slice (some ⟨q, o, none⟩) l.length c) rfl ?_ ?_
            · intro a wq hw hl
              have e0 : a.tmps[0]?.getD undef = .slice (some ⟨q, o, none⟩) l.length c := (hl 0 (by first | (simp [Op.operands]; done) | simp [Op.operands, Call.operands]) (by rw [HS.out]; decide)).trans A0.out
              clear hl
              go_simp
            -- slot 11
            refine wpFacts_lit (.int .i64 (j : Int)) rfl ?_ ?_
            · intro a wq hw hl
              have e3 : a.tmps[3]?.getD undef = .int .i64 (j : Int) := (hl 3 (by first | (simp [Op.operands]; done) | simp [Op.operands, Call.operands]) (by rw [HS.out]; decide)).trans A3.out
              clear hl
              go_simp
            -- slot 12
            refine wpFacts_lit (.pointer (some ⟨q, o + j * 4, none⟩)) rfl ?_ ?_
            · intro a wq hw hl
              have e10 : a.tmps[10]?.getD undef = .slice (some ⟨q, o, none⟩) l.length c := hl 10 (by first | (simp [Op.operands]; done) | simp [Op.operands, Call.operands]) (by rw [HS.out]; decide)
              have e11 : a.tmps[11]?.getD undef = .int .i64 (j : Int) := hl 11 (by first | (simp [Op.operands]; done) | simp [Op.operands, Call.operands]) (by rw [HS.out]; decide)
              clear hl
              go_simp
            -- slot 13
            refine wpFacts_lit (.pointer (some ⟨q, o + j * 4 + 1, none⟩)) rfl ?_ ?_
            · intro a wq hw hl
              have e12 : a.tmps[12]?.getD undef = .pointer (some ⟨q, o + j * 4, none⟩) := hl 12 (by first | (simp [Op.operands]; done) | simp [Op.operands, Call.operands]) (by rw [HS.out]; decide)
              clear hl
              go_simp
            -- slot 14
            refine wpFacts_lit (.slice xA l[j].n.length xc) rfl ?_ ?_
            · intro a wq hw hl
              have e13 : a.tmps[13]?.getD undef = .pointer (some ⟨q, o + j * 4 + 1, none⟩) := hl 13 (by first | (simp [Op.operands]; done) | simp [Op.operands, Call.operands]) (by rw [HS.out]; decide)
              have d1 := cell_gb d1 (gb_trans HGW.out hw (.inl rfl))
              clear hl
              go_simp
            -- slot 15
            refine wpFacts_lit (.int .i64 ((l[j].n.length : Nat) : Int)) rfl ?_ ?_
            · intro a wq hw hl
              have e14 : a.tmps[14]?.getD undef = .slice xA l[j].n.length xc := hl 14 (by first | (simp [Op.operands]; done) | simp [Op.operands, Call.operands]) (by rw [HS.out]; decide)
              clear hl
              go_simp
            -- slot 16
            refine wpFacts_lit (.slice (some ⟨q, o, none⟩) l.length c) rfl ?_ ?_
            · intro a wq hw hl
              have e0 : a.tmps[0]?.getD undef = .slice (some ⟨q, o, none⟩) l.length c := (hl 0 (by first | (simp [Op.operands]; done) | simp [Op.operands, Call.operands]) (by rw [HS.out]; decide)).trans A0.out
              clear hl
              go_simp
            -- slot 17
            refine wpFacts_lit (.int .i64 (j : Int)) rfl ?_ ?_
            · intro a wq hw hl
              have e3 : a.tmps[3]?.getD undef = .int .i64 (j : Int) := (hl 3 (by first | (simp [Op.operands]; done) | simp [Op.operands, Call.operands]) (by rw [HS.out]; decide)).trans A3.out
              clear hl
              go_simp
            -- slot 18
            refine wpFacts_lit (.pointer (some ⟨q, o + j * 4, none⟩)) rfl ?_ ?_
            · intro a wq hw hl
              have e16 : a.tmps[16]?.getD undef = .slice (some ⟨q, o, none⟩) l.length c := hl 16 (by first | (simp [Op.operands]; done) | simp [Op.operands, Call.operands]) (by rw [HS.out]; decide)
              have e17 : a.tmps[17]?.getD undef = .int .i64 (j : Int) := hl 17 (by first | (simp [Op.operands]; done) | simp [Op.operands, Call.operands]) (by rw [HS.out]; decide)
              clear hl
              go_simp
            -- slot 19
            refine wpFacts_lit (.pointer (some ⟨q, o + j * 4 + 2, none⟩)) rfl ?_ ?_
            · intro a wq hw hl
              have e18 : a.tmps[18]?.getD undef = .pointer (some ⟨q, o + j * 4, none⟩) := hl 18 (by first | (simp [Op.operands]; done) | simp [Op.operands, Call.operands]) (by rw [HS.out]; decide)
              clear hl
              go_simp
            -- slot 20
            refine wpFacts_lit (.slice yA l[j].s.length yc) rfl ?_ ?_
            · intro a wq hw hl
              have e19 : a.tmps[19]?.getD undef = .pointer (some ⟨q, o + j * 4 + 2, none⟩) := hl 19 (by first | (simp [Op.operands]; done) | simp [Op.operands, Call.operands]) (by rw [HS.out]; decide)
              have d2 := cell_gb d2 (gb_trans HGW.out hw (.inl rfl))
              clear hl
              go_simp
            -- slot 21
            refine wpFacts_lit (.int .i64 ((l[j].s.length : Nat) : Int)) rfl ?_ ?_
            · intro a wq hw hl
              have e20 : a.tmps[20]?.getD undef = .slice yA l[j].s.length yc := hl 20 (by first | (simp [Op.operands]; done) | simp [Op.operands, Call.operands]) (by rw [HS.out]; decide)
              clear hl
              go_simp
            -- slot 22
            refine wpFacts_lit (.int .i64 ((l[j].n.length : Int) + (l[j].s.length : Int))) rfl ?_ ?_
            · intro a wq hw hl
              have e15 : a.tmps[15]?.getD undef = .int .i64 ((l[j].n.length : Nat) : Int) := hl 15 (by first | (simp [Op.operands]; done) | simp [Op.operands, Call.operands]) (by rw [HS.out]; decide)
              have e21 : a.tmps[21]?.getD undef = .int .i64 ((l[j].s.length : Nat) : Int) := hl 21 (by first | (simp [Op.operands]; done) | simp [Op.operands, Call.operands]) (by rw [HS.out]; decide)
              clear hl
              go_simp
            -- slot 23
            refine wpFacts_lit (.slice (some ⟨q, o, none⟩) l.length c) rfl ?_ ?_
            · intro a wq hw hl
              have e0 : a.tmps[0]?.getD undef = .slice (some ⟨q, o, none⟩) l.length c := (hl 0 (by first | (simp [Op.operands]; done) | simp [Op.operands, Call.operands]) (by rw [HS.out]; decide)).trans A0.out
              clear hl
              go_simp
            -- slot 24
            refine wpFacts_lit (.int .i64 (j : Int)) rfl ?_ ?_
            · intro a wq hw hl
              have e3 : a.tmps[3]?.getD undef = .int .i64 (j : Int) := (hl 3 (by first | (simp [Op.operands]; done) | simp [Op.operands, Call.operands]) (by rw [HS.out]; decide)).trans A3.out
              clear hl
              go_simp
            -- slot 25
            refine wpFacts_lit (.pointer (some ⟨q, o + j * 4, none⟩)) rfl ?_ ?_
            · intro a wq hw hl
              have e23 : a.tmps[23]?.getD undef = .slice (some ⟨q, o, none⟩) l.length c := hl 23 (by first | (simp [Op.operands]; done) | simp [Op.operands, Call.operands]) (by rw [HS.out]; decide)
              have e24 : a.tmps[24]?.getD undef = .int .i64 (j : Int) := hl 24 (by first | (simp [Op.operands]; done) | simp [Op.operands, Call.operands]) (by rw [HS.out]; decide)
              clear hl
              go_simp
            -- slot 26
            refine wpFacts_lit (.pointer (some ⟨q, o + j * 4 + 3, none⟩)) rfl ?_ ?_
            · intro a wq hw hl
              have e25 : a.tmps[25]?.getD undef = .pointer (some ⟨q, o + j * 4, none⟩) := hl 25 (by first | (simp [Op.operands]; done) | simp [Op.operands, Call.operands]) (by rw [HS.out]; decide)
              clear hl
              go_simp
            -- slot 27
            refine wpFacts_lit (.slice zA l[j].l.length zc) rfl ?_ ?_
            · intro a wq hw hl
              have e26 : a.tmps[26]?.getD undef = .pointer (some ⟨q, o + j * 4 + 3, none⟩) := hl 26 (by first | (simp [Op.operands]; done) | simp [Op.operands, Call.operands]) (by rw [HS.out]; decide)
              have d3 := cell_gb d3 (gb_trans HGW.out hw (.inl rfl))
              clear hl
              go_simp
            -- slot 28
            refine wpFacts_lit (.int .i64 ((l[j].l.length : Nat) : Int)) rfl ?_ ?_
            · intro a wq hw hl
              have e27 : a.tmps[27]?.getD undef = .slice zA l[j].l.length zc := hl 27 (by first | (simp [Op.operands]; done) | simp [Op.operands, Call.operands]) (by rw [HS.out]; decide)
              clear hl
              go_simp
            -- slot 29
            refine wpFacts_lit (.int .i64 ((l[j].n.length : Int) + (l[j].s.length : Int) + (l[j].l.length : Int))) rfl ?_ ?_
            · intro a wq hw hl
              have e22 : a.tmps[22]?.getD undef = .int .i64 ((l[j].n.length : Int) + (l[j].s.length : Int)) := hl 22 (by first | (simp [Op.operands]; done) | simp [Op.operands, Call.operands]) (by rw [HS.out]; decide)
              have e28 : a.tmps[28]?.getD undef = .int .i64 ((l[j].l.length : Nat) : Int) := hl 28 (by first | (simp [Op.operands]; done) | simp [Op.operands, Call.operands]) (by rw [HS.out]; decide)
              clear hl
              go_simp
            -- slot 30
            refine wpFacts_lit (.bool false) rfl ?_ ?_
            · intro a wq hw hl
              have e29 : a.tmps[29]?.getD undef = .int .i64 ((l[j].n.length : Int) + (l[j].s.length : Int) + (l[j].l.length : Int)) := hl 29 (by first | (simp [Op.operands]; done) | simp [Op.operands, Call.operands]) (by rw [HS.out]; decide)
              clear hl
              go_simp
            -- slot 31
            refine wpFacts_lit (.bool false) rfl ?_ ?_
            · intro a wq hw hl
              have e30 : a.tmps[30]?.getD undef = .bool false := hl 30 (by first | (simp [Op.operands]; done) | simp [Op.operands, Call.operands]) (by rw [HS.out]; decide)
              clear hl
              go_simp
            -- slot 32
            refine wpFacts_litG (.slice (some ⟨q, o, none⟩) l.length c) 21 false 31 rfl (by rw [HO.out]; rfl) (by rw [HS.out]; decide) (fun _ _ h => h) ?_ ?_
            · intro a wq hw hl
              have e0 : a.tmps[0]?.getD undef = .slice (some ⟨q, o, none⟩) l.length c := (hl 0 (by first | (simp [Op.operands]; done) | simp [Op.operands, Call.operands]) (by rw [HS.out]; decide)).trans A0.out
              clear hl
              go_simp
            -- slot 33
            refine wpFacts_litG (.int .i64 (j : Int)) 21 false 31 rfl (by rw [HO.out]; rfl) (by rw [HS.out]; decide) (fun _ _ h => h) ?_ ?_
            · intro a wq hw hl
              have e3 : a.tmps[3]?.getD undef = .int .i64 (j : Int) := (hl 3 (by first | (simp [Op.operands]; done) | simp [Op.operands, Call.operands]) (by rw [HS.out]; decide)).trans A3.out
              clear hl
              go_simp
            -- slot 34
            refine wpFacts_litG (.pointer (some ⟨q, o + j * 4, none⟩)) 21 false 31 rfl (by rw [HO.out]; rfl) (by rw [HS.out]; decide) (fun _ _ h => h) ?_ ?_
            · intro a wq hw hl
              have e32 : a.tmps[32]?.getD undef = .slice (some ⟨q, o, none⟩) l.length c := hl 32 (by first | (simp [Op.operands]; done) | simp [Op.operands, Call.operands]) (by rw [HS.out]; decide)
              have e33 : a.tmps[33]?.getD undef = .int .i64 (j : Int) := hl 33 (by first | (simp [Op.operands]; done) | simp [Op.operands, Call.operands]) (by rw [HS.out]; decide)
              clear hl
              go_simp
            -- slot 35
            refine wpFacts_litG (.agg #[.int .i64 l[j].t, .slice xA l[j].n.length xc, .slice yA l[j].s.length yc, .slice zA l[j].l.length zc]) 21 false 31 rfl (by rw [HO.out]; rfl) (by rw [HS.out]; decide) (fun _ _ h => h) ?_ ?_
            · intro a wq hw hl
              have e34 : a.tmps[34]?.getD undef = .pointer (some ⟨q, o + j * 4, none⟩) := hl 34 (by first | (simp [Op.operands]; done) | simp [Op.operands, Call.operands]) (by rw [HS.out]; decide)
              have d0 := cell_gb d0 (gb_trans HGW.out hw (.inl rfl))
              have d1 := cell_gb d1 (gb_trans HGW.out hw (.inl rfl))
              have d2 := cell_gb d2 (gb_trans HGW.out hw (.inl rfl))
              have d3 := cell_gb d3 (gb_trans HGW.out hw (.inl rfl))
              clear hl
              go_simp
            -- slot 36
            refine wpFacts_stepG (fun vq _ => vq = .bool true) 21 false 31 rfl (by rw [HO.out]; rfl) (by rw [HS.out]; decide) (fun _ _ h => h) (Lit.up _) ?_ ?_
            · intro a wq hw hl
              have e35 : a.tmps[35]?.getD undef = .agg #[.int .i64 l[j].t, .slice xA l[j].n.length xc, .slice yA l[j].s.length yc, .slice zA l[j].l.length zc] := hl 35 (by first | (simp [Op.operands]; done) | simp [Op.operands, Call.operands]) (by rw [HS.out]; decide)
              clear hl
              go_simp
              exact gUpon_lit (HWI.out wq (gb_trans HGW.out hw (.inl rfl)))
            -- slot 37
            refine wpFacts_litG (.bool false) 21 false 31 rfl (by rw [HO.out]; rfl) (by rw [HS.out]; decide) (fun _ _ h => h) ?_ ?_
            · intro a wq hw hl
              have e36 : a.tmps[36]?.getD undef = .bool true := hl 36 (by first | (simp [Op.operands]; done) | simp [Op.operands, Call.operands]) (by rw [HS.out]; decide)
              clear hl
              go_simp
            -- slot 38
            refine wpFacts_lit (.bool false) rfl ?_ ?_
            · intro a wq hw hl
              have e31 : a.tmps[31]?.getD undef = .bool false := hl 31 (by first | (simp [Op.operands]; done) | simp [Op.operands, Call.operands]) (by rw [HS.out]; decide)
              have e37 : a.tmps[37]?.getD undef = .bool false := hl 37 (by first | (simp [Op.operands]; done) | simp [Op.operands, Call.operands]) (by rw [HS.out]; decide)
              clear hl
              go_simp
            -- slot 39
            refine wpFacts_lit (.bool false) rfl ?_ ?_
            · intro a wq hw hl
              have e38 : a.tmps[38]?.getD undef = .bool false := hl 38 (by first | (simp [Op.operands]; done) | simp [Op.operands, Call.operands]) (by rw [HS.out]; decide)
              clear hl
              go_simp
            -- slot 40
            refine wpFacts_litG (.slice (some ⟨q, o, none⟩) l.length c) 29 false 39 rfl (by rw [HO.out]; rfl) (by rw [HS.out]; decide) (fun _ _ h => h) ?_ ?_
            · intro a wq hw hl
              have e0 : a.tmps[0]?.getD undef = .slice (some ⟨q, o, none⟩) l.length c := (hl 0 (by first | (simp [Op.operands]; done) | simp [Op.operands, Call.operands]) (by rw [HS.out]; decide)).trans A0.out
              clear hl
              go_simp
            -- slot 41
            refine wpFacts_litG (.int .i64 (j : Int)) 29 false 39 rfl (by rw [HO.out]; rfl) (by rw [HS.out]; decide) (fun _ _ h => h) ?_ ?_
            · intro a wq hw hl
              have e3 : a.tmps[3]?.getD undef = .int .i64 (j : Int) := (hl 3 (by first | (simp [Op.operands]; done) | simp [Op.operands, Call.operands]) (by rw [HS.out]; decide)).trans A3.out
              clear hl
              go_simp
            -- slot 42
            refine wpFacts_litG (.pointer (some ⟨q, o + j * 4, none⟩)) 29 false 39 rfl (by rw [HO.out]; rfl) (by rw [HS.out]; decide) (fun _ _ h => h) ?_ ?_
            · intro a wq hw hl
              have e40 : a.tmps[40]?.getD undef = .slice (some ⟨q, o, none⟩) l.length c := hl 40 (by first | (simp [Op.operands]; done) | simp [Op.operands, Call.operands]) (by rw [HS.out]; decide)
              have e41 : a.tmps[41]?.getD undef = .int .i64 (j : Int) := hl 41 (by first | (simp [Op.operands]; done) | simp [Op.operands, Call.operands]) (by rw [HS.out]; decide)
              clear hl
              go_simp
            -- slot 43
            refine wpFacts_litG (.agg #[.int .i64 l[j].t, .slice xA l[j].n.length xc, .slice yA l[j].s.length yc, .slice zA l[j].l.length zc]) 29 false 39 rfl (by rw [HO.out]; rfl) (by rw [HS.out]; decide) (fun _ _ h => h) ?_ ?_
            · intro a wq hw hl
              have e42 : a.tmps[42]?.getD undef = .pointer (some ⟨q, o + j * 4, none⟩) := hl 42 (by first | (simp [Op.operands]; done) | simp [Op.operands, Call.operands]) (by rw [HS.out]; decide)
              have d0 := cell_gb d0 (gb_trans HGW.out hw (.inl rfl))
              have d1 := cell_gb d1 (gb_trans HGW.out hw (.inl rfl))
              have d2 := cell_gb d2 (gb_trans HGW.out hw (.inl rfl))
              have d3 := cell_gb d3 (gb_trans HGW.out hw (.inl rfl))
              clear hl
              go_simp
            -- slot 44
            refine wpFacts_stepG (fun vq _ => vq = .int .i64 ck) 29 false 39 rfl (by rw [HO.out]; rfl) (by rw [HS.out]; decide) (fun _ _ h => h) (Lit.up _) ?_ ?_
            · intro a wq hw hl
              have e43 : a.tmps[43]?.getD undef = .agg #[.int .i64 l[j].t, .slice xA l[j].n.length xc, .slice yA l[j].s.length yc, .slice zA l[j].l.length zc] := hl 43 (by first | (simp [Op.operands]; done) | simp [Op.operands, Call.operands]) (by rw [HS.out]; decide)
              clear hl
              go_simp
              exact gUpon_lit (HCK.out wq (gb_trans HGW.out hw (.inl rfl)))
            -- slot 45
            refine wpFacts_litG (.bool true) 29 false 39 rfl (by rw [HO.out]; rfl) (by rw [HS.out]; decide) (fun _ _ h => h) ?_ ?_
            · intro a wq hw hl
              have e44 : a.tmps[44]?.getD undef = .int .i64 ck := hl 44 (by first | (simp [Op.operands]; done) | simp [Op.operands, Call.operands]) (by rw [HS.out]; decide)
              clear hl
              go_simp
            refine HL.out _ (fun a' wz hc => ?_)
            have e39 : a'.eval (.tmp 39) = .bool false := hc.fact 39 (by rw [HS.out]; decide)
            have e45 : a'.eval (.tmp 45) = .bool true := hc.fact 45 (by rw [HS.out]; decide)
            have hgwz := gb_trans HGW.out hc.grown (.inl rfl)
            have hfr := hc.frame [10, 11, 12, 13, 14, 15, 16, 17, 18, 19, 20, 21, 22, 23, 24, 25, 26, 27, 28, 29, 30, 31, 32, 33, 34, 35, 36, 37, 38, 39, 40, 41, 42, 43, 44, 45, 46] (by rw [HO.out]; kernel_rfl)
            rw [hfr]
            clear hfr hc
            rw [HA.out]
            clear HA HO HL HW HS HGW A0 A3
            clear A O W L
            simp only [List.drop_succ_cons, List.drop_zero, List.foldl_cons, List.foldl_nil, Act.put, List.setIfInBounds_toArray, List.set_cons_succ, List.set_cons_zero]
            rw [e39, e45]
            generalize a'.eval (.tmp 10) = x10
            generalize a'.eval (.tmp 11) = x11
            generalize a'.eval (.tmp 12) = x12
            generalize a'.eval (.tmp 13) = x13
            generalize a'.eval (.tmp 14) = x14
            generalize a'.eval (.tmp 15) = x15
            generalize a'.eval (.tmp 16) = x16
            generalize a'.eval (.tmp 17) = x17
            generalize a'.eval (.tmp 18) = x18
            generalize a'.eval (.tmp 19) = x19
            generalize a'.eval (.tmp 20) = x20
            generalize a'.eval (.tmp 21) = x21
            generalize a'.eval (.tmp 22) = x22
            generalize a'.eval (.tmp 23) = x23
            generalize a'.eval (.tmp 24) = x24
            generalize a'.eval (.tmp 25) = x25
            generalize a'.eval (.tmp 26) = x26
            generalize a'.eval (.tmp 27) = x27
            generalize a'.eval (.tmp 28) = x28
            generalize a'.eval (.tmp 29) = x29
            generalize a'.eval (.tmp 30) = x30
            generalize a'.eval (.tmp 31) = x31
            generalize a'.eval (.tmp 32) = x32
            generalize a'.eval (.tmp 33) = x33
            generalize a'.eval (.tmp 34) = x34
            generalize a'.eval (.tmp 35) = x35
            generalize a'.eval (.tmp 36) = x36
            generalize a'.eval (.tmp 37) = x37
            generalize a'.eval (.tmp 38) = x38
            generalize a'.eval (.tmp 40) = x40
            generalize a'.eval (.tmp 41) = x41
            generalize a'.eval (.tmp 42) = x42
            generalize a'.eval (.tmp 43) = x43
            generalize a'.eval (.tmp 44) = x44
            generalize a'.eval (.tmp 46) = x46
            clear e39 e45
            clear a'
            go_wp2_with fail
            go_ret
            exact ⟨⟨false, rfl, fun h => by cases h⟩, gb_trans HG.out hgwz (.inl rfl)⟩
      · have hb1 : (300 : Int) < (l[j].n.length : Int) + (l[j].s.length : Int) + (l[j].l.length : Int) := by omega
        clear hbig
        go_wp2_with fail
        go_quiet (fail)
        go_wp2_with fail
        go_ret
        exact ⟨⟨false, rfl, fun h => by cases h⟩, gb_trans HG.out (gb_drewN (gb_refl wr none) _) (.inl rfl)⟩
    · have hlt1 : ¬ (j : Int) < (l.length : Int) := by omega
      have hall : ∀ x ∈ l, smallV x := by rw [List.take_of_length_le (by omega)] at hok; exact hok
      have HG := hide hg
      have HA := hide hall
      clear hg hok hall
      go_wp2_with fail
      go_ret
      exact ⟨⟨true, rfl, fun _ => HA.out⟩, HG.out⟩
end Go.Proofs.Ytfdckhnhancbdaa
