/-
  The document's Of: of atoms of one type their vector.
-/
import Derived.Test.YtkbflmaflokpdaaGreatQJf
import Derived.Test.YtkbflmaflokpdaaGreatQJo
import Derived.Test.YtkbflmaflokpdaaGreatQWk
import Derived.Test.YtkbflmaflokpdaaGreatQJa
import Derived.Test.YtkbflmaflokpdaaGreatQJn

namespace Go.Proofs.YtkbflmaflokpdaaGreat
open Go.RowKit

section
variable {P : Program} {ops : Array Oper} {md : Region.Mode} {a0 : Act} {w0 : World}

/-- Each operation from n on waits for each ahead of n. -/
def directB (md : Region.Mode) (ops : Array Oper) (n : Nat) : Bool := (List.range ops.size).all fun t => decide (t < n) || (List.range n).all fun i => Region.waitsFor md ops t i
theorem direct_waits {n : Nat} (h : directB md ops n = true) {listed : Array Bool} {i j : Nat} (hi : i < n) (hun : listed.getD i true = false) (hj : j ∈ Region.ready md ops listed) : j < n := by
  rcases Nat.lt_or_ge j n with h1 | h1
  · exact h1
  · obtain ⟨_, o, ho, hall⟩ := mem_ready.1 hj
    have hjs : j < ops.size := (Array.getElem?_eq_some_iff.1 ho).1
    have h2 := List.all_eq_true.1 h j (List.mem_range.2 hjs)
    rw [decide_eq_false (by omega), Bool.false_or] at h2
    have h3 := List.all_eq_true.1 h2 i (List.mem_range.2 hi)
    obtain ⟨oj, hoj, e, he, hb, hon⟩ := Region.waitsFor_spec h3
    rw [ho] at hoj
    injection hoj with hoj
    subst hoj
    have := hall e he hb
    rw [hon, getD_both hun] at this
    cases this
theorem wpAnyG_firstD {n i : Nat} {oi : Oper} {F : Fct} {L : Array Bool → (Nat → Fct) → Prop} (hi : ops[i]? = some oi) (hs : directB md ops n = true) (hin : i < n)
    (hdone : ∀ listed G, L listed G → ∀ j ∈ Region.ready md ops listed, n ≤ j) :
    ∀ (f : Nat) (listed : Array Bool) (G : Nat → Fct),
      (∀ j oj, ops[j]? = some oj → j ≠ i → listed.getD j true = false → (∀ e ∈ oj.after, Region.binds md e = true → e.on ≠ i) → oi.apart ops oj = true) →
      i ∈ Region.ready md ops listed → Does P ops a0 w0 G oi F →
      wpAnyG P md ops a0 w0 n L f (listed.setIfInBounds i true) (upd G oi.dst F) → wpAnyG P md ops a0 w0 n L (f + 1) listed G := by
  intro f
  induction f with
  | zero =>
    intro listed G _ hr hy H
    have hun := (mem_ready.1 hr).1
    refine ⟨fun h => (by rw [h] at hr; cases hr), fun j hj => ⟨direct_waits hs hin hun hj, ?_⟩⟩
    by_cases hji : j = i
    · subst hji; exact hy.gOp hi H
    · have := hdone _ _ H j (ready_mono hj hji)
      have := direct_waits hs hin hun hj
      omega
  | succ f ih =>
    intro listed G hfree hr hy H
    have hun := (mem_ready.1 hr).1
    refine ⟨fun h => (by rw [h] at hr; cases hr), fun j hj => ⟨direct_waits hs hin hun hj, ?_⟩⟩
    by_cases hji : j = i
    · subst hji; exact hy.gOp hi H
    · have h1 := (H.2 j (ready_mono hj hji)).2
      obtain ⟨hjun, oj, hoj, hall⟩ := mem_ready.1 hj
      have hnot : ∀ e ∈ oj.after, Region.binds md e = true → e.on ≠ i := fun e he hb heq => by
        have h1 := hall e he hb
        rw [heq, getD_both hun] at h1
        cases h1
      have h2 := gOp_put hoj (hfree j oj hoj hji hjun hnot) hy h1
      have hfree' : ∀ k ok, ops[k]? = some ok → k ≠ i → (listed.setIfInBounds j true).getD k true = false →
          (∀ e ∈ ok.after, Region.binds md e = true → e.on ≠ i) → oi.apart ops ok = true := fun k ok hk hki hun hno => by
        refine hfree k ok hk hki ?_ hno
        by_cases hjk : j = k
        · subst hjk; exact hjun
        · rw [getD_set_ne true hjk] at hun; exact hun
      refine gOp_mono (fun G' h3 => ih (listed.setIfInBounds j true) G' hfree' (ready_mono hr (Ne.symm hji)) h3.1 ?_) h2
      rw [Array.setIfInBounds_comm _ _ hji]
      exact h3.2
def lexD (md : Region.Mode) (ops : Array Oper) (ls : Array Bool) : Nat → Nat → Array Bool → Bool
  | 0, _, listed => decide (listed = ls)
  | f + 1, k, listed => (Region.ready md ops listed).contains k && Region.free md ops listed k && lexD md ops ls f (k + 1) (listed.setIfInBounds k true)
theorem wpAnyG_lexD {n : Nat} {ls : Array Bool} {Lq : (Nat → Fct) → Prop} (hs : directB md ops n = true) (hls : (Region.ready md ops ls).all (fun j => decide (n ≤ j)) = true) :
    ∀ (l : List Oper) (k : Nat) (listed : Array Bool) (G : Nat → Fct), (∀ j, j < l.length → l[j]? = ops[k + j]?) → k + l.length = n →
    lexD md ops ls l.length k listed = true → wpFacts P ops a0 w0 Lq l G →
    wpAnyG P md ops a0 w0 n (fun listed' G' => listed' = ls ∧ Lq G') l.length listed G
  | [], _, listed, G, _, _, hB, h => ⟨of_decide_eq_true hB, h⟩
  | o :: l, k, listed, G, hl, hk, hB, h => by
    have h0 : ops[k]? = some o := by simpa using (hl 0 (by simp)).symm
    simp only [List.length_cons, lexD, Bool.and_eq_true] at hB
    obtain ⟨⟨hr, hf⟩, hB'⟩ := hB
    have hkn : k < n := by simp only [List.length_cons] at hk; omega
    have hr' : k ∈ Region.ready md ops listed := by simpa using hr
    obtain ⟨F, hy, hK⟩ := h
    exact wpAnyG_firstD h0 hs hkn (fun listed' G' hL j hj => by rw [hL.1] at hj; exact of_decide_eq_true (List.all_eq_true.1 hls j hj)) l.length listed G (Region.free_spec h0 hf) hr' hy
      (wpAnyG_lexD hs hls l (k + 1) _ _ (fun j hj => by have := hl (j + 1) (by simp; omega); simpa [Nat.add_assoc, Nat.add_comm 1 j] using this) (by simp only [List.length_cons] at hk; omega) hB' hK)
/-- The head's conditions. -/
def headD (md : Region.Mode) (ops : Array Oper) (n : Nat) (ls : Array Bool) : Bool :=
  decide (n ≤ ops.size) && directB md ops n && (Region.ready md ops ls).all (fun j => decide (n ≤ j)) && lexD md ops ls n 0 (Array.replicate ops.size false)
/-- The first n operations by facts; ls has them listed. -/
theorem any_facts {Q : Exit → Act → World → Prop} {a : Act} {w : World} {l : List Oper} (n : Nat) (ls : Array Bool) (hB : headD .any l.toArray n ls = true)
    (h : ∀ (A : Act) (O : Array Oper) (W : World) (L : (Nat → Fct) → Prop), Hid (A = a) → Hid (O = l.toArray) → Hid (W = w) → Hid (∀ G, (∀ a' w', Ctx O A W G a' w' → wpAny P .any l.toArray Q (l.length - n) ls a' w') → L G) →
      wpFacts P O A W L (l.take n) (fun t v _ => v = A.eval (.tmp t))) : wpAny P .any l.toArray Q l.toArray.size (Array.replicate l.toArray.size false) a w := by
  simp only [headD, Bool.and_eq_true, decide_eq_true_eq] at hB
  obtain ⟨⟨⟨hn, hs⟩, hls⟩, hlex⟩ := hB
  have hn' : n ≤ l.length := by simpa using hn
  have htl : (l.take n).length = n := by simp; omega
  have H := wpAnyG_lexD (P := P) (md := .any) (a0 := a) (w0 := w) hs hls (l.take n) 0 _ _ (fun j hj => by
    have hj' : j < n := by rw [htl] at hj; exact hj
    simp [hj']) (by simpa using htl) (by rw [htl]; exact hlex) (h a l.toArray w _ (show Hid _ from rfl) (show Hid _ from rfl) (show Hid _ from rfl) (show Hid _ from fun _ h => h))
  have := wpAny_of_gHead (Q' := Q) (g := l.length - n) (fun listed G a' w' hc' hL => by
    rw [hL.1]
    exact hL.2 a' w' hc') _ _ _ _ _ (Ctx.start a w) H
  rw [htl, show n + (l.length - n) = l.toArray.size by simp; omega] at this
  exact this
/-- One operation whose guard is off. -/
theorem wpFacts_skip {L : (Nat → Fct) → Prop} {G : Nat → Fct} {o : Oper} {rest : List Oper} (g : Nat) (b : Bool) (t : Tmp) (hg : o.guard = some (g, b)) (ht : (ops[g]?).bind (·.dst) = some t) (hs : t < a0.tmps.size)
    (hG : ∀ v w, G t v w → v = .bool (!b)) (hr : wpFacts P ops a0 w0 L rest (upd G o.dst (fun v _ => v = undef))) : wpFacts P ops a0 w0 L (o :: rest) G :=
  ⟨_, ⟨fun _ _ _ h _ => h, fun a w hsz hw hl => .inr ⟨by
    have hm : t ∈ o.looksAt ops := by unfold Oper.looksAt; rw [hg]; simp only [ht]; simp
    have h1 := hG _ _ (hl t hm hs)
    have h2 : a.tmps[t]? = some (.bool (!b)) := by
      simp only [Act.eval, Array.getD_eq_getD_getElem?] at h1
      rw [← hsz] at hs
      rw [Array.getElem?_eq_getElem hs] at h1 ⊢
      simpa using h1
    cases b <;> simp [Region.wanted, hg, yielded, ht, h2], rfl⟩⟩, hr⟩
end
end Go.Proofs.YtkbflmaflokpdaaGreat

namespace Go.Proofs.YtkbflmaflokpdaaGreat
open Go.RowKit
attribute [local go_sem ↓] Go.wp_at_zero Go.wp_at_succ

theorem alikeV_zero {l : List Vl} (m : Int) (h : 0 < l.length) : alikeV l m 0 = true := by
  unfold alikeV
  simp [h]

set_option maxHeartbeats 16000000 in
set_option maxRecDepth 100000 in
theorem rOf_list (l : List Vl) (w : World) (B : Nat) (A : Option Addr) (c : Nat) (hu : alikeV l (headT l) l.length = false) (hl0 : 0 < l.length) (ht : Vl.tots l ≤ 1200000000) (hB : B ≤ w.heap.size) (h : RdV w B A l) :
    Calls Tryz.prog 50 #[.slice A l.length c] w (NewV (.mk 0 [] [] l) w) := by
  obtain ⟨wa, hwa⟩ : ∃ wa, wa = w.alloc (.cells #[.int .i64 0, .slice none 0 0, .slice none 0 0, .slice none 0 0] 26) := ⟨_, rfl⟩
  have hg : w.grownBy wa none := by rw [hwa]; exact gb_alloc (gb_refl w none) _
  have hr : wa.heap[w.heap.size]? = some (.cells #[.int .i64 0, .slice none 0 0, .slice none 0 0, .slice none 0 0] 26 (0, 0)) := by rw [hwa]; exact heap_alloc_new w _
  have HSZ := hide (show wa.heap.size = w.heap.size + 1 by rw [hwa]; simp)
  have HG := hide hg
  have HR := hide hr
  have HWE := hide hwa
  have l1 : l.length ≤ 1200000000 := Nat.le_trans (Vl.length_le_tots l) ht
  have HT := hide ht
  have H := hide h
  have HBB := hide hB
  obtain ⟨q, o, xA0, xc0, yA0, yc0, zA0, zc0, rfl, hqB0, hc40, hvb0⟩ := h.first hl0
  have hc00 := hc40.c0
  rw [← headT_at hl0] at hc00
  have HC40 := hide hc00
  have HUN := hide hu
  have hl01 : (0 : Int) < (l.length : Int) := by omega
  have HAZ := hide (alikeV_zero (headT l) hl0)
  have HL0 := hide hl0
  have HLN : Hid (l ≠ []) := hide (by intro e; rw [e] at hl0; exact Nat.lt_irrefl 0 hl0)
  clear hu ht hB h hg hr hwa hc00 hc40 hvb0 hqB0
  clear hl0
  generalize headT l = t0 at *
  go_enter Tryz.func50, Tryz.ntmps50
  go_wp2_with fail
  rw [← HWE.out]
  go_loopw [3, 4] (fun al i wr => ∃ j : Nat, i = .int .i64 (j : Int) ∧ j ≤ l.length ∧ al = .bool (alikeV l t0 j) ∧ wa.grownBy wr none) (fun _ i _ => l.length - (intOf i).toNat)
  case atStart => exact ⟨0, rfl, Nat.zero_le _, by rw [HAZ.out, decide_eq_true HL0.out], gb_refl wa none⟩
  case round =>
      obtain ⟨j, rfl, hj, rfl, hgr⟩ := hrel
      by_cases hlt : j < l.length
      · have hlt1 : (j : Int) < (l.length : Int) := by omega
        obtain ⟨q', o', xA, xc, yA, yc, zA, zc, hA', hqB, hc4', hvb'⟩ := H.out.at_ hlt
        simp only [Option.some.injEq, Addr.mk.injEq, and_true] at hA'
        obtain ⟨rfl, rfl⟩ := hA'
        obtain ⟨y, hy⟩ : ∃ y, y = l[j] := ⟨_, rfl⟩
        have hc4 : C4 w q (o + j * 4) (.int .i64 y.t) (.slice xA y.n.length xc) (.slice yA y.s.length yc) (.slice zA y.l.length zc) := by subst hy; exact hc4'
        have hvb : VB w B y xA xc yA yc zA zc := by subst hy; exact hvb'
        have hal : alikeV l t0 (j + 1) = (alikeV l t0 j && (rAtom y.t && decide (y.t = t0))) := by subst hy; exact alikeV_succ hlt
        have hgw := gb_trans HG.out hgr (.inl rfl)
        have hc5 := hc4.gb hgw
        have HD0 := hide hc5.c0
        have HD1 := hide hc5.c1
        have HD2 := hide hc5.c2
        have HD3 := hide hc5.c3
        have HE0 := hide (cell_gb HC40.out hgw)
        have HAT := hide (fun w2 => rAtom_any y.t (.slice xA y.n.length xc) (.slice yA y.s.length yc) (.slice zA y.l.length zc) w2)
        have HAL := hide hal
        have HGR := hide hgr
        have HJ := hide hlt
        clear hy hc4 hvb hc4' hvb' hal hgw hc5 hgr
        generalize alikeV l t0 j = al at *
        generalize hq1 : alikeV l t0 (j + 1) = al1 at *
        have HAQ := hide hq1
        clear hq1
        generalize rAtom y.t = ra at HAT HAL
        by_cases ha : ra = true
        · subst ha
          go_wp2_with fail
          refine wp_region_facts' 17 (by kernel_rfl) (by kernel_rfl) ?_
          intro A O W L HA HO HW HL
          simp only [List.take_succ_cons, List.take_zero]
          have HS := hide (show A.tmps.size = 87 by rw [HA.out]; rfl)
          have HGW := hide (show wr.grownBy W none by rw [HW.out]; exact gb_drew (gb_refl wr none))
          have A0 := hide (show A.eval (.tmp 0) = .slice (some ⟨q, o, none⟩) l.length c by rw [HA.out]; rfl)
          have A4 := hide (show A.eval (.tmp 4) = .int .i64 (j : Int) by rw [HA.out]; rfl)
          -- slot 18
          refine wpFacts_lit (.slice (some ⟨q, o, none⟩) l.length c) rfl ?_ ?_
          · intro a wq hw hl
            have e0 : a.tmps[0]?.getD undef = .slice (some ⟨q, o, none⟩) l.length c := (hl 0 (by first | (simp [Op.operands]; done) | simp [Op.operands, Call.operands]) (by rw [HS.out]; decide)).trans A0.out
            clear hl
            go_simp
          -- slot 19
          refine wpFacts_lit (.int .i64 (j : Int)) rfl ?_ ?_
          · intro a wq hw hl
            have e4 : a.tmps[4]?.getD undef = .int .i64 (j : Int) := (hl 4 (by first | (simp [Op.operands]; done) | simp [Op.operands, Call.operands]) (by rw [HS.out]; decide)).trans A4.out
            clear hl
            go_simp
          -- slot 20
          refine wpFacts_lit (.pointer (some ⟨q, o + j * 4, none⟩)) rfl ?_ ?_
          · intro a wq hw hl
            have e18 : a.tmps[18]?.getD undef = .slice (some ⟨q, o, none⟩) l.length c := hl 18 (by first | (simp [Op.operands]; done) | simp [Op.operands, Call.operands]) (by rw [HS.out]; decide)
            have e19 : a.tmps[19]?.getD undef = .int .i64 (j : Int) := hl 19 (by first | (simp [Op.operands]; done) | simp [Op.operands, Call.operands]) (by rw [HS.out]; decide)
            have hlt9 := hlt1
            clear hl
            go_simp
          -- slot 21
          refine wpFacts_lit (.agg #[.int .i64 y.t, .slice xA y.n.length xc, .slice yA y.s.length yc, .slice zA y.l.length zc]) rfl ?_ ?_
          · intro a wq hw hl
            have e20 : a.tmps[20]?.getD undef = .pointer (some ⟨q, o + j * 4, none⟩) := hl 20 (by first | (simp [Op.operands]; done) | simp [Op.operands, Call.operands]) (by rw [HS.out]; decide)
            have c0 := cell_gb HD0.out (gb_trans HGW.out hw (.inl rfl))
            have c1 := cell_gb HD1.out (gb_trans HGW.out hw (.inl rfl))
            have c2 := cell_gb HD2.out (gb_trans HGW.out hw (.inl rfl))
            have c3 := cell_gb HD3.out (gb_trans HGW.out hw (.inl rfl))
            clear hl
            go_simp
          -- slot 22
          refine wpFacts_step (fun vq _ => vq = .bool true) rfl (Lit.up _) ?_ ?_
          · intro a wq hw hl
            have e21 : a.tmps[21]?.getD undef = .agg #[.int .i64 y.t, .slice xA y.n.length xc, .slice yA y.s.length yc, .slice zA y.l.length zc] := hl 21 (by first | (simp [Op.operands]; done) | simp [Op.operands, Call.operands]) (by rw [HS.out]; decide)
            clear hl
            go_simp
            exact gUpon_lit (HAT.out _)
          -- slot 23
          refine wpFacts_lit (.bool false) rfl ?_ ?_
          · intro a wq hw hl
            have e22 : a.tmps[22]?.getD undef = .bool true := hl 22 (by first | (simp [Op.operands]; done) | simp [Op.operands, Call.operands]) (by rw [HS.out]; decide)
            clear hl
            go_simp
          -- slot 24
          refine wpFacts_lit (.bool false) rfl ?_ ?_
          · intro a wq hw hl
            have e23 : a.tmps[23]?.getD undef = .bool false := hl 23 (by first | (simp [Op.operands]; done) | simp [Op.operands, Call.operands]) (by rw [HS.out]; decide)
            clear hl
            go_simp
          -- slot 25
          refine wpFacts_litG (.slice (some ⟨q, o, none⟩) l.length c) 6 false 24 rfl (by rw [HO.out]; rfl) (by rw [HS.out]; decide) (fun _ _ h => h) ?_ ?_
          · intro a wq hw hl
            have e0 : a.tmps[0]?.getD undef = .slice (some ⟨q, o, none⟩) l.length c := (hl 0 (by first | (simp [Op.operands]; done) | simp [Op.operands, Call.operands]) (by rw [HS.out]; decide)).trans A0.out
            clear hl
            go_simp
          -- slot 26
          refine wpFacts_litG (.int .i64 (j : Int)) 6 false 24 rfl (by rw [HO.out]; rfl) (by rw [HS.out]; decide) (fun _ _ h => h) ?_ ?_
          · intro a wq hw hl
            have e4 : a.tmps[4]?.getD undef = .int .i64 (j : Int) := (hl 4 (by first | (simp [Op.operands]; done) | simp [Op.operands, Call.operands]) (by rw [HS.out]; decide)).trans A4.out
            clear hl
            go_simp
          -- slot 27
          refine wpFacts_litG (.pointer (some ⟨q, o + j * 4, none⟩)) 6 false 24 rfl (by rw [HO.out]; rfl) (by rw [HS.out]; decide) (fun _ _ h => h) ?_ ?_
          · intro a wq hw hl
            have e25 : a.tmps[25]?.getD undef = .slice (some ⟨q, o, none⟩) l.length c := hl 25 (by first | (simp [Op.operands]; done) | simp [Op.operands, Call.operands]) (by rw [HS.out]; decide)
            have e26 : a.tmps[26]?.getD undef = .int .i64 (j : Int) := hl 26 (by first | (simp [Op.operands]; done) | simp [Op.operands, Call.operands]) (by rw [HS.out]; decide)
            have hlt9 := hlt1
            clear hl
            go_simp
          -- slot 28
          refine wpFacts_litG (.pointer (some ⟨q, o + j * 4, none⟩)) 6 false 24 rfl (by rw [HO.out]; rfl) (by rw [HS.out]; decide) (fun _ _ h => h) ?_ ?_
          · intro a wq hw hl
            have e27 : a.tmps[27]?.getD undef = .pointer (some ⟨q, o + j * 4, none⟩) := hl 27 (by first | (simp [Op.operands]; done) | simp [Op.operands, Call.operands]) (by rw [HS.out]; decide)
            clear hl
            go_simp
          -- slot 29
          refine wpFacts_litG (.int .i64 y.t) 6 false 24 rfl (by rw [HO.out]; rfl) (by rw [HS.out]; decide) (fun _ _ h => h) ?_ ?_
          · intro a wq hw hl
            have e28 : a.tmps[28]?.getD undef = .pointer (some ⟨q, o + j * 4, none⟩) := hl 28 (by first | (simp [Op.operands]; done) | simp [Op.operands, Call.operands]) (by rw [HS.out]; decide)
            have c0 := cell_gb HD0.out (gb_trans HGW.out hw (.inl rfl))
            clear hl
            go_simp
          -- slot 30
          refine wpFacts_litG (.slice (some ⟨q, o, none⟩) l.length c) 6 false 24 rfl (by rw [HO.out]; rfl) (by rw [HS.out]; decide) (fun _ _ h => h) ?_ ?_
          · intro a wq hw hl
            have e0 : a.tmps[0]?.getD undef = .slice (some ⟨q, o, none⟩) l.length c := (hl 0 (by first | (simp [Op.operands]; done) | simp [Op.operands, Call.operands]) (by rw [HS.out]; decide)).trans A0.out
            clear hl
            go_simp
          -- slot 31
          refine wpFacts_litG (.pointer (some ⟨q, o, none⟩)) 6 false 24 rfl (by rw [HO.out]; rfl) (by rw [HS.out]; decide) (fun _ _ h => h) ?_ ?_
          · intro a wq hw hl
            have e30 : a.tmps[30]?.getD undef = .slice (some ⟨q, o, none⟩) l.length c := hl 30 (by first | (simp [Op.operands]; done) | simp [Op.operands, Call.operands]) (by rw [HS.out]; decide)
            have hl09 := HLN.out
            clear hl
            go_simp
          -- slot 32
          refine wpFacts_litG (.pointer (some ⟨q, o, none⟩)) 6 false 24 rfl (by rw [HO.out]; rfl) (by rw [HS.out]; decide) (fun _ _ h => h) ?_ ?_
          · intro a wq hw hl
            have e31 : a.tmps[31]?.getD undef = .pointer (some ⟨q, o, none⟩) := hl 31 (by first | (simp [Op.operands]; done) | simp [Op.operands, Call.operands]) (by rw [HS.out]; decide)
            clear hl
            go_simp
          -- slot 33
          refine wpFacts_litG (.int .i64 t0) 6 false 24 rfl (by rw [HO.out]; rfl) (by rw [HS.out]; decide) (fun _ _ h => h) ?_ ?_
          · intro a wq hw hl
            have e32 : a.tmps[32]?.getD undef = .pointer (some ⟨q, o, none⟩) := hl 32 (by first | (simp [Op.operands]; done) | simp [Op.operands, Call.operands]) (by rw [HS.out]; decide)
            have c0 := cell_gb HE0.out (gb_trans HGW.out hw (.inl rfl))
            clear hl
            go_simp
          -- slot 34
          refine wpFacts_litG (.bool (y.t != t0)) 6 false 24 rfl (by rw [HO.out]; rfl) (by rw [HS.out]; decide) (fun _ _ h => h) ?_ ?_
          · intro a wq hw hl
            have e29 : a.tmps[29]?.getD undef = .int .i64 y.t := hl 29 (by first | (simp [Op.operands]; done) | simp [Op.operands, Call.operands]) (by rw [HS.out]; decide)
            have e33 : a.tmps[33]?.getD undef = .int .i64 t0 := hl 33 (by first | (simp [Op.operands]; done) | simp [Op.operands, Call.operands]) (by rw [HS.out]; decide)
            clear hl
            go_simp
          refine HL.out _ (fun a' w5 hc => ?_)
          have e24 : a'.eval (.tmp 24) = .bool false := hc.fact 24 (by rw [HS.out]; decide)
          have e34 : a'.eval (.tmp 34) = .bool (y.t != t0) := hc.fact 34 (by rw [HS.out]; decide)
          have hg5 := gb_trans HGW.out hc.grown (.inl rfl)
          have hfr := hc.frame [18, 19, 20, 21, 22, 23, 24, 25, 26, 27, 28, 29, 30, 31, 32, 33, 34, 35] (by rw [HO.out]; kernel_rfl)
          rw [hfr]
          clear hfr hc
          rw [HA.out]
          clear HA HO HL HW HS HGW A0 A4
          clear A O W L
          simp only [List.drop_succ_cons, List.drop_zero, List.foldl_cons, List.foldl_nil, Act.put, List.setIfInBounds_toArray, List.set_cons_succ, List.set_cons_zero]
          rw [e24, e34]
          generalize a'.eval (.tmp 18) = v18
          generalize a'.eval (.tmp 19) = v19
          generalize a'.eval (.tmp 20) = v20
          generalize a'.eval (.tmp 21) = v21
          generalize a'.eval (.tmp 22) = v22
          generalize a'.eval (.tmp 23) = v23
          generalize a'.eval (.tmp 25) = v25
          generalize a'.eval (.tmp 26) = v26
          generalize a'.eval (.tmp 27) = v27
          generalize a'.eval (.tmp 28) = v28
          generalize a'.eval (.tmp 29) = v29
          generalize a'.eval (.tmp 30) = v30
          generalize a'.eval (.tmp 31) = v31
          generalize a'.eval (.tmp 32) = v32
          generalize a'.eval (.tmp 33) = v33
          generalize a'.eval (.tmp 35) = v35
          clear e24 e34
          clear a'
          have HG5 := hide (gb_trans HGR.out hg5 (.inl rfl))
          clear hg5
          by_cases ht : y.t = t0
          · have e1 := int_bne_t ht
            have HA1 := hide (show al1 = al by rw [HAL.out, decide_eq_true ht]; simp)
            clear ht HAL
            go_wp2_with fail
            go_roundw
            case rel => exact ⟨j + 1, by go_num, by omega, by rw [HAQ.out, HA1.out], HG5.out⟩
            case measure => simp [intOf]; omega
          · have e1 := int_bne_f ht
            have HA1 := hide (show al1 = false by rw [HAL.out, decide_eq_false ht]; simp)
            clear ht HAL
            go_wp2_with fail
            go_roundw
            case rel => exact ⟨j + 1, by go_num, by omega, by rw [HAQ.out, HA1.out], HG5.out⟩
            case measure => simp [intOf]; omega
        · obtain rfl := Bool.eq_false_iff.2 ha
          have HA1 := hide (show al1 = false by rw [HAL.out]; simp)
          clear ha HAL
          go_wp2_with fail
          refine wp_region_facts' 17 (by kernel_rfl) (by kernel_rfl) ?_
          intro A O W L HA HO HW HL
          simp only [List.take_succ_cons, List.take_zero]
          have HS := hide (show A.tmps.size = 87 by rw [HA.out]; rfl)
          have HGW := hide (show wr.grownBy W none by rw [HW.out]; exact gb_drew (gb_refl wr none))
          have A0 := hide (show A.eval (.tmp 0) = .slice (some ⟨q, o, none⟩) l.length c by rw [HA.out]; rfl)
          have A4 := hide (show A.eval (.tmp 4) = .int .i64 (j : Int) by rw [HA.out]; rfl)
          -- slot 18
          refine wpFacts_lit (.slice (some ⟨q, o, none⟩) l.length c) rfl ?_ ?_
          · intro a wq hw hl
            have e0 : a.tmps[0]?.getD undef = .slice (some ⟨q, o, none⟩) l.length c := (hl 0 (by first | (simp [Op.operands]; done) | simp [Op.operands, Call.operands]) (by rw [HS.out]; decide)).trans A0.out
            clear hl
            go_simp
          -- slot 19
          refine wpFacts_lit (.int .i64 (j : Int)) rfl ?_ ?_
          · intro a wq hw hl
            have e4 : a.tmps[4]?.getD undef = .int .i64 (j : Int) := (hl 4 (by first | (simp [Op.operands]; done) | simp [Op.operands, Call.operands]) (by rw [HS.out]; decide)).trans A4.out
            clear hl
            go_simp
          -- slot 20
          refine wpFacts_lit (.pointer (some ⟨q, o + j * 4, none⟩)) rfl ?_ ?_
          · intro a wq hw hl
            have e18 : a.tmps[18]?.getD undef = .slice (some ⟨q, o, none⟩) l.length c := hl 18 (by first | (simp [Op.operands]; done) | simp [Op.operands, Call.operands]) (by rw [HS.out]; decide)
            have e19 : a.tmps[19]?.getD undef = .int .i64 (j : Int) := hl 19 (by first | (simp [Op.operands]; done) | simp [Op.operands, Call.operands]) (by rw [HS.out]; decide)
            have hlt9 := hlt1
            clear hl
            go_simp
          -- slot 21
          refine wpFacts_lit (.agg #[.int .i64 y.t, .slice xA y.n.length xc, .slice yA y.s.length yc, .slice zA y.l.length zc]) rfl ?_ ?_
          · intro a wq hw hl
            have e20 : a.tmps[20]?.getD undef = .pointer (some ⟨q, o + j * 4, none⟩) := hl 20 (by first | (simp [Op.operands]; done) | simp [Op.operands, Call.operands]) (by rw [HS.out]; decide)
            have c0 := cell_gb HD0.out (gb_trans HGW.out hw (.inl rfl))
            have c1 := cell_gb HD1.out (gb_trans HGW.out hw (.inl rfl))
            have c2 := cell_gb HD2.out (gb_trans HGW.out hw (.inl rfl))
            have c3 := cell_gb HD3.out (gb_trans HGW.out hw (.inl rfl))
            clear hl
            go_simp
          -- slot 22
          refine wpFacts_step (fun vq _ => vq = .bool false) rfl (Lit.up _) ?_ ?_
          · intro a wq hw hl
            have e21 : a.tmps[21]?.getD undef = .agg #[.int .i64 y.t, .slice xA y.n.length xc, .slice yA y.s.length yc, .slice zA y.l.length zc] := hl 21 (by first | (simp [Op.operands]; done) | simp [Op.operands, Call.operands]) (by rw [HS.out]; decide)
            clear hl
            go_simp
            exact gUpon_lit (HAT.out _)
          -- slot 23
          refine wpFacts_lit (.bool true) rfl ?_ ?_
          · intro a wq hw hl
            have e22 : a.tmps[22]?.getD undef = .bool false := hl 22 (by first | (simp [Op.operands]; done) | simp [Op.operands, Call.operands]) (by rw [HS.out]; decide)
            clear hl
            go_simp
          -- slot 24
          refine wpFacts_lit (.bool true) rfl ?_ ?_
          · intro a wq hw hl
            have e23 : a.tmps[23]?.getD undef = .bool true := hl 23 (by first | (simp [Op.operands]; done) | simp [Op.operands, Call.operands]) (by rw [HS.out]; decide)
            clear hl
            go_simp
          -- slot 25
          refine wpFacts_skip 6 false 24 rfl (by rw [HO.out]; rfl) (by rw [HS.out]; decide) (fun _ _ h => h) ?_
          -- slot 26
          refine wpFacts_skip 6 false 24 rfl (by rw [HO.out]; rfl) (by rw [HS.out]; decide) (fun _ _ h => h) ?_
          -- slot 27
          refine wpFacts_skip 6 false 24 rfl (by rw [HO.out]; rfl) (by rw [HS.out]; decide) (fun _ _ h => h) ?_
          -- slot 28
          refine wpFacts_skip 6 false 24 rfl (by rw [HO.out]; rfl) (by rw [HS.out]; decide) (fun _ _ h => h) ?_
          -- slot 29
          refine wpFacts_skip 6 false 24 rfl (by rw [HO.out]; rfl) (by rw [HS.out]; decide) (fun _ _ h => h) ?_
          -- slot 30
          refine wpFacts_skip 6 false 24 rfl (by rw [HO.out]; rfl) (by rw [HS.out]; decide) (fun _ _ h => h) ?_
          -- slot 31
          refine wpFacts_skip 6 false 24 rfl (by rw [HO.out]; rfl) (by rw [HS.out]; decide) (fun _ _ h => h) ?_
          -- slot 32
          refine wpFacts_skip 6 false 24 rfl (by rw [HO.out]; rfl) (by rw [HS.out]; decide) (fun _ _ h => h) ?_
          -- slot 33
          refine wpFacts_skip 6 false 24 rfl (by rw [HO.out]; rfl) (by rw [HS.out]; decide) (fun _ _ h => h) ?_
          -- slot 34
          refine wpFacts_skip 6 false 24 rfl (by rw [HO.out]; rfl) (by rw [HS.out]; decide) (fun _ _ h => h) ?_
          refine HL.out _ (fun a' w5 hc => ?_)
          have e24 : a'.eval (.tmp 24) = .bool true := hc.fact 24 (by rw [HS.out]; decide)
          have e34 : a'.eval (.tmp 34) = undef := hc.fact 34 (by rw [HS.out]; decide)
          have hg5 := gb_trans HGW.out hc.grown (.inl rfl)
          have hfr := hc.frame [18, 19, 20, 21, 22, 23, 24, 25, 26, 27, 28, 29, 30, 31, 32, 33, 34, 35] (by rw [HO.out]; kernel_rfl)
          rw [hfr]
          clear hfr hc
          rw [HA.out]
          clear HA HO HL HW HS HGW A0 A4
          clear A O W L
          simp only [List.drop_succ_cons, List.drop_zero, List.foldl_cons, List.foldl_nil, Act.put, List.setIfInBounds_toArray, List.set_cons_succ, List.set_cons_zero]
          rw [e24, e34]
          generalize a'.eval (.tmp 18) = v18
          generalize a'.eval (.tmp 19) = v19
          generalize a'.eval (.tmp 20) = v20
          generalize a'.eval (.tmp 21) = v21
          generalize a'.eval (.tmp 22) = v22
          generalize a'.eval (.tmp 23) = v23
          generalize a'.eval (.tmp 25) = v25
          generalize a'.eval (.tmp 26) = v26
          generalize a'.eval (.tmp 27) = v27
          generalize a'.eval (.tmp 28) = v28
          generalize a'.eval (.tmp 29) = v29
          generalize a'.eval (.tmp 30) = v30
          generalize a'.eval (.tmp 31) = v31
          generalize a'.eval (.tmp 32) = v32
          generalize a'.eval (.tmp 33) = v33
          generalize a'.eval (.tmp 35) = v35
          clear e24 e34
          clear a'
          have HG5 := hide (gb_trans HGR.out hg5 (.inl rfl))
          clear hg5
          go_wp2_with fail
          go_roundw
          case rel => exact ⟨j + 1, by go_num, by omega, by rw [HAQ.out, HA1.out], HG5.out⟩
          case measure => simp [intOf]; omega
      · have hlt1 : ¬ (j : Int) < (l.length : Int) := by omega
        obtain rfl : j = l.length := by omega
        rw [HUN.out]
        have HGR := hide hgr
        clear hgr HUN HAZ
        have HLC := hide (show decide (0 < l.length) = true from decide_eq_true HL0.out)
        obtain ⟨w5, hw5⟩ : ∃ w5, w5 = wr.alloc (.cells #[.int .i64 0, .slice none 0 0, .slice none 0 0, .slice none 0 0] 26) := ⟨_, rfl⟩
        have hb5 : w5.heap[wr.heap.size]? = some (.cells #[.int .i64 0, .slice none 0 0, .slice none 0 0, .slice none 0 0] 26 (0, 0)) := by rw [hw5]; exact heap_alloc_new wr _
        have HWA5 := hide (show wa.grownBy w5 none by rw [hw5]; exact gb_trans HGR.out (gb_alloc (gb_refl wr none) _) (.inl rfl))
        have HB5 := hide hb5
        have HS5 := hide (show w5.heap.size = wr.heap.size + 1 by rw [hw5]; simp)
        have HLE3 := hide HGR.out.size
        go_upto_region 9 with fail
        rw [HLC.out, ← hw5]
        clear hb5 hw5 HLC
        generalize wr.heap.size = g3 at *
        have HLT3 := hide (show g3 < w5.heap.size by rw [HS5.out]; omega)
        go_wp2_with fail
        go_loopw [6] (fun i wq => ∃ j : Nat, i = .int .i64 (j : Int) ∧ j ≤ l.length ∧ Cl (.mk 0 [] [] l) w5 g3 none 0 none 0 j wq) (fun i _ => l.length - (intOf i).toNat)
        case atStart => exact ⟨0, rfl, Nat.zero_le _, none, 0, [], [], HB5.out, ⟨rfl, .inl ⟨rfl, rfl⟩⟩, ⟨rfl, rfl⟩, List.nodup_nil, by simp, Wrote.refl_ _ _⟩
        case round =>
          obtain ⟨j, rfl, hj, hcl⟩ := hrel
          obtain ⟨L, Lc, xs, f, hb, ho, ha, hnd, hf, hw⟩ := hcl
          have s5 := HWA5.out.size
          have hsa := HSZ.out
          clear s5 hsa
          by_cases hlt : j < l.length
          · have hlt1 : (j : Int) < (l.length : Int) := by omega
            obtain ⟨q', o', xA, xc, yA, yc, zA, zc, hA', hqB, hc4', hvb'⟩ := H.out.at_ hlt
            simp only [Option.some.injEq, Addr.mk.injEq, and_true] at hA'
            obtain ⟨rfl, rfl⟩ := hA'
            obtain ⟨y, hy⟩ : ∃ y, y = l[j] := ⟨_, rfl⟩
            have hc4 : C4 w q (o + j * 4) (.int .i64 y.t) (.slice xA y.n.length xc) (.slice yA y.s.length yc) (.slice zA y.l.length zc) := by subst hy; exact hc4'
            have hvb : VB w B y xA xc yA yc zA zc := by subst hy; exact hvb'
            have hyt : y.tot ≤ 1200000000 := by subst hy; exact Nat.le_trans (Vl.tot_mem (List.getElem_mem hlt)) HT.out
            have hwr : wa.grownBy wr none := hw.gb HWA5.out (by simp; exact HLE3.out)
            have hwr' := gb_trans HG.out hwr (.inl rfl)
            obtain ⟨d0, d1, d2, d3⟩ := hc4.gb hwr'
            have p3 : wr.cell? ⟨g3, 3, none⟩ = some (.slice L j Lc) := by rw [blk_cell hb]; rfl
            have HREC := hide (fun w2 (k : wr.grownBy w2 none) => rClone_d y.depth y w2 B xA xc yA yc zA zc (Nat.le_refl _) hyt (Nat.le_trans HBB.out (Nat.le_trans hwr'.size k.size)) (hvb.gb (gb_trans hwr' k (.inl rfl)) HBB.out))
            have HLB : Hid (∀ b, (Value.slice L j Lc).ownBlock = some b → w5.heap.size ≤ b ∧ b < wr.heap.size) := hide (fun b e => ho.lt b e)
            have HOR := hide ho
            have HBR := hide hb
            have HAR := hide ha
            have HNR := hide hnd
            have HFR := hide hf
            have HWR := hide hw
            have HY := hide hy
            have HJL := hide hlt
            obtain ⟨i1, hi1, hiz, his, hib⟩ := info_parts Tryz.infoV
            have HI1 := hide hi1
            have HIZ := hide hiz
            have HIS := hide his
            have HIB := hide hib
            have HM1 : Hid (j + 1 ≤ maxLen) := hide (by unfold maxLen; omega)
            have HMB : Hid ((j + 1) * 80 ≤ 140737488355328) := hide (by omega)
            clear hc4 hc4' hvb hvb' hwr hwr' hb ho ha hnd hf hw hi1 hiz his hib hy hyt
            go_wp2_with fail
            go_region_law
              (first
              | (go_simp; go_at_call 8; refine (HREC.out _ (gb_drew (gb_refl wr none))).mono ?_; rintro e w6 ⟨aA, ac, bA, bc, cA, cc, f6, rfl, ho6, hn6, hg6⟩; have HO6 := hide ho6; have HN6 := hide hn6; have HG6 := hide hg6; have HGA := hide (gb_trans (gb_drew (gb_refl wr none)) hg6 (.inl rfl)); have HG7 := hide (gb_trans HGA.out (gb_alloc (gb_refl w6 none) (.cells #[.int .i64 y.t, .slice aA y.n.length ac, .slice bA y.s.length bc, .slice cA y.l.length cc] 26)) (.inl rfl)); have p36 := cell_gb p3 HGA.out; have p37 := cell_gb p3 HG7.out; have HOL := hide (HOR.out.kept HG7.out (by cases (Value.slice L j Lc).ownBlock <;> simp)); have HRN := hide (rd_row (heap_alloc_new w6 (.cells #[.int .i64 y.t, .slice aA y.n.length ac, .slice bA y.s.length bc, .slice cA y.l.length cc] 26)) (xs := [.int .i64 y.t, .slice aA y.n.length ac, .slice bA y.s.length bc, .slice cA y.l.length cc]) rfl (by simp)); have HOC := hide (V4_one y.t aA bA cA y.n.length y.s.length y.l.length ac bc cc); have HBS := hide (Nat.le_trans HWR.out.size HG7.out.size); clear ho6 hn6 hg6)
              | (refine step_append_row' (by rfl) (.tmp 46) (.tmp 52) 24 (by rfl) w5.heap.size 26 i1 (.agg #[.int .i64 0, .slice none 0 0, .slice none 0 0, .slice none 0 0]) 4 80 Tryz.underlying24 HI1.out HIZ.out HIS.out HIB.out rfl (Nat.succ_pos 3) (.slice L j Lc) j (List.flatten xs) (by rfl) HOL.out (w6.alloc (.cells #[.int .i64 y.t, .slice aA y.n.length ac, .slice bA y.s.length bc, .slice cA y.l.length cc] 26)).heap.size (some ⟨w6.heap.size, 0, none⟩) 1 1 [.int .i64 y.t, .slice aA y.n.length ac, .slice bA y.s.length bc, .slice cA y.l.length cc] (by rfl) rfl HRN.out HOC.out HM1.out HMB.out HBS.out ?_; intro v8 w8 ho8 hg8 hb8; obtain ⟨A8, c8, rfl, _⟩ := own_slice ho8; have HO8 := hide ho8; have HG8 := hide hg8; have HLL8 := hide hb8; have hx8 : ∀ b, b < w5.heap.size → w8.heap[b]? = (w6.alloc (.cells #[.int .i64 y.t, .slice aA y.n.length ac, .slice bA y.s.length bc, .slice cA y.l.length cc] 26)).heap[b]? := (fun b h => hg8.block b (Nat.lt_of_lt_of_le h HBS.out) (fun e => by { have h9 := (HLB.out b e.symm).1; omega })); have HH8 := hide ((hx8 g3 HLT3.out).trans ((HG7.out.block g3 (Nat.lt_of_lt_of_le HLT3.out HWR.out.size) (by simp)).trans HBR.out)); have zz := blk_frozen HH8.out 3; have pp3 : w8.cell? ⟨g3, 3, none⟩ = some (.slice L j Lc) := (by { rw [blk_cell HH8.out]; rfl });  clear ho8 hg8 hb8 hx8))
            all_goals
              go_wp2_with fail
              go_roundw
              case rel => exact ⟨j + 1, by go_num, by omega, Cl.step (v := .mk 0 [] [] l) HJL.out HLT3.out HBR.out HOR.out HAR.out HNR.out HFR.out HWR.out (gb_drew (gb_refl wr none)) ((congrArg (fun z => VOw w6 z [.int .i64 y.t, .slice aA y.n.length ac, .slice bA y.s.length bc, .slice cA y.l.length cc] f6) HY.out).mp HO6.out) HN6.out HG6.out HO8.out HG8.out HLL8.out⟩
              case measure => simp [intOf]; omega
          · have hlt1 : ¬ (j : Int) < (l.length : Int) := by omega
            obtain rfl : j = l.length := by omega
            have hall : VOwAll wr l xs f := by
              have h := ha
              rw [show (Vl.mk 0 [] [] l).l = l from rfl, List.take_length] at h
              exact h
            have hwr : wa.grownBy wr none := hw.gb HWA5.out (by simp; exact HLE3.out)
            obtain ⟨fL, o3, r3⟩ := Own.of_row ho
            have hLc : l.length ≤ Lc := by
              rcases ho.2 with ⟨h, h'⟩ | ⟨_, _, _, h, _, _, hc, _⟩
              · omega
              · injection h with h1 h2 h3; omega
            have ndL : fL.Nodup := (New.one (a := w5) (c := wr) r3 o3.len (Nat.le_refl _)).1
            have s5 := HWA5.out.size
            have s6 := hw.size
            have hnew : New wa wr ([] ++ ([] ++ (fL ++ f))) := by
              simp only [List.nil_append]
              refine ⟨List.nodup_append.2 ⟨ndL, hnd, fun x hx y hy e => ?_⟩, fun x hx => ?_⟩
              · subst e
                exact (hf x hy).2 (o3.blk x hx)
              · rcases List.mem_append.1 hx with hx | hx
                · have := r3 x hx; omega
                · have h1 := hf x hx; have h2 := VOwAll.lt _ _ _ hall x hx; omega
            have hrr : wr.heap[w.heap.size]? = some (.cells zero4 26 (0, 0)) := (hwr.block _ (by have := HSZ.out; omega) (by simp)).trans HR.out
            have FIN := hide (NewV.at_put (v := .mk 0 [] [] l) (A1 := none) (A2 := none) (c1 := 0) (c2 := 0) (g := w.heap.size) (c3 := Lc) (Nat.le_refl _) (by have := HSZ.out; omega) HG.out hwr (Nat.le_refl _) Own.nil_ (Nat.le_refl _) Own.nil_ hLc o3 hall hnew)
            obtain ⟨k0, k1, k2, k3⟩ : C4 wr g3 0 (.int .i64 0) (.slice none 0 0) (.slice none 0 0) (.slice L l.length Lc) := ⟨by rw [blk_cell hb]; rfl, by rw [blk_cell hb]; rfl, by rw [blk_cell hb]; rfl, by rw [blk_cell hb]; rfl⟩
            obtain ⟨x0, x1, x2, x3, p0, p1, p2, p3⟩ := four_cells hrr (i := 0) (by decide)
            have z0 := blk_frozen hrr 0
            have z1 := blk_frozen hrr 1
            have z2 := blk_frozen hrr 2
            have z3 := blk_frozen hrr 3
            have HRR := hide hrr
            clear hb ho ha hnd hf hw hall hwr o3 r3 hLc ndL s5 s6 hnew hrr
            go_wp2_with fail
            obtain ⟨m0, m1, m2, m3⟩ := C4.put HRR.out (.int .i64 0) (.slice none 0 0) (.slice none 0 0) (.slice L l.length Lc)
            simp only [put4, Nat.zero_add] at m0 m1 m2 m3
            refine bodyPost_ret (v := .agg #[.int .i64 0, .slice none 0 0, .slice none 0 0, .slice L l.length Lc]) (by simp [results, Tryz.results50, go_sem, m0, m1, m2, m3]) rfl ?_
            exact FIN.out
end Go.Proofs.YtkbflmaflokpdaaGreat

namespace Go.Proofs.YtkbflmaflokpdaaGreat
open Go.RowKit
attribute [local go_sem ↓] Go.wp_at_zero Go.wp_at_succ

theorem alike_at {l : List Vl} (h : alikeV l (headT l) l.length = true) (h0 : 0 < l.length) : -5 ≤ headT l ∧ headT l < 0 := by
  unfold alikeV at h
  rw [List.take_length, Bool.and_eq_true, List.all_eq_true] at h
  have h1 := h.2 l[0] (List.getElem_mem h0)
  rw [headT_at h0]
  simp only [rAtom, Bool.and_eq_true, decide_eq_true_eq] at h1
  omega
/-- The vector in the making: its block, and its rows. -/
structure GrowP (w1 : World) (t : Int) (n : List Int) (s : List ByteArray) (N : Option Addr) (nc : Nat) (S : Option Addr) (sc : Nat) (wr : World) : Prop where
  hh : wr.heap[w1.heap.size]? = some (.cells #[.int .i64 t, .slice N n.length nc, .slice S s.length sc, .slice none 0 0] 26 (0, 0))
  hn : wr.ownsRow (w1.heap.size + 1) 2 1 (.slice N n.length nc) n.length (i64s n)
  hs : wr.ownsRow (w1.heap.size + 1) 9 1 (.slice S s.length sc) s.length (strs s)
  hg : w1.grownBy wr none
theorem GrowP.num {w1 wr wd w5 : World} {t : Int} {n m : List Int} {s : List ByteArray} {N N5 S : Option Addr} {nc nc5 sc : Nat} (h : GrowP w1 t n s N nc S sc wr) (hd : wr.grownBy wd none)
    (ho : w5.ownsRow (w1.heap.size + 1) 2 1 (.slice N5 (n.length + m.length) nc5) (n.length + m.length) (i64s n ++ i64s m)) (hg : wd.grownBy w5 (Value.slice N n.length nc).ownBlock) :
    w5.heap[w1.heap.size]? = some (.cells #[.int .i64 t, .slice N n.length nc, .slice S s.length sc, .slice none 0 0] 26 (0, 0)) ∧
    GrowP w1 t (n ++ m) s N5 nc5 S sc (w5.setCell ⟨w1.heap.size, 1, none⟩ (.slice N5 (n.length + m.length) nc5)) ∧
    (∀ b, b < w1.heap.size → (w5.setCell ⟨w1.heap.size, 1, none⟩ (.slice N5 (n.length + m.length) nc5)).heap[b]? = wr.heap[b]?) ∧ wr.heap.size ≤ (w5.setCell ⟨w1.heap.size, 1, none⟩ (.slice N5 (n.length + m.length) nc5)).heap.size := by
  obtain ⟨h1, h2, h3, h4⟩ := h
  rw [← i64s_app] at ho
  have hlt := blk_lt h1
  have hne : ∀ b, b < w1.heap.size + 1 → (Value.slice N n.length nc).ownBlock ≠ some b := fun b hb e => by have := (h2.lt b e).1; omega
  have k1 := (hg.block w1.heap.size (by have := hd.size; omega) (fun e => hne _ (Nat.lt_succ_self _) e.symm)).trans ((hd.block _ hlt (by simp)).trans h1)
  have hgs : w5.grownBy (w5.setCell ⟨w1.heap.size, 1, none⟩ (.slice N5 (n.length + m.length) nc5)) (some w1.heap.size) := gb_setCell (gb_refl _ _) (.inl rfl) _
  have k3 := (h3.kept hd (by cases (Value.slice S s.length sc).ownBlock <;> simp)).kept hg (rows_apart h3 h2 (by decide))
  have hgr : w1.grownBy w5 none := gb_trans (gb_trans h4 hd (.inl rfl)) hg (match hq : (Value.slice N n.length nc).ownBlock with | none => .inr (.inl rfl) | some g => .inr (.inr ⟨g, rfl, by have := (h2.lt g hq).1; omega⟩))
  refine ⟨k1, ⟨?_, ?_, ?_, ?_⟩, fun b hb => ?_, ?_⟩
  · rw [List.length_append]
    exact blk_set k1 1 _
  · rw [List.length_append]
    exact ho.kept hgs (.inr (own_ne ho k1 (by decide)))
  · exact k3.kept hgs (.inr (own_ne k3 k1 (by decide)))
  · exact gb_trans hgr hgs (.inr (.inr ⟨_, rfl, Nat.le_refl _⟩))
  · have h9 := h4.size
    have h8 := hd.size
    have h7 := hg.size
    rw [hgs.block b (by omega) (by intro e; injection e with e; omega), hg.block b (by omega) (fun e => hne b (by omega) e.symm), hd.block b (by omega) (by simp)]
  · have h8 := hd.size
    have h7 := hg.size
    have h6 := hgs.size
    omega
theorem GrowP.str {w1 wr wd w5 : World} {t : Int} {n : List Int} {s m : List ByteArray} {N S S5 : Option Addr} {nc sc sc5 : Nat} (h : GrowP w1 t n s N nc S sc wr) (hd : wr.grownBy wd none)
    (ho : w5.ownsRow (w1.heap.size + 1) 9 1 (.slice S5 (s.length + m.length) sc5) (s.length + m.length) (strs s ++ strs m)) (hg : wd.grownBy w5 (Value.slice S s.length sc).ownBlock) :
    w5.heap[w1.heap.size]? = some (.cells #[.int .i64 t, .slice N n.length nc, .slice S s.length sc, .slice none 0 0] 26 (0, 0)) ∧
    GrowP w1 t n (s ++ m) N nc S5 sc5 (w5.setCell ⟨w1.heap.size, 2, none⟩ (.slice S5 (s.length + m.length) sc5)) := by
  obtain ⟨h1, h2, h3, h4⟩ := h
  rw [← strs_app] at ho
  have hlt := blk_lt h1
  have hne : ∀ b, b < w1.heap.size + 1 → (Value.slice S s.length sc).ownBlock ≠ some b := fun b hb e => by have := (h3.lt b e).1; omega
  have k1 := (hg.block w1.heap.size (by have := hd.size; omega) (fun e => hne _ (Nat.lt_succ_self _) e.symm)).trans ((hd.block _ hlt (by simp)).trans h1)
  have hgs : w5.grownBy (w5.setCell ⟨w1.heap.size, 2, none⟩ (.slice S5 (s.length + m.length) sc5)) (some w1.heap.size) := gb_setCell (gb_refl _ _) (.inl rfl) _
  have k3 := (h2.kept hd (by cases (Value.slice N n.length nc).ownBlock <;> simp)).kept hg (rows_apart h2 h3 (by decide))
  have hgr : w1.grownBy w5 none := gb_trans (gb_trans h4 hd (.inl rfl)) hg (match hq : (Value.slice S s.length sc).ownBlock with | none => .inr (.inl rfl) | some g => .inr (.inr ⟨g, rfl, by have := (h3.lt g hq).1; omega⟩))
  refine ⟨k1, ⟨?_, ?_, ?_, ?_⟩⟩
  · rw [List.length_append]
    exact blk_set k1 2 _
  · exact k3.kept hgs (.inr (own_ne k3 k1 (by decide)))
  · rw [List.length_append]
    exact ho.kept hgs (.inr (own_ne ho k1 (by decide)))
  · exact gb_trans hgr hgs (.inr (.inr ⟨_, rfl, Nat.le_refl _⟩))

set_option maxHeartbeats 16000000 in
set_option maxRecDepth 100000 in
theorem rOf_vec (l : List Vl) (w : World) (B : Nat) (A : Option Addr) (c : Nat) (hu : alikeV l (headT l) l.length = true) (hl0 : 0 < l.length) (ht : Vl.tots l ≤ 1200000000) (hB : B ≤ w.heap.size) (h : RdV w B A l) :
    Calls Tryz.prog 50 #[.slice A l.length c] w (NewV (.mk (-(headT l)) (l.flatMap Vl.n) (l.flatMap Vl.s) []) w) := by
  obtain ⟨wa, hwa⟩ : ∃ wa, wa = w.alloc (.cells #[.int .i64 0, .slice none 0 0, .slice none 0 0, .slice none 0 0] 26) := ⟨_, rfl⟩
  have hg : w.grownBy wa none := by rw [hwa]; exact gb_alloc (gb_refl w none) _
  have hr : wa.heap[w.heap.size]? = some (.cells #[.int .i64 0, .slice none 0 0, .slice none 0 0, .slice none 0 0] 26 (0, 0)) := by rw [hwa]; exact heap_alloc_new w _
  have HSZ := hide (show wa.heap.size = w.heap.size + 1 by rw [hwa]; simp)
  have HG := hide hg
  have HR := hide hr
  have HWE := hide hwa
  have l1 : l.length ≤ 1200000000 := Nat.le_trans (Vl.length_le_tots l) ht
  have HT := hide ht
  have H := hide h
  have HBB := hide hB
  obtain ⟨q, o, xA0, xc0, yA0, yc0, zA0, zc0, rfl, hqB0, hc40, hvb0⟩ := h.first hl0
  have hc00 := hc40.c0
  rw [← headT_at hl0] at hc00
  have HC40 := hide hc00
  have HUN := hide hu
  have hl01 : (0 : Int) < (l.length : Int) := by omega
  have HAZ := hide (alikeV_zero (headT l) hl0)
  have HL0 := hide hl0
  have HLN : Hid (l ≠ []) := hide (by intro e; rw [e] at hl0; exact Nat.lt_irrefl 0 hl0)
  have hu0 := hu
  have hl00 := hl0
  clear hu ht hB h hg hr hwa hc00 hc40 hvb0 hqB0
  clear hl0
  obtain ⟨hb1, hb2⟩ := alike_at hu0 hl00
  have HFN : Hid (∀ k, ((l.take k).flatMap Vl.n).length ≤ 1200000000) := hide (fun k => Nat.le_trans (flatN_le _) (Nat.le_trans (Vl.tots_take_le l k) HT.out))
  have HFS : Hid (∀ k, ((l.take k).flatMap Vl.s).length ≤ 1200000000) := hide (fun k => Nat.le_trans (flatS_le _) (Nat.le_trans (Vl.tots_take_le l k) HT.out))
  clear hu0 hl00
  generalize headT l = t0 at *
  have hneg : IntKind.i64.wrap (-t0) = -t0 := by rw [IntKind.wrap_i64]; omega
  go_enter Tryz.func50, Tryz.ntmps50
  go_wp2_with fail
  rw [← HWE.out]
  go_loopw [3, 4] (fun al i wr => ∃ j : Nat, i = .int .i64 (j : Int) ∧ j ≤ l.length ∧ al = .bool (alikeV l t0 j) ∧ wa.grownBy wr none) (fun _ i _ => l.length - (intOf i).toNat)
  case atStart => exact ⟨0, rfl, Nat.zero_le _, by rw [HAZ.out, decide_eq_true HL0.out], gb_refl wa none⟩
  case round =>
      obtain ⟨j, rfl, hj, rfl, hgr⟩ := hrel
      by_cases hlt : j < l.length
      · have hlt1 : (j : Int) < (l.length : Int) := by omega
        obtain ⟨q', o', xA, xc, yA, yc, zA, zc, hA', hqB, hc4', hvb'⟩ := H.out.at_ hlt
        simp only [Option.some.injEq, Addr.mk.injEq, and_true] at hA'
        obtain ⟨rfl, rfl⟩ := hA'
        obtain ⟨y, hy⟩ : ∃ y, y = l[j] := ⟨_, rfl⟩
        have hc4 : C4 w q (o + j * 4) (.int .i64 y.t) (.slice xA y.n.length xc) (.slice yA y.s.length yc) (.slice zA y.l.length zc) := by subst hy; exact hc4'
        have hvb : VB w B y xA xc yA yc zA zc := by subst hy; exact hvb'
        have hal : alikeV l t0 (j + 1) = (alikeV l t0 j && (rAtom y.t && decide (y.t = t0))) := by subst hy; exact alikeV_succ hlt
        have hgw := gb_trans HG.out hgr (.inl rfl)
        have hc5 := hc4.gb hgw
        have HD0 := hide hc5.c0
        have HD1 := hide hc5.c1
        have HD2 := hide hc5.c2
        have HD3 := hide hc5.c3
        have HE0 := hide (cell_gb HC40.out hgw)
        have HAT := hide (fun w2 => rAtom_any y.t (.slice xA y.n.length xc) (.slice yA y.s.length yc) (.slice zA y.l.length zc) w2)
        have HAL := hide hal
        have HGR := hide hgr
        have HJ := hide hlt
        clear hy hc4 hvb hc4' hvb' hal hgw hc5 hgr
        generalize alikeV l t0 j = al at *
        generalize hq1 : alikeV l t0 (j + 1) = al1 at *
        have HAQ := hide hq1
        clear hq1
        generalize rAtom y.t = ra at HAT HAL
        by_cases ha : ra = true
        · subst ha
          go_wp2_with fail
          refine wp_region_facts' 17 (by kernel_rfl) (by kernel_rfl) ?_
          intro A O W L HA HO HW HL
          simp only [List.take_succ_cons, List.take_zero]
          have HS := hide (show A.tmps.size = 87 by rw [HA.out]; rfl)
          have HGW := hide (show wr.grownBy W none by rw [HW.out]; exact gb_drew (gb_refl wr none))
          have A0 := hide (show A.eval (.tmp 0) = .slice (some ⟨q, o, none⟩) l.length c by rw [HA.out]; rfl)
          have A4 := hide (show A.eval (.tmp 4) = .int .i64 (j : Int) by rw [HA.out]; rfl)
          -- slot 18
          refine wpFacts_lit (.slice (some ⟨q, o, none⟩) l.length c) rfl ?_ ?_
          · intro a wq hw hl
            have e0 : a.tmps[0]?.getD undef = .slice (some ⟨q, o, none⟩) l.length c := (hl 0 (by first | (simp [Op.operands]; done) | simp [Op.operands, Call.operands]) (by rw [HS.out]; decide)).trans A0.out
            clear hl
            go_simp
          -- slot 19
          refine wpFacts_lit (.int .i64 (j : Int)) rfl ?_ ?_
          · intro a wq hw hl
            have e4 : a.tmps[4]?.getD undef = .int .i64 (j : Int) := (hl 4 (by first | (simp [Op.operands]; done) | simp [Op.operands, Call.operands]) (by rw [HS.out]; decide)).trans A4.out
            clear hl
            go_simp
          -- slot 20
          refine wpFacts_lit (.pointer (some ⟨q, o + j * 4, none⟩)) rfl ?_ ?_
          · intro a wq hw hl
            have e18 : a.tmps[18]?.getD undef = .slice (some ⟨q, o, none⟩) l.length c := hl 18 (by first | (simp [Op.operands]; done) | simp [Op.operands, Call.operands]) (by rw [HS.out]; decide)
            have e19 : a.tmps[19]?.getD undef = .int .i64 (j : Int) := hl 19 (by first | (simp [Op.operands]; done) | simp [Op.operands, Call.operands]) (by rw [HS.out]; decide)
            have hlt9 := hlt1
            clear hl
            go_simp
          -- slot 21
          refine wpFacts_lit (.agg #[.int .i64 y.t, .slice xA y.n.length xc, .slice yA y.s.length yc, .slice zA y.l.length zc]) rfl ?_ ?_
          · intro a wq hw hl
            have e20 : a.tmps[20]?.getD undef = .pointer (some ⟨q, o + j * 4, none⟩) := hl 20 (by first | (simp [Op.operands]; done) | simp [Op.operands, Call.operands]) (by rw [HS.out]; decide)
            have c0 := cell_gb HD0.out (gb_trans HGW.out hw (.inl rfl))
            have c1 := cell_gb HD1.out (gb_trans HGW.out hw (.inl rfl))
            have c2 := cell_gb HD2.out (gb_trans HGW.out hw (.inl rfl))
            have c3 := cell_gb HD3.out (gb_trans HGW.out hw (.inl rfl))
            clear hl
            go_simp
          -- slot 22
          refine wpFacts_step (fun vq _ => vq = .bool true) rfl (Lit.up _) ?_ ?_
          · intro a wq hw hl
            have e21 : a.tmps[21]?.getD undef = .agg #[.int .i64 y.t, .slice xA y.n.length xc, .slice yA y.s.length yc, .slice zA y.l.length zc] := hl 21 (by first | (simp [Op.operands]; done) | simp [Op.operands, Call.operands]) (by rw [HS.out]; decide)
            clear hl
            go_simp
            exact gUpon_lit (HAT.out _)
          -- slot 23
          refine wpFacts_lit (.bool false) rfl ?_ ?_
          · intro a wq hw hl
            have e22 : a.tmps[22]?.getD undef = .bool true := hl 22 (by first | (simp [Op.operands]; done) | simp [Op.operands, Call.operands]) (by rw [HS.out]; decide)
            clear hl
            go_simp
          -- slot 24
          refine wpFacts_lit (.bool false) rfl ?_ ?_
          · intro a wq hw hl
            have e23 : a.tmps[23]?.getD undef = .bool false := hl 23 (by first | (simp [Op.operands]; done) | simp [Op.operands, Call.operands]) (by rw [HS.out]; decide)
            clear hl
            go_simp
          -- slot 25
          refine wpFacts_litG (.slice (some ⟨q, o, none⟩) l.length c) 6 false 24 rfl (by rw [HO.out]; rfl) (by rw [HS.out]; decide) (fun _ _ h => h) ?_ ?_
          · intro a wq hw hl
            have e0 : a.tmps[0]?.getD undef = .slice (some ⟨q, o, none⟩) l.length c := (hl 0 (by first | (simp [Op.operands]; done) | simp [Op.operands, Call.operands]) (by rw [HS.out]; decide)).trans A0.out
            clear hl
            go_simp
          -- slot 26
          refine wpFacts_litG (.int .i64 (j : Int)) 6 false 24 rfl (by rw [HO.out]; rfl) (by rw [HS.out]; decide) (fun _ _ h => h) ?_ ?_
          · intro a wq hw hl
            have e4 : a.tmps[4]?.getD undef = .int .i64 (j : Int) := (hl 4 (by first | (simp [Op.operands]; done) | simp [Op.operands, Call.operands]) (by rw [HS.out]; decide)).trans A4.out
            clear hl
            go_simp
          -- slot 27
          refine wpFacts_litG (.pointer (some ⟨q, o + j * 4, none⟩)) 6 false 24 rfl (by rw [HO.out]; rfl) (by rw [HS.out]; decide) (fun _ _ h => h) ?_ ?_
          · intro a wq hw hl
            have e25 : a.tmps[25]?.getD undef = .slice (some ⟨q, o, none⟩) l.length c := hl 25 (by first | (simp [Op.operands]; done) | simp [Op.operands, Call.operands]) (by rw [HS.out]; decide)
            have e26 : a.tmps[26]?.getD undef = .int .i64 (j : Int) := hl 26 (by first | (simp [Op.operands]; done) | simp [Op.operands, Call.operands]) (by rw [HS.out]; decide)
            have hlt9 := hlt1
            clear hl
            go_simp
          -- slot 28
          refine wpFacts_litG (.pointer (some ⟨q, o + j * 4, none⟩)) 6 false 24 rfl (by rw [HO.out]; rfl) (by rw [HS.out]; decide) (fun _ _ h => h) ?_ ?_
          · intro a wq hw hl
            have e27 : a.tmps[27]?.getD undef = .pointer (some ⟨q, o + j * 4, none⟩) := hl 27 (by first | (simp [Op.operands]; done) | simp [Op.operands, Call.operands]) (by rw [HS.out]; decide)
            clear hl
            go_simp
          -- slot 29
          refine wpFacts_litG (.int .i64 y.t) 6 false 24 rfl (by rw [HO.out]; rfl) (by rw [HS.out]; decide) (fun _ _ h => h) ?_ ?_
          · intro a wq hw hl
            have e28 : a.tmps[28]?.getD undef = .pointer (some ⟨q, o + j * 4, none⟩) := hl 28 (by first | (simp [Op.operands]; done) | simp [Op.operands, Call.operands]) (by rw [HS.out]; decide)
            have c0 := cell_gb HD0.out (gb_trans HGW.out hw (.inl rfl))
            clear hl
            go_simp
          -- slot 30
          refine wpFacts_litG (.slice (some ⟨q, o, none⟩) l.length c) 6 false 24 rfl (by rw [HO.out]; rfl) (by rw [HS.out]; decide) (fun _ _ h => h) ?_ ?_
          · intro a wq hw hl
            have e0 : a.tmps[0]?.getD undef = .slice (some ⟨q, o, none⟩) l.length c := (hl 0 (by first | (simp [Op.operands]; done) | simp [Op.operands, Call.operands]) (by rw [HS.out]; decide)).trans A0.out
            clear hl
            go_simp
          -- slot 31
          refine wpFacts_litG (.pointer (some ⟨q, o, none⟩)) 6 false 24 rfl (by rw [HO.out]; rfl) (by rw [HS.out]; decide) (fun _ _ h => h) ?_ ?_
          · intro a wq hw hl
            have e30 : a.tmps[30]?.getD undef = .slice (some ⟨q, o, none⟩) l.length c := hl 30 (by first | (simp [Op.operands]; done) | simp [Op.operands, Call.operands]) (by rw [HS.out]; decide)
            have hl09 := HLN.out
            clear hl
            go_simp
          -- slot 32
          refine wpFacts_litG (.pointer (some ⟨q, o, none⟩)) 6 false 24 rfl (by rw [HO.out]; rfl) (by rw [HS.out]; decide) (fun _ _ h => h) ?_ ?_
          · intro a wq hw hl
            have e31 : a.tmps[31]?.getD undef = .pointer (some ⟨q, o, none⟩) := hl 31 (by first | (simp [Op.operands]; done) | simp [Op.operands, Call.operands]) (by rw [HS.out]; decide)
            clear hl
            go_simp
          -- slot 33
          refine wpFacts_litG (.int .i64 t0) 6 false 24 rfl (by rw [HO.out]; rfl) (by rw [HS.out]; decide) (fun _ _ h => h) ?_ ?_
          · intro a wq hw hl
            have e32 : a.tmps[32]?.getD undef = .pointer (some ⟨q, o, none⟩) := hl 32 (by first | (simp [Op.operands]; done) | simp [Op.operands, Call.operands]) (by rw [HS.out]; decide)
            have c0 := cell_gb HE0.out (gb_trans HGW.out hw (.inl rfl))
            clear hl
            go_simp
          -- slot 34
          refine wpFacts_litG (.bool (y.t != t0)) 6 false 24 rfl (by rw [HO.out]; rfl) (by rw [HS.out]; decide) (fun _ _ h => h) ?_ ?_
          · intro a wq hw hl
            have e29 : a.tmps[29]?.getD undef = .int .i64 y.t := hl 29 (by first | (simp [Op.operands]; done) | simp [Op.operands, Call.operands]) (by rw [HS.out]; decide)
            have e33 : a.tmps[33]?.getD undef = .int .i64 t0 := hl 33 (by first | (simp [Op.operands]; done) | simp [Op.operands, Call.operands]) (by rw [HS.out]; decide)
            clear hl
            go_simp
          refine HL.out _ (fun a' w5 hc => ?_)
          have e24 : a'.eval (.tmp 24) = .bool false := hc.fact 24 (by rw [HS.out]; decide)
          have e34 : a'.eval (.tmp 34) = .bool (y.t != t0) := hc.fact 34 (by rw [HS.out]; decide)
          have hg5 := gb_trans HGW.out hc.grown (.inl rfl)
          have hfr := hc.frame [18, 19, 20, 21, 22, 23, 24, 25, 26, 27, 28, 29, 30, 31, 32, 33, 34, 35] (by rw [HO.out]; kernel_rfl)
          rw [hfr]
          clear hfr hc
          rw [HA.out]
          clear HA HO HL HW HS HGW A0 A4
          clear A O W L
          simp only [List.drop_succ_cons, List.drop_zero, List.foldl_cons, List.foldl_nil, Act.put, List.setIfInBounds_toArray, List.set_cons_succ, List.set_cons_zero]
          rw [e24, e34]
          generalize a'.eval (.tmp 18) = v18
          generalize a'.eval (.tmp 19) = v19
          generalize a'.eval (.tmp 20) = v20
          generalize a'.eval (.tmp 21) = v21
          generalize a'.eval (.tmp 22) = v22
          generalize a'.eval (.tmp 23) = v23
          generalize a'.eval (.tmp 25) = v25
          generalize a'.eval (.tmp 26) = v26
          generalize a'.eval (.tmp 27) = v27
          generalize a'.eval (.tmp 28) = v28
          generalize a'.eval (.tmp 29) = v29
          generalize a'.eval (.tmp 30) = v30
          generalize a'.eval (.tmp 31) = v31
          generalize a'.eval (.tmp 32) = v32
          generalize a'.eval (.tmp 33) = v33
          generalize a'.eval (.tmp 35) = v35
          clear e24 e34
          clear a'
          have HG5 := hide (gb_trans HGR.out hg5 (.inl rfl))
          clear hg5
          by_cases ht : y.t = t0
          · have e1 := int_bne_t ht
            have HA1 := hide (show al1 = al by rw [HAL.out, decide_eq_true ht]; simp)
            clear ht HAL
            go_wp2_with fail
            go_roundw
            case rel => exact ⟨j + 1, by go_num, by omega, by rw [HAQ.out, HA1.out], HG5.out⟩
            case measure => simp [intOf]; omega
          · have e1 := int_bne_f ht
            have HA1 := hide (show al1 = false by rw [HAL.out, decide_eq_false ht]; simp)
            clear ht HAL
            go_wp2_with fail
            go_roundw
            case rel => exact ⟨j + 1, by go_num, by omega, by rw [HAQ.out, HA1.out], HG5.out⟩
            case measure => simp [intOf]; omega
        · obtain rfl := Bool.eq_false_iff.2 ha
          have HA1 := hide (show al1 = false by rw [HAL.out]; simp)
          clear ha HAL
          go_wp2_with fail
          refine wp_region_facts' 17 (by kernel_rfl) (by kernel_rfl) ?_
          intro A O W L HA HO HW HL
          simp only [List.take_succ_cons, List.take_zero]
          have HS := hide (show A.tmps.size = 87 by rw [HA.out]; rfl)
          have HGW := hide (show wr.grownBy W none by rw [HW.out]; exact gb_drew (gb_refl wr none))
          have A0 := hide (show A.eval (.tmp 0) = .slice (some ⟨q, o, none⟩) l.length c by rw [HA.out]; rfl)
          have A4 := hide (show A.eval (.tmp 4) = .int .i64 (j : Int) by rw [HA.out]; rfl)
          -- slot 18
          refine wpFacts_lit (.slice (some ⟨q, o, none⟩) l.length c) rfl ?_ ?_
          · intro a wq hw hl
            have e0 : a.tmps[0]?.getD undef = .slice (some ⟨q, o, none⟩) l.length c := (hl 0 (by first | (simp [Op.operands]; done) | simp [Op.operands, Call.operands]) (by rw [HS.out]; decide)).trans A0.out
            clear hl
            go_simp
          -- slot 19
          refine wpFacts_lit (.int .i64 (j : Int)) rfl ?_ ?_
          · intro a wq hw hl
            have e4 : a.tmps[4]?.getD undef = .int .i64 (j : Int) := (hl 4 (by first | (simp [Op.operands]; done) | simp [Op.operands, Call.operands]) (by rw [HS.out]; decide)).trans A4.out
            clear hl
            go_simp
          -- slot 20
          refine wpFacts_lit (.pointer (some ⟨q, o + j * 4, none⟩)) rfl ?_ ?_
          · intro a wq hw hl
            have e18 : a.tmps[18]?.getD undef = .slice (some ⟨q, o, none⟩) l.length c := hl 18 (by first | (simp [Op.operands]; done) | simp [Op.operands, Call.operands]) (by rw [HS.out]; decide)
            have e19 : a.tmps[19]?.getD undef = .int .i64 (j : Int) := hl 19 (by first | (simp [Op.operands]; done) | simp [Op.operands, Call.operands]) (by rw [HS.out]; decide)
            have hlt9 := hlt1
            clear hl
            go_simp
          -- slot 21
          refine wpFacts_lit (.agg #[.int .i64 y.t, .slice xA y.n.length xc, .slice yA y.s.length yc, .slice zA y.l.length zc]) rfl ?_ ?_
          · intro a wq hw hl
            have e20 : a.tmps[20]?.getD undef = .pointer (some ⟨q, o + j * 4, none⟩) := hl 20 (by first | (simp [Op.operands]; done) | simp [Op.operands, Call.operands]) (by rw [HS.out]; decide)
            have c0 := cell_gb HD0.out (gb_trans HGW.out hw (.inl rfl))
            have c1 := cell_gb HD1.out (gb_trans HGW.out hw (.inl rfl))
            have c2 := cell_gb HD2.out (gb_trans HGW.out hw (.inl rfl))
            have c3 := cell_gb HD3.out (gb_trans HGW.out hw (.inl rfl))
            clear hl
            go_simp
          -- slot 22
          refine wpFacts_step (fun vq _ => vq = .bool false) rfl (Lit.up _) ?_ ?_
          · intro a wq hw hl
            have e21 : a.tmps[21]?.getD undef = .agg #[.int .i64 y.t, .slice xA y.n.length xc, .slice yA y.s.length yc, .slice zA y.l.length zc] := hl 21 (by first | (simp [Op.operands]; done) | simp [Op.operands, Call.operands]) (by rw [HS.out]; decide)
            clear hl
            go_simp
            exact gUpon_lit (HAT.out _)
          -- slot 23
          refine wpFacts_lit (.bool true) rfl ?_ ?_
          · intro a wq hw hl
            have e22 : a.tmps[22]?.getD undef = .bool false := hl 22 (by first | (simp [Op.operands]; done) | simp [Op.operands, Call.operands]) (by rw [HS.out]; decide)
            clear hl
            go_simp
          -- slot 24
          refine wpFacts_lit (.bool true) rfl ?_ ?_
          · intro a wq hw hl
            have e23 : a.tmps[23]?.getD undef = .bool true := hl 23 (by first | (simp [Op.operands]; done) | simp [Op.operands, Call.operands]) (by rw [HS.out]; decide)
            clear hl
            go_simp
          -- slot 25
          refine wpFacts_skip 6 false 24 rfl (by rw [HO.out]; rfl) (by rw [HS.out]; decide) (fun _ _ h => h) ?_
          -- slot 26
          refine wpFacts_skip 6 false 24 rfl (by rw [HO.out]; rfl) (by rw [HS.out]; decide) (fun _ _ h => h) ?_
          -- slot 27
          refine wpFacts_skip 6 false 24 rfl (by rw [HO.out]; rfl) (by rw [HS.out]; decide) (fun _ _ h => h) ?_
          -- slot 28
          refine wpFacts_skip 6 false 24 rfl (by rw [HO.out]; rfl) (by rw [HS.out]; decide) (fun _ _ h => h) ?_
          -- slot 29
          refine wpFacts_skip 6 false 24 rfl (by rw [HO.out]; rfl) (by rw [HS.out]; decide) (fun _ _ h => h) ?_
          -- slot 30
          refine wpFacts_skip 6 false 24 rfl (by rw [HO.out]; rfl) (by rw [HS.out]; decide) (fun _ _ h => h) ?_
          -- slot 31
          refine wpFacts_skip 6 false 24 rfl (by rw [HO.out]; rfl) (by rw [HS.out]; decide) (fun _ _ h => h) ?_
          -- slot 32
          refine wpFacts_skip 6 false 24 rfl (by rw [HO.out]; rfl) (by rw [HS.out]; decide) (fun _ _ h => h) ?_
          -- slot 33
          refine wpFacts_skip 6 false 24 rfl (by rw [HO.out]; rfl) (by rw [HS.out]; decide) (fun _ _ h => h) ?_
          -- slot 34
          refine wpFacts_skip 6 false 24 rfl (by rw [HO.out]; rfl) (by rw [HS.out]; decide) (fun _ _ h => h) ?_
          refine HL.out _ (fun a' w5 hc => ?_)
          have e24 : a'.eval (.tmp 24) = .bool true := hc.fact 24 (by rw [HS.out]; decide)
          have e34 : a'.eval (.tmp 34) = undef := hc.fact 34 (by rw [HS.out]; decide)
          have hg5 := gb_trans HGW.out hc.grown (.inl rfl)
          have hfr := hc.frame [18, 19, 20, 21, 22, 23, 24, 25, 26, 27, 28, 29, 30, 31, 32, 33, 34, 35] (by rw [HO.out]; kernel_rfl)
          rw [hfr]
          clear hfr hc
          rw [HA.out]
          clear HA HO HL HW HS HGW A0 A4
          clear A O W L
          simp only [List.drop_succ_cons, List.drop_zero, List.foldl_cons, List.foldl_nil, Act.put, List.setIfInBounds_toArray, List.set_cons_succ, List.set_cons_zero]
          rw [e24, e34]
          generalize a'.eval (.tmp 18) = v18
          generalize a'.eval (.tmp 19) = v19
          generalize a'.eval (.tmp 20) = v20
          generalize a'.eval (.tmp 21) = v21
          generalize a'.eval (.tmp 22) = v22
          generalize a'.eval (.tmp 23) = v23
          generalize a'.eval (.tmp 25) = v25
          generalize a'.eval (.tmp 26) = v26
          generalize a'.eval (.tmp 27) = v27
          generalize a'.eval (.tmp 28) = v28
          generalize a'.eval (.tmp 29) = v29
          generalize a'.eval (.tmp 30) = v30
          generalize a'.eval (.tmp 31) = v31
          generalize a'.eval (.tmp 32) = v32
          generalize a'.eval (.tmp 33) = v33
          generalize a'.eval (.tmp 35) = v35
          clear e24 e34
          clear a'
          have HG5 := hide (gb_trans HGR.out hg5 (.inl rfl))
          clear hg5
          go_wp2_with fail
          go_roundw
          case rel => exact ⟨j + 1, by go_num, by omega, by rw [HAQ.out, HA1.out], HG5.out⟩
          case measure => simp [intOf]; omega
      · have hlt1 : ¬ (j : Int) < (l.length : Int) := by omega
        obtain rfl : j = l.length := by omega
        rw [HUN.out]
        obtain ⟨w1, rfl⟩ : ∃ w1, w1 = wr := ⟨_, rfl⟩
        have HG1 := hide hgr
        have d0 := cell_gb HC40.out (gb_trans HG.out hgr (.inl rfl))
        have hl09 := HLN.out
        clear hgr HUN HAZ
        have HLC := hide (show decide (0 < l.length) = true from decide_eq_true HL0.out)
        go_upto_region 15 with fail
        rw [HLC.out]
        clear HLC hl09
        obtain ⟨w5, hw5⟩ : ∃ w5, w5 = w1.alloc (.cells #[.int .i64 (-t0), .slice none 0 0, .slice none 0 0, .slice none 0 0] 26) := ⟨_, rfl⟩
        have HGP0 := hide (show GrowP w1 (-t0) [] [] none 0 none 0 w5 by rw [hw5]; exact ⟨heap_alloc_new w1 _, ⟨rfl, .inl ⟨rfl, rfl⟩⟩, ⟨rfl, .inl ⟨rfl, rfl⟩⟩, gb_alloc (gb_refl w1 none) _⟩)
        rw [← hw5]
        clear hw5
        go_wp2_with fail
        go_loopw [8] (fun i wq => ∃ j : Nat, i = .int .i64 (j : Int) ∧ j ≤ l.length ∧ ∃ N nc S sc, GrowP w1 (-t0) ((l.take j).flatMap Vl.n) ((l.take j).flatMap Vl.s) N nc S sc wq) (fun i _ => l.length - (intOf i).toNat)
        case atStart => exact ⟨0, rfl, Nat.zero_le _, _, _, _, _, HGP0.out⟩
        case round =>
          obtain ⟨j, rfl, hj, N, nc, S, sc, hgp⟩ := hrel
          by_cases hlt : j < l.length
          · have hlt1 : (j : Int) < (l.length : Int) := by omega
            obtain ⟨q', o', xA, xc, yA, yc, zA, zc, hA', hqB, hc4', hvb'⟩ := H.out.at_ hlt
            simp only [Option.some.injEq, Addr.mk.injEq, and_true] at hA'
            obtain ⟨rfl, rfl⟩ := hA'
            obtain ⟨y, hy⟩ : ∃ y, y = l[j] := ⟨_, rfl⟩
            have hc4 : C4 w q (o + j * 4) (.int .i64 y.t) (.slice xA y.n.length xc) (.slice yA y.s.length yc) (.slice zA y.l.length zc) := by subst hy; exact hc4'
            have hvb : VB w B y xA xc yA yc zA zc := by subst hy; exact hvb'
            have hf1 : (l.take (j + 1)).flatMap Vl.n = (l.take j).flatMap Vl.n ++ y.n := by subst hy; exact flatN_take l j hlt
            have hf2 : (l.take (j + 1)).flatMap Vl.s = (l.take j).flatMap Vl.s ++ y.s := by subst hy; exact flatS_take l j hlt
            have hn1 := HFN.out (j + 1)
            have hs1 := HFS.out (j + 1)
            rw [hf1, List.length_append] at hn1
            rw [hf2, List.length_append] at hs1
            have HF1 := hide hf1
            have HF2 := hide hf2
            clear hf1 hf2 hy hc4' hvb'
            generalize hq1 : (l.take j).flatMap Vl.n = n at *
            generalize hq2 : (l.take j).flatMap Vl.s = s at *
            clear hq1 hq2
            have hgw : w.grownBy wr none := gb_trans HG.out (gb_trans HG1.out hgp.hg (.inl rfl)) (.inl rfl)
            obtain ⟨d0, d1, d2, d3⟩ := hc4.gb hgw
            have p1 : wr.cell? ⟨w1.heap.size, 1, none⟩ = some (.slice N n.length nc) := by rw [blk_cell hgp.hh]; rfl
            have hwq : B ≤ wr.heap.size := Nat.le_trans HBB.out hgw.size
            have HRN := hide ((hvb.gb hgw HBB.out).n)
            have HRS := hide ((hvb.gb hgw HBB.out).s)
            have HGP := hide hgp
            have HQB := hide (show q < w1.heap.size by have := HG.out.size; have := HG1.out.size; have := HBB.out; omega)
            have HBW := hide hwq
            have HB1 := hide (show B ≤ w1.heap.size by have := HG.out.size; have := HG1.out.size; have := HBB.out; omega)
            obtain ⟨i1, hi1, hiz, his, hib⟩ := info_parts Tryz.info64
            have HI1 := hide hi1
            have HIZ := hide hiz
            have HIS := hide his
            have HIB := hide hib
            obtain ⟨i2, hi2, hiz2, his2, hib2⟩ := info_parts Tryz.infoS
            have HJ1 := hide hi2
            have HJZ := hide hiz2
            have HJS := hide his2
            have HJB := hide hib2
            have HL1 : Hid ((i64s y.n).length = y.n.length * 1) := hide (by simp [i64s])
            have HOC := hide (i64s_one y.n)
            have HM1 : Hid (n.length + y.n.length ≤ maxLen) := hide (by unfold maxLen; omega)
            have HMB : Hid ((n.length + y.n.length) * 8 ≤ 140737488355328) := hide (by omega)
            have HBS : Hid (w1.heap.size + 1 ≤ wr.heap.size) := hide (by have := blk_lt hgp.hh; omega)
            have HL2 : Hid ((strs y.s).length = y.s.length * 1) := hide (by simp [strs])
            have HOC2 := hide (strs_one y.s)
            have HM2 : Hid (s.length + y.s.length ≤ maxLen) := hide (by unfold maxLen; omega)
            have HMB2 : Hid ((s.length + y.s.length) * 16 ≤ 140737488355328) := hide (by omega)
            have HD := hide (gb_drew (gb_refl wr none))
            have HRND := hide (HRN.out.grown HD.out HBW.out (by simp))
            have HOND := hide (hgp.hn.kept HD.out (by cases (Value.slice N n.length nc).ownBlock <;> simp))
            have HBSD := hide (Nat.le_trans HBS.out HD.out.size)
            have HC4 := hide hc4
            have HGW := hide hgw
            clear hgp hvb hgw hwq hi1 hiz his hib hi2 hiz2 his2 hib2 hqB hc4
            go_wp2_with fail
            go_region_law (refine step_append_row' (by rfl) (.tmp 69) (.tmp 74) 22 (by rfl) (w1.heap.size + 1) 2 i1 (.int .i64 0) 1 8 Tryz.underlying22 HI1.out HIZ.out HIS.out HIB.out rfl (Nat.succ_pos 0) (.slice N n.length nc) n.length (i64s n) (by rfl) HOND.out B xA y.n.length xc (i64s y.n) (by rfl) HL1.out HRND.out HOC.out HM1.out HMB.out HBSD.out ?_; intro v5 w5 ho5 hg5 hb5; obtain ⟨N5, nc5, rfl, _⟩ := own_slice ho5; have HST := hide (HGP.out.num HD.out ho5 hg5); have hR5 := HST.out.1; have p1 : w5.cell? ⟨w1.heap.size, 1, none⟩ = some (.slice N n.length nc) := (by { rw [blk_cell hR5]; rfl }); have z1 := blk_frozen hR5 1; clear ho5 hg5 hb5 hR5)
            all_goals
              obtain ⟨hR5, hgp5, hk5, hsz5⟩ := HST.out
              clear HST hR5
              go_wp2_with fail
              obtain ⟨wS, hwS⟩ : ∃ wS, wS = w5.setCell ⟨w1.heap.size, 1, none⟩ (.slice N5 (n.length + y.n.length) nc5) := ⟨_, rfl⟩
              rw [← hwS] at hgp5 hk5 hsz5
              rw [← hwS]
              have hqS : wS.heap[q]? = wr.heap[q]? := hk5 q HQB.out
              have d2 : wS.cell? ⟨q, o + j * 4 + 2, none⟩ = some (.slice yA y.s.length yc) := (World.cell?_of_block (a := ⟨q, o + j * 4 + 2, none⟩) hqS).trans (HC4.out.gb HGW.out).c2
              have p2 : wS.cell? ⟨w1.heap.size, 2, none⟩ = some (.slice S s.length sc) := by rw [blk_cell hgp5.hh]; rfl
              have HDS := hide (gb_drew (gb_refl wS none))
              have HRSS := hide (HRS.out.keep fun p hp => World.cell?_of_block (hk5 p.block (Nat.lt_of_lt_of_le hp HB1.out)))
              have HRSD := hide (HRSS.out.grown HDS.out (Nat.le_trans HBW.out hsz5) (by simp))
              have HOSD := hide (hgp5.hs.kept HDS.out (by cases (Value.slice S s.length sc).ownBlock <;> simp))
              have HBSS := hide (Nat.le_trans HBS.out (Nat.le_trans hsz5 HDS.out.size))
              have HGP5 := hide hgp5
              clear hwS hgp5 hk5 hqS p1 z1 d0 d1 d3 hsz5
              go_region_law (refine step_append_row' (by rfl) (.tmp 78) (.tmp 83) 23 (by rfl) (w1.heap.size + 1) 9 i2 (.string ⟨#[]⟩) 1 16 Tryz.underlying23 HJ1.out HJZ.out HJS.out HJB.out rfl (Nat.succ_pos 0) (.slice S s.length sc) s.length (strs s) (by rfl) HOSD.out B yA y.s.length yc (strs y.s) (by rfl) HL2.out HRSD.out HOC2.out HM2.out HMB2.out HBSS.out ?_; intro v6 w6 ho6 hg6 hb6; obtain ⟨S6, sc6, rfl, _⟩ := own_slice ho6; have HST6 := hide (HGP5.out.str HDS.out ho6 hg6); have hR6 := HST6.out.1; have p2 : w6.cell? ⟨w1.heap.size, 2, none⟩ = some (.slice S s.length sc) := (by { rw [blk_cell hR6]; rfl }); have z2 := blk_frozen hR6 2; clear ho6 hg6 hb6 hR6)
              all_goals
                go_wp2_with fail
                go_roundw
                case rel => exact ⟨j + 1, by go_num, by omega, N5, nc5, S6, sc6, by rw [HF1.out, HF2.out]; exact HST6.out.2⟩
                case measure => simp [intOf]; omega
          · have hlt1 : ¬ (j : Int) < (l.length : Int) := by omega
            obtain rfl : j = l.length := by omega
            rw [List.take_length] at hgp
            have hfn := HFN.out l.length
            have hfs := HFS.out l.length
            rw [List.take_length] at hfn hfs
            generalize l.flatMap Vl.n = n at *
            generalize l.flatMap Vl.s = s at *
            obtain ⟨hh, hoN, hoS, hg⟩ := hgp
            obtain ⟨_, _, hvN, hcN⟩ := own_slice hoN
            obtain ⟨_, _, hvS, hcS⟩ := own_slice hoS
            injection hvN with hvN1 hvN2 hvN3
            injection hvS with hvS1 hvS2 hvS3
            clear hvN1 hvN2 hvS1 hvS2
            subst hvN3
            subst hvS3
            obtain ⟨f1, o1, b1⟩ := Own.of_row hoN
            obtain ⟨f2, o2, b2⟩ := Own.of_row hoS
            have hr := (hg.block _ (by have := blk_lt HR.out; have := HG1.out.size; omega) (by simp)).trans ((HG1.out.block _ (blk_lt HR.out) (by simp)).trans HR.out)
            have hn : New wa wr (f1 ++ (f2 ++ ([] ++ []))) := by
              have hs := HG1.out.size
              refine ⟨?_, fun b hb => ?_⟩
              · simp only [List.append_nil]
                refine List.nodup_append.2 ⟨?_, ?_, fun x hx y hy e => ?_⟩
                · match f1, o1.len with
                  | [], _ => simp
                  | [x], _ => simp
                · match f2, o2.len with
                  | [], _ => simp
                  | [x], _ => simp
                · subst e
                  have k1 := o1.blk x hx (n := n.length) (c := nc)
                  have k2 := o2.blk x hy (n := s.length) (c := sc)
                  rcases rows_apart hoN hoS (by decide) with h | h
                  · rw [h] at k1; cases k1
                  · rw [k1, k2] at h; exact h rfl
              · simp only [List.append_nil] at hb
                rcases List.mem_append.1 hb with hb | hb
                · have := b1 b hb; omega
                · have := b2 b hb; omega
            have HN := hide hn
            have HO1 := hide o1
            have HO2 := hide o2
            have HCN := hide hcN
            have HCS := hide hcS
            have HGR := hide hg
            have HRR := hide hr
            clear hn o1 o2 b1 b2 hcN hcS hg hoN hoS
            obtain ⟨x0, x1, x2, x3, p0, p1, p2, p3⟩ := four_cells hr (i := 0) (by decide)
            have z0 := blk_frozen hr 0
            have z1 := blk_frozen hr 1
            have z2 := blk_frozen hr 2
            have z3 := blk_frozen hr 3
            have q0 : wr.cell? ⟨w1.heap.size, 0, none⟩ = some (.int .i64 (-t0)) := by rw [blk_cell hh]; rfl
            have q1 : wr.cell? ⟨w1.heap.size, 1, none⟩ = some (.slice N n.length nc) := by rw [blk_cell hh]; rfl
            have q2 : wr.cell? ⟨w1.heap.size, 2, none⟩ = some (.slice S s.length sc) := by rw [blk_cell hh]; rfl
            have q3 : wr.cell? ⟨w1.heap.size, 3, none⟩ = some (.slice none 0 0) := by rw [blk_cell hh]; rfl
            clear hr hh
            go_wp2_with fail
            obtain ⟨m0, m1, m2, m3⟩ := C4.put HRR.out (.int .i64 (-t0)) (.slice N n.length nc) (.slice S s.length sc) (.slice none 0 0)
            simp only [put4, Nat.zero_add] at m0 m1 m2 m3
            refine bodyPost_ret (v := .agg #[.int .i64 (-t0), .slice N n.length nc, .slice S s.length sc, .slice none 0 0]) (by simp [results, Tryz.results50, go_sem, m0, m1, m2, m3]) rfl ?_
            exact NewV.of_put (v := .mk (-t0) n s []) (f1 := f1) (f2 := f2) (f := []) (g := []) (xs := []) HSZ.out HG.out (gb_trans HG1.out HGR.out (.inl rfl)) HCN.out HO1.out HCS.out HO2.out (Nat.le_refl _) (.inl ⟨rfl, rfl⟩) ⟨rfl, rfl⟩ HN.out

theorem rOf_any (l : List Vl) (w : World) (B : Nat) (A : Option Addr) (c : Nat) (hl0 : 0 < l.length) (ht : Vl.tots l ≤ 1200000000) (hB : B ≤ w.heap.size) (h : RdV w B A l) :
    Calls Tryz.prog 50 #[.slice A l.length c] w (NewV (ofV l) w) := by
  cases hu : unif l
  · rw [ofV_list hu]
    exact rOf_list l w B A c (unif_alike hu) hl0 ht hB h
  · rw [ofV_vec hu hl0, ← headT_at hl0]
    refine rOf_vec l w B A c ?_ hl0 ht hB h
    cases h2 : alikeV l (headT l) l.length
    · rw [unif_list h2] at hu; cases hu
    · rfl
end Go.Proofs.YtkbflmaflokpdaaGreat
