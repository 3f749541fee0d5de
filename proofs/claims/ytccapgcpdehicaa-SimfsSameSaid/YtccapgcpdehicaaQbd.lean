/-
  The program's Same of two file systems, whatever they have.
-/
import Derived.Test.YtccapgcpdehicaaQbc
import Derived.Test.YtccapgcpdehicaaQaz
import Derived.Test.YtccapgcpdehicaaQal
import Derived.Deep.DrawnRows

namespace Go.Proofs.Ytccapgcpdehicaa
open Go.RowKit
attribute [local go_sem ↓] Go.wp_at_zero Go.wp_at_succ

/-- One operation whose guard keeps it from being carried out. -/
theorem wpFacts_skipG {P : Program} {ops : Array Oper} {a0 : Act} {w0 : World} {L : (Nat → Fct) → Prop} {G : Nat → Fct} {o : Oper} {rest : List Oper} (g : Nat) (b : Bool) (t : Tmp) (hg : o.guard = some (g, b)) (ht : (ops[g]?).bind (·.dst) = some t) (hs : t < a0.tmps.size)
    (hG : ∀ v w, G t v w → v = .bool (!b))
    (hr : wpFacts P ops a0 w0 L rest (upd G o.dst (fun v _ => v = undef))) : wpFacts P ops a0 w0 L (o :: rest) G :=
  ⟨fun v _ => v = undef, ⟨fun _ _ _ h _ => h, fun a w hsz hw hl => .inr ⟨by
    have hm : t ∈ o.looksAt ops := by unfold Oper.looksAt; rw [hg]; simp only [ht]; simp
    have h1 := hG _ _ (hl t hm hs)
    have h2 : a.tmps[t]? = some (.bool (!b)) := by
      simp only [Act.eval, Array.getD_eq_getD_getElem?] at h1
      rw [← hsz] at hs
      rw [Array.getElem?_eq_getElem hs] at h1 ⊢
      simpa using h1
    cases b <;> simp [Region.wanted, hg, yielded, ht, h2], rfl⟩⟩, hr⟩
set_option maxHeartbeats 8000000 in
set_option maxRecDepth 100000 in
theorem same_any (g1 g2 : Nat) (S1 S2 : St) (L1 L2 : Nat → Nat) (w : World) (h : FsAt w L1 g1 S1) (k : FsAt w L2 g2 S2)
    (hv1 : ∀ x ∈ S1.names, (S1.files (x.2 : Int)).isSome) (hv2 : ∀ x ∈ S2.names, (S2.files (x.2 : Int)).isSome) (hs1 : ∀ x ∈ S1.safe, (S1.files (x.2 : Int)).isSome) (hs2 : ∀ x ∈ S2.safe, (S2.files (x.2 : Int)).isSome) :
    Calls Try.prog 7 #[.pointer (some ⟨g1, 0, none⟩), .pointer (some ⟨g2, 0, none⟩)] w fun e w' => e = .returned (.bool (eqS S1 S2)) ∧ w.grownBy w' none := by
  have H := hide h
  have K := hide k
  obtain ⟨mf1, mn1, ms1, vch1, lf1, h⟩ := h
  obtain ⟨mf2, mn2, ms2, vch2, lf2, k⟩ := k
  obtain ⟨XA, c1, rfl, _⟩ := h.chs.form
  obtain ⟨XB, c2, rfl, _⟩ := k.chs.form
  have HN1 := hide h.names
  have HN2 := hide k.names
  have HS1 := hide h.safe
  have HS2 := hide k.safe
  have HC1 := hide h.chs
  have HC2 := hide k.chs
  have HA4 : Hid (w.cell? ⟨g1, 4, none⟩ = some (.map (some mn1))) := hide h.blk.c4
  have HA5 : Hid (w.cell? ⟨g1, 5, none⟩ = some (.map (some ms1))) := hide h.blk.c5
  have HA6 : Hid (w.cell? ⟨g1, 6, none⟩ = some (.slice XA S1.changes.length c1)) := hide h.blk.c6
  have HB4 : Hid (w.cell? ⟨g2, 4, none⟩ = some (.map (some mn2))) := hide k.blk.c4
  have HB5 : Hid (w.cell? ⟨g2, 5, none⟩ = some (.map (some ms2))) := hide k.blk.c5
  have HB6 : Hid (w.cell? ⟨g2, 6, none⟩ = some (.slice XB S2.changes.length c2)) := hide k.blk.c6
  have F1 := hide (fun (w1 : World) (hg : w.grownBy w1 none) => sameFiles_any g1 g2 mn1 mn2 S1 S2 S1.names S2.names L1 L2 w1 (H.out.grown hg) (K.out.grown hg) (HN1.out.grown hg (by simp)) (HN2.out.grown hg (by simp)) hv1 hv2)
  have F2 := hide (fun (w1 : World) (hg : w.grownBy w1 none) => sameFiles_any g1 g2 ms1 ms2 S1 S2 S1.safe S2.safe L1 L2 w1 (H.out.grown hg) (K.out.grown hg) (HS1.out.grown hg (by simp)) (HS2.out.grown hg (by simp)) hs1 hs2)
  have F3 := hide (fun (w1 : World) (hg : w.grownBy w1 none) => eqf_ch XA XB _ c1 _ c2 S1.changes S2.changes _ _ w1 (HC1.out.grown hg) (HC2.out.grown hg))
  unfold eqS
  generalize nmEq S1 S1.names S2 S2.names = b1 at F1 ⊢
  generalize nmEq S1 S1.safe S2 S2.safe = b2 at F2 ⊢
  generalize eqL chEq S1.changes S2.changes = b3 at F3 ⊢
  clear h k hv1 hv2 hs1 hs2 H K HN1 HN2 HS1 HS2 HC1 HC2
  go_enter Try.func7, Try.ntmps7
  go_upto_region 3 with fail
  cases b1
  · skip
    refine wp_region_facts' 35 (by kernel_rfl) (by kernel_rfl) ?_
    intro A O W L HA HO HW HL
    simp only [List.take_succ_cons, List.take_zero]
    have HS := hide (show A.tmps.size = 49 by rw [HA.out]; rfl)
    have HGW := hide (show w.grownBy W none by rw [HW.out]; exact gb_drew (gb_refl w none))
    have A0 := hide (show A.eval (.tmp 0) = .pointer (some ⟨g1, 0, none⟩) by rw [HA.out]; rfl)
    have A1 := hide (show A.eval (.tmp 1) = .pointer (some ⟨g2, 0, none⟩) by rw [HA.out]; rfl)
    -- slot 14
    refine wpFacts_lit (.pointer (some ⟨g1, 0, none⟩)) rfl ?_ ?_
    · intro a wq hw hl
      have e0 : a.tmps[0]?.getD undef = .pointer (some ⟨g1, 0, none⟩) := (hl 0 (by first | (simp [Op.operands]; done) | simp [Op.operands, Call.operands]) (by rw [HS.out]; decide)).trans A0.out
      clear hl
      go_simp
    -- slot 15
    refine wpFacts_lit (.pointer (some ⟨g1, 0, none⟩)) rfl ?_ ?_
    · intro a wq hw hl
      have e0 : a.tmps[0]?.getD undef = .pointer (some ⟨g1, 0, none⟩) := (hl 0 (by first | (simp [Op.operands]; done) | simp [Op.operands, Call.operands]) (by rw [HS.out]; decide)).trans A0.out
      clear hl
      go_simp
    -- slot 16
    refine wpFacts_lit (.pointer (some ⟨g1, 0, none⟩)) rfl ?_ ?_
    · intro a wq hw hl
      have e15 : a.tmps[15]?.getD undef = .pointer (some ⟨g1, 0, none⟩) := hl 15 (by first | (simp [Op.operands]; done) | simp [Op.operands, Call.operands]) (by rw [HS.out]; decide)
      clear hl
      go_simp
    -- slot 17
    refine wpFacts_lit (.pointer (some ⟨g1, 4, none⟩)) rfl ?_ ?_
    · intro a wq hw hl
      have e16 : a.tmps[16]?.getD undef = .pointer (some ⟨g1, 0, none⟩) := hl 16 (by first | (simp [Op.operands]; done) | simp [Op.operands, Call.operands]) (by rw [HS.out]; decide)
      clear hl
      go_simp
    -- slot 18
    refine wpFacts_lit (.map (some mn1)) rfl ?_ ?_
    · intro a wq hw hl
      have e17 : a.tmps[17]?.getD undef = .pointer (some ⟨g1, 4, none⟩) := hl 17 (by first | (simp [Op.operands]; done) | simp [Op.operands, Call.operands]) (by rw [HS.out]; decide)
      have c := cell_grown HA4.out (gb_trans HGW.out hw (.inl rfl))
      clear hl
      go_simp
    -- slot 19
    refine wpFacts_lit (.pointer (some ⟨g2, 0, none⟩)) rfl ?_ ?_
    · intro a wq hw hl
      have e1 : a.tmps[1]?.getD undef = .pointer (some ⟨g2, 0, none⟩) := (hl 1 (by first | (simp [Op.operands]; done) | simp [Op.operands, Call.operands]) (by rw [HS.out]; decide)).trans A1.out
      clear hl
      go_simp
    -- slot 20
    refine wpFacts_lit (.pointer (some ⟨g2, 0, none⟩)) rfl ?_ ?_
    · intro a wq hw hl
      have e1 : a.tmps[1]?.getD undef = .pointer (some ⟨g2, 0, none⟩) := (hl 1 (by first | (simp [Op.operands]; done) | simp [Op.operands, Call.operands]) (by rw [HS.out]; decide)).trans A1.out
      clear hl
      go_simp
    -- slot 21
    refine wpFacts_lit (.pointer (some ⟨g2, 0, none⟩)) rfl ?_ ?_
    · intro a wq hw hl
      have e20 : a.tmps[20]?.getD undef = .pointer (some ⟨g2, 0, none⟩) := hl 20 (by first | (simp [Op.operands]; done) | simp [Op.operands, Call.operands]) (by rw [HS.out]; decide)
      clear hl
      go_simp
    -- slot 22
    refine wpFacts_lit (.pointer (some ⟨g2, 4, none⟩)) rfl ?_ ?_
    · intro a wq hw hl
      have e21 : a.tmps[21]?.getD undef = .pointer (some ⟨g2, 0, none⟩) := hl 21 (by first | (simp [Op.operands]; done) | simp [Op.operands, Call.operands]) (by rw [HS.out]; decide)
      clear hl
      go_simp
    -- slot 23
    refine wpFacts_lit (.map (some mn2)) rfl ?_ ?_
    · intro a wq hw hl
      have e22 : a.tmps[22]?.getD undef = .pointer (some ⟨g2, 4, none⟩) := hl 22 (by first | (simp [Op.operands]; done) | simp [Op.operands, Call.operands]) (by rw [HS.out]; decide)
      have c := cell_grown HB4.out (gb_trans HGW.out hw (.inl rfl))
      clear hl
      go_simp
    -- slot 24
    refine wpFacts_step (fun vq _ => vq = .bool false) rfl (Lit.up _) ?_ ?_
    · intro a wq hw hl
      have e14 : a.tmps[14]?.getD undef = .pointer (some ⟨g1, 0, none⟩) := hl 14 (by first | (simp [Op.operands]; done) | simp [Op.operands, Call.operands]) (by rw [HS.out]; decide)
      have e18 : a.tmps[18]?.getD undef = .map (some mn1) := hl 18 (by first | (simp [Op.operands]; done) | simp [Op.operands, Call.operands]) (by rw [HS.out]; decide)
      have e19 : a.tmps[19]?.getD undef = .pointer (some ⟨g2, 0, none⟩) := hl 19 (by first | (simp [Op.operands]; done) | simp [Op.operands, Call.operands]) (by rw [HS.out]; decide)
      have e23 : a.tmps[23]?.getD undef = .map (some mn2) := hl 23 (by first | (simp [Op.operands]; done) | simp [Op.operands, Call.operands]) (by rw [HS.out]; decide)
      clear hl
      go_simp
      exact gUpon_lit (F1.out wq (gb_trans HGW.out hw (.inl rfl)))
    -- slot 25
    refine wpFacts_lit (.bool false) rfl ?_ ?_
    · intro a wq hw hl
      have e24 : a.tmps[24]?.getD undef = .bool false := hl 24 (by first | (simp [Op.operands]; done) | simp [Op.operands, Call.operands]) (by rw [HS.out]; decide)
      clear hl
      go_simp
    -- slot 26
    refine wpFacts_skipG 11 true 25 rfl (by rw [HO.out]; rfl) (by rw [HS.out]; decide) (fun _ _ h => h) ?_
    -- slot 27
    refine wpFacts_skipG 11 true 25 rfl (by rw [HO.out]; rfl) (by rw [HS.out]; decide) (fun _ _ h => h) ?_
    -- slot 28
    refine wpFacts_skipG 11 true 25 rfl (by rw [HO.out]; rfl) (by rw [HS.out]; decide) (fun _ _ h => h) ?_
    -- slot 29
    refine wpFacts_skipG 11 true 25 rfl (by rw [HO.out]; rfl) (by rw [HS.out]; decide) (fun _ _ h => h) ?_
    -- slot 30
    refine wpFacts_skipG 11 true 25 rfl (by rw [HO.out]; rfl) (by rw [HS.out]; decide) (fun _ _ h => h) ?_
    -- slot 31
    refine wpFacts_skipG 11 true 25 rfl (by rw [HO.out]; rfl) (by rw [HS.out]; decide) (fun _ _ h => h) ?_
    -- slot 32
    refine wpFacts_skipG 11 true 25 rfl (by rw [HO.out]; rfl) (by rw [HS.out]; decide) (fun _ _ h => h) ?_
    -- slot 33
    refine wpFacts_skipG 11 true 25 rfl (by rw [HO.out]; rfl) (by rw [HS.out]; decide) (fun _ _ h => h) ?_
    -- slot 34
    refine wpFacts_skipG 11 true 25 rfl (by rw [HO.out]; rfl) (by rw [HS.out]; decide) (fun _ _ h => h) ?_
    -- slot 35
    refine wpFacts_skipG 11 true 25 rfl (by rw [HO.out]; rfl) (by rw [HS.out]; decide) (fun _ _ h => h) ?_
    -- slot 36
    refine wpFacts_skipG 11 true 25 rfl (by rw [HO.out]; rfl) (by rw [HS.out]; decide) (fun _ _ h => h) ?_
    -- slot 37
    refine wpFacts_lit (.bool false) rfl ?_ ?_
    · intro a wq hw hl
      have e25 : a.tmps[25]?.getD undef = .bool false := hl 25 (by first | (simp [Op.operands]; done) | simp [Op.operands, Call.operands]) (by rw [HS.out]; decide)
      have e36 : a.tmps[36]?.getD undef = undef := hl 36 (by first | (simp [Op.operands]; done) | simp [Op.operands, Call.operands]) (by rw [HS.out]; decide)
      clear hl
      go_simp
    -- slot 38
    refine wpFacts_lit (.bool false) rfl ?_ ?_
    · intro a wq hw hl
      have e37 : a.tmps[37]?.getD undef = .bool false := hl 37 (by first | (simp [Op.operands]; done) | simp [Op.operands, Call.operands]) (by rw [HS.out]; decide)
      clear hl
      go_simp
    -- slot 39
    refine wpFacts_skipG 24 true 38 rfl (by rw [HO.out]; rfl) (by rw [HS.out]; decide) (fun _ _ h => h) ?_
    -- slot 40
    refine wpFacts_skipG 24 true 38 rfl (by rw [HO.out]; rfl) (by rw [HS.out]; decide) (fun _ _ h => h) ?_
    -- slot 41
    refine wpFacts_skipG 24 true 38 rfl (by rw [HO.out]; rfl) (by rw [HS.out]; decide) (fun _ _ h => h) ?_
    -- slot 42
    refine wpFacts_skipG 24 true 38 rfl (by rw [HO.out]; rfl) (by rw [HS.out]; decide) (fun _ _ h => h) ?_
    -- slot 43
    refine wpFacts_skipG 24 true 38 rfl (by rw [HO.out]; rfl) (by rw [HS.out]; decide) (fun _ _ h => h) ?_
    -- slot 44
    refine wpFacts_skipG 24 true 38 rfl (by rw [HO.out]; rfl) (by rw [HS.out]; decide) (fun _ _ h => h) ?_
    -- slot 45
    refine wpFacts_skipG 24 true 38 rfl (by rw [HO.out]; rfl) (by rw [HS.out]; decide) (fun _ _ h => h) ?_
    -- slot 46
    refine wpFacts_skipG 24 true 38 rfl (by rw [HO.out]; rfl) (by rw [HS.out]; decide) (fun _ _ h => h) ?_
    -- slot 47
    refine wpFacts_skipG 24 true 38 rfl (by rw [HO.out]; rfl) (by rw [HS.out]; decide) (fun _ _ h => h) ?_
    -- slot 48
    refine wpFacts_lit (.bool false) rfl ?_ ?_
    · intro a wq hw hl
      have e38 : a.tmps[38]?.getD undef = .bool false := hl 38 (by first | (simp [Op.operands]; done) | simp [Op.operands, Call.operands]) (by rw [HS.out]; decide)
      have e47 : a.tmps[47]?.getD undef = undef := hl 47 (by first | (simp [Op.operands]; done) | simp [Op.operands, Call.operands]) (by rw [HS.out]; decide)
      clear hl
      go_simp
    refine HL.out _ (fun a' wz hc => ?_)
    have e48 : a'.eval (.tmp 48) = .bool false := hc.fact 48 (by rw [HS.out]; decide)
    have hgwz := gb_trans HGW.out hc.grown (.inl rfl)
    have hfr := hc.frame [14, 15, 16, 17, 18, 19, 20, 21, 22, 23, 24, 25, 26, 27, 28, 29, 30, 31, 32, 33, 34, 35, 36, 37, 38, 39, 40, 41, 42, 43, 44, 45, 46, 47, 48, 4] (by rw [HO.out]; kernel_rfl)
    rw [hfr]
    clear hfr hc
    rw [HA.out]
    clear HA HO HL HW HS HGW A0 A1
    clear A O W L
    simp only [List.drop_succ_cons, List.drop_zero, List.foldl_cons, List.foldl_nil, Act.put, List.setIfInBounds_toArray, List.set_cons_succ, List.set_cons_zero]
    rw [e48]
    generalize a'.eval (.tmp 14) = x14
    generalize a'.eval (.tmp 15) = x15
    generalize a'.eval (.tmp 16) = x16
    generalize a'.eval (.tmp 17) = x17
    generalize a'.eval (.tmp 18) = x18
    generalize a'.eval (.tmp 19) = x19
    generalize a'.eval (.tmp 20) = x20
    generalize a'.eval (.tmp 21) = x21
    generalize a'.eval (.tmp 22) = x22
    generalize a'.eval (.tmp 23) = x23
    generalize a'.eval (.tmp 24) = x24
    generalize a'.eval (.tmp 25) = x25
    generalize a'.eval (.tmp 26) = x26
    generalize a'.eval (.tmp 27) = x27
    generalize a'.eval (.tmp 28) = x28
    generalize a'.eval (.tmp 29) = x29
    generalize a'.eval (.tmp 30) = x30
    generalize a'.eval (.tmp 31) = x31
    generalize a'.eval (.tmp 32) = x32
    generalize a'.eval (.tmp 33) = x33
    generalize a'.eval (.tmp 34) = x34
    generalize a'.eval (.tmp 35) = x35
    generalize a'.eval (.tmp 36) = x36
    generalize a'.eval (.tmp 37) = x37
    generalize a'.eval (.tmp 38) = x38
    generalize a'.eval (.tmp 39) = x39
    generalize a'.eval (.tmp 40) = x40
    generalize a'.eval (.tmp 41) = x41
    generalize a'.eval (.tmp 42) = x42
    generalize a'.eval (.tmp 43) = x43
    generalize a'.eval (.tmp 44) = x44
    generalize a'.eval (.tmp 45) = x45
    generalize a'.eval (.tmp 46) = x46
    generalize a'.eval (.tmp 47) = x47
    generalize a'.eval (.tmp 4) = x4
    clear e48
    clear a'
    go_wp2_with fail
    go_ret
    exact ⟨rfl, hgwz⟩
  · cases b2
    · skip
      refine wp_region_facts' 35 (by kernel_rfl) (by kernel_rfl) ?_
      intro A O W L HA HO HW HL
      simp only [List.take_succ_cons, List.take_zero]
      have HS := hide (show A.tmps.size = 49 by rw [HA.out]; rfl)
      have HGW := hide (show w.grownBy W none by rw [HW.out]; exact gb_drew (gb_refl w none))
      have A0 := hide (show A.eval (.tmp 0) = .pointer (some ⟨g1, 0, none⟩) by rw [HA.out]; rfl)
      have A1 := hide (show A.eval (.tmp 1) = .pointer (some ⟨g2, 0, none⟩) by rw [HA.out]; rfl)
      -- slot 14
      refine wpFacts_lit (.pointer (some ⟨g1, 0, none⟩)) rfl ?_ ?_
      · intro a wq hw hl
        have e0 : a.tmps[0]?.getD undef = .pointer (some ⟨g1, 0, none⟩) := (hl 0 (by first | (simp [Op.operands]; done) | simp [Op.operands, Call.operands]) (by rw [HS.out]; decide)).trans A0.out
        clear hl
        go_simp
      -- slot 15
      refine wpFacts_lit (.pointer (some ⟨g1, 0, none⟩)) rfl ?_ ?_
      · intro a wq hw hl
        have e0 : a.tmps[0]?.getD undef = .pointer (some ⟨g1, 0, none⟩) := (hl 0 (by first | (simp [Op.operands]; done) | simp [Op.operands, Call.operands]) (by rw [HS.out]; decide)).trans A0.out
        clear hl
        go_simp
      -- slot 16
      refine wpFacts_lit (.pointer (some ⟨g1, 0, none⟩)) rfl ?_ ?_
      · intro a wq hw hl
        have e15 : a.tmps[15]?.getD undef = .pointer (some ⟨g1, 0, none⟩) := hl 15 (by first | (simp [Op.operands]; done) | simp [Op.operands, Call.operands]) (by rw [HS.out]; decide)
        clear hl
        go_simp
      -- slot 17
      refine wpFacts_lit (.pointer (some ⟨g1, 4, none⟩)) rfl ?_ ?_
      · intro a wq hw hl
        have e16 : a.tmps[16]?.getD undef = .pointer (some ⟨g1, 0, none⟩) := hl 16 (by first | (simp [Op.operands]; done) | simp [Op.operands, Call.operands]) (by rw [HS.out]; decide)
        clear hl
        go_simp
      -- slot 18
      refine wpFacts_lit (.map (some mn1)) rfl ?_ ?_
      · intro a wq hw hl
        have e17 : a.tmps[17]?.getD undef = .pointer (some ⟨g1, 4, none⟩) := hl 17 (by first | (simp [Op.operands]; done) | simp [Op.operands, Call.operands]) (by rw [HS.out]; decide)
        have c := cell_grown HA4.out (gb_trans HGW.out hw (.inl rfl))
        clear hl
        go_simp
      -- slot 19
      refine wpFacts_lit (.pointer (some ⟨g2, 0, none⟩)) rfl ?_ ?_
      · intro a wq hw hl
        have e1 : a.tmps[1]?.getD undef = .pointer (some ⟨g2, 0, none⟩) := (hl 1 (by first | (simp [Op.operands]; done) | simp [Op.operands, Call.operands]) (by rw [HS.out]; decide)).trans A1.out
        clear hl
        go_simp
      -- slot 20
      refine wpFacts_lit (.pointer (some ⟨g2, 0, none⟩)) rfl ?_ ?_
      · intro a wq hw hl
        have e1 : a.tmps[1]?.getD undef = .pointer (some ⟨g2, 0, none⟩) := (hl 1 (by first | (simp [Op.operands]; done) | simp [Op.operands, Call.operands]) (by rw [HS.out]; decide)).trans A1.out
        clear hl
        go_simp
      -- slot 21
      refine wpFacts_lit (.pointer (some ⟨g2, 0, none⟩)) rfl ?_ ?_
      · intro a wq hw hl
        have e20 : a.tmps[20]?.getD undef = .pointer (some ⟨g2, 0, none⟩) := hl 20 (by first | (simp [Op.operands]; done) | simp [Op.operands, Call.operands]) (by rw [HS.out]; decide)
        clear hl
        go_simp
      -- slot 22
      refine wpFacts_lit (.pointer (some ⟨g2, 4, none⟩)) rfl ?_ ?_
      · intro a wq hw hl
        have e21 : a.tmps[21]?.getD undef = .pointer (some ⟨g2, 0, none⟩) := hl 21 (by first | (simp [Op.operands]; done) | simp [Op.operands, Call.operands]) (by rw [HS.out]; decide)
        clear hl
        go_simp
      -- slot 23
      refine wpFacts_lit (.map (some mn2)) rfl ?_ ?_
      · intro a wq hw hl
        have e22 : a.tmps[22]?.getD undef = .pointer (some ⟨g2, 4, none⟩) := hl 22 (by first | (simp [Op.operands]; done) | simp [Op.operands, Call.operands]) (by rw [HS.out]; decide)
        have c := cell_grown HB4.out (gb_trans HGW.out hw (.inl rfl))
        clear hl
        go_simp
      -- slot 24
      refine wpFacts_step (fun vq _ => vq = .bool true) rfl (Lit.up _) ?_ ?_
      · intro a wq hw hl
        have e14 : a.tmps[14]?.getD undef = .pointer (some ⟨g1, 0, none⟩) := hl 14 (by first | (simp [Op.operands]; done) | simp [Op.operands, Call.operands]) (by rw [HS.out]; decide)
        have e18 : a.tmps[18]?.getD undef = .map (some mn1) := hl 18 (by first | (simp [Op.operands]; done) | simp [Op.operands, Call.operands]) (by rw [HS.out]; decide)
        have e19 : a.tmps[19]?.getD undef = .pointer (some ⟨g2, 0, none⟩) := hl 19 (by first | (simp [Op.operands]; done) | simp [Op.operands, Call.operands]) (by rw [HS.out]; decide)
        have e23 : a.tmps[23]?.getD undef = .map (some mn2) := hl 23 (by first | (simp [Op.operands]; done) | simp [Op.operands, Call.operands]) (by rw [HS.out]; decide)
        clear hl
        go_simp
        exact gUpon_lit (F1.out wq (gb_trans HGW.out hw (.inl rfl)))
      -- slot 25
      refine wpFacts_lit (.bool true) rfl ?_ ?_
      · intro a wq hw hl
        have e24 : a.tmps[24]?.getD undef = .bool true := hl 24 (by first | (simp [Op.operands]; done) | simp [Op.operands, Call.operands]) (by rw [HS.out]; decide)
        clear hl
        go_simp
      -- slot 26
      refine wpFacts_litG (.pointer (some ⟨g1, 0, none⟩)) 11 true 25 rfl (by rw [HO.out]; rfl) (by rw [HS.out]; decide) (fun _ _ h => h) ?_ ?_
      · intro a wq hw hl
        have e0 : a.tmps[0]?.getD undef = .pointer (some ⟨g1, 0, none⟩) := (hl 0 (by first | (simp [Op.operands]; done) | simp [Op.operands, Call.operands]) (by rw [HS.out]; decide)).trans A0.out
        clear hl
        go_simp
      -- slot 27
      refine wpFacts_litG (.pointer (some ⟨g1, 0, none⟩)) 11 true 25 rfl (by rw [HO.out]; rfl) (by rw [HS.out]; decide) (fun _ _ h => h) ?_ ?_
      · intro a wq hw hl
        have e0 : a.tmps[0]?.getD undef = .pointer (some ⟨g1, 0, none⟩) := (hl 0 (by first | (simp [Op.operands]; done) | simp [Op.operands, Call.operands]) (by rw [HS.out]; decide)).trans A0.out
        clear hl
        go_simp
      -- slot 28
      refine wpFacts_litG (.pointer (some ⟨g1, 0, none⟩)) 11 true 25 rfl (by rw [HO.out]; rfl) (by rw [HS.out]; decide) (fun _ _ h => h) ?_ ?_
      · intro a wq hw hl
        have e27 : a.tmps[27]?.getD undef = .pointer (some ⟨g1, 0, none⟩) := hl 27 (by first | (simp [Op.operands]; done) | simp [Op.operands, Call.operands]) (by rw [HS.out]; decide)
        clear hl
        go_simp
      -- slot 29
      refine wpFacts_litG (.pointer (some ⟨g1, 5, none⟩)) 11 true 25 rfl (by rw [HO.out]; rfl) (by rw [HS.out]; decide) (fun _ _ h => h) ?_ ?_
      · intro a wq hw hl
        have e28 : a.tmps[28]?.getD undef = .pointer (some ⟨g1, 0, none⟩) := hl 28 (by first | (simp [Op.operands]; done) | simp [Op.operands, Call.operands]) (by rw [HS.out]; decide)
        clear hl
        go_simp
      -- slot 30
      refine wpFacts_litG (.map (some ms1)) 11 true 25 rfl (by rw [HO.out]; rfl) (by rw [HS.out]; decide) (fun _ _ h => h) ?_ ?_
      · intro a wq hw hl
        have e29 : a.tmps[29]?.getD undef = .pointer (some ⟨g1, 5, none⟩) := hl 29 (by first | (simp [Op.operands]; done) | simp [Op.operands, Call.operands]) (by rw [HS.out]; decide)
        have c := cell_grown HA5.out (gb_trans HGW.out hw (.inl rfl))
        clear hl
        go_simp
      -- slot 31
      refine wpFacts_litG (.pointer (some ⟨g2, 0, none⟩)) 11 true 25 rfl (by rw [HO.out]; rfl) (by rw [HS.out]; decide) (fun _ _ h => h) ?_ ?_
      · intro a wq hw hl
        have e1 : a.tmps[1]?.getD undef = .pointer (some ⟨g2, 0, none⟩) := (hl 1 (by first | (simp [Op.operands]; done) | simp [Op.operands, Call.operands]) (by rw [HS.out]; decide)).trans A1.out
        clear hl
        go_simp
      -- slot 32
      refine wpFacts_litG (.pointer (some ⟨g2, 0, none⟩)) 11 true 25 rfl (by rw [HO.out]; rfl) (by rw [HS.out]; decide) (fun _ _ h => h) ?_ ?_
      · intro a wq hw hl
        have e1 : a.tmps[1]?.getD undef = .pointer (some ⟨g2, 0, none⟩) := (hl 1 (by first | (simp [Op.operands]; done) | simp [Op.operands, Call.operands]) (by rw [HS.out]; decide)).trans A1.out
        clear hl
        go_simp
      -- slot 33
      refine wpFacts_litG (.pointer (some ⟨g2, 0, none⟩)) 11 true 25 rfl (by rw [HO.out]; rfl) (by rw [HS.out]; decide) (fun _ _ h => h) ?_ ?_
      · intro a wq hw hl
        have e32 : a.tmps[32]?.getD undef = .pointer (some ⟨g2, 0, none⟩) := hl 32 (by first | (simp [Op.operands]; done) | simp [Op.operands, Call.operands]) (by rw [HS.out]; decide)
        clear hl
        go_simp
      -- slot 34
      refine wpFacts_litG (.pointer (some ⟨g2, 5, none⟩)) 11 true 25 rfl (by rw [HO.out]; rfl) (by rw [HS.out]; decide) (fun _ _ h => h) ?_ ?_
      · intro a wq hw hl
        have e33 : a.tmps[33]?.getD undef = .pointer (some ⟨g2, 0, none⟩) := hl 33 (by first | (simp [Op.operands]; done) | simp [Op.operands, Call.operands]) (by rw [HS.out]; decide)
        clear hl
        go_simp
      -- slot 35
      refine wpFacts_litG (.map (some ms2)) 11 true 25 rfl (by rw [HO.out]; rfl) (by rw [HS.out]; decide) (fun _ _ h => h) ?_ ?_
      · intro a wq hw hl
        have e34 : a.tmps[34]?.getD undef = .pointer (some ⟨g2, 5, none⟩) := hl 34 (by first | (simp [Op.operands]; done) | simp [Op.operands, Call.operands]) (by rw [HS.out]; decide)
        have c := cell_grown HB5.out (gb_trans HGW.out hw (.inl rfl))
        clear hl
        go_simp
      -- slot 36
      refine wpFacts_stepG (fun vq _ => vq = .bool false) 11 true 25 rfl (by rw [HO.out]; rfl) (by rw [HS.out]; decide) (fun _ _ h => h) (Lit.up _) ?_ ?_
      · intro a wq hw hl
        have e26 : a.tmps[26]?.getD undef = .pointer (some ⟨g1, 0, none⟩) := hl 26 (by first | (simp [Op.operands]; done) | simp [Op.operands, Call.operands]) (by rw [HS.out]; decide)
        have e30 : a.tmps[30]?.getD undef = .map (some ms1) := hl 30 (by first | (simp [Op.operands]; done) | simp [Op.operands, Call.operands]) (by rw [HS.out]; decide)
        have e31 : a.tmps[31]?.getD undef = .pointer (some ⟨g2, 0, none⟩) := hl 31 (by first | (simp [Op.operands]; done) | simp [Op.operands, Call.operands]) (by rw [HS.out]; decide)
        have e35 : a.tmps[35]?.getD undef = .map (some ms2) := hl 35 (by first | (simp [Op.operands]; done) | simp [Op.operands, Call.operands]) (by rw [HS.out]; decide)
        clear hl
        go_simp
        exact gUpon_lit (F2.out wq (gb_trans HGW.out hw (.inl rfl)))
      -- slot 37
      refine wpFacts_lit (.bool false) rfl ?_ ?_
      · intro a wq hw hl
        have e25 : a.tmps[25]?.getD undef = .bool true := hl 25 (by first | (simp [Op.operands]; done) | simp [Op.operands, Call.operands]) (by rw [HS.out]; decide)
        have e36 : a.tmps[36]?.getD undef = .bool false := hl 36 (by first | (simp [Op.operands]; done) | simp [Op.operands, Call.operands]) (by rw [HS.out]; decide)
        clear hl
        go_simp
      -- slot 38
      refine wpFacts_lit (.bool false) rfl ?_ ?_
      · intro a wq hw hl
        have e37 : a.tmps[37]?.getD undef = .bool false := hl 37 (by first | (simp [Op.operands]; done) | simp [Op.operands, Call.operands]) (by rw [HS.out]; decide)
        clear hl
        go_simp
      -- slot 39
      refine wpFacts_skipG 24 true 38 rfl (by rw [HO.out]; rfl) (by rw [HS.out]; decide) (fun _ _ h => h) ?_
      -- slot 40
      refine wpFacts_skipG 24 true 38 rfl (by rw [HO.out]; rfl) (by rw [HS.out]; decide) (fun _ _ h => h) ?_
      -- slot 41
      refine wpFacts_skipG 24 true 38 rfl (by rw [HO.out]; rfl) (by rw [HS.out]; decide) (fun _ _ h => h) ?_
      -- slot 42
      refine wpFacts_skipG 24 true 38 rfl (by rw [HO.out]; rfl) (by rw [HS.out]; decide) (fun _ _ h => h) ?_
      -- slot 43
      refine wpFacts_skipG 24 true 38 rfl (by rw [HO.out]; rfl) (by rw [HS.out]; decide) (fun _ _ h => h) ?_
      -- slot 44
      refine wpFacts_skipG 24 true 38 rfl (by rw [HO.out]; rfl) (by rw [HS.out]; decide) (fun _ _ h => h) ?_
      -- slot 45
      refine wpFacts_skipG 24 true 38 rfl (by rw [HO.out]; rfl) (by rw [HS.out]; decide) (fun _ _ h => h) ?_
      -- slot 46
      refine wpFacts_skipG 24 true 38 rfl (by rw [HO.out]; rfl) (by rw [HS.out]; decide) (fun _ _ h => h) ?_
      -- slot 47
      refine wpFacts_skipG 24 true 38 rfl (by rw [HO.out]; rfl) (by rw [HS.out]; decide) (fun _ _ h => h) ?_
      -- slot 48
      refine wpFacts_lit (.bool false) rfl ?_ ?_
      · intro a wq hw hl
        have e38 : a.tmps[38]?.getD undef = .bool false := hl 38 (by first | (simp [Op.operands]; done) | simp [Op.operands, Call.operands]) (by rw [HS.out]; decide)
        have e47 : a.tmps[47]?.getD undef = undef := hl 47 (by first | (simp [Op.operands]; done) | simp [Op.operands, Call.operands]) (by rw [HS.out]; decide)
        clear hl
        go_simp
      refine HL.out _ (fun a' wz hc => ?_)
      have e48 : a'.eval (.tmp 48) = .bool false := hc.fact 48 (by rw [HS.out]; decide)
      have hgwz := gb_trans HGW.out hc.grown (.inl rfl)
      have hfr := hc.frame [14, 15, 16, 17, 18, 19, 20, 21, 22, 23, 24, 25, 26, 27, 28, 29, 30, 31, 32, 33, 34, 35, 36, 37, 38, 39, 40, 41, 42, 43, 44, 45, 46, 47, 48, 4] (by rw [HO.out]; kernel_rfl)
      rw [hfr]
      clear hfr hc
      rw [HA.out]
      clear HA HO HL HW HS HGW A0 A1
      clear A O W L
      simp only [List.drop_succ_cons, List.drop_zero, List.foldl_cons, List.foldl_nil, Act.put, List.setIfInBounds_toArray, List.set_cons_succ, List.set_cons_zero]
      rw [e48]
      generalize a'.eval (.tmp 14) = x14
      generalize a'.eval (.tmp 15) = x15
      generalize a'.eval (.tmp 16) = x16
      generalize a'.eval (.tmp 17) = x17
      generalize a'.eval (.tmp 18) = x18
      generalize a'.eval (.tmp 19) = x19
      generalize a'.eval (.tmp 20) = x20
      generalize a'.eval (.tmp 21) = x21
      generalize a'.eval (.tmp 22) = x22
      generalize a'.eval (.tmp 23) = x23
      generalize a'.eval (.tmp 24) = x24
      generalize a'.eval (.tmp 25) = x25
      generalize a'.eval (.tmp 26) = x26
      generalize a'.eval (.tmp 27) = x27
      generalize a'.eval (.tmp 28) = x28
      generalize a'.eval (.tmp 29) = x29
      generalize a'.eval (.tmp 30) = x30
      generalize a'.eval (.tmp 31) = x31
      generalize a'.eval (.tmp 32) = x32
      generalize a'.eval (.tmp 33) = x33
      generalize a'.eval (.tmp 34) = x34
      generalize a'.eval (.tmp 35) = x35
      generalize a'.eval (.tmp 36) = x36
      generalize a'.eval (.tmp 37) = x37
      generalize a'.eval (.tmp 38) = x38
      generalize a'.eval (.tmp 39) = x39
      generalize a'.eval (.tmp 40) = x40
      generalize a'.eval (.tmp 41) = x41
      generalize a'.eval (.tmp 42) = x42
      generalize a'.eval (.tmp 43) = x43
      generalize a'.eval (.tmp 44) = x44
      generalize a'.eval (.tmp 45) = x45
      generalize a'.eval (.tmp 46) = x46
      generalize a'.eval (.tmp 47) = x47
      generalize a'.eval (.tmp 4) = x4
      clear e48
      clear a'
      go_wp2_with fail
      go_ret
      exact ⟨rfl, hgwz⟩
    · skip
      refine wp_region_facts' 35 (by kernel_rfl) (by kernel_rfl) ?_
      intro A O W L HA HO HW HL
      simp only [List.take_succ_cons, List.take_zero]
      have HS := hide (show A.tmps.size = 49 by rw [HA.out]; rfl)
      have HGW := hide (show w.grownBy W none by rw [HW.out]; exact gb_drew (gb_refl w none))
      have A0 := hide (show A.eval (.tmp 0) = .pointer (some ⟨g1, 0, none⟩) by rw [HA.out]; rfl)
      have A1 := hide (show A.eval (.tmp 1) = .pointer (some ⟨g2, 0, none⟩) by rw [HA.out]; rfl)
      -- slot 14
      refine wpFacts_lit (.pointer (some ⟨g1, 0, none⟩)) rfl ?_ ?_
      · intro a wq hw hl
        have e0 : a.tmps[0]?.getD undef = .pointer (some ⟨g1, 0, none⟩) := (hl 0 (by first | (simp [Op.operands]; done) | simp [Op.operands, Call.operands]) (by rw [HS.out]; decide)).trans A0.out
        clear hl
        go_simp
      -- slot 15
      refine wpFacts_lit (.pointer (some ⟨g1, 0, none⟩)) rfl ?_ ?_
      · intro a wq hw hl
        have e0 : a.tmps[0]?.getD undef = .pointer (some ⟨g1, 0, none⟩) := (hl 0 (by first | (simp [Op.operands]; done) | simp [Op.operands, Call.operands]) (by rw [HS.out]; decide)).trans A0.out
        clear hl
        go_simp
      -- slot 16
      refine wpFacts_lit (.pointer (some ⟨g1, 0, none⟩)) rfl ?_ ?_
      · intro a wq hw hl
        have e15 : a.tmps[15]?.getD undef = .pointer (some ⟨g1, 0, none⟩) := hl 15 (by first | (simp [Op.operands]; done) | simp [Op.operands, Call.operands]) (by rw [HS.out]; decide)
        clear hl
        go_simp
      -- slot 17
      refine wpFacts_lit (.pointer (some ⟨g1, 4, none⟩)) rfl ?_ ?_
      · intro a wq hw hl
        have e16 : a.tmps[16]?.getD undef = .pointer (some ⟨g1, 0, none⟩) := hl 16 (by first | (simp [Op.operands]; done) | simp [Op.operands, Call.operands]) (by rw [HS.out]; decide)
        clear hl
        go_simp
      -- slot 18
      refine wpFacts_lit (.map (some mn1)) rfl ?_ ?_
      · intro a wq hw hl
        have e17 : a.tmps[17]?.getD undef = .pointer (some ⟨g1, 4, none⟩) := hl 17 (by first | (simp [Op.operands]; done) | simp [Op.operands, Call.operands]) (by rw [HS.out]; decide)
        have c := cell_grown HA4.out (gb_trans HGW.out hw (.inl rfl))
        clear hl
        go_simp
      -- slot 19
      refine wpFacts_lit (.pointer (some ⟨g2, 0, none⟩)) rfl ?_ ?_
      · intro a wq hw hl
        have e1 : a.tmps[1]?.getD undef = .pointer (some ⟨g2, 0, none⟩) := (hl 1 (by first | (simp [Op.operands]; done) | simp [Op.operands, Call.operands]) (by rw [HS.out]; decide)).trans A1.out
        clear hl
        go_simp
      -- slot 20
      refine wpFacts_lit (.pointer (some ⟨g2, 0, none⟩)) rfl ?_ ?_
      · intro a wq hw hl
        have e1 : a.tmps[1]?.getD undef = .pointer (some ⟨g2, 0, none⟩) := (hl 1 (by first | (simp [Op.operands]; done) | simp [Op.operands, Call.operands]) (by rw [HS.out]; decide)).trans A1.out
        clear hl
        go_simp
      -- slot 21
      refine wpFacts_lit (.pointer (some ⟨g2, 0, none⟩)) rfl ?_ ?_
      · intro a wq hw hl
        have e20 : a.tmps[20]?.getD undef = .pointer (some ⟨g2, 0, none⟩) := hl 20 (by first | (simp [Op.operands]; done) | simp [Op.operands, Call.operands]) (by rw [HS.out]; decide)
        clear hl
        go_simp
      -- slot 22
      refine wpFacts_lit (.pointer (some ⟨g2, 4, none⟩)) rfl ?_ ?_
      · intro a wq hw hl
        have e21 : a.tmps[21]?.getD undef = .pointer (some ⟨g2, 0, none⟩) := hl 21 (by first | (simp [Op.operands]; done) | simp [Op.operands, Call.operands]) (by rw [HS.out]; decide)
        clear hl
        go_simp
      -- slot 23
      refine wpFacts_lit (.map (some mn2)) rfl ?_ ?_
      · intro a wq hw hl
        have e22 : a.tmps[22]?.getD undef = .pointer (some ⟨g2, 4, none⟩) := hl 22 (by first | (simp [Op.operands]; done) | simp [Op.operands, Call.operands]) (by rw [HS.out]; decide)
        have c := cell_grown HB4.out (gb_trans HGW.out hw (.inl rfl))
        clear hl
        go_simp
      -- slot 24
      refine wpFacts_step (fun vq _ => vq = .bool true) rfl (Lit.up _) ?_ ?_
      · intro a wq hw hl
        have e14 : a.tmps[14]?.getD undef = .pointer (some ⟨g1, 0, none⟩) := hl 14 (by first | (simp [Op.operands]; done) | simp [Op.operands, Call.operands]) (by rw [HS.out]; decide)
        have e18 : a.tmps[18]?.getD undef = .map (some mn1) := hl 18 (by first | (simp [Op.operands]; done) | simp [Op.operands, Call.operands]) (by rw [HS.out]; decide)
        have e19 : a.tmps[19]?.getD undef = .pointer (some ⟨g2, 0, none⟩) := hl 19 (by first | (simp [Op.operands]; done) | simp [Op.operands, Call.operands]) (by rw [HS.out]; decide)
        have e23 : a.tmps[23]?.getD undef = .map (some mn2) := hl 23 (by first | (simp [Op.operands]; done) | simp [Op.operands, Call.operands]) (by rw [HS.out]; decide)
        clear hl
        go_simp
        exact gUpon_lit (F1.out wq (gb_trans HGW.out hw (.inl rfl)))
      -- slot 25
      refine wpFacts_lit (.bool true) rfl ?_ ?_
      · intro a wq hw hl
        have e24 : a.tmps[24]?.getD undef = .bool true := hl 24 (by first | (simp [Op.operands]; done) | simp [Op.operands, Call.operands]) (by rw [HS.out]; decide)
        clear hl
        go_simp
      -- slot 26
      refine wpFacts_litG (.pointer (some ⟨g1, 0, none⟩)) 11 true 25 rfl (by rw [HO.out]; rfl) (by rw [HS.out]; decide) (fun _ _ h => h) ?_ ?_
      · intro a wq hw hl
        have e0 : a.tmps[0]?.getD undef = .pointer (some ⟨g1, 0, none⟩) := (hl 0 (by first | (simp [Op.operands]; done) | simp [Op.operands, Call.operands]) (by rw [HS.out]; decide)).trans A0.out
        clear hl
        go_simp
      -- slot 27
      refine wpFacts_litG (.pointer (some ⟨g1, 0, none⟩)) 11 true 25 rfl (by rw [HO.out]; rfl) (by rw [HS.out]; decide) (fun _ _ h => h) ?_ ?_
      · intro a wq hw hl
        have e0 : a.tmps[0]?.getD undef = .pointer (some ⟨g1, 0, none⟩) := (hl 0 (by first | (simp [Op.operands]; done) | simp [Op.operands, Call.operands]) (by rw [HS.out]; decide)).trans A0.out
        clear hl
        go_simp
      -- slot 28
      refine wpFacts_litG (.pointer (some ⟨g1, 0, none⟩)) 11 true 25 rfl (by rw [HO.out]; rfl) (by rw [HS.out]; decide) (fun _ _ h => h) ?_ ?_
      · intro a wq hw hl
        have e27 : a.tmps[27]?.getD undef = .pointer (some ⟨g1, 0, none⟩) := hl 27 (by first | (simp [Op.operands]; done) | simp [Op.operands, Call.operands]) (by rw [HS.out]; decide)
        clear hl
        go_simp
      -- slot 29
      refine wpFacts_litG (.pointer (some ⟨g1, 5, none⟩)) 11 true 25 rfl (by rw [HO.out]; rfl) (by rw [HS.out]; decide) (fun _ _ h => h) ?_ ?_
      · intro a wq hw hl
        have e28 : a.tmps[28]?.getD undef = .pointer (some ⟨g1, 0, none⟩) := hl 28 (by first | (simp [Op.operands]; done) | simp [Op.operands, Call.operands]) (by rw [HS.out]; decide)
        clear hl
        go_simp
      -- slot 30
      refine wpFacts_litG (.map (some ms1)) 11 true 25 rfl (by rw [HO.out]; rfl) (by rw [HS.out]; decide) (fun _ _ h => h) ?_ ?_
      · intro a wq hw hl
        have e29 : a.tmps[29]?.getD undef = .pointer (some ⟨g1, 5, none⟩) := hl 29 (by first | (simp [Op.operands]; done) | simp [Op.operands, Call.operands]) (by rw [HS.out]; decide)
        have c := cell_grown HA5.out (gb_trans HGW.out hw (.inl rfl))
        clear hl
        go_simp
      -- slot 31
      refine wpFacts_litG (.pointer (some ⟨g2, 0, none⟩)) 11 true 25 rfl (by rw [HO.out]; rfl) (by rw [HS.out]; decide) (fun _ _ h => h) ?_ ?_
      · intro a wq hw hl
        have e1 : a.tmps[1]?.getD undef = .pointer (some ⟨g2, 0, none⟩) := (hl 1 (by first | (simp [Op.operands]; done) | simp [Op.operands, Call.operands]) (by rw [HS.out]; decide)).trans A1.out
        clear hl
        go_simp
      -- slot 32
      refine wpFacts_litG (.pointer (some ⟨g2, 0, none⟩)) 11 true 25 rfl (by rw [HO.out]; rfl) (by rw [HS.out]; decide) (fun _ _ h => h) ?_ ?_
      · intro a wq hw hl
        have e1 : a.tmps[1]?.getD undef = .pointer (some ⟨g2, 0, none⟩) := (hl 1 (by first | (simp [Op.operands]; done) | simp [Op.operands, Call.operands]) (by rw [HS.out]; decide)).trans A1.out
        clear hl
        go_simp
      -- slot 33
      refine wpFacts_litG (.pointer (some ⟨g2, 0, none⟩)) 11 true 25 rfl (by rw [HO.out]; rfl) (by rw [HS.out]; decide) (fun _ _ h => h) ?_ ?_
      · intro a wq hw hl
        have e32 : a.tmps[32]?.getD undef = .pointer (some ⟨g2, 0, none⟩) := hl 32 (by first | (simp [Op.operands]; done) | simp [Op.operands, Call.operands]) (by rw [HS.out]; decide)
        clear hl
        go_simp
      -- slot 34
      refine wpFacts_litG (.pointer (some ⟨g2, 5, none⟩)) 11 true 25 rfl (by rw [HO.out]; rfl) (by rw [HS.out]; decide) (fun _ _ h => h) ?_ ?_
      · intro a wq hw hl
        have e33 : a.tmps[33]?.getD undef = .pointer (some ⟨g2, 0, none⟩) := hl 33 (by first | (simp [Op.operands]; done) | simp [Op.operands, Call.operands]) (by rw [HS.out]; decide)
        clear hl
        go_simp
      -- slot 35
      refine wpFacts_litG (.map (some ms2)) 11 true 25 rfl (by rw [HO.out]; rfl) (by rw [HS.out]; decide) (fun _ _ h => h) ?_ ?_
      · intro a wq hw hl
        have e34 : a.tmps[34]?.getD undef = .pointer (some ⟨g2, 5, none⟩) := hl 34 (by first | (simp [Op.operands]; done) | simp [Op.operands, Call.operands]) (by rw [HS.out]; decide)
        have c := cell_grown HB5.out (gb_trans HGW.out hw (.inl rfl))
        clear hl
        go_simp
      -- slot 36
      refine wpFacts_stepG (fun vq _ => vq = .bool true) 11 true 25 rfl (by rw [HO.out]; rfl) (by rw [HS.out]; decide) (fun _ _ h => h) (Lit.up _) ?_ ?_
      · intro a wq hw hl
        have e26 : a.tmps[26]?.getD undef = .pointer (some ⟨g1, 0, none⟩) := hl 26 (by first | (simp [Op.operands]; done) | simp [Op.operands, Call.operands]) (by rw [HS.out]; decide)
        have e30 : a.tmps[30]?.getD undef = .map (some ms1) := hl 30 (by first | (simp [Op.operands]; done) | simp [Op.operands, Call.operands]) (by rw [HS.out]; decide)
        have e31 : a.tmps[31]?.getD undef = .pointer (some ⟨g2, 0, none⟩) := hl 31 (by first | (simp [Op.operands]; done) | simp [Op.operands, Call.operands]) (by rw [HS.out]; decide)
        have e35 : a.tmps[35]?.getD undef = .map (some ms2) := hl 35 (by first | (simp [Op.operands]; done) | simp [Op.operands, Call.operands]) (by rw [HS.out]; decide)
        clear hl
        go_simp
        exact gUpon_lit (F2.out wq (gb_trans HGW.out hw (.inl rfl)))
      -- slot 37
      refine wpFacts_lit (.bool true) rfl ?_ ?_
      · intro a wq hw hl
        have e25 : a.tmps[25]?.getD undef = .bool true := hl 25 (by first | (simp [Op.operands]; done) | simp [Op.operands, Call.operands]) (by rw [HS.out]; decide)
        have e36 : a.tmps[36]?.getD undef = .bool true := hl 36 (by first | (simp [Op.operands]; done) | simp [Op.operands, Call.operands]) (by rw [HS.out]; decide)
        clear hl
        go_simp
      -- slot 38
      refine wpFacts_lit (.bool true) rfl ?_ ?_
      · intro a wq hw hl
        have e37 : a.tmps[37]?.getD undef = .bool true := hl 37 (by first | (simp [Op.operands]; done) | simp [Op.operands, Call.operands]) (by rw [HS.out]; decide)
        clear hl
        go_simp
      -- slot 39
      refine wpFacts_litG (.pointer (some ⟨g1, 0, none⟩)) 24 true 38 rfl (by rw [HO.out]; rfl) (by rw [HS.out]; decide) (fun _ _ h => h) ?_ ?_
      · intro a wq hw hl
        have e0 : a.tmps[0]?.getD undef = .pointer (some ⟨g1, 0, none⟩) := (hl 0 (by first | (simp [Op.operands]; done) | simp [Op.operands, Call.operands]) (by rw [HS.out]; decide)).trans A0.out
        clear hl
        go_simp
      -- slot 40
      refine wpFacts_litG (.pointer (some ⟨g1, 0, none⟩)) 24 true 38 rfl (by rw [HO.out]; rfl) (by rw [HS.out]; decide) (fun _ _ h => h) ?_ ?_
      · intro a wq hw hl
        have e39 : a.tmps[39]?.getD undef = .pointer (some ⟨g1, 0, none⟩) := hl 39 (by first | (simp [Op.operands]; done) | simp [Op.operands, Call.operands]) (by rw [HS.out]; decide)
        clear hl
        go_simp
      -- slot 41
      refine wpFacts_litG (.pointer (some ⟨g1, 6, none⟩)) 24 true 38 rfl (by rw [HO.out]; rfl) (by rw [HS.out]; decide) (fun _ _ h => h) ?_ ?_
      · intro a wq hw hl
        have e40 : a.tmps[40]?.getD undef = .pointer (some ⟨g1, 0, none⟩) := hl 40 (by first | (simp [Op.operands]; done) | simp [Op.operands, Call.operands]) (by rw [HS.out]; decide)
        clear hl
        go_simp
      -- slot 42
      refine wpFacts_litG (.slice XA S1.changes.length c1) 24 true 38 rfl (by rw [HO.out]; rfl) (by rw [HS.out]; decide) (fun _ _ h => h) ?_ ?_
      · intro a wq hw hl
        have e41 : a.tmps[41]?.getD undef = .pointer (some ⟨g1, 6, none⟩) := hl 41 (by first | (simp [Op.operands]; done) | simp [Op.operands, Call.operands]) (by rw [HS.out]; decide)
        have c := cell_grown HA6.out (gb_trans HGW.out hw (.inl rfl))
        clear hl
        go_simp
      -- slot 43
      refine wpFacts_litG (.pointer (some ⟨g2, 0, none⟩)) 24 true 38 rfl (by rw [HO.out]; rfl) (by rw [HS.out]; decide) (fun _ _ h => h) ?_ ?_
      · intro a wq hw hl
        have e1 : a.tmps[1]?.getD undef = .pointer (some ⟨g2, 0, none⟩) := (hl 1 (by first | (simp [Op.operands]; done) | simp [Op.operands, Call.operands]) (by rw [HS.out]; decide)).trans A1.out
        clear hl
        go_simp
      -- slot 44
      refine wpFacts_litG (.pointer (some ⟨g2, 0, none⟩)) 24 true 38 rfl (by rw [HO.out]; rfl) (by rw [HS.out]; decide) (fun _ _ h => h) ?_ ?_
      · intro a wq hw hl
        have e43 : a.tmps[43]?.getD undef = .pointer (some ⟨g2, 0, none⟩) := hl 43 (by first | (simp [Op.operands]; done) | simp [Op.operands, Call.operands]) (by rw [HS.out]; decide)
        clear hl
        go_simp
      -- slot 45
      refine wpFacts_litG (.pointer (some ⟨g2, 6, none⟩)) 24 true 38 rfl (by rw [HO.out]; rfl) (by rw [HS.out]; decide) (fun _ _ h => h) ?_ ?_
      · intro a wq hw hl
        have e44 : a.tmps[44]?.getD undef = .pointer (some ⟨g2, 0, none⟩) := hl 44 (by first | (simp [Op.operands]; done) | simp [Op.operands, Call.operands]) (by rw [HS.out]; decide)
        clear hl
        go_simp
      -- slot 46
      refine wpFacts_litG (.slice XB S2.changes.length c2) 24 true 38 rfl (by rw [HO.out]; rfl) (by rw [HS.out]; decide) (fun _ _ h => h) ?_ ?_
      · intro a wq hw hl
        have e45 : a.tmps[45]?.getD undef = .pointer (some ⟨g2, 6, none⟩) := hl 45 (by first | (simp [Op.operands]; done) | simp [Op.operands, Call.operands]) (by rw [HS.out]; decide)
        have c := cell_grown HB6.out (gb_trans HGW.out hw (.inl rfl))
        clear hl
        go_simp
      -- slot 47
      refine wpFacts_stepG (fun vq _ => vq = .bool b3) 24 true 38 rfl (by rw [HO.out]; rfl) (by rw [HS.out]; decide) (fun _ _ h => h) (Lit.up _) ?_ ?_
      · intro a wq hw hl
        have e42 : a.tmps[42]?.getD undef = .slice XA S1.changes.length c1 := hl 42 (by first | (simp [Op.operands]; done) | simp [Op.operands, Call.operands]) (by rw [HS.out]; decide)
        have e46 : a.tmps[46]?.getD undef = .slice XB S2.changes.length c2 := hl 46 (by first | (simp [Op.operands]; done) | simp [Op.operands, Call.operands]) (by rw [HS.out]; decide)
        clear hl
        go_simp
        exact gUpon_lit (F3.out wq (gb_trans HGW.out hw (.inl rfl)))
      -- slot 48
      refine wpFacts_lit (.bool b3) rfl ?_ ?_
      · intro a wq hw hl
        have e38 : a.tmps[38]?.getD undef = .bool true := hl 38 (by first | (simp [Op.operands]; done) | simp [Op.operands, Call.operands]) (by rw [HS.out]; decide)
        have e47 : a.tmps[47]?.getD undef = .bool b3 := hl 47 (by first | (simp [Op.operands]; done) | simp [Op.operands, Call.operands]) (by rw [HS.out]; decide)
        clear hl
        go_simp
      refine HL.out _ (fun a' wz hc => ?_)
      have e48 : a'.eval (.tmp 48) = .bool b3 := hc.fact 48 (by rw [HS.out]; decide)
      have hgwz := gb_trans HGW.out hc.grown (.inl rfl)
      have hfr := hc.frame [14, 15, 16, 17, 18, 19, 20, 21, 22, 23, 24, 25, 26, 27, 28, 29, 30, 31, 32, 33, 34, 35, 36, 37, 38, 39, 40, 41, 42, 43, 44, 45, 46, 47, 48, 4] (by rw [HO.out]; kernel_rfl)
      rw [hfr]
      clear hfr hc
      rw [HA.out]
      clear HA HO HL HW HS HGW A0 A1
      clear A O W L
      simp only [List.drop_succ_cons, List.drop_zero, List.foldl_cons, List.foldl_nil, Act.put, List.setIfInBounds_toArray, List.set_cons_succ, List.set_cons_zero]
      rw [e48]
      generalize a'.eval (.tmp 14) = x14
      generalize a'.eval (.tmp 15) = x15
      generalize a'.eval (.tmp 16) = x16
      generalize a'.eval (.tmp 17) = x17
      generalize a'.eval (.tmp 18) = x18
      generalize a'.eval (.tmp 19) = x19
      generalize a'.eval (.tmp 20) = x20
      generalize a'.eval (.tmp 21) = x21
      generalize a'.eval (.tmp 22) = x22
      generalize a'.eval (.tmp 23) = x23
      generalize a'.eval (.tmp 24) = x24
      generalize a'.eval (.tmp 25) = x25
      generalize a'.eval (.tmp 26) = x26
      generalize a'.eval (.tmp 27) = x27
      generalize a'.eval (.tmp 28) = x28
      generalize a'.eval (.tmp 29) = x29
      generalize a'.eval (.tmp 30) = x30
      generalize a'.eval (.tmp 31) = x31
      generalize a'.eval (.tmp 32) = x32
      generalize a'.eval (.tmp 33) = x33
      generalize a'.eval (.tmp 34) = x34
      generalize a'.eval (.tmp 35) = x35
      generalize a'.eval (.tmp 36) = x36
      generalize a'.eval (.tmp 37) = x37
      generalize a'.eval (.tmp 38) = x38
      generalize a'.eval (.tmp 39) = x39
      generalize a'.eval (.tmp 40) = x40
      generalize a'.eval (.tmp 41) = x41
      generalize a'.eval (.tmp 42) = x42
      generalize a'.eval (.tmp 43) = x43
      generalize a'.eval (.tmp 44) = x44
      generalize a'.eval (.tmp 45) = x45
      generalize a'.eval (.tmp 46) = x46
      generalize a'.eval (.tmp 47) = x47
      generalize a'.eval (.tmp 4) = x4
      clear e48
      clear a'
      go_wp2_with fail
      go_ret
      exact ⟨rfl, hgwz⟩
end Go.Proofs.Ytccapgcpdehicaa
