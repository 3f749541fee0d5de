/-
  Acts in memory, and how many of them and of their bytes there are.
-/
import Derived.Test.YtnjgabhbaapeaaaGreatQaz
import Derived.Test.YtnjgabhbaapeaaaGreatQba
import Derived.Test.YtnjgabhbaapeaaaGreatQam
import Derived.Test.YtnjgabhbaapeaaaGreatQaj
import Derived.Test.YtnjgabhbaapeaaaGreatQak
import Derived.Test.YtnjgabhbaapeaaaGreatQap

namespace Go.Proofs.YtnjgabhbaapeaaaGreat
open Go.RowKit
attribute [local go_sem ↓] Go.wp_at_zero Go.wp_at_succ

theorem bl_back (P : ByteArray) : (⟨(bl P).toArray⟩ : ByteArray) = P := by
  obtain ⟨⟨l⟩⟩ := P
  rfl
theorem bs_rd {w : World} {own : Nat → Prop} {A : Option Addr} {n c : Nat} {xs : List UInt8} (h : BsAt w own (.slice A n c) xs) : Rd w w.heap.size A (u8s xs) := by
  obtain ⟨A', c', he, _, _, hr⟩ := h.rd
  injection he with h1
  rw [h1]
  exact hr
/-- Names, in order. -/
def LsF (l : List ByteArray) : Fct := fun v w => ∃ A c N B, v = .slice A N.length c ∧ N.Perm l ∧ N.Pairwise leS ∧ B ≤ w.heap.size ∧ Rd w B A (strs N)
theorem LsF.up (l : List ByteArray) : (LsF l).Up := fun _ _ _ hv hgx => by obtain ⟨A, c, N, B, h1, h2, h3, h4, h5⟩ := hv; exact ⟨A, c, N, B, h1, h2, h3, Nat.le_trans h4 hgx.size, h5.grown hgx h4 (by simp)⟩
set_option maxHeartbeats 8000000 in
set_option maxRecDepth 100000 in
theorem tells_any {w0 : World} {Z : Nat → Prop} {g q : Nat} {S : St} {R : RS} {D k : Nat} (w : World) (h : Bo w0 Z g S q R w) (hs : Sim D k S R) (hD : D ≤ 20000) (hk : k ≤ 1000) :
    Calls Tryz.prog 11 #[.pointer (some ⟨g, 0, none⟩), .pointer (some ⟨q, 0, none⟩)] w fun e w' => e = .returned (.bool true) ∧ w.grownBy w' none := by
  have hD1 : D ≤ 1000000 := by omega
  obtain ⟨bs, vs, vF, vD, vS, vM, hR⟩ := h.rs
  obtain ⟨AM, cM, rfl, _, _⟩ := own_form0 hR.rM
  obtain ⟨AF, cF, rfl, _, hcF⟩ := own_form0 hR.rF
  have hlb := hR.lb
  rw [hlb] at hR
  have HRB := hide hR.box
  have HSIM := hide hs
  have HB : Hid (∀ wx, w.grownBy wx none → Bo w0 Z g S q R wx) := hide fun wx hx => h.keep hx
  have HPL := hide fun wx (hx : w.grownBy wx none) => (HB.out wx hx).pList hs hk
  have HDL := hide fun wx (hx : w.grownBy wx none) => (HB.out wx hx).dList hs hk
  have HPD : Hid (∀ wx, w.grownBy wx none → Calls Tryz.prog 16 #[.pointer (some ⟨g, 0, none⟩)] wx fun e w' => e = .returned (.bool R.off) ∧ wx.grownBy w' none) := hide fun wx hx => by have := (HB.out wx hx).pDead; rwa [hs.dead] at this
  have HPO : Hid (∀ wx, w.grownBy wx none → Calls Tryz.prog 43 #[.pointer (some ⟨g, 0, none⟩)] wx fun e w' => e = .returned (.int .i64 R.ops) ∧ wx.grownBy w' none) := hide fun wx hx => by have := (HB.out wx hx).pOps; rwa [hs.ops] at this
  have HPU : Hid (∀ wx, w.grownBy wx none → Calls Tryz.prog 44 #[.pointer (some ⟨g, 0, none⟩)] wx fun e w' => e = .returned (.int .i64 (usedN R R.d.length : Int)) ∧ wx.grownBy w' none) := hide fun wx hx => by have := (HB.out wx hx).pUsed; rwa [hs.used, ← usedN_all] at this
  have HDU := hide fun wx (hx : w.grownBy wx none) => (HB.out wx hx).dUsed hs hD1 hk
  have HPC : Hid (∀ wx, w.grownBy wx none → Calls Tryz.prog 46 #[.pointer (some ⟨g, 0, none⟩)] wx fun e w' => e = .returned (.int .i64 R.cap) ∧ wx.grownBy w' none) := hide fun wx hx => by have := (HB.out wx hx).pCapacity; rwa [hs.cap] at this
  have HPW : Hid (∀ wx, w.grownBy wx none → Calls Tryz.prog 17 #[.pointer (some ⟨g, 0, none⟩)] wx fun e w' => e = .returned (.int .i64 (R.m.length : Int)) ∧ wx.grownBy w' none) := hide fun wx hx => by have := (HB.out wx hx).pWaitingDir; rwa [hs.chs, List.length_map] at this
  have HSZ := hide fun wx (hx : w.grownBy wx none) n => (HB.out wx hx).pSize hs n
  have HSD := hide fun wx (hx : w.grownBy wx none) n => (HB.out wx hx).dSize hs hk n
  have HRP := hide fun wx (hx : w.grownBy wx none) n => (HB.out wx hx).pRead hs hD1 hk n 0 20000
  have HRD := hide fun wx (hx : w.grownBy wx none) n => (HB.out wx hx).dRead hs hD1 hk n 0 20000
  have HWP := hide fun wx (hx : w.grownBy wx none) n => (HB.out wx hx).pWaiting hs n
  have HWD := hide fun wx (hx : w.grownBy wx none) n => (HB.out wx hx).dWaiting hs hk n
  have HLN : Hid (∀ N : List ByteArray, N.Perm (S.names.map (·.1)) → N.length ≤ 1000000) := hide fun N hp => by rw [hp.length_eq, List.length_map, hs.names.len]; have := hs.dl; have := hs.fl; omega
  have HFL : Hid (R.f.length ≤ 1000) := hide (by have := hs.fl; omega)
  clear h hs hR hlb hcF
  go_enter Tryz.func11, Tryz.ntmps11
  go_upto_region 1 with fail
  refine wp_region_facts' 49 (by kernel_rfl) (by kernel_rfl) ?_
  intro A O W L HA HO HW HL
  simp only [List.take_succ_cons, List.take_zero]
  have HS := hide (show A.tmps.size = 128 by rw [HA.out]; rfl)
  have HGW := hide (show w.grownBy W none by rw [HW.out]; exact gb_drew (gb_refl w none))
  have A0 := hide (show A.eval (.tmp 0) = .pointer (some ⟨g, 0, none⟩) by rw [HA.out]; rfl)
  have A1 := hide (show A.eval (.tmp 1) = .pointer (some ⟨q, 0, none⟩) by rw [HA.out]; rfl)
  -- slot 14
  refine wpFacts_lit (.pointer (some ⟨g, 0, none⟩)) rfl ?_ ?_
  · intro a wq hw hl
    have e0 : a.tmps[0]?.getD undef = .pointer (some ⟨g, 0, none⟩) := (hl 0 (by first | (simp [Op.operands]; done) | simp [Op.operands, Call.operands]) (by rw [HS.out]; decide)).trans A0.out
    clear hl
    go_simp
  -- slot 15
  refine wpFacts_step (LsF (S.names.map (·.1))) rfl (LsF.up _) ?_ ?_
  · intro a wq hw hl
    have e14 : a.tmps[14]?.getD undef = .pointer (some ⟨g, 0, none⟩) := hl 14 (by first | (simp [Op.operands]; done) | simp [Op.operands, Call.operands]) (by rw [HS.out]; decide)
    clear hl
    go_simp
    exact ⟨gb_refl wq none, (HPL.out wq (gb_trans HGW.out hw (.inl rfl))).mono fun e w9 hx => by obtain ⟨A, c, N, h1, h2, h3, h4, h5⟩ := hx; exact ⟨_, h1, h5, A, c, N, w9.heap.size, rfl, h2, h3, Nat.le_refl _, rd_own h4⟩⟩
  -- slot 16
  refine wpFacts_lit (.pointer (some ⟨q, 0, none⟩)) rfl ?_ ?_
  · intro a wq hw hl
    have e1 : a.tmps[1]?.getD undef = .pointer (some ⟨q, 0, none⟩) := (hl 1 (by first | (simp [Op.operands]; done) | simp [Op.operands, Call.operands]) (by rw [HS.out]; decide)).trans A1.out
    clear hl
    go_simp
  -- slot 17
  refine wpFacts_step (LsF (R.d.map (·.name))) rfl (LsF.up _) ?_ ?_
  · intro a wq hw hl
    have e16 : a.tmps[16]?.getD undef = .pointer (some ⟨q, 0, none⟩) := hl 16 (by first | (simp [Op.operands]; done) | simp [Op.operands, Call.operands]) (by rw [HS.out]; decide)
    clear hl
    go_simp
    exact ⟨gb_refl wq none, (HDL.out wq (gb_trans HGW.out hw (.inl rfl))).mono fun e w9 hx => by obtain ⟨A, c, N, h1, h2, h3, h4, h5⟩ := hx; exact ⟨_, h1, h5, A, c, N, w9.heap.size, rfl, h2, h3, Nat.le_refl _, rd_own h4⟩⟩
  -- slot 18
  refine wpFacts_step (fun vq _ => vq = .bool true) rfl (Lit.up _) ?_ ?_
  · intro a wq hw hl
    have h15 : (LsF (S.names.map (·.1))) (a.tmps[15]?.getD undef) wq := hl 15 (by first | (simp [Op.operands]; done) | simp [Op.operands, Call.operands]) (by rw [HS.out]; decide)
    obtain ⟨A1, c1, N1, B1, v1, hp1, hw1, hB1, hr1⟩ := h15
    have h17 : (LsF (R.d.map (·.name))) (a.tmps[17]?.getD undef) wq := hl 17 (by first | (simp [Op.operands]; done) | simp [Op.operands, Call.operands]) (by rw [HS.out]; decide)
    obtain ⟨A2, c2, N2, B2, v2, hp2, hw2, hB2, hr2⟩ := h17
    have v1 : a.tmps[15]?.getD undef = .slice A1 N1.length c1 := v1
    have v2 : a.tmps[17]?.getD undef = .slice A2 N2.length c2 := v2
    clear hl
    go_simp
    have hEq := HSIM.out.texts hp1 hw1 hp2 hw2
    subst hEq
    exact gUpon_lit ((rTexts_any A1 A2 c1 c2 B1 B2 N1 N1 wq hr1 hr2 (HLN.out N1 hp1)).mono fun e w9 hx => ⟨by rw [hx.1, decide_eq_true rfl], by obtain ⟨_, qq, rfl⟩ := hx; exact gb_drewN (gb_refl wq none) qq⟩)
  -- slot 19
  refine wpFacts_lit (.bool false) rfl ?_ ?_
  · intro a wq hw hl
    have e18 : a.tmps[18]?.getD undef = .bool true := hl 18 (by first | (simp [Op.operands]; done) | simp [Op.operands, Call.operands]) (by rw [HS.out]; decide)
    clear hl
    go_simp
  -- slot 20
  refine wpFacts_lit (.bool false) rfl ?_ ?_
  · intro a wq hw hl
    have e19 : a.tmps[19]?.getD undef = .bool false := hl 19 (by first | (simp [Op.operands]; done) | simp [Op.operands, Call.operands]) (by rw [HS.out]; decide)
    clear hl
    go_simp
  -- slot 21
  refine wpFacts_litG (.pointer (some ⟨g, 0, none⟩)) 6 false 20 rfl (by rw [HO.out]; rfl) (by rw [HS.out]; decide) (fun _ _ h => h) ?_ ?_
  · intro a wq hw hl
    have e0 : a.tmps[0]?.getD undef = .pointer (some ⟨g, 0, none⟩) := (hl 0 (by first | (simp [Op.operands]; done) | simp [Op.operands, Call.operands]) (by rw [HS.out]; decide)).trans A0.out
    clear hl
    go_simp
  -- slot 22
  refine wpFacts_stepG (fun vq _ => vq = .bool R.off) 6 false 20 rfl (by rw [HO.out]; rfl) (by rw [HS.out]; decide) (fun _ _ h => h) (Lit.up _) ?_ ?_
  · intro a wq hw hl
    have e21 : a.tmps[21]?.getD undef = .pointer (some ⟨g, 0, none⟩) := hl 21 (by first | (simp [Op.operands]; done) | simp [Op.operands, Call.operands]) (by rw [HS.out]; decide)
    clear hl
    go_simp
    exact gUpon_lit (HPD.out wq (gb_trans HGW.out hw (.inl rfl)))
  -- slot 23
  refine wpFacts_litG (.pointer (some ⟨q, 0, none⟩)) 6 false 20 rfl (by rw [HO.out]; rfl) (by rw [HS.out]; decide) (fun _ _ h => h) ?_ ?_
  · intro a wq hw hl
    have e1 : a.tmps[1]?.getD undef = .pointer (some ⟨q, 0, none⟩) := (hl 1 (by first | (simp [Op.operands]; done) | simp [Op.operands, Call.operands]) (by rw [HS.out]; decide)).trans A1.out
    clear hl
    go_simp
  -- slot 24
  refine wpFacts_litG (.pointer (some ⟨q, 0, none⟩)) 6 false 20 rfl (by rw [HO.out]; rfl) (by rw [HS.out]; decide) (fun _ _ h => h) ?_ ?_
  · intro a wq hw hl
    have e23 : a.tmps[23]?.getD undef = .pointer (some ⟨q, 0, none⟩) := hl 23 (by first | (simp [Op.operands]; done) | simp [Op.operands, Call.operands]) (by rw [HS.out]; decide)
    clear hl
    go_simp
  -- slot 25
  refine wpFacts_litG (.pointer (some ⟨q, 7, none⟩)) 6 false 20 rfl (by rw [HO.out]; rfl) (by rw [HS.out]; decide) (fun _ _ h => h) ?_ ?_
  · intro a wq hw hl
    have e24 : a.tmps[24]?.getD undef = .pointer (some ⟨q, 0, none⟩) := hl 24 (by first | (simp [Op.operands]; done) | simp [Op.operands, Call.operands]) (by rw [HS.out]; decide)
    clear hl
    go_simp
  -- slot 26
  refine wpFacts_litG (.bool R.off) 6 false 20 rfl (by rw [HO.out]; rfl) (by rw [HS.out]; decide) (fun _ _ h => h) ?_ ?_
  · intro a wq hw hl
    have e25 : a.tmps[25]?.getD undef = .pointer (some ⟨q, 7, none⟩) := hl 25 (by first | (simp [Op.operands]; done) | simp [Op.operands, Call.operands]) (by rw [HS.out]; decide)
    have hbR := blk_keep HRB.out (gb_trans HGW.out hw (.inl rfl)) (by simp)
    have c0 : wq.cell? ⟨q, 7, none⟩ = some (.bool R.off) := by rw [blk_cell hbR]; rfl
    clear hbR
    clear hl
    go_simp
  -- slot 27
  refine wpFacts_litG (.bool false) 6 false 20 rfl (by rw [HO.out]; rfl) (by rw [HS.out]; decide) (fun _ _ h => h) ?_ ?_
  · intro a wq hw hl
    have e22 : a.tmps[22]?.getD undef = .bool R.off := hl 22 (by first | (simp [Op.operands]; done) | simp [Op.operands, Call.operands]) (by rw [HS.out]; decide)
    have e26 : a.tmps[26]?.getD undef = .bool R.off := hl 26 (by first | (simp [Op.operands]; done) | simp [Op.operands, Call.operands]) (by rw [HS.out]; decide)
    clear hl
    go_simp
  -- slot 28
  refine wpFacts_lit (.bool false) rfl ?_ ?_
  · intro a wq hw hl
    have e20 : a.tmps[20]?.getD undef = .bool false := hl 20 (by first | (simp [Op.operands]; done) | simp [Op.operands, Call.operands]) (by rw [HS.out]; decide)
    have e27 : a.tmps[27]?.getD undef = .bool false := hl 27 (by first | (simp [Op.operands]; done) | simp [Op.operands, Call.operands]) (by rw [HS.out]; decide)
    clear hl
    go_simp
  -- slot 29
  refine wpFacts_lit (.bool false) rfl ?_ ?_
  · intro a wq hw hl
    have e28 : a.tmps[28]?.getD undef = .bool false := hl 28 (by first | (simp [Op.operands]; done) | simp [Op.operands, Call.operands]) (by rw [HS.out]; decide)
    clear hl
    go_simp
  -- slot 30
  refine wpFacts_litG (.pointer (some ⟨g, 0, none⟩)) 15 false 29 rfl (by rw [HO.out]; rfl) (by rw [HS.out]; decide) (fun _ _ h => h) ?_ ?_
  · intro a wq hw hl
    have e0 : a.tmps[0]?.getD undef = .pointer (some ⟨g, 0, none⟩) := (hl 0 (by first | (simp [Op.operands]; done) | simp [Op.operands, Call.operands]) (by rw [HS.out]; decide)).trans A0.out
    clear hl
    go_simp
  -- slot 31
  refine wpFacts_stepG (fun vq _ => vq = .int .i64 R.ops) 15 false 29 rfl (by rw [HO.out]; rfl) (by rw [HS.out]; decide) (fun _ _ h => h) (Lit.up _) ?_ ?_
  · intro a wq hw hl
    have e30 : a.tmps[30]?.getD undef = .pointer (some ⟨g, 0, none⟩) := hl 30 (by first | (simp [Op.operands]; done) | simp [Op.operands, Call.operands]) (by rw [HS.out]; decide)
    clear hl
    go_simp
    exact gUpon_lit (HPO.out wq (gb_trans HGW.out hw (.inl rfl)))
  -- slot 32
  refine wpFacts_litG (.pointer (some ⟨q, 0, none⟩)) 15 false 29 rfl (by rw [HO.out]; rfl) (by rw [HS.out]; decide) (fun _ _ h => h) ?_ ?_
  · intro a wq hw hl
    have e1 : a.tmps[1]?.getD undef = .pointer (some ⟨q, 0, none⟩) := (hl 1 (by first | (simp [Op.operands]; done) | simp [Op.operands, Call.operands]) (by rw [HS.out]; decide)).trans A1.out
    clear hl
    go_simp
  -- slot 33
  refine wpFacts_litG (.pointer (some ⟨q, 0, none⟩)) 15 false 29 rfl (by rw [HO.out]; rfl) (by rw [HS.out]; decide) (fun _ _ h => h) ?_ ?_
  · intro a wq hw hl
    have e32 : a.tmps[32]?.getD undef = .pointer (some ⟨q, 0, none⟩) := hl 32 (by first | (simp [Op.operands]; done) | simp [Op.operands, Call.operands]) (by rw [HS.out]; decide)
    clear hl
    go_simp
  -- slot 34
  refine wpFacts_litG (.pointer (some ⟨q, 5, none⟩)) 15 false 29 rfl (by rw [HO.out]; rfl) (by rw [HS.out]; decide) (fun _ _ h => h) ?_ ?_
  · intro a wq hw hl
    have e33 : a.tmps[33]?.getD undef = .pointer (some ⟨q, 0, none⟩) := hl 33 (by first | (simp [Op.operands]; done) | simp [Op.operands, Call.operands]) (by rw [HS.out]; decide)
    clear hl
    go_simp
  -- slot 35
  refine wpFacts_litG (.int .i64 R.ops) 15 false 29 rfl (by rw [HO.out]; rfl) (by rw [HS.out]; decide) (fun _ _ h => h) ?_ ?_
  · intro a wq hw hl
    have e34 : a.tmps[34]?.getD undef = .pointer (some ⟨q, 5, none⟩) := hl 34 (by first | (simp [Op.operands]; done) | simp [Op.operands, Call.operands]) (by rw [HS.out]; decide)
    have hbR := blk_keep HRB.out (gb_trans HGW.out hw (.inl rfl)) (by simp)
    have c0 : wq.cell? ⟨q, 5, none⟩ = some (.int .i64 R.ops) := by rw [blk_cell hbR]; rfl
    clear hbR
    clear hl
    go_simp
  -- slot 36
  refine wpFacts_litG (.bool false) 15 false 29 rfl (by rw [HO.out]; rfl) (by rw [HS.out]; decide) (fun _ _ h => h) ?_ ?_
  · intro a wq hw hl
    have e31 : a.tmps[31]?.getD undef = .int .i64 R.ops := hl 31 (by first | (simp [Op.operands]; done) | simp [Op.operands, Call.operands]) (by rw [HS.out]; decide)
    have e35 : a.tmps[35]?.getD undef = .int .i64 R.ops := hl 35 (by first | (simp [Op.operands]; done) | simp [Op.operands, Call.operands]) (by rw [HS.out]; decide)
    clear hl
    go_simp
  -- slot 37
  refine wpFacts_lit (.bool false) rfl ?_ ?_
  · intro a wq hw hl
    have e29 : a.tmps[29]?.getD undef = .bool false := hl 29 (by first | (simp [Op.operands]; done) | simp [Op.operands, Call.operands]) (by rw [HS.out]; decide)
    have e36 : a.tmps[36]?.getD undef = .bool false := hl 36 (by first | (simp [Op.operands]; done) | simp [Op.operands, Call.operands]) (by rw [HS.out]; decide)
    clear hl
    go_simp
  -- slot 38
  refine wpFacts_lit (.bool false) rfl ?_ ?_
  · intro a wq hw hl
    have e37 : a.tmps[37]?.getD undef = .bool false := hl 37 (by first | (simp [Op.operands]; done) | simp [Op.operands, Call.operands]) (by rw [HS.out]; decide)
    clear hl
    go_simp
  -- slot 39
  refine wpFacts_litG (.pointer (some ⟨g, 0, none⟩)) 24 false 38 rfl (by rw [HO.out]; rfl) (by rw [HS.out]; decide) (fun _ _ h => h) ?_ ?_
  · intro a wq hw hl
    have e0 : a.tmps[0]?.getD undef = .pointer (some ⟨g, 0, none⟩) := (hl 0 (by first | (simp [Op.operands]; done) | simp [Op.operands, Call.operands]) (by rw [HS.out]; decide)).trans A0.out
    clear hl
    go_simp
  -- slot 40
  refine wpFacts_stepG (fun vq _ => vq = .int .i64 (usedN R R.d.length : Int)) 24 false 38 rfl (by rw [HO.out]; rfl) (by rw [HS.out]; decide) (fun _ _ h => h) (Lit.up _) ?_ ?_
  · intro a wq hw hl
    have e39 : a.tmps[39]?.getD undef = .pointer (some ⟨g, 0, none⟩) := hl 39 (by first | (simp [Op.operands]; done) | simp [Op.operands, Call.operands]) (by rw [HS.out]; decide)
    clear hl
    go_simp
    exact gUpon_lit (HPU.out wq (gb_trans HGW.out hw (.inl rfl)))
  -- slot 41
  refine wpFacts_litG (.pointer (some ⟨q, 0, none⟩)) 24 false 38 rfl (by rw [HO.out]; rfl) (by rw [HS.out]; decide) (fun _ _ h => h) ?_ ?_
  · intro a wq hw hl
    have e1 : a.tmps[1]?.getD undef = .pointer (some ⟨q, 0, none⟩) := (hl 1 (by first | (simp [Op.operands]; done) | simp [Op.operands, Call.operands]) (by rw [HS.out]; decide)).trans A1.out
    clear hl
    go_simp
  -- slot 42
  refine wpFacts_stepG (fun vq _ => vq = .int .i64 (usedN R R.d.length : Int)) 24 false 38 rfl (by rw [HO.out]; rfl) (by rw [HS.out]; decide) (fun _ _ h => h) (Lit.up _) ?_ ?_
  · intro a wq hw hl
    have e41 : a.tmps[41]?.getD undef = .pointer (some ⟨q, 0, none⟩) := hl 41 (by first | (simp [Op.operands]; done) | simp [Op.operands, Call.operands]) (by rw [HS.out]; decide)
    clear hl
    go_simp
    exact gUpon_lit (HDU.out wq (gb_trans HGW.out hw (.inl rfl)))
  -- slot 43
  refine wpFacts_litG (.bool false) 24 false 38 rfl (by rw [HO.out]; rfl) (by rw [HS.out]; decide) (fun _ _ h => h) ?_ ?_
  · intro a wq hw hl
    have e40 : a.tmps[40]?.getD undef = .int .i64 (usedN R R.d.length : Int) := hl 40 (by first | (simp [Op.operands]; done) | simp [Op.operands, Call.operands]) (by rw [HS.out]; decide)
    have e42 : a.tmps[42]?.getD undef = .int .i64 (usedN R R.d.length : Int) := hl 42 (by first | (simp [Op.operands]; done) | simp [Op.operands, Call.operands]) (by rw [HS.out]; decide)
    clear hl
    go_simp
  -- slot 44
  refine wpFacts_lit (.bool false) rfl ?_ ?_
  · intro a wq hw hl
    have e38 : a.tmps[38]?.getD undef = .bool false := hl 38 (by first | (simp [Op.operands]; done) | simp [Op.operands, Call.operands]) (by rw [HS.out]; decide)
    have e43 : a.tmps[43]?.getD undef = .bool false := hl 43 (by first | (simp [Op.operands]; done) | simp [Op.operands, Call.operands]) (by rw [HS.out]; decide)
    clear hl
    go_simp
  -- slot 45
  refine wpFacts_lit (.bool false) rfl ?_ ?_
  · intro a wq hw hl
    have e44 : a.tmps[44]?.getD undef = .bool false := hl 44 (by first | (simp [Op.operands]; done) | simp [Op.operands, Call.operands]) (by rw [HS.out]; decide)
    clear hl
    go_simp
  -- slot 46
  refine wpFacts_litG (.pointer (some ⟨g, 0, none⟩)) 31 false 45 rfl (by rw [HO.out]; rfl) (by rw [HS.out]; decide) (fun _ _ h => h) ?_ ?_
  · intro a wq hw hl
    have e0 : a.tmps[0]?.getD undef = .pointer (some ⟨g, 0, none⟩) := (hl 0 (by first | (simp [Op.operands]; done) | simp [Op.operands, Call.operands]) (by rw [HS.out]; decide)).trans A0.out
    clear hl
    go_simp
  -- slot 47
  refine wpFacts_stepG (fun vq _ => vq = .int .i64 R.cap) 31 false 45 rfl (by rw [HO.out]; rfl) (by rw [HS.out]; decide) (fun _ _ h => h) (Lit.up _) ?_ ?_
  · intro a wq hw hl
    have e46 : a.tmps[46]?.getD undef = .pointer (some ⟨g, 0, none⟩) := hl 46 (by first | (simp [Op.operands]; done) | simp [Op.operands, Call.operands]) (by rw [HS.out]; decide)
    clear hl
    go_simp
    exact gUpon_lit (HPC.out wq (gb_trans HGW.out hw (.inl rfl)))
  -- slot 48
  refine wpFacts_litG (.pointer (some ⟨q, 0, none⟩)) 31 false 45 rfl (by rw [HO.out]; rfl) (by rw [HS.out]; decide) (fun _ _ h => h) ?_ ?_
  · intro a wq hw hl
    have e1 : a.tmps[1]?.getD undef = .pointer (some ⟨q, 0, none⟩) := (hl 1 (by first | (simp [Op.operands]; done) | simp [Op.operands, Call.operands]) (by rw [HS.out]; decide)).trans A1.out
    clear hl
    go_simp
  -- slot 49
  refine wpFacts_litG (.pointer (some ⟨q, 0, none⟩)) 31 false 45 rfl (by rw [HO.out]; rfl) (by rw [HS.out]; decide) (fun _ _ h => h) ?_ ?_
  · intro a wq hw hl
    have e48 : a.tmps[48]?.getD undef = .pointer (some ⟨q, 0, none⟩) := hl 48 (by first | (simp [Op.operands]; done) | simp [Op.operands, Call.operands]) (by rw [HS.out]; decide)
    clear hl
    go_simp
  -- slot 50
  refine wpFacts_litG (.pointer (some ⟨q, 4, none⟩)) 31 false 45 rfl (by rw [HO.out]; rfl) (by rw [HS.out]; decide) (fun _ _ h => h) ?_ ?_
  · intro a wq hw hl
    have e49 : a.tmps[49]?.getD undef = .pointer (some ⟨q, 0, none⟩) := hl 49 (by first | (simp [Op.operands]; done) | simp [Op.operands, Call.operands]) (by rw [HS.out]; decide)
    clear hl
    go_simp
  -- slot 51
  refine wpFacts_litG (.int .i64 R.cap) 31 false 45 rfl (by rw [HO.out]; rfl) (by rw [HS.out]; decide) (fun _ _ h => h) ?_ ?_
  · intro a wq hw hl
    have e50 : a.tmps[50]?.getD undef = .pointer (some ⟨q, 4, none⟩) := hl 50 (by first | (simp [Op.operands]; done) | simp [Op.operands, Call.operands]) (by rw [HS.out]; decide)
    have hbR := blk_keep HRB.out (gb_trans HGW.out hw (.inl rfl)) (by simp)
    have c0 : wq.cell? ⟨q, 4, none⟩ = some (.int .i64 R.cap) := by rw [blk_cell hbR]; rfl
    clear hbR
    clear hl
    go_simp
  -- slot 52
  refine wpFacts_litG (.bool false) 31 false 45 rfl (by rw [HO.out]; rfl) (by rw [HS.out]; decide) (fun _ _ h => h) ?_ ?_
  · intro a wq hw hl
    have e47 : a.tmps[47]?.getD undef = .int .i64 R.cap := hl 47 (by first | (simp [Op.operands]; done) | simp [Op.operands, Call.operands]) (by rw [HS.out]; decide)
    have e51 : a.tmps[51]?.getD undef = .int .i64 R.cap := hl 51 (by first | (simp [Op.operands]; done) | simp [Op.operands, Call.operands]) (by rw [HS.out]; decide)
    clear hl
    go_simp
  -- slot 53
  refine wpFacts_lit (.bool false) rfl ?_ ?_
  · intro a wq hw hl
    have e45 : a.tmps[45]?.getD undef = .bool false := hl 45 (by first | (simp [Op.operands]; done) | simp [Op.operands, Call.operands]) (by rw [HS.out]; decide)
    have e52 : a.tmps[52]?.getD undef = .bool false := hl 52 (by first | (simp [Op.operands]; done) | simp [Op.operands, Call.operands]) (by rw [HS.out]; decide)
    clear hl
    go_simp
  -- slot 54
  refine wpFacts_lit (.bool false) rfl ?_ ?_
  · intro a wq hw hl
    have e53 : a.tmps[53]?.getD undef = .bool false := hl 53 (by first | (simp [Op.operands]; done) | simp [Op.operands, Call.operands]) (by rw [HS.out]; decide)
    clear hl
    go_simp
  -- slot 55
  refine wpFacts_litG (.pointer (some ⟨g, 0, none⟩)) 40 false 54 rfl (by rw [HO.out]; rfl) (by rw [HS.out]; decide) (fun _ _ h => h) ?_ ?_
  · intro a wq hw hl
    have e0 : a.tmps[0]?.getD undef = .pointer (some ⟨g, 0, none⟩) := (hl 0 (by first | (simp [Op.operands]; done) | simp [Op.operands, Call.operands]) (by rw [HS.out]; decide)).trans A0.out
    clear hl
    go_simp
  -- slot 56
  refine wpFacts_stepG (fun vq _ => vq = .int .i64 (R.m.length : Int)) 40 false 54 rfl (by rw [HO.out]; rfl) (by rw [HS.out]; decide) (fun _ _ h => h) (Lit.up _) ?_ ?_
  · intro a wq hw hl
    have e55 : a.tmps[55]?.getD undef = .pointer (some ⟨g, 0, none⟩) := hl 55 (by first | (simp [Op.operands]; done) | simp [Op.operands, Call.operands]) (by rw [HS.out]; decide)
    clear hl
    go_simp
    exact gUpon_lit (HPW.out wq (gb_trans HGW.out hw (.inl rfl)))
  -- slot 57
  refine wpFacts_litG (.pointer (some ⟨q, 0, none⟩)) 40 false 54 rfl (by rw [HO.out]; rfl) (by rw [HS.out]; decide) (fun _ _ h => h) ?_ ?_
  · intro a wq hw hl
    have e1 : a.tmps[1]?.getD undef = .pointer (some ⟨q, 0, none⟩) := (hl 1 (by first | (simp [Op.operands]; done) | simp [Op.operands, Call.operands]) (by rw [HS.out]; decide)).trans A1.out
    clear hl
    go_simp
  -- slot 58
  refine wpFacts_litG (.pointer (some ⟨q, 0, none⟩)) 40 false 54 rfl (by rw [HO.out]; rfl) (by rw [HS.out]; decide) (fun _ _ h => h) ?_ ?_
  · intro a wq hw hl
    have e57 : a.tmps[57]?.getD undef = .pointer (some ⟨q, 0, none⟩) := hl 57 (by first | (simp [Op.operands]; done) | simp [Op.operands, Call.operands]) (by rw [HS.out]; decide)
    clear hl
    go_simp
  -- slot 59
  refine wpFacts_litG (.pointer (some ⟨q, 3, none⟩)) 40 false 54 rfl (by rw [HO.out]; rfl) (by rw [HS.out]; decide) (fun _ _ h => h) ?_ ?_
  · intro a wq hw hl
    have e58 : a.tmps[58]?.getD undef = .pointer (some ⟨q, 0, none⟩) := hl 58 (by first | (simp [Op.operands]; done) | simp [Op.operands, Call.operands]) (by rw [HS.out]; decide)
    clear hl
    go_simp
  -- slot 60
  refine wpFacts_litG (.slice AM R.m.length cM) 40 false 54 rfl (by rw [HO.out]; rfl) (by rw [HS.out]; decide) (fun _ _ h => h) ?_ ?_
  · intro a wq hw hl
    have e59 : a.tmps[59]?.getD undef = .pointer (some ⟨q, 3, none⟩) := hl 59 (by first | (simp [Op.operands]; done) | simp [Op.operands, Call.operands]) (by rw [HS.out]; decide)
    have hbR := blk_keep HRB.out (gb_trans HGW.out hw (.inl rfl)) (by simp)
    have c0 : wq.cell? ⟨q, 3, none⟩ = some (.slice AM R.m.length cM) := by rw [blk_cell hbR]; rfl
    clear hbR
    clear hl
    go_simp
  -- slot 61
  refine wpFacts_litG (.int .i64 ((R.m.length : Nat) : Int)) 40 false 54 rfl (by rw [HO.out]; rfl) (by rw [HS.out]; decide) (fun _ _ h => h) ?_ ?_
  · intro a wq hw hl
    have e60 : a.tmps[60]?.getD undef = .slice AM R.m.length cM := hl 60 (by first | (simp [Op.operands]; done) | simp [Op.operands, Call.operands]) (by rw [HS.out]; decide)
    clear hl
    go_simp
  -- slot 62
  refine wpFacts_litG (.bool false) 40 false 54 rfl (by rw [HO.out]; rfl) (by rw [HS.out]; decide) (fun _ _ h => h) ?_ ?_
  · intro a wq hw hl
    have e56 : a.tmps[56]?.getD undef = .int .i64 (R.m.length : Int) := hl 56 (by first | (simp [Op.operands]; done) | simp [Op.operands, Call.operands]) (by rw [HS.out]; decide)
    have e61 : a.tmps[61]?.getD undef = .int .i64 ((R.m.length : Nat) : Int) := hl 61 (by first | (simp [Op.operands]; done) | simp [Op.operands, Call.operands]) (by rw [HS.out]; decide)
    clear hl
    go_simp
  refine HL.out _ (fun a' wz hc => ?_)
  have e54 : a'.eval (.tmp 54) = .bool false := hc.fact 54 (by rw [HS.out]; decide)
  have e62 : a'.eval (.tmp 62) = .bool false := hc.fact 62 (by rw [HS.out]; decide)
  have hgwz := gb_trans HGW.out hc.grown (.inl rfl)
  have hfr := hc.frame [14, 15, 16, 17, 18, 19, 20, 21, 22, 23, 24, 25, 26, 27, 28, 29, 30, 31, 32, 33, 34, 35, 36, 37, 38, 39, 40, 41, 42, 43, 44, 45, 46, 47, 48, 49, 50, 51, 52, 53, 54, 55, 56, 57, 58, 59, 60, 61, 62, 63] (by rw [HO.out]; kernel_rfl)
  rw [hfr]
  clear hfr hc
  rw [HA.out]
  clear HA HO HL HW HS HGW A0 A1
  clear A O W L
  simp only [List.drop_succ_cons, List.drop_zero, List.foldl_cons, List.foldl_nil, Act.put, List.setIfInBounds_toArray, List.set_cons_succ, List.set_cons_zero]
  rw [e54, e62]
  generalize a'.eval (.tmp 14) = x14
  generalize a'.eval (.tmp 15) = x15
  generalize a'.eval (.tmp 16) = x16
  generalize a'.eval (.tmp 17) = x17
  generalize a'.eval (.tmp 18) = x18
  generalize a'.eval (.tmp 19) = x19
  generalize a'.eval (.tmp 20) = x20
  generalize a'.eval (.tmp 21) = x21
  generalize a'.eval (.tmp 22) = x22
  generalize a'.eval (.tmp 23) = x23
  generalize a'.eval (.tmp 24) = x24
  generalize a'.eval (.tmp 25) = x25
  generalize a'.eval (.tmp 26) = x26
  generalize a'.eval (.tmp 27) = x27
  generalize a'.eval (.tmp 28) = x28
  generalize a'.eval (.tmp 29) = x29
  generalize a'.eval (.tmp 30) = x30
  generalize a'.eval (.tmp 31) = x31
  generalize a'.eval (.tmp 32) = x32
  generalize a'.eval (.tmp 33) = x33
  generalize a'.eval (.tmp 34) = x34
  generalize a'.eval (.tmp 35) = x35
  generalize a'.eval (.tmp 36) = x36
  generalize a'.eval (.tmp 37) = x37
  generalize a'.eval (.tmp 38) = x38
  generalize a'.eval (.tmp 39) = x39
  generalize a'.eval (.tmp 40) = x40
  generalize a'.eval (.tmp 41) = x41
  generalize a'.eval (.tmp 42) = x42
  generalize a'.eval (.tmp 43) = x43
  generalize a'.eval (.tmp 44) = x44
  generalize a'.eval (.tmp 45) = x45
  generalize a'.eval (.tmp 46) = x46
  generalize a'.eval (.tmp 47) = x47
  generalize a'.eval (.tmp 48) = x48
  generalize a'.eval (.tmp 49) = x49
  generalize a'.eval (.tmp 50) = x50
  generalize a'.eval (.tmp 51) = x51
  generalize a'.eval (.tmp 52) = x52
  generalize a'.eval (.tmp 53) = x53
  generalize a'.eval (.tmp 55) = x55
  generalize a'.eval (.tmp 56) = x56
  generalize a'.eval (.tmp 57) = x57
  generalize a'.eval (.tmp 58) = x58
  generalize a'.eval (.tmp 59) = x59
  generalize a'.eval (.tmp 60) = x60
  generalize a'.eval (.tmp 61) = x61
  generalize a'.eval (.tmp 63) = x63
  clear e54 e62
  clear a'
  go_wp2_with fail
  have HGZ := hide hgwz
  clear hgwz
  go_loopw [5] (fun n wr => ∃ j : Nat, n = .int .i64 ((j : Int) - 1) ∧ j ≤ R.f.length + 3 ∧ w.grownBy wr none) (fun n _ => R.f.length + 3 - (intOf n + 1).toNat)
  case atStart => exact ⟨0, rfl, by omega, HGZ.out⟩
  case round =>
    obtain ⟨j, rfl, hj, hg⟩ := hrel
    have f0 : wr.cell? ⟨q, 0, none⟩ = some (.slice AF R.f.length cF) := by rw [blk_cell (blk_keep HRB.out hg (by simp))]; rfl
    obtain ⟨z, hz⟩ : ∃ z, z = (j : Int) - 1 := ⟨_, rfl⟩
    rw [← hz]
    have HZ := hide hz
    have HJ := hide hj
    have HG := hide hg
    have h70 : IntKind.i64.wrap ((R.f.length : Int) + 1) = (R.f.length : Int) + 1 := by rw [IntKind.wrap_i64]; have := HFL.out; omega
    have h73 : IntKind.i64.wrap (z + 1) = z + 1 := by rw [IntKind.wrap_i64]; have := HFL.out; omega
    by_cases hle : z ≤ (R.f.length : Int) + 1
    · have HLE := hide hle
      clear hz hj hg
      obtain ⟨P, hP⟩ : ∃ P, P = (readR R z 0 20000).1 := ⟨_, rfl⟩
      obtain ⟨E, hE⟩ : ∃ E, E = (readR R z 0 20000).2 := ⟨_, rfl⟩
      obtain ⟨sv, hsv⟩ : ∃ sv, sv = sizeV R z := ⟨_, rfl⟩
      obtain ⟨tv, htv⟩ : ∃ tv, tv = thereR R z := ⟨_, rfl⟩
      obtain ⟨wv, hwv⟩ : ∃ wv, wv = waitV R z := ⟨_, rfl⟩
      have hSZ := fun wx hx => HSZ.out wx hx z
      have hSD := fun wx hx => HSD.out wx hx z
      have hRP := fun wx hx => HRP.out wx hx z
      have hRD := fun wx hx => HRD.out wx hx z
      have hWP := fun wx hx => HWP.out wx hx z
      have hWD := fun wx hx => HWD.out wx hx z
      rw [← hP, ← hE] at hRP hRD
      rw [← hsv, ← htv] at hSZ hSD
      rw [← hwv] at hWP hWD
      have QSZ := hide hSZ
      have QSD := hide hSD
      have QRP := hide hRP
      have QRD := hide hRD
      have QWP := hide hWP
      have QWD := hide hWD
      clear hP hE hsv htv hwv hSZ hSD hRP hRD hWP hWD HSZ HSD HRP HRD HWP HWD HPL HDL HPD HPO HPU HDU HPC HPW HLN
      go_wp2_with (first
        | (go_at_call 50; refine (QWD.out _ HG5.out).mono ?_; rintro e w6 ⟨rfl, hg6⟩; have HG6 := hide (gb_trans HG5.out hg6 (.inl rfl)); clear hg6)
        | (go_at_call 27; refine (QWP.out _ HG4.out).mono ?_; rintro e w5 ⟨rfl, hg5⟩; have HG5 := hide (gb_trans HG4.out hg5 (.inl rfl)); clear hg5)
        | (go_at_call 9; refine (num_any _ _).mono ?_; rintro e wx ⟨rfl, rfl⟩)
        | (go_at_call 49; refine (QRD.out _ HG3.out).mono ?_; rintro e w4 ⟨rfl, hg4⟩; have HG4 := hide (gb_trans HG3.out hg4 (.inl rfl)); have hstr : (convert 35 9 (.slice A3 P.size c3)).run Tryz.prog w4 = .ok (.string P) w4 := (by have := str8 (HRR.out.grown hg4 (Nat.le_refl _) (by simp)) (n := P.size) (c := c3) (bl_len P).symm; rwa [bl_back] at this); clear hg4)
        | (go_at_call 14; refine (QRP.out _ HG2.out).mono ?_; rintro e w3 ⟨A3, c3, rfl, hb3, hg3⟩; have HG3 := hide (gb_trans HG2.out hg3 (.inl rfl)); have HRR := hide (bs_rd hb3); clear hg3 hb3)
        | (go_at_call 48; refine (QSD.out _ HG1.out).mono ?_; rintro e w2 ⟨rfl, hg2⟩; have HG2 := hide (gb_trans HG1.out hg2 (.inl rfl)); clear hg2)
        | (go_at_call 47; refine (QSZ.out _ HG.out).mono ?_; rintro e w1 ⟨rfl, hg1⟩; have HG1 := hide (gb_trans HG.out hg1 (.inl rfl)); clear hg1))
      go_roundw
      case rel => exact ⟨j + 1, by rw [HZ.out]; congr 1; omega, by have := HZ.out; have := HLE.out; omega, HG6.out⟩
      case measure => clear h70 h73; have := HZ.out; have := HLE.out; have := HJ.out; simp [intOf]; omega
    · clear hz hj hg
      go_wp2_with fail
      go_ret
      exact ⟨rfl, HG.out⟩
end Go.Proofs.YtnjgabhbaapeaaaGreat

namespace Go.Proofs.YtnjgabhbaapeaaaGreat
open Go.RowKit

/-- An act, and where its parts lie. -/
structure AcV where
  kind : Int
  a : ByteArray
  b : ByteArray
  file : Int
  pos : Int
  n : Int
  dA : Option Addr
  dc : Nat
  d : List UInt8
  dir : Int
  tA : Option Addr
  tn : Nat
  tc : Nat
def AcV.cells (x : AcV) : List Value := [.int .i64 x.kind, .string x.a, .string x.b, .int .i64 x.file, .int .i64 x.pos, .int .i64 x.n, .slice x.dA x.d.length x.dc, .int .i64 x.dir, .slice x.tA x.tn x.tc]
def acells (l : List AcV) : List Value := l.flatMap AcV.cells
theorem acells_at (l : List AcV) (i : Nat) (h : i < l.length) (k : Nat) (hk : k < 9) : (acells l)[i * 9 + k]? = l[i].cells[k]? := by
  induction l generalizing i with
  | nil => simp at h
  | cons x l ih =>
    have e : acells (x :: l) = x.cells ++ acells l := rfl
    have hx : x.cells.length = 9 := rfl
    cases i with
    | zero =>
      rw [e, Nat.zero_mul, Nat.zero_add, List.getElem?_append_left (by omega)]
      rfl
    | succ i =>
      rw [e, List.getElem?_append_right (by omega), show (i + 1) * 9 + k - x.cells.length = i * 9 + k by omega, ih i (by simpa using h)]
      rfl
theorem acells_ne {l : List AcV} (h : 0 < l.length) : acells l ≠ [] := by
  cases l with
  | nil => simp at h
  | cons x l => simp [acells, AcV.cells]
/-- No part takes more than the reach. -/
structure AcV.Small (x : AcV) : Prop where
  a : x.a.size ≤ 140737488351232
  b : x.b.size ≤ 140737488351232
  d : x.d.length ≤ 140737488351232
  t : x.tn ≤ 140737488351232
def AcV.wt (x : AcV) : Nat := x.d.length + x.a.size + x.b.size + x.tn
def wsum (l : List AcV) : Nat := (l.map AcV.wt).sum
theorem wsum_step (l : List AcV) (j : Nat) (h : j < l.length) : wsum (l.take (j + 1)) = wsum (l.take j) + l[j].d.length + l[j].a.size + l[j].b.size + l[j].tn := by
  unfold wsum
  rw [List.take_succ_eq_append_getElem h, List.map_append, List.sum_append]
  simp [AcV.wt]
  omega
theorem wsum_le (l : List AcV) (hs : ∀ x ∈ l, x.Small) : wsum l ≤ l.length * 562949953404928 := by
  induction l with
  | nil => simp [wsum]
  | cons x l ih =>
    have h1 := ih fun y hy => hs y (by simp [hy])
    obtain ⟨a, b, c, d⟩ := hs x (by simp)
    have e : wsum (x :: l) = x.wt + wsum l := by simp [wsum]
    rw [e, List.length_cons, Nat.add_mul]
    unfold AcV.wt
    omega
/-- The cells of an act. -/
structure AcAt (w : World) (b o : Nat) (x : AcV) : Prop where
  c0 : w.cell? ⟨b, o, none⟩ = some (.int .i64 x.kind)
  c1 : w.cell? ⟨b, o + 1, none⟩ = some (.string x.a)
  c2 : w.cell? ⟨b, o + 2, none⟩ = some (.string x.b)
  c3 : w.cell? ⟨b, o + 3, none⟩ = some (.int .i64 x.file)
  c4 : w.cell? ⟨b, o + 4, none⟩ = some (.int .i64 x.pos)
  c5 : w.cell? ⟨b, o + 5, none⟩ = some (.int .i64 x.n)
  c6 : w.cell? ⟨b, o + 6, none⟩ = some (.slice x.dA x.d.length x.dc)
  c7 : w.cell? ⟨b, o + 7, none⟩ = some (.int .i64 x.dir)
  c8 : w.cell? ⟨b, o + 8, none⟩ = some (.slice x.tA x.tn x.tc)
theorem Rd.act {w : World} {B : Nat} {A : Option Addr} {l : List AcV} (h : Rd w B A (acells l)) {i : Nat} (hi : i < l.length) : ∃ b o, A = some ⟨b, o, none⟩ ∧ b < B ∧ AcAt w b (o + i * 9) l[i] := by
  obtain ⟨b, o, hA, hb, hc⟩ := h.lay (acells_ne (by omega))
  have hk : ∀ k u, k < 9 → l[i].cells[k]? = some u → w.cell? ⟨b, o + i * 9 + k, none⟩ = some u := fun k u hk hu => by
    rw [Nat.add_assoc]
    exact hc _ _ ((acells_at l i hi k hk).trans hu)
  exact ⟨b, o, hA, hb, hk 0 _ (by omega) rfl, hk 1 _ (by omega) rfl, hk 2 _ (by omega) rfl, hk 3 _ (by omega) rfl, hk 4 _ (by omega) rfl, hk 5 _ (by omega) rfl, hk 6 _ (by omega) rfl, hk 7 _ (by omega) rfl, hk 8 _ (by omega) rfl⟩
theorem AcAt.grown {w w' : World} {b o : Nat} {x : AcV} (h : AcAt w b o x) (hg : w.grownBy w' none) : AcAt w' b o x :=
  ⟨cell_grown h.c0 hg, cell_grown h.c1 hg, cell_grown h.c2 hg, cell_grown h.c3 hg, cell_grown h.c4 hg, cell_grown h.c5 hg, cell_grown h.c6 hg, cell_grown h.c7 hg, cell_grown h.c8 hg⟩

def longB (l : List AcV) : Bool := decide (60 < l.length) || decide (20000 < wsum l)
def LongPost (l : List AcV) (w : World) (e : Ending) (w' : World) : Prop := e = .returned (.bool (longB l)) ∧ w.grownBy w' none
set_option maxHeartbeats 4000000 in
set_option maxRecDepth 100000 in
theorem long_any (A : Option Addr) (c B : Nat) (l : List AcV) (w : World) (h : Rd w B A (acells l)) (hsz : ∀ x ∈ l, x.Small) (hm : l.length ≤ 9223372036854775807) :
    Calls Tryz.prog 5 #[.slice A l.length c] w (LongPost l w) := by
  have H := hide h
  have HS := hide hsz
  clear h hsz
  go_enter Tryz.func5, Tryz.ntmps5
  go_wp2
  go_loopw [3, 4] (fun n i wr => ∃ (s j : Nat), n = .int .i64 (s : Int) ∧ i = .int .i64 (j : Int) ∧ j ≤ l.length ∧ j ≤ 61 ∧ s = wsum (l.take j) ∧ w.grownBy wr none) (fun _ i _ => l.length - (intOf i).toNat)
  case atStart => exact ⟨0, 0, rfl, rfl, Nat.zero_le _, by omega, by simp [wsum], gb_refl w none⟩
  case round =>
    obtain ⟨s, j, rfl, rfl, hj, hj2, hs, hg⟩ := hrel
    have HSE := hide hs
    have HG := hide hg
    have hs9 : s ≤ 61 * 562949953404928 := by
      rw [hs]
      refine Nat.le_trans (wsum_le _ fun x hx => HS.out x (List.mem_of_mem_take hx)) ?_
      rw [List.length_take]
      exact Nat.mul_le_mul_right _ (by omega)
    have HS9 := hide hs9
    clear hs hg hs9
    by_cases hlt : j < l.length
    · by_cases h60 : j ≤ 60
      · have hlt1 : (j : Int) < (l.length : Int) := by omega
        have h601 : (j : Int) ≤ 60 := by omega
        obtain ⟨b, o, rfl, hbB, hac⟩ := H.out.act hlt
        have hac := hac.grown HG.out
        have d1 := hac.c1
        have d2 := hac.c2
        have d6 := hac.c6
        have d8 : wr.cell? ⟨b, o + j * 9 + 7 + 1, none⟩ = some (.slice l[j].tA l[j].tn l[j].tc) := hac.c8
        obtain ⟨k1, k2, k3, k4⟩ := HS.out l[j] (List.getElem_mem hlt)
        have hst := wsum_step l j hlt
        rw [← HSE.out] at hst
        have HST := hide hst
        clear hac hst
        generalize l[j].a = xa at *
        generalize l[j].b = xb at *
        generalize l[j].d.length = xd at *
        generalize l[j].tn = xt at *
        have s9 := HS9.out
        have f1 : IntKind.i64.wrap ((s : Int) + (xd : Int)) = (s : Int) + (xd : Int) := by rw [IntKind.wrap_i64]; omega
        have f2 : IntKind.i64.wrap ((s : Int) + (xd : Int) + (xa.size : Int)) = (s : Int) + (xd : Int) + (xa.size : Int) := by rw [IntKind.wrap_i64]; omega
        have f3 : IntKind.i64.wrap ((s : Int) + (xd : Int) + (xa.size : Int) + (xb.size : Int)) = (s : Int) + (xd : Int) + (xa.size : Int) + (xb.size : Int) := by rw [IntKind.wrap_i64]; omega
        have f4 : IntKind.i64.wrap ((s : Int) + (xd : Int) + (xa.size : Int) + (xb.size : Int) + (xt : Int)) = (s : Int) + (xd : Int) + (xa.size : Int) + (xb.size : Int) + (xt : Int) := by rw [IntKind.wrap_i64]; omega
        clear s9 k1 k2 k3 k4
        go_wp2_with fail
        go_quiet (fail)
        go_wp2_with fail
        go_roundw
        case rel =>
          have hst := HST.out
          refine ⟨s + xd + xa.size + xb.size + xt, j + 1, by go_num, by go_num, by omega, by omega, hst.symm, ?_⟩
          first | exact gb_drewN HG.out _ | exact HG.out
        case measure => simp [intOf]; omega
      · have h601 : ¬ (j : Int) ≤ 60 := by omega
        have hlt1 : (j : Int) < (l.length : Int) := by omega
        have h6 : (60 : Int) < (l.length : Int) := by omega
        have HB := hide (show longB l = true by unfold longB; simp; omega)
        go_wp2_with fail
        go_ret
        exact ⟨by rw [HB.out]; rfl, HG.out⟩
    · have hlt1 : ¬ (j : Int) < (l.length : Int) := by omega
      have hje : j = l.length := by omega
      have hse : s = wsum l := by rw [HSE.out, hje, List.take_length]
      by_cases h6 : (60 : Int) < (l.length : Int)
      · have HB := hide (show longB l = true by unfold longB; simp; omega)
        clear hse hje
        go_wp2_with fail
        go_ret
        exact ⟨by rw [HB.out]; rfl, HG.out⟩
      · by_cases h2 : (20000 : Int) < (s : Int)
        · have HB := hide (show longB l = true by unfold longB; simp; omega)
          clear hse hje
          go_wp2_with fail
          go_ret
          exact ⟨by rw [HB.out]; rfl, HG.out⟩
        · have HB := hide (show longB l = false by unfold longB; simp; omega)
          clear hse hje
          go_wp2_with fail
          go_ret
          exact ⟨by rw [HB.out]; rfl, HG.out⟩
end Go.Proofs.YtnjgabhbaapeaaaGreat
