/-
  The law AttrUnseen.
-/
import Derived.Test.YtfdckhnhancbdaaMyb
import Derived.Test.YtfdckhnhancbdaaAr
import Derived.Test.YtfdckhnhancbdaaWo
import Derived.ProofKit
import Derived.Carry

namespace Go.Proofs.Ytfdckhnhancbdaa
open Go.RowKit
attribute [local go_sem ↓] Go.wp_at_zero Go.wp_at_succ

theorem VB.at4 {w : World} {B : Nat} {v : Vl} {nA : Option Addr} {nc : Nat} {sA : Option Addr} {sc : Nat} {lA : Option Addr} {lc : Nat} (h : VB w B v nA nc sA sc lA lc) : VAt w B v [.int .i64 v.t, .slice nA v.n.length nc, .slice sA v.s.length sc, .slice lA v.l.length lc] := by
  cases v
  obtain ⟨xs, h6, h7⟩ := h.l
  exact ⟨nA, nc, sA, sc, lA, lc, xs, rfl, h.hn, h.hs, h.hl, h.n, h.s, h6, h7⟩
theorem rdv4 {w : World} {B : Nat} {A : Option Addr} {v0 v1 v2 v3 : Vl} {c0 c1 c2 c3 : List Value} (h : Rd w B A (c0 ++ c1 ++ c2 ++ c3)) (h0 : VAt w B v0 c0) (h1 : VAt w B v1 c1) (h2 : VAt w B v2 c2) (h3 : VAt w B v3 c3) : RdV w B A [v0, v1, v2, v3] :=
  ⟨[c0, c1, c2, c3], by simpa using h, by
    simp only [VAll]
    exact ⟨c0, _, rfl, h0, c1, _, rfl, h1, c2, _, rfl, h2, c3, _, rfl, h3, rfl⟩⟩
theorem chars_app (s r : List ByteArray) : Vl.chars (s ++ r) = Vl.chars s + Vl.chars r := by
  unfold Vl.chars
  rw [List.map_append, List.sum_append]
theorem vecE_tot (v mo : Vl) (ht : 1 ≤ v.t ∧ v.t ≤ 5) : (vecE v.t (appK v.t (keysV v) mo)).tot ≤ v.tot + mo.tot := by
  have h1 := Vl.tot_def v
  have h2 := Vl.tot_def mo
  by_cases h3 : v.t = 3
  · have e : vecE v.t (appK v.t (keysV v) mo) = .mk 3 [] ((appK v.t (keysV v) mo).map (·.2)) [] := if_pos h3
    have k : keysV v = v.s.map (fun x => ((0 : Int), x)) := if_pos (.inl h3)
    have k2 : (keysV v).map (·.2) = v.s := by rw [k, List.map_map]; exact List.map_id v.s
    rw [e, Vl.tot_def]
    show 1 + 0 + ((appK v.t (keysV v) mo).map (·.2)).length + Vl.chars ((appK v.t (keysV v) mo).map (·.2)) + Vl.tots [] ≤ _
    unfold appK
    by_cases hm : mo.t = v.t
    · rw [if_pos hm, List.map_append, k2]
      have km : keysV mo = mo.s.map (fun x => ((0 : Int), x)) := if_pos (.inl (by omega))
      have km2 : (keysV mo).map (·.2) = mo.s := by rw [km, List.map_map]; exact List.map_id mo.s
      rw [km2, chars_app, List.length_append]
      simp only [Vl.tots]
      omega
    · rw [if_neg hm, k2]
      simp only [Vl.tots]
      omega
  · have e : vecE v.t (appK v.t (keysV v) mo) = .mk v.t ((appK v.t (keysV v) mo).map (·.1)) [] [] := if_neg h3
    have k : keysV v = v.n.map (fun x => (x, noS)) := if_neg (by omega)
    rw [e, Vl.tot_def]
    show 1 + ((appK v.t (keysV v) mo).map (·.1)).length + 0 + Vl.chars [] + Vl.tots [] ≤ _
    rw [List.length_map]
    unfold appK
    by_cases hm : mo.t = v.t
    · have km : keysV mo = mo.n.map (fun x => (x, noS)) := if_neg (by omega)
      rw [if_pos hm, List.length_append, k, km, List.length_map, List.length_map]
      simp only [Vl.tots, Vl.chars, List.map_nil, List.sum_nil]
      omega
    · rw [if_neg hm, k, List.length_map]
      simp only [Vl.tots, Vl.chars, List.map_nil, List.sum_nil]
      omega
theorem falls_of {m : Int} {es : List (Int × ByteArray)} (h : holdsG m es = true) : m = 1 → fallsK es = 0 := fun e => by
  subst e
  exact of_decide_eq_true h
set_option maxHeartbeats 16000000 in
set_option maxRecDepth 100000 in
theorem unseen_any (v a lo mo : Vl) (nA0 : Option Addr) (nc0 : Nat) (sA0 : Option Addr) (sc0 : Nat) (lA0 : Option Addr) (lc0 : Nat) (nA1 : Option Addr) (nc1 : Nat) (sA1 : Option Addr) (sc1 : Nat) (lA1 : Option Addr) (lc1 : Nat) (nA2 : Option Addr) (nc2 : Nat) (sA2 : Option Addr) (sc2 : Nat) (lA2 : Option Addr) (lc2 : Nat) (nA3 : Option Addr) (nc3 : Nat) (sA3 : Option Addr) (sc3 : Nat) (lA3 : Option Addr) (lc3 : Nat) (w : World) (hv0 : VB w w.heap.size v nA0 nc0 sA0 sc0 lA0 lc0) (hv1 : VB w w.heap.size a nA1 nc1 sA1 sc1 lA1 lc1) (hv2 : VB w w.heap.size lo nA2 nc2 sA2 sc2 lA2 lc2) (hv3 : VB w w.heap.size mo nA3 nc3 sA3 sc3 lA3 lc3) (htot : v.tot + a.tot + lo.tot + mo.tot ≤ 1048576) :
    Calls Try.prog 4 #[.agg #[.int .i64 v.t, .slice nA0 v.n.length nc0, .slice sA0 v.s.length sc0, .slice lA0 v.l.length lc0], .agg #[.int .i64 a.t, .slice nA1 a.n.length nc1, .slice sA1 a.s.length sc1, .slice lA1 a.l.length lc1], .agg #[.int .i64 lo.t, .slice nA2 lo.n.length nc2, .slice sA2 lo.s.length sc2, .slice lA2 lo.l.length lc2], .agg #[.int .i64 mo.t, .slice nA3 mo.n.length nc3, .slice sA3 mo.s.length sc3, .slice lA3 mo.l.length lc3]] w fun e w' => e = .returned (.bool true) ∧ w.grownBy w' none := by
  obtain ⟨wa, hwa⟩ : ∃ wa, wa = ((((w.alloc (.cells #[.int .i64 v.t, .slice nA0 v.n.length nc0, .slice sA0 v.s.length sc0, .slice lA0 v.l.length lc0] 26)).alloc (.cells #[.int .i64 a.t, .slice nA1 a.n.length nc1, .slice sA1 a.s.length sc1, .slice lA1 a.l.length lc1] 26)).alloc (.cells #[.int .i64 lo.t, .slice nA2 lo.n.length nc2, .slice sA2 lo.s.length sc2, .slice lA2 lo.l.length lc2] 26)).alloc (.cells #[.int .i64 mo.t, .slice nA3 mo.n.length nc3, .slice sA3 mo.s.length sc3, .slice lA3 mo.l.length lc3] 26)) := ⟨_, rfl⟩
  have hga : w.grownBy wa none := by rw [hwa]; exact gb_alloc (gb_alloc (gb_alloc (gb_alloc (gb_refl w none) _) _) _) _
  have hb0 : wa.heap[w.heap.size]? = some (.cells #[.int .i64 v.t, .slice nA0 v.n.length nc0, .slice sA0 v.s.length sc0, .slice lA0 v.l.length lc0] 26 (0, 0)) := by
    rw [hwa]
    exact (Below.heap_alloc _ _ _ (by simp only [World.size_alloc]; omega)).trans ((Below.heap_alloc _ _ _ (by simp only [World.size_alloc]; omega)).trans ((Below.heap_alloc _ _ _ (by simp only [World.size_alloc]; omega)).trans (heap_alloc_new w _)))
  have hb1 : wa.heap[w.heap.size + 1]? = some (.cells #[.int .i64 a.t, .slice nA1 a.n.length nc1, .slice sA1 a.s.length sc1, .slice lA1 a.l.length lc1] 26 (0, 0)) := by
    rw [hwa]
    refine (Below.heap_alloc _ _ _ (by simp only [World.size_alloc]; omega)).trans ((Below.heap_alloc _ _ _ (by simp only [World.size_alloc]; omega)).trans ?_)
    have := heap_alloc_new (w.alloc (.cells #[.int .i64 v.t, .slice nA0 v.n.length nc0, .slice sA0 v.s.length sc0, .slice lA0 v.l.length lc0] 26)) (.cells #[.int .i64 a.t, .slice nA1 a.n.length nc1, .slice sA1 a.s.length sc1, .slice lA1 a.l.length lc1] 26)
    rwa [World.size_alloc] at this
  have hb2 : wa.heap[w.heap.size + 2]? = some (.cells #[.int .i64 lo.t, .slice nA2 lo.n.length nc2, .slice sA2 lo.s.length sc2, .slice lA2 lo.l.length lc2] 26 (0, 0)) := by
    rw [hwa]
    refine (Below.heap_alloc _ _ _ (by simp only [World.size_alloc]; omega)).trans ?_
    have := heap_alloc_new ((w.alloc (.cells #[.int .i64 v.t, .slice nA0 v.n.length nc0, .slice sA0 v.s.length sc0, .slice lA0 v.l.length lc0] 26)).alloc (.cells #[.int .i64 a.t, .slice nA1 a.n.length nc1, .slice sA1 a.s.length sc1, .slice lA1 a.l.length lc1] 26)) (.cells #[.int .i64 lo.t, .slice nA2 lo.n.length nc2, .slice sA2 lo.s.length sc2, .slice lA2 lo.l.length lc2] 26)
    rwa [World.size_alloc, World.size_alloc] at this
  have hb3 : wa.heap[w.heap.size + 3]? = some (.cells #[.int .i64 mo.t, .slice nA3 mo.n.length nc3, .slice sA3 mo.s.length sc3, .slice lA3 mo.l.length lc3] 26 (0, 0)) := by
    rw [hwa]
    have := heap_alloc_new (((w.alloc (.cells #[.int .i64 v.t, .slice nA0 v.n.length nc0, .slice sA0 v.s.length sc0, .slice lA0 v.l.length lc0] 26)).alloc (.cells #[.int .i64 a.t, .slice nA1 a.n.length nc1, .slice sA1 a.s.length sc1, .slice lA1 a.l.length lc1] 26)).alloc (.cells #[.int .i64 lo.t, .slice nA2 lo.n.length nc2, .slice sA2 lo.s.length sc2, .slice lA2 lo.l.length lc2] 26)) (.cells #[.int .i64 mo.t, .slice nA3 mo.n.length nc3, .slice sA3 mo.s.length sc3, .slice lA3 mo.l.length lc3] 26)
    rwa [World.size_alloc, World.size_alloc, World.size_alloc] at this
  have HB0 := hide hb0
  have HV0 := hide (hv0.keepUp hga)
  have HB1 := hide hb1
  have HV1 := hide (hv1.keepUp hga)
  have HB2 := hide hb2
  have HV2 := hide (hv2.keepUp hga)
  have HB3 := hide hb3
  have HV3 := hide (hv3.keepUp hga)
  obtain ⟨y00, y01, y02, y03⟩ := box4 hb0
  obtain ⟨y10, y11, y12, y13⟩ := box4 hb1
  obtain ⟨y20, y21, y22, y23⟩ := box4 hb2
  obtain ⟨y30, y31, y32, y33⟩ := box4 hb3
  obtain ⟨wb, hwb⟩ : ∃ wb, wb = wa.alloc (.cells #[.int .i64 v.t, .slice nA0 v.n.length nc0, .slice sA0 v.s.length sc0, .slice lA0 v.l.length lc0, .int .i64 a.t, .slice nA1 a.n.length nc1, .slice sA1 a.s.length sc1, .slice lA1 a.l.length lc1, .int .i64 lo.t, .slice nA2 lo.n.length nc2, .slice sA2 lo.s.length sc2, .slice lA2 lo.l.length lc2, .int .i64 mo.t, .slice nA3 mo.n.length nc3, .slice sA3 mo.s.length sc3, .slice lA3 mo.l.length lc3] 26) := ⟨_, rfl⟩
  have hgb : wa.grownBy wb none := by rw [hwb]; exact gb_alloc (gb_refl wa none) _
  have hrb : Rd wb wb.heap.size (some ⟨wa.heap.size, 0, none⟩) ([.int .i64 v.t, .slice nA0 v.n.length nc0, .slice sA0 v.s.length sc0, .slice lA0 v.l.length lc0] ++ [.int .i64 a.t, .slice nA1 a.n.length nc1, .slice sA1 a.s.length sc1, .slice lA1 a.l.length lc1] ++ [.int .i64 lo.t, .slice nA2 lo.n.length nc2, .slice sA2 lo.s.length sc2, .slice lA2 lo.l.length lc2] ++ [.int .i64 mo.t, .slice nA3 mo.n.length nc3, .slice sA3 mo.s.length sc3, .slice lA3 mo.l.length lc3]) := by rw [hwb]; exact rd_lit wa _ _ _ rfl
  have HSM := hide (small_any [v, a, lo, mo] (some ⟨wa.heap.size, 0, none⟩) 4 wb.heap.size wb (rdv4 hrb (HV0.out.keepUp hgb).at4 (HV1.out.keepUp hgb).at4 (HV2.out.keepUp hgb).at4 (HV3.out.keepUp hgb).at4) (Nat.le_refl _) (by simp) (by
    intro x hx
    simp only [List.mem_cons, List.not_mem_nil, or_false] at hx
    rcases hx with rfl | rfl | rfl | rfl <;> omega))
  have HGA := hide hga
  have HGB := hide hgb
  have HWE := hide hwa
  have HWB := hide hwb
  have HT := hide htot
  clear hga hgb hwa hwb hrb hb0 hb1 hb2 hb3 hv0 hv1 hv2 hv3 htot
  go_enter Try.func4, Try.ntmps4
  go_upto_region 1 with fail
  rw [← HWE.out]
  go_wp2_with fail
  rw [← HWB.out]
  refine HSM.out.mono ?_
  rintro e w1 ⟨⟨b, rfl, hsm⟩, hg1⟩
  have HG1 := hide (gb_trans HGB.out hg1 (.inl rfl))
  have HS := hide hsm
  clear hg1 hsm HSM
  cases b
  · go_wp2_with fail
    refine (live_any w1).mono ?_
    rintro e w2 ⟨rfl, hg2⟩
    have HG2 := hide (gb_trans (gb_trans HGA.out HG1.out (.inl rfl)) hg2 (.inl rfl))
    clear hg2
    go_wp2_with fail
    go_ret
    exact ⟨rfl, HG2.out⟩
  have hall := HS.out rfl
  have HL0 := hide (hall v (by simp)).1
  have HL1 := hide (hall a (by simp)).1
  have HL2 := hide (hall lo (by simp)).1
  have HL3 := hide (hall mo (by simp)).1
  clear hall HS
  obtain ⟨y00, y01, y02, y03⟩ := box4 (blk_keep HB0.out HG1.out (by simp))
  obtain ⟨rv, hrv⟩ : ∃ b, rVec v.t = b := ⟨_, rfl⟩
  have HRV := hide (rVec_any v.t (.slice nA0 v.n.length nc0) (.slice sA0 v.s.length sc0) (.slice lA0 v.l.length lc0) w1)
  rw [hrv] at HRV
  have HRQ := hide hrv
  clear hrv
  go_wp2_with fail
  refine HRV.out.mono ?_
  rintro e w2 ⟨rfl, hg2⟩
  have HG2 := hide (gb_trans HG1.out hg2 (.inl rfl))
  clear hg2 HRV HG1
  cases rv
  · go_wp2_with fail
    refine (live_any w2).mono ?_
    rintro e w3 ⟨rfl, hg3⟩
    have HG3 := hide (gb_trans (gb_trans HGA.out HG2.out (.inl rfl)) hg3 (.inl rfl))
    clear hg3
    go_wp2_with fail
    go_ret
    exact ⟨rfl, HG3.out⟩
  have hvt : 1 ≤ v.t ∧ v.t ≤ 5 := by have := HRQ.out; unfold rVec at this; simpa using this
  have HVT := hide hvt
  clear hvt HRQ
  obtain ⟨es, hes⟩ : ∃ es, keysV v = es := ⟨_, rfl⟩
  have HES := hide hes
  have HEW := hide (show WfK v.t es by rw [← hes]; exact keysV_wf v HVT.out)
  have HEL : Hid (es.length ≤ 300) := hide (by rw [← hes]; exact keysV_len v 300 ⟨by have := HL0.out; omega, by have := HL0.out; omega⟩)
  clear hes
  obtain ⟨ES, hES⟩ : ∃ ES, appK v.t es mo = ES := ⟨_, rfl⟩
  have HSW := hide (show WfK v.t ES by rw [← hES]; exact appK_wf HVT.out HEW.out mo)
  have HSL : Hid (ES.length ≤ 600) := hide (by rw [← hES]; exact appK_len v.t es mo HEL.out ⟨by have := HL3.out; omega, by have := HL3.out; omega⟩)
  have HST : Hid ((vecE v.t ES).tot ≤ 1048576) := hide (by
    have h1 := vecE_tot v mo HVT.out
    rw [HES.out, hES] at h1
    have := HT.out
    omega)
  have HAP := hide hES
  clear hES
  have HBD := hide (fun (m : Int) (hm : Mark5 m) (wx : World) (hx : wa.grownBy wx none) => (by
    have h := buildG_any m hm v HVT.out nA0 nc0 sA0 sc0 lA0 lc0 v.l.length wx (HV0.out.keepUp hx).n (HV0.out.keepUp hx).s ⟨by have := HL0.out; omega, by have := HL0.out; omega⟩
    rw [HES.out] at h
    exact h))
  have HAD := hide (fun (base g : Nat) (f : List Nat) (m : Int) (hm : Mark5 m) (hh : holdsG m es = true) (wx : World) (hx : wa.grownBy wx none) (hI : IxF wx base f g m v.t es) (hb : base ≤ wx.heap.size) => (by
    have h := app_any base g f m v.t hm es hh mo nA3 nc3 sA3 sc3 lA3 lc3 mo.l.length wx hI (HV3.out.keepUp hx).n (HV3.out.keepUp hx).s ⟨by have := HL3.out; omega, by have := HL3.out; omega⟩ HEL.out hb
    rw [HAP.out] at h
    exact h))
  have HFD := hide (fun (base g : Nat) (f : List Nat) (m : Int) (wx : World) (hx : wa.grownBy wx none) (hI : IxF wx base f g m v.t ES) =>
    find_u base g f m v.t ES a HVT.out nA1 nc1 sA1 sc1 lA1 lc1 a.l.length wx hI (HV1.out.keepUp hx).n (HV1.out.keepUp hx).s ⟨by have := HL1.out; omega, by have := HL1.out; omega⟩ (by have := HSL.out; omega))
  have HRG := hide (fun (base g : Nat) (f : List Nat) (m : Int) (hh : holdsG m ES = true) (wx : World) (hx : wa.grownBy wx none) (hI : IxF wx base f g m v.t ES) =>
    range_u base g f m v.t ES HVT.out (some ⟨w.heap.size + 2, 0, none⟩) none (some lo) none wx hI ⟨w.heap.size + 2, nA2, nc2, sA2, sc2, lA2, lo.l.length, lc2, rfl, blk_keep HB2.out hx (by simp), (HV2.out.keepUp hx).n, (HV2.out.keepUp hx).s, by have := HL2.out; omega, by have := HL2.out; omega⟩ trivial (by have := HSL.out; omega) (falls_of hh))
  clear HV0 HV1 HV2 HV3 HAP HES
  obtain ⟨y00, y01, y02, y03⟩ := box4 (blk_keep HB0.out HG2.out (by simp))
  go_wp2_with fail
  refine (HBD.out 0 ⟨by decide, by decide⟩ w2 HG2.out).mono ?_
  rintro e w3 ⟨hg3, hb3⟩
  rw [if_pos (show holdsG 0 es = true from rfl)] at hb3
  obtain ⟨f0, g0, rfl, hI3⟩ := hb3
  have HG3 := hide (gb_trans HG2.out hg3 (.inl rfl))
  have HI3 := hide hI3
  have HS23 := hide hg3.size
  clear hg3 hI3
  obtain ⟨y30, y31, y32, y33⟩ := box4 (blk_keep HB3.out HG3.out (by simp))
  go_wp2_with (go_at_call 12; refine (num_any _ _).mono ?_; rintro e wn ⟨rfl, rfl⟩)
  refine (HAD.out w2.heap.size g0 f0 0 ⟨by decide, by decide⟩ rfl w3 HG3.out HI3.out HS23.out).mono ?_
  rintro e w4 ⟨f0', m0, bx, er, rfl, hI4, hm4, hh4, hw4, hf4⟩
  have HG4 := hide (hw4.gb HG3.out fun x hx => Nat.le_trans HG2.out.size (HI3.out.lt x hx).1)
  have HI4 := hide hI4
  have HM4 := hide hm4
  have HH4 := hide hh4
  clear hI4 hm4 hh4 hw4 hf4 HI3 HG3 HS23
  go_wp2_with fail
  go_loopw [11] (fun i wr => ∃ j : Nat, i = .int .i64 (j : Int) ∧ j ≤ 5 ∧ wa.grownBy wr none ∧ IxF wr w2.heap.size f0' g0 m0 v.t ES) (fun i _ => 5 - (intOf i).toNat)
  case atStart => exact ⟨0, rfl, by omega, HG4.out, HI4.out⟩
  case round =>
    obtain ⟨j, rfl, hj, hg, hI⟩ := hrel
    by_cases hlt : j ≤ 4
    · have hlt1 : (j : Int) ≤ 4 := by omega
      have HMJ : Hid (Mark5 (j : Int)) := hide (by unfold Mark5; omega)
      have HG := hide hg
      have HI := hide hI
      clear hg hI
      obtain ⟨y00, y01, y02, y03⟩ := box4 (blk_keep HB0.out HG.out (by simp))
      by_cases hh : holdsG (j : Int) es = true
      · have HH := hide hh
        clear hh
        go_wp2_with fail
        refine (HBD.out (j : Int) HMJ.out wr HG.out).mono ?_
        rintro e u1 ⟨hg1, hb1⟩
        rw [if_pos HH.out] at hb1
        obtain ⟨f1, g1, rfl, hI1⟩ := hb1
        have HG1 := hide (gb_trans HG.out hg1 (.inl rfl))
        have HI1 := hide hI1
        have HP1 := hide (HI.out.gb hg1)
        have HSZ := hide hg1.size
        clear hg1 hI1
        obtain ⟨y30, y31, y32, y33⟩ := box4 (blk_keep HB3.out HG1.out (by simp))
        go_wp2_with (go_at_call 12; refine (num_any _ _).mono ?_; rintro e wn ⟨rfl, rfl⟩)
        refine (HAD.out wr.heap.size g1 f1 (j : Int) HMJ.out HH.out u1 HG1.out HI1.out HSZ.out).mono ?_
        rintro e u2 ⟨f2, m2, bx2, er2, rfl, hI2, hm2, hh2, hw2, _⟩
        have HG2' := hide (hw2.gb HG1.out fun x hx => Nat.le_trans HG.out.size (HI1.out.lt x hx).1)
        have HI2 := hide hI2
        have HM2 := hide hm2
        have HH2 := hide hh2
        have HP2 := hide (HP1.out.wro hw2 fun x hx hm => by
          have h1 := (HI1.out.lt x hx).1
          have h2 := (HI.out.lt x hm).2
          omega)
        clear hI2 hm2 hh2 hw2 HI1 HP1 HSZ
        go_wp2_with fail
        refine (kind_any wr.heap.size g1 f2 m2 v.t ES u2 HI2.out).mono ?_
        rintro e u2' ⟨rfl, rfl⟩
        go_wp2_with fail
        refine (vector_u wr.heap.size g1 f2 m2 v.t ES u2 HI2.out (by have := HSL.out; omega)).mono ?_
        rintro e u3 ⟨qA, qc, pA, pc, oA, oc, rfl, hv3, hg3, _⟩
        have HG3 := hide (gb_trans HG2'.out hg3 (.inl rfl))
        have HI3 := hide (HI2.out.gb hg3)
        have HP3 := hide (HP2.out.gb hg3)
        have HVV := hide hv3
        clear hg3 hv3 HI2 HP2
        go_wp2_with fail
        refine (valid_u m2 v.t HM2.out HVT.out ES HSW.out HH2.out (by have := HSL.out; omega) qA qc pA pc oA oc (vecE v.t ES).l.length u3 HVV.out.n HVV.out.s).mono ?_
        rintro e u4 ⟨rfl, hg4⟩
        have HG4' := hide (gb_trans HG3.out hg4 (.inl rfl))
        have HI4' := hide (HI3.out.gb hg4)
        have HP4 := hide (HP3.out.gb hg4)
        clear hg4 HVV HG3 HI3 HP3
        go_wp2_with (go_at_call 12; refine (num_any _ _).mono ?_; rintro e wn ⟨rfl, rfl⟩)
        refine (vector_u wr.heap.size g1 f2 m2 v.t ES u4 HI4'.out (by have := HSL.out; omega)).mono ?_
        rintro e u5 ⟨qA, qc, pA, pc, oA, oc, rfl, hv5, hg5, _⟩
        have HG5 := hide (gb_trans HG4'.out hg5 (.inl rfl))
        have HI5 := hide (HI4'.out.gb hg5)
        have HP5 := hide (HP4.out.gb hg5)
        have HV5 := hide hv5
        clear hg5 hv5 HG4' HI4' HP4
        go_wp2_with fail
        refine (vector_u w2.heap.size g0 f0' m0 v.t ES u5 HP5.out (by have := HSL.out; omega)).mono ?_
        rintro e u6 ⟨rA, rc, kA, kc, zA, zc, rfl, hv6, hg6, _⟩
        have HG6 := hide (gb_trans HG5.out hg6 (.inl rfl))
        have HI6 := hide (HI5.out.gb hg6)
        have HP6 := hide (HP5.out.gb hg6)
        have HMA := hide (rMatch_any (vecE v.t ES) (vecE v.t ES) u6 u6.heap.size qA qc pA pc oA oc rA rc kA kc zA zc (by have := HST.out; omega) (by have := HST.out; omega) (Nat.le_refl _) (HV5.out.keepUp hg6) hv6)
        rw [Vl.same_refl] at HMA
        clear hg6 hv6 HV5 HG5 HI5 HP5
        go_wp2_with fail
        refine HMA.out.mono ?_
        rintro e u7 ⟨rfl, hg7⟩
        have HG7 := hide (gb_trans HG6.out hg7 (.inl rfl))
        have HI7 := hide (HI6.out.gb hg7)
        have HP7 := hide (HP6.out.gb hg7)
        clear hg7 HMA HG6 HI6 HP6
        obtain ⟨y10, y11, y12, y13⟩ := box4 (blk_keep HB1.out HG7.out (by simp))
        go_wp2_with fail
        refine (HFD.out wr.heap.size g1 f2 m2 u7 HG7.out HI7.out).mono ?_
        obtain ⟨FL, hFL⟩ : ∃ x, findL v.t ES a = x := ⟨_, rfl⟩
        obtain ⟨FE, hFE⟩ : ∃ x, erK (elemK v.t a) = x := ⟨_, rfl⟩
        obtain ⟨RL, hRL⟩ : ∃ x, rangeL v.t ES (some lo) none = x := ⟨_, rfl⟩
        obtain ⟨RE, hRE⟩ : ∃ x, rangeE v.t (some lo) none = x := ⟨_, rfl⟩
        have HFLL : Hid (FL.length ≤ 1000000) := hide (by
          rw [← hFL]
          unfold findL places
          have := HSL.out
          split
          · exact Nat.le_trans (List.length_filter_le _ _) (by simp; omega)
          · exact Nat.zero_le _)
        have HRLL : Hid (RL.length ≤ 1000000) := hide (by
          rw [← hRL]
          unfold rangeL rangeK
          have := HSL.out
          split
          · exact Nat.le_trans (List.length_filter_le _ _) (by simp; omega)
          · exact Nat.zero_le _)
        rw [hFL, hFE] at HFD ⊢
        rw [hRL, hRE] at HRG
        clear hFL hFE hRL hRE
        rintro e u8 ⟨A8, c8, rfl, hr8, hg8⟩
        have HG8 := hide (gb_trans HG7.out hg8 (.inl rfl))
        have HI8 := hide (HI7.out.gb hg8)
        have HP8 := hide (HP7.out.gb hg8)
        have HR8 := hide hr8
        clear hg8 hr8 HG7 HI7 HP7
        obtain ⟨y10, y11, y12, y13⟩ := box4 (blk_keep HB1.out HG8.out (by simp))
        go_wp2_with fail
        refine (HFD.out w2.heap.size g0 f0' m0 u8 HG8.out HP8.out).mono ?_
        rintro e u9 ⟨A9, c9, rfl, hr9, hg9⟩
        have HG9 := hide (gb_trans HG8.out hg9 (.inl rfl))
        have HI9 := hide (HI8.out.gb hg9)
        have HP9 := hide (HP8.out.gb hg9)
        have HR8' := hide ((HR8.out.grown hg9 (Nat.le_refl _) (by simp)).more hg9.size)
        have HR9 := hide hr9
        clear hg9 hr9 HG8 HI8 HP8 HR8
        go_wp2_with fail
        refine (HRG.out wr.heap.size g1 f2 m2 HH2.out u9 HG9.out HI9.out).mono ?_
        rintro e u10 ⟨A10, c10, rfl, hr10, hg10⟩
        have HG10 := hide (gb_trans HG9.out hg10 (.inl rfl))
        have HP10 := hide (HP9.out.gb hg10)
        have HR8 := hide ((HR8'.out.grown hg10 (Nat.le_refl _) (by simp)).more hg10.size)
        have HR9' := hide ((HR9.out.grown hg10 (Nat.le_refl _) (by simp)).more hg10.size)
        have HR10 := hide hr10
        clear hg10 hr10 HG9 HI9 HP9 HR8' HR9
        go_wp2_with fail
        refine (HRG.out w2.heap.size g0 f0' m0 HH4.out u10 HG10.out HP10.out).mono ?_
        rintro e u11 ⟨A11, c11, rfl, hr11, hg11⟩
        have HG11 := hide (gb_trans HG10.out hg11 (.inl rfl))
        have HP11 := hide (HP10.out.gb hg11)
        have HR8' := hide ((HR8.out.grown hg11 (Nat.le_refl _) (by simp)).more hg11.size)
        have HR9 := hide ((HR9'.out.grown hg11 (Nat.le_refl _) (by simp)).more hg11.size)
        have HR10' := hide ((HR10.out.grown hg11 (Nat.le_refl _) (by simp)).more hg11.size)
        have HR11 := hide hr11
        have HSN := hide (sameN_any FL FL A8 A9 c8 c9 u11.heap.size u11 HR8'.out HR9.out HFLL.out)
        rw [show decide (FL = FL) = true from decide_eq_true rfl] at HSN
        clear hg11 hr11 HG10 HP10 HR8 HR9' HR10
        go_wp2_with fail
        refine HSN.out.mono ?_
        rintro e u12 ⟨rfl, hg12⟩
        have HG12 := hide (gb_trans HG11.out hg12 (.inl rfl))
        have HP12 := hide (HP11.out.gb hg12)
        have HR10 := hide ((HR10'.out.grown hg12 (Nat.le_refl _) (by simp)).more hg12.size)
        have HR12 := hide ((HR11.out.grown hg12 (Nat.le_refl _) (by simp)).more hg12.size)
        have HSR := hide (sameN_any RL RL A10 A11 c10 c11 u12.heap.size u12 HR10.out HR12.out HRLL.out)
        rw [show decide (RL = RL) = true from decide_eq_true rfl] at HSR
        clear hg12 HG11 HP11 HR10' HR11 HSN
        go_wp2_with (first
          | (go_at_call 12; refine (num_any _ _).mono ?_; rintro e wn ⟨rfl, rfl⟩)
          | (go_at_call 25; refine HSR.out.mono ?_; rintro e u13 ⟨rfl, hg13⟩; have HG13 := hide (gb_trans HG12.out hg13 (.inl rfl)); have HP13 := hide (HP12.out.gb hg13); clear hg13))
        go_roundw
        case rel => exact ⟨j + 1, by go_num, by omega, HG13.out, HP13.out⟩
        case measure => simp [intOf]; omega
      · have hnb : ∀ (x y : Prop) [Decidable (holdsG (j : Int) es = true)], (if holdsG (j : Int) es = true then x else y) = y := fun x y _ => if_neg hh
        have HH := hide hh
        clear hh hnb
        go_wp2_with fail
        refine (HBD.out (j : Int) HMJ.out wr HG.out).mono ?_
        rintro e u1 ⟨hg1, hb1⟩
        rw [if_neg HH.out] at hb1
        obtain rfl := hb1
        have HG1 := hide (gb_trans HG.out hg1 (.inl rfl))
        have HI1 := hide (HI.out.gb hg1)
        clear hg1
        go_wp2_with (go_at_call 12; refine (num_any _ _).mono ?_; rintro e wn ⟨rfl, rfl⟩)
        go_roundw
        case rel => exact ⟨j + 1, by go_num, by omega, HG1.out, HI1.out⟩
        case measure => simp [intOf]; omega
    · have hlt1 : ¬ (j : Int) ≤ 4 := by omega
      have HG := hide hg
      clear hg hI
      go_wp2_with fail
      refine (live_any wr).mono ?_
      rintro e w5 ⟨rfl, hg5⟩
      have HG5 := hide (gb_trans (gb_trans HGA.out HG.out (.inl rfl)) hg5 (.inl rfl))
      clear hg5
      go_wp2_with fail
      go_ret
      exact ⟨rfl, HG5.out⟩
end Go.Proofs.Ytfdckhnhancbdaa

/- PROVED: whatever v, a, lo and more are, of bulk at most 1048576: where they are small and v is a vector, an index of any mark that may be built of v finds a, and the range from lo on, at the places at which the plain index finds them, with the same errors, after more was appended to both; its mark is then right for its vector, which is the plain one's (P9.8, P9.9, without the document's answer); the law returns true and leaves its arguments as they were. Condition: what the law reads is of bulk at most 1048576. -/
namespace Go.Proofs.Ytfdckhnhancbdaa
open Go.RowKit Go.ChangeShapes Go.WideShapes Go.ChangeAt

set_option maxHeartbeats 2000000 in
set_option maxRecDepth 100000 in
theorem lawUnseen_lifted (os : Os) (started : os.Started) (H : Type) (enc : TypeId × Value → H) (F : Stop.Interp) :
    ReturnsInHanded {} Try.checked os 4 .any ((Rows.OpenSpec.upto Rows.attrUnseenSpec).pre6 enc Try.prog Try.f4 Rows.attrUnseenUptoRow.domain false) (((Rows.OpenSpec.upto Rows.attrUnseenSpec).at F).post enc Try.prog Try.f4 false true false false) := by
  refine returnsInHanded_of_cond (C := Try.checked) (s := Rows.OpenSpec.upto Rows.attrUnseenSpec) (k := Rows.uptoSmall) rfl Try.own started (by kernel_rfl) Try.func4
    (OpenSpec.witness (enc := enc) (C := Try.checked) (s := Rows.OpenSpec.upto Rows.attrUnseenSpec) (k := Rows.uptoSmall) rfl false ⟨#[], #[.agg #[.int .i64 0, .slice none 0 0, .slice none 0 0, .slice none 0 0], .agg #[.int .i64 0, .slice none 0 0, .slice none 0 0, .slice none 0 0], .agg #[.int .i64 0, .slice none 0 0, .slice none 0 0, .slice none 0 0], .agg #[.int .i64 0, .slice none 0 0, .slice none 0 0, .slice none 0 0]], []⟩ 8 (by kernel_rfl) (by kernel_rfl) (by kernel_rfl)
      (x := ([.agg [.lit (.int .i64 0), .nil, .nil, .nil], .agg [.lit (.int .i64 0), .nil, .nil, .nil], .agg [.lit (.int .i64 0), .nil, .nil, .nil], .agg [.lit (.int .i64 0), .nil, .nil, .nil]], [], [])) (by kernel_rfl) rfl (by kernel_rfl)) ?_
  intro W base args ds gs before hval0 hW _ hk _
  have hval : ∀ (j : Nat) t v, Try.f4.params[j]? = some t → args[j]? = some v → Value.okWide Try.prog W .any base t v := hval0
  have hW' := hW
  obtain ⟨p, q, hA0, hV, _, _, _⟩ := hW
  have hA : DataW.TrodAll enc Try.prog W 0 (fun _ => true) true Try.f4.params.toList args.toList ds p := hA0
  rw [Try.params4] at hA hval
  obtain ⟨v0, v1, v2, v3, d0, d1, d2, d3, p0, p1, p2, p3, rfl, rfl, _, t0, t1, t2, t3⟩ := trodAll_four hA
  obtain ⟨rfl, rfl⟩ := trodVars_none hV
  have hb := of_decide_eq_true hk
  simp only [List.append_nil, Rows.uptoBulkAll] at hb
  obtain ⟨v, nA0, nc0, sA0, sc0, lA0, lc0, rfl, hv0, ht0⟩ := open_v (hval 0 _ _ rfl rfl) t0
  obtain ⟨a, nA1, nc1, sA1, sc1, lA1, lc1, rfl, hv1, ht1⟩ := open_v (hval 1 _ _ rfl rfl) t1
  obtain ⟨lo, nA2, nc2, sA2, sc2, lA2, lc2, rfl, hv2, ht2⟩ := open_v (hval 2 _ _ rfl rfl) t2
  obtain ⟨mo, nA3, nc3, sA3, sc3, lA3, lc3, rfl, hv3, ht3⟩ := open_v (hval 3 _ _ rfl rfl) t3
  refine (unseen_any v a lo mo nA0 nc0 sA0 sc0 lA0 lc0 nA1 nc1 sA1 sc1 lA1 lc1 nA2 nc2 sA2 sc2 lA2 lc2 nA3 nc3 sA3 sc3 lA3 lc3 W hv0 hv1 hv2 hv3 (by omega)).mono fun e W' ⟨he, hg⟩ => ⟨_, he, post_law hW' rfl ?_ rfl rfl (gb_below hg (Nat.le_refl _) (by simp))⟩
  intro t ht
  rw [Try.params4] at ht
  simp only [List.mem_cons, List.not_mem_nil, or_false] at ht
  rcases ht with rfl | rfl | rfl | rfl <;> exact ⟨by kernel_rfl, of_decide_eq_true (by kernel_rfl)⟩

set_option maxRecDepth 100000 in
theorem attrUnseen_holds : Rows.AttrUnseenUptoSaid :=
  OpenClaim.holds_of_cond 4 Try.f4 rfl rfl rfl rfl rfl rfl rfl ⟨rfl, rfl, rfl, rfl, rfl⟩ rfl rfl rfl rfl rfl (by kernel_rfl) Try.func4 (by kernel_rfl)
    (of_decide_eq_true (by kernel_rfl)) (by unfold Func.isWrapper; first | (rw [if_pos (by decide +kernel)]; kernel_rfl) | (rw [if_neg (by decide +kernel)]; exact ⟨rfl, rfl⟩))
    (fun os started H enc _ F => lawUnseen_lifted os started H enc F)
end Go.Proofs.Ytfdckhnhancbdaa
