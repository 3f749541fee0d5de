/-
  The law SymtabFiles: both open the file.
-/
import Derived.Test.YtmcmlkglkpbnpaaGreatQbv
import Derived.BigQuiet
import Derived.Deep.CutBlock
import Derived.Deep.RegionLaw
import Derived.Deep.DeepCutAuto
namespace Go.Proofs.YtmcmlkglkpbnpaaGreat
open Go.RowKit
attribute [local go_sem ↓] Go.wp_at_zero Go.wp_at_succ
set_option maxHeartbeats 8000000 in
set_option maxRecDepth 100000 in
theorem kinds_any : filesT.A := by
 unfold filesT
 dsimp -zeta only
 intro name C c l w QA g KA aA q u6 u11 u12 u14 u15 u16 u17 u18 u19 u20 u21 u22 u52 u53 u54 u55 u56 u57 u58 u59 u60 u61 u62 u63 u64 u65 u66 u67 u68 u69 u70 u71 u72 u73 u74 u75 u76 u77 u78 u79 u80 u81 u82 u83 u84 u85 u86 u87 u88 u89 u90 u91 u92 u93 u94 u95 u96 u97 u98 u99 u100 u101 u102 u103 u104 u105 u106 u107 u108 u109 u110 u111 u112 u113 u114 u115 u116 u117 u118 u119 u120 u121 u122 u123 u124 u125 u126 u127 u128 u129 u130 u131 u132 u133 u134 u135 u136 u137 u138 u139 u140 u141 u142 u143 u144 u145 u146 u147 u148 u149 u150 u151 u152 u153 u154 u155 u156 u157 u158 u159 u160 u161 u162 u163 u164 u165 u166 u167 u168 u169 u170 u171 u172 u173 u174 u175 u176 u177 u178 u179 u180 u181 u182 u183 u184 u185 u186 u187 u188 u189 u190 u191 u192 u193 u194 u195 u196 u197 u198 u199 u200 u201 u202 u203 u204 u205 u206 u207 u208 u209 u210 u211 u212 u213 u214 u215 u216 u217 u218 u219 u220 u221 u222 u223 u224 u225 u226 u227 u228 u229 u230 u231 u232 u233 u234 u235 u236 u237 u238 u239 u240 u241 u242 u243 u244 u245 u246 u247 u248 u249 u250 u251 u252 u253 u254 u255 u256 u257 u258 u259 u260 u261 j HJ b oo x w1 QB KB aB o HBL HSTR HTRN HNB HTC bx HB1 HST e0 e1 e2 e3 e4 HCE HLS HT3 KC aC JD KD aD aE
 by_cases k3 : x.kind = 3
 ·have q3 : (x.kind == 3) = true := by rw [k3]; rfl
  clear k3
  have HCR := hide (HST.out.crash (by have := HJ.out; omega) (by have := HJ.out; omega) x.dir x.tA x.tc w.heap.size x.tl HTRN.out HBL.out (fun i hi => .inl hi) HTC.out HT3.out)
  go_wp2_with (first
   | (go_at_call 9; refine HC2.out.mono ?_; rintro e w3 ⟨rfl, hs3⟩; have HS3 := hide hs3; clear hs3)
   | (go_at_call 8; refine HCR.out.mono ?_; rintro e w2 ⟨rfl, hT, hc⟩; have HC2 := hide hc; have hb := HCE.out _ hT; have d3 : w2.cell? ⟨bx, 3, none⟩ = some (.int .i64 x.dir) := (by { rw [blk_cell hb]; rfl }); have d4 : w2.cell? ⟨bx, 4, none⟩ = some (.slice x.tA x.tl.length x.tc) := (by { rw [blk_cell hb]; rfl }); clear hT hc hb))
  go_meet
  case rel => exact ⟨_, _, HS3.out, Nat.le_add_right _ _, fun _ => Nat.le_refl _⟩
 have q3 : (x.kind == 3) = false := beq_eq_false_iff_ne.2 k3
 clear k3
 by_cases k4 : x.kind = 4
 ·have q4 : (x.kind == 4) = true := by rw [k4]; rfl
  clear k4
  have HCR := hide (HST.out.arm x.n HNB.out)
  go_wp2_with (first
   | (go_at_call 11; refine HC2.out.mono ?_; rintro e w3 ⟨rfl, hs3⟩; have HS3 := hide hs3; clear hs3)
   | (go_at_call 10; refine HCR.out.mono ?_; rintro e w2 ⟨rfl, hT, hc⟩; have HC2 := hide hc; have hb := HCE.out _ hT; have d2 : w2.cell? ⟨bx, 2, none⟩ = some (.int .i64 x.n) := (by { rw [blk_cell hb]; rfl }); clear hT hc hb))
  go_meet
  case rel => exact ⟨_, _, HS3.out, Nat.le_add_right _ _, fun _ => Nat.le_refl _⟩
 have q4 : (x.kind == 4) = false := beq_eq_false_iff_ne.2 k4
 clear k4
 by_cases k5 : x.kind = 5
 ·have q5 : (x.kind == 5) = true := by rw [k5]; rfl
  clear k5
  obtain ⟨S, R, Z2, hsim, hbo, hKZ, hback⟩ := HST.out.both
  obtain ⟨r, hrE⟩ : ∃ r, r = St.setCapE x.n := ⟨_, rfl⟩
  obtain ⟨hans, hsm⟩ := hsim.setCap x.n
  obtain ⟨S9, hS9⟩ : ∃ S9, S9 = S.setCap x.n := ⟨_, rfl⟩
  obtain ⟨R9, hR9⟩ : ∃ R9, R9 = (capR R x.n).2 := ⟨_, rfl⟩
  rw [← hS9, ← hR9] at hsm
  have HSIM := hide hsm
  have HBK := hide hback
  have HB0 := hide hbo
  have HBX := hide HB1.out
  have HZ1 : Hid (Z2 bx) := hide (hKZ _ (.inr rfl))
  have HCP : Hid (∀ B0 (R2 : RS) (wx : World), Bo B0 Z2 g S q R2 wx → Calls Tryz.prog 13 #[.pointer (some ⟨g, 0, none⟩), .int .i64 x.n] wx fun e w' => e = .returned (.int .i64 r) ∧ Bo B0 Z2 g S9 q R2 w') := hide fun B0 R2 wx hb => by rw [hrE, hS9]; exact hb.pCap x.n
  have HCD : Hid (∀ B0 (S2 : St) (wx : World), Bo B0 Z2 g S2 q R wx → Calls Tryz.prog 14 #[.pointer (some ⟨q, 0, none⟩), .int .i64 x.n] wx fun e w' => e = .returned (.int .i64 r) ∧ Bo B0 Z2 g S2 q R9 w') := hide fun B0 S2 wx hb => by rw [hrE, hans, hR9]; exact hb.dCap x.n
  clear hans hsm hrE hS9 hR9 hsim hbo hKZ hback
  have TL := hide (JBo.two w1 Z2 g q S S9 R R9)
  have HJ0 : Hid (JBo w1 Z2 g q S S9 R R9 (fun _ => false) w1.drew) := hide HB0.out.drew
  go_upto_region 25 with fail
  refine wp_region_two' TL.out (fun _ => false) HJ0.out 9 (by kernel_rfl) (by kernel_rfl) ?_
  intro A O W L HA HO HW HL
  simp only [List.take_succ_cons, List.take_zero]
  have HS := hide (show A.tmps.size = 263 by rw [HA.out]; rfl)
  have HGW := hide (show w1.grownBy W none by rw [HW.out]; exact gb_drew (gb_refl w1 none))
  have A7 := hide (show A.eval (.tmp 7) = .pointer (some ⟨g, 0, none⟩) by rw [HA.out]; rfl)
  have A9 := hide (show A.eval (.tmp 9) = .pointer (some ⟨q, 0, none⟩) by rw [HA.out]; rfl)
  have A14 := hide (show A.eval (.tmp 14) = .pointer (some ⟨bx, 0, none⟩) by rw [HA.out]; rfl)
  refine tFacts_lit TL.out (.pointer (some ⟨g, 0, none⟩)) rfl ?_ ?_
  ·intro a wq hw hl
   have e7 : a.tmps[7]?.getD undef = .pointer (some ⟨g, 0, none⟩) := (hl 7 (by first | (simp [Op.operands]; done) | simp [Op.operands, Call.operands]) (by rw [HS.out]; decide)).trans A7.out
   clear hl
   go_simp
  refine tFacts_lit TL.out (.pointer (some ⟨bx, 2, none⟩)) rfl ?_ ?_
  ·intro a wq hw hl
   have e14 : a.tmps[14]?.getD undef = .pointer (some ⟨bx, 0, none⟩) := (hl 14 (by first | (simp [Op.operands]; done) | simp [Op.operands, Call.operands]) (by rw [HS.out]; decide)).trans A14.out
   clear hl
   go_simp
  refine tFacts_lit TL.out (.int .i64 x.n) rfl ?_ ?_
  ·intro a wq hw hl
   have e98 : a.tmps[98]?.getD undef = .pointer (some ⟨bx, 2, none⟩) := hl 98 (by first | (simp [Op.operands]; done) | simp [Op.operands, Call.operands]) (by rw [HS.out]; decide)
   have htz : Turned (fun i => ¬ Z2 i) w1 wq := (by have hw9 := hw; rw [HW.out] at hw9; exact hw9.of_drew)
   have hbX := (htz.block _ (blk_lt HBX.out) (fun hh => hh HZ1.out)).trans HBX.out
   have c0 : wq.cell? ⟨bx, 2, none⟩ = some (.int .i64 x.n) := by rw [blk_cell hbX]; rfl
   clear hbX
   clear hl
   go_simp
  refine tFacts_write 0 (.int .i64 r) rfl rfl ?_ ?_
  ·intro a wq bq hw hbq hjq hl
   have e97 : a.tmps[97]?.getD undef = .pointer (some ⟨g, 0, none⟩) := hl 97 (by first | (simp [Op.operands]; done) | simp [Op.operands, Call.operands]) (by rw [HS.out]; decide)
   have e99 : a.tmps[99]?.getD undef = .int .i64 x.n := hl 99 (by first | (simp [Op.operands]; done) | simp [Op.operands, Call.operands]) (by rw [HS.out]; decide)
   have htz : Turned (fun i => ¬ Z2 i) w1 wq := (by have hw9 := hw; rw [HW.out] at hw9; exact hw9.of_drew)
   clear hl
   go_simp
   exact sUpon_call (JBo.p bq wq (fun B0 R2 hb => HCP.out B0 R2 wq hb) hbq hjq)
  refine tFacts_step TL.out (.int .i64 r) rfl ?_ ?_
  ·intro a wq hw hl
   have e100 : a.tmps[100]?.getD undef = .int .i64 r := hl 100 (by first | (simp [Op.operands]; done) | simp [Op.operands, Call.operands]) (by rw [HS.out]; decide)
   clear hl
   go_simp
   exact gUpon_lit ((lnum_any r wq).mono fun e w9 hx => ⟨hx.1, hx.2 ▸ gb_refl wq none⟩)
  refine tFacts_lit TL.out (.pointer (some ⟨q, 0, none⟩)) rfl ?_ ?_
  ·intro a wq hw hl
   have e9 : a.tmps[9]?.getD undef = .pointer (some ⟨q, 0, none⟩) := (hl 9 (by first | (simp [Op.operands]; done) | simp [Op.operands, Call.operands]) (by rw [HS.out]; decide)).trans A9.out
   clear hl
   go_simp
  refine tFacts_lit TL.out (.pointer (some ⟨bx, 2, none⟩)) rfl ?_ ?_
  ·intro a wq hw hl
   have e14 : a.tmps[14]?.getD undef = .pointer (some ⟨bx, 0, none⟩) := (hl 14 (by first | (simp [Op.operands]; done) | simp [Op.operands, Call.operands]) (by rw [HS.out]; decide)).trans A14.out
   clear hl
   go_simp
  refine tFacts_lit TL.out (.int .i64 x.n) rfl ?_ ?_
  ·intro a wq hw hl
   have e103 : a.tmps[103]?.getD undef = .pointer (some ⟨bx, 2, none⟩) := hl 103 (by first | (simp [Op.operands]; done) | simp [Op.operands, Call.operands]) (by rw [HS.out]; decide)
   have htz : Turned (fun i => ¬ Z2 i) w1 wq := (by have hw9 := hw; rw [HW.out] at hw9; exact hw9.of_drew)
   have hbX := (htz.block _ (blk_lt HBX.out) (fun hh => hh HZ1.out)).trans HBX.out
   have c0 : wq.cell? ⟨bx, 2, none⟩ = some (.int .i64 x.n) := by rw [blk_cell hbX]; rfl
   clear hbX
   clear hl
   go_simp
  refine tFacts_write 1 (.int .i64 r) rfl rfl ?_ ?_
  ·intro a wq bq hw hbq hjq hl
   have e102 : a.tmps[102]?.getD undef = .pointer (some ⟨q, 0, none⟩) := hl 102 (by first | (simp [Op.operands]; done) | simp [Op.operands, Call.operands]) (by rw [HS.out]; decide)
   have e104 : a.tmps[104]?.getD undef = .int .i64 x.n := hl 104 (by first | (simp [Op.operands]; done) | simp [Op.operands, Call.operands]) (by rw [HS.out]; decide)
   have htz : Turned (fun i => ¬ Z2 i) w1 wq := (by have hw9 := hw; rw [HW.out] at hw9; exact hw9.of_drew)
   clear hl
   go_simp
   exact sUpon_call (JBo.d bq wq (fun B0 S2 hb => HCD.out B0 S2 wq hb) hbq hjq)
  refine HL.out _ _ (fun a' wz hc => ?_)
  have e101 : a'.eval (.tmp 101) = .int .i64 r := hc.fact 101 (by rw [HS.out]; decide)
  have e105 : a'.eval (.tmp 105) = .int .i64 r := hc.fact 105 (by rw [HS.out]; decide)
  have hstwz := hc.st
  have htuwz := hc.turned
  rw [HW.out] at htuwz
  have hfr := hc.frame [97, 98, 99, 100, 101, 102, 103, 104, 105, 106] (by rw [HO.out]; kernel_rfl)
  rw [hfr]
  clear hfr hc
  rw [HA.out]
  clear HA HO HL HW HS HGW A7 A9 A14
  clear A O W L
  simp only [List.drop_succ_cons, List.drop_zero, List.foldl_cons, List.foldl_nil, Act.put, List.setIfInBounds_toArray, List.set_cons_succ, List.set_cons_zero]
  rw [e101, e105]
  generalize a'.eval (.tmp 97) = x97
  generalize a'.eval (.tmp 98) = x98
  generalize a'.eval (.tmp 99) = x99
  generalize a'.eval (.tmp 100) = x100
  generalize a'.eval (.tmp 102) = x102
  generalize a'.eval (.tmp 103) = x103
  generalize a'.eval (.tmp 104) = x104
  generalize a'.eval (.tmp 106) = x106
  clear e101 e105
  clear a'
  have HBZ := hide (JBo.all hstwz)
  clear hstwz htuwz
  go_wp2_with fail
  go_meet
  case rel => exact ⟨_, _, HBK.out _ _ _ _ _ HSIM.out HBZ.out, Nat.le_add_right _ _, fun _ => Nat.le_refl _⟩
 have q5 : (x.kind == 5) = false := beq_eq_false_iff_ne.2 k5
 clear k5
 by_cases k6 : x.kind = 6
 ·have q6 : (x.kind == 6) = true := by rw [k6]; rfl
  have HK6 := hide k6
  clear k6
  have HFG := hide HST.out.forget
  cases o with
  | none =>
   obtain ⟨rfl, rfl⟩ := HST.out.none_
   go_wp2_with fail
   go_meet
   case rel => exact ⟨_, _, HFG.out.mono (Nat.le_refl _) (Nat.le_add_right _ _), Nat.le_add_right _ _, fun _ => Nat.le_refl _⟩
  | some nL =>
   obtain ⟨n, L⟩ := nL
   obtain ⟨gF, gD, rfl, rfl⟩ := HST.out.some_
   by_cases hl0 : x.l = []
   ·have hl1 : ¬ (0 : Int) < (x.l.length : Int) := by rw [hl0]; simp
    clear hl0
    go_wp2_with fail
    go_meet
    case rel => exact ⟨_, _, HFG.out.mono (Nat.le_refl _) (Nat.le_add_right _ _), Nat.le_add_right _ _, fun _ => Nat.le_refl _⟩
   ·have hlp : 0 < x.l.length := List.length_pos_iff.2 hl0
    have hl1 : (0 : Int) < (x.l.length : Int) := by omega
    obtain ⟨sb, so, hsA, hsb, hsc⟩ := HSTR.out.lay (fun e => by have := strs_length x.l; rw [e] at this; simp at this; omega)
    obtain ⟨s, hs⟩ : ∃ s, s = x.l[0] := ⟨_, rfl⟩
    have hsc0 : w1.cell? ⟨sb, so, none⟩ = some (.string s) := hsc 0 _ (by unfold strs; rw [List.getElem?_map, List.getElem?_eq_getElem hlp, hs]; rfl)
    have hss : s.size ≤ 20000 := by
     have h1 := sumLen_elem x.l 0 hlp
     rw [← hs] at h1
     have := HLS.out
     omega
    have hlA : w1.cell? ⟨bx, 1, none⟩ = some (.slice (some ⟨sb, so, none⟩) x.l.length x.lc) := by rw [← hsA]; exact e1
    obtain ⟨S, R, Z2, _, _, _, _, ⟨gT2, hgd⟩, _⟩ := HST.out.two
    have hn2 : w1.cell? ⟨gD, 2, none⟩ = some (.int .i64 n) := by rw [blk_cell (hgd w1 (Turned.refl _ _))]; rfl
    have HN2 := hide hn2
    have HE1 := hide hlA
    have HSC := hide hsc0
    have HLN := hide hl1
    have HSS := hide hss
    have HLC := hide hsb
    have HAP := hide (fun (A5 : Option Addr) (c5 : Nat) (wb : World) (hg : w1.grownBy wb none) (hrd : Rd wb wb.heap.size A5 (u8s (bl s))) => HST.out.append (by have := HJ.out; omega) (by have := HJ.out; omega) s hss A5 s.size c5 hg hrd rfl)
    have HSCK : Hid (∀ wx, Turned (fun i => ¬ (fun i => i < w.heap.size ∨ i = bx) i) w1 wx → wx.cell? ⟨sb, so, none⟩ = some (.string s)) := hide fun wx hT => (cell_same (hT.block sb (Nat.lt_of_lt_of_le hsb HBL.out) fun hn => hn (.inl hsb))).trans hsc0
    have HLAK : Hid (∀ wx, Turned (fun i => ¬ (fun i => i < w.heap.size ∨ i = bx) i) w1 wx → wx.cell? ⟨bx, 1, none⟩ = some (.slice (some ⟨sb, so, none⟩) x.l.length x.lc)) := hide fun wx hT => by rw [blk_cell (HCE.out wx hT), ← hsA]; rfl
    clear e1 hl0 hlp hsA hsb hsc hs hgd hss
    go_upto_region 29 with fail
    refine wp_region_facts' 10 (by kernel_rfl) (by kernel_rfl) ?_
    intro A O W L HA HO HW HL
    simp only [List.take_succ_cons, List.take_zero]
    have HS := hide (show A.tmps.size = 263 by rw [HA.out]; rfl)
    have HGW := hide (show w1.grownBy W none by rw [HW.out]; exact gb_drew (gb_refl w1 none))
    have A7 := hide (show A.eval (.tmp 7) = .pointer (some ⟨g, 0, none⟩) by rw [HA.out]; rfl)
    have A12 := hide (show A.eval (.tmp 12) = .pointer (some ⟨gD, 0, none⟩) by rw [HA.out]; rfl)
    have A14 := hide (show A.eval (.tmp 14) = .pointer (some ⟨bx, 0, none⟩) by rw [HA.out]; rfl)
    refine wpFacts_lit (.pointer (some ⟨g, 0, none⟩)) rfl ?_ ?_
    ·intro a wq hw hl
     have e7 : a.tmps[7]?.getD undef = .pointer (some ⟨g, 0, none⟩) := (hl 7 (by first | (simp [Op.operands]; done) | simp [Op.operands, Call.operands]) (by rw [HS.out]; decide)).trans A7.out
     clear hl
     go_simp
    refine wpFacts_lit (.pointer (some ⟨gD, 0, none⟩)) rfl ?_ ?_
    ·intro a wq hw hl
     have e12 : a.tmps[12]?.getD undef = .pointer (some ⟨gD, 0, none⟩) := (hl 12 (by first | (simp [Op.operands]; done) | simp [Op.operands, Call.operands]) (by rw [HS.out]; decide)).trans A12.out
     clear hl
     go_simp
    refine wpFacts_lit (.pointer (some ⟨gD, 0, none⟩)) rfl ?_ ?_
    ·intro a wq hw hl
     have e118 : a.tmps[118]?.getD undef = .pointer (some ⟨gD, 0, none⟩) := hl 118 (by first | (simp [Op.operands]; done) | simp [Op.operands, Call.operands]) (by rw [HS.out]; decide)
     clear hl
     go_simp
    refine wpFacts_lit (.pointer (some ⟨gD, 2, none⟩)) rfl ?_ ?_
    ·intro a wq hw hl
     have e119 : a.tmps[119]?.getD undef = .pointer (some ⟨gD, 0, none⟩) := hl 119 (by first | (simp [Op.operands]; done) | simp [Op.operands, Call.operands]) (by rw [HS.out]; decide)
     clear hl
     go_simp
    refine wpFacts_lit (.int .i64 n) rfl ?_ ?_
    ·intro a wq hw hl
     have e120 : a.tmps[120]?.getD undef = .pointer (some ⟨gD, 2, none⟩) := hl 120 (by first | (simp [Op.operands]; done) | simp [Op.operands, Call.operands]) (by rw [HS.out]; decide)
     have c2 : wq.cell? ⟨gD, 2, none⟩ = some (.int .i64 n) := cell_gb HN2.out (gb_trans HGW.out hw (.inl rfl))
     clear hl
     go_simp
    refine wpFacts_lit (.pointer (some ⟨bx, 1, none⟩)) rfl ?_ ?_
    ·intro a wq hw hl
     have e14 : a.tmps[14]?.getD undef = .pointer (some ⟨bx, 0, none⟩) := (hl 14 (by first | (simp [Op.operands]; done) | simp [Op.operands, Call.operands]) (by rw [HS.out]; decide)).trans A14.out
     clear hl
     go_simp
    refine wpFacts_lit (.slice (some ⟨sb, so, none⟩) x.l.length x.lc) rfl ?_ ?_
    ·intro a wq hw hl
     have e122 : a.tmps[122]?.getD undef = .pointer (some ⟨bx, 1, none⟩) := hl 122 (by first | (simp [Op.operands]; done) | simp [Op.operands, Call.operands]) (by rw [HS.out]; decide)
     have c1 : wq.cell? ⟨bx, 1, none⟩ = some (.slice (some ⟨sb, so, none⟩) x.l.length x.lc) := cell_gb HE1.out (gb_trans HGW.out hw (.inl rfl))
     clear hl
     go_simp
    refine wpFacts_lit (.pointer (some ⟨sb, so, none⟩)) rfl ?_ ?_
    ·intro a wq hw hl
     have e123 : a.tmps[123]?.getD undef = .slice (some ⟨sb, so, none⟩) x.l.length x.lc := hl 123 (by first | (simp [Op.operands]; done) | simp [Op.operands, Call.operands]) (by rw [HS.out]; decide)
     have hln := HLN.out
     clear hl
     go_simp
    refine wpFacts_lit (.string s) rfl ?_ ?_
    ·intro a wq hw hl
     have e124 : a.tmps[124]?.getD undef = .pointer (some ⟨sb, so, none⟩) := hl 124 (by first | (simp [Op.operands]; done) | simp [Op.operands, Call.operands]) (by rw [HS.out]; decide)
     have c3 : wq.cell? ⟨sb, so, none⟩ = some (.string s) := cell_gb HSC.out (gb_trans HGW.out hw (.inl rfl))
     clear hl
     go_simp
    refine wpFacts_step (RowC s) rfl (RowC.up s) ?_ ?_
    ·intro a wq hw hl
     have e125 : a.tmps[125]?.getD undef = .string s := hl 125 (by first | (simp [Op.operands]; done) | simp [Op.operands, Call.operands]) (by rw [HS.out]; decide)
     have cv := Lib.run_convert_string_bytes wq 9 49 5 s Tryz.underlying9 Tryz.underlying49 Tryz.underlying5
     clear hl
     go_simp
     exact ⟨bytesWorld_gb wq _ s, _, _, rfl, bytesWorld_rd wq s⟩
    refine HL.out _ (fun a' wz hc => ?_)
    have e117 : a'.eval (.tmp 117) = .pointer (some ⟨g, 0, none⟩) := hc.fact 117 (by rw [HS.out]; decide)
    have e121 : a'.eval (.tmp 121) = .int .i64 n := hc.fact 121 (by rw [HS.out]; decide)
    have h126 : (RowC s) (a'.eval (.tmp 126)) wz := hc.fact 126 (by rw [HS.out]; decide)
    have hgwz := gb_trans HGW.out hc.grown (.inl rfl)
    have hfr := hc.frame [117, 118, 119, 120, 121, 122, 123, 124, 125, 126, 127] (by rw [HO.out]; kernel_rfl)
    rw [hfr]
    clear hfr hc
    rw [HA.out]
    clear HA HO HL HW HS HGW A7 A12 A14
    clear A O W L
    simp only [List.drop_succ_cons, List.drop_zero, List.foldl_cons, List.foldl_nil, Act.put, List.setIfInBounds_toArray, List.set_cons_succ, List.set_cons_zero]
    rw [e117, e121]
    generalize a'.eval (.tmp 118) = x118
    generalize a'.eval (.tmp 119) = x119
    generalize a'.eval (.tmp 120) = x120
    generalize a'.eval (.tmp 122) = x122
    generalize a'.eval (.tmp 123) = x123
    generalize a'.eval (.tmp 124) = x124
    generalize a'.eval (.tmp 125) = x125
    generalize a'.eval (.tmp 126) = x126 at h126 ⊢
    generalize a'.eval (.tmp 127) = x127
    clear e117 e121
    clear a'
    obtain ⟨A5, c5, e126, hrd⟩ := h126
    subst e126
    have HAP2 := hide (HAP.out A5 c5 wz hgwz hrd)
    clear hrd
    go_wp2_with (go_at_call 15; refine HAP2.out.mono ?_; rintro e w2 ⟨⟨r, rfl⟩, hT, hc2, hc⟩; have HC2 := hide hc; have f1 := HLAK.out _ hT; have f3 := HSCK.out _ hT; clear hT hc)
    go_still_tail 9, (by kernel_rfl)
    go_wp2_with (go_at_call 16; refine (HC2.out _ (gb_drew (gb_refl w2 none))).mono ?_; rintro e w3 ⟨⟨r2, rfl⟩, hs3⟩; have HS3 := hide hs3; clear hs3)
    go_meet
    case rel => exact ⟨_, _, HS3.out, (by have := HSS.out; omega), fun h => by have := HK6.out; omega⟩
 have q6 : (x.kind == 6) = false := beq_eq_false_iff_ne.2 k6
 clear k6
 go_wp2_with fail
 go_meet
 case rel => exact ⟨_, _, HST.out.mono (Nat.le_refl _) (Nat.le_add_right _ _), Nat.le_add_right _ _, fun _ => Nat.le_refl _⟩
end Go.Proofs.YtmcmlkglkpbnpaaGreat
namespace Go.Proofs.YtmcmlkglkpbnpaaGreat
open Go.RowKit
attribute [local go_sem ↓] Go.wp_at_zero Go.wp_at_succ
set_option maxHeartbeats 8000000 in
set_option maxRecDepth 100000 in
noncomputable def restT : Sub3 filesT.B := by
 apply Sub3.mk
 case h =>
  intro hT hO hR
  have HTT := hide hT
  have HOO := hide hO
  have HRR := hide hR
  clear hT hO hR
  unfold filesT
  dsimp -zeta only
  intro name C c l w QA g KA aA q v6 v11 v12 v14 v15 v16 v17 v18 v19 v20 v21 v22 v52 v53 v54 v55 v56 v57 v58 v59 v60 v61 v62 v63 v64 v65 v66 v67 v68 v69 v70 v71 v72 v73 v74 v75 v76 v77 v78 v79 v80 v81 v82 v83 v84 v85 v86 v87 v88 v89 v90 v91 v92 v93 v94 v95 v96 v97 v98 v99 v100 v101 v102 v103 v104 v105 v106 v107 v108 v109 v110 v111 v112 v113 v114 v115 v116 v117 v118 v119 v120 v121 v122 v123 v124 v125 v126 v127 v128 v129 v130 v131 v132 v133 v134 v135 v136 v137 v138 v139 v140 v141 v142 v143 v144 v145 v146 v147 v148 v149 v150 v151 v152 v153 v154 v155 v156 v157 v158 v159 v160 v161 v162 v163 v164 v165 v166 v167 v168 v169 v170 v171 v172 v173 v174 v175 v176 v177 v178 v179 v180 v181 v182 v183 v184 v185 v186 v187 v188 v189 v190 v191 v192 v193 v194 v195 v196 v197 v198 v199 v200 v201 v202 v203 v204 v205 v206 v207 v208 v209 v210 v211 v212 v213 v214 v215 v216 v217 v218 v219 v220 v221 v222 v223 v224 v225 v226 v227 v228 v229 v230 v231 v232 v233 v234 v235 v236 v237 v238 v239 v240 v241 v242 v243 v244 v245 v246 v247 v248 v249 v250 v251 v252 v253 v254 v255 v256 v257 v258 v259 v260 v261 j HJ b oo HLT x w1 QB KB aB HGW HBL HSTR HSM bx HCE HL3 HLS KC aC wc u6 u11 u12 u52 u53 u54 u55 u56 u57 u58 u59 u60 u61 u62 u63 u64 u65 u66 u67 u68 u69 u70 u71 u72 u73 u75 u76 u77 u78 u79 u80 u81 u82 u83 u84 u85 u86 u87 u88 u89 u90 u91 u92 u93 u94 u95 u96 u97 u98 u99 u100 u101 u102 u103 u104 u105 u106 u107 u108 u109 u110 u111 u112 u113 u114 u115 u116 u117 u118 u119 u120 u121 u122 u123 u124 u125 u126 u127 u128 u129 u130 u131 u132 u133 u134 u135 u136 u137 u138 u139 u140 u141 u142 u143 u144 u145 u146 u147 u148 u149 u150 u151 u152 u153 u154 u155 u156 u157 u158 u159 u160 u161 u162 u163 u164 u165 u166 u167 u168 u169 u170 u171 u172 u173 u174 u175 u176 u177 u178 u179 u180 u181 u182 u183 u184 u185 u186 u187 u188 u189 u190 u191 u192 u193 u194 u195 u196 u197 u198 u199 u200 u201 u202 u203 u204 u205 u206 u207 u208 u209 u210 u211 u212 u213 u214 u215 u216 u217 u218 u219 u220 u221 u222 u223 u224 u225 u226 u227 u228 u229 u230 u231 u232 u233 u234 u235 u236 u237 u238 u239 u240 u241 u242 u243 u244 u245 u246 u247 u248 u249 u250 u251 u252 u253 u254 u255 u256 u257 u258 u259 u260 u261 hcut
  obtain ⟨o2, D2, hs2, hD2, hD0⟩ := hcut
  generalize wc = wd at *
  clear wc
  have HS2 := hide hs2
  have HD2 := hide hD2
  have HD0 := hide hD0
  clear hs2 hD2 hD0
  obtain ⟨K0, hK0⟩ : ∃ K0, K0 = x.kind := ⟨_, rfl⟩
  have HKK := hide hK0
  obtain ⟨opn, hop⟩ : ∃ b : Bool, b = ((decide ((2 : Int) ≤ K0) && !(K0 == 4) && !(K0 == 5)) || o2.isNone) := ⟨_, rfl⟩
  have HOP := hide hop
  clear hop
  have hb := HCE.out wd HS2.out.turned
  have e0 : wd.cell? ⟨bx, 0, none⟩ = some (.int .i64 K0) := by rw [blk_cell hb, hK0]; rfl
  clear hb hK0
  go_upto_region 33 with fail
  rename_i KE aF KF aG
  go_cut [154] (fun t we => t = .bool opn ∧ wd = we)
  case first =>
   rename_i JD KD aD aE
   clear HJ HLT HGW HBL HSTR HSM HCE HL3 HLS HD2 HD0 HKK
   revert name C c l w QA g KA aA q v6 v11 v12 v14 v15 v16 v17 v18 v19 v20 v21 v22 v52 v53 v54 v55 v56 v57 v58 v59 v60 v61 v62 v63 v64 v65 v66 v67 v68 v69 v70 v71 v72 v73 v74 v75 v76 v77 v78 v79 v80 v81 v82 v83 v84 v85 v86 v87 v88 v89 v90 v91 v92 v93 v94 v95 v96 v97 v98 v99 v100 v101 v102 v103 v104 v105 v106 v107 v108 v109 v110 v111 v112 v113 v114 v115 v116 v117 v118 v119 v120 v121 v122 v123 v124 v125 v126 v127 v128 v129 v130 v131 v132 v133 v134 v135 v136 v137 v138 v139 v140 v141 v142 v143 v144 v145 v146 v147 v148 v149 v150 v151 v152 v153 v154 v155 v156 v157 v158 v159 v160 v161 v162 v163 v164 v165 v166 v167 v168 v169 v170 v171 v172 v173 v174 v175 v176 v177 v178 v179 v180 v181 v182 v183 v184 v185 v186 v187 v188 v189 v190 v191 v192 v193 v194 v195 v196 v197 v198 v199 v200 v201 v202 v203 v204 v205 v206 v207 v208 v209 v210 v211 v212 v213 v214 v215 v216 v217 v218 v219 v220 v221 v222 v223 v224 v225 v226 v227 v228 v229 v230 v231 v232 v233 v234 v235 v236 v237 v238 v239 v240 v241 v242 v243 v244 v245 v246 v247 v248 v249 v250 v251 v252 v253 v254 v255 v256 v257 v258 v259 v260 v261 j b oo x w1 QB KB aB bx u6 u11 u12 u52 u53 u54 u55 u56 u57 u58 u59 u60 u61 u62 u63 u64 u65 u66 u67 u68 u69 u70 u71 u72 u73 u75 u76 u77 u78 u79 u80 u81 u82 u83 u84 u85 u86 u87 u88 u89 u90 u91 u92 u93 u94 u95 u96 u97 u98 u99 u100 u101 u102 u103 u104 u105 u106 u107 u108 u109 u110 u111 u112 u113 u114 u115 u116 u117 u118 u119 u120 u121 u122 u123 u124 u125 u126 u127 u128 u129 u130 u131 u132 u133 u134 u135 u136 u137 u138 u139 u140 u141 u142 u143 u144 u145 u146 u147 u148 u149 u150 u151 u152 u153 u154 u155 u156 u157 u158 u159 u160 u161 u162 u163 u164 u165 u166 u167 u168 u169 u170 u171 u172 u173 u174 u175 u176 u177 u178 u179 u180 u181 u182 u183 u184 u185 u186 u187 u188 u189 u190 u191 u192 u193 u194 u195 u196 u197 u198 u199 u200 u201 u202 u203 u204 u205 u206 u207 u208 u209 u210 u211 u212 u213 u214 u215 u216 u217 u218 u219 u220 u221 u222 u223 u224 u225 u226 u227 u228 u229 u230 u231 u232 u233 u234 u235 u236 u237 u238 u239 u240 u241 u242 u243 u244 u245 u246 u247 u248 u249 u250 u251 u252 u253 u254 u255 u256 u257 u258 u259 u260 u261 o2 D2 wd HS2 K0 opn HOP e0 KE aF KF aG JD KD aD aE
   exact HTT.out
  case rest =>
   obtain ⟨rfl, rfl⟩ := hcut
   clear HOP
   go_upto_if 154 with fail
   go_cut [11, 12, 15, 16, 17, 18] (fun vt3 vw3 s15 s16 s17 s18 wc => ∃ o3, StepY (fun i => i < w.heap.size ∨ i = bx) w1 g q D2 (4 * j + 3) o3 vt3 vw3 wc)
   case first =>
    rename_i JD KD aD aE
    clear HLT HGW HBL HSTR HSM HCE HL3 HLS HD0 HKK e0
    revert name C c l w QA g KA aA q v6 v11 v12 v14 v15 v16 v17 v18 v19 v20 v21 v22 v52 v53 v54 v55 v56 v57 v58 v59 v60 v61 v62 v63 v64 v65 v66 v67 v68 v69 v70 v71 v72 v73 v74 v75 v76 v77 v78 v79 v80 v81 v82 v83 v84 v85 v86 v87 v88 v89 v90 v91 v92 v93 v94 v95 v96 v97 v98 v99 v100 v101 v102 v103 v104 v105 v106 v107 v108 v109 v110 v111 v112 v113 v114 v115 v116 v117 v118 v119 v120 v121 v122 v123 v124 v125 v126 v127 v128 v129 v130 v131 v132 v133 v134 v135 v136 v137 v138 v139 v140 v141 v142 v143 v144 v145 v146 v147 v148 v149 v150 v151 v152 v153 v154 v155 v156 v157 v158 v159 v160 v161 v162 v163 v164 v165 v166 v167 v168 v169 v170 v171 v172 v173 v174 v175 v176 v177 v178 v179 v180 v181 v182 v183 v184 v185 v186 v187 v188 v189 v190 v191 v192 v193 v194 v195 v196 v197 v198 v199 v200 v201 v202 v203 v204 v205 v206 v207 v208 v209 v210 v211 v212 v213 v214 v215 v216 v217 v218 v219 v220 v221 v222 v223 v224 v225 v226 v227 v228 v229 v230 v231 v232 v233 v234 v235 v236 v237 v238 v239 v240 v241 v242 v243 v244 v245 v246 v247 v248 v249 v250 v251 v252 v253 v254 v255 v256 v257 v258 v259 v260 v261 j HJ b oo x w1 QB KB aB bx u6 u11 u12 u75 u85 u95 u107 u154 o2 D2 wd HS2 HD2 K0 opn KE aF u52 u53 u54 u55 u56 u57 u58 u59 u60 u61 u62 u63 u64 u65 u66 u67 u68 u69 u70 u71 u72 u73 u76 u77 u78 u79 u80 u81 u82 u83 u84 u86 u87 u88 u89 u90 u91 u92 u93 u94 u96 u97 u98 u99 u100 u101 u102 u103 u104 u105 u106 u108 u109 u110 u111 u112 u113 u114 u115 u116 u117 u118 u119 u120 u121 u122 u123 u124 u125 u126 u127 u128 u129 u130 u131 u132 u133 u134 u135 u136 u137 u138 u139 u140 u141 u142 u143 u144 u145 u146 u147 u148 u149 u150 u151 u152 u153 u155 u156 u157 u158 u159 u160 u161 u162 u163 u164 u165 u166 u167 u168 u169 u170 u171 u172 u173 u174 u175 u176 u177 u178 u179 u180 u181 u182 u183 u184 u185 u186 u187 u188 u189 u190 u191 u192 u193 u194 u195 u196 u197 u198 u199 u200 u201 u202 u203 u204 u205 u206 u207 u208 u209 u210 u211 u212 u213 u214 u215 u216 u217 u218 u219 u220 u221 u222 u223 u224 u225 u226 u227 u228 u229 u230 u231 u232 u233 u234 u235 u236 u237 u238 u239 u240 u241 u242 u243 u244 u245 u246 u247 u248 u249 u250 u251 u252 u253 u254 u255 u256 u257 u258 u259 u260 u261 JD KD aD aE
    exact HOO.out
   case rest =>
    clear HS2 e0
    revert name C c l w QA g KA aA q v6 v11 v12 v14 v15 v16 v17 v18 v19 v20 v21 v22 v52 v53 v54 v55 v56 v57 v58 v59 v60 v61 v62 v63 v64 v65 v66 v67 v68 v69 v70 v71 v72 v73 v74 v75 v76 v77 v78 v79 v80 v81 v82 v83 v84 v85 v86 v87 v88 v89 v90 v91 v92 v93 v94 v95 v96 v97 v98 v99 v100 v101 v102 v103 v104 v105 v106 v107 v108 v109 v110 v111 v112 v113 v114 v115 v116 v117 v118 v119 v120 v121 v122 v123 v124 v125 v126 v127 v128 v129 v130 v131 v132 v133 v134 v135 v136 v137 v138 v139 v140 v141 v142 v143 v144 v145 v146 v147 v148 v149 v150 v151 v152 v153 v154 v155 v156 v157 v158 v159 v160 v161 v162 v163 v164 v165 v166 v167 v168 v169 v170 v171 v172 v173 v174 v175 v176 v177 v178 v179 v180 v181 v182 v183 v184 v185 v186 v187 v188 v189 v190 v191 v192 v193 v194 v195 v196 v197 v198 v199 v200 v201 v202 v203 v204 v205 v206 v207 v208 v209 v210 v211 v212 v213 v214 v215 v216 v217 v218 v219 v220 v221 v222 v223 v224 v225 v226 v227 v228 v229 v230 v231 v232 v233 v234 v235 v236 v237 v238 v239 v240 v241 v242 v243 v244 v245 v246 v247 v248 v249 v250 v251 v252 v253 v254 v255 v256 v257 v258 v259 v260 v261 j HJ b oo HLT x w1 QB KB aB HGW HBL HSTR HSM bx HCE HL3 HLS u75 u85 u95 u107 o2 D2 wd HD2 HD0 K0 HKK opn KE aF wc u6 u11 u12 u15 u16 u17 u18 u52 u53 u54 u55 u56 u57 u58 u59 u60 u61 u62 u63 u64 u65 u66 u67 u68 u69 u70 u71 u72 u73 u76 u77 u78 u79 u80 u81 u82 u83 u84 u86 u87 u88 u89 u90 u91 u92 u93 u94 u96 u97 u98 u99 u100 u101 u102 u103 u104 u105 u106 u108 u109 u110 u111 u112 u113 u114 u115 u116 u117 u118 u119 u120 u121 u122 u123 u124 u125 u126 u127 u128 u129 u130 u131 u132 u133 u134 u135 u136 u137 u138 u139 u140 u141 u142 u143 u144 u145 u146 u147 u148 u149 u150 u151 u152 u153 u154 u155 u156 u157 u158 u159 u160 u161 u162 u163 u164 u165 u166 u167 u168 u169 u170 u171 u172 u173 u174 u175 u176 u177 u178 u179 u180 u181 u182 u183 u184 u185 u186 u187 u188 u189 u190 u191 u192 u193 u194 u195 u196 u197 u198 u199 u200 u201 u202 u203 u204 u205 u206 u207 u208 u209 u210 u211 u212 u213 u214 u215 u216 u217 u218 u219 u220 u221 u222 u223 u224 u225 u226 u227 u228 u229 u230 u231 u232 u233 u234 u235 u236 u237 u238 u239 u240 u241 u242 u243 u244 u245 u246 u247 u248 u249 u250 u251 u252 u253 u254 u255 u256 u257 u258 u259 u260 u261 hcut
    exact HRR.out
end Go.Proofs.YtmcmlkglkpbnpaaGreat
namespace Go.Proofs.YtmcmlkglkpbnpaaGreat
open Go.RowKit
attribute [local go_sem ↓] Go.wp_at_zero Go.wp_at_succ
set_option maxHeartbeats 8000000 in
set_option maxRecDepth 100000 in
theorem tests_any : restT.A := by
 unfold restT
 dsimp -zeta only
 intro name C c l w QA g KA aA q v6 v11 v12 v14 v15 v16 v17 v18 v19 v20 v21 v22 v52 v53 v54 v55 v56 v57 v58 v59 v60 v61 v62 v63 v64 v65 v66 v67 v68 v69 v70 v71 v72 v73 v74 v75 v76 v77 v78 v79 v80 v81 v82 v83 v84 v85 v86 v87 v88 v89 v90 v91 v92 v93 v94 v95 v96 v97 v98 v99 v100 v101 v102 v103 v104 v105 v106 v107 v108 v109 v110 v111 v112 v113 v114 v115 v116 v117 v118 v119 v120 v121 v122 v123 v124 v125 v126 v127 v128 v129 v130 v131 v132 v133 v134 v135 v136 v137 v138 v139 v140 v141 v142 v143 v144 v145 v146 v147 v148 v149 v150 v151 v152 v153 v154 v155 v156 v157 v158 v159 v160 v161 v162 v163 v164 v165 v166 v167 v168 v169 v170 v171 v172 v173 v174 v175 v176 v177 v178 v179 v180 v181 v182 v183 v184 v185 v186 v187 v188 v189 v190 v191 v192 v193 v194 v195 v196 v197 v198 v199 v200 v201 v202 v203 v204 v205 v206 v207 v208 v209 v210 v211 v212 v213 v214 v215 v216 v217 v218 v219 v220 v221 v222 v223 v224 v225 v226 v227 v228 v229 v230 v231 v232 v233 v234 v235 v236 v237 v238 v239 v240 v241 v242 v243 v244 v245 v246 v247 v248 v249 v250 v251 v252 v253 v254 v255 v256 v257 v258 v259 v260 v261 j b oo x w1 QB KB aB bx u6 u11 u12 u52 u53 u54 u55 u56 u57 u58 u59 u60 u61 u62 u63 u64 u65 u66 u67 u68 u69 u70 u71 u72 u73 u75 u76 u77 u78 u79 u80 u81 u82 u83 u84 u85 u86 u87 u88 u89 u90 u91 u92 u93 u94 u95 u96 u97 u98 u99 u100 u101 u102 u103 u104 u105 u106 u107 u108 u109 u110 u111 u112 u113 u114 u115 u116 u117 u118 u119 u120 u121 u122 u123 u124 u125 u126 u127 u128 u129 u130 u131 u132 u133 u134 u135 u136 u137 u138 u139 u140 u141 u142 u143 u144 u145 u146 u147 u148 u149 u150 u151 u152 u153 u154 u155 u156 u157 u158 u159 u160 u161 u162 u163 u164 u165 u166 u167 u168 u169 u170 u171 u172 u173 u174 u175 u176 u177 u178 u179 u180 u181 u182 u183 u184 u185 u186 u187 u188 u189 u190 u191 u192 u193 u194 u195 u196 u197 u198 u199 u200 u201 u202 u203 u204 u205 u206 u207 u208 u209 u210 u211 u212 u213 u214 u215 u216 u217 u218 u219 u220 u221 u222 u223 u224 u225 u226 u227 u228 u229 u230 u231 u232 u233 u234 u235 u236 u237 u238 u239 u240 u241 u242 u243 u244 u245 u246 u247 u248 u249 u250 u251 u252 u253 u254 u255 u256 u257 u258 u259 u260 u261 o2 D2 wd HS2 K0 opn HOP e0 KE aF KF aG JD KD aD aE
 cases o2 with
 | none =>
  obtain ⟨rfl, rfl⟩ := HS2.out.none_
  by_cases p4 : K0 = 4
  ·subst p4
   go_wp2_with fail
   go_meet
   case rel => exact ⟨by rw [HOP.out]; rfl, rfl⟩
  by_cases p5 : K0 = 5
  ·subst p5
   go_wp2_with fail
   go_meet
   case rel => exact ⟨by rw [HOP.out]; rfl, rfl⟩
  have Q4 : Hid ((K0 == 4) = false) := hide (beq_eq_false_iff_ne.2 p4)
  have Q5 : Hid ((K0 == 5) = false) := hide (beq_eq_false_iff_ne.2 p5)
  by_cases p2 : (2 : Int) ≤ K0
  ·have P2 := hide (decide_eq_true p2)
   go_wp2_with fail
   go_meet
   case rel => exact ⟨by rw [HOP.out, P2.out, Q4.out, Q5.out]; rfl, rfl⟩
  have P2 := hide (decide_eq_false p2)
  go_wp2_with fail
  go_meet
  case rel => exact ⟨by rw [HOP.out, P2.out]; rfl, rfl⟩
 | some nL =>
  obtain ⟨n, L⟩ := nL
  obtain ⟨gF, gD, rfl, rfl⟩ := HS2.out.some_
  by_cases p4 : K0 = 4
  ·subst p4
   go_wp2_with fail
   go_meet
   case rel => exact ⟨by rw [HOP.out]; rfl, rfl⟩
  by_cases p5 : K0 = 5
  ·subst p5
   go_wp2_with fail
   go_meet
   case rel => exact ⟨by rw [HOP.out]; rfl, rfl⟩
  have Q4 : Hid ((K0 == 4) = false) := hide (beq_eq_false_iff_ne.2 p4)
  have Q5 : Hid ((K0 == 5) = false) := hide (beq_eq_false_iff_ne.2 p5)
  by_cases p2 : (2 : Int) ≤ K0
  ·have P2 := hide (decide_eq_true p2)
   go_wp2_with fail
   go_meet
   case rel => exact ⟨by rw [HOP.out, P2.out, Q4.out, Q5.out]; rfl, rfl⟩
  have P2 := hide (decide_eq_false p2)
  go_wp2_with fail
  go_meet
  case rel => exact ⟨by rw [HOP.out, P2.out]; rfl, rfl⟩
end Go.Proofs.YtmcmlkglkpbnpaaGreat
namespace Go.Proofs.YtmcmlkglkpbnpaaGreat
open Go.RowKit
attribute [local go_sem ↓] Go.wp_at_zero Go.wp_at_succ
set_option maxHeartbeats 8000000 in
set_option maxRecDepth 100000 in
theorem opens_any : restT.B := by
 unfold restT
 dsimp -zeta only
 intro name C c l w QA g KA aA q v6 v11 v12 v14 v15 v16 v17 v18 v19 v20 v21 v22 v52 v53 v54 v55 v56 v57 v58 v59 v60 v61 v62 v63 v64 v65 v66 v67 v68 v69 v70 v71 v72 v73 v74 v75 v76 v77 v78 v79 v80 v81 v82 v83 v84 v85 v86 v87 v88 v89 v90 v91 v92 v93 v94 v95 v96 v97 v98 v99 v100 v101 v102 v103 v104 v105 v106 v107 v108 v109 v110 v111 v112 v113 v114 v115 v116 v117 v118 v119 v120 v121 v122 v123 v124 v125 v126 v127 v128 v129 v130 v131 v132 v133 v134 v135 v136 v137 v138 v139 v140 v141 v142 v143 v144 v145 v146 v147 v148 v149 v150 v151 v152 v153 v154 v155 v156 v157 v158 v159 v160 v161 v162 v163 v164 v165 v166 v167 v168 v169 v170 v171 v172 v173 v174 v175 v176 v177 v178 v179 v180 v181 v182 v183 v184 v185 v186 v187 v188 v189 v190 v191 v192 v193 v194 v195 v196 v197 v198 v199 v200 v201 v202 v203 v204 v205 v206 v207 v208 v209 v210 v211 v212 v213 v214 v215 v216 v217 v218 v219 v220 v221 v222 v223 v224 v225 v226 v227 v228 v229 v230 v231 v232 v233 v234 v235 v236 v237 v238 v239 v240 v241 v242 v243 v244 v245 v246 v247 v248 v249 v250 v251 v252 v253 v254 v255 v256 v257 v258 v259 v260 v261 j HJ b oo x w1 QB KB aB bx u6 u11 u12 u75 u85 u95 u107 u154 o2 D2 wd HS2 HD2 K0 opn KE aF u52 u53 u54 u55 u56 u57 u58 u59 u60 u61 u62 u63 u64 u65 u66 u67 u68 u69 u70 u71 u72 u73 u76 u77 u78 u79 u80 u81 u82 u83 u84 u86 u87 u88 u89 u90 u91 u92 u93 u94 u96 u97 u98 u99 u100 u101 u102 u103 u104 u105 u106 u108 u109 u110 u111 u112 u113 u114 u115 u116 u117 u118 u119 u120 u121 u122 u123 u124 u125 u126 u127 u128 u129 u130 u131 u132 u133 u134 u135 u136 u137 u138 u139 u140 u141 u142 u143 u144 u145 u146 u147 u148 u149 u150 u151 u152 u153 u155 u156 u157 u158 u159 u160 u161 u162 u163 u164 u165 u166 u167 u168 u169 u170 u171 u172 u173 u174 u175 u176 u177 u178 u179 u180 u181 u182 u183 u184 u185 u186 u187 u188 u189 u190 u191 u192 u193 u194 u195 u196 u197 u198 u199 u200 u201 u202 u203 u204 u205 u206 u207 u208 u209 u210 u211 u212 u213 u214 u215 u216 u217 u218 u219 u220 u221 u222 u223 u224 u225 u226 u227 u228 u229 u230 u231 u232 u233 u234 u235 u236 u237 u238 u239 u240 u241 u242 u243 u244 u245 u246 u247 u248 u249 u250 u251 u252 u253 u254 u255 u256 u257 u258 u259 u260 u261 JD KD aD aE
 cases opn with
 | false =>
  go_wp2_with fail
  go_meet
  case rel => exact ⟨_, HS2.out.mono (Nat.le_refl _) (by omega)⟩
 | true =>
  obtain ⟨er, o3, hop⟩ := HS2.out.open_ (by have := HJ.out; have := HD2.out; omega) (by have := HJ.out; omega) name
  have HO1 := hide hop
  clear hop
  cases o3 with
  | none =>
   go_wp2_with (first
    | (go_at_call 18; refine HC2.out.mono ?_; rintro e w3 ⟨vy, rfl, hs3⟩; obtain ⟨rfl, rfl⟩ := hs3.none_; have HS3 := hide hs3; clear hs3)
    | (go_at_call 17; refine HO1.out.mono ?_; rintro e w2 ⟨vx, rfl, hT, hc⟩; have HC2 := hide hc; clear hT hc)
    | (go_at_call 12; refine (lnum_any _ _).mono ?_; rintro e wq ⟨rfl, rfl⟩))
   go_meet
   case rel => exact ⟨_, HS3.out⟩
  | some nL =>
   obtain ⟨n, L⟩ := nL
   go_wp2_with (first
    | (go_at_call 18; refine HC2.out.mono ?_; rintro e w3 ⟨vy, rfl, hs3⟩; obtain ⟨gF, gD, rfl, rfl⟩ := hs3.some_; have HS3 := hide hs3; clear hs3)
    | (go_at_call 17; refine HO1.out.mono ?_; rintro e w2 ⟨vx, rfl, hT, hc⟩; have HC2 := hide hc; clear hT hc)
    | (go_at_call 12; refine (lnum_any _ _).mono ?_; rintro e wq ⟨rfl, rfl⟩))
   go_meet
   case rel => exact ⟨_, HS3.out⟩
end Go.Proofs.YtmcmlkglkpbnpaaGreat
