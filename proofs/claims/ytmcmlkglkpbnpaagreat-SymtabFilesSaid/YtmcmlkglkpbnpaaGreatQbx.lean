/-
  PROVED: for every name, every capacity and every list of acts (add, sync, open, crash, arm, set a capacity, spoil): the program's table in a file and the document's give the same answers and tell the same behind each act, also when the power fails or there is little room (P5.6, P5.7, P5.10); the law returns true and leaves its arguments as they were. No condition.
-/
import Derived.Test.YtmcmlkglkpbnpaaGreatQbw
import Derived.BigQuiet
import Derived.Deep.CutBlock
import Derived.Deep.RegionLaw
import Derived.Deep.DeepCutAuto
import Derived.Test.YtmcmlkglkpbnpaaGreatQbu
namespace Go.Proofs.YtmcmlkglkpbnpaaGreat
open Go.RowKit
attribute [local go_sem ↓] Go.wp_at_zero Go.wp_at_succ
set_option maxHeartbeats 8000000 in
set_option maxRecDepth 100000 in
theorem more_any : restT.C := by
 unfold restT
 dsimp -zeta only
 intro name C c l w QA g KA aA q v6 v11 v12 v14 v15 v16 v17 v18 v19 v20 v21 v22 v52 v53 v54 v55 v56 v57 v58 v59 v60 v61 v62 v63 v64 v65 v66 v67 v68 v69 v70 v71 v72 v73 v74 v75 v76 v77 v78 v79 v80 v81 v82 v83 v84 v85 v86 v87 v88 v89 v90 v91 v92 v93 v94 v95 v96 v97 v98 v99 v100 v101 v102 v103 v104 v105 v106 v107 v108 v109 v110 v111 v112 v113 v114 v115 v116 v117 v118 v119 v120 v121 v122 v123 v124 v125 v126 v127 v128 v129 v130 v131 v132 v133 v134 v135 v136 v137 v138 v139 v140 v141 v142 v143 v144 v145 v146 v147 v148 v149 v150 v151 v152 v153 v154 v155 v156 v157 v158 v159 v160 v161 v162 v163 v164 v165 v166 v167 v168 v169 v170 v171 v172 v173 v174 v175 v176 v177 v178 v179 v180 v181 v182 v183 v184 v185 v186 v187 v188 v189 v190 v191 v192 v193 v194 v195 v196 v197 v198 v199 v200 v201 v202 v203 v204 v205 v206 v207 v208 v209 v210 v211 v212 v213 v214 v215 v216 v217 v218 v219 v220 v221 v222 v223 v224 v225 v226 v227 v228 v229 v230 v231 v232 v233 v234 v235 v236 v237 v238 v239 v240 v241 v242 v243 v244 v245 v246 v247 v248 v249 v250 v251 v252 v253 v254 v255 v256 v257 v258 v259 v260 v261 j HJ b oo HLT x w1 QB KB aB HGW HBL HSTR HSM bx HCE HL3 HLS u75 u85 u95 u107 o2 D2 wd HD2 HD0 K0 HKK opn KE aF wc u6 u11 u12 u15 u16 u17 u18 u52 u53 u54 u55 u56 u57 u58 u59 u60 u61 u62 u63 u64 u65 u66 u67 u68 u69 u70 u71 u72 u73 u76 u77 u78 u79 u80 u81 u82 u83 u84 u86 u87 u88 u89 u90 u91 u92 u93 u94 u96 u97 u98 u99 u100 u101 u102 u103 u104 u105 u106 u108 u109 u110 u111 u112 u113 u114 u115 u116 u117 u118 u119 u120 u121 u122 u123 u124 u125 u126 u127 u128 u129 u130 u131 u132 u133 u134 u135 u136 u137 u138 u139 u140 u141 u142 u143 u144 u145 u146 u147 u148 u149 u150 u151 u152 u153 u154 u155 u156 u157 u158 u159 u160 u161 u162 u163 u164 u165 u166 u167 u168 u169 u170 u171 u172 u173 u174 u175 u176 u177 u178 u179 u180 u181 u182 u183 u184 u185 u186 u187 u188 u189 u190 u191 u192 u193 u194 u195 u196 u197 u198 u199 u200 u201 u202 u203 u204 u205 u206 u207 u208 u209 u210 u211 u212 u213 u214 u215 u216 u217 u218 u219 u220 u221 u222 u223 u224 u225 u226 u227 u228 u229 u230 u231 u232 u233 u234 u235 u236 u237 u238 u239 u240 u241 u242 u243 u244 u245 u246 u247 u248 u249 u250 u251 u252 u253 u254 u255 u256 u257 u258 u259 u260 u261 hcut
 obtain ⟨o3, hs3⟩ := hcut
 generalize wc = we at *
 have HS3 := hide hs3
 clear hs3
 have hb := HCE.out we HS3.out.turned
 have e0 : we.cell? ⟨bx, 0, none⟩ = some (.int .i64 K0) := by rw [blk_cell hb, HKK.out]; rfl
 have e1 : we.cell? ⟨bx, 1, none⟩ = some (.slice x.lA x.l.length x.lc) := by rw [blk_cell hb]; rfl
 clear hb
 cases o3 with
 | none =>
  obtain ⟨rfl, rfl⟩ := HS3.out.none_
  go_wp2_with fail
  go_roundw
  case rel => exact ⟨j + 1, congrArg (Value.int .i64) (wrap_j5 (by have := HJ.out; omega)), HLT.out, RoundY.next HGW.out HS3.out (by have := HD2.out; omega) (by omega)⟩
  case measure =>
   have hlt := HLT.out
   rw [wrap_j5 (by have := HJ.out; omega)]
   show l.length - ((j + 1 : Nat) : Int).toNat < l.length - ((j : Nat) : Int).toNat
   rw [Int.toNat_natCast, Int.toNat_natCast]
   omega
 | some nL =>
  obtain ⟨n, L⟩ := nL
  obtain ⟨gF, gD, rfl, rfl⟩ := HS3.out.some_
  go_upto_if 184 with fail
  go_cut [19, 20, 21, 22] (fun s19 s20 s21 s22 wc => ∃ L2 D3 k3, StepY (fun i => i < w.heap.size ∨ i = bx) w1 g q D3 k3 (some (n, L2)) (.pointer (some ⟨gF, 0, none⟩)) (.pointer (some ⟨gD, 0, none⟩)) wc ∧ D3 ≤ 25000 * (j + 1) ∧ k3 ≤ 4 * j + 4 ∧ (x.kind = 1 → k3 ≤ 4 * j + 3))
  case first =>
   by_cases k0 : K0 = 0
   ·have q0 : (K0 == 0) = true := by rw [k0]; rfl
    have HK0 : Hid (x.kind = 0) := hide (HKK.out.symm.trans k0)
    clear k0
    obtain ⟨i1, hi1, hiz, his, hib⟩ := info_parts Tryz.infoStr5
    have HI1 := hide hi1
    have HIZ := hide hiz
    have HIS := hide his
    have HIB := hide hib
    have HE0 := hide (own_emptyY we 9 1)
    have HRW : Hid (Rd we w.heap.size x.lA (strs x.l)) := hide (HSTR.out.keep fun p hp => cell_same (HS3.out.turned.block p.block (Nat.lt_of_lt_of_le hp HBL.out) fun hn => hn (.inl hp)))
    have HWS : Hid (w.heap.size ≤ we.heap.size) := hide (Nat.le_trans HBL.out HS3.out.turned.size)
    have HML : Hid (0 + x.l.length ≤ maxLen) := hide (by have := HL3.out; unfold maxLen; omega)
    have HMB : Hid ((0 + x.l.length) * 16 ≤ 140737488355328) := hide (by have := HL3.out; omega)
    have HBE := hide (HCE.out we HS3.out.turned)
    have b1 : (we.alloc (.cells #[] 9)).cell? ⟨bx, 1, none⟩ = some (.slice x.lA x.l.length x.lc) := by rw [World.cell?_alloc_lt we _ _ (blk_lt HBE.out)]; exact e1
    have HAD : Hid (∀ w5 A5 c5, we.grownBy w5 none → Rd w5 w5.heap.size A5 (strs x.l) → (∀ ad, A5 = some ad → we.heap.size ≤ ad.block ∧ ad.block < w5.heap.size) → _) := hide fun w5 A5 c5 hg hrd hA5 => HS3.out.add (by have := HJ.out; have := HD0.out HK0.out; omega) (by have := HJ.out; omega) x.l A5 x.lA c5 x.lc hg hrd (fun ad ha _ => hA5 ad ha) ((HRW.out.grown hg HWS.out (by simp)).more (Nat.le_trans HWS.out hg.size)) (fun ad ha hne => .inl (by
     obtain ⟨ad', h4, h5, _⟩ := HRW.out (fun e => hne (by have := strs_length x.l; rw [e] at this; exact List.length_eq_zero_iff.1 this.symm))
     rw [ha] at h4
     injection h4 with h4
     rw [h4]
     exact h5)) HL3.out (fun s hs => by
     obtain ⟨i, hi, rfl⟩ := List.getElem_of_mem hs
     have := sumLen_elem x.l i hi
     have := HLS.out
     omega)
    clear hi1 hiz his hib
    go_wp2_with (first
     | (go_at_call 21; refine HC3.out.mono ?_; rintro e w7 ⟨rfl, hs7⟩; have HS7 := hide hs7; clear hs7)
     | (go_at_call 20; refine HC2.out.mono ?_; rintro e w6 ⟨vy, rfl, hc⟩; have HC3 := hide hc; clear hc)
     | (go_at_call 19; refine HA2.out.mono ?_; rintro e w2 ⟨vx, rfl, hT, hc⟩; have HC2 := hide hc; have hb := HCE.out _ hT; have d1 : w2.cell? ⟨bx, 1, none⟩ = some (.slice x.lA x.l.length x.lc) := (by { rw [blk_cell hb]; rfl }); clear hT hc hb)
     | (go_at_call 12; refine (lnum_any _ _).mono ?_; rintro e wq ⟨rfl, rfl⟩)
     | (at_builtin; refine wpList_append_rd _ rfl (.tmp 187) (.tmp 189) 33 rfl we.heap.size 9 i1 (.string ⟨#[]⟩) 1 16 Tryz.underlying33 HI1.out HIZ.out HIS.out HIB.out rfl (Nat.succ_pos 0) (.slice (some ⟨we.heap.size, 0, none⟩) 0 0) 0 [] rfl HE0.out w.heap.size x.lA x.l.length x.lc (strs x.l) rfl (by rw [strs_length, Nat.mul_one]) (HRW.out.grown (gb_alloc (gb_refl we none) _) HWS.out (by simp)) (strs_cell x.l) HML.out HMB.out (by simp) ?_; intro v2 w5 ho5 hg5 hb5; rw [Nat.zero_add, List.nil_append] at ho5; obtain ⟨A5, c5, hv5, _, _, _⟩ := own_form ho5; subst hv5; obtain ⟨er, L2, hadd⟩ := HAD.out w5 A5 c5 (gb_trans (gb_alloc (gb_refl we none) (.cells #[] 9)) hg5 (.inr (.inr ⟨_, rfl, Nat.le_refl _⟩))) (Rd.of_own ho5) (own_ad ho5); have HA2 := hide hadd; clear ho5 hg5 hb5 hadd))
    go_meet
    case rel => exact ⟨_, _, _, HS7.out, (by have := HD0.out HK0.out; omega), (by omega), fun h => by have := HK0.out; omega⟩
   have q0 : (K0 == 0) = false := beq_eq_false_iff_ne.2 k0
   clear k0
   go_wp2_with fail
   go_meet
   case rel => exact ⟨_, _, _, HS3.out, (by have := HD2.out; omega), (by omega), fun _ => Nat.le_refl _⟩
  case rest =>
   obtain ⟨L2, D3, k3, hs4, hD3, hK4, hK3⟩ := hcut
   generalize wc = wf at *
   have HS4 := hide hs4
   have HD3 := hide hD3
   have HK3 := hide hK3
   have HK4 := hide hK4
   clear hs4 hD3 hK3 hK4 HS3 HD2 HD0 e0 e1
   have hb := HCE.out wf HS4.out.turned
   have e0 : wf.cell? ⟨bx, 0, none⟩ = some (.int .i64 K0) := by rw [blk_cell hb, HKK.out]; rfl
   clear hb
   go_upto_region 46 with fail
   go_cut [228] (fun t wc => t = .bool false ∧ StepY (fun i => i < w.heap.size ∨ i = bx) w1 g q D3 (4 * j + 4) (some (n, L2)) (.pointer (some ⟨gF, 0, none⟩)) (.pointer (some ⟨gD, 0, none⟩)) wc)
   case first =>
    by_cases k1 : x.kind = 1
    ·have q1 : (x.kind == 1) = true := by rw [k1]; rfl
     have HK1 := hide k1
     clear k1
     obtain ⟨S, R, Z2, hsim, hbo, hKZ, ⟨ZP, hpf⟩, ⟨gT2, hgd⟩, hback⟩ := HS4.out.two
     obtain ⟨r, hrE⟩ : ∃ r, r = (syncR R n).1 := ⟨_, rfl⟩
     obtain ⟨hans, hsm⟩ := hsim.sync n
     obtain ⟨S9, hS9⟩ : ∃ S9, S9 = S.sync n := ⟨_, rfl⟩
     obtain ⟨R9, hR9⟩ : ∃ R9, R9 = (syncR R n).2 := ⟨_, rfl⟩
     rw [← hS9, ← hR9] at hsm
     have HSIM := hide hsm
     have HBK := hide hback
     have HB0 := hide hbo
     have HBX := hide (HCE.out wf HS4.out.turned)
     have HZ1 : Hid (Z2 bx) := hide (hKZ _ (.inr rfl))
     have HGD := hide hgd
     have HCP : Hid (∀ B0 (R2 : RS) (wx : World), Bo B0 Z2 g S q R2 wx → Turned (fun i => ¬ Z2 i) wf wx → Calls Tryz.prog 22 #[.pointer (some ⟨gF, 0, none⟩)] wx fun e w' => e = .returned (.int .i64 r) ∧ Bo B0 Z2 g S9 q R2 w') := hide fun B0 R2 wx hb ht => by rw [hrE, hS9]; exact bo_fsyncR hb hsim (hpf wx ht) (by have := HJ.out; have := HD3.out; omega) (by have := HJ.out; have := HK3.out HK1.out; omega)
     have HCD : Hid (∀ B0 (S2 : St) (wx : World), Bo B0 Z2 g S2 q R wx → Calls Tryz.prog 23 #[.pointer (some ⟨q, 0, none⟩), .int .i64 n] wx fun e w' => e = .returned (.int .i64 r) ∧ Bo B0 Z2 g S2 q R9 w') := hide fun B0 S2 wx hb => by rw [hrE, hR9]; exact hb.dSync hsim (by have := HJ.out; have := HD3.out; omega) (by have := HJ.out; have := HK3.out HK1.out; omega) n
     clear hans hsm hrE hS9 hR9 hsim hbo hKZ hback hpf hgd
     have TL := hide (JBo.two wf Z2 g q S S9 R R9)
     have HJ0 : Hid (JBo wf Z2 g q S S9 R R9 (fun _ => false) wf.drew) := hide HB0.out.drew
     refine wp_region_two' TL.out (fun _ => false) HJ0.out 17 (by kernel_rfl) (by kernel_rfl) ?_
     intro A O W L HA HO HW HL
     simp only [List.take_succ_cons, List.take_zero]
     have HS := hide (show A.tmps.size = 263 by rw [HA.out]; rfl)
     have HGW := hide (show wf.grownBy W none by rw [HW.out]; exact gb_drew (gb_refl wf none))
     have A11 := hide (show A.eval (.tmp 11) = .pointer (some ⟨gF, 0, none⟩) by rw [HA.out]; rfl)
     have A12 := hide (show A.eval (.tmp 12) = .pointer (some ⟨gD, 0, none⟩) by rw [HA.out]; rfl)
     have A14 := hide (show A.eval (.tmp 14) = .pointer (some ⟨bx, 0, none⟩) by rw [HA.out]; rfl)
     refine tFacts_lit TL.out (.pointer (some ⟨bx, 0, none⟩)) rfl ?_ ?_
     ·intro a wq hw hl
      have e14 : a.tmps[14]?.getD undef = .pointer (some ⟨bx, 0, none⟩) := (hl 14 (by first | (simp [Op.operands]; done) | simp [Op.operands, Call.operands]) (by rw [HS.out]; decide)).trans A14.out
      clear hl
      go_simp
     refine tFacts_lit TL.out (.int .i64 x.kind) rfl ?_ ?_
     ·intro a wq hw hl
      have e211 : a.tmps[211]?.getD undef = .pointer (some ⟨bx, 0, none⟩) := hl 211 (by first | (simp [Op.operands]; done) | simp [Op.operands, Call.operands]) (by rw [HS.out]; decide)
      have htz : Turned (fun i => ¬ Z2 i) wf wq := (by have hw9 := hw; rw [HW.out] at hw9; exact hw9.of_drew)
      have hbX := (htz.block _ (blk_lt HBX.out) (fun hh => hh HZ1.out)).trans HBX.out
      have c0 : wq.cell? ⟨bx, 0, none⟩ = some (.int .i64 x.kind) := by rw [blk_cell hbX]; rfl
      clear hbX
      clear hl
      go_simp
     refine tFacts_lit TL.out (.bool true) rfl ?_ ?_
     ·intro a wq hw hl
      have e212 : a.tmps[212]?.getD undef = .int .i64 x.kind := hl 212 (by first | (simp [Op.operands]; done) | simp [Op.operands, Call.operands]) (by rw [HS.out]; decide)
      clear hl
      go_simp
     refine tFacts_lit TL.out (.bool true) rfl ?_ ?_
     ·intro a wq hw hl
      have e213 : a.tmps[213]?.getD undef = .bool true := hl 213 (by first | (simp [Op.operands]; done) | simp [Op.operands, Call.operands]) (by rw [HS.out]; decide)
      clear hl
      go_simp
     refine tFacts_litG TL.out (.pointer (some ⟨gF, 0, none⟩)) 3 true 214 rfl (by rw [HO.out]; rfl) (by rw [HS.out]; decide) (fun _ _ h => h) ?_ ?_
     ·intro a wq hw hl
      have e11 : a.tmps[11]?.getD undef = .pointer (some ⟨gF, 0, none⟩) := (hl 11 (by first | (simp [Op.operands]; done) | simp [Op.operands, Call.operands]) (by rw [HS.out]; decide)).trans A11.out
      clear hl
      go_simp
     refine tFacts_writeG 0 (.int .i64 r) rfl 3 true 214 rfl (by rw [HO.out]; rfl) (by rw [HS.out]; decide) (fun _ _ h => h) ?_ ?_
     ·intro a wq bq hw hbq hjq hl
      have e215 : a.tmps[215]?.getD undef = .pointer (some ⟨gF, 0, none⟩) := hl 215 (by first | (simp [Op.operands]; done) | simp [Op.operands, Call.operands]) (by rw [HS.out]; decide)
      have htz : Turned (fun i => ¬ Z2 i) wf wq := (by have hw9 := hw; rw [HW.out] at hw9; exact hw9.of_drew)
      clear hl
      go_simp
      exact sUpon_call (JBo.p bq wq (fun B0 R2 hb => HCP.out B0 R2 wq hb htz) hbq hjq)
     refine tFacts_stepG TL.out (.int .i64 r) 3 true 214 rfl (by rw [HO.out]; rfl) (by rw [HS.out]; decide) (fun _ _ h => h) ?_ ?_
     ·intro a wq hw hl
      have e216 : a.tmps[216]?.getD undef = .int .i64 r := hl 216 (by first | (simp [Op.operands]; done) | simp [Op.operands, Call.operands]) (by rw [HS.out]; decide)
      clear hl
      go_simp
      exact gUpon_lit ((lnum_any r wq).mono fun e w9 hx => ⟨hx.1, hx.2 ▸ gb_refl wq none⟩)
     refine tFacts_litG TL.out (.pointer (some ⟨gD, 0, none⟩)) 3 true 214 rfl (by rw [HO.out]; rfl) (by rw [HS.out]; decide) (fun _ _ h => h) ?_ ?_
     ·intro a wq hw hl
      have e12 : a.tmps[12]?.getD undef = .pointer (some ⟨gD, 0, none⟩) := (hl 12 (by first | (simp [Op.operands]; done) | simp [Op.operands, Call.operands]) (by rw [HS.out]; decide)).trans A12.out
      clear hl
      go_simp
     refine tFacts_litG TL.out (.pointer (some ⟨gD, 0, none⟩)) 3 true 214 rfl (by rw [HO.out]; rfl) (by rw [HS.out]; decide) (fun _ _ h => h) ?_ ?_
     ·intro a wq hw hl
      have e218 : a.tmps[218]?.getD undef = .pointer (some ⟨gD, 0, none⟩) := hl 218 (by first | (simp [Op.operands]; done) | simp [Op.operands, Call.operands]) (by rw [HS.out]; decide)
      clear hl
      go_simp
     refine tFacts_litG TL.out (.pointer (some ⟨gD, 1, none⟩)) 3 true 214 rfl (by rw [HO.out]; rfl) (by rw [HS.out]; decide) (fun _ _ h => h) ?_ ?_
     ·intro a wq hw hl
      have e219 : a.tmps[219]?.getD undef = .pointer (some ⟨gD, 0, none⟩) := hl 219 (by first | (simp [Op.operands]; done) | simp [Op.operands, Call.operands]) (by rw [HS.out]; decide)
      clear hl
      go_simp
     refine tFacts_litG TL.out (.pointer (some ⟨q, 0, none⟩)) 3 true 214 rfl (by rw [HO.out]; rfl) (by rw [HS.out]; decide) (fun _ _ h => h) ?_ ?_
     ·intro a wq hw hl
      have e220 : a.tmps[220]?.getD undef = .pointer (some ⟨gD, 1, none⟩) := hl 220 (by first | (simp [Op.operands]; done) | simp [Op.operands, Call.operands]) (by rw [HS.out]; decide)
      have htz : Turned (fun i => ¬ Z2 i) wf wq := (by have hw9 := hw; rw [HW.out] at hw9; exact hw9.of_drew)
      have hbD := HGD.out wq htz
      have c0 : wq.cell? ⟨gD, 1, none⟩ = some (.pointer (some ⟨q, 0, none⟩)) := by rw [blk_cell hbD]; rfl
      clear hbD
      clear hl
      go_simp
     refine tFacts_litG TL.out (.pointer (some ⟨gD, 0, none⟩)) 3 true 214 rfl (by rw [HO.out]; rfl) (by rw [HS.out]; decide) (fun _ _ h => h) ?_ ?_
     ·intro a wq hw hl
      have e12 : a.tmps[12]?.getD undef = .pointer (some ⟨gD, 0, none⟩) := (hl 12 (by first | (simp [Op.operands]; done) | simp [Op.operands, Call.operands]) (by rw [HS.out]; decide)).trans A12.out
      clear hl
      go_simp
     refine tFacts_litG TL.out (.pointer (some ⟨gD, 0, none⟩)) 3 true 214 rfl (by rw [HO.out]; rfl) (by rw [HS.out]; decide) (fun _ _ h => h) ?_ ?_
     ·intro a wq hw hl
      have e222 : a.tmps[222]?.getD undef = .pointer (some ⟨gD, 0, none⟩) := hl 222 (by first | (simp [Op.operands]; done) | simp [Op.operands, Call.operands]) (by rw [HS.out]; decide)
      clear hl
      go_simp
     refine tFacts_litG TL.out (.pointer (some ⟨gD, 2, none⟩)) 3 true 214 rfl (by rw [HO.out]; rfl) (by rw [HS.out]; decide) (fun _ _ h => h) ?_ ?_
     ·intro a wq hw hl
      have e223 : a.tmps[223]?.getD undef = .pointer (some ⟨gD, 0, none⟩) := hl 223 (by first | (simp [Op.operands]; done) | simp [Op.operands, Call.operands]) (by rw [HS.out]; decide)
      clear hl
      go_simp
     refine tFacts_litG TL.out (.int .i64 n) 3 true 214 rfl (by rw [HO.out]; rfl) (by rw [HS.out]; decide) (fun _ _ h => h) ?_ ?_
     ·intro a wq hw hl
      have e224 : a.tmps[224]?.getD undef = .pointer (some ⟨gD, 2, none⟩) := hl 224 (by first | (simp [Op.operands]; done) | simp [Op.operands, Call.operands]) (by rw [HS.out]; decide)
      have htz : Turned (fun i => ¬ Z2 i) wf wq := (by have hw9 := hw; rw [HW.out] at hw9; exact hw9.of_drew)
      have hbD := HGD.out wq htz
      have c0 : wq.cell? ⟨gD, 2, none⟩ = some (.int .i64 n) := by rw [blk_cell hbD]; rfl
      clear hbD
      clear hl
      go_simp
     refine tFacts_writeG 1 (.int .i64 r) rfl 3 true 214 rfl (by rw [HO.out]; rfl) (by rw [HS.out]; decide) (fun _ _ h => h) ?_ ?_
     ·intro a wq bq hw hbq hjq hl
      have e221 : a.tmps[221]?.getD undef = .pointer (some ⟨q, 0, none⟩) := hl 221 (by first | (simp [Op.operands]; done) | simp [Op.operands, Call.operands]) (by rw [HS.out]; decide)
      have e225 : a.tmps[225]?.getD undef = .int .i64 n := hl 225 (by first | (simp [Op.operands]; done) | simp [Op.operands, Call.operands]) (by rw [HS.out]; decide)
      have htz : Turned (fun i => ¬ Z2 i) wf wq := (by have hw9 := hw; rw [HW.out] at hw9; exact hw9.of_drew)
      clear hl
      go_simp
      exact sUpon_call (JBo.d bq wq (fun B0 S2 hb => HCD.out B0 S2 wq hb) hbq hjq)
     refine tFacts_litG TL.out (.bool false) 3 true 214 rfl (by rw [HO.out]; rfl) (by rw [HS.out]; decide) (fun _ _ h => h) ?_ ?_
     ·intro a wq hw hl
      have e217 : a.tmps[217]?.getD undef = .int .i64 r := hl 217 (by first | (simp [Op.operands]; done) | simp [Op.operands, Call.operands]) (by rw [HS.out]; decide)
      have e226 : a.tmps[226]?.getD undef = .int .i64 r := hl 226 (by first | (simp [Op.operands]; done) | simp [Op.operands, Call.operands]) (by rw [HS.out]; decide)
      clear hl
      go_simp
     refine HL.out _ _ (fun a' wz hc => ?_)
     have e214 : a'.eval (.tmp 214) = .bool true := hc.fact 214 (by rw [HS.out]; decide)
     have e227 : a'.eval (.tmp 227) = .bool false := hc.fact 227 (by rw [HS.out]; decide)
     have hstwz := hc.st
     have htuwz := hc.turned
     rw [HW.out] at htuwz
     have hfr := hc.frame [211, 212, 213, 214, 215, 216, 217, 218, 219, 220, 221, 222, 223, 224, 225, 226, 227, 228] (by rw [HO.out]; kernel_rfl)
     rw [hfr]
     clear hfr hc
     rw [HA.out]
     clear HA HO HL HW HS HGW A11 A12 A14
     clear A O W L
     simp only [List.drop_succ_cons, List.drop_zero, List.foldl_cons, List.foldl_nil, Act.put, List.setIfInBounds_toArray, List.set_cons_succ, List.set_cons_zero]
     rw [e214, e227]
     generalize a'.eval (.tmp 211) = x211
     generalize a'.eval (.tmp 212) = x212
     generalize a'.eval (.tmp 213) = x213
     generalize a'.eval (.tmp 215) = x215
     generalize a'.eval (.tmp 216) = x216
     generalize a'.eval (.tmp 217) = x217
     generalize a'.eval (.tmp 218) = x218
     generalize a'.eval (.tmp 219) = x219
     generalize a'.eval (.tmp 220) = x220
     generalize a'.eval (.tmp 221) = x221
     generalize a'.eval (.tmp 222) = x222
     generalize a'.eval (.tmp 223) = x223
     generalize a'.eval (.tmp 224) = x224
     generalize a'.eval (.tmp 225) = x225
     generalize a'.eval (.tmp 226) = x226
     generalize a'.eval (.tmp 228) = x228
     clear e214 e227
     clear a'
     have HBZ := hide (JBo.all hstwz)
     clear hstwz htuwz q1
     go_wp2_with fail
     go_meet
     case rel => exact ⟨rfl, (HBK.out _ _ _ _ _ HSIM.out HBZ.out).mono (Nat.le_refl _) (by have := HK3.out HK1.out; omega)⟩
    have q1 : (K0 == 1) = false := by rw [HKK.out]; exact beq_eq_false_iff_ne.2 k1
    clear k1
    have HS5 := hide (HS4.out.to (gb_drewN (gb_refl wf none) 1))
    go_quiet (fail)
    go_wp2_with fail
    go_meet
    case rel => exact ⟨rfl, HS4.out.mono (Nat.le_refl _) HK4.out |>.to (by first | exact gb_drewN (gb_refl wf none) _ | exact gb_drew (gb_refl wf none))⟩
   case rest =>
    obtain ⟨rfl, hs5⟩ := hcut
    clear HS4 HK3 HK4 e0
    generalize wc = wf at *
    have HS5 := hide hs5
    clear hs5
    obtain ⟨gT, gT2, A8, c8, c1, c2, _, _, c4, hte, hle⟩ := HS5.out.asks
    have C1 := hide c1
    have C2 := hide c2
    have C4 := hide c4
    have C3 : Hid (wf.cell? ⟨bx, 2, none⟩ = some (.int .i64 x.n)) := hide (by rw [blk_cell (HCE.out wf HS5.out.turned)]; rfl)
    have HTE := hide hte
    have HLE := hide hle
    clear c1 c2 c4 hte hle
    go_upto_region 48 with fail
    refine wp_region_facts' 32 (by kernel_rfl) (by kernel_rfl) ?_
    intro A O W L HA HO HW HL
    simp only [List.take_succ_cons, List.take_zero]
    have HS := hide (show A.tmps.size = 263 by rw [HA.out]; rfl)
    have HGW := hide (show wf.grownBy W none by rw [HW.out]; exact gb_drew (gb_refl wf none))
    have A0 := hide (show A.eval (.tmp 0) = .string name by rw [HA.out]; rfl)
    have A11 := hide (show A.eval (.tmp 11) = .pointer (some ⟨gF, 0, none⟩) by rw [HA.out]; rfl)
    have A12 := hide (show A.eval (.tmp 12) = .pointer (some ⟨gD, 0, none⟩) by rw [HA.out]; rfl)
    have A14 := hide (show A.eval (.tmp 14) = .pointer (some ⟨bx, 0, none⟩) by rw [HA.out]; rfl)
    refine wpFacts_lit (.pointer (some ⟨gF, 0, none⟩)) rfl ?_ ?_
    ·intro a wq hw hl
     have e11 : a.tmps[11]?.getD undef = .pointer (some ⟨gF, 0, none⟩) := (hl 11 (by first | (simp [Op.operands]; done) | simp [Op.operands, Call.operands]) (by rw [HS.out]; decide)).trans A11.out
     clear hl
     go_simp
    refine wpFacts_lit (.pointer (some ⟨gF, 0, none⟩)) rfl ?_ ?_
    ·intro a wq hw hl
     have e229 : a.tmps[229]?.getD undef = .pointer (some ⟨gF, 0, none⟩) := hl 229 (by first | (simp [Op.operands]; done) | simp [Op.operands, Call.operands]) (by rw [HS.out]; decide)
     clear hl
     go_simp
    refine wpFacts_lit (.pointer (some ⟨gF, 0, none⟩)) rfl ?_ ?_
    ·intro a wq hw hl
     have e230 : a.tmps[230]?.getD undef = .pointer (some ⟨gF, 0, none⟩) := hl 230 (by first | (simp [Op.operands]; done) | simp [Op.operands, Call.operands]) (by rw [HS.out]; decide)
     clear hl
     go_simp
    refine wpFacts_lit (.pointer (some ⟨gT, 0, none⟩)) rfl ?_ ?_
    ·intro a wq hw hl
     have e231 : a.tmps[231]?.getD undef = .pointer (some ⟨gF, 0, none⟩) := hl 231 (by first | (simp [Op.operands]; done) | simp [Op.operands, Call.operands]) (by rw [HS.out]; decide)
     have c0 := cell_gb C1.out (gb_trans HGW.out hw (.inl rfl))
     clear hl
     go_simp
    refine wpFacts_lit (.bool false) rfl ?_ ?_
    ·intro a wq hw hl
     have e232 : a.tmps[232]?.getD undef = .pointer (some ⟨gT, 0, none⟩) := hl 232 (by first | (simp [Op.operands]; done) | simp [Op.operands, Call.operands]) (by rw [HS.out]; decide)
     clear hl
     go_simp
    refine wpFacts_lit (.bool false) rfl ?_ ?_
    ·intro a wq hw hl
     have e233 : a.tmps[233]?.getD undef = .bool false := hl 233 (by first | (simp [Op.operands]; done) | simp [Op.operands, Call.operands]) (by rw [HS.out]; decide)
     clear hl
     go_simp
    refine wpFacts_litG (.pointer (some ⟨gF, 0, none⟩)) 5 false 234 rfl (by rw [HO.out]; rfl) (by rw [HS.out]; decide) (fun _ _ h => h) ?_ ?_
    ·intro a wq hw hl
     have e11 : a.tmps[11]?.getD undef = .pointer (some ⟨gF, 0, none⟩) := (hl 11 (by first | (simp [Op.operands]; done) | simp [Op.operands, Call.operands]) (by rw [HS.out]; decide)).trans A11.out
     clear hl
     go_simp
    refine wpFacts_litG (.pointer (some ⟨gF, 0, none⟩)) 5 false 234 rfl (by rw [HO.out]; rfl) (by rw [HS.out]; decide) (fun _ _ h => h) ?_ ?_
    ·intro a wq hw hl
     have e235 : a.tmps[235]?.getD undef = .pointer (some ⟨gF, 0, none⟩) := hl 235 (by first | (simp [Op.operands]; done) | simp [Op.operands, Call.operands]) (by rw [HS.out]; decide)
     clear hl
     go_simp
    refine wpFacts_litG (.pointer (some ⟨gF, 0, none⟩)) 5 false 234 rfl (by rw [HO.out]; rfl) (by rw [HS.out]; decide) (fun _ _ h => h) ?_ ?_
    ·intro a wq hw hl
     have e236 : a.tmps[236]?.getD undef = .pointer (some ⟨gF, 0, none⟩) := hl 236 (by first | (simp [Op.operands]; done) | simp [Op.operands, Call.operands]) (by rw [HS.out]; decide)
     clear hl
     go_simp
    refine wpFacts_litG (.pointer (some ⟨gT, 0, none⟩)) 5 false 234 rfl (by rw [HO.out]; rfl) (by rw [HS.out]; decide) (fun _ _ h => h) ?_ ?_
    ·intro a wq hw hl
     have e237 : a.tmps[237]?.getD undef = .pointer (some ⟨gF, 0, none⟩) := hl 237 (by first | (simp [Op.operands]; done) | simp [Op.operands, Call.operands]) (by rw [HS.out]; decide)
     have c0 := cell_gb C1.out (gb_trans HGW.out hw (.inl rfl))
     clear hl
     go_simp
    refine wpFacts_litG (.pointer (some ⟨gD, 0, none⟩)) 5 false 234 rfl (by rw [HO.out]; rfl) (by rw [HS.out]; decide) (fun _ _ h => h) ?_ ?_
    ·intro a wq hw hl
     have e12 : a.tmps[12]?.getD undef = .pointer (some ⟨gD, 0, none⟩) := (hl 12 (by first | (simp [Op.operands]; done) | simp [Op.operands, Call.operands]) (by rw [HS.out]; decide)).trans A12.out
     clear hl
     go_simp
    refine wpFacts_litG (.pointer (some ⟨gD, 0, none⟩)) 5 false 234 rfl (by rw [HO.out]; rfl) (by rw [HS.out]; decide) (fun _ _ h => h) ?_ ?_
    ·intro a wq hw hl
     have e239 : a.tmps[239]?.getD undef = .pointer (some ⟨gD, 0, none⟩) := hl 239 (by first | (simp [Op.operands]; done) | simp [Op.operands, Call.operands]) (by rw [HS.out]; decide)
     clear hl
     go_simp
    refine wpFacts_litG (.pointer (some ⟨gD, 0, none⟩)) 5 false 234 rfl (by rw [HO.out]; rfl) (by rw [HS.out]; decide) (fun _ _ h => h) ?_ ?_
    ·intro a wq hw hl
     have e240 : a.tmps[240]?.getD undef = .pointer (some ⟨gD, 0, none⟩) := hl 240 (by first | (simp [Op.operands]; done) | simp [Op.operands, Call.operands]) (by rw [HS.out]; decide)
     clear hl
     go_simp
    refine wpFacts_litG (.pointer (some ⟨gT2, 0, none⟩)) 5 false 234 rfl (by rw [HO.out]; rfl) (by rw [HS.out]; decide) (fun _ _ h => h) ?_ ?_
    ·intro a wq hw hl
     have e241 : a.tmps[241]?.getD undef = .pointer (some ⟨gD, 0, none⟩) := hl 241 (by first | (simp [Op.operands]; done) | simp [Op.operands, Call.operands]) (by rw [HS.out]; decide)
     have c0 := cell_gb C2.out (gb_trans HGW.out hw (.inl rfl))
     clear hl
     go_simp
    refine wpFacts_litG (.string name) 5 false 234 rfl (by rw [HO.out]; rfl) (by rw [HS.out]; decide) (fun _ _ h => h) ?_ ?_
    ·intro a wq hw hl
     have e0 : a.tmps[0]?.getD undef = .string name := (hl 0 (by first | (simp [Op.operands]; done) | simp [Op.operands, Call.operands]) (by rw [HS.out]; decide)).trans A0.out
     clear hl
     go_simp
    refine wpFacts_litG (.pointer (some ⟨bx, 2, none⟩)) 5 false 234 rfl (by rw [HO.out]; rfl) (by rw [HS.out]; decide) (fun _ _ h => h) ?_ ?_
    ·intro a wq hw hl
     have e14 : a.tmps[14]?.getD undef = .pointer (some ⟨bx, 0, none⟩) := (hl 14 (by first | (simp [Op.operands]; done) | simp [Op.operands, Call.operands]) (by rw [HS.out]; decide)).trans A14.out
     clear hl
     go_simp
    refine wpFacts_litG (.int .i64 x.n) 5 false 234 rfl (by rw [HO.out]; rfl) (by rw [HS.out]; decide) (fun _ _ h => h) ?_ ?_
    ·intro a wq hw hl
     have e244 : a.tmps[244]?.getD undef = .pointer (some ⟨bx, 2, none⟩) := hl 244 (by first | (simp [Op.operands]; done) | simp [Op.operands, Call.operands]) (by rw [HS.out]; decide)
     have c0 := cell_gb C3.out (gb_trans HGW.out hw (.inl rfl))
     clear hl
     go_simp
    refine wpFacts_stepG (fun vq _ => vq = .bool true) 5 false 234 rfl (by rw [HO.out]; rfl) (by rw [HS.out]; decide) (fun _ _ h => h) (Lit.up _) ?_ ?_
    ·intro a wq hw hl
     have e238 : a.tmps[238]?.getD undef = .pointer (some ⟨gT, 0, none⟩) := hl 238 (by first | (simp [Op.operands]; done) | simp [Op.operands, Call.operands]) (by rw [HS.out]; decide)
     have e242 : a.tmps[242]?.getD undef = .pointer (some ⟨gT2, 0, none⟩) := hl 242 (by first | (simp [Op.operands]; done) | simp [Op.operands, Call.operands]) (by rw [HS.out]; decide)
     have e243 : a.tmps[243]?.getD undef = .string name := hl 243 (by first | (simp [Op.operands]; done) | simp [Op.operands, Call.operands]) (by rw [HS.out]; decide)
     have e245 : a.tmps[245]?.getD undef = .int .i64 x.n := hl 245 (by first | (simp [Op.operands]; done) | simp [Op.operands, Call.operands]) (by rw [HS.out]; decide)
     clear hl
     go_simp
     exact gUpon_lit (HTE.out wq name x.n (gb_trans HGW.out hw (.inl rfl)))
    refine wpFacts_litG (.bool false) 5 false 234 rfl (by rw [HO.out]; rfl) (by rw [HS.out]; decide) (fun _ _ h => h) ?_ ?_
    ·intro a wq hw hl
     have e246 : a.tmps[246]?.getD undef = .bool true := hl 246 (by first | (simp [Op.operands]; done) | simp [Op.operands, Call.operands]) (by rw [HS.out]; decide)
     clear hl
     go_simp
    refine wpFacts_lit (.bool false) rfl ?_ ?_
    ·intro a wq hw hl
     have e234 : a.tmps[234]?.getD undef = .bool false := hl 234 (by first | (simp [Op.operands]; done) | simp [Op.operands, Call.operands]) (by rw [HS.out]; decide)
     have e247 : a.tmps[247]?.getD undef = .bool false := hl 247 (by first | (simp [Op.operands]; done) | simp [Op.operands, Call.operands]) (by rw [HS.out]; decide)
     clear hl
     go_simp
    refine wpFacts_lit (.bool false) rfl ?_ ?_
    ·intro a wq hw hl
     have e248 : a.tmps[248]?.getD undef = .bool false := hl 248 (by first | (simp [Op.operands]; done) | simp [Op.operands, Call.operands]) (by rw [HS.out]; decide)
     clear hl
     go_simp
    refine wpFacts_litG (.pointer (some ⟨gF, 0, none⟩)) 20 false 249 rfl (by rw [HO.out]; rfl) (by rw [HS.out]; decide) (fun _ _ h => h) ?_ ?_
    ·intro a wq hw hl
     have e11 : a.tmps[11]?.getD undef = .pointer (some ⟨gF, 0, none⟩) := (hl 11 (by first | (simp [Op.operands]; done) | simp [Op.operands, Call.operands]) (by rw [HS.out]; decide)).trans A11.out
     clear hl
     go_simp
    refine wpFacts_stepG (fun vq _ => vq = .int .i64 (L2.length : Int)) 20 false 249 rfl (by rw [HO.out]; rfl) (by rw [HS.out]; decide) (fun _ _ h => h) (Lit.up _) ?_ ?_
    ·intro a wq hw hl
     have e250 : a.tmps[250]?.getD undef = .pointer (some ⟨gF, 0, none⟩) := hl 250 (by first | (simp [Op.operands]; done) | simp [Op.operands, Call.operands]) (by rw [HS.out]; decide)
     clear hl
     go_simp
     exact gUpon_lit (HLE.out wq (gb_trans HGW.out hw (.inl rfl)))
    refine wpFacts_litG (.pointer (some ⟨gD, 0, none⟩)) 20 false 249 rfl (by rw [HO.out]; rfl) (by rw [HS.out]; decide) (fun _ _ h => h) ?_ ?_
    ·intro a wq hw hl
     have e12 : a.tmps[12]?.getD undef = .pointer (some ⟨gD, 0, none⟩) := (hl 12 (by first | (simp [Op.operands]; done) | simp [Op.operands, Call.operands]) (by rw [HS.out]; decide)).trans A12.out
     clear hl
     go_simp
    refine wpFacts_litG (.pointer (some ⟨gD, 0, none⟩)) 20 false 249 rfl (by rw [HO.out]; rfl) (by rw [HS.out]; decide) (fun _ _ h => h) ?_ ?_
    ·intro a wq hw hl
     have e252 : a.tmps[252]?.getD undef = .pointer (some ⟨gD, 0, none⟩) := hl 252 (by first | (simp [Op.operands]; done) | simp [Op.operands, Call.operands]) (by rw [HS.out]; decide)
     clear hl
     go_simp
    refine wpFacts_litG (.pointer (some ⟨gD, 0, none⟩)) 20 false 249 rfl (by rw [HO.out]; rfl) (by rw [HS.out]; decide) (fun _ _ h => h) ?_ ?_
    ·intro a wq hw hl
     have e253 : a.tmps[253]?.getD undef = .pointer (some ⟨gD, 0, none⟩) := hl 253 (by first | (simp [Op.operands]; done) | simp [Op.operands, Call.operands]) (by rw [HS.out]; decide)
     clear hl
     go_simp
    refine wpFacts_litG (.pointer (some ⟨gT2, 0, none⟩)) 20 false 249 rfl (by rw [HO.out]; rfl) (by rw [HS.out]; decide) (fun _ _ h => h) ?_ ?_
    ·intro a wq hw hl
     have e254 : a.tmps[254]?.getD undef = .pointer (some ⟨gD, 0, none⟩) := hl 254 (by first | (simp [Op.operands]; done) | simp [Op.operands, Call.operands]) (by rw [HS.out]; decide)
     have c0 := cell_gb C2.out (gb_trans HGW.out hw (.inl rfl))
     clear hl
     go_simp
    refine wpFacts_litG (.pointer (some ⟨gT2, 0, none⟩)) 20 false 249 rfl (by rw [HO.out]; rfl) (by rw [HS.out]; decide) (fun _ _ h => h) ?_ ?_
    ·intro a wq hw hl
     have e255 : a.tmps[255]?.getD undef = .pointer (some ⟨gT2, 0, none⟩) := hl 255 (by first | (simp [Op.operands]; done) | simp [Op.operands, Call.operands]) (by rw [HS.out]; decide)
     clear hl
     go_simp
    refine wpFacts_litG (.pointer (some ⟨gT2, 0, none⟩)) 20 false 249 rfl (by rw [HO.out]; rfl) (by rw [HS.out]; decide) (fun _ _ h => h) ?_ ?_
    ·intro a wq hw hl
     have e256 : a.tmps[256]?.getD undef = .pointer (some ⟨gT2, 0, none⟩) := hl 256 (by first | (simp [Op.operands]; done) | simp [Op.operands, Call.operands]) (by rw [HS.out]; decide)
     clear hl
     go_simp
    refine wpFacts_litG (.slice A8 L2.length c8) 20 false 249 rfl (by rw [HO.out]; rfl) (by rw [HS.out]; decide) (fun _ _ h => h) ?_ ?_
    ·intro a wq hw hl
     have e257 : a.tmps[257]?.getD undef = .pointer (some ⟨gT2, 0, none⟩) := hl 257 (by first | (simp [Op.operands]; done) | simp [Op.operands, Call.operands]) (by rw [HS.out]; decide)
     have c0 := cell_gb C4.out (gb_trans HGW.out hw (.inl rfl))
     clear hl
     go_simp
    refine wpFacts_litG (.int .i64 ((L2.length : Nat) : Int)) 20 false 249 rfl (by rw [HO.out]; rfl) (by rw [HS.out]; decide) (fun _ _ h => h) ?_ ?_
    ·intro a wq hw hl
     have e258 : a.tmps[258]?.getD undef = .slice A8 L2.length c8 := hl 258 (by first | (simp [Op.operands]; done) | simp [Op.operands, Call.operands]) (by rw [HS.out]; decide)
     clear hl
     go_simp
    refine wpFacts_litG (.bool false) 20 false 249 rfl (by rw [HO.out]; rfl) (by rw [HS.out]; decide) (fun _ _ h => h) ?_ ?_
    ·intro a wq hw hl
     have e251 : a.tmps[251]?.getD undef = .int .i64 (L2.length : Int) := hl 251 (by first | (simp [Op.operands]; done) | simp [Op.operands, Call.operands]) (by rw [HS.out]; decide)
     have e259 : a.tmps[259]?.getD undef = .int .i64 ((L2.length : Nat) : Int) := hl 259 (by first | (simp [Op.operands]; done) | simp [Op.operands, Call.operands]) (by rw [HS.out]; decide)
     clear hl
     go_simp
    refine HL.out _ (fun a' wz hc => ?_)
    have e249 : a'.eval (.tmp 249) = .bool false := hc.fact 249 (by rw [HS.out]; decide)
    have e260 : a'.eval (.tmp 260) = .bool false := hc.fact 260 (by rw [HS.out]; decide)
    have hgwz := gb_trans HGW.out hc.grown (.inl rfl)
    have hfr := hc.frame [229, 230, 231, 232, 233, 234, 235, 236, 237, 238, 239, 240, 241, 242, 243, 244, 245, 246, 247, 248, 249, 250, 251, 252, 253, 254, 255, 256, 257, 258, 259, 260, 261] (by rw [HO.out]; kernel_rfl)
    rw [hfr]
    clear hfr hc
    rw [HA.out]
    clear HA HO HL HW HS HGW A0 A11 A12 A14
    clear A O W L
    simp only [List.drop_succ_cons, List.drop_zero, List.foldl_cons, List.foldl_nil, Act.put, List.setIfInBounds_toArray, List.set_cons_succ, List.set_cons_zero]
    rw [e249, e260]
    generalize a'.eval (.tmp 229) = x229
    generalize a'.eval (.tmp 230) = x230
    generalize a'.eval (.tmp 231) = x231
    generalize a'.eval (.tmp 232) = x232
    generalize a'.eval (.tmp 233) = x233
    generalize a'.eval (.tmp 234) = x234
    generalize a'.eval (.tmp 235) = x235
    generalize a'.eval (.tmp 236) = x236
    generalize a'.eval (.tmp 237) = x237
    generalize a'.eval (.tmp 238) = x238
    generalize a'.eval (.tmp 239) = x239
    generalize a'.eval (.tmp 240) = x240
    generalize a'.eval (.tmp 241) = x241
    generalize a'.eval (.tmp 242) = x242
    generalize a'.eval (.tmp 243) = x243
    generalize a'.eval (.tmp 244) = x244
    generalize a'.eval (.tmp 245) = x245
    generalize a'.eval (.tmp 246) = x246
    generalize a'.eval (.tmp 247) = x247
    generalize a'.eval (.tmp 248) = x248
    generalize a'.eval (.tmp 250) = x250
    generalize a'.eval (.tmp 251) = x251
    generalize a'.eval (.tmp 252) = x252
    generalize a'.eval (.tmp 253) = x253
    generalize a'.eval (.tmp 254) = x254
    generalize a'.eval (.tmp 255) = x255
    generalize a'.eval (.tmp 256) = x256
    generalize a'.eval (.tmp 257) = x257
    generalize a'.eval (.tmp 258) = x258
    generalize a'.eval (.tmp 259) = x259
    generalize a'.eval (.tmp 261) = x261
    clear e249 e260
    clear a'
    have HS6 := hide (HS5.out.to hgwz)
    clear hgwz
    go_wp2_with fail
    go_roundw
    case rel => exact ⟨j + 1, congrArg (Value.int .i64) (wrap_j5 (by have := HJ.out; omega)), HLT.out, RoundY.next HGW.out HS6.out HD3.out (by omega)⟩
    case measure =>
     have hlt := HLT.out
     rw [wrap_j5 (by have := HJ.out; omega)]
     show l.length - ((j + 1 : Nat) : Int).toNat < l.length - ((j : Nat) : Int).toNat
     rw [Int.toNat_natCast, Int.toNat_natCast]
     omega
end Go.Proofs.YtmcmlkglkpbnpaaGreat
namespace Go.Proofs.YtmcmlkglkpbnpaaGreat
open Go.RowKit
attribute [local go_sem ↓] Go.wp_at_zero Go.wp_at_succ
theorem files_main (name : ByteArray) (C : Int) (A : Option Addr) (c : Nat) (l : List AcF) (w : World) (hr : Rd w w.heap.size A (fcells l)) (hx : ∀ x ∈ l, x.Ok w) (h1 : l.length ≤ 60) (h2 : name.size ≤ 20000) (h3 : 0 ≤ C) (h4 : C ≤ 1000000) :
  Calls Tryz.prog 3 #[.string name, .int .i64 C, .slice A l.length c] w fun e w' => e = .returned (.bool true) ∧ w.grownBy w' none :=
 filesT.h kinds_any (restT.h tests_any opens_any more_any) name C A c l w hr hx h1 h2 h3 h4
end Go.Proofs.YtmcmlkglkpbnpaaGreat
namespace Go.Proofs.YtmcmlkglkpbnpaaGreat
open Go.ChangeMaps (open_string shut_string)
open Go.RowKit Go.ChangeShapes Go.WideShapes Go.ChangeAt
theorem files_all (name : ByteArray) (C : Int) (A : Option Addr) (c : Nat) (l : List AcF) (w : World) (hr : Rd w w.heap.size A (fcells l)) (hx : ∀ x ∈ l, x.Ok w) :
  Calls Tryz.prog 3 #[.string name, .int .i64 C, .slice A l.length c] w fun e w' => e = .returned (.bool true) ∧ w.grownBy w' none := by
 by_cases h : 60 < l.length ∨ 20000 < name.size ∨ C < 0 ∨ 1000000 < C
 ·exact files_off name C A c l w h
 ·exact files_main name C A c l w hr hx (by omega) (by omega) (by omega) (by omega)
set_option maxRecDepth 100000 in
theorem lawFiles_lifted (os : Os) (started : os.Started) (H : Type) (enc : TypeId × Value → H) :
  ReturnsInHanded {} Tryz.checked os 3 .any (Rows.symtabFilesSpec.pre6 enc Tryz.prog Tryz.f3 Rows.symtabFilesRow.domain false) (Rows.symtabFilesSpec.post enc Tryz.prog Tryz.f3 false true false false) := by
 refine returnsInHanded_of_change_sized (C := Tryz.checked) Tryz.own started (by kernel_rfl) Tryz.func3
  (ChangeSpec.witness6 (enc := enc) (C := Tryz.checked) false ⟨#[], #[.string ⟨#[]⟩, .int .i64 0, .slice none 0 0], []⟩ 8 (by kernel_rfl) (by kernel_rfl) (by kernel_rfl) (by kernel_rfl)) ?_
 intro W base args ds gs before hval0 hW _ hsz0 _
 have hval : ∀ (j : Nat) t v, Tryz.f3.params[j]? = some t → args[j]? = some v → Value.okWide Tryz.prog W .any base t v := hval0
 have hW' := hW
 obtain ⟨p, q, hA0, hV, _, _, _⟩ := hW
 have hA : DataW.TrodAll enc Tryz.prog W 0 (fun _ => true) true Tryz.f3.params.toList args.toList ds p := hA0
 have hsz : (DataW.weightsEach Tryz.prog (Tryz.f3.params.toList ++ Rows.symtabFilesSpec.plain.varTypes Tryz.prog) (ds ++ gs)).all (· ≤ reachBytes) = true := hsz0
 rw [Tryz.params3] at hA hval hsz
 obtain ⟨v0, v1, v2, d0, d1, d2, p0, p1, p2, rfl, rfl, _, t0, t1, t2⟩ := trodAll_three hA
 obtain ⟨rfl, rfl⟩ := trodVars_none hV
 simp only [List.cons_append, List.nil_append, List.append_nil, DataW.weightsEach, List.all_append, Bool.and_eq_true, List.all_eq_true, decide_eq_true_eq] at hsz
 obtain ⟨s, rfl, rfl, rfl, _⟩ := open_string Tryz.underlying9 (hval 0 _ _ rfl rfl) t0
 obtain ⟨C, rfl, rfl, rfl, _⟩ := open_int Tryz.underlying3 (hval 1 _ _ rfl rfl) t1
 obtain ⟨A, c, l, rfl, h1, h2, h3⟩ := open_facts (hval 2 _ _ rfl rfl) t2 hsz.2.2.1
 refine (files_all s C A c l W h2 h3).mono fun e W' ⟨he, hg⟩ => ⟨_, he, post_law hW' rfl ?_ rfl rfl (gb_below hg (Nat.le_refl _) (by simp))⟩
 intro t ht
 rw [Tryz.params3] at ht
 simp only [List.mem_cons, List.not_mem_nil, or_false] at ht
 rcases ht with rfl | rfl | rfl <;> exact ⟨by kernel_rfl, of_decide_eq_true (by kernel_rfl)⟩
theorem symtabFiles_holds : Rows.SymtabFilesSaid :=
 OpenClaim.holds_of_wide 3 Tryz.f3 rfl rfl rfl rfl rfl rfl rfl ⟨rfl, rfl, rfl, rfl, rfl⟩ rfl rfl rfl rfl rfl (by kernel_rfl) Tryz.func3 (by kernel_rfl)
  (of_decide_eq_true (by kernel_rfl)) (by unfold Func.isWrapper; first | (rw [if_pos (by decide +kernel)]; kernel_rfl) | (rw [if_neg (by decide +kernel)]; exact ⟨rfl, rfl⟩))
  (fun os started H enc _ => lawFiles_lifted os started H enc)
end Go.Proofs.YtmcmlkglkpbnpaaGreat
