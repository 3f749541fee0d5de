/-
  The law's files: an act on a file, on both.
-/
import Derived.Test.YtccapgcpdehicaaQaz
import Derived.Test.YtccapgcpdehicaaQba
import Derived.BigQuiet
import Derived.Deep.CutBlock
import Derived.Deep.RegionLaw
import Derived.Deep.DeepCutAuto

namespace Go.Proofs.Ytccapgcpdehicaa
open Go.RowKit
attribute [local go_sem ↓] Go.wp_at_zero Go.wp_at_succ

theorem Try.infoB2 : (Try.prog.info? 5).map (fun i => (i.zero, i.size, i.bytes)) = some (some (.int .u8 0), 1, 1) := by kernel_rfl
theorem one_u8 (l : List UInt8) : ∀ u ∈ u8s l, u.oneCell' = true := by
  intro u hu
  unfold u8s at hu
  obtain ⟨b, _, rfl⟩ := List.mem_map.1 hu
  rfl
theorem own_empty8 {w : World} {base b : Nat} (hb : w.heap[b]? = some (.cells #[] 5 (0, 0))) (h : base ≤ b) : w.ownsRow base 5 1 (.slice (some ⟨b, 0, none⟩) 0 0) 0 (u8s []) :=
  ⟨rfl, .inr ⟨b, 0, #[], rfl, h, hb, Nat.le_refl _, Nat.zero_le _, rfl, rfl⟩⟩
theorem row8 {w : World} {base n a b : Nat} {e : TypeId} {v : Value} {xs : List Value} (ho : w.ownsRow base e 1 v n xs) (hb : v.ownBlock = some a ∨ v.ownBlock = some b) : ∃ bp cp, v = .slice (some ⟨bp, 0, none⟩) n cp ∧ base ≤ bp ∧ bp < w.heap.size := by
  rcases ho.2 with ⟨h1, h0⟩ | ⟨g, cap, cur, hv, h1, h2, _⟩
  · rw [h1] at hb
    simp [Value.ownBlock] at hb
  · exact ⟨g, cap, hv, h1, blk_lt h2⟩
theorem row_next {w : World} {base bp c n j : Nat} {t : TypeId} {ys l : List Value} (ho : w.ownsRow base t 1 (.slice (some ⟨bp, 0, none⟩) n c) n (ys ++ l.drop j)) (hy : ys.length = j) (hj : j < l.length) (V : Value) :
    (w.setCell ⟨bp, j, none⟩ V).ownsRow base t 1 (.slice (some ⟨bp, 0, none⟩) n c) n ((ys ++ [V]) ++ l.drop (j + 1)) := by
  have h1 := (ho.stored j V).1
  rw [List.set_append_right _ _ (by omega), hy, Nat.sub_self, List.drop_eq_getElem_cons hj, List.set_cons_zero] at h1
  rw [List.append_assoc]
  exact h1
theorem bs_block {w : World} {own : Nat → Prop} {A : Option Addr} {c : Nat} {X : ByteArray} (h : BsAt w own (.slice A X.size c) (bl X)) (hm : ¬ X.size = 0) :
    ∃ gx cs, A = some ⟨gx, 0, none⟩ ∧ own gx ∧ w.heap[gx]? = some (.cells cs 5 (0, 0)) ∧ (∀ j, j < X.size → ∃ b : UInt8, cs[j]? = some (.int .u8 (b.toNat : Int))) ∧ X.size ≤ cs.size ∧ X.size ≤ 9223372036854775807 := by
  rcases h with ⟨h0, _⟩ | ⟨h0, g, cap, cur, hv, ho, hh, h1, h2, h3, _, ht⟩
  · have := bl_len X
    rw [h0] at this
    exact absurd this.symm hm
  · injection hv with hv
    rw [bl_len] at h1 ht
    refine ⟨g, cur, hv, ho, hh, fun j hj => ?_, by omega, by unfold maxLen at h3; omega⟩
    have hjl : j < (bl X).length := by rw [bl_len]; exact hj
    have e1 : (cur.toList.take X.size)[j]? = (u8s (bl X))[j]? := by rw [ht]
    rw [List.getElem?_take_of_lt hj] at e1
    refine ⟨(bl X)[j], ?_⟩
    rw [← Array.getElem?_toList, e1]
    unfold u8s
    rw [List.getElem?_map, List.getElem?_eq_getElem hjl]
    rfl
/-- Behind a step. -/
def Nx (w0 : World) (Z : Nat → Prop) (g q D k : Nat) (wx : World) : Prop := ∃ S R, Bo w0 Z g S q R wx ∧ Sim D k S R
section
variable {w0 wx wy : World} {Z Z' : Nat → Prop} {g q D k : Nat}
theorem Rd.ofZ {w0 wx : World} {Z : Nat → Prop} {g q B : Nat} {S : St} {R : RS} {A : Option Addr} {xs : List Value} (hr : Rd w0 B A xs) (h : Bo w0 Z g S q R wx) (hZ : ∀ i, i < B → Z i) : Rd wx B A xs :=
  hr.keep fun _ hp => cell_same (h.block (hZ _ hp))
end

set_option maxHeartbeats 8000000 in
set_option maxRecDepth 100000 in
theorem files_any {w0 : World} {Z : Nat → Prop} {g q : Nat} {S : St} {R : RS} {D k B : Nat} (x : AcV) (w : World) (h : Bo w0 Z g S q R w) (hs : Sim D k S R) (hD : D + x.d.length ≤ 20000) (hk : k ≤ 900)
    (hr : Rd w0 B x.dA (u8s x.d)) (hB : B ≤ w0.heap.size) (hZ : ∀ i, i < B → Z i) :
    Calls Try.prog 53 #[.pointer (some ⟨g, 0, none⟩), .pointer (some ⟨q, 0, none⟩), .agg #[.int .i64 x.kind, .string x.a, .string x.b, .int .i64 x.file, .int .i64 x.pos, .int .i64 x.n, .slice x.dA x.d.length x.dc, .int .i64 x.dir, .slice x.tA x.tn x.tc]] w fun e w' => e = .returned (.bool true) ∧ Nx w0 Z g q (D + x.d.length) (k + 1) w' := by
  obtain ⟨wa, hwa⟩ : ∃ wa, wa = w.alloc (.cells (x.cells.toArray) 37) := ⟨_, rfl⟩
  have hga : w.grownBy wa none := by rw [hwa]; exact gb_alloc (gb_refl w none) _
  have hba : wa.heap[w.heap.size]? = some (.cells x.cells.toArray 37 (0, 0)) := by rw [hwa]; exact heap_alloc_new w _
  have a6 : (wa.alloc (.cells #[] 5)).cell? ⟨w.heap.size, 6, none⟩ = some (.slice x.dA x.d.length x.dc) := by rw [World.cell?_alloc_lt wa _ _ (blk_lt hba), blk_cell hba]; rfl
  have hza : wa.heap.size = w.heap.size + 1 := by rw [hwa]; simp
  have HO0 : Hid ((wa.alloc (.cells #[] 5)).ownsRow wa.heap.size 5 1 (.slice (some ⟨wa.heap.size, 0, none⟩) 0 0) 0 (u8s [])) := hide (own_empty8 (by exact heap_alloc_new wa _) (Nat.le_refl _))
  have hgb : w.grownBy (wa.alloc (.cells #[] 5)) none := gb_trans hga (gb_alloc (gb_refl wa none) _) (.inl rfl)
  have HRD : Hid (Rd (wa.alloc (.cells #[] 5)) B x.dA (u8s x.d)) := hide ((hr.ofZ h hZ).grown hgb (Nat.le_trans hB h.size) (by simp))
  have HBA := hide hba
  have HWE := hide hwa
  have H := hide h
  have HS := hide hs
  have HDD := hide hD
  have HKK := hide hk
  have HRR := hide hr
  have HBB := hide hB
  have HZZ := hide hZ
  have HGB := hide hgb
  have HZA := hide hza
  have HGA := hide hga
  obtain ⟨i1, hi1, hiz, his, hib⟩ := info_parts Try.infoB2
  have HI1 := hide hi1
  have HIZ := hide hiz
  have HIS := hide his
  have HIB := hide hib
  have HLEN : Hid ((u8s x.d).length = x.d.length * 1) := hide (by simp [u8s])
  have HOC := hide (one_u8 x.d)
  have HM1 : Hid (0 + x.d.length ≤ maxLen) := hide (by unfold maxLen; omega)
  have HMB : Hid ((0 + x.d.length) * 1 ≤ 140737488355328) := hide (by omega)
  have HBS : Hid (wa.heap.size ≤ (wa.alloc (.cells #[] 5)).heap.size) := hide (by simp)
  clear h hs hD hk hr hB hZ hwa hga hba hgb hi1 hiz his hib hza
  go_enter Try.func53, Try.ntmps53
  go_upto_region 1 with fail
  rw [← show x.cells.toArray = #[.int .i64 x.kind, .string x.a, .string x.b, .int .i64 x.file, .int .i64 x.pos, .int .i64 x.n, .slice x.dA x.d.length x.dc, .int .i64 x.dir, .slice x.tA x.tn x.tc] from rfl, ← HWE.out]
  go_upto_block 0 with (at_builtin; refine wpList_append_rd _ rfl (.tmp 15) (.tmp 17) 32 rfl wa.heap.size 5 i1 (.int .u8 0) 1 1 Try.underlying32 HI1.out HIZ.out HIS.out HIB.out rfl (Nat.succ_pos 0) (.slice (some ⟨wa.heap.size, 0, none⟩) 0 0) 0 (u8s []) rfl HO0.out B x.dA x.d.length x.dc (u8s x.d) rfl HLEN.out HRD.out HOC.out HM1.out HMB.out HBS.out ?_; intro v5 w5 ho5 hg5 hb5; rw [Nat.zero_add] at ho5; obtain ⟨bp, cp, hv5, hp1, hp2⟩ := row8 ho5 hb5; subst hv5; have HG5 := hide (gb_row HGB.out HO0.out (by have := HZA.out; omega) hg5); have HBX := hide (((hg5.block w.heap.size (by simp; have := HZA.out; omega) (by have := HZA.out; simp [Value.ownBlock]; omega)).trans (heap_alloc_old wa _ (blk_lt HBA.out))).trans HBA.out); have HO5 : Hid (w5.ownsRow wa.heap.size 5 1 (.slice (some ⟨bp, 0, none⟩) x.d.length cp) x.d.length (u8s x.d)) := hide ho5; have HP1 := hide hp1; have HP2 := hide hp2; have e0 : w5.cell? ⟨w.heap.size, 0, none⟩ = some (.int .i64 x.kind) := (by { rw [blk_cell HBX.out]; rfl }); have e1 : w5.cell? ⟨w.heap.size, 1, none⟩ = some (.string x.a) := (by { rw [blk_cell HBX.out]; rfl }); have e2 : w5.cell? ⟨w.heap.size, 2, none⟩ = some (.string x.b) := (by { rw [blk_cell HBX.out]; rfl }); have e3 : w5.cell? ⟨w.heap.size, 3, none⟩ = some (.int .i64 x.file) := (by { rw [blk_cell HBX.out]; rfl }); have e4 : w5.cell? ⟨w.heap.size, 4, none⟩ = some (.int .i64 x.pos) := (by { rw [blk_cell HBX.out]; rfl }); have e5 : w5.cell? ⟨w.heap.size, 5, none⟩ = some (.int .i64 x.n) := (by { rw [blk_cell HBX.out]; rfl }); have e6 : w5.cell? ⟨w.heap.size, 6, none⟩ = some (.slice x.dA x.d.length x.dc) := (by { rw [blk_cell HBX.out]; rfl }); have e7 : w5.cell? ⟨w.heap.size, 7, none⟩ = some (.int .i64 x.dir) := (by { rw [blk_cell HBX.out]; rfl }); have e8 : w5.cell? ⟨w.heap.size, 8, none⟩ = some (.slice x.tA x.tn x.tc) := (by { rw [blk_cell HBX.out]; rfl }); clear ho5 hg5 hb5 hp1 hp2)
  obtain ⟨Z2, hZ2⟩ : ∃ Z2 : Nat → Prop, Z2 = fun i => Z i ∨ (i = w.heap.size ∨ i = bp) := ⟨_, rfl⟩
  have hB0 : Bo w5 Z2 g S q R w5 := by
    rw [hZ2]
    exact H.out.protect HG5.out fun i hi => by
      have h1 := HP1.out
      have h2 := HP2.out
      have h3 := HZA.out
      have h4 := blk_lt HBX.out
      rcases hi with hi | hi
      · omega
      · omega
  have HB0 := hide hB0
  obtain ⟨P, hP⟩ : ∃ P : ByteArray, P = ⟨x.d.toArray⟩ := ⟨_, rfl⟩
  have hPb : bl P = x.d := by rw [hP]; rfl
  have hPs : P.size = x.d.length := by rw [← bl_len, hPb]
  have hr5 : Rd w5 B x.dA (u8s x.d) := (HRR.out.ofZ H.out HZZ.out).grown HG5.out (Nat.le_trans HBB.out H.out.size) (by simp)
  have HRT : Hid (∀ wx : World, Turned (fun i => ¬ Z2 i) w5 wx → Rd wx B x.dA (u8s x.d)) := hide fun wx hx => hr5.keep fun p hp => cell_same (hx.block p.block (by have := HBB.out; have := H.out.size; have := HG5.out.size; omega) (fun hh => hh (by rw [hZ2]; exact .inl (HZZ.out _ hp))))
  have hSTR : ∀ wx : World, Rd wx B x.dA (u8s x.d) → (convert 32 9 (.slice x.dA x.d.length x.dc)).run Try.prog wx = .ok (.string P) wx := fun wx hx => by rw [hP]; exact str8 hx rfl
  have HROW : Hid (∀ wx : World, Turned (fun i => ¬ Z2 i) w5 wx → wx.ownsRow wa.heap.size 5 1 (.slice (some ⟨bp, 0, none⟩) x.d.length cp) x.d.length (u8s x.d)) := hide fun wx hx => own_keep HO5.out fun i hi hl => by
    injection hi with hi
    subst hi
    exact hx.block _ hl (fun hh => hh (by rw [hZ2]; exact .inr (.inr rfl)))
  have HZ1 : Hid (Z2 w.heap.size) := hide (by rw [hZ2]; exact .inr (.inl rfl))
  have HZB : Hid (Z2 bp) := hide (by rw [hZ2]; exact .inr (.inr rfl))
  have HZL : Hid (∀ i, Z i → Z2 i) := hide fun i hi => by rw [hZ2]; exact .inl hi
  clear hB0 hP hr5 hZ2
  go_cut [8] (fun b wc => b = .bool true ∧ Nx w5 Z2 g q (D + x.d.length) (k + 1) wc)
  case first =>
    by_cases k3 : x.kind = 3
    · have q3 : (x.kind == 3) = true := by rw [k3]; rfl
      clear k3
      obtain ⟨r, hrE⟩ : ∃ r, r = S.writeE x.file x.pos x.d.length := ⟨_, rfl⟩
      obtain ⟨hans, hsim⟩ := hPs ▸ hPb ▸ HS.out.write x.file x.pos P
      have HSIM := hide hsim
      obtain ⟨S9, hS9⟩ : ∃ S9, S9 = S.write x.file x.pos x.d := ⟨_, rfl⟩
      obtain ⟨R9, hR9⟩ : ∃ R9, R9 = (writeR R x.file x.pos P).2 := ⟨_, rfl⟩
      rw [← hS9, ← hR9] at HSIM
      have HCP : Hid (∀ B0 (R2 : RS) (wx : World), Bo B0 Z2 g S q R2 wx → wx.ownsRow wa.heap.size 5 1 (.slice (some ⟨bp, 0, none⟩) x.d.length cp) x.d.length (u8s x.d) → Calls Try.prog 68 #[.pointer (some ⟨g, 0, none⟩), .int .i64 x.file, .int .i64 x.pos, .slice (some ⟨bp, 0, none⟩) x.d.length cp] wx fun e w' => e = .returned (.int .i64 r) ∧ Bo B0 Z2 g S9 q R2 w') := hide fun B0 R2 wx hb hrow => by rw [hrE, hS9]; exact hb.pWrite HS.out (by have := HDD.out; omega) (by have := HKK.out; omega) x.file x.pos _ _ cp _ x.d (Rd.of_own hrow) (Nat.le_refl _) rfl (by have := HDD.out; omega)
      have HCD : Hid (∀ B0 (S2 : St) (wx : World), Bo B0 Z2 g S2 q R wx → Calls Try.prog 69 #[.pointer (some ⟨q, 0, none⟩), .int .i64 x.file, .int .i64 x.pos, .string P] wx fun e w' => e = .returned (.int .i64 r) ∧ Bo B0 Z2 g S2 q R9 w') := hide fun B0 S2 wx hb => by rw [hrE, hans, hR9]; exact hb.dWrite HS.out (by have := HDD.out; omega) (by have := HKK.out; omega) x.file x.pos P (by rw [hPs]; have := HDD.out; omega)
      clear hans hsim hrE hS9 hR9
      have TL := hide (JBo.two w5 Z2 g q S S9 R R9)
      have HJ0 : Hid (JBo w5 Z2 g q S S9 R R9 (fun _ => false) w5.drew) := hide HB0.out.drew
      go_wp2_with fail
      refine wp_region_two' TL.out (fun _ => false) HJ0.out 18 (by kernel_rfl) (by kernel_rfl) ?_
      intro A O W L HA HO HW HL
      simp only [List.take_succ_cons, List.take_zero]
      have HS := hide (show A.tmps.size = 148 by rw [HA.out]; rfl)
      have HGW := hide (show w5.grownBy W none by rw [HW.out]; exact gb_drew (gb_refl w5 none))
      have A0 := hide (show A.eval (.tmp 0) = .pointer (some ⟨g, 0, none⟩) by rw [HA.out]; rfl)
      have A1 := hide (show A.eval (.tmp 1) = .pointer (some ⟨q, 0, none⟩) by rw [HA.out]; rfl)
      have A5 := hide (show A.eval (.tmp 5) = .pointer (some ⟨w.heap.size, 0, none⟩) by rw [HA.out]; rfl)
      have A7 := hide (show A.eval (.tmp 7) = .slice (some ⟨bp, 0, none⟩) x.d.length cp by rw [HA.out]; rfl)
      -- slot 23
      refine tFacts_lit TL.out (.pointer (some ⟨g, 0, none⟩)) rfl ?_ ?_
      · intro a wq hw hl
        have e0 : a.tmps[0]?.getD undef = .pointer (some ⟨g, 0, none⟩) := (hl 0 (by first | (simp [Op.operands]; done) | simp [Op.operands, Call.operands]) (by rw [HS.out]; decide)).trans A0.out
        clear hl
        go_simp
      -- slot 24
      refine tFacts_lit TL.out (.pointer (some ⟨w.heap.size, 3, none⟩)) rfl ?_ ?_
      · intro a wq hw hl
        have e5 : a.tmps[5]?.getD undef = .pointer (some ⟨w.heap.size, 0, none⟩) := (hl 5 (by first | (simp [Op.operands]; done) | simp [Op.operands, Call.operands]) (by rw [HS.out]; decide)).trans A5.out
        clear hl
        go_simp
      -- slot 25
      refine tFacts_lit TL.out (.int .i64 x.file) rfl ?_ ?_
      · intro a wq hw hl
        have e24 : a.tmps[24]?.getD undef = .pointer (some ⟨w.heap.size, 3, none⟩) := hl 24 (by first | (simp [Op.operands]; done) | simp [Op.operands, Call.operands]) (by rw [HS.out]; decide)
        have htz : Turned (fun i => ¬ Z2 i) w5 wq := (by have hw9 := hw; rw [HW.out] at hw9; exact hw9.of_drew)
        have hbX := (htz.block _ (blk_lt HBX.out) (fun hh => hh HZ1.out)).trans HBX.out
        have c0 : wq.cell? ⟨w.heap.size, 3, none⟩ = some (.int .i64 x.file) := by rw [blk_cell hbX]; rfl
        clear hbX
        clear hl
        go_simp
      -- slot 26
      refine tFacts_lit TL.out (.pointer (some ⟨w.heap.size, 4, none⟩)) rfl ?_ ?_
      · intro a wq hw hl
        have e5 : a.tmps[5]?.getD undef = .pointer (some ⟨w.heap.size, 0, none⟩) := (hl 5 (by first | (simp [Op.operands]; done) | simp [Op.operands, Call.operands]) (by rw [HS.out]; decide)).trans A5.out
        clear hl
        go_simp
      -- slot 27
      refine tFacts_lit TL.out (.int .i64 x.pos) rfl ?_ ?_
      · intro a wq hw hl
        have e26 : a.tmps[26]?.getD undef = .pointer (some ⟨w.heap.size, 4, none⟩) := hl 26 (by first | (simp [Op.operands]; done) | simp [Op.operands, Call.operands]) (by rw [HS.out]; decide)
        have htz : Turned (fun i => ¬ Z2 i) w5 wq := (by have hw9 := hw; rw [HW.out] at hw9; exact hw9.of_drew)
        have hbX := (htz.block _ (blk_lt HBX.out) (fun hh => hh HZ1.out)).trans HBX.out
        have c0 : wq.cell? ⟨w.heap.size, 4, none⟩ = some (.int .i64 x.pos) := by rw [blk_cell hbX]; rfl
        clear hbX
        clear hl
        go_simp
      -- slot 28
      refine tFacts_lit TL.out (.slice (some ⟨bp, 0, none⟩) x.d.length cp) rfl ?_ ?_
      · intro a wq hw hl
        have e7 : a.tmps[7]?.getD undef = .slice (some ⟨bp, 0, none⟩) x.d.length cp := (hl 7 (by first | (simp [Op.operands]; done) | simp [Op.operands, Call.operands]) (by rw [HS.out]; decide)).trans A7.out
        clear hl
        go_simp
      -- slot 29
      refine tFacts_write 0 (.int .i64 r) rfl rfl ?_ ?_
      · intro a wq bq hw hbq hjq hl
        have e23 : a.tmps[23]?.getD undef = .pointer (some ⟨g, 0, none⟩) := hl 23 (by first | (simp [Op.operands]; done) | simp [Op.operands, Call.operands]) (by rw [HS.out]; decide)
        have e25 : a.tmps[25]?.getD undef = .int .i64 x.file := hl 25 (by first | (simp [Op.operands]; done) | simp [Op.operands, Call.operands]) (by rw [HS.out]; decide)
        have e27 : a.tmps[27]?.getD undef = .int .i64 x.pos := hl 27 (by first | (simp [Op.operands]; done) | simp [Op.operands, Call.operands]) (by rw [HS.out]; decide)
        have e28 : a.tmps[28]?.getD undef = .slice (some ⟨bp, 0, none⟩) x.d.length cp := hl 28 (by first | (simp [Op.operands]; done) | simp [Op.operands, Call.operands]) (by rw [HS.out]; decide)
        have htz : Turned (fun i => ¬ Z2 i) w5 wq := (by have hw9 := hw; rw [HW.out] at hw9; exact hw9.of_drew)
        clear hl
        go_simp
        exact sUpon_call (JBo.p bq wq (fun B0 R2 hb => HCP.out B0 R2 wq hb (HROW.out wq htz)) hbq hjq)
      -- slot 30
      refine tFacts_step TL.out (.int .i64 r) rfl ?_ ?_
      · intro a wq hw hl
        have e29 : a.tmps[29]?.getD undef = .int .i64 r := hl 29 (by first | (simp [Op.operands]; done) | simp [Op.operands, Call.operands]) (by rw [HS.out]; decide)
        clear hl
        go_simp
        exact gUpon_lit ((num_any r wq).mono fun e w9 hx => ⟨hx.1, hx.2 ▸ gb_refl wq none⟩)
      -- slot 31
      refine tFacts_lit TL.out (.pointer (some ⟨q, 0, none⟩)) rfl ?_ ?_
      · intro a wq hw hl
        have e1 : a.tmps[1]?.getD undef = .pointer (some ⟨q, 0, none⟩) := (hl 1 (by first | (simp [Op.operands]; done) | simp [Op.operands, Call.operands]) (by rw [HS.out]; decide)).trans A1.out
        clear hl
        go_simp
      -- slot 32
      refine tFacts_lit TL.out (.pointer (some ⟨w.heap.size, 3, none⟩)) rfl ?_ ?_
      · intro a wq hw hl
        have e5 : a.tmps[5]?.getD undef = .pointer (some ⟨w.heap.size, 0, none⟩) := (hl 5 (by first | (simp [Op.operands]; done) | simp [Op.operands, Call.operands]) (by rw [HS.out]; decide)).trans A5.out
        clear hl
        go_simp
      -- slot 33
      refine tFacts_lit TL.out (.int .i64 x.file) rfl ?_ ?_
      · intro a wq hw hl
        have e32 : a.tmps[32]?.getD undef = .pointer (some ⟨w.heap.size, 3, none⟩) := hl 32 (by first | (simp [Op.operands]; done) | simp [Op.operands, Call.operands]) (by rw [HS.out]; decide)
        have htz : Turned (fun i => ¬ Z2 i) w5 wq := (by have hw9 := hw; rw [HW.out] at hw9; exact hw9.of_drew)
        have hbX := (htz.block _ (blk_lt HBX.out) (fun hh => hh HZ1.out)).trans HBX.out
        have c0 : wq.cell? ⟨w.heap.size, 3, none⟩ = some (.int .i64 x.file) := by rw [blk_cell hbX]; rfl
        clear hbX
        clear hl
        go_simp
      -- slot 34
      refine tFacts_lit TL.out (.pointer (some ⟨w.heap.size, 4, none⟩)) rfl ?_ ?_
      · intro a wq hw hl
        have e5 : a.tmps[5]?.getD undef = .pointer (some ⟨w.heap.size, 0, none⟩) := (hl 5 (by first | (simp [Op.operands]; done) | simp [Op.operands, Call.operands]) (by rw [HS.out]; decide)).trans A5.out
        clear hl
        go_simp
      -- slot 35
      refine tFacts_lit TL.out (.int .i64 x.pos) rfl ?_ ?_
      · intro a wq hw hl
        have e34 : a.tmps[34]?.getD undef = .pointer (some ⟨w.heap.size, 4, none⟩) := hl 34 (by first | (simp [Op.operands]; done) | simp [Op.operands, Call.operands]) (by rw [HS.out]; decide)
        have htz : Turned (fun i => ¬ Z2 i) w5 wq := (by have hw9 := hw; rw [HW.out] at hw9; exact hw9.of_drew)
        have hbX := (htz.block _ (blk_lt HBX.out) (fun hh => hh HZ1.out)).trans HBX.out
        have c0 : wq.cell? ⟨w.heap.size, 4, none⟩ = some (.int .i64 x.pos) := by rw [blk_cell hbX]; rfl
        clear hbX
        clear hl
        go_simp
      -- slot 36
      refine tFacts_lit TL.out (.pointer (some ⟨w.heap.size, 6, none⟩)) rfl ?_ ?_
      · intro a wq hw hl
        have e5 : a.tmps[5]?.getD undef = .pointer (some ⟨w.heap.size, 0, none⟩) := (hl 5 (by first | (simp [Op.operands]; done) | simp [Op.operands, Call.operands]) (by rw [HS.out]; decide)).trans A5.out
        clear hl
        go_simp
      -- slot 37
      refine tFacts_lit TL.out (.slice x.dA x.d.length x.dc) rfl ?_ ?_
      · intro a wq hw hl
        have e36 : a.tmps[36]?.getD undef = .pointer (some ⟨w.heap.size, 6, none⟩) := hl 36 (by first | (simp [Op.operands]; done) | simp [Op.operands, Call.operands]) (by rw [HS.out]; decide)
        have htz : Turned (fun i => ¬ Z2 i) w5 wq := (by have hw9 := hw; rw [HW.out] at hw9; exact hw9.of_drew)
        have hbX := (htz.block _ (blk_lt HBX.out) (fun hh => hh HZ1.out)).trans HBX.out
        have c0 : wq.cell? ⟨w.heap.size, 6, none⟩ = some (.slice x.dA x.d.length x.dc) := by rw [blk_cell hbX]; rfl
        clear hbX
        clear hl
        go_simp
      -- slot 38
      refine tFacts_lit TL.out (.string P) rfl ?_ ?_
      · intro a wq hw hl
        have e37 : a.tmps[37]?.getD undef = .slice x.dA x.d.length x.dc := hl 37 (by first | (simp [Op.operands]; done) | simp [Op.operands, Call.operands]) (by rw [HS.out]; decide)
        have htz : Turned (fun i => ¬ Z2 i) w5 wq := (by have hw9 := hw; rw [HW.out] at hw9; exact hw9.of_drew)
        have hst := hSTR wq (HRT.out wq htz)
        clear hl
        go_simp
      -- slot 39
      refine tFacts_write 1 (.int .i64 r) rfl rfl ?_ ?_
      · intro a wq bq hw hbq hjq hl
        have e31 : a.tmps[31]?.getD undef = .pointer (some ⟨q, 0, none⟩) := hl 31 (by first | (simp [Op.operands]; done) | simp [Op.operands, Call.operands]) (by rw [HS.out]; decide)
        have e33 : a.tmps[33]?.getD undef = .int .i64 x.file := hl 33 (by first | (simp [Op.operands]; done) | simp [Op.operands, Call.operands]) (by rw [HS.out]; decide)
        have e35 : a.tmps[35]?.getD undef = .int .i64 x.pos := hl 35 (by first | (simp [Op.operands]; done) | simp [Op.operands, Call.operands]) (by rw [HS.out]; decide)
        have e38 : a.tmps[38]?.getD undef = .string P := hl 38 (by first | (simp [Op.operands]; done) | simp [Op.operands, Call.operands]) (by rw [HS.out]; decide)
        have htz : Turned (fun i => ¬ Z2 i) w5 wq := (by have hw9 := hw; rw [HW.out] at hw9; exact hw9.of_drew)
        clear hl
        go_simp
        exact sUpon_call (JBo.d bq wq (fun B0 S2 hb => HCD.out B0 S2 wq hb) hbq hjq)
      -- slot 40
      refine tFacts_lit TL.out (.bool true) rfl ?_ ?_
      · intro a wq hw hl
        have e30 : a.tmps[30]?.getD undef = .int .i64 r := hl 30 (by first | (simp [Op.operands]; done) | simp [Op.operands, Call.operands]) (by rw [HS.out]; decide)
        have e39 : a.tmps[39]?.getD undef = .int .i64 r := hl 39 (by first | (simp [Op.operands]; done) | simp [Op.operands, Call.operands]) (by rw [HS.out]; decide)
        clear hl
        go_simp
      refine HL.out _ _ (fun a' wz hc => ?_)
      have e40 : a'.eval (.tmp 40) = .bool true := hc.fact 40 (by rw [HS.out]; decide)
      have hstwz := hc.st
      have htuwz := hc.turned
      rw [HW.out] at htuwz
      have hfr := hc.frame [23, 24, 25, 26, 27, 28, 29, 30, 31, 32, 33, 34, 35, 36, 37, 38, 39, 40, 8] (by rw [HO.out]; kernel_rfl)
      rw [hfr]
      clear hfr hc
      rw [HA.out]
      clear HA HO HL HW HS HGW A0 A1 A5 A7
      clear A O W L
      simp only [List.drop_succ_cons, List.drop_zero, List.foldl_cons, List.foldl_nil, Act.put, List.setIfInBounds_toArray, List.set_cons_succ, List.set_cons_zero]
      rw [e40]
      generalize a'.eval (.tmp 23) = x23
      generalize a'.eval (.tmp 24) = x24
      generalize a'.eval (.tmp 25) = x25
      generalize a'.eval (.tmp 26) = x26
      generalize a'.eval (.tmp 27) = x27
      generalize a'.eval (.tmp 28) = x28
      generalize a'.eval (.tmp 29) = x29
      generalize a'.eval (.tmp 30) = x30
      generalize a'.eval (.tmp 31) = x31
      generalize a'.eval (.tmp 32) = x32
      generalize a'.eval (.tmp 33) = x33
      generalize a'.eval (.tmp 34) = x34
      generalize a'.eval (.tmp 35) = x35
      generalize a'.eval (.tmp 36) = x36
      generalize a'.eval (.tmp 37) = x37
      generalize a'.eval (.tmp 38) = x38
      generalize a'.eval (.tmp 39) = x39
      generalize a'.eval (.tmp 8) = x8
      clear e40
      clear a'
      have HBZ := hide (JBo.all hstwz)
      clear hstwz htuwz
      go_wp2_with fail
      go_meet
      case rel => exact ⟨rfl, _, _, HBZ.out, HSIM.out⟩
    have q3 : (x.kind == 3) = false := beq_eq_false_iff_ne.2 k3
    clear k3
    by_cases k4 : x.kind = 4
    · have q4 : (x.kind == 4) = true := by rw [k4]; rfl
      clear k4
      obtain ⟨r, hrE⟩ : ∃ r, r = S.appendE x.file x.d.length := ⟨_, rfl⟩
      obtain ⟨hans, hsim⟩ := hPs ▸ hPb ▸ HS.out.append x.file P
      have HSIM := hide hsim
      obtain ⟨S9, hS9⟩ : ∃ S9, S9 = S.append x.file x.d := ⟨_, rfl⟩
      obtain ⟨R9, hR9⟩ : ∃ R9, R9 = (appendR R x.file P).2 := ⟨_, rfl⟩
      rw [← hS9, ← hR9] at HSIM
      have HCP : Hid (∀ B0 (R2 : RS) (wx : World), Bo B0 Z2 g S q R2 wx → wx.ownsRow wa.heap.size 5 1 (.slice (some ⟨bp, 0, none⟩) x.d.length cp) x.d.length (u8s x.d) → Calls Try.prog 12 #[.pointer (some ⟨g, 0, none⟩), .int .i64 x.file, .slice (some ⟨bp, 0, none⟩) x.d.length cp] wx fun e w' => e = .returned (.int .i64 r) ∧ Bo B0 Z2 g S9 q R2 w') := hide fun B0 R2 wx hb hrow => by rw [hrE, hS9]; exact hb.pAppend HS.out (by have := HDD.out; omega) (by have := HKK.out; omega) x.file _ _ cp _ x.d (Rd.of_own hrow) (Nat.le_refl _) rfl (by have := HDD.out; omega)
      have HCD : Hid (∀ B0 (S2 : St) (wx : World), Bo B0 Z2 g S2 q R wx → Calls Try.prog 70 #[.pointer (some ⟨q, 0, none⟩), .int .i64 x.file, .string P] wx fun e w' => e = .returned (.int .i64 r) ∧ Bo B0 Z2 g S2 q R9 w') := hide fun B0 S2 wx hb => by rw [hrE, hans, hR9]; exact hb.dAppend HS.out (by have := HDD.out; omega) (by have := HKK.out; omega) x.file P (by rw [hPs]; have := HDD.out; omega)
      clear hans hsim hrE hS9 hR9
      have TL := hide (JBo.two w5 Z2 g q S S9 R R9)
      have HJ0 : Hid (JBo w5 Z2 g q S S9 R R9 (fun _ => false) w5.drew) := hide HB0.out.drew
      go_wp2_with fail
      refine wp_region_two' TL.out (fun _ => false) HJ0.out 14 (by kernel_rfl) (by kernel_rfl) ?_
      intro A O W L HA HO HW HL
      simp only [List.take_succ_cons, List.take_zero]
      have HS := hide (show A.tmps.size = 148 by rw [HA.out]; rfl)
      have HGW := hide (show w5.grownBy W none by rw [HW.out]; exact gb_drew (gb_refl w5 none))
      have A0 := hide (show A.eval (.tmp 0) = .pointer (some ⟨g, 0, none⟩) by rw [HA.out]; rfl)
      have A1 := hide (show A.eval (.tmp 1) = .pointer (some ⟨q, 0, none⟩) by rw [HA.out]; rfl)
      have A5 := hide (show A.eval (.tmp 5) = .pointer (some ⟨w.heap.size, 0, none⟩) by rw [HA.out]; rfl)
      have A7 := hide (show A.eval (.tmp 7) = .slice (some ⟨bp, 0, none⟩) x.d.length cp by rw [HA.out]; rfl)
      -- slot 43
      refine tFacts_lit TL.out (.pointer (some ⟨g, 0, none⟩)) rfl ?_ ?_
      · intro a wq hw hl
        have e0 : a.tmps[0]?.getD undef = .pointer (some ⟨g, 0, none⟩) := (hl 0 (by first | (simp [Op.operands]; done) | simp [Op.operands, Call.operands]) (by rw [HS.out]; decide)).trans A0.out
        clear hl
        go_simp
      -- slot 44
      refine tFacts_lit TL.out (.pointer (some ⟨w.heap.size, 3, none⟩)) rfl ?_ ?_
      · intro a wq hw hl
        have e5 : a.tmps[5]?.getD undef = .pointer (some ⟨w.heap.size, 0, none⟩) := (hl 5 (by first | (simp [Op.operands]; done) | simp [Op.operands, Call.operands]) (by rw [HS.out]; decide)).trans A5.out
        clear hl
        go_simp
      -- slot 45
      refine tFacts_lit TL.out (.int .i64 x.file) rfl ?_ ?_
      · intro a wq hw hl
        have e44 : a.tmps[44]?.getD undef = .pointer (some ⟨w.heap.size, 3, none⟩) := hl 44 (by first | (simp [Op.operands]; done) | simp [Op.operands, Call.operands]) (by rw [HS.out]; decide)
        have htz : Turned (fun i => ¬ Z2 i) w5 wq := (by have hw9 := hw; rw [HW.out] at hw9; exact hw9.of_drew)
        have hbX := (htz.block _ (blk_lt HBX.out) (fun hh => hh HZ1.out)).trans HBX.out
        have c0 : wq.cell? ⟨w.heap.size, 3, none⟩ = some (.int .i64 x.file) := by rw [blk_cell hbX]; rfl
        clear hbX
        clear hl
        go_simp
      -- slot 46
      refine tFacts_lit TL.out (.slice (some ⟨bp, 0, none⟩) x.d.length cp) rfl ?_ ?_
      · intro a wq hw hl
        have e7 : a.tmps[7]?.getD undef = .slice (some ⟨bp, 0, none⟩) x.d.length cp := (hl 7 (by first | (simp [Op.operands]; done) | simp [Op.operands, Call.operands]) (by rw [HS.out]; decide)).trans A7.out
        clear hl
        go_simp
      -- slot 47
      refine tFacts_write 0 (.int .i64 r) rfl rfl ?_ ?_
      · intro a wq bq hw hbq hjq hl
        have e43 : a.tmps[43]?.getD undef = .pointer (some ⟨g, 0, none⟩) := hl 43 (by first | (simp [Op.operands]; done) | simp [Op.operands, Call.operands]) (by rw [HS.out]; decide)
        have e45 : a.tmps[45]?.getD undef = .int .i64 x.file := hl 45 (by first | (simp [Op.operands]; done) | simp [Op.operands, Call.operands]) (by rw [HS.out]; decide)
        have e46 : a.tmps[46]?.getD undef = .slice (some ⟨bp, 0, none⟩) x.d.length cp := hl 46 (by first | (simp [Op.operands]; done) | simp [Op.operands, Call.operands]) (by rw [HS.out]; decide)
        have htz : Turned (fun i => ¬ Z2 i) w5 wq := (by have hw9 := hw; rw [HW.out] at hw9; exact hw9.of_drew)
        clear hl
        go_simp
        exact sUpon_call (JBo.p bq wq (fun B0 R2 hb => HCP.out B0 R2 wq hb (HROW.out wq htz)) hbq hjq)
      -- slot 48
      refine tFacts_step TL.out (.int .i64 r) rfl ?_ ?_
      · intro a wq hw hl
        have e47 : a.tmps[47]?.getD undef = .int .i64 r := hl 47 (by first | (simp [Op.operands]; done) | simp [Op.operands, Call.operands]) (by rw [HS.out]; decide)
        clear hl
        go_simp
        exact gUpon_lit ((num_any r wq).mono fun e w9 hx => ⟨hx.1, hx.2 ▸ gb_refl wq none⟩)
      -- slot 49
      refine tFacts_lit TL.out (.pointer (some ⟨q, 0, none⟩)) rfl ?_ ?_
      · intro a wq hw hl
        have e1 : a.tmps[1]?.getD undef = .pointer (some ⟨q, 0, none⟩) := (hl 1 (by first | (simp [Op.operands]; done) | simp [Op.operands, Call.operands]) (by rw [HS.out]; decide)).trans A1.out
        clear hl
        go_simp
      -- slot 50
      refine tFacts_lit TL.out (.pointer (some ⟨w.heap.size, 3, none⟩)) rfl ?_ ?_
      · intro a wq hw hl
        have e5 : a.tmps[5]?.getD undef = .pointer (some ⟨w.heap.size, 0, none⟩) := (hl 5 (by first | (simp [Op.operands]; done) | simp [Op.operands, Call.operands]) (by rw [HS.out]; decide)).trans A5.out
        clear hl
        go_simp
      -- slot 51
      refine tFacts_lit TL.out (.int .i64 x.file) rfl ?_ ?_
      · intro a wq hw hl
        have e50 : a.tmps[50]?.getD undef = .pointer (some ⟨w.heap.size, 3, none⟩) := hl 50 (by first | (simp [Op.operands]; done) | simp [Op.operands, Call.operands]) (by rw [HS.out]; decide)
        have htz : Turned (fun i => ¬ Z2 i) w5 wq := (by have hw9 := hw; rw [HW.out] at hw9; exact hw9.of_drew)
        have hbX := (htz.block _ (blk_lt HBX.out) (fun hh => hh HZ1.out)).trans HBX.out
        have c0 : wq.cell? ⟨w.heap.size, 3, none⟩ = some (.int .i64 x.file) := by rw [blk_cell hbX]; rfl
        clear hbX
        clear hl
        go_simp
      -- slot 52
      refine tFacts_lit TL.out (.pointer (some ⟨w.heap.size, 6, none⟩)) rfl ?_ ?_
      · intro a wq hw hl
        have e5 : a.tmps[5]?.getD undef = .pointer (some ⟨w.heap.size, 0, none⟩) := (hl 5 (by first | (simp [Op.operands]; done) | simp [Op.operands, Call.operands]) (by rw [HS.out]; decide)).trans A5.out
        clear hl
        go_simp
      -- slot 53
      refine tFacts_lit TL.out (.slice x.dA x.d.length x.dc) rfl ?_ ?_
      · intro a wq hw hl
        have e52 : a.tmps[52]?.getD undef = .pointer (some ⟨w.heap.size, 6, none⟩) := hl 52 (by first | (simp [Op.operands]; done) | simp [Op.operands, Call.operands]) (by rw [HS.out]; decide)
        have htz : Turned (fun i => ¬ Z2 i) w5 wq := (by have hw9 := hw; rw [HW.out] at hw9; exact hw9.of_drew)
        have hbX := (htz.block _ (blk_lt HBX.out) (fun hh => hh HZ1.out)).trans HBX.out
        have c0 : wq.cell? ⟨w.heap.size, 6, none⟩ = some (.slice x.dA x.d.length x.dc) := by rw [blk_cell hbX]; rfl
        clear hbX
        clear hl
        go_simp
      -- slot 54
      refine tFacts_lit TL.out (.string P) rfl ?_ ?_
      · intro a wq hw hl
        have e53 : a.tmps[53]?.getD undef = .slice x.dA x.d.length x.dc := hl 53 (by first | (simp [Op.operands]; done) | simp [Op.operands, Call.operands]) (by rw [HS.out]; decide)
        have htz : Turned (fun i => ¬ Z2 i) w5 wq := (by have hw9 := hw; rw [HW.out] at hw9; exact hw9.of_drew)
        have hst := hSTR wq (HRT.out wq htz)
        clear hl
        go_simp
      -- slot 55
      refine tFacts_write 1 (.int .i64 r) rfl rfl ?_ ?_
      · intro a wq bq hw hbq hjq hl
        have e49 : a.tmps[49]?.getD undef = .pointer (some ⟨q, 0, none⟩) := hl 49 (by first | (simp [Op.operands]; done) | simp [Op.operands, Call.operands]) (by rw [HS.out]; decide)
        have e51 : a.tmps[51]?.getD undef = .int .i64 x.file := hl 51 (by first | (simp [Op.operands]; done) | simp [Op.operands, Call.operands]) (by rw [HS.out]; decide)
        have e54 : a.tmps[54]?.getD undef = .string P := hl 54 (by first | (simp [Op.operands]; done) | simp [Op.operands, Call.operands]) (by rw [HS.out]; decide)
        have htz : Turned (fun i => ¬ Z2 i) w5 wq := (by have hw9 := hw; rw [HW.out] at hw9; exact hw9.of_drew)
        clear hl
        go_simp
        exact sUpon_call (JBo.d bq wq (fun B0 S2 hb => HCD.out B0 S2 wq hb) hbq hjq)
      -- slot 56
      refine tFacts_lit TL.out (.bool true) rfl ?_ ?_
      · intro a wq hw hl
        have e48 : a.tmps[48]?.getD undef = .int .i64 r := hl 48 (by first | (simp [Op.operands]; done) | simp [Op.operands, Call.operands]) (by rw [HS.out]; decide)
        have e55 : a.tmps[55]?.getD undef = .int .i64 r := hl 55 (by first | (simp [Op.operands]; done) | simp [Op.operands, Call.operands]) (by rw [HS.out]; decide)
        clear hl
        go_simp
      refine HL.out _ _ (fun a' wz hc => ?_)
      have e56 : a'.eval (.tmp 56) = .bool true := hc.fact 56 (by rw [HS.out]; decide)
      have hstwz := hc.st
      have htuwz := hc.turned
      rw [HW.out] at htuwz
      have hfr := hc.frame [43, 44, 45, 46, 47, 48, 49, 50, 51, 52, 53, 54, 55, 56, 8] (by rw [HO.out]; kernel_rfl)
      rw [hfr]
      clear hfr hc
      rw [HA.out]
      clear HA HO HL HW HS HGW A0 A1 A5 A7
      clear A O W L
      simp only [List.drop_succ_cons, List.drop_zero, List.foldl_cons, List.foldl_nil, Act.put, List.setIfInBounds_toArray, List.set_cons_succ, List.set_cons_zero]
      rw [e56]
      generalize a'.eval (.tmp 43) = x43
      generalize a'.eval (.tmp 44) = x44
      generalize a'.eval (.tmp 45) = x45
      generalize a'.eval (.tmp 46) = x46
      generalize a'.eval (.tmp 47) = x47
      generalize a'.eval (.tmp 48) = x48
      generalize a'.eval (.tmp 49) = x49
      generalize a'.eval (.tmp 50) = x50
      generalize a'.eval (.tmp 51) = x51
      generalize a'.eval (.tmp 52) = x52
      generalize a'.eval (.tmp 53) = x53
      generalize a'.eval (.tmp 54) = x54
      generalize a'.eval (.tmp 55) = x55
      generalize a'.eval (.tmp 8) = x8
      clear e56
      clear a'
      have HBZ := hide (JBo.all hstwz)
      clear hstwz htuwz
      go_wp2_with fail
      go_meet
      case rel => exact ⟨rfl, _, _, HBZ.out, HSIM.out⟩
    have q4 : (x.kind == 4) = false := beq_eq_false_iff_ne.2 k4
    clear k4
    by_cases k5 : x.kind = 5
    · have q5 : (x.kind == 5) = true := by rw [k5]; rfl
      clear k5
      obtain ⟨r, hrE⟩ : ∃ r, r = S.cutE x.file x.n := ⟨_, rfl⟩
      obtain ⟨hans, hsim⟩ := (fun h => ⟨h.1, h.2.mono (Nat.le_add_right _ _) (Nat.le_refl _)⟩ : _ ∧ Sim D (k + 1) _ _ → _ ∧ Sim (D + x.d.length) (k + 1) _ _) (HS.out.cut x.file x.n)
      have HSIM := hide hsim
      obtain ⟨S9, hS9⟩ : ∃ S9, S9 = S.cut x.file x.n := ⟨_, rfl⟩
      obtain ⟨R9, hR9⟩ : ∃ R9, R9 = (cutR R x.file x.n).2 := ⟨_, rfl⟩
      rw [← hS9, ← hR9] at HSIM
      have HCP : Hid (∀ B0 (R2 : RS) (wx : World), Bo B0 Z2 g S q R2 wx → Calls Try.prog 71 #[.pointer (some ⟨g, 0, none⟩), .int .i64 x.file, .int .i64 x.n] wx fun e w' => e = .returned (.int .i64 r) ∧ Bo B0 Z2 g S9 q R2 w') := hide fun B0 R2 wx hb => by rw [hrE, hS9]; exact hb.pCut HS.out (by have := HDD.out; omega) (by have := HKK.out; omega) x.file x.n
      have HCD : Hid (∀ B0 (S2 : St) (wx : World), Bo B0 Z2 g S2 q R wx → Calls Try.prog 72 #[.pointer (some ⟨q, 0, none⟩), .int .i64 x.file, .int .i64 x.n] wx fun e w' => e = .returned (.int .i64 r) ∧ Bo B0 Z2 g S2 q R9 w') := hide fun B0 S2 wx hb => by rw [hrE, hans, hR9]; exact hb.dCut HS.out (by have := HDD.out; omega) (by have := HKK.out; omega) x.file x.n
      clear hans hsim hrE hS9 hR9
      have TL := hide (JBo.two w5 Z2 g q S S9 R R9)
      have HJ0 : Hid (JBo w5 Z2 g q S S9 R R9 (fun _ => false) w5.drew) := hide HB0.out.drew
      go_wp2_with fail
      refine wp_region_two' TL.out (fun _ => false) HJ0.out 14 (by kernel_rfl) (by kernel_rfl) ?_
      intro A O W L HA HO HW HL
      simp only [List.take_succ_cons, List.take_zero]
      have HS := hide (show A.tmps.size = 148 by rw [HA.out]; rfl)
      have HGW := hide (show w5.grownBy W none by rw [HW.out]; exact gb_drew (gb_refl w5 none))
      have A0 := hide (show A.eval (.tmp 0) = .pointer (some ⟨g, 0, none⟩) by rw [HA.out]; rfl)
      have A1 := hide (show A.eval (.tmp 1) = .pointer (some ⟨q, 0, none⟩) by rw [HA.out]; rfl)
      have A5 := hide (show A.eval (.tmp 5) = .pointer (some ⟨w.heap.size, 0, none⟩) by rw [HA.out]; rfl)
      -- slot 59
      refine tFacts_lit TL.out (.pointer (some ⟨g, 0, none⟩)) rfl ?_ ?_
      · intro a wq hw hl
        have e0 : a.tmps[0]?.getD undef = .pointer (some ⟨g, 0, none⟩) := (hl 0 (by first | (simp [Op.operands]; done) | simp [Op.operands, Call.operands]) (by rw [HS.out]; decide)).trans A0.out
        clear hl
        go_simp
      -- slot 60
      refine tFacts_lit TL.out (.pointer (some ⟨w.heap.size, 3, none⟩)) rfl ?_ ?_
      · intro a wq hw hl
        have e5 : a.tmps[5]?.getD undef = .pointer (some ⟨w.heap.size, 0, none⟩) := (hl 5 (by first | (simp [Op.operands]; done) | simp [Op.operands, Call.operands]) (by rw [HS.out]; decide)).trans A5.out
        clear hl
        go_simp
      -- slot 61
      refine tFacts_lit TL.out (.int .i64 x.file) rfl ?_ ?_
      · intro a wq hw hl
        have e60 : a.tmps[60]?.getD undef = .pointer (some ⟨w.heap.size, 3, none⟩) := hl 60 (by first | (simp [Op.operands]; done) | simp [Op.operands, Call.operands]) (by rw [HS.out]; decide)
        have htz : Turned (fun i => ¬ Z2 i) w5 wq := (by have hw9 := hw; rw [HW.out] at hw9; exact hw9.of_drew)
        have hbX := (htz.block _ (blk_lt HBX.out) (fun hh => hh HZ1.out)).trans HBX.out
        have c0 : wq.cell? ⟨w.heap.size, 3, none⟩ = some (.int .i64 x.file) := by rw [blk_cell hbX]; rfl
        clear hbX
        clear hl
        go_simp
      -- slot 62
      refine tFacts_lit TL.out (.pointer (some ⟨w.heap.size, 5, none⟩)) rfl ?_ ?_
      · intro a wq hw hl
        have e5 : a.tmps[5]?.getD undef = .pointer (some ⟨w.heap.size, 0, none⟩) := (hl 5 (by first | (simp [Op.operands]; done) | simp [Op.operands, Call.operands]) (by rw [HS.out]; decide)).trans A5.out
        clear hl
        go_simp
      -- slot 63
      refine tFacts_lit TL.out (.int .i64 x.n) rfl ?_ ?_
      · intro a wq hw hl
        have e62 : a.tmps[62]?.getD undef = .pointer (some ⟨w.heap.size, 5, none⟩) := hl 62 (by first | (simp [Op.operands]; done) | simp [Op.operands, Call.operands]) (by rw [HS.out]; decide)
        have htz : Turned (fun i => ¬ Z2 i) w5 wq := (by have hw9 := hw; rw [HW.out] at hw9; exact hw9.of_drew)
        have hbX := (htz.block _ (blk_lt HBX.out) (fun hh => hh HZ1.out)).trans HBX.out
        have c0 : wq.cell? ⟨w.heap.size, 5, none⟩ = some (.int .i64 x.n) := by rw [blk_cell hbX]; rfl
        clear hbX
        clear hl
        go_simp
      -- slot 64
      refine tFacts_write 0 (.int .i64 r) rfl rfl ?_ ?_
      · intro a wq bq hw hbq hjq hl
        have e59 : a.tmps[59]?.getD undef = .pointer (some ⟨g, 0, none⟩) := hl 59 (by first | (simp [Op.operands]; done) | simp [Op.operands, Call.operands]) (by rw [HS.out]; decide)
        have e61 : a.tmps[61]?.getD undef = .int .i64 x.file := hl 61 (by first | (simp [Op.operands]; done) | simp [Op.operands, Call.operands]) (by rw [HS.out]; decide)
        have e63 : a.tmps[63]?.getD undef = .int .i64 x.n := hl 63 (by first | (simp [Op.operands]; done) | simp [Op.operands, Call.operands]) (by rw [HS.out]; decide)
        have htz : Turned (fun i => ¬ Z2 i) w5 wq := (by have hw9 := hw; rw [HW.out] at hw9; exact hw9.of_drew)
        clear hl
        go_simp
        exact sUpon_call (JBo.p bq wq (fun B0 R2 hb => HCP.out B0 R2 wq hb) hbq hjq)
      -- slot 65
      refine tFacts_step TL.out (.int .i64 r) rfl ?_ ?_
      · intro a wq hw hl
        have e64 : a.tmps[64]?.getD undef = .int .i64 r := hl 64 (by first | (simp [Op.operands]; done) | simp [Op.operands, Call.operands]) (by rw [HS.out]; decide)
        clear hl
        go_simp
        exact gUpon_lit ((num_any r wq).mono fun e w9 hx => ⟨hx.1, hx.2 ▸ gb_refl wq none⟩)
      -- slot 66
      refine tFacts_lit TL.out (.pointer (some ⟨q, 0, none⟩)) rfl ?_ ?_
      · intro a wq hw hl
        have e1 : a.tmps[1]?.getD undef = .pointer (some ⟨q, 0, none⟩) := (hl 1 (by first | (simp [Op.operands]; done) | simp [Op.operands, Call.operands]) (by rw [HS.out]; decide)).trans A1.out
        clear hl
        go_simp
      -- slot 67
      refine tFacts_lit TL.out (.pointer (some ⟨w.heap.size, 3, none⟩)) rfl ?_ ?_
      · intro a wq hw hl
        have e5 : a.tmps[5]?.getD undef = .pointer (some ⟨w.heap.size, 0, none⟩) := (hl 5 (by first | (simp [Op.operands]; done) | simp [Op.operands, Call.operands]) (by rw [HS.out]; decide)).trans A5.out
        clear hl
        go_simp
      -- slot 68
      refine tFacts_lit TL.out (.int .i64 x.file) rfl ?_ ?_
      · intro a wq hw hl
        have e67 : a.tmps[67]?.getD undef = .pointer (some ⟨w.heap.size, 3, none⟩) := hl 67 (by first | (simp [Op.operands]; done) | simp [Op.operands, Call.operands]) (by rw [HS.out]; decide)
        have htz : Turned (fun i => ¬ Z2 i) w5 wq := (by have hw9 := hw; rw [HW.out] at hw9; exact hw9.of_drew)
        have hbX := (htz.block _ (blk_lt HBX.out) (fun hh => hh HZ1.out)).trans HBX.out
        have c0 : wq.cell? ⟨w.heap.size, 3, none⟩ = some (.int .i64 x.file) := by rw [blk_cell hbX]; rfl
        clear hbX
        clear hl
        go_simp
      -- slot 69
      refine tFacts_lit TL.out (.pointer (some ⟨w.heap.size, 5, none⟩)) rfl ?_ ?_
      · intro a wq hw hl
        have e5 : a.tmps[5]?.getD undef = .pointer (some ⟨w.heap.size, 0, none⟩) := (hl 5 (by first | (simp [Op.operands]; done) | simp [Op.operands, Call.operands]) (by rw [HS.out]; decide)).trans A5.out
        clear hl
        go_simp
      -- slot 70
      refine tFacts_lit TL.out (.int .i64 x.n) rfl ?_ ?_
      · intro a wq hw hl
        have e69 : a.tmps[69]?.getD undef = .pointer (some ⟨w.heap.size, 5, none⟩) := hl 69 (by first | (simp [Op.operands]; done) | simp [Op.operands, Call.operands]) (by rw [HS.out]; decide)
        have htz : Turned (fun i => ¬ Z2 i) w5 wq := (by have hw9 := hw; rw [HW.out] at hw9; exact hw9.of_drew)
        have hbX := (htz.block _ (blk_lt HBX.out) (fun hh => hh HZ1.out)).trans HBX.out
        have c0 : wq.cell? ⟨w.heap.size, 5, none⟩ = some (.int .i64 x.n) := by rw [blk_cell hbX]; rfl
        clear hbX
        clear hl
        go_simp
      -- slot 71
      refine tFacts_write 1 (.int .i64 r) rfl rfl ?_ ?_
      · intro a wq bq hw hbq hjq hl
        have e66 : a.tmps[66]?.getD undef = .pointer (some ⟨q, 0, none⟩) := hl 66 (by first | (simp [Op.operands]; done) | simp [Op.operands, Call.operands]) (by rw [HS.out]; decide)
        have e68 : a.tmps[68]?.getD undef = .int .i64 x.file := hl 68 (by first | (simp [Op.operands]; done) | simp [Op.operands, Call.operands]) (by rw [HS.out]; decide)
        have e70 : a.tmps[70]?.getD undef = .int .i64 x.n := hl 70 (by first | (simp [Op.operands]; done) | simp [Op.operands, Call.operands]) (by rw [HS.out]; decide)
        have htz : Turned (fun i => ¬ Z2 i) w5 wq := (by have hw9 := hw; rw [HW.out] at hw9; exact hw9.of_drew)
        clear hl
        go_simp
        exact sUpon_call (JBo.d bq wq (fun B0 S2 hb => HCD.out B0 S2 wq hb) hbq hjq)
      -- slot 72
      refine tFacts_lit TL.out (.bool true) rfl ?_ ?_
      · intro a wq hw hl
        have e65 : a.tmps[65]?.getD undef = .int .i64 r := hl 65 (by first | (simp [Op.operands]; done) | simp [Op.operands, Call.operands]) (by rw [HS.out]; decide)
        have e71 : a.tmps[71]?.getD undef = .int .i64 r := hl 71 (by first | (simp [Op.operands]; done) | simp [Op.operands, Call.operands]) (by rw [HS.out]; decide)
        clear hl
        go_simp
      refine HL.out _ _ (fun a' wz hc => ?_)
      have e72 : a'.eval (.tmp 72) = .bool true := hc.fact 72 (by rw [HS.out]; decide)
      have hstwz := hc.st
      have htuwz := hc.turned
      rw [HW.out] at htuwz
      have hfr := hc.frame [59, 60, 61, 62, 63, 64, 65, 66, 67, 68, 69, 70, 71, 72, 8] (by rw [HO.out]; kernel_rfl)
      rw [hfr]
      clear hfr hc
      rw [HA.out]
      clear HA HO HL HW HS HGW A0 A1 A5
      clear A O W L
      simp only [List.drop_succ_cons, List.drop_zero, List.foldl_cons, List.foldl_nil, Act.put, List.setIfInBounds_toArray, List.set_cons_succ, List.set_cons_zero]
      rw [e72]
      generalize a'.eval (.tmp 59) = x59
      generalize a'.eval (.tmp 60) = x60
      generalize a'.eval (.tmp 61) = x61
      generalize a'.eval (.tmp 62) = x62
      generalize a'.eval (.tmp 63) = x63
      generalize a'.eval (.tmp 64) = x64
      generalize a'.eval (.tmp 65) = x65
      generalize a'.eval (.tmp 66) = x66
      generalize a'.eval (.tmp 67) = x67
      generalize a'.eval (.tmp 68) = x68
      generalize a'.eval (.tmp 69) = x69
      generalize a'.eval (.tmp 70) = x70
      generalize a'.eval (.tmp 71) = x71
      generalize a'.eval (.tmp 8) = x8
      clear e72
      clear a'
      have HBZ := hide (JBo.all hstwz)
      clear hstwz htuwz
      go_wp2_with fail
      go_meet
      case rel => exact ⟨rfl, _, _, HBZ.out, HSIM.out⟩
    have q5 : (x.kind == 5) = false := beq_eq_false_iff_ne.2 k5
    clear k5
    by_cases k6 : x.kind = 6
    · have q6 : (x.kind == 6) = true := by rw [k6]; rfl
      clear k6
      obtain ⟨X, hX⟩ : ∃ X, X = (readR R x.file x.pos x.n).1 := ⟨_, rfl⟩
      obtain ⟨E, hE⟩ : ∃ E, E = (readR R x.file x.pos x.n).2 := ⟨_, rfl⟩
      have hRP := HB0.out.pRead HS.out (by have := HDD.out; omega) (by have := HKK.out; omega) x.file x.pos x.n
      have hRD := fun wx (hx : w5.grownBy wx none) => (HB0.out.keep hx).dRead HS.out (by have := HDD.out; omega) (by have := HKK.out; omega) x.file x.pos x.n
      rw [← hX, ← hE] at hRP hRD
      have QRP := hide hRP
      have QRD := hide hRD
      clear hX hE hRP hRD
      go_wp2_with (first
        | (go_at_call 10; refine (num_any _ _).mono ?_; rintro e wx ⟨rfl, rfl⟩)
        | (go_at_call 73; refine (QRD.out _ HG6.out).mono ?_; rintro e w7 ⟨rfl, hg7⟩; have HG7 := hide (gb_trans HG6.out hg7 (.inl rfl)); have HG67 := hide hg7; have hst := (by have := str8 ((bs_rd HB6.out).grown hg7 (Nat.le_refl _) (by simp)) (n := X.size) (c := c6) (bl_len X).symm; rwa [bl_back] at this : (convert 32 9 (.slice A6 X.size c6)).run Try.prog w7 = .ok (.string X) w7); clear hg7)
        | (go_at_call 17; refine QRP.out.mono ?_; rintro e w6 ⟨A6, c6, rfl, hb6, hg6⟩; have HG6 := hide hg6; have HB6 := hide hb6; have hbx := blk_keep HBX.out hg6 (by simp); have e3 : w6.cell? ⟨w.heap.size, 3, none⟩ = some (.int .i64 x.file) := (by { rw [blk_cell hbx]; rfl }); have e4 : w6.cell? ⟨w.heap.size, 4, none⟩ = some (.int .i64 x.pos) := (by { rw [blk_cell hbx]; rfl }); have e5 : w6.cell? ⟨w.heap.size, 5, none⟩ = some (.int .i64 x.n) := (by { rw [blk_cell hbx]; rfl }); clear hg6 hb6 hbx))
      by_cases hm : X.size = 0
      · rw [hm]
        go_loopw [13] (fun i wr => i = .int .i64 0 ∧ wr = w7) (fun _ _ => 0)
        case atStart => exact ⟨rfl, rfl⟩
        case round =>
          obtain ⟨rfl, rfl⟩ := hrel
          go_wp2_with fail
          go_meet
          case rel => exact ⟨rfl, _, _, HB0.out.keep HG7.out, HS.out.mono (Nat.le_add_right _ _) (Nat.le_succ _)⟩
      · obtain ⟨gx, cs, hA6, hgo, hgh, hgt, hgs⟩ := bs_block HB6.out hm
        subst hA6
        have HGO := hide hgo
        have HGS := hide hgs
        have HGH7 := hide (blk_keep hgh HG67.out (by simp))
        have HPX : Hid (Bo w6 (fun i => Z2 i ∨ i = gx) g S q R w7) := hide ((HB0.out.protect (N := fun i => i = gx) HG6.out (fun i hi => by subst hi; exact hgo)).keep HG67.out)
        have HXL : Hid (X.size ≤ 9223372036854775807) := hide hgs.2
        have HGT := hide hgt
        clear hgo hgh hgs hgt
        go_loopw [13] (fun i wr => ∃ (j : Nat) (ds : Array Value), i = .int .i64 (j : Int) ∧ j ≤ X.size ∧ ds.size = cs.size ∧ wr.heap[gx]? = some (.cells ds 5 (0, 0)) ∧ (∀ k, j ≤ k → k < X.size → ds[k]? = cs[k]?) ∧ Turned (fun i => i = gx) w7 wr) (fun i _ => X.size - (intOf i).toNat)
        case atStart => exact ⟨0, cs, rfl, Nat.zero_le _, rfl, HGH7.out, fun _ _ _ => rfl, Turned.refl _ _⟩
        case round =>
          obtain ⟨j, ds, rfl, hj, hds, hh, hk2, hT⟩ := hrel
          have HJ := hide hj
          have HDS := hide hds
          have HH := hide hh
          have HK2 := hide hk2
          have HT := hide hT
          by_cases hlt : j < X.size
          · have hlt1 : (j : Int) < (X.size : Int) := by omega
            have h6 : IntKind.i64.wrap ((j : Int) + 1) = ((j + 1 : Nat) : Int) := by rw [IntKind.wrap_i64]; have := HXL.out; omega
            obtain ⟨b, hb⟩ : ∃ b : UInt8, cs[j]? = some (.int .u8 (b.toNat : Int)) := HGT.out j hlt
            have hc : wr.cell? ⟨gx, j, none⟩ = some (.int .u8 (b.toNat : Int)) := by rw [blk_cell hh, hk2 j (Nat.le_refl _) hlt, hb]
            have hz := blk_frozen hh j
            have HLT := hide hlt
            clear hj hds hh hk2 hT hlt hb
            go_wp2_with fail
            go_roundw
            case rel => exact ⟨j + 1, _, by go_num, HLT.out, by rw [Array.size_setIfInBounds]; exact HDS.out, blk_set HH.out j _, fun k h1 h2 => by rw [Array.getElem?_setIfInBounds_ne (by omega)]; exact HK2.out k (by omega) h2, HT.out.trans (tg_set _ gx j _) (fun i _ hi => hi)⟩
            case measure => have := HLT.out; clear h6; simp [intOf]; omega
          · have hje : j = X.size := by omega
            have hlt1 : ¬ (j : Int) < (X.size : Int) := by omega
            clear hj hds hh hk2 hT
            go_wp2_with fail
            go_meet
            case rel =>
              refine ⟨rfl, S, R, ?_, HS.out.mono (Nat.le_add_right _ _) (Nat.le_succ _)⟩
              have h1 := HPX.out.touch HT.out (fun i hi => .inr hi)
              have hTT : Turned (fun i => ¬ Z2 i) w5 wr := (Turned.of_gb (M := fun i => ¬ Z2 i) HG7.out (by simp)).trans HT.out (fun i hl hi hz => by
                have := HGO.out.1
                omega)
              exact h1.back hTT fun i hi => ⟨.inl hi, HB0.out.zlt hi⟩
    have q6 : (x.kind == 6) = false := beq_eq_false_iff_ne.2 k6
    clear k6
    by_cases k7 : x.kind = 7
    · have q7 : (x.kind == 7) = true := by rw [k7]; rfl
      clear k7
      obtain ⟨r, hrE⟩ : ∃ r, r = S.syncE x.file := ⟨_, rfl⟩
      obtain ⟨hans, hsim⟩ := (fun h => ⟨h.1, h.2.mono (Nat.le_add_right _ _) (Nat.le_refl _)⟩ : _ ∧ Sim D (k + 1) _ _ → _ ∧ Sim (D + x.d.length) (k + 1) _ _) (HS.out.sync x.file)
      have HSIM := hide hsim
      obtain ⟨S9, hS9⟩ : ∃ S9, S9 = S.sync x.file := ⟨_, rfl⟩
      obtain ⟨R9, hR9⟩ : ∃ R9, R9 = (syncR R x.file).2 := ⟨_, rfl⟩
      rw [← hS9, ← hR9] at HSIM
      have HCP : Hid (∀ B0 (R2 : RS) (wx : World), Bo B0 Z2 g S q R2 wx → Calls Try.prog 13 #[.pointer (some ⟨g, 0, none⟩), .int .i64 x.file] wx fun e w' => e = .returned (.int .i64 r) ∧ Bo B0 Z2 g S9 q R2 w') := hide fun B0 R2 wx hb => by rw [hrE, hS9]; exact hb.pSync HS.out (by have := HDD.out; omega) (by have := HKK.out; omega) x.file
      have HCD : Hid (∀ B0 (S2 : St) (wx : World), Bo B0 Z2 g S2 q R wx → Calls Try.prog 74 #[.pointer (some ⟨q, 0, none⟩), .int .i64 x.file] wx fun e w' => e = .returned (.int .i64 r) ∧ Bo B0 Z2 g S2 q R9 w') := hide fun B0 S2 wx hb => by rw [hrE, hans, hR9]; exact hb.dSync HS.out (by have := HDD.out; omega) (by have := HKK.out; omega) x.file
      clear hans hsim hrE hS9 hR9
      have TL := hide (JBo.two w5 Z2 g q S S9 R R9)
      have HJ0 : Hid (JBo w5 Z2 g q S S9 R R9 (fun _ => false) w5.drew) := hide HB0.out.drew
      go_wp2_with fail
      refine wp_region_two' TL.out (fun _ => false) HJ0.out 10 (by kernel_rfl) (by kernel_rfl) ?_
      intro A O W L HA HO HW HL
      simp only [List.take_succ_cons, List.take_zero]
      have HS := hide (show A.tmps.size = 148 by rw [HA.out]; rfl)
      have HGW := hide (show w5.grownBy W none by rw [HW.out]; exact gb_drew (gb_refl w5 none))
      have A0 := hide (show A.eval (.tmp 0) = .pointer (some ⟨g, 0, none⟩) by rw [HA.out]; rfl)
      have A1 := hide (show A.eval (.tmp 1) = .pointer (some ⟨q, 0, none⟩) by rw [HA.out]; rfl)
      have A5 := hide (show A.eval (.tmp 5) = .pointer (some ⟨w.heap.size, 0, none⟩) by rw [HA.out]; rfl)
      -- slot 123
      refine tFacts_lit TL.out (.pointer (some ⟨g, 0, none⟩)) rfl ?_ ?_
      · intro a wq hw hl
        have e0 : a.tmps[0]?.getD undef = .pointer (some ⟨g, 0, none⟩) := (hl 0 (by first | (simp [Op.operands]; done) | simp [Op.operands, Call.operands]) (by rw [HS.out]; decide)).trans A0.out
        clear hl
        go_simp
      -- slot 124
      refine tFacts_lit TL.out (.pointer (some ⟨w.heap.size, 3, none⟩)) rfl ?_ ?_
      · intro a wq hw hl
        have e5 : a.tmps[5]?.getD undef = .pointer (some ⟨w.heap.size, 0, none⟩) := (hl 5 (by first | (simp [Op.operands]; done) | simp [Op.operands, Call.operands]) (by rw [HS.out]; decide)).trans A5.out
        clear hl
        go_simp
      -- slot 125
      refine tFacts_lit TL.out (.int .i64 x.file) rfl ?_ ?_
      · intro a wq hw hl
        have e124 : a.tmps[124]?.getD undef = .pointer (some ⟨w.heap.size, 3, none⟩) := hl 124 (by first | (simp [Op.operands]; done) | simp [Op.operands, Call.operands]) (by rw [HS.out]; decide)
        have htz : Turned (fun i => ¬ Z2 i) w5 wq := (by have hw9 := hw; rw [HW.out] at hw9; exact hw9.of_drew)
        have hbX := (htz.block _ (blk_lt HBX.out) (fun hh => hh HZ1.out)).trans HBX.out
        have c0 : wq.cell? ⟨w.heap.size, 3, none⟩ = some (.int .i64 x.file) := by rw [blk_cell hbX]; rfl
        clear hbX
        clear hl
        go_simp
      -- slot 126
      refine tFacts_write 0 (.int .i64 r) rfl rfl ?_ ?_
      · intro a wq bq hw hbq hjq hl
        have e123 : a.tmps[123]?.getD undef = .pointer (some ⟨g, 0, none⟩) := hl 123 (by first | (simp [Op.operands]; done) | simp [Op.operands, Call.operands]) (by rw [HS.out]; decide)
        have e125 : a.tmps[125]?.getD undef = .int .i64 x.file := hl 125 (by first | (simp [Op.operands]; done) | simp [Op.operands, Call.operands]) (by rw [HS.out]; decide)
        have htz : Turned (fun i => ¬ Z2 i) w5 wq := (by have hw9 := hw; rw [HW.out] at hw9; exact hw9.of_drew)
        clear hl
        go_simp
        exact sUpon_call (JBo.p bq wq (fun B0 R2 hb => HCP.out B0 R2 wq hb) hbq hjq)
      -- slot 127
      refine tFacts_step TL.out (.int .i64 r) rfl ?_ ?_
      · intro a wq hw hl
        have e126 : a.tmps[126]?.getD undef = .int .i64 r := hl 126 (by first | (simp [Op.operands]; done) | simp [Op.operands, Call.operands]) (by rw [HS.out]; decide)
        clear hl
        go_simp
        exact gUpon_lit ((num_any r wq).mono fun e w9 hx => ⟨hx.1, hx.2 ▸ gb_refl wq none⟩)
      -- slot 128
      refine tFacts_lit TL.out (.pointer (some ⟨q, 0, none⟩)) rfl ?_ ?_
      · intro a wq hw hl
        have e1 : a.tmps[1]?.getD undef = .pointer (some ⟨q, 0, none⟩) := (hl 1 (by first | (simp [Op.operands]; done) | simp [Op.operands, Call.operands]) (by rw [HS.out]; decide)).trans A1.out
        clear hl
        go_simp
      -- slot 129
      refine tFacts_lit TL.out (.pointer (some ⟨w.heap.size, 3, none⟩)) rfl ?_ ?_
      · intro a wq hw hl
        have e5 : a.tmps[5]?.getD undef = .pointer (some ⟨w.heap.size, 0, none⟩) := (hl 5 (by first | (simp [Op.operands]; done) | simp [Op.operands, Call.operands]) (by rw [HS.out]; decide)).trans A5.out
        clear hl
        go_simp
      -- slot 130
      refine tFacts_lit TL.out (.int .i64 x.file) rfl ?_ ?_
      · intro a wq hw hl
        have e129 : a.tmps[129]?.getD undef = .pointer (some ⟨w.heap.size, 3, none⟩) := hl 129 (by first | (simp [Op.operands]; done) | simp [Op.operands, Call.operands]) (by rw [HS.out]; decide)
        have htz : Turned (fun i => ¬ Z2 i) w5 wq := (by have hw9 := hw; rw [HW.out] at hw9; exact hw9.of_drew)
        have hbX := (htz.block _ (blk_lt HBX.out) (fun hh => hh HZ1.out)).trans HBX.out
        have c0 : wq.cell? ⟨w.heap.size, 3, none⟩ = some (.int .i64 x.file) := by rw [blk_cell hbX]; rfl
        clear hbX
        clear hl
        go_simp
      -- slot 131
      refine tFacts_write 1 (.int .i64 r) rfl rfl ?_ ?_
      · intro a wq bq hw hbq hjq hl
        have e128 : a.tmps[128]?.getD undef = .pointer (some ⟨q, 0, none⟩) := hl 128 (by first | (simp [Op.operands]; done) | simp [Op.operands, Call.operands]) (by rw [HS.out]; decide)
        have e130 : a.tmps[130]?.getD undef = .int .i64 x.file := hl 130 (by first | (simp [Op.operands]; done) | simp [Op.operands, Call.operands]) (by rw [HS.out]; decide)
        have htz : Turned (fun i => ¬ Z2 i) w5 wq := (by have hw9 := hw; rw [HW.out] at hw9; exact hw9.of_drew)
        clear hl
        go_simp
        exact sUpon_call (JBo.d bq wq (fun B0 S2 hb => HCD.out B0 S2 wq hb) hbq hjq)
      -- slot 132
      refine tFacts_lit TL.out (.bool true) rfl ?_ ?_
      · intro a wq hw hl
        have e127 : a.tmps[127]?.getD undef = .int .i64 r := hl 127 (by first | (simp [Op.operands]; done) | simp [Op.operands, Call.operands]) (by rw [HS.out]; decide)
        have e131 : a.tmps[131]?.getD undef = .int .i64 r := hl 131 (by first | (simp [Op.operands]; done) | simp [Op.operands, Call.operands]) (by rw [HS.out]; decide)
        clear hl
        go_simp
      refine HL.out _ _ (fun a' wz hc => ?_)
      have e132 : a'.eval (.tmp 132) = .bool true := hc.fact 132 (by rw [HS.out]; decide)
      have hstwz := hc.st
      have htuwz := hc.turned
      rw [HW.out] at htuwz
      have hfr := hc.frame [123, 124, 125, 126, 127, 128, 129, 130, 131, 132, 8] (by rw [HO.out]; kernel_rfl)
      rw [hfr]
      clear hfr hc
      rw [HA.out]
      clear HA HO HL HW HS HGW A0 A1 A5
      clear A O W L
      simp only [List.drop_succ_cons, List.drop_zero, List.foldl_cons, List.foldl_nil, Act.put, List.setIfInBounds_toArray, List.set_cons_succ, List.set_cons_zero]
      rw [e132]
      generalize a'.eval (.tmp 123) = x123
      generalize a'.eval (.tmp 124) = x124
      generalize a'.eval (.tmp 125) = x125
      generalize a'.eval (.tmp 126) = x126
      generalize a'.eval (.tmp 127) = x127
      generalize a'.eval (.tmp 128) = x128
      generalize a'.eval (.tmp 129) = x129
      generalize a'.eval (.tmp 130) = x130
      generalize a'.eval (.tmp 131) = x131
      generalize a'.eval (.tmp 8) = x8
      clear e132
      clear a'
      have HBZ := hide (JBo.all hstwz)
      clear hstwz htuwz
      go_wp2_with fail
      go_meet
      case rel => exact ⟨rfl, _, _, HBZ.out, HSIM.out⟩
    have q7 : (x.kind == 7) = false := beq_eq_false_iff_ne.2 k7
    clear k7
    go_wp2_with fail
    go_meet
    case rel => exact ⟨rfl, _, _, HB0.out, HS.out.mono (Nat.le_add_right _ _) (Nat.le_succ _)⟩
  case rest =>
    obtain ⟨rfl, S2, R2, hb, hsim⟩ := hcut
    have HBC := hide hb
    have HSC := hide hsim
    clear hb hsim
    have hrow := HROW.out wc HBC.out.turned
    have HRW : Hid (wc.ownsRow wa.heap.size 5 1 (.slice (some ⟨bp, 0, none⟩) x.d.length cp) x.d.length ([] ++ (u8s x.d).drop 0)) := hide (by rw [List.nil_append, List.drop_zero]; exact hrow)
    clear hrow
    go_wp2_with fail
    go_loopw [14] (fun i wr => ∃ (j : Nat) (ys : List Value), i = .int .i64 (j : Int) ∧ j ≤ x.d.length ∧ ys.length = j ∧ wr.ownsRow wa.heap.size 5 1 (.slice (some ⟨bp, 0, none⟩) x.d.length cp) x.d.length (ys ++ (u8s x.d).drop j) ∧ Turned (fun i => i = bp) wc wr) (fun i _ => x.d.length - (intOf i).toNat)
    case atStart => exact ⟨0, [], rfl, Nat.zero_le _, rfl, HRW.out, Turned.refl _ _⟩
    case round =>
      obtain ⟨j, ys, rfl, hj, hy, hrow, hT⟩ := hrel
      have HJ := hide hj
      have HY := hide hy
      have HRO := hide hrow
      have HT := hide hT
      by_cases hlt : j < x.d.length
      · have hlt1 : (j : Int) < (x.d.length : Int) := by omega
        have h6 : IntKind.i64.wrap ((j : Int) + 1) = ((j + 1 : Nat) : Int) := by rw [IntKind.wrap_i64]; have := HDD.out; omega
        obtain ⟨b, hb⟩ : ∃ b, b = x.d[j] := ⟨_, rfl⟩
        have hc := hrow.cellAt j (by omega)
        rw [List.getElem?_append_right (by omega), hy, Nat.sub_self, List.getElem?_drop, Nat.add_zero] at hc
        have hc2 : (u8s x.d)[j]? = some (.int .u8 (b.toNat : Int)) := by unfold u8s; rw [List.getElem?_map, List.getElem?_eq_getElem hlt, ← hb]; rfl
        rw [hc2] at hc
        have hz := hrow.frozenAt j
        have HLT := hide hlt
        have HC2 := hide hc2
        clear hj hy hrow hT hlt hb hc2
        go_wp2_with fail
        go_roundw
        case rel => exact ⟨j + 1, _, by go_num, HLT.out, by rw [List.length_append, HY.out]; rfl, row_next HRO.out HY.out (by simp [u8s]; exact HLT.out) _, HT.out.trans (tg_set _ bp j _) (fun i _ hi => hi)⟩
        case measure => have := HLT.out; clear h6; simp [intOf]; omega
      · have hje : j = x.d.length := by omega
        have hlt1 : ¬ (j : Int) < (x.d.length : Int) := by omega
        clear hj hy hrow hT
        go_wp2_with fail
        go_ret
        refine ⟨rfl, S2, R2, ?_, HSC.out⟩
        have h1 := HBC.out.touch HT.out (fun i hi => by rw [hi]; exact HZB.out)
        have hTT : Turned (fun i => ¬ Z i) w0 wr := ((H.out.turned.trans (Turned.of_gb (M := fun _ => False) HG5.out (by simp)) (fun _ _ h => h.elim)).trans HBC.out.turned (fun i _ hi hz => hi (HZL.out i hz))).trans HT.out (fun i hl hi hz => by
          have := H.out.zlt hz
          have := HP1.out
          have := HZA.out
          have := H.out.size
          omega)
        exact h1.back hTT fun i hi => ⟨HZL.out i hi, H.out.zlt hi⟩
end Go.Proofs.Ytccapgcpdehicaa
