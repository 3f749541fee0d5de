/-
  The law's act: whatever is done, on both.
-/
import Derived.Test.YtccapgcpdehicaaQbb
import Derived.Test.YtccapgcpdehicaaQao
import Derived.Test.YtccapgcpdehicaaQbc
import Derived.Test.YtccapgcpdehicaaQan

namespace Go.Proofs.Ytccapgcpdehicaa
open Go.RowKit
attribute [local go_sem ↓] Go.wp_at_zero Go.wp_at_succ

section
variable {D k : Nat} {S : St} {R : RS}
theorem Sim.open_ (h : Sim D k S R) (a : ByteArray) : openVal S a = (if nameR R a = 0 ∧ 0 ≤ atR R.d a then ((R.d.getD (atR R.d a).toNat ⟨⟨#[]⟩, 0⟩).n : Int) else 0) ∧ askErr S [a] a = (if nameR R a = 0 then (if 0 ≤ atR R.d a then 0 else 7) else nameR R a) := by
  have e0 : ∀ E, askErr S [a] a = E → E ≠ 0 → openVal S a = 0 := fun E h1 h2 => by unfold openVal; rw [h1, if_neg h2]
  cases ho : R.off
  · cases hno : nameOk a
    · have e1 : askErr S [a] a = 20 := by unfold askErr; rw [h.dead, ho, List.all_cons, hno]; rfl
      rw [e0 _ e1 (by decide), e1, nameR_bad ho hno]
      exact ⟨rfl, rfl⟩
    · rw [nameR_ok ho hno]
      have e2 : [a].all nameOk = true := by rw [List.all_cons, hno]; rfl
      rcases h.names.at_cases a with ⟨q1, q2, q3⟩ | ⟨j, hj, q1, q2, q3⟩
      · have e1 : askErr S [a] a = 7 := by unfold askErr; rw [h.dead, ho, e2, q2]; rfl
        rw [e0 _ e1 (by decide), e1, q1]
        exact ⟨rfl, rfl⟩
      · have e1 : askErr S [a] a = 0 := by unfold askErr; rw [h.dead, ho, e2, q2]; rfl
        have e3 : openVal S a = (R.d[j].n : Int) := by unfold openVal; rw [e1, if_pos rfl, q2]; rfl
        have e4 : R.d.getD j ⟨⟨#[]⟩, 0⟩ = R.d[j] := by rw [List.getD_eq_getElem?_getD, List.getElem?_eq_getElem hj]; rfl
        rw [e3, e1, q1, if_pos ⟨rfl, by omega⟩, if_pos rfl, if_pos (by omega), show ((j : Int)).toNat = j from rfl, e4]
        exact ⟨rfl, rfl⟩
  · have e1 : askErr S [a] a = 21 := by unfold askErr; rw [h.dead, ho]; rfl
    rw [e0 _ e1 (by decide), e1, nameR_off ho]
    exact ⟨rfl, rfl⟩
end
theorem Nx.back {w0 w wa wz : World} {Z Z2 : Nat → Prop} {g g2 q D k : Nat} {S : St} {R : RS} (h : Nx wa Z2 g2 q D k wz) (hw : Bo w0 Z g S q R w) (hg : w.grownBy wa none) (hZ : ∀ i, Z i → Z2 i) : Nx w0 Z g2 q D k wz := by
  obtain ⟨S', R', h1, h2⟩ := h
  exact ⟨S', R', h1.back (hw.turned.trans (Turned.of_gb (M := fun _ => False) hg (by simp)) (fun _ _ h => h.elim)) (fun i hi => ⟨hZ i hi, hw.zlt hi⟩), h2⟩
/-- A wreck's list that was laid anew. -/
theorem tn_new {wa w5 : World} {A : Option Addr} {n c : Nat} {tl : List Tn} (ho : w5.ownsRow 0 50 3 (.slice A n c) n (tcells tl)) (hg : (wa.alloc (.cells #[] 50)).grownBy w5 (some wa.heap.size))
    (hb : (Value.slice A n c).ownBlock = some wa.heap.size ∨ (Value.slice A n c).ownBlock = some (wa.alloc (.cells #[] 50)).heap.size) :
    wa.grownBy w5 none ∧ Rd w5 w5.heap.size A (tcells tl) ∧ (∀ a, A = some a → wa.heap.size ≤ a.block) ∧ (n ≤ c ∧ c ≤ maxLen) := by
  refine ⟨gb_trans (gb_alloc (gb_refl wa none) (.cells #[] 50)) hg (.inr (.inr ⟨_, rfl, Nat.le_refl _⟩)), Rd.of_own ho, fun a ha => ?_, own_cap ho⟩
  subst ha
  rcases hb with hb | hb
  · have e : a.block = wa.heap.size := by injection hb
    omega
  · have e : a.block = (wa.alloc (.cells #[] 50)).heap.size := by injection hb
    rw [e]
    simp
theorem tn_crash {P : Ending → World → Prop} {g n m c : Nat} {d : Int} {A : Option Addr} {w : World} (h : Calls Try.prog 16 #[.pointer (some ⟨g, 0, none⟩), .agg #[.int .i64 d, .slice A m c]] w P) (hn : m = n) : Calls Try.prog 16 #[.pointer (some ⟨g, 0, none⟩), .agg #[.int .i64 d, .slice A n c]] w P := by rw [← hn]; exact h

set_option maxHeartbeats 8000000 in
set_option maxRecDepth 100000 in
theorem act_any {w0 : World} {Z : Nat → Prop} {g q : Nat} {S : St} {R : RS} {D k B : Nat} (x : AcV) (tl : List Tn) (w : World) (h : Bo w0 Z g S q R w) (hs : Sim D k S R) (hD : D + x.d.length ≤ 20000) (hk : k ≤ 800)
    (hr : Rd w0 B x.dA (u8s x.d)) (hB : B ≤ w0.heap.size) (hZ : ∀ i, i < B → Z i) (htl : tl.length = x.tn) (htr : Rd w0 B x.tA (tcells tl)) (htb : x.tn ≤ 20000) (hn : x.n ≤ 9223372036854775807) :
    Calls Try.prog 22 #[.pointer (some ⟨g, 0, none⟩), .pointer (some ⟨q, 0, none⟩), .agg #[.int .i64 x.kind, .string x.a, .string x.b, .int .i64 x.file, .int .i64 x.pos, .int .i64 x.n, .slice x.dA x.d.length x.dc, .int .i64 x.dir, .slice x.tA x.tn x.tc]] w fun e w' => ∃ g', e = .returned (.tuple #[.pointer (some ⟨g', 0, none⟩), .bool true]) ∧ (x.kind ≠ 14 → g' = g) ∧ Nx w0 Z g' q (D + x.d.length) (k + 1) w' := by
  obtain ⟨wa, hwa⟩ : ∃ wa, wa = w.alloc (.cells (x.cells.toArray) 37) := ⟨_, rfl⟩
  have hga : w.grownBy wa none := by rw [hwa]; exact gb_alloc (gb_refl w none) _
  have hba : wa.heap[w.heap.size]? = some (.cells x.cells.toArray 37 (0, 0)) := by rw [hwa]; exact heap_alloc_new w _
  obtain ⟨Z2, hZ2⟩ : ∃ Z2 : Nat → Prop, Z2 = fun i => Z i ∨ i = w.heap.size := ⟨_, rfl⟩
  have hB0 : Bo wa Z2 g S q R wa := by
    rw [hZ2]
    exact h.protect hga fun i hi => by subst hi; exact ⟨Nat.le_refl _, blk_lt hba⟩
  have HB0 := hide hB0
  have HBX := hide hba
  have HWE := hide hwa
  have HWA := hide hga
  have H := hide h
  have HS := hide hs
  have HDD := hide hD
  have HKK := hide hk
  have HZ1 : Hid (Z2 w.heap.size) := hide (by rw [hZ2]; exact .inr rfl)
  have HZL : Hid (∀ i, Z i → Z2 i) := hide fun i hi => by rw [hZ2]; exact .inl hi
  have HZB : Hid (∀ i, i < B → Z2 i) := hide fun i hi => by rw [hZ2]; exact .inl (hZ i hi)
  have HBL : Hid (B ≤ wa.heap.size) := hide (Nat.le_trans (Nat.le_trans hB h.size) hga.size)
  have HRR : Hid (Rd wa B x.dA (u8s x.d)) := hide ((hr.ofZ h hZ).grown hga (Nat.le_trans hB h.size) (by simp))
  have HTR : Hid (Rd wa B x.tA (tcells tl)) := hide ((htr.ofZ h hZ).grown hga (Nat.le_trans hB h.size) (by simp))
  have HTN := hide htl
  have HTB := hide htb
  have HNX := hide hn
  have e0 : wa.cell? ⟨w.heap.size, 0, none⟩ = some (.int .i64 x.kind) := by rw [blk_cell hba]; rfl
  have e1 : wa.cell? ⟨w.heap.size, 1, none⟩ = some (.string x.a) := by rw [blk_cell hba]; rfl
  have e2 : wa.cell? ⟨w.heap.size, 2, none⟩ = some (.string x.b) := by rw [blk_cell hba]; rfl
  have e3 : wa.cell? ⟨w.heap.size, 3, none⟩ = some (.int .i64 x.file) := by rw [blk_cell hba]; rfl
  have e4 : wa.cell? ⟨w.heap.size, 4, none⟩ = some (.int .i64 x.pos) := by rw [blk_cell hba]; rfl
  have e5 : wa.cell? ⟨w.heap.size, 5, none⟩ = some (.int .i64 x.n) := by rw [blk_cell hba]; rfl
  have e6 : wa.cell? ⟨w.heap.size, 6, none⟩ = some (.slice x.dA x.d.length x.dc) := by rw [blk_cell hba]; rfl
  have e7 : wa.cell? ⟨w.heap.size, 7, none⟩ = some (.int .i64 x.dir) := by rw [blk_cell hba]; rfl
  have e8 : wa.cell? ⟨w.heap.size, 8, none⟩ = some (.slice x.tA x.tn x.tc) := by rw [blk_cell hba]; rfl
  clear h hs hD hk hr hB hZ hwa hga hba hB0 hZ2 htl htr htb hn
  go_enter Try.func22, Try.ntmps22
  go_upto_region 1 with fail
  rw [← show x.cells.toArray = #[.int .i64 x.kind, .string x.a, .string x.b, .int .i64 x.file, .int .i64 x.pos, .int .i64 x.n, .slice x.dA x.d.length x.dc, .int .i64 x.dir, .slice x.tA x.tn x.tc] from rfl, ← HWE.out]
  by_cases k1 : x.kind = 1
  · have q1 : (x.kind == 1) = true := by rw [k1]; rfl
    clear k1
    obtain ⟨p, hp⟩ : ∃ p, p = createVal S x.a := ⟨_, rfl⟩
    obtain ⟨r, hr⟩ : ∃ r, r = createErr S x.a := ⟨_, rfl⟩
    obtain ⟨k1, k2, k3⟩ := HS.out.create x.a
    have QP := HB0.out.pCreate HS.out (by have := HDD.out; omega) (by have := HKK.out; omega) x.a
    rw [← hp, ← hr] at QP
    have QP := hide QP
    have QD : Hid (∀ wx S2, Bo wa Z2 g S2 q R wx → Calls Try.prog 40 #[.pointer (some ⟨q, 0, none⟩), .string x.a] wx fun e w' => e = .returned (.tuple #[.int .i64 p, .int .i64 r]) ∧ Bo wa Z2 g S2 q (createR R x.a).2 w') := hide fun wx S2 hb => by
      have := hb.dCreate HS.out (by have := HDD.out; omega) (by have := HKK.out; omega) x.a
      rwa [← k1, ← k2, ← hp, ← hr] at this
    have HSM : Hid (Sim (D + x.d.length) (k + 1) _ _) := hide (k3.mono (Nat.le_add_right _ _) (Nat.le_refl _))
    clear hp hr k1 k2 k3
    go_wp2_with (first
      | (go_at_call 40; refine (QD.out _ _ HB6.out).mono ?_; rintro e w7 ⟨rfl, hb⟩; have HB7 := hide hb; have hbx := (hb.block HZ1.out).trans HBX.out; have e0 : w7.cell? ⟨w.heap.size, 0, none⟩ = some (.int .i64 x.kind) := (by { rw [blk_cell hbx]; rfl }); have e1 : w7.cell? ⟨w.heap.size, 1, none⟩ = some (.string x.a) := (by { rw [blk_cell hbx]; rfl }); have e2 : w7.cell? ⟨w.heap.size, 2, none⟩ = some (.string x.b) := (by { rw [blk_cell hbx]; rfl }); have e3 : w7.cell? ⟨w.heap.size, 3, none⟩ = some (.int .i64 x.file) := (by { rw [blk_cell hbx]; rfl }); have e4 : w7.cell? ⟨w.heap.size, 4, none⟩ = some (.int .i64 x.pos) := (by { rw [blk_cell hbx]; rfl }); have e5 : w7.cell? ⟨w.heap.size, 5, none⟩ = some (.int .i64 x.n) := (by { rw [blk_cell hbx]; rfl }); have e6 : w7.cell? ⟨w.heap.size, 6, none⟩ = some (.slice x.dA x.d.length x.dc) := (by { rw [blk_cell hbx]; rfl }); have e7 : w7.cell? ⟨w.heap.size, 7, none⟩ = some (.int .i64 x.dir) := (by { rw [blk_cell hbx]; rfl }); have e8 : w7.cell? ⟨w.heap.size, 8, none⟩ = some (.slice x.tA x.tn x.tc) := (by { rw [blk_cell hbx]; rfl }); clear hb hbx)
      | (go_at_call 11; refine (QP.out).mono ?_; rintro e w6 ⟨rfl, hb⟩; have HB6 := hide hb; have hbx := (hb.block HZ1.out).trans HBX.out; have e0 : w6.cell? ⟨w.heap.size, 0, none⟩ = some (.int .i64 x.kind) := (by { rw [blk_cell hbx]; rfl }); have e1 : w6.cell? ⟨w.heap.size, 1, none⟩ = some (.string x.a) := (by { rw [blk_cell hbx]; rfl }); have e2 : w6.cell? ⟨w.heap.size, 2, none⟩ = some (.string x.b) := (by { rw [blk_cell hbx]; rfl }); have e3 : w6.cell? ⟨w.heap.size, 3, none⟩ = some (.int .i64 x.file) := (by { rw [blk_cell hbx]; rfl }); have e4 : w6.cell? ⟨w.heap.size, 4, none⟩ = some (.int .i64 x.pos) := (by { rw [blk_cell hbx]; rfl }); have e5 : w6.cell? ⟨w.heap.size, 5, none⟩ = some (.int .i64 x.n) := (by { rw [blk_cell hbx]; rfl }); have e6 : w6.cell? ⟨w.heap.size, 6, none⟩ = some (.slice x.dA x.d.length x.dc) := (by { rw [blk_cell hbx]; rfl }); have e7 : w6.cell? ⟨w.heap.size, 7, none⟩ = some (.int .i64 x.dir) := (by { rw [blk_cell hbx]; rfl }); have e8 : w6.cell? ⟨w.heap.size, 8, none⟩ = some (.slice x.tA x.tn x.tc) := (by { rw [blk_cell hbx]; rfl }); clear hb hbx)
      | (go_at_call 10; refine (num_any _ _).mono ?_; rintro e wx ⟨rfl, rfl⟩))
    have HN : Hid (Nx wa Z2 g q (D + x.d.length) (k + 1) w7) := hide ⟨_, _, HB7.out, HSM.out⟩
    go_ret2
    exact ⟨g, rfl, fun _ => rfl, Nx.back HN.out H.out HWA.out HZL.out⟩
  have q1 : (x.kind == 1) = false := beq_eq_false_iff_ne.2 k1
  clear k1
  by_cases k2 : x.kind = 2
  · have q2 : (x.kind == 2) = true := by rw [k2]; rfl
    clear k2
    obtain ⟨p, hp⟩ : ∃ p, p = openVal S x.a := ⟨_, rfl⟩
    obtain ⟨r, hr⟩ : ∃ r, r = askErr S [x.a] x.a := ⟨_, rfl⟩
    obtain ⟨k1, k2⟩ := HS.out.open_ x.a
    have QP := HB0.out.pOpen x.a
    rw [← hp, ← hr] at QP
    have QP := hide QP
    have QD : Hid (∀ wx, Bo wa Z2 g S q R wx → Calls Try.prog 42 #[.pointer (some ⟨q, 0, none⟩), .string x.a] wx fun e w' => e = .returned (.tuple #[.int .i64 p, .int .i64 r]) ∧ Bo wa Z2 g S q R w') := hide fun wx hb => by
      have := hb.dOpen x.a
      rwa [← k1, ← k2, ← hp, ← hr] at this
    clear hp hr k1 k2
    go_wp2_with (first
      | (go_at_call 42; refine (QD.out _ HB6.out).mono ?_; rintro e w7 ⟨rfl, hb⟩; have HB7 := hide hb; have hbx := (hb.block HZ1.out).trans HBX.out; have e0 : w7.cell? ⟨w.heap.size, 0, none⟩ = some (.int .i64 x.kind) := (by { rw [blk_cell hbx]; rfl }); have e1 : w7.cell? ⟨w.heap.size, 1, none⟩ = some (.string x.a) := (by { rw [blk_cell hbx]; rfl }); have e2 : w7.cell? ⟨w.heap.size, 2, none⟩ = some (.string x.b) := (by { rw [blk_cell hbx]; rfl }); have e3 : w7.cell? ⟨w.heap.size, 3, none⟩ = some (.int .i64 x.file) := (by { rw [blk_cell hbx]; rfl }); have e4 : w7.cell? ⟨w.heap.size, 4, none⟩ = some (.int .i64 x.pos) := (by { rw [blk_cell hbx]; rfl }); have e5 : w7.cell? ⟨w.heap.size, 5, none⟩ = some (.int .i64 x.n) := (by { rw [blk_cell hbx]; rfl }); have e6 : w7.cell? ⟨w.heap.size, 6, none⟩ = some (.slice x.dA x.d.length x.dc) := (by { rw [blk_cell hbx]; rfl }); have e7 : w7.cell? ⟨w.heap.size, 7, none⟩ = some (.int .i64 x.dir) := (by { rw [blk_cell hbx]; rfl }); have e8 : w7.cell? ⟨w.heap.size, 8, none⟩ = some (.slice x.tA x.tn x.tc) := (by { rw [blk_cell hbx]; rfl }); clear hb hbx)
      | (go_at_call 41; refine (QP.out).mono ?_; rintro e w6 ⟨rfl, hb⟩; have HB6 := hide hb; have hbx := (hb.block HZ1.out).trans HBX.out; have e0 : w6.cell? ⟨w.heap.size, 0, none⟩ = some (.int .i64 x.kind) := (by { rw [blk_cell hbx]; rfl }); have e1 : w6.cell? ⟨w.heap.size, 1, none⟩ = some (.string x.a) := (by { rw [blk_cell hbx]; rfl }); have e2 : w6.cell? ⟨w.heap.size, 2, none⟩ = some (.string x.b) := (by { rw [blk_cell hbx]; rfl }); have e3 : w6.cell? ⟨w.heap.size, 3, none⟩ = some (.int .i64 x.file) := (by { rw [blk_cell hbx]; rfl }); have e4 : w6.cell? ⟨w.heap.size, 4, none⟩ = some (.int .i64 x.pos) := (by { rw [blk_cell hbx]; rfl }); have e5 : w6.cell? ⟨w.heap.size, 5, none⟩ = some (.int .i64 x.n) := (by { rw [blk_cell hbx]; rfl }); have e6 : w6.cell? ⟨w.heap.size, 6, none⟩ = some (.slice x.dA x.d.length x.dc) := (by { rw [blk_cell hbx]; rfl }); have e7 : w6.cell? ⟨w.heap.size, 7, none⟩ = some (.int .i64 x.dir) := (by { rw [blk_cell hbx]; rfl }); have e8 : w6.cell? ⟨w.heap.size, 8, none⟩ = some (.slice x.tA x.tn x.tc) := (by { rw [blk_cell hbx]; rfl }); clear hb hbx)
      | (go_at_call 10; refine (num_any _ _).mono ?_; rintro e wx ⟨rfl, rfl⟩))
    have HN : Hid (Nx wa Z2 g q (D + x.d.length) (k + 1) w7) := hide ⟨_, _, HB7.out, HS.out.mono (Nat.le_add_right _ _) (Nat.le_succ _)⟩
    go_ret2
    exact ⟨g, rfl, fun _ => rfl, Nx.back HN.out H.out HWA.out HZL.out⟩
  have q2 : (x.kind == 2) = false := beq_eq_false_iff_ne.2 k2
  clear k2
  by_cases k8 : x.kind = 8
  · have q8 : (x.kind == 8) = true := by rw [k8]; rfl
    clear k8
    obtain ⟨r, hrE⟩ : ∃ r, r = askErr S [x.a, x.b] x.a := ⟨_, rfl⟩
    obtain ⟨hans, hsim⟩ := (⟨(HS.out.rename x.a x.b).1, (HS.out.rename x.a x.b).2.1⟩ : _ ∧ _)
    have HSIM : Hid (Sim (D + x.d.length) (k + 1) _ _) := hide (hsim.mono (Nat.le_add_right _ _) (Nat.le_refl _))
    obtain ⟨S9, hS9⟩ : ∃ S9, S9 = S.rename x.a x.b := ⟨_, rfl⟩
    obtain ⟨R9, hR9⟩ : ∃ R9, R9 = (renameR R x.a x.b).2 := ⟨_, rfl⟩
    rw [← hS9, ← hR9] at HSIM
    have HCP : Hid (∀ B0 (R2 : RS) (wx : World), Bo B0 Z2 g S q R2 wx → Calls Try.prog 43 #[.pointer (some ⟨g, 0, none⟩), .string x.a, .string x.b] wx fun e w' => e = .returned (.int .i64 r) ∧ Bo B0 Z2 g S9 q R2 w') := hide fun B0 R2 wx hb => by rw [hrE, hS9]; exact hb.pRename HS.out (by have := HDD.out; omega) (by have := HKK.out; omega) x.a x.b
    have HCD : Hid (∀ B0 (S2 : St) (wx : World), Bo B0 Z2 g S2 q R wx → Calls Try.prog 44 #[.pointer (some ⟨q, 0, none⟩), .string x.a, .string x.b] wx fun e w' => e = .returned (.int .i64 r) ∧ Bo B0 Z2 g S2 q R9 w') := hide fun B0 S2 wx hb => by rw [hrE, hans, hR9]; exact hb.dRename HS.out (by have := HDD.out; omega) (by have := HKK.out; omega) x.a x.b
    clear hans hsim hrE hS9 hR9
    have TL := hide (JBo.two wa Z2 g q S S9 R R9)
    have HJ0 : Hid (JBo wa Z2 g q S S9 R R9 (fun _ => false) wa.drew) := hide HB0.out.drew
    go_wp2_with fail
    refine wp_region_two' TL.out (fun _ => false) HJ0.out 16 (by kernel_rfl) (by kernel_rfl) ?_
    intro A O W L HA HO HW HL
    simp only [List.take_succ_cons, List.take_zero]
    have HS := hide (show A.tmps.size = 185 by rw [HA.out]; rfl)
    have HGW := hide (show wa.grownBy W none by rw [HW.out]; exact gb_drew (gb_refl wa none))
    have A0 := hide (show A.eval (.tmp 0) = .pointer (some ⟨g, 0, none⟩) by rw [HA.out]; rfl)
    have A1 := hide (show A.eval (.tmp 1) = .pointer (some ⟨q, 0, none⟩) by rw [HA.out]; rfl)
    have A5 := hide (show A.eval (.tmp 5) = .pointer (some ⟨w.heap.size, 0, none⟩) by rw [HA.out]; rfl)
    -- slot 73
    refine tFacts_lit TL.out (.pointer (some ⟨g, 0, none⟩)) rfl ?_ ?_
    · intro a wq hw hl
      have e0 : a.tmps[0]?.getD undef = .pointer (some ⟨g, 0, none⟩) := (hl 0 (by first | (simp [Op.operands]; done) | simp [Op.operands, Call.operands]) (by rw [HS.out]; decide)).trans A0.out
      clear hl
      go_simp
    -- slot 74
    refine tFacts_lit TL.out (.pointer (some ⟨g, 0, none⟩)) rfl ?_ ?_
    · intro a wq hw hl
      have e0 : a.tmps[0]?.getD undef = .pointer (some ⟨g, 0, none⟩) := (hl 0 (by first | (simp [Op.operands]; done) | simp [Op.operands, Call.operands]) (by rw [HS.out]; decide)).trans A0.out
      clear hl
      go_simp
    -- slot 75
    refine tFacts_lit TL.out (.pointer (some ⟨w.heap.size, 1, none⟩)) rfl ?_ ?_
    · intro a wq hw hl
      have e5 : a.tmps[5]?.getD undef = .pointer (some ⟨w.heap.size, 0, none⟩) := (hl 5 (by first | (simp [Op.operands]; done) | simp [Op.operands, Call.operands]) (by rw [HS.out]; decide)).trans A5.out
      clear hl
      go_simp
    -- slot 76
    refine tFacts_lit TL.out (.string x.a) rfl ?_ ?_
    · intro a wq hw hl
      have e75 : a.tmps[75]?.getD undef = .pointer (some ⟨w.heap.size, 1, none⟩) := hl 75 (by first | (simp [Op.operands]; done) | simp [Op.operands, Call.operands]) (by rw [HS.out]; decide)
      have htz : Turned (fun i => ¬ Z2 i) wa wq := (by have hw9 := hw; rw [HW.out] at hw9; exact hw9.of_drew)
      have hbX := (htz.block _ (blk_lt HBX.out) (fun hh => hh HZ1.out)).trans HBX.out
      have c0 : wq.cell? ⟨w.heap.size, 1, none⟩ = some (.string x.a) := by rw [blk_cell hbX]; rfl
      clear hbX
      clear hl
      go_simp
    -- slot 77
    refine tFacts_lit TL.out (.pointer (some ⟨w.heap.size, 2, none⟩)) rfl ?_ ?_
    · intro a wq hw hl
      have e5 : a.tmps[5]?.getD undef = .pointer (some ⟨w.heap.size, 0, none⟩) := (hl 5 (by first | (simp [Op.operands]; done) | simp [Op.operands, Call.operands]) (by rw [HS.out]; decide)).trans A5.out
      clear hl
      go_simp
    -- slot 78
    refine tFacts_lit TL.out (.string x.b) rfl ?_ ?_
    · intro a wq hw hl
      have e77 : a.tmps[77]?.getD undef = .pointer (some ⟨w.heap.size, 2, none⟩) := hl 77 (by first | (simp [Op.operands]; done) | simp [Op.operands, Call.operands]) (by rw [HS.out]; decide)
      have htz : Turned (fun i => ¬ Z2 i) wa wq := (by have hw9 := hw; rw [HW.out] at hw9; exact hw9.of_drew)
      have hbX := (htz.block _ (blk_lt HBX.out) (fun hh => hh HZ1.out)).trans HBX.out
      have c0 : wq.cell? ⟨w.heap.size, 2, none⟩ = some (.string x.b) := by rw [blk_cell hbX]; rfl
      clear hbX
      clear hl
      go_simp
    -- slot 79
    refine tFacts_write 0 (.int .i64 r) rfl rfl ?_ ?_
    · intro a wq bq hw hbq hjq hl
      have e74 : a.tmps[74]?.getD undef = .pointer (some ⟨g, 0, none⟩) := hl 74 (by first | (simp [Op.operands]; done) | simp [Op.operands, Call.operands]) (by rw [HS.out]; decide)
      have e76 : a.tmps[76]?.getD undef = .string x.a := hl 76 (by first | (simp [Op.operands]; done) | simp [Op.operands, Call.operands]) (by rw [HS.out]; decide)
      have e78 : a.tmps[78]?.getD undef = .string x.b := hl 78 (by first | (simp [Op.operands]; done) | simp [Op.operands, Call.operands]) (by rw [HS.out]; decide)
      clear hl
      go_simp
      exact sUpon_call (JBo.p bq wq (fun B0 R2 hb => HCP.out B0 R2 wq hb) hbq hjq)
    -- slot 80
    refine tFacts_step TL.out (.int .i64 r) rfl ?_ ?_
    · intro a wq hw hl
      have e79 : a.tmps[79]?.getD undef = .int .i64 r := hl 79 (by first | (simp [Op.operands]; done) | simp [Op.operands, Call.operands]) (by rw [HS.out]; decide)
      clear hl
      go_simp
      exact gUpon_lit ((num_any r wq).mono fun e w9 hx => ⟨hx.1, hx.2 ▸ gb_refl wq none⟩)
    -- slot 81
    refine tFacts_lit TL.out (.pointer (some ⟨q, 0, none⟩)) rfl ?_ ?_
    · intro a wq hw hl
      have e1 : a.tmps[1]?.getD undef = .pointer (some ⟨q, 0, none⟩) := (hl 1 (by first | (simp [Op.operands]; done) | simp [Op.operands, Call.operands]) (by rw [HS.out]; decide)).trans A1.out
      clear hl
      go_simp
    -- slot 82
    refine tFacts_lit TL.out (.pointer (some ⟨w.heap.size, 1, none⟩)) rfl ?_ ?_
    · intro a wq hw hl
      have e5 : a.tmps[5]?.getD undef = .pointer (some ⟨w.heap.size, 0, none⟩) := (hl 5 (by first | (simp [Op.operands]; done) | simp [Op.operands, Call.operands]) (by rw [HS.out]; decide)).trans A5.out
      clear hl
      go_simp
    -- slot 83
    refine tFacts_lit TL.out (.string x.a) rfl ?_ ?_
    · intro a wq hw hl
      have e82 : a.tmps[82]?.getD undef = .pointer (some ⟨w.heap.size, 1, none⟩) := hl 82 (by first | (simp [Op.operands]; done) | simp [Op.operands, Call.operands]) (by rw [HS.out]; decide)
      have htz : Turned (fun i => ¬ Z2 i) wa wq := (by have hw9 := hw; rw [HW.out] at hw9; exact hw9.of_drew)
      have hbX := (htz.block _ (blk_lt HBX.out) (fun hh => hh HZ1.out)).trans HBX.out
      have c0 : wq.cell? ⟨w.heap.size, 1, none⟩ = some (.string x.a) := by rw [blk_cell hbX]; rfl
      clear hbX
      clear hl
      go_simp
    -- slot 84
    refine tFacts_lit TL.out (.pointer (some ⟨w.heap.size, 2, none⟩)) rfl ?_ ?_
    · intro a wq hw hl
      have e5 : a.tmps[5]?.getD undef = .pointer (some ⟨w.heap.size, 0, none⟩) := (hl 5 (by first | (simp [Op.operands]; done) | simp [Op.operands, Call.operands]) (by rw [HS.out]; decide)).trans A5.out
      clear hl
      go_simp
    -- slot 85
    refine tFacts_lit TL.out (.string x.b) rfl ?_ ?_
    · intro a wq hw hl
      have e84 : a.tmps[84]?.getD undef = .pointer (some ⟨w.heap.size, 2, none⟩) := hl 84 (by first | (simp [Op.operands]; done) | simp [Op.operands, Call.operands]) (by rw [HS.out]; decide)
      have htz : Turned (fun i => ¬ Z2 i) wa wq := (by have hw9 := hw; rw [HW.out] at hw9; exact hw9.of_drew)
      have hbX := (htz.block _ (blk_lt HBX.out) (fun hh => hh HZ1.out)).trans HBX.out
      have c0 : wq.cell? ⟨w.heap.size, 2, none⟩ = some (.string x.b) := by rw [blk_cell hbX]; rfl
      clear hbX
      clear hl
      go_simp
    -- slot 86
    refine tFacts_write 1 (.int .i64 r) rfl rfl ?_ ?_
    · intro a wq bq hw hbq hjq hl
      have e81 : a.tmps[81]?.getD undef = .pointer (some ⟨q, 0, none⟩) := hl 81 (by first | (simp [Op.operands]; done) | simp [Op.operands, Call.operands]) (by rw [HS.out]; decide)
      have e83 : a.tmps[83]?.getD undef = .string x.a := hl 83 (by first | (simp [Op.operands]; done) | simp [Op.operands, Call.operands]) (by rw [HS.out]; decide)
      have e85 : a.tmps[85]?.getD undef = .string x.b := hl 85 (by first | (simp [Op.operands]; done) | simp [Op.operands, Call.operands]) (by rw [HS.out]; decide)
      clear hl
      go_simp
      exact sUpon_call (JBo.d bq wq (fun B0 S2 hb => HCD.out B0 S2 wq hb) hbq hjq)
    -- slot 87
    refine tFacts_lit TL.out (.bool true) rfl ?_ ?_
    · intro a wq hw hl
      have e80 : a.tmps[80]?.getD undef = .int .i64 r := hl 80 (by first | (simp [Op.operands]; done) | simp [Op.operands, Call.operands]) (by rw [HS.out]; decide)
      have e86 : a.tmps[86]?.getD undef = .int .i64 r := hl 86 (by first | (simp [Op.operands]; done) | simp [Op.operands, Call.operands]) (by rw [HS.out]; decide)
      clear hl
      go_simp
    -- slot 6
    refine tFacts_lit TL.out (.pointer (some ⟨g, 0, none⟩)) rfl ?_ ?_
    · intro a wq hw hl
      have e73 : a.tmps[73]?.getD undef = .pointer (some ⟨g, 0, none⟩) := hl 73 (by first | (simp [Op.operands]; done) | simp [Op.operands, Call.operands]) (by rw [HS.out]; decide)
      clear hl
      go_simp
    refine HL.out _ _ (fun a' wz hc => ?_)
    have e6 : a'.eval (.tmp 6) = .pointer (some ⟨g, 0, none⟩) := hc.fact 6 (by rw [HS.out]; decide)
    have e87 : a'.eval (.tmp 87) = .bool true := hc.fact 87 (by rw [HS.out]; decide)
    have hstwz := hc.st
    have htuwz := hc.turned
    rw [HW.out] at htuwz
    have hfr := hc.frame [73, 74, 75, 76, 77, 78, 79, 80, 81, 82, 83, 84, 85, 86, 87, 6, 7] (by rw [HO.out]; kernel_rfl)
    rw [hfr]
    clear hfr hc
    rw [HA.out]
    clear HA HO HL HW HS HGW A0 A1 A5
    clear A O W L
    simp only [List.drop_succ_cons, List.drop_zero, List.foldl_cons, List.foldl_nil, Act.put, List.setIfInBounds_toArray, List.set_cons_succ, List.set_cons_zero]
    rw [e6, e87]
    generalize a'.eval (.tmp 73) = x73
    generalize a'.eval (.tmp 74) = x74
    generalize a'.eval (.tmp 75) = x75
    generalize a'.eval (.tmp 76) = x76
    generalize a'.eval (.tmp 77) = x77
    generalize a'.eval (.tmp 78) = x78
    generalize a'.eval (.tmp 79) = x79
    generalize a'.eval (.tmp 80) = x80
    generalize a'.eval (.tmp 81) = x81
    generalize a'.eval (.tmp 82) = x82
    generalize a'.eval (.tmp 83) = x83
    generalize a'.eval (.tmp 84) = x84
    generalize a'.eval (.tmp 85) = x85
    generalize a'.eval (.tmp 86) = x86
    generalize a'.eval (.tmp 7) = x7
    clear e6 e87
    clear a'
    have HBZ := hide (JBo.all hstwz)
    clear hstwz htuwz
    go_wp2_with fail
    have HN : Hid (Nx wa Z2 g q (D + x.d.length) (k + 1) wz) := hide ⟨_, _, HBZ.out, HSIM.out⟩
    go_ret2
    exact ⟨g, rfl, fun _ => rfl, Nx.back HN.out H.out HWA.out HZL.out⟩
  have q8 : (x.kind == 8) = false := beq_eq_false_iff_ne.2 k8
  clear k8
  by_cases k9 : x.kind = 9
  · have q9 : (x.kind == 9) = true := by rw [k9]; rfl
    clear k9
    obtain ⟨r, hrE⟩ : ∃ r, r = askErr S [x.a] x.a := ⟨_, rfl⟩
    obtain ⟨hans, hsim⟩ := (⟨(HS.out.remove x.a).1, (HS.out.remove x.a).2.1⟩ : _ ∧ _)
    have HSIM : Hid (Sim (D + x.d.length) (k + 1) _ _) := hide (hsim.mono (Nat.le_add_right _ _) (Nat.le_refl _))
    obtain ⟨S9, hS9⟩ : ∃ S9, S9 = S.remove x.a := ⟨_, rfl⟩
    obtain ⟨R9, hR9⟩ : ∃ R9, R9 = (removeR R x.a).2 := ⟨_, rfl⟩
    rw [← hS9, ← hR9] at HSIM
    have HCP : Hid (∀ B0 (R2 : RS) (wx : World), Bo B0 Z2 g S q R2 wx → Calls Try.prog 45 #[.pointer (some ⟨g, 0, none⟩), .string x.a] wx fun e w' => e = .returned (.int .i64 r) ∧ Bo B0 Z2 g S9 q R2 w') := hide fun B0 R2 wx hb => by rw [hrE, hS9]; exact hb.pRemove HS.out (by have := HDD.out; omega) (by have := HKK.out; omega) x.a
    have HCD : Hid (∀ B0 (S2 : St) (wx : World), Bo B0 Z2 g S2 q R wx → Calls Try.prog 46 #[.pointer (some ⟨q, 0, none⟩), .string x.a] wx fun e w' => e = .returned (.int .i64 r) ∧ Bo B0 Z2 g S2 q R9 w') := hide fun B0 S2 wx hb => by rw [hrE, hans, hR9]; exact hb.dRemove HS.out (by have := HDD.out; omega) (by have := HKK.out; omega) x.a
    clear hans hsim hrE hS9 hR9
    have TL := hide (JBo.two wa Z2 g q S S9 R R9)
    have HJ0 : Hid (JBo wa Z2 g q S S9 R R9 (fun _ => false) wa.drew) := hide HB0.out.drew
    go_wp2_with fail
    refine wp_region_two' TL.out (fun _ => false) HJ0.out 12 (by kernel_rfl) (by kernel_rfl) ?_
    intro A O W L HA HO HW HL
    simp only [List.take_succ_cons, List.take_zero]
    have HS := hide (show A.tmps.size = 185 by rw [HA.out]; rfl)
    have HGW := hide (show wa.grownBy W none by rw [HW.out]; exact gb_drew (gb_refl wa none))
    have A0 := hide (show A.eval (.tmp 0) = .pointer (some ⟨g, 0, none⟩) by rw [HA.out]; rfl)
    have A1 := hide (show A.eval (.tmp 1) = .pointer (some ⟨q, 0, none⟩) by rw [HA.out]; rfl)
    have A5 := hide (show A.eval (.tmp 5) = .pointer (some ⟨w.heap.size, 0, none⟩) by rw [HA.out]; rfl)
    -- slot 90
    refine tFacts_lit TL.out (.pointer (some ⟨g, 0, none⟩)) rfl ?_ ?_
    · intro a wq hw hl
      have e0 : a.tmps[0]?.getD undef = .pointer (some ⟨g, 0, none⟩) := (hl 0 (by first | (simp [Op.operands]; done) | simp [Op.operands, Call.operands]) (by rw [HS.out]; decide)).trans A0.out
      clear hl
      go_simp
    -- slot 91
    refine tFacts_lit TL.out (.pointer (some ⟨g, 0, none⟩)) rfl ?_ ?_
    · intro a wq hw hl
      have e0 : a.tmps[0]?.getD undef = .pointer (some ⟨g, 0, none⟩) := (hl 0 (by first | (simp [Op.operands]; done) | simp [Op.operands, Call.operands]) (by rw [HS.out]; decide)).trans A0.out
      clear hl
      go_simp
    -- slot 92
    refine tFacts_lit TL.out (.pointer (some ⟨w.heap.size, 1, none⟩)) rfl ?_ ?_
    · intro a wq hw hl
      have e5 : a.tmps[5]?.getD undef = .pointer (some ⟨w.heap.size, 0, none⟩) := (hl 5 (by first | (simp [Op.operands]; done) | simp [Op.operands, Call.operands]) (by rw [HS.out]; decide)).trans A5.out
      clear hl
      go_simp
    -- slot 93
    refine tFacts_lit TL.out (.string x.a) rfl ?_ ?_
    · intro a wq hw hl
      have e92 : a.tmps[92]?.getD undef = .pointer (some ⟨w.heap.size, 1, none⟩) := hl 92 (by first | (simp [Op.operands]; done) | simp [Op.operands, Call.operands]) (by rw [HS.out]; decide)
      have htz : Turned (fun i => ¬ Z2 i) wa wq := (by have hw9 := hw; rw [HW.out] at hw9; exact hw9.of_drew)
      have hbX := (htz.block _ (blk_lt HBX.out) (fun hh => hh HZ1.out)).trans HBX.out
      have c0 : wq.cell? ⟨w.heap.size, 1, none⟩ = some (.string x.a) := by rw [blk_cell hbX]; rfl
      clear hbX
      clear hl
      go_simp
    -- slot 94
    refine tFacts_write 0 (.int .i64 r) rfl rfl ?_ ?_
    · intro a wq bq hw hbq hjq hl
      have e91 : a.tmps[91]?.getD undef = .pointer (some ⟨g, 0, none⟩) := hl 91 (by first | (simp [Op.operands]; done) | simp [Op.operands, Call.operands]) (by rw [HS.out]; decide)
      have e93 : a.tmps[93]?.getD undef = .string x.a := hl 93 (by first | (simp [Op.operands]; done) | simp [Op.operands, Call.operands]) (by rw [HS.out]; decide)
      clear hl
      go_simp
      exact sUpon_call (JBo.p bq wq (fun B0 R2 hb => HCP.out B0 R2 wq hb) hbq hjq)
    -- slot 95
    refine tFacts_step TL.out (.int .i64 r) rfl ?_ ?_
    · intro a wq hw hl
      have e94 : a.tmps[94]?.getD undef = .int .i64 r := hl 94 (by first | (simp [Op.operands]; done) | simp [Op.operands, Call.operands]) (by rw [HS.out]; decide)
      clear hl
      go_simp
      exact gUpon_lit ((num_any r wq).mono fun e w9 hx => ⟨hx.1, hx.2 ▸ gb_refl wq none⟩)
    -- slot 96
    refine tFacts_lit TL.out (.pointer (some ⟨q, 0, none⟩)) rfl ?_ ?_
    · intro a wq hw hl
      have e1 : a.tmps[1]?.getD undef = .pointer (some ⟨q, 0, none⟩) := (hl 1 (by first | (simp [Op.operands]; done) | simp [Op.operands, Call.operands]) (by rw [HS.out]; decide)).trans A1.out
      clear hl
      go_simp
    -- slot 97
    refine tFacts_lit TL.out (.pointer (some ⟨w.heap.size, 1, none⟩)) rfl ?_ ?_
    · intro a wq hw hl
      have e5 : a.tmps[5]?.getD undef = .pointer (some ⟨w.heap.size, 0, none⟩) := (hl 5 (by first | (simp [Op.operands]; done) | simp [Op.operands, Call.operands]) (by rw [HS.out]; decide)).trans A5.out
      clear hl
      go_simp
    -- slot 98
    refine tFacts_lit TL.out (.string x.a) rfl ?_ ?_
    · intro a wq hw hl
      have e97 : a.tmps[97]?.getD undef = .pointer (some ⟨w.heap.size, 1, none⟩) := hl 97 (by first | (simp [Op.operands]; done) | simp [Op.operands, Call.operands]) (by rw [HS.out]; decide)
      have htz : Turned (fun i => ¬ Z2 i) wa wq := (by have hw9 := hw; rw [HW.out] at hw9; exact hw9.of_drew)
      have hbX := (htz.block _ (blk_lt HBX.out) (fun hh => hh HZ1.out)).trans HBX.out
      have c0 : wq.cell? ⟨w.heap.size, 1, none⟩ = some (.string x.a) := by rw [blk_cell hbX]; rfl
      clear hbX
      clear hl
      go_simp
    -- slot 99
    refine tFacts_write 1 (.int .i64 r) rfl rfl ?_ ?_
    · intro a wq bq hw hbq hjq hl
      have e96 : a.tmps[96]?.getD undef = .pointer (some ⟨q, 0, none⟩) := hl 96 (by first | (simp [Op.operands]; done) | simp [Op.operands, Call.operands]) (by rw [HS.out]; decide)
      have e98 : a.tmps[98]?.getD undef = .string x.a := hl 98 (by first | (simp [Op.operands]; done) | simp [Op.operands, Call.operands]) (by rw [HS.out]; decide)
      clear hl
      go_simp
      exact sUpon_call (JBo.d bq wq (fun B0 S2 hb => HCD.out B0 S2 wq hb) hbq hjq)
    -- slot 100
    refine tFacts_lit TL.out (.bool true) rfl ?_ ?_
    · intro a wq hw hl
      have e95 : a.tmps[95]?.getD undef = .int .i64 r := hl 95 (by first | (simp [Op.operands]; done) | simp [Op.operands, Call.operands]) (by rw [HS.out]; decide)
      have e99 : a.tmps[99]?.getD undef = .int .i64 r := hl 99 (by first | (simp [Op.operands]; done) | simp [Op.operands, Call.operands]) (by rw [HS.out]; decide)
      clear hl
      go_simp
    -- slot 6
    refine tFacts_lit TL.out (.pointer (some ⟨g, 0, none⟩)) rfl ?_ ?_
    · intro a wq hw hl
      have e90 : a.tmps[90]?.getD undef = .pointer (some ⟨g, 0, none⟩) := hl 90 (by first | (simp [Op.operands]; done) | simp [Op.operands, Call.operands]) (by rw [HS.out]; decide)
      clear hl
      go_simp
    refine HL.out _ _ (fun a' wz hc => ?_)
    have e6 : a'.eval (.tmp 6) = .pointer (some ⟨g, 0, none⟩) := hc.fact 6 (by rw [HS.out]; decide)
    have e100 : a'.eval (.tmp 100) = .bool true := hc.fact 100 (by rw [HS.out]; decide)
    have hstwz := hc.st
    have htuwz := hc.turned
    rw [HW.out] at htuwz
    have hfr := hc.frame [90, 91, 92, 93, 94, 95, 96, 97, 98, 99, 100, 6, 7] (by rw [HO.out]; kernel_rfl)
    rw [hfr]
    clear hfr hc
    rw [HA.out]
    clear HA HO HL HW HS HGW A0 A1 A5
    clear A O W L
    simp only [List.drop_succ_cons, List.drop_zero, List.foldl_cons, List.foldl_nil, Act.put, List.setIfInBounds_toArray, List.set_cons_succ, List.set_cons_zero]
    rw [e6, e100]
    generalize a'.eval (.tmp 90) = x90
    generalize a'.eval (.tmp 91) = x91
    generalize a'.eval (.tmp 92) = x92
    generalize a'.eval (.tmp 93) = x93
    generalize a'.eval (.tmp 94) = x94
    generalize a'.eval (.tmp 95) = x95
    generalize a'.eval (.tmp 96) = x96
    generalize a'.eval (.tmp 97) = x97
    generalize a'.eval (.tmp 98) = x98
    generalize a'.eval (.tmp 99) = x99
    generalize a'.eval (.tmp 7) = x7
    clear e6 e100
    clear a'
    have HBZ := hide (JBo.all hstwz)
    clear hstwz htuwz
    go_wp2_with fail
    have HN : Hid (Nx wa Z2 g q (D + x.d.length) (k + 1) wz) := hide ⟨_, _, HBZ.out, HSIM.out⟩
    go_ret2
    exact ⟨g, rfl, fun _ => rfl, Nx.back HN.out H.out HWA.out HZL.out⟩
  have q9 : (x.kind == 9) = false := beq_eq_false_iff_ne.2 k9
  clear k9
  by_cases k10 : x.kind = 10
  · have q10 : (x.kind == 10) = true := by rw [k10]; rfl
    clear k10
    obtain ⟨r, hr⟩ : ∃ r, r = S.syncDirE := ⟨_, rfl⟩
    obtain ⟨k1, k3⟩ := HS.out.syncDir
    have QP := HB0.out.pSyncDir HS.out (by have := HDD.out; omega) (by have := HKK.out; omega)
    rw [← hr] at QP
    have QP := hide QP
    have QD : Hid (∀ wx S2, Bo wa Z2 g S2 q R wx → Calls Try.prog 47 #[.pointer (some ⟨q, 0, none⟩)] wx fun e w' => e = .returned (.int .i64 r) ∧ Bo wa Z2 g S2 q (syncDirR R).2 w') := hide fun wx S2 hb => by
      have := hb.dSyncDir HS.out (by have := HDD.out; omega) (by have := HKK.out; omega)
      rwa [← k1, ← hr] at this
    have HSM : Hid (Sim (D + x.d.length) (k + 1) _ _) := hide (k3.mono (Nat.le_add_right _ _) (Nat.le_refl _))
    clear hr k1 k3
    go_wp2_with (first
      | (go_at_call 47; refine (QD.out _ _ HB6.out).mono ?_; rintro e w7 ⟨rfl, hb⟩; have HB7 := hide hb; have hbx := (hb.block HZ1.out).trans HBX.out; have e0 : w7.cell? ⟨w.heap.size, 0, none⟩ = some (.int .i64 x.kind) := (by { rw [blk_cell hbx]; rfl }); have e1 : w7.cell? ⟨w.heap.size, 1, none⟩ = some (.string x.a) := (by { rw [blk_cell hbx]; rfl }); have e2 : w7.cell? ⟨w.heap.size, 2, none⟩ = some (.string x.b) := (by { rw [blk_cell hbx]; rfl }); have e3 : w7.cell? ⟨w.heap.size, 3, none⟩ = some (.int .i64 x.file) := (by { rw [blk_cell hbx]; rfl }); have e4 : w7.cell? ⟨w.heap.size, 4, none⟩ = some (.int .i64 x.pos) := (by { rw [blk_cell hbx]; rfl }); have e5 : w7.cell? ⟨w.heap.size, 5, none⟩ = some (.int .i64 x.n) := (by { rw [blk_cell hbx]; rfl }); have e6 : w7.cell? ⟨w.heap.size, 6, none⟩ = some (.slice x.dA x.d.length x.dc) := (by { rw [blk_cell hbx]; rfl }); have e7 : w7.cell? ⟨w.heap.size, 7, none⟩ = some (.int .i64 x.dir) := (by { rw [blk_cell hbx]; rfl }); have e8 : w7.cell? ⟨w.heap.size, 8, none⟩ = some (.slice x.tA x.tn x.tc) := (by { rw [blk_cell hbx]; rfl }); clear hb hbx)
      | (go_at_call 14; refine (QP.out).mono ?_; rintro e w6 ⟨rfl, hb⟩; have HB6 := hide hb; have hbx := (hb.block HZ1.out).trans HBX.out; have e0 : w6.cell? ⟨w.heap.size, 0, none⟩ = some (.int .i64 x.kind) := (by { rw [blk_cell hbx]; rfl }); have e1 : w6.cell? ⟨w.heap.size, 1, none⟩ = some (.string x.a) := (by { rw [blk_cell hbx]; rfl }); have e2 : w6.cell? ⟨w.heap.size, 2, none⟩ = some (.string x.b) := (by { rw [blk_cell hbx]; rfl }); have e3 : w6.cell? ⟨w.heap.size, 3, none⟩ = some (.int .i64 x.file) := (by { rw [blk_cell hbx]; rfl }); have e4 : w6.cell? ⟨w.heap.size, 4, none⟩ = some (.int .i64 x.pos) := (by { rw [blk_cell hbx]; rfl }); have e5 : w6.cell? ⟨w.heap.size, 5, none⟩ = some (.int .i64 x.n) := (by { rw [blk_cell hbx]; rfl }); have e6 : w6.cell? ⟨w.heap.size, 6, none⟩ = some (.slice x.dA x.d.length x.dc) := (by { rw [blk_cell hbx]; rfl }); have e7 : w6.cell? ⟨w.heap.size, 7, none⟩ = some (.int .i64 x.dir) := (by { rw [blk_cell hbx]; rfl }); have e8 : w6.cell? ⟨w.heap.size, 8, none⟩ = some (.slice x.tA x.tn x.tc) := (by { rw [blk_cell hbx]; rfl }); clear hb hbx)
      | (go_at_call 10; refine (num_any _ _).mono ?_; rintro e wx ⟨rfl, rfl⟩))
    have HN : Hid (Nx wa Z2 g q (D + x.d.length) (k + 1) w7) := hide ⟨_, _, HB7.out, HSM.out⟩
    go_ret2
    exact ⟨g, rfl, fun _ => rfl, Nx.back HN.out H.out HWA.out HZL.out⟩
  have q10 : (x.kind == 10) = false := beq_eq_false_iff_ne.2 k10
  clear k10
  by_cases k11 : x.kind = 11
  · have q11 : (x.kind == 11) = true := by rw [k11]; rfl
    clear k11
    obtain ⟨i1, hi1, hiz, his, hib⟩ := info_parts Try.infoT
    have HI1 := hide hi1
    have HIZ := hide hiz
    have HIS := hide his
    have HIB := hide hib
    clear hi1 hiz his hib
    have HO13 := hide (own_empty wa 50 3)
    have HRT := hide ((HTR.out.ofZ HB0.out HZB.out).grown (gb_alloc (gb_refl wa none) (.cells #[] 50)) HBL.out (by simp))
    have HLEN := hide (show (tcells tl).length = x.tn * 3 by rw [tcells_length, HTN.out])
    have HOC := hide (tcells_one tl)
    have HM1 : Hid (0 + x.tn ≤ maxLen) := hide (by unfold maxLen; have := HTB.out; omega)
    have HMB : Hid ((0 + x.tn) * 24 ≤ 140737488355328) := hide (by have := HTB.out; omega)
    have hbx0 := heap_alloc_old wa (.cells #[] 50) (blk_lt HBX.out)
    have f7 : (wa.alloc (.cells #[] 50)).cell? ⟨w.heap.size, 7, none⟩ = some (.int .i64 x.dir) := by rw [blk_cell (hbx0.trans HBX.out)]; rfl
    have f8 : (wa.alloc (.cells #[] 50)).cell? ⟨w.heap.size, 8, none⟩ = some (.slice x.tA x.tn x.tc) := by rw [blk_cell (hbx0.trans HBX.out)]; rfl
    go_upto_region 17 with fail
    go_region_held3 (fun w' => w'.cell? ⟨w.heap.size, 7, none⟩ = some (.int .i64 x.dir) ∧ w'.cell? ⟨w.heap.size, 8, none⟩ = some (.slice x.tA x.tn x.tc)) (first | exact ⟨e7, e8⟩ | exact ⟨f7, f8⟩ | exact ⟨c7, c8⟩ | exact ⟨d7, d8⟩ | go_keep)
      (first
      | (refine step_append_row (by rfl) (.tmp 116) (.tmp 119) 33 (by rfl) 0 50 i1 (.agg #[.int .i64 0, .int .i64 0, .int .i64 0]) 3 24 Try.underlying33 HI1.out HIZ.out HIS.out HIB.out rfl (Nat.succ_pos 2) (.slice (some ⟨wa.heap.size, 0, none⟩) 0 0) 0 [] (by rfl) HO13.out B x.tA x.tn x.tc (tcells tl) (by rfl) HLEN.out HRT.out HOC.out HM1.out HMB.out (Nat.zero_le _) ?_; intro v5 w5 ho5 hg5 hb5; rw [Nat.zero_add, List.nil_append] at ho5; obtain ⟨A5, c5, rfl⟩ := own_slice ho5; have HY := hide (tn_new (wa := wa) ho5 ⟨hg5.os, hg5.tape, hg5.output, hg5.size, hg5.block⟩ hb5); have HX5 := hide (blk_keep HBX.out HY.out.1 (Option.some_ne_none _)); have c7 : w5.cell? ⟨w.heap.size, 7, none⟩ = some (.int .i64 x.dir) := by { rw [blk_cell HX5.out]; rfl }; have c8 : w5.cell? ⟨w.heap.size, 8, none⟩ = some (.slice x.tA x.tn x.tc) := by { rw [blk_cell HX5.out]; rfl }; clear ho5 hg5 hb5)
      | (go_simp; go_at_call 16; refine (tn_crash (HB0.out.pCrash HS.out (by have := HDD.out; omega) (by have := HKK.out; omega) x.dir A5 c5 tl HY.out.1 HY.out.2.1 (fun a ha => .inr (HY.out.2.2.1 a ha)) (by rw [HTN.out]; exact HY.out.2.2.2)) HTN.out).mono ?_; rintro e w6 ⟨rfl, ks, hk1, hk2, hb6⟩; have HB6 := hide hb6; have HSM : Hid (Sim (D + x.d.length) (k + 1) _ _) := hide ((HS.out.crash x.dir tl ks hk1 hk2).mono (Nat.le_add_right _ _) (Nat.le_refl _)); have hbx := (hb6.block HZ1.out).trans HBX.out; have d7 : w6.cell? ⟨w.heap.size, 7, none⟩ = some (.int .i64 x.dir) := by { rw [blk_cell hbx]; rfl }; have d8 : w6.cell? ⟨w.heap.size, 8, none⟩ = some (.slice x.tA x.tn x.tc) := by { rw [blk_cell hbx]; rfl }; clear hk1 hk2 hb6 hbx))
    have QD : Hid (Calls Try.prog 48 #[.pointer (some ⟨q, 0, none⟩), .agg #[.int .i64 x.dir, .slice x.tA x.tn x.tc]] w6 fun e w' => e = .returned (.tuple #[]) ∧ Bo wa Z2 g (S.crashed x.dir tl ks) q (crashR R x.dir tl) w') := hide (by
      have := HB6.out.dCrash HS.out (by have := HDD.out; omega) (by have := HKK.out; omega) x.dir x.tA x.tc B tl (HTR.out.ofZ HB6.out HZB.out) (Nat.le_trans HBL.out HB6.out.size) (by rw [HTN.out]; have := HTB.out; omega) HZB.out
      rwa [HTN.out] at this)
    go_wp2_with (go_at_call 48; refine QD.out.mono ?_; rintro e w7 ⟨rfl, hb⟩; have HB7 := hide hb; clear hb)
    have HN : Hid (Nx wa Z2 g q (D + x.d.length) (k + 1) w7) := hide ⟨_, _, HB7.out, HSM.out⟩
    go_ret2
    exact ⟨g, rfl, fun _ => rfl, Nx.back HN.out H.out HWA.out HZL.out⟩
  have q11 : (x.kind == 11) = false := beq_eq_false_iff_ne.2 k11
  clear k11
  by_cases k12 : x.kind = 12
  · have q12 : (x.kind == 12) = true := by rw [k12]; rfl
    clear k12
    have QP := hide (HB0.out.pArm x.n)
    have QD := hide fun (wx : World) (S2 : St) (hb : Bo wa Z2 g S2 q R wx) => hb.dArm x.n
    have HSM : Hid (Sim (D + x.d.length) (k + 1) _ _) := hide ((HS.out.arm x.n HNX.out).mono (Nat.le_add_right _ _) (Nat.le_refl _))
    go_wp2_with (first
      | (go_at_call 49; refine (QD.out _ _ HB6.out).mono ?_; rintro e w7 ⟨rfl, hb⟩; have HB7 := hide hb; have hbx := (hb.block HZ1.out).trans HBX.out; have e0 : w7.cell? ⟨w.heap.size, 0, none⟩ = some (.int .i64 x.kind) := (by { rw [blk_cell hbx]; rfl }); have e1 : w7.cell? ⟨w.heap.size, 1, none⟩ = some (.string x.a) := (by { rw [blk_cell hbx]; rfl }); have e2 : w7.cell? ⟨w.heap.size, 2, none⟩ = some (.string x.b) := (by { rw [blk_cell hbx]; rfl }); have e3 : w7.cell? ⟨w.heap.size, 3, none⟩ = some (.int .i64 x.file) := (by { rw [blk_cell hbx]; rfl }); have e4 : w7.cell? ⟨w.heap.size, 4, none⟩ = some (.int .i64 x.pos) := (by { rw [blk_cell hbx]; rfl }); have e5 : w7.cell? ⟨w.heap.size, 5, none⟩ = some (.int .i64 x.n) := (by { rw [blk_cell hbx]; rfl }); have e6 : w7.cell? ⟨w.heap.size, 6, none⟩ = some (.slice x.dA x.d.length x.dc) := (by { rw [blk_cell hbx]; rfl }); have e7 : w7.cell? ⟨w.heap.size, 7, none⟩ = some (.int .i64 x.dir) := (by { rw [blk_cell hbx]; rfl }); have e8 : w7.cell? ⟨w.heap.size, 8, none⟩ = some (.slice x.tA x.tn x.tc) := (by { rw [blk_cell hbx]; rfl }); clear hb hbx)
      | (go_at_call 18; refine (QP.out).mono ?_; rintro e w6 ⟨rfl, hb⟩; have HB6 := hide hb; have hbx := (hb.block HZ1.out).trans HBX.out; have e0 : w6.cell? ⟨w.heap.size, 0, none⟩ = some (.int .i64 x.kind) := (by { rw [blk_cell hbx]; rfl }); have e1 : w6.cell? ⟨w.heap.size, 1, none⟩ = some (.string x.a) := (by { rw [blk_cell hbx]; rfl }); have e2 : w6.cell? ⟨w.heap.size, 2, none⟩ = some (.string x.b) := (by { rw [blk_cell hbx]; rfl }); have e3 : w6.cell? ⟨w.heap.size, 3, none⟩ = some (.int .i64 x.file) := (by { rw [blk_cell hbx]; rfl }); have e4 : w6.cell? ⟨w.heap.size, 4, none⟩ = some (.int .i64 x.pos) := (by { rw [blk_cell hbx]; rfl }); have e5 : w6.cell? ⟨w.heap.size, 5, none⟩ = some (.int .i64 x.n) := (by { rw [blk_cell hbx]; rfl }); have e6 : w6.cell? ⟨w.heap.size, 6, none⟩ = some (.slice x.dA x.d.length x.dc) := (by { rw [blk_cell hbx]; rfl }); have e7 : w6.cell? ⟨w.heap.size, 7, none⟩ = some (.int .i64 x.dir) := (by { rw [blk_cell hbx]; rfl }); have e8 : w6.cell? ⟨w.heap.size, 8, none⟩ = some (.slice x.tA x.tn x.tc) := (by { rw [blk_cell hbx]; rfl }); clear hb hbx))
    have HN : Hid (Nx wa Z2 g q (D + x.d.length) (k + 1) w7) := hide ⟨_, _, HB7.out, HSM.out⟩
    go_ret2
    exact ⟨g, rfl, fun _ => rfl, Nx.back HN.out H.out HWA.out HZL.out⟩
  have q12 : (x.kind == 12) = false := beq_eq_false_iff_ne.2 k12
  clear k12
  by_cases k13 : x.kind = 13
  · have q13 : (x.kind == 13) = true := by rw [k13]; rfl
    clear k13
    obtain ⟨r, hrE⟩ : ∃ r, r = St.setCapE x.n := ⟨_, rfl⟩
    obtain ⟨hans, hsim⟩ := HS.out.setCap x.n
    have HSIM : Hid (Sim (D + x.d.length) (k + 1) _ _) := hide (hsim.mono (Nat.le_add_right _ _) (Nat.le_refl _))
    obtain ⟨S9, hS9⟩ : ∃ S9, S9 = S.setCap x.n := ⟨_, rfl⟩
    obtain ⟨R9, hR9⟩ : ∃ R9, R9 = (capR R x.n).2 := ⟨_, rfl⟩
    rw [← hS9, ← hR9] at HSIM
    have HCP : Hid (∀ B0 (R2 : RS) (wx : World), Bo B0 Z2 g S q R2 wx → Calls Try.prog 50 #[.pointer (some ⟨g, 0, none⟩), .int .i64 x.n] wx fun e w' => e = .returned (.int .i64 r) ∧ Bo B0 Z2 g S9 q R2 w') := hide fun B0 R2 wx hb => by rw [hrE, hS9]; exact hb.pCap x.n
    have HCD : Hid (∀ B0 (S2 : St) (wx : World), Bo B0 Z2 g S2 q R wx → Calls Try.prog 51 #[.pointer (some ⟨q, 0, none⟩), .int .i64 x.n] wx fun e w' => e = .returned (.int .i64 r) ∧ Bo B0 Z2 g S2 q R9 w') := hide fun B0 S2 wx hb => by rw [hrE, hans, hR9]; exact hb.dCap x.n
    clear hans hsim hrE hS9 hR9
    have TL := hide (JBo.two wa Z2 g q S S9 R R9)
    have HJ0 : Hid (JBo wa Z2 g q S S9 R R9 (fun _ => false) wa.drew) := hide HB0.out.drew
    go_wp2_with fail
    refine wp_region_two' TL.out (fun _ => false) HJ0.out 12 (by kernel_rfl) (by kernel_rfl) ?_
    intro A O W L HA HO HW HL
    simp only [List.take_succ_cons, List.take_zero]
    have HS := hide (show A.tmps.size = 185 by rw [HA.out]; rfl)
    have HGW := hide (show wa.grownBy W none by rw [HW.out]; exact gb_drew (gb_refl wa none))
    have A0 := hide (show A.eval (.tmp 0) = .pointer (some ⟨g, 0, none⟩) by rw [HA.out]; rfl)
    have A1 := hide (show A.eval (.tmp 1) = .pointer (some ⟨q, 0, none⟩) by rw [HA.out]; rfl)
    have A5 := hide (show A.eval (.tmp 5) = .pointer (some ⟨w.heap.size, 0, none⟩) by rw [HA.out]; rfl)
    -- slot 141
    refine tFacts_lit TL.out (.pointer (some ⟨g, 0, none⟩)) rfl ?_ ?_
    · intro a wq hw hl
      have e0 : a.tmps[0]?.getD undef = .pointer (some ⟨g, 0, none⟩) := (hl 0 (by first | (simp [Op.operands]; done) | simp [Op.operands, Call.operands]) (by rw [HS.out]; decide)).trans A0.out
      clear hl
      go_simp
    -- slot 142
    refine tFacts_lit TL.out (.pointer (some ⟨g, 0, none⟩)) rfl ?_ ?_
    · intro a wq hw hl
      have e0 : a.tmps[0]?.getD undef = .pointer (some ⟨g, 0, none⟩) := (hl 0 (by first | (simp [Op.operands]; done) | simp [Op.operands, Call.operands]) (by rw [HS.out]; decide)).trans A0.out
      clear hl
      go_simp
    -- slot 143
    refine tFacts_lit TL.out (.pointer (some ⟨w.heap.size, 5, none⟩)) rfl ?_ ?_
    · intro a wq hw hl
      have e5 : a.tmps[5]?.getD undef = .pointer (some ⟨w.heap.size, 0, none⟩) := (hl 5 (by first | (simp [Op.operands]; done) | simp [Op.operands, Call.operands]) (by rw [HS.out]; decide)).trans A5.out
      clear hl
      go_simp
    -- slot 144
    refine tFacts_lit TL.out (.int .i64 x.n) rfl ?_ ?_
    · intro a wq hw hl
      have e143 : a.tmps[143]?.getD undef = .pointer (some ⟨w.heap.size, 5, none⟩) := hl 143 (by first | (simp [Op.operands]; done) | simp [Op.operands, Call.operands]) (by rw [HS.out]; decide)
      have htz : Turned (fun i => ¬ Z2 i) wa wq := (by have hw9 := hw; rw [HW.out] at hw9; exact hw9.of_drew)
      have hbX := (htz.block _ (blk_lt HBX.out) (fun hh => hh HZ1.out)).trans HBX.out
      have c0 : wq.cell? ⟨w.heap.size, 5, none⟩ = some (.int .i64 x.n) := by rw [blk_cell hbX]; rfl
      clear hbX
      clear hl
      go_simp
    -- slot 145
    refine tFacts_write 0 (.int .i64 r) rfl rfl ?_ ?_
    · intro a wq bq hw hbq hjq hl
      have e142 : a.tmps[142]?.getD undef = .pointer (some ⟨g, 0, none⟩) := hl 142 (by first | (simp [Op.operands]; done) | simp [Op.operands, Call.operands]) (by rw [HS.out]; decide)
      have e144 : a.tmps[144]?.getD undef = .int .i64 x.n := hl 144 (by first | (simp [Op.operands]; done) | simp [Op.operands, Call.operands]) (by rw [HS.out]; decide)
      clear hl
      go_simp
      exact sUpon_call (JBo.p bq wq (fun B0 R2 hb => HCP.out B0 R2 wq hb) hbq hjq)
    -- slot 146
    refine tFacts_step TL.out (.int .i64 r) rfl ?_ ?_
    · intro a wq hw hl
      have e145 : a.tmps[145]?.getD undef = .int .i64 r := hl 145 (by first | (simp [Op.operands]; done) | simp [Op.operands, Call.operands]) (by rw [HS.out]; decide)
      clear hl
      go_simp
      exact gUpon_lit ((num_any r wq).mono fun e w9 hx => ⟨hx.1, hx.2 ▸ gb_refl wq none⟩)
    -- slot 147
    refine tFacts_lit TL.out (.pointer (some ⟨q, 0, none⟩)) rfl ?_ ?_
    · intro a wq hw hl
      have e1 : a.tmps[1]?.getD undef = .pointer (some ⟨q, 0, none⟩) := (hl 1 (by first | (simp [Op.operands]; done) | simp [Op.operands, Call.operands]) (by rw [HS.out]; decide)).trans A1.out
      clear hl
      go_simp
    -- slot 148
    refine tFacts_lit TL.out (.pointer (some ⟨w.heap.size, 5, none⟩)) rfl ?_ ?_
    · intro a wq hw hl
      have e5 : a.tmps[5]?.getD undef = .pointer (some ⟨w.heap.size, 0, none⟩) := (hl 5 (by first | (simp [Op.operands]; done) | simp [Op.operands, Call.operands]) (by rw [HS.out]; decide)).trans A5.out
      clear hl
      go_simp
    -- slot 149
    refine tFacts_lit TL.out (.int .i64 x.n) rfl ?_ ?_
    · intro a wq hw hl
      have e148 : a.tmps[148]?.getD undef = .pointer (some ⟨w.heap.size, 5, none⟩) := hl 148 (by first | (simp [Op.operands]; done) | simp [Op.operands, Call.operands]) (by rw [HS.out]; decide)
      have htz : Turned (fun i => ¬ Z2 i) wa wq := (by have hw9 := hw; rw [HW.out] at hw9; exact hw9.of_drew)
      have hbX := (htz.block _ (blk_lt HBX.out) (fun hh => hh HZ1.out)).trans HBX.out
      have c0 : wq.cell? ⟨w.heap.size, 5, none⟩ = some (.int .i64 x.n) := by rw [blk_cell hbX]; rfl
      clear hbX
      clear hl
      go_simp
    -- slot 150
    refine tFacts_write 1 (.int .i64 r) rfl rfl ?_ ?_
    · intro a wq bq hw hbq hjq hl
      have e147 : a.tmps[147]?.getD undef = .pointer (some ⟨q, 0, none⟩) := hl 147 (by first | (simp [Op.operands]; done) | simp [Op.operands, Call.operands]) (by rw [HS.out]; decide)
      have e149 : a.tmps[149]?.getD undef = .int .i64 x.n := hl 149 (by first | (simp [Op.operands]; done) | simp [Op.operands, Call.operands]) (by rw [HS.out]; decide)
      clear hl
      go_simp
      exact sUpon_call (JBo.d bq wq (fun B0 S2 hb => HCD.out B0 S2 wq hb) hbq hjq)
    -- slot 151
    refine tFacts_lit TL.out (.bool true) rfl ?_ ?_
    · intro a wq hw hl
      have e146 : a.tmps[146]?.getD undef = .int .i64 r := hl 146 (by first | (simp [Op.operands]; done) | simp [Op.operands, Call.operands]) (by rw [HS.out]; decide)
      have e150 : a.tmps[150]?.getD undef = .int .i64 r := hl 150 (by first | (simp [Op.operands]; done) | simp [Op.operands, Call.operands]) (by rw [HS.out]; decide)
      clear hl
      go_simp
    -- slot 6
    refine tFacts_lit TL.out (.pointer (some ⟨g, 0, none⟩)) rfl ?_ ?_
    · intro a wq hw hl
      have e141 : a.tmps[141]?.getD undef = .pointer (some ⟨g, 0, none⟩) := hl 141 (by first | (simp [Op.operands]; done) | simp [Op.operands, Call.operands]) (by rw [HS.out]; decide)
      clear hl
      go_simp
    refine HL.out _ _ (fun a' wz hc => ?_)
    have e6 : a'.eval (.tmp 6) = .pointer (some ⟨g, 0, none⟩) := hc.fact 6 (by rw [HS.out]; decide)
    have e151 : a'.eval (.tmp 151) = .bool true := hc.fact 151 (by rw [HS.out]; decide)
    have hstwz := hc.st
    have htuwz := hc.turned
    rw [HW.out] at htuwz
    have hfr := hc.frame [141, 142, 143, 144, 145, 146, 147, 148, 149, 150, 151, 6, 7] (by rw [HO.out]; kernel_rfl)
    rw [hfr]
    clear hfr hc
    rw [HA.out]
    clear HA HO HL HW HS HGW A0 A1 A5
    clear A O W L
    simp only [List.drop_succ_cons, List.drop_zero, List.foldl_cons, List.foldl_nil, Act.put, List.setIfInBounds_toArray, List.set_cons_succ, List.set_cons_zero]
    rw [e6, e151]
    generalize a'.eval (.tmp 141) = x141
    generalize a'.eval (.tmp 142) = x142
    generalize a'.eval (.tmp 143) = x143
    generalize a'.eval (.tmp 144) = x144
    generalize a'.eval (.tmp 145) = x145
    generalize a'.eval (.tmp 146) = x146
    generalize a'.eval (.tmp 147) = x147
    generalize a'.eval (.tmp 148) = x148
    generalize a'.eval (.tmp 149) = x149
    generalize a'.eval (.tmp 150) = x150
    generalize a'.eval (.tmp 7) = x7
    clear e6 e151
    clear a'
    have HBZ := hide (JBo.all hstwz)
    clear hstwz htuwz
    go_wp2_with fail
    have HN : Hid (Nx wa Z2 g q (D + x.d.length) (k + 1) wz) := hide ⟨_, _, HBZ.out, HSIM.out⟩
    go_ret2
    exact ⟨g, rfl, fun _ => rfl, Nx.back HN.out H.out HWA.out HZL.out⟩
  have q13 : (x.kind == 13) = false := beq_eq_false_iff_ne.2 k13
  clear k13
  by_cases k14 : x.kind = 14
  · have q14 : (x.kind == 14) = true := by rw [k14]; rfl
    clear k14
    have QC := hide (HB0.out.copy HS.out (by have := HDD.out; omega) (by have := HKK.out; omega))
    have HS5 : Hid (Sim D (k + 1) (S.remove x.a) _) := hide (HS.out.remove x.a).2.1
    have HS6 : Hid (Sim (D + 1) (k + 2) ((S.remove x.a).append x.file [63]) _) := hide (HS5.out.append x.file ⟨#[63]⟩).2
    have HD1 : Hid (D + 1 ≤ 1000000) := hide (by have := HDD.out; omega)
    have HK2 : Hid (k + 2 ≤ 1000) := hide (by have := HKK.out; omega)
    have HK1 : Hid (k + 1 ≤ 1000) := hide (by have := HKK.out; omega)
    have HD0 : Hid (D ≤ 1000000) := hide (by have := HDD.out; omega)
    have hcv := fun (w : World) (C : Array Value) (n c : Nat) => Go.Lib.run_convert_bytes_const (P := Try.prog) w 32 5 C n c Try.underlying32 Try.underlying5
    go_wp2_with (first
      | (go_at_call 52; refine (QC.out).mono ?_; rintro e w3 ⟨g2, rfl, hb⟩; have HT3 := hide hb; have hbx := (hb.block HZ1.out).trans HBX.out; have e0 : w3.cell? ⟨w.heap.size, 0, none⟩ = some (.int .i64 x.kind) := (by { rw [blk_cell hbx]; rfl }); have e1 : w3.cell? ⟨w.heap.size, 1, none⟩ = some (.string x.a) := (by { rw [blk_cell hbx]; rfl }); have e2 : w3.cell? ⟨w.heap.size, 2, none⟩ = some (.string x.b) := (by { rw [blk_cell hbx]; rfl }); have e3 : w3.cell? ⟨w.heap.size, 3, none⟩ = some (.int .i64 x.file) := (by { rw [blk_cell hbx]; rfl }); have e4 : w3.cell? ⟨w.heap.size, 4, none⟩ = some (.int .i64 x.pos) := (by { rw [blk_cell hbx]; rfl }); have e5 : w3.cell? ⟨w.heap.size, 5, none⟩ = some (.int .i64 x.n) := (by { rw [blk_cell hbx]; rfl }); have e6 : w3.cell? ⟨w.heap.size, 6, none⟩ = some (.slice x.dA x.d.length x.dc) := (by { rw [blk_cell hbx]; rfl }); have e7 : w3.cell? ⟨w.heap.size, 7, none⟩ = some (.int .i64 x.dir) := (by { rw [blk_cell hbx]; rfl }); have e8 : w3.cell? ⟨w.heap.size, 8, none⟩ = some (.slice x.tA x.tn x.tc) := (by { rw [blk_cell hbx]; rfl }); clear hb hbx)
      | (go_at_call 7; refine (HT3.out.same HS.out).mono ?_; rintro e w4 ⟨rfl, hb⟩; have HT4 := hide hb; have hbx := (hb.block HZ1.out).trans HBX.out; have e0 : w4.cell? ⟨w.heap.size, 0, none⟩ = some (.int .i64 x.kind) := (by { rw [blk_cell hbx]; rfl }); have e1 : w4.cell? ⟨w.heap.size, 1, none⟩ = some (.string x.a) := (by { rw [blk_cell hbx]; rfl }); have e2 : w4.cell? ⟨w.heap.size, 2, none⟩ = some (.string x.b) := (by { rw [blk_cell hbx]; rfl }); have e3 : w4.cell? ⟨w.heap.size, 3, none⟩ = some (.int .i64 x.file) := (by { rw [blk_cell hbx]; rfl }); have e4 : w4.cell? ⟨w.heap.size, 4, none⟩ = some (.int .i64 x.pos) := (by { rw [blk_cell hbx]; rfl }); have e5 : w4.cell? ⟨w.heap.size, 5, none⟩ = some (.int .i64 x.n) := (by { rw [blk_cell hbx]; rfl }); have e6 : w4.cell? ⟨w.heap.size, 6, none⟩ = some (.slice x.dA x.d.length x.dc) := (by { rw [blk_cell hbx]; rfl }); have e7 : w4.cell? ⟨w.heap.size, 7, none⟩ = some (.int .i64 x.dir) := (by { rw [blk_cell hbx]; rfl }); have e8 : w4.cell? ⟨w.heap.size, 8, none⟩ = some (.slice x.tA x.tn x.tc) := (by { rw [blk_cell hbx]; rfl }); clear hb hbx)
      | (go_at_call 45; refine (HT4.out.remove HS.out HD0.out (Nat.le_of_succ_le HK1.out) x.a).mono ?_; rintro e w5 ⟨rfl, hb⟩; have HT5 := hide hb; have hbx := (hb.block HZ1.out).trans HBX.out; have e0 : w5.cell? ⟨w.heap.size, 0, none⟩ = some (.int .i64 x.kind) := (by { rw [blk_cell hbx]; rfl }); have e1 : w5.cell? ⟨w.heap.size, 1, none⟩ = some (.string x.a) := (by { rw [blk_cell hbx]; rfl }); have e2 : w5.cell? ⟨w.heap.size, 2, none⟩ = some (.string x.b) := (by { rw [blk_cell hbx]; rfl }); have e3 : w5.cell? ⟨w.heap.size, 3, none⟩ = some (.int .i64 x.file) := (by { rw [blk_cell hbx]; rfl }); have e4 : w5.cell? ⟨w.heap.size, 4, none⟩ = some (.int .i64 x.pos) := (by { rw [blk_cell hbx]; rfl }); have e5 : w5.cell? ⟨w.heap.size, 5, none⟩ = some (.int .i64 x.n) := (by { rw [blk_cell hbx]; rfl }); have e6 : w5.cell? ⟨w.heap.size, 6, none⟩ = some (.slice x.dA x.d.length x.dc) := (by { rw [blk_cell hbx]; rfl }); have e7 : w5.cell? ⟨w.heap.size, 7, none⟩ = some (.int .i64 x.dir) := (by { rw [blk_cell hbx]; rfl }); have e8 : w5.cell? ⟨w.heap.size, 8, none⟩ = some (.slice x.tA x.tn x.tc) := (by { rw [blk_cell hbx]; rfl }); clear hb hbx)
      | (go_at_call 12; refine (HT5.out.append_new HS5.out HD0.out HK1.out x.file [63] #[.int .u8 63] (1, 2) 1 1 rfl rfl (by decide)).mono ?_; rintro e w6 ⟨rfl, hb⟩; have HT6 := hide hb; have hbx := (hb.block HZ1.out).trans HBX.out; have e0 : w6.cell? ⟨w.heap.size, 0, none⟩ = some (.int .i64 x.kind) := (by { rw [blk_cell hbx]; rfl }); have e1 : w6.cell? ⟨w.heap.size, 1, none⟩ = some (.string x.a) := (by { rw [blk_cell hbx]; rfl }); have e2 : w6.cell? ⟨w.heap.size, 2, none⟩ = some (.string x.b) := (by { rw [blk_cell hbx]; rfl }); have e3 : w6.cell? ⟨w.heap.size, 3, none⟩ = some (.int .i64 x.file) := (by { rw [blk_cell hbx]; rfl }); have e4 : w6.cell? ⟨w.heap.size, 4, none⟩ = some (.int .i64 x.pos) := (by { rw [blk_cell hbx]; rfl }); have e5 : w6.cell? ⟨w.heap.size, 5, none⟩ = some (.int .i64 x.n) := (by { rw [blk_cell hbx]; rfl }); have e6 : w6.cell? ⟨w.heap.size, 6, none⟩ = some (.slice x.dA x.d.length x.dc) := (by { rw [blk_cell hbx]; rfl }); have e7 : w6.cell? ⟨w.heap.size, 7, none⟩ = some (.int .i64 x.dir) := (by { rw [blk_cell hbx]; rfl }); have e8 : w6.cell? ⟨w.heap.size, 8, none⟩ = some (.slice x.tA x.tn x.tc) := (by { rw [blk_cell hbx]; rfl }); clear hb hbx)
      | (go_at_call 14; refine (HT6.out.syncDir HS6.out HD1.out HK2.out).mono ?_; rintro e w7 ⟨rfl, hb⟩; have HT7 := hide hb; have hbx := (hb.block HZ1.out).trans HBX.out; have e0 : w7.cell? ⟨w.heap.size, 0, none⟩ = some (.int .i64 x.kind) := (by { rw [blk_cell hbx]; rfl }); have e1 : w7.cell? ⟨w.heap.size, 1, none⟩ = some (.string x.a) := (by { rw [blk_cell hbx]; rfl }); have e2 : w7.cell? ⟨w.heap.size, 2, none⟩ = some (.string x.b) := (by { rw [blk_cell hbx]; rfl }); have e3 : w7.cell? ⟨w.heap.size, 3, none⟩ = some (.int .i64 x.file) := (by { rw [blk_cell hbx]; rfl }); have e4 : w7.cell? ⟨w.heap.size, 4, none⟩ = some (.int .i64 x.pos) := (by { rw [blk_cell hbx]; rfl }); have e5 : w7.cell? ⟨w.heap.size, 5, none⟩ = some (.int .i64 x.n) := (by { rw [blk_cell hbx]; rfl }); have e6 : w7.cell? ⟨w.heap.size, 6, none⟩ = some (.slice x.dA x.d.length x.dc) := (by { rw [blk_cell hbx]; rfl }); have e7 : w7.cell? ⟨w.heap.size, 7, none⟩ = some (.int .i64 x.dir) := (by { rw [blk_cell hbx]; rfl }); have e8 : w7.cell? ⟨w.heap.size, 8, none⟩ = some (.slice x.tA x.tn x.tc) := (by { rw [blk_cell hbx]; rfl }); clear hb hbx)
      | (go_at_call 18; refine (HT7.out.arm 0).mono ?_; rintro e w8 ⟨rfl, hb⟩; have HT8 := hide hb; have hbx := (hb.block HZ1.out).trans HBX.out; have e0 : w8.cell? ⟨w.heap.size, 0, none⟩ = some (.int .i64 x.kind) := (by { rw [blk_cell hbx]; rfl }); have e1 : w8.cell? ⟨w.heap.size, 1, none⟩ = some (.string x.a) := (by { rw [blk_cell hbx]; rfl }); have e2 : w8.cell? ⟨w.heap.size, 2, none⟩ = some (.string x.b) := (by { rw [blk_cell hbx]; rfl }); have e3 : w8.cell? ⟨w.heap.size, 3, none⟩ = some (.int .i64 x.file) := (by { rw [blk_cell hbx]; rfl }); have e4 : w8.cell? ⟨w.heap.size, 4, none⟩ = some (.int .i64 x.pos) := (by { rw [blk_cell hbx]; rfl }); have e5 : w8.cell? ⟨w.heap.size, 5, none⟩ = some (.int .i64 x.n) := (by { rw [blk_cell hbx]; rfl }); have e6 : w8.cell? ⟨w.heap.size, 6, none⟩ = some (.slice x.dA x.d.length x.dc) := (by { rw [blk_cell hbx]; rfl }); have e7 : w8.cell? ⟨w.heap.size, 7, none⟩ = some (.int .i64 x.dir) := (by { rw [blk_cell hbx]; rfl }); have e8 : w8.cell? ⟨w.heap.size, 8, none⟩ = some (.slice x.tA x.tn x.tc) := (by { rw [blk_cell hbx]; rfl }); clear hb hbx))
    have HN : Hid (Nx wa Z2 g2 q (D + x.d.length) (k + 1) w8) := hide ⟨_, _, HT8.out.fin, HS.out.mono (Nat.le_add_right _ _) (Nat.le_succ _)⟩
    go_ret2
    exact ⟨g2, rfl, fun h => absurd (beq_iff_eq.1 q14) h, Nx.back HN.out H.out HWA.out HZL.out⟩
  have q14 : (x.kind == 14) = false := beq_eq_false_iff_ne.2 k14
  clear k14
  have QF := hide (files_any x wa HB0.out HS.out HDD.out (by have := HKK.out; omega) HRR.out HBL.out HZB.out)
  go_wp2_with (go_at_call 53; refine QF.out.mono ?_; rintro e w7 ⟨rfl, hn⟩; have HN := hide hn; clear hn)
  go_ret2
  exact ⟨g, rfl, fun _ => rfl, Nx.back HN.out H.out HWA.out HZL.out⟩
end Go.Proofs.Ytccapgcpdehicaa
