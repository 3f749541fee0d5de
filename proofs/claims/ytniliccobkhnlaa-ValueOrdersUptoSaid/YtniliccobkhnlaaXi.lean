/-
  The law of the order: its walk.
-/
import Derived.Test.YtniliccobkhnlaaXh
import Derived.Test.YtniliccobkhnlaaVa
import Derived.Test.YtniliccobkhnlaaVd
import Derived.Test.YtniliccobkhnlaaWz
import Derived.Deep.CutBlock
import Derived.Deep.DeepCutAuto
namespace Go.Proofs.Ytniliccobkhnlaa
open Go.RowKit
attribute [local go_sem ↓] Go.wp_at_zero Go.wp_at_succ

theorem C4.box3 (w : World) (x y : Obj) (c0 c1 c2 c3 : Value) (t : TypeId) : C4 (((w.alloc x).alloc y).alloc (.cells #[c0, c1, c2, c3] t)) (w.heap.size + 2) 0 c0 c1 c2 c3 := by
  have h := C4.box2 (w.alloc x) y c0 c1 c2 c3 t
  have e : (w.alloc x).heap.size + 1 = w.heap.size + 2 := by simp
  rwa [e] at h
theorem RdV.lit3 {w : World} {a b c : Vl} {x0 x1 x2 x3 y0 y1 y2 y3 z0 z1 z2 z3 : Value} (h1 : VAt w w.heap.size a [x0, x1, x2, x3]) (h2 : VAt w w.heap.size b [y0, y1, y2, y3]) (h3 : VAt w w.heap.size c [z0, z1, z2, z3]) :
    RdV (w.alloc (.cells #[x0, x1, x2, x3, y0, y1, y2, y3, z0, z1, z2, z3] 26)) (w.heap.size + 1) (some ⟨w.heap.size, 0, none⟩) [a, b, c] := by
  have hg := gb_alloc (gb_refl w none) (.cells #[x0, x1, x2, x3, y0, y1, y2, y3, z0, z1, z2, z3] 26)
  exact ⟨[[x0, x1, x2, x3], [y0, y1, y2, y3], [z0, z1, z2, z3]], Rd.new w _ _ _ rfl, _, _, rfl, (h1.gb hg (Nat.le_refl _)).up (Nat.le_succ _), _, _, rfl, (h2.gb hg (Nat.le_refl _)).up (Nat.le_succ _), _, _, rfl, (h3.gb hg (Nat.le_refl _)).up (Nat.le_succ _), rfl⟩
/-- Three at once: the order is one. -/
theorem order_three (a b c : Vl) : ¬ (cmpV a b ≤ 0 ∧ cmpV b c ≤ 0 ∧ 0 < cmpV a c) ∧ ¬ (cmpV a b < 0 ∧ cmpV b c < 0 ∧ 0 ≤ cmpV a c) := by
  refine ⟨fun ⟨h1, h2, h3⟩ => ?_, fun ⟨h1, h2, h3⟩ => ?_⟩
  · have := cmpV_all.trans a b c h1 h2
    omega
  · have h4 := cmpV_all.trans a b c (by omega) (by omega)
    have h5 : a = c := (cmpV_all.same a c).1 (by omega)
    subst h5
    have := cmpV_all.anti a b
    omega

set_option maxHeartbeats 16000000 in
set_option maxRecDepth 100000 in
theorem orders_any (a b c : Vl) (w : World) (nA : Option Addr) (nc : Nat) (sA : Option Addr) (sc : Nat) (lA : Option Addr) (lc : Nat) (nA' : Option Addr) (nc' : Nat) (sA' : Option Addr) (sc' : Nat) (lA' : Option Addr) (lc' : Nat) (nA'' : Option Addr) (nc'' : Nat) (sA'' : Option Addr) (sc'' : Nat) (lA'' : Option Addr) (lc'' : Nat) (ht : a.tot + b.tot + c.tot ≤ 1100000) (h : VB w w.heap.size a nA nc sA sc lA lc) (h' : VB w w.heap.size b nA' nc' sA' sc' lA' lc') (h'' : VB w w.heap.size c nA'' nc'' sA'' sc'' lA'' lc'') :
    Calls Try.prog 4 #[.agg #[.int .i64 a.t, .slice nA a.n.length nc, .slice sA a.s.length sc, .slice lA a.l.length lc], .agg #[.int .i64 b.t, .slice nA' b.n.length nc', .slice sA' b.s.length sc', .slice lA' b.l.length lc'], .agg #[.int .i64 c.t, .slice nA'' c.n.length nc'', .slice sA'' c.s.length sc'', .slice lA'' c.l.length lc'']] w fun e w' => e = .returned (.bool true) ∧ w.grownBy w' none := by
  have ha : a.tot ≤ 1100000 := by omega
  have hb : b.tot ≤ 1100000 := by omega
  have hc : c.tot ≤ 1100000 := by omega
  obtain ⟨wa, hwa⟩ : ∃ wa, wa = (((w).alloc (.cells #[.int .i64 a.t, .slice nA a.n.length nc, .slice sA a.s.length sc, .slice lA a.l.length lc] 26)).alloc (.cells #[.int .i64 b.t, .slice nA' b.n.length nc', .slice sA' b.s.length sc', .slice lA' b.l.length lc'] 26)).alloc (.cells #[.int .i64 c.t, .slice nA'' c.n.length nc'', .slice sA'' c.s.length sc'', .slice lA'' c.l.length lc''] 26) := ⟨_, rfl⟩
  have hg : w.grownBy wa none := by rw [hwa]; exact gb_alloc (gb_alloc (gb_alloc (gb_refl w none) _) _) _
  have hca := ((C4.box w (.int .i64 a.t) (.slice nA a.n.length nc) (.slice sA a.s.length sc) (.slice lA a.l.length lc) 26).gb (gb_alloc (gb_refl _ none) (.cells #[.int .i64 b.t, .slice nA' b.n.length nc', .slice sA' b.s.length sc', .slice lA' b.l.length lc'] 26))).gb (gb_alloc (gb_refl _ none) (.cells #[.int .i64 c.t, .slice nA'' c.n.length nc'', .slice sA'' c.s.length sc'', .slice lA'' c.l.length lc''] 26))
  have hcb := (C4.box2 w (.cells #[.int .i64 a.t, .slice nA a.n.length nc, .slice sA a.s.length sc, .slice lA a.l.length lc] 26) (.int .i64 b.t) (.slice nA' b.n.length nc') (.slice sA' b.s.length sc') (.slice lA' b.l.length lc') 26).gb (gb_alloc (gb_refl _ none) (.cells #[.int .i64 c.t, .slice nA'' c.n.length nc'', .slice sA'' c.s.length sc'', .slice lA'' c.l.length lc''] 26))
  have hcc := C4.box3 w (.cells #[.int .i64 a.t, .slice nA a.n.length nc, .slice sA a.s.length sc, .slice lA a.l.length lc] 26) (.cells #[.int .i64 b.t, .slice nA' b.n.length nc', .slice sA' b.s.length sc', .slice lA' b.l.length lc'] 26) (.int .i64 c.t) (.slice nA'' c.n.length nc'') (.slice sA'' c.s.length sc'') (.slice lA'' c.l.length lc'') 26
  have hsz : wa.heap.size = w.heap.size + 3 := by rw [hwa]; simp
  rw [← hwa] at hca hcb hcc
  have HCA := hide hca
  have HCB := hide hcb
  have HCC := hide hcc
  have hva := (h.gb hg (Nat.le_refl _)).up hg.size
  have hvb := (h'.gb hg (Nat.le_refl _)).up hg.size
  have hvc := (h''.gb hg (Nat.le_refl _)).up hg.size
  have HU : Hid (Calls Try.prog 7 #[.slice (some ⟨w.heap.size + 3, 0, none⟩) 3 3] (wa.alloc (.cells #[.int .i64 a.t, .slice nA a.n.length nc, .slice sA a.s.length sc, .slice lA a.l.length lc, .int .i64 b.t, .slice nA' b.n.length nc', .slice sA' b.s.length sc', .slice lA' b.l.length lc', .int .i64 c.t, .slice nA'' c.n.length nc'', .slice sA'' c.s.length sc'', .slice lA'' c.l.length lc''] 26)) fun e w' => e = .returned (.bool (hugeV [a, b, c])) ∧ (wa.alloc (.cells #[.int .i64 a.t, .slice nA a.n.length nc, .slice sA a.s.length sc, .slice lA a.l.length lc, .int .i64 b.t, .slice nA' b.n.length nc', .slice sA' b.s.length sc', .slice lA' b.l.length lc', .int .i64 c.t, .slice nA'' c.n.length nc'', .slice sA'' c.s.length sc'', .slice lA'' c.l.length lc''] 26)).grownBy w' none) := hide (by
    have hx := hugeV_any [a, b, c] (some ⟨wa.heap.size, 0, none⟩) 3 (wa.heap.size + 1) (wa.alloc (.cells #[.int .i64 a.t, .slice nA a.n.length nc, .slice sA a.s.length sc, .slice lA a.l.length lc, .int .i64 b.t, .slice nA' b.n.length nc', .slice sA' b.s.length sc', .slice lA' b.l.length lc', .int .i64 c.t, .slice nA'' c.n.length nc'', .slice sA'' c.s.length sc'', .slice lA'' c.l.length lc''] 26)) (by simp only [Vl.tots]; omega) (by simp) (RdV.lit3 hva.at_ hvb.at_ hvc.at_)
    rw [hsz] at hx
    exact hx)
  have HKa := hide (fun w2 (k : wa.grownBy w2 none) => rCheck_any a w2 w2.heap.size nA nc sA sc lA lc ha (Nat.le_refl _) ((hva.gb k (Nat.le_refl _)).up k.size))
  have HKb := hide (fun w2 (k : wa.grownBy w2 none) => rCheck_any b w2 w2.heap.size nA' nc' sA' sc' lA' lc' hb (Nat.le_refl _) ((hvb.gb k (Nat.le_refl _)).up k.size))
  have HKc := hide (fun w2 (k : wa.grownBy w2 none) => rCheck_any c w2 w2.heap.size nA'' nc'' sA'' sc'' lA'' lc'' hc (Nat.le_refl _) ((hvc.gb k (Nat.le_refl _)).up k.size))
  have HXab := hide (fun w2 (k : wa.grownBy w2 none) => vComp_any a b w2 wa.heap.size nA nc sA sc lA lc nA' nc' sA' sc' lA' lc' ha hb k.size (hva.gb k (Nat.le_refl _)) (hvb.gb k (Nat.le_refl _)))
  have HXbc := hide (fun w2 (k : wa.grownBy w2 none) => vComp_any b c w2 wa.heap.size nA' nc' sA' sc' lA' lc' nA'' nc'' sA'' sc'' lA'' lc'' hb hc k.size (hvb.gb k (Nat.le_refl _)) (hvc.gb k (Nat.le_refl _)))
  have HXac := hide (fun w2 (k : wa.grownBy w2 none) => vComp_any a c w2 wa.heap.size nA nc sA sc lA lc nA'' nc'' sA'' sc'' lA'' lc'' ha hc k.size (hva.gb k (Nat.le_refl _)) (hvc.gb k (Nat.le_refl _)))
  have HXba := hide (fun w2 (k : wa.grownBy w2 none) => vComp_any b a w2 wa.heap.size nA' nc' sA' sc' lA' lc' nA nc sA sc lA lc hb ha k.size (hvb.gb k (Nat.le_refl _)) (hva.gb k (Nat.le_refl _)))
  have HVM := hide (fun w2 (k : wa.grownBy w2 none) => vMatch_any a b w2 wa.heap.size nA nc sA sc lA lc nA' nc' sA' sc' lA' lc' ha hb k.size (hva.gb k (Nat.le_refl _)) (hvb.gb k (Nat.le_refl _)))
  have HRM := hide (fun w2 (k : wa.grownBy w2 none) => rMatch_any a b w2 wa.heap.size nA nc sA sc lA lc nA' nc' sA' sc' lA' lc' ha hb k.size (hva.gb k (Nat.le_refl _)) (hvb.gb k (Nat.le_refl _)))
  have HRC := hide (fun (oa : okD 32 a) (ob : okD 32 b) w2 (k : wa.grownBy w2 none) => rComp_any a b w2 wa.heap.size nA nc sA sc lA lc nA' nc' sA' sc' lA' lc' oa ob ha hb k.size (hva.gb k (Nat.le_refl _)) (hvb.gb k (Nat.le_refl _)))
  have HG := hide hg
  have HWE := hide hwa
  have okA := fun h => okD_check (v := a) h
  have okB := fun h => okD_check (v := b) h
  have H3 := order_three a b c
  have hxy := cmpV_all.val a b
  have hyy := cmpV_all.val b c
  have hzy := cmpV_all.val a c
  have hn := cmpV_all.anti a b
  have hm : Vl.same a b = decide (cmpV a b = 0) := by
    by_cases e : a = b
    · rw [(Vl.same_eq a b).2 e, decide_eq_true ((cmpV_all.same a b).2 e)]
    · rw [Vl.same_ne e, decide_eq_false (fun h => e ((cmpV_all.same a b).1 h))]
  clear ht ha hb hc h h' h'' hwa hg hca hcb hcc hsz hva hvb hvc
  by_cases hhu : hugeV [a, b, c] = true
  · rw [hhu] at HU
    clear hhu
    clear HXab HXbc HXac HXba HVM HRM HRC H3 hxy hyy hzy hn hm okA okB
    go_enter Try.func4, Try.ntmps4
    go_wp2_with fail
    rw [← HWE.out]
    go_wp2_with (first
      | (go_at_call 7; refine HU.out.mono ?_; rintro e w1 ⟨rfl, hg1⟩; have HG1 := hide (gb_trans (gb_alloc (gb_refl wa none) _) hg1 (.inl rfl)); clear hg1; have b0 := HCA.out.gb HG1.out; obtain ⟨p0, p1, p2, p3⟩ := b0; have b1 := HCB.out.gb HG1.out; obtain ⟨k0, k1, k2, k3⟩ := b1; have b2 := HCC.out.gb HG1.out; obtain ⟨q0, q1, q2, q3⟩ := b2)
      | (go_at_call 9; refine (live_any _).mono ?_; rintro e wz ⟨rfl, hgz⟩; have HGZ := hide hgz; clear hgz))
    go_ret
    exact ⟨rfl, gb_trans HG.out (gb_trans HG1.out HGZ.out (.inl rfl)) (.inl rfl)⟩
  have hhf : hugeV [a, b, c] = false := Bool.eq_false_iff.2 hhu
  rw [hhf] at HU
  clear hhu hhf
  by_cases hza : ¬ checkV a = 0
  · have hz1 : (checkV a != 0) = true := int_bne_f hza
    clear hza
    generalize checkV a = za at *
    clear HXab HXbc HXac HXba HVM HRM HRC H3 hxy hyy hzy hn hm okA okB
    go_enter Try.func4, Try.ntmps4
    go_wp2_with fail
    rw [← HWE.out]
    go_wp2_with (first
      | (go_at_call 7; refine HU.out.mono ?_; rintro e w1 ⟨rfl, hg1⟩; have HG1 := hide (gb_trans (gb_alloc (gb_refl wa none) _) hg1 (.inl rfl)); clear hg1; have b0 := HCA.out.gb HG1.out; obtain ⟨p0, p1, p2, p3⟩ := b0; have b1 := HCB.out.gb HG1.out; obtain ⟨k0, k1, k2, k3⟩ := b1; have b2 := HCC.out.gb HG1.out; obtain ⟨q0, q1, q2, q3⟩ := b2)
      | (go_at_call 8; (with_reducible refine (HKa.out w1 HG1.out).mono ?_); rintro e w2 ⟨rfl, hg2⟩; have HG2 := hide (gb_trans HG1.out hg2 (.inl rfl)); clear hg2; clear p0 p1 p2 p3 k0 k1 k2 k3 q0 q1 q2 q3; obtain ⟨p0, p1, p2, p3⟩ := HCA.out.gb HG2.out; obtain ⟨k0, k1, k2, k3⟩ := HCB.out.gb HG2.out; obtain ⟨q0, q1, q2, q3⟩ := HCC.out.gb HG2.out)
      | (go_at_call 9; refine (live_any _).mono ?_; rintro e wz ⟨rfl, hgz⟩; have HGZ := hide hgz; clear hgz))
    go_ret
    exact ⟨rfl, gb_trans HG.out (gb_trans HG2.out HGZ.out (.inl rfl)) (.inl rfl)⟩
  have hza := Classical.not_not.1 hza
  have hya : (checkV a != 0) = false := int_bne_t hza
  have oA := okA hza
  clear okA
  clear hza
  generalize checkV a = za at *
  by_cases hzb : ¬ checkV b = 0
  · have hz1 : (checkV b != 0) = true := int_bne_f hzb
    clear hzb
    generalize checkV b = zb at *
    clear HXab HXbc HXac HXba HVM HRM HRC H3 hxy hyy hzy hn hm oA okB
    go_enter Try.func4, Try.ntmps4
    go_wp2_with fail
    rw [← HWE.out]
    go_wp2_with (first
      | (go_at_call 7; refine HU.out.mono ?_; rintro e w1 ⟨rfl, hg1⟩; have HG1 := hide (gb_trans (gb_alloc (gb_refl wa none) _) hg1 (.inl rfl)); clear hg1; have b0 := HCA.out.gb HG1.out; obtain ⟨p0, p1, p2, p3⟩ := b0; have b1 := HCB.out.gb HG1.out; obtain ⟨k0, k1, k2, k3⟩ := b1; have b2 := HCC.out.gb HG1.out; obtain ⟨q0, q1, q2, q3⟩ := b2)
      | (go_at_call 8; (with_reducible refine (HKa.out w1 HG1.out).mono ?_); rintro e w2 ⟨rfl, hg2⟩; have HG2 := hide (gb_trans HG1.out hg2 (.inl rfl)); clear hg2; clear p0 p1 p2 p3 k0 k1 k2 k3 q0 q1 q2 q3; obtain ⟨p0, p1, p2, p3⟩ := HCA.out.gb HG2.out; obtain ⟨k0, k1, k2, k3⟩ := HCB.out.gb HG2.out; obtain ⟨q0, q1, q2, q3⟩ := HCC.out.gb HG2.out)
      | (go_at_call 8; (with_reducible refine (HKb.out w2 HG2.out).mono ?_); rintro e w3 ⟨rfl, hg3⟩; have HG3 := hide (gb_trans HG2.out hg3 (.inl rfl)); clear hg3; clear p0 p1 p2 p3 k0 k1 k2 k3 q0 q1 q2 q3; obtain ⟨p0, p1, p2, p3⟩ := HCA.out.gb HG3.out; obtain ⟨k0, k1, k2, k3⟩ := HCB.out.gb HG3.out; obtain ⟨q0, q1, q2, q3⟩ := HCC.out.gb HG3.out)
      | (go_at_call 9; refine (live_any _).mono ?_; rintro e wz ⟨rfl, hgz⟩; have HGZ := hide hgz; clear hgz))
    go_ret
    exact ⟨rfl, gb_trans HG.out (gb_trans HG3.out HGZ.out (.inl rfl)) (.inl rfl)⟩
  have hzb := Classical.not_not.1 hzb
  have hyb : (checkV b != 0) = false := int_bne_t hzb
  have oB := okB hzb
  clear okB
  clear hzb
  generalize checkV b = zb at *
  by_cases hzc : ¬ checkV c = 0
  · have hz1 : (checkV c != 0) = true := int_bne_f hzc
    clear hzc
    generalize checkV c = zc at *
    clear HXab HXbc HXac HXba HVM HRM HRC H3 hxy hyy hzy hn hm oA oB
    go_enter Try.func4, Try.ntmps4
    go_wp2_with fail
    rw [← HWE.out]
    go_wp2_with (first
      | (go_at_call 7; refine HU.out.mono ?_; rintro e w1 ⟨rfl, hg1⟩; have HG1 := hide (gb_trans (gb_alloc (gb_refl wa none) _) hg1 (.inl rfl)); clear hg1; have b0 := HCA.out.gb HG1.out; obtain ⟨p0, p1, p2, p3⟩ := b0; have b1 := HCB.out.gb HG1.out; obtain ⟨k0, k1, k2, k3⟩ := b1; have b2 := HCC.out.gb HG1.out; obtain ⟨q0, q1, q2, q3⟩ := b2)
      | (go_at_call 8; (with_reducible refine (HKa.out w1 HG1.out).mono ?_); rintro e w2 ⟨rfl, hg2⟩; have HG2 := hide (gb_trans HG1.out hg2 (.inl rfl)); clear hg2; clear p0 p1 p2 p3 k0 k1 k2 k3 q0 q1 q2 q3; obtain ⟨p0, p1, p2, p3⟩ := HCA.out.gb HG2.out; obtain ⟨k0, k1, k2, k3⟩ := HCB.out.gb HG2.out; obtain ⟨q0, q1, q2, q3⟩ := HCC.out.gb HG2.out)
      | (go_at_call 8; (with_reducible refine (HKb.out w2 HG2.out).mono ?_); rintro e w3 ⟨rfl, hg3⟩; have HG3 := hide (gb_trans HG2.out hg3 (.inl rfl)); clear hg3; clear p0 p1 p2 p3 k0 k1 k2 k3 q0 q1 q2 q3; obtain ⟨p0, p1, p2, p3⟩ := HCA.out.gb HG3.out; obtain ⟨k0, k1, k2, k3⟩ := HCB.out.gb HG3.out; obtain ⟨q0, q1, q2, q3⟩ := HCC.out.gb HG3.out)
      | (go_at_call 8; (with_reducible refine (HKc.out w3 HG3.out).mono ?_); rintro e w4 ⟨rfl, hg4⟩; have HG4 := hide (gb_trans HG3.out hg4 (.inl rfl)); clear hg4; clear p0 p1 p2 p3 k0 k1 k2 k3 q0 q1 q2 q3; obtain ⟨p0, p1, p2, p3⟩ := HCA.out.gb HG4.out; obtain ⟨k0, k1, k2, k3⟩ := HCB.out.gb HG4.out; obtain ⟨q0, q1, q2, q3⟩ := HCC.out.gb HG4.out)
      | (go_at_call 9; refine (live_any _).mono ?_; rintro e wz ⟨rfl, hgz⟩; have HGZ := hide hgz; clear hgz))
    go_ret
    exact ⟨rfl, gb_trans HG.out (gb_trans HG4.out HGZ.out (.inl rfl)) (.inl rfl)⟩
  have hzc := Classical.not_not.1 hzc
  have hyc : (checkV c != 0) = false := int_bne_t hzc
  clear hzc
  generalize checkV c = zc at *
  have HRC := hide (HRC.out oA oB)
  clear oA oB
  generalize cmpV a b = x at *
  generalize cmpV b c = y at *
  generalize cmpV a c = z at *
  generalize cmpV b a = n at *
  generalize Vl.same a b = m at *
  go_enter Try.func4, Try.ntmps4
  go_wp2_with fail
  rw [← HWE.out]
  go_upto_region 3 with (first
    | (go_at_call 7; refine HU.out.mono ?_; rintro e w1 ⟨rfl, hg1⟩; have HG1 := hide (gb_trans (gb_alloc (gb_refl wa none) _) hg1 (.inl rfl)); clear hg1; have b0 := HCA.out.gb HG1.out; obtain ⟨p0, p1, p2, p3⟩ := b0; have b1 := HCB.out.gb HG1.out; obtain ⟨k0, k1, k2, k3⟩ := b1; have b2 := HCC.out.gb HG1.out; obtain ⟨q0, q1, q2, q3⟩ := b2)
    | (go_at_call 8; (with_reducible refine (HKa.out w1 HG1.out).mono ?_); rintro e w2 ⟨rfl, hg2⟩; have HG2 := hide (gb_trans HG1.out hg2 (.inl rfl)); clear hg2; clear p0 p1 p2 p3 k0 k1 k2 k3 q0 q1 q2 q3; obtain ⟨p0, p1, p2, p3⟩ := HCA.out.gb HG2.out; obtain ⟨k0, k1, k2, k3⟩ := HCB.out.gb HG2.out; obtain ⟨q0, q1, q2, q3⟩ := HCC.out.gb HG2.out)
    | (go_at_call 8; (with_reducible refine (HKb.out w2 HG2.out).mono ?_); rintro e w3 ⟨rfl, hg3⟩; have HG3 := hide (gb_trans HG2.out hg3 (.inl rfl)); clear hg3; clear p0 p1 p2 p3 k0 k1 k2 k3 q0 q1 q2 q3; obtain ⟨p0, p1, p2, p3⟩ := HCA.out.gb HG3.out; obtain ⟨k0, k1, k2, k3⟩ := HCB.out.gb HG3.out; obtain ⟨q0, q1, q2, q3⟩ := HCC.out.gb HG3.out)
    | (go_at_call 8; (with_reducible refine (HKc.out w3 HG3.out).mono ?_); rintro e w4 ⟨rfl, hg4⟩; have HG4 := hide (gb_trans HG3.out hg4 (.inl rfl)); clear hg4; clear p0 p1 p2 p3 k0 k1 k2 k3 q0 q1 q2 q3; obtain ⟨p0, p1, p2, p3⟩ := HCA.out.gb HG4.out; obtain ⟨k0, k1, k2, k3⟩ := HCB.out.gb HG4.out; obtain ⟨q0, q1, q2, q3⟩ := HCC.out.gb HG4.out))
  clear p0 p1 p2 p3 k0 k1 k2 k3 q0 q1 q2 q3 HU HKa HKb HKc
  have HA4 := hide (HCA.out.gb HG4.out)
  have HB4 := hide (HCB.out.gb HG4.out)
  have HC4 := hide (HCC.out.gb HG4.out)
  refine wp_region_facts' 9 (by kernel_rfl) (by kernel_rfl) ?_
  intro A O W L HA HO HW HL
  simp only [List.take_succ_cons, List.take_zero]
  have HS := hide (show A.tmps.size = 93 by rw [HA.out]; rfl)
  have HGW := hide (show w4.grownBy W none by rw [HW.out]; exact gb_drew (gb_refl w4 none))
  have A3 := hide (show A.eval (.tmp 3) = .pointer (some ⟨w.heap.size, 0, none⟩) by rw [HA.out]; rfl)
  have A4 := hide (show A.eval (.tmp 4) = .pointer (some ⟨w.heap.size + 1, 0, none⟩) by rw [HA.out]; rfl)
  have A5 := hide (show A.eval (.tmp 5) = .pointer (some ⟨w.heap.size + 2, 0, none⟩) by rw [HA.out]; rfl)
  -- slot 31
  refine wpFacts_lit (.agg #[.int .i64 a.t, .slice nA a.n.length nc, .slice sA a.s.length sc, .slice lA a.l.length lc]) rfl ?_ ?_
  · intro aq wq hw hl
    have e3 : aq.tmps[3]?.getD undef = .pointer (some ⟨w.heap.size, 0, none⟩) := (hl 3 (by first | (simp [Op.operands]; done) | simp [Op.operands, Call.operands]) (by rw [HS.out]; decide)).trans A3.out
    obtain ⟨c0, c1, c2, c3⟩ := HA4.out.gb (gb_trans HGW.out hw (.inl rfl))
    clear hl
    go_simp
  -- slot 32
  refine wpFacts_lit (.agg #[.int .i64 b.t, .slice nA' b.n.length nc', .slice sA' b.s.length sc', .slice lA' b.l.length lc']) rfl ?_ ?_
  · intro aq wq hw hl
    have e4 : aq.tmps[4]?.getD undef = .pointer (some ⟨w.heap.size + 1, 0, none⟩) := (hl 4 (by first | (simp [Op.operands]; done) | simp [Op.operands, Call.operands]) (by rw [HS.out]; decide)).trans A4.out
    obtain ⟨c0, c1, c2, c3⟩ := HB4.out.gb (gb_trans HGW.out hw (.inl rfl))
    clear hl
    go_simp
  -- slot 33
  refine wpFacts_step (fun vq _ => vq = .int .i64 x) rfl (Lit.up _) ?_ ?_
  · intro aq wq hw hl
    have e31 : aq.tmps[31]?.getD undef = .agg #[.int .i64 a.t, .slice nA a.n.length nc, .slice sA a.s.length sc, .slice lA a.l.length lc] := hl 31 (by first | (simp [Op.operands]; done) | simp [Op.operands, Call.operands]) (by rw [HS.out]; decide)
    have e32 : aq.tmps[32]?.getD undef = .agg #[.int .i64 b.t, .slice nA' b.n.length nc', .slice sA' b.s.length sc', .slice lA' b.l.length lc'] := hl 32 (by first | (simp [Op.operands]; done) | simp [Op.operands, Call.operands]) (by rw [HS.out]; decide)
    clear hl
    go_simp
    exact gUpon_lit (HXab.out wq (gb_trans HG4.out (gb_trans HGW.out hw (.inl rfl)) (.inl rfl)))
  -- slot 34
  refine wpFacts_lit (.agg #[.int .i64 b.t, .slice nA' b.n.length nc', .slice sA' b.s.length sc', .slice lA' b.l.length lc']) rfl ?_ ?_
  · intro aq wq hw hl
    have e4 : aq.tmps[4]?.getD undef = .pointer (some ⟨w.heap.size + 1, 0, none⟩) := (hl 4 (by first | (simp [Op.operands]; done) | simp [Op.operands, Call.operands]) (by rw [HS.out]; decide)).trans A4.out
    obtain ⟨c0, c1, c2, c3⟩ := HB4.out.gb (gb_trans HGW.out hw (.inl rfl))
    clear hl
    go_simp
  -- slot 35
  refine wpFacts_lit (.agg #[.int .i64 c.t, .slice nA'' c.n.length nc'', .slice sA'' c.s.length sc'', .slice lA'' c.l.length lc'']) rfl ?_ ?_
  · intro aq wq hw hl
    have e5 : aq.tmps[5]?.getD undef = .pointer (some ⟨w.heap.size + 2, 0, none⟩) := (hl 5 (by first | (simp [Op.operands]; done) | simp [Op.operands, Call.operands]) (by rw [HS.out]; decide)).trans A5.out
    obtain ⟨c0, c1, c2, c3⟩ := HC4.out.gb (gb_trans HGW.out hw (.inl rfl))
    clear hl
    go_simp
  -- slot 36
  refine wpFacts_step (fun vq _ => vq = .int .i64 y) rfl (Lit.up _) ?_ ?_
  · intro aq wq hw hl
    have e34 : aq.tmps[34]?.getD undef = .agg #[.int .i64 b.t, .slice nA' b.n.length nc', .slice sA' b.s.length sc', .slice lA' b.l.length lc'] := hl 34 (by first | (simp [Op.operands]; done) | simp [Op.operands, Call.operands]) (by rw [HS.out]; decide)
    have e35 : aq.tmps[35]?.getD undef = .agg #[.int .i64 c.t, .slice nA'' c.n.length nc'', .slice sA'' c.s.length sc'', .slice lA'' c.l.length lc''] := hl 35 (by first | (simp [Op.operands]; done) | simp [Op.operands, Call.operands]) (by rw [HS.out]; decide)
    clear hl
    go_simp
    exact gUpon_lit (HXbc.out wq (gb_trans HG4.out (gb_trans HGW.out hw (.inl rfl)) (.inl rfl)))
  -- slot 37
  refine wpFacts_lit (.agg #[.int .i64 a.t, .slice nA a.n.length nc, .slice sA a.s.length sc, .slice lA a.l.length lc]) rfl ?_ ?_
  · intro aq wq hw hl
    have e3 : aq.tmps[3]?.getD undef = .pointer (some ⟨w.heap.size, 0, none⟩) := (hl 3 (by first | (simp [Op.operands]; done) | simp [Op.operands, Call.operands]) (by rw [HS.out]; decide)).trans A3.out
    obtain ⟨c0, c1, c2, c3⟩ := HA4.out.gb (gb_trans HGW.out hw (.inl rfl))
    clear hl
    go_simp
  -- slot 38
  refine wpFacts_lit (.agg #[.int .i64 c.t, .slice nA'' c.n.length nc'', .slice sA'' c.s.length sc'', .slice lA'' c.l.length lc'']) rfl ?_ ?_
  · intro aq wq hw hl
    have e5 : aq.tmps[5]?.getD undef = .pointer (some ⟨w.heap.size + 2, 0, none⟩) := (hl 5 (by first | (simp [Op.operands]; done) | simp [Op.operands, Call.operands]) (by rw [HS.out]; decide)).trans A5.out
    obtain ⟨c0, c1, c2, c3⟩ := HC4.out.gb (gb_trans HGW.out hw (.inl rfl))
    clear hl
    go_simp
  -- slot 39
  refine wpFacts_step (fun vq _ => vq = .int .i64 z) rfl (Lit.up _) ?_ ?_
  · intro aq wq hw hl
    have e37 : aq.tmps[37]?.getD undef = .agg #[.int .i64 a.t, .slice nA a.n.length nc, .slice sA a.s.length sc, .slice lA a.l.length lc] := hl 37 (by first | (simp [Op.operands]; done) | simp [Op.operands, Call.operands]) (by rw [HS.out]; decide)
    have e38 : aq.tmps[38]?.getD undef = .agg #[.int .i64 c.t, .slice nA'' c.n.length nc'', .slice sA'' c.s.length sc'', .slice lA'' c.l.length lc''] := hl 38 (by first | (simp [Op.operands]; done) | simp [Op.operands, Call.operands]) (by rw [HS.out]; decide)
    clear hl
    go_simp
    exact gUpon_lit (HXac.out wq (gb_trans HG4.out (gb_trans HGW.out hw (.inl rfl)) (.inl rfl)))
  refine HL.out _ (fun a' w5 hc => ?_)
  have e33 : a'.eval (.tmp 33) = .int .i64 x := hc.fact 33 (by rw [HS.out]; decide)
  have e36 : a'.eval (.tmp 36) = .int .i64 y := hc.fact 36 (by rw [HS.out]; decide)
  have e39 : a'.eval (.tmp 39) = .int .i64 z := hc.fact 39 (by rw [HS.out]; decide)
  have hgw5 := gb_trans HGW.out hc.grown (.inl rfl)
  have hfr := hc.frame [31, 32, 33, 34, 35, 36, 37, 38, 39, 7, 8, 9] (by rw [HO.out]; kernel_rfl)
  rw [hfr]
  clear hfr hc
  rw [HA.out]
  clear HA HO HL HW HS HGW A3 A4 A5
  clear A O W L
  simp only [List.drop_succ_cons, List.drop_zero, List.foldl_cons, List.foldl_nil, Act.put, List.setIfInBounds_toArray, List.set_cons_succ, List.set_cons_zero]
  rw [e33, e36, e39]
  generalize a'.eval (.tmp 31) = x31
  generalize a'.eval (.tmp 32) = x32
  generalize a'.eval (.tmp 34) = x34
  generalize a'.eval (.tmp 35) = x35
  generalize a'.eval (.tmp 37) = x37
  generalize a'.eval (.tmp 38) = x38
  generalize a'.eval (.tmp 7) = x7
  generalize a'.eval (.tmp 8) = x8
  generalize a'.eval (.tmp 9) = x9
  clear e33 e36 e39
  clear a'
  have HG5 := hide (gb_trans HG4.out hgw5 (.inl rfl))
  clear hgw5 HA4 HB4 HC4 HXab HXbc HXac
  have HA5 := hide (HCA.out.gb HG5.out)
  have HB5 := hide (HCB.out.gb HG5.out)
  have HC5 := hide (HCC.out.gb HG5.out)
  rcases hxy with rfl | rfl | rfl
  · obtain rfl : n = 1 := by omega
    obtain rfl : m = false := by rw [hm]; rfl
    clear hn hm
    go_wp2_with fail
    refine wp_region_facts' 29 (by kernel_rfl) (by kernel_rfl) ?_
    intro A O W L HA HO HW HL
    simp only [List.take_succ_cons, List.take_zero]
    have HS := hide (show A.tmps.size = 93 by rw [HA.out]; rfl)
    have HGW := hide (show w5.grownBy W none by rw [HW.out]; exact gb_drew (gb_refl w5 none))
    have A3 := hide (show A.eval (.tmp 3) = .pointer (some ⟨w.heap.size, 0, none⟩) by rw [HA.out]; rfl)
    have A4 := hide (show A.eval (.tmp 4) = .pointer (some ⟨w.heap.size + 1, 0, none⟩) by rw [HA.out]; rfl)
    have A5 := hide (show A.eval (.tmp 5) = .pointer (some ⟨w.heap.size + 2, 0, none⟩) by rw [HA.out]; rfl)
    have A7 := hide (show A.eval (.tmp 7) = .int .i64 (-1) by rw [HA.out]; rfl)
    -- slot 40
    refine wpFacts_lit (.int .i64 (-1)) rfl ?_ ?_
    · intro aq wq hw hl
      have e7 : aq.tmps[7]?.getD undef = .int .i64 (-1) := (hl 7 (by first | (simp [Op.operands]; done) | simp [Op.operands, Call.operands]) (by rw [HS.out]; decide)).trans A7.out
      clear hl
      go_simp
    -- slot 41
    refine wpFacts_lit (.agg #[.int .i64 a.t, .slice nA a.n.length nc, .slice sA a.s.length sc, .slice lA a.l.length lc]) rfl ?_ ?_
    · intro aq wq hw hl
      have e3 : aq.tmps[3]?.getD undef = .pointer (some ⟨w.heap.size, 0, none⟩) := (hl 3 (by first | (simp [Op.operands]; done) | simp [Op.operands, Call.operands]) (by rw [HS.out]; decide)).trans A3.out
      obtain ⟨c0, c1, c2, c3⟩ := HA5.out.gb (gb_trans HGW.out hw (.inl rfl))
      clear hl
      go_simp
    -- slot 42
    refine wpFacts_lit (.agg #[.int .i64 b.t, .slice nA' b.n.length nc', .slice sA' b.s.length sc', .slice lA' b.l.length lc']) rfl ?_ ?_
    · intro aq wq hw hl
      have e4 : aq.tmps[4]?.getD undef = .pointer (some ⟨w.heap.size + 1, 0, none⟩) := (hl 4 (by first | (simp [Op.operands]; done) | simp [Op.operands, Call.operands]) (by rw [HS.out]; decide)).trans A4.out
      obtain ⟨c0, c1, c2, c3⟩ := HB5.out.gb (gb_trans HGW.out hw (.inl rfl))
      clear hl
      go_simp
    -- slot 43
    refine wpFacts_step (fun vq _ => vq = .int .i64 (-1)) rfl (Lit.up _) ?_ ?_
    · intro aq wq hw hl
      have e41 : aq.tmps[41]?.getD undef = .agg #[.int .i64 a.t, .slice nA a.n.length nc, .slice sA a.s.length sc, .slice lA a.l.length lc] := hl 41 (by first | (simp [Op.operands]; done) | simp [Op.operands, Call.operands]) (by rw [HS.out]; decide)
      have e42 : aq.tmps[42]?.getD undef = .agg #[.int .i64 b.t, .slice nA' b.n.length nc', .slice sA' b.s.length sc', .slice lA' b.l.length lc'] := hl 42 (by first | (simp [Op.operands]; done) | simp [Op.operands, Call.operands]) (by rw [HS.out]; decide)
      clear hl
      go_simp
      exact gUpon_lit (HRC.out wq (gb_trans HG5.out (gb_trans HGW.out hw (.inl rfl)) (.inl rfl)))
    -- slot 44
    refine wpFacts_lit (.bool false) rfl ?_ ?_
    · intro aq wq hw hl
      have e40 : aq.tmps[40]?.getD undef = .int .i64 (-1) := hl 40 (by first | (simp [Op.operands]; done) | simp [Op.operands, Call.operands]) (by rw [HS.out]; decide)
      have e43 : aq.tmps[43]?.getD undef = .int .i64 (-1) := hl 43 (by first | (simp [Op.operands]; done) | simp [Op.operands, Call.operands]) (by rw [HS.out]; decide)
      clear hl
      go_simp
    -- slot 45
    refine wpFacts_lit (.bool false) rfl ?_ ?_
    · intro aq wq hw hl
      have e44 : aq.tmps[44]?.getD undef = .bool false := hl 44 (by first | (simp [Op.operands]; done) | simp [Op.operands, Call.operands]) (by rw [HS.out]; decide)
      clear hl
      go_simp
    -- slot 46
    refine wpFacts_litG (.agg #[.int .i64 a.t, .slice nA a.n.length nc, .slice sA a.s.length sc, .slice lA a.l.length lc]) 5 false 45 rfl (by rw [HO.out]; rfl) (by rw [HS.out]; decide) (fun _ _ h => h) ?_ ?_
    · intro aq wq hw hl
      have e3 : aq.tmps[3]?.getD undef = .pointer (some ⟨w.heap.size, 0, none⟩) := (hl 3 (by first | (simp [Op.operands]; done) | simp [Op.operands, Call.operands]) (by rw [HS.out]; decide)).trans A3.out
      obtain ⟨c0, c1, c2, c3⟩ := HA5.out.gb (gb_trans HGW.out hw (.inl rfl))
      clear hl
      go_simp
    -- slot 47
    refine wpFacts_litG (.agg #[.int .i64 b.t, .slice nA' b.n.length nc', .slice sA' b.s.length sc', .slice lA' b.l.length lc']) 5 false 45 rfl (by rw [HO.out]; rfl) (by rw [HS.out]; decide) (fun _ _ h => h) ?_ ?_
    · intro aq wq hw hl
      have e4 : aq.tmps[4]?.getD undef = .pointer (some ⟨w.heap.size + 1, 0, none⟩) := (hl 4 (by first | (simp [Op.operands]; done) | simp [Op.operands, Call.operands]) (by rw [HS.out]; decide)).trans A4.out
      obtain ⟨c0, c1, c2, c3⟩ := HB5.out.gb (gb_trans HGW.out hw (.inl rfl))
      clear hl
      go_simp
    -- slot 48
    refine wpFacts_stepG (fun vq _ => vq = .bool false) 5 false 45 rfl (by rw [HO.out]; rfl) (by rw [HS.out]; decide) (fun _ _ h => h) (Lit.up _) ?_ ?_
    · intro aq wq hw hl
      have e46 : aq.tmps[46]?.getD undef = .agg #[.int .i64 a.t, .slice nA a.n.length nc, .slice sA a.s.length sc, .slice lA a.l.length lc] := hl 46 (by first | (simp [Op.operands]; done) | simp [Op.operands, Call.operands]) (by rw [HS.out]; decide)
      have e47 : aq.tmps[47]?.getD undef = .agg #[.int .i64 b.t, .slice nA' b.n.length nc', .slice sA' b.s.length sc', .slice lA' b.l.length lc'] := hl 47 (by first | (simp [Op.operands]; done) | simp [Op.operands, Call.operands]) (by rw [HS.out]; decide)
      clear hl
      go_simp
      exact gUpon_lit (HVM.out wq (gb_trans HG5.out (gb_trans HGW.out hw (.inl rfl)) (.inl rfl)))
    -- slot 49
    refine wpFacts_litG (.agg #[.int .i64 a.t, .slice nA a.n.length nc, .slice sA a.s.length sc, .slice lA a.l.length lc]) 5 false 45 rfl (by rw [HO.out]; rfl) (by rw [HS.out]; decide) (fun _ _ h => h) ?_ ?_
    · intro aq wq hw hl
      have e3 : aq.tmps[3]?.getD undef = .pointer (some ⟨w.heap.size, 0, none⟩) := (hl 3 (by first | (simp [Op.operands]; done) | simp [Op.operands, Call.operands]) (by rw [HS.out]; decide)).trans A3.out
      obtain ⟨c0, c1, c2, c3⟩ := HA5.out.gb (gb_trans HGW.out hw (.inl rfl))
      clear hl
      go_simp
    -- slot 50
    refine wpFacts_litG (.agg #[.int .i64 b.t, .slice nA' b.n.length nc', .slice sA' b.s.length sc', .slice lA' b.l.length lc']) 5 false 45 rfl (by rw [HO.out]; rfl) (by rw [HS.out]; decide) (fun _ _ h => h) ?_ ?_
    · intro aq wq hw hl
      have e4 : aq.tmps[4]?.getD undef = .pointer (some ⟨w.heap.size + 1, 0, none⟩) := (hl 4 (by first | (simp [Op.operands]; done) | simp [Op.operands, Call.operands]) (by rw [HS.out]; decide)).trans A4.out
      obtain ⟨c0, c1, c2, c3⟩ := HB5.out.gb (gb_trans HGW.out hw (.inl rfl))
      clear hl
      go_simp
    -- slot 51
    refine wpFacts_stepG (fun vq _ => vq = .bool false) 5 false 45 rfl (by rw [HO.out]; rfl) (by rw [HS.out]; decide) (fun _ _ h => h) (Lit.up _) ?_ ?_
    · intro aq wq hw hl
      have e49 : aq.tmps[49]?.getD undef = .agg #[.int .i64 a.t, .slice nA a.n.length nc, .slice sA a.s.length sc, .slice lA a.l.length lc] := hl 49 (by first | (simp [Op.operands]; done) | simp [Op.operands, Call.operands]) (by rw [HS.out]; decide)
      have e50 : aq.tmps[50]?.getD undef = .agg #[.int .i64 b.t, .slice nA' b.n.length nc', .slice sA' b.s.length sc', .slice lA' b.l.length lc'] := hl 50 (by first | (simp [Op.operands]; done) | simp [Op.operands, Call.operands]) (by rw [HS.out]; decide)
      clear hl
      go_simp
      exact gUpon_lit (HRM.out wq (gb_trans HG5.out (gb_trans HGW.out hw (.inl rfl)) (.inl rfl)))
    -- slot 52
    refine wpFacts_litG (.bool false) 5 false 45 rfl (by rw [HO.out]; rfl) (by rw [HS.out]; decide) (fun _ _ h => h) ?_ ?_
    · intro aq wq hw hl
      have e48 : aq.tmps[48]?.getD undef = .bool false := hl 48 (by first | (simp [Op.operands]; done) | simp [Op.operands, Call.operands]) (by rw [HS.out]; decide)
      have e51 : aq.tmps[51]?.getD undef = .bool false := hl 51 (by first | (simp [Op.operands]; done) | simp [Op.operands, Call.operands]) (by rw [HS.out]; decide)
      clear hl
      go_simp
    -- slot 53
    refine wpFacts_lit (.bool false) rfl ?_ ?_
    · intro aq wq hw hl
      have e45 : aq.tmps[45]?.getD undef = .bool false := hl 45 (by first | (simp [Op.operands]; done) | simp [Op.operands, Call.operands]) (by rw [HS.out]; decide)
      have e52 : aq.tmps[52]?.getD undef = .bool false := hl 52 (by first | (simp [Op.operands]; done) | simp [Op.operands, Call.operands]) (by rw [HS.out]; decide)
      clear hl
      go_simp
    -- slot 54
    refine wpFacts_lit (.bool false) rfl ?_ ?_
    · intro aq wq hw hl
      have e53 : aq.tmps[53]?.getD undef = .bool false := hl 53 (by first | (simp [Op.operands]; done) | simp [Op.operands, Call.operands]) (by rw [HS.out]; decide)
      clear hl
      go_simp
    -- slot 55
    refine wpFacts_litG (.agg #[.int .i64 a.t, .slice nA a.n.length nc, .slice sA a.s.length sc, .slice lA a.l.length lc]) 14 false 54 rfl (by rw [HO.out]; rfl) (by rw [HS.out]; decide) (fun _ _ h => h) ?_ ?_
    · intro aq wq hw hl
      have e3 : aq.tmps[3]?.getD undef = .pointer (some ⟨w.heap.size, 0, none⟩) := (hl 3 (by first | (simp [Op.operands]; done) | simp [Op.operands, Call.operands]) (by rw [HS.out]; decide)).trans A3.out
      obtain ⟨c0, c1, c2, c3⟩ := HA5.out.gb (gb_trans HGW.out hw (.inl rfl))
      clear hl
      go_simp
    -- slot 56
    refine wpFacts_litG (.agg #[.int .i64 b.t, .slice nA' b.n.length nc', .slice sA' b.s.length sc', .slice lA' b.l.length lc']) 14 false 54 rfl (by rw [HO.out]; rfl) (by rw [HS.out]; decide) (fun _ _ h => h) ?_ ?_
    · intro aq wq hw hl
      have e4 : aq.tmps[4]?.getD undef = .pointer (some ⟨w.heap.size + 1, 0, none⟩) := (hl 4 (by first | (simp [Op.operands]; done) | simp [Op.operands, Call.operands]) (by rw [HS.out]; decide)).trans A4.out
      obtain ⟨c0, c1, c2, c3⟩ := HB5.out.gb (gb_trans HGW.out hw (.inl rfl))
      clear hl
      go_simp
    -- slot 57
    refine wpFacts_stepG (fun vq _ => vq = .bool false) 14 false 54 rfl (by rw [HO.out]; rfl) (by rw [HS.out]; decide) (fun _ _ h => h) (Lit.up _) ?_ ?_
    · intro aq wq hw hl
      have e55 : aq.tmps[55]?.getD undef = .agg #[.int .i64 a.t, .slice nA a.n.length nc, .slice sA a.s.length sc, .slice lA a.l.length lc] := hl 55 (by first | (simp [Op.operands]; done) | simp [Op.operands, Call.operands]) (by rw [HS.out]; decide)
      have e56 : aq.tmps[56]?.getD undef = .agg #[.int .i64 b.t, .slice nA' b.n.length nc', .slice sA' b.s.length sc', .slice lA' b.l.length lc'] := hl 56 (by first | (simp [Op.operands]; done) | simp [Op.operands, Call.operands]) (by rw [HS.out]; decide)
      clear hl
      go_simp
      exact gUpon_lit (HVM.out wq (gb_trans HG5.out (gb_trans HGW.out hw (.inl rfl)) (.inl rfl)))
    -- slot 58
    refine wpFacts_litG (.int .i64 (-1)) 14 false 54 rfl (by rw [HO.out]; rfl) (by rw [HS.out]; decide) (fun _ _ h => h) ?_ ?_
    · intro aq wq hw hl
      have e7 : aq.tmps[7]?.getD undef = .int .i64 (-1) := (hl 7 (by first | (simp [Op.operands]; done) | simp [Op.operands, Call.operands]) (by rw [HS.out]; decide)).trans A7.out
      clear hl
      go_simp
    -- slot 59
    refine wpFacts_litG (.bool false) 14 false 54 rfl (by rw [HO.out]; rfl) (by rw [HS.out]; decide) (fun _ _ h => h) ?_ ?_
    · intro aq wq hw hl
      have e58 : aq.tmps[58]?.getD undef = .int .i64 (-1) := hl 58 (by first | (simp [Op.operands]; done) | simp [Op.operands, Call.operands]) (by rw [HS.out]; decide)
      clear hl
      go_simp
    -- slot 60
    refine wpFacts_litG (.bool false) 14 false 54 rfl (by rw [HO.out]; rfl) (by rw [HS.out]; decide) (fun _ _ h => h) ?_ ?_
    · intro aq wq hw hl
      have e57 : aq.tmps[57]?.getD undef = .bool false := hl 57 (by first | (simp [Op.operands]; done) | simp [Op.operands, Call.operands]) (by rw [HS.out]; decide)
      have e59 : aq.tmps[59]?.getD undef = .bool false := hl 59 (by first | (simp [Op.operands]; done) | simp [Op.operands, Call.operands]) (by rw [HS.out]; decide)
      clear hl
      go_simp
    -- slot 61
    refine wpFacts_lit (.bool false) rfl ?_ ?_
    · intro aq wq hw hl
      have e54 : aq.tmps[54]?.getD undef = .bool false := hl 54 (by first | (simp [Op.operands]; done) | simp [Op.operands, Call.operands]) (by rw [HS.out]; decide)
      have e60 : aq.tmps[60]?.getD undef = .bool false := hl 60 (by first | (simp [Op.operands]; done) | simp [Op.operands, Call.operands]) (by rw [HS.out]; decide)
      clear hl
      go_simp
    -- slot 62
    refine wpFacts_lit (.bool false) rfl ?_ ?_
    · intro aq wq hw hl
      have e61 : aq.tmps[61]?.getD undef = .bool false := hl 61 (by first | (simp [Op.operands]; done) | simp [Op.operands, Call.operands]) (by rw [HS.out]; decide)
      clear hl
      go_simp
    -- slot 63
    refine wpFacts_litG (.agg #[.int .i64 b.t, .slice nA' b.n.length nc', .slice sA' b.s.length sc', .slice lA' b.l.length lc']) 22 false 62 rfl (by rw [HO.out]; rfl) (by rw [HS.out]; decide) (fun _ _ h => h) ?_ ?_
    · intro aq wq hw hl
      have e4 : aq.tmps[4]?.getD undef = .pointer (some ⟨w.heap.size + 1, 0, none⟩) := (hl 4 (by first | (simp [Op.operands]; done) | simp [Op.operands, Call.operands]) (by rw [HS.out]; decide)).trans A4.out
      obtain ⟨c0, c1, c2, c3⟩ := HB5.out.gb (gb_trans HGW.out hw (.inl rfl))
      clear hl
      go_simp
    -- slot 64
    refine wpFacts_litG (.agg #[.int .i64 a.t, .slice nA a.n.length nc, .slice sA a.s.length sc, .slice lA a.l.length lc]) 22 false 62 rfl (by rw [HO.out]; rfl) (by rw [HS.out]; decide) (fun _ _ h => h) ?_ ?_
    · intro aq wq hw hl
      have e3 : aq.tmps[3]?.getD undef = .pointer (some ⟨w.heap.size, 0, none⟩) := (hl 3 (by first | (simp [Op.operands]; done) | simp [Op.operands, Call.operands]) (by rw [HS.out]; decide)).trans A3.out
      obtain ⟨c0, c1, c2, c3⟩ := HA5.out.gb (gb_trans HGW.out hw (.inl rfl))
      clear hl
      go_simp
    -- slot 65
    refine wpFacts_stepG (fun vq _ => vq = .int .i64 1) 22 false 62 rfl (by rw [HO.out]; rfl) (by rw [HS.out]; decide) (fun _ _ h => h) (Lit.up _) ?_ ?_
    · intro aq wq hw hl
      have e63 : aq.tmps[63]?.getD undef = .agg #[.int .i64 b.t, .slice nA' b.n.length nc', .slice sA' b.s.length sc', .slice lA' b.l.length lc'] := hl 63 (by first | (simp [Op.operands]; done) | simp [Op.operands, Call.operands]) (by rw [HS.out]; decide)
      have e64 : aq.tmps[64]?.getD undef = .agg #[.int .i64 a.t, .slice nA a.n.length nc, .slice sA a.s.length sc, .slice lA a.l.length lc] := hl 64 (by first | (simp [Op.operands]; done) | simp [Op.operands, Call.operands]) (by rw [HS.out]; decide)
      clear hl
      go_simp
      exact gUpon_lit (HXba.out wq (gb_trans HG5.out (gb_trans HGW.out hw (.inl rfl)) (.inl rfl)))
    -- slot 66
    refine wpFacts_litG (.int .i64 (-1)) 22 false 62 rfl (by rw [HO.out]; rfl) (by rw [HS.out]; decide) (fun _ _ h => h) ?_ ?_
    · intro aq wq hw hl
      have e7 : aq.tmps[7]?.getD undef = .int .i64 (-1) := (hl 7 (by first | (simp [Op.operands]; done) | simp [Op.operands, Call.operands]) (by rw [HS.out]; decide)).trans A7.out
      clear hl
      go_simp
    -- slot 67
    refine wpFacts_litG (.int .i64 1) 22 false 62 rfl (by rw [HO.out]; rfl) (by rw [HS.out]; decide) (fun _ _ h => h) ?_ ?_
    · intro aq wq hw hl
      have e66 : aq.tmps[66]?.getD undef = .int .i64 (-1) := hl 66 (by first | (simp [Op.operands]; done) | simp [Op.operands, Call.operands]) (by rw [HS.out]; decide)
      clear hl
      go_simp
      first | rfl | decide | (exact of_decide_eq_true (by kernel_rfl))
    -- slot 68
    refine wpFacts_litG (.bool false) 22 false 62 rfl (by rw [HO.out]; rfl) (by rw [HS.out]; decide) (fun _ _ h => h) ?_ ?_
    · intro aq wq hw hl
      have e65 : aq.tmps[65]?.getD undef = .int .i64 1 := hl 65 (by first | (simp [Op.operands]; done) | simp [Op.operands, Call.operands]) (by rw [HS.out]; decide)
      have e67 : aq.tmps[67]?.getD undef = .int .i64 1 := hl 67 (by first | (simp [Op.operands]; done) | simp [Op.operands, Call.operands]) (by rw [HS.out]; decide)
      clear hl
      go_simp
    refine HL.out _ (fun a' w6 hc => ?_)
    have e62 : a'.eval (.tmp 62) = .bool false := hc.fact 62 (by rw [HS.out]; decide)
    have e68 : a'.eval (.tmp 68) = .bool false := hc.fact 68 (by rw [HS.out]; decide)
    have hgw6 := gb_trans HGW.out hc.grown (.inl rfl)
    have hfr := hc.frame [40, 41, 42, 43, 44, 45, 46, 47, 48, 49, 50, 51, 52, 53, 54, 55, 56, 57, 58, 59, 60, 61, 62, 63, 64, 65, 66, 67, 68, 69] (by rw [HO.out]; kernel_rfl)
    rw [hfr]
    clear hfr hc
    rw [HA.out]
    clear HA HO HL HW HS HGW A3 A4 A5 A7
    clear A O W L
    simp only [List.drop_succ_cons, List.drop_zero, List.foldl_cons, List.foldl_nil, Act.put, List.setIfInBounds_toArray, List.set_cons_succ, List.set_cons_zero]
    rw [e62, e68]
    generalize a'.eval (.tmp 40) = x40
    generalize a'.eval (.tmp 41) = x41
    generalize a'.eval (.tmp 42) = x42
    generalize a'.eval (.tmp 43) = x43
    generalize a'.eval (.tmp 44) = x44
    generalize a'.eval (.tmp 45) = x45
    generalize a'.eval (.tmp 46) = x46
    generalize a'.eval (.tmp 47) = x47
    generalize a'.eval (.tmp 48) = x48
    generalize a'.eval (.tmp 49) = x49
    generalize a'.eval (.tmp 50) = x50
    generalize a'.eval (.tmp 51) = x51
    generalize a'.eval (.tmp 52) = x52
    generalize a'.eval (.tmp 53) = x53
    generalize a'.eval (.tmp 54) = x54
    generalize a'.eval (.tmp 55) = x55
    generalize a'.eval (.tmp 56) = x56
    generalize a'.eval (.tmp 57) = x57
    generalize a'.eval (.tmp 58) = x58
    generalize a'.eval (.tmp 59) = x59
    generalize a'.eval (.tmp 60) = x60
    generalize a'.eval (.tmp 61) = x61
    generalize a'.eval (.tmp 63) = x63
    generalize a'.eval (.tmp 64) = x64
    generalize a'.eval (.tmp 65) = x65
    generalize a'.eval (.tmp 66) = x66
    generalize a'.eval (.tmp 67) = x67
    generalize a'.eval (.tmp 69) = x69
    clear e62 e68
    clear a'
    have HG6 := hide (gb_trans HG5.out hgw6 (.inl rfl))
    clear hgw6 HA5 HB5 HC5 HRC HVM HRM HXba
    rcases hyy with rfl | rfl | rfl <;> rcases hzy with rfl | rfl | rfl
    all_goals first
      | (exfalso; have h1 := H3.1; have h2 := H3.2; omega)
      | skip
    all_goals clear H3
    all_goals
      go_wp2_with (go_at_call 9; refine (live_any _).mono ?_; rintro e wz ⟨rfl, hgz⟩; have HGZ := hide hgz; clear hgz)
      go_ret
      exact ⟨rfl, gb_trans HG.out (gb_trans HG6.out HGZ.out (.inl rfl)) (.inl rfl)⟩
  · obtain rfl : n = 0 := by omega
    obtain rfl : m = true := by rw [hm]; rfl
    clear hn hm
    go_wp2_with fail
    refine wp_region_facts' 29 (by kernel_rfl) (by kernel_rfl) ?_
    intro A O W L HA HO HW HL
    simp only [List.take_succ_cons, List.take_zero]
    have HS := hide (show A.tmps.size = 93 by rw [HA.out]; rfl)
    have HGW := hide (show w5.grownBy W none by rw [HW.out]; exact gb_drew (gb_refl w5 none))
    have A3 := hide (show A.eval (.tmp 3) = .pointer (some ⟨w.heap.size, 0, none⟩) by rw [HA.out]; rfl)
    have A4 := hide (show A.eval (.tmp 4) = .pointer (some ⟨w.heap.size + 1, 0, none⟩) by rw [HA.out]; rfl)
    have A5 := hide (show A.eval (.tmp 5) = .pointer (some ⟨w.heap.size + 2, 0, none⟩) by rw [HA.out]; rfl)
    have A7 := hide (show A.eval (.tmp 7) = .int .i64 0 by rw [HA.out]; rfl)
    -- slot 40
    refine wpFacts_lit (.int .i64 0) rfl ?_ ?_
    · intro aq wq hw hl
      have e7 : aq.tmps[7]?.getD undef = .int .i64 0 := (hl 7 (by first | (simp [Op.operands]; done) | simp [Op.operands, Call.operands]) (by rw [HS.out]; decide)).trans A7.out
      clear hl
      go_simp
    -- slot 41
    refine wpFacts_lit (.agg #[.int .i64 a.t, .slice nA a.n.length nc, .slice sA a.s.length sc, .slice lA a.l.length lc]) rfl ?_ ?_
    · intro aq wq hw hl
      have e3 : aq.tmps[3]?.getD undef = .pointer (some ⟨w.heap.size, 0, none⟩) := (hl 3 (by first | (simp [Op.operands]; done) | simp [Op.operands, Call.operands]) (by rw [HS.out]; decide)).trans A3.out
      obtain ⟨c0, c1, c2, c3⟩ := HA5.out.gb (gb_trans HGW.out hw (.inl rfl))
      clear hl
      go_simp
    -- slot 42
    refine wpFacts_lit (.agg #[.int .i64 b.t, .slice nA' b.n.length nc', .slice sA' b.s.length sc', .slice lA' b.l.length lc']) rfl ?_ ?_
    · intro aq wq hw hl
      have e4 : aq.tmps[4]?.getD undef = .pointer (some ⟨w.heap.size + 1, 0, none⟩) := (hl 4 (by first | (simp [Op.operands]; done) | simp [Op.operands, Call.operands]) (by rw [HS.out]; decide)).trans A4.out
      obtain ⟨c0, c1, c2, c3⟩ := HB5.out.gb (gb_trans HGW.out hw (.inl rfl))
      clear hl
      go_simp
    -- slot 43
    refine wpFacts_step (fun vq _ => vq = .int .i64 0) rfl (Lit.up _) ?_ ?_
    · intro aq wq hw hl
      have e41 : aq.tmps[41]?.getD undef = .agg #[.int .i64 a.t, .slice nA a.n.length nc, .slice sA a.s.length sc, .slice lA a.l.length lc] := hl 41 (by first | (simp [Op.operands]; done) | simp [Op.operands, Call.operands]) (by rw [HS.out]; decide)
      have e42 : aq.tmps[42]?.getD undef = .agg #[.int .i64 b.t, .slice nA' b.n.length nc', .slice sA' b.s.length sc', .slice lA' b.l.length lc'] := hl 42 (by first | (simp [Op.operands]; done) | simp [Op.operands, Call.operands]) (by rw [HS.out]; decide)
      clear hl
      go_simp
      exact gUpon_lit (HRC.out wq (gb_trans HG5.out (gb_trans HGW.out hw (.inl rfl)) (.inl rfl)))
    -- slot 44
    refine wpFacts_lit (.bool false) rfl ?_ ?_
    · intro aq wq hw hl
      have e40 : aq.tmps[40]?.getD undef = .int .i64 0 := hl 40 (by first | (simp [Op.operands]; done) | simp [Op.operands, Call.operands]) (by rw [HS.out]; decide)
      have e43 : aq.tmps[43]?.getD undef = .int .i64 0 := hl 43 (by first | (simp [Op.operands]; done) | simp [Op.operands, Call.operands]) (by rw [HS.out]; decide)
      clear hl
      go_simp
    -- slot 45
    refine wpFacts_lit (.bool false) rfl ?_ ?_
    · intro aq wq hw hl
      have e44 : aq.tmps[44]?.getD undef = .bool false := hl 44 (by first | (simp [Op.operands]; done) | simp [Op.operands, Call.operands]) (by rw [HS.out]; decide)
      clear hl
      go_simp
    -- slot 46
    refine wpFacts_litG (.agg #[.int .i64 a.t, .slice nA a.n.length nc, .slice sA a.s.length sc, .slice lA a.l.length lc]) 5 false 45 rfl (by rw [HO.out]; rfl) (by rw [HS.out]; decide) (fun _ _ h => h) ?_ ?_
    · intro aq wq hw hl
      have e3 : aq.tmps[3]?.getD undef = .pointer (some ⟨w.heap.size, 0, none⟩) := (hl 3 (by first | (simp [Op.operands]; done) | simp [Op.operands, Call.operands]) (by rw [HS.out]; decide)).trans A3.out
      obtain ⟨c0, c1, c2, c3⟩ := HA5.out.gb (gb_trans HGW.out hw (.inl rfl))
      clear hl
      go_simp
    -- slot 47
    refine wpFacts_litG (.agg #[.int .i64 b.t, .slice nA' b.n.length nc', .slice sA' b.s.length sc', .slice lA' b.l.length lc']) 5 false 45 rfl (by rw [HO.out]; rfl) (by rw [HS.out]; decide) (fun _ _ h => h) ?_ ?_
    · intro aq wq hw hl
      have e4 : aq.tmps[4]?.getD undef = .pointer (some ⟨w.heap.size + 1, 0, none⟩) := (hl 4 (by first | (simp [Op.operands]; done) | simp [Op.operands, Call.operands]) (by rw [HS.out]; decide)).trans A4.out
      obtain ⟨c0, c1, c2, c3⟩ := HB5.out.gb (gb_trans HGW.out hw (.inl rfl))
      clear hl
      go_simp
    -- slot 48
    refine wpFacts_stepG (fun vq _ => vq = .bool true) 5 false 45 rfl (by rw [HO.out]; rfl) (by rw [HS.out]; decide) (fun _ _ h => h) (Lit.up _) ?_ ?_
    · intro aq wq hw hl
      have e46 : aq.tmps[46]?.getD undef = .agg #[.int .i64 a.t, .slice nA a.n.length nc, .slice sA a.s.length sc, .slice lA a.l.length lc] := hl 46 (by first | (simp [Op.operands]; done) | simp [Op.operands, Call.operands]) (by rw [HS.out]; decide)
      have e47 : aq.tmps[47]?.getD undef = .agg #[.int .i64 b.t, .slice nA' b.n.length nc', .slice sA' b.s.length sc', .slice lA' b.l.length lc'] := hl 47 (by first | (simp [Op.operands]; done) | simp [Op.operands, Call.operands]) (by rw [HS.out]; decide)
      clear hl
      go_simp
      exact gUpon_lit (HVM.out wq (gb_trans HG5.out (gb_trans HGW.out hw (.inl rfl)) (.inl rfl)))
    -- slot 49
    refine wpFacts_litG (.agg #[.int .i64 a.t, .slice nA a.n.length nc, .slice sA a.s.length sc, .slice lA a.l.length lc]) 5 false 45 rfl (by rw [HO.out]; rfl) (by rw [HS.out]; decide) (fun _ _ h => h) ?_ ?_
    · intro aq wq hw hl
      have e3 : aq.tmps[3]?.getD undef = .pointer (some ⟨w.heap.size, 0, none⟩) := (hl 3 (by first | (simp [Op.operands]; done) | simp [Op.operands, Call.operands]) (by rw [HS.out]; decide)).trans A3.out
      obtain ⟨c0, c1, c2, c3⟩ := HA5.out.gb (gb_trans HGW.out hw (.inl rfl))
      clear hl
      go_simp
    -- slot 50
    refine wpFacts_litG (.agg #[.int .i64 b.t, .slice nA' b.n.length nc', .slice sA' b.s.length sc', .slice lA' b.l.length lc']) 5 false 45 rfl (by rw [HO.out]; rfl) (by rw [HS.out]; decide) (fun _ _ h => h) ?_ ?_
    · intro aq wq hw hl
      have e4 : aq.tmps[4]?.getD undef = .pointer (some ⟨w.heap.size + 1, 0, none⟩) := (hl 4 (by first | (simp [Op.operands]; done) | simp [Op.operands, Call.operands]) (by rw [HS.out]; decide)).trans A4.out
      obtain ⟨c0, c1, c2, c3⟩ := HB5.out.gb (gb_trans HGW.out hw (.inl rfl))
      clear hl
      go_simp
    -- slot 51
    refine wpFacts_stepG (fun vq _ => vq = .bool true) 5 false 45 rfl (by rw [HO.out]; rfl) (by rw [HS.out]; decide) (fun _ _ h => h) (Lit.up _) ?_ ?_
    · intro aq wq hw hl
      have e49 : aq.tmps[49]?.getD undef = .agg #[.int .i64 a.t, .slice nA a.n.length nc, .slice sA a.s.length sc, .slice lA a.l.length lc] := hl 49 (by first | (simp [Op.operands]; done) | simp [Op.operands, Call.operands]) (by rw [HS.out]; decide)
      have e50 : aq.tmps[50]?.getD undef = .agg #[.int .i64 b.t, .slice nA' b.n.length nc', .slice sA' b.s.length sc', .slice lA' b.l.length lc'] := hl 50 (by first | (simp [Op.operands]; done) | simp [Op.operands, Call.operands]) (by rw [HS.out]; decide)
      clear hl
      go_simp
      exact gUpon_lit (HRM.out wq (gb_trans HG5.out (gb_trans HGW.out hw (.inl rfl)) (.inl rfl)))
    -- slot 52
    refine wpFacts_litG (.bool false) 5 false 45 rfl (by rw [HO.out]; rfl) (by rw [HS.out]; decide) (fun _ _ h => h) ?_ ?_
    · intro aq wq hw hl
      have e48 : aq.tmps[48]?.getD undef = .bool true := hl 48 (by first | (simp [Op.operands]; done) | simp [Op.operands, Call.operands]) (by rw [HS.out]; decide)
      have e51 : aq.tmps[51]?.getD undef = .bool true := hl 51 (by first | (simp [Op.operands]; done) | simp [Op.operands, Call.operands]) (by rw [HS.out]; decide)
      clear hl
      go_simp
    -- slot 53
    refine wpFacts_lit (.bool false) rfl ?_ ?_
    · intro aq wq hw hl
      have e45 : aq.tmps[45]?.getD undef = .bool false := hl 45 (by first | (simp [Op.operands]; done) | simp [Op.operands, Call.operands]) (by rw [HS.out]; decide)
      have e52 : aq.tmps[52]?.getD undef = .bool false := hl 52 (by first | (simp [Op.operands]; done) | simp [Op.operands, Call.operands]) (by rw [HS.out]; decide)
      clear hl
      go_simp
    -- slot 54
    refine wpFacts_lit (.bool false) rfl ?_ ?_
    · intro aq wq hw hl
      have e53 : aq.tmps[53]?.getD undef = .bool false := hl 53 (by first | (simp [Op.operands]; done) | simp [Op.operands, Call.operands]) (by rw [HS.out]; decide)
      clear hl
      go_simp
    -- slot 55
    refine wpFacts_litG (.agg #[.int .i64 a.t, .slice nA a.n.length nc, .slice sA a.s.length sc, .slice lA a.l.length lc]) 14 false 54 rfl (by rw [HO.out]; rfl) (by rw [HS.out]; decide) (fun _ _ h => h) ?_ ?_
    · intro aq wq hw hl
      have e3 : aq.tmps[3]?.getD undef = .pointer (some ⟨w.heap.size, 0, none⟩) := (hl 3 (by first | (simp [Op.operands]; done) | simp [Op.operands, Call.operands]) (by rw [HS.out]; decide)).trans A3.out
      obtain ⟨c0, c1, c2, c3⟩ := HA5.out.gb (gb_trans HGW.out hw (.inl rfl))
      clear hl
      go_simp
    -- slot 56
    refine wpFacts_litG (.agg #[.int .i64 b.t, .slice nA' b.n.length nc', .slice sA' b.s.length sc', .slice lA' b.l.length lc']) 14 false 54 rfl (by rw [HO.out]; rfl) (by rw [HS.out]; decide) (fun _ _ h => h) ?_ ?_
    · intro aq wq hw hl
      have e4 : aq.tmps[4]?.getD undef = .pointer (some ⟨w.heap.size + 1, 0, none⟩) := (hl 4 (by first | (simp [Op.operands]; done) | simp [Op.operands, Call.operands]) (by rw [HS.out]; decide)).trans A4.out
      obtain ⟨c0, c1, c2, c3⟩ := HB5.out.gb (gb_trans HGW.out hw (.inl rfl))
      clear hl
      go_simp
    -- slot 57
    refine wpFacts_stepG (fun vq _ => vq = .bool true) 14 false 54 rfl (by rw [HO.out]; rfl) (by rw [HS.out]; decide) (fun _ _ h => h) (Lit.up _) ?_ ?_
    · intro aq wq hw hl
      have e55 : aq.tmps[55]?.getD undef = .agg #[.int .i64 a.t, .slice nA a.n.length nc, .slice sA a.s.length sc, .slice lA a.l.length lc] := hl 55 (by first | (simp [Op.operands]; done) | simp [Op.operands, Call.operands]) (by rw [HS.out]; decide)
      have e56 : aq.tmps[56]?.getD undef = .agg #[.int .i64 b.t, .slice nA' b.n.length nc', .slice sA' b.s.length sc', .slice lA' b.l.length lc'] := hl 56 (by first | (simp [Op.operands]; done) | simp [Op.operands, Call.operands]) (by rw [HS.out]; decide)
      clear hl
      go_simp
      exact gUpon_lit (HVM.out wq (gb_trans HG5.out (gb_trans HGW.out hw (.inl rfl)) (.inl rfl)))
    -- slot 58
    refine wpFacts_litG (.int .i64 0) 14 false 54 rfl (by rw [HO.out]; rfl) (by rw [HS.out]; decide) (fun _ _ h => h) ?_ ?_
    · intro aq wq hw hl
      have e7 : aq.tmps[7]?.getD undef = .int .i64 0 := (hl 7 (by first | (simp [Op.operands]; done) | simp [Op.operands, Call.operands]) (by rw [HS.out]; decide)).trans A7.out
      clear hl
      go_simp
    -- slot 59
    refine wpFacts_litG (.bool true) 14 false 54 rfl (by rw [HO.out]; rfl) (by rw [HS.out]; decide) (fun _ _ h => h) ?_ ?_
    · intro aq wq hw hl
      have e58 : aq.tmps[58]?.getD undef = .int .i64 0 := hl 58 (by first | (simp [Op.operands]; done) | simp [Op.operands, Call.operands]) (by rw [HS.out]; decide)
      clear hl
      go_simp
    -- slot 60
    refine wpFacts_litG (.bool false) 14 false 54 rfl (by rw [HO.out]; rfl) (by rw [HS.out]; decide) (fun _ _ h => h) ?_ ?_
    · intro aq wq hw hl
      have e57 : aq.tmps[57]?.getD undef = .bool true := hl 57 (by first | (simp [Op.operands]; done) | simp [Op.operands, Call.operands]) (by rw [HS.out]; decide)
      have e59 : aq.tmps[59]?.getD undef = .bool true := hl 59 (by first | (simp [Op.operands]; done) | simp [Op.operands, Call.operands]) (by rw [HS.out]; decide)
      clear hl
      go_simp
    -- slot 61
    refine wpFacts_lit (.bool false) rfl ?_ ?_
    · intro aq wq hw hl
      have e54 : aq.tmps[54]?.getD undef = .bool false := hl 54 (by first | (simp [Op.operands]; done) | simp [Op.operands, Call.operands]) (by rw [HS.out]; decide)
      have e60 : aq.tmps[60]?.getD undef = .bool false := hl 60 (by first | (simp [Op.operands]; done) | simp [Op.operands, Call.operands]) (by rw [HS.out]; decide)
      clear hl
      go_simp
    -- slot 62
    refine wpFacts_lit (.bool false) rfl ?_ ?_
    · intro aq wq hw hl
      have e61 : aq.tmps[61]?.getD undef = .bool false := hl 61 (by first | (simp [Op.operands]; done) | simp [Op.operands, Call.operands]) (by rw [HS.out]; decide)
      clear hl
      go_simp
    -- slot 63
    refine wpFacts_litG (.agg #[.int .i64 b.t, .slice nA' b.n.length nc', .slice sA' b.s.length sc', .slice lA' b.l.length lc']) 22 false 62 rfl (by rw [HO.out]; rfl) (by rw [HS.out]; decide) (fun _ _ h => h) ?_ ?_
    · intro aq wq hw hl
      have e4 : aq.tmps[4]?.getD undef = .pointer (some ⟨w.heap.size + 1, 0, none⟩) := (hl 4 (by first | (simp [Op.operands]; done) | simp [Op.operands, Call.operands]) (by rw [HS.out]; decide)).trans A4.out
      obtain ⟨c0, c1, c2, c3⟩ := HB5.out.gb (gb_trans HGW.out hw (.inl rfl))
      clear hl
      go_simp
    -- slot 64
    refine wpFacts_litG (.agg #[.int .i64 a.t, .slice nA a.n.length nc, .slice sA a.s.length sc, .slice lA a.l.length lc]) 22 false 62 rfl (by rw [HO.out]; rfl) (by rw [HS.out]; decide) (fun _ _ h => h) ?_ ?_
    · intro aq wq hw hl
      have e3 : aq.tmps[3]?.getD undef = .pointer (some ⟨w.heap.size, 0, none⟩) := (hl 3 (by first | (simp [Op.operands]; done) | simp [Op.operands, Call.operands]) (by rw [HS.out]; decide)).trans A3.out
      obtain ⟨c0, c1, c2, c3⟩ := HA5.out.gb (gb_trans HGW.out hw (.inl rfl))
      clear hl
      go_simp
    -- slot 65
    refine wpFacts_stepG (fun vq _ => vq = .int .i64 0) 22 false 62 rfl (by rw [HO.out]; rfl) (by rw [HS.out]; decide) (fun _ _ h => h) (Lit.up _) ?_ ?_
    · intro aq wq hw hl
      have e63 : aq.tmps[63]?.getD undef = .agg #[.int .i64 b.t, .slice nA' b.n.length nc', .slice sA' b.s.length sc', .slice lA' b.l.length lc'] := hl 63 (by first | (simp [Op.operands]; done) | simp [Op.operands, Call.operands]) (by rw [HS.out]; decide)
      have e64 : aq.tmps[64]?.getD undef = .agg #[.int .i64 a.t, .slice nA a.n.length nc, .slice sA a.s.length sc, .slice lA a.l.length lc] := hl 64 (by first | (simp [Op.operands]; done) | simp [Op.operands, Call.operands]) (by rw [HS.out]; decide)
      clear hl
      go_simp
      exact gUpon_lit (HXba.out wq (gb_trans HG5.out (gb_trans HGW.out hw (.inl rfl)) (.inl rfl)))
    -- slot 66
    refine wpFacts_litG (.int .i64 0) 22 false 62 rfl (by rw [HO.out]; rfl) (by rw [HS.out]; decide) (fun _ _ h => h) ?_ ?_
    · intro aq wq hw hl
      have e7 : aq.tmps[7]?.getD undef = .int .i64 0 := (hl 7 (by first | (simp [Op.operands]; done) | simp [Op.operands, Call.operands]) (by rw [HS.out]; decide)).trans A7.out
      clear hl
      go_simp
    -- slot 67
    refine wpFacts_litG (.int .i64 0) 22 false 62 rfl (by rw [HO.out]; rfl) (by rw [HS.out]; decide) (fun _ _ h => h) ?_ ?_
    · intro aq wq hw hl
      have e66 : aq.tmps[66]?.getD undef = .int .i64 0 := hl 66 (by first | (simp [Op.operands]; done) | simp [Op.operands, Call.operands]) (by rw [HS.out]; decide)
      clear hl
      go_simp
      first | rfl | decide | (exact of_decide_eq_true (by kernel_rfl))
    -- slot 68
    refine wpFacts_litG (.bool false) 22 false 62 rfl (by rw [HO.out]; rfl) (by rw [HS.out]; decide) (fun _ _ h => h) ?_ ?_
    · intro aq wq hw hl
      have e65 : aq.tmps[65]?.getD undef = .int .i64 0 := hl 65 (by first | (simp [Op.operands]; done) | simp [Op.operands, Call.operands]) (by rw [HS.out]; decide)
      have e67 : aq.tmps[67]?.getD undef = .int .i64 0 := hl 67 (by first | (simp [Op.operands]; done) | simp [Op.operands, Call.operands]) (by rw [HS.out]; decide)
      clear hl
      go_simp
    refine HL.out _ (fun a' w6 hc => ?_)
    have e62 : a'.eval (.tmp 62) = .bool false := hc.fact 62 (by rw [HS.out]; decide)
    have e68 : a'.eval (.tmp 68) = .bool false := hc.fact 68 (by rw [HS.out]; decide)
    have hgw6 := gb_trans HGW.out hc.grown (.inl rfl)
    have hfr := hc.frame [40, 41, 42, 43, 44, 45, 46, 47, 48, 49, 50, 51, 52, 53, 54, 55, 56, 57, 58, 59, 60, 61, 62, 63, 64, 65, 66, 67, 68, 69] (by rw [HO.out]; kernel_rfl)
    rw [hfr]
    clear hfr hc
    rw [HA.out]
    clear HA HO HL HW HS HGW A3 A4 A5 A7
    clear A O W L
    simp only [List.drop_succ_cons, List.drop_zero, List.foldl_cons, List.foldl_nil, Act.put, List.setIfInBounds_toArray, List.set_cons_succ, List.set_cons_zero]
    rw [e62, e68]
    generalize a'.eval (.tmp 40) = x40
    generalize a'.eval (.tmp 41) = x41
    generalize a'.eval (.tmp 42) = x42
    generalize a'.eval (.tmp 43) = x43
    generalize a'.eval (.tmp 44) = x44
    generalize a'.eval (.tmp 45) = x45
    generalize a'.eval (.tmp 46) = x46
    generalize a'.eval (.tmp 47) = x47
    generalize a'.eval (.tmp 48) = x48
    generalize a'.eval (.tmp 49) = x49
    generalize a'.eval (.tmp 50) = x50
    generalize a'.eval (.tmp 51) = x51
    generalize a'.eval (.tmp 52) = x52
    generalize a'.eval (.tmp 53) = x53
    generalize a'.eval (.tmp 54) = x54
    generalize a'.eval (.tmp 55) = x55
    generalize a'.eval (.tmp 56) = x56
    generalize a'.eval (.tmp 57) = x57
    generalize a'.eval (.tmp 58) = x58
    generalize a'.eval (.tmp 59) = x59
    generalize a'.eval (.tmp 60) = x60
    generalize a'.eval (.tmp 61) = x61
    generalize a'.eval (.tmp 63) = x63
    generalize a'.eval (.tmp 64) = x64
    generalize a'.eval (.tmp 65) = x65
    generalize a'.eval (.tmp 66) = x66
    generalize a'.eval (.tmp 67) = x67
    generalize a'.eval (.tmp 69) = x69
    clear e62 e68
    clear a'
    have HG6 := hide (gb_trans HG5.out hgw6 (.inl rfl))
    clear hgw6 HA5 HB5 HC5 HRC HVM HRM HXba
    rcases hyy with rfl | rfl | rfl <;> rcases hzy with rfl | rfl | rfl
    all_goals first
      | (exfalso; have h1 := H3.1; have h2 := H3.2; omega)
      | skip
    all_goals clear H3
    all_goals
      go_wp2_with (go_at_call 9; refine (live_any _).mono ?_; rintro e wz ⟨rfl, hgz⟩; have HGZ := hide hgz; clear hgz)
      go_ret
      exact ⟨rfl, gb_trans HG.out (gb_trans HG6.out HGZ.out (.inl rfl)) (.inl rfl)⟩
  · obtain rfl : n = (-1) := by omega
    obtain rfl : m = false := by rw [hm]; rfl
    clear hn hm
    go_wp2_with fail
    refine wp_region_facts' 29 (by kernel_rfl) (by kernel_rfl) ?_
    intro A O W L HA HO HW HL
    simp only [List.take_succ_cons, List.take_zero]
    have HS := hide (show A.tmps.size = 93 by rw [HA.out]; rfl)
    have HGW := hide (show w5.grownBy W none by rw [HW.out]; exact gb_drew (gb_refl w5 none))
    have A3 := hide (show A.eval (.tmp 3) = .pointer (some ⟨w.heap.size, 0, none⟩) by rw [HA.out]; rfl)
    have A4 := hide (show A.eval (.tmp 4) = .pointer (some ⟨w.heap.size + 1, 0, none⟩) by rw [HA.out]; rfl)
    have A5 := hide (show A.eval (.tmp 5) = .pointer (some ⟨w.heap.size + 2, 0, none⟩) by rw [HA.out]; rfl)
    have A7 := hide (show A.eval (.tmp 7) = .int .i64 1 by rw [HA.out]; rfl)
    -- slot 40
    refine wpFacts_lit (.int .i64 1) rfl ?_ ?_
    · intro aq wq hw hl
      have e7 : aq.tmps[7]?.getD undef = .int .i64 1 := (hl 7 (by first | (simp [Op.operands]; done) | simp [Op.operands, Call.operands]) (by rw [HS.out]; decide)).trans A7.out
      clear hl
      go_simp
    -- slot 41
    refine wpFacts_lit (.agg #[.int .i64 a.t, .slice nA a.n.length nc, .slice sA a.s.length sc, .slice lA a.l.length lc]) rfl ?_ ?_
    · intro aq wq hw hl
      have e3 : aq.tmps[3]?.getD undef = .pointer (some ⟨w.heap.size, 0, none⟩) := (hl 3 (by first | (simp [Op.operands]; done) | simp [Op.operands, Call.operands]) (by rw [HS.out]; decide)).trans A3.out
      obtain ⟨c0, c1, c2, c3⟩ := HA5.out.gb (gb_trans HGW.out hw (.inl rfl))
      clear hl
      go_simp
    -- slot 42
    refine wpFacts_lit (.agg #[.int .i64 b.t, .slice nA' b.n.length nc', .slice sA' b.s.length sc', .slice lA' b.l.length lc']) rfl ?_ ?_
    · intro aq wq hw hl
      have e4 : aq.tmps[4]?.getD undef = .pointer (some ⟨w.heap.size + 1, 0, none⟩) := (hl 4 (by first | (simp [Op.operands]; done) | simp [Op.operands, Call.operands]) (by rw [HS.out]; decide)).trans A4.out
      obtain ⟨c0, c1, c2, c3⟩ := HB5.out.gb (gb_trans HGW.out hw (.inl rfl))
      clear hl
      go_simp
    -- slot 43
    refine wpFacts_step (fun vq _ => vq = .int .i64 1) rfl (Lit.up _) ?_ ?_
    · intro aq wq hw hl
      have e41 : aq.tmps[41]?.getD undef = .agg #[.int .i64 a.t, .slice nA a.n.length nc, .slice sA a.s.length sc, .slice lA a.l.length lc] := hl 41 (by first | (simp [Op.operands]; done) | simp [Op.operands, Call.operands]) (by rw [HS.out]; decide)
      have e42 : aq.tmps[42]?.getD undef = .agg #[.int .i64 b.t, .slice nA' b.n.length nc', .slice sA' b.s.length sc', .slice lA' b.l.length lc'] := hl 42 (by first | (simp [Op.operands]; done) | simp [Op.operands, Call.operands]) (by rw [HS.out]; decide)
      clear hl
      go_simp
      exact gUpon_lit (HRC.out wq (gb_trans HG5.out (gb_trans HGW.out hw (.inl rfl)) (.inl rfl)))
    -- slot 44
    refine wpFacts_lit (.bool false) rfl ?_ ?_
    · intro aq wq hw hl
      have e40 : aq.tmps[40]?.getD undef = .int .i64 1 := hl 40 (by first | (simp [Op.operands]; done) | simp [Op.operands, Call.operands]) (by rw [HS.out]; decide)
      have e43 : aq.tmps[43]?.getD undef = .int .i64 1 := hl 43 (by first | (simp [Op.operands]; done) | simp [Op.operands, Call.operands]) (by rw [HS.out]; decide)
      clear hl
      go_simp
    -- slot 45
    refine wpFacts_lit (.bool false) rfl ?_ ?_
    · intro aq wq hw hl
      have e44 : aq.tmps[44]?.getD undef = .bool false := hl 44 (by first | (simp [Op.operands]; done) | simp [Op.operands, Call.operands]) (by rw [HS.out]; decide)
      clear hl
      go_simp
    -- slot 46
    refine wpFacts_litG (.agg #[.int .i64 a.t, .slice nA a.n.length nc, .slice sA a.s.length sc, .slice lA a.l.length lc]) 5 false 45 rfl (by rw [HO.out]; rfl) (by rw [HS.out]; decide) (fun _ _ h => h) ?_ ?_
    · intro aq wq hw hl
      have e3 : aq.tmps[3]?.getD undef = .pointer (some ⟨w.heap.size, 0, none⟩) := (hl 3 (by first | (simp [Op.operands]; done) | simp [Op.operands, Call.operands]) (by rw [HS.out]; decide)).trans A3.out
      obtain ⟨c0, c1, c2, c3⟩ := HA5.out.gb (gb_trans HGW.out hw (.inl rfl))
      clear hl
      go_simp
    -- slot 47
    refine wpFacts_litG (.agg #[.int .i64 b.t, .slice nA' b.n.length nc', .slice sA' b.s.length sc', .slice lA' b.l.length lc']) 5 false 45 rfl (by rw [HO.out]; rfl) (by rw [HS.out]; decide) (fun _ _ h => h) ?_ ?_
    · intro aq wq hw hl
      have e4 : aq.tmps[4]?.getD undef = .pointer (some ⟨w.heap.size + 1, 0, none⟩) := (hl 4 (by first | (simp [Op.operands]; done) | simp [Op.operands, Call.operands]) (by rw [HS.out]; decide)).trans A4.out
      obtain ⟨c0, c1, c2, c3⟩ := HB5.out.gb (gb_trans HGW.out hw (.inl rfl))
      clear hl
      go_simp
    -- slot 48
    refine wpFacts_stepG (fun vq _ => vq = .bool false) 5 false 45 rfl (by rw [HO.out]; rfl) (by rw [HS.out]; decide) (fun _ _ h => h) (Lit.up _) ?_ ?_
    · intro aq wq hw hl
      have e46 : aq.tmps[46]?.getD undef = .agg #[.int .i64 a.t, .slice nA a.n.length nc, .slice sA a.s.length sc, .slice lA a.l.length lc] := hl 46 (by first | (simp [Op.operands]; done) | simp [Op.operands, Call.operands]) (by rw [HS.out]; decide)
      have e47 : aq.tmps[47]?.getD undef = .agg #[.int .i64 b.t, .slice nA' b.n.length nc', .slice sA' b.s.length sc', .slice lA' b.l.length lc'] := hl 47 (by first | (simp [Op.operands]; done) | simp [Op.operands, Call.operands]) (by rw [HS.out]; decide)
      clear hl
      go_simp
      exact gUpon_lit (HVM.out wq (gb_trans HG5.out (gb_trans HGW.out hw (.inl rfl)) (.inl rfl)))
    -- slot 49
    refine wpFacts_litG (.agg #[.int .i64 a.t, .slice nA a.n.length nc, .slice sA a.s.length sc, .slice lA a.l.length lc]) 5 false 45 rfl (by rw [HO.out]; rfl) (by rw [HS.out]; decide) (fun _ _ h => h) ?_ ?_
    · intro aq wq hw hl
      have e3 : aq.tmps[3]?.getD undef = .pointer (some ⟨w.heap.size, 0, none⟩) := (hl 3 (by first | (simp [Op.operands]; done) | simp [Op.operands, Call.operands]) (by rw [HS.out]; decide)).trans A3.out
      obtain ⟨c0, c1, c2, c3⟩ := HA5.out.gb (gb_trans HGW.out hw (.inl rfl))
      clear hl
      go_simp
    -- slot 50
    refine wpFacts_litG (.agg #[.int .i64 b.t, .slice nA' b.n.length nc', .slice sA' b.s.length sc', .slice lA' b.l.length lc']) 5 false 45 rfl (by rw [HO.out]; rfl) (by rw [HS.out]; decide) (fun _ _ h => h) ?_ ?_
    · intro aq wq hw hl
      have e4 : aq.tmps[4]?.getD undef = .pointer (some ⟨w.heap.size + 1, 0, none⟩) := (hl 4 (by first | (simp [Op.operands]; done) | simp [Op.operands, Call.operands]) (by rw [HS.out]; decide)).trans A4.out
      obtain ⟨c0, c1, c2, c3⟩ := HB5.out.gb (gb_trans HGW.out hw (.inl rfl))
      clear hl
      go_simp
    -- slot 51
    refine wpFacts_stepG (fun vq _ => vq = .bool false) 5 false 45 rfl (by rw [HO.out]; rfl) (by rw [HS.out]; decide) (fun _ _ h => h) (Lit.up _) ?_ ?_
    · intro aq wq hw hl
      have e49 : aq.tmps[49]?.getD undef = .agg #[.int .i64 a.t, .slice nA a.n.length nc, .slice sA a.s.length sc, .slice lA a.l.length lc] := hl 49 (by first | (simp [Op.operands]; done) | simp [Op.operands, Call.operands]) (by rw [HS.out]; decide)
      have e50 : aq.tmps[50]?.getD undef = .agg #[.int .i64 b.t, .slice nA' b.n.length nc', .slice sA' b.s.length sc', .slice lA' b.l.length lc'] := hl 50 (by first | (simp [Op.operands]; done) | simp [Op.operands, Call.operands]) (by rw [HS.out]; decide)
      clear hl
      go_simp
      exact gUpon_lit (HRM.out wq (gb_trans HG5.out (gb_trans HGW.out hw (.inl rfl)) (.inl rfl)))
    -- slot 52
    refine wpFacts_litG (.bool false) 5 false 45 rfl (by rw [HO.out]; rfl) (by rw [HS.out]; decide) (fun _ _ h => h) ?_ ?_
    · intro aq wq hw hl
      have e48 : aq.tmps[48]?.getD undef = .bool false := hl 48 (by first | (simp [Op.operands]; done) | simp [Op.operands, Call.operands]) (by rw [HS.out]; decide)
      have e51 : aq.tmps[51]?.getD undef = .bool false := hl 51 (by first | (simp [Op.operands]; done) | simp [Op.operands, Call.operands]) (by rw [HS.out]; decide)
      clear hl
      go_simp
    -- slot 53
    refine wpFacts_lit (.bool false) rfl ?_ ?_
    · intro aq wq hw hl
      have e45 : aq.tmps[45]?.getD undef = .bool false := hl 45 (by first | (simp [Op.operands]; done) | simp [Op.operands, Call.operands]) (by rw [HS.out]; decide)
      have e52 : aq.tmps[52]?.getD undef = .bool false := hl 52 (by first | (simp [Op.operands]; done) | simp [Op.operands, Call.operands]) (by rw [HS.out]; decide)
      clear hl
      go_simp
    -- slot 54
    refine wpFacts_lit (.bool false) rfl ?_ ?_
    · intro aq wq hw hl
      have e53 : aq.tmps[53]?.getD undef = .bool false := hl 53 (by first | (simp [Op.operands]; done) | simp [Op.operands, Call.operands]) (by rw [HS.out]; decide)
      clear hl
      go_simp
    -- slot 55
    refine wpFacts_litG (.agg #[.int .i64 a.t, .slice nA a.n.length nc, .slice sA a.s.length sc, .slice lA a.l.length lc]) 14 false 54 rfl (by rw [HO.out]; rfl) (by rw [HS.out]; decide) (fun _ _ h => h) ?_ ?_
    · intro aq wq hw hl
      have e3 : aq.tmps[3]?.getD undef = .pointer (some ⟨w.heap.size, 0, none⟩) := (hl 3 (by first | (simp [Op.operands]; done) | simp [Op.operands, Call.operands]) (by rw [HS.out]; decide)).trans A3.out
      obtain ⟨c0, c1, c2, c3⟩ := HA5.out.gb (gb_trans HGW.out hw (.inl rfl))
      clear hl
      go_simp
    -- slot 56
    refine wpFacts_litG (.agg #[.int .i64 b.t, .slice nA' b.n.length nc', .slice sA' b.s.length sc', .slice lA' b.l.length lc']) 14 false 54 rfl (by rw [HO.out]; rfl) (by rw [HS.out]; decide) (fun _ _ h => h) ?_ ?_
    · intro aq wq hw hl
      have e4 : aq.tmps[4]?.getD undef = .pointer (some ⟨w.heap.size + 1, 0, none⟩) := (hl 4 (by first | (simp [Op.operands]; done) | simp [Op.operands, Call.operands]) (by rw [HS.out]; decide)).trans A4.out
      obtain ⟨c0, c1, c2, c3⟩ := HB5.out.gb (gb_trans HGW.out hw (.inl rfl))
      clear hl
      go_simp
    -- slot 57
    refine wpFacts_stepG (fun vq _ => vq = .bool false) 14 false 54 rfl (by rw [HO.out]; rfl) (by rw [HS.out]; decide) (fun _ _ h => h) (Lit.up _) ?_ ?_
    · intro aq wq hw hl
      have e55 : aq.tmps[55]?.getD undef = .agg #[.int .i64 a.t, .slice nA a.n.length nc, .slice sA a.s.length sc, .slice lA a.l.length lc] := hl 55 (by first | (simp [Op.operands]; done) | simp [Op.operands, Call.operands]) (by rw [HS.out]; decide)
      have e56 : aq.tmps[56]?.getD undef = .agg #[.int .i64 b.t, .slice nA' b.n.length nc', .slice sA' b.s.length sc', .slice lA' b.l.length lc'] := hl 56 (by first | (simp [Op.operands]; done) | simp [Op.operands, Call.operands]) (by rw [HS.out]; decide)
      clear hl
      go_simp
      exact gUpon_lit (HVM.out wq (gb_trans HG5.out (gb_trans HGW.out hw (.inl rfl)) (.inl rfl)))
    -- slot 58
    refine wpFacts_litG (.int .i64 1) 14 false 54 rfl (by rw [HO.out]; rfl) (by rw [HS.out]; decide) (fun _ _ h => h) ?_ ?_
    · intro aq wq hw hl
      have e7 : aq.tmps[7]?.getD undef = .int .i64 1 := (hl 7 (by first | (simp [Op.operands]; done) | simp [Op.operands, Call.operands]) (by rw [HS.out]; decide)).trans A7.out
      clear hl
      go_simp
    -- slot 59
    refine wpFacts_litG (.bool false) 14 false 54 rfl (by rw [HO.out]; rfl) (by rw [HS.out]; decide) (fun _ _ h => h) ?_ ?_
    · intro aq wq hw hl
      have e58 : aq.tmps[58]?.getD undef = .int .i64 1 := hl 58 (by first | (simp [Op.operands]; done) | simp [Op.operands, Call.operands]) (by rw [HS.out]; decide)
      clear hl
      go_simp
    -- slot 60
    refine wpFacts_litG (.bool false) 14 false 54 rfl (by rw [HO.out]; rfl) (by rw [HS.out]; decide) (fun _ _ h => h) ?_ ?_
    · intro aq wq hw hl
      have e57 : aq.tmps[57]?.getD undef = .bool false := hl 57 (by first | (simp [Op.operands]; done) | simp [Op.operands, Call.operands]) (by rw [HS.out]; decide)
      have e59 : aq.tmps[59]?.getD undef = .bool false := hl 59 (by first | (simp [Op.operands]; done) | simp [Op.operands, Call.operands]) (by rw [HS.out]; decide)
      clear hl
      go_simp
    -- slot 61
    refine wpFacts_lit (.bool false) rfl ?_ ?_
    · intro aq wq hw hl
      have e54 : aq.tmps[54]?.getD undef = .bool false := hl 54 (by first | (simp [Op.operands]; done) | simp [Op.operands, Call.operands]) (by rw [HS.out]; decide)
      have e60 : aq.tmps[60]?.getD undef = .bool false := hl 60 (by first | (simp [Op.operands]; done) | simp [Op.operands, Call.operands]) (by rw [HS.out]; decide)
      clear hl
      go_simp
    -- slot 62
    refine wpFacts_lit (.bool false) rfl ?_ ?_
    · intro aq wq hw hl
      have e61 : aq.tmps[61]?.getD undef = .bool false := hl 61 (by first | (simp [Op.operands]; done) | simp [Op.operands, Call.operands]) (by rw [HS.out]; decide)
      clear hl
      go_simp
    -- slot 63
    refine wpFacts_litG (.agg #[.int .i64 b.t, .slice nA' b.n.length nc', .slice sA' b.s.length sc', .slice lA' b.l.length lc']) 22 false 62 rfl (by rw [HO.out]; rfl) (by rw [HS.out]; decide) (fun _ _ h => h) ?_ ?_
    · intro aq wq hw hl
      have e4 : aq.tmps[4]?.getD undef = .pointer (some ⟨w.heap.size + 1, 0, none⟩) := (hl 4 (by first | (simp [Op.operands]; done) | simp [Op.operands, Call.operands]) (by rw [HS.out]; decide)).trans A4.out
      obtain ⟨c0, c1, c2, c3⟩ := HB5.out.gb (gb_trans HGW.out hw (.inl rfl))
      clear hl
      go_simp
    -- slot 64
    refine wpFacts_litG (.agg #[.int .i64 a.t, .slice nA a.n.length nc, .slice sA a.s.length sc, .slice lA a.l.length lc]) 22 false 62 rfl (by rw [HO.out]; rfl) (by rw [HS.out]; decide) (fun _ _ h => h) ?_ ?_
    · intro aq wq hw hl
      have e3 : aq.tmps[3]?.getD undef = .pointer (some ⟨w.heap.size, 0, none⟩) := (hl 3 (by first | (simp [Op.operands]; done) | simp [Op.operands, Call.operands]) (by rw [HS.out]; decide)).trans A3.out
      obtain ⟨c0, c1, c2, c3⟩ := HA5.out.gb (gb_trans HGW.out hw (.inl rfl))
      clear hl
      go_simp
    -- slot 65
    refine wpFacts_stepG (fun vq _ => vq = .int .i64 (-1)) 22 false 62 rfl (by rw [HO.out]; rfl) (by rw [HS.out]; decide) (fun _ _ h => h) (Lit.up _) ?_ ?_
    · intro aq wq hw hl
      have e63 : aq.tmps[63]?.getD undef = .agg #[.int .i64 b.t, .slice nA' b.n.length nc', .slice sA' b.s.length sc', .slice lA' b.l.length lc'] := hl 63 (by first | (simp [Op.operands]; done) | simp [Op.operands, Call.operands]) (by rw [HS.out]; decide)
      have e64 : aq.tmps[64]?.getD undef = .agg #[.int .i64 a.t, .slice nA a.n.length nc, .slice sA a.s.length sc, .slice lA a.l.length lc] := hl 64 (by first | (simp [Op.operands]; done) | simp [Op.operands, Call.operands]) (by rw [HS.out]; decide)
      clear hl
      go_simp
      exact gUpon_lit (HXba.out wq (gb_trans HG5.out (gb_trans HGW.out hw (.inl rfl)) (.inl rfl)))
    -- slot 66
    refine wpFacts_litG (.int .i64 1) 22 false 62 rfl (by rw [HO.out]; rfl) (by rw [HS.out]; decide) (fun _ _ h => h) ?_ ?_
    · intro aq wq hw hl
      have e7 : aq.tmps[7]?.getD undef = .int .i64 1 := (hl 7 (by first | (simp [Op.operands]; done) | simp [Op.operands, Call.operands]) (by rw [HS.out]; decide)).trans A7.out
      clear hl
      go_simp
    -- slot 67
    refine wpFacts_litG (.int .i64 (-1)) 22 false 62 rfl (by rw [HO.out]; rfl) (by rw [HS.out]; decide) (fun _ _ h => h) ?_ ?_
    · intro aq wq hw hl
      have e66 : aq.tmps[66]?.getD undef = .int .i64 1 := hl 66 (by first | (simp [Op.operands]; done) | simp [Op.operands, Call.operands]) (by rw [HS.out]; decide)
      clear hl
      go_simp
      first | rfl | decide | (exact of_decide_eq_true (by kernel_rfl))
    -- slot 68
    refine wpFacts_litG (.bool false) 22 false 62 rfl (by rw [HO.out]; rfl) (by rw [HS.out]; decide) (fun _ _ h => h) ?_ ?_
    · intro aq wq hw hl
      have e65 : aq.tmps[65]?.getD undef = .int .i64 (-1) := hl 65 (by first | (simp [Op.operands]; done) | simp [Op.operands, Call.operands]) (by rw [HS.out]; decide)
      have e67 : aq.tmps[67]?.getD undef = .int .i64 (-1) := hl 67 (by first | (simp [Op.operands]; done) | simp [Op.operands, Call.operands]) (by rw [HS.out]; decide)
      clear hl
      go_simp
    refine HL.out _ (fun a' w6 hc => ?_)
    have e62 : a'.eval (.tmp 62) = .bool false := hc.fact 62 (by rw [HS.out]; decide)
    have e68 : a'.eval (.tmp 68) = .bool false := hc.fact 68 (by rw [HS.out]; decide)
    have hgw6 := gb_trans HGW.out hc.grown (.inl rfl)
    have hfr := hc.frame [40, 41, 42, 43, 44, 45, 46, 47, 48, 49, 50, 51, 52, 53, 54, 55, 56, 57, 58, 59, 60, 61, 62, 63, 64, 65, 66, 67, 68, 69] (by rw [HO.out]; kernel_rfl)
    rw [hfr]
    clear hfr hc
    rw [HA.out]
    clear HA HO HL HW HS HGW A3 A4 A5 A7
    clear A O W L
    simp only [List.drop_succ_cons, List.drop_zero, List.foldl_cons, List.foldl_nil, Act.put, List.setIfInBounds_toArray, List.set_cons_succ, List.set_cons_zero]
    rw [e62, e68]
    generalize a'.eval (.tmp 40) = x40
    generalize a'.eval (.tmp 41) = x41
    generalize a'.eval (.tmp 42) = x42
    generalize a'.eval (.tmp 43) = x43
    generalize a'.eval (.tmp 44) = x44
    generalize a'.eval (.tmp 45) = x45
    generalize a'.eval (.tmp 46) = x46
    generalize a'.eval (.tmp 47) = x47
    generalize a'.eval (.tmp 48) = x48
    generalize a'.eval (.tmp 49) = x49
    generalize a'.eval (.tmp 50) = x50
    generalize a'.eval (.tmp 51) = x51
    generalize a'.eval (.tmp 52) = x52
    generalize a'.eval (.tmp 53) = x53
    generalize a'.eval (.tmp 54) = x54
    generalize a'.eval (.tmp 55) = x55
    generalize a'.eval (.tmp 56) = x56
    generalize a'.eval (.tmp 57) = x57
    generalize a'.eval (.tmp 58) = x58
    generalize a'.eval (.tmp 59) = x59
    generalize a'.eval (.tmp 60) = x60
    generalize a'.eval (.tmp 61) = x61
    generalize a'.eval (.tmp 63) = x63
    generalize a'.eval (.tmp 64) = x64
    generalize a'.eval (.tmp 65) = x65
    generalize a'.eval (.tmp 66) = x66
    generalize a'.eval (.tmp 67) = x67
    generalize a'.eval (.tmp 69) = x69
    clear e62 e68
    clear a'
    have HG6 := hide (gb_trans HG5.out hgw6 (.inl rfl))
    clear hgw6 HA5 HB5 HC5 HRC HVM HRM HXba
    rcases hyy with rfl | rfl | rfl <;> rcases hzy with rfl | rfl | rfl
    all_goals first
      | (exfalso; have h1 := H3.1; have h2 := H3.2; omega)
      | skip
    all_goals clear H3
    all_goals
      go_wp2_with (go_at_call 9; refine (live_any _).mono ?_; rintro e wz ⟨rfl, hgz⟩; have HGZ := hide hgz; clear hgz)
      go_ret
      exact ⟨rfl, gb_trans HG.out (gb_trans HG6.out HGZ.out (.inl rfl)) (.inl rfl)⟩
end Go.Proofs.Ytniliccobkhnlaa
