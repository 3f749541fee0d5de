/-
  The contract of the reference's Open.
-/
import Derived.Test.YtgilkaaholkgfaaRef
namespace Go.Proofs.Ytgilkaaholkgfaa
open Go.RowKit

theorem i64_or_nat (a b : Nat) (ha : a < 4294967296) (hb : b < 4294967296) : bits .or .i64 (a : Int) (b : Int) = ((a ||| b : Nat) : Int) := by
  have hx : a ||| b < 2 ^ 32 := Nat.or_lt_two_pow (by omega) (by omega)
  show IntKind.i64.wrap ((BitVec.ofInt 64 (a : Int) ||| BitVec.ofInt 64 (b : Int)).toNat : Int) = _
  rw [BitVec.toNat_or, ofInt_u64 a (by omega), ofInt_u64 b (by omega), IntKind.wrap_i64]
  omega
theorem i64_orp (a b i : Nat) (hb : b < 2 ^ i) (h : a * 2 ^ i + b < 4294967296) : bits .or .i64 ((a * 2 ^ i : Nat) : Int) (b : Int) = ((a * 2 ^ i + b : Nat) : Int) := by
  rw [i64_or_nat _ _ (by omega) (by omega), ← Nat.shiftLeft_eq, Nat.shiftLeft_add_eq_or_of_lt hb]
/-- Four bytes, laid together by the reference, the highest first. -/
theorem or4i (a b c d : UInt8) :
    bits BinOp.or IntKind.i64 (bits BinOp.or IntKind.i64 (bits BinOp.or IntKind.i64 ((a.toNat : Int) * 16777216) ((b.toNat : Int) * 65536)) ((c.toNat : Int) * 256)) (d.toNat : Int) = (be4 a b c d : Int) := by
  have := a.toNat_lt; have := b.toNat_lt; have := c.toNat_lt; have := d.toNat_lt
  have e1 : bits BinOp.or IntKind.i64 ((a.toNat : Int) * 16777216) ((b.toNat : Int) * 65536) = ((a.toNat * 16777216 + b.toNat * 65536 : Nat) : Int) := by
    have := i64_orp a.toNat (b.toNat * 65536) 24 (by omega) (by omega)
    rw [show (2 : Nat) ^ 24 = 16777216 by decide] at this
    rw [← this]; congr 1
  have e2 : bits BinOp.or IntKind.i64 ((a.toNat * 16777216 + b.toNat * 65536 : Nat) : Int) ((c.toNat : Int) * 256) = ((a.toNat * 16777216 + b.toNat * 65536 + c.toNat * 256 : Nat) : Int) := by
    have := i64_orp (a.toNat * 256 + b.toNat) (c.toNat * 256) 16 (by omega) (by omega)
    rw [show (2 : Nat) ^ 16 = 65536 by decide, show (a.toNat * 256 + b.toNat) * 65536 = a.toNat * 16777216 + b.toNat * 65536 by omega] at this
    rw [← this]; congr 1
  have e3 : bits BinOp.or IntKind.i64 ((a.toNat * 16777216 + b.toNat * 65536 + c.toNat * 256 : Nat) : Int) (d.toNat : Int) = ((a.toNat * 16777216 + b.toNat * 65536 + c.toNat * 256 + d.toNat : Nat) : Int) := by
    have := i64_orp (a.toNat * 65536 + b.toNat * 256 + c.toNat) d.toNat 8 (by omega) (by omega)
    rw [show (2 : Nat) ^ 8 = 256 by decide, show (a.toNat * 65536 + b.toNat * 256 + c.toNat) * 256 = a.toNat * 16777216 + b.toNat * 65536 + c.toNat * 256 by omega] at this
    rw [← this]
  rw [e1, e2, e3]
  rfl

set_option maxHeartbeats 1000000 in
set_option maxRecDepth 100000 in
theorem refOpen_tiny (A : Option Addr) (c : Nat) (bs : List UInt8) (w : World) (h2 : bs.length < 4) :
    Calls Try.prog 52 #[.slice A bs.length c] w (Opened (opn bs) w) := by
  have e : opn bs = ([], 0, 3) := by unfold opn; rw [if_pos h2]
  rw [e]
  clear e
  go_enter Try.func52, Try.ntmps52
  go_wp2
  go_ret3
  exact Opened.err rfl (gb_refl _ _)

set_option maxHeartbeats 2000000 in
set_option maxRecDepth 100000 in
theorem refOpen_long (b o c n : Nat) (b0 b1 b2 b3 : UInt8) (len : Nat) (w : World) (h2 : 4 ≤ len)
    (hc0 : w.cell? ⟨b, o, none⟩ = some (.int .u8 (b0.toNat : Int))) (hc1 : w.cell? ⟨b, o + 1, none⟩ = some (.int .u8 (b1.toNat : Int))) (hc2 : w.cell? ⟨b, o + 2, none⟩ = some (.int .u8 (b2.toNat : Int))) (hc3 : w.cell? ⟨b, o + 3, none⟩ = some (.int .u8 (b3.toNat : Int)))
    (hn : be4 b0 b1 b2 b3 = n) (h1 : len ≤ 100000000) (c1 : 1048576 < n) :
    Calls Try.prog 52 #[.slice (some ⟨b, o, none⟩) len c] w (Opened ([], 0, 1) w) := by
  have hor := or4i b0 b1 b2 b3
  have hnl := be4_lt b0 b1 b2 b3
  rw [hn] at hor hnl
  have hnl2 : (n : Int) ≤ 4294967295 := by omega
  have g0 : b0.toNat < 256 := b0.toNat_lt
  have g1 : b1.toNat < 256 := b1.toNat_lt
  have g2 : b2.toNat < 256 := b2.toNat_lt
  have g3 : b3.toNat < 256 := b3.toNat_lt
  clear hn hnl
  go_enter Try.func52, Try.ntmps52
  go_wp2
  go_quiet (fail)
  go_wp2
  go_ret3
  exact Opened.err rfl (gb_drewN (gb_refl _ _) _)

set_option maxHeartbeats 2000000 in
set_option maxRecDepth 100000 in
theorem refOpen_short (b o c n : Nat) (b0 b1 b2 b3 : UInt8) (len : Nat) (w : World) (h2 : 4 ≤ len)
    (hc0 : w.cell? ⟨b, o, none⟩ = some (.int .u8 (b0.toNat : Int))) (hc1 : w.cell? ⟨b, o + 1, none⟩ = some (.int .u8 (b1.toNat : Int))) (hc2 : w.cell? ⟨b, o + 2, none⟩ = some (.int .u8 (b2.toNat : Int))) (hc3 : w.cell? ⟨b, o + 3, none⟩ = some (.int .u8 (b3.toNat : Int)))
    (hn : be4 b0 b1 b2 b3 = n) (h1 : len ≤ 100000000) (c1 : n ≤ 1048576) (c2 : len < n + 8) :
    Calls Try.prog 52 #[.slice (some ⟨b, o, none⟩) len c] w (Opened ([], 0, 3) w) := by
  have hor := or4i b0 b1 b2 b3
  rw [hn] at hor
  have g0 : b0.toNat < 256 := b0.toNat_lt
  have g1 : b1.toNat < 256 := b1.toNat_lt
  have g2 : b2.toNat < 256 := b2.toNat_lt
  have g3 : b3.toNat < 256 := b3.toNat_lt
  clear hn
  go_enter Try.func52, Try.ntmps52
  go_wp2
  go_quiet (fail)
  go_wp2
  go_ret3
  exact Opened.err rfl (gb_drewN (gb_refl _ _) _)

theorem refCrc_q {A : Option Addr} {c n q : Nat} {bs : List UInt8} {w : World} {B : Nat} (hn : bs.length = n) (hq : crc bs = q) (hr : Rd w B A (u8s bs)) (h1 : n ≤ 100000000) :
    Calls Try.prog 83 #[.slice A n c] w fun e w' => e = .returned (.int .u32 (q : Int)) ∧ w = w' := by
  subst hq
  exact refCrc_as hn hr h1
set_option maxRecDepth 100000 in
theorem string_of {A : Option Addr} {n c B : Nat} {bs : List UInt8} {W : World} (h : Rd W B A (u8s bs)) (hn : bs.length = n) : (convert 22 9 (.slice A n c)).run Try.prog W = .ok (.string ⟨bs.toArray⟩) W := by
  subst hn
  exact run_string_of W 22 5 Try.underlying22 Try.underlying5 _ _ _ _ h 9 Try.underlying9

set_option maxHeartbeats 4000000 in
set_option maxRecDepth 100000 in
theorem refOpen_sum (b o c n q : Nat) (b0 b1 b2 b3 : UInt8) (pre D : List UInt8) (len : Nat) (w : World) (hcap : len ≤ c)
    (hc0 : w.cell? ⟨b, o, none⟩ = some (.int .u8 (b0.toNat : Int))) (hc1 : w.cell? ⟨b, o + 1, none⟩ = some (.int .u8 (b1.toNat : Int))) (hc2 : w.cell? ⟨b, o + 2, none⟩ = some (.int .u8 (b2.toNat : Int))) (hc3 : w.cell? ⟨b, o + 3, none⟩ = some (.int .u8 (b3.toNat : Int)))
    (hn : be4 b0 b1 b2 b3 = n) (h1 : len ≤ 100000000) (c1 : n ≤ 1048576) (c2 : n + 8 ≤ len)
    (hpl : pre.length = 4 + n) (hpr : Rd w w.heap.size (some ⟨b, o, none⟩) (u8s pre)) (hq : crc pre = q) (hql : q < 4294967296) (hDl : D.length = 4) (hD : Rd w w.heap.size (some ⟨b, o + (4 + n), none⟩) (u8s D)) (hne : tl q ≠ D) :
    Calls Try.prog 52 #[.slice (some ⟨b, o, none⟩) len c] w (Opened ([], 0, 12) w) := by
  have hor := or4i b0 b1 b2 b3
  rw [hn] at hor
  have g0 : b0.toNat < 256 := b0.toNat_lt
  have g1 : b1.toNat < 256 := b1.toNat_lt
  have g2 : b2.toNat < 256 := b2.toNat_lt
  have g3 : b3.toNat < 256 := b3.toNat_lt
  clear hn
  have HP := hide hpl; have HQ := hide hq; have HQL := hide hql; have HDL := hide hDl; have HN := hide hne
  clear hpl hq hql hDl hne
  go_enter Try.func52, Try.ntmps52
  go_wp2
  go_quiet (fail)
  clear hor hc0 hc1 hc2 hc3 g0 g1 g2 g3
  go_upto_region 8 with fail
  go_cut [52] (fun s wc => s = .bool true ∧ w.grownBy wc none)
  case first =>
    have hW0 : w.grownBy (w.drewN nq) none := gb_drewN (gb_refl _ _) _
    generalize w.drewN nq = W at *
    have hpW := hide (hpr.grown hW0 (Nat.le_refl _) (by simp))
    have hDW := hide (hD.grown hW0 (Nat.le_refl _) (by simp))
    have hcv : ∀ W', W.grownBy W' none → (convert 22 9 (.slice (some ⟨b, o + (4 + n), none⟩) 4 (c - (4 + n)))).run Try.prog W' = .ok (.string ⟨D.toArray⟩) W' := fun W' hW' => string_of (hDW.out.grown hW' hW0.size (by simp)) HDL.out
    have hcv0 := hcv W.drew (gb_drew (gb_refl W none))
    have hcv1 := hcv W (gb_refl W none)
    have HCV := hide hcv
    clear hcv
    have f1 : IntKind.i64.wrap (4 + (n : Int)) = 4 + (n : Int) := by rw [IntKind.wrap_i64]; omega
    have f2 : IntKind.i64.wrap (8 + (n : Int)) = 8 + (n : Int) := by rw [IntKind.wrap_i64]; omega
    have f3 : (0 : Int) ≤ 4 + (n : Int) := by omega
    have f4 : 4 + (n : Int) ≤ (c : Int) := by omega
    have f5 : (4 + (n : Int)).toNat = 4 + n := by omega
    have f6 : (8 + (n : Int)).toNat = 8 + n := by omega
    have f7 : 8 + (n : Int) ≤ (c : Int) := by omega
    have f8 : 4 + (n : Int) ≤ 8 + (n : Int) := by omega
    have f9 : ¬ c = 4 + n := by omega
    have f10 : 8 + n - (4 + n) = 4 := by omega
    have f11 : (0 : Int) ≤ 8 + (n : Int) := by omega
    go_region_law (first
      | (go_simp; go_at_call 83; refine (refCrc_q HP.out HQ.out (Rd.drew hpW.out) (by omega)).mono ?_; rintro e w3 ⟨rfl, rfl⟩)
      | (go_simp; go_at_call 82; refine (turned_any _ HQL.out _).mono ?_; rintro e w4 ⟨A4, c4, rfl, hown4, hg4⟩; have hq4 : W.grownBy w4 none := gb_trans (gb_drew (gb_refl W none)) hg4 (.inl rfl); have hcv2 := HCV.out w4 hq4; have hcv3 := string_of (c := c4) (Rd.of_own hown4) (tl_length q)))
    all_goals (go_wp2_with fail; go_meet; case rel => exact ⟨by rw [beq_eq_false_iff_ne.2 HN.out]; rfl, gb_trans hW0 hq4 (.inl rfl)⟩)
  case rest =>
    obtain ⟨rfl, hg⟩ := hcut
    go_wp2_with fail
    go_ret3
    exact Opened.err rfl hg

set_option maxHeartbeats 4000000 in
set_option maxRecDepth 100000 in
theorem refOpen_ok (b o c n q : Nat) (b0 b1 b2 b3 : UInt8) (pre D load : List UInt8) (len : Nat) (w : World) (hcap : len ≤ c)
    (hc0 : w.cell? ⟨b, o, none⟩ = some (.int .u8 (b0.toNat : Int))) (hc1 : w.cell? ⟨b, o + 1, none⟩ = some (.int .u8 (b1.toNat : Int))) (hc2 : w.cell? ⟨b, o + 2, none⟩ = some (.int .u8 (b2.toNat : Int))) (hc3 : w.cell? ⟨b, o + 3, none⟩ = some (.int .u8 (b3.toNat : Int)))
    (hn : be4 b0 b1 b2 b3 = n) (h1 : len ≤ 100000000) (c1 : n ≤ 1048576) (c2 : n + 8 ≤ len)
    (hpl : pre.length = 4 + n) (hpr : Rd w w.heap.size (some ⟨b, o, none⟩) (u8s pre)) (hq : crc pre = q) (hql : q < 4294967296) (hDl : D.length = 4) (hD : Rd w w.heap.size (some ⟨b, o + (4 + n), none⟩) (u8s D)) (hne : tl q = D)
    (hl : load.length = n) (hrl : Rd w w.heap.size (some ⟨b, o + 4, none⟩) (u8s load)) :
    Calls Try.prog 52 #[.slice (some ⟨b, o, none⟩) len c] w (Opened (load, n + 8, 0) w) := by
  have hor := or4i b0 b1 b2 b3
  rw [hn] at hor
  have g0 : b0.toNat < 256 := b0.toNat_lt
  have g1 : b1.toNat < 256 := b1.toNat_lt
  have g2 : b2.toNat < 256 := b2.toNat_lt
  have g3 : b3.toNat < 256 := b3.toNat_lt
  clear hn
  have HP := hide hpl; have HQ := hide hq; have HQL := hide hql; have HDL := hide hDl; have HN := hide hne; have HLO := hide hl
  clear hpl hq hql hDl hne hl
  go_enter Try.func52, Try.ntmps52
  go_wp2
  go_quiet (fail)
  clear hor hc0 hc1 hc2 hc3 g0 g1 g2 g3
  go_upto_region 8 with fail
  go_cut [52] (fun s wc => s = .bool false ∧ w.grownBy wc none)
  case first =>
    have hW0 : w.grownBy (w.drewN nq) none := gb_drewN (gb_refl _ _) _
    generalize w.drewN nq = W at *
    have hpW := hide (hpr.grown hW0 (Nat.le_refl _) (by simp))
    have hDW := hide (hD.grown hW0 (Nat.le_refl _) (by simp))
    have hcv : ∀ W', W.grownBy W' none → (convert 22 9 (.slice (some ⟨b, o + (4 + n), none⟩) 4 (c - (4 + n)))).run Try.prog W' = .ok (.string ⟨D.toArray⟩) W' := fun W' hW' => string_of (hDW.out.grown hW' hW0.size (by simp)) HDL.out
    have hcv0 := hcv W.drew (gb_drew (gb_refl W none))
    have hcv1 := hcv W (gb_refl W none)
    have HCV := hide hcv
    clear hcv
    have f1 : IntKind.i64.wrap (4 + (n : Int)) = 4 + (n : Int) := by rw [IntKind.wrap_i64]; omega
    have f2 : IntKind.i64.wrap (8 + (n : Int)) = 8 + (n : Int) := by rw [IntKind.wrap_i64]; omega
    have f3 : (0 : Int) ≤ 4 + (n : Int) := by omega
    have f4 : 4 + (n : Int) ≤ (c : Int) := by omega
    have f5 : (4 + (n : Int)).toNat = 4 + n := by omega
    have f6 : (8 + (n : Int)).toNat = 8 + n := by omega
    have f7 : 8 + (n : Int) ≤ (c : Int) := by omega
    have f8 : 4 + (n : Int) ≤ 8 + (n : Int) := by omega
    have f9 : ¬ c = 4 + n := by omega
    have f10 : 8 + n - (4 + n) = 4 := by omega
    have f11 : (0 : Int) ≤ 8 + (n : Int) := by omega
    go_region_law (first
      | (go_simp; go_at_call 83; refine (refCrc_q HP.out HQ.out (Rd.drew hpW.out) (by omega)).mono ?_; rintro e w3 ⟨rfl, rfl⟩)
      | (go_simp; go_at_call 82; refine (turned_any _ HQL.out _).mono ?_; rintro e w4 ⟨A4, c4, rfl, hown4, hg4⟩; have hq4 : W.grownBy w4 none := gb_trans (gb_drew (gb_refl W none)) hg4 (.inl rfl); have hcv2 := HCV.out w4 hq4; have hcv3 := string_of (c := c4) (Rd.of_own hown4) (tl_length q)))
    all_goals (go_wp2_with fail; go_meet; case rel => exact ⟨by rw [beq_iff_eq.2 HN.out]; rfl, gb_trans hW0 hq4 (.inl rfl)⟩)
  case rest =>
    obtain ⟨rfl, hg⟩ := hcut
    have hrl2 := hrl.grown hg (Nat.le_refl _) (by simp)
    have hgs := hg.size
    have f9 : ¬ c = 4 := by omega
    go_wp2_with (at_builtin; go_loud (refine app8 (base := wc.heap.size) (n := 0) (m := 4 + n - 4) (World.ownsRow_made wc #[] 0 (Nat.le_refl _) (by unfold maxLen; omega) rfl) ((hrl2.more hgs).alloc (Nat.le_refl _) _) ((u8s_length _).trans (HLO.out.trans (by omega))) (u8s_cell _) (by omega) (by simp) rfl rfl rfl rfl ?_); intro v5 w5 hown5 hg5 hwh5)
    go_ret3
    have e8 : ((n + 8 : Nat) : Int) = (n : Int) + 8 := by omega
    exact ⟨v5, by rw [e8]; rfl, own_base (own_as hown5 (by rw [HLO.out]; omega) rfl) hgs, gb_trans (gb_alloc hg _) hg5 (.inr (.inr ⟨_, rfl, hgs⟩))⟩

theorem drop_take4 (bs : List UInt8) (k : Nat) (h : k + 4 ≤ bs.length) : (bs.drop k).take 4 = [bs.getD k 0, bs.getD (k + 1) 0, bs.getD (k + 2) 0, bs.getD (k + 3) 0] := by
  have hl : ((bs.drop k).take 4).length = 4 := by rw [List.length_take, List.length_drop]; omega
  apply List.ext_getElem
  · rw [hl]; rfl
  · intro i hi _
    rw [hl] at hi
    rcases (show i = 0 ∨ i = 1 ∨ i = 2 ∨ i = 3 by omega) with rfl | rfl | rfl | rfl <;>
      simp [List.getD, show k < bs.length by omega, show k + 1 < bs.length by omega, show k + 2 < bs.length by omega, show k + 3 < bs.length by omega]
theorem sum_iff (q : Nat) (hq : q < 4294967296) (bs : List UInt8) (k : Nat) (h : k + 4 ≤ bs.length) : tl q = (bs.drop k).take 4 ↔ q = sumAt bs k := by
  rw [drop_take4 bs k h]
  exact tl_iff q hq _ _ _ _

set_option maxHeartbeats 1000000 in
/-- The reference's Open. -/
theorem refOpen_any (A : Option Addr) (c : Nat) (bs : List UInt8) (w : World) (hr : Rd w w.heap.size A (u8s bs)) (hc : bs.length ≤ c) (h1 : bs.length ≤ 100000000) :
    Calls Try.prog 52 #[.slice A bs.length c] w (Opened (opn bs) w) := by
  rcases Nat.lt_or_ge bs.length 4 with h2 | h2
  · exact refOpen_tiny A c bs w h2
  · obtain ⟨b, o, rfl, hbl, hcell⟩ := hr.lay8 (by omega)
    have k0 := hcell 0 (by omega)
    have k1 := hcell 1 (by omega)
    have k2 := hcell 2 (by omega)
    have k3 := hcell 3 (by omega)
    rw [Nat.add_zero] at k0
    have hN : be4 bs[0] bs[1] bs[2] bs[3] = headOf bs := by unfold headOf; simp [List.getD, show 0 < bs.length by omega, show 1 < bs.length by omega, show 2 < bs.length by omega, show 3 < bs.length by omega]
    generalize bs[0] = b0 at k0 hN
    generalize bs[1] = b1 at k1 hN
    generalize bs[2] = b2 at k2 hN
    generalize bs[3] = b3 at k3 hN
    have hop : opn bs = if 1048576 < headOf bs then ([], 0, 1) else if bs.length < headOf bs + 8 then ([], 0, 3) else if crc (bs.take (4 + headOf bs)) = sumAt bs (4 + headOf bs) then ((bs.drop 4).take (headOf bs), headOf bs + 8, 0) else ([], 0, 12) := by
      unfold opn; rw [if_neg (by omega)]
    generalize headOf bs = n at hN hop
    by_cases c1 : 1048576 < n
    · rw [hop, if_pos c1]
      exact refOpen_long b o c n b0 b1 b2 b3 _ w h2 k0 k1 k2 k3 hN h1 c1
    · by_cases c2 : bs.length < n + 8
      · rw [hop, if_neg c1, if_pos c2]
        exact refOpen_short b o c n b0 b1 b2 b3 _ w h2 k0 k1 k2 k3 hN h1 (by omega) c2
      · have hrt := hr.take (4 + n)
        rw [u8s_take] at hrt
        have hlt : (bs.take (4 + n)).length = 4 + n := by rw [List.length_take]; omega
        have hql := crc_lt (bs.take (4 + n))
        generalize hqe : crc (bs.take (4 + n)) = q at hql hop
        have hD : Rd w w.heap.size (some ⟨b, o + (4 + n), none⟩) (u8s ((bs.drop (4 + n)).take 4)) := by
          have h4 := hr.cut (k := 4 + n) (cap := c) (by rw [u8s_length]; omega) (by rw [u8s_length]; exact hc)
          rw [if_neg (by omega)] at h4
          have h5 := h4.take 4
          rw [u8s_drop, u8s_take] at h5
          simpa [Addr.add_lit] using h5
        have hDl : ((bs.drop (4 + n)).take 4).length = 4 := by rw [List.length_take, List.length_drop]; omega
        have hiff := sum_iff q hql bs (4 + n) (by omega)
        by_cases c3 : q = sumAt bs (4 + n)
        · rw [hop, if_neg c1, if_neg c2, if_pos c3]
          have hrl : Rd w w.heap.size (some ⟨b, o + 4, none⟩) (u8s ((bs.drop 4).take n)) := by
            have h4 := hr.cut (k := 4) (cap := c) (by rw [u8s_length]; omega) (by rw [u8s_length]; exact hc)
            rw [if_neg (by omega)] at h4
            have h5 := h4.take n
            rw [u8s_drop, u8s_take] at h5
            simpa [Addr.add_lit] using h5
          exact refOpen_ok b o c n _ b0 b1 b2 b3 _ _ _ _ w hc k0 k1 k2 k3 hN h1 (by omega) (by omega) hlt hrt hqe hql hDl hD (hiff.2 c3) (by rw [List.length_take, List.length_drop]; omega) hrl
        · rw [hop, if_neg c1, if_neg c2, if_neg c3]
          exact refOpen_sum b o c n _ b0 b1 b2 b3 _ _ _ w hc k0 k1 k2 k3 hN h1 (by omega) (by omega) hlt hrt hqe hql hDl hD (fun h => c3 (hiff.1 h))

end Go.Proofs.Ytgilkaaholkgfaa
