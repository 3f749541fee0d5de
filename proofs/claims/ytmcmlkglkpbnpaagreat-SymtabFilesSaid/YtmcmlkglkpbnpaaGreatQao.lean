/-
  The contract of the reference's reader's Text.
-/
import Derived.Test.YtmcmlkglkpbnpaaGreatQan
import Derived.Deep.DeepCutAuto
import Derived.Deep.RegionLaw
import Derived.Test.YtmcmlkglkpbnpaaGreatQai
import Derived.Deep.QuietTactic
import Derived.BigQuiet
namespace Go.Proofs.YtmcmlkglkpbnpaaGreat
open Go.RowKit
def At8 (w : World) (v : Value) (bs : List UInt8) : Prop := ∃ A c, v = .slice A bs.length c ∧ bs.length ≤ c ∧ c ≤ maxLen ∧ Rd w w.heap.size A (u8s bs)
set_option maxRecDepth 100000 in
theorem At8.grown {w w' : World} {v : Value} {bs : List UInt8} (h : At8 w v bs) (hg : w.grownBy w' none) : At8 w' v bs := by
 obtain ⟨A, c, e, h1, h2, h3⟩ := h
 exact ⟨A, c, e, h1, h2, (h3.grown hg (Nat.le_refl _) (by simp)).more hg.size⟩
set_option maxRecDepth 100000 in
theorem At8.of_own {w : World} {base n : Nat} {v : Value} {bs : List UInt8} (h : w.ownsRow base 5 1 v n (u8s bs)) (hn : n = bs.length) : At8 w v bs := by
 subst hn
 obtain ⟨A, c, e, h1, h2, h3⟩ := own_form h
 exact ⟨A, c, e, h1, h2, h3⟩
set_option maxRecDepth 100000 in
theorem At8.string {w : World} {A : Option Addr} {n c : Nat} {bs : List UInt8} (h : At8 w (.slice A n c) bs) : (convert 49 9 (.slice A n c)).run Tryz.prog w = .ok (.string ⟨bs.toArray⟩) w := by
 obtain ⟨A', c', e, _, _, hr⟩ := h
 injection e with e1 e2 e3
 subst e1; subst e2; subst e3
 exact run_string_of w 49 5 Tryz.underlying49 Tryz.underlying5 _ _ _ _ hr 9 Tryz.underlying9
end Go.Proofs.YtmcmlkglkpbnpaaGreat
namespace Go.Proofs.YtmcmlkglkpbnpaaGreat
open Go.RowKit
theorem own_full (w : World) (t : TypeId) (cur : Array Value) (n : Nat) (hn : cur.size = n) (hm : n ≤ 1000000) : (w.alloc (.cells cur t)).ownsRow w.heap.size t 1 (.slice (some ⟨w.heap.size, 0, none⟩) n n) n cur.toList :=
 ⟨by simp [hn], .inr ⟨w.heap.size, n, cur, rfl, Nat.le_refl _, heap_alloc_new w _, Nat.le_refl _, by unfold maxLen; omega, by omega, by rw [Nat.mul_one, ← hn, ← Array.length_toList, List.take_length]⟩⟩
def New8 (n : Nat) (bs : List UInt8) (w : World) (e : Ending) (w' : World) : Prop :=
 ∃ A c, e = .returned (.slice A n c) ∧ w'.ownsRow w.heap.size 5 1 (.slice A n c) n (u8s bs) ∧ w.grownBy w' none
theorem hd_cells4 (z : Nat) (h : z < 4294967296) : [Value.int .u8 ((z : Int) / 16777216), .int .u8 ((z : Int) / 65536 % 256), .int .u8 ((z : Int) / 256 % 256), .int .u8 ((z : Int) % 256)] = u8s (hd z) := by
 unfold hd u8s
 simp only [List.map_cons, List.map_nil, UInt8.toNat_ofNat', List.cons.injEq, Value.int.injEq, true_and, and_true]
 omega
theorem tl_cells4 (z : Nat) (h : z < 4294967296) : [Value.int .u8 ((z : Int) % 256), .int .u8 ((z : Int) / 256 % 256), .int .u8 ((z : Int) / 65536 % 256), .int .u8 ((z : Int) / 16777216)] = u8s (tl z) := by
 unfold tl u8s
 simp only [List.map_cons, List.map_nil, UInt8.toNat_ofNat', List.cons.injEq, Value.int.injEq, true_and, and_true]
 omega
set_option maxRecDepth 100000 in
theorem four_any (n : Nat) (hn : n < 4294967296) (w : World) : Calls Tryz.prog 133 #[.int .u32 (n : Int)] w (New8 4 (hd n) w) := by
 have h2 : (n : Int) ≤ 4294967295 := by omega
 have E := hide (hd_cells4 n hn)
 clear hn
 go_enter Tryz.func133, Tryz.ntmps133
 go_wp2
 go_ret
 refine ⟨_, _, rfl, ?_, gb_alloc (gb_refl _ _) _⟩
 rw [← E.out]
 exact own_full _ _ _ 4 rfl (by decide)
set_option maxRecDepth 100000 in
theorem turned_any (n : Nat) (hn : n < 4294967296) (w : World) : Calls Tryz.prog 126 #[.int .u32 (n : Int)] w (New8 4 (tl n) w) := by
 have h2 : (n : Int) ≤ 4294967295 := by omega
 have E := hide (tl_cells4 n hn)
 clear hn
 go_enter Tryz.func126, Tryz.ntmps126
 go_wp2
 go_ret
 refine ⟨_, _, rfl, ?_, gb_alloc (gb_refl _ _) _⟩
 rw [← E.out]
 exact own_full _ _ _ 4 rfl (by decide)
theorem refCrc_as {A : Option Addr} {c n : Nat} {bs : List UInt8} {w : World} {B : Nat} (hn : bs.length = n) (hr : Rd w B A (u8s bs)) (h1 : n ≤ 100000000) :
  Calls Tryz.prog 127 #[.slice A n c] w fun e w' => e = .returned (.int .u32 (crc bs : Int)) ∧ w = w' := by
 subst hn
 exact refCrc_any A c bs w B hr h1
set_option maxHeartbeats 1000000 in
set_option maxRecDepth 100000 in
theorem refSeal_ok (A : Option Addr) (c : Nat) (bs : List UInt8) (w : World) (hr : Rd w w.heap.size A (u8s bs)) (h1 : bs.length ≤ 1048576) :
  Calls Tryz.prog 116 #[.slice A bs.length c] w (NewBytesErr (frame bs) 0 w) := by
 have HL := hide (show (hd bs.length ++ bs).length = 4 + bs.length by rw [List.length_append]; rfl)
 have HF := hide (show frame bs = hd bs.length ++ bs ++ tl (crc (hd bs.length ++ bs)) from rfl)
 have HQ := hide (crc_lt (hd bs.length ++ bs))
 go_enter Tryz.func116, Tryz.ntmps116
 go_wp2_with (first
  | (go_at_call 133; refine (four_any bs.length (by omega) _).mono ?_; rintro e w1 ⟨A1, c1, rfl, hown1, hg1⟩; have hr1 := hr.grown hg1 (Nat.le_refl _) (by simp); have hs1 := hg1.size)
  | (at_builtin; refine app8 hown1 hr1 (u8s_length bs) (u8s_cell bs) (by omega) (by omega) rfl rfl rfl rfl ?_; intro v2 w2 hown2a hg2 hwh2; have hown2 := own_as (m := 4 + bs.length) (ys := u8s (hd bs.length ++ bs)) hown2a rfl (u8s_append _ _).symm; have hg2n := gb_new hg1 hown1 hg2; have hs2 := hg2n.size; obtain ⟨A2, c2, rfl, hnc2, hcm2, hrd2⟩ := own_form hown2; clear hown2a hg2 hwh2)
  | (go_at_call 127; refine (refCrc_as HL.out hrd2 (by omega)).mono ?_; rintro e w3 ⟨rfl, rfl⟩)
  | (go_at_call 126; refine (turned_any _ HQ.out _).mono ?_; rintro e w4 ⟨A4, c4, rfl, hown4, hg4⟩; have hs4 := hg4.size; obtain ⟨A4', c4', hAc, _, _, hrd4⟩ := own_form hown4; injection hAc with hA4 _ hc4; subst hA4; subst hc4; have hown2' := own_grown hown2 hg4)
  | (at_builtin; refine app8 (m := 4) hown2' hrd4 rfl (u8s_cell _) (by omega) (by omega) rfl rfl rfl rfl ?_; intro v5 w5 hown5 hg5 hwh5))
 go_ret2
 exact ⟨v5, rfl, own_as hown5 (by rw [HF.out, List.length_append, HL.out]; rfl) (by rw [HF.out]; exact (u8s_append _ _).symm), gb_new (gb_trans hg2n hg4 (.inl rfl)) hown2' hg5⟩
end Go.Proofs.YtmcmlkglkpbnpaaGreat
namespace Go.Proofs.YtmcmlkglkpbnpaaGreat
open Go.RowKit
theorem i64_or_nat (a b : Nat) (ha : a < 4294967296) (hb : b < 4294967296) : bits .or .i64 (a : Int) (b : Int) = ((a ||| b : Nat) : Int) := by
 have hx : a ||| b < 2 ^ 32 := Nat.or_lt_two_pow (by omega) (by omega)
 show IntKind.i64.wrap ((BitVec.ofInt 64 (a : Int) ||| BitVec.ofInt 64 (b : Int)).toNat : Int) = _
 rw [BitVec.toNat_or, ofInt_u64 a (by omega), ofInt_u64 b (by omega), IntKind.wrap_i64]
 omega
theorem i64_orp (a b i : Nat) (hb : b < 2 ^ i) (h : a * 2 ^ i + b < 4294967296) : bits .or .i64 ((a * 2 ^ i : Nat) : Int) (b : Int) = ((a * 2 ^ i + b : Nat) : Int) := by
 rw [i64_or_nat _ _ (by omega) (by omega), ← Nat.shiftLeft_eq, Nat.shiftLeft_add_eq_or_of_lt hb]
theorem or4i (a b c d : UInt8) :
  bits BinOp.or IntKind.i64 (bits BinOp.or IntKind.i64 (bits BinOp.or IntKind.i64 ((a.toNat : Int) * 16777216) ((b.toNat : Int) * 65536)) ((c.toNat : Int) * 256)) (d.toNat : Int) = (be4 a b c d : Int) := by
 have := a.toNat_lt; have := b.toNat_lt; have := c.toNat_lt; have := d.toNat_lt
 have e1 : bits BinOp.or IntKind.i64 ((a.toNat : Int) * 16777216) ((b.toNat : Int) * 65536) = ((a.toNat * 16777216 + b.toNat * 65536 : Nat) : Int) := by
  have := i64_orp a.toNat (b.toNat * 65536) 24 (by omega) (by omega)
  rw [show (2 : Nat) ^ 24 = 16777216 by decide] at this
  rw [← this]; congr 1
 have e2 : bits BinOp.or IntKind.i64 ((a.toNat * 16777216 + b.toNat * 65536 : Nat) : Int) ((c.toNat : Int) * 256) = ((a.toNat * 16777216 + b.toNat * 65536 + c.toNat * 256 : Nat) : Int) := by
  have := i64_orp (a.toNat * 256 + b.toNat) (c.toNat * 256) 16 (by omega) (by omega)
  rw [show (2 : Nat) ^ 16 = 65536 by decide, show (a.toNat * 256 + b.toNat) * 65536 = a.toNat * 16777216 + b.toNat * 65536 by omega] at this
  rw [← this]; congr 1
 have e3 : bits BinOp.or IntKind.i64 ((a.toNat * 16777216 + b.toNat * 65536 + c.toNat * 256 : Nat) : Int) (d.toNat : Int) = ((a.toNat * 16777216 + b.toNat * 65536 + c.toNat * 256 + d.toNat : Nat) : Int) := by
  have := i64_orp (a.toNat * 65536 + b.toNat * 256 + c.toNat) d.toNat 8 (by omega) (by omega)
  rw [show (2 : Nat) ^ 8 = 256 by decide, show (a.toNat * 65536 + b.toNat * 256 + c.toNat) * 256 = a.toNat * 16777216 + b.toNat * 65536 + c.toNat * 256 by omega] at this
  rw [← this]
 rw [e1, e2, e3]
 rfl
set_option maxHeartbeats 1000000 in
set_option maxRecDepth 100000 in
theorem refOpen_tiny (A : Option Addr) (c : Nat) (bs : List UInt8) (w : World) (h2 : bs.length < 4) :
  Calls Tryz.prog 106 #[.slice A bs.length c] w (Opened (opn bs) w) := by
 have e : opn bs = ([], 0, 3) := by unfold opn; rw [if_pos h2]
 rw [e]
 clear e
 go_enter Tryz.func106, Tryz.ntmps106
 go_wp2
 go_ret3
 exact Opened.err rfl (gb_refl _ _)
set_option maxHeartbeats 2000000 in
set_option maxRecDepth 100000 in
theorem refOpen_long (b o c n : Nat) (b0 b1 b2 b3 : UInt8) (len : Nat) (w : World) (h2 : 4 ≤ len)
  (hc0 : w.cell? ⟨b, o, none⟩ = some (.int .u8 (b0.toNat : Int))) (hc1 : w.cell? ⟨b, o + 1, none⟩ = some (.int .u8 (b1.toNat : Int))) (hc2 : w.cell? ⟨b, o + 2, none⟩ = some (.int .u8 (b2.toNat : Int))) (hc3 : w.cell? ⟨b, o + 3, none⟩ = some (.int .u8 (b3.toNat : Int)))
  (hn : be4 b0 b1 b2 b3 = n) (h1 : len ≤ 100000000) (c1 : 1048576 < n) :
  Calls Tryz.prog 106 #[.slice (some ⟨b, o, none⟩) len c] w (Opened ([], 0, 1) w) := by
 have hor := or4i b0 b1 b2 b3
 have hnl := be4_lt b0 b1 b2 b3
 rw [hn] at hor hnl
 have hnl2 : (n : Int) ≤ 4294967295 := by omega
 have g0 : b0.toNat < 256 := b0.toNat_lt
 have g1 : b1.toNat < 256 := b1.toNat_lt
 have g2 : b2.toNat < 256 := b2.toNat_lt
 have g3 : b3.toNat < 256 := b3.toNat_lt
 clear hn hnl
 go_enter Tryz.func106, Tryz.ntmps106
 go_wp2
 go_quiet (fail)
 go_wp2
 go_ret3
 exact Opened.err rfl (gb_drewN (gb_refl _ _) _)
set_option maxHeartbeats 2000000 in
set_option maxRecDepth 100000 in
theorem refOpen_short (b o c n : Nat) (b0 b1 b2 b3 : UInt8) (len : Nat) (w : World) (h2 : 4 ≤ len)
  (hc0 : w.cell? ⟨b, o, none⟩ = some (.int .u8 (b0.toNat : Int))) (hc1 : w.cell? ⟨b, o + 1, none⟩ = some (.int .u8 (b1.toNat : Int))) (hc2 : w.cell? ⟨b, o + 2, none⟩ = some (.int .u8 (b2.toNat : Int))) (hc3 : w.cell? ⟨b, o + 3, none⟩ = some (.int .u8 (b3.toNat : Int)))
  (hn : be4 b0 b1 b2 b3 = n) (h1 : len ≤ 100000000) (c1 : n ≤ 1048576) (c2 : len < n + 8) :
  Calls Tryz.prog 106 #[.slice (some ⟨b, o, none⟩) len c] w (Opened ([], 0, 3) w) := by
 have hor := or4i b0 b1 b2 b3
 rw [hn] at hor
 have g0 : b0.toNat < 256 := b0.toNat_lt
 have g1 : b1.toNat < 256 := b1.toNat_lt
 have g2 : b2.toNat < 256 := b2.toNat_lt
 have g3 : b3.toNat < 256 := b3.toNat_lt
 clear hn
 go_enter Tryz.func106, Tryz.ntmps106
 go_wp2
 go_quiet (fail)
 go_wp2
 go_ret3
 exact Opened.err rfl (gb_drewN (gb_refl _ _) _)
theorem refCrc_q {A : Option Addr} {c n q : Nat} {bs : List UInt8} {w : World} {B : Nat} (hn : bs.length = n) (hq : crc bs = q) (hr : Rd w B A (u8s bs)) (h1 : n ≤ 100000000) :
  Calls Tryz.prog 127 #[.slice A n c] w fun e w' => e = .returned (.int .u32 (q : Int)) ∧ w = w' := by
 subst hq
 exact refCrc_as hn hr h1
set_option maxRecDepth 100000 in
theorem string_of {A : Option Addr} {n c B : Nat} {bs : List UInt8} {W : World} (h : Rd W B A (u8s bs)) (hn : bs.length = n) : (convert 49 9 (.slice A n c)).run Tryz.prog W = .ok (.string ⟨bs.toArray⟩) W := by
 subst hn
 exact run_string_of W 49 5 Tryz.underlying49 Tryz.underlying5 _ _ _ _ h 9 Tryz.underlying9
set_option maxHeartbeats 4000000 in
set_option maxRecDepth 100000 in
theorem refOpen_sum (b o c n q : Nat) (b0 b1 b2 b3 : UInt8) (pre D : List UInt8) (len : Nat) (w : World) (hcap : len ≤ c)
  (hc0 : w.cell? ⟨b, o, none⟩ = some (.int .u8 (b0.toNat : Int))) (hc1 : w.cell? ⟨b, o + 1, none⟩ = some (.int .u8 (b1.toNat : Int))) (hc2 : w.cell? ⟨b, o + 2, none⟩ = some (.int .u8 (b2.toNat : Int))) (hc3 : w.cell? ⟨b, o + 3, none⟩ = some (.int .u8 (b3.toNat : Int)))
  (hn : be4 b0 b1 b2 b3 = n) (h1 : len ≤ 100000000) (c1 : n ≤ 1048576) (c2 : n + 8 ≤ len)
  (hpl : pre.length = 4 + n) (hpr : Rd w w.heap.size (some ⟨b, o, none⟩) (u8s pre)) (hq : crc pre = q) (hql : q < 4294967296) (hDl : D.length = 4) (hD : Rd w w.heap.size (some ⟨b, o + (4 + n), none⟩) (u8s D)) (hne : tl q ≠ D) :
  Calls Tryz.prog 106 #[.slice (some ⟨b, o, none⟩) len c] w (Opened ([], 0, 12) w) := by
 have hor := or4i b0 b1 b2 b3
 rw [hn] at hor
 have g0 : b0.toNat < 256 := b0.toNat_lt
 have g1 : b1.toNat < 256 := b1.toNat_lt
 have g2 : b2.toNat < 256 := b2.toNat_lt
 have g3 : b3.toNat < 256 := b3.toNat_lt
 clear hn
 have HP := hide hpl; have HQ := hide hq; have HQL := hide hql; have HDL := hide hDl; have HN := hide hne
 clear hpl hq hql hDl hne
 go_enter Tryz.func106, Tryz.ntmps106
 go_wp2
 go_quiet (fail)
 clear hor hc0 hc1 hc2 hc3 g0 g1 g2 g3
 go_upto_region 8 with fail
 go_cut [52] (fun s wc => s = .bool true ∧ w.grownBy wc none)
 case first =>
  have hW0 : w.grownBy (w.drewN nq) none := gb_drewN (gb_refl _ _) _
  generalize w.drewN nq = W at *
  have hpW := hide (hpr.grown hW0 (Nat.le_refl _) (by simp))
  have hDW := hide (hD.grown hW0 (Nat.le_refl _) (by simp))
  have hcv : ∀ W', W.grownBy W' none → (convert 49 9 (.slice (some ⟨b, o + (4 + n), none⟩) 4 (c - (4 + n)))).run Tryz.prog W' = .ok (.string ⟨D.toArray⟩) W' := fun W' hW' => string_of (hDW.out.grown hW' hW0.size (by simp)) HDL.out
  have hcv0 := hcv W.drew (gb_drew (gb_refl W none))
  have hcv1 := hcv W (gb_refl W none)
  have HCV := hide hcv
  clear hcv
  have f1 : IntKind.i64.wrap (4 + (n : Int)) = 4 + (n : Int) := by rw [IntKind.wrap_i64]; omega
  have f2 : IntKind.i64.wrap (8 + (n : Int)) = 8 + (n : Int) := by rw [IntKind.wrap_i64]; omega
  have f3 : (0 : Int) ≤ 4 + (n : Int) := by omega
  have f4 : 4 + (n : Int) ≤ (c : Int) := by omega
  have f5 : (4 + (n : Int)).toNat = 4 + n := by omega
  have f6 : (8 + (n : Int)).toNat = 8 + n := by omega
  have f7 : 8 + (n : Int) ≤ (c : Int) := by omega
  have f8 : 4 + (n : Int) ≤ 8 + (n : Int) := by omega
  have f9 : ¬ c = 4 + n := by omega
  have f10 : 8 + n - (4 + n) = 4 := by omega
  have f11 : (0 : Int) ≤ 8 + (n : Int) := by omega
  go_region_law (first
   | (go_simp; go_at_call 127; refine (refCrc_q HP.out HQ.out (Rd.drew hpW.out) (by omega)).mono ?_; rintro e w3 ⟨rfl, rfl⟩)
   | (go_simp; go_at_call 126; refine (turned_any _ HQL.out _).mono ?_; rintro e w4 ⟨A4, c4, rfl, hown4, hg4⟩; have hq4 : W.grownBy w4 none := gb_trans (gb_drew (gb_refl W none)) hg4 (.inl rfl); have hcv2 := HCV.out w4 hq4; have hcv3 := string_of (c := c4) (Rd.of_own hown4) (tl_length q)))
  all_goals (go_wp2_with fail; go_meet; case rel => exact ⟨by rw [beq_eq_false_iff_ne.2 HN.out]; rfl, gb_trans hW0 hq4 (.inl rfl)⟩)
 case rest =>
  obtain ⟨rfl, hg⟩ := hcut
  go_wp2_with fail
  go_ret3
  exact Opened.err rfl hg
set_option maxHeartbeats 4000000 in
set_option maxRecDepth 100000 in
theorem refOpen_ok (b o c n q : Nat) (b0 b1 b2 b3 : UInt8) (pre D load : List UInt8) (len : Nat) (w : World) (hcap : len ≤ c)
  (hc0 : w.cell? ⟨b, o, none⟩ = some (.int .u8 (b0.toNat : Int))) (hc1 : w.cell? ⟨b, o + 1, none⟩ = some (.int .u8 (b1.toNat : Int))) (hc2 : w.cell? ⟨b, o + 2, none⟩ = some (.int .u8 (b2.toNat : Int))) (hc3 : w.cell? ⟨b, o + 3, none⟩ = some (.int .u8 (b3.toNat : Int)))
  (hn : be4 b0 b1 b2 b3 = n) (h1 : len ≤ 100000000) (c1 : n ≤ 1048576) (c2 : n + 8 ≤ len)
  (hpl : pre.length = 4 + n) (hpr : Rd w w.heap.size (some ⟨b, o, none⟩) (u8s pre)) (hq : crc pre = q) (hql : q < 4294967296) (hDl : D.length = 4) (hD : Rd w w.heap.size (some ⟨b, o + (4 + n), none⟩) (u8s D)) (hne : tl q = D)
  (hl : load.length = n) (hrl : Rd w w.heap.size (some ⟨b, o + 4, none⟩) (u8s load)) :
  Calls Tryz.prog 106 #[.slice (some ⟨b, o, none⟩) len c] w (Opened (load, n + 8, 0) w) := by
 have hor := or4i b0 b1 b2 b3
 rw [hn] at hor
 have g0 : b0.toNat < 256 := b0.toNat_lt
 have g1 : b1.toNat < 256 := b1.toNat_lt
 have g2 : b2.toNat < 256 := b2.toNat_lt
 have g3 : b3.toNat < 256 := b3.toNat_lt
 clear hn
 have HP := hide hpl; have HQ := hide hq; have HQL := hide hql; have HDL := hide hDl; have HN := hide hne; have HLO := hide hl
 clear hpl hq hql hDl hne hl
 go_enter Tryz.func106, Tryz.ntmps106
 go_wp2
 go_quiet (fail)
 clear hor hc0 hc1 hc2 hc3 g0 g1 g2 g3
 go_upto_region 8 with fail
 go_cut [52] (fun s wc => s = .bool false ∧ w.grownBy wc none)
 case first =>
  have hW0 : w.grownBy (w.drewN nq) none := gb_drewN (gb_refl _ _) _
  generalize w.drewN nq = W at *
  have hpW := hide (hpr.grown hW0 (Nat.le_refl _) (by simp))
  have hDW := hide (hD.grown hW0 (Nat.le_refl _) (by simp))
  have hcv : ∀ W', W.grownBy W' none → (convert 49 9 (.slice (some ⟨b, o + (4 + n), none⟩) 4 (c - (4 + n)))).run Tryz.prog W' = .ok (.string ⟨D.toArray⟩) W' := fun W' hW' => string_of (hDW.out.grown hW' hW0.size (by simp)) HDL.out
  have hcv0 := hcv W.drew (gb_drew (gb_refl W none))
  have hcv1 := hcv W (gb_refl W none)
  have HCV := hide hcv
  clear hcv
  have f1 : IntKind.i64.wrap (4 + (n : Int)) = 4 + (n : Int) := by rw [IntKind.wrap_i64]; omega
  have f2 : IntKind.i64.wrap (8 + (n : Int)) = 8 + (n : Int) := by rw [IntKind.wrap_i64]; omega
  have f3 : (0 : Int) ≤ 4 + (n : Int) := by omega
  have f4 : 4 + (n : Int) ≤ (c : Int) := by omega
  have f5 : (4 + (n : Int)).toNat = 4 + n := by omega
  have f6 : (8 + (n : Int)).toNat = 8 + n := by omega
  have f7 : 8 + (n : Int) ≤ (c : Int) := by omega
  have f8 : 4 + (n : Int) ≤ 8 + (n : Int) := by omega
  have f9 : ¬ c = 4 + n := by omega
  have f10 : 8 + n - (4 + n) = 4 := by omega
  have f11 : (0 : Int) ≤ 8 + (n : Int) := by omega
  go_region_law (first
   | (go_simp; go_at_call 127; refine (refCrc_q HP.out HQ.out (Rd.drew hpW.out) (by omega)).mono ?_; rintro e w3 ⟨rfl, rfl⟩)
   | (go_simp; go_at_call 126; refine (turned_any _ HQL.out _).mono ?_; rintro e w4 ⟨A4, c4, rfl, hown4, hg4⟩; have hq4 : W.grownBy w4 none := gb_trans (gb_drew (gb_refl W none)) hg4 (.inl rfl); have hcv2 := HCV.out w4 hq4; have hcv3 := string_of (c := c4) (Rd.of_own hown4) (tl_length q)))
  all_goals (go_wp2_with fail; go_meet; case rel => exact ⟨by rw [beq_iff_eq.2 HN.out]; rfl, gb_trans hW0 hq4 (.inl rfl)⟩)
 case rest =>
  obtain ⟨rfl, hg⟩ := hcut
  have hrl2 := hrl.grown hg (Nat.le_refl _) (by simp)
  have hgs := hg.size
  have f9 : ¬ c = 4 := by omega
  go_wp2_with (at_builtin; go_loud (refine app8 (base := wc.heap.size) (n := 0) (m := 4 + n - 4) (World.ownsRow_made wc #[] 0 (Nat.le_refl _) (by unfold maxLen; omega) rfl) ((hrl2.more hgs).alloc (Nat.le_refl _) _) ((u8s_length _).trans (HLO.out.trans (by omega))) (u8s_cell _) (by omega) (by simp) rfl rfl rfl rfl ?_); intro v5 w5 hown5 hg5 hwh5)
  go_ret3
  have e8 : ((n + 8 : Nat) : Int) = (n : Int) + 8 := by omega
  exact ⟨v5, by rw [e8]; rfl, own_base (own_as hown5 (by rw [HLO.out]; omega) rfl) hgs, gb_trans (gb_alloc hg _) hg5 (.inr (.inr ⟨_, rfl, hgs⟩))⟩
theorem drop_take4 (bs : List UInt8) (k : Nat) (h : k + 4 ≤ bs.length) : (bs.drop k).take 4 = [bs.getD k 0, bs.getD (k + 1) 0, bs.getD (k + 2) 0, bs.getD (k + 3) 0] := by
 have hl : ((bs.drop k).take 4).length = 4 := by rw [List.length_take, List.length_drop]; omega
 apply List.ext_getElem
 ·rw [hl]; rfl
 ·intro i hi _
  rw [hl] at hi
  rcases (show i = 0 ∨ i = 1 ∨ i = 2 ∨ i = 3 by omega) with rfl | rfl | rfl | rfl <;>
   simp [List.getD, show k < bs.length by omega, show k + 1 < bs.length by omega, show k + 2 < bs.length by omega, show k + 3 < bs.length by omega]
theorem sum_iff (q : Nat) (hq : q < 4294967296) (bs : List UInt8) (k : Nat) (h : k + 4 ≤ bs.length) : tl q = (bs.drop k).take 4 ↔ q = sumAt bs k := by
 rw [drop_take4 bs k h]
 exact tl_iff q hq _ _ _ _
set_option maxHeartbeats 1000000 in
theorem refOpen_any (A : Option Addr) (c : Nat) (bs : List UInt8) (w : World) (hr : Rd w w.heap.size A (u8s bs)) (hc : bs.length ≤ c) (h1 : bs.length ≤ 100000000) :
  Calls Tryz.prog 106 #[.slice A bs.length c] w (Opened (opn bs) w) := by
 rcases Nat.lt_or_ge bs.length 4 with h2 | h2
 ·exact refOpen_tiny A c bs w h2
 ·obtain ⟨b, o, rfl, hbl, hcell⟩ := hr.lay8 (by omega)
  have k0 := hcell 0 (by omega)
  have k1 := hcell 1 (by omega)
  have k2 := hcell 2 (by omega)
  have k3 := hcell 3 (by omega)
  rw [Nat.add_zero] at k0
  have hN : be4 bs[0] bs[1] bs[2] bs[3] = headOf bs := by unfold headOf; simp [List.getD, show 0 < bs.length by omega, show 1 < bs.length by omega, show 2 < bs.length by omega, show 3 < bs.length by omega]
  generalize bs[0] = b0 at k0 hN
  generalize bs[1] = b1 at k1 hN
  generalize bs[2] = b2 at k2 hN
  generalize bs[3] = b3 at k3 hN
  have hop : opn bs = if 1048576 < headOf bs then ([], 0, 1) else if bs.length < headOf bs + 8 then ([], 0, 3) else if crc (bs.take (4 + headOf bs)) = sumAt bs (4 + headOf bs) then ((bs.drop 4).take (headOf bs), headOf bs + 8, 0) else ([], 0, 12) := by
   unfold opn; rw [if_neg (by omega)]
  generalize headOf bs = n at hN hop
  by_cases c1 : 1048576 < n
  ·rw [hop, if_pos c1]
   exact refOpen_long b o c n b0 b1 b2 b3 _ w h2 k0 k1 k2 k3 hN h1 c1
  ·by_cases c2 : bs.length < n + 8
   ·rw [hop, if_neg c1, if_pos c2]
    exact refOpen_short b o c n b0 b1 b2 b3 _ w h2 k0 k1 k2 k3 hN h1 (by omega) c2
   ·have hrt := hr.take (4 + n)
    rw [u8s_take] at hrt
    have hlt : (bs.take (4 + n)).length = 4 + n := by rw [List.length_take]; omega
    have hql := crc_lt (bs.take (4 + n))
    generalize hqe : crc (bs.take (4 + n)) = q at hql hop
    have hD : Rd w w.heap.size (some ⟨b, o + (4 + n), none⟩) (u8s ((bs.drop (4 + n)).take 4)) := by
     have h4 := hr.cut (k := 4 + n) (cap := c) (by rw [u8s_length]; omega) (by rw [u8s_length]; exact hc)
     rw [if_neg (by omega)] at h4
     have h5 := h4.take 4
     rw [u8s_drop, u8s_take] at h5
     simpa [Addr.add_lit] using h5
    have hDl : ((bs.drop (4 + n)).take 4).length = 4 := by rw [List.length_take, List.length_drop]; omega
    have hiff := sum_iff q hql bs (4 + n) (by omega)
    by_cases c3 : q = sumAt bs (4 + n)
    ·rw [hop, if_neg c1, if_neg c2, if_pos c3]
     have hrl : Rd w w.heap.size (some ⟨b, o + 4, none⟩) (u8s ((bs.drop 4).take n)) := by
      have h4 := hr.cut (k := 4) (cap := c) (by rw [u8s_length]; omega) (by rw [u8s_length]; exact hc)
      rw [if_neg (by omega)] at h4
      have h5 := h4.take n
      rw [u8s_drop, u8s_take] at h5
      simpa [Addr.add_lit] using h5
     exact refOpen_ok b o c n _ b0 b1 b2 b3 _ _ _ _ w hc k0 k1 k2 k3 hN h1 (by omega) (by omega) hlt hrt hqe hql hDl hD (hiff.2 c3) (by rw [List.length_take, List.length_drop]; omega) hrl
    ·rw [hop, if_neg c1, if_neg c2, if_neg c3]
     exact refOpen_sum b o c n _ b0 b1 b2 b3 _ _ _ w hc k0 k1 k2 k3 hN h1 (by omega) (by omega) hlt hrt hqe hql hDl hD (fun h => c3 (hiff.1 h))
end Go.Proofs.YtmcmlkglkpbnpaaGreat
namespace Go.Proofs.YtmcmlkglkpbnpaaGreat
open Go.RowKit
theorem refOpen_as {A : Option Addr} {c n : Nat} {bs : List UInt8} {w : World} (hn : bs.length = n) (hr : Rd w w.heap.size A (u8s bs)) (hc : n ≤ c) (_ : c ≤ maxLen) (h1 : n ≤ 100000000) :
  Calls Tryz.prog 106 #[.slice A n c] w (Opened (opn bs) w) := by
 subst hn
 exact refOpen_any A c bs w hr hc h1
set_option maxHeartbeats 4000000 in
set_option maxRecDepth 100000 in
theorem refFrames_any (A : Option Addr) (c : Nat) (bs : List UInt8) (w : World) (hr : Rd w w.heap.size A (u8s bs)) (hc : bs.length ≤ c) (hm : c ≤ maxLen) (h1 : bs.length ≤ 100000000) :
  Calls Tryz.prog 86 #[.slice A bs.length c] w (Framed (frs bs) w) := by
 have HM := hide hm
 unfold maxLen at hm
 go_enter Tryz.func86, Tryz.ntmps86
 go_wp2
 go_loopw [5, 6] (fun b i wr => ∃ (k : Nat) (ls : List (List UInt8)), k ≤ bs.length ∧ i = .int .i64 k ∧ ls.length ≤ k ∧ frs bs = (ls ++ (frs (bs.drop k)).1, k + (frs (bs.drop k)).2.1, (frs (bs.drop k)).2.2) ∧ OwnB wr w.heap.size b ls ∧ w.grownBy wr none)
  (fun _ i _ => bs.length - (intOf i).toNat)
 case atStart => exact ⟨0, [], by omega, rfl, by simp, by simp, OwnB.nil_ _ _, gb_refl _ _⟩
 case round =>
  obtain ⟨k, ls, hk, rfl, hlk, hfr, how, hg⟩ := hrel
  have HF := hide hfr
  have HO := hide how
  have hgs := hg.size
  clear hfr how
  by_cases hlt : k < bs.length
  ·have hrw := (hr.grown hg (Nat.le_refl _) (by simp)).more hgs
   have hcut := hrw.cut (k := k) (cap := c) (by rw [u8s_length]; exact hk) (by rw [u8s_length]; exact hc)
   have hne : ¬ c = k := by omega
   rw [if_neg hne, u8s_drop] at hcut
   have hlen : (bs.drop k).length = bs.length - k := List.length_drop
   have OP := hide (refOpen_as hlen hcut (by omega) (by unfold maxLen; omega) (by omega) : Calls Tryz.prog 106 #[.slice _ (bs.length - k) (c - k)] wr _)
   have hsz := opn_size (bs.drop k)
   have hfo := frs_ok (bs.drop k) (by omega)
   have hfe := frs_err (bs.drop k) (by omega)
   rw [hlen] at hsz
   generalize opn (bs.drop k) = r at hsz hfo hfe OP
   obtain ⟨load, sz, er⟩ := r
   dsimp only at hsz hfo hfe
   rcases Nat.eq_zero_or_pos er with hx | hx
   ·subst hx
    have hsz := hsz rfl
    have HFO := hide (hfo rfl)
    clear hfo hfe hlen hcut hrw
    go_wp2_with (first
     | (go_at_call 106; refine OP.out.mono ?_; rintro e w2 ⟨v2, rfl, hown2, hg2⟩; obtain ⟨A2, c2, rfl, hnc2, hcm2, hrd2⟩ := own_form hown2; obtain ⟨l, hl1, hl2, hl3⟩ := HO.out; have hll : l.length ≤ k := (by rw [← hl1, List.length_map] at hlk; exact hlk); have hl2' := own_grown hl2 hg2; have hgs2 := hg2.size)
     | (at_builtin; refine appS (m := 1) (hl2'.alloc _) (Rd.new _ _ _ _ rfl) rfl (cellS _ _ _) (by omega) (by simp; omega) rfl rfl rfl rfl ?_; intro v4 w4 hown4 hg4 hwhere4))
    have hob := OwnB.more hl1 hl2' (fun x hx => own_grown (hl3 x hx) hg2) (own_base hown2 hgs) (gb_alloc (gb_refl w2 none) _) hown4 rfl rfl rfl hg4
    have hg5 := gb_new (gb_trans hg hg2 (.inl rfl)) hl2' (gb_trans (gb_alloc (gb_refl w2 _) _) hg4 (.inl rfl))
    clear hown4 hg4 hwhere4 hown2 hl2 hl2' hl3
    go_roundw
    case rel =>
     exact ⟨k + sz, ls ++ [load], by omega, by go_num, by simp; omega, by rw [HF.out, HFO.out]; simp [List.drop_drop, Nat.add_assoc], hob, hg5⟩
    case measure => simp [intOf]; omega
   ·have HFE := hide (hfe (by omega))
    have hb1 : ((er : Int) == 0) = false := beq_eq_false_iff_ne.2 (by omega)
    clear hfo hfe hlen hcut hrw hsz
    go_wp2_with (go_at_call 106; refine OP.out.mono ?_; rintro e w2 ⟨v2, rfl, hown2, hg2⟩)
    go_ret3
    refine ⟨_, ?_, by rw [HF.out, HFE.out, List.append_nil]; exact OwnB.grown HO.out hg2, gb_trans hg hg2 (.inl rfl)⟩
    rw [HF.out, HFE.out]
    rfl
  ·have e : frs bs = (ls, k, 0) := by rw [HF.out, List.drop_of_length_le (by omega)]; simp [frs_nil]
   have E := hide e
   clear e
   go_wp2_with (fail)
   go_ret3
   exact ⟨_, by rw [E.out]; rfl, by rw [E.out]; exact HO.out, hg⟩
theorem OwnB.rd {w : World} {base : Nat} {v : Value} {ls : List (List UInt8)} (h : OwnB w base v ls) : ∃ A c l, v = .slice A (l : List (Option Addr × Nat × List UInt8)).length c ∧ RdB w w.heap.size A l ∧ l.map (fun x => x.2.2) = ls := by
 obtain ⟨l, h1, h2, h3⟩ := h
 obtain ⟨A, c, rfl, _, _, hr⟩ := own_form h2
 refine ⟨A, c, l, rfl, ⟨hr, fun x hx => ?_⟩, h1⟩
 obtain ⟨A', c', e, h4, h5, h6⟩ := own_form (h3 x hx)
 injection e with e1 _ e3
 subst e1; subst e3
 exact ⟨h6, h4, h5⟩
theorem quiet_conv {P : Program} {ops : Array Oper} {C : World → Prop} {Q : Act → Prop} {a : Act} {o : Oper} {rest : List Oper} {s t : TypeId} {x : Operand} {v u : Value}
  (hg : o.guard = none) (ho : o.op = .convert s t x) (hx : a.eval x = v) (h : ∀ w, C w → (convert s t v).run P w = .ok u w) (hk : wpQuiet P ops C Q rest (a.put o.dst u)) : wpQuiet P ops C Q (o :: rest) a := by
 refine wpQuiet_step fun K hK => ?_
 rw [if_pos (by simp [Region.wanted, hg])]
 refine ⟨u, fun w hw => ?_, hK _ hk⟩
 unfold Oper.quietAt execOp
 simp only [ho, hx, Sem.run_bind, h w hw, Result.andThen_ok, Sem.run_pure]
 exact ⟨rfl, rfl⟩
end Go.Proofs.YtmcmlkglkpbnpaaGreat
namespace Go.Proofs.YtmcmlkglkpbnpaaGreat
open Go.RowKit
def RefR (w : World) (base g : Nat) (bs : List UInt8) (p : Nat) (x : Int) : Prop :=
 ∃ v, w.heap[g]? = some (.cells #[v, .int .i64 (p : Int), .int .i64 x, .int .i64 (whyAt x p)] 184 (0, 0)) ∧ w.ownsRow base 5 1 v bs.length (u8s bs) ∧ base ≤ g
theorem RefR.lt {w : World} {base g : Nat} {bs : List UInt8} {p : Nat} {x : Int} (h : RefR w base g bs p x) : g < w.heap.size := blk_lt h.choose_spec.1
theorem RefR.ge {w : World} {base g : Nat} {bs : List UInt8} {p : Nat} {x : Int} (h : RefR w base g bs p x) : base ≤ g := h.choose_spec.2.2
theorem RefR.keep {w w' : World} {base g : Nat} {bs : List UInt8} {p : Nat} {x : Int} {row : Option Nat} (h : RefR w base g bs p x) (hg : w.grownBy w' row) (h1 : row ≠ some g)
  (h2 : ∀ k cs t, row = some k → w.heap[k]? = some (.cells cs t (0, 0)) → t ≠ 5) (h3 : ∀ k, row = some k → ∃ cs t, w.heap[k]? = some (.cells cs t (0, 0))) : RefR w' base g bs p x := by
 obtain ⟨v, a, b, c⟩ := h
 refine ⟨v, blk_keep a hg h1.symm, b.kept hg ?_, c⟩
 rcases row with _ | k
 ·cases v.ownBlock <;> simp
 ·right
  obtain ⟨cs, t, hk⟩ := h3 k rfl
  exact own_ne b hk (Ne.symm (h2 k cs t rfl hk))
theorem RefR.grown {w w' : World} {base g : Nat} {bs : List UInt8} {p : Nat} {x : Int} (h : RefR w base g bs p x) (hg : w.grownBy w' none) : RefR w' base g bs p x :=
 h.keep hg (by simp) (by simp) (by simp)
theorem RefR.drewN {w : World} {base g : Nat} {bs : List UInt8} {p : Nat} {x : Int} (h : RefR w base g bs p x) (n : Nat) : RefR (w.drewN n) base g bs p x := h
def RAfter (base g : Nat) (bs : List UInt8) (v : Value) (p : Nat) (x : Int) (w : World) (e : Ending) (w' : World) : Prop :=
 e = .returned v ∧ RefR w' base g bs p x ∧ w.grownBy w' (some g)
theorem setR_own {w : World} {base g : Nat} {v : Value} {bs : List UInt8} {cs : Array Value} (ho : w.ownsRow base 5 1 v bs.length (u8s bs)) (h : w.heap[g]? = some (.cells cs 184 (0, 0))) (i : Nat) (u : Value) :
  (w.setCell ⟨g, i, none⟩ u).ownsRow base 5 1 v bs.length (u8s bs) :=
 ho.kept (gb_setCell (gb_refl w (some g)) (.inl rfl) u) (.inr (own_ne ho h (by decide)))
theorem RefR.place {w : World} {base g : Nat} {bs : List UInt8} {p : Nat} (h : RefR w base g bs p 0) (q : Nat) : RefR (w.setCell ⟨g, 1, none⟩ (.int .i64 (q : Int))) base g bs q 0 ∧ w.grownBy (w.setCell ⟨g, 1, none⟩ (.int .i64 (q : Int))) (some g) := by
 obtain ⟨v, a, b, c⟩ := h
 exact ⟨⟨v, by rw [blk_set a 1]; rfl, setR_own b a 1 _, c⟩, gb_setCell (gb_refl w (some g)) (.inl rfl) _⟩
set_option maxHeartbeats 1000000 in
set_option maxRecDepth 100000 in
theorem refNew_any (A : Option Addr) (c : Nat) (bs : List UInt8) (w : World) (hr : Rd w w.heap.size A (u8s bs)) (h1 : bs.length ≤ 100000000) :
  Calls Tryz.prog 87 #[.slice A bs.length c] w fun e w' => ∃ g, e = .returned (.pointer (some ⟨g, 0, none⟩)) ∧ RefR w' w.heap.size g bs 0 0 ∧ w.grownBy w' none := by
 go_enter Tryz.func87, Tryz.ntmps87
 go_wp2_with (at_builtin; go_loud (refine app8 (base := w.heap.size) (World.ownsRow_made w #[] 0 (Nat.le_refl _) (by unfold maxLen; omega) rfl) (hr.alloc (Nat.le_refl _) _) (u8s_length bs) (u8s_cell bs) (by omega) (by simp) rfl rfl rfl rfl ?_); intro v1 w1 hown1 hg1 hwh1; have hw1 := own_as (m := bs.length) (ys := u8s bs) hown1 (by simp) (by simp); obtain ⟨A1, c1, rfl, _, _, _⟩ := own_form hw1)
 have hgw1 : w.grownBy w1 none := gb_trans (gb_alloc (gb_refl w none) _) hg1 (.inr (.inr ⟨_, rfl, Nat.le_refl _⟩))
 clear hown1 hg1 hwh1
 go_ret
 exact ⟨w1.heap.size, rfl, ⟨_, heap_alloc_new w1 _, hw1.alloc _, hgw1.size⟩, gb_alloc hgw1 _⟩
set_option maxHeartbeats 1000000 in
set_option maxRecDepth 100000 in
theorem refFail_set (g : Nat) (v q s : Value) (y : Int) (at_ : Nat) (w : World) (h : w.heap[g]? = some (.cells #[v, q, .int .i64 0, s] 184 (0, 0))) (hy : y ≠ 0) :
  Calls Tryz.prog 108 #[.pointer (some ⟨g, 0, none⟩), .int .i64 y, .int .i64 (at_ : Int)] w fun e w' => e = .returned (.tuple #[]) ∧ w'.heap[g]? = some (.cells #[v, .int .i64 (at_ : Int), .int .i64 y, .int .i64 (whyAt y at_)] 184 (0, 0)) ∧ w.grownBy w' (some g) := by
 have h2 : w.cell? ⟨g, 2, none⟩ = some (.int .i64 0) := by rw [blk_cell h]; rfl
 have hb : (y != 0) = true := by simpa using hy
 have h1 : w.cell? ⟨g, 1, none⟩ = some q := by rw [blk_cell h]; rfl
 have h3 : w.cell? ⟨g, 3, none⟩ = some s := by rw [blk_cell h]; rfl
 have hf1 := blk_frozen h 1
 have hf2 := blk_frozen h 2
 have hf3 := blk_frozen h 3
 have s2 := blk_set h 2 (.int .i64 y)
 have s3 := blk_set s2 3 (.int .i64 (at_ : Int))
 have s1 := blk_set s3 1 (.int .i64 (at_ : Int))
 have hw : whyAt y at_ = at_ := if_neg hy
 have HS := hide s1
 have HW := hide hw
 have g2 := gb_setCell (gb_refl w (some g)) (p := ⟨g, 2, none⟩) (.inl rfl) (.int .i64 y)
 have g3 := gb_setCell g2 (p := ⟨g, 3, none⟩) (.inl rfl) (.int .i64 (at_ : Int))
 have HG := hide (gb_setCell g3 (p := ⟨g, 1, none⟩) (.inl rfl) (.int .i64 (at_ : Int)))
 clear g2 g3
 clear s1 s2 s3 h hy hw
 go_enter Tryz.func108, Tryz.ntmps108
 go_wp2
 go_end0
 refine ⟨rfl, ?_, ?_⟩
 ·rw [HW.out]
  exact HS.out
 ·exact HG.out
theorem refFail_at {w : World} {base g : Nat} {bs : List UInt8} {p : Nat} (h : RefR w base g bs p 0) (y : Int) (hy : y ≠ 0) (at_ : Nat) :
  Calls Tryz.prog 108 #[.pointer (some ⟨g, 0, none⟩), .int .i64 y, .int .i64 (at_ : Int)] w (RAfter base g bs (.tuple #[]) at_ y w) := by
 obtain ⟨v, a, b, c⟩ := h
 refine (refFail_set g v _ _ y at_ w a hy).mono fun e w' ⟨he, hb, hg⟩ => ⟨he, ⟨v, hb, b.kept hg (.inr (own_ne b a (by decide))), c⟩, hg⟩
theorem num_step_ref (acc k : Nat) (b : UInt8) (hk : k ≤ 9) (ha : acc < 128 ^ k) (h9 : 9 ≤ k → b.toNat ≤ 1) :
  IntKind.u64.wrap ((acc : Int) + IntKind.u64.wrap ((b.toNat : Int) % 128 * 2 ^ (7 * k))) = ((acc + b.toNat % 128 * 128 ^ k : Nat) : Int) := by
 have hs := num_step_sum acc k b hk ha h9
 have e2 : IntKind.u64.wrap ((b.toNat : Int) % 128 * 2 ^ (7 * k)) = ((b.toNat % 128 * 128 ^ k : Nat) : Int) := by
  rw [pow_int, show ((b.toNat : Int) % 128) = ((b.toNat % 128 : Nat) : Int) by omega, ← Int.natCast_mul, IntKind.wrap_u64]
  omega
 rw [e2, ← Int.natCast_add, IntKind.wrap_u64]
 omega
theorem parse_atp (bs : List UInt8) (p k acc : Nat) (h : p + k < bs.length) : parseF k (bs.drop (p + k)) acc =
  if 9 ≤ k ∧ 1 < bs[p + k].toNat then (0, 0, 10)
  else if bs[p + k].toNat = 0 ∧ 0 < k then (0, 0, 11)
  else if bs[p + k].toNat < 128 then (acc + bs[p + k].toNat * 128 ^ k, k + 1, 0)
  else parseF (k + 1) (bs.drop (p + (k + 1))) (acc + (bs[p + k].toNat % 128) * 128 ^ k) := by
 rw [List.drop_eq_getElem_cons h]
 rfl
set_option maxHeartbeats 4000000 in
set_option maxRecDepth 100000 in
theorem refNum_any (base g : Nat) (bs : List UInt8) (p : Nat) (x : Int) (w : World) (h : RefR w base g bs p x) (hp : p ≤ bs.length) (hl : bs.length ≤ 100000000) :
  Calls Tryz.prog 107 #[.pointer (some ⟨g, 0, none⟩)] w (RAfter base g bs (.int .u64 ((rNum bs p x).1 : Int)) (rNum bs p x).2.1 (rNum bs p x).2.2 w) := by
 have HR := hide h
 obtain ⟨v, hb, ho, hbg⟩ := h
 obtain ⟨A, c, rfl, hnc, hcm, hrd⟩ := own_form ho
 have h0 : w.cell? ⟨g, 0, none⟩ = some (.slice A bs.length c) := by rw [blk_cell hb]; rfl
 have h1 : w.cell? ⟨g, 1, none⟩ = some (.int .i64 (p : Int)) := by rw [blk_cell hb]; rfl
 have h2 : w.cell? ⟨g, 2, none⟩ = some (.int .i64 x) := by rw [blk_cell hb]; rfl
 have hf1 := blk_frozen hb 1
 clear hb ho hbg
 unfold maxLen at hcm
 by_cases hx : x = 0
 ·subst hx
  have e1 : rNum bs p 0 = ((parse (bs.drop p)).1, p + (parse (bs.drop p)).2.1, ((parse (bs.drop p)).2.2 : Int)) := by simp [rNum, rPeek]
  have E1 := hide e1
  clear e1
  go_enter Tryz.func107, Tryz.ntmps107
  go_wp2
  go_loop [4, 5] (fun s i => ∃ k acc : Nat, p + k ≤ bs.length ∧ k ≤ 9 ∧ acc < 128 ^ k ∧ parse (bs.drop p) = parseF k (bs.drop (p + k)) acc ∧ i = .int .i64 k ∧ s = .int .u64 acc) (fun _ i => 10 - (intOf i).toNat)
  case atStart => exact ⟨0, 0, by omega, by omega, by simp, rfl, rfl, rfl⟩
  case round =>
   obtain ⟨k, acc, hk, hk9, hacc, hp, rfl, rfl⟩ := hrel
   have HP := hide hp
   have HA := hide hacc
   clear hp hacc
   by_cases hlt : p + k < bs.length
   ·obtain ⟨ad, rfl, _, hc⟩ := hrd.u8 hlt
    have hpa := parse_atp bs p k acc hlt
    generalize bs[p + k] = b at hc hpa
    have HPA := hide hpa
    clear hpa
    have hb := b.toNat_lt
    by_cases c1 : 9 ≤ k ∧ 1 < b.toNat
    ·have e : parse (bs.drop p) = (0, 0, 10) := by rw [HP.out, HPA.out, if_pos c1]
     have E := hide e
     obtain ⟨c1, c2⟩ := c1
     clear e
     go_wp2_with (go_at_call 108; refine (refFail_at HR.out 10 (by decide) p).mono ?_; rintro e w1 ⟨rfl, hr1, hg1⟩)
     go_ret
     exact ⟨by rw [E1.out, E.out]; rfl, by rw [E1.out, E.out]; exact hr1, hg1⟩
    ·by_cases c2 : b.toNat < 1 ∧ 0 < k
     ·have e : parse (bs.drop p) = (0, 0, 11) := by rw [HP.out, HPA.out, if_neg c1, if_pos ⟨by omega, c2.2⟩]
      have E := hide e
      have C1 := hide c1
      obtain ⟨c3, c4⟩ := c2
      clear e c1
      go_wp2_with (go_at_call 108; refine (refFail_at HR.out 11 (by decide) p).mono ?_; rintro e w1 ⟨rfl, hr1, hg1⟩)
      all_goals
       go_ret
       exact ⟨by rw [E1.out, E.out]; rfl, by rw [E1.out, E.out]; exact hr1, hg1⟩
     ·have h9 : 9 ≤ k → b.toNat ≤ 1 := by omega
      have hsum := num_step_sum acc k b hk9 HA.out h9
      have C1 := hide c1
      have C2 := hide c2
      have H9 := hide h9
      have HS := hide hsum
      clear c1 c2 h9 hsum
      by_cases c3 : b.toNat < 128
      ·have e : parse (bs.drop p) = (acc + b.toNat % 128 * 128 ^ k, k + 1, 0) := by
        have := C2.out
        rw [HP.out, HPA.out, if_neg C1.out, if_neg (by omega), if_pos c3, Nat.mod_eq_of_lt c3]
       have E := hide e
       clear e
       have hpl := HR.out.place (p + (k + 1))
       rw [show ((p + (k + 1) : Nat) : Int) = (p : Int) + (k : Int) + 1 by omega] at hpl
       have PL := hide hpl
       have NS := hide (num_step_ref acc k b hk9 HA.out H9.out)
       clear hpl
       rcases Nat.lt_or_ge k 9 with hk8 | hk8
       ·rcases Nat.lt_or_ge b.toNat 1 with hb0 | hb0
        ·have hk0 : k < 1 := by have := C2.out; omega
         have ns0 := NS.out
         rw [show (b.toNat : Int) % 128 * 2 ^ (7 * k) = 0 by rw [show (b.toNat : Int) = 0 by omega]; simp] at ns0
         have NZ := hide ns0
         clear ns0
         go_wp2_with fail
         go_ret
         exact ⟨by rw [E1.out, E.out]; show _ = Ending.returned (.int .u64 ((acc + b.toNat % 128 * 128 ^ k : Nat) : Int)); rw [← NZ.out]; rfl, by rw [E1.out, E.out]; exact PL.out.1, PL.out.2⟩
        ·go_wp2_with fail
         go_ret
         exact ⟨by rw [E1.out, E.out]; show _ = Ending.returned (.int .u64 ((acc + b.toNat % 128 * 128 ^ k : Nat) : Int)); rw [← NS.out]; rfl, by rw [E1.out, E.out]; exact PL.out.1, PL.out.2⟩
       ·have hb1 := H9.out hk8
        have hb0 : 1 ≤ b.toNat := by have := C2.out; omega
        go_wp2_with fail
        go_ret
        exact ⟨by rw [E1.out, E.out]; show _ = Ending.returned (.int .u64 ((acc + b.toNat % 128 * 128 ^ k : Nat) : Int)); rw [← NS.out]; rfl, by rw [E1.out, E.out]; exact PL.out.1, PL.out.2⟩
      ·have hk8 : k < 9 := by have := H9.out; omega
       have NS := hide (num_step_ref acc k b hk9 HA.out H9.out)
       go_wp2_with fail
       go_round
       case rel =>
        have := C2.out
        exact ⟨k + 1, acc + b.toNat % 128 * 128 ^ k, by omega, by omega, by
         have h1 : b.toNat % 128 * 128 ^ k ≤ 127 * 128 ^ k := Nat.mul_le_mul (by omega) (Nat.le_refl _)
         have h2 := HA.out
         rw [Nat.pow_succ]; omega, by rw [HP.out, HPA.out, if_neg C1.out, if_neg (by omega), if_neg c3], by go_num, by rw [← NS.out]⟩
       case measure => simp [intOf]; omega
   ·have e : parse (bs.drop p) = (0, 0, 3) := by rw [HP.out, List.drop_of_length_le (by omega)]; rfl
    have E := hide e
    clear e
    go_wp2_with (go_at_call 108; refine (refFail_at HR.out 3 (by decide) p).mono ?_; rintro e w1 ⟨rfl, hr1, hg1⟩)
    go_ret
    exact ⟨by rw [E1.out, E.out]; rfl, by rw [E1.out, E.out]; exact hr1, hg1⟩
 ·have e1 : rNum bs p x = (0, p, x) := by simp [rNum, rPeek, hx]
  have E1 := hide e1
  have hb : (x != 0) = true := by simpa using hx
  clear e1 hx
  go_enter Tryz.func107, Tryz.ntmps107
  go_wp2
  go_ret
  exact ⟨by rw [E1.out]; rfl, by rw [E1.out]; exact HR.out, gb_refl _ _⟩
end Go.Proofs.YtmcmlkglkpbnpaaGreat
namespace Go.Proofs.YtmcmlkglkpbnpaaGreat
open Go.RowKit
end Go.Proofs.YtmcmlkglkpbnpaaGreat
namespace Go.Proofs.YtmcmlkglkpbnpaaGreat
open Go.RowKit
theorem refNum_as {w : World} {base g : Nat} {bs : List UInt8} {p n q : Nat} {x y : Int} (h : RefR w base g bs p x) (hp : p ≤ bs.length) (hl : bs.length ≤ 100000000) (hN : rNum bs p x = (n, q, y)) :
  Calls Tryz.prog 107 #[.pointer (some ⟨g, 0, none⟩)] w (RAfter base g bs (.int .u64 (n : Int)) q y w) := by
 have := refNum_any base g bs p x w h hp hl
 rwa [hN] at this
theorem RefR.err {w : World} {base g : Nat} {bs : List UInt8} {p : Nat} {x : Int} (h : RefR w base g bs p x) : w.cell? ⟨g, 2, none⟩ = some (.int .i64 x) := by
 obtain ⟨v, hb, _, _⟩ := h
 rw [blk_cell hb]; rfl
theorem RefR.at_ {w : World} {base g : Nat} {bs : List UInt8} {p : Nat} {x : Int} (h : RefR w base g bs p x) : w.cell? ⟨g, 1, none⟩ = some (.int .i64 (p : Int)) := by
 obtain ⟨v, hb, _, _⟩ := h
 rw [blk_cell hb]; rfl
theorem RefR.bytes {w : World} {base g : Nat} {bs : List UInt8} {p : Nat} {x : Int} (h : RefR w base g bs p x) : ∃ A c, w.cell? ⟨g, 0, none⟩ = some (.slice A bs.length c) ∧ bs.length ≤ c ∧ c ≤ maxLen ∧ Rd w w.heap.size A (u8s bs) := by
 obtain ⟨v, hb, ho, _⟩ := h
 obtain ⟨A, c, rfl, h1, h2, h3⟩ := own_form ho
 exact ⟨A, c, by rw [blk_cell hb]; rfl, h1, h2, h3⟩
theorem RefR.free {w : World} {base g : Nat} {bs : List UInt8} {p : Nat} {x : Int} (h : RefR w base g bs p x) : w.frozen? ⟨g, 1, none⟩ = false := by
 obtain ⟨v, hb, _, _⟩ := h
 exact blk_frozen hb 1
theorem rNum_err {bs : List UInt8} {p n q : Nat} {x y : Int} (h : rNum bs p x = (n, q, y)) (hy : y ≠ 0) : n = 0 ∧ q = p ∧ (rPeek bs p x).2.2 = y := by
 unfold rNum at h
 simp only [Prod.mk.injEq] at h
 obtain ⟨h1, h2, h3⟩ := h
 have := rPeek_err bs p x (by rw [h3]; exact hy)
 omega
theorem rNum_ok {bs : List UInt8} {p n q : Nat} {x : Int} (h : rNum bs p x = (n, q, 0)) : (rPeek bs p x).1 = n ∧ p + (rPeek bs p x).2.1 = q ∧ (rPeek bs p x).2.2 = 0 := by
 unfold rNum at h
 simp only [Prod.mk.injEq] at h
 exact h
theorem u64_of {most : Int} (hm : I64 most) (h0 : 0 ≤ most) : IntKind.u64.wrap most = most := by
 obtain ⟨_, b⟩ := hm
 rw [IntKind.wrap_u64]
 omega
set_option maxHeartbeats 2000000 in
set_option maxRecDepth 100000 in
theorem refDone_any (base g : Nat) (bs : List UInt8) (p : Nat) (x : Int) (w : World) (h : RefR w base g bs p x) (hp : p ≤ bs.length) :
  Calls Tryz.prog 89 #[.pointer (some ⟨g, 0, none⟩)] w fun e w' => e = .returned (.int .i64 (rDone bs p x)) ∧ ∃ n, w' = w.drewN n := by
 have h1 := h.at_
 have h2 := h.err
 obtain ⟨A, c, h0, _, _, _⟩ := h.bytes
 clear h
 by_cases hx : x = 0
 ·subst hx
  by_cases hlt : p < bs.length
  ·have E1 := hide (show rDone bs p 0 = 4 by simp [rDone, hlt])
   go_enter Tryz.func89, Tryz.ntmps89
   go_wp2
   go_quiet (fail)
   go_wp2
   go_ret
   exact ⟨by rw [E1.out]; rfl, _, rfl⟩
  ·have E1 := hide (show rDone bs p 0 = 0 by simp [rDone, hlt])
   have hb : decide ((p : Int) < (bs.length : Int)) = false := decide_eq_false (by omega)
   have hb2 : decide (p < bs.length) = false := decide_eq_false hlt
   go_enter Tryz.func89, Tryz.ntmps89
   go_wp2
   go_quiet (fail)
   go_wp2
   go_ret
   exact ⟨by rw [E1.out]; rfl, _, rfl⟩
 ·have E1 := hide (show rDone bs p x = x by simp [rDone, hx])
  have hb : (x == 0) = false := beq_eq_false_iff_ne.2 hx
  clear hx
  go_enter Tryz.func89, Tryz.ntmps89
  go_wp2
  go_quiet (fail)
  go_wp2
  go_ret
  exact ⟨by rw [E1.out]; rfl, _, rfl⟩
end Go.Proofs.YtmcmlkglkpbnpaaGreat
namespace Go.Proofs.YtmcmlkglkpbnpaaGreat
open Go.RowKit
set_option maxHeartbeats 2000000 in
set_option maxRecDepth 100000 in
theorem refText_err (base g : Nat) (bs : List UInt8) (p : Nat) (x y most : Int) (w : World) (h : RefR w base g bs p x) (hp : p ≤ bs.length) (hl : bs.length ≤ 100000000) (hN : rNum bs p x = (0, p, y)) (hy : y ≠ 0) :
  Calls Tryz.prog 88 #[.pointer (some ⟨g, 0, none⟩), .int .i64 most] w (RAfter base g bs (.string ⟨#[]⟩) p y w) := by
 have h1 := h.at_
 have NM := hide (refNum_as h hp hl hN)
 have hb : (y != 0) = true := by simpa using hy
 clear h hN hy
 go_enter Tryz.func88, Tryz.ntmps88
 go_wp2_with (go_at_call 107; refine NM.out.mono ?_; rintro e w1 ⟨rfl, hr1, hg1⟩; have HR1 := hide hr1; have HG1 := hide hg1; have k2 := hr1.err; clear hr1 hg1)
 go_ret
 exact ⟨rfl, HR1.out, HG1.out⟩
set_option maxHeartbeats 2000000 in
set_option maxRecDepth 100000 in
theorem refText_long (base g : Nat) (bs : List UInt8) (p n q : Nat) (x most : Int) (w : World) (h : RefR w base g bs p x) (hp : p ≤ bs.length) (hl : bs.length ≤ 100000000) (hm : I64 most) (hN : rNum bs p x = (n, q, 0)) (ha : most < 0 ∨ most < n) :
  Calls Tryz.prog 88 #[.pointer (some ⟨g, 0, none⟩), .int .i64 most] w (RAfter base g bs (.string ⟨#[]⟩) p 1 w) := by
 have h1 := h.at_
 have NM := hide (refNum_as h hp hl hN)
 clear h hN
 by_cases h0 : most < 0
 ·clear ha hm
  go_enter Tryz.func88, Tryz.ntmps88
  go_wp2_with (first
   | (go_at_call 107; refine NM.out.mono ?_; rintro e w1 ⟨rfl, hr1, hg1⟩; have HR1 := hide hr1; have HG1 := hide hg1; have k2 := hr1.err; clear hr1 hg1)
   | (go_at_call 108; refine (refFail_at HR1.out 1 (by decide) p).mono ?_; rintro e w2 ⟨rfl, hr2, hg2⟩))
  go_ret
  exact ⟨rfl, hr2, gb_trans HG1.out hg2 (.inl rfl)⟩
 ·have hgt : IntKind.u64.wrap most < (n : Int) := by rw [u64_of hm (by omega)]; omega
  have h00 : 0 ≤ most := by omega
  clear ha hm
  go_enter Tryz.func88, Tryz.ntmps88
  go_wp2_with (first
   | (go_at_call 107; refine NM.out.mono ?_; rintro e w1 ⟨rfl, hr1, hg1⟩; have HR1 := hide hr1; have HG1 := hide hg1; have k2 := hr1.err; clear hr1 hg1)
   | (go_at_call 108; refine (refFail_at HR1.out 1 (by decide) p).mono ?_; rintro e w2 ⟨rfl, hr2, hg2⟩))
  go_ret
  exact ⟨rfl, hr2, gb_trans HG1.out hg2 (.inl rfl)⟩
set_option maxHeartbeats 2000000 in
set_option maxRecDepth 100000 in
theorem refText_short (base g : Nat) (bs : List UInt8) (p n q : Nat) (x most : Int) (w : World) (h : RefR w base g bs p x) (hp : p ≤ bs.length) (hl : bs.length ≤ 100000000) (hm : I64 most) (hN : rNum bs p x = (n, q, 0)) (ha : ¬ (most < 0 ∨ most < n)) (hq : q ≤ bs.length) (hs : bs.length - q < n) :
  Calls Tryz.prog 88 #[.pointer (some ⟨g, 0, none⟩), .int .i64 most] w (RAfter base g bs (.string ⟨#[]⟩) p 3 w) := by
 have h1 := h.at_
 have NM := hide (refNum_as h hp hl hN)
 have h00 : 0 ≤ most := by omega
 have hle : (n : Int) ≤ IntKind.u64.wrap most := by rw [u64_of hm h00]; omega
 have f1 : IntKind.u64.wrap ((bs.length : Int) - (q : Int)) = (bs.length : Int) - (q : Int) := by rw [IntKind.wrap_u64]; omega
 have f2 : (bs.length : Int) - (q : Int) < (n : Int) := by omega
 have f3 : IntKind.i64.wrap ((bs.length : Int) - (q : Int)) = (bs.length : Int) - (q : Int) := by rw [IntKind.wrap_i64]; omega
 have F1 := hide f1; have F3 := hide f3
 clear h hN ha hm f1 f3
 go_enter Tryz.func88, Tryz.ntmps88
 go_wp2_with (go_at_call 107; refine NM.out.mono ?_; rintro e w1 ⟨rfl, hr1, hg1⟩; have HR1 := hide hr1; have HG1 := hide hg1; have k2 := hr1.err; have k1 := hr1.at_; obtain ⟨A, c, k0, _, _, _⟩ := hr1.bytes; clear hr1 hg1)
 have f1 := F1.out
 have f3 := F3.out
 go_quiet (fail)
 clear f1 f3
 go_wp2_with (go_at_call 108; refine (refFail_at (HR1.out.drewN _) 3 (by decide) p).mono ?_; rintro e w2 ⟨rfl, hr2, hg2⟩)
 go_ret
 exact ⟨rfl, hr2, gb_trans (gb_drewN HG1.out _) hg2 (.inl rfl)⟩
set_option maxHeartbeats 4000000 in
set_option maxRecDepth 100000 in
theorem refText_ok (base g : Nat) (bs : List UInt8) (p n q : Nat) (x most : Int) (w : World) (h : RefR w base g bs p x) (hp : p ≤ bs.length) (hl : bs.length ≤ 100000000) (hm : I64 most) (hN : rNum bs p x = (n, q, 0)) (ha : ¬ (most < 0 ∨ most < n)) (hs : q + n ≤ bs.length) :
  Calls Tryz.prog 88 #[.pointer (some ⟨g, 0, none⟩), .int .i64 most] w (RAfter base g bs (.string ⟨((bs.drop q).take n).toArray⟩) (q + n) 0 w) := by
 have h1 := h.at_
 have NM := hide (refNum_as h hp hl hN)
 have h00 : 0 ≤ most := by omega
 have hle : (n : Int) ≤ IntKind.u64.wrap most := by rw [u64_of hm h00]; omega
 have F1 := hide (show IntKind.u64.wrap ((bs.length : Int) - (q : Int)) = (bs.length : Int) - (q : Int) by rw [IntKind.wrap_u64]; omega)
 have F3 := hide (show IntKind.i64.wrap ((bs.length : Int) - (q : Int)) = (bs.length : Int) - (q : Int) by rw [IntKind.wrap_i64]; omega)
 have f2 : (n : Int) ≤ (bs.length : Int) - (q : Int) := by omega
 clear h hN ha hm
 go_enter Tryz.func88, Tryz.ntmps88
 go_wp2_with (go_at_call 107; refine NM.out.mono ?_; rintro e w1 ⟨rfl, hr1, hg1⟩; have HR1 := hide hr1; have HG1 := hide hg1; have k2 := hr1.err; have k1 := hr1.at_; obtain ⟨A, c, k0, hnc, hcm, hrd⟩ := hr1.bytes; have HRD := hide hrd; have HCM := hide hcm; clear hr1 hg1 hrd hcm)
 have f1 := F1.out
 have f3 := F3.out
 go_quiet (fail)
 clear f1 f3
 have HRW := hide (HR1.out.drewN nq)
 have HGW := hide (gb_drewN HG1.out nq)
 clear k0 k1 k2 HR1 HG1 HRD
 generalize w1.drewN nq = W at *
 have k1 := HRW.out.at_
 have kf1 := HRW.out.free
 have hpl := HRW.out.place (q + n)
 rw [show ((q + n : Nat) : Int) = (q : Int) + (n : Int) by omega] at hpl
 have PL1 := hide hpl.1
 have PL2 := hide (gb_trans HGW.out hpl.2 (.inl rfl))
 clear hpl HRW HGW
 go_wp2
 generalize W.setCell ⟨g, 1, none⟩ (.int .i64 ((q : Int) + (n : Int))) = W2 at *
 have j1 := PL1.out.at_
 obtain ⟨A2, c2, j0, hnc2, hcm2, hrd2⟩ := PL1.out.bytes
 rw [show ((q + n : Nat) : Int) = (q : Int) + (n : Int) by omega] at j1
 have HCS := hide (fun m => cut_string hrd2 hnc2 (k := q) (n := n) hs m)
 have f4 : IntKind.i64.wrap ((q : Int) + (n : Int) - (n : Int)) = (q : Int) := by rw [IntKind.wrap_i64]; omega
 have f5 : (0 : Int) ≤ (q : Int) := by omega
 have f6 : (q : Int) ≤ (q : Int) + (n : Int) := by omega
 have f7 : (q : Int) + (n : Int) ≤ (c2 : Int) := by omega
 have f8 : (n : Int) ≤ 100000000 := by omega
 have f12 : IntKind.i64.wrap (n : Int) = (n : Int) := by rw [IntKind.wrap_i64]; omega
 have f11 : IntKind.i64.wrap (q : Int) = (q : Int) := by rw [IntKind.wrap_i64]; omega
 have f9 : ((q : Int) + (n : Int)).toNat = q + n := by omega
 have f10 : q + n - q = n := by omega
 clear hrd2 hnc hnc2 hcm2 hle f2 F1 F3 HCM
 refine wp_region_quiet_lit (by kernel_rfl) (by kernel_rfl) ?_
 repeat (any_goals (first | quiet_step (fail) | (refine quiet_conv rfl rfl rfl (fun W hW => by obtain ⟨n, rfl⟩ := hW; exact HCS.out n) ?_)))
 all_goals
  refine wpQuiet_nil ?_
  intro w' hw'
  obtain ⟨nr, hw''⟩ := hw'
  subst hw''
  go_wp2
  all_goals (go_ret; exact ⟨rfl, PL1.out.drewN _, gb_drewN PL2.out _⟩)
theorem refText_any (base g : Nat) (bs : List UInt8) (p : Nat) (x most : Int) (w : World) (h : RefR w base g bs p x) (hp : p ≤ bs.length) (hl : bs.length ≤ 100000000) (hm : I64 most) :
  Calls Tryz.prog 88 #[.pointer (some ⟨g, 0, none⟩), .int .i64 most] w (RAfter base g bs (.string ⟨(rText bs p x most).1.toArray⟩) (rText bs p x most).2.1 (rText bs p x most).2.2 w) := by
 rcases hN : rNum bs p x with ⟨n, q, y⟩
 by_cases hy : y = 0
 ·subst hy
  obtain ⟨k1, k2, k3⟩ := rNum_ok hN
  have hq : q ≤ bs.length := by have := rPeek_size bs p x hp; omega
  by_cases ha : most < 0 ∨ most < n
  ·have e : rText bs p x most = ([], p, 1) := by unfold rText; rw [if_pos k3, k1, if_pos ha]
   rw [e]
   exact refText_long base g bs p n q x most w h hp hl hm hN ha
  ·by_cases hs : bs.length - q < n
   ·have e : rText bs p x most = ([], p, 3) := by unfold rText; rw [if_pos k3, k1, if_neg ha, if_pos (by omega)]
    rw [e]
    exact refText_short base g bs p n q x most w h hp hl hm hN ha hq hs
   ·have e : rText bs p x most = ((bs.drop q).take n, q + n, 0) := by unfold rText; rw [if_pos k3, k1, if_neg ha, if_neg (by omega), k2]
    rw [e]
    exact refText_ok base g bs p n q x most w h hp hl hm hN ha (by omega)
 ·obtain ⟨rfl, rfl, k3⟩ := rNum_err hN hy
  have e : rText bs q x most = ([], q, y) := by unfold rText; rw [if_neg (by rw [k3]; exact hy), k3]
  rw [e]
  exact refText_err base g bs q x y most w h hp hl hN hy
end Go.Proofs.YtmcmlkglkpbnpaaGreat
