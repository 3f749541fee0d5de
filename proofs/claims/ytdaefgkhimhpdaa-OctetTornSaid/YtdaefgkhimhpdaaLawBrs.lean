/-
  The walk of OctetBursts: a frame with bits turned within 32 neighbouring ones is not opened (P1.10).
-/
import Derived.Test.YtdaefgkhimhpdaaHuge
import Derived.Test.YtdaefgkhimhpdaaBurst
import Derived.Laws.OwnMore
namespace Go.Proofs.Ytdaefgkhimhpdaa
open Go.RowKit Go.ChangeShapes Go.WideShapes Go.ChangeAt

set_option maxHeartbeats 1000000 in
set_option maxRecDepth 100000 in
theorem seal_huge (A : Option Addr) (c n : Nat) (bs : List UInt8) (w : World) (hr : Rd w w.heap.size A (u8s bs)) (hc : n ≤ c) (hm : c ≤ maxLen) (hn : bs.length = n) (h2 : Tiny n) (h3 : 1048576 < n) :
    Calls Try.prog 18 #[.slice (some ⟨w.heap.size, 0, none⟩) 1 1] (w.alloc (.cells #[.slice A n c] 22)) fun e w' => e = .returned (.tuple #[.slice none 0 0, .int .i64 1]) ∧ w.grownBy w' none := by
  subst hn
  have hl := RdB.one 22 hr hc hm
  obtain ⟨ad, he, _, hcell, _⟩ := hl.at_ (k := 0) (by simp)
  simp only [Option.some.injEq] at he
  subst he
  unfold Tiny at h2
  rw [reach_is] at h2
  generalize bs.length = n at *
  have hcell0 : (w.alloc (.cells #[.slice A n c] 22)).cell? ⟨w.heap.size, 0, none⟩ = some (.slice A n c) := by simp
  have hg := gb_alloc (gb_refl w none) (.cells #[.slice A n c] 22)
  generalize w.alloc (.cells #[.slice A n c] 22) = W at *
  have HG := hide hg
  clear hl hcell hr hg
  go_enter Try.func18, Try.ntmps18
  go_wp2
  refine wp_loop_rounds 1 ?_
  rw [rounds_succ]
  go_wp2
  go_ret2
  exact ⟨rfl, HG.out⟩

set_option maxHeartbeats 1000000 in
set_option maxRecDepth 100000 in
theorem seal_one {A : Option Addr} {c n : Nat} {bs : List UInt8} {w : World} (hr : Rd w w.heap.size A (u8s bs)) (hc : n ≤ c) (hm : c ≤ maxLen) (hn : bs.length = n) (h3 : n ≤ 1048576) :
    Calls Try.prog 18 #[.slice (some ⟨w.heap.size, 0, none⟩) 1 1] (w.alloc (.cells #[.slice A n c] 22)) fun e w' => ∃ g cap, e = .returned (.tuple #[.slice (some ⟨g, 0, none⟩) (n + 8) cap, .int .i64 0]) ∧ w'.ownsRow w.heap.size 5 1 (.slice (some ⟨g, 0, none⟩) (n + 8) cap) (n + 8) (u8s (frame bs)) ∧ w.grownBy w' none ∧ n + 8 ≤ cap ∧ cap ≤ maxLen := by
  subst hn
  have := seal_ok _ 1 [(A, c, bs)] _ (RdB.one 22 hr hc hm) (by simp) (by rw [catB_one]; exact h3)
  rw [catB_one] at this
  refine this.mono fun e w' ⟨v, he, ho, hg⟩ => ?_
  have hl := frame_length bs
  rw [hl] at ho
  have ho2 := ho.2
  rcases ho2 with ⟨_, hx⟩ | ⟨g, cap, cur, rfl, _, _, hnc, hcm, _⟩
  · omega
  · exact ⟨g, cap, he, own_base ho (by simp), gb_trans (gb_alloc (gb_refl _ _) _) hg (.inl rfl), hnc, hcm⟩

theorem xor_bit8 (b : UInt8) (j : Nat) (hj : j < 8) : bits .xor .u8 (b.toNat : Int) ((2 : Int) ^ j % 256) = ((b ^^^ (1 <<< UInt8.ofNat j)).toNat : Int) := by
  have e : ((1 : UInt8) <<< UInt8.ofNat j).toNat = 2 ^ j := by
    rcases (show j = 0 ∨ j = 1 ∨ j = 2 ∨ j = 3 ∨ j = 4 ∨ j = 5 ∨ j = 6 ∨ j = 7 by omega) with rfl | rfl | rfl | rfl | rfl | rfl | rfl | rfl <;> rfl
  have h2 : (2 : Int) ^ j % 256 = ((2 ^ j : Nat) : Int) := by
    rcases (show j = 0 ∨ j = 1 ∨ j = 2 ∨ j = 3 ∨ j = 4 ∨ j = 5 ∨ j = 6 ∨ j = 7 by omega) with rfl | rfl | rfl | rfl | rfl | rfl | rfl | rfl <;> rfl
  have h3 : 2 ^ j < 256 := by
    rcases (show j = 0 ∨ j = 1 ∨ j = 2 ∨ j = 3 ∨ j = 4 ∨ j = 5 ∨ j = 6 ∨ j = 7 by omega) with rfl | rfl | rfl | rfl | rfl | rfl | rfl | rfl <;> decide
  rw [h2, u8_xor_nat _ _ b.toNat_lt h3, UInt8.toNat_xor, e]

/-- What holds ahead of place k of the mask. -/
def Flips (mask a n g cap base : Nat) (p : List UInt8) (k : Nat) (bs : List UInt8) (w wr : World) : Prop :=
  wr.ownsRow base 5 1 (.slice (some ⟨g, 0, none⟩) (n + 8) cap) (n + 8) (u8s bs) ∧ bs.length = n + 8 ∧ leN bs = leN (frame p) ^^^ (mk mask a (n + 8) k * 2 ^ a) ∧ bs.take 4 = (frame p).take 4 ∧ w.grownBy wr none

theorem Flips.yes {mask a n g cap : Nat} {p : List UInt8} {k : Nat} {bs : List UInt8} {w wr : World} (h : Flips mask a n g cap w.heap.size p k bs w wr) (ha : 32 ≤ a) (h1 : mask / 2 ^ k % 2 = 1) (h2 : a + k < 8 * (n + 8)) (hg : w.heap.size ≤ g) (hi : (a + k) / 8 < bs.length) :
    Flips mask a n g cap w.heap.size p (k + 1) (bs.set ((a + k) / 8) (bs[(a + k) / 8] ^^^ (1 <<< UInt8.ofNat ((a + k) % 8)))) w
      (wr.setCell ⟨g, (a + k) / 8, none⟩ (.int .u8 (bits .xor .u8 (bs[(a + k) / 8].toNat : Int) ((2 : Int) ^ ((a + k) % 8) % 256)))) := by
  obtain ⟨c1, c2, c3, c4, c5⟩ := h
  rw [xor_bit8 _ _ (by omega)]
  have hs := (c1.stored ((a + k) / 8) (.int .u8 ((bs[(a + k) / 8] ^^^ (1 <<< UInt8.ofNat ((a + k) % 8))).toNat : Int))).1
  refine ⟨own_as hs rfl (by simp [u8s, List.map_set]), by rw [List.length_set]; exact c2, ?_, ?_, gb_setCell c5 (.inr hg) _⟩
  · rw [leN_set bs _ _ hi (by omega), c3, mk_shift h1 h2, Nat.xor_assoc]
    have : 8 * ((a + k) / 8) + (a + k) % 8 = a + k := by omega
    rw [this]
  · rw [List.take_set_of_le (by omega)]
    exact c4
theorem Flips.no {mask a n g cap : Nat} {p : List UInt8} {k : Nat} {bs : List UInt8} {w wr : World} (h : Flips mask a n g cap w.heap.size p k bs w wr) (h1 : ¬ (mask / 2 ^ k % 2 = 1 ∧ a + k < 8 * (n + 8))) :
    Flips mask a n g cap w.heap.size p (k + 1) bs w wr := by
  obtain ⟨c1, c2, c3, c4, c5⟩ := h
  exact ⟨c1, c2, by rw [mk_no h1]; exact c3, c4, c5⟩

def turnedB (mask a L k : Nat) : Bool := decide (mk mask a L k ≠ 0)
theorem and_bit {mask k : Nat} (hm : mask < 4294967296) : bits .and .u32 ((mask : Int) / 2 ^ k) 1 = ((mask / 2 ^ k % 2 : Nat) : Int) := by
  have := and_one32 (mask / 2 ^ k) (Nat.lt_of_le_of_lt (Nat.div_le_self _ _) hm)
  rw [← this]
  congr 1

set_option maxHeartbeats 8000000 in
set_option maxRecDepth 100000 in
theorem bursts_main (A : Option Addr) (c n a mask : Nat) (p : List UInt8) (w : World) (hr : Rd w w.heap.size A (u8s p)) (hc : n ≤ c) (hm : c ≤ maxLen) (hn : p.length = n) (h3 : n ≤ 20000) (ha : 32 ≤ a) (ha2 : a < 8 * (n + 8)) (hmask : mask < 4294967296) :
    Calls Try.prog 8 #[.slice A n c, .int .i64 (a : Int), .int .u32 (mask : Int)] w fun e w' => e = .returned (.bool true) ∧ w.grownBy w' none := by
  have LV := hide live_any
  have HN := hide hn
  have HR := hide hr
  have HM := hide hm
  clear hn hr hm
  go_enter Try.func8, Try.ntmps8
  go_wp2_with (first
    | (go_at_call 18; refine (seal_one HR.out hc HM.out HN.out (by omega)).mono ?_; rintro e w1 ⟨g, cap, rfl, hown1, hg1, hcap, hcm⟩)
    | (go_at_call 26; refine (num_err _ _).mono ?_; rintro e w8 ⟨rfl, rfl⟩))
  have HCM := hide hcm
  unfold maxLen at hcm
  have hfl := frame_length p
  have hF := hide (show w.heap.size ≤ g ∧ g < w1.heap.size from (hown1.lt g rfl))
  rw [HN.out] at hfl
  have HFL := hide hfl
  clear hfl
  go_loopw [9, 10] (fun t i wr => ∃ (k : Nat) (bs : List UInt8), k ≤ 32 ∧ i = .int .i64 k ∧ t = .bool (turnedB mask a (n + 8) k) ∧ Flips mask a n g cap w.heap.size p k bs w wr)
    (fun _ i _ => 32 - (intOf i).toNat)
  case atStart => exact ⟨0, frame p, by omega, rfl, by simp [turnedB, mk], hown1, HFL.out, by simp [mk], rfl, hg1⟩
  case round =>
    obtain ⟨k, bs, hk, rfl, rfl, hfp⟩ := hrel
    have HF := hide hfp
    by_cases hlt : k < 32
    · have e1 := and_bit (k := k) hmask
      have ht : ¬ (mask / 2 ^ k % 2 = 1 ∧ a + k < 8 * (n + 8)) → turnedB mask a (n + 8) (k + 1) = turnedB mask a (n + 8) k := fun h => by unfold turnedB; rw [mk_no h]
      have HT := hide ht
      clear ht
      by_cases h1 : mask / 2 ^ k % 2 = 1
      · rw [h1] at e1
        by_cases h2 : a + k < 8 * (n + 8)
        · have hi : (a + k) / 8 < bs.length := by rw [HF.out.2.1]; omega
          have hcell := HF.out.1.cellAt ((a + k) / 8) (by omega)
          rw [show (u8s bs)[(a + k) / 8]? = some (.int .u8 (bs[(a + k) / 8].toNat : Int)) by simp [u8s, hi]] at hcell
          have hfz := HF.out.1.frozenAt ((a + k) / 8)
          have HY := hide (HF.out.yes ha h1 h2 hF.out.1 hi)
          have HTY := hide (show true = turnedB mask a (n + 8) (k + 1) from (decide_eq_true (mk_ne h1 h2)).symm)
          clear hfp h1 hmask
          go_wp2
          go_roundw
          case rel => exact ⟨k + 1, _, by omega, by go_num, by rw [← HTY.out], HY.out⟩
          case measure => simp [intOf]; omega
        · have HY := hide (HF.out.no (fun h => h2 h.2))
          have HTY := hide (HT.out (fun h => h2 h.2))
          clear hfp h1 hmask
          go_wp2
          go_roundw
          case rel => exact ⟨k + 1, bs, by omega, by go_num, by rw [HTY.out], HY.out⟩
          case measure => simp [intOf]; omega
      · rw [show mask / 2 ^ k % 2 = 0 by omega] at e1
        have HY := hide (HF.out.no (fun h => h1 h.1))
        have HTY := hide (HT.out (fun h => h1 h.1))
        clear hfp h1 hmask
        go_wp2
        go_roundw
        case rel => exact ⟨k + 1, bs, by omega, by go_num, by rw [HTY.out], HY.out⟩
        case measure => simp [intOf]; omega
    · obtain rfl : k = 32 := by omega
      obtain ⟨c1, c2, c3, c4, c5⟩ := hfp
      have hM : mk mask a (n + 8) 32 < 4294967296 := mk_lt mask a (n + 8) 32
      have hfin := opn_flip p bs _ a (by rw [HN.out]; omega) (by rw [c2, HFL.out]) c3 c4 hM (by rw [HFL.out]; omega)
      have hat := At8.of_own c1 c2.symm
      have HAT := hide hat
      have HG := hide c5
      have hbl : bs.length ≤ 100000000 := by rw [c2]; omega
      have HBL := hide hbl
      clear c1 c2 c3 c4 c5 hM hat hlt hk hbl
      by_cases hz : mk mask a (n + 8) 32 = 0
      · have e2 : (opn bs).2.2 = 0 := hfin.2 hz
        have hT : turnedB mask a (n + 8) 32 = false := by simp [turnedB, hz]
        have OP := hide (fun W (h : At8 W (.slice (some ⟨g, 0, none⟩) (n + 8) cap) bs) => open_at h HBL.out)
        generalize opn bs = o at OP e2
        obtain ⟨o0, o1, o2⟩ := o
        dsimp only at e2
        subst e2
        rw [hT]
        clear hfin hz hT
        go_wp2_with (first
          | (go_at_call 20; refine (OP.out _ HAT.out).mono ?_; rintro e w3 ⟨A3, n3, c3, rfl, h3, hg3⟩)
          | (go_at_call 26; refine (num_err _ _).mono ?_; rintro e w8 ⟨rfl, rfl⟩)
          | (go_at_call 10; refine (LV.out _).mono ?_; rintro e w9 ⟨rfl, hg9⟩))
        go_ret
        exact ⟨rfl, gb_trans (gb_trans HG.out hg3 (.inl rfl)) hg9 (.inl rfl)⟩
      · have e2 : (opn bs).2.2 ≠ 0 := fun h => hz (hfin.1 h)
        have hT : turnedB mask a (n + 8) 32 = true := by simp [turnedB, hz]
        have OP := hide (fun W (h : At8 W (.slice (some ⟨g, 0, none⟩) (n + 8) cap) bs) => open_at h HBL.out)
        generalize opn bs = o at OP e2
        obtain ⟨o0, o1, o2⟩ := o
        dsimp only at e2
        have e3 : ((o2 : Int) == 0) = false := beq_eq_false_iff_ne.2 (by omega)
        rw [hT]
        clear hfin hz hT e2
        go_wp2_with (first
          | (go_at_call 20; refine (OP.out _ HAT.out).mono ?_; rintro e w3 ⟨A3, n3, c3, rfl, h3, hg3⟩)
          | (go_at_call 26; refine (num_err _ _).mono ?_; rintro e w8 ⟨rfl, rfl⟩)
          | (go_at_call 10; refine (LV.out _).mono ?_; rintro e w9 ⟨rfl, hg9⟩))
        go_ret
        exact ⟨rfl, gb_trans (gb_trans HG.out hg3 (.inl rfl)) hg9 (.inl rfl)⟩

set_option maxHeartbeats 4000000 in
set_option maxRecDepth 100000 in
theorem bursts_live (A : Option Addr) (c n : Nat) (a : Int) (mask : Nat) (p : List UInt8) (w : World) (hr : Rd w w.heap.size A (u8s p)) (hc : n ≤ c) (hm : c ≤ maxLen) (hn : p.length = n) (ht : Tiny n) (h : 20000 < n ∨ a < 32 ∨ 8 * ((n : Int) + 8) ≤ a) :
    Calls Try.prog 8 #[.slice A n c, .int .i64 a, .int .u32 (mask : Int)] w fun e w' => e = .returned (.bool true) ∧ w.grownBy w' none := by
  have LV := hide live_any
  have HN := hide hn
  have HR := hide hr
  have HM := hide hm
  have HT := hide ht
  unfold maxLen at hm
  clear hn hr ht
  by_cases hbig : 1048576 < n
  · clear h
    go_enter Try.func8, Try.ntmps8
    go_wp2_with (first
      | (go_at_call 18; refine (seal_huge _ _ _ _ _ HR.out hc HM.out HN.out HT.out hbig).mono ?_; rintro e w1 ⟨rfl, hg1⟩)
      | (go_at_call 10; refine (LV.out _).mono ?_; rintro e w9 ⟨rfl, hg9⟩))
    go_ret
    exact ⟨rfl, gb_trans hg1 hg9 (.inl rfl)⟩
  · by_cases h1 : 20000 < n
    · clear h
      go_enter Try.func8, Try.ntmps8
      go_wp2_with (first
        | (go_at_call 18; refine (seal_one HR.out hc HM.out HN.out (by omega)).mono ?_; rintro e w1 ⟨g, cap, rfl, hown1, hg1, hcap, hcm⟩; clear hown1 hcm)
        | (go_at_call 10; refine (LV.out _).mono ?_; rintro e w9 ⟨rfl, hg9⟩))
      go_ret
      exact ⟨rfl, gb_trans hg1 hg9 (.inl rfl)⟩
    · by_cases h2 : a < 32
      · clear h
        go_enter Try.func8, Try.ntmps8
        go_wp2_with (first
          | (go_at_call 18; refine (seal_one HR.out hc HM.out HN.out (by omega)).mono ?_; rintro e w1 ⟨g, cap, rfl, hown1, hg1, hcap, hcm⟩; clear hown1 hcm)
          | (go_at_call 26; refine (num_err _ _).mono ?_; rintro e w8 ⟨rfl, rfl⟩)
          | (go_at_call 10; refine (LV.out _).mono ?_; rintro e w9 ⟨rfl, hg9⟩))
        go_ret
        exact ⟨rfl, gb_trans hg1 hg9 (.inl rfl)⟩
      · have h3 : 8 * ((n : Int) + 8) ≤ a := by omega
        clear h
        go_enter Try.func8, Try.ntmps8
        go_wp2_with (first
          | (go_at_call 18; refine (seal_one HR.out hc HM.out HN.out (by omega)).mono ?_; rintro e w1 ⟨g, cap, rfl, hown1, hg1, hcap, hcm⟩; clear hown1 hcm)
          | (go_at_call 26; refine (num_err _ _).mono ?_; rintro e w8 ⟨rfl, rfl⟩)
          | (go_at_call 10; refine (LV.out _).mono ?_; rintro e w9 ⟨rfl, hg9⟩))
        go_ret
        exact ⟨rfl, gb_trans hg1 hg9 (.inl rfl)⟩

end Go.Proofs.Ytdaefgkhimhpdaa
