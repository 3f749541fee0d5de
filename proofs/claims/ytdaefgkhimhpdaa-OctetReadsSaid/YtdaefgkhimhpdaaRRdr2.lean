/-
  The contracts of the reference's reader: Int, Byte, Count, Text, Done.
-/
import Derived.Test.YtdaefgkhimhpdaaRRdr
import Derived.Deep.QuietTactic
import Derived.BigQuiet
namespace Go.Proofs.Ytdaefgkhimhpdaa
open Go.RowKit

theorem rNum_u {bs : List UInt8} {p : Nat} {x : Int} : U64 (rNum bs p x).1 := by
  have := rPeek_lt bs p x
  unfold U64
  show (rPeek bs p x).1 ≤ _
  omega
theorem odd_math {n : Nat} (h : U64 n) (hn : n % 2 = 1) : wrap64 (wrap64 (-wrap64 (IntKind.u64.wrap ((n : Int) / 2))) - 1) = unzig n := by
  unfold U64 at h
  unfold unzig wrap64
  rw [if_pos hn, IntKind.wrap_u64]
  omega
theorem even_math {n : Nat} (h : U64 n) (hn : n % 2 ≠ 1) : wrap64 (IntKind.u64.wrap ((n : Int) / 2)) = unzig n := by
  unfold U64 at h
  unfold unzig wrap64
  rw [if_neg hn, IntKind.wrap_u64]
  omega

set_option maxHeartbeats 1000000 in
set_option maxRecDepth 4000 in
theorem refInt_any (base g : Nat) (bs : List UInt8) (p : Nat) (x : Int) (w : World) (h : RefR w base g bs p x) (hp : p ≤ bs.length) (hl : bs.length ≤ 100000000) :
    Calls Try.prog 33 #[.pointer (some ⟨g, 0, none⟩)] w (RAfter base g bs (.int .i64 (unzig (rNum bs p x).1)) (rNum bs p x).2.1 (rNum bs p x).2.2 w) := by
  have hu := @rNum_u bs p x
  have NM := hide (refNum_any base g bs p x w h hp hl)
  generalize rNum bs p x = r at hu NM
  obtain ⟨n, q, y⟩ := r
  dsimp only at hu NM ⊢
  have HU := hide hu
  clear hu h
  by_cases hn : n % 2 = 1
  · have E := hide (odd_math HU.out hn)
    have hb : ((n : Int) % 2 == 1) = true := beq_iff_eq.2 (by omega)
    clear hn
    go_enter Try.func33, Try.ntmps33
    go_wp2_with (go_at_call 31; refine NM.out.mono ?_; rintro e w1 ⟨rfl, hr1, hg1⟩)
    go_ret
    exact ⟨by rw [← E.out]; rfl, hr1, hg1⟩
  · have E := hide (even_math HU.out hn)
    have hb : ((n : Int) % 2 == 1) = false := beq_eq_false_iff_ne.2 (by omega)
    clear hn
    go_enter Try.func33, Try.ntmps33
    go_wp2_with (go_at_call 31; refine NM.out.mono ?_; rintro e w1 ⟨rfl, hr1, hg1⟩)
    go_ret
    exact ⟨by rw [← E.out]; rfl, hr1, hg1⟩

set_option maxHeartbeats 2000000 in
set_option maxRecDepth 4000 in
theorem refByte_any (base g : Nat) (bs : List UInt8) (p : Nat) (x : Int) (w : World) (h : RefR w base g bs p x) (hp : p ≤ bs.length) (hl : bs.length ≤ 100000000) :
    Calls Try.prog 35 #[.pointer (some ⟨g, 0, none⟩)] w (RAfter base g bs (.int .u8 ((rByte bs p x).1 : Int)) (rByte bs p x).2.1 (rByte bs p x).2.2 w) := by
  have HR := hide h
  obtain ⟨v, hb, ho, hbg⟩ := h
  obtain ⟨A, c, rfl, hnc, hcm, hrd⟩ := own_form ho
  have h0 : w.cell? ⟨g, 0, none⟩ = some (.slice A bs.length c) := by rw [blk_cell hb]; rfl
  have h1 : w.cell? ⟨g, 1, none⟩ = some (.int .i64 (p : Int)) := by rw [blk_cell hb]; rfl
  have h2 : w.cell? ⟨g, 2, none⟩ = some (.int .i64 x) := by rw [blk_cell hb]; rfl
  have hf1 := blk_frozen hb 1
  have HB := hide hb
  have HO := hide ho
  clear hb ho hbg
  unfold maxLen at hcm
  by_cases hx : x = 0
  · subst hx
    by_cases hlt : p < bs.length
    · have e1 : rByte bs p 0 = (bs[p].toNat, p + 1, 0) := by simp [rByte, hlt]
      have hb0 := hrd.u8 hlt
      obtain ⟨ad, rfl, _, hc⟩ := hb0
      generalize hbp : bs[p] = b at hc e1
      have HBP := hide hbp
      have E1 := hide e1
      clear e1 hc hbp
      go_enter Try.func35, Try.ntmps35
      go_wp2
      go_quiet (fail)
      have HRW := hide (HR.out.drewN nq)
      have HBW := hide (show (w.drewN nq).heap[g]? = _ from HB.out)
      have HOW := hide (show (w.drewN nq).ownsRow base 5 1 _ bs.length (u8s bs) from HO.out)
      have HGW := hide (gb_drewN (gb_refl w (some g)) nq)
      clear h0 h1 h2 hf1 HR HB HO hrd
      generalize w.drewN nq = W at *
      have w1 : W.cell? ⟨g, 1, none⟩ = some (.int .i64 (p : Int)) := by rw [blk_cell HBW.out]; rfl
      have wf1 := blk_frozen HBW.out 1
      have hpl := HRW.out.place (p + 1)
      rw [show ((p + 1 : Nat) : Int) = (p : Int) + 1 by omega] at hpl
      have PL := hide hpl
      have hc3 := (Rd.of_own (HOW.out.kept hpl.2 (.inr (own_ne HOW.out HBW.out (by decide))))).u8 hlt
      obtain ⟨ad', he, _, hc⟩ := hc3
      injection he with he
      subst he
      rw [HBP.out] at hc
      have HC := hide hc
      have C0 := hide (show (W.setCell ⟨g, 1, none⟩ (.int .i64 ((p : Int) + 1))).cell? ⟨g, 0, none⟩ = some (.slice (some ad) bs.length c) by rw [blk_cell (blk_set HBW.out 1 _)]; rfl)
      have C1 := hide (show (W.setCell ⟨g, 1, none⟩ (.int .i64 ((p : Int) + 1))).cell? ⟨g, 1, none⟩ = some (.int .i64 ((p : Int) + 1)) by rw [blk_cell (blk_set HBW.out 1 _)]; rfl)
      clear hpl hc
      go_wp2
      have k0 := C0.out
      have k1 := C1.out
      have k2 := HC.out
      have PL1 := hide PL.out.1
      have PL2 := hide (gb_trans HGW.out PL.out.2 (.inl rfl))
      clear PL C0 C1 HC HOW HBW HRW w1 wf1
      generalize W.setCell ⟨g, 1, none⟩ (.int .i64 ((p : Int) + 1)) = W2 at *
      have f1 : IntKind.i64.wrap ((p : Int) + 1 - 1) = (p : Int) := by rw [IntKind.wrap_i64]; omega
      have f2 : (p : Int) < (bs.length : Int) := by omega
      have f3 : (0 : Int) ≤ (p : Int) := by omega
      go_quiet (fail)
      go_wp2
      go_ret
      exact ⟨by rw [E1.out]; rfl, by rw [E1.out]; exact PL1.out.drewN _, gb_drewN PL2.out _⟩
    · have e1 : rByte bs p 0 = (0, p, 3) := by simp [rByte, hlt]
      have E1 := hide e1
      clear e1
      go_enter Try.func35, Try.ntmps35
      go_wp2
      go_quiet (fail)
      go_wp2_with (go_at_call 41; refine (refFail_at (HR.out.drewN _) 3 (by decide) p).mono ?_; rintro e w1 ⟨rfl, hr1, hg1⟩)
      go_ret
      exact ⟨by rw [E1.out]; rfl, by rw [E1.out]; exact hr1, ⟨hg1.os, hg1.tape, hg1.output, hg1.size, hg1.block⟩⟩
  · have e1 : rByte bs p x = (0, p, x) := by simp [rByte, hx]
    have E1 := hide e1
    have hb : (x != 0) = true := by simpa using hx
    clear e1 hx
    go_enter Try.func35, Try.ntmps35
    go_wp2
    go_ret
    exact ⟨by rw [E1.out]; rfl, by rw [E1.out]; exact HR.out, gb_refl _ _⟩

end Go.Proofs.Ytdaefgkhimhpdaa
