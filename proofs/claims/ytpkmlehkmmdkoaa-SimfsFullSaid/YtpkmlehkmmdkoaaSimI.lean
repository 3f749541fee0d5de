/-
  The contract of FS.Read.
-/
import Derived.Test.YtpkmlehkmmdkoaaSimH
namespace Go.Proofs.Ytpkmlehkmmdkoaa
open Go.RowKit

set_option maxHeartbeats 4000000 in
set_option maxRecDepth 100000 in
theorem read_ok (L : Nat → Nat) (g : Nat) (S : St) (n : Int) (f : Fl) (k : Nat) (x : Int) (w : World) (h : FsAt w L g S) (hF : Fine S) (hd : S.dead = false) (hn : S.file n = some f) (hk : k ≤ f.bytes.length) (hx : 0 ≤ x) :
    Calls Try.prog 23 #[.pointer (some ⟨g, 0, none⟩), .int .i64 n, .int .i64 (k : Int), .int .i64 x] w fun e w' => ∃ A c m, e = .returned (.tuple #[.slice A m c, .int .i64 0]) ∧
      m = min x.toNat (f.bytes.length - k) ∧ BsAt w' (fun i => w.heap.size ≤ i ∧ i < w'.heap.size) (.slice A m c) ((f.bytes.drop k).take x.toNat) ∧ w.grownBy w' none := by
  obtain ⟨mf, mn, ms, vch, lf, h⟩ := h
  obtain ⟨fb, h1, h2, h3, h4⟩ := h.find_some hd hn
  obtain ⟨fv, hfl, hof, hgo, hbb, _⟩ := h2
  obtain ⟨A, c, hvb, hlc, hcm, hrd⟩ := hbb.rd
  have hbl := (hF.files n f (St.file_some hn).1).1
  obtain ⟨d, hdd⟩ : ∃ d, k + d = f.bytes.length := ⟨f.bytes.length - k, by omega⟩
  have q1 := hfl.c1
  rw [hvb, ← hdd] at q1
  rw [← hdd] at hlc
  have HFD := hide h4
  obtain ⟨i8, hi8, _, hs8, _⟩ := info_parts Try.info8
  have hcut := fun w => run_cut_from (P := Try.prog) w A (k + d) c k 1 Try.underlying32 hi8 hs8 (by omega) hlc
  have hw : IntKind.i64.wrap ((k : Int) + (d : Int) - (k : Int)) = (d : Int) := by
    rw [show (k : Int) + (d : Int) - (k : Int) = d by omega]
    exact IntWalk.i64_in _ (by omega)
  have hkd : k ≤ k + d := by omega
  have hx' : ¬ x < 0 := by omega
  obtain ⟨m, hm⟩ : ∃ m : Nat, m = min x.toNat d := ⟨_, rfl⟩
  have hmd : m ≤ d := by omega
  have hcut2 := fun w => run_cut_to (P := Try.prog) w (cutA A k c 1) d (c - k) m Try.underlying32 hi8 hmd (by omega)
  have hdk : k + d - k = d := by omega
  rw [hdk] at hcut
  have HR : Hid (Rd w.drew w.heap.size (cutA A k c 1) (u8s ((f.bytes.drop k).take m))) := hide (by
    have := (hrd.cutA (k := k) (c := c) (by omega) (by omega)).take m
    rw [u8s_take] at this
    exact this)
  have HL : Hid (m = ((f.bytes.drop k).take m).length) := hide (by simp; omega)
  have HL2 : Hid (((f.bytes.drop k).take m).length ≤ 1000000000) := hide (by rw [← HL.out]; omega)
  have HM := hide hm
  have HDD := hide hdd
  have hcase : (x ≤ (d : Int) ∧ x = (m : Int)) ∨ (¬ x ≤ (d : Int) ∧ (d : Int) < x ∧ d = m) := by omega
  clear h hn h4 hfl hbb hF hvb hrd hi8 hs8 hm hdk hdd hk hbl
  rcases hcase with ⟨hc1, rfl⟩ | ⟨hc1, hc2, rfl⟩
  · have hc3 : ¬ (d : Int) < (m : Int) := by omega
    have hc4 : ¬ d < m := by omega
    have hc5 : min m d = m := by omega
    go_enter Try.func23, Try.ntmps23
    go_wp2_with (go_at_call 40; refine HFD.out.mono ?_; rintro e w1 ⟨rfl, rfl⟩)
    go_still_tail 16, (by kernel_rfl)
    go_wp2_with (go_at_call 48; refine (clone8_any _ _ _ w.heap.size _ _ HR.out HL.out (Nat.le_refl _) HL2.out).mono ?_; rintro e w2 ⟨A2, c2, rfl, hb2, hg2⟩; have HB2 := hide hb2; have HG2 := hide hg2; clear hb2 hg2)
    go_ret2
    refine ⟨A2, c2, m, rfl, by rw [HM.out]; have := HDD.out; omega, ?_, ⟨HG2.out.os, HG2.out.tape, HG2.out.output, HG2.out.size, HG2.out.block⟩⟩
    have e : (f.bytes.drop k).take (m : Int).toNat = (f.bytes.drop k).take m := rfl
    rw [e]
    exact HB2.out
  · go_enter Try.func23, Try.ntmps23
    go_wp2_with (go_at_call 40; refine HFD.out.mono ?_; rintro e w1 ⟨rfl, rfl⟩)
    go_still_tail 16, (by kernel_rfl)
    go_wp2_with (go_at_call 48; refine (clone8_any _ _ _ w.heap.size _ _ HR.out HL.out (Nat.le_refl _) HL2.out).mono ?_; rintro e w2 ⟨A2, c2, rfl, hb2, hg2⟩; have HB2 := hide hb2; have HG2 := hide hg2; clear hb2 hg2)
    go_ret2
    refine ⟨A2, c2, d, rfl, by rw [HM.out]; have := HDD.out; omega, ?_, ⟨HG2.out.os, HG2.out.tape, HG2.out.output, HG2.out.size, HG2.out.block⟩⟩
    have e : (f.bytes.drop k).take x.toNat = (f.bytes.drop k).take d := by
      have := HDD.out
      rw [List.take_of_length_le (by simp; omega), List.take_of_length_le (by simp; omega)]
    rw [e]
    exact HB2.out

end Go.Proofs.Ytpkmlehkmmdkoaa
