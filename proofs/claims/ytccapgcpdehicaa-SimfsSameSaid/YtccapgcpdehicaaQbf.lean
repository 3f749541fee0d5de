/-
  The law SimfsSame: its walk.
-/
import Derived.Test.YtccapgcpdehicaaQbe
import Derived.Test.YtccapgcpdehicaaQaz
import Derived.Test.YtccapgcpdehicaaQbc
import Derived.Test.YtccapgcpdehicaaQbd

namespace Go.Proofs.Ytccapgcpdehicaa
open Go.RowKit

/-- What is handed in. -/
structure Pl.In (w : World) (A : Option Addr) (l : List AcV) : Prop where
  rd : Rd w w.heap.size A (acells l)
  data : ∀ x ∈ l, Rd w w.heap.size x.dA (u8s x.d)
  small : ∀ x ∈ l, x.Small
  len : l.length ≤ 9223372036854775807
  torn : ∀ x ∈ l, ∃ tl : List Tn, tl.length = x.tn ∧ Rd w w.heap.size x.tA (tcells tl)
  rng : ∀ x ∈ l, x.n ≤ 9223372036854775807

theorem wsum_take (l : List AcV) (j : Nat) : wsum (l.take j) ≤ wsum l := by
  have h := List.take_append_drop j l
  have e : wsum l = wsum (l.take j) + wsum (l.drop j) := by
    unfold wsum
    conv => lhs; rw [← h]
    rw [List.map_append, List.sum_append]
  omega
theorem wrap_j {j : Nat} (h : j ≤ 800) : wrap64 ((j : Int) + 1) = ((j + 1 : Nat) : Int) := by unfold wrap64; omega
theorem Nx.mono {w0 wx : World} {Z : Nat → Prop} {g q D D' k : Nat} (h : Nx w0 Z g q D k wx) (hD : D ≤ D') : Nx w0 Z g q D' k wx := by
  obtain ⟨S, R, h1, h2⟩ := h
  exact ⟨S, R, h1, h2.mono hD (Nat.le_refl _)⟩
theorem Nx.more {w0 wx : World} {Z : Nat → Prop} {g q D k : Nat} (h : Nx w0 Z g q D k wx) : Nx w0 Z g q D (k + 1) wx := by
  obtain ⟨S, R, h1, h2⟩ := h
  exact ⟨S, R, h1, h2.mono (Nat.le_refl _) (Nat.le_succ _)⟩
theorem Nx.keep' {w0 wx wy : World} {Z : Nat → Prop} {g q D k : Nat} (h : Nx w0 Z g q D k wx) (hg : wx.grownBy wy none) : Nx w0 Z g q D k wy := by
  obtain ⟨S, R, h1, h2⟩ := h
  exact ⟨S, R, h1.keep hg, h2⟩
theorem Nx.grown' {w0 wx : World} {g q D k : Nat} (h : Nx w0 (fun i => i < w0.heap.size) g q D k wx) : w0.grownBy wx none := by
  obtain ⟨S, R, h1, h2⟩ := h
  have t := h1.turned
  exact ⟨t.os, t.tape, t.output, t.size, fun i hi _ => t.block i hi (fun k => k hi)⟩
theorem Nx.act {w0 wx : World} {Z : Nat → Prop} {g q B D k : Nat} (x : AcV) (tl : List Tn) (h : Nx w0 Z g q D k wx) (hD : D + x.d.length ≤ 20000) (hk : k ≤ 800)
    (hr : Rd w0 B x.dA (u8s x.d)) (hB : B ≤ w0.heap.size) (hZ : ∀ i, i < B → Z i) (htl : tl.length = x.tn) (htr : Rd w0 B x.tA (tcells tl)) (htb : x.tn ≤ 20000) (hn : x.n ≤ 9223372036854775807) :
    Calls Try.prog 22 #[.pointer (some ⟨g, 0, none⟩), .pointer (some ⟨q, 0, none⟩), .agg #[.int .i64 x.kind, .string x.a, .string x.b, .int .i64 x.file, .int .i64 x.pos, .int .i64 x.n, .slice x.dA x.d.length x.dc, .int .i64 x.dir, .slice x.tA x.tn x.tc]] wx fun e w' => ∃ g', e = .returned (.tuple #[.pointer (some ⟨g', 0, none⟩), .bool true]) ∧ (x.kind ≠ 14 → g' = g) ∧ Nx w0 Z g' q (D + x.d.length) (k + 1) w' := by
  obtain ⟨S, R, h1, h2⟩ := h
  exact act_any x tl wx h1 h2 hD hk hr hB hZ htl htr htb hn
/-- Both made anew. -/
theorem Nx.new {w w1 w2 : World} {C : Int} {g : Nat} {L : Nat → Nat} (h0 : ¬ C < 0) (h1 : ¬ 67108864 < C) (hw : w.grownBy w1 none) (hL : FsAt w1 L g (St.new C)) (hl : ∀ i, L i ≠ 0 → w.heap.size ≤ i) (hg : w1.grownBy w2 none)
    (hR : RAt w2 w1.heap.size (newRS C) [] [] (.slice none 0 0) (.slice none 0 0) (.slice none 0 0) (.slice none 0 0)) : Nx w (fun i => i < w.heap.size) g w1.heap.size 0 0 w2 := by
  have hsz := hw.size
  refine ⟨St.new C, newRS C, ⟨L, fun i => i = w1.heap.size, hL.grown hg, ⟨[], [], _, _, _, _, hR, fun i hi => ?_⟩, Turned.of_gb (gb_trans hw hg (.inl rfl)) (by simp), fun i hi => ?_, fun i hi => ⟨Classical.byContradiction fun hc => ?_, hi⟩⟩, Sim.new h0 h1⟩
  · have hb := blk_lt hR.box
    simp [ROwn, Value.ownBlock] at hi
    exact ⟨hi, by omega⟩
  · subst hi
    refine ⟨Classical.byContradiction fun hc => ?_, blk_lt hR.box, by omega⟩
    have := hL.lts hc
    omega
  · have := hl i hc
    omega

end Go.Proofs.Ytccapgcpdehicaa

namespace Go.Proofs.Ytccapgcpdehicaa
open Go.RowKit

set_option maxHeartbeats 8000000 in
set_option maxRecDepth 100000 in
theorem played_none (C : Int) (A : Option Addr) (c m : Nat) (w : World) (hC : C < 0 ∨ 67108864 < C) :
    Calls Try.prog 6 #[.int .i64 C, .slice A m c] w fun e w' => e = .returned (.tuple #[.pointer none, .pointer none]) ∧ w.grownBy w' none := by
  have HC := hide hC
  clear hC
  go_enter Try.func6, Try.ntmps6
  go_wp2_with (first
    | (go_at_call 9; refine (new_bad C _ HC.out).mono ?_; rintro e wq ⟨rfl, rfl⟩)
    | (go_at_call 21; refine (rNew_bad C _ HC.out).mono ?_; rintro e wq ⟨rfl, rfl⟩)
    | (go_at_call 10; refine (num_any _ _).mono ?_; rintro e wq ⟨rfl, rfl⟩))
  go_ret2
  exact ⟨rfl, gb_refl w none⟩

set_option maxHeartbeats 8000000 in
set_option maxRecDepth 100000 in
theorem played_any (C : Int) (A : Option Addr) (c : Nat) (l : List AcV) (w0 w : World) (h : Pl.In w0 A l) (hgw : w0.grownBy w none) (hl : longB l = false) (h0 : ¬ C < 0) (h1 : ¬ 67108864 < C) :
    Calls Try.prog 6 #[.int .i64 C, .slice A l.length c] w fun e w' => ∃ g q, e = .returned (.tuple #[.pointer (some ⟨g, 0, none⟩), .pointer (some ⟨q, 0, none⟩)]) ∧ Nx w0 (fun i => i < w0.heap.size) g q 20000 60 w' := by
  have HWS : Hid (l.length ≤ 60 ∧ wsum l ≤ 20000) := hide (by
    unfold longB at hl
    simp only [Bool.or_eq_false_iff, decide_eq_false_iff_not] at hl
    exact ⟨by omega, by omega⟩)
  have H := hide h
  have HG0 := hide hgw
  have H00 : Hid (0 ≤ C) := hide (by omega)
  have H11 : Hid (C ≤ 67108864) := hide (by omega)
  clear hl h h0 h1 hgw
  go_enter Try.func6, Try.ntmps6
  go_wp2_with (first
    | (go_at_call 9; refine (new_ok C _ H00.out H11.out).mono ?_; rintro e w2 ⟨g, L, rfl, hL, hg, hl⟩; have HFS := hide hL; have HG2 := hide hg; have HLL := hide hl; clear hL hg hl)
    | (go_at_call 21; refine (rNew_ok C _ (Int.not_lt.2 H00.out) (Int.not_lt.2 H11.out)).mono ?_; rintro e w3 ⟨rfl, hg, hR⟩; have HN3 := hide (Nx.new (Int.not_lt.2 H00.out) (Int.not_lt.2 H11.out) (gb_trans HG0.out HG2.out (.inl rfl)) HFS.out (fun i hi => Nat.le_trans HG0.out.size (HLL.out i hi)) hg hR); clear hg hR)
    | (go_at_call 10; refine (num_any _ _).mono ?_; rintro e wq ⟨rfl, rfl⟩))
  generalize w2.heap.size = q at *
  clear HFS HG2 HLL HG0
  go_loopw [10] (fun i wr => ∃ j : Nat, i = .int .i64 (j : Int) ∧ j ≤ l.length ∧ Nx w0 (fun i => i < w0.heap.size) g q (wsum (l.take j)) j wr) (fun i _ => l.length - (intOf i).toNat)
  case atStart => exact ⟨0, rfl, Nat.zero_le _, HN3.out⟩
  case round =>
    obtain ⟨j, rfl, hj, hn⟩ := hrel
    have HN := hide hn
    clear hn
    by_cases hlt : j < l.length
    · have hlt1 : (j : Int) < (l.length : Int) := by omega
      have HJ := hide (show j ≤ 800 by have := HWS.out.1; omega)
      have HJ1 := hide (show j + 1 ≤ 1000 by have := HWS.out.1; omega)
      obtain ⟨b, o, rfl, hbB, hac⟩ := H.out.rd.act hlt
      have HRX := hide (H.out.data _ (List.getElem_mem hlt))
      have HRN := hide (H.out.rng _ (List.getElem_mem hlt))
      obtain ⟨tl, htl, htr⟩ := H.out.torn _ (List.getElem_mem hlt)
      have HTL := hide htl
      have HTR := hide htr
      clear htl htr
      have hst := wsum_step l j hlt
      have hws := wsum_take l (j + 1)
      have HDX := hide (show wsum (l.take j) + l[j].d.length ≤ 20000 by have := HWS.out.2; omega)
      have HD3 := hide (show wsum (l.take j) ≤ wsum (l.take (j + 1)) by omega)
      have HDM := hide (show wsum (l.take j) + l[j].d.length ≤ wsum (l.take (j + 1)) by omega)
      have HTB := hide (show l[j].tn ≤ 20000 by have := HWS.out.2; omega)
      clear hst hws
      have hac := hac.grown HN.out.grown'
      generalize wsum (l.take j) = D at *
      generalize hE2 : wsum (l.take (j + 1)) = D2 at *
      have HE2 := hide hE2.symm
      clear hE2
      generalize l[j] = x at *
      obtain ⟨a0, a1, a2, a3, a4, a5, a6, a7, a8⟩ := hac
      by_cases k14 : x.kind = 14
      · have q14 : (x.kind == 14) = true := by rw [k14]; rfl
        clear k14
        go_wp2_with fail
        have hj800 : j ≤ 800 := HJ.out
        go_roundw
        case rel => exact ⟨j + 1, congrArg (Value.int .i64) (wrap_j HJ.out), by omega, HE2.out ▸ (HN.out.mono HD3.out).more⟩
        case measure =>
          rw [wrap_j HJ.out]
          show l.length - ((j + 1 : Nat) : Int).toNat < l.length - ((j : Nat) : Int).toNat
          rw [Int.toNat_natCast, Int.toNat_natCast]
          omega
      · have q14 : (x.kind == 14) = false := beq_eq_false_iff_ne.2 k14
        have HK14 := hide k14
        clear k14
        go_wp2_with (go_at_call 22; refine (HN.out.act x tl HDX.out HJ.out HRX.out (Nat.le_refl _) (fun _ h => h) HTL.out HTR.out HTB.out HRN.out).mono ?_; rintro e w5 ⟨g3, rfl, hgg, hn⟩; have HN5 := hide (hgg HK14.out ▸ hn.mono HDM.out); clear hn hgg)
        have hj800 : j ≤ 800 := HJ.out
        go_roundw
        case rel => exact ⟨j + 1, congrArg (Value.int .i64) (wrap_j HJ.out), by omega, HE2.out ▸ HN5.out⟩
        case measure =>
          rw [wrap_j HJ.out]
          show l.length - ((j + 1 : Nat) : Int).toNat < l.length - ((j : Nat) : Int).toNat
          rw [Int.toNat_natCast, Int.toNat_natCast]
          omega
    · have hlt1 : ¬ (j : Int) < (l.length : Int) := by omega
      go_wp2_with fail
      go_ret2
      refine ⟨g, q, rfl, ?_⟩
      obtain ⟨S, R, k1, k2⟩ := HN.out
      exact ⟨S, R, k1, k2.mono (Nat.le_trans (wsum_take l j) HWS.out.2) (by have := HWS.out.1; omega)⟩
end Go.Proofs.Ytccapgcpdehicaa

namespace Go.Proofs.Ytccapgcpdehicaa
open Go.RowKit

theorem rmEq_3 {x y : RM} : rmEq x y = true ↔ x.kind = y.kind ∧ x.a = y.a ∧ x.b = y.b := by
  unfold rmEq
  rw [Bool.and_eq_true, Bool.and_eq_true, beq_iff_eq, decide_eq_true_eq, decide_eq_true_eq, and_assoc]
set_option maxHeartbeats 8000000 in
set_option maxRecDepth 100000 in
theorem rSame_any (q1 q2 : Nat) (R R2 : RS) (bs bs2 : List Nat) (vs vs2 : List Value) (vF vD vS vM wF wD wS wM : Value) (w : World) (h : RAt w q1 R bs vs vF vD vS vM) (h2 : RAt w q2 R2 bs2 vs2 wF wD wS wM)
    (nd : ∀ x ∈ R.d, 1 ≤ x.n ∧ x.n ≤ R.f.length) (ns : ∀ x ∈ R.safe, 1 ≤ x.n ∧ x.n ≤ R.f.length) (nd2 : ∀ x ∈ R2.d, 1 ≤ x.n ∧ x.n ≤ R2.f.length) (ns2 : ∀ x ∈ R2.safe, 1 ≤ x.n ∧ x.n ≤ R2.f.length) (hf : R.f.length ≤ 1000000) (hf2 : R2.f.length ≤ 1000000) :
    Calls Try.prog 8 #[.pointer (some ⟨q1, 0, none⟩), .pointer (some ⟨q2, 0, none⟩)] w fun x w' => x = .returned (.bool (sameR R R2)) ∧ ∃ q, w' = w.drewN q := by
  obtain ⟨Ad, cd, rfl, _, _⟩ := own_form0 h.rD
  obtain ⟨Ae, ce, rfl, _, _⟩ := own_form0 h2.rD
  obtain ⟨As, cs, rfl, _, _⟩ := own_form0 h.rS
  obtain ⟨At, ct, rfl, _, _⟩ := own_form0 h2.rS
  obtain ⟨AM, cM, rfl, _, hmM⟩ := own_form0 h.rM
  obtain ⟨AN, cN, rfl, _, hmN⟩ := own_form0 h2.rM
  unfold maxLen at hmM hmN
  have f1 : w.cell? ⟨q1, 1, none⟩ = some (.slice Ad R.d.length cd) := by rw [blk_cell h.box]; rfl
  have f2 : w.cell? ⟨q1, 2, none⟩ = some (.slice As R.safe.length cs) := by rw [blk_cell h.box]; rfl
  have f3 : w.cell? ⟨q1, 3, none⟩ = some (.slice AM R.m.length cM) := by rw [blk_cell h.box]; rfl
  have g1 : w.cell? ⟨q2, 1, none⟩ = some (.slice Ae R2.d.length ce) := by rw [blk_cell h2.box]; rfl
  have g2 : w.cell? ⟨q2, 2, none⟩ = some (.slice At R2.safe.length ct) := by rw [blk_cell h2.box]; rfl
  have g3 : w.cell? ⟨q2, 3, none⟩ = some (.slice AN R2.m.length cN) := by rw [blk_cell h2.box]; rfl
  have HM := hide h.rM
  have HN := hide h2.rM
  have C1 : Hid (∀ n, Calls Try.prog 26 #[.pointer (some ⟨q1, 0, none⟩), .slice Ad R.d.length cd, .pointer (some ⟨q2, 0, none⟩), .slice Ae R2.d.length ce, .bool true] (w.drewN n) fun e w' => e = .returned (.bool (sameN R R.d R2 R2.d true)) ∧ ∃ k, w' = (w.drewN n).drewN k) := hide fun n =>
    rSameNames_any q1 q2 R R2 bs bs2 vs vs2 _ _ _ _ _ _ _ _ R.d R2.d _ _ 0 0 true (w.drewN n) (h.gb h.lt (gb_drewN (gb_refl w none) n)) (h2.gb h2.lt (gb_drewN (gb_refl w none) n)) (own_blk h.rD fun _ _ => rfl) (own_blk h2.rD fun _ _ => rfl) nd nd2 hf hf2
  have C2 : Hid (∀ n, Calls Try.prog 26 #[.pointer (some ⟨q1, 0, none⟩), .slice As R.safe.length cs, .pointer (some ⟨q2, 0, none⟩), .slice At R2.safe.length ct, .bool false] (w.drewN n) fun e w' => e = .returned (.bool (sameN R R.safe R2 R2.safe false)) ∧ ∃ k, w' = (w.drewN n).drewN k) := hide fun n =>
    rSameNames_any q1 q2 R R2 bs bs2 vs vs2 _ _ _ _ _ _ _ _ R.safe R2.safe _ _ 0 0 false (w.drewN n) (h.gb h.lt (gb_drewN (gb_refl w none) n)) (h2.gb h2.lt (gb_drewN (gb_refl w none) n)) (own_blk h.rS fun _ _ => rfl) (own_blk h2.rS fun _ _ => rfl) ns ns2 hf hf2
  unfold sameR
  generalize sameN R R.d R2 R2.d true = b1 at C1 ⊢
  generalize sameN R R.safe R2 R2.safe false = b2 at C2 ⊢
  clear h h2 nd ns nd2 ns2 hf hf2
  by_cases hL : R.m.length = R2.m.length
  · have hne : ((R.m.length : Int) != (R2.m.length : Int)) = false := by rw [hL]; simp
    cases b1
    · clear hL C2
      go_enter Try.func8, Try.ntmps8
      go_upto_region 1 with fail
      go_quiet ((go_at_call 26; exact Calls.quiet_of (C1.out _)))
      go_wp2_with fail
      go_ret
      exact ⟨rfl, _, rfl⟩
    · cases b2
      · clear hL
        go_enter Try.func8, Try.ntmps8
        go_upto_region 1 with fail
        go_quiet ((first
          | (go_at_call 26; with_reducible exact Calls.quiet_of (C1.out _))
          | (go_at_call 26; with_reducible exact Calls.quiet_of (C2.out _))))
        go_wp2_with fail
        go_ret
        exact ⟨rfl, _, rfl⟩
      · have HL := hide hL
        clear hL
        go_enter Try.func8, Try.ntmps8
        go_upto_region 1 with fail
        go_quiet ((first
          | (go_at_call 26; with_reducible exact Calls.quiet_of (C1.out _))
          | (go_at_call 26; with_reducible exact Calls.quiet_of (C2.out _))))
        clear C1 C2 f1 f2 g1 g2
        go_wp2_with fail
        go_loopw [5] (fun i wr => ∃ j : Nat, i = .int .i64 (j : Int) ∧ j ≤ R.m.length ∧ (∀ (i : Nat) (hi : i < R.m.length) (hi2 : i < R2.m.length), i < j → rmEq R.m[i] R2.m[i] = true) ∧ ∃ q, wr = w.drewN q) (fun i _ => R.m.length - (intOf i).toNat)
        case atStart => exact ⟨0, rfl, Nat.zero_le _, fun i _ _ h => by omega, _, rfl⟩
        case round =>
          obtain ⟨j, rfl, hj, hall, q, rfl⟩ := hrel
          have HA := hide hall
          have HJ := hide hj
          clear hall hj
          by_cases hlt : j < R.m.length
          · have hlt2 : j < R2.m.length := by rw [← HL.out]; exact hlt
            have hlt1 : (j : Int) < (R.m.length : Int) := by omega
            have hlt3 : (j : Int) < (R2.m.length : Int) := by omega
            obtain ⟨b1, rfl, p0, p1, p2, _⟩ := M_elem HM.out hlt
            obtain ⟨b2, rfl, r0, r1, r2, _⟩ := M_elem HN.out hlt2
            have HNO := hide (fun hb : rmEq R.m[j] R2.m[j] = false => eqL_no (q := rmEq) j hlt hlt2 hb)
            have HYES := hide (fun (hb : rmEq R.m[j] R2.m[j] = true) (i : Nat) (hi : i < R.m.length) (hi2 : i < R2.m.length) (hij : i < j + 1) => show rmEq R.m[i] R2.m[i] = true from by
              by_cases hx : i = j
              · subst hx; exact hb
              · exact HA.out i hi hi2 (by omega))
            obtain ⟨x, hx⟩ : ∃ x, x = R.m[j] := ⟨_, rfl⟩
            obtain ⟨y, hy⟩ : ∃ y, y = R2.m[j] := ⟨_, rfl⟩
            rw [← hx] at p0 p1 p2 HNO HYES
            rw [← hy] at r0 r1 r2 HNO HYES
            clear hx hy
            by_cases hk : x.kind = y.kind
            · have k1 : ((x.kind : Int) != (y.kind : Int)) = false := by rw [hk]; simp
              by_cases ha : x.a = y.a
              · have a1 : (x.a.toList == y.a.toList) = true := by rw [ha]; exact beq_self_eq_true _
                have a2 : (x.a.toList != y.a.toList) = false := by simp [bne, a1]
                by_cases hb : x.b = y.b
                · have c1 : (x.b.toList == y.b.toList) = true := by rw [hb]; exact beq_self_eq_true _
                  have c2 : (x.b.toList != y.b.toList) = false := by simp [bne, c1]
                  have HR := hide (HYES.out (rmEq_3.2 ⟨hk, ha, hb⟩))
                  clear hk ha hb HNO HYES HA
                  go_upto_region 6 with fail
                  go_quiet (fail)
                  go_wp2_with fail
                  go_roundw
                  case rel => exact ⟨j + 1, by go_num, by omega, HR.out, _, by first | rfl | rw [World.drewN_drewN]⟩
                  case measure => simp [intOf]; omega
                · have c1 := rstr_ne hb
                  have c2 : (x.b.toList != y.b.toList) = true := by simp [bne, c1]
                  have HR := hide (HNO.out (Bool.eq_false_iff.2 fun e => hb (rmEq_3.1 e).2.2))
                  clear hk ha hb HNO HYES HA
                  go_upto_region 6 with fail
                  go_quiet (fail)
                  go_wp2_with fail
                  go_ret
                  exact ⟨by rw [HR.out]; rfl, _, by first | rfl | rw [World.drewN_drewN]⟩
              · have a1 := rstr_ne ha
                have a2 : (x.a.toList != y.a.toList) = true := by simp [bne, a1]
                have HR := hide (HNO.out (Bool.eq_false_iff.2 fun e => ha (rmEq_3.1 e).2.1))
                clear hk ha HNO HYES HA
                go_upto_region 6 with fail
                go_quiet (fail)
                go_wp2_with fail
                go_ret
                exact ⟨by rw [HR.out]; rfl, _, by first | rfl | rw [World.drewN_drewN]⟩
            · have k1 : ((x.kind : Int) != (y.kind : Int)) = true := by simp; omega
              have HR := hide (HNO.out (Bool.eq_false_iff.2 fun e => hk (rmEq_3.1 e).1))
              clear hk HNO HYES HA
              go_upto_region 6 with fail
              go_quiet (fail)
              go_wp2_with fail
              go_ret
              exact ⟨by rw [HR.out]; rfl, _, by first | rfl | rw [World.drewN_drewN]⟩
          · have hlt1 : ¬ (j : Int) < (R.m.length : Int) := by omega
            have HB := hide (eqL_all (q := rmEq) HL.out fun i h1 h2 => HA.out i h1 h2 (by omega))
            go_wp2_with fail
            go_ret
            exact ⟨by rw [HB.out]; rfl, _, rfl⟩
  · have hne : ((R.m.length : Int) != (R2.m.length : Int)) = true := by simp; omega
    have HB := hide (eqL_len (q := rmEq) hL)
    clear hL C1 C2
    go_enter Try.func8, Try.ntmps8
    go_upto_region 1 with fail
    go_quiet (fail)
    go_wp2_with fail
    go_ret
    exact ⟨by rw [HB.out, Bool.and_false]; rfl, _, rfl⟩

/-- What both tell of two, whatever has come since. -/
theorem Nx.sames {w0 w1 wx : World} {Z Z2 : Nat → Prop} {g q D k g2 q2 D2 k2 : Nat} (h : Nx w0 Z g q D k wx) (h2 : Nx w1 Z2 g2 q2 D2 k2 wx) (hk : k ≤ 1000) (hk2 : k2 ≤ 1000) :
    ∃ b : Bool, (∀ wy, wx.grownBy wy none → Calls Try.prog 7 #[.pointer (some ⟨g, 0, none⟩), .pointer (some ⟨g2, 0, none⟩)] wy fun e w' => e = .returned (.bool b) ∧ wy.grownBy w' none) ∧
      (∀ wy, wx.grownBy wy none → Calls Try.prog 7 #[.pointer (some ⟨g2, 0, none⟩), .pointer (some ⟨g, 0, none⟩)] wy fun e w' => e = .returned (.bool b) ∧ wy.grownBy w' none) ∧
      (∀ wy, wx.grownBy wy none → Calls Try.prog 7 #[.pointer (some ⟨g, 0, none⟩), .pointer (some ⟨g, 0, none⟩)] wy fun e w' => e = .returned (.bool true) ∧ wy.grownBy w' none) ∧
      (∀ wy, wx.grownBy wy none → Calls Try.prog 8 #[.pointer (some ⟨q, 0, none⟩), .pointer (some ⟨q2, 0, none⟩)] wy fun e w' => e = .returned (.bool b) ∧ wy.grownBy w' none) := by
  obtain ⟨S, R, hb, hs⟩ := h
  obtain ⟨S2, R2, hb2, hs2⟩ := h2
  have hsafe := hs.inS
  have hsafe2 := hs2.inS
  have hS : ∀ x ∈ S.safe, (S.files (x.2 : Int)).isSome := fun x hx => by
    obtain ⟨e, he, rfl⟩ := List.mem_map.1 (hs.safe.perm.mem_iff.1 hx)
    exact hs.inS e he
  have hS2 : ∀ x ∈ S2.safe, (S2.files (x.2 : Int)).isSome := fun x hx => by
    obtain ⟨e, he, rfl⟩ := List.mem_map.1 (hs2.safe.perm.mem_iff.1 hx)
    exact hs2.inS e he
  obtain ⟨L, O, f1, f2, _⟩ := hb
  obtain ⟨L2, O2, k1, k2', _⟩ := hb2
  refine ⟨sameR R R2, fun wy hy => ?_, fun wy hy => ?_, fun wy hy => ?_, fun wy hy => ?_⟩
  · rw [← eqS_same hs hs2]
    exact same_any g g2 S S2 L L2 wy (f1.grown hy) (k1.grown hy) hs.hN hs2.hN hS hS2
  · rw [sameR_flip hs hs2, ← eqS_same hs2 hs]
    exact same_any g2 g S2 S L2 L wy (k1.grown hy) (f1.grown hy) hs2.hN hs.hN hS2 hS
  · rw [← eqS_self hs]
    exact same_any g g S S L L wy (f1.grown hy) (f1.grown hy) hs.hN hs.hN hS hS
  · obtain ⟨bs, vs, vF, vD, vS, vM, r1, _⟩ := f2.gb hy
    obtain ⟨bs2, vs2, wF, wD, wS, wM, r2, _⟩ := k2'.gb hy
    have n1 := hs.fl
    have n2 := hs2.fl
    exact (rSame_any q q2 R R2 bs bs2 vs vs2 vF vD vS vM wF wD wS wM wy r1 r2 (fun x hx => hs.num (hs.inD x hx)) (fun x hx => hs.num (hs.inS x hx)) (fun x hx => hs2.num (hs2.inD x hx)) (fun x hx => hs2.num (hs2.inS x hx)) (by omega) (by omega)).mono
      fun e w' hx => ⟨hx.1, by obtain ⟨_, qq, rfl⟩ := hx; exact gb_drewN (gb_refl wy none) qq⟩
end Go.Proofs.Ytccapgcpdehicaa

namespace Go.Proofs.Ytccapgcpdehicaa
open Go.RowKit
attribute [local go_sem ↓] Go.wp_at_zero Go.wp_at_succ

theorem Pl.In.up {w w' : World} {A : Option Addr} {l : List AcV} (h : Pl.In w A l) (hg : w.grownBy w' none) : Pl.In w' A l :=
  ⟨(h.rd.grown hg (Nat.le_refl _) (by simp)).more hg.size, fun x hx => ((h.data x hx).grown hg (Nat.le_refl _) (by simp)).more hg.size, h.small, h.len, fun x hx => by
    obtain ⟨tl, h1, h2⟩ := h.torn x hx
    exact ⟨tl, h1, (h2.grown hg (Nat.le_refl _) (by simp)).more hg.size⟩, h.rng⟩
theorem LongPost.of {l : List AcV} {b : Bool} (hb : longB l = b) (w : World) : LongPost l w = fun e w' => e = .returned (.bool b) ∧ w.grownBy w' none := by unfold LongPost; rw [hb]

set_option maxHeartbeats 8000000 in
set_option maxRecDepth 100000 in
theorem lawSame_off (C : Int) (A A2 : Option Addr) (c c2 : Nat) (l m : List AcV) (w : World) (h : Pl.In w A l) (h2 : Pl.In w A2 m) (hC : longB l = true ∨ longB m = true) :
    Calls Try.prog 3 #[.int .i64 C, .slice A l.length c, .slice A2 m.length c2] w fun e w' => e = .returned (.bool true) ∧ w.grownBy w' none := by
  have LG := hide (long_any A c w.heap.size l w h.rd h.small h.len)
  have LH := hide (fun (w1 : World) (hg : w.grownBy w1 none) => long_any A2 c2 w1.heap.size m w1 (h2.up hg).rd h2.small h2.len)
  have LV := hide live_any
  clear h h2
  cases hl : longB l
  · have hm : longB m = true := hC.resolve_left (by rw [hl]; decide)
    rw [LongPost.of hl] at LG
    have LH : Hid (∀ (w1 : World), w.grownBy w1 none → Calls Try.prog 4 #[.slice A2 m.length c2] w1 fun e w' => e = .returned (.bool true) ∧ w1.grownBy w' none) := hide fun w1 hg => by have := LH.out w1 hg; rwa [LongPost.of hm] at this
    clear hl hC hm
    go_enter Try.func3, Try.ntmps3
    go_wp2_with (first
      | (go_at_call 4; refine (LH.out _ HG1.out).mono ?_; rintro e w3 ⟨rfl, hg⟩; have HG3 := hide hg; clear hg)
      | (go_at_call 4; (have _t := LG); refine LG.out.mono ?_; rintro e w1 ⟨rfl, hg⟩; have HG1 := hide hg; clear hg)
      | (go_at_call 5; refine (LV.out _).mono ?_; rintro e w2 ⟨rfl, hg⟩; have HG2 := hide hg; clear hg))
    go_ret
    exact ⟨rfl, gb_trans HG1.out (gb_trans HG3.out HG2.out (.inl rfl)) (.inl rfl)⟩
  · rw [LongPost.of hl] at LG
    clear hl hC LH
    go_enter Try.func3, Try.ntmps3
    go_wp2_with (first
      | (go_at_call 4; refine LG.out.mono ?_; rintro e w1 ⟨rfl, hg⟩; have HG1 := hide hg; clear hg)
      | (go_at_call 5; refine (LV.out _).mono ?_; rintro e w2 ⟨rfl, hg⟩; have HG2 := hide hg; clear hg))
    go_ret
    exact ⟨rfl, gb_trans HG1.out HG2.out (.inl rfl)⟩

set_option maxHeartbeats 8000000 in
set_option maxRecDepth 100000 in
theorem lawSame_none (C : Int) (A A2 : Option Addr) (c c2 : Nat) (l m : List AcV) (w : World) (h : Pl.In w A l) (h2 : Pl.In w A2 m) (hl : longB l = false) (hm : longB m = false) (hC : C < 0 ∨ 67108864 < C) :
    Calls Try.prog 3 #[.int .i64 C, .slice A l.length c, .slice A2 m.length c2] w fun e w' => e = .returned (.bool true) ∧ w.grownBy w' none := by
  have LG := hide (long_any A c w.heap.size l w h.rd h.small h.len)
  have LH : Hid (∀ (w1 : World), w.grownBy w1 none → Calls Try.prog 4 #[.slice A2 m.length c2] w1 fun e w' => e = .returned (.bool false) ∧ w1.grownBy w' none) := hide fun w1 hg => by have := long_any A2 c2 w1.heap.size m w1 (h2.up hg).rd h2.small h2.len; rwa [LongPost.of hm] at this
  rw [LongPost.of hl] at LG
  have LV := hide live_any
  have QA := hide fun w2 => played_none C A c l.length w2 hC
  have QB := hide fun w2 => played_none C A2 c2 m.length w2 hC
  clear h h2 hl hm
  by_cases hc : C < 0
  · have hc1 : ((C : Int) < 0) = True := by simp [hc]
    go_enter Try.func3, Try.ntmps3
    go_wp2_with (first
      | (go_at_call 4; refine (LH.out _ HG1.out).mono ?_; rintro e w3 ⟨rfl, hg⟩; have HG3 := hide (gb_trans HG1.out hg (.inl rfl)); clear hg)
      | (go_at_call 4; refine LG.out.mono ?_; rintro e w1 ⟨rfl, hg⟩; have HG1 := hide hg; clear hg)
      | (go_at_call 6; (have _t := HG4); refine (QB.out _).mono ?_; rintro e w5 ⟨rfl, hg⟩; have HG5 := hide (gb_trans HG4.out hg (.inl rfl)); clear hg)
      | (go_at_call 6; refine (QA.out _).mono ?_; rintro e w4 ⟨rfl, hg⟩; have HG4 := hide (gb_trans HG3.out hg (.inl rfl)); clear hg)
      | (go_at_call 5; refine (LV.out _).mono ?_; rintro e w2 ⟨rfl, hg⟩; have HG2 := hide hg; clear hg))
    go_ret
    exact ⟨rfl, gb_trans HG5.out HG2.out (.inl rfl)⟩
  · have hc1 : 67108864 < C := hC.resolve_left hc
    go_enter Try.func3, Try.ntmps3
    go_wp2_with (first
      | (go_at_call 4; refine (LH.out _ HG1.out).mono ?_; rintro e w3 ⟨rfl, hg⟩; have HG3 := hide (gb_trans HG1.out hg (.inl rfl)); clear hg)
      | (go_at_call 4; refine LG.out.mono ?_; rintro e w1 ⟨rfl, hg⟩; have HG1 := hide hg; clear hg)
      | (go_at_call 6; (have _t := HG4); refine (QB.out _).mono ?_; rintro e w5 ⟨rfl, hg⟩; have HG5 := hide (gb_trans HG4.out hg (.inl rfl)); clear hg)
      | (go_at_call 6; refine (QA.out _).mono ?_; rintro e w4 ⟨rfl, hg⟩; have HG4 := hide (gb_trans HG3.out hg (.inl rfl)); clear hg)
      | (go_at_call 5; refine (LV.out _).mono ?_; rintro e w2 ⟨rfl, hg⟩; have HG2 := hide hg; clear hg))
    go_ret
    exact ⟨rfl, gb_trans HG5.out HG2.out (.inl rfl)⟩

set_option maxHeartbeats 8000000 in
set_option maxRecDepth 100000 in
theorem lawSame_main (C : Int) (A A2 : Option Addr) (c c2 : Nat) (l m : List AcV) (w : World) (h : Pl.In w A l) (h2 : Pl.In w A2 m) (hl : longB l = false) (hm : longB m = false) (h0 : ¬ C < 0) (h1 : ¬ 67108864 < C) :
    Calls Try.prog 3 #[.int .i64 C, .slice A l.length c, .slice A2 m.length c2] w fun e w' => e = .returned (.bool true) ∧ w.grownBy w' none := by
  have LG := hide (long_any A c w.heap.size l w h.rd h.small h.len)
  have LH : Hid (∀ (w1 : World), w.grownBy w1 none → Calls Try.prog 4 #[.slice A2 m.length c2] w1 fun e w' => e = .returned (.bool false) ∧ w1.grownBy w' none) := hide fun w1 hg => by have := long_any A2 c2 w1.heap.size m w1 (h2.up hg).rd h2.small h2.len; rwa [LongPost.of hm] at this
  rw [LongPost.of hl] at LG
  have LV : Hid (∀ wx, Calls Try.prog 5 #[] wx fun e w' => e = .returned (.bool true) ∧ wx.grownBy w' none) := hide live_any
  have QA : Hid (∀ wx, w.grownBy wx none → Calls Try.prog 6 #[.int .i64 C, .slice A l.length c] wx fun e w' => ∃ g q, e = .returned (.tuple #[.pointer (some ⟨g, 0, none⟩), .pointer (some ⟨q, 0, none⟩)]) ∧ Nx w (fun i => i < w.heap.size) g q 20000 60 w') := hide fun wx hx => played_any C A c l w wx h hx hl h0 h1
  have QB : Hid (∀ wx, w.grownBy wx none → Calls Try.prog 6 #[.int .i64 C, .slice A2 m.length c2] wx fun e w' => ∃ g q, e = .returned (.tuple #[.pointer (some ⟨g, 0, none⟩), .pointer (some ⟨q, 0, none⟩)]) ∧ Nx wx (fun i => i < wx.heap.size) g q 20000 60 w') := hide fun wx hx => played_any C A2 c2 m wx wx (h2.up hx) (gb_refl wx none) hm h0 h1
  clear h h2 hl hm h0 h1
  go_enter Try.func3, Try.ntmps3
  go_upto_region 7 with (first
    | (go_at_call 4; refine (LH.out _ HG1.out).mono ?_; rintro e w3 ⟨rfl, hg⟩; have HG3 := hide (gb_trans HG1.out hg (.inl rfl)); clear hg)
    | (go_at_call 4; refine LG.out.mono ?_; rintro e w1 ⟨rfl, hg⟩; have HG1 := hide hg; clear hg)
    | (go_at_call 6; refine (QB.out _ HN.out.grown').mono ?_; rintro e w2 ⟨g2, q2, rfl, hn⟩; have HN2 := hide hn; clear hn)
    | (go_at_call 6; refine (QA.out _ HG3.out).mono ?_; rintro e w4 ⟨g, q, rfl, hn⟩; have HN := hide hn; clear hn))
  obtain ⟨b, sA, sB, sS, sR⟩ := (HN.out.keep' HN2.out.grown').sames HN2.out (by omega) (by omega)
  have HGZ := hide (gb_trans HN.out.grown' HN2.out.grown' (.inl rfl))
  have SA := hide sA
  have SB := hide sB
  have SS := hide sS
  have SR := hide sR
  clear sA sB sS sR LG LH QA QB HN HN2 HG1 HG3
  have HGo := hide (gb_refl w2 none)
  go_wp2_with (first
    | (go_at_call 7; (have _t := HGd); refine (SS.out _ HGd.out).mono ?_; rintro e we ⟨rfl, hg⟩; have HGe := hide (gb_trans HGd.out hg (.inl rfl)); clear hg)
    | (go_at_call 7; (have _t := HGb); refine (SB.out _ HGb.out).mono ?_; rintro e wc ⟨rfl, hg⟩; have HGc := hide (gb_trans HGb.out hg (.inl rfl)); clear hg)
    | (go_at_call 7; refine (SA.out _ HGo.out).mono ?_; rintro e wa ⟨rfl, hg⟩; have HGa := hide (gb_trans HGo.out hg (.inl rfl)); clear hg)
    | (go_at_call 8; (have _t := HGc); refine (SR.out _ HGc.out).mono ?_; rintro e wd ⟨rfl, hg⟩; have HGd := hide (gb_trans HGc.out hg (.inl rfl)); clear hg)
    | (go_at_call 8; (have _t := HGa); refine (SR.out _ HGa.out).mono ?_; rintro e wb ⟨rfl, hg⟩; have HGb := hide (gb_trans HGa.out hg (.inl rfl)); clear hg)
    | (go_at_call 5; refine (LV.out _).mono ?_; rintro e wf ⟨rfl, hg⟩; have HGf := hide (gb_trans HGe.out hg (.inl rfl)); clear hg))
  go_ret
  exact ⟨rfl, gb_trans HGZ.out HGf.out (.inl rfl)⟩
end Go.Proofs.Ytccapgcpdehicaa
