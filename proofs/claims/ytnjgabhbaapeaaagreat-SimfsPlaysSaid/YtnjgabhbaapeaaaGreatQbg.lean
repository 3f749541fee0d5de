/-
  The law Plays: its walk.
-/
import Derived.Test.YtnjgabhbaapeaaaGreatQbf
import Derived.Test.YtnjgabhbaapeaaaGreatQbb

namespace Go.Proofs.YtnjgabhbaapeaaaGreat
open Go.RowKit

/-- What is handed in. -/
structure Pl.In (w : World) (A : Option Addr) (l : List AcV) : Prop where
  rd : Rd w w.heap.size A (acells l)
  data : ∀ x ∈ l, Rd w w.heap.size x.dA (u8s x.d)
  small : ∀ x ∈ l, x.Small
  len : l.length ≤ 9223372036854775807
  torn : ∀ x ∈ l, ∃ tl : List Tn, tl.length = x.tn ∧ Rd w w.heap.size x.tA (tcells tl)
  rng : ∀ x ∈ l, x.n ≤ 9223372036854775807

theorem wsum_take (l : List AcV) (j : Nat) : wsum (l.take j) ≤ wsum l := by
  have h := List.take_append_drop j l
  have e : wsum l = wsum (l.take j) + wsum (l.drop j) := by
    unfold wsum
    conv => lhs; rw [← h]
    rw [List.map_append, List.sum_append]
  omega
theorem wrap_j {j : Nat} (h : j ≤ 800) : wrap64 ((j : Int) + 1) = ((j + 1 : Nat) : Int) := by unfold wrap64; omega
theorem Nx.mono {w0 wx : World} {Z : Nat → Prop} {g q D D' k : Nat} (h : Nx w0 Z g q D k wx) (hD : D ≤ D') : Nx w0 Z g q D' k wx := by
  obtain ⟨S, R, h1, h2⟩ := h
  exact ⟨S, R, h1, h2.mono hD (Nat.le_refl _)⟩
theorem Nx.keep' {w0 wx wy : World} {Z : Nat → Prop} {g q D k : Nat} (h : Nx w0 Z g q D k wx) (hg : wx.grownBy wy none) : Nx w0 Z g q D k wy := by
  obtain ⟨S, R, h1, h2⟩ := h
  exact ⟨S, R, h1.keep hg, h2⟩
theorem Nx.grown' {w0 wx : World} {g q D k : Nat} (h : Nx w0 (fun i => i < w0.heap.size) g q D k wx) : w0.grownBy wx none := by
  obtain ⟨S, R, h1, h2⟩ := h
  have t := h1.turned
  exact ⟨t.os, t.tape, t.output, t.size, fun i hi _ => t.block i hi (fun k => k hi)⟩
theorem Nx.act {w0 wx : World} {Z : Nat → Prop} {g q B D k : Nat} (x : AcV) (tl : List Tn) (h : Nx w0 Z g q D k wx) (hD : D + x.d.length ≤ 20000) (hk : k ≤ 800)
    (hr : Rd w0 B x.dA (u8s x.d)) (hB : B ≤ w0.heap.size) (hZ : ∀ i, i < B → Z i) (htl : tl.length = x.tn) (htr : Rd w0 B x.tA (tcells tl)) (htb : x.tn ≤ 20000) (hn : x.n ≤ 9223372036854775807) :
    Calls Tryz.prog 10 #[.pointer (some ⟨g, 0, none⟩), .pointer (some ⟨q, 0, none⟩), .agg #[.int .i64 x.kind, .string x.a, .string x.b, .int .i64 x.file, .int .i64 x.pos, .int .i64 x.n, .slice x.dA x.d.length x.dc, .int .i64 x.dir, .slice x.tA x.tn x.tc]] wx fun e w' => ∃ g', e = .returned (.tuple #[.pointer (some ⟨g', 0, none⟩), .bool true]) ∧ Nx w0 Z g' q (D + x.d.length) (k + 1) w' := by
  obtain ⟨S, R, h1, h2⟩ := h
  exact act_any x tl wx h1 h2 hD hk hr hB hZ htl htr htb hn
theorem Nx.tells {w0 wx : World} {Z : Nat → Prop} {g q D k : Nat} (h : Nx w0 Z g q D k wx) (hD : D ≤ 20000) (hk : k ≤ 1000) :
    Calls Tryz.prog 11 #[.pointer (some ⟨g, 0, none⟩), .pointer (some ⟨q, 0, none⟩)] wx fun e w' => e = .returned (.bool true) ∧ Nx w0 Z g q D k w' := by
  have h' := h
  obtain ⟨S, R, h1, h2⟩ := h
  exact (tells_any wx h1 h2 hD hk).mono fun e w' hx => ⟨hx.1, h'.keep' hx.2⟩
/-- Both made anew. -/
theorem Nx.new {w w1 w2 : World} {C : Int} {g : Nat} {L : Nat → Nat} (h0 : ¬ C < 0) (h1 : ¬ 67108864 < C) (hw : w.grownBy w1 none) (hL : FsAt w1 L g (St.new C)) (hl : ∀ i, L i ≠ 0 → w.heap.size ≤ i) (hg : w1.grownBy w2 none)
    (hR : RAt w2 w1.heap.size (newRS C) [] [] (.slice none 0 0) (.slice none 0 0) (.slice none 0 0) (.slice none 0 0)) : Nx w (fun i => i < w.heap.size) g w1.heap.size 0 0 w2 := by
  have hsz := hw.size
  refine ⟨St.new C, newRS C, ⟨L, fun i => i = w1.heap.size, hL.grown hg, ⟨[], [], _, _, _, _, hR, fun i hi => ?_⟩, Turned.of_gb (gb_trans hw hg (.inl rfl)) (by simp), fun i hi => ?_, fun i hi => ⟨Classical.byContradiction fun hc => ?_, hi⟩⟩, Sim.new h0 h1⟩
  · have hb := blk_lt hR.box
    simp [ROwn, Value.ownBlock] at hi
    exact ⟨hi, by omega⟩
  · subst hi
    refine ⟨Classical.byContradiction fun hc => ?_, blk_lt hR.box, by omega⟩
    have := hL.lts hc
    omega
  · have := hl i hc
    omega

set_option maxHeartbeats 8000000 in
set_option maxRecDepth 100000 in
theorem lawPlays_off (C : Int) (A : Option Addr) (c : Nat) (l : List AcV) (w : World) (h : Pl.In w A l) (hC : longB l = true) :
    Calls Tryz.prog 3 #[.int .i64 C, .slice A l.length c] w fun e w' => e = .returned (.bool true) ∧ w.grownBy w' none := by
  have LG := hide (long_any A c w.heap.size l w h.rd h.small h.len)
  have LV := hide live_any
  rw [show LongPost l w = fun e w' => e = .returned (.bool true) ∧ w.grownBy w' none from by unfold LongPost; rw [hC]] at LG
  clear hC h
  go_enter Tryz.func3, Tryz.ntmps3
  go_wp2_with (first
    | (go_at_call 5; refine LG.out.mono ?_; rintro e w1 ⟨rfl, hg⟩; have HG1 := hide hg; clear hg)
    | (go_at_call 6; refine (LV.out _).mono ?_; rintro e w2 ⟨rfl, hg⟩; have HG2 := hide hg; clear hg))
  go_ret
  exact ⟨rfl, gb_trans HG1.out HG2.out (.inl rfl)⟩

set_option maxHeartbeats 8000000 in
set_option maxRecDepth 100000 in
theorem lawPlays_none (C : Int) (A : Option Addr) (c : Nat) (l : List AcV) (w : World) (h : Pl.In w A l) (hl : longB l = false) (hC : C < 0 ∨ 67108864 < C) :
    Calls Tryz.prog 3 #[.int .i64 C, .slice A l.length c] w fun e w' => e = .returned (.bool true) ∧ w.grownBy w' none := by
  have LG := hide (long_any A c w.heap.size l w h.rd h.small h.len)
  have LV := hide live_any
  have HC := hide hC
  rw [show LongPost l w = fun e w' => e = .returned (.bool false) ∧ w.grownBy w' none from by unfold LongPost; rw [hl]] at LG
  clear hl h hC
  go_enter Tryz.func3, Tryz.ntmps3
  go_wp2_with (first
    | (go_at_call 5; refine LG.out.mono ?_; rintro e w1 ⟨rfl, hg⟩; have HG1 := hide hg; clear hg)
    | (go_at_call 7; refine (new_bad C _ HC.out).mono ?_; rintro e wq ⟨rfl, rfl⟩)
    | (go_at_call 8; refine (rNew_bad C _ HC.out).mono ?_; rintro e wq ⟨rfl, rfl⟩)
    | (go_at_call 9; refine (num_any _ _).mono ?_; rintro e wq ⟨rfl, rfl⟩)
    | (go_at_call 6; refine (LV.out _).mono ?_; rintro e w2 ⟨rfl, hg⟩; have HG2 := hide hg; clear hg))
  go_loopw [5, 9] (fun p i wr => p = .pointer none ∧ i = .int .i64 0 ∧ w2.grownBy wr none) (fun _ _ _ => 0)
  case atStart => exact ⟨rfl, rfl, gb_refl _ _⟩
  case round =>
    obtain ⟨rfl, rfl, hr⟩ := hrel
    have HR := hide hr
    clear hr
    go_wp2_with fail
    go_ret
    exact ⟨rfl, gb_trans HG1.out (gb_trans HG2.out HR.out (.inl rfl)) (.inl rfl)⟩

set_option maxHeartbeats 8000000 in
set_option maxRecDepth 100000 in
theorem lawPlays_main (C : Int) (A : Option Addr) (c : Nat) (l : List AcV) (w : World) (h : Pl.In w A l) (hl : longB l = false) (h0 : ¬ C < 0) (h1 : ¬ 67108864 < C) :
    Calls Tryz.prog 3 #[.int .i64 C, .slice A l.length c] w fun e w' => e = .returned (.bool true) ∧ w.grownBy w' none := by
  have LG := hide (long_any A c w.heap.size l w h.rd h.small h.len)
  have LV := hide live_any
  have HWS : Hid (l.length ≤ 60 ∧ wsum l ≤ 20000) := hide (by
    unfold longB at hl
    simp only [Bool.or_eq_false_iff, decide_eq_false_iff_not] at hl
    exact ⟨by omega, by omega⟩)
  have H := hide h
  have H00 : Hid (0 ≤ C) := hide (by omega)
  have H11 : Hid (C ≤ 67108864) := hide (by omega)
  rw [show LongPost l w = fun e w' => e = .returned (.bool false) ∧ w.grownBy w' none from by unfold LongPost; rw [hl]] at LG
  clear hl h h0 h1
  go_enter Tryz.func3, Tryz.ntmps3
  go_wp2_with (first
    | (go_at_call 5; refine LG.out.mono ?_; rintro e w1 ⟨rfl, hg⟩; have HG1 := hide hg; clear hg)
    | (go_at_call 7; refine (new_ok C _ H00.out H11.out).mono ?_; rintro e w2 ⟨g, L, rfl, hL, hg, hl⟩; have HFS := hide hL; have HG2 := hide hg; have HLL := hide hl; clear hL hg hl)
    | (go_at_call 8; refine (rNew_ok C _ (Int.not_lt.2 H00.out) (Int.not_lt.2 H11.out)).mono ?_; rintro e w3 ⟨rfl, hg, hR⟩; have HN3 := hide (Nx.new (Int.not_lt.2 H00.out) (Int.not_lt.2 H11.out) (gb_trans HG1.out HG2.out (.inl rfl)) HFS.out (fun i hi => Nat.le_trans HG1.out.size (HLL.out i hi)) hg hR); clear hg hR)
    | (go_at_call 9; refine (num_any _ _).mono ?_; rintro e wq ⟨rfl, rfl⟩)
    | (go_at_call 6; refine (LV.out _).mono ?_; rintro e w4 ⟨rfl, hg⟩; have HN4 := hide (HN3.out.keep' hg); clear hg))
  generalize w2.heap.size = q at *
  clear HFS HG2 HLL HN3 HG1
  go_loopw [5, 9] (fun p i wr => ∃ (g j : Nat), p = .pointer (some ⟨g, 0, none⟩) ∧ i = .int .i64 (j : Int) ∧ j ≤ l.length ∧ Nx w (fun i => i < w.heap.size) g q (wsum (l.take j)) j wr) (fun _ i _ => l.length - (intOf i).toNat)
  case atStart => exact ⟨g, 0, rfl, rfl, Nat.zero_le _, HN4.out⟩
  case round =>
    obtain ⟨g2, j, rfl, rfl, hj, hn⟩ := hrel
    have HN := hide hn
    clear hn
    by_cases hlt : j < l.length
    · have hlt1 : (j : Int) < (l.length : Int) := by omega
      have HJ := hide (show j ≤ 800 by have := HWS.out.1; omega)
      have HJ1 := hide (show j + 1 ≤ 1000 by have := HWS.out.1; omega)
      obtain ⟨b, o, rfl, hbB, hac⟩ := H.out.rd.act hlt
      have HRX := hide (H.out.data _ (List.getElem_mem hlt))
      have HRN := hide (H.out.rng _ (List.getElem_mem hlt))
      obtain ⟨tl, htl, htr⟩ := H.out.torn _ (List.getElem_mem hlt)
      have HTL := hide htl
      have HTR := hide htr
      clear htl htr
      have hst := wsum_step l j hlt
      have hws := wsum_take l (j + 1)
      have HDX := hide (show wsum (l.take j) + l[j].d.length ≤ 20000 by have := HWS.out.2; omega)
      have HD2 := hide (show wsum (l.take (j + 1)) ≤ 20000 by have := HWS.out.2; omega)
      have HDM := hide (show wsum (l.take j) + l[j].d.length ≤ wsum (l.take (j + 1)) by omega)
      have HTB := hide (show l[j].tn ≤ 20000 by have := HWS.out.2; omega)
      clear hst hws
      have hac := hac.grown HN.out.grown'
      generalize wsum (l.take j) = D at *
      generalize hE2 : wsum (l.take (j + 1)) = D2 at *
      have HE2 := hide hE2.symm
      clear hE2
      generalize l[j] = x at *
      obtain ⟨a0, a1, a2, a3, a4, a5, a6, a7, a8⟩ := hac
      go_wp2_with (first
        | (go_at_call 10; refine (HN.out.act x tl HDX.out HJ.out HRX.out (Nat.le_refl _) (fun _ h => h) HTL.out HTR.out HTB.out HRN.out).mono ?_; rintro e w5 ⟨g3, rfl, hn⟩; have HN5 := hide (hn.mono HDM.out); clear hn)
        | (go_at_call 11; refine (HN5.out.tells HD2.out HJ1.out).mono ?_; rintro e w6 ⟨rfl, hn⟩; have HN6 := hide hn; clear hn))
      have hj800 : j ≤ 800 := HJ.out
      go_roundw
      case rel => exact ⟨g3, j + 1, rfl, congrArg (Value.int .i64) (wrap_j HJ.out), by omega, HE2.out ▸ HN6.out⟩
      case measure =>
        rw [wrap_j HJ.out]
        show l.length - ((j + 1 : Nat) : Int).toNat < l.length - ((j : Nat) : Int).toNat
        rw [Int.toNat_natCast, Int.toNat_natCast]
        omega
    · have hlt1 : ¬ (j : Int) < (l.length : Int) := by omega
      go_wp2_with fail
      go_ret
      exact ⟨rfl, HN.out.grown'⟩
end Go.Proofs.YtnjgabhbaapeaaaGreat
