/-
  The law Beginning: what behind a crash is left.
-/
import Derived.Test.YtccapgcpdehicaaGreatQbd
import Derived.Test.YtccapgcpdehicaaGreatQaz
import Derived.Test.YtccapgcpdehicaaGreatQbc

namespace Go.Proofs.YtccapgcpdehicaaGreat
open Go.RowKit

/-- What is handed in. -/
structure Pl.In (w : World) (A : Option Addr) (l : List AcV) : Prop where
  rd : Rd w w.heap.size A (acells l)
  data : ∀ x ∈ l, Rd w w.heap.size x.dA (u8s x.d)
  small : ∀ x ∈ l, x.Small
  len : l.length ≤ 9223372036854775807
  torn : ∀ x ∈ l, ∃ tl : List Tn, tl.length = x.tn ∧ Rd w w.heap.size x.tA (tcells tl)
  rng : ∀ x ∈ l, x.n ≤ 9223372036854775807

theorem wsum_take (l : List AcV) (j : Nat) : wsum (l.take j) ≤ wsum l := by
  have h := List.take_append_drop j l
  have e : wsum l = wsum (l.take j) + wsum (l.drop j) := by
    unfold wsum
    conv => lhs; rw [← h]
    rw [List.map_append, List.sum_append]
  omega
theorem wrap_j {j : Nat} (h : j ≤ 800) : wrap64 ((j : Int) + 1) = ((j + 1 : Nat) : Int) := by unfold wrap64; omega
theorem Nx.mono {w0 wx : World} {Z : Nat → Prop} {g q D D' k : Nat} (h : Nx w0 Z g q D k wx) (hD : D ≤ D') : Nx w0 Z g q D' k wx := by
  obtain ⟨S, R, h1, h2⟩ := h
  exact ⟨S, R, h1, h2.mono hD (Nat.le_refl _)⟩
theorem Nx.more {w0 wx : World} {Z : Nat → Prop} {g q D k : Nat} (h : Nx w0 Z g q D k wx) : Nx w0 Z g q D (k + 1) wx := by
  obtain ⟨S, R, h1, h2⟩ := h
  exact ⟨S, R, h1, h2.mono (Nat.le_refl _) (Nat.le_succ _)⟩
theorem Nx.grown' {w0 wx : World} {g q D k : Nat} (h : Nx w0 (fun i => i < w0.heap.size) g q D k wx) : w0.grownBy wx none := by
  obtain ⟨S, R, h1, h2⟩ := h
  have t := h1.turned
  exact ⟨t.os, t.tape, t.output, t.size, fun i hi _ => t.block i hi (fun k => k hi)⟩
theorem Nx.act {w0 wx : World} {Z : Nat → Prop} {g q B D k : Nat} (x : AcV) (tl : List Tn) (h : Nx w0 Z g q D k wx) (hD : D + x.d.length ≤ 20000) (hk : k ≤ 800)
    (hr : Rd w0 B x.dA (u8s x.d)) (hB : B ≤ w0.heap.size) (hZ : ∀ i, i < B → Z i) (htl : tl.length = x.tn) (htr : Rd w0 B x.tA (tcells tl)) (htb : x.tn ≤ 20000) (hn : x.n ≤ 9223372036854775807) :
    Calls Tryz.prog 27 #[.pointer (some ⟨g, 0, none⟩), .pointer (some ⟨q, 0, none⟩), .agg #[.int .i64 x.kind, .string x.a, .string x.b, .int .i64 x.file, .int .i64 x.pos, .int .i64 x.n, .slice x.dA x.d.length x.dc, .int .i64 x.dir, .slice x.tA x.tn x.tc]] wx fun e w' => ∃ g', e = .returned (.tuple #[.pointer (some ⟨g', 0, none⟩), .bool true]) ∧ (x.kind ≠ 14 → g' = g) ∧ Nx w0 Z g' q (D + x.d.length) (k + 1) w' := by
  obtain ⟨S, R, h1, h2⟩ := h
  exact act_any x tl wx h1 h2 hD hk hr hB hZ htl htr htb hn
/-- Both made anew. -/
theorem Nx.new {w w1 w2 : World} {C : Int} {g : Nat} {L : Nat → Nat} (h0 : ¬ C < 0) (h1 : ¬ 67108864 < C) (hw : w.grownBy w1 none) (hL : FsAt w1 L g (St.new C)) (hl : ∀ i, L i ≠ 0 → w.heap.size ≤ i) (hg : w1.grownBy w2 none)
    (hR : RAt w2 w1.heap.size (newRS C) [] [] (.slice none 0 0) (.slice none 0 0) (.slice none 0 0) (.slice none 0 0)) : Nx w (fun i => i < w.heap.size) g w1.heap.size 0 0 w2 := by
  have hsz := hw.size
  refine ⟨St.new C, newRS C, ⟨L, fun i => i = w1.heap.size, hL.grown hg, ⟨[], [], _, _, _, _, hR, fun i hi => ?_⟩, Turned.of_gb (gb_trans hw hg (.inl rfl)) (by simp), fun i hi => ?_, fun i hi => ⟨Classical.byContradiction fun hc => ?_, hi⟩⟩, Sim.new h0 h1⟩
  · have hb := blk_lt hR.box
    simp [ROwn, Value.ownBlock] at hi
    exact ⟨hi, by omega⟩
  · subst hi
    refine ⟨Classical.byContradiction fun hc => ?_, blk_lt hR.box, by omega⟩
    have := hL.lts hc
    omega
  · have := hl i hc
    omega

end Go.Proofs.YtccapgcpdehicaaGreat

namespace Go.Proofs.YtccapgcpdehicaaGreat
open Go.RowKit

set_option maxHeartbeats 8000000 in
set_option maxRecDepth 100000 in
theorem played_none (C : Int) (A : Option Addr) (c m : Nat) (w : World) (hC : C < 0 ∨ 67108864 < C) :
    Calls Tryz.prog 6 #[.int .i64 C, .slice A m c] w fun e w' => e = .returned (.tuple #[.pointer none, .pointer none]) ∧ w.grownBy w' none := by
  have HC := hide hC
  clear hC
  go_enter Tryz.func6, Tryz.ntmps6
  go_wp2_with (first
    | (go_at_call 18; refine (new_bad C _ HC.out).mono ?_; rintro e wq ⟨rfl, rfl⟩)
    | (go_at_call 26; refine (rNew_bad C _ HC.out).mono ?_; rintro e wq ⟨rfl, rfl⟩)
    | (go_at_call 9; refine (num_any _ _).mono ?_; rintro e wq ⟨rfl, rfl⟩))
  go_ret2
  exact ⟨rfl, gb_refl w none⟩

set_option maxHeartbeats 8000000 in
set_option maxRecDepth 100000 in
theorem played_any (C : Int) (A : Option Addr) (c : Nat) (l : List AcV) (w0 w : World) (h : Pl.In w0 A l) (hgw : w0.grownBy w none) (hl : longB l = false) (h0 : ¬ C < 0) (h1 : ¬ 67108864 < C) :
    Calls Tryz.prog 6 #[.int .i64 C, .slice A l.length c] w fun e w' => ∃ g q, e = .returned (.tuple #[.pointer (some ⟨g, 0, none⟩), .pointer (some ⟨q, 0, none⟩)]) ∧ Nx w0 (fun i => i < w0.heap.size) g q 20000 60 w' := by
  have HWS : Hid (l.length ≤ 60 ∧ wsum l ≤ 20000) := hide (by
    unfold longB at hl
    simp only [Bool.or_eq_false_iff, decide_eq_false_iff_not] at hl
    exact ⟨by omega, by omega⟩)
  have H := hide h
  have HG0 := hide hgw
  have H00 : Hid (0 ≤ C) := hide (by omega)
  have H11 : Hid (C ≤ 67108864) := hide (by omega)
  clear hl h h0 h1 hgw
  go_enter Tryz.func6, Tryz.ntmps6
  go_wp2_with (first
    | (go_at_call 18; refine (new_ok C _ H00.out H11.out).mono ?_; rintro e w2 ⟨g, L, rfl, hL, hg, hl⟩; have HFS := hide hL; have HG2 := hide hg; have HLL := hide hl; clear hL hg hl)
    | (go_at_call 26; refine (rNew_ok C _ (Int.not_lt.2 H00.out) (Int.not_lt.2 H11.out)).mono ?_; rintro e w3 ⟨rfl, hg, hR⟩; have HN3 := hide (Nx.new (Int.not_lt.2 H00.out) (Int.not_lt.2 H11.out) (gb_trans HG0.out HG2.out (.inl rfl)) HFS.out (fun i hi => Nat.le_trans HG0.out.size (HLL.out i hi)) hg hR); clear hg hR)
    | (go_at_call 9; refine (num_any _ _).mono ?_; rintro e wq ⟨rfl, rfl⟩))
  generalize w2.heap.size = q at *
  clear HFS HG2 HLL HG0
  go_loopw [10] (fun i wr => ∃ j : Nat, i = .int .i64 (j : Int) ∧ j ≤ l.length ∧ Nx w0 (fun i => i < w0.heap.size) g q (wsum (l.take j)) j wr) (fun i _ => l.length - (intOf i).toNat)
  case atStart => exact ⟨0, rfl, Nat.zero_le _, HN3.out⟩
  case round =>
    obtain ⟨j, rfl, hj, hn⟩ := hrel
    have HN := hide hn
    clear hn
    by_cases hlt : j < l.length
    · have hlt1 : (j : Int) < (l.length : Int) := by omega
      have HJ := hide (show j ≤ 800 by have := HWS.out.1; omega)
      have HJ1 := hide (show j + 1 ≤ 1000 by have := HWS.out.1; omega)
      obtain ⟨b, o, rfl, hbB, hac⟩ := H.out.rd.act hlt
      have HRX := hide (H.out.data _ (List.getElem_mem hlt))
      have HRN := hide (H.out.rng _ (List.getElem_mem hlt))
      obtain ⟨tl, htl, htr⟩ := H.out.torn _ (List.getElem_mem hlt)
      have HTL := hide htl
      have HTR := hide htr
      clear htl htr
      have hst := wsum_step l j hlt
      have hws := wsum_take l (j + 1)
      have HDX := hide (show wsum (l.take j) + l[j].d.length ≤ 20000 by have := HWS.out.2; omega)
      have HD3 := hide (show wsum (l.take j) ≤ wsum (l.take (j + 1)) by omega)
      have HDM := hide (show wsum (l.take j) + l[j].d.length ≤ wsum (l.take (j + 1)) by omega)
      have HTB := hide (show l[j].tn ≤ 20000 by have := HWS.out.2; omega)
      clear hst hws
      have hac := hac.grown HN.out.grown'
      generalize wsum (l.take j) = D at *
      generalize hE2 : wsum (l.take (j + 1)) = D2 at *
      have HE2 := hide hE2.symm
      clear hE2
      generalize l[j] = x at *
      obtain ⟨a0, a1, a2, a3, a4, a5, a6, a7, a8⟩ := hac
      by_cases k14 : x.kind = 14
      · have q14 : (x.kind == 14) = true := by rw [k14]; rfl
        clear k14
        go_wp2_with fail
        have hj800 : j ≤ 800 := HJ.out
        go_roundw
        case rel => exact ⟨j + 1, congrArg (Value.int .i64) (wrap_j HJ.out), by omega, HE2.out ▸ (HN.out.mono HD3.out).more⟩
        case measure =>
          rw [wrap_j HJ.out]
          show l.length - ((j + 1 : Nat) : Int).toNat < l.length - ((j : Nat) : Int).toNat
          rw [Int.toNat_natCast, Int.toNat_natCast]
          omega
      · have q14 : (x.kind == 14) = false := beq_eq_false_iff_ne.2 k14
        have HK14 := hide k14
        clear k14
        go_wp2_with (go_at_call 27; refine (HN.out.act x tl HDX.out HJ.out HRX.out (Nat.le_refl _) (fun _ h => h) HTL.out HTR.out HTB.out HRN.out).mono ?_; rintro e w5 ⟨g3, rfl, hgg, hn⟩; have HN5 := hide (hgg HK14.out ▸ hn.mono HDM.out); clear hn hgg)
        have hj800 : j ≤ 800 := HJ.out
        go_roundw
        case rel => exact ⟨j + 1, congrArg (Value.int .i64) (wrap_j HJ.out), by omega, HE2.out ▸ HN5.out⟩
        case measure =>
          rw [wrap_j HJ.out]
          show l.length - ((j + 1 : Nat) : Int).toNat < l.length - ((j : Nat) : Int).toNat
          rw [Int.toNat_natCast, Int.toNat_natCast]
          omega
    · have hlt1 : ¬ (j : Int) < (l.length : Int) := by omega
      go_wp2_with fail
      go_ret2
      refine ⟨g, q, rfl, ?_⟩
      obtain ⟨S, R, k1, k2⟩ := HN.out
      exact ⟨S, R, k1, k2.mono (Nat.le_trans (wsum_take l j) HWS.out.2) (by have := HWS.out.1; omega)⟩
end Go.Proofs.YtccapgcpdehicaaGreat

namespace Go.Proofs.YtccapgcpdehicaaGreat
open Go.RowKit
attribute [local go_sem ↓] Go.wp_at_zero Go.wp_at_succ

section
variable {w0 wx wy : World} {Z : Nat → Prop} {g q D k : Nat} {S : St} {R R0 : RS}
theorem Bo.pRead2 (h : Bo w0 Z g S q R0 wx) (hs : Sim D k S R) (hD : D ≤ 1000000) (hk : k ≤ 1000) (n pos most : Int) :
    Calls Tryz.prog 8 #[.pointer (some ⟨g, 0, none⟩), .int .i64 n, .int .i64 pos, .int .i64 most] wx fun e w' => ∃ A c, e = .returned (.tuple #[.slice A (readR R n pos most).1.size c, .int .i64 (readR R n pos most).2]) ∧
      BsAt w' (fun i => wx.heap.size ≤ i ∧ i < w'.heap.size) (.slice A (readR R n pos most).1.size c) (bl (readR R n pos most).1) ∧ wx.grownBy w' none := by
  obtain ⟨L, hL⟩ := h.fs
  unfold readR
  cases ho : R.off
  · cases hn : R.d.any (fun e => (e.n : Int) == n) with
    | false =>
      rw [thereR_no ho hn, if_pos (by simp)]
      refine (read_none L g S n pos most wx hL (hs.dead.trans ho) (hs.nofile hn)).mono ?_
      rintro e w' ⟨rfl, rfl⟩
      exact ⟨none, 0, rfl, .inl ⟨rfl, _, rfl⟩, gb_refl _ none⟩
    | true =>
      obtain ⟨f, q1, q2, q3, _⟩ := hs.file hn
      have e1 : f.bytes.length = (fileR R n).p.size := by rw [q2.bytes, bl_len]
      rw [thereR_yes ho hn, if_neg (by simp)]
      by_cases c : pos < 0 ∨ ((fileR R n).p.size : Int) < pos ∨ most < 0
      · rw [if_pos c]
        refine (read_arg L g S n pos most f wx hL (hs.dead.trans ho) q1 (by rw [e1]; exact c)).mono ?_
        rintro e w' ⟨rfl, rfl⟩
        exact ⟨none, 0, rfl, .inl ⟨rfl, _, rfl⟩, gb_refl _ none⟩
      · rw [if_neg c]
        have hp : ((pos.toNat : Nat) : Int) = pos := by omega
        have hr := read_ok L g S n f pos.toNat most wx hL (hs.fine hD hk) (hs.dead.trans ho) q1 (by omega) (by omega)
        rw [hp] at hr
        refine hr.mono ?_
        rintro e w' ⟨A, c, m, rfl, hm, hb, hg⟩
        have hx : (f.bytes.drop pos.toNat).take most.toNat = bl ((fileR R n).p.extract pos.toNat (pos.toNat + min most.toNat ((fileR R n).p.size - pos.toNat))) := by
          rw [bl_ext, ← q2.bytes, Nat.add_sub_cancel_left, ← e1]
          by_cases hc : most.toNat ≤ f.bytes.length - pos.toNat
          · rw [Nat.min_eq_left hc]
          · rw [Nat.min_eq_right (by omega), List.take_of_length_le (by rw [List.length_drop]; omega), List.take_of_length_le (by rw [List.length_drop]; exact Nat.le_refl _)]
        have hsz : m = ((fileR R n).p.extract pos.toNat (pos.toNat + min most.toNat ((fileR R n).p.size - pos.toNat))).size := by
          rw [← bl_len, ← hx, hm, List.length_take, List.length_drop]
        rw [hx] at hb
        rw [hsz] at hb
        exact ⟨A, c, by rw [hsz], hb, hg⟩
  · rw [thereR_off ho, if_pos (by simp)]
    refine (read_dead L g S n pos most wx hL (hs.dead.trans ho)).mono ?_
    rintro e w' ⟨rfl, rfl⟩
    exact ⟨none, 0, rfl, .inl ⟨rfl, _, rfl⟩, gb_refl _ none⟩
theorem Bo.pList2 (h : Bo w0 Z g S q R0 wx) (hs : Sim D k S R) (hk : k ≤ 1000) :
    Calls Tryz.prog 14 #[.pointer (some ⟨g, 0, none⟩)] wx fun e w' => ∃ A c N, e = .returned (.slice A N.length c) ∧ N.Perm (S.names.map (·.1)) ∧ N.Pairwise leS ∧ w'.ownsRow wx.heap.size 9 1 (.slice A N.length c) N.length (strs N) ∧ wx.grownBy w' none := by
  obtain ⟨L, hL⟩ := h.fs
  refine list_any L g S wx hL (by rw [hs.names.len]; have := hs.dl; have := hs.fl; omega) fun x hx => ?_
  obtain ⟨e, he, rfl⟩ := List.mem_map.1 (hs.names.perm.mem_iff.1 hx)
  exact nameOk_le (hs.names.ok.ne e he).1
end
theorem Pl.In.grown {w w' : World} {A : Option Addr} {l : List AcV} (h : Pl.In w A l) (hg : w.grownBy w' none) : Pl.In w' A l :=
  ⟨(h.rd.grown hg (Nat.le_refl _) (by simp)).more hg.size, fun x hx => ((h.data x hx).grown hg (Nat.le_refl _) (by simp)).more hg.size, h.small, h.len, fun x hx => by
    obtain ⟨tl, h1, h2⟩ := h.torn x hx
    exact ⟨tl, h1, (h2.grown hg (Nat.le_refl _) (by simp)).more hg.size⟩, h.rng⟩
/-- What is read of a file behind a crash: what a beginning of its writes left. -/
theorem crashed_read {R : RS} {D k : Nat} {S : St} (hs : Sim D k S R) (hD : D ≤ 1000000) (dir : Int) (tl : List Tn) (j : Nat) (hj : j < R.f.length) (h0 : (readR (crashR R dir tl) ((j : Int) + 1) 0 67108864).2 = 0) :
    (readR (crashR R dir tl) ((j : Int) + 1) 0 67108864).1 = tearP R.f[j] (tornR tl R.f[j].n) := by
  have hf : fileR (crashR R dir tl) ((j : Int) + 1) = tearR R.f[j] (tornR tl R.f[j].n) := by
    unfold fileR
    have e : ((j : Int) + 1 - 1).toNat = j := by omega
    have hl : j < (crashR R dir tl).f.length := by show j < (R.f.map _).length; rw [List.length_map]; exact hj
    rw [e, List.getD_eq_getElem?_getD, List.getElem?_eq_getElem hl]
    show (R.f.map _)[j] = _
    exact List.getElem_map (fun x : RFl => tearR x (tornR tl x.n))
  unfold readR at h0 ⊢
  by_cases c : thereR (crashR R dir tl) ((j : Int) + 1) ≠ 0
  · rw [if_pos c] at h0
    exact absurd h0 c
  · rw [if_neg c] at h0 ⊢
    by_cases c2 : (0 : Int) < 0 ∨ ((fileR (crashR R dir tl) ((j : Int) + 1)).p.size : Int) < 0 ∨ (67108864 : Int) < 0
    · rw [if_pos c2] at h0
      cases h0
    · rw [if_neg c2, hf]
      show (tearP R.f[j] (tornR tl R.f[j].n)).extract 0 (0 + min (67108864 : Int).toNat ((tearP R.f[j] (tornR tl R.f[j].n)).size - 0)) = _
      have hz : (tearP R.f[j] (tornR tl R.f[j].n)).size ≤ 1000000 := by
        exact Nat.le_trans (tearP_size (hs.good _ (List.getElem_mem hj)) _) hD
      rw [show 0 + min (67108864 : Int).toNat ((tearP R.f[j] (tornR tl R.f[j].n)).size - 0) = (tearP R.f[j] (tornR tl R.f[j].n)).size by omega]
      exact ext_all _
/-- A file of the document's in memory: where its parts lie. -/
theorem RAt.file_at {w : World} {q : Nat} {R : RS} {bs : List Nat} {vs : List Value} {vD vS vM : Value} {AF : Option Addr} {n cF : Nat} (h : RAt w q R bs vs (.slice AF n cF) vD vS vM) (j : Nat) (hj : j < R.f.length) :
    ∃ bF b A c, AF = some ⟨bF, 0, none⟩ ∧ w.cell? ⟨bF, j, none⟩ = some (.pointer (some ⟨b, 0, none⟩)) ∧ w.cell? ⟨b, 1, none⟩ = some (.string R.f[j].safe) ∧ w.cell? ⟨b, 2, none⟩ = some (.slice A R.f[j].l.length c) ∧
      ∀ (i : Nat) (hi : i < R.f[j].l.length), ∃ b, A = some ⟨b, 0, none⟩ ∧ w.cell? ⟨b, i * 3, none⟩ = some (.bool R.f[j].l[i].cut) ∧ w.cell? ⟨b, i * 3 + 1, none⟩ = some (.int .i64 (R.f[j].l[i].at_ : Int)) ∧ w.cell? ⟨b, i * 3 + 2, none⟩ = some (.string R.f[j].l[i].p) := by
  have hjb : j < bs.length := by rw [h.lb]; exact hj
  obtain ⟨bF, rfl, hc⟩ := P_elem h.rF hjb
  have hf := h.fl j hj
  have e : bs.getD j 0 = bs[j] := by rw [List.getD_eq_getElem?_getD, List.getElem?_eq_getElem hjb]; rfl
  rw [e] at hf
  obtain ⟨A, c, hv, _, _⟩ := own_form0 hf.row
  rw [hv] at hf
  refine ⟨bF, bs[j], A, c, rfl, hc, by rw [blk_cell hf.box]; rfl, by rw [blk_cell hf.box]; rfl, fun i hi => D_elem hf.row hi⟩
theorem wrap_z {z : Int} {j : Nat} (hz : z = (j : Int) + 1) (h : j ≤ 1000) : wrap64 (z + 1) = ((j + 1 : Nat) : Int) + 1 := by unfold wrap64; omega

set_option maxHeartbeats 8000000 in
set_option maxRecDepth 100000 in
theorem lawBeg_off (C : Int) (A : Option Addr) (c : Nat) (l : List AcV) (dir : Int) (tA : Option Addr) (tn tc : Nat) (w : World) (h : Pl.In w A l) (hC : longB l = true ∨ 200 < tn) :
    Calls Tryz.prog 3 #[.int .i64 C, .slice A l.length c, .agg #[.int .i64 dir, .slice tA tn tc]] w fun e w' => e = .returned (.bool true) ∧ w.grownBy w' none := by
  obtain ⟨wa, hwa⟩ : ∃ wa, wa = w.alloc (.cells #[.int .i64 dir, .slice tA tn tc] 25) := ⟨_, rfl⟩
  have hga : w.grownBy wa none := by rw [hwa]; exact gb_alloc (gb_refl w none) _
  have hba : wa.heap[w.heap.size]? = some (.cells #[.int .i64 dir, .slice tA tn tc] 25 (0, 0)) := by rw [hwa]; exact heap_alloc_new w _
  have h := h.grown hga
  have HGA := hide hga
  have HBA := hide hba
  have HWA := hide hwa
  have H := hide h
  have LG := hide (long_any A c wa.heap.size l wa h.rd h.small h.len)
  have LV := hide live_any
  clear h hwa hga hba
  cases hl : longB l
  · have ht : 200 < tn := hC.resolve_left (by rw [hl]; decide)
    have ht1 : (200 : Int) < (tn : Int) := by omega
    rw [show LongPost l wa = fun e w' => e = .returned (.bool false) ∧ wa.grownBy w' none from by unfold LongPost; rw [hl]] at LG
    clear hl hC ht
    go_enter Tryz.func3, Tryz.ntmps3
    go_upto_region 1 with fail
    rw [← HWA.out]
    go_wp2_with (first
      | (go_at_call 4; refine LG.out.mono ?_; rintro e w1 ⟨rfl, hg⟩; have HG1 := hide hg; have e0 : w1.cell? ⟨w.heap.size, 0, none⟩ = some (.int .i64 dir) := (by { rw [blk_cell (blk_keep HBA.out hg (Option.some_ne_none _))]; rfl }); have e1 : w1.cell? ⟨w.heap.size, 1, none⟩ = some (.slice tA tn tc) := (by { rw [blk_cell (blk_keep HBA.out hg (Option.some_ne_none _))]; rfl }); clear hg)
      | (go_at_call 5; refine (LV.out _).mono ?_; rintro e w2 ⟨rfl, hg⟩; have HG2 := hide hg; clear hg))
    go_ret
    exact ⟨rfl, gb_trans HGA.out (gb_trans HG1.out HG2.out (.inl rfl)) (.inl rfl)⟩
  · rw [show LongPost l wa = fun e w' => e = .returned (.bool true) ∧ wa.grownBy w' none from by unfold LongPost; rw [hl]] at LG
    clear hl hC
    go_enter Tryz.func3, Tryz.ntmps3
    go_upto_region 1 with fail
    rw [← HWA.out]
    go_wp2_with (first
      | (go_at_call 4; refine LG.out.mono ?_; rintro e w1 ⟨rfl, hg⟩; have HG1 := hide hg; have e0 : w1.cell? ⟨w.heap.size, 0, none⟩ = some (.int .i64 dir) := (by { rw [blk_cell (blk_keep HBA.out hg (Option.some_ne_none _))]; rfl }); have e1 : w1.cell? ⟨w.heap.size, 1, none⟩ = some (.slice tA tn tc) := (by { rw [blk_cell (blk_keep HBA.out hg (Option.some_ne_none _))]; rfl }); clear hg)
      | (go_at_call 5; refine (LV.out _).mono ?_; rintro e w2 ⟨rfl, hg⟩; have HG2 := hide hg; clear hg))
    go_ret
    exact ⟨rfl, gb_trans HGA.out (gb_trans HG1.out HG2.out (.inl rfl)) (.inl rfl)⟩

set_option maxHeartbeats 8000000 in
set_option maxRecDepth 100000 in
theorem lawBeg_none (C : Int) (A : Option Addr) (c : Nat) (l : List AcV) (dir : Int) (tA : Option Addr) (tn tc : Nat) (w : World) (h : Pl.In w A l) (hl : longB l = false) (ht : ¬ 200 < tn) (hC : C < 0 ∨ 67108864 < C) :
    Calls Tryz.prog 3 #[.int .i64 C, .slice A l.length c, .agg #[.int .i64 dir, .slice tA tn tc]] w fun e w' => e = .returned (.bool true) ∧ w.grownBy w' none := by
  obtain ⟨wa, hwa⟩ : ∃ wa, wa = w.alloc (.cells #[.int .i64 dir, .slice tA tn tc] 25) := ⟨_, rfl⟩
  have hga : w.grownBy wa none := by rw [hwa]; exact gb_alloc (gb_refl w none) _
  have hba : wa.heap[w.heap.size]? = some (.cells #[.int .i64 dir, .slice tA tn tc] 25 (0, 0)) := by rw [hwa]; exact heap_alloc_new w _
  have h := h.grown hga
  have HGA := hide hga
  have HBA := hide hba
  have HWA := hide hwa
  have H := hide h
  have LG := hide (long_any A c wa.heap.size l wa h.rd h.small h.len)
  have LV := hide live_any
  have ht1 : ¬ (200 : Int) < (tn : Int) := by omega
  have QP := hide fun w2 => played_none C A c l.length w2 hC
  rw [show LongPost l wa = fun e w' => e = .returned (.bool false) ∧ wa.grownBy w' none from by unfold LongPost; rw [hl]] at LG
  clear h hwa hga hba hl ht hC
  go_enter Tryz.func3, Tryz.ntmps3
  go_upto_region 1 with fail
  rw [← HWA.out]
  go_wp2_with (first
    | (go_at_call 4; refine LG.out.mono ?_; rintro e w1 ⟨rfl, hg⟩; have HG1 := hide hg; have e0 : w1.cell? ⟨w.heap.size, 0, none⟩ = some (.int .i64 dir) := (by { rw [blk_cell (blk_keep HBA.out hg (Option.some_ne_none _))]; rfl }); have e1 : w1.cell? ⟨w.heap.size, 1, none⟩ = some (.slice tA tn tc) := (by { rw [blk_cell (blk_keep HBA.out hg (Option.some_ne_none _))]; rfl }); clear hg)
    | (go_at_call 6; refine (QP.out _).mono ?_; rintro e w3 ⟨rfl, hg⟩; have HG3 := hide hg; clear hg)
    | (go_at_call 5; refine (LV.out _).mono ?_; rintro e w2 ⟨rfl, hg⟩; have HG2 := hide hg; clear hg))
  go_ret
  exact ⟨rfl, gb_trans HGA.out (gb_trans HG1.out (gb_trans HG3.out HG2.out (.inl rfl)) (.inl rfl)) (.inl rfl)⟩

set_option maxHeartbeats 8000000 in
set_option maxRecDepth 100000 in
theorem lawBeg_main (C : Int) (A : Option Addr) (c : Nat) (l : List AcV) (dir : Int) (tA : Option Addr) (tn tc : Nat) (tl : List Tn) (w : World) (h : Pl.In w A l) (hl : longB l = false) (ht : ¬ 200 < tn) (h0 : ¬ C < 0) (h1 : ¬ 67108864 < C) (htl : tl.length = tn) (htr : Rd w w.heap.size tA (tcells tl)) :
    Calls Tryz.prog 3 #[.int .i64 C, .slice A l.length c, .agg #[.int .i64 dir, .slice tA tn tc]] w fun e w' => e = .returned (.bool true) ∧ w.grownBy w' none := by
  obtain ⟨wa, hwa⟩ : ∃ wa, wa = w.alloc (.cells #[.int .i64 dir, .slice tA tn tc] 25) := ⟨_, rfl⟩
  have hga : w.grownBy wa none := by rw [hwa]; exact gb_alloc (gb_refl w none) _
  have hba : wa.heap[w.heap.size]? = some (.cells #[.int .i64 dir, .slice tA tn tc] 25 (0, 0)) := by rw [hwa]; exact heap_alloc_new w _
  have h := h.grown hga
  have HGA := hide hga
  have HBA := hide hba
  have HWA := hide hwa
  have H := hide h
  have LG := hide (long_any A c wa.heap.size l wa h.rd h.small h.len)
  have LV := hide live_any
  have ht1 : ¬ (200 : Int) < (tn : Int) := by omega
  have HP := hide fun w2 (hx : wa.grownBy w2 none) => played_any C A c l wa w2 h hx hl h0 h1
  have HTN := hide htl
  have HTB : Hid (tn ≤ 200) := hide (by omega)
  have HTR : Hid (Rd wa wa.heap.size tA (tcells tl)) := hide ((htr.grown hga (Nat.le_refl _) (by simp)).more hga.size)
  rw [show LongPost l wa = fun e w' => e = .returned (.bool false) ∧ wa.grownBy w' none from by unfold LongPost; rw [hl]] at LG
  clear h hwa hga hba hl ht htl htr h0 h1
  go_enter Tryz.func3, Tryz.ntmps3
  go_upto_region 1 with fail
  rw [← HWA.out]
  go_upto_region 6 with (first
    | (go_at_call 4; refine LG.out.mono ?_; rintro e w1 ⟨rfl, hg⟩; have HG1 := hide hg; have e0 : w1.cell? ⟨w.heap.size, 0, none⟩ = some (.int .i64 dir) := (by { rw [blk_cell (blk_keep HBA.out hg (Option.some_ne_none _))]; rfl }); have e1 : w1.cell? ⟨w.heap.size, 1, none⟩ = some (.slice tA tn tc) := (by { rw [blk_cell (blk_keep HBA.out hg (Option.some_ne_none _))]; rfl }); clear hg)
    | (go_at_call 6; refine (HP.out _ HG1.out).mono ?_; rintro e w3 ⟨g, q, rfl, S, R, hb3, hs3⟩; have HB3 := hide hb3; have HS3 := hide hs3; have HBX3 := hide ((hb3.block (blk_lt HBA.out)).trans HBA.out); have e0 : w3.cell? ⟨w.heap.size, 0, none⟩ = some (.int .i64 dir) := (by { rw [blk_cell HBX3.out]; rfl }); have e1 : w3.cell? ⟨w.heap.size, 1, none⟩ = some (.slice tA tn tc) := (by { rw [blk_cell HBX3.out]; rfl }); clear hb3 hs3))
  obtain ⟨i1, hi1, hiz, his, hib⟩ := info_parts Tryz.infoT
  have HI1 := hide hi1
  have HIZ := hide hiz
  have HIS := hide his
  have HIB := hide hib
  clear hi1 hiz his hib
  have HO13 := hide (own_empty w3 54 3)
  have HRT := hide ((HTR.out.ofZ HB3.out (fun _ h => h)).grown (gb_alloc (gb_refl w3 none) (.cells #[] 54)) HB3.out.size (by simp))
  have HLEN := hide (show (tcells tl).length = tn * 3 by rw [tcells_length, HTN.out])
  have HOC := hide (tcells_one tl)
  have HM1 : Hid (0 + tn ≤ maxLen) := hide (by unfold maxLen; have := HTB.out; omega)
  have HMB : Hid ((0 + tn) * 24 ≤ 140737488355328) := hide (by have := HTB.out; omega)
  have hbx0 := heap_alloc_old w3 (.cells #[] 54) (blk_lt HBX3.out)
  have f0 : (w3.alloc (.cells #[] 54)).cell? ⟨w.heap.size, 0, none⟩ = some (.int .i64 dir) := by rw [blk_cell (hbx0.trans HBX3.out)]; rfl
  have f1 : (w3.alloc (.cells #[] 54)).cell? ⟨w.heap.size, 1, none⟩ = some (.slice tA tn tc) := by rw [blk_cell (hbx0.trans HBX3.out)]; rfl
  go_region_held3 (fun w' => w'.cell? ⟨w.heap.size, 0, none⟩ = some (.int .i64 dir) ∧ w'.cell? ⟨w.heap.size, 1, none⟩ = some (.slice tA tn tc)) (first | exact ⟨e0, e1⟩ | exact ⟨f0, f1⟩ | exact ⟨c0, c1⟩ | exact ⟨d0, d1⟩ | go_keep)
    (first
    | (refine step_append_row (by rfl) (.tmp 34) (.tmp 36) 23 (by rfl) 0 54 i1 (.agg #[.int .i64 0, .int .i64 0, .int .i64 0]) 3 24 Tryz.underlying23 HI1.out HIZ.out HIS.out HIB.out rfl (Nat.succ_pos 2) (.slice (some ⟨w3.heap.size, 0, none⟩) 0 0) 0 [] (by rfl) HO13.out wa.heap.size tA tn tc (tcells tl) (by rfl) HLEN.out HRT.out HOC.out HM1.out HMB.out (Nat.zero_le _) ?_; intro v5 w5 ho5 hg5 hb5; rw [Nat.zero_add, List.nil_append] at ho5; obtain ⟨A5, c5, rfl⟩ := own_slice ho5; have HY := hide (tn_new (wa := w3) ho5 ⟨hg5.os, hg5.tape, hg5.output, hg5.size, hg5.block⟩ hb5); have HX5 := hide (blk_keep HBX3.out HY.out.1 (Option.some_ne_none _)); have c0 : w5.cell? ⟨w.heap.size, 0, none⟩ = some (.int .i64 dir) := by { rw [blk_cell HX5.out]; rfl }; have c1 : w5.cell? ⟨w.heap.size, 1, none⟩ = some (.slice tA tn tc) := by { rw [blk_cell HX5.out]; rfl }; clear ho5 hg5 hb5)
    | (go_simp; go_at_call 7; refine (tn_crash (HB3.out.pCrash HS3.out (by decide) (by decide) dir A5 c5 tl HY.out.1 HY.out.2.1 (fun a ha => .inr (HY.out.2.2.1 a ha)) (by rw [HTN.out]; exact HY.out.2.2.2)) HTN.out).mono ?_; rintro e w6 ⟨rfl, ks, hk1, hk2, hb6⟩; have HB6 := hide hb6; have HSM : Hid (Sim 20000 61 (S.crashed dir tl ks) (crashR R dir tl)) := hide (HS3.out.crash dir tl ks hk1 hk2); have HBX6 := hide ((hb6.block (blk_lt HBA.out)).trans HBA.out); have d0 : w6.cell? ⟨w.heap.size, 0, none⟩ = some (.int .i64 dir) := by { rw [blk_cell HBX6.out]; rfl }; have d1 : w6.cell? ⟨w.heap.size, 1, none⟩ = some (.slice tA tn tc) := by { rw [blk_cell HBX6.out]; rfl }; clear hk1 hk2 hb6))
  generalize S.crashed dir tl ks = S2 at *
  go_wp2_with fail
  obtain ⟨bs, vs, vF, vD, vS, vM, hR⟩ := HB6.out.rs
  obtain ⟨AM, cM, rfl, _, _⟩ := own_form0 hR.rM
  obtain ⟨AF, cF, rfl, _, hcF⟩ := own_form0 hR.rF
  have hlb := hR.lb
  rw [hlb] at hR
  have HRAT := hide hR
  have HRB := hide hR.box
  clear hR hlb hcF
  have HFL : Hid (R.f.length ≤ 1000) := hide (by have := HS3.out.fl; omega)
  go_loopw [9] (fun n wr => ∃ j : Nat, n = .int .i64 ((j : Int) + 1) ∧ j ≤ R.f.length ∧ w6.grownBy wr none) (fun n _ => R.f.length + 2 - (intOf n).toNat)
  case atStart => exact ⟨0, rfl, Nat.zero_le _, gb_refl w6 none⟩
  case round =>
    obtain ⟨j, rfl, hj, hg⟩ := hrel
    have HGR := hide hg
    have HJ := hide hj
    have f0 : wr.cell? ⟨q, 0, none⟩ = some (.slice AF R.f.length cF) := by rw [blk_cell (blk_keep HRB.out hg (Option.some_ne_none _))]; rfl
    obtain ⟨z, hz⟩ : ∃ z, z = (j : Int) + 1 := ⟨_, rfl⟩
    rw [← hz]
    have HZ := hide hz
    by_cases hlt : j < R.f.length
    · have hle : z ≤ (R.f.length : Int) := by omega
      have QR := hide ((HB6.out.keep hg).pRead2 HSM.out (by decide) (by decide) z 0 67108864)
      obtain ⟨bF, b, AL, cL, rfl, p0, p1, p2, p3⟩ := HRAT.out.file_at j hlt
      have HP3 := hide p3
      have HGOOD := hide (HS3.out.good _ (List.getElem_mem hlt))
      have hcr := crashed_read HS3.out (by decide) dir tl j hlt
      rw [← hz] at hcr
      obtain ⟨P, hP⟩ : ∃ P, P = (readR (crashR R dir tl) z 0 67108864).1 := ⟨_, rfl⟩
      obtain ⟨E, hE⟩ : ∃ E, E = (readR (crashR R dir tl) z 0 67108864).2 := ⟨_, rfl⟩
      rw [← hP, ← hE] at QR
      rw [← hP, ← hE] at hcr
      have HCR := hide hcr
      clear hP hE hg hcr p3 hz
      have h64 : IntKind.i64.wrap (z - 1) = (j : Int) := by rw [IntKind.wrap_i64]; have := HZ.out; have := HFL.out; have := HJ.out; omega
      have hj0 : (0 : Int) ≤ (j : Int) := by omega
      have hj1 : (j : Int) < (R.f.length : Int) := by omega
      by_cases hE0 : E = 0
      · have qE : (E == 0) = true := by rw [hE0]; rfl
        have hPt : P = tearP R.f[j] (tornR tl R.f[j].n) := HCR.out hE0
        clear hE0
        obtain ⟨i0, hi0, hit⟩ := tear_hit R.f[j] (tornR tl R.f[j].n)
        rw [← hPt] at hit
        have HIT := hide hit
        have HI0 := hide hi0
        clear hPt hit hi0
        go_upto_region 11 with (go_at_call 8; refine QR.out.mono ?_; rintro e w7 ⟨A3, c3, rfl, hb3, hg3⟩; have HG7 := hide hg3; have HRR := hide (bs_rd hb3); clear hg3 hb3)
        have hg7 := gb_trans HGR.out HG7.out (.inl rfl)
        have m0 : w7.drew.cell? ⟨q, 0, none⟩ = some (.slice (some ⟨bF, 0, none⟩) R.f.length cF) := by rw [blk_cell (blk_keep HRB.out (gb_drew hg7) (Option.some_ne_none _))]; rfl
        have m1 := cell_grown p0 (gb_drew hg7)
        have m2 := cell_grown p1 (gb_drew hg7)
        have m3 := cell_grown p2 (gb_drew hg7)
        have HRD : Hid (Rd w7.drew w7.drew.heap.size A3 (u8s (bl P))) := hide (HRR.out.drewN 1)
        have m4 : (convert 38 9 (.slice A3 P.size c3)).run Tryz.prog w7.drew = .ok (.string P) w7.drew := by
          have := str8 HRD.out (n := P.size) (c := c3) (bl_len P).symm
          rwa [bl_back] at this
        have HG77 := hide hg7
        have QB := hide (begin_any R.f[j] P AL cL w7.drew HGOOD.out (by decide) (by decide) i0 HI0.out HIT.out (fun i hi => by
          obtain ⟨b2, e2, r0, r1, r2⟩ := HP3.out i hi
          exact ⟨b2, e2, cell_grown r0 (gb_drew hg7), cell_grown r1 (gb_drew hg7), cell_grown r2 (gb_drew hg7)⟩))
        generalize R.f[j] = y at *
        clear hg7 HIT HI0 p0 p1 p2 f0
        go_region_held3 (fun w' => w'.cell? ⟨q, 0, none⟩ = some (.slice (some ⟨bF, 0, none⟩) R.f.length cF) ∧ w'.cell? ⟨bF, j, none⟩ = some (.pointer (some ⟨b, 0, none⟩)) ∧ w'.cell? ⟨b, 1, none⟩ = some (.string y.safe) ∧ w'.cell? ⟨b, 2, none⟩ = some (.slice AL y.l.length cL) ∧ (convert 38 9 (.slice A3 P.size c3)).run Tryz.prog w' = .ok (.string P) w') (first | exact ⟨m0, m1, m2, m3, m4⟩ | exact ⟨k0, k1, k2, k3, k4⟩ | go_keep)
          (first
          | (go_at_call 9; refine (num_any _ _).mono ?_; rintro e wx ⟨rfl, rfl⟩)
          | (go_at_call 10; refine QB.out.mono ?_; rintro e w9 ⟨rfl, hg9⟩; have k0 := cell_grown m0 hg9; have k1 := cell_grown m1 hg9; have k2 := cell_grown m2 hg9; have k3 := cell_grown m3 hg9; have HG9 := hide hg9; have k4 : (convert 38 9 (.slice A3 P.size c3)).run Tryz.prog w9 = .ok (.string P) w9 := (by { have h4 := str8 (HRD.out.grown hg9 (Nat.le_refl _) (fun _ h => nomatch h)) (n := P.size) (c := c3) (bl_len P).symm; rwa [bl_back] at h4 }); clear hg9))
        go_wp2_with fail
        refine ⟨⟨j + 1, congrArg (Value.int .i64) (wrap_z HZ.out (by have := HFL.out; have := HJ.out; omega)), hlt, gb_trans (gb_drew HG77.out) HG9.out (.inl rfl)⟩, ?_⟩
        · rw [wrap_z HZ.out (by have := HFL.out; have := HJ.out; omega)]
          show R.f.length + 2 - (((j + 1 : Nat) : Int) + 1).toNat < R.f.length + 2 - z.toNat
          have := HZ.out
          omega
      · have qE : (E == 0) = false := beq_eq_false_iff_ne.2 hE0
        clear hE0 p0 p1 p2
        go_upto_region 11 with (go_at_call 8; refine QR.out.mono ?_; rintro e w7 ⟨A3, c3, rfl, hb3, hg3⟩; have HG7 := hide hg3; clear hg3 hb3)
        have hg7 := gb_trans HGR.out HG7.out (.inl rfl)
        have HG77 := hide hg7
        have m0 : w7.drew.cell? ⟨q, 0, none⟩ = some (.slice (some ⟨bF, 0, none⟩) R.f.length cF) := by rw [blk_cell (blk_keep HRB.out (gb_drew hg7) (Option.some_ne_none _))]; rfl
        clear hg7
        clear m0
        have QN : Hid (∀ n, Calls Tryz.prog 9 #[.int .i64 E] (w7.drewN n) fun e w' => e = .returned (.int .i64 E) ∧ w' = w7.drewN n) := hide fun n => (num_any E (w7.drewN n)).mono fun _ _ hx => ⟨hx.1, hx.2.symm⟩
        go_quiet ((go_at_call 9; exact Calls.quiet_of_same (QN.out _)))
        go_wp2_with fail
        refine ⟨⟨j + 1, congrArg (Value.int .i64) (wrap_z HZ.out (by have := HFL.out; have := HJ.out; omega)), hlt, gb_drewN HG77.out _⟩, ?_⟩
        · rw [wrap_z HZ.out (by have := HFL.out; have := HJ.out; omega)]
          show R.f.length + 2 - (((j + 1 : Nat) : Int) + 1).toNat < R.f.length + 2 - z.toNat
          have := HZ.out
          omega
    · have hle : ¬ z ≤ (R.f.length : Int) := by omega
      clear hz hj hg
      have QD : Hid (Calls Tryz.prog 11 #[.pointer (some ⟨g, 0, none⟩)] wr fun e w' => e = .returned (.bool false) ∧ wr.grownBy w' none) := hide (by
        have := (HB6.out.keep HGR.out).pDead
        rwa [show S2.dead = false from HSM.out.dead] at this)
      have QW : Hid (∀ wx, w6.grownBy wx none → Calls Tryz.prog 12 #[.pointer (some ⟨g, 0, none⟩)] wx fun e w' => e = .returned (.int .i64 0) ∧ wx.grownBy w' none) := hide fun wx hx => by
        have := (HB6.out.keep hx).pWaitingDir
        rwa [show S2.changes = [] from HSM.out.chs] at this
      go_upto_region 15 with (first
        | (go_at_call 11; refine QD.out.mono ?_; rintro e w7 ⟨rfl, hg7⟩; have HG7 := hide (gb_trans HGR.out hg7 (.inl rfl)); clear hg7)
        | (go_at_call 12; refine (QW.out _ HG7.out).mono ?_; rintro e w8 ⟨rfl, hg8⟩; have HG8 := hide (gb_trans HG7.out hg8 (.inl rfl)); clear hg8))
      clear HGR f0
      have HGR := HG8
      have b0 : w8.cell? ⟨w.heap.size, 0, none⟩ = some (.int .i64 dir) := by rw [blk_cell (blk_keep HBX6.out HG8.out (Option.some_ne_none _))]; rfl
      have f3 : w8.cell? ⟨q, 3, none⟩ = some (.slice AM R.m.length cM) := by rw [blk_cell (blk_keep HRB.out HG8.out (Option.some_ne_none _))]; rfl
      have HPL := hide fun wx (hx : w6.grownBy wx none) => (HB6.out.keep hx).pList2 HSM.out (by decide)
      have HDL := hide fun wx (hx : w6.grownBy wx none) => (HB6.out.keep hx).dList HS3.out (by decide)
      have HLN : Hid (∀ N : List ByteArray, N.Perm (S2.names.map (·.1)) → N.length ≤ 1000000) := hide fun N hp => by rw [hp.length_eq, List.length_map, HSM.out.names.len]; have := HSM.out.dl; have := HSM.out.fl; omega
      by_cases hdir : (R.m.length : Int) ≤ dir
      · have HED : Hid ((crashR R dir tl).d = R.d) := hide (by
          have e : crashN R dir = R.m.length := by unfold crashN; omega
          show crashD R (crashN R dir) = R.d
          rw [e]
          exact HS3.out.dm.symm)
        refine wp_region_facts' 15 (by kernel_rfl) (by kernel_rfl) ?_
        intro A O W L HA HO HW HL
        simp only [List.take_succ_cons, List.take_zero]
        have HS := hide (show A.tmps.size = 124 by rw [HA.out]; rfl)
        have HGW := hide (show w8.grownBy W none by rw [HW.out]; exact gb_drew (gb_refl w8 none))
        have A5 := hide (show A.eval (.tmp 5) = .pointer (some ⟨w.heap.size, 0, none⟩) by rw [HA.out]; rfl)
        have A7 := hide (show A.eval (.tmp 7) = .pointer (some ⟨g, 0, none⟩) by rw [HA.out]; rfl)
        have A8 := hide (show A.eval (.tmp 8) = .pointer (some ⟨q, 0, none⟩) by rw [HA.out]; rfl)
        -- slot 93
        refine wpFacts_lit (.pointer (some ⟨w.heap.size, 0, none⟩)) rfl ?_ ?_
        · intro a wq hw hl
          have e5 : a.tmps[5]?.getD undef = .pointer (some ⟨w.heap.size, 0, none⟩) := (hl 5 (by first | (simp [Op.operands]; done) | simp [Op.operands, Call.operands]) (by rw [HS.out]; decide)).trans A5.out
          clear hl
          go_simp
        -- slot 94
        refine wpFacts_lit (.int .i64 dir) rfl ?_ ?_
        · intro a wq hw hl
          have e93 : a.tmps[93]?.getD undef = .pointer (some ⟨w.heap.size, 0, none⟩) := hl 93 (by first | (simp [Op.operands]; done) | simp [Op.operands, Call.operands]) (by rw [HS.out]; decide)
          have hbX := blk_keep HBX6.out (gb_trans HGR.out (gb_trans HGW.out hw (.inl rfl)) (.inl rfl)) (by simp)
          have c0 : wq.cell? ⟨w.heap.size, 0, none⟩ = some (.int .i64 dir) := by rw [blk_cell hbX]; rfl
          clear hbX
          clear hl
          go_simp
        -- slot 95
        refine wpFacts_lit (.pointer (some ⟨q, 0, none⟩)) rfl ?_ ?_
        · intro a wq hw hl
          have e8 : a.tmps[8]?.getD undef = .pointer (some ⟨q, 0, none⟩) := (hl 8 (by first | (simp [Op.operands]; done) | simp [Op.operands, Call.operands]) (by rw [HS.out]; decide)).trans A8.out
          clear hl
          go_simp
        -- slot 96
        refine wpFacts_lit (.pointer (some ⟨q, 0, none⟩)) rfl ?_ ?_
        · intro a wq hw hl
          have e95 : a.tmps[95]?.getD undef = .pointer (some ⟨q, 0, none⟩) := hl 95 (by first | (simp [Op.operands]; done) | simp [Op.operands, Call.operands]) (by rw [HS.out]; decide)
          clear hl
          go_simp
        -- slot 97
        refine wpFacts_lit (.pointer (some ⟨q, 3, none⟩)) rfl ?_ ?_
        · intro a wq hw hl
          have e96 : a.tmps[96]?.getD undef = .pointer (some ⟨q, 0, none⟩) := hl 96 (by first | (simp [Op.operands]; done) | simp [Op.operands, Call.operands]) (by rw [HS.out]; decide)
          clear hl
          go_simp
        -- slot 98
        refine wpFacts_lit (.slice AM R.m.length cM) rfl ?_ ?_
        · intro a wq hw hl
          have e97 : a.tmps[97]?.getD undef = .pointer (some ⟨q, 3, none⟩) := hl 97 (by first | (simp [Op.operands]; done) | simp [Op.operands, Call.operands]) (by rw [HS.out]; decide)
          have hbR := blk_keep HRB.out (gb_trans HGR.out (gb_trans HGW.out hw (.inl rfl)) (.inl rfl)) (by simp)
          have c0 : wq.cell? ⟨q, 3, none⟩ = some (.slice AM R.m.length cM) := by rw [blk_cell hbR]; rfl
          clear hbR
          clear hl
          go_simp
        -- slot 99
        refine wpFacts_lit (.int .i64 ((R.m.length : Nat) : Int)) rfl ?_ ?_
        · intro a wq hw hl
          have e98 : a.tmps[98]?.getD undef = .slice AM R.m.length cM := hl 98 (by first | (simp [Op.operands]; done) | simp [Op.operands, Call.operands]) (by rw [HS.out]; decide)
          clear hl
          go_simp
        -- slot 100
        refine wpFacts_lit (.bool true) rfl ?_ ?_
        · intro a wq hw hl
          have e94 : a.tmps[94]?.getD undef = .int .i64 dir := hl 94 (by first | (simp [Op.operands]; done) | simp [Op.operands, Call.operands]) (by rw [HS.out]; decide)
          have e99 : a.tmps[99]?.getD undef = .int .i64 ((R.m.length : Nat) : Int) := hl 99 (by first | (simp [Op.operands]; done) | simp [Op.operands, Call.operands]) (by rw [HS.out]; decide)
          clear hl
          go_simp
        -- slot 101
        refine wpFacts_lit (.bool true) rfl ?_ ?_
        · intro a wq hw hl
          have e100 : a.tmps[100]?.getD undef = .bool true := hl 100 (by first | (simp [Op.operands]; done) | simp [Op.operands, Call.operands]) (by rw [HS.out]; decide)
          clear hl
          go_simp
        -- slot 102
        refine wpFacts_litG (.pointer (some ⟨g, 0, none⟩)) 8 true 101 rfl (by rw [HO.out]; rfl) (by rw [HS.out]; decide) (fun _ _ h => h) ?_ ?_
        · intro a wq hw hl
          have e7 : a.tmps[7]?.getD undef = .pointer (some ⟨g, 0, none⟩) := (hl 7 (by first | (simp [Op.operands]; done) | simp [Op.operands, Call.operands]) (by rw [HS.out]; decide)).trans A7.out
          clear hl
          go_simp
        -- slot 103
        refine wpFacts_stepG (LsF (S2.names.map (·.1))) 8 true 101 rfl (by rw [HO.out]; rfl) (by rw [HS.out]; decide) (fun _ _ h => h) (LsF.up _) ?_ ?_
        · intro a wq hw hl
          have e102 : a.tmps[102]?.getD undef = .pointer (some ⟨g, 0, none⟩) := hl 102 (by first | (simp [Op.operands]; done) | simp [Op.operands, Call.operands]) (by rw [HS.out]; decide)
          clear hl
          go_simp
          exact ⟨gb_refl wq none, (HPL.out wq (gb_trans HGR.out (gb_trans HGW.out hw (.inl rfl)) (.inl rfl))).mono fun e w9 hx => by obtain ⟨A, c, N, h1, h2, h3, h4, h5⟩ := hx; exact ⟨_, h1, h5, A, c, N, w9.heap.size, rfl, h2, h3, Nat.le_refl _, rd_own h4⟩⟩
        -- slot 104
        refine wpFacts_litG (.pointer (some ⟨q, 0, none⟩)) 8 true 101 rfl (by rw [HO.out]; rfl) (by rw [HS.out]; decide) (fun _ _ h => h) ?_ ?_
        · intro a wq hw hl
          have e8 : a.tmps[8]?.getD undef = .pointer (some ⟨q, 0, none⟩) := (hl 8 (by first | (simp [Op.operands]; done) | simp [Op.operands, Call.operands]) (by rw [HS.out]; decide)).trans A8.out
          clear hl
          go_simp
        -- slot 105
        refine wpFacts_stepG (LsF (R.d.map (·.name))) 8 true 101 rfl (by rw [HO.out]; rfl) (by rw [HS.out]; decide) (fun _ _ h => h) (LsF.up _) ?_ ?_
        · intro a wq hw hl
          have e104 : a.tmps[104]?.getD undef = .pointer (some ⟨q, 0, none⟩) := hl 104 (by first | (simp [Op.operands]; done) | simp [Op.operands, Call.operands]) (by rw [HS.out]; decide)
          clear hl
          go_simp
          exact ⟨gb_refl wq none, (HDL.out wq (gb_trans HGR.out (gb_trans HGW.out hw (.inl rfl)) (.inl rfl))).mono fun e w9 hx => by obtain ⟨A, c, N, h1, h2, h3, h4, h5⟩ := hx; exact ⟨_, h1, h5, A, c, N, w9.heap.size, rfl, h2, h3, Nat.le_refl _, rd_own h4⟩⟩
        -- slot 106
        refine wpFacts_stepG (fun vq _ => vq = .bool true) 8 true 101 rfl (by rw [HO.out]; rfl) (by rw [HS.out]; decide) (fun _ _ h => h) (Lit.up _) ?_ ?_
        · intro a wq hw hl
          have h103 : (LsF (S2.names.map (·.1))) (a.tmps[103]?.getD undef) wq := hl 103 (by first | (simp [Op.operands]; done) | simp [Op.operands, Call.operands]) (by rw [HS.out]; decide)
          obtain ⟨A1, c1, N1, B1, v1, hp1, hw1, hB1, hr1⟩ := h103
          have h105 : (LsF (R.d.map (·.name))) (a.tmps[105]?.getD undef) wq := hl 105 (by first | (simp [Op.operands]; done) | simp [Op.operands, Call.operands]) (by rw [HS.out]; decide)
          obtain ⟨A2, c2, N2, B2, v2, hp2, hw2, hB2, hr2⟩ := h105
          have v1 : a.tmps[103]?.getD undef = .slice A1 N1.length c1 := v1
          have v2 : a.tmps[105]?.getD undef = .slice A2 N2.length c2 := v2
          clear hl
          go_simp
          have hEq := HSM.out.texts hp1 hw1 (by rw [HED.out]; exact hp2) hw2
          subst hEq
          exact gUpon_lit ((rTexts_any A1 A2 c1 c2 B1 B2 N1 N1 wq hr1 hr2 (HLN.out N1 hp1)).mono fun e w9 hx => ⟨by rw [hx.1, decide_eq_true rfl], by obtain ⟨_, qq, rfl⟩ := hx; exact gb_drewN (gb_refl wq none) qq⟩)
        -- slot 107
        refine wpFacts_litG (.bool false) 8 true 101 rfl (by rw [HO.out]; rfl) (by rw [HS.out]; decide) (fun _ _ h => h) ?_ ?_
        · intro a wq hw hl
          have e106 : a.tmps[106]?.getD undef = .bool true := hl 106 (by first | (simp [Op.operands]; done) | simp [Op.operands, Call.operands]) (by rw [HS.out]; decide)
          clear hl
          go_simp
        refine HL.out _ (fun a' wz hc => ?_)
        have e101 : a'.eval (.tmp 101) = .bool true := hc.fact 101 (by rw [HS.out]; decide)
        have e107 : a'.eval (.tmp 107) = .bool false := hc.fact 107 (by rw [HS.out]; decide)
        have hgwz := gb_trans HGW.out hc.grown (.inl rfl)
        have hfr := hc.frame [93, 94, 95, 96, 97, 98, 99, 100, 101, 102, 103, 104, 105, 106, 107, 108] (by rw [HO.out]; kernel_rfl)
        rw [hfr]
        clear hfr hc
        rw [HA.out]
        clear HA HO HL HW HS HGW A5 A7 A8
        clear A O W L
        simp only [List.drop_succ_cons, List.drop_zero, List.foldl_cons, List.foldl_nil, Act.put, List.setIfInBounds_toArray, List.set_cons_succ, List.set_cons_zero]
        rw [e101, e107]
        generalize a'.eval (.tmp 93) = x93
        generalize a'.eval (.tmp 94) = x94
        generalize a'.eval (.tmp 95) = x95
        generalize a'.eval (.tmp 96) = x96
        generalize a'.eval (.tmp 97) = x97
        generalize a'.eval (.tmp 98) = x98
        generalize a'.eval (.tmp 99) = x99
        generalize a'.eval (.tmp 100) = x100
        generalize a'.eval (.tmp 102) = x102
        generalize a'.eval (.tmp 103) = x103
        generalize a'.eval (.tmp 104) = x104
        generalize a'.eval (.tmp 105) = x105
        generalize a'.eval (.tmp 106) = x106
        generalize a'.eval (.tmp 108) = x108
        clear e101 e107
        clear a'
        have HGZ := hide (gb_trans HGR.out hgwz (.inl rfl))
        have QC := hide ((HB6.out.keep HGZ.out).copy2 HSM.out (by decide) (by decide))
        obtain ⟨cg1, cg2, cg3, cg4⟩ := crashR_again R dir 99 tl [(1, 99, 0)]
        have CG1 := hide cg1
        have CG2 := hide cg2
        have CG3 := hide cg3
        have CG4 := hide cg4
        clear cg1 cg2 cg3 cg4 hgwz
        go_wp2_with (first
          | (go_at_call 5; refine (LV.out _).mono ?_; rintro e w13 ⟨rfl, hg⟩; have HG13 := hide hg; clear hg)
          | (go_at_call 17; refine (HT2.out.same2 HSM.out HS2.out CG1.out CG2.out CG3.out CG4.out).mono ?_; rintro e w12 ⟨rfl, hg⟩; have HG12 := hide hg; clear hg)
          | (go_at_call 16; refine QC.out.mono ?_; rintro e w10 ⟨g2, rfl, ht2⟩; have HT := hide ht2; clear ht2)
          | (go_at_call 7; refine (HT.out.crash HSM.out (by decide) (by decide) 99 _ 1 [(1, 99, 0)] (gb_alloc (gb_refl w10 none) (.cells #[.int .i64 1, .int .i64 99, .int .i64 0] 54)) ((Rd.laid w10 #[.int .i64 1, .int .i64 99, .int .i64 0] 54 (0, 0) _ rfl).more (by simp)) (fun a ha => by { injection ha with ha; subst ha; exact Nat.le_refl _ }) (by decide)).mono ?_; rintro e w11 ⟨rfl, ks2, k1, k2, ht2⟩; have HT2 := hide ht2; have HS2 := hide (HSM.out.crash 99 [(1, 99, 0)] ks2 k1 k2); clear k1 k2 ht2))
        go_ret
        have t := HT2.out.turned
        have hT : wa.grownBy w11 none := ⟨t.os, t.tape, t.output, t.size, fun i hi _ => t.block i hi (fun k => k hi)⟩
        exact ⟨rfl, gb_trans HGA.out (gb_trans hT (gb_trans HG12.out HG13.out (.inl rfl)) (.inl rfl)) (.inl rfl)⟩
      · have hdir2 : ¬ (R.m.length : Int) ≤ dir := hdir
        go_quiet (fail)
        have QC := hide fun n => ((HB6.out.keep (gb_drewN HGR.out n)).copy2 HSM.out (by decide) (by decide))
        obtain ⟨cg1, cg2, cg3, cg4⟩ := crashR_again R dir 99 tl [(1, 99, 0)]
        have CG1 := hide cg1
        have CG2 := hide cg2
        have CG3 := hide cg3
        have CG4 := hide cg4
        clear cg1 cg2 cg3 cg4
        go_wp2_with (first
          | (go_at_call 5; refine (LV.out _).mono ?_; rintro e w13 ⟨rfl, hg⟩; have HG13 := hide hg; clear hg)
          | (go_at_call 17; refine (HT2.out.same2 HSM.out HS2.out CG1.out CG2.out CG3.out CG4.out).mono ?_; rintro e w12 ⟨rfl, hg⟩; have HG12 := hide hg; clear hg)
          | (go_at_call 16; refine (QC.out _).mono ?_; rintro e w10 ⟨g2, rfl, ht2⟩; have HT := hide ht2; clear ht2)
          | (go_at_call 7; refine (HT.out.crash HSM.out (by decide) (by decide) 99 _ 1 [(1, 99, 0)] (gb_alloc (gb_refl w10 none) (.cells #[.int .i64 1, .int .i64 99, .int .i64 0] 54)) ((Rd.laid w10 #[.int .i64 1, .int .i64 99, .int .i64 0] 54 (0, 0) _ rfl).more (by simp)) (fun a ha => by { injection ha with ha; subst ha; exact Nat.le_refl _ }) (by decide)).mono ?_; rintro e w11 ⟨rfl, ks2, k1, k2, ht2⟩; have HT2 := hide ht2; have HS2 := hide (HSM.out.crash 99 [(1, 99, 0)] ks2 k1 k2); clear k1 k2 ht2))
        go_ret
        have t := HT2.out.turned
        have hT : wa.grownBy w11 none := ⟨t.os, t.tape, t.output, t.size, fun i hi _ => t.block i hi (fun k => k hi)⟩
        exact ⟨rfl, gb_trans HGA.out (gb_trans hT (gb_trans HG12.out HG13.out (.inl rfl)) (.inl rfl)) (.inl rfl)⟩
end Go.Proofs.YtccapgcpdehicaaGreat
