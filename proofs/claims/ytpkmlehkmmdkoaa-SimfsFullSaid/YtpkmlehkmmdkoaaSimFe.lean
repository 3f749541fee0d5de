/-
  The law Full: its walk.
-/
import Derived.Test.YtpkmlehkmmdkoaaSimFd
import Derived.Deep.CutBlock
namespace Go.Proofs.Ytpkmlehkmmdkoaa
open Go.RowKit

/-- What is handed in. -/
structure Fu.In (w : World) (A : Option Addr) (l : List AcV) : Prop where
  rd : Rd w w.heap.size A (acells l)
  data : ∀ x ∈ l, Rd w w.heap.size x.dA (u8s x.d)
  small : ∀ x ∈ l, x.Small
  len : l.length ≤ 9223372036854775807

theorem Try.infoB : (Try.prog.info? 5).map (fun i => (i.zero, i.size, i.bytes)) = some (some (.int .u8 0), 1, 1) := by kernel_rfl
/-- Bytes that were laid anew. -/
theorem Fu.bytes {w w5 : World} {A : Option Addr} {n c : Nat} {p : List UInt8} (ho : w5.ownsRow 0 5 1 (.slice A n c) n (u8s p)) (hg : (w.alloc (.cells #[] 5)).grownBy w5 (some w.heap.size)) : w.grownBy w5 none ∧ Rd w5 w5.heap.size A (u8s p) :=
  ⟨gb_trans (gb_alloc (gb_refl w none) (.cells #[] 5)) hg (.inr (.inr ⟨_, rfl, Nat.le_refl _⟩)), Rd.of_own ho⟩
theorem Fu.one_ (l : List UInt8) : ∀ u ∈ u8s l, u.oneCell' = true := by
  intro u hu
  obtain ⟨t, _, rfl⟩ := List.mem_map.1 hu
  rfl

set_option maxHeartbeats 8000000 in
set_option maxRecDepth 100000 in
theorem lawFull_off (C : Int) (A : Option Addr) (c : Nat) (l : List AcV) (w : World) (h : Fu.In w A l) (hC : longB l = true ∨ C < 0 ∨ 10000 < C) :
    Calls Try.prog 5 #[.int .i64 C, .slice A l.length c] w fun e w' => e = .returned (.bool true) ∧ w.grownBy w' none := by
  have LG := hide (long_any A c w.heap.size l w h.rd h.small h.len)
  have LV := hide live_any
  cases hl : longB l
  · rw [hl] at hC
    rw [show LongPost l w = fun e w' => e = .returned (.bool false) ∧ w.grownBy w' none from by unfold LongPost; rw [hl]] at LG
    clear hl h
    by_cases h0 : C < 0
    · clear hC
      go_enter Try.func5, Try.ntmps5
      go_wp2_with (first
        | (go_at_call 7; refine LG.out.mono ?_; rintro e w1 ⟨rfl, hg⟩; have HG1 := hide hg; clear hg)
        | (go_at_call 8; refine (LV.out _).mono ?_; rintro e w2 ⟨rfl, hg⟩; have HG2 := hide hg; clear hg))
      go_ret
      exact ⟨rfl, gb_trans HG1.out HG2.out (.inl rfl)⟩
    · have h1 : 10000 < C := by
        rcases hC with hC | hC | hC
        · cases hC
        · exact absurd hC h0
        · exact hC
      clear hC
      go_enter Try.func5, Try.ntmps5
      go_wp2_with (first
        | (go_at_call 7; refine LG.out.mono ?_; rintro e w1 ⟨rfl, hg⟩; have HG1 := hide hg; clear hg)
        | (go_at_call 8; refine (LV.out _).mono ?_; rintro e w2 ⟨rfl, hg⟩; have HG2 := hide hg; clear hg))
      go_ret
      exact ⟨rfl, gb_trans HG1.out HG2.out (.inl rfl)⟩
  · rw [show LongPost l w = fun e w' => e = .returned (.bool true) ∧ w.grownBy w' none from by unfold LongPost; rw [hl]] at LG
    clear hl h hC
    go_enter Try.func5, Try.ntmps5
    go_wp2_with (first
      | (go_at_call 7; refine LG.out.mono ?_; rintro e w1 ⟨rfl, hg⟩; have HG1 := hide hg; clear hg)
      | (go_at_call 8; refine (LV.out _).mono ?_; rintro e w2 ⟨rfl, hg⟩; have HG2 := hide hg; clear hg))
    go_ret
    exact ⟨rfl, gb_trans HG1.out HG2.out (.inl rfl)⟩

set_option maxHeartbeats 8000000 in
set_option maxRecDepth 100000 in
theorem lawFull_main (C : Int) (A : Option Addr) (c : Nat) (l : List AcV) (w : World) (h : Fu.In w A l) (hl : longB l = false) (h0 : ¬ C < 0) (h1 : ¬ 10000 < C) :
    Calls Try.prog 5 #[.int .i64 C, .slice A l.length c] w fun e w' => e = .returned (.bool true) ∧ w.grownBy w' none := by
  have LG := hide (long_any A c w.heap.size l w h.rd h.small h.len)
  have LV := hide live_any
  obtain ⟨hl60, hd⟩ := longB_no hl
  have HD := hide hd
  have H := hide h
  have H60 := hide hl60
  have H0 := hide (show 0 ≤ C by omega)
  have H1 := hide (show C ≤ 10000 by omega)
  have H2 := hide (show C ≤ 67108864 by omega)
  rw [show LongPost l w = fun e w' => e = .returned (.bool false) ∧ w.grownBy w' none from by unfold LongPost; rw [hl]] at LG
  clear hl h hd
  go_enter Try.func5, Try.ntmps5
  go_wp2_with (first
    | (go_at_call 7; refine LG.out.mono ?_; rintro e w0 ⟨rfl, hg⟩; have HG0 := hide hg; clear hg)
    | (go_at_call 12; refine (Lv.new C _ H0.out H2.out).mono ?_; rintro e w1 ⟨g, rfl, hl⟩; have HL1 := hide hl; clear hl)
    | (go_at_call 13; refine (num_any _ _).mono ?_; rintro e wq ⟨rfl, rfl⟩))
  go_loopw [7] (fun i wr => ∃ (j : Nat) (S : St), i = .int .i64 (j : Int) ∧ j ≤ l.length ∧ Fit C j S ∧ Lv w0 g S wr) (fun i _ => l.length - (intOf i).toNat)
  case atStart => exact ⟨0, _, rfl, Nat.zero_le _, Fit.new H0.out, HL1.out⟩
  case round =>
    obtain ⟨j, S, rfl, hj, hfit, hlv⟩ := hrel
    have HFT := hide hfit
    have HLV := hide hlv
    clear hfit hlv
    by_cases hlt : j < l.length
    · have hlt1 : (j : Int) < (l.length : Int) := by omega
      have HJ := hide (show j ≤ 1000 by have := H60.out; omega)
      obtain ⟨b, o, rfl, hbB, hac⟩ := H.out.rd.act hlt
      have HRX := hide (H.out.data _ (List.getElem_mem hlt))
      have HDX := hide (HD.out _ (List.getElem_mem hlt))
      have hac := hac.grown (gb_trans HG0.out HLV.out.grown (.inl rfl))
      generalize l[j] = x at *
      obtain ⟨a0, a1, a2, a3, a4, a5, a6, a7, a8⟩ := hac
      have HF := hide (HFT.out.fine H0.out H1.out HJ.out)
      have HLEN : Hid ((u8s x.d).length = x.d.length * 1) := hide (by simp [u8s])
      have HOC := hide (Fu.one_ x.d)
      have HM1 : Hid (0 + x.d.length ≤ maxLen) := hide (by have := HDX.out; unfold maxLen; omega)
      have HMB : Hid ((0 + x.d.length) * 1 ≤ 140737488355328) := hide (by have := HDX.out; omega)
      have HP4 : Hid (x.d.length ≤ 400000000) := hide (by have := HDX.out; omega)
      go_upto_block 2 with (go_at_call 24; refine (HLV.out.copy HF.out _).mono ?_; rintro e w2 ⟨g2, rfl, ht⟩; have HT2 := hide ht; have hb := ht.obj; have e0 : w2.cell? ⟨wr.heap.size, 0, none⟩ = some (.int .i64 x.kind) := by { rw [blk_cell hb]; rfl }; have e1 : w2.cell? ⟨wr.heap.size, 1, none⟩ = some (.string x.a) := by { rw [blk_cell hb]; rfl }; have e2 : w2.cell? ⟨wr.heap.size, 2, none⟩ = some (.string x.b) := by { rw [blk_cell hb]; rfl }; have e3 : w2.cell? ⟨wr.heap.size, 3, none⟩ = some (.int .i64 x.file) := by { rw [blk_cell hb]; rfl }; have e4 : w2.cell? ⟨wr.heap.size, 4, none⟩ = some (.int .i64 x.pos) := by { rw [blk_cell hb]; rfl }; have e5 : w2.cell? ⟨wr.heap.size, 5, none⟩ = some (.int .i64 x.n) := by { rw [blk_cell hb]; rfl }; have e6 : w2.cell? ⟨wr.heap.size, 6, none⟩ = some (.slice x.dA x.d.length x.dc) := by { rw [blk_cell hb]; rfl }; clear ht hb a0 a1 a2 a3 a4 a5 a6 a7 a8)
      have HB2 := hide HT2.out.obj
      generalize wr.heap.size = q at *
      go_cut [10] (fun s10 wc => ∃ r : Int, s10 = .int .i64 r ∧ Stp w0 g g2 q (.cells #[.int .i64 x.kind, .string x.a, .string x.b, .int .i64 x.file, .int .i64 x.pos, .int .i64 x.n, .slice x.dA x.d.length x.dc, .int .i64 x.dir, .slice x.tA x.tn x.tc] 54) S C j x.d.length r wc)
      case first =>
        have HO2 := hide (own_empty w2 5 1)
        have HRT := hide (HRX.out.at_ (gb_alloc (gb_trans HG0.out HT2.out.grown (.inl rfl)) (.cells #[] 5)))
        obtain ⟨i1, hi1, hiz, his, hib⟩ := info_parts Try.infoB
        have HI1 := hide hi1
        have HIZ := hide hiz
        have HIS := hide his
        have HIB := hide hib
        clear hi1 hiz his hib
        by_cases k1 : x.kind = 1
        · have q1 : (x.kind == 1) = true := by rw [k1]; rfl
          clear k1
          go_wp2_with (go_at_call 14; refine (HT2.out.create HFT.out H0.out H1.out HJ.out x.a x.d.length).mono ?_; rintro e w3 ⟨v, rfl, hs⟩; have HS3 := hide hs; clear hs)
          go_meet
          case rel => exact ⟨0, rfl, HS3.out⟩
        have q1 : (x.kind == 1) = false := beq_eq_false_iff_ne.2 k1
        clear k1
        by_cases k3 : x.kind = 3
        · have q3 : (x.kind == 3) = true := by rw [k3]; rfl
          clear k3
          go_wp2_with fail
          go_region_held3 (fun w' => w'.cell? ⟨q, 3, none⟩ = some (.int .i64 x.file) ∧ w'.cell? ⟨q, 4, none⟩ = some (.int .i64 x.pos) ∧ w'.cell? ⟨q, 6, none⟩ = some (.slice x.dA x.d.length x.dc)) (first | exact ⟨e3, e4, e6⟩ | exact ⟨f3, f4, f6⟩ | exact ⟨d3, d4, d6⟩ | go_keep)
            (first
            | (refine step_append_row (by rfl) (.tmp 63) (.tmp 65) 32 (by rfl) 0 5 i1 (.int .u8 0) 1 1 Try.underlying32 HI1.out HIZ.out HIS.out HIB.out rfl (Nat.succ_pos 0) (.slice (some ⟨w2.heap.size, 0, none⟩) 0 0) 0 [] (by rfl) HO2.out w.heap.size x.dA x.d.length x.dc (u8s x.d) (by rfl) HLEN.out HRT.out HOC.out HM1.out HMB.out (Nat.zero_le _) ?_; intro v5 w5 ho5 hg5 hb5; rw [Nat.zero_add, List.nil_append] at ho5; obtain ⟨A5, c5, rfl⟩ := own_slice ho5; have HY := hide (Fu.bytes (w := w2) ho5 ⟨hg5.os, hg5.tape, hg5.output, hg5.size, hg5.block⟩); have HT5 := hide (HT2.out.keep HY.out.1); have f3 : w5.cell? ⟨q, 3, none⟩ = some (.int .i64 x.file) := by { rw [blk_cell HT5.out.obj]; rfl }; have f4 : w5.cell? ⟨q, 4, none⟩ = some (.int .i64 x.pos) := by { rw [blk_cell HT5.out.obj]; rfl }; have f6 : w5.cell? ⟨q, 6, none⟩ = some (.slice x.dA x.d.length x.dc) := by { rw [blk_cell HT5.out.obj]; rfl }; clear ho5 hg5 hb5)
            | (go_simp; go_at_call 25; refine (HT5.out.write HFT.out H0.out H1.out HJ.out x.file x.pos A5 _ c5 x.d HY.out.2 rfl HP4.out).mono ?_; rintro e w6 ⟨r, rfl, hs⟩; have HS6 := hide hs; obtain ⟨S6, ht6, _, _⟩ := hs; have HT6 := hide ht6; have d3 : w6.cell? ⟨q, 3, none⟩ = some (.int .i64 x.file) := by { rw [blk_cell HT6.out.obj]; rfl }; have d4 : w6.cell? ⟨q, 4, none⟩ = some (.int .i64 x.pos) := by { rw [blk_cell HT6.out.obj]; rfl }; have d6 : w6.cell? ⟨q, 6, none⟩ = some (.slice x.dA x.d.length x.dc) := by { rw [blk_cell HT6.out.obj]; rfl }; clear ht6)
            | (go_simp; go_at_call 13; refine (num_any _ _).mono ?_; rintro e wq ⟨rfl, rfl⟩))
          go_wp2_with fail
          go_meet
          case rel => exact ⟨r, rfl, HS6.out⟩
        have q3 : (x.kind == 3) = false := beq_eq_false_iff_ne.2 k3
        clear k3
        by_cases k4 : x.kind = 4
        · have q4 : (x.kind == 4) = true := by rw [k4]; rfl
          clear k4
          go_wp2_with fail
          go_region_held3 (fun w' => w'.cell? ⟨q, 3, none⟩ = some (.int .i64 x.file) ∧ w'.cell? ⟨q, 4, none⟩ = some (.int .i64 x.pos) ∧ w'.cell? ⟨q, 6, none⟩ = some (.slice x.dA x.d.length x.dc)) (first | exact ⟨e3, e4, e6⟩ | exact ⟨f3, f4, f6⟩ | exact ⟨d3, d4, d6⟩ | go_keep)
            (first
            | (refine step_append_row (by rfl) (.tmp 74) (.tmp 76) 32 (by rfl) 0 5 i1 (.int .u8 0) 1 1 Try.underlying32 HI1.out HIZ.out HIS.out HIB.out rfl (Nat.succ_pos 0) (.slice (some ⟨w2.heap.size, 0, none⟩) 0 0) 0 [] (by rfl) HO2.out w.heap.size x.dA x.d.length x.dc (u8s x.d) (by rfl) HLEN.out HRT.out HOC.out HM1.out HMB.out (Nat.zero_le _) ?_; intro v5 w5 ho5 hg5 hb5; rw [Nat.zero_add, List.nil_append] at ho5; obtain ⟨A5, c5, rfl⟩ := own_slice ho5; have HY := hide (Fu.bytes (w := w2) ho5 ⟨hg5.os, hg5.tape, hg5.output, hg5.size, hg5.block⟩); have HT5 := hide (HT2.out.keep HY.out.1); have f3 : w5.cell? ⟨q, 3, none⟩ = some (.int .i64 x.file) := by { rw [blk_cell HT5.out.obj]; rfl }; have f4 : w5.cell? ⟨q, 4, none⟩ = some (.int .i64 x.pos) := by { rw [blk_cell HT5.out.obj]; rfl }; have f6 : w5.cell? ⟨q, 6, none⟩ = some (.slice x.dA x.d.length x.dc) := by { rw [blk_cell HT5.out.obj]; rfl }; clear ho5 hg5 hb5)
            | (go_simp; go_at_call 15; refine (HT5.out.append HFT.out H0.out H1.out HJ.out x.file A5 _ c5 x.d HY.out.2 rfl HP4.out).mono ?_; rintro e w6 ⟨r, rfl, hs⟩; have HS6 := hide hs; obtain ⟨S6, ht6, _, _⟩ := hs; have HT6 := hide ht6; have d3 : w6.cell? ⟨q, 3, none⟩ = some (.int .i64 x.file) := by { rw [blk_cell HT6.out.obj]; rfl }; have d4 : w6.cell? ⟨q, 4, none⟩ = some (.int .i64 x.pos) := by { rw [blk_cell HT6.out.obj]; rfl }; have d6 : w6.cell? ⟨q, 6, none⟩ = some (.slice x.dA x.d.length x.dc) := by { rw [blk_cell HT6.out.obj]; rfl }; clear ht6)
            | (go_simp; go_at_call 13; refine (num_any _ _).mono ?_; rintro e wq ⟨rfl, rfl⟩))
          go_wp2_with fail
          go_meet
          case rel => exact ⟨r, rfl, HS6.out⟩
        have q4 : (x.kind == 4) = false := beq_eq_false_iff_ne.2 k4
        clear k4
        by_cases k5 : x.kind = 5
        · have q5 : (x.kind == 5) = true := by rw [k5]; rfl
          clear k5
          go_wp2_with (go_at_call 26; refine (HT2.out.cut HFT.out H0.out H1.out HJ.out x.file x.n x.d.length).mono ?_; rintro e w3 ⟨v, rfl, hs⟩; have HS3 := hide hs; clear hs)
          go_meet
          case rel => exact ⟨0, rfl, HS3.out⟩
        have q5 : (x.kind == 5) = false := beq_eq_false_iff_ne.2 k5
        clear k5
        by_cases k8 : x.kind = 8
        · have q8 : (x.kind == 8) = true := by rw [k8]; rfl
          clear k8
          go_wp2_with (go_at_call 19; refine (HT2.out.rename HFT.out H0.out H1.out HJ.out x.a x.b x.d.length).mono ?_; rintro e w3 ⟨v, rfl, hs⟩; have HS3 := hide hs; clear hs)
          go_meet
          case rel => exact ⟨0, rfl, HS3.out⟩
        have q8 : (x.kind == 8) = false := beq_eq_false_iff_ne.2 k8
        clear k8
        by_cases k9 : x.kind = 9
        · have q9 : (x.kind == 9) = true := by rw [k9]; rfl
          clear k9
          go_wp2_with (go_at_call 27; refine (HT2.out.remove HFT.out H0.out H1.out HJ.out x.a x.d.length).mono ?_; rintro e w3 ⟨v, rfl, hs⟩; have HS3 := hide hs; clear hs)
          go_meet
          case rel => exact ⟨0, rfl, HS3.out⟩
        have q9 : (x.kind == 9) = false := beq_eq_false_iff_ne.2 k9
        clear k9
        go_wp2_with fail
        go_meet
        case rel => exact ⟨0, rfl, Stp.none_ HT2.out HFT.out _⟩
      case rest =>
        obtain ⟨r, rfl, S', ht, hf, h5⟩ := hcut
        have HT4 := hide ht
        have HF4 := hide hf
        have hu : ¬ C < S'.used := by have := hf.room; omega
        clear ht hf
        by_cases hr : r = 5
        · subst hr
          obtain ⟨rfl, hpos⟩ := h5 rfl
          have e7 : wc.cell? ⟨q, 6, none⟩ = some (.slice x.dA x.d.length x.dc) := by rw [blk_cell HT4.out.obj]; rfl
          have e8 : ((x.d.length : Int) == 0) = false := beq_eq_false_iff_ne.2 (by omega)
          go_wp2_with (first
            | (go_at_call 28; refine (HT4.out.used).mono ?_; rintro e w5 ⟨rfl, rfl⟩)
            | (go_at_call 10; refine (HT4.out.same HF4.out).mono ?_; rintro e w6 ⟨rfl, hg⟩; have HT6 := hide (HT4.out.keep hg); have e9 : w6.cell? ⟨q, 6, none⟩ = some (.slice x.dA x.d.length x.dc) := by { rw [blk_cell HT6.out.obj]; rfl }; clear hg))
          go_roundw
          case rel => exact ⟨j + 1, _, by go_num, by omega, HF4.out, HT6.out.lv⟩
          case measure => simp [intOf]; omega
        · have hr5 : (r == 5) = false := beq_eq_false_iff_ne.2 hr
          go_wp2_with (go_at_call 28; refine (HT4.out.used).mono ?_; rintro e w5 ⟨rfl, rfl⟩)
          go_roundw
          case rel => exact ⟨j + 1, _, by go_num, by omega, HF4.out, HT4.out.lv⟩
          case measure => simp [intOf]; omega
    · have hlt1 : ¬ (j : Int) < (l.length : Int) := by omega
      go_wp2_with (go_at_call 8; refine (LV.out _).mono ?_; rintro e w9 ⟨rfl, hg9⟩; have HG9 := hide hg9; clear hg9)
      go_ret
      exact ⟨rfl, gb_trans HG0.out (gb_trans HLV.out.grown HG9.out (.inl rfl)) (.inl rfl)⟩
end Go.Proofs.Ytpkmlehkmmdkoaa
