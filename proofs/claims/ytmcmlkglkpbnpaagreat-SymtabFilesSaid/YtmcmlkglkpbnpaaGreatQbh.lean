/-
  The document's file system: Create.
-/
import Derived.Test.YtmcmlkglkpbnpaaGreatQbg
namespace Go.Proofs.YtmcmlkglkpbnpaaGreat
open Go.RowKit
attribute [local go_sem ↓] Go.wp_at_zero Go.wp_at_succ
def wroteR (S : RS) (n : Int) (m : Nat) (p : ByteArray) : RS := ({ S with f := S.f.set (n - 1).toNat ⟨(fileR S n).n, (fileR S n).safe, (fileR S n).l ++ [⟨false, m, p⟩], doneR (fileR S n).p ⟨false, m, p⟩ p.size⟩ } : RS).counts
def writeR (S : RS) (n pos : Int) (p : ByteArray) : Int × RS := if thereR S n ≠ 0 then (thereR S n, S) else if pos < 0 ∨ (fileR S n).p.size < pos then (2, S)
 else if (fileR S n).p.size < pos + p.size ∧ S.cap < usedN S S.d.length + (pos + p.size - (fileR S n).p.size) then (5, S) else (0, wroteR S n pos.toNat p)
set_option maxHeartbeats 4000000 in
set_option maxRecDepth 100000 in
theorem rWrite_any (g : Nat) (S : RS) (bs : List Nat) (vs : List Value) (vF vD vS vM : Value) (n pos : Int) (p : ByteArray) (w : World) (h : RAt w g S bs vs vF vD vS vM) (ok : ROk S) (hp : p.size ≤ 100000000) :
  Calls Tryz.prog 41 #[.pointer (some ⟨g, 0, none⟩), .int .i64 n, .int .i64 pos, .string p] w fun e w' => e = .returned (.int .i64 (writeR S n pos p).1) ∧ RTo w g bs vs vF vD vS vM (writeR S n pos p).2 w' := by
 have HS : Hid (∀ q, RTo w g bs vs vF vD vS vM S (w.drewN q)) := hide fun q => ⟨_, _, _, _, _, _, h.gb h.lt (gb_drewN (gb_refl w none) q), fun _ h => .inl h, Turned.of_gb (gb_drewN (gb_refl w none) q) (by simp)⟩
 by_cases h0 : thereR S n = 0
 ·have hn := (thereR_has h0).2
  obtain ⟨_, hk⟩ := there_has ok.num hn
  obtain ⟨b, v, hb, hv, hf⟩ := h.file ok.num hn
  have HT := hide (rThere_ok g S bs vs vF vD vS vM n b w h ok.num h0 hb)
  obtain ⟨P, hP⟩ : ∃ P, P = (fileR S n).p := ⟨_, rfl⟩
  obtain ⟨x, hx⟩ : ∃ x, x = fileR S n := ⟨_, rfl⟩
  have hPs : P.size ≤ 1000000000 := by
   rw [hP]
   unfold fileR
   rw [List.getD_eq_getElem?_getD, List.getElem?_eq_getElem hk]
   exact ok.p _ (List.getElem_mem hk)
  have hLs : x.l.length ≤ 1000000 := by
   rw [hx]
   unfold fileR
   rw [List.getD_eq_getElem?_getD, List.getElem?_eq_getElem hk]
   exact ok.l _ (List.getElem_mem hk)
  rw [← hx] at hf hP
  have b3 : w.cell? ⟨b, 3, none⟩ = some (.string P) := by rw [blk_cell hf.box, hP]; rfl
  by_cases h1 : pos < 0
  ·rw [show writeR S n pos p = (2, S) by simp [writeR, h0, h1]]
   clear h ok h0 hn hk hb hv hf hP hx
   go_enter Tryz.func41, Tryz.ntmps41
   go_wp2_with (go_at_call 40; refine HT.out.mono ?_; rintro e wx ⟨rfl, rfl⟩)
   go_ret
   exact ⟨rfl, HS.out 0⟩
  ·by_cases h2 : (P.size : Int) < pos
   ·rw [show writeR S n pos p = (2, S) by simp [writeR, h0, ← hx, ← hP, h2]]
    clear h ok h0 hn hk hb hv hf hP hx
    go_enter Tryz.func41, Tryz.ntmps41
    go_wp2_with (go_at_call 40; refine HT.out.mono ?_; rintro e wx ⟨rfl, rfl⟩)
    go_ret
    exact ⟨rfl, HS.out 0⟩
   ·obtain ⟨m, rfl⟩ : ∃ m : Nat, pos = (m : Int) := ⟨pos.toNat, by omega⟩
    have HU : Hid (∀ q, Calls Tryz.prog 78 #[.pointer (some ⟨g, 0, none⟩)] (w.drewN q) fun e w' => e = .returned (.int .i64 (usedN S S.d.length : Int)) ∧ ∃ k, w' = (w.drewN q).drewN k) := hide fun q => rUsed_q g S bs vs vF vD vS vM _ (h.gb h.lt (gb_drewN (gb_refl w none) q)) ok.num.1 ok.num.2 ok.dl ok.p
    have hul : usedN S S.d.length ≤ 1000000000000000 := Nat.le_trans (usedN_le ok.p _ (Nat.le_refl _)) (by have := ok.dl; omega)
    obtain ⟨U, hU⟩ : ∃ U, U = usedN S S.d.length := ⟨_, rfl⟩
    rw [← hU] at HU hul
    have b4 : w.cell? ⟨g, 4, none⟩ = some (.int .i64 S.cap) := by rw [blk_cell h.box]; rfl
    have h3 : ¬ ((m : Int) < 0) := by omega
    have h4 : ¬ (P.size < m) := by omega
    have k1 : IntKind.i64.wrap ((m : Int) + (p.size : Int)) = (m : Int) + (p.size : Int) := by rw [IntKind.wrap_i64]; omega
    have k2 : IntKind.i64.wrap ((m : Int) + (p.size : Int) - (P.size : Int)) = (m : Int) + (p.size : Int) - (P.size : Int) := by rw [IntKind.wrap_i64]; omega
    by_cases h5 : P.size < m + p.size
    ·obtain ⟨d, hd⟩ : ∃ d : Nat, m + p.size = P.size + d := ⟨m + p.size - P.size, by omega⟩
     have hd0 : 0 < d := by omega
     have k3 : (m : Int) + (p.size : Int) - (P.size : Int) = (d : Int) := by omega
     have k4 : IntKind.i64.wrap ((U : Int) + (d : Int)) = ((U + d : Nat) : Int) := by rw [IntKind.wrap_i64]; omega
     have h7 : (0 : Int) < (d : Int) := by omega
     by_cases h6 : S.cap < (U + d : Nat)
     ·have h8 : S.cap < (U : Int) + (d : Int) := by omega
      rw [show writeR S n m p = (5, S) by rw [hP, hx] at h4 h5 hd; simp only [writeR, h0, ← hU]; rw [if_neg (by simp), if_neg (by omega), if_pos ⟨by omega, by omega⟩]]
      clear h ok h0 hn hk hb hv hf hP hx hU h1 h2 h5 hd
      go_enter Tryz.func41, Tryz.ntmps41
      go_upto_region 7 with (go_at_call 40; refine HT.out.mono ?_; rintro e wx ⟨rfl, rfl⟩)
      go_quiet ((go_at_call 78; exact Calls.quiet_of (HU.out _)))
      go_wp2_with fail
      go_ret
      exact ⟨rfl, HS.out _⟩
     ·have h8 : ¬ (S.cap < (U : Int) + (d : Int)) := by omega
      obtain ⟨Z, hZ⟩ : ∃ Z, Z = doneR P ⟨false, m, p⟩ p.size := ⟨_, rfl⟩
      have HDO : Hid (∀ wx, Calls Tryz.prog 37 #[.string P, .agg #[.bool false, .int .i64 (m : Int), .string p], .int .i64 (p.size : Int)] wx fun e w' => e = .returned (.string Z) ∧ wx.grownBy w' none) := hide fun wx => by rw [hZ]; exact rDone_any P ⟨false, m, p⟩ p.size wx (by show m ≤ P.size; omega) (.inr (Nat.le_refl _)) hPs (by show p.size ≤ 1000000000; omega)
      obtain ⟨L, hL⟩ : ∃ L, L = x.l ++ [(⟨false, m, p⟩ : RD)] := ⟨_, rfl⟩
      have HE : Hid (writeR S n m p = (0, ({ S with f := S.f.set (n - 1).toNat ⟨x.n, x.safe, L, Z⟩ } : RS).counts)) := hide (by rw [hL, hZ, hP, hx]; rw [hP, hx] at h4 h5 hd; simp only [writeR, h0, ← hU]; rw [if_neg (by simp), if_neg (by omega), if_neg (fun hc => h6 (by have := hc.2; omega))]; rfl)
      have HH := hide h
      have HFF := hide hf
      have HLL := hide hL
      have HPP := hide hP
      have HKK := hide hk
      have HBB := hide hb
      have HVV := hide hv
      have HOK := hide ok
      have HLS := hide hLs
      clear h ok h0 hn hk hb hv hf hP hx hL hZ hU h1 h2 h5 hd hPs hLs
      go_enter Tryz.func41, Tryz.ntmps41
      go_upto_region 7 with (go_at_call 40; refine HT.out.mono ?_; rintro e wx ⟨rfl, rfl⟩)
      go_quiet ((go_at_call 78; exact Calls.quiet_of (HU.out _)))
      obtain ⟨wd, hwd⟩ : ∃ wd, wd = w.drewN nq := ⟨_, rfl⟩
      rw [← hwd]
      have hgd : w.grownBy wd none := by rw [hwd]; exact gb_drewN (gb_refl w none) nq
      have HGD := hide hgd
      have h := HH.out.gb HH.out.lt hgd
      have hf : RFAt wd b v x := HFF.out.keep (by rw [hwd]; rfl) (fun i _ => by rw [hwd]; rfl)
      have hL := HLL.out
      have hP := HPP.out
      have hk := HKK.out
      have hb := HBB.out
      have hv := HVV.out
      have ok := HOK.out
      have hLs := HLS.out
      have hb1 : wd.grownBy (wd.alloc (.cells #[.bool false, .int .i64 (m : Int), .string p] 111)) none := gb_alloc (gb_refl wd none) _
      obtain ⟨w1, hw1⟩ : ∃ w1, w1 = wd.alloc (.cells #[.bool false, .int .i64 (m : Int), .string p] 111) := ⟨_, rfl⟩
      rw [← hw1] at hb1
      have HQ : Hid (w1.heap[wd.heap.size]? = some (.cells #[.bool false, .int .i64 (m : Int), .string p] 111 (0, 0))) := hide (by rw [hw1]; exact heap_alloc_new wd _)
      have HX : Hid (w1.heap[b]? = some (.cells #[.int .i64 (x.n : Int), .string x.safe, v, .string P] 108 (0, 0))) := hide ((hb1.block b (blk_lt hf.box) (by simp)).trans (by rw [hP]; exact hf.box))
      have HRW := hide (hf.row.kept hb1 (by cases v.ownBlock <;> simp))
      have HLT : Hid (∀ i, v.ownBlock = some i → i < wd.heap.size) := hide fun i hi => (hf.row.lt i hi).2
      have HLB := hide (blk_lt hf.box)
      have b2 : w1.cell? ⟨b, 2, none⟩ = some v := by rw [blk_cell HX.out]; rfl
      have z2 := blk_frozen HX.out 2
      have p0 : w1.cell? ⟨wd.heap.size, 0, none⟩ = some (.bool false) := by rw [blk_cell HQ.out]; rfl
      have p1 : w1.cell? ⟨wd.heap.size, 1, none⟩ = some (.int .i64 (m : Int)) := by rw [blk_cell HQ.out]; rfl
      have p2 : w1.cell? ⟨wd.heap.size, 2, none⟩ = some (.string p) := by rw [blk_cell HQ.out]; rfl
      have r2 : (w1.alloc (.cells #[.bool false, .int .i64 (m : Int), .string p] 111)).cell? ⟨b, 2, none⟩ = some v := cell_grown b2 (gb_alloc (gb_refl w1 none) _)
      have n2 := World.new_ne w1 _ b2
      have HGA := hide (gb_alloc (gb_refl w1 none) (.cells #[.bool false, .int .i64 (m : Int), .string p] 111))
      have HLA : Hid (∀ k, ((w1.alloc (.cells #[.bool false, .int .i64 (m : Int), .string p] 111)).drewN k).ownsRow 0 111 3 v x.l.length (encD x.l)) := hide fun k => HRW.out.kept (gb_drewN HGA.out k) (by cases v.ownBlock <;> simp)
      have HRD : Hid (∀ k, Rd ((w1.alloc (.cells #[.bool false, .int .i64 (m : Int), .string p] 111)).drewN k) (w1.heap.size + 1) (some ⟨w1.heap.size, 0, none⟩) (encD [⟨false, m, p⟩])) := hide fun _ => Rd.new w1 #[.bool false, .int .i64 (m : Int), .string p] 111 _ rfl
      have HL1 : Hid (L.length ≤ 1000000000) := hide (by rw [hL]; simp; omega)
      have HL := hide hL
      have HG1 := hide hb1
      have HW1 := hide hw1
      have H := hide h
      have HK := hide hk
      have HBK := hide hb
      have HVK := hide hv
      have OKO := hide ok.ops
      have OKL := hide ok.left
      have HDN := HDO
      clear h ok hk hb hv hf hP hL hb1 hw1 hwd hgd hLs b4
      go_upto_region 10 with fail
      rw [← HW1.out]
      go_region_law (refine stepD (by rfl) (.tmp 64) (.tmp 66) (by rfl) 0 x.l.length 1 L x.l [⟨false, m, p⟩] v (by rfl) (HLA.out _) rfl rfl (w1.heap.size + 1) (some ⟨w1.heap.size, 0, none⟩) 1 (by rfl) (HRD.out _) HL.out HL1.out (Nat.zero_le _) ?_; intro A5 c5 w5 ho5 hg5 hb5; have HO5 := hide ho5; have HG5 : Hid (Turned (fun i => v.ownBlock = some i) w1 w5) := hide ((Turned.of_gb (M := fun i => v.ownBlock = some i) (gb_drewN HGA.out _) (by simp)).trans (Turned.of_gb (M := fun i => v.ownBlock = some i) hg5 (fun i e => e)) (fun i _ h => h)); have HB5 := hide hb5; have HF5 := hide ((HG5.out.block b (blk_lt HX.out) (own_not HRW.out HX.out (by decide))).trans HX.out); have HQ5 := hide ((HG5.out.block _ (blk_lt HQ.out) (fun e => by have := HLT.out _ e; omega)).trans HQ.out); have t2 : w5.cell? ⟨b, 2, none⟩ = some v := (by { rw [blk_cell HF5.out]; rfl }); have y2 := blk_frozen HF5.out 2; clear ho5 hg5 hb5)
      all_goals
       obtain ⟨w6, hw6⟩ : ∃ w6, w6 = w5.setCell ⟨b, 2, none⟩ (.slice A5 L.length c5) := ⟨_, rfl⟩
       have hg6 : w5.grownBy w6 (some b) := by rw [hw6]; exact gb_set (gb_refl w5 (some b)) 2 _
       have HF6 : Hid (w6.heap[b]? = some (.cells #[.int .i64 (x.n : Int), .string x.safe, .slice A5 L.length c5, .string P] 108 (0, 0))) := hide (by rw [hw6]; exact blk_set HF5.out 2 _)
       have hq6 : w6.heap[wd.heap.size]? = some (.cells #[.bool false, .int .i64 (m : Int), .string p] 111 (0, 0)) := (hg6.block _ (blk_lt HQ5.out) (fun e => by injection e with e; have := HLB.out; omega)).trans HQ5.out
       have HO6 := hide (HO5.out.kept hg6 (.inr (own_not HO5.out HF5.out (by decide))))
       have HG6 := hide hg6
       have q3 : w6.cell? ⟨b, 3, none⟩ = some (.string P) := by rw [blk_cell HF6.out]; rfl
       have x3 := blk_frozen HF6.out 3
       have s0 : w6.cell? ⟨wd.heap.size, 0, none⟩ = some (.bool false) := by rw [blk_cell hq6]; rfl
       have s1 : w6.cell? ⟨wd.heap.size, 1, none⟩ = some (.int .i64 (m : Int)) := by rw [blk_cell hq6]; rfl
       have s2 : w6.cell? ⟨wd.heap.size, 2, none⟩ = some (.string p) := by rw [blk_cell hq6]; rfl
       rw [← hw6]
       clear hw6 hg6 hq6 b2 b3 p0 p1 p2 r2 n2 t2 y2 z2
       go_wp2_with fail
       go_region_law (go_simp; go_at_call 37; refine (HDN.out _).mono ?_; rintro e w7 ⟨rfl, hg7⟩; have HG7 : Hid (w6.grownBy w7 none) := hide (gb_trans (gb_drew (gb_refl w6 none)) hg7 (.inl rfl)); have HF7 := hide ((HG7.out.block b (blk_lt HF6.out) (by simp)).trans HF6.out); have t3 : w7.cell? ⟨b, 3, none⟩ = some (.string P) := (by { rw [blk_cell HF7.out]; rfl }); have y3 := blk_frozen HF7.out 3; clear hg7)
       all_goals
        obtain ⟨w8, hw8⟩ : ∃ w8, w8 = w7.setCell ⟨b, 3, none⟩ (.string Z) := ⟨_, rfl⟩
        have hg8 : w7.grownBy w8 (some b) := by rw [hw8]; exact gb_set (gb_refl w7 (some b)) 3 _
        have hb8 : w8.heap[b]? = some (.cells #[.int .i64 (x.n : Int), .string x.safe, .slice A5 L.length c5, .string Z] 108 (0, 0)) := by rw [hw8]; exact blk_set HF7.out 3 _
        have ho8 := (HO6.out.kept HG7.out (by cases (Value.slice A5 L.length c5).ownBlock <;> simp)).kept hg8 (.inr (own_not (HO6.out.kept HG7.out (by cases (Value.slice A5 L.length c5).ownBlock <;> simp)) HF7.out (by decide)))
        have hT8 : Turned (fun i => i = b ∨ v.ownBlock = some i) wd w8 := ((((Turned.of_gb (M := fun i => i = b ∨ v.ownBlock = some i) HG1.out (by simp)).trans HG5.out (fun i _ h => .inr h)).trans (Turned.of_gb (M := fun i => i = b) HG6.out (fun i e => by injection e with e; exact e.symm)) (fun i _ h => .inl h)).trans (Turned.of_gb (M := fun i => i = b) HG7.out (by simp)) (fun i _ h => .inl h)).trans (Turned.of_gb (M := fun i => i = b) hg8 (fun i e => by injection e with e; exact e.symm)) (fun i _ h => .inl h)
        have hv8 : (Value.slice A5 L.length c5).ownBlock = none ∨ (Value.slice A5 L.length c5).ownBlock = v.ownBlock ∨ ∃ i, (Value.slice A5 L.length c5).ownBlock = some i ∧ wd.heap.size ≤ i := by
         rcases HB5.out with e | e
         ·exact .inr (.inl e)
         ·exact .inr (.inr ⟨_, e, Nat.le_trans HG1.out.size (by simp)⟩)
        have HR8 := hide (H.out.filed HK.out HBK.out HVK.out ⟨x.n, x.safe, L, Z⟩ (.slice A5 L.length c5) hT8 hb8 ho8 hv8)
        have HO8 := hide (ROwn.filed (g := g) (bs := bs) (vF := vF) (vD := vD) (vS := vS) (vM := vM) (v' := .slice A5 L.length c5) (by rw [H.out.lv]; exact HK.out) HVK.out wd.heap.size hv8)
        have HM8 := hide (hT8.mono (M' := ROwn g bs vs vF vD vS vM) fun i _ hi => ROwn.mine H.out HK.out HBK.out HVK.out i hi)
        rw [← hw8]
        clear hw8 hg8 hb8 ho8 hT8 hv8 q3 x3 s0 s1 s2 t3 y3
        go_wp2_with (go_at_call 58; refine (rCounts_any g _ _ _ _ _ _ _ _ HR8.out OKO.out OKL.out).mono ?_; rintro e w9 ⟨rfl, h9, hT9⟩; have HR9 := hide h9; have HT9 := hide hT9; clear h9 hT9)
        go_ret
        rw [HE.out]
        exact ⟨rfl, RTo.before (w := wd) ⟨_, _, _, _, _, _, HR9.out, HO8.out, HM8.out.trans HT9.out fun i _ hi => .inl hi⟩ HGD.out⟩
    ·have k5 : (m : Int) + (p.size : Int) - (P.size : Int) ≤ 0 := by omega
     have k6 : (if (m : Int) + (p.size : Int) - (P.size : Int) < 0 then (0 : Int) else (m : Int) + (p.size : Int) - (P.size : Int)) = 0 := by split <;> omega
     clear k5
     obtain ⟨Z, hZ⟩ : ∃ Z, Z = doneR P ⟨false, m, p⟩ p.size := ⟨_, rfl⟩
     have HDO : Hid (∀ wx, Calls Tryz.prog 37 #[.string P, .agg #[.bool false, .int .i64 (m : Int), .string p], .int .i64 (p.size : Int)] wx fun e w' => e = .returned (.string Z) ∧ wx.grownBy w' none) := hide fun wx => by rw [hZ]; exact rDone_any P ⟨false, m, p⟩ p.size wx (by show m ≤ P.size; omega) (.inr (Nat.le_refl _)) hPs (by show p.size ≤ 1000000000; omega)
     obtain ⟨L, hL⟩ : ∃ L, L = x.l ++ [(⟨false, m, p⟩ : RD)] := ⟨_, rfl⟩
     have HE : Hid (writeR S n m p = (0, ({ S with f := S.f.set (n - 1).toNat ⟨x.n, x.safe, L, Z⟩ } : RS).counts)) := hide (by rw [hL, hZ, hP, hx]; rw [hP, hx] at h4 h5; simp only [writeR, h0, ← hU]; rw [if_neg (by simp), if_neg (by omega), if_neg (fun hc => by omega)]; rfl)
     have HH := hide h
     have HFF := hide hf
     have HLL := hide hL
     have HPP := hide hP
     have HKK := hide hk
     have HBB := hide hb
     have HVV := hide hv
     have HOK := hide ok
     have HLS := hide hLs
     clear h ok h0 hn hk hb hv hf hP hx hL hZ hU h1 h2 h5 hPs hLs
     go_enter Tryz.func41, Tryz.ntmps41
     go_upto_region 7 with (go_at_call 40; refine HT.out.mono ?_; rintro e wx ⟨rfl, rfl⟩)
     go_quiet ((go_at_call 78; exact Calls.quiet_of (HU.out _)))
     obtain ⟨wd, hwd⟩ : ∃ wd, wd = w.drewN nq := ⟨_, rfl⟩
     rw [← hwd]
     have hgd : w.grownBy wd none := by rw [hwd]; exact gb_drewN (gb_refl w none) nq
     have HGD := hide hgd
     have h := HH.out.gb HH.out.lt hgd
     have hf : RFAt wd b v x := HFF.out.keep (by rw [hwd]; rfl) (fun i _ => by rw [hwd]; rfl)
     have hL := HLL.out
     have hP := HPP.out
     have hk := HKK.out
     have hb := HBB.out
     have hv := HVV.out
     have ok := HOK.out
     have hLs := HLS.out
     have hb1 : wd.grownBy (wd.alloc (.cells #[.bool false, .int .i64 (m : Int), .string p] 111)) none := gb_alloc (gb_refl wd none) _
     obtain ⟨w1, hw1⟩ : ∃ w1, w1 = wd.alloc (.cells #[.bool false, .int .i64 (m : Int), .string p] 111) := ⟨_, rfl⟩
     rw [← hw1] at hb1
     have HQ : Hid (w1.heap[wd.heap.size]? = some (.cells #[.bool false, .int .i64 (m : Int), .string p] 111 (0, 0))) := hide (by rw [hw1]; exact heap_alloc_new wd _)
     have HX : Hid (w1.heap[b]? = some (.cells #[.int .i64 (x.n : Int), .string x.safe, v, .string P] 108 (0, 0))) := hide ((hb1.block b (blk_lt hf.box) (by simp)).trans (by rw [hP]; exact hf.box))
     have HRW := hide (hf.row.kept hb1 (by cases v.ownBlock <;> simp))
     have HLT : Hid (∀ i, v.ownBlock = some i → i < wd.heap.size) := hide fun i hi => (hf.row.lt i hi).2
     have HLB := hide (blk_lt hf.box)
     have b2 : w1.cell? ⟨b, 2, none⟩ = some v := by rw [blk_cell HX.out]; rfl
     have z2 := blk_frozen HX.out 2
     have p0 : w1.cell? ⟨wd.heap.size, 0, none⟩ = some (.bool false) := by rw [blk_cell HQ.out]; rfl
     have p1 : w1.cell? ⟨wd.heap.size, 1, none⟩ = some (.int .i64 (m : Int)) := by rw [blk_cell HQ.out]; rfl
     have p2 : w1.cell? ⟨wd.heap.size, 2, none⟩ = some (.string p) := by rw [blk_cell HQ.out]; rfl
     have r2 : (w1.alloc (.cells #[.bool false, .int .i64 (m : Int), .string p] 111)).cell? ⟨b, 2, none⟩ = some v := cell_grown b2 (gb_alloc (gb_refl w1 none) _)
     have n2 := World.new_ne w1 _ b2
     have HGA := hide (gb_alloc (gb_refl w1 none) (.cells #[.bool false, .int .i64 (m : Int), .string p] 111))
     have HLA : Hid (∀ k, ((w1.alloc (.cells #[.bool false, .int .i64 (m : Int), .string p] 111)).drewN k).ownsRow 0 111 3 v x.l.length (encD x.l)) := hide fun k => HRW.out.kept (gb_drewN HGA.out k) (by cases v.ownBlock <;> simp)
     have HRD : Hid (∀ k, Rd ((w1.alloc (.cells #[.bool false, .int .i64 (m : Int), .string p] 111)).drewN k) (w1.heap.size + 1) (some ⟨w1.heap.size, 0, none⟩) (encD [⟨false, m, p⟩])) := hide fun _ => Rd.new w1 #[.bool false, .int .i64 (m : Int), .string p] 111 _ rfl
     have HL1 : Hid (L.length ≤ 1000000000) := hide (by rw [hL]; simp; omega)
     have HL := hide hL
     have HG1 := hide hb1
     have HW1 := hide hw1
     have H := hide h
     have HK := hide hk
     have HBK := hide hb
     have HVK := hide hv
     have OKO := hide ok.ops
     have OKL := hide ok.left
     have HDN := HDO
     clear h ok hk hb hv hf hP hL hb1 hw1 hwd hgd hLs b4
     go_upto_region 10 with fail
     rw [← HW1.out]
     go_region_law (refine stepD (by rfl) (.tmp 64) (.tmp 66) (by rfl) 0 x.l.length 1 L x.l [⟨false, m, p⟩] v (by rfl) (HLA.out _) rfl rfl (w1.heap.size + 1) (some ⟨w1.heap.size, 0, none⟩) 1 (by rfl) (HRD.out _) HL.out HL1.out (Nat.zero_le _) ?_; intro A5 c5 w5 ho5 hg5 hb5; have HO5 := hide ho5; have HG5 : Hid (Turned (fun i => v.ownBlock = some i) w1 w5) := hide ((Turned.of_gb (M := fun i => v.ownBlock = some i) (gb_drewN HGA.out _) (by simp)).trans (Turned.of_gb (M := fun i => v.ownBlock = some i) hg5 (fun i e => e)) (fun i _ h => h)); have HB5 := hide hb5; have HF5 := hide ((HG5.out.block b (blk_lt HX.out) (own_not HRW.out HX.out (by decide))).trans HX.out); have HQ5 := hide ((HG5.out.block _ (blk_lt HQ.out) (fun e => by have := HLT.out _ e; omega)).trans HQ.out); have t2 : w5.cell? ⟨b, 2, none⟩ = some v := (by { rw [blk_cell HF5.out]; rfl }); have y2 := blk_frozen HF5.out 2; clear ho5 hg5 hb5)
     all_goals
      obtain ⟨w6, hw6⟩ : ∃ w6, w6 = w5.setCell ⟨b, 2, none⟩ (.slice A5 L.length c5) := ⟨_, rfl⟩
      have hg6 : w5.grownBy w6 (some b) := by rw [hw6]; exact gb_set (gb_refl w5 (some b)) 2 _
      have HF6 : Hid (w6.heap[b]? = some (.cells #[.int .i64 (x.n : Int), .string x.safe, .slice A5 L.length c5, .string P] 108 (0, 0))) := hide (by rw [hw6]; exact blk_set HF5.out 2 _)
      have hq6 : w6.heap[wd.heap.size]? = some (.cells #[.bool false, .int .i64 (m : Int), .string p] 111 (0, 0)) := (hg6.block _ (blk_lt HQ5.out) (fun e => by injection e with e; have := HLB.out; omega)).trans HQ5.out
      have HO6 := hide (HO5.out.kept hg6 (.inr (own_not HO5.out HF5.out (by decide))))
      have HG6 := hide hg6
      have q3 : w6.cell? ⟨b, 3, none⟩ = some (.string P) := by rw [blk_cell HF6.out]; rfl
      have x3 := blk_frozen HF6.out 3
      have s0 : w6.cell? ⟨wd.heap.size, 0, none⟩ = some (.bool false) := by rw [blk_cell hq6]; rfl
      have s1 : w6.cell? ⟨wd.heap.size, 1, none⟩ = some (.int .i64 (m : Int)) := by rw [blk_cell hq6]; rfl
      have s2 : w6.cell? ⟨wd.heap.size, 2, none⟩ = some (.string p) := by rw [blk_cell hq6]; rfl
      rw [← hw6]
      clear hw6 hg6 hq6 b2 b3 p0 p1 p2 r2 n2 t2 y2 z2
      go_wp2_with fail
      go_region_law (go_simp; go_at_call 37; refine (HDN.out _).mono ?_; rintro e w7 ⟨rfl, hg7⟩; have HG7 : Hid (w6.grownBy w7 none) := hide (gb_trans (gb_drew (gb_refl w6 none)) hg7 (.inl rfl)); have HF7 := hide ((HG7.out.block b (blk_lt HF6.out) (by simp)).trans HF6.out); have t3 : w7.cell? ⟨b, 3, none⟩ = some (.string P) := (by { rw [blk_cell HF7.out]; rfl }); have y3 := blk_frozen HF7.out 3; clear hg7)
      all_goals
       obtain ⟨w8, hw8⟩ : ∃ w8, w8 = w7.setCell ⟨b, 3, none⟩ (.string Z) := ⟨_, rfl⟩
       have hg8 : w7.grownBy w8 (some b) := by rw [hw8]; exact gb_set (gb_refl w7 (some b)) 3 _
       have hb8 : w8.heap[b]? = some (.cells #[.int .i64 (x.n : Int), .string x.safe, .slice A5 L.length c5, .string Z] 108 (0, 0)) := by rw [hw8]; exact blk_set HF7.out 3 _
       have ho8 := (HO6.out.kept HG7.out (by cases (Value.slice A5 L.length c5).ownBlock <;> simp)).kept hg8 (.inr (own_not (HO6.out.kept HG7.out (by cases (Value.slice A5 L.length c5).ownBlock <;> simp)) HF7.out (by decide)))
       have hT8 : Turned (fun i => i = b ∨ v.ownBlock = some i) wd w8 := ((((Turned.of_gb (M := fun i => i = b ∨ v.ownBlock = some i) HG1.out (by simp)).trans HG5.out (fun i _ h => .inr h)).trans (Turned.of_gb (M := fun i => i = b) HG6.out (fun i e => by injection e with e; exact e.symm)) (fun i _ h => .inl h)).trans (Turned.of_gb (M := fun i => i = b) HG7.out (by simp)) (fun i _ h => .inl h)).trans (Turned.of_gb (M := fun i => i = b) hg8 (fun i e => by injection e with e; exact e.symm)) (fun i _ h => .inl h)
       have hv8 : (Value.slice A5 L.length c5).ownBlock = none ∨ (Value.slice A5 L.length c5).ownBlock = v.ownBlock ∨ ∃ i, (Value.slice A5 L.length c5).ownBlock = some i ∧ wd.heap.size ≤ i := by
        rcases HB5.out with e | e
        ·exact .inr (.inl e)
        ·exact .inr (.inr ⟨_, e, Nat.le_trans HG1.out.size (by simp)⟩)
       have HR8 := hide (H.out.filed HK.out HBK.out HVK.out ⟨x.n, x.safe, L, Z⟩ (.slice A5 L.length c5) hT8 hb8 ho8 hv8)
       have HO8 := hide (ROwn.filed (g := g) (bs := bs) (vF := vF) (vD := vD) (vS := vS) (vM := vM) (v' := .slice A5 L.length c5) (by rw [H.out.lv]; exact HK.out) HVK.out wd.heap.size hv8)
       have HM8 := hide (hT8.mono (M' := ROwn g bs vs vF vD vS vM) fun i _ hi => ROwn.mine H.out HK.out HBK.out HVK.out i hi)
       rw [← hw8]
       clear hw8 hg8 hb8 ho8 hT8 hv8 q3 x3 s0 s1 s2 t3 y3
       go_wp2_with (go_at_call 58; refine (rCounts_any g _ _ _ _ _ _ _ _ HR8.out OKO.out OKL.out).mono ?_; rintro e w9 ⟨rfl, h9, hT9⟩; have HR9 := hide h9; have HT9 := hide hT9; clear h9 hT9)
       go_ret
       rw [HE.out]
       exact ⟨rfl, RTo.before (w := wd) ⟨_, _, _, _, _, _, HR9.out, HO8.out, HM8.out.trans HT9.out fun i _ hi => .inl hi⟩ HGD.out⟩
 ·obtain ⟨E, hE⟩ : ∃ E, E = thereR S n := ⟨_, rfl⟩
  rw [← hE] at h0
  rw [show writeR S n pos p = (E, S) by simp [writeR, ← hE, h0]]
  have HT := hide (rThere_err g S bs vs vF vD vS vM n E w h ok.num hE.symm h0)
  have h1 : (E == 0) = false := beq_eq_false_iff_ne.2 h0
  have h2 : (E != 0) = true := by simp [bne, h1]
  clear h ok hE
  go_enter Tryz.func41, Tryz.ntmps41
  go_wp2_with (go_at_call 40; refine HT.out.mono ?_; rintro e wx ⟨rfl, rfl⟩)
  go_ret
  exact ⟨rfl, HS.out 0⟩
end Go.Proofs.YtmcmlkglkpbnpaaGreat
namespace Go.Proofs.YtmcmlkglkpbnpaaGreat
open Go.RowKit
attribute [local go_sem ↓] Go.wp_at_zero Go.wp_at_succ
def appendR (S : RS) (n : Int) (p : ByteArray) : Int × RS := if thereR S n ≠ 0 then (thereR S n, S) else writeR S n (fileR S n).p.size p
def readR (S : RS) (n pos most : Int) : ByteArray × Int := if thereR S n ≠ 0 then (⟨#[]⟩, thereR S n) else if pos < 0 ∨ (fileR S n).p.size < pos ∨ most < 0 then (⟨#[]⟩, 2)
 else ((fileR S n).p.extract pos.toNat (pos.toNat + min most.toNat ((fileR S n).p.size - pos.toNat)), 0)
set_option maxHeartbeats 4000000 in
set_option maxRecDepth 100000 in
theorem rAppend_any (g : Nat) (S : RS) (bs : List Nat) (vs : List Value) (vF vD vS vM : Value) (n : Int) (p : ByteArray) (w : World) (h : RAt w g S bs vs vF vD vS vM) (ok : ROk S) (hp : p.size ≤ 100000000) :
  Calls Tryz.prog 16 #[.pointer (some ⟨g, 0, none⟩), .int .i64 n, .string p] w fun e w' => e = .returned (.int .i64 (appendR S n p).1) ∧ RTo w g bs vs vF vD vS vM (appendR S n p).2 w' := by
 have HS := hide (RTo.same h)
 by_cases h0 : thereR S n = 0
 ·have hn := (thereR_has h0).2
  obtain ⟨b, v, hb, hv, hf⟩ := h.file ok.num hn
  have HT := hide (rThere_ok g S bs vs vF vD vS vM n b w h ok.num h0 hb)
  have HW := hide (rWrite_any g S bs vs vF vD vS vM n (fileR S n).p.size p w h ok hp)
  obtain ⟨P, hP⟩ : ∃ P, P = (fileR S n).p := ⟨_, rfl⟩
  have HE : Hid (appendR S n p = writeR S n P.size p) := hide (by rw [hP]; simp [appendR, h0])
  rw [← hP] at HW
  have b3 : w.cell? ⟨b, 3, none⟩ = some (.string P) := by rw [blk_cell hf.box, hP]; rfl
  clear h ok h0 hn hb hv hf hP
  go_enter Tryz.func16, Tryz.ntmps16
  go_wp2_with (first | (go_at_call 40; refine HT.out.mono ?_; rintro e wx ⟨rfl, rfl⟩) | (go_at_call 41; refine HW.out.mono ?_; rintro e w9 ⟨rfl, h9⟩; have H9 := hide h9; clear h9))
  go_ret
  rw [HE.out]
  exact ⟨rfl, H9.out⟩
 ·obtain ⟨E, hE⟩ : ∃ E, E = thereR S n := ⟨_, rfl⟩
  rw [← hE] at h0
  rw [show appendR S n p = (E, S) by simp [appendR, ← hE, h0]]
  have HT := hide (rThere_err g S bs vs vF vD vS vM n E w h ok.num hE.symm h0)
  have h1 : (E == 0) = false := beq_eq_false_iff_ne.2 h0
  have h2 : (E != 0) = true := by simp [bne, h1]
  clear h ok hE
  go_enter Tryz.func16, Tryz.ntmps16
  go_wp2_with (go_at_call 40; refine HT.out.mono ?_; rintro e wx ⟨rfl, rfl⟩)
  go_ret
  exact ⟨rfl, HS.out⟩
set_option maxHeartbeats 4000000 in
set_option maxRecDepth 100000 in
theorem rRead_any (g : Nat) (S : RS) (bs : List Nat) (vs : List Value) (vF vD vS vM : Value) (n pos most : Int) (w : World) (h : RAt w g S bs vs vF vD vS vM) (ok : ROk S) :
  Calls Tryz.prog 50 #[.pointer (some ⟨g, 0, none⟩), .int .i64 n, .int .i64 pos, .int .i64 most] w fun e w' => e = .returned (.tuple #[.string (readR S n pos most).1, .int .i64 (readR S n pos most).2]) ∧ w.grownBy w' none := by
 by_cases h0 : thereR S n = 0
 ·have hn := (thereR_has h0).2
  obtain ⟨_, hk⟩ := there_has ok.num hn
  obtain ⟨b, v, hb, hv, hf⟩ := h.file ok.num hn
  have HT := hide (rThere_ok g S bs vs vF vD vS vM n b w h ok.num h0 hb)
  obtain ⟨P, hP⟩ : ∃ P, P = (fileR S n).p := ⟨_, rfl⟩
  have hPs : P.size ≤ 1000000000 := by
   rw [hP]
   unfold fileR
   rw [List.getD_eq_getElem?_getD, List.getElem?_eq_getElem hk]
   exact ok.p _ (List.getElem_mem hk)
  have b3 : w.cell? ⟨b, 3, none⟩ = some (.string P) := by rw [blk_cell hf.box, hP]; rfl
  by_cases h1 : pos < 0
  ·rw [show readR S n pos most = (⟨#[]⟩, 2) by simp [readR, h0, h1]]
   clear h ok h0 hn hk hb hv hf hP
   go_enter Tryz.func50, Tryz.ntmps50
   go_wp2_with (go_at_call 40; refine HT.out.mono ?_; rintro e wx ⟨rfl, rfl⟩)
   go_ret2
   exact ⟨rfl, gb_refl w none⟩
  ·by_cases h2 : (P.size : Int) < pos
   ·rw [show readR S n pos most = (⟨#[]⟩, 2) by simp [readR, h0, ← hP, h2]]
    clear h ok h0 hn hk hb hv hf hP
    go_enter Tryz.func50, Tryz.ntmps50
    go_wp2_with (go_at_call 40; refine HT.out.mono ?_; rintro e wx ⟨rfl, rfl⟩)
    go_ret2
    exact ⟨rfl, gb_refl w none⟩
   ·by_cases h3 : most < 0
    ·rw [show readR S n pos most = (⟨#[]⟩, 2) by simp [readR, h0, h3]]
     clear h ok h0 hn hk hb hv hf hP
     go_enter Tryz.func50, Tryz.ntmps50
     go_wp2_with (go_at_call 40; refine HT.out.mono ?_; rintro e wx ⟨rfl, rfl⟩)
     go_ret2
     exact ⟨rfl, gb_refl w none⟩
    ·obtain ⟨m, rfl⟩ : ∃ m : Nat, pos = (m : Int) := ⟨pos.toNat, by omega⟩
     obtain ⟨k, rfl⟩ : ∃ k : Nat, most = (k : Int) := ⟨most.toNat, by omega⟩
     have h4 : ¬ ((m : Int) < 0) := by omega
     have h5 : ¬ (P.size < m) := by omega
     have h6 : ¬ ((k : Int) < 0) := by omega
     have k1 : IntKind.i64.wrap ((P.size : Int) - (m : Int)) = (P.size : Int) - (m : Int) := by rw [IntKind.wrap_i64]; omega
     by_cases h7 : P.size < m + k
     ·have HE : Hid (readR S n m k = (P.extract m P.size, 0)) := hide (by
       rw [hP] at h5 h7 ⊢
       simp only [readR, h0]
       rw [if_neg (by simp), if_neg (by omega)]
       simp only [Int.toNat_natCast]
       rw [show m + min k ((fileR S n).p.size - m) = (fileR S n).p.size by omega])
      have h8 : (P.size : Int) - (m : Int) < (k : Int) := by omega
      have k2 : IntKind.i64.wrap ((m : Int) + ((P.size : Int) - (m : Int))) = (P.size : Int) := by rw [IntKind.wrap_i64]; omega
      have k3 : m ≤ P.size := by omega
      clear h ok h0 hn hk hb hv hf hP h1 h2 h3 h7
      go_enter Tryz.func50, Tryz.ntmps50
      go_upto_region 6 with (go_at_call 40; refine HT.out.mono ?_; rintro e wx ⟨rfl, rfl⟩)
      go_quiet (fail)
      go_wp2_with fail
      go_ret2
      rw [HE.out]
      exact ⟨rfl, gb_drewN (gb_refl w none) _⟩
     ·have HE : Hid (readR S n m k = (P.extract m (m + k), 0)) := hide (by
       rw [hP] at h5 h7 ⊢
       simp only [readR, h0]
       rw [if_neg (by simp), if_neg (by omega)]
       simp only [Int.toNat_natCast]
       rw [show min k ((fileR S n).p.size - m) = k by omega])
      have h8 : ¬ ((P.size : Int) - (m : Int) < (k : Int)) := by omega
      have k2 : IntKind.i64.wrap ((m : Int) + (k : Int)) = ((m + k : Nat) : Int) := by rw [IntKind.wrap_i64]; omega
      have k3 : m ≤ m + k := by omega
      have k4 : m + k ≤ P.size := by omega
      clear h ok h0 hn hk hb hv hf hP h1 h2 h3 h7
      go_enter Tryz.func50, Tryz.ntmps50
      go_upto_region 6 with (go_at_call 40; refine HT.out.mono ?_; rintro e wx ⟨rfl, rfl⟩)
      go_quiet (fail)
      go_wp2_with fail
      go_ret2
      rw [HE.out]
      exact ⟨rfl, gb_drewN (gb_refl w none) _⟩
 ·obtain ⟨E, hE⟩ : ∃ E, E = thereR S n := ⟨_, rfl⟩
  rw [← hE] at h0
  rw [show readR S n pos most = (⟨#[]⟩, E) by simp [readR, ← hE, h0]]
  have HT := hide (rThere_err g S bs vs vF vD vS vM n E w h ok.num hE.symm h0)
  have h1 : (E == 0) = false := beq_eq_false_iff_ne.2 h0
  have h2 : (E != 0) = true := by simp [bne, h1]
  clear h ok hE
  go_enter Tryz.func50, Tryz.ntmps50
  go_wp2_with (go_at_call 40; refine HT.out.mono ?_; rintro e wx ⟨rfl, rfl⟩)
  go_ret2
  exact ⟨rfl, gb_refl w none⟩
end Go.Proofs.YtmcmlkglkpbnpaaGreat
namespace Go.Proofs.YtmcmlkglkpbnpaaGreat
open Go.RowKit
attribute [local go_sem ↓] Go.wp_at_zero Go.wp_at_succ
theorem RAt.rows3 {w w' : World} {g : Nat} {S : RS} {bs : List Nat} {vs : List Value} {vF vD vS vM vD' vS' vM' : Value} (h : RAt w g S bs vs vF vD vS vM) (d s : List RE) (m : List RM) (hT : Turned (fun i => i = g) w w')
  (hD : w'.ownsRow 0 151 2 vD' d.length (encE d)) (hS : w'.ownsRow 0 151 2 vS' s.length (encE s)) (hm : w'.ownsRow 0 103 4 vM' m.length (encM m)) (cap ops left : Int) (off : Bool)
  (hb : w'.heap[g]? = some (.cells #[vF, vD', vS', vM', .int .i64 cap, .int .i64 ops, .int .i64 left, .bool off, .int .i64 0] 86 (0, 0))) : RAt w' g ⟨S.f, d, s, m, cap, ops, left, off⟩ bs vs vF vD' vS' vM' := by
 have so : ∀ {base n size : Nat} {e : TypeId} {v : Value} {xs : List Value}, w.ownsRow base e size v n xs → e ≠ 86 → w'.ownsRow base e size v n xs := fun ho h1 => own_blk ho fun i hi => hT.block i (ho.lt i hi).2 fun e => own_not ho h.box h1 (by rw [hi, e])
 refine ⟨hb, so h.rF (by decide), hD, hS, hm, h.lb, h.lv, ?_, h.nd, h.ap⟩
 intro i hi
 obtain ⟨b, _, h2, h3⟩ := h.blk hi
 have hf := h.fl i hi
 rw [h2] at hf ⊢
 exact ⟨(hT.block b (blk_lt hf.box) h3).trans hf.box, so hf.row (by decide)⟩
def syncDirR (S : RS) : Int × RS := if S.off then (21, S) else (0, ({ S with safe := S.d, m := [] } : RS).counts)
set_option maxHeartbeats 4000000 in
set_option maxRecDepth 100000 in
theorem rSyncDir_any (g : Nat) (S : RS) (bs : List Nat) (vs : List Value) (vF vD vS vM : Value) (w : World) (h : RAt w g S bs vs vF vD vS vM) (ok : ROk S) :
  Calls Tryz.prog 47 #[.pointer (some ⟨g, 0, none⟩)] w fun e w' => e = .returned (.int .i64 (syncDirR S).1) ∧ RTo w g bs vs vF vD vS vM (syncDirR S).2 w' := by
 have HS := hide (RTo.same h)
 have b7 : w.cell? ⟨g, 7, none⟩ = some (.bool S.off) := by rw [blk_cell h.box]; rfl
 cases h1 : S.off with
 | true =>
  rw [h1] at b7
  rw [show syncDirR S = (21, S) by simp [syncDirR, h1]]
  clear h h1 ok
  go_enter Tryz.func47, Tryz.ntmps47
  go_wp2_with fail
  go_ret
  exact ⟨rfl, HS.out⟩
 | false =>
  rw [h1] at b7
  have HE : Hid (syncDirR S = (0, ({ S with safe := S.d, m := [] } : RS).counts)) := hide (by simp [syncDirR, h1])
  have hdl := ok.dl
  obtain ⟨wb, hwb⟩ : ∃ wb, wb = w.alloc (.cells #[] 151) := ⟨_, rfl⟩
  have hgb : w.grownBy wb none := by rw [hwb]; exact gb_alloc (gb_refl w none) _
  have hb := h.gb h.lt hgb
  obtain ⟨A, c, hvD, hc, hm⟩ := own_form0 hb.rD
  subst hvD
  have HO : Hid (wb.ownsRow w.heap.size 151 2 (.slice (some ⟨w.heap.size, 0, none⟩) 0 0) 0 (encE [])) := hide (own_none (by rw [hwb]; exact heap_alloc_new w _) (Nat.le_refl _))
  have HR : Hid (Rd wb wb.heap.size A (encE S.d)) := hide (rd_own hb.rD)
  have HLE : Hid (S.d = [] ++ S.d) := hide rfl
  have HLL : Hid (S.d.length ≤ 1000000000) := hide (by omega)
  have b1 : wb.cell? ⟨g, 1, none⟩ = some (.slice A S.d.length c) := by rw [blk_cell hb.box]; rfl
  have H := hide h
  have HWB := hide hwb
  have HGB := hide hgb
  have HB := hide hb
  have OKO := hide ok.ops
  have OKL := hide ok.left
  clear h ok h1 hdl hwb hgb hb hc hm
  have b1w : w.cell? ⟨g, 1, none⟩ = some (.slice A S.d.length c) := by rw [blk_cell H.out.box]; rfl
  have n1 := World.new_ne w _ b1w
  have b1a : (w.alloc (.cells #[] 151)).cell? ⟨g, 1, none⟩ = some (.slice A S.d.length c) := by rw [← HWB.out]; exact b1
  go_enter Tryz.func47, Tryz.ntmps47
  go_wp2_with (at_builtin; rw [← HWB.out]; refine wpListE rfl (.tmp 8) (.tmp 12) rfl w.heap.size 0 S.d.length S.d [] S.d (.slice (some ⟨w.heap.size, 0, none⟩) 0 0) rfl HO.out rfl rfl wb.heap.size A _ rfl HR.out HLE.out HLL.out HGB.out.size ?_; intro A1 c1 w1 ho1 hg1 hb1; have HO1 := hide ho1; have HG1 := hide (gb_row HGB.out HO.out (Nat.le_refl _) hg1); have HR1 := hide (H.out.gb H.out.lt HG1.out); have t2 : w1.cell? ⟨g, 2, none⟩ = some vS := (by { rw [blk_cell HR1.out.box]; rfl }); have t3 : w1.cell? ⟨g, 3, none⟩ = some vM := (by { rw [blk_cell HR1.out.box]; rfl }); have y2 := blk_frozen HR1.out.box 2; have y3 := blk_frozen HR1.out.box 3; clear ho1 hg1 hb1 b1w n1 b1a b1)
  obtain ⟨w3, hw3⟩ : ∃ w3, w3 = (w1.setCell ⟨g, 2, none⟩ (.slice A1 S.d.length c1)).setCell ⟨g, 3, none⟩ (.slice none 0 0) := ⟨_, rfl⟩
  rw [← hw3]
  have hg3 : w1.grownBy w3 (some g) := by rw [hw3]; exact gb_set (gb_set (gb_refl w1 (some g)) 2 _) 3 _
  have hT3 : Turned (fun i => i = g) w1 w3 := Turned.of_gb hg3 (fun i e => by injection e with e; exact e.symm)
  have hb3 : w3.heap[g]? = some (.cells #[vF, .slice A S.d.length c, .slice A1 S.d.length c1, .slice none 0 0, .int .i64 S.cap, .int .i64 S.ops, .int .i64 S.left, .bool S.off, .int .i64 0] 86 (0, 0)) := by rw [hw3]; exact blk_set (blk_set HR1.out.box 2 _) 3 _
  have hR3 : RAt w3 g ⟨S.f, S.d, S.d, [], S.cap, S.ops, S.left, S.off⟩ bs vs vF (.slice A S.d.length c) (.slice A1 S.d.length c1) (.slice none 0 0) := HR1.out.rows3 S.d S.d [] hT3 (HR1.out.rD.kept hg3 (.inr (own_not HR1.out.rD HR1.out.box (by decide)))) (ownsRow_less (HO1.out.kept hg3 (.inr (own_not HO1.out HR1.out.box (by decide)))) (Nat.zero_le _)) ⟨rfl, .inl ⟨rfl, rfl⟩⟩ _ _ _ _ hb3
  have HR3 := hide hR3
  have HT3 := hide hT3
  clear hw3 hg3 hT3 hb3 hR3 t2 t3 y2 y3
  go_wp2_with (go_at_call 58; refine (rCounts_any g _ _ _ _ _ _ _ _ HR3.out OKO.out OKL.out).mono ?_; rintro e w9 ⟨rfl, h9, hT9⟩; have HR9 := hide h9; have HT9 := hide hT9; clear h9 hT9)
  go_ret
  rw [HE.out]
  refine ⟨rfl, _, _, _, _, _, _, HR9.out, fun i hi => ?_, (((Turned.of_gb (M := ROwn g bs vs vF (.slice A S.d.length c) vS vM) HG1.out (by simp)).trans HT3.out (fun i _ h => .inl h)).trans HT9.out (fun i _ h => .inl h))⟩
  rcases hi with h | h | h | h | h | h | h
  ·exact .inl (.inl h)
  ·exact .inl (.inr (.inl h))
  ·exact .inl (.inr (.inr (.inl h)))
  ·exact .inl (.inr (.inr (.inr (.inl h))))
  ·exact .inl (.inr (.inr (.inr (.inr (.inl h)))))
  ·exact .inr (HO1.out.lt i h).1
  ·simp [Value.ownBlock] at h
end Go.Proofs.YtmcmlkglkpbnpaaGreat
namespace Go.Proofs.YtmcmlkglkpbnpaaGreat
open Go.RowKit
attribute [local go_sem ↓] Go.wp_at_zero Go.wp_at_succ
theorem encP_app (a b : List Nat) : encP (a ++ b) = encP a ++ encP b := by simp [encP]
section
variable {w : World} {o : Oper} {a : Act}
theorem wpListP {ops : Array Oper} {rest : List Oper} {Q : Exit → Act → World → Prop} (hgd : o.guard = none) (s x : Operand)
  (ho : o.op = .call { callee := .builtin .append, args := #[s, x], argTypes := #[82, 82] })
  (base n m : Nat) (L l k : List Nat) (v : Value) (hs : a.eval s = v) (hown : w.ownsRow base 104 1 v n (encP l)) (hn : n = l.length) (hm : m = k.length) (B : Nat) (A : Option Addr) (c : Nat) (hx : a.eval x = .slice A m c)
  (hr : Rd w B A (encP k)) (hL : L = l ++ k) (hlen : L.length ≤ 1000000000) (hbase : base ≤ w.heap.size)
  (h : ∀ A' c' w', w'.ownsRow base 104 1 (.slice A' L.length c') L.length (encP L) → w.grownBy w' v.ownBlock → ((Value.slice A' L.length c').ownBlock = v.ownBlock ∨ (Value.slice A' L.length c').ownBlock = some w.heap.size) → wpList Tryz.prog ops Q rest (a.put o.dst (.slice A' L.length c')) w') :
  wpList Tryz.prog ops Q (o :: rest) a w := by
 obtain ⟨i1, hi1, hiz, his, hib⟩ := info_parts Tryz.infoRP
 subst hL hn hm
 rw [List.length_append] at hlen h
 refine wpList_append_rd _ hgd s x 82 ho base 104 i1 (.pointer none) 1 8 Tryz.underlying82 hi1 hiz his hib rfl (Nat.succ_pos 0) v l.length (encP l) hs hown B A k.length c (encP k) hx (encP_len k) hr (oneP k) (by unfold maxLen; omega) (by omega) hbase ?_
 intro v' w' h2 h3 h4
 obtain ⟨A', c', rfl⟩ := own_slice h2
 rw [← encP_app] at h2
 exact h A' c' w' h2 h3 h4
end
theorem RAt.more {w w' : World} {g B n : Nat} {S : RS} {bs : List Nat} {vs : List Value} {vF vD vS vM vF' : Value} (h : RAt w g S bs vs vF vD vS vM) (hT : Turned (fun i => i = g ∨ vF.ownBlock = some i) w w') (hB : w.heap.size ≤ B)
  (hbB : w'.heap[B]? = some (.cells #[.int .i64 (n : Int), .string ⟨#[]⟩, .slice none 0 0, .string ⟨#[]⟩] 108 (0, 0))) (hF : w'.ownsRow 0 104 1 vF' (bs ++ [B]).length (encP (bs ++ [B])))
  (hb : w'.heap[g]? = some (.cells #[vF', vD, vS, vM, .int .i64 S.cap, .int .i64 S.ops, .int .i64 S.left, .bool S.off, .int .i64 0] 86 (0, 0))) : RAt w' g { S with f := S.f ++ [⟨n, ⟨#[]⟩, [], ⟨#[]⟩⟩] } (bs ++ [B]) (vs ++ [.slice none 0 0]) vF' vD vS vM := by
 have so : ∀ {base n size : Nat} {e : TypeId} {v : Value} {xs : List Value}, w.ownsRow base e size v n xs → e ≠ 86 → e ≠ 104 → w'.ownsRow base e size v n xs := fun ho h1 h2 => own_blk ho fun i hi => hT.block i (ho.lt i hi).2 fun hc => by
  rcases hc with e | e
  ·exact own_not ho h.box h1 (by rw [hi, e])
  ·exact rows_not h.rF ho (Ne.symm h2) i e hi
 have hlb := h.lb
 have hlv := h.lv
 refine ⟨hb, hF, so h.rD (by decide) (by decide), so h.rS (by decide) (by decide), so h.rM (by decide) (by decide), by simp [hlb], by simp [hlv], ?_, ?_, ?_⟩
 ·intro i hi
  simp only [List.length_append, List.length_cons, List.length_nil] at hi
  by_cases hlt : i < S.f.length
  ·have hf := h.fl i hlt
   obtain ⟨b, _, h2, h3⟩ := h.blk hlt
   have e1 : (bs ++ [B]).getD i 0 = bs.getD i 0 := by rw [List.getD_eq_getElem?_getD, List.getD_eq_getElem?_getD, List.getElem?_append_left (by omega)]
   have e2 : (vs ++ [Value.slice none 0 0]).getD i undef = vs.getD i undef := by rw [List.getD_eq_getElem?_getD, List.getD_eq_getElem?_getD, List.getElem?_append_left (by omega)]
   rw [e1, e2]
   simp only [List.getElem_append_left hlt]
   refine ⟨(hT.block _ (blk_lt hf.box) fun hc => ?_).trans hf.box, so hf.row (by decide) (by decide)⟩
   rcases hc with e | e
   ·exact h3 (by rw [← h2, e])
   ·exact own_not h.rF hf.box (by decide) e
  ·have hi' : i = S.f.length := by omega
   subst hi'
   have e1 : (bs ++ [B]).getD S.f.length 0 = B := by rw [← hlb]; simp
   have e2 : (vs ++ [Value.slice none 0 0]).getD S.f.length undef = .slice none 0 0 := by rw [← hlv]; simp
   rw [e1, e2]
   simp only [List.getElem_append_right (Nat.le_refl _), Nat.sub_self, List.getElem_cons_zero]
   exact ⟨hbB, ⟨rfl, .inl ⟨rfl, rfl⟩⟩⟩
 ·refine List.nodup_append.2 ⟨h.nd, by simp, fun x hx y hy e => ?_⟩
  obtain rfl := List.mem_singleton.1 hy
  have := h.lt x (.inr (.inl hx))
  omega
 ·intro i j hij hj
  simp only [List.length_append, List.length_cons, List.length_nil] at hj
  have e2 : ∀ k, k < vs.length → (vs ++ [Value.slice none 0 0]).getD k undef = vs.getD k undef := fun k hk => by rw [List.getD_eq_getElem?_getD, List.getD_eq_getElem?_getD, List.getElem?_append_left hk]
  by_cases hlt : j < vs.length
  ·rw [e2 i (by omega), e2 j hlt]
   exact h.ap i j hij hlt
  ·have hj' : j = vs.length := by omega
   have e3 : (vs ++ [Value.slice none 0 0]).getD j undef = .slice none 0 0 := by rw [hj']; simp
   rw [e2 i (by omega), e3]
   cases hq : (vs.getD i undef).ownBlock with
   | none => exact .inl rfl
   | some q => exact .inr (by simp [Value.ownBlock])
set_option maxHeartbeats 4000000 in
set_option maxRecDepth 100000 in
theorem rCreate_any (g : Nat) (S : RS) (bs : List Nat) (vs : List Value) (vF vD vS vM : Value) (s : ByteArray) (w : World) (h : RAt w g S bs vs vF vD vS vM) (ok : ROk S) (hfl : S.f.length < 1000000) :
  Calls Tryz.prog 46 #[.pointer (some ⟨g, 0, none⟩), .string s] w fun e w' => e = .returned (.tuple #[.int .i64 (createR S s).1.1, .int .i64 (createR S s).1.2]) ∧ RTo w g bs vs vF vD vS vM (createR S s).2 w' := by
 have HS := hide (RTo.same h)
 have b7 : w.cell? ⟨g, 7, none⟩ = some (.bool S.off) := by rw [blk_cell h.box]; rfl
 obtain ⟨A, c, hvD, hc, hm⟩ := own_form0 h.rD
 subst hvD
 have b1 : w.cell? ⟨g, 1, none⟩ = some (.slice A S.d.length c) := by rw [blk_cell h.box]; rfl
 have HN := hide (refName_any s w)
 cases h1 : S.off with
 | true =>
  rw [show createR S s = ((0, 21), S) by simp [createR, nameR, h1]]
  rw [h1] at b7
  clear h h1 ok hc hm
  go_enter Tryz.func46, Tryz.ntmps46
  go_wp2_with fail
  go_ret2
  exact ⟨rfl, HS.out⟩
 | false =>
  rw [h1] at b7
  by_cases h0 : nameErr s = 0
  ·rw [h0] at HN
   rcases atR_cases S.d s with ⟨ha, _⟩ | ⟨j, hj, ha, _⟩
   ·have HA := hide (rAt_at S.d (.slice A S.d.length c) s 0 w (-1) h.rD ha)
    by_cases h2 : 4096 ≤ S.d.length
    ·have h3 : (4096 : Int) ≤ (S.d.length : Int) := by omega
     rw [show createR S s = ((0, 6), S) by simp [createR, nameR, h1, h0, ha, h2]]
     clear h ha h0 h1 ok hc hm h2
     go_enter Tryz.func46, Tryz.ntmps46
     go_wp2_with (first | (go_at_call 84; refine HN.out.mono ?_; rintro e wx ⟨rfl, rfl⟩) | (go_at_call 71; refine HA.out.mono ?_; rintro e wx ⟨rfl, rfl⟩))
     go_ret2
     exact ⟨rfl, HS.out⟩
    ·have h3 : ¬ ((4096 : Int) ≤ (S.d.length : Int)) := by omega
     obtain ⟨n, hn⟩ : ∃ n, n = S.f.length + 1 := ⟨_, rfl⟩
     have HE : Hid (createR S s = (((n : Int), 0), ({ S with f := S.f ++ [⟨n, ⟨#[]⟩, [], ⟨#[]⟩⟩] } : RS).changed ⟨99, s, ⟨#[]⟩, n⟩)) := hide (by rw [hn]; simp [createR, nameR, h1, h0, ha, h2])
     obtain ⟨AF, cF, hvF, hcF, hmF⟩ := own_form0 h.rF
     subst hvF
     have b0 : w.cell? ⟨g, 0, none⟩ = some (.slice AF bs.length cF) := by rw [blk_cell h.box]; rfl
     have k1 : IntKind.i64.wrap ((bs.length : Int) + 1) = (n : Int) := by rw [IntKind.wrap_i64, h.lb]; omega
     obtain ⟨wf, hwf⟩ : ∃ wf, wf = w.alloc (.cells #[.int .i64 (n : Int), .string ⟨#[]⟩, .slice none 0 0, .string ⟨#[]⟩] 108) := ⟨_, rfl⟩
     obtain ⟨wr, hwr⟩ : ∃ wr, wr = wf.alloc (.cells #[.pointer (some ⟨w.heap.size, 0, none⟩)] 104) := ⟨_, rfl⟩
     have hgf : w.grownBy wf none := by rw [hwf]; exact gb_alloc (gb_refl w none) _
     have hgr : w.grownBy wr none := by rw [hwr]; exact gb_alloc hgf _
     have HBB : Hid (wr.heap[w.heap.size]? = some (.cells #[.int .i64 (n : Int), .string ⟨#[]⟩, .slice none 0 0, .string ⟨#[]⟩] 108 (0, 0))) := hide (by rw [hwr, hwf]; exact (heap_alloc_old _ _ (by simp)).trans (heap_alloc_new w _))
     have HO := hide ((h.gb h.lt hgr).rF)
     have hsf : wf.heap.size = w.heap.size + 1 := by rw [hwf]; simp
     have HRD : Hid (Rd wr (w.heap.size + 1 + 1) (some ⟨w.heap.size + 1, 0, none⟩) (encP [w.heap.size])) := hide (by have := Rd.new wf #[.pointer (some ⟨w.heap.size, 0, none⟩)] 104 _ rfl; rw [hsf] at this; rw [hwr]; exact this)
     obtain ⟨L, hL⟩ : ∃ L, L = bs ++ [w.heap.size] := ⟨_, rfl⟩
     have HL := hide hL
     have HLN : Hid (L.length ≤ 1000000000) := hide (by rw [hL]; simp [h.lb]; omega)
     have HGR := hide hgr
     have HWF := hide hwf
     have HWR := hide hwr
     have H := hide h
     have OK := hide ok
     have HN2 := hide hn
     clear h ha h0 h1 ok hc hm h2 hcF hmF hn hwf hwr hgf hgr hL hfl hsf
     go_enter Tryz.func46, Tryz.ntmps46
     go_wp2_with (first | (go_at_call 84; refine HN.out.mono ?_; rintro e wx ⟨rfl, rfl⟩) | (go_at_call 71; refine HA.out.mono ?_; rintro e wx ⟨rfl, rfl⟩) | (at_builtin; rw [← HWF.out, ← HWR.out]; refine wpListP rfl (.tmp 41) (.tmp 45) rfl 0 bs.length 1 L bs [w.heap.size] (.slice AF bs.length cF) rfl HO.out rfl rfl (w.heap.size + 1 + 1) (some ⟨w.heap.size + 1, 0, none⟩) 1 rfl HRD.out HL.out HLN.out (Nat.zero_le _) ?_; intro A1 c1 w1 ho1 hg1 hb1; have HO1 := hide ho1; have HG1 := hide hg1; have HB1 := hide hb1; have hx1 := (hg1.block g (Nat.lt_of_lt_of_le (blk_lt H.out.box) HGR.out.size) (fun e => own_not H.out.rF H.out.box (by decide) e.symm)).trans ((HGR.out.block g (blk_lt H.out.box) (by simp)).trans H.out.box); have HX1 := hide hx1; have t0 : w1.cell? ⟨g, 0, none⟩ = some (.slice AF bs.length cF) := (by { rw [blk_cell hx1]; rfl }); have y0 := blk_frozen hx1 0; clear ho1 hg1 hb1 hx1))
     obtain ⟨w2, hw2⟩ : ∃ w2, w2 = w1.setCell ⟨g, 0, none⟩ (.slice A1 L.length c1) := ⟨_, rfl⟩
     rw [← hw2]
     have hg2 : w1.grownBy w2 (some g) := by rw [hw2]; exact gb_set (gb_refl w1 (some g)) 0 _
     have hT2 : Turned (fun i => i = g ∨ (Value.slice AF bs.length cF).ownBlock = some i) w w2 := ((Turned.of_gb (M := fun i => i = g ∨ (Value.slice AF bs.length cF).ownBlock = some i) HGR.out (by simp)).trans (Turned.of_gb (M := fun i => (Value.slice AF bs.length cF).ownBlock = some i) HG1.out (fun i e => e)) (fun i _ h => .inr h)).trans (Turned.of_gb (M := fun i => i = g) hg2 (fun i e => by injection e with e; exact e.symm)) (fun i _ h => .inl h)
     have hlg := blk_lt H.out.box
     have hbB : w2.heap[w.heap.size]? = some (.cells #[.int .i64 (n : Int), .string ⟨#[]⟩, .slice none 0 0, .string ⟨#[]⟩] 108 (0, 0)) := by
      have k1 := HG1.out.block w.heap.size (blk_lt HBB.out) (fun e => by have := (H.out.rF.lt _ e.symm).2; omega)
      exact (hg2.block w.heap.size (blk_lt (k1.trans HBB.out)) (fun e => by injection e with e; omega)).trans (k1.trans HBB.out)
     have hF : w2.ownsRow 0 104 1 (.slice A1 L.length c1) L.length (encP L) := HO1.out.kept hg2 (.inr (own_not HO1.out HX1.out (by decide)))
     have hb2 : w2.heap[g]? = some (.cells #[.slice A1 L.length c1, .slice A S.d.length c, vS, vM, .int .i64 S.cap, .int .i64 S.ops, .int .i64 S.left, .bool S.off, .int .i64 0] 86 (0, 0)) := by rw [hw2]; exact blk_set HX1.out 0 _
     have hR2 := H.out.more (n := n) (vF' := .slice A1 L.length c1) hT2 (Nat.le_refl _) hbB (HL.out ▸ hF) hb2
     have hn2 : ∀ i, (Value.slice A1 L.length c1).ownBlock = some i → (Value.slice AF bs.length cF).ownBlock = some i ∨ w.heap.size ≤ i := fun i hi => by
      rcases HB1.out with e | e
      ·exact .inl (e ▸ hi)
      ·rw [e] at hi
       injection hi with hi
       exact .inr (hi ▸ HGR.out.size)
     have HR2 := hide hR2
     have HT2 := hide hT2
     have HNW := hide hn2
     clear hw2 hg2 hT2 hlg hbB hF hb2 hR2 hn2 t0 y0
     refine (rChange_any g _ _ _ _ _ _ _ ⟨99, s, ⟨#[]⟩, n⟩ w2 HR2.out (.inl rfl) OK.out.dl OK.out.ml OK.out.ops OK.out.left).mono ?_
     rintro e w9 ⟨rfl, vD', vM', h9, ho9, hT9⟩
     have HR9 := hide h9
     have HO9 := hide ho9
     have HT9 := hide hT9
     clear h9 ho9 hT9
     go_wp2_with fail
     go_ret2
     rw [HE.out]
     refine ⟨rfl, _, _, _, _, _, _, HR9.out, fun i hi => ?_, (HT2.out.mono (M' := ROwn g bs vs (.slice AF bs.length cF) (.slice A S.d.length c) vS vM) fun i _ hi => ?_).trans HT9.out fun i _ hi => ?_⟩
     ·rcases hi with h | h | ⟨u, hu, h⟩ | h | h | h | h
      ·exact .inl (.inl h)
      ·rcases List.mem_append.1 h with h | h
       ·exact .inl (.inr (.inl h))
       ·exact .inr (by rw [List.mem_singleton.1 h]; exact Nat.le_refl _)
      ·rcases List.mem_append.1 hu with hu | hu
       ·exact .inl (.inr (.inr (.inl ⟨u, hu, h⟩)))
       ·rw [List.mem_singleton.1 hu] at h
        simp [Value.ownBlock] at h
      ·exact (HNW.out i h).imp_left fun e => .inr (.inr (.inr (.inl e)))
      ·exact (HO9.out i (.inl h)).imp (fun e => .inr (.inr (.inr (.inr (.inr (.inr e)))))) (fun e => Nat.le_trans HT2.out.size e)
      ·exact .inl (.inr (.inr (.inr (.inr (.inr (.inl h))))))
      ·exact (HO9.out i (.inr h)).imp (fun e => .inr (.inr (.inr (.inr (.inr (.inr e)))))) (fun e => Nat.le_trans HT2.out.size e)
     ·rcases hi with h | h
      ·exact .inl h
      ·exact .inr (.inr (.inr (.inl h)))
     ·rcases hi with h | h
      ·exact .inl h
      ·exact .inr (.inr (.inr (.inr (.inr (.inr h)))))
   ·have HA := hide (rAt_at S.d (.slice A S.d.length c) s 0 w j h.rD ha)
    have hj0 : ¬ ((j : Int) < 0) := by omega
    have hj1 : (0 : Int) ≤ (j : Int) := by omega
    rw [show createR S s = ((0, 8), S) by simp [createR, nameR, h1, h0, ha]]
    clear h ha h0 h1 ok hc hm
    go_enter Tryz.func46, Tryz.ntmps46
    go_wp2_with (first | (go_at_call 84; refine HN.out.mono ?_; rintro e wx ⟨rfl, rfl⟩) | (go_at_call 71; refine HA.out.mono ?_; rintro e wx ⟨rfl, rfl⟩))
    go_ret2
    exact ⟨rfl, HS.out⟩
  ·rw [nameErr_20 h0] at HN
   rw [show createR S s = ((0, 20), S) by simp [createR, nameR, h1, nameErr_20 h0]]
   clear h h0 h1 ok hc hm
   go_enter Tryz.func46, Tryz.ntmps46
   go_wp2_with (go_at_call 84; refine HN.out.mono ?_; rintro e wx ⟨rfl, rfl⟩)
   go_ret2
   exact ⟨rfl, HS.out⟩
end Go.Proofs.YtmcmlkglkpbnpaaGreat
