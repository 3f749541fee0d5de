/-
  The document's pick: the elements of a vector at places.
-/
import Derived.Test.YtkbflmaflokpdaaGreatQLq
import Derived.Test.YtkbflmaflokpdaaGreatQLj
import Derived.Deep.RegionLaw
import Derived.Deep.CutBlock
import Derived.Deep.DeepCutAuto

namespace Go.Proofs.YtkbflmaflokpdaaGreat
open Go.RowKit
attribute [local go_sem ↓] Go.wp_at_zero Go.wp_at_succ

/-- What a round has got: the element in a box, the error. -/
def PkR (y : Vl) (k : Int) (wr : World) (q e : Value) (wc : World) : Prop := ∃ bk aA ac bA bc dA dc f, q = .pointer (some ⟨bk, 0, none⟩) ∧ e = .int .i64 k ∧
  wc.heap[bk]? = some (.cells #[.int .i64 y.t, .slice aA y.n.length ac, .slice bA y.s.length bc, .slice dA y.l.length dc] 26 (0, 0)) ∧ VOw wc y [.int .i64 y.t, .slice aA y.n.length ac, .slice bA y.s.length bc, .slice dA y.l.length dc] f ∧ New wr wc f ∧ wr.grownBy wc none ∧ wr.heap.size ≤ bk
theorem PkR.late {y : Vl} {k : Int} {wr w3 : World} {aA : Option Addr} {ac : Nat} {bA : Option Addr} {bc : Nat} {dA : Option Addr} {dc : Nat} {f : List Nat} (ho : VOw w3 y [.int .i64 y.t, .slice aA y.n.length ac, .slice bA y.s.length bc, .slice dA y.l.length dc] f) (hn : New wr w3 f) (hg : wr.grownBy w3 none) :
    PkR y k wr (.pointer (some ⟨w3.heap.size, 0, none⟩)) (.int .i64 k) (w3.alloc (.cells #[.int .i64 y.t, .slice aA y.n.length ac, .slice bA y.s.length bc, .slice dA y.l.length dc] 26)) := by
  have hg2 : w3.grownBy (w3.alloc (.cells #[.int .i64 y.t, .slice aA y.n.length ac, .slice bA y.s.length bc, .slice dA y.l.length dc] 26)) none := gb_alloc (gb_refl w3 none) _
  exact ⟨w3.heap.size, aA, ac, bA, bc, dA, dc, f, rfl, rfl, heap_alloc_new w3 _, ho.gb hg2, hn.more hg2.size, gb_trans hg hg2 (.inl rfl), hg.size⟩
theorem PkR.early {y : Vl} {k : Int} {wr w3 : World} {aA : Option Addr} {ac : Nat} {bA : Option Addr} {bc : Nat} {dA : Option Addr} {dc : Nat} {f : List Nat} {z0 z1 z2 z3 : Value} (hb : w3.heap[wr.heap.size]? = some (.cells #[z0, z1, z2, z3] 26 (0, 0))) (ho : VOw w3 y [.int .i64 y.t, .slice aA y.n.length ac, .slice bA y.s.length bc, .slice dA y.l.length dc] f) (hn : f.Nodup ∧ ∀ b ∈ f, wr.heap.size + 1 ≤ b ∧ b < w3.heap.size) (hg : wr.grownBy w3 none) :
    PkR y k wr (.pointer (some ⟨wr.heap.size, 0, none⟩)) (.int .i64 k) ((((w3.setCell ⟨wr.heap.size, 0, none⟩ (.int .i64 y.t)).setCell ⟨wr.heap.size, 1, none⟩ (.slice aA y.n.length ac)).setCell ⟨wr.heap.size, 2, none⟩ (.slice bA y.s.length bc)).setCell ⟨wr.heap.size, 3, none⟩ (.slice dA y.l.length dc)) := by
  refine ⟨wr.heap.size, aA, ac, bA, bc, dA, dc, f, rfl, rfl, put_four hb _ _ _ _, VOw.keep _ _ _ ho fun b hm => put_four_other (by have := (hn.2 b hm).1; omega) _ _ _ _, ⟨hn.1, fun b hm => ⟨by have := (hn.2 b hm).1; omega, ?_⟩⟩, put_four_gb hg (Nat.le_refl _) _ _ _ _, Nat.le_refl _⟩
  have h2 := (hn.2 b hm).2
  simp [World.setCell]
  exact h2
theorem errE_in {v : Vl} {p : Int} (h : 0 ≤ p ∧ p < (v.count : Int)) : errE v p = 0 := by unfold errE; rw [if_pos h]
theorem errE_out {v : Vl} {p : Int} (h : ¬ (0 ≤ p ∧ p < (v.count : Int))) : errE v p = 33 := by unfold errE; rw [if_neg h]
theorem pickE_out {v : Vl} {p : Int} (h : ¬ (0 ≤ p ∧ p < (v.count : Int))) : pickE v p = emp := by unfold pickE; rw [if_neg h]
set_option maxHeartbeats 16000000 in
set_option maxRecDepth 100000 in
theorem pick_lst (v : Vl) (ps : List Int) (w : World) (B : Nat) (nA : Option Addr) (nc : Nat) (sA : Option Addr) (sc : Nat) (lA : Option Addr) (lc : Nat) (pA : Option Addr) (pc : Nat)
    (hs : seqT v.t) (hty : v.t = 0) (ht : v.tot ≤ 500000000) (hB : B ≤ w.heap.size) (h : VB w B v nA nc sA sc lA lc) (hp : Rd w w.heap.size pA (i64s ps)) (hpl : ps.length ≤ 100000) (htt : Vl.tots (ps.map (pickV v.l emp)) ≤ 1200000000) :
    Calls Tryz.prog 31 #[.agg #[.int .i64 v.t, .slice nA v.n.length nc, .slice sA v.s.length sc, .slice lA v.l.length lc], .slice pA ps.length pc] w (NewV (ofV (ps.map (pickV v.l emp))) w) := by
  obtain ⟨w1, hw1⟩ : ∃ w1, w1 = w.alloc (.cells #[.int .i64 v.t, .slice nA v.n.length nc, .slice sA v.s.length sc, .slice lA v.l.length lc] 26) := ⟨_, rfl⟩
  obtain ⟨wa, hwa⟩ : ∃ wa, wa = w1.alloc (.cells #[.int .i64 0, .slice none 0 0, .slice none 0 0, .slice none 0 0] 26) := ⟨_, rfl⟩
  have hs1 : w1.heap.size = w.heap.size + 1 := by rw [hw1]; simp
  have hg1 : w.grownBy w1 none := by rw [hw1]; exact gb_alloc (gb_refl w none) _
  have hga1 : w1.grownBy wa none := by rw [hwa]; exact gb_alloc (gb_refl w1 none) _
  have hga := gb_trans hg1 hga1 (.inl rfl)
  have hbv : wa.heap[w.heap.size]? = some (.cells #[.int .i64 v.t, .slice nA v.n.length nc, .slice sA v.s.length sc, .slice lA v.l.length lc] 26 (0, 0)) := (hga1.block _ (by omega) (by simp)).trans (by rw [hw1]; exact heap_alloc_new w _)
  have hr : wa.heap[w1.heap.size]? = some (.cells #[.int .i64 0, .slice none 0 0, .slice none 0 0, .slice none 0 0] 26 (0, 0)) := by rw [hwa]; exact heap_alloc_new w1 _
  have HS1 := hide hs1
  have HG1 := hide hg1
  have HGA1 := hide hga1
  have HGA := hide hga
  have HBV := hide hbv
  have HR := hide hr
  have HWE := hide hwa
  have HW1 := hide hw1
  have HB := hide hB
  have HP := hide hp
  have HATL := hide (fun (p : Int) (w2 : World) (hg : wa.grownBy w2 none) => rAtN v p w2 B nA nc sA sc lA lc hs ht (Nat.le_trans hB (Nat.le_trans hga.size hg.size)) (h.gb (gb_trans hga hg (.inl rfl)) hB))
  have HPL := hide hpl
  have HTT := hide htt
  have HTY := hide hty
  have ht0 : v.t = 0 := hty
  have e0 : (v.t == 0) = true := int_beq_t hty
  clear hs1 hg1 hga1 hga hbv hr hwa hw1 hB hp hs ht h htt hty ht0
  go_enter Tryz.func31, Tryz.ntmps31
  go_wp2_with fail
  rw [← HW1.out]
  rw [← HWE.out]
  obtain ⟨b0, b1, b2, b3⟩ : C4 wa w.heap.size 0 (.int .i64 v.t) (.slice nA v.n.length nc) (.slice sA v.s.length sc) (.slice lA v.l.length lc) := ⟨by rw [blk_cell HBV.out]; rfl, by rw [blk_cell HBV.out]; rfl, by rw [blk_cell HBV.out]; rfl, by rw [blk_cell HBV.out]; rfl⟩
  go_wp2_with fail
  clear b0 b1 b2 b3
  go_loopw [5, 6] (fun E i wr => ∃ (j : Nat) (x : List Vl), i = .int .i64 (j : Int) ∧ j ≤ ps.length ∧ Hid (x = (ps.take j).map (pickV v.l emp)) ∧ ∃ eA ec xs f, E = .slice eA x.length ec ∧ GatP w1 [] x none 0 eA ec xs f wr ∧ wa.grownBy wr none) (fun _ i _ => ps.length - (intOf i).toNat)
  case atStart => exact ⟨0, [], rfl, Nat.zero_le _, hide rfl, none, 0, [], [], rfl, ⟨⟨rfl, .inl ⟨rfl, rfl⟩⟩, ⟨rfl, .inl ⟨rfl, rfl⟩⟩, ⟨rfl, rfl⟩, by simp, HGA1.out, HR.out, by simp⟩, gb_refl wa none⟩
  case round =>
    obtain ⟨j, x, rfl, hj, HX, eA, ec, xs, f, rfl, hga, hgr⟩ := hrel
    by_cases hlt : j < ps.length
    · have hlt1 : (j : Int) < (ps.length : Int) := by omega
      obtain ⟨a, ha, _, hcp0⟩ := HP.out.i64 hlt
      subst ha
      obtain ⟨p, hpe⟩ : ∃ p, p = ps[j] := ⟨_, rfl⟩
      rw [← hpe] at hcp0
      have HXS := hide (show (ps.take (j + 1)).map (pickV v.l emp) = x ++ [pickE v p] by rw [List.take_succ_eq_append_getElem hlt, List.map_append, ← HX.out, hpe, pickE_lst HTY.out]; rfl)
      have hgw := gb_trans HGA.out hgr (.inl rfl)
      have hcp := cell_gb hcp0 hgw
      have hbr := blk_keep HBV.out hgr (by simp)
      obtain ⟨b0, b1, b2, b3⟩ : C4 wr w.heap.size 0 (.int .i64 v.t) (.slice nA v.n.length nc) (.slice sA v.s.length sc) (.slice lA v.l.length lc) := ⟨by rw [blk_cell hbr]; rfl, by rw [blk_cell hbr]; rfl, by rw [blk_cell hbr]; rfl, by rw [blk_cell hbr]; rfl⟩
      have u0 : ∀ o : Obj, (wr.alloc o).cell? ⟨w.heap.size, 0, none⟩ = some (.int .i64 v.t) := fun o => cell_gb b0 (gb_alloc (gb_refl wr none) o)
      have u1 : ∀ o : Obj, (wr.alloc o).cell? ⟨w.heap.size, 1, none⟩ = some (.slice nA v.n.length nc) := fun o => cell_gb b1 (gb_alloc (gb_refl wr none) o)
      have u2 : ∀ o : Obj, (wr.alloc o).cell? ⟨w.heap.size, 2, none⟩ = some (.slice sA v.s.length sc) := fun o => cell_gb b2 (gb_alloc (gb_refl wr none) o)
      have u3 : ∀ o : Obj, (wr.alloc o).cell? ⟨w.heap.size, 3, none⟩ = some (.slice lA v.l.length lc) := fun o => cell_gb b3 (gb_alloc (gb_refl wr none) o)
      have up : ∀ o : Obj, (wr.alloc o).cell? (a.add j) = some (.int .i64 p) := fun o => cell_gb hcp (gb_alloc (gb_refl wr none) o)
      have HAT := hide (fun (w2 : World) (hg : wr.grownBy w2 none) => HATL.out p w2 (gb_trans hgr hg (.inl rfl)))
      have HGP := hide hga
      have HGR := hide hgr
      have HJ := hide hlt
      have hxl : x.length = j := by rw [HX.out, List.length_map, List.length_take]; omega
      have HXL := hide hxl
      obtain ⟨i1, hi1, hiz, his, hib⟩ := info_parts Tryz.infoV
      have HI1 := hide hi1
      have HIZ := hide hiz
      have HIS := hide his
      have HIB := hide hib
      have HM2 : Hid (x.length + 1 ≤ maxLen) := hide (by unfold maxLen; have := HPL.out; omega)
      have HMB2 : Hid ((x.length + 1) * 80 ≤ 140737488355328) := hide (by have := HPL.out; omega)
      have h6 : IntKind.i64.wrap ((j : Int) + 1) = ((j + 1 : Nat) : Int) := by rw [IntKind.wrap_i64]; have := HPL.out; omega
      clear hga hgr hgw hcp0 hbr hxl hi1 hiz his hib hlt hj hpe
      obtain ⟨y, hy⟩ : ∃ y, y = pickE v p := ⟨_, rfl⟩
      obtain ⟨k, hk⟩ : ∃ k, k = errE v p := ⟨_, rfl⟩
      rw [← hy, ← hk] at HAT
      rw [← hy] at HXS
      have HY := hide hy
      have HK := hide hk
      clear hy hk
      go_upto_region 6 with fail
      go_cut [7, 8] (fun q e wc => PkR y k wr q e wc)
      case first =>
        go_region_law (first
          | (go_simp; go_at_call 49; refine (HAT.out wr.drew (gb_drew (gb_refl wr none))).mono ?_; rintro e w3 ⟨aA, ac, bA, bc, dA, dc, f3, rfl, ho3, hn3, hg3⟩; have HO3 := hide ho3; have HN3 := hide (show New wr w3 f3 from ⟨hn3.1, hn3.2⟩); have HG3 := hide (show wr.grownBy w3 none from ⟨hg3.os, hg3.tape, hg3.output, hg3.size, hg3.block⟩); clear ho3 hn3 hg3)
          | (go_simp; go_at_call 49; refine (HAT.out (wr.alloc (.cells #[.int .i64 0, .slice none 0 0, .slice none 0 0, .slice none 0 0] 26)).drew (gb_drew (gb_alloc (gb_refl wr none) _))).mono ?_; rintro e w3 ⟨aA, ac, bA, bc, dA, dc, f3, rfl, ho3, hn3, hg3⟩; have HO3 := hide ho3; have HN3 := hide (show f3.Nodup ∧ ∀ b ∈ f3, wr.heap.size + 1 ≤ b ∧ b < w3.heap.size from ⟨hn3.1, fun b hb => by have h := hn3.2 b hb; simp [World.drew] at h; omega⟩); have HGA := hide (show (wr.alloc (.cells #[.int .i64 0, .slice none 0 0, .slice none 0 0, .slice none 0 0] 26)).grownBy w3 none from ⟨hg3.os, hg3.tape, hg3.output, hg3.size, hg3.block⟩); have HG3 := hide (show wr.grownBy w3 none from gb_trans (gb_alloc (gb_refl wr none) (.cells #[.int .i64 0, .slice none 0 0, .slice none 0 0, .slice none 0 0] 26)) HGA.out (.inl rfl)); have HBX := hide (show w3.heap[wr.heap.size]? = some (.cells #[.int .i64 0, .slice none 0 0, .slice none 0 0, .slice none 0 0] 26 (0, 0)) from (HGA.out.block _ (by simp) (by simp)).trans (heap_alloc_new wr _)); have x0 : w3.cell? ⟨wr.heap.size, 0, none⟩ = some (.int .i64 0) := (by { rw [blk_cell HBX.out]; rfl }); have x1 : w3.cell? ⟨wr.heap.size, 1, none⟩ = some (.slice none 0 0) := (by { rw [blk_cell HBX.out]; rfl }); have x2 : w3.cell? ⟨wr.heap.size, 2, none⟩ = some (.slice none 0 0) := (by { rw [blk_cell HBX.out]; rfl }); have x3 : w3.cell? ⟨wr.heap.size, 3, none⟩ = some (.slice none 0 0) := (by { rw [blk_cell HBX.out]; rfl }); have z0 := blk_frozen HBX.out 0; have z1 := blk_frozen HBX.out 1; have z2 := blk_frozen HBX.out 2; have z3 := blk_frozen HBX.out 3; clear ho3 hn3 hg3))
        all_goals first
          | (have hbx := HBX.out
             go_wp2_with fail
             go_meet
             case rel => exact PkR.early hbx HO3.out HN3.out HG3.out)
          | (go_wp2_with fail
             go_meet
             case rel => exact PkR.late HO3.out HN3.out HG3.out)
      case rest =>
        obtain ⟨bk, aA, ac, bA, bc, dA, dc, f9, rfl, rfl, hbk, ho, hn, hg, hle⟩ := hcut
        have HSA := hide (show wa.heap.size = w1.heap.size + 1 by rw [HWE.out]; simp)
        have HGWX := HSA
        by_cases hin : 0 ≤ p ∧ p < (v.count : Int)
        · have hk0 : k = 0 := by rw [HK.out, errE_in hin]
          clear HK hin HAT b0 b1 b2 b3 u0 u1 u2 u3 up hcp
          subst hk0
          have HBK := hide hbk
          have HOV := hide ho
          have HNW := hide hn
          have HGX := hide hg
          clear hbk ho hn hg hle
          go_upto_region 9 with fail
          obtain ⟨d0, d1, d2, d3⟩ : C4 wc bk 0 (.int .i64 y.t) (.slice aA y.n.length ac) (.slice bA y.s.length bc) (.slice dA y.l.length dc) := ⟨by rw [blk_cell HBK.out]; rfl, by rw [blk_cell HBK.out]; rfl, by rw [blk_cell HBK.out]; rfl, by rw [blk_cell HBK.out]; rfl⟩
          have hk7 : wc.grownBy (wc.alloc (.cells #[.int .i64 y.t, .slice aA y.n.length ac, .slice bA y.s.length bc, .slice dA y.l.length dc] 26)) none := gb_alloc (gb_refl wc none) _
          have HK7 := hide hk7
          have HGA4 := hide ((HGP.out.keep HGX.out).keep hk7)
          have HRD4 := hide (rd_lit wc #[.int .i64 y.t, .slice aA y.n.length ac, .slice bA y.s.length bc, .slice dA y.l.length dc] 26 [.int .i64 y.t, .slice aA y.n.length ac, .slice bA y.s.length bc, .slice dA y.l.length dc] rfl)
          have HOC4 := hide (V4_one y.t aA bA dA y.n.length y.s.length y.l.length ac bc dc)
          have HBS4 : Hid (w1.heap.size + 1 ≤ (wc.alloc (.cells #[.int .i64 y.t, .slice aA y.n.length ac, .slice bA y.s.length bc, .slice dA y.l.length dc] 26)).heap.size) := hide (by have := blk_lt HGA4.out.hr; omega)
          clear hk7
          go_wp2_with (at_builtin; refine wpList_append_rd _ rfl (.tmp 34) (.tmp 36) 24 rfl (w1.heap.size + 1) 26 i1 (.agg #[.int .i64 0, .slice none 0 0, .slice none 0 0, .slice none 0 0]) 4 80 Tryz.underlying24 HI1.out HIZ.out HIS.out HIB.out rfl (Nat.succ_pos 3) (.slice eA x.length ec) x.length (List.flatten xs) rfl HGA4.out.he (wc.alloc (.cells #[.int .i64 y.t, .slice aA y.n.length ac, .slice bA y.s.length bc, .slice dA y.l.length dc] 26)).heap.size (some ⟨wc.heap.size, 0, none⟩) 1 1 [.int .i64 y.t, .slice aA y.n.length ac, .slice bA y.s.length bc, .slice dA y.l.length dc] rfl rfl HRD4.out HOC4.out HM2.out HMB2.out HBS4.out ?_
                       intro v7 w7 ho7 hg7 hb7
                       obtain ⟨E7, ec7, rfl, hec7⟩ := own_slice ho7
                       have HO7 := hide ho7
                       have HG7 := hide hg7
                       have HB7 := hide hb7
                       clear ho7 hg7 hb7 hec7)
          have HGA7 := hide (HGP.out.elem HGX.out HOV.out HNW.out HK7.out HO7.out HG7.out HB7.out)
          have HGR7 := hide (gb_trans (gb_trans (gb_trans HGR.out HGX.out (.inl rfl)) HK7.out (.inl rfl)) HG7.out (match hq : (Value.slice eA x.length ec).ownBlock with | none => .inr (.inl rfl) | some g => .inr (.inr ⟨g, rfl, by have h8 := (HGA4.out.he.lt g hq).1; have h9 := HGWX.out; omega⟩)))
          go_roundw
          case rel => exact ⟨j + 1, x ++ [y], by go_num, by have := HJ.out; omega, hide HXS.out.symm, E7, ec7, _, _, by rw [List.length_append]; rfl, HGA7.out, HGR7.out⟩
          case measure => have := HJ.out; simp [intOf]; omega
        · have hk0 : k = 33 := by rw [HK.out, errE_out hin]
          have hye : y = emp := by rw [HY.out, pickE_out hin]
          clear HK HY hin HAT b0 b1 b2 b3 u0 u1 u2 u3 up hcp
          subst hk0
          rw [hye] at HXS
          clear hye
          obtain ⟨d0, d1, d2, d3⟩ : C4 wc bk 0 (.int .i64 y.t) (.slice aA y.n.length ac) (.slice bA y.s.length bc) (.slice dA y.l.length dc) := ⟨by rw [blk_cell hbk]; rfl, by rw [blk_cell hbk]; rfl, by rw [blk_cell hbk]; rfl, by rw [blk_cell hbk]; rfl⟩
          have z0 := blk_frozen hbk 0
          have z1 := blk_frozen hbk 1
          have z2 := blk_frozen hbk 2
          have z3 := blk_frozen hbk 3
          obtain ⟨wd, hwd⟩ : ∃ wd, wd = ((((wc.setCell ⟨bk, 0, none⟩ (.int .i64 0)).setCell ⟨bk, 1, none⟩ (.slice none 0 0)).setCell ⟨bk, 2, none⟩ (.slice none 0 0)).setCell ⟨bk, 3, none⟩ (.slice none 0 0)) := ⟨_, rfl⟩
          have HBK := hide (show wd.heap[bk]? = some (.cells #[.int .i64 0, .slice none 0 0, .slice none 0 0, .slice none 0 0] 26 (0, 0)) by rw [hwd]; exact put_four hbk _ _ _ _)
          have HGX := hide (show wr.grownBy wd none by rw [hwd]; exact put_four_gb hg hle _ _ _ _)
          have HWD := hide hwd
          clear hbk ho hn hg hle hwd
          go_upto_region 9 with fail
          rw [← HWD.out]
          clear d0 d1 d2 d3 z0 z1 z2 z3 HWD
          obtain ⟨d0, d1, d2, d3⟩ : C4 wd bk 0 (.int .i64 0) (.slice none 0 0) (.slice none 0 0) (.slice none 0 0) := ⟨by rw [blk_cell HBK.out]; rfl, by rw [blk_cell HBK.out]; rfl, by rw [blk_cell HBK.out]; rfl, by rw [blk_cell HBK.out]; rfl⟩
          have hk7 : wd.grownBy (wd.alloc (.cells #[.int .i64 0, .slice none 0 0, .slice none 0 0, .slice none 0 0] 26)) none := gb_alloc (gb_refl wd none) _
          have HK7 := hide hk7
          have HGA4 := hide ((HGP.out.keep HGX.out).keep hk7)
          have HRD4 := hide (rd_lit wd #[.int .i64 0, .slice none 0 0, .slice none 0 0, .slice none 0 0] 26 [.int .i64 0, .slice none 0 0, .slice none 0 0, .slice none 0 0] rfl)
          have HOC4 := hide (V4_one 0 none none none 0 0 0 0 0 0)
          have HBS4 : Hid (w1.heap.size + 1 ≤ (wd.alloc (.cells #[.int .i64 0, .slice none 0 0, .slice none 0 0, .slice none 0 0] 26)).heap.size) := hide (by have := blk_lt HGA4.out.hr; omega)
          clear hk7
          go_wp2_with (at_builtin; refine wpList_append_rd _ rfl (.tmp 34) (.tmp 36) 24 rfl (w1.heap.size + 1) 26 i1 (.agg #[.int .i64 0, .slice none 0 0, .slice none 0 0, .slice none 0 0]) 4 80 Tryz.underlying24 HI1.out HIZ.out HIS.out HIB.out rfl (Nat.succ_pos 3) (.slice eA x.length ec) x.length (List.flatten xs) rfl HGA4.out.he (wd.alloc (.cells #[.int .i64 0, .slice none 0 0, .slice none 0 0, .slice none 0 0] 26)).heap.size (some ⟨wd.heap.size, 0, none⟩) 1 1 [.int .i64 0, .slice none 0 0, .slice none 0 0, .slice none 0 0] rfl rfl HRD4.out HOC4.out HM2.out HMB2.out HBS4.out ?_
                       intro v7 w7 ho7 hg7 hb7
                       obtain ⟨E7, ec7, rfl, hec7⟩ := own_slice ho7
                       have HO7 := hide ho7
                       have HG7 := hide hg7
                       have HB7 := hide hb7
                       clear ho7 hg7 hb7 hec7)
          have HGA7 := hide (HGP.out.elem (y := emp) HGX.out (vow_emp wd) (New.nil_ wr wd) HK7.out HO7.out HG7.out HB7.out)
          have HGR7 := hide (gb_trans (gb_trans (gb_trans HGR.out HGX.out (.inl rfl)) HK7.out (.inl rfl)) HG7.out (match hq : (Value.slice eA x.length ec).ownBlock with | none => .inr (.inl rfl) | some g => .inr (.inr ⟨g, rfl, by have h8 := (HGA4.out.he.lt g hq).1; have h9 := HGWX.out; omega⟩)))
          go_roundw
          case rel => exact ⟨j + 1, x ++ [emp], by go_num, by have := HJ.out; omega, hide HXS.out.symm, E7, ec7, _, _, by rw [List.length_append]; rfl, HGA7.out, HGR7.out⟩
          case measure => have := HJ.out; simp [intOf]; omega
    · have hlt1 : ¬ (j : Int) < (ps.length : Int) := by omega
      have HTE := hide (show ps.take j = ps from List.take_of_length_le (by omega))
      rw [HTE.out] at HX
      have hx := HX.out
      have HT2 := hide (show Vl.tots x ≤ 1200000000 by rw [hx]; exact HTT.out)
      have HGR := hide hgr
      have HGP := hide hga
      have HGW := hide (gb_trans HGA.out hgr (.inl rfl))
      have HOF := hide (rOfS x wr wr.heap.size eA ec HT2.out (Nat.le_refl _) ⟨xs, Rd.of_own hga.he, VOwAll.at_ _ _ _ hga.hx (VOwAll.lt _ _ _ hga.hx)⟩)
      have hrr := hga.hr
      rw [HS1.out] at hrr
      have HRR := hide hrr
      obtain ⟨ov, hov⟩ : ∃ ov, ov = ofV x := ⟨_, rfl⟩
      rw [← hov] at HOF
      have HOV := hide (show ofV (ps.map (pickV v.l emp)) = ov by rw [hov, hx])
      clear hga hgr hrr hx hov
      go_wp2_with (go_at_call 50; refine HOF.out.mono ?_; rintro e w3 ⟨xA, xc, yA, yc, zA, zc, f9, rfl, ho, hn, hg3⟩; have hrr := (hg3.block _ (blk_lt HRR.out) (by simp)).trans HRR.out; have HR3 := hide hrr; have z0 := blk_frozen hrr 0; have z1 := blk_frozen hrr 1; have z2 := blk_frozen hrr 2; have z3 := blk_frozen hrr 3; have p0 : w3.cell? ⟨w.heap.size + 1, 0, none⟩ = some (.int .i64 0) := (by { rw [blk_cell hrr]; rfl }); have p1 : w3.cell? ⟨w.heap.size + 1, 1, none⟩ = some (.slice none 0 0) := (by { rw [blk_cell hrr]; rfl }); have p2 : w3.cell? ⟨w.heap.size + 1, 2, none⟩ = some (.slice none 0 0) := (by { rw [blk_cell hrr]; rfl }); have p3 : w3.cell? ⟨w.heap.size + 1, 3, none⟩ = some (.slice none 0 0) := (by { rw [blk_cell hrr]; rfl }); have HF := hide (NewE.fin (x := ov) ho hn HGW.out hg3 (Nat.le_succ w.heap.size) (blk_lt HRR.out)); clear ho hn hg3 hrr)
      obtain ⟨m0, m1, m2, m3⟩ := C4.put HR3.out (.int .i64 ov.t) (.slice xA ov.n.length xc) (.slice yA ov.s.length yc) (.slice zA ov.l.length zc)
      simp only [put4, Nat.zero_add] at m0 m1 m2 m3
      refine bodyPost_ret (v := .agg #[.int .i64 ov.t, .slice xA ov.n.length xc, .slice yA ov.s.length yc, .slice zA ov.l.length zc]) (by simp [results, Tryz.results31, go_sem, m0, m1, m2, m3]) rfl ?_
      rw [HOV.out]
      exact newV_of_newE HF.out
end Go.Proofs.YtkbflmaflokpdaaGreat

namespace Go.Proofs.YtkbflmaflokpdaaGreat
open Go.RowKit
attribute [local go_sem ↓] Go.wp_at_zero Go.wp_at_succ

theorem elN_n (v : Vl) (l : List Int) : ((l.map (elN v)).flatMap Vl.n).length ≤ l.length := by
  induction l with
  | nil => simp
  | cons p r ih =>
    have h : (elN v p).n.length ≤ 1 := by unfold elN; split <;> simp [Vl.n]
    simp only [List.map_cons, List.flatMap_cons, List.length_append, List.length_cons]
    omega
theorem elN_s (v : Vl) (l : List Int) : ((l.map (elN v)).flatMap Vl.s).length ≤ l.length := by
  induction l with
  | nil => simp
  | cons p r ih =>
    have h : (elN v p).s.length ≤ 1 := by unfold elN; split <;> simp [Vl.s]
    simp only [List.map_cons, List.flatMap_cons, List.length_append, List.length_cons]
    omega
theorem elN_next (v : Vl) (ps : List Int) (j : Nat) (h : j < ps.length) : ((ps.take (j + 1)).map (elN v)).flatMap Vl.n = ((ps.take j).map (elN v)).flatMap Vl.n ++ (elN v ps[j]).n ∧ ((ps.take (j + 1)).map (elN v)).flatMap Vl.s = ((ps.take j).map (elN v)).flatMap Vl.s ++ (elN v ps[j]).s := by
  rw [List.take_succ_eq_append_getElem h, List.map_append, List.flatMap_append, List.flatMap_append]
  simp
set_option maxHeartbeats 16000000 in
set_option maxRecDepth 100000 in
theorem pick_vec (v : Vl) (ps : List Int) (w : World) (B : Nat) (nA : Option Addr) (nc : Nat) (sA : Option Addr) (sc : Nat) (lA : Option Addr) (lc : Nat) (pA : Option Addr) (pc : Nat)
    (hty : numT v.t ∨ v.t = 3) (ht : v.tot ≤ 500000000) (hB : B ≤ w.heap.size) (h : VB w B v nA nc sA sc lA lc) (hp : Rd w w.heap.size pA (i64s ps)) (hpl : ps.length ≤ 100000) :
    Calls Tryz.prog 31 #[.agg #[.int .i64 v.t, .slice nA v.n.length nc, .slice sA v.s.length sc, .slice lA v.l.length lc], .slice pA ps.length pc] w (NewV (idxV v ps) w) := by
  obtain ⟨w1, hw1⟩ : ∃ w1, w1 = w.alloc (.cells #[.int .i64 v.t, .slice nA v.n.length nc, .slice sA v.s.length sc, .slice lA v.l.length lc] 26) := ⟨_, rfl⟩
  obtain ⟨wa, hwa⟩ : ∃ wa, wa = w1.alloc (.cells #[.int .i64 0, .slice none 0 0, .slice none 0 0, .slice none 0 0] 26) := ⟨_, rfl⟩
  have hs1 : w1.heap.size = w.heap.size + 1 := by rw [hw1]; simp
  have hg1 : w.grownBy w1 none := by rw [hw1]; exact gb_alloc (gb_refl w none) _
  have hga1 : w1.grownBy wa none := by rw [hwa]; exact gb_alloc (gb_refl w1 none) _
  have hga := gb_trans hg1 hga1 (.inl rfl)
  have hbv : wa.heap[w.heap.size]? = some (.cells #[.int .i64 v.t, .slice nA v.n.length nc, .slice sA v.s.length sc, .slice lA v.l.length lc] 26 (0, 0)) := (hga1.block _ (by omega) (by simp)).trans (by rw [hw1]; exact heap_alloc_new w _)
  have hr : wa.heap[w1.heap.size]? = some (.cells #[.int .i64 0, .slice none 0 0, .slice none 0 0, .slice none 0 0] 26 (0, 0)) := by rw [hwa]; exact heap_alloc_new w1 _
  have HS1 := hide hs1
  have HG1 := hide hg1
  have HGA1 := hide hga1
  have HGA := hide hga
  have HBV := hide hbv
  have HR := hide hr
  have HWE := hide hwa
  have HW1 := hide hw1
  have HB := hide hB
  have HP := hide hp
  have HATL := hide (fun (p : Int) (w2 : World) (hg : wa.grownBy w2 none) => rAtN v p w2 B nA nc sA sc lA lc (hty.elim .inl fun h => .inr (.inl h)) ht (Nat.le_trans hB (Nat.le_trans hga.size hg.size)) (h.gb (gb_trans hga hg (.inl rfl)) hB))
  have HPL := hide hpl
  have HTY := hide hty
  have e0 : (v.t == 0) = false := int_beq_f (by unfold numT at hty; omega)
  have HSA := hide (show wa.heap.size = w1.heap.size + 1 by rw [hwa]; simp)
  clear hs1 hg1 hga1 hga hbv hr hwa hw1 hB hp ht h hty
  go_enter Tryz.func31, Tryz.ntmps31
  go_wp2_with fail
  rw [← HW1.out]
  rw [← HWE.out]
  obtain ⟨b0, b1, b2, b3⟩ : C4 wa w.heap.size 0 (.int .i64 v.t) (.slice nA v.n.length nc) (.slice sA v.s.length sc) (.slice lA v.l.length lc) := ⟨by rw [blk_cell HBV.out]; rfl, by rw [blk_cell HBV.out]; rfl, by rw [blk_cell HBV.out]; rfl, by rw [blk_cell HBV.out]; rfl⟩
  obtain ⟨w5, hw5⟩ : ∃ w5, w5 = wa.alloc (.cells #[.int .i64 v.t, .slice none 0 0, .slice none 0 0, .slice none 0 0] 26) := ⟨_, rfl⟩
  have HGP0 := hide (show GrowP wa v.t [] [] none 0 none 0 w5 by rw [hw5]; exact ⟨heap_alloc_new wa _, ⟨rfl, .inl ⟨rfl, rfl⟩⟩, ⟨rfl, .inl ⟨rfl, rfl⟩⟩, gb_alloc (gb_refl wa none) _⟩)
  go_upto_region 12 with fail
  rw [← hw5, show w.heap.size + 1 + 1 = wa.heap.size by rw [HSA.out, HS1.out]]
  clear hw5 b0 b1 b2 b3
  go_wp2_with fail
  go_loopw [10] (fun i wr => ∃ (j : Nat) (n : List Int) (s : List ByteArray), i = .int .i64 (j : Int) ∧ j ≤ ps.length ∧ Hid (n = ((ps.take j).map (elN v)).flatMap Vl.n) ∧ Hid (s = ((ps.take j).map (elN v)).flatMap Vl.s) ∧ ∃ N nN S nS, GrowP wa v.t n s N nN S nS wr) (fun i _ => ps.length - (intOf i).toNat)
  case atStart => exact ⟨0, [], [], rfl, Nat.zero_le _, hide rfl, hide rfl, _, _, _, _, HGP0.out⟩
  case round =>
    obtain ⟨j, n, s, rfl, hj, HN, HS, N, nN, S, nS, hgp⟩ := hrel
    have hgr := hgp.hg
    by_cases hlt : j < ps.length
    · have hlt1 : (j : Int) < (ps.length : Int) := by omega
      obtain ⟨a, ha, _, hcp0⟩ := HP.out.i64 hlt
      subst ha
      have hnx := elN_next v ps j hlt
      have hnl := elN_n v (ps.take j)
      have hsl := elN_s v (ps.take j)
      have htl : (ps.take j).length ≤ j := by rw [List.length_take]; omega
      rw [← HN.out] at hnx hnl
      rw [← HS.out] at hnx hsl
      obtain ⟨p, hpe⟩ : ∃ p, p = ps[j] := ⟨_, rfl⟩
      rw [← hpe] at hcp0 hnx
      obtain ⟨y, hy⟩ : ∃ y, y = elN v p := ⟨_, rfl⟩
      rw [← hy] at hnx
      have HNX := hide hnx
      have hyn : y.n.length ≤ 1 ∧ y.s.length ≤ 1 := by rw [hy]; unfold elN; split <;> simp [Vl.n, Vl.s]
      have hgw := gb_trans HGA.out hgr (.inl rfl)
      have hcp := cell_gb hcp0 hgw
      have hbr := blk_keep HBV.out hgr (by simp)
      obtain ⟨b0, b1, b2, b3⟩ : C4 wr w.heap.size 0 (.int .i64 v.t) (.slice nA v.n.length nc) (.slice sA v.s.length sc) (.slice lA v.l.length lc) := ⟨by rw [blk_cell hbr]; rfl, by rw [blk_cell hbr]; rfl, by rw [blk_cell hbr]; rfl, by rw [blk_cell hbr]; rfl⟩
      have u0 : ∀ o : Obj, (wr.alloc o).cell? ⟨w.heap.size, 0, none⟩ = some (.int .i64 v.t) := fun o => cell_gb b0 (gb_alloc (gb_refl wr none) o)
      have u1 : ∀ o : Obj, (wr.alloc o).cell? ⟨w.heap.size, 1, none⟩ = some (.slice nA v.n.length nc) := fun o => cell_gb b1 (gb_alloc (gb_refl wr none) o)
      have u2 : ∀ o : Obj, (wr.alloc o).cell? ⟨w.heap.size, 2, none⟩ = some (.slice sA v.s.length sc) := fun o => cell_gb b2 (gb_alloc (gb_refl wr none) o)
      have u3 : ∀ o : Obj, (wr.alloc o).cell? ⟨w.heap.size, 3, none⟩ = some (.slice lA v.l.length lc) := fun o => cell_gb b3 (gb_alloc (gb_refl wr none) o)
      have up : ∀ o : Obj, (wr.alloc o).cell? (a.add j) = some (.int .i64 p) := fun o => cell_gb hcp (gb_alloc (gb_refl wr none) o)
      have HAT := hide (fun (w2 : World) (hg : wr.grownBy w2 none) => HATL.out p w2 (gb_trans hgr hg (.inl rfl)))
      have HBR := hide hbr
      have HGP := hide hgp
      have HGR := hide hgr
      have HJ := hide hlt
      have HLE1 := hide (blk_lt hgp.hh)
      have HOWN : Hid (∀ b, (Value.slice N n.length nN).ownBlock = some b → b < wr.heap.size) := hide (fun b e => (hgp.hn.lt b e).2)
      have HOWS : Hid (∀ b, (Value.slice S s.length nS).ownBlock = some b → b < wr.heap.size) := hide (fun b e => (hgp.hs.lt b e).2)
      obtain ⟨i1, hi1, hiz, his, hib⟩ := info_parts Tryz.info64
      have HI1 := hide hi1
      have HIZ := hide hiz
      have HIS := hide his
      have HIB := hide hib
      obtain ⟨i2, hi2, hiz2, his2, hib2⟩ := info_parts Tryz.infoS
      have HJ1 := hide hi2
      have HJZ := hide hiz2
      have HJS := hide his2
      have HJB := hide hib2
      have HL1 : Hid ((i64s y.n).length = y.n.length * 1) := hide (by simp [i64s])
      have HOC := hide (i64s_one y.n)
      have HM1 : Hid (n.length + y.n.length ≤ maxLen) := hide (by unfold maxLen; have := HPL.out; omega)
      have HMB : Hid ((n.length + y.n.length) * 8 ≤ 140737488355328) := hide (by have := HPL.out; omega)
      have HL2 : Hid ((strs y.s).length = y.s.length * 1) := hide (by simp [strs])
      have HOC2 := hide (strs_one y.s)
      have HM2 : Hid (s.length + y.s.length ≤ maxLen) := hide (by unfold maxLen; have := HPL.out; omega)
      have HMB2 : Hid ((s.length + y.s.length) * 16 ≤ 140737488355328) := hide (by have := HPL.out; omega)
      have h6 : IntKind.i64.wrap ((j : Int) + 1) = ((j + 1 : Nat) : Int) := by rw [IntKind.wrap_i64]; have := HPL.out; omega
      have HY := hide hy
      obtain ⟨k, hk⟩ : ∃ k, k = errE v p := ⟨_, rfl⟩
      have HK := hide hk
      obtain ⟨y0, hy0⟩ : ∃ y0, y0 = pickE v p := ⟨_, rfl⟩
      have HY0 := hide hy0
      rw [← hy0, ← hk] at HAT
      clear hgp hgr hgw hcp0 hbr hi1 hiz his hib hi2 hiz2 his2 hib2 hlt hj hpe hnx hnl hsl htl hyn hy hk hy0
      go_upto_region 15 with fail
      go_cut [11, 12] (fun q e wc => PkR y0 k wr q e wc)
      case first =>
        go_region_law (first
          | (go_simp; go_at_call 49; refine (HAT.out wr.drew (gb_drew (gb_refl wr none))).mono ?_; rintro e w3 ⟨aA, ac, bA, bc, dA, dc, f3, rfl, ho3, hn3, hg3⟩; have HO3 := hide ho3; have HN3 := hide (show New wr w3 f3 from ⟨hn3.1, hn3.2⟩); have HG3 := hide (show wr.grownBy w3 none from ⟨hg3.os, hg3.tape, hg3.output, hg3.size, hg3.block⟩); clear ho3 hn3 hg3)
          | (go_simp; go_at_call 49; refine (HAT.out (wr.alloc (.cells #[.int .i64 0, .slice none 0 0, .slice none 0 0, .slice none 0 0] 26)).drew (gb_drew (gb_alloc (gb_refl wr none) _))).mono ?_; rintro e w3 ⟨aA, ac, bA, bc, dA, dc, f3, rfl, ho3, hn3, hg3⟩; have HO3 := hide ho3; have HN3 := hide (show f3.Nodup ∧ ∀ b ∈ f3, wr.heap.size + 1 ≤ b ∧ b < w3.heap.size from ⟨hn3.1, fun b hb => by have h := hn3.2 b hb; simp [World.drew] at h; omega⟩); have HGA := hide (show (wr.alloc (.cells #[.int .i64 0, .slice none 0 0, .slice none 0 0, .slice none 0 0] 26)).grownBy w3 none from ⟨hg3.os, hg3.tape, hg3.output, hg3.size, hg3.block⟩); have HG3 := hide (show wr.grownBy w3 none from gb_trans (gb_alloc (gb_refl wr none) (.cells #[.int .i64 0, .slice none 0 0, .slice none 0 0, .slice none 0 0] 26)) HGA.out (.inl rfl)); have HBX := hide (show w3.heap[wr.heap.size]? = some (.cells #[.int .i64 0, .slice none 0 0, .slice none 0 0, .slice none 0 0] 26 (0, 0)) from (HGA.out.block _ (by simp) (by simp)).trans (heap_alloc_new wr _)); have x0 : w3.cell? ⟨wr.heap.size, 0, none⟩ = some (.int .i64 0) := (by { rw [blk_cell HBX.out]; rfl }); have x1 : w3.cell? ⟨wr.heap.size, 1, none⟩ = some (.slice none 0 0) := (by { rw [blk_cell HBX.out]; rfl }); have x2 : w3.cell? ⟨wr.heap.size, 2, none⟩ = some (.slice none 0 0) := (by { rw [blk_cell HBX.out]; rfl }); have x3 : w3.cell? ⟨wr.heap.size, 3, none⟩ = some (.slice none 0 0) := (by { rw [blk_cell HBX.out]; rfl }); have z0 := blk_frozen HBX.out 0; have z1 := blk_frozen HBX.out 1; have z2 := blk_frozen HBX.out 2; have z3 := blk_frozen HBX.out 3; clear ho3 hn3 hg3))
        all_goals first
          | (have hbx := HBX.out
             go_wp2_with fail
             go_meet
             case rel => exact PkR.early hbx HO3.out HN3.out HG3.out)
          | (go_wp2_with fail
             go_meet
             case rel => exact PkR.late HO3.out HN3.out HG3.out)
      case rest =>
        by_cases hin : 0 ≤ p ∧ p < (v.count : Int)
        · obtain ⟨bk, aA, ac, bA, bc, dA, dc, f9, rfl, rfl, hbk, ho, hn, hg, hle⟩ := hcut
          have hk0 : k = 0 := by rw [HK.out, errE_in hin]
          have hye : y0 = y := by
            obtain ⟨q, rfl⟩ : ∃ q : Nat, p = (q : Int) := ⟨p.toNat, by omega⟩
            rw [HY.out, elN_in HTY.out (by omega), HY0.out]
            unfold pickE
            rw [if_pos hin]
            rfl
          clear HK HY HY0 hin HAT b0 b1 b2 b3 u0 u1 u2 u3 up hcp
          subst hk0
          subst hye
          have HBK := hide hbk
          have HOV := hide ho
          have HNW := hide hn
          have HGX := hide hg
          have HLE := hide hle
          clear hbk ho hn hg hle
          have p1 : wc.cell? ⟨wa.heap.size, 1, none⟩ = some (.slice N n.length nN) := by rw [blk_cell (blk_keep HGP.out.hh HGX.out (by simp))]; rfl
          obtain ⟨d0, d1, d2, d3⟩ : C4 wc bk 0 (.int .i64 y0.t) (.slice aA y0.n.length ac) (.slice bA y0.s.length bc) (.slice dA y0.l.length dc) := ⟨by rw [blk_cell HBK.out]; rfl, by rw [blk_cell HBK.out]; rfl, by rw [blk_cell HBK.out]; rfl, by rw [blk_cell HBK.out]; rfl⟩
          have HRN := hide (HOV.out.vb).n
          have HON := hide (HGP.out.hn.kept HGX.out (by cases (Value.slice N n.length nN).ownBlock <;> simp))
          have HBS : Hid (wa.heap.size + 1 ≤ wc.heap.size) := hide (by have := HLE1.out; have := HGX.out.size; omega)
          go_wp2_with (first
            | (at_builtin; refine wpList_append_rd _ rfl (.tmp 64) (.tmp 66) 22 rfl (wa.heap.size + 1) 2 i1 (.int .i64 0) 1 8 Tryz.underlying22 HI1.out HIZ.out HIS.out HIB.out rfl (Nat.succ_pos 0) (.slice N n.length nN) n.length (i64s n) rfl HON.out wc.heap.size aA y0.n.length ac (i64s y0.n) rfl HL1.out HRN.out HOC.out HM1.out HMB.out HBS.out ?_
               intro v5 w5 ho5 hg5 hb5
               obtain ⟨N5, nc5, rfl, _⟩ := own_slice ho5
               have HST := hide (HGP.out.num HGX.out ho5 hg5)
               have hR5 := HST.out.1
               have hgs : w5.grownBy (w5.setCell ⟨wa.heap.size, 1, none⟩ (.slice N5 (n.length + y0.n.length) nc5)) (some wa.heap.size) := gb_setCell (gb_refl _ _) (.inl rfl) _
               have hoth : ∀ b, wr.heap.size ≤ b → b < wc.heap.size → (w5.setCell ⟨wa.heap.size, 1, none⟩ (.slice N5 (n.length + y0.n.length) nc5)).heap[b]? = wc.heap[b]? := fun b h1 h2 => (hgs.block b (by have := hg5.size; omega) (fun e => by injection e with e; have := HLE1.out; omega)).trans (hg5.block b h2 (fun e => by have := HOWN.out b e.symm; omega))
               have hbk5 : (w5.setCell ⟨wa.heap.size, 1, none⟩ (.slice N5 (n.length + y0.n.length) nc5)).heap[bk]? = some (.cells #[.int .i64 y0.t, .slice aA y0.n.length ac, .slice bA y0.s.length bc, .slice dA y0.l.length dc] 26 (0, 0)) := (hoth bk HLE.out (blk_lt HBK.out)).trans HBK.out
               have hov5 : VOw (w5.setCell ⟨wa.heap.size, 1, none⟩ (.slice N5 (n.length + y0.n.length) nc5)) y0 [.int .i64 y0.t, .slice aA y0.n.length ac, .slice bA y0.s.length bc, .slice dA y0.l.length dc] f9 := VOw.keep _ _ _ HOV.out fun b hm => hoth b (HNW.out.2 b hm).1 (HNW.out.2 b hm).2
               have p1 : w5.cell? ⟨wa.heap.size, 1, none⟩ = some (.slice N n.length nN) := (by { rw [blk_cell hR5]; rfl })
               have z1 := blk_frozen hR5 1
               have q2 : (w5.setCell ⟨wa.heap.size, 1, none⟩ (.slice N5 (n.length + y0.n.length) nc5)).cell? ⟨wa.heap.size, 2, none⟩ = some (.slice S s.length nS) := (by { rw [blk_cell HST.out.2.1.hh]; rfl })
               have x2 : (w5.setCell ⟨wa.heap.size, 1, none⟩ (.slice N5 (n.length + y0.n.length) nc5)).cell? ⟨bk, 2, none⟩ = some (.slice bA y0.s.length bc) := (by { rw [blk_cell hbk5]; rfl })
               have HRS := hide (hov5.vb).s
               have HOS := hide HST.out.2.1.hs
               have HBS5 : Hid (wa.heap.size + 1 ≤ (w5.setCell ⟨wa.heap.size, 1, none⟩ (.slice N5 (n.length + y0.n.length) nc5)).heap.size) := hide (by have := HBS.out; have := hg5.size; have := hgs.size; omega)
               clear ho5 hg5 hb5 hR5 hgs hoth hbk5 hov5)
            | (at_builtin; refine wpList_append_rd _ rfl (.tmp 70) (.tmp 72) 23 rfl (wa.heap.size + 1) 9 i2 (.string ⟨#[]⟩) 1 16 Tryz.underlying23 HJ1.out HJZ.out HJS.out HJB.out rfl (Nat.succ_pos 0) (.slice S s.length nS) s.length (strs s) rfl HOS.out (w5.setCell ⟨wa.heap.size, 1, none⟩ (.slice N5 (n.length + y0.n.length) nc5)).heap.size bA y0.s.length bc (strs y0.s) rfl HL2.out HRS.out HOC2.out HM2.out HMB2.out HBS5.out ?_
               intro v6 w6 ho6 hg6 hb6
               obtain ⟨S6, sc6, rfl, _⟩ := own_slice ho6
               have HST6 := hide (HST.out.2.1.str (gb_refl (w5.setCell ⟨wa.heap.size, 1, none⟩ (.slice N5 (n.length + y0.n.length) nc5)) none) ho6 hg6)
               have hR6 := HST6.out.1
               have p2 : w6.cell? ⟨wa.heap.size, 2, none⟩ = some (.slice S s.length nS) := (by { rw [blk_cell hR6]; rfl })
               have z2 := blk_frozen hR6 2
               clear ho6 hg6 hb6 hR6))
          go_roundw
          case rel => exact ⟨j + 1, n ++ y0.n, s ++ y0.s, by go_num, by have := HJ.out; omega, hide HNX.out.1.symm, hide HNX.out.2.symm, N5, nc5, S6, sc6, HST6.out.2⟩
          case measure => have := HJ.out; simp [intOf]; omega
        · obtain ⟨bk, xA, xc, yA, yc, zA, zc, f9, rfl, rfl, hbk, _, _, hg, hle⟩ := hcut
          have hk0 : k = 33 := by rw [HK.out, errE_out hin]
          have hye : y = nullE v.t := by rw [HY.out, elN_out HTY.out hin]
          have HNU := hide (fun w2 => rNullE_any v.t HTY.out w2)
          rw [← hye] at HNU
          clear HK HY HY0 hin HAT b0 b1 b2 b3 u0 u1 u2 u3 up hcp hye
          subst hk0
          have c0 : wc.cell? ⟨w.heap.size, 0, none⟩ = some (.int .i64 v.t) := by rw [blk_cell (blk_keep HBR.out hg (by simp))]; rfl
          have HBK0 := hide hbk
          have HG0 := hide hg
          have HLE := hide hle
          clear hbk hg hle
          go_upto_region 18 with (go_at_call 61; refine (HNU.out _).mono ?_; rintro e wn ⟨aA, ac, bA, bc, dA, dc, f8, rfl, ho, hn, hgn⟩; have HOV0 := hide ho; have HNW0 := hide hn; have HGN := hide hgn; have hbn := blk_keep HBK0.out hgn (by simp); have HBN := hide hbn; have z0 := blk_frozen hbn 0; have z1 := blk_frozen hbn 1; have z2 := blk_frozen hbn 2; have z3 := blk_frozen hbn 3; have s0 : wn.cell? ⟨bk, 0, none⟩ = some (.int .i64 y0.t) := (by { rw [blk_cell hbn]; rfl }); have s1 : wn.cell? ⟨bk, 1, none⟩ = some (.slice xA y0.n.length xc) := (by { rw [blk_cell hbn]; rfl }); have s2 : wn.cell? ⟨bk, 2, none⟩ = some (.slice yA y0.s.length yc) := (by { rw [blk_cell hbn]; rfl }); have s3 : wn.cell? ⟨bk, 3, none⟩ = some (.slice zA y0.l.length zc) := (by { rw [blk_cell hbn]; rfl }); clear ho hn hgn hbn)
          obtain ⟨wd, hwd⟩ : ∃ wd, wd = ((((wn.setCell ⟨bk, 0, none⟩ (.int .i64 y.t)).setCell ⟨bk, 1, none⟩ (.slice aA y.n.length ac)).setCell ⟨bk, 2, none⟩ (.slice bA y.s.length bc)).setCell ⟨bk, 3, none⟩ (.slice dA y.l.length dc)) := ⟨_, rfl⟩
          rw [← hwd]
          have HBK := hide (show wd.heap[bk]? = some (.cells #[.int .i64 y.t, .slice aA y.n.length ac, .slice bA y.s.length bc, .slice dA y.l.length dc] 26 (0, 0)) by rw [hwd]; exact put_four HBN.out _ _ _ _)
          have HGX := hide (show wr.grownBy wd none by rw [hwd]; exact put_four_gb (gb_trans HG0.out HGN.out (.inl rfl)) HLE.out _ _ _ _)
          have HOV := hide (show VOw wd y [.int .i64 y.t, .slice aA y.n.length ac, .slice bA y.s.length bc, .slice dA y.l.length dc] f8 by rw [hwd]; exact VOw.keep _ _ _ HOV0.out fun b hm => put_four_other (by have := (HNW0.out.2 b hm).1; have := blk_lt HBK0.out; omega) _ _ _ _)
          have HNW := hide (show New wr wd f8 from ⟨HNW0.out.1, fun b hm => ⟨by have := (HNW0.out.2 b hm).1; have := HG0.out.size; omega, by have := (HNW0.out.2 b hm).2; rw [hwd]; simp [World.setCell]; exact this⟩⟩)
          clear hwd s0 s1 s2 s3 z0 z1 z2 z3 c0 HOV0 HNW0 HGN HBN HBK0 HG0 HNU
          have p1 : wd.cell? ⟨wa.heap.size, 1, none⟩ = some (.slice N n.length nN) := by rw [blk_cell (blk_keep HGP.out.hh HGX.out (by simp))]; rfl
          obtain ⟨d0, d1, d2, d3⟩ : C4 wd bk 0 (.int .i64 y.t) (.slice aA y.n.length ac) (.slice bA y.s.length bc) (.slice dA y.l.length dc) := ⟨by rw [blk_cell HBK.out]; rfl, by rw [blk_cell HBK.out]; rfl, by rw [blk_cell HBK.out]; rfl, by rw [blk_cell HBK.out]; rfl⟩
          have HRN := hide (HOV.out.vb).n
          have HON := hide (HGP.out.hn.kept HGX.out (by cases (Value.slice N n.length nN).ownBlock <;> simp))
          have HBS : Hid (wa.heap.size + 1 ≤ wd.heap.size) := hide (by have := HLE1.out; have := HGX.out.size; omega)
          go_wp2_with (first
            | (at_builtin; refine wpList_append_rd _ rfl (.tmp 64) (.tmp 66) 22 rfl (wa.heap.size + 1) 2 i1 (.int .i64 0) 1 8 Tryz.underlying22 HI1.out HIZ.out HIS.out HIB.out rfl (Nat.succ_pos 0) (.slice N n.length nN) n.length (i64s n) rfl HON.out wd.heap.size aA y.n.length ac (i64s y.n) rfl HL1.out HRN.out HOC.out HM1.out HMB.out HBS.out ?_
               intro v5 w5 ho5 hg5 hb5
               obtain ⟨N5, nc5, rfl, _⟩ := own_slice ho5
               have HST := hide (HGP.out.num HGX.out ho5 hg5)
               have hR5 := HST.out.1
               have hgs : w5.grownBy (w5.setCell ⟨wa.heap.size, 1, none⟩ (.slice N5 (n.length + y.n.length) nc5)) (some wa.heap.size) := gb_setCell (gb_refl _ _) (.inl rfl) _
               have hoth : ∀ b, wr.heap.size ≤ b → b < wd.heap.size → (w5.setCell ⟨wa.heap.size, 1, none⟩ (.slice N5 (n.length + y.n.length) nc5)).heap[b]? = wd.heap[b]? := fun b h1 h2 => (hgs.block b (by have := hg5.size; omega) (fun e => by injection e with e; have := HLE1.out; omega)).trans (hg5.block b h2 (fun e => by have := HOWN.out b e.symm; omega))
               have hbk5 : (w5.setCell ⟨wa.heap.size, 1, none⟩ (.slice N5 (n.length + y.n.length) nc5)).heap[bk]? = some (.cells #[.int .i64 y.t, .slice aA y.n.length ac, .slice bA y.s.length bc, .slice dA y.l.length dc] 26 (0, 0)) := (hoth bk HLE.out (blk_lt HBK.out)).trans HBK.out
               have hov5 : VOw (w5.setCell ⟨wa.heap.size, 1, none⟩ (.slice N5 (n.length + y.n.length) nc5)) y [.int .i64 y.t, .slice aA y.n.length ac, .slice bA y.s.length bc, .slice dA y.l.length dc] f8 := VOw.keep _ _ _ HOV.out fun b hm => hoth b (HNW.out.2 b hm).1 (HNW.out.2 b hm).2
               have p1 : w5.cell? ⟨wa.heap.size, 1, none⟩ = some (.slice N n.length nN) := (by { rw [blk_cell hR5]; rfl })
               have z1 := blk_frozen hR5 1
               have q2 : (w5.setCell ⟨wa.heap.size, 1, none⟩ (.slice N5 (n.length + y.n.length) nc5)).cell? ⟨wa.heap.size, 2, none⟩ = some (.slice S s.length nS) := (by { rw [blk_cell HST.out.2.1.hh]; rfl })
               have x2 : (w5.setCell ⟨wa.heap.size, 1, none⟩ (.slice N5 (n.length + y.n.length) nc5)).cell? ⟨bk, 2, none⟩ = some (.slice bA y.s.length bc) := (by { rw [blk_cell hbk5]; rfl })
               have HRS := hide (hov5.vb).s
               have HOS := hide HST.out.2.1.hs
               have HBS5 : Hid (wa.heap.size + 1 ≤ (w5.setCell ⟨wa.heap.size, 1, none⟩ (.slice N5 (n.length + y.n.length) nc5)).heap.size) := hide (by have := HBS.out; have := hg5.size; have := hgs.size; omega)
               clear ho5 hg5 hb5 hR5 hgs hoth hbk5 hov5)
            | (at_builtin; refine wpList_append_rd _ rfl (.tmp 70) (.tmp 72) 23 rfl (wa.heap.size + 1) 9 i2 (.string ⟨#[]⟩) 1 16 Tryz.underlying23 HJ1.out HJZ.out HJS.out HJB.out rfl (Nat.succ_pos 0) (.slice S s.length nS) s.length (strs s) rfl HOS.out (w5.setCell ⟨wa.heap.size, 1, none⟩ (.slice N5 (n.length + y.n.length) nc5)).heap.size bA y.s.length bc (strs y.s) rfl HL2.out HRS.out HOC2.out HM2.out HMB2.out HBS5.out ?_
               intro v6 w6 ho6 hg6 hb6
               obtain ⟨S6, sc6, rfl, _⟩ := own_slice ho6
               have HST6 := hide (HST.out.2.1.str (gb_refl (w5.setCell ⟨wa.heap.size, 1, none⟩ (.slice N5 (n.length + y.n.length) nc5)) none) ho6 hg6)
               have hR6 := HST6.out.1
               have p2 : w6.cell? ⟨wa.heap.size, 2, none⟩ = some (.slice S s.length nS) := (by { rw [blk_cell hR6]; rfl })
               have z2 := blk_frozen hR6 2
               clear ho6 hg6 hb6 hR6))
          go_roundw
          case rel => exact ⟨j + 1, n ++ y.n, s ++ y.s, by go_num, by have := HJ.out; omega, hide HNX.out.1.symm, hide HNX.out.2.symm, N5, nc5, S6, sc6, HST6.out.2⟩
          case measure => have := HJ.out; simp [intOf]; omega
    · have hlt1 : ¬ (j : Int) < (ps.length : Int) := by omega
      have HTE := hide (show ps.take j = ps from List.take_of_length_le (by omega))
      rw [HTE.out] at HN HS
      have hiv : Vl.mk v.t n s [] = idxV v ps := by rw [HN.out, HS.out]; exact idx_elN HTY.out ps
      obtain ⟨hh, hoN, hoS, hg⟩ := hgp
      obtain ⟨_, _, hvN, hcN⟩ := own_slice hoN
      obtain ⟨_, _, hvS, hcS⟩ := own_slice hoS
      injection hvN with hvN1 hvN2 hvN3
      injection hvS with hvS1 hvS2 hvS3
      clear hvN1 hvN2 hvS1 hvS2
      subst hvN3
      subst hvS3
      obtain ⟨f1, o1, q1'⟩ := Own.of_row hoN
      obtain ⟨f2, o2, q2'⟩ := Own.of_row hoS
      have hrr := blk_keep HR.out hg (by simp)
      rw [HS1.out] at hrr
      have hn : New wa wr (f1 ++ (f2 ++ ([] ++ []))) := by
        refine ⟨?_, fun b hb => ?_⟩
        · simp only [List.append_nil]
          refine List.nodup_append.2 ⟨?_, ?_, fun x hx y hy e => ?_⟩
          · match f1, o1.len with
            | [], _ => simp
            | [x], _ => simp
          · match f2, o2.len with
            | [], _ => simp
            | [x], _ => simp
          · subst e
            have k1 := o1.blk x hx (n := n.length) (c := nN)
            have k2 := o2.blk x hy (n := s.length) (c := nS)
            rcases rows_apart hoN hoS (by decide) with h | h
            · rw [h] at k1; cases k1
            · rw [k1, k2] at h; exact h rfl
        · simp only [List.append_nil] at hb
          rcases List.mem_append.1 hb with hb | hb
          · have := q1' b hb; omega
          · have := q2' b hb; omega
      have HVO := hide (VOw.mk_ (w := wr) (v := .mk v.t n s []) (xs := []) (lA := none) (lc := 0) ⟨hcN, hcS, Nat.le_refl _⟩ o1 o2 Own.nil_ ⟨rfl, rfl⟩)
      have HFIN := hide (NewE.fin (x := .mk v.t n s []) (g := w.heap.size + 1) HVO.out hn HGA.out hg (Nat.le_succ w.heap.size) (by have := HSA.out; have := HS1.out; omega))
      have HIV := hide hiv
      have HRR := hide hrr
      obtain ⟨x0, x1, x2, x3, p0, p1, p2, p3⟩ := four_cells hrr (i := 0) (by decide)
      have z0 := blk_frozen hrr 0
      have z1 := blk_frozen hrr 1
      have z2 := blk_frozen hrr 2
      have z3 := blk_frozen hrr 3
      obtain ⟨q0, q1, q2, q3⟩ : C4 wr wa.heap.size 0 (.int .i64 v.t) (.slice N n.length nN) (.slice S s.length nS) (.slice none 0 0) := ⟨by rw [blk_cell hh]; rfl, by rw [blk_cell hh]; rfl, by rw [blk_cell hh]; rfl, by rw [blk_cell hh]; rfl⟩
      clear hh hoN hoS hg hcN hcS o1 o2 q1' q2' hn hiv hrr hgr hlt hj HTE HN HS
      go_wp2_with fail
      obtain ⟨m0, m1, m2, m3⟩ := C4.put HRR.out (.int .i64 v.t) (.slice N n.length nN) (.slice S s.length nS) (.slice none 0 0)
      simp only [put4, Nat.zero_add] at m0 m1 m2 m3
      refine bodyPost_ret (v := .agg #[.int .i64 v.t, .slice N n.length nN, .slice S s.length nS, .slice none 0 0]) (by simp [results, Tryz.results31, go_sem, m0, m1, m2, m3]) rfl ?_
      rw [← HIV.out]
      exact newV_of_newE HFIN.out
theorem pick_any (v : Vl) (ps : List Int) (w : World) (B : Nat) (nA : Option Addr) (nc : Nat) (sA : Option Addr) (sc : Nat) (lA : Option Addr) (lc : Nat) (pA : Option Addr) (pc : Nat)
    (hs : seqT v.t) (ht : v.tot ≤ 500000000) (hB : B ≤ w.heap.size) (h : VB w B v nA nc sA sc lA lc) (hp : Rd w w.heap.size pA (i64s ps)) (hpl : ps.length ≤ 100000) (htt : v.t = 0 → Vl.tots (ps.map (pickV v.l emp)) ≤ 1200000000) :
    Calls Tryz.prog 31 #[.agg #[.int .i64 v.t, .slice nA v.n.length nc, .slice sA v.s.length sc, .slice lA v.l.length lc], .slice pA ps.length pc] w (NewV (idxV v ps) w) := by
  by_cases h0 : v.t = 0
  · have e : idxV v ps = ofV (ps.map (pickV v.l emp)) := by unfold idxV; rw [if_pos h0]
    rw [e]
    exact pick_lst v ps w B nA nc sA sc lA lc pA pc hs h0 ht hB h hp hpl (htt h0)
  · exact pick_vec v ps w B nA nc sA sc lA lc pA pc (by rcases hs with h | h | h; exact .inl h; exact .inr h; exact absurd h h0) ht hB h hp hpl
end Go.Proofs.YtkbflmaflokpdaaGreat
