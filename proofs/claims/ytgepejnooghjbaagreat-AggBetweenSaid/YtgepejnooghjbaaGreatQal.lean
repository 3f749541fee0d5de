/-
  vec.Index of any vector or list.
-/
import Derived.Test.YtgepejnooghjbaaGreatQak
import Derived.Test.YtgepejnooghjbaaGreatQac
import Derived.Test.YtgepejnooghjbaaGreatQae
import Derived.Test.YtgepejnooghjbaaGreatQaj

namespace Go.Proofs.YtgepejnooghjbaaGreat
open Go.RowKit
attribute [local go_sem ↓] Go.wp_at_zero Go.wp_at_succ

/-- What a list has at a place, and d where it has nothing. -/
def pickS (l : List ByteArray) (d : ByteArray) (p : Int) : ByteArray := if 0 ≤ p ∧ p < (l.length : Int) then l.getD p.toNat ⟨#[]⟩ else d
/-- What a function gives that makes a row of strings of its own. -/
def StrsR (l : List ByteArray) (w : World) (e : Ending) (w' : World) : Prop := w.grownBy w' none ∧ ∃ A c, l.length ≤ c ∧ e = .returned (.slice A l.length c) ∧ w'.ownsRow w.heap.size 9 1 (.slice A l.length c) l.length (strs l)
theorem strs_set_mid (xs : List ByteArray) (n : ByteArray) (m : Nat) : (strs xs ++ List.replicate (m + 1) (Value.string ⟨#[]⟩)).set xs.length (.string n) = strs (xs ++ [n]) ++ List.replicate m (Value.string ⟨#[]⟩) := by
  have hl : (strs xs).length = xs.length := by simp [strs]
  rw [List.set_append_right _ _ (by omega), hl, Nat.sub_self, List.replicate_succ, List.set_cons_zero]
  simp [strs]
set_option maxHeartbeats 8000000 in
set_option maxRecDepth 100000 in
theorem pickedS_any (l : List ByteArray) (ps : List Int) (d : ByteArray) (w : World) (lA : Option Addr) (lc : Nat) (pA : Option Addr) (pc : Nat) (hl : Rd w w.heap.size lA (strs l)) (hp : Rd w w.heap.size pA (i64s ps)) (h1 : ps.length ≤ 1100000) (h2 : l.length ≤ 1100000) :
    Calls Tryz.prog 100 #[.slice lA l.length lc, .string d, .slice pA ps.length pc] w (StrsR (ps.map (pickS l d)) w) := by
  obtain ⟨i1, hi1, hiz, his, hib⟩ := info_parts Tryz.infoS
  obtain ⟨w0, hmk, hown, hg0⟩ := run_make_full (P := Tryz.prog) w w.heap.size 23 9 i1 (.string ⟨#[]⟩) 1 Tryz.underlying23 hi1 hiz his .i64 .i64 ps.length (by rw [hib]; omega) (by unfold maxLen; omega) (Nat.le_refl _)
  rw [show (madeCells (Value.string ⟨#[]⟩).cells (ps.length * 1)).toList = List.replicate ps.length (.string ⟨#[]⟩) by rw [Nat.mul_one]; exact toList_madeCells_one _ ps.length] at hown
  have HOWN := hide hown
  have HG0 := hide hg0
  have HCL := hide h1
  have HLL := hide h2
  have HL := hide hl
  have HP := hide hp
  clear hown hg0 h1 h2 hl hp hi1 hiz his hib
  go_enter Tryz.func100, Tryz.ntmps100
  go_wp2_with fail
  go_loopw [15] (fun i wr => ∃ j : Nat, i = .int .i64 (j : Int) ∧ j ≤ ps.length ∧
    wr.ownsRow w.heap.size 9 1 (.slice (some ⟨w.heap.size, 0, none⟩) ps.length ps.length) ps.length (strs ((ps.take j).map (pickS l d)) ++ List.replicate (ps.length - j) (.string ⟨#[]⟩)) ∧ w.grownBy wr none) (fun i _ => ps.length - (intOf i).toNat)
  case atStart => exact ⟨0, rfl, Nat.zero_le _, by simpa [strs] using HOWN.out, HG0.out⟩
  case round =>
    obtain ⟨j, rfl, hj, how, hgr⟩ := hrel
    by_cases hlt : j < ps.length
    · have hlt1 : (j : Int) < (ps.length : Int) := by omega
      obtain ⟨pp, ep, hpp, hcp⟩ := HP.out.i64 hlt
      obtain ⟨p, hpe⟩ : ∃ p, p = ps[j] := ⟨_, rfl⟩
      rw [← hpe] at hcp
      have cp := cell_gb hcp hgr
      obtain ⟨xs, hxs⟩ : ∃ xs, xs = (ps.take j).map (pickS l d) := ⟨_, rfl⟩
      have htk : ps.take (j + 1) = ps.take j ++ [ps[j]] := by rw [List.take_add_one, List.getElem?_eq_getElem hlt]; rfl
      have HTK := hide (show (ps.take (j + 1)).map (pickS l d) = xs ++ [pickS l d p] by rw [htk, List.map_append, ← hxs, hpe]; rfl)
      have hxl : xs.length = j := by rw [hxs, List.length_map, List.length_take]; omega
      have HLN := hide hxl
      rw [← hxs] at how
      have h6 : IntKind.i64.wrap ((j : Int) + 1) = ((j + 1 : Nat) : Int) := by rw [IntKind.wrap_i64]; have := HCL.out; omega
      have HO5 := hide how
      have HGR := hide hgr
      have HLT := hide hlt
      have c5 := how.cellAt j (by omega)
      rw [List.getElem?_append_right (by simp [strs, hxl]), show (strs xs).length = j by simp [strs, hxl], Nat.sub_self, List.getElem?_replicate, if_pos (by omega)] at c5
      have z5 := how.frozenAt j
      have how2 := (how.stored j (.string d)).1
      have HO6 := hide how2
      have HG6 := hide (gb_setCell hgr (.inr (Nat.le_refl w.heap.size)) (.string d) : w.grownBy (wr.setCell ⟨w.heap.size, j, none⟩ (.string d)) none)
      have HST := hide (strs_set_mid xs)
      subst ep
      clear hcp hpp how how2 hgr hlt hj hpe hxs htk hxl
      by_cases q0 : 0 ≤ p
      · by_cases q1 : p < (l.length : Int)
        · have HPI := hide (show pickS l d p = l.getD p.toNat ⟨#[]⟩ by unfold pickS; rw [if_pos ⟨q0, q1⟩])
          obtain ⟨q, rfl⟩ : ∃ q : Nat, p = (q : Int) := ⟨p.toNat, by omega⟩
          have hq : q < l.length := by omega
          obtain ⟨pl, el, hpl, hcl⟩ := HL.out.str hq
          obtain ⟨x, hx⟩ : ∃ x, x = l.getD q ⟨#[]⟩ := ⟨_, rfl⟩
          have hxe : l[q] = x := by rw [hx, List.getD_eq_getElem?_getD, List.getElem?_eq_getElem hq]; rfl
          rw [hxe] at hcl
          have cl := cell_gb hcl HG6.out
          have c6 := HO6.out.cellAt j (by have := HLT.out; omega)
          have hc6 : (wr.setCell ⟨w.heap.size, j, none⟩ (.string d)).cell? ⟨w.heap.size, j, none⟩ = some (.string d) := by rw [c6, List.getElem?_set_self (by simp [strs]; have := HLT.out; have := HLN.out; omega)]
          clear c6
          have z6 := HO6.out.frozenAt j
          have HPX := hide (show pickS l d (q : Int) = x by rw [HPI.out, hx]; rfl)
          subst el
          clear hcl hpl hx hxe HPI hq
          go_wp2_with fail
          go_roundw
          case rel =>
            have hlt := HLT.out
            refine ⟨j + 1, by go_num, by omega, ?_, gb_setCell HG6.out (.inr (Nat.le_refl _)) _⟩
            rw [HTK.out, HPX.out]
            have h1 := (HO6.out.stored j (.string x)).1
            obtain ⟨k, hk⟩ : ∃ k, ps.length - j = k + 1 := ⟨ps.length - j - 1, by omega⟩
            rw [hk, List.set_set] at h1
            have h2 := HST.out x k
            rw [HLN.out] at h2
            rw [h2] at h1
            rw [show ps.length - (j + 1) = k by omega]
            exact h1
          case measure =>
            have hlt := HLT.out
            simp [intOf]
            omega
        · have HPX := hide (show pickS l d p = d by unfold pickS; rw [if_neg (fun h => q1 h.2)])
          go_wp2_with fail
          go_roundw
          case rel =>
            have hlt := HLT.out
            refine ⟨j + 1, by go_num, by omega, ?_, HG6.out⟩
            rw [HTK.out, HPX.out]
            have h1 := HO6.out
            obtain ⟨k, hk⟩ : ∃ k, ps.length - j = k + 1 := ⟨ps.length - j - 1, by omega⟩
            rw [hk] at h1
            have h2 := HST.out d k
            rw [HLN.out] at h2
            rw [h2] at h1
            rw [show ps.length - (j + 1) = k by omega]
            exact h1
          case measure =>
            have hlt := HLT.out
            simp [intOf]
            omega
      · have HPX := hide (show pickS l d p = d by unfold pickS; rw [if_neg (fun h => q0 h.1)])
        go_wp2_with fail
        go_roundw
        case rel =>
          have hlt := HLT.out
          refine ⟨j + 1, by go_num, by omega, ?_, HG6.out⟩
          rw [HTK.out, HPX.out]
          have h1 := HO6.out
          obtain ⟨k, hk⟩ : ∃ k, ps.length - j = k + 1 := ⟨ps.length - j - 1, by omega⟩
          rw [hk] at h1
          have h2 := HST.out d k
          rw [HLN.out] at h2
          rw [h2] at h1
          rw [show ps.length - (j + 1) = k by omega]
          exact h1
        case measure =>
          have hlt := HLT.out
          simp [intOf]
          omega
    · have hlt1 : ¬ (j : Int) < (ps.length : Int) := by omega
      obtain rfl : j = ps.length := by omega
      have HO := hide (show wr.ownsRow w.heap.size 9 1 (.slice (some ⟨w.heap.size, 0, none⟩) ps.length ps.length) ps.length (strs (ps.map (pickS l d))) by simpa using how)
      have HGR := hide hgr
      clear hgr how
      go_wp2_with fail
      exact bodyPost_ret (v := .slice (some ⟨w.heap.size, 0, none⟩) ps.length ps.length) (by simp [results, Tryz.results100, go_sem]) rfl ⟨HGR.out, _, ps.length, by rw [List.length_map]; exact Nat.le_refl _, by rw [List.length_map], by rw [List.length_map]; exact HO.out⟩
end Go.Proofs.YtgepejnooghjbaaGreat

namespace Go.Proofs.YtgepejnooghjbaaGreat
open Go.RowKit
attribute [local go_sem ↓] Go.wp_at_zero Go.wp_at_succ

def pickV (l : List Vl) (no : Vl) (p : Int) : Vl := if 0 ≤ p ∧ p < (l.length : Int) then l.getD p.toNat no else no
theorem put4_keep (cur : Array Value) (i : Nat) (c0 c1 c2 c3 : Value) : ((((cur.setIfInBounds i c0).setIfInBounds (i + 1) c1).setIfInBounds (i + 2) c2).setIfInBounds (i + 3) c3).toList.take i = cur.toList.take i := by
  apply List.ext_getElem?
  intro k
  by_cases hk : k < i
  · simp only [List.getElem?_take, if_pos hk, Array.toList_setIfInBounds]
    rw [List.getElem?_set_ne (by omega), List.getElem?_set_ne (by omega), List.getElem?_set_ne (by omega), List.getElem?_set_ne (by omega)]
  · simp only [List.getElem?_take, if_neg hk]
/-- The first j places are picked into block s + 1. -/
def FillP (w wa : World) (l : List Vl) (no : Vl) (ps : List Int) (j : Nat) (wr : World) : Prop := ∃ xs cur, wr.heap[w.heap.size + 1]? = some (.cells cur 26 (0, 0)) ∧ cur.size = ps.length * 4 ∧ cur.toList.take (j * 4) = List.flatten xs ∧ VAll w w.heap.size ((ps.take j).map (pickV l no)) xs ∧ wa.grownBy wr none
theorem FillP.step {w wa wr : World} {l : List Vl} {no : Vl} {ps : List Int} {j : Nat} {xs : List (List Value)} {cur : Array Value} {c0 c1 c2 c3 : Value} (hlt : j < ps.length) (hh : wr.heap[w.heap.size + 1]? = some (.cells cur 26 (0, 0))) (hs : cur.size = ps.length * 4)
    (htk : cur.toList.take (j * 4) = List.flatten xs) (hall : VAll w w.heap.size ((ps.take j).map (pickV l no)) xs) (hg : wa.grownBy wr none) (hwa : wa.heap.size = w.heap.size + 1) {p : Int} (hp : ps[j]? = some p) (hv : VAt w w.heap.size (pickV l no p) [c0, c1, c2, c3]) : FillP w wa l no ps (j + 1) (put4 wr (w.heap.size + 1) (j * 4) c0 c1 c2 c3) := by
  refine ⟨xs ++ [[c0, c1, c2, c3]], _, put4_blk hh c0 c1 c2 c3, by simp [hs], ?_, ?_, gb_trans hg (put4_gb wr (w.heap.size + 1) (j * 4) c0 c1 c2 c3) (.inr (.inr ⟨_, rfl, by omega⟩))⟩
  · rw [show (j + 1) * 4 = j * 4 + 4 by omega, put4_take cur (j * 4) (by omega), htk, List.flatten_append]
    simp
  · rw [List.take_add_one, hp, Option.toList_some, List.map_append]
    exact VAll.snoc _ _ hall hv
/-- What a function gives that makes a row of values, their parts older. -/
def ValsR (l : List Vl) (w : World) (e : Ending) (w' : World) : Prop := w.grownBy w' none ∧ ∃ A c, l.length ≤ c ∧ e = .returned (.slice A l.length c) ∧ RdV w' w'.heap.size A l
set_option maxHeartbeats 8000000 in
set_option maxRecDepth 100000 in
theorem pickedV_any (l : List Vl) (ps : List Int) (no : Vl) (w : World) (lA : Option Addr) (lc : Nat) (pA : Option Addr) (pc : Nat) (oA : Option Addr) (oc : Nat) (qA : Option Addr) (qc : Nat) (rA : Option Addr) (rc : Nat)
    (hl : RdV w w.heap.size lA l) (hp : Rd w w.heap.size pA (i64s ps)) (hno : VB w w.heap.size no oA oc qA qc rA rc) (h1 : ps.length ≤ 1100000) (h2 : l.length ≤ 1100000) :
    Calls Tryz.prog 99 #[.slice lA l.length lc, .agg #[.int .i64 no.t, .slice oA no.n.length oc, .slice qA no.s.length qc, .slice rA no.l.length rc], .slice pA ps.length pc] w (ValsR (ps.map (pickV l no)) w) := by
  obtain ⟨wa, hwa⟩ : ∃ wa, wa = w.alloc (.cells #[.int .i64 no.t, .slice oA no.n.length oc, .slice qA no.s.length qc, .slice rA no.l.length rc] 26) := ⟨_, rfl⟩
  have hb : wa.heap[w.heap.size]? = some (.cells #[.int .i64 no.t, .slice oA no.n.length oc, .slice qA no.s.length qc, .slice rA no.l.length rc] 26 (0, 0)) := by rw [hwa]; exact heap_alloc_new w _
  have hga : w.grownBy wa none := by rw [hwa]; exact gb_alloc (gb_refl w none) _
  have hsz : wa.heap.size = w.heap.size + 1 := by rw [hwa]; simp
  have HB := hide hb
  have HG := hide hga
  have HSZ := hide hsz
  have HWE := hide hwa
  obtain ⟨i1, hi1, hiz, his, hib⟩ := info_parts Tryz.infoV
  have HI1 := hide hi1
  have HIZ := hide hiz
  have HIS := hide his
  have HIB := hide (show i1.bytes * ps.length ≤ 281474976710656 by rw [hib]; omega)
  have HML := hide (show ps.length ≤ maxLen by unfold maxLen; omega)
  have HCL := hide h1
  have HLL := hide h2
  have HL := hide hl
  have HP := hide hp
  have HNO := hide hno.at_
  clear h1 h2 hl hp hi1 hiz his hib hb hga hsz hwa hno
  go_enter Tryz.func99, Tryz.ntmps99
  go_wp2_with (rw [← HWE.out]; refine wpList_make_full _ rfl (.tmp 11) (.tmp 11) 24 rfl (w.heap.size + 1) 26 i1 (.agg #[.int .i64 0, .slice none 0 0, .slice none 0 0, .slice none 0 0]) 4 Tryz.underlying24 HI1.out HIZ.out HIS.out .i64 .i64 _ _ ps.length rfl rfl rfl rfl HIB.out HML.out (Nat.le_of_eq HSZ.out.symm) ?_; intro w1 ho1 hg1; rw [HSZ.out] at ho1; have HO1 := hide ho1; have HG1 := hide hg1; clear ho1 hg1)
  rw [HSZ.out]
  go_loopw [15] (fun i wr => ∃ j : Nat, i = .int .i64 (j : Int) ∧ j ≤ ps.length ∧ FillP w wa l no ps j wr) (fun i _ => ps.length - (intOf i).toNat)
  case atStart =>
    refine ⟨0, rfl, Nat.zero_le _, [], ?_⟩
    rcases HO1.out.2 with ⟨h, _⟩ | ⟨g, cap, cur, hv, _, hh, _, _, hs, _⟩
    · cases h
    · injection hv with e1 e2 e3
      subst e3
      obtain rfl : w.heap.size + 1 = g := by simpa using e1
      exact ⟨cur, hh, hs, by simp, rfl, HG1.out⟩
  case round =>
    obtain ⟨j, rfl, hj, hfill⟩ := hrel
    have HF := hide hfill
    clear hfill
    by_cases hlt : j < ps.length
    · have hlt1 : (j : Int) < (ps.length : Int) := by omega
      obtain ⟨xs, cur, hh, hs, htk, hall, hg⟩ := HF.out
      obtain ⟨pp, ep, _, hcp⟩ := HP.out.i64 hlt
      obtain ⟨p, hpe⟩ : ∃ p, p = ps[j] := ⟨_, rfl⟩
      rw [← hpe] at hcp
      have hgw := gb_trans HG.out hg (.inl rfl)
      have cp := cell_gb hcp hgw
      have hbx := blk_keep HB.out hg (by simp)
      obtain ⟨b0, b1, b2, b3⟩ : C4 wr w.heap.size 0 (.int .i64 no.t) (.slice oA no.n.length oc) (.slice qA no.s.length qc) (.slice rA no.l.length rc) := ⟨by rw [blk_cell hbx]; rfl, by rw [blk_cell hbx]; rfl, by rw [blk_cell hbx]; rfl, by rw [blk_cell hbx]; rfl⟩
      have hi4 : j * 4 + 4 ≤ cur.size := by omega
      obtain ⟨u0, u1, u2, u3, p0, p1, p2, p3⟩ := four_cells hh hi4
      have z0 := blk_frozen hh (j * 4)
      have z1 := blk_frozen hh (j * 4 + 1)
      have z2 := blk_frozen hh (j * 4 + 2)
      have z3 := blk_frozen hh (j * 4 + 3)
      have hh2 := put4_blk (i := j * 4) hh (.int .i64 no.t) (.slice oA no.n.length oc) (.slice qA no.s.length qc) (.slice rA no.l.length rc)
      have hgp : wr.grownBy (put4 wr (w.heap.size + 1) (j * 4) (.int .i64 no.t) (.slice oA no.n.length oc) (.slice qA no.s.length qc) (.slice rA no.l.length rc)) (some (w.heap.size + 1)) := put4_gb _ _ _ _ _ _ _
      have hg2 : wa.grownBy (put4 wr (w.heap.size + 1) (j * 4) (.int .i64 no.t) (.slice oA no.n.length oc) (.slice qA no.s.length qc) (.slice rA no.l.length rc)) none := gb_trans hg hgp (.inr (.inr ⟨_, rfl, by have := HSZ.out; omega⟩))
      have h6 : IntKind.i64.wrap ((j : Int) + 1) = ((j + 1 : Nat) : Int) := by rw [IntKind.wrap_i64]; have := HCL.out; omega
      have HLT := hide hlt
      have HH := hide hh
      have HS := hide hs
      have HTK := hide htk
      have HALL := hide hall
      have HGG := hide hg
      have HH2 := hide hh2
      have HG2 := hide hg2
      have HPE := hide (show ps[j]? = some p by rw [hpe]; exact List.getElem?_eq_getElem hlt)
      subst ep
      clear hcp hgw hbx hi4 hh hs htk hall hg hh2 hgp hg2 hpe
      by_cases q0 : 0 ≤ p
      · by_cases q1 : p < (l.length : Int)
        · obtain ⟨q, rfl⟩ : ∃ q : Nat, p = (q : Int) := ⟨p.toNat, by omega⟩
          have hq : q < l.length := by omega
          obtain ⟨lb, lo, xA, xc, yA, yc, zA, zc, rfl, _, hc4, hvb⟩ := HL.out.at_ hq
          have HPX := hide (show pickV l no (q : Int) = l[q] by unfold pickV; rw [if_pos ⟨q0, q1⟩, List.getD_eq_getElem?_getD, show ((q : Int).toNat) = q from rfl, List.getElem?_eq_getElem hq]; rfl)
          have hd := hc4.gb (gb_trans HG.out HG2.out (.inl rfl))
          obtain ⟨d0, d1, d2, d3⟩ := hd
          have HI4 : Hid (j * 4 + 4 ≤ ((((cur.setIfInBounds (j * 4) (.int .i64 no.t)).setIfInBounds (j * 4 + 1) (.slice oA no.n.length oc)).setIfInBounds (j * 4 + 2) (.slice qA no.s.length qc)).setIfInBounds (j * 4 + 3) (.slice rA no.l.length rc)).size) := hide (by simp; have := HS.out; have := HLT.out; omega)
          obtain ⟨v0, v1, v2, v3, r0, r1, r2, r3⟩ := four_cells HH2.out HI4.out
          have y0 := blk_frozen HH2.out (j * 4)
          have y1 := blk_frozen HH2.out (j * 4 + 1)
          have y2 := blk_frozen HH2.out (j * 4 + 2)
          have y3 := blk_frozen HH2.out (j * 4 + 3)
          have HV := hide hvb.at_
          clear hc4 hvb
          unfold put4 at d0 d1 d2 d3 r0 r1 r2 r3 y0 y1 y2 y3
          go_wp2_with fail
          go_roundw
          case rel =>
            have hlt := HLT.out
            refine ⟨j + 1, by go_num, by omega, ?_⟩
            exact FillP.step hlt HH2.out (by simp [HS.out]) (by rw [put4_keep]; exact HTK.out) HALL.out HG2.out HSZ.out HPE.out (by rw [HPX.out]; exact HV.out)
          case measure =>
            have hlt := HLT.out
            simp [intOf]
            omega
        · have HPX := hide (show pickV l no p = no by unfold pickV; rw [if_neg (fun h => q1 h.2)])
          go_wp2_with fail
          go_roundw
          case rel =>
            have hlt := HLT.out
            refine ⟨j + 1, by go_num, by omega, ?_⟩
            exact FillP.step hlt HH.out HS.out HTK.out HALL.out HGG.out HSZ.out HPE.out (by rw [HPX.out]; exact HNO.out)
          case measure =>
            have hlt := HLT.out
            simp [intOf]
            omega
      · have HPX := hide (show pickV l no p = no by unfold pickV; rw [if_neg (fun h => q0 h.1)])
        go_wp2_with fail
        go_roundw
        case rel =>
          have hlt := HLT.out
          refine ⟨j + 1, by go_num, by omega, ?_⟩
          exact FillP.step hlt HH.out HS.out HTK.out HALL.out HGG.out HSZ.out HPE.out (by rw [HPX.out]; exact HNO.out)
        case measure =>
          have hlt := HLT.out
          simp [intOf]
          omega
    · have hlt1 : ¬ (j : Int) < (ps.length : Int) := by omega
      obtain rfl : j = ps.length := by omega
      go_wp2_with fail
      refine bodyPost_ret (v := .slice (some ⟨w.heap.size + 1, 0, none⟩) ps.length ps.length) (by simp [results, Tryz.results99, go_sem]) rfl ?_
      obtain ⟨xs, cur, hh, hs, htk, hall, hg⟩ := HF.out
      rw [List.take_length] at hall
      have hlen : (List.flatten xs).length = ps.length * 4 := by rw [flat4_length hall.all4, hall.length, List.length_map]
      have hgw := gb_trans HG.out hg (.inl rfl)
      refine ⟨hgw, _, ps.length, by rw [List.length_map]; exact Nat.le_refl _, by rw [List.length_map], xs, ?_, ?_⟩
      · refine rd_blk hh ?_
        rw [← htk, List.take_of_length_le (by simp; omega)]
      · have h1 := VAll.grown hall hgw (Nat.le_refl _) (by simp)
        refine VAll.mk_ h1.length fun i h2 h3 => ?_
        obtain ⟨_, h8⟩ := VAll.at_ h1 h2
        exact h8.up hgw.size
end Go.Proofs.YtgepejnooghjbaaGreat

namespace Go.Proofs.YtgepejnooghjbaaGreat
open Go.RowKit
attribute [local go_sem ↓] Go.wp_at_zero Go.wp_at_succ

set_option maxHeartbeats 4000000 in
set_option maxRecDepth 100000 in
theorem atom1_any (n : Int) (w : World) : Calls Tryz.prog 57 #[.int .i64 1, .int .i64 n] w (NewV (.mk (-1) [n] [] []) w) := by
  have HN : Hid (∀ w, Calls Tryz.prog 86 #[.int .i64 1] w fun e w' => e = .returned (.bool true) ∧ w = w') := hide (fun w => hasN_any 1 w)
  go_enter Tryz.func57, Tryz.ntmps57
  go_wp2_with (go_at_call 86; refine (HN.out _).mono ?_; rintro e w1 ⟨rfl, rfl⟩)
  have h := newV_atom w (-1) n (.cells #[.int .i64 (-1), .slice (some ⟨w.heap.size + 1, 0, none⟩) 1 1, .slice none 0 0, .slice none 0 0] 26)
  refine bodyPost_ret (v := .agg #[.int .i64 (-1), .slice (some ⟨w.heap.size + 1, 0, none⟩) 1 1, .slice none 0 0, .slice none 0 0]) (by simp [results, Tryz.results57, go_sem]; decide) rfl h

set_option maxHeartbeats 4000000 in
set_option maxRecDepth 100000 in
theorem null1_any (w : World) : Calls Tryz.prog 90 #[.int .i64 1] w (NewV (.mk (-1) [0] [] []) w) := by
  obtain ⟨wa, hwa⟩ : ∃ wa, wa = w.alloc (.cells #[.int .i64 0, .slice none 0 0, .slice none 0 0, .slice none 0 0] 26) := ⟨_, rfl⟩
  have hr : wa.heap[w.heap.size]? = some (.cells #[.int .i64 0, .slice none 0 0, .slice none 0 0, .slice none 0 0] 26 (0, 0)) := by rw [hwa]; exact heap_alloc_new w _
  have HR := hide hr
  have HG := hide (show w.grownBy wa none by rw [hwa]; exact gb_alloc (gb_refl w none) _)
  have HS := hide (show wa.heap.size = w.heap.size + 1 by rw [hwa]; simp)
  have HWE := hide hwa
  clear hr hwa
  go_enter Tryz.func90, Tryz.ntmps90
  go_wp2_with fail
  rw [← HWE.out]
  go_wp2_with (go_at_call 57; refine (atom1_any _ _).mono ?_; rintro e w1 ⟨nA, nc, sA, sc, lA, lc, f, he, ho, hn, hg1⟩; obtain rfl : e = .returned (.agg #[.int .i64 (-1), .slice nA 1 nc, .slice sA 0 sc, .slice lA 0 lc]) := he; have HO := hide ho; have HN := hide hn; have HG1 := hide (gb_trans HG.out hg1 (.inl rfl)); have hr2 := (hg1.block _ (blk_lt HR.out) (by simp)).trans HR.out; have HR2 := hide hr2; have z0 := blk_frozen hr2 0; have z1 := blk_frozen hr2 1; have z2 := blk_frozen hr2 2; have z3 := blk_frozen hr2 3; have y0 : w1.cell? ⟨w.heap.size, 0, none⟩ = some (.int .i64 0) := (by { rw [blk_cell hr2]; rfl }); have y1 : w1.cell? ⟨w.heap.size, 1, none⟩ = some (.slice none 0 0) := (by { rw [blk_cell hr2]; rfl }); have y2 : w1.cell? ⟨w.heap.size, 2, none⟩ = some (.slice none 0 0) := (by { rw [blk_cell hr2]; rfl }); have y3 : w1.cell? ⟨w.heap.size, 3, none⟩ = some (.slice none 0 0) := (by { rw [blk_cell hr2]; rfl }); clear ho hn hg1 hr2)
  have hb := put_four HR2.out (.int .i64 (-1)) (.slice nA 1 nc) (.slice sA 0 sc) (.slice lA 0 lc)
  have m0 : ((((w1.setCell ⟨w.heap.size, 0, none⟩ (.int .i64 (-1))).setCell ⟨w.heap.size, 1, none⟩ (.slice nA 1 nc)).setCell ⟨w.heap.size, 2, none⟩ (.slice sA 0 sc)).setCell ⟨w.heap.size, 3, none⟩ (.slice lA 0 lc)).cell? ⟨w.heap.size, 0, none⟩ = some (.int .i64 (-1)) := by rw [blk_cell hb]; rfl
  have m1 : ((((w1.setCell ⟨w.heap.size, 0, none⟩ (.int .i64 (-1))).setCell ⟨w.heap.size, 1, none⟩ (.slice nA 1 nc)).setCell ⟨w.heap.size, 2, none⟩ (.slice sA 0 sc)).setCell ⟨w.heap.size, 3, none⟩ (.slice lA 0 lc)).cell? ⟨w.heap.size, 1, none⟩ = some (.slice nA 1 nc) := by rw [blk_cell hb]; rfl
  have m2 : ((((w1.setCell ⟨w.heap.size, 0, none⟩ (.int .i64 (-1))).setCell ⟨w.heap.size, 1, none⟩ (.slice nA 1 nc)).setCell ⟨w.heap.size, 2, none⟩ (.slice sA 0 sc)).setCell ⟨w.heap.size, 3, none⟩ (.slice lA 0 lc)).cell? ⟨w.heap.size, 2, none⟩ = some (.slice sA 0 sc) := by rw [blk_cell hb]; rfl
  have m3 : ((((w1.setCell ⟨w.heap.size, 0, none⟩ (.int .i64 (-1))).setCell ⟨w.heap.size, 1, none⟩ (.slice nA 1 nc)).setCell ⟨w.heap.size, 2, none⟩ (.slice sA 0 sc)).setCell ⟨w.heap.size, 3, none⟩ (.slice lA 0 lc)).cell? ⟨w.heap.size, 3, none⟩ = some (.slice lA 0 lc) := by rw [blk_cell hb]; rfl
  refine bodyPost_ret (v := .agg #[.int .i64 (-1), .slice nA 1 nc, .slice sA 0 sc, .slice lA 0 lc]) (by simp [results, Tryz.results90, go_sem, m0, m1, m2, m3]) rfl ?_
  refine ⟨nA, nc, sA, sc, lA, lc, f, rfl, ?_, ⟨HN.out.1, fun b hb => ?_⟩, put_four_gb HG1.out (Nat.le_refl _) _ _ _ _⟩
  · exact VOw.keep _ _ _ HO.out fun b hm => put_four_other (by have := (HN.out.2 b hm).1; have := HS.out; omega) _ _ _ _
  · have h2 := HN.out.2 b hb
    have := HS.out
    refine ⟨by omega, ?_⟩
    simp [World.setCell]
    exact h2.2
set_option maxHeartbeats 4000000 in
set_option maxRecDepth 100000 in
theorem atom4_any (n : Int) (w : World) : Calls Tryz.prog 57 #[.int .i64 4, .int .i64 n] w (NewV (.mk (-4) [n] [] []) w) := by
  have HN : Hid (∀ w, Calls Tryz.prog 86 #[.int .i64 4] w fun e w' => e = .returned (.bool true) ∧ w = w') := hide (fun w => hasN_any 4 w)
  go_enter Tryz.func57, Tryz.ntmps57
  go_wp2_with (go_at_call 86; refine (HN.out _).mono ?_; rintro e w1 ⟨rfl, rfl⟩)
  have h := newV_atom w (-4) n (.cells #[.int .i64 (-4), .slice (some ⟨w.heap.size + 1, 0, none⟩) 1 1, .slice none 0 0, .slice none 0 0] 26)
  refine bodyPost_ret (v := .agg #[.int .i64 (-4), .slice (some ⟨w.heap.size + 1, 0, none⟩) 1 1, .slice none 0 0, .slice none 0 0]) (by simp [results, Tryz.results57, go_sem]; decide) rfl h

set_option maxHeartbeats 4000000 in
set_option maxRecDepth 100000 in
theorem null4_any (w : World) : Calls Tryz.prog 90 #[.int .i64 4] w (NewV (.mk (-4) [-9223372036854775808] [] []) w) := by
  obtain ⟨wa, hwa⟩ : ∃ wa, wa = w.alloc (.cells #[.int .i64 0, .slice none 0 0, .slice none 0 0, .slice none 0 0] 26) := ⟨_, rfl⟩
  have hr : wa.heap[w.heap.size]? = some (.cells #[.int .i64 0, .slice none 0 0, .slice none 0 0, .slice none 0 0] 26 (0, 0)) := by rw [hwa]; exact heap_alloc_new w _
  have HR := hide hr
  have HG := hide (show w.grownBy wa none by rw [hwa]; exact gb_alloc (gb_refl w none) _)
  have HS := hide (show wa.heap.size = w.heap.size + 1 by rw [hwa]; simp)
  have HWE := hide hwa
  clear hr hwa
  go_enter Tryz.func90, Tryz.ntmps90
  go_wp2_with fail
  rw [← HWE.out]
  go_wp2_with (go_at_call 57; refine (atom4_any _ _).mono ?_; rintro e w1 ⟨nA, nc, sA, sc, lA, lc, f, he, ho, hn, hg1⟩; obtain rfl : e = .returned (.agg #[.int .i64 (-4), .slice nA 1 nc, .slice sA 0 sc, .slice lA 0 lc]) := he; have HO := hide ho; have HN := hide hn; have HG1 := hide (gb_trans HG.out hg1 (.inl rfl)); have hr2 := (hg1.block _ (blk_lt HR.out) (by simp)).trans HR.out; have HR2 := hide hr2; have z0 := blk_frozen hr2 0; have z1 := blk_frozen hr2 1; have z2 := blk_frozen hr2 2; have z3 := blk_frozen hr2 3; have y0 : w1.cell? ⟨w.heap.size, 0, none⟩ = some (.int .i64 0) := (by { rw [blk_cell hr2]; rfl }); have y1 : w1.cell? ⟨w.heap.size, 1, none⟩ = some (.slice none 0 0) := (by { rw [blk_cell hr2]; rfl }); have y2 : w1.cell? ⟨w.heap.size, 2, none⟩ = some (.slice none 0 0) := (by { rw [blk_cell hr2]; rfl }); have y3 : w1.cell? ⟨w.heap.size, 3, none⟩ = some (.slice none 0 0) := (by { rw [blk_cell hr2]; rfl }); clear ho hn hg1 hr2)
  have hb := put_four HR2.out (.int .i64 (-4)) (.slice nA 1 nc) (.slice sA 0 sc) (.slice lA 0 lc)
  have m0 : ((((w1.setCell ⟨w.heap.size, 0, none⟩ (.int .i64 (-4))).setCell ⟨w.heap.size, 1, none⟩ (.slice nA 1 nc)).setCell ⟨w.heap.size, 2, none⟩ (.slice sA 0 sc)).setCell ⟨w.heap.size, 3, none⟩ (.slice lA 0 lc)).cell? ⟨w.heap.size, 0, none⟩ = some (.int .i64 (-4)) := by rw [blk_cell hb]; rfl
  have m1 : ((((w1.setCell ⟨w.heap.size, 0, none⟩ (.int .i64 (-4))).setCell ⟨w.heap.size, 1, none⟩ (.slice nA 1 nc)).setCell ⟨w.heap.size, 2, none⟩ (.slice sA 0 sc)).setCell ⟨w.heap.size, 3, none⟩ (.slice lA 0 lc)).cell? ⟨w.heap.size, 1, none⟩ = some (.slice nA 1 nc) := by rw [blk_cell hb]; rfl
  have m2 : ((((w1.setCell ⟨w.heap.size, 0, none⟩ (.int .i64 (-4))).setCell ⟨w.heap.size, 1, none⟩ (.slice nA 1 nc)).setCell ⟨w.heap.size, 2, none⟩ (.slice sA 0 sc)).setCell ⟨w.heap.size, 3, none⟩ (.slice lA 0 lc)).cell? ⟨w.heap.size, 2, none⟩ = some (.slice sA 0 sc) := by rw [blk_cell hb]; rfl
  have m3 : ((((w1.setCell ⟨w.heap.size, 0, none⟩ (.int .i64 (-4))).setCell ⟨w.heap.size, 1, none⟩ (.slice nA 1 nc)).setCell ⟨w.heap.size, 2, none⟩ (.slice sA 0 sc)).setCell ⟨w.heap.size, 3, none⟩ (.slice lA 0 lc)).cell? ⟨w.heap.size, 3, none⟩ = some (.slice lA 0 lc) := by rw [blk_cell hb]; rfl
  refine bodyPost_ret (v := .agg #[.int .i64 (-4), .slice nA 1 nc, .slice sA 0 sc, .slice lA 0 lc]) (by simp [results, Tryz.results90, go_sem, m0, m1, m2, m3]) rfl ?_
  refine ⟨nA, nc, sA, sc, lA, lc, f, rfl, ?_, ⟨HN.out.1, fun b hb => ?_⟩, put_four_gb HG1.out (Nat.le_refl _) _ _ _ _⟩
  · exact VOw.keep _ _ _ HO.out fun b hm => put_four_other (by have := (HN.out.2 b hm).1; have := HS.out; omega) _ _ _ _
  · have h2 := HN.out.2 b hb
    have := HS.out
    refine ⟨by omega, ?_⟩
    simp [World.setCell]
    exact h2.2
set_option maxHeartbeats 4000000 in
set_option maxRecDepth 100000 in
theorem atom5_any (n : Int) (w : World) : Calls Tryz.prog 57 #[.int .i64 5, .int .i64 n] w (NewV (.mk (-5) [n] [] []) w) := by
  have HN : Hid (∀ w, Calls Tryz.prog 86 #[.int .i64 5] w fun e w' => e = .returned (.bool true) ∧ w = w') := hide (fun w => hasN_any 5 w)
  go_enter Tryz.func57, Tryz.ntmps57
  go_wp2_with (go_at_call 86; refine (HN.out _).mono ?_; rintro e w1 ⟨rfl, rfl⟩)
  have h := newV_atom w (-5) n (.cells #[.int .i64 (-5), .slice (some ⟨w.heap.size + 1, 0, none⟩) 1 1, .slice none 0 0, .slice none 0 0] 26)
  refine bodyPost_ret (v := .agg #[.int .i64 (-5), .slice (some ⟨w.heap.size + 1, 0, none⟩) 1 1, .slice none 0 0, .slice none 0 0]) (by simp [results, Tryz.results57, go_sem]; decide) rfl h

set_option maxHeartbeats 4000000 in
set_option maxRecDepth 100000 in
theorem null5_any (w : World) : Calls Tryz.prog 90 #[.int .i64 5] w (NewV (.mk (-5) [-9223372036854775808] [] []) w) := by
  obtain ⟨wa, hwa⟩ : ∃ wa, wa = w.alloc (.cells #[.int .i64 0, .slice none 0 0, .slice none 0 0, .slice none 0 0] 26) := ⟨_, rfl⟩
  have hr : wa.heap[w.heap.size]? = some (.cells #[.int .i64 0, .slice none 0 0, .slice none 0 0, .slice none 0 0] 26 (0, 0)) := by rw [hwa]; exact heap_alloc_new w _
  have HR := hide hr
  have HG := hide (show w.grownBy wa none by rw [hwa]; exact gb_alloc (gb_refl w none) _)
  have HS := hide (show wa.heap.size = w.heap.size + 1 by rw [hwa]; simp)
  have HWE := hide hwa
  clear hr hwa
  go_enter Tryz.func90, Tryz.ntmps90
  go_wp2_with fail
  rw [← HWE.out]
  go_wp2_with (go_at_call 57; refine (atom5_any _ _).mono ?_; rintro e w1 ⟨nA, nc, sA, sc, lA, lc, f, he, ho, hn, hg1⟩; obtain rfl : e = .returned (.agg #[.int .i64 (-5), .slice nA 1 nc, .slice sA 0 sc, .slice lA 0 lc]) := he; have HO := hide ho; have HN := hide hn; have HG1 := hide (gb_trans HG.out hg1 (.inl rfl)); have hr2 := (hg1.block _ (blk_lt HR.out) (by simp)).trans HR.out; have HR2 := hide hr2; have z0 := blk_frozen hr2 0; have z1 := blk_frozen hr2 1; have z2 := blk_frozen hr2 2; have z3 := blk_frozen hr2 3; have y0 : w1.cell? ⟨w.heap.size, 0, none⟩ = some (.int .i64 0) := (by { rw [blk_cell hr2]; rfl }); have y1 : w1.cell? ⟨w.heap.size, 1, none⟩ = some (.slice none 0 0) := (by { rw [blk_cell hr2]; rfl }); have y2 : w1.cell? ⟨w.heap.size, 2, none⟩ = some (.slice none 0 0) := (by { rw [blk_cell hr2]; rfl }); have y3 : w1.cell? ⟨w.heap.size, 3, none⟩ = some (.slice none 0 0) := (by { rw [blk_cell hr2]; rfl }); clear ho hn hg1 hr2)
  have hb := put_four HR2.out (.int .i64 (-5)) (.slice nA 1 nc) (.slice sA 0 sc) (.slice lA 0 lc)
  have m0 : ((((w1.setCell ⟨w.heap.size, 0, none⟩ (.int .i64 (-5))).setCell ⟨w.heap.size, 1, none⟩ (.slice nA 1 nc)).setCell ⟨w.heap.size, 2, none⟩ (.slice sA 0 sc)).setCell ⟨w.heap.size, 3, none⟩ (.slice lA 0 lc)).cell? ⟨w.heap.size, 0, none⟩ = some (.int .i64 (-5)) := by rw [blk_cell hb]; rfl
  have m1 : ((((w1.setCell ⟨w.heap.size, 0, none⟩ (.int .i64 (-5))).setCell ⟨w.heap.size, 1, none⟩ (.slice nA 1 nc)).setCell ⟨w.heap.size, 2, none⟩ (.slice sA 0 sc)).setCell ⟨w.heap.size, 3, none⟩ (.slice lA 0 lc)).cell? ⟨w.heap.size, 1, none⟩ = some (.slice nA 1 nc) := by rw [blk_cell hb]; rfl
  have m2 : ((((w1.setCell ⟨w.heap.size, 0, none⟩ (.int .i64 (-5))).setCell ⟨w.heap.size, 1, none⟩ (.slice nA 1 nc)).setCell ⟨w.heap.size, 2, none⟩ (.slice sA 0 sc)).setCell ⟨w.heap.size, 3, none⟩ (.slice lA 0 lc)).cell? ⟨w.heap.size, 2, none⟩ = some (.slice sA 0 sc) := by rw [blk_cell hb]; rfl
  have m3 : ((((w1.setCell ⟨w.heap.size, 0, none⟩ (.int .i64 (-5))).setCell ⟨w.heap.size, 1, none⟩ (.slice nA 1 nc)).setCell ⟨w.heap.size, 2, none⟩ (.slice sA 0 sc)).setCell ⟨w.heap.size, 3, none⟩ (.slice lA 0 lc)).cell? ⟨w.heap.size, 3, none⟩ = some (.slice lA 0 lc) := by rw [blk_cell hb]; rfl
  refine bodyPost_ret (v := .agg #[.int .i64 (-5), .slice nA 1 nc, .slice sA 0 sc, .slice lA 0 lc]) (by simp [results, Tryz.results90, go_sem, m0, m1, m2, m3]) rfl ?_
  refine ⟨nA, nc, sA, sc, lA, lc, f, rfl, ?_, ⟨HN.out.1, fun b hb => ?_⟩, put_four_gb HG1.out (Nat.le_refl _) _ _ _ _⟩
  · exact VOw.keep _ _ _ HO.out fun b hm => put_four_other (by have := (HN.out.2 b hm).1; have := HS.out; omega) _ _ _ _
  · have h2 := HN.out.2 b hb
    have := HS.out
    refine ⟨by omega, ?_⟩
    simp [World.setCell]
    exact h2.2
/-- The types of numbers. -/
def numT (t : Int) : Prop := t = 1 ∨ t = 2 ∨ t = 4 ∨ t = 5
def nulT (t : Int) : Int := if t = 1 then 0 else -9223372036854775808
theorem null_any (t : Int) (ht : numT t) (w : World) : Calls Tryz.prog 90 #[.int .i64 t] w (NewV (.mk (-t) [nulT t] [] []) w) := by
  rcases ht with rfl | rfl | rfl | rfl
  · exact null1_any w
  · exact null2_any w
  · exact null4_any w
  · exact null5_any w
set_option maxHeartbeats 4000000 in
set_option maxRecDepth 100000 in
theorem empty0_any (w : World) : Calls Tryz.prog 56 #[.int .i64 0] w fun e w' => e = .returned (.agg #[.int .i64 0, .slice none 0 0, .slice none 0 0, .slice none 0 0]) ∧ w.grownBy w' none := by
  obtain ⟨wa, hwa⟩ : ∃ wa, wa = w.alloc (.cells #[.int .i64 0, .slice none 0 0, .slice none 0 0, .slice none 0 0] 26) := ⟨_, rfl⟩
  have hb : wa.heap[w.heap.size]? = some (.cells #[.int .i64 0, .slice none 0 0, .slice none 0 0, .slice none 0 0] 26 (0, 0)) := by rw [hwa]; exact heap_alloc_new w _
  have hg : w.grownBy wa none := by rw [hwa]; exact gb_alloc (gb_refl w none) _
  have HB := hide hb
  have HG := hide hg
  have HWE := hide hwa
  clear hb hg hwa
  go_enter Tryz.func56, Tryz.ntmps56
  go_wp2_with fail
  rw [← HWE.out]
  have z0 := blk_frozen HB.out 0
  have z1 := blk_frozen HB.out 1
  have z2 := blk_frozen HB.out 2
  have z3 := blk_frozen HB.out 3
  have y0 : wa.cell? ⟨w.heap.size, 0, none⟩ = some (.int .i64 0) := by rw [blk_cell HB.out]; rfl
  have y1 : wa.cell? ⟨w.heap.size, 1, none⟩ = some (.slice none 0 0) := by rw [blk_cell HB.out]; rfl
  have y2 : wa.cell? ⟨w.heap.size, 2, none⟩ = some (.slice none 0 0) := by rw [blk_cell HB.out]; rfl
  have y3 : wa.cell? ⟨w.heap.size, 3, none⟩ = some (.slice none 0 0) := by rw [blk_cell HB.out]; rfl
  go_wp2_with (first
    | (go_at_call 86; refine (hasN_any _ _).mono ?_; rintro e w1 ⟨rfl, rfl⟩)
    | (go_at_call 87; refine (hasS_any _ _).mono ?_; rintro e w1 ⟨rfl, rfl⟩))
  have hb := put_four HB.out (.int .i64 0) (.slice none 0 0) (.slice none 0 0) (.slice none 0 0)
  have m0 := blk_cell hb 0
  have m1 := blk_cell hb 1
  have m2 := blk_cell hb 2
  have m3 := blk_cell hb 3
  simp only [List.getElem?_toArray, List.getElem?_cons_zero, List.getElem?_cons_succ] at m0 m1 m2 m3
  exact bodyPost_ret (v := .agg #[.int .i64 0, .slice none 0 0, .slice none 0 0, .slice none 0 0]) (by simp [results, Tryz.results56, go_sem, m0, m1, m2, m3]) rfl ⟨rfl, put_four_gb HG.out (Nat.le_refl _) _ _ _ _⟩
end Go.Proofs.YtgepejnooghjbaaGreat

namespace Go.Proofs.YtgepejnooghjbaaGreat
open Go.RowKit
attribute [local go_sem ↓] Go.wp_at_zero Go.wp_at_succ

/-- A new value, its blocks from base on. -/
def NewF (base : Nat) (v : Vl) : Fct := fun x w => ∃ nA nc sA sc lA lc f, x = .agg #[.int .i64 v.t, .slice nA v.n.length nc, .slice sA v.s.length sc, .slice lA v.l.length lc] ∧ VOw w v [.int .i64 v.t, .slice nA v.n.length nc, .slice sA v.s.length sc, .slice lA v.l.length lc] f ∧ f.Nodup ∧ ∀ b ∈ f, base ≤ b
theorem VOw.grow {w w' : World} {v : Vl} {cs : List Value} {f : List Nat} (h : VOw w v cs f) (hg : w.grownBy w' none) : VOw w' v cs f :=
  VOw.keep _ _ _ h fun b hb => hg.block b (VOw.lt _ _ _ h b hb) (by simp)
theorem NewF.up (base : Nat) (v : Vl) : (NewF base v).Up := by
  rintro x w w' ⟨nA, nc, sA, sc, lA, lc, f, h1, h2, h3, h4⟩ hg
  exact ⟨nA, nc, sA, sc, lA, lc, f, h1, h2.grow hg, h3, h4⟩
theorem NewF.of {base : Nat} {v : Vl} {w w' : World} {e : Ending} (hb : base ≤ w.heap.size) (h : NewV v w e w') : ∃ x, e = .returned x ∧ w.grownBy w' none ∧ NewF base v x w' := by
  obtain ⟨nA, nc, sA, sc, lA, lc, f, rfl, ho, hn, hg⟩ := h
  exact ⟨_, rfl, hg, nA, nc, sA, sc, lA, lc, f, rfl, ho, hn.1, fun b hb2 => Nat.le_trans hb (hn.2 b hb2).1⟩
/-- A value put into the result's box. -/
theorem TupV.row {v : Vl} {w w5 : World} {base s : Nat} {nA : Option Addr} {nc : Nat} {sA : Option Addr} {sc : Nat} {lA : Option Addr} {lc : Nat} {f : List Nat} (c : Array Value) (hs : w.heap.size ≤ s) (hsb : s < base) (hg : w.grownBy w5 none)
    (ho : VOw w5 v [.int .i64 v.t, .slice nA v.n.length nc, .slice sA v.s.length sc, .slice lA v.l.length lc] f) (hnd : f.Nodup) (hf : ∀ b ∈ f, base ≤ b) :
    TupV v w (.returned (.tuple #[.agg #[.int .i64 v.t, .slice nA v.n.length nc, .slice sA v.s.length sc, .slice lA v.l.length lc], .int .i64 0])) (w5.setRow s c) := by
  refine ⟨nA, nc, sA, sc, lA, lc, f, rfl, VOw.keep _ _ _ ho fun b hb => heap_setRow _ _ _ _ (by have := hf b hb; omega), ⟨hnd, fun b hb => ⟨by have := hf b hb; omega, ?_⟩⟩, gb_setRow hg _ _ hs⟩
  have := VOw.lt _ _ _ ho b hb
  simpa [World.setRow] using this
theorem VOw.ints {w : World} {base : Nat} {t : Int} {l : List Int} {A : Option Addr} {c : Nat} (hlc : l.length ≤ c) (h : w.ownsRow base 2 1 (.slice A l.length c) l.length (i64s l)) :
    ∃ f, VOw w (.mk t l [] []) [.int .i64 t, .slice A l.length c, .slice none 0 0, .slice none 0 0] f ∧ f.Nodup ∧ ∀ b ∈ f, base ≤ b := by
  obtain ⟨f1, o1, b1⟩ := Own.of_row h
  refine ⟨f1, ⟨A, c, none, 0, none, 0, [], f1, [], [], [], rfl, ⟨hlc, Nat.le_refl _, Nat.le_refl _⟩, ⟨o1, .inl ⟨rfl, rfl⟩, .inl ⟨rfl, rfl⟩⟩, ⟨rfl, rfl⟩, by simp⟩, ?_, fun b hb => (b1 b hb).1⟩
  match f1, o1.len with
  | [], _ => simp
  | [x], _ => simp
theorem VOw.strs {w : World} {base : Nat} {t : Int} {l : List ByteArray} {A : Option Addr} {c : Nat} (hlc : l.length ≤ c) (h : w.ownsRow base 9 1 (.slice A l.length c) l.length (strs l)) :
    ∃ f, VOw w (.mk t [] l []) [.int .i64 t, .slice none 0 0, .slice A l.length c, .slice none 0 0] f ∧ f.Nodup ∧ ∀ b ∈ f, base ≤ b := by
  obtain ⟨f1, o1, b1⟩ := Own.of_row h
  refine ⟨f1, ⟨none, 0, A, c, none, 0, [], [], f1, [], [], rfl, ⟨Nat.le_refl _, hlc, Nat.le_refl _⟩, ⟨.inl ⟨rfl, rfl⟩, o1, .inl ⟨rfl, rfl⟩⟩, ⟨rfl, rfl⟩, by simp⟩, ?_, fun b hb => (b1 b hb).1⟩
  match f1, o1.len with
  | [], _ => simp
  | [x], _ => simp
/-- A row of strings of its own. -/
def OwnSF (base : Nat) (l : List ByteArray) : Fct := fun v w => ∃ A c, l.length ≤ c ∧ v = .slice A l.length c ∧ w.ownsRow base 9 1 (.slice A l.length c) l.length (strs l)
theorem OwnSF.up (base : Nat) (l : List ByteArray) : (OwnSF base l).Up := by
  rintro v w w' ⟨A, c, h1, h2, h3⟩ hg
  exact ⟨A, c, h1, h2, own_up h3 hg⟩
/-- The empty list. -/
def emp : Vl := .mk 0 [] [] []
theorem emp_vb (w : World) (B : Nat) : VB w B emp none 0 none 0 none 0 := ⟨Rd.nil_, Rd.nil_, ⟨[], Rd.nil_, rfl⟩, Nat.le_refl _, Nat.le_refl _, Nat.le_refl _⟩
/-- What Index gives. -/
def idxV (x : Vl) (ps : List Int) : Vl := if x.t = 0 then ofV (ps.map (pickV x.l emp)) else if x.t = 3 then .mk 3 [] (ps.map (pickS x.s ⟨#[]⟩)) [] else .mk x.t (ps.map (pickI x.n (nulT x.t))) [] []
/-- A vector or a list. -/
def seqT (t : Int) : Prop := numT t ∨ t = 3 ∨ t = 0
theorem seqT.kind {x : Vl} (h : seqT x.t) : (kindO x.t x.s.length x.n.length == x.t) = true := by
  rcases h with (h | h | h | h) | h | h <;> rw [h] <;> rfl
section
attribute [-go_sem] Go.storeCells
set_option maxHeartbeats 4000000 in
set_option maxRecDepth 100000 in
theorem index_num (x : Vl) (ps : List Int) (w : World) (B : Nat) (nA : Option Addr) (nc : Nat) (sA : Option Addr) (sc : Nat) (lA : Option Addr) (lc : Nat) (pA : Option Addr) (pc : Nat)
    (ht : numT x.t) (htot : x.tot ≤ 1100000) (hB : B ≤ w.heap.size) (vx : VB w B x nA nc sA sc lA lc) (hp : Rd w w.heap.size pA (i64s ps)) (h1 : ps.length ≤ 1100000) :
    Calls Tryz.prog 67 #[.agg #[.int .i64 x.t, .slice nA x.n.length nc, .slice sA x.s.length sc, .slice lA x.l.length lc], .slice pA ps.length pc] w (TupV (.mk x.t (ps.map (pickI x.n (nulT x.t))) [] []) w) := by
  obtain ⟨l1, l2, l3, l4⟩ := Vl.lens x htot
  obtain ⟨wa, hwa⟩ : ∃ wa, wa = (w.alloc (.cells #[.int .i64 x.t, .slice nA x.n.length nc, .slice sA x.s.length sc, .slice lA x.l.length lc] 26)).alloc (.cells #[.int .i64 0, .slice none 0 0, .slice none 0 0, .slice none 0 0] 26) := ⟨_, rfl⟩
  have bx : wa.heap[w.heap.size]? = some (.cells #[.int .i64 x.t, .slice nA x.n.length nc, .slice sA x.s.length sc, .slice lA x.l.length lc] 26 (0, 0)) := by rw [hwa]; exact (Below.heap_alloc _ _ _ (by rw [World.size_alloc]; omega)).trans (heap_alloc_new w _)
  have bz : wa.heap[w.heap.size + 1]? = some (.cells #[.int .i64 0, .slice none 0 0, .slice none 0 0, .slice none 0 0] 26 (0, 0)) := by rw [hwa]; have := heap_alloc_new (w.alloc (.cells #[.int .i64 x.t, .slice nA x.n.length nc, .slice sA x.s.length sc, .slice lA x.l.length lc] 26)) (.cells #[.int .i64 0, .slice none 0 0, .slice none 0 0, .slice none 0 0] 26); rwa [World.size_alloc] at this
  have HBX := hide bx
  have HBZ := hide bz
  have HSZ := hide (show wa.heap.size = w.heap.size + 2 by rw [hwa]; simp)
  have HG := hide (show w.grownBy wa none by rw [hwa]; exact gb_alloc (gb_alloc (gb_refl w none) _) _)
  have HWE := hide hwa
  have HQ := hide (seqT.kind (x := x) (.inl ht))
  have HT := hide ht
  have HPK := hide (fun w2 (hg : w.grownBy w2 none) => picked_any x.n ps (nulT x.t) w2 nA nc pA pc (((vx.gb hg hB).n).more (Nat.le_trans hB hg.size)) ((hp.grown hg (Nat.le_refl _) (by simp)).more hg.size) h1 l1)
  obtain ⟨rl, hrl⟩ : ∃ rl, rl = ps.map (pickI x.n (nulT x.t)) := ⟨_, rfl⟩
  rw [← hrl] at HPK ⊢
  have k0 : (x.t == 0) = false := int_beq_f (by rcases ht with h | h | h | h <;> omega)
  have k3 : (x.t == 3) = false := int_beq_f (by rcases ht with h | h | h | h <;> omega)
  obtain ⟨c0, c1, c2, c3⟩ : C4 wa w.heap.size 0 (.int .i64 x.t) (.slice nA x.n.length nc) (.slice sA x.s.length sc) (.slice lA x.l.length lc) := ⟨by rw [blk_cell bx]; rfl, by rw [blk_cell bx]; rfl, by rw [blk_cell bx]; rfl, by rw [blk_cell bx]; rfl⟩
  clear bx bz hwa hB vx hp h1 htot ht hrl
  go_enter Tryz.func67, Tryz.ntmps67
  go_wp2_with fail
  rw [← HWE.out]
  go_wp2_with (go_at_call 97; refine (isSeq_any _ _ _ _ _ _ _ _ _).mono ?_; rintro e w1 ⟨rfl, hg1⟩; have hqq := HQ.out; have HG1 := hide hg1; clear c0 c1 c2 c3; obtain ⟨c0, c1, c2, c3⟩ : C4 w1 w.heap.size 0 (.int .i64 x.t) (.slice nA x.n.length nc) (.slice sA x.s.length sc) (.slice lA x.l.length lc) := (by have h := blk_keep HBX.out hg1 (by simp); exact ⟨by rw [blk_cell h]; rfl, by rw [blk_cell h]; rfl, by rw [blk_cell h]; rfl, by rw [blk_cell h]; rfl⟩); clear hg1)
  clear hqq
  have HC := hide (show C4 w1 w.heap.size 0 (.int .i64 x.t) (.slice nA x.n.length nc) (.slice sA x.s.length sc) (.slice lA x.l.length lc) from ⟨c0, c1, c2, c3⟩)
  have HGG := hide (gb_trans HG.out HG1.out (.inl rfl))
  clear c0 c1 c2 c3 HQ HWE
  refine wp_region_facts' 13 (by kernel_rfl) (by kernel_rfl) ?_
  intro A O W L HA HO HW HL
  simp only [List.take_succ_cons, List.take_zero]
  have HS := hide (show A.tmps.size = 47 by rw [HA.out]; rfl)
  have HGW := hide (show w1.grownBy W none by rw [HW.out]; exact gb_drew (gb_refl w1 none))
  have A1 := hide (show A.eval (.tmp 1) = .slice pA ps.length pc by rw [HA.out]; rfl)
  have A2 := hide (show A.eval (.tmp 2) = .pointer (some ⟨w.heap.size, 0, none⟩) by rw [HA.out]; rfl)
  -- slot 34
  refine wpFacts_lit (.pointer (some ⟨w.heap.size, 0, none⟩)) rfl ?_ ?_
  · intro a wq hw hl
    have e2 : a.tmps[2]?.getD undef = .pointer (some ⟨w.heap.size, 0, none⟩) := (hl 2 (by first | (simp [Op.operands]; done) | simp [Op.operands, Call.operands]) (by rw [HS.out]; decide)).trans A2.out
    clear hl
    go_simp
  -- slot 35
  refine wpFacts_lit (.int .i64 x.t) rfl ?_ ?_
  · intro a wq hw hl
    have e34 : a.tmps[34]?.getD undef = .pointer (some ⟨w.heap.size, 0, none⟩) := hl 34 (by first | (simp [Op.operands]; done) | simp [Op.operands, Call.operands]) (by rw [HS.out]; decide)
    obtain ⟨c0, c1, c2, c3⟩ := HC.out.gb (gb_trans HGW.out hw (.inl rfl))
    clear hl
    go_simp
  -- slot 36
  refine wpFacts_lit (.pointer (some ⟨w.heap.size, 1, none⟩)) rfl ?_ ?_
  · intro a wq hw hl
    have e2 : a.tmps[2]?.getD undef = .pointer (some ⟨w.heap.size, 0, none⟩) := (hl 2 (by first | (simp [Op.operands]; done) | simp [Op.operands, Call.operands]) (by rw [HS.out]; decide)).trans A2.out
    clear hl
    go_simp
  -- slot 37
  refine wpFacts_lit (.slice nA x.n.length nc) rfl ?_ ?_
  · intro a wq hw hl
    have e36 : a.tmps[36]?.getD undef = .pointer (some ⟨w.heap.size, 1, none⟩) := hl 36 (by first | (simp [Op.operands]; done) | simp [Op.operands, Call.operands]) (by rw [HS.out]; decide)
    obtain ⟨c0, c1, c2, c3⟩ := HC.out.gb (gb_trans HGW.out hw (.inl rfl))
    clear hl
    go_simp
  -- slot 38
  refine wpFacts_lit (.pointer (some ⟨w.heap.size, 0, none⟩)) rfl ?_ ?_
  · intro a wq hw hl
    have e2 : a.tmps[2]?.getD undef = .pointer (some ⟨w.heap.size, 0, none⟩) := (hl 2 (by first | (simp [Op.operands]; done) | simp [Op.operands, Call.operands]) (by rw [HS.out]; decide)).trans A2.out
    clear hl
    go_simp
  -- slot 39
  refine wpFacts_lit (.int .i64 x.t) rfl ?_ ?_
  · intro a wq hw hl
    have e38 : a.tmps[38]?.getD undef = .pointer (some ⟨w.heap.size, 0, none⟩) := hl 38 (by first | (simp [Op.operands]; done) | simp [Op.operands, Call.operands]) (by rw [HS.out]; decide)
    obtain ⟨c0, c1, c2, c3⟩ := HC.out.gb (gb_trans HGW.out hw (.inl rfl))
    clear hl
    go_simp
  -- slot 40
  refine wpFacts_step (ValF (.mk (-x.t) [nulT x.t] [] [])) rfl (ValF.up _) ?_ ?_
  · intro a wq hw hl
    have e39 : a.tmps[39]?.getD undef = .int .i64 x.t := hl 39 (by first | (simp [Op.operands]; done) | simp [Op.operands, Call.operands]) (by rw [HS.out]; decide)
    clear hl
    go_simp
    refine ⟨gb_refl _ none, (null_any _ HT.out _).mono fun _ _ h => ?_⟩
    obtain ⟨x9, h1, h2, h3⟩ := ValF.of_new h
    exact ⟨x9, h1, h2, h3⟩
  -- slot 41
  refine wpFacts_step (RdIF [nulT x.t]) rfl (RdIF.up _) ?_ ?_
  · intro a wq hw hl
    have h40 : (ValF (.mk (-x.t) [nulT x.t] [] [])) (a.tmps[40]?.getD undef) wq := hl 40 (by first | (simp [Op.operands]; done) | simp [Op.operands, Call.operands]) (by rw [HS.out]; decide)
    obtain ⟨mA, mc, tA, tc, kA, kc, e40, hv⟩ := h40
    clear hl
    go_simp
    exact ⟨gb_refl _ none, mA, mc, rfl, hv.n⟩
  -- slot 42
  refine wpFacts_step (CellF (.int .i64 (nulT x.t))) rfl (CellF.up _) ?_ ?_
  · intro a wq hw hl
    have h41 : (RdIF [nulT x.t]) (a.tmps[41]?.getD undef) wq := hl 41 (by first | (simp [Op.operands]; done) | simp [Op.operands, Call.operands]) (by rw [HS.out]; decide)
    obtain ⟨mA, mc, e41, hr⟩ := h41
    obtain ⟨ad, rfl, _, hcl⟩ := hr.i64 (k := 0) (by show 0 < 1; decide)
    have e41a : a.tmps[41]?.getD undef = .slice (some ad) 1 mc := e41
    clear e41
    clear hl
    go_simp
    refine ⟨gb_refl _ none, ad, rfl, ?_⟩
    have hcl : wq.cell? (ad.add 0) = some (.int .i64 (nulT x.t)) := hcl
    rwa [Addr.add_zero'] at hcl
  -- slot 43
  refine wpFacts_lit (.int .i64 (nulT x.t)) rfl ?_ ?_
  · intro a wq hw hl
    have h42 : (CellF (.int .i64 (nulT x.t))) (a.tmps[42]?.getD undef) wq := hl 42 (by first | (simp [Op.operands]; done) | simp [Op.operands, Call.operands]) (by rw [HS.out]; decide)
    obtain ⟨ad, e42, hcl⟩ := h42
    clear hl
    go_simp
  -- slot 44
  refine wpFacts_lit (.slice pA ps.length pc) rfl ?_ ?_
  · intro a wq hw hl
    have e1 : a.tmps[1]?.getD undef = .slice pA ps.length pc := (hl 1 (by first | (simp [Op.operands]; done) | simp [Op.operands, Call.operands]) (by rw [HS.out]; decide)).trans A1.out
    clear hl
    go_simp
  -- slot 45
  refine wpFacts_step (OwnIF (w.heap.size + 2) rl) rfl (OwnIF.up _ _) ?_ ?_
  · intro a wq hw hl
    have e37 : a.tmps[37]?.getD undef = .slice nA x.n.length nc := hl 37 (by first | (simp [Op.operands]; done) | simp [Op.operands, Call.operands]) (by rw [HS.out]; decide)
    have e43 : a.tmps[43]?.getD undef = .int .i64 (nulT x.t) := hl 43 (by first | (simp [Op.operands]; done) | simp [Op.operands, Call.operands]) (by rw [HS.out]; decide)
    have e44 : a.tmps[44]?.getD undef = .slice pA ps.length pc := hl 44 (by first | (simp [Op.operands]; done) | simp [Op.operands, Call.operands]) (by rw [HS.out]; decide)
    clear hl
    go_simp
    refine ⟨gb_refl _ none, (HPK.out _ (gb_trans HGG.out (gb_trans HGW.out hw (.inl rfl)) (.inl rfl))).mono fun _ _ h => ?_⟩
    obtain ⟨hg, A, c, h1, h2, h3⟩ := h
    exact ⟨_, h2, hg, A, c, h1, rfl, own_low h3 (by have h5 := HSZ.out; have h6 := HG1.out.size; have h7 := ((gb_trans HGW.out hw (.inl rfl))).size; omega)⟩
  -- slot 46
  refine wpFacts_step (fun v w9 => ∃ rA rc, rl.length ≤ rc ∧ v = .agg #[.int .i64 x.t, .slice rA rl.length rc, .slice none 0 0, .slice none 0 0] ∧ w9.ownsRow (w.heap.size + 2) 2 1 (.slice rA rl.length rc) rl.length (i64s rl)) rfl (by { rintro v w8 w9 ⟨A, c, h1, h2, h3⟩ hg; exact ⟨A, c, h1, h2, own_up h3 hg⟩ }) ?_ ?_
  · intro a wq hw hl
    have e35 : a.tmps[35]?.getD undef = .int .i64 x.t := hl 35 (by first | (simp [Op.operands]; done) | simp [Op.operands, Call.operands]) (by rw [HS.out]; decide)
    have h45 : (OwnIF (w.heap.size + 2) rl) (a.tmps[45]?.getD undef) wq := hl 45 (by first | (simp [Op.operands]; done) | simp [Op.operands, Call.operands]) (by rw [HS.out]; decide)
    obtain ⟨rA, rc, h1, e45, h2⟩ := h45
    clear hl
    go_simp
    exact ⟨gb_refl _ none, rA, rc, h1, rfl, h2⟩
  refine HL.out _ (fun a' w5 hc => ?_)
  have h46 : (fun v w9 => ∃ rA rc, rl.length ≤ rc ∧ v = .agg #[.int .i64 x.t, .slice rA rl.length rc, .slice none 0 0, .slice none 0 0] ∧ w9.ownsRow (w.heap.size + 2) 2 1 (.slice rA rl.length rc) rl.length (i64s rl)) (a'.eval (.tmp 46)) w5 := hc.fact 46 (by rw [HS.out]; decide)
  obtain ⟨rA, rc, hlc, e46, ho⟩ := h46
  have hgw5 := gb_trans HGW.out hc.grown (.inl rfl)
  have hfr := hc.frame [34, 35, 36, 37, 38, 39, 40, 41, 42, 43, 44, 45, 46, 5] (by rw [HO.out]; kernel_rfl)
  rw [hfr]
  clear hfr hc
  rw [HA.out]
  clear HA HO HL HW HS HGW A1 A2
  clear A O W L
  simp only [List.drop_succ_cons, List.drop_zero, List.foldl_cons, List.foldl_nil, Act.put, List.setIfInBounds_toArray, List.set_cons_succ, List.set_cons_zero]
  rw [e46]
  generalize a'.eval (.tmp 34) = x34
  generalize a'.eval (.tmp 35) = x35
  generalize a'.eval (.tmp 36) = x36
  generalize a'.eval (.tmp 37) = x37
  generalize a'.eval (.tmp 38) = x38
  generalize a'.eval (.tmp 39) = x39
  generalize a'.eval (.tmp 40) = x40
  generalize a'.eval (.tmp 41) = x41
  generalize a'.eval (.tmp 42) = x42
  generalize a'.eval (.tmp 43) = x43
  generalize a'.eval (.tmp 44) = x44
  generalize a'.eval (.tmp 45) = x45
  generalize a'.eval (.tmp 5) = x5
  clear e46
  clear a'
  have HG5 := hide (gb_trans HGG.out hgw5 (.inl rfl))
  have hbz := blk_keep HBZ.out (gb_trans HG1.out hgw5 (.inl rfl)) (by simp)
  have HZ := hide hbz
  obtain ⟨f, ho2, hnd, hfb⟩ := VOw.ints (t := x.t) hlc ho
  have HO := hide ho2
  have HND := hide hnd
  have HFB := hide hfb
  clear ho hlc ho2 hnd hfb
  have hst := storeCells_row (P := Tryz.prog) (c' := #[.int .i64 x.t, .slice rA rl.length rc, .slice none 0 0, .slice none 0 0]) hbz info4 rfl (by simp [Value.oneCell'])
  clear hbz hgw5 HPK HC HBX HBZ HG1 HGG HG
  go_wp2_with fail
  have hrow := heap_setRow_at _ _ _ #[.int .i64 x.t, .slice rA rl.length rc, .slice none 0 0, .slice none 0 0] _ _ HZ.out
  have m0 := blk_cell hrow 0
  have m1 := blk_cell hrow 1
  have m2 := blk_cell hrow 2
  have m3 := blk_cell hrow 3
  simp only [List.getElem?_toArray, List.getElem?_cons_zero, List.getElem?_cons_succ] at m0 m1 m2 m3
  refine bodyPost_ret (v := .tuple #[.agg #[.int .i64 x.t, .slice rA rl.length rc, .slice none 0 0, .slice none 0 0], .int .i64 0]) (by simp [results, Tryz.results67, go_sem, m0, m1, m2, m3]) rfl ?_
  have hsz := HSZ.out
  exact TupV.row (v := .mk x.t rl [] []) (base := w.heap.size + 2) (s := w.heap.size + 1) _ (by omega) (by omega) HG5.out HO.out HND.out HFB.out
set_option maxHeartbeats 4000000 in
set_option maxRecDepth 100000 in
theorem index_sym (x : Vl) (ps : List Int) (w : World) (B : Nat) (nA : Option Addr) (nc : Nat) (sA : Option Addr) (sc : Nat) (lA : Option Addr) (lc : Nat) (pA : Option Addr) (pc : Nat)
    (ht : x.t = 3) (htot : x.tot ≤ 1100000) (hB : B ≤ w.heap.size) (vx : VB w B x nA nc sA sc lA lc) (hp : Rd w w.heap.size pA (i64s ps)) (h1 : ps.length ≤ 1100000) :
    Calls Tryz.prog 67 #[.agg #[.int .i64 x.t, .slice nA x.n.length nc, .slice sA x.s.length sc, .slice lA x.l.length lc], .slice pA ps.length pc] w (TupV (.mk 3 [] (ps.map (pickS x.s ⟨#[]⟩)) []) w) := by
  obtain ⟨l1, l2, l3, l4⟩ := Vl.lens x htot
  rw [ht]
  obtain ⟨wa, hwa⟩ : ∃ wa, wa = (w.alloc (.cells #[.int .i64 3, .slice nA x.n.length nc, .slice sA x.s.length sc, .slice lA x.l.length lc] 26)).alloc (.cells #[.int .i64 0, .slice none 0 0, .slice none 0 0, .slice none 0 0] 26) := ⟨_, rfl⟩
  have bx : wa.heap[w.heap.size]? = some (.cells #[.int .i64 3, .slice nA x.n.length nc, .slice sA x.s.length sc, .slice lA x.l.length lc] 26 (0, 0)) := by rw [hwa]; exact (Below.heap_alloc _ _ _ (by rw [World.size_alloc]; omega)).trans (heap_alloc_new w _)
  have bz : wa.heap[w.heap.size + 1]? = some (.cells #[.int .i64 0, .slice none 0 0, .slice none 0 0, .slice none 0 0] 26 (0, 0)) := by rw [hwa]; have := heap_alloc_new (w.alloc (.cells #[.int .i64 3, .slice nA x.n.length nc, .slice sA x.s.length sc, .slice lA x.l.length lc] 26)) (.cells #[.int .i64 0, .slice none 0 0, .slice none 0 0, .slice none 0 0] 26); rwa [World.size_alloc] at this
  have HBX := hide bx
  have HBZ := hide bz
  have HSZ := hide (show wa.heap.size = w.heap.size + 2 by rw [hwa]; simp)
  have HG := hide (show w.grownBy wa none by rw [hwa]; exact gb_alloc (gb_alloc (gb_refl w none) _) _)
  have HWE := hide hwa
  have HQ := hide (seqT.kind (x := x) (.inr (.inl ht)))
  rw [ht] at HQ
  have HPK := hide (fun w2 (hg : w.grownBy w2 none) => pickedS_any x.s ps ⟨#[]⟩ w2 sA sc pA pc (((vx.gb hg hB).s).more (Nat.le_trans hB hg.size)) ((hp.grown hg (Nat.le_refl _) (by simp)).more hg.size) h1 l2)
  obtain ⟨rl, hrl⟩ : ∃ rl, rl = ps.map (pickS x.s ⟨#[]⟩) := ⟨_, rfl⟩
  rw [← hrl] at HPK ⊢
  obtain ⟨c0, c1, c2, c3⟩ : C4 wa w.heap.size 0 (.int .i64 3) (.slice nA x.n.length nc) (.slice sA x.s.length sc) (.slice lA x.l.length lc) := ⟨by rw [blk_cell bx]; rfl, by rw [blk_cell bx]; rfl, by rw [blk_cell bx]; rfl, by rw [blk_cell bx]; rfl⟩
  clear bx bz hwa hB vx hp h1 htot ht hrl
  go_enter Tryz.func67, Tryz.ntmps67
  go_wp2_with fail
  rw [← HWE.out]
  go_wp2_with (go_at_call 97; refine (isSeq_any _ _ _ _ _ _ _ _ _).mono ?_; rintro e w1 ⟨rfl, hg1⟩; have hqq := HQ.out; have HG1 := hide hg1; clear c0 c1 c2 c3; obtain ⟨c0, c1, c2, c3⟩ : C4 w1 w.heap.size 0 (.int .i64 3) (.slice nA x.n.length nc) (.slice sA x.s.length sc) (.slice lA x.l.length lc) := (by have h := blk_keep HBX.out hg1 (by simp); exact ⟨by rw [blk_cell h]; rfl, by rw [blk_cell h]; rfl, by rw [blk_cell h]; rfl, by rw [blk_cell h]; rfl⟩); clear hg1)
  clear hqq
  have HC := hide (show C4 w1 w.heap.size 0 (.int .i64 3) (.slice nA x.n.length nc) (.slice sA x.s.length sc) (.slice lA x.l.length lc) from ⟨c0, c1, c2, c3⟩)
  have HGG := hide (gb_trans HG.out HG1.out (.inl rfl))
  clear c0 c1 c2 c3 HQ HWE
  refine wp_region_facts' 7 (by kernel_rfl) (by kernel_rfl) ?_
  intro A O W L HA HO HW HL
  simp only [List.take_succ_cons, List.take_zero]
  have HS := hide (show A.tmps.size = 47 by rw [HA.out]; rfl)
  have HGW := hide (show w1.grownBy W none by rw [HW.out]; exact gb_drew (gb_refl w1 none))
  have A1 := hide (show A.eval (.tmp 1) = .slice pA ps.length pc by rw [HA.out]; rfl)
  have A2 := hide (show A.eval (.tmp 2) = .pointer (some ⟨w.heap.size, 0, none⟩) by rw [HA.out]; rfl)
  -- slot 27
  refine wpFacts_lit (.pointer (some ⟨w.heap.size, 0, none⟩)) rfl ?_ ?_
  · intro a wq hw hl
    have e2 : a.tmps[2]?.getD undef = .pointer (some ⟨w.heap.size, 0, none⟩) := (hl 2 (by first | (simp [Op.operands]; done) | simp [Op.operands, Call.operands]) (by rw [HS.out]; decide)).trans A2.out
    clear hl
    go_simp
  -- slot 28
  refine wpFacts_lit (.int .i64 3) rfl ?_ ?_
  · intro a wq hw hl
    have e27 : a.tmps[27]?.getD undef = .pointer (some ⟨w.heap.size, 0, none⟩) := hl 27 (by first | (simp [Op.operands]; done) | simp [Op.operands, Call.operands]) (by rw [HS.out]; decide)
    obtain ⟨c0, c1, c2, c3⟩ := HC.out.gb (gb_trans HGW.out hw (.inl rfl))
    clear hl
    go_simp
  -- slot 29
  refine wpFacts_lit (.pointer (some ⟨w.heap.size, 2, none⟩)) rfl ?_ ?_
  · intro a wq hw hl
    have e2 : a.tmps[2]?.getD undef = .pointer (some ⟨w.heap.size, 0, none⟩) := (hl 2 (by first | (simp [Op.operands]; done) | simp [Op.operands, Call.operands]) (by rw [HS.out]; decide)).trans A2.out
    clear hl
    go_simp
  -- slot 30
  refine wpFacts_lit (.slice sA x.s.length sc) rfl ?_ ?_
  · intro a wq hw hl
    have e29 : a.tmps[29]?.getD undef = .pointer (some ⟨w.heap.size, 2, none⟩) := hl 29 (by first | (simp [Op.operands]; done) | simp [Op.operands, Call.operands]) (by rw [HS.out]; decide)
    obtain ⟨c0, c1, c2, c3⟩ := HC.out.gb (gb_trans HGW.out hw (.inl rfl))
    clear hl
    go_simp
  -- slot 31
  refine wpFacts_lit (.slice pA ps.length pc) rfl ?_ ?_
  · intro a wq hw hl
    have e1 : a.tmps[1]?.getD undef = .slice pA ps.length pc := (hl 1 (by first | (simp [Op.operands]; done) | simp [Op.operands, Call.operands]) (by rw [HS.out]; decide)).trans A1.out
    clear hl
    go_simp
  -- slot 32
  refine wpFacts_step (OwnSF (w.heap.size + 2) rl) rfl (OwnSF.up _ _) ?_ ?_
  · intro a wq hw hl
    have e30 : a.tmps[30]?.getD undef = .slice sA x.s.length sc := hl 30 (by first | (simp [Op.operands]; done) | simp [Op.operands, Call.operands]) (by rw [HS.out]; decide)
    have e31 : a.tmps[31]?.getD undef = .slice pA ps.length pc := hl 31 (by first | (simp [Op.operands]; done) | simp [Op.operands, Call.operands]) (by rw [HS.out]; decide)
    clear hl
    go_simp
    refine ⟨gb_refl _ none, (HPK.out _ (gb_trans HGG.out (gb_trans HGW.out hw (.inl rfl)) (.inl rfl))).mono fun _ _ h => ?_⟩
    obtain ⟨hg, A, c, h1, h2, h3⟩ := h
    exact ⟨_, h2, hg, A, c, h1, rfl, own_low h3 (by have h5 := HSZ.out; have h6 := HG1.out.size; have h7 := ((gb_trans HGW.out hw (.inl rfl))).size; omega)⟩
  -- slot 33
  refine wpFacts_step (fun v w9 => ∃ rA rc, rl.length ≤ rc ∧ v = .agg #[.int .i64 3, .slice none 0 0, .slice rA rl.length rc, .slice none 0 0] ∧ w9.ownsRow (w.heap.size + 2) 9 1 (.slice rA rl.length rc) rl.length (strs rl)) rfl (by { rintro v w8 w9 ⟨A, c, h1, h2, h3⟩ hg; exact ⟨A, c, h1, h2, own_up h3 hg⟩ }) ?_ ?_
  · intro a wq hw hl
    have e28 : a.tmps[28]?.getD undef = .int .i64 3 := hl 28 (by first | (simp [Op.operands]; done) | simp [Op.operands, Call.operands]) (by rw [HS.out]; decide)
    have h32 : (OwnSF (w.heap.size + 2) rl) (a.tmps[32]?.getD undef) wq := hl 32 (by first | (simp [Op.operands]; done) | simp [Op.operands, Call.operands]) (by rw [HS.out]; decide)
    obtain ⟨rA, rc, h1, e32, h2⟩ := h32
    clear hl
    go_simp
    exact ⟨gb_refl _ none, rA, rc, h1, rfl, h2⟩
  refine HL.out _ (fun a' w5 hc => ?_)
  have h33 : (fun v w9 => ∃ rA rc, rl.length ≤ rc ∧ v = .agg #[.int .i64 3, .slice none 0 0, .slice rA rl.length rc, .slice none 0 0] ∧ w9.ownsRow (w.heap.size + 2) 9 1 (.slice rA rl.length rc) rl.length (strs rl)) (a'.eval (.tmp 33)) w5 := hc.fact 33 (by rw [HS.out]; decide)
  obtain ⟨rA, rc, hlc, e33, ho⟩ := h33
  have hgw5 := gb_trans HGW.out hc.grown (.inl rfl)
  have hfr := hc.frame [27, 28, 29, 30, 31, 32, 33, 5] (by rw [HO.out]; kernel_rfl)
  rw [hfr]
  clear hfr hc
  rw [HA.out]
  clear HA HO HL HW HS HGW A1 A2
  clear A O W L
  simp only [List.drop_succ_cons, List.drop_zero, List.foldl_cons, List.foldl_nil, Act.put, List.setIfInBounds_toArray, List.set_cons_succ, List.set_cons_zero]
  rw [e33]
  generalize a'.eval (.tmp 27) = x27
  generalize a'.eval (.tmp 28) = x28
  generalize a'.eval (.tmp 29) = x29
  generalize a'.eval (.tmp 30) = x30
  generalize a'.eval (.tmp 31) = x31
  generalize a'.eval (.tmp 32) = x32
  generalize a'.eval (.tmp 5) = x5
  clear e33
  clear a'
  have HG5 := hide (gb_trans HGG.out hgw5 (.inl rfl))
  have hbz := blk_keep HBZ.out (gb_trans HG1.out hgw5 (.inl rfl)) (by simp)
  have HZ := hide hbz
  obtain ⟨f, ho2, hnd, hfb⟩ := VOw.strs (t := 3) hlc ho
  have HO := hide ho2
  have HND := hide hnd
  have HFB := hide hfb
  clear ho hlc ho2 hnd hfb
  have hst := storeCells_row (P := Tryz.prog) (c' := #[.int .i64 3, .slice none 0 0, .slice rA rl.length rc, .slice none 0 0]) hbz info4 rfl (by simp [Value.oneCell'])
  clear hbz hgw5 HPK HC HBX HBZ HG1 HGG HG
  go_wp2_with fail
  have hrow := heap_setRow_at _ _ _ #[.int .i64 3, .slice none 0 0, .slice rA rl.length rc, .slice none 0 0] _ _ HZ.out
  have m0 := blk_cell hrow 0
  have m1 := blk_cell hrow 1
  have m2 := blk_cell hrow 2
  have m3 := blk_cell hrow 3
  simp only [List.getElem?_toArray, List.getElem?_cons_zero, List.getElem?_cons_succ] at m0 m1 m2 m3
  refine bodyPost_ret (v := .tuple #[.agg #[.int .i64 3, .slice none 0 0, .slice rA rl.length rc, .slice none 0 0], .int .i64 0]) (by simp [results, Tryz.results67, go_sem, m0, m1, m2, m3]) rfl ?_
  have hsz := HSZ.out
  exact TupV.row (v := .mk 3 [] rl []) (base := w.heap.size + 2) (s := w.heap.size + 1) _ (by omega) (by omega) HG5.out HO.out HND.out HFB.out
set_option maxHeartbeats 4000000 in
set_option maxRecDepth 100000 in
theorem index_list (x : Vl) (ps : List Int) (w : World) (B : Nat) (nA : Option Addr) (nc : Nat) (sA : Option Addr) (sc : Nat) (lA : Option Addr) (lc : Nat) (pA : Option Addr) (pc : Nat)
    (ht : x.t = 0) (htt : Vl.tots (ps.map (pickV x.l emp)) ≤ 1100000) (htot : x.tot ≤ 1100000) (hB : B ≤ w.heap.size) (vx : VB w B x nA nc sA sc lA lc) (hp : Rd w w.heap.size pA (i64s ps)) (h1 : ps.length ≤ 1100000) :
    Calls Tryz.prog 67 #[.agg #[.int .i64 x.t, .slice nA x.n.length nc, .slice sA x.s.length sc, .slice lA x.l.length lc], .slice pA ps.length pc] w (TupV (ofV (ps.map (pickV x.l emp))) w) := by
  obtain ⟨l1, l2, l3, l4⟩ := Vl.lens x htot
  rw [ht]
  obtain ⟨wa, hwa⟩ : ∃ wa, wa = (w.alloc (.cells #[.int .i64 0, .slice nA x.n.length nc, .slice sA x.s.length sc, .slice lA x.l.length lc] 26)).alloc (.cells #[.int .i64 0, .slice none 0 0, .slice none 0 0, .slice none 0 0] 26) := ⟨_, rfl⟩
  have bx : wa.heap[w.heap.size]? = some (.cells #[.int .i64 0, .slice nA x.n.length nc, .slice sA x.s.length sc, .slice lA x.l.length lc] 26 (0, 0)) := by rw [hwa]; exact (Below.heap_alloc _ _ _ (by rw [World.size_alloc]; omega)).trans (heap_alloc_new w _)
  have bz : wa.heap[w.heap.size + 1]? = some (.cells #[.int .i64 0, .slice none 0 0, .slice none 0 0, .slice none 0 0] 26 (0, 0)) := by rw [hwa]; have := heap_alloc_new (w.alloc (.cells #[.int .i64 0, .slice nA x.n.length nc, .slice sA x.s.length sc, .slice lA x.l.length lc] 26)) (.cells #[.int .i64 0, .slice none 0 0, .slice none 0 0, .slice none 0 0] 26); rwa [World.size_alloc] at this
  have HBX := hide bx
  have HBZ := hide bz
  have HSZ := hide (show wa.heap.size = w.heap.size + 2 by rw [hwa]; simp)
  have HG := hide (show w.grownBy wa none by rw [hwa]; exact gb_alloc (gb_alloc (gb_refl w none) _) _)
  have HWE := hide hwa
  have HQ := hide (seqT.kind (x := x) (.inr (.inr ht)))
  rw [ht] at HQ
  have HPK := hide (fun w2 (hg : w.grownBy w2 none) => pickedV_any x.l ps emp w2 lA lc pA pc none 0 none 0 none 0 ((vx.gb hg hB).l.up (Nat.le_trans hB hg.size)) ((hp.grown hg (Nat.le_refl _) (by simp)).more hg.size) (emp_vb _ _) h1 l3)
  obtain ⟨rl, hrl⟩ : ∃ rl, rl = ps.map (pickV x.l emp) := ⟨_, rfl⟩
  rw [← hrl] at HPK htt ⊢
  have HLR := hide (show rl.length = ps.length by rw [hrl, List.length_map])
  have HTT := hide htt
  obtain ⟨c0, c1, c2, c3⟩ : C4 wa w.heap.size 0 (.int .i64 0) (.slice nA x.n.length nc) (.slice sA x.s.length sc) (.slice lA x.l.length lc) := ⟨by rw [blk_cell bx]; rfl, by rw [blk_cell bx]; rfl, by rw [blk_cell bx]; rfl, by rw [blk_cell bx]; rfl⟩
  clear bx bz hwa hB vx hp h1 htot ht hrl htt
  go_enter Tryz.func67, Tryz.ntmps67
  go_wp2_with fail
  rw [← HWE.out]
  go_wp2_with (go_at_call 97; refine (isSeq_any _ _ _ _ _ _ _ _ _).mono ?_; rintro e w1 ⟨rfl, hg1⟩; have hqq := HQ.out; have HG1 := hide hg1; clear c0 c1 c2 c3; obtain ⟨c0, c1, c2, c3⟩ : C4 w1 w.heap.size 0 (.int .i64 0) (.slice nA x.n.length nc) (.slice sA x.s.length sc) (.slice lA x.l.length lc) := (by have h := blk_keep HBX.out hg1 (by simp); exact ⟨by rw [blk_cell h]; rfl, by rw [blk_cell h]; rfl, by rw [blk_cell h]; rfl, by rw [blk_cell h]; rfl⟩); clear hg1)
  clear hqq
  have HC := hide (show C4 w1 w.heap.size 0 (.int .i64 0) (.slice nA x.n.length nc) (.slice sA x.s.length sc) (.slice lA x.l.length lc) from ⟨c0, c1, c2, c3⟩)
  have HGG := hide (gb_trans HG.out HG1.out (.inl rfl))
  clear c0 c1 c2 c3 HQ HWE
  refine wp_region_facts' 8 (by kernel_rfl) (by kernel_rfl) ?_
  intro A O W L HA HO HW HL
  simp only [List.take_succ_cons, List.take_zero]
  have HS := hide (show A.tmps.size = 47 by rw [HA.out]; rfl)
  have HGW := hide (show w1.grownBy W none by rw [HW.out]; exact gb_drew (gb_refl w1 none))
  have A1 := hide (show A.eval (.tmp 1) = .slice pA ps.length pc by rw [HA.out]; rfl)
  have A2 := hide (show A.eval (.tmp 2) = .pointer (some ⟨w.heap.size, 0, none⟩) by rw [HA.out]; rfl)
  -- slot 15
  refine wpFacts_lit (.pointer (some ⟨w.heap.size, 3, none⟩)) rfl ?_ ?_
  · intro a wq hw hl
    have e2 : a.tmps[2]?.getD undef = .pointer (some ⟨w.heap.size, 0, none⟩) := (hl 2 (by first | (simp [Op.operands]; done) | simp [Op.operands, Call.operands]) (by rw [HS.out]; decide)).trans A2.out
    clear hl
    go_simp
  -- slot 16
  refine wpFacts_lit (.slice lA x.l.length lc) rfl ?_ ?_
  · intro a wq hw hl
    have e15 : a.tmps[15]?.getD undef = .pointer (some ⟨w.heap.size, 3, none⟩) := hl 15 (by first | (simp [Op.operands]; done) | simp [Op.operands, Call.operands]) (by rw [HS.out]; decide)
    obtain ⟨c0, c1, c2, c3⟩ := HC.out.gb (gb_trans HGW.out hw (.inl rfl))
    clear hl
    go_simp
  -- slot 17
  refine wpFacts_lit (.pointer (some ⟨w.heap.size, 0, none⟩)) rfl ?_ ?_
  · intro a wq hw hl
    have e2 : a.tmps[2]?.getD undef = .pointer (some ⟨w.heap.size, 0, none⟩) := (hl 2 (by first | (simp [Op.operands]; done) | simp [Op.operands, Call.operands]) (by rw [HS.out]; decide)).trans A2.out
    clear hl
    go_simp
  -- slot 18
  refine wpFacts_lit (.int .i64 0) rfl ?_ ?_
  · intro a wq hw hl
    have e17 : a.tmps[17]?.getD undef = .pointer (some ⟨w.heap.size, 0, none⟩) := hl 17 (by first | (simp [Op.operands]; done) | simp [Op.operands, Call.operands]) (by rw [HS.out]; decide)
    obtain ⟨c0, c1, c2, c3⟩ := HC.out.gb (gb_trans HGW.out hw (.inl rfl))
    clear hl
    go_simp
  -- slot 19
  refine wpFacts_step (fun vq _ => vq = .agg #[.int .i64 0, .slice none 0 0, .slice none 0 0, .slice none 0 0]) rfl (Lit.up _) ?_ ?_
  · intro a wq hw hl
    have e18 : a.tmps[18]?.getD undef = .int .i64 0 := hl 18 (by first | (simp [Op.operands]; done) | simp [Op.operands, Call.operands]) (by rw [HS.out]; decide)
    clear hl
    go_simp
    exact gUpon_lit (empty0_any _)
  -- slot 20
  refine wpFacts_lit (.slice pA ps.length pc) rfl ?_ ?_
  · intro a wq hw hl
    have e1 : a.tmps[1]?.getD undef = .slice pA ps.length pc := (hl 1 (by first | (simp [Op.operands]; done) | simp [Op.operands, Call.operands]) (by rw [HS.out]; decide)).trans A1.out
    clear hl
    go_simp
  -- slot 21
  refine wpFacts_step (RdVF rl) rfl (RdVF.up _) ?_ ?_
  · intro a wq hw hl
    have e16 : a.tmps[16]?.getD undef = .slice lA x.l.length lc := hl 16 (by first | (simp [Op.operands]; done) | simp [Op.operands, Call.operands]) (by rw [HS.out]; decide)
    have e19 : a.tmps[19]?.getD undef = .agg #[.int .i64 0, .slice none 0 0, .slice none 0 0, .slice none 0 0] := hl 19 (by first | (simp [Op.operands]; done) | simp [Op.operands, Call.operands]) (by rw [HS.out]; decide)
    have e20 : a.tmps[20]?.getD undef = .slice pA ps.length pc := hl 20 (by first | (simp [Op.operands]; done) | simp [Op.operands, Call.operands]) (by rw [HS.out]; decide)
    clear hl
    go_simp
    refine ⟨gb_refl _ none, (HPK.out _ (gb_trans HGG.out (gb_trans HGW.out hw (.inl rfl)) (.inl rfl))).mono fun _ _ h => ?_⟩
    obtain ⟨hg, A, c, h1, h2, h3⟩ := h
    exact ⟨_, h2, hg, A, c, rfl, h1, h3⟩
  -- slot 22
  refine wpFacts_step (NewF (w.heap.size + 2) (ofV rl)) rfl (NewF.up _ _) ?_ ?_
  · intro a wq hw hl
    have h21 : (RdVF rl) (a.tmps[21]?.getD undef) wq := hl 21 (by first | (simp [Op.operands]; done) | simp [Op.operands, Call.operands]) (by rw [HS.out]; decide)
    obtain ⟨rA, rc, e21, h1, h2⟩ := h21
    clear hl
    go_simp
    refine ⟨gb_refl _ none, (of_any rl wq wq.heap.size rA rc HTT.out (Nat.le_refl _) h2).mono fun _ _ h => ?_⟩
    obtain ⟨x9, h1, h2, h3⟩ := NewF.of (base := w.heap.size + 2) (by have h5 := HSZ.out; have h6 := HG1.out.size; have h7 := ((gb_trans HGW.out hw (.inl rfl))).size; omega) h
    exact ⟨x9, h1, h2, h3⟩
  refine HL.out _ (fun a' w5 hc => ?_)
  have h22 : (NewF (w.heap.size + 2) (ofV rl)) (a'.eval (.tmp 22)) w5 := hc.fact 22 (by rw [HS.out]; decide)
  obtain ⟨rA, rc, qA, qc, kA, kc, f, e22, ho, hnd, hfb⟩ := h22
  have hgw5 := gb_trans HGW.out hc.grown (.inl rfl)
  have hfr := hc.frame [15, 16, 17, 18, 19, 20, 21, 22, 5] (by rw [HO.out]; kernel_rfl)
  rw [hfr]
  clear hfr hc
  rw [HA.out]
  clear HA HO HL HW HS HGW A1 A2
  clear A O W L
  simp only [List.drop_succ_cons, List.drop_zero, List.foldl_cons, List.foldl_nil, Act.put, List.setIfInBounds_toArray, List.set_cons_succ, List.set_cons_zero]
  rw [e22]
  generalize a'.eval (.tmp 15) = x15
  generalize a'.eval (.tmp 16) = x16
  generalize a'.eval (.tmp 17) = x17
  generalize a'.eval (.tmp 18) = x18
  generalize a'.eval (.tmp 19) = x19
  generalize a'.eval (.tmp 20) = x20
  generalize a'.eval (.tmp 21) = x21
  generalize a'.eval (.tmp 5) = x5
  clear e22
  clear a'
  obtain ⟨ov, hov⟩ : ∃ ov, ov = ofV rl := ⟨_, rfl⟩
  rw [← hov] at ho
  rw [← hov]
  have HOV := hide hov
  clear hov
  have HG5 := hide (gb_trans HGG.out hgw5 (.inl rfl))
  have hbz := blk_keep HBZ.out (gb_trans HG1.out hgw5 (.inl rfl)) (by simp)
  have HZ := hide hbz
  have HO := hide ho
  have HND := hide hnd
  have HFB := hide hfb
  clear ho hnd hfb
  have hst := storeCells_row (P := Tryz.prog) (c' := #[.int .i64 ov.t, .slice rA ov.n.length rc, .slice qA ov.s.length qc, .slice kA ov.l.length kc]) hbz info4 rfl (by simp [Value.oneCell'])
  clear hbz hgw5 HPK HC HBX HBZ HG1 HGG HG
  go_wp2_with fail
  have hrow := heap_setRow_at _ _ _ #[.int .i64 ov.t, .slice rA ov.n.length rc, .slice qA ov.s.length qc, .slice kA ov.l.length kc] _ _ HZ.out
  have m0 := blk_cell hrow 0
  have m1 := blk_cell hrow 1
  have m2 := blk_cell hrow 2
  have m3 := blk_cell hrow 3
  simp only [List.getElem?_toArray, List.getElem?_cons_zero, List.getElem?_cons_succ] at m0 m1 m2 m3
  refine bodyPost_ret (v := .tuple #[.agg #[.int .i64 ov.t, .slice rA ov.n.length rc, .slice qA ov.s.length qc, .slice kA ov.l.length kc], .int .i64 0]) (by simp [results, Tryz.results67, go_sem, m0, m1, m2, m3]) rfl ?_
  have hsz := HSZ.out
  rw [← HOV.out]
  exact TupV.row (v := ov) (base := w.heap.size + 2) (s := w.heap.size + 1) _ (by omega) (by omega) HG5.out HO.out HND.out HFB.out
end
theorem index_any (x : Vl) (ps : List Int) (w : World) (B : Nat) (nA : Option Addr) (nc : Nat) (sA : Option Addr) (sc : Nat) (lA : Option Addr) (lc : Nat) (pA : Option Addr) (pc : Nat)
    (hs : seqT x.t) (htt : x.t = 0 → Vl.tots (ps.map (pickV x.l emp)) ≤ 1100000) (htot : x.tot ≤ 1100000) (hB : B ≤ w.heap.size) (vx : VB w B x nA nc sA sc lA lc) (hp : Rd w w.heap.size pA (i64s ps)) (h1 : ps.length ≤ 1100000) :
    Calls Tryz.prog 67 #[.agg #[.int .i64 x.t, .slice nA x.n.length nc, .slice sA x.s.length sc, .slice lA x.l.length lc], .slice pA ps.length pc] w (TupV (idxV x ps) w) := by
  by_cases h0 : x.t = 0
  · have e : idxV x ps = ofV (ps.map (pickV x.l emp)) := by unfold idxV; rw [if_pos h0]
    rw [e]
    exact index_list x ps w B nA nc sA sc lA lc pA pc h0 (htt h0) htot hB vx hp h1
  by_cases h3 : x.t = 3
  · have e : idxV x ps = .mk 3 [] (ps.map (pickS x.s ⟨#[]⟩)) [] := by unfold idxV; rw [if_neg h0, if_pos h3]
    rw [e]
    exact index_sym x ps w B nA nc sA sc lA lc pA pc h3 htot hB vx hp h1
  · have e : idxV x ps = .mk x.t (ps.map (pickI x.n (nulT x.t))) [] [] := by unfold idxV; rw [if_neg h0, if_neg h3]
    rw [e]
    exact index_num x ps w B nA nc sA sc lA lc pA pc (hs.resolve_right (by rintro (h | h); exact h3 h; exact h0 h)) htot hB vx hp h1
end Go.Proofs.YtgepejnooghjbaaGreat
