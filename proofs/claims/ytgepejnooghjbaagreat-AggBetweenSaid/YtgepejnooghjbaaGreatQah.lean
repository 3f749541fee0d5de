/-
  vec.each of ints, vec.like.
-/
import Derived.Test.YtgepejnooghjbaaGreatQag
import Derived.Laws.OwnMore

namespace Go.Proofs.YtgepejnooghjbaaGreat
open Go.RowKit
attribute [local go_sem ↓] Go.wp_at_zero Go.wp_at_succ

/-- What a function makes of the elements from i on, m of them; the last one serves beyond a list's end. -/
def eachO (f : Int → Int → Option Int) (a b : List Int) (i : Nat) : Nat → Option (List Int)
  | 0 => some []
  | m + 1 => (f (a.getD (min i (a.length - 1)) 0) (b.getD (min i (b.length - 1)) 0)).bind fun n => (eachO f a b (i + 1) m).map (n :: ·)
theorem eachO_step {f : Int → Int → Option Int} {a b : List Int} (i c : Nat) (xs : List Int) (n : Int) (hi : i < c) (hx : ∀ r, eachO f a b i (c - i) = r → eachO f a b 0 c = r.map (xs ++ ·)) (hf : f (a.getD (min i (a.length - 1)) 0) (b.getD (min i (b.length - 1)) 0) = some n) :
    ∀ r, eachO f a b (i + 1) (c - (i + 1)) = r → eachO f a b 0 c = r.map (xs ++ [n] ++ ·) := by
  intro r hr
  have e : c - i = (c - (i + 1)) + 1 := by omega
  rw [hx _ rfl, e, eachO, hf, Option.bind_some, hr]
  cases r <;> simp
theorem eachO_fail {f : Int → Int → Option Int} {a b : List Int} (i c : Nat) (xs : List Int) (hi : i < c) (hx : ∀ r, eachO f a b i (c - i) = r → eachO f a b 0 c = r.map (xs ++ ·)) (hf : f (a.getD (min i (a.length - 1)) 0) (b.getD (min i (b.length - 1)) 0) = none) :
    eachO f a b 0 c = none := by
  have e : c - i = (c - (i + 1)) + 1 := by omega
  rw [hx _ rfl, e, eachO, hf]
  rfl
/-- What 'each' gives: the numbers in a row of their own, or that one does not fit. -/
def EachR (r : Option (List Int)) (w : World) (e : Ending) (w' : World) : Prop := w.grownBy w' none ∧ match r with
  | some l => ∃ A c, e = .returned (.tuple #[.slice A l.length c, .bool true]) ∧ w'.ownsRow w.heap.size 2 1 (.slice A l.length c) l.length (i64s l)
  | none => e = .returned (.tuple #[.slice none 0 0, .bool false])
theorem i64s_set_mid (xs : List Int) (n : Int) (m : Nat) : (i64s xs ++ List.replicate (m + 1) (Value.int .i64 0)).set xs.length (.int .i64 n) = i64s (xs ++ [n]) ++ List.replicate m (Value.int .i64 0) := by
  have hl : (i64s xs).length = xs.length := by simp [i64s]
  rw [List.set_append_right _ _ (by omega), hl, Nat.sub_self, List.replicate_succ, List.set_cons_zero]
  simp [i64s]
set_option maxHeartbeats 8000000 in
set_option maxRecDepth 100000 in
theorem each_any (f : Int → Int → Option Int) (la lb : List Int) (c k : Nat) (g : Nat) (w : World) (aA : Option Addr) (ac : Nat) (bA : Option Addr) (bc : Nat)
    (hS : StrF k w g f) (hA : Rd w w.heap.size aA (i64s la)) (hB : Rd w w.heap.size bA (i64s lb)) (hc : c ≤ 1000000) (ha : 0 < c → 0 < la.length) (hb : 0 < c → 0 < lb.length) (hal : la.length ≤ 1000000) (hbl : lb.length ≤ 1000000) (hai : ∀ x ∈ la, I64 x) (hbi : ∀ x ∈ lb, I64 x) :
    Calls Tryz.prog 118 #[.int .i64 (c : Int), .slice aA la.length ac, .slice bA lb.length bc, .func (.func 145) #[] #[.pointer (some ⟨g, 0, none⟩)]] w (EachR (eachO f la lb 0 c) w) := by
  obtain ⟨i1, hi1, hiz, his, hib⟩ := info_parts Tryz.info64
  obtain ⟨w0, hmk, hown, hg0⟩ := run_make_full (P := Tryz.prog) w w.heap.size 22 2 i1 (.int .i64 0) 1 Tryz.underlying22 hi1 hiz his .i64 .i64 c (by rw [hib]; omega) (by unfold maxLen; omega) (Nat.le_refl _)
  rw [show (madeCells (Value.int .i64 0).cells (c * 1)).toList = List.replicate c (.int .i64 0) by rw [Nat.mul_one]; exact toList_madeCells_one _ c] at hown
  have HS := hide hS
  have HA := hide hA
  have HB := hide hB
  have HOWN := hide hown
  have HG0 := hide hg0
  have HCL := hide hc
  have HNA := hide ha
  have HNB := hide hb
  have HLA := hide hal
  have HLB := hide hbl
  have HAI := hide hai
  have HBI := hide hbi
  clear hS hA hB hown hg0 hc ha hb hal hbl hai hbi hi1 hiz his hib
  go_enter Tryz.func118, Tryz.ntmps118
  go_wp2_with fail
  go_loopw [18] (fun i wr => ∃ j : Nat, i = .int .i64 (j : Int) ∧ j ≤ c ∧ ∃ xs : List Int, xs.length = j ∧ Hid (∀ r, eachO f la lb j (c - j) = r → eachO f la lb 0 c = r.map (xs ++ ·)) ∧
    wr.ownsRow w.heap.size 2 1 (.slice (some ⟨w.heap.size, 0, none⟩) c c) c (i64s xs ++ List.replicate (c - j) (.int .i64 0)) ∧ w.grownBy wr none) (fun i _ => c - (intOf i).toNat)
  case atStart => exact ⟨0, rfl, Nat.zero_le _, [], rfl, hide (fun r hr => by rw [Nat.sub_zero] at hr; rw [hr]; cases r <;> simp), by simpa [i64s] using HOWN.out, HG0.out⟩
  case round =>
    obtain ⟨j, rfl, hj, xs, hxl, HX, how, hgr⟩ := hrel
    by_cases hlt : j < c
    · have hlt1 : (j : Int) < (c : Int) := by omega
      have hja : min j (la.length - 1) < la.length := by have := HNA.out (by omega); omega
      have hjb : min j (lb.length - 1) < lb.length := by have := HNB.out (by omega); omega
      obtain ⟨pa, ea, hpa, hca⟩ := HA.out.i64 hja
      obtain ⟨pb, eb, hpb, hcb⟩ := HB.out.i64 hjb
      obtain ⟨ka, hka⟩ : ∃ ka, ka = min j (la.length - 1) := ⟨_, rfl⟩
      obtain ⟨kb, hkb⟩ : ∃ kb, kb = min j (lb.length - 1) := ⟨_, rfl⟩
      obtain ⟨x, hx⟩ : ∃ x, x = la.getD ka 0 := ⟨_, rfl⟩
      obtain ⟨y, hy⟩ : ∃ y, y = lb.getD kb 0 := ⟨_, rfl⟩
      have hxe : la[min j (la.length - 1)] = x := by rw [hx, hka, List.getD_eq_getElem?_getD, List.getElem?_eq_getElem hja]; rfl
      have hye : lb[min j (lb.length - 1)] = y := by rw [hy, hkb, List.getD_eq_getElem?_getD, List.getElem?_eq_getElem hjb]; rfl
      have HXI := hide (show I64 x from hxe ▸ HAI.out _ (List.getElem_mem hja))
      have HYI := hide (show I64 y from hye ▸ HBI.out _ (List.getElem_mem hjb))
      rw [hxe, ← hka] at hca
      rw [hye, ← hkb] at hcb
      have ca := cell_gb hca hgr
      have cb := cell_gb hcb hgr
      have HGR := hide hgr
      have HOW := hide how
      subst ea eb
      obtain ⟨da, hda⟩ : ∃ da : Nat, la.length = da + 1 := ⟨la.length - 1, by omega⟩
      obtain ⟨db, hdb⟩ : ∃ db : Nat, lb.length = db + 1 := ⟨lb.length - 1, by omega⟩
      have wa1 : IntKind.i64.wrap ((la.length : Int) - 1) = (da : Int) := by rw [IntKind.wrap_i64]; have := HLA.out; omega
      have wb1 : IntKind.i64.wrap ((lb.length : Int) - 1) = (db : Int) := by rw [IntKind.wrap_i64]; have := HLB.out; omega
      have hia : (ka : Int) < (la.length : Int) := by omega
      have hib : (kb : Int) < (lb.length : Int) := by omega
      have HFX := hide (show la.getD (min j (la.length - 1)) 0 = x by rw [← hka, ← hx])
      have HFY := hide (show lb.getD (min j (lb.length - 1)) 0 = y by rw [← hkb, ← hy])
      have HLT := hide hlt
      have HXL := hide hxl
      have h6 : IntKind.i64.wrap ((j : Int) + 1) = ((j + 1 : Nat) : Int) := by rw [IntKind.wrap_i64]; have := HCL.out; omega
      have hMA : Hid ((min (j : Int) (da : Int) = (ka : Int)) ∧ (((j : Int) ≤ da ∧ ¬ (da : Int) < j ∧ j = ka) ∨ (¬ (j : Int) ≤ da ∧ (da : Int) < j ∧ da = ka))) := hide (by omega)
      have hMB : Hid ((min (j : Int) (db : Int) = (kb : Int)) ∧ (((j : Int) ≤ db ∧ ¬ (db : Int) < j ∧ j = kb) ∨ (¬ (j : Int) ≤ db ∧ (db : Int) < j ∧ db = kb))) := hide (by omega)
      clear hx hy hxe hye hca hcb hgr how hlt hxl hka hkb hja hjb hpa hpb hda hdb hj
      cases hf : f x y with
      | none =>
        have HNO := hide (eachO_fail j c xs HLT.out HX.out (by rw [HFX.out, HFY.out]; exact hf))
        have C := hide (fun w2 (k : w.grownBy w2 none) => (hf ▸ (HS.out.gb k) w2 (fun i _ _ => .inr rfl) x y HXI.out HYI.out : Calls Tryz.prog 145 #[.int .i64 x, .int .i64 y, .pointer (some ⟨g, 0, none⟩)] w2 (NumR none w2)))
        clear hf
        have CC := hide (fun w2 (k : wr.grownBy w2 none) => (C.out w2 (gb_trans HGR.out k (.inl rfl))).mono fun _ _ h => And.intro h.2 h.1)
        clear C
        rcases hMA.out with ⟨ma, ⟨na, oa, rfl⟩ | ⟨na, oa, rfl⟩⟩ <;> rcases hMB.out with ⟨mb, ⟨nb, ob, rfl⟩ | ⟨nb, ob, rfl⟩⟩
        · clear hMA hMB HFX HFY
          go_wp2_with fail
          refine wp_region_facts' 22 (by kernel_rfl) (by kernel_rfl) ?_
          intro A O W L HA HO HW HL
          simp only [List.take_succ_cons, List.take_zero]
          have HS := hide (show A.tmps.size = 50 by rw [HA.out]; rfl)
          have HGW := hide (show wr.grownBy W none by rw [HW.out]; exact gb_drew (gb_refl wr none))
          have A1 := hide (show A.eval (.tmp 1) = .slice (some pa) la.length ac by rw [HA.out]; rfl)
          have A2 := hide (show A.eval (.tmp 2) = .slice (some pb) lb.length bc by rw [HA.out]; rfl)
          have A3 := hide (show A.eval (.tmp 3) = .func (.func 145) #[] #[.pointer (some ⟨g, 0, none⟩)] by rw [HA.out]; rfl)
          have A11 := hide (show A.eval (.tmp 11) = .int .i64 (j : Int) by rw [HA.out]; rfl)
          -- slot 22
          refine wpFacts_lit (.func (.func 145) #[] #[.pointer (some ⟨g, 0, none⟩)]) rfl ?_ ?_
          · intro a wq hw hl
            have e3 : a.tmps[3]?.getD undef = .func (.func 145) #[] #[.pointer (some ⟨g, 0, none⟩)] := (hl 3 (by first | (simp [Op.operands]; done) | simp [Op.operands, Call.operands]) (by rw [HS.out]; decide)).trans A3.out
            clear hl
            go_simp
          -- slot 23
          refine wpFacts_lit (.slice (some pa) la.length ac) rfl ?_ ?_
          · intro a wq hw hl
            have e1 : a.tmps[1]?.getD undef = .slice (some pa) la.length ac := (hl 1 (by first | (simp [Op.operands]; done) | simp [Op.operands, Call.operands]) (by rw [HS.out]; decide)).trans A1.out
            clear hl
            go_simp
          -- slot 24
          refine wpFacts_lit (.int .i64 (j : Int)) rfl ?_ ?_
          · intro a wq hw hl
            have e11 : a.tmps[11]?.getD undef = .int .i64 (j : Int) := (hl 11 (by first | (simp [Op.operands]; done) | simp [Op.operands, Call.operands]) (by rw [HS.out]; decide)).trans A11.out
            clear hl
            go_simp
          -- slot 25
          refine wpFacts_lit (.slice (some pa) la.length ac) rfl ?_ ?_
          · intro a wq hw hl
            have e1 : a.tmps[1]?.getD undef = .slice (some pa) la.length ac := (hl 1 (by first | (simp [Op.operands]; done) | simp [Op.operands, Call.operands]) (by rw [HS.out]; decide)).trans A1.out
            clear hl
            go_simp
          -- slot 26
          refine wpFacts_lit (.int .i64 (la.length : Int)) rfl ?_ ?_
          · intro a wq hw hl
            have e25 : a.tmps[25]?.getD undef = .slice (some pa) la.length ac := hl 25 (by first | (simp [Op.operands]; done) | simp [Op.operands, Call.operands]) (by rw [HS.out]; decide)
            clear hl
            go_simp
          -- slot 27
          refine wpFacts_lit (.int .i64 (da : Int)) rfl ?_ ?_
          · intro a wq hw hl
            have e26 : a.tmps[26]?.getD undef = .int .i64 (la.length : Int) := hl 26 (by first | (simp [Op.operands]; done) | simp [Op.operands, Call.operands]) (by rw [HS.out]; decide)
            clear hl
            go_simp
          -- slot 28
          refine wpFacts_lit (.int .i64 (j : Int)) rfl ?_ ?_
          · intro a wq hw hl
            have e24 : a.tmps[24]?.getD undef = .int .i64 (j : Int) := hl 24 (by first | (simp [Op.operands]; done) | simp [Op.operands, Call.operands]) (by rw [HS.out]; decide)
            have e27 : a.tmps[27]?.getD undef = .int .i64 (da : Int) := hl 27 (by first | (simp [Op.operands]; done) | simp [Op.operands, Call.operands]) (by rw [HS.out]; decide)
            clear hl
            go_simp
          -- slot 29
          refine wpFacts_lit (.pointer (some (pa.add j))) rfl ?_ ?_
          · intro a wq hw hl
            have e23 : a.tmps[23]?.getD undef = .slice (some pa) la.length ac := hl 23 (by first | (simp [Op.operands]; done) | simp [Op.operands, Call.operands]) (by rw [HS.out]; decide)
            have e28 : a.tmps[28]?.getD undef = .int .i64 (j : Int) := hl 28 (by first | (simp [Op.operands]; done) | simp [Op.operands, Call.operands]) (by rw [HS.out]; decide)
            clear hl
            go_simp
          -- slot 30
          refine wpFacts_lit (.int .i64 x) rfl ?_ ?_
          · intro a wq hw hl
            have e29 : a.tmps[29]?.getD undef = .pointer (some (pa.add j)) := hl 29 (by first | (simp [Op.operands]; done) | simp [Op.operands, Call.operands]) (by rw [HS.out]; decide)
            have c5 := cell_gb ca (gb_trans HGW.out hw (.inl rfl))
            clear hl
            go_simp
          -- slot 31
          refine wpFacts_lit (.slice (some pb) lb.length bc) rfl ?_ ?_
          · intro a wq hw hl
            have e2 : a.tmps[2]?.getD undef = .slice (some pb) lb.length bc := (hl 2 (by first | (simp [Op.operands]; done) | simp [Op.operands, Call.operands]) (by rw [HS.out]; decide)).trans A2.out
            clear hl
            go_simp
          -- slot 32
          refine wpFacts_lit (.int .i64 (j : Int)) rfl ?_ ?_
          · intro a wq hw hl
            have e11 : a.tmps[11]?.getD undef = .int .i64 (j : Int) := (hl 11 (by first | (simp [Op.operands]; done) | simp [Op.operands, Call.operands]) (by rw [HS.out]; decide)).trans A11.out
            clear hl
            go_simp
          -- slot 33
          refine wpFacts_lit (.slice (some pb) lb.length bc) rfl ?_ ?_
          · intro a wq hw hl
            have e2 : a.tmps[2]?.getD undef = .slice (some pb) lb.length bc := (hl 2 (by first | (simp [Op.operands]; done) | simp [Op.operands, Call.operands]) (by rw [HS.out]; decide)).trans A2.out
            clear hl
            go_simp
          -- slot 34
          refine wpFacts_lit (.int .i64 (lb.length : Int)) rfl ?_ ?_
          · intro a wq hw hl
            have e33 : a.tmps[33]?.getD undef = .slice (some pb) lb.length bc := hl 33 (by first | (simp [Op.operands]; done) | simp [Op.operands, Call.operands]) (by rw [HS.out]; decide)
            clear hl
            go_simp
          -- slot 35
          refine wpFacts_lit (.int .i64 (db : Int)) rfl ?_ ?_
          · intro a wq hw hl
            have e34 : a.tmps[34]?.getD undef = .int .i64 (lb.length : Int) := hl 34 (by first | (simp [Op.operands]; done) | simp [Op.operands, Call.operands]) (by rw [HS.out]; decide)
            clear hl
            go_simp
          -- slot 36
          refine wpFacts_lit (.int .i64 (j : Int)) rfl ?_ ?_
          · intro a wq hw hl
            have e32 : a.tmps[32]?.getD undef = .int .i64 (j : Int) := hl 32 (by first | (simp [Op.operands]; done) | simp [Op.operands, Call.operands]) (by rw [HS.out]; decide)
            have e35 : a.tmps[35]?.getD undef = .int .i64 (db : Int) := hl 35 (by first | (simp [Op.operands]; done) | simp [Op.operands, Call.operands]) (by rw [HS.out]; decide)
            clear hl
            go_simp
          -- slot 37
          refine wpFacts_lit (.pointer (some (pb.add j))) rfl ?_ ?_
          · intro a wq hw hl
            have e31 : a.tmps[31]?.getD undef = .slice (some pb) lb.length bc := hl 31 (by first | (simp [Op.operands]; done) | simp [Op.operands, Call.operands]) (by rw [HS.out]; decide)
            have e36 : a.tmps[36]?.getD undef = .int .i64 (j : Int) := hl 36 (by first | (simp [Op.operands]; done) | simp [Op.operands, Call.operands]) (by rw [HS.out]; decide)
            clear hl
            go_simp
          -- slot 38
          refine wpFacts_lit (.int .i64 y) rfl ?_ ?_
          · intro a wq hw hl
            have e37 : a.tmps[37]?.getD undef = .pointer (some (pb.add j)) := hl 37 (by first | (simp [Op.operands]; done) | simp [Op.operands, Call.operands]) (by rw [HS.out]; decide)
            have c5 := cell_gb cb (gb_trans HGW.out hw (.inl rfl))
            clear hl
            go_simp
          -- slot 39
          refine wpFacts_step (fun vq _ => vq = .tuple #[.int .i64 0, .bool false]) rfl (Lit.up _) ?_ ?_
          · intro a wq hw hl
            have e22 : a.tmps[22]?.getD undef = .func (.func 145) #[] #[.pointer (some ⟨g, 0, none⟩)] := hl 22 (by first | (simp [Op.operands]; done) | simp [Op.operands, Call.operands]) (by rw [HS.out]; decide)
            have e30 : a.tmps[30]?.getD undef = .int .i64 x := hl 30 (by first | (simp [Op.operands]; done) | simp [Op.operands, Call.operands]) (by rw [HS.out]; decide)
            have e38 : a.tmps[38]?.getD undef = .int .i64 y := hl 38 (by first | (simp [Op.operands]; done) | simp [Op.operands, Call.operands]) (by rw [HS.out]; decide)
            clear hl
            go_simp
            exact gUpon_lit (CC.out wq (gb_trans HGW.out hw (.inl rfl)))
          -- slot 21
          refine wpFacts_lit (.tuple #[.int .i64 0, .bool false]) rfl ?_ ?_
          · intro a wq hw hl
            have e39 : a.tmps[39]?.getD undef = .tuple #[.int .i64 0, .bool false] := hl 39 (by first | (simp [Op.operands]; done) | simp [Op.operands, Call.operands]) (by rw [HS.out]; decide)
            clear hl
            go_simp
          -- slot 40
          refine wpFacts_lit (.int .i64 0) rfl ?_ ?_
          · intro a wq hw hl
            have e21 : a.tmps[21]?.getD undef = .tuple #[.int .i64 0, .bool false] := hl 21 (by first | (simp [Op.operands]; done) | simp [Op.operands, Call.operands]) (by rw [HS.out]; decide)
            clear hl
            go_simp
          -- slot 41
          refine wpFacts_lit (.bool false) rfl ?_ ?_
          · intro a wq hw hl
            have e21 : a.tmps[21]?.getD undef = .tuple #[.int .i64 0, .bool false] := hl 21 (by first | (simp [Op.operands]; done) | simp [Op.operands, Call.operands]) (by rw [HS.out]; decide)
            clear hl
            go_simp
          -- slot 12
          refine wpFacts_lit (.int .i64 0) rfl ?_ ?_
          · intro a wq hw hl
            have e40 : a.tmps[40]?.getD undef = .int .i64 0 := hl 40 (by first | (simp [Op.operands]; done) | simp [Op.operands, Call.operands]) (by rw [HS.out]; decide)
            clear hl
            go_simp
          refine HL.out _ (fun a' w5 hc => ?_)
          have e12 : a'.eval (.tmp 12) = .int .i64 0 := hc.fact 12 (by rw [HS.out]; decide)
          have e41 : a'.eval (.tmp 41) = .bool false := hc.fact 41 (by rw [HS.out]; decide)
          have hgw5 := gb_trans HGW.out hc.grown (.inl rfl)
          have hfr := hc.frame [22, 23, 24, 25, 26, 27, 28, 29, 30, 31, 32, 33, 34, 35, 36, 37, 38, 39, 21, 40, 41, 12, 13] (by rw [HO.out]; kernel_rfl)
          rw [hfr]
          clear hfr hc
          rw [HA.out]
          clear HA HO HL HW HS HGW A1 A2 A3 A11
          clear A O W L
          simp only [List.drop_succ_cons, List.drop_zero, List.foldl_cons, List.foldl_nil, Act.put, List.setIfInBounds_toArray, List.set_cons_succ, List.set_cons_zero]
          rw [e12, e41]
          generalize a'.eval (.tmp 22) = x22
          generalize a'.eval (.tmp 23) = x23
          generalize a'.eval (.tmp 24) = x24
          generalize a'.eval (.tmp 25) = x25
          generalize a'.eval (.tmp 26) = x26
          generalize a'.eval (.tmp 27) = x27
          generalize a'.eval (.tmp 28) = x28
          generalize a'.eval (.tmp 29) = x29
          generalize a'.eval (.tmp 30) = x30
          generalize a'.eval (.tmp 31) = x31
          generalize a'.eval (.tmp 32) = x32
          generalize a'.eval (.tmp 33) = x33
          generalize a'.eval (.tmp 34) = x34
          generalize a'.eval (.tmp 35) = x35
          generalize a'.eval (.tmp 36) = x36
          generalize a'.eval (.tmp 37) = x37
          generalize a'.eval (.tmp 38) = x38
          generalize a'.eval (.tmp 39) = x39
          generalize a'.eval (.tmp 21) = x21
          generalize a'.eval (.tmp 40) = x40
          generalize a'.eval (.tmp 13) = x13
          clear e12 e41
          clear a'
          have HG5 := hide (gb_trans HGR.out hgw5 (.inl rfl))
          clear hgw5
          go_wp2_with fail
          exact bodyPost_ret (v := .tuple #[.slice none 0 0, .bool false]) (by simp [results, Tryz.results118, go_sem]) rfl ⟨HG5.out, by rw [HNO.out]⟩
        · clear hMA hMB HFX HFY
          go_wp2_with fail
          refine wp_region_facts' 22 (by kernel_rfl) (by kernel_rfl) ?_
          intro A O W L HA HO HW HL
          simp only [List.take_succ_cons, List.take_zero]
          have HS := hide (show A.tmps.size = 50 by rw [HA.out]; rfl)
          have HGW := hide (show wr.grownBy W none by rw [HW.out]; exact gb_drew (gb_refl wr none))
          have A1 := hide (show A.eval (.tmp 1) = .slice (some pa) la.length ac by rw [HA.out]; rfl)
          have A2 := hide (show A.eval (.tmp 2) = .slice (some pb) lb.length bc by rw [HA.out]; rfl)
          have A3 := hide (show A.eval (.tmp 3) = .func (.func 145) #[] #[.pointer (some ⟨g, 0, none⟩)] by rw [HA.out]; rfl)
          have A11 := hide (show A.eval (.tmp 11) = .int .i64 (j : Int) by rw [HA.out]; rfl)
          -- slot 22
          refine wpFacts_lit (.func (.func 145) #[] #[.pointer (some ⟨g, 0, none⟩)]) rfl ?_ ?_
          · intro a wq hw hl
            have e3 : a.tmps[3]?.getD undef = .func (.func 145) #[] #[.pointer (some ⟨g, 0, none⟩)] := (hl 3 (by first | (simp [Op.operands]; done) | simp [Op.operands, Call.operands]) (by rw [HS.out]; decide)).trans A3.out
            clear hl
            go_simp
          -- slot 23
          refine wpFacts_lit (.slice (some pa) la.length ac) rfl ?_ ?_
          · intro a wq hw hl
            have e1 : a.tmps[1]?.getD undef = .slice (some pa) la.length ac := (hl 1 (by first | (simp [Op.operands]; done) | simp [Op.operands, Call.operands]) (by rw [HS.out]; decide)).trans A1.out
            clear hl
            go_simp
          -- slot 24
          refine wpFacts_lit (.int .i64 (j : Int)) rfl ?_ ?_
          · intro a wq hw hl
            have e11 : a.tmps[11]?.getD undef = .int .i64 (j : Int) := (hl 11 (by first | (simp [Op.operands]; done) | simp [Op.operands, Call.operands]) (by rw [HS.out]; decide)).trans A11.out
            clear hl
            go_simp
          -- slot 25
          refine wpFacts_lit (.slice (some pa) la.length ac) rfl ?_ ?_
          · intro a wq hw hl
            have e1 : a.tmps[1]?.getD undef = .slice (some pa) la.length ac := (hl 1 (by first | (simp [Op.operands]; done) | simp [Op.operands, Call.operands]) (by rw [HS.out]; decide)).trans A1.out
            clear hl
            go_simp
          -- slot 26
          refine wpFacts_lit (.int .i64 (la.length : Int)) rfl ?_ ?_
          · intro a wq hw hl
            have e25 : a.tmps[25]?.getD undef = .slice (some pa) la.length ac := hl 25 (by first | (simp [Op.operands]; done) | simp [Op.operands, Call.operands]) (by rw [HS.out]; decide)
            clear hl
            go_simp
          -- slot 27
          refine wpFacts_lit (.int .i64 (da : Int)) rfl ?_ ?_
          · intro a wq hw hl
            have e26 : a.tmps[26]?.getD undef = .int .i64 (la.length : Int) := hl 26 (by first | (simp [Op.operands]; done) | simp [Op.operands, Call.operands]) (by rw [HS.out]; decide)
            clear hl
            go_simp
          -- slot 28
          refine wpFacts_lit (.int .i64 (j : Int)) rfl ?_ ?_
          · intro a wq hw hl
            have e24 : a.tmps[24]?.getD undef = .int .i64 (j : Int) := hl 24 (by first | (simp [Op.operands]; done) | simp [Op.operands, Call.operands]) (by rw [HS.out]; decide)
            have e27 : a.tmps[27]?.getD undef = .int .i64 (da : Int) := hl 27 (by first | (simp [Op.operands]; done) | simp [Op.operands, Call.operands]) (by rw [HS.out]; decide)
            clear hl
            go_simp
          -- slot 29
          refine wpFacts_lit (.pointer (some (pa.add j))) rfl ?_ ?_
          · intro a wq hw hl
            have e23 : a.tmps[23]?.getD undef = .slice (some pa) la.length ac := hl 23 (by first | (simp [Op.operands]; done) | simp [Op.operands, Call.operands]) (by rw [HS.out]; decide)
            have e28 : a.tmps[28]?.getD undef = .int .i64 (j : Int) := hl 28 (by first | (simp [Op.operands]; done) | simp [Op.operands, Call.operands]) (by rw [HS.out]; decide)
            clear hl
            go_simp
          -- slot 30
          refine wpFacts_lit (.int .i64 x) rfl ?_ ?_
          · intro a wq hw hl
            have e29 : a.tmps[29]?.getD undef = .pointer (some (pa.add j)) := hl 29 (by first | (simp [Op.operands]; done) | simp [Op.operands, Call.operands]) (by rw [HS.out]; decide)
            have c5 := cell_gb ca (gb_trans HGW.out hw (.inl rfl))
            clear hl
            go_simp
          -- slot 31
          refine wpFacts_lit (.slice (some pb) lb.length bc) rfl ?_ ?_
          · intro a wq hw hl
            have e2 : a.tmps[2]?.getD undef = .slice (some pb) lb.length bc := (hl 2 (by first | (simp [Op.operands]; done) | simp [Op.operands, Call.operands]) (by rw [HS.out]; decide)).trans A2.out
            clear hl
            go_simp
          -- slot 32
          refine wpFacts_lit (.int .i64 (j : Int)) rfl ?_ ?_
          · intro a wq hw hl
            have e11 : a.tmps[11]?.getD undef = .int .i64 (j : Int) := (hl 11 (by first | (simp [Op.operands]; done) | simp [Op.operands, Call.operands]) (by rw [HS.out]; decide)).trans A11.out
            clear hl
            go_simp
          -- slot 33
          refine wpFacts_lit (.slice (some pb) lb.length bc) rfl ?_ ?_
          · intro a wq hw hl
            have e2 : a.tmps[2]?.getD undef = .slice (some pb) lb.length bc := (hl 2 (by first | (simp [Op.operands]; done) | simp [Op.operands, Call.operands]) (by rw [HS.out]; decide)).trans A2.out
            clear hl
            go_simp
          -- slot 34
          refine wpFacts_lit (.int .i64 (lb.length : Int)) rfl ?_ ?_
          · intro a wq hw hl
            have e33 : a.tmps[33]?.getD undef = .slice (some pb) lb.length bc := hl 33 (by first | (simp [Op.operands]; done) | simp [Op.operands, Call.operands]) (by rw [HS.out]; decide)
            clear hl
            go_simp
          -- slot 35
          refine wpFacts_lit (.int .i64 (db : Int)) rfl ?_ ?_
          · intro a wq hw hl
            have e34 : a.tmps[34]?.getD undef = .int .i64 (lb.length : Int) := hl 34 (by first | (simp [Op.operands]; done) | simp [Op.operands, Call.operands]) (by rw [HS.out]; decide)
            clear hl
            go_simp
          -- slot 36
          refine wpFacts_lit (.int .i64 (db : Int)) rfl ?_ ?_
          · intro a wq hw hl
            have e32 : a.tmps[32]?.getD undef = .int .i64 (j : Int) := hl 32 (by first | (simp [Op.operands]; done) | simp [Op.operands, Call.operands]) (by rw [HS.out]; decide)
            have e35 : a.tmps[35]?.getD undef = .int .i64 (db : Int) := hl 35 (by first | (simp [Op.operands]; done) | simp [Op.operands, Call.operands]) (by rw [HS.out]; decide)
            clear hl
            go_simp
          -- slot 37
          refine wpFacts_lit (.pointer (some (pb.add db))) rfl ?_ ?_
          · intro a wq hw hl
            have e31 : a.tmps[31]?.getD undef = .slice (some pb) lb.length bc := hl 31 (by first | (simp [Op.operands]; done) | simp [Op.operands, Call.operands]) (by rw [HS.out]; decide)
            have e36 : a.tmps[36]?.getD undef = .int .i64 (db : Int) := hl 36 (by first | (simp [Op.operands]; done) | simp [Op.operands, Call.operands]) (by rw [HS.out]; decide)
            clear hl
            go_simp
          -- slot 38
          refine wpFacts_lit (.int .i64 y) rfl ?_ ?_
          · intro a wq hw hl
            have e37 : a.tmps[37]?.getD undef = .pointer (some (pb.add db)) := hl 37 (by first | (simp [Op.operands]; done) | simp [Op.operands, Call.operands]) (by rw [HS.out]; decide)
            have c5 := cell_gb cb (gb_trans HGW.out hw (.inl rfl))
            clear hl
            go_simp
          -- slot 39
          refine wpFacts_step (fun vq _ => vq = .tuple #[.int .i64 0, .bool false]) rfl (Lit.up _) ?_ ?_
          · intro a wq hw hl
            have e22 : a.tmps[22]?.getD undef = .func (.func 145) #[] #[.pointer (some ⟨g, 0, none⟩)] := hl 22 (by first | (simp [Op.operands]; done) | simp [Op.operands, Call.operands]) (by rw [HS.out]; decide)
            have e30 : a.tmps[30]?.getD undef = .int .i64 x := hl 30 (by first | (simp [Op.operands]; done) | simp [Op.operands, Call.operands]) (by rw [HS.out]; decide)
            have e38 : a.tmps[38]?.getD undef = .int .i64 y := hl 38 (by first | (simp [Op.operands]; done) | simp [Op.operands, Call.operands]) (by rw [HS.out]; decide)
            clear hl
            go_simp
            exact gUpon_lit (CC.out wq (gb_trans HGW.out hw (.inl rfl)))
          -- slot 21
          refine wpFacts_lit (.tuple #[.int .i64 0, .bool false]) rfl ?_ ?_
          · intro a wq hw hl
            have e39 : a.tmps[39]?.getD undef = .tuple #[.int .i64 0, .bool false] := hl 39 (by first | (simp [Op.operands]; done) | simp [Op.operands, Call.operands]) (by rw [HS.out]; decide)
            clear hl
            go_simp
          -- slot 40
          refine wpFacts_lit (.int .i64 0) rfl ?_ ?_
          · intro a wq hw hl
            have e21 : a.tmps[21]?.getD undef = .tuple #[.int .i64 0, .bool false] := hl 21 (by first | (simp [Op.operands]; done) | simp [Op.operands, Call.operands]) (by rw [HS.out]; decide)
            clear hl
            go_simp
          -- slot 41
          refine wpFacts_lit (.bool false) rfl ?_ ?_
          · intro a wq hw hl
            have e21 : a.tmps[21]?.getD undef = .tuple #[.int .i64 0, .bool false] := hl 21 (by first | (simp [Op.operands]; done) | simp [Op.operands, Call.operands]) (by rw [HS.out]; decide)
            clear hl
            go_simp
          -- slot 12
          refine wpFacts_lit (.int .i64 0) rfl ?_ ?_
          · intro a wq hw hl
            have e40 : a.tmps[40]?.getD undef = .int .i64 0 := hl 40 (by first | (simp [Op.operands]; done) | simp [Op.operands, Call.operands]) (by rw [HS.out]; decide)
            clear hl
            go_simp
          refine HL.out _ (fun a' w5 hc => ?_)
          have e12 : a'.eval (.tmp 12) = .int .i64 0 := hc.fact 12 (by rw [HS.out]; decide)
          have e41 : a'.eval (.tmp 41) = .bool false := hc.fact 41 (by rw [HS.out]; decide)
          have hgw5 := gb_trans HGW.out hc.grown (.inl rfl)
          have hfr := hc.frame [22, 23, 24, 25, 26, 27, 28, 29, 30, 31, 32, 33, 34, 35, 36, 37, 38, 39, 21, 40, 41, 12, 13] (by rw [HO.out]; kernel_rfl)
          rw [hfr]
          clear hfr hc
          rw [HA.out]
          clear HA HO HL HW HS HGW A1 A2 A3 A11
          clear A O W L
          simp only [List.drop_succ_cons, List.drop_zero, List.foldl_cons, List.foldl_nil, Act.put, List.setIfInBounds_toArray, List.set_cons_succ, List.set_cons_zero]
          rw [e12, e41]
          generalize a'.eval (.tmp 22) = x22
          generalize a'.eval (.tmp 23) = x23
          generalize a'.eval (.tmp 24) = x24
          generalize a'.eval (.tmp 25) = x25
          generalize a'.eval (.tmp 26) = x26
          generalize a'.eval (.tmp 27) = x27
          generalize a'.eval (.tmp 28) = x28
          generalize a'.eval (.tmp 29) = x29
          generalize a'.eval (.tmp 30) = x30
          generalize a'.eval (.tmp 31) = x31
          generalize a'.eval (.tmp 32) = x32
          generalize a'.eval (.tmp 33) = x33
          generalize a'.eval (.tmp 34) = x34
          generalize a'.eval (.tmp 35) = x35
          generalize a'.eval (.tmp 36) = x36
          generalize a'.eval (.tmp 37) = x37
          generalize a'.eval (.tmp 38) = x38
          generalize a'.eval (.tmp 39) = x39
          generalize a'.eval (.tmp 21) = x21
          generalize a'.eval (.tmp 40) = x40
          generalize a'.eval (.tmp 13) = x13
          clear e12 e41
          clear a'
          have HG5 := hide (gb_trans HGR.out hgw5 (.inl rfl))
          clear hgw5
          go_wp2_with fail
          exact bodyPost_ret (v := .tuple #[.slice none 0 0, .bool false]) (by simp [results, Tryz.results118, go_sem]) rfl ⟨HG5.out, by rw [HNO.out]⟩
        · clear hMA hMB HFX HFY
          go_wp2_with fail
          refine wp_region_facts' 22 (by kernel_rfl) (by kernel_rfl) ?_
          intro A O W L HA HO HW HL
          simp only [List.take_succ_cons, List.take_zero]
          have HS := hide (show A.tmps.size = 50 by rw [HA.out]; rfl)
          have HGW := hide (show wr.grownBy W none by rw [HW.out]; exact gb_drew (gb_refl wr none))
          have A1 := hide (show A.eval (.tmp 1) = .slice (some pa) la.length ac by rw [HA.out]; rfl)
          have A2 := hide (show A.eval (.tmp 2) = .slice (some pb) lb.length bc by rw [HA.out]; rfl)
          have A3 := hide (show A.eval (.tmp 3) = .func (.func 145) #[] #[.pointer (some ⟨g, 0, none⟩)] by rw [HA.out]; rfl)
          have A11 := hide (show A.eval (.tmp 11) = .int .i64 (j : Int) by rw [HA.out]; rfl)
          -- slot 22
          refine wpFacts_lit (.func (.func 145) #[] #[.pointer (some ⟨g, 0, none⟩)]) rfl ?_ ?_
          · intro a wq hw hl
            have e3 : a.tmps[3]?.getD undef = .func (.func 145) #[] #[.pointer (some ⟨g, 0, none⟩)] := (hl 3 (by first | (simp [Op.operands]; done) | simp [Op.operands, Call.operands]) (by rw [HS.out]; decide)).trans A3.out
            clear hl
            go_simp
          -- slot 23
          refine wpFacts_lit (.slice (some pa) la.length ac) rfl ?_ ?_
          · intro a wq hw hl
            have e1 : a.tmps[1]?.getD undef = .slice (some pa) la.length ac := (hl 1 (by first | (simp [Op.operands]; done) | simp [Op.operands, Call.operands]) (by rw [HS.out]; decide)).trans A1.out
            clear hl
            go_simp
          -- slot 24
          refine wpFacts_lit (.int .i64 (j : Int)) rfl ?_ ?_
          · intro a wq hw hl
            have e11 : a.tmps[11]?.getD undef = .int .i64 (j : Int) := (hl 11 (by first | (simp [Op.operands]; done) | simp [Op.operands, Call.operands]) (by rw [HS.out]; decide)).trans A11.out
            clear hl
            go_simp
          -- slot 25
          refine wpFacts_lit (.slice (some pa) la.length ac) rfl ?_ ?_
          · intro a wq hw hl
            have e1 : a.tmps[1]?.getD undef = .slice (some pa) la.length ac := (hl 1 (by first | (simp [Op.operands]; done) | simp [Op.operands, Call.operands]) (by rw [HS.out]; decide)).trans A1.out
            clear hl
            go_simp
          -- slot 26
          refine wpFacts_lit (.int .i64 (la.length : Int)) rfl ?_ ?_
          · intro a wq hw hl
            have e25 : a.tmps[25]?.getD undef = .slice (some pa) la.length ac := hl 25 (by first | (simp [Op.operands]; done) | simp [Op.operands, Call.operands]) (by rw [HS.out]; decide)
            clear hl
            go_simp
          -- slot 27
          refine wpFacts_lit (.int .i64 (da : Int)) rfl ?_ ?_
          · intro a wq hw hl
            have e26 : a.tmps[26]?.getD undef = .int .i64 (la.length : Int) := hl 26 (by first | (simp [Op.operands]; done) | simp [Op.operands, Call.operands]) (by rw [HS.out]; decide)
            clear hl
            go_simp
          -- slot 28
          refine wpFacts_lit (.int .i64 (da : Int)) rfl ?_ ?_
          · intro a wq hw hl
            have e24 : a.tmps[24]?.getD undef = .int .i64 (j : Int) := hl 24 (by first | (simp [Op.operands]; done) | simp [Op.operands, Call.operands]) (by rw [HS.out]; decide)
            have e27 : a.tmps[27]?.getD undef = .int .i64 (da : Int) := hl 27 (by first | (simp [Op.operands]; done) | simp [Op.operands, Call.operands]) (by rw [HS.out]; decide)
            clear hl
            go_simp
          -- slot 29
          refine wpFacts_lit (.pointer (some (pa.add da))) rfl ?_ ?_
          · intro a wq hw hl
            have e23 : a.tmps[23]?.getD undef = .slice (some pa) la.length ac := hl 23 (by first | (simp [Op.operands]; done) | simp [Op.operands, Call.operands]) (by rw [HS.out]; decide)
            have e28 : a.tmps[28]?.getD undef = .int .i64 (da : Int) := hl 28 (by first | (simp [Op.operands]; done) | simp [Op.operands, Call.operands]) (by rw [HS.out]; decide)
            clear hl
            go_simp
          -- slot 30
          refine wpFacts_lit (.int .i64 x) rfl ?_ ?_
          · intro a wq hw hl
            have e29 : a.tmps[29]?.getD undef = .pointer (some (pa.add da)) := hl 29 (by first | (simp [Op.operands]; done) | simp [Op.operands, Call.operands]) (by rw [HS.out]; decide)
            have c5 := cell_gb ca (gb_trans HGW.out hw (.inl rfl))
            clear hl
            go_simp
          -- slot 31
          refine wpFacts_lit (.slice (some pb) lb.length bc) rfl ?_ ?_
          · intro a wq hw hl
            have e2 : a.tmps[2]?.getD undef = .slice (some pb) lb.length bc := (hl 2 (by first | (simp [Op.operands]; done) | simp [Op.operands, Call.operands]) (by rw [HS.out]; decide)).trans A2.out
            clear hl
            go_simp
          -- slot 32
          refine wpFacts_lit (.int .i64 (j : Int)) rfl ?_ ?_
          · intro a wq hw hl
            have e11 : a.tmps[11]?.getD undef = .int .i64 (j : Int) := (hl 11 (by first | (simp [Op.operands]; done) | simp [Op.operands, Call.operands]) (by rw [HS.out]; decide)).trans A11.out
            clear hl
            go_simp
          -- slot 33
          refine wpFacts_lit (.slice (some pb) lb.length bc) rfl ?_ ?_
          · intro a wq hw hl
            have e2 : a.tmps[2]?.getD undef = .slice (some pb) lb.length bc := (hl 2 (by first | (simp [Op.operands]; done) | simp [Op.operands, Call.operands]) (by rw [HS.out]; decide)).trans A2.out
            clear hl
            go_simp
          -- slot 34
          refine wpFacts_lit (.int .i64 (lb.length : Int)) rfl ?_ ?_
          · intro a wq hw hl
            have e33 : a.tmps[33]?.getD undef = .slice (some pb) lb.length bc := hl 33 (by first | (simp [Op.operands]; done) | simp [Op.operands, Call.operands]) (by rw [HS.out]; decide)
            clear hl
            go_simp
          -- slot 35
          refine wpFacts_lit (.int .i64 (db : Int)) rfl ?_ ?_
          · intro a wq hw hl
            have e34 : a.tmps[34]?.getD undef = .int .i64 (lb.length : Int) := hl 34 (by first | (simp [Op.operands]; done) | simp [Op.operands, Call.operands]) (by rw [HS.out]; decide)
            clear hl
            go_simp
          -- slot 36
          refine wpFacts_lit (.int .i64 (j : Int)) rfl ?_ ?_
          · intro a wq hw hl
            have e32 : a.tmps[32]?.getD undef = .int .i64 (j : Int) := hl 32 (by first | (simp [Op.operands]; done) | simp [Op.operands, Call.operands]) (by rw [HS.out]; decide)
            have e35 : a.tmps[35]?.getD undef = .int .i64 (db : Int) := hl 35 (by first | (simp [Op.operands]; done) | simp [Op.operands, Call.operands]) (by rw [HS.out]; decide)
            clear hl
            go_simp
          -- slot 37
          refine wpFacts_lit (.pointer (some (pb.add j))) rfl ?_ ?_
          · intro a wq hw hl
            have e31 : a.tmps[31]?.getD undef = .slice (some pb) lb.length bc := hl 31 (by first | (simp [Op.operands]; done) | simp [Op.operands, Call.operands]) (by rw [HS.out]; decide)
            have e36 : a.tmps[36]?.getD undef = .int .i64 (j : Int) := hl 36 (by first | (simp [Op.operands]; done) | simp [Op.operands, Call.operands]) (by rw [HS.out]; decide)
            clear hl
            go_simp
          -- slot 38
          refine wpFacts_lit (.int .i64 y) rfl ?_ ?_
          · intro a wq hw hl
            have e37 : a.tmps[37]?.getD undef = .pointer (some (pb.add j)) := hl 37 (by first | (simp [Op.operands]; done) | simp [Op.operands, Call.operands]) (by rw [HS.out]; decide)
            have c5 := cell_gb cb (gb_trans HGW.out hw (.inl rfl))
            clear hl
            go_simp
          -- slot 39
          refine wpFacts_step (fun vq _ => vq = .tuple #[.int .i64 0, .bool false]) rfl (Lit.up _) ?_ ?_
          · intro a wq hw hl
            have e22 : a.tmps[22]?.getD undef = .func (.func 145) #[] #[.pointer (some ⟨g, 0, none⟩)] := hl 22 (by first | (simp [Op.operands]; done) | simp [Op.operands, Call.operands]) (by rw [HS.out]; decide)
            have e30 : a.tmps[30]?.getD undef = .int .i64 x := hl 30 (by first | (simp [Op.operands]; done) | simp [Op.operands, Call.operands]) (by rw [HS.out]; decide)
            have e38 : a.tmps[38]?.getD undef = .int .i64 y := hl 38 (by first | (simp [Op.operands]; done) | simp [Op.operands, Call.operands]) (by rw [HS.out]; decide)
            clear hl
            go_simp
            exact gUpon_lit (CC.out wq (gb_trans HGW.out hw (.inl rfl)))
          -- slot 21
          refine wpFacts_lit (.tuple #[.int .i64 0, .bool false]) rfl ?_ ?_
          · intro a wq hw hl
            have e39 : a.tmps[39]?.getD undef = .tuple #[.int .i64 0, .bool false] := hl 39 (by first | (simp [Op.operands]; done) | simp [Op.operands, Call.operands]) (by rw [HS.out]; decide)
            clear hl
            go_simp
          -- slot 40
          refine wpFacts_lit (.int .i64 0) rfl ?_ ?_
          · intro a wq hw hl
            have e21 : a.tmps[21]?.getD undef = .tuple #[.int .i64 0, .bool false] := hl 21 (by first | (simp [Op.operands]; done) | simp [Op.operands, Call.operands]) (by rw [HS.out]; decide)
            clear hl
            go_simp
          -- slot 41
          refine wpFacts_lit (.bool false) rfl ?_ ?_
          · intro a wq hw hl
            have e21 : a.tmps[21]?.getD undef = .tuple #[.int .i64 0, .bool false] := hl 21 (by first | (simp [Op.operands]; done) | simp [Op.operands, Call.operands]) (by rw [HS.out]; decide)
            clear hl
            go_simp
          -- slot 12
          refine wpFacts_lit (.int .i64 0) rfl ?_ ?_
          · intro a wq hw hl
            have e40 : a.tmps[40]?.getD undef = .int .i64 0 := hl 40 (by first | (simp [Op.operands]; done) | simp [Op.operands, Call.operands]) (by rw [HS.out]; decide)
            clear hl
            go_simp
          refine HL.out _ (fun a' w5 hc => ?_)
          have e12 : a'.eval (.tmp 12) = .int .i64 0 := hc.fact 12 (by rw [HS.out]; decide)
          have e41 : a'.eval (.tmp 41) = .bool false := hc.fact 41 (by rw [HS.out]; decide)
          have hgw5 := gb_trans HGW.out hc.grown (.inl rfl)
          have hfr := hc.frame [22, 23, 24, 25, 26, 27, 28, 29, 30, 31, 32, 33, 34, 35, 36, 37, 38, 39, 21, 40, 41, 12, 13] (by rw [HO.out]; kernel_rfl)
          rw [hfr]
          clear hfr hc
          rw [HA.out]
          clear HA HO HL HW HS HGW A1 A2 A3 A11
          clear A O W L
          simp only [List.drop_succ_cons, List.drop_zero, List.foldl_cons, List.foldl_nil, Act.put, List.setIfInBounds_toArray, List.set_cons_succ, List.set_cons_zero]
          rw [e12, e41]
          generalize a'.eval (.tmp 22) = x22
          generalize a'.eval (.tmp 23) = x23
          generalize a'.eval (.tmp 24) = x24
          generalize a'.eval (.tmp 25) = x25
          generalize a'.eval (.tmp 26) = x26
          generalize a'.eval (.tmp 27) = x27
          generalize a'.eval (.tmp 28) = x28
          generalize a'.eval (.tmp 29) = x29
          generalize a'.eval (.tmp 30) = x30
          generalize a'.eval (.tmp 31) = x31
          generalize a'.eval (.tmp 32) = x32
          generalize a'.eval (.tmp 33) = x33
          generalize a'.eval (.tmp 34) = x34
          generalize a'.eval (.tmp 35) = x35
          generalize a'.eval (.tmp 36) = x36
          generalize a'.eval (.tmp 37) = x37
          generalize a'.eval (.tmp 38) = x38
          generalize a'.eval (.tmp 39) = x39
          generalize a'.eval (.tmp 21) = x21
          generalize a'.eval (.tmp 40) = x40
          generalize a'.eval (.tmp 13) = x13
          clear e12 e41
          clear a'
          have HG5 := hide (gb_trans HGR.out hgw5 (.inl rfl))
          clear hgw5
          go_wp2_with fail
          exact bodyPost_ret (v := .tuple #[.slice none 0 0, .bool false]) (by simp [results, Tryz.results118, go_sem]) rfl ⟨HG5.out, by rw [HNO.out]⟩
        · clear hMA hMB HFX HFY
          go_wp2_with fail
          refine wp_region_facts' 22 (by kernel_rfl) (by kernel_rfl) ?_
          intro A O W L HA HO HW HL
          simp only [List.take_succ_cons, List.take_zero]
          have HS := hide (show A.tmps.size = 50 by rw [HA.out]; rfl)
          have HGW := hide (show wr.grownBy W none by rw [HW.out]; exact gb_drew (gb_refl wr none))
          have A1 := hide (show A.eval (.tmp 1) = .slice (some pa) la.length ac by rw [HA.out]; rfl)
          have A2 := hide (show A.eval (.tmp 2) = .slice (some pb) lb.length bc by rw [HA.out]; rfl)
          have A3 := hide (show A.eval (.tmp 3) = .func (.func 145) #[] #[.pointer (some ⟨g, 0, none⟩)] by rw [HA.out]; rfl)
          have A11 := hide (show A.eval (.tmp 11) = .int .i64 (j : Int) by rw [HA.out]; rfl)
          -- slot 22
          refine wpFacts_lit (.func (.func 145) #[] #[.pointer (some ⟨g, 0, none⟩)]) rfl ?_ ?_
          · intro a wq hw hl
            have e3 : a.tmps[3]?.getD undef = .func (.func 145) #[] #[.pointer (some ⟨g, 0, none⟩)] := (hl 3 (by first | (simp [Op.operands]; done) | simp [Op.operands, Call.operands]) (by rw [HS.out]; decide)).trans A3.out
            clear hl
            go_simp
          -- slot 23
          refine wpFacts_lit (.slice (some pa) la.length ac) rfl ?_ ?_
          · intro a wq hw hl
            have e1 : a.tmps[1]?.getD undef = .slice (some pa) la.length ac := (hl 1 (by first | (simp [Op.operands]; done) | simp [Op.operands, Call.operands]) (by rw [HS.out]; decide)).trans A1.out
            clear hl
            go_simp
          -- slot 24
          refine wpFacts_lit (.int .i64 (j : Int)) rfl ?_ ?_
          · intro a wq hw hl
            have e11 : a.tmps[11]?.getD undef = .int .i64 (j : Int) := (hl 11 (by first | (simp [Op.operands]; done) | simp [Op.operands, Call.operands]) (by rw [HS.out]; decide)).trans A11.out
            clear hl
            go_simp
          -- slot 25
          refine wpFacts_lit (.slice (some pa) la.length ac) rfl ?_ ?_
          · intro a wq hw hl
            have e1 : a.tmps[1]?.getD undef = .slice (some pa) la.length ac := (hl 1 (by first | (simp [Op.operands]; done) | simp [Op.operands, Call.operands]) (by rw [HS.out]; decide)).trans A1.out
            clear hl
            go_simp
          -- slot 26
          refine wpFacts_lit (.int .i64 (la.length : Int)) rfl ?_ ?_
          · intro a wq hw hl
            have e25 : a.tmps[25]?.getD undef = .slice (some pa) la.length ac := hl 25 (by first | (simp [Op.operands]; done) | simp [Op.operands, Call.operands]) (by rw [HS.out]; decide)
            clear hl
            go_simp
          -- slot 27
          refine wpFacts_lit (.int .i64 (da : Int)) rfl ?_ ?_
          · intro a wq hw hl
            have e26 : a.tmps[26]?.getD undef = .int .i64 (la.length : Int) := hl 26 (by first | (simp [Op.operands]; done) | simp [Op.operands, Call.operands]) (by rw [HS.out]; decide)
            clear hl
            go_simp
          -- slot 28
          refine wpFacts_lit (.int .i64 (da : Int)) rfl ?_ ?_
          · intro a wq hw hl
            have e24 : a.tmps[24]?.getD undef = .int .i64 (j : Int) := hl 24 (by first | (simp [Op.operands]; done) | simp [Op.operands, Call.operands]) (by rw [HS.out]; decide)
            have e27 : a.tmps[27]?.getD undef = .int .i64 (da : Int) := hl 27 (by first | (simp [Op.operands]; done) | simp [Op.operands, Call.operands]) (by rw [HS.out]; decide)
            clear hl
            go_simp
          -- slot 29
          refine wpFacts_lit (.pointer (some (pa.add da))) rfl ?_ ?_
          · intro a wq hw hl
            have e23 : a.tmps[23]?.getD undef = .slice (some pa) la.length ac := hl 23 (by first | (simp [Op.operands]; done) | simp [Op.operands, Call.operands]) (by rw [HS.out]; decide)
            have e28 : a.tmps[28]?.getD undef = .int .i64 (da : Int) := hl 28 (by first | (simp [Op.operands]; done) | simp [Op.operands, Call.operands]) (by rw [HS.out]; decide)
            clear hl
            go_simp
          -- slot 30
          refine wpFacts_lit (.int .i64 x) rfl ?_ ?_
          · intro a wq hw hl
            have e29 : a.tmps[29]?.getD undef = .pointer (some (pa.add da)) := hl 29 (by first | (simp [Op.operands]; done) | simp [Op.operands, Call.operands]) (by rw [HS.out]; decide)
            have c5 := cell_gb ca (gb_trans HGW.out hw (.inl rfl))
            clear hl
            go_simp
          -- slot 31
          refine wpFacts_lit (.slice (some pb) lb.length bc) rfl ?_ ?_
          · intro a wq hw hl
            have e2 : a.tmps[2]?.getD undef = .slice (some pb) lb.length bc := (hl 2 (by first | (simp [Op.operands]; done) | simp [Op.operands, Call.operands]) (by rw [HS.out]; decide)).trans A2.out
            clear hl
            go_simp
          -- slot 32
          refine wpFacts_lit (.int .i64 (j : Int)) rfl ?_ ?_
          · intro a wq hw hl
            have e11 : a.tmps[11]?.getD undef = .int .i64 (j : Int) := (hl 11 (by first | (simp [Op.operands]; done) | simp [Op.operands, Call.operands]) (by rw [HS.out]; decide)).trans A11.out
            clear hl
            go_simp
          -- slot 33
          refine wpFacts_lit (.slice (some pb) lb.length bc) rfl ?_ ?_
          · intro a wq hw hl
            have e2 : a.tmps[2]?.getD undef = .slice (some pb) lb.length bc := (hl 2 (by first | (simp [Op.operands]; done) | simp [Op.operands, Call.operands]) (by rw [HS.out]; decide)).trans A2.out
            clear hl
            go_simp
          -- slot 34
          refine wpFacts_lit (.int .i64 (lb.length : Int)) rfl ?_ ?_
          · intro a wq hw hl
            have e33 : a.tmps[33]?.getD undef = .slice (some pb) lb.length bc := hl 33 (by first | (simp [Op.operands]; done) | simp [Op.operands, Call.operands]) (by rw [HS.out]; decide)
            clear hl
            go_simp
          -- slot 35
          refine wpFacts_lit (.int .i64 (db : Int)) rfl ?_ ?_
          · intro a wq hw hl
            have e34 : a.tmps[34]?.getD undef = .int .i64 (lb.length : Int) := hl 34 (by first | (simp [Op.operands]; done) | simp [Op.operands, Call.operands]) (by rw [HS.out]; decide)
            clear hl
            go_simp
          -- slot 36
          refine wpFacts_lit (.int .i64 (db : Int)) rfl ?_ ?_
          · intro a wq hw hl
            have e32 : a.tmps[32]?.getD undef = .int .i64 (j : Int) := hl 32 (by first | (simp [Op.operands]; done) | simp [Op.operands, Call.operands]) (by rw [HS.out]; decide)
            have e35 : a.tmps[35]?.getD undef = .int .i64 (db : Int) := hl 35 (by first | (simp [Op.operands]; done) | simp [Op.operands, Call.operands]) (by rw [HS.out]; decide)
            clear hl
            go_simp
          -- slot 37
          refine wpFacts_lit (.pointer (some (pb.add db))) rfl ?_ ?_
          · intro a wq hw hl
            have e31 : a.tmps[31]?.getD undef = .slice (some pb) lb.length bc := hl 31 (by first | (simp [Op.operands]; done) | simp [Op.operands, Call.operands]) (by rw [HS.out]; decide)
            have e36 : a.tmps[36]?.getD undef = .int .i64 (db : Int) := hl 36 (by first | (simp [Op.operands]; done) | simp [Op.operands, Call.operands]) (by rw [HS.out]; decide)
            clear hl
            go_simp
          -- slot 38
          refine wpFacts_lit (.int .i64 y) rfl ?_ ?_
          · intro a wq hw hl
            have e37 : a.tmps[37]?.getD undef = .pointer (some (pb.add db)) := hl 37 (by first | (simp [Op.operands]; done) | simp [Op.operands, Call.operands]) (by rw [HS.out]; decide)
            have c5 := cell_gb cb (gb_trans HGW.out hw (.inl rfl))
            clear hl
            go_simp
          -- slot 39
          refine wpFacts_step (fun vq _ => vq = .tuple #[.int .i64 0, .bool false]) rfl (Lit.up _) ?_ ?_
          · intro a wq hw hl
            have e22 : a.tmps[22]?.getD undef = .func (.func 145) #[] #[.pointer (some ⟨g, 0, none⟩)] := hl 22 (by first | (simp [Op.operands]; done) | simp [Op.operands, Call.operands]) (by rw [HS.out]; decide)
            have e30 : a.tmps[30]?.getD undef = .int .i64 x := hl 30 (by first | (simp [Op.operands]; done) | simp [Op.operands, Call.operands]) (by rw [HS.out]; decide)
            have e38 : a.tmps[38]?.getD undef = .int .i64 y := hl 38 (by first | (simp [Op.operands]; done) | simp [Op.operands, Call.operands]) (by rw [HS.out]; decide)
            clear hl
            go_simp
            exact gUpon_lit (CC.out wq (gb_trans HGW.out hw (.inl rfl)))
          -- slot 21
          refine wpFacts_lit (.tuple #[.int .i64 0, .bool false]) rfl ?_ ?_
          · intro a wq hw hl
            have e39 : a.tmps[39]?.getD undef = .tuple #[.int .i64 0, .bool false] := hl 39 (by first | (simp [Op.operands]; done) | simp [Op.operands, Call.operands]) (by rw [HS.out]; decide)
            clear hl
            go_simp
          -- slot 40
          refine wpFacts_lit (.int .i64 0) rfl ?_ ?_
          · intro a wq hw hl
            have e21 : a.tmps[21]?.getD undef = .tuple #[.int .i64 0, .bool false] := hl 21 (by first | (simp [Op.operands]; done) | simp [Op.operands, Call.operands]) (by rw [HS.out]; decide)
            clear hl
            go_simp
          -- slot 41
          refine wpFacts_lit (.bool false) rfl ?_ ?_
          · intro a wq hw hl
            have e21 : a.tmps[21]?.getD undef = .tuple #[.int .i64 0, .bool false] := hl 21 (by first | (simp [Op.operands]; done) | simp [Op.operands, Call.operands]) (by rw [HS.out]; decide)
            clear hl
            go_simp
          -- slot 12
          refine wpFacts_lit (.int .i64 0) rfl ?_ ?_
          · intro a wq hw hl
            have e40 : a.tmps[40]?.getD undef = .int .i64 0 := hl 40 (by first | (simp [Op.operands]; done) | simp [Op.operands, Call.operands]) (by rw [HS.out]; decide)
            clear hl
            go_simp
          refine HL.out _ (fun a' w5 hc => ?_)
          have e12 : a'.eval (.tmp 12) = .int .i64 0 := hc.fact 12 (by rw [HS.out]; decide)
          have e41 : a'.eval (.tmp 41) = .bool false := hc.fact 41 (by rw [HS.out]; decide)
          have hgw5 := gb_trans HGW.out hc.grown (.inl rfl)
          have hfr := hc.frame [22, 23, 24, 25, 26, 27, 28, 29, 30, 31, 32, 33, 34, 35, 36, 37, 38, 39, 21, 40, 41, 12, 13] (by rw [HO.out]; kernel_rfl)
          rw [hfr]
          clear hfr hc
          rw [HA.out]
          clear HA HO HL HW HS HGW A1 A2 A3 A11
          clear A O W L
          simp only [List.drop_succ_cons, List.drop_zero, List.foldl_cons, List.foldl_nil, Act.put, List.setIfInBounds_toArray, List.set_cons_succ, List.set_cons_zero]
          rw [e12, e41]
          generalize a'.eval (.tmp 22) = x22
          generalize a'.eval (.tmp 23) = x23
          generalize a'.eval (.tmp 24) = x24
          generalize a'.eval (.tmp 25) = x25
          generalize a'.eval (.tmp 26) = x26
          generalize a'.eval (.tmp 27) = x27
          generalize a'.eval (.tmp 28) = x28
          generalize a'.eval (.tmp 29) = x29
          generalize a'.eval (.tmp 30) = x30
          generalize a'.eval (.tmp 31) = x31
          generalize a'.eval (.tmp 32) = x32
          generalize a'.eval (.tmp 33) = x33
          generalize a'.eval (.tmp 34) = x34
          generalize a'.eval (.tmp 35) = x35
          generalize a'.eval (.tmp 36) = x36
          generalize a'.eval (.tmp 37) = x37
          generalize a'.eval (.tmp 38) = x38
          generalize a'.eval (.tmp 39) = x39
          generalize a'.eval (.tmp 21) = x21
          generalize a'.eval (.tmp 40) = x40
          generalize a'.eval (.tmp 13) = x13
          clear e12 e41
          clear a'
          have HG5 := hide (gb_trans HGR.out hgw5 (.inl rfl))
          clear hgw5
          go_wp2_with fail
          exact bodyPost_ret (v := .tuple #[.slice none 0 0, .bool false]) (by simp [results, Tryz.results118, go_sem]) rfl ⟨HG5.out, by rw [HNO.out]⟩
      | some n =>
        have HNX := hide (eachO_step j c xs n HLT.out HX.out (by rw [HFX.out, HFY.out]; exact hf))
        have C := hide (fun w2 (k : w.grownBy w2 none) => (hf ▸ (HS.out.gb k) w2 (fun i _ _ => .inr rfl) x y HXI.out HYI.out : Calls Tryz.prog 145 #[.int .i64 x, .int .i64 y, .pointer (some ⟨g, 0, none⟩)] w2 (NumR (some n) w2)))
        clear hf
        have CC := hide (fun w2 (k : wr.grownBy w2 none) => (C.out w2 (gb_trans HGR.out k (.inl rfl))).mono fun _ _ h => And.intro h.2 h.1)
        clear C
        rcases hMA.out with ⟨ma, ⟨na, oa, rfl⟩ | ⟨na, oa, rfl⟩⟩ <;> rcases hMB.out with ⟨mb, ⟨nb, ob, rfl⟩ | ⟨nb, ob, rfl⟩⟩
        · clear hMA hMB HFX HFY
          go_wp2_with fail
          refine wp_region_facts' 22 (by kernel_rfl) (by kernel_rfl) ?_
          intro A O W L HA HO HW HL
          simp only [List.take_succ_cons, List.take_zero]
          have HS := hide (show A.tmps.size = 50 by rw [HA.out]; rfl)
          have HGW := hide (show wr.grownBy W none by rw [HW.out]; exact gb_drew (gb_refl wr none))
          have A1 := hide (show A.eval (.tmp 1) = .slice (some pa) la.length ac by rw [HA.out]; rfl)
          have A2 := hide (show A.eval (.tmp 2) = .slice (some pb) lb.length bc by rw [HA.out]; rfl)
          have A3 := hide (show A.eval (.tmp 3) = .func (.func 145) #[] #[.pointer (some ⟨g, 0, none⟩)] by rw [HA.out]; rfl)
          have A11 := hide (show A.eval (.tmp 11) = .int .i64 (j : Int) by rw [HA.out]; rfl)
          -- slot 22
          refine wpFacts_lit (.func (.func 145) #[] #[.pointer (some ⟨g, 0, none⟩)]) rfl ?_ ?_
          · intro a wq hw hl
            have e3 : a.tmps[3]?.getD undef = .func (.func 145) #[] #[.pointer (some ⟨g, 0, none⟩)] := (hl 3 (by first | (simp [Op.operands]; done) | simp [Op.operands, Call.operands]) (by rw [HS.out]; decide)).trans A3.out
            clear hl
            go_simp
          -- slot 23
          refine wpFacts_lit (.slice (some pa) la.length ac) rfl ?_ ?_
          · intro a wq hw hl
            have e1 : a.tmps[1]?.getD undef = .slice (some pa) la.length ac := (hl 1 (by first | (simp [Op.operands]; done) | simp [Op.operands, Call.operands]) (by rw [HS.out]; decide)).trans A1.out
            clear hl
            go_simp
          -- slot 24
          refine wpFacts_lit (.int .i64 (j : Int)) rfl ?_ ?_
          · intro a wq hw hl
            have e11 : a.tmps[11]?.getD undef = .int .i64 (j : Int) := (hl 11 (by first | (simp [Op.operands]; done) | simp [Op.operands, Call.operands]) (by rw [HS.out]; decide)).trans A11.out
            clear hl
            go_simp
          -- slot 25
          refine wpFacts_lit (.slice (some pa) la.length ac) rfl ?_ ?_
          · intro a wq hw hl
            have e1 : a.tmps[1]?.getD undef = .slice (some pa) la.length ac := (hl 1 (by first | (simp [Op.operands]; done) | simp [Op.operands, Call.operands]) (by rw [HS.out]; decide)).trans A1.out
            clear hl
            go_simp
          -- slot 26
          refine wpFacts_lit (.int .i64 (la.length : Int)) rfl ?_ ?_
          · intro a wq hw hl
            have e25 : a.tmps[25]?.getD undef = .slice (some pa) la.length ac := hl 25 (by first | (simp [Op.operands]; done) | simp [Op.operands, Call.operands]) (by rw [HS.out]; decide)
            clear hl
            go_simp
          -- slot 27
          refine wpFacts_lit (.int .i64 (da : Int)) rfl ?_ ?_
          · intro a wq hw hl
            have e26 : a.tmps[26]?.getD undef = .int .i64 (la.length : Int) := hl 26 (by first | (simp [Op.operands]; done) | simp [Op.operands, Call.operands]) (by rw [HS.out]; decide)
            clear hl
            go_simp
          -- slot 28
          refine wpFacts_lit (.int .i64 (j : Int)) rfl ?_ ?_
          · intro a wq hw hl
            have e24 : a.tmps[24]?.getD undef = .int .i64 (j : Int) := hl 24 (by first | (simp [Op.operands]; done) | simp [Op.operands, Call.operands]) (by rw [HS.out]; decide)
            have e27 : a.tmps[27]?.getD undef = .int .i64 (da : Int) := hl 27 (by first | (simp [Op.operands]; done) | simp [Op.operands, Call.operands]) (by rw [HS.out]; decide)
            clear hl
            go_simp
          -- slot 29
          refine wpFacts_lit (.pointer (some (pa.add j))) rfl ?_ ?_
          · intro a wq hw hl
            have e23 : a.tmps[23]?.getD undef = .slice (some pa) la.length ac := hl 23 (by first | (simp [Op.operands]; done) | simp [Op.operands, Call.operands]) (by rw [HS.out]; decide)
            have e28 : a.tmps[28]?.getD undef = .int .i64 (j : Int) := hl 28 (by first | (simp [Op.operands]; done) | simp [Op.operands, Call.operands]) (by rw [HS.out]; decide)
            clear hl
            go_simp
          -- slot 30
          refine wpFacts_lit (.int .i64 x) rfl ?_ ?_
          · intro a wq hw hl
            have e29 : a.tmps[29]?.getD undef = .pointer (some (pa.add j)) := hl 29 (by first | (simp [Op.operands]; done) | simp [Op.operands, Call.operands]) (by rw [HS.out]; decide)
            have c5 := cell_gb ca (gb_trans HGW.out hw (.inl rfl))
            clear hl
            go_simp
          -- slot 31
          refine wpFacts_lit (.slice (some pb) lb.length bc) rfl ?_ ?_
          · intro a wq hw hl
            have e2 : a.tmps[2]?.getD undef = .slice (some pb) lb.length bc := (hl 2 (by first | (simp [Op.operands]; done) | simp [Op.operands, Call.operands]) (by rw [HS.out]; decide)).trans A2.out
            clear hl
            go_simp
          -- slot 32
          refine wpFacts_lit (.int .i64 (j : Int)) rfl ?_ ?_
          · intro a wq hw hl
            have e11 : a.tmps[11]?.getD undef = .int .i64 (j : Int) := (hl 11 (by first | (simp [Op.operands]; done) | simp [Op.operands, Call.operands]) (by rw [HS.out]; decide)).trans A11.out
            clear hl
            go_simp
          -- slot 33
          refine wpFacts_lit (.slice (some pb) lb.length bc) rfl ?_ ?_
          · intro a wq hw hl
            have e2 : a.tmps[2]?.getD undef = .slice (some pb) lb.length bc := (hl 2 (by first | (simp [Op.operands]; done) | simp [Op.operands, Call.operands]) (by rw [HS.out]; decide)).trans A2.out
            clear hl
            go_simp
          -- slot 34
          refine wpFacts_lit (.int .i64 (lb.length : Int)) rfl ?_ ?_
          · intro a wq hw hl
            have e33 : a.tmps[33]?.getD undef = .slice (some pb) lb.length bc := hl 33 (by first | (simp [Op.operands]; done) | simp [Op.operands, Call.operands]) (by rw [HS.out]; decide)
            clear hl
            go_simp
          -- slot 35
          refine wpFacts_lit (.int .i64 (db : Int)) rfl ?_ ?_
          · intro a wq hw hl
            have e34 : a.tmps[34]?.getD undef = .int .i64 (lb.length : Int) := hl 34 (by first | (simp [Op.operands]; done) | simp [Op.operands, Call.operands]) (by rw [HS.out]; decide)
            clear hl
            go_simp
          -- slot 36
          refine wpFacts_lit (.int .i64 (j : Int)) rfl ?_ ?_
          · intro a wq hw hl
            have e32 : a.tmps[32]?.getD undef = .int .i64 (j : Int) := hl 32 (by first | (simp [Op.operands]; done) | simp [Op.operands, Call.operands]) (by rw [HS.out]; decide)
            have e35 : a.tmps[35]?.getD undef = .int .i64 (db : Int) := hl 35 (by first | (simp [Op.operands]; done) | simp [Op.operands, Call.operands]) (by rw [HS.out]; decide)
            clear hl
            go_simp
          -- slot 37
          refine wpFacts_lit (.pointer (some (pb.add j))) rfl ?_ ?_
          · intro a wq hw hl
            have e31 : a.tmps[31]?.getD undef = .slice (some pb) lb.length bc := hl 31 (by first | (simp [Op.operands]; done) | simp [Op.operands, Call.operands]) (by rw [HS.out]; decide)
            have e36 : a.tmps[36]?.getD undef = .int .i64 (j : Int) := hl 36 (by first | (simp [Op.operands]; done) | simp [Op.operands, Call.operands]) (by rw [HS.out]; decide)
            clear hl
            go_simp
          -- slot 38
          refine wpFacts_lit (.int .i64 y) rfl ?_ ?_
          · intro a wq hw hl
            have e37 : a.tmps[37]?.getD undef = .pointer (some (pb.add j)) := hl 37 (by first | (simp [Op.operands]; done) | simp [Op.operands, Call.operands]) (by rw [HS.out]; decide)
            have c5 := cell_gb cb (gb_trans HGW.out hw (.inl rfl))
            clear hl
            go_simp
          -- slot 39
          refine wpFacts_step (fun vq _ => vq = .tuple #[.int .i64 n, .bool true]) rfl (Lit.up _) ?_ ?_
          · intro a wq hw hl
            have e22 : a.tmps[22]?.getD undef = .func (.func 145) #[] #[.pointer (some ⟨g, 0, none⟩)] := hl 22 (by first | (simp [Op.operands]; done) | simp [Op.operands, Call.operands]) (by rw [HS.out]; decide)
            have e30 : a.tmps[30]?.getD undef = .int .i64 x := hl 30 (by first | (simp [Op.operands]; done) | simp [Op.operands, Call.operands]) (by rw [HS.out]; decide)
            have e38 : a.tmps[38]?.getD undef = .int .i64 y := hl 38 (by first | (simp [Op.operands]; done) | simp [Op.operands, Call.operands]) (by rw [HS.out]; decide)
            clear hl
            go_simp
            exact gUpon_lit (CC.out wq (gb_trans HGW.out hw (.inl rfl)))
          -- slot 21
          refine wpFacts_lit (.tuple #[.int .i64 n, .bool true]) rfl ?_ ?_
          · intro a wq hw hl
            have e39 : a.tmps[39]?.getD undef = .tuple #[.int .i64 n, .bool true] := hl 39 (by first | (simp [Op.operands]; done) | simp [Op.operands, Call.operands]) (by rw [HS.out]; decide)
            clear hl
            go_simp
          -- slot 40
          refine wpFacts_lit (.int .i64 n) rfl ?_ ?_
          · intro a wq hw hl
            have e21 : a.tmps[21]?.getD undef = .tuple #[.int .i64 n, .bool true] := hl 21 (by first | (simp [Op.operands]; done) | simp [Op.operands, Call.operands]) (by rw [HS.out]; decide)
            clear hl
            go_simp
          -- slot 41
          refine wpFacts_lit (.bool true) rfl ?_ ?_
          · intro a wq hw hl
            have e21 : a.tmps[21]?.getD undef = .tuple #[.int .i64 n, .bool true] := hl 21 (by first | (simp [Op.operands]; done) | simp [Op.operands, Call.operands]) (by rw [HS.out]; decide)
            clear hl
            go_simp
          -- slot 12
          refine wpFacts_lit (.int .i64 n) rfl ?_ ?_
          · intro a wq hw hl
            have e40 : a.tmps[40]?.getD undef = .int .i64 n := hl 40 (by first | (simp [Op.operands]; done) | simp [Op.operands, Call.operands]) (by rw [HS.out]; decide)
            clear hl
            go_simp
          refine HL.out _ (fun a' w5 hc => ?_)
          have e12 : a'.eval (.tmp 12) = .int .i64 n := hc.fact 12 (by rw [HS.out]; decide)
          have e41 : a'.eval (.tmp 41) = .bool true := hc.fact 41 (by rw [HS.out]; decide)
          have hgw5 := gb_trans HGW.out hc.grown (.inl rfl)
          have hfr := hc.frame [22, 23, 24, 25, 26, 27, 28, 29, 30, 31, 32, 33, 34, 35, 36, 37, 38, 39, 21, 40, 41, 12, 13] (by rw [HO.out]; kernel_rfl)
          rw [hfr]
          clear hfr hc
          rw [HA.out]
          clear HA HO HL HW HS HGW A1 A2 A3 A11
          clear A O W L
          simp only [List.drop_succ_cons, List.drop_zero, List.foldl_cons, List.foldl_nil, Act.put, List.setIfInBounds_toArray, List.set_cons_succ, List.set_cons_zero]
          rw [e12, e41]
          generalize a'.eval (.tmp 22) = x22
          generalize a'.eval (.tmp 23) = x23
          generalize a'.eval (.tmp 24) = x24
          generalize a'.eval (.tmp 25) = x25
          generalize a'.eval (.tmp 26) = x26
          generalize a'.eval (.tmp 27) = x27
          generalize a'.eval (.tmp 28) = x28
          generalize a'.eval (.tmp 29) = x29
          generalize a'.eval (.tmp 30) = x30
          generalize a'.eval (.tmp 31) = x31
          generalize a'.eval (.tmp 32) = x32
          generalize a'.eval (.tmp 33) = x33
          generalize a'.eval (.tmp 34) = x34
          generalize a'.eval (.tmp 35) = x35
          generalize a'.eval (.tmp 36) = x36
          generalize a'.eval (.tmp 37) = x37
          generalize a'.eval (.tmp 38) = x38
          generalize a'.eval (.tmp 39) = x39
          generalize a'.eval (.tmp 21) = x21
          generalize a'.eval (.tmp 40) = x40
          generalize a'.eval (.tmp 13) = x13
          clear e12 e41
          clear a'
          have HO5 := hide (HOW.out.kept hgw5 (by simp [Value.ownBlock]))
          have HG5 := hide (gb_trans HGR.out hgw5 (.inl rfl))
          have HJC := hide HLT.out
          have c5 := HO5.out.cellAt j (by have := HLT.out; omega)
          rw [List.getElem?_append_right (by simp [i64s, HXL.out]), show (i64s xs).length = j by simp [i64s, HXL.out], Nat.sub_self, List.getElem?_replicate, if_pos (by have := HLT.out; omega)] at c5
          have z5 := HO5.out.frozenAt j
          clear hgw5
          go_wp2_with fail
          go_roundw
          case rel =>
            have hlt := HLT.out
            refine ⟨j + 1, by go_num, by omega, xs ++ [n], by simp [HXL.out], hide HNX.out, ?_, gb_setCell HG5.out (.inr (Nat.le_refl _)) _⟩
            have h1 := (HO5.out.stored j (.int .i64 n)).1
            obtain ⟨m, hm⟩ : ∃ m, c - j = m + 1 := ⟨c - j - 1, by omega⟩
            have hx5 := HXL.out
            rw [hm] at h1
            subst hx5
            rw [i64s_set_mid] at h1
            rw [show c - (xs.length + 1) = m by omega]
            exact h1
          case measure =>
            have hlt := HLT.out
            simp [intOf]
            omega
        · clear hMA hMB HFX HFY
          go_wp2_with fail
          refine wp_region_facts' 22 (by kernel_rfl) (by kernel_rfl) ?_
          intro A O W L HA HO HW HL
          simp only [List.take_succ_cons, List.take_zero]
          have HS := hide (show A.tmps.size = 50 by rw [HA.out]; rfl)
          have HGW := hide (show wr.grownBy W none by rw [HW.out]; exact gb_drew (gb_refl wr none))
          have A1 := hide (show A.eval (.tmp 1) = .slice (some pa) la.length ac by rw [HA.out]; rfl)
          have A2 := hide (show A.eval (.tmp 2) = .slice (some pb) lb.length bc by rw [HA.out]; rfl)
          have A3 := hide (show A.eval (.tmp 3) = .func (.func 145) #[] #[.pointer (some ⟨g, 0, none⟩)] by rw [HA.out]; rfl)
          have A11 := hide (show A.eval (.tmp 11) = .int .i64 (j : Int) by rw [HA.out]; rfl)
          -- slot 22
          refine wpFacts_lit (.func (.func 145) #[] #[.pointer (some ⟨g, 0, none⟩)]) rfl ?_ ?_
          · intro a wq hw hl
            have e3 : a.tmps[3]?.getD undef = .func (.func 145) #[] #[.pointer (some ⟨g, 0, none⟩)] := (hl 3 (by first | (simp [Op.operands]; done) | simp [Op.operands, Call.operands]) (by rw [HS.out]; decide)).trans A3.out
            clear hl
            go_simp
          -- slot 23
          refine wpFacts_lit (.slice (some pa) la.length ac) rfl ?_ ?_
          · intro a wq hw hl
            have e1 : a.tmps[1]?.getD undef = .slice (some pa) la.length ac := (hl 1 (by first | (simp [Op.operands]; done) | simp [Op.operands, Call.operands]) (by rw [HS.out]; decide)).trans A1.out
            clear hl
            go_simp
          -- slot 24
          refine wpFacts_lit (.int .i64 (j : Int)) rfl ?_ ?_
          · intro a wq hw hl
            have e11 : a.tmps[11]?.getD undef = .int .i64 (j : Int) := (hl 11 (by first | (simp [Op.operands]; done) | simp [Op.operands, Call.operands]) (by rw [HS.out]; decide)).trans A11.out
            clear hl
            go_simp
          -- slot 25
          refine wpFacts_lit (.slice (some pa) la.length ac) rfl ?_ ?_
          · intro a wq hw hl
            have e1 : a.tmps[1]?.getD undef = .slice (some pa) la.length ac := (hl 1 (by first | (simp [Op.operands]; done) | simp [Op.operands, Call.operands]) (by rw [HS.out]; decide)).trans A1.out
            clear hl
            go_simp
          -- slot 26
          refine wpFacts_lit (.int .i64 (la.length : Int)) rfl ?_ ?_
          · intro a wq hw hl
            have e25 : a.tmps[25]?.getD undef = .slice (some pa) la.length ac := hl 25 (by first | (simp [Op.operands]; done) | simp [Op.operands, Call.operands]) (by rw [HS.out]; decide)
            clear hl
            go_simp
          -- slot 27
          refine wpFacts_lit (.int .i64 (da : Int)) rfl ?_ ?_
          · intro a wq hw hl
            have e26 : a.tmps[26]?.getD undef = .int .i64 (la.length : Int) := hl 26 (by first | (simp [Op.operands]; done) | simp [Op.operands, Call.operands]) (by rw [HS.out]; decide)
            clear hl
            go_simp
          -- slot 28
          refine wpFacts_lit (.int .i64 (j : Int)) rfl ?_ ?_
          · intro a wq hw hl
            have e24 : a.tmps[24]?.getD undef = .int .i64 (j : Int) := hl 24 (by first | (simp [Op.operands]; done) | simp [Op.operands, Call.operands]) (by rw [HS.out]; decide)
            have e27 : a.tmps[27]?.getD undef = .int .i64 (da : Int) := hl 27 (by first | (simp [Op.operands]; done) | simp [Op.operands, Call.operands]) (by rw [HS.out]; decide)
            clear hl
            go_simp
          -- slot 29
          refine wpFacts_lit (.pointer (some (pa.add j))) rfl ?_ ?_
          · intro a wq hw hl
            have e23 : a.tmps[23]?.getD undef = .slice (some pa) la.length ac := hl 23 (by first | (simp [Op.operands]; done) | simp [Op.operands, Call.operands]) (by rw [HS.out]; decide)
            have e28 : a.tmps[28]?.getD undef = .int .i64 (j : Int) := hl 28 (by first | (simp [Op.operands]; done) | simp [Op.operands, Call.operands]) (by rw [HS.out]; decide)
            clear hl
            go_simp
          -- slot 30
          refine wpFacts_lit (.int .i64 x) rfl ?_ ?_
          · intro a wq hw hl
            have e29 : a.tmps[29]?.getD undef = .pointer (some (pa.add j)) := hl 29 (by first | (simp [Op.operands]; done) | simp [Op.operands, Call.operands]) (by rw [HS.out]; decide)
            have c5 := cell_gb ca (gb_trans HGW.out hw (.inl rfl))
            clear hl
            go_simp
          -- slot 31
          refine wpFacts_lit (.slice (some pb) lb.length bc) rfl ?_ ?_
          · intro a wq hw hl
            have e2 : a.tmps[2]?.getD undef = .slice (some pb) lb.length bc := (hl 2 (by first | (simp [Op.operands]; done) | simp [Op.operands, Call.operands]) (by rw [HS.out]; decide)).trans A2.out
            clear hl
            go_simp
          -- slot 32
          refine wpFacts_lit (.int .i64 (j : Int)) rfl ?_ ?_
          · intro a wq hw hl
            have e11 : a.tmps[11]?.getD undef = .int .i64 (j : Int) := (hl 11 (by first | (simp [Op.operands]; done) | simp [Op.operands, Call.operands]) (by rw [HS.out]; decide)).trans A11.out
            clear hl
            go_simp
          -- slot 33
          refine wpFacts_lit (.slice (some pb) lb.length bc) rfl ?_ ?_
          · intro a wq hw hl
            have e2 : a.tmps[2]?.getD undef = .slice (some pb) lb.length bc := (hl 2 (by first | (simp [Op.operands]; done) | simp [Op.operands, Call.operands]) (by rw [HS.out]; decide)).trans A2.out
            clear hl
            go_simp
          -- slot 34
          refine wpFacts_lit (.int .i64 (lb.length : Int)) rfl ?_ ?_
          · intro a wq hw hl
            have e33 : a.tmps[33]?.getD undef = .slice (some pb) lb.length bc := hl 33 (by first | (simp [Op.operands]; done) | simp [Op.operands, Call.operands]) (by rw [HS.out]; decide)
            clear hl
            go_simp
          -- slot 35
          refine wpFacts_lit (.int .i64 (db : Int)) rfl ?_ ?_
          · intro a wq hw hl
            have e34 : a.tmps[34]?.getD undef = .int .i64 (lb.length : Int) := hl 34 (by first | (simp [Op.operands]; done) | simp [Op.operands, Call.operands]) (by rw [HS.out]; decide)
            clear hl
            go_simp
          -- slot 36
          refine wpFacts_lit (.int .i64 (db : Int)) rfl ?_ ?_
          · intro a wq hw hl
            have e32 : a.tmps[32]?.getD undef = .int .i64 (j : Int) := hl 32 (by first | (simp [Op.operands]; done) | simp [Op.operands, Call.operands]) (by rw [HS.out]; decide)
            have e35 : a.tmps[35]?.getD undef = .int .i64 (db : Int) := hl 35 (by first | (simp [Op.operands]; done) | simp [Op.operands, Call.operands]) (by rw [HS.out]; decide)
            clear hl
            go_simp
          -- slot 37
          refine wpFacts_lit (.pointer (some (pb.add db))) rfl ?_ ?_
          · intro a wq hw hl
            have e31 : a.tmps[31]?.getD undef = .slice (some pb) lb.length bc := hl 31 (by first | (simp [Op.operands]; done) | simp [Op.operands, Call.operands]) (by rw [HS.out]; decide)
            have e36 : a.tmps[36]?.getD undef = .int .i64 (db : Int) := hl 36 (by first | (simp [Op.operands]; done) | simp [Op.operands, Call.operands]) (by rw [HS.out]; decide)
            clear hl
            go_simp
          -- slot 38
          refine wpFacts_lit (.int .i64 y) rfl ?_ ?_
          · intro a wq hw hl
            have e37 : a.tmps[37]?.getD undef = .pointer (some (pb.add db)) := hl 37 (by first | (simp [Op.operands]; done) | simp [Op.operands, Call.operands]) (by rw [HS.out]; decide)
            have c5 := cell_gb cb (gb_trans HGW.out hw (.inl rfl))
            clear hl
            go_simp
          -- slot 39
          refine wpFacts_step (fun vq _ => vq = .tuple #[.int .i64 n, .bool true]) rfl (Lit.up _) ?_ ?_
          · intro a wq hw hl
            have e22 : a.tmps[22]?.getD undef = .func (.func 145) #[] #[.pointer (some ⟨g, 0, none⟩)] := hl 22 (by first | (simp [Op.operands]; done) | simp [Op.operands, Call.operands]) (by rw [HS.out]; decide)
            have e30 : a.tmps[30]?.getD undef = .int .i64 x := hl 30 (by first | (simp [Op.operands]; done) | simp [Op.operands, Call.operands]) (by rw [HS.out]; decide)
            have e38 : a.tmps[38]?.getD undef = .int .i64 y := hl 38 (by first | (simp [Op.operands]; done) | simp [Op.operands, Call.operands]) (by rw [HS.out]; decide)
            clear hl
            go_simp
            exact gUpon_lit (CC.out wq (gb_trans HGW.out hw (.inl rfl)))
          -- slot 21
          refine wpFacts_lit (.tuple #[.int .i64 n, .bool true]) rfl ?_ ?_
          · intro a wq hw hl
            have e39 : a.tmps[39]?.getD undef = .tuple #[.int .i64 n, .bool true] := hl 39 (by first | (simp [Op.operands]; done) | simp [Op.operands, Call.operands]) (by rw [HS.out]; decide)
            clear hl
            go_simp
          -- slot 40
          refine wpFacts_lit (.int .i64 n) rfl ?_ ?_
          · intro a wq hw hl
            have e21 : a.tmps[21]?.getD undef = .tuple #[.int .i64 n, .bool true] := hl 21 (by first | (simp [Op.operands]; done) | simp [Op.operands, Call.operands]) (by rw [HS.out]; decide)
            clear hl
            go_simp
          -- slot 41
          refine wpFacts_lit (.bool true) rfl ?_ ?_
          · intro a wq hw hl
            have e21 : a.tmps[21]?.getD undef = .tuple #[.int .i64 n, .bool true] := hl 21 (by first | (simp [Op.operands]; done) | simp [Op.operands, Call.operands]) (by rw [HS.out]; decide)
            clear hl
            go_simp
          -- slot 12
          refine wpFacts_lit (.int .i64 n) rfl ?_ ?_
          · intro a wq hw hl
            have e40 : a.tmps[40]?.getD undef = .int .i64 n := hl 40 (by first | (simp [Op.operands]; done) | simp [Op.operands, Call.operands]) (by rw [HS.out]; decide)
            clear hl
            go_simp
          refine HL.out _ (fun a' w5 hc => ?_)
          have e12 : a'.eval (.tmp 12) = .int .i64 n := hc.fact 12 (by rw [HS.out]; decide)
          have e41 : a'.eval (.tmp 41) = .bool true := hc.fact 41 (by rw [HS.out]; decide)
          have hgw5 := gb_trans HGW.out hc.grown (.inl rfl)
          have hfr := hc.frame [22, 23, 24, 25, 26, 27, 28, 29, 30, 31, 32, 33, 34, 35, 36, 37, 38, 39, 21, 40, 41, 12, 13] (by rw [HO.out]; kernel_rfl)
          rw [hfr]
          clear hfr hc
          rw [HA.out]
          clear HA HO HL HW HS HGW A1 A2 A3 A11
          clear A O W L
          simp only [List.drop_succ_cons, List.drop_zero, List.foldl_cons, List.foldl_nil, Act.put, List.setIfInBounds_toArray, List.set_cons_succ, List.set_cons_zero]
          rw [e12, e41]
          generalize a'.eval (.tmp 22) = x22
          generalize a'.eval (.tmp 23) = x23
          generalize a'.eval (.tmp 24) = x24
          generalize a'.eval (.tmp 25) = x25
          generalize a'.eval (.tmp 26) = x26
          generalize a'.eval (.tmp 27) = x27
          generalize a'.eval (.tmp 28) = x28
          generalize a'.eval (.tmp 29) = x29
          generalize a'.eval (.tmp 30) = x30
          generalize a'.eval (.tmp 31) = x31
          generalize a'.eval (.tmp 32) = x32
          generalize a'.eval (.tmp 33) = x33
          generalize a'.eval (.tmp 34) = x34
          generalize a'.eval (.tmp 35) = x35
          generalize a'.eval (.tmp 36) = x36
          generalize a'.eval (.tmp 37) = x37
          generalize a'.eval (.tmp 38) = x38
          generalize a'.eval (.tmp 39) = x39
          generalize a'.eval (.tmp 21) = x21
          generalize a'.eval (.tmp 40) = x40
          generalize a'.eval (.tmp 13) = x13
          clear e12 e41
          clear a'
          have HO5 := hide (HOW.out.kept hgw5 (by simp [Value.ownBlock]))
          have HG5 := hide (gb_trans HGR.out hgw5 (.inl rfl))
          have HJC := hide HLT.out
          have c5 := HO5.out.cellAt j (by have := HLT.out; omega)
          rw [List.getElem?_append_right (by simp [i64s, HXL.out]), show (i64s xs).length = j by simp [i64s, HXL.out], Nat.sub_self, List.getElem?_replicate, if_pos (by have := HLT.out; omega)] at c5
          have z5 := HO5.out.frozenAt j
          clear hgw5
          go_wp2_with fail
          go_roundw
          case rel =>
            have hlt := HLT.out
            refine ⟨j + 1, by go_num, by omega, xs ++ [n], by simp [HXL.out], hide HNX.out, ?_, gb_setCell HG5.out (.inr (Nat.le_refl _)) _⟩
            have h1 := (HO5.out.stored j (.int .i64 n)).1
            obtain ⟨m, hm⟩ : ∃ m, c - j = m + 1 := ⟨c - j - 1, by omega⟩
            have hx5 := HXL.out
            rw [hm] at h1
            subst hx5
            rw [i64s_set_mid] at h1
            rw [show c - (xs.length + 1) = m by omega]
            exact h1
          case measure =>
            have hlt := HLT.out
            simp [intOf]
            omega
        · clear hMA hMB HFX HFY
          go_wp2_with fail
          refine wp_region_facts' 22 (by kernel_rfl) (by kernel_rfl) ?_
          intro A O W L HA HO HW HL
          simp only [List.take_succ_cons, List.take_zero]
          have HS := hide (show A.tmps.size = 50 by rw [HA.out]; rfl)
          have HGW := hide (show wr.grownBy W none by rw [HW.out]; exact gb_drew (gb_refl wr none))
          have A1 := hide (show A.eval (.tmp 1) = .slice (some pa) la.length ac by rw [HA.out]; rfl)
          have A2 := hide (show A.eval (.tmp 2) = .slice (some pb) lb.length bc by rw [HA.out]; rfl)
          have A3 := hide (show A.eval (.tmp 3) = .func (.func 145) #[] #[.pointer (some ⟨g, 0, none⟩)] by rw [HA.out]; rfl)
          have A11 := hide (show A.eval (.tmp 11) = .int .i64 (j : Int) by rw [HA.out]; rfl)
          -- slot 22
          refine wpFacts_lit (.func (.func 145) #[] #[.pointer (some ⟨g, 0, none⟩)]) rfl ?_ ?_
          · intro a wq hw hl
            have e3 : a.tmps[3]?.getD undef = .func (.func 145) #[] #[.pointer (some ⟨g, 0, none⟩)] := (hl 3 (by first | (simp [Op.operands]; done) | simp [Op.operands, Call.operands]) (by rw [HS.out]; decide)).trans A3.out
            clear hl
            go_simp
          -- slot 23
          refine wpFacts_lit (.slice (some pa) la.length ac) rfl ?_ ?_
          · intro a wq hw hl
            have e1 : a.tmps[1]?.getD undef = .slice (some pa) la.length ac := (hl 1 (by first | (simp [Op.operands]; done) | simp [Op.operands, Call.operands]) (by rw [HS.out]; decide)).trans A1.out
            clear hl
            go_simp
          -- slot 24
          refine wpFacts_lit (.int .i64 (j : Int)) rfl ?_ ?_
          · intro a wq hw hl
            have e11 : a.tmps[11]?.getD undef = .int .i64 (j : Int) := (hl 11 (by first | (simp [Op.operands]; done) | simp [Op.operands, Call.operands]) (by rw [HS.out]; decide)).trans A11.out
            clear hl
            go_simp
          -- slot 25
          refine wpFacts_lit (.slice (some pa) la.length ac) rfl ?_ ?_
          · intro a wq hw hl
            have e1 : a.tmps[1]?.getD undef = .slice (some pa) la.length ac := (hl 1 (by first | (simp [Op.operands]; done) | simp [Op.operands, Call.operands]) (by rw [HS.out]; decide)).trans A1.out
            clear hl
            go_simp
          -- slot 26
          refine wpFacts_lit (.int .i64 (la.length : Int)) rfl ?_ ?_
          · intro a wq hw hl
            have e25 : a.tmps[25]?.getD undef = .slice (some pa) la.length ac := hl 25 (by first | (simp [Op.operands]; done) | simp [Op.operands, Call.operands]) (by rw [HS.out]; decide)
            clear hl
            go_simp
          -- slot 27
          refine wpFacts_lit (.int .i64 (da : Int)) rfl ?_ ?_
          · intro a wq hw hl
            have e26 : a.tmps[26]?.getD undef = .int .i64 (la.length : Int) := hl 26 (by first | (simp [Op.operands]; done) | simp [Op.operands, Call.operands]) (by rw [HS.out]; decide)
            clear hl
            go_simp
          -- slot 28
          refine wpFacts_lit (.int .i64 (da : Int)) rfl ?_ ?_
          · intro a wq hw hl
            have e24 : a.tmps[24]?.getD undef = .int .i64 (j : Int) := hl 24 (by first | (simp [Op.operands]; done) | simp [Op.operands, Call.operands]) (by rw [HS.out]; decide)
            have e27 : a.tmps[27]?.getD undef = .int .i64 (da : Int) := hl 27 (by first | (simp [Op.operands]; done) | simp [Op.operands, Call.operands]) (by rw [HS.out]; decide)
            clear hl
            go_simp
          -- slot 29
          refine wpFacts_lit (.pointer (some (pa.add da))) rfl ?_ ?_
          · intro a wq hw hl
            have e23 : a.tmps[23]?.getD undef = .slice (some pa) la.length ac := hl 23 (by first | (simp [Op.operands]; done) | simp [Op.operands, Call.operands]) (by rw [HS.out]; decide)
            have e28 : a.tmps[28]?.getD undef = .int .i64 (da : Int) := hl 28 (by first | (simp [Op.operands]; done) | simp [Op.operands, Call.operands]) (by rw [HS.out]; decide)
            clear hl
            go_simp
          -- slot 30
          refine wpFacts_lit (.int .i64 x) rfl ?_ ?_
          · intro a wq hw hl
            have e29 : a.tmps[29]?.getD undef = .pointer (some (pa.add da)) := hl 29 (by first | (simp [Op.operands]; done) | simp [Op.operands, Call.operands]) (by rw [HS.out]; decide)
            have c5 := cell_gb ca (gb_trans HGW.out hw (.inl rfl))
            clear hl
            go_simp
          -- slot 31
          refine wpFacts_lit (.slice (some pb) lb.length bc) rfl ?_ ?_
          · intro a wq hw hl
            have e2 : a.tmps[2]?.getD undef = .slice (some pb) lb.length bc := (hl 2 (by first | (simp [Op.operands]; done) | simp [Op.operands, Call.operands]) (by rw [HS.out]; decide)).trans A2.out
            clear hl
            go_simp
          -- slot 32
          refine wpFacts_lit (.int .i64 (j : Int)) rfl ?_ ?_
          · intro a wq hw hl
            have e11 : a.tmps[11]?.getD undef = .int .i64 (j : Int) := (hl 11 (by first | (simp [Op.operands]; done) | simp [Op.operands, Call.operands]) (by rw [HS.out]; decide)).trans A11.out
            clear hl
            go_simp
          -- slot 33
          refine wpFacts_lit (.slice (some pb) lb.length bc) rfl ?_ ?_
          · intro a wq hw hl
            have e2 : a.tmps[2]?.getD undef = .slice (some pb) lb.length bc := (hl 2 (by first | (simp [Op.operands]; done) | simp [Op.operands, Call.operands]) (by rw [HS.out]; decide)).trans A2.out
            clear hl
            go_simp
          -- slot 34
          refine wpFacts_lit (.int .i64 (lb.length : Int)) rfl ?_ ?_
          · intro a wq hw hl
            have e33 : a.tmps[33]?.getD undef = .slice (some pb) lb.length bc := hl 33 (by first | (simp [Op.operands]; done) | simp [Op.operands, Call.operands]) (by rw [HS.out]; decide)
            clear hl
            go_simp
          -- slot 35
          refine wpFacts_lit (.int .i64 (db : Int)) rfl ?_ ?_
          · intro a wq hw hl
            have e34 : a.tmps[34]?.getD undef = .int .i64 (lb.length : Int) := hl 34 (by first | (simp [Op.operands]; done) | simp [Op.operands, Call.operands]) (by rw [HS.out]; decide)
            clear hl
            go_simp
          -- slot 36
          refine wpFacts_lit (.int .i64 (j : Int)) rfl ?_ ?_
          · intro a wq hw hl
            have e32 : a.tmps[32]?.getD undef = .int .i64 (j : Int) := hl 32 (by first | (simp [Op.operands]; done) | simp [Op.operands, Call.operands]) (by rw [HS.out]; decide)
            have e35 : a.tmps[35]?.getD undef = .int .i64 (db : Int) := hl 35 (by first | (simp [Op.operands]; done) | simp [Op.operands, Call.operands]) (by rw [HS.out]; decide)
            clear hl
            go_simp
          -- slot 37
          refine wpFacts_lit (.pointer (some (pb.add j))) rfl ?_ ?_
          · intro a wq hw hl
            have e31 : a.tmps[31]?.getD undef = .slice (some pb) lb.length bc := hl 31 (by first | (simp [Op.operands]; done) | simp [Op.operands, Call.operands]) (by rw [HS.out]; decide)
            have e36 : a.tmps[36]?.getD undef = .int .i64 (j : Int) := hl 36 (by first | (simp [Op.operands]; done) | simp [Op.operands, Call.operands]) (by rw [HS.out]; decide)
            clear hl
            go_simp
          -- slot 38
          refine wpFacts_lit (.int .i64 y) rfl ?_ ?_
          · intro a wq hw hl
            have e37 : a.tmps[37]?.getD undef = .pointer (some (pb.add j)) := hl 37 (by first | (simp [Op.operands]; done) | simp [Op.operands, Call.operands]) (by rw [HS.out]; decide)
            have c5 := cell_gb cb (gb_trans HGW.out hw (.inl rfl))
            clear hl
            go_simp
          -- slot 39
          refine wpFacts_step (fun vq _ => vq = .tuple #[.int .i64 n, .bool true]) rfl (Lit.up _) ?_ ?_
          · intro a wq hw hl
            have e22 : a.tmps[22]?.getD undef = .func (.func 145) #[] #[.pointer (some ⟨g, 0, none⟩)] := hl 22 (by first | (simp [Op.operands]; done) | simp [Op.operands, Call.operands]) (by rw [HS.out]; decide)
            have e30 : a.tmps[30]?.getD undef = .int .i64 x := hl 30 (by first | (simp [Op.operands]; done) | simp [Op.operands, Call.operands]) (by rw [HS.out]; decide)
            have e38 : a.tmps[38]?.getD undef = .int .i64 y := hl 38 (by first | (simp [Op.operands]; done) | simp [Op.operands, Call.operands]) (by rw [HS.out]; decide)
            clear hl
            go_simp
            exact gUpon_lit (CC.out wq (gb_trans HGW.out hw (.inl rfl)))
          -- slot 21
          refine wpFacts_lit (.tuple #[.int .i64 n, .bool true]) rfl ?_ ?_
          · intro a wq hw hl
            have e39 : a.tmps[39]?.getD undef = .tuple #[.int .i64 n, .bool true] := hl 39 (by first | (simp [Op.operands]; done) | simp [Op.operands, Call.operands]) (by rw [HS.out]; decide)
            clear hl
            go_simp
          -- slot 40
          refine wpFacts_lit (.int .i64 n) rfl ?_ ?_
          · intro a wq hw hl
            have e21 : a.tmps[21]?.getD undef = .tuple #[.int .i64 n, .bool true] := hl 21 (by first | (simp [Op.operands]; done) | simp [Op.operands, Call.operands]) (by rw [HS.out]; decide)
            clear hl
            go_simp
          -- slot 41
          refine wpFacts_lit (.bool true) rfl ?_ ?_
          · intro a wq hw hl
            have e21 : a.tmps[21]?.getD undef = .tuple #[.int .i64 n, .bool true] := hl 21 (by first | (simp [Op.operands]; done) | simp [Op.operands, Call.operands]) (by rw [HS.out]; decide)
            clear hl
            go_simp
          -- slot 12
          refine wpFacts_lit (.int .i64 n) rfl ?_ ?_
          · intro a wq hw hl
            have e40 : a.tmps[40]?.getD undef = .int .i64 n := hl 40 (by first | (simp [Op.operands]; done) | simp [Op.operands, Call.operands]) (by rw [HS.out]; decide)
            clear hl
            go_simp
          refine HL.out _ (fun a' w5 hc => ?_)
          have e12 : a'.eval (.tmp 12) = .int .i64 n := hc.fact 12 (by rw [HS.out]; decide)
          have e41 : a'.eval (.tmp 41) = .bool true := hc.fact 41 (by rw [HS.out]; decide)
          have hgw5 := gb_trans HGW.out hc.grown (.inl rfl)
          have hfr := hc.frame [22, 23, 24, 25, 26, 27, 28, 29, 30, 31, 32, 33, 34, 35, 36, 37, 38, 39, 21, 40, 41, 12, 13] (by rw [HO.out]; kernel_rfl)
          rw [hfr]
          clear hfr hc
          rw [HA.out]
          clear HA HO HL HW HS HGW A1 A2 A3 A11
          clear A O W L
          simp only [List.drop_succ_cons, List.drop_zero, List.foldl_cons, List.foldl_nil, Act.put, List.setIfInBounds_toArray, List.set_cons_succ, List.set_cons_zero]
          rw [e12, e41]
          generalize a'.eval (.tmp 22) = x22
          generalize a'.eval (.tmp 23) = x23
          generalize a'.eval (.tmp 24) = x24
          generalize a'.eval (.tmp 25) = x25
          generalize a'.eval (.tmp 26) = x26
          generalize a'.eval (.tmp 27) = x27
          generalize a'.eval (.tmp 28) = x28
          generalize a'.eval (.tmp 29) = x29
          generalize a'.eval (.tmp 30) = x30
          generalize a'.eval (.tmp 31) = x31
          generalize a'.eval (.tmp 32) = x32
          generalize a'.eval (.tmp 33) = x33
          generalize a'.eval (.tmp 34) = x34
          generalize a'.eval (.tmp 35) = x35
          generalize a'.eval (.tmp 36) = x36
          generalize a'.eval (.tmp 37) = x37
          generalize a'.eval (.tmp 38) = x38
          generalize a'.eval (.tmp 39) = x39
          generalize a'.eval (.tmp 21) = x21
          generalize a'.eval (.tmp 40) = x40
          generalize a'.eval (.tmp 13) = x13
          clear e12 e41
          clear a'
          have HO5 := hide (HOW.out.kept hgw5 (by simp [Value.ownBlock]))
          have HG5 := hide (gb_trans HGR.out hgw5 (.inl rfl))
          have HJC := hide HLT.out
          have c5 := HO5.out.cellAt j (by have := HLT.out; omega)
          rw [List.getElem?_append_right (by simp [i64s, HXL.out]), show (i64s xs).length = j by simp [i64s, HXL.out], Nat.sub_self, List.getElem?_replicate, if_pos (by have := HLT.out; omega)] at c5
          have z5 := HO5.out.frozenAt j
          clear hgw5
          go_wp2_with fail
          go_roundw
          case rel =>
            have hlt := HLT.out
            refine ⟨j + 1, by go_num, by omega, xs ++ [n], by simp [HXL.out], hide HNX.out, ?_, gb_setCell HG5.out (.inr (Nat.le_refl _)) _⟩
            have h1 := (HO5.out.stored j (.int .i64 n)).1
            obtain ⟨m, hm⟩ : ∃ m, c - j = m + 1 := ⟨c - j - 1, by omega⟩
            have hx5 := HXL.out
            rw [hm] at h1
            subst hx5
            rw [i64s_set_mid] at h1
            rw [show c - (xs.length + 1) = m by omega]
            exact h1
          case measure =>
            have hlt := HLT.out
            simp [intOf]
            omega
        · clear hMA hMB HFX HFY
          go_wp2_with fail
          refine wp_region_facts' 22 (by kernel_rfl) (by kernel_rfl) ?_
          intro A O W L HA HO HW HL
          simp only [List.take_succ_cons, List.take_zero]
          have HS := hide (show A.tmps.size = 50 by rw [HA.out]; rfl)
          have HGW := hide (show wr.grownBy W none by rw [HW.out]; exact gb_drew (gb_refl wr none))
          have A1 := hide (show A.eval (.tmp 1) = .slice (some pa) la.length ac by rw [HA.out]; rfl)
          have A2 := hide (show A.eval (.tmp 2) = .slice (some pb) lb.length bc by rw [HA.out]; rfl)
          have A3 := hide (show A.eval (.tmp 3) = .func (.func 145) #[] #[.pointer (some ⟨g, 0, none⟩)] by rw [HA.out]; rfl)
          have A11 := hide (show A.eval (.tmp 11) = .int .i64 (j : Int) by rw [HA.out]; rfl)
          -- slot 22
          refine wpFacts_lit (.func (.func 145) #[] #[.pointer (some ⟨g, 0, none⟩)]) rfl ?_ ?_
          · intro a wq hw hl
            have e3 : a.tmps[3]?.getD undef = .func (.func 145) #[] #[.pointer (some ⟨g, 0, none⟩)] := (hl 3 (by first | (simp [Op.operands]; done) | simp [Op.operands, Call.operands]) (by rw [HS.out]; decide)).trans A3.out
            clear hl
            go_simp
          -- slot 23
          refine wpFacts_lit (.slice (some pa) la.length ac) rfl ?_ ?_
          · intro a wq hw hl
            have e1 : a.tmps[1]?.getD undef = .slice (some pa) la.length ac := (hl 1 (by first | (simp [Op.operands]; done) | simp [Op.operands, Call.operands]) (by rw [HS.out]; decide)).trans A1.out
            clear hl
            go_simp
          -- slot 24
          refine wpFacts_lit (.int .i64 (j : Int)) rfl ?_ ?_
          · intro a wq hw hl
            have e11 : a.tmps[11]?.getD undef = .int .i64 (j : Int) := (hl 11 (by first | (simp [Op.operands]; done) | simp [Op.operands, Call.operands]) (by rw [HS.out]; decide)).trans A11.out
            clear hl
            go_simp
          -- slot 25
          refine wpFacts_lit (.slice (some pa) la.length ac) rfl ?_ ?_
          · intro a wq hw hl
            have e1 : a.tmps[1]?.getD undef = .slice (some pa) la.length ac := (hl 1 (by first | (simp [Op.operands]; done) | simp [Op.operands, Call.operands]) (by rw [HS.out]; decide)).trans A1.out
            clear hl
            go_simp
          -- slot 26
          refine wpFacts_lit (.int .i64 (la.length : Int)) rfl ?_ ?_
          · intro a wq hw hl
            have e25 : a.tmps[25]?.getD undef = .slice (some pa) la.length ac := hl 25 (by first | (simp [Op.operands]; done) | simp [Op.operands, Call.operands]) (by rw [HS.out]; decide)
            clear hl
            go_simp
          -- slot 27
          refine wpFacts_lit (.int .i64 (da : Int)) rfl ?_ ?_
          · intro a wq hw hl
            have e26 : a.tmps[26]?.getD undef = .int .i64 (la.length : Int) := hl 26 (by first | (simp [Op.operands]; done) | simp [Op.operands, Call.operands]) (by rw [HS.out]; decide)
            clear hl
            go_simp
          -- slot 28
          refine wpFacts_lit (.int .i64 (da : Int)) rfl ?_ ?_
          · intro a wq hw hl
            have e24 : a.tmps[24]?.getD undef = .int .i64 (j : Int) := hl 24 (by first | (simp [Op.operands]; done) | simp [Op.operands, Call.operands]) (by rw [HS.out]; decide)
            have e27 : a.tmps[27]?.getD undef = .int .i64 (da : Int) := hl 27 (by first | (simp [Op.operands]; done) | simp [Op.operands, Call.operands]) (by rw [HS.out]; decide)
            clear hl
            go_simp
          -- slot 29
          refine wpFacts_lit (.pointer (some (pa.add da))) rfl ?_ ?_
          · intro a wq hw hl
            have e23 : a.tmps[23]?.getD undef = .slice (some pa) la.length ac := hl 23 (by first | (simp [Op.operands]; done) | simp [Op.operands, Call.operands]) (by rw [HS.out]; decide)
            have e28 : a.tmps[28]?.getD undef = .int .i64 (da : Int) := hl 28 (by first | (simp [Op.operands]; done) | simp [Op.operands, Call.operands]) (by rw [HS.out]; decide)
            clear hl
            go_simp
          -- slot 30
          refine wpFacts_lit (.int .i64 x) rfl ?_ ?_
          · intro a wq hw hl
            have e29 : a.tmps[29]?.getD undef = .pointer (some (pa.add da)) := hl 29 (by first | (simp [Op.operands]; done) | simp [Op.operands, Call.operands]) (by rw [HS.out]; decide)
            have c5 := cell_gb ca (gb_trans HGW.out hw (.inl rfl))
            clear hl
            go_simp
          -- slot 31
          refine wpFacts_lit (.slice (some pb) lb.length bc) rfl ?_ ?_
          · intro a wq hw hl
            have e2 : a.tmps[2]?.getD undef = .slice (some pb) lb.length bc := (hl 2 (by first | (simp [Op.operands]; done) | simp [Op.operands, Call.operands]) (by rw [HS.out]; decide)).trans A2.out
            clear hl
            go_simp
          -- slot 32
          refine wpFacts_lit (.int .i64 (j : Int)) rfl ?_ ?_
          · intro a wq hw hl
            have e11 : a.tmps[11]?.getD undef = .int .i64 (j : Int) := (hl 11 (by first | (simp [Op.operands]; done) | simp [Op.operands, Call.operands]) (by rw [HS.out]; decide)).trans A11.out
            clear hl
            go_simp
          -- slot 33
          refine wpFacts_lit (.slice (some pb) lb.length bc) rfl ?_ ?_
          · intro a wq hw hl
            have e2 : a.tmps[2]?.getD undef = .slice (some pb) lb.length bc := (hl 2 (by first | (simp [Op.operands]; done) | simp [Op.operands, Call.operands]) (by rw [HS.out]; decide)).trans A2.out
            clear hl
            go_simp
          -- slot 34
          refine wpFacts_lit (.int .i64 (lb.length : Int)) rfl ?_ ?_
          · intro a wq hw hl
            have e33 : a.tmps[33]?.getD undef = .slice (some pb) lb.length bc := hl 33 (by first | (simp [Op.operands]; done) | simp [Op.operands, Call.operands]) (by rw [HS.out]; decide)
            clear hl
            go_simp
          -- slot 35
          refine wpFacts_lit (.int .i64 (db : Int)) rfl ?_ ?_
          · intro a wq hw hl
            have e34 : a.tmps[34]?.getD undef = .int .i64 (lb.length : Int) := hl 34 (by first | (simp [Op.operands]; done) | simp [Op.operands, Call.operands]) (by rw [HS.out]; decide)
            clear hl
            go_simp
          -- slot 36
          refine wpFacts_lit (.int .i64 (db : Int)) rfl ?_ ?_
          · intro a wq hw hl
            have e32 : a.tmps[32]?.getD undef = .int .i64 (j : Int) := hl 32 (by first | (simp [Op.operands]; done) | simp [Op.operands, Call.operands]) (by rw [HS.out]; decide)
            have e35 : a.tmps[35]?.getD undef = .int .i64 (db : Int) := hl 35 (by first | (simp [Op.operands]; done) | simp [Op.operands, Call.operands]) (by rw [HS.out]; decide)
            clear hl
            go_simp
          -- slot 37
          refine wpFacts_lit (.pointer (some (pb.add db))) rfl ?_ ?_
          · intro a wq hw hl
            have e31 : a.tmps[31]?.getD undef = .slice (some pb) lb.length bc := hl 31 (by first | (simp [Op.operands]; done) | simp [Op.operands, Call.operands]) (by rw [HS.out]; decide)
            have e36 : a.tmps[36]?.getD undef = .int .i64 (db : Int) := hl 36 (by first | (simp [Op.operands]; done) | simp [Op.operands, Call.operands]) (by rw [HS.out]; decide)
            clear hl
            go_simp
          -- slot 38
          refine wpFacts_lit (.int .i64 y) rfl ?_ ?_
          · intro a wq hw hl
            have e37 : a.tmps[37]?.getD undef = .pointer (some (pb.add db)) := hl 37 (by first | (simp [Op.operands]; done) | simp [Op.operands, Call.operands]) (by rw [HS.out]; decide)
            have c5 := cell_gb cb (gb_trans HGW.out hw (.inl rfl))
            clear hl
            go_simp
          -- slot 39
          refine wpFacts_step (fun vq _ => vq = .tuple #[.int .i64 n, .bool true]) rfl (Lit.up _) ?_ ?_
          · intro a wq hw hl
            have e22 : a.tmps[22]?.getD undef = .func (.func 145) #[] #[.pointer (some ⟨g, 0, none⟩)] := hl 22 (by first | (simp [Op.operands]; done) | simp [Op.operands, Call.operands]) (by rw [HS.out]; decide)
            have e30 : a.tmps[30]?.getD undef = .int .i64 x := hl 30 (by first | (simp [Op.operands]; done) | simp [Op.operands, Call.operands]) (by rw [HS.out]; decide)
            have e38 : a.tmps[38]?.getD undef = .int .i64 y := hl 38 (by first | (simp [Op.operands]; done) | simp [Op.operands, Call.operands]) (by rw [HS.out]; decide)
            clear hl
            go_simp
            exact gUpon_lit (CC.out wq (gb_trans HGW.out hw (.inl rfl)))
          -- slot 21
          refine wpFacts_lit (.tuple #[.int .i64 n, .bool true]) rfl ?_ ?_
          · intro a wq hw hl
            have e39 : a.tmps[39]?.getD undef = .tuple #[.int .i64 n, .bool true] := hl 39 (by first | (simp [Op.operands]; done) | simp [Op.operands, Call.operands]) (by rw [HS.out]; decide)
            clear hl
            go_simp
          -- slot 40
          refine wpFacts_lit (.int .i64 n) rfl ?_ ?_
          · intro a wq hw hl
            have e21 : a.tmps[21]?.getD undef = .tuple #[.int .i64 n, .bool true] := hl 21 (by first | (simp [Op.operands]; done) | simp [Op.operands, Call.operands]) (by rw [HS.out]; decide)
            clear hl
            go_simp
          -- slot 41
          refine wpFacts_lit (.bool true) rfl ?_ ?_
          · intro a wq hw hl
            have e21 : a.tmps[21]?.getD undef = .tuple #[.int .i64 n, .bool true] := hl 21 (by first | (simp [Op.operands]; done) | simp [Op.operands, Call.operands]) (by rw [HS.out]; decide)
            clear hl
            go_simp
          -- slot 12
          refine wpFacts_lit (.int .i64 n) rfl ?_ ?_
          · intro a wq hw hl
            have e40 : a.tmps[40]?.getD undef = .int .i64 n := hl 40 (by first | (simp [Op.operands]; done) | simp [Op.operands, Call.operands]) (by rw [HS.out]; decide)
            clear hl
            go_simp
          refine HL.out _ (fun a' w5 hc => ?_)
          have e12 : a'.eval (.tmp 12) = .int .i64 n := hc.fact 12 (by rw [HS.out]; decide)
          have e41 : a'.eval (.tmp 41) = .bool true := hc.fact 41 (by rw [HS.out]; decide)
          have hgw5 := gb_trans HGW.out hc.grown (.inl rfl)
          have hfr := hc.frame [22, 23, 24, 25, 26, 27, 28, 29, 30, 31, 32, 33, 34, 35, 36, 37, 38, 39, 21, 40, 41, 12, 13] (by rw [HO.out]; kernel_rfl)
          rw [hfr]
          clear hfr hc
          rw [HA.out]
          clear HA HO HL HW HS HGW A1 A2 A3 A11
          clear A O W L
          simp only [List.drop_succ_cons, List.drop_zero, List.foldl_cons, List.foldl_nil, Act.put, List.setIfInBounds_toArray, List.set_cons_succ, List.set_cons_zero]
          rw [e12, e41]
          generalize a'.eval (.tmp 22) = x22
          generalize a'.eval (.tmp 23) = x23
          generalize a'.eval (.tmp 24) = x24
          generalize a'.eval (.tmp 25) = x25
          generalize a'.eval (.tmp 26) = x26
          generalize a'.eval (.tmp 27) = x27
          generalize a'.eval (.tmp 28) = x28
          generalize a'.eval (.tmp 29) = x29
          generalize a'.eval (.tmp 30) = x30
          generalize a'.eval (.tmp 31) = x31
          generalize a'.eval (.tmp 32) = x32
          generalize a'.eval (.tmp 33) = x33
          generalize a'.eval (.tmp 34) = x34
          generalize a'.eval (.tmp 35) = x35
          generalize a'.eval (.tmp 36) = x36
          generalize a'.eval (.tmp 37) = x37
          generalize a'.eval (.tmp 38) = x38
          generalize a'.eval (.tmp 39) = x39
          generalize a'.eval (.tmp 21) = x21
          generalize a'.eval (.tmp 40) = x40
          generalize a'.eval (.tmp 13) = x13
          clear e12 e41
          clear a'
          have HO5 := hide (HOW.out.kept hgw5 (by simp [Value.ownBlock]))
          have HG5 := hide (gb_trans HGR.out hgw5 (.inl rfl))
          have HJC := hide HLT.out
          have c5 := HO5.out.cellAt j (by have := HLT.out; omega)
          rw [List.getElem?_append_right (by simp [i64s, HXL.out]), show (i64s xs).length = j by simp [i64s, HXL.out], Nat.sub_self, List.getElem?_replicate, if_pos (by have := HLT.out; omega)] at c5
          have z5 := HO5.out.frozenAt j
          clear hgw5
          go_wp2_with fail
          go_roundw
          case rel =>
            have hlt := HLT.out
            refine ⟨j + 1, by go_num, by omega, xs ++ [n], by simp [HXL.out], hide HNX.out, ?_, gb_setCell HG5.out (.inr (Nat.le_refl _)) _⟩
            have h1 := (HO5.out.stored j (.int .i64 n)).1
            obtain ⟨m, hm⟩ : ∃ m, c - j = m + 1 := ⟨c - j - 1, by omega⟩
            have hx5 := HXL.out
            rw [hm] at h1
            subst hx5
            rw [i64s_set_mid] at h1
            rw [show c - (xs.length + 1) = m by omega]
            exact h1
          case measure =>
            have hlt := HLT.out
            simp [intOf]
            omega
    · have hlt1 : ¬ (j : Int) < (c : Int) := by omega
      obtain rfl : j = c := by omega
      have HF := hide (show eachO f la lb 0 j = some xs by have := HX.out _ rfl; rw [Nat.sub_self, eachO] at this; simpa using this)
      have HO := hide (show wr.ownsRow w.heap.size 2 1 (.slice (some ⟨w.heap.size, 0, none⟩) j j) j (i64s xs) by simpa using how)
      have HGR := hide hgr
      clear hgr how
      go_wp2_with fail
      exact bodyPost_ret (v := .tuple #[.slice (some ⟨w.heap.size, 0, none⟩) j j, .bool true]) (by simp [results, Tryz.results118, go_sem]) rfl ⟨HGR.out, by rw [HF.out]; subst hxl; exact ⟨_, _, rfl, HO.out⟩⟩
end Go.Proofs.YtgepejnooghjbaaGreat
