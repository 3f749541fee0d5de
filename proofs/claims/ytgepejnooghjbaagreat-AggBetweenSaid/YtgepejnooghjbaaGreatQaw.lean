/-
  The statement AggBetween, walked.
-/
import Derived.Test.YtgepejnooghjbaaGreatQam
import Derived.Test.YtgepejnooghjbaaGreatQav

namespace Go.Proofs.YtgepejnooghjbaaGreat
open Go.RowKit
attribute [local go_sem ↓] Go.wp_at_zero Go.wp_at_succ

theorem strictF_in {a b x : Int} (h : strictF difF a b = some x) : I64 x := by
  unfold strictF at h
  split at h
  · injection h with h
    rw [← h]
    constructor <;> decide
  · unfold difF sumF at h
    split at h
    · injection h with h
      rw [← h]
      unfold I64
      omega
    · cases h
theorem dlt_in (l xs : List Int) (hI : ∀ k ∈ l, I64 k) (h : eachO (strictF difF) (l.drop 1) (l.take (l.length - 1)) 0 (l.length - 1) = some xs) : ∀ k ∈ l.take 1 ++ xs, I64 k := by
  intro k hk
  rcases List.mem_append.1 hk with hk | hk
  · exact hI k (List.mem_of_mem_take hk)
  · obtain ⟨j, hj, rfl⟩ := List.getElem_of_mem hk
    exact strictF_in ((eachO_some _ _ _ h).2 j hj)
theorem dlt_len (l xs : List Int) (h : eachO (strictF difF) (l.drop 1) (l.take (l.length - 1)) 0 (l.length - 1) = some xs) : (l.take 1 ++ xs).length = l.length := by
  have := (eachO_some _ _ _ h).1
  simp
  omega
theorem dlt_ok (l xs : List Int) (hI : ∀ k ∈ l, I64 k) (hn : ∀ x ∈ l, x ≠ -9223372036854775808) (h : eachO (strictF difF) (l.drop 1) (l.take (l.length - 1)) 0 (l.length - 1) = some xs) :
    ∀ k, k < (l.take 1 ++ xs).length → -9223372036854775807 ≤ sumL ((l.take 1 ++ xs).take (k + 1)) ∧ sumL ((l.take 1 ++ xs).take (k + 1)) ≤ 9223372036854775807 := by
  intro k hk
  rw [dlt_len l xs h] at hk
  rw [undo l xs hn h k hk]
  have h1 := hI l[k] (List.getElem_mem hk)
  have h2 := hn l[k] (List.getElem_mem hk)
  unfold I64 at h1
  omega
/-- An atom in a box. -/
def BoxA (w : World) (s : Nat) (q : Int) (b o c : Nat) (sA : Option Addr) (sc : Nat) (lA : Option Addr) (lc : Nat) : Prop := w.heap[s]? = some (.cells #[.int .i64 (-2), .slice (some ⟨b, o, none⟩) 1 c, .slice sA 0 sc, .slice lA 0 lc] 26 (0, 0)) ∧ w.cell? ⟨b, o, none⟩ = some (.int .i64 q) ∧ 1 ≤ c
theorem BoxA.gb {w w' : World} {s : Nat} {q : Int} {b o c : Nat} {sA : Option Addr} {sc : Nat} {lA : Option Addr} {lc : Nat} (h : BoxA w s q b o c sA sc lA lc) (hg : w.grownBy w' none) : BoxA w' s q b o c sA sc lA lc :=
  ⟨blk_keep h.1 hg (by simp), cell_gb h.2.1 hg, h.2.2⟩
theorem BoxA.vb {w : World} {s : Nat} {q : Int} {b o c : Nat} {sA : Option Addr} {sc : Nat} {lA : Option Addr} {lc : Nat} (h : BoxA w s q b o c sA sc lA lc) : VB w w.heap.size (.mk (-2) [q] [] []) (some ⟨b, o, none⟩) c sA sc lA lc :=
  ⟨rd_el h.2.1, Rd.nil_, ⟨[], Rd.nil_, rfl⟩, h.2.2, Nat.zero_le _, Nat.zero_le _⟩
/-- What a reduction hands back, as a walk reads it. -/
theorem tup_atom {q : Int} {w w' : World} {e : Ending} (h : TupV (.mk (-2) [q] [] []) w e w') : ∃ b o c sA sc lA lc, e = .returned (.tuple #[.agg #[.int .i64 (-2), .slice (some ⟨b, o, none⟩) 1 c, .slice sA 0 sc, .slice lA 0 lc], .int .i64 0]) ∧ w'.cell? ⟨b, o, none⟩ = some (.int .i64 q) ∧ 1 ≤ c ∧ w.grownBy w' none := by
  obtain ⟨nA, nc, sA, sc, lA, lc, f, he, ho, _, hg⟩ := h
  obtain ⟨b, o, rfl, _, hc⟩ := ho.vb.n.lay (show i64s [q] ≠ [] by simp [i64s])
  exact ⟨b, o, nc, sA, sc, lA, lc, he, hc 0 _ rfl, ho.vb.hn, hg⟩
set_option maxHeartbeats 8000000 in
set_option maxRecDepth 100000 in
theorem between_any (l : List Int) (hI : ∀ k ∈ l, I64 k) (w : World) (xA0 : Option Addr) (xc0 : Nat) (hr : Rd w w.heap.size xA0 (i64s l)) : Calls Tryz.prog 4 #[.slice xA0 l.length xc0] w fun e w' => e = .returned (.bool true) ∧ w.grownBy w' none := by
  by_cases hl : l.length ≤ 3000
  · have h1 : ¬ (3000 : Int) < (l.length : Int) := by omega
    have HL := hide hl
    have HI := hide hI
    have HR := hide hr
    have HL1 : Hid ((i64s l).length = l.length * 1) := hide (by simp [i64s])
    have HOC := hide (i64s_one l)
    have HM : Hid (0 + l.length ≤ maxLen) := hide (by unfold maxLen; omega)
    have HMB : Hid ((0 + l.length) * 8 ≤ 140737488355328) := hide (by omega)
    have HRD := hide (hr.alloc (Nat.le_refl _) (.cells #[] 2))
    have HBS : Hid (w.heap.size ≤ (w.alloc (.cells #[] 2)).heap.size) := hide (by simp)
    have HGN := hide (gb_alloc (gb_refl w none) (.cells #[] 2))
    have HON := hide (own_nil w 2 1)
    obtain ⟨i1, hi1, hiz, his, hib⟩ := info_parts Tryz.info64
    have HI1 := hide hi1
    have HIZ := hide hiz
    have HIS := hide his
    have HIB := hide hib
    clear hi1 hiz his hib hl hI hr
    go_enter Tryz.func4, Tryz.ntmps4
    go_upto_region 4 with (first
      | (at_builtin; refine wpList_append_rd _ rfl (.tmp 23) (.tmp 24) 22 rfl w.heap.size 2 i1 (.int .i64 0) 1 8 Tryz.underlying22 HI1.out HIZ.out HIS.out HIB.out rfl (Nat.succ_pos 0) (.slice (some ⟨w.heap.size, 0, none⟩) 0 0) 0 [] rfl HON.out w.heap.size xA0 l.length xc0 (i64s l) rfl HL1.out HRD.out HOC.out HM.out HMB.out HBS.out ?_; intro v5 w5 ho5 hg5 _; rw [Nat.zero_add, List.nil_append] at ho5; obtain ⟨vA, vc, rfl, hle5⟩ := own_slice ho5; have HO5 := hide ho5; have HLE := hide hle5; have HG5 := hide (gb_trans HGN.out hg5 (own_ge HON.out (Nat.le_refl _) none)); clear ho5 hg5 hle5)
      | (go_at_call 14; refine (ints8_any _ _ _ _).mono ?_; rintro e w6 ⟨rfl, hg6⟩; have HG6 := hide hg6; clear hg6))
    obtain ⟨w7, hw7⟩ : ∃ w7, w7 = w6.alloc (.cells #[.int .i64 2, .slice vA l.length vc, .slice none 0 0, .slice none 0 0] 26) := ⟨_, rfl⟩
    obtain ⟨s3, hs3⟩ : ∃ s3, s3 = w6.heap.size := ⟨_, rfl⟩
    rw [← hw7, ← hs3]
    have hb7 : w7.heap[s3]? = some (.cells #[.int .i64 2, .slice vA l.length vc, .slice none 0 0, .slice none 0 0] 26 (0, 0)) := by rw [hw7, hs3]; exact heap_alloc_new w6 _
    have hg7 : w5.grownBy w7 none := by rw [hw7]; exact gb_trans HG6.out (gb_alloc (gb_refl w6 none) _) (.inl rfl)
    have HB7 := hide hb7
    have HG7 := hide (gb_trans HG5.out hg7 (.inl rfl))
    have HV7 := hide (show VB w7 w7.heap.size (.mk 2 l [] []) vA vc none 0 none 0 from ⟨((Rd.of_own HO5.out).grown hg7 (Nat.le_refl _) (by simp)).more hg7.size, Rd.nil_, ⟨[], Rd.nil_, rfl⟩, HLE.out, Nat.le_refl _, Nat.le_refl _⟩)
    clear hw7 hs3 hb7 hg7 h1 HL1 HOC HM HMB HRD HBS HGN HON HI1 HIZ HIS HIB HO5 HLE HG5 HG6
    obtain ⟨q4, hq4⟩ : ∃ q4, q4 = if nnI l = 0 then (-9223372036854775808 : Int) else pickI l (-9223372036854775808) (bestN false l l.length) := ⟨_, rfl⟩
    obtain ⟨q5, hq5⟩ : ∃ q5, q5 = if nnI l = 0 then (-9223372036854775808 : Int) else pickI l (-9223372036854775808) (bestN true l l.length) := ⟨_, rfl⟩
    obtain ⟨q6, hq6⟩ : ∃ q6, q6 = if nnI l = 0 then (-9223372036854775808 : Int) else sumL l / (nnI l : Int) := ⟨_, rfl⟩
    obtain ⟨v0, v1, v2, v3⟩ : C4 w7 s3 0 (.int .i64 2) (.slice vA l.length vc) (.slice none 0 0) (.slice none 0 0) := (by have hh := HB7.out; exact ⟨by rw [blk_cell hh]; rfl, by rw [blk_cell hh]; rfl, by rw [blk_cell hh]; rfl, by rw [blk_cell hh]; rfl⟩)
    have CD := hide (fun (w2 : World) (hg : w7.grownBy w2 none) => do_least l HI.out (by have := HL.out; omega) w2 w2.heap.size vA vc none 0 none 0 (Nat.le_refl _) ((HV7.out.gb hg (Nat.le_refl _)).up hg.size))
    rw [← hq4] at CD
    go_upto_region 5 with (go_at_call 15; refine (CD.out _ (gb_refl w7 none)).mono ?_; intro e w8 hd; obtain ⟨b4, o4, c4, sA4, sc4, lA4, lc4, rfl, hcc, hc1, hg⟩ := tup_atom hd; have HCC := hide hcc; have HC1 := hide hc1; have HGd := hide hg; clear hd hcc hc1 hg v0 v1 v2 v3)
    obtain ⟨w9, hwe⟩ : ∃ w9, w9 = w8.alloc (.cells #[.int .i64 (-2), .slice (some ⟨b4, o4, none⟩) 1 c4, .slice sA4 0 sc4, .slice lA4 0 lc4] 26) := ⟨_, rfl⟩
    obtain ⟨s4, hsb⟩ : ∃ s4, s4 = w8.heap.size := ⟨_, rfl⟩
    rw [← hwe, ← hsb]
    have hge : w7.grownBy w9 none := by rw [hwe]; exact gb_trans HGd.out (gb_alloc (gb_refl w8 none) _) (.inl rfl)
    have HA_4 := hide (show BoxA w9 s4 q4 b4 o4 c4 sA4 sc4 lA4 lc4 from ⟨by rw [hwe, hsb]; exact heap_alloc_new w8 _, cell_gb HCC.out (by rw [hwe]; exact gb_alloc (gb_refl w8 none) _), HC1.out⟩)
    have HB9 := hide (blk_keep HB7.out hge (by simp))
    have HG9 := hide (gb_trans HG7.out hge (.inl rfl))
    have HV9 := hide ((HV7.out.gb hge (Nat.le_refl _)).up hge.size)
    clear hwe hsb hge CD HCC HC1 HGd HB7 HG7 HV7
    obtain ⟨v0, v1, v2, v3⟩ : C4 w9 s3 0 (.int .i64 2) (.slice vA l.length vc) (.slice none 0 0) (.slice none 0 0) := (by have hh := HB9.out; exact ⟨by rw [blk_cell hh]; rfl, by rw [blk_cell hh]; rfl, by rw [blk_cell hh]; rfl, by rw [blk_cell hh]; rfl⟩)
    have CD := hide (fun (w2 : World) (hg : w9.grownBy w2 none) => do_most l HI.out (by have := HL.out; omega) w2 w2.heap.size vA vc none 0 none 0 (Nat.le_refl _) ((HV9.out.gb hg (Nat.le_refl _)).up hg.size))
    rw [← hq5] at CD
    go_upto_region 6 with (go_at_call 15; refine (CD.out _ (gb_refl w9 none)).mono ?_; intro e w10 hd; obtain ⟨b5, o5, c5, sA5, sc5, lA5, lc5, rfl, hcc, hc1, hg⟩ := tup_atom hd; have HCC := hide hcc; have HC1 := hide hc1; have HGd := hide hg; clear hd hcc hc1 hg v0 v1 v2 v3)
    obtain ⟨w11, hwe⟩ : ∃ w11, w11 = w10.alloc (.cells #[.int .i64 (-2), .slice (some ⟨b5, o5, none⟩) 1 c5, .slice sA5 0 sc5, .slice lA5 0 lc5] 26) := ⟨_, rfl⟩
    obtain ⟨s6, hsb⟩ : ∃ s6, s6 = w10.heap.size := ⟨_, rfl⟩
    rw [← hwe, ← hsb]
    have hge : w9.grownBy w11 none := by rw [hwe]; exact gb_trans HGd.out (gb_alloc (gb_refl w10 none) _) (.inl rfl)
    have HA_5 := hide (show BoxA w11 s6 q5 b5 o5 c5 sA5 sc5 lA5 lc5 from ⟨by rw [hwe, hsb]; exact heap_alloc_new w10 _, cell_gb HCC.out (by rw [hwe]; exact gb_alloc (gb_refl w10 none) _), HC1.out⟩)
    have HX := hide (HA_4.out.gb hge)
    clear HA_4
    have HA_4 := hide HX.out
    clear HX
    have HB11 := hide (blk_keep HB9.out hge (by simp))
    have HG11 := hide (gb_trans HG9.out hge (.inl rfl))
    have HV11 := hide ((HV9.out.gb hge (Nat.le_refl _)).up hge.size)
    clear hwe hsb hge CD HCC HC1 HGd HB9 HG9 HV9
    obtain ⟨v0, v1, v2, v3⟩ : C4 w11 s3 0 (.int .i64 2) (.slice vA l.length vc) (.slice none 0 0) (.slice none 0 0) := (by have hh := HB11.out; exact ⟨by rw [blk_cell hh]; rfl, by rw [blk_cell hh]; rfl, by rw [blk_cell hh]; rfl, by rw [blk_cell hh]; rfl⟩)
    have CD := hide (fun (w2 : World) (hg : w11.grownBy w2 none) => do_avg l HI.out (by have := HL.out; omega) w2 w2.heap.size vA vc none 0 none 0 (Nat.le_refl _) ((HV11.out.gb hg (Nat.le_refl _)).up hg.size))
    rw [← hq6] at CD
    go_upto_region 7 with (go_at_call 15; refine (CD.out _ (gb_refl w11 none)).mono ?_; intro e w12 hd; obtain ⟨b6, o6, c6, sA6, sc6, lA6, lc6, rfl, hcc, hc1, hg⟩ := tup_atom hd; have HCC := hide hcc; have HC1 := hide hc1; have HGd := hide hg; clear hd hcc hc1 hg v0 v1 v2 v3)
    obtain ⟨w13, hwe⟩ : ∃ w13, w13 = w12.alloc (.cells #[.int .i64 (-2), .slice (some ⟨b6, o6, none⟩) 1 c6, .slice sA6 0 sc6, .slice lA6 0 lc6] 26) := ⟨_, rfl⟩
    obtain ⟨s8, hsb⟩ : ∃ s8, s8 = w12.heap.size := ⟨_, rfl⟩
    rw [← hwe, ← hsb]
    have hge : w11.grownBy w13 none := by rw [hwe]; exact gb_trans HGd.out (gb_alloc (gb_refl w12 none) _) (.inl rfl)
    have HA_6 := hide (show BoxA w13 s8 q6 b6 o6 c6 sA6 sc6 lA6 lc6 from ⟨by rw [hwe, hsb]; exact heap_alloc_new w12 _, cell_gb HCC.out (by rw [hwe]; exact gb_alloc (gb_refl w12 none) _), HC1.out⟩)
    have HX := hide (HA_4.out.gb hge)
    clear HA_4
    have HA_4 := hide HX.out
    clear HX
    have HX := hide (HA_5.out.gb hge)
    clear HA_5
    have HA_5 := hide HX.out
    clear HX
    have HB13 := hide (blk_keep HB11.out hge (by simp))
    have HG13 := hide (gb_trans HG11.out hge (.inl rfl))
    have HV13 := hide ((HV11.out.gb hge (Nat.le_refl _)).up hge.size)
    clear hwe hsb hge CD HCC HC1 HGd HB11 HG11 HV11
    have HQ4 := hide hq4
    have HQ5 := hide hq5
    have HQ6 := hide hq6
    clear hq4 hq5 hq6
    have k4 := HA_4.out.2.1
    obtain ⟨p0, p1, p2, p3⟩ : C4 w13 s4 0 (.int .i64 (-2)) (.slice (some ⟨b4, o4, none⟩) 1 c4) (.slice sA4 0 sc4) (.slice lA4 0 lc4) := (by have hh := HA_4.out.1; exact ⟨by rw [blk_cell hh]; rfl, by rw [blk_cell hh]; rfl, by rw [blk_cell hh]; rfl, by rw [blk_cell hh]; rfl⟩)
    obtain ⟨r0, r1, r2, r3⟩ : C4 w13 s6 0 (.int .i64 (-2)) (.slice (some ⟨b5, o5, none⟩) 1 c5) (.slice sA5 0 sc5) (.slice lA5 0 lc5) := (by have hh := HA_5.out.1; exact ⟨by rw [blk_cell hh]; rfl, by rw [blk_cell hh]; rfl, by rw [blk_cell hh]; rfl, by rw [blk_cell hh]; rfl⟩)
    obtain ⟨t0, t1, t2, t3⟩ : C4 w13 s8 0 (.int .i64 (-2)) (.slice (some ⟨b6, o6, none⟩) 1 c6) (.slice sA6 0 sc6) (.slice lA6 0 lc6) := (by have hh := HA_6.out.1; exact ⟨by rw [blk_cell hh]; rfl, by rw [blk_cell hh]; rfl, by rw [blk_cell hh]; rfl, by rw [blk_cell hh]; rfl⟩)
    go_upto_region 9 with (go_at_call 11; refine (num8_any _ _).mono ?_; rintro e wn ⟨rfl, rfl⟩)
    by_cases hnn : nnI l = 0
    · have hq : q4 = -9223372036854775808 := by rw [HQ4.out, if_pos hnn]
      have e4 : (q4 != -9223372036854775808) = false := by rw [hq]; rfl
      clear hnn hq
      clear HQ4 HQ5 HQ6
      go_wp2_with fail
      have HBc := hide HB13.out
      have HGc := hide HG13.out
      have HVc := hide HV13.out
      clear e4 k4 p0 p1 p2 p3 r0 r1 r2 r3 t0 t1 t2 t3 HA_4 HA_5 HA_6 HB13 HG13 HV13
      obtain ⟨wc, rfl⟩ : ∃ wc, wc = w13 := ⟨_, rfl⟩
      go_loopw [14] (fun i wr => ∃ j : Nat, i = .int .i64 (j : Int) ∧ j ≤ l.length ∧ (∀ k, k < j → l.getD k 0 ≠ -9223372036854775808) ∧ wc = wr) (fun i _ => l.length - (intOf i).toNat)
      case atStart => exact ⟨0, rfl, Nat.zero_le _, fun k hk => absurd hk (Nat.not_lt_zero k), by first | trivial | rfl⟩
      case round =>
        obtain ⟨j, rfl, hj, hno, rfl⟩ := hrel
        by_cases hlt : j < l.length
        · have hlt1 : (j : Int) < (l.length : Int) := by omega
          have h6 : IntKind.i64.wrap ((j : Int) + 1) = ((j + 1 : Nat) : Int) := by rw [IntKind.wrap_i64]; have := HL.out; omega
          obtain ⟨ad, hA, _, hcl0⟩ := HR.out.i64 hlt
          subst hA
          have hcl := cell_gb hcl0 HGc.out
          clear hcl0
          obtain ⟨p, hp⟩ : ∃ p, p = l[j] := ⟨_, rfl⟩
          rw [← hp] at hcl
          have hgd : l.getD j 0 = p := (getD_lt8 hlt).trans hp.symm
          have HNO := hide hno
          have HLT := hide hlt
          by_cases hpn : p = -9223372036854775808
          · have e0 := int_beq_t hpn
            clear hno hlt hj hp hgd hpn
            go_wp2_with (go_at_call 8; refine (live8_any _).mono ?_; rintro e wl ⟨rfl, hgl⟩; have HGL := hide hgl; clear hgl)
            exact bodyPost_ret (v := .bool true) (by simp [results, Tryz.results4, go_sem]) rfl ⟨rfl, gb_trans HGc.out HGL.out (.inl rfl)⟩
          · have e0 := int_beq_f hpn
            have HGD := hide hgd
            have HPN := hide hpn
            clear hno hlt hj hp hgd hpn
            go_wp2_with fail
            go_roundw
            case rel => exact ⟨j + 1, by go_num, HLT.out, fun k hk => (Nat.lt_succ_iff_lt_or_eq.1 hk).elim (HNO.out k) (fun e => by rw [e, HGD.out]; exact HPN.out), by first | trivial | rfl⟩
            case measure => have := HLT.out; simp [intOf]; omega
        · have hlt1 : ¬ (j : Int) < (l.length : Int) := by omega
          have hn : ∀ x ∈ l, x ≠ -9223372036854775808 := fun x hx => by
            obtain ⟨k, hk, rfl⟩ := List.getElem_of_mem hx
            have := hno k (by omega)
            rwa [getD_lt8 hk] at this
          have HD := hide (deltas_int l HI.out (by have := HL.out; omega) wc wc.heap.size vA vc none 0 none 0 (Nat.le_refl _) HVc.out)
          obtain ⟨v0, v1, v2, v3⟩ : C4 wc s3 0 (.int .i64 2) (.slice vA l.length vc) (.slice none 0 0) (.slice none 0 0) := (by have hh := HBc.out; exact ⟨by rw [blk_cell hh]; rfl, by rw [blk_cell hh]; rfl, by rw [blk_cell hh]; rfl, by rw [blk_cell hh]; rfl⟩)
          clear hno hlt hj
          cases hea : eachO (strictF difF) (l.drop 1) (l.take (l.length - 1)) 0 (l.length - 1) with
          | none =>
            have hd : dltR l = .error 70 := by unfold dltR; rw [hea]
            rw [hd] at HD
            clear hd hea hn
            go_wp2_with (first
              | (go_at_call 17; refine HD.out.mono ?_; rintro e wd ⟨hgd, rfl⟩; have HGD := hide hgd; clear hgd)
              | (go_at_call 11; refine (num8_any _ _).mono ?_; rintro e wn ⟨rfl, rfl⟩)
              | (go_at_call 8; refine (live8_any _).mono ?_; rintro e wl ⟨rfl, hgl⟩; have HGL := hide hgl; clear hgl))
            exact bodyPost_ret (v := .bool true) (by simp [results, Tryz.results4, go_sem]) rfl ⟨rfl, gb_trans HGc.out (gb_trans (gb_trans HGD.out (gb_alloc (gb_refl wd none) _) (.inl rfl)) HGL.out (.inl rfl)) (.inl rfl)⟩
          | some xs =>
            have hd : dltR l = .ok (2, l.take 1 ++ xs) := by unfold dltR; rw [hea]
            rw [hd] at HD
            have hDl := dlt_len l xs hea
            have HSU := hide (fun (w2 : World) (dA : Option Addr) (dc : Nat) (h2 : VB w2 w2.heap.size (.mk 2 (l.take 1 ++ xs) [] []) dA dc none 0 none 0) => sums_int (l.take 1 ++ xs) (dlt_in l xs HI.out hea) (by rw [hDl]; have := HL.out; omega) (dlt_ok l xs HI.out hn hea) w2 w2.heap.size dA dc none 0 none 0 (Nat.le_refl _) h2)
            rw [prefL_undo l xs hn hea] at HSU
            obtain ⟨D, hD⟩ : ∃ D, D = l.take 1 ++ xs := ⟨_, rfl⟩
            rw [← hD] at HD HSU hDl
            have HDl := hide hDl
            clear hd hea hn hD hDl
            go_upto_region 20 with (go_at_call 17; refine HD.out.mono ?_; rintro e wd ⟨hgd, dA, dc, hled, rfl, hod⟩; have HGD := hide hgd; have HOD := hide hod; have HLD := hide hled; clear hgd hod hled v0 v1 v2 v3)
            obtain ⟨we, hwe⟩ : ∃ we, we = wd.alloc (.cells #[.int .i64 2, .slice dA D.length dc, .slice none 0 0, .slice none 0 0] 26) := ⟨_, rfl⟩
            obtain ⟨s15, hs15⟩ : ∃ s15, s15 = wd.heap.size := ⟨_, rfl⟩
            rw [← hwe, ← hs15]
            have hbe : we.heap[s15]? = some (.cells #[.int .i64 2, .slice dA D.length dc, .slice none 0 0, .slice none 0 0] 26 (0, 0)) := by rw [hwe, hs15]; exact heap_alloc_new wd _
            have hge : wd.grownBy we none := by rw [hwe]; exact gb_alloc (gb_refl wd none) _
            have HGE := hide (gb_trans HGD.out hge (.inl rfl))
            have HSE := hide (HSU.out we dA dc ⟨((Rd.of_own HOD.out).grown hge (Nat.le_refl _) (by simp)).more hge.size, Rd.nil_, ⟨[], Rd.nil_, rfl⟩, HLD.out, Nat.le_refl _, Nat.le_refl _⟩)
            obtain ⟨d0, d1, d2, d3⟩ : C4 we s15 0 (.int .i64 2) (.slice dA D.length dc) (.slice none 0 0) (.slice none 0 0) := (by have hh := hbe; exact ⟨by rw [blk_cell hh]; rfl, by rw [blk_cell hh]; rfl, by rw [blk_cell hh]; rfl, by rw [blk_cell hh]; rfl⟩)
            clear hwe hs15 hbe hge HSU HD
            go_upto_region 23 with (first
              | (go_at_call 11; refine (num8_any _ _).mono ?_; rintro e wn ⟨rfl, rfl⟩)
              | (go_at_call 18; refine HSE.out.mono ?_; rintro e wf ⟨hgf, fA, fc, hlef, rfl, hof⟩; have HGF := hide (gb_trans HGE.out hgf (.inl rfl)); have HOF := hide hof; have HLF := hide hlef; clear hgf hof hlef d0 d1 d2 d3))
            obtain ⟨wg, hwg⟩ : ∃ wg, wg = wf.alloc (.cells #[.int .i64 2, .slice fA l.length fc, .slice none 0 0, .slice none 0 0] 26) := ⟨_, rfl⟩
            obtain ⟨s17, hs17⟩ : ∃ s17, s17 = wf.heap.size := ⟨_, rfl⟩
            rw [← hwg, ← hs17]
            have hbg : wg.heap[s17]? = some (.cells #[.int .i64 2, .slice fA l.length fc, .slice none 0 0, .slice none 0 0] 26 (0, 0)) := by rw [hwg, hs17]; exact heap_alloc_new wf _
            have hgg : wf.grownBy wg none := by rw [hwg]; exact gb_alloc (gb_refl wf none) _
            have HGG := hide (gb_trans HGF.out hgg (.inl rfl))
            have ht : (Vl.mk 2 l [] []).tot ≤ 1100000 := by rw [Vl.tot_def]; show 1 + l.length + 0 + 0 + 0 ≤ 1100000; have := HL.out; omega
            have HMA : Hid (Calls Tryz.prog 19 #[.agg #[.int .i64 2, .slice fA l.length fc, .slice none 0 0, .slice none 0 0], .agg #[.int .i64 2, .slice vA l.length vc, .slice none 0 0, .slice none 0 0]] wg fun e w' => e = .returned (.bool true) ∧ wg.grownBy w' none) := hide (by
              have h := rMatch_any (.mk 2 l [] []) (.mk 2 l [] []) wg wg.heap.size fA fc none 0 none 0 vA vc none 0 none 0 ht ht (Nat.le_refl _) ⟨((Rd.of_own HOF.out).grown hgg (Nat.le_refl _) (by simp)).more hgg.size, Rd.nil_, ⟨[], Rd.nil_, rfl⟩, HLF.out, Nat.le_refl _, Nat.le_refl _⟩ ((HVc.out.gb HGG.out (Nat.le_refl _)).up HGG.out.size)
              rwa [Vl.same_refl] at h)
            obtain ⟨f0, f1, f2, f3⟩ : C4 wg s17 0 (.int .i64 2) (.slice fA l.length fc) (.slice none 0 0) (.slice none 0 0) := (by have hh := hbg; exact ⟨by rw [blk_cell hh]; rfl, by rw [blk_cell hh]; rfl, by rw [blk_cell hh]; rfl, by rw [blk_cell hh]; rfl⟩)
            obtain ⟨v0, v1, v2, v3⟩ : C4 wg s3 0 (.int .i64 2) (.slice vA l.length vc) (.slice none 0 0) (.slice none 0 0) := (by have hh := blk_keep HBc.out HGG.out (by simp); exact ⟨by rw [blk_cell hh]; rfl, by rw [blk_cell hh]; rfl, by rw [blk_cell hh]; rfl, by rw [blk_cell hh]; rfl⟩)
            clear hwg hs17 hbg hgg ht
            go_wp2_with (first
              | (go_at_call 11; refine (num8_any _ _).mono ?_; rintro e wn ⟨rfl, rfl⟩)
              | (go_at_call 19; refine HMA.out.mono ?_; rintro e wh ⟨rfl, hgh⟩; have HGH := hide (gb_trans HGG.out hgh (.inl rfl)); clear hgh f0 f1 f2 f3 v0 v1 v2 v3)
              | (go_at_call 8; refine (live8_any _).mono ?_; rintro e wl ⟨rfl, hgl⟩; have HGL := hide hgl; clear hgl))
            exact bodyPost_ret (v := .bool true) (by simp [results, Tryz.results4, go_sem]) rfl ⟨rfl, gb_trans HGc.out (gb_trans HGH.out HGL.out (.inl rfl)) (.inl rfl)⟩
    · have hp : 0 < nnI l := by omega
      obtain ⟨m4, n4, x4⟩ := best_is false l hp
      obtain ⟨m5, n5, x5⟩ := best_is true l hp
      rw [← (HQ4.out.trans (if_neg hnn))] at m4 n4 x4
      rw [← (HQ5.out.trans (if_neg hnn))] at m5 n5 x5
      have h6 := avg_in q4 q5 l hp (fun x hx hxn => by have := x4 x hx hxn; simp only [ahead, Bool.false_eq_true, if_false] at this; omega) (fun x hx hxn => by have := x5 x hx hxn; simp only [ahead, if_true] at this; omega)
      rw [← (HQ6.out.trans (if_neg hnn))] at h6
      have e4 : (q4 != -9223372036854775808) = true := by simp [n4]
      have HM4 := hide m4
      have HM5 := hide m5
      have H64 := hide h6.1
      have H65 := hide h6.2
      clear hnn hp m4 n4 x4 m5 n5 x5 h6 HQ4 HQ5 HQ6
      have HF4 := hide (fun (w2 : World) (hg : w13.grownBy w2 none) => find_int l q4 (by have := HL.out; omega) w2 w2.heap.size vA vc none 0 none 0 (some ⟨b4, o4, none⟩) c4 sA4 sc4 lA4 lc4 (Nat.le_refl _) ((HV13.out.gb hg (Nat.le_refl _)).up hg.size) (HA_4.out.gb hg).vb)
      have HF5 := hide (fun (w2 : World) (hg : w13.grownBy w2 none) => find_int l q5 (by have := HL.out; omega) w2 w2.heap.size vA vc none 0 none 0 (some ⟨b5, o5, none⟩) c5 sA5 sc5 lA5 lc5 (Nat.le_refl _) ((HV13.out.gb hg (Nat.le_refl _)).up hg.size) (HA_5.out.gb hg).vb)
      clear r0 r1 r2 r3 t0 t1 t2 t3
      obtain ⟨v0, v1, v2, v3⟩ : C4 w13 s3 0 (.int .i64 2) (.slice vA l.length vc) (.slice none 0 0) (.slice none 0 0) := (by have hh := HB13.out; exact ⟨by rw [blk_cell hh]; rfl, by rw [blk_cell hh]; rfl, by rw [blk_cell hh]; rfl, by rw [blk_cell hh]; rfl⟩)
      go_upto_region 11 with (go_at_call 16; refine (HF4.out _ (gb_refl _ none)).mono ?_; rintro e wi ⟨ki, rfl, hki, hgi⟩; have HKI := hide (hki HM4.out); have HGI := hide hgi; clear hki hgi e4 k4 p0 p1 p2 p3 v0 v1 v2 v3)
      have HAI := hide (HA_5.out.gb HGI.out)
      obtain ⟨r0, r1, r2, r3⟩ : C4 wi s6 0 (.int .i64 (-2)) (.slice (some ⟨b5, o5, none⟩) 1 c5) (.slice sA5 0 sc5) (.slice lA5 0 lc5) := (by have hh := HAI.out.1; exact ⟨by rw [blk_cell hh]; rfl, by rw [blk_cell hh]; rfl, by rw [blk_cell hh]; rfl, by rw [blk_cell hh]; rfl⟩)
      obtain ⟨v0, v1, v2, v3⟩ : C4 wi s3 0 (.int .i64 2) (.slice vA l.length vc) (.slice none 0 0) (.slice none 0 0) := (by have hh := blk_keep HB13.out HGI.out (by simp); exact ⟨by rw [blk_cell hh]; rfl, by rw [blk_cell hh]; rfl, by rw [blk_cell hh]; rfl, by rw [blk_cell hh]; rfl⟩)
      go_upto_region 12 with (go_at_call 16; refine (HF5.out _ HGI.out).mono ?_; rintro e wj ⟨kj, rfl, hkj, hgj⟩; have HKJ := hide (hkj HM5.out); have HGJ := hide (gb_trans HGI.out hgj (.inl rfl)); clear hkj hgj r0 r1 r2 r3 v0 v1 v2 v3)
      have HJ4 := hide (HA_4.out.gb HGJ.out)
      have HJ5 := hide (HA_5.out.gb HGJ.out)
      have HJ6 := hide (HA_6.out.gb HGJ.out)
      have y1 : ¬ (l.length : Int) ≤ (ki : Int) := by have := HKI.out; omega
      have y2 : ¬ (l.length : Int) ≤ (kj : Int) := by have := HKJ.out; omega
      have y3 : ¬ q6 < q4 := by have := H64.out; omega
      have y4 : ¬ q5 < q6 := by have := H65.out; omega
      have z1 : (ki : Int) < (l.length : Int) := by omega
      have z2 : (kj : Int) < (l.length : Int) := by omega
      have z3 : q4 ≤ q6 := by omega
      have z4 : q6 ≤ q5 := by omega
      refine wp_region_facts' 31 (by kernel_rfl) (by kernel_rfl) ?_
      intro A O W L HA HO HW HL
      simp only [List.take_succ_cons, List.take_zero]
      have HS := hide (show A.tmps.size = 160 by rw [HA.out]; rfl)
      have HGW := hide (show wj.grownBy W none by rw [HW.out]; exact gb_drew (gb_refl wj none))
      have A0 := hide (show A.eval (.tmp 0) = .slice xA0 l.length xc0 by rw [HA.out]; rfl)
      have A4 := hide (show A.eval (.tmp 4) = .pointer (some ⟨s4, 0, none⟩) by rw [HA.out]; rfl)
      have A6 := hide (show A.eval (.tmp 6) = .pointer (some ⟨s6, 0, none⟩) by rw [HA.out]; rfl)
      have A8 := hide (show A.eval (.tmp 8) = .pointer (some ⟨s8, 0, none⟩) by rw [HA.out]; rfl)
      have A10 := hide (show A.eval (.tmp 10) = .int .i64 (ki : Int) by rw [HA.out]; rfl)
      have A12 := hide (show A.eval (.tmp 12) = .int .i64 (kj : Int) by rw [HA.out]; rfl)
      -- slot 86
      refine wpFacts_lit (.int .i64 (ki : Int)) rfl ?_ ?_
      · intro a wq hw hl
        have e10 : a.tmps[10]?.getD undef = .int .i64 (ki : Int) := (hl 10 (by first | (simp [Op.operands]; done) | simp [Op.operands, Call.operands]) (by rw [HS.out]; decide)).trans A10.out
        clear hl
        go_simp
      -- slot 87
      refine wpFacts_lit (.slice xA0 l.length xc0) rfl ?_ ?_
      · intro a wq hw hl
        have e0 : a.tmps[0]?.getD undef = .slice xA0 l.length xc0 := (hl 0 (by first | (simp [Op.operands]; done) | simp [Op.operands, Call.operands]) (by rw [HS.out]; decide)).trans A0.out
        clear hl
        go_simp
      -- slot 88
      refine wpFacts_lit (.int .i64 ((l.length : Nat) : Int)) rfl ?_ ?_
      · intro a wq hw hl
        have e87 : a.tmps[87]?.getD undef = .slice xA0 l.length xc0 := hl 87 (by first | (simp [Op.operands]; done) | simp [Op.operands, Call.operands]) (by rw [HS.out]; decide)
        clear hl
        go_simp
      -- slot 89
      refine wpFacts_lit (.bool false) rfl ?_ ?_
      · intro a wq hw hl
        have e86 : a.tmps[86]?.getD undef = .int .i64 (ki : Int) := hl 86 (by first | (simp [Op.operands]; done) | simp [Op.operands, Call.operands]) (by rw [HS.out]; decide)
        have e88 : a.tmps[88]?.getD undef = .int .i64 ((l.length : Nat) : Int) := hl 88 (by first | (simp [Op.operands]; done) | simp [Op.operands, Call.operands]) (by rw [HS.out]; decide)
        clear hl
        go_simp
      -- slot 90
      refine wpFacts_lit (.bool false) rfl ?_ ?_
      · intro a wq hw hl
        have e89 : a.tmps[89]?.getD undef = .bool false := hl 89 (by first | (simp [Op.operands]; done) | simp [Op.operands, Call.operands]) (by rw [HS.out]; decide)
        clear hl
        go_simp
      -- slot 91
      refine wpFacts_litG (.int .i64 (kj : Int)) 4 false 90 rfl (by rw [HO.out]; rfl) (by rw [HS.out]; decide) (fun _ _ h => h) ?_ ?_
      · intro a wq hw hl
        have e12 : a.tmps[12]?.getD undef = .int .i64 (kj : Int) := (hl 12 (by first | (simp [Op.operands]; done) | simp [Op.operands, Call.operands]) (by rw [HS.out]; decide)).trans A12.out
        clear hl
        go_simp
      -- slot 92
      refine wpFacts_litG (.slice xA0 l.length xc0) 4 false 90 rfl (by rw [HO.out]; rfl) (by rw [HS.out]; decide) (fun _ _ h => h) ?_ ?_
      · intro a wq hw hl
        have e0 : a.tmps[0]?.getD undef = .slice xA0 l.length xc0 := (hl 0 (by first | (simp [Op.operands]; done) | simp [Op.operands, Call.operands]) (by rw [HS.out]; decide)).trans A0.out
        clear hl
        go_simp
      -- slot 93
      refine wpFacts_litG (.int .i64 ((l.length : Nat) : Int)) 4 false 90 rfl (by rw [HO.out]; rfl) (by rw [HS.out]; decide) (fun _ _ h => h) ?_ ?_
      · intro a wq hw hl
        have e92 : a.tmps[92]?.getD undef = .slice xA0 l.length xc0 := hl 92 (by first | (simp [Op.operands]; done) | simp [Op.operands, Call.operands]) (by rw [HS.out]; decide)
        clear hl
        go_simp
      -- slot 94
      refine wpFacts_litG (.bool false) 4 false 90 rfl (by rw [HO.out]; rfl) (by rw [HS.out]; decide) (fun _ _ h => h) ?_ ?_
      · intro a wq hw hl
        have e91 : a.tmps[91]?.getD undef = .int .i64 (kj : Int) := hl 91 (by first | (simp [Op.operands]; done) | simp [Op.operands, Call.operands]) (by rw [HS.out]; decide)
        have e93 : a.tmps[93]?.getD undef = .int .i64 ((l.length : Nat) : Int) := hl 93 (by first | (simp [Op.operands]; done) | simp [Op.operands, Call.operands]) (by rw [HS.out]; decide)
        clear hl
        go_simp
      -- slot 95
      refine wpFacts_lit (.bool false) rfl ?_ ?_
      · intro a wq hw hl
        have e90 : a.tmps[90]?.getD undef = .bool false := hl 90 (by first | (simp [Op.operands]; done) | simp [Op.operands, Call.operands]) (by rw [HS.out]; decide)
        have e94 : a.tmps[94]?.getD undef = .bool false := hl 94 (by first | (simp [Op.operands]; done) | simp [Op.operands, Call.operands]) (by rw [HS.out]; decide)
        clear hl
        go_simp
      -- slot 96
      refine wpFacts_lit (.bool false) rfl ?_ ?_
      · intro a wq hw hl
        have e95 : a.tmps[95]?.getD undef = .bool false := hl 95 (by first | (simp [Op.operands]; done) | simp [Op.operands, Call.operands]) (by rw [HS.out]; decide)
        clear hl
        go_simp
      -- slot 97
      refine wpFacts_litG (.pointer (some ⟨s8, 1, none⟩)) 10 false 96 rfl (by rw [HO.out]; rfl) (by rw [HS.out]; decide) (fun _ _ h => h) ?_ ?_
      · intro a wq hw hl
        have e8 : a.tmps[8]?.getD undef = .pointer (some ⟨s8, 0, none⟩) := (hl 8 (by first | (simp [Op.operands]; done) | simp [Op.operands, Call.operands]) (by rw [HS.out]; decide)).trans A8.out
        clear hl
        go_simp
      -- slot 98
      refine wpFacts_litG (.slice (some ⟨b6, o6, none⟩) 1 c6) 10 false 96 rfl (by rw [HO.out]; rfl) (by rw [HS.out]; decide) (fun _ _ h => h) ?_ ?_
      · intro a wq hw hl
        have e97 : a.tmps[97]?.getD undef = .pointer (some ⟨s8, 1, none⟩) := hl 97 (by first | (simp [Op.operands]; done) | simp [Op.operands, Call.operands]) (by rw [HS.out]; decide)
        have hbJ6 := (HJ6.out.gb (gb_trans HGW.out hw (.inl rfl))).1
        have c0 : wq.cell? ⟨s8, 1, none⟩ = some (.slice (some ⟨b6, o6, none⟩) 1 c6) := by rw [blk_cell hbJ6]; rfl
        clear hbJ6
        clear hl
        go_simp
      -- slot 99
      refine wpFacts_litG (.pointer (some ⟨b6, o6, none⟩)) 10 false 96 rfl (by rw [HO.out]; rfl) (by rw [HS.out]; decide) (fun _ _ h => h) ?_ ?_
      · intro a wq hw hl
        have e98 : a.tmps[98]?.getD undef = .slice (some ⟨b6, o6, none⟩) 1 c6 := hl 98 (by first | (simp [Op.operands]; done) | simp [Op.operands, Call.operands]) (by rw [HS.out]; decide)
        clear hl
        go_simp
      -- slot 100
      refine wpFacts_litG (.int .i64 q6) 10 false 96 rfl (by rw [HO.out]; rfl) (by rw [HS.out]; decide) (fun _ _ h => h) ?_ ?_
      · intro a wq hw hl
        have e99 : a.tmps[99]?.getD undef = .pointer (some ⟨b6, o6, none⟩) := hl 99 (by first | (simp [Op.operands]; done) | simp [Op.operands, Call.operands]) (by rw [HS.out]; decide)
        have kk := (HJ6.out.gb (gb_trans HGW.out hw (.inl rfl))).2.1
        clear hl
        go_simp
      -- slot 101
      refine wpFacts_litG (.pointer (some ⟨s4, 1, none⟩)) 10 false 96 rfl (by rw [HO.out]; rfl) (by rw [HS.out]; decide) (fun _ _ h => h) ?_ ?_
      · intro a wq hw hl
        have e4 : a.tmps[4]?.getD undef = .pointer (some ⟨s4, 0, none⟩) := (hl 4 (by first | (simp [Op.operands]; done) | simp [Op.operands, Call.operands]) (by rw [HS.out]; decide)).trans A4.out
        clear hl
        go_simp
      -- slot 102
      refine wpFacts_litG (.slice (some ⟨b4, o4, none⟩) 1 c4) 10 false 96 rfl (by rw [HO.out]; rfl) (by rw [HS.out]; decide) (fun _ _ h => h) ?_ ?_
      · intro a wq hw hl
        have e101 : a.tmps[101]?.getD undef = .pointer (some ⟨s4, 1, none⟩) := hl 101 (by first | (simp [Op.operands]; done) | simp [Op.operands, Call.operands]) (by rw [HS.out]; decide)
        have hbJ4 := (HJ4.out.gb (gb_trans HGW.out hw (.inl rfl))).1
        have c0 : wq.cell? ⟨s4, 1, none⟩ = some (.slice (some ⟨b4, o4, none⟩) 1 c4) := by rw [blk_cell hbJ4]; rfl
        clear hbJ4
        clear hl
        go_simp
      -- slot 103
      refine wpFacts_litG (.pointer (some ⟨b4, o4, none⟩)) 10 false 96 rfl (by rw [HO.out]; rfl) (by rw [HS.out]; decide) (fun _ _ h => h) ?_ ?_
      · intro a wq hw hl
        have e102 : a.tmps[102]?.getD undef = .slice (some ⟨b4, o4, none⟩) 1 c4 := hl 102 (by first | (simp [Op.operands]; done) | simp [Op.operands, Call.operands]) (by rw [HS.out]; decide)
        clear hl
        go_simp
      -- slot 104
      refine wpFacts_litG (.int .i64 q4) 10 false 96 rfl (by rw [HO.out]; rfl) (by rw [HS.out]; decide) (fun _ _ h => h) ?_ ?_
      · intro a wq hw hl
        have e103 : a.tmps[103]?.getD undef = .pointer (some ⟨b4, o4, none⟩) := hl 103 (by first | (simp [Op.operands]; done) | simp [Op.operands, Call.operands]) (by rw [HS.out]; decide)
        have kk := (HJ4.out.gb (gb_trans HGW.out hw (.inl rfl))).2.1
        clear hl
        go_simp
      -- slot 105
      refine wpFacts_litG (.bool false) 10 false 96 rfl (by rw [HO.out]; rfl) (by rw [HS.out]; decide) (fun _ _ h => h) ?_ ?_
      · intro a wq hw hl
        have e100 : a.tmps[100]?.getD undef = .int .i64 q6 := hl 100 (by first | (simp [Op.operands]; done) | simp [Op.operands, Call.operands]) (by rw [HS.out]; decide)
        have e104 : a.tmps[104]?.getD undef = .int .i64 q4 := hl 104 (by first | (simp [Op.operands]; done) | simp [Op.operands, Call.operands]) (by rw [HS.out]; decide)
        clear hl
        go_simp
      -- slot 106
      refine wpFacts_lit (.bool false) rfl ?_ ?_
      · intro a wq hw hl
        have e96 : a.tmps[96]?.getD undef = .bool false := hl 96 (by first | (simp [Op.operands]; done) | simp [Op.operands, Call.operands]) (by rw [HS.out]; decide)
        have e105 : a.tmps[105]?.getD undef = .bool false := hl 105 (by first | (simp [Op.operands]; done) | simp [Op.operands, Call.operands]) (by rw [HS.out]; decide)
        clear hl
        go_simp
      -- slot 107
      refine wpFacts_lit (.bool false) rfl ?_ ?_
      · intro a wq hw hl
        have e106 : a.tmps[106]?.getD undef = .bool false := hl 106 (by first | (simp [Op.operands]; done) | simp [Op.operands, Call.operands]) (by rw [HS.out]; decide)
        clear hl
        go_simp
      -- slot 108
      refine wpFacts_litG (.pointer (some ⟨s8, 1, none⟩)) 21 false 107 rfl (by rw [HO.out]; rfl) (by rw [HS.out]; decide) (fun _ _ h => h) ?_ ?_
      · intro a wq hw hl
        have e8 : a.tmps[8]?.getD undef = .pointer (some ⟨s8, 0, none⟩) := (hl 8 (by first | (simp [Op.operands]; done) | simp [Op.operands, Call.operands]) (by rw [HS.out]; decide)).trans A8.out
        clear hl
        go_simp
      -- slot 109
      refine wpFacts_litG (.slice (some ⟨b6, o6, none⟩) 1 c6) 21 false 107 rfl (by rw [HO.out]; rfl) (by rw [HS.out]; decide) (fun _ _ h => h) ?_ ?_
      · intro a wq hw hl
        have e108 : a.tmps[108]?.getD undef = .pointer (some ⟨s8, 1, none⟩) := hl 108 (by first | (simp [Op.operands]; done) | simp [Op.operands, Call.operands]) (by rw [HS.out]; decide)
        have hbJ6 := (HJ6.out.gb (gb_trans HGW.out hw (.inl rfl))).1
        have c0 : wq.cell? ⟨s8, 1, none⟩ = some (.slice (some ⟨b6, o6, none⟩) 1 c6) := by rw [blk_cell hbJ6]; rfl
        clear hbJ6
        clear hl
        go_simp
      -- slot 110
      refine wpFacts_litG (.pointer (some ⟨b6, o6, none⟩)) 21 false 107 rfl (by rw [HO.out]; rfl) (by rw [HS.out]; decide) (fun _ _ h => h) ?_ ?_
      · intro a wq hw hl
        have e109 : a.tmps[109]?.getD undef = .slice (some ⟨b6, o6, none⟩) 1 c6 := hl 109 (by first | (simp [Op.operands]; done) | simp [Op.operands, Call.operands]) (by rw [HS.out]; decide)
        clear hl
        go_simp
      -- slot 111
      refine wpFacts_litG (.int .i64 q6) 21 false 107 rfl (by rw [HO.out]; rfl) (by rw [HS.out]; decide) (fun _ _ h => h) ?_ ?_
      · intro a wq hw hl
        have e110 : a.tmps[110]?.getD undef = .pointer (some ⟨b6, o6, none⟩) := hl 110 (by first | (simp [Op.operands]; done) | simp [Op.operands, Call.operands]) (by rw [HS.out]; decide)
        have kk := (HJ6.out.gb (gb_trans HGW.out hw (.inl rfl))).2.1
        clear hl
        go_simp
      -- slot 112
      refine wpFacts_litG (.pointer (some ⟨s6, 1, none⟩)) 21 false 107 rfl (by rw [HO.out]; rfl) (by rw [HS.out]; decide) (fun _ _ h => h) ?_ ?_
      · intro a wq hw hl
        have e6 : a.tmps[6]?.getD undef = .pointer (some ⟨s6, 0, none⟩) := (hl 6 (by first | (simp [Op.operands]; done) | simp [Op.operands, Call.operands]) (by rw [HS.out]; decide)).trans A6.out
        clear hl
        go_simp
      -- slot 113
      refine wpFacts_litG (.slice (some ⟨b5, o5, none⟩) 1 c5) 21 false 107 rfl (by rw [HO.out]; rfl) (by rw [HS.out]; decide) (fun _ _ h => h) ?_ ?_
      · intro a wq hw hl
        have e112 : a.tmps[112]?.getD undef = .pointer (some ⟨s6, 1, none⟩) := hl 112 (by first | (simp [Op.operands]; done) | simp [Op.operands, Call.operands]) (by rw [HS.out]; decide)
        have hbJ5 := (HJ5.out.gb (gb_trans HGW.out hw (.inl rfl))).1
        have c0 : wq.cell? ⟨s6, 1, none⟩ = some (.slice (some ⟨b5, o5, none⟩) 1 c5) := by rw [blk_cell hbJ5]; rfl
        clear hbJ5
        clear hl
        go_simp
      -- slot 114
      refine wpFacts_litG (.pointer (some ⟨b5, o5, none⟩)) 21 false 107 rfl (by rw [HO.out]; rfl) (by rw [HS.out]; decide) (fun _ _ h => h) ?_ ?_
      · intro a wq hw hl
        have e113 : a.tmps[113]?.getD undef = .slice (some ⟨b5, o5, none⟩) 1 c5 := hl 113 (by first | (simp [Op.operands]; done) | simp [Op.operands, Call.operands]) (by rw [HS.out]; decide)
        clear hl
        go_simp
      -- slot 115
      refine wpFacts_litG (.int .i64 q5) 21 false 107 rfl (by rw [HO.out]; rfl) (by rw [HS.out]; decide) (fun _ _ h => h) ?_ ?_
      · intro a wq hw hl
        have e114 : a.tmps[114]?.getD undef = .pointer (some ⟨b5, o5, none⟩) := hl 114 (by first | (simp [Op.operands]; done) | simp [Op.operands, Call.operands]) (by rw [HS.out]; decide)
        have kk := (HJ5.out.gb (gb_trans HGW.out hw (.inl rfl))).2.1
        clear hl
        go_simp
      -- slot 116
      refine wpFacts_litG (.bool false) 21 false 107 rfl (by rw [HO.out]; rfl) (by rw [HS.out]; decide) (fun _ _ h => h) ?_ ?_
      · intro a wq hw hl
        have e111 : a.tmps[111]?.getD undef = .int .i64 q6 := hl 111 (by first | (simp [Op.operands]; done) | simp [Op.operands, Call.operands]) (by rw [HS.out]; decide)
        have e115 : a.tmps[115]?.getD undef = .int .i64 q5 := hl 115 (by first | (simp [Op.operands]; done) | simp [Op.operands, Call.operands]) (by rw [HS.out]; decide)
        clear hl
        go_simp
      refine HL.out _ (fun a' wz hc => ?_)
      have e107 : a'.eval (.tmp 107) = .bool false := hc.fact 107 (by rw [HS.out]; decide)
      have e116 : a'.eval (.tmp 116) = .bool false := hc.fact 116 (by rw [HS.out]; decide)
      have hgwz := gb_trans HGW.out hc.grown (.inl rfl)
      have hfr := hc.frame [86, 87, 88, 89, 90, 91, 92, 93, 94, 95, 96, 97, 98, 99, 100, 101, 102, 103, 104, 105, 106, 107, 108, 109, 110, 111, 112, 113, 114, 115, 116, 117] (by rw [HO.out]; kernel_rfl)
      rw [hfr]
      clear hfr hc
      rw [HA.out]
      clear HA HO HL HW HS HGW A0 A4 A6 A8 A10 A12
      clear A O W L
      simp only [List.drop_succ_cons, List.drop_zero, List.foldl_cons, List.foldl_nil, Act.put, List.setIfInBounds_toArray, List.set_cons_succ, List.set_cons_zero]
      rw [e107, e116]
      generalize a'.eval (.tmp 86) = x86
      generalize a'.eval (.tmp 87) = x87
      generalize a'.eval (.tmp 88) = x88
      generalize a'.eval (.tmp 89) = x89
      generalize a'.eval (.tmp 90) = x90
      generalize a'.eval (.tmp 91) = x91
      generalize a'.eval (.tmp 92) = x92
      generalize a'.eval (.tmp 93) = x93
      generalize a'.eval (.tmp 94) = x94
      generalize a'.eval (.tmp 95) = x95
      generalize a'.eval (.tmp 96) = x96
      generalize a'.eval (.tmp 97) = x97
      generalize a'.eval (.tmp 98) = x98
      generalize a'.eval (.tmp 99) = x99
      generalize a'.eval (.tmp 100) = x100
      generalize a'.eval (.tmp 101) = x101
      generalize a'.eval (.tmp 102) = x102
      generalize a'.eval (.tmp 103) = x103
      generalize a'.eval (.tmp 104) = x104
      generalize a'.eval (.tmp 105) = x105
      generalize a'.eval (.tmp 106) = x106
      generalize a'.eval (.tmp 108) = x108
      generalize a'.eval (.tmp 109) = x109
      generalize a'.eval (.tmp 110) = x110
      generalize a'.eval (.tmp 111) = x111
      generalize a'.eval (.tmp 112) = x112
      generalize a'.eval (.tmp 113) = x113
      generalize a'.eval (.tmp 114) = x114
      generalize a'.eval (.tmp 115) = x115
      generalize a'.eval (.tmp 117) = x117
      clear e107 e116
      clear a'
      have HGZ := hide (gb_trans HGJ.out hgwz (.inl rfl))
      clear hgwz y1 y2 y3 y4 z1 z2 z3 z4
      go_wp2_with fail
      have HBc := hide (blk_keep HB13.out HGZ.out (by simp))
      have HGc := hide (gb_trans HG13.out HGZ.out (.inl rfl))
      have HVc := hide ((HV13.out.gb HGZ.out (Nat.le_refl _)).up HGZ.out.size)
      clear HA_4 HA_5 HA_6 HB13 HG13 HV13 HJ4 HJ5 HJ6 HAI HF4 HF5 HKI HKJ HGI HGJ HM4 HM5 H64 H65 HGZ
      obtain ⟨wc, rfl⟩ : ∃ wc, wc = wz := ⟨_, rfl⟩
      go_loopw [14] (fun i wr => ∃ j : Nat, i = .int .i64 (j : Int) ∧ j ≤ l.length ∧ (∀ k, k < j → l.getD k 0 ≠ -9223372036854775808) ∧ wc = wr) (fun i _ => l.length - (intOf i).toNat)
      case atStart => exact ⟨0, rfl, Nat.zero_le _, fun k hk => absurd hk (Nat.not_lt_zero k), by first | trivial | rfl⟩
      case round =>
        obtain ⟨j, rfl, hj, hno, rfl⟩ := hrel
        by_cases hlt : j < l.length
        · have hlt1 : (j : Int) < (l.length : Int) := by omega
          have h6 : IntKind.i64.wrap ((j : Int) + 1) = ((j + 1 : Nat) : Int) := by rw [IntKind.wrap_i64]; have := HL.out; omega
          obtain ⟨ad, hA, _, hcl0⟩ := HR.out.i64 hlt
          subst hA
          have hcl := cell_gb hcl0 HGc.out
          clear hcl0
          obtain ⟨p, hp⟩ : ∃ p, p = l[j] := ⟨_, rfl⟩
          rw [← hp] at hcl
          have hgd : l.getD j 0 = p := (getD_lt8 hlt).trans hp.symm
          have HNO := hide hno
          have HLT := hide hlt
          by_cases hpn : p = -9223372036854775808
          · have e0 := int_beq_t hpn
            clear hno hlt hj hp hgd hpn
            go_wp2_with (go_at_call 8; refine (live8_any _).mono ?_; rintro e wl ⟨rfl, hgl⟩; have HGL := hide hgl; clear hgl)
            exact bodyPost_ret (v := .bool true) (by simp [results, Tryz.results4, go_sem]) rfl ⟨rfl, gb_trans HGc.out HGL.out (.inl rfl)⟩
          · have e0 := int_beq_f hpn
            have HGD := hide hgd
            have HPN := hide hpn
            clear hno hlt hj hp hgd hpn
            go_wp2_with fail
            go_roundw
            case rel => exact ⟨j + 1, by go_num, HLT.out, fun k hk => (Nat.lt_succ_iff_lt_or_eq.1 hk).elim (HNO.out k) (fun e => by rw [e, HGD.out]; exact HPN.out), by first | trivial | rfl⟩
            case measure => have := HLT.out; simp [intOf]; omega
        · have hlt1 : ¬ (j : Int) < (l.length : Int) := by omega
          have hn : ∀ x ∈ l, x ≠ -9223372036854775808 := fun x hx => by
            obtain ⟨k, hk, rfl⟩ := List.getElem_of_mem hx
            have := hno k (by omega)
            rwa [getD_lt8 hk] at this
          have HD := hide (deltas_int l HI.out (by have := HL.out; omega) wc wc.heap.size vA vc none 0 none 0 (Nat.le_refl _) HVc.out)
          obtain ⟨v0, v1, v2, v3⟩ : C4 wc s3 0 (.int .i64 2) (.slice vA l.length vc) (.slice none 0 0) (.slice none 0 0) := (by have hh := HBc.out; exact ⟨by rw [blk_cell hh]; rfl, by rw [blk_cell hh]; rfl, by rw [blk_cell hh]; rfl, by rw [blk_cell hh]; rfl⟩)
          clear hno hlt hj
          cases hea : eachO (strictF difF) (l.drop 1) (l.take (l.length - 1)) 0 (l.length - 1) with
          | none =>
            have hd : dltR l = .error 70 := by unfold dltR; rw [hea]
            rw [hd] at HD
            clear hd hea hn
            go_wp2_with (first
              | (go_at_call 17; refine HD.out.mono ?_; rintro e wd ⟨hgd, rfl⟩; have HGD := hide hgd; clear hgd)
              | (go_at_call 11; refine (num8_any _ _).mono ?_; rintro e wn ⟨rfl, rfl⟩)
              | (go_at_call 8; refine (live8_any _).mono ?_; rintro e wl ⟨rfl, hgl⟩; have HGL := hide hgl; clear hgl))
            exact bodyPost_ret (v := .bool true) (by simp [results, Tryz.results4, go_sem]) rfl ⟨rfl, gb_trans HGc.out (gb_trans (gb_trans HGD.out (gb_alloc (gb_refl wd none) _) (.inl rfl)) HGL.out (.inl rfl)) (.inl rfl)⟩
          | some xs =>
            have hd : dltR l = .ok (2, l.take 1 ++ xs) := by unfold dltR; rw [hea]
            rw [hd] at HD
            have hDl := dlt_len l xs hea
            have HSU := hide (fun (w2 : World) (dA : Option Addr) (dc : Nat) (h2 : VB w2 w2.heap.size (.mk 2 (l.take 1 ++ xs) [] []) dA dc none 0 none 0) => sums_int (l.take 1 ++ xs) (dlt_in l xs HI.out hea) (by rw [hDl]; have := HL.out; omega) (dlt_ok l xs HI.out hn hea) w2 w2.heap.size dA dc none 0 none 0 (Nat.le_refl _) h2)
            rw [prefL_undo l xs hn hea] at HSU
            obtain ⟨D, hD⟩ : ∃ D, D = l.take 1 ++ xs := ⟨_, rfl⟩
            rw [← hD] at HD HSU hDl
            have HDl := hide hDl
            clear hd hea hn hD hDl
            go_upto_region 20 with (go_at_call 17; refine HD.out.mono ?_; rintro e wd ⟨hgd, dA, dc, hled, rfl, hod⟩; have HGD := hide hgd; have HOD := hide hod; have HLD := hide hled; clear hgd hod hled v0 v1 v2 v3)
            obtain ⟨we, hwe⟩ : ∃ we, we = wd.alloc (.cells #[.int .i64 2, .slice dA D.length dc, .slice none 0 0, .slice none 0 0] 26) := ⟨_, rfl⟩
            obtain ⟨s15, hs15⟩ : ∃ s15, s15 = wd.heap.size := ⟨_, rfl⟩
            rw [← hwe, ← hs15]
            have hbe : we.heap[s15]? = some (.cells #[.int .i64 2, .slice dA D.length dc, .slice none 0 0, .slice none 0 0] 26 (0, 0)) := by rw [hwe, hs15]; exact heap_alloc_new wd _
            have hge : wd.grownBy we none := by rw [hwe]; exact gb_alloc (gb_refl wd none) _
            have HGE := hide (gb_trans HGD.out hge (.inl rfl))
            have HSE := hide (HSU.out we dA dc ⟨((Rd.of_own HOD.out).grown hge (Nat.le_refl _) (by simp)).more hge.size, Rd.nil_, ⟨[], Rd.nil_, rfl⟩, HLD.out, Nat.le_refl _, Nat.le_refl _⟩)
            obtain ⟨d0, d1, d2, d3⟩ : C4 we s15 0 (.int .i64 2) (.slice dA D.length dc) (.slice none 0 0) (.slice none 0 0) := (by have hh := hbe; exact ⟨by rw [blk_cell hh]; rfl, by rw [blk_cell hh]; rfl, by rw [blk_cell hh]; rfl, by rw [blk_cell hh]; rfl⟩)
            clear hwe hs15 hbe hge HSU HD
            go_upto_region 23 with (first
              | (go_at_call 11; refine (num8_any _ _).mono ?_; rintro e wn ⟨rfl, rfl⟩)
              | (go_at_call 18; refine HSE.out.mono ?_; rintro e wf ⟨hgf, fA, fc, hlef, rfl, hof⟩; have HGF := hide (gb_trans HGE.out hgf (.inl rfl)); have HOF := hide hof; have HLF := hide hlef; clear hgf hof hlef d0 d1 d2 d3))
            obtain ⟨wg, hwg⟩ : ∃ wg, wg = wf.alloc (.cells #[.int .i64 2, .slice fA l.length fc, .slice none 0 0, .slice none 0 0] 26) := ⟨_, rfl⟩
            obtain ⟨s17, hs17⟩ : ∃ s17, s17 = wf.heap.size := ⟨_, rfl⟩
            rw [← hwg, ← hs17]
            have hbg : wg.heap[s17]? = some (.cells #[.int .i64 2, .slice fA l.length fc, .slice none 0 0, .slice none 0 0] 26 (0, 0)) := by rw [hwg, hs17]; exact heap_alloc_new wf _
            have hgg : wf.grownBy wg none := by rw [hwg]; exact gb_alloc (gb_refl wf none) _
            have HGG := hide (gb_trans HGF.out hgg (.inl rfl))
            have ht : (Vl.mk 2 l [] []).tot ≤ 1100000 := by rw [Vl.tot_def]; show 1 + l.length + 0 + 0 + 0 ≤ 1100000; have := HL.out; omega
            have HMA : Hid (Calls Tryz.prog 19 #[.agg #[.int .i64 2, .slice fA l.length fc, .slice none 0 0, .slice none 0 0], .agg #[.int .i64 2, .slice vA l.length vc, .slice none 0 0, .slice none 0 0]] wg fun e w' => e = .returned (.bool true) ∧ wg.grownBy w' none) := hide (by
              have h := rMatch_any (.mk 2 l [] []) (.mk 2 l [] []) wg wg.heap.size fA fc none 0 none 0 vA vc none 0 none 0 ht ht (Nat.le_refl _) ⟨((Rd.of_own HOF.out).grown hgg (Nat.le_refl _) (by simp)).more hgg.size, Rd.nil_, ⟨[], Rd.nil_, rfl⟩, HLF.out, Nat.le_refl _, Nat.le_refl _⟩ ((HVc.out.gb HGG.out (Nat.le_refl _)).up HGG.out.size)
              rwa [Vl.same_refl] at h)
            obtain ⟨f0, f1, f2, f3⟩ : C4 wg s17 0 (.int .i64 2) (.slice fA l.length fc) (.slice none 0 0) (.slice none 0 0) := (by have hh := hbg; exact ⟨by rw [blk_cell hh]; rfl, by rw [blk_cell hh]; rfl, by rw [blk_cell hh]; rfl, by rw [blk_cell hh]; rfl⟩)
            obtain ⟨v0, v1, v2, v3⟩ : C4 wg s3 0 (.int .i64 2) (.slice vA l.length vc) (.slice none 0 0) (.slice none 0 0) := (by have hh := blk_keep HBc.out HGG.out (by simp); exact ⟨by rw [blk_cell hh]; rfl, by rw [blk_cell hh]; rfl, by rw [blk_cell hh]; rfl, by rw [blk_cell hh]; rfl⟩)
            clear hwg hs17 hbg hgg ht
            go_wp2_with (first
              | (go_at_call 11; refine (num8_any _ _).mono ?_; rintro e wn ⟨rfl, rfl⟩)
              | (go_at_call 19; refine HMA.out.mono ?_; rintro e wh ⟨rfl, hgh⟩; have HGH := hide (gb_trans HGG.out hgh (.inl rfl)); clear hgh f0 f1 f2 f3 v0 v1 v2 v3)
              | (go_at_call 8; refine (live8_any _).mono ?_; rintro e wl ⟨rfl, hgl⟩; have HGL := hide hgl; clear hgl))
            exact bodyPost_ret (v := .bool true) (by simp [results, Tryz.results4, go_sem]) rfl ⟨rfl, gb_trans HGc.out (gb_trans HGH.out HGL.out (.inl rfl)) (.inl rfl)⟩
  · have h1 : (3000 : Int) < (l.length : Int) := by omega
    clear hl hI hr
    go_enter Tryz.func4, Tryz.ntmps4
    go_wp2_with (go_at_call 8; refine (live8_any _).mono ?_; rintro e wl ⟨rfl, hgl⟩; have HGL := hide hgl; clear hgl)
    exact bodyPost_ret (v := .bool true) (by simp [results, Tryz.results4, go_sem]) rfl ⟨rfl, HGL.out⟩
end Go.Proofs.YtgepejnooghjbaaGreat
