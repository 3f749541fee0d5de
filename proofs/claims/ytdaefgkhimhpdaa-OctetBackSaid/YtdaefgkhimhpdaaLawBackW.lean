/-
  The walk of OctetBack: what was put is read back; what is read is what would be put (P1.8).
-/
import Derived.Test.YtdaefgkhimhpdaaLawBack
namespace Go.Proofs.Ytdaefgkhimhpdaa
open Go.RowKit Go.ChangeShapes Go.WideShapes Go.ChangeAt
attribute [local go_sem ↓] Go.wp_at_zero Go.wp_at_succ

theorem At8.takeTo {w : World} {A : Option Addr} {n c k : Nat} {bs : List UInt8} (h : At8 w (.slice A n c) bs) (hk : k ≤ bs.length) : At8 w (.slice A k c) (bs.take k) := by
  obtain ⟨A', c', e, h2, h3, hr⟩ := h
  injection e with e1 e2 e3
  subst e1; subst e2; subst e3
  have hl : (bs.take k).length = k := by rw [List.length_take]; omega
  refine ⟨A, c, by rw [hl], by rw [hl]; omega, h3, ?_⟩
  have := hr.take k
  rwa [u8s_take] at this

set_option maxHeartbeats 8000000 in
set_option maxRecDepth 100000 in
theorem back_any (A AL AM AS : Option Addr) (c cl cm cs : Nat) (bs : List UInt8) (l : List Nat) (m : List Int) (s : List ByteArray) (w : World)
    (hb : Rd w w.heap.size A (u8s bs)) (hbc : bs.length ≤ c) (hcm : c ≤ maxLen) (hl : Rd w w.heap.size AL (u64s l)) (hm : Rd w w.heap.size AM (i64s m)) (hs : Rd w w.heap.size AS (strs s))
    (hbz : TinyS bs.length) (hsz : ∀ t ∈ s, TinyS t.size) (hlu : ∀ n ∈ l, U64 n) (hmi : ∀ n ∈ m, I64 n) (h1 : l.length ≤ maxLen) (h2 : m.length ≤ maxLen) (h3 : s.length ≤ maxLen) :
    Calls Try.prog 6 #[.slice AL l.length cl, .slice AM m.length cm, .slice AS s.length cs, .slice A bs.length c] w fun e w' => e = .returned (.bool true) ∧ w.grownBy w' none := by
  have HS := hide hsz; have HB := hide hbz; have HU := hide hlu; have HI := hide hmi; have HAT := hide (show At8 w (.slice A bs.length c) bs from ⟨A, c, rfl, hbc, hcm, hb⟩)
  have HC := hide hcm
  clear hsz hbz hlu hmi hcm
  unfold maxLen at h1 h2 h3
  go_enter Try.func6, Try.ntmps6
  go_wp2
  go_loop [9, 10] (fun n i => ∃ k : Nat, k ≤ s.length ∧ k ≤ 61 ∧ i = .int .i64 k ∧ n = .int .i64 (sumLen (s.take k) : Int)) (fun _ i => s.length - (intOf i).toNat)
  case atStart => exact ⟨0, by omega, by omega, rfl, rfl⟩
  case round =>
    obtain ⟨k, hk, hk61, rfl, rfl⟩ := hrel
    have hsm : sumLen (s.take k) ≤ 61 * reachBytes := by
      have h := sumLen_tiny (l := s.take k) (fun t ht => HS.out t (List.mem_of_mem_take ht))
      have hl : (s.take k).length ≤ 61 := by simp; omega
      exact Nat.le_trans h (Nat.mul_le_mul hl (Nat.le_refl _))
    have HSM := hide hsm
    clear hsm
    by_cases hlt : k < s.length ∧ k ≤ 60
    · obtain ⟨hlt, hk60⟩ := hlt
      obtain ⟨ad, rfl, _, hc⟩ := hs.str hlt
      have hw := hide (wrap_tinyS HSM.out (HS.out _ (List.getElem_mem hlt)))
      have hst := hide (sumLen_take s k hlt)
      go_wp2
      go_round
      case rel => exact ⟨k + 1, by omega, by omega, by go_num, by rw [hw.out, hst.out]; go_num⟩
      case measure => simp [intOf]; omega
    · have hw : wrap64 ((bs.length : Int) + (sumLen (s.take k) : Int)) = (bs.length : Int) + (sumLen (s.take k) : Int) := by
        rw [Int.add_comm, wrap_tinyS HSM.out HB.out]
      generalize hz : sumLen (s.take k) = z at *
      have HZ := hide hz
      clear hz
      by_cases hbig : 20000 < bs.length + z ∨ 60 < l.length ∨ 60 < m.length ∨ 60 < s.length
      · have LV := hide live_any
        by_cases c1 : 20000 < bs.length + z
        · clear hbig
          go_wp2_with (go_at_call 10; refine (LV.out _).mono ?_; rintro e w1 ⟨rfl, hg⟩)
          all_goals (go_ret; exact ⟨rfl, hg⟩)
        · by_cases c2 : 60 < l.length
          · clear hbig
            go_wp2_with (go_at_call 10; refine (LV.out _).mono ?_; rintro e w1 ⟨rfl, hg⟩)
            all_goals (go_ret; exact ⟨rfl, hg⟩)
          · by_cases c3 : 60 < m.length
            · clear hbig
              go_wp2_with (go_at_call 10; refine (LV.out _).mono ?_; rintro e w1 ⟨rfl, hg⟩)
              all_goals (go_ret; exact ⟨rfl, hg⟩)
            · have c4 : 60 < s.length := by omega
              clear hbig
              go_wp2_with (go_at_call 10; refine (LV.out _).mono ?_; rintro e w1 ⟨rfl, hg⟩)
              all_goals (go_ret; exact ⟨rfl, hg⟩)
      · have n1 : bs.length + z ≤ 20000 := by omega
        have n2 : l.length ≤ 60 := by omega
        have n3 : m.length ≤ 60 := by omega
        have n4 : s.length ≤ 60 := by omega
        have hks : s.take k = s := List.take_of_length_le (by omega)
        have hsum : sumLen s ≤ 20000 := by have := HZ.out; rw [hks] at this; omega
        have HBR := hide hb; have HLR := hide hl; have HMR := hide hm; have HSR := hide hs
        have hlt' : ¬ k < s.length := by omega
        have q1 : (putAll l).length ≤ 600 := by have := putAll_length l; omega
        have q2 : (putAll (m.map zig)).length ≤ 600 := by have := putAll_length (m.map zig); rw [List.length_map] at this; omega
        have q3 : (putStrs s).length ≤ 20600 := by have := putStrs_length s; omega
        have hBL : (backB l m s).length ≤ 30000 := by unfold backB; simp only [List.length_append, List.length_nil]; omega
        have HBL := hide hBL
        have HQ := hide (⟨q1, q2, q3, hsum⟩ : _ ∧ _ ∧ _ ∧ _)
        clear hks hbig hlt hb hl hm hs q1 q2 q3 hBL hsum hw
        go_wp2_with (first
          | (go_at_call 12; refine (put_n (At8.nil_ w) rfl HLR.out (Nat.le_refl _) HU.out (by simp) (by omega)).mono ?_; rintro e w1 ⟨A1, m1, c1, rfl, hat1, hg1⟩; have H1 := hide hat1; have G1 := hide hg1; clear hat1 hg1)
          | (go_at_call 14; refine (putInt_n H1.out rfl (HMR.out.grown G1.out (Nat.le_refl _) (by simp)) G1.out.size HI.out (by have := HQ.out.1; simp; omega) (by omega)).mono ?_; rintro e w2 ⟨A2, m2, c2, rfl, hat2, hg2⟩; have H2 := hide hat2; have G2 := hide (gb_trans G1.out hg2 (.inl rfl)); clear hat2 hg2)
          | (go_at_call 16; refine (putText_n H2.out rfl (HSR.out.grown G2.out (Nat.le_refl _) (by simp)) G2.out.size (by have := HQ.out.1; have := HQ.out.2.1; simp only [List.length_append, List.length_nil]; omega) (by omega) (by have := HQ.out.2.2.2; omega)).mono ?_; rintro e w3 ⟨A3, m3, c3, rfl, hat3, hg3⟩; have H3 := hide (show At8 w3 (.slice A3 m3 c3) (backB l m s) from hat3); have G3 := hide (gb_trans G2.out hg3 (.inl rfl)); clear hat3 hg3))
        refine (new_at H3.out (by have := HBL.out; omega)).mono ?_
        rintro e w4 ⟨g, rfl, hr4, hg4⟩
        have R4 := hide hr4; have G4 := hide (gb_trans G3.out hg4 (.inl rfl)); have hge := G3.out.size; have hgl := hr4.lt
        clear hr4 hg4
        go_wp2_with fail
        refine (new_at (HAT.out.grown G4.out) (by have := HBL.out; omega)).mono ?_
        rintro e w5 ⟨g2, rfl, hr5, hg5⟩
        have Q5 := hide hr5; have R5 := hide (R4.out.grown hg5); have G5 := hide (gb_trans G4.out hg5 (.inl rfl)); have hgne : g ≠ g2 := (by have := hr5.choose_spec.2.2; omega)
        clear hr5 hg5
        go_wp2_with fail
        have S0 := hide (show St w3.heap.size w4.heap.size g g2 (backB l m s) bs (pos1 l 0) w w5 from ⟨R5.out, Q5.out, G5.out⟩)
        have hwg : w.heap.size ≤ g := by have := R4.out.choose_spec.2.2; omega
        have hwg2 : w.heap.size ≤ g2 := by have := Q5.out.choose_spec.2.2; have := G4.out.size; omega
        generalize w3.heap.size = b1 at *
        generalize w4.heap.size = b2 at *
        clear H1 H2 H3 G1 G2 G3 G4 G5 R4 R5 Q5 hge hgl
        go_loopw [13] (fun i wr => ∃ k : Nat, k ≤ l.length ∧ i = .int .i64 k ∧ St b1 b2 g g2 (backB l m s) bs (pos1 l k) w wr) (fun i _ => l.length - (intOf i).toNat)
        case atStart => exact ⟨0, by omega, rfl, S0.out⟩
        case round =>
          obtain ⟨k1, hk1, rfl, hst⟩ := hrel
          have ST := hide hst
          clear hst
          by_cases hlt : k1 < l.length
          · obtain ⟨ad, rfl, -, hc⟩ := (HLR.out.grown ST.out.2.2 (Nat.le_refl _) (by simp)).u64 hlt
            have HN := hide (back1 l m s k1 hlt (HU.out _ (List.getElem_mem hlt)))
            have HP := hide (pos1_le l m s k1)
            generalize hne : l[k1] = n at hc HN
            have HE := hide hne
            clear hne
            go_wp2
            go_region_held3 (fun w' => w'.cell? (ad.add k1) = some (.int .u64 (n : Int))) (first | assumption | go_keep)
              ((go_simp; go_at_call 30; refine (num_as2 ST.out.drew HP.out (by have := HBL.out; omega) HN.out).mono ?_; rintro e w6 ⟨rfl, hr6, hg6⟩; have ST6 := hide (ST.out.step hgne hwg hg6 hr6); have hc6 := (HLR.out.grown ST6.out.2.2 (Nat.le_refl _) (by simp)).u64_at hlt; rw [HE.out] at hc6; clear hr6 hg6))
            go_wp2_with fail
            go_roundw
            case rel => exact ⟨k1 + 1, by omega, by go_num, ST6.out⟩
            case measure => simp [intOf]; omega
          · obtain rfl : k1 = l.length := by omega
            rw [pos1_end l m] at ST
            go_wp2_with fail
            go_loopw [14] (fun i wr => ∃ k : Nat, k ≤ m.length ∧ i = .int .i64 k ∧ St b1 b2 g g2 (backB l m s) bs (pos2 l m k) w wr) (fun i _ => m.length - (intOf i).toNat)
            case atStart => exact ⟨0, by omega, rfl, ST.out⟩
            case round =>
              obtain ⟨k2, hk2, rfl, hst⟩ := hrel
              have ST := hide hst
              clear hst
              by_cases hlt : k2 < m.length
              · obtain ⟨ad, rfl, -, hc⟩ := (HMR.out.grown ST.out.2.2 (Nat.le_refl _) (by simp)).i64 hlt
                have HN := hide (back2 l m s k2 hlt (HI.out _ (List.getElem_mem hlt)))
                have HP := hide (pos2_le l m s k2)
                generalize hne : m[k2] = n at hc HN
                have HE := hide hne
                clear hne
                go_wp2
                go_region_held3 (fun w' => w'.cell? (ad.add k2) = some (.int .i64 n)) (first | assumption | go_keep)
                  ((go_simp; go_at_call 32; refine (int_as2 ST.out.drew HP.out (by have := HBL.out; omega) HN.out (unzig_zig n)).mono ?_; rintro e w6 ⟨rfl, hr6, hg6⟩; have ST6 := hide (ST.out.step hgne hwg hg6 hr6); have hc6 := (HMR.out.grown ST6.out.2.2 (Nat.le_refl _) (by simp)).i64_at hlt; rw [HE.out] at hc6; clear hr6 hg6))
                go_wp2_with fail
                go_roundw
                case rel => exact ⟨k2 + 1, by omega, by go_num, ST6.out⟩
                case measure => simp [intOf]; omega
              · obtain rfl : k2 = m.length := by omega
                rw [pos2_end l m s] at ST
                go_wp2_with fail
                go_loopw [15] (fun i wr => ∃ k : Nat, k ≤ s.length ∧ i = .int .i64 k ∧ St b1 b2 g g2 (backB l m s) bs (pos3 l m s k) w wr) (fun i _ => s.length - (intOf i).toNat)
                case atStart => exact ⟨0, by omega, rfl, ST.out⟩
                case round =>
                  obtain ⟨k3, hk3, rfl, hst⟩ := hrel
                  have ST := hide hst
                  clear hst
                  by_cases hlt : k3 < s.length
                  · obtain ⟨ad, rfl, -, hc⟩ := (HSR.out.grown ST.out.2.2 (Nat.le_refl _) (by simp)).str hlt
                    have hz2 : s[k3].size ≤ 20000 := by have := sumLen_elem s k3 hlt; have := HQ.out.2.2.2; omega
                    have HN := hide (back3 l m s k3 hlt hz2)
                    have HP := hide (pos3_le l m s k3)
                    generalize hne : s[k3] = t at hc HN hz2
                    have HE := hide hne
                    have HI6 := hide (show I64 (t.size : Int) from ⟨by omega, by omega⟩)
                    clear hne
                    go_wp2
                    go_region_held3 (fun w' => w'.cell? (ad.add k3) = some (.string t)) (first | assumption | go_keep)
                      ((go_simp; go_at_call 36; refine (text_as2 ST.out.drew HP.out (by have := HBL.out; omega) HI6.out HN.out (bytes_list t)).mono ?_; rintro e w6 ⟨rfl, hr6, hg6⟩; have ST6 := hide (ST.out.step hgne hwg hg6 hr6); have hc6 := (HSR.out.grown ST6.out.2.2 (Nat.le_refl _) (by simp)).str_at hlt; rw [HE.out] at hc6; clear hr6 hg6))
                    go_wp2_with fail
                    go_roundw
                    case rel => exact ⟨k3 + 1, by omega, by go_num, ST6.out⟩
                    case measure => simp [intOf]; omega
                  · obtain rfl : k3 = s.length := by omega
                    rw [pos3_end l m s] at ST
                    rcases hN : rNum bs 0 0 with ⟨n, pl, e⟩
                    have hple : pl ≤ bs.length := by have := rNum_le bs 0 0 (by omega); rw [hN] at this; exact this
                    have HN := hide hN
                    have HUN := hide (rNum_u64 hN)
                    have hplc : (pl : Int) ≤ (c : Int) := by omega
                    have hpl0 : (0 : Int) ≤ (pl : Int) := by omega
                    have HTK := hide (fun h : e = 0 => rNum_take (bs := bs) (n := n) (pl := pl) (by rw [HN.out, h]))
                    clear hN
                    go_wp2_with (first
                      | (go_at_call 30; refine (num_as2 ST.out.2.1 (by omega) (by omega) HN.out).mono ?_; rintro e6 w6 ⟨rfl, hr6, hg6⟩; have Q6 := hide hr6; have R6 := hide (ST.out.1.beside ST.out.2.1 (Ne.symm hgne) hg6); have G6 := hide (gb_trans ST.out.2.2 hg6 (.inr (.inr ⟨g2, rfl, hwg2⟩))); clear hr6 hg6)
                      | (go_at_call 42; refine (why_any _ _ _ _ _ _ Q6.out).mono ?_; rintro e7 w7 ⟨rfl, n7, rfl⟩))
                    by_cases he : e = 0
                    · subst he
                      have hput := HTK.out rfl
                      have HPT := hide hput
                      clear hput
                      have QD := hide (Q6.out.drewN n7); have RD := hide (R6.out.drewN n7); have GD := hide (gb_drewN G6.out n7)
                      clear Q6 R6 G6
                      generalize w6.drewN n7 = w7 at *
                      go_region_law (first
                        | (go_simp; go_at_call 26; refine (num_err _ _).mono ?_; rintro e8 w8 ⟨rfl, rfl⟩)
                        | (go_simp; go_at_call 12; refine (put1_drew (w := w7) HUN.out).mono ?_; rintro e8 w8 ⟨A8, m8, c8, rfl, hat8, hg8⟩; have hs8 := hat8.string; have G8 := hide hg8; have hs9 := ((HAT.out.grown (gb_trans GD.out G8.out (.inl rfl))).takeTo hple).string; rw [← HPT.out] at hs9; clear hg8)
                        | (go_simp; go_at_call 43; refine (at_any _ _ _ _ _ _ (QD.out.grown G8.out)).mono ?_; rintro e9 w9 ⟨rfl, rfl⟩))
                      all_goals
                        have RF := hide (RD.out.grown G8.out); have GF := hide (gb_trans GD.out G8.out (.inl rfl))
                        go_wp2_with (first
                          | (go_at_call 45; refine (done_as2 RF.out (Nat.le_refl _) (by have := HBL.out; omega) (rDone_end _)).mono ?_; rintro e9 w9 ⟨rfl, n9, rfl⟩)
                          | (go_at_call 26; refine (num_err _ _).mono ?_; rintro e8 w8 ⟨rfl, rfl⟩)
                          | (go_at_call 10; refine (live_any _).mono ?_; rintro e10 w10 ⟨rfl, hg10⟩))
                        go_ret
                        exact ⟨rfl, gb_trans (gb_drewN GF.out _) hg10 (.inl rfl)⟩
                    · have hb1 : (e == 0) = false := beq_eq_false_iff_ne.2 he
                      clear HTK he
                      have RD := hide (R6.out.drewN n7); have GD := hide (gb_drewN G6.out n7)
                      clear Q6 R6 G6
                      generalize w6.drewN n7 = w7 at *
                      go_quiet ((go_at_call 26; exact quiet_l (num_err _ _)))
                      go_wp2_with (first
                        | (go_at_call 45; refine (done_as2 (RD.out.drewN _) (Nat.le_refl _) (by have := HBL.out; omega) (rDone_end _)).mono ?_; rintro e9 w9 ⟨rfl, n9, rfl⟩)
                        | (go_at_call 26; refine (num_err _ _).mono ?_; rintro e8 w8 ⟨rfl, rfl⟩)
                        | (go_at_call 10; refine (live_any _).mono ?_; rintro e10 w10 ⟨rfl, hg10⟩))
                      go_ret
                      exact ⟨rfl, gb_trans (gb_drewN GD.out _) hg10 (.inl rfl)⟩

end Go.Proofs.Ytdaefgkhimhpdaa
