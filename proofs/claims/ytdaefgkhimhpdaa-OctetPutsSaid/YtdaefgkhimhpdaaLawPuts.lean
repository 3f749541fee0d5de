/-
  PROVED: for all bytes, numbers, signed numbers and texts: what octet.Put, PutInt and PutText lay behind the bytes is what the document's answer lays, one by one (P1.1); the law returns true and leaves its arguments as they were. No condition.
-/
import Derived.Test.YtdaefgkhimhpdaaLive
import Derived.Test.YtdaefgkhimhpdaaRow
import Derived.Test.YtdaefgkhimhpdaaReg
namespace Go.Proofs.Ytdaefgkhimhpdaa
open Go.RowKit Go.ChangeShapes Go.WideShapes Go.ChangeAt

/-- At most the reach. -/
def Small (n : Nat) : Prop := n ≤ reachBytes
theorem sumLen_small {l : List ByteArray} (h : ∀ s ∈ l, Small s.size) : sumLen l ≤ l.length * reachBytes := by
  induction l with
  | nil => simp [sumLen]
  | cons a l ih =>
    have h1 := ih fun s hs => h s (by simp [hs])
    have h2 := h a (by simp)
    unfold Small at h2
    simp only [sumLen, List.map_cons, List.sum_cons, List.length_cons] at *
    rw [Nat.add_mul]
    omega
theorem reach_num : reachBytes = 140737488351232 := rfl
theorem wrap_small {a b : Nat} (ha : a ≤ 61 * reachBytes) (hb : Small b) : wrap64 ((a : Int) + (b : Int)) = (a : Int) + (b : Int) := by
  unfold Small at hb
  rw [reach_num] at *
  unfold wrap64
  omega

set_option maxHeartbeats 4000000 in
set_option maxRecDepth 100000 in
theorem puts_any (A AL AM AS : Option Addr) (c cl cm cs : Nat) (bs : List UInt8) (l : List Nat) (m : List Int) (s : List ByteArray) (w : World)
    (hb : Rd w w.heap.size A (u8s bs)) (hl : Rd w w.heap.size AL (u64s l)) (hm : Rd w w.heap.size AM (i64s m)) (hs : Rd w w.heap.size AS (strs s))
    (hbz : Small bs.length) (hsz : ∀ t ∈ s, Small t.size) (hlu : ∀ n ∈ l, U64 n) (hmi : ∀ n ∈ m, I64 n) (h1 : l.length ≤ maxLen) (h2 : m.length ≤ maxLen) (h3 : s.length ≤ maxLen) :
    Calls Try.prog 3 #[.slice A bs.length c, .slice AL l.length cl, .slice AM m.length cm, .slice AS s.length cs] w fun e w' => e = .returned (.bool true) ∧ w.grownBy w' none := by
  have HS := hide hsz; have HB := hide hbz; have HU := hide hlu; have HI := hide hmi
  clear hsz hbz hlu hmi
  unfold maxLen at h1 h2 h3
  go_enter Try.func3, Try.ntmps3
  go_wp2
  go_loop [9, 10] (fun n i => ∃ k : Nat, k ≤ s.length ∧ k ≤ 61 ∧ i = .int .i64 k ∧ n = .int .i64 (sumLen (s.take k) : Int)) (fun _ i => s.length - (intOf i).toNat)
  case atStart => exact ⟨0, by omega, by omega, rfl, rfl⟩
  case round =>
    obtain ⟨k, hk, hk61, rfl, rfl⟩ := hrel
    have hsm : sumLen (s.take k) ≤ 61 * reachBytes := by
      have h := sumLen_small (l := s.take k) (fun t ht => HS.out t (List.mem_of_mem_take ht))
      have hl : (s.take k).length ≤ 61 := by simp; omega
      exact Nat.le_trans h (Nat.mul_le_mul hl (Nat.le_refl _))
    have HSM := hide hsm
    clear hsm
    by_cases hlt : k < s.length ∧ k ≤ 60
    · obtain ⟨hlt, hk60⟩ := hlt
      obtain ⟨ad, rfl, _, hc⟩ := hs.str hlt
      have hw := hide (wrap_small HSM.out (HS.out _ (List.getElem_mem hlt)))
      have hst := hide (sumLen_take s k hlt)
      go_wp2
      go_round
      case rel => exact ⟨k + 1, by omega, by omega, by go_num, by rw [hw.out, hst.out]; go_num⟩
      case measure => simp [intOf]; omega
    · have hw : wrap64 ((bs.length : Int) + (sumLen (s.take k) : Int)) = (bs.length : Int) + (sumLen (s.take k) : Int) := by
        rw [Int.add_comm, wrap_small HSM.out HB.out]
      generalize hz : sumLen (s.take k) = z at *
      have HZ := hide hz
      clear hz
      by_cases hbig : 20000 < bs.length + z ∨ 60 < l.length ∨ 60 < m.length ∨ 60 < s.length
      · have LV := hide live_any
        by_cases c1 : 20000 < bs.length + z
        · clear hbig
          go_wp2_with (go_at_call 10; refine (LV.out _).mono ?_; rintro e w1 ⟨rfl, hg⟩)
          all_goals (go_ret; exact ⟨rfl, hg⟩)
        · by_cases c2 : 60 < l.length
          · clear hbig
            go_wp2_with (go_at_call 10; refine (LV.out _).mono ?_; rintro e w1 ⟨rfl, hg⟩)
            all_goals (go_ret; exact ⟨rfl, hg⟩)
          · by_cases c3 : 60 < m.length
            · clear hbig
              go_wp2_with (go_at_call 10; refine (LV.out _).mono ?_; rintro e w1 ⟨rfl, hg⟩)
              all_goals (go_ret; exact ⟨rfl, hg⟩)
            · have c4 : 60 < s.length := by omega
              clear hbig
              go_wp2_with (go_at_call 10; refine (LV.out _).mono ?_; rintro e w1 ⟨rfl, hg⟩)
              all_goals (go_ret; exact ⟨rfl, hg⟩)
      · have n1 : bs.length + z ≤ 20000 := by omega
        have n2 : l.length ≤ 60 := by omega
        have n3 : m.length ≤ 60 := by omega
        have n4 : s.length ≤ 60 := by omega
        have hks : s.take k = s := List.take_of_length_le (by omega)
        have hsum : sumLen s ≤ 20000 := by have := HZ.out; rw [hks] at this; omega
        have HBR := hide hb; have HLR := hide hl; have HMR := hide hm; have HSR := hide hs
        have hlt' : ¬ k < s.length := by omega
        clear hks hbig hlt hb hl hm hs
        go_wp2_with (at_builtin; go_loud (refine app8 (base := w.heap.size) (World.ownsRow_made w #[] 0 (Nat.le_refl _) (by unfold maxLen; omega) rfl) (HBR.out.alloc (Nat.le_refl _) _) (u8s_length bs) (u8s_cell bs) (by omega) (by simp) rfl rfl rfl rfl ?_); intro v1 w1 hown1 hg1 hwh1)
        have hw1 := own_as (m := bs.length + (putAll (l.take 0)).length) (ys := u8s (bs ++ putAll (l.take 0))) hown1 (by simp [putAll]) (by simp [putAll])
        have hgw1 : w.grownBy w1 none := gb_trans (gb_alloc (gb_refl w none) _) hg1 (.inr (.inr ⟨_, rfl, Nat.le_refl _⟩))
        clear hown1 hg1 hwh1 hw
        go_loopw [11, 12] (fun b i wr => ∃ k : Nat, k ≤ l.length ∧ i = .int .i64 k ∧ wr.ownsRow w.heap.size 5 1 b (bs.length + (putAll (l.take k)).length) (u8s (bs ++ putAll (l.take k))) ∧ w.grownBy wr none) (fun _ i _ => l.length - (intOf i).toNat)
        case atStart => exact ⟨0, by omega, rfl, hw1, hgw1⟩
        case round =>
          obtain ⟨k, hk, rfl, hown, hg⟩ := hrel
          have hgs := hg.size
          have hpl := putAll_take_length l k
          by_cases hlt : k < l.length
          · have hlr := HLR.out.grown hg (Nat.le_refl _) (by simp)
            obtain ⟨ad, rfl, _, hc⟩ := hlr.u64 hlt
            have hn := HU.out _ (List.getElem_mem hlt)
            have hnl := putNum_length l[k]
            go_wp2_with (go_at_call 11; refine (refPut_any _ _ _ _ _ w.heap.size hgs hown hn (by omega)).mono ?_; rintro e w2 ⟨v', rfl, hown2, hg2, hw2⟩)
            have e1 := putAll_take l k hlt
            have hown3 := own_as (m := bs.length + (putAll (l.take (k + 1))).length) (ys := u8s (bs ++ putAll (l.take (k + 1)))) hown2 (by rw [e1, List.length_append]; omega) (by rw [e1, ← List.append_assoc]; exact (u8s_append _ _).symm)
            have hg3 := gb_new hg hown hg2
            clear hown2 hg2 hw2 e1 hown
            go_roundw
            case rel => exact ⟨k + 1, by omega, by go_num, hown3, hg3⟩
            case measure => simp [intOf]; omega
          · have e0 : l.take k = l := List.take_of_length_le (by omega)
            rw [e0] at hown hpl
            obtain ⟨A1, c1, rfl, _, _, _⟩ := own_form hown
            have hat := At8.of_own hown (by rw [List.length_append])
            clear e0 hk hown
            go_upto_region 13 with fail
            clear hlt
            go_cut [76] (fun s wc => s = .bool false ∧ w.grownBy wc none)
            case first =>
              have hcv : ∀ W, wr.grownBy W none → (convert 22 9 (.slice A1 (bs.length + (putAll l).length) c1)).run Try.prog W = .ok (.string ⟨(bs ++ putAll l).toArray⟩) W := fun W hW => (hat.grown hW).string
              have hrA := hide ((HBR.out.grown hg (Nat.le_refl _) (by simp)).more hgs)
              have hrL := hide (HLR.out.grown hg (Nat.le_refl _) (by simp))
              have hcv0 := hcv wr.drew (gb_drew (gb_refl wr none))
              have hcv1 := hcv (wr.alloc (.cells #[] 5)).drew (gb_drew (gb_alloc (gb_refl wr none) _))
              have HCV := hide hcv
              clear hcv hat
              go_region_law (first
                | (refine step_empty (heap_alloc_new _ _) ((Rd.drew hrA.out).alloc (Nat.le_refl _) _) (by omega) rfl rfl rfl rfl ?_; intro A2 c2 w2 hat2 hg2; have hq2 : wr.grownBy w2 none := gb_trans (gb_alloc (gb_drew (gb_refl wr none)) _) hg2 (.inl rfl); have hcv2 := HCV.out w2 hq2; have HQ2 := hide hq2; have HA2 := hide hat2; clear hg2 hq2 hat2)
                | (go_simp; go_at_call 12; refine (put_at HA2.out (hrL.out.grown HQ2.out hgs (by simp)) (Nat.le_trans hgs HQ2.out.size) HU.out (by omega) (by omega)).mono ?_; rintro e w3 ⟨A3, c3, rfl, hat3, hg3⟩; have hq3 : wr.grownBy w3 none := gb_trans HQ2.out hg3 (.inl rfl); have hcv3 := HCV.out w3 hq3; have hcv4 := hat3.string; have HQ3 := hide hq3; clear hg3 hq3 hat3))
              all_goals  (go_wp2_with fail; go_meet; case rel => exact ⟨rfl, gb_trans hg HQ3.out (.inl rfl)⟩)
            case rest =>
              obtain ⟨rfl, hgc⟩ := hcut
              have hgcs := hgc.size
              clear hat hg hgs hpl
              have HB2 := hide (HBR.out.grown hgc (Nat.le_refl _) (by simp))
              go_wp2_with (at_builtin; go_loud (refine app8 (base := wc.heap.size) (World.ownsRow_made wc #[] 0 (Nat.le_refl _) (by unfold maxLen; omega) rfl) ((HB2.out.more hgcs).alloc (Nat.le_refl _) _) (u8s_length bs) (u8s_cell bs) (by omega) (by simp) rfl rfl rfl rfl ?_); intro v2 w2 hown2 hg2 hwh2)
              have hw2 := own_base (own_as (m := bs.length + (putAll ((m.map zig).take 0)).length) (ys := u8s (bs ++ putAll ((m.map zig).take 0))) hown2 (by simp [putAll]) (by simp [putAll])) hgcs
              have hgw2 : w.grownBy w2 none := gb_trans (gb_alloc hgc _) hg2 (.inr (.inr ⟨_, rfl, hgcs⟩))
              clear hown2 hg2 hwh2 hgc hgcs HB2
              go_loopw [11, 13] (fun b i wr => ∃ k : Nat, k ≤ m.length ∧ i = .int .i64 k ∧ wr.ownsRow w.heap.size 5 1 b (bs.length + (putAll ((m.map zig).take k)).length) (u8s (bs ++ putAll ((m.map zig).take k))) ∧ w.grownBy wr none) (fun _ i _ => m.length - (intOf i).toNat)
              case atStart => exact ⟨0, by omega, rfl, hw2, hgw2⟩
              case round =>
                obtain ⟨k, hk, rfl, hown, hg⟩ := hrel
                have hgs := hg.size
                have hpl := putAll_take_length (m.map zig) k
                rw [List.length_map] at hpl
                by_cases hlt : k < m.length
                · have hlr := HMR.out.grown hg (Nat.le_refl _) (by simp)
                  obtain ⟨ad, rfl, _, hc⟩ := hlr.i64 hlt
                  have hn := HI.out _ (List.getElem_mem hlt)
                  have hnl := putNum_length (zig m[k])
                  go_wp2_with (go_at_call 13; refine (refPutInt_any _ _ _ _ _ w.heap.size hgs hown hn (by omega)).mono ?_; rintro e w2 ⟨v', rfl, hown2, hg2, hw2⟩)
                  have e1 := putAll_take (m.map zig) k (by rw [List.length_map]; exact hlt)
                  rw [List.getElem_map] at e1
                  have hown3 := own_as (m := bs.length + (putAll ((m.map zig).take (k + 1))).length) (ys := u8s (bs ++ putAll ((m.map zig).take (k + 1)))) hown2 (by rw [e1, List.length_append]; omega) (by rw [e1, ← List.append_assoc]; exact (u8s_append _ _).symm)
                  have hg3 := gb_new hg hown hg2
                  clear hown2 hg2 hw2 e1 hown
                  go_roundw
                  case rel => exact ⟨k + 1, by omega, by go_num, hown3, hg3⟩
                  case measure => simp [intOf]; omega
                · have e0 : (m.map zig).take k = m.map zig := List.take_of_length_le (by rw [List.length_map]; omega)
                  rw [e0] at hown hpl
                  obtain ⟨A1, c1, rfl, _, _, _⟩ := own_form hown
                  have hat := At8.of_own hown (by rw [List.length_append])
                  clear e0 hk hown
                  go_upto_region 20 with fail
                  clear hlt
                  go_cut [100] (fun s wc => s = .bool false ∧ w.grownBy wc none)
                  case first =>
                    have hcv : ∀ W, wr.grownBy W none → (convert 22 9 (.slice A1 (bs.length + (putAll (m.map zig)).length) c1)).run Try.prog W = .ok (.string ⟨(bs ++ putAll (m.map zig)).toArray⟩) W := fun W hW => (hat.grown hW).string
                    have hrA := hide ((HBR.out.grown hg (Nat.le_refl _) (by simp)).more hgs)
                    have hrL := hide (HMR.out.grown hg (Nat.le_refl _) (by simp))
                    have hcv0 := hcv wr.drew (gb_drew (gb_refl wr none))
                    have hcv1 := hcv (wr.alloc (.cells #[] 5)).drew (gb_drew (gb_alloc (gb_refl wr none) _))
                    have HCV := hide hcv
                    clear hcv hat
                    go_region_law (first
                      | (refine step_empty (heap_alloc_new _ _) ((Rd.drew hrA.out).alloc (Nat.le_refl _) _) (by omega) rfl rfl rfl rfl ?_; intro A2 c2 w2 hat2 hg2; have hq2 : wr.grownBy w2 none := gb_trans (gb_alloc (gb_drew (gb_refl wr none)) _) hg2 (.inl rfl); have hcv2 := HCV.out w2 hq2; have HQ2 := hide hq2; have HA2 := hide hat2; clear hg2 hq2 hat2)
                      | (go_simp; go_at_call 14; refine (putInt_at HA2.out (hrL.out.grown HQ2.out hgs (by simp)) (Nat.le_trans hgs HQ2.out.size) HI.out (by omega) (by omega)).mono ?_; rintro e w3 ⟨A3, c3, rfl, hat3, hg3⟩; have hq3 : wr.grownBy w3 none := gb_trans HQ2.out hg3 (.inl rfl); have hcv3 := HCV.out w3 hq3; have hcv4 := hat3.string; have HQ3 := hide hq3; clear hg3 hq3 hat3))
                    all_goals (go_wp2_with fail; go_meet; case rel => exact ⟨rfl, gb_trans hg HQ3.out (.inl rfl)⟩)
                  case rest =>
                    obtain ⟨rfl, hgc⟩ := hcut
                    have hgcs := hgc.size
                    clear hat hg hgs hpl
                    have HB2 := hide (HBR.out.grown hgc (Nat.le_refl _) (by simp))
                    go_wp2_with (at_builtin; go_loud (refine app8 (base := wc.heap.size) (World.ownsRow_made wc #[] 0 (Nat.le_refl _) (by unfold maxLen; omega) rfl) ((HB2.out.more hgcs).alloc (Nat.le_refl _) _) (u8s_length bs) (u8s_cell bs) (by omega) (by simp) rfl rfl rfl rfl ?_); intro v2 w2 hown2 hg2 hwh2)
                    have hw2 := own_base (own_as (m := bs.length + (putStrs (s.take 0)).length) (ys := u8s (bs ++ putStrs (s.take 0))) hown2 (by simp [putStrs]) (by simp [putStrs])) hgcs
                    have hgw2 : w.grownBy w2 none := gb_trans (gb_alloc hgc _) hg2 (.inr (.inr ⟨_, rfl, hgcs⟩))
                    clear hown2 hg2 hwh2 hgc hgcs HB2
                    go_loopw [11, 14] (fun b i wr => ∃ k : Nat, k ≤ s.length ∧ i = .int .i64 k ∧ wr.ownsRow w.heap.size 5 1 b (bs.length + (putStrs (s.take k)).length) (u8s (bs ++ putStrs (s.take k))) ∧ w.grownBy wr none) (fun _ i _ => s.length - (intOf i).toNat)
                    case atStart => exact ⟨0, by omega, rfl, hw2, hgw2⟩
                    case round =>
                      obtain ⟨k, hk, rfl, hown, hg⟩ := hrel
                      have hgs := hg.size
                      have hpl := putStrs_length (s.take k)
                      have hpl2 := sumLen_take_le s k
                      have hpl3 : (s.take k).length ≤ 60 := by simp; omega
                      by_cases hlt : k < s.length
                      · have hlr := HSR.out.grown hg (Nat.le_refl _) (by simp)
                        obtain ⟨ad, rfl, _, hc⟩ := hlr.str hlt
                        have hnl := putStr_length s[k]
                        have hnl2 := sumLen_elem s k hlt
                        go_wp2_with (go_at_call 15; refine (refPutText_any _ _ _ _ _ w.heap.size hgs hown (by omega) (by omega)).mono ?_; rintro e w2 ⟨v', rfl, hown2, hg2, hw2⟩)
                        have e1 := putStrs_take s k hlt
                        have hown3 := own_as (m := bs.length + (putStrs (s.take (k + 1))).length) (ys := u8s (bs ++ putStrs (s.take (k + 1)))) hown2 (by rw [e1, List.length_append]; omega) (by rw [e1, ← List.append_assoc]; exact (u8s_append _ _).symm)
                        have hg3 := gb_new hg hown hg2
                        clear hown2 hg2 hw2 e1 hown
                        go_roundw
                        case rel => exact ⟨k + 1, by omega, by go_num, hown3, hg3⟩
                        case measure => simp [intOf]; omega
                      · have e0 : s.take k = s := List.take_of_length_le (by omega)
                        rw [e0] at hown hpl
                        obtain ⟨A1, c1, rfl, _, _, _⟩ := own_form hown
                        have hat := At8.of_own hown (by rw [List.length_append])
                        clear e0 hk hown hpl3 hpl2
                        go_upto_region 27 with fail
                        clear hlt
                        have LV := hide live_any
                        have hcv : ∀ W, wr.grownBy W none → (convert 22 9 (.slice A1 (bs.length + (putStrs s).length) c1)).run Try.prog W = .ok (.string ⟨(bs ++ putStrs s).toArray⟩) W := fun W hW => (hat.grown hW).string
                        have hrA := hide ((HBR.out.grown hg (Nat.le_refl _) (by simp)).more hgs)
                        have hrL := hide (HSR.out.grown hg (Nat.le_refl _) (by simp))
                        have hcv0 := hcv wr.drew (gb_drew (gb_refl wr none))
                        have hcv1 := hcv (wr.alloc (.cells #[] 5)).drew (gb_drew (gb_alloc (gb_refl wr none) _))
                        have HCV := hide hcv
                        clear hcv hat
                        go_region_law (first
                          | (refine step_empty (heap_alloc_new _ _) ((Rd.drew hrA.out).alloc (Nat.le_refl _) _) (by omega) rfl rfl rfl rfl ?_; intro A2 c2 w2 hat2 hg2; have hq2 : wr.grownBy w2 none := gb_trans (gb_alloc (gb_drew (gb_refl wr none)) _) hg2 (.inl rfl); have hcv2 := HCV.out w2 hq2; have HQ2 := hide hq2; have HA2 := hide hat2; clear hg2 hq2 hat2)
                          | (go_simp; go_at_call 16; refine (putText_at HA2.out (hrL.out.grown HQ2.out hgs (by simp)) (Nat.le_trans hgs HQ2.out.size) (by omega) (by omega) (by omega)).mono ?_; rintro e w3 ⟨A3, c3, rfl, hat3, hg3⟩; have hq3 : wr.grownBy w3 none := gb_trans HQ2.out hg3 (.inl rfl); have hcv3 := HCV.out w3 hq3; have hcv4 := hat3.string; have HQ3 := hide hq3; clear hg3 hq3 hat3)
                          | (go_simp; go_at_call 10; refine (LV.out _).mono ?_; rintro e w4 ⟨rfl, hg4⟩))
                        all_goals (go_wp2_with fail; go_ret; exact ⟨rfl, gb_trans (gb_trans hg HQ3.out (.inl rfl)) hg4 (.inl rfl)⟩)

end Go.Proofs.Ytdaefgkhimhpdaa
