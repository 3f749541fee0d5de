/-
  The law of a vector that would grow too long, walked.
-/
import Derived.Test.YtfdckhnhancbdaaAr
import Derived.Laws.OwnMore
namespace Go.Proofs.Ytfdckhnhancbdaa
open Go.RowKit
attribute [local go_sem ↓] Go.wp_at_zero Go.wp_at_succ

theorem keysV_bools (l : List Int) : keysV (.mk 1 l [] []) = l.map fun x => (x, noS) := by
  unfold keysV
  rw [if_neg (by show ¬ ((1 : Int) = 3 ∨ (1 : Int) = -3); decide)]
  rfl
theorem holds_none (es : List (Int × ByteArray)) : holdsK 0 es = true := rfl
theorem zeros_rd {w : World} {base b n : Nat} (h : w.ownsRow base 2 1 (.slice (some ⟨b, 0, none⟩) n n) n (madeCells (Value.int .i64 0).cells (n * 1)).toList) : Rd w w.heap.size (some ⟨b, 0, none⟩) (i64s (List.replicate n 0)) := by
  have h1 := Rd.of_own h
  have h2 : (madeCells (Value.int .i64 0).cells (n * 1)).toList = i64s (List.replicate n 0) := by
    rw [Nat.mul_one]
    show (madeCells #[Value.int .i64 0] n).toList = _
    rw [toList_madeCells_one]
    simp [i64s]
  rw [h2] at h1
  exact h1
set_option maxHeartbeats 2000000 in
set_option maxRecDepth 100000 in
/-- A vector of n zeros. -/
theorem zeros_any (n : Nat) (w : World) (b : Nat) (hl : n ≤ 65536) (h : Rd w w.heap.size (some ⟨b, 0, none⟩) (i64s (List.replicate n 0))) :
    Calls Try.prog 26 #[.int .i64 1, .slice (some ⟨b, 0, none⟩) n n] w fun e w' => ∃ nA nc sA sc lA lc, e = .returned (.agg #[.int .i64 1, .slice nA n nc, .slice sA 0 sc, .slice lA 0 lc]) ∧ VB w' w'.heap.size (.mk 1 (List.replicate n 0) [] []) nA nc sA sc lA lc ∧ w.grownBy w' none := by
  have hv := vec_any 1 (List.replicate n 0) w (some ⟨b, 0, none⟩) n (by simp; omega) h
  rw [List.length_replicate] at hv
  refine hv.mono ?_
  rintro e w' ⟨nA, nc, sA, sc, lA, lc, he, hv, hg, _⟩
  refine ⟨nA, nc, sA, sc, lA, lc, ?_, hv, hg⟩
  rw [he]
  show Ending.returned (.agg #[.int .i64 1, .slice nA (List.replicate n (0 : Int)).length nc, .slice sA 0 sc, .slice lA 0 lc]) = _
  rw [List.length_replicate]
theorem field_n (A : Option Addr) (n c : Nat) (x0 x2 x3 : Value) (w : World) : (Instr.field 26 (.agg #[x0, .slice A n c, x2, x3]) 1).run Try.prog w = .ok (.slice A n c) w := by kernel_rfl
def zK (n : Nat) : List (Int × ByteArray) := (List.replicate n (0 : Int)).map fun x => (x, noS)
theorem zK_len (n : Nat) : (zK n).length = n := by simp [zK]
theorem zK_fst (n : Nat) : (zK n).map (·.1) = List.replicate n 0 := by simp [zK]

set_option maxHeartbeats 8000000 in
set_option maxRecDepth 100000 in
theorem many_off (n m : Int) (w : World) (h : n < 0 ∨ 65536 < n ∨ m < 0 ∨ 65536 < m ∨ (50 < n ∧ n < 65531) ∨ 50 < m) : Calls Try.prog 5 #[.int .i64 n, .int .i64 m] w fun e w' => e = .returned (.bool true) ∧ w.grownBy w' none := by
  by_cases h1 : n < 0
  · clear h
    go_enter Try.func5, Try.ntmps5
    go_wp2_with fail
    refine (live_any w).mono ?_
    rintro e w1 ⟨rfl, hg1⟩
    go_wp2_with fail
    go_ret
    exact ⟨rfl, hg1⟩
  by_cases h2 : 65536 < n
  · clear h
    go_enter Try.func5, Try.ntmps5
    go_wp2_with fail
    refine (live_any w).mono ?_
    rintro e w1 ⟨rfl, hg1⟩
    go_wp2_with fail
    go_ret
    exact ⟨rfl, hg1⟩
  by_cases h3 : m < 0
  · clear h
    go_enter Try.func5, Try.ntmps5
    go_wp2_with fail
    refine (live_any w).mono ?_
    rintro e w1 ⟨rfl, hg1⟩
    go_wp2_with fail
    go_ret
    exact ⟨rfl, hg1⟩
  by_cases h4 : 65536 < m
  · clear h
    go_enter Try.func5, Try.ntmps5
    go_wp2_with fail
    refine (live_any w).mono ?_
    rintro e w1 ⟨rfl, hg1⟩
    go_wp2_with fail
    go_ret
    exact ⟨rfl, hg1⟩
  by_cases h5 : 50 < n
  · by_cases h6 : n < 65531
    · clear h
      go_enter Try.func5, Try.ntmps5
      go_wp2_with fail
      refine (live_any w).mono ?_
      rintro e w1 ⟨rfl, hg1⟩
      go_wp2_with fail
      go_ret
      exact ⟨rfl, hg1⟩
    · have h7 : 50 < m := by omega
      clear h
      go_enter Try.func5, Try.ntmps5
      go_wp2_with fail
      refine (live_any w).mono ?_
      rintro e w1 ⟨rfl, hg1⟩
      go_wp2_with fail
      go_ret
      exact ⟨rfl, hg1⟩
  · have h7 : 50 < m := by omega
    clear h
    go_enter Try.func5, Try.ntmps5
    go_wp2_with fail
    refine (live_any w).mono ?_
    rintro e w1 ⟨rfl, hg1⟩
    go_wp2_with fail
    go_ret
    exact ⟨rfl, hg1⟩

set_option maxHeartbeats 8000000 in
set_option maxRecDepth 100000 in
theorem many_on (n m : Int) (N M : Nat) (hn : n = (N : Int)) (hm : m = (M : Int)) (hN : N ≤ 65536) (hM : M ≤ 50) (h5 : 50 < n ∧ ¬ n < 65531 ∨ ¬ 50 < n) (w : World) : Calls Try.prog 5 #[.int .i64 n, .int .i64 m] w fun e w' => e = .returned (.bool true) ∧ w.grownBy w' none := by
  have h1 : ¬ n < 0 := by omega
  have h2 : ¬ 65536 < n := by omega
  have h3 : ¬ m < 0 := by omega
  have h4 : ¬ 65536 < m := by omega
  have h7 : ¬ 50 < m := by omega
  have h8 : n ≤ 65536 := by omega
  have h9 : 0 ≤ n := by omega
  have h10 : m ≤ 50 := by omega
  have h11 : 0 ≤ m := by omega
  have e1 : ((N : Int) == n) = true := by simp [hn]
  have e2 : (((N + M : Nat) : Int) == n + m) = true := by simp [hn, hm]
  have e3 : ((N : Int) + (M : Int) == n + m) = true := by simp [hn, hm]
  obtain ⟨i1, hi1, hiz, his, hib⟩ := info_parts Try.info64
  have HI1 := hide hi1
  have HIZ := hide hiz
  have HIS := hide his
  have HIN : Hid (i1.bytes * N ≤ 281474976710656) := hide (by rw [hib]; omega)
  have HIM : Hid (i1.bytes * M ≤ 281474976710656) := hide (by rw [hib]; omega)
  have HLN : Hid (N ≤ maxLen) := hide (by unfold maxLen; omega)
  have HLM : Hid (M ≤ maxLen) := hide (by unfold maxLen; omega)
  have HNN := hide hn
  have HMM := hide hm
  have HNL := hide hN
  have HML := hide hM
  clear hi1 hiz his hib hn hm hN hM
  have hfld := field_n
  rcases h5 with ⟨h5, h6⟩ | h5
  all_goals
    go_enter Try.func5, Try.ntmps5
    go_wp2_with (refine wpList_make_full _ rfl (.tmp 37) (.tmp 37) 22 rfl w.heap.size 2 i1 (.int .i64 0) 1 Try.underlying22 HI1.out HIZ.out HIS.out .i64 .i64 _ _ N rfl rfl HNN.out HNN.out HIN.out HLN.out (Nat.le_refl _) ?_; intro w1 ho1 hg1; have HO1 := hide ho1; have HG1 := hide hg1; clear ho1 hg1)
    refine (zeros_any N w1 _ HNL.out (zeros_rd HO1.out)).mono ?_
    rintro e w2 ⟨nA2, nc2, sA2, sc2, lA2, lc2, rfl, hv2, hg2⟩
    have HBU := hide (build_any 0 (.inl rfl) (.mk 1 (List.replicate N 0) [] []) ⟨by show (1 : Int) ≤ 1; omega, by show (1 : Int) ≤ 5; omega⟩ nA2 nc2 sA2 sc2 lA2 lc2 0 w2 hv2.n hv2.s ⟨by show (List.replicate N (0 : Int)).length ≤ 100000; have := HNL.out; simp; omega, by show 0 ≤ 100000; omega⟩)
    rw [show (Vl.mk 1 (List.replicate N 0) [] []).n.length = N from List.length_replicate] at HBU
    have HG2 := hide (gb_trans HG1.out hg2 (.inl rfl))
    clear hv2 hg2 HO1
    go_wp2_with fail
    refine HBU.out.mono ?_
    rintro e w3 ⟨hg3, hb3⟩
    rw [keysV_bools] at hb3
    rw [if_pos (holds_none _)] at hb3
    obtain ⟨f, g, rfl, hI3⟩ := hb3
    have HI3 := hide (show IxF w3 w2.heap.size f g 0 1 (zK N) from hI3)
    have HG3 := hide (gb_trans HG2.out hg3 (.inl rfl))
    have HF := hide (fun x (hx : x ∈ f) => Nat.le_trans HG2.out.size (hI3.lt x hx).1)
    have HGF : Hid (g ∈ f) := hide (by obtain ⟨_, _, _, hI⟩ := hI3; rw [hI.foot]; simp)
    have HLE := hide hg3.size
    clear hg3 hI3 HBU
    go_wp2_with (first
      | (go_at_call 12; refine (num_any _ _).mono ?_; rintro e wn ⟨rfl, rfl⟩)
      | (refine wpList_make_full _ rfl (.tmp 52) (.tmp 52) 22 rfl w3.heap.size 2 i1 (.int .i64 0) 1 Try.underlying22 HI1.out HIZ.out HIS.out .i64 .i64 _ _ M rfl rfl HMM.out HMM.out HIM.out HLM.out (Nat.le_refl _) ?_; intro w4 ho4 hg4; have HO4 := hide ho4; have HG4 := hide hg4; clear ho4 hg4))
    refine (zeros_any M w4 _ (by have := HML.out; omega) (zeros_rd HO4.out)).mono ?_
    rintro e w5 ⟨nA5, nc5, sA5, sc5, lA5, lc5, rfl, hv5, hg5⟩
    have HI5 := hide (HI3.out.gb (gb_trans HG4.out hg5 (.inl rfl)))
    have HG5 := hide (gb_trans HG3.out (gb_trans HG4.out hg5 (.inl rfl)) (.inl rfl))
    have HAP := hide (fun big hbig => append_any w2.heap.size g f 0 (.inl rfl) (zK N) (.mk 1 (List.replicate M 0) [] []) nA5 nc5 sA5 sc5 lA5 lc5 0 w5 HI5.out hv5.n hv5.s ⟨by show (List.replicate M (0 : Int)).length ≤ 100000; have := HML.out; simp; omega, by show 0 ≤ 100000; omega⟩ (by rw [zK_len]; exact HNL.out) (Nat.le_trans HLE.out (Nat.le_trans HG4.out.size hg5.size)) big hbig)
    rw [keysV_bools, show (Vl.mk 1 (List.replicate M 0) [] []).n.length = M from List.length_replicate] at HAP
    clear hv5 hg5 HO4 HI3
    go_wp2_with fail
    by_cases hbig : N + M ≤ 65536
    · have hb1 : ¬ 65536 < n + m := by have := HNN.out; have := HMM.out; omega
      have HAQ := hide (HAP.out true (by rw [zK_len, List.length_map, List.length_replicate]; exact decide_eq_true hbig))
      clear HAP hbig
      refine HAQ.out.mono ?_
      intro e w6 hp
      obtain ⟨f6, rfl, hI6, hw6, hf6⟩ := hp.1 (by first | rfl | trivial)
      have HI6 := hide (show IxF w6 w2.heap.size f6 g 0 1 (zK (N + M)) from by
        have : zK (N + M) = zK N ++ (List.replicate M (0 : Int)).map fun x => (x, noS) := by unfold zK; rw [← List.map_append, List.replicate_append_replicate]
        rw [this]; exact hI6)
      have HG6 := hide (hw6.gb HG5.out HF.out)
      have HVE := hide (vectorN_ix w2.heap.size g f6 0 1 (by decide) (zK (N + M)) w6 HI6.out (by rw [zK_len]; have := HNL.out; have := HML.out; omega))
      rw [zK_fst] at HVE
      clear hI6 hw6 hf6 hp HAQ
      go_wp2_with (go_at_call 12; refine (num_any _ _).mono ?_; rintro e wn ⟨rfl, rfl⟩)
      refine HVE.out.mono ?_
      rintro e w7 ⟨A7, c7, rfl, _, hg7, _⟩
      rw [List.length_replicate]
      have HG7 := hide (gb_trans HG6.out hg7 (.inl rfl))
      clear hg7 HVE
      go_wp2_with fail
      refine (live_any w7).mono ?_
      rintro e w8 ⟨rfl, hg8⟩
      have HG8 := hide (gb_trans HG7.out hg8 (.inl rfl))
      clear hg8
      go_wp2_with fail
      go_ret
      exact ⟨rfl, HG8.out⟩
    · have hb1 : 65536 < n + m := by have := HNN.out; have := HMM.out; omega
      have HAQ := hide (HAP.out false (by rw [zK_len, List.length_map, List.length_replicate]; exact decide_eq_false hbig))
      clear HAP hbig
      refine HAQ.out.mono ?_
      intro e w6 hp
      obtain ⟨rfl, hg6⟩ := hp.2 (by first | rfl | trivial)
      have HI6 := hide (HI5.out.gb hg6)
      have HG6 := hide (gb_trans HG5.out hg6 (.inl rfl))
      have HVE := hide (vectorN_ix w2.heap.size g f 0 1 (by decide) (zK N) w6 HI6.out (by rw [zK_len]; have := HNL.out; omega))
      rw [zK_fst] at HVE
      clear hg6 hp HAQ
      go_wp2_with (go_at_call 12; refine (num_any _ _).mono ?_; rintro e wn ⟨rfl, rfl⟩)
      refine HVE.out.mono ?_
      rintro e w7 ⟨A7, c7, rfl, _, hg7, _⟩
      rw [List.length_replicate]
      have HG7 := hide (gb_trans HG6.out hg7 (.inl rfl))
      clear hg7 HVE
      go_wp2_with fail
      refine (live_any w7).mono ?_
      rintro e w8 ⟨rfl, hg8⟩
      have HG8 := hide (gb_trans HG7.out hg8 (.inl rfl))
      clear hg8
      go_wp2_with fail
      go_ret
      exact ⟨rfl, HG8.out⟩
theorem many_any (n m : Int) (w : World) : Calls Try.prog 5 #[.int .i64 n, .int .i64 m] w fun e w' => e = .returned (.bool true) ∧ w.grownBy w' none := by
  by_cases h : n < 0 ∨ 65536 < n ∨ m < 0 ∨ 65536 < m ∨ (50 < n ∧ n < 65531) ∨ 50 < m
  · exact many_off n m w h
  · exact many_on n m n.toNat m.toNat (by omega) (by omega) (by omega) (by omega) (by omega) w
end Go.Proofs.Ytfdckhnhancbdaa
