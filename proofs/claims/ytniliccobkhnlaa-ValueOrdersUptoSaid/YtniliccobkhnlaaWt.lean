/-
  The document's own plain, type by type: truths, symbols, lambdas, nothing.
-/
import Derived.Test.YtniliccobkhnlaaWs
import Derived.Deep.QuietTactic
import Derived.BigQuiet
namespace Go.Proofs.Ytniliccobkhnlaa
open Go.RowKit
attribute [local go_sem ↓] Go.wp_at_zero Go.wp_at_succ
theorem bitsV_no {l : List Int} {k : Nat} (hk : k < l.length) (h0 : l[k] ≠ 0) (h1 : l[k] ≠ 1) : bitsV l = false := by
  unfold bitsV
  rw [List.all_eq_false]
  exact ⟨l[k], List.getElem_mem hk, by simp [h0, h1]⟩
theorem bitsV_yes {l : List Int} {k : Nat} (hk : k < l.length) (h : bitsV (l.take k) = true) (h1 : l[k] = 0 ∨ l[k] = 1) : bitsV (l.take (k + 1)) = true := by
  rw [List.take_succ_eq_append_getElem hk]
  unfold bitsV at *
  rw [List.all_append, h]
  rcases h1 with h1 | h1 <;> simp [h1]

set_option maxHeartbeats 8000000 in
set_option maxRecDepth 100000 in
/-- Truths. -/
theorem plain_boolA (v : Vl) (w : World) (B : Nat) (nA : Option Addr) (nc : Nat) (sA : Option Addr) (sc : Nat) (lA : Option Addr) (lc : Nat) (ht : v.tot ≤ 1100000) (hsz : ∀ s ∈ v.s, s.size ≤ 1100000) (hB : B ≤ w.heap.size) (h : VB w B v nA nc sA sc lA lc) (hA : rAtom v.t = true) (hsum : v.n.length + v.s.length = 1) (hk : rAbs v.t = 1) (hs0 : v.s.length = 0) :
    Calls Try.prog 73 #[.agg #[.int .i64 v.t, .slice nA v.n.length nc, .slice sA v.s.length sc, .slice lA v.l.length lc]] w fun e w' => e = .returned (.bool (bitsV v.n)) ∧ w.grownBy w' none := by
  obtain ⟨l1, l2, l3, l4⟩ := Vl.lens v ht
  obtain ⟨wa, hwa⟩ : ∃ wa, wa = w.alloc (.cells #[.int .i64 v.t, .slice nA v.n.length nc, .slice sA v.s.length sc, .slice lA v.l.length lc] 26) := ⟨_, rfl⟩
  have hg : w.grownBy wa none := by rw [hwa]; exact gb_alloc (gb_refl w none) _
  have hc := C4.box w (.int .i64 v.t) (.slice nA v.n.length nc) (.slice sA v.s.length sc) (.slice lA v.l.length lc) 26
  rw [← hwa] at hc
  have b0 : wa.cell? ⟨w.heap.size, 0, none⟩ = some (.int .i64 v.t) := hc.c0
  have b1 : wa.cell? ⟨w.heap.size, 1, none⟩ = some (.slice nA v.n.length nc) := hc.c1
  have b2 : wa.cell? ⟨w.heap.size, 2, none⟩ = some (.slice sA v.s.length sc) := hc.c2
  have b3 : wa.cell? ⟨w.heap.size, 3, none⟩ = some (.slice lA v.l.length lc) := hc.c3
  have HV := hide (h.gb hg hB)
  have HG := hide hg
  have HWE := hide hwa
  have HSZ := hide hsz
  have HAT := hide (fun w2 : World => rAtom_any v.t (.slice nA v.n.length nc) (.slice sA v.s.length sc) (.slice lA v.l.length lc) w2)
  have HAB := hide (fun w2 : World => rAbs_any v.t w2)
  rw [hA] at HAT
  have es : ((v.n.length : Int) + (v.s.length : Int) != 1) = false := by simp; omega
  clear hA
  rw [hk] at HAB
  have HN := hide (h.gb hg hB).n
  have hs1 : ¬ (0 : Int) < (v.s.length : Int) := by omega
  clear hk hs0
  clear ht hB h hg hwa hc hsz
  go_enter Try.func73, Try.ntmps73
  go_wp2_with fail
  rw [← HWE.out]
  go_wp2_with (first
    | (go_at_call 18; refine (HAT.out _).mono ?_; rintro e w1 ⟨rfl, hg1⟩; have b0 := cell_gb b0 hg1; have b1 := cell_gb b1 hg1; have b2 := cell_gb b2 hg1; have b3 := cell_gb b3 hg1; have HG1 := hide hg1; clear hg1)
    | (go_at_call 53; refine (HAB.out _).mono ?_; rintro e wq ⟨rfl, rfl⟩))
  go_loopw [3] (fun i wr => ∃ k : Nat, i = .int .i64 (k : Int) ∧ k ≤ v.n.length ∧ Hid (bitsV (v.n.take k) = true) ∧ w1 = wr) (fun i _ => v.n.length - (intOf i).toNat)
  case atStart => exact ⟨0, rfl, Nat.zero_le _, hide rfl, rfl⟩
  case round =>
    obtain ⟨k, rfl, hk, HK, rfl⟩ := hrel
    by_cases hlt : k < v.n.length
    · have hlt1 : (k : Int) < (v.n.length : Int) := by omega
      obtain ⟨ad, rfl, _, hcell⟩ := HN.out.i64 hlt
      have hcell := cell_gb hcell HG1.out
      have HY := hide (fun h => bitsV_yes hlt HK.out h)
      have HNO := hide (fun h h' => bitsV_no hlt h h')
      obtain ⟨x, hx⟩ : ∃ x, x = v.n[k] := ⟨_, rfl⟩
      rw [← hx] at hcell HY HNO
      clear hx
      by_cases h0 : x = 0
      · have q0 : (x != 0) = false := int_bne_t h0
        have HB := hide (HY.out (.inl h0))
        clear h0
        go_wp2_with fail
        go_roundw
        case rel => exact ⟨k + 1, by go_num, by omega, HB, trivial⟩
        case measure => simp [intOf]; omega
      · have q0 : (x != 0) = true := int_bne_f h0
        by_cases h1 : x = 1
        · have q1 : (x != 1) = false := int_bne_t h1
          have HB := hide (HY.out (.inr h1))
          clear h0 h1
          go_wp2_with fail
          go_roundw
          case rel => exact ⟨k + 1, by go_num, by omega, HB, trivial⟩
          case measure => simp [intOf]; omega
        · have q1 : (x != 1) = true := int_bne_f h1
          have HB := hide (HNO.out h0 h1)
          clear h0 h1
          go_wp2_with fail
          go_ret
          exact ⟨ret_b HB.out.symm, gb_trans HG.out HG1.out (.inl rfl)⟩
    · have hlt1 : ¬ (k : Int) < (v.n.length : Int) := by omega
      have HB := hide (show bitsV v.n = true by
        have h1 := HK.out
        rwa [List.take_of_length_le (by omega)] at h1)
      go_wp2_with fail
      go_loopw [4] (fun i wr => i = .int .i64 0 ∧ w1 = wr) (fun _ _ => 0)
      case atStart => exact ⟨rfl, rfl⟩
      case round =>
        obtain ⟨rfl, rfl⟩ := hrel
        go_wp2_with fail
        go_ret
        exact ⟨ret_b HB.out.symm, gb_trans HG.out HG1.out (.inl rfl)⟩

set_option maxHeartbeats 8000000 in
set_option maxRecDepth 100000 in
/-- Symbols. -/
theorem plain_symA (v : Vl) (w : World) (B : Nat) (nA : Option Addr) (nc : Nat) (sA : Option Addr) (sc : Nat) (lA : Option Addr) (lc : Nat) (ht : v.tot ≤ 1100000) (hsz : ∀ s ∈ v.s, s.size ≤ 1100000) (hB : B ≤ w.heap.size) (h : VB w B v nA nc sA sc lA lc) (hA : rAtom v.t = true) (hsum : v.n.length + v.s.length = 1) (hk : rAbs v.t = 3) :
    Calls Try.prog 73 #[.agg #[.int .i64 v.t, .slice nA v.n.length nc, .slice sA v.s.length sc, .slice lA v.l.length lc]] w fun e w' => e = .returned (.bool (v.s.all symS)) ∧ w.grownBy w' none := by
  obtain ⟨l1, l2, l3, l4⟩ := Vl.lens v ht
  obtain ⟨wa, hwa⟩ : ∃ wa, wa = w.alloc (.cells #[.int .i64 v.t, .slice nA v.n.length nc, .slice sA v.s.length sc, .slice lA v.l.length lc] 26) := ⟨_, rfl⟩
  have hg : w.grownBy wa none := by rw [hwa]; exact gb_alloc (gb_refl w none) _
  have hc := C4.box w (.int .i64 v.t) (.slice nA v.n.length nc) (.slice sA v.s.length sc) (.slice lA v.l.length lc) 26
  rw [← hwa] at hc
  have b0 : wa.cell? ⟨w.heap.size, 0, none⟩ = some (.int .i64 v.t) := hc.c0
  have b1 : wa.cell? ⟨w.heap.size, 1, none⟩ = some (.slice nA v.n.length nc) := hc.c1
  have b2 : wa.cell? ⟨w.heap.size, 2, none⟩ = some (.slice sA v.s.length sc) := hc.c2
  have b3 : wa.cell? ⟨w.heap.size, 3, none⟩ = some (.slice lA v.l.length lc) := hc.c3
  have HV := hide (h.gb hg hB)
  have HG := hide hg
  have HWE := hide hwa
  have HSZ := hide hsz
  have HAT := hide (fun w2 : World => rAtom_any v.t (.slice nA v.n.length nc) (.slice sA v.s.length sc) (.slice lA v.l.length lc) w2)
  have HAB := hide (fun w2 : World => rAbs_any v.t w2)
  rw [hA] at HAT
  have es : ((v.n.length : Int) + (v.s.length : Int) != 1) = false := by simp; omega
  clear hA
  have hr := rAbs_small hk (by omega) (by omega)
  have e100 : (v.t == 100) = false := int_beq_f (by omega)
  have e0 : (v.t == 0) = false := int_beq_f (by omega)
  have e98 : (v.t == 98) = false := int_beq_f (by omega)
  have e99 : (v.t == 99) = false := int_beq_f (by omega)
  rw [hk] at HAB
  have HS := hide (h.gb hg hB).s
  clear hk hr
  clear ht hB h hg hwa hc hsz
  go_enter Try.func73, Try.ntmps73
  go_wp2_with fail
  rw [← HWE.out]
  go_wp2_with (first
    | (go_at_call 18; refine (HAT.out _).mono ?_; rintro e w1 ⟨rfl, hg1⟩; have b0 := cell_gb b0 hg1; have b1 := cell_gb b1 hg1; have b2 := cell_gb b2 hg1; have b3 := cell_gb b3 hg1; have HG1 := hide hg1; clear hg1)
    | (go_at_call 53; refine (HAB.out _).mono ?_; rintro e wq ⟨rfl, rfl⟩))
  go_loopw [4] (fun i wr => ∃ k : Nat, i = .int .i64 (k : Int) ∧ k ≤ v.s.length ∧ Hid ((v.s.take k).all symS = true) ∧ w1 = wr) (fun i _ => v.s.length - (intOf i).toNat)
  case atStart => exact ⟨0, rfl, Nat.zero_le _, hide rfl, rfl⟩
  case round =>
    obtain ⟨k, rfl, hk, HK, rfl⟩ := hrel
    by_cases hlt : k < v.s.length
    · have hlt1 : (k : Int) < (v.s.length : Int) := by omega
      obtain ⟨ad, rfl, _, hcell⟩ := HS.out.str hlt
      have hcell := cell_gb hcell HG1.out
      have HSY := hide (fun w2 : World => rSymbol_ok v.s[k] w2 (HSZ.out _ (List.getElem_mem hlt)))
      have HY : Hid (symS v.s[k] = true → (v.s.take (k + 1)).all symS = true) := hide (fun h => by rw [List.take_succ_eq_append_getElem hlt, List.all_append, HK.out]; simp [h])
      have HNO : Hid (symS v.s[k] = false → v.s.all symS = false) := hide (fun h => by rw [List.all_eq_false]; exact ⟨_, List.getElem_mem hlt, by simp [h]⟩)
      obtain ⟨x, hx⟩ : ∃ x, x = v.s[k] := ⟨_, rfl⟩
      rw [← hx] at hcell HSY HY HNO
      clear hx
      cases hs : symS x with
      | true =>
        have HB := hide (HY.out hs)
        rw [hs] at HSY
        clear hs
        go_wp2_with (first
          | (go_at_call 53; refine (HAB.out _).mono ?_; rintro e wq ⟨rfl, rfl⟩)
          | (go_at_call 86; refine (HSY.out _).mono ?_; rintro e wq ⟨rfl, rfl⟩))
        go_roundw
        case rel => exact ⟨k + 1, by go_num, by omega, HB, trivial⟩
        case measure => simp [intOf]; omega
      | false =>
        have HB := hide (HNO.out hs)
        rw [hs] at HSY
        clear hs
        go_wp2_with (first
          | (go_at_call 53; refine (HAB.out _).mono ?_; rintro e wq ⟨rfl, rfl⟩)
          | (go_at_call 86; refine (HSY.out _).mono ?_; rintro e wq ⟨rfl, rfl⟩))
        go_ret
        exact ⟨ret_b HB.out.symm, gb_trans HG.out HG1.out (.inl rfl)⟩
    · have hlt1 : ¬ (k : Int) < (v.s.length : Int) := by omega
      have HB := hide (show v.s.all symS = true by
        have h1 := HK.out
        rwa [List.take_of_length_le (by omega)] at h1)
      go_wp2_with fail
      go_ret
      exact ⟨ret_b HB.out.symm, gb_trans HG.out HG1.out (.inl rfl)⟩

set_option maxHeartbeats 8000000 in
set_option maxRecDepth 100000 in
/-- Truths. -/
theorem plain_boolV (v : Vl) (w : World) (B : Nat) (nA : Option Addr) (nc : Nat) (sA : Option Addr) (sc : Nat) (lA : Option Addr) (lc : Nat) (ht : v.tot ≤ 1100000) (hsz : ∀ s ∈ v.s, s.size ≤ 1100000) (hB : B ≤ w.heap.size) (h : VB w B v nA nc sA sc lA lc) (hA : rAtom v.t = false) (hk : rAbs v.t = 1) (hs0 : v.s.length = 0) :
    Calls Try.prog 73 #[.agg #[.int .i64 v.t, .slice nA v.n.length nc, .slice sA v.s.length sc, .slice lA v.l.length lc]] w fun e w' => e = .returned (.bool (bitsV v.n)) ∧ w.grownBy w' none := by
  obtain ⟨l1, l2, l3, l4⟩ := Vl.lens v ht
  obtain ⟨wa, hwa⟩ : ∃ wa, wa = w.alloc (.cells #[.int .i64 v.t, .slice nA v.n.length nc, .slice sA v.s.length sc, .slice lA v.l.length lc] 26) := ⟨_, rfl⟩
  have hg : w.grownBy wa none := by rw [hwa]; exact gb_alloc (gb_refl w none) _
  have hc := C4.box w (.int .i64 v.t) (.slice nA v.n.length nc) (.slice sA v.s.length sc) (.slice lA v.l.length lc) 26
  rw [← hwa] at hc
  have b0 : wa.cell? ⟨w.heap.size, 0, none⟩ = some (.int .i64 v.t) := hc.c0
  have b1 : wa.cell? ⟨w.heap.size, 1, none⟩ = some (.slice nA v.n.length nc) := hc.c1
  have b2 : wa.cell? ⟨w.heap.size, 2, none⟩ = some (.slice sA v.s.length sc) := hc.c2
  have b3 : wa.cell? ⟨w.heap.size, 3, none⟩ = some (.slice lA v.l.length lc) := hc.c3
  have HV := hide (h.gb hg hB)
  have HG := hide hg
  have HWE := hide hwa
  have HSZ := hide hsz
  have HAT := hide (fun w2 : World => rAtom_any v.t (.slice nA v.n.length nc) (.slice sA v.s.length sc) (.slice lA v.l.length lc) w2)
  have HAB := hide (fun w2 : World => rAbs_any v.t w2)
  rw [hA] at HAT
  clear hA
  rw [hk] at HAB
  have HN := hide (h.gb hg hB).n
  have hs1 : ¬ (0 : Int) < (v.s.length : Int) := by omega
  clear hk hs0
  clear ht hB h hg hwa hc hsz
  go_enter Try.func73, Try.ntmps73
  go_wp2_with fail
  rw [← HWE.out]
  go_wp2_with (first
    | (go_at_call 18; refine (HAT.out _).mono ?_; rintro e w1 ⟨rfl, hg1⟩; have b0 := cell_gb b0 hg1; have b1 := cell_gb b1 hg1; have b2 := cell_gb b2 hg1; have b3 := cell_gb b3 hg1; have HG1 := hide hg1; clear hg1)
    | (go_at_call 53; refine (HAB.out _).mono ?_; rintro e wq ⟨rfl, rfl⟩))
  go_loopw [3] (fun i wr => ∃ k : Nat, i = .int .i64 (k : Int) ∧ k ≤ v.n.length ∧ Hid (bitsV (v.n.take k) = true) ∧ w1 = wr) (fun i _ => v.n.length - (intOf i).toNat)
  case atStart => exact ⟨0, rfl, Nat.zero_le _, hide rfl, rfl⟩
  case round =>
    obtain ⟨k, rfl, hk, HK, rfl⟩ := hrel
    by_cases hlt : k < v.n.length
    · have hlt1 : (k : Int) < (v.n.length : Int) := by omega
      obtain ⟨ad, rfl, _, hcell⟩ := HN.out.i64 hlt
      have hcell := cell_gb hcell HG1.out
      have HY := hide (fun h => bitsV_yes hlt HK.out h)
      have HNO := hide (fun h h' => bitsV_no hlt h h')
      obtain ⟨x, hx⟩ : ∃ x, x = v.n[k] := ⟨_, rfl⟩
      rw [← hx] at hcell HY HNO
      clear hx
      by_cases h0 : x = 0
      · have q0 : (x != 0) = false := int_bne_t h0
        have HB := hide (HY.out (.inl h0))
        clear h0
        go_wp2_with fail
        go_roundw
        case rel => exact ⟨k + 1, by go_num, by omega, HB, trivial⟩
        case measure => simp [intOf]; omega
      · have q0 : (x != 0) = true := int_bne_f h0
        by_cases h1 : x = 1
        · have q1 : (x != 1) = false := int_bne_t h1
          have HB := hide (HY.out (.inr h1))
          clear h0 h1
          go_wp2_with fail
          go_roundw
          case rel => exact ⟨k + 1, by go_num, by omega, HB, trivial⟩
          case measure => simp [intOf]; omega
        · have q1 : (x != 1) = true := int_bne_f h1
          have HB := hide (HNO.out h0 h1)
          clear h0 h1
          go_wp2_with fail
          go_ret
          exact ⟨ret_b HB.out.symm, gb_trans HG.out HG1.out (.inl rfl)⟩
    · have hlt1 : ¬ (k : Int) < (v.n.length : Int) := by omega
      have HB := hide (show bitsV v.n = true by
        have h1 := HK.out
        rwa [List.take_of_length_le (by omega)] at h1)
      go_wp2_with fail
      go_loopw [4] (fun i wr => i = .int .i64 0 ∧ w1 = wr) (fun _ _ => 0)
      case atStart => exact ⟨rfl, rfl⟩
      case round =>
        obtain ⟨rfl, rfl⟩ := hrel
        go_wp2_with fail
        go_ret
        exact ⟨ret_b HB.out.symm, gb_trans HG.out HG1.out (.inl rfl)⟩

set_option maxHeartbeats 8000000 in
set_option maxRecDepth 100000 in
/-- Symbols. -/
theorem plain_symV (v : Vl) (w : World) (B : Nat) (nA : Option Addr) (nc : Nat) (sA : Option Addr) (sc : Nat) (lA : Option Addr) (lc : Nat) (ht : v.tot ≤ 1100000) (hsz : ∀ s ∈ v.s, s.size ≤ 1100000) (hB : B ≤ w.heap.size) (h : VB w B v nA nc sA sc lA lc) (hA : rAtom v.t = false) (hk : rAbs v.t = 3) :
    Calls Try.prog 73 #[.agg #[.int .i64 v.t, .slice nA v.n.length nc, .slice sA v.s.length sc, .slice lA v.l.length lc]] w fun e w' => e = .returned (.bool (v.s.all symS)) ∧ w.grownBy w' none := by
  obtain ⟨l1, l2, l3, l4⟩ := Vl.lens v ht
  obtain ⟨wa, hwa⟩ : ∃ wa, wa = w.alloc (.cells #[.int .i64 v.t, .slice nA v.n.length nc, .slice sA v.s.length sc, .slice lA v.l.length lc] 26) := ⟨_, rfl⟩
  have hg : w.grownBy wa none := by rw [hwa]; exact gb_alloc (gb_refl w none) _
  have hc := C4.box w (.int .i64 v.t) (.slice nA v.n.length nc) (.slice sA v.s.length sc) (.slice lA v.l.length lc) 26
  rw [← hwa] at hc
  have b0 : wa.cell? ⟨w.heap.size, 0, none⟩ = some (.int .i64 v.t) := hc.c0
  have b1 : wa.cell? ⟨w.heap.size, 1, none⟩ = some (.slice nA v.n.length nc) := hc.c1
  have b2 : wa.cell? ⟨w.heap.size, 2, none⟩ = some (.slice sA v.s.length sc) := hc.c2
  have b3 : wa.cell? ⟨w.heap.size, 3, none⟩ = some (.slice lA v.l.length lc) := hc.c3
  have HV := hide (h.gb hg hB)
  have HG := hide hg
  have HWE := hide hwa
  have HSZ := hide hsz
  have HAT := hide (fun w2 : World => rAtom_any v.t (.slice nA v.n.length nc) (.slice sA v.s.length sc) (.slice lA v.l.length lc) w2)
  have HAB := hide (fun w2 : World => rAbs_any v.t w2)
  rw [hA] at HAT
  clear hA
  have hr := rAbs_small hk (by omega) (by omega)
  have e100 : (v.t == 100) = false := int_beq_f (by omega)
  have e0 : (v.t == 0) = false := int_beq_f (by omega)
  have e98 : (v.t == 98) = false := int_beq_f (by omega)
  have e99 : (v.t == 99) = false := int_beq_f (by omega)
  rw [hk] at HAB
  have HS := hide (h.gb hg hB).s
  clear hk hr
  clear ht hB h hg hwa hc hsz
  go_enter Try.func73, Try.ntmps73
  go_wp2_with fail
  rw [← HWE.out]
  go_wp2_with (first
    | (go_at_call 18; refine (HAT.out _).mono ?_; rintro e w1 ⟨rfl, hg1⟩; have b0 := cell_gb b0 hg1; have b1 := cell_gb b1 hg1; have b2 := cell_gb b2 hg1; have b3 := cell_gb b3 hg1; have HG1 := hide hg1; clear hg1)
    | (go_at_call 53; refine (HAB.out _).mono ?_; rintro e wq ⟨rfl, rfl⟩))
  go_loopw [4] (fun i wr => ∃ k : Nat, i = .int .i64 (k : Int) ∧ k ≤ v.s.length ∧ Hid ((v.s.take k).all symS = true) ∧ w1 = wr) (fun i _ => v.s.length - (intOf i).toNat)
  case atStart => exact ⟨0, rfl, Nat.zero_le _, hide rfl, rfl⟩
  case round =>
    obtain ⟨k, rfl, hk, HK, rfl⟩ := hrel
    by_cases hlt : k < v.s.length
    · have hlt1 : (k : Int) < (v.s.length : Int) := by omega
      obtain ⟨ad, rfl, _, hcell⟩ := HS.out.str hlt
      have hcell := cell_gb hcell HG1.out
      have HSY := hide (fun w2 : World => rSymbol_ok v.s[k] w2 (HSZ.out _ (List.getElem_mem hlt)))
      have HY : Hid (symS v.s[k] = true → (v.s.take (k + 1)).all symS = true) := hide (fun h => by rw [List.take_succ_eq_append_getElem hlt, List.all_append, HK.out]; simp [h])
      have HNO : Hid (symS v.s[k] = false → v.s.all symS = false) := hide (fun h => by rw [List.all_eq_false]; exact ⟨_, List.getElem_mem hlt, by simp [h]⟩)
      obtain ⟨x, hx⟩ : ∃ x, x = v.s[k] := ⟨_, rfl⟩
      rw [← hx] at hcell HSY HY HNO
      clear hx
      cases hs : symS x with
      | true =>
        have HB := hide (HY.out hs)
        rw [hs] at HSY
        clear hs
        go_wp2_with (first
          | (go_at_call 53; refine (HAB.out _).mono ?_; rintro e wq ⟨rfl, rfl⟩)
          | (go_at_call 86; refine (HSY.out _).mono ?_; rintro e wq ⟨rfl, rfl⟩))
        go_roundw
        case rel => exact ⟨k + 1, by go_num, by omega, HB, trivial⟩
        case measure => simp [intOf]; omega
      | false =>
        have HB := hide (HNO.out hs)
        rw [hs] at HSY
        clear hs
        go_wp2_with (first
          | (go_at_call 53; refine (HAB.out _).mono ?_; rintro e wq ⟨rfl, rfl⟩)
          | (go_at_call 86; refine (HSY.out _).mono ?_; rintro e wq ⟨rfl, rfl⟩))
        go_ret
        exact ⟨ret_b HB.out.symm, gb_trans HG.out HG1.out (.inl rfl)⟩
    · have hlt1 : ¬ (k : Int) < (v.s.length : Int) := by omega
      have HB := hide (show v.s.all symS = true by
        have h1 := HK.out
        rwa [List.take_of_length_le (by omega)] at h1)
      go_wp2_with fail
      go_ret
      exact ⟨ret_b HB.out.symm, gb_trans HG.out HG1.out (.inl rfl)⟩

set_option maxHeartbeats 8000000 in
set_option maxRecDepth 100000 in
/-- Nothing. -/
theorem plain_nil (v : Vl) (w : World) (B : Nat) (nA : Option Addr) (nc : Nat) (sA : Option Addr) (sc : Nat) (lA : Option Addr) (lc : Nat) (ht : v.tot ≤ 1100000) (hsz : ∀ s ∈ v.s, s.size ≤ 1100000) (hB : B ≤ w.heap.size) (h : VB w B v nA nc sA sc lA lc) (ht0 : v.t = 101) (hs0 : v.s.length = 0) :
    Calls Try.prog 73 #[.agg #[.int .i64 v.t, .slice nA v.n.length nc, .slice sA v.s.length sc, .slice lA v.l.length lc]] w fun e w' => e = .returned (.bool (true)) ∧ w.grownBy w' none := by
  obtain ⟨l1, l2, l3, l4⟩ := Vl.lens v ht
  obtain ⟨wa, hwa⟩ : ∃ wa, wa = w.alloc (.cells #[.int .i64 v.t, .slice nA v.n.length nc, .slice sA v.s.length sc, .slice lA v.l.length lc] 26) := ⟨_, rfl⟩
  have hg : w.grownBy wa none := by rw [hwa]; exact gb_alloc (gb_refl w none) _
  have hc := C4.box w (.int .i64 v.t) (.slice nA v.n.length nc) (.slice sA v.s.length sc) (.slice lA v.l.length lc) 26
  rw [← hwa] at hc
  have b0 : wa.cell? ⟨w.heap.size, 0, none⟩ = some (.int .i64 v.t) := hc.c0
  have b1 : wa.cell? ⟨w.heap.size, 1, none⟩ = some (.slice nA v.n.length nc) := hc.c1
  have b2 : wa.cell? ⟨w.heap.size, 2, none⟩ = some (.slice sA v.s.length sc) := hc.c2
  have b3 : wa.cell? ⟨w.heap.size, 3, none⟩ = some (.slice lA v.l.length lc) := hc.c3
  have HV := hide (h.gb hg hB)
  have HG := hide hg
  have HWE := hide hwa
  have HSZ := hide hsz
  have HAT := hide (fun w2 : World => rAtom_any v.t (.slice nA v.n.length nc) (.slice sA v.s.length sc) (.slice lA v.l.length lc) w2)
  have HAB := hide (fun w2 : World => rAbs_any v.t w2)
  have ea : rAtom v.t = false := by rw [ht0]; rfl
  have eb : rAbs v.t = 101 := by rw [ht0]; rfl
  have e100 : (v.t == 100) = false := int_beq_f (by omega)
  have e0 : (v.t == 0) = false := int_beq_f (by omega)
  have e98 : (v.t == 98) = false := int_beq_f (by omega)
  have e99 : (v.t == 99) = false := int_beq_f (by omega)
  rw [ea] at HAT
  rw [eb] at HAB
  have hs1 : ¬ (0 : Int) < (v.s.length : Int) := by omega
  clear ht0 ea eb hs0
  clear ht hB h hg hwa hc hsz
  go_enter Try.func73, Try.ntmps73
  go_wp2_with fail
  rw [← HWE.out]
  go_wp2_with (first
    | (go_at_call 18; refine (HAT.out _).mono ?_; rintro e w1 ⟨rfl, hg1⟩; have b0 := cell_gb b0 hg1; have b1 := cell_gb b1 hg1; have b2 := cell_gb b2 hg1; have b3 := cell_gb b3 hg1; have HG1 := hide hg1; clear hg1)
    | (go_at_call 53; refine (HAB.out _).mono ?_; rintro e wq ⟨rfl, rfl⟩))
  go_loopw [4] (fun i wr => i = .int .i64 0 ∧ w1 = wr) (fun _ _ => 0)
  case atStart => exact ⟨rfl, rfl⟩
  case round =>
    obtain ⟨rfl, rfl⟩ := hrel
    go_wp2_with fail
    go_ret
    exact ⟨rfl, gb_trans HG.out HG1.out (.inl rfl)⟩
end Go.Proofs.Ytniliccobkhnlaa
