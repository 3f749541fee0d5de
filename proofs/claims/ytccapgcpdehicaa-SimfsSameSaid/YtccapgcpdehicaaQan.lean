/-
  The law Switch: its first operations, and what is found.
-/
import Derived.Test.YtccapgcpdehicaaQam
import Derived.Test.YtccapgcpdehicaaQak
import Derived.Deep.CutBlock
import Derived.Deep.DeepCutAuto
import Derived.Deep.RegionWith

namespace Go.Proofs.Ytccapgcpdehicaa
open Go.RowKit

theorem dp_start {P : Program} {md : Region.Mode} {ops : Array Oper} {Q : Exit → Act → World → Prop} {fuel : Nat} {listed : Array Bool} {a : Act} {w : World}
    (h : ∀ (G : Nat → Array Bool → Act → World → Prop) (A : Act), G = wpAny P md ops Q → A = a → G fuel listed A w) : wpAny P md ops Q fuel listed a w := h _ _ rfl rfl

/-- What was read reads the same as long as its block stays. -/
theorem string_kept {w8 w11 : World} {b c : Nat} {bs : List UInt8} (hr : Rd w8 w8.heap.size (some ⟨b, 0, none⟩) (u8s bs)) (he : w11.heap[b]? = w8.heap[b]?) :
    (convert 32 9 (.slice (some ⟨b, 0, none⟩) bs.length c)).run Try.prog w11 = .ok (.string ⟨bs.toArray⟩) w11 := by
  have hr' : Rd w11 w8.heap.size (some ⟨b, 0, none⟩) (u8s bs) := fun hn => by
    obtain ⟨ad, e, h1, h2⟩ := hr hn
    injection e with e
    subst e
    have e2 : ∀ j, (⟨b, 0, none⟩ : Addr).add j = ⟨b, j, none⟩ := fun j => by unfold Addr.add; split <;> simp_all
    refine ⟨_, rfl, h1, fun j u hu => ?_⟩
    have := h2 j u hu
    rw [e2] at this ⊢
    exact (cell_same (p := ⟨b, j, none⟩) he).trans this
  exact run_string_of w11 32 5 Try.underlying32 Try.underlying5 _ _ _ _ hr' 9 Try.underlying9

set_option maxHeartbeats 8000000 in
set_option maxRecDepth 100000 in
theorem live_any (w : World) : Calls Try.prog 5 #[] w fun e w' => e = .returned (.bool true) ∧ w.grownBy w' none := by
  have HN := hide (Lv.new 10 w (by decide) (by decide))
  have hcv := fun (w : World) (C : Array Value) (n c : Nat) => Go.Lib.run_convert_bytes_const (P := Try.prog) w 32 5 C n c Try.underlying32 Try.underlying5
  go_enter Try.func5, Try.ntmps5
  go_wp2_with (first
    | (go_at_call 9; refine HN.out.mono ?_; rintro e w1 ⟨g, rfl, hl1⟩; have HL := hide hl1; clear hl1)
    | (go_at_call 10; refine (num_any _ _).mono ?_; rintro e wq ⟨rfl, rfl⟩)
    | (go_at_call 11; refine (show Calls Try.prog 11 #[.pointer (some ⟨g, 0, none⟩), .string ⟨#[97]⟩] _ (fun e w' => e = .returned (.tuple #[.int .i64 1, .int .i64 0]) ∧ Lv w g Live.S1 w') from HL.out.create Live.nm Live.err Live.fine0).mono ?_; rintro e w2 ⟨rfl, hl2⟩; have HA2 := hide (hl2.append_new Live.fine1 Live.h1 [97, 98, 99] #[.int .u8 97, .int .u8 98, .int .u8 99] (3, 4) 3 3 rfl rfl (by decide) (by decide)); clear hl2)
    | (go_at_call 12; refine HA2.out.mono ?_; rintro e w3 ⟨rfl, hl3⟩; have HL3 := hide hl3; clear hl3)
    | (go_at_call 13; refine (Lv.sync (S := Live.S2) HL3.out Live.fine2 Live.h2).mono ?_; rintro e w4 ⟨rfl, hl4⟩; have HL4 := hide hl4; clear hl4)
    | (go_at_call 14; refine (Lv.syncdir (S := Live.S3) HL4.out Live.fine3 Live.h3.2 Live.names3).mono ?_; rintro e w5 ⟨rfl, hl5⟩; have HL5 := hide hl5; clear hl5))
  go_cut [8, 9, 10] (fun a b c wc => a = .int .i64 0 ∧ b = .int .i64 0 ∧ c = .int .i64 5 ∧ Lv w g Live.S6 wc)
  case first =>
    -- REGION 6
    have HR0 := hide (Lr.start HL5.out).drew
    clear hcv HL5
    have hmk : ∀ wx : World, (Instr.makeSlice 32 (.int .i64 8) (.int .i64 8)).run Try.prog wx = .ok (.slice (some ⟨wx.heap.size, 0, none⟩) 8 8) (wx.alloc (.cells #[.int .u8 0, .int .u8 0, .int .u8 0, .int .u8 0, .int .u8 0, .int .u8 0, .int .u8 0, .int .u8 0] 5)) := fun _ => by kernel_rfl
    refine wp_region_any (by kernel_rfl) ?_
    change wpAny _ _ _ _ _ _ _ (World.drew _)
    refine wpAny_take (i := 0) (oi := ⟨some 42, _, _, _, _, _⟩) (v := (.pointer (some ⟨g, 0, none⟩))) rfl (by kernel_rfl) (by kernel_rfl) (by kernel_rfl) (fun _ _ _ h => h) (Or.inl ⟨by rfl, fun wY => by go_simp⟩) ?_
    refine wpAny_take (i := 1) (oi := ⟨some 43, _, _, _, _, _⟩) (v := (.int .i64 1)) rfl (by kernel_rfl) (by kernel_rfl) (by kernel_rfl) (fun _ _ _ h => h) (Or.inl ⟨by rfl, fun wY => by go_simp⟩) ?_
    refine wpAny_take (i := 5) (oi := ⟨some 47, _, _, _, _, _⟩) (v := (.pointer (some ⟨g, 0, none⟩))) rfl (by kernel_rfl) (by kernel_rfl) (by kernel_rfl) (fun _ _ _ h => h) (Or.inl ⟨by rfl, fun wY => by go_simp⟩) ?_
    refine wpAny_take (i := 6) (oi := ⟨some 48, _, _, _, _, _⟩) (v := (.int .i64 1)) rfl (by kernel_rfl) (by kernel_rfl) (by kernel_rfl) (fun _ _ _ h => h) (Or.inl ⟨by rfl, fun wY => by go_simp⟩) ?_
    refine wpAny_take (i := 10) (oi := ⟨some 52, _, _, _, _, _⟩) (v := (.pointer (some ⟨g, 0, none⟩))) rfl (by kernel_rfl) (by kernel_rfl) (by kernel_rfl) (fun _ _ _ h => h) (Or.inl ⟨by rfl, fun wY => by go_simp⟩) ?_
    refine wpAny_take (i := 11) (oi := ⟨some 53, _, _, _, _, _⟩) (v := (.int .i64 1)) rfl (by kernel_rfl) (by kernel_rfl) (by kernel_rfl) (fun _ _ _ h => h) (Or.inl ⟨by rfl, fun wY => by go_simp⟩) ?_
    simp only [Act.put, List.setIfInBounds_toArray, List.set_cons_zero, List.set_cons_succ]
    refine dp_start fun G A hG hA => ?_
    have K331 : ∀ (b1 b2 b3 : Nat) (wX : World), Lv w g Live.S6 wX → G 4 #[true, true, true, true, true, true, true, true, true, true, true, true, true, false, false, false, false] (((((((A.put (some 44) (.slice (some ⟨b1, 0, none⟩) 2 2)).put (some 45) (.slice (some ⟨b1, 0, none⟩) 2 2)).put (some 46) (.int .i64 0)).put (some 49) (.slice (some ⟨b2, 0, none⟩) 1 1)).put (some 50) (.slice (some ⟨b2, 0, none⟩) 1 1)).put (some 51) (.int .i64 0)).put (some 54) (.slice (some ⟨b3, 0, none⟩) 8 8)) wX := by
      intro b1 b2 b3 wX hr
      rw [hA, hG]
      simp only [Act.put, List.setIfInBounds_toArray, List.set_cons_zero, List.set_cons_succ]
      refine wpAny_ready (rs := [13]) (by kernel_rfl) (by simp) ?_
      refine AllReady.cons rfl (fun K hK => ?_) ?_
      · go_simp
        go_wp2_with (go_at_call 12; refine Lr.go3 hr ?_; intro w' hr'; have HR' := hide hr'; clear hr')
        (first | refine hK _ _ ?_ | skip)
        refine wpAny_take (i := 14) (oi := ⟨some 8, _, _, _, _, _⟩) (v := .int .i64 0) rfl (by kernel_rfl) (by kernel_rfl) (by kernel_rfl) (fun _ _ _ h => h) (Or.inl ⟨by rfl, fun wY => by go_simp⟩) ?_
        refine wpAny_take (i := 15) (oi := ⟨some 9, _, _, _, _, _⟩) (v := .int .i64 0) rfl (by kernel_rfl) (by kernel_rfl) (by kernel_rfl) (fun _ _ _ h => h) (Or.inl ⟨by rfl, fun wY => by go_simp⟩) ?_
        refine wpAny_take (i := 16) (oi := ⟨some 10, _, _, _, _, _⟩) (v := .int .i64 5) rfl (by kernel_rfl) (by kernel_rfl) (by kernel_rfl) (fun _ _ _ h => h) (Or.inl ⟨by rfl, fun wY => by go_simp⟩) ?_
        refine wpAny_done (by kernel_rfl) ?_ _
        simp only [Act.put, List.setIfInBounds_toArray, List.set_cons_zero, List.set_cons_succ]
        go_wp2_with fail
        go_meet
        case rel => exact ⟨rfl, rfl, rfl, HR'.out⟩
      exact AllReady.nil
    rw [hA] at K331
    simp only [Act.put, List.setIfInBounds_toArray, List.set_cons_zero, List.set_cons_succ] at K331
    have K330 : ∀ (b1 b2 b3 : Nat) (wX : World), Lv w g Live.S6 wX → G 5 #[true, true, true, true, true, true, true, true, true, true, true, true, false, false, false, false, false] ((((((A.put (some 44) (.slice (some ⟨b1, 0, none⟩) 2 2)).put (some 45) (.slice (some ⟨b1, 0, none⟩) 2 2)).put (some 46) (.int .i64 0)).put (some 49) (.slice (some ⟨b2, 0, none⟩) 1 1)).put (some 50) (.slice (some ⟨b2, 0, none⟩) 1 1)).put (some 51) (.int .i64 0)) wX := by
      intro b1 b2 b3 wX hr
      rw [hA, hG]
      simp only [Act.put, List.setIfInBounds_toArray, List.set_cons_zero, List.set_cons_succ]
      refine wpAny_ready (rs := [12]) (by kernel_rfl) (by simp) ?_
      refine AllReady.cons rfl (fun K hK => ?_) ?_
      · go_simp
        refine hK _ _ ?_
        rw [← hG]
        exact K331 b1 b2 wX.heap.size _ (hr.alloc _)
      exact AllReady.nil
    rw [hA] at K330
    simp only [Act.put, List.setIfInBounds_toArray, List.set_cons_zero, List.set_cons_succ] at K330
    have K321 : ∀ (b1 b2 b3 : Nat) (wX : World), Lr w g Live.S5 none (some (b2, true)) wX → G 5 #[true, true, true, true, true, true, true, true, true, false, true, true, true, false, false, false, false] ((((((A.put (some 44) (.slice (some ⟨b1, 0, none⟩) 2 2)).put (some 45) (.slice (some ⟨b1, 0, none⟩) 2 2)).put (some 46) (.int .i64 0)).put (some 49) (.slice (some ⟨b2, 0, none⟩) 1 1)).put (some 50) (.slice (some ⟨b2, 0, none⟩) 1 1)).put (some 54) (.slice (some ⟨b3, 0, none⟩) 8 8)) wX := by
      intro b1 b2 b3 wX hr
      rw [hA, hG]
      simp only [Act.put, List.setIfInBounds_toArray, List.set_cons_zero, List.set_cons_succ]
      refine wpAny_ready (rs := [9]) (by kernel_rfl) (by simp) ?_
      refine AllReady.cons rfl (fun K hK => ?_) ?_
      · go_simp
        go_wp2_with (go_at_call 12; refine Lr.go2 hr ?_; intro w' hr'; have HR' := hide hr'; clear hr')
        (first | refine hK _ _ ?_ | skip)
        rw [← hG]
        exact K331 b1 b2 b3 _ HR'.out
      exact AllReady.nil
    rw [hA] at K321
    simp only [Act.put, List.setIfInBounds_toArray, List.set_cons_zero, List.set_cons_succ] at K321
    have K320 : ∀ (b1 b2 b3 : Nat) (wX : World), Lr w g Live.S5 none (some (b2, true)) wX → G 6 #[true, true, true, true, true, true, true, true, true, false, true, true, false, false, false, false, false] (((((A.put (some 44) (.slice (some ⟨b1, 0, none⟩) 2 2)).put (some 45) (.slice (some ⟨b1, 0, none⟩) 2 2)).put (some 46) (.int .i64 0)).put (some 49) (.slice (some ⟨b2, 0, none⟩) 1 1)).put (some 50) (.slice (some ⟨b2, 0, none⟩) 1 1)) wX := by
      intro b1 b2 b3 wX hr
      rw [hA, hG]
      simp only [Act.put, List.setIfInBounds_toArray, List.set_cons_zero, List.set_cons_succ]
      refine wpAny_ready (rs := [9, 12]) (by kernel_rfl) (by simp) ?_
      refine AllReady.cons rfl (fun K hK => ?_) ?_
      · go_simp
        go_wp2_with (go_at_call 12; refine Lr.go2 hr ?_; intro w' hr'; have HR' := hide hr'; clear hr')
        (first | refine hK _ _ ?_ | skip)
        rw [← hG]
        exact K330 b1 b2 b3 _ HR'.out
      refine AllReady.cons rfl (fun K hK => ?_) ?_
      · go_simp
        refine hK _ _ ?_
        rw [← hG]
        exact K321 b1 b2 wX.heap.size _ (hr.alloc _)
      exact AllReady.nil
    rw [hA] at K320
    simp only [Act.put, List.setIfInBounds_toArray, List.set_cons_zero, List.set_cons_succ] at K320
    have K221 : ∀ (b1 b2 b3 : Nat) (wX : World), Lr w g Live.S4 (some (b1, true)) (some (b2, true)) wX → G 6 #[true, true, true, true, false, true, true, true, true, false, true, true, true, false, false, false, false] (((((A.put (some 44) (.slice (some ⟨b1, 0, none⟩) 2 2)).put (some 45) (.slice (some ⟨b1, 0, none⟩) 2 2)).put (some 49) (.slice (some ⟨b2, 0, none⟩) 1 1)).put (some 50) (.slice (some ⟨b2, 0, none⟩) 1 1)).put (some 54) (.slice (some ⟨b3, 0, none⟩) 8 8)) wX := by
      intro b1 b2 b3 wX hr
      rw [hA, hG]
      simp only [Act.put, List.setIfInBounds_toArray, List.set_cons_zero, List.set_cons_succ]
      refine wpAny_ready (rs := [4]) (by kernel_rfl) (by simp) ?_
      refine AllReady.cons rfl (fun K hK => ?_) ?_
      · go_simp
        go_wp2_with (go_at_call 12; refine Lr.go1 hr ?_; intro w' hr'; have HR' := hide hr'; clear hr')
        (first | refine hK _ _ ?_ | skip)
        rw [← hG]
        exact K321 b1 b2 b3 _ HR'.out
      exact AllReady.nil
    rw [hA] at K221
    simp only [Act.put, List.setIfInBounds_toArray, List.set_cons_zero, List.set_cons_succ] at K221
    have K220 : ∀ (b1 b2 b3 : Nat) (wX : World), Lr w g Live.S4 (some (b1, true)) (some (b2, true)) wX → G 7 #[true, true, true, true, false, true, true, true, true, false, true, true, false, false, false, false, false] ((((A.put (some 44) (.slice (some ⟨b1, 0, none⟩) 2 2)).put (some 45) (.slice (some ⟨b1, 0, none⟩) 2 2)).put (some 49) (.slice (some ⟨b2, 0, none⟩) 1 1)).put (some 50) (.slice (some ⟨b2, 0, none⟩) 1 1)) wX := by
      intro b1 b2 b3 wX hr
      rw [hA, hG]
      simp only [Act.put, List.setIfInBounds_toArray, List.set_cons_zero, List.set_cons_succ]
      refine wpAny_ready (rs := [4, 12]) (by kernel_rfl) (by simp) ?_
      refine AllReady.cons rfl (fun K hK => ?_) ?_
      · go_simp
        go_wp2_with (go_at_call 12; refine Lr.go1 hr ?_; intro w' hr'; have HR' := hide hr'; clear hr')
        (first | refine hK _ _ ?_ | skip)
        rw [← hG]
        exact K320 b1 b2 b3 _ HR'.out
      refine AllReady.cons rfl (fun K hK => ?_) ?_
      · go_simp
        refine hK _ _ ?_
        rw [← hG]
        exact K221 b1 b2 wX.heap.size _ (hr.alloc _)
      exact AllReady.nil
    rw [hA] at K220
    simp only [Act.put, List.setIfInBounds_toArray, List.set_cons_zero, List.set_cons_succ] at K220
    have K121 : ∀ (b1 b2 b3 : Nat) (wX : World), Lr w g Live.S4 (some (b1, false)) (some (b2, true)) wX → G 7 #[true, true, true, false, false, true, true, true, true, false, true, true, true, false, false, false, false] ((((A.put (some 44) (.slice (some ⟨b1, 0, none⟩) 2 2)).put (some 49) (.slice (some ⟨b2, 0, none⟩) 1 1)).put (some 50) (.slice (some ⟨b2, 0, none⟩) 1 1)).put (some 54) (.slice (some ⟨b3, 0, none⟩) 8 8)) wX := by
      intro b1 b2 b3 wX hr
      rw [hA, hG]
      simp only [Act.put, List.setIfInBounds_toArray, List.set_cons_zero, List.set_cons_succ]
      have hcv1 := conv_run (P := Try.prog) wX 32 5 b1 _ 2 2 Try.underlying32 Try.underlying5 hr.row1 rfl
      refine wpAny_ready (rs := [3]) (by kernel_rfl) (by simp) ?_
      refine AllReady.cons rfl (fun K hK => ?_) ?_
      · go_simp
        refine hK _ _ ?_
        rw [← hG]
        exact K221 b1 b2 b3 _ hr.conv1
      exact AllReady.nil
    rw [hA] at K121
    simp only [Act.put, List.setIfInBounds_toArray, List.set_cons_zero, List.set_cons_succ] at K121
    have K120 : ∀ (b1 b2 b3 : Nat) (wX : World), Lr w g Live.S4 (some (b1, false)) (some (b2, true)) wX → G 8 #[true, true, true, false, false, true, true, true, true, false, true, true, false, false, false, false, false] (((A.put (some 44) (.slice (some ⟨b1, 0, none⟩) 2 2)).put (some 49) (.slice (some ⟨b2, 0, none⟩) 1 1)).put (some 50) (.slice (some ⟨b2, 0, none⟩) 1 1)) wX := by
      intro b1 b2 b3 wX hr
      rw [hA, hG]
      simp only [Act.put, List.setIfInBounds_toArray, List.set_cons_zero, List.set_cons_succ]
      have hcv1 := conv_run (P := Try.prog) wX 32 5 b1 _ 2 2 Try.underlying32 Try.underlying5 hr.row1 rfl
      refine wpAny_ready (rs := [3, 12]) (by kernel_rfl) (by simp) ?_
      refine AllReady.cons rfl (fun K hK => ?_) ?_
      · go_simp
        refine hK _ _ ?_
        rw [← hG]
        exact K220 b1 b2 b3 _ hr.conv1
      refine AllReady.cons rfl (fun K hK => ?_) ?_
      · go_simp
        refine hK _ _ ?_
        rw [← hG]
        exact K121 b1 b2 wX.heap.size _ (hr.alloc _)
      exact AllReady.nil
    rw [hA] at K120
    simp only [Act.put, List.setIfInBounds_toArray, List.set_cons_zero, List.set_cons_succ] at K120
    have K021 : ∀ (b1 b2 b3 : Nat) (wX : World), Lr w g Live.S4 none (some (b2, true)) wX → G 8 #[true, true, false, false, false, true, true, true, true, false, true, true, true, false, false, false, false] (((A.put (some 49) (.slice (some ⟨b2, 0, none⟩) 1 1)).put (some 50) (.slice (some ⟨b2, 0, none⟩) 1 1)).put (some 54) (.slice (some ⟨b3, 0, none⟩) 8 8)) wX := by
      intro b1 b2 b3 wX hr
      rw [hA, hG]
      simp only [Act.put, List.setIfInBounds_toArray, List.set_cons_zero, List.set_cons_succ]
      refine wpAny_ready (rs := [2]) (by kernel_rfl) (by simp) ?_
      refine AllReady.cons rfl (fun K hK => ?_) ?_
      · go_simp
        refine hK _ _ ?_
        rw [← hG]
        exact K121 wX.heap.size b2 b3 _ (hr.alloc1 rfl)
      exact AllReady.nil
    rw [hA] at K021
    simp only [Act.put, List.setIfInBounds_toArray, List.set_cons_zero, List.set_cons_succ] at K021
    have K020 : ∀ (b1 b2 b3 : Nat) (wX : World), Lr w g Live.S4 none (some (b2, true)) wX → G 9 #[true, true, false, false, false, true, true, true, true, false, true, true, false, false, false, false, false] ((A.put (some 49) (.slice (some ⟨b2, 0, none⟩) 1 1)).put (some 50) (.slice (some ⟨b2, 0, none⟩) 1 1)) wX := by
      intro b1 b2 b3 wX hr
      rw [hA, hG]
      simp only [Act.put, List.setIfInBounds_toArray, List.set_cons_zero, List.set_cons_succ]
      refine wpAny_ready (rs := [2, 12]) (by kernel_rfl) (by simp) ?_
      refine AllReady.cons rfl (fun K hK => ?_) ?_
      · go_simp
        refine hK _ _ ?_
        rw [← hG]
        exact K120 wX.heap.size b2 b3 _ (hr.alloc1 rfl)
      refine AllReady.cons rfl (fun K hK => ?_) ?_
      · go_simp
        refine hK _ _ ?_
        rw [← hG]
        exact K021 b1 b2 wX.heap.size _ (hr.alloc _)
      exact AllReady.nil
    rw [hA] at K020
    simp only [Act.put, List.setIfInBounds_toArray, List.set_cons_zero, List.set_cons_succ] at K020
    have K311 : ∀ (b1 b2 b3 : Nat) (wX : World), Lr w g Live.S5 none (some (b2, false)) wX → G 6 #[true, true, true, true, true, true, true, true, false, false, true, true, true, false, false, false, false] (((((A.put (some 44) (.slice (some ⟨b1, 0, none⟩) 2 2)).put (some 45) (.slice (some ⟨b1, 0, none⟩) 2 2)).put (some 46) (.int .i64 0)).put (some 49) (.slice (some ⟨b2, 0, none⟩) 1 1)).put (some 54) (.slice (some ⟨b3, 0, none⟩) 8 8)) wX := by
      intro b1 b2 b3 wX hr
      rw [hA, hG]
      simp only [Act.put, List.setIfInBounds_toArray, List.set_cons_zero, List.set_cons_succ]
      have hcv2 := conv_run (P := Try.prog) wX 32 5 b2 _ 1 1 Try.underlying32 Try.underlying5 hr.row2 rfl
      refine wpAny_ready (rs := [8]) (by kernel_rfl) (by simp) ?_
      refine AllReady.cons rfl (fun K hK => ?_) ?_
      · go_simp
        refine hK _ _ ?_
        rw [← hG]
        exact K321 b1 b2 b3 _ hr.conv2
      exact AllReady.nil
    rw [hA] at K311
    simp only [Act.put, List.setIfInBounds_toArray, List.set_cons_zero, List.set_cons_succ] at K311
    have K310 : ∀ (b1 b2 b3 : Nat) (wX : World), Lr w g Live.S5 none (some (b2, false)) wX → G 7 #[true, true, true, true, true, true, true, true, false, false, true, true, false, false, false, false, false] ((((A.put (some 44) (.slice (some ⟨b1, 0, none⟩) 2 2)).put (some 45) (.slice (some ⟨b1, 0, none⟩) 2 2)).put (some 46) (.int .i64 0)).put (some 49) (.slice (some ⟨b2, 0, none⟩) 1 1)) wX := by
      intro b1 b2 b3 wX hr
      rw [hA, hG]
      simp only [Act.put, List.setIfInBounds_toArray, List.set_cons_zero, List.set_cons_succ]
      have hcv2 := conv_run (P := Try.prog) wX 32 5 b2 _ 1 1 Try.underlying32 Try.underlying5 hr.row2 rfl
      refine wpAny_ready (rs := [8, 12]) (by kernel_rfl) (by simp) ?_
      refine AllReady.cons rfl (fun K hK => ?_) ?_
      · go_simp
        refine hK _ _ ?_
        rw [← hG]
        exact K320 b1 b2 b3 _ hr.conv2
      refine AllReady.cons rfl (fun K hK => ?_) ?_
      · go_simp
        refine hK _ _ ?_
        rw [← hG]
        exact K311 b1 b2 wX.heap.size _ (hr.alloc _)
      exact AllReady.nil
    rw [hA] at K310
    simp only [Act.put, List.setIfInBounds_toArray, List.set_cons_zero, List.set_cons_succ] at K310
    have K211 : ∀ (b1 b2 b3 : Nat) (wX : World), Lr w g Live.S4 (some (b1, true)) (some (b2, false)) wX → G 7 #[true, true, true, true, false, true, true, true, false, false, true, true, true, false, false, false, false] ((((A.put (some 44) (.slice (some ⟨b1, 0, none⟩) 2 2)).put (some 45) (.slice (some ⟨b1, 0, none⟩) 2 2)).put (some 49) (.slice (some ⟨b2, 0, none⟩) 1 1)).put (some 54) (.slice (some ⟨b3, 0, none⟩) 8 8)) wX := by
      intro b1 b2 b3 wX hr
      rw [hA, hG]
      simp only [Act.put, List.setIfInBounds_toArray, List.set_cons_zero, List.set_cons_succ]
      have hcv2 := conv_run (P := Try.prog) wX 32 5 b2 _ 1 1 Try.underlying32 Try.underlying5 hr.row2 rfl
      refine wpAny_ready (rs := [4, 8]) (by kernel_rfl) (by simp) ?_
      refine AllReady.cons rfl (fun K hK => ?_) ?_
      · go_simp
        go_wp2_with (go_at_call 12; refine Lr.go1 hr ?_; intro w' hr'; have HR' := hide hr'; clear hr')
        (first | refine hK _ _ ?_ | skip)
        rw [← hG]
        exact K311 b1 b2 b3 _ HR'.out
      refine AllReady.cons rfl (fun K hK => ?_) ?_
      · go_simp
        refine hK _ _ ?_
        rw [← hG]
        exact K221 b1 b2 b3 _ hr.conv2
      exact AllReady.nil
    rw [hA] at K211
    simp only [Act.put, List.setIfInBounds_toArray, List.set_cons_zero, List.set_cons_succ] at K211
    have K210 : ∀ (b1 b2 b3 : Nat) (wX : World), Lr w g Live.S4 (some (b1, true)) (some (b2, false)) wX → G 8 #[true, true, true, true, false, true, true, true, false, false, true, true, false, false, false, false, false] (((A.put (some 44) (.slice (some ⟨b1, 0, none⟩) 2 2)).put (some 45) (.slice (some ⟨b1, 0, none⟩) 2 2)).put (some 49) (.slice (some ⟨b2, 0, none⟩) 1 1)) wX := by
      intro b1 b2 b3 wX hr
      rw [hA, hG]
      simp only [Act.put, List.setIfInBounds_toArray, List.set_cons_zero, List.set_cons_succ]
      have hcv2 := conv_run (P := Try.prog) wX 32 5 b2 _ 1 1 Try.underlying32 Try.underlying5 hr.row2 rfl
      refine wpAny_ready (rs := [4, 8, 12]) (by kernel_rfl) (by simp) ?_
      refine AllReady.cons rfl (fun K hK => ?_) ?_
      · go_simp
        go_wp2_with (go_at_call 12; refine Lr.go1 hr ?_; intro w' hr'; have HR' := hide hr'; clear hr')
        (first | refine hK _ _ ?_ | skip)
        rw [← hG]
        exact K310 b1 b2 b3 _ HR'.out
      refine AllReady.cons rfl (fun K hK => ?_) ?_
      · go_simp
        refine hK _ _ ?_
        rw [← hG]
        exact K220 b1 b2 b3 _ hr.conv2
      refine AllReady.cons rfl (fun K hK => ?_) ?_
      · go_simp
        refine hK _ _ ?_
        rw [← hG]
        exact K211 b1 b2 wX.heap.size _ (hr.alloc _)
      exact AllReady.nil
    rw [hA] at K210
    simp only [Act.put, List.setIfInBounds_toArray, List.set_cons_zero, List.set_cons_succ] at K210
    have K111 : ∀ (b1 b2 b3 : Nat) (wX : World), Lr w g Live.S4 (some (b1, false)) (some (b2, false)) wX → G 8 #[true, true, true, false, false, true, true, true, false, false, true, true, true, false, false, false, false] (((A.put (some 44) (.slice (some ⟨b1, 0, none⟩) 2 2)).put (some 49) (.slice (some ⟨b2, 0, none⟩) 1 1)).put (some 54) (.slice (some ⟨b3, 0, none⟩) 8 8)) wX := by
      intro b1 b2 b3 wX hr
      rw [hA, hG]
      simp only [Act.put, List.setIfInBounds_toArray, List.set_cons_zero, List.set_cons_succ]
      have hcv1 := conv_run (P := Try.prog) wX 32 5 b1 _ 2 2 Try.underlying32 Try.underlying5 hr.row1 rfl
      have hcv2 := conv_run (P := Try.prog) wX 32 5 b2 _ 1 1 Try.underlying32 Try.underlying5 hr.row2 rfl
      refine wpAny_ready (rs := [3, 8]) (by kernel_rfl) (by simp) ?_
      refine AllReady.cons rfl (fun K hK => ?_) ?_
      · go_simp
        refine hK _ _ ?_
        rw [← hG]
        exact K211 b1 b2 b3 _ hr.conv1
      refine AllReady.cons rfl (fun K hK => ?_) ?_
      · go_simp
        refine hK _ _ ?_
        rw [← hG]
        exact K121 b1 b2 b3 _ hr.conv2
      exact AllReady.nil
    rw [hA] at K111
    simp only [Act.put, List.setIfInBounds_toArray, List.set_cons_zero, List.set_cons_succ] at K111
    have K110 : ∀ (b1 b2 b3 : Nat) (wX : World), Lr w g Live.S4 (some (b1, false)) (some (b2, false)) wX → G 9 #[true, true, true, false, false, true, true, true, false, false, true, true, false, false, false, false, false] ((A.put (some 44) (.slice (some ⟨b1, 0, none⟩) 2 2)).put (some 49) (.slice (some ⟨b2, 0, none⟩) 1 1)) wX := by
      intro b1 b2 b3 wX hr
      rw [hA, hG]
      simp only [Act.put, List.setIfInBounds_toArray, List.set_cons_zero, List.set_cons_succ]
      have hcv1 := conv_run (P := Try.prog) wX 32 5 b1 _ 2 2 Try.underlying32 Try.underlying5 hr.row1 rfl
      have hcv2 := conv_run (P := Try.prog) wX 32 5 b2 _ 1 1 Try.underlying32 Try.underlying5 hr.row2 rfl
      refine wpAny_ready (rs := [3, 8, 12]) (by kernel_rfl) (by simp) ?_
      refine AllReady.cons rfl (fun K hK => ?_) ?_
      · go_simp
        refine hK _ _ ?_
        rw [← hG]
        exact K210 b1 b2 b3 _ hr.conv1
      refine AllReady.cons rfl (fun K hK => ?_) ?_
      · go_simp
        refine hK _ _ ?_
        rw [← hG]
        exact K120 b1 b2 b3 _ hr.conv2
      refine AllReady.cons rfl (fun K hK => ?_) ?_
      · go_simp
        refine hK _ _ ?_
        rw [← hG]
        exact K111 b1 b2 wX.heap.size _ (hr.alloc _)
      exact AllReady.nil
    rw [hA] at K110
    simp only [Act.put, List.setIfInBounds_toArray, List.set_cons_zero, List.set_cons_succ] at K110
    have K011 : ∀ (b1 b2 b3 : Nat) (wX : World), Lr w g Live.S4 none (some (b2, false)) wX → G 9 #[true, true, false, false, false, true, true, true, false, false, true, true, true, false, false, false, false] ((A.put (some 49) (.slice (some ⟨b2, 0, none⟩) 1 1)).put (some 54) (.slice (some ⟨b3, 0, none⟩) 8 8)) wX := by
      intro b1 b2 b3 wX hr
      rw [hA, hG]
      simp only [Act.put, List.setIfInBounds_toArray, List.set_cons_zero, List.set_cons_succ]
      have hcv2 := conv_run (P := Try.prog) wX 32 5 b2 _ 1 1 Try.underlying32 Try.underlying5 hr.row2 rfl
      refine wpAny_ready (rs := [2, 8]) (by kernel_rfl) (by simp) ?_
      refine AllReady.cons rfl (fun K hK => ?_) ?_
      · go_simp
        refine hK _ _ ?_
        rw [← hG]
        exact K111 wX.heap.size b2 b3 _ (hr.alloc1 rfl)
      refine AllReady.cons rfl (fun K hK => ?_) ?_
      · go_simp
        refine hK _ _ ?_
        rw [← hG]
        exact K021 b1 b2 b3 _ hr.conv2
      exact AllReady.nil
    rw [hA] at K011
    simp only [Act.put, List.setIfInBounds_toArray, List.set_cons_zero, List.set_cons_succ] at K011
    have K010 : ∀ (b1 b2 b3 : Nat) (wX : World), Lr w g Live.S4 none (some (b2, false)) wX → G 10 #[true, true, false, false, false, true, true, true, false, false, true, true, false, false, false, false, false] (A.put (some 49) (.slice (some ⟨b2, 0, none⟩) 1 1)) wX := by
      intro b1 b2 b3 wX hr
      rw [hA, hG]
      simp only [Act.put, List.setIfInBounds_toArray, List.set_cons_zero, List.set_cons_succ]
      have hcv2 := conv_run (P := Try.prog) wX 32 5 b2 _ 1 1 Try.underlying32 Try.underlying5 hr.row2 rfl
      refine wpAny_ready (rs := [2, 8, 12]) (by kernel_rfl) (by simp) ?_
      refine AllReady.cons rfl (fun K hK => ?_) ?_
      · go_simp
        refine hK _ _ ?_
        rw [← hG]
        exact K110 wX.heap.size b2 b3 _ (hr.alloc1 rfl)
      refine AllReady.cons rfl (fun K hK => ?_) ?_
      · go_simp
        refine hK _ _ ?_
        rw [← hG]
        exact K020 b1 b2 b3 _ hr.conv2
      refine AllReady.cons rfl (fun K hK => ?_) ?_
      · go_simp
        refine hK _ _ ?_
        rw [← hG]
        exact K011 b1 b2 wX.heap.size _ (hr.alloc _)
      exact AllReady.nil
    rw [hA] at K010
    simp only [Act.put, List.setIfInBounds_toArray, List.set_cons_zero, List.set_cons_succ] at K010
    have K301 : ∀ (b1 b2 b3 : Nat) (wX : World), Lr w g Live.S5 none none wX → G 7 #[true, true, true, true, true, true, true, false, false, false, true, true, true, false, false, false, false] ((((A.put (some 44) (.slice (some ⟨b1, 0, none⟩) 2 2)).put (some 45) (.slice (some ⟨b1, 0, none⟩) 2 2)).put (some 46) (.int .i64 0)).put (some 54) (.slice (some ⟨b3, 0, none⟩) 8 8)) wX := by
      intro b1 b2 b3 wX hr
      rw [hA, hG]
      simp only [Act.put, List.setIfInBounds_toArray, List.set_cons_zero, List.set_cons_succ]
      refine wpAny_ready (rs := [7]) (by kernel_rfl) (by simp) ?_
      refine AllReady.cons rfl (fun K hK => ?_) ?_
      · go_simp
        refine hK _ _ ?_
        rw [← hG]
        exact K311 b1 wX.heap.size b3 _ (hr.alloc2 rfl)
      exact AllReady.nil
    rw [hA] at K301
    simp only [Act.put, List.setIfInBounds_toArray, List.set_cons_zero, List.set_cons_succ] at K301
    have K300 : ∀ (b1 b2 b3 : Nat) (wX : World), Lr w g Live.S5 none none wX → G 8 #[true, true, true, true, true, true, true, false, false, false, true, true, false, false, false, false, false] (((A.put (some 44) (.slice (some ⟨b1, 0, none⟩) 2 2)).put (some 45) (.slice (some ⟨b1, 0, none⟩) 2 2)).put (some 46) (.int .i64 0)) wX := by
      intro b1 b2 b3 wX hr
      rw [hA, hG]
      simp only [Act.put, List.setIfInBounds_toArray, List.set_cons_zero, List.set_cons_succ]
      refine wpAny_ready (rs := [7, 12]) (by kernel_rfl) (by simp) ?_
      refine AllReady.cons rfl (fun K hK => ?_) ?_
      · go_simp
        refine hK _ _ ?_
        rw [← hG]
        exact K310 b1 wX.heap.size b3 _ (hr.alloc2 rfl)
      refine AllReady.cons rfl (fun K hK => ?_) ?_
      · go_simp
        refine hK _ _ ?_
        rw [← hG]
        exact K301 b1 b2 wX.heap.size _ (hr.alloc _)
      exact AllReady.nil
    rw [hA] at K300
    simp only [Act.put, List.setIfInBounds_toArray, List.set_cons_zero, List.set_cons_succ] at K300
    have K201 : ∀ (b1 b2 b3 : Nat) (wX : World), Lr w g Live.S4 (some (b1, true)) none wX → G 8 #[true, true, true, true, false, true, true, false, false, false, true, true, true, false, false, false, false] (((A.put (some 44) (.slice (some ⟨b1, 0, none⟩) 2 2)).put (some 45) (.slice (some ⟨b1, 0, none⟩) 2 2)).put (some 54) (.slice (some ⟨b3, 0, none⟩) 8 8)) wX := by
      intro b1 b2 b3 wX hr
      rw [hA, hG]
      simp only [Act.put, List.setIfInBounds_toArray, List.set_cons_zero, List.set_cons_succ]
      refine wpAny_ready (rs := [4, 7]) (by kernel_rfl) (by simp) ?_
      refine AllReady.cons rfl (fun K hK => ?_) ?_
      · go_simp
        go_wp2_with (go_at_call 12; refine Lr.go1 hr ?_; intro w' hr'; have HR' := hide hr'; clear hr')
        (first | refine hK _ _ ?_ | skip)
        rw [← hG]
        exact K301 b1 b2 b3 _ HR'.out
      refine AllReady.cons rfl (fun K hK => ?_) ?_
      · go_simp
        refine hK _ _ ?_
        rw [← hG]
        exact K211 b1 wX.heap.size b3 _ (hr.alloc2 rfl)
      exact AllReady.nil
    rw [hA] at K201
    simp only [Act.put, List.setIfInBounds_toArray, List.set_cons_zero, List.set_cons_succ] at K201
    have K200 : ∀ (b1 b2 b3 : Nat) (wX : World), Lr w g Live.S4 (some (b1, true)) none wX → G 9 #[true, true, true, true, false, true, true, false, false, false, true, true, false, false, false, false, false] ((A.put (some 44) (.slice (some ⟨b1, 0, none⟩) 2 2)).put (some 45) (.slice (some ⟨b1, 0, none⟩) 2 2)) wX := by
      intro b1 b2 b3 wX hr
      rw [hA, hG]
      simp only [Act.put, List.setIfInBounds_toArray, List.set_cons_zero, List.set_cons_succ]
      refine wpAny_ready (rs := [4, 7, 12]) (by kernel_rfl) (by simp) ?_
      refine AllReady.cons rfl (fun K hK => ?_) ?_
      · go_simp
        go_wp2_with (go_at_call 12; refine Lr.go1 hr ?_; intro w' hr'; have HR' := hide hr'; clear hr')
        (first | refine hK _ _ ?_ | skip)
        rw [← hG]
        exact K300 b1 b2 b3 _ HR'.out
      refine AllReady.cons rfl (fun K hK => ?_) ?_
      · go_simp
        refine hK _ _ ?_
        rw [← hG]
        exact K210 b1 wX.heap.size b3 _ (hr.alloc2 rfl)
      refine AllReady.cons rfl (fun K hK => ?_) ?_
      · go_simp
        refine hK _ _ ?_
        rw [← hG]
        exact K201 b1 b2 wX.heap.size _ (hr.alloc _)
      exact AllReady.nil
    rw [hA] at K200
    simp only [Act.put, List.setIfInBounds_toArray, List.set_cons_zero, List.set_cons_succ] at K200
    have K101 : ∀ (b1 b2 b3 : Nat) (wX : World), Lr w g Live.S4 (some (b1, false)) none wX → G 9 #[true, true, true, false, false, true, true, false, false, false, true, true, true, false, false, false, false] ((A.put (some 44) (.slice (some ⟨b1, 0, none⟩) 2 2)).put (some 54) (.slice (some ⟨b3, 0, none⟩) 8 8)) wX := by
      intro b1 b2 b3 wX hr
      rw [hA, hG]
      simp only [Act.put, List.setIfInBounds_toArray, List.set_cons_zero, List.set_cons_succ]
      have hcv1 := conv_run (P := Try.prog) wX 32 5 b1 _ 2 2 Try.underlying32 Try.underlying5 hr.row1 rfl
      refine wpAny_ready (rs := [3, 7]) (by kernel_rfl) (by simp) ?_
      refine AllReady.cons rfl (fun K hK => ?_) ?_
      · go_simp
        refine hK _ _ ?_
        rw [← hG]
        exact K201 b1 b2 b3 _ hr.conv1
      refine AllReady.cons rfl (fun K hK => ?_) ?_
      · go_simp
        refine hK _ _ ?_
        rw [← hG]
        exact K111 b1 wX.heap.size b3 _ (hr.alloc2 rfl)
      exact AllReady.nil
    rw [hA] at K101
    simp only [Act.put, List.setIfInBounds_toArray, List.set_cons_zero, List.set_cons_succ] at K101
    have K100 : ∀ (b1 b2 b3 : Nat) (wX : World), Lr w g Live.S4 (some (b1, false)) none wX → G 10 #[true, true, true, false, false, true, true, false, false, false, true, true, false, false, false, false, false] (A.put (some 44) (.slice (some ⟨b1, 0, none⟩) 2 2)) wX := by
      intro b1 b2 b3 wX hr
      rw [hA, hG]
      simp only [Act.put, List.setIfInBounds_toArray, List.set_cons_zero, List.set_cons_succ]
      have hcv1 := conv_run (P := Try.prog) wX 32 5 b1 _ 2 2 Try.underlying32 Try.underlying5 hr.row1 rfl
      refine wpAny_ready (rs := [3, 7, 12]) (by kernel_rfl) (by simp) ?_
      refine AllReady.cons rfl (fun K hK => ?_) ?_
      · go_simp
        refine hK _ _ ?_
        rw [← hG]
        exact K200 b1 b2 b3 _ hr.conv1
      refine AllReady.cons rfl (fun K hK => ?_) ?_
      · go_simp
        refine hK _ _ ?_
        rw [← hG]
        exact K110 b1 wX.heap.size b3 _ (hr.alloc2 rfl)
      refine AllReady.cons rfl (fun K hK => ?_) ?_
      · go_simp
        refine hK _ _ ?_
        rw [← hG]
        exact K101 b1 b2 wX.heap.size _ (hr.alloc _)
      exact AllReady.nil
    rw [hA] at K100
    simp only [Act.put, List.setIfInBounds_toArray, List.set_cons_zero, List.set_cons_succ] at K100
    have K001 : ∀ (b1 b2 b3 : Nat) (wX : World), Lr w g Live.S4 none none wX → G 10 #[true, true, false, false, false, true, true, false, false, false, true, true, true, false, false, false, false] (A.put (some 54) (.slice (some ⟨b3, 0, none⟩) 8 8)) wX := by
      intro b1 b2 b3 wX hr
      rw [hA, hG]
      simp only [Act.put, List.setIfInBounds_toArray, List.set_cons_zero, List.set_cons_succ]
      refine wpAny_ready (rs := [2, 7]) (by kernel_rfl) (by simp) ?_
      refine AllReady.cons rfl (fun K hK => ?_) ?_
      · go_simp
        refine hK _ _ ?_
        rw [← hG]
        exact K101 wX.heap.size b2 b3 _ (hr.alloc1 rfl)
      refine AllReady.cons rfl (fun K hK => ?_) ?_
      · go_simp
        refine hK _ _ ?_
        rw [← hG]
        exact K011 b1 wX.heap.size b3 _ (hr.alloc2 rfl)
      exact AllReady.nil
    rw [hA] at K001
    simp only [Act.put, List.setIfInBounds_toArray, List.set_cons_zero, List.set_cons_succ] at K001
    have K000 : ∀ (b1 b2 b3 : Nat) (wX : World), Lr w g Live.S4 none none wX → G 11 #[true, true, false, false, false, true, true, false, false, false, true, true, false, false, false, false, false] A wX := by
      intro b1 b2 b3 wX hr
      rw [hA, hG]
      refine wpAny_ready (rs := [2, 7, 12]) (by kernel_rfl) (by simp) ?_
      refine AllReady.cons rfl (fun K hK => ?_) ?_
      · go_simp
        refine hK _ _ ?_
        rw [← hG]
        exact K100 wX.heap.size b2 b3 _ (hr.alloc1 rfl)
      refine AllReady.cons rfl (fun K hK => ?_) ?_
      · go_simp
        refine hK _ _ ?_
        rw [← hG]
        exact K010 b1 wX.heap.size b3 _ (hr.alloc2 rfl)
      refine AllReady.cons rfl (fun K hK => ?_) ?_
      · go_simp
        refine hK _ _ ?_
        rw [← hG]
        exact K001 b1 b2 wX.heap.size _ (hr.alloc _)
      exact AllReady.nil
    rw [hA] at K000
    rw [hA]
    exact K000 0 0 0 _ HR0.out
    -- END
  case rest =>
    obtain ⟨rfl, rfl, rfl, hl6⟩ := hcut
    have HL6 := hide hl6
    have hW := hide (Lv.waiting hl6 Live.h6.1)
    have HCR := hide (Lv.crash (S := Live.S6) hl6 Live.fine6 0 (some ⟨wc.heap.size, 0, none⟩) 1 [(1, 0, 1)] (wy := wc.alloc (.cells #[.int .i64 1, .int .i64 0, .int .i64 1] 50)) (gb_alloc (gb_refl wc none) _)
      ((Rd.laid wc #[.int .i64 1, .int .i64 0, .int .i64 1] 50 (0, 0) (tcells [(1, 0, 1)]) rfl).more (by simp)) (fun a ha => by injection ha with ha; subst ha; exact .inr (Nat.le_refl _)) ⟨Nat.le_refl _, by unfold maxLen; decide⟩ Live.hN6 Live.hNl6 Live.hG6)
    clear hl6
    go_wp2_with (first
      | (go_at_call 15; refine hW.out.mono ?_; rintro e wq ⟨rfl, rfl⟩)
      | (go_at_call 16; refine HCR.out.mono ?_; rintro e w7 ⟨rfl, ks, k1, k2, hl7⟩; obtain rfl := Live.ks k1 k2; have HRA := hide (Lv.read_arm (S := Live.S7) hl7 Live.fine7 Live.h7 0 99 (by decide) (by decide) 1 (by decide) (by decide)); clear hl7 k1 k2)
      | (go_at_call 17; refine HRA.out.mono ?_; rintro e w8 ⟨b8, c8, m8, rfl, hm8, hmc8, hcm8, hb8, hg8, hr8, harm8⟩; obtain rfl : m8 = 4 := hm8; have HG8 := hide hg8; have HR8 := hide hr8; have HARM := hide harm8; have HB8 := hide hb8; clear hg8 hr8 harm8 hb8 hcm8 hmc8)
      | (go_at_call 18; refine HARM.out.mono ?_; rintro e w9 ⟨rfl, hz9⟩; have HAP := hide (Lz.append_new (S := Live.S8) hz9 Live.fine8 Live.h8 [120] #[.int .u8 120] (1, 2) 1 1 rfl rfl (by decide) Live.fit8); clear hz9)
      | (go_at_call 12; refine HAP.out.mono ?_; rintro e w10 ⟨rfl, hz10⟩; have HZ10 := hide hz10; clear hz10 HAP)
      | (go_at_call 12; refine (Lz.append_dead (S := Live.S9) (HZ10.out.alloc _) Live.dead9 _ _ _ _).mono ?_; rintro e w11 ⟨rfl, hz11⟩; have HZ11 := hide hz11; have hstr : (convert 32 9 (.slice (some ⟨b8, 0, none⟩) 4 c8)).run Try.prog w11 = .ok (.string ⟨#[97, 98, 99, 100]⟩) w11 := string_kept (c := c8) HR8.out (hz11.turned.block b8 HB8.out (fun h => h (.inr rfl))); clear hz11)
      | (go_at_call 10; refine (num_any _ _).mono ?_; rintro e wq ⟨rfl, rfl⟩)
      | (go_at_call 19; refine (Lz.dead (S := Live.S9) HZ11.out).mono ?_; rintro e wq ⟨rfl, rfl⟩)
      | (go_at_call 20; refine (checkName_any _ _).mono ?_; rintro e wq ⟨rfl, rfl⟩))
    go_ret
    have hT := HZ11.out.turned
    have hG := HG8.out
    have hs := hG.size
    refine ⟨by rw [Live.badA]; rfl, hT.os.trans hG.os, hT.tape.trans hG.tape, hT.output.trans hG.output, Nat.le_trans hs hT.size, fun i hi hn => (hT.block i (Nat.lt_of_lt_of_le hi hs) (fun h => h (.inl hi))).trans (hG.block i hi hn)⟩

end Go.Proofs.Ytccapgcpdehicaa

namespace Go.Proofs.Ytccapgcpdehicaa
open Go.RowKit

/-! ## up to the first SyncDir -/
theorem Sw.F0 (f : Fl) : (fun m => if m = (1 : Int) then some f else (fun _ => none : Int → Option Fl) m) = Sw.F (some f) none := by
  funext m
  unfold Sw.F
  by_cases h : m = 1
  · subst h; simp
  · simp [h]
def Sw.V1 : St := ⟨67108864, 0, 1, 1, 0, false, Sw.F (some ⟨false, [], [], []⟩) none, [(Sw.it, 1)], [], [⟨⟨#[]⟩, Sw.it, 1⟩]⟩
def Sw.V2 (old : List UInt8) : St := ⟨67108864, old.length, 1, 2, 0, false, Sw.F (some ⟨false, old, [], [⟨false, 0, old⟩]⟩) none, [(Sw.it, 1)], [], [⟨⟨#[]⟩, Sw.it, 1⟩]⟩
def Sw.V3 (old : List UInt8) : St := ⟨67108864, old.length, 1, 3, 0, false, Sw.F (some ⟨false, old, old, []⟩) none, [(Sw.it, 1)], [], [⟨⟨#[]⟩, Sw.it, 1⟩]⟩
theorem Sw.v1 : (St.new 67108864).created Sw.it = Sw.V1 := by
  have e : (St.new 67108864).created Sw.it = { Sw.V1 with files := fun m => if m = (1 : Int) then some ⟨false, [], [], []⟩ else (fun _ => none : Int → Option Fl) m } := rfl
  rw [e, Sw.F0]
  rfl
theorem Sw.v2 (old : List UInt8) : Sw.V1.wrote 1 ⟨false, [], [], []⟩ ⟨false, 0, old⟩ = Sw.V2 old := by
  have e0 : doW [] ⟨false, 0, old⟩ = old := by simp [doW]
  have e1 : Sw.V1.wrote 1 ⟨false, [], [], []⟩ ⟨false, 0, old⟩ = { Sw.V2 old with used := 0 - 0 + (doW [] ⟨false, 0, old⟩).length, files := fun m => if m = (1 : Int) then some ⟨false, doW [] ⟨false, 0, old⟩, [], [⟨false, 0, old⟩]⟩ else Sw.F (some ⟨false, [], [], []⟩) none m } := rfl
  rw [e1, e0, Sw.F1]
  unfold Sw.V2
  simp
theorem Sw.v3 (old : List UInt8) : (Sw.V2 old).synced 1 ⟨false, old, [], [⟨false, 0, old⟩]⟩ = Sw.V3 old := by
  have e1 : (Sw.V2 old).synced 1 ⟨false, old, [], [⟨false, 0, old⟩]⟩ = { Sw.V3 old with files := fun m => if m = (1 : Int) then some ⟨false, old, old, []⟩ else Sw.F (some ⟨false, old, [], [⟨false, 0, old⟩]⟩) none m } := rfl
  rw [e1, Sw.F1]
  rfl
theorem Sw.v4 (old fresh : List UInt8) : ((Sw.V3 old).settled (Sw.V3 old).names).count = Sw.T old fresh 4 0 false 0 := by
  have ef : (fun n : Int => if ∃ x ∈ ([(Sw.it, 1)] : List (ByteArray × Nat)), (x.2 : Int) = n then Sw.F (some ⟨false, old, old, []⟩) none n else none) = Sw.F (some ⟨false, old, old, []⟩) none := by
    funext n
    unfold Sw.F
    by_cases hn : n = 1
    · subst hn; simp
    · have hn' : ¬ (1 : Int) = n := fun e => hn e.symm
      by_cases h2 : n = 2 <;> simp [hn, hn', h2]
  have e1 : ((Sw.V3 old).settled (Sw.V3 old).names).count = { Sw.T old fresh 4 0 false 0 with files := fun n : Int => if ∃ x ∈ ([(Sw.it, 1)] : List (ByteArray × Nat)), (x.2 : Int) = n then Sw.F (some ⟨false, old, old, []⟩) none n else none } := rfl
  rw [e1, ef]
  rfl
theorem Sw.fine1 : Fine Sw.V1 := Sw.fine_of _ _ _ rfl (by rintro f (h | h) <;> cases h; simp) (by decide) (by decide) (by decide) (by decide) (by decide)
theorem Sw.fine2 {old : List UInt8} (ho : old.length ≤ 20000) : Fine (Sw.V2 old) := Sw.fine_of _ _ _ rfl (by rintro f (h | h) <;> cases h; simp; omega) (by simp [Sw.V2]; omega) (by simp [Sw.V2]) (by simp [Sw.V2]) (by simp [Sw.V2]) (by simp [Sw.V2])
theorem Sw.fine3 {old : List UInt8} (ho : old.length ≤ 20000) : Fine (Sw.V3 old) := Sw.fine_of _ _ _ rfl (by rintro f (h | h) <;> cases h; simp; omega) (by simp [Sw.V3]; omega) (by simp [Sw.V3]) (by simp [Sw.V3]) (by simp [Sw.V3]) (by simp [Sw.V3])
theorem Sw.fine0 : Fine (St.new 67108864) := ⟨by decide, by decide, by decide, by decide, by decide, fun n f h => by cases h⟩

section
variable {w wx : World} {g : Nat} {old fresh : List UInt8}
theorem Sw.c1 (h : Lv w g (St.new 67108864) wx) : Calls Try.prog 11 #[.pointer (some ⟨g, 0, none⟩), .string ⟨#[105, 116]⟩] wx fun e w' => e = .returned (.tuple #[.int .i64 1, .int .i64 0]) ∧ Lv w g Sw.V1 w' :=
  (h.create Sw.it (show createErr (St.new 67108864) Sw.it = 0 from rfl) Sw.fine0).mono fun e w' ⟨he, hl⟩ => ⟨he, by rw [Sw.v1] at hl; exact hl⟩
theorem Sw.c2 (h : Lv w g Sw.V1 wx) (ho : old.length ≤ 20000) (A : Option Addr) (m c : Nat) (hr : Rd wx wx.heap.size A (u8s old)) (hm : m = old.length) :
    Calls Try.prog 12 #[.pointer (some ⟨g, 0, none⟩), .int .i64 1, .slice A m c] wx fun e w' => e = .returned (.int .i64 0) ∧ Lv w g (Sw.V2 old) w' :=
  (h.append Sw.fine1 (n := 1) (f := ⟨false, [], [], []⟩) ⟨rfl, rfl⟩ old A m c hr hm (by omega) (.inr (by show (0 : Int) + m ≤ 67108864; omega))).mono fun e w' ⟨he, hl⟩ => ⟨he, by
    have hl' : Lv w g (Sw.V1.wrote 1 ⟨false, [], [], []⟩ ⟨false, 0, old⟩) w' := hl
    rw [Sw.v2] at hl'
    exact hl'⟩
theorem Sw.c3 (h : Lv w g (Sw.V2 old) wx) (ho : old.length ≤ 20000) : Calls Try.prog 13 #[.pointer (some ⟨g, 0, none⟩), .int .i64 1] wx fun e w' => e = .returned (.int .i64 0) ∧ Lv w g (Sw.V3 old) w' :=
  (h.sync (Sw.fine2 ho) (n := 1) (f := ⟨false, old, [], [⟨false, 0, old⟩]⟩) ⟨rfl, rfl⟩).mono fun e w' ⟨he, hl⟩ => ⟨he, by rw [Sw.v3] at hl; exact hl⟩
theorem Sw.c4 (fresh : List UInt8) (h : Lv w g (Sw.V3 old) wx) (ho : old.length ≤ 20000) : Calls Try.prog 14 #[.pointer (some ⟨g, 0, none⟩)] wx fun e w' => e = .returned (.int .i64 0) ∧ Lv w g (Sw.T old fresh 4 0 false 0) w' :=
  (h.syncdir (Sw.fine3 ho) rfl (fun x hx => by
    have hx' : x ∈ ([(Sw.it, 1)] : List (ByteArray × Nat)) := hx
    rw [List.mem_singleton] at hx'
    subst hx'
    rfl)).mono fun e w' ⟨he, hl⟩ => ⟨he, by rw [Sw.v4 old fresh] at hl; exact hl⟩
theorem Sw.c5 (h : Lv w g (Sw.T old fresh 4 0 false 0) wx) (n : Int) (hn : n ≤ 9223372036854775807) : Calls Try.prog 18 #[.pointer (some ⟨g, 0, none⟩), .int .i64 n] wx fun e w' => e = .returned (.tuple #[]) ∧ ∃ S, Lv w g S w' ∧ Sw.At old fresh 0 S := by
  obtain ⟨L, h1, h2, h3⟩ := h
  refine (Lv.post h2 h3 (armed_in L g _ n wx h1)).mono fun e w' ⟨he, hl⟩ => ⟨he, _, hl, 0, 4, max n 0, false || n == 0, rfl, Nat.le_refl _, fun _ => rfl, by omega, by omega, by omega⟩
/-- Open and Read behind the crash. -/
theorem Sw.open_ {S : St} {d : Bool} (h : Lv w g S wx) (hp : Sw.Post old fresh d S) : ∃ (n : Nat) (xs : List UInt8), (xs = old ∨ xs = fresh) ∧ (d = false → xs = fresh) ∧ xs.length ≤ 20000 ∧
    Calls Try.prog 41 #[.pointer (some ⟨g, 0, none⟩), .string ⟨#[105, 116]⟩] wx fun e w' => e = .returned (.tuple #[.int .i64 (n : Int), .int .i64 0]) ∧
      Calls Try.prog 17 #[.pointer (some ⟨g, 0, none⟩), .int .i64 (n : Int), .int .i64 0, .int .i64 67108864] w' fun e w2 => ∃ A c m, e = .returned (.tuple #[.slice A m c, .int .i64 0]) ∧ m = xs.length ∧ w.grownBy w2 none ∧ Rd w2 w2.heap.size A (u8s xs) := by
  obtain ⟨p1, p2, n, f, p3, p4, p5, p6, p7⟩ := hp
  obtain ⟨L, h1, h2, h3⟩ := h
  have he : askErr S [Sw.it] Sw.it = 0 := by
    have hok : [Sw.it].all nameOk = true := by decide
    unfold askErr
    rw [p1, hok, p3]
    simp
  refine ⟨n, f.bytes, p5, p6, p7, (open_any L g S Sw.it wx h1).mono ?_⟩
  rintro e w' ⟨rfl, hg⟩
  refine ⟨by rw [openVal, if_pos he, he, p3]; rfl, ?_⟩
  have hl := Lv.keep ⟨L, h1, h2, h3⟩ hg
  refine (hl.read p2 (n := (n : Int)) (f := f) ⟨p4, p1⟩ 0 67108864 (Nat.zero_le _) (by decide)).mono ?_
  rintro e w2 ⟨A, c, m, rfl, hm, hl2, hr, _⟩
  refine ⟨A, c, m, rfl, by rw [hm]; show min 67108864 (f.bytes.length - 0) = _; omega, hl2.grown, ?_⟩
  rw [List.drop_zero, List.take_of_length_le (by show f.bytes.length ≤ 67108864; omega)] at hr
  exact hr
end

end Go.Proofs.Ytccapgcpdehicaa
