/-
  The walk of OctetFrames: octet.Crc and Seal, Open and Frames answer what the document's answer does (P1.2 to P1.4).
-/
import Derived.Test.YtdaefgkhimhpdaaHuge
namespace Go.Proofs.Ytdaefgkhimhpdaa
open Go.RowKit Go.ChangeShapes Go.WideShapes Go.ChangeAt

theorem frsF_length (f : Nat) : ∀ p : List UInt8, (frsF f p).1.length ≤ p.length := by
  induction f with
  | zero => intro p; simp [frsF]
  | succ f ih =>
    intro p
    unfold frsF
    split
    · simp
    · split
      · rename_i h
        have hs := opn_size p h
        have := ih (p.drop (opn p).2.1)
        rw [List.length_drop] at this
        simp only [List.length_cons]
        omega
      · simp
theorem frs_length (p : List UInt8) : (frs p).1.length ≤ p.length := frsF_length _ p

theorem crc_fact {AL : Option Addr} {cl q : Nat} {l : List (Option Addr × Nat × List UInt8)} {w : World} (hl : RdB w w.heap.size AL l) (h1 : l.length ≤ 1000000) (h2 : (catB l).length ≤ 100000000) (hq : crc (catB l) = q) :
    Calls Try.prog 24 #[.slice AL l.length cl] w fun e w' => e = .returned (.int .u32 (q : Int)) ∧ w.grownBy w' none := by
  subst hq
  exact crc_any AL cl l w hl h1 h2

set_option maxHeartbeats 2000000 in
set_option maxRecDepth 100000 in
theorem frames_live (AL A : Option Addr) (cl c : Nat) (l : List (Option Addr × Nat × List UInt8)) (p : List UInt8) (w : World)
    (hl : RdB w w.heap.size AL l) (hs : AllTiny l) (h1 : l.length ≤ maxLen) (h2 : hugeB l = true ∨ 20000 < p.length) :
    Calls Try.prog 4 #[.slice AL l.length cl, .slice A p.length c] w fun e w' => e = .returned (.bool true) ∧ w.grownBy w' none := by
  have LV := hide live_any
  rcases hb : hugeB l with _ | _
  · have HU := hide (huge_any AL cl w.heap.size l w hl hs h1)
    rw [hb] at HU
    have h3 : 20000 < p.length := by rcases h2 with h | h; (rw [hb] at h; cases h); exact h
    clear h2 hb hs hl
    go_enter Try.func4, Try.ntmps4
    go_wp2_with (first
      | (go_at_call 17; refine HU.out.mono ?_; rintro e w1 ⟨rfl, rfl⟩)
      | (go_at_call 10; refine (LV.out _).mono ?_; rintro e w1 ⟨rfl, hg⟩))
    go_ret
    exact ⟨rfl, hg⟩
  · have HU := hide (huge_any AL cl w.heap.size l w hl hs h1)
    rw [hb] at HU
    clear h2 hb hs hl
    go_enter Try.func4, Try.ntmps4
    go_wp2_with (first
      | (go_at_call 17; refine HU.out.mono ?_; rintro e w1 ⟨rfl, rfl⟩)
      | (go_at_call 10; refine (LV.out _).mono ?_; rintro e w1 ⟨rfl, hg⟩))
    go_ret
    exact ⟨rfl, hg⟩

set_option maxHeartbeats 8000000 in
set_option maxRecDepth 100000 in
theorem frames_main (AL A : Option Addr) (cl c np : Nat) (l : List (Option Addr × Nat × List UInt8)) (p : List UInt8) (w : World)
    (hl : RdB w w.heap.size AL l) (hs : AllTiny l) (h1 : l.length ≤ maxLen) (hp : At8 w (.slice A np c) p) (hb : hugeB l = false) (hpl : p.length ≤ 20000) (hnp : np ≤ 20000) :
    Calls Try.prog 4 #[.slice AL l.length cl, .slice A np c] w fun e w' => e = .returned (.bool true) ∧ w.grownBy w' none := by
  have LV := hide live_any
  have HU := hide (huge_any AL cl w.heap.size l w hl hs h1)
  rw [hb] at HU
  obtain ⟨hl60, hcat⟩ := hugeB_bounds hb
  have hP := hide hp
  clear hb hs h1 hp
  have FL := frs_length p
  have HPL := hide hpl
  clear hpl
  go_enter Try.func4, Try.ntmps4
  go_wp2_with (go_at_call 17; refine HU.out.mono ?_; rintro e w1 ⟨rfl, rfl⟩)
  go_loopw [5, 6] (fun v i wr => ∃ k : Nat, k ≤ l.length ∧ i = .int .i64 k ∧ wr.ownsRow w.heap.size 5 1 v (catB (l.take k)).length (u8s (catB (l.take k))) ∧ w.grownBy wr none) (fun _ i _ => l.length - (intOf i).toNat)
  case atStart => exact ⟨0, by omega, rfl, World.ownsRow_nil _ _ _ _, gb_refl _ _⟩
  case round =>
    obtain ⟨k, hk, rfl, hown, hg⟩ := hrel
    have hgs := hg.size
    have hle := catB_take_le l k
    by_cases hlt : k < l.length
    · have hlr := hl.grown hg (Nat.le_refl _) (by simp)
      obtain ⟨ad, rfl, -, hc, hrd, -⟩ := hlr.at_ hlt
      have hel := catB_elem l k hlt
      have e1 := hide (catB_take l k hlt)
      go_wp2_with (at_builtin; refine app8 hown hrd (u8s_length _) (u8s_cell _) (by omega) (by omega) rfl rfl rfl rfl ?_; intro v4 w4 hown4 hg4 hwhere4)
      have hown5 := own_as (m := (catB (l.take (k + 1))).length) (ys := u8s (catB (l.take (k + 1)))) hown4 (by rw [e1.out, List.length_append]) (by rw [e1.out]; exact (u8s_append _ _).symm)
      have hg5 := gb_new hg hown hg4
      clear hown4 hg4 hwhere4 hown
      go_roundw
      case rel => exact ⟨k + 1, by omega, by go_num, hown5, hg5⟩
      case measure => simp [intOf]; omega
    · have e0 : catB (l.take k) = catB l := by rw [List.take_of_length_le (by omega)]
      rw [e0] at hown
      obtain ⟨A0, c0, rfl, _, _, _⟩ := own_form hown
      have H0 := hide (At8.of_own hown rfl)
      have HL := hide ((hl.grown hg (Nat.le_refl _) (by simp)).more hgs)
      have hP1 := hide (hP.out.grown hg)
      generalize hz : (catB l).length = z at *
      have HZ := hide hz
      clear e0 hown hle hz
      have hl6 : l.length ≤ 1000000 := by omega
      have hp8 : p.length ≤ 100000000 := Nat.le_trans HPL.out (by decide)
      have hf9 : (frs p).1.length ≤ 1000000000 := by omega
      have HP8 := hide hp8; have HF9 := hide hf9
      clear hp8 hf9 FL
      go_wp2_with (first
        | (go_at_call 18; refine (seal_at HL.out hl6 (by rw [HZ.out]; omega)).mono ?_; rintro e w1 ⟨A1, n1, c1, rfl, h1, hg1⟩; have H1 := hide h1; have G1r := hide hg1; have G1 := hide (gb_trans hg hg1 (.inl rfl)); clear h1 hg1)
        | (go_at_call 19; refine (refSeal_at (H0.out.grown G1r.out) (by rw [HZ.out]; omega)).mono ?_; rintro e w2 ⟨A2, n2, c2, rfl, h2, hg2⟩; have H2 := hide h2; have G2r := hide (gb_trans G1r.out hg2 (.inl rfl)); have G2 := hide (gb_trans G1.out hg2 (.inl rfl)); have H12 := hide (H1.out.grown hg2); clear h2 hg2 H1)
        | (go_at_call 20; refine (open_at (hP1.out.grown G2r.out) HP8.out).mono ?_; rintro e w3 ⟨A3, n3, c3, rfl, h3, hg3⟩; have H3 := hide h3; have G3r := hide (gb_trans G2r.out hg3 (.inl rfl)); have G3 := hide (gb_trans G2.out hg3 (.inl rfl)); have H13 := hide (H12.out.grown hg3); have H23 := hide (H2.out.grown hg3); clear h3 hg3 H12 H2)
        | (go_at_call 21; refine (refOpen_at (hP1.out.grown G3r.out) HP8.out).mono ?_; rintro e w4 ⟨A4, n4, c4, rfl, h4, hg4⟩; have H4 := hide h4; have G4r := hide (gb_trans G3r.out hg4 (.inl rfl)); have G4 := hide (gb_trans G3.out hg4 (.inl rfl)); have H14 := hide (H13.out.grown hg4); have H24 := hide (H23.out.grown hg4); have H34 := hide (H3.out.grown hg4); clear h4 hg4 H13 H23 H3)
        | (go_at_call 22; refine (frames_at (hP1.out.grown G4r.out) HP8.out).mono ?_; rintro e w5 ⟨A5, n5, c5, rfl, h5, hg5⟩; have H5 := hide h5; have G5r := hide (gb_trans G4r.out hg5 (.inl rfl)); have G5 := hide (gb_trans G4.out hg5 (.inl rfl)); have H15 := hide (H14.out.grown hg5); have H25 := hide (H24.out.grown hg5); have H35 := hide (H34.out.grown hg5); have H45 := hide (H4.out.grown hg5); clear h5 hg5 H14 H24 H34 H4)
        | (go_at_call 23; refine (refFrames_at (hP1.out.grown G5r.out) HP8.out).mono ?_; rintro e w6 ⟨A6, n6, c6, rfl, h6, hg6⟩; have H6 := hide h6; have G6r := hide (gb_trans G5r.out hg6 (.inl rfl)); have G6 := hide (gb_trans G5.out hg6 (.inl rfl)); have H16 := hide (H15.out.grown hg6); have H26 := hide (H25.out.grown hg6); have H36 := hide (H35.out.grown hg6); have H46 := hide (H45.out.grown hg6); have H56 := hide (H5.out.grown hg6); clear h6 hg6 H15 H25 H35 H45 H5))
      generalize (opn p).2.1 = o1
      generalize (opn p).2.2 = o2
      generalize (frs p).2.1 = f1
      generalize (frs p).2.2 = f2
      generalize hq : crc (catB l) = q
      have HQ := hide hq
      clear hq
      go_wp2_with (first
        | (go_at_call 24; refine (crc_fact ((hl.grown G6.out (Nat.le_refl _) (by simp)).more G6.out.size) hl6 (by rw [HZ.out]; omega) HQ.out).mono ?_; rintro e w7 ⟨rfl, hg7⟩; have G7 := hide (gb_trans G6.out hg7 (.inl rfl)); have H17 := (H16.out.grown hg7).string; have H27 := (H26.out.grown hg7).string; have H37 := (H36.out.grown hg7).string; have H47 := (H46.out.grown hg7).string; have H57 := hide (H56.out.grown hg7); have H67 := hide (H6.out.grown hg7); have H0z := hide (H0.out.grown (gb_trans G6r.out hg7 (.inl rfl))); clear hg7)
        | (go_at_call 25; refine (refCrc_at H0z.out (by rw [HZ.out]; omega)).mono ?_; rw [HQ.out]; rintro e w8 ⟨rfl, rfl⟩)
        | (go_at_call 26; refine (num_err _ _).mono ?_; rintro e w8 ⟨rfl, rfl⟩)
        | (go_at_call 27; refine (same_at H57.out H67.out HF9.out).mono ?_; rintro e w8 ⟨rfl, hg8⟩; have G8 := hide (gb_trans G7.out hg8 (.inl rfl)); clear hg8)
        | (go_at_call 10; refine (LV.out _).mono ?_; rintro e w9 ⟨rfl, hg9⟩))
      go_ret
      exact ⟨rfl, gb_trans G8.out hg9 (.inl rfl)⟩

end Go.Proofs.Ytdaefgkhimhpdaa
