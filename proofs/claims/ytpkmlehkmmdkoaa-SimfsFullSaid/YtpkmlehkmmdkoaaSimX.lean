/-
  PROVED: for every old and fresh content, every number of operations after which the power fails and every wreck: a file that is written aside, synced and renamed is seen wholly old or wholly fresh behind the crash, and fresh if all was done (P2.13); the law returns true and leaves its argument as it was. No condition.
-/
import Derived.Test.YtpkmlehkmmdkoaaSimW
import Derived.Test.YtpkmlehkmmdkoaaRowb
import Derived.Deep.SlicePairs
import Derived.Deep.Strs
import Derived.Lib.SmallJoins
namespace Go.Proofs.Ytpkmlehkmmdkoaa
open Go.RowKit Go.ChangeShapes Go.WideShapes Go.ChangeAt

theorem Try.cellsChange : Try.prog.cellsOf 37 = 5 := by kernel_rfl
theorem Try.cellsWreck : Try.prog.cellsOf 35 = 2 := by kernel_rfl
theorem Try.cellsTorn : Try.prog.cellsOf 65 = 3 := by kernel_rfl
theorem Try.cellsI : Try.prog.cellsOf 3 = 1 := by kernel_rfl
theorem Try.cellsSl8 : Try.prog.cellsOf 32 = 1 := by kernel_rfl
theorem Try.cellsSlT : Try.prog.cellsOf 33 = 1 := by kernel_rfl

section
variable {H : Type} {enc : TypeId × Value → H}
set_option maxRecDepth 100000 in
/-- A cell that reads as a []byte. -/
theorem u8_of_trod {W : World} {v : Value} {n : Nat} {y : DataW H × List MemPlace} (hf : DataW.trod enc Try.prog W 0 (fun _ => true) true n 32 [v] = some y) :
    ∃ (A : Option Addr) (c : Nat) (bs : List UInt8), v = .slice A bs.length c ∧ bs.length ≤ c ∧ c ≤ maxLen ∧ Rd W W.heap.size A (u8s bs) := by
  rcases open_ints Try.underlying32 Try.underlying5 Try.cells8 hf with ⟨hcs, _⟩ | ⟨a, len', cap', zs, hcs, _, hl, hm, hz, _, hcell, hwz⟩
  · simp only [List.cons.injEq, and_true] at hcs
    subst hcs
    exact ⟨none, 0, [], rfl, Nat.le_refl _, Nat.zero_le _, Rd.nil_⟩
  · simp only [List.cons.injEq, and_true] at hcs
    subst hcs
    have hz' : zs.length = cap' := by simpa using hz
    have hlen : ((zs.take len').map fun n => UInt8.ofNat n.toNat).length = len' := by simp; omega
    refine ⟨some a, cap', (zs.take len').map fun n => UInt8.ofNat n.toNat, by rw [hlen], by rw [hlen]; exact hl, hm, ?_⟩
    have hr := rd_of_ints (W := W) (a := a) (k := .u8) (zs := zs) (len := len') (by omega) hcell
    have e : u8s ((zs.take len').map fun n => UInt8.ofNat n.toNat) = (zs.take len').map (Value.int .u8) := by
      unfold u8s
      rw [List.map_map]
      apply List.map_congr_left
      intro n hn
      have hw := byte_wf (hwz n (List.mem_of_mem_take hn))
      simp only [Function.comp, Value.int.injEq, true_and, UInt8.toNat_ofNat']
      omega
    rw [e]
    exact hr
set_option maxRecDepth 100000 in
/-- A cell that reads as a []api.Torn. -/
theorem torn_of_trod {W : World} {v : Value} {n : Nat} {y : DataW H × List MemPlace} (hf : DataW.trod enc Try.prog W 0 (fun _ => true) true n 33 [v] = some y) :
    ∃ (A : Option Addr) (c : Nat) (tl : List Tn), v = .slice A tl.length c ∧ tl.length ≤ c ∧ c ≤ maxLen ∧ Rd W W.heap.size A (tcells tl) := by
  rcases Go.Deep.open_slice Try.underlying33 hf with ⟨hcs, _⟩ | ⟨a, len, cap, m, n', D, Pl, hcs, hb, hl, hm, hmm, _, hx⟩
  · simp only [List.cons.injEq, and_true] at hcs
    subst hcs
    exact ⟨none, 0, [], rfl, Nat.le_refl _, Nat.zero_le _, Rd.nil_⟩
  · simp only [List.cons.injEq, and_true] at hcs
    subst hcs
    simp only [if_true] at hmm
    subst hmm
    have each : ∀ i, i < len → ∃ t : Tn, W.cell? (a.add (i * 3)) = some (.int .i64 t.1) ∧ W.cell? (a.add (i * 3 + 1)) = some (.int .i64 t.2.1) ∧ W.cell? (a.add (i * 3 + 2)) = some (.int .i64 t.2.2) := by
      intro i hi
      obtain ⟨cs', h1, h2⟩ := hx i (by omega)
      rw [Try.cellsTorn] at h1
      obtain ⟨_, hlen, hcell⟩ := World.cells?_some h1
      obtain ⟨y0, y1, y2, k, _, _, g0, g1, g2⟩ := Go.Deep.trod_struct3 Try.underlying65 h2
      match cs', hlen with
      | [v0, v1, v2], _ =>
        simp only [Try.cellsI, List.drop_zero, List.drop_succ_cons, List.take_succ_cons, List.take_zero] at g0 g1 g2
        obtain ⟨k0, e0, _, _⟩ := DataW.trod_int Try.underlying3 g0
        obtain ⟨k1, e1, _, _⟩ := DataW.trod_int Try.underlying3 g1
        obtain ⟨k2, e2, _, _⟩ := DataW.trod_int Try.underlying3 g2
        simp only [List.cons.injEq, and_true] at e0 e1 e2
        have c0 := hcell 0 (by omega)
        have c1 := hcell 1 (by omega)
        have c2 := hcell 2 (by omega)
        rw [Go.Deep.add_add] at c0 c1 c2
        exact ⟨(k0, k1, k2), by simpa [e0] using c0, by simpa [e1] using c1, by simpa [e2] using c2⟩
    obtain ⟨s, hs⟩ := Go.Deep.choose_lt each
    refine ⟨some a, _, (List.range len).map s, by simp, by simpa using hl, hm, ?_⟩
    intro hn
    have h0 : 0 < len := by
      rcases Nat.eq_zero_or_pos len with h | h
      · subst h; simp [tcells] at hn
      · exact h
    refine ⟨a, rfl, ?_, fun j u hu => ?_⟩
    · have := World.block_lt_of_cell? W _ (hs 0 h0).1
      rwa [add_block] at this
    · have hlen : (tcells ((List.range len).map s)).length = len * 3 := by
        rw [tcells_length]; simp
      have hj : j < len * 3 := by
        have := (List.getElem?_eq_some_iff.1 hu).1
        omega
      have hk : j / 3 < ((List.range len).map s).length := by simp; omega
      have ha := tcells_at ((List.range len).map s) (j / 3) hk
      have hg : ((List.range len).map s)[j / 3] = s (j / 3) := by simp
      rw [hg] at ha
      obtain ⟨q0, q1, q2⟩ := hs (j / 3) (by omega)
      have h3 : j % 3 = 0 ∨ j % 3 = 1 ∨ j % 3 = 2 := by omega
      rcases h3 with hm2 | hm2 | hm2
      · have hjj : j / 3 * 3 = j := by omega
        rw [hjj] at ha q0
        rw [q0, ← hu, ha.1]
      · have hjj : j / 3 * 3 + 1 = j := by omega
        rw [hjj] at ha q1
        rw [q1, ← hu, ha.2.1]
      · have hjj : j / 3 * 3 + 2 = j := by omega
        rw [hjj] at ha q2
        rw [q2, ← hu, ha.2.2]
theorem array5 {α : Type} {cs : Array α} (h : cs.size = 5) : ∃ c0 c1 c2 c3 c4, cs = #[c0, c1, c2, c3, c4] := by
  obtain ⟨l⟩ := cs
  match l, h with
  | [c0, c1, c2, c3, c4], _ => exact ⟨c0, c1, c2, c3, c4, rfl⟩
set_option maxRecDepth 100000 in
/-- The law's argument. -/
theorem open_change {W : World} {base : Nat} {v : Value} {d : DataW H} {p : List MemPlace} (hv : Value.okWide Try.prog W .any base 37 v) (h : DataW.Trod enc Try.prog W 0 (fun _ => true) true 37 v d p) :
    ∃ (Ao : Option Addr) (no co : Nat) (Af : Option Addr) (nf cf : Nat) (stop dir : Int) (At : Option Addr) (nt ct : Nat) (old fresh : List UInt8) (tl : List Tn),
      v = .agg #[.slice Ao no co, .slice Af nf cf, .int .i64 stop, .int .i64 dir, .slice At nt ct] ∧ Sw.In W Ao no co Af nf cf At nt ct old fresh tl ∧ stop ≤ 9223372036854775807 := by
  obtain ⟨cs, rfl, hsz⟩ := okWide_struct Try.underlying37 hv
  obtain ⟨c0, c1, c2, c3, c4, rfl⟩ := array5 (hsz.trans Try.cellsChange)
  obtain ⟨fuel, hf⟩ := h
  obtain ⟨y0, y1, y2, y3, n, _, _, h0, h1, h2, h3⟩ := Go.Joins.trod_struct4 Try.underlying37 hf
  simp only [Value.cells, Try.cellsSl8, Try.cellsI, Try.cellsWreck, List.drop_zero, List.drop_succ_cons, List.take_succ_cons, List.take_zero] at h0 h1 h2 h3
  obtain ⟨z0, z1, k, _, _, g0, g1⟩ := trod_struct2 Try.underlying35 h3
  simp only [Try.cellsSlT, Try.cellsI, List.drop_zero, List.drop_succ_cons, List.take_succ_cons, List.take_zero] at g0 g1
  obtain ⟨Ao, co, old, rfl, a1, a2, a3⟩ := u8_of_trod h0
  obtain ⟨Af, cf, fresh, rfl, b1, b2, b3⟩ := u8_of_trod h1
  obtain ⟨stop, e2, _, w2⟩ := DataW.trod_int Try.underlying3 h2
  obtain ⟨dir, e3, _, _⟩ := DataW.trod_int Try.underlying3 g0
  obtain ⟨At, ct, tl, rfl, t1, t2, t3⟩ := torn_of_trod g1
  simp only [List.cons.injEq, and_true] at e2 e3
  subst e2
  subst e3
  exact ⟨Ao, _, co, Af, _, cf, stop, dir, At, _, ct, old, fresh, tl, rfl, ⟨a3, b3, t3, rfl, rfl, rfl, ⟨a1, a2⟩, ⟨b1, b2⟩, ⟨t1, t2⟩⟩, (i64_wf w2).2⟩
end

set_option maxHeartbeats 4000000 in
set_option maxRecDepth 100000 in
theorem lawSwitch_big (Ao : Option Addr) (no co : Nat) (Af : Option Addr) (nf cf : Nat) (stop dir : Int) (At : Option Addr) (nt ct : Nat) (w : World) (m1 : no ≤ 9223372036854775807) (m2 : nf ≤ 9223372036854775807) (m3 : nt ≤ 9223372036854775807)
    (hb : 20000 < no ∨ 20000 < nf ∨ 200 < nt) :
    Calls Try.prog 4 #[.agg #[.slice Ao no co, .slice Af nf cf, .int .i64 stop, .int .i64 dir, .slice At nt ct]] w fun e w' => e = .returned (.bool true) ∧ w.grownBy w' none := by
  obtain ⟨wa, hwaE⟩ : ∃ wa, wa = w.alloc (.cells #[.slice Ao no co, .slice Af nf cf, .int .i64 stop, .int .i64 dir, .slice At nt ct] 37) := ⟨_, rfl⟩
  have hX := heap_alloc_new w (.cells #[.slice Ao no co, .slice Af nf cf, .int .i64 stop, .int .i64 dir, .slice At nt ct] 37)
  rw [← hwaE] at hX
  have HG := hide (show w.grownBy wa none by rw [hwaE]; exact gb_alloc (gb_refl w none) _)
  have HWE := hide hwaE
  have b0 : wa.cell? ⟨w.heap.size, 0, none⟩ = some (.slice Ao no co) := by rw [blk_cell hX]; rfl
  have b1 : wa.cell? ⟨w.heap.size, 1, none⟩ = some (.slice Af nf cf) := by rw [blk_cell hX]; rfl
  have b2 : wa.cell? ⟨w.heap.size, 2, none⟩ = some (.int .i64 stop) := by rw [blk_cell hX]; rfl
  have b3 : wa.cell? ⟨w.heap.size, 3, none⟩ = some (.int .i64 dir) := by rw [blk_cell hX]; rfl
  have b4 : wa.cell? ⟨w.heap.size, 4, none⟩ = some (.slice At nt ct) := by rw [blk_cell hX]; rfl
  clear hX hwaE
  have HG0 : Hid (w.grownBy (wa.alloc (.cells #[.int .i64 dir, .slice At nt ct] 35)).drew none) := hide (gb_drew (gb_alloc HG.out _))
  have LV := hide live_any
  by_cases h1 : (20000 : Int) < (no : Int)
  · clear hb
    go_enter Try.func4, Try.ntmps4
    go_wp2_with fail
    rw [← HWE.out]
    go_region_held3 (fun w' => w'.cell? ⟨w.heap.size, 0, none⟩ = some (.slice Ao no co) ∧ w'.cell? ⟨w.heap.size, 1, none⟩ = some (.slice Af nf cf) ∧ w'.cell? ⟨w.heap.size, 2, none⟩ = some (.int .i64 stop) ∧ w'.cell? ⟨w.heap.size, 3, none⟩ = some (.int .i64 dir) ∧ w'.cell? ⟨w.heap.size, 4, none⟩ = some (.slice At nt ct)) (first | exact ⟨b0, b1, b2, b3, b4⟩ | go_keep) ((fail))
    go_wp2_with (go_at_call 8; refine (LV.out _).mono ?_; rintro e w1 ⟨rfl, hg⟩; have HG1 := hide hg; clear hg)
    go_ret
    exact ⟨rfl, gb_trans HG0.out HG1.out (.inl rfl)⟩
  by_cases h2 : (20000 : Int) < (nf : Int)
  · clear hb
    go_enter Try.func4, Try.ntmps4
    go_wp2_with fail
    rw [← HWE.out]
    go_region_held3 (fun w' => w'.cell? ⟨w.heap.size, 0, none⟩ = some (.slice Ao no co) ∧ w'.cell? ⟨w.heap.size, 1, none⟩ = some (.slice Af nf cf) ∧ w'.cell? ⟨w.heap.size, 2, none⟩ = some (.int .i64 stop) ∧ w'.cell? ⟨w.heap.size, 3, none⟩ = some (.int .i64 dir) ∧ w'.cell? ⟨w.heap.size, 4, none⟩ = some (.slice At nt ct)) (first | exact ⟨b0, b1, b2, b3, b4⟩ | go_keep) ((fail))
    go_wp2_with (go_at_call 8; refine (LV.out _).mono ?_; rintro e w1 ⟨rfl, hg⟩; have HG1 := hide hg; clear hg)
    go_ret
    exact ⟨rfl, gb_trans HG0.out HG1.out (.inl rfl)⟩
  · have h3 : (200 : Int) < (nt : Int) := by omega
    clear hb
    go_enter Try.func4, Try.ntmps4
    go_wp2_with fail
    rw [← HWE.out]
    go_region_held3 (fun w' => w'.cell? ⟨w.heap.size, 0, none⟩ = some (.slice Ao no co) ∧ w'.cell? ⟨w.heap.size, 1, none⟩ = some (.slice Af nf cf) ∧ w'.cell? ⟨w.heap.size, 2, none⟩ = some (.int .i64 stop) ∧ w'.cell? ⟨w.heap.size, 3, none⟩ = some (.int .i64 dir) ∧ w'.cell? ⟨w.heap.size, 4, none⟩ = some (.slice At nt ct)) (first | exact ⟨b0, b1, b2, b3, b4⟩ | go_keep) ((fail))
    go_wp2_with (go_at_call 8; refine (LV.out _).mono ?_; rintro e w1 ⟨rfl, hg⟩; have HG1 := hide hg; clear hg)
    go_ret
    exact ⟨rfl, gb_trans HG0.out HG1.out (.inl rfl)⟩

set_option maxRecDepth 100000 in
theorem lawSwitch_lifted (os : Os) (started : os.Started) (H : Type) (enc : TypeId × Value → H) :
    ReturnsInHanded {} Try.checked os 4 .any (Rows.simfsSwitchSpec.pre6 enc Try.prog Try.f4 Rows.simfsSwitchRow.domain false) (Rows.simfsSwitchSpec.post enc Try.prog Try.f4 false true false false) := by
  refine returnsInHanded_of_change (C := Try.checked) Try.own started (by kernel_rfl) Try.func4
    (ChangeSpec.witness6 (enc := enc) (C := Try.checked) false ⟨#[], #[.agg #[.slice none 0 0, .slice none 0 0, .int .i64 0, .int .i64 0, .slice none 0 0]], []⟩ 8 (by kernel_rfl) (by kernel_rfl) (by kernel_rfl) (by kernel_rfl)) ?_
  intro W base args ds gs before hval0 hW _ _
  have hval : ∀ (j : Nat) t v, Try.f4.params[j]? = some t → args[j]? = some v → Value.okWide Try.prog W .any base t v := hval0
  have hW' := hW
  obtain ⟨p, q, hA0, hV, _, _, _⟩ := hW
  have hA : DataW.TrodAll enc Try.prog W 0 (fun _ => true) true Try.f4.params.toList args.toList ds p := hA0
  rw [Try.params4] at hA hval
  obtain ⟨v0, d0, hargs, rfl, h0⟩ := trodAll_one hA
  obtain ⟨rfl, rfl⟩ := trodVars_none hV
  obtain rfl : args = #[v0] := by cases args; simp_all
  obtain ⟨Ao, no, co, Af, nf, cf, stop, dir, At, nt, ct, old, fresh, tl, rfl, hin, hst⟩ := open_change (hval 0 37 v0 rfl rfl) h0
  have hwalk : Calls Try.prog 4 #[.agg #[.slice Ao no co, .slice Af nf cf, .int .i64 stop, .int .i64 dir, .slice At nt ct]] W fun e w' => e = .returned (.bool true) ∧ W.grownBy w' none := by
    have q1 := hin.hco
    have q2 := hin.hcf
    have q3 := hin.hct
    unfold maxLen at q1 q2 q3
    by_cases hb : 20000 < no ∨ 20000 < nf ∨ 200 < nt
    · exact lawSwitch_big Ao no co Af nf cf stop dir At nt ct W (by omega) (by omega) (by omega) hb
    · exact lawSwitch_main Ao no co Af nf cf stop dir At nt ct old fresh tl W hin hst (by omega) (by omega) (by omega)
  refine hwalk.mono fun e W' ⟨he, hg⟩ => ⟨_, he, post_law hW' rfl ?_ rfl rfl (gb_below hg (Nat.le_refl _) (by simp))⟩
  intro t ht
  rw [Try.params4] at ht
  simp only [List.mem_cons, List.not_mem_nil, or_false] at ht
  subst ht
  exact ⟨by kernel_rfl, of_decide_eq_true (by kernel_rfl)⟩

theorem simfsSwitch_holds : Rows.SimfsSwitchSaid :=
  OpenClaim.holds_of_wide 4 Try.f4 rfl rfl rfl rfl rfl rfl rfl ⟨rfl, rfl, rfl, rfl, rfl⟩ rfl rfl rfl rfl rfl (by kernel_rfl) Try.func4 (by kernel_rfl)
    (of_decide_eq_true (by kernel_rfl)) (by unfold Func.isWrapper; first | (rw [if_pos (by decide +kernel)]; kernel_rfl) | (rw [if_neg (by decide +kernel)]; exact ⟨rfl, rfl⟩))
    (fun os started H enc _ => lawSwitch_lifted os started H enc)

end Go.Proofs.Ytpkmlehkmmdkoaa
