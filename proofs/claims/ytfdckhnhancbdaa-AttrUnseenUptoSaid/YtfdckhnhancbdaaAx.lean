/-
  stays, unlike, Build, Append with every mark.
-/
import Derived.Test.YtfdckhnhancbdaaAw
namespace Go.Proofs.Ytfdckhnhancbdaa
open Go.RowKit
attribute [local go_sem ↓] Go.wp_at_zero Go.wp_at_succ

/-- What stays leaves. -/
def StaysG (base g : Nat) (f : List Nat) (mark t : Int) (es : List (Int × ByteArray)) (w : World) (e : Ending) (w' : World) : Prop :=
  e = .returned (.bool (holdsG mark es)) ∧ IxF w' base f g (bif holdsG mark es then mark else 0) t es ∧ w.grownBy w' (some g)
set_option maxHeartbeats 1000000 in
set_option maxRecDepth 100000 in
theorem stays2_any (base g : Nat) (f : List Nat) (t : Int) (es : List (Int × ByteArray)) (w : World) (h : IxF w base f g 2 t es) :
    Calls Try.prog 36 #[.pointer (some ⟨g, 0, none⟩)] w (StaysG base g f 2 t es w) := by
  obtain ⟨wa, hwa⟩ : ∃ wa, wa = w.alloc (.cells #[.pointer (some ⟨g, 0, none⟩)] 30) := ⟨_, rfl⟩
  have hga : w.grownBy wa none := by rw [hwa]; exact gb_alloc (gb_refl w none) _
  have hbx : wa.heap[w.heap.size]? = some (.cells #[.pointer (some ⟨g, 0, none⟩)] 30 (0, 0)) := by rw [hwa]; exact heap_alloc_new w _
  obtain ⟨v, mb, tr, hB⟩ := h.gb hga
  have HC := hide (holds2_ix base g _ _ t v es ⟨w.heap.size, 0, none⟩ (uniqK es) wa hB.col (fun w' hg' => lenP_any base g 2 t v mb tr es f w.heap.size w' (hB.keep fun b hb => hg'.block b (hB.lt b hb).2 (by simp)) (blk_keep hbx hg' (by simp))))
  have HI := hide (h.gb hga)
  have HG := hide hga
  have HWE := hide hwa
  have HBX := hide hbx
  have hh0 : holdsG 2 es = ((uniqK es : Int) == (es.length : Int)) := by unfold holdsG; rfl
  unfold StaysG
  rw [hh0]
  generalize ((uniqK es : Int) == (es.length : Int)) = hb at *
  clear h hwa hga hB hh0 hbx
  cases hb
  all_goals
    go_enter Try.func36, Try.ntmps36
    go_wp2_with fail
    rw [← HWE.out]
    refine HC.out.mono ?_
    rintro e w1 ⟨rfl, hg1⟩
    have HI1 := hide (HI.out.gb hg1)
    have HG1 := hide (gb_trans HG.out hg1 (.inl rfl))
    have hb1 := blk_keep HBX.out hg1 (by simp)
    have y0 : w1.cell? ⟨w.heap.size, 0, none⟩ = some (.pointer (some ⟨g, 0, none⟩)) := by rw [blk_cell hb1]; rfl
    obtain ⟨v1, mb1, tr1, hI1⟩ := HI.out.gb hg1
    have c0 : w1.cell? ⟨g, 0, none⟩ = some (.int .i64 2) := by rw [blk_cell hI1.col.blk]; rfl
    have z0 := blk_frozen hI1.col.blk 0
    clear hg1 hb1 hI1
    go_wp2_with fail
    go_ret
    first
      | exact ⟨rfl, HI1.out, gb_some HG1.out _⟩
      | exact ⟨rfl, HI1.out.setM 0, gb_trans (gb_some HG1.out _) (gb_cell _) (.inl rfl)⟩
set_option maxHeartbeats 1000000 in
set_option maxRecDepth 100000 in
theorem stays4_any (base g : Nat) (f : List Nat) (t : Int) (es : List (Int × ByteArray)) (w : World) (h : IxF w base f g 4 t es) :
    Calls Try.prog 36 #[.pointer (some ⟨g, 0, none⟩)] w (StaysG base g f 4 t es w) := by
  obtain ⟨wa, hwa⟩ : ∃ wa, wa = w.alloc (.cells #[.pointer (some ⟨g, 0, none⟩)] 30) := ⟨_, rfl⟩
  have hga : w.grownBy wa none := by rw [hwa]; exact gb_alloc (gb_refl w none) _
  have hbx : wa.heap[w.heap.size]? = some (.cells #[.pointer (some ⟨g, 0, none⟩)] 30 (0, 0)) := by rw [hwa]; exact heap_alloc_new w _
  obtain ⟨v, mb, tr, hB⟩ := h.gb hga
  have HC := hide (holds4_ix base g _ _ t v es ⟨w.heap.size, 0, none⟩ (uniqK es) wa hB.col (fun w' hg' => lenP_any base g 4 t v mb tr es f w.heap.size w' (hB.keep fun b hb => hg'.block b (hB.lt b hb).2 (by simp)) (blk_keep hbx hg' (by simp))))
  have HI := hide (h.gb hga)
  have HG := hide hga
  have HWE := hide hwa
  have HBX := hide hbx
  have hh0 : holdsG 4 es = ((uniqK es : Int) == runsK es) := by unfold holdsG; rfl
  unfold StaysG
  rw [hh0]
  generalize ((uniqK es : Int) == runsK es) = hb at *
  clear h hwa hga hB hh0 hbx
  cases hb
  all_goals
    go_enter Try.func36, Try.ntmps36
    go_wp2_with fail
    rw [← HWE.out]
    refine HC.out.mono ?_
    rintro e w1 ⟨rfl, hg1⟩
    have HI1 := hide (HI.out.gb hg1)
    have HG1 := hide (gb_trans HG.out hg1 (.inl rfl))
    have hb1 := blk_keep HBX.out hg1 (by simp)
    have y0 : w1.cell? ⟨w.heap.size, 0, none⟩ = some (.pointer (some ⟨g, 0, none⟩)) := by rw [blk_cell hb1]; rfl
    obtain ⟨v1, mb1, tr1, hI1⟩ := HI.out.gb hg1
    have c0 : w1.cell? ⟨g, 0, none⟩ = some (.int .i64 4) := by rw [blk_cell hI1.col.blk]; rfl
    have z0 := blk_frozen hI1.col.blk 0
    clear hg1 hb1 hI1
    go_wp2_with fail
    go_ret
    first
      | exact ⟨rfl, HI1.out, gb_some HG1.out _⟩
      | exact ⟨rfl, HI1.out.setM 0, gb_trans (gb_some HG1.out _) (gb_cell _) (.inl rfl)⟩
theorem staysG_any (base g : Nat) (f : List Nat) (mark t : Int) (es : List (Int × ByteArray)) (w : World) (h : IxF w base f g mark t es) (hm : Mark5 mark) :
    Calls Try.prog 36 #[.pointer (some ⟨g, 0, none⟩)] w (StaysG base g f mark t es w) := by
  have hc : Mark3 mark ∨ mark = 2 ∨ mark = 4 := by unfold Mark3; unfold Mark5 at hm; omega
  rcases hc with h3 | rfl | rfl
  · have := stays_any base g f mark t es w h h3
    unfold StaysP at this
    unfold StaysG
    rw [holdsG_K h3]
    exact this
  · exact stays2_any base g f t es w h
  · exact stays4_any base g f t es w h
/-- What Build leaves. -/
def BuildG (mark t : Int) (es : List (Int × ByteArray)) (w : World) (e : Ending) (w' : World) : Prop :=
  w.grownBy w' none ∧ (if holdsG mark es = true then ∃ f g, e = .returned (.tuple #[.pointer (some ⟨g, 0, none⟩), .int .i64 0]) ∧ IxF w' w.heap.size f g mark t es else e = .returned (.tuple #[.pointer none, .int .i64 90]))
set_option maxHeartbeats 2000000 in
set_option maxRecDepth 100000 in
theorem buildG_any (mark : Int) (hm : Mark5 mark) (v : Vl) (ht : 1 ≤ v.t ∧ v.t ≤ 5) (nA : Option Addr) (nc : Nat) (sA : Option Addr) (sc : Nat) (lA : Option Addr) (lc ll : Nat) (w : World) (hn : Rd w w.heap.size nA (i64s v.n)) (hs : Rd w w.heap.size sA (strs v.s)) (hl : v.n.length ≤ 100000 ∧ v.s.length ≤ 100000) :
    Calls Try.prog 9 #[.int .i64 mark, .agg #[.int .i64 v.t, .slice nA v.n.length nc, .slice sA v.s.length sc, .slice lA ll lc]] w (BuildG mark v.t (keysV v) w) := by
  have hmm := @run_makeMap Try.prog
  obtain ⟨wa, hwa⟩ : ∃ wa, wa = w.alloc (.cells #[.int .i64 v.t, .slice nA v.n.length nc, .slice sA v.s.length sc, .slice lA ll lc] 26) := ⟨_, rfl⟩
  have hga : w.grownBy wa none := by rw [hwa]; exact gb_alloc (gb_refl w none) _
  have hba : wa.heap[w.heap.size]? = some (.cells #[.int .i64 v.t, .slice nA v.n.length nc, .slice sA v.s.length sc, .slice lA ll lc] 26 (0, 0)) := by rw [hwa]; exact heap_alloc_new w _
  have HF := hide (fun w => fault_ok mark v.t (.slice nA v.n.length nc) (.slice sA v.s.length sc) (.slice lA ll lc) (by unfold Mark5 at hm; omega) ht w)
  have HBA := hide hba
  have HGA := hide hga
  have HWE := hide hwa
  have HN := hide (hn.grown hga (Nat.le_refl _) (by simp))
  have HS := hide (hs.grown hga (Nat.le_refl _) (by simp))
  have HL := hide hl
  have HM := hide hm
  have y0 : wa.cell? ⟨w.heap.size, 0, none⟩ = some (.int .i64 v.t) := by rw [blk_cell hba]; rfl
  have y1 : wa.cell? ⟨w.heap.size, 1, none⟩ = some (.slice nA v.n.length nc) := by rw [blk_cell hba]; rfl
  have y2 : wa.cell? ⟨w.heap.size, 2, none⟩ = some (.slice sA v.s.length sc) := by rw [blk_cell hba]; rfl
  have y3 : wa.cell? ⟨w.heap.size, 3, none⟩ = some (.slice lA ll lc) := by rw [blk_cell hba]; rfl
  clear hm hwa hga hba hn hs hl
  go_enter Try.func9, Try.ntmps9
  go_wp2_with fail
  rw [← HWE.out]
  refine (HF.out _).mono ?_
  rintro e w1 ⟨rfl, hg1⟩
  have hb1 := blk_keep HBA.out hg1 (by simp)
  have hlt := blk_lt hb1
  have y0 : ∀ o o', ((w1.alloc o).alloc o').cell? ⟨w.heap.size, 0, none⟩ = some (.int .i64 v.t) := fun o o' => by rw [World.cell?_alloc_lt _ o' _ (by simp; omega), World.cell?_alloc_lt _ o _ hlt, blk_cell hb1]; rfl
  have y1 : ∀ o o', ((w1.alloc o).alloc o').cell? ⟨w.heap.size, 1, none⟩ = some (.slice nA v.n.length nc) := fun o o' => by rw [World.cell?_alloc_lt _ o' _ (by simp; omega), World.cell?_alloc_lt _ o _ hlt, blk_cell hb1]; rfl
  have y2 : ∀ o o', ((w1.alloc o).alloc o').cell? ⟨w.heap.size, 2, none⟩ = some (.slice sA v.s.length sc) := fun o o' => by rw [World.cell?_alloc_lt _ o' _ (by simp; omega), World.cell?_alloc_lt _ o _ hlt, blk_cell hb1]; rfl
  have y3 : ∀ o o', ((w1.alloc o).alloc o').cell? ⟨w.heap.size, 3, none⟩ = some (.slice lA ll lc) := fun o o' => by rw [World.cell?_alloc_lt _ o' _ (by simp; omega), World.cell?_alloc_lt _ o _ hlt, blk_cell hb1]; rfl
  have x0 : w1.cell? ⟨w.heap.size, 0, none⟩ = some (.int .i64 v.t) := by rw [blk_cell hb1]; rfl
  have HB1 := hide hb1
  have HG1 := hide hg1
  clear hb1 hg1 hlt
  go_wp2_with fail
  obtain ⟨w2, hw2⟩ : ∃ w2, w2 = (w1.alloc (.map #[] 0)).alloc (.cells #[.int .i64 mark, .int .i64 v.t, .slice none 0 0, .int .i64 0, .int .i64 0, .map (some w1.heap.size)] 77) := ⟨_, rfl⟩
  have hg2 : w.grownBy w2 none := by rw [hw2]; exact gb_alloc (gb_alloc (gb_trans HGA.out HG1.out (.inl rfl)) _) _
  have hI : IxF w2 w1.heap.size [w1.heap.size + 1, w1.heap.size] (w1.heap.size + 1) mark v.t [] := by rw [hw2]; exact IxF.made w1 mark v.t
  have hs2 : w2.heap.size = w1.heap.size + 2 := by rw [hw2]; simp
  rw [← hw2]
  have hg12 : w1.grownBy w2 none := by rw [hw2]; exact gb_alloc (gb_alloc (gb_refl w1 none) _) _
  have hga2 : wa.grownBy w2 none := gb_trans HG1.out hg12 (.inl rfl)
  have HIX := hide hI
  have HG2 := hide hg2
  have HS2 := hide hs2
  have HKS := hide (keys_any v nA nc sA sc (.slice lA ll lc) w.heap.size w2 (HN.out.grown hga2 HGA.out.size (by simp)) (HS.out.grown hga2 HGA.out.size (by simp)) hg2.size ⟨by have := HL.out; omega, by have := HL.out; omega⟩)
  have HKL := hide (keysV_len v 100000 HL.out)
  clear hw2 hI hs2 hg12 hga2 y0 y1 y2 y3 x0 hg2
  refine HKS.out.mono ?_
  rintro e w3 ⟨b, rfl, hb, hrd, hg3⟩
  have HRD := hide hrd
  have HG3 := hide hg3
  have HB := hide hb
  have HAD := hide (add_any w1.heap.size (w1.heap.size + 1) [w1.heap.size + 1, w1.heap.size] mark v.t [] (keysV v) (some ⟨b, 0, none⟩) (keysV v).length (keysV v).length w3.heap.size w3 (HIX.out.gb hg3) hrd (Nat.le_refl _) rfl (fun ad ha _ hm => by
    cases ha
    have h2 := HS2.out
    have : b = w1.heap.size + 1 ∨ b = w1.heap.size := by simpa using hm
    omega) (by have := HKL.out; simp; omega) (by have := HS2.out; have := hg3.size; omega))
  rw [List.nil_append] at HAD
  clear hrd hg3 hb
  go_wp2_with fail
  refine HAD.out.mono ?_
  rintro e w4 ⟨f, rfl, hI4, hW4, hf4⟩
  have HI4 := hide hI4
  have HG4 := hide (hW4.gb (gb_trans HG2.out HG3.out (.inl rfl)) (fun x hx => by
    have h1 := HGA.out.size
    have h2 := HG1.out.size
    have : x = w1.heap.size + 1 ∨ x = w1.heap.size := by simpa using hx
    omega))
  have HST := hide (staysG_any w1.heap.size (w1.heap.size + 1) f mark v.t (keysV v) w4 hI4 HM.out)
  clear hI4 hW4 hf4
  unfold StaysG at HST
  obtain ⟨hb, hh⟩ : ∃ hb, holdsG mark (keysV v) = hb := ⟨_, rfl⟩
  rw [hh] at HST
  have HHB := hide hh
  have HLE := hide (show w.heap.size ≤ w1.heap.size from Nat.le_trans HGA.out.size HG1.out.size)
  clear hh
  cases hb
  · go_wp2_with fail
    refine HST.out.mono ?_
    rintro e w5 ⟨rfl, hI5, hg5⟩
    have HG5 := hide (gb_trans HG4.out hg5 (.inr (.inr ⟨_, rfl, by have := HLE.out; omega⟩)))
    clear hI5 hg5
    go_wp2_with fail
    go_ret2
    refine ⟨HG5.out, ?_⟩
    rw [if_neg (by rw [HHB.out]; decide)]
    rfl
  · go_wp2_with fail
    refine HST.out.mono ?_
    rintro e w5 ⟨rfl, hI5, hg5⟩
    have HI5 := hide (show IxF w5 w1.heap.size f (w1.heap.size + 1) mark v.t (keysV v) from hI5)
    have HG5 := hide (gb_trans HG4.out hg5 (.inr (.inr ⟨_, rfl, by have := HLE.out; omega⟩)))
    clear hI5 hg5
    go_wp2_with fail
    go_ret2
    refine ⟨HG5.out, ?_⟩
    rw [if_pos HHB.out]
    exact ⟨f, w1.heap.size + 1, rfl, HI5.out.less HLE.out⟩
/-- What Append leaves where there is room. -/
def AppendG (base g : Nat) (f : List Nat) (mark t : Int) (es : List (Int × ByteArray)) (w : World) (e : Ending) (w' : World) : Prop :=
  ∃ f', e = .returned (.tuple #[.bool (holdsG mark es), .int .i64 0]) ∧ IxF w' base f' g (bif holdsG mark es then mark else 0) t es ∧ Wro w w' f ∧ ∀ x ∈ f', x ∈ f ∨ w.heap.size ≤ x
set_option maxHeartbeats 4000000 in
set_option maxRecDepth 100000 in
theorem appendG_any (base g : Nat) (f : List Nat) (mark : Int) (hm : Mark5 mark) (es : List (Int × ByteArray)) (v : Vl) (nA : Option Addr) (nc : Nat) (sA : Option Addr) (sc : Nat) (lA : Option Addr) (lc ll : Nat) (w : World) (h : IxF w base f g mark v.t es) (hn : Rd w w.heap.size nA (i64s v.n)) (hs : Rd w w.heap.size sA (strs v.s))
    (hl : v.n.length ≤ 100000 ∧ v.s.length ≤ 100000) (hes : es.length ≤ 65536) (hb : base ≤ w.heap.size) (big : Bool) (hbig : decide (es.length + (keysV v).length ≤ 65536) = big) :
    Calls Try.prog 15 #[.pointer (some ⟨g, 0, none⟩), .agg #[.int .i64 v.t, .slice nA v.n.length nc, .slice sA v.s.length sc, .slice lA ll lc]] w
      (fun e w' => (big = true → AppendG base g f mark v.t (es ++ keysV v) w e w') ∧ (big = false → e = .returned (.tuple #[.bool false, .int .i64 6]) ∧ w.grownBy w' none)) := by
  obtain ⟨wa, hwa⟩ : ∃ wa, wa = w.alloc (.cells #[.int .i64 v.t, .slice nA v.n.length nc, .slice sA v.s.length sc, .slice lA ll lc] 26) := ⟨_, rfl⟩
  have hga : w.grownBy wa none := by rw [hwa]; exact gb_alloc (gb_refl w none) _
  have hba : wa.heap[w.heap.size]? = some (.cells #[.int .i64 v.t, .slice nA v.n.length nc, .slice sA v.s.length sc, .slice lA ll lc] 26 (0, 0)) := by rw [hwa]; exact heap_alloc_new w _
  have hIA := h.gb hga
  have HFL := hide h.lt
  have HBA := hide hba
  have HGA := hide hga
  have HWE := hide hwa
  have HN := hide (hn.grown hga (Nat.le_refl _) (by simp))
  have HS := hide (hs.grown hga (Nat.le_refl _) (by simp))
  have HL := hide hl
  have HM := hide hm
  have HIA := hide hIA
  have HBS := hide hb
  have HES := hide hes
  obtain ⟨x, mb, tr, hI⟩ := hIA
  have g1 : wa.cell? ⟨g, 1, none⟩ = some (.int .i64 v.t) := by rw [blk_cell hI.col.blk]; rfl
  have y0 : wa.cell? ⟨w.heap.size, 0, none⟩ = some (.int .i64 v.t) := by rw [blk_cell hba]; rfl
  clear hm hwa hga hba hn hs hl h hI hb hes
  go_enter Try.func15, Try.ntmps15
  go_wp2_with fail
  rw [← HWE.out]
  go_quiet (fail)
  obtain ⟨wq, hwq⟩ : ∃ wq, wq = wa.drewN nq := ⟨_, rfl⟩
  have hgq : wa.grownBy wq none := by rw [hwq]; exact gb_drewN (gb_refl wa none) _
  rw [← hwq]
  have hbq := blk_keep HBA.out hgq (by simp)
  have y0 : wq.cell? ⟨w.heap.size, 0, none⟩ = some (.int .i64 v.t) := by rw [blk_cell hbq]; rfl
  have y1 : wq.cell? ⟨w.heap.size, 1, none⟩ = some (.slice nA v.n.length nc) := by rw [blk_cell hbq]; rfl
  have y2 : wq.cell? ⟨w.heap.size, 2, none⟩ = some (.slice sA v.s.length sc) := by rw [blk_cell hbq]; rfl
  have y3 : wq.cell? ⟨w.heap.size, 3, none⟩ = some (.slice lA ll lc) := by rw [blk_cell hbq]; rfl
  have HKS := hide (keys_any v nA nc sA sc (.slice lA ll lc) w.heap.size wq (HN.out.grown hgq HGA.out.size (by simp)) (HS.out.grown hgq HGA.out.size (by simp)) (Nat.le_trans HGA.out.size hgq.size) ⟨by have := HL.out; omega, by have := HL.out; omega⟩)
  have HKL := hide (keysV_len v 100000 HL.out)
  have HGQ := hide (gb_trans HGA.out hgq (.inl rfl))
  have HIQ := hide (HIA.out.gb hgq)
  clear hwq hgq hbq g1
  go_wp2_with fail
  refine HKS.out.mono ?_
  rintro e w3 ⟨b, rfl, hb, hrd, hg3⟩
  have HI3 := hide (HIQ.out.gb hg3)
  have HG3 := hide (gb_trans HGQ.out hg3 (.inl rfl))
  have HRD := hide hrd
  have HB := hide hb
  obtain ⟨x3, mb3, tr3, hI3⟩ := HIQ.out.gb hg3
  obtain ⟨Av, cv, rfl, _, hcm, _⟩ := own_form2 hI3.col.own
  have g2 : w3.cell? ⟨g, 2, none⟩ = some (.slice Av es.length cv) := by rw [blk_cell hI3.col.blk]; rfl
  obtain ⟨K, hK⟩ : ∃ K, (keysV v).length = K := ⟨_, rfl⟩
  obtain ⟨M, hM⟩ : ∃ M, es.length = M := ⟨_, rfl⟩
  have hKl : K ≤ 100000 := by rw [← hK]; exact HKL.out
  have hMl : M ≤ 65536 := by rw [← hM]; exact HES.out
  rw [hM] at g2
  rw [hM, hK] at hbig
  rw [hK]
  have HKK := hide hK
  have HMM := hide hM
  clear hI3 hcm hrd hb hg3 hK hM y0 y1 y2 y3
  cases big
  · have hgt : 65536 < M + K := by have := of_decide_eq_false hbig; omega
    have hgi : (65536 : Int) < (M : Int) + (K : Int) := by omega
    clear hbig
    go_wp2_with fail
    go_ret2
    exact ⟨rfl, HG3.out⟩
  · have hle : M + K ≤ 65536 := of_decide_eq_true hbig
    have hgi : ¬ (65536 : Int) < (M : Int) + (K : Int) := by omega
    have HAD := hide (add_any base g f mark v.t es (keysV v) (some ⟨b, 0, none⟩) K K w3.heap.size w3 HI3.out HRD.out (Nat.le_refl _) HKK.out (fun ad ha _ hm => by
      cases ha
      have h1 := (HFL.out b hm).2
      have h2 := HGQ.out.size
      have h3 := HB.out
      omega) (by rw [HKK.out, HMM.out]; omega) (Nat.le_trans HBS.out HG3.out.size))
    have HLE := hide hle
    clear hbig hle
    go_wp2_with fail
    refine HAD.out.mono ?_
    rintro e w4 ⟨f', rfl, hI4, hW4, hf4⟩
    have HST := hide (staysG_any base g f' mark v.t (es ++ keysV v) w4 hI4 HM.out)
    have HW4 := hide (Wro.trans (Wro.of_none HG3.out f) hW4 (fun _ h => .inl h))
    have HF4 : Hid (∀ x ∈ f', x ∈ f ∨ w.heap.size ≤ x) := hide (fun x hx => (hf4 x hx).imp id fun h => Nat.le_trans HG3.out.size h)
    have HGF : Hid (g ∈ f) := hide (by obtain ⟨_, _, _, hI⟩ := HIA.out; rw [hI.foot]; simp)
    clear hI4 hW4 hf4
    unfold StaysG at HST
    obtain ⟨hb, hh⟩ : ∃ hb, holdsG mark (es ++ keysV v) = hb := ⟨_, rfl⟩
    rw [hh] at HST
    have HHB := hide hh
    clear hh
    go_wp2_with fail
    refine HST.out.mono ?_
    rintro e w5 ⟨rfl, hI5, hg5⟩
    have HI5 := hide hI5
    have HW5 := hide (HW4.out.trans (Wro.of_gb hg5 (f := [g]) (by simp)) (fun x hx => by
      have : x = g := by simpa using hx
      subst this
      exact .inl HGF.out))
    clear hI5 hg5
    go_wp2_with fail
    go_ret2
    exact ⟨f', by rw [HHB.out]; rfl, by rw [HHB.out]; exact HI5.out, HW5.out, HF4.out⟩
/-- A set of elements. -/
abbrev encU : EncK (Int × ByteArray) Unit := ⟨kagg, fun _ => .agg #[], encK_inj⟩
theorem key_runU : KeyRun Try.prog 89 encU where
  kind := ⟨_, Try.underlying89⟩
  check em k w := by kernel_rfl
  eq a b w := equal_key a b w
  bits k := by simp [kagg, Instr.sameBits, MapKept.bytes_beq]
set_option maxHeartbeats 2000000 in
set_option maxRecDepth 100000 in
theorem unlike_any (base g : Nat) (ty : TypeId) (rest : List Value) (mark t : Int) (v : Value) (es : List (Int × ByteArray)) (r f : Int) (w : World) (h : ColB w base g ty rest mark t v es r f) (hl : es.length ≤ 200000) :
    Calls Try.prog 40 #[.pointer (some ⟨g, 0, none⟩)] w fun e w' => e = .returned (.int .i64 ((uniqK es : Nat) : Int)) ∧ w.grownBy w' none := by
  have hmm := @run_makeMap Try.prog
  obtain ⟨wa, hwa⟩ : ∃ wa, wa = w.alloc (.map #[] 0) := ⟨_, rfl⟩
  have hga : w.grownBy wa none := by rw [hwa]; exact gb_alloc (gb_refl w none) _
  have hsa : wa.heap.size = w.heap.size + 1 := by rw [hwa]; simp
  have hma : MapK encU wa w.heap.size (setK []) := by rw [hwa]; exact MapK.made w
  obtain ⟨Av, cv, rfl, _, _, hrd⟩ := own_form2 h.own
  have hblk := h.blk
  have c2 : ∀ o, (w.alloc o).cell? ⟨g, 2, none⟩ = some (.slice Av es.length cv) := fun o => by rw [World.cell?_alloc_lt w o _ (blk_lt hblk), blk_cell hblk]; rfl
  have HR := hide (hrd.grown hga (Nat.le_refl _) (by simp))
  have HWE := hide hwa
  have HGA := hide hga
  have HMA := hide hma
  have HSA := hide hsa
  have HL := hide hl
  clear h hrd hwa hga hma hsa hl hblk
  go_enter Try.func40, Try.ntmps40
  go_wp2_with fail
  rw [← HWE.out]
  go_loopw [12] (fun i wr => ∃ k : Nat, k ≤ es.length ∧ i = .int .i64 (k : Int) ∧ MapK encU wr w.heap.size (setK (es.take k)) ∧ w.grownBy wr none ∧ wa.heap.size ≤ wr.heap.size) (fun i _ => es.length - (intOf i).toNat)
  case atStart => exact ⟨0, Nat.zero_le _, rfl, HMA.out, HGA.out, Nat.le_refl _⟩
  case round =>
    obtain ⟨k, hk, rfl, hM, hG, hS⟩ := hrel
    by_cases hlt : k < es.length
    · have hkl : k ≤ 200000 := by have := HL.out; omega
      have hrw : Rd wr w.heap.size Av (kcs es) := Wro.rd (w := wa) (f := [w.heap.size]) ⟨hG.os.trans HGA.out.os.symm, hG.tape.trans HGA.out.tape.symm, hG.output.trans HGA.out.output.symm, hS, fun b hb hn => by
          have hs := HSA.out
          have hb' : b < w.heap.size := by
            have : b ≠ w.heap.size := by simpa using hn
            omega
          rw [hG.block b hb' (by simp), HGA.out.block b hb' (by simp)]⟩ HR.out (fun ad ha hne hm => by
          obtain ⟨ad', e1, e2, _⟩ := HR.out hne
          rw [ha] at e1
          cases e1
          have : ad.block = w.heap.size := by simpa using hm
          omega) (by have := HSA.out; omega)
      obtain ⟨bb, o, rfl, _, hcell⟩ := hrw.key (by omega)
      obtain ⟨k0, k1⟩ := hcell k hlt
      obtain ⟨kk, hkk⟩ : ∃ kk, kk = es[k] := ⟨_, rfl⟩
      rw [← hkk] at k0 k1
      have HK := hide hkk
      have HM := hide (hM.alloc (.cells #[.int .i64 kk.1, .string kk.2] 89))
      have HG := hide hG
      have HS := hide hS
      clear hrw hcell hkk hM hG hS
      go_wp2_with (refine wpList_putK _ 89 (E := encU) key_runU rfl (.tmp 16) (.tmp 17) (.tmp 18) 105 rfl _ Try.underlying105 w.heap.size _ rfl HM.out kk () rfl rfl ?_; intro w5 hm5 hg5 hs5; have HM5 := hide hm5; have HG5 := hide hg5; have HS5 := hide hs5; clear hm5 hg5 hs5)
      go_roundw
      case rel =>
        have he : es.take (k + 1) = es.take k ++ [kk] := by rw [List.take_succ_eq_append_getElem hlt, HK.out]
        refine ⟨k + 1, by omega, by go_num, by rw [he, setK_snoc]; exact HM5.out, gb_trans (gb_alloc HG.out (.cells #[.int .i64 kk.1, .string kk.2] 89)) HG5.out (.inr (.inr ⟨_, rfl, Nat.le_refl _⟩)), by rw [HS5.out]; simp; exact Nat.le_succ_of_le HS.out⟩
      case measure => simp [intOf]; omega
    · obtain rfl : k = es.length := by omega
      rw [List.take_length] at hM
      have HM := hide hM
      have HG := hide hG
      clear hM hG hS
      go_wp2_with (refine wpList_mlenK _ rfl (.tmp 20) 105 rfl _ _ Try.underlying105 w.heap.size _ rfl HM.out ?_)
      go_ret
      exact ⟨rfl, HG.out⟩
end Go.Proofs.Ytfdckhnhancbdaa
