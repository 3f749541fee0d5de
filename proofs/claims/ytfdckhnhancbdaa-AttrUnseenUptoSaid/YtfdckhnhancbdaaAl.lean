/-
  attr's Append, Kind, Vector.
-/
import Derived.Test.YtfdckhnhancbdaaAk
namespace Go.Proofs.Ytfdckhnhancbdaa
open Go.RowKit
attribute [local go_sem ↓] Go.wp_at_zero Go.wp_at_succ

set_option maxHeartbeats 1000000 in
set_option maxRecDepth 100000 in
theorem kind_any (base g : Nat) (f : List Nat) (mark t : Int) (es : List (Int × ByteArray)) (w : World) (h : IxF w base f g mark t es) :
    Calls Try.prog 20 #[.pointer (some ⟨g, 0, none⟩)] w fun e w' => e = .returned (.int .i64 mark) ∧ w = w' := by
  obtain ⟨v, mb, tr, h⟩ := h
  have c0 : w.cell? ⟨g, 0, none⟩ = some (.int .i64 mark) := by rw [blk_cell h.col.blk]; rfl
  clear h
  go_enter Try.func20, Try.ntmps20
  go_wp2_with fail
  go_ret
  exact ⟨rfl, rfl⟩

/-- What Append leaves where there is room. -/
def AppendP (base g : Nat) (f : List Nat) (mark t : Int) (es : List (Int × ByteArray)) (w : World) (e : Ending) (w' : World) : Prop :=
  ∃ f', e = .returned (.tuple #[.bool (holdsK mark es), .int .i64 0]) ∧ IxF w' base f' g (bif holdsK mark es then mark else 0) t es ∧ Wro w w' f ∧ ∀ x ∈ f', x ∈ f ∨ w.heap.size ≤ x
set_option maxHeartbeats 4000000 in
set_option maxRecDepth 100000 in
theorem append_any (base g : Nat) (f : List Nat) (mark : Int) (hm : Mark3 mark) (es : List (Int × ByteArray)) (v : Vl) (nA : Option Addr) (nc : Nat) (sA : Option Addr) (sc : Nat) (lA : Option Addr) (lc ll : Nat) (w : World) (h : IxF w base f g mark v.t es) (hn : Rd w w.heap.size nA (i64s v.n)) (hs : Rd w w.heap.size sA (strs v.s))
    (hl : v.n.length ≤ 100000 ∧ v.s.length ≤ 100000) (hes : es.length ≤ 65536) (hb : base ≤ w.heap.size) (big : Bool) (hbig : decide (es.length + (keysV v).length ≤ 65536) = big) :
    Calls Try.prog 15 #[.pointer (some ⟨g, 0, none⟩), .agg #[.int .i64 v.t, .slice nA v.n.length nc, .slice sA v.s.length sc, .slice lA ll lc]] w
      (fun e w' => (big = true → AppendP base g f mark v.t (es ++ keysV v) w e w') ∧ (big = false → e = .returned (.tuple #[.bool false, .int .i64 6]) ∧ w.grownBy w' none)) := by
  obtain ⟨wa, hwa⟩ : ∃ wa, wa = w.alloc (.cells #[.int .i64 v.t, .slice nA v.n.length nc, .slice sA v.s.length sc, .slice lA ll lc] 26) := ⟨_, rfl⟩
  have hga : w.grownBy wa none := by rw [hwa]; exact gb_alloc (gb_refl w none) _
  have hba : wa.heap[w.heap.size]? = some (.cells #[.int .i64 v.t, .slice nA v.n.length nc, .slice sA v.s.length sc, .slice lA ll lc] 26 (0, 0)) := by rw [hwa]; exact heap_alloc_new w _
  have hIA := h.gb hga
  have HFL := hide h.lt
  have HBA := hide hba
  have HGA := hide hga
  have HWE := hide hwa
  have HN := hide (hn.grown hga (Nat.le_refl _) (by simp))
  have HS := hide (hs.grown hga (Nat.le_refl _) (by simp))
  have HL := hide hl
  have HM := hide hm
  have HIA := hide hIA
  have HBS := hide hb
  have HES := hide hes
  obtain ⟨x, mb, tr, hI⟩ := hIA
  have g1 : wa.cell? ⟨g, 1, none⟩ = some (.int .i64 v.t) := by rw [blk_cell hI.col.blk]; rfl
  have y0 : wa.cell? ⟨w.heap.size, 0, none⟩ = some (.int .i64 v.t) := by rw [blk_cell hba]; rfl
  clear hm hwa hga hba hn hs hl h hI hb hes
  go_enter Try.func15, Try.ntmps15
  go_wp2_with fail
  rw [← HWE.out]
  go_quiet (fail)
  obtain ⟨wq, hwq⟩ : ∃ wq, wq = wa.drewN nq := ⟨_, rfl⟩
  have hgq : wa.grownBy wq none := by rw [hwq]; exact gb_drewN (gb_refl wa none) _
  rw [← hwq]
  have hbq := blk_keep HBA.out hgq (by simp)
  have y0 : wq.cell? ⟨w.heap.size, 0, none⟩ = some (.int .i64 v.t) := by rw [blk_cell hbq]; rfl
  have y1 : wq.cell? ⟨w.heap.size, 1, none⟩ = some (.slice nA v.n.length nc) := by rw [blk_cell hbq]; rfl
  have y2 : wq.cell? ⟨w.heap.size, 2, none⟩ = some (.slice sA v.s.length sc) := by rw [blk_cell hbq]; rfl
  have y3 : wq.cell? ⟨w.heap.size, 3, none⟩ = some (.slice lA ll lc) := by rw [blk_cell hbq]; rfl
  have HKS := hide (keys_any v nA nc sA sc (.slice lA ll lc) w.heap.size wq (HN.out.grown hgq HGA.out.size (by simp)) (HS.out.grown hgq HGA.out.size (by simp)) (Nat.le_trans HGA.out.size hgq.size) ⟨by have := HL.out; omega, by have := HL.out; omega⟩)
  have HKL := hide (keysV_len v 100000 HL.out)
  have HGQ := hide (gb_trans HGA.out hgq (.inl rfl))
  have HIQ := hide (HIA.out.gb hgq)
  clear hwq hgq hbq g1
  go_wp2_with fail
  refine HKS.out.mono ?_
  rintro e w3 ⟨b, rfl, hb, hrd, hg3⟩
  have HI3 := hide (HIQ.out.gb hg3)
  have HG3 := hide (gb_trans HGQ.out hg3 (.inl rfl))
  have HRD := hide hrd
  have HB := hide hb
  obtain ⟨x3, mb3, tr3, hI3⟩ := HIQ.out.gb hg3
  obtain ⟨Av, cv, rfl, _, hcm, _⟩ := own_form2 hI3.col.own
  have g2 : w3.cell? ⟨g, 2, none⟩ = some (.slice Av es.length cv) := by rw [blk_cell hI3.col.blk]; rfl
  obtain ⟨K, hK⟩ : ∃ K, (keysV v).length = K := ⟨_, rfl⟩
  obtain ⟨M, hM⟩ : ∃ M, es.length = M := ⟨_, rfl⟩
  have hKl : K ≤ 100000 := by rw [← hK]; exact HKL.out
  have hMl : M ≤ 65536 := by rw [← hM]; exact HES.out
  rw [hM] at g2
  rw [hM, hK] at hbig
  rw [hK]
  have HKK := hide hK
  have HMM := hide hM
  clear hI3 hcm hrd hb hg3 hK hM y0 y1 y2 y3
  cases big
  · have hgt : 65536 < M + K := by have := of_decide_eq_false hbig; omega
    have hgi : (65536 : Int) < (M : Int) + (K : Int) := by omega
    clear hbig
    go_wp2_with fail
    go_ret2
    exact ⟨rfl, HG3.out⟩
  · have hle : M + K ≤ 65536 := of_decide_eq_true hbig
    have hgi : ¬ (65536 : Int) < (M : Int) + (K : Int) := by omega
    have HAD := hide (add_any base g f mark v.t es (keysV v) (some ⟨b, 0, none⟩) K K w3.heap.size w3 HI3.out HRD.out (Nat.le_refl _) HKK.out (fun ad ha _ hm => by
      cases ha
      have h1 := (HFL.out b hm).2
      have h2 := HGQ.out.size
      have h3 := HB.out
      omega) (by rw [HKK.out, HMM.out]; omega) (Nat.le_trans HBS.out HG3.out.size))
    have HLE := hide hle
    clear hbig hle
    go_wp2_with fail
    refine HAD.out.mono ?_
    rintro e w4 ⟨f', rfl, hI4, hW4, hf4⟩
    have HST := hide (stays_any base g f' mark v.t (es ++ keysV v) w4 hI4 HM.out)
    have HW4 := hide (Wro.trans (Wro.of_none HG3.out f) hW4 (fun _ h => .inl h))
    have HF4 : Hid (∀ x ∈ f', x ∈ f ∨ w.heap.size ≤ x) := hide (fun x hx => (hf4 x hx).imp id fun h => Nat.le_trans HG3.out.size h)
    have HGF : Hid (g ∈ f) := hide (by obtain ⟨_, _, _, hI⟩ := HIA.out; rw [hI.foot]; simp)
    clear hI4 hW4 hf4
    unfold StaysP at HST
    obtain ⟨hb, hh⟩ : ∃ hb, holdsK mark (es ++ keysV v) = hb := ⟨_, rfl⟩
    rw [hh] at HST
    have HHB := hide hh
    clear hh
    go_wp2_with fail
    refine HST.out.mono ?_
    rintro e w5 ⟨rfl, hI5, hg5⟩
    have HI5 := hide hI5
    have HW5 := hide (HW4.out.trans (Wro.of_gb hg5 (f := [g]) (by simp)) (fun x hx => by
      have : x = g := by simpa using hx
      subst this
      exact .inl HGF.out))
    clear hI5 hg5
    go_wp2_with fail
    go_ret2
    exact ⟨f', by rw [HHB.out]; rfl, by rw [HHB.out]; exact HI5.out, HW5.out, HF4.out⟩
end Go.Proofs.Ytfdckhnhancbdaa
