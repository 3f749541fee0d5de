/-
  attr's vector: elements as a value.
-/
import Derived.Test.YtfdckhnhancbdaaAh
import Derived.Test.YtfdckhnhancbdaaVo
namespace Go.Proofs.Ytfdckhnhancbdaa
open Go.RowKit
attribute [local go_sem ↓] Go.wp_at_zero Go.wp_at_succ

theorem one_oneCell {u : Value} (h : u.oneCell' = true) : ∀ x ∈ [u], x.oneCell' = true := by
  intro x hx
  rw [List.mem_singleton.1 hx]
  exact h
theorem put4K {w : World} {g : Nat} {c0 c1 c2 c3 : Value} {t : TypeId} (h : w.heap[g]? = some (.cells #[c0, c1, c2, c3] t (0, 0))) (u0 u1 u2 u3 : Value) :
    ((((w.setCell ⟨g, 0, none⟩ u0).setCell ⟨g, 1, none⟩ u1).setCell ⟨g, 2, none⟩ u2).setCell ⟨g, 3, none⟩ u3).heap[g]? = some (.cells #[u0, u1, u2, u3] t (0, 0)) := by
  rw [blk_set (blk_set (blk_set (blk_set h 0 _) 1 _) 2 _) 3 _]
  rfl
theorem put4K_gb {w0 w : World} {g : Nat} (h : w0.grownBy w none) (hg : w0.heap.size ≤ g) (u0 u1 u2 u3 : Value) :
    w0.grownBy ((((w.setCell ⟨g, 0, none⟩ u0).setCell ⟨g, 1, none⟩ u1).setCell ⟨g, 2, none⟩ u2).setCell ⟨g, 3, none⟩ u3) none :=
  gb_setCell (gb_setCell (gb_setCell (gb_setCell h (.inr hg) _) (.inr hg) _) (.inr hg) _) (.inr hg) _
theorem put4K_own {w : World} {base g n size : Nat} {t : TypeId} {v : Value} {xs : List Value} (ho : w.ownsRow base t size v n xs) (hne : v.ownBlock ≠ some g) (u0 u1 u2 u3 : Value) :
    ((((w.setCell ⟨g, 0, none⟩ u0).setCell ⟨g, 1, none⟩ u1).setCell ⟨g, 2, none⟩ u2).setCell ⟨g, 3, none⟩ u3).ownsRow base t size v n xs :=
  own_gb (own_gb (own_gb (own_gb ho (gb_cell _) (.inr hne)) (gb_cell _) (.inr hne)) (gb_cell _) (.inr hne)) (gb_cell _) (.inr hne)
/-- What vector leaves: a value of numbers, of symbols. -/
def VecNP (t : Int) (ns : List Int) (w : World) (e : Ending) (w' : World) : Prop :=
  ∃ A c, e = .returned (.agg #[.int .i64 t, .slice A ns.length c, .slice none 0 0, .slice none 0 0]) ∧ VB w' w'.heap.size (.mk t ns [] []) A c none 0 none 0 ∧ w.grownBy w' none ∧ ∀ ad, A = some ad → w.heap.size ≤ ad.block
def VecSP (ss : List ByteArray) (w : World) (e : Ending) (w' : World) : Prop :=
  ∃ A c, e = .returned (.agg #[.int .i64 3, .slice none 0 0, .slice A ss.length c, .slice none 0 0]) ∧ VB w' w'.heap.size (.mk 3 [] ss []) none 0 A c none 0 ∧ w.grownBy w' none ∧ ∀ ad, A = some ad → w.heap.size ≤ ad.block
def VecIN (w : World) (t : Int) (x : Value) (k : Nat) (ns : List Int) (wr : World) : Prop :=
  wr.heap[w.heap.size]? = some (.cells #[.int .i64 0, .slice none 0 0, .slice none 0 0, .slice none 0 0] 26 (0, 0)) ∧ wr.heap[w.heap.size + 1]? = some (.cells #[.int .i64 t, x, .slice none 0 0, .slice none 0 0] 26 (0, 0)) ∧
    wr.ownsRow (w.heap.size + 2) 2 1 x k (i64s ns) ∧ w.grownBy wr none ∧ w.heap.size + 2 ≤ wr.heap.size
def VecIS (w : World) (x : Value) (k : Nat) (ss : List ByteArray) (wr : World) : Prop :=
  wr.heap[w.heap.size]? = some (.cells #[.int .i64 0, .slice none 0 0, .slice none 0 0, .slice none 0 0] 26 (0, 0)) ∧ wr.heap[w.heap.size + 1]? = some (.cells #[.int .i64 3, .slice none 0 0, x, .slice none 0 0] 26 (0, 0)) ∧
    wr.ownsRow (w.heap.size + 2) 9 1 x k (strs ss) ∧ w.grownBy wr none ∧ w.heap.size + 2 ≤ wr.heap.size
set_option maxHeartbeats 4000000 in
set_option maxRecDepth 100000 in
theorem vectorN_any (t : Int) (ht : ¬ t = 3) (l : List (Int × ByteArray)) (A : Option Addr) (c B : Nat) (w : World) (hr : Rd w B A (kcs l)) (hB : B ≤ w.heap.size) (hl : l.length ≤ 1000000) :
    Calls Try.prog 48 #[.int .i64 t, .slice A l.length c] w (VecNP t (l.map (·.1)) w) := by
  obtain ⟨wa, hwa⟩ : ∃ wa, wa = (w.alloc (.cells #[.int .i64 0, .slice none 0 0, .slice none 0 0, .slice none 0 0] 26)).alloc (.cells #[.int .i64 t, .slice none 0 0, .slice none 0 0, .slice none 0 0] 26) := ⟨_, rfl⟩
  have hga : w.grownBy wa none := by rw [hwa]; exact gb_alloc (gb_alloc (gb_refl w none) _) _
  have hsa : wa.heap.size = w.heap.size + 2 := by rw [hwa]; simp
  have hb0 : wa.heap[w.heap.size]? = some (.cells #[.int .i64 0, .slice none 0 0, .slice none 0 0, .slice none 0 0] 26 (0, 0)) := by rw [hwa]; exact (Below.heap_alloc _ _ _ (by rw [World.size_alloc]; omega)).trans (heap_alloc_new w _)
  have hb1 : wa.heap[w.heap.size + 1]? = some (.cells #[.int .i64 t, .slice none 0 0, .slice none 0 0, .slice none 0 0] 26 (0, 0)) := by
    rw [hwa]
    have := heap_alloc_new (w.alloc (.cells #[.int .i64 0, .slice none 0 0, .slice none 0 0, .slice none 0 0] 26)) (.cells #[.int .i64 t, .slice none 0 0, .slice none 0 0, .slice none 0 0] 26)
    rwa [World.size_alloc] at this
  obtain ⟨i1, hi1, hiz, his, hib⟩ := info_parts Try.info64
  have HI1 := hide hi1
  have HIZ := hide hiz
  have HIS := hide his
  have HIB := hide hib
  have HSA := hide hsa
  have HWE := hide hwa
  have HGA := hide hga
  have HB0 := hide hb0
  have HB1 := hide hb1
  have HR := hide hr
  have HB := hide hB
  have HLL := hide hl
  have ht2 : (t == 3) = false := by simp [ht]
  clear hi1 hiz his hib hsa hwa hga hb0 hb1 hr hB
  go_enter Try.func48, Try.ntmps48
  go_wp2_with fail
  rw [← HWE.out]
  go_loopw [12] (fun i wr => ∃ (k : Nat) (x : Value), k ≤ l.length ∧ i = .int .i64 (k : Int) ∧ VecIN w t x k ((l.take k).map (·.1)) wr) (fun i _ => l.length - (intOf i).toNat)
  case atStart => exact ⟨0, .slice none 0 0, Nat.zero_le _, rfl, HB0.out, HB1.out, World.ownsRow_nil wa _ _ 1, HGA.out, by rw [HSA.out]; exact Nat.le_refl _⟩
  case round =>
    obtain ⟨k, x, hk, rfl, hb0, hb1, ho, hg, hs⟩ := hrel
    by_cases hlt : k < l.length
    · have hkl : k ≤ 1000000 := by have := HLL.out; omega
      have hrd : Rd wr B A (kcs l) := HR.out.grown hg HB.out (by simp)
      obtain ⟨bb, o, rfl, hbb, hcell⟩ := hrd.key (by omega)
      obtain ⟨k0, k1⟩ := hcell k hlt
      obtain ⟨xx, hxx⟩ : ∃ xx, xx = l[k] := ⟨_, rfl⟩
      rw [← hxx] at k0 k1
      obtain ⟨wb, hwb⟩ : ∃ wb, wb = (wr.alloc (.cells #[.int .i64 xx.1, .string xx.2] 89)).alloc (.cells #[.int .i64 xx.1] 2) := ⟨_, rfl⟩
      have hgb : wr.grownBy wb none := by rw [hwb]; exact gb_alloc (gb_alloc (gb_refl wr none) _) _
      have HOW := hide (own_gb ho hgb (by cases x.ownBlock <;> simp))
      have HXL : Hid (∀ b, x.ownBlock = some b → w.heap.size + 2 ≤ b) := hide (fun b e => (own_lt ho e).2)
      have HB1R := hide hb1
      have HB0R := hide hb0
      have HG := hide hg
      have HS := hide hs
      have HGB := hide hgb
      have HX := hide hxx
      have HWB := hide hwb
      have HM1 : Hid (k + 1 ≤ maxLen) := hide (by unfold maxLen; omega)
      have HMB : Hid ((k + 1) * 8 ≤ 140737488355328) := hide (by omega)
      have HBS : Hid (w.heap.size + 2 ≤ wb.heap.size) := hide (Nat.le_trans hs hgb.size)
      have hc1 : ∀ o, (wr.alloc o).cell? ⟨w.heap.size + 1, 1, none⟩ = some x := fun o => by rw [World.cell?_alloc_lt wr o _ (blk_lt hb1), blk_cell hb1]; rfl
      have HNW := hide (fun (wq : World) (_ : wq = wb) => (by subst wq; rw [hwb]; simpa using cell_one_new (wr.alloc (.cells #[.int .i64 xx.1, .string xx.2] 89)) (.int .i64 xx.1) 2 : ∀ j u, [(.int .i64 xx.1 : Value)][j]? = some u → wq.cell? ((⟨wr.heap.size + 1, 0, none⟩ : Addr).add j) = some u))
      clear hrd hcell hxx hb0 hb1 ho hg hs hbb hwb hgb
      go_wp2_with (at_builtin; rw [← HWB.out]; refine wpList_append_own_at _ rfl (.tmp 26) (.tmp 29) 22 rfl (w.heap.size + 2) 2 i1 (.int .i64 0) 1 8 Try.underlying22 HI1.out HIZ.out HIS.out HIB.out rfl (Nat.succ_pos 0) x k (i64s ((l.take k).map (·.1))) rfl HOW.out ⟨wr.heap.size + 1, 0, none⟩ 1 1 [.int .i64 xx.1] rfl rfl (HNW.out _ rfl) (one_oneCell rfl) HM1.out HMB.out HBS.out ?_; intro v5 w5 ho5 hg5 hn5 hb5; obtain ⟨N5, nc5, rfl, _⟩ := own_slice ho5; have hb5' := (hg5.block (w.heap.size + 1) (blk_lt (blk_keep HB1R.out HGB.out (by simp))) (fun e => by have := HXL.out _ e.symm; omega)).trans (blk_keep HB1R.out HGB.out (by simp)); have z5 := blk_frozen hb5' 1; have y5 : w5.cell? ⟨w.heap.size + 1, 1, none⟩ = some x := (by { rw [blk_cell hb5']; rfl }); have HO5 := hide ho5; have HG5 := hide hg5; have HB5 := hide hb5'; clear ho5 hg5 hn5 hb5 hb5')
      go_roundw
      case rel =>
        have he : (l.take (k + 1)).map (·.1) = (l.take k).map (·.1) ++ [xx.1] := by rw [List.take_succ_eq_append_getElem hlt, List.map_append, ← HX.out]; rfl
        have hx0 : x.ownBlock ≠ some w.heap.size := fun e => by have := HXL.out _ e; omega
        have hv5 : (Value.slice N5 (k + 1) nc5).ownBlock ≠ some (w.heap.size + 1) := fun e => by have := (own_lt HO5.out e).2; omega
        refine ⟨k + 1, .slice N5 (k + 1) nc5, by omega, by go_num, ?_, ?_, ?_, ?_⟩
        · rw [Below.heap_setCell _ ⟨w.heap.size + 1, 1, none⟩ _ _ (by simp)]
          exact (HG5.out.block w.heap.size (by have := HBS.out; omega) (fun e => hx0 e.symm)).trans (blk_keep HB0R.out HGB.out (by simp))
        · simpa using blk_set HB5.out 1 (.slice N5 (k + 1) nc5)
        · rw [he]
          have := own_gb HO5.out (gb_cell (g := w.heap.size + 1) (i := 1) (.slice N5 (k + 1) nc5)) (.inr hv5)
          simpa [i64s] using this
        · have h1 : w.grownBy w5 none := gb_trans (gb_trans HG.out HGB.out (.inl rfl)) HG5.out (by
            cases e : x.ownBlock with
            | none => exact .inr (.inl rfl)
            | some b => exact .inr (.inr ⟨b, rfl, by have := HXL.out b e; omega⟩))
          exact ⟨gb_setCell (p := ⟨w.heap.size + 1, 1, none⟩) h1 (.inr (Nat.le_succ _)) (.slice N5 (k + 1) nc5), by have := HBS.out; have := HG5.out.size; simp [World.setCell]; omega⟩
      case measure => simp [intOf]; omega
    · obtain rfl : k = l.length := by omega
      rw [List.take_length] at ho
      obtain ⟨Ax, cx, rfl, hcx, _, hrx⟩ := own_form2 ho
      have y0 : wr.cell? ⟨w.heap.size + 1, 0, none⟩ = some (.int .i64 t) := by rw [blk_cell hb1]; rfl
      have y1 : wr.cell? ⟨w.heap.size + 1, 1, none⟩ = some (.slice Ax l.length cx) := by rw [blk_cell hb1]; rfl
      have y2 : wr.cell? ⟨w.heap.size + 1, 2, none⟩ = some (.slice none 0 0) := by rw [blk_cell hb1]; rfl
      have y3 : wr.cell? ⟨w.heap.size + 1, 3, none⟩ = some (.slice none 0 0) := by rw [blk_cell hb1]; rfl
      have x0 : wr.cell? ⟨w.heap.size, 0, none⟩ = some (.int .i64 0) := by rw [blk_cell hb0]; rfl
      have x1 : wr.cell? ⟨w.heap.size, 1, none⟩ = some (.slice none 0 0) := by rw [blk_cell hb0]; rfl
      have x2 : wr.cell? ⟨w.heap.size, 2, none⟩ = some (.slice none 0 0) := by rw [blk_cell hb0]; rfl
      have x3 : wr.cell? ⟨w.heap.size, 3, none⟩ = some (.slice none 0 0) := by rw [blk_cell hb0]; rfl
      have z0 := blk_frozen hb0 0
      have z1 := blk_frozen hb0 1
      have z2 := blk_frozen hb0 2
      have z3 := blk_frozen hb0 3
      have HB0R := hide hb0
      have HOX := hide ho
      have HG := hide hg
      have HS := hide hs
      have HCX := hide hcx
      clear hb0 hb1 ho hg hs hcx hrx
      go_wp2_with fail
      have hb := put4K HB0R.out (.int .i64 t) (.slice Ax l.length cx) (.slice none 0 0) (.slice none 0 0)
      have m0 := blk_cell hb 0
      have m1 := blk_cell hb 1
      have m2 := blk_cell hb 2
      have m3 := blk_cell hb 3
      simp only [List.getElem?_toArray, List.getElem?_cons_zero, List.getElem?_cons_succ] at m0 m1 m2 m3
      refine bodyPost_ret (v := .agg #[.int .i64 t, .slice Ax l.length cx, .slice none 0 0, .slice none 0 0]) (by simp [results, Try.results48, go_sem, m0, m1, m2, m3]) rfl ?_
      have hgx : w.grownBy _ none := put4K_gb (w0 := w) (g := w.heap.size) HG.out (Nat.le_refl _) (.int .i64 t) (.slice Ax l.length cx) (.slice none 0 0) (.slice none 0 0)
      refine ⟨Ax, cx, by rw [List.length_map], ?_, hgx, fun ad ha => by subst ha; have := (own_lt HOX.out (g := ad.block) rfl).2; omega⟩
      have hox := put4K_own (g := w.heap.size) HOX.out (fun e => by have := (own_lt HOX.out e).2; omega) (.int .i64 t) (.slice Ax l.length cx) (.slice none 0 0) (.slice none 0 0)
      have hrd := Rd.of_own hox
      exact ⟨hrd, Rd.nil_, ⟨[], Rd.nil_, rfl⟩, (Nat.le_trans (Nat.le_of_eq (List.length_map _)) HCX.out), Nat.le_refl _, Nat.le_refl _⟩
set_option maxHeartbeats 4000000 in
set_option maxRecDepth 100000 in
theorem vectorS_any (l : List (Int × ByteArray)) (A : Option Addr) (c B : Nat) (w : World) (hr : Rd w B A (kcs l)) (hB : B ≤ w.heap.size) (hl : l.length ≤ 1000000) :
    Calls Try.prog 48 #[.int .i64 3, .slice A l.length c] w (VecSP (l.map (·.2)) w) := by
  obtain ⟨wa, hwa⟩ : ∃ wa, wa = (w.alloc (.cells #[.int .i64 0, .slice none 0 0, .slice none 0 0, .slice none 0 0] 26)).alloc (.cells #[.int .i64 3, .slice none 0 0, .slice none 0 0, .slice none 0 0] 26) := ⟨_, rfl⟩
  have hga : w.grownBy wa none := by rw [hwa]; exact gb_alloc (gb_alloc (gb_refl w none) _) _
  have hsa : wa.heap.size = w.heap.size + 2 := by rw [hwa]; simp
  have hb0 : wa.heap[w.heap.size]? = some (.cells #[.int .i64 0, .slice none 0 0, .slice none 0 0, .slice none 0 0] 26 (0, 0)) := by rw [hwa]; exact (Below.heap_alloc _ _ _ (by rw [World.size_alloc]; omega)).trans (heap_alloc_new w _)
  have hb1 : wa.heap[w.heap.size + 1]? = some (.cells #[.int .i64 3, .slice none 0 0, .slice none 0 0, .slice none 0 0] 26 (0, 0)) := by
    rw [hwa]
    have := heap_alloc_new (w.alloc (.cells #[.int .i64 0, .slice none 0 0, .slice none 0 0, .slice none 0 0] 26)) (.cells #[.int .i64 3, .slice none 0 0, .slice none 0 0, .slice none 0 0] 26)
    rwa [World.size_alloc] at this
  obtain ⟨i1, hi1, hiz, his, hib⟩ := info_parts Try.infoS
  have HI1 := hide hi1
  have HIZ := hide hiz
  have HIS := hide his
  have HIB := hide hib
  have HSA := hide hsa
  have HWE := hide hwa
  have HGA := hide hga
  have HB0 := hide hb0
  have HB1 := hide hb1
  have HR := hide hr
  have HB := hide hB
  have HLL := hide hl

  clear hi1 hiz his hib hsa hwa hga hb0 hb1 hr hB
  go_enter Try.func48, Try.ntmps48
  go_wp2_with fail
  rw [← HWE.out]
  go_loopw [12] (fun i wr => ∃ (k : Nat) (x : Value), k ≤ l.length ∧ i = .int .i64 (k : Int) ∧ VecIS w x k ((l.take k).map (·.2)) wr) (fun i _ => l.length - (intOf i).toNat)
  case atStart => exact ⟨0, .slice none 0 0, Nat.zero_le _, rfl, HB0.out, HB1.out, World.ownsRow_nil wa _ _ 1, HGA.out, by rw [HSA.out]; exact Nat.le_refl _⟩
  case round =>
    obtain ⟨k, x, hk, rfl, hb0, hb1, ho, hg, hs⟩ := hrel
    by_cases hlt : k < l.length
    · have hkl : k ≤ 1000000 := by have := HLL.out; omega
      have hrd : Rd wr B A (kcs l) := HR.out.grown hg HB.out (by simp)
      obtain ⟨bb, o, rfl, hbb, hcell⟩ := hrd.key (by omega)
      obtain ⟨k0, k1⟩ := hcell k hlt
      obtain ⟨xx, hxx⟩ : ∃ xx, xx = l[k] := ⟨_, rfl⟩
      rw [← hxx] at k0 k1
      obtain ⟨wb, hwb⟩ : ∃ wb, wb = (wr.alloc (.cells #[.int .i64 xx.1, .string xx.2] 89)).alloc (.cells #[.string xx.2] 9) := ⟨_, rfl⟩
      have hgb : wr.grownBy wb none := by rw [hwb]; exact gb_alloc (gb_alloc (gb_refl wr none) _) _
      have HOW := hide (own_gb ho hgb (by cases x.ownBlock <;> simp))
      have HXL : Hid (∀ b, x.ownBlock = some b → w.heap.size + 2 ≤ b) := hide (fun b e => (own_lt ho e).2)
      have HB1R := hide hb1
      have HB0R := hide hb0
      have HG := hide hg
      have HS := hide hs
      have HGB := hide hgb
      have HX := hide hxx
      have HWB := hide hwb
      have HM1 : Hid (k + 1 ≤ maxLen) := hide (by unfold maxLen; omega)
      have HMB : Hid ((k + 1) * 16 ≤ 140737488355328) := hide (by omega)
      have HBS : Hid (w.heap.size + 2 ≤ wb.heap.size) := hide (Nat.le_trans hs hgb.size)
      have hc1 : ∀ o, (wr.alloc o).cell? ⟨w.heap.size + 1, 2, none⟩ = some x := fun o => by rw [World.cell?_alloc_lt wr o _ (blk_lt hb1), blk_cell hb1]; rfl
      have HNW := hide (fun (wq : World) (_ : wq = wb) => (by subst wq; rw [hwb]; simpa using cell_one_new (wr.alloc (.cells #[.int .i64 xx.1, .string xx.2] 89)) (.string xx.2) 9 : ∀ j u, [(.string xx.2 : Value)][j]? = some u → wq.cell? ((⟨wr.heap.size + 1, 0, none⟩ : Addr).add j) = some u))
      clear hrd hcell hxx hb0 hb1 ho hg hs hbb hwb hgb
      go_wp2_with (at_builtin; rw [← HWB.out]; refine wpList_append_own_at _ rfl (.tmp 19) (.tmp 22) 23 rfl (w.heap.size + 2) 9 i1 (.string ⟨#[]⟩) 1 16 Try.underlying23 HI1.out HIZ.out HIS.out HIB.out rfl (Nat.succ_pos 0) x k (strs ((l.take k).map (·.2))) rfl HOW.out ⟨wr.heap.size + 1, 0, none⟩ 1 1 [.string xx.2] rfl rfl (HNW.out _ rfl) (one_oneCell rfl) HM1.out HMB.out HBS.out ?_; intro v5 w5 ho5 hg5 hn5 hb5; obtain ⟨N5, nc5, rfl, _⟩ := own_slice ho5; have hb5' := (hg5.block (w.heap.size + 1) (blk_lt (blk_keep HB1R.out HGB.out (by simp))) (fun e => by have := HXL.out _ e.symm; omega)).trans (blk_keep HB1R.out HGB.out (by simp)); have z5 := blk_frozen hb5' 2; have y5 : w5.cell? ⟨w.heap.size + 1, 2, none⟩ = some x := (by { rw [blk_cell hb5']; rfl }); have HO5 := hide ho5; have HG5 := hide hg5; have HB5 := hide hb5'; clear ho5 hg5 hn5 hb5 hb5')
      go_roundw
      case rel =>
        have he : (l.take (k + 1)).map (·.2) = (l.take k).map (·.2) ++ [xx.2] := by rw [List.take_succ_eq_append_getElem hlt, List.map_append, ← HX.out]; rfl
        have hx0 : x.ownBlock ≠ some w.heap.size := fun e => by have := HXL.out _ e; omega
        have hv5 : (Value.slice N5 (k + 1) nc5).ownBlock ≠ some (w.heap.size + 1) := fun e => by have := (own_lt HO5.out e).2; omega
        refine ⟨k + 1, .slice N5 (k + 1) nc5, by omega, by go_num, ?_, ?_, ?_, ?_⟩
        · rw [Below.heap_setCell _ ⟨w.heap.size + 1, 2, none⟩ _ _ (by simp)]
          exact (HG5.out.block w.heap.size (by have := HBS.out; omega) (fun e => hx0 e.symm)).trans (blk_keep HB0R.out HGB.out (by simp))
        · simpa using blk_set HB5.out 2 (.slice N5 (k + 1) nc5)
        · rw [he]
          have := own_gb HO5.out (gb_cell (g := w.heap.size + 1) (i := 2) (.slice N5 (k + 1) nc5)) (.inr hv5)
          simpa [strs] using this
        · have h1 : w.grownBy w5 none := gb_trans (gb_trans HG.out HGB.out (.inl rfl)) HG5.out (by
            cases e : x.ownBlock with
            | none => exact .inr (.inl rfl)
            | some b => exact .inr (.inr ⟨b, rfl, by have := HXL.out b e; omega⟩))
          exact ⟨gb_setCell (p := ⟨w.heap.size + 1, 2, none⟩) h1 (.inr (Nat.le_succ _)) (.slice N5 (k + 1) nc5), by have := HBS.out; have := HG5.out.size; simp [World.setCell]; omega⟩
      case measure => simp [intOf]; omega
    · obtain rfl : k = l.length := by omega
      rw [List.take_length] at ho
      obtain ⟨Ax, cx, rfl, hcx, _, hrx⟩ := own_form2 ho
      have y0 : wr.cell? ⟨w.heap.size + 1, 0, none⟩ = some (.int .i64 3) := by rw [blk_cell hb1]; rfl
      have y1 : wr.cell? ⟨w.heap.size + 1, 1, none⟩ = some (.slice none 0 0) := by rw [blk_cell hb1]; rfl
      have y2 : wr.cell? ⟨w.heap.size + 1, 2, none⟩ = some (.slice Ax l.length cx) := by rw [blk_cell hb1]; rfl
      have y3 : wr.cell? ⟨w.heap.size + 1, 3, none⟩ = some (.slice none 0 0) := by rw [blk_cell hb1]; rfl
      have x0 : wr.cell? ⟨w.heap.size, 0, none⟩ = some (.int .i64 0) := by rw [blk_cell hb0]; rfl
      have x1 : wr.cell? ⟨w.heap.size, 1, none⟩ = some (.slice none 0 0) := by rw [blk_cell hb0]; rfl
      have x2 : wr.cell? ⟨w.heap.size, 2, none⟩ = some (.slice none 0 0) := by rw [blk_cell hb0]; rfl
      have x3 : wr.cell? ⟨w.heap.size, 3, none⟩ = some (.slice none 0 0) := by rw [blk_cell hb0]; rfl
      have z0 := blk_frozen hb0 0
      have z1 := blk_frozen hb0 1
      have z2 := blk_frozen hb0 2
      have z3 := blk_frozen hb0 3
      have HB0R := hide hb0
      have HOX := hide ho
      have HG := hide hg
      have HS := hide hs
      have HCX := hide hcx
      clear hb0 hb1 ho hg hs hcx hrx
      go_wp2_with fail
      have hb := put4K HB0R.out (.int .i64 3) (.slice none 0 0) (.slice Ax l.length cx) (.slice none 0 0)
      have m0 := blk_cell hb 0
      have m1 := blk_cell hb 1
      have m2 := blk_cell hb 2
      have m3 := blk_cell hb 3
      simp only [List.getElem?_toArray, List.getElem?_cons_zero, List.getElem?_cons_succ] at m0 m1 m2 m3
      refine bodyPost_ret (v := .agg #[.int .i64 3, .slice none 0 0, .slice Ax l.length cx, .slice none 0 0]) (by simp [results, Try.results48, go_sem, m0, m1, m2, m3]) rfl ?_
      have hgx : w.grownBy _ none := put4K_gb (w0 := w) (g := w.heap.size) HG.out (Nat.le_refl _) (.int .i64 3) (.slice none 0 0) (.slice Ax l.length cx) (.slice none 0 0)
      refine ⟨Ax, cx, by rw [List.length_map], ?_, hgx, fun ad ha => by subst ha; have := (own_lt HOX.out (g := ad.block) rfl).2; omega⟩
      have hox := put4K_own (g := w.heap.size) HOX.out (fun e => by have := (own_lt HOX.out e).2; omega) (.int .i64 3) (.slice none 0 0) (.slice Ax l.length cx) (.slice none 0 0)
      have hrd := Rd.of_own hox
      exact ⟨Rd.nil_, hrd, ⟨[], Rd.nil_, rfl⟩, Nat.le_refl _, (Nat.le_trans (Nat.le_of_eq (List.length_map _)) HCX.out), Nat.le_refl _⟩
end Go.Proofs.Ytfdckhnhancbdaa
