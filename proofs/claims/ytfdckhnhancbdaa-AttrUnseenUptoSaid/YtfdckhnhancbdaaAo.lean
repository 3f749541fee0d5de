/-
  The document's numbers, vectors, atoms; lists of ints compared.
-/
import Derived.Test.YtfdckhnhancbdaaAn
import Derived.Test.YtfdckhnhancbdaaVd
namespace Go.Proofs.Ytfdckhnhancbdaa
open Go.RowKit
attribute [local go_sem ↓] Go.wp_at_zero Go.wp_at_succ

theorem Rd.nt {w : World} {B : Nat} {A : Option Addr} {l : List Nat} {k : Nat} (h : Rd w B A (nts l)) (hk : k < l.length) : ∃ ad, A = some ad ∧ ad.block < B ∧ w.cell? (ad.add k) = some (.int .i64 ((l[k] : Nat) : Int)) := by
  obtain ⟨ad, h1, h2, h3⟩ := h.cell (k := k) (by rw [nts_length]; exact hk)
  exact ⟨ad, h1, h2, by rw [h3]; simp [nts]⟩
theorem cell_gb' {w w' : World} {ad : Addr} {k : Nat} {v : Value} (h : w.cell? (ad.add k) = some v) (hg : w.grownBy w' none) : w'.cell? (ad.add k) = some v :=
  (World.cell?_of_block (hg.block _ (World.block_lt_of_cell? w _ h) (by simp))).trans h
/-- A value in new memory. -/
def ValP (v : Vl) (w : World) (e : Ending) (w' : World) : Prop :=
  ∃ nA nc sA sc lA lc, e = .returned (.agg #[.int .i64 v.t, .slice nA v.n.length nc, .slice sA v.s.length sc, .slice lA v.l.length lc]) ∧ VB w' w'.heap.size v nA nc sA sc lA lc ∧ w.grownBy w' none ∧ ∀ ad, nA = some ad → w.heap.size ≤ ad.block
set_option maxHeartbeats 1000000 in
theorem num_any (n : Int) (w : World) : Calls Try.prog 12 #[.int .i64 n] w fun e w' => e = .returned (.int .i64 n) ∧ w = w' := by
  go_enter Try.func12, Try.ntmps12
  go_wp2_with fail
  go_ret
  exact ⟨rfl, rfl⟩
theorem abs2_any (w : World) : Calls Try.prog 59 #[.int .i64 2] w fun e w' => e = .returned (.int .i64 2) ∧ w = w' := by
  go_enter Try.func59, Try.ntmps59
  go_wp2_with fail
  go_ret
  exact ⟨rfl, rfl⟩
set_option maxHeartbeats 2000000 in
set_option maxRecDepth 100000 in
theorem atom_any (n : Int) (w : World) : Calls Try.prog 32 #[.int .i64 2, .int .i64 n] w (ValP (.mk (-2) [n] [] []) w) := by
  go_enter Try.func32, Try.ntmps32
  go_wp2_with (go_at_call 59; refine (abs2_any _).mono ?_; rintro e w1 ⟨rfl, rfl⟩)
  refine bodyPost_ret (v := .agg #[.int .i64 (-2), .slice (some ⟨w.heap.size + 1, 0, none⟩) 1 1, .slice none 0 0, .slice none 0 0]) (by simp [results, Try.results32, go_sem]) rfl ?_
  obtain ⟨wa, hwa⟩ : ∃ wa, wa = w.alloc (.cells #[.int .i64 (-2), .slice (some ⟨w.heap.size + 1, 0, none⟩) 1 1, .slice none 0 0, .slice none 0 0] 26) := ⟨_, rfl⟩
  have hs : wa.heap.size = w.heap.size + 1 := by rw [hwa]; simp
  have hg : w.grownBy wa none := by rw [hwa]; exact gb_alloc (gb_refl w none) _
  rw [← hwa]
  have hr := Rd.new wa #[.int .i64 n] 2 (i64s [n]) rfl
  rw [hs] at hr
  refine ⟨some ⟨w.heap.size + 1, 0, none⟩, 1, none, 0, none, 0, rfl, ⟨hr.more (by simp [hs]), Rd.nil_, ⟨[], Rd.nil_, rfl⟩, Nat.le_refl _, Nat.le_refl _, Nat.le_refl _⟩, gb_alloc hg _, fun ad ha => by cases ha; exact Nat.le_succ _⟩
set_option maxHeartbeats 2000000 in
set_option maxRecDepth 100000 in
theorem sameN_any (l m : List Nat) (A A' : Option Addr) (c c' B : Nat) (w : World) (hl : Rd w B A (nts l)) (hm : Rd w B A' (nts m)) (hll : l.length ≤ 1000000) :
    Calls Try.prog 25 #[.slice A l.length c, .slice A' m.length c'] w fun e w' => e = .returned (.bool (decide (l = m))) ∧ w.grownBy w' none := by
  by_cases hlen : l.length = m.length
  · have HL := hide hl
    have HM := hide hm
    have HLE := hide hlen
    have HLL := hide hll
    rw [← hlen]
    clear hl hm hlen hll
    go_enter Try.func25, Try.ntmps25
    go_wp2_with fail
    go_loopw [5] (fun i wr => ∃ k : Nat, k ≤ l.length ∧ i = .int .i64 (k : Int) ∧ l.take k = m.take k ∧ w.grownBy wr none) (fun i _ => l.length - (intOf i).toNat)
    case atStart => exact ⟨0, Nat.zero_le _, rfl, rfl, gb_refl w none⟩
    case round =>
      obtain ⟨k, hk, rfl, ht, hg⟩ := hrel
      by_cases hlt : k < l.length
      · have hkl : k ≤ 1000000 := by have := HLL.out; omega
        have hlm : k < m.length := by have := HLE.out; omega
        obtain ⟨ad, rfl, _, ca⟩ := HL.out.nt hlt
        obtain ⟨ad', rfl, _, cb⟩ := HM.out.nt hlm
        have c1 := cell_gb' ca hg
        have c2 := cell_gb' cb hg
        clear ca cb
        obtain ⟨x, hx⟩ : ∃ x, x = l[k] := ⟨_, rfl⟩
        obtain ⟨y, hy⟩ : ∃ y, y = m[k] := ⟨_, rfl⟩
        rw [← hx] at c1
        rw [← hy] at c2
        have HT := hide ht
        have HG := hide hg
        have HX := hide hx
        have HY := hide hy
        have HLM := hide hlm
        by_cases hxy : x = y
        · subst hxy
          have hne : ((x : Int) != (x : Int)) = false := by simp
          clear ht hg hx hy
          go_wp2_with fail
          go_quiet (fail)
          go_wp2_with fail
          go_roundw
          case rel => exact ⟨k + 1, by omega, by go_num, by rw [List.take_succ_eq_append_getElem hlt, List.take_succ_eq_append_getElem HLM.out, HT.out, ← HX.out, ← HY.out], gb_drewN HG.out _⟩
          case measure => simp [intOf]; omega
        · have hne : ((x : Int) != (y : Int)) = true := by simp; omega
          have hne2 : ¬ (x : Int) = (y : Int) := by omega
          have HD := hide (show decide (l = m) = false from decide_eq_false (fun e => hxy (by rw [hx, hy]; simp [e])))
          clear ht hg hx hy hxy
          go_wp2_with fail
          go_quiet (fail)
          go_wp2_with fail
          go_ret
          exact ⟨by rw [HD.out]; rfl, gb_drewN HG.out _⟩
      · obtain rfl : k = l.length := by omega
        have HD := hide (show decide (l = m) = true from decide_eq_true (by
          have h2 := HLE.out
          rw [List.take_length, h2, List.take_length] at ht
          exact ht))
        have HG := hide hg
        clear ht hg
        go_wp2_with fail
        go_ret
        exact ⟨by rw [HD.out]; rfl, HG.out⟩
  · have HD := hide (show decide (l = m) = false from decide_eq_false (fun e => hlen (by rw [e])))
    have h1 : ((l.length : Int) != (m.length : Int)) = true := by simp; omega
    have h2 : ¬ (l.length : Int) = (m.length : Int) := by omega
    clear hl hm hlen hll
    go_enter Try.func25, Try.ntmps25
    go_wp2_with fail
    go_ret
    exact ⟨by rw [HD.out]; rfl, gb_refl w none⟩
set_option maxHeartbeats 2000000 in
set_option maxRecDepth 100000 in
theorem vec_any (t : Int) (l : List Int) (w : World) (A : Option Addr) (c : Nat) (hl : l.length ≤ 1100000) (hr : Rd w w.heap.size A (i64s l)) :
    Calls Try.prog 26 #[.int .i64 t, .slice A l.length c] w (ValP (.mk t l [] []) w) := by
  obtain ⟨wa, hwa⟩ : ∃ wa, wa = w.alloc (.cells #[.int .i64 0, .slice none 0 0, .slice none 0 0, .slice none 0 0] 26) := ⟨_, rfl⟩
  have hb : wa.heap[w.heap.size]? = some (.cells #[.int .i64 0, .slice none 0 0, .slice none 0 0, .slice none 0 0] 26 (0, 0)) := by rw [hwa]; exact heap_alloc_new w _
  have hg : w.grownBy wa none := by rw [hwa]; exact gb_alloc (gb_refl w none) _
  have HB := hide hb
  have HG := hide hg
  have HWE := hide hwa
  have HSZ := hide (show wa.heap.size = w.heap.size + 1 by rw [hwa]; simp)
  obtain ⟨i1, hi1, hiz, his, hib⟩ := info_parts Try.info64
  have HI1 := hide hi1
  have HIZ := hide hiz
  have HIS := hide his
  have HIB := hide hib
  have hro : (wa.alloc (.cells #[] 2)).ownsRow (w.heap.size + 1) 2 1 (.slice (some ⟨w.heap.size + 1, 0, none⟩) 0 0) 0 [] := by
    have h := World.ownsRow_lit (base := w.heap.size + 1) (e := 2) (size := 1) wa #[] 0 (by rw [HSZ.out]; exact Nat.le_refl _) (by decide) rfl
    rw [HSZ.out] at h
    exact h
  have HO := hide hro
  have hga : w.grownBy (wa.alloc (.cells #[] 2)) none := gb_alloc hg _
  have HGA := hide (show wa.grownBy (wa.alloc (.cells #[] 2)) none from gb_alloc (gb_refl wa none) _)
  have HR2 := hide (hr.grown hga (Nat.le_refl _) (by simp))
  have HL1 : Hid ((i64s l).length = l.length * 1) := hide (by simp [i64s])
  have HOC := hide (i64s_one l)
  have HM1 : Hid (0 + l.length ≤ maxLen) := hide (by unfold maxLen; omega)
  have HMB : Hid ((0 + l.length) * 8 ≤ 140737488355328) := hide (by omega)
  have HBS : Hid (w.heap.size + 1 ≤ (wa.alloc (.cells #[] 2)).heap.size) := hide (by rw [World.size_alloc, HSZ.out]; omega)
  have HLL := hide (Nat.zero_add l.length)
  clear hb hg hwa hr hl hi1 hiz his hib hro hga
  go_enter Try.func26, Try.ntmps26
  go_wp2_with (at_builtin; rw [← HWE.out]; refine wpList_append_rd _ rfl (.tmp 6) (.tmp 7) 22 rfl (w.heap.size + 1) 2 i1 (.int .i64 0) 1 8 Try.underlying22 HI1.out HIZ.out HIS.out HIB.out rfl (Nat.succ_pos 0) (.slice (some ⟨w.heap.size + 1, 0, none⟩) 0 0) 0 [] rfl HO.out w.heap.size A l.length c (i64s l) rfl HL1.out HR2.out HOC.out HM1.out HMB.out HBS.out ?_
               intro v5 w5 ho5 hg5 hb5
               rw [HLL.out, List.nil_append] at ho5
               obtain ⟨N5, nc5, rfl, hnc5⟩ := own_slice ho5
               have HO5 := hide ho5
               have hgo : (wa.alloc (.cells #[] 2)).grownBy w5 (some (w.heap.size + 1)) := hg5
               have HG5 := hide (show wa.grownBy w5 none from gb_trans HGA.out hgo (.inr (.inr ⟨_, rfl, by rw [HSZ.out]; exact Nat.le_refl _⟩)))
               have hr2 := (HG5.out.block _ (blk_lt HB.out) (by simp)).trans HB.out
               have HNC := hide hnc5
               have HR5 := hide hr2
               have z0 := blk_frozen hr2 0
               have z1 := blk_frozen hr2 1
               have z2 := blk_frozen hr2 2
               have z3 := blk_frozen hr2 3
               have y0 : w5.cell? ⟨w.heap.size, 0, none⟩ = some (.int .i64 0) := (by { rw [blk_cell hr2]; rfl })
               have y1 : w5.cell? ⟨w.heap.size, 1, none⟩ = some (.slice none 0 0) := (by { rw [blk_cell hr2]; rfl })
               have y2 : w5.cell? ⟨w.heap.size, 2, none⟩ = some (.slice none 0 0) := (by { rw [blk_cell hr2]; rfl })
               have y3 : w5.cell? ⟨w.heap.size, 3, none⟩ = some (.slice none 0 0) := (by { rw [blk_cell hr2]; rfl })
               clear ho5 hg5 hb5 hgo hr2 hnc5)
  have hb := put4K HR5.out (.int .i64 t) (.slice N5 l.length nc5) (.slice none 0 0) (.slice none 0 0)
  have m0 := blk_cell hb 0
  have m1 := blk_cell hb 1
  have m2 := blk_cell hb 2
  have m3 := blk_cell hb 3
  simp only [List.getElem?_toArray, List.getElem?_cons_zero, List.getElem?_cons_succ] at m0 m1 m2 m3
  refine bodyPost_ret (v := .agg #[.int .i64 t, .slice N5 l.length nc5, .slice none 0 0, .slice none 0 0]) (by simp [results, Try.results26, go_sem, m0, m1, m2, m3]) rfl ?_
  refine ⟨N5, nc5, none, 0, none, 0, rfl, ?_, put4K_gb (gb_trans HG.out HG5.out (.inl rfl)) (Nat.le_refl _) _ _ _ _, fun ad ha => by subst ha; have := (own_lt HO5.out (g := ad.block) rfl).2; omega⟩
  have ho := put4K_own (g := w.heap.size) HO5.out (fun e => by have := (own_lt HO5.out e).2; omega) (.int .i64 t) (.slice N5 l.length nc5) (.slice none 0 0) (.slice none 0 0)
  exact ⟨Rd.of_own ho, Rd.nil_, ⟨[], Rd.nil_, rfl⟩, HNC.out, Nat.le_refl _, Nat.le_refl _⟩
set_option maxHeartbeats 2000000 in
set_option maxRecDepth 100000 in
theorem ints_any (l : List Int) (w : World) (A : Option Addr) (c : Nat) (hl : l.length ≤ 1100000) (hr : Rd w w.heap.size A (i64s l)) :
    Calls Try.prog 31 #[.slice A l.length c] w (ValP (.mk 2 l [] []) w) := by
  obtain ⟨wa, hwa⟩ : ∃ wa, wa = w.alloc (.cells #[.int .i64 0, .slice none 0 0, .slice none 0 0, .slice none 0 0] 26) := ⟨_, rfl⟩
  have hb : wa.heap[w.heap.size]? = some (.cells #[.int .i64 0, .slice none 0 0, .slice none 0 0, .slice none 0 0] 26 (0, 0)) := by rw [hwa]; exact heap_alloc_new w _
  have hg : w.grownBy wa none := by rw [hwa]; exact gb_alloc (gb_refl w none) _
  have HB := hide hb
  have HG := hide hg
  have HWE := hide hwa
  have HSZ := hide (show wa.heap.size = w.heap.size + 1 by rw [hwa]; simp)
  have HV := hide (vec_any 2 l wa A c hl ((hr.grown hg (Nat.le_refl _) (by simp)).more hg.size))
  clear hb hg hwa hr hl
  go_enter Try.func31, Try.ntmps31
  go_wp2_with (go_at_call 26; rw [← HWE.out]; refine HV.out.mono ?_; rintro e w3 ⟨nA, nc, sA, sc, lA, lc, he, hv, hg3, hA⟩; obtain rfl : e = .returned (.agg #[.int .i64 2, .slice nA l.length nc, .slice sA 0 sc, .slice lA 0 lc]) := he; have HVV := hide hv; have HA := hide hA; have HG5 := hide (gb_trans HG.out hg3 (.inl rfl)); have hr2 := blk_keep HB.out hg3 (by simp); have HR2 := hide hr2; have z0 := blk_frozen hr2 0; have z1 := blk_frozen hr2 1; have z2 := blk_frozen hr2 2; have z3 := blk_frozen hr2 3; have y0 : w3.cell? ⟨w.heap.size, 0, none⟩ = some (.int .i64 0) := (by { rw [blk_cell hr2]; rfl }); have y1 : w3.cell? ⟨w.heap.size, 1, none⟩ = some (.slice none 0 0) := (by { rw [blk_cell hr2]; rfl }); have y2 : w3.cell? ⟨w.heap.size, 2, none⟩ = some (.slice none 0 0) := (by { rw [blk_cell hr2]; rfl }); have y3 : w3.cell? ⟨w.heap.size, 3, none⟩ = some (.slice none 0 0) := (by { rw [blk_cell hr2]; rfl }); clear hv hg3 hr2 hA)
  have hb := put4K HR2.out (.int .i64 2) (.slice nA l.length nc) (.slice sA 0 sc) (.slice lA 0 lc)
  have m0 := blk_cell hb 0
  have m1 := blk_cell hb 1
  have m2 := blk_cell hb 2
  have m3 := blk_cell hb 3
  simp only [List.getElem?_toArray, List.getElem?_cons_zero, List.getElem?_cons_succ] at m0 m1 m2 m3
  refine bodyPost_ret (v := .agg #[.int .i64 2, .slice nA l.length nc, .slice sA 0 sc, .slice lA 0 lc]) (by simp [results, Try.results31, go_sem, m0, m1, m2, m3]) rfl ?_
  have hsz := HSZ.out
  have hw4 : Wro w3 _ [w.heap.size] := Wro.of_gb (put4K_row (w := w3) (g := w.heap.size) (.int .i64 2) (.slice nA l.length nc) (.slice sA 0 sc) (.slice lA 0 lc)) (by simp)
  refine ⟨nA, nc, sA, sc, lA, lc, rfl, ⟨(hw4.rd HVV.out.n (fun ad ha _ hm => ?_) (Nat.le_refl _)).more hw4.size, Rd.nil_, ⟨[], Rd.nil_, rfl⟩, HVV.out.hn, HVV.out.hs, HVV.out.hl⟩, put4K_gb HG5.out (Nat.le_refl _) _ _ _ _, fun ad ha => by have := HA.out ad ha; omega⟩
  have h1 := HA.out ad ha
  have h2 : ad.block = w.heap.size := by simpa using hm
  omega
end Go.Proofs.Ytfdckhnhancbdaa
