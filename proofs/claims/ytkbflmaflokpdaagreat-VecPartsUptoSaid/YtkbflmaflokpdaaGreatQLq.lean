/-
  The document's Of of nothing, its At of any place of a vector or a list, its Null.
-/
import Derived.Test.YtkbflmaflokpdaaGreatQLn
import Derived.Test.YtkbflmaflokpdaaGreatQLp
import Derived.Test.YtkbflmaflokpdaaGreatQLd
import Derived.Test.YtkbflmaflokpdaaGreatQLo

namespace Go.Proofs.YtkbflmaflokpdaaGreat
open Go.RowKit
attribute [local go_sem ↓] Go.wp_at_zero Go.wp_at_succ

/-- What was gathered so far: names n, elements x, all of its own. -/
structure GatP (w : World) (n : List ByteArray) (x : List Vl) (nA : Option Addr) (nc : Nat) (eA : Option Addr) (ec : Nat) (xs : List (List Value)) (f : List Nat) (wr : World) : Prop where
  hn : wr.ownsRow (w.heap.size + 1) 9 1 (.slice nA n.length nc) n.length (strs n)
  he : wr.ownsRow (w.heap.size + 1) 26 4 (.slice eA x.length ec) x.length (List.flatten xs)
  hx : VOwAll wr x xs f
  hf : ∀ b ∈ f, (Value.slice nA n.length nc).ownBlock ≠ some b ∧ (Value.slice eA x.length ec).ownBlock ≠ some b
  hg : w.grownBy wr none
  hr : wr.heap[w.heap.size]? = some (.cells #[.int .i64 0, .slice none 0 0, .slice none 0 0, .slice none 0 0] 26 (0, 0))
  hl : ∀ b ∈ f, w.heap.size + 1 ≤ b
theorem GatP.keep {w wr w2 : World} {n : List ByteArray} {x : List Vl} {nA : Option Addr} {nc : Nat} {eA : Option Addr} {ec : Nat} {xs : List (List Value)} {f : List Nat} (h : GatP w n x nA nc eA ec xs f wr) (hg : wr.grownBy w2 none) : GatP w n x nA nc eA ec xs f w2 :=
  ⟨h.hn.kept hg (by cases (Value.slice nA n.length nc).ownBlock <;> simp), h.he.kept hg (by cases (Value.slice eA x.length ec).ownBlock <;> simp), VOwAll.keep _ _ _ h.hx fun b hb => hg.block b (VOwAll.lt _ _ _ h.hx b hb) (by simp), h.hf, gb_trans h.hg hg (.inl rfl), (hg.block _ (blk_lt h.hr) (by simp)).trans h.hr, h.hl⟩
theorem GatP.elem {w wr w6 w7 w8 : World} {n : List ByteArray} {x : List Vl} {nA : Option Addr} {nc : Nat} {eA : Option Addr} {ec : Nat} {xs : List (List Value)} {f f6 : List Nat} {y : Vl} {c : List Value} {E2 : Option Addr} {c2 : Nat} (h : GatP w n x nA nc eA ec xs f wr)
    (h6 : wr.grownBy w6 none) (hy : VOw w6 y c f6) (hn6 : New wr w6 f6) (h7 : w6.grownBy w7 none)
    (ho : w8.ownsRow (w.heap.size + 1) 26 4 (.slice E2 (x.length + 1) c2) (x.length + 1) (List.flatten xs ++ c)) (hg : w7.grownBy w8 (Value.slice eA x.length ec).ownBlock)
    (hl : (Value.slice E2 (x.length + 1) c2).ownBlock = (Value.slice eA x.length ec).ownBlock ∨ (Value.slice E2 (x.length + 1) c2).ownBlock = some w7.heap.size) : GatP w n (x ++ [y]) nA nc E2 c2 (xs ++ [c]) (f ++ f6) w8 := by
  obtain ⟨h1, h2, h3, h4, h5, h9, h10⟩ := (h.keep h6).keep h7
  have s6 := h6.size
  have s7 := h7.size
  have hy7 : VOw w7 y c f6 := hy.gb h7
  have hnb : ∀ b ∈ f6, (Value.slice nA n.length nc).ownBlock ≠ some b ∧ (Value.slice eA x.length ec).ownBlock ≠ some b := fun b hb => ⟨fun e => by have := (h.hn.lt b e).2; have := hn6.2 b hb; omega, fun e => by have := (h.he.lt b e).2; have := hn6.2 b hb; omega⟩
  have hlt : ∀ b ∈ f ++ f6, b < w7.heap.size := fun b hb => by
    rcases List.mem_append.1 hb with hb | hb
    · exact VOwAll.lt _ _ _ h3 b hb
    · exact VOw.lt _ _ _ hy7 b hb
  have hboth : ∀ b ∈ f ++ f6, (Value.slice nA n.length nc).ownBlock ≠ some b ∧ (Value.slice eA x.length ec).ownBlock ≠ some b := fun b hb => by
    rcases List.mem_append.1 hb with hb | hb
    · exact h4 b hb
    · exact hnb b hb
  refine ⟨h1.kept hg (rows_apart h1 h2 (by decide)), ?_, ?_, fun b hb => ⟨(hboth b hb).1, ?_⟩, ?_, ?_, ?_⟩
  · rw [List.length_append, List.flatten_append]
    simpa using ho
  · refine VOwAll.snoc _ _ _ (VOwAll.keep _ _ _ h3 fun b hb => hg.block b (VOwAll.lt _ _ _ h3 b hb) (fun e => (h4 b hb).2 e.symm)) (VOw.keep _ _ _ hy7 fun b hb => hg.block b (VOw.lt _ _ _ hy7 b hb) (fun e => (hnb b hb).2 e.symm))
  · rw [List.length_append, List.length_singleton]
    rcases hl with e | e
    · rw [e]; exact (hboth b hb).2
    · rw [e]
      intro e'
      injection e' with e'
      have := hlt b hb
      omega
  · exact gb_trans h5 hg (match hq : (Value.slice eA x.length ec).ownBlock with | none => .inr (.inl rfl) | some g => .inr (.inr ⟨g, rfl, by have := (h2.lt g hq).1; omega⟩))
  · exact (hg.block _ (blk_lt h9) (fun e => by have := (h2.lt _ e.symm).1; omega)).trans h9
  · intro b hb
    rcases List.mem_append.1 hb with hb | hb
    · exact h10 b hb
    · have := hn6.2 b hb
      have := blk_lt h.hr
      omega
set_option maxHeartbeats 4000000 in
set_option maxRecDepth 100000 in
theorem rAtomN_any (t n : Int) (ht : t = 1 ∨ t = 2 ∨ t = 4 ∨ t = 5) (w : World) : Calls Tryz.prog 25 #[.int .i64 t, .int .i64 n] w (NewV (.mk (-t) [n] [] []) w) := by
  rcases ht with rfl | rfl | rfl | rfl
  · have HA : ∀ w, Calls Tryz.prog 58 #[.int .i64 1] w fun e w' => e = .returned (.int .i64 1) ∧ w = w' := fun w => rAbs_any 1 w
    have HA := hide HA
    go_enter Tryz.func25, Tryz.ntmps25
    go_wp2_with (go_at_call 58; refine (HA.out _).mono ?_; rintro e w1 ⟨rfl, rfl⟩)
    have h := newV_atom w (-1) n (.cells #[.int .i64 (-1), .slice (some ⟨w.heap.size + 1, 0, none⟩) 1 1, .slice none 0 0, .slice none 0 0] 26)
    refine bodyPost_ret (v := .agg #[.int .i64 (-1), .slice (some ⟨w.heap.size + 1, 0, none⟩) 1 1, .slice none 0 0, .slice none 0 0]) (by simp [results, Tryz.results25, go_sem]) rfl h
  · exact rAtomI_any n w
  · have HA : ∀ w, Calls Tryz.prog 58 #[.int .i64 4] w fun e w' => e = .returned (.int .i64 4) ∧ w = w' := fun w => rAbs_any 4 w
    have HA := hide HA
    go_enter Tryz.func25, Tryz.ntmps25
    go_wp2_with (go_at_call 58; refine (HA.out _).mono ?_; rintro e w1 ⟨rfl, rfl⟩)
    have h := newV_atom w (-4) n (.cells #[.int .i64 (-4), .slice (some ⟨w.heap.size + 1, 0, none⟩) 1 1, .slice none 0 0, .slice none 0 0] 26)
    refine bodyPost_ret (v := .agg #[.int .i64 (-4), .slice (some ⟨w.heap.size + 1, 0, none⟩) 1 1, .slice none 0 0, .slice none 0 0]) (by simp [results, Tryz.results25, go_sem]) rfl h
  · have HA : ∀ w, Calls Tryz.prog 58 #[.int .i64 5] w fun e w' => e = .returned (.int .i64 5) ∧ w = w' := fun w => rAbs_any 5 w
    have HA := hide HA
    go_enter Tryz.func25, Tryz.ntmps25
    go_wp2_with (go_at_call 58; refine (HA.out _).mono ?_; rintro e w1 ⟨rfl, rfl⟩)
    have h := newV_atom w (-5) n (.cells #[.int .i64 (-5), .slice (some ⟨w.heap.size + 1, 0, none⟩) 1 1, .slice none 0 0, .slice none 0 0] 26)
    refine bodyPost_ret (v := .agg #[.int .i64 (-5), .slice (some ⟨w.heap.size + 1, 0, none⟩) 1 1, .slice none 0 0, .slice none 0 0]) (by simp [results, Tryz.results25, go_sem]) rfl h
/-- What the document's At begins with. -/
structure AtB (w wa : World) (v : Vl) (nA : Option Addr) (nc : Nat) (sA : Option Addr) (sc : Nat) (lA : Option Addr) (lc : Nat) : Prop where
  c : C4 wa w.heap.size 0 (.int .i64 v.t) (.slice nA v.n.length nc) (.slice sA v.s.length sc) (.slice lA v.l.length lc)
  r : wa.heap[w.heap.size + 1]? = some (.cells zero4 26 (0, 0))
  g : w.grownBy wa none
  s : wa.heap.size = w.heap.size + 2
theorem AtB.mk_ (w : World) (v : Vl) (nA : Option Addr) (nc : Nat) (sA : Option Addr) (sc : Nat) (lA : Option Addr) (lc : Nat) :
    AtB w ((w.alloc (.cells #[.int .i64 v.t, .slice nA v.n.length nc, .slice sA v.s.length sc, .slice lA v.l.length lc] 26)).alloc (.cells #[.int .i64 0, .slice none 0 0, .slice none 0 0, .slice none 0 0] 26)) v nA nc sA sc lA lc :=
  ⟨(C4.box w _ _ _ _ _).gb (gb_alloc (gb_refl _ none) _), alloc2_blk w _ _, gb_alloc (gb_alloc (gb_refl w none) _) _, by simp⟩
set_option maxHeartbeats 8000000 in
set_option maxRecDepth 100000 in
theorem rAt_out (v : Vl) (i : Int) (w : World) (B : Nat) (nA : Option Addr) (nc : Nat) (sA : Option Addr) (sc : Nat) (lA : Option Addr) (lc : Nat) (hi : i < 0 ∨ (v.count : Int) ≤ i) (ht : v.tot ≤ 1200000000) (hB : B ≤ w.heap.size) (h : VB w B v nA nc sA sc lA lc) :
    Calls Tryz.prog 49 #[.agg #[.int .i64 v.t, .slice nA v.n.length nc, .slice sA v.s.length sc, .slice lA v.l.length lc], .int .i64 i] w (ErrV 33 w) := by
  obtain ⟨wa, hwa⟩ : ∃ wa, wa = (w.alloc (.cells #[.int .i64 v.t, .slice nA v.n.length nc, .slice sA v.s.length sc, .slice lA v.l.length lc] 26)).alloc (.cells #[.int .i64 0, .slice none 0 0, .slice none 0 0, .slice none 0 0] 26) := ⟨_, rfl⟩
  obtain ⟨hc, hr, hg, hs⟩ := AtB.mk_ w v nA nc sA sc lA lc
  rw [← hwa] at hc hr hg hs
  obtain ⟨b0, b1, b2, b3⟩ := hc
  have HCT := hide (rCount_any v wa B nA nc sA sc lA lc ht (Nat.le_trans hB hg.size) (h.gb hg hB))
  have HG := hide hg
  have HR := hide hr
  have HWE := hide hwa
  have HS := hide hs
  by_cases h0 : i < 0
  · clear h hg hwa hr hs ht hB hi HCT b0 b1 b2 b3
    go_enter Tryz.func49, Tryz.ntmps49
    go_wp2_with fail
    refine bodyPost_ret (v := .tuple #[.agg #[.int .i64 0, .slice none 0 0, .slice none 0 0, .slice none 0 0], .int .i64 33]) (by simp [results, Tryz.results49, go_sem]) rfl ⟨rfl, ?_⟩
    exact gb_alloc (gb_alloc (gb_refl w none) _) _
  · have h1 : (v.count : Int) ≤ i := by omega
    have h2 : 0 ≤ i := by omega
    clear h hg hwa hr hs ht hB hi h0
    generalize v.count = n at *
    go_enter Tryz.func49, Tryz.ntmps49
    go_wp2_with fail
    rw [← HWE.out]
    go_wp2_with (go_at_call 30; refine HCT.out.mono ?_; rintro e w1 ⟨rfl, hg1⟩; have hr1 := (hg1.block _ (blk_lt HR.out) (by simp)).trans HR.out; have z0 := blk_frozen hr1 0; have z1 := blk_frozen hr1 1; have z2 := blk_frozen hr1 2; have z3 := blk_frozen hr1 3; have p0 : w1.cell? ⟨w.heap.size + 1, 0, none⟩ = some (.int .i64 0) := (by { rw [blk_cell hr1]; rfl }); have p1 : w1.cell? ⟨w.heap.size + 1, 1, none⟩ = some (.slice none 0 0) := (by { rw [blk_cell hr1]; rfl }); have p2 : w1.cell? ⟨w.heap.size + 1, 2, none⟩ = some (.slice none 0 0) := (by { rw [blk_cell hr1]; rfl }); have p3 : w1.cell? ⟨w.heap.size + 1, 3, none⟩ = some (.slice none 0 0) := (by { rw [blk_cell hr1]; rfl }); have HR1 := hide hr1; have HG1 := hide hg1; clear hr1 hg1)
    obtain ⟨m0, m1, m2, m3⟩ := C4.put HR1.out (.int .i64 0) (.slice none 0 0) (.slice none 0 0) (.slice none 0 0)
    simp only [put4, Nat.zero_add] at m0 m1 m2 m3
    refine bodyPost_ret (v := .tuple #[.agg #[.int .i64 0, .slice none 0 0, .slice none 0 0, .slice none 0 0], .int .i64 33]) (by simp [results, Tryz.results49, go_sem, m0, m1, m2, m3]) rfl ⟨rfl, ?_⟩
    exact put4_to (gb_trans HG.out HG1.out (.inl rfl)) (by omega)
set_option maxHeartbeats 8000000 in
set_option maxRecDepth 100000 in
theorem rAt_sym (v : Vl) (k : Nat) (w : World) (B : Nat) (nA : Option Addr) (nc : Nat) (sA : Option Addr) (sc : Nat) (lA : Option Addr) (lc : Nat) (hty : v.t = 3) (hk : k < v.s.length) (ht : v.tot ≤ 500000000) (hB : B ≤ w.heap.size) (h : VB w B v nA nc sA sc lA lc) :
    Calls Tryz.prog 49 #[.agg #[.int .i64 v.t, .slice nA v.n.length nc, .slice sA v.s.length sc, .slice lA v.l.length lc], .int .i64 (k : Int)] w (NewE (.mk (-3) [] [v.s[k]] []) w) := by
  obtain ⟨wa, hwa⟩ : ∃ wa, wa = (w.alloc (.cells #[.int .i64 v.t, .slice nA v.n.length nc, .slice sA v.s.length sc, .slice lA v.l.length lc] 26)).alloc (.cells #[.int .i64 0, .slice none 0 0, .slice none 0 0, .slice none 0 0] 26) := ⟨_, rfl⟩
  obtain ⟨hc, hr, hg, hs⟩ := AtB.mk_ w v nA nc sA sc lA lc
  rw [← hwa] at hc hr hg hs
  have HC := hide hc
  obtain ⟨b0, b1, b2, b3⟩ := hc
  have hv := h.gb hg hB
  have hBa := Nat.le_trans hB hg.size
  have HV := hide hv
  have HBA := hide hBa
  have HCT := hide (rCount_any v wa B nA nc sA sc lA lc (by omega) hBa hv)
  have HG := hide hg
  have HR := hide hr
  have HWE := hide hwa
  have HS := hide hs
  have HT := hide ht
  have h0 : 0 ≤ (k : Int) := by omega
  obtain ⟨l1, l2, l3, l4⟩ := Vl.lens v (by omega)
  rw [count_sym hty] at HCT
  obtain ⟨a, ha, _, hcl⟩ := hv.s.str hk
  subst ha
  have hk1 : ¬ (v.s.length : Int) ≤ (k : Int) := by omega
  obtain ⟨x, hx⟩ : ∃ x, x = v.s[k] := ⟨_, rfl⟩
  rw [← hx] at hcl ⊢
  clear hx
  obtain ⟨X, hX⟩ : ∃ X, X = Vl.mk (-3) [] [x] [] := ⟨_, rfl⟩
  have HSY := hide (fun w2 => rSymbol_any x w2)
  rw [← hX] at HSY ⊢
  clear hX
  clear h hg hwa hr hs ht hB hv hBa HV
  generalize v.t = t at *
  subst hty
  go_enter Tryz.func49, Tryz.ntmps49
  go_wp2_with fail
  rw [← HWE.out]
  go_wp2_with (first
    | (go_at_call 30; refine HCT.out.mono ?_; rintro e w1 ⟨rfl, hg1⟩; have HG1 := hide hg1; have HGS1 := hide hg1; have b0 := cell_gb b0 hg1; have b1 := cell_gb b1 hg1; have b2 := cell_gb b2 hg1; have b3 := cell_gb b3 hg1; have hcl := cell_gb hcl hg1; clear hg1)
    | (go_at_call 72; refine (HSY.out _).mono ?_; rintro e w2 ⟨xA, xc, yA, yc, zA, zc, f, rfl, ho, hn, hg2⟩; have hrr := ((gb_trans HG1.out hg2 (.inl rfl)).block _ (by have := HS.out; omega) (by simp)).trans HR.out; have HRR := hide hrr; have z0 := blk_frozen hrr 0; have z1 := blk_frozen hrr 1; have z2 := blk_frozen hrr 2; have z3 := blk_frozen hrr 3; have p0 : w2.cell? ⟨w.heap.size + 1, 0, none⟩ = some (.int .i64 0) := (by { rw [blk_cell hrr]; rfl }); have p1 : w2.cell? ⟨w.heap.size + 1, 1, none⟩ = some (.slice none 0 0) := (by { rw [blk_cell hrr]; rfl }); have p2 : w2.cell? ⟨w.heap.size + 1, 2, none⟩ = some (.slice none 0 0) := (by { rw [blk_cell hrr]; rfl }); have p3 : w2.cell? ⟨w.heap.size + 1, 3, none⟩ = some (.slice none 0 0) := (by { rw [blk_cell hrr]; rfl }); have HF := hide (NewE.fin (x := X) ho (hn.less HG1.out.size) HG.out (gb_trans HG1.out hg2 (.inl rfl)) (Nat.le_succ w.heap.size) (by have := HS.out; omega)); clear ho hn hg2 hrr))
  obtain ⟨m0, m1, m2, m3⟩ := C4.put HRR.out (.int .i64 X.t) (.slice xA X.n.length xc) (.slice yA X.s.length yc) (.slice zA X.l.length zc)
  simp only [put4, Nat.zero_add] at m0 m1 m2 m3
  refine bodyPost_ret (v := .tuple #[.agg #[.int .i64 X.t, .slice xA X.n.length xc, .slice yA X.s.length yc, .slice zA X.l.length zc], .int .i64 0]) (by simp [results, Tryz.results49, go_sem, m0, m1, m2, m3]) rfl ?_
  exact HF.out
set_option maxHeartbeats 8000000 in
set_option maxRecDepth 100000 in
theorem rAt_lst (v : Vl) (k : Nat) (w : World) (B : Nat) (nA : Option Addr) (nc : Nat) (sA : Option Addr) (sc : Nat) (lA : Option Addr) (lc : Nat) (hty : v.t = 0) (hk : k < v.l.length) (ht : v.tot ≤ 500000000) (hB : B ≤ w.heap.size) (h : VB w B v nA nc sA sc lA lc) :
    Calls Tryz.prog 49 #[.agg #[.int .i64 v.t, .slice nA v.n.length nc, .slice sA v.s.length sc, .slice lA v.l.length lc], .int .i64 (k : Int)] w (NewE (v.l[k]) w) := by
  obtain ⟨wa, hwa⟩ : ∃ wa, wa = (w.alloc (.cells #[.int .i64 v.t, .slice nA v.n.length nc, .slice sA v.s.length sc, .slice lA v.l.length lc] 26)).alloc (.cells #[.int .i64 0, .slice none 0 0, .slice none 0 0, .slice none 0 0] 26) := ⟨_, rfl⟩
  obtain ⟨hc, hr, hg, hs⟩ := AtB.mk_ w v nA nc sA sc lA lc
  rw [← hwa] at hc hr hg hs
  have HC := hide hc
  obtain ⟨b0, b1, b2, b3⟩ := hc
  have hv := h.gb hg hB
  have hBa := Nat.le_trans hB hg.size
  have HV := hide hv
  have HBA := hide hBa
  have HCT := hide (rCount_any v wa B nA nc sA sc lA lc (by omega) hBa hv)
  have HG := hide hg
  have HR := hide hr
  have HWE := hide hwa
  have HS := hide hs
  have HT := hide ht
  have h0 : 0 ≤ (k : Int) := by omega
  obtain ⟨l1, l2, l3, l4⟩ := Vl.lens v (by omega)
  rw [count_lst hty] at HCT
  obtain ⟨q, o, xA1, xc1, yA1, yc1, zA1, zc1, rfl, hqB, hc4', hvb'⟩ := hv.l.at_ hk
  have hk1 : ¬ (v.l.length : Int) ≤ (k : Int) := by omega
  obtain ⟨y, hy⟩ : ∃ y, y = v.l[k] := ⟨_, rfl⟩
  have hc4 : C4 wa q (o + k * 4) (.int .i64 y.t) (.slice xA1 y.n.length xc1) (.slice yA1 y.s.length yc1) (.slice zA1 y.l.length zc1) := by subst hy; exact hc4'
  have hvb : VB wa B y xA1 xc1 yA1 yc1 zA1 zc1 := by subst hy; exact hvb'
  have hyt : y.tot ≤ 1200000000 := by subst hy; have h1 := Vl.tot_mem (List.getElem_mem hk); have h2 := Vl.tot_def v; omega
  rw [show (v.l[k]) = y from hy.symm]
  clear hy hc4' hvb'
  have HVE := hide (fun w2 => rVec_any v.t (.slice nA v.n.length nc) (.slice sA v.s.length sc) (.slice (some ⟨q, o, none⟩) v.l.length lc) w2)
  rw [hty, show rVec 0 = false from rfl] at HVE
  have HCL := hide (fun w2 (k : wa.grownBy w2 none) => rClone_d y.depth y w2 B xA1 xc1 yA1 yc1 zA1 zc1 (Nat.le_refl _) hyt (Nat.le_trans hBa k.size) (hvb.gb k hBa))
  obtain ⟨d0, d1, d2, d3⟩ := hc4
  clear h hg hwa hr hs ht hB hv hBa HV hvb hyt hqB
  generalize v.t = t at *
  subst hty
  go_enter Tryz.func49, Tryz.ntmps49
  go_wp2_with fail
  rw [← HWE.out]
  go_wp2_with (first
    | (go_at_call 30; refine HCT.out.mono ?_; rintro e w1 ⟨rfl, hg1⟩; have HG1 := hide hg1; have HGS1 := hide hg1; have b0 := cell_gb b0 hg1; have b1 := cell_gb b1 hg1; have b2 := cell_gb b2 hg1; have b3 := cell_gb b3 hg1; have d0 := cell_gb d0 hg1; have d1 := cell_gb d1 hg1; have d2 := cell_gb d2 hg1; have d3 := cell_gb d3 hg1; clear hg1)
    | (go_at_call 60; refine (HVE.out _).mono ?_; rintro e w2 ⟨rfl, hg2⟩; have HG2 := hide (gb_trans HG1.out hg2 (.inl rfl)); have b0 := cell_gb b0 hg2; have b1 := cell_gb b1 hg2; have b2 := cell_gb b2 hg2; have b3 := cell_gb b3 hg2; have d0 := cell_gb d0 hg2; have d1 := cell_gb d1 hg2; have d2 := cell_gb d2 hg2; have d3 := cell_gb d3 hg2; clear hg2)
    | (go_at_call 8; refine (HCL.out _ HG2.out).mono ?_; rintro e w3 ⟨xA, xc, yA, yc, zA, zc, f, rfl, ho, hn, hg3⟩; have hrr := ((gb_trans HG2.out hg3 (.inl rfl)).block _ (by have := HS.out; omega) (by simp)).trans HR.out; have HRR := hide hrr; have z0 := blk_frozen hrr 0; have z1 := blk_frozen hrr 1; have z2 := blk_frozen hrr 2; have z3 := blk_frozen hrr 3; have p0 : w3.cell? ⟨w.heap.size + 1, 0, none⟩ = some (.int .i64 0) := (by { rw [blk_cell hrr]; rfl }); have p1 : w3.cell? ⟨w.heap.size + 1, 1, none⟩ = some (.slice none 0 0) := (by { rw [blk_cell hrr]; rfl }); have p2 : w3.cell? ⟨w.heap.size + 1, 2, none⟩ = some (.slice none 0 0) := (by { rw [blk_cell hrr]; rfl }); have p3 : w3.cell? ⟨w.heap.size + 1, 3, none⟩ = some (.slice none 0 0) := (by { rw [blk_cell hrr]; rfl }); have HF := hide (NewE.fin (x := y) ho (hn.less HG2.out.size) HG.out (gb_trans HG2.out hg3 (.inl rfl)) (Nat.le_succ w.heap.size) (by have := HS.out; omega)); clear ho hn hg3 hrr))
  obtain ⟨m0, m1, m2, m3⟩ := C4.put HRR.out (.int .i64 y.t) (.slice xA y.n.length xc) (.slice yA y.s.length yc) (.slice zA y.l.length zc)
  simp only [put4, Nat.zero_add] at m0 m1 m2 m3
  refine bodyPost_ret (v := .tuple #[.agg #[.int .i64 y.t, .slice xA y.n.length xc, .slice yA y.s.length yc, .slice zA y.l.length zc], .int .i64 0]) (by simp [results, Tryz.results49, go_sem, m0, m1, m2, m3]) rfl ?_
  exact HF.out
set_option maxHeartbeats 8000000 in
set_option maxRecDepth 100000 in
theorem rAt_vec (v : Vl) (k : Nat) (w : World) (B : Nat) (nA : Option Addr) (nc : Nat) (sA : Option Addr) (sc : Nat) (lA : Option Addr) (lc : Nat) (hty : v.t = 1 ∨ v.t = 2 ∨ v.t = 4 ∨ v.t = 5) (hk : k < v.n.length) (ht : v.tot ≤ 500000000) (hB : B ≤ w.heap.size) (h : VB w B v nA nc sA sc lA lc) :
    Calls Tryz.prog 49 #[.agg #[.int .i64 v.t, .slice nA v.n.length nc, .slice sA v.s.length sc, .slice lA v.l.length lc], .int .i64 (k : Int)] w (NewE (.mk (-v.t) [v.n[k]] [] []) w) := by
  obtain ⟨wa, hwa⟩ : ∃ wa, wa = (w.alloc (.cells #[.int .i64 v.t, .slice nA v.n.length nc, .slice sA v.s.length sc, .slice lA v.l.length lc] 26)).alloc (.cells #[.int .i64 0, .slice none 0 0, .slice none 0 0, .slice none 0 0] 26) := ⟨_, rfl⟩
  obtain ⟨hc, hr, hg, hs⟩ := AtB.mk_ w v nA nc sA sc lA lc
  rw [← hwa] at hc hr hg hs
  have HC := hide hc
  obtain ⟨b0, b1, b2, b3⟩ := hc
  have hv := h.gb hg hB
  have hBa := Nat.le_trans hB hg.size
  have HV := hide hv
  have HBA := hide hBa
  have HCT := hide (rCount_any v wa B nA nc sA sc lA lc (by omega) hBa hv)
  have HG := hide hg
  have HR := hide hr
  have HWE := hide hwa
  have HS := hide hs
  have HT := hide ht
  have h0 : 0 ≤ (k : Int) := by omega
  obtain ⟨l1, l2, l3, l4⟩ := Vl.lens v (by omega)
  rw [count_num hty] at HCT
  obtain ⟨a, ha, _, hcl⟩ := hv.n.i64 hk
  subst ha
  have hk1 : ¬ (v.n.length : Int) ≤ (k : Int) := by omega
  obtain ⟨x, hx⟩ : ∃ x, x = v.n[k] := ⟨_, rfl⟩
  rw [← hx] at hcl ⊢
  clear hx
  have HVE := hide (fun w2 => rVec_any v.t (.slice (some a) v.n.length nc) (.slice sA v.s.length sc) (.slice lA v.l.length lc) w2)
  rw [show rVec v.t = true by unfold rVec; rw [Bool.and_eq_true, decide_eq_true_eq, decide_eq_true_eq]; omega] at HVE
  obtain ⟨X, hX⟩ : ∃ X, X = Vl.mk (-v.t) [x] [] [] := ⟨_, rfl⟩
  have HAN := hide (fun w2 => rAtomN_any v.t x hty w2)
  rw [← hX] at HAN ⊢
  clear hX
  have e3 : (v.t == 3) = false := int_beq_f (by omega)
  clear h hg hwa hr hs ht hB hv hBa HV hty
  generalize v.t = t at *
  go_enter Tryz.func49, Tryz.ntmps49
  go_wp2_with fail
  rw [← HWE.out]
  go_wp2_with (first
    | (go_at_call 30; refine HCT.out.mono ?_; rintro e w1 ⟨rfl, hg1⟩; have HG1 := hide hg1; have HGS1 := hide hg1; have b0 := cell_gb b0 hg1; have b1 := cell_gb b1 hg1; have b2 := cell_gb b2 hg1; have b3 := cell_gb b3 hg1; have hcl := cell_gb hcl hg1; clear hg1)
    | (go_at_call 60; refine (HVE.out _).mono ?_; rintro e w2 ⟨rfl, hg2⟩; have HG2 := hide (gb_trans HG1.out hg2 (.inl rfl)); have b0 := cell_gb b0 hg2; have b1 := cell_gb b1 hg2; have b2 := cell_gb b2 hg2; have b3 := cell_gb b3 hg2; have hcl := cell_gb hcl hg2; clear hg2))
  go_region_law
    ((go_simp; go_at_call 25; refine (HAN.out _).mono ?_; rintro e w3 ⟨xA, xc, yA, yc, zA, zc, f, rfl, ho, hn, hg3⟩; have hrr := ((gb_trans (gb_drew HG2.out) hg3 (.inl rfl)).block _ (by have := HS.out; omega) (by simp)).trans HR.out; have HRR := hide hrr; have z0 := blk_frozen hrr 0; have z1 := blk_frozen hrr 1; have z2 := blk_frozen hrr 2; have z3 := blk_frozen hrr 3; have p0 : w3.cell? ⟨w.heap.size + 1, 0, none⟩ = some (.int .i64 0) := (by { rw [blk_cell hrr]; rfl }); have p1 : w3.cell? ⟨w.heap.size + 1, 1, none⟩ = some (.slice none 0 0) := (by { rw [blk_cell hrr]; rfl }); have p2 : w3.cell? ⟨w.heap.size + 1, 2, none⟩ = some (.slice none 0 0) := (by { rw [blk_cell hrr]; rfl }); have p3 : w3.cell? ⟨w.heap.size + 1, 3, none⟩ = some (.slice none 0 0) := (by { rw [blk_cell hrr]; rfl }); have HF := hide (NewE.fin (x := X) ho (hn.less (gb_drew HG2.out).size) HG.out (gb_trans (gb_drew HG2.out) hg3 (.inl rfl)) (Nat.le_succ w.heap.size) (by have := HS.out; omega)); clear ho hn hg3 hrr))
  all_goals
    go_wp2_with fail
    obtain ⟨m0, m1, m2, m3⟩ := C4.put HRR.out (.int .i64 X.t) (.slice xA X.n.length xc) (.slice yA X.s.length yc) (.slice zA X.l.length zc)
    simp only [put4, Nat.zero_add] at m0 m1 m2 m3
    refine bodyPost_ret (v := .tuple #[.agg #[.int .i64 X.t, .slice xA X.n.length xc, .slice yA X.s.length yc, .slice zA X.l.length zc], .int .i64 0]) (by simp [results, Tryz.results49, go_sem, m0, m1, m2, m3]) rfl ?_
    exact HF.out
end Go.Proofs.YtkbflmaflokpdaaGreat

namespace Go.Proofs.YtkbflmaflokpdaaGreat
open Go.RowKit

/-- A place, or -1 where there is none. -/
def nrm (c : Nat) (p : Int) : Int := if 0 ≤ p ∧ p < (c : Int) then p else -1
theorem nrm_in {c : Nat} {p : Int} (h : 0 ≤ p ∧ p < (c : Int)) : nrm c p = p := by unfold nrm; rw [if_pos h]
theorem nrm_out {c : Nat} {p : Int} (h : ¬ (0 ≤ p ∧ p < (c : Int))) : nrm c p = -1 := by unfold nrm; rw [if_neg h]
theorem pickI_nrm (l : List Int) (d p : Int) : pickI l d (nrm l.length p) = pickI l d p := by
  by_cases h : 0 ≤ p ∧ p < (l.length : Int)
  · rw [nrm_in h]
  · rw [nrm_out h]
    unfold pickI
    rw [if_neg h, if_neg (by omega)]
theorem pickS_nrm (l : List ByteArray) (d : ByteArray) (p : Int) : pickS l d (nrm l.length p) = pickS l d p := by
  by_cases h : 0 ≤ p ∧ p < (l.length : Int)
  · rw [nrm_in h]
  · rw [nrm_out h]
    unfold pickS
    rw [if_neg h, if_neg (by omega)]
theorem pickV_nrm (l : List Vl) (d : Vl) (p : Int) : pickV l d (nrm l.length p) = pickV l d p := by
  by_cases h : 0 ≤ p ∧ p < (l.length : Int)
  · rw [nrm_in h]
  · rw [nrm_out h]
    unfold pickV
    rw [if_neg h, if_neg (by omega)]
theorem map_ext' {α β : Type} {f g : α → β} (l : List α) (h : ∀ x, f x = g x) : l.map f = l.map g := List.map_congr_left fun x _ => h x
theorem idx_nrm {v : Vl} (h : seqT v.t) (ps : List Int) : idxV v (ps.map (nrm v.count)) = idxV v ps := by
  unfold idxV
  rcases h with h | h | h
  · have h0 : v.t ≠ 0 := by unfold numT at h; omega
    have h3 : v.t ≠ 3 := by unfold numT at h; omega
    rw [count_num h, if_neg h0, if_neg h3, if_neg h0, if_neg h3, List.map_map]
    exact congrArg (fun l => Vl.mk v.t l [] []) (map_ext' ps fun p => pickI_nrm v.n (nulT v.t) p)
  · rw [count_sym h, if_neg (by omega), if_pos h, if_neg (by omega), if_pos h, List.map_map]
    exact congrArg (fun l => Vl.mk 3 [] l []) (map_ext' ps fun p => pickS_nrm v.s ⟨#[]⟩ p)
  · rw [count_lst h, if_pos h, if_pos h, List.map_map]
    exact congrArg ofV (map_ext' ps fun p => pickV_nrm v.l emp p)
/-- What stands at a place; emp where nothing does. -/
def pickE (v : Vl) (p : Int) : Vl := if 0 ≤ p ∧ p < (v.count : Int) then elemV v p.toNat else emp
def errE (v : Vl) (p : Int) : Int := if 0 ≤ p ∧ p < (v.count : Int) then 0 else 33
theorem pickE_lst {v : Vl} (h : v.t = 0) (p : Int) : pickE v p = pickV v.l emp p := by
  unfold pickE pickV
  rw [count_lst h]
  by_cases hp : 0 ≤ p ∧ p < (v.l.length : Int)
  · rw [if_pos hp, if_pos hp, elem_lst h, getD_at (by omega), getD_at (by omega)]
  · rw [if_neg hp, if_neg hp]
/-- The atom that the document puts for a place of a vector. -/
def elN (v : Vl) (p : Int) : Vl := if v.t = 3 then .mk (-3) [] [pickS v.s ⟨#[]⟩ p] [] else .mk (-v.t) [pickI v.n (nulT v.t) p] [] []
theorem elN_in {v : Vl} (h : numT v.t ∨ v.t = 3) {k : Nat} (hk : k < v.count) : elN v (k : Int) = elemV v k := by
  unfold elN
  rcases h with h | h
  · have h3 : v.t ≠ 3 := by unfold numT at h; omega
    have hn : k < v.n.length := by rw [count_num h] at hk; exact hk
    rw [if_neg h3, elem_num h]
    unfold pickI
    rw [if_pos ⟨by omega, by omega⟩]
    rfl
  · have hs : k < v.s.length := by rw [count_sym h] at hk; exact hk
    rw [if_pos h, elem_sym h]
    unfold pickS
    rw [if_pos ⟨by omega, by omega⟩]
    rfl
/-- The null of a vector's type. -/
def nullE (t : Int) : Vl := if t = 3 then .mk (-3) [] [⟨#[]⟩] [] else .mk (-t) [nulT t] [] []
theorem elN_out {v : Vl} (h : numT v.t ∨ v.t = 3) {p : Int} (hp : ¬ (0 ≤ p ∧ p < (v.count : Int))) : elN v p = nullE v.t := by
  unfold elN nullE
  rcases h with h | h
  · have h3 : v.t ≠ 3 := by unfold numT at h; omega
    rw [count_num h] at hp
    rw [if_neg h3, if_neg h3]
    unfold pickI
    rw [if_neg hp]
  · rw [count_sym h] at hp
    rw [if_pos h, if_pos h]
    unfold pickS
    rw [if_neg hp]
theorem flat_single {α β : Type} (f : α → β) (l : List α) : (l.map fun x => [f x]).flatten = l.map f := by
  induction l with
  | nil => rfl
  | cons a r ih => simp [ih]
theorem flat_no {α β : Type} (l : List α) : (l.map fun _ => ([] : List β)).flatten = [] := by
  induction l with
  | nil => rfl
  | cons a r ih => simp [ih]
theorem idx_elN {v : Vl} (h : numT v.t ∨ v.t = 3) (ps : List Int) : Vl.mk v.t ((ps.map (elN v)).flatMap Vl.n) ((ps.map (elN v)).flatMap Vl.s) [] = idxV v ps := by
  unfold idxV
  rcases h with h | h
  · have h0 : v.t ≠ 0 := by unfold numT at h; omega
    have h3 : v.t ≠ 3 := by unfold numT at h; omega
    rw [if_neg h0, if_neg h3, List.flatMap_def, List.flatMap_def, List.map_map, List.map_map]
    rw [map_ext' (g := fun p => [pickI v.n (nulT v.t) p]) ps (fun p => by simp only [Function.comp, elN, if_neg h3, Vl.n]), map_ext' (g := fun _ => ([] : List ByteArray)) ps (fun p => by simp only [Function.comp, elN, if_neg h3, Vl.s]), flat_single, flat_no]
  · rw [if_neg (by omega), if_pos h, List.flatMap_def, List.flatMap_def, List.map_map, List.map_map]
    rw [map_ext' (g := fun _ => ([] : List Int)) ps (fun p => by simp only [Function.comp, elN, if_pos h, Vl.n]), map_ext' (g := fun p => [pickS v.s ⟨#[]⟩ p]) ps (fun p => by simp only [Function.comp, elN, if_pos h, Vl.s]), flat_single, flat_no, h]
/-- The place that the document takes for i, of c elements. -/
def tkR (c : Nat) (i : Int) : Int := if c = 0 then -1 else if 0 ≤ i then ((i.toNat % c : Nat) : Int) else (((c - (-i).toNat % c) % c : Nat) : Int)
theorem tkR_eq (c : Nat) (i : Int) : tkR c i = nrm c (remI i (c : Int)) := by
  unfold tkR
  by_cases hc : c = 0
  · rw [if_pos hc, nrm_out (by omega)]
  have hc' : (c : Int) ≠ 0 := by omega
  have hcp : 0 < c := by omega
  rw [if_neg hc]
  unfold remI
  rw [if_neg hc']
  unfold rmq
  have hd : decide ((c : Int) < 0) = false := decide_eq_false (by omega)
  by_cases hi : 0 ≤ i
  · obtain ⟨k, rfl⟩ : ∃ k : Nat, i = (k : Int) := ⟨i.toNat, by omega⟩
    have e : (k : Int).tmod (c : Int) = ((k % c : Nat) : Int) := rfl
    have hlt := Nat.mod_lt k hcp
    rw [if_pos hi, e, hd, if_neg (by rw [decide_eq_false (by omega)]; simp), nrm_in (by omega)]
    rfl
  · obtain ⟨k, rfl⟩ : ∃ k : Nat, i = -(k : Int) := ⟨(-i).toNat, by omega⟩
    have e : (-(k : Int)).tmod (c : Int) = -((k % c : Nat) : Int) := by rw [Int.neg_tmod]; rfl
    have hlt := Nat.mod_lt k hcp
    rw [if_neg hi, e, hd, show (- -(k : Int)).toNat = k by omega]
    by_cases h0 : k % c = 0
    · rw [if_neg (by rw [h0]; simp), h0, nrm_in (by omega), Nat.sub_zero, Nat.mod_self]
      rfl
    · rw [if_pos ⟨by omega, by rw [decide_eq_true (by omega)]; rfl⟩, nrm_in (by omega), Nat.mod_eq_of_lt (by omega)]
      omega
theorem take_places (c : Nat) (l : List Int) : l.map (tkR c) = (l.map fun p => remI p (c : Int)).map (nrm c) := by
  rw [List.map_map]
  exact map_ext' l fun p => tkR_eq c p
/-- However often elements are picked, there is only so much. -/
theorem picks_tots (l : List Vl) (N : Nat) (h : ∀ x ∈ l, x.tot ≤ N) (h0 : 1 ≤ N) (ps : List Int) : Vl.tots (ps.map (pickV l emp)) ≤ ps.length * N := by
  induction ps with
  | nil => simp [Vl.tots]
  | cons p r ih =>
    have h1 : (pickV l emp p).tot ≤ N := by
      unfold pickV
      split
      · rename_i hp
        rw [getD_at (by omega)]
        exact h _ (List.getElem_mem _)
      · rw [Vl.tot_def]
        simpa [emp, Vl.n, Vl.s, Vl.l, Vl.chars, Vl.tots] using h0
    rw [List.map_cons, List.length_cons, Nat.add_mul]
    simp only [Vl.tots]
    omega
end Go.Proofs.YtkbflmaflokpdaaGreat

namespace Go.Proofs.YtkbflmaflokpdaaGreat
open Go.RowKit
attribute [local go_sem ↓] Go.wp_at_zero Go.wp_at_succ

theorem vow_emp (w : World) : VOw w emp [.int .i64 0, .slice none 0 0, .slice none 0 0, .slice none 0 0] [] :=
  VOw.mk_ (v := emp) (xs := []) (fn := []) (fs := []) (fl := []) (fp := []) ⟨Nat.le_refl _, Nat.le_refl _, Nat.le_refl _⟩ Own.nil_ Own.nil_ Own.nil_ ⟨rfl, rfl⟩
theorem newV_of_newE {v : Vl} {w w' : World} {X : Value} (h : NewE v w (.returned (.tuple #[X, .int .i64 0])) w') : NewV v w (.returned X) w' := by
  obtain ⟨nA, nc, sA, sc, lA, lc, f, he, h1, h2, h3⟩ := h
  simp only [Ending.returned.injEq, Value.tuple.injEq, Array.mk.injEq, List.cons.injEq, and_true] at he
  exact ⟨nA, nc, sA, sc, lA, lc, f, by rw [he], h1, h2, h3⟩
set_option maxHeartbeats 4000000 in
set_option maxRecDepth 100000 in
theorem rOf_nil (w : World) (A : Option Addr) (c : Nat) : Calls Tryz.prog 50 #[.slice A 0 c] w (NewV (.mk 0 [] [] []) w) := by
  obtain ⟨wa, hwa⟩ : ∃ wa, wa = w.alloc (.cells #[.int .i64 0, .slice none 0 0, .slice none 0 0, .slice none 0 0] 26) := ⟨_, rfl⟩
  have hg : w.grownBy wa none := by rw [hwa]; exact gb_alloc (gb_refl w none) _
  have hr : wa.heap[w.heap.size]? = some (.cells #[.int .i64 0, .slice none 0 0, .slice none 0 0, .slice none 0 0] 26 (0, 0)) := by rw [hwa]; exact heap_alloc_new w _
  have HG := hide hg
  have HR := hide hr
  have HWE := hide hwa
  have HS := hide (show w.heap.size < wa.heap.size from blk_lt hr)
  clear hg hr hwa
  go_enter Tryz.func50, Tryz.ntmps50
  go_wp2_with fail
  rw [← HWE.out]
  go_loopw [3, 4] (fun al i wr => i = .int .i64 0 ∧ al = .bool false ∧ wa.grownBy wr none) (fun _ _ _ => 0)
  case atStart => exact ⟨rfl, rfl, gb_refl wa none⟩
  case round =>
    obtain ⟨rfl, rfl, hgr⟩ := hrel
    have HGR := hide hgr
    clear hgr
    obtain ⟨w5, hw5⟩ : ∃ w5, w5 = wr.alloc (.cells #[.int .i64 0, .slice none 0 0, .slice none 0 0, .slice none 0 0] 26) := ⟨_, rfl⟩
    have hb5 : w5.heap[wr.heap.size]? = some (.cells #[.int .i64 0, .slice none 0 0, .slice none 0 0, .slice none 0 0] 26 (0, 0)) := by rw [hw5]; exact heap_alloc_new wr _
    have HB5 := hide hb5
    have HG5 := hide (show wa.grownBy w5 none by rw [hw5]; exact gb_trans HGR.out (gb_alloc (gb_refl wr none) _) (.inl rfl))
    go_upto_region 9 with fail
    rw [← hw5]
    clear hb5 hw5
    generalize wr.heap.size = g3 at *
    go_wp2_with fail
    go_loopw [6] (fun i wq => i = .int .i64 0 ∧ w5.grownBy wq none) (fun _ _ => 0)
    case atStart => exact ⟨rfl, gb_refl w5 none⟩
    case round =>
      obtain ⟨rfl, hg6⟩ := hrel
      have HG6 := hide (gb_trans HG5.out hg6 (.inl rfl))
      have hrr := blk_keep HR.out HG6.out (by simp)
      have hbb := blk_keep HB5.out hg6 (by simp)
      obtain ⟨k0, k1, k2, k3⟩ : C4 wr g3 0 (.int .i64 0) (.slice none 0 0) (.slice none 0 0) (.slice none 0 0) := ⟨by rw [blk_cell hbb]; rfl, by rw [blk_cell hbb]; rfl, by rw [blk_cell hbb]; rfl, by rw [blk_cell hbb]; rfl⟩
      obtain ⟨x0, x1, x2, x3, p0, p1, p2, p3⟩ := four_cells hrr (i := 0) (by decide)
      have z0 := blk_frozen hrr 0
      have z1 := blk_frozen hrr 1
      have z2 := blk_frozen hrr 2
      have z3 := blk_frozen hrr 3
      have HRR := hide hrr
      clear hrr hbb hg6
      go_wp2_with fail
      obtain ⟨m0, m1, m2, m3⟩ := C4.put HRR.out (.int .i64 0) (.slice none 0 0) (.slice none 0 0) (.slice none 0 0)
      simp only [put4, Nat.zero_add] at m0 m1 m2 m3
      refine bodyPost_ret (v := .agg #[.int .i64 0, .slice none 0 0, .slice none 0 0, .slice none 0 0]) (by simp [results, Tryz.results50, go_sem, m0, m1, m2, m3]) rfl ?_
      exact newV_of_newE (NewE.fin (x := .mk 0 [] [] []) (vow_emp _) (New.nil_ _ _) HG.out HG6.out (Nat.le_refl _) HS.out)
theorem rOfS (l : List Vl) (w : World) (B : Nat) (A : Option Addr) (c : Nat) (ht : Vl.tots l ≤ 1200000000) (hB : B ≤ w.heap.size) (h : RdV w B A l) :
    Calls Tryz.prog 50 #[.slice A l.length c] w (NewV (ofV l) w) := by
  rcases Nat.eq_zero_or_pos l.length with h0 | h0
  · obtain rfl := List.eq_nil_of_length_eq_zero h0
    exact rOf_nil w A c
  · exact rOf_any l w B A c h0 ht hB h

/-- What the document's At answers: a value of its own, and the error. -/
def AtN (y : Vl) (k : Int) (w : World) (e : Ending) (w' : World) : Prop := ∃ nA nc sA sc lA lc f, e = .returned (.tuple #[.agg #[.int .i64 y.t, .slice nA y.n.length nc, .slice sA y.s.length sc, .slice lA y.l.length lc], .int .i64 k]) ∧
  VOw w' y [.int .i64 y.t, .slice nA y.n.length nc, .slice sA y.s.length sc, .slice lA y.l.length lc] f ∧ New w w' f ∧ w.grownBy w' none
theorem rAtN (v : Vl) (p : Int) (w : World) (B : Nat) (nA : Option Addr) (nc : Nat) (sA : Option Addr) (sc : Nat) (lA : Option Addr) (lc : Nat) (hs : seqT v.t) (ht : v.tot ≤ 500000000) (hB : B ≤ w.heap.size) (h : VB w B v nA nc sA sc lA lc) :
    Calls Tryz.prog 49 #[.agg #[.int .i64 v.t, .slice nA v.n.length nc, .slice sA v.s.length sc, .slice lA v.l.length lc], .int .i64 p] w (AtN (pickE v p) (errE v p) w) := by
  by_cases hp : 0 ≤ p ∧ p < (v.count : Int)
  · obtain ⟨k, rfl⟩ : ∃ k : Nat, p = (k : Int) := ⟨p.toNat, by omega⟩
    have hk : k < v.count := by omega
    have e1 : pickE v (k : Int) = elemV v k := by unfold pickE; rw [if_pos hp]; rfl
    have e2 : errE v (k : Int) = 0 := by unfold errE; rw [if_pos hp]
    rw [e1, e2]
    rcases hs with hs | hs | hs
    · have hl : k < v.n.length := by rw [count_num hs] at hk; exact hk
      rw [elem_num hs, getD_at hl]
      exact rAt_vec v k w B nA nc sA sc lA lc hs hl ht hB h
    · have hl : k < v.s.length := by rw [count_sym hs] at hk; exact hk
      rw [elem_sym hs, getD_at hl]
      exact rAt_sym v k w B nA nc sA sc lA lc hs hl ht hB h
    · have hl : k < v.l.length := by rw [count_lst hs] at hk; exact hk
      rw [elem_lst hs, getD_at hl]
      exact rAt_lst v k w B nA nc sA sc lA lc hs hl ht hB h
  · have e1 : pickE v p = emp := by unfold pickE; rw [if_neg hp]
    have e2 : errE v p = 33 := by unfold errE; rw [if_neg hp]
    rw [e1, e2]
    refine (rAt_out v p w B nA nc sA sc lA lc (by omega) (by omega) hB h).mono ?_
    rintro e w' ⟨rfl, hg⟩
    exact ⟨none, 0, none, 0, none, 0, [], rfl, vow_emp _, New.nil_ _ _, hg⟩
set_option maxHeartbeats 4000000 in
set_option maxRecDepth 100000 in
theorem rNull1_any (w : World) : Calls Tryz.prog 61 #[.int .i64 1] w (NewV (Vl.mk (-1) [0] [] []) w) := by
  obtain ⟨wa, hwa⟩ : ∃ wa, wa = w.alloc (.cells #[.int .i64 0, .slice none 0 0, .slice none 0 0, .slice none 0 0] 26) := ⟨_, rfl⟩
  have hg : w.grownBy wa none := by rw [hwa]; exact gb_alloc (gb_refl w none) _
  have hr : wa.heap[w.heap.size]? = some (.cells #[.int .i64 0, .slice none 0 0, .slice none 0 0, .slice none 0 0] 26 (0, 0)) := by rw [hwa]; exact heap_alloc_new w _
  have HG := hide hg
  have HR := hide hr
  have HWE := hide hwa
  have HS := hide (show w.heap.size < wa.heap.size from blk_lt hr)
  have HA : ∀ w, Calls Tryz.prog 58 #[.int .i64 1] w fun e w' => e = .returned (.int .i64 1) ∧ w = w' := fun w => rAbs_any 1 w
  have HA := hide HA
  obtain ⟨X, hX⟩ : ∃ X, X = Vl.mk (-1) [0] [] [] := ⟨_, rfl⟩
  have HAN := hide (fun w2 => rAtomN_any 1 0 (by omega) w2)
  rw [← hX] at HAN ⊢
  clear hX hg hr hwa
  go_enter Tryz.func61, Tryz.ntmps61
  go_wp2_with fail
  rw [← HWE.out]
  go_wp2_with (first
    | (go_at_call 58; refine (HA.out _).mono ?_; rintro e w1 ⟨rfl, rfl⟩)
    | (go_at_call 25; refine (HAN.out _).mono ?_; rintro e w3 ⟨xA, xc, yA, yc, zA, zc, f, rfl, ho, hn, hg3⟩; have hrr := (hg3.block _ (blk_lt HR.out) (by simp)).trans HR.out; have HRR := hide hrr; have z0 := blk_frozen hrr 0; have z1 := blk_frozen hrr 1; have z2 := blk_frozen hrr 2; have z3 := blk_frozen hrr 3; have p0 : w3.cell? ⟨w.heap.size, 0, none⟩ = some (.int .i64 0) := (by { rw [blk_cell hrr]; rfl }); have p1 : w3.cell? ⟨w.heap.size, 1, none⟩ = some (.slice none 0 0) := (by { rw [blk_cell hrr]; rfl }); have p2 : w3.cell? ⟨w.heap.size, 2, none⟩ = some (.slice none 0 0) := (by { rw [blk_cell hrr]; rfl }); have p3 : w3.cell? ⟨w.heap.size, 3, none⟩ = some (.slice none 0 0) := (by { rw [blk_cell hrr]; rfl }); have HF := hide (NewE.fin (x := X) ho hn HG.out hg3 (Nat.le_refl _) HS.out); clear ho hn hg3 hrr))
  obtain ⟨m0, m1, m2, m3⟩ := C4.put HRR.out (.int .i64 X.t) (.slice xA X.n.length xc) (.slice yA X.s.length yc) (.slice zA X.l.length zc)
  simp only [put4, Nat.zero_add] at m0 m1 m2 m3
  refine bodyPost_ret (v := .agg #[.int .i64 X.t, .slice xA X.n.length xc, .slice yA X.s.length yc, .slice zA X.l.length zc]) (by simp [results, Tryz.results61, go_sem, m0, m1, m2, m3]) rfl ?_
  exact newV_of_newE HF.out
set_option maxHeartbeats 4000000 in
set_option maxRecDepth 100000 in
theorem rNull2_any (w : World) : Calls Tryz.prog 61 #[.int .i64 2] w (NewV (Vl.mk (-2) [(-9223372036854775808)] [] []) w) := by
  obtain ⟨wa, hwa⟩ : ∃ wa, wa = w.alloc (.cells #[.int .i64 0, .slice none 0 0, .slice none 0 0, .slice none 0 0] 26) := ⟨_, rfl⟩
  have hg : w.grownBy wa none := by rw [hwa]; exact gb_alloc (gb_refl w none) _
  have hr : wa.heap[w.heap.size]? = some (.cells #[.int .i64 0, .slice none 0 0, .slice none 0 0, .slice none 0 0] 26 (0, 0)) := by rw [hwa]; exact heap_alloc_new w _
  have HG := hide hg
  have HR := hide hr
  have HWE := hide hwa
  have HS := hide (show w.heap.size < wa.heap.size from blk_lt hr)
  have HA : ∀ w, Calls Tryz.prog 58 #[.int .i64 2] w fun e w' => e = .returned (.int .i64 2) ∧ w = w' := fun w => rAbs_any 2 w
  have HA := hide HA
  obtain ⟨X, hX⟩ : ∃ X, X = Vl.mk (-2) [(-9223372036854775808)] [] [] := ⟨_, rfl⟩
  have HAN := hide (fun w2 => rAtomN_any 2 (-9223372036854775808) (by omega) w2)
  rw [← hX] at HAN ⊢
  clear hX hg hr hwa
  go_enter Tryz.func61, Tryz.ntmps61
  go_wp2_with fail
  rw [← HWE.out]
  go_wp2_with (first
    | (go_at_call 58; refine (HA.out _).mono ?_; rintro e w1 ⟨rfl, rfl⟩)
    | (go_at_call 25; refine (HAN.out _).mono ?_; rintro e w3 ⟨xA, xc, yA, yc, zA, zc, f, rfl, ho, hn, hg3⟩; have hrr := (hg3.block _ (blk_lt HR.out) (by simp)).trans HR.out; have HRR := hide hrr; have z0 := blk_frozen hrr 0; have z1 := blk_frozen hrr 1; have z2 := blk_frozen hrr 2; have z3 := blk_frozen hrr 3; have p0 : w3.cell? ⟨w.heap.size, 0, none⟩ = some (.int .i64 0) := (by { rw [blk_cell hrr]; rfl }); have p1 : w3.cell? ⟨w.heap.size, 1, none⟩ = some (.slice none 0 0) := (by { rw [blk_cell hrr]; rfl }); have p2 : w3.cell? ⟨w.heap.size, 2, none⟩ = some (.slice none 0 0) := (by { rw [blk_cell hrr]; rfl }); have p3 : w3.cell? ⟨w.heap.size, 3, none⟩ = some (.slice none 0 0) := (by { rw [blk_cell hrr]; rfl }); have HF := hide (NewE.fin (x := X) ho hn HG.out hg3 (Nat.le_refl _) HS.out); clear ho hn hg3 hrr))
  obtain ⟨m0, m1, m2, m3⟩ := C4.put HRR.out (.int .i64 X.t) (.slice xA X.n.length xc) (.slice yA X.s.length yc) (.slice zA X.l.length zc)
  simp only [put4, Nat.zero_add] at m0 m1 m2 m3
  refine bodyPost_ret (v := .agg #[.int .i64 X.t, .slice xA X.n.length xc, .slice yA X.s.length yc, .slice zA X.l.length zc]) (by simp [results, Tryz.results61, go_sem, m0, m1, m2, m3]) rfl ?_
  exact newV_of_newE HF.out
set_option maxHeartbeats 4000000 in
set_option maxRecDepth 100000 in
theorem rNull4_any (w : World) : Calls Tryz.prog 61 #[.int .i64 4] w (NewV (Vl.mk (-4) [(-9223372036854775808)] [] []) w) := by
  obtain ⟨wa, hwa⟩ : ∃ wa, wa = w.alloc (.cells #[.int .i64 0, .slice none 0 0, .slice none 0 0, .slice none 0 0] 26) := ⟨_, rfl⟩
  have hg : w.grownBy wa none := by rw [hwa]; exact gb_alloc (gb_refl w none) _
  have hr : wa.heap[w.heap.size]? = some (.cells #[.int .i64 0, .slice none 0 0, .slice none 0 0, .slice none 0 0] 26 (0, 0)) := by rw [hwa]; exact heap_alloc_new w _
  have HG := hide hg
  have HR := hide hr
  have HWE := hide hwa
  have HS := hide (show w.heap.size < wa.heap.size from blk_lt hr)
  have HA : ∀ w, Calls Tryz.prog 58 #[.int .i64 4] w fun e w' => e = .returned (.int .i64 4) ∧ w = w' := fun w => rAbs_any 4 w
  have HA := hide HA
  obtain ⟨X, hX⟩ : ∃ X, X = Vl.mk (-4) [(-9223372036854775808)] [] [] := ⟨_, rfl⟩
  have HAN := hide (fun w2 => rAtomN_any 4 (-9223372036854775808) (by omega) w2)
  rw [← hX] at HAN ⊢
  clear hX hg hr hwa
  go_enter Tryz.func61, Tryz.ntmps61
  go_wp2_with fail
  rw [← HWE.out]
  go_wp2_with (first
    | (go_at_call 58; refine (HA.out _).mono ?_; rintro e w1 ⟨rfl, rfl⟩)
    | (go_at_call 25; refine (HAN.out _).mono ?_; rintro e w3 ⟨xA, xc, yA, yc, zA, zc, f, rfl, ho, hn, hg3⟩; have hrr := (hg3.block _ (blk_lt HR.out) (by simp)).trans HR.out; have HRR := hide hrr; have z0 := blk_frozen hrr 0; have z1 := blk_frozen hrr 1; have z2 := blk_frozen hrr 2; have z3 := blk_frozen hrr 3; have p0 : w3.cell? ⟨w.heap.size, 0, none⟩ = some (.int .i64 0) := (by { rw [blk_cell hrr]; rfl }); have p1 : w3.cell? ⟨w.heap.size, 1, none⟩ = some (.slice none 0 0) := (by { rw [blk_cell hrr]; rfl }); have p2 : w3.cell? ⟨w.heap.size, 2, none⟩ = some (.slice none 0 0) := (by { rw [blk_cell hrr]; rfl }); have p3 : w3.cell? ⟨w.heap.size, 3, none⟩ = some (.slice none 0 0) := (by { rw [blk_cell hrr]; rfl }); have HF := hide (NewE.fin (x := X) ho hn HG.out hg3 (Nat.le_refl _) HS.out); clear ho hn hg3 hrr))
  obtain ⟨m0, m1, m2, m3⟩ := C4.put HRR.out (.int .i64 X.t) (.slice xA X.n.length xc) (.slice yA X.s.length yc) (.slice zA X.l.length zc)
  simp only [put4, Nat.zero_add] at m0 m1 m2 m3
  refine bodyPost_ret (v := .agg #[.int .i64 X.t, .slice xA X.n.length xc, .slice yA X.s.length yc, .slice zA X.l.length zc]) (by simp [results, Tryz.results61, go_sem, m0, m1, m2, m3]) rfl ?_
  exact newV_of_newE HF.out
set_option maxHeartbeats 4000000 in
set_option maxRecDepth 100000 in
theorem rNull5_any (w : World) : Calls Tryz.prog 61 #[.int .i64 5] w (NewV (Vl.mk (-5) [(-9223372036854775808)] [] []) w) := by
  obtain ⟨wa, hwa⟩ : ∃ wa, wa = w.alloc (.cells #[.int .i64 0, .slice none 0 0, .slice none 0 0, .slice none 0 0] 26) := ⟨_, rfl⟩
  have hg : w.grownBy wa none := by rw [hwa]; exact gb_alloc (gb_refl w none) _
  have hr : wa.heap[w.heap.size]? = some (.cells #[.int .i64 0, .slice none 0 0, .slice none 0 0, .slice none 0 0] 26 (0, 0)) := by rw [hwa]; exact heap_alloc_new w _
  have HG := hide hg
  have HR := hide hr
  have HWE := hide hwa
  have HS := hide (show w.heap.size < wa.heap.size from blk_lt hr)
  have HA : ∀ w, Calls Tryz.prog 58 #[.int .i64 5] w fun e w' => e = .returned (.int .i64 5) ∧ w = w' := fun w => rAbs_any 5 w
  have HA := hide HA
  obtain ⟨X, hX⟩ : ∃ X, X = Vl.mk (-5) [(-9223372036854775808)] [] [] := ⟨_, rfl⟩
  have HAN := hide (fun w2 => rAtomN_any 5 (-9223372036854775808) (by omega) w2)
  rw [← hX] at HAN ⊢
  clear hX hg hr hwa
  go_enter Tryz.func61, Tryz.ntmps61
  go_wp2_with fail
  rw [← HWE.out]
  go_wp2_with (first
    | (go_at_call 58; refine (HA.out _).mono ?_; rintro e w1 ⟨rfl, rfl⟩)
    | (go_at_call 25; refine (HAN.out _).mono ?_; rintro e w3 ⟨xA, xc, yA, yc, zA, zc, f, rfl, ho, hn, hg3⟩; have hrr := (hg3.block _ (blk_lt HR.out) (by simp)).trans HR.out; have HRR := hide hrr; have z0 := blk_frozen hrr 0; have z1 := blk_frozen hrr 1; have z2 := blk_frozen hrr 2; have z3 := blk_frozen hrr 3; have p0 : w3.cell? ⟨w.heap.size, 0, none⟩ = some (.int .i64 0) := (by { rw [blk_cell hrr]; rfl }); have p1 : w3.cell? ⟨w.heap.size, 1, none⟩ = some (.slice none 0 0) := (by { rw [blk_cell hrr]; rfl }); have p2 : w3.cell? ⟨w.heap.size, 2, none⟩ = some (.slice none 0 0) := (by { rw [blk_cell hrr]; rfl }); have p3 : w3.cell? ⟨w.heap.size, 3, none⟩ = some (.slice none 0 0) := (by { rw [blk_cell hrr]; rfl }); have HF := hide (NewE.fin (x := X) ho hn HG.out hg3 (Nat.le_refl _) HS.out); clear ho hn hg3 hrr))
  obtain ⟨m0, m1, m2, m3⟩ := C4.put HRR.out (.int .i64 X.t) (.slice xA X.n.length xc) (.slice yA X.s.length yc) (.slice zA X.l.length zc)
  simp only [put4, Nat.zero_add] at m0 m1 m2 m3
  refine bodyPost_ret (v := .agg #[.int .i64 X.t, .slice xA X.n.length xc, .slice yA X.s.length yc, .slice zA X.l.length zc]) (by simp [results, Tryz.results61, go_sem, m0, m1, m2, m3]) rfl ?_
  exact newV_of_newE HF.out
set_option maxHeartbeats 4000000 in
set_option maxRecDepth 100000 in
theorem rNull3_any (w : World) : Calls Tryz.prog 61 #[.int .i64 3] w (NewV (Vl.mk (-3) [] [⟨#[]⟩] []) w) := by
  obtain ⟨wa, hwa⟩ : ∃ wa, wa = w.alloc (.cells #[.int .i64 0, .slice none 0 0, .slice none 0 0, .slice none 0 0] 26) := ⟨_, rfl⟩
  have hg : w.grownBy wa none := by rw [hwa]; exact gb_alloc (gb_refl w none) _
  have hr : wa.heap[w.heap.size]? = some (.cells #[.int .i64 0, .slice none 0 0, .slice none 0 0, .slice none 0 0] 26 (0, 0)) := by rw [hwa]; exact heap_alloc_new w _
  have HG := hide hg
  have HR := hide hr
  have HWE := hide hwa
  have HS := hide (show w.heap.size < wa.heap.size from blk_lt hr)
  have HA : ∀ w, Calls Tryz.prog 58 #[.int .i64 3] w fun e w' => e = .returned (.int .i64 3) ∧ w = w' := fun w => rAbs_any 3 w
  have HA := hide HA
  obtain ⟨X, hX⟩ : ∃ X, X = Vl.mk (-3) [] [⟨#[]⟩] [] := ⟨_, rfl⟩
  have HAN := hide (fun w2 => rSymbol_any ⟨#[]⟩ w2)
  rw [← hX] at HAN ⊢
  clear hX hg hr hwa
  go_enter Tryz.func61, Tryz.ntmps61
  go_wp2_with fail
  rw [← HWE.out]
  go_wp2_with (first
    | (go_at_call 58; refine (HA.out _).mono ?_; rintro e w1 ⟨rfl, rfl⟩)
    | (go_at_call 72; refine (HAN.out _).mono ?_; rintro e w3 ⟨xA, xc, yA, yc, zA, zc, f, rfl, ho, hn, hg3⟩; have hrr := (hg3.block _ (blk_lt HR.out) (by simp)).trans HR.out; have HRR := hide hrr; have z0 := blk_frozen hrr 0; have z1 := blk_frozen hrr 1; have z2 := blk_frozen hrr 2; have z3 := blk_frozen hrr 3; have p0 : w3.cell? ⟨w.heap.size, 0, none⟩ = some (.int .i64 0) := (by { rw [blk_cell hrr]; rfl }); have p1 : w3.cell? ⟨w.heap.size, 1, none⟩ = some (.slice none 0 0) := (by { rw [blk_cell hrr]; rfl }); have p2 : w3.cell? ⟨w.heap.size, 2, none⟩ = some (.slice none 0 0) := (by { rw [blk_cell hrr]; rfl }); have p3 : w3.cell? ⟨w.heap.size, 3, none⟩ = some (.slice none 0 0) := (by { rw [blk_cell hrr]; rfl }); have HF := hide (NewE.fin (x := X) ho hn HG.out hg3 (Nat.le_refl _) HS.out); clear ho hn hg3 hrr))
  obtain ⟨m0, m1, m2, m3⟩ := C4.put HRR.out (.int .i64 X.t) (.slice xA X.n.length xc) (.slice yA X.s.length yc) (.slice zA X.l.length zc)
  simp only [put4, Nat.zero_add] at m0 m1 m2 m3
  refine bodyPost_ret (v := .agg #[.int .i64 X.t, .slice xA X.n.length xc, .slice yA X.s.length yc, .slice zA X.l.length zc]) (by simp [results, Tryz.results61, go_sem, m0, m1, m2, m3]) rfl ?_
  exact newV_of_newE HF.out
theorem rNullE_any (t : Int) (ht : numT t ∨ t = 3) (w : World) : Calls Tryz.prog 61 #[.int .i64 t] w (NewV (nullE t) w) := by
  rcases ht with (rfl | rfl | rfl | rfl) | rfl
  · exact rNull1_any w
  · exact rNull2_any w
  · exact rNull4_any w
  · exact rNull5_any w
  · exact rNull3_any w
end Go.Proofs.YtkbflmaflokpdaaGreat
