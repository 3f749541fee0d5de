/-
  The contract of simfs.follow: a change is done to names.
-/
import Derived.Test.YtmcmlkglkpbnpaaGreatQaw
import Derived.Deep.RegionLaw
namespace Go.Proofs.YtmcmlkglkpbnpaaGreat
open Go.RowKit
theorem Tryz.infoW : (Tryz.prog.info? 147).map (fun i => (i.zero, i.size, i.bytes)) = some (some (.agg #[.bool false, .int .i64 0, .slice none 0 0]), 3, 40) := by kernel_rfl
theorem step_append_row {w : World} {ops : Array Oper} {o : Oper} {a : Act} {K : Act → World → Prop} {Q : Exit → Act → World → Prop} {E : Prop} (hgd : o.guard = none) (s x : Operand) (t : TypeId)
  (ho : o.op = .call { callee := .builtin .append, args := #[s, x], argTypes := #[t, t] })
  (base : Nat) (e : TypeId) (i : TypeInfo) (z : Value) (size bytes : Nat) (ht : Tryz.prog.underlying t = some (.slice e)) (hi : Tryz.prog.info? e = some i) (hz : i.zero = some z)
  (hsize : i.size = size) (hby : i.bytes = bytes) (hzs : z.cells.size = size) (hsz : 0 < size)
  (v : Value) (n : Nat) (xs : List Value) (hs : a.eval s = v) (hown : w.ownsRow base e size v n xs)
  (B : Nat) (A : Option Addr) (m c : Nat) (news : List Value) (hx : a.eval x = .slice A m c) (hl : news.length = m * size) (hr : Rd w B A news) (h1 : ∀ u ∈ news, u.oneCell' = true)
  (h63 : n + m ≤ maxLen) (hbytes : (n + m) * bytes ≤ 140737488355328) (hbase : base ≤ w.heap.size)
  (h : ∀ v' w', w'.ownsRow base e size v' (n + m) (xs ++ news) → w.grownBy w' v.ownBlock → (v'.ownBlock = v.ownBlock ∨ v'.ownBlock = some w.heap.size) → K (a.put o.dst v') w') :
  if Region.wanted o (yielded ops a.tmps) = true then Oper.wp Tryz.prog o a w K Q else E := by
 have hw : Region.wanted o (yielded ops a.tmps) = true := by simp [Region.wanted, hgd]
 rw [if_pos hw]
 exact wp_append_rd w s x t ho base e i z size bytes ht hi hz hsize hby hzs hsz v n xs hs hown B A m c news hx hl hr h1 h63 hbytes hbase h
def FsV.use (v : FsV) (x : Int) : FsV := { v with used := x }
theorem rest_stay {w w' : World} {own rd : Nat → Prop} {g : Nat} (ho : ∀ i, own i → i ≠ g) (hr : ∀ i, rd i → i ≠ g) (hg : w.grownBy w' (some g)) : ∀ i, own i ∨ rd i → i < w.heap.size → w'.heap[i]? = w.heap[i]? :=
 fun i hi hl => hg.block i hl (fun e => by
  injection e with e
  rcases hi with hi | hi
  ·exact ho i hi e
  ·exact hr i hi e)
theorem WsAt.push {w' : World} {own rd : Nat → Prop} {l : List (Wr × Value)} {v' : Value} {n : Nat} {x : Wr} {vp : Value} (ho : w'.ownsRow 0 147 3 v' n (wcells l ++ [.bool x.cut, .int .i64 (x.pos : Int), vp])) (hn : n = l.length + 1)
  (hb : ∀ g, v'.ownBlock = some g → own g) (h4 : ∀ y ∈ l, BsAt w' rd y.2 y.1.p) (hp : BsAt w' rd vp x.p) : WsAt w' own rd v' (l.map (·.1) ++ [x]) := by
 subst hn
 refine ⟨l ++ [(x, vp)], by simp, ?_, hb, fun y hy => ?_⟩
 ·rw [wcells_append, List.length_append]
  exact ho
 ·rcases List.mem_append.1 hy with hy | hy
  ·exact h4 y hy
  ·obtain rfl := List.mem_singleton.1 hy
   exact hp
theorem own_lt {w : World} {base size n : Nat} {e : TypeId} {v : Value} {xs : List Value} (h : w.ownsRow base e size v n xs) : ∀ g, v.ownBlock = some g → g < w.heap.size := by
 intro g hg
 rcases h.2 with ⟨h1, _⟩ | ⟨g', cap, cur, hv, _, h3, _⟩
 ·rw [h1] at hg; cases hg
 ·rw [hv] at hg
  injection hg with hg
  have e : g' = g := hg
  exact e ▸ blk_lt h3
theorem own_other {w w' : World} {base size n g : Nat} {e t : TypeId} {v : Value} {xs : List Value} {cs : Array Value} (h : w.ownsRow base e size v n xs) (hg : w.grownBy w' (some g)) (hh : w.heap[g]? = some (.cells cs t (0, 0))) (ht : e ≠ t) : w'.ownsRow base e size v n xs :=
 own_keep h fun i hi hl => hg.block i hl (fun e1 => own_ne h hh ht (by rw [hi, e1]))
theorem do_stay {w w' : World} {own : Nat → Prop} {fb i : Nat} {cs : Array Value} {t : TypeId} {fr : Nat × Nat} (hT : Turned (fun i => i = fb ∨ (own i ∧ Is8 w i)) w w') (hh : w.heap[i]? = some (.cells cs t fr)) (hi : i ≠ fb) (ht : t ≠ 5) : w'.heap[i]? = some (.cells cs t fr) := by
 refine (hT.block i (blk_lt hh) (fun h => ?_)).trans hh
 rcases h with h | ⟨_, cs', fr', h⟩
 ·exact hi h
 ·rw [hh] at h
  injection h with h
  injection h with _ h
  exact ht h
theorem WsAt.do_stay {w w' : World} {own rd : Nat → Prop} {fb : Nat} {v : FlV} {vw : Value} {ws : List Wr} (h : WsAt w own rd vw ws) (hT : Turned (fun i => i = fb ∨ (own i ∧ Is8 w i)) w w') (hf : FlB w fb v) (hof : own fb) (hr : ∀ i, rd i → ¬ own i) : WsAt w' own rd vw ws := by
 obtain ⟨l, h1, h2, h3, h4⟩ := h
 refine ⟨l, h1, ?_, h3, fun x hx => (h4 x hx).keep fun i hi hl => hT.block i hl (fun hh => ?_)⟩
 ·refine ⟨h2.1, ?_⟩
  rcases h2.2 with h5 | ⟨g, cap, cur, hv, h6, h7, h8⟩
  ·exact .inl h5
  ·refine .inr ⟨g, cap, cur, hv, h6, Go.Proofs.YtmcmlkglkpbnpaaGreat.do_stay hT h7 (fun e => ?_) (by decide), h8⟩
   subst e
   have hf' : w.heap[g]? = _ := hf
   rw [h7] at hf'
   injection hf' with hf'
   injection hf' with _ hf'
   revert hf'
   decide
 ·rcases hh with rfl | hh
  ·exact hr _ hi hof
  ·exact hr _ hi hh.1
theorem struct_cells (x : Wr) (vp : Value) (hv : vp.oneCell' = true) : ∀ u ∈ [Value.bool x.cut, Value.int .i64 (x.pos : Int), vp], u.oneCell' = true := by
 intro u hu
 simp only [List.mem_cons, List.not_mem_nil, or_false] at hu
 rcases hu with rfl | rfl | rfl
 ·rfl
 ·rfl
 ·exact hv
theorem own_slice {w : World} {base size n : Nat} {e : TypeId} {v : Value} {xs : List Value} (h : w.ownsRow base e size v n xs) : ∃ A c, v = .slice A n c := by
 rcases h.2 with ⟨h1, h0⟩ | ⟨g, cap, cur, hv, _⟩
 ·exact ⟨none, 0, by rw [h0]; exact h1⟩
 ·exact ⟨_, cap, hv⟩
theorem row_stay {w w' : World} {base size n : Nat} {e : TypeId} {v : Value} {xs : List Value} (h : w.ownsRow base e size v n xs) (hg : w.grownBy w' v.ownBlock) {i : Nat} {cs : Array Value} {t : TypeId} {fr : Nat × Nat} (hh : w.heap[i]? = some (.cells cs t fr)) (ht : t ≠ e) : w'.heap[i]? = some (.cells cs t fr) := by
 refine (hg.block i (blk_lt hh) (fun e1 => ?_)).trans hh
 rcases h.2 with ⟨h1, _⟩ | ⟨g, cap, cur, hv, _, h3, _⟩
 ·rw [h1] at e1; cases e1
 ·rw [hv] at e1
  injection e1 with e1
  have e2 : i = g := e1
  subst e2
  rw [h3] at hh
  injection hh with hh
  injection hh with _ hh
  exact ht hh.symm
theorem row_stay8 {w w' : World} {base size n : Nat} {e : TypeId} {v u : Value} {xs : List Value} {ys : List UInt8} {P : Nat → Prop} (h : w.ownsRow base e size v n xs) (hg : w.grownBy w' v.ownBlock) (hb : BsAt w P u ys) (ht : 5 ≠ e) : BsAt w' P u ys := by
 rcases hb with hb | ⟨h0, g', cap, cur, h1, h2, h3, h4⟩
 ·exact .inl hb
 ·exact .inr ⟨h0, g', cap, cur, h1, h2, row_stay h hg h3 ht, h4⟩
set_option maxHeartbeats 4000000 in
set_option maxRecDepth 100000 in
theorem alter_any (g fb : Nat) (v : FsV) (own rd : Nat → Prop) (f : Fl) (x : Wr) (vp : Value) (w : World) (h : FsB w g v) (hf : FileAt w own rd fb f) (hp : BsAt w rd vp x.p) (hk : x.pos ≤ f.bytes.length)
  (hdis : ∀ i, rd i → ¬ own i ∧ i < w.heap.size ∧ i ≠ g) (hog : ∀ i, own i → i < w.heap.size ∧ i ≠ g) (hlen : f.bytes.length + x.p.length ≤ 1000000000) (hwl : f.waits.length ≤ 1000000)
  (hu : 0 ≤ v.used ∧ v.used ≤ 1000000000000000) (h0 : 0 ≤ v.ops ∧ v.ops ≤ 2000000000) (ha : v.armed ≤ 9223372036854775807) (hdl : (doW f.bytes x).length ≤ 2000000000) :
  Calls Tryz.prog 75 #[.pointer (some ⟨g, 0, none⟩), .pointer (some ⟨fb, 0, none⟩), .agg #[.bool x.cut, .int .i64 (x.pos : Int), vp]] w fun e w' =>
   e = .returned (.tuple #[]) ∧ FsB w' g ({ v with used := v.used - f.bytes.length + (doW f.bytes x).length } : FsV).count ∧
   FileAt w' (ext own w w') rd fb { f with bytes := doW f.bytes x, waits := f.waits ++ [x] } ∧ Turned (fun i => i = g ∨ own i) w w' := by
 obtain ⟨i1, hi1, hiz, his, hib⟩ := info_parts Tryz.infoW
 obtain ⟨fv, hfl, hof, hgo, hb, hs, hsep, hws⟩ := hf
 obtain ⟨A, c, hv, hnc, hcm⟩ := hb.form
 unfold maxLen at hcm
 have hwa := heap_alloc_new w (.cells #[.bool x.cut, .int .i64 (x.pos : Int), vp] 147)
 have h' := h.keep (heap_alloc_old w (.cells #[.bool x.cut, .int .i64 (x.pos : Int), vp] 147) h.lt)
 have hfl' := hfl.alloc (.cells #[.bool x.cut, .int .i64 (x.pos : Int), vp] 147)
 have hgw := h.lt
 have hfw := hfl.lt
 have hgf : g ≠ fb := fun e => (hog fb hof).2 e.symm
 obtain ⟨hu1, hu2⟩ := hu
 obtain ⟨h01, h02⟩ := h0
 obtain ⟨wa, hwaE⟩ : ∃ wa, wa = w.alloc (.cells #[.bool x.cut, .int .i64 (x.pos : Int), vp] 147) := ⟨_, rfl⟩
 have hga : w.grownBy wa none := by rw [hwaE]; exact gb_alloc (gb_refl w none) _
 rw [← hwaE] at hwa h' hfl'
 have hg1 : wa.grownBy ((wa.setCell ⟨g, 1, none⟩ (.int .i64 (v.used - f.bytes.length))).drew) (some g) := gb_drew (gb_set (gb_refl wa (some g)) 1 _)
 have hall : w.grownBy ((wa.setCell ⟨g, 1, none⟩ (.int .i64 (v.used - f.bytes.length))).drew) (some g) := gb_trans (gb_some hga (some g)) hg1 (.inl rfl)
 have hstay := rest_stay (fun i hi => (hog i hi).2) (fun i hi => (hdis i hi).2.2) hall
 have hF1 : FlB ((wa.setCell ⟨g, 1, none⟩ (.int .i64 (v.used - f.bytes.length))).drew) fb fv := hfl.keep (hstay fb (.inl hof) hfw)
 have hB1 := hb.keep (w' := (wa.setCell ⟨g, 1, none⟩ (.int .i64 (v.used - f.bytes.length))).drew) fun i hi hl => hstay i (.inl hi) hl
 have hS1 := hs.keep (w' := (wa.setCell ⟨g, 1, none⟩ (.int .i64 (v.used - f.bytes.length))).drew) fun i hi hl => hstay i (.inl hi) hl
 have hP1 := hp.keep (w' := (wa.setCell ⟨g, 1, none⟩ (.int .i64 (v.used - f.bytes.length))).drew) fun i hi hl => hstay i (.inr hi) hl
 have hW1 := hws.keep (w' := (wa.setCell ⟨g, 1, none⟩ (.int .i64 (v.used - f.bytes.length))).drew) hstay
 have hX1 : ((wa.setCell ⟨g, 1, none⟩ (.int .i64 (v.used - f.bytes.length))).drew).heap[w.heap.size]? = some (.cells #[.bool x.cut, .int .i64 (x.pos : Int), vp] 147 (0, 0)) := (hg1.block _ (blk_lt hwa) (fun e => by injection e with e; omega)).trans hwa
 have hV1 : FsB ((wa.setCell ⟨g, 1, none⟩ (.int .i64 (v.used - f.bytes.length))).drew) g { v with used := v.used - f.bytes.length } := h'.set1 _
 have hD1 : ∀ i, rd i → ¬ own i ∧ i < ((wa.setCell ⟨g, 1, none⟩ (.int .i64 (v.used - f.bytes.length))).drew).heap.size := fun i hi => ⟨(hdis i hi).1, Nat.lt_of_lt_of_le (hdis i hi).2.1 hall.size⟩
 have hDO := do_any fb fv own rd f.bytes x vp _ hF1 hB1 hP1.put hk hD1 hlen
 have HDO := hide hDO
 have HF1 := hide hF1
 have H := hide h'
 have HF := hide hfl'
 have HV := hide hv
 have HWA := hide hwa
 have HALL := hide hall
 have HS1 := hide hS1
 have HP1 := hide hP1
 have HW1 := hide hW1
 have HX1 := hide hX1
 have HV1 := hide hV1
 have HSEP := hide hsep
 have HOG := hide hog
 have HDIS := hide hdis
 have HGO := hide hgo
 have HI1 := hide hi1
 have HIZ := hide hiz
 have HIS := hide his
 have HIB := hide hib
 have HWE := hide hwaE
 clear h h' hfl hfl' hv hwa hb hs hws hp hsep hgo hog hdis hga hg1 hall hstay hF1 hB1 hS1 hP1 hW1 hX1 hV1 hD1 hDO hi1 hiz his hib hwaE
 go_enter Tryz.func75, Tryz.ntmps75
 go_wp2
 rw [← HWE.out]
 have q1 := H.out.c1
 have q2 := H.out.fr 1
 have q3 := HF.out.c1
 rw [HV.out] at q3
 have b0 : wa.cell? ⟨w.heap.size, 0, none⟩ = some (.bool x.cut) := by rw [blk_cell HWA.out]; rfl
 have b1 : wa.cell? ⟨w.heap.size, 1, none⟩ = some (.int .i64 (x.pos : Int)) := by rw [blk_cell HWA.out]; rfl
 have b2 : wa.cell? ⟨w.heap.size, 2, none⟩ = some vp := by rw [blk_cell HWA.out]; rfl
 go_still_tail 12, (by kernel_rfl)
 go_wp2_with (go_at_call 69; refine HDO.out.mono ?_; rintro e w2 ⟨rfl, hpost⟩; have HPO := hide hpost; clear hpost)
 clear q1 q2 q3 b0 b1 b2
 obtain ⟨vb2, sh2, hF2, hB2, hT2, hK2⟩ := HPO.out
 obtain ⟨A2, c2, rfl, hnc2, hcm2⟩ := hB2.form
 unfold maxLen at hcm2
 have hS2 := hK2 own fv.vs f.safe HS1.out HSEP.out
 have hV2 : FsB w2 g { v with used := v.used - f.bytes.length } := Go.Proofs.YtmcmlkglkpbnpaaGreat.do_stay hT2 HV1.out hgf (by decide)
 have hX2 : w2.heap[w.heap.size]? = some (.cells #[.bool x.cut, .int .i64 (x.pos : Int), vp] 147 (0, 0)) := Go.Proofs.YtmcmlkglkpbnpaaGreat.do_stay hT2 HX1.out (by omega) (by decide)
 generalize (wa.setCell ⟨g, 1, none⟩ (.int .i64 (v.used - f.bytes.length))).drew = w1 at *
 have hP2 : BsAt w2 rd vp x.p := HP1.out.keep fun i hi hl => hT2.block i hl (fun hh => by
  rcases hh with rfl | hh
  ·exact (HDIS.out _ hi).1 hof
  ·exact (HDIS.out _ hi).1 hh.1)
 have hW2 : WsAt w2 own rd fv.vw f.waits := HW1.out.do_stay hT2 HF1.out hof (fun i hi => (HDIS.out i hi).1)
 have hsz1 : w.heap.size ≤ w1.heap.size := HALL.out.size
 have hsz2 : w1.heap.size ≤ w2.heap.size := hT2.size
 have hgA : w.grownBy w1 (some g) := HALL.out
 have HT12 : Hid (Turned (fun i => i = g ∨ own i) w w2) := hide ((Turned.of_gb (M := fun i => i = g ∨ own i) hgA (fun i e => .inl (by injection e with e; exact e.symm))).trans hT2 (fun i _ h => by
  rcases h with rfl | h
  ·exact .inr hof
  ·exact .inr h.1))
 have hg3 : w2.grownBy ((w2.setCell ⟨g, 1, none⟩ (.int .i64 (v.used - f.bytes.length + (doW f.bytes x).length))).drew) (some g) := gb_drew (gb_set (gb_refl w2 (some g)) 1 _)
 have HV3 : Hid (FsB ((w2.setCell ⟨g, 1, none⟩ (.int .i64 (v.used - f.bytes.length + (doW f.bytes x).length))).drew) g { v with used := v.used - f.bytes.length + (doW f.bytes x).length }) := hide (hV2.set1 _)
 have HF3 := hide (show FlB ((w2.setCell ⟨g, 1, none⟩ (.int .i64 (v.used - f.bytes.length + (doW f.bytes x).length))).drew) fb _ from hF2.keep (hg3.block fb hF2.lt (fun e => hgf (by injection e with e; exact e.symm))))
 have HX3 := hide (show ((w2.setCell ⟨g, 1, none⟩ (.int .i64 (v.used - f.bytes.length + (doW f.bytes x).length))).drew).heap[w.heap.size]? = _ from (hg3.block w.heap.size (blk_lt hX2) (fun e => by injection e with e; omega)).trans hX2)
 have HP3 := hide (hP2.other hg3 hV2 (by decide))
 have HS3 := hide (hS2.1.other hg3 hV2 (by decide))
 have HB3 := hide (hB2.other hg3 hV2 (by decide))
 have HW3 := hide (hW2.keep (w' := (w2.setCell ⟨g, 1, none⟩ (.int .i64 (v.used - f.bytes.length + (doW f.bytes x).length))).drew) (rest_stay (fun i hi => (HOG.out i hi).2) (fun i hi => (HDIS.out i hi).2.2) hg3))
 have HT13 := hide (HT12.out.trans (Turned.of_gb (M := fun i => i = g) hg3 (fun i e => by injection e with e; exact e.symm)) (fun i _ h => .inl h))
 have HSEP2 := hide hS2.2
 have HSZ : Hid (w.heap.size ≤ w2.heap.size) := hide (Nat.le_trans hsz1 hsz2)
 have HS12 : Hid (w.heap.size ≤ w1.heap.size) := hide hsz1
 have s1 := hV2.c1
 have s2 := hV2.fr 1
 have s3 := hF2.c1
 have HN0 : Hid ((w2.setCell ⟨g, 1, none⟩ (.int .i64 (v.used - f.bytes.length + (doW f.bytes x).length))).drew.heap.size = w2.heap.size) := hide (by show (w2.setCell _ _).heap.size = _; simp [World.setCell])
 clear hg3 hV2 hF2 hX2 hP2 hS2 hB2 hW2 hT2 hK2 hsz1 hsz2 hgA HPO HALL HS1 HP1 HW1 HX1 HV1 HDO HF1
 go_still_tail 12, (by kernel_rfl)
 go_wp2_with fail
 clear s1 s2 s3
 generalize (w2.setCell ⟨g, 1, none⟩ (.int .i64 (v.used - f.bytes.length + (doW f.bytes x).length))).drew = w3 at *
 have r4 := HF3.out.c4
 have r5 := HF3.out.fr 4
 have b0 : w3.cell? ⟨w.heap.size, 0, none⟩ = some (.bool x.cut) := by rw [blk_cell HX3.out]; rfl
 have b1 : w3.cell? ⟨w.heap.size, 1, none⟩ = some (.int .i64 (x.pos : Int)) := by rw [blk_cell HX3.out]; rfl
 have b2 : w3.cell? ⟨w.heap.size, 2, none⟩ = some vp := by rw [blk_cell HX3.out]; rfl
 obtain ⟨l, hl1, hl2, hl3, hl4⟩ := HW3.out
 have HL2 := hide hl2
 have HL3 := hide hl3
 have HL4 := hide hl4
 have HL1 := hide hl1
 have hll : l.length ≤ 1000000 := by rw [← List.length_map (f := (·.1)), hl1]; exact hwl
 clear hl1 hl2 hl3 hl4
 have HRN := hide (Rd.new w3 #[.bool x.cut, .int .i64 (x.pos : Int), vp] 147 [.bool x.cut, .int .i64 (x.pos : Int), vp] rfl)
 have HOC := hide (struct_cells x vp (by obtain ⟨_, _, e, _⟩ := HP3.out.form; rw [e]; rfl))
 have HLA : Hid ((w3.alloc (.cells #[.bool x.cut, .int .i64 (x.pos : Int), vp] 147)).ownsRow 0 147 3 fv.vw l.length (wcells l)) := hide (HL2.out.alloc _)
 have DEC1 : Hid (100 ≠ 147) := hide (by decide)
 have DEC2 : Hid (81 ≠ 147) := hide (by decide)
 have HM1 : Hid (l.length + 1 ≤ maxLen) := hide (by unfold maxLen; omega)
 have HM2 : Hid ((l.length + 1) * 40 ≤ 140737488355328) := hide (by omega)
 have r4a : (w3.alloc (.cells #[.bool x.cut, .int .i64 (x.pos : Int), vp] 147)).cell? ⟨fb, 4, none⟩ = some fv.vw := (HF3.out.alloc _).c4
 have n4 := World.new_ne w3 _ r4
 have n0 := World.new_ne w3 _ b0
 go_region_law
  ((refine step_append_row (by rfl) (.tmp 37) (.tmp 39) 98 (by rfl) 0 147 i1 (.agg #[.bool false, .int .i64 0, .slice none 0 0]) 3 40 Tryz.underlying98 HI1.out HIZ.out HIS.out HIB.out rfl (Nat.succ_pos 2) fv.vw l.length (wcells l) (by rfl) HLA.out (w3.heap.size + 1) (some ⟨w3.heap.size, 0, none⟩) 1 1 [.bool x.cut, .int .i64 (x.pos : Int), vp] (by rfl) rfl HRN.out HOC.out HM1.out HM2.out (Nat.zero_le _) ?_; intro v5 w5 ho5 hg5 hb5; obtain ⟨A5, c5, rfl⟩ := own_slice ho5; have HO5 := hide ho5; have hg6 : (w3.alloc (.cells #[.bool x.cut, .int .i64 (x.pos : Int), vp] 147)).grownBy w5 fv.vw.ownBlock := ⟨hg5.os, hg5.tape, hg5.output, hg5.size, hg5.block⟩; have HG5 : Hid (w3.grownBy w5 fv.vw.ownBlock) := hide (gb_trans (gb_alloc (gb_refl w3 fv.vw.ownBlock) (.cells #[.bool x.cut, .int .i64 (x.pos : Int), vp] 147)) hg6 (.inl rfl)); clear hg6; have HBB5 := hide hb5; clear ho5 hg5 hb5; have HF5 : Hid (FlB w5 fb { fv with vb := .slice A2 (doW f.bytes x).length c2, shared := sh2 }) := hide (row_stay HL2.out HG5.out HF3.out DEC1.out); have HV5 : Hid (FsB w5 g { v with used := v.used - f.bytes.length + (doW f.bytes x).length }) := hide (row_stay HL2.out HG5.out HV3.out DEC2.out); have t4 := HF5.out.c4; have t5 := HF5.out.fr 4))
 all_goals
  clear r4 r4a r5 b0 b1 b2 n0 n4 t4 t5
  have HV6 := hide (show FsB (w5.setCell ⟨fb, 4, none⟩ (.slice A5 (l.length + 1) c5)) g { v with used := v.used - f.bytes.length + (doW f.bytes x).length } from HV5.out.keep (Below.heap_setCell _ _ _ _ hgf))
  have hle1 : v.ops ≤ 2000000000 := h02
  go_wp2_with (go_at_call 97; refine (count_any g _ _ HV6.out h01 h02 ha).mono ?_; rintro e w6 ⟨rfl, hv6, hg6⟩; have HV7 := hide hv6; have HG7 := hide hg6; clear hv6 hg6)
  go_end0
  have hg5 : w5.grownBy (w5.setCell ⟨fb, 4, none⟩ (.slice A5 (l.length + 1) c5)) (some fb) := gb_set (gb_refl w5 (some fb)) 4 _
  have st8 : ∀ {P : Nat → Prop} {u : Value} {ys : List UInt8}, BsAt w3 P u ys → BsAt w6 P u ys := fun h => ((row_stay8 HL2.out HG5.out h (by decide)).other hg5 HF5.out (by decide)).other HG7.out HV6.out (by decide)
  have hf6 : FlB w6 fb { fv with vb := .slice A2 (doW f.bytes x).length c2, shared := sh2, vw := .slice A5 (l.length + 1) c5 } := (HF5.out.set4 _).keep (HG7.out.block fb (HF5.out.set4 (.slice A5 (l.length + 1) c5)).lt (fun e => hgf (by injection e with e; exact e.symm)))
  have hsz : w3.heap.size ≤ w6.heap.size := Nat.le_trans HG5.out.size (Nat.le_trans hg5.size HG7.out.size)
  have hsz0 : w.heap.size ≤ w3.heap.size := HT13.out.size
  refine ⟨rfl, HV7.out, ⟨_, hf6, .inl hof, HGO.out, ?_, ?_, HSEP2.out, ?_⟩, ?_⟩
  ·refine (st8 HB3.out).lts fun i hi hl => ?_
   rcases hi with hi | hi
   ·exact .inl hi
   ·exact .inr ⟨by have := HS12.out; omega, hl⟩
  ·exact (st8 HS3.out).mono fun i hi => .inl hi
  ·have ho6 := own_other (own_other HO5.out hg5 HF5.out (by decide)) HG7.out HV6.out (by decide)
   have := WsAt.push (own := ext own w w6) (rd := rd) ho6 rfl (fun i hi => by
    have hlt := own_lt ho6 i hi
    rcases HBB5.out with hb | hb
    ·exact .inl (HL3.out i (hb ▸ hi))
    ·rw [hb] at hi
     injection hi with hi
     refine .inr ⟨?_, hlt⟩
     rw [← hi]
     refine Nat.le_trans hsz0 ?_
     show w3.heap.size ≤ (w3.alloc _).heap.size
     simp) (fun y hy => st8 (HL4.out y hy)) (st8 HP3.out)
   rw [HL1.out] at this
   exact this
  ·refine ((HT13.out.trans (Turned.of_gb (M := own) HG5.out HL3.out) (fun i _ h => .inr h)).trans (Turned.of_gb (M := fun i => i = fb) hg5 (fun i e => by injection e with e; exact e.symm)) (fun i _ h => .inr (by rw [h]; exact hof))).trans (Turned.of_gb (M := fun i => i = g) HG7.out (fun i e => by injection e with e; exact e.symm)) (fun i _ h => .inl h)
end Go.Proofs.YtmcmlkglkpbnpaaGreat
namespace Go.Proofs.YtmcmlkglkpbnpaaGreat
open Go.RowKit
set_option maxHeartbeats 2000000 in
set_option maxRecDepth 100000 in
theorem put_full (g fb : Nat) (v : FsV) (own rd : Nat → Prop) (f : Fl) (k n : Nat) (A : Option Addr) (c : Nat) (w : World) (h : FsB w g v) (hf : FileAt w own rd fb f) (hk : k ≤ f.bytes.length) (hn : n ≤ 1000000000) (hfl : f.bytes.length ≤ 1000000000)
  (hu : 0 ≤ v.used ∧ v.used ≤ 1000000000000000) (hm : f.bytes.length < k + n) (hc : v.cap < v.used + (k + n - f.bytes.length : Int)) :
  Calls Tryz.prog 39 #[.pointer (some ⟨g, 0, none⟩), .pointer (some ⟨fb, 0, none⟩), .int .i64 (k : Int), .slice A n c] w fun e w' => e = .returned (.int .i64 5) ∧ ∃ j, w' = w.drewN j := by
 obtain ⟨fv, hfl, _, _, hb, _⟩ := hf
 obtain ⟨A1, c1, hv, hnc, hcm⟩ := hb.form
 unfold maxLen at hcm
 obtain ⟨hu1, hu2⟩ := hu
 have h1 := hfl.c1
 rw [hv] at h1
 have q0 := h.c0
 have q1 := h.c1
 have hm' : (0 : Int) < (k : Int) + (n : Int) - (f.bytes.length : Int) := by omega
 have hw1 : IntKind.i64.wrap ((k : Int) + (n : Int)) = (k : Int) + (n : Int) := IntWalk.i64_in _ (by omega)
 have hw2 : IntKind.i64.wrap ((k : Int) + (n : Int) - (f.bytes.length : Int)) = (k : Int) + (n : Int) - (f.bytes.length : Int) := IntWalk.i64_in _ (by omega)
 have hw3 : IntKind.i64.wrap (v.used + ((k : Int) + (n : Int) - (f.bytes.length : Int))) = v.used + ((k : Int) + (n : Int) - (f.bytes.length : Int)) := IntWalk.i64_in _ (by omega)
 have hd1 : decide ((f.bytes.length : Int) < (k : Int) + (n : Int)) = true := by simp; omega
 have hd2 : decide (v.cap < v.used + ((k : Int) + (n : Int) - (f.bytes.length : Int))) = true := by simpa using hc
 clear hfl hb hv h hm
 go_enter Tryz.func39, Tryz.ntmps39
 go_wp2
 go_quiet (fail)
 go_wp2
 go_ret
 exact ⟨rfl, _, rfl⟩
def PutPost (g fb : Nat) (v : FsV) (own rd : Nat → Prop) (f : Fl) (x : Wr) (w : World) (e : Ending) (w' : World) : Prop :=
 e = .returned (.int .i64 0) ∧ FsB w' g ({ v with used := v.used - f.bytes.length + (doW f.bytes x).length } : FsV).count ∧ Turned (fun i => i = g ∨ own i) w w' ∧
  ∃ s, w.heap.size ≤ s ∧ s ≤ w'.heap.size ∧ FileAt w' (fun i => own i ∨ (s ≤ i ∧ i < w'.heap.size)) (fun i => rd i ∨ (w.heap.size ≤ i ∧ i < s)) fb { f with bytes := doW f.bytes x, waits := f.waits ++ [x] }
theorem doW_len (b p : List UInt8) (k : Nat) (h : k ≤ b.length) : (doW b ⟨false, k, p⟩).length = max b.length (k + p.length) := by
 simp [doW]
 omega
theorem put_alter {g fb : Nat} {v : FsV} {own rd : Nat → Prop} {f : Fl} {k n c2 : Nat} {A2 : Option Addr} {p : List UInt8} {w wq w1 : World} (h : FsB w g v) (hf : FileAt w own rd fb f) (hq : ∃ j, wq = w.drewN j) (hk : k ≤ f.bytes.length)
  (hdis : ∀ i, rd i → ¬ own i ∧ i < w.heap.size ∧ i ≠ g) (hog : ∀ i, own i → i < w.heap.size ∧ i ≠ g) (hlen : f.bytes.length + p.length ≤ 1000000000) (hwl : f.waits.length ≤ 1000000)
  (hu : 0 ≤ v.used ∧ v.used ≤ 1000000000000000) (h0 : 0 ≤ v.ops ∧ v.ops ≤ 2000000000) (ha : v.armed ≤ 9223372036854775807) (hdl : (doW f.bytes ⟨false, k, p⟩).length ≤ 2000000000)
  (hb1 : BsAt w1 (fun i => wq.heap.size ≤ i ∧ i < w1.heap.size) (.slice A2 n c2) p) (hg1 : wq.grownBy w1 none) :
  Calls Tryz.prog 75 #[.pointer (some ⟨g, 0, none⟩), .pointer (some ⟨fb, 0, none⟩), .agg #[.bool false, .int .i64 (k : Int), .slice A2 n c2]] w1 fun e w' => e = .returned (.tuple #[]) ∧ PutPost g fb v own rd f ⟨false, k, p⟩ w (.returned (.int .i64 0)) w' := by
 obtain ⟨j, rfl⟩ := hq
 have hgw : w.grownBy w1 none := ⟨hg1.os, hg1.tape, hg1.output, hg1.size, hg1.block⟩
 have hgl := h.lt
 have h1 : FsB w1 g v := h.keep (hgw.block g hgl (by simp))
 have hf1 : FileAt w1 own (fun i => rd i ∨ (w.heap.size ≤ i ∧ i < w1.heap.size)) fb f := (hf.keep fun i _ hl => hgw.block i hl (by simp)).mono (fun _ _ h => h) (fun _ _ h => .inl h)
 refine (alter_any g fb v own (fun i => rd i ∨ (w.heap.size ≤ i ∧ i < w1.heap.size)) f ⟨false, k, p⟩ (.slice A2 n c2) w1 h1 hf1 (hb1.mono fun i hi => .inr hi) hk (fun i hi => ?_) (fun i hi => ⟨Nat.lt_of_lt_of_le (hog i hi).1 hgw.size, (hog i hi).2⟩) hlen hwl hu h0 ha hdl).mono fun e w' ⟨he, h2, h3, h4⟩ => ⟨he, rfl, h2, ?_, w1.heap.size, hgw.size, h4.size, h3⟩
 ·rcases hi with hi | hi
  ·exact ⟨(hdis i hi).1, Nat.lt_of_lt_of_le (hdis i hi).2.1 hgw.size, (hdis i hi).2.2⟩
  ·exact ⟨fun ho => by have := (hog i ho).1; omega, hi.2, by omega⟩
 ·exact (Turned.of_gb (M := fun i => i = g ∨ own i) hgw (by simp)).trans h4 fun _ _ h => h
set_option maxHeartbeats 4000000 in
set_option maxRecDepth 100000 in
theorem put_ok (g fb : Nat) (v : FsV) (own rd : Nat → Prop) (f : Fl) (k n : Nat) (A : Option Addr) (c B : Nat) (p : List UInt8) (w : World) (h : FsB w g v) (hf : FileAt w own rd fb f) (hr : Rd w B A (u8s p)) (hB : B ≤ w.heap.size) (hn : n = p.length) (hk : k ≤ f.bytes.length)
  (hdis : ∀ i, rd i → ¬ own i ∧ i < w.heap.size ∧ i ≠ g) (hog : ∀ i, own i → i < w.heap.size ∧ i ≠ g) (hlen : f.bytes.length + p.length ≤ 1000000000) (hwl : f.waits.length ≤ 1000000)
  (hu : 0 ≤ v.used ∧ v.used ≤ 1000000000000000) (h0 : 0 ≤ v.ops ∧ v.ops ≤ 2000000000) (ha : v.armed ≤ 9223372036854775807) (hfit : k + n ≤ f.bytes.length ∨ v.used + (k + n - f.bytes.length : Int) ≤ v.cap) :
  Calls Tryz.prog 39 #[.pointer (some ⟨g, 0, none⟩), .pointer (some ⟨fb, 0, none⟩), .int .i64 (k : Int), .slice A n c] w (PutPost g fb v own rd f ⟨false, k, p⟩ w) := by
 have hkk := hf
 obtain ⟨fv, hfl, _, _, hb, _⟩ := hkk
 obtain ⟨A1, c1, hv, hnc, hcm⟩ := hb.form
 unfold maxLen at hcm
 obtain ⟨hu1, hu2⟩ := hu
 have h1 := hfl.c1
 rw [hv] at h1
 have q0 := h.c0
 have q1 := h.c1
 have hw1 : IntKind.i64.wrap ((k : Int) + (n : Int)) = (k : Int) + (n : Int) := IntWalk.i64_in _ (by omega)
 have hw2 : IntKind.i64.wrap ((k : Int) + (n : Int) - (f.bytes.length : Int)) = (k : Int) + (n : Int) - (f.bytes.length : Int) := IntWalk.i64_in _ (by omega)
 have hw3 : IntKind.i64.wrap (v.used + ((k : Int) + (n : Int) - (f.bytes.length : Int))) = v.used + ((k : Int) + (n : Int) - (f.bytes.length : Int)) := IntWalk.i64_in _ (by omega)
 have H := hide h
 have HF := hide hf
 have HR := hide hr
 have HN := hide hn
 have HD := hide hdis
 have HO := hide hog
 have HPL : Hid (p.length ≤ 1000000000) := hide (by omega)
 have HLEN := hide hlen
 have HWL := hide hwl
 have HU : Hid (0 ≤ v.used ∧ v.used ≤ 1000000000000000) := hide ⟨hu1, hu2⟩
 have HH0 := hide h0
 have HHA := hide ha
 have HDL : Hid ((doW f.bytes ⟨false, k, p⟩).length ≤ 2000000000) := hide (by rw [doW_len _ _ _ hk]; omega)
 have HK := hide hk
 by_cases hm : f.bytes.length < k + n
 ·have hc : v.used + ((k : Int) + (n : Int) - (f.bytes.length : Int)) ≤ v.cap := by omega
  have hd1 : decide ((f.bytes.length : Int) < (k : Int) + (n : Int)) = true := by simp; omega
  have hd2 : decide (v.cap < v.used + ((k : Int) + (n : Int) - (f.bytes.length : Int))) = false := by simp; omega
  clear hfl hb hv h hm hf hr hn hdis hog hlen hwl h0 ha hfit
  go_enter Tryz.func39, Tryz.ntmps39
  go_wp2
  go_quiet (fail)
  go_wp2_with (first
   | (go_at_call 76; refine (clone8_any A n c B p _ (Rd.drewN HR.out _) HN.out hB HPL.out).mono ?_; rintro e w1 ⟨A2, c2, rfl, hb1, hg1⟩; have HAL := hide (put_alter H.out HF.out ⟨_, rfl⟩ HK.out HD.out HO.out HLEN.out HWL.out HU.out HH0.out HHA.out HDL.out hb1 hg1); clear hb1 hg1)
   | (go_at_call 75; refine HAL.out.mono ?_; rintro e w2 ⟨rfl, hpost⟩; have HPO := hide hpost; clear hpost))
  go_ret
  exact HPO.out
 ·have hd1 : decide ((f.bytes.length : Int) < (k : Int) + (n : Int)) = false := by simp; omega
  clear hfl hb hv h hf hr hn hdis hog hlen hwl h0 ha hfit
  go_enter Tryz.func39, Tryz.ntmps39
  go_wp2
  go_quiet (fail)
  go_wp2_with (first
   | (go_at_call 76; refine (clone8_any A n c B p _ (Rd.drewN HR.out _) HN.out hB HPL.out).mono ?_; rintro e w1 ⟨A2, c2, rfl, hb1, hg1⟩; have HAL := hide (put_alter H.out HF.out ⟨_, rfl⟩ HK.out HD.out HO.out HLEN.out HWL.out HU.out HH0.out HHA.out HDL.out hb1 hg1); clear hb1 hg1)
   | (go_at_call 75; refine HAL.out.mono ?_; rintro e w2 ⟨rfl, hpost⟩; have HPO := hide hpost; clear hpost))
  go_ret
  exact HPO.out
end Go.Proofs.YtmcmlkglkpbnpaaGreat
namespace Go.Proofs.YtmcmlkglkpbnpaaGreat
open Go.RowKit
structure Ch where
 src : ByteArray
 dst : ByteArray
 file : Nat
def chcells (l : List Ch) : List Value := l.flatMap fun c => [.string c.src, .string c.dst, .int .i64 (c.file : Int)]
theorem chcells_append (a b : List Ch) : chcells (a ++ b) = chcells a ++ chcells b := by simp [chcells]
def ChAt (w : World) (own : Nat → Prop) (vch : Value) (l : List Ch) : Prop := w.ownsRow 0 89 3 vch l.length (chcells l) ∧ ∀ g, vch.ownBlock = some g → own g
structure St where
 cap : Int
 used : Int
 last : Int
 ops : Int
 armed : Int
 dead : Bool
 files : Int → Option Fl
 names : List (ByteArray × Nat)
 safe : List (ByteArray × Nat)
 changes : List Ch
def St.v (S : St) (mf mn ms : Nat) (vch : Value) : FsV := ⟨S.cap, S.used, S.last, mf, mn, ms, vch, S.ops, S.armed, S.dead⟩
def St.count (S : St) : St := if 0 < S.armed then { S with ops := S.ops + 1, armed := S.armed - 1, dead := S.armed - 1 == 0 } else { S with ops := S.ops + 1 }
theorem St.count_v (S : St) (mf mn ms : Nat) (vch : Value) : (S.v mf mn ms vch).count = S.count.v mf mn ms vch := by
 unfold FsV.count St.count St.v
 by_cases h : 0 < S.armed <;> simp [h]
theorem St.count_files (S : St) : S.count.files = S.files := by unfold St.count; split <;> rfl
theorem St.count_names (S : St) : S.count.names = S.names := by unfold St.count; split <;> rfl
theorem St.count_safe (S : St) : S.count.safe = S.safe := by unfold St.count; split <;> rfl
theorem St.count_changes (S : St) : S.count.changes = S.changes := by unfold St.count; split <;> rfl
def St.setFile (S : St) (n : Int) (f : Fl) : St := { S with files := fun m => if m = n then some f else S.files m }
structure FsIn (w : World) (L : Nat → Nat) (g : Nat) (S : St) (mf mn ms : Nat) (vch : Value) (lf : List (Int × Nat)) : Prop where
 blk : FsB w g (S.v mf mn ms vch)
 lg : L g = 1
 lmf : L mf = 1
 lmn : L mn = 1
 lms : L ms = 1
 ns : mn ≠ ms
 fn : mf ≠ mn
 fs : mf ≠ ms
 files : MapAt encF w mf lf
 names : MapAt encN w mn S.names
 safe : MapAt encN w ms S.safe
 chs : ChAt w (fun i => L i = 1) vch S.changes
 at_ : ∀ n fb, aget lf n = some fb → 0 < n ∧ ∃ f, S.files n = some f ∧ FileAt w (fun i => L i = n.toNat + 3) (fun i => L i = 2) fb f
 no : ∀ n, aget lf n = none → S.files n = none
 lt : ∀ i, L i ≠ 0 → i < w.heap.size
def FsAt (w : World) (L : Nat → Nat) (g : Nat) (S : St) : Prop := ∃ mf mn ms vch lf, FsIn w L g S mf mn ms vch lf
structure Moved (L : Nat → Nat) (w : World) (L' : Nat → Nat) (w' : World) : Prop where
 turned : Turned (fun i => L i = 1 ∨ 3 ≤ L i) w w'
 same : ∀ i, i < w.heap.size → L' i = L i
theorem Moved.refl (L : Nat → Nat) (w : World) : Moved L w L w := ⟨Turned.refl _ w, fun _ _ => rfl⟩
theorem Moved.trans {L L1 L2 : Nat → Nat} {w w1 w2 : World} (h : Moved L w L1 w1) (k : Moved L1 w1 L2 w2) : Moved L w L2 w2 :=
 ⟨h.turned.trans k.turned fun i hi hm => by rwa [h.same i hi] at hm, fun i hi => (k.same i (Nat.lt_of_lt_of_le hi h.turned.size)).trans (h.same i hi)⟩
theorem Moved.drewN {L L' : Nat → Nat} {w w' : World} (h : Moved L w L' w') (n : Nat) : Moved L w L' (w'.drewN n) := ⟨h.turned.drewN n, h.same⟩
theorem FsAt.drewN {w : World} {L : Nat → Nat} {g : Nat} {S : St} (h : FsAt w L g S) (n : Nat) : FsAt (w.drewN n) L g S := by
 obtain ⟨mf, mn, ms, vch, lf, h⟩ := h
 exact ⟨mf, mn, ms, vch, lf, h.blk, h.lg, h.lmf, h.lmn, h.lms, h.ns, h.fn, h.fs, h.files, h.names, h.safe, h.chs, h.at_, h.no, h.lt⟩
def FsPost (L : Nat → Nat) (g : Nat) (S' : St) (v : Value) (w : World) (e : Ending) (w' : World) : Prop := e = .returned v ∧ ∃ L', FsAt w' L' g S' ∧ Moved L w L' w'
theorem FsAt.keep {w w' : World} {L : Nat → Nat} {g : Nat} {S : St} {M : Nat → Prop} (h : FsAt w L g S) (hT : Turned M w w') (hM : ∀ i, L i ≠ 0 → ¬ M i) : FsAt w' L g S := by
 obtain ⟨mf, mn, ms, vch, lf, h⟩ := h
 have st : ∀ i, L i ≠ 0 → w'.heap[i]? = w.heap[i]? := fun i hi => hT.block i (h.lt i hi) (hM i hi)
 refine ⟨mf, mn, ms, vch, lf, h.blk.keep (st g (by rw [h.lg]; decide)), h.lg, h.lmf, h.lmn, h.lms, h.ns, h.fn, h.fs, h.files.keep (st mf (by rw [h.lmf]; decide)), h.names.keep (st mn (by rw [h.lmn]; decide)), h.safe.keep (st ms (by rw [h.lms]; decide)), ⟨own_keep h.chs.1 fun i hi _ => st i (by have : L i = 1 := h.chs.2 i hi; rw [this]; decide), h.chs.2⟩, fun n fb hn => ?_, h.no, fun i hi => Nat.lt_of_lt_of_le (h.lt i hi) hT.size⟩
 obtain ⟨h0, f, h1, h2⟩ := h.at_ n fb hn
 exact ⟨h0, f, h1, h2.keep fun i hi _ => st i (by rcases hi with hi | hi <;> rw [hi] <;> omega)⟩
theorem FsIn.turn_in {w w' : World} {L : Nat → Nat} {g : Nat} {S S' : St} {mf mn ms : Nat} {vch : Value} {lf : List (Int × Nat)} {n : Int} {fb s : Nat} {f' : Fl} (h : FsIn w L g S mf mn ms vch lf) (hn : aget lf n = some fb)
  (hb : FsB w' g (S'.v mf mn ms vch)) (hT : Turned (fun i => i = g ∨ L i = n.toNat + 3) w w') (hs : w.heap.size ≤ s) (hs' : s ≤ w'.heap.size)
  (hf : FileAt w' (fun i => L i = n.toNat + 3 ∨ (s ≤ i ∧ i < w'.heap.size)) (fun i => L i = 2 ∨ (w.heap.size ≤ i ∧ i < s)) fb f')
  (e1 : S'.files = fun m => if m = n then some f' else S.files m) (e2 : S'.names = S.names) (e3 : S'.safe = S.safe) (e4 : S'.changes = S.changes) :
  ∃ L', FsIn w' L' g S' mf mn ms vch lf ∧ Moved L w L' w' := by
 obtain ⟨hn0, f, hf0, _⟩ := h.at_ n fb hn
 have hgl := h.blk.lt
 refine ⟨fun i => if i < w.heap.size then L i else if i < s then 2 else if i < w'.heap.size then n.toNat + 3 else 0, ⟨hb, ?_, ?_, ?_, ?_, h.ns, h.fn, h.fs, ?_, ?_, ?_, ⟨?_, ?_⟩, ?_, ?_, ?_⟩, ⟨hT.mono fun i _ hi => ?_, fun i hi => if_pos hi⟩⟩
 ·rw [if_pos hgl]; exact h.lg
 ·rw [if_pos h.files.lt]; exact h.lmf
 ·rw [if_pos h.names.lt]; exact h.lmn
 ·rw [if_pos h.safe.lt]; exact h.lms
 ·refine h.files.keep (hT.block mf h.files.lt fun hi => ?_)
  rcases hi with hi | hi
  ·obtain ⟨es, cl, hm, _⟩ := h.files
   have hg' : w.heap[g]? = _ := h.blk
   rw [hi, hg'] at hm
   cases hm
  ·rw [h.lmf] at hi; omega
 ·rw [e2]
  refine h.names.keep (hT.block mn h.names.lt fun hi => ?_)
  rcases hi with hi | hi
  ·obtain ⟨es, cl, hm, _⟩ := h.names
   have hg' : w.heap[g]? = _ := h.blk
   rw [hi, hg'] at hm
   cases hm
  ·rw [h.lmn] at hi; omega
 ·rw [e3]
  refine h.safe.keep (hT.block ms h.safe.lt fun hi => ?_)
  rcases hi with hi | hi
  ·obtain ⟨es, cl, hm, _⟩ := h.safe
   have hg' : w.heap[g]? = _ := h.blk
   rw [hi, hg'] at hm
   cases hm
  ·rw [h.lms] at hi; omega
 ·rw [e4]
  refine own_keep h.chs.1 fun i hi hl => hT.block i hl fun hh => ?_
  rcases hh with rfl | hh
  ·exact own_ne h.chs.1 h.blk (by decide) hi
  ·have : L i = 1 := h.chs.2 i hi
   omega
 ·intro i hi
  show (if i < w.heap.size then L i else _) = 1
  rw [if_pos (own_lt h.chs.1 i hi)]
  exact h.chs.2 i hi
 ·intro m fb' hm
  rw [e1]
  by_cases hmn : m = n
  ·subst hmn
   rw [hn] at hm
   injection hm with hm
   subst hm
   refine ⟨hn0, f', if_pos rfl, hf.mono (fun i hl hi => ?_) (fun i hl hi => ?_)⟩
   ·show (if i < w.heap.size then L i else if i < s then 2 else if i < w'.heap.size then m.toNat + 3 else 0) = m.toNat + 3
    rcases hi with hi | hi
    ·rw [if_pos (h.lt i (by rw [hi]; omega))]
     exact hi
    ·rw [if_neg (by omega), if_neg (by omega), if_pos hi.2]
   ·show (if i < w.heap.size then L i else if i < s then 2 else if i < w'.heap.size then m.toNat + 3 else 0) = 2
    rcases hi with hi | hi
    ·rw [if_pos (h.lt i (by rw [hi]; omega))]
     exact hi
    ·rw [if_neg (by omega), if_pos hi.2]
  ·obtain ⟨hm0, f2, hf2, hfa⟩ := h.at_ m fb' hm
   refine ⟨hm0, f2, by simp [hmn, hf2], (hfa.keep fun i hi hl => hT.block i hl fun hh => ?_).mono (fun i hl hi => ?_) (fun i hl hi => ?_)⟩
   ·rcases hh with rfl | hh
    ·rcases hi with hi | hi <;> rw [h.lg] at hi <;> omega
    ·rcases hi with hi | hi
     ·have : m.toNat = n.toNat := by omega
      exact hmn (by omega)
     ·omega
   ·show (if i < w.heap.size then L i else _) = m.toNat + 3
    rw [if_pos (h.lt i (by rw [hi]; omega))]
    exact hi
   ·show (if i < w.heap.size then L i else _) = 2
    rw [if_pos (h.lt i (by rw [hi]; omega))]
    exact hi
 ·intro m hm
  rw [e1]
  have hmn : m ≠ n := fun e => by rw [e, hn] at hm; cases hm
  show (if m = n then some f' else S.files m) = none
  rw [if_neg hmn]
  exact h.no m hm
 ·intro i hi
  by_cases h1 : i < w.heap.size
  ·exact Nat.lt_of_lt_of_le h1 hT.size
  ·by_cases h2 : i < s
   ·omega
   ·by_cases h3 : i < w'.heap.size
    ·exact h3
    ·simp [h1, h2, h3] at hi
 ·rcases hi with rfl | hi
  ·exact .inl h.lg
  ·exact .inr (by omega)
theorem FsIn.turn {w w' : World} {L : Nat → Nat} {g : Nat} {S S' : St} {mf mn ms : Nat} {vch : Value} {lf : List (Int × Nat)} {n : Int} {fb s : Nat} {f' : Fl} (h : FsIn w L g S mf mn ms vch lf) (hn : aget lf n = some fb)
  (hb : FsB w' g (S'.v mf mn ms vch)) (hT : Turned (fun i => i = g ∨ L i = n.toNat + 3) w w') (hs : w.heap.size ≤ s) (hs' : s ≤ w'.heap.size)
  (hf : FileAt w' (fun i => L i = n.toNat + 3 ∨ (s ≤ i ∧ i < w'.heap.size)) (fun i => L i = 2 ∨ (w.heap.size ≤ i ∧ i < s)) fb f')
  (e1 : S'.files = fun m => if m = n then some f' else S.files m) (e2 : S'.names = S.names) (e3 : S'.safe = S.safe) (e4 : S'.changes = S.changes) :
  ∃ L', FsAt w' L' g S' ∧ Moved L w L' w' :=
 let ⟨L', h1, h2⟩ := h.turn_in hn hb hT hs hs' hf e1 e2 e3 e4
 ⟨L', ⟨mf, mn, ms, vch, lf, h1⟩, h2⟩
end Go.Proofs.YtmcmlkglkpbnpaaGreat
namespace Go.Proofs.YtmcmlkglkpbnpaaGreat
open Go.RowKit
def St.file (S : St) (n : Int) : Option Fl := match S.files n with | some f => if f.gone then none else some f | none => none
theorem St.file_some {S : St} {n : Int} {f : Fl} (h : S.file n = some f) : S.files n = some f ∧ f.gone = false := by
 unfold St.file at h
 cases hf : S.files n with
 | none => rw [hf] at h; cases h
 | some f' =>
  rw [hf] at h
  cases hg : f'.gone
  ·simp [hg] at h; subst h; exact ⟨rfl, hg⟩
  ·simp [hg] at h
section
variable {w : World} {L : Nat → Nat} {g : Nat} {S : St} {mf mn ms : Nat} {vch : Value} {lf : List (Int × Nat)}
theorem FsIn.named_none (h : FsIn w L g S mf mn ms vch lf) {n : Int} (hn : S.file n = none) :
  Calls Tryz.prog 74 #[.pointer (some ⟨g, 0, none⟩), .int .i64 n] w fun e w' => e = .returned (.pointer none) ∧ w = w' := by
 cases hl : aget lf n with
 | none => exact named_no g _ lf n w h.blk h.files hl
 | some fb =>
  obtain ⟨_, f, hf, fv, hfl, _, hgo, _⟩ := h.at_ n fb hl
  refine (named_yes g fb _ fv lf n w h.blk h.files hl hfl).mono fun e w' ⟨he, hw⟩ => ⟨?_, hw⟩
  have : f.gone = true := by
   unfold St.file at hn
   rw [hf] at hn
   cases hg : f.gone
   ·simp [hg] at hn
   ·rfl
  rw [he, hgo, this]
  rfl
theorem FsIn.named_some (h : FsIn w L g S mf mn ms vch lf) {n : Int} {f : Fl} (hn : S.file n = some f) :
  ∃ fb, aget lf n = some fb ∧ FileAt w (fun i => L i = n.toNat + 3) (fun i => L i = 2) fb f ∧ 0 < n ∧
   Calls Tryz.prog 74 #[.pointer (some ⟨g, 0, none⟩), .int .i64 n] w fun e w' => e = .returned (.pointer (some ⟨fb, 0, none⟩)) ∧ w = w' := by
 obtain ⟨hf, hgo⟩ := St.file_some hn
 cases hl : aget lf n with
 | none => rw [h.no n hl] at hf; cases hf
 | some fb =>
  obtain ⟨h0, f', hf', hfa⟩ := h.at_ n fb hl
  rw [hf] at hf'
  injection hf' with hf'
  subst hf'
  have hfa' := hfa
  obtain ⟨fv, hfl, _, hgo', _⟩ := hfa
  refine ⟨fb, rfl, hfa', h0, (named_yes g fb _ fv lf n w h.blk h.files hl hfl).mono fun e w' ⟨he, hw⟩ => ⟨?_, hw⟩⟩
  rw [he, hgo', hgo]
  rfl
theorem FsIn.find_dead (h : FsIn w L g S mf mn ms vch lf) (n : Int) (hd : S.dead = true) :
  Calls Tryz.prog 38 #[.pointer (some ⟨g, 0, none⟩), .int .i64 n] w fun e w' => e = .returned (.tuple #[.pointer none, .int .i64 21]) ∧ w = w' := Go.Proofs.YtmcmlkglkpbnpaaGreat.find_dead g _ n w h.blk hd
theorem FsIn.find_none (h : FsIn w L g S mf mn ms vch lf) {n : Int} (hd : S.dead = false) (hn : S.file n = none) :
  Calls Tryz.prog 38 #[.pointer (some ⟨g, 0, none⟩), .int .i64 n] w fun e w' => e = .returned (.tuple #[.pointer none, .int .i64 7]) ∧ w = w' := find_no g _ n w h.blk hd (h.named_none hn)
theorem FsIn.find_some (h : FsIn w L g S mf mn ms vch lf) {n : Int} {f : Fl} (hd : S.dead = false) (hn : S.file n = some f) :
  ∃ fb, aget lf n = some fb ∧ FileAt w (fun i => L i = n.toNat + 3) (fun i => L i = 2) fb f ∧ 0 < n ∧
   Calls Tryz.prog 38 #[.pointer (some ⟨g, 0, none⟩), .int .i64 n] w fun e w' => e = .returned (.tuple #[.pointer (some ⟨fb, 0, none⟩), .int .i64 0]) ∧ w = w' := by
 obtain ⟨fb, h1, h2, h3, h4⟩ := h.named_some hn
 exact ⟨fb, h1, h2, h3, find_yes g fb _ n w h.blk hd h4⟩
end
structure Fine (S : St) : Prop where
 used : 0 ≤ S.used ∧ S.used ≤ 1000000000000000
 ops : 0 ≤ S.ops ∧ S.ops ≤ 2000000000
 armed : S.armed ≤ 9223372036854775807
 last : 0 ≤ S.last ∧ S.last ≤ 2000000000
 chs : S.changes.length ≤ 1000000
 files : ∀ n f, S.files n = some f → f.bytes.length ≤ 500000000 ∧ f.safe.length ≤ 500000000 ∧ f.waits.length ≤ 1000000
def St.wrote (S : St) (n : Int) (f : Fl) (x : Wr) : St := (({ S with used := S.used - f.bytes.length + (doW f.bytes x).length } : St).setFile n { f with bytes := doW f.bytes x, waits := f.waits ++ [x] }).count
theorem FsIn.wrote {w w' : World} {L : Nat → Nat} {g : Nat} {S : St} {mf mn ms : Nat} {vch : Value} {lf : List (Int × Nat)} {n : Int} {fb : Nat} {f : Fl} {x : Wr} (h : FsIn w L g S mf mn ms vch lf) (hn : aget lf n = some fb)
  (hp : PutPost g fb (S.v mf mn ms vch) (fun i => L i = n.toNat + 3) (fun i => L i = 2) f x w (.returned (.int .i64 0)) w') : ∃ L', FsAt w' L' g (S.wrote n f x) ∧ Moved L w L' w' := by
 obtain ⟨_, hb, hT, s, hs, hs', hf⟩ := hp
 refine h.turn (S' := S.wrote n f x) hn ?_ hT hs hs' hf ?_ ?_ ?_ ?_
 ·have e : ({ S.v mf mn ms vch with used := (S.v mf mn ms vch).used - f.bytes.length + (doW f.bytes x).length } : FsV) = (({ S with used := S.used - f.bytes.length + (doW f.bytes x).length } : St).setFile n { f with bytes := doW f.bytes x, waits := f.waits ++ [x] }).v mf mn ms vch := rfl
  rw [e, St.count_v] at hb
  exact hb
 ·exact St.count_files _
 ·exact St.count_names _
 ·exact St.count_safe _
 ·exact St.count_changes _
theorem FsIn.put_ok {w : World} {L : Nat → Nat} {g : Nat} {S : St} {mf mn ms : Nat} {vch : Value} {lf : List (Int × Nat)} {n : Int} {fb : Nat} {f : Fl} (h : FsIn w L g S mf mn ms vch lf) (hF : Fine S) (hn : aget lf n = some fb) (hfi : S.files n = some f)
  (hfa : FileAt w (fun i => L i = n.toNat + 3) (fun i => L i = 2) fb f) (k m : Nat) (A : Option Addr) (c B : Nat) (p : List UInt8) (hr : Rd w B A (u8s p)) (hB : B ≤ w.heap.size) (hm : m = p.length) (hk : k ≤ f.bytes.length) (hp : p.length ≤ 400000000)
  (hfit : k + m ≤ f.bytes.length ∨ S.used + (k + m - f.bytes.length : Int) ≤ S.cap) :
  Calls Tryz.prog 39 #[.pointer (some ⟨g, 0, none⟩), .pointer (some ⟨fb, 0, none⟩), .int .i64 (k : Int), .slice A m c] w fun e w' => e = .returned (.int .i64 0) ∧ ∃ L', FsAt w' L' g (S.wrote n f ⟨false, k, p⟩) ∧ Moved L w L' w' := by
 have hb := hF.files n f hfi
 refine (Go.Proofs.YtmcmlkglkpbnpaaGreat.put_ok g fb (S.v mf mn ms vch) _ _ f k m A c B p w h.blk hfa hr hB hm hk (fun i hi => ⟨by omega, h.lt i (by omega), fun e => by rw [e, h.lg] at hi; omega⟩) (fun i hi => ⟨h.lt i (by omega), fun e => by rw [e, h.lg] at hi; omega⟩) (by omega) hb.2.2 hF.used hF.ops hF.armed hfit).mono fun e w' hp => ⟨hp.1, ?_⟩
 have he : PutPost g fb (S.v mf mn ms vch) (fun i => L i = n.toNat + 3) (fun i => L i = 2) f ⟨false, k, p⟩ w (.returned (.int .i64 0)) w' := ⟨rfl, hp.2⟩
 exact h.wrote hn he
set_option maxHeartbeats 1000000 in
set_option maxRecDepth 100000 in
theorem append_dead (L : Nat → Nat) (g : Nat) (S : St) (n : Int) (A : Option Addr) (m c : Nat) (w : World) (h : FsAt w L g S) (hd : S.dead = true) :
  Calls Tryz.prog 15 #[.pointer (some ⟨g, 0, none⟩), .int .i64 n, .slice A m c] w fun e w' => e = .returned (.int .i64 21) ∧ w = w' := by
 obtain ⟨mf, mn, ms, vch, lf, h⟩ := h
 have HFD := hide (h.find_dead n hd)
 clear h hd
 go_enter Tryz.func15, Tryz.ntmps15
 go_wp2_with (go_at_call 38; refine HFD.out.mono ?_; rintro e w1 ⟨rfl, rfl⟩)
 go_ret
 exact ⟨rfl, rfl⟩
set_option maxHeartbeats 1000000 in
set_option maxRecDepth 100000 in
theorem append_none (L : Nat → Nat) (g : Nat) (S : St) (n : Int) (A : Option Addr) (m c : Nat) (w : World) (h : FsAt w L g S) (hd : S.dead = false) (hn : S.file n = none) :
  Calls Tryz.prog 15 #[.pointer (some ⟨g, 0, none⟩), .int .i64 n, .slice A m c] w fun e w' => e = .returned (.int .i64 7) ∧ w = w' := by
 obtain ⟨mf, mn, ms, vch, lf, h⟩ := h
 have HFD := hide (h.find_none hd hn)
 clear h hd hn
 go_enter Tryz.func15, Tryz.ntmps15
 go_wp2_with (go_at_call 38; refine HFD.out.mono ?_; rintro e w1 ⟨rfl, rfl⟩)
 go_ret
 exact ⟨rfl, rfl⟩
set_option maxHeartbeats 1000000 in
set_option maxRecDepth 100000 in
theorem append_full (L : Nat → Nat) (g : Nat) (S : St) (n : Int) (f : Fl) (A : Option Addr) (m c : Nat) (w : World) (h : FsAt w L g S) (hF : Fine S) (hd : S.dead = false) (hn : S.file n = some f) (hm : m ≤ 400000000) (h0 : 0 < m) (hc : S.cap < S.used + m) :
  Calls Tryz.prog 15 #[.pointer (some ⟨g, 0, none⟩), .int .i64 n, .slice A m c] w fun e w' => e = .returned (.int .i64 5) ∧ ∃ j, w' = w.drewN j := by
 obtain ⟨mf, mn, ms, vch, lf, h⟩ := h
 obtain ⟨fb, h1, h2, h3, h4⟩ := h.find_some hd hn
 have hb := hF.files n f (St.file_some hn).1
 have HPF := hide (put_full g fb (S.v mf mn ms vch) _ _ f f.bytes.length m A c w h.blk h2 (Nat.le_refl _) (by omega) (by omega) hF.used (by omega) (by show S.cap < S.used + _; omega))
 have HFD := hide h4
 obtain ⟨fv, hfl, _, _, hbb, _⟩ := h2
 obtain ⟨A1, c1, hv, hnc, hcm⟩ := hbb.form
 unfold maxLen at hcm
 have q1 := hfl.c1
 rw [hv] at q1
 clear h hd hn h4 hfl hbb hv hF
 go_enter Tryz.func15, Tryz.ntmps15
 go_wp2_with (first
  | (go_at_call 38; refine HFD.out.mono ?_; rintro e w1 ⟨rfl, rfl⟩)
  | (go_at_call 39; refine HPF.out.mono ?_; rintro e w1 ⟨rfl, j, rfl⟩))
 go_ret
 exact ⟨rfl, j, rfl⟩
set_option maxHeartbeats 1000000 in
set_option maxRecDepth 100000 in
theorem append_ok (L : Nat → Nat) (g : Nat) (S : St) (n : Int) (f : Fl) (A : Option Addr) (m c B : Nat) (p : List UInt8) (w : World) (h : FsAt w L g S) (hF : Fine S) (hd : S.dead = false) (hn : S.file n = some f) (hr : Rd w B A (u8s p)) (hB : B ≤ w.heap.size) (hm : m = p.length) (hp : p.length ≤ 400000000)
  (hfit : m = 0 ∨ S.used + m ≤ S.cap) :
  Calls Tryz.prog 15 #[.pointer (some ⟨g, 0, none⟩), .int .i64 n, .slice A m c] w (FsPost L g (S.wrote n f ⟨false, f.bytes.length, p⟩) (.int .i64 0) w) := by
 obtain ⟨mf, mn, ms, vch, lf, h⟩ := h
 obtain ⟨fb, h1, h2, h3, h4⟩ := h.find_some hd hn
 have HPO := hide (h.put_ok hF h1 (St.file_some hn).1 h2 f.bytes.length m A c B p hr hB hm (Nat.le_refl _) hp (by omega))
 have HFD := hide h4
 obtain ⟨fv, hfl, _, _, hbb, _⟩ := h2
 obtain ⟨A1, c1, hv, hnc, hcm⟩ := hbb.form
 unfold maxLen at hcm
 have q1 := hfl.c1
 rw [hv] at q1
 clear h hd hn h4 hfl hbb hv hF hr hm hp hfit
 go_enter Tryz.func15, Tryz.ntmps15
 go_wp2_with (first
  | (go_at_call 38; refine HFD.out.mono ?_; rintro e w1 ⟨rfl, rfl⟩)
  | (go_at_call 39; refine HPO.out.mono ?_; rintro e w1 ⟨rfl, hpo⟩; have HPP := hide hpo; clear hpo))
 go_ret
 exact ⟨rfl, HPP.out⟩
/-! ## Sync, Waiting -/
def St.synced (S : St) (n : Int) (f : Fl) : St := (S.setFile n ⟨f.gone, f.bytes, f.bytes, []⟩).count
set_option maxHeartbeats 1000000 in
set_option maxRecDepth 100000 in
theorem sync_ok (L : Nat → Nat) (g : Nat) (S : St) (n : Int) (f : Fl) (w : World) (h : FsAt w L g S) (hF : Fine S) (hd : S.dead = false) (hn : S.file n = some f) :
  Calls Tryz.prog 57 #[.pointer (some ⟨g, 0, none⟩), .int .i64 n] w (FsPost L g (S.synced n f) (.int .i64 0) w) := by
 obtain ⟨mf, mn, ms, vch, lf, h⟩ := h
 obtain ⟨fb, h1, h2, h3, h4⟩ := h.find_some hd hn
 obtain ⟨fv, hfl, hof, hgo, hbb, _⟩ := h2
 have HFD := hide h4
 have HST := hide (fsettle_any fb fv _ f.bytes w hfl hof hbb)
 have hgf : fb ≠ g := fun e => by
  have : L fb = n.toNat + 3 := hof
  rw [e, h.lg] at this
  omega
 have H := hide h
 have HO := hF.ops
 have HA := hF.armed
 obtain ⟨ho1, ho2⟩ := HO
 have H1 := hide h1
 have HGO := hide hgo
 have HOF := hide hof
 clear h hd hn h4 hfl hbb hF h1 hgo hof
 go_enter Tryz.func57, Tryz.ntmps57
 go_wp2_with (first
  | (go_at_call 38; refine HFD.out.mono ?_; rintro e w1 ⟨rfl, rfl⟩)
  | (go_at_call 70; refine HST.out.mono ?_; rintro e w1 ⟨rfl, hf1, hg1⟩; have HF1 := hide hf1; have HG1 := hide hg1; have HB1 := hide (H.out.blk.keep (hg1.block g H.out.blk.lt (fun e => hgf (by injection e with e; exact e.symm)))); clear hf1 hg1)
  | (go_at_call 97; refine (count_any g _ _ HB1.out ho1 ho2 HA).mono ?_; rintro e w2 ⟨rfl, hv2, hg2⟩; have HV2 := hide hv2; have HG2 := hide hg2; clear hv2 hg2))
 go_ret
 refine ⟨rfl, ?_⟩
 have hf2 : FileAt w2 (fun i => L i = n.toNat + 3) (fun i => L i = 2) fb ⟨fv.gone, f.bytes, f.bytes, []⟩ := (HF1.out _).keep fun i hi hl => HG2.out.block i hl (fun e => by
  injection e with e
  rw [e, H.out.lg] at hi
  omega)
 rw [HGO.out] at hf2
 have hsz : w.heap.size ≤ w2.heap.size := Nat.le_trans HG1.out.size HG2.out.size
 have e : (S.v mf mn ms vch).count = (S.synced n f).v mf mn ms vch := by
  rw [St.count_v]
  unfold St.synced St.count St.setFile St.v
  by_cases h : 0 < S.armed <;> simp [h]
 refine H.out.turn (S' := S.synced n f) (s := w2.heap.size) H1.out (by rw [← e]; exact HV2.out) ?_ hsz (Nat.le_refl _) (hf2.mono (fun _ _ h => .inl h) (fun _ _ h => .inl h)) (St.count_files _) (St.count_names _) (St.count_safe _) (St.count_changes _)
 exact (Turned.of_gb (M := fun i => i = g ∨ L i = n.toNat + 3) HG1.out (fun i e => by injection e with e; exact .inr (by rw [← e]; exact HOF.out))).trans (Turned.of_gb (M := fun i => i = g) HG2.out (fun i e => by injection e with e; exact e.symm)) (fun i _ h => .inl h)
end Go.Proofs.YtmcmlkglkpbnpaaGreat
namespace Go.Proofs.YtmcmlkglkpbnpaaGreat
open Go.RowKit
def followL (l : List (ByteArray × Nat)) (c : Ch) : List (ByteArray × Nat) × Nat :=
 if c.src = c.dst then (l, 0)
 else if c.src.size = 0 then (aput l c.dst c.file, (aget l c.dst).getD 0)
 else if c.dst.size = 0 then (adel l c.src, (aget l c.src).getD 0)
 else (aput (adel l c.src) c.dst ((aget l c.src).getD 0), (aget (adel l c.src) c.dst).getD 0)
theorem look_name {w : World} {b : Nat} {l : List (ByteArray × Nat)} (h : MapAt encN w b l) (k : ByteArray) :
  (Instr.lookup 78 (.map (some b)) (.string k) false).run Tryz.prog w = .ok (.int .i64 (((aget l k).getD 0 : Nat) : Int)) w := by
 have := h.look (P := Tryz.prog) (E := encN) Tryz.underlying9 Tryz.underlying78 (zero_int w) k false
 rw [show (Instr.lookup 78 (.map (some b)) (.string k) false) = (Instr.lookup 78 (.map (some b)) (encN.ek k) false) from rfl, this]
 cases aget l k <;> rfl
theorem empty_list {s : ByteArray} (h : s.size = 0) : s = ⟨#[]⟩ := by
 obtain ⟨a⟩ := s
 have : a.size = 0 := h
 rw [Array.eq_empty_of_size_eq_zero this]
theorem str_eq {a b : ByteArray} (h : a = b) : (a.toList == b.toList) = true := by rw [h]; exact beq_self_eq_true _
theorem str_ne {a b : ByteArray} (h : a ≠ b) : (a.toList == b.toList) = false := by
 rw [ByteArray.toList_eq, ByteArray.toList_eq]
 refine beq_eq_false_iff_ne.2 fun e => h ?_
 obtain ⟨⟨x⟩⟩ := a
 obtain ⟨⟨y⟩⟩ := b
 have e' : x = y := e
 rw [e']
theorem str_emp {s : ByteArray} (h : s.size = 0) : s.toList.isEmpty = true := by rw [empty_list h, ByteArray.toList_eq]; rfl
theorem str_full {s : ByteArray} (h : s.size ≠ 0) : s.toList.isEmpty = false := by
 rw [ByteArray.toList_eq]
 obtain ⟨⟨x⟩⟩ := s
 have h' : x.length ≠ 0 := h
 cases x with
 | nil => exact absurd rfl h'
 | cons a l => rfl
set_option maxHeartbeats 4000000 in
set_option maxRecDepth 100000 in
theorem follow_any (b : Nat) (l : List (ByteArray × Nat)) (c : Ch) (w : World) (h : MapAt encN w b l) :
  Calls Tryz.prog 32 #[.map (some b), .agg #[.string c.src, .string c.dst, .int .i64 (c.file : Int)]] w fun e w' =>
   e = .returned (.int .i64 (((followL l c).2 : Nat) : Int)) ∧ MapAt encN w' b (followL l c).1 ∧ w.grownBy w' (some b) := by
 have hmap := h.alloc (.cells #[.string c.src, .string c.dst, .int .i64 (c.file : Int)] 89)
 have hga := gb_some (gb_alloc (gb_refl w none) (.cells #[.string c.src, .string c.dst, .int .i64 (c.file : Int)] 89)) (some b)
 have hX := heap_alloc_new w (.cells #[.string c.src, .string c.dst, .int .i64 (c.file : Int)] 89)
 have hbl := h.lt
 have HM := hide hmap
 have HG := hide hga
 have HX := hide hX
 clear h hga hX
 by_cases h1 : c.src = c.dst
 ·have E1 := hide (show followL l c = (l, 0) from if_pos h1)
  have hb := str_eq h1
  clear h1 hmap
  go_enter Tryz.func32, Tryz.ntmps32
  go_wp2
  go_ret
  exact ⟨by rw [E1.out]; rfl, by rw [E1.out]; exact HM.out, HG.out⟩
 by_cases h2 : c.src.size = 0
 ·have h3 : c.dst.size ≠ 0 := fun h3 => h1 (by rw [empty_list h2, empty_list h3])
  have E1 := hide (show followL l c = (aput l c.dst c.file, (aget l c.dst).getD 0) from by unfold followL; rw [if_neg h1, if_pos h2])
  have hb := str_ne h1
  have hz := str_emp h2
  have hd := str_full h3
  have hl1 := look_name hmap c.dst
  clear h1 h2 h3 hmap
  go_enter Tryz.func32, Tryz.ntmps32
  go_wp2_with (at_mapUpdate; refine wpList_put (E := encN) _ rfl _ _ _ 78 rfl 9 3 Tryz.underlying9 Tryz.underlying78 b l rfl HM.out c.dst c.file rfl rfl ?_; intro w1 hm1 hg1 hs1; have HM1 := hide hm1; have HG1 := hide hg1; clear hm1 hg1 hs1)
  go_ret
  exact ⟨by rw [E1.out]; rfl, by rw [E1.out]; exact HM1.out, gb_trans HG.out HG1.out (.inl rfl)⟩
 have hb := str_ne h1
 have hs := str_full h2
 have hl1 := look_name hmap c.src
 by_cases h3 : c.dst.size = 0
 ·have E1 := hide (show followL l c = (adel l c.src, (aget l c.src).getD 0) from by unfold followL; rw [if_neg h1, if_neg h2, if_pos h3])
  have hd := str_emp h3
  clear h1 h2 h3 hmap
  go_enter Tryz.func32, Tryz.ntmps32
  go_wp2_with (at_delete; refine wpList_del (E := encN) _ rfl _ _ 78 9 rfl 3 Tryz.underlying9 Tryz.underlying78 b l rfl HM.out c.src rfl ?_; intro w1 hm1 hg1 hs1; have HM1 := hide hm1; have HG1 := hide hg1; have HX1 := hide ((hg1.block _ (blk_lt HX.out) (fun e => by injection e with e; omega)).trans HX.out); have k1 : w1.cell? ⟨w.heap.size, 1, none⟩ = some (.string c.dst) := by { rw [blk_cell HX1.out]; rfl }; clear hm1 hg1 hs1)
  go_ret
  exact ⟨by rw [E1.out]; rfl, by rw [E1.out]; exact HM1.out, gb_trans HG.out HG1.out (.inl rfl)⟩
 ·have E1 := hide (show followL l c = (aput (adel l c.src) c.dst ((aget l c.src).getD 0), (aget (adel l c.src) c.dst).getD 0) from by unfold followL; rw [if_neg h1, if_neg h2, if_neg h3])
  have hd := str_full h3
  clear h1 h2 h3 hmap
  go_enter Tryz.func32, Tryz.ntmps32
  go_wp2_with (first
   | (at_delete; refine wpList_del (E := encN) _ rfl _ _ 78 9 rfl 3 Tryz.underlying9 Tryz.underlying78 b l rfl HM.out c.src rfl ?_; intro w1 hm1 hg1 hs1; have hl2 := look_name hm1 c.dst; have HM1 := hide hm1; have HG1 := hide hg1; have HX1 := hide ((hg1.block _ (blk_lt HX.out) (fun e => by injection e with e; omega)).trans HX.out); have k1 : w1.cell? ⟨w.heap.size, 1, none⟩ = some (.string c.dst) := by { rw [blk_cell HX1.out]; rfl }; clear hm1 hg1 hs1)
   | (at_mapUpdate; refine wpList_put (E := encN) _ rfl _ _ _ 78 rfl 9 3 Tryz.underlying9 Tryz.underlying78 b (adel l c.src) rfl HM1.out c.dst ((aget l c.src).getD 0) rfl rfl ?_; intro w2 hm2 hg2 hs2; have HM2 := hide hm2; have HG2 := hide hg2; clear hm2 hg2 hs2))
  go_ret
  exact ⟨by rw [E1.out]; rfl, by rw [E1.out]; exact HM2.out, gb_trans (gb_trans HG.out HG1.out (.inl rfl)) HG2.out (.inl rfl)⟩
end Go.Proofs.YtmcmlkglkpbnpaaGreat
