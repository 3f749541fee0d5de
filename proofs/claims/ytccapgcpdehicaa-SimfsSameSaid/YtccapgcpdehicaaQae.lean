/-
  A file system in memory, as a plain state; the blocks that it owns, by labels; the contracts of Append, Write, Sync, Waiting, Read.
-/
import Derived.Test.YtccapgcpdehicaaQad
import Derived.Deep.RegionLaw

namespace Go.Proofs.Ytccapgcpdehicaa
open Go.RowKit

theorem Try.infoW : (Try.prog.info? 116).map (fun i => (i.zero, i.size, i.bytes)) = some (some (.agg #[.bool false, .int .i64 0, .slice none 0 0]), 3, 40) := by kernel_rfl

/-- append of structs as one step of a region that draws its order. -/
theorem step_append_row {w : World} {ops : Array Oper} {o : Oper} {a : Act} {K : Act → World → Prop} {Q : Exit → Act → World → Prop} {E : Prop} (hgd : o.guard = none) (s x : Operand) (t : TypeId)
    (ho : o.op = .call { callee := .builtin .append, args := #[s, x], argTypes := #[t, t] })
    (base : Nat) (e : TypeId) (i : TypeInfo) (z : Value) (size bytes : Nat) (ht : Try.prog.underlying t = some (.slice e)) (hi : Try.prog.info? e = some i) (hz : i.zero = some z)
    (hsize : i.size = size) (hby : i.bytes = bytes) (hzs : z.cells.size = size) (hsz : 0 < size)
    (v : Value) (n : Nat) (xs : List Value) (hs : a.eval s = v) (hown : w.ownsRow base e size v n xs)
    (B : Nat) (A : Option Addr) (m c : Nat) (news : List Value) (hx : a.eval x = .slice A m c) (hl : news.length = m * size) (hr : Rd w B A news) (h1 : ∀ u ∈ news, u.oneCell' = true)
    (h63 : n + m ≤ maxLen) (hbytes : (n + m) * bytes ≤ 140737488355328) (hbase : base ≤ w.heap.size)
    (h : ∀ v' w', w'.ownsRow base e size v' (n + m) (xs ++ news) → w.grownBy w' v.ownBlock → (v'.ownBlock = v.ownBlock ∨ v'.ownBlock = some w.heap.size) → K (a.put o.dst v') w') :
    if Region.wanted o (yielded ops a.tmps) = true then Oper.wp Try.prog o a w K Q else E := by
  have hw : Region.wanted o (yielded ops a.tmps) = true := by simp [Region.wanted, hgd]
  rw [if_pos hw]
  exact wp_append_rd w s x t ho base e i z size bytes ht hi hz hsize hby hzs hsz v n xs hs hown B A m c news hx hl hr h1 h63 hbytes hbase h

/-- FsV with what is used. -/
def FsV.use (v : FsV) (x : Int) : FsV := { v with used := x }

/-- The blocks of a file stay while another block is written. -/
theorem rest_stay {w w' : World} {own rd : Nat → Prop} {g : Nat} (ho : ∀ i, own i → i ≠ g) (hr : ∀ i, rd i → i ≠ g) (hg : w.grownBy w' (some g)) : ∀ i, own i ∨ rd i → i < w.heap.size → w'.heap[i]? = w.heap[i]? :=
  fun i hi hl => hg.block i hl (fun e => by
    injection e with e
    rcases hi with hi | hi
    · exact ho i hi e
    · exact hr i hi e)

/-- What waits, behind an append to it. -/
theorem WsAt.push {w' : World} {own rd : Nat → Prop} {l : List (Wr × Value)} {v' : Value} {n : Nat} {x : Wr} {vp : Value} (ho : w'.ownsRow 0 116 3 v' n (wcells l ++ [.bool x.cut, .int .i64 (x.pos : Int), vp])) (hn : n = l.length + 1)
    (hb : ∀ g, v'.ownBlock = some g → own g) (h4 : ∀ y ∈ l, BsAt w' rd y.2 y.1.p) (hp : BsAt w' rd vp x.p) : WsAt w' own rd v' (l.map (·.1) ++ [x]) := by
  subst hn
  refine ⟨l ++ [(x, vp)], by simp, ?_, hb, fun y hy => ?_⟩
  · rw [wcells_append, List.length_append]
    exact ho
  · rcases List.mem_append.1 hy with hy | hy
    · exact h4 y hy
    · obtain rfl := List.mem_singleton.1 hy
      exact hp
theorem own_lt {w : World} {base size n : Nat} {e : TypeId} {v : Value} {xs : List Value} (h : w.ownsRow base e size v n xs) : ∀ g, v.ownBlock = some g → g < w.heap.size := by
  intro g hg
  rcases h.2 with ⟨h1, _⟩ | ⟨g', cap, cur, hv, _, h3, _⟩
  · rw [h1] at hg; cases hg
  · rw [hv] at hg
    injection hg with hg
    have e : g' = g := hg
    exact e ▸ blk_lt h3
/-- A row stays while a block of another kind is written. -/
theorem own_other {w w' : World} {base size n g : Nat} {e t : TypeId} {v : Value} {xs : List Value} {cs : Array Value} (h : w.ownsRow base e size v n xs) (hg : w.grownBy w' (some g)) (hh : w.heap[g]? = some (.cells cs t (0, 0))) (ht : e ≠ t) : w'.ownsRow base e size v n xs :=
  own_keep h fun i hi hl => hg.block i hl (fun e1 => own_ne h hh ht (by rw [hi, e1]))

/-- What do has left alone: blocks of other kinds, blocks of others. -/
theorem do_stay {w w' : World} {own : Nat → Prop} {fb i : Nat} {cs : Array Value} {t : TypeId} {fr : Nat × Nat} (hT : Turned (fun i => i = fb ∨ (own i ∧ Is8 w i)) w w') (hh : w.heap[i]? = some (.cells cs t fr)) (hi : i ≠ fb) (ht : t ≠ 5) : w'.heap[i]? = some (.cells cs t fr) := by
  refine (hT.block i (blk_lt hh) (fun h => ?_)).trans hh
  rcases h with h | ⟨_, cs', fr', h⟩
  · exact hi h
  · rw [hh] at h
    injection h with h
    injection h with _ h
    exact ht h
theorem WsAt.do_stay {w w' : World} {own rd : Nat → Prop} {fb : Nat} {v : FlV} {vw : Value} {ws : List Wr} (h : WsAt w own rd vw ws) (hT : Turned (fun i => i = fb ∨ (own i ∧ Is8 w i)) w w') (hf : FlB w fb v) (hof : own fb) (hr : ∀ i, rd i → ¬ own i) : WsAt w' own rd vw ws := by
  obtain ⟨l, h1, h2, h3, h4⟩ := h
  refine ⟨l, h1, ?_, h3, fun x hx => (h4 x hx).keep fun i hi hl => hT.block i hl (fun hh => ?_)⟩
  · refine ⟨h2.1, ?_⟩
    rcases h2.2 with h5 | ⟨g, cap, cur, hv, h6, h7, h8⟩
    · exact .inl h5
    · refine .inr ⟨g, cap, cur, hv, h6, Go.Proofs.Ytccapgcpdehicaa.do_stay hT h7 (fun e => ?_) (by decide), h8⟩
      subst e
      have hf' : w.heap[g]? = _ := hf
      rw [h7] at hf'
      injection hf' with hf'
      injection hf' with _ hf'
      revert hf'
      decide
  · rcases hh with rfl | hh
    · exact hr _ hi hof
    · exact hr _ hi hh.1
theorem struct_cells (x : Wr) (vp : Value) (hv : vp.oneCell' = true) : ∀ u ∈ [Value.bool x.cut, Value.int .i64 (x.pos : Int), vp], u.oneCell' = true := by
  intro u hu
  simp only [List.mem_cons, List.not_mem_nil, or_false] at hu
  rcases hu with rfl | rfl | rfl
  · rfl
  · rfl
  · exact hv

theorem own_slice {w : World} {base size n : Nat} {e : TypeId} {v : Value} {xs : List Value} (h : w.ownsRow base e size v n xs) : ∃ A c, v = .slice A n c := by
  rcases h.2 with ⟨h1, h0⟩ | ⟨g, cap, cur, hv, _⟩
  · exact ⟨none, 0, by rw [h0]; exact h1⟩
  · exact ⟨_, cap, hv⟩
/-- A block of another kind stays while a row grows. -/
theorem row_stay {w w' : World} {base size n : Nat} {e : TypeId} {v : Value} {xs : List Value} (h : w.ownsRow base e size v n xs) (hg : w.grownBy w' v.ownBlock) {i : Nat} {cs : Array Value} {t : TypeId} {fr : Nat × Nat} (hh : w.heap[i]? = some (.cells cs t fr)) (ht : t ≠ e) : w'.heap[i]? = some (.cells cs t fr) := by
  refine (hg.block i (blk_lt hh) (fun e1 => ?_)).trans hh
  rcases h.2 with ⟨h1, _⟩ | ⟨g, cap, cur, hv, _, h3, _⟩
  · rw [h1] at e1; cases e1
  · rw [hv] at e1
    injection e1 with e1
    have e2 : i = g := e1
    subst e2
    rw [h3] at hh
    injection hh with hh
    injection hh with _ hh
    exact ht hh.symm
theorem row_stay8 {w w' : World} {base size n : Nat} {e : TypeId} {v u : Value} {xs : List Value} {ys : List UInt8} {P : Nat → Prop} (h : w.ownsRow base e size v n xs) (hg : w.grownBy w' v.ownBlock) (hb : BsAt w P u ys) (ht : 5 ≠ e) : BsAt w' P u ys := by
  rcases hb with hb | ⟨h0, g', cap, cur, h1, h2, h3, h4⟩
  · exact .inl hb
  · exact .inr ⟨h0, g', cap, cur, h1, h2, row_stay h hg h3 ht, h4⟩

set_option maxHeartbeats 4000000 in
set_option maxRecDepth 100000 in
theorem alter_any (g fb : Nat) (v : FsV) (own rd : Nat → Prop) (f : Fl) (x : Wr) (vp : Value) (w : World) (h : FsB w g v) (hf : FileAt w own rd fb f) (hp : BsAt w rd vp x.p) (hk : x.pos ≤ f.bytes.length)
    (hdis : ∀ i, rd i → ¬ own i ∧ i < w.heap.size ∧ i ≠ g) (hog : ∀ i, own i → i < w.heap.size ∧ i ≠ g) (hlen : f.bytes.length + x.p.length ≤ 1000000000) (hwl : f.waits.length ≤ 1000000)
    (hu : 0 ≤ v.used ∧ v.used ≤ 1000000000000000) (h0 : 0 ≤ v.ops ∧ v.ops ≤ 2000000000) (ha : v.armed ≤ 9223372036854775807) (hdl : (doW f.bytes x).length ≤ 2000000000) :
    Calls Try.prog 57 #[.pointer (some ⟨g, 0, none⟩), .pointer (some ⟨fb, 0, none⟩), .agg #[.bool x.cut, .int .i64 (x.pos : Int), vp]] w fun e w' =>
      e = .returned (.tuple #[]) ∧ FsB w' g ({ v with used := v.used - f.bytes.length + (doW f.bytes x).length } : FsV).count ∧
      FileAt w' (ext own w w') rd fb { f with bytes := doW f.bytes x, waits := f.waits ++ [x] } ∧ Turned (fun i => i = g ∨ own i) w w' := by
  obtain ⟨i1, hi1, hiz, his, hib⟩ := info_parts Try.infoW
  obtain ⟨fv, hfl, hof, hgo, hb, hs, hsep, hws⟩ := hf
  obtain ⟨A, c, hv, hnc, hcm⟩ := hb.form
  unfold maxLen at hcm
  have hwa := heap_alloc_new w (.cells #[.bool x.cut, .int .i64 (x.pos : Int), vp] 116)
  have h' := h.keep (heap_alloc_old w (.cells #[.bool x.cut, .int .i64 (x.pos : Int), vp] 116) h.lt)
  have hfl' := hfl.alloc (.cells #[.bool x.cut, .int .i64 (x.pos : Int), vp] 116)
  have hgw := h.lt
  have hfw := hfl.lt
  have hgf : g ≠ fb := fun e => (hog fb hof).2 e.symm
  obtain ⟨hu1, hu2⟩ := hu
  obtain ⟨h01, h02⟩ := h0
  -- the world behind the first store
  obtain ⟨wa, hwaE⟩ : ∃ wa, wa = w.alloc (.cells #[.bool x.cut, .int .i64 (x.pos : Int), vp] 116) := ⟨_, rfl⟩
  have hga : w.grownBy wa none := by rw [hwaE]; exact gb_alloc (gb_refl w none) _
  rw [← hwaE] at hwa h' hfl'
  have hg1 : wa.grownBy ((wa.setCell ⟨g, 1, none⟩ (.int .i64 (v.used - f.bytes.length))).drew) (some g) := gb_drew (gb_set (gb_refl wa (some g)) 1 _)
  have hall : w.grownBy ((wa.setCell ⟨g, 1, none⟩ (.int .i64 (v.used - f.bytes.length))).drew) (some g) := gb_trans (gb_some hga (some g)) hg1 (.inl rfl)
  have hstay := rest_stay (fun i hi => (hog i hi).2) (fun i hi => (hdis i hi).2.2) hall
  have hF1 : FlB ((wa.setCell ⟨g, 1, none⟩ (.int .i64 (v.used - f.bytes.length))).drew) fb fv := hfl.keep (hstay fb (.inl hof) hfw)
  have hB1 := hb.keep (w' := (wa.setCell ⟨g, 1, none⟩ (.int .i64 (v.used - f.bytes.length))).drew) fun i hi hl => hstay i (.inl hi) hl
  have hS1 := hs.keep (w' := (wa.setCell ⟨g, 1, none⟩ (.int .i64 (v.used - f.bytes.length))).drew) fun i hi hl => hstay i (.inl hi) hl
  have hP1 := hp.keep (w' := (wa.setCell ⟨g, 1, none⟩ (.int .i64 (v.used - f.bytes.length))).drew) fun i hi hl => hstay i (.inr hi) hl
  have hW1 := hws.keep (w' := (wa.setCell ⟨g, 1, none⟩ (.int .i64 (v.used - f.bytes.length))).drew) hstay
  have hX1 : ((wa.setCell ⟨g, 1, none⟩ (.int .i64 (v.used - f.bytes.length))).drew).heap[w.heap.size]? = some (.cells #[.bool x.cut, .int .i64 (x.pos : Int), vp] 116 (0, 0)) := (hg1.block _ (blk_lt hwa) (fun e => by injection e with e; omega)).trans hwa
  have hV1 : FsB ((wa.setCell ⟨g, 1, none⟩ (.int .i64 (v.used - f.bytes.length))).drew) g { v with used := v.used - f.bytes.length } := h'.set1 _
  have hD1 : ∀ i, rd i → ¬ own i ∧ i < ((wa.setCell ⟨g, 1, none⟩ (.int .i64 (v.used - f.bytes.length))).drew).heap.size := fun i hi => ⟨(hdis i hi).1, Nat.lt_of_lt_of_le (hdis i hi).2.1 hall.size⟩
  have hDO := do_any fb fv own rd f.bytes x vp _ hF1 hB1 hP1.put hk hD1 hlen
  have HDO := hide hDO
  have HF1 := hide hF1
  have H := hide h'
  have HF := hide hfl'
  have HV := hide hv
  have HWA := hide hwa
  have HALL := hide hall
  have HS1 := hide hS1
  have HP1 := hide hP1
  have HW1 := hide hW1
  have HX1 := hide hX1
  have HV1 := hide hV1
  have HSEP := hide hsep
  have HOG := hide hog
  have HDIS := hide hdis
  have HGO := hide hgo
  have HI1 := hide hi1
  have HIZ := hide hiz
  have HIS := hide his
  have HIB := hide hib
  have HWE := hide hwaE
  clear h h' hfl hfl' hv hwa hb hs hws hp hsep hgo hog hdis hga hg1 hall hstay hF1 hB1 hS1 hP1 hW1 hX1 hV1 hD1 hDO hi1 hiz his hib hwaE
  go_enter Try.func57, Try.ntmps57
  go_wp2
  rw [← HWE.out]
  have q1 := H.out.c1
  have q2 := H.out.fr 1
  have q3 := HF.out.c1
  rw [HV.out] at q3
  have b0 : wa.cell? ⟨w.heap.size, 0, none⟩ = some (.bool x.cut) := by rw [blk_cell HWA.out]; rfl
  have b1 : wa.cell? ⟨w.heap.size, 1, none⟩ = some (.int .i64 (x.pos : Int)) := by rw [blk_cell HWA.out]; rfl
  have b2 : wa.cell? ⟨w.heap.size, 2, none⟩ = some vp := by rw [blk_cell HWA.out]; rfl
  go_still_tail 12, (by kernel_rfl)
  go_wp2_with (go_at_call 59; refine HDO.out.mono ?_; rintro e w2 ⟨rfl, hpost⟩; have HPO := hide hpost; clear hpost)
  clear q1 q2 q3 b0 b1 b2
  obtain ⟨vb2, sh2, hF2, hB2, hT2, hK2⟩ := HPO.out
  obtain ⟨A2, c2, rfl, hnc2, hcm2⟩ := hB2.form
  unfold maxLen at hcm2
  have hS2 := hK2 own fv.vs f.safe HS1.out HSEP.out
  have hV2 : FsB w2 g { v with used := v.used - f.bytes.length } := Go.Proofs.Ytccapgcpdehicaa.do_stay hT2 HV1.out hgf (by decide)
  have hX2 : w2.heap[w.heap.size]? = some (.cells #[.bool x.cut, .int .i64 (x.pos : Int), vp] 116 (0, 0)) := Go.Proofs.Ytccapgcpdehicaa.do_stay hT2 HX1.out (by omega) (by decide)
  generalize (wa.setCell ⟨g, 1, none⟩ (.int .i64 (v.used - f.bytes.length))).drew = w1 at *
  have hP2 : BsAt w2 rd vp x.p := HP1.out.keep fun i hi hl => hT2.block i hl (fun hh => by
    rcases hh with rfl | hh
    · exact (HDIS.out _ hi).1 hof
    · exact (HDIS.out _ hi).1 hh.1)
  have hW2 : WsAt w2 own rd fv.vw f.waits := HW1.out.do_stay hT2 HF1.out hof (fun i hi => (HDIS.out i hi).1)
  have hsz1 : w.heap.size ≤ w1.heap.size := HALL.out.size
  have hsz2 : w1.heap.size ≤ w2.heap.size := hT2.size
  have hgA : w.grownBy w1 (some g) := HALL.out
  have HT12 : Hid (Turned (fun i => i = g ∨ own i) w w2) := hide ((Turned.of_gb (M := fun i => i = g ∨ own i) hgA (fun i e => .inl (by injection e with e; exact e.symm))).trans hT2 (fun i _ h => by
    rcases h with rfl | h
    · exact .inr hof
    · exact .inr h.1))
  -- behind the second store
  have hg3 : w2.grownBy ((w2.setCell ⟨g, 1, none⟩ (.int .i64 (v.used - f.bytes.length + (doW f.bytes x).length))).drew) (some g) := gb_drew (gb_set (gb_refl w2 (some g)) 1 _)
  have HV3 : Hid (FsB ((w2.setCell ⟨g, 1, none⟩ (.int .i64 (v.used - f.bytes.length + (doW f.bytes x).length))).drew) g { v with used := v.used - f.bytes.length + (doW f.bytes x).length }) := hide (hV2.set1 _)
  have HF3 := hide (show FlB ((w2.setCell ⟨g, 1, none⟩ (.int .i64 (v.used - f.bytes.length + (doW f.bytes x).length))).drew) fb _ from hF2.keep (hg3.block fb hF2.lt (fun e => hgf (by injection e with e; exact e.symm))))
  have HX3 := hide (show ((w2.setCell ⟨g, 1, none⟩ (.int .i64 (v.used - f.bytes.length + (doW f.bytes x).length))).drew).heap[w.heap.size]? = _ from (hg3.block w.heap.size (blk_lt hX2) (fun e => by injection e with e; omega)).trans hX2)
  have HP3 := hide (hP2.other hg3 hV2 (by decide))
  have HS3 := hide (hS2.1.other hg3 hV2 (by decide))
  have HB3 := hide (hB2.other hg3 hV2 (by decide))
  have HW3 := hide (hW2.keep (w' := (w2.setCell ⟨g, 1, none⟩ (.int .i64 (v.used - f.bytes.length + (doW f.bytes x).length))).drew) (rest_stay (fun i hi => (HOG.out i hi).2) (fun i hi => (HDIS.out i hi).2.2) hg3))
  have HT13 := hide (HT12.out.trans (Turned.of_gb (M := fun i => i = g) hg3 (fun i e => by injection e with e; exact e.symm)) (fun i _ h => .inl h))
  have HSEP2 := hide hS2.2
  have HSZ : Hid (w.heap.size ≤ w2.heap.size) := hide (Nat.le_trans hsz1 hsz2)
  have HS12 : Hid (w.heap.size ≤ w1.heap.size) := hide hsz1
  have s1 := hV2.c1
  have s2 := hV2.fr 1
  have s3 := hF2.c1
  have HN0 : Hid ((w2.setCell ⟨g, 1, none⟩ (.int .i64 (v.used - f.bytes.length + (doW f.bytes x).length))).drew.heap.size = w2.heap.size) := hide (by show (w2.setCell _ _).heap.size = _; simp [World.setCell])
  clear hg3 hV2 hF2 hX2 hP2 hS2 hB2 hW2 hT2 hK2 hsz1 hsz2 hgA HPO HALL HS1 HP1 HW1 HX1 HV1 HDO HF1
  go_still_tail 12, (by kernel_rfl)
  go_wp2_with fail
  clear s1 s2 s3
  generalize (w2.setCell ⟨g, 1, none⟩ (.int .i64 (v.used - f.bytes.length + (doW f.bytes x).length))).drew = w3 at *
  have r4 := HF3.out.c4
  have r5 := HF3.out.fr 4
  have b0 : w3.cell? ⟨w.heap.size, 0, none⟩ = some (.bool x.cut) := by rw [blk_cell HX3.out]; rfl
  have b1 : w3.cell? ⟨w.heap.size, 1, none⟩ = some (.int .i64 (x.pos : Int)) := by rw [blk_cell HX3.out]; rfl
  have b2 : w3.cell? ⟨w.heap.size, 2, none⟩ = some vp := by rw [blk_cell HX3.out]; rfl
  obtain ⟨l, hl1, hl2, hl3, hl4⟩ := HW3.out
  have HL2 := hide hl2
  have HL3 := hide hl3
  have HL4 := hide hl4
  have HL1 := hide hl1
  have hll : l.length ≤ 1000000 := by rw [← List.length_map (f := (·.1)), hl1]; exact hwl
  clear hl1 hl2 hl3 hl4
  have HRN := hide (Rd.new w3 #[.bool x.cut, .int .i64 (x.pos : Int), vp] 116 [.bool x.cut, .int .i64 (x.pos : Int), vp] rfl)
  have HOC := hide (struct_cells x vp (by obtain ⟨_, _, e, _⟩ := HP3.out.form; rw [e]; rfl))
  have HLA : Hid ((w3.alloc (.cells #[.bool x.cut, .int .i64 (x.pos : Int), vp] 116)).ownsRow 0 116 3 fv.vw l.length (wcells l)) := hide (HL2.out.alloc _)
  have DEC1 : Hid (82 ≠ 116) := hide (by decide)
  have DEC2 : Hid (64 ≠ 116) := hide (by decide)
  have HM1 : Hid (l.length + 1 ≤ maxLen) := hide (by unfold maxLen; omega)
  have HM2 : Hid ((l.length + 1) * 40 ≤ 140737488355328) := hide (by omega)
  have r4a : (w3.alloc (.cells #[.bool x.cut, .int .i64 (x.pos : Int), vp] 116)).cell? ⟨fb, 4, none⟩ = some fv.vw := (HF3.out.alloc _).c4
  have n4 := World.new_ne w3 _ r4
  have n0 := World.new_ne w3 _ b0
  go_region_law
    ((refine step_append_row (by rfl) (.tmp 37) (.tmp 39) 80 (by rfl) 0 116 i1 (.agg #[.bool false, .int .i64 0, .slice none 0 0]) 3 40 Try.underlying80 HI1.out HIZ.out HIS.out HIB.out rfl (Nat.succ_pos 2) fv.vw l.length (wcells l) (by rfl) HLA.out (w3.heap.size + 1) (some ⟨w3.heap.size, 0, none⟩) 1 1 [.bool x.cut, .int .i64 (x.pos : Int), vp] (by rfl) rfl HRN.out HOC.out HM1.out HM2.out (Nat.zero_le _) ?_; intro v5 w5 ho5 hg5 hb5; obtain ⟨A5, c5, rfl⟩ := own_slice ho5; have HO5 := hide ho5; have hg6 : (w3.alloc (.cells #[.bool x.cut, .int .i64 (x.pos : Int), vp] 116)).grownBy w5 fv.vw.ownBlock := ⟨hg5.os, hg5.tape, hg5.output, hg5.size, hg5.block⟩; have HG5 : Hid (w3.grownBy w5 fv.vw.ownBlock) := hide (gb_trans (gb_alloc (gb_refl w3 fv.vw.ownBlock) (.cells #[.bool x.cut, .int .i64 (x.pos : Int), vp] 116)) hg6 (.inl rfl)); clear hg6; have HBB5 := hide hb5; clear ho5 hg5 hb5; have HF5 : Hid (FlB w5 fb { fv with vb := .slice A2 (doW f.bytes x).length c2, shared := sh2 }) := hide (row_stay HL2.out HG5.out HF3.out DEC1.out); have HV5 : Hid (FsB w5 g { v with used := v.used - f.bytes.length + (doW f.bytes x).length }) := hide (row_stay HL2.out HG5.out HV3.out DEC2.out); have t4 := HF5.out.c4; have t5 := HF5.out.fr 4))
  all_goals
    clear r4 r4a r5 b0 b1 b2 n0 n4 t4 t5
    have HV6 := hide (show FsB (w5.setCell ⟨fb, 4, none⟩ (.slice A5 (l.length + 1) c5)) g { v with used := v.used - f.bytes.length + (doW f.bytes x).length } from HV5.out.keep (Below.heap_setCell _ _ _ _ hgf))
    have hle1 : v.ops ≤ 2000000000 := h02
    go_wp2_with (go_at_call 32; refine (count_any g _ _ HV6.out h01 h02 ha).mono ?_; rintro e w6 ⟨rfl, hv6, hg6⟩; have HV7 := hide hv6; have HG7 := hide hg6; clear hv6 hg6)
    go_end0
    have hg5 : w5.grownBy (w5.setCell ⟨fb, 4, none⟩ (.slice A5 (l.length + 1) c5)) (some fb) := gb_set (gb_refl w5 (some fb)) 4 _
    have st8 : ∀ {P : Nat → Prop} {u : Value} {ys : List UInt8}, BsAt w3 P u ys → BsAt w6 P u ys := fun h => ((row_stay8 HL2.out HG5.out h (by decide)).other hg5 HF5.out (by decide)).other HG7.out HV6.out (by decide)
    have hf6 : FlB w6 fb { fv with vb := .slice A2 (doW f.bytes x).length c2, shared := sh2, vw := .slice A5 (l.length + 1) c5 } := (HF5.out.set4 _).keep (HG7.out.block fb (HF5.out.set4 (.slice A5 (l.length + 1) c5)).lt (fun e => hgf (by injection e with e; exact e.symm)))
    have hsz : w3.heap.size ≤ w6.heap.size := Nat.le_trans HG5.out.size (Nat.le_trans hg5.size HG7.out.size)
    have hsz0 : w.heap.size ≤ w3.heap.size := HT13.out.size
    refine ⟨rfl, HV7.out, ⟨_, hf6, .inl hof, HGO.out, ?_, ?_, HSEP2.out, ?_⟩, ?_⟩
    · refine (st8 HB3.out).lts fun i hi hl => ?_
      rcases hi with hi | hi
      · exact .inl hi
      · exact .inr ⟨by have := HS12.out; omega, hl⟩
    · exact (st8 HS3.out).mono fun i hi => .inl hi
    · have ho6 := own_other (own_other HO5.out hg5 HF5.out (by decide)) HG7.out HV6.out (by decide)
      have := WsAt.push (own := ext own w w6) (rd := rd) ho6 rfl (fun i hi => by
        have hlt := own_lt ho6 i hi
        rcases HBB5.out with hb | hb
        · exact .inl (HL3.out i (hb ▸ hi))
        · rw [hb] at hi
          injection hi with hi
          refine .inr ⟨?_, hlt⟩
          rw [← hi]
          refine Nat.le_trans hsz0 ?_
          show w3.heap.size ≤ (w3.alloc _).heap.size
          simp) (fun y hy => st8 (HL4.out y hy)) (st8 HP3.out)
      rw [HL1.out] at this
      exact this
    · refine ((HT13.out.trans (Turned.of_gb (M := own) HG5.out HL3.out) (fun i _ h => .inr h)).trans (Turned.of_gb (M := fun i => i = fb) hg5 (fun i e => by injection e with e; exact e.symm)) (fun i _ h => .inr (by rw [h]; exact hof))).trans (Turned.of_gb (M := fun i => i = g) HG7.out (fun i e => by injection e with e; exact e.symm)) (fun i _ h => .inl h)

end Go.Proofs.Ytccapgcpdehicaa

namespace Go.Proofs.Ytccapgcpdehicaa
open Go.RowKit

set_option maxHeartbeats 2000000 in
set_option maxRecDepth 100000 in
theorem put_arg (g fb : Nat) (own rd : Nat → Prop) (f : Fl) (k : Int) (A : Option Addr) (n c : Nat) (w : World) (hf : FileAt w own rd fb f) (hk : k < 0 ∨ (f.bytes.length : Int) < k) :
    Calls Try.prog 30 #[.pointer (some ⟨g, 0, none⟩), .pointer (some ⟨fb, 0, none⟩), .int .i64 k, .slice A n c] w fun e w' => e = .returned (.int .i64 2) ∧ w = w' := by
  obtain ⟨fv, hfl, _, _, hb, _⟩ := hf
  obtain ⟨A1, c1, hv, hnc, hcm⟩ := hb.form
  unfold maxLen at hcm
  have h1 := hfl.c1
  rw [hv] at h1
  clear hfl hb hv
  rcases hk with hk | hk
  · go_enter Try.func30, Try.ntmps30
    go_wp2
    go_ret
    exact ⟨rfl, rfl⟩
  · have hk0 : ¬ k < 0 := by omega
    have hk1 : (0 : Int) ≤ k := by omega
    go_enter Try.func30, Try.ntmps30
    go_wp2
    go_ret
    exact ⟨rfl, rfl⟩

set_option maxHeartbeats 2000000 in
set_option maxRecDepth 100000 in
theorem put_full (g fb : Nat) (v : FsV) (own rd : Nat → Prop) (f : Fl) (k n : Nat) (A : Option Addr) (c : Nat) (w : World) (h : FsB w g v) (hf : FileAt w own rd fb f) (hk : k ≤ f.bytes.length) (hn : n ≤ 1000000000) (hfl : f.bytes.length ≤ 1000000000)
    (hu : 0 ≤ v.used ∧ v.used ≤ 1000000000000000) (hm : f.bytes.length < k + n) (hc : v.cap < v.used + (k + n - f.bytes.length : Int)) :
    Calls Try.prog 30 #[.pointer (some ⟨g, 0, none⟩), .pointer (some ⟨fb, 0, none⟩), .int .i64 (k : Int), .slice A n c] w fun e w' => e = .returned (.int .i64 5) ∧ ∃ j, w' = w.drewN j := by
  obtain ⟨fv, hfl, _, _, hb, _⟩ := hf
  obtain ⟨A1, c1, hv, hnc, hcm⟩ := hb.form
  unfold maxLen at hcm
  obtain ⟨hu1, hu2⟩ := hu
  have h1 := hfl.c1
  rw [hv] at h1
  have q0 := h.c0
  have q1 := h.c1
  have hm' : (0 : Int) < (k : Int) + (n : Int) - (f.bytes.length : Int) := by omega
  have hw1 : IntKind.i64.wrap ((k : Int) + (n : Int)) = (k : Int) + (n : Int) := IntWalk.i64_in _ (by omega)
  have hw2 : IntKind.i64.wrap ((k : Int) + (n : Int) - (f.bytes.length : Int)) = (k : Int) + (n : Int) - (f.bytes.length : Int) := IntWalk.i64_in _ (by omega)
  have hw3 : IntKind.i64.wrap (v.used + ((k : Int) + (n : Int) - (f.bytes.length : Int))) = v.used + ((k : Int) + (n : Int) - (f.bytes.length : Int)) := IntWalk.i64_in _ (by omega)
  have hd1 : decide ((f.bytes.length : Int) < (k : Int) + (n : Int)) = true := by simp; omega
  have hd2 : decide (v.cap < v.used + ((k : Int) + (n : Int) - (f.bytes.length : Int))) = true := by simpa using hc
  clear hfl hb hv h hm
  go_enter Try.func30, Try.ntmps30
  go_wp2
  go_quiet (fail)
  go_wp2
  go_ret
  exact ⟨rfl, _, rfl⟩

/-- What put leaves where it writes. -/
def PutPost (g fb : Nat) (v : FsV) (own rd : Nat → Prop) (f : Fl) (x : Wr) (w : World) (e : Ending) (w' : World) : Prop :=
  e = .returned (.int .i64 0) ∧ FsB w' g ({ v with used := v.used - f.bytes.length + (doW f.bytes x).length } : FsV).count ∧ Turned (fun i => i = g ∨ own i) w w' ∧
    ∃ s, w.heap.size ≤ s ∧ s ≤ w'.heap.size ∧ FileAt w' (fun i => own i ∨ (s ≤ i ∧ i < w'.heap.size)) (fun i => rd i ∨ (w.heap.size ≤ i ∧ i < s)) fb { f with bytes := doW f.bytes x, waits := f.waits ++ [x] }

theorem doW_len (b p : List UInt8) (k : Nat) (h : k ≤ b.length) : (doW b ⟨false, k, p⟩).length = max b.length (k + p.length) := by
  simp [doW]
  omega

/-- Behind the clone: what alter is called with. -/
theorem put_alter {g fb : Nat} {v : FsV} {own rd : Nat → Prop} {f : Fl} {k n c2 : Nat} {A2 : Option Addr} {p : List UInt8} {w wq w1 : World} (h : FsB w g v) (hf : FileAt w own rd fb f) (hq : ∃ j, wq = w.drewN j) (hk : k ≤ f.bytes.length)
    (hdis : ∀ i, rd i → ¬ own i ∧ i < w.heap.size ∧ i ≠ g) (hog : ∀ i, own i → i < w.heap.size ∧ i ≠ g) (hlen : f.bytes.length + p.length ≤ 1000000000) (hwl : f.waits.length ≤ 1000000)
    (hu : 0 ≤ v.used ∧ v.used ≤ 1000000000000000) (h0 : 0 ≤ v.ops ∧ v.ops ≤ 2000000000) (ha : v.armed ≤ 9223372036854775807) (hdl : (doW f.bytes ⟨false, k, p⟩).length ≤ 2000000000)
    (hb1 : BsAt w1 (fun i => wq.heap.size ≤ i ∧ i < w1.heap.size) (.slice A2 n c2) p) (hg1 : wq.grownBy w1 none) :
    Calls Try.prog 57 #[.pointer (some ⟨g, 0, none⟩), .pointer (some ⟨fb, 0, none⟩), .agg #[.bool false, .int .i64 (k : Int), .slice A2 n c2]] w1 fun e w' => e = .returned (.tuple #[]) ∧ PutPost g fb v own rd f ⟨false, k, p⟩ w (.returned (.int .i64 0)) w' := by
  obtain ⟨j, rfl⟩ := hq
  have hgw : w.grownBy w1 none := ⟨hg1.os, hg1.tape, hg1.output, hg1.size, hg1.block⟩
  have hgl := h.lt
  have h1 : FsB w1 g v := h.keep (hgw.block g hgl (by simp))
  have hf1 : FileAt w1 own (fun i => rd i ∨ (w.heap.size ≤ i ∧ i < w1.heap.size)) fb f := (hf.keep fun i _ hl => hgw.block i hl (by simp)).mono (fun _ _ h => h) (fun _ _ h => .inl h)
  refine (alter_any g fb v own (fun i => rd i ∨ (w.heap.size ≤ i ∧ i < w1.heap.size)) f ⟨false, k, p⟩ (.slice A2 n c2) w1 h1 hf1 (hb1.mono fun i hi => .inr hi) hk (fun i hi => ?_) (fun i hi => ⟨Nat.lt_of_lt_of_le (hog i hi).1 hgw.size, (hog i hi).2⟩) hlen hwl hu h0 ha hdl).mono fun e w' ⟨he, h2, h3, h4⟩ => ⟨he, rfl, h2, ?_, w1.heap.size, hgw.size, h4.size, h3⟩
  · rcases hi with hi | hi
    · exact ⟨(hdis i hi).1, Nat.lt_of_lt_of_le (hdis i hi).2.1 hgw.size, (hdis i hi).2.2⟩
    · exact ⟨fun ho => by have := (hog i ho).1; omega, hi.2, by omega⟩
  · exact (Turned.of_gb (M := fun i => i = g ∨ own i) hgw (by simp)).trans h4 fun _ _ h => h

set_option maxHeartbeats 4000000 in
set_option maxRecDepth 100000 in
theorem put_ok (g fb : Nat) (v : FsV) (own rd : Nat → Prop) (f : Fl) (k n : Nat) (A : Option Addr) (c B : Nat) (p : List UInt8) (w : World) (h : FsB w g v) (hf : FileAt w own rd fb f) (hr : Rd w B A (u8s p)) (hB : B ≤ w.heap.size) (hn : n = p.length) (hk : k ≤ f.bytes.length)
    (hdis : ∀ i, rd i → ¬ own i ∧ i < w.heap.size ∧ i ≠ g) (hog : ∀ i, own i → i < w.heap.size ∧ i ≠ g) (hlen : f.bytes.length + p.length ≤ 1000000000) (hwl : f.waits.length ≤ 1000000)
    (hu : 0 ≤ v.used ∧ v.used ≤ 1000000000000000) (h0 : 0 ≤ v.ops ∧ v.ops ≤ 2000000000) (ha : v.armed ≤ 9223372036854775807) (hfit : k + n ≤ f.bytes.length ∨ v.used + (k + n - f.bytes.length : Int) ≤ v.cap) :
    Calls Try.prog 30 #[.pointer (some ⟨g, 0, none⟩), .pointer (some ⟨fb, 0, none⟩), .int .i64 (k : Int), .slice A n c] w (PutPost g fb v own rd f ⟨false, k, p⟩ w) := by
  have hkk := hf
  obtain ⟨fv, hfl, _, _, hb, _⟩ := hkk
  obtain ⟨A1, c1, hv, hnc, hcm⟩ := hb.form
  unfold maxLen at hcm
  obtain ⟨hu1, hu2⟩ := hu
  have h1 := hfl.c1
  rw [hv] at h1
  have q0 := h.c0
  have q1 := h.c1
  have hw1 : IntKind.i64.wrap ((k : Int) + (n : Int)) = (k : Int) + (n : Int) := IntWalk.i64_in _ (by omega)
  have hw2 : IntKind.i64.wrap ((k : Int) + (n : Int) - (f.bytes.length : Int)) = (k : Int) + (n : Int) - (f.bytes.length : Int) := IntWalk.i64_in _ (by omega)
  have hw3 : IntKind.i64.wrap (v.used + ((k : Int) + (n : Int) - (f.bytes.length : Int))) = v.used + ((k : Int) + (n : Int) - (f.bytes.length : Int)) := IntWalk.i64_in _ (by omega)
  have H := hide h
  have HF := hide hf
  have HR := hide hr
  have HN := hide hn
  have HD := hide hdis
  have HO := hide hog
  have HPL : Hid (p.length ≤ 1000000000) := hide (by omega)
  have HLEN := hide hlen
  have HWL := hide hwl
  have HU : Hid (0 ≤ v.used ∧ v.used ≤ 1000000000000000) := hide ⟨hu1, hu2⟩
  have HH0 := hide h0
  have HHA := hide ha
  have HDL : Hid ((doW f.bytes ⟨false, k, p⟩).length ≤ 2000000000) := hide (by rw [doW_len _ _ _ hk]; omega)
  have HK := hide hk
  by_cases hm : f.bytes.length < k + n
  · have hc : v.used + ((k : Int) + (n : Int) - (f.bytes.length : Int)) ≤ v.cap := by omega
    have hd1 : decide ((f.bytes.length : Int) < (k : Int) + (n : Int)) = true := by simp; omega
    have hd2 : decide (v.cap < v.used + ((k : Int) + (n : Int) - (f.bytes.length : Int))) = false := by simp; omega
    clear hfl hb hv h hm hf hr hn hdis hog hlen hwl h0 ha hfit
    go_enter Try.func30, Try.ntmps30
    go_wp2
    go_quiet (fail)
    go_wp2_with (first
      | (go_at_call 38; refine (clone8_any A n c B p _ (Rd.drewN HR.out _) HN.out hB HPL.out).mono ?_; rintro e w1 ⟨A2, c2, rfl, hb1, hg1⟩; have HAL := hide (put_alter H.out HF.out ⟨_, rfl⟩ HK.out HD.out HO.out HLEN.out HWL.out HU.out HH0.out HHA.out HDL.out hb1 hg1); clear hb1 hg1)
      | (go_at_call 57; refine HAL.out.mono ?_; rintro e w2 ⟨rfl, hpost⟩; have HPO := hide hpost; clear hpost))
    go_ret
    exact HPO.out
  · have hd1 : decide ((f.bytes.length : Int) < (k : Int) + (n : Int)) = false := by simp; omega
    clear hfl hb hv h hf hr hn hdis hog hlen hwl h0 ha hfit
    go_enter Try.func30, Try.ntmps30
    go_wp2
    go_quiet (fail)
    go_wp2_with (first
      | (go_at_call 38; refine (clone8_any A n c B p _ (Rd.drewN HR.out _) HN.out hB HPL.out).mono ?_; rintro e w1 ⟨A2, c2, rfl, hb1, hg1⟩; have HAL := hide (put_alter H.out HF.out ⟨_, rfl⟩ HK.out HD.out HO.out HLEN.out HWL.out HU.out HH0.out HHA.out HDL.out hb1 hg1); clear hb1 hg1)
      | (go_at_call 57; refine HAL.out.mono ?_; rintro e w2 ⟨rfl, hpost⟩; have HPO := hide hpost; clear hpost))
    go_ret
    exact HPO.out

end Go.Proofs.Ytccapgcpdehicaa

namespace Go.Proofs.Ytccapgcpdehicaa
open Go.RowKit

/-- What was done to names. -/
structure Ch where
  src : ByteArray
  dst : ByteArray
  file : Nat
def chcells (l : List Ch) : List Value := l.flatMap fun c => [.string c.src, .string c.dst, .int .i64 (c.file : Int)]
theorem chcells_append (a b : List Ch) : chcells (a ++ b) = chcells a ++ chcells b := by simp [chcells]
def ChAt (w : World) (own : Nat → Prop) (vch : Value) (l : List Ch) : Prop := w.ownsRow 0 67 3 vch l.length (chcells l) ∧ ∀ g, vch.ownBlock = some g → own g

/-- A file system's state. -/
structure St where
  cap : Int
  used : Int
  last : Int
  ops : Int
  armed : Int
  dead : Bool
  files : Int → Option Fl
  names : List (ByteArray × Nat)
  safe : List (ByteArray × Nat)
  changes : List Ch
def St.v (S : St) (mf mn ms : Nat) (vch : Value) : FsV := ⟨S.cap, S.used, S.last, mf, mn, ms, vch, S.ops, S.armed, S.dead⟩
def St.count (S : St) : St := if 0 < S.armed then { S with ops := S.ops + 1, armed := S.armed - 1, dead := S.armed - 1 == 0 } else { S with ops := S.ops + 1 }
theorem St.count_v (S : St) (mf mn ms : Nat) (vch : Value) : (S.v mf mn ms vch).count = S.count.v mf mn ms vch := by
  unfold FsV.count St.count St.v
  by_cases h : 0 < S.armed <;> simp [h]
theorem St.count_files (S : St) : S.count.files = S.files := by unfold St.count; split <;> rfl
theorem St.count_names (S : St) : S.count.names = S.names := by unfold St.count; split <;> rfl
theorem St.count_safe (S : St) : S.count.safe = S.safe := by unfold St.count; split <;> rfl
theorem St.count_changes (S : St) : S.count.changes = S.changes := by unfold St.count; split <;> rfl
def St.setFile (S : St) (n : Int) (f : Fl) : St := { S with files := fun m => if m = n then some f else S.files m }

/-- The file system S lies in block g; L labels the blocks: 1: its own, 2: bytes that nobody writes over, 3 + n: those of file n. -/
structure FsIn (w : World) (L : Nat → Nat) (g : Nat) (S : St) (mf mn ms : Nat) (vch : Value) (lf : List (Int × Nat)) : Prop where
  blk : FsB w g (S.v mf mn ms vch)
  lg : L g = 1
  lmf : L mf = 1
  lmn : L mn = 1
  lms : L ms = 1
  ns : mn ≠ ms
  fn : mf ≠ mn
  fs : mf ≠ ms
  files : MapAt encF w mf lf
  names : MapAt encN w mn S.names
  safe : MapAt encN w ms S.safe
  chs : ChAt w (fun i => L i = 1) vch S.changes
  at_ : ∀ n fb, aget lf n = some fb → 0 < n ∧ ∃ f, S.files n = some f ∧ FileAt w (fun i => L i = n.toNat + 3) (fun i => L i = 2) fb f
  no : ∀ n, aget lf n = none → S.files n = none
  lt : ∀ i, L i ≠ 0 → i < w.heap.size
def FsAt (w : World) (L : Nat → Nat) (g : Nat) (S : St) : Prop := ∃ mf mn ms vch lf, FsIn w L g S mf mn ms vch lf

/-- What an operation may do to memory. -/
structure Moved (L : Nat → Nat) (w : World) (L' : Nat → Nat) (w' : World) : Prop where
  turned : Turned (fun i => L i = 1 ∨ 3 ≤ L i) w w'
  same : ∀ i, i < w.heap.size → L' i = L i
theorem Moved.refl (L : Nat → Nat) (w : World) : Moved L w L w := ⟨Turned.refl _ w, fun _ _ => rfl⟩
theorem Moved.trans {L L1 L2 : Nat → Nat} {w w1 w2 : World} (h : Moved L w L1 w1) (k : Moved L1 w1 L2 w2) : Moved L w L2 w2 :=
  ⟨h.turned.trans k.turned fun i hi hm => by rwa [h.same i hi] at hm, fun i hi => (k.same i (Nat.lt_of_lt_of_le hi h.turned.size)).trans (h.same i hi)⟩
theorem Moved.drewN {L L' : Nat → Nat} {w w' : World} (h : Moved L w L' w') (n : Nat) : Moved L w L' (w'.drewN n) := ⟨h.turned.drewN n, h.same⟩
theorem FsAt.drewN {w : World} {L : Nat → Nat} {g : Nat} {S : St} (h : FsAt w L g S) (n : Nat) : FsAt (w.drewN n) L g S := by
  obtain ⟨mf, mn, ms, vch, lf, h⟩ := h
  exact ⟨mf, mn, ms, vch, lf, h.blk, h.lg, h.lmf, h.lmn, h.lms, h.ns, h.fn, h.fs, h.files, h.names, h.safe, h.chs, h.at_, h.no, h.lt⟩
/-- What an operation leaves. -/
def FsPost (L : Nat → Nat) (g : Nat) (S' : St) (v : Value) (w : World) (e : Ending) (w' : World) : Prop := e = .returned v ∧ ∃ L', FsAt w' L' g S' ∧ Moved L w L' w'

/-- The file system stays while blocks that it does not own are written, and new ones are made. -/
theorem FsAt.keep {w w' : World} {L : Nat → Nat} {g : Nat} {S : St} {M : Nat → Prop} (h : FsAt w L g S) (hT : Turned M w w') (hM : ∀ i, L i ≠ 0 → ¬ M i) : FsAt w' L g S := by
  obtain ⟨mf, mn, ms, vch, lf, h⟩ := h
  have st : ∀ i, L i ≠ 0 → w'.heap[i]? = w.heap[i]? := fun i hi => hT.block i (h.lt i hi) (hM i hi)
  refine ⟨mf, mn, ms, vch, lf, h.blk.keep (st g (by rw [h.lg]; decide)), h.lg, h.lmf, h.lmn, h.lms, h.ns, h.fn, h.fs, h.files.keep (st mf (by rw [h.lmf]; decide)), h.names.keep (st mn (by rw [h.lmn]; decide)), h.safe.keep (st ms (by rw [h.lms]; decide)), ⟨own_keep h.chs.1 fun i hi _ => st i (by have : L i = 1 := h.chs.2 i hi; rw [this]; decide), h.chs.2⟩, fun n fb hn => ?_, h.no, fun i hi => Nat.lt_of_lt_of_le (h.lt i hi) hT.size⟩
  obtain ⟨h0, f, h1, h2⟩ := h.at_ n fb hn
  exact ⟨h0, f, h1, h2.keep fun i hi _ => st i (by rcases hi with hi | hi <;> rw [hi] <;> omega)⟩

/-- A file system whose file n has been turned. -/
theorem FsIn.turn_in {w w' : World} {L : Nat → Nat} {g : Nat} {S S' : St} {mf mn ms : Nat} {vch : Value} {lf : List (Int × Nat)} {n : Int} {fb s : Nat} {f' : Fl} (h : FsIn w L g S mf mn ms vch lf) (hn : aget lf n = some fb)
    (hb : FsB w' g (S'.v mf mn ms vch)) (hT : Turned (fun i => i = g ∨ L i = n.toNat + 3) w w') (hs : w.heap.size ≤ s) (hs' : s ≤ w'.heap.size)
    (hf : FileAt w' (fun i => L i = n.toNat + 3 ∨ (s ≤ i ∧ i < w'.heap.size)) (fun i => L i = 2 ∨ (w.heap.size ≤ i ∧ i < s)) fb f')
    (e1 : S'.files = fun m => if m = n then some f' else S.files m) (e2 : S'.names = S.names) (e3 : S'.safe = S.safe) (e4 : S'.changes = S.changes) :
    ∃ L', FsIn w' L' g S' mf mn ms vch lf ∧ Moved L w L' w' := by
  obtain ⟨hn0, f, hf0, _⟩ := h.at_ n fb hn
  have hgl := h.blk.lt
  refine ⟨fun i => if i < w.heap.size then L i else if i < s then 2 else if i < w'.heap.size then n.toNat + 3 else 0, ⟨hb, ?_, ?_, ?_, ?_, h.ns, h.fn, h.fs, ?_, ?_, ?_, ⟨?_, ?_⟩, ?_, ?_, ?_⟩, ⟨hT.mono fun i _ hi => ?_, fun i hi => if_pos hi⟩⟩
  · rw [if_pos hgl]; exact h.lg
  · rw [if_pos h.files.lt]; exact h.lmf
  · rw [if_pos h.names.lt]; exact h.lmn
  · rw [if_pos h.safe.lt]; exact h.lms
  · refine h.files.keep (hT.block mf h.files.lt fun hi => ?_)
    rcases hi with hi | hi
    · obtain ⟨es, cl, hm, _⟩ := h.files
      have hg' : w.heap[g]? = _ := h.blk
      rw [hi, hg'] at hm
      cases hm
    · rw [h.lmf] at hi; omega
  · rw [e2]
    refine h.names.keep (hT.block mn h.names.lt fun hi => ?_)
    rcases hi with hi | hi
    · obtain ⟨es, cl, hm, _⟩ := h.names
      have hg' : w.heap[g]? = _ := h.blk
      rw [hi, hg'] at hm
      cases hm
    · rw [h.lmn] at hi; omega
  · rw [e3]
    refine h.safe.keep (hT.block ms h.safe.lt fun hi => ?_)
    rcases hi with hi | hi
    · obtain ⟨es, cl, hm, _⟩ := h.safe
      have hg' : w.heap[g]? = _ := h.blk
      rw [hi, hg'] at hm
      cases hm
    · rw [h.lms] at hi; omega
  · rw [e4]
    refine own_keep h.chs.1 fun i hi hl => hT.block i hl fun hh => ?_
    rcases hh with rfl | hh
    · exact own_ne h.chs.1 h.blk (by decide) hi
    · have : L i = 1 := h.chs.2 i hi
      omega
  · intro i hi
    show (if i < w.heap.size then L i else _) = 1
    rw [if_pos (own_lt h.chs.1 i hi)]
    exact h.chs.2 i hi
  · intro m fb' hm
    rw [e1]
    by_cases hmn : m = n
    · subst hmn
      rw [hn] at hm
      injection hm with hm
      subst hm
      refine ⟨hn0, f', if_pos rfl, hf.mono (fun i hl hi => ?_) (fun i hl hi => ?_)⟩
      · show (if i < w.heap.size then L i else if i < s then 2 else if i < w'.heap.size then m.toNat + 3 else 0) = m.toNat + 3
        rcases hi with hi | hi
        · rw [if_pos (h.lt i (by rw [hi]; omega))]
          exact hi
        · rw [if_neg (by omega), if_neg (by omega), if_pos hi.2]
      · show (if i < w.heap.size then L i else if i < s then 2 else if i < w'.heap.size then m.toNat + 3 else 0) = 2
        rcases hi with hi | hi
        · rw [if_pos (h.lt i (by rw [hi]; omega))]
          exact hi
        · rw [if_neg (by omega), if_pos hi.2]
    · obtain ⟨hm0, f2, hf2, hfa⟩ := h.at_ m fb' hm
      refine ⟨hm0, f2, by simp [hmn, hf2], (hfa.keep fun i hi hl => hT.block i hl fun hh => ?_).mono (fun i hl hi => ?_) (fun i hl hi => ?_)⟩
      · rcases hh with rfl | hh
        · rcases hi with hi | hi <;> rw [h.lg] at hi <;> omega
        · rcases hi with hi | hi
          · have : m.toNat = n.toNat := by omega
            exact hmn (by omega)
          · omega
      · show (if i < w.heap.size then L i else _) = m.toNat + 3
        rw [if_pos (h.lt i (by rw [hi]; omega))]
        exact hi
      · show (if i < w.heap.size then L i else _) = 2
        rw [if_pos (h.lt i (by rw [hi]; omega))]
        exact hi
  · intro m hm
    rw [e1]
    have hmn : m ≠ n := fun e => by rw [e, hn] at hm; cases hm
    show (if m = n then some f' else S.files m) = none
    rw [if_neg hmn]
    exact h.no m hm
  · intro i hi
    by_cases h1 : i < w.heap.size
    · exact Nat.lt_of_lt_of_le h1 hT.size
    · by_cases h2 : i < s
      · omega
      · by_cases h3 : i < w'.heap.size
        · exact h3
        · simp [h1, h2, h3] at hi
  · rcases hi with rfl | hi
    · exact .inl h.lg
    · exact .inr (by omega)

/-- A file system whose file n has been turned. -/
theorem FsIn.turn {w w' : World} {L : Nat → Nat} {g : Nat} {S S' : St} {mf mn ms : Nat} {vch : Value} {lf : List (Int × Nat)} {n : Int} {fb s : Nat} {f' : Fl} (h : FsIn w L g S mf mn ms vch lf) (hn : aget lf n = some fb)
    (hb : FsB w' g (S'.v mf mn ms vch)) (hT : Turned (fun i => i = g ∨ L i = n.toNat + 3) w w') (hs : w.heap.size ≤ s) (hs' : s ≤ w'.heap.size)
    (hf : FileAt w' (fun i => L i = n.toNat + 3 ∨ (s ≤ i ∧ i < w'.heap.size)) (fun i => L i = 2 ∨ (w.heap.size ≤ i ∧ i < s)) fb f')
    (e1 : S'.files = fun m => if m = n then some f' else S.files m) (e2 : S'.names = S.names) (e3 : S'.safe = S.safe) (e4 : S'.changes = S.changes) :
    ∃ L', FsAt w' L' g S' ∧ Moved L w L' w' :=
  let ⟨L', h1, h2⟩ := h.turn_in hn hb hT hs hs' hf e1 e2 e3 e4
  ⟨L', ⟨mf, mn, ms, vch, lf, h1⟩, h2⟩

end Go.Proofs.Ytccapgcpdehicaa
