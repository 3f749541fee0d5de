/-
  The document's file system (quiverref02): its plain state, and how it lies in memory.
-/
import Derived.Test.YtmcmlkglkpbnpaaGreatQau
import Derived.Deep.RegionHeld3
import Derived.Deep.CutBlock
import Derived.Laws.OwnMore

namespace Go.Proofs.YtmcmlkglkpbnpaaGreat
open Go.RowKit

/-- Of what was there just the blocks M may have turned. -/
structure Turned (M : Nat → Prop) (w w' : World) : Prop where
  os : w'.os = w.os
  tape : w'.tape = w.tape
  output : w'.output = w.output
  size : w.heap.size ≤ w'.heap.size
  block : ∀ k, k < w.heap.size → ¬ M k → w'.heap[k]? = w.heap[k]?
section
variable {a b c w w' : World} {M M' : Nat → Prop}
theorem Turned.refl (M : Nat → Prop) (w : World) : Turned M w w := ⟨rfl, rfl, rfl, Nat.le_refl _, fun _ _ _ => rfl⟩
theorem Turned.of_gb {row : Option Nat} (h : w.grownBy w' row) (hr : ∀ g, row = some g → M g) : Turned M w w' := ⟨h.os, h.tape, h.output, h.size, fun k hk hm => h.block k hk (fun e => hm (hr k e.symm))⟩
theorem Turned.trans (h : Turned M a b) (k : Turned M' b c) (hM : ∀ i, i < a.heap.size → M' i → M i) : Turned M a c :=
  ⟨k.os.trans h.os, k.tape.trans h.tape, k.output.trans h.output, Nat.le_trans h.size k.size, fun i hi hm => (k.block i (Nat.lt_of_lt_of_le hi h.size) (fun e => hm (hM i hi e))).trans (h.block i hi hm)⟩
theorem Turned.mono (h : Turned M a b) (hM : ∀ i, i < a.heap.size → M i → M' i) : Turned M' a b := ⟨h.os, h.tape, h.output, h.size, fun i hi hm => h.block i hi (fun e => hm (hM i hi e))⟩
theorem Turned.drewN (h : Turned M a b) (n : Nat) : Turned M a (b.drewN n) := ⟨h.os, h.tape, h.output, h.size, h.block⟩
theorem Turned.alloc (h : Turned M a b) (o : Obj) : Turned M a (b.alloc o) := h.trans (Turned.of_gb (M := M) (gb_alloc (gb_refl b none) o) (by simp)) (fun _ _ h => h)
theorem Turned.below {B : Nat} (h : Turned M a b) (hB : B ≤ a.heap.size) (hM : ∀ i, M i → B ≤ i) : Below B a b := ⟨h.os, h.tape, h.output, h.size, fun k hk => h.block k (Nat.lt_of_lt_of_le hk hB) (fun e => by have := hM k e; omega)⟩
end

/-- Where 's[k:]' begins. -/
def cutA (A : Option Addr) (k c sz : Nat) : Option Addr := if c = k then A else A.map (·.add (k * sz))
theorem run_cut_from {P : Program} (w : World) {t e : TypeId} {i : TypeInfo} (A : Option Addr) (n c k sz : Nat) (ht : P.underlying t = some (.slice e)) (hi : P.info? e = some i) (hs : i.size = sz) (hk : k ≤ n) (_hn : n ≤ c) :
    (Instr.slice t (.slice A n c) (some (.int .i64 (k : Int))) none none).run P w = .ok (.slice (cutA A k c sz) (n - k) (c - k)) w := by
  subst hs
  simp [Instr.slice, Instr.sliceBounds, run_underlying ht, Instr.sliceBound, asIntOf, hk, sizeOf, typeInfo, hi, Result.andThen, cutA]
theorem cutA_pos {A : Option Addr} {g k c : Nat} (hA : A = some ⟨g, 0, none⟩) (hc : k < c) : cutA A k c 1 = some ⟨g, k, none⟩ := by
  subst hA
  have e : (⟨g, 0, none⟩ : Addr).add (k * 1) = ⟨g, k, none⟩ := by unfold Addr.add; split <;> simp_all
  unfold cutA
  rw [if_neg (by omega), Option.map_some, e]
theorem Rd.cutA {w : World} {B k c : Nat} {A : Option Addr} {bs : List UInt8} (h : Rd w B A (u8s bs)) (hk : k ≤ bs.length) (hc : bs.length ≤ c) : Rd w B (cutA A k c 1) (u8s (bs.drop k)) := by
  have := h.cut (k := k) (cap := c) (by rw [u8s_length]; exact hk) (by rw [u8s_length]; exact hc)
  rw [u8s_drop] at this
  have e : (fun x : Addr => x.add (k * 1)) = (fun x : Addr => x.add k) := by rw [Nat.mul_one]
  unfold Go.Proofs.YtmcmlkglkpbnpaaGreat.cutA
  rw [e]
  exact this

/-- A write, or a cut. -/
structure Wr where
  cut : Bool
  pos : Nat
  p : List UInt8
def doW (b : List UInt8) (x : Wr) : List UInt8 := if x.cut then b.take x.pos else b.take x.pos ++ x.p ++ b.drop (x.pos + x.p.length)

/-- A row of bytes. -/
def Is8 (w : World) (i : Nat) : Prop := ∃ cs fr, w.heap[i]? = some (.cells cs 5 fr)
theorem Is8.of_bs {w : World} {P : Nat → Prop} {g n c : Nat} {xs : List UInt8} (h : BsAt w P (.slice (some ⟨g, 0, none⟩) n c) xs) (h0 : 0 < xs.length) : Is8 w g := by
  rcases h with ⟨rfl, _⟩ | ⟨_, g', cap, cur, e, _, h3, _⟩
  · simp at h0
  · injection e with e
    injection e with e
    injection e with e
    exact ⟨cur, _, by rw [e]; exact h3⟩
theorem Turned.trans8 {a b c : World} {P Q : Nat → Prop} (h : Turned (fun i => P i ∧ Is8 a i) a b) (k : Turned (fun i => Q i ∧ Is8 b i) b c) : Turned (fun i => (P i ∨ Q i) ∧ Is8 a i) a c :=
  ⟨k.os.trans h.os, k.tape.trans h.tape, k.output.trans h.output, Nat.le_trans h.size k.size, fun i hi hm => by
    by_cases hp : P i ∧ Is8 a i
    · exact absurd ⟨.inl hp.1, hp.2⟩ hm
    · have e := h.block i hi hp
      refine (k.block i (Nat.lt_of_lt_of_le hi h.size) (fun hq => ?_)).trans e
      obtain ⟨cs, fr, h8⟩ := hq.2
      exact hm ⟨.inr hq.1, cs, fr, by rw [← e]; exact h8⟩⟩

/-- What do leaves. -/
def DoPost (g : Nat) (v : FlV) (own : Nat → Prop) (xs ys : List UInt8) (w : World) (e : Ending) (w' : World) : Prop :=
  e = .returned (.tuple #[]) ∧ ∃ vb sh, FlB w' g { v with vb := vb, shared := sh } ∧ BsAt w' (fun i => own i ∨ (w.heap.size ≤ i ∧ i < w'.heap.size)) vb ys ∧ Turned (fun i => i = g ∨ (own i ∧ Is8 w i)) w w' ∧ Keeps w w' v.vb xs.length v.shared vb ys.length sh

theorem FlB.alloc {w : World} {g : Nat} {v : FlV} (h : FlB w g v) (o : Obj) : FlB (w.alloc o) g v := h.keep (heap_alloc_old w o h.lt)
theorem BsAt.alloc {w : World} {own : Nat → Prop} {v : Value} {xs : List UInt8} (h : BsAt w own v xs) (o : Obj) : BsAt (w.alloc o) own v xs := h.keep fun _ _ hlt => heap_alloc_old w o hlt

/-- Another kind of block has turned. -/
theorem BsAt.other {w w' : World} {own : Nat → Prop} {v : Value} {xs : List UInt8} {g : Nat} {cs : Array Value} {t : TypeId} (h : BsAt w own v xs) (hg : w.grownBy w' (some g)) (hh : w.heap[g]? = some (.cells cs t (0, 0))) (ht : t ≠ 5) : BsAt w' own v xs := by
  rcases h with h | ⟨h0, g', cap, cur, h1, h2, h3, h4⟩
  · exact .inl h
  · refine .inr ⟨h0, g', cap, cur, h1, h2, (hg.block g' (blk_lt h3) (fun e => ?_)).trans h3, h4⟩
    injection e with e
    subst e
    rw [h3] at hh
    injection hh with hh
    injection hh with _ hh
    exact ht hh.symm
/-- A cut, bounds and all. -/
theorem BsAt.cut {w : World} {own : Nat → Prop} {A : Option Addr} {n c k : Nat} {xs : List UInt8} (h : BsAt w own (.slice A n c) xs) (hk : k ≤ xs.length) : BsAt w own (.slice A k k) (xs.take k) := by
  have hl : (xs.take k).length = k := by simp; omega
  rcases Nat.eq_zero_or_pos k with h0 | h0
  · subst h0
    exact .inl ⟨by simp, A, rfl⟩
  · rcases h with ⟨rfl, _⟩ | ⟨_, g, cap, cur, e, ho, hg, hnc, hcc, hcm, hfull, htk⟩
    · simp at hk; omega
    · injection e with e1 e2 e3
      subst e1
      exact .inr ⟨by omega, g, k, cur, by rw [hl], ho, hg, by omega, by omega, hcm, .inr hl.symm, by rw [hl]; exact take_u8s htk hk⟩
theorem Keeps.cut {w w' : World} {A : Option Addr} {n c k : Nat} {g : Nat} {v : FlV} {sh : Bool} (hg : w.grownBy w' (some g)) (hf : FlB w g v) : Keeps w w' (.slice A n c) n sh (.slice A k k) k sh := by
  intro own vs xs hb hs
  refine ⟨(Keeps.cell (v := .slice A n c) (n := n) (sh := sh) hg hf (by decide) own vs xs hb hs).1, fun g1 h1 h2 h0 => ?_⟩
  have h1' : (Value.slice A n c).ownBlock = some g1 := by
    cases A <;> simp_all [Value.ownBlock]
  exact ⟨(hs g1 h1' h2 h0).1, .inr ⟨A, rfl⟩⟩

set_option maxHeartbeats 1000000 in
set_option maxRecDepth 100000 in
theorem do_cut (g : Nat) (v : FlV) (own : Nat → Prop) (xs : List UInt8) (k : Nat) (vp : Value) (w : World) (h : FlB w g v) (hb : BsAt w own v.vb xs) (hk : k ≤ xs.length) :
    Calls Tryz.prog 69 #[.pointer (some ⟨g, 0, none⟩), .agg #[.bool true, .int .i64 (k : Int), vp]] w (DoPost g v own xs (xs.take k) w) := by
  obtain ⟨A, c, hv, hn, hc⟩ := hb.form
  unfold maxLen at hc
  have h' := h.alloc (.cells #[.bool true, .int .i64 (k : Int), vp] 147)
  have hb' := hb.alloc (.cells #[.bool true, .int .i64 (k : Int), vp] 147)
  rw [hv] at hb'
  have hW := heap_alloc_new w (.cells #[.bool true, .int .i64 (k : Int), vp] 147)
  have hgw := gb_alloc (gb_refl w none) (.cells #[.bool true, .int .i64 (k : Int), vp] 147)
  have H := hide h'
  have HB := hide hb'
  have HV := hide hv
  have HW := hide hW
  have HG := hide hgw
  have H0 := hide h
  have hnk : k ≤ c := by omega
  clear h h' hb hb' hv hW hgw
  go_enter Tryz.func69, Tryz.ntmps69
  go_wp2
  generalize w.alloc (.cells #[.bool true, .int .i64 (k : Int), vp] 147) = wa at *
  have h1 := H.out.c1
  have f1 := H.out.fr 1
  rw [HV.out] at h1
  have b1 : wa.cell? ⟨w.heap.size, 1, none⟩ = some (.int .i64 (k : Int)) := by rw [blk_cell HW.out]; rfl
  go_still_tail 12, (by kernel_rfl)
  go_wp2
  refine bodyPost_ret (results_none rfl _ _ _) rfl ?_
  have hg1 := gb_drew (gb_set (gb_refl wa (some g)) 1 (.slice A k k))
  have hg2 : w.grownBy _ (some g) := gb_trans (gb_some HG.out (some g)) hg1 (.inl rfl)
  have hl : (xs.take k).length = k := by simp; omega
  refine ⟨rfl, .slice A k k, v.shared, (H.out.set1 _), ?_, Turned.of_gb hg2 (fun i e => .inl (by injection e with e; exact e.symm)), ?_⟩
  · exact (((HB.out.cut hk).other (gb_drew (gb_set (gb_refl wa (some g)) 1 (.slice A k k))) H.out (by decide))).mono fun i hi => .inl hi
  · rw [HV.out, hl]
    exact Keeps.cut hg2 H0.out


/-- The blocks own, and those that are new. -/
def ext (own : Nat → Prop) (w w' : World) : Nat → Prop := fun i => own i ∨ (w.heap.size ≤ i ∧ i < w'.heap.size)

/-- The bytes that are put: they are read alone. -/
def PAt (w : World) (own : Nat → Prop) (v : Value) (xs : List UInt8) : Prop :=
  ∃ A c, v = .slice A xs.length c ∧ xs.length ≤ c ∧ c ≤ maxLen ∧ (0 < xs.length → ∃ g cur, A = some ⟨g, 0, none⟩ ∧ own g ∧ w.heap[g]? = some (.cells cur 5 (0, 0)) ∧ cur.toList.take xs.length = u8s xs)
theorem BsAt.put {w : World} {own : Nat → Prop} {v : Value} {xs : List UInt8} (h : BsAt w own v xs) : PAt w own v xs := by
  rcases h with ⟨rfl, A, e⟩ | ⟨h0, g, cap, cur, e, ho, hg, hnc, hcc, hcs, hfull, htk⟩
  · exact ⟨A, 0, e, Nat.le_refl _, Nat.zero_le _, fun h => absurd h (Nat.lt_irrefl _)⟩
  · exact ⟨_, cap, e, hnc, Nat.le_trans hcc hcs, fun _ => ⟨g, cur, rfl, ho, hg, htk⟩⟩
theorem PAt.form {w : World} {own : Nat → Prop} {v : Value} {xs : List UInt8} (h : PAt w own v xs) : ∃ A c, v = .slice A xs.length c ∧ xs.length ≤ c ∧ c ≤ maxLen := by
  obtain ⟨A, c, h1, h2, h3, _⟩ := h
  exact ⟨A, c, h1, h2, h3⟩
theorem PAt.rd {w : World} {own : Nat → Prop} {v : Value} {xs : List UInt8} (h : PAt w own v xs) : ∃ A c, v = .slice A xs.length c ∧ xs.length ≤ c ∧ c ≤ maxLen ∧ Rd w w.heap.size A (u8s xs) := by
  obtain ⟨A, c, h1, h2, h3, h4⟩ := h
  refine ⟨A, c, h1, h2, h3, fun h0 => ?_⟩
  have hpos : 0 < xs.length := by
    rcases xs with _ | ⟨b, xs⟩
    · exact absurd rfl h0
    · simp
  obtain ⟨g, cur, rfl, ho, hg, htk⟩ := h4 hpos
  refine ⟨_, rfl, blk_lt hg, fun j u hu => ?_⟩
  have e : (⟨g, 0, none⟩ : Addr).add j = ⟨g, j, none⟩ := by unfold Addr.add; split <;> simp_all
  have hj : j < xs.length := by have := (List.getElem?_eq_some_iff.1 hu).1; rwa [u8s_length] at this
  rw [e, blk_cell hg, ← hu, ← htk, List.getElem?_take, if_pos hj]
  simp
theorem PAt.keep {w w' : World} {own : Nat → Prop} {v : Value} {xs : List UInt8} (h : PAt w own v xs) (hk : ∀ g, own g → g < w.heap.size → w'.heap[g]? = w.heap[g]?) : PAt w' own v xs := by
  obtain ⟨A, c, h1, h2, h3, h4⟩ := h
  refine ⟨A, c, h1, h2, h3, fun h0 => ?_⟩
  obtain ⟨g, cur, hA, ho, hg, htk⟩ := h4 h0
  exact ⟨g, cur, hA, ho, (hk g ho (blk_lt hg)).trans hg, htk⟩
theorem PAt.alloc {w : World} {own : Nat → Prop} {v : Value} {xs : List UInt8} (h : PAt w own v xs) (o : Obj) : PAt (w.alloc o) own v xs := h.keep fun _ _ hlt => heap_alloc_old w o hlt
theorem PAt.other {w w' : World} {own : Nat → Prop} {v : Value} {xs : List UInt8} {g : Nat} {cs : Array Value} {t : TypeId} (h : PAt w own v xs) (hg : w.grownBy w' (some g)) (hh : w.heap[g]? = some (.cells cs t (0, 0))) (ht : t ≠ 5) : PAt w' own v xs := by
  obtain ⟨A, c, h1, h2, h3, h4⟩ := h
  refine ⟨A, c, h1, h2, h3, fun h0 => ?_⟩
  obtain ⟨g', cur, hA, ho, hg', htk⟩ := h4 h0
  refine ⟨g', cur, hA, ho, (hg.block g' (blk_lt hg') (fun e => ?_)).trans hg', htk⟩
  injection e with e
  subst e
  rw [hg'] at hh
  injection hh with hh
  injection hh with _ hh
  exact ht hh.symm
/-- A beginning of bytes, the spare room left. -/
theorem BsAt.short {w : World} {own : Nat → Prop} {A : Option Addr} {n c k : Nat} {xs : List UInt8} (h : BsAt w own (.slice A n c) xs) (hk : k ≤ xs.length) : PAt w own (.slice A k c) (xs.take k) := by
  have hl : (xs.take k).length = k := by simp; omega
  obtain ⟨A', c', e, h2, h3, h4⟩ := h.put
  injection e with e1 _ e3
  subst e1; subst e3
  refine ⟨A, c, by rw [hl], by omega, h3, fun h0 => ?_⟩
  obtain ⟨g, cur, hA, ho, hg, htk⟩ := h4 (by omega)
  exact ⟨g, cur, hA, ho, hg, by rw [hl]; exact take_u8s htk hk⟩

/-- Half way through do: the bytes may be written over, if there are any to be. -/
def DoMid (g : Nat) (v : FlV) (own rd : Nat → Prop) (xs bs : List UInt8) (n o : Nat) (vp : Value) (O : Obj) (w wc : World) : Prop :=
  ∃ A c sh, FlB wc g { v with vb := .slice A n c, shared := sh } ∧ BsAt wc (ext own w wc) (.slice A n c) xs ∧ wc.heap[w.heap.size]? = some O ∧ w.heap.size < wc.heap.size ∧
    Turned (fun i => i = g) w wc ∧ Keeps w wc v.vb xs.length v.shared (.slice A n c) xs.length sh ∧ (0 < o → sh = false) ∧ PAt wc rd vp bs

theorem DoMid.start {g : Nat} {v : FlV} {own rd : Nat → Prop} {xs bs : List UInt8} {n o c : Nat} {A : Option Addr} {vp : Value} {O : Obj} {w : World} (h : FlB w g v) (hv : v.vb = .slice A n c) (hb : BsAt w own v.vb xs) (hp : PAt w rd vp bs) (ho : 0 < o → v.shared = false) (k : Nat) :
    DoMid g v own rd xs bs n o vp O w ((w.alloc O).drewN k) := by
  have e : ({ v with vb := .slice A n c, shared := v.shared } : FlV) = v := by rw [← hv]
  refine ⟨A, c, v.shared, by rw [e]; exact h.alloc O, ?_, heap_alloc_new w O, by simp, ((Turned.refl _ w).alloc O).drewN k, ?_, ho, hp.alloc O⟩
  · rw [← hv]
    exact (hb.alloc O).mono fun i hi => .inl hi
  · rw [← hv]
    exact Keeps.same (gb_drewN (gb_alloc (gb_refl w none) O) k)

/-- .. behind a clone of shared bytes. -/
theorem DoMid.cloned {g : Nat} {v : FlV} {own rd : Nat → Prop} {xs bs : List UInt8} {n o c c1 : Nat} {A A1 : Option Addr} {vp : Value} {O : Obj} {w wa w1 : World} (hm : DoMid g v own rd xs bs n 0 vp O w wa) (hb : BsAt w1 (fun i => wa.heap.size ≤ i ∧ i < w1.heap.size) (.slice A1 n c1) xs) (hg : wa.grownBy w1 none)
    (hf : FlB w1 g { v with vb := .slice A n c, shared := true }) (hgw : g < w.heap.size) (hx : 0 < xs.length) :
    DoMid g v own rd xs bs n o vp O w ((w1.setCell ⟨g, 1, none⟩ (.slice A1 n c1)).setCell ⟨g, 3, none⟩ (.bool false)) := by
  obtain ⟨A0, c0, sh, _, _, h3, h4, h5, h6, _, h8⟩ := hm
  have hf1 := hf.set1 (.slice A1 n c1)
  have hf2 := hf1.set3 false
  have hg1 : w1.grownBy ((w1.setCell ⟨g, 1, none⟩ (.slice A1 n c1)).setCell ⟨g, 3, none⟩ (.bool false)) (some g) := gb_set (gb_set (gb_refl w1 (some g)) 1 _) 3 _
  have hsz : ((w1.setCell ⟨g, 1, none⟩ (.slice A1 n c1)).setCell ⟨g, 3, none⟩ (.bool false)).heap.size = w1.heap.size := by simp [World.setCell]
  refine ⟨A1, c1, false, hf2, ?_, ?_, ?_, ?_, ?_, fun _ => rfl, ?_⟩
  · refine (hb.other hg1 hf (by decide)).mono fun i hi => .inr ?_
    rw [hsz]
    exact ⟨by omega, hi.2⟩
  · have e1 : w1.heap[w.heap.size]? = _ := (hg.block _ h4 (by simp)).trans h3
    refine (hg1.block _ (blk_lt e1) (fun e => ?_)).trans e1
    injection e with e
    omega
  · rw [hsz]; exact Nat.lt_of_lt_of_le h4 hg.size
  · exact (h5.trans (Turned.of_gb (M := fun i => i = g) hg (by simp)) (fun _ _ h => h)).trans (Turned.of_gb (M := fun i => i = g) hg1 (fun i e => by injection e with e; exact e.symm)) (fun i _ h => h)
  · have k1 : Keeps wa w1 (.slice A0 n c0) xs.length sh (.slice A1 n c1) xs.length false := by
      rcases hb with ⟨rfl, _⟩ | ⟨h0, g', cap, cur, e, ho, _⟩
      · simp at hx
      · refine Keeps.grown hg (fun i e' => ?_)
        rw [e] at e'
        injection e' with e'
        rw [← e']
        exact ho.1
    exact (h6.trans k1).trans (Keeps.cell hg1 hf (by decide))
  · exact (h8.keep fun i _ hi => hg.block i hi (by simp)).other hg1 hf (by decide)

/-- A block of another kind stays while bytes grow, or are written over. -/
theorem keepB {w w' : World} {own : Nat → Prop} {v : Value} {xs : List UInt8} {row : Option Nat} (hb : BsAt w own v xs) (hg : w.grownBy w' row) (hr : row = none ∨ (0 < xs.length ∧ row = v.ownBlock)) {i : Nat} {cs : Array Value} {t : TypeId} {fr : Nat × Nat} (hh : w.heap[i]? = some (.cells cs t fr)) (ht : t ≠ 5) : w'.heap[i]? = some (.cells cs t fr) := by
  refine (hg.block i (blk_lt hh) (fun e => ?_)).trans hh
  rcases hr with rfl | ⟨h0, rfl⟩
  · cases e
  · rcases hb with ⟨rfl, _⟩ | ⟨_, g, cap, cur, rfl, _, h3, _⟩
    · simp at h0
    · injection e with e
      have e' : i = g := e
      subst e'
      rw [h3] at hh
      injection hh with hh
      injection hh with _ hh
      exact ht hh.symm
theorem row_ok {v : Value} {xs : List UInt8} : (if xs = [] then none else v.ownBlock) = none ∨ (0 < xs.length ∧ (if xs = [] then none else v.ownBlock) = v.ownBlock) := by
  by_cases h : xs = []
  · exact .inl (if_pos h)
  · exact .inr ⟨List.length_pos_iff.2 h, if_neg h⟩
/-- The blocks that hold bytes are there. -/
theorem BsAt.lts {w : World} {P own : Nat → Prop} {v : Value} {xs : List UInt8} (h : BsAt w P v xs) (hP : ∀ i, P i → i < w.heap.size → own i) : BsAt w own v xs := by
  rcases h with h | ⟨h0, g, cap, cur, h1, h2, h3, h4⟩
  · exact .inl h
  · exact .inr ⟨h0, g, cap, cur, h1, hP g h2 (blk_lt h3), h3, h4⟩
theorem BsAt.own {w : World} {P : Nat → Prop} {g n c : Nat} {xs : List UInt8} (h : BsAt w P (.slice (some ⟨g, 0, none⟩) n c) xs) (h0 : 0 < xs.length) : P g := by
  rcases h with ⟨rfl, _⟩ | ⟨_, g', cap, cur, e, h2, _⟩
  · simp at h0
  · injection e with e
    injection e with e
    injection e with e
    rw [e]
    exact h2
/-- Where bytes are, they begin a row. -/
theorem BsAt.head {w : World} {P : Nat → Prop} {A : Option Addr} {n c : Nat} {xs : List UInt8} (h : BsAt w P (.slice A n c) xs) (h0 : 0 < xs.length) : ∃ g, A = some ⟨g, 0, none⟩ := by
  rcases h with ⟨rfl, _⟩ | ⟨_, g', cap, cur, e, h2, _⟩
  · simp at h0
  · injection e with e
    exact ⟨g', e⟩

/-- A write in two: what is written over, what is put behind. -/
theorem doW_parts {xs bs : List UInt8} {k o : Nat} (h : o = bs.length ∨ (k + o = xs.length ∧ o ≤ bs.length)) : (xs.take k ++ bs.take o ++ xs.drop (k + o)) ++ bs.drop o = xs.take k ++ bs ++ xs.drop (k + bs.length) := by
  rcases h with rfl | ⟨h1, h2⟩
  · simp
  · rw [List.drop_of_length_le (l := xs) (i := k + o) (by omega), List.drop_of_length_le (l := xs) (i := k + bs.length) (by omega)]
    simp [List.append_assoc]
/-- What the second half of do leaves. -/
theorem DoMid.fin {g : Nat} {v : FlV} {own : Nat → Prop} {xs ys zs : List UInt8} {n : Nat} {w wc w2 w3 : World} {A1 A2 : Option Addr} {c1 c2 n2 : Nat} {sh : Bool}
    (hT : Turned (fun i => i = g) w wc) (hK : Keeps w wc v.vb xs.length v.shared (.slice A1 n c1) xs.length sh)
    (hT2 : Turned (fun i => ext own w wc i ∧ Is8 wc i) wc w2) (hK2 : Keeps wc w2 (.slice A1 n c1) xs.length sh (.slice A1 n c1) ys.length sh) (hf2 : FlB w2 g { v with vb := .slice A1 n c1, shared := sh })
    (hb2 : BsAt w2 (ext own w wc) (.slice A1 n c1) ys)
    (hb3 : BsAt w3 (fun i => ext own w wc i ∨ i = w2.heap.size) (.slice A2 n2 c2) zs) (hg3 : w2.grownBy w3 (if ys = [] then none else (Value.slice A1 n c1).ownBlock)) (hK3 : ∀ sh, Keeps w2 w3 (.slice A1 n c1) ys.length sh (.slice A2 n2 c2) zs.length sh) (j : Nat) :
    DoPost g v own xs zs w (.returned (.tuple #[])) ((w3.setCell ⟨g, 1, none⟩ (.slice A2 n2 c2)).drewN j) := by
  have hf3 : FlB w3 g { v with vb := .slice A1 n c1, shared := sh } := keepB hb2 hg3 row_ok hf2 (by decide)
  have hg4 : w3.grownBy ((w3.setCell ⟨g, 1, none⟩ (.slice A2 n2 c2)).drewN j) (some g) := gb_drewN (gb_set (gb_refl w3 (some g)) 1 _) j
  have hsz : ((w3.setCell ⟨g, 1, none⟩ (.slice A2 n2 c2)).drewN j).heap.size = w3.heap.size := by
    show (w3.setCell ⟨g, 1, none⟩ (.slice A2 n2 c2)).heap.size = _
    simp [World.setCell]
  refine ⟨rfl, .slice A2 n2 c2, sh, hf3.set1 _, ?_, ?_, ?_⟩
  · refine (hb3.other hg4 hf3 (by decide)).lts fun i hi hlt => ?_
    rcases hi with (hi | hi) | hi
    · exact .inl hi
    · exact .inr ⟨hi.1, hlt⟩
    · exact .inr ⟨by rw [hi]; exact Nat.le_trans hT.size hT2.size, hlt⟩
  · have hT3 : Turned (fun i => ext own w wc i ∧ Is8 w2 i) w2 w3 := Turned.of_gb hg3 fun i hi => by
      rcases hb2 with ⟨rfl, _⟩ | ⟨h0, g', cap, cur, e, h2, h3, _⟩
      · cases hi
      · rw [if_neg (by rintro rfl; simp at h0), e] at hi
        injection hi with hi
        have e' : g' = i := hi
        exact ⟨e' ▸ h2, cur, _, e' ▸ h3⟩
    have hT4 : Turned (fun i => i = g) w3 _ := Turned.of_gb hg4 fun i e => by injection e with e; exact e.symm
    have h23 := hT2.trans8 hT3
    have hT' : Turned (fun i => i = g ∨ (own i ∧ Is8 w i)) w wc := hT.mono fun i _ h => .inl h
    refine (hT'.trans h23 fun i hi he => ?_).trans hT4 fun i _ h => .inl h
    by_cases hig : i = g
    · exact .inl hig
    · have e := hT.block i hi hig
      obtain ⟨he1, cs, fr, h8⟩ := he
      refine .inr ⟨?_, cs, fr, by rw [← e]; exact h8⟩
      rcases he1 with (he1 | he1) | (he1 | he1)
      · exact he1
      · omega
      · exact he1
      · omega
  · exact ((hK.trans hK2).trans (hK3 sh)).trans (Keeps.cell hg4 hf3 (by decide))

/-- copy at the operation. -/
theorem wpList_copy_bs {w : World} {ops : Array Oper} {rest : List Oper} {o : Oper} {a : Act} {Q : Exit → Act → World → Prop} (hgd : o.guard = none) (s x : Operand)
    (ho : o.op = .call { callee := .builtin .copy, args := #[s, x], argTypes := #[49, 49] })
    {own : Nat → Prop} {g cap dCap n' n k m : Nat} {xs bs : List UInt8} {A A' : Option Addr} {B c : Nat} (hs : a.eval s = .slice A' n' dCap) (hx : a.eval x = .slice A m c)
    (h : BsAt w own (.slice (some ⟨g, 0, none⟩) n cap) xs) (hn : n = xs.length) (hA : A' = some ⟨g, k, none⟩) (hn' : n' = xs.length - k) (hm : m = bs.length) (hr : Rd w B A (u8s bs)) (hk : k + bs.length ≤ xs.length) (hb0 : 0 < bs.length)
    (hK : ∀ z w', BsAt w' own (.slice (some ⟨g, 0, none⟩) n cap) (xs.take k ++ bs ++ xs.drop (k + bs.length)) → w.grownBy w' (some g) → Keeps w w' (.slice (some ⟨g, 0, none⟩) n cap) n false (.slice (some ⟨g, 0, none⟩) n cap) n false →
      wpList Tryz.prog ops Q rest (a.put o.dst (.int .i64 z)) w') : wpList Tryz.prog ops Q (o :: rest) a w := by
  subst hn
  subst hA
  subst hn'
  subst hm
  obtain ⟨w', hrun, h1, h2, _, h4⟩ := run_copy_bs (dCap := dCap) (c := c) o.type h (by omega) hr hk hb0
  refine wpList_plain hgd fun K' hK' => ?_
  unfold Oper.wp execOp
  simp only [ho, resolve, invoke, builtin, Sem.run_bind, Sem.run_pure, Result.andThen_ok, List.map_toArray, List.map_cons, List.map_nil, hs, hx]
  rw [hrun]
  exact hK' _ _ (hK _ w' h1 h2 h4)

/-- append as one step of a region that draws its order. -/
theorem step_append_bs {w : World} {ops : Array Oper} {o : Oper} {a : Act} {K : Act → World → Prop} {Q : Exit → Act → World → Prop} {E : Prop} (hgd : o.guard = none) (s x : Operand)
    (ho : o.op = .call { callee := .builtin .append, args := #[s, x], argTypes := #[49, 49] })
    {own : Nat → Prop} {v : Value} {xs bs : List UInt8} {A : Option Addr} {B c n : Nat} (hs : a.eval s = v) (hx : a.eval x = .slice A n c) (h : BsAt w own v xs) (hr : Rd w B A (u8s bs)) (hn : n = bs.length) (hl : xs.length + bs.length ≤ 1000000000)
    (hK : ∀ A' n' c' w', n' = (xs ++ bs).length → BsAt w' (fun i => own i ∨ i = w.heap.size) (.slice A' n' c') (xs ++ bs) → w.grownBy w' (if xs = [] then none else v.ownBlock) → (∀ sh, Keeps w w' v xs.length sh (.slice A' n' c') (xs ++ bs).length sh) →
      K (a.put o.dst (.slice A' n' c')) w') :
    if Region.wanted o (yielded ops a.tmps) = true then Oper.wp Tryz.prog o a w K Q else E := by
  subst hn
  have hw : Region.wanted o (yielded ops a.tmps) = true := by simp [Region.wanted, hgd]
  rw [if_pos hw]
  obtain ⟨v', w', hrun, h1, h2, h3, _⟩ := run_append_bs o.type h hr hl
  obtain ⟨A', c', rfl, _⟩ := h1.form
  unfold Oper.wp execOp
  simp only [ho, resolve, invoke, builtin, Sem.run_bind, Sem.run_pure, Result.andThen_ok, List.map_toArray, List.map_cons, List.map_nil, hs, hx]
  rw [hrun]
  exact hK A' _ c' w' rfl h1 h2 h3

end Go.Proofs.YtmcmlkglkpbnpaaGreat

namespace Go.Proofs.YtmcmlkglkpbnpaaGreat
open Go.RowKit

/-- A write (p at at_), or a cut (to at_). -/
structure RD where
  cut : Bool
  at_ : Nat
  p : ByteArray
/-- A name, and its file's number. -/
structure RE where
  name : ByteArray
  n : Nat
/-- What was done to names. -/
structure RM where
  kind : Nat
  a : ByteArray
  b : ByteArray
  n : Nat
/-- A file: its number, what is safe, what was done since, its bytes. -/
structure RFl where
  n : Nat
  safe : ByteArray
  l : List RD
  p : ByteArray
/-- The document's file system. -/
structure RS where
  f : List RFl
  d : List RE
  safe : List RE
  m : List RM
  cap : Int
  ops : Int
  left : Int
  off : Bool
def fE (e : RE) : List Value := [.string e.name, .int .i64 (e.n : Int)]
def fD (d : RD) : List Value := [.bool d.cut, .int .i64 (d.at_ : Int), .string d.p]
def fM (m : RM) : List Value := [.int .u8 (m.kind : Int), .string m.a, .string m.b, .int .i64 (m.n : Int)]
def encE (l : List RE) : List Value := l.flatMap fE
def encD (l : List RD) : List Value := l.flatMap fD
def encM (l : List RM) : List Value := l.flatMap fM
def encP (l : List Nat) : List Value := l.map fun b => .pointer (some ⟨b, 0, none⟩)
theorem fm_len {α : Type} (f : α → List Value) (k : Nat) (hk : ∀ x, (f x).length = k) (l : List α) : (l.flatMap f).length = l.length * k := by
  induction l with
  | nil => simp
  | cons a l ih => rw [List.flatMap_cons, List.length_append, hk, ih, List.length_cons, Nat.add_mul]; omega
theorem fm_at {α : Type} (f : α → List Value) (k : Nat) (hk : ∀ x, (f x).length = k) (l : List α) (i j : Nat) (hi : i < l.length) (hj : j < k) : (l.flatMap f)[i * k + j]? = (f l[i])[j]? := by
  induction l generalizing i with
  | nil => simp at hi
  | cons a l ih =>
    rw [List.flatMap_cons]
    cases i with
    | zero =>
      rw [Nat.zero_mul, Nat.zero_add, List.getElem?_append_left (by rw [hk]; exact hj)]
      rfl
    | succ i =>
      rw [List.getElem?_append_right (by rw [hk, Nat.add_mul]; omega), hk, show (i + 1) * k + j - k = i * k + j by rw [Nat.add_mul]; omega, ih i (by simpa using hi)]
      rfl
theorem encE_len (l : List RE) : (encE l).length = l.length * 2 := fm_len fE 2 (fun _ => rfl) l
theorem encD_len (l : List RD) : (encD l).length = l.length * 3 := fm_len fD 3 (fun _ => rfl) l
theorem encM_len (l : List RM) : (encM l).length = l.length * 4 := fm_len fM 4 (fun _ => rfl) l
theorem encP_len (l : List Nat) : (encP l).length = l.length * 1 := by simp [encP]
theorem encE_app (a b : List RE) : encE (a ++ b) = encE a ++ encE b := by simp [encE]
theorem encD_app (a b : List RD) : encD (a ++ b) = encD a ++ encD b := by simp [encD]
theorem encM_app (a b : List RM) : encM (a ++ b) = encM a ++ encM b := by simp [encM]
theorem encE_at {l : List RE} {i : Nat} (hi : i < l.length) : (encE l)[i * 2]? = some (.string l[i].name) ∧ (encE l)[i * 2 + 1]? = some (.int .i64 (l[i].n : Int)) :=
  ⟨fm_at fE 2 (fun _ => rfl) l i 0 hi (by decide), fm_at fE 2 (fun _ => rfl) l i 1 hi (by decide)⟩
theorem encD_at {l : List RD} {i : Nat} (hi : i < l.length) : (encD l)[i * 3]? = some (.bool l[i].cut) ∧ (encD l)[i * 3 + 1]? = some (.int .i64 (l[i].at_ : Int)) ∧ (encD l)[i * 3 + 2]? = some (.string l[i].p) :=
  ⟨fm_at fD 3 (fun _ => rfl) l i 0 hi (by decide), fm_at fD 3 (fun _ => rfl) l i 1 hi (by decide), fm_at fD 3 (fun _ => rfl) l i 2 hi (by decide)⟩
theorem encM_at {l : List RM} {i : Nat} (hi : i < l.length) : (encM l)[i * 4]? = some (.int .u8 (l[i].kind : Int)) ∧ (encM l)[i * 4 + 1]? = some (.string l[i].a) ∧ (encM l)[i * 4 + 2]? = some (.string l[i].b) ∧ (encM l)[i * 4 + 3]? = some (.int .i64 (l[i].n : Int)) :=
  ⟨fm_at fM 4 (fun _ => rfl) l i 0 hi (by decide), fm_at fM 4 (fun _ => rfl) l i 1 hi (by decide), fm_at fM 4 (fun _ => rfl) l i 2 hi (by decide), fm_at fM 4 (fun _ => rfl) l i 3 hi (by decide)⟩
theorem encP_at {l : List Nat} {i : Nat} (hi : i < l.length) : (encP l)[i]? = some (.pointer (some ⟨l[i], 0, none⟩)) := by
  unfold encP
  rw [List.getElem?_map, List.getElem?_eq_getElem hi]
  rfl
theorem oneE (l : List RE) : ∀ u ∈ encE l, u.oneCell' = true := by
  intro u hu
  obtain ⟨e, _, h⟩ := List.mem_flatMap.1 hu
  simp only [fE, List.mem_cons, List.not_mem_nil, or_false] at h
  rcases h with rfl | rfl <;> rfl
theorem oneD (l : List RD) : ∀ u ∈ encD l, u.oneCell' = true := by
  intro u hu
  obtain ⟨e, _, h⟩ := List.mem_flatMap.1 hu
  simp only [fD, List.mem_cons, List.not_mem_nil, or_false] at h
  rcases h with rfl | rfl | rfl <;> rfl
theorem oneM (l : List RM) : ∀ u ∈ encM l, u.oneCell' = true := by
  intro u hu
  obtain ⟨e, _, h⟩ := List.mem_flatMap.1 hu
  simp only [fM, List.mem_cons, List.not_mem_nil, or_false] at h
  rcases h with rfl | rfl | rfl | rfl <;> rfl
theorem oneP (l : List Nat) : ∀ u ∈ encP l, u.oneCell' = true := by
  intro u hu
  obtain ⟨b, _, rfl⟩ := List.mem_map.1 hu
  rfl
/-- The place of a name; -1: there is none. -/
def atR (d : List RE) (s : ByteArray) : Int := match d.findIdx? (fun e => decide (e.name = s)) with | some i => (i : Int) | none => -1
theorem atR_found {d : List RE} {s : ByteArray} {j : Nat} (hj : j < d.length) (h : d[j].name = s) (hn : ∀ (i : Nat) (hi : i < d.length), i < j → d[i].name ≠ s) : atR d s = (j : Int) := by
  have : d.findIdx? (fun e => decide (e.name = s)) = some j := List.findIdx?_eq_some_iff_getElem.2 ⟨hj, by simpa using h, fun i hi => by simpa using hn i (by omega) hi⟩
  unfold atR
  rw [this]
theorem atR_none {d : List RE} {s : ByteArray} (hn : ∀ (i : Nat) (hi : i < d.length), d[i].name ≠ s) : atR d s = -1 := by
  have : d.findIdx? (fun e => decide (e.name = s)) = none := List.findIdx?_eq_none_iff.2 fun x hx => by
    obtain ⟨i, hi, rfl⟩ := List.getElem_of_mem hx
    simpa using hn i hi
  unfold atR
  rw [this]
theorem atR_cases (d : List RE) (s : ByteArray) : (atR d s = -1 ∧ ∀ (i : Nat) (hi : i < d.length), d[i].name ≠ s) ∨ ∃ (j : Nat) (hj : j < d.length), atR d s = (j : Int) ∧ d[j].name = s ∧ ∀ (i : Nat) (hi : i < d.length), i < j → d[i].name ≠ s := by
  cases h : d.findIdx? (fun e => decide (e.name = s)) with
  | none =>
    left
    have := List.findIdx?_eq_none_iff.1 h
    exact ⟨by unfold atR; rw [h], fun i hi => by simpa using this d[i] (List.getElem_mem hi)⟩
  | some j =>
    right
    obtain ⟨hj, h1, h2⟩ := List.findIdx?_eq_some_iff_getElem.1 h
    exact ⟨j, hj, by unfold atR; rw [h], by simpa using h1, fun i _ hlt => by simpa using h2 i hlt⟩
/-- A directory behind a change. -/
def movedR (d : List RE) (m : RM) : List RE :=
  if m.kind = 99 then d ++ [⟨m.a, m.n⟩]
  else if m.kind = 100 then (if 0 ≤ atR d m.a then d.eraseIdx (atR d m.a).toNat else d)
  else if m.kind = 114 then
    (if atR d m.a < 0 ∨ m.a = m.b then d
     else if 0 ≤ atR (d.eraseIdx (atR d m.a).toNat) m.b then (d.eraseIdx (atR d m.a).toNat).eraseIdx (atR (d.eraseIdx (atR d m.a).toNat) m.b).toNat ++ [⟨m.b, (d.getD (atR d m.a).toNat ⟨⟨#[]⟩, 0⟩).n⟩]
     else d.eraseIdx (atR d m.a).toNat ++ [⟨m.b, (d.getD (atR d m.a).toNat ⟨⟨#[]⟩, 0⟩).n⟩])
  else d
/-- A file's bytes behind a write or a cut; of a write its first n bytes. -/
def doneR (p : ByteArray) (x : RD) (n : Nat) : ByteArray :=
  if x.cut then p.extract 0 x.at_
  else if p.size ≤ x.at_ + n then p.extract 0 x.at_ ++ x.p.extract 0 n
  else p.extract 0 x.at_ ++ x.p.extract 0 n ++ p.extract (x.at_ + n) p.size
theorem own_blk {w w' : World} {base n size : Nat} {e : TypeId} {v : Value} {xs : List Value} (h : w.ownsRow base e size v n xs) (hk : ∀ i, v.ownBlock = some i → w'.heap[i]? = w.heap[i]?) : w'.ownsRow base e size v n xs := by
  refine ⟨h.1, ?_⟩
  rcases h.2 with h0 | ⟨g, cap, cur, rfl, hb, hg, hr⟩
  · exact .inl h0
  · exact .inr ⟨g, cap, cur, rfl, hb, (hk g rfl).trans hg, hr⟩
/-- A file in memory, what was done to it in the row v. -/
structure RFAt (w : World) (b : Nat) (v : Value) (x : RFl) : Prop where
  box : w.heap[b]? = some (.cells #[.int .i64 (x.n : Int), .string x.safe, v, .string x.p] 108 (0, 0))
  row : w.ownsRow 0 111 3 v x.l.length (encD x.l)
/-- The blocks of a file system. -/
def ROwn (g : Nat) (bs : List Nat) (vs : List Value) (vF vD vS vM : Value) (i : Nat) : Prop :=
  i = g ∨ i ∈ bs ∨ (∃ v ∈ vs, v.ownBlock = some i) ∨ vF.ownBlock = some i ∨ vD.ownBlock = some i ∨ vS.ownBlock = some i ∨ vM.ownBlock = some i
/-- A file system in memory. -/
structure RAt (w : World) (g : Nat) (S : RS) (bs : List Nat) (vs : List Value) (vF vD vS vM : Value) : Prop where
  box : w.heap[g]? = some (.cells #[vF, vD, vS, vM, .int .i64 S.cap, .int .i64 S.ops, .int .i64 S.left, .bool S.off, .int .i64 0] 86 (0, 0))
  rF : w.ownsRow 0 104 1 vF bs.length (encP bs)
  rD : w.ownsRow 0 151 2 vD S.d.length (encE S.d)
  rS : w.ownsRow 0 151 2 vS S.safe.length (encE S.safe)
  rM : w.ownsRow 0 103 4 vM S.m.length (encM S.m)
  lb : bs.length = S.f.length
  lv : vs.length = S.f.length
  fl : ∀ (i : Nat) (h : i < S.f.length), RFAt w (bs.getD i 0) (vs.getD i undef) S.f[i]
  nd : bs.Nodup
  ap : ∀ i j, i < j → j < vs.length → (vs.getD i undef).ownBlock = none ∨ (vs.getD i undef).ownBlock ≠ (vs.getD j undef).ownBlock
/-- A file system in memory, among the blocks O. -/
def RsAt (w : World) (O : Nat → Prop) (g : Nat) (S : RS) : Prop := ∃ bs vs vF vD vS vM, RAt w g S bs vs vF vD vS vM ∧ ∀ i, ROwn g bs vs vF vD vS vM i → O i ∧ i < w.heap.size
/-- The blocks O, and those that have come since w. -/
def Onew (O : Nat → Prop) (w w' : World) (i : Nat) : Prop := O i ∨ w.heap.size ≤ i ∧ i < w'.heap.size
theorem RFAt.keep {w w' : World} {b : Nat} {v : Value} {x : RFl} (h : RFAt w b v x) (hb : w'.heap[b]? = w.heap[b]?) (hv : ∀ i, v.ownBlock = some i → w'.heap[i]? = w.heap[i]?) : RFAt w' b v x :=
  ⟨hb.trans h.box, own_blk h.row hv⟩
theorem RAt.keep {w w' : World} {g : Nat} {S : RS} {bs : List Nat} {vs : List Value} {vF vD vS vM : Value} (h : RAt w g S bs vs vF vD vS vM) (hk : ∀ i, ROwn g bs vs vF vD vS vM i → w'.heap[i]? = w.heap[i]?) : RAt w' g S bs vs vF vD vS vM :=
  ⟨(hk g (.inl rfl)).trans h.box, own_blk h.rF fun i e => hk i (.inr (.inr (.inr (.inl e)))), own_blk h.rD fun i e => hk i (.inr (.inr (.inr (.inr (.inl e))))), own_blk h.rS fun i e => hk i (.inr (.inr (.inr (.inr (.inr (.inl e)))))), own_blk h.rM fun i e => hk i (.inr (.inr (.inr (.inr (.inr (.inr e)))))),
    h.lb, h.lv, fun i hi => (h.fl i hi).keep (hk _ (.inr (.inl (by rw [List.getD_eq_getElem?_getD, List.getElem?_eq_getElem (by rw [h.lb]; exact hi)]; exact List.getElem_mem _)))) fun k e => hk k (.inr (.inr (.inl ⟨_, by rw [List.getD_eq_getElem?_getD, List.getElem?_eq_getElem (by rw [h.lv]; exact hi)]; exact List.getElem_mem _, e⟩))), h.nd, h.ap⟩
theorem RsAt.keep {w w' : World} {O : Nat → Prop} {g : Nat} {S : RS} {M : Nat → Prop} (h : RsAt w O g S) (hT : Turned M w w') (hM : ∀ i, O i → ¬ M i) : RsAt w' O g S := by
  obtain ⟨bs, vs, vF, vD, vS, vM, h1, h2⟩ := h
  exact ⟨bs, vs, vF, vD, vS, vM, h1.keep fun i hi => hT.block i (h2 i hi).2 (hM i (h2 i hi).1), fun i hi => ⟨(h2 i hi).1, Nat.lt_of_lt_of_le (h2 i hi).2 hT.size⟩⟩
theorem RsAt.gb {w w' : World} {O : Nat → Prop} {g : Nat} {S : RS} (h : RsAt w O g S) (hg : w.grownBy w' none) : RsAt w' O g S :=
  h.keep (M := fun _ => False) (Turned.of_gb hg (by simp)) fun _ _ h => h
end Go.Proofs.YtmcmlkglkpbnpaaGreat
