/-
  The contract of file.do at a write.
-/
import Derived.Test.YtccapgcpdehicaaQab
import Derived.Deep.RegionHeld3
import Derived.Deep.CutBlock
import Derived.Deep.RegionLaw

namespace Go.Proofs.Ytccapgcpdehicaa
open Go.RowKit

/-- Of what was there just the blocks M may have turned. -/
structure Turned (M : Nat → Prop) (w w' : World) : Prop where
  os : w'.os = w.os
  tape : w'.tape = w.tape
  output : w'.output = w.output
  size : w.heap.size ≤ w'.heap.size
  block : ∀ k, k < w.heap.size → ¬ M k → w'.heap[k]? = w.heap[k]?
section
variable {a b c w w' : World} {M M' : Nat → Prop}
theorem Turned.refl (M : Nat → Prop) (w : World) : Turned M w w := ⟨rfl, rfl, rfl, Nat.le_refl _, fun _ _ _ => rfl⟩
theorem Turned.of_gb {row : Option Nat} (h : w.grownBy w' row) (hr : ∀ g, row = some g → M g) : Turned M w w' := ⟨h.os, h.tape, h.output, h.size, fun k hk hm => h.block k hk (fun e => hm (hr k e.symm))⟩
theorem Turned.trans (h : Turned M a b) (k : Turned M' b c) (hM : ∀ i, i < a.heap.size → M' i → M i) : Turned M a c :=
  ⟨k.os.trans h.os, k.tape.trans h.tape, k.output.trans h.output, Nat.le_trans h.size k.size, fun i hi hm => (k.block i (Nat.lt_of_lt_of_le hi h.size) (fun e => hm (hM i hi e))).trans (h.block i hi hm)⟩
theorem Turned.mono (h : Turned M a b) (hM : ∀ i, i < a.heap.size → M i → M' i) : Turned M' a b := ⟨h.os, h.tape, h.output, h.size, fun i hi hm => h.block i hi (fun e => hm (hM i hi e))⟩
theorem Turned.drewN (h : Turned M a b) (n : Nat) : Turned M a (b.drewN n) := ⟨h.os, h.tape, h.output, h.size, h.block⟩
theorem Turned.alloc (h : Turned M a b) (o : Obj) : Turned M a (b.alloc o) := h.trans (Turned.of_gb (M := M) (gb_alloc (gb_refl b none) o) (by simp)) (fun _ _ h => h)
theorem Turned.below {B : Nat} (h : Turned M a b) (hB : B ≤ a.heap.size) (hM : ∀ i, M i → B ≤ i) : Below B a b := ⟨h.os, h.tape, h.output, h.size, fun k hk => h.block k (Nat.lt_of_lt_of_le hk hB) (fun e => by have := hM k e; omega)⟩
end

/-- Where 's[k:]' begins. -/
def cutA (A : Option Addr) (k c sz : Nat) : Option Addr := if c = k then A else A.map (·.add (k * sz))
theorem run_cut_from {P : Program} (w : World) {t e : TypeId} {i : TypeInfo} (A : Option Addr) (n c k sz : Nat) (ht : P.underlying t = some (.slice e)) (hi : P.info? e = some i) (hs : i.size = sz) (hk : k ≤ n) (_hn : n ≤ c) :
    (Instr.slice t (.slice A n c) (some (.int .i64 (k : Int))) none none).run P w = .ok (.slice (cutA A k c sz) (n - k) (c - k)) w := by
  subst hs
  simp [Instr.slice, Instr.sliceBounds, run_underlying ht, Instr.sliceBound, asIntOf, hk, sizeOf, typeInfo, hi, Result.andThen, cutA]
theorem cutA_pos {A : Option Addr} {g k c : Nat} (hA : A = some ⟨g, 0, none⟩) (hc : k < c) : cutA A k c 1 = some ⟨g, k, none⟩ := by
  subst hA
  have e : (⟨g, 0, none⟩ : Addr).add (k * 1) = ⟨g, k, none⟩ := by unfold Addr.add; split <;> simp_all
  unfold cutA
  rw [if_neg (by omega), Option.map_some, e]
theorem Rd.cutA {w : World} {B k c : Nat} {A : Option Addr} {bs : List UInt8} (h : Rd w B A (u8s bs)) (hk : k ≤ bs.length) (hc : bs.length ≤ c) : Rd w B (cutA A k c 1) (u8s (bs.drop k)) := by
  have := h.cut (k := k) (cap := c) (by rw [u8s_length]; exact hk) (by rw [u8s_length]; exact hc)
  rw [u8s_drop] at this
  have e : (fun x : Addr => x.add (k * 1)) = (fun x : Addr => x.add k) := by rw [Nat.mul_one]
  unfold Go.Proofs.Ytccapgcpdehicaa.cutA
  rw [e]
  exact this

/-- A write, or a cut. -/
structure Wr where
  cut : Bool
  pos : Nat
  p : List UInt8
def doW (b : List UInt8) (x : Wr) : List UInt8 := if x.cut then b.take x.pos else b.take x.pos ++ x.p ++ b.drop (x.pos + x.p.length)

/-- A row of bytes. -/
def Is8 (w : World) (i : Nat) : Prop := ∃ cs fr, w.heap[i]? = some (.cells cs 5 fr)
theorem Is8.of_bs {w : World} {P : Nat → Prop} {g n c : Nat} {xs : List UInt8} (h : BsAt w P (.slice (some ⟨g, 0, none⟩) n c) xs) (h0 : 0 < xs.length) : Is8 w g := by
  rcases h with ⟨rfl, _⟩ | ⟨_, g', cap, cur, e, _, h3, _⟩
  · simp at h0
  · injection e with e
    injection e with e
    injection e with e
    exact ⟨cur, _, by rw [e]; exact h3⟩
theorem Turned.trans8 {a b c : World} {P Q : Nat → Prop} (h : Turned (fun i => P i ∧ Is8 a i) a b) (k : Turned (fun i => Q i ∧ Is8 b i) b c) : Turned (fun i => (P i ∨ Q i) ∧ Is8 a i) a c :=
  ⟨k.os.trans h.os, k.tape.trans h.tape, k.output.trans h.output, Nat.le_trans h.size k.size, fun i hi hm => by
    by_cases hp : P i ∧ Is8 a i
    · exact absurd ⟨.inl hp.1, hp.2⟩ hm
    · have e := h.block i hi hp
      refine (k.block i (Nat.lt_of_lt_of_le hi h.size) (fun hq => ?_)).trans e
      obtain ⟨cs, fr, h8⟩ := hq.2
      exact hm ⟨.inr hq.1, cs, fr, by rw [← e]; exact h8⟩⟩

/-- What do leaves. -/
def DoPost (g : Nat) (v : FlV) (own : Nat → Prop) (xs ys : List UInt8) (w : World) (e : Ending) (w' : World) : Prop :=
  e = .returned (.tuple #[]) ∧ ∃ vb sh, FlB w' g { v with vb := vb, shared := sh } ∧ BsAt w' (fun i => own i ∨ (w.heap.size ≤ i ∧ i < w'.heap.size)) vb ys ∧ Turned (fun i => i = g ∨ (own i ∧ Is8 w i)) w w' ∧ Keeps w w' v.vb xs.length v.shared vb ys.length sh

theorem FlB.alloc {w : World} {g : Nat} {v : FlV} (h : FlB w g v) (o : Obj) : FlB (w.alloc o) g v := h.keep (heap_alloc_old w o h.lt)
theorem BsAt.alloc {w : World} {own : Nat → Prop} {v : Value} {xs : List UInt8} (h : BsAt w own v xs) (o : Obj) : BsAt (w.alloc o) own v xs := h.keep fun _ _ hlt => heap_alloc_old w o hlt

/-- Another kind of block has turned. -/
theorem BsAt.other {w w' : World} {own : Nat → Prop} {v : Value} {xs : List UInt8} {g : Nat} {cs : Array Value} {t : TypeId} (h : BsAt w own v xs) (hg : w.grownBy w' (some g)) (hh : w.heap[g]? = some (.cells cs t (0, 0))) (ht : t ≠ 5) : BsAt w' own v xs := by
  rcases h with h | ⟨h0, g', cap, cur, h1, h2, h3, h4⟩
  · exact .inl h
  · refine .inr ⟨h0, g', cap, cur, h1, h2, (hg.block g' (blk_lt h3) (fun e => ?_)).trans h3, h4⟩
    injection e with e
    subst e
    rw [h3] at hh
    injection hh with hh
    injection hh with _ hh
    exact ht hh.symm
/-- A cut, bounds and all. -/
theorem BsAt.cut {w : World} {own : Nat → Prop} {A : Option Addr} {n c k : Nat} {xs : List UInt8} (h : BsAt w own (.slice A n c) xs) (hk : k ≤ xs.length) : BsAt w own (.slice A k k) (xs.take k) := by
  have hl : (xs.take k).length = k := by simp; omega
  rcases Nat.eq_zero_or_pos k with h0 | h0
  · subst h0
    exact .inl ⟨by simp, A, rfl⟩
  · rcases h with ⟨rfl, _⟩ | ⟨_, g, cap, cur, e, ho, hg, hnc, hcc, hcm, hfull, htk⟩
    · simp at hk; omega
    · injection e with e1 e2 e3
      subst e1
      exact .inr ⟨by omega, g, k, cur, by rw [hl], ho, hg, by omega, by omega, hcm, .inr hl.symm, by rw [hl]; exact take_u8s htk hk⟩
theorem Keeps.cut {w w' : World} {A : Option Addr} {n c k : Nat} {g : Nat} {v : FlV} {sh : Bool} (hg : w.grownBy w' (some g)) (hf : FlB w g v) : Keeps w w' (.slice A n c) n sh (.slice A k k) k sh := by
  intro own vs xs hb hs
  refine ⟨(Keeps.cell (v := .slice A n c) (n := n) (sh := sh) hg hf (by decide) own vs xs hb hs).1, fun g1 h1 h2 h0 => ?_⟩
  have h1' : (Value.slice A n c).ownBlock = some g1 := by
    cases A <;> simp_all [Value.ownBlock]
  exact ⟨(hs g1 h1' h2 h0).1, .inr ⟨A, rfl⟩⟩

set_option maxHeartbeats 1000000 in
set_option maxRecDepth 100000 in
theorem do_cut (g : Nat) (v : FlV) (own : Nat → Prop) (xs : List UInt8) (k : Nat) (vp : Value) (w : World) (h : FlB w g v) (hb : BsAt w own v.vb xs) (hk : k ≤ xs.length) :
    Calls Try.prog 59 #[.pointer (some ⟨g, 0, none⟩), .agg #[.bool true, .int .i64 (k : Int), vp]] w (DoPost g v own xs (xs.take k) w) := by
  obtain ⟨A, c, hv, hn, hc⟩ := hb.form
  unfold maxLen at hc
  have h' := h.alloc (.cells #[.bool true, .int .i64 (k : Int), vp] 116)
  have hb' := hb.alloc (.cells #[.bool true, .int .i64 (k : Int), vp] 116)
  rw [hv] at hb'
  have hW := heap_alloc_new w (.cells #[.bool true, .int .i64 (k : Int), vp] 116)
  have hgw := gb_alloc (gb_refl w none) (.cells #[.bool true, .int .i64 (k : Int), vp] 116)
  have H := hide h'
  have HB := hide hb'
  have HV := hide hv
  have HW := hide hW
  have HG := hide hgw
  have H0 := hide h
  have hnk : k ≤ c := by omega
  clear h h' hb hb' hv hW hgw
  go_enter Try.func59, Try.ntmps59
  go_wp2
  generalize w.alloc (.cells #[.bool true, .int .i64 (k : Int), vp] 116) = wa at *
  have h1 := H.out.c1
  have f1 := H.out.fr 1
  rw [HV.out] at h1
  have b1 : wa.cell? ⟨w.heap.size, 1, none⟩ = some (.int .i64 (k : Int)) := by rw [blk_cell HW.out]; rfl
  go_still_tail 12, (by kernel_rfl)
  go_wp2
  refine bodyPost_ret (results_none rfl _ _ _) rfl ?_
  have hg1 := gb_drew (gb_set (gb_refl wa (some g)) 1 (.slice A k k))
  have hg2 : w.grownBy _ (some g) := gb_trans (gb_some HG.out (some g)) hg1 (.inl rfl)
  have hl : (xs.take k).length = k := by simp; omega
  refine ⟨rfl, .slice A k k, v.shared, (H.out.set1 _), ?_, Turned.of_gb hg2 (fun i e => .inl (by injection e with e; exact e.symm)), ?_⟩
  · exact (((HB.out.cut hk).other (gb_drew (gb_set (gb_refl wa (some g)) 1 (.slice A k k))) H.out (by decide))).mono fun i hi => .inl hi
  · rw [HV.out, hl]
    exact Keeps.cut hg2 H0.out


/-- The blocks own, and those that are new. -/
def ext (own : Nat → Prop) (w w' : World) : Nat → Prop := fun i => own i ∨ (w.heap.size ≤ i ∧ i < w'.heap.size)

/-- The bytes that are put: they are read alone. -/
def PAt (w : World) (own : Nat → Prop) (v : Value) (xs : List UInt8) : Prop :=
  ∃ A c, v = .slice A xs.length c ∧ xs.length ≤ c ∧ c ≤ maxLen ∧ (0 < xs.length → ∃ g cur, A = some ⟨g, 0, none⟩ ∧ own g ∧ w.heap[g]? = some (.cells cur 5 (0, 0)) ∧ cur.toList.take xs.length = u8s xs)
theorem BsAt.put {w : World} {own : Nat → Prop} {v : Value} {xs : List UInt8} (h : BsAt w own v xs) : PAt w own v xs := by
  rcases h with ⟨rfl, A, e⟩ | ⟨h0, g, cap, cur, e, ho, hg, hnc, hcc, hcs, hfull, htk⟩
  · exact ⟨A, 0, e, Nat.le_refl _, Nat.zero_le _, fun h => absurd h (Nat.lt_irrefl _)⟩
  · exact ⟨_, cap, e, hnc, Nat.le_trans hcc hcs, fun _ => ⟨g, cur, rfl, ho, hg, htk⟩⟩
theorem PAt.form {w : World} {own : Nat → Prop} {v : Value} {xs : List UInt8} (h : PAt w own v xs) : ∃ A c, v = .slice A xs.length c ∧ xs.length ≤ c ∧ c ≤ maxLen := by
  obtain ⟨A, c, h1, h2, h3, _⟩ := h
  exact ⟨A, c, h1, h2, h3⟩
theorem PAt.rd {w : World} {own : Nat → Prop} {v : Value} {xs : List UInt8} (h : PAt w own v xs) : ∃ A c, v = .slice A xs.length c ∧ xs.length ≤ c ∧ c ≤ maxLen ∧ Rd w w.heap.size A (u8s xs) := by
  obtain ⟨A, c, h1, h2, h3, h4⟩ := h
  refine ⟨A, c, h1, h2, h3, fun h0 => ?_⟩
  have hpos : 0 < xs.length := by
    rcases xs with _ | ⟨b, xs⟩
    · exact absurd rfl h0
    · simp
  obtain ⟨g, cur, rfl, ho, hg, htk⟩ := h4 hpos
  refine ⟨_, rfl, blk_lt hg, fun j u hu => ?_⟩
  have e : (⟨g, 0, none⟩ : Addr).add j = ⟨g, j, none⟩ := by unfold Addr.add; split <;> simp_all
  have hj : j < xs.length := by have := (List.getElem?_eq_some_iff.1 hu).1; rwa [u8s_length] at this
  rw [e, blk_cell hg, ← hu, ← htk, List.getElem?_take, if_pos hj]
  simp
theorem PAt.keep {w w' : World} {own : Nat → Prop} {v : Value} {xs : List UInt8} (h : PAt w own v xs) (hk : ∀ g, own g → g < w.heap.size → w'.heap[g]? = w.heap[g]?) : PAt w' own v xs := by
  obtain ⟨A, c, h1, h2, h3, h4⟩ := h
  refine ⟨A, c, h1, h2, h3, fun h0 => ?_⟩
  obtain ⟨g, cur, hA, ho, hg, htk⟩ := h4 h0
  exact ⟨g, cur, hA, ho, (hk g ho (blk_lt hg)).trans hg, htk⟩
theorem PAt.alloc {w : World} {own : Nat → Prop} {v : Value} {xs : List UInt8} (h : PAt w own v xs) (o : Obj) : PAt (w.alloc o) own v xs := h.keep fun _ _ hlt => heap_alloc_old w o hlt
theorem PAt.other {w w' : World} {own : Nat → Prop} {v : Value} {xs : List UInt8} {g : Nat} {cs : Array Value} {t : TypeId} (h : PAt w own v xs) (hg : w.grownBy w' (some g)) (hh : w.heap[g]? = some (.cells cs t (0, 0))) (ht : t ≠ 5) : PAt w' own v xs := by
  obtain ⟨A, c, h1, h2, h3, h4⟩ := h
  refine ⟨A, c, h1, h2, h3, fun h0 => ?_⟩
  obtain ⟨g', cur, hA, ho, hg', htk⟩ := h4 h0
  refine ⟨g', cur, hA, ho, (hg.block g' (blk_lt hg') (fun e => ?_)).trans hg', htk⟩
  injection e with e
  subst e
  rw [hg'] at hh
  injection hh with hh
  injection hh with _ hh
  exact ht hh.symm
/-- A beginning of bytes, the spare room left. -/
theorem BsAt.short {w : World} {own : Nat → Prop} {A : Option Addr} {n c k : Nat} {xs : List UInt8} (h : BsAt w own (.slice A n c) xs) (hk : k ≤ xs.length) : PAt w own (.slice A k c) (xs.take k) := by
  have hl : (xs.take k).length = k := by simp; omega
  obtain ⟨A', c', e, h2, h3, h4⟩ := h.put
  injection e with e1 _ e3
  subst e1; subst e3
  refine ⟨A, c, by rw [hl], by omega, h3, fun h0 => ?_⟩
  obtain ⟨g, cur, hA, ho, hg, htk⟩ := h4 (by omega)
  exact ⟨g, cur, hA, ho, hg, by rw [hl]; exact take_u8s htk hk⟩

/-- Half way through do: the bytes may be written over, if there are any to be. -/
def DoMid (g : Nat) (v : FlV) (own rd : Nat → Prop) (xs bs : List UInt8) (n o : Nat) (vp : Value) (O : Obj) (w wc : World) : Prop :=
  ∃ A c sh, FlB wc g { v with vb := .slice A n c, shared := sh } ∧ BsAt wc (ext own w wc) (.slice A n c) xs ∧ wc.heap[w.heap.size]? = some O ∧ w.heap.size < wc.heap.size ∧
    Turned (fun i => i = g) w wc ∧ Keeps w wc v.vb xs.length v.shared (.slice A n c) xs.length sh ∧ (0 < o → sh = false) ∧ PAt wc rd vp bs

theorem DoMid.start {g : Nat} {v : FlV} {own rd : Nat → Prop} {xs bs : List UInt8} {n o c : Nat} {A : Option Addr} {vp : Value} {O : Obj} {w : World} (h : FlB w g v) (hv : v.vb = .slice A n c) (hb : BsAt w own v.vb xs) (hp : PAt w rd vp bs) (ho : 0 < o → v.shared = false) (k : Nat) :
    DoMid g v own rd xs bs n o vp O w ((w.alloc O).drewN k) := by
  have e : ({ v with vb := .slice A n c, shared := v.shared } : FlV) = v := by rw [← hv]
  refine ⟨A, c, v.shared, by rw [e]; exact h.alloc O, ?_, heap_alloc_new w O, by simp, ((Turned.refl _ w).alloc O).drewN k, ?_, ho, hp.alloc O⟩
  · rw [← hv]
    exact (hb.alloc O).mono fun i hi => .inl hi
  · rw [← hv]
    exact Keeps.same (gb_drewN (gb_alloc (gb_refl w none) O) k)

/-- .. behind a clone of shared bytes. -/
theorem DoMid.cloned {g : Nat} {v : FlV} {own rd : Nat → Prop} {xs bs : List UInt8} {n o c c1 : Nat} {A A1 : Option Addr} {vp : Value} {O : Obj} {w wa w1 : World} (hm : DoMid g v own rd xs bs n 0 vp O w wa) (hb : BsAt w1 (fun i => wa.heap.size ≤ i ∧ i < w1.heap.size) (.slice A1 n c1) xs) (hg : wa.grownBy w1 none)
    (hf : FlB w1 g { v with vb := .slice A n c, shared := true }) (hgw : g < w.heap.size) (hx : 0 < xs.length) :
    DoMid g v own rd xs bs n o vp O w ((w1.setCell ⟨g, 1, none⟩ (.slice A1 n c1)).setCell ⟨g, 3, none⟩ (.bool false)) := by
  obtain ⟨A0, c0, sh, _, _, h3, h4, h5, h6, _, h8⟩ := hm
  have hf1 := hf.set1 (.slice A1 n c1)
  have hf2 := hf1.set3 false
  have hg1 : w1.grownBy ((w1.setCell ⟨g, 1, none⟩ (.slice A1 n c1)).setCell ⟨g, 3, none⟩ (.bool false)) (some g) := gb_set (gb_set (gb_refl w1 (some g)) 1 _) 3 _
  have hsz : ((w1.setCell ⟨g, 1, none⟩ (.slice A1 n c1)).setCell ⟨g, 3, none⟩ (.bool false)).heap.size = w1.heap.size := by simp [World.setCell]
  refine ⟨A1, c1, false, hf2, ?_, ?_, ?_, ?_, ?_, fun _ => rfl, ?_⟩
  · refine (hb.other hg1 hf (by decide)).mono fun i hi => .inr ?_
    rw [hsz]
    exact ⟨by omega, hi.2⟩
  · have e1 : w1.heap[w.heap.size]? = _ := (hg.block _ h4 (by simp)).trans h3
    refine (hg1.block _ (blk_lt e1) (fun e => ?_)).trans e1
    injection e with e
    omega
  · rw [hsz]; exact Nat.lt_of_lt_of_le h4 hg.size
  · exact (h5.trans (Turned.of_gb (M := fun i => i = g) hg (by simp)) (fun _ _ h => h)).trans (Turned.of_gb (M := fun i => i = g) hg1 (fun i e => by injection e with e; exact e.symm)) (fun i _ h => h)
  · have k1 : Keeps wa w1 (.slice A0 n c0) xs.length sh (.slice A1 n c1) xs.length false := by
      rcases hb with ⟨rfl, _⟩ | ⟨h0, g', cap, cur, e, ho, _⟩
      · simp at hx
      · refine Keeps.grown hg (fun i e' => ?_)
        rw [e] at e'
        injection e' with e'
        rw [← e']
        exact ho.1
    exact (h6.trans k1).trans (Keeps.cell hg1 hf (by decide))
  · exact (h8.keep fun i _ hi => hg.block i hi (by simp)).other hg1 hf (by decide)

/-- A block of another kind stays while bytes grow, or are written over. -/
theorem keepB {w w' : World} {own : Nat → Prop} {v : Value} {xs : List UInt8} {row : Option Nat} (hb : BsAt w own v xs) (hg : w.grownBy w' row) (hr : row = none ∨ (0 < xs.length ∧ row = v.ownBlock)) {i : Nat} {cs : Array Value} {t : TypeId} {fr : Nat × Nat} (hh : w.heap[i]? = some (.cells cs t fr)) (ht : t ≠ 5) : w'.heap[i]? = some (.cells cs t fr) := by
  refine (hg.block i (blk_lt hh) (fun e => ?_)).trans hh
  rcases hr with rfl | ⟨h0, rfl⟩
  · cases e
  · rcases hb with ⟨rfl, _⟩ | ⟨_, g, cap, cur, rfl, _, h3, _⟩
    · simp at h0
    · injection e with e
      have e' : i = g := e
      subst e'
      rw [h3] at hh
      injection hh with hh
      injection hh with _ hh
      exact ht hh.symm
theorem row_ok {v : Value} {xs : List UInt8} : (if xs = [] then none else v.ownBlock) = none ∨ (0 < xs.length ∧ (if xs = [] then none else v.ownBlock) = v.ownBlock) := by
  by_cases h : xs = []
  · exact .inl (if_pos h)
  · exact .inr ⟨List.length_pos_iff.2 h, if_neg h⟩
/-- The blocks that hold bytes are there. -/
theorem BsAt.lts {w : World} {P own : Nat → Prop} {v : Value} {xs : List UInt8} (h : BsAt w P v xs) (hP : ∀ i, P i → i < w.heap.size → own i) : BsAt w own v xs := by
  rcases h with h | ⟨h0, g, cap, cur, h1, h2, h3, h4⟩
  · exact .inl h
  · exact .inr ⟨h0, g, cap, cur, h1, hP g h2 (blk_lt h3), h3, h4⟩
theorem BsAt.own {w : World} {P : Nat → Prop} {g n c : Nat} {xs : List UInt8} (h : BsAt w P (.slice (some ⟨g, 0, none⟩) n c) xs) (h0 : 0 < xs.length) : P g := by
  rcases h with ⟨rfl, _⟩ | ⟨_, g', cap, cur, e, h2, _⟩
  · simp at h0
  · injection e with e
    injection e with e
    injection e with e
    rw [e]
    exact h2
/-- Where bytes are, they begin a row. -/
theorem BsAt.head {w : World} {P : Nat → Prop} {A : Option Addr} {n c : Nat} {xs : List UInt8} (h : BsAt w P (.slice A n c) xs) (h0 : 0 < xs.length) : ∃ g, A = some ⟨g, 0, none⟩ := by
  rcases h with ⟨rfl, _⟩ | ⟨_, g', cap, cur, e, h2, _⟩
  · simp at h0
  · injection e with e
    exact ⟨g', e⟩

/-- A write in two: what is written over, what is put behind. -/
theorem doW_parts {xs bs : List UInt8} {k o : Nat} (h : o = bs.length ∨ (k + o = xs.length ∧ o ≤ bs.length)) : (xs.take k ++ bs.take o ++ xs.drop (k + o)) ++ bs.drop o = xs.take k ++ bs ++ xs.drop (k + bs.length) := by
  rcases h with rfl | ⟨h1, h2⟩
  · simp
  · rw [List.drop_of_length_le (l := xs) (i := k + o) (by omega), List.drop_of_length_le (l := xs) (i := k + bs.length) (by omega)]
    simp [List.append_assoc]
/-- What the second half of do leaves. -/
theorem DoMid.fin {g : Nat} {v : FlV} {own : Nat → Prop} {xs ys zs : List UInt8} {n : Nat} {w wc w2 w3 : World} {A1 A2 : Option Addr} {c1 c2 n2 : Nat} {sh : Bool}
    (hT : Turned (fun i => i = g) w wc) (hK : Keeps w wc v.vb xs.length v.shared (.slice A1 n c1) xs.length sh)
    (hT2 : Turned (fun i => ext own w wc i ∧ Is8 wc i) wc w2) (hK2 : Keeps wc w2 (.slice A1 n c1) xs.length sh (.slice A1 n c1) ys.length sh) (hf2 : FlB w2 g { v with vb := .slice A1 n c1, shared := sh })
    (hb2 : BsAt w2 (ext own w wc) (.slice A1 n c1) ys)
    (hb3 : BsAt w3 (fun i => ext own w wc i ∨ i = w2.heap.size) (.slice A2 n2 c2) zs) (hg3 : w2.grownBy w3 (if ys = [] then none else (Value.slice A1 n c1).ownBlock)) (hK3 : ∀ sh, Keeps w2 w3 (.slice A1 n c1) ys.length sh (.slice A2 n2 c2) zs.length sh) (j : Nat) :
    DoPost g v own xs zs w (.returned (.tuple #[])) ((w3.setCell ⟨g, 1, none⟩ (.slice A2 n2 c2)).drewN j) := by
  have hf3 : FlB w3 g { v with vb := .slice A1 n c1, shared := sh } := keepB hb2 hg3 row_ok hf2 (by decide)
  have hg4 : w3.grownBy ((w3.setCell ⟨g, 1, none⟩ (.slice A2 n2 c2)).drewN j) (some g) := gb_drewN (gb_set (gb_refl w3 (some g)) 1 _) j
  have hsz : ((w3.setCell ⟨g, 1, none⟩ (.slice A2 n2 c2)).drewN j).heap.size = w3.heap.size := by
    show (w3.setCell ⟨g, 1, none⟩ (.slice A2 n2 c2)).heap.size = _
    simp [World.setCell]
  refine ⟨rfl, .slice A2 n2 c2, sh, hf3.set1 _, ?_, ?_, ?_⟩
  · refine (hb3.other hg4 hf3 (by decide)).lts fun i hi hlt => ?_
    rcases hi with (hi | hi) | hi
    · exact .inl hi
    · exact .inr ⟨hi.1, hlt⟩
    · exact .inr ⟨by rw [hi]; exact Nat.le_trans hT.size hT2.size, hlt⟩
  · have hT3 : Turned (fun i => ext own w wc i ∧ Is8 w2 i) w2 w3 := Turned.of_gb hg3 fun i hi => by
      rcases hb2 with ⟨rfl, _⟩ | ⟨h0, g', cap, cur, e, h2, h3, _⟩
      · cases hi
      · rw [if_neg (by rintro rfl; simp at h0), e] at hi
        injection hi with hi
        have e' : g' = i := hi
        exact ⟨e' ▸ h2, cur, _, e' ▸ h3⟩
    have hT4 : Turned (fun i => i = g) w3 _ := Turned.of_gb hg4 fun i e => by injection e with e; exact e.symm
    have h23 := hT2.trans8 hT3
    have hT' : Turned (fun i => i = g ∨ (own i ∧ Is8 w i)) w wc := hT.mono fun i _ h => .inl h
    refine (hT'.trans h23 fun i hi he => ?_).trans hT4 fun i _ h => .inl h
    by_cases hig : i = g
    · exact .inl hig
    · have e := hT.block i hi hig
      obtain ⟨he1, cs, fr, h8⟩ := he
      refine .inr ⟨?_, cs, fr, by rw [← e]; exact h8⟩
      rcases he1 with (he1 | he1) | (he1 | he1)
      · exact he1
      · omega
      · exact he1
      · omega
  · exact ((hK.trans hK2).trans (hK3 sh)).trans (Keeps.cell hg4 hf3 (by decide))

/-- copy at the operation. -/
theorem wpList_copy_bs {w : World} {ops : Array Oper} {rest : List Oper} {o : Oper} {a : Act} {Q : Exit → Act → World → Prop} (hgd : o.guard = none) (s x : Operand)
    (ho : o.op = .call { callee := .builtin .copy, args := #[s, x], argTypes := #[32, 32] })
    {own : Nat → Prop} {g cap dCap n' n k m : Nat} {xs bs : List UInt8} {A A' : Option Addr} {B c : Nat} (hs : a.eval s = .slice A' n' dCap) (hx : a.eval x = .slice A m c)
    (h : BsAt w own (.slice (some ⟨g, 0, none⟩) n cap) xs) (hn : n = xs.length) (hA : A' = some ⟨g, k, none⟩) (hn' : n' = xs.length - k) (hm : m = bs.length) (hr : Rd w B A (u8s bs)) (hk : k + bs.length ≤ xs.length) (hb0 : 0 < bs.length)
    (hK : ∀ z w', BsAt w' own (.slice (some ⟨g, 0, none⟩) n cap) (xs.take k ++ bs ++ xs.drop (k + bs.length)) → w.grownBy w' (some g) → Keeps w w' (.slice (some ⟨g, 0, none⟩) n cap) n false (.slice (some ⟨g, 0, none⟩) n cap) n false →
      wpList Try.prog ops Q rest (a.put o.dst (.int .i64 z)) w') : wpList Try.prog ops Q (o :: rest) a w := by
  subst hn
  subst hA
  subst hn'
  subst hm
  obtain ⟨w', hrun, h1, h2, _, h4⟩ := run_copy_bs (dCap := dCap) (c := c) o.type h (by omega) hr hk hb0
  refine wpList_plain hgd fun K' hK' => ?_
  unfold Oper.wp execOp
  simp only [ho, resolve, invoke, builtin, Sem.run_bind, Sem.run_pure, Result.andThen_ok, List.map_toArray, List.map_cons, List.map_nil, hs, hx]
  rw [hrun]
  exact hK' _ _ (hK _ w' h1 h2 h4)

/-- append as one step of a region that draws its order. -/
theorem step_append_bs {w : World} {ops : Array Oper} {o : Oper} {a : Act} {K : Act → World → Prop} {Q : Exit → Act → World → Prop} {E : Prop} (hgd : o.guard = none) (s x : Operand)
    (ho : o.op = .call { callee := .builtin .append, args := #[s, x], argTypes := #[32, 32] })
    {own : Nat → Prop} {v : Value} {xs bs : List UInt8} {A : Option Addr} {B c n : Nat} (hs : a.eval s = v) (hx : a.eval x = .slice A n c) (h : BsAt w own v xs) (hr : Rd w B A (u8s bs)) (hn : n = bs.length) (hl : xs.length + bs.length ≤ 1000000000)
    (hK : ∀ A' n' c' w', n' = (xs ++ bs).length → BsAt w' (fun i => own i ∨ i = w.heap.size) (.slice A' n' c') (xs ++ bs) → w.grownBy w' (if xs = [] then none else v.ownBlock) → (∀ sh, Keeps w w' v xs.length sh (.slice A' n' c') (xs ++ bs).length sh) →
      K (a.put o.dst (.slice A' n' c')) w') :
    if Region.wanted o (yielded ops a.tmps) = true then Oper.wp Try.prog o a w K Q else E := by
  subst hn
  have hw : Region.wanted o (yielded ops a.tmps) = true := by simp [Region.wanted, hgd]
  rw [if_pos hw]
  obtain ⟨v', w', hrun, h1, h2, h3, _⟩ := run_append_bs o.type h hr hl
  obtain ⟨A', c', rfl, _⟩ := h1.form
  unfold Oper.wp execOp
  simp only [ho, resolve, invoke, builtin, Sem.run_bind, Sem.run_pure, Result.andThen_ok, List.map_toArray, List.map_cons, List.map_nil, hs, hx]
  rw [hrun]
  exact hK A' _ c' w' rfl h1 h2 h3

end Go.Proofs.Ytccapgcpdehicaa

namespace Go.Proofs.Ytccapgcpdehicaa
open Go.RowKit

set_option maxHeartbeats 4000000 in
set_option maxRecDepth 100000 in
theorem do_putA (g : Nat) (v : FlV) (own rd : Nat → Prop) (xs bs zs : List UInt8) (k d m c cp : Nat) (A Ap : Option Addr) (w : World) (h : FlB w g v) (hb : BsAt w own v.vb xs) (hv : v.vb = .slice A (k + d) c) (hn : k + d = xs.length)
    (hp : PAt w rd (.slice Ap m cp) bs) (hm : m = bs.length) (hmd : m ≤ d) (hdis : ∀ i, rd i → ¬ own i ∧ i < w.heap.size) (hlen : xs.length + bs.length ≤ 1000000000) (hz : zs = xs.take k ++ bs ++ xs.drop (k + bs.length)) :
    Calls Try.prog 59 #[.pointer (some ⟨g, 0, none⟩), .agg #[.bool false, .int .i64 (k : Int), .slice Ap m cp]] w (DoPost g v own xs zs w) := by
  obtain ⟨_, _, e, hnc, hc⟩ := hb.form
  rw [hv] at e
  injection e with e1 e2 e3
  subst e1; subst e3
  obtain ⟨_, _, e, hmc, hcp⟩ := hp.form
  injection e with e4 e5 e6
  subst e4; subst e6
  unfold maxLen at hc hcp
  have hst := fun ho => DoMid.start (o := m) (O := .cells #[.bool false, .int .i64 (k : Int), .slice Ap m cp] 116) h hv hb hp ho 1
  have hst0 := DoMid.start (o := 0) (O := .cells #[.bool false, .int .i64 (k : Int), .slice Ap m cp] 116) h hv hb hp (fun h => absurd h (Nat.lt_irrefl _)) 1
  have hkc : k + d ≤ c := by omega
  have hmc' : m ≤ cp := by omega
  have hgw := h.lt
  have H0 := hide h
  have HV := hide hv
  have HN := hide hn
  have HM := hide hm
  have HZ := hide hz
  have HST := hide hst
  have HST0 := hide hst0
  have HD := hide hdis
  have hw : IntKind.i64.wrap ((k : Int) + (d : Int) - (k : Int)) = (d : Int) := by
    rw [show (k : Int) + (d : Int) - (k : Int) = d by omega]
    exact IntWalk.i64_in _ (by omega)
  have HW := hide hw
  have hwb := heap_alloc_new w (.cells #[.bool false, .int .i64 (k : Int), .slice Ap m cp] 116)
  have HWB := hide hwb
  have hfa := h.alloc (.cells #[.bool false, .int .i64 (k : Int), .slice Ap m cp] 116)
  have HFA := hide hfa
  have hmd' : (m : Int) ≤ (d : Int) := by omega
  have HLEN : Hid (xs.length + bs.length ≤ 1000000000) := hide hlen
  obtain ⟨i0, hi, hz0, hz1, hz2⟩ := info_parts Try.info8
  have HI := hide hi
  have HZ1 := hide hz1
  clear h hb hv hn hp hm hst hst0 hdis hw e2 e5 hwb hfa hz hlen hi hz0 hz1 hz2
  go_enter Try.func59, Try.ntmps59
  go_wp2
  generalize hwa : w.alloc (.cells #[.bool false, .int .i64 (k : Int), .slice Ap m cp] 116) = wa at *
  clear hwa
  have h1 := HFA.out.c1
  have h3 := HFA.out.c3
  have f1 := HFA.out.fr 1
  have f3 := HFA.out.fr 3
  rw [HV.out] at h1
  have b1 : wa.cell? ⟨w.heap.size, 1, none⟩ = some (.int .i64 (k : Int)) := by rw [blk_cell HWB.out]; rfl
  have b2 : wa.cell? ⟨w.heap.size, 2, none⟩ = some (.slice Ap m cp) := by rw [blk_cell HWB.out]; rfl
  have hw := HW.out
  go_still_tail 11, (by kernel_rfl)
  clear hw
  rcases Nat.eq_zero_or_pos m with hm0 | hm0
  · subst hm0
    have HMID : Hid (DoMid g v own rd xs bs (k + d) 0 (.slice Ap 0 cp) (.cells #[.bool false, .int .i64 (k : Int), .slice Ap 0 cp] 116) w wa.drew) := hide HST0.out
    go_wp2_with fail
    generalize wa.drew = wc at *
    clear h1 h3 f1 f3 b1 b2 HST HST0 HFA HWB
    obtain ⟨A1, c1, sh1, F1, B1, X1, L1, T1, K1, S1, P1⟩ := HMID.out
    have hcb : k + d ≤ c1 ∧ c1 ≤ 9223372036854775807 := by
      obtain ⟨_, _, e, q1, q2⟩ := B1.form
      injection e with _ q3 q4
      have := HN.out
      unfold maxLen at q2
      omega
    obtain ⟨hcb1, hcb2⟩ := hcb
    have HF1 := hide F1
    have HB1 := hide B1
    have HX1 := hide X1
    have HP1 := hide P1
    have HT1 := hide T1
    have HK1 := hide K1
    have HS1 := hide S1
    have HL1 := hide L1
    clear F1 B1 X1 P1 T1 K1 S1 L1 HMID
    have q1 := HF1.out.c1
    have q2 := HF1.out.fr 1
    have q3 : wc.cell? ⟨w.heap.size, 1, none⟩ = some (.int .i64 (k : Int)) := by rw [blk_cell HX1.out]; rfl
    have q4 : wc.cell? ⟨w.heap.size, 2, none⟩ = some (.slice Ap 0 cp) := by rw [blk_cell HX1.out]; rfl
    have hcut1 := fun (w : World) => run_cut_from (P := Try.prog) w A1 (k + d) c1 k 1 Try.underlying32 HI.out HZ1.out (by omega) hcb1
    have hcpy := fun (w : World) => run_copy_none (P := Try.prog) w 32 32 3 5 (cutA A1 k c1 1) Ap d (c1 - k) 0 cp Try.underlying32 (by kernel_rfl) (by simp)
    go_still_tail 11, (by kernel_rfl)
    go_wp2_with fail
    clear q1 q2 q3 q4 hcut1 hcpy
    have HF2 : Hid (FlB wc.drew g { v with vb := .slice A1 (k + d) c1, shared := sh1 }) := hide HF1.out
    have HB2 : Hid (BsAt wc.drew (ext own w wc) (.slice A1 (k + d) c1) xs) := hide HB1.out
    have HX2 : Hid (wc.drew.heap[w.heap.size]? = some (.cells #[.bool false, .int .i64 (k : Int), .slice Ap 0 cp] 116 (0, 0))) := hide HX1.out
    have HP2 : Hid (PAt wc.drew rd (.slice Ap 0 cp) bs) := hide HP1.out
    have HT2 : Hid (Turned (fun i => ext own w wc i ∧ Is8 wc i) wc wc.drew) := hide ((Turned.refl _ wc).drewN 1)
    have HK2 : Hid (Keeps wc wc.drew (.slice A1 (k + d) c1) xs.length sh1 (.slice A1 (k + d) c1) xs.length sh1) := hide (Keeps.same (gb_drew (gb_refl wc none)))
    have HY : Hid (xs ++ bs.drop 0 = zs ∧ xs.length + (bs.drop 0).length ≤ 1000000000) := hide ⟨by
      have := doW_parts (xs := xs) (bs := bs) (k := k) (o := 0) (by have := HM.out; have := HN.out; omega)
      rw [HZ.out, ← this]
      simp, by have := HLEN.out; simpa using this⟩
    generalize wc.drew = w2 at *
    have r1 := HF2.out.c1
    have r2 := HF2.out.fr 1
    have r4 : w2.cell? ⟨w.heap.size, 2, none⟩ = some (.slice Ap 0 cp) := by rw [blk_cell HX2.out]; rfl
    have hcut2 := fun (w : World) => run_cut_from (P := Try.prog) w Ap 0 cp 0 1 Try.underlying32 HI.out HZ1.out (by omega) hmc'
    have HRQ := hide (show Rd w2 w2.heap.size Ap (u8s (bs.drop 0)) from by
      obtain ⟨_, _, e, _, _, hr⟩ := HP2.out.rd
      injection e with e
      subst e
      exact hr)
    have HLQ := hide (show 0 = (bs.drop 0).length by rw [List.length_drop, ← HM.out]; all_goals omega)
    have HYL := hide HY.out.2
    go_region_law
      ((refine step_append_bs (xs := xs) (bs := bs.drop 0) (B := w2.heap.size) (by rfl) (.tmp 66) (.tmp 70) (by rfl) (by rfl) (by rfl) HB2.out HRQ.out HLQ.out HYL.out ?_; intro A3 n3 c3 w3 hn3 hb3 hg3 hk3; have HB3 : Hid (BsAt w3 (fun i => ext own w wc i ∨ i = w2.heap.size) (.slice A3 n3 c3) (xs ++ bs.drop 0)) := hide hb3; have HG3 : Hid (w2.grownBy w3 (if xs = [] then none else (Value.slice A1 (k + d) c1).ownBlock)) := hide ⟨hg3.os, hg3.tape, hg3.output, hg3.size, hg3.block⟩; have HK3 : Hid (∀ sh, Keeps w2 w3 (.slice A1 (k + d) c1) (xs).length sh (.slice A3 n3 c3) (xs ++ bs.drop 0).length sh) := hide (fun sh own vs xs hb hs => hk3 sh own vs xs hb hs); clear hn3 hb3 hg3 hk3; have HF3 := hide (keepB HB2.out HG3.out row_ok HF2.out (by decide)); have HX3 := hide (keepB HB2.out HG3.out row_ok HX2.out (by decide)); have s1 := FlB.c1 HF3.out; have s2 := FlB.fr HF3.out 1; have s5 : w3.cell? ⟨w.heap.size, 2, none⟩ = some (.slice Ap 0 cp) := by rw [blk_cell HX3.out]; rfl))
    all_goals go_wp2_with fail
    all_goals go_end0
    all_goals have hfin := DoMid.fin HT1.out HK1.out HT2.out HK2.out HF2.out HB2.out HB3.out HG3.out HK3.out 0
    all_goals rw [HY.out.1] at hfin
    all_goals exact hfin
  · have hpos : (0 : Int) < (m : Int) := by omega
    cases hsh : v.shared
    · rw [hsh] at h3
      have HSH := hide hsh
      clear hsh
      have HMID : Hid (DoMid g v own rd xs bs (k + d) m (.slice Ap m cp) (.cells #[.bool false, .int .i64 (k : Int), .slice Ap m cp] 116) w wa.drew) := hide (HST.out (fun _ => HSH.out))
      go_wp2_with fail
      generalize wa.drew = wc at *
      clear h1 h3 f1 f3 b1 b2 HST HST0 HFA HWB HSH
      obtain ⟨A1, c1, sh1, F1, B1, X1, L1, T1, K1, S1, P1⟩ := HMID.out
      have hcb : k + d ≤ c1 ∧ c1 ≤ 9223372036854775807 := by
        obtain ⟨_, _, e, q1, q2⟩ := B1.form
        injection e with _ q3 q4
        have := HN.out
        unfold maxLen at q2
        omega
      obtain ⟨hcb1, hcb2⟩ := hcb
      have HF1 := hide F1
      have HB1 := hide B1
      have HX1 := hide X1
      have HP1 := hide P1
      have HT1 := hide T1
      have HK1 := hide K1
      have HS1 := hide S1
      have HL1 := hide L1
      clear F1 B1 X1 P1 T1 K1 S1 L1 HMID
      have q1 := HF1.out.c1
      have q2 := HF1.out.fr 1
      have q3 : wc.cell? ⟨w.heap.size, 1, none⟩ = some (.int .i64 (k : Int)) := by rw [blk_cell HX1.out]; rfl
      have q4 : wc.cell? ⟨w.heap.size, 2, none⟩ = some (.slice Ap m cp) := by rw [blk_cell HX1.out]; rfl
      have hcut1 := fun (w : World) => run_cut_from (P := Try.prog) w A1 (k + d) c1 k 1 Try.underlying32 HI.out HZ1.out (by omega) hcb1
      have HA := hide (HB1.out.head (by have := HN.out; omega))
      obtain ⟨g1, hA1⟩ := HA.out
      have HRP := hide (show Rd wc wc.heap.size Ap (u8s (bs.take m)) from by
        obtain ⟨_, _, e, _, _, hr⟩ := HP1.out.rd
        injection e with e
        subst e
        have := hr.take m
        rwa [u8s_take] at this)
      have HA1 := hide hA1
      have HCA := hide (cutA_pos (k := k) (c := c1) hA1 (by omega))
      have HBG := hide (show BsAt wc (ext own w wc) (.slice (some ⟨g1, 0, none⟩) (k + d) c1) xs from by rw [← hA1]; exact HB1.out)
      have HTL := hide (show m = (bs.take m).length by rw [List.length_take]; have := HM.out; omega)
      have HKN := hide (show k + (bs.take m).length ≤ xs.length by rw [← HTL.out]; have := HN.out; omega)
      have HKP := hide (show 0 < (bs.take m).length by rw [← HTL.out]; omega)
      have HND := hide (show d = xs.length - k by have := HN.out; omega)
      have hsh2 : sh1 = false := HS1.out hm0
      subst hsh2
      clear hA1
      go_still_tail 11, (by kernel_rfl)
      go_wp2_with ((refine wpList_copy_bs (o := ⟨some 61, _, _, _, _, _⟩) rfl (.tmp 56) (.tmp 60) rfl rfl rfl HBG.out HN.out HCA.out HND.out HTL.out HRP.out HKN.out HKP.out ?_; intro z9 w2 hbb hgg hkk; have HBB := hide hbb; have HGG : Hid (wc.grownBy w2 (some g1)) := hide ⟨hgg.os, hgg.tape, hgg.output, hgg.size, hgg.block⟩; have HKK : Hid (Keeps wc w2 (.slice (some ⟨g1, 0, none⟩) (k + d) c1) (k + d) false (.slice (some ⟨g1, 0, none⟩) (k + d) c1) (k + d) false) := hide (fun own vs xs hb hs => hkk own vs xs hb hs); clear hbb hgg hkk))
      clear q1 q2 q3 q4 hcut1
      have HF2 : Hid (FlB w2 g { v with vb := .slice A1 (k + d) c1, shared := false }) := hide (keepB HBG.out HGG.out (.inr ⟨by have := HN.out; omega, rfl⟩) HF1.out (by decide))
      have HX2 : Hid (w2.heap[w.heap.size]? = some (.cells #[.bool false, .int .i64 (k : Int), .slice Ap m cp] 116 (0, 0))) := hide (keepB HBG.out HGG.out (.inr ⟨by have := HN.out; omega, rfl⟩) HX1.out (by decide))
      have HOG := hide (HBG.out.own (by have := HN.out; omega))
      have HP2 : Hid (PAt w2 rd (.slice Ap m cp) bs) := hide (HP1.out.keep fun i hi hlt => HGG.out.block i hlt (fun e => by
        injection e with e
        have h1 := HD.out i hi
        rcases HOG.out with h2 | h2
        · exact h1.1 (by rw [e]; exact h2)
        · omega))
      have HB2 : Hid (BsAt w2 (ext own w wc) (.slice A1 (k + d) c1) (xs.take k ++ bs.take m ++ xs.drop (k + m))) := hide (by rw [HA1.out]; have := HBB.out; rwa [← HTL.out] at this)
      have HT2 : Hid (Turned (fun i => ext own w wc i ∧ Is8 wc i) wc w2) := hide ((Turned.refl _ wc).trans (Turned.of_gb (M := fun i => i = g1) HGG.out (fun i e => by injection e with e; exact e.symm)) (fun i _ e => by rw [e]; exact ⟨HOG.out, Is8.of_bs HBG.out (by have := HN.out; omega)⟩))
      have HLY : Hid ((xs.take k ++ bs.take m ++ xs.drop (k + m)).length = k + d) := hide (by have := HN.out; have := HTL.out; simp at this ⊢; omega)
      have HK2 : Hid (Keeps wc w2 (.slice A1 (k + d) c1) xs.length false (.slice A1 (k + d) c1) (xs.take k ++ bs.take m ++ xs.drop (k + m)).length false) := hide (by rw [HLY.out, ← HN.out, HA1.out]; exact HKK.out)
      have HY : Hid ((xs.take k ++ bs.take m ++ xs.drop (k + m)) ++ bs.drop m = zs ∧ (xs.take k ++ bs.take m ++ xs.drop (k + m)).length + (bs.drop m).length ≤ 1000000000) := hide ⟨by
        rw [HZ.out]
        exact doW_parts (by have := HM.out; have := HN.out; omega), by rw [HLY.out, List.length_drop]; have := HLEN.out; have := HN.out; omega⟩
      generalize xs.take k ++ bs.take m ++ xs.drop (k + m) = ys at *
      clear HBB HKK HLY
      have r1 := HF2.out.c1
      have r2 := HF2.out.fr 1
      have r4 : w2.cell? ⟨w.heap.size, 2, none⟩ = some (.slice Ap m cp) := by rw [blk_cell HX2.out]; rfl
      have hcut2 := fun (w : World) => run_cut_from (P := Try.prog) w Ap m cp m 1 Try.underlying32 HI.out HZ1.out (by omega) hmc'
      have HRQ := hide (show Rd w2 w2.heap.size (cutA Ap m cp 1) (u8s (bs.drop m)) from by
        obtain ⟨_, _, e, _, _, hr⟩ := HP2.out.rd
        injection e with e
        subst e
        exact hr.cutA (by have := HM.out; omega) (by have := HM.out; omega))
      have HLQ := hide (show 0 = (bs.drop m).length by rw [List.length_drop, ← HM.out]; all_goals omega)
      have HYL := hide HY.out.2
      go_region_law
        ((refine step_append_bs (xs := ys) (bs := bs.drop m) (B := w2.heap.size) (by rfl) (.tmp 66) (.tmp 70) (by rfl) (by rfl) (by rfl) HB2.out HRQ.out HLQ.out HYL.out ?_; intro A3 n3 c3 w3 hn3 hb3 hg3 hk3; have HB3 : Hid (BsAt w3 (fun i => ext own w wc i ∨ i = w2.heap.size) (.slice A3 n3 c3) (ys ++ bs.drop m)) := hide hb3; have HG3 : Hid (w2.grownBy w3 (if ys = [] then none else (Value.slice A1 (k + d) c1).ownBlock)) := hide ⟨hg3.os, hg3.tape, hg3.output, hg3.size, hg3.block⟩; have HK3 : Hid (∀ sh, Keeps w2 w3 (.slice A1 (k + d) c1) (ys).length sh (.slice A3 n3 c3) (ys ++ bs.drop m).length sh) := hide (fun sh own vs xs hb hs => hk3 sh own vs xs hb hs); clear hn3 hb3 hg3 hk3; have HF3 := hide (keepB HB2.out HG3.out row_ok HF2.out (by decide)); have HX3 := hide (keepB HB2.out HG3.out row_ok HX2.out (by decide)); have s1 := FlB.c1 HF3.out; have s2 := FlB.fr HF3.out 1; have s5 : w3.cell? ⟨w.heap.size, 2, none⟩ = some (.slice Ap m cp) := by rw [blk_cell HX3.out]; rfl))
      all_goals go_wp2_with fail
      all_goals go_end0
      all_goals have hfin := DoMid.fin HT1.out HK1.out HT2.out HK2.out HF2.out HB2.out HB3.out HG3.out HK3.out 0
      all_goals rw [HY.out.1] at hfin
      all_goals exact hfin
    · rw [hsh] at h3
      have HSH := hide hsh
      clear hsh
      have HMID0 : Hid (DoMid g v own rd xs bs (k + d) 0 (.slice Ap m cp) (.cells #[.bool false, .int .i64 (k : Int), .slice Ap m cp] 116) w wa.drew) := hide HST0.out
      have HRD := hide (show Rd wa.drew wa.drew.heap.size A (u8s xs) from by
        obtain ⟨A1, c1, sh1, F1, B1, _⟩ := HMID0.out
        have hF : FlB wa.drew g v := HFA.out
        have e : ({ v with vb := .slice A1 (k + d) c1, shared := sh1 } : FlV).cells = v.cells := by
          have h1 : wa.drew.heap[g]? = _ := F1
          have h2 : wa.drew.heap[g]? = _ := hF
          rw [h1] at h2
          injection h2 with h2
          injection h2
        have e2 : (Value.slice A1 (k + d) c1) = v.vb := by
          have := congrArg (fun a : Array Value => a[1]?) e
          simpa [FlV.cells] using this
        rw [HV.out] at e2
        injection e2 with e3 _ e4
        subst e3
        obtain ⟨_, _, e5, _, _, hr⟩ := B1.rd
        injection e5 with e5
        subst e5
        exact hr)
      have HFV : Hid (FlB wa.drew g { v with vb := .slice A (k + d) c, shared := true }) := hide (by
        have e : ({ v with vb := .slice A (k + d) c, shared := true } : FlV) = v := by rw [← HV.out, ← HSH.out]
        rw [e]
        exact HFA.out)
      have HXS : Hid (xs.length ≤ 1000000000) := hide (by have := HLEN.out; omega)
      have HWD : Hid (wa.drew.heap.size = wa.heap.size) := hide rfl
      go_wp2_with (go_at_call 38; (refine (clone8_any _ _ _ _ xs _ HRD.out HN.out (Nat.le_refl _) HXS.out).mono ?_); rintro e w1 ⟨A2, c2, rfl, hb1, hg1⟩; have HB9 := hide hb1; have HG9 := hide hg1; have HF9 : Hid (FlB w1 g { v with vb := .slice A (k + d) c, shared := true }) := hide (FlB.keep HFV.out (hg1.block g HFV.out.lt (by simp))); clear hb1 hg1; have h1' := HF9.out.c1; have h3' := HF9.out.c3; have f1' := HF9.out.fr 1; have f3' := HF9.out.fr 3)
      have HMID : Hid (DoMid g v own rd xs bs (k + d) m (.slice Ap m cp) (.cells #[.bool false, .int .i64 (k : Int), .slice Ap m cp] 116) w ((w1.setCell ⟨g, 1, none⟩ (.slice A2 (k + d) c2)).setCell ⟨g, 3, none⟩ (.bool false))) := hide (DoMid.cloned HMID0.out HB9.out HG9.out HF9.out hgw (by have := HN.out; omega))
      generalize (w1.setCell ⟨g, 1, none⟩ (.slice A2 (k + d) c2)).setCell ⟨g, 3, none⟩ (.bool false) = wc at *
      clear h1 h3 f1 f3 b1 b2 h1' h3' f1' f3' HWD HST HST0 HFA HWB HSH HRD HFV HXS HB9 HG9 HF9 HMID0
      obtain ⟨A1, c1, sh1, F1, B1, X1, L1, T1, K1, S1, P1⟩ := HMID.out
      have hcb : k + d ≤ c1 ∧ c1 ≤ 9223372036854775807 := by
        obtain ⟨_, _, e, q1, q2⟩ := B1.form
        injection e with _ q3 q4
        have := HN.out
        unfold maxLen at q2
        omega
      obtain ⟨hcb1, hcb2⟩ := hcb
      have HF1 := hide F1
      have HB1 := hide B1
      have HX1 := hide X1
      have HP1 := hide P1
      have HT1 := hide T1
      have HK1 := hide K1
      have HS1 := hide S1
      have HL1 := hide L1
      clear F1 B1 X1 P1 T1 K1 S1 L1 HMID
      have q1 := HF1.out.c1
      have q2 := HF1.out.fr 1
      have q3 : wc.cell? ⟨w.heap.size, 1, none⟩ = some (.int .i64 (k : Int)) := by rw [blk_cell HX1.out]; rfl
      have q4 : wc.cell? ⟨w.heap.size, 2, none⟩ = some (.slice Ap m cp) := by rw [blk_cell HX1.out]; rfl
      have hcut1 := fun (w : World) => run_cut_from (P := Try.prog) w A1 (k + d) c1 k 1 Try.underlying32 HI.out HZ1.out (by omega) hcb1
      have HA := hide (HB1.out.head (by have := HN.out; omega))
      obtain ⟨g1, hA1⟩ := HA.out
      have HRP := hide (show Rd wc wc.heap.size Ap (u8s (bs.take m)) from by
        obtain ⟨_, _, e, _, _, hr⟩ := HP1.out.rd
        injection e with e
        subst e
        have := hr.take m
        rwa [u8s_take] at this)
      have HA1 := hide hA1
      have HCA := hide (cutA_pos (k := k) (c := c1) hA1 (by omega))
      have HBG := hide (show BsAt wc (ext own w wc) (.slice (some ⟨g1, 0, none⟩) (k + d) c1) xs from by rw [← hA1]; exact HB1.out)
      have HTL := hide (show m = (bs.take m).length by rw [List.length_take]; have := HM.out; omega)
      have HKN := hide (show k + (bs.take m).length ≤ xs.length by rw [← HTL.out]; have := HN.out; omega)
      have HKP := hide (show 0 < (bs.take m).length by rw [← HTL.out]; omega)
      have HND := hide (show d = xs.length - k by have := HN.out; omega)
      have hsh2 : sh1 = false := HS1.out hm0
      subst hsh2
      clear hA1
      go_still_tail 11, (by kernel_rfl)
      go_wp2_with ((refine wpList_copy_bs (o := ⟨some 61, _, _, _, _, _⟩) rfl (.tmp 56) (.tmp 60) rfl rfl rfl HBG.out HN.out HCA.out HND.out HTL.out HRP.out HKN.out HKP.out ?_; intro z9 w2 hbb hgg hkk; have HBB := hide hbb; have HGG : Hid (wc.grownBy w2 (some g1)) := hide ⟨hgg.os, hgg.tape, hgg.output, hgg.size, hgg.block⟩; have HKK : Hid (Keeps wc w2 (.slice (some ⟨g1, 0, none⟩) (k + d) c1) (k + d) false (.slice (some ⟨g1, 0, none⟩) (k + d) c1) (k + d) false) := hide (fun own vs xs hb hs => hkk own vs xs hb hs); clear hbb hgg hkk))
      clear q1 q2 q3 q4 hcut1
      have HF2 : Hid (FlB w2 g { v with vb := .slice A1 (k + d) c1, shared := false }) := hide (keepB HBG.out HGG.out (.inr ⟨by have := HN.out; omega, rfl⟩) HF1.out (by decide))
      have HX2 : Hid (w2.heap[w.heap.size]? = some (.cells #[.bool false, .int .i64 (k : Int), .slice Ap m cp] 116 (0, 0))) := hide (keepB HBG.out HGG.out (.inr ⟨by have := HN.out; omega, rfl⟩) HX1.out (by decide))
      have HOG := hide (HBG.out.own (by have := HN.out; omega))
      have HP2 : Hid (PAt w2 rd (.slice Ap m cp) bs) := hide (HP1.out.keep fun i hi hlt => HGG.out.block i hlt (fun e => by
        injection e with e
        have h1 := HD.out i hi
        rcases HOG.out with h2 | h2
        · exact h1.1 (by rw [e]; exact h2)
        · omega))
      have HB2 : Hid (BsAt w2 (ext own w wc) (.slice A1 (k + d) c1) (xs.take k ++ bs.take m ++ xs.drop (k + m))) := hide (by rw [HA1.out]; have := HBB.out; rwa [← HTL.out] at this)
      have HT2 : Hid (Turned (fun i => ext own w wc i ∧ Is8 wc i) wc w2) := hide ((Turned.refl _ wc).trans (Turned.of_gb (M := fun i => i = g1) HGG.out (fun i e => by injection e with e; exact e.symm)) (fun i _ e => by rw [e]; exact ⟨HOG.out, Is8.of_bs HBG.out (by have := HN.out; omega)⟩))
      have HLY : Hid ((xs.take k ++ bs.take m ++ xs.drop (k + m)).length = k + d) := hide (by have := HN.out; have := HTL.out; simp at this ⊢; omega)
      have HK2 : Hid (Keeps wc w2 (.slice A1 (k + d) c1) xs.length false (.slice A1 (k + d) c1) (xs.take k ++ bs.take m ++ xs.drop (k + m)).length false) := hide (by rw [HLY.out, ← HN.out, HA1.out]; exact HKK.out)
      have HY : Hid ((xs.take k ++ bs.take m ++ xs.drop (k + m)) ++ bs.drop m = zs ∧ (xs.take k ++ bs.take m ++ xs.drop (k + m)).length + (bs.drop m).length ≤ 1000000000) := hide ⟨by
        rw [HZ.out]
        exact doW_parts (by have := HM.out; have := HN.out; omega), by rw [HLY.out, List.length_drop]; have := HLEN.out; have := HN.out; omega⟩
      generalize xs.take k ++ bs.take m ++ xs.drop (k + m) = ys at *
      clear HBB HKK HLY
      have r1 := HF2.out.c1
      have r2 := HF2.out.fr 1
      have r4 : w2.cell? ⟨w.heap.size, 2, none⟩ = some (.slice Ap m cp) := by rw [blk_cell HX2.out]; rfl
      have hcut2 := fun (w : World) => run_cut_from (P := Try.prog) w Ap m cp m 1 Try.underlying32 HI.out HZ1.out (by omega) hmc'
      have HRQ := hide (show Rd w2 w2.heap.size (cutA Ap m cp 1) (u8s (bs.drop m)) from by
        obtain ⟨_, _, e, _, _, hr⟩ := HP2.out.rd
        injection e with e
        subst e
        exact hr.cutA (by have := HM.out; omega) (by have := HM.out; omega))
      have HLQ := hide (show 0 = (bs.drop m).length by rw [List.length_drop, ← HM.out]; all_goals omega)
      have HYL := hide HY.out.2
      go_region_law
        ((refine step_append_bs (xs := ys) (bs := bs.drop m) (B := w2.heap.size) (by rfl) (.tmp 66) (.tmp 70) (by rfl) (by rfl) (by rfl) HB2.out HRQ.out HLQ.out HYL.out ?_; intro A3 n3 c3 w3 hn3 hb3 hg3 hk3; have HB3 : Hid (BsAt w3 (fun i => ext own w wc i ∨ i = w2.heap.size) (.slice A3 n3 c3) (ys ++ bs.drop m)) := hide hb3; have HG3 : Hid (w2.grownBy w3 (if ys = [] then none else (Value.slice A1 (k + d) c1).ownBlock)) := hide ⟨hg3.os, hg3.tape, hg3.output, hg3.size, hg3.block⟩; have HK3 : Hid (∀ sh, Keeps w2 w3 (.slice A1 (k + d) c1) (ys).length sh (.slice A3 n3 c3) (ys ++ bs.drop m).length sh) := hide (fun sh own vs xs hb hs => hk3 sh own vs xs hb hs); clear hn3 hb3 hg3 hk3; have HF3 := hide (keepB HB2.out HG3.out row_ok HF2.out (by decide)); have HX3 := hide (keepB HB2.out HG3.out row_ok HX2.out (by decide)); have s1 := FlB.c1 HF3.out; have s2 := FlB.fr HF3.out 1; have s5 : w3.cell? ⟨w.heap.size, 2, none⟩ = some (.slice Ap m cp) := by rw [blk_cell HX3.out]; rfl))
      all_goals go_wp2_with fail
      all_goals go_end0
      all_goals have hfin := DoMid.fin HT1.out HK1.out HT2.out HK2.out HF2.out HB2.out HB3.out HG3.out HK3.out 0
      all_goals rw [HY.out.1] at hfin
      all_goals exact hfin

end Go.Proofs.Ytccapgcpdehicaa
