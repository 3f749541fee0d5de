/-
  The contract of file.do: a write, or a cut.
-/
import Derived.Test.YtpkmlehkmmdkoaaSim3
import Derived.Deep.RegionHeld3
import Derived.Deep.CutBlock
namespace Go.Proofs.Ytpkmlehkmmdkoaa
open Go.RowKit

/-- Of what was there just the blocks M may have turned. -/
structure Turned (M : Nat → Prop) (w w' : World) : Prop where
  os : w'.os = w.os
  tape : w'.tape = w.tape
  output : w'.output = w.output
  size : w.heap.size ≤ w'.heap.size
  block : ∀ k, k < w.heap.size → ¬ M k → w'.heap[k]? = w.heap[k]?
section
variable {a b c w w' : World} {M M' : Nat → Prop}
theorem Turned.refl (M : Nat → Prop) (w : World) : Turned M w w := ⟨rfl, rfl, rfl, Nat.le_refl _, fun _ _ _ => rfl⟩
theorem Turned.of_gb {row : Option Nat} (h : w.grownBy w' row) (hr : ∀ g, row = some g → M g) : Turned M w w' := ⟨h.os, h.tape, h.output, h.size, fun k hk hm => h.block k hk (fun e => hm (hr k e.symm))⟩
theorem Turned.trans (h : Turned M a b) (k : Turned M' b c) (hM : ∀ i, i < a.heap.size → M' i → M i) : Turned M a c :=
  ⟨k.os.trans h.os, k.tape.trans h.tape, k.output.trans h.output, Nat.le_trans h.size k.size, fun i hi hm => (k.block i (Nat.lt_of_lt_of_le hi h.size) (fun e => hm (hM i hi e))).trans (h.block i hi hm)⟩
theorem Turned.mono (h : Turned M a b) (hM : ∀ i, i < a.heap.size → M i → M' i) : Turned M' a b := ⟨h.os, h.tape, h.output, h.size, fun i hi hm => h.block i hi (fun e => hm (hM i hi e))⟩
theorem Turned.drewN (h : Turned M a b) (n : Nat) : Turned M a (b.drewN n) := ⟨h.os, h.tape, h.output, h.size, h.block⟩
theorem Turned.alloc (h : Turned M a b) (o : Obj) : Turned M a (b.alloc o) := h.trans (Turned.of_gb (M := M) (gb_alloc (gb_refl b none) o) (by simp)) (fun _ _ h => h)
theorem Turned.below {B : Nat} (h : Turned M a b) (hB : B ≤ a.heap.size) (hM : ∀ i, M i → B ≤ i) : Below B a b := ⟨h.os, h.tape, h.output, h.size, fun k hk => h.block k (Nat.lt_of_lt_of_le hk hB) (fun e => by have := hM k e; omega)⟩
end

/-- Where 's[k:]' begins. -/
def cutA (A : Option Addr) (k c sz : Nat) : Option Addr := if c = k then A else A.map (·.add (k * sz))
theorem run_cut_from {P : Program} (w : World) {t e : TypeId} {i : TypeInfo} (A : Option Addr) (n c k sz : Nat) (ht : P.underlying t = some (.slice e)) (hi : P.info? e = some i) (hs : i.size = sz) (hk : k ≤ n) (_hn : n ≤ c) :
    (Instr.slice t (.slice A n c) (some (.int .i64 (k : Int))) none none).run P w = .ok (.slice (cutA A k c sz) (n - k) (c - k)) w := by
  subst hs
  simp [Instr.slice, Instr.sliceBounds, run_underlying ht, Instr.sliceBound, asIntOf, hk, sizeOf, typeInfo, hi, Result.andThen, cutA]
theorem cutA_pos {A : Option Addr} {g k c : Nat} (hA : A = some ⟨g, 0, none⟩) (hc : k < c) : cutA A k c 1 = some ⟨g, k, none⟩ := by
  subst hA
  have e : (⟨g, 0, none⟩ : Addr).add (k * 1) = ⟨g, k, none⟩ := by unfold Addr.add; split <;> simp_all
  unfold cutA
  rw [if_neg (by omega), Option.map_some, e]
theorem Rd.cutA {w : World} {B k c : Nat} {A : Option Addr} {bs : List UInt8} (h : Rd w B A (u8s bs)) (hk : k ≤ bs.length) (hc : bs.length ≤ c) : Rd w B (cutA A k c 1) (u8s (bs.drop k)) := by
  have := h.cut (k := k) (cap := c) (by rw [u8s_length]; exact hk) (by rw [u8s_length]; exact hc)
  rw [u8s_drop] at this
  have e : (fun x : Addr => x.add (k * 1)) = (fun x : Addr => x.add k) := by rw [Nat.mul_one]
  unfold Go.Proofs.Ytpkmlehkmmdkoaa.cutA
  rw [e]
  exact this

/-- A write, or a cut. -/
structure Wr where
  cut : Bool
  pos : Nat
  p : List UInt8
def doW (b : List UInt8) (x : Wr) : List UInt8 := if x.cut then b.take x.pos else b.take x.pos ++ x.p ++ b.drop (x.pos + x.p.length)

/-- A row of bytes. -/
def Is8 (w : World) (i : Nat) : Prop := ∃ cs fr, w.heap[i]? = some (.cells cs 5 fr)
theorem Is8.of_bs {w : World} {P : Nat → Prop} {g n c : Nat} {xs : List UInt8} (h : BsAt w P (.slice (some ⟨g, 0, none⟩) n c) xs) (h0 : 0 < xs.length) : Is8 w g := by
  rcases h with ⟨rfl, _⟩ | ⟨_, g', cap, cur, e, _, h3, _⟩
  · simp at h0
  · injection e with e
    injection e with e
    injection e with e
    exact ⟨cur, _, by rw [e]; exact h3⟩
theorem Turned.trans8 {a b c : World} {P Q : Nat → Prop} (h : Turned (fun i => P i ∧ Is8 a i) a b) (k : Turned (fun i => Q i ∧ Is8 b i) b c) : Turned (fun i => (P i ∨ Q i) ∧ Is8 a i) a c :=
  ⟨k.os.trans h.os, k.tape.trans h.tape, k.output.trans h.output, Nat.le_trans h.size k.size, fun i hi hm => by
    by_cases hp : P i ∧ Is8 a i
    · exact absurd ⟨.inl hp.1, hp.2⟩ hm
    · have e := h.block i hi hp
      refine (k.block i (Nat.lt_of_lt_of_le hi h.size) (fun hq => ?_)).trans e
      obtain ⟨cs, fr, h8⟩ := hq.2
      exact hm ⟨.inr hq.1, cs, fr, by rw [← e]; exact h8⟩⟩

/-- What do leaves. -/
def DoPost (g : Nat) (v : FlV) (own : Nat → Prop) (xs ys : List UInt8) (w : World) (e : Ending) (w' : World) : Prop :=
  e = .returned (.tuple #[]) ∧ ∃ vb sh, FlB w' g { v with vb := vb, shared := sh } ∧ BsAt w' (fun i => own i ∨ (w.heap.size ≤ i ∧ i < w'.heap.size)) vb ys ∧ Turned (fun i => i = g ∨ (own i ∧ Is8 w i)) w w' ∧ Keeps w w' v.vb xs.length v.shared vb ys.length sh

theorem FlB.alloc {w : World} {g : Nat} {v : FlV} (h : FlB w g v) (o : Obj) : FlB (w.alloc o) g v := h.keep (heap_alloc_old w o h.lt)
theorem BsAt.alloc {w : World} {own : Nat → Prop} {v : Value} {xs : List UInt8} (h : BsAt w own v xs) (o : Obj) : BsAt (w.alloc o) own v xs := h.keep fun _ _ hlt => heap_alloc_old w o hlt

/-- Another kind of block has turned. -/
theorem BsAt.other {w w' : World} {own : Nat → Prop} {v : Value} {xs : List UInt8} {g : Nat} {cs : Array Value} {t : TypeId} (h : BsAt w own v xs) (hg : w.grownBy w' (some g)) (hh : w.heap[g]? = some (.cells cs t (0, 0))) (ht : t ≠ 5) : BsAt w' own v xs := by
  rcases h with h | ⟨h0, g', cap, cur, h1, h2, h3, h4⟩
  · exact .inl h
  · refine .inr ⟨h0, g', cap, cur, h1, h2, (hg.block g' (blk_lt h3) (fun e => ?_)).trans h3, h4⟩
    injection e with e
    subst e
    rw [h3] at hh
    injection hh with hh
    injection hh with _ hh
    exact ht hh.symm
/-- A cut, bounds and all. -/
theorem BsAt.cut {w : World} {own : Nat → Prop} {A : Option Addr} {n c k : Nat} {xs : List UInt8} (h : BsAt w own (.slice A n c) xs) (hk : k ≤ xs.length) : BsAt w own (.slice A k k) (xs.take k) := by
  have hl : (xs.take k).length = k := by simp; omega
  rcases Nat.eq_zero_or_pos k with h0 | h0
  · subst h0
    exact .inl ⟨by simp, A, rfl⟩
  · rcases h with ⟨rfl, _⟩ | ⟨_, g, cap, cur, e, ho, hg, hnc, hcc, hcm, hfull, htk⟩
    · simp at hk; omega
    · injection e with e1 e2 e3
      subst e1
      exact .inr ⟨by omega, g, k, cur, by rw [hl], ho, hg, by omega, by omega, hcm, .inr hl.symm, by rw [hl]; exact take_u8s htk hk⟩
theorem Keeps.cut {w w' : World} {A : Option Addr} {n c k : Nat} {g : Nat} {v : FlV} {sh : Bool} (hg : w.grownBy w' (some g)) (hf : FlB w g v) : Keeps w w' (.slice A n c) n sh (.slice A k k) k sh := by
  intro own vs xs hb hs
  refine ⟨(Keeps.cell (v := .slice A n c) (n := n) (sh := sh) hg hf (by decide) own vs xs hb hs).1, fun g1 h1 h2 h0 => ?_⟩
  have h1' : (Value.slice A n c).ownBlock = some g1 := by
    cases A <;> simp_all [Value.ownBlock]
  exact ⟨(hs g1 h1' h2 h0).1, .inr ⟨A, rfl⟩⟩

set_option maxHeartbeats 1000000 in
set_option maxRecDepth 100000 in
theorem do_cut (g : Nat) (v : FlV) (own : Nat → Prop) (xs : List UInt8) (k : Nat) (vp : Value) (w : World) (h : FlB w g v) (hb : BsAt w own v.vb xs) (hk : k ≤ xs.length) :
    Calls Try.prog 68 #[.pointer (some ⟨g, 0, none⟩), .agg #[.bool true, .int .i64 (k : Int), vp]] w (DoPost g v own xs (xs.take k) w) := by
  obtain ⟨A, c, hv, hn, hc⟩ := hb.form
  unfold maxLen at hc
  have h' := h.alloc (.cells #[.bool true, .int .i64 (k : Int), vp] 110)
  have hb' := hb.alloc (.cells #[.bool true, .int .i64 (k : Int), vp] 110)
  rw [hv] at hb'
  have hW := heap_alloc_new w (.cells #[.bool true, .int .i64 (k : Int), vp] 110)
  have hgw := gb_alloc (gb_refl w none) (.cells #[.bool true, .int .i64 (k : Int), vp] 110)
  have H := hide h'
  have HB := hide hb'
  have HV := hide hv
  have HW := hide hW
  have HG := hide hgw
  have H0 := hide h
  have hnk : k ≤ c := by omega
  clear h h' hb hb' hv hW hgw
  go_enter Try.func68, Try.ntmps68
  go_wp2
  generalize w.alloc (.cells #[.bool true, .int .i64 (k : Int), vp] 110) = wa at *
  have h1 := H.out.c1
  have f1 := H.out.fr 1
  rw [HV.out] at h1
  have b1 : wa.cell? ⟨w.heap.size, 1, none⟩ = some (.int .i64 (k : Int)) := by rw [blk_cell HW.out]; rfl
  go_still_tail 12, (by kernel_rfl)
  go_wp2
  refine bodyPost_ret (results_none rfl _ _ _) rfl ?_
  have hg1 := gb_drew (gb_set (gb_refl wa (some g)) 1 (.slice A k k))
  have hg2 : w.grownBy _ (some g) := gb_trans (gb_some HG.out (some g)) hg1 (.inl rfl)
  have hl : (xs.take k).length = k := by simp; omega
  refine ⟨rfl, .slice A k k, v.shared, (H.out.set1 _), ?_, Turned.of_gb hg2 (fun i e => .inl (by injection e with e; exact e.symm)), ?_⟩
  · exact (((HB.out.cut hk).other (gb_drew (gb_set (gb_refl wa (some g)) 1 (.slice A k k))) H.out (by decide))).mono fun i hi => .inl hi
  · rw [HV.out, hl]
    exact Keeps.cut hg2 H0.out


/-- The blocks own, and those that are new. -/
def ext (own : Nat → Prop) (w w' : World) : Nat → Prop := fun i => own i ∨ (w.heap.size ≤ i ∧ i < w'.heap.size)

/-- The bytes that are put: they are read alone. -/
def PAt (w : World) (own : Nat → Prop) (v : Value) (xs : List UInt8) : Prop :=
  ∃ A c, v = .slice A xs.length c ∧ xs.length ≤ c ∧ c ≤ maxLen ∧ (0 < xs.length → ∃ g cur, A = some ⟨g, 0, none⟩ ∧ own g ∧ w.heap[g]? = some (.cells cur 5 (0, 0)) ∧ cur.toList.take xs.length = u8s xs)
theorem BsAt.put {w : World} {own : Nat → Prop} {v : Value} {xs : List UInt8} (h : BsAt w own v xs) : PAt w own v xs := by
  rcases h with ⟨rfl, A, e⟩ | ⟨h0, g, cap, cur, e, ho, hg, hnc, hcc, hcs, hfull, htk⟩
  · exact ⟨A, 0, e, Nat.le_refl _, Nat.zero_le _, fun h => absurd h (Nat.lt_irrefl _)⟩
  · exact ⟨_, cap, e, hnc, Nat.le_trans hcc hcs, fun _ => ⟨g, cur, rfl, ho, hg, htk⟩⟩
theorem PAt.form {w : World} {own : Nat → Prop} {v : Value} {xs : List UInt8} (h : PAt w own v xs) : ∃ A c, v = .slice A xs.length c ∧ xs.length ≤ c ∧ c ≤ maxLen := by
  obtain ⟨A, c, h1, h2, h3, _⟩ := h
  exact ⟨A, c, h1, h2, h3⟩
theorem PAt.rd {w : World} {own : Nat → Prop} {v : Value} {xs : List UInt8} (h : PAt w own v xs) : ∃ A c, v = .slice A xs.length c ∧ xs.length ≤ c ∧ c ≤ maxLen ∧ Rd w w.heap.size A (u8s xs) := by
  obtain ⟨A, c, h1, h2, h3, h4⟩ := h
  refine ⟨A, c, h1, h2, h3, fun h0 => ?_⟩
  have hpos : 0 < xs.length := by
    rcases xs with _ | ⟨b, xs⟩
    · exact absurd rfl h0
    · simp
  obtain ⟨g, cur, rfl, ho, hg, htk⟩ := h4 hpos
  refine ⟨_, rfl, blk_lt hg, fun j u hu => ?_⟩
  have e : (⟨g, 0, none⟩ : Addr).add j = ⟨g, j, none⟩ := by unfold Addr.add; split <;> simp_all
  have hj : j < xs.length := by have := (List.getElem?_eq_some_iff.1 hu).1; rwa [u8s_length] at this
  rw [e, blk_cell hg, ← hu, ← htk, List.getElem?_take, if_pos hj]
  simp
theorem PAt.keep {w w' : World} {own : Nat → Prop} {v : Value} {xs : List UInt8} (h : PAt w own v xs) (hk : ∀ g, own g → g < w.heap.size → w'.heap[g]? = w.heap[g]?) : PAt w' own v xs := by
  obtain ⟨A, c, h1, h2, h3, h4⟩ := h
  refine ⟨A, c, h1, h2, h3, fun h0 => ?_⟩
  obtain ⟨g, cur, hA, ho, hg, htk⟩ := h4 h0
  exact ⟨g, cur, hA, ho, (hk g ho (blk_lt hg)).trans hg, htk⟩
theorem PAt.alloc {w : World} {own : Nat → Prop} {v : Value} {xs : List UInt8} (h : PAt w own v xs) (o : Obj) : PAt (w.alloc o) own v xs := h.keep fun _ _ hlt => heap_alloc_old w o hlt
theorem PAt.other {w w' : World} {own : Nat → Prop} {v : Value} {xs : List UInt8} {g : Nat} {cs : Array Value} {t : TypeId} (h : PAt w own v xs) (hg : w.grownBy w' (some g)) (hh : w.heap[g]? = some (.cells cs t (0, 0))) (ht : t ≠ 5) : PAt w' own v xs := by
  obtain ⟨A, c, h1, h2, h3, h4⟩ := h
  refine ⟨A, c, h1, h2, h3, fun h0 => ?_⟩
  obtain ⟨g', cur, hA, ho, hg', htk⟩ := h4 h0
  refine ⟨g', cur, hA, ho, (hg.block g' (blk_lt hg') (fun e => ?_)).trans hg', htk⟩
  injection e with e
  subst e
  rw [hg'] at hh
  injection hh with hh
  injection hh with _ hh
  exact ht hh.symm
/-- A beginning of bytes, the spare room left. -/
theorem BsAt.short {w : World} {own : Nat → Prop} {A : Option Addr} {n c k : Nat} {xs : List UInt8} (h : BsAt w own (.slice A n c) xs) (hk : k ≤ xs.length) : PAt w own (.slice A k c) (xs.take k) := by
  have hl : (xs.take k).length = k := by simp; omega
  obtain ⟨A', c', e, h2, h3, h4⟩ := h.put
  injection e with e1 _ e3
  subst e1; subst e3
  refine ⟨A, c, by rw [hl], by omega, h3, fun h0 => ?_⟩
  obtain ⟨g, cur, hA, ho, hg, htk⟩ := h4 (by omega)
  exact ⟨g, cur, hA, ho, hg, by rw [hl]; exact take_u8s htk hk⟩

/-- Half way through do: the bytes may be written over, if there are any to be. -/
def DoMid (g : Nat) (v : FlV) (own rd : Nat → Prop) (xs bs : List UInt8) (n o : Nat) (vp : Value) (O : Obj) (w wc : World) : Prop :=
  ∃ A c sh, FlB wc g { v with vb := .slice A n c, shared := sh } ∧ BsAt wc (ext own w wc) (.slice A n c) xs ∧ wc.heap[w.heap.size]? = some O ∧ w.heap.size < wc.heap.size ∧
    Turned (fun i => i = g) w wc ∧ Keeps w wc v.vb xs.length v.shared (.slice A n c) xs.length sh ∧ (0 < o → sh = false) ∧ PAt wc rd vp bs

theorem DoMid.start {g : Nat} {v : FlV} {own rd : Nat → Prop} {xs bs : List UInt8} {n o c : Nat} {A : Option Addr} {vp : Value} {O : Obj} {w : World} (h : FlB w g v) (hv : v.vb = .slice A n c) (hb : BsAt w own v.vb xs) (hp : PAt w rd vp bs) (ho : 0 < o → v.shared = false) (k : Nat) :
    DoMid g v own rd xs bs n o vp O w ((w.alloc O).drewN k) := by
  have e : ({ v with vb := .slice A n c, shared := v.shared } : FlV) = v := by rw [← hv]
  refine ⟨A, c, v.shared, by rw [e]; exact h.alloc O, ?_, heap_alloc_new w O, by simp, ((Turned.refl _ w).alloc O).drewN k, ?_, ho, hp.alloc O⟩
  · rw [← hv]
    exact (hb.alloc O).mono fun i hi => .inl hi
  · rw [← hv]
    exact Keeps.same (gb_drewN (gb_alloc (gb_refl w none) O) k)

/-- .. behind a clone of shared bytes. -/
theorem DoMid.cloned {g : Nat} {v : FlV} {own rd : Nat → Prop} {xs bs : List UInt8} {n o c c1 : Nat} {A A1 : Option Addr} {vp : Value} {O : Obj} {w wa w1 : World} (hm : DoMid g v own rd xs bs n 0 vp O w wa) (hb : BsAt w1 (fun i => wa.heap.size ≤ i ∧ i < w1.heap.size) (.slice A1 n c1) xs) (hg : wa.grownBy w1 none)
    (hf : FlB w1 g { v with vb := .slice A n c, shared := true }) (hgw : g < w.heap.size) (hx : 0 < xs.length) :
    DoMid g v own rd xs bs n o vp O w ((w1.setCell ⟨g, 1, none⟩ (.slice A1 n c1)).setCell ⟨g, 3, none⟩ (.bool false)) := by
  obtain ⟨A0, c0, sh, _, _, h3, h4, h5, h6, _, h8⟩ := hm
  have hf1 := hf.set1 (.slice A1 n c1)
  have hf2 := hf1.set3 false
  have hg1 : w1.grownBy ((w1.setCell ⟨g, 1, none⟩ (.slice A1 n c1)).setCell ⟨g, 3, none⟩ (.bool false)) (some g) := gb_set (gb_set (gb_refl w1 (some g)) 1 _) 3 _
  have hsz : ((w1.setCell ⟨g, 1, none⟩ (.slice A1 n c1)).setCell ⟨g, 3, none⟩ (.bool false)).heap.size = w1.heap.size := by simp [World.setCell]
  refine ⟨A1, c1, false, hf2, ?_, ?_, ?_, ?_, ?_, fun _ => rfl, ?_⟩
  · refine (hb.other hg1 hf (by decide)).mono fun i hi => .inr ?_
    rw [hsz]
    exact ⟨by omega, hi.2⟩
  · have e1 : w1.heap[w.heap.size]? = _ := (hg.block _ h4 (by simp)).trans h3
    refine (hg1.block _ (blk_lt e1) (fun e => ?_)).trans e1
    injection e with e
    omega
  · rw [hsz]; exact Nat.lt_of_lt_of_le h4 hg.size
  · exact (h5.trans (Turned.of_gb (M := fun i => i = g) hg (by simp)) (fun _ _ h => h)).trans (Turned.of_gb (M := fun i => i = g) hg1 (fun i e => by injection e with e; exact e.symm)) (fun i _ h => h)
  · have k1 : Keeps wa w1 (.slice A0 n c0) xs.length sh (.slice A1 n c1) xs.length false := by
      rcases hb with ⟨rfl, _⟩ | ⟨h0, g', cap, cur, e, ho, _⟩
      · simp at hx
      · refine Keeps.grown hg (fun i e' => ?_)
        rw [e] at e'
        injection e' with e'
        rw [← e']
        exact ho.1
    exact (h6.trans k1).trans (Keeps.cell hg1 hf (by decide))
  · exact (h8.keep fun i _ hi => hg.block i hi (by simp)).other hg1 hf (by decide)

/-- A block of another kind stays while bytes grow, or are written over. -/
theorem keepB {w w' : World} {own : Nat → Prop} {v : Value} {xs : List UInt8} {row : Option Nat} (hb : BsAt w own v xs) (hg : w.grownBy w' row) (hr : row = none ∨ (0 < xs.length ∧ row = v.ownBlock)) {i : Nat} {cs : Array Value} {t : TypeId} {fr : Nat × Nat} (hh : w.heap[i]? = some (.cells cs t fr)) (ht : t ≠ 5) : w'.heap[i]? = some (.cells cs t fr) := by
  refine (hg.block i (blk_lt hh) (fun e => ?_)).trans hh
  rcases hr with rfl | ⟨h0, rfl⟩
  · cases e
  · rcases hb with ⟨rfl, _⟩ | ⟨_, g, cap, cur, rfl, _, h3, _⟩
    · simp at h0
    · injection e with e
      have e' : i = g := e
      subst e'
      rw [h3] at hh
      injection hh with hh
      injection hh with _ hh
      exact ht hh.symm
theorem row_ok {v : Value} {xs : List UInt8} : (if xs = [] then none else v.ownBlock) = none ∨ (0 < xs.length ∧ (if xs = [] then none else v.ownBlock) = v.ownBlock) := by
  by_cases h : xs = []
  · exact .inl (if_pos h)
  · exact .inr ⟨List.length_pos_iff.2 h, if_neg h⟩
/-- The blocks that hold bytes are there. -/
theorem BsAt.lts {w : World} {P own : Nat → Prop} {v : Value} {xs : List UInt8} (h : BsAt w P v xs) (hP : ∀ i, P i → i < w.heap.size → own i) : BsAt w own v xs := by
  rcases h with h | ⟨h0, g, cap, cur, h1, h2, h3, h4⟩
  · exact .inl h
  · exact .inr ⟨h0, g, cap, cur, h1, hP g h2 (blk_lt h3), h3, h4⟩
theorem BsAt.own {w : World} {P : Nat → Prop} {g n c : Nat} {xs : List UInt8} (h : BsAt w P (.slice (some ⟨g, 0, none⟩) n c) xs) (h0 : 0 < xs.length) : P g := by
  rcases h with ⟨rfl, _⟩ | ⟨_, g', cap, cur, e, h2, _⟩
  · simp at h0
  · injection e with e
    injection e with e
    injection e with e
    rw [e]
    exact h2
/-- Where bytes are, they begin a row. -/
theorem BsAt.head {w : World} {P : Nat → Prop} {A : Option Addr} {n c : Nat} {xs : List UInt8} (h : BsAt w P (.slice A n c) xs) (h0 : 0 < xs.length) : ∃ g, A = some ⟨g, 0, none⟩ := by
  rcases h with ⟨rfl, _⟩ | ⟨_, g', cap, cur, e, h2, _⟩
  · simp at h0
  · injection e with e
    exact ⟨g', e⟩

/-- A write in two: what is written over, what is put behind. -/
theorem doW_parts {xs bs : List UInt8} {k o : Nat} (h : o = bs.length ∨ (k + o = xs.length ∧ o ≤ bs.length)) : (xs.take k ++ bs.take o ++ xs.drop (k + o)) ++ bs.drop o = xs.take k ++ bs ++ xs.drop (k + bs.length) := by
  rcases h with rfl | ⟨h1, h2⟩
  · simp
  · rw [List.drop_of_length_le (l := xs) (i := k + o) (by omega), List.drop_of_length_le (l := xs) (i := k + bs.length) (by omega)]
    simp [List.append_assoc]
/-- What the second half of do leaves. -/
theorem DoMid.fin {g : Nat} {v : FlV} {own : Nat → Prop} {xs ys zs : List UInt8} {n : Nat} {w wc w2 w3 : World} {A1 A2 : Option Addr} {c1 c2 n2 : Nat} {sh : Bool}
    (hT : Turned (fun i => i = g) w wc) (hK : Keeps w wc v.vb xs.length v.shared (.slice A1 n c1) xs.length sh)
    (hT2 : Turned (fun i => ext own w wc i ∧ Is8 wc i) wc w2) (hK2 : Keeps wc w2 (.slice A1 n c1) xs.length sh (.slice A1 n c1) ys.length sh) (hf2 : FlB w2 g { v with vb := .slice A1 n c1, shared := sh })
    (hb2 : BsAt w2 (ext own w wc) (.slice A1 n c1) ys)
    (hb3 : BsAt w3 (fun i => ext own w wc i ∨ i = w2.heap.size) (.slice A2 n2 c2) zs) (hg3 : w2.grownBy w3 (if ys = [] then none else (Value.slice A1 n c1).ownBlock)) (hK3 : ∀ sh, Keeps w2 w3 (.slice A1 n c1) ys.length sh (.slice A2 n2 c2) zs.length sh) (j : Nat) :
    DoPost g v own xs zs w (.returned (.tuple #[])) ((w3.setCell ⟨g, 1, none⟩ (.slice A2 n2 c2)).drewN j) := by
  have hf3 : FlB w3 g { v with vb := .slice A1 n c1, shared := sh } := keepB hb2 hg3 row_ok hf2 (by decide)
  have hg4 : w3.grownBy ((w3.setCell ⟨g, 1, none⟩ (.slice A2 n2 c2)).drewN j) (some g) := gb_drewN (gb_set (gb_refl w3 (some g)) 1 _) j
  have hsz : ((w3.setCell ⟨g, 1, none⟩ (.slice A2 n2 c2)).drewN j).heap.size = w3.heap.size := by
    show (w3.setCell ⟨g, 1, none⟩ (.slice A2 n2 c2)).heap.size = _
    simp [World.setCell]
  refine ⟨rfl, .slice A2 n2 c2, sh, hf3.set1 _, ?_, ?_, ?_⟩
  · refine (hb3.other hg4 hf3 (by decide)).lts fun i hi hlt => ?_
    rcases hi with (hi | hi) | hi
    · exact .inl hi
    · exact .inr ⟨hi.1, hlt⟩
    · exact .inr ⟨by rw [hi]; exact Nat.le_trans hT.size hT2.size, hlt⟩
  · have hT3 : Turned (fun i => ext own w wc i ∧ Is8 w2 i) w2 w3 := Turned.of_gb hg3 fun i hi => by
      rcases hb2 with ⟨rfl, _⟩ | ⟨h0, g', cap, cur, e, h2, h3, _⟩
      · cases hi
      · rw [if_neg (by rintro rfl; simp at h0), e] at hi
        injection hi with hi
        have e' : g' = i := hi
        exact ⟨e' ▸ h2, cur, _, e' ▸ h3⟩
    have hT4 : Turned (fun i => i = g) w3 _ := Turned.of_gb hg4 fun i e => by injection e with e; exact e.symm
    have h23 := hT2.trans8 hT3
    have hT' : Turned (fun i => i = g ∨ (own i ∧ Is8 w i)) w wc := hT.mono fun i _ h => .inl h
    refine (hT'.trans h23 fun i hi he => ?_).trans hT4 fun i _ h => .inl h
    by_cases hig : i = g
    · exact .inl hig
    · have e := hT.block i hi hig
      obtain ⟨he1, cs, fr, h8⟩ := he
      refine .inr ⟨?_, cs, fr, by rw [← e]; exact h8⟩
      rcases he1 with (he1 | he1) | (he1 | he1)
      · exact he1
      · omega
      · exact he1
      · omega
  · exact ((hK.trans hK2).trans (hK3 sh)).trans (Keeps.cell hg4 hf3 (by decide))

/-- copy at the operation. -/
theorem wpList_copy_bs {w : World} {ops : Array Oper} {rest : List Oper} {o : Oper} {a : Act} {Q : Exit → Act → World → Prop} (hgd : o.guard = none) (s x : Operand)
    (ho : o.op = .call { callee := .builtin .copy, args := #[s, x], argTypes := #[32, 32] })
    {own : Nat → Prop} {g cap dCap n' n k m : Nat} {xs bs : List UInt8} {A A' : Option Addr} {B c : Nat} (hs : a.eval s = .slice A' n' dCap) (hx : a.eval x = .slice A m c)
    (h : BsAt w own (.slice (some ⟨g, 0, none⟩) n cap) xs) (hn : n = xs.length) (hA : A' = some ⟨g, k, none⟩) (hn' : n' = xs.length - k) (hm : m = bs.length) (hr : Rd w B A (u8s bs)) (hk : k + bs.length ≤ xs.length) (hb0 : 0 < bs.length)
    (hK : ∀ z w', BsAt w' own (.slice (some ⟨g, 0, none⟩) n cap) (xs.take k ++ bs ++ xs.drop (k + bs.length)) → w.grownBy w' (some g) → Keeps w w' (.slice (some ⟨g, 0, none⟩) n cap) n false (.slice (some ⟨g, 0, none⟩) n cap) n false →
      wpList Try.prog ops Q rest (a.put o.dst (.int .i64 z)) w') : wpList Try.prog ops Q (o :: rest) a w := by
  subst hn
  subst hA
  subst hn'
  subst hm
  obtain ⟨w', hrun, h1, h2, _, h4⟩ := run_copy_bs (dCap := dCap) (c := c) o.type h (by omega) hr hk hb0
  refine wpList_plain hgd fun K' hK' => ?_
  unfold Oper.wp execOp
  simp only [ho, resolve, invoke, builtin, Sem.run_bind, Sem.run_pure, Result.andThen_ok, List.map_toArray, List.map_cons, List.map_nil, hs, hx]
  rw [hrun]
  exact hK' _ _ (hK _ w' h1 h2 h4)

/-- append as one step of a region that draws its order. -/
theorem step_append_bs {w : World} {ops : Array Oper} {o : Oper} {a : Act} {K : Act → World → Prop} {Q : Exit → Act → World → Prop} {E : Prop} (hgd : o.guard = none) (s x : Operand)
    (ho : o.op = .call { callee := .builtin .append, args := #[s, x], argTypes := #[32, 32] })
    {own : Nat → Prop} {v : Value} {xs bs : List UInt8} {A : Option Addr} {B c n : Nat} (hs : a.eval s = v) (hx : a.eval x = .slice A n c) (h : BsAt w own v xs) (hr : Rd w B A (u8s bs)) (hn : n = bs.length) (hl : xs.length + bs.length ≤ 1000000000)
    (hK : ∀ A' n' c' w', n' = (xs ++ bs).length → BsAt w' (fun i => own i ∨ i = w.heap.size) (.slice A' n' c') (xs ++ bs) → w.grownBy w' (if xs = [] then none else v.ownBlock) → (∀ sh, Keeps w w' v xs.length sh (.slice A' n' c') (xs ++ bs).length sh) →
      K (a.put o.dst (.slice A' n' c')) w') :
    if Region.wanted o (yielded ops a.tmps) = true then Oper.wp Try.prog o a w K Q else E := by
  subst hn
  have hw : Region.wanted o (yielded ops a.tmps) = true := by simp [Region.wanted, hgd]
  rw [if_pos hw]
  obtain ⟨v', w', hrun, h1, h2, h3, _⟩ := run_append_bs o.type h hr hl
  obtain ⟨A', c', rfl, _⟩ := h1.form
  unfold Oper.wp execOp
  simp only [ho, resolve, invoke, builtin, Sem.run_bind, Sem.run_pure, Result.andThen_ok, List.map_toArray, List.map_cons, List.map_nil, hs, hx]
  rw [hrun]
  exact hK A' _ c' w' rfl h1 h2 h3

end Go.Proofs.Ytpkmlehkmmdkoaa
