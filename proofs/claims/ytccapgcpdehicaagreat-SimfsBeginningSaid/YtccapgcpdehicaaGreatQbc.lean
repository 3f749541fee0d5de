/-
  The law's write and beginning.
-/
import Derived.Test.YtccapgcpdehicaaGreatQbb
import Derived.Test.YtccapgcpdehicaaGreatQap
import Derived.Test.YtccapgcpdehicaaGreatQau
import Derived.Test.YtccapgcpdehicaaGreatQav
import Derived.Test.YtccapgcpdehicaaGreatQaf

namespace Go.Proofs.YtccapgcpdehicaaGreat
open Go.RowKit

/-- The file system S' at g, its copy S at g2, the document's R at q: what the first may write is neither of the others'. -/
def Tri (w0 : World) (Z : Nat → Prop) (g g2 : Nat) (S' S : St) (q : Nat) (R : RS) (wx : World) : Prop :=
  ∃ L L2 O, FsAt wx L g S' ∧ FsAt wx L2 g2 S ∧ RsAt wx O q R ∧ Turned (fun i => ¬ Z i) w0 wx ∧ (∀ i, O i → L i = 0 ∧ L2 i = 0 ∧ i < wx.heap.size ∧ ¬ Z i) ∧ (∀ i, Z i → L i = 0 ∧ L2 i = 0 ∧ i < w0.heap.size) ∧ (∀ i, L2 i ≠ 0 → ¬ (L i = 1 ∨ 3 ≤ L i))

section
variable {w0 wx wy : World} {Z : Nat → Prop} {g g2 q D k : Nat} {S' S S9 : St} {R R' : RS}
theorem Tri.turned (h : Tri w0 Z g g2 S' S q R wx) : Turned (fun i => ¬ Z i) w0 wx := by
  obtain ⟨L, L2, O, _, _, _, h, _⟩ := h
  exact h
theorem Tri.block (h : Tri w0 Z g g2 S' S q R wx) {i : Nat} (hi : Z i) : wx.heap[i]? = w0.heap[i]? := by
  obtain ⟨L, L2, O, _, _, _, h3, _, h5, _⟩ := h
  exact h3.block i (h5 i hi).2.2 (fun k => k hi)
theorem Tri.keep (h : Tri w0 Z g g2 S' S q R wx) (hg : wx.grownBy wy none) : Tri w0 Z g g2 S' S q R wy := by
  obtain ⟨L, L2, O, h1, h2, h3, h4, h5, h6, h7⟩ := h
  exact ⟨L, L2, O, h1.grown hg, h2.grown hg, h3.gb hg, h4.trans (Turned.of_gb (M := fun _ => False) hg (by simp)) (fun _ _ h => h.elim), fun i hi => ⟨(h5 i hi).1, (h5 i hi).2.1, Nat.lt_of_lt_of_le (h5 i hi).2.2.1 hg.size, (h5 i hi).2.2.2⟩, h6, h7⟩
theorem Tri.drewN (h : Tri w0 Z g g2 S' S q R wx) (n : Nat) : Tri w0 Z g g2 S' S q R (wx.drewN n) := h.keep (gb_drewN (gb_refl wx none) n)
theorem Tri.drew (h : Tri w0 Z g g2 S' S q R wx) : Tri w0 Z g g2 S' S q R wx.drew := h.drewN 1
/-- The copy goes on. -/
theorem Tri.fin (h : Tri w0 Z g g2 S' S q R wx) : Bo w0 Z g2 S q R wx := by
  obtain ⟨L, L2, O, h1, h2, h3, h4, h5, h6, h7⟩ := h
  exact ⟨L2, O, h2, h3, h4, fun i hi => ⟨(h5 i hi).2.1, (h5 i hi).2.2.1, (h5 i hi).2.2.2⟩, fun i hi => ⟨(h6 i hi).2.1, (h6 i hi).2.2⟩⟩
/-- Copy. -/
theorem Bo.copy (h : Bo w0 Z g S q R wx) (hs : Sim D k S R) (hD : D ≤ 1000000) (hk : k ≤ 1000) :
    Calls Tryz.prog 16 #[.pointer (some ⟨g, 0, none⟩)] wx fun e w' => ∃ g2, e = .returned (.pointer (some ⟨g2, 0, none⟩)) ∧ Tri w0 Z g g2 S S q R w' := by
  have hsz := h.size
  obtain ⟨L, O, h1, h2, h3, h4, h5⟩ := h
  refine (copy_any g S L wx h1 (hs.fine hD hk)).mono ?_
  rintro e w' ⟨g', L', rfl, k1, k2, k3⟩
  refine ⟨g', rfl, L, L', O, h1.grown k2, k1, h2.gb k2, h3.trans (Turned.of_gb (M := fun _ => False) k2 (by simp)) (fun _ _ h => h.elim), fun i hi => ⟨(h4 i hi).1, Classical.byContradiction fun hc => ?_, Nat.lt_of_lt_of_le (h4 i hi).2.1 k2.size, (h4 i hi).2.2⟩, fun i hi => ⟨(h5 i hi).1, Classical.byContradiction fun hc => ?_, (h5 i hi).2⟩, fun i hi => ?_⟩
  · have := (k3 i (h4 i hi).2.1 hc).2
    have := (h4 i hi).1
    omega
  · have := (k3 i (Nat.lt_of_lt_of_le (h5 i hi).2 hsz) hc).2
    have := (h5 i hi).1
    omega
  · by_cases hl : i < wx.heap.size
    · have := (k3 i hl hi).2
      omega
    · have : L i = 0 := Classical.byContradiction fun hc => hl (h1.lts hc)
      omega
/-- A call on the first. -/
theorem Tri.prog {f : FuncId} {args : Array Value} {v : Value} (h : Tri w0 Z g g2 S' S q R wx) (hc : ∀ L, FsAt wx L g S' → Calls Tryz.prog f args wx (FsPost L g S9 v wx)) :
    Calls Tryz.prog f args wx fun e w' => e = .returned v ∧ Tri w0 Z g g2 S9 S q R w' := by
  obtain ⟨L, L2, O, h1, h2, h3, h4, h5, h6, h7⟩ := h
  refine (hc L h1).mono ?_
  rintro e w' ⟨rfl, L', k1, k2⟩
  refine ⟨rfl, L', L2, O, k1, h2.keep k2.turned h7, h3.keep k2.turned (fun i hi hm => by have := (h5 i hi).1; omega), h4.trans k2.turned (fun i _ hm hz => by have := (h6 i hz).1; omega), fun i hi => ⟨(k2.same i (h5 i hi).2.2.1).trans (h5 i hi).1, (h5 i hi).2.1, Nat.lt_of_lt_of_le (h5 i hi).2.2.1 k2.turned.size, (h5 i hi).2.2.2⟩, fun i hi => ⟨(k2.same i (Nat.lt_of_lt_of_le (h6 i hi).2.2 h4.size)).trans (h6 i hi).1, (h6 i hi).2⟩, fun i hi => ?_⟩
  rw [k2.same i (h2.lts hi)]
  exact h7 i hi
theorem Tri.remove (h : Tri w0 Z g g2 S' S q R wx) (hs : Sim D k S' R') (hD : D ≤ 1000000) (hk : k ≤ 1000) (a : ByteArray) :
    Calls Tryz.prog 55 #[.pointer (some ⟨g, 0, none⟩), .string a] wx fun e w' => e = .returned (.int .i64 (askErr S' [a] a)) ∧ Tri w0 Z g g2 (S'.remove a) S q R w' :=
  h.prog fun L hL => remove_any L g S' a wx hL (hs.fine hD hk) (hs.remove a).2.2
theorem Tri.append_new (h : Tri w0 Z g g2 S' S q R wx) (hs : Sim D k S' R') (hD : D ≤ 1000000) (hk : k ≤ 1000) (n : Int) (p : List UInt8) (cs : Array Value) (fr : Nat × Nat) (m c : Nat) (hcs : u8s p = cs.toList) (hm : m = p.length) (hp : p.length ≤ 400000000) :
    Calls Tryz.prog 20 #[.pointer (some ⟨g, 0, none⟩), .int .i64 n, .slice (some ⟨wx.heap.size, 0, none⟩) m c] (wx.alloc (.cells cs 5 fr)) fun e w' => e = .returned (.int .i64 (S'.appendE n m)) ∧ Tri w0 Z g g2 (S'.append n p) S q R w' :=
  (h.keep (gb_alloc (gb_refl wx none) _)).prog fun L hL => append_any L g S' n _ m c _ p _ hL (hs.fine hD hk) ((Rd.laid wx cs 5 fr _ hcs).more (by simp)) (Nat.le_refl _) hm hp
theorem Tri.syncDir (h : Tri w0 Z g g2 S' S q R wx) (hs : Sim D k S' R') (hD : D ≤ 1000000) (hk : k ≤ 1000) :
    Calls Tryz.prog 22 #[.pointer (some ⟨g, 0, none⟩)] wx fun e w' => e = .returned (.int .i64 S'.syncDirE) ∧ Tri w0 Z g g2 S'.syncDir S q R w' := by
  refine h.prog fun L hL => ?_
  unfold St.syncDirE St.syncDir
  cases hd : S'.dead
  · exact syncdir_ok L g S' wx hL (hs.fine hD hk) hd hs.hN
  · refine (syncdir_dead L g S' wx hL hd).mono ?_
    rintro e w' ⟨rfl, rfl⟩
    exact FsPost.same0 hL _
theorem Tri.arm (h : Tri w0 Z g g2 S' S q R wx) (n : Int) :
    Calls Tryz.prog 24 #[.pointer (some ⟨g, 0, none⟩), .int .i64 n] wx fun e w' => e = .returned (.tuple #[]) ∧ Tri w0 Z g g2 (S'.arm n) S q R w' :=
  h.prog fun L hL => armed_in L g S' n wx hL

/-! ## A copy is told as the same -/
theorem nmEq_self {S : St} {l : List (ByteArray × Nat)} (hk : (l.map (·.1)).Nodup) (hi : ∀ x ∈ l, (S.files (x.2 : Int)).isSome) : nmEq S l S l = true := by
  unfold nmEq
  simp only [beq_self_eq_true, Bool.true_and, List.all_eq_true]
  intro x hx
  unfold nmOne
  rw [aget_mem hk hx]
  show flO (S.files (x.2 : Int)) (S.files (x.2 : Int)) = true
  obtain ⟨f, hf⟩ := Option.isSome_iff_exists.1 (hi x hx)
  rw [hf]
  exact flEq_self f
theorem Sim.sN (h : Sim D k S R) : ∀ x ∈ S.safe, (S.files (x.2 : Int)).isSome := by
  intro x hx
  obtain ⟨e, he, rfl⟩ := List.mem_map.1 (h.safe.perm.mem_iff.1 hx)
  exact h.inS e he
theorem Sim.same_ {w : World} {g1 g2 : Nat} {L1 L2 : Nat → Nat} (h : Sim D k S R) (h1 : FsAt w L1 g1 S) (h2 : FsAt w L2 g2 S) :
    Calls Tryz.prog 17 #[.pointer (some ⟨g1, 0, none⟩), .pointer (some ⟨g2, 0, none⟩)] w fun e w' => e = .returned (.bool true) ∧ w.grownBy w' none :=
  same_yes g1 g2 S S L1 L2 w h1 h2 h.hN h.hN h.sN h.sN (nmEq_self h.names.keysL h.hN) (nmEq_self h.safe.keysL h.sN) (eqL_self chEq_self _)
theorem Tri.same (h : Tri w0 Z g g2 S S q R wx) (hs : Sim D k S R') : Calls Tryz.prog 17 #[.pointer (some ⟨g, 0, none⟩), .pointer (some ⟨g2, 0, none⟩)] wx fun e w' => e = .returned (.bool true) ∧ Tri w0 Z g g2 S S q R w' := by
  have h' := h
  obtain ⟨L, L2, O, h1, h2, _⟩ := h
  exact (hs.same_ h1 h2).mono fun e w' hx => ⟨hx.1, h'.keep hx.2⟩
end
end Go.Proofs.YtccapgcpdehicaaGreat

namespace Go.Proofs.YtccapgcpdehicaaGreat
open Go.RowKit

section
variable {D k D2 k2 : Nat} {S S2 : St} {R R2 : RS}
theorem flEq_of {f f2 : Fl} {x : RFl} (h : FS2 f x) (h2 : FS2 f2 x) : flEq f f2 = true := by
  unfold flEq
  rw [h.bytes, h.safe, h.waits, h2.bytes, h2.safe, h2.waits]
  simp [eqL_self (fun y => (wrEq_iff y y).2 rfl)]
theorem nmEq_alike {l l2 : List (ByteArray × Nat)} {d : List RE} (hl : Dir l d) (hl2 : Dir l2 d) (hf : ∀ e ∈ d, flO (S.files (e.n : Int)) (S2.files (e.n : Int)) = true) : nmEq S l S2 l2 = true := by
  unfold nmEq
  rw [hl.len, hl2.len]
  simp only [beq_self_eq_true, Bool.true_and, List.all_eq_true]
  intro x hx
  obtain ⟨e, he, rfl⟩ := List.mem_map.1 (hl.perm.mem_iff.1 hx)
  unfold nmOne
  rw [show aget l2 (prE e).1 = some e.n from hl2.at_some he]
  exact hf e he
theorem Sim.alikeF (h : Sim D k S R) (h2 : Sim D2 k2 S2 R2) (ef : R2.f = R.f) {n : Int} (i1 : (S.files n).isSome) (i2 : (S2.files n).isSome) : flO (S.files n) (S2.files n) = true := by
  obtain ⟨f, hf⟩ := Option.isSome_iff_exists.1 i1
  obtain ⟨f2, hf2⟩ := Option.isSome_iff_exists.1 i2
  rw [hf, hf2]
  obtain ⟨_, a2, a3⟩ := h.files _ f hf
  obtain ⟨_, b2, b3⟩ := h2.files _ f2 hf2
  have e : R2.f[(n - 1).toNat] = R.f[(n - 1).toNat] := by simp only [ef]
  rw [e] at b3
  exact flEq_of a3 b3
/-- Two that say the same as one document's are told as the same. -/
theorem Sim.alike (h : Sim D k S R) (h2 : Sim D2 k2 S2 R2) (ef : R2.f = R.f) (ed : R2.d = R.d) (es : R2.safe = R.safe) (em : R2.m = R.m) :
    nmEq S S.names S2 S2.names = true ∧ nmEq S S.safe S2 S2.safe = true ∧ eqL chEq S.changes S2.changes = true := by
  refine ⟨nmEq_alike h.names (ed ▸ h2.names) fun e he => h.alikeF h2 ef (h.inD e he) (h2.inD e (ed ▸ he)), nmEq_alike h.safe (es ▸ h2.safe) fun e he => h.alikeF h2 ef (h.inS e he) (h2.inS e (es ▸ he)), ?_⟩
  rw [h.chs, h2.chs, em]
  exact eqL_self chEq_self _
theorem tearR_again (x : RFl) (t t2 : Tn) : tearR (tearR x t) t2 = tearR x t := by
  have e : tearP (tearR x t) t2 = tearP x t := by
    have h0 : (tearR x t).l = [] := rfl
    rw [tearP, dif_neg (by rw [h0]; simp), h0]
    rfl
  unfold tearR at e ⊢
  rw [e]
/-- A second crash. -/
theorem crashR_again (R : RS) (d d2 : Int) (l l2 : List Tn) : (crashR (crashR R d l) d2 l2).f = (crashR R d l).f ∧ (crashR (crashR R d l) d2 l2).d = (crashR R d l).d ∧ (crashR (crashR R d l) d2 l2).safe = (crashR R d l).safe ∧ (crashR (crashR R d l) d2 l2).m = (crashR R d l).m := by
  refine ⟨?_, ?_, ?_, rfl⟩
  · show ((R.f.map (fun x => tearR x (tornR l x.n))).map (fun x => tearR x (tornR l2 x.n))) = _
    rw [List.map_map]
    refine List.map_congr_left fun x _ => ?_
    exact tearR_again x _ _
  · show (List.take _ ([] : List RM)).foldl movedR _ = _
    rw [List.take_nil]
    rfl
  · show (List.take _ ([] : List RM)).foldl movedR _ = _
    rw [List.take_nil]
    rfl
end

section
variable {w0 wx wy : World} {Z : Nat → Prop} {g g2 q D k : Nat} {S' S : St} {R R' : RS}
/-- Copy, and the copy is changed. -/
theorem Bo.copy2 (h : Bo w0 Z g S q R wx) (hs : Sim D k S R') (hD : D ≤ 1000000) (hk : k ≤ 1000) :
    Calls Tryz.prog 16 #[.pointer (some ⟨g, 0, none⟩)] wx fun e w' => ∃ g2, e = .returned (.pointer (some ⟨g2, 0, none⟩)) ∧ Tri w0 Z g2 g S S q R w' := by
  have hsz := h.size
  obtain ⟨L, O, h1, h2, h3, h4, h5⟩ := h
  refine (copy_any g S L wx h1 (hs.fine hD hk)).mono ?_
  rintro e w' ⟨g', L', rfl, k1, k2, k3⟩
  refine ⟨g', rfl, L', L, O, k1, h1.grown k2, h2.gb k2, h3.trans (Turned.of_gb (M := fun _ => False) k2 (by simp)) (fun _ _ h => h.elim), fun i hi => ⟨Classical.byContradiction fun hc => ?_, (h4 i hi).1, Nat.lt_of_lt_of_le (h4 i hi).2.1 k2.size, (h4 i hi).2.2⟩, fun i hi => ⟨Classical.byContradiction fun hc => ?_, (h5 i hi).1, (h5 i hi).2⟩, fun i hi hm => ?_⟩
  · have := (k3 i (h4 i hi).2.1 hc).2
    have := (h4 i hi).1
    omega
  · have := (k3 i (Nat.lt_of_lt_of_le (h5 i hi).2 hsz) hc).2
    have := (h5 i hi).1
    omega
  · have hl := h1.lts hi
    have := (k3 i hl (by omega)).1
    omega
theorem Tri.crash (h : Tri w0 Z g g2 S' S q R wx) (hs : Sim D k S' R') (hD : D ≤ 1000000) (hk : k ≤ 1000) (dir : Int) (A : Option Addr) (c : Nat) (tl : List Tn) (hwy : wx.grownBy wy none) (hr : Rd wy wy.heap.size A (tcells tl)) (hA : ∀ a, A = some a → wx.heap.size ≤ a.block) (htl : tl.length ≤ c ∧ c ≤ maxLen) :
    Calls Tryz.prog 7 #[.pointer (some ⟨g, 0, none⟩), .agg #[.int .i64 dir, .slice A tl.length c]] wy fun e w' => e = .returned (.tuple #[]) ∧ ∃ ks : List Int,
      ks.Nodup ∧ (∀ n, n ∈ ks ↔ ∃ x ∈ followed S'.safe (S'.changes.take (crashK S' dir)), (x.2 : Int) = n) ∧ Tri w0 Z g g2 (S'.crashed dir tl ks) S q R w' := by
  have hlt : ∀ i, wx.heap.size ≤ i → ∀ L, FsAt wx L g S' → L i = 0 := fun i hi L hL => Classical.byContradiction fun hc => by have := hL.lts hc; omega
  obtain ⟨L, L2, O, h1, h2, h3, h4, h5, h6, h7⟩ := h
  have hsz := hwy.size
  obtain ⟨hd1, hd2⟩ := hs.dirs (crashN R' dir) (crashN_le dir)
  rw [hs.crashK]
  have hN : ∀ x ∈ followed S'.safe (S'.changes.take (crashN R' dir)), (S'.files (x.2 : Int)).isSome := fun x hx => by
    obtain ⟨e, he, rfl⟩ := List.mem_map.1 (hd1.perm.mem_iff.1 hx)
    exact hd2 e he
  have hNl : (followed S'.safe (S'.changes.take (crashN R' dir))).length ≤ 100000 := by rw [hd1.len]; have := hs.lens _ (crashN_le (R := R') dir); have := hs.fl; omega
  have hcr := crash_any L g S' dir A c tl wy (h1.grown hwy) (hs.fine hD hk) (TnAt.of_rd hr fun a ha => hlt _ (hA a ha) L h1) htl (by rw [hs.crashK]; exact hN) (by rw [hs.crashK]; exact hNl) (hs.fGood hD hk)
  refine hcr.mono ?_
  rintro e w' ⟨rfl, ks, L', k0, k1, k2, k3⟩
  rw [hs.crashK] at k1
  refine ⟨rfl, ks, k0, k1, L', L2, O, k2, (h2.grown hwy).keep k3.turned h7, (h3.gb hwy).keep k3.turned (fun i hi hm => by have := (h5 i hi).1; omega), (h4.trans (Turned.of_gb (M := fun _ => False) hwy (by simp)) (fun _ _ h => h.elim)).trans k3.turned (fun i _ hm hz => by have := (h6 i hz).1; omega), fun i hi => ⟨(k3.same i (Nat.lt_of_lt_of_le (h5 i hi).2.2.1 hsz)).trans (h5 i hi).1, (h5 i hi).2.1, Nat.lt_of_lt_of_le (Nat.lt_of_lt_of_le (h5 i hi).2.2.1 hsz) k3.turned.size, (h5 i hi).2.2.2⟩, fun i hi => ⟨(k3.same i (Nat.lt_of_lt_of_le (h6 i hi).2.2 (Nat.le_trans h4.size hsz))).trans (h6 i hi).1, (h6 i hi).2⟩, fun i hi => ?_⟩
  rw [k3.same i (Nat.lt_of_lt_of_le (h2.lts hi) hsz)]
  exact h7 i hi
/-- The one is told as the same as its copy. -/
theorem Tri.same2 {D2 k2 : Nat} {R2 : RS} (h : Tri w0 Z g2 g S' S q R wx) (hs : Sim D k S R2) (hs' : Sim D2 k2 S' R') (ef : R'.f = R2.f) (ed : R'.d = R2.d) (es : R'.safe = R2.safe) (em : R'.m = R2.m) :
    Calls Tryz.prog 17 #[.pointer (some ⟨g, 0, none⟩), .pointer (some ⟨g2, 0, none⟩)] wx fun e w' => e = .returned (.bool true) ∧ wx.grownBy w' none := by
  obtain ⟨L, L2, O, h1, h2, _⟩ := h
  obtain ⟨q1, q2, q3⟩ := hs.alike hs' ef ed es em
  exact same_yes g g2 S S' L2 L wx h2 h1 hs.hN hs'.hN hs.sN hs'.sN q1 q2 q3
end
end Go.Proofs.YtccapgcpdehicaaGreat

namespace Go.Proofs.YtccapgcpdehicaaGreat
open Go.RowKit
attribute [local go_sem ↓] Go.wp_at_zero Go.wp_at_succ

set_option maxHeartbeats 4000000 in
set_option maxRecDepth 100000 in
theorem lwrite_over (p P : ByteArray) (k : Nat) (w : World) (hk : k ≤ p.size) (hp : p.size ≤ 1000000000) (hP : P.size ≤ 1000000000) (ho : p.size ≤ k + P.size) :
    Calls Tryz.prog 34 #[.string p, .int .i64 (k : Int), .string P] w fun e w' => e = .returned (.string (p.extract 0 k ++ P)) ∧ w.grownBy w' none := by
  have h6 : IntKind.i64.wrap ((k : Int) + (P.size : Int)) = ((k + P.size : Nat) : Int) := by rw [IntKind.wrap_i64]; omega
  go_enter Tryz.func34, Tryz.ntmps34
  go_wp2_with fail
  go_ret
  exact ⟨rfl, gb_refl w none⟩
set_option maxHeartbeats 4000000 in
set_option maxRecDepth 100000 in
theorem lwrite_within (p P : ByteArray) (k : Nat) (w : World) (hk : k ≤ p.size) (hp : p.size ≤ 1000000000) (hP : P.size ≤ 1000000000) (ho : k + P.size < p.size) :
    Calls Tryz.prog 34 #[.string p, .int .i64 (k : Int), .string P] w fun e w' => e = .returned (.string (p.extract 0 k ++ P ++ p.extract (k + P.size) p.size)) ∧ w.grownBy w' none := by
  have h6 : IntKind.i64.wrap ((k : Int) + (P.size : Int)) = ((k + P.size : Nat) : Int) := by rw [IntKind.wrap_i64]; omega
  go_enter Tryz.func34, Tryz.ntmps34
  go_upto_region 3 with fail
  go_quiet (fail)
  go_wp2_with fail
  go_ret
  exact ⟨rfl, gb_drewN (gb_refl w none) _⟩
theorem ext_all (P : ByteArray) : P.extract 0 P.size = P := by simp
/-- What write answers: a write that was done. -/
theorem lwrite_any (p P : ByteArray) (k : Nat) (w : World) (hk : k ≤ p.size) (hp : p.size ≤ 1000000000) (hP : P.size ≤ 1000000000) :
    Calls Tryz.prog 34 #[.string p, .int .i64 (k : Int), .string P] w fun e w' => e = .returned (.string (doneR p ⟨false, k, P⟩ P.size)) ∧ w.grownBy w' none := by
  by_cases ho : p.size ≤ k + P.size
  · have e : doneR p ⟨false, k, P⟩ P.size = p.extract 0 k ++ P := by
      unfold doneR
      rw [if_neg (by simp), if_pos ho]
      show p.extract 0 k ++ P.extract 0 P.size = _
      rw [ext_all]
    rw [e]
    exact lwrite_over p P k w hk hp hP ho
  · have e : doneR p ⟨false, k, P⟩ P.size = p.extract 0 k ++ P ++ p.extract (k + P.size) p.size := by
      unfold doneR
      rw [if_neg (by simp), if_neg ho]
      show p.extract 0 k ++ P.extract 0 P.size ++ _ = _
      rw [ext_all]
    rw [e]
    exact lwrite_within p P k w hk hp hP (by omega)
/-- A write of which only the first n bytes came. -/
theorem lwrite_part (p : ByteArray) (x : RD) (n : Nat) (w : World) (hc : x.cut = false) (hk : x.at_ ≤ p.size) (hn : n ≤ x.p.size) (hp : p.size ≤ 1000000000) (hP : x.p.size ≤ 1000000000) :
    Calls Tryz.prog 34 #[.string p, .int .i64 (x.at_ : Int), .string (x.p.extract 0 n)] w fun e w' => e = .returned (.string (doneR p x n)) ∧ w.grownBy w' none := by
  have hs : (x.p.extract 0 n).size = n := by rw [ByteArray.size_extract]; omega
  have e : doneR p ⟨false, x.at_, x.p.extract 0 n⟩ (x.p.extract 0 n).size = doneR p x n := by
    have e2 := ext_all (x.p.extract 0 n)
    rw [hs] at e2
    rw [hs]
    simp only [doneR, hc, Bool.false_eq_true, if_false]
    rw [e2]
  have h := lwrite_any p (x.p.extract 0 n) x.at_ w hk hp (by rw [hs]; omega)
  rwa [e] at h
/-- A text that a beginning of the writes leaves, at the place i. -/
def HitB (x : RFl) (got : ByteArray) (i : Nat) : Prop := got = doneL x.safe (x.l.take i) ∨ ∃ hi : i < x.l.length, x.l[i].cut = false ∧ ∃ n, n < x.l[i].p.size ∧ got = doneR (doneL x.safe (x.l.take i)) x.l[i] n
theorem wrap_m {j : Nat} (h : j ≤ 1000000000) : wrap64 ((j : Int) + 1) = ((j + 1 : Nat) : Int) := by unfold wrap64; omega
theorem tear_hit (x : RFl) (t : Tn) : ∃ i, i ≤ x.l.length ∧ HitB x (tearP x t) i := by
  unfold tearP
  by_cases hl : leftN x t < x.l.length
  · rw [dif_pos hl]
    by_cases hc : (x.l[leftN x t]).cut = false ∧ 0 < t.2.2
    · rw [if_pos hc]
      by_cases hn : min t.2.2.toNat (x.l[leftN x t]).p.size < (x.l[leftN x t]).p.size
      · exact ⟨leftN x t, Nat.le_of_lt hl, .inr ⟨hl, hc.1, _, hn, rfl⟩⟩
      · refine ⟨leftN x t + 1, hl, .inl ?_⟩
        rw [show min t.2.2.toNat (x.l[leftN x t]).p.size = (x.l[leftN x t]).p.size by omega]
        unfold doneL
        rw [List.take_succ_eq_append_getElem hl, List.foldl_append]
        rfl
    · rw [if_neg hc]
      exact ⟨leftN x t, Nat.le_of_lt hl, .inl rfl⟩
  · rw [dif_neg hl]
    exact ⟨leftN x t, by unfold leftN; omega, .inl rfl⟩
set_option maxHeartbeats 8000000 in
set_option maxRecDepth 100000 in
theorem begin_any {D k : Nat} (x : RFl) (got : ByteArray) (A : Option Addr) (c : Nat) (w : World) (hg : GoodX D k x) (hD : D ≤ 1000000) (hk : k ≤ 1000) (i0 : Nat) (hi0 : i0 ≤ x.l.length) (hit : HitB x got i0)
    (hr : ∀ (i : Nat) (hi : i < x.l.length), ∃ b, A = some ⟨b, 0, none⟩ ∧ w.cell? ⟨b, i * 3, none⟩ = some (.bool x.l[i].cut) ∧ w.cell? ⟨b, i * 3 + 1, none⟩ = some (.int .i64 (x.l[i].at_ : Int)) ∧ w.cell? ⟨b, i * 3 + 2, none⟩ = some (.string x.l[i].p)) :
    Calls Tryz.prog 10 #[.string x.safe, .slice A x.l.length c, .string got] w fun e w' => e = .returned (.bool true) ∧ w.grownBy w' none := by
  have HR := hide hr
  have HG := hide hg
  have HIT := hide hit
  have HL : Hid (x.l.length ≤ 1000) := hide (by have := hg.len; omega)
  have H0 := hide hi0
  clear hr hg hit hi0
  go_enter Tryz.func10, Tryz.ntmps10
  go_wp2_with fail
  go_loopw [7, 8] (fun p i wr => ∃ j : Nat, p = .string (doneL x.safe (x.l.take j)) ∧ i = .int .i64 (j : Int) ∧ j ≤ i0 ∧ w.grownBy wr none) (fun _ i _ => x.l.length + 1 - (intOf i).toNat)
  case atStart => exact ⟨0, rfl, rfl, Nat.zero_le _, gb_refl w none⟩
  case round =>
    obtain ⟨j, rfl, rfl, hj, hgb⟩ := hrel
    have HGB := hide hgb
    clear hgb
    have hlen : ¬ (x.l.length : Int) < (j : Int) := by have := H0.out; omega
    have hlen' : (j : Int) ≤ (x.l.length : Int) := by have := H0.out; omega
    have HJ := hide hj
    obtain ⟨P, hP⟩ : ∃ P, P = doneL x.safe (x.l.take j) := ⟨_, rfl⟩
    rw [← hP]
    have HP := hide hP
    clear hP hj
    by_cases hpg : P = got
    · have qp : (P.toList == got.toList) = true := str_eq hpg
      clear hpg
      go_wp2_with fail
      go_ret
      exact ⟨rfl, HGB.out⟩
    have qp : (P.toList == got.toList) = false := str_ne hpg
    have HNE : Hid (P ≠ got) := hide hpg
    clear hpg
    have hlt : j < x.l.length := by
      have h1 := HJ.out
      have h2 := H0.out
      by_cases e : j = i0
      · subst e
        rcases HIT.out with h | ⟨h, _⟩
        · exact absurd (HP.out.trans h.symm) HNE.out
        · exact h
      · omega
    have q2 : ((j : Int) == (x.l.length : Int)) = false := beq_eq_false_iff_ne.2 (by omega)
    obtain ⟨b, rfl, a0, a1, a2⟩ := HR.out j hlt
    have a0 := cell_grown a0 HGB.out
    have a1 := cell_grown a1 HGB.out
    have a2 := cell_grown a2 HGB.out
    have HS : Hid (P.size ≤ 1000000) := hide (by rw [HP.out]; exact Nat.le_trans (HG.out.sz j (Nat.le_of_lt hlt)) hD)
    have hW := HG.out.wr j hlt
    rw [← HP.out] at hW
    have HW := hide hW
    have HNX := hide (doneL_succ x.safe hlt)
    rw [← HP.out] at HNX
    have HNX := hide HNX
    have HH : Hid (j = i0 → x.l[j].cut = false ∧ ∃ n, n < x.l[j].p.size ∧ got = doneR P x.l[j] n) := hide fun e => by
      rcases HIT.out with h | ⟨h1, h2, n, h3, h4⟩
      · exact absurd (HP.out.trans (by rw [e]; exact h.symm)) HNE.out
      · subst e
        exact ⟨h2, n, h3, by rw [HP.out]; exact h4⟩
    generalize hxj : x.l[j] = y at *
    clear hxj
    have HPS : Hid (y.p.size ≤ 1000000) := hide (Nat.le_trans HW.out.2 hD)
    have hat : y.at_ ≤ P.size := HW.out.1
    by_cases hc : y.cut = true
    · have HST : Hid (j + 1 ≤ i0) := hide (by
        have h1 := HJ.out
        have h2 := HH.out
        by_cases e : j = i0
        · exact absurd (h2 e).1 (by rw [hc]; decide)
        · omega)
      have HC := hide hc
      rw [hc] at a0
      clear hc
      go_wp2_with fail
      refine ⟨⟨j + 1, ?_, congrArg (Value.int .i64) (wrap_m (by have := HJ.out; have := H0.out; have := HL.out; omega)), HST.out, gb_alloc HGB.out _⟩, ?_⟩
      · rw [HNX.out]
        unfold doneR
        rw [if_pos HC.out]
      · rw [wrap_m (by have := HJ.out; have := H0.out; have := HL.out; omega)]
        show x.l.length + 1 - ((j + 1 : Nat) : Int).toNat < x.l.length + 1 - ((j : Nat) : Int).toNat
        rw [Int.toNat_natCast, Int.toNat_natCast]
        omega
    · have hc : y.cut = false := Bool.eq_false_iff.2 hc
      have HC := hide hc
      rw [hc] at a0
      clear hc
      go_wp2_with fail
      obtain ⟨wq, hwq⟩ : ∃ wq, wq = wr.alloc (.cells #[.bool false, .int .i64 (y.at_ : Int), .string y.p] 94) := ⟨_, rfl⟩
      have hbx : wq.heap[wr.heap.size]? = some (.cells #[.bool false, .int .i64 (y.at_ : Int), .string y.p] 94 (0, 0)) := by rw [hwq]; exact heap_alloc_new wr _
      have HBX := hide hbx
      have HGQ : Hid (w.grownBy wq none) := hide (by rw [hwq]; exact gb_alloc HGB.out _)
      rw [← hwq]
      clear hwq hbx a0 a1 a2 HGB
      generalize wr.heap.size = bx at *
      clear wr
      go_loopw [10] (fun n w2 => ∃ m : Nat, n = .int .i64 (m : Int) ∧ m ≤ y.p.size ∧ (j = i0 → ∃ n0, m ≤ n0 ∧ n0 < y.p.size ∧ got = doneR P y n0) ∧ wq.grownBy w2 none) (fun n _ => y.p.size - (intOf n).toNat)
      case atStart =>
        refine ⟨0, rfl, Nat.zero_le _, fun e => ?_, gb_refl wq none⟩
        obtain ⟨_, n0, h1, h2⟩ := HH.out e
        exact ⟨n0, Nat.zero_le _, h1, h2⟩
      case round =>
        obtain ⟨m, rfl, hm, hn0, hgb⟩ := hrel
        have HN0 := hide hn0
        have HM := hide hm
        have HGB := hide hgb
        have hbx := blk_keep HBX.out hgb (Option.some_ne_none _)
        have c1 : wr.cell? ⟨bx, 1, none⟩ = some (.int .i64 (y.at_ : Int)) := by rw [blk_cell hbx]; rfl
        have c2 : wr.cell? ⟨bx, 2, none⟩ = some (.string y.p) := by rw [blk_cell hbx]; rfl
        have HBD : Hid (wr.drew.heap[bx]? = some (.cells #[.bool false, .int .i64 (y.at_ : Int), .string y.p] 94 (0, 0))) := hide hbx
        clear hn0 hm hgb hbx
        by_cases hlm : m < y.p.size
        · have hlm1 : (m : Int) < (y.p.size : Int) := by omega
          have hlm2 : m ≤ y.p.size := by omega
          have QW := hide fun w2 => lwrite_part P y m w2 HC.out HW.out.1 hlm2 (by have := HS.out; omega) (by have := HPS.out; omega)
          by_cases he : doneR P y m = got
          · have qe : ((doneR P y m).toList == got.toList) = true := str_eq he
            clear he
            go_upto_region 14 with fail
            go_region_held3 (fun w' => w'.cell? ⟨bx, 1, none⟩ = some (.int .i64 (y.at_ : Int)) ∧ w'.cell? ⟨bx, 2, none⟩ = some (.string y.p)) (first | exact ⟨c1, c2⟩ | exact ⟨d1, d2⟩ | go_keep)
              ((go_at_call 34; refine (QW.out _).mono ?_; rintro e w3 ⟨rfl, hg3⟩; have HG3 := hide hg3; have hbx3 := blk_keep HBD.out hg3 (Option.some_ne_none _); have d1 : w3.cell? ⟨bx, 1, none⟩ = some (.int .i64 (y.at_ : Int)) := by { rw [blk_cell hbx3]; rfl }; have d2 : w3.cell? ⟨bx, 2, none⟩ = some (.string y.p) := by { rw [blk_cell hbx3]; rfl }; clear hg3 hbx3))
            go_wp2_with fail
            go_ret
            exact ⟨rfl, gb_trans HGQ.out (gb_trans HGB.out (gb_trans (gb_drew (gb_refl wr none)) HG3.out (.inl rfl)) (.inl rfl)) (.inl rfl)⟩
          · have qe : ((doneR P y m).toList == got.toList) = false := str_ne he
            have HE := hide he
            clear he
            go_upto_region 14 with fail
            go_region_held3 (fun w' => w'.cell? ⟨bx, 1, none⟩ = some (.int .i64 (y.at_ : Int)) ∧ w'.cell? ⟨bx, 2, none⟩ = some (.string y.p)) (first | exact ⟨c1, c2⟩ | exact ⟨d1, d2⟩ | go_keep)
              ((go_at_call 34; refine (QW.out _).mono ?_; rintro e w3 ⟨rfl, hg3⟩; have HG3 := hide hg3; have hbx3 := blk_keep HBD.out hg3 (Option.some_ne_none _); have d1 : w3.cell? ⟨bx, 1, none⟩ = some (.int .i64 (y.at_ : Int)) := by { rw [blk_cell hbx3]; rfl }; have d2 : w3.cell? ⟨bx, 2, none⟩ = some (.string y.p) := by { rw [blk_cell hbx3]; rfl }; clear hg3 hbx3))
            go_wp2_with fail
            refine ⟨⟨m + 1, congrArg (Value.int .i64) (by omega), hlm, fun e => ?_, gb_trans HGB.out (gb_trans (gb_drew (gb_refl wr none)) HG3.out (.inl rfl)) (.inl rfl)⟩, ?_⟩
            · obtain ⟨n0, h1, h2, h3⟩ := HN0.out e
              have : m ≠ n0 := fun e => HE.out (by rw [h3, e])
              exact ⟨n0, by omega, h2, h3⟩
            · show y.p.size - ((m : Int) + 1).toNat < y.p.size - ((m : Nat) : Int).toNat
              omega
        · have hlm1 : ¬ (m : Int) < (y.p.size : Int) := by omega
          have HST : Hid (j + 1 ≤ i0) := hide (by
            have h1 := HJ.out
            have h2 := HN0.out
            by_cases e : j = i0
            · obtain ⟨n0, h3, h4, _⟩ := h2 e
              omega
            · omega)
          have QW := hide fun w2 => lwrite_any P y.p y.at_ w2 HW.out.1 (by have := HS.out; omega) (by have := HPS.out; omega)
          go_wp2_with (go_at_call 34; refine (QW.out _).mono ?_; rintro e w3 ⟨rfl, hg3⟩; have HG3 := hide hg3; clear hg3)
          refine ⟨⟨j + 1, ?_, congrArg (Value.int .i64) (wrap_m (by have := HJ.out; have := H0.out; have := HL.out; omega)), HST.out, gb_trans HGQ.out (gb_trans HGB.out HG3.out (.inl rfl)) (.inl rfl)⟩, ?_⟩
          · rw [HNX.out]
            unfold doneR
            rw [HC.out]
          · rw [wrap_m (by have := HJ.out; have := H0.out; have := HL.out; omega)]
            show x.l.length + 1 - ((j + 1 : Nat) : Int).toNat < x.l.length + 1 - ((j : Nat) : Int).toNat
            rw [Int.toNat_natCast, Int.toNat_natCast]
            omega
end Go.Proofs.YtccapgcpdehicaaGreat
