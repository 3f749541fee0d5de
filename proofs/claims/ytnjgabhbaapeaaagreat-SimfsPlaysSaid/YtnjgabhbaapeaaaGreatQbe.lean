/-
  A file system, its copy and the document's beside each other.
-/
import Derived.Test.YtnjgabhbaapeaaaGreatQbd
import Derived.Test.YtnjgabhbaapeaaaGreatQap

namespace Go.Proofs.YtnjgabhbaapeaaaGreat
open Go.RowKit

/-- The file system S' at g, its copy S at g2, the document's R at q: what the first may write is neither of the others'. -/
def Tri (w0 : World) (Z : Nat → Prop) (g g2 : Nat) (S' S : St) (q : Nat) (R : RS) (wx : World) : Prop :=
  ∃ L L2 O, FsAt wx L g S' ∧ FsAt wx L2 g2 S ∧ RsAt wx O q R ∧ Turned (fun i => ¬ Z i) w0 wx ∧ (∀ i, O i → L i = 0 ∧ L2 i = 0 ∧ i < wx.heap.size ∧ ¬ Z i) ∧ (∀ i, Z i → L i = 0 ∧ L2 i = 0 ∧ i < w0.heap.size) ∧ (∀ i, L2 i ≠ 0 → ¬ (L i = 1 ∨ 3 ≤ L i))

section
variable {w0 wx wy : World} {Z : Nat → Prop} {g g2 q D k : Nat} {S' S S9 : St} {R R' : RS}
theorem Tri.turned (h : Tri w0 Z g g2 S' S q R wx) : Turned (fun i => ¬ Z i) w0 wx := by
  obtain ⟨L, L2, O, _, _, _, h, _⟩ := h
  exact h
theorem Tri.block (h : Tri w0 Z g g2 S' S q R wx) {i : Nat} (hi : Z i) : wx.heap[i]? = w0.heap[i]? := by
  obtain ⟨L, L2, O, _, _, _, h3, _, h5, _⟩ := h
  exact h3.block i (h5 i hi).2.2 (fun k => k hi)
theorem Tri.keep (h : Tri w0 Z g g2 S' S q R wx) (hg : wx.grownBy wy none) : Tri w0 Z g g2 S' S q R wy := by
  obtain ⟨L, L2, O, h1, h2, h3, h4, h5, h6, h7⟩ := h
  exact ⟨L, L2, O, h1.grown hg, h2.grown hg, h3.gb hg, h4.trans (Turned.of_gb (M := fun _ => False) hg (by simp)) (fun _ _ h => h.elim), fun i hi => ⟨(h5 i hi).1, (h5 i hi).2.1, Nat.lt_of_lt_of_le (h5 i hi).2.2.1 hg.size, (h5 i hi).2.2.2⟩, h6, h7⟩
theorem Tri.drewN (h : Tri w0 Z g g2 S' S q R wx) (n : Nat) : Tri w0 Z g g2 S' S q R (wx.drewN n) := h.keep (gb_drewN (gb_refl wx none) n)
theorem Tri.drew (h : Tri w0 Z g g2 S' S q R wx) : Tri w0 Z g g2 S' S q R wx.drew := h.drewN 1
/-- The copy goes on. -/
theorem Tri.fin (h : Tri w0 Z g g2 S' S q R wx) : Bo w0 Z g2 S q R wx := by
  obtain ⟨L, L2, O, h1, h2, h3, h4, h5, h6, h7⟩ := h
  exact ⟨L2, O, h2, h3, h4, fun i hi => ⟨(h5 i hi).2.1, (h5 i hi).2.2.1, (h5 i hi).2.2.2⟩, fun i hi => ⟨(h6 i hi).2.1, (h6 i hi).2.2⟩⟩
/-- Copy. -/
theorem Bo.copy (h : Bo w0 Z g S q R wx) (hs : Sim D k S R) (hD : D ≤ 1000000) (hk : k ≤ 1000) :
    Calls Tryz.prog 21 #[.pointer (some ⟨g, 0, none⟩)] wx fun e w' => ∃ g2, e = .returned (.pointer (some ⟨g2, 0, none⟩)) ∧ Tri w0 Z g g2 S S q R w' := by
  have hsz := h.size
  obtain ⟨L, O, h1, h2, h3, h4, h5⟩ := h
  refine (copy_any g S L wx h1 (hs.fine hD hk)).mono ?_
  rintro e w' ⟨g', L', rfl, k1, k2, k3⟩
  refine ⟨g', rfl, L, L', O, h1.grown k2, k1, h2.gb k2, h3.trans (Turned.of_gb (M := fun _ => False) k2 (by simp)) (fun _ _ h => h.elim), fun i hi => ⟨(h4 i hi).1, Classical.byContradiction fun hc => ?_, Nat.lt_of_lt_of_le (h4 i hi).2.1 k2.size, (h4 i hi).2.2⟩, fun i hi => ⟨(h5 i hi).1, Classical.byContradiction fun hc => ?_, (h5 i hi).2⟩, fun i hi => ?_⟩
  · have := (k3 i (h4 i hi).2.1 hc).2
    have := (h4 i hi).1
    omega
  · have := (k3 i (Nat.lt_of_lt_of_le (h5 i hi).2 hsz) hc).2
    have := (h5 i hi).1
    omega
  · by_cases hl : i < wx.heap.size
    · have := (k3 i hl hi).2
      omega
    · have : L i = 0 := Classical.byContradiction fun hc => hl (h1.lts hc)
      omega
/-- A call on the first. -/
theorem Tri.prog {f : FuncId} {args : Array Value} {v : Value} (h : Tri w0 Z g g2 S' S q R wx) (hc : ∀ L, FsAt wx L g S' → Calls Tryz.prog f args wx (FsPost L g S9 v wx)) :
    Calls Tryz.prog f args wx fun e w' => e = .returned v ∧ Tri w0 Z g g2 S9 S q R w' := by
  obtain ⟨L, L2, O, h1, h2, h3, h4, h5, h6, h7⟩ := h
  refine (hc L h1).mono ?_
  rintro e w' ⟨rfl, L', k1, k2⟩
  refine ⟨rfl, L', L2, O, k1, h2.keep k2.turned h7, h3.keep k2.turned (fun i hi hm => by have := (h5 i hi).1; omega), h4.trans k2.turned (fun i _ hm hz => by have := (h6 i hz).1; omega), fun i hi => ⟨(k2.same i (h5 i hi).2.2.1).trans (h5 i hi).1, (h5 i hi).2.1, Nat.lt_of_lt_of_le (h5 i hi).2.2.1 k2.turned.size, (h5 i hi).2.2.2⟩, fun i hi => ⟨(k2.same i (Nat.lt_of_lt_of_le (h6 i hi).2.2 h4.size)).trans (h6 i hi).1, (h6 i hi).2⟩, fun i hi => ?_⟩
  rw [k2.same i (h2.lts hi)]
  exact h7 i hi
theorem Tri.remove (h : Tri w0 Z g g2 S' S q R wx) (hs : Sim D k S' R') (hD : D ≤ 1000000) (hk : k ≤ 1000) (a : ByteArray) :
    Calls Tryz.prog 35 #[.pointer (some ⟨g, 0, none⟩), .string a] wx fun e w' => e = .returned (.int .i64 (askErr S' [a] a)) ∧ Tri w0 Z g g2 (S'.remove a) S q R w' :=
  h.prog fun L hL => remove_any L g S' a wx hL (hs.fine hD hk) (hs.remove a).2.2
theorem Tri.append_new (h : Tri w0 Z g g2 S' S q R wx) (hs : Sim D k S' R') (hD : D ≤ 1000000) (hk : k ≤ 1000) (n : Int) (p : List UInt8) (cs : Array Value) (fr : Nat × Nat) (m c : Nat) (hcs : u8s p = cs.toList) (hm : m = p.length) (hp : p.length ≤ 400000000) :
    Calls Tryz.prog 24 #[.pointer (some ⟨g, 0, none⟩), .int .i64 n, .slice (some ⟨wx.heap.size, 0, none⟩) m c] (wx.alloc (.cells cs 5 fr)) fun e w' => e = .returned (.int .i64 (S'.appendE n m)) ∧ Tri w0 Z g g2 (S'.append n p) S q R w' :=
  (h.keep (gb_alloc (gb_refl wx none) _)).prog fun L hL => append_any L g S' n _ m c _ p _ hL (hs.fine hD hk) ((Rd.laid wx cs 5 fr _ hcs).more (by simp)) (Nat.le_refl _) hm hp
theorem Tri.syncDir (h : Tri w0 Z g g2 S' S q R wx) (hs : Sim D k S' R') (hD : D ≤ 1000000) (hk : k ≤ 1000) :
    Calls Tryz.prog 26 #[.pointer (some ⟨g, 0, none⟩)] wx fun e w' => e = .returned (.int .i64 S'.syncDirE) ∧ Tri w0 Z g g2 S'.syncDir S q R w' := by
  refine h.prog fun L hL => ?_
  unfold St.syncDirE St.syncDir
  cases hd : S'.dead
  · exact syncdir_ok L g S' wx hL (hs.fine hD hk) hd hs.hN
  · refine (syncdir_dead L g S' wx hL hd).mono ?_
    rintro e w' ⟨rfl, rfl⟩
    exact FsPost.same0 hL _
theorem Tri.arm (h : Tri w0 Z g g2 S' S q R wx) (n : Int) :
    Calls Tryz.prog 28 #[.pointer (some ⟨g, 0, none⟩), .int .i64 n] wx fun e w' => e = .returned (.tuple #[]) ∧ Tri w0 Z g g2 (S'.arm n) S q R w' :=
  h.prog fun L hL => armed_in L g S' n wx hL

/-! ## A copy is told as the same -/
theorem nmEq_self {S : St} {l : List (ByteArray × Nat)} (hk : (l.map (·.1)).Nodup) (hi : ∀ x ∈ l, (S.files (x.2 : Int)).isSome) : nmEq S l S l = true := by
  unfold nmEq
  simp only [beq_self_eq_true, Bool.true_and, List.all_eq_true]
  intro x hx
  unfold nmOne
  rw [aget_mem hk hx]
  show flO (S.files (x.2 : Int)) (S.files (x.2 : Int)) = true
  obtain ⟨f, hf⟩ := Option.isSome_iff_exists.1 (hi x hx)
  rw [hf]
  exact flEq_self f
theorem Sim.sN (h : Sim D k S R) : ∀ x ∈ S.safe, (S.files (x.2 : Int)).isSome := by
  intro x hx
  obtain ⟨e, he, rfl⟩ := List.mem_map.1 (h.safe.perm.mem_iff.1 hx)
  exact h.inS e he
theorem Sim.same_ {w : World} {g1 g2 : Nat} {L1 L2 : Nat → Nat} (h : Sim D k S R) (h1 : FsAt w L1 g1 S) (h2 : FsAt w L2 g2 S) :
    Calls Tryz.prog 22 #[.pointer (some ⟨g1, 0, none⟩), .pointer (some ⟨g2, 0, none⟩)] w fun e w' => e = .returned (.bool true) ∧ w.grownBy w' none :=
  same_yes g1 g2 S S L1 L2 w h1 h2 h.hN h.hN h.sN h.sN (nmEq_self h.names.keysL h.hN) (nmEq_self h.safe.keysL h.sN) (eqL_self chEq_self _)
theorem Tri.same (h : Tri w0 Z g g2 S S q R wx) (hs : Sim D k S R') : Calls Tryz.prog 22 #[.pointer (some ⟨g, 0, none⟩), .pointer (some ⟨g2, 0, none⟩)] wx fun e w' => e = .returned (.bool true) ∧ Tri w0 Z g g2 S S q R w' := by
  have h' := h
  obtain ⟨L, L2, O, h1, h2, _⟩ := h
  exact (hs.same_ h1 h2).mono fun e w' hx => ⟨hx.1, h'.keep hx.2⟩
end
end Go.Proofs.YtnjgabhbaapeaaaGreat
