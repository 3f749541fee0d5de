/-
  Whether the document's two file systems are the same: sameNames, Same.
-/
import Derived.Test.YtccapgcpdehicaaQbb
import Derived.Test.YtccapgcpdehicaaQap
import Derived.Laws.StructEq

namespace Go.Proofs.Ytccapgcpdehicaa
open Go.RowKit

/-- The file system S' at g, its copy S at g2, the document's R at q: what the first may write is neither of the others'. -/
def Tri (w0 : World) (Z : Nat → Prop) (g g2 : Nat) (S' S : St) (q : Nat) (R : RS) (wx : World) : Prop :=
  ∃ L L2 O, FsAt wx L g S' ∧ FsAt wx L2 g2 S ∧ RsAt wx O q R ∧ Turned (fun i => ¬ Z i) w0 wx ∧ (∀ i, O i → L i = 0 ∧ L2 i = 0 ∧ i < wx.heap.size ∧ ¬ Z i) ∧ (∀ i, Z i → L i = 0 ∧ L2 i = 0 ∧ i < w0.heap.size) ∧ (∀ i, L2 i ≠ 0 → ¬ (L i = 1 ∨ 3 ≤ L i))

section
variable {w0 wx wy : World} {Z : Nat → Prop} {g g2 q D k : Nat} {S' S S9 : St} {R R' : RS}
theorem Tri.turned (h : Tri w0 Z g g2 S' S q R wx) : Turned (fun i => ¬ Z i) w0 wx := by
  obtain ⟨L, L2, O, _, _, _, h, _⟩ := h
  exact h
theorem Tri.block (h : Tri w0 Z g g2 S' S q R wx) {i : Nat} (hi : Z i) : wx.heap[i]? = w0.heap[i]? := by
  obtain ⟨L, L2, O, _, _, _, h3, _, h5, _⟩ := h
  exact h3.block i (h5 i hi).2.2 (fun k => k hi)
theorem Tri.keep (h : Tri w0 Z g g2 S' S q R wx) (hg : wx.grownBy wy none) : Tri w0 Z g g2 S' S q R wy := by
  obtain ⟨L, L2, O, h1, h2, h3, h4, h5, h6, h7⟩ := h
  exact ⟨L, L2, O, h1.grown hg, h2.grown hg, h3.gb hg, h4.trans (Turned.of_gb (M := fun _ => False) hg (by simp)) (fun _ _ h => h.elim), fun i hi => ⟨(h5 i hi).1, (h5 i hi).2.1, Nat.lt_of_lt_of_le (h5 i hi).2.2.1 hg.size, (h5 i hi).2.2.2⟩, h6, h7⟩
theorem Tri.drewN (h : Tri w0 Z g g2 S' S q R wx) (n : Nat) : Tri w0 Z g g2 S' S q R (wx.drewN n) := h.keep (gb_drewN (gb_refl wx none) n)
theorem Tri.drew (h : Tri w0 Z g g2 S' S q R wx) : Tri w0 Z g g2 S' S q R wx.drew := h.drewN 1
/-- The copy goes on. -/
theorem Tri.fin (h : Tri w0 Z g g2 S' S q R wx) : Bo w0 Z g2 S q R wx := by
  obtain ⟨L, L2, O, h1, h2, h3, h4, h5, h6, h7⟩ := h
  exact ⟨L2, O, h2, h3, h4, fun i hi => ⟨(h5 i hi).2.1, (h5 i hi).2.2.1, (h5 i hi).2.2.2⟩, fun i hi => ⟨(h6 i hi).2.1, (h6 i hi).2.2⟩⟩
/-- Copy. -/
theorem Bo.copy (h : Bo w0 Z g S q R wx) (hs : Sim D k S R) (hD : D ≤ 1000000) (hk : k ≤ 1000) :
    Calls Try.prog 52 #[.pointer (some ⟨g, 0, none⟩)] wx fun e w' => ∃ g2, e = .returned (.pointer (some ⟨g2, 0, none⟩)) ∧ Tri w0 Z g g2 S S q R w' := by
  have hsz := h.size
  obtain ⟨L, O, h1, h2, h3, h4, h5⟩ := h
  refine (copy_any g S L wx h1 (hs.fine hD hk)).mono ?_
  rintro e w' ⟨g', L', rfl, k1, k2, k3⟩
  refine ⟨g', rfl, L, L', O, h1.grown k2, k1, h2.gb k2, h3.trans (Turned.of_gb (M := fun _ => False) k2 (by simp)) (fun _ _ h => h.elim), fun i hi => ⟨(h4 i hi).1, Classical.byContradiction fun hc => ?_, Nat.lt_of_lt_of_le (h4 i hi).2.1 k2.size, (h4 i hi).2.2⟩, fun i hi => ⟨(h5 i hi).1, Classical.byContradiction fun hc => ?_, (h5 i hi).2⟩, fun i hi => ?_⟩
  · have := (k3 i (h4 i hi).2.1 hc).2
    have := (h4 i hi).1
    omega
  · have := (k3 i (Nat.lt_of_lt_of_le (h5 i hi).2 hsz) hc).2
    have := (h5 i hi).1
    omega
  · by_cases hl : i < wx.heap.size
    · have := (k3 i hl hi).2
      omega
    · have : L i = 0 := Classical.byContradiction fun hc => hl (h1.lts hc)
      omega
/-- A call on the first. -/
theorem Tri.prog {f : FuncId} {args : Array Value} {v : Value} (h : Tri w0 Z g g2 S' S q R wx) (hc : ∀ L, FsAt wx L g S' → Calls Try.prog f args wx (FsPost L g S9 v wx)) :
    Calls Try.prog f args wx fun e w' => e = .returned v ∧ Tri w0 Z g g2 S9 S q R w' := by
  obtain ⟨L, L2, O, h1, h2, h3, h4, h5, h6, h7⟩ := h
  refine (hc L h1).mono ?_
  rintro e w' ⟨rfl, L', k1, k2⟩
  refine ⟨rfl, L', L2, O, k1, h2.keep k2.turned h7, h3.keep k2.turned (fun i hi hm => by have := (h5 i hi).1; omega), h4.trans k2.turned (fun i _ hm hz => by have := (h6 i hz).1; omega), fun i hi => ⟨(k2.same i (h5 i hi).2.2.1).trans (h5 i hi).1, (h5 i hi).2.1, Nat.lt_of_lt_of_le (h5 i hi).2.2.1 k2.turned.size, (h5 i hi).2.2.2⟩, fun i hi => ⟨(k2.same i (Nat.lt_of_lt_of_le (h6 i hi).2.2 h4.size)).trans (h6 i hi).1, (h6 i hi).2⟩, fun i hi => ?_⟩
  rw [k2.same i (h2.lts hi)]
  exact h7 i hi
theorem Tri.remove (h : Tri w0 Z g g2 S' S q R wx) (hs : Sim D k S' R') (hD : D ≤ 1000000) (hk : k ≤ 1000) (a : ByteArray) :
    Calls Try.prog 45 #[.pointer (some ⟨g, 0, none⟩), .string a] wx fun e w' => e = .returned (.int .i64 (askErr S' [a] a)) ∧ Tri w0 Z g g2 (S'.remove a) S q R w' :=
  h.prog fun L hL => remove_any L g S' a wx hL (hs.fine hD hk) (hs.remove a).2.2
theorem Tri.append_new (h : Tri w0 Z g g2 S' S q R wx) (hs : Sim D k S' R') (hD : D ≤ 1000000) (hk : k ≤ 1000) (n : Int) (p : List UInt8) (cs : Array Value) (fr : Nat × Nat) (m c : Nat) (hcs : u8s p = cs.toList) (hm : m = p.length) (hp : p.length ≤ 400000000) :
    Calls Try.prog 12 #[.pointer (some ⟨g, 0, none⟩), .int .i64 n, .slice (some ⟨wx.heap.size, 0, none⟩) m c] (wx.alloc (.cells cs 5 fr)) fun e w' => e = .returned (.int .i64 (S'.appendE n m)) ∧ Tri w0 Z g g2 (S'.append n p) S q R w' :=
  (h.keep (gb_alloc (gb_refl wx none) _)).prog fun L hL => append_any L g S' n _ m c _ p _ hL (hs.fine hD hk) ((Rd.laid wx cs 5 fr _ hcs).more (by simp)) (Nat.le_refl _) hm hp
theorem Tri.syncDir (h : Tri w0 Z g g2 S' S q R wx) (hs : Sim D k S' R') (hD : D ≤ 1000000) (hk : k ≤ 1000) :
    Calls Try.prog 14 #[.pointer (some ⟨g, 0, none⟩)] wx fun e w' => e = .returned (.int .i64 S'.syncDirE) ∧ Tri w0 Z g g2 S'.syncDir S q R w' := by
  refine h.prog fun L hL => ?_
  unfold St.syncDirE St.syncDir
  cases hd : S'.dead
  · exact syncdir_ok L g S' wx hL (hs.fine hD hk) hd hs.hN
  · refine (syncdir_dead L g S' wx hL hd).mono ?_
    rintro e w' ⟨rfl, rfl⟩
    exact FsPost.same0 hL _
theorem Tri.arm (h : Tri w0 Z g g2 S' S q R wx) (n : Int) :
    Calls Try.prog 18 #[.pointer (some ⟨g, 0, none⟩), .int .i64 n] wx fun e w' => e = .returned (.tuple #[]) ∧ Tri w0 Z g g2 (S'.arm n) S q R w' :=
  h.prog fun L hL => armed_in L g S' n wx hL

/-! ## A copy is told as the same -/
theorem nmEq_self {S : St} {l : List (ByteArray × Nat)} (hk : (l.map (·.1)).Nodup) (hi : ∀ x ∈ l, (S.files (x.2 : Int)).isSome) : nmEq S l S l = true := by
  unfold nmEq
  simp only [beq_self_eq_true, Bool.true_and, List.all_eq_true]
  intro x hx
  unfold nmOne
  rw [aget_mem hk hx]
  show flO (S.files (x.2 : Int)) (S.files (x.2 : Int)) = true
  obtain ⟨f, hf⟩ := Option.isSome_iff_exists.1 (hi x hx)
  rw [hf]
  exact flEq_self f
theorem Sim.sN (h : Sim D k S R) : ∀ x ∈ S.safe, (S.files (x.2 : Int)).isSome := by
  intro x hx
  obtain ⟨e, he, rfl⟩ := List.mem_map.1 (h.safe.perm.mem_iff.1 hx)
  exact h.inS e he
theorem Sim.same_ {w : World} {g1 g2 : Nat} {L1 L2 : Nat → Nat} (h : Sim D k S R) (h1 : FsAt w L1 g1 S) (h2 : FsAt w L2 g2 S) :
    Calls Try.prog 7 #[.pointer (some ⟨g1, 0, none⟩), .pointer (some ⟨g2, 0, none⟩)] w fun e w' => e = .returned (.bool true) ∧ w.grownBy w' none :=
  same_yes g1 g2 S S L1 L2 w h1 h2 h.hN h.hN h.sN h.sN (nmEq_self h.names.keysL h.hN) (nmEq_self h.safe.keysL h.sN) (eqL_self chEq_self _)
theorem Tri.same (h : Tri w0 Z g g2 S S q R wx) (hs : Sim D k S R') : Calls Try.prog 7 #[.pointer (some ⟨g, 0, none⟩), .pointer (some ⟨g2, 0, none⟩)] wx fun e w' => e = .returned (.bool true) ∧ Tri w0 Z g g2 S S q R w' := by
  have h' := h
  obtain ⟨L, L2, O, h1, h2, _⟩ := h
  exact (hs.same_ h1 h2).mono fun e w' hx => ⟨hx.1, h'.keep hx.2⟩
end
end Go.Proofs.Ytccapgcpdehicaa

namespace Go.Proofs.Ytccapgcpdehicaa
open Go.RowKit

section
variable {D k D2 k2 : Nat} {S S2 : St} {R R2 : RS}
theorem flEq_of {f f2 : Fl} {x : RFl} (h : FS2 f x) (h2 : FS2 f2 x) : flEq f f2 = true := by
  unfold flEq
  rw [h.bytes, h.safe, h.waits, h2.bytes, h2.safe, h2.waits]
  simp [eqL_self (fun y => (wrEq_iff y y).2 rfl)]
theorem nmEq_alike {l l2 : List (ByteArray × Nat)} {d : List RE} (hl : Dir l d) (hl2 : Dir l2 d) (hf : ∀ e ∈ d, flO (S.files (e.n : Int)) (S2.files (e.n : Int)) = true) : nmEq S l S2 l2 = true := by
  unfold nmEq
  rw [hl.len, hl2.len]
  simp only [beq_self_eq_true, Bool.true_and, List.all_eq_true]
  intro x hx
  obtain ⟨e, he, rfl⟩ := List.mem_map.1 (hl.perm.mem_iff.1 hx)
  unfold nmOne
  rw [show aget l2 (prE e).1 = some e.n from hl2.at_some he]
  exact hf e he
theorem Sim.alikeF (h : Sim D k S R) (h2 : Sim D2 k2 S2 R2) (ef : R2.f = R.f) {n : Int} (i1 : (S.files n).isSome) (i2 : (S2.files n).isSome) : flO (S.files n) (S2.files n) = true := by
  obtain ⟨f, hf⟩ := Option.isSome_iff_exists.1 i1
  obtain ⟨f2, hf2⟩ := Option.isSome_iff_exists.1 i2
  rw [hf, hf2]
  obtain ⟨_, a2, a3⟩ := h.files _ f hf
  obtain ⟨_, b2, b3⟩ := h2.files _ f2 hf2
  have e : R2.f[(n - 1).toNat] = R.f[(n - 1).toNat] := by simp only [ef]
  rw [e] at b3
  exact flEq_of a3 b3
/-- Two that say the same as one document's are told as the same. -/
theorem Sim.alike (h : Sim D k S R) (h2 : Sim D2 k2 S2 R2) (ef : R2.f = R.f) (ed : R2.d = R.d) (es : R2.safe = R.safe) (em : R2.m = R.m) :
    nmEq S S.names S2 S2.names = true ∧ nmEq S S.safe S2 S2.safe = true ∧ eqL chEq S.changes S2.changes = true := by
  refine ⟨nmEq_alike h.names (ed ▸ h2.names) fun e he => h.alikeF h2 ef (h.inD e he) (h2.inD e (ed ▸ he)), nmEq_alike h.safe (es ▸ h2.safe) fun e he => h.alikeF h2 ef (h.inS e he) (h2.inS e (es ▸ he)), ?_⟩
  rw [h.chs, h2.chs, em]
  exact eqL_self chEq_self _
end

section
variable {w0 wx wy : World} {Z : Nat → Prop} {g g2 q D k : Nat} {S' S : St} {R R' : RS}
theorem Tri.crash (h : Tri w0 Z g g2 S' S q R wx) (hs : Sim D k S' R') (hD : D ≤ 1000000) (hk : k ≤ 1000) (dir : Int) (A : Option Addr) (c : Nat) (tl : List Tn) (hwy : wx.grownBy wy none) (hr : Rd wy wy.heap.size A (tcells tl)) (hA : ∀ a, A = some a → wx.heap.size ≤ a.block) (htl : tl.length ≤ c ∧ c ≤ maxLen) :
    Calls Try.prog 16 #[.pointer (some ⟨g, 0, none⟩), .agg #[.int .i64 dir, .slice A tl.length c]] wy fun e w' => e = .returned (.tuple #[]) ∧ ∃ ks : List Int,
      ks.Nodup ∧ (∀ n, n ∈ ks ↔ ∃ x ∈ followed S'.safe (S'.changes.take (crashK S' dir)), (x.2 : Int) = n) ∧ Tri w0 Z g g2 (S'.crashed dir tl ks) S q R w' := by
  have hlt : ∀ i, wx.heap.size ≤ i → ∀ L, FsAt wx L g S' → L i = 0 := fun i hi L hL => Classical.byContradiction fun hc => by have := hL.lts hc; omega
  obtain ⟨L, L2, O, h1, h2, h3, h4, h5, h6, h7⟩ := h
  have hsz := hwy.size
  obtain ⟨hd1, hd2⟩ := hs.dirs (crashN R' dir) (crashN_le dir)
  rw [hs.crashK]
  have hN : ∀ x ∈ followed S'.safe (S'.changes.take (crashN R' dir)), (S'.files (x.2 : Int)).isSome := fun x hx => by
    obtain ⟨e, he, rfl⟩ := List.mem_map.1 (hd1.perm.mem_iff.1 hx)
    exact hd2 e he
  have hNl : (followed S'.safe (S'.changes.take (crashN R' dir))).length ≤ 100000 := by rw [hd1.len]; have := hs.lens _ (crashN_le (R := R') dir); have := hs.fl; omega
  have hcr := crash_any L g S' dir A c tl wy (h1.grown hwy) (hs.fine hD hk) (TnAt.of_rd hr fun a ha => hlt _ (hA a ha) L h1) htl (by rw [hs.crashK]; exact hN) (by rw [hs.crashK]; exact hNl) (hs.fGood hD hk)
  refine hcr.mono ?_
  rintro e w' ⟨rfl, ks, L', k0, k1, k2, k3⟩
  rw [hs.crashK] at k1
  refine ⟨rfl, ks, k0, k1, L', L2, O, k2, (h2.grown hwy).keep k3.turned h7, (h3.gb hwy).keep k3.turned (fun i hi hm => by have := (h5 i hi).1; omega), (h4.trans (Turned.of_gb (M := fun _ => False) hwy (by simp)) (fun _ _ h => h.elim)).trans k3.turned (fun i _ hm hz => by have := (h6 i hz).1; omega), fun i hi => ⟨(k3.same i (Nat.lt_of_lt_of_le (h5 i hi).2.2.1 hsz)).trans (h5 i hi).1, (h5 i hi).2.1, Nat.lt_of_lt_of_le (Nat.lt_of_lt_of_le (h5 i hi).2.2.1 hsz) k3.turned.size, (h5 i hi).2.2.2⟩, fun i hi => ⟨(k3.same i (Nat.lt_of_lt_of_le (h6 i hi).2.2 (Nat.le_trans h4.size hsz))).trans (h6 i hi).1, (h6 i hi).2⟩, fun i hi => ?_⟩
  rw [k3.same i (Nat.lt_of_lt_of_le (h2.lts hi) hsz)]
  exact h7 i hi
end
end Go.Proofs.Ytccapgcpdehicaa

namespace Go.Proofs.Ytccapgcpdehicaa
open Go.RowKit

theorem Bool.eq_of_iff' {a b : Bool} (h : a = true ↔ b = true) : a = b := by cases a <;> cases b <;> simp_all
theorem eqL_iff {α : Type} {q : α → α → Bool} (hq : ∀ x y, q x y = true ↔ x = y) : ∀ {xs ys : List α}, eqL q xs ys = true ↔ xs = ys
  | [], [] => by simp [eqL]
  | [], _ :: _ | _ :: _, [] => by simp [eqL]
  | x :: xs, y :: ys => by
    unfold eqL
    rw [Bool.and_eq_true, hq, eqL_iff hq, List.cons.injEq]
theorem eqL_map {α β : Type} {q : β → β → Bool} {r : α → α → Bool} {f : α → β} : ∀ {xs ys : List α}, (∀ x ∈ xs, ∀ y ∈ ys, q (f x) (f y) = r x y) → eqL q (xs.map f) (ys.map f) = eqL r xs ys
  | [], [], _ => rfl
  | [], _ :: _, _ | _ :: _, [], _ => rfl
  | x :: xs, y :: ys, h => by
    show (q (f x) (f y) && eqL q (xs.map f) (ys.map f)) = (r x y && eqL r xs ys)
    rw [h x (List.mem_cons_self ..) y (List.mem_cons_self ..), eqL_map fun a ha b hb => h a (List.mem_cons_of_mem _ ha) b (List.mem_cons_of_mem _ hb)]
def rdEq (x y : RD) : Bool := decide (x.p = y.p) && decide (x.at_ = y.at_) && (x.cut == y.cut)
theorem rdEq_iff (x y : RD) : rdEq x y = true ↔ x = y := by
  obtain ⟨a, b, c⟩ := x
  obtain ⟨a', b', c'⟩ := y
  simp only [rdEq, Bool.and_eq_true, decide_eq_true_eq, beq_iff_eq, RD.mk.injEq]
  exact ⟨fun ⟨⟨h1, h2⟩, h3⟩ => ⟨h3, h2, h1⟩, fun ⟨h1, h2, h3⟩ => ⟨⟨h3, h2⟩, h1⟩⟩
theorem wrOf_inj {x y : RD} (h : wrOf x = wrOf y) : x = y := by
  obtain ⟨a, b, c⟩ := x
  obtain ⟨a', b', c'⟩ := y
  unfold wrOf at h
  injection h with h1 h2 h3
  have h3 := bl_inj h3
  simp only at h1 h2 h3
  rw [h1, h2, h3]
theorem wrOf_map {xs ys : List RD} (h : xs.map wrOf = ys.map wrOf) : xs = ys := (List.map_inj_right fun _ _ => wrOf_inj).1 h
/-- Are two files the same? -/
def sameF (now : Bool) (x y : RFl) : Bool := decide (x.safe = y.safe) && eqL rdEq x.l y.l && (!now || decide (x.p = y.p))
theorem sameF_iff {now : Bool} {x y : RFl} : sameF now x y = true ↔ x.safe = y.safe ∧ x.l = y.l ∧ (now = true → x.p = y.p) := by
  unfold sameF
  rw [Bool.and_eq_true, Bool.and_eq_true, decide_eq_true_eq, eqL_iff rdEq_iff, and_assoc]
  cases now <;> simp
/-- Is a name's file the same in another list? -/
def sameE (R R2 : RS) (e : List RE) (now : Bool) (x : RE) : Bool := if atR e x.name < 0 then false else sameF now (R.f.getD (x.n - 1) noFl) (R2.f.getD ((e.getD (atR e x.name).toNat ⟨noS, 0⟩).n - 1) noFl)
def sameN (R : RS) (d : List RE) (R2 : RS) (e : List RE) (now : Bool) : Bool := (d.length == e.length) && d.all (sameE R R2 e now)
def rmEq (x y : RM) : Bool := (x.kind == y.kind) && decide (x.a = y.a) && decide (x.b = y.b)
def sameR (R R2 : RS) : Bool := (sameN R R.d R2 R2.d true && sameN R R.safe R2 R2.safe false) && eqL rmEq R.m R2.m

theorem nodup_at : ∀ {l : List RE}, (l.map (·.name)).Nodup → ∀ {x y : RE}, x ∈ l → y ∈ l → x.name = y.name → x = y
  | [], _, _, _, hx, _, _ => by cases hx
  | a :: l, h, x, y, hx, hy, e => by
    rw [List.map_cons, List.nodup_cons] at h
    rcases List.mem_cons.1 hx with hx | hx <;> rcases List.mem_cons.1 hy with hy | hy
    · rw [hx, hy]
    · exact absurd (by rw [← hx, e]; exact List.mem_map_of_mem hy) h.1
    · exact absurd (by rw [← hy, ← e]; exact List.mem_map_of_mem hx) h.1
    · exact nodup_at h.2 hx hy e
theorem sameE_iff {R R2 : RS} {e : List RE} (he : (e.map (·.name)).Nodup) {now : Bool} {x : RE} : sameE R R2 e now x = true ↔ ∃ y ∈ e, y.name = x.name ∧ sameF now (R.f.getD (x.n - 1) noFl) (R2.f.getD (y.n - 1) noFl) = true := by
  unfold sameE
  rcases atR_cases e x.name with ⟨h, hn⟩ | ⟨j, hj, h, hjn, _⟩
  · rw [h, if_pos (by omega)]
    refine ⟨fun h => (by cases h), fun ⟨y, hy, h1, _⟩ => ?_⟩
    obtain ⟨i, hi, rfl⟩ := List.getElem_of_mem hy
    exact absurd h1 (hn i hi)
  · rw [h, if_neg (by omega), Int.toNat_natCast, List.getD_eq_getElem?_getD (l := e), List.getElem?_eq_getElem hj, Option.getD_some]
    refine ⟨fun h => ⟨_, List.getElem_mem hj, hjn, h⟩, fun ⟨y, hy, h1, h2⟩ => ?_⟩
    have : y = e[j] := nodup_at he hy (List.getElem_mem hj) (h1.trans hjn.symm)
    rw [← this]
    exact h2
theorem sameN_flip {R R2 : RS} {d e : List RE} {now : Bool} (hd : (d.map (·.name)).Nodup) (he : (e.map (·.name)).Nodup) (h : sameN R d R2 e now = true) : sameN R2 e R d now = true := by
  unfold sameN at h ⊢
  rw [Bool.and_eq_true, beq_iff_eq, List.all_eq_true] at h ⊢
  obtain ⟨hl, ha⟩ := h
  refine ⟨hl.symm, fun y hy => (sameE_iff hd).2 ?_⟩
  have hin : y.name ∈ d.map (·.name) := Classical.byContradiction fun hc => by
    have := nodup_le (y.name :: d.map (·.name)) (e.map (·.name)) (List.nodup_cons.2 ⟨hc, hd⟩) fun z hz => by
      rcases List.mem_cons.1 hz with rfl | hz
      · exact List.mem_map_of_mem hy
      · obtain ⟨x, hx, rfl⟩ := List.mem_map.1 hz
        obtain ⟨y', hy', h1, _⟩ := (sameE_iff he).1 (ha x hx)
        rw [← h1]
        exact List.mem_map_of_mem hy'
    rw [List.length_cons, List.length_map, List.length_map] at this
    omega
  obtain ⟨x, hx, hxy⟩ := List.mem_map.1 hin
  have hxy : x.name = y.name := hxy
  refine ⟨x, hx, hxy, ?_⟩
  obtain ⟨y', hy', h1, h2⟩ := (sameE_iff he).1 (ha x hx)
  have : y' = y := nodup_at he hy' hy (h1.trans hxy)
  subst this
  obtain ⟨k1, k2, k3⟩ := sameF_iff.1 h2
  exact sameF_iff.2 ⟨k1.symm, k2.symm, fun hn => (k3 hn).symm⟩

theorem flEq_same {D k D2 k2 : Nat} {f f2 : Fl} {x y : RFl} (h : FS2 f x) (h2 : FS2 f2 y) (gx : GoodX D k x) (gy : GoodX D2 k2 y) (now : Bool) : flEq f f2 = sameF now x y := by
  refine Bool.eq_of_iff' ?_
  rw [sameF_iff]
  unfold flEq
  rw [Bool.and_eq_true, Bool.and_eq_true, beq_iff_eq, beq_iff_eq, eqL_iff wrEq_iff, h.bytes, h2.bytes, h.safe, h2.safe, h.waits, h2.waits]
  constructor
  · rintro ⟨⟨e1, e2⟩, e3⟩
    exact ⟨bl_inj e2, wrOf_map e3, fun _ => bl_inj e1⟩
  · rintro ⟨e1, e2, _⟩
    have : x.p = y.p := by rw [gx.p, gy.p, e1, e2]
    exact ⟨⟨by rw [this], by rw [e1]⟩, by rw [e2]⟩

section
variable {D k D2 k2 : Nat} {S S2 : St} {R R2 : RS}
theorem Sim.one (h : Sim D k S R) {n : Nat} (i1 : (S.files (n : Int)).isSome) : ∃ f, S.files (n : Int) = some f ∧ FS2 f (R.f.getD (n - 1) noFl) ∧ GoodX D k (R.f.getD (n - 1) noFl) := by
  obtain ⟨f, hf⟩ := Option.isSome_iff_exists.1 i1
  obtain ⟨a1, a2, a3⟩ := h.files _ f hf
  have e : ((n : Int) - 1).toNat = n - 1 := by omega
  have a2' : n - 1 < R.f.length := by rw [← e]; exact a2
  have e2 : R.f.getD (n - 1) noFl = R.f[n - 1] := by rw [List.getD_eq_getElem?_getD, List.getElem?_eq_getElem a2', Option.getD_some]
  refine ⟨f, hf, ?_, ?_⟩
  · rw [e2]
    have : R.f[((n : Int) - 1).toNat] = R.f[n - 1] := by simp only [e]
    rw [← this]
    exact a3
  · rw [e2]
    exact h.good _ (List.getElem_mem a2')
theorem nmEq_same (h : Sim D k S R) (h2 : Sim D2 k2 S2 R2) {l l2 : List (ByteArray × Nat)} {d e : List RE} (hl : Dir l d) (hl2 : Dir l2 e) (hd : ∀ x ∈ d, (S.files (x.n : Int)).isSome) (he : ∀ x ∈ e, (S2.files (x.n : Int)).isSome) (now : Bool) :
    nmEq S l S2 l2 = sameN R d R2 e now := by
  unfold nmEq sameN
  rw [hl.len, hl2.len, hl.perm.all_eq, List.all_map]
  congr 1
  refine Bool.eq_of_iff' ?_
  rw [List.all_eq_true, List.all_eq_true]
  have key : ∀ x ∈ d, nmOne S S2 l2 (prE x) = sameE R R2 e now x := by
    intro x hx
    unfold nmOne sameE
    rcases atR_cases e x.name with ⟨ha, hn⟩ | ⟨j, hj, ha, hjn, _⟩
    · rw [ha, if_pos (by omega), show aget l2 (prE x).1 = none from hl2.at_none fun y hy => by obtain ⟨i, hi, rfl⟩ := List.getElem_of_mem hy; exact hn i hi]
    · have hm : e[j] ∈ e := List.getElem_mem hj
      rw [ha, if_neg (by omega), Int.toNat_natCast, show aget l2 (prE x).1 = some e[j].n from by rw [show (prE x).1 = e[j].name from hjn.symm]; exact hl2.at_some hm]
      obtain ⟨f, hf, a1, a2⟩ := h.one (hd x hx)
      obtain ⟨f2, hf2, b1, b2⟩ := h2.one (he _ hm)
      show flO (S.files (x.n : Int)) (S2.files (e[j].n : Int)) = _
      rw [hf, hf2, List.getD_eq_getElem?_getD (l := e), List.getElem?_eq_getElem hj, Option.getD_some]
      exact flEq_same a1 b1 a2 b2 now
  exact ⟨fun hh x hx => (key x hx).symm.trans (hh x hx), fun hh x hx => (key x hx).trans (hh x hx)⟩
theorem nameOk_ne' {a : ByteArray} (h : nameOk a = true) : a ≠ ⟨#[]⟩ := fun e => by rw [e] at h; exact absurd h (by decide)
theorem ch_same {d d2 : List RE} {x y : RM} (hx : MoveOk d x) (hy : MoveOk d2 y) : chEq (chOf x) (chOf y) = rmEq x y := by
  refine Bool.eq_of_iff' ?_
  unfold chEq rmEq
  simp only [Bool.and_eq_true, decide_eq_true_eq, beq_iff_eq]
  obtain ⟨hx, bx⟩ := hx
  obtain ⟨hy, by_⟩ := hy
  have gx : nameOk x.a = true := by rcases hx with ⟨_, _, h, _⟩ | ⟨_, h, _⟩ | ⟨_, h, _, _⟩ <;> exact h
  have gy : nameOk y.a = true := by rcases hy with ⟨_, _, h, _⟩ | ⟨_, h, _⟩ | ⟨_, h, _, _⟩ <;> exact h
  have gx := nameOk_ne' gx
  have gy := nameOk_ne' gy
  rcases hx with ⟨kx, _⟩ | ⟨kx, _⟩ | ⟨kx, _, ox, _⟩ <;> rcases hy with ⟨ky, _⟩ | ⟨ky, _⟩ | ⟨ky, _, oy, _⟩ <;> simp only [chOf, kx, ky, if_true, if_false, Nat.reduceEqDiff]
  · have b1 := bx (by omega); have b2 := by_ (by omega); simp [b1, b2]
  · exact ⟨fun h => absurd h.1.symm gy, fun h => absurd h.1.1 (by simp)⟩
  · exact ⟨fun h => absurd h.1.symm gy, fun h => absurd h.1.1 (by simp)⟩
  · exact ⟨fun h => absurd h.1 gx, fun h => absurd h.1.1 (by simp)⟩
  · have b1 := bx (by omega); have b2 := by_ (by omega); simp [b1, b2]
  · exact ⟨fun h => absurd h.2.symm (nameOk_ne' oy), fun h => absurd h.1.1 (by simp)⟩
  · exact ⟨fun h => absurd h.1 gx, fun h => absurd h.1.1 (by simp)⟩
  · exact ⟨fun h => absurd h.2 (nameOk_ne' ox), fun h => absurd h.1.1 (by simp)⟩
  · simp
/-- What the program tells of both states. -/
def eqS (S S2 : St) : Bool := (nmEq S S.names S2 S2.names && nmEq S S.safe S2 S2.safe) && eqL chEq S.changes S2.changes
theorem eqS_same (h : Sim D k S R) (h2 : Sim D2 k2 S2 R2) : eqS S S2 = sameR R R2 := by
  unfold eqS sameR
  rw [nmEq_same h h2 h.names h2.names h.inD h2.inD true, nmEq_same h h2 h.safe h2.safe h.inS h2.inS false, h.chs, h2.chs]
  congr 1
  exact eqL_map fun x hx y hy => by
    obtain ⟨i, hi, rfl⟩ := List.getElem_of_mem hx
    obtain ⟨j, hj, rfl⟩ := List.getElem_of_mem hy
    exact ch_same (h.mv i hi) (h2.mv j hj)
theorem eqL_flip {α : Type} {q : α → α → Bool} (hq : ∀ x y, q x y = q y x) : ∀ xs ys : List α, eqL q xs ys = eqL q ys xs
  | [], [] => rfl
  | [], _ :: _ | _ :: _, [] => rfl
  | x :: xs, y :: ys => by unfold eqL; rw [hq, eqL_flip hq xs ys]
theorem dec_flip {α : Type} [DecidableEq α] (x y : α) : decide (x = y) = decide (y = x) := Bool.eq_of_iff' (by simp only [decide_eq_true_eq]; exact eq_comm)
theorem rmEq_flip (x y : RM) : rmEq x y = rmEq y x := by
  unfold rmEq
  rw [dec_flip x.a, dec_flip x.b]
  congr 2
  exact Bool.eq_of_iff' (by simp only [beq_iff_eq]; exact eq_comm)
theorem sameR_flip (h : Sim D k S R) (h2 : Sim D2 k2 S2 R2) : sameR R R2 = sameR R2 R := by
  unfold sameR
  rw [eqL_flip rmEq_flip]
  congr 1
  congr 1
  · exact Bool.eq_of_iff' ⟨sameN_flip h.names.ok.keys h2.names.ok.keys, sameN_flip h2.names.ok.keys h.names.ok.keys⟩
  · exact Bool.eq_of_iff' ⟨sameN_flip h.safe.ok.keys h2.safe.ok.keys, sameN_flip h2.safe.ok.keys h.safe.ok.keys⟩
theorem eqS_self (h : Sim D k S R) : eqS S S = true := by
  obtain ⟨h1, h2, h3⟩ := h.alike h rfl rfl rfl rfl
  unfold eqS
  rw [h1, h2, h3]
  rfl
end
end Go.Proofs.Ytccapgcpdehicaa

namespace Go.Proofs.Ytccapgcpdehicaa
open Go.RowKit

theorem equalIn_done (x y : RD) (w : World) : (Op.equalIn 10000 124 (.agg #[.bool x.cut, .int .i64 (x.at_ : Int), .string x.p]) (.agg #[.bool y.cut, .int .i64 (y.at_ : Int), .string y.p])).run Try.prog w = .ok (rdEq x y) w := by
  have u0 := Try.underlying4
  have u1 := Try.underlying3
  have u2 := Try.underlying9
  have hS : Try.prog.underlying 124 = some (.struct (Try.prog.fieldsOf 124)) := by kernel_rfl
  have hp : Try.prog.stoodInHeld 124 = false := by kernel_rfl
  rw [show (10000 : Nat) = 9999 + 1 from rfl]
  rw [run_equalIn_agg w 9999 124 _ _ hS hp]
  have e : rdEq x y = ((x.cut == y.cut) && (((x.at_ : Int) == (y.at_ : Int)) && (x.p.toList == y.p.toList))) := by
    unfold rdEq
    rw [← beq_toListBytes, show (x.p == y.p) = decide (x.p = y.p) from by rw [Bool.eq_iff_iff, decide_eq_true_eq]; exact MapKept.bytes_beq _ _, Bool.eq_iff_iff]
    simp only [Bool.and_eq_true, decide_eq_true_eq, beq_iff_eq]
    exact ⟨fun ⟨⟨h1, h2⟩, h3⟩ => ⟨h3, by omega, h1⟩, fun ⟨h1, h2, h3⟩ => ⟨⟨h3, by omega⟩, h1⟩⟩
  rw [e]
  simp only [Program.fieldsOf, Try.underlying124]
  go_simp
  by_cases h0 : x.cut = y.cut <;> by_cases h1 : (x.at_ : Int) = (y.at_ : Int) <;> by_cases h2 : x.p.toList = y.p.toList <;> simp [h0, h1, h2]
set_option maxHeartbeats 4000000 in
set_option maxRecDepth 100000 in
theorem rSameDone_any (va vb : Value) (ba bb : Nat) (a b : List RD) (w : World) (h : w.ownsRow ba 124 3 va a.length (encD a)) (k : w.ownsRow bb 124 3 vb b.length (encD b)) :
    Calls Try.prog 56 #[va, vb] w fun e w' => e = .returned (.bool (eqL rdEq a b)) ∧ ∃ q, w' = w.drewN q := by
  obtain ⟨A, c, rfl, hc, hm⟩ := own_form0 h
  obtain ⟨A2, c2, rfl, hc2, hm2⟩ := own_form0 k
  unfold maxLen at hm hm2
  have H := hide h
  have K := hide k
  clear h k
  by_cases hL : a.length = b.length
  · have hne : ((a.length : Int) != (b.length : Int)) = false := by rw [hL]; simp
    have HL := hide hL
    clear hL
    go_enter Try.func56, Try.ntmps56
    go_wp2_with fail
    go_loopw [5] (fun i wr => ∃ j : Nat, i = .int .i64 (j : Int) ∧ j ≤ a.length ∧ (∀ (i : Nat) (hi : i < a.length) (hi2 : i < b.length), i < j → rdEq a[i] b[i] = true) ∧ ∃ q, wr = w.drewN q) (fun i _ => a.length - (intOf i).toNat)
    case atStart => exact ⟨0, rfl, Nat.zero_le _, fun i _ _ h => by omega, 0, rfl⟩
    case round =>
      obtain ⟨j, rfl, hj, hall, q, rfl⟩ := hrel
      have HA := hide hall
      clear hall
      by_cases hlt : j < a.length
      · have hlt2 : j < b.length := by rw [← HL.out]; exact hlt
        obtain ⟨b1, rfl, p0, p1, p2⟩ := D_elem H.out hlt
        obtain ⟨b2, rfl, q0, q1, q2⟩ := D_elem K.out hlt2
        obtain ⟨x, hx⟩ : ∃ x, x = a[j] := ⟨_, rfl⟩
        obtain ⟨y, hy⟩ : ∃ y, y = b[j] := ⟨_, rfl⟩
        rw [← hx] at p0 p1 p2
        rw [← hy] at q0 q1 q2
        have HX := hide hx
        have HY := hide hy
        clear hx hy
        have HEQ := fun w => equalIn_done x y w
        cases hb : rdEq x y
        · have HB := hide (eqL_no (q := rdEq) j hlt hlt2 (by rw [← HX.out, ← HY.out]; exact hb))
          have HE := hide hb
          rw [hb] at HEQ
          clear hb
          go_upto_region 6 with fail
          go_quiet (fail)
          go_wp2_with fail
          go_ret
          exact ⟨by rw [HB.out]; rfl, q + nq, by first | rfl | rw [World.drewN_drewN]⟩
        · have HE := hide hb
          rw [hb] at HEQ
          clear hb
          go_upto_region 6 with fail
          go_quiet (fail)
          go_wp2_with fail
          go_roundw
          case rel =>
            refine ⟨j + 1, by go_num, by omega, fun i hi hi2 h => ?_, q + nq, rfl⟩
            by_cases hij : i = j
            · subst hij
              rw [← HX.out, ← HY.out]
              exact HE.out
            · exact HA.out i hi hi2 (by omega)
          case measure => simp [intOf]; omega
      · have HB := hide (eqL_all (q := rdEq) HL.out fun i h1 h2 => HA.out i h1 h2 (by omega))
        go_wp2_with fail
        go_ret
        exact ⟨by rw [HB.out]; rfl, _, rfl⟩
  · have hne : ((a.length : Int) != (b.length : Int)) = true := by simp; omega
    have HB := hide (eqL_len (q := rdEq) hL)
    clear hL
    go_enter Try.func56, Try.ntmps56
    go_wp2_with fail
    go_ret
    exact ⟨by rw [HB.out]; rfl, 0, rfl⟩
end Go.Proofs.Ytccapgcpdehicaa

namespace Go.Proofs.Ytccapgcpdehicaa
open Go.RowKit

theorem quiet_at {P : Program} {f : FuncId} {args : Array Value} {w : World} {a b x : Nat} {v : Value} (h : Calls P f args (w.drewN (a + b + x)) fun e w' => e = .returned v ∧ ∃ k, w' = (w.drewN (a + b + x)).drewN k) :
    Calls P f args (w.drewN (a + b + x)) fun e w'' => e = .returned v ∧ ∃ n, w'' = w.drewN (a + b + n) :=
  h.mono fun _ _ ⟨he, k, hk⟩ => ⟨he, x + k, by rw [hk, World.drewN_drewN, Nat.add_assoc (a + b)]⟩
theorem P_at {w : World} {q : Nat} {R : RS} {bs : List Nat} {vs : List Value} {vF vD vS vM : Value} (h : RAt w q R bs vs vF vD vS vM) {A : Option Addr} {n c : Nat} (hF : vF = .slice A n c) {i : Nat} (hi : i < R.f.length) :
    ∃ b bx v, A = some ⟨b, 0, none⟩ ∧ w.cell? ⟨b, i, none⟩ = some (.pointer (some ⟨bx, 0, none⟩)) ∧ RFAt w bx v R.f[i] := by
  subst hF
  have hb : i < bs.length := by rw [h.lb]; exact hi
  obtain ⟨b, h1, h2⟩ := P_elem h.rF hb
  refine ⟨b, bs[i], vs.getD i undef, h1, h2, ?_⟩
  have := h.fl i hi
  rw [List.getD_eq_getElem?_getD, List.getElem?_eq_getElem hb] at this
  exact this

set_option maxHeartbeats 8000000 in
set_option maxRecDepth 100000 in
theorem rSameNames_any (q1 q2 : Nat) (R R2 : RS) (bs bs2 : List Nat) (vs vs2 : List Value) (vF vD vS vM wF wD wS wM : Value) (d e : List RE) (vd ve : Value) (bd be : Nat) (now : Bool) (w : World) (h : RAt w q1 R bs vs vF vD vS vM) (h2 : RAt w q2 R2 bs2 vs2 wF wD wS wM)
    (hd : w.ownsRow bd 107 2 vd d.length (encE d)) (he : w.ownsRow be 107 2 ve e.length (encE e))
    (nd : ∀ x ∈ d, 1 ≤ x.n ∧ x.n ≤ R.f.length) (ne : ∀ x ∈ e, 1 ≤ x.n ∧ x.n ≤ R2.f.length) (hf : R.f.length ≤ 1000000) (hf2 : R2.f.length ≤ 1000000) :
    Calls Try.prog 26 #[.pointer (some ⟨q1, 0, none⟩), vd, .pointer (some ⟨q2, 0, none⟩), ve, .bool now] w fun x w' => x = .returned (.bool (sameN R d R2 e now)) ∧ ∃ q, w' = w.drewN q := by
  obtain ⟨Ad, cd, rfl, hcd, hmd⟩ := own_form0 hd
  obtain ⟨Ae, ce, rfl, hce, hme⟩ := own_form0 he
  obtain ⟨AF, cF, rfl, _, hmF⟩ := own_form0 h.rF
  obtain ⟨AG, cG, rfl, _, hmG⟩ := own_form0 h2.rF
  have hlb := h.lb
  have hlb2 := h2.lb
  rw [hlb] at h
  rw [hlb2] at h2
  unfold maxLen at hmd hme hmF hmG
  have f0 : w.cell? ⟨q1, 0, none⟩ = some (.slice AF R.f.length cF) := by rw [blk_cell h.box]; rfl
  have g0 : w.cell? ⟨q2, 0, none⟩ = some (.slice AG R2.f.length cG) := by rw [blk_cell h2.box]; rfl
  have H := hide h
  have H2 := hide h2
  have HD := hide hd
  have HE := hide he
  have ND := hide nd
  have NE := hide ne
  have HF := hide hf
  have HF2 := hide hf2
  have HLB := hide hlb
  have HLB2 := hide hlb2
  clear h h2 hd he nd ne hf hf2 hlb hlb2
  by_cases hL : d.length = e.length
  · have hne : ((d.length : Int) != (e.length : Int)) = false := by rw [hL]; simp
    have HQ := hide (show sameN R d R2 e now = d.all (sameE R R2 e now) by unfold sameN; rw [hL]; simp)
    clear hL
    go_enter Try.func26, Try.ntmps26
    go_wp2_with fail
    go_loopw [11] (fun i wr => ∃ j : Nat, i = .int .i64 (j : Int) ∧ j ≤ d.length ∧ (∀ (i : Nat) (hi : i < d.length), i < j → sameE R R2 e now d[i] = true) ∧ ∃ q, wr = w.drewN q) (fun i _ => d.length - (intOf i).toNat)
    case atStart => exact ⟨0, rfl, Nat.zero_le _, fun i _ h => by omega, 0, rfl⟩
    case round =>
      obtain ⟨j, rfl, hj, hall, q, rfl⟩ := hrel
      have HA := hide hall
      clear hall
      by_cases hlt : j < d.length
      · have hlt1 : (j : Int) < (d.length : Int) := by omega
        obtain ⟨b1, rfl, p0, p1⟩ := E_elem HD.out hlt
        have hnd := ND.out _ (List.getElem_mem hlt)
        have HNO := hide (fun hb : sameE R R2 e now d[j] = false => show d.all (sameE R R2 e now) = false from List.all_eq_false.2 ⟨_, List.getElem_mem hlt, by rw [hb]; simp⟩)
        have HYES := hide (fun (hb : sameE R R2 e now d[j] = true) (i : Nat) (hi : i < d.length) (hij : i < j + 1) => show sameE R R2 e now d[i] = true from by
          by_cases hx : i = j
          · subst hx; exact hb
          · exact HA.out i hi (by omega))
        obtain ⟨x, hx⟩ : ∃ x, x = d[j] := ⟨_, rfl⟩
        rw [← hx] at p0 p1 hnd HNO HYES
        clear hx
        have HAT := hide (rAt_place e (.slice Ae e.length ce) x.name be (w.drewN q) (own_blk HE.out fun _ _ => rfl))
        have hsE : sameE R R2 e now x = if atR e x.name < 0 then false else sameF now (R.f.getD (x.n - 1) noFl) (R2.f.getD ((e.getD (atR e x.name).toNat ⟨noS, 0⟩).n - 1) noFl) := rfl
        rcases atR_cases e x.name with ⟨ha, _⟩ | ⟨k, hk, ha, _, _⟩
        · rw [ha] at HAT hsE
          have HR := hide (HNO.out (by rw [hsE]; rfl))
          clear hsE ha hnd HNO HYES
          go_wp2_with (go_at_call 55; refine HAT.out.mono ?_; rintro z w1 ⟨rfl, rfl⟩)
          go_ret
          exact ⟨by rw [HQ.out, HR.out]; rfl, q, rfl⟩
        · rw [ha] at HAT hsE
          rw [if_neg (by omega), Int.toNat_natCast, List.getD_eq_getElem?_getD (l := e), List.getElem?_eq_getElem hk, Option.getD_some] at hsE
          obtain ⟨b2, rfl, q0, q1⟩ := E_elem HE.out hk
          have hne2 := NE.out _ (List.getElem_mem hk)
          obtain ⟨y, hy⟩ : ∃ y, y = e[k] := ⟨_, rfl⟩
          rw [← hy] at q0 q1 hne2 hsE
          clear hy
          obtain ⟨n1, hn1⟩ : ∃ n1, n1 = x.n - 1 := ⟨_, rfl⟩
          obtain ⟨n2, hn2⟩ : ∃ n2, n2 = y.n - 1 := ⟨_, rfl⟩
          have k1 : IntKind.i64.wrap ((x.n : Int) - 1) = (n1 : Int) := by rw [IntKind.wrap_i64]; have := HF.out; omega
          have k2 : IntKind.i64.wrap ((y.n : Int) - 1) = (n2 : Int) := by rw [IntKind.wrap_i64]; have := HF2.out; omega
          have l1 : n1 < R.f.length := by omega
          have l2 : n2 < R2.f.length := by omega
          rw [← hn1, ← hn2, List.getD_eq_getElem?_getD, List.getD_eq_getElem?_getD, List.getElem?_eq_getElem l1, List.getElem?_eq_getElem l2, Option.getD_some, Option.getD_some] at hsE
          obtain ⟨bF, bx, vx, rfl, r1, hfx⟩ := P_at H.out rfl l1
          obtain ⟨bG, by_, vy, rfl, r2, hfy⟩ := P_at H2.out rfl l2
          obtain ⟨X, hX⟩ : ∃ X, X = R.f[n1] := ⟨_, rfl⟩
          obtain ⟨Y, hY⟩ : ∃ Y, Y = R2.f[n2] := ⟨_, rfl⟩
          rw [← hX] at hsE hfx
          rw [← hY] at hsE hfy
          clear hX hY hn1 hn2
          have s1 : w.cell? ⟨bx, 1, none⟩ = some (.string X.safe) := by rw [blk_cell hfx.box]; rfl
          have s2 : w.cell? ⟨bx, 2, none⟩ = some vx := by rw [blk_cell hfx.box]; rfl
          have s3 : w.cell? ⟨bx, 3, none⟩ = some (.string X.p) := by rw [blk_cell hfx.box]; rfl
          have t1 : w.cell? ⟨by_, 1, none⟩ = some (.string Y.safe) := by rw [blk_cell hfy.box]; rfl
          have t2 : w.cell? ⟨by_, 2, none⟩ = some vy := by rw [blk_cell hfy.box]; rfl
          have t3 : w.cell? ⟨by_, 3, none⟩ = some (.string Y.p) := by rw [blk_cell hfy.box]; rfl
          have HSD : Hid (∀ wx, (∃ n, wx = w.drewN n) → Calls Try.prog 56 #[vx, vy] wx fun e w' => e = .returned (.bool (eqL rdEq X.l Y.l)) ∧ ∃ k, w' = wx.drewN k) := hide fun wx hwx => by
            obtain ⟨n, rfl⟩ := hwx
            exact rSameDone_any vx vy 0 0 X.l Y.l (w.drewN n) (own_blk hfx.row fun _ _ => rfl) (own_blk hfy.row fun _ _ => rfl)
          obtain ⟨Ax, cx, rfl, _, _⟩ := own_form0 hfx.row
          obtain ⟨Ay, cy, rfl, _, _⟩ := own_form0 hfy.row
          clear hfx hfy
          unfold sameF at hsE
          have hlk : (k : Int) < (e.length : Int) := by omega
          have hl1 : (n1 : Int) < (R.f.length : Int) := by omega
          have hl2 : (n2 : Int) < (R2.f.length : Int) := by omega
          have hk0 : ¬ (k : Int) < 0 := by omega
          have HJ := hide hj
          clear ha hnd hne2
          by_cases hs : X.safe = Y.safe
          · have hs1 : (X.safe.toList == Y.safe.toList) = true := by rw [hs]; exact beq_self_eq_true _
            have hs2 : (X.safe.toList != Y.safe.toList) = false := by simp [bne, hs1]
            rw [decide_eq_true hs, Bool.true_and] at hsE
            clear hs
            cases hb : eqL rdEq X.l Y.l
            · rw [hb] at HSD hsE
              have HR := hide (HNO.out (by rw [hsE]; rfl))
              clear hb hsE HNO HYES
              go_wp2_with (go_at_call 55; refine HAT.out.mono ?_; rintro z w1 ⟨rfl, rfl⟩)
              go_quiet (fail)
              go_wp2_with fail
              go_quiet ((go_at_call 56; exact quiet_at (HSD.out _ ⟨_, rfl⟩)))
              go_wp2_with fail
              go_ret
              exact ⟨by rw [HQ.out, HR.out]; rfl, _, by first | rfl | (rw [World.drewN_drewN]; done) | (rw [World.drewN_drewN, World.drewN_drewN])⟩
            · rw [hb, Bool.true_and] at hsE
              rw [hb] at HSD
              clear hb
              cases now
              · have HR := hide (HYES.out (by rw [hsE]; rfl))
                clear hsE HNO HYES
                go_wp2_with (go_at_call 55; refine HAT.out.mono ?_; rintro z w1 ⟨rfl, rfl⟩)
                go_quiet (fail)
                go_wp2_with fail
                go_quiet ((go_at_call 56; exact quiet_at (HSD.out _ ⟨_, rfl⟩)))
                go_wp2_with fail
                go_roundw
                case rel => exact ⟨j + 1, by go_num, by omega, HR.out, _, by first | rfl | (rw [World.drewN_drewN]; done) | (rw [World.drewN_drewN, World.drewN_drewN])⟩
                case measure => simp [intOf]; omega
              · by_cases hp : X.p = Y.p
                · have hp1 : (X.p.toList == Y.p.toList) = true := by rw [hp]; exact beq_self_eq_true _
                  have hp2 : (X.p.toList != Y.p.toList) = false := by simp [bne, hp1]
                  rw [decide_eq_true hp] at hsE
                  have HR := hide (HYES.out (by rw [hsE]; rfl))
                  clear hsE HNO HYES hp
                  go_wp2_with (go_at_call 55; refine HAT.out.mono ?_; rintro z w1 ⟨rfl, rfl⟩)
                  go_quiet (fail)
                  go_wp2_with fail
                  go_quiet ((go_at_call 56; exact quiet_at (HSD.out _ ⟨_, rfl⟩)))
                  go_wp2_with fail
                  go_roundw
                  case rel => exact ⟨j + 1, by go_num, by omega, HR.out, _, by first | rfl | (rw [World.drewN_drewN]; done) | (rw [World.drewN_drewN, World.drewN_drewN])⟩
                  case measure => simp [intOf]; omega
                · have hp1 := rstr_ne hp
                  have hp2 : (X.p.toList != Y.p.toList) = true := by simp [bne, hp1]
                  rw [decide_eq_false hp] at hsE
                  have HR := hide (HNO.out (by rw [hsE]; rfl))
                  clear hsE HNO HYES hp
                  go_wp2_with (go_at_call 55; refine HAT.out.mono ?_; rintro z w1 ⟨rfl, rfl⟩)
                  go_quiet (fail)
                  go_wp2_with fail
                  go_quiet ((go_at_call 56; exact quiet_at (HSD.out _ ⟨_, rfl⟩)))
                  go_wp2_with fail
                  go_ret
                  exact ⟨by rw [HQ.out, HR.out]; rfl, _, by first | rfl | (rw [World.drewN_drewN]; done) | (rw [World.drewN_drewN, World.drewN_drewN])⟩
          · have hs1 := rstr_ne hs
            have hs2 : (X.safe.toList != Y.safe.toList) = true := by simp [bne, hs1]
            rw [decide_eq_false hs] at hsE
            have HR := hide (HNO.out (by rw [hsE]; rfl))
            clear hs hsE HNO HYES HSD
            go_wp2_with (go_at_call 55; refine HAT.out.mono ?_; rintro z w1 ⟨rfl, rfl⟩)
            go_quiet (fail)
            go_wp2_with fail
            go_quiet (fail)
            go_wp2_with fail
            go_ret
            exact ⟨by rw [HQ.out, HR.out]; rfl, _, by first | rfl | (rw [World.drewN_drewN]; done) | (rw [World.drewN_drewN, World.drewN_drewN])⟩
      · have hlt1 : ¬ (j : Int) < (d.length : Int) := by omega
        have HB := hide (show d.all (sameE R R2 e now) = true from List.all_eq_true.2 fun x hx => by
          obtain ⟨i, hi, rfl⟩ := List.getElem_of_mem hx
          exact HA.out i hi (by omega))
        go_wp2_with fail
        go_ret
        exact ⟨by rw [HQ.out, HB.out]; rfl, _, rfl⟩
  · have hne : ((d.length : Int) != (e.length : Int)) = true := by simp; omega
    have HB := hide (show sameN R d R2 e now = false by unfold sameN; rw [beq_eq_false_iff_ne.2 hL]; rfl)
    clear hL
    go_enter Try.func26, Try.ntmps26
    go_wp2_with fail
    go_ret
    exact ⟨by rw [HB.out]; rfl, 0, rfl⟩
end Go.Proofs.Ytccapgcpdehicaa
