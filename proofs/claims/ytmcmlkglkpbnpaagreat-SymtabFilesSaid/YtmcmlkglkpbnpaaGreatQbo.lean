/-
  Both file systems called in one region, in whatever order.
-/
import Derived.Test.YtmcmlkglkpbnpaaGreatQbk
import Derived.Test.YtmcmlkglkpbnpaaGreatQbl
import Derived.Test.YtmcmlkglkpbnpaaGreatQbn
import Derived.Test.YtmcmlkglkpbnpaaGreatQba
import Derived.Test.YtmcmlkglkpbnpaaGreatQbm
import Derived.Test.YtmcmlkglkpbnpaaGreatQbr
namespace Go.Proofs.YtmcmlkglkpbnpaaGreat
open Go.RowKit
def Bo (w0 : World) (Z : Nat → Prop) (g : Nat) (S : St) (q : Nat) (R : RS) (wx : World) : Prop :=
 ∃ L O, FsAt wx L g S ∧ RsAt wx O q R ∧ Turned (fun i => ¬ Z i) w0 wx ∧ (∀ i, O i → L i = 0 ∧ i < wx.heap.size ∧ ¬ Z i) ∧ (∀ i, Z i → L i = 0 ∧ i < w0.heap.size)
section
variable {w0 wx wy : World} {Z Z' : Nat → Prop} {g q : Nat} {S S' : St} {R R' : RS}
theorem FsAt.lts {w : World} {L : Nat → Nat} {g : Nat} {S : St} (h : FsAt w L g S) {i : Nat} (hi : L i ≠ 0) : i < w.heap.size := by
 obtain ⟨mf, mn, ms, vch, lf, h⟩ := h
 exact h.lt i hi
theorem Bo.turned (h : Bo w0 Z g S q R wx) : Turned (fun i => ¬ Z i) w0 wx := by
 obtain ⟨L, O, _, _, h, _⟩ := h
 exact h
theorem Bo.size (h : Bo w0 Z g S q R wx) : w0.heap.size ≤ wx.heap.size := h.turned.size
theorem Bo.keep (h : Bo w0 Z g S q R wx) (hg : wx.grownBy wy none) : Bo w0 Z g S q R wy := by
 obtain ⟨L, O, h1, h2, h3, h4, h5⟩ := h
 exact ⟨L, O, h1.keep (Turned.of_gb (M := fun _ => False) hg (by simp)) (fun _ _ h => h), h2.gb hg, h3.trans (Turned.of_gb (M := fun _ => False) hg (by simp)) (fun _ _ h => h.elim), fun i hi => ⟨(h4 i hi).1, Nat.lt_of_lt_of_le (h4 i hi).2.1 hg.size, (h4 i hi).2.2⟩, h5⟩
theorem Bo.drewN (h : Bo w0 Z g S q R wx) (n : Nat) : Bo w0 Z g S q R (wx.drewN n) := h.keep (gb_drewN (gb_refl wx none) n)
theorem Bo.drew (h : Bo w0 Z g S q R wx) : Bo w0 Z g S q R wx.drew := h.drewN 1
theorem Bo.block (h : Bo w0 Z g S q R wx) {i : Nat} (hi : Z i) : wx.heap[i]? = w0.heap[i]? := by
 obtain ⟨L, O, _, _, h3, _, h5⟩ := h
 exact h3.block i (h5 i hi).2 (fun k => k hi)
theorem Bo.zlt (h : Bo w0 Z g S q R wx) {i : Nat} (hi : Z i) : i < w0.heap.size := by
 obtain ⟨L, O, _, _, _, _, h5⟩ := h
 exact (h5 i hi).2
theorem Bo.here (h : Bo w0 Z g S q R wx) : Bo wx Z g S q R wx := by
 obtain ⟨L, O, h1, h2, h3, h4, h5⟩ := h
 exact ⟨L, O, h1, h2, Turned.refl _ _, h4, fun i hi => ⟨(h5 i hi).1, Nat.lt_of_lt_of_le (h5 i hi).2 h3.size⟩⟩
theorem Bo.touch (h : Bo w0 Z g S q R wx) {M : Nat → Prop} (hT : Turned M wx wy) (hM : ∀ i, M i → Z i) : Bo wy Z g S q R wy := by
 have hs := h.size
 obtain ⟨L, O, h1, h2, h3, h4, h5⟩ := h
 exact ⟨L, O, h1.keep hT (fun i hi hm => hi (h5 i (hM i hm)).1), h2.keep hT (fun i hi hm => (h4 i hi).2.2 (hM i hm)), Turned.refl _ _, fun i hi => ⟨(h4 i hi).1, Nat.lt_of_lt_of_le (h4 i hi).2.1 hT.size, (h4 i hi).2.2⟩, fun i hi => ⟨(h5 i hi).1, Nat.lt_of_lt_of_le (h5 i hi).2 (Nat.le_trans hs hT.size)⟩⟩
theorem Bo.back {w1 : World} (h : Bo w1 Z' g S q R wx) (hT : Turned (fun i => ¬ Z i) w0 w1) (hZ : ∀ i, Z i → Z' i ∧ i < w0.heap.size) : Bo w0 Z g S q R wx := by
 obtain ⟨L, O, h1, h2, h3, h4, h5⟩ := h
 exact ⟨L, O, h1, h2, hT.trans h3 (fun i _ hi hz => hi (hZ i hz).1), fun i hi => ⟨(h4 i hi).1, (h4 i hi).2.1, fun hz => (h4 i hi).2.2 (hZ i hz).1⟩, fun i hi => ⟨(h5 i (hZ i hi).1).1, (hZ i hi).2⟩⟩
theorem Bo.prog {f : FuncId} {args : Array Value} {v : Value} (h : Bo w0 Z g S q R wx) (hc : ∀ L, FsAt wx L g S → Calls Tryz.prog f args wx (FsPost L g S' v wx)) :
  Calls Tryz.prog f args wx fun e w' => e = .returned v ∧ Bo w0 Z g S' q R w' := by
 obtain ⟨L, O, h1, h2, h3, h4, h5⟩ := h
 refine (hc L h1).mono ?_
 rintro e w' ⟨rfl, L', k1, k2⟩
 refine ⟨rfl, L', O, k1, h2.keep k2.turned (fun i hi hm => by have := (h4 i hi).1; omega), h3.trans k2.turned (fun i _ hm hz => by have := (h5 i hz).1; omega), fun i hi => ⟨(k2.same i (h4 i hi).2.1).trans (h4 i hi).1, Nat.lt_of_lt_of_le (h4 i hi).2.1 k2.turned.size, (h4 i hi).2.2⟩, fun i hi => ⟨(k2.same i (Nat.lt_of_lt_of_le (h5 i hi).2 h3.size)).trans (h5 i hi).1, (h5 i hi).2⟩⟩
theorem Bo.doc {f : FuncId} {args : Array Value} {v : Value} (h : Bo w0 Z g S q R wx) (hc : ∀ bs vs vF vD vS vM, RAt wx q R bs vs vF vD vS vM → (∀ i, ROwn q bs vs vF vD vS vM i → ¬ Z i) → Calls Tryz.prog f args wx fun e w' => e = .returned v ∧ RTo wx q bs vs vF vD vS vM R' w') :
  Calls Tryz.prog f args wx fun e w' => e = .returned v ∧ Bo w0 Z g S q R' w' := by
 obtain ⟨L, O, h1, ⟨bs, vs, vF, vD, vS, vM, k1, k2⟩, h3, h4, h5⟩ := h
 refine (hc bs vs vF vD vS vM k1 (fun i hi => (h4 i (k2 i hi).1).2.2)).mono ?_
 rintro e w' ⟨rfl, ht⟩
 obtain ⟨hr, hT⟩ := ht.rs k2
 refine ⟨rfl, L, Onew O wx w', h1.keep hT (fun i hi hm => hi (h4 i hm).1), hr, h3.trans hT (fun i _ hm hz => (h4 i hm).2.2 hz), fun i hi => ?_, h5⟩
 rcases hi with hi | hi
 ·exact ⟨(h4 i hi).1, Nat.lt_of_lt_of_le (h4 i hi).2.1 hT.size, (h4 i hi).2.2⟩
 ·exact ⟨Classical.byContradiction fun hc => by have := h1.lts hc; omega, hi.2, fun hz => by have := (h5 i hz).2; have := h3.size; omega⟩
theorem Bo.ask {f : FuncId} {args : Array Value} {P : Ending → Prop} (h : Bo w0 Z g S q R wx) (hc : ∀ L, FsAt wx L g S → Calls Tryz.prog f args wx fun e w' => P e ∧ wx.grownBy w' none) :
  Calls Tryz.prog f args wx fun e w' => P e ∧ wx.grownBy w' none := by
 obtain ⟨L, O, h1, _⟩ := h
 exact hc L h1
theorem Bo.fs (h : Bo w0 Z g S q R wx) : ∃ L, FsAt wx L g S := by
 obtain ⟨L, O, h1, _⟩ := h
 exact ⟨L, h1⟩
theorem Bo.rs (h : Bo w0 Z g S q R wx) : ∃ bs vs vF vD vS vM, RAt wx q R bs vs vF vD vS vM := by
 obtain ⟨L, O, _, ⟨bs, vs, vF, vD, vS, vM, k1, _⟩, _⟩ := h
 exact ⟨bs, vs, vF, vD, vS, vM, k1⟩
/-! ## What the program's file system answers -/
variable {D k : Nat}
theorem Bo.pCreate (h : Bo w0 Z g S q R wx) (hs : Sim D k S R') (hD : D ≤ 1600000) (hk : k ≤ 1000) (a : ByteArray) :
  Calls Tryz.prog 79 #[.pointer (some ⟨g, 0, none⟩), .string a] wx fun e w' => e = .returned (.tuple #[.int .i64 (createVal S a), .int .i64 (createErr S a)]) ∧ Bo w0 Z g (S.create a) q R w' := by
 refine h.prog fun L hL => ?_
 unfold createVal St.create
 by_cases he : createErr S a = 0
 ·rw [if_pos he, if_pos he, he]
  exact create_ok L g S a wx hL he (hs.fine hD hk)
 ·rw [if_neg he, if_neg he]
  refine (create_bad L g S a wx hL he (by rw [hs.names.len]; have := hs.dl; have := hs.fl; omega)).mono ?_
  rintro e w' ⟨rfl, hg⟩
  exact ⟨rfl, L, hL.keep (Turned.of_gb (M := fun _ => False) hg (by simp)) (fun _ _ h => h), ⟨Turned.of_gb hg (by simp), fun _ _ => rfl⟩⟩
theorem Bo.pOpen (h : Bo w0 Z g S q R wx) (a : ByteArray) :
  Calls Tryz.prog 42 #[.pointer (some ⟨g, 0, none⟩), .string a] wx fun e w' => e = .returned (.tuple #[.int .i64 (openVal S a), .int .i64 (askErr S [a] a)]) ∧ Bo w0 Z g S q R w' :=
 (h.ask (P := fun e => e = .returned (.tuple #[.int .i64 (openVal S a), .int .i64 (askErr S [a] a)])) fun L hL => open_any L g S a wx hL).mono fun _ _ k => ⟨k.1, h.keep k.2⟩
theorem Bo.pSyncDir (h : Bo w0 Z g S q R wx) (hs : Sim D k S R') (hD : D ≤ 1600000) (hk : k ≤ 1000) :
  Calls Tryz.prog 80 #[.pointer (some ⟨g, 0, none⟩)] wx fun e w' => e = .returned (.int .i64 S.syncDirE) ∧ Bo w0 Z g S.syncDir q R w' := by
 refine h.prog fun L hL => ?_
 unfold St.syncDirE St.syncDir
 cases hd : S.dead
 ·exact syncdir_ok L g S wx hL (hs.fine hD hk) hd hs.hN
 ·refine (syncdir_dead L g S wx hL hd).mono ?_
  rintro e w' ⟨rfl, rfl⟩
  exact FsPost.same0 hL _
theorem Bo.pSync (h : Bo w0 Z g S q R wx) (hs : Sim D k S R') (hD : D ≤ 1600000) (hk : k ≤ 1000) (n : Int) :
  Calls Tryz.prog 57 #[.pointer (some ⟨g, 0, none⟩), .int .i64 n] wx fun e w' => e = .returned (.int .i64 (S.syncE n)) ∧ Bo w0 Z g (S.sync n) q R w' := by
 refine h.prog fun L hL => ?_
 unfold St.syncE St.sync
 cases hd : S.dead
 ·cases hn : S.file n with
  | none =>
   refine (sync_bad L g S n 7 wx hL (.inr ⟨hd, hn, rfl⟩)).mono ?_
   rintro e w' ⟨rfl, rfl⟩
   exact FsPost.same0 hL _
  | some f => exact sync_ok L g S n f wx hL (hs.fine hD hk) hd hn
 ·refine (sync_bad L g S n 21 wx hL (.inl ⟨hd, rfl⟩)).mono ?_
  rintro e w' ⟨rfl, rfl⟩
  exact FsPost.same0 hL _
theorem Bo.pCut (h : Bo w0 Z g S q R wx) (hs : Sim D k S R') (hD : D ≤ 1600000) (hk : k ≤ 1000) (n z : Int) :
  Calls Tryz.prog 83 #[.pointer (some ⟨g, 0, none⟩), .int .i64 n, .int .i64 z] wx fun e w' => e = .returned (.int .i64 (S.cutE n z)) ∧ Bo w0 Z g (S.cut n z) q R w' :=
 h.prog fun L hL => cut_any L g S n z wx hL (hs.fine hD hk)
theorem Bo.pAppend (h : Bo w0 Z g S q R wx) (hs : Sim D k S R') (hD : D ≤ 1600000) (hk : k ≤ 1000) (n : Int) (A : Option Addr) (m c B : Nat) (p : List UInt8) (hr : Rd wx B A (u8s p)) (hB : B ≤ wx.heap.size) (hm : m = p.length) (hp : p.length ≤ 400000000) :
  Calls Tryz.prog 15 #[.pointer (some ⟨g, 0, none⟩), .int .i64 n, .slice A m c] wx fun e w' => e = .returned (.int .i64 (S.appendE n m)) ∧ Bo w0 Z g (S.append n p) q R w' :=
 h.prog fun L hL => append_any L g S n A m c B p wx hL (hs.fine hD hk) hr hB hm hp
theorem Bo.pArm (h : Bo w0 Z g S q R wx) (n : Int) :
  Calls Tryz.prog 10 #[.pointer (some ⟨g, 0, none⟩), .int .i64 n] wx fun e w' => e = .returned (.tuple #[]) ∧ Bo w0 Z g (S.arm n) q R w' :=
 h.prog fun L hL => armed_in L g S n wx hL
theorem Bo.pCap (h : Bo w0 Z g S q R wx) (n : Int) :
  Calls Tryz.prog 13 #[.pointer (some ⟨g, 0, none⟩), .int .i64 n] wx fun e w' => e = .returned (.int .i64 (St.setCapE n)) ∧ Bo w0 Z g (S.setCap n) q R w' := by
 refine h.prog fun L hL => ?_
 unfold St.setCapE St.setCap
 by_cases c : n < 0 ∨ 67108864 < n
 ·rw [if_pos c, if_pos c]
  refine (setCap_bad L g S n wx hL c).mono ?_
  rintro e w' ⟨rfl, rfl⟩
  exact FsPost.same0 hL _
 ·rw [if_neg c, if_neg c]
  refine (setCap_ok L g S n wx hL (by omega) (by omega)).mono ?_
  rintro e w' ⟨rfl, h1, h2, h3⟩
  exact ⟨rfl, L, h1, ⟨Turned.of_gb h3 (fun i e => by injection e with e; subst e; exact .inl h2), fun _ _ => rfl⟩⟩
theorem Bo.pCrash (h : Bo w0 Z g S q R wx) (hs : Sim D k S R') (hD : D ≤ 1600000) (hk : k ≤ 1000) (dir : Int) (A : Option Addr) (c : Nat) (tl : List Tn) (hwy : wx.grownBy wy none) (hr : Rd wy wy.heap.size A (tcells tl)) (hA : ∀ a, A = some a → tl ≠ [] → Z a.block ∨ wx.heap.size ≤ a.block) (htl : tl.length ≤ c ∧ c ≤ maxLen) :
  Calls Tryz.prog 8 #[.pointer (some ⟨g, 0, none⟩), .agg #[.int .i64 dir, .slice A tl.length c]] wy fun e w' => e = .returned (.tuple #[]) ∧ ∃ ks : List Int,
   ks.Nodup ∧ (∀ n, n ∈ ks ↔ ∃ x ∈ followed S.safe (S.changes.take (crashK S dir)), (x.2 : Int) = n) ∧ Bo w0 Z g (S.crashed dir tl ks) q R w' := by
 have hy := h.keep hwy
 have hlt : ∀ i, wx.heap.size ≤ i → ∀ L, FsAt wx L g S → L i = 0 := fun i hi L hL => Classical.byContradiction fun hc => by have := hL.lts hc; omega
 obtain ⟨L, O, h1, h2, h3, h4, h5⟩ := h
 have h1y := h1.keep (Turned.of_gb (M := fun _ => False) hwy (by simp)) (fun _ _ h => h)
 have h2y := h2.gb hwy
 obtain ⟨hd1, hd2⟩ := hs.dirs (crashN R' dir) (crashN_le dir)
 rw [hs.crashK]
 have hN : ∀ x ∈ followed S.safe (S.changes.take (crashN R' dir)), (S.files (x.2 : Int)).isSome := fun x hx => by
  obtain ⟨e, he, rfl⟩ := List.mem_map.1 (hd1.perm.mem_iff.1 hx)
  exact hd2 e he
 have hNl : (followed S.safe (S.changes.take (crashN R' dir))).length ≤ 100000 := by rw [hd1.len]; have := hs.lens _ (crashN_le (R := R') dir); have := hs.fl; omega
 have htn : TnAt wy L A tl := by
  by_cases ht0 : tl = []
  ·intro i hi
   exact absurd hi (by rw [ht0]; exact Nat.not_lt_zero i)
  ·refine TnAt.of_rd hr fun a ha => ?_
   rcases hA a ha ht0 with hz | hz
   ·exact (h5 _ hz).1
   ·exact hlt _ hz L h1
 have hcr := crash_any L g S dir A c tl wy h1y (hs.fine hD hk) htn htl (by rw [hs.crashK]; exact hN) (by rw [hs.crashK]; exact hNl) (hs.fGood hD hk)
 refine hcr.mono ?_
 rintro e w' ⟨rfl, ks, L', k0, k1, k2, k3⟩
 rw [hs.crashK] at k1
 have hsz := hwy.size
 refine ⟨rfl, ks, k0, k1, L', O, k2, h2y.keep k3.turned (fun i hi hm => by have := (h4 i hi).1; omega), (h3.trans (Turned.of_gb (M := fun _ => False) hwy (by simp)) (fun _ _ h => h.elim)).trans k3.turned (fun i _ hm hz => by have := (h5 i hz).1; omega), fun i hi => ⟨(k3.same i (Nat.lt_of_lt_of_le (h4 i hi).2.1 hsz)).trans (h4 i hi).1, Nat.lt_of_lt_of_le (Nat.lt_of_lt_of_le (h4 i hi).2.1 hsz) k3.turned.size, (h4 i hi).2.2⟩, fun i hi => ⟨(k3.same i (Nat.lt_of_lt_of_le (h5 i hi).2 (Nat.le_trans h3.size hsz))).trans (h5 i hi).1, (h5 i hi).2⟩⟩
/-! ## What the document's answers -/
theorem Bo.dCreate (h : Bo w0 Z g S q R wx) (hs : Sim D k S' R) (hD : D ≤ 1600000) (hk : k ≤ 1000) (a : ByteArray) :
  Calls Tryz.prog 46 #[.pointer (some ⟨q, 0, none⟩), .string a] wx fun e w' => e = .returned (.tuple #[.int .i64 (createR R a).1.1, .int .i64 (createR R a).1.2]) ∧ Bo w0 Z g S q (createR R a).2 w' :=
 h.doc fun bs vs vF vD vS vM hR _ => rCreate_any q R bs vs vF vD vS vM a wx hR (hs.rok hD hk) (by have := hs.fl; omega)
theorem Bo.dSyncDir (h : Bo w0 Z g S q R wx) (hs : Sim D k S' R) (hD : D ≤ 1600000) (hk : k ≤ 1000) :
  Calls Tryz.prog 47 #[.pointer (some ⟨q, 0, none⟩)] wx fun e w' => e = .returned (.int .i64 (syncDirR R).1) ∧ Bo w0 Z g S q (syncDirR R).2 w' :=
 h.doc fun bs vs vF vD vS vM hR _ => rSyncDir_any q R bs vs vF vD vS vM wx hR (hs.rok hD hk)
theorem Bo.dSync (h : Bo w0 Z g S q R wx) (hs : Sim D k S' R) (hD : D ≤ 1600000) (hk : k ≤ 1000) (n : Int) :
  Calls Tryz.prog 23 #[.pointer (some ⟨q, 0, none⟩), .int .i64 n] wx fun e w' => e = .returned (.int .i64 (syncR R n).1) ∧ Bo w0 Z g S q (syncR R n).2 w' :=
 h.doc fun bs vs vF vD vS vM hR _ => rSync_any q R bs vs vF vD vS vM n wx hR (hs.rok hD hk)
theorem Bo.dCut (h : Bo w0 Z g S q R wx) (hs : Sim D k S' R) (hD : D ≤ 1600000) (hk : k ≤ 1000) (n z : Int) :
  Calls Tryz.prog 52 #[.pointer (some ⟨q, 0, none⟩), .int .i64 n, .int .i64 z] wx fun e w' => e = .returned (.int .i64 (cutR R n z).1) ∧ Bo w0 Z g S q (cutR R n z).2 w' :=
 h.doc fun bs vs vF vD vS vM hR _ => rCut_any q R bs vs vF vD vS vM n z wx hR (hs.rok hD hk)
theorem Bo.dAppend (h : Bo w0 Z g S q R wx) (hs : Sim D k S' R) (hD : D ≤ 1600000) (hk : k ≤ 1000) (n : Int) (p : ByteArray) (hp : p.size ≤ 100000000) :
  Calls Tryz.prog 16 #[.pointer (some ⟨q, 0, none⟩), .int .i64 n, .string p] wx fun e w' => e = .returned (.int .i64 (appendR R n p).1) ∧ Bo w0 Z g S q (appendR R n p).2 w' :=
 h.doc fun bs vs vF vD vS vM hR _ => rAppend_any q R bs vs vF vD vS vM n p wx hR (hs.rok hD hk) hp
theorem Bo.dArm (h : Bo w0 Z g S q R wx) (n : Int) :
  Calls Tryz.prog 11 #[.pointer (some ⟨q, 0, none⟩), .int .i64 n] wx fun e w' => e = .returned (.tuple #[]) ∧ Bo w0 Z g S q (armR R n) w' :=
 h.doc fun bs vs vF vD vS vM hR _ => rArm_any q R bs vs vF vD vS vM n wx hR
theorem Bo.dCap (h : Bo w0 Z g S q R wx) (n : Int) :
  Calls Tryz.prog 14 #[.pointer (some ⟨q, 0, none⟩), .int .i64 n] wx fun e w' => e = .returned (.int .i64 (capR R n).1) ∧ Bo w0 Z g S q (capR R n).2 w' :=
 h.doc fun bs vs vF vD vS vM hR _ => rCap_any q R bs vs vF vD vS vM n wx hR
theorem Bo.dCrash (h : Bo w0 Z g S q R wx) (hs : Sim D k S' R) (hD : D ≤ 1600000) (hk : k ≤ 1000) (d : Int) (A : Option Addr) (c B : Nat) (l : List Tn) (hr : Rd wx B A (tcells l)) (hB : B ≤ wx.heap.size) (hl : l.length ≤ 900000) (hZ : ∀ i, i < B → Z i) :
  Calls Tryz.prog 9 #[.pointer (some ⟨q, 0, none⟩), .agg #[.int .i64 d, .slice A l.length c]] wx fun e w' => e = .returned (.tuple #[]) ∧ Bo w0 Z g S q (crashR R d l) w' :=
 h.doc fun bs vs vF vD vS vM hR hn => rCrash_any q R bs vs vF vD vS vM d A c B l wx hR (hs.rok hD hk) hs.kinds (by have := hs.lens 0 (Nat.zero_le _); have := hs.fl; have := hs.ml; have e : (crashD R 0).length = R.safe.length := rfl; omega) hr hB (Nat.le_trans hl (by decide)) (fun x hx => (hs.good x hx).goodR hD hk) (fun i hi => Classical.byContradiction fun hc => hn i hi (hZ i (by omega)))
end
end Go.Proofs.YtmcmlkglkpbnpaaGreat
namespace Go.Proofs.YtmcmlkglkpbnpaaGreat
open Go.RowKit
section
variable {w0 wx wy : World} {Z Z' : Nat → Prop} {g q : Nat} {S S' : St} {R R' : RS} {D k : Nat}
theorem Sim.texts (hs : Sim D k S R) {a b : List ByteArray} (ha : a.Perm (S.names.map (·.1))) (ha' : a.Pairwise leS) (hb : b.Perm (R.d.map (·.name))) (hb' : b.Pairwise leS) : a = b := by
 have hp : a.Perm b := ha.trans (((hs.names.perm.map (·.1)).trans (by rw [List.map_map]; exact List.Perm.refl _)).trans hb.symm)
 exact List.Perm.eq_of_pairwise (le := leS) (fun x y _ _ h1 h2 => bl_inj (List.le_antisymm h1 h2)) ha' hb' hp
def sizeV (R : RS) (n : Int) : Int := if thereR R n = 0 then ((fileR R n).p.size : Int) else 0
theorem Bo.pSize (h : Bo w0 Z g S q R wx) (hs : Sim D k S R) (n : Int) : Calls Tryz.prog 81 #[.pointer (some ⟨g, 0, none⟩), .int .i64 n] wx fun e w' => e = .returned (.tuple #[.int .i64 (sizeV R n), .int .i64 (thereR R n)]) ∧ wx.grownBy w' none := by
 obtain ⟨L, hL⟩ := h.fs
 unfold sizeV
 cases ho : R.off
 ·cases hn : R.d.any (fun e => (e.n : Int) == n) with
  | false =>
   rw [thereR_no ho hn]
   exact (size_none L g S n wx hL (hs.dead.trans ho) (hs.nofile hn)).mono fun e w' k => ⟨k.1, k.2 ▸ gb_refl wx none⟩
  | true =>
   obtain ⟨f, q1, q2, _⟩ := hs.file hn
   rw [thereR_yes ho hn, if_pos rfl, ← bl_len, ← q2.bytes]
   exact (size_some L g S n f wx hL (hs.dead.trans ho) q1).mono fun e w' k => ⟨k.1, k.2 ▸ gb_refl wx none⟩
 ·rw [thereR_off ho]
  exact (size_dead L g S n wx hL (hs.dead.trans ho)).mono fun e w' k => ⟨k.1, k.2 ▸ gb_refl wx none⟩
theorem Bo.dSize (h : Bo w0 Z g S q R wx) (hs : Sim D k S' R) (hk : k ≤ 1000) (n : Int) : Calls Tryz.prog 49 #[.pointer (some ⟨q, 0, none⟩), .int .i64 n] wx fun e w' => e = .returned (.tuple #[.int .i64 (sizeV R n), .int .i64 (thereR R n)]) ∧ wx.grownBy w' none := by
 obtain ⟨bs, vs, vF, vD, vS, vM, hR⟩ := h.rs
 exact (rSize_any q R bs vs vF vD vS vM n wx hR (hs.numOk hk)).mono fun e w' k => ⟨k.1, k.2 ▸ gb_refl wx none⟩
theorem Bo.pRead (h : Bo w0 Z g S q R wx) (hs : Sim D k S R) (hD : D ≤ 1600000) (hk : k ≤ 1000) (n pos most : Int) :
  Calls Tryz.prog 82 #[.pointer (some ⟨g, 0, none⟩), .int .i64 n, .int .i64 pos, .int .i64 most] wx fun e w' => ∃ A c, e = .returned (.tuple #[.slice A (readR R n pos most).1.size c, .int .i64 (readR R n pos most).2]) ∧
   BsAt w' (fun i => wx.heap.size ≤ i ∧ i < w'.heap.size) (.slice A (readR R n pos most).1.size c) (bl (readR R n pos most).1) ∧ wx.grownBy w' none := by
 obtain ⟨L, hL⟩ := h.fs
 unfold readR
 cases ho : R.off
 ·cases hn : R.d.any (fun e => (e.n : Int) == n) with
  | false =>
   rw [thereR_no ho hn, if_pos (by simp)]
   refine (read_none L g S n pos most wx hL (hs.dead.trans ho) (hs.nofile hn)).mono ?_
   rintro e w' ⟨rfl, rfl⟩
   exact ⟨none, 0, rfl, .inl ⟨rfl, _, rfl⟩, gb_refl _ none⟩
  | true =>
   obtain ⟨f, q1, q2, q3, _⟩ := hs.file hn
   have e1 : f.bytes.length = (fileR R n).p.size := by rw [q2.bytes, bl_len]
   rw [thereR_yes ho hn, if_neg (by simp)]
   by_cases c : pos < 0 ∨ ((fileR R n).p.size : Int) < pos ∨ most < 0
   ·rw [if_pos c]
    refine (read_arg L g S n pos most f wx hL (hs.dead.trans ho) q1 (by rw [e1]; exact c)).mono ?_
    rintro e w' ⟨rfl, rfl⟩
    exact ⟨none, 0, rfl, .inl ⟨rfl, _, rfl⟩, gb_refl _ none⟩
   ·rw [if_neg c]
    have hp : ((pos.toNat : Nat) : Int) = pos := by omega
    have hr := read_ok L g S n f pos.toNat most wx hL (hs.fine hD hk) (hs.dead.trans ho) q1 (by omega) (by omega)
    rw [hp] at hr
    refine hr.mono ?_
    rintro e w' ⟨A, c, m, rfl, hm, hb, hg⟩
    have hx : (f.bytes.drop pos.toNat).take most.toNat = bl ((fileR R n).p.extract pos.toNat (pos.toNat + min most.toNat ((fileR R n).p.size - pos.toNat))) := by
     rw [bl_ext, ← q2.bytes, Nat.add_sub_cancel_left, ← e1]
     by_cases hc : most.toNat ≤ f.bytes.length - pos.toNat
     ·rw [Nat.min_eq_left hc]
     ·rw [Nat.min_eq_right (by omega), List.take_of_length_le (by rw [List.length_drop]; omega), List.take_of_length_le (by rw [List.length_drop]; exact Nat.le_refl _)]
    have hsz : m = ((fileR R n).p.extract pos.toNat (pos.toNat + min most.toNat ((fileR R n).p.size - pos.toNat))).size := by
     rw [← bl_len, ← hx, hm, List.length_take, List.length_drop]
    rw [hx] at hb
    rw [hsz] at hb
    exact ⟨A, c, by rw [hsz], hb, hg⟩
 ·rw [thereR_off ho, if_pos (by simp)]
  refine (read_dead L g S n pos most wx hL (hs.dead.trans ho)).mono ?_
  rintro e w' ⟨rfl, rfl⟩
  exact ⟨none, 0, rfl, .inl ⟨rfl, _, rfl⟩, gb_refl _ none⟩
theorem Bo.dRead (h : Bo w0 Z g S q R wx) (hs : Sim D k S' R) (hD : D ≤ 1600000) (hk : k ≤ 1000) (n pos most : Int) :
  Calls Tryz.prog 50 #[.pointer (some ⟨q, 0, none⟩), .int .i64 n, .int .i64 pos, .int .i64 most] wx fun e w' => e = .returned (.tuple #[.string (readR R n pos most).1, .int .i64 (readR R n pos most).2]) ∧ wx.grownBy w' none := by
 obtain ⟨bs, vs, vF, vD, vS, vM, hR⟩ := h.rs
 exact rRead_any q R bs vs vF vD vS vM n pos most wx hR (hs.rok hD hk)
end
end Go.Proofs.YtmcmlkglkpbnpaaGreat
namespace Go.Proofs.YtmcmlkglkpbnpaaGreat
open Go.RowKit
def JBo (w5 : World) (Z2 : Nat → Prop) (g q : Nat) (S S' : St) (R R' : RS) (b : Bs) (w : World) : Prop := Bo w5 Z2 g (if b 0 then S' else S) q (if b 1 then R' else R) w
def Tz (Z2 : Nat → Prop) (w w' : World) : Prop := Turned (fun i => ¬ Z2 i) w w'
theorem Tz.of_drew {Z2 : Nat → Prop} {w w' : World} (h : Tz Z2 w.drew w') : Turned (fun i => ¬ Z2 i) w w' := ⟨h.os, h.tape, h.output, h.size, h.block⟩
section
variable {w5 wq : World} {Z2 : Nat → Prop} {g q : Nat} {S S' : St} {R R' : RS}
theorem JBo.two (w5 : World) (Z2 : Nat → Prop) (g q : Nat) (S S' : St) (R R' : RS) : TwoL (Tz Z2) (JBo w5 Z2 g q S S' R R') :=
 ⟨fun _ _ h => Turned.of_gb h (by simp), fun _ _ _ h k => Turned.trans h k (fun _ _ h => h), fun _ _ _ h hg => Bo.keep h hg⟩
theorem Bo.step {f : FuncId} {args : Array Value} {v : Value} (h : Bo w5 Z2 g S q R wq) (hc : ∀ B0, Bo B0 Z2 g S q R wq → Calls Tryz.prog f args wq fun e w' => e = .returned v ∧ Bo B0 Z2 g S' q R' w') :
  Calls Tryz.prog f args wq fun e w' => e = .returned v ∧ Tz Z2 wq w' ∧ Bo w5 Z2 g S' q R' w' :=
 (hc wq h.here).mono fun _ _ k => ⟨k.1, k.2.turned, k.2.back h.turned fun _ hi => ⟨hi, h.zlt hi⟩⟩
theorem JBo.p {f : FuncId} {args : Array Value} {v : Value} (b : Bs) (wq : World) (hc : ∀ B0 R2, Bo B0 Z2 g S q R2 wq → Calls Tryz.prog f args wq fun e w' => e = .returned v ∧ Bo B0 Z2 g S' q R2 w') (hb : b 0 = false) (hj : JBo w5 Z2 g q S S' R R' b wq) :
  Calls Tryz.prog f args wq fun e w' => e = .returned v ∧ Tz Z2 wq w' ∧ JBo w5 Z2 g q S S' R R' (bset b (some 0)) w' := by
 have hj : Bo w5 Z2 g S q (if b 1 then R' else R) wq := by
  have h0 : (if b 0 then S' else S) = S := by rw [hb]; rfl
  unfold JBo at hj
  rwa [h0] at hj
 exact (hj.step fun B0 hx => hc B0 _ hx).mono fun _ _ k => ⟨k.1, k.2.1, k.2.2⟩
theorem JBo.d {f : FuncId} {args : Array Value} {v : Value} (b : Bs) (wq : World) (hc : ∀ B0 S2, Bo B0 Z2 g S2 q R wq → Calls Tryz.prog f args wq fun e w' => e = .returned v ∧ Bo B0 Z2 g S2 q R' w') (hb : b 1 = false) (hj : JBo w5 Z2 g q S S' R R' b wq) :
  Calls Tryz.prog f args wq fun e w' => e = .returned v ∧ Tz Z2 wq w' ∧ JBo w5 Z2 g q S S' R R' (bset b (some 1)) w' := by
 have hj : Bo w5 Z2 g (if b 0 then S' else S) q R wq := by
  have h0 : (if b 1 then R' else R) = R := by rw [hb]; rfl
  unfold JBo at hj
  rwa [h0] at hj
 exact (hj.step fun B0 hx => hc B0 _ hx).mono fun _ _ k => ⟨k.1, k.2.1, k.2.2⟩
theorem JBo.all {wz : World} (h : JBo w5 Z2 g q S S' R R' (bset (bset (fun _ => false) (some 0)) (some 1)) wz) : Bo w5 Z2 g S' q R' wz := h
end
end Go.Proofs.YtmcmlkglkpbnpaaGreat
