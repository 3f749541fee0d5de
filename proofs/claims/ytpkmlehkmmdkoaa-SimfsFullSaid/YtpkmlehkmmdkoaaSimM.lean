/-
  A file system that a call has made, step by step.
-/
import Derived.Test.YtpkmlehkmmdkoaaSimL
namespace Go.Proofs.Ytpkmlehkmmdkoaa
open Go.RowKit

/-- The file system S lies at g, in blocks that were made since w; nothing of w has turned. -/
def Lv (w : World) (g : Nat) (S : St) (wx : World) : Prop := ∃ L, FsAt wx L g S ∧ w.grownBy wx none ∧ ∀ i, i < w.heap.size → L i = 0

theorem Lv.moved {w : World} {g : Nat} {S' : St} {wx wy : World} {L L' : Nat → Nat} (hg : w.grownBy wx none) (h0 : ∀ i, i < w.heap.size → L i = 0) (h : FsAt wy L' g S') (hm : Moved L wx L' wy) : Lv w g S' wy := by
  have hs := hg.size
  refine ⟨L', h, ⟨hm.turned.os.trans hg.os, hm.turned.tape.trans hg.tape, hm.turned.output.trans hg.output, Nat.le_trans hs hm.turned.size, fun i hi hn => ?_⟩, fun i hi => (hm.same i (by omega)).trans (h0 i hi)⟩
  exact (hm.turned.block i (by omega) (by rw [h0 i hi]; omega)).trans (hg.block i hi hn)
theorem Lv.post {w : World} {g : Nat} {S' : St} {wx : World} {L : Nat → Nat} {f : FuncId} {args : Array Value} {v : Value} (hg : w.grownBy wx none) (h0 : ∀ i, i < w.heap.size → L i = 0) (h : Calls Try.prog f args wx (FsPost L g S' v wx)) :
    Calls Try.prog f args wx fun e w' => e = .returned v ∧ Lv w g S' w' :=
  h.mono fun _ _ ⟨he, _, h1, h2⟩ => ⟨he, Lv.moved hg h0 h1 h2⟩
theorem Lv.keep {w : World} {g : Nat} {S : St} {wx wy : World} (h : Lv w g S wx) (hg : wx.grownBy wy none) : Lv w g S wy := by
  obtain ⟨L, h1, h2, h3⟩ := h
  exact ⟨L, h1.keep (Turned.of_gb (M := fun _ => False) hg (by simp)) (fun _ _ h => h), gb_trans h2 hg (.inl rfl), h3⟩
theorem Lv.alloc {w : World} {g : Nat} {S : St} {wx : World} (h : Lv w g S wx) (o : Obj) : Lv w g S (wx.alloc o) := h.keep (gb_alloc (gb_refl wx none) o)
theorem Lv.drewN {w : World} {g : Nat} {S : St} {wx : World} (h : Lv w g S wx) (n : Nat) : Lv w g S (wx.drewN n) := h.keep (gb_drewN (gb_refl wx none) n)
theorem Lv.drew {w : World} {g : Nat} {S : St} {wx : World} (h : Lv w g S wx) : Lv w g S wx.drew := h.drewN 1
theorem Lv.grown {w : World} {g : Nat} {S : St} {wx : World} (h : Lv w g S wx) : w.grownBy wx none := by
  obtain ⟨_, _, h2, _⟩ := h
  exact h2

theorem Lv.new (c : Int) (w : World) (h0 : 0 ≤ c) (h1 : c ≤ 67108864) :
    Calls Try.prog 12 #[.int .i64 c] w fun e w' => ∃ g, e = .returned (.tuple #[.pointer (some ⟨g, 0, none⟩), .int .i64 0]) ∧ Lv w g (St.new c) w' :=
  (new_ok c w h0 h1).mono fun _ _ ⟨g, L, he, h2, h3, h4⟩ => ⟨g, he, L, h2, h3, fun i hi => Classical.byContradiction fun hc => by have := h4 i hc; omega⟩
theorem Lv.create {w : World} {g : Nat} {S : St} {wx : World} (h : Lv w g S wx) (s : ByteArray) (he : createErr S s = 0) (hF : Fine S) :
    Calls Try.prog 14 #[.pointer (some ⟨g, 0, none⟩), .string s] wx fun e w' => e = .returned (.tuple #[.int .i64 (S.last + 1), .int .i64 0]) ∧ Lv w g (S.created s) w' := by
  obtain ⟨L, h1, h2, h3⟩ := h
  exact Lv.post h2 h3 (create_ok L g S s wx h1 he hF)
theorem Lv.append {w : World} {g : Nat} {S : St} {wx : World} (h : Lv w g S wx) (hF : Fine S) {n : Int} {f : Fl} (hn : S.file n = some f ∧ S.dead = false) (p : List UInt8) (A : Option Addr) (m c : Nat) (hr : Rd wx wx.heap.size A (u8s p)) (hm : m = p.length) (hp : p.length ≤ 400000000) (hfit : m = 0 ∨ S.used + m ≤ S.cap) :
    Calls Try.prog 15 #[.pointer (some ⟨g, 0, none⟩), .int .i64 n, .slice A m c] wx fun e w' => e = .returned (.int .i64 0) ∧ Lv w g (S.wrote n f ⟨false, f.bytes.length, p⟩) w' := by
  obtain ⟨L, h1, h2, h3⟩ := h
  exact Lv.post h2 h3 (append_ok L g S n f A m c _ p wx h1 hF hn.2 hn.1 hr (Nat.le_refl _) hm hp hfit)
/-- A slice that is made for it. -/
theorem Rd.laid (w : World) (cs : Array Value) (t : TypeId) (fr : Nat × Nat) (xs : List Value) (h : xs = cs.toList) : Rd (w.alloc (.cells cs t fr)) (w.heap.size + 1) (some ⟨w.heap.size, 0, none⟩) xs := fun _ =>
  ⟨_, rfl, by simp, fun j u hu => by
    subst h
    have e : (⟨w.heap.size, 0, none⟩ : Addr).add j = ⟨w.heap.size, j, none⟩ := by unfold Addr.add; split <;> simp_all
    rw [e, cell_of_row _ w.heap.size j cs t fr (heap_alloc_new w _)]
    simpa using hu⟩
theorem Lv.append_new {w : World} {g : Nat} {S : St} {wx : World} (h : Lv w g S wx) (hF : Fine S) {n : Int} {f : Fl} (hn : S.file n = some f ∧ S.dead = false) (p : List UInt8) (cs : Array Value) (fr : Nat × Nat) (m c : Nat) (hcs : u8s p = cs.toList) (hm : m = p.length) (hp : p.length ≤ 400000000) (hfit : m = 0 ∨ S.used + m ≤ S.cap) :
    Calls Try.prog 15 #[.pointer (some ⟨g, 0, none⟩), .int .i64 n, .slice (some ⟨wx.heap.size, 0, none⟩) m c] (wx.alloc (.cells cs 5 fr)) fun e w' => e = .returned (.int .i64 0) ∧ Lv w g (S.wrote n f ⟨false, f.bytes.length, p⟩) w' :=
  (h.alloc _).append hF hn p _ m c ((Rd.laid wx cs 5 fr _ hcs).more (by simp)) hm hp hfit
theorem Lv.append_full {w : World} {g : Nat} {S : St} {wx : World} (h : Lv w g S wx) (hF : Fine S) {n : Int} {f : Fl} (hn : S.file n = some f ∧ S.dead = false) (A : Option Addr) (m c : Nat) (hm : m ≤ 400000000) (h0 : 0 < m) (hc : S.cap < S.used + m) :
    Calls Try.prog 15 #[.pointer (some ⟨g, 0, none⟩), .int .i64 n, .slice A m c] wx fun e w' => e = .returned (.int .i64 5) ∧ Lv w g S w' := by
  obtain ⟨L, h1, h2, h3⟩ := h
  exact (Go.Proofs.Ytpkmlehkmmdkoaa.append_full L g S n f A m c wx h1 hF hn.2 hn.1 hm h0 hc).mono fun _ _ ⟨he, j, hj⟩ => ⟨he, by subst hj; exact Lv.drewN ⟨L, h1, h2, h3⟩ j⟩
theorem Lv.append_dead {w : World} {g : Nat} {S : St} {wx : World} (h : Lv w g S wx) (hd : S.dead = true) (n : Int) (A : Option Addr) (m c : Nat) :
    Calls Try.prog 15 #[.pointer (some ⟨g, 0, none⟩), .int .i64 n, .slice A m c] wx fun e w' => e = .returned (.int .i64 21) ∧ Lv w g S w' := by
  obtain ⟨L, h1, h2, h3⟩ := h
  exact (Go.Proofs.Ytpkmlehkmmdkoaa.append_dead L g S n A m c wx h1 hd).mono fun _ _ ⟨he, hw⟩ => ⟨he, by subst hw; exact ⟨L, h1, h2, h3⟩⟩
theorem Lv.sync {w : World} {g : Nat} {S : St} {wx : World} (h : Lv w g S wx) (hF : Fine S) {n : Int} {f : Fl} (hn : S.file n = some f ∧ S.dead = false) :
    Calls Try.prog 16 #[.pointer (some ⟨g, 0, none⟩), .int .i64 n] wx fun e w' => e = .returned (.int .i64 0) ∧ Lv w g (S.synced n f) w' := by
  obtain ⟨L, h1, h2, h3⟩ := h
  exact Lv.post h2 h3 (sync_ok L g S n f wx h1 hF hn.2 hn.1)
theorem Lv.syncdir {w : World} {g : Nat} {S : St} {wx : World} (h : Lv w g S wx) (hF : Fine S) (hd : S.dead = false) (hN : ∀ x ∈ S.names, (S.files (x.2 : Int)).isSome) :
    Calls Try.prog 17 #[.pointer (some ⟨g, 0, none⟩)] wx fun e w' => e = .returned (.int .i64 0) ∧ Lv w g (S.settled S.names).count w' := by
  obtain ⟨L, h1, h2, h3⟩ := h
  exact Lv.post h2 h3 (syncdir_ok L g S wx h1 hF hd hN)
theorem Lv.waiting {w : World} {g : Nat} {S : St} {wx : World} (h : Lv w g S wx) {n : Int} {f : Fl} (hn : S.file n = some f) :
    Calls Try.prog 31 #[.pointer (some ⟨g, 0, none⟩), .int .i64 n] wx fun e w' => e = .returned (.int .i64 (f.waits.length : Int)) ∧ wx = w' := by
  obtain ⟨L, h1, h2, h3⟩ := h
  exact waiting_some L g S n f wx h1 hn
theorem Lv.read {w : World} {g : Nat} {S : St} {wx : World} (h : Lv w g S wx) (hF : Fine S) {n : Int} {f : Fl} (hn : S.file n = some f ∧ S.dead = false) (k : Nat) (x : Int) (hk : k ≤ f.bytes.length) (hx : 0 ≤ x) :
    Calls Try.prog 23 #[.pointer (some ⟨g, 0, none⟩), .int .i64 n, .int .i64 (k : Int), .int .i64 x] wx fun e w' => ∃ A c m, e = .returned (.tuple #[.slice A m c, .int .i64 0]) ∧
      m = min x.toNat (f.bytes.length - k) ∧ Lv w g S w' ∧ Rd w' w'.heap.size A (u8s ((f.bytes.drop k).take x.toNat)) ∧ m ≤ c ∧ c ≤ maxLen := by
  obtain ⟨L, h1, h2, h3⟩ := h
  refine (read_ok L g S n f k x wx h1 hF hn.2 hn.1 hk hx).mono ?_
  rintro e w' ⟨A, c, m, rfl, hm, hb, hg⟩
  obtain ⟨A', c', e, q1, q2, q3⟩ := hb.rd
  injection e with e1 e2 e3
  subst e1; subst e3
  exact ⟨A, c, m, rfl, hm, Lv.keep ⟨L, h1, h2, h3⟩ hg, q3, by omega, q2⟩
theorem arm_in (L : Nat → Nat) (g : Nat) (S : St) (n : Int) (wx : World) (h : FsAt wx L g S) (hn : 0 < n) :
    Calls Try.prog 18 #[.pointer (some ⟨g, 0, none⟩), .int .i64 n] wx (FsPost L g { S with armed := n } (.tuple #[]) wx) := by
  obtain ⟨mf, mn, ms, vch, lf, h1⟩ := h
  refine (arm_any g _ n wx h1.blk).mono ?_
  rintro e w' ⟨rfl, hv, hg⟩
  refine ⟨rfl, ?_⟩
  rw [arm_pos hn] at hv
  have hsz := hg.size
  have hne : ∀ i, i ≠ g → (some i : Option Nat) ≠ some g := fun i hi e => hi (by injection e)
  exact h1.rebuild (S' := { S with armed := n }) (fun _ => False) (L' := L) (mf' := mf) (mn' := mn) (ms' := ms) (vch' := vch) (lf' := lf)
      ((Turned.of_gb (M := fun i => i = g) hg (fun i e => by injection e with e; exact e.symm)).mono fun i _ hi => .inl (hi ▸ h1.lg)) (fun _ _ h => h.elim) hv (fun _ _ => rfl) (fun i hi => Nat.lt_of_lt_of_le (h1.lt i hi) hsz) h1.lmf h1.lmn h1.lms h1.ns h1.fn h1.fs
      (h1.files.grown hg (hne _ (map_ne h1.files h1.blk))) (h1.names.grown hg (hne _ (map_ne h1.names h1.blk))) (h1.safe.grown hg (hne _ (map_ne h1.safe h1.blk)))
      ⟨own_keep h1.chs.1 fun i hi hl => hg.block i hl (fun e => own_ne h1.chs.1 h1.blk (by decide) (by injection e with e; rw [hi, e])), h1.chs.2⟩ (fun n fb hn => .inl ⟨hn, rfl, fun _ _ h => h.elim⟩) (fun n hn => h1.no n hn)
theorem Lv.arm {w : World} {g : Nat} {S : St} {wx : World} (h : Lv w g S wx) (n : Int) (hn : 0 < n) :
    Calls Try.prog 18 #[.pointer (some ⟨g, 0, none⟩), .int .i64 n] wx fun e w' => e = .returned (.tuple #[]) ∧ Lv w g { S with armed := n } w' := by
  obtain ⟨L, h1, h2, h3⟩ := h
  exact Lv.post h2 h3 (arm_in L g S n wx h1 hn)
theorem Lv.dead {w : World} {g : Nat} {S : St} {wx : World} (h : Lv w g S wx) :
    Calls Try.prog 20 #[.pointer (some ⟨g, 0, none⟩)] wx fun e w' => e = .returned (.bool S.dead) ∧ wx = w' := by
  obtain ⟨L, ⟨mf, mn, ms, vch, lf, h1⟩, h2, h3⟩ := h
  exact dead_any g _ wx h1.blk
/-- The list of a wreck lies in blocks that the file system does not own. -/
theorem Lv.crash {w : World} {g : Nat} {S : St} {wx : World} (h : Lv w g S wx) (hF : Fine S) (dir : Int) (A : Option Addr) (c : Nat) (tl : List Tn) {wy : World} (hy : wx.grownBy wy none) (hr : Rd wy wy.heap.size A (tcells tl)) (hA : ∀ a, A = some a → a.block < w.heap.size ∨ wx.heap.size ≤ a.block) (htl : tl.length ≤ c ∧ c ≤ maxLen)
    (hN : ∀ x ∈ followed S.safe (S.changes.take (crashK S dir)), (S.files (x.2 : Int)).isSome) (hNl : (followed S.safe (S.changes.take (crashK S dir))).length ≤ 100000) (hG : ∀ n f, S.files n = some f → f.Good) :
    Calls Try.prog 21 #[.pointer (some ⟨g, 0, none⟩), .agg #[.int .i64 dir, .slice A tl.length c]] wy fun e w' => e = .returned (.tuple #[]) ∧ ∃ ks : List Int,
      ks.Nodup ∧ (∀ n, n ∈ ks ↔ ∃ x ∈ followed S.safe (S.changes.take (crashK S dir)), (x.2 : Int) = n) ∧ Lv w g { (S.fallen dir).torn (tl.foldl tornM []) ks with dead := false, armed := 0 } w' := by
  obtain ⟨L, h1, h2, h3⟩ := h
  have hlt : ∀ i, L i ≠ 0 → i < wx.heap.size := by
    obtain ⟨_, _, _, _, _, h⟩ := h1
    exact h.lt
  have h1y := h1.keep (Turned.of_gb (M := fun _ => False) hy (by simp)) (fun _ _ h => h)
  refine (crash_any L g S dir A c tl wy h1y hF (TnAt.of_rd hr fun a ha => ?_) htl hN hNl hG).mono ?_
  · rcases hA a ha with hb | hb
    · exact h3 _ hb
    · exact Classical.byContradiction fun hc => by have := hlt _ hc; omega
  · rintro e w' ⟨rfl, ks, L', k1, k2, k3, k4⟩
    exact ⟨rfl, ks, k1, k2, Lv.moved (gb_trans h2 hy (.inl rfl)) h3 k3 k4⟩

/-! ## blocks Z beside the file system stay -/
def Lz (B : World) (Z : Nat → Prop) (g : Nat) (S : St) (wx : World) : Prop := ∃ L, FsAt wx L g S ∧ Turned (fun i => ¬ Z i) B wx ∧ ∀ i, i < B.heap.size → Z i → L i = 0
theorem Lz.moved {B : World} {Z : Nat → Prop} {g : Nat} {S' : St} {wx wy : World} {L L' : Nat → Nat} (hg : Turned (fun i => ¬ Z i) B wx) (h0 : ∀ i, i < B.heap.size → Z i → L i = 0) (h : FsAt wy L' g S') (hm : Moved L wx L' wy) : Lz B Z g S' wy := by
  have hs := hg.size
  refine ⟨L', h, hg.trans hm.turned fun i hi hh hz => ?_, fun i hi hz => (hm.same i (by omega)).trans (h0 i hi hz)⟩
  rw [h0 i hi hz] at hh
  omega
theorem Lz.post {B : World} {Z : Nat → Prop} {g : Nat} {S' : St} {wx : World} {L : Nat → Nat} {f : FuncId} {args : Array Value} {v : Value} (hg : Turned (fun i => ¬ Z i) B wx) (h0 : ∀ i, i < B.heap.size → Z i → L i = 0) (h : Calls Try.prog f args wx (FsPost L g S' v wx)) :
    Calls Try.prog f args wx fun e w' => e = .returned v ∧ Lz B Z g S' w' :=
  h.mono fun _ _ ⟨he, _, h1, h2⟩ => ⟨he, Lz.moved hg h0 h1 h2⟩
theorem Lz.keep {B : World} {Z : Nat → Prop} {g : Nat} {S : St} {wx wy : World} (h : Lz B Z g S wx) (hg : wx.grownBy wy none) : Lz B Z g S wy := by
  obtain ⟨L, h1, h2, h3⟩ := h
  exact ⟨L, h1.keep (Turned.of_gb (M := fun _ => False) hg (by simp)) (fun _ _ h => h), h2.trans (Turned.of_gb (M := fun _ => False) hg (by simp)) (fun _ _ h => h.elim), h3⟩
theorem Lz.alloc {B : World} {Z : Nat → Prop} {g : Nat} {S : St} {wx : World} (h : Lz B Z g S wx) (o : Obj) : Lz B Z g S (wx.alloc o) := h.keep (gb_alloc (gb_refl wx none) o)
theorem Lz.turned {B : World} {Z : Nat → Prop} {g : Nat} {S : St} {wx : World} (h : Lz B Z g S wx) : Turned (fun i => ¬ Z i) B wx := by
  obtain ⟨_, _, h2, _⟩ := h
  exact h2
theorem Lz.append_new {B : World} {Z : Nat → Prop} {g : Nat} {S : St} {wx : World} (h : Lz B Z g S wx) (hF : Fine S) {n : Int} {f : Fl} (hn : S.file n = some f ∧ S.dead = false) (p : List UInt8) (cs : Array Value) (fr : Nat × Nat) (m c : Nat) (hcs : u8s p = cs.toList) (hm : m = p.length) (hp : p.length ≤ 400000000) (hfit : m = 0 ∨ S.used + m ≤ S.cap) :
    Calls Try.prog 15 #[.pointer (some ⟨g, 0, none⟩), .int .i64 n, .slice (some ⟨wx.heap.size, 0, none⟩) m c] (wx.alloc (.cells cs 5 fr)) fun e w' => e = .returned (.int .i64 0) ∧ Lz B Z g (S.wrote n f ⟨false, f.bytes.length, p⟩) w' := by
  obtain ⟨L, h1, h2, h3⟩ := h.alloc (.cells cs 5 fr)
  exact Lz.post h2 h3 (append_ok L g S n f _ m c _ p _ h1 hF hn.2 hn.1 ((Rd.laid wx cs 5 fr _ hcs).more (by simp)) (Nat.le_refl _) hm hp hfit)
theorem Lz.append_dead {B : World} {Z : Nat → Prop} {g : Nat} {S : St} {wx : World} (h : Lz B Z g S wx) (hd : S.dead = true) (n : Int) (A : Option Addr) (m c : Nat) :
    Calls Try.prog 15 #[.pointer (some ⟨g, 0, none⟩), .int .i64 n, .slice A m c] wx fun e w' => e = .returned (.int .i64 21) ∧ Lz B Z g S w' := by
  obtain ⟨L, h1, h2, h3⟩ := h
  exact (Go.Proofs.Ytpkmlehkmmdkoaa.append_dead L g S n A m c wx h1 hd).mono fun _ _ ⟨he, hw⟩ => ⟨he, by subst hw; exact ⟨L, h1, h2, h3⟩⟩
theorem Lz.dead {B : World} {Z : Nat → Prop} {g : Nat} {S : St} {wx : World} (h : Lz B Z g S wx) :
    Calls Try.prog 20 #[.pointer (some ⟨g, 0, none⟩)] wx fun e w' => e = .returned (.bool S.dead) ∧ wx = w' := by
  obtain ⟨L, ⟨mf, mn, ms, vch, lf, h1⟩, h2, h3⟩ := h
  exact dead_any g _ wx h1.blk
/-- Read, and Arm behind it: what was read stays. -/
theorem Lv.read_arm {w : World} {g : Nat} {S : St} {wx : World} (h : Lv w g S wx) (hF : Fine S) {n : Int} {f : Fl} (hn : S.file n = some f ∧ S.dead = false) (k : Nat) (x : Int) (hk : k ≤ f.bytes.length) (hx : 0 ≤ x) (a : Int) (ha : 0 < a) (hpos : 0 < ((f.bytes.drop k).take x.toNat).length) :
    Calls Try.prog 23 #[.pointer (some ⟨g, 0, none⟩), .int .i64 n, .int .i64 (k : Int), .int .i64 x] wx fun e w' => ∃ b c m, e = .returned (.tuple #[.slice (some ⟨b, 0, none⟩) m c, .int .i64 0]) ∧ m = min x.toNat (f.bytes.length - k) ∧ m ≤ c ∧ c ≤ maxLen ∧ b < w'.heap.size ∧ w.grownBy w' none ∧
      Rd w' w'.heap.size (some ⟨b, 0, none⟩) (u8s ((f.bytes.drop k).take x.toNat)) ∧
      Calls Try.prog 18 #[.pointer (some ⟨g, 0, none⟩), .int .i64 a] w' fun e w2 => e = .returned (.tuple #[]) ∧ Lz w' (fun i => i < w.heap.size ∨ i = b) g { S with armed := a } w2 := by
  obtain ⟨L, h1, h2, h3⟩ := h
  have hlt : ∀ i, L i ≠ 0 → i < wx.heap.size := by
    obtain ⟨_, _, _, _, _, h⟩ := h1
    exact h.lt
  refine (read_ok L g S n f k x wx h1 hF hn.2 hn.1 hk hx).mono ?_
  rintro e w' ⟨A, c, m, rfl, hm, hb, hg⟩
  obtain ⟨A', c', e, q1, q2, q3⟩ := hb.rd
  injection e with e1 e2 e3
  subst e1; subst e3
  obtain ⟨b, rfl⟩ := hb.head hpos
  have ho := hb.own hpos
  have h1' := h1.keep (Turned.of_gb (M := fun _ => False) hg (by simp)) (fun _ _ h => h)
  refine ⟨b, c, m, rfl, hm, by omega, q2, ho.2, gb_trans h2 hg (.inl rfl), q3, (arm_in L g S a w' h1' ha).mono ?_⟩
  rintro e w2 ⟨rfl, L2, k1, k2⟩
  refine ⟨rfl, Lz.moved (Turned.refl _ w') (fun i hi hz => ?_) k1 k2⟩
  rcases hz with hz | rfl
  · exact h3 i hz
  · exact Classical.byContradiction fun hc => by have := hlt _ hc; omega

end Go.Proofs.Ytpkmlehkmmdkoaa
