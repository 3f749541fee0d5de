/-
  slices.EqualFunc at what waits and at changes.
-/
import Derived.Test.YtmcmlkglkpbnpaaGreatQaz
import Derived.Test.YtmcmlkglkpbnpaaGreatQac
namespace Go.Proofs.YtmcmlkglkpbnpaaGreat
open Go.RowKit
def Live.nm : ByteArray := ⟨#[97]⟩
def Live.S1 : St := (St.new 10).created Live.nm
def Live.f0 : Fl := ⟨false, [], [], []⟩
def Live.S2 : St := Live.S1.wrote 1 Live.f0 ⟨false, 0, [97, 98, 99]⟩
def Live.f1 : Fl := ⟨false, [97, 98, 99], [], [⟨false, 0, [97, 98, 99]⟩]⟩
def Live.S3 : St := Live.S2.synced 1 Live.f1
def Live.f2 : Fl := ⟨false, [97, 98, 99], [97, 98, 99], []⟩
def Live.S4 : St := (Live.S3.settled Live.S3.names).count
def Live.S5 : St := Live.S4.wrote 1 Live.f2 ⟨false, 3, [100, 101]⟩
def Live.f3 : Fl := ⟨false, [97, 98, 99, 100, 101], [97, 98, 99], [⟨false, 3, [100, 101]⟩]⟩
def Live.S6 : St := Live.S5.wrote 1 Live.f3 ⟨false, 5, [102]⟩
def Live.f4 : Fl := ⟨false, [97, 98, 99, 100, 101, 102], [97, 98, 99], [⟨false, 3, [100, 101]⟩, ⟨false, 5, [102]⟩]⟩
theorem Live.err : createErr (St.new 10) Live.nm = 0 := by decide
theorem Live.h1 : Live.S1.file 1 = some Live.f0 ∧ Live.S1.dead = false := ⟨rfl, rfl⟩
theorem Live.h2 : Live.S2.file 1 = some Live.f1 ∧ Live.S2.dead = false := ⟨rfl, rfl⟩
theorem Live.h3 : Live.S3.file 1 = some Live.f2 ∧ Live.S3.dead = false := ⟨rfl, rfl⟩
theorem Live.h4 : Live.S4.file 1 = some Live.f2 ∧ Live.S4.dead = false := ⟨rfl, rfl⟩
theorem Live.h5 : Live.S5.file 1 = some Live.f3 ∧ Live.S5.dead = false := ⟨rfl, rfl⟩
theorem Live.h6 : Live.S6.file 1 = some Live.f4 ∧ Live.S6.dead = false := ⟨rfl, rfl⟩
theorem Live.only1 (S : St) (f : Fl) (he : S.files = fun m => if m = 1 then some f else none) (hu : 0 ≤ S.used ∧ S.used ≤ 100) (ho : 0 ≤ S.ops ∧ S.ops ≤ 100) (ha : S.armed ≤ 100) (hl : 0 ≤ S.last ∧ S.last ≤ 100) (hc : S.changes.length ≤ 100) (hf : f.bytes.length ≤ 100 ∧ f.safe.length ≤ 100 ∧ f.waits.length ≤ 100) : Fine S := by
 refine ⟨by omega, by omega, by omega, by omega, by omega, fun n f' h => ?_⟩
 rw [he] at h
 simp only at h
 split at h
 ·injection h with h
  subst h
  omega
 ·cases h
theorem Live.fine0 : Fine (St.new 10) := ⟨by decide, by decide, by decide, by decide, by decide, fun n f h => by cases h⟩
theorem Live.files1 : Live.S1.files = fun m => if m = 1 then some Live.f0 else none := rfl
theorem Live.files2 : Live.S2.files = fun m => if m = 1 then some Live.f1 else none := by
 funext m
 show (if m = 1 then some _ else if m = 1 then _ else none) = _
 split <;> rfl
theorem Live.files3 : Live.S3.files = fun m => if m = 1 then some Live.f2 else none := by
 funext m
 show (if m = 1 then some _ else Live.S2.files m) = _
 rw [Live.files2]
 simp only
 split <;> rfl
theorem Live.files4 : Live.S4.files = fun m => if m = 1 then some Live.f2 else none := by
 funext m
 show (if ∃ x ∈ Live.S3.names, (x.2 : Int) = m then Live.S3.files m else none) = _
 rw [Live.files3, show Live.S3.names = [(Live.nm, 1)] from rfl]
 by_cases h : m = 1
 ·subst h; rfl
 ·rw [if_neg h]
  simp [h]
theorem Live.files5 : Live.S5.files = fun m => if m = 1 then some Live.f3 else none := by
 funext m
 show (if m = 1 then some _ else Live.S4.files m) = _
 rw [Live.files4]
 simp only
 split <;> rfl
theorem Live.files6 : Live.S6.files = fun m => if m = 1 then some Live.f4 else none := by
 funext m
 show (if m = 1 then some _ else Live.S5.files m) = _
 rw [Live.files5]
 simp only
 split <;> rfl
theorem Live.fine1 : Fine Live.S1 := Live.only1 _ _ Live.files1 (by decide) (by decide) (by decide) (by decide) (by decide) (by decide)
theorem Live.fine2 : Fine Live.S2 := Live.only1 _ _ Live.files2 (by decide) (by decide) (by decide) (by decide) (by decide) (by decide)
theorem Live.fine3 : Fine Live.S3 := Live.only1 _ _ Live.files3 (by decide) (by decide) (by decide) (by decide) (by decide) (by decide)
/-! ## behind the crash -/
def Live.l6 : List (ByteArray × Nat) := followed Live.S6.safe (Live.S6.changes.take (crashK Live.S6 0))
theorem Live.l6_is : Live.l6 = [(Live.nm, 1)] := by decide
theorem Live.ks {ks : List Int} (h1 : ks.Nodup) (h2 : ∀ n, n ∈ ks ↔ ∃ x ∈ followed Live.S6.safe (Live.S6.changes.take (crashK Live.S6 0)), (x.2 : Int) = n) : ks = [1] := by
 have h3 : ∀ n, n ∈ ks ↔ n = 1 := fun n => by
  rw [h2]
  show (∃ x ∈ Live.l6, (x.2 : Int) = n) ↔ _
  rw [Live.l6_is]
  simp
  omega
 match ks, h1, h3 with
 | [], _, h => exact absurd ((h 1).2 rfl) (by simp)
 | [a], _, h => rw [(h a).1 (by simp)]
 | a :: b :: t, hn, h =>
  have ha := (h a).1 (by simp)
  have hb := (h b).1 (by simp)
  rw [ha, hb] at hn
  simp at hn
def Live.f5 : Fl := ⟨false, [97, 98, 99, 100], [97, 98, 99, 100], []⟩
def Live.S7 : St := { (Live.S6.fallen 0).torn ([((1 : Int), (0 : Int), (1 : Int))].foldl tornM []) [1] with dead := false, armed := 0 }
theorem Live.files7 : Live.S7.files = fun m => if m = 1 then some Live.f5 else none := by
 funext m
 show (if m ∈ [1] then (if ∃ x ∈ Live.l6, (x.2 : Int) = m then Live.S6.files m else none).map (tornFl ([((1 : Int), (0 : Int), (1 : Int))].foldl tornM []) m) else if ∃ x ∈ Live.l6, (x.2 : Int) = m then Live.S6.files m else none) = _
 rw [Live.l6_is, Live.files6]
 by_cases h : m = 1
 ·subst h
  rfl
 ·have h' : ¬ (1 : Int) = m := fun e => h e.symm
  simp [h, h']
theorem Live.h7 : Live.S7.file 1 = some Live.f5 ∧ Live.S7.dead = false := by
 refine ⟨?_, rfl⟩
 unfold St.file
 rw [Live.files7]
 rfl
def Live.S8 : St := { Live.S7 with armed := 1 }
theorem Live.h8 : Live.S8.file 1 = some Live.f5 ∧ Live.S8.dead = false := Live.h7
def Live.S9 : St := Live.S8.wrote 1 Live.f5 ⟨false, 4, [120]⟩
end Go.Proofs.YtmcmlkglkpbnpaaGreat
namespace Go.Proofs.YtmcmlkglkpbnpaaGreat
open Go.RowKit
def Lv (w : World) (g : Nat) (S : St) (wx : World) : Prop := ∃ L, FsAt wx L g S ∧ w.grownBy wx none ∧ ∀ i, i < w.heap.size → L i = 0
theorem Lv.moved {w : World} {g : Nat} {S' : St} {wx wy : World} {L L' : Nat → Nat} (hg : w.grownBy wx none) (h0 : ∀ i, i < w.heap.size → L i = 0) (h : FsAt wy L' g S') (hm : Moved L wx L' wy) : Lv w g S' wy := by
 have hs := hg.size
 refine ⟨L', h, ⟨hm.turned.os.trans hg.os, hm.turned.tape.trans hg.tape, hm.turned.output.trans hg.output, Nat.le_trans hs hm.turned.size, fun i hi hn => ?_⟩, fun i hi => (hm.same i (by omega)).trans (h0 i hi)⟩
 exact (hm.turned.block i (by omega) (by rw [h0 i hi]; omega)).trans (hg.block i hi hn)
theorem Lv.post {w : World} {g : Nat} {S' : St} {wx : World} {L : Nat → Nat} {f : FuncId} {args : Array Value} {v : Value} (hg : w.grownBy wx none) (h0 : ∀ i, i < w.heap.size → L i = 0) (h : Calls Tryz.prog f args wx (FsPost L g S' v wx)) :
  Calls Tryz.prog f args wx fun e w' => e = .returned v ∧ Lv w g S' w' :=
 h.mono fun _ _ ⟨he, _, h1, h2⟩ => ⟨he, Lv.moved hg h0 h1 h2⟩
theorem Lv.keep {w : World} {g : Nat} {S : St} {wx wy : World} (h : Lv w g S wx) (hg : wx.grownBy wy none) : Lv w g S wy := by
 obtain ⟨L, h1, h2, h3⟩ := h
 exact ⟨L, h1.keep (Turned.of_gb (M := fun _ => False) hg (by simp)) (fun _ _ h => h), gb_trans h2 hg (.inl rfl), h3⟩
theorem Lv.alloc {w : World} {g : Nat} {S : St} {wx : World} (h : Lv w g S wx) (o : Obj) : Lv w g S (wx.alloc o) := h.keep (gb_alloc (gb_refl wx none) o)
theorem Lv.drewN {w : World} {g : Nat} {S : St} {wx : World} (h : Lv w g S wx) (n : Nat) : Lv w g S (wx.drewN n) := h.keep (gb_drewN (gb_refl wx none) n)
theorem Lv.drew {w : World} {g : Nat} {S : St} {wx : World} (h : Lv w g S wx) : Lv w g S wx.drew := h.drewN 1
theorem Lv.grown {w : World} {g : Nat} {S : St} {wx : World} (h : Lv w g S wx) : w.grownBy wx none := by
 obtain ⟨_, _, h2, _⟩ := h
 exact h2
theorem Lv.new (c : Int) (w : World) (h0 : 0 ≤ c) (h1 : c ≤ 67108864) :
  Calls Tryz.prog 5 #[.int .i64 c] w fun e w' => ∃ g, e = .returned (.tuple #[.pointer (some ⟨g, 0, none⟩), .int .i64 0]) ∧ Lv w g (St.new c) w' :=
 (new_ok c w h0 h1).mono fun _ _ ⟨g, L, he, h2, h3, h4⟩ => ⟨g, he, L, h2, h3, fun i hi => Classical.byContradiction fun hc => by have := h4 i hc; omega⟩
theorem Lv.create {w : World} {g : Nat} {S : St} {wx : World} (h : Lv w g S wx) (s : ByteArray) (he : createErr S s = 0) (hF : Fine S) :
  Calls Tryz.prog 79 #[.pointer (some ⟨g, 0, none⟩), .string s] wx fun e w' => e = .returned (.tuple #[.int .i64 (S.last + 1), .int .i64 0]) ∧ Lv w g (S.created s) w' := by
 obtain ⟨L, h1, h2, h3⟩ := h
 exact Lv.post h2 h3 (create_ok L g S s wx h1 he hF)
theorem Lv.append {w : World} {g : Nat} {S : St} {wx : World} (h : Lv w g S wx) (hF : Fine S) {n : Int} {f : Fl} (hn : S.file n = some f ∧ S.dead = false) (p : List UInt8) (A : Option Addr) (m c : Nat) (hr : Rd wx wx.heap.size A (u8s p)) (hm : m = p.length) (hp : p.length ≤ 400000000) (hfit : m = 0 ∨ S.used + m ≤ S.cap) :
  Calls Tryz.prog 15 #[.pointer (some ⟨g, 0, none⟩), .int .i64 n, .slice A m c] wx fun e w' => e = .returned (.int .i64 0) ∧ Lv w g (S.wrote n f ⟨false, f.bytes.length, p⟩) w' := by
 obtain ⟨L, h1, h2, h3⟩ := h
 exact Lv.post h2 h3 (append_ok L g S n f A m c _ p wx h1 hF hn.2 hn.1 hr (Nat.le_refl _) hm hp hfit)
theorem Rd.laid (w : World) (cs : Array Value) (t : TypeId) (fr : Nat × Nat) (xs : List Value) (h : xs = cs.toList) : Rd (w.alloc (.cells cs t fr)) (w.heap.size + 1) (some ⟨w.heap.size, 0, none⟩) xs := fun _ =>
 ⟨_, rfl, by simp, fun j u hu => by
  subst h
  have e : (⟨w.heap.size, 0, none⟩ : Addr).add j = ⟨w.heap.size, j, none⟩ := by unfold Addr.add; split <;> simp_all
  rw [e, cell_of_row _ w.heap.size j cs t fr (heap_alloc_new w _)]
  simpa using hu⟩
theorem Lv.append_full {w : World} {g : Nat} {S : St} {wx : World} (h : Lv w g S wx) (hF : Fine S) {n : Int} {f : Fl} (hn : S.file n = some f ∧ S.dead = false) (A : Option Addr) (m c : Nat) (hm : m ≤ 400000000) (h0 : 0 < m) (hc : S.cap < S.used + m) :
  Calls Tryz.prog 15 #[.pointer (some ⟨g, 0, none⟩), .int .i64 n, .slice A m c] wx fun e w' => e = .returned (.int .i64 5) ∧ Lv w g S w' := by
 obtain ⟨L, h1, h2, h3⟩ := h
 exact (Go.Proofs.YtmcmlkglkpbnpaaGreat.append_full L g S n f A m c wx h1 hF hn.2 hn.1 hm h0 hc).mono fun _ _ ⟨he, j, hj⟩ => ⟨he, by subst hj; exact Lv.drewN ⟨L, h1, h2, h3⟩ j⟩
theorem Lv.append_dead {w : World} {g : Nat} {S : St} {wx : World} (h : Lv w g S wx) (hd : S.dead = true) (n : Int) (A : Option Addr) (m c : Nat) :
  Calls Tryz.prog 15 #[.pointer (some ⟨g, 0, none⟩), .int .i64 n, .slice A m c] wx fun e w' => e = .returned (.int .i64 21) ∧ Lv w g S w' := by
 obtain ⟨L, h1, h2, h3⟩ := h
 exact (Go.Proofs.YtmcmlkglkpbnpaaGreat.append_dead L g S n A m c wx h1 hd).mono fun _ _ ⟨he, hw⟩ => ⟨he, by subst hw; exact ⟨L, h1, h2, h3⟩⟩
theorem Lv.sync {w : World} {g : Nat} {S : St} {wx : World} (h : Lv w g S wx) (hF : Fine S) {n : Int} {f : Fl} (hn : S.file n = some f ∧ S.dead = false) :
  Calls Tryz.prog 57 #[.pointer (some ⟨g, 0, none⟩), .int .i64 n] wx fun e w' => e = .returned (.int .i64 0) ∧ Lv w g (S.synced n f) w' := by
 obtain ⟨L, h1, h2, h3⟩ := h
 exact Lv.post h2 h3 (sync_ok L g S n f wx h1 hF hn.2 hn.1)
theorem Lv.syncdir {w : World} {g : Nat} {S : St} {wx : World} (h : Lv w g S wx) (hF : Fine S) (hd : S.dead = false) (hN : ∀ x ∈ S.names, (S.files (x.2 : Int)).isSome) :
  Calls Tryz.prog 80 #[.pointer (some ⟨g, 0, none⟩)] wx fun e w' => e = .returned (.int .i64 0) ∧ Lv w g (S.settled S.names).count w' := by
 obtain ⟨L, h1, h2, h3⟩ := h
 exact Lv.post h2 h3 (syncdir_ok L g S wx h1 hF hd hN)
theorem Lv.read {w : World} {g : Nat} {S : St} {wx : World} (h : Lv w g S wx) (hF : Fine S) {n : Int} {f : Fl} (hn : S.file n = some f ∧ S.dead = false) (k : Nat) (x : Int) (hk : k ≤ f.bytes.length) (hx : 0 ≤ x) :
  Calls Tryz.prog 82 #[.pointer (some ⟨g, 0, none⟩), .int .i64 n, .int .i64 (k : Int), .int .i64 x] wx fun e w' => ∃ A c m, e = .returned (.tuple #[.slice A m c, .int .i64 0]) ∧
   m = min x.toNat (f.bytes.length - k) ∧ Lv w g S w' ∧ Rd w' w'.heap.size A (u8s ((f.bytes.drop k).take x.toNat)) ∧ m ≤ c ∧ c ≤ maxLen := by
 obtain ⟨L, h1, h2, h3⟩ := h
 refine (read_ok L g S n f k x wx h1 hF hn.2 hn.1 hk hx).mono ?_
 rintro e w' ⟨A, c, m, rfl, hm, hb, hg⟩
 obtain ⟨A', c', e, q1, q2, q3⟩ := hb.rd
 injection e with e1 e2 e3
 subst e1; subst e3
 exact ⟨A, c, m, rfl, hm, Lv.keep ⟨L, h1, h2, h3⟩ hg, q3, by omega, q2⟩
theorem arm_in (L : Nat → Nat) (g : Nat) (S : St) (n : Int) (wx : World) (h : FsAt wx L g S) (hn : 0 < n) :
  Calls Tryz.prog 10 #[.pointer (some ⟨g, 0, none⟩), .int .i64 n] wx (FsPost L g { S with armed := n } (.tuple #[]) wx) := by
 obtain ⟨mf, mn, ms, vch, lf, h1⟩ := h
 refine (arm_any g _ n wx h1.blk).mono ?_
 rintro e w' ⟨rfl, hv, hg⟩
 refine ⟨rfl, ?_⟩
 rw [arm_pos hn] at hv
 have hsz := hg.size
 have hne : ∀ i, i ≠ g → (some i : Option Nat) ≠ some g := fun i hi e => hi (by injection e)
 exact h1.rebuild (S' := { S with armed := n }) (fun _ => False) (L' := L) (mf' := mf) (mn' := mn) (ms' := ms) (vch' := vch) (lf' := lf)
   ((Turned.of_gb (M := fun i => i = g) hg (fun i e => by injection e with e; exact e.symm)).mono fun i _ hi => .inl (hi ▸ h1.lg)) (fun _ _ h => h.elim) hv (fun _ _ => rfl) (fun i hi => Nat.lt_of_lt_of_le (h1.lt i hi) hsz) h1.lmf h1.lmn h1.lms h1.ns h1.fn h1.fs
   (h1.files.grown hg (hne _ (map_ne h1.files h1.blk))) (h1.names.grown hg (hne _ (map_ne h1.names h1.blk))) (h1.safe.grown hg (hne _ (map_ne h1.safe h1.blk)))
   ⟨own_keep h1.chs.1 fun i hi hl => hg.block i hl (fun e => own_ne h1.chs.1 h1.blk (by decide) (by injection e with e; rw [hi, e])), h1.chs.2⟩ (fun n fb hn => .inl ⟨hn, rfl, fun _ _ h => h.elim⟩) (fun n hn => h1.no n hn)
theorem Lv.arm {w : World} {g : Nat} {S : St} {wx : World} (h : Lv w g S wx) (n : Int) (hn : 0 < n) :
  Calls Tryz.prog 10 #[.pointer (some ⟨g, 0, none⟩), .int .i64 n] wx fun e w' => e = .returned (.tuple #[]) ∧ Lv w g { S with armed := n } w' := by
 obtain ⟨L, h1, h2, h3⟩ := h
 exact Lv.post h2 h3 (arm_in L g S n wx h1 hn)
theorem Lv.crash {w : World} {g : Nat} {S : St} {wx : World} (h : Lv w g S wx) (hF : Fine S) (dir : Int) (A : Option Addr) (c : Nat) (tl : List Tn) {wy : World} (hy : wx.grownBy wy none) (hr : Rd wy wy.heap.size A (tcells tl)) (hA : ∀ a, A = some a → a.block < w.heap.size ∨ wx.heap.size ≤ a.block) (htl : tl.length ≤ c ∧ c ≤ maxLen)
  (hN : ∀ x ∈ followed S.safe (S.changes.take (crashK S dir)), (S.files (x.2 : Int)).isSome) (hNl : (followed S.safe (S.changes.take (crashK S dir))).length ≤ 100000) (hG : ∀ n f, S.files n = some f → f.Good) :
  Calls Tryz.prog 8 #[.pointer (some ⟨g, 0, none⟩), .agg #[.int .i64 dir, .slice A tl.length c]] wy fun e w' => e = .returned (.tuple #[]) ∧ ∃ ks : List Int,
   ks.Nodup ∧ (∀ n, n ∈ ks ↔ ∃ x ∈ followed S.safe (S.changes.take (crashK S dir)), (x.2 : Int) = n) ∧ Lv w g { (S.fallen dir).torn (tl.foldl tornM []) ks with dead := false, armed := 0 } w' := by
 obtain ⟨L, h1, h2, h3⟩ := h
 have hlt : ∀ i, L i ≠ 0 → i < wx.heap.size := by
  obtain ⟨_, _, _, _, _, h⟩ := h1
  exact h.lt
 have h1y := h1.keep (Turned.of_gb (M := fun _ => False) hy (by simp)) (fun _ _ h => h)
 refine (crash_any L g S dir A c tl wy h1y hF (TnAt.of_rd hr fun a ha => ?_) htl hN hNl hG).mono ?_
 ·rcases hA a ha with hb | hb
  ·exact h3 _ hb
  ·exact Classical.byContradiction fun hc => by have := hlt _ hc; omega
 ·rintro e w' ⟨rfl, ks, L', k1, k2, k3, k4⟩
  exact ⟨rfl, ks, k1, k2, Lv.moved (gb_trans h2 hy (.inl rfl)) h3 k3 k4⟩
/-! ## blocks Z beside the file system stay -/
def Lz (B : World) (Z : Nat → Prop) (g : Nat) (S : St) (wx : World) : Prop := ∃ L, FsAt wx L g S ∧ Turned (fun i => ¬ Z i) B wx ∧ ∀ i, i < B.heap.size → Z i → L i = 0
theorem Lz.moved {B : World} {Z : Nat → Prop} {g : Nat} {S' : St} {wx wy : World} {L L' : Nat → Nat} (hg : Turned (fun i => ¬ Z i) B wx) (h0 : ∀ i, i < B.heap.size → Z i → L i = 0) (h : FsAt wy L' g S') (hm : Moved L wx L' wy) : Lz B Z g S' wy := by
 have hs := hg.size
 refine ⟨L', h, hg.trans hm.turned fun i hi hh hz => ?_, fun i hi hz => (hm.same i (by omega)).trans (h0 i hi hz)⟩
 rw [h0 i hi hz] at hh
 omega
theorem Lz.post {B : World} {Z : Nat → Prop} {g : Nat} {S' : St} {wx : World} {L : Nat → Nat} {f : FuncId} {args : Array Value} {v : Value} (hg : Turned (fun i => ¬ Z i) B wx) (h0 : ∀ i, i < B.heap.size → Z i → L i = 0) (h : Calls Tryz.prog f args wx (FsPost L g S' v wx)) :
  Calls Tryz.prog f args wx fun e w' => e = .returned v ∧ Lz B Z g S' w' :=
 h.mono fun _ _ ⟨he, _, h1, h2⟩ => ⟨he, Lz.moved hg h0 h1 h2⟩
theorem Lz.keep {B : World} {Z : Nat → Prop} {g : Nat} {S : St} {wx wy : World} (h : Lz B Z g S wx) (hg : wx.grownBy wy none) : Lz B Z g S wy := by
 obtain ⟨L, h1, h2, h3⟩ := h
 exact ⟨L, h1.keep (Turned.of_gb (M := fun _ => False) hg (by simp)) (fun _ _ h => h), h2.trans (Turned.of_gb (M := fun _ => False) hg (by simp)) (fun _ _ h => h.elim), h3⟩
theorem Lz.alloc {B : World} {Z : Nat → Prop} {g : Nat} {S : St} {wx : World} (h : Lz B Z g S wx) (o : Obj) : Lz B Z g S (wx.alloc o) := h.keep (gb_alloc (gb_refl wx none) o)
theorem Lz.turned {B : World} {Z : Nat → Prop} {g : Nat} {S : St} {wx : World} (h : Lz B Z g S wx) : Turned (fun i => ¬ Z i) B wx := by
 obtain ⟨_, _, h2, _⟩ := h
 exact h2
theorem Lz.append_dead {B : World} {Z : Nat → Prop} {g : Nat} {S : St} {wx : World} (h : Lz B Z g S wx) (hd : S.dead = true) (n : Int) (A : Option Addr) (m c : Nat) :
  Calls Tryz.prog 15 #[.pointer (some ⟨g, 0, none⟩), .int .i64 n, .slice A m c] wx fun e w' => e = .returned (.int .i64 21) ∧ Lz B Z g S w' := by
 obtain ⟨L, h1, h2, h3⟩ := h
 exact (Go.Proofs.YtmcmlkglkpbnpaaGreat.append_dead L g S n A m c wx h1 hd).mono fun _ _ ⟨he, hw⟩ => ⟨he, by subst hw; exact ⟨L, h1, h2, h3⟩⟩
end Go.Proofs.YtmcmlkglkpbnpaaGreat
namespace Go.Proofs.YtmcmlkglkpbnpaaGreat
open Go.RowKit
end Go.Proofs.YtmcmlkglkpbnpaaGreat
namespace Go.Proofs.YtmcmlkglkpbnpaaGreat
open Go.RowKit
theorem BsAt.ne {w : World} {own : Nat → Prop} {v : Value} {xs : List UInt8} {fb : Nat} {fv : FlV} (h : BsAt w own v xs) (hf : FlB w fb fv) : BsAt w (fun i => own i ∧ i ≠ fb) v xs := by
 rcases h with h | ⟨h0, g', cap, cur, h1, h2, h3, h4⟩
 ·exact .inl h
 ·refine .inr ⟨h0, g', cap, cur, h1, ⟨h2, fun e => ?_⟩, h3, h4⟩
  have hf' : w.heap[fb]? = _ := hf
  rw [← e, h3] at hf'
  injection hf' with hf'
  injection hf' with _ hf'
  exact absurd hf' (by decide)
theorem WsAt.ne {w : World} {own rd : Nat → Prop} {v : Value} {ws : List Wr} {fb : Nat} {fv : FlV} (h : WsAt w own rd v ws) (hf : FlB w fb fv) : WsAt w (fun i => own i ∧ i ≠ fb) (fun i => rd i ∧ i ≠ fb) v ws := by
 obtain ⟨l, rfl, h2, h3, h4⟩ := h
 exact ⟨l, rfl, h2, fun i hi => ⟨h3 i hi, fun e => own_ne h2 hf (by decide) (e ▸ hi)⟩, fun y hy => (h4 y hy).ne hf⟩
theorem FileAt.lost {w w' : World} {own rd : Nat → Prop} {fb : Nat} {f : Fl} {v : FlV} (hv : FlB w fb v) (ho : own fb) (hb : BsAt w own v.vb f.bytes) (hs : BsAt w own v.vs f.safe) (hp : Sep v.vb f.bytes.length v.vs f.safe.length v.shared) (hw : WsAt w own rd v.vw f.waits)
  (hk : ∀ i, own i ∨ rd i → i < w.heap.size → i ≠ fb → w'.heap[i]? = w.heap[i]?) (hv' : FlB w' fb { v with gone := true }) : FileAt w' own rd fb { f with gone := true } :=
 ⟨{ v with gone := true }, hv', ho, rfl, ((hb.ne hv).keep fun i hi hl => hk i (.inl hi.1) hl hi.2).mono (fun _ h => h.1), ((hs.ne hv).keep fun i hi hl => hk i (.inl hi.1) hl hi.2).mono (fun _ h => h.1), hp,
  ((hw.ne hv).keep fun i hi hl => by rcases hi with hi | hi; exact hk i (.inl hi.1) hl hi.2; exact hk i (.inr hi.1) hl hi.2).mono (fun _ _ h => h.1) (fun _ _ h => h.1)⟩
def St.lost (S : St) (n : Nat) : St := match S.files (n : Int) with
 | some f => ({ S with used := S.used - f.bytes.length } : St).setFile (n : Int) { f with gone := true }
 | none => S
def St.did (S : St) (c : Ch) : St := ({ (if (followL S.names c).2 = 0 then S else S.lost (followL S.names c).2) with names := (followL S.names c).1, changes := S.changes ++ [c] } : St).count
end Go.Proofs.YtmcmlkglkpbnpaaGreat
namespace Go.Proofs.YtmcmlkglkpbnpaaGreat
open Go.RowKit
theorem Moved.grown {L : Nat → Nat} {w w' : World} (hg : w.grownBy w' none) : Moved L w L w' := ⟨Turned.of_gb hg (by simp), fun _ _ => rfl⟩
theorem FsAt.grown {L : Nat → Nat} {g : Nat} {S : St} {w w' : World} (h : FsAt w L g S) (hg : w.grownBy w' none) : FsAt w' L g S := h.keep (Turned.of_gb (M := fun _ => False) hg (by simp)) (fun _ _ h => h)
def askErr (S : St) (l : List ByteArray) (a : ByteArray) : Int := if S.dead then 21 else if l.all nameOk = false then 20 else if aget S.names a = none then 7 else 0
structure Asked (L : Nat → Nat) (g : Nat) (S : St) (l : List ByteArray) (a : ByteArray) (A : Option Addr) (wa : World) : Prop where
 ready : Calls Tryz.prog 73 #[.pointer (some ⟨g, 0, none⟩), .slice A l.length l.length] wa fun e w' => e = .returned (.int .i64 (readyErr S.dead l)) ∧ wa = w'
 look : ∃ mn, wa.cell? ⟨g, 4, none⟩ = some (.map (some mn)) ∧ (Instr.lookup 78 (.map (some mn)) (.string a) true).run Tryz.prog wa = .ok (.tuple #[.int .i64 (((aget S.names a).getD 0 : Nat) : Int), .bool (aget S.names a).isSome]) wa
theorem FsAt.asked {L : Nat → Nat} {g : Nat} {S : St} {w : World} (h : FsAt w L g S) (l : List ByteArray) (a : ByteArray) (hl : l.length ≤ 1000) (A : Option Addr) (hr : Rd w w.heap.size A (strs l)) : Asked L g S l a A w := by
 obtain ⟨mf, mn, ms, vch, lf, h⟩ := h
 exact ⟨ready_any g _ A l.length _ l w h.blk hr hl, mn, h.blk.c4, look_ok h.names a⟩
def openVal (S : St) (a : ByteArray) : Int := if askErr S [a] a = 0 then (((aget S.names a).getD 0 : Nat) : Int) else 0
set_option maxHeartbeats 4000000 in
set_option maxRecDepth 100000 in
theorem open_any (L : Nat → Nat) (g : Nat) (S : St) (a : ByteArray) (w : World) (h : FsAt w L g S) :
  Calls Tryz.prog 42 #[.pointer (some ⟨g, 0, none⟩), .string a] w fun e w' => e = .returned (.tuple #[.int .i64 (openVal S a), .int .i64 (askErr S [a] a)]) ∧ w.grownBy w' none := by
 obtain ⟨wa, hwaE⟩ : ∃ wa, wa = w.alloc (.cells #[.string a] 9) := ⟨_, rfl⟩
 have hga : w.grownBy wa none := by rw [hwaE]; exact gb_alloc (gb_refl w none) _
 have hrd : Rd wa wa.heap.size (some ⟨w.heap.size, 0, none⟩) (strs [a]) := by rw [hwaE]; exact (Rd.new w #[.string a] 9 _ rfl).more (by simp)
 obtain ⟨hr, mn, q4, hlk⟩ := (h.grown hga).asked [a] a (by simp) _ hrd
 have HWE := hide hwaE
 have HG := hide hga
 cases hd : S.dead
 ·cases hno : [a].all nameOk
  ·have e1 : askErr S [a] a = 20 := by simp only [askErr, hd, hno]; rfl
   rw [hd, readyErr_no hno] at hr
   have HR := hide hr
   have E1 := hide e1
   clear h hr hga hrd hwaE hd hno e1 hlk q4
   go_enter Tryz.func42, Tryz.ntmps42
   go_wp2_with fail
   rw [← HWE.out]
   refine HR.out.mono ?_
   rintro e w1 ⟨rfl, rfl⟩
   go_wp2
   go_ret2
   exact ⟨by unfold openVal; rw [E1.out]; rfl, HG.out⟩
  ·rw [hd, readyErr_ok hno] at hr
   have HR := hide hr
   cases hs : aget S.names a with
   | none =>
    have e1 : askErr S [a] a = 7 := by
     simp only [askErr, hd, hno]
     simp [hs]
    rw [hs] at hlk
    have E1 := hide e1
    clear h hr hga hrd hwaE hd hno e1 hs
    go_enter Tryz.func42, Tryz.ntmps42
    go_wp2_with fail
    rw [← HWE.out]
    refine HR.out.mono ?_
    rintro e w1 ⟨rfl, rfl⟩
    go_wp2
    go_ret2
    exact ⟨by unfold openVal; rw [E1.out]; rfl, HG.out⟩
   | some n =>
    have e1 : askErr S [a] a = 0 := by
     simp only [askErr, hd, hno]
     simp [hs]
    rw [hs] at hlk
    have E1 := hide e1
    have HS := hide hs
    clear h hr hga hrd hwaE hd hno e1 hs
    go_enter Tryz.func42, Tryz.ntmps42
    go_wp2_with fail
    rw [← HWE.out]
    refine HR.out.mono ?_
    rintro e w1 ⟨rfl, rfl⟩
    go_wp2
    go_ret2
    exact ⟨by unfold openVal; rw [E1.out, HS.out]; rfl, HG.out⟩
 ·have e1 : askErr S [a] a = 21 := by simp only [askErr, hd]; rfl
  rw [hd] at hr
  have HR := hide hr
  have E1 := hide e1
  clear h hr hga hrd hwaE hd e1 hlk q4
  go_enter Tryz.func42, Tryz.ntmps42
  go_wp2_with fail
  rw [← HWE.out]
  refine HR.out.mono ?_
  rintro e w1 ⟨rfl, rfl⟩
  go_wp2
  go_ret2
  exact ⟨by unfold openVal; rw [E1.out]; rfl, HG.out⟩
/-! ## what a dead file system answers -/
def St.arm (S : St) (n : Int) : St := { S with armed := max n 0, dead := S.dead || n == 0 }
theorem armed_in (L : Nat → Nat) (g : Nat) (S : St) (n : Int) (wx : World) (h : FsAt wx L g S) :
  Calls Tryz.prog 10 #[.pointer (some ⟨g, 0, none⟩), .int .i64 n] wx (FsPost L g (S.arm n) (.tuple #[]) wx) := by
 obtain ⟨mf, mn, ms, vch, lf, h1⟩ := h
 refine (arm_any g _ n wx h1.blk).mono ?_
 rintro e w' ⟨rfl, hv, hg⟩
 refine ⟨rfl, ?_⟩
 have hsz := hg.size
 have hne : ∀ i, i ≠ g → (some i : Option Nat) ≠ some g := fun i hi e => hi (by injection e)
 exact h1.rebuild (S' := S.arm n) (fun _ => False) (L' := L) (mf' := mf) (mn' := mn) (ms' := ms) (vch' := vch) (lf' := lf)
   ((Turned.of_gb (M := fun i => i = g) hg (fun i e => by injection e with e; exact e.symm)).mono fun i _ hi => .inl (hi ▸ h1.lg)) (fun _ _ h => h.elim) hv (fun _ _ => rfl) (fun i hi => Nat.lt_of_lt_of_le (h1.lt i hi) hsz) h1.lmf h1.lmn h1.lms h1.ns h1.fn h1.fs
   (h1.files.grown hg (hne _ (map_ne h1.files h1.blk))) (h1.names.grown hg (hne _ (map_ne h1.names h1.blk))) (h1.safe.grown hg (hne _ (map_ne h1.safe h1.blk)))
   ⟨own_keep h1.chs.1 fun i hi hl => hg.block i hl (fun e => own_ne h1.chs.1 h1.blk (by decide) (by injection e with e; rw [hi, e])), h1.chs.2⟩ (fun n fb hn => .inl ⟨hn, rfl, fun _ _ h => h.elim⟩) (fun n hn => h1.no n hn)
set_option maxHeartbeats 1000000 in
set_option maxRecDepth 100000 in
theorem sync_bad (L : Nat → Nat) (g : Nat) (S : St) (n : Int) (x : Int) (w : World) (h : FsAt w L g S) (hx : (S.dead = true ∧ x = 21) ∨ (S.dead = false ∧ S.file n = none ∧ x = 7)) :
  Calls Tryz.prog 57 #[.pointer (some ⟨g, 0, none⟩), .int .i64 n] w fun e w' => e = .returned (.int .i64 x) ∧ w = w' := by
 obtain ⟨mf, mn, ms, vch, lf, h⟩ := h
 rcases hx with ⟨hd, rfl⟩ | ⟨hd, hn, rfl⟩
 ·have HFD := hide (h.find_dead n hd)
  clear h hd
  go_enter Tryz.func57, Tryz.ntmps57
  go_wp2_with (go_at_call 38; refine HFD.out.mono ?_; rintro e w1 ⟨rfl, rfl⟩)
  go_ret
  exact ⟨rfl, rfl⟩
 ·have HFD := hide (h.find_none hd hn)
  clear h hd hn
  go_enter Tryz.func57, Tryz.ntmps57
  go_wp2_with (go_at_call 38; refine HFD.out.mono ?_; rintro e w1 ⟨rfl, rfl⟩)
  go_ret
  exact ⟨rfl, rfl⟩
set_option maxHeartbeats 1000000 in
set_option maxRecDepth 100000 in
theorem syncdir_dead (L : Nat → Nat) (g : Nat) (S : St) (w : World) (h : FsAt w L g S) (hd : S.dead = true) :
  Calls Tryz.prog 80 #[.pointer (some ⟨g, 0, none⟩)] w fun e w' => e = .returned (.int .i64 21) ∧ w = w' := by
 obtain ⟨mf, mn, ms, vch, lf, h⟩ := h
 have hr := ready_any g _ none 0 0 [] w h.blk Rd.nil_ (by simp)
 rw [show (S.v mf mn ms vch).dead = S.dead from rfl, hd] at hr
 have HR := hide hr
 clear h hr hd
 go_enter Tryz.func80, Tryz.ntmps80
 go_wp2_with (go_at_call 73; refine HR.out.mono ?_; rintro e w1 ⟨rfl, rfl⟩)
 go_ret
 exact ⟨rfl, rfl⟩
end Go.Proofs.YtmcmlkglkpbnpaaGreat
namespace Go.Proofs.YtmcmlkglkpbnpaaGreat
open Go.RowKit
theorem FsPost.same {L : Nat → Nat} {g : Nat} {S : St} {w : World} (h : FsAt w L g S) (v : Value) (j : Nat) : FsPost L g S v w (.returned v) (w.drewN j) := ⟨rfl, L, h.drewN j, (Moved.refl L w).drewN j⟩
theorem FsPost.same0 {L : Nat → Nat} {g : Nat} {S : St} {w : World} (h : FsAt w L g S) (v : Value) : FsPost L g S v w (.returned v) w := ⟨rfl, L, h, Moved.refl L w⟩
/-! ## Cut -/
def St.cutE (S : St) (n k : Int) : Int := if S.dead then 21 else match S.file n with
 | none => 7
 | some f => if k < 0 ∨ (f.bytes.length : Int) < k then 2 else 0
def St.cut (S : St) (n k : Int) : St := if S.dead then S else match S.file n with
 | none => S
 | some f => if k < 0 ∨ (f.bytes.length : Int) < k then S else S.wrote n f ⟨true, k.toNat, []⟩
theorem doW_cut (b : List UInt8) (k : Nat) : doW b ⟨true, k, []⟩ = b.take k := by simp [doW]
theorem cut_alter {w : World} {L : Nat → Nat} {g : Nat} {S : St} {mf mn ms : Nat} {vch : Value} {lf : List (Int × Nat)} {n : Int} {fb : Nat} {f : Fl} (h : FsIn w L g S mf mn ms vch lf) (hF : Fine S) (hn : aget lf n = some fb) (hfi : S.files n = some f)
  (hfa : FileAt w (fun i => L i = n.toNat + 3) (fun i => L i = 2) fb f) (k : Nat) (hk : k ≤ f.bytes.length) :
  Calls Tryz.prog 75 #[.pointer (some ⟨g, 0, none⟩), .pointer (some ⟨fb, 0, none⟩), .agg #[.bool true, .int .i64 (k : Int), .slice none 0 0]] w (FsPost L g (S.wrote n f ⟨true, k, []⟩) (.tuple #[]) w) := by
 have hb := hF.files n f hfi
 refine (alter_any g fb (S.v mf mn ms vch) _ _ f ⟨true, k, []⟩ (.slice none 0 0) w h.blk hfa BsAt.nil_ hk (fun i hi => ⟨by omega, h.lt i (by omega), fun e => by rw [e, h.lg] at hi; omega⟩) (fun i hi => ⟨h.lt i (by omega), fun e => by rw [e, h.lg] at hi; omega⟩)
  (by simp; omega) hb.2.2 hF.used hF.ops hF.armed (by rw [doW_cut]; simp; omega)).mono ?_
 rintro e w' ⟨rfl, h1, h2, h3⟩
 have he : PutPost g fb (S.v mf mn ms vch) (fun i => L i = n.toNat + 3) (fun i => L i = 2) f ⟨true, k, []⟩ w (.returned (.int .i64 0)) w' := ⟨rfl, h1, h3, w.heap.size, Nat.le_refl _, h3.size, h2.mono (fun _ _ h => h) (fun _ _ h => .inl h)⟩
 exact ⟨rfl, h.wrote hn he⟩
set_option maxHeartbeats 2000000 in
set_option maxRecDepth 100000 in
theorem cut_any (L : Nat → Nat) (g : Nat) (S : St) (n k : Int) (w : World) (h : FsAt w L g S) (hF : Fine S) :
  Calls Tryz.prog 83 #[.pointer (some ⟨g, 0, none⟩), .int .i64 n, .int .i64 k] w (FsPost L g (S.cut n k) (.int .i64 (S.cutE n k)) w) := by
 have H := hide h
 obtain ⟨mf, mn, ms, vch, lf, h⟩ := h
 cases hd : S.dead
 ·cases hn : S.file n with
  | none =>
   have e1 : S.cutE n k = 7 := by unfold St.cutE; rw [hd, hn]; rfl
   have e2 : S.cut n k = S := by unfold St.cut; rw [hd, hn]; rfl
   rw [e1, e2]
   have HFD := hide (h.find_none hd hn)
   clear h hd hn e1 e2 hF
   go_enter Tryz.func83, Tryz.ntmps83
   go_wp2_with (go_at_call 38; refine HFD.out.mono ?_; rintro e w1 ⟨rfl, rfl⟩)
   go_ret
   exact FsPost.same0 H.out _
  | some f =>
   obtain ⟨fb, h1, h2, h3, h4⟩ := h.find_some hd hn
   have HFD := hide h4
   have hfa := h2
   obtain ⟨fv, hfl, _, _, hbb, _⟩ := h2
   obtain ⟨A1, c1, hv, hnc, hcm⟩ := hbb.form
   unfold maxLen at hcm
   have q1 := hfl.c1
   rw [hv] at q1
   by_cases hk : k < 0 ∨ (f.bytes.length : Int) < k
   ·have e1 : S.cutE n k = 2 := by unfold St.cutE; rw [hd, hn]; simp [hk]
    have e2 : S.cut n k = S := by unfold St.cut; rw [hd, hn]; simp [hk]
    rw [e1, e2]
    rcases hk with hk | hk
    ·clear h hd hn e1 e2 hF hfl hbb hv h4 hfa h1 h3
     go_enter Tryz.func83, Tryz.ntmps83
     go_wp2_with (go_at_call 38; refine HFD.out.mono ?_; rintro e w1 ⟨rfl, rfl⟩)
     go_ret
     exact FsPost.same0 H.out _
    ·have hk0 : ¬ k < 0 := by omega
     clear h hd hn e1 e2 hF hfl hbb hv h4 hfa h1 h3
     go_enter Tryz.func83, Tryz.ntmps83
     go_wp2_with (go_at_call 38; refine HFD.out.mono ?_; rintro e w1 ⟨rfl, rfl⟩)
     go_ret
     exact FsPost.same0 H.out _
   ·have e1 : S.cutE n k = 0 := by unfold St.cutE; rw [hd, hn]; simp [hk]
    have e2 : S.cut n k = S.wrote n f ⟨true, k.toNat, []⟩ := by unfold St.cut; rw [hd, hn]; simp [hk]
    rw [e1, e2]
    have hk0 : ¬ k < 0 := by omega
    have hk1 : ¬ (f.bytes.length : Int) < k := by omega
    obtain ⟨j, rfl⟩ : ∃ j : Nat, k = (j : Int) := ⟨k.toNat, by omega⟩
    have HAL := hide (cut_alter h hF h1 (St.file_some hn).1 hfa j (by omega))
    have ej : (j : Int).toNat = j := by omega
    rw [ej]
    clear h hd hn e1 e2 hF hfl hbb hv h4 hfa h1 h3 hk ej hk0
    go_enter Tryz.func83, Tryz.ntmps83
    go_wp2_with (first
     | (go_at_call 38; refine HFD.out.mono ?_; rintro e w1 ⟨rfl, rfl⟩)
     | (go_at_call 75; refine HAL.out.mono ?_; rintro e w2 ⟨rfl, hp⟩; have HP := hide hp; clear hp))
    go_ret
    exact ⟨rfl, HP.out⟩
 ·have e1 : S.cutE n k = 21 := by unfold St.cutE; rw [hd]; rfl
  have e2 : S.cut n k = S := by unfold St.cut; rw [hd]; rfl
  rw [e1, e2]
  have HFD := hide (h.find_dead n hd)
  clear h hd e1 e2 hF
  go_enter Tryz.func83, Tryz.ntmps83
  go_wp2_with (go_at_call 38; refine HFD.out.mono ?_; rintro e w1 ⟨rfl, rfl⟩)
  go_ret
  exact FsPost.same0 H.out _
/-! ## Write -/
def St.writeE (S : St) (n k : Int) (m : Nat) : Int := if S.dead then 21 else match S.file n with
 | none => 7
 | some f => if k < 0 ∨ (f.bytes.length : Int) < k then 2 else if (f.bytes.length : Int) < k + m ∧ S.cap < S.used + (k + m - f.bytes.length) then 5 else 0
def St.write (S : St) (n k : Int) (p : List UInt8) : St := if S.dead then S else match S.file n with
 | none => S
 | some f => if k < 0 ∨ (f.bytes.length : Int) < k then S else if (f.bytes.length : Int) < k + p.length ∧ S.cap < S.used + (k + p.length - f.bytes.length) then S else S.wrote n f ⟨false, k.toNat, p⟩
/-! ## Remove -/
end Go.Proofs.YtmcmlkglkpbnpaaGreat
namespace Go.Proofs.YtmcmlkglkpbnpaaGreat
open Go.RowKit
end Go.Proofs.YtmcmlkglkpbnpaaGreat
namespace Go.Proofs.YtmcmlkglkpbnpaaGreat
open Go.RowKit
theorem BsAt.grown {w w' : World} {own : Nat → Prop} {v : Value} {xs : List UInt8} (h : BsAt w own v xs) (hg : w.grownBy w' none) : BsAt w' own v xs := h.keep fun i _ hl => hg.block i hl (by simp)
theorem cell_grown {w w' : World} {b i : Nat} {v : Value} (h : w.cell? ⟨b, i, none⟩ = some v) (hg : w.grownBy w' none) : w'.cell? ⟨b, i, none⟩ = some v := by
 have hb := World.block_lt_of_cell? w _ h
 exact (cell_same (p := ⟨b, i, none⟩) (hg.block b hb (by simp))).trans h
end Go.Proofs.YtmcmlkglkpbnpaaGreat
