/-
  FS.do where a file loses its name.
-/
import Derived.Test.YtccapgcpdehicaaQai

namespace Go.Proofs.Ytccapgcpdehicaa
open Go.RowKit

set_option maxHeartbeats 1000000 in
theorem find_nil (n : Int) (w : World) : Calls Try.prog 29 #[.pointer none, .int .i64 n] w fun e w' => e = .returned (.tuple #[.pointer none, .int .i64 7]) ∧ w = w' := by
  go_enter Try.func29, Try.ntmps29
  go_wp2_with (go_at_call 27; refine (ready_nil _ _ _ _).mono ?_; rintro e w1 ⟨rfl, rfl⟩)
  go_ret2
  exact ⟨rfl, rfl⟩

set_option maxHeartbeats 1000000 in
theorem append_nil (n : Int) (A : Option Addr) (m c : Nat) (w : World) : Calls Try.prog 12 #[.pointer none, .int .i64 n, .slice A m c] w fun e w' => e = .returned (.int .i64 7) ∧ w = w' := by
  go_enter Try.func12, Try.ntmps12
  go_wp2_with (go_at_call 29; refine (find_nil _ _).mono ?_; rintro e w1 ⟨rfl, rfl⟩)
  go_ret
  exact ⟨rfl, rfl⟩

set_option maxHeartbeats 1000000 in
theorem num_any (n : Int) (w : World) : Calls Try.prog 10 #[.int .i64 n] w fun e w' => e = .returned (.int .i64 n) ∧ w = w' := by
  go_enter Try.func10, Try.ntmps10
  go_wp2
  go_ret
  exact ⟨rfl, rfl⟩

end Go.Proofs.Ytccapgcpdehicaa

namespace Go.Proofs.Ytccapgcpdehicaa
open Go.RowKit

def Live.nm : ByteArray := ⟨#[97]⟩
def Live.S1 : St := (St.new 10).created Live.nm
def Live.f0 : Fl := ⟨false, [], [], []⟩
def Live.S2 : St := Live.S1.wrote 1 Live.f0 ⟨false, 0, [97, 98, 99]⟩
def Live.f1 : Fl := ⟨false, [97, 98, 99], [], [⟨false, 0, [97, 98, 99]⟩]⟩
def Live.S3 : St := Live.S2.synced 1 Live.f1
def Live.f2 : Fl := ⟨false, [97, 98, 99], [97, 98, 99], []⟩
def Live.S4 : St := (Live.S3.settled Live.S3.names).count
def Live.S5 : St := Live.S4.wrote 1 Live.f2 ⟨false, 3, [100, 101]⟩
def Live.f3 : Fl := ⟨false, [97, 98, 99, 100, 101], [97, 98, 99], [⟨false, 3, [100, 101]⟩]⟩
def Live.S6 : St := Live.S5.wrote 1 Live.f3 ⟨false, 5, [102]⟩
def Live.f4 : Fl := ⟨false, [97, 98, 99, 100, 101, 102], [97, 98, 99], [⟨false, 3, [100, 101]⟩, ⟨false, 5, [102]⟩]⟩

/-- All that the steps ask. -/
theorem Live.err : createErr (St.new 10) Live.nm = 0 := by decide
theorem Live.h1 : Live.S1.file 1 = some Live.f0 ∧ Live.S1.dead = false := ⟨rfl, rfl⟩
theorem Live.h2 : Live.S2.file 1 = some Live.f1 ∧ Live.S2.dead = false := ⟨rfl, rfl⟩
theorem Live.h3 : Live.S3.file 1 = some Live.f2 ∧ Live.S3.dead = false := ⟨rfl, rfl⟩
theorem Live.h4 : Live.S4.file 1 = some Live.f2 ∧ Live.S4.dead = false := ⟨rfl, rfl⟩
theorem Live.h5 : Live.S5.file 1 = some Live.f3 ∧ Live.S5.dead = false := ⟨rfl, rfl⟩
theorem Live.h6 : Live.S6.file 1 = some Live.f4 ∧ Live.S6.dead = false := ⟨rfl, rfl⟩
theorem Live.only1 (S : St) (f : Fl) (he : S.files = fun m => if m = 1 then some f else none) (hu : 0 ≤ S.used ∧ S.used ≤ 100) (ho : 0 ≤ S.ops ∧ S.ops ≤ 100) (ha : S.armed ≤ 100) (hl : 0 ≤ S.last ∧ S.last ≤ 100) (hc : S.changes.length ≤ 100) (hf : f.bytes.length ≤ 100 ∧ f.safe.length ≤ 100 ∧ f.waits.length ≤ 100) : Fine S := by
  refine ⟨by omega, by omega, by omega, by omega, by omega, fun n f' h => ?_⟩
  rw [he] at h
  simp only at h
  split at h
  · injection h with h
    subst h
    omega
  · cases h
theorem Live.fine0 : Fine (St.new 10) := ⟨by decide, by decide, by decide, by decide, by decide, fun n f h => by cases h⟩
theorem Live.files1 : Live.S1.files = fun m => if m = 1 then some Live.f0 else none := rfl
theorem Live.files2 : Live.S2.files = fun m => if m = 1 then some Live.f1 else none := by
  funext m
  show (if m = 1 then some _ else if m = 1 then _ else none) = _
  split <;> rfl
theorem Live.files3 : Live.S3.files = fun m => if m = 1 then some Live.f2 else none := by
  funext m
  show (if m = 1 then some _ else Live.S2.files m) = _
  rw [Live.files2]
  simp only
  split <;> rfl
theorem Live.files4 : Live.S4.files = fun m => if m = 1 then some Live.f2 else none := by
  funext m
  show (if ∃ x ∈ Live.S3.names, (x.2 : Int) = m then Live.S3.files m else none) = _
  rw [Live.files3, show Live.S3.names = [(Live.nm, 1)] from rfl]
  by_cases h : m = 1
  · subst h; rfl
  · rw [if_neg h]
    simp [h]
theorem Live.files5 : Live.S5.files = fun m => if m = 1 then some Live.f3 else none := by
  funext m
  show (if m = 1 then some _ else Live.S4.files m) = _
  rw [Live.files4]
  simp only
  split <;> rfl
theorem Live.files6 : Live.S6.files = fun m => if m = 1 then some Live.f4 else none := by
  funext m
  show (if m = 1 then some _ else Live.S5.files m) = _
  rw [Live.files5]
  simp only
  split <;> rfl
theorem Live.fine1 : Fine Live.S1 := Live.only1 _ _ Live.files1 (by decide) (by decide) (by decide) (by decide) (by decide) (by decide)
theorem Live.fine2 : Fine Live.S2 := Live.only1 _ _ Live.files2 (by decide) (by decide) (by decide) (by decide) (by decide) (by decide)
theorem Live.fine3 : Fine Live.S3 := Live.only1 _ _ Live.files3 (by decide) (by decide) (by decide) (by decide) (by decide) (by decide)
theorem Live.fine4 : Fine Live.S4 := Live.only1 _ _ Live.files4 (by decide) (by decide) (by decide) (by decide) (by decide) (by decide)
theorem Live.fine5 : Fine Live.S5 := Live.only1 _ _ Live.files5 (by decide) (by decide) (by decide) (by decide) (by decide) (by decide)
theorem Live.fine6 : Fine Live.S6 := Live.only1 _ _ Live.files6 (by decide) (by decide) (by decide) (by decide) (by decide) (by decide)
theorem Live.names3 : ∀ x ∈ Live.S3.names, (Live.S3.files (x.2 : Int)).isSome := by decide

/-! ## behind the crash -/
def Live.l6 : List (ByteArray × Nat) := followed Live.S6.safe (Live.S6.changes.take (crashK Live.S6 0))
theorem Live.l6_is : Live.l6 = [(Live.nm, 1)] := by decide
theorem Live.hN6 : ∀ x ∈ followed Live.S6.safe (Live.S6.changes.take (crashK Live.S6 0)), (Live.S6.files (x.2 : Int)).isSome := by
  intro x hx
  have hx' : x ∈ Live.l6 := hx
  rw [Live.l6_is] at hx'
  simp only [List.mem_singleton] at hx'
  subst hx'
  decide
theorem Live.hNl6 : (followed Live.S6.safe (Live.S6.changes.take (crashK Live.S6 0))).length ≤ 100000 := by
  show Live.l6.length ≤ 100000
  rw [Live.l6_is]
  decide
theorem Live.good4 : Live.f4.Good := by
  refine ⟨by decide, by decide, fun k hk => ?_⟩
  have hk' : k < 2 := hk
  rcases k with _ | _ | k
  · simp [Live.f4]
  · simp [Live.f4, doW]
  · omega
theorem Live.hG6 : ∀ n f, Live.S6.files n = some f → f.Good := by
  intro n f h
  rw [Live.files6] at h
  simp only at h
  split at h
  · injection h with h
    subst h
    exact Live.good4
  · cases h
theorem Live.ks {ks : List Int} (h1 : ks.Nodup) (h2 : ∀ n, n ∈ ks ↔ ∃ x ∈ followed Live.S6.safe (Live.S6.changes.take (crashK Live.S6 0)), (x.2 : Int) = n) : ks = [1] := by
  have h3 : ∀ n, n ∈ ks ↔ n = 1 := fun n => by
    rw [h2]
    show (∃ x ∈ Live.l6, (x.2 : Int) = n) ↔ _
    rw [Live.l6_is]
    simp
    omega
  match ks, h1, h3 with
  | [], _, h => exact absurd ((h 1).2 rfl) (by simp)
  | [a], _, h => rw [(h a).1 (by simp)]
  | a :: b :: t, hn, h =>
    have ha := (h a).1 (by simp)
    have hb := (h b).1 (by simp)
    rw [ha, hb] at hn
    simp at hn
def Live.f5 : Fl := ⟨false, [97, 98, 99, 100], [97, 98, 99, 100], []⟩
def Live.S7 : St := { (Live.S6.fallen 0).torn ([((1 : Int), (0 : Int), (1 : Int))].foldl tornM []) [1] with dead := false, armed := 0 }
theorem Live.files7 : Live.S7.files = fun m => if m = 1 then some Live.f5 else none := by
  funext m
  show (if m ∈ [1] then (if ∃ x ∈ Live.l6, (x.2 : Int) = m then Live.S6.files m else none).map (tornFl ([((1 : Int), (0 : Int), (1 : Int))].foldl tornM []) m) else if ∃ x ∈ Live.l6, (x.2 : Int) = m then Live.S6.files m else none) = _
  rw [Live.l6_is, Live.files6]
  by_cases h : m = 1
  · subst h
    rfl
  · have h' : ¬ (1 : Int) = m := fun e => h e.symm
    simp [h, h']
theorem Live.h7 : Live.S7.file 1 = some Live.f5 ∧ Live.S7.dead = false := by
  refine ⟨?_, rfl⟩
  unfold St.file
  rw [Live.files7]
  rfl
theorem Live.fine7 : Fine Live.S7 := Live.only1 _ _ Live.files7 (by decide) (by decide) (by decide) (by decide) (by decide) (by decide)
def Live.S8 : St := { Live.S7 with armed := 1 }
theorem Live.h8 : Live.S8.file 1 = some Live.f5 ∧ Live.S8.dead = false := Live.h7
theorem Live.fine8 : Fine Live.S8 := Live.only1 _ _ Live.files7 (by decide) (by decide) (by decide) (by decide) (by decide) (by decide)
def Live.S9 : St := Live.S8.wrote 1 Live.f5 ⟨false, 4, [120]⟩
theorem Live.dead9 : Live.S9.dead = true := by decide
theorem Live.fit8 : (1 : Nat) = 0 ∨ Live.S8.used + (1 : Nat) ≤ Live.S8.cap := by decide
theorem Live.badA : nameErr ⟨#[65]⟩ = 20 := by decide

end Go.Proofs.Ytccapgcpdehicaa

namespace Go.Proofs.Ytccapgcpdehicaa
open Go.RowKit

/-- The file system S lies at g, in blocks that were made since w; nothing of w has turned. -/
def Lv (w : World) (g : Nat) (S : St) (wx : World) : Prop := ∃ L, FsAt wx L g S ∧ w.grownBy wx none ∧ ∀ i, i < w.heap.size → L i = 0

theorem Lv.moved {w : World} {g : Nat} {S' : St} {wx wy : World} {L L' : Nat → Nat} (hg : w.grownBy wx none) (h0 : ∀ i, i < w.heap.size → L i = 0) (h : FsAt wy L' g S') (hm : Moved L wx L' wy) : Lv w g S' wy := by
  have hs := hg.size
  refine ⟨L', h, ⟨hm.turned.os.trans hg.os, hm.turned.tape.trans hg.tape, hm.turned.output.trans hg.output, Nat.le_trans hs hm.turned.size, fun i hi hn => ?_⟩, fun i hi => (hm.same i (by omega)).trans (h0 i hi)⟩
  exact (hm.turned.block i (by omega) (by rw [h0 i hi]; omega)).trans (hg.block i hi hn)
theorem Lv.post {w : World} {g : Nat} {S' : St} {wx : World} {L : Nat → Nat} {f : FuncId} {args : Array Value} {v : Value} (hg : w.grownBy wx none) (h0 : ∀ i, i < w.heap.size → L i = 0) (h : Calls Try.prog f args wx (FsPost L g S' v wx)) :
    Calls Try.prog f args wx fun e w' => e = .returned v ∧ Lv w g S' w' :=
  h.mono fun _ _ ⟨he, _, h1, h2⟩ => ⟨he, Lv.moved hg h0 h1 h2⟩
theorem Lv.keep {w : World} {g : Nat} {S : St} {wx wy : World} (h : Lv w g S wx) (hg : wx.grownBy wy none) : Lv w g S wy := by
  obtain ⟨L, h1, h2, h3⟩ := h
  exact ⟨L, h1.keep (Turned.of_gb (M := fun _ => False) hg (by simp)) (fun _ _ h => h), gb_trans h2 hg (.inl rfl), h3⟩
theorem Lv.alloc {w : World} {g : Nat} {S : St} {wx : World} (h : Lv w g S wx) (o : Obj) : Lv w g S (wx.alloc o) := h.keep (gb_alloc (gb_refl wx none) o)
theorem Lv.drewN {w : World} {g : Nat} {S : St} {wx : World} (h : Lv w g S wx) (n : Nat) : Lv w g S (wx.drewN n) := h.keep (gb_drewN (gb_refl wx none) n)
theorem Lv.drew {w : World} {g : Nat} {S : St} {wx : World} (h : Lv w g S wx) : Lv w g S wx.drew := h.drewN 1
theorem Lv.grown {w : World} {g : Nat} {S : St} {wx : World} (h : Lv w g S wx) : w.grownBy wx none := by
  obtain ⟨_, _, h2, _⟩ := h
  exact h2

theorem Lv.new (c : Int) (w : World) (h0 : 0 ≤ c) (h1 : c ≤ 67108864) :
    Calls Try.prog 9 #[.int .i64 c] w fun e w' => ∃ g, e = .returned (.tuple #[.pointer (some ⟨g, 0, none⟩), .int .i64 0]) ∧ Lv w g (St.new c) w' :=
  (new_ok c w h0 h1).mono fun _ _ ⟨g, L, he, h2, h3, h4⟩ => ⟨g, he, L, h2, h3, fun i hi => Classical.byContradiction fun hc => by have := h4 i hc; omega⟩
theorem Lv.create {w : World} {g : Nat} {S : St} {wx : World} (h : Lv w g S wx) (s : ByteArray) (he : createErr S s = 0) (hF : Fine S) :
    Calls Try.prog 11 #[.pointer (some ⟨g, 0, none⟩), .string s] wx fun e w' => e = .returned (.tuple #[.int .i64 (S.last + 1), .int .i64 0]) ∧ Lv w g (S.created s) w' := by
  obtain ⟨L, h1, h2, h3⟩ := h
  exact Lv.post h2 h3 (create_ok L g S s wx h1 he hF)
theorem Lv.append {w : World} {g : Nat} {S : St} {wx : World} (h : Lv w g S wx) (hF : Fine S) {n : Int} {f : Fl} (hn : S.file n = some f ∧ S.dead = false) (p : List UInt8) (A : Option Addr) (m c : Nat) (hr : Rd wx wx.heap.size A (u8s p)) (hm : m = p.length) (hp : p.length ≤ 400000000) (hfit : m = 0 ∨ S.used + m ≤ S.cap) :
    Calls Try.prog 12 #[.pointer (some ⟨g, 0, none⟩), .int .i64 n, .slice A m c] wx fun e w' => e = .returned (.int .i64 0) ∧ Lv w g (S.wrote n f ⟨false, f.bytes.length, p⟩) w' := by
  obtain ⟨L, h1, h2, h3⟩ := h
  exact Lv.post h2 h3 (append_ok L g S n f A m c _ p wx h1 hF hn.2 hn.1 hr (Nat.le_refl _) hm hp hfit)
/-- A slice that is made for it. -/
theorem Rd.laid (w : World) (cs : Array Value) (t : TypeId) (fr : Nat × Nat) (xs : List Value) (h : xs = cs.toList) : Rd (w.alloc (.cells cs t fr)) (w.heap.size + 1) (some ⟨w.heap.size, 0, none⟩) xs := fun _ =>
  ⟨_, rfl, by simp, fun j u hu => by
    subst h
    have e : (⟨w.heap.size, 0, none⟩ : Addr).add j = ⟨w.heap.size, j, none⟩ := by unfold Addr.add; split <;> simp_all
    rw [e, cell_of_row _ w.heap.size j cs t fr (heap_alloc_new w _)]
    simpa using hu⟩
theorem Lv.append_new {w : World} {g : Nat} {S : St} {wx : World} (h : Lv w g S wx) (hF : Fine S) {n : Int} {f : Fl} (hn : S.file n = some f ∧ S.dead = false) (p : List UInt8) (cs : Array Value) (fr : Nat × Nat) (m c : Nat) (hcs : u8s p = cs.toList) (hm : m = p.length) (hp : p.length ≤ 400000000) (hfit : m = 0 ∨ S.used + m ≤ S.cap) :
    Calls Try.prog 12 #[.pointer (some ⟨g, 0, none⟩), .int .i64 n, .slice (some ⟨wx.heap.size, 0, none⟩) m c] (wx.alloc (.cells cs 5 fr)) fun e w' => e = .returned (.int .i64 0) ∧ Lv w g (S.wrote n f ⟨false, f.bytes.length, p⟩) w' :=
  (h.alloc _).append hF hn p _ m c ((Rd.laid wx cs 5 fr _ hcs).more (by simp)) hm hp hfit
theorem Lv.append_full {w : World} {g : Nat} {S : St} {wx : World} (h : Lv w g S wx) (hF : Fine S) {n : Int} {f : Fl} (hn : S.file n = some f ∧ S.dead = false) (A : Option Addr) (m c : Nat) (hm : m ≤ 400000000) (h0 : 0 < m) (hc : S.cap < S.used + m) :
    Calls Try.prog 12 #[.pointer (some ⟨g, 0, none⟩), .int .i64 n, .slice A m c] wx fun e w' => e = .returned (.int .i64 5) ∧ Lv w g S w' := by
  obtain ⟨L, h1, h2, h3⟩ := h
  exact (Go.Proofs.Ytccapgcpdehicaa.append_full L g S n f A m c wx h1 hF hn.2 hn.1 hm h0 hc).mono fun _ _ ⟨he, j, hj⟩ => ⟨he, by subst hj; exact Lv.drewN ⟨L, h1, h2, h3⟩ j⟩
theorem Lv.append_dead {w : World} {g : Nat} {S : St} {wx : World} (h : Lv w g S wx) (hd : S.dead = true) (n : Int) (A : Option Addr) (m c : Nat) :
    Calls Try.prog 12 #[.pointer (some ⟨g, 0, none⟩), .int .i64 n, .slice A m c] wx fun e w' => e = .returned (.int .i64 21) ∧ Lv w g S w' := by
  obtain ⟨L, h1, h2, h3⟩ := h
  exact (Go.Proofs.Ytccapgcpdehicaa.append_dead L g S n A m c wx h1 hd).mono fun _ _ ⟨he, hw⟩ => ⟨he, by subst hw; exact ⟨L, h1, h2, h3⟩⟩
theorem Lv.sync {w : World} {g : Nat} {S : St} {wx : World} (h : Lv w g S wx) (hF : Fine S) {n : Int} {f : Fl} (hn : S.file n = some f ∧ S.dead = false) :
    Calls Try.prog 13 #[.pointer (some ⟨g, 0, none⟩), .int .i64 n] wx fun e w' => e = .returned (.int .i64 0) ∧ Lv w g (S.synced n f) w' := by
  obtain ⟨L, h1, h2, h3⟩ := h
  exact Lv.post h2 h3 (sync_ok L g S n f wx h1 hF hn.2 hn.1)
theorem Lv.syncdir {w : World} {g : Nat} {S : St} {wx : World} (h : Lv w g S wx) (hF : Fine S) (hd : S.dead = false) (hN : ∀ x ∈ S.names, (S.files (x.2 : Int)).isSome) :
    Calls Try.prog 14 #[.pointer (some ⟨g, 0, none⟩)] wx fun e w' => e = .returned (.int .i64 0) ∧ Lv w g (S.settled S.names).count w' := by
  obtain ⟨L, h1, h2, h3⟩ := h
  exact Lv.post h2 h3 (syncdir_ok L g S wx h1 hF hd hN)
theorem Lv.waiting {w : World} {g : Nat} {S : St} {wx : World} (h : Lv w g S wx) {n : Int} {f : Fl} (hn : S.file n = some f) :
    Calls Try.prog 15 #[.pointer (some ⟨g, 0, none⟩), .int .i64 n] wx fun e w' => e = .returned (.int .i64 (f.waits.length : Int)) ∧ wx = w' := by
  obtain ⟨L, h1, h2, h3⟩ := h
  exact waiting_some L g S n f wx h1 hn
theorem Lv.read {w : World} {g : Nat} {S : St} {wx : World} (h : Lv w g S wx) (hF : Fine S) {n : Int} {f : Fl} (hn : S.file n = some f ∧ S.dead = false) (k : Nat) (x : Int) (hk : k ≤ f.bytes.length) (hx : 0 ≤ x) :
    Calls Try.prog 17 #[.pointer (some ⟨g, 0, none⟩), .int .i64 n, .int .i64 (k : Int), .int .i64 x] wx fun e w' => ∃ A c m, e = .returned (.tuple #[.slice A m c, .int .i64 0]) ∧
      m = min x.toNat (f.bytes.length - k) ∧ Lv w g S w' ∧ Rd w' w'.heap.size A (u8s ((f.bytes.drop k).take x.toNat)) ∧ m ≤ c ∧ c ≤ maxLen := by
  obtain ⟨L, h1, h2, h3⟩ := h
  refine (read_ok L g S n f k x wx h1 hF hn.2 hn.1 hk hx).mono ?_
  rintro e w' ⟨A, c, m, rfl, hm, hb, hg⟩
  obtain ⟨A', c', e, q1, q2, q3⟩ := hb.rd
  injection e with e1 e2 e3
  subst e1; subst e3
  exact ⟨A, c, m, rfl, hm, Lv.keep ⟨L, h1, h2, h3⟩ hg, q3, by omega, q2⟩
theorem arm_in (L : Nat → Nat) (g : Nat) (S : St) (n : Int) (wx : World) (h : FsAt wx L g S) (hn : 0 < n) :
    Calls Try.prog 18 #[.pointer (some ⟨g, 0, none⟩), .int .i64 n] wx (FsPost L g { S with armed := n } (.tuple #[]) wx) := by
  obtain ⟨mf, mn, ms, vch, lf, h1⟩ := h
  refine (arm_any g _ n wx h1.blk).mono ?_
  rintro e w' ⟨rfl, hv, hg⟩
  refine ⟨rfl, ?_⟩
  rw [arm_pos hn] at hv
  have hsz := hg.size
  have hne : ∀ i, i ≠ g → (some i : Option Nat) ≠ some g := fun i hi e => hi (by injection e)
  exact h1.rebuild (S' := { S with armed := n }) (fun _ => False) (L' := L) (mf' := mf) (mn' := mn) (ms' := ms) (vch' := vch) (lf' := lf)
      ((Turned.of_gb (M := fun i => i = g) hg (fun i e => by injection e with e; exact e.symm)).mono fun i _ hi => .inl (hi ▸ h1.lg)) (fun _ _ h => h.elim) hv (fun _ _ => rfl) (fun i hi => Nat.lt_of_lt_of_le (h1.lt i hi) hsz) h1.lmf h1.lmn h1.lms h1.ns h1.fn h1.fs
      (h1.files.grown hg (hne _ (map_ne h1.files h1.blk))) (h1.names.grown hg (hne _ (map_ne h1.names h1.blk))) (h1.safe.grown hg (hne _ (map_ne h1.safe h1.blk)))
      ⟨own_keep h1.chs.1 fun i hi hl => hg.block i hl (fun e => own_ne h1.chs.1 h1.blk (by decide) (by injection e with e; rw [hi, e])), h1.chs.2⟩ (fun n fb hn => .inl ⟨hn, rfl, fun _ _ h => h.elim⟩) (fun n hn => h1.no n hn)
theorem Lv.arm {w : World} {g : Nat} {S : St} {wx : World} (h : Lv w g S wx) (n : Int) (hn : 0 < n) :
    Calls Try.prog 18 #[.pointer (some ⟨g, 0, none⟩), .int .i64 n] wx fun e w' => e = .returned (.tuple #[]) ∧ Lv w g { S with armed := n } w' := by
  obtain ⟨L, h1, h2, h3⟩ := h
  exact Lv.post h2 h3 (arm_in L g S n wx h1 hn)
theorem Lv.dead {w : World} {g : Nat} {S : St} {wx : World} (h : Lv w g S wx) :
    Calls Try.prog 19 #[.pointer (some ⟨g, 0, none⟩)] wx fun e w' => e = .returned (.bool S.dead) ∧ wx = w' := by
  obtain ⟨L, ⟨mf, mn, ms, vch, lf, h1⟩, h2, h3⟩ := h
  exact dead_any g _ wx h1.blk
/-- The list of a wreck lies in blocks that the file system does not own. -/
theorem Lv.crash {w : World} {g : Nat} {S : St} {wx : World} (h : Lv w g S wx) (hF : Fine S) (dir : Int) (A : Option Addr) (c : Nat) (tl : List Tn) {wy : World} (hy : wx.grownBy wy none) (hr : Rd wy wy.heap.size A (tcells tl)) (hA : ∀ a, A = some a → a.block < w.heap.size ∨ wx.heap.size ≤ a.block) (htl : tl.length ≤ c ∧ c ≤ maxLen)
    (hN : ∀ x ∈ followed S.safe (S.changes.take (crashK S dir)), (S.files (x.2 : Int)).isSome) (hNl : (followed S.safe (S.changes.take (crashK S dir))).length ≤ 100000) (hG : ∀ n f, S.files n = some f → f.Good) :
    Calls Try.prog 16 #[.pointer (some ⟨g, 0, none⟩), .agg #[.int .i64 dir, .slice A tl.length c]] wy fun e w' => e = .returned (.tuple #[]) ∧ ∃ ks : List Int,
      ks.Nodup ∧ (∀ n, n ∈ ks ↔ ∃ x ∈ followed S.safe (S.changes.take (crashK S dir)), (x.2 : Int) = n) ∧ Lv w g { (S.fallen dir).torn (tl.foldl tornM []) ks with dead := false, armed := 0 } w' := by
  obtain ⟨L, h1, h2, h3⟩ := h
  have hlt : ∀ i, L i ≠ 0 → i < wx.heap.size := by
    obtain ⟨_, _, _, _, _, h⟩ := h1
    exact h.lt
  have h1y := h1.keep (Turned.of_gb (M := fun _ => False) hy (by simp)) (fun _ _ h => h)
  refine (crash_any L g S dir A c tl wy h1y hF (TnAt.of_rd hr fun a ha => ?_) htl hN hNl hG).mono ?_
  · rcases hA a ha with hb | hb
    · exact h3 _ hb
    · exact Classical.byContradiction fun hc => by have := hlt _ hc; omega
  · rintro e w' ⟨rfl, ks, L', k1, k2, k3, k4⟩
    exact ⟨rfl, ks, k1, k2, Lv.moved (gb_trans h2 hy (.inl rfl)) h3 k3 k4⟩

/-! ## blocks Z beside the file system stay -/
def Lz (B : World) (Z : Nat → Prop) (g : Nat) (S : St) (wx : World) : Prop := ∃ L, FsAt wx L g S ∧ Turned (fun i => ¬ Z i) B wx ∧ ∀ i, i < B.heap.size → Z i → L i = 0
theorem Lz.moved {B : World} {Z : Nat → Prop} {g : Nat} {S' : St} {wx wy : World} {L L' : Nat → Nat} (hg : Turned (fun i => ¬ Z i) B wx) (h0 : ∀ i, i < B.heap.size → Z i → L i = 0) (h : FsAt wy L' g S') (hm : Moved L wx L' wy) : Lz B Z g S' wy := by
  have hs := hg.size
  refine ⟨L', h, hg.trans hm.turned fun i hi hh hz => ?_, fun i hi hz => (hm.same i (by omega)).trans (h0 i hi hz)⟩
  rw [h0 i hi hz] at hh
  omega
theorem Lz.post {B : World} {Z : Nat → Prop} {g : Nat} {S' : St} {wx : World} {L : Nat → Nat} {f : FuncId} {args : Array Value} {v : Value} (hg : Turned (fun i => ¬ Z i) B wx) (h0 : ∀ i, i < B.heap.size → Z i → L i = 0) (h : Calls Try.prog f args wx (FsPost L g S' v wx)) :
    Calls Try.prog f args wx fun e w' => e = .returned v ∧ Lz B Z g S' w' :=
  h.mono fun _ _ ⟨he, _, h1, h2⟩ => ⟨he, Lz.moved hg h0 h1 h2⟩
theorem Lz.keep {B : World} {Z : Nat → Prop} {g : Nat} {S : St} {wx wy : World} (h : Lz B Z g S wx) (hg : wx.grownBy wy none) : Lz B Z g S wy := by
  obtain ⟨L, h1, h2, h3⟩ := h
  exact ⟨L, h1.keep (Turned.of_gb (M := fun _ => False) hg (by simp)) (fun _ _ h => h), h2.trans (Turned.of_gb (M := fun _ => False) hg (by simp)) (fun _ _ h => h.elim), h3⟩
theorem Lz.alloc {B : World} {Z : Nat → Prop} {g : Nat} {S : St} {wx : World} (h : Lz B Z g S wx) (o : Obj) : Lz B Z g S (wx.alloc o) := h.keep (gb_alloc (gb_refl wx none) o)
theorem Lz.turned {B : World} {Z : Nat → Prop} {g : Nat} {S : St} {wx : World} (h : Lz B Z g S wx) : Turned (fun i => ¬ Z i) B wx := by
  obtain ⟨_, _, h2, _⟩ := h
  exact h2
theorem Lz.append_new {B : World} {Z : Nat → Prop} {g : Nat} {S : St} {wx : World} (h : Lz B Z g S wx) (hF : Fine S) {n : Int} {f : Fl} (hn : S.file n = some f ∧ S.dead = false) (p : List UInt8) (cs : Array Value) (fr : Nat × Nat) (m c : Nat) (hcs : u8s p = cs.toList) (hm : m = p.length) (hp : p.length ≤ 400000000) (hfit : m = 0 ∨ S.used + m ≤ S.cap) :
    Calls Try.prog 12 #[.pointer (some ⟨g, 0, none⟩), .int .i64 n, .slice (some ⟨wx.heap.size, 0, none⟩) m c] (wx.alloc (.cells cs 5 fr)) fun e w' => e = .returned (.int .i64 0) ∧ Lz B Z g (S.wrote n f ⟨false, f.bytes.length, p⟩) w' := by
  obtain ⟨L, h1, h2, h3⟩ := h.alloc (.cells cs 5 fr)
  exact Lz.post h2 h3 (append_ok L g S n f _ m c _ p _ h1 hF hn.2 hn.1 ((Rd.laid wx cs 5 fr _ hcs).more (by simp)) (Nat.le_refl _) hm hp hfit)
theorem Lz.append_dead {B : World} {Z : Nat → Prop} {g : Nat} {S : St} {wx : World} (h : Lz B Z g S wx) (hd : S.dead = true) (n : Int) (A : Option Addr) (m c : Nat) :
    Calls Try.prog 12 #[.pointer (some ⟨g, 0, none⟩), .int .i64 n, .slice A m c] wx fun e w' => e = .returned (.int .i64 21) ∧ Lz B Z g S w' := by
  obtain ⟨L, h1, h2, h3⟩ := h
  exact (Go.Proofs.Ytccapgcpdehicaa.append_dead L g S n A m c wx h1 hd).mono fun _ _ ⟨he, hw⟩ => ⟨he, by subst hw; exact ⟨L, h1, h2, h3⟩⟩
theorem Lz.dead {B : World} {Z : Nat → Prop} {g : Nat} {S : St} {wx : World} (h : Lz B Z g S wx) :
    Calls Try.prog 19 #[.pointer (some ⟨g, 0, none⟩)] wx fun e w' => e = .returned (.bool S.dead) ∧ wx = w' := by
  obtain ⟨L, ⟨mf, mn, ms, vch, lf, h1⟩, h2, h3⟩ := h
  exact dead_any g _ wx h1.blk
/-- Read, and Arm behind it: what was read stays. -/
theorem Lv.read_arm {w : World} {g : Nat} {S : St} {wx : World} (h : Lv w g S wx) (hF : Fine S) {n : Int} {f : Fl} (hn : S.file n = some f ∧ S.dead = false) (k : Nat) (x : Int) (hk : k ≤ f.bytes.length) (hx : 0 ≤ x) (a : Int) (ha : 0 < a) (hpos : 0 < ((f.bytes.drop k).take x.toNat).length) :
    Calls Try.prog 17 #[.pointer (some ⟨g, 0, none⟩), .int .i64 n, .int .i64 (k : Int), .int .i64 x] wx fun e w' => ∃ b c m, e = .returned (.tuple #[.slice (some ⟨b, 0, none⟩) m c, .int .i64 0]) ∧ m = min x.toNat (f.bytes.length - k) ∧ m ≤ c ∧ c ≤ maxLen ∧ b < w'.heap.size ∧ w.grownBy w' none ∧
      Rd w' w'.heap.size (some ⟨b, 0, none⟩) (u8s ((f.bytes.drop k).take x.toNat)) ∧
      Calls Try.prog 18 #[.pointer (some ⟨g, 0, none⟩), .int .i64 a] w' fun e w2 => e = .returned (.tuple #[]) ∧ Lz w' (fun i => i < w.heap.size ∨ i = b) g { S with armed := a } w2 := by
  obtain ⟨L, h1, h2, h3⟩ := h
  have hlt : ∀ i, L i ≠ 0 → i < wx.heap.size := by
    obtain ⟨_, _, _, _, _, h⟩ := h1
    exact h.lt
  refine (read_ok L g S n f k x wx h1 hF hn.2 hn.1 hk hx).mono ?_
  rintro e w' ⟨A, c, m, rfl, hm, hb, hg⟩
  obtain ⟨A', c', e, q1, q2, q3⟩ := hb.rd
  injection e with e1 e2 e3
  subst e1; subst e3
  obtain ⟨b, rfl⟩ := hb.head hpos
  have ho := hb.own hpos
  have h1' := h1.keep (Turned.of_gb (M := fun _ => False) hg (by simp)) (fun _ _ h => h)
  refine ⟨b, c, m, rfl, hm, by omega, q2, ho.2, gb_trans h2 hg (.inl rfl), q3, (arm_in L g S a w' h1' ha).mono ?_⟩
  rintro e w2 ⟨rfl, L2, k1, k2⟩
  refine ⟨rfl, Lz.moved (Turned.refl _ w') (fun i hi hz => ?_) k1 k2⟩
  rcases hz with hz | rfl
  · exact h3 i hz
  · exact Classical.byContradiction fun hc => by have := hlt _ hc; omega

end Go.Proofs.Ytccapgcpdehicaa

namespace Go.Proofs.Ytccapgcpdehicaa
open Go.RowKit

/-- What do leaves, where file fb loses its name. -/
def DoLose (g fb len : Nat) (v : FsV) (fv : FlV) (l : List (ByteArray × Nat)) (ch : List Ch) (c : Ch) (w : World) (e : Ending) (w' : World) : Prop :=
  e = .returned (.tuple #[]) ∧ ∃ vch, FsB w' g ({ v with used := v.used - len, vch := vch } : FsV).count ∧ FlB w' fb { fv with gone := true } ∧ MapAt encN w' v.mn (followL l c).1 ∧
    w'.ownsRow 0 67 3 vch (ch ++ [c]).length (chcells (ch ++ [c])) ∧ (vch.ownBlock = v.vch.ownBlock ∨ ∃ i, vch.ownBlock = some i ∧ w.heap.size ≤ i) ∧ Turned (fun i => i = g ∨ i = fb ∨ i = v.mn ∨ v.vch.ownBlock = some i) w w'

theorem fl_fs {w : World} {g fb : Nat} {v : FsV} {fv : FlV} (h : FsB w g v) (hf : FlB w fb fv) : fb ≠ g := by
  rintro rfl
  have h1 : w.heap[fb]? = _ := h
  have h2 : w.heap[fb]? = _ := hf
  rw [h1] at h2
  injection h2 with h2
  injection h2 with _ h2
  exact absurd h2 (by decide)

set_option maxHeartbeats 8000000 in
set_option maxRecDepth 100000 in
theorem fsdo_lose (g fb n len c1 : Nat) (A1 : Option Addr) (v : FsV) (fv : FlV) (l : List (ByteArray × Nat)) (lf : List (Int × Nat)) (ch : List Ch) (c : Ch) (w : World) (h : FsB w g v) (hm : MapAt encN w v.mn l) (hf : MapAt encF w v.mf lf) (hc : w.ownsRow 0 67 3 v.vch ch.length (chcells ch))
    (hgone : (followL l c).2 = n) (hn0 : 0 < n) (hn : aget lf (n : Int) = some fb) (hfl : FlB w fb fv) (hvb : fv.vb = .slice A1 len c1) (hll : len ≤ 2000000000) (hu : -2000000000000000 ≤ v.used ∧ v.used ≤ 2000000000000000) (hmn : v.mf ≠ v.mn)
    (h0 : 0 ≤ v.ops ∧ v.ops ≤ 2000000000) (ha : v.armed ≤ 9223372036854775807) (hcl : ch.length ≤ 1000000) :
    Calls Try.prog 28 #[.pointer (some ⟨g, 0, none⟩), .agg #[.string c.src, .string c.dst, .int .i64 (c.file : Int)]] w (DoLose g fb len v fv l ch c w) := by
  obtain ⟨i1, hi1, hiz, his, hib⟩ := info_parts Try.infoC
  obtain ⟨h01, h02⟩ := h0
  obtain ⟨hu1, hu2⟩ := hu
  obtain ⟨wa, hwaE⟩ : ∃ wa, wa = w.alloc (.cells #[.string c.src, .string c.dst, .int .i64 (c.file : Int)] 67) := ⟨_, rfl⟩
  have hga : w.grownBy wa none := by rw [hwaE]; exact gb_alloc (gb_refl w none) _
  have hX := heap_alloc_new w (.cells #[.string c.src, .string c.dst, .int .i64 (c.file : Int)] 67)
  rw [← hwaE] at hX
  have hgl := h.lt
  have hml := hm.lt
  have hfbl := hfl.lt
  have hmg : v.mn ≠ g := map_ne hm h
  have hfg : v.mf ≠ g := map_ne hf h
  have hfbg : fb ≠ g := fl_fs h hfl
  have hfbm : v.mn ≠ fb := map_ne hm hfl
  have hfbf : v.mf ≠ fb := map_ne hf hfl
  have hrm : v.vch.ownBlock ≠ some v.mn := own_ne_map hc hm
  have hVa : FsB wa g v := h.keep (hga.block g hgl (by simp))
  have hma : MapAt encN wa.drew v.mn l := hm.keep (hga.block _ hml (by simp))
  have hca := own_keep hc (w' := wa) fun i hi hl => hga.block i hl (by simp)
  have hfla : FlB wa fb fv := hfl.keep (hga.block fb hfbl (by simp))
  have hfa : MapAt encF wa v.mf lf := hf.keep (hga.block _ hf.lt (by simp))
  have hFO := follow_any v.mn l c _ hma
  rw [hgone] at hFO
  have HFO := hide hFO
  have HWE := hide hwaE
  have HX := hide hX
  have HVA := hide hVa
  have HCA := hide hca
  have HFA := hide hfa
  have HLA := hide hfla
  have HI1 := hide hi1
  have HIZ := hide hiz
  have HIS := hide his
  have HIB := hide hib
  have HGA := hide hga
  have HCL := hide hc
  have HVB := hide hvb
  have HN := hide hn
  have q4 := hVa.c4
  have b0 : wa.cell? ⟨w.heap.size, 0, none⟩ = some (.string c.src) := by rw [blk_cell hX]; rfl
  have b1 : wa.cell? ⟨w.heap.size, 1, none⟩ = some (.string c.dst) := by rw [blk_cell hX]; rfl
  have b2 : wa.cell? ⟨w.heap.size, 2, none⟩ = some (.int .i64 (c.file : Int)) := by rw [blk_cell hX]; rfl
  have HGO := hide hgone
  have hz1 : ((n : Int) != 0) = true := by simp; omega
  have hz2 : ((n : Int) == 0) = false := by simp; omega
  have hws : IntKind.i64.wrap (v.used - (len : Int)) = v.used - (len : Int) := IntWalk.i64_in _ (by omega)
  clear hi1 hiz his hib hX hVa hma hca hfa hfla hFO hwaE h hm hc hf hfl hga hgone hvb hn
  go_enter Try.func28, Try.ntmps28
  go_wp2
  rw [← HWE.out]
  go_still_tail 5, (by kernel_rfl)
  go_wp2_with (go_at_call 36; refine HFO.out.mono ?_; rintro e w2 ⟨rfl, hm2, hg2⟩; have HM2 := hide hm2; have HG2 : Hid (wa.grownBy w2 (some v.mn)) := hide ⟨hg2.os, hg2.tape, hg2.output, hg2.size, hg2.block⟩; clear hm2 hg2)
  clear q4 b0 b1 b2
  have HV2 : Hid (FsB w2 g v) := hide (HVA.out.keep (HG2.out.block g HVA.out.lt (fun e => hmg (by injection e with e; exact e.symm))))
  have HC2 : Hid (w2.ownsRow 0 67 3 v.vch ch.length (chcells ch)) := hide (own_keep HCA.out fun i hi hl => HG2.out.block i hl (fun e => hrm (by injection e with e; rw [hi, e])))
  have HX2 : Hid (w2.heap[w.heap.size]? = some (.cells #[.string c.src, .string c.dst, .int .i64 (c.file : Int)] 67 (0, 0))) := hide ((HG2.out.block _ (blk_lt HX.out) (fun e => by injection e with e; omega)).trans HX.out)
  have HL2 : Hid (FlB w2 fb fv) := hide (HLA.out.keep (HG2.out.block fb HLA.out.lt (fun e => hfbm (by injection e with e; exact e.symm))))
  have HF2 : Hid (MapAt encF w2 v.mf lf) := hide (HFA.out.keep (HG2.out.block _ HFA.out.lt (fun e => hmn (by injection e))))
  have q1 := HV2.out.c1
  have q3 := HV2.out.c3
  have f1 := HV2.out.fr 1
  have t1 := HL2.out.c1
  rw [HVB.out] at t1
  have hlk : (Instr.lookup 60 (.map (some v.mf)) (.int .i64 (n : Int)) false).run Try.prog w2.drew = .ok (.pointer (some ⟨fb, 0, none⟩)) w2.drew := (HF2.out.keep (w' := w2.drew) rfl).look_yes (P := Try.prog) (E := encF) Try.underlying3 Try.underlying60 (zero_file w2.drew) HN.out
  have HV3 : Hid (FsB (w2.setCell ⟨g, 1, none⟩ (.int .i64 (v.used - (len : Int)))) g ({ v with used := v.used - len } : FsV)) := hide (HV2.out.set1 _)
  have HL3 : Hid (FlB (w2.setCell ⟨g, 1, none⟩ (.int .i64 (v.used - (len : Int)))) fb fv) := hide (HL2.out.keep ((gb_set (gb_refl w2 (some g)) 1 _).block fb HL2.out.lt (fun e => hfbg (by injection e))))
  have HF3 : Hid (MapAt encF (w2.setCell ⟨g, 1, none⟩ (.int .i64 (v.used - (len : Int)))) v.mf lf) := hide (HF2.out.keep ((gb_set (gb_refl w2 (some g)) 1 _).block _ HF2.out.lt (fun e => hfg (by injection e))))
  have q3' := HV3.out.c3
  have k0 := HL3.out.c0
  have kf0 := HL3.out.fr 0
  have hlk3 : (Instr.lookup 60 (.map (some v.mf)) (.int .i64 (n : Int)) false).run Try.prog (w2.setCell ⟨g, 1, none⟩ (.int .i64 (v.used - (len : Int)))).drew = .ok (.pointer (some ⟨fb, 0, none⟩)) (w2.setCell ⟨g, 1, none⟩ (.int .i64 (v.used - (len : Int)))).drew :=
    (HF3.out.keep (w' := (w2.setCell ⟨g, 1, none⟩ (.int .i64 (v.used - (len : Int)))).drew) rfl).look_yes (P := Try.prog) (E := encF) Try.underlying3 Try.underlying60 (zero_file _) HN.out
  go_still_tail 17, (by kernel_rfl)
  go_wp2_with fail
  clear q1 q3 f1 t1 hlk q3' k0 kf0 hlk3
  have HV4 : Hid (FsB ((w2.setCell ⟨g, 1, none⟩ (.int .i64 (v.used - (len : Int)))).setCell ⟨fb, 0, none⟩ (.bool true)).drew g ({ v with used := v.used - len } : FsV)) := hide (HV3.out.keep ((gb_set (gb_refl _ (some fb)) 0 _).block g HV3.out.lt (fun e => hfbg (by injection e with e; exact e.symm))))
  have HL4 : Hid (FlB ((w2.setCell ⟨g, 1, none⟩ (.int .i64 (v.used - (len : Int)))).setCell ⟨fb, 0, none⟩ (.bool true)).drew fb { fv with gone := true }) := hide (HL3.out.set0 true)
  have HGG : Hid (Turned (fun i => i = g ∨ i = fb) w2 ((w2.setCell ⟨g, 1, none⟩ (.int .i64 (v.used - (len : Int)))).setCell ⟨fb, 0, none⟩ (.bool true)).drew) := hide (((Turned.of_gb (M := fun i => i = g ∨ i = fb) (gb_set (gb_refl w2 (some g)) 1 (.int .i64 (v.used - (len : Int)))) (fun i e => by injection e with e; exact .inl e.symm)).trans (Turned.of_gb (M := fun i => i = fb) (gb_set (gb_refl _ (some fb)) 0 (.bool true)) (fun i e => by injection e with e; exact e.symm)) (fun i _ h => .inr h)).drewN 1)
  generalize ((w2.setCell ⟨g, 1, none⟩ (.int .i64 (v.used - (len : Int)))).setCell ⟨fb, 0, none⟩ (.bool true)).drew = w4 at *
  clear HV3 HL3 HF3
  have hsz4 := HGG.out.size
  have hcfb : v.vch.ownBlock ≠ some fb := fun e => own_ne HC2.out HL2.out (by decide) e
  have hcg : v.vch.ownBlock ≠ some g := fun e => own_ne HC2.out HV2.out (by decide) e
  have HC4 : Hid (w4.ownsRow 0 67 3 v.vch ch.length (chcells ch)) := hide (own_keep HC2.out fun i hi hl => HGG.out.block i hl (fun e => by rcases e with e | e; exact hcg (by rw [hi, e]); exact hcfb (by rw [hi, e])))
  have HX4 : Hid (w4.heap[w.heap.size]? = some (.cells #[.string c.src, .string c.dst, .int .i64 (c.file : Int)] 67 (0, 0))) := hide ((HGG.out.block _ (blk_lt HX2.out) (fun e => by omega)).trans HX2.out)
  have HM4 : Hid (MapAt encN w4 v.mn (followL l c).1) := hide (HM2.out.keep (HGG.out.block _ HM2.out.lt (fun e => by rcases e with e | e; exact hmg e; exact hfbm e)))
  have HT4 : Hid (Turned (fun i => i = g ∨ i = fb ∨ i = v.mn) w w4) := hide (((Turned.of_gb (M := fun i => i = g ∨ i = fb ∨ i = v.mn) HGA.out (by simp)).trans (Turned.of_gb (M := fun i => i = v.mn) HG2.out (fun i e => by injection e with e; exact e.symm)) (fun i _ h => .inr (.inr h))).trans HGG.out (fun i _ h => by rcases h with h | h; exact .inl h; exact .inr (.inl h)))
  clear HGG HX2 HC2 HM2 HV2 HL2 HF2
  have q6 := HV4.out.c6
  have f6 := HV4.out.fr 6
  have b0 : w4.cell? ⟨w.heap.size, 0, none⟩ = some (.string c.src) := by rw [blk_cell HX4.out]; rfl
  have b1 : w4.cell? ⟨w.heap.size, 1, none⟩ = some (.string c.dst) := by rw [blk_cell HX4.out]; rfl
  have b2 : w4.cell? ⟨w.heap.size, 2, none⟩ = some (.int .i64 (c.file : Int)) := by rw [blk_cell HX4.out]; rfl
  have n0 := World.new_ne w4 _ b0
  have n6 := World.new_ne w4 _ q6
  have r6 : (w4.alloc (.cells #[.string c.src, .string c.dst, .int .i64 (c.file : Int)] 67)).cell? ⟨g, 6, none⟩ = some v.vch := (show FsB (w4.alloc (.cells #[.string c.src, .string c.dst, .int .i64 (c.file : Int)] 67)) g _ from HV4.out.keep (heap_alloc_old w4 _ HV4.out.lt)).c6
  have HLA4 : Hid ((w4.alloc (.cells #[.string c.src, .string c.dst, .int .i64 (c.file : Int)] 67)).ownsRow 0 67 3 v.vch ch.length (chcells ch)) := hide (HC4.out.alloc _)
  have HRN := hide (Rd.new w4 #[.string c.src, .string c.dst, .int .i64 (c.file : Int)] 67 [.string c.src, .string c.dst, .int .i64 (c.file : Int)] rfl)
  have HOC := hide (ch_cells c)
  have HM1 : Hid (ch.length + 1 ≤ maxLen) := hide (by unfold maxLen; omega)
  have HMB : Hid ((ch.length + 1) * 40 ≤ 140737488355328) := hide (by omega)
  have DEC1 : Hid (64 ≠ 67) := hide (by decide)
  have DEC2 : Hid (82 ≠ 67) := hide (by decide)
  clear hws hz1 hz2
  go_region_law
    ((refine step_append_row (by rfl) (.tmp 42) (.tmp 44) 62 (by rfl) 0 67 i1 (.agg #[.string ⟨#[]⟩, .string ⟨#[]⟩, .int .i64 0]) 3 40 Try.underlying62 HI1.out HIZ.out HIS.out HIB.out rfl (Nat.succ_pos 2) v.vch ch.length (chcells ch) (by rfl) HLA4.out (w4.heap.size + 1) (some ⟨w4.heap.size, 0, none⟩) 1 1 [.string c.src, .string c.dst, .int .i64 (c.file : Int)] (by rfl) rfl HRN.out HOC.out HM1.out HMB.out (Nat.zero_le _) ?_; intro v5 w5 ho5 hg5 hb5; obtain ⟨A5, c5, rfl⟩ := own_slice ho5; have HO5 := hide ho5; have hg6 : (w4.alloc (.cells #[.string c.src, .string c.dst, .int .i64 (c.file : Int)] 67)).grownBy w5 v.vch.ownBlock := ⟨hg5.os, hg5.tape, hg5.output, hg5.size, hg5.block⟩; have HG5 : Hid (w4.grownBy w5 v.vch.ownBlock) := hide (gb_trans (gb_alloc (gb_refl w4 v.vch.ownBlock) (.cells #[.string c.src, .string c.dst, .int .i64 (c.file : Int)] 67)) hg6 (.inl rfl)); clear hg6; have HBB5 := hide hb5; clear ho5 hg5 hb5; have HV5 : Hid (FsB w5 g ({ v with used := v.used - len } : FsV)) := hide (row_stay HC4.out HG5.out HV4.out DEC1.out); have t5 := HV5.out.c6; have t6 := HV5.out.fr 6))
  all_goals
    clear q6 f6 b0 b1 b2 n0 n6 r6 t5 t6
    have HV6 := hide (HV5.out.set6 (.slice A5 (ch.length + 1) c5))
    have HL5 : Hid (FlB w5 fb { fv with gone := true }) := hide (row_stay HC4.out HG5.out HL4.out DEC2.out)
    go_wp2_with (go_at_call 32; refine (count_any g _ _ HV6.out h01 h02 ha).mono ?_; rintro e w6 ⟨rfl, hv6, hg6⟩; have HV7 := hide hv6; have HG7 := hide hg6; clear hv6 hg6)
    go_end0
    have hg5 : w5.grownBy (w5.setCell ⟨g, 6, none⟩ (.slice A5 (ch.length + 1) c5)) (some g) := gb_set (gb_refl w5 (some g)) 6 _
    have hg56 : w5.grownBy w6 (some g) := gb_trans hg5 HG7.out (.inl rfl)
    have hsz : w.heap.size ≤ w4.heap.size := HT4.out.size
    refine ⟨rfl, _, HV7.out, ?_, ?_, ?_, ?_, ?_⟩
    · exact HL5.out.keep (hg56.block fb HL5.out.lt (fun e => hfbg (by injection e)))
    · exact (HM4.out.grown HG5.out (fun e => hrm e.symm)).grown hg56 (fun e => hmg (by injection e))
    · rw [List.length_append, chcells_append]
      exact own_other HO5.out hg56 HV5.out (by decide)
    · rcases HBB5.out with hb | hb
      · exact .inl hb
      · refine .inr ⟨_, hb, Nat.le_trans hsz ?_⟩
        show w4.heap.size ≤ (w4.alloc _).heap.size
        simp
    · exact ((HT4.out.mono (M' := fun i => i = g ∨ i = fb ∨ i = v.mn ∨ v.vch.ownBlock = some i) (fun i _ h => by rcases h with h | h | h; exact .inl h; exact .inr (.inl h); exact .inr (.inr (.inl h)))).trans (Turned.of_gb (M := fun i => v.vch.ownBlock = some i) HG5.out (fun i e => e)) (fun i _ h => .inr (.inr (.inr h)))).trans (Turned.of_gb (M := fun i => i = g) hg56 (fun i e => by injection e with e; exact e.symm)) (fun i _ h => .inl h)

end Go.Proofs.Ytccapgcpdehicaa
