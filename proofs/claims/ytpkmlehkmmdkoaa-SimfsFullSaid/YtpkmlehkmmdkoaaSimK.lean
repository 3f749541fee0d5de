/-
  []byte("..") of a constant, wherever the literal's row lies: the row is marked behind its end, nothing else turns; two such rows beside a file system that a call has made.
-/
import Derived.Test.YtpkmlehkmmdkoaaSimM
import Derived.Lib.SlBytesConst
namespace Go.Proofs.Ytpkmlehkmmdkoaa
open Go.RowKit

theorem freeze_at (w : World) (b n : Nat) (C : Array Value) (e : TypeId) (hb : w.heap[b]? = some (.cells C e (0, 0))) (hn : n = C.size) :
    (w.freeze ⟨b, n, none⟩ 1).heap[b]? = some (.cells C e (n, n + 1)) ∧ w.grownBy (w.freeze ⟨b, n, none⟩ 1) (some b) ∧ (w.freeze ⟨b, n, none⟩ 1).heap.size = w.heap.size := by
  subst hn
  unfold World.freeze
  rw [if_neg (by decide)]
  refine ⟨?_, ⟨rfl, rfl, rfl, by simp, fun i hi hne => ?_⟩, by simp⟩
  · show (w.heap.modify b _)[b]? = _
    rw [Array.getElem?_modify, if_pos rfl, hb]
    rfl
  · have hib : ¬ b = i := fun e => hne (by rw [e])
    simp [Array.getElem?_modify, hib]

theorem conv_run {P : Program} (w : World) (t e : TypeId) (b : Nat) (C : Array Value) (n c : Nat) (ht : P.underlying t = some (.slice e)) (he : P.underlying e = some (.int .u8)) (hb : w.heap[b]? = some (.cells C e (0, 0))) (hn : n = C.size) :
    (convert t t (.slice (some ⟨b, 0, none⟩) n c)).run P w = .ok (.slice (some ⟨b, 0, none⟩) n c) (w.freeze ⟨b, n, none⟩ 1) := by
  subst hn
  have hsh : w.shape? b = some (e, C.size) := by
    unfold World.shape?
    rw [hb]
  simp [convert, run_underlying ht, run_underlying he, markStringish, hsh]

def Lr.C1 : Array Value := #[.int .u8 100, .int .u8 101]
def Lr.C2 : Array Value := #[.int .u8 102]
/-- A row that was made beside a file system: its block, and whether it has been marked. -/
def rowAt (L : Nat → Nat) (w wx : World) (C : Array Value) (o : Option (Nat × Bool)) : Prop :=
  ∀ x, o = some x → w.heap.size ≤ x.1 ∧ L x.1 = 0 ∧ wx.heap[x.1]? = some (.cells C 5 (if x.2 then (C.size, C.size + 1) else (0, 0)))
def Lr (w : World) (g : Nat) (S : St) (o1 o2 : Option (Nat × Bool)) (wx : World) : Prop :=
  ∃ L, FsAt wx L g S ∧ w.grownBy wx none ∧ (∀ i, i < w.heap.size → L i = 0) ∧ rowAt L w wx Lr.C1 o1 ∧ rowAt L w wx Lr.C2 o2

theorem rowAt.none {L : Nat → Nat} {w wx : World} {C : Array Value} : rowAt L w wx C none := fun _ h => by cases h
theorem rowAt.keep {L : Nat → Nat} {w wx wy : World} {C : Array Value} {o : Option (Nat × Bool)} (h : rowAt L w wx C o) (hk : ∀ x, o = some x → wy.heap[x.1]? = wx.heap[x.1]?) : rowAt L w wy C o := fun x hx => by
  obtain ⟨h1, h2, h3⟩ := h x hx
  exact ⟨h1, h2, (hk x hx).trans h3⟩
theorem rowAt.lt {L : Nat → Nat} {w wx : World} {C : Array Value} {o : Option (Nat × Bool)} (h : rowAt L w wx C o) (x : Nat × Bool) (hx : o = some x) : x.1 < wx.heap.size := blk_lt (h x hx).2.2

variable {w wx : World} {g : Nat} {S : St} {o1 o2 : Option (Nat × Bool)}
theorem Lr.start (h : Lv w g S wx) : Lr w g S none none wx := by
  obtain ⟨L, h1, h2, h3⟩ := h
  exact ⟨L, h1, h2, h3, rowAt.none, rowAt.none⟩
theorem Lr.live (h : Lr w g S o1 o2 wx) : Lv w g S wx := by
  obtain ⟨L, h1, h2, h3, _⟩ := h
  exact ⟨L, h1, h2, h3⟩
theorem Lr.keep {wy : World} (h : Lr w g S o1 o2 wx) (hg : wx.grownBy wy none) : Lr w g S o1 o2 wy := by
  obtain ⟨L, h1, h2, h3, h4, h5⟩ := h
  exact ⟨L, h1.keep (Turned.of_gb (M := fun _ => False) hg (by simp)) (fun _ _ h => h), gb_trans h2 hg (.inl rfl), h3, h4.keep fun x hx => hg.block _ (h4.lt x hx) (by simp), h5.keep fun x hx => hg.block _ (h5.lt x hx) (by simp)⟩
theorem Lr.drewN (h : Lr w g S o1 o2 wx) (n : Nat) : Lr w g S o1 o2 (wx.drewN n) := h.keep (gb_drewN (gb_refl wx none) n)
theorem Lr.drew (h : Lr w g S o1 o2 wx) : Lr w g S o1 o2 wx.drew := h.drewN 1
theorem Lr.alloc (h : Lr w g S o1 o2 wx) (o : Obj) : Lr w g S o1 o2 (wx.alloc o) := h.keep (gb_alloc (gb_refl wx none) o)
theorem lab_new {L : Nat → Nat} {g : Nat} {S : St} {wx : World} (h : FsAt wx L g S) : L wx.heap.size = 0 := by
  obtain ⟨_, _, _, _, _, h⟩ := h
  exact Classical.byContradiction fun hc => by have := h.lt _ hc; omega
theorem Lr.alloc1 (h : Lr w g S none o2 wx) {b : Nat} (hb : wx.heap.size = b) : Lr w g S (some (b, false)) o2 (wx.alloc (.cells #[.int .u8 100, .int .u8 101] 5 (0, 0))) := by
  subst hb
  obtain ⟨L, h1, h2, h3, _, h5⟩ := h.alloc (.cells #[.int .u8 100, .int .u8 101] 5 (0, 0))
  obtain ⟨L', h1', h2', h3', _, h5'⟩ := h
  have hl := lab_new h1'
  have hg := gb_alloc (gb_refl wx none) (.cells #[.int .u8 100, .int .u8 101] 5 (0, 0))
  exact ⟨L', h1'.keep (Turned.of_gb (M := fun _ => False) hg (by simp)) (fun _ _ h => h), h2, h3', fun x hx => by injection hx with hx; subst hx; exact ⟨h2'.size, hl, heap_alloc_new wx _⟩, h5'.keep fun x hx => hg.block _ (h5'.lt x hx) (by simp)⟩
theorem Lr.alloc2 (h : Lr w g S o1 none wx) {b : Nat} (hb : wx.heap.size = b) : Lr w g S o1 (some (b, false)) (wx.alloc (.cells #[.int .u8 102] 5 (0, 0))) := by
  subst hb
  obtain ⟨L', h1', h2', h3', h5', _⟩ := h
  have hl := lab_new h1'
  have hg := gb_alloc (gb_refl wx none) (.cells #[.int .u8 102] 5 (0, 0))
  exact ⟨L', h1'.keep (Turned.of_gb (M := fun _ => False) hg (by simp)) (fun _ _ h => h), gb_trans h2' hg (.inl rfl), h3', h5'.keep fun x hx => hg.block _ (h5'.lt x hx) (by simp), fun x hx => by injection hx with hx; subst hx; exact ⟨h2'.size, hl, heap_alloc_new wx _⟩⟩
theorem Lr.row1 {b : Nat} (h : Lr w g S (some (b, false)) o2 wx) : wx.heap[b]? = some (.cells #[.int .u8 100, .int .u8 101] 5 (0, 0)) := by
  obtain ⟨L, _, _, _, h4, _⟩ := h
  exact (h4 _ rfl).2.2
theorem Lr.row2 {b : Nat} (h : Lr w g S o1 (some (b, false)) wx) : wx.heap[b]? = some (.cells #[.int .u8 102] 5 (0, 0)) := by
  obtain ⟨L, _, _, _, _, h4⟩ := h
  exact (h4 _ rfl).2.2
theorem row_apart {L : Nat → Nat} {x y : Nat × Bool} (h : rowAt L w wx Lr.C1 (some x)) (k : rowAt L w wx Lr.C2 (some y)) : x.1 ≠ y.1 := fun e => by
  have h1 := (h x rfl).2.2
  have h2 := (k y rfl).2.2
  rw [e, h2] at h1
  injection h1 with h1
  injection h1 with h1
  exact absurd (congrArg Array.size h1) (by decide)
theorem Lr.conv1 {b : Nat} (h : Lr w g S (some (b, false)) o2 wx) : Lr w g S (some (b, true)) o2 (wx.freeze ⟨b, 2, none⟩ 1) := by
  obtain ⟨L, h1, h2, h3, h4, h5⟩ := h
  obtain ⟨k1, k2, k3⟩ := h4 _ rfl
  obtain ⟨q1, q2, q3⟩ := freeze_at wx b 2 Lr.C1 5 k3 rfl
  refine ⟨L, h1.keep (Turned.of_gb (M := fun i => i = b) q2 (fun i e => by injection e with e; exact e.symm)) (fun i hi e => hi (e ▸ k2)), gb_trans h2 q2 (.inr (.inr ⟨_, rfl, k1⟩)), h3, fun x hx => by injection hx with hx; subst hx; exact ⟨k1, k2, q1⟩, ?_⟩
  cases o2 with
  | none => exact rowAt.none
  | some y => exact h5.keep fun x hx => by injection hx with hx; subst hx; exact q2.block _ (h5.lt _ rfl) (fun e => by injection e with e; exact row_apart h4 h5 e.symm)
theorem Lr.conv2 {b : Nat} (h : Lr w g S o1 (some (b, false)) wx) : Lr w g S o1 (some (b, true)) (wx.freeze ⟨b, 1, none⟩ 1) := by
  obtain ⟨L, h1, h2, h3, h5, h4⟩ := h
  obtain ⟨k1, k2, k3⟩ := h4 _ rfl
  obtain ⟨q1, q2, q3⟩ := freeze_at wx b 1 Lr.C2 5 k3 rfl
  refine ⟨L, h1.keep (Turned.of_gb (M := fun i => i = b) q2 (fun i e => by injection e with e; exact e.symm)) (fun i hi e => hi (e ▸ k2)), gb_trans h2 q2 (.inr (.inr ⟨_, rfl, k1⟩)), h3, ?_, fun x hx => by injection hx with hx; subst hx; exact ⟨k1, k2, q1⟩⟩
  cases o1 with
  | none => exact rowAt.none
  | some y => exact h5.keep fun x hx => by injection hx with hx; subst hx; exact q2.block _ (h5.lt _ rfl) (fun e => by injection e with e; exact row_apart h5 h4 e)
theorem rowAt.moved {L L' : Nat → Nat} {wy : World} {C : Array Value} {o : Option (Nat × Bool)} (h : rowAt L w wx C o) (hm : Moved L wx L' wy) : rowAt L' w wy C o := fun x hx => by
  obtain ⟨h1, h2, h3⟩ := h x hx
  exact ⟨h1, (hm.same _ (blk_lt h3)).trans h2, (hm.turned.block _ (blk_lt h3) (by rw [h2]; omega)).trans h3⟩
theorem Lr.post {S' : St} {L : Nat → Nat} {f : FuncId} {args : Array Value} {v : Value} (hg : w.grownBy wx none) (h0 : ∀ i, i < w.heap.size → L i = 0) (h1 : rowAt L w wx Lr.C1 o1) (h2 : rowAt L w wx Lr.C2 o2) (h : Calls Try.prog f args wx (FsPost L g S' v wx)) :
    Calls Try.prog f args wx fun e w' => e = .returned v ∧ Lr w g S' o1 o2 w' :=
  h.mono fun e w' ⟨he, L', k1, k2⟩ => by
    obtain ⟨L2, a1, a2, a3⟩ := Lv.moved hg h0 k1 k2
    have hs := hg.size
    refine ⟨he, L', k1, a2, fun i hi => (k2.same i (by omega)).trans (h0 i hi), h1.moved k2, h2.moved k2⟩
theorem Rd.row (wx : World) (b : Nat) (C : Array Value) (t : TypeId) (fr : Nat × Nat) (xs : List Value) (h : xs = C.toList) (hb : wx.heap[b]? = some (.cells C t fr)) : Rd wx wx.heap.size (some ⟨b, 0, none⟩) xs := fun _ =>
  ⟨_, rfl, blk_lt hb, fun j u hu => by
    subst h
    have e : (⟨b, 0, none⟩ : Addr).add j = ⟨b, j, none⟩ := by unfold Addr.add; split <;> simp_all
    rw [e, cell_of_row _ b j C t fr hb]
    simpa using hu⟩
theorem Lr.call1 {b c : Nat} {m : Bool} (h : Lr w g S (some (b, m)) o2 wx) (hF : Fine S) {f : Fl} (hn : S.file 1 = some f ∧ S.dead = false) (hfit : S.used + 2 ≤ S.cap) :
    Calls Try.prog 15 #[.pointer (some ⟨g, 0, none⟩), .int .i64 1, .slice (some ⟨b, 0, none⟩) 2 c] wx fun e w' => e = .returned (.int .i64 0) ∧ Lr w g (S.wrote 1 f ⟨false, f.bytes.length, [100, 101]⟩) none o2 w' := by
  obtain ⟨L, h1, h2, h3, h4, h5⟩ := h
  exact Lr.post h2 h3 rowAt.none h5 (append_ok L g S 1 f _ 2 c _ [100, 101] wx h1 hF hn.2 hn.1 (Rd.row wx b _ _ _ _ rfl (h4 _ rfl).2.2) (Nat.le_refl _) rfl (by decide) (.inr hfit))
theorem Lr.call2 {b c : Nat} {m : Bool} (h : Lr w g S o1 (some (b, m)) wx) (hF : Fine S) {f : Fl} (hn : S.file 1 = some f ∧ S.dead = false) (hfit : S.used + 1 ≤ S.cap) :
    Calls Try.prog 15 #[.pointer (some ⟨g, 0, none⟩), .int .i64 1, .slice (some ⟨b, 0, none⟩) 1 c] wx fun e w' => e = .returned (.int .i64 0) ∧ Lr w g (S.wrote 1 f ⟨false, f.bytes.length, [102]⟩) o1 none w' := by
  obtain ⟨L, h1, h2, h3, h5, h4⟩ := h
  exact Lr.post h2 h3 h5 rowAt.none (append_ok L g S 1 f _ 1 c _ [102] wx h1 hF hn.2 hn.1 (Rd.row wx b _ _ _ _ rfl (h4 _ rfl).2.2) (Nat.le_refl _) rfl (by decide) (.inr hfit))

theorem Live.fit4 : Live.S4.used + 2 ≤ Live.S4.cap := by decide
theorem Live.fit5 : Live.S5.used + 1 ≤ Live.S5.cap := by decide
theorem Live.fit6 : Live.S6.cap < Live.S6.used + (8 : Nat) := by decide
theorem Lr.go1 {b c : Nat} {Q : Ending → World → Prop} (h : Lr w g Live.S4 (some (b, true)) o2 wx) (k : ∀ w', Lr w g Live.S5 none o2 w' → Q (.returned (.int .i64 0)) w') :
    Calls Try.prog 15 #[.pointer (some ⟨g, 0, none⟩), .int .i64 1, .slice (some ⟨b, 0, none⟩) 2 c] wx Q :=
  (h.call1 Live.fine4 Live.h4 Live.fit4).mono fun _ w' ⟨he, hr⟩ => by rw [he]; exact k w' hr
theorem Lr.go2 {b c : Nat} {Q : Ending → World → Prop} (h : Lr w g Live.S5 none (some (b, true)) wx) (k : ∀ w', Lv w g Live.S6 w' → Q (.returned (.int .i64 0)) w') :
    Calls Try.prog 15 #[.pointer (some ⟨g, 0, none⟩), .int .i64 1, .slice (some ⟨b, 0, none⟩) 1 c] wx Q :=
  (h.call2 Live.fine5 Live.h5 Live.fit5).mono fun _ w' ⟨he, hr⟩ => by rw [he]; exact k w' hr.live
theorem Lr.go3 {A : Option Addr} {c : Nat} {Q : Ending → World → Prop} (h : Lv w g Live.S6 wx) (k : ∀ w', Lv w g Live.S6 w' → Q (.returned (.int .i64 5)) w') :
    Calls Try.prog 15 #[.pointer (some ⟨g, 0, none⟩), .int .i64 1, .slice A 8 c] wx Q :=
  (h.append_full Live.fine6 Live.h6 A 8 c (by decide) (by decide) Live.fit6).mono fun _ w' ⟨he, hr⟩ => by rw [he]; exact k w' hr

end Go.Proofs.Ytpkmlehkmmdkoaa
