/-
  []byte("..") of a constant, wherever the literal's row lies: the row is marked behind its end, nothing else turns; two such rows beside a file system that a call has made.
-/
import Derived.Test.YtmcmlkglkpbnpaaGreatQba
import Derived.Lib.SlBytesConst
namespace Go.Proofs.YtmcmlkglkpbnpaaGreat
open Go.RowKit
def Lr.C1 : Array Value := #[.int .u8 100, .int .u8 101]
def Lr.C2 : Array Value := #[.int .u8 102]
def rowAt (L : Nat → Nat) (w wx : World) (C : Array Value) (o : Option (Nat × Bool)) : Prop :=
 ∀ x, o = some x → w.heap.size ≤ x.1 ∧ L x.1 = 0 ∧ wx.heap[x.1]? = some (.cells C 5 (if x.2 then (C.size, C.size + 1) else (0, 0)))
def Lr (w : World) (g : Nat) (S : St) (o1 o2 : Option (Nat × Bool)) (wx : World) : Prop :=
 ∃ L, FsAt wx L g S ∧ w.grownBy wx none ∧ (∀ i, i < w.heap.size → L i = 0) ∧ rowAt L w wx Lr.C1 o1 ∧ rowAt L w wx Lr.C2 o2
theorem rowAt.none {L : Nat → Nat} {w wx : World} {C : Array Value} : rowAt L w wx C none := fun _ h => by cases h
theorem rowAt.keep {L : Nat → Nat} {w wx wy : World} {C : Array Value} {o : Option (Nat × Bool)} (h : rowAt L w wx C o) (hk : ∀ x, o = some x → wy.heap[x.1]? = wx.heap[x.1]?) : rowAt L w wy C o := fun x hx => by
 obtain ⟨h1, h2, h3⟩ := h x hx
 exact ⟨h1, h2, (hk x hx).trans h3⟩
theorem rowAt.lt {L : Nat → Nat} {w wx : World} {C : Array Value} {o : Option (Nat × Bool)} (h : rowAt L w wx C o) (x : Nat × Bool) (hx : o = some x) : x.1 < wx.heap.size := blk_lt (h x hx).2.2
variable {w wx : World} {g : Nat} {S : St} {o1 o2 : Option (Nat × Bool)}
theorem Lr.start (h : Lv w g S wx) : Lr w g S none none wx := by
 obtain ⟨L, h1, h2, h3⟩ := h
 exact ⟨L, h1, h2, h3, rowAt.none, rowAt.none⟩
theorem Lr.live (h : Lr w g S o1 o2 wx) : Lv w g S wx := by
 obtain ⟨L, h1, h2, h3, _⟩ := h
 exact ⟨L, h1, h2, h3⟩
theorem Lr.keep {wy : World} (h : Lr w g S o1 o2 wx) (hg : wx.grownBy wy none) : Lr w g S o1 o2 wy := by
 obtain ⟨L, h1, h2, h3, h4, h5⟩ := h
 exact ⟨L, h1.keep (Turned.of_gb (M := fun _ => False) hg (by simp)) (fun _ _ h => h), gb_trans h2 hg (.inl rfl), h3, h4.keep fun x hx => hg.block _ (h4.lt x hx) (by simp), h5.keep fun x hx => hg.block _ (h5.lt x hx) (by simp)⟩
theorem Lr.drewN (h : Lr w g S o1 o2 wx) (n : Nat) : Lr w g S o1 o2 (wx.drewN n) := h.keep (gb_drewN (gb_refl wx none) n)
theorem Lr.drew (h : Lr w g S o1 o2 wx) : Lr w g S o1 o2 wx.drew := h.drewN 1
theorem Lr.alloc (h : Lr w g S o1 o2 wx) (o : Obj) : Lr w g S o1 o2 (wx.alloc o) := h.keep (gb_alloc (gb_refl wx none) o)
theorem rowAt.moved {L L' : Nat → Nat} {wy : World} {C : Array Value} {o : Option (Nat × Bool)} (h : rowAt L w wx C o) (hm : Moved L wx L' wy) : rowAt L' w wy C o := fun x hx => by
 obtain ⟨h1, h2, h3⟩ := h x hx
 exact ⟨h1, (hm.same _ (blk_lt h3)).trans h2, (hm.turned.block _ (blk_lt h3) (by rw [h2]; omega)).trans h3⟩
theorem Lr.post {S' : St} {L : Nat → Nat} {f : FuncId} {args : Array Value} {v : Value} (hg : w.grownBy wx none) (h0 : ∀ i, i < w.heap.size → L i = 0) (h1 : rowAt L w wx Lr.C1 o1) (h2 : rowAt L w wx Lr.C2 o2) (h : Calls Tryz.prog f args wx (FsPost L g S' v wx)) :
  Calls Tryz.prog f args wx fun e w' => e = .returned v ∧ Lr w g S' o1 o2 w' :=
 h.mono fun e w' ⟨he, L', k1, k2⟩ => by
  obtain ⟨L2, a1, a2, a3⟩ := Lv.moved hg h0 k1 k2
  have hs := hg.size
  refine ⟨he, L', k1, a2, fun i hi => (k2.same i (by omega)).trans (h0 i hi), h1.moved k2, h2.moved k2⟩
theorem Rd.row (wx : World) (b : Nat) (C : Array Value) (t : TypeId) (fr : Nat × Nat) (xs : List Value) (h : xs = C.toList) (hb : wx.heap[b]? = some (.cells C t fr)) : Rd wx wx.heap.size (some ⟨b, 0, none⟩) xs := fun _ =>
 ⟨_, rfl, blk_lt hb, fun j u hu => by
  subst h
  have e : (⟨b, 0, none⟩ : Addr).add j = ⟨b, j, none⟩ := by unfold Addr.add; split <;> simp_all
  rw [e, cell_of_row _ b j C t fr hb]
  simpa using hu⟩
end Go.Proofs.YtmcmlkglkpbnpaaGreat
