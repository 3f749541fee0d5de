/-
  SimfsFull: a file system and its copy; the acts.
-/
import Derived.Test.YtpkmlehkmmdkoaaSimFc
import Derived.Test.YtpkmlehkmmdkoaaSimO
namespace Go.Proofs.Ytpkmlehkmmdkoaa
open Go.RowKit

theorem FsAt.lt {w : World} {L : Nat → Nat} {g : Nat} {S : St} (h : FsAt w L g S) {i : Nat} (hi : L i ≠ 0) : i < w.heap.size := by
  obtain ⟨mf, mn, ms, vch, lf, h⟩ := h
  exact h.lt i hi

/-- The file system S at g, made since w, and its copy S0 at g2, which shares no block with it that may be written; block q is neither's. -/
def Two (w : World) (g g2 q : Nat) (O : Obj) (S S0 : St) (wx : World) : Prop :=
  ∃ L L2, FsAt wx L g S ∧ FsAt wx L2 g2 S0 ∧ w.grownBy wx none ∧ (∀ i, i < w.heap.size → L i = 0) ∧ (∀ i, L2 i ≠ 0 → ¬ (L i = 1 ∨ 3 ≤ L i)) ∧ L q = 0 ∧ wx.heap[q]? = some O

section
variable {w wx wy : World} {g g2 q : Nat} {O : Obj} {S S' S0 : St} {C : Int} {k : Nat}
theorem Two.grown (h : Two w g g2 q O S S0 wx) : w.grownBy wx none := by
  obtain ⟨_, _, _, _, h, _⟩ := h
  exact h
theorem Two.lv (h : Two w g g2 q O S S0 wx) : Lv w g S wx := by
  obtain ⟨L, _, h1, _, h2, h3, _⟩ := h
  exact ⟨L, h1, h2, h3⟩
theorem Two.keep (h : Two w g g2 q O S S0 wx) (hg : wx.grownBy wy none) : Two w g g2 q O S S0 wy := by
  obtain ⟨L, L2, h1, h2, h3, h4, h5, h6, h7⟩ := h
  exact ⟨L, L2, h1.grown hg, h2.grown hg, gb_trans h3 hg (.inl rfl), h4, h5, h6, (hg.block q (blk_lt h7) (by simp)).trans h7⟩
theorem Two.obj (h : Two w g g2 q O S S0 wx) : wx.heap[q]? = some O := by
  obtain ⟨_, _, _, _, _, _, _, _, h⟩ := h
  exact h
theorem Two.drewN (h : Two w g g2 q O S S0 wx) (n : Nat) : Two w g g2 q O S S0 (wx.drewN n) := h.keep (gb_drewN (gb_refl wx none) n)
theorem Lv.copy (h : Lv w g S wx) (hF : Fine S) (O : Obj) : Calls Try.prog 24 #[.pointer (some ⟨g, 0, none⟩)] (wx.alloc O) fun e w' => ∃ g2, e = .returned (.pointer (some ⟨g2, 0, none⟩)) ∧ Two w g g2 wx.heap.size O S S w' := by
  obtain ⟨L, h1, h2, h3⟩ := h
  have hga : wx.grownBy (wx.alloc O) none := gb_alloc (gb_refl wx none) O
  have hq : L wx.heap.size = 0 := Classical.byContradiction fun hc => by have := h1.lt hc; omega
  refine (copy_any g S L (wx.alloc O) (h1.grown hga) hF).mono ?_
  rintro e w' ⟨g', L', rfl, k1, k2, k3⟩
  have hO := heap_alloc_new wx O
  refine ⟨g', rfl, L, L', (h1.grown hga).grown k2, k1, gb_trans h2 (gb_trans hga k2 (.inl rfl)) (.inl rfl), h3, fun i hi => ?_, hq, (k2.block _ (blk_lt hO) (by simp)).trans hO⟩
  by_cases hl : i < (wx.alloc O).heap.size
  · have := (k3 i hl hi).2
    omega
  · have : L i = 0 := Classical.byContradiction fun hc => hl ((h1.grown hga).lt hc)
    omega
theorem Two.post {f : FuncId} {args : Array Value} {v : Value} (h : Two w g g2 q O S S0 wx) (hc : ∀ L, FsAt wx L g S → Calls Try.prog f args wx (FsPost L g S' v wx)) :
    Calls Try.prog f args wx fun e w' => e = .returned v ∧ Two w g g2 q O S' S0 w' := by
  obtain ⟨L, L2, h1, h2, h3, h4, h5, h6, h7⟩ := h
  refine (hc L h1).mono ?_
  rintro e w' ⟨rfl, L', k1, k2⟩
  have hl := Lv.moved h3 h4 k1 k2
  refine ⟨rfl, L', L2, k1, h2.keep k2.turned h5, hl.grown, fun i hi => (k2.same i (Nat.lt_of_lt_of_le hi h3.size)).trans (h4 i hi), fun i hi => ?_, (k2.same q (blk_lt h7)).trans h6, (k2.turned.block q (blk_lt h7) (by rw [h6]; omega)).trans h7⟩
  rw [k2.same i (h2.lt hi)]
  exact h5 i hi
theorem Two.still {f : FuncId} {args : Array Value} {v : Value} (h : Two w g g2 q O S S0 wx) (hc : ∀ L, FsAt wx L g S → Calls Try.prog f args wx fun e w' => e = .returned v ∧ wx.grownBy w' none) :
    Calls Try.prog f args wx fun e w' => e = .returned v ∧ Two w g g2 q O S S0 w' := by
  have h' := h
  obtain ⟨L, L2, h1, _⟩ := h
  exact (hc L h1).mono fun e w' ⟨he, hg⟩ => ⟨he, h'.keep hg⟩

/-- Behind an act. -/
def Stp (w : World) (g g2 q : Nat) (O : Obj) (S0 : St) (C : Int) (k dl : Nat) (r : Int) (wx : World) : Prop := ∃ S', Two w g g2 q O S' S0 wx ∧ Fit C (k + 1) S' ∧ (r = 5 → S' = S0 ∧ 0 < dl)
theorem Stp.none_ (h : Two w g g2 q O S S wx) (hf : Fit C k S) (dl : Nat) : Stp w g g2 q O S C k dl 0 wx := ⟨S, h, hf.more, fun e => by cases e⟩

theorem Two.create (h : Two w g g2 q O S S wx) (hf : Fit C k S) (h0 : 0 ≤ C) (hC : C ≤ 10000) (hk : k ≤ 1000) (a : ByteArray) (dl : Nat) :
    Calls Try.prog 14 #[.pointer (some ⟨g, 0, none⟩), .string a] wx fun e w' => ∃ v, e = .returned v ∧ Stp w g g2 q O S C k dl 0 w' := by
  have hF := hf.fine h0 hC hk
  by_cases he : createErr S a = 0
  · exact (h.post (fun L hL => create_ok L g S a wx hL he hF)).mono fun e w' ⟨he', ht⟩ => ⟨_, he', _, ht, hf.created he, fun e => by cases e⟩
  · refine (h.still (fun L hL => create_bad L g S a wx hL he ?_)).mono fun e w' ⟨he', ht⟩ => ⟨_, he', Stp.none_ ht hf dl⟩
    have := hf.cnt
    omega
theorem Two.cut (h : Two w g g2 q O S S wx) (hf : Fit C k S) (h0 : 0 ≤ C) (hC : C ≤ 10000) (hk : k ≤ 1000) (n z : Int) (dl : Nat) :
    Calls Try.prog 26 #[.pointer (some ⟨g, 0, none⟩), .int .i64 n, .int .i64 z] wx fun e w' => ∃ v, e = .returned v ∧ Stp w g g2 q O S C k dl 0 w' :=
  (h.post (fun L hL => cut_any L g S n z wx hL (hf.fine h0 hC hk))).mono fun e w' ⟨he', ht⟩ => ⟨_, he', _, ht, hf.cut n z, fun e => by cases e⟩
theorem Two.rename (h : Two w g g2 q O S S wx) (hf : Fit C k S) (h0 : 0 ≤ C) (hC : C ≤ 10000) (hk : k ≤ 1000) (a b : ByteArray) (dl : Nat) :
    Calls Try.prog 19 #[.pointer (some ⟨g, 0, none⟩), .string a, .string b] wx fun e w' => ∃ v, e = .returned v ∧ Stp w g g2 q O S C k dl 0 w' := by
  by_cases he : askErr S [a, b] a = 0
  · have hr := hf.renamed he
    exact (h.post (fun L hL => rename_ok L g S a b wx hL he (hf.fine h0 hC hk) hr.2)).mono fun e w' ⟨he', ht⟩ => ⟨_, he', _, ht, hr.1, fun e => by cases e⟩
  · exact (h.still (fun L hL => rename_bad L g S a b wx hL he)).mono fun e w' ⟨he', ht⟩ => ⟨_, he', Stp.none_ ht hf dl⟩
theorem Two.remove (h : Two w g g2 q O S S wx) (hf : Fit C k S) (h0 : 0 ≤ C) (hC : C ≤ 10000) (hk : k ≤ 1000) (a : ByteArray) (dl : Nat) :
    Calls Try.prog 27 #[.pointer (some ⟨g, 0, none⟩), .string a] wx fun e w' => ∃ v, e = .returned v ∧ Stp w g g2 q O S C k dl 0 w' := by
  refine (h.post (fun L hL => remove_any L g S a wx hL (hf.fine h0 hC hk) (fun he _ => (hf.removed he).2))).mono fun e w' ⟨he', ht⟩ => ⟨_, he', _, ht, ?_, fun e => by cases e⟩
  unfold St.remove
  by_cases he : askErr S [a] a = 0
  · rw [if_pos he]
    exact (hf.removed he).1
  · rw [if_neg he]
    exact hf.more
theorem Two.write (h : Two w g g2 q O S S wx) (hf : Fit C k S) (h0 : 0 ≤ C) (hC : C ≤ 10000) (hk : k ≤ 1000) (n z : Int) (A : Option Addr) (m c : Nat) (p : List UInt8) (hr : Rd wx wx.heap.size A (u8s p)) (hm : m = p.length) (hp : p.length ≤ 400000000) :
    Calls Try.prog 25 #[.pointer (some ⟨g, 0, none⟩), .int .i64 n, .int .i64 z, .slice A m c] wx fun e w' => ∃ r, e = .returned (.int .i64 r) ∧ Stp w g g2 q O S C k p.length r w' :=
  (h.post (fun L hL => write_any L g S n z A m c _ p wx hL (hf.fine h0 hC hk) hr (Nat.le_refl _) hm hp)).mono fun e w' ⟨he', ht⟩ => ⟨_, he', _, ht, hf.write n z p, fun e => write_five (by rw [← hm]; exact e)⟩
theorem Two.append (h : Two w g g2 q O S S wx) (hf : Fit C k S) (h0 : 0 ≤ C) (hC : C ≤ 10000) (hk : k ≤ 1000) (n : Int) (A : Option Addr) (m c : Nat) (p : List UInt8) (hr : Rd wx wx.heap.size A (u8s p)) (hm : m = p.length) (hp : p.length ≤ 400000000) :
    Calls Try.prog 15 #[.pointer (some ⟨g, 0, none⟩), .int .i64 n, .slice A m c] wx fun e w' => ∃ r, e = .returned (.int .i64 r) ∧ Stp w g g2 q O S C k p.length r w' :=
  (h.post (fun L hL => append_any L g S n A m c _ p wx hL (hf.fine h0 hC hk) hr (Nat.le_refl _) hm hp)).mono fun e w' ⟨he', ht⟩ => ⟨_, he', _, ht, hf.append n p, fun e => append_five (by rw [← hm]; exact e)⟩
theorem Two.used (h : Two w g g2 q O S S0 wx) : Calls Try.prog 28 #[.pointer (some ⟨g, 0, none⟩)] wx fun e w' => e = .returned (.int .i64 S.used) ∧ wx = w' := by
  obtain ⟨L, L2, ⟨mf, mn, ms, vch, lf, h⟩, _⟩ := h
  exact used_any g _ wx h.blk
theorem Two.same (h : Two w g g2 q O S S wx) (hf : Fit C k S) : Calls Try.prog 10 #[.pointer (some ⟨g, 0, none⟩), .pointer (some ⟨g2, 0, none⟩)] wx fun e w' => e = .returned (.bool true) ∧ wx.grownBy w' none := by
  obtain ⟨L, L2, h1, h2, _⟩ := h
  exact hf.same h1 h2
end

end Go.Proofs.Ytpkmlehkmmdkoaa
