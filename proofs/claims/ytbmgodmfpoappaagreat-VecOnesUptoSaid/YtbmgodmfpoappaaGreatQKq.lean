/-
  The document's Of of nothing, its At of any place of a vector or a list, its Null.
-/
import Derived.Test.YtbmgodmfpoappaaGreatQKn
import Derived.Test.YtbmgodmfpoappaaGreatQKp
import Derived.Test.YtbmgodmfpoappaaGreatQKd
import Derived.Test.YtbmgodmfpoappaaGreatQKo
namespace Go.Proofs.YtbmgodmfpoappaaGreat
open Go.RowKit
attribute [local go_sem ↓] Go.wp_at_zero Go.wp_at_succ
structure GatP (w : World) (n : List ByteArray) (x : List Vl) (nA : Option Addr) (nc : Nat) (eA : Option Addr) (ec : Nat) (xs : List (List Value)) (f : List Nat) (wr : World) : Prop where
 hn : wr.ownsRow (w.heap.size + 1) 9 1 (.slice nA n.length nc) n.length (strs n)
 he : wr.ownsRow (w.heap.size + 1) 26 4 (.slice eA x.length ec) x.length (List.flatten xs)
 hx : VOwAll wr x xs f
 hf : ∀ b ∈ f, (Value.slice nA n.length nc).ownBlock ≠ some b ∧ (Value.slice eA x.length ec).ownBlock ≠ some b
 hg : w.grownBy wr none
 hr : wr.heap[w.heap.size]? = some (.cells #[.int .i64 0, .slice none 0 0, .slice none 0 0, .slice none 0 0] 26 (0, 0))
 hl : ∀ b ∈ f, w.heap.size + 1 ≤ b
theorem GatP.keep {w wr w2 : World} {n : List ByteArray} {x : List Vl} {nA : Option Addr} {nc : Nat} {eA : Option Addr} {ec : Nat} {xs : List (List Value)} {f : List Nat} (h : GatP w n x nA nc eA ec xs f wr) (hg : wr.grownBy w2 none) : GatP w n x nA nc eA ec xs f w2 :=
 ⟨h.hn.kept hg (by cases (Value.slice nA n.length nc).ownBlock <;> simp), h.he.kept hg (by cases (Value.slice eA x.length ec).ownBlock <;> simp), VOwAll.keep _ _ _ h.hx fun b hb => hg.block b (VOwAll.lt _ _ _ h.hx b hb) (by simp), h.hf, gb_trans h.hg hg (.inl rfl), (hg.block _ (blk_lt h.hr) (by simp)).trans h.hr, h.hl⟩
structure AtB (w wa : World) (v : Vl) (nA : Option Addr) (nc : Nat) (sA : Option Addr) (sc : Nat) (lA : Option Addr) (lc : Nat) : Prop where
 c : C4 wa w.heap.size 0 (.int .i64 v.t) (.slice nA v.n.length nc) (.slice sA v.s.length sc) (.slice lA v.l.length lc)
 r : wa.heap[w.heap.size + 1]? = some (.cells zero4 26 (0, 0))
 g : w.grownBy wa none
 s : wa.heap.size = w.heap.size + 2
theorem AtB.mk_ (w : World) (v : Vl) (nA : Option Addr) (nc : Nat) (sA : Option Addr) (sc : Nat) (lA : Option Addr) (lc : Nat) :
  AtB w ((w.alloc (.cells #[.int .i64 v.t, .slice nA v.n.length nc, .slice sA v.s.length sc, .slice lA v.l.length lc] 26)).alloc (.cells #[.int .i64 0, .slice none 0 0, .slice none 0 0, .slice none 0 0] 26)) v nA nc sA sc lA lc :=
 ⟨(C4.box w _ _ _ _ _).gb (gb_alloc (gb_refl _ none) _), alloc2_blk w _ _, gb_alloc (gb_alloc (gb_refl w none) _) _, by simp⟩
end Go.Proofs.YtbmgodmfpoappaaGreat
namespace Go.Proofs.YtbmgodmfpoappaaGreat
open Go.RowKit
end Go.Proofs.YtbmgodmfpoappaaGreat
namespace Go.Proofs.YtbmgodmfpoappaaGreat
open Go.RowKit
attribute [local go_sem ↓] Go.wp_at_zero Go.wp_at_succ
theorem vow_emp (w : World) : VOw w emp [.int .i64 0, .slice none 0 0, .slice none 0 0, .slice none 0 0] [] :=
 VOw.mk_ (v := emp) (xs := []) (fn := []) (fs := []) (fl := []) (fp := []) ⟨Nat.le_refl _, Nat.le_refl _, Nat.le_refl _⟩ Own.nil_ Own.nil_ Own.nil_ ⟨rfl, rfl⟩
def AtN (y : Vl) (k : Int) (w : World) (e : Ending) (w' : World) : Prop := ∃ nA nc sA sc lA lc f, e = .returned (.tuple #[.agg #[.int .i64 y.t, .slice nA y.n.length nc, .slice sA y.s.length sc, .slice lA y.l.length lc], .int .i64 k]) ∧
 VOw w' y [.int .i64 y.t, .slice nA y.n.length nc, .slice sA y.s.length sc, .slice lA y.l.length lc] f ∧ New w w' f ∧ w.grownBy w' none
end Go.Proofs.YtbmgodmfpoappaaGreat
