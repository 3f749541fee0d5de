/-
  Small things of VecParts' texts that other laws want as well.
-/
import Derived.Test.YtbmgodmfpoappaaGreatQKq
import Derived.Test.YtbmgodmfpoappaaGreatQKe
import Derived.Test.YtbmgodmfpoappaaGreatQKa
namespace Go.Proofs.YtbmgodmfpoappaaGreat
open Go.RowKit
attribute [local go_sem ↓] Go.wp_at_zero Go.wp_at_succ
structure Sg (Ww W : World) (ba bb : Nat) : Prop where
 g : Ww.grownBy W none
 ha : ∃ x0 x1 x2 x3, W.heap[ba]? = some (.cells #[x0, x1, x2, x3] 26 (0, 0))
 hb : ∃ x0 x1 x2 x3, W.heap[bb]? = some (.cells #[x0, x1, x2, x3] 26 (0, 0))
 la : Ww.heap.size ≤ ba
 lb : ba < bb
theorem Sg.gb {Ww W W' : World} {ba bb : Nat} (h : Sg Ww W ba bb) (hg : W.grownBy W' none) : Sg Ww W' ba bb := by
 obtain ⟨x0, x1, x2, x3, ha⟩ := h.ha
 obtain ⟨y0, y1, y2, y3, hb⟩ := h.hb
 exact ⟨gb_trans h.g hg (.inl rfl), ⟨x0, x1, x2, x3, blk_keep ha hg (by simp)⟩, ⟨y0, y1, y2, y3, blk_keep hb hg (by simp)⟩, h.la, h.lb⟩
theorem Sg.first {Ww W W2 w3 : World} {ba bb : Nat} {y : Vl} {anA : Option Addr} {anc : Nat} {asA : Option Addr} {asc : Nat} {alA : Option Addr} {alc : Nat} {f : List Nat} (h : Sg Ww W ba bb) (ho : VOw w3 y [.int .i64 y.t, .slice anA y.n.length anc, .slice asA y.s.length asc, .slice alA y.l.length alc] f) (hn : New W w3 f) (hg : W.grownBy w3 none) (e : W2 = ((((w3.setCell ⟨ba, 0, none⟩ (.int .i64 y.t)).setCell ⟨ba, 1, none⟩ (.slice anA y.n.length anc)).setCell ⟨ba, 2, none⟩ (.slice asA y.s.length asc)).setCell ⟨ba, 3, none⟩ (.slice alA y.l.length alc))) :
  Sg Ww W2 ba bb ∧ W2.heap[ba]? = some (.cells #[.int .i64 y.t, .slice anA y.n.length anc, .slice asA y.s.length asc, .slice alA y.l.length alc] 26 (0, 0)) ∧ VOw W2 y [.int .i64 y.t, .slice anA y.n.length anc, .slice asA y.s.length asc, .slice alA y.l.length alc] f ∧ (∀ b ∈ f, bb < b ∧ b < W2.heap.size) := by
 subst e
 obtain ⟨x0, x1, x2, x3, ha⟩ := (h.gb hg).ha
 obtain ⟨y0, y1, y2, y3, hb⟩ := (h.gb hg).hb
 obtain ⟨_, _, _, _, hb0⟩ := h.hb
 have h1 := blk_lt hb0
 have h2 := h.lb
 have hp := put_four ha (.int .i64 y.t) (.slice anA y.n.length anc) (.slice asA y.s.length asc) (.slice alA y.l.length alc)
 refine ⟨⟨put_four_gb (h.gb hg).g h.la _ _ _ _, ⟨_, _, _, _, hp⟩, ⟨y0, y1, y2, y3, (put_four_other (by omega) _ _ _ _).trans hb⟩, h.la, h.lb⟩, hp, VOw.keep _ _ _ ho fun b hm => put_four_other (by have := (hn.2 b hm).1; omega) _ _ _ _, fun b hm => ⟨by have := (hn.2 b hm).1; omega, ?_⟩⟩
 have h3 := (hn.2 b hm).2
 simp [World.setCell]
 exact h3
theorem Sg.second {Ww W2 W3 w4 : World} {ba bb : Nat} {y : Vl} {anA : Option Addr} {anc : Nat} {asA : Option Addr} {asc : Nat} {alA : Option Addr} {alc : Nat} {bnA : Option Addr} {bnc : Nat} {bsA : Option Addr} {bsc : Nat} {blA : Option Addr} {blc : Nat} {f f2 : List Nat} (h : Sg Ww W2 ba bb) (hA : W2.heap[ba]? = some (.cells #[.int .i64 y.t, .slice anA y.n.length anc, .slice asA y.s.length asc, .slice alA y.l.length alc] 26 (0, 0))) (hoA : VOw W2 y [.int .i64 y.t, .slice anA y.n.length anc, .slice asA y.s.length asc, .slice alA y.l.length alc] f) (hfA : ∀ b ∈ f, bb < b ∧ b < W2.heap.size)
  (ho : VOw w4 y [.int .i64 y.t, .slice bnA y.n.length bnc, .slice bsA y.s.length bsc, .slice blA y.l.length blc] f2) (hn : New W2 w4 f2) (hg : W2.grownBy w4 none) (e : W3 = ((((w4.setCell ⟨bb, 0, none⟩ (.int .i64 y.t)).setCell ⟨bb, 1, none⟩ (.slice bnA y.n.length bnc)).setCell ⟨bb, 2, none⟩ (.slice bsA y.s.length bsc)).setCell ⟨bb, 3, none⟩ (.slice blA y.l.length blc))) :
  Sg Ww W3 ba bb ∧ W3.heap[ba]? = some (.cells #[.int .i64 y.t, .slice anA y.n.length anc, .slice asA y.s.length asc, .slice alA y.l.length alc] 26 (0, 0)) ∧ VB W3 W3.heap.size y anA anc asA asc alA alc ∧ W3.heap[bb]? = some (.cells #[.int .i64 y.t, .slice bnA y.n.length bnc, .slice bsA y.s.length bsc, .slice blA y.l.length blc] 26 (0, 0)) ∧ VB W3 W3.heap.size y bnA bnc bsA bsc blA blc := by
 subst e
 obtain ⟨x0, x1, x2, x3, ha⟩ := (h.gb hg).ha
 obtain ⟨y0, y1, y2, y3, hb⟩ := (h.gb hg).hb
 obtain ⟨_, _, _, _, hb0⟩ := h.hb
 have h1 := blk_lt hb0
 have h2 := h.lb
 have hp := put_four hb (.int .i64 y.t) (.slice bnA y.n.length bnc) (.slice bsA y.s.length bsc) (.slice blA y.l.length blc)
 have hA4 := blk_keep hA hg (by simp)
 refine ⟨⟨put_four_gb (h.gb hg).g (by have := h.la; omega) _ _ _ _, ⟨x0, x1, x2, x3, (put_four_other (by omega) _ _ _ _).trans ha⟩, ⟨_, _, _, _, hp⟩, h.la, h.lb⟩, (put_four_other (by omega) _ _ _ _).trans hA4, ?_, hp, ?_⟩
 ·exact (VOw.keep _ _ _ (hoA.gb hg) fun b hm => put_four_other (by have := (hfA b hm).1; omega) _ _ _ _).vb
 ·exact (VOw.keep _ _ _ ho fun b hm => put_four_other (by have := (hn.2 b hm).1; omega) _ _ _ _).vb
theorem tot_num (t : Int) (l : List Int) : (Vl.mk t l [] []).tot = 1 + l.length := by
 rw [Vl.tot_def]
 show 1 + l.length + 0 + 0 + 0 = _
 omega
theorem TupV.at {y : Vl} {w : World} {e : Ending} {w' : World} (h : TupV y w e w') : AtN y 0 w e w' := h
theorem NewE.at {y : Vl} {w : World} {e : Ending} {w' : World} (h : NewE y w e w') : AtN y 0 w e w' := h
theorem ErrV.at {k : Int} {w : World} {e : Ending} {w' : World} (h : ErrV k w e w') : AtN emp k w e w' := by
 obtain ⟨rfl, hg⟩ := h
 exact ⟨none, 0, none, 0, none, 0, [], rfl, vow_emp _, New.nil_ _ _, hg⟩
end Go.Proofs.YtbmgodmfpoappaaGreat
