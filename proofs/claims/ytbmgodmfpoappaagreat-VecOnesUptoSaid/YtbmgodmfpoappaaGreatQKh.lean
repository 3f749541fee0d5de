/-
  vec.Do: the sum, the quotient, the rest of ints and vectors of ints.
-/
import Derived.Test.YtbmgodmfpoappaaGreatQKg
import Derived.Test.YtbmgodmfpoappaaGreatQKf
namespace Go.Proofs.YtbmgodmfpoappaaGreat
open Go.RowKit
attribute [local go_sem ↓] Go.wp_at_zero Go.wp_at_succ
theorem own_low {w : World} {b b' : Nat} {e : TypeId} {size n : Nat} {v : Value} {xs : List Value} (h : w.ownsRow b e size v n xs) (hb : b' ≤ b) : w.ownsRow b' e size v n xs :=
 ⟨h.1, h.2.imp id fun ⟨g, cap, cur, h1, h2, h3⟩ => ⟨g, cap, cur, h1, Nat.le_trans hb h2, h3⟩⟩
structure IntV (x : Vl) : Prop where
 t : x.t = 2 ∨ x.t = -2 ∧ x.n.length = 1
 n : x.n.length ≤ 1000000
 i : ∀ k ∈ x.n, I64 k
 tot : x.tot ≤ 1200000000
theorem nil_neq (w : World) : (binOp .neq 71 Value.nilFunc Value.nilFunc).run Tryz.prog w = .ok (.bool false) w := by kernel_rfl
theorem put_four_row (w : World) (g : Nat) (u0 u1 u2 u3 : Value) : w.grownBy ((((w.setCell ⟨g, 0, none⟩ u0).setCell ⟨g, 1, none⟩ u1).setCell ⟨g, 2, none⟩ u2).setCell ⟨g, 3, none⟩ u3) (some g) :=
 gb_setCell (gb_setCell (gb_setCell (gb_setCell (gb_refl w (some g)) (.inl rfl) u0) (.inl rfl) u1) (.inl rfl) u2) (.inl rfl) u3
theorem IntV.count {x : Vl} (h : IntV x) : x.count = x.n.length := by
 rw [Vl.count_def]
 rcases h.t with e | ⟨e, e1⟩
 ·rw [e, if_pos (.inr (.inl rfl))]
 ·rw [e, if_neg (by decide), if_neg (by decide), if_neg (by decide), if_neg (by decide), e1]
def doI (f : Int → Int → Option Int) (x y : Vl) : Except Int (Int × List Int) :=
 if x.t = 2 then
  (if y.t = 2 ∧ y.n.length ≠ x.n.length then .error 32 else match eachO f x.n y.n 0 x.n.length with | none => .error 70 | some l => .ok (2, l))
 else match eachO f x.n y.n 0 y.n.length with | none => .error 70 | some l => .ok (y.t, l)
def DoR (r : Except Int (Int × List Int)) (w : World) (e : Ending) (w' : World) : Prop := w.grownBy w' none ∧ match r with
 | .error k => e = .returned (.tuple #[.agg #[.int .i64 0, .slice none 0 0, .slice none 0 0, .slice none 0 0], .int .i64 k])
 | .ok (t, l) => ∃ A c, l.length ≤ c ∧ e = .returned (.tuple #[.agg #[.int .i64 t, .slice A l.length c, .slice none 0 0, .slice none 0 0], .int .i64 0]) ∧ w'.ownsRow w.heap.size 2 1 (.slice A l.length c) l.length (i64s l)
structure DoB (s : Nat) (wn : World) (fv x0 x1 x2 x3 y0 y1 y2 y3 v0 v1 v2 v3 : Value) : Prop where
 r : wn.heap[s]? = some (.cells #[.int .i64 2, fv, Value.nilFunc] 73 (0, 0))
 x : wn.heap[s + 1]? = some (.cells #[x0, x1, x2, x3] 26 (0, 0))
 y : wn.heap[s + 2]? = some (.cells #[y0, y1, y2, y3] 26 (0, 0))
 z : wn.heap[s + 3]? = some (.cells #[.int .i64 0, .slice none 0 0, .slice none 0 0, .slice none 0 0] 26 (0, 0))
 v : wn.heap[s + 4]? = some (.cells #[v0, v1, v2, v3] 26 (0, 0))
section
variable {s : Nat} {wn w' : World} {fv x0 x1 x2 x3 y0 y1 y2 y3 v0 v1 v2 v3 : Value}
theorem DoB.mk_ (w : World) (fv x0 x1 x2 x3 y0 y1 y2 y3 v0 v1 v2 v3 : Value) :
  DoB w.heap.size (((((w.alloc (.cells #[.int .i64 2, fv, Value.nilFunc] 73)).alloc (.cells #[x0, x1, x2, x3] 26)).alloc (.cells #[y0, y1, y2, y3] 26)).alloc (.cells #[.int .i64 0, .slice none 0 0, .slice none 0 0, .slice none 0 0] 26)).alloc (.cells #[v0, v1, v2, v3] 26)) fv x0 x1 x2 x3 y0 y1 y2 y3 v0 v1 v2 v3 := by
 have k : ∀ (w : World) (i : Nat) (u o : Obj), w.heap[i]? = some u → (w.alloc o).heap[i]? = some u := fun w i u o h => (Below.heap_alloc w o i (blk_lt h)).trans h
 have l : ∀ (w : World) (i : Nat) (o : Obj), w.heap.size = i → (w.alloc o).heap[i]? = some o := fun w i o h => h ▸ heap_alloc_new w o
 have e : ∀ (w : World) (i : Nat) (o : Obj), w.heap.size = i → (w.alloc o).heap.size = i + 1 := fun w i o h => by rw [World.size_alloc, h]
 exact ⟨k _ _ _ _ (k _ _ _ _ (k _ _ _ _ (k _ _ _ _ (l _ _ _ rfl)))), k _ _ _ _ (k _ _ _ _ (k _ _ _ _ (l _ _ _ (e _ _ _ rfl)))), k _ _ _ _ (k _ _ _ _ (l _ _ _ (e _ _ _ (e _ _ _ rfl)))),
  k _ _ _ _ (l _ _ _ (e _ _ _ (e _ _ _ (e _ _ _ rfl)))), l _ _ _ (e _ _ _ (e _ _ _ (e _ _ _ (e _ _ _ rfl))))⟩
theorem DoB.gb (h : DoB s wn fv x0 x1 x2 x3 y0 y1 y2 y3 v0 v1 v2 v3) (hg : wn.grownBy w' none) : DoB s w' fv x0 x1 x2 x3 y0 y1 y2 y3 v0 v1 v2 v3 :=
 ⟨blk_keep h.r hg (by simp), blk_keep h.x hg (by simp), blk_keep h.y hg (by simp), blk_keep h.z hg (by simp), blk_keep h.v hg (by simp)⟩
theorem DoB.wide (h : DoB s wn fv x0 x1 x2 x3 y0 y1 y2 y3 v0 v1 v2 v3) (u0 u1 u2 u3 : Value) : DoB s ((((wn.setCell ⟨s + 4, 0, none⟩ u0).setCell ⟨s + 4, 1, none⟩ u1).setCell ⟨s + 4, 2, none⟩ u2).setCell ⟨s + 4, 3, none⟩ u3) fv x0 x1 x2 x3 y0 y1 y2 y3 u0 u1 u2 u3 :=
 ⟨(put_four_other (by omega) _ _ _ _).trans h.r, (put_four_other (by omega) _ _ _ _).trans h.x, (put_four_other (by omega) _ _ _ _).trans h.y, (put_four_other (by omega) _ _ _ _).trans h.z, put_four h.v _ _ _ _⟩
theorem DoB.vis (h : DoB s wn fv x0 x1 x2 x3 y0 y1 y2 y3 v0 v1 v2 v3) :
  (wn.cell? ⟨s, 0, none⟩ = some (.int .i64 2) ∧ wn.cell? ⟨s, 1, none⟩ = some fv ∧ wn.cell? ⟨s, 2, none⟩ = some Value.nilFunc) ∧
  (wn.cell? ⟨s + 1, 0, none⟩ = some x0 ∧ wn.cell? ⟨s + 1, 1, none⟩ = some x1 ∧ wn.cell? ⟨s + 1, 2, none⟩ = some x2 ∧ wn.cell? ⟨s + 1, 3, none⟩ = some x3) ∧
  (wn.cell? ⟨s + 2, 0, none⟩ = some y0 ∧ wn.cell? ⟨s + 2, 1, none⟩ = some y1 ∧ wn.cell? ⟨s + 2, 2, none⟩ = some y2 ∧ wn.cell? ⟨s + 2, 3, none⟩ = some y3) ∧
  (wn.cell? ⟨s + 3, 0, none⟩ = some (.int .i64 0) ∧ wn.cell? ⟨s + 3, 1, none⟩ = some (.slice none 0 0) ∧ wn.cell? ⟨s + 3, 2, none⟩ = some (.slice none 0 0) ∧ wn.cell? ⟨s + 3, 3, none⟩ = some (.slice none 0 0)) ∧
  (wn.cell? ⟨s + 4, 0, none⟩ = some v0 ∧ wn.cell? ⟨s + 4, 1, none⟩ = some v1 ∧ wn.cell? ⟨s + 4, 2, none⟩ = some v2 ∧ wn.cell? ⟨s + 4, 3, none⟩ = some v3) ∧
  (wn.frozen? ⟨s + 3, 0, none⟩ = false ∧ wn.frozen? ⟨s + 3, 1, none⟩ = false ∧ wn.frozen? ⟨s + 3, 2, none⟩ = false ∧ wn.frozen? ⟨s + 3, 3, none⟩ = false) ∧
  (wn.frozen? ⟨s + 4, 0, none⟩ = false ∧ wn.frozen? ⟨s + 4, 1, none⟩ = false ∧ wn.frozen? ⟨s + 4, 2, none⟩ = false ∧ wn.frozen? ⟨s + 4, 3, none⟩ = false) := by
 refine ⟨⟨?_, ?_, ?_⟩, ⟨?_, ?_, ?_, ?_⟩, ⟨?_, ?_, ?_, ?_⟩, ⟨?_, ?_, ?_, ?_⟩, ⟨?_, ?_, ?_, ?_⟩, ⟨blk_frozen h.z 0, blk_frozen h.z 1, blk_frozen h.z 2, blk_frozen h.z 3⟩, ⟨blk_frozen h.v 0, blk_frozen h.v 1, blk_frozen h.v 2, blk_frozen h.v 3⟩⟩
 ·rw [blk_cell h.r]; rfl
 ·rw [blk_cell h.r]; rfl
 ·rw [blk_cell h.r]; rfl
 ·rw [blk_cell h.x]; rfl
 ·rw [blk_cell h.x]; rfl
 ·rw [blk_cell h.x]; rfl
 ·rw [blk_cell h.x]; rfl
 ·rw [blk_cell h.y]; rfl
 ·rw [blk_cell h.y]; rfl
 ·rw [blk_cell h.y]; rfl
 ·rw [blk_cell h.y]; rfl
 ·rw [blk_cell h.z]; rfl
 ·rw [blk_cell h.z]; rfl
 ·rw [blk_cell h.z]; rfl
 ·rw [blk_cell h.z]; rfl
 ·rw [blk_cell h.v]; rfl
 ·rw [blk_cell h.v]; rfl
 ·rw [blk_cell h.v]; rfl
 ·rw [blk_cell h.v]; rfl
end
set_option maxHeartbeats 16000000 in
set_option maxRecDepth 100000 in
theorem do_ints (f : Int → Int → Option Int) (g k : Nat) (x y : Vl) (w : World) (B : Nat) (nA : Option Addr) (nc : Nat) (sA : Option Addr) (sc : Nat) (lA : Option Addr) (lc : Nat) (mA : Option Addr) (mc : Nat) (tA : Option Addr) (tc : Nat) (kA : Option Addr) (kc : Nat)
  (hx : IntV x) (hy : IntV y) (hB : B ≤ w.heap.size) (vx : VB w B x nA nc sA sc lA lc) (vy : VB w B y mA mc tA tc kA kc) (hS : StrF k w g f) :
  Calls Tryz.prog 52 #[.agg #[.int .i64 2, (.func (.func 118) #[] #[.pointer (some ⟨g, 0, none⟩)]), Value.nilFunc], .agg #[.int .i64 x.t, .slice nA x.n.length nc, .slice sA x.s.length sc, .slice lA x.l.length lc], .agg #[.int .i64 y.t, .slice mA y.n.length mc, .slice tA y.s.length tc, .slice kA y.l.length kc]] w (DoR (doI f x y) w) := by
 obtain ⟨wb, hwb⟩ : ∃ wb, wb = ((((w.alloc (.cells #[.int .i64 2, (.func (.func 118) #[] #[.pointer (some ⟨g, 0, none⟩)]), Value.nilFunc] 73)).alloc (.cells #[.int .i64 x.t, .slice nA x.n.length nc, .slice sA x.s.length sc, .slice lA x.l.length lc] 26)).alloc (.cells #[.int .i64 y.t, .slice mA y.n.length mc, .slice tA y.s.length tc, .slice kA y.l.length kc] 26)).alloc (.cells #[.int .i64 0, .slice none 0 0, .slice none 0 0, .slice none 0 0] 26)).alloc (.cells #[.int .i64 x.t, .slice nA x.n.length nc, .slice sA x.s.length sc, .slice lA x.l.length lc] 26) := ⟨_, rfl⟩
 have hd := DoB.mk_ w ((.func (.func 118) #[] #[.pointer (some ⟨g, 0, none⟩)])) (.int .i64 x.t) (.slice nA x.n.length nc) (.slice sA x.s.length sc) (.slice lA x.l.length lc) (.int .i64 y.t) (.slice mA y.n.length mc) (.slice tA y.s.length tc) (.slice kA y.l.length kc) (.int .i64 x.t) (.slice nA x.n.length nc) (.slice sA x.s.length sc) (.slice lA x.l.length lc)
 rw [← hwb] at hd
 have HG := hide (show w.grownBy wb none by rw [hwb]; exact gb_alloc (gb_alloc (gb_alloc (gb_alloc (gb_alloc (gb_refl w none) _) _) _) _) _)
 have HS5 := hide (show w.heap.size + 5 ≤ wb.heap.size by rw [hwb]; simp)
 have HD := hide hd
 have HW := hide hwb
 have HCX : Hid (∀ w2, w.grownBy w2 none → Calls Tryz.prog 58 #[.agg #[.int .i64 x.t, .slice nA x.n.length nc, .slice sA x.s.length sc, .slice lA x.l.length lc]] w2 fun e w' => e = .returned (.int .i64 (x.n.length : Nat)) ∧ w2.grownBy w' none) := hide (fun w2 hg => (count_d x.depth x w2 B nA nc sA sc lA lc (Nat.le_refl _) hx.tot (Nat.le_trans hB hg.size) (vx.gb hg hB)).mono fun e w' h => ⟨h.1.trans (by rw [hx.count]), h.2⟩)
 have HCY : Hid (∀ w2, w.grownBy w2 none → Calls Tryz.prog 58 #[.agg #[.int .i64 y.t, .slice mA y.n.length mc, .slice tA y.s.length tc, .slice kA y.l.length kc]] w2 fun e w' => e = .returned (.int .i64 (y.n.length : Nat)) ∧ w2.grownBy w' none) := hide (fun w2 hg => (count_d y.depth y w2 B mA mc tA tc kA kc (Nat.le_refl _) hy.tot (Nat.le_trans hB hg.size) (vy.gb hg hB)).mono fun e w' h => ⟨h.1.trans (by rw [hy.count]), h.2⟩)
 have HEA := hide (fun (c : Nat) (hc : c ≤ 1000000) (ha : 0 < c → 0 < x.n.length) (hb : 0 < c → 0 < y.n.length) w2 (hg : w.grownBy w2 none) => each_any f x.n y.n c k g w2 nA nc mA mc (hS.gb hg) ((vx.gb hg hB).n.more (Nat.le_trans hB hg.size)) ((vy.gb hg hB).n.more (Nat.le_trans hB hg.size)) hc ha hb hx.n hy.n hx.i hy.i)
 have HT := hide hx.t
 have HU := hide hy.t
 have HNX := hide hx.n
 have HNY := hide hy.n
 have MC := hide trivial
 have hnil := nil_neq
 obtain ⟨⟨r0, r1, r2⟩, ⟨x0, x1, x2, x3⟩, ⟨y0, y1, y2, y3⟩, ⟨z0, z1, z2, z3⟩, ⟨v0, v1, v2, v3⟩, ⟨f0, f1, f2, f3⟩, ⟨h0, h1, h2, h3⟩⟩ := hd.vis
 clear hx hy hB vx vy hS hd hwb
 rcases HT.out with hxt | ⟨hxt, hx1⟩
 ·have ax : atomT x.t = false := by rw [hxt]; rfl
  have HLK := hide (show likeT x.t 2 = 2 by unfold likeT; rw [ax]; rfl)
  rcases HU.out with hyt | ⟨hyt, hy1⟩
  ·have ay : atomT y.t = false := by rw [hyt]; rfl
   by_cases hl : y.n.length = x.n.length
   ·have HDI := hide (show doI f x y = match eachO f x.n y.n 0 x.n.length with | none => .error 70 | some l => .ok (2, l) by unfold doI; rw [if_pos hxt, if_neg (fun h => h.2 hl)])
    have hl1 : ((y.n.length : Int) == (x.n.length : Int)) = true := by rw [hl]; exact beq_self_eq_true _
    have hl2 : ((y.n.length : Int) != (x.n.length : Int)) = false := by rw [hl]; simp
    have HEC := hide (HEA.out x.n.length HNX.out id (fun h => by omega))
    clear hxt hyt hl
    cases hE : eachO f x.n y.n 0 x.n.length with
    | none =>
     rw [hE] at HDI HEC
     have HE := hide (fun w2 (hg : w.grownBy w2 none) => HEC.out w2 hg)
     clear HEC HEA hE
     go_enter Tryz.func52, Tryz.ntmps52
     go_wp2_with fail
     rw [← HW.out]
     go_wp2_with (first
      | (go_at_call 42; refine (isAtom_any _ _ _ _ _).mono ?_; rintro e wp ⟨rfl, hg⟩; have HGn := hide (gb_trans HG.out hg (.inl rfl)); have HDn := hide (HD.out.gb hg); clear r0 r1 r2 x0 x1 x2 x3 y0 y1 y2 y3 z0 z1 z2 z3 v0 v1 v2 v3 f0 f1 f2 f3 h0 h1 h2 h3 HG HD; have HG := hide HGn.out; have HD := hide HDn.out; clear HGn HDn hg; obtain ⟨⟨r0, r1, r2⟩, ⟨x0, x1, x2, x3⟩, ⟨y0, y1, y2, y3⟩, ⟨z0, z1, z2, z3⟩, ⟨v0, v1, v2, v3⟩, ⟨f0, f1, f2, f3⟩, ⟨h0, h1, h2, h3⟩⟩ := HD.out.vis)
      | (go_at_call 58; first | (have _m := MC; clear MC _m; refine (HCX.out _ HG.out).mono ?_; rintro e wq ⟨rfl, hg⟩; have HGn := hide (gb_trans HG.out hg (.inl rfl)); have HDn := hide (HD.out.gb hg); clear r0 r1 r2 x0 x1 x2 x3 y0 y1 y2 y3 z0 z1 z2 z3 v0 v1 v2 v3 f0 f1 f2 f3 h0 h1 h2 h3 HG HD; have HG := hide HGn.out; have HD := hide HDn.out; clear HGn HDn hg; obtain ⟨⟨r0, r1, r2⟩, ⟨x0, x1, x2, x3⟩, ⟨y0, y1, y2, y3⟩, ⟨z0, z1, z2, z3⟩, ⟨v0, v1, v2, v3⟩, ⟨f0, f1, f2, f3⟩, ⟨h0, h1, h2, h3⟩⟩ := HD.out.vis) | (refine (HCY.out _ HG.out).mono ?_; rintro e wq ⟨rfl, hg⟩; have HGn := hide (gb_trans HG.out hg (.inl rfl)); have HDn := hide (HD.out.gb hg); clear r0 r1 r2 x0 x1 x2 x3 y0 y1 y2 y3 z0 z1 z2 z3 v0 v1 v2 v3 f0 f1 f2 f3 h0 h1 h2 h3 HG HD; have HG := hide HGn.out; have HD := hide HDn.out; clear HGn HDn hg; obtain ⟨⟨r0, r1, r2⟩, ⟨x0, x1, x2, x3⟩, ⟨y0, y1, y2, y3⟩, ⟨z0, z1, z2, z3⟩, ⟨v0, v1, v2, v3⟩, ⟨f0, f1, f2, f3⟩, ⟨h0, h1, h2, h3⟩⟩ := HD.out.vis))
      | (go_at_call 101; refine (HE.out _ HG.out).mono ?_; rintro e wq ⟨hg, rfl⟩; have HGn := hide (gb_trans HG.out hg (.inl rfl)); have HDn := hide (HD.out.gb hg); clear r0 r1 r2 x0 x1 x2 x3 y0 y1 y2 y3 z0 z1 z2 z3 v0 v1 v2 v3 f0 f1 f2 f3 h0 h1 h2 h3 HG HD; have HG := hide HGn.out; have HD := hide HDn.out; clear HGn HDn hg; obtain ⟨⟨r0, r1, r2⟩, ⟨x0, x1, x2, x3⟩, ⟨y0, y1, y2, y3⟩, ⟨z0, z1, z2, z3⟩, ⟨v0, v1, v2, v3⟩, ⟨f0, f1, f2, f3⟩, ⟨h0, h1, h2, h3⟩⟩ := HD.out.vis))
     have hb := put_four HD.out.z (.int .i64 0) (.slice none 0 0) (.slice none 0 0) (.slice none 0 0)
     have m0 : ((((wq.setCell ⟨w.heap.size + 1 + 1 + 1, 0, none⟩ (.int .i64 0)).setCell ⟨w.heap.size + 1 + 1 + 1, 1, none⟩ (.slice none 0 0)).setCell ⟨w.heap.size + 1 + 1 + 1, 2, none⟩ (.slice none 0 0)).setCell ⟨w.heap.size + 1 + 1 + 1, 3, none⟩ (.slice none 0 0)).cell? ⟨w.heap.size + 1 + 1 + 1, 0, none⟩ = some (.int .i64 0) := (blk_cell hb 0).trans rfl
     have m1 : ((((wq.setCell ⟨w.heap.size + 1 + 1 + 1, 0, none⟩ (.int .i64 0)).setCell ⟨w.heap.size + 1 + 1 + 1, 1, none⟩ (.slice none 0 0)).setCell ⟨w.heap.size + 1 + 1 + 1, 2, none⟩ (.slice none 0 0)).setCell ⟨w.heap.size + 1 + 1 + 1, 3, none⟩ (.slice none 0 0)).cell? ⟨w.heap.size + 1 + 1 + 1, 1, none⟩ = some (.slice none 0 0) := (blk_cell hb 1).trans rfl
     have m2 : ((((wq.setCell ⟨w.heap.size + 1 + 1 + 1, 0, none⟩ (.int .i64 0)).setCell ⟨w.heap.size + 1 + 1 + 1, 1, none⟩ (.slice none 0 0)).setCell ⟨w.heap.size + 1 + 1 + 1, 2, none⟩ (.slice none 0 0)).setCell ⟨w.heap.size + 1 + 1 + 1, 3, none⟩ (.slice none 0 0)).cell? ⟨w.heap.size + 1 + 1 + 1, 2, none⟩ = some (.slice none 0 0) := (blk_cell hb 2).trans rfl
     have m3 : ((((wq.setCell ⟨w.heap.size + 1 + 1 + 1, 0, none⟩ (.int .i64 0)).setCell ⟨w.heap.size + 1 + 1 + 1, 1, none⟩ (.slice none 0 0)).setCell ⟨w.heap.size + 1 + 1 + 1, 2, none⟩ (.slice none 0 0)).setCell ⟨w.heap.size + 1 + 1 + 1, 3, none⟩ (.slice none 0 0)).cell? ⟨w.heap.size + 1 + 1 + 1, 3, none⟩ = some (.slice none 0 0) := (blk_cell hb 3).trans rfl
     exact bodyPost_ret (v := .tuple #[.agg #[.int .i64 0, .slice none 0 0, .slice none 0 0, .slice none 0 0], .int .i64 70]) (by simp [results, Tryz.results52, go_sem, m0, m1, m2, m3]) rfl ⟨put_four_gb HG.out (Nat.le_add_right _ 3) _ _ _ _, by rw [HDI.out]⟩
    | some l =>
     rw [hE] at HDI HEC
     have HE := hide (fun w2 (hg : w.grownBy w2 none) => HEC.out w2 hg)
     clear HEC HEA hE
     go_enter Tryz.func52, Tryz.ntmps52
     go_wp2_with fail
     rw [← HW.out]
     go_wp2_with (first
      | (go_at_call 42; refine (isAtom_any _ _ _ _ _).mono ?_; rintro e wp ⟨rfl, hg⟩; have HGn := hide (gb_trans HG.out hg (.inl rfl)); have HDn := hide (HD.out.gb hg); clear r0 r1 r2 x0 x1 x2 x3 y0 y1 y2 y3 z0 z1 z2 z3 v0 v1 v2 v3 f0 f1 f2 f3 h0 h1 h2 h3 HG HD; have HG := hide HGn.out; have HD := hide HDn.out; clear HGn HDn hg; obtain ⟨⟨r0, r1, r2⟩, ⟨x0, x1, x2, x3⟩, ⟨y0, y1, y2, y3⟩, ⟨z0, z1, z2, z3⟩, ⟨v0, v1, v2, v3⟩, ⟨f0, f1, f2, f3⟩, ⟨h0, h1, h2, h3⟩⟩ := HD.out.vis)
      | (go_at_call 58; first | (have _m := MC; clear MC _m; refine (HCX.out _ HG.out).mono ?_; rintro e wq ⟨rfl, hg⟩; have HGn := hide (gb_trans HG.out hg (.inl rfl)); have HDn := hide (HD.out.gb hg); clear r0 r1 r2 x0 x1 x2 x3 y0 y1 y2 y3 z0 z1 z2 z3 v0 v1 v2 v3 f0 f1 f2 f3 h0 h1 h2 h3 HG HD; have HG := hide HGn.out; have HD := hide HDn.out; clear HGn HDn hg; obtain ⟨⟨r0, r1, r2⟩, ⟨x0, x1, x2, x3⟩, ⟨y0, y1, y2, y3⟩, ⟨z0, z1, z2, z3⟩, ⟨v0, v1, v2, v3⟩, ⟨f0, f1, f2, f3⟩, ⟨h0, h1, h2, h3⟩⟩ := HD.out.vis) | (refine (HCY.out _ HG.out).mono ?_; rintro e wq ⟨rfl, hg⟩; have HGn := hide (gb_trans HG.out hg (.inl rfl)); have HDn := hide (HD.out.gb hg); clear r0 r1 r2 x0 x1 x2 x3 y0 y1 y2 y3 z0 z1 z2 z3 v0 v1 v2 v3 f0 f1 f2 f3 h0 h1 h2 h3 HG HD; have HG := hide HGn.out; have HD := hide HDn.out; clear HGn HDn hg; obtain ⟨⟨r0, r1, r2⟩, ⟨x0, x1, x2, x3⟩, ⟨y0, y1, y2, y3⟩, ⟨z0, z1, z2, z3⟩, ⟨v0, v1, v2, v3⟩, ⟨f0, f1, f2, f3⟩, ⟨h0, h1, h2, h3⟩⟩ := HD.out.vis))
      | (go_at_call 101; refine (HE.out _ HG.out).mono ?_; rintro e wq ⟨hg, A, c, rfl, ho⟩; have HO := hide (own_low ho HG.out.size); have HOB : Hid (∀ b, (Value.slice A l.length c).ownBlock = some b → w.heap.size + 4 < b) := hide (fun b e => Nat.lt_of_lt_of_le (blk_lt HD.out.v) (ho.lt b e).1); clear ho; have HGn := hide (gb_trans HG.out hg (.inl rfl)); have HDn := hide (HD.out.gb hg); clear r0 r1 r2 x0 x1 x2 x3 y0 y1 y2 y3 z0 z1 z2 z3 v0 v1 v2 v3 f0 f1 f2 f3 h0 h1 h2 h3 HG HD; have HG := hide HGn.out; have HD := hide HDn.out; clear HGn HDn hg; obtain ⟨⟨r0, r1, r2⟩, ⟨x0, x1, x2, x3⟩, ⟨y0, y1, y2, y3⟩, ⟨z0, z1, z2, z3⟩, ⟨v0, v1, v2, v3⟩, ⟨f0, f1, f2, f3⟩, ⟨h0, h1, h2, h3⟩⟩ := HD.out.vis)
      | (go_at_call 68; refine (like_any _ _ _ _ _ _ ⟨by decide, by decide⟩ ⟨A, l.length, c, rfl⟩ _).mono ?_; rintro e wr ⟨rfl, hg⟩; have HON := hide (HO.out.kept hg (by cases (Value.slice A l.length c).ownBlock <;> simp)); clear HO; have HGn := hide (gb_trans HG.out hg (.inl rfl)); have HDn := hide (HD.out.gb hg); clear r0 r1 r2 x0 x1 x2 x3 y0 y1 y2 y3 z0 z1 z2 z3 v0 v1 v2 v3 f0 f1 f2 f3 h0 h1 h2 h3 HG HD; have HG := hide HGn.out; have HD := hide HDn.out; clear HGn HDn hg; obtain ⟨⟨r0, r1, r2⟩, ⟨x0, x1, x2, x3⟩, ⟨y0, y1, y2, y3⟩, ⟨z0, z1, z2, z3⟩, ⟨v0, v1, v2, v3⟩, ⟨f0, f1, f2, f3⟩, ⟨h0, h1, h2, h3⟩⟩ := HD.out.vis))
     have hb := put_four HD.out.z (.int .i64 (likeT x.t 2)) (.slice A l.length c) (.slice none 0 0) (.slice none 0 0)
     have m0 : ((((wr.setCell ⟨w.heap.size + 1 + 1 + 1, 0, none⟩ (.int .i64 (likeT x.t 2))).setCell ⟨w.heap.size + 1 + 1 + 1, 1, none⟩ (.slice A l.length c)).setCell ⟨w.heap.size + 1 + 1 + 1, 2, none⟩ (.slice none 0 0)).setCell ⟨w.heap.size + 1 + 1 + 1, 3, none⟩ (.slice none 0 0)).cell? ⟨w.heap.size + 1 + 1 + 1, 0, none⟩ = some (.int .i64 (likeT x.t 2)) := (blk_cell hb 0).trans rfl
     have m1 : ((((wr.setCell ⟨w.heap.size + 1 + 1 + 1, 0, none⟩ (.int .i64 (likeT x.t 2))).setCell ⟨w.heap.size + 1 + 1 + 1, 1, none⟩ (.slice A l.length c)).setCell ⟨w.heap.size + 1 + 1 + 1, 2, none⟩ (.slice none 0 0)).setCell ⟨w.heap.size + 1 + 1 + 1, 3, none⟩ (.slice none 0 0)).cell? ⟨w.heap.size + 1 + 1 + 1, 1, none⟩ = some (.slice A l.length c) := (blk_cell hb 1).trans rfl
     have m2 : ((((wr.setCell ⟨w.heap.size + 1 + 1 + 1, 0, none⟩ (.int .i64 (likeT x.t 2))).setCell ⟨w.heap.size + 1 + 1 + 1, 1, none⟩ (.slice A l.length c)).setCell ⟨w.heap.size + 1 + 1 + 1, 2, none⟩ (.slice none 0 0)).setCell ⟨w.heap.size + 1 + 1 + 1, 3, none⟩ (.slice none 0 0)).cell? ⟨w.heap.size + 1 + 1 + 1, 2, none⟩ = some (.slice none 0 0) := (blk_cell hb 2).trans rfl
     have m3 : ((((wr.setCell ⟨w.heap.size + 1 + 1 + 1, 0, none⟩ (.int .i64 (likeT x.t 2))).setCell ⟨w.heap.size + 1 + 1 + 1, 1, none⟩ (.slice A l.length c)).setCell ⟨w.heap.size + 1 + 1 + 1, 2, none⟩ (.slice none 0 0)).setCell ⟨w.heap.size + 1 + 1 + 1, 3, none⟩ (.slice none 0 0)).cell? ⟨w.heap.size + 1 + 1 + 1, 3, none⟩ = some (.slice none 0 0) := (blk_cell hb 3).trans rfl
     have hon := HON.out.kept (put_four_row wr (w.heap.size + 3) (.int .i64 (likeT x.t 2)) (.slice A l.length c) (.slice none 0 0) (.slice none 0 0)) (.inr (fun e => by have := HOB.out _ e; omega))
     obtain ⟨_, _, e9, hc9, _⟩ := own_form hon
     injection e9 with _ _ e9
     exact bodyPost_ret (v := .tuple #[.agg #[.int .i64 (likeT x.t 2), .slice A l.length c, .slice none 0 0, .slice none 0 0], .int .i64 0]) (by simp [results, Tryz.results52, go_sem, m0, m1, m2, m3]) rfl ⟨put_four_gb HG.out (Nat.le_add_right _ 3) _ _ _ _, by rw [HDI.out]; exact ⟨A, c, e9 ▸ hc9, by rw [HLK.out], hon⟩⟩
   ·have HDI := hide (show doI f x y = .error 32 by unfold doI; rw [if_pos hxt, if_pos ⟨hyt, hl⟩])
    have hl1 : ((y.n.length : Int) == (x.n.length : Int)) = false := int_beq_f (by omega)
    have hl2 : ((y.n.length : Int) != (x.n.length : Int)) = true := int_bne_f (by omega)
    clear hxt hyt hl HEA
    go_enter Tryz.func52, Tryz.ntmps52
    go_wp2_with fail
    rw [← HW.out]
    go_wp2_with (first
     | (go_at_call 42; refine (isAtom_any _ _ _ _ _).mono ?_; rintro e wp ⟨rfl, hg⟩; have HGn := hide (gb_trans HG.out hg (.inl rfl)); have HDn := hide (HD.out.gb hg); clear r0 r1 r2 x0 x1 x2 x3 y0 y1 y2 y3 z0 z1 z2 z3 v0 v1 v2 v3 f0 f1 f2 f3 h0 h1 h2 h3 HG HD; have HG := hide HGn.out; have HD := hide HDn.out; clear HGn HDn hg; obtain ⟨⟨r0, r1, r2⟩, ⟨x0, x1, x2, x3⟩, ⟨y0, y1, y2, y3⟩, ⟨z0, z1, z2, z3⟩, ⟨v0, v1, v2, v3⟩, ⟨f0, f1, f2, f3⟩, ⟨h0, h1, h2, h3⟩⟩ := HD.out.vis)
     | (go_at_call 58; first | (have _m := MC; clear MC _m; refine (HCX.out _ HG.out).mono ?_; rintro e wq ⟨rfl, hg⟩; have HGn := hide (gb_trans HG.out hg (.inl rfl)); have HDn := hide (HD.out.gb hg); clear r0 r1 r2 x0 x1 x2 x3 y0 y1 y2 y3 z0 z1 z2 z3 v0 v1 v2 v3 f0 f1 f2 f3 h0 h1 h2 h3 HG HD; have HG := hide HGn.out; have HD := hide HDn.out; clear HGn HDn hg; obtain ⟨⟨r0, r1, r2⟩, ⟨x0, x1, x2, x3⟩, ⟨y0, y1, y2, y3⟩, ⟨z0, z1, z2, z3⟩, ⟨v0, v1, v2, v3⟩, ⟨f0, f1, f2, f3⟩, ⟨h0, h1, h2, h3⟩⟩ := HD.out.vis) | (refine (HCY.out _ HG.out).mono ?_; rintro e wq ⟨rfl, hg⟩; have HGn := hide (gb_trans HG.out hg (.inl rfl)); have HDn := hide (HD.out.gb hg); clear r0 r1 r2 x0 x1 x2 x3 y0 y1 y2 y3 z0 z1 z2 z3 v0 v1 v2 v3 f0 f1 f2 f3 h0 h1 h2 h3 HG HD; have HG := hide HGn.out; have HD := hide HDn.out; clear HGn HDn hg; obtain ⟨⟨r0, r1, r2⟩, ⟨x0, x1, x2, x3⟩, ⟨y0, y1, y2, y3⟩, ⟨z0, z1, z2, z3⟩, ⟨v0, v1, v2, v3⟩, ⟨f0, f1, f2, f3⟩, ⟨h0, h1, h2, h3⟩⟩ := HD.out.vis)))
    have hb := put_four HD.out.z (.int .i64 0) (.slice none 0 0) (.slice none 0 0) (.slice none 0 0)
    have m0 : ((((wq.setCell ⟨w.heap.size + 1 + 1 + 1, 0, none⟩ (.int .i64 0)).setCell ⟨w.heap.size + 1 + 1 + 1, 1, none⟩ (.slice none 0 0)).setCell ⟨w.heap.size + 1 + 1 + 1, 2, none⟩ (.slice none 0 0)).setCell ⟨w.heap.size + 1 + 1 + 1, 3, none⟩ (.slice none 0 0)).cell? ⟨w.heap.size + 1 + 1 + 1, 0, none⟩ = some (.int .i64 0) := (blk_cell hb 0).trans rfl
    have m1 : ((((wq.setCell ⟨w.heap.size + 1 + 1 + 1, 0, none⟩ (.int .i64 0)).setCell ⟨w.heap.size + 1 + 1 + 1, 1, none⟩ (.slice none 0 0)).setCell ⟨w.heap.size + 1 + 1 + 1, 2, none⟩ (.slice none 0 0)).setCell ⟨w.heap.size + 1 + 1 + 1, 3, none⟩ (.slice none 0 0)).cell? ⟨w.heap.size + 1 + 1 + 1, 1, none⟩ = some (.slice none 0 0) := (blk_cell hb 1).trans rfl
    have m2 : ((((wq.setCell ⟨w.heap.size + 1 + 1 + 1, 0, none⟩ (.int .i64 0)).setCell ⟨w.heap.size + 1 + 1 + 1, 1, none⟩ (.slice none 0 0)).setCell ⟨w.heap.size + 1 + 1 + 1, 2, none⟩ (.slice none 0 0)).setCell ⟨w.heap.size + 1 + 1 + 1, 3, none⟩ (.slice none 0 0)).cell? ⟨w.heap.size + 1 + 1 + 1, 2, none⟩ = some (.slice none 0 0) := (blk_cell hb 2).trans rfl
    have m3 : ((((wq.setCell ⟨w.heap.size + 1 + 1 + 1, 0, none⟩ (.int .i64 0)).setCell ⟨w.heap.size + 1 + 1 + 1, 1, none⟩ (.slice none 0 0)).setCell ⟨w.heap.size + 1 + 1 + 1, 2, none⟩ (.slice none 0 0)).setCell ⟨w.heap.size + 1 + 1 + 1, 3, none⟩ (.slice none 0 0)).cell? ⟨w.heap.size + 1 + 1 + 1, 3, none⟩ = some (.slice none 0 0) := (blk_cell hb 3).trans rfl
    exact bodyPost_ret (v := .tuple #[.agg #[.int .i64 0, .slice none 0 0, .slice none 0 0, .slice none 0 0], .int .i64 32]) (by simp [results, Tryz.results52, go_sem, m0, m1, m2, m3]) rfl ⟨put_four_gb HG.out (Nat.le_add_right _ 3) _ _ _ _, by rw [HDI.out]⟩
  ·have ay : atomT y.t = true := by rw [hyt]; rfl
   have HDI := hide (show doI f x y = match eachO f x.n y.n 0 x.n.length with | none => .error 70 | some l => .ok (2, l) by unfold doI; rw [if_pos hxt, if_neg (fun h => by rw [hyt] at h; exact absurd h.1 (by decide))])
   have HEC := hide (HEA.out x.n.length HNX.out id (fun _ => by omega))
   clear hxt hyt hy1
   cases hE : eachO f x.n y.n 0 x.n.length with
   | none =>
    rw [hE] at HDI HEC
    have HE := hide (fun w2 (hg : w.grownBy w2 none) => HEC.out w2 hg)
    clear HEC HEA hE
    go_enter Tryz.func52, Tryz.ntmps52
    go_wp2_with fail
    rw [← HW.out]
    go_wp2_with (first
     | (go_at_call 42; refine (isAtom_any _ _ _ _ _).mono ?_; rintro e wp ⟨rfl, hg⟩; have HGn := hide (gb_trans HG.out hg (.inl rfl)); have HDn := hide (HD.out.gb hg); clear r0 r1 r2 x0 x1 x2 x3 y0 y1 y2 y3 z0 z1 z2 z3 v0 v1 v2 v3 f0 f1 f2 f3 h0 h1 h2 h3 HG HD; have HG := hide HGn.out; have HD := hide HDn.out; clear HGn HDn hg; obtain ⟨⟨r0, r1, r2⟩, ⟨x0, x1, x2, x3⟩, ⟨y0, y1, y2, y3⟩, ⟨z0, z1, z2, z3⟩, ⟨v0, v1, v2, v3⟩, ⟨f0, f1, f2, f3⟩, ⟨h0, h1, h2, h3⟩⟩ := HD.out.vis)
     | (go_at_call 58; first | (have _m := MC; clear MC _m; refine (HCX.out _ HG.out).mono ?_; rintro e wq ⟨rfl, hg⟩; have HGn := hide (gb_trans HG.out hg (.inl rfl)); have HDn := hide (HD.out.gb hg); clear r0 r1 r2 x0 x1 x2 x3 y0 y1 y2 y3 z0 z1 z2 z3 v0 v1 v2 v3 f0 f1 f2 f3 h0 h1 h2 h3 HG HD; have HG := hide HGn.out; have HD := hide HDn.out; clear HGn HDn hg; obtain ⟨⟨r0, r1, r2⟩, ⟨x0, x1, x2, x3⟩, ⟨y0, y1, y2, y3⟩, ⟨z0, z1, z2, z3⟩, ⟨v0, v1, v2, v3⟩, ⟨f0, f1, f2, f3⟩, ⟨h0, h1, h2, h3⟩⟩ := HD.out.vis) | (refine (HCY.out _ HG.out).mono ?_; rintro e wq ⟨rfl, hg⟩; have HGn := hide (gb_trans HG.out hg (.inl rfl)); have HDn := hide (HD.out.gb hg); clear r0 r1 r2 x0 x1 x2 x3 y0 y1 y2 y3 z0 z1 z2 z3 v0 v1 v2 v3 f0 f1 f2 f3 h0 h1 h2 h3 HG HD; have HG := hide HGn.out; have HD := hide HDn.out; clear HGn HDn hg; obtain ⟨⟨r0, r1, r2⟩, ⟨x0, x1, x2, x3⟩, ⟨y0, y1, y2, y3⟩, ⟨z0, z1, z2, z3⟩, ⟨v0, v1, v2, v3⟩, ⟨f0, f1, f2, f3⟩, ⟨h0, h1, h2, h3⟩⟩ := HD.out.vis))
     | (go_at_call 101; refine (HE.out _ HG.out).mono ?_; rintro e wq ⟨hg, rfl⟩; have HGn := hide (gb_trans HG.out hg (.inl rfl)); have HDn := hide (HD.out.gb hg); clear r0 r1 r2 x0 x1 x2 x3 y0 y1 y2 y3 z0 z1 z2 z3 v0 v1 v2 v3 f0 f1 f2 f3 h0 h1 h2 h3 HG HD; have HG := hide HGn.out; have HD := hide HDn.out; clear HGn HDn hg; obtain ⟨⟨r0, r1, r2⟩, ⟨x0, x1, x2, x3⟩, ⟨y0, y1, y2, y3⟩, ⟨z0, z1, z2, z3⟩, ⟨v0, v1, v2, v3⟩, ⟨f0, f1, f2, f3⟩, ⟨h0, h1, h2, h3⟩⟩ := HD.out.vis))
    have hb := put_four HD.out.z (.int .i64 0) (.slice none 0 0) (.slice none 0 0) (.slice none 0 0)
    have m0 : ((((wq.setCell ⟨w.heap.size + 1 + 1 + 1, 0, none⟩ (.int .i64 0)).setCell ⟨w.heap.size + 1 + 1 + 1, 1, none⟩ (.slice none 0 0)).setCell ⟨w.heap.size + 1 + 1 + 1, 2, none⟩ (.slice none 0 0)).setCell ⟨w.heap.size + 1 + 1 + 1, 3, none⟩ (.slice none 0 0)).cell? ⟨w.heap.size + 1 + 1 + 1, 0, none⟩ = some (.int .i64 0) := (blk_cell hb 0).trans rfl
    have m1 : ((((wq.setCell ⟨w.heap.size + 1 + 1 + 1, 0, none⟩ (.int .i64 0)).setCell ⟨w.heap.size + 1 + 1 + 1, 1, none⟩ (.slice none 0 0)).setCell ⟨w.heap.size + 1 + 1 + 1, 2, none⟩ (.slice none 0 0)).setCell ⟨w.heap.size + 1 + 1 + 1, 3, none⟩ (.slice none 0 0)).cell? ⟨w.heap.size + 1 + 1 + 1, 1, none⟩ = some (.slice none 0 0) := (blk_cell hb 1).trans rfl
    have m2 : ((((wq.setCell ⟨w.heap.size + 1 + 1 + 1, 0, none⟩ (.int .i64 0)).setCell ⟨w.heap.size + 1 + 1 + 1, 1, none⟩ (.slice none 0 0)).setCell ⟨w.heap.size + 1 + 1 + 1, 2, none⟩ (.slice none 0 0)).setCell ⟨w.heap.size + 1 + 1 + 1, 3, none⟩ (.slice none 0 0)).cell? ⟨w.heap.size + 1 + 1 + 1, 2, none⟩ = some (.slice none 0 0) := (blk_cell hb 2).trans rfl
    have m3 : ((((wq.setCell ⟨w.heap.size + 1 + 1 + 1, 0, none⟩ (.int .i64 0)).setCell ⟨w.heap.size + 1 + 1 + 1, 1, none⟩ (.slice none 0 0)).setCell ⟨w.heap.size + 1 + 1 + 1, 2, none⟩ (.slice none 0 0)).setCell ⟨w.heap.size + 1 + 1 + 1, 3, none⟩ (.slice none 0 0)).cell? ⟨w.heap.size + 1 + 1 + 1, 3, none⟩ = some (.slice none 0 0) := (blk_cell hb 3).trans rfl
    exact bodyPost_ret (v := .tuple #[.agg #[.int .i64 0, .slice none 0 0, .slice none 0 0, .slice none 0 0], .int .i64 70]) (by simp [results, Tryz.results52, go_sem, m0, m1, m2, m3]) rfl ⟨put_four_gb HG.out (Nat.le_add_right _ 3) _ _ _ _, by rw [HDI.out]⟩
   | some l =>
    rw [hE] at HDI HEC
    have HE := hide (fun w2 (hg : w.grownBy w2 none) => HEC.out w2 hg)
    clear HEC HEA hE
    go_enter Tryz.func52, Tryz.ntmps52
    go_wp2_with fail
    rw [← HW.out]
    go_wp2_with (first
     | (go_at_call 42; refine (isAtom_any _ _ _ _ _).mono ?_; rintro e wp ⟨rfl, hg⟩; have HGn := hide (gb_trans HG.out hg (.inl rfl)); have HDn := hide (HD.out.gb hg); clear r0 r1 r2 x0 x1 x2 x3 y0 y1 y2 y3 z0 z1 z2 z3 v0 v1 v2 v3 f0 f1 f2 f3 h0 h1 h2 h3 HG HD; have HG := hide HGn.out; have HD := hide HDn.out; clear HGn HDn hg; obtain ⟨⟨r0, r1, r2⟩, ⟨x0, x1, x2, x3⟩, ⟨y0, y1, y2, y3⟩, ⟨z0, z1, z2, z3⟩, ⟨v0, v1, v2, v3⟩, ⟨f0, f1, f2, f3⟩, ⟨h0, h1, h2, h3⟩⟩ := HD.out.vis)
     | (go_at_call 58; first | (have _m := MC; clear MC _m; refine (HCX.out _ HG.out).mono ?_; rintro e wq ⟨rfl, hg⟩; have HGn := hide (gb_trans HG.out hg (.inl rfl)); have HDn := hide (HD.out.gb hg); clear r0 r1 r2 x0 x1 x2 x3 y0 y1 y2 y3 z0 z1 z2 z3 v0 v1 v2 v3 f0 f1 f2 f3 h0 h1 h2 h3 HG HD; have HG := hide HGn.out; have HD := hide HDn.out; clear HGn HDn hg; obtain ⟨⟨r0, r1, r2⟩, ⟨x0, x1, x2, x3⟩, ⟨y0, y1, y2, y3⟩, ⟨z0, z1, z2, z3⟩, ⟨v0, v1, v2, v3⟩, ⟨f0, f1, f2, f3⟩, ⟨h0, h1, h2, h3⟩⟩ := HD.out.vis) | (refine (HCY.out _ HG.out).mono ?_; rintro e wq ⟨rfl, hg⟩; have HGn := hide (gb_trans HG.out hg (.inl rfl)); have HDn := hide (HD.out.gb hg); clear r0 r1 r2 x0 x1 x2 x3 y0 y1 y2 y3 z0 z1 z2 z3 v0 v1 v2 v3 f0 f1 f2 f3 h0 h1 h2 h3 HG HD; have HG := hide HGn.out; have HD := hide HDn.out; clear HGn HDn hg; obtain ⟨⟨r0, r1, r2⟩, ⟨x0, x1, x2, x3⟩, ⟨y0, y1, y2, y3⟩, ⟨z0, z1, z2, z3⟩, ⟨v0, v1, v2, v3⟩, ⟨f0, f1, f2, f3⟩, ⟨h0, h1, h2, h3⟩⟩ := HD.out.vis))
     | (go_at_call 101; refine (HE.out _ HG.out).mono ?_; rintro e wq ⟨hg, A, c, rfl, ho⟩; have HO := hide (own_low ho HG.out.size); have HOB : Hid (∀ b, (Value.slice A l.length c).ownBlock = some b → w.heap.size + 4 < b) := hide (fun b e => Nat.lt_of_lt_of_le (blk_lt HD.out.v) (ho.lt b e).1); clear ho; have HGn := hide (gb_trans HG.out hg (.inl rfl)); have HDn := hide (HD.out.gb hg); clear r0 r1 r2 x0 x1 x2 x3 y0 y1 y2 y3 z0 z1 z2 z3 v0 v1 v2 v3 f0 f1 f2 f3 h0 h1 h2 h3 HG HD; have HG := hide HGn.out; have HD := hide HDn.out; clear HGn HDn hg; obtain ⟨⟨r0, r1, r2⟩, ⟨x0, x1, x2, x3⟩, ⟨y0, y1, y2, y3⟩, ⟨z0, z1, z2, z3⟩, ⟨v0, v1, v2, v3⟩, ⟨f0, f1, f2, f3⟩, ⟨h0, h1, h2, h3⟩⟩ := HD.out.vis)
     | (go_at_call 68; refine (like_any _ _ _ _ _ _ ⟨by decide, by decide⟩ ⟨A, l.length, c, rfl⟩ _).mono ?_; rintro e wr ⟨rfl, hg⟩; have HON := hide (HO.out.kept hg (by cases (Value.slice A l.length c).ownBlock <;> simp)); clear HO; have HGn := hide (gb_trans HG.out hg (.inl rfl)); have HDn := hide (HD.out.gb hg); clear r0 r1 r2 x0 x1 x2 x3 y0 y1 y2 y3 z0 z1 z2 z3 v0 v1 v2 v3 f0 f1 f2 f3 h0 h1 h2 h3 HG HD; have HG := hide HGn.out; have HD := hide HDn.out; clear HGn HDn hg; obtain ⟨⟨r0, r1, r2⟩, ⟨x0, x1, x2, x3⟩, ⟨y0, y1, y2, y3⟩, ⟨z0, z1, z2, z3⟩, ⟨v0, v1, v2, v3⟩, ⟨f0, f1, f2, f3⟩, ⟨h0, h1, h2, h3⟩⟩ := HD.out.vis))
    have hb := put_four HD.out.z (.int .i64 (likeT x.t 2)) (.slice A l.length c) (.slice none 0 0) (.slice none 0 0)
    have m0 : ((((wr.setCell ⟨w.heap.size + 1 + 1 + 1, 0, none⟩ (.int .i64 (likeT x.t 2))).setCell ⟨w.heap.size + 1 + 1 + 1, 1, none⟩ (.slice A l.length c)).setCell ⟨w.heap.size + 1 + 1 + 1, 2, none⟩ (.slice none 0 0)).setCell ⟨w.heap.size + 1 + 1 + 1, 3, none⟩ (.slice none 0 0)).cell? ⟨w.heap.size + 1 + 1 + 1, 0, none⟩ = some (.int .i64 (likeT x.t 2)) := (blk_cell hb 0).trans rfl
    have m1 : ((((wr.setCell ⟨w.heap.size + 1 + 1 + 1, 0, none⟩ (.int .i64 (likeT x.t 2))).setCell ⟨w.heap.size + 1 + 1 + 1, 1, none⟩ (.slice A l.length c)).setCell ⟨w.heap.size + 1 + 1 + 1, 2, none⟩ (.slice none 0 0)).setCell ⟨w.heap.size + 1 + 1 + 1, 3, none⟩ (.slice none 0 0)).cell? ⟨w.heap.size + 1 + 1 + 1, 1, none⟩ = some (.slice A l.length c) := (blk_cell hb 1).trans rfl
    have m2 : ((((wr.setCell ⟨w.heap.size + 1 + 1 + 1, 0, none⟩ (.int .i64 (likeT x.t 2))).setCell ⟨w.heap.size + 1 + 1 + 1, 1, none⟩ (.slice A l.length c)).setCell ⟨w.heap.size + 1 + 1 + 1, 2, none⟩ (.slice none 0 0)).setCell ⟨w.heap.size + 1 + 1 + 1, 3, none⟩ (.slice none 0 0)).cell? ⟨w.heap.size + 1 + 1 + 1, 2, none⟩ = some (.slice none 0 0) := (blk_cell hb 2).trans rfl
    have m3 : ((((wr.setCell ⟨w.heap.size + 1 + 1 + 1, 0, none⟩ (.int .i64 (likeT x.t 2))).setCell ⟨w.heap.size + 1 + 1 + 1, 1, none⟩ (.slice A l.length c)).setCell ⟨w.heap.size + 1 + 1 + 1, 2, none⟩ (.slice none 0 0)).setCell ⟨w.heap.size + 1 + 1 + 1, 3, none⟩ (.slice none 0 0)).cell? ⟨w.heap.size + 1 + 1 + 1, 3, none⟩ = some (.slice none 0 0) := (blk_cell hb 3).trans rfl
    have hon := HON.out.kept (put_four_row wr (w.heap.size + 3) (.int .i64 (likeT x.t 2)) (.slice A l.length c) (.slice none 0 0) (.slice none 0 0)) (.inr (fun e => by have := HOB.out _ e; omega))
    obtain ⟨_, _, e9, hc9, _⟩ := own_form hon
    injection e9 with _ _ e9
    exact bodyPost_ret (v := .tuple #[.agg #[.int .i64 (likeT x.t 2), .slice A l.length c, .slice none 0 0, .slice none 0 0], .int .i64 0]) (by simp [results, Tryz.results52, go_sem, m0, m1, m2, m3]) rfl ⟨put_four_gb HG.out (Nat.le_add_right _ 3) _ _ _ _, by rw [HDI.out]; exact ⟨A, c, e9 ▸ hc9, by rw [HLK.out], hon⟩⟩
 ·have ax : atomT x.t = true := by rw [hxt]; rfl
  have HDI := hide (show doI f x y = match eachO f x.n y.n 0 y.n.length with | none => .error 70 | some l => .ok (y.t, l) by unfold doI; rw [if_neg (by rw [hxt]; decide)])
  have HEC := hide (HEA.out y.n.length HNY.out (fun _ => by omega) id)
  rcases HU.out with hyt | ⟨hyt, hy1⟩
  ·have ay : atomT y.t = false := by rw [hyt]; rfl
   have HLK := hide (show likeT y.t 2 = y.t by unfold likeT; rw [ay, hyt]; rfl)
   have hl2 : ((y.n.length : Int) != (y.n.length : Int)) = false := by simp
   clear hxt hyt hx1
   cases hE : eachO f x.n y.n 0 y.n.length with
   | none =>
    rw [hE] at HDI HEC
    have HE := hide (fun w2 (hg : w.grownBy w2 none) => HEC.out w2 hg)
    clear HEC HEA hE
    go_enter Tryz.func52, Tryz.ntmps52
    go_wp2_with fail
    rw [← HW.out]
    go_wp2_with (first
     | (go_at_call 42; refine (isAtom_any _ _ _ _ _).mono ?_; rintro e wp ⟨rfl, hg⟩; have HGn := hide (gb_trans HG.out hg (.inl rfl)); have HDn := hide (HD.out.gb hg); clear r0 r1 r2 x0 x1 x2 x3 y0 y1 y2 y3 z0 z1 z2 z3 v0 v1 v2 v3 f0 f1 f2 f3 h0 h1 h2 h3 HG HD; have HG := hide HGn.out; have HD := hide HDn.out; clear HGn HDn hg; obtain ⟨⟨r0, r1, r2⟩, ⟨x0, x1, x2, x3⟩, ⟨y0, y1, y2, y3⟩, ⟨z0, z1, z2, z3⟩, ⟨v0, v1, v2, v3⟩, ⟨f0, f1, f2, f3⟩, ⟨h0, h1, h2, h3⟩⟩ := HD.out.vis)
     | (go_at_call 58; first | (have _m := MC; clear MC _m; refine (HCY.out _ (put_four_gb HG.out (Nat.le_add_right _ 4) (.int .i64 y.t) (.slice mA y.n.length mc) (.slice tA y.s.length tc) (.slice kA y.l.length kc))).mono ?_; rintro e wq ⟨rfl, hg⟩; have HGn := hide (gb_trans (put_four_gb HG.out (Nat.le_add_right _ 4) (.int .i64 y.t) (.slice mA y.n.length mc) (.slice tA y.s.length tc) (.slice kA y.l.length kc)) hg (.inl rfl)); have HDn := hide ((HD.out.wide (.int .i64 y.t) (.slice mA y.n.length mc) (.slice tA y.s.length tc) (.slice kA y.l.length kc)).gb hg); clear r0 r1 r2 x0 x1 x2 x3 y0 y1 y2 y3 z0 z1 z2 z3 v0 v1 v2 v3 f0 f1 f2 f3 h0 h1 h2 h3 HG HD; have HG := hide HGn.out; have HD := hide HDn.out; clear HGn HDn hg; obtain ⟨⟨r0, r1, r2⟩, ⟨x0, x1, x2, x3⟩, ⟨y0, y1, y2, y3⟩, ⟨z0, z1, z2, z3⟩, ⟨v0, v1, v2, v3⟩, ⟨f0, f1, f2, f3⟩, ⟨h0, h1, h2, h3⟩⟩ := HD.out.vis) | (refine (HCY.out _ HG.out).mono ?_; rintro e wq ⟨rfl, hg⟩; have HGn := hide (gb_trans HG.out hg (.inl rfl)); have HDn := hide (HD.out.gb hg); clear r0 r1 r2 x0 x1 x2 x3 y0 y1 y2 y3 z0 z1 z2 z3 v0 v1 v2 v3 f0 f1 f2 f3 h0 h1 h2 h3 HG HD; have HG := hide HGn.out; have HD := hide HDn.out; clear HGn HDn hg; obtain ⟨⟨r0, r1, r2⟩, ⟨x0, x1, x2, x3⟩, ⟨y0, y1, y2, y3⟩, ⟨z0, z1, z2, z3⟩, ⟨v0, v1, v2, v3⟩, ⟨f0, f1, f2, f3⟩, ⟨h0, h1, h2, h3⟩⟩ := HD.out.vis))
     | (go_at_call 101; refine (HE.out _ HG.out).mono ?_; rintro e wq ⟨hg, rfl⟩; have HGn := hide (gb_trans HG.out hg (.inl rfl)); have HDn := hide (HD.out.gb hg); clear r0 r1 r2 x0 x1 x2 x3 y0 y1 y2 y3 z0 z1 z2 z3 v0 v1 v2 v3 f0 f1 f2 f3 h0 h1 h2 h3 HG HD; have HG := hide HGn.out; have HD := hide HDn.out; clear HGn HDn hg; obtain ⟨⟨r0, r1, r2⟩, ⟨x0, x1, x2, x3⟩, ⟨y0, y1, y2, y3⟩, ⟨z0, z1, z2, z3⟩, ⟨v0, v1, v2, v3⟩, ⟨f0, f1, f2, f3⟩, ⟨h0, h1, h2, h3⟩⟩ := HD.out.vis))
    have hb := put_four HD.out.z (.int .i64 0) (.slice none 0 0) (.slice none 0 0) (.slice none 0 0)
    have m0 : ((((wq.setCell ⟨w.heap.size + 1 + 1 + 1, 0, none⟩ (.int .i64 0)).setCell ⟨w.heap.size + 1 + 1 + 1, 1, none⟩ (.slice none 0 0)).setCell ⟨w.heap.size + 1 + 1 + 1, 2, none⟩ (.slice none 0 0)).setCell ⟨w.heap.size + 1 + 1 + 1, 3, none⟩ (.slice none 0 0)).cell? ⟨w.heap.size + 1 + 1 + 1, 0, none⟩ = some (.int .i64 0) := (blk_cell hb 0).trans rfl
    have m1 : ((((wq.setCell ⟨w.heap.size + 1 + 1 + 1, 0, none⟩ (.int .i64 0)).setCell ⟨w.heap.size + 1 + 1 + 1, 1, none⟩ (.slice none 0 0)).setCell ⟨w.heap.size + 1 + 1 + 1, 2, none⟩ (.slice none 0 0)).setCell ⟨w.heap.size + 1 + 1 + 1, 3, none⟩ (.slice none 0 0)).cell? ⟨w.heap.size + 1 + 1 + 1, 1, none⟩ = some (.slice none 0 0) := (blk_cell hb 1).trans rfl
    have m2 : ((((wq.setCell ⟨w.heap.size + 1 + 1 + 1, 0, none⟩ (.int .i64 0)).setCell ⟨w.heap.size + 1 + 1 + 1, 1, none⟩ (.slice none 0 0)).setCell ⟨w.heap.size + 1 + 1 + 1, 2, none⟩ (.slice none 0 0)).setCell ⟨w.heap.size + 1 + 1 + 1, 3, none⟩ (.slice none 0 0)).cell? ⟨w.heap.size + 1 + 1 + 1, 2, none⟩ = some (.slice none 0 0) := (blk_cell hb 2).trans rfl
    have m3 : ((((wq.setCell ⟨w.heap.size + 1 + 1 + 1, 0, none⟩ (.int .i64 0)).setCell ⟨w.heap.size + 1 + 1 + 1, 1, none⟩ (.slice none 0 0)).setCell ⟨w.heap.size + 1 + 1 + 1, 2, none⟩ (.slice none 0 0)).setCell ⟨w.heap.size + 1 + 1 + 1, 3, none⟩ (.slice none 0 0)).cell? ⟨w.heap.size + 1 + 1 + 1, 3, none⟩ = some (.slice none 0 0) := (blk_cell hb 3).trans rfl
    exact bodyPost_ret (v := .tuple #[.agg #[.int .i64 0, .slice none 0 0, .slice none 0 0, .slice none 0 0], .int .i64 70]) (by simp [results, Tryz.results52, go_sem, m0, m1, m2, m3]) rfl ⟨put_four_gb HG.out (Nat.le_add_right _ 3) _ _ _ _, by rw [HDI.out]⟩
   | some l =>
    rw [hE] at HDI HEC
    have HE := hide (fun w2 (hg : w.grownBy w2 none) => HEC.out w2 hg)
    clear HEC HEA hE
    go_enter Tryz.func52, Tryz.ntmps52
    go_wp2_with fail
    rw [← HW.out]
    go_wp2_with (first
     | (go_at_call 42; refine (isAtom_any _ _ _ _ _).mono ?_; rintro e wp ⟨rfl, hg⟩; have HGn := hide (gb_trans HG.out hg (.inl rfl)); have HDn := hide (HD.out.gb hg); clear r0 r1 r2 x0 x1 x2 x3 y0 y1 y2 y3 z0 z1 z2 z3 v0 v1 v2 v3 f0 f1 f2 f3 h0 h1 h2 h3 HG HD; have HG := hide HGn.out; have HD := hide HDn.out; clear HGn HDn hg; obtain ⟨⟨r0, r1, r2⟩, ⟨x0, x1, x2, x3⟩, ⟨y0, y1, y2, y3⟩, ⟨z0, z1, z2, z3⟩, ⟨v0, v1, v2, v3⟩, ⟨f0, f1, f2, f3⟩, ⟨h0, h1, h2, h3⟩⟩ := HD.out.vis)
     | (go_at_call 58; first | (have _m := MC; clear MC _m; refine (HCY.out _ (put_four_gb HG.out (Nat.le_add_right _ 4) (.int .i64 y.t) (.slice mA y.n.length mc) (.slice tA y.s.length tc) (.slice kA y.l.length kc))).mono ?_; rintro e wq ⟨rfl, hg⟩; have HGn := hide (gb_trans (put_four_gb HG.out (Nat.le_add_right _ 4) (.int .i64 y.t) (.slice mA y.n.length mc) (.slice tA y.s.length tc) (.slice kA y.l.length kc)) hg (.inl rfl)); have HDn := hide ((HD.out.wide (.int .i64 y.t) (.slice mA y.n.length mc) (.slice tA y.s.length tc) (.slice kA y.l.length kc)).gb hg); clear r0 r1 r2 x0 x1 x2 x3 y0 y1 y2 y3 z0 z1 z2 z3 v0 v1 v2 v3 f0 f1 f2 f3 h0 h1 h2 h3 HG HD; have HG := hide HGn.out; have HD := hide HDn.out; clear HGn HDn hg; obtain ⟨⟨r0, r1, r2⟩, ⟨x0, x1, x2, x3⟩, ⟨y0, y1, y2, y3⟩, ⟨z0, z1, z2, z3⟩, ⟨v0, v1, v2, v3⟩, ⟨f0, f1, f2, f3⟩, ⟨h0, h1, h2, h3⟩⟩ := HD.out.vis) | (refine (HCY.out _ HG.out).mono ?_; rintro e wq ⟨rfl, hg⟩; have HGn := hide (gb_trans HG.out hg (.inl rfl)); have HDn := hide (HD.out.gb hg); clear r0 r1 r2 x0 x1 x2 x3 y0 y1 y2 y3 z0 z1 z2 z3 v0 v1 v2 v3 f0 f1 f2 f3 h0 h1 h2 h3 HG HD; have HG := hide HGn.out; have HD := hide HDn.out; clear HGn HDn hg; obtain ⟨⟨r0, r1, r2⟩, ⟨x0, x1, x2, x3⟩, ⟨y0, y1, y2, y3⟩, ⟨z0, z1, z2, z3⟩, ⟨v0, v1, v2, v3⟩, ⟨f0, f1, f2, f3⟩, ⟨h0, h1, h2, h3⟩⟩ := HD.out.vis))
     | (go_at_call 101; refine (HE.out _ HG.out).mono ?_; rintro e wq ⟨hg, A, c, rfl, ho⟩; have HO := hide (own_low ho HG.out.size); have HOB : Hid (∀ b, (Value.slice A l.length c).ownBlock = some b → w.heap.size + 4 < b) := hide (fun b e => Nat.lt_of_lt_of_le (blk_lt HD.out.v) (ho.lt b e).1); clear ho; have HGn := hide (gb_trans HG.out hg (.inl rfl)); have HDn := hide (HD.out.gb hg); clear r0 r1 r2 x0 x1 x2 x3 y0 y1 y2 y3 z0 z1 z2 z3 v0 v1 v2 v3 f0 f1 f2 f3 h0 h1 h2 h3 HG HD; have HG := hide HGn.out; have HD := hide HDn.out; clear HGn HDn hg; obtain ⟨⟨r0, r1, r2⟩, ⟨x0, x1, x2, x3⟩, ⟨y0, y1, y2, y3⟩, ⟨z0, z1, z2, z3⟩, ⟨v0, v1, v2, v3⟩, ⟨f0, f1, f2, f3⟩, ⟨h0, h1, h2, h3⟩⟩ := HD.out.vis)
     | (go_at_call 68; refine (like_any _ _ _ _ _ _ ⟨by decide, by decide⟩ ⟨A, l.length, c, rfl⟩ _).mono ?_; rintro e wr ⟨rfl, hg⟩; have HON := hide (HO.out.kept hg (by cases (Value.slice A l.length c).ownBlock <;> simp)); clear HO; have HGn := hide (gb_trans HG.out hg (.inl rfl)); have HDn := hide (HD.out.gb hg); clear r0 r1 r2 x0 x1 x2 x3 y0 y1 y2 y3 z0 z1 z2 z3 v0 v1 v2 v3 f0 f1 f2 f3 h0 h1 h2 h3 HG HD; have HG := hide HGn.out; have HD := hide HDn.out; clear HGn HDn hg; obtain ⟨⟨r0, r1, r2⟩, ⟨x0, x1, x2, x3⟩, ⟨y0, y1, y2, y3⟩, ⟨z0, z1, z2, z3⟩, ⟨v0, v1, v2, v3⟩, ⟨f0, f1, f2, f3⟩, ⟨h0, h1, h2, h3⟩⟩ := HD.out.vis))
    have hb := put_four HD.out.z (.int .i64 (likeT y.t 2)) (.slice A l.length c) (.slice none 0 0) (.slice none 0 0)
    have m0 : ((((wr.setCell ⟨w.heap.size + 1 + 1 + 1, 0, none⟩ (.int .i64 (likeT y.t 2))).setCell ⟨w.heap.size + 1 + 1 + 1, 1, none⟩ (.slice A l.length c)).setCell ⟨w.heap.size + 1 + 1 + 1, 2, none⟩ (.slice none 0 0)).setCell ⟨w.heap.size + 1 + 1 + 1, 3, none⟩ (.slice none 0 0)).cell? ⟨w.heap.size + 1 + 1 + 1, 0, none⟩ = some (.int .i64 (likeT y.t 2)) := (blk_cell hb 0).trans rfl
    have m1 : ((((wr.setCell ⟨w.heap.size + 1 + 1 + 1, 0, none⟩ (.int .i64 (likeT y.t 2))).setCell ⟨w.heap.size + 1 + 1 + 1, 1, none⟩ (.slice A l.length c)).setCell ⟨w.heap.size + 1 + 1 + 1, 2, none⟩ (.slice none 0 0)).setCell ⟨w.heap.size + 1 + 1 + 1, 3, none⟩ (.slice none 0 0)).cell? ⟨w.heap.size + 1 + 1 + 1, 1, none⟩ = some (.slice A l.length c) := (blk_cell hb 1).trans rfl
    have m2 : ((((wr.setCell ⟨w.heap.size + 1 + 1 + 1, 0, none⟩ (.int .i64 (likeT y.t 2))).setCell ⟨w.heap.size + 1 + 1 + 1, 1, none⟩ (.slice A l.length c)).setCell ⟨w.heap.size + 1 + 1 + 1, 2, none⟩ (.slice none 0 0)).setCell ⟨w.heap.size + 1 + 1 + 1, 3, none⟩ (.slice none 0 0)).cell? ⟨w.heap.size + 1 + 1 + 1, 2, none⟩ = some (.slice none 0 0) := (blk_cell hb 2).trans rfl
    have m3 : ((((wr.setCell ⟨w.heap.size + 1 + 1 + 1, 0, none⟩ (.int .i64 (likeT y.t 2))).setCell ⟨w.heap.size + 1 + 1 + 1, 1, none⟩ (.slice A l.length c)).setCell ⟨w.heap.size + 1 + 1 + 1, 2, none⟩ (.slice none 0 0)).setCell ⟨w.heap.size + 1 + 1 + 1, 3, none⟩ (.slice none 0 0)).cell? ⟨w.heap.size + 1 + 1 + 1, 3, none⟩ = some (.slice none 0 0) := (blk_cell hb 3).trans rfl
    have hon := HON.out.kept (put_four_row wr (w.heap.size + 3) (.int .i64 (likeT y.t 2)) (.slice A l.length c) (.slice none 0 0) (.slice none 0 0)) (.inr (fun e => by have := HOB.out _ e; omega))
    obtain ⟨_, _, e9, hc9, _⟩ := own_form hon
    injection e9 with _ _ e9
    exact bodyPost_ret (v := .tuple #[.agg #[.int .i64 (likeT y.t 2), .slice A l.length c, .slice none 0 0, .slice none 0 0], .int .i64 0]) (by simp [results, Tryz.results52, go_sem, m0, m1, m2, m3]) rfl ⟨put_four_gb HG.out (Nat.le_add_right _ 3) _ _ _ _, by rw [HDI.out]; exact ⟨A, c, e9 ▸ hc9, by rw [HLK.out], hon⟩⟩
  ·have ay : atomT y.t = true := by rw [hyt]; rfl
   have HLK := hide (show likeT y.t 2 = y.t by unfold likeT; rw [ay, hyt]; rfl)
   clear hxt hyt hx1 hy1
   cases hE : eachO f x.n y.n 0 y.n.length with
   | none =>
    rw [hE] at HDI HEC
    have HE := hide (fun w2 (hg : w.grownBy w2 none) => HEC.out w2 hg)
    clear HEC HEA hE
    go_enter Tryz.func52, Tryz.ntmps52
    go_wp2_with fail
    rw [← HW.out]
    go_wp2_with (first
     | (go_at_call 42; refine (isAtom_any _ _ _ _ _).mono ?_; rintro e wp ⟨rfl, hg⟩; have HGn := hide (gb_trans HG.out hg (.inl rfl)); have HDn := hide (HD.out.gb hg); clear r0 r1 r2 x0 x1 x2 x3 y0 y1 y2 y3 z0 z1 z2 z3 v0 v1 v2 v3 f0 f1 f2 f3 h0 h1 h2 h3 HG HD; have HG := hide HGn.out; have HD := hide HDn.out; clear HGn HDn hg; obtain ⟨⟨r0, r1, r2⟩, ⟨x0, x1, x2, x3⟩, ⟨y0, y1, y2, y3⟩, ⟨z0, z1, z2, z3⟩, ⟨v0, v1, v2, v3⟩, ⟨f0, f1, f2, f3⟩, ⟨h0, h1, h2, h3⟩⟩ := HD.out.vis)
     | (go_at_call 58; first | (have _m := MC; clear MC _m; refine (HCY.out _ (put_four_gb HG.out (Nat.le_add_right _ 4) (.int .i64 y.t) (.slice mA y.n.length mc) (.slice tA y.s.length tc) (.slice kA y.l.length kc))).mono ?_; rintro e wq ⟨rfl, hg⟩; have HGn := hide (gb_trans (put_four_gb HG.out (Nat.le_add_right _ 4) (.int .i64 y.t) (.slice mA y.n.length mc) (.slice tA y.s.length tc) (.slice kA y.l.length kc)) hg (.inl rfl)); have HDn := hide ((HD.out.wide (.int .i64 y.t) (.slice mA y.n.length mc) (.slice tA y.s.length tc) (.slice kA y.l.length kc)).gb hg); clear r0 r1 r2 x0 x1 x2 x3 y0 y1 y2 y3 z0 z1 z2 z3 v0 v1 v2 v3 f0 f1 f2 f3 h0 h1 h2 h3 HG HD; have HG := hide HGn.out; have HD := hide HDn.out; clear HGn HDn hg; obtain ⟨⟨r0, r1, r2⟩, ⟨x0, x1, x2, x3⟩, ⟨y0, y1, y2, y3⟩, ⟨z0, z1, z2, z3⟩, ⟨v0, v1, v2, v3⟩, ⟨f0, f1, f2, f3⟩, ⟨h0, h1, h2, h3⟩⟩ := HD.out.vis) | (refine (HCY.out _ HG.out).mono ?_; rintro e wq ⟨rfl, hg⟩; have HGn := hide (gb_trans HG.out hg (.inl rfl)); have HDn := hide (HD.out.gb hg); clear r0 r1 r2 x0 x1 x2 x3 y0 y1 y2 y3 z0 z1 z2 z3 v0 v1 v2 v3 f0 f1 f2 f3 h0 h1 h2 h3 HG HD; have HG := hide HGn.out; have HD := hide HDn.out; clear HGn HDn hg; obtain ⟨⟨r0, r1, r2⟩, ⟨x0, x1, x2, x3⟩, ⟨y0, y1, y2, y3⟩, ⟨z0, z1, z2, z3⟩, ⟨v0, v1, v2, v3⟩, ⟨f0, f1, f2, f3⟩, ⟨h0, h1, h2, h3⟩⟩ := HD.out.vis))
     | (go_at_call 101; refine (HE.out _ HG.out).mono ?_; rintro e wq ⟨hg, rfl⟩; have HGn := hide (gb_trans HG.out hg (.inl rfl)); have HDn := hide (HD.out.gb hg); clear r0 r1 r2 x0 x1 x2 x3 y0 y1 y2 y3 z0 z1 z2 z3 v0 v1 v2 v3 f0 f1 f2 f3 h0 h1 h2 h3 HG HD; have HG := hide HGn.out; have HD := hide HDn.out; clear HGn HDn hg; obtain ⟨⟨r0, r1, r2⟩, ⟨x0, x1, x2, x3⟩, ⟨y0, y1, y2, y3⟩, ⟨z0, z1, z2, z3⟩, ⟨v0, v1, v2, v3⟩, ⟨f0, f1, f2, f3⟩, ⟨h0, h1, h2, h3⟩⟩ := HD.out.vis))
    have hb := put_four HD.out.z (.int .i64 0) (.slice none 0 0) (.slice none 0 0) (.slice none 0 0)
    have m0 : ((((wq.setCell ⟨w.heap.size + 1 + 1 + 1, 0, none⟩ (.int .i64 0)).setCell ⟨w.heap.size + 1 + 1 + 1, 1, none⟩ (.slice none 0 0)).setCell ⟨w.heap.size + 1 + 1 + 1, 2, none⟩ (.slice none 0 0)).setCell ⟨w.heap.size + 1 + 1 + 1, 3, none⟩ (.slice none 0 0)).cell? ⟨w.heap.size + 1 + 1 + 1, 0, none⟩ = some (.int .i64 0) := (blk_cell hb 0).trans rfl
    have m1 : ((((wq.setCell ⟨w.heap.size + 1 + 1 + 1, 0, none⟩ (.int .i64 0)).setCell ⟨w.heap.size + 1 + 1 + 1, 1, none⟩ (.slice none 0 0)).setCell ⟨w.heap.size + 1 + 1 + 1, 2, none⟩ (.slice none 0 0)).setCell ⟨w.heap.size + 1 + 1 + 1, 3, none⟩ (.slice none 0 0)).cell? ⟨w.heap.size + 1 + 1 + 1, 1, none⟩ = some (.slice none 0 0) := (blk_cell hb 1).trans rfl
    have m2 : ((((wq.setCell ⟨w.heap.size + 1 + 1 + 1, 0, none⟩ (.int .i64 0)).setCell ⟨w.heap.size + 1 + 1 + 1, 1, none⟩ (.slice none 0 0)).setCell ⟨w.heap.size + 1 + 1 + 1, 2, none⟩ (.slice none 0 0)).setCell ⟨w.heap.size + 1 + 1 + 1, 3, none⟩ (.slice none 0 0)).cell? ⟨w.heap.size + 1 + 1 + 1, 2, none⟩ = some (.slice none 0 0) := (blk_cell hb 2).trans rfl
    have m3 : ((((wq.setCell ⟨w.heap.size + 1 + 1 + 1, 0, none⟩ (.int .i64 0)).setCell ⟨w.heap.size + 1 + 1 + 1, 1, none⟩ (.slice none 0 0)).setCell ⟨w.heap.size + 1 + 1 + 1, 2, none⟩ (.slice none 0 0)).setCell ⟨w.heap.size + 1 + 1 + 1, 3, none⟩ (.slice none 0 0)).cell? ⟨w.heap.size + 1 + 1 + 1, 3, none⟩ = some (.slice none 0 0) := (blk_cell hb 3).trans rfl
    exact bodyPost_ret (v := .tuple #[.agg #[.int .i64 0, .slice none 0 0, .slice none 0 0, .slice none 0 0], .int .i64 70]) (by simp [results, Tryz.results52, go_sem, m0, m1, m2, m3]) rfl ⟨put_four_gb HG.out (Nat.le_add_right _ 3) _ _ _ _, by rw [HDI.out]⟩
   | some l =>
    rw [hE] at HDI HEC
    have HE := hide (fun w2 (hg : w.grownBy w2 none) => HEC.out w2 hg)
    clear HEC HEA hE
    go_enter Tryz.func52, Tryz.ntmps52
    go_wp2_with fail
    rw [← HW.out]
    go_wp2_with (first
     | (go_at_call 42; refine (isAtom_any _ _ _ _ _).mono ?_; rintro e wp ⟨rfl, hg⟩; have HGn := hide (gb_trans HG.out hg (.inl rfl)); have HDn := hide (HD.out.gb hg); clear r0 r1 r2 x0 x1 x2 x3 y0 y1 y2 y3 z0 z1 z2 z3 v0 v1 v2 v3 f0 f1 f2 f3 h0 h1 h2 h3 HG HD; have HG := hide HGn.out; have HD := hide HDn.out; clear HGn HDn hg; obtain ⟨⟨r0, r1, r2⟩, ⟨x0, x1, x2, x3⟩, ⟨y0, y1, y2, y3⟩, ⟨z0, z1, z2, z3⟩, ⟨v0, v1, v2, v3⟩, ⟨f0, f1, f2, f3⟩, ⟨h0, h1, h2, h3⟩⟩ := HD.out.vis)
     | (go_at_call 58; first | (have _m := MC; clear MC _m; refine (HCY.out _ (put_four_gb HG.out (Nat.le_add_right _ 4) (.int .i64 y.t) (.slice mA y.n.length mc) (.slice tA y.s.length tc) (.slice kA y.l.length kc))).mono ?_; rintro e wq ⟨rfl, hg⟩; have HGn := hide (gb_trans (put_four_gb HG.out (Nat.le_add_right _ 4) (.int .i64 y.t) (.slice mA y.n.length mc) (.slice tA y.s.length tc) (.slice kA y.l.length kc)) hg (.inl rfl)); have HDn := hide ((HD.out.wide (.int .i64 y.t) (.slice mA y.n.length mc) (.slice tA y.s.length tc) (.slice kA y.l.length kc)).gb hg); clear r0 r1 r2 x0 x1 x2 x3 y0 y1 y2 y3 z0 z1 z2 z3 v0 v1 v2 v3 f0 f1 f2 f3 h0 h1 h2 h3 HG HD; have HG := hide HGn.out; have HD := hide HDn.out; clear HGn HDn hg; obtain ⟨⟨r0, r1, r2⟩, ⟨x0, x1, x2, x3⟩, ⟨y0, y1, y2, y3⟩, ⟨z0, z1, z2, z3⟩, ⟨v0, v1, v2, v3⟩, ⟨f0, f1, f2, f3⟩, ⟨h0, h1, h2, h3⟩⟩ := HD.out.vis) | (refine (HCY.out _ HG.out).mono ?_; rintro e wq ⟨rfl, hg⟩; have HGn := hide (gb_trans HG.out hg (.inl rfl)); have HDn := hide (HD.out.gb hg); clear r0 r1 r2 x0 x1 x2 x3 y0 y1 y2 y3 z0 z1 z2 z3 v0 v1 v2 v3 f0 f1 f2 f3 h0 h1 h2 h3 HG HD; have HG := hide HGn.out; have HD := hide HDn.out; clear HGn HDn hg; obtain ⟨⟨r0, r1, r2⟩, ⟨x0, x1, x2, x3⟩, ⟨y0, y1, y2, y3⟩, ⟨z0, z1, z2, z3⟩, ⟨v0, v1, v2, v3⟩, ⟨f0, f1, f2, f3⟩, ⟨h0, h1, h2, h3⟩⟩ := HD.out.vis))
     | (go_at_call 101; refine (HE.out _ HG.out).mono ?_; rintro e wq ⟨hg, A, c, rfl, ho⟩; have HO := hide (own_low ho HG.out.size); have HOB : Hid (∀ b, (Value.slice A l.length c).ownBlock = some b → w.heap.size + 4 < b) := hide (fun b e => Nat.lt_of_lt_of_le (blk_lt HD.out.v) (ho.lt b e).1); clear ho; have HGn := hide (gb_trans HG.out hg (.inl rfl)); have HDn := hide (HD.out.gb hg); clear r0 r1 r2 x0 x1 x2 x3 y0 y1 y2 y3 z0 z1 z2 z3 v0 v1 v2 v3 f0 f1 f2 f3 h0 h1 h2 h3 HG HD; have HG := hide HGn.out; have HD := hide HDn.out; clear HGn HDn hg; obtain ⟨⟨r0, r1, r2⟩, ⟨x0, x1, x2, x3⟩, ⟨y0, y1, y2, y3⟩, ⟨z0, z1, z2, z3⟩, ⟨v0, v1, v2, v3⟩, ⟨f0, f1, f2, f3⟩, ⟨h0, h1, h2, h3⟩⟩ := HD.out.vis)
     | (go_at_call 68; refine (like_any _ _ _ _ _ _ ⟨by decide, by decide⟩ ⟨A, l.length, c, rfl⟩ _).mono ?_; rintro e wr ⟨rfl, hg⟩; have HON := hide (HO.out.kept hg (by cases (Value.slice A l.length c).ownBlock <;> simp)); clear HO; have HGn := hide (gb_trans HG.out hg (.inl rfl)); have HDn := hide (HD.out.gb hg); clear r0 r1 r2 x0 x1 x2 x3 y0 y1 y2 y3 z0 z1 z2 z3 v0 v1 v2 v3 f0 f1 f2 f3 h0 h1 h2 h3 HG HD; have HG := hide HGn.out; have HD := hide HDn.out; clear HGn HDn hg; obtain ⟨⟨r0, r1, r2⟩, ⟨x0, x1, x2, x3⟩, ⟨y0, y1, y2, y3⟩, ⟨z0, z1, z2, z3⟩, ⟨v0, v1, v2, v3⟩, ⟨f0, f1, f2, f3⟩, ⟨h0, h1, h2, h3⟩⟩ := HD.out.vis))
    have hb := put_four HD.out.z (.int .i64 (likeT y.t 2)) (.slice A l.length c) (.slice none 0 0) (.slice none 0 0)
    have m0 : ((((wr.setCell ⟨w.heap.size + 1 + 1 + 1, 0, none⟩ (.int .i64 (likeT y.t 2))).setCell ⟨w.heap.size + 1 + 1 + 1, 1, none⟩ (.slice A l.length c)).setCell ⟨w.heap.size + 1 + 1 + 1, 2, none⟩ (.slice none 0 0)).setCell ⟨w.heap.size + 1 + 1 + 1, 3, none⟩ (.slice none 0 0)).cell? ⟨w.heap.size + 1 + 1 + 1, 0, none⟩ = some (.int .i64 (likeT y.t 2)) := (blk_cell hb 0).trans rfl
    have m1 : ((((wr.setCell ⟨w.heap.size + 1 + 1 + 1, 0, none⟩ (.int .i64 (likeT y.t 2))).setCell ⟨w.heap.size + 1 + 1 + 1, 1, none⟩ (.slice A l.length c)).setCell ⟨w.heap.size + 1 + 1 + 1, 2, none⟩ (.slice none 0 0)).setCell ⟨w.heap.size + 1 + 1 + 1, 3, none⟩ (.slice none 0 0)).cell? ⟨w.heap.size + 1 + 1 + 1, 1, none⟩ = some (.slice A l.length c) := (blk_cell hb 1).trans rfl
    have m2 : ((((wr.setCell ⟨w.heap.size + 1 + 1 + 1, 0, none⟩ (.int .i64 (likeT y.t 2))).setCell ⟨w.heap.size + 1 + 1 + 1, 1, none⟩ (.slice A l.length c)).setCell ⟨w.heap.size + 1 + 1 + 1, 2, none⟩ (.slice none 0 0)).setCell ⟨w.heap.size + 1 + 1 + 1, 3, none⟩ (.slice none 0 0)).cell? ⟨w.heap.size + 1 + 1 + 1, 2, none⟩ = some (.slice none 0 0) := (blk_cell hb 2).trans rfl
    have m3 : ((((wr.setCell ⟨w.heap.size + 1 + 1 + 1, 0, none⟩ (.int .i64 (likeT y.t 2))).setCell ⟨w.heap.size + 1 + 1 + 1, 1, none⟩ (.slice A l.length c)).setCell ⟨w.heap.size + 1 + 1 + 1, 2, none⟩ (.slice none 0 0)).setCell ⟨w.heap.size + 1 + 1 + 1, 3, none⟩ (.slice none 0 0)).cell? ⟨w.heap.size + 1 + 1 + 1, 3, none⟩ = some (.slice none 0 0) := (blk_cell hb 3).trans rfl
    have hon := HON.out.kept (put_four_row wr (w.heap.size + 3) (.int .i64 (likeT y.t 2)) (.slice A l.length c) (.slice none 0 0) (.slice none 0 0)) (.inr (fun e => by have := HOB.out _ e; omega))
    obtain ⟨_, _, e9, hc9, _⟩ := own_form hon
    injection e9 with _ _ e9
    exact bodyPost_ret (v := .tuple #[.agg #[.int .i64 (likeT y.t 2), .slice A l.length c, .slice none 0 0, .slice none 0 0], .int .i64 0]) (by simp [results, Tryz.results52, go_sem, m0, m1, m2, m3]) rfl ⟨put_four_gb HG.out (Nat.le_add_right _ 3) _ _ _ _, by rw [HDI.out]; exact ⟨A, c, e9 ▸ hc9, by rw [HLK.out], hon⟩⟩
end Go.Proofs.YtbmgodmfpoappaaGreat
namespace Go.Proofs.YtbmgodmfpoappaaGreat
open Go.RowKit
structure Gr where
 R : World → World → Prop
 refl : ∀ w, R w w
 trans : ∀ {a b c}, R a b → R b c → R a c
 grown : ∀ {a b : World}, a.grownBy b none → R a b
def KUp (ρ : Gr) (F : Fct) : Prop := ∀ v w w', F v w → ρ.R w w' → F v w'
theorem KUp.up {ρ : Gr} {F : Fct} (h : KUp ρ F) : F.Up := fun v w w' hv hg => h v w w' hv (ρ.grown hg)
theorem KLit.up {ρ : Gr} (u : Value) : KUp ρ (fun v _ => v = u) := fun _ _ _ h _ => h
def Oper.eff (p : Tmp) (o : Oper) : Tmp := o.dst.getD p
def effB (p : Tmp) (ops : Array Oper) : Bool := (List.range ops.size).all fun i => (List.range ops.size).all fun j =>
 match ops[i]?, ops[j]? with
 | some x, some y => (i == j) || !(x.apart ops y) || (!(y.looksAt ops).contains (Oper.eff p x) && !(Oper.eff p x == Oper.eff p y) && !(x.looksAt ops).contains (Oper.eff p y))
 | _, _ => true
structure Ap (p : Tmp) (ops : Array Oper) (x y : Oper) : Prop where
 l : ∀ t ∈ y.looksAt ops, t ≠ Oper.eff p x
 d : Oper.eff p x ≠ Oper.eff p y
 r : ∀ t ∈ x.looksAt ops, t ≠ Oper.eff p y
theorem effB_spec {p : Tmp} {ops : Array Oper} (h : effB p ops = true) {i j : Nat} {x y : Oper} (hi : ops[i]? = some x) (hj : ops[j]? = some y) (hne : i ≠ j) (ha : x.apart ops y = true) : Ap p ops x y := by
 have li : i < ops.size := (Array.getElem?_eq_some_iff.1 hi).1
 have lj : j < ops.size := (Array.getElem?_eq_some_iff.1 hj).1
 have h1 := List.all_eq_true.1 (List.all_eq_true.1 h i (List.mem_range.2 li)) j (List.mem_range.2 lj)
 simp only [hi, hj, ha, Bool.not_true, Bool.or_false, Bool.or_eq_true, Bool.and_eq_true, Bool.not_eq_true', beq_eq_false_iff_ne, beq_iff_eq] at h1
 rcases h1 with h1 | ⟨⟨h1, h2⟩, h3⟩
 ·exact absurd h1 hne
 ·have no : ∀ {l : List Tmp} {t u : Tmp}, l.contains u = false → t ∈ l → t ≠ u := fun hf ht e => by
   rw [← e, List.contains_iff_mem.2 ht] at hf
   cases hf
  exact ⟨fun _ ht => no h1 ht, h2, fun _ ht => no h3 ht⟩
def updK (G : Nat → Fct) (d : Tmp) (F : Fct) : Nat → Fct := fun t => bif Nat.beq t d then F else G t
theorem updK_same (G : Nat → Fct) (d : Tmp) (F : Fct) : updK G d F d = F := by simp [updK]
theorem updK_other (G : Nat → Fct) (d : Tmp) (F : Fct) (t : Nat) (h : t ≠ d) : updK G d F t = G t := by
 have : Nat.beq t d = false := by
  cases e : Nat.beq t d
  ·rfl
  ·exact absurd (Nat.eq_of_beq_eq_true e) h
 simp [updK, this]
theorem updK_comm (G : Nat → Fct) (x y : Tmp) (F K : Fct) (h : x ≠ y) : updK (updK G x F) y K = updK (updK G y K) x F := by
 funext t
 by_cases hx : t = x
 ·subst hx
  rw [updK_other _ y K t h, updK_same, updK_same]
 ·rw [updK_other _ x F t hx]
  by_cases hy : t = y
  ·subst hy
   rw [updK_same, updK_same]
  ·rw [updK_other _ y K t hy, updK_other _ y K t hy, updK_other _ x F t hx]
section
variable {ρ : Gr} {P : Program} {p : Tmp} {ops : Array Oper} {md : Region.Mode} {a0 : Act} {w0 : World}
def kStore (ρ : Gr) (w : World) (K : World → Prop) : Result Next → Prop
 | .ok (.value _) w' => ρ.R w w' ∧ K w'
 | .ok .skip w' => ρ.R w w' ∧ K w'
 | _ => False
structure CtxK (ρ : Gr) (p : Tmp) (ops : Array Oper) (a0 : Act) (w0 : World) (G : Nat → Fct) (a : Act) (w : World) : Prop where
 grown : ρ.R w0 w
 defers : a.defers = a0.defers
 size : a.tmps.size = a0.tmps.size
 up : ∀ t, t ≠ p → KUp ρ (G t)
 upp : (G p).Up
 fact : ∀ t, t < a0.tmps.size → G t (a.eval (.tmp t)) w
 rest : ∀ t, (∀ (i : Nat) (o : Oper), ops[i]? = some o → o.dst ≠ some t) → a.tmps[t]? = a0.tmps[t]?
theorem CtxK.start (a : Act) (w : World) : CtxK ρ p ops a w (fun t v _ => v = a.eval (.tmp t)) a w :=
 ⟨ρ.refl w, rfl, rfl, fun _ _ _ _ _ h _ => h, fun _ _ _ h _ => h, fun _ _ => rfl, fun _ _ => rfl⟩
theorem CtxK.anyUp {G : Nat → Fct} {a : Act} {w : World} (h : CtxK ρ p ops a0 w0 G a w) (t : Nat) : (G t).Up := by
 by_cases e : t = p
 ·rw [e]; exact h.upp
 ·exact (h.up t e).up
def Lasts (ρ : Gr) (p d : Tmp) (F : Fct) : Prop := F.Up ∧ (d ≠ p → KUp ρ F)
theorem CtxK.put {G : Nat → Fct} {a : Act} {w w' : World} {i : Nat} {o : Oper} {F : Fct} {v : Value} {d : Tmp} (h : CtxK ρ p ops a0 w0 G a w) (ho : ops[i]? = some o) (hd : o.dst = some d) (hg : w.grownBy w' none) (hF : Lasts ρ p (Oper.eff p o) F) (hv : F v w') :
  CtxK ρ p ops a0 w0 (updK G (Oper.eff p o) F) (a.put o.dst v) w' := by
 have he : Oper.eff p o = d := by unfold Oper.eff; rw [hd]; rfl
 rw [he] at hF ⊢
 rw [hd]
 refine ⟨ρ.trans h.grown (ρ.grown hg), h.defers, by simp [Act.put, h.size], ?_, ?_, ?_, ?_⟩
 ·intro t ht
  by_cases e : t = d
  ·subst e; rw [updK_same]; exact hF.2 ht
  ·rw [updK_other _ _ _ _ e]; exact h.up t ht
 ·by_cases e : p = d
  ·rw [← e, updK_same]; exact hF.1
  ·rw [updK_other _ _ _ _ e]; exact h.upp
 ·intro t ht
  by_cases e : t = d
  ·subst e
   rw [updK_same, eval_put_same (by rw [h.size]; exact ht)]
   exact hv
  ·rw [updK_other _ _ _ _ e, Act.eval_put (fun d' hd' hx => e (by injection hd' with hd'; injection hx with hx; rw [hx, hd']))]
   exact h.anyUp t _ _ _ (h.fact t ht) hg
 ·intro t ht
  rw [← h.rest t ht]
  have hne : d ≠ t := fun e => ht i o ho (by rw [hd, e])
  simp [Act.put, Array.getElem?_setIfInBounds_ne hne]
theorem CtxK.store {G : Nat → Fct} {a : Act} {w w' : World} {o : Oper} {F : Fct} {v : Value} (h : CtxK ρ p ops a0 w0 G a w) (hd : o.dst = none) (hg : ρ.R w w') (hF : Lasts ρ p (Oper.eff p o) F) (hv : F (a.eval (.tmp p)) w') :
  CtxK ρ p ops a0 w0 (updK G (Oper.eff p o) F) (a.put o.dst v) w' := by
 have he : Oper.eff p o = p := by unfold Oper.eff; rw [hd]; rfl
 rw [he] at hF ⊢
 rw [hd]
 refine ⟨ρ.trans h.grown hg, h.defers, h.size, ?_, ?_, ?_, h.rest⟩
 ·intro t ht
  rw [updK_other _ _ _ _ ht]; exact h.up t ht
 ·rw [updK_same]; exact hF.1
 ·intro t ht
  by_cases e : t = p
  ·subst e; rw [updK_same]; exact hv
  ·rw [updK_other _ _ _ _ e]; exact h.up t e _ _ _ (h.fact t ht) hg
def DoesK (ρ : Gr) (P : Program) (p : Tmp) (ops : Array Oper) (a0 : Act) (w0 : World) (G : Nat → Fct) (o : Oper) (F : Fct) : Prop :=
 Lasts ρ p (Oper.eff p o) F ∧ ∀ (a : Act) (w : World), a.tmps.size = a0.tmps.size → ρ.R w0 w → (∀ t ∈ o.looksAt ops, t < a0.tmps.size → G t (a.eval (.tmp t)) w) →
  (o.dst.isSome = true ∧ ((Region.wanted o (yielded ops a.tmps) = true ∧ gUpon P w F ((execOp a.eval o).run P w)) ∨ (Region.wanted o (yielded ops a.tmps) = false ∧ F undef w))) ∨
  (o.dst = none ∧ Region.wanted o (yielded ops a.tmps) = true ∧ kStore ρ w (F (a.eval (.tmp p))) ((execOp a.eval o).run P w))
theorem DoesK.same {G G' : Nat → Fct} {o : Oper} {F : Fct} (h : DoesK ρ P p ops a0 w0 G o F) (he : ∀ t ∈ o.looksAt ops, G' t = G t) : DoesK ρ P p ops a0 w0 G' o F :=
 ⟨h.1, fun a w hs hg hl => h.2 a w hs hg fun t ht hlt => by have := hl t ht hlt; rwa [he t ht] at this⟩
def kOp (ρ : Gr) (P : Program) (p : Tmp) (ops : Array Oper) (a0 : Act) (w0 : World) (i : Nat) (K : (Nat → Fct) → Prop) (G : Nat → Fct) : Prop :=
 match ops[i]? with
 | none => K G
 | some o => ∃ F, DoesK ρ P p ops a0 w0 G o F ∧ K (updK G (Oper.eff p o) F)
theorem kOp_mono {i : Nat} {K K' : (Nat → Fct) → Prop} {G : Nat → Fct} (h : ∀ G, K G → K' G) (hh : kOp ρ P p ops a0 w0 i K G) : kOp ρ P p ops a0 w0 i K' G := by
 unfold kOp at *
 split
 ·exact h _ (by simpa [*] using hh)
 ·rename_i o ho
  simp only [ho] at hh
  obtain ⟨F, h1, h2⟩ := hh
  exact ⟨F, h1, h _ h2⟩
theorem DoesK.kOp {i : Nat} {o : Oper} {F : Fct} {G : Nat → Fct} (hi : ops[i]? = some o) (h : DoesK ρ P p ops a0 w0 G o F) {K : (Nat → Fct) → Prop} (hK : K (updK G (Oper.eff p o) F)) : kOp ρ P p ops a0 w0 i K G := by
 unfold Go.Proofs.YtbmgodmfpoappaaGreat.kOp
 simp only [hi]
 exact ⟨F, h, hK⟩
theorem kOp_put {j : Nat} {oi oj : Oper} {F : Fct} {G : Nat → Fct} (hj : ops[j]? = some oj) (hap : Ap p ops oi oj) {K : (Nat → Fct) → Prop}
  (hy : DoesK ρ P p ops a0 w0 G oi F) (h : kOp ρ P p ops a0 w0 j K (updK G (Oper.eff p oi) F)) : kOp ρ P p ops a0 w0 j (fun G' => DoesK ρ P p ops a0 w0 G' oi F ∧ K (updK G' (Oper.eff p oi) F)) G := by
 unfold Go.Proofs.YtbmgodmfpoappaaGreat.kOp at *
 simp only [hj] at *
 obtain ⟨Fj, k1, k2⟩ := h
 refine ⟨Fj, k1.same fun t ht => (updK_other _ _ _ _ (hap.l t ht)).symm, hy.same fun t ht => updK_other _ _ _ _ (hap.r t ht), ?_⟩
 rw [← updK_comm G (Oper.eff p oi) (Oper.eff p oj) F Fj hap.d]
 exact k2
theorem wpOp_of_kOp {i : Nat} {K : (Nat → Fct) → Prop} {K' : Act → World → Prop} {Q' : Exit → Act → World → Prop} {G : Nat → Fct} {a : Act} {w : World} (hc : CtxK ρ p ops a0 w0 G a w)
  (h : ∀ G' a' w', CtxK ρ p ops a0 w0 G' a' w' → K G' → K' a' w') (hh : kOp ρ P p ops a0 w0 i K G) : wpOp P ops Q' i K' a w := by
 unfold Go.Proofs.YtbmgodmfpoappaaGreat.kOp at hh
 unfold wpOp
 split
 ·rename_i ho; simp only [ho] at hh; exact h _ _ _ hc hh
 ·rename_i o ho
  simp only [ho] at hh
  obtain ⟨F, ⟨hup, hdo⟩, hK⟩ := hh
  rcases hdo a w hc.size hc.grown (fun t _ ht => hc.fact t ht) with ⟨hsome, hw⟩ | ⟨hnone, hw, hr⟩
  ·obtain ⟨d, hd⟩ := Option.isSome_iff_exists.1 hsome
   rcases hw with ⟨hw, hr⟩ | ⟨hw, hr⟩
   ·simp only [hw, if_true]
    refine .inl ?_
    unfold Oper.wp
    generalize (execOp a.eval o).run P w = r at *
    cases r with
    | ok n w' =>
     cases n <;> simp only [gUpon] at hr <;> simp only [Oper.upon]
     case value u => exact h _ _ _ (hc.put ho hd hr.1 hup hr.2) hK
     case skip => exact h _ _ _ (hc.put ho hd hr.1 hup hr.2) hK
     case enter f args =>
      refine hr.2.mono fun e w'' he => ?_
      obtain ⟨v, rfl, hg, hv⟩ := he
      exact h _ _ _ (hc.put ho hd (gb_trans hr.1 hg (.inl rfl)) hup hv) hK
    | halt x w' => simp only [gUpon] at hr
   ·simp only [hw, Bool.false_eq_true, if_false]
    exact h _ _ _ (hc.put ho hd (gb_refl w none) hup hr) hK
  ·simp only [hw, if_true]
   refine .inl ?_
   unfold Oper.wp
   generalize (execOp a.eval o).run P w = r at *
   cases r with
   | ok n w' =>
    cases n <;> simp only [kStore] at hr <;> simp only [Oper.upon]
    case value u => exact h _ _ _ (hc.store hnone hr.1 hup hr.2) hK
    case skip => exact h _ _ _ (hc.store hnone hr.1 hup hr.2) hK
   | halt x w' => simp only [kStore] at hr
def wpAnyK (ρ : Gr) (P : Program) (p : Tmp) (md : Region.Mode) (ops : Array Oper) (a0 : Act) (w0 : World) (n : Nat) (L : Array Bool → (Nat → Fct) → Prop) : Nat → Array Bool → (Nat → Fct) → Prop
 | 0, listed, G => L listed G
 | f + 1, listed, G => Region.ready md ops listed ≠ [] ∧ ∀ i ∈ Region.ready md ops listed, i < n ∧ kOp ρ P p ops a0 w0 i (wpAnyK ρ P p md ops a0 w0 n L f (listed.setIfInBounds i true)) G
theorem wpAny_of_kHead {n g : Nat} {L : Array Bool → (Nat → Fct) → Prop} {Q' : Exit → Act → World → Prop} (hL : ∀ listed G a w, CtxK ρ p ops a0 w0 G a w → L listed G → wpAny P md ops Q' g listed a w) :
  ∀ (f : Nat) (listed : Array Bool) (G : Nat → Fct) (a : Act) (w : World), CtxK ρ p ops a0 w0 G a w → wpAnyK ρ P p md ops a0 w0 n L f listed G → wpAny P md ops Q' (f + g) listed a w
 | 0, listed, G, a, w, hc, h => by rw [Nat.zero_add]; exact hL _ _ _ _ hc h
 | f + 1, listed, G, a, w, hc, h => by
  rw [show f + 1 + g = (f + g) + 1 by omega]
  exact ⟨fun h0 => absurd h0 h.1, fun i hi => wpOp_of_kOp hc (fun G' a' w' hc' h' => wpAny_of_kHead hL f _ G' a' w' hc' h') (h.2 i hi).2⟩
theorem wpAnyK_first {n i : Nat} {oi : Oper} {F : Fct} {L : Array Bool → (Nat → Fct) → Prop} (hE : effB p ops = true) (hi : ops[i]? = some oi)
  (hs : Region.sinkB md ops n = true) (hc : Region.chainB md ops n = true) (hn : n < ops.size) (hin : i < n)
  (hdone : ∀ listed G, L listed G → ∀ j ∈ Region.ready md ops listed, n ≤ j) :
  ∀ (f : Nat) (listed : Array Bool) (G : Nat → Fct), HeadInv md ops n listed →
   (∀ j oj, ops[j]? = some oj → j ≠ i → listed.getD j true = false → (∀ e ∈ oj.after, Region.binds md e = true → e.on ≠ i) → oi.apart ops oj = true) →
   i ∈ Region.ready md ops listed → DoesK ρ P p ops a0 w0 G oi F →
   wpAnyK ρ P p md ops a0 w0 n L f (listed.setIfInBounds i true) (updK G (Oper.eff p oi) F) → wpAnyK ρ P p md ops a0 w0 n L (f + 1) listed G := by
 intro f
 induction f with
 | zero =>
  intro listed G inv _ hr hy H
  have hun := (mem_ready.1 hr).1
  refine ⟨fun h => (by rw [h] at hr; cases hr), fun j hj => ?_⟩
  have hjn : j < n := by
   rcases Nat.lt_or_ge j n with h | h
   ·exact h
   ·exact absurd hj (tail_waits hs hc hn inv _ i rfl hin hun j h)
  refine ⟨hjn, ?_⟩
  by_cases hji : j = i
  ·subst hji; exact hy.kOp hi H
  ·have := hdone _ _ H j (ready_mono hj hji)
   omega
 | succ f ih =>
  intro listed G inv hfree hr hy H
  have hun := (mem_ready.1 hr).1
  refine ⟨fun h => (by rw [h] at hr; cases hr), fun j hj => ?_⟩
  have hjn : j < n := by
   rcases Nat.lt_or_ge j n with h | h
   ·exact h
   ·exact absurd hj (tail_waits hs hc hn inv _ i rfl hin hun j h)
  refine ⟨hjn, ?_⟩
  by_cases hji : j = i
  ·subst hji; exact hy.kOp hi H
  ·have h1 := (H.2 j (ready_mono hj hji)).2
   obtain ⟨hjun, oj, hoj, hall⟩ := mem_ready.1 hj
   have hnot : ∀ e ∈ oj.after, Region.binds md e = true → e.on ≠ i := fun e he hb heq => by
    have h1 := hall e he hb
    rw [heq, getD_both hun] at h1
    cases h1
   have h2 := kOp_put hoj (effB_spec hE hi hoj (Ne.symm hji) (hfree j oj hoj hji hjun hnot)) hy h1
   have hfree' : ∀ k ok, ops[k]? = some ok → k ≠ i → (listed.setIfInBounds j true).getD k true = false →
     (∀ e ∈ ok.after, Region.binds md e = true → e.on ≠ i) → oi.apart ops ok = true := fun k ok hk hki hun hno => by
    refine hfree k ok hk hki ?_ hno
    by_cases hjk : j = k
    ·subst hjk; exact hjun
    ·rw [getD_set_ne true hjk] at hun; exact hun
   refine kOp_mono (fun G' h3 => ih (listed.setIfInBounds j true) G' (inv.set hj hjn) hfree' (ready_mono hr (Ne.symm hji)) h3.1 ?_) h2
   rw [Array.setIfInBounds_comm _ _ hji]
   exact h3.2
def kFacts (ρ : Gr) (P : Program) (p : Tmp) (ops : Array Oper) (a0 : Act) (w0 : World) (L : (Nat → Fct) → Prop) : List Oper → (Nat → Fct) → Prop
 | [], G => L G
 | o :: rest, G => ∃ F, DoesK ρ P p ops a0 w0 G o F ∧ kFacts ρ P p ops a0 w0 L rest (updK G (Oper.eff p o) F)
theorem wpAnyK_lex {n g : Nat} {Lq : (Nat → Fct) → Prop} (hE : effB p ops = true) (hsel : Region.noSelect ops = true) (hs : Region.sinkB md ops n = true) (hc : Region.chainB md ops n = true) (hn : n < ops.size) :
  ∀ (l : List Oper) (k : Nat) (listed : Array Bool) (G : Nat → Fct), (∀ j, j < l.length → l[j]? = ops[k + j]?) → k + l.length = n → HeadInv md ops n listed →
  Region.lexHead md ops g l.length k listed = true → kFacts ρ P p ops a0 w0 Lq l G →
  wpAnyK ρ P p md ops a0 w0 n (fun listed' G' => Region.seqB md ops g n listed' = true ∧ Lq G') l.length listed G
 | [], k, listed, G, _, hk, _, hB, h => by
  have : k = n := by simpa using hk
  subst this
  exact ⟨by simpa [Region.lexHead] using hB, h⟩
 | o :: l, k, listed, G, hl, hk, inv, hB, h => by
  have h0 : ops[k]? = some o := by simpa using (hl 0 (by simp)).symm
  simp only [List.length_cons, Region.lexHead, Bool.and_eq_true] at hB
  obtain ⟨⟨hr, hf⟩, hB'⟩ := hB
  have hkn : k < n := by simp only [List.length_cons] at hk; omega
  have hr' : k ∈ Region.ready md ops listed := by simpa using hr
  obtain ⟨F, hy, hK⟩ := h
  exact wpAnyK_first hE h0 hs hc hn hkn (fun listed' G' hL => seqB_ready hL.1) l.length listed G inv (Region.free_spec h0 hf) hr' hy
   (wpAnyK_lex hE hsel hs hc hn l (k + 1) _ _ (fun j hj => by have := hl (j + 1) (by simp; omega); simpa [Nat.add_assoc, Nat.add_comm 1 j] using this) (by simp only [List.length_cons] at hk; omega) (inv.set hr' hkn) hB' hK)
theorem wp_region_kfacts {id : Nat} {Q : Exit → Act → World → Prop} {a : Act} {w : World} {l : List Oper} (ρ : Gr) (n : Nat) (p : Tmp) (hm : P.follows .mixedOrders = true) (hB : Region.lexTailB .any l.toArray n = true) (hE : effB p l.toArray = true)
  (h : ∀ (A : Act) (O : Array Oper) (W : World) (L : (Nat → Fct) → Prop), Hid (A = a) → Hid (O = l.toArray) → Hid (W = w.drew) → Hid (∀ G, (∀ a' w', CtxK ρ p O A W G a' w' → wpList P l.toArray Q (l.drop n) a' w') → L G) →
   kFacts ρ P p O A W L (l.take n) (fun t v _ => v = A.eval (.tmp t))) : (Code.region id l.toArray true).wp P Q a w := by
 have h := h a l.toArray w.drew _ (hide rfl) (hide rfl) (hide rfl) (hide fun _ h => h)
 simp only [Region.lexTailB, Bool.and_eq_true, decide_eq_true_eq] at hB
 obtain ⟨⟨⟨⟨hsel, hn⟩, hs⟩, hc⟩, hlex⟩ := hB
 have hn' : n < l.length := by simpa using hn
 have htl : (l.take n).length = n := by simp; omega
 have hdl : (l.drop n).length = l.toArray.size - n := by simp
 have inv0 : HeadInv .any l.toArray n (Array.replicate l.toArray.size false) :=
  ⟨by simp, fun j oj _ hl => (by rw [getD_replicate_false] at hl; cases hl), fun t _ ht => getD_in (by simpa using ht) (getD_replicate_false _ _)⟩
 have H := wpAnyK_lex (md := .any) (g := l.toArray.size - n) hE hsel hs hc hn (l.take n) 0 _ _ (fun j hj => by
  have hj' : j < n := by rw [htl] at hj; exact hj
  simp [hj']) (by simpa using htl) inv0 (by rw [htl]; exact hlex) h
 refine wp_region_any hm ?_
 have := wpAny_of_kHead (Q' := Q) (g := l.toArray.size - n) (fun listed G a' w' hc' hL => by
  have := wpAny_of_seq (md := .any) (Q' := Q) (l.drop n) n listed a' w' (fun j => by simp [List.getElem?_drop]) (by rw [hdl]; exact hL.1) (hL.2 a' w' hc')
  rwa [hdl] at this) _ _ _ _ _ (CtxK.start a w.drew) H
 rw [htl, show n + (l.toArray.size - n) = l.toArray.size by omega] at this
 exact this
theorem CtxK.frame {G : Nat → Fct} {a : Act} {w : World} (h : CtxK ρ p ops a0 w0 G a w) (ds : List Tmp) (hB : ops.toList.all (fun o => match o.dst with | some d => ds.contains d | none => true) = true) :
  a = ds.foldl (fun b d => b.put (some d) (a.eval (.tmp d))) a0 :=
 Ctx.frame (G := fun _ _ _ => True) (w0 := w) (w := w) ⟨gb_refl w none, h.defers, h.size, fun _ _ _ _ _ _ => trivial, fun _ _ => trivial, h.rest⟩ ds hB
theorem kFacts_step {L : (Nat → Fct) → Prop} {G : Nat → Fct} {o : Oper} {rest : List Oper} (F : Fct) (hg : o.guard = none) (hd : o.dst.isSome = true) (hup : Lasts ρ p (Oper.eff p o) F)
  (h : ∀ (a : Act) (w : World), ρ.R w0 w → (∀ t ∈ o.op.operands.toList.filterMap (fun | .tmp t => some t | _ => none), t < a0.tmps.size → G t (a.tmps[t]?.getD undef) w) → gUpon P w F ((execOp a.eval o).run P w))
  (hr : kFacts ρ P p ops a0 w0 L rest (updK G (Oper.eff p o) F)) : kFacts ρ P p ops a0 w0 L (o :: rest) G :=
 ⟨F, ⟨hup, fun a w _ hw hl => .inl ⟨hd, .inl ⟨by simp [Region.wanted, hg], h a w hw fun t ht hs => by
  have h1 := hl t (by unfold Oper.looksAt; exact List.mem_append_left _ ht) hs
  simpa only [Act.eval, Array.getD_eq_getD_getElem?] using h1⟩⟩⟩, hr⟩
theorem kFacts_lit {L : (Nat → Fct) → Prop} {G : Nat → Fct} {o : Oper} {rest : List Oper} (u : Value) (hg : o.guard = none) (hd : o.dst.isSome = true)
  (h : ∀ (a : Act) (w : World), ρ.R w0 w → (∀ t ∈ o.op.operands.toList.filterMap (fun | .tmp t => some t | _ => none), t < a0.tmps.size → G t (a.tmps[t]?.getD undef) w) → (execOp a.eval o).run P w = .ok (.value u) w)
  (hr : kFacts ρ P p ops a0 w0 L rest (updK G (Oper.eff p o) (fun v _ => v = u))) : kFacts ρ P p ops a0 w0 L (o :: rest) G :=
 kFacts_step _ hg hd ⟨fun _ _ _ h _ => h, fun _ _ _ _ h _ => h⟩ (fun a w hw hl => by rw [h a w hw hl]; exact ⟨gb_refl w none, rfl⟩) hr
theorem kFacts_store {L : (Nat → Fct) → Prop} {G : Nat → Fct} {o : Oper} {rest : List Oper} (F : Fct) (hg : o.guard = none) (hd : o.dst = none) (hup : F.Up)
  (h : ∀ (a : Act) (w : World), ρ.R w0 w → (∀ t ∈ o.op.operands.toList.filterMap (fun | .tmp t => some t | _ => none), t < a0.tmps.size → G t (a.tmps[t]?.getD undef) w) → kStore ρ w (F (a.tmps[p]?.getD undef)) ((execOp a.eval o).run P w))
  (hr : kFacts ρ P p ops a0 w0 L rest (updK G (Oper.eff p o) F)) : kFacts ρ P p ops a0 w0 L (o :: rest) G :=
 ⟨F, ⟨⟨hup, fun hne => absurd (by unfold Oper.eff; rw [hd]; rfl) hne⟩, fun a w _ hw hl => .inr ⟨hd, by simp [Region.wanted, hg], by
  have h1 := h a w hw fun t ht hs => by
   have h1 := hl t (by unfold Oper.looksAt; exact List.mem_append_left _ ht) hs
   simpa only [Act.eval, Array.getD_eq_getD_getElem?] using h1
  simpa only [Act.eval, Array.getD_eq_getD_getElem?] using h1⟩⟩, hr⟩
theorem Lasts.lit {d : Tmp} (u : Value) : Lasts ρ p d (fun v _ => v = u) := ⟨fun _ _ _ h _ => h, fun _ _ _ _ h _ => h⟩
end
structure Keeps (s : Nat) (Z : Obj → Prop) (a b : World) : Prop where
 os : b.os = a.os
 tape : b.tape = a.tape
 output : b.output = a.output
 size : a.heap.size ≤ b.heap.size
 block : ∀ i, i < a.heap.size → b.heap[i]? = a.heap[i]? ∨ (s ≤ i ∧ ∃ o o', a.heap[i]? = some o ∧ Z o ∧ b.heap[i]? = some o' ∧ Z o')
theorem Keeps.grown {s : Nat} {Z : Obj → Prop} {a b : World} (h : Keeps s Z a b) (hs : a.heap.size ≤ s) : a.grownBy b none :=
 ⟨h.os, h.tape, h.output, h.size, fun i hi _ => (h.block i hi).resolve_right fun h => by have := h.1; omega⟩
theorem Keeps.refl_ (s : Nat) (Z : Obj → Prop) (w : World) : Keeps s Z w w := ⟨rfl, rfl, rfl, Nat.le_refl _, fun _ _ => .inl rfl⟩
theorem Keeps.trans_ {s : Nat} {Z : Obj → Prop} {a b c : World} (h : Keeps s Z a b) (k : Keeps s Z b c) : Keeps s Z a c :=
 ⟨k.os.trans h.os, k.tape.trans h.tape, k.output.trans h.output, Nat.le_trans h.size k.size, fun i hi => by
  rcases h.block i hi with e | ⟨hs, o, o', h1, h2, h3, h4⟩
  ·rcases k.block i (Nat.lt_of_lt_of_le hi h.size) with e2 | ⟨hs, o, o', k1, k2, k3, k4⟩
   ·exact .inl (e2.trans e)
   ·exact .inr ⟨hs, o, o', e ▸ k1, k2, k3, k4⟩
  ·rcases k.block i (Nat.lt_of_lt_of_le hi h.size) with e2 | ⟨_, p, p', _, _, k3, k4⟩
   ·exact .inr ⟨hs, o, o', h1, h2, e2.trans h3, h4⟩
   ·exact .inr ⟨hs, o, p', h1, h2, k3, k4⟩⟩
theorem Keeps.of_grown {s : Nat} {Z : Obj → Prop} {a b : World} (h : a.grownBy b none) : Keeps s Z a b :=
 ⟨h.os, h.tape, h.output, h.size, fun i hi => .inl (h.block i hi (by simp))⟩
abbrev grK (s : Nat) (Z : Obj → Prop) : Gr where
 R := Keeps s Z
 refl := Keeps.refl_ s Z
 trans := Keeps.trans_
 grown := Keeps.of_grown
theorem Keeps.keep {s : Nat} {Z : Obj → Prop} {a b : World} (h : Keeps s Z a b) {i : Nat} {o : Obj} (ho : a.heap[i]? = some o) (hz : ¬ Z o) : b.heap[i]? = some o := by
 rcases h.block i (blk_lt ho) with e | ⟨_, o', _, h1, h2, _⟩
 ·exact e.trans ho
 ·rw [ho] at h1; cases h1; exact absurd h2 hz
theorem Keeps.kind {s : Nat} {Z : Obj → Prop} {a b : World} (h : Keeps s Z a b) {i : Nat} (ho : ∃ o, a.heap[i]? = some o ∧ Z o) : ∃ o, b.heap[i]? = some o ∧ Z o := by
 obtain ⟨o, ho, hz⟩ := ho
 rcases h.block i (blk_lt ho) with e | ⟨_, _, o', _, _, h3, h4⟩
 ·exact ⟨o, e.trans ho, hz⟩
 ·exact ⟨o', h3, h4⟩
theorem heap_setRow_at (w : World) (g : Nat) (c c' : Array Value) (t : TypeId) (l : Nat × Nat) (h : w.heap[g]? = some (.cells c t l)) : (w.setRow g c').heap[g]? = some (.cells c' t l) := by
 simp only [World.setRow]
 rw [Array.getElem?_modify, if_pos rfl, h]
 rfl
theorem Keeps.setRow {s : Nat} {Z : Obj → Prop} {a : World} {g : Nat} {c : Array Value} {t : TypeId} {l : Nat × Nat} (c' : Array Value) (ho : a.heap[g]? = some (.cells c t l)) (hs : s ≤ g) (hz : Z (.cells c t l)) (hz' : Z (.cells c' t l)) : Keeps s Z a (a.setRow g c') := by
 refine ⟨rfl, rfl, rfl, by simp [World.setRow], fun i _ => ?_⟩
 by_cases e : i = g
 ·subst e; exact .inr ⟨hs, _, _, ho, hz, heap_setRow_at _ _ _ _ _ _ ho, hz'⟩
 ·refine .inl ?_
  simp only [World.setRow]
  rw [Array.getElem?_modify]
  have h' : ¬ g = i := fun x => e x.symm
  simp [h']
end Go.Proofs.YtbmgodmfpoappaaGreat
namespace Go.Proofs.YtbmgodmfpoappaaGreat
open Go.RowKit
attribute [local go_sem ↓] Go.wp_at_zero Go.wp_at_succ
theorem StrF.keeps {n s : Nat} {w w' : World} {g : Nat} {f : Int → Int → Option Int} (h : StrF n w g f) (hk : Keeps s ZR w w') : StrF n w' g f :=
 fun w2 h2 => h w2 fun i hi hlt => by
  rcases hk.block i hlt with e | ⟨_, o, _, ho, hz, _, _⟩
  ·rcases h2 i hi (Nat.lt_of_lt_of_le hlt hk.size) with ⟨o, ho, hz⟩ | e2
   ·exact .inl ⟨o, e ▸ ho, hz⟩
   ·exact .inr (e2.trans e)
  ·exact .inl ⟨o, ho, hz⟩
def RuleK (f : Int → Int → Option Int) : Fct := fun v w => ∃ g k, v = .tuple #[.agg #[.int .i64 2, .func (.func 118) #[] #[.pointer (some ⟨g, 0, none⟩)], Value.nilFunc], .bool true] ∧ StrF k w g f
theorem RuleK.lasts (f : Int → Int → Option Int) {p d s : Nat} : Lasts (grK s ZR) p d (RuleK f) :=
 ⟨fun _ _ _ ⟨g, k, h1, h2⟩ hg => ⟨g, k, h1, h2.gb hg⟩, fun _ _ _ _ ⟨g, k, h1, h2⟩ hk => ⟨g, k, h1, StrF.keeps h2 hk⟩⟩
def RuleG (f : Int → Int → Option Int) : Fct := fun v w => ∃ g k, v = .agg #[.int .i64 2, .func (.func 118) #[] #[.pointer (some ⟨g, 0, none⟩)], Value.nilFunc] ∧ StrF k w g f
theorem RuleG.lasts (f : Int → Int → Option Int) {p d s : Nat} : Lasts (grK s ZR) p d (RuleG f) :=
 ⟨fun _ _ _ ⟨g, k, h1, h2⟩ hg => ⟨g, k, h1, h2.gb hg⟩, fun _ _ _ _ ⟨g, k, h1, h2⟩ hk => ⟨g, k, h1, StrF.keeps h2 hk⟩⟩
def RuleB (s : Nat) (f : Int → Int → Option Int) : Fct := fun v w => ∃ b g k, v = .pointer (some ⟨b, 0, none⟩) ∧ s ≤ b ∧ w.heap[b]? = some (.cells #[.int .i64 2, .func (.func 118) #[] #[.pointer (some ⟨g, 0, none⟩)], Value.nilFunc] 73 (0, 0)) ∧ StrF k w g f
theorem RuleB.up (s : Nat) (f : Int → Int → Option Int) : (RuleB s f).Up := by
 rintro v w w' ⟨b, g, k, h1, h2, h3, h4⟩ hg
 exact ⟨b, g, k, h1, h2, (hg.block b (blk_lt h3) (by simp)).trans h3, h4.gb hg⟩
theorem BoxF.lasts9 (base : Nat) (cs : Array Value) (ty : TypeId) {p s : Nat} : Lasts (grK s ZR) p p (BoxF base cs ty) := ⟨BoxF.up _ _ _, fun h => absurd rfl h⟩
theorem info4 : (Tryz.prog.info? 26).map (·.size) = some 4 := by kernel_rfl
theorem info3 : (Tryz.prog.info? 73).map (·.size) = some 3 := by kernel_rfl
theorem kindO_int {x : Vl} (h : IntV x) : kindO x.t x.s.length x.n.length = 2 := by
 rcases h.t with e | ⟨e, e1⟩
 ·rw [e]; rfl
 ·rw [e, e1]; rfl
theorem gb_setRow_own (w : World) (g : Nat) (c : Array Value) : w.grownBy (w.setRow g c) (some g) :=
 ⟨rfl, rfl, rfl, by simp [World.setRow], fun i _ hne => heap_setRow w g c i fun e => hne (by rw [e])⟩
section
attribute [-go_sem] Go.storeCells
set_option maxHeartbeats 4000000 in
set_option maxRecDepth 100000 in
theorem do_add (x y : Vl) (w : World) (B : Nat) (nA : Option Addr) (nc : Nat) (sA : Option Addr) (sc : Nat) (lA : Option Addr) (lc : Nat) (mA : Option Addr) (mc : Nat) (tA : Option Addr) (tc : Nat) (kA : Option Addr) (kc : Nat)
  (hx : IntV x) (hy : IntV y) (hB : B ≤ w.heap.size) (vx : VB w B x nA nc sA sc lA lc) (vy : VB w B y mA mc tA tc kA kc) :
  Calls Tryz.prog 22 #[.int .i64 0, .agg #[.int .i64 x.t, .slice nA x.n.length nc, .slice sA x.s.length sc, .slice lA x.l.length lc], .agg #[.int .i64 y.t, .slice mA y.n.length mc, .slice tA y.s.length tc, .slice kA y.l.length kc]] w (DoR (doI (strictF sumF) x y) w) := by
 obtain ⟨wa, hwa⟩ : ∃ wa, wa = ((w.alloc (.cells #[.int .i64 x.t, .slice nA x.n.length nc, .slice sA x.s.length sc, .slice lA x.l.length lc] 26)).alloc (.cells #[.int .i64 y.t, .slice mA y.n.length mc, .slice tA y.s.length tc, .slice kA y.l.length kc] 26)).alloc (.cells #[.int .i64 0, .slice none 0 0, .slice none 0 0, .slice none 0 0] 26) := ⟨_, rfl⟩
 have bx : wa.heap[w.heap.size]? = some (.cells #[.int .i64 x.t, .slice nA x.n.length nc, .slice sA x.s.length sc, .slice lA x.l.length lc] 26 (0, 0)) := by rw [hwa]; exact (Below.heap_alloc _ _ _ (by rw [World.size_alloc, World.size_alloc]; omega)).trans ((Below.heap_alloc _ _ _ (by rw [World.size_alloc]; omega)).trans (heap_alloc_new w _))
 have by_ : wa.heap[w.heap.size + 1]? = some (.cells #[.int .i64 y.t, .slice mA y.n.length mc, .slice tA y.s.length tc, .slice kA y.l.length kc] 26 (0, 0)) := by rw [hwa]; exact (Below.heap_alloc _ _ _ (by rw [World.size_alloc, World.size_alloc]; omega)).trans (by have := heap_alloc_new (w.alloc (.cells #[.int .i64 x.t, .slice nA x.n.length nc, .slice sA x.s.length sc, .slice lA x.l.length lc] 26)) (.cells #[.int .i64 y.t, .slice mA y.n.length mc, .slice tA y.s.length tc, .slice kA y.l.length kc] 26); rwa [World.size_alloc] at this)
 have bz : wa.heap[w.heap.size + 2]? = some (.cells #[.int .i64 0, .slice none 0 0, .slice none 0 0, .slice none 0 0] 26 (0, 0)) := by rw [hwa]; have := heap_alloc_new ((w.alloc (.cells #[.int .i64 x.t, .slice nA x.n.length nc, .slice sA x.s.length sc, .slice lA x.l.length lc] 26)).alloc (.cells #[.int .i64 y.t, .slice mA y.n.length mc, .slice tA y.s.length tc, .slice kA y.l.length kc] 26)) (.cells #[.int .i64 0, .slice none 0 0, .slice none 0 0, .slice none 0 0] 26); rwa [World.size_alloc, World.size_alloc] at this
 have HBX := hide bx
 have HBY := hide by_
 have HBZ := hide bz
 have HGA := hide (show w.grownBy wa none by rw [hwa]; exact gb_alloc (gb_alloc (gb_alloc (gb_refl w none) _) _) _)
 have HWE := hide hwa
 have HKX := hide (kindO_int hx)
 have HKY := hide (kindO_int hy)
 have HDO := hide (fun (g k : Nat) (w2 : World) (hg : w.grownBy w2 none) (hS : StrF k w2 g (strictF sumF)) => do_ints (strictF sumF) g k x y w2 B nA nc sA sc lA lc mA mc tA tc kA kc hx hy (Nat.le_trans hB hg.size) (vx.gb hg hB) (vy.gb hg hB) hS)
 clear bx by_ bz hwa hx hy hB vx vy
 go_enter Tryz.func22, Tryz.ntmps22
 go_wp2_with fail
 rw [← HWE.out]
 go_wp2_with (go_at_call 50; refine (ops_any _).mono ?_; rintro e wb ⟨p0, p1, p2, p3, p4, p5, p6, p7, p8, p9, rfl, hc0, hc3, hc4, hgb⟩; have HC0 := hide hc0; have HC3 := hide hc3; have HC4 := hide hc4; have HGB := hide (gb_trans HGA.out hgb (.inl rfl)); have HG1 := hide hgb; have hst := ops_store (heap_alloc_new wb (.cells #[Value.nilFunc, Value.nilFunc, Value.nilFunc, Value.nilFunc, Value.nilFunc, Value.nilFunc, Value.nilFunc, Value.nilFunc, Value.nilFunc, Value.nilFunc] 67)) p0 p1 p2 p3 p4 p5 p6 p7 p8 p9; rw [World.setRow_alloc_new] at hst; clear hc0 hc3 hc4 hgb)
 clear hst
 obtain ⟨wc, hwc⟩ : ∃ wc, wc = wb.alloc (.cells #[.func (.func 117) #[] #[.pointer (some ⟨p0, 0, none⟩)], .func (.func 117) #[] #[.pointer (some ⟨p1, 0, none⟩)], .func (.func 117) #[] #[.pointer (some ⟨p2, 0, none⟩)], .func (.func 117) #[] #[.pointer (some ⟨p3, 0, none⟩)], .func (.func 117) #[] #[.pointer (some ⟨p4, 0, none⟩)], .func (.func 125) #[] #[.pointer (some ⟨p5, 0, none⟩)], .func (.func 125) #[] #[.pointer (some ⟨p6, 0, none⟩)], .func (.func 126) #[] #[.pointer (some ⟨p7, 0, none⟩)], .func (.func 126) #[] #[.pointer (some ⟨p8, 0, none⟩)], .func (.func 126) #[] #[.pointer (some ⟨p9, 0, none⟩)]] 67) := ⟨_, rfl⟩
 rw [← hwc]
 have hgc : wb.grownBy wc none := by rw [hwc]; exact gb_alloc (gb_refl wb none) _
 have HB8 := hide (show wc.heap[wb.heap.size]? = some (.cells #[.func (.func 117) #[] #[.pointer (some ⟨p0, 0, none⟩)], .func (.func 117) #[] #[.pointer (some ⟨p1, 0, none⟩)], .func (.func 117) #[] #[.pointer (some ⟨p2, 0, none⟩)], .func (.func 117) #[] #[.pointer (some ⟨p3, 0, none⟩)], .func (.func 117) #[] #[.pointer (some ⟨p4, 0, none⟩)], .func (.func 125) #[] #[.pointer (some ⟨p5, 0, none⟩)], .func (.func 125) #[] #[.pointer (some ⟨p6, 0, none⟩)], .func (.func 126) #[] #[.pointer (some ⟨p7, 0, none⟩)], .func (.func 126) #[] #[.pointer (some ⟨p8, 0, none⟩)], .func (.func 126) #[] #[.pointer (some ⟨p9, 0, none⟩)]] 67 (0, 0)) by rw [hwc]; exact heap_alloc_new wb _)
 have HG := hide (gb_trans HGB.out hgc (.inl rfl))
 have HGC := hide (gb_trans HG1.out hgc (.inl rfl))
 have H0 : Hid (OpC wc p0 (strictF sumF)) := hide (opC_add (cell_gb HC0.out hgc))
 have HCX := hide (show C4 wc w.heap.size 0 (.int .i64 x.t) (.slice nA x.n.length nc) (.slice sA x.s.length sc) (.slice lA x.l.length lc) by have h := blk_keep HBX.out HGC.out (by simp); exact c4k h)
 have HCY := hide (show C4 wc (w.heap.size + 1) 0 (.int .i64 y.t) (.slice mA y.n.length mc) (.slice tA y.s.length tc) (.slice kA y.l.length kc) by have h := blk_keep HBY.out HGC.out (by simp); exact c4k h)
 obtain ⟨b8, hb8⟩ : ∃ b8, b8 = wb.heap.size := ⟨_, rfl⟩
 rw [← hb8] at HB8 ⊢
 clear hgc hwc hb8 HC0 HC3 HC4 HGA HGB HG1 HWE
 refine wp_region_kfacts (grK wc.heap.size ZR) 14 9 (by kernel_rfl) (by kernel_rfl) (by kernel_rfl) ?_
 intro A O W L HA HO HW HL
 simp only [List.take_succ_cons, List.take_zero]
 have HS := hide (show A.tmps.size = 40 by rw [HA.out]; rfl)
 have HGW := hide (show wc.grownBy W none by rw [HW.out]; exact gb_drew (gb_refl wc none))
 have HSW := hide (show W.heap.size ≤ wc.heap.size by rw [HW.out]; exact Nat.le_refl _)
 have A0 := hide (show A.eval (.tmp 0) = .int .i64 0 by rw [HA.out]; rfl)
 have A4 := hide (show A.eval (.tmp 4) = .pointer (some ⟨w.heap.size, 0, none⟩) by rw [HA.out]; rfl)
 have A5 := hide (show A.eval (.tmp 5) = .pointer (some ⟨w.heap.size + 1, 0, none⟩) by rw [HA.out]; rfl)
 have A8 := hide (show A.eval (.tmp 8) = .pointer (some ⟨b8, 0, none⟩) by rw [HA.out]; rfl)
 refine kFacts_lit (.int .i64 0) rfl rfl ?_ ?_
 ·intro a wq hw hl
  have e0 : a.tmps[0]?.getD undef = .int .i64 0 := (hl 0 (by first | (simp [Op.operands]; done) | simp [Op.operands, Call.operands]) (by rw [HS.out]; decide)).trans A0.out
  clear hl
  go_simp
 refine kFacts_lit (.pointer (some ⟨b8, 0, none⟩)) rfl rfl ?_ ?_
 ·intro a wq hw hl
  have e8 : a.tmps[8]?.getD undef = .pointer (some ⟨b8, 0, none⟩) := (hl 8 (by first | (simp [Op.operands]; done) | simp [Op.operands, Call.operands]) (by rw [HS.out]; decide)).trans A8.out
  have e20 : a.tmps[20]?.getD undef = .int .i64 0 := hl 20 (by first | (simp [Op.operands]; done) | simp [Op.operands, Call.operands]) (by rw [HS.out]; decide)
  clear hl
  go_simp
 refine kFacts_lit (.func (.func 117) #[] #[.pointer (some ⟨p0, 0, none⟩)]) rfl rfl ?_ ?_
 ·intro a wq hw hl
  have e21 : a.tmps[21]?.getD undef = .pointer (some ⟨b8, 0, none⟩) := hl 21 (by first | (simp [Op.operands]; done) | simp [Op.operands, Call.operands]) (by rw [HS.out]; decide)
  have hk := blk_keep HB8.out (gb_trans HGW.out (Keeps.grown hw HSW.out) (.inl rfl)) (by simp)
  have ck : wq.cell? ⟨b8, 0, none⟩ = some (.func (.func 117) #[] #[.pointer (some ⟨p0, 0, none⟩)]) := by rw [blk_cell hk]; rfl
  clear hk
  clear hl
  go_simp
 refine kFacts_lit (.agg #[.int .i64 x.t, .slice nA x.n.length nc, .slice sA x.s.length sc, .slice lA x.l.length lc]) rfl rfl ?_ ?_
 ·intro a wq hw hl
  have e4 : a.tmps[4]?.getD undef = .pointer (some ⟨w.heap.size, 0, none⟩) := (hl 4 (by first | (simp [Op.operands]; done) | simp [Op.operands, Call.operands]) (by rw [HS.out]; decide)).trans A4.out
  obtain ⟨c0, c1, c2, c3⟩ := HCX.out.gb (gb_trans HGW.out (Keeps.grown hw HSW.out) (.inl rfl))
  clear hl
  go_simp
 refine kFacts_step (fun vq _ => vq = .int .i64 2) rfl rfl (Lasts.lit _) ?_ ?_
 ·intro a wq hw hl
  have e23 : a.tmps[23]?.getD undef = .agg #[.int .i64 x.t, .slice nA x.n.length nc, .slice sA x.s.length sc, .slice lA x.l.length lc] := hl 23 (by first | (simp [Op.operands]; done) | simp [Op.operands, Call.operands]) (by rw [HS.out]; decide)
  clear hl
  go_simp
  exact gUpon_lit ((kind_any _ _ _ _ _ _ _ _ _).mono fun _ _ h => ⟨h.1.trans (by rw [HKX.out]), h.2⟩)
 refine kFacts_lit (.agg #[.int .i64 y.t, .slice mA y.n.length mc, .slice tA y.s.length tc, .slice kA y.l.length kc]) rfl rfl ?_ ?_
 ·intro a wq hw hl
  have e5 : a.tmps[5]?.getD undef = .pointer (some ⟨w.heap.size + 1, 0, none⟩) := (hl 5 (by first | (simp [Op.operands]; done) | simp [Op.operands, Call.operands]) (by rw [HS.out]; decide)).trans A5.out
  obtain ⟨c0, c1, c2, c3⟩ := HCY.out.gb (gb_trans HGW.out (Keeps.grown hw HSW.out) (.inl rfl))
  clear hl
  go_simp
 refine kFacts_step (fun vq _ => vq = .int .i64 2) rfl rfl (Lasts.lit _) ?_ ?_
 ·intro a wq hw hl
  have e25 : a.tmps[25]?.getD undef = .agg #[.int .i64 y.t, .slice mA y.n.length mc, .slice tA y.s.length tc, .slice kA y.l.length kc] := hl 25 (by first | (simp [Op.operands]; done) | simp [Op.operands, Call.operands]) (by rw [HS.out]; decide)
  clear hl
  go_simp
  exact gUpon_lit ((kind_any _ _ _ _ _ _ _ _ _).mono fun _ _ h => ⟨h.1.trans (by rw [HKY.out]), h.2⟩)
 refine kFacts_lit (.agg #[.int .i64 2, .int .i64 2]) rfl rfl ?_ ?_
 ·intro a wq hw hl
  have e24 : a.tmps[24]?.getD undef = .int .i64 2 := hl 24 (by first | (simp [Op.operands]; done) | simp [Op.operands, Call.operands]) (by rw [HS.out]; decide)
  have e26 : a.tmps[26]?.getD undef = .int .i64 2 := hl 26 (by first | (simp [Op.operands]; done) | simp [Op.operands, Call.operands]) (by rw [HS.out]; decide)
  clear hl
  go_simp
 refine kFacts_step (RuleK (strictF sumF)) rfl rfl (RuleK.lasts (strictF sumF)) ?_ ?_
 ·intro a wq hw hl
  have e22 : a.tmps[22]?.getD undef = .func (.func 117) #[] #[.pointer (some ⟨p0, 0, none⟩)] := hl 22 (by first | (simp [Op.operands]; done) | simp [Op.operands, Call.operands]) (by rw [HS.out]; decide)
  have e27 : a.tmps[27]?.getD undef = .agg #[.int .i64 2, .int .i64 2] := hl 27 (by first | (simp [Op.operands]; done) | simp [Op.operands, Call.operands]) (by rw [HS.out]; decide)
  clear hl
  go_simp
  exact ⟨gb_refl _ none, (ruleOf_ints p0 _ (H0.out.gb (gb_trans HGW.out (Keeps.grown hw HSW.out) (.inl rfl)))).mono fun _ _ ⟨g, h1, h2, h3⟩ => ⟨_, h1, h3, g, _, rfl, h2⟩⟩
 refine kFacts_step (RuleK (strictF sumF)) rfl rfl (RuleK.lasts (strictF sumF)) ?_ ?_
 ·intro a wq hw hl
  have h28 : (RuleK (strictF sumF)) (a.tmps[28]?.getD undef) wq := hl 28 (by first | (simp [Op.operands]; done) | simp [Op.operands, Call.operands]) (by rw [HS.out]; decide)
  obtain ⟨g, k, e28, hS⟩ := h28
  clear hl
  go_simp
  exact ⟨gb_refl _ none, g, k, rfl, hS⟩
 refine kFacts_step (RuleG (strictF sumF)) rfl rfl (RuleG.lasts (strictF sumF)) ?_ ?_
 ·intro a wq hw hl
  have h19 : (RuleK (strictF sumF)) (a.tmps[19]?.getD undef) wq := hl 19 (by first | (simp [Op.operands]; done) | simp [Op.operands, Call.operands]) (by rw [HS.out]; decide)
  obtain ⟨g, k, e19, hS⟩ := h19
  clear hl
  go_simp
  exact ⟨gb_refl _ none, g, k, rfl, hS⟩
 refine kFacts_lit (.bool true) rfl rfl ?_ ?_
 ·intro a wq hw hl
  have h19 : (RuleK (strictF sumF)) (a.tmps[19]?.getD undef) wq := hl 19 (by first | (simp [Op.operands]; done) | simp [Op.operands, Call.operands]) (by rw [HS.out]; decide)
  obtain ⟨g, k, e19, _⟩ := h19
  clear hl
  go_simp
 refine kFacts_step (BoxF wc.heap.size #[.int .i64 0, Value.nilFunc, Value.nilFunc] 73) rfl rfl (BoxF.lasts9 _ _ _) ?_ ?_
 ·intro a wq hw hl
  clear hl
  go_simp
  exact BoxF.new _ _ (Nat.le_trans HGW.out.size hw.size)
 refine kFacts_store (RuleB wc.heap.size (strictF sumF)) rfl rfl (RuleB.up _ _) ?_ ?_
 ·intro a wq hw hl
  have h9 : (BoxF wc.heap.size #[.int .i64 0, Value.nilFunc, Value.nilFunc] 73) (a.tmps[9]?.getD undef) wq := hl 9 (by first | (simp [Op.operands]; done) | simp [Op.operands, Call.operands]) (by rw [HS.out]; decide)
  obtain ⟨b, e9, hb9, hbs⟩ := h9
  have h29 : (RuleG (strictF sumF)) (a.tmps[29]?.getD undef) wq := hl 29 (by first | (simp [Op.operands]; done) | simp [Op.operands, Call.operands]) (by rw [HS.out]; decide)
  obtain ⟨g, k, e29, hS⟩ := h29
  have hst := storeCells_row (P := Tryz.prog) (c' := #[.int .i64 2, .func (.func 118) #[] #[.pointer (some ⟨g, 0, none⟩)], Value.nilFunc]) hb9 info3 rfl (by simp [Value.oneCell'])
  have hkp := Keeps.setRow (s := wc.heap.size) (Z := ZR) #[.int .i64 2, .func (.func 118) #[] #[.pointer (some ⟨g, 0, none⟩)], Value.nilFunc] hb9 hbs ⟨0, _, _, rfl, by decide⟩ ⟨2, _, _, rfl, by decide⟩
  have hrow := heap_setRow_at _ _ _ #[.int .i64 2, .func (.func 118) #[] #[.pointer (some ⟨g, 0, none⟩)], Value.nilFunc] _ _ hb9
  clear hl
  go_simp
  exact ⟨hkp, b, g, k, rfl, hbs, hrow, hS.keeps hkp⟩
 refine HL.out _ (fun a' w5 hc => ?_)
 have h9 : (RuleB wc.heap.size (strictF sumF)) (a'.eval (.tmp 9)) w5 := hc.fact 9 (by rw [HS.out]; decide)
 obtain ⟨b, g, k, e9, hbs, hb9, hS⟩ := h9
 have e30 : a'.eval (.tmp 30) = .bool true := hc.fact 30 (by rw [HS.out]; decide)
 have hgw5 := gb_trans HGW.out (Keeps.grown hc.grown HSW.out) (.inl rfl)
 have hfr := hc.frame [20, 21, 22, 23, 24, 25, 26, 27, 28, 19, 29, 30, 9, 10] (by rw [HO.out]; kernel_rfl)
 rw [hfr]
 clear hfr hc
 rw [HA.out]
 clear HA HO HL HW HS HGW HSW A0 A4 A5 A8
 clear A O W L
 simp only [List.drop_succ_cons, List.drop_zero, List.foldl_cons, List.foldl_nil, Act.put, List.setIfInBounds_toArray, List.set_cons_succ, List.set_cons_zero]
 rw [e9, e30]
 generalize a'.eval (.tmp 20) = x20
 generalize a'.eval (.tmp 21) = x21
 generalize a'.eval (.tmp 22) = x22
 generalize a'.eval (.tmp 23) = x23
 generalize a'.eval (.tmp 24) = x24
 generalize a'.eval (.tmp 25) = x25
 generalize a'.eval (.tmp 26) = x26
 generalize a'.eval (.tmp 27) = x27
 generalize a'.eval (.tmp 28) = x28
 generalize a'.eval (.tmp 19) = x19
 generalize a'.eval (.tmp 29) = x29
 generalize a'.eval (.tmp 10) = x10
 clear e9 e30
 clear a'
 have HG5 := hide (gb_trans HG.out hgw5 (.inl rfl))
 have HDC := hide (HDO.out g k w5 HG5.out hS)
 have hx5 := HCX.out.gb hgw5
 have hy5 := HCY.out.gb hgw5
 have HBZ5 := hide (blk_keep HBZ.out (gb_trans HGC.out hgw5 (.inl rfl)) (by simp))
 have r0 : w5.cell? ⟨b, 0, none⟩ = some (.int .i64 2) := by rw [blk_cell hb9]; rfl
 have r1 : w5.cell? ⟨b, 1, none⟩ = some (.func (.func 118) #[] #[.pointer (some ⟨g, 0, none⟩)]) := by rw [blk_cell hb9]; rfl
 have r2 : w5.cell? ⟨b, 2, none⟩ = some Value.nilFunc := by rw [blk_cell hb9]; rfl
 obtain ⟨x0, x1, x2, x3⟩ := hx5
 obtain ⟨y0, y1, y2, y3⟩ := hy5
 clear hS hgw5 hbs hb9 HDO H0 HB8 HKX HKY HBX HBY HBZ HCX HCY HGC HG
 cases hdo : doI (strictF sumF) x y with
 | error ek =>
  rw [hdo] at HDC
  go_wp2_with (go_at_call 52; refine HDC.out.mono ?_; rintro e wn ⟨hgn, rfl⟩; have HGN := hide (gb_trans HG5.out hgn (.inl rfl)); have hbz := blk_keep HBZ5.out hgn (by simp); have HZ := hide hbz; have hst := storeCells_row (P := Tryz.prog) (c' := #[.int .i64 0, .slice none 0 0, .slice none 0 0, .slice none 0 0]) hbz info4 rfl (by simp [Value.oneCell']); clear hgn hbz)
  have hrow := heap_setRow_at _ _ _ #[.int .i64 0, .slice none 0 0, .slice none 0 0, .slice none 0 0] _ _ HZ.out
  have m0 := blk_cell hrow 0
  have m1 := blk_cell hrow 1
  have m2 := blk_cell hrow 2
  have m3 := blk_cell hrow 3
  simp only [List.getElem?_toArray, List.getElem?_cons_zero, List.getElem?_cons_succ] at m0 m1 m2 m3
  exact bodyPost_ret (v := .tuple #[.agg #[.int .i64 0, .slice none 0 0, .slice none 0 0, .slice none 0 0], .int .i64 ek]) (by simp [results, Tryz.results22, go_sem, m0, m1, m2, m3]) rfl ⟨gb_setRow HGN.out _ _ (by omega), by rw [hdo]⟩
 | ok tl =>
  obtain ⟨t, l⟩ := tl
  rw [hdo] at HDC
  go_wp2_with (go_at_call 52; refine HDC.out.mono ?_; rintro e wn ⟨hgn, A, c, hlc, rfl, ho⟩; have HGN := hide (gb_trans HG5.out hgn (.inl rfl)); have hbz := blk_keep HBZ5.out hgn (by simp); have HZ := hide hbz; have HO := hide ho; have HLC := hide hlc; have hst := storeCells_row (P := Tryz.prog) (c' := #[.int .i64 t, .slice A l.length c, .slice none 0 0, .slice none 0 0]) hbz info4 rfl (by simp [Value.oneCell']); clear hgn hbz ho hlc)
  have hrow := heap_setRow_at _ _ _ #[.int .i64 t, .slice A l.length c, .slice none 0 0, .slice none 0 0] _ _ HZ.out
  have m0 := blk_cell hrow 0
  have m1 := blk_cell hrow 1
  have m2 := blk_cell hrow 2
  have m3 := blk_cell hrow 3
  simp only [List.getElem?_toArray, List.getElem?_cons_zero, List.getElem?_cons_succ] at m0 m1 m2 m3
  have hon := own_low (HO.out.kept (gb_setRow_own wn (w.heap.size + 2) #[.int .i64 t, .slice A l.length c, .slice none 0 0, .slice none 0 0]) (.inr (own_ne HO.out HZ.out (by decide)))) HG5.out.size
  exact bodyPost_ret (v := .tuple #[.agg #[.int .i64 t, .slice A l.length c, .slice none 0 0, .slice none 0 0], .int .i64 0]) (by simp [results, Tryz.results22, go_sem, m0, m1, m2, m3]) rfl ⟨gb_setRow HGN.out _ _ (by omega), by rw [hdo]; exact ⟨A, c, HLC.out, rfl, hon⟩⟩
set_option maxHeartbeats 4000000 in
set_option maxRecDepth 100000 in
theorem do_divide (x y : Vl) (w : World) (B : Nat) (nA : Option Addr) (nc : Nat) (sA : Option Addr) (sc : Nat) (lA : Option Addr) (lc : Nat) (mA : Option Addr) (mc : Nat) (tA : Option Addr) (tc : Nat) (kA : Option Addr) (kc : Nat)
  (hx : IntV x) (hy : IntV y) (hB : B ≤ w.heap.size) (vx : VB w B x nA nc sA sc lA lc) (vy : VB w B y mA mc tA tc kA kc) :
  Calls Tryz.prog 22 #[.int .i64 3, .agg #[.int .i64 x.t, .slice nA x.n.length nc, .slice sA x.s.length sc, .slice lA x.l.length lc], .agg #[.int .i64 y.t, .slice mA y.n.length mc, .slice tA y.s.length tc, .slice kA y.l.length kc]] w (DoR (doI (strictF quoF) x y) w) := by
 obtain ⟨wa, hwa⟩ : ∃ wa, wa = ((w.alloc (.cells #[.int .i64 x.t, .slice nA x.n.length nc, .slice sA x.s.length sc, .slice lA x.l.length lc] 26)).alloc (.cells #[.int .i64 y.t, .slice mA y.n.length mc, .slice tA y.s.length tc, .slice kA y.l.length kc] 26)).alloc (.cells #[.int .i64 0, .slice none 0 0, .slice none 0 0, .slice none 0 0] 26) := ⟨_, rfl⟩
 have bx : wa.heap[w.heap.size]? = some (.cells #[.int .i64 x.t, .slice nA x.n.length nc, .slice sA x.s.length sc, .slice lA x.l.length lc] 26 (0, 0)) := by rw [hwa]; exact (Below.heap_alloc _ _ _ (by rw [World.size_alloc, World.size_alloc]; omega)).trans ((Below.heap_alloc _ _ _ (by rw [World.size_alloc]; omega)).trans (heap_alloc_new w _))
 have by_ : wa.heap[w.heap.size + 1]? = some (.cells #[.int .i64 y.t, .slice mA y.n.length mc, .slice tA y.s.length tc, .slice kA y.l.length kc] 26 (0, 0)) := by rw [hwa]; exact (Below.heap_alloc _ _ _ (by rw [World.size_alloc, World.size_alloc]; omega)).trans (by have := heap_alloc_new (w.alloc (.cells #[.int .i64 x.t, .slice nA x.n.length nc, .slice sA x.s.length sc, .slice lA x.l.length lc] 26)) (.cells #[.int .i64 y.t, .slice mA y.n.length mc, .slice tA y.s.length tc, .slice kA y.l.length kc] 26); rwa [World.size_alloc] at this)
 have bz : wa.heap[w.heap.size + 2]? = some (.cells #[.int .i64 0, .slice none 0 0, .slice none 0 0, .slice none 0 0] 26 (0, 0)) := by rw [hwa]; have := heap_alloc_new ((w.alloc (.cells #[.int .i64 x.t, .slice nA x.n.length nc, .slice sA x.s.length sc, .slice lA x.l.length lc] 26)).alloc (.cells #[.int .i64 y.t, .slice mA y.n.length mc, .slice tA y.s.length tc, .slice kA y.l.length kc] 26)) (.cells #[.int .i64 0, .slice none 0 0, .slice none 0 0, .slice none 0 0] 26); rwa [World.size_alloc, World.size_alloc] at this
 have HBX := hide bx
 have HBY := hide by_
 have HBZ := hide bz
 have HGA := hide (show w.grownBy wa none by rw [hwa]; exact gb_alloc (gb_alloc (gb_alloc (gb_refl w none) _) _) _)
 have HWE := hide hwa
 have HKX := hide (kindO_int hx)
 have HKY := hide (kindO_int hy)
 have HDO := hide (fun (g k : Nat) (w2 : World) (hg : w.grownBy w2 none) (hS : StrF k w2 g (strictF quoF)) => do_ints (strictF quoF) g k x y w2 B nA nc sA sc lA lc mA mc tA tc kA kc hx hy (Nat.le_trans hB hg.size) (vx.gb hg hB) (vy.gb hg hB) hS)
 clear bx by_ bz hwa hx hy hB vx vy
 go_enter Tryz.func22, Tryz.ntmps22
 go_wp2_with fail
 rw [← HWE.out]
 go_wp2_with (go_at_call 50; refine (ops_any _).mono ?_; rintro e wb ⟨p0, p1, p2, p3, p4, p5, p6, p7, p8, p9, rfl, hc0, hc3, hc4, hgb⟩; have HC0 := hide hc0; have HC3 := hide hc3; have HC4 := hide hc4; have HGB := hide (gb_trans HGA.out hgb (.inl rfl)); have HG1 := hide hgb; have hst := ops_store (heap_alloc_new wb (.cells #[Value.nilFunc, Value.nilFunc, Value.nilFunc, Value.nilFunc, Value.nilFunc, Value.nilFunc, Value.nilFunc, Value.nilFunc, Value.nilFunc, Value.nilFunc] 67)) p0 p1 p2 p3 p4 p5 p6 p7 p8 p9; rw [World.setRow_alloc_new] at hst; clear hc0 hc3 hc4 hgb)
 clear hst
 obtain ⟨wc, hwc⟩ : ∃ wc, wc = wb.alloc (.cells #[.func (.func 117) #[] #[.pointer (some ⟨p0, 0, none⟩)], .func (.func 117) #[] #[.pointer (some ⟨p1, 0, none⟩)], .func (.func 117) #[] #[.pointer (some ⟨p2, 0, none⟩)], .func (.func 117) #[] #[.pointer (some ⟨p3, 0, none⟩)], .func (.func 117) #[] #[.pointer (some ⟨p4, 0, none⟩)], .func (.func 125) #[] #[.pointer (some ⟨p5, 0, none⟩)], .func (.func 125) #[] #[.pointer (some ⟨p6, 0, none⟩)], .func (.func 126) #[] #[.pointer (some ⟨p7, 0, none⟩)], .func (.func 126) #[] #[.pointer (some ⟨p8, 0, none⟩)], .func (.func 126) #[] #[.pointer (some ⟨p9, 0, none⟩)]] 67) := ⟨_, rfl⟩
 rw [← hwc]
 have hgc : wb.grownBy wc none := by rw [hwc]; exact gb_alloc (gb_refl wb none) _
 have HB8 := hide (show wc.heap[wb.heap.size]? = some (.cells #[.func (.func 117) #[] #[.pointer (some ⟨p0, 0, none⟩)], .func (.func 117) #[] #[.pointer (some ⟨p1, 0, none⟩)], .func (.func 117) #[] #[.pointer (some ⟨p2, 0, none⟩)], .func (.func 117) #[] #[.pointer (some ⟨p3, 0, none⟩)], .func (.func 117) #[] #[.pointer (some ⟨p4, 0, none⟩)], .func (.func 125) #[] #[.pointer (some ⟨p5, 0, none⟩)], .func (.func 125) #[] #[.pointer (some ⟨p6, 0, none⟩)], .func (.func 126) #[] #[.pointer (some ⟨p7, 0, none⟩)], .func (.func 126) #[] #[.pointer (some ⟨p8, 0, none⟩)], .func (.func 126) #[] #[.pointer (some ⟨p9, 0, none⟩)]] 67 (0, 0)) by rw [hwc]; exact heap_alloc_new wb _)
 have HG := hide (gb_trans HGB.out hgc (.inl rfl))
 have HGC := hide (gb_trans HG1.out hgc (.inl rfl))
 have H3 : Hid (OpC wc p3 (strictF quoF)) := hide (opC_divide (cell_gb HC3.out hgc))
 have HCX := hide (show C4 wc w.heap.size 0 (.int .i64 x.t) (.slice nA x.n.length nc) (.slice sA x.s.length sc) (.slice lA x.l.length lc) by have h := blk_keep HBX.out HGC.out (by simp); exact c4k h)
 have HCY := hide (show C4 wc (w.heap.size + 1) 0 (.int .i64 y.t) (.slice mA y.n.length mc) (.slice tA y.s.length tc) (.slice kA y.l.length kc) by have h := blk_keep HBY.out HGC.out (by simp); exact c4k h)
 obtain ⟨b8, hb8⟩ : ∃ b8, b8 = wb.heap.size := ⟨_, rfl⟩
 rw [← hb8] at HB8 ⊢
 clear hgc hwc hb8 HC0 HC3 HC4 HGA HGB HG1 HWE
 refine wp_region_kfacts (grK wc.heap.size ZR) 14 9 (by kernel_rfl) (by kernel_rfl) (by kernel_rfl) ?_
 intro A O W L HA HO HW HL
 simp only [List.take_succ_cons, List.take_zero]
 have HS := hide (show A.tmps.size = 40 by rw [HA.out]; rfl)
 have HGW := hide (show wc.grownBy W none by rw [HW.out]; exact gb_drew (gb_refl wc none))
 have HSW := hide (show W.heap.size ≤ wc.heap.size by rw [HW.out]; exact Nat.le_refl _)
 have A0 := hide (show A.eval (.tmp 0) = .int .i64 3 by rw [HA.out]; rfl)
 have A4 := hide (show A.eval (.tmp 4) = .pointer (some ⟨w.heap.size, 0, none⟩) by rw [HA.out]; rfl)
 have A5 := hide (show A.eval (.tmp 5) = .pointer (some ⟨w.heap.size + 1, 0, none⟩) by rw [HA.out]; rfl)
 have A8 := hide (show A.eval (.tmp 8) = .pointer (some ⟨b8, 0, none⟩) by rw [HA.out]; rfl)
 refine kFacts_lit (.int .i64 3) rfl rfl ?_ ?_
 ·intro a wq hw hl
  have e0 : a.tmps[0]?.getD undef = .int .i64 3 := (hl 0 (by first | (simp [Op.operands]; done) | simp [Op.operands, Call.operands]) (by rw [HS.out]; decide)).trans A0.out
  clear hl
  go_simp
 refine kFacts_lit (.pointer (some ⟨b8, 3, none⟩)) rfl rfl ?_ ?_
 ·intro a wq hw hl
  have e8 : a.tmps[8]?.getD undef = .pointer (some ⟨b8, 0, none⟩) := (hl 8 (by first | (simp [Op.operands]; done) | simp [Op.operands, Call.operands]) (by rw [HS.out]; decide)).trans A8.out
  have e20 : a.tmps[20]?.getD undef = .int .i64 3 := hl 20 (by first | (simp [Op.operands]; done) | simp [Op.operands, Call.operands]) (by rw [HS.out]; decide)
  clear hl
  go_simp
 refine kFacts_lit (.func (.func 117) #[] #[.pointer (some ⟨p3, 0, none⟩)]) rfl rfl ?_ ?_
 ·intro a wq hw hl
  have e21 : a.tmps[21]?.getD undef = .pointer (some ⟨b8, 3, none⟩) := hl 21 (by first | (simp [Op.operands]; done) | simp [Op.operands, Call.operands]) (by rw [HS.out]; decide)
  have hk := blk_keep HB8.out (gb_trans HGW.out (Keeps.grown hw HSW.out) (.inl rfl)) (by simp)
  have ck : wq.cell? ⟨b8, 3, none⟩ = some (.func (.func 117) #[] #[.pointer (some ⟨p3, 0, none⟩)]) := by rw [blk_cell hk]; rfl
  clear hk
  clear hl
  go_simp
 refine kFacts_lit (.agg #[.int .i64 x.t, .slice nA x.n.length nc, .slice sA x.s.length sc, .slice lA x.l.length lc]) rfl rfl ?_ ?_
 ·intro a wq hw hl
  have e4 : a.tmps[4]?.getD undef = .pointer (some ⟨w.heap.size, 0, none⟩) := (hl 4 (by first | (simp [Op.operands]; done) | simp [Op.operands, Call.operands]) (by rw [HS.out]; decide)).trans A4.out
  obtain ⟨c0, c1, c2, c3⟩ := HCX.out.gb (gb_trans HGW.out (Keeps.grown hw HSW.out) (.inl rfl))
  clear hl
  go_simp
 refine kFacts_step (fun vq _ => vq = .int .i64 2) rfl rfl (Lasts.lit _) ?_ ?_
 ·intro a wq hw hl
  have e23 : a.tmps[23]?.getD undef = .agg #[.int .i64 x.t, .slice nA x.n.length nc, .slice sA x.s.length sc, .slice lA x.l.length lc] := hl 23 (by first | (simp [Op.operands]; done) | simp [Op.operands, Call.operands]) (by rw [HS.out]; decide)
  clear hl
  go_simp
  exact gUpon_lit ((kind_any _ _ _ _ _ _ _ _ _).mono fun _ _ h => ⟨h.1.trans (by rw [HKX.out]), h.2⟩)
 refine kFacts_lit (.agg #[.int .i64 y.t, .slice mA y.n.length mc, .slice tA y.s.length tc, .slice kA y.l.length kc]) rfl rfl ?_ ?_
 ·intro a wq hw hl
  have e5 : a.tmps[5]?.getD undef = .pointer (some ⟨w.heap.size + 1, 0, none⟩) := (hl 5 (by first | (simp [Op.operands]; done) | simp [Op.operands, Call.operands]) (by rw [HS.out]; decide)).trans A5.out
  obtain ⟨c0, c1, c2, c3⟩ := HCY.out.gb (gb_trans HGW.out (Keeps.grown hw HSW.out) (.inl rfl))
  clear hl
  go_simp
 refine kFacts_step (fun vq _ => vq = .int .i64 2) rfl rfl (Lasts.lit _) ?_ ?_
 ·intro a wq hw hl
  have e25 : a.tmps[25]?.getD undef = .agg #[.int .i64 y.t, .slice mA y.n.length mc, .slice tA y.s.length tc, .slice kA y.l.length kc] := hl 25 (by first | (simp [Op.operands]; done) | simp [Op.operands, Call.operands]) (by rw [HS.out]; decide)
  clear hl
  go_simp
  exact gUpon_lit ((kind_any _ _ _ _ _ _ _ _ _).mono fun _ _ h => ⟨h.1.trans (by rw [HKY.out]), h.2⟩)
 refine kFacts_lit (.agg #[.int .i64 2, .int .i64 2]) rfl rfl ?_ ?_
 ·intro a wq hw hl
  have e24 : a.tmps[24]?.getD undef = .int .i64 2 := hl 24 (by first | (simp [Op.operands]; done) | simp [Op.operands, Call.operands]) (by rw [HS.out]; decide)
  have e26 : a.tmps[26]?.getD undef = .int .i64 2 := hl 26 (by first | (simp [Op.operands]; done) | simp [Op.operands, Call.operands]) (by rw [HS.out]; decide)
  clear hl
  go_simp
 refine kFacts_step (RuleK (strictF quoF)) rfl rfl (RuleK.lasts (strictF quoF)) ?_ ?_
 ·intro a wq hw hl
  have e22 : a.tmps[22]?.getD undef = .func (.func 117) #[] #[.pointer (some ⟨p3, 0, none⟩)] := hl 22 (by first | (simp [Op.operands]; done) | simp [Op.operands, Call.operands]) (by rw [HS.out]; decide)
  have e27 : a.tmps[27]?.getD undef = .agg #[.int .i64 2, .int .i64 2] := hl 27 (by first | (simp [Op.operands]; done) | simp [Op.operands, Call.operands]) (by rw [HS.out]; decide)
  clear hl
  go_simp
  exact ⟨gb_refl _ none, (ruleOf_ints p3 _ (H3.out.gb (gb_trans HGW.out (Keeps.grown hw HSW.out) (.inl rfl)))).mono fun _ _ ⟨g, h1, h2, h3⟩ => ⟨_, h1, h3, g, _, rfl, h2⟩⟩
 refine kFacts_step (RuleK (strictF quoF)) rfl rfl (RuleK.lasts (strictF quoF)) ?_ ?_
 ·intro a wq hw hl
  have h28 : (RuleK (strictF quoF)) (a.tmps[28]?.getD undef) wq := hl 28 (by first | (simp [Op.operands]; done) | simp [Op.operands, Call.operands]) (by rw [HS.out]; decide)
  obtain ⟨g, k, e28, hS⟩ := h28
  clear hl
  go_simp
  exact ⟨gb_refl _ none, g, k, rfl, hS⟩
 refine kFacts_step (RuleG (strictF quoF)) rfl rfl (RuleG.lasts (strictF quoF)) ?_ ?_
 ·intro a wq hw hl
  have h19 : (RuleK (strictF quoF)) (a.tmps[19]?.getD undef) wq := hl 19 (by first | (simp [Op.operands]; done) | simp [Op.operands, Call.operands]) (by rw [HS.out]; decide)
  obtain ⟨g, k, e19, hS⟩ := h19
  clear hl
  go_simp
  exact ⟨gb_refl _ none, g, k, rfl, hS⟩
 refine kFacts_lit (.bool true) rfl rfl ?_ ?_
 ·intro a wq hw hl
  have h19 : (RuleK (strictF quoF)) (a.tmps[19]?.getD undef) wq := hl 19 (by first | (simp [Op.operands]; done) | simp [Op.operands, Call.operands]) (by rw [HS.out]; decide)
  obtain ⟨g, k, e19, _⟩ := h19
  clear hl
  go_simp
 refine kFacts_step (BoxF wc.heap.size #[.int .i64 0, Value.nilFunc, Value.nilFunc] 73) rfl rfl (BoxF.lasts9 _ _ _) ?_ ?_
 ·intro a wq hw hl
  clear hl
  go_simp
  exact BoxF.new _ _ (Nat.le_trans HGW.out.size hw.size)
 refine kFacts_store (RuleB wc.heap.size (strictF quoF)) rfl rfl (RuleB.up _ _) ?_ ?_
 ·intro a wq hw hl
  have h9 : (BoxF wc.heap.size #[.int .i64 0, Value.nilFunc, Value.nilFunc] 73) (a.tmps[9]?.getD undef) wq := hl 9 (by first | (simp [Op.operands]; done) | simp [Op.operands, Call.operands]) (by rw [HS.out]; decide)
  obtain ⟨b, e9, hb9, hbs⟩ := h9
  have h29 : (RuleG (strictF quoF)) (a.tmps[29]?.getD undef) wq := hl 29 (by first | (simp [Op.operands]; done) | simp [Op.operands, Call.operands]) (by rw [HS.out]; decide)
  obtain ⟨g, k, e29, hS⟩ := h29
  have hst := storeCells_row (P := Tryz.prog) (c' := #[.int .i64 2, .func (.func 118) #[] #[.pointer (some ⟨g, 0, none⟩)], Value.nilFunc]) hb9 info3 rfl (by simp [Value.oneCell'])
  have hkp := Keeps.setRow (s := wc.heap.size) (Z := ZR) #[.int .i64 2, .func (.func 118) #[] #[.pointer (some ⟨g, 0, none⟩)], Value.nilFunc] hb9 hbs ⟨0, _, _, rfl, by decide⟩ ⟨2, _, _, rfl, by decide⟩
  have hrow := heap_setRow_at _ _ _ #[.int .i64 2, .func (.func 118) #[] #[.pointer (some ⟨g, 0, none⟩)], Value.nilFunc] _ _ hb9
  clear hl
  go_simp
  exact ⟨hkp, b, g, k, rfl, hbs, hrow, hS.keeps hkp⟩
 refine HL.out _ (fun a' w5 hc => ?_)
 have h9 : (RuleB wc.heap.size (strictF quoF)) (a'.eval (.tmp 9)) w5 := hc.fact 9 (by rw [HS.out]; decide)
 obtain ⟨b, g, k, e9, hbs, hb9, hS⟩ := h9
 have e30 : a'.eval (.tmp 30) = .bool true := hc.fact 30 (by rw [HS.out]; decide)
 have hgw5 := gb_trans HGW.out (Keeps.grown hc.grown HSW.out) (.inl rfl)
 have hfr := hc.frame [20, 21, 22, 23, 24, 25, 26, 27, 28, 19, 29, 30, 9, 10] (by rw [HO.out]; kernel_rfl)
 rw [hfr]
 clear hfr hc
 rw [HA.out]
 clear HA HO HL HW HS HGW HSW A0 A4 A5 A8
 clear A O W L
 simp only [List.drop_succ_cons, List.drop_zero, List.foldl_cons, List.foldl_nil, Act.put, List.setIfInBounds_toArray, List.set_cons_succ, List.set_cons_zero]
 rw [e9, e30]
 generalize a'.eval (.tmp 20) = x20
 generalize a'.eval (.tmp 21) = x21
 generalize a'.eval (.tmp 22) = x22
 generalize a'.eval (.tmp 23) = x23
 generalize a'.eval (.tmp 24) = x24
 generalize a'.eval (.tmp 25) = x25
 generalize a'.eval (.tmp 26) = x26
 generalize a'.eval (.tmp 27) = x27
 generalize a'.eval (.tmp 28) = x28
 generalize a'.eval (.tmp 19) = x19
 generalize a'.eval (.tmp 29) = x29
 generalize a'.eval (.tmp 10) = x10
 clear e9 e30
 clear a'
 have HG5 := hide (gb_trans HG.out hgw5 (.inl rfl))
 have HDC := hide (HDO.out g k w5 HG5.out hS)
 have hx5 := HCX.out.gb hgw5
 have hy5 := HCY.out.gb hgw5
 have HBZ5 := hide (blk_keep HBZ.out (gb_trans HGC.out hgw5 (.inl rfl)) (by simp))
 have r0 : w5.cell? ⟨b, 0, none⟩ = some (.int .i64 2) := by rw [blk_cell hb9]; rfl
 have r1 : w5.cell? ⟨b, 1, none⟩ = some (.func (.func 118) #[] #[.pointer (some ⟨g, 0, none⟩)]) := by rw [blk_cell hb9]; rfl
 have r2 : w5.cell? ⟨b, 2, none⟩ = some Value.nilFunc := by rw [blk_cell hb9]; rfl
 obtain ⟨x0, x1, x2, x3⟩ := hx5
 obtain ⟨y0, y1, y2, y3⟩ := hy5
 clear hS hgw5 hbs hb9 HDO H3 HB8 HKX HKY HBX HBY HBZ HCX HCY HGC HG
 cases hdo : doI (strictF quoF) x y with
 | error ek =>
  rw [hdo] at HDC
  go_wp2_with (go_at_call 52; refine HDC.out.mono ?_; rintro e wn ⟨hgn, rfl⟩; have HGN := hide (gb_trans HG5.out hgn (.inl rfl)); have hbz := blk_keep HBZ5.out hgn (by simp); have HZ := hide hbz; have hst := storeCells_row (P := Tryz.prog) (c' := #[.int .i64 0, .slice none 0 0, .slice none 0 0, .slice none 0 0]) hbz info4 rfl (by simp [Value.oneCell']); clear hgn hbz)
  have hrow := heap_setRow_at _ _ _ #[.int .i64 0, .slice none 0 0, .slice none 0 0, .slice none 0 0] _ _ HZ.out
  have m0 := blk_cell hrow 0
  have m1 := blk_cell hrow 1
  have m2 := blk_cell hrow 2
  have m3 := blk_cell hrow 3
  simp only [List.getElem?_toArray, List.getElem?_cons_zero, List.getElem?_cons_succ] at m0 m1 m2 m3
  exact bodyPost_ret (v := .tuple #[.agg #[.int .i64 0, .slice none 0 0, .slice none 0 0, .slice none 0 0], .int .i64 ek]) (by simp [results, Tryz.results22, go_sem, m0, m1, m2, m3]) rfl ⟨gb_setRow HGN.out _ _ (by omega), by rw [hdo]⟩
 | ok tl =>
  obtain ⟨t, l⟩ := tl
  rw [hdo] at HDC
  go_wp2_with (go_at_call 52; refine HDC.out.mono ?_; rintro e wn ⟨hgn, A, c, hlc, rfl, ho⟩; have HGN := hide (gb_trans HG5.out hgn (.inl rfl)); have hbz := blk_keep HBZ5.out hgn (by simp); have HZ := hide hbz; have HO := hide ho; have HLC := hide hlc; have hst := storeCells_row (P := Tryz.prog) (c' := #[.int .i64 t, .slice A l.length c, .slice none 0 0, .slice none 0 0]) hbz info4 rfl (by simp [Value.oneCell']); clear hgn hbz ho hlc)
  have hrow := heap_setRow_at _ _ _ #[.int .i64 t, .slice A l.length c, .slice none 0 0, .slice none 0 0] _ _ HZ.out
  have m0 := blk_cell hrow 0
  have m1 := blk_cell hrow 1
  have m2 := blk_cell hrow 2
  have m3 := blk_cell hrow 3
  simp only [List.getElem?_toArray, List.getElem?_cons_zero, List.getElem?_cons_succ] at m0 m1 m2 m3
  have hon := own_low (HO.out.kept (gb_setRow_own wn (w.heap.size + 2) #[.int .i64 t, .slice A l.length c, .slice none 0 0, .slice none 0 0]) (.inr (own_ne HO.out HZ.out (by decide)))) HG5.out.size
  exact bodyPost_ret (v := .tuple #[.agg #[.int .i64 t, .slice A l.length c, .slice none 0 0, .slice none 0 0], .int .i64 0]) (by simp [results, Tryz.results22, go_sem, m0, m1, m2, m3]) rfl ⟨gb_setRow HGN.out _ _ (by omega), by rw [hdo]; exact ⟨A, c, HLC.out, rfl, hon⟩⟩
end
end Go.Proofs.YtbmgodmfpoappaaGreat
