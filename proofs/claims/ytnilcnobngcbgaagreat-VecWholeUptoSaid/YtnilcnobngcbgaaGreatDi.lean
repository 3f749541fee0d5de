/-
  vec.rule.do of ints and vectors of ints.
-/
import Derived.Test.YtnilcnobngcbgaaGreatDh
namespace Go.Proofs.YtnilcnobngcbgaaGreat
open Go.RowKit
attribute [local go_sem ↓] Go.wp_at_zero Go.wp_at_succ

theorem own_low {w : World} {b b' : Nat} {e : TypeId} {size n : Nat} {v : Value} {xs : List Value} (h : w.ownsRow b e size v n xs) (hb : b' ≤ b) : w.ownsRow b' e size v n xs :=
  ⟨h.1, h.2.imp id fun ⟨g, cap, cur, h1, h2, h3⟩ => ⟨g, cap, cur, h1, Nat.le_trans hb h2, h3⟩⟩
/-- An int or a vector of ints. -/
structure IntV (x : Vl) : Prop where
  t : x.t = 2 ∨ x.t = -2 ∧ x.n.length = 1
  n : x.n.length ≤ 1000000
  i : ∀ k ∈ x.n, I64 k
  tot : x.tot ≤ 1100000
theorem nil_neq (w : World) : (binOp .neq 66 Value.nilFunc Value.nilFunc).run Tryz.prog w = .ok (.bool false) w := by kernel_rfl
theorem put_four_row (w : World) (g : Nat) (u0 u1 u2 u3 : Value) : w.grownBy ((((w.setCell ⟨g, 0, none⟩ u0).setCell ⟨g, 1, none⟩ u1).setCell ⟨g, 2, none⟩ u2).setCell ⟨g, 3, none⟩ u3) (some g) :=
  gb_setCell (gb_setCell (gb_setCell (gb_setCell (gb_refl w (some g)) (.inl rfl) u0) (.inl rfl) u1) (.inl rfl) u2) (.inl rfl) u3
theorem IntV.count {x : Vl} (h : IntV x) : x.count = x.n.length := by
  rw [Vl.count_def]
  rcases h.t with e | ⟨e, e1⟩
  · rw [e, if_pos (.inr (.inl rfl))]
  · rw [e, if_neg (by decide), if_neg (by decide), if_neg (by decide), if_neg (by decide), e1]
/-- What a rule of ints makes of two: an error, or the type and the numbers. -/
def doI (f : Int → Int → Option Int) (x y : Vl) : Except Int (Int × List Int) :=
  if x.t = 2 then
    (if y.t = 2 ∧ y.n.length ≠ x.n.length then .error 32 else match eachO f x.n y.n 0 x.n.length with | none => .error 70 | some l => .ok (2, l))
  else match eachO f x.n y.n 0 y.n.length with | none => .error 70 | some l => .ok (y.t, l)
/-- What 'do' gives. -/
def DoR (r : Except Int (Int × List Int)) (w : World) (e : Ending) (w' : World) : Prop := w.grownBy w' none ∧ match r with
  | .error k => e = .returned (.tuple #[.agg #[.int .i64 0, .slice none 0 0, .slice none 0 0, .slice none 0 0], .int .i64 k])
  | .ok (t, l) => ∃ A c, l.length ≤ c ∧ e = .returned (.tuple #[.agg #[.int .i64 t, .slice A l.length c, .slice none 0 0, .slice none 0 0], .int .i64 0]) ∧ w'.ownsRow w.heap.size 2 1 (.slice A l.length c) l.length (i64s l)
/-- The five boxes of 'do'. -/
structure DoB (s : Nat) (wn : World) (fv x0 x1 x2 x3 y0 y1 y2 y3 v0 v1 v2 v3 : Value) : Prop where
  r : wn.heap[s]? = some (.cells #[.int .i64 2, fv, Value.nilFunc] 68 (0, 0))
  x : wn.heap[s + 1]? = some (.cells #[x0, x1, x2, x3] 26 (0, 0))
  y : wn.heap[s + 2]? = some (.cells #[y0, y1, y2, y3] 26 (0, 0))
  z : wn.heap[s + 3]? = some (.cells #[.int .i64 0, .slice none 0 0, .slice none 0 0, .slice none 0 0] 26 (0, 0))
  v : wn.heap[s + 4]? = some (.cells #[v0, v1, v2, v3] 26 (0, 0))
section
variable {s : Nat} {wn w' : World} {fv x0 x1 x2 x3 y0 y1 y2 y3 v0 v1 v2 v3 : Value}
theorem DoB.mk_ (w : World) (fv x0 x1 x2 x3 y0 y1 y2 y3 v0 v1 v2 v3 : Value) :
    DoB w.heap.size (((((w.alloc (.cells #[.int .i64 2, fv, Value.nilFunc] 68)).alloc (.cells #[x0, x1, x2, x3] 26)).alloc (.cells #[y0, y1, y2, y3] 26)).alloc (.cells #[.int .i64 0, .slice none 0 0, .slice none 0 0, .slice none 0 0] 26)).alloc (.cells #[v0, v1, v2, v3] 26)) fv x0 x1 x2 x3 y0 y1 y2 y3 v0 v1 v2 v3 := by
  have k : ∀ (w : World) (i : Nat) (u o : Obj), w.heap[i]? = some u → (w.alloc o).heap[i]? = some u := fun w i u o h => (Below.heap_alloc w o i (blk_lt h)).trans h
  have l : ∀ (w : World) (i : Nat) (o : Obj), w.heap.size = i → (w.alloc o).heap[i]? = some o := fun w i o h => h ▸ heap_alloc_new w o
  have e : ∀ (w : World) (i : Nat) (o : Obj), w.heap.size = i → (w.alloc o).heap.size = i + 1 := fun w i o h => by rw [World.size_alloc, h]
  exact ⟨k _ _ _ _ (k _ _ _ _ (k _ _ _ _ (k _ _ _ _ (l _ _ _ rfl)))), k _ _ _ _ (k _ _ _ _ (k _ _ _ _ (l _ _ _ (e _ _ _ rfl)))), k _ _ _ _ (k _ _ _ _ (l _ _ _ (e _ _ _ (e _ _ _ rfl)))),
    k _ _ _ _ (l _ _ _ (e _ _ _ (e _ _ _ (e _ _ _ rfl)))), l _ _ _ (e _ _ _ (e _ _ _ (e _ _ _ (e _ _ _ rfl))))⟩
theorem DoB.gb (h : DoB s wn fv x0 x1 x2 x3 y0 y1 y2 y3 v0 v1 v2 v3) (hg : wn.grownBy w' none) : DoB s w' fv x0 x1 x2 x3 y0 y1 y2 y3 v0 v1 v2 v3 :=
  ⟨blk_keep h.r hg (by simp), blk_keep h.x hg (by simp), blk_keep h.y hg (by simp), blk_keep h.z hg (by simp), blk_keep h.v hg (by simp)⟩
theorem DoB.wide (h : DoB s wn fv x0 x1 x2 x3 y0 y1 y2 y3 v0 v1 v2 v3) (u0 u1 u2 u3 : Value) : DoB s ((((wn.setCell ⟨s + 4, 0, none⟩ u0).setCell ⟨s + 4, 1, none⟩ u1).setCell ⟨s + 4, 2, none⟩ u2).setCell ⟨s + 4, 3, none⟩ u3) fv x0 x1 x2 x3 y0 y1 y2 y3 u0 u1 u2 u3 :=
  ⟨(put_four_other (by omega) _ _ _ _).trans h.r, (put_four_other (by omega) _ _ _ _).trans h.x, (put_four_other (by omega) _ _ _ _).trans h.y, (put_four_other (by omega) _ _ _ _).trans h.z, put_four h.v _ _ _ _⟩
/-- What the walk reads of them. -/
theorem DoB.vis (h : DoB s wn fv x0 x1 x2 x3 y0 y1 y2 y3 v0 v1 v2 v3) :
    (wn.cell? ⟨s, 0, none⟩ = some (.int .i64 2) ∧ wn.cell? ⟨s, 1, none⟩ = some fv ∧ wn.cell? ⟨s, 2, none⟩ = some Value.nilFunc) ∧
    (wn.cell? ⟨s + 1, 0, none⟩ = some x0 ∧ wn.cell? ⟨s + 1, 1, none⟩ = some x1 ∧ wn.cell? ⟨s + 1, 2, none⟩ = some x2 ∧ wn.cell? ⟨s + 1, 3, none⟩ = some x3) ∧
    (wn.cell? ⟨s + 2, 0, none⟩ = some y0 ∧ wn.cell? ⟨s + 2, 1, none⟩ = some y1 ∧ wn.cell? ⟨s + 2, 2, none⟩ = some y2 ∧ wn.cell? ⟨s + 2, 3, none⟩ = some y3) ∧
    (wn.cell? ⟨s + 3, 0, none⟩ = some (.int .i64 0) ∧ wn.cell? ⟨s + 3, 1, none⟩ = some (.slice none 0 0) ∧ wn.cell? ⟨s + 3, 2, none⟩ = some (.slice none 0 0) ∧ wn.cell? ⟨s + 3, 3, none⟩ = some (.slice none 0 0)) ∧
    (wn.cell? ⟨s + 4, 0, none⟩ = some v0 ∧ wn.cell? ⟨s + 4, 1, none⟩ = some v1 ∧ wn.cell? ⟨s + 4, 2, none⟩ = some v2 ∧ wn.cell? ⟨s + 4, 3, none⟩ = some v3) ∧
    (wn.frozen? ⟨s + 3, 0, none⟩ = false ∧ wn.frozen? ⟨s + 3, 1, none⟩ = false ∧ wn.frozen? ⟨s + 3, 2, none⟩ = false ∧ wn.frozen? ⟨s + 3, 3, none⟩ = false) ∧
    (wn.frozen? ⟨s + 4, 0, none⟩ = false ∧ wn.frozen? ⟨s + 4, 1, none⟩ = false ∧ wn.frozen? ⟨s + 4, 2, none⟩ = false ∧ wn.frozen? ⟨s + 4, 3, none⟩ = false) := by
  refine ⟨⟨?_, ?_, ?_⟩, ⟨?_, ?_, ?_, ?_⟩, ⟨?_, ?_, ?_, ?_⟩, ⟨?_, ?_, ?_, ?_⟩, ⟨?_, ?_, ?_, ?_⟩, ⟨blk_frozen h.z 0, blk_frozen h.z 1, blk_frozen h.z 2, blk_frozen h.z 3⟩, ⟨blk_frozen h.v 0, blk_frozen h.v 1, blk_frozen h.v 2, blk_frozen h.v 3⟩⟩
  · rw [blk_cell h.r]; rfl
  · rw [blk_cell h.r]; rfl
  · rw [blk_cell h.r]; rfl
  · rw [blk_cell h.x]; rfl
  · rw [blk_cell h.x]; rfl
  · rw [blk_cell h.x]; rfl
  · rw [blk_cell h.x]; rfl
  · rw [blk_cell h.y]; rfl
  · rw [blk_cell h.y]; rfl
  · rw [blk_cell h.y]; rfl
  · rw [blk_cell h.y]; rfl
  · rw [blk_cell h.z]; rfl
  · rw [blk_cell h.z]; rfl
  · rw [blk_cell h.z]; rfl
  · rw [blk_cell h.z]; rfl
  · rw [blk_cell h.v]; rfl
  · rw [blk_cell h.v]; rfl
  · rw [blk_cell h.v]; rfl
  · rw [blk_cell h.v]; rfl
end
set_option maxHeartbeats 16000000 in
set_option maxRecDepth 100000 in
theorem do_ints (f : Int → Int → Option Int) (g k : Nat) (x y : Vl) (w : World) (B : Nat) (nA : Option Addr) (nc : Nat) (sA : Option Addr) (sc : Nat) (lA : Option Addr) (lc : Nat) (mA : Option Addr) (mc : Nat) (tA : Option Addr) (tc : Nat) (kA : Option Addr) (kc : Nat)
    (hx : IntV x) (hy : IntV y) (hB : B ≤ w.heap.size) (vx : VB w B x nA nc sA sc lA lc) (vy : VB w B y mA mc tA tc kA kc) (hS : StrF k w g f) :
    Calls Tryz.prog 45 #[.agg #[.int .i64 2, (.func (.func 99) #[] #[.pointer (some ⟨g, 0, none⟩)]), Value.nilFunc], .agg #[.int .i64 x.t, .slice nA x.n.length nc, .slice sA x.s.length sc, .slice lA x.l.length lc], .agg #[.int .i64 y.t, .slice mA y.n.length mc, .slice tA y.s.length tc, .slice kA y.l.length kc]] w (DoR (doI f x y) w) := by
  obtain ⟨wb, hwb⟩ : ∃ wb, wb = ((((w.alloc (.cells #[.int .i64 2, (.func (.func 99) #[] #[.pointer (some ⟨g, 0, none⟩)]), Value.nilFunc] 68)).alloc (.cells #[.int .i64 x.t, .slice nA x.n.length nc, .slice sA x.s.length sc, .slice lA x.l.length lc] 26)).alloc (.cells #[.int .i64 y.t, .slice mA y.n.length mc, .slice tA y.s.length tc, .slice kA y.l.length kc] 26)).alloc (.cells #[.int .i64 0, .slice none 0 0, .slice none 0 0, .slice none 0 0] 26)).alloc (.cells #[.int .i64 x.t, .slice nA x.n.length nc, .slice sA x.s.length sc, .slice lA x.l.length lc] 26) := ⟨_, rfl⟩
  have hd := DoB.mk_ w ((.func (.func 99) #[] #[.pointer (some ⟨g, 0, none⟩)])) (.int .i64 x.t) (.slice nA x.n.length nc) (.slice sA x.s.length sc) (.slice lA x.l.length lc) (.int .i64 y.t) (.slice mA y.n.length mc) (.slice tA y.s.length tc) (.slice kA y.l.length kc) (.int .i64 x.t) (.slice nA x.n.length nc) (.slice sA x.s.length sc) (.slice lA x.l.length lc)
  rw [← hwb] at hd
  have HG := hide (show w.grownBy wb none by rw [hwb]; exact gb_alloc (gb_alloc (gb_alloc (gb_alloc (gb_alloc (gb_refl w none) _) _) _) _) _)
  have HS5 := hide (show w.heap.size + 5 ≤ wb.heap.size by rw [hwb]; simp)
  have HD := hide hd
  have HW := hide hwb
  have HCX : Hid (∀ w2, w.grownBy w2 none → Calls Tryz.prog 30 #[.agg #[.int .i64 x.t, .slice nA x.n.length nc, .slice sA x.s.length sc, .slice lA x.l.length lc]] w2 fun e w' => e = .returned (.int .i64 (x.n.length : Nat)) ∧ w2.grownBy w' none) := hide (fun w2 hg => (count_d x.depth x w2 B nA nc sA sc lA lc (Nat.le_refl _) hx.tot (Nat.le_trans hB hg.size) (vx.gb hg hB)).mono fun e w' h => ⟨h.1.trans (by rw [hx.count]), h.2⟩)
  have HCY : Hid (∀ w2, w.grownBy w2 none → Calls Tryz.prog 30 #[.agg #[.int .i64 y.t, .slice mA y.n.length mc, .slice tA y.s.length tc, .slice kA y.l.length kc]] w2 fun e w' => e = .returned (.int .i64 (y.n.length : Nat)) ∧ w2.grownBy w' none) := hide (fun w2 hg => (count_d y.depth y w2 B mA mc tA tc kA kc (Nat.le_refl _) hy.tot (Nat.le_trans hB hg.size) (vy.gb hg hB)).mono fun e w' h => ⟨h.1.trans (by rw [hy.count]), h.2⟩)
  have HEA := hide (fun (c : Nat) (hc : c ≤ 1000000) (ha : 0 < c → 0 < x.n.length) (hb : 0 < c → 0 < y.n.length) w2 (hg : w.grownBy w2 none) => each_any f x.n y.n c k g w2 nA nc mA mc (hS.gb hg) ((vx.gb hg hB).n.more (Nat.le_trans hB hg.size)) ((vy.gb hg hB).n.more (Nat.le_trans hB hg.size)) hc ha hb hx.n hy.n hx.i hy.i)
  have HT := hide hx.t
  have HU := hide hy.t
  have HNX := hide hx.n
  have HNY := hide hy.n
  have MC := hide trivial
  have hnil := nil_neq
  obtain ⟨⟨r0, r1, r2⟩, ⟨x0, x1, x2, x3⟩, ⟨y0, y1, y2, y3⟩, ⟨z0, z1, z2, z3⟩, ⟨v0, v1, v2, v3⟩, ⟨f0, f1, f2, f3⟩, ⟨h0, h1, h2, h3⟩⟩ := hd.vis
  clear hx hy hB vx vy hS hd hwb
  rcases HT.out with hxt | ⟨hxt, hx1⟩
  · have ax : atomT x.t = false := by rw [hxt]; rfl
    have HLK := hide (show likeT x.t 2 = 2 by unfold likeT; rw [ax]; rfl)
    rcases HU.out with hyt | ⟨hyt, hy1⟩
    · have ay : atomT y.t = false := by rw [hyt]; rfl
      by_cases hl : y.n.length = x.n.length
      · have HDI := hide (show doI f x y = match eachO f x.n y.n 0 x.n.length with | none => .error 70 | some l => .ok (2, l) by unfold doI; rw [if_pos hxt, if_neg (fun h => h.2 hl)])
        have hl1 : ((y.n.length : Int) == (x.n.length : Int)) = true := by rw [hl]; exact beq_self_eq_true _
        have hl2 : ((y.n.length : Int) != (x.n.length : Int)) = false := by rw [hl]; simp
        have HEC := hide (HEA.out x.n.length HNX.out id (fun h => by omega))
        clear hxt hyt hl
        cases hE : eachO f x.n y.n 0 x.n.length with
        | none =>
          rw [hE] at HDI HEC
          have HE := hide (fun w2 (hg : w.grownBy w2 none) => HEC.out w2 hg)
          clear HEC HEA hE
          go_enter Tryz.func45, Tryz.ntmps45
          go_wp2_with fail
          rw [← HW.out]
          go_wp2_with (first
            | (go_at_call 82; refine (isAtom_any _ _ _ _ _).mono ?_; rintro e wp ⟨rfl, hg⟩; have HGn := hide (gb_trans HG.out hg (.inl rfl)); have HDn := hide (HD.out.gb hg); clear r0 r1 r2 x0 x1 x2 x3 y0 y1 y2 y3 z0 z1 z2 z3 v0 v1 v2 v3 f0 f1 f2 f3 h0 h1 h2 h3 HG HD; have HG := hide HGn.out; have HD := hide HDn.out; clear HGn HDn hg; obtain ⟨⟨r0, r1, r2⟩, ⟨x0, x1, x2, x3⟩, ⟨y0, y1, y2, y3⟩, ⟨z0, z1, z2, z3⟩, ⟨v0, v1, v2, v3⟩, ⟨f0, f1, f2, f3⟩, ⟨h0, h1, h2, h3⟩⟩ := HD.out.vis)
            | (go_at_call 30; first | (have _m := MC; clear MC _m; refine (HCX.out _ HG.out).mono ?_; rintro e wq ⟨rfl, hg⟩; have HGn := hide (gb_trans HG.out hg (.inl rfl)); have HDn := hide (HD.out.gb hg); clear r0 r1 r2 x0 x1 x2 x3 y0 y1 y2 y3 z0 z1 z2 z3 v0 v1 v2 v3 f0 f1 f2 f3 h0 h1 h2 h3 HG HD; have HG := hide HGn.out; have HD := hide HDn.out; clear HGn HDn hg; obtain ⟨⟨r0, r1, r2⟩, ⟨x0, x1, x2, x3⟩, ⟨y0, y1, y2, y3⟩, ⟨z0, z1, z2, z3⟩, ⟨v0, v1, v2, v3⟩, ⟨f0, f1, f2, f3⟩, ⟨h0, h1, h2, h3⟩⟩ := HD.out.vis) | (refine (HCY.out _ HG.out).mono ?_; rintro e wq ⟨rfl, hg⟩; have HGn := hide (gb_trans HG.out hg (.inl rfl)); have HDn := hide (HD.out.gb hg); clear r0 r1 r2 x0 x1 x2 x3 y0 y1 y2 y3 z0 z1 z2 z3 v0 v1 v2 v3 f0 f1 f2 f3 h0 h1 h2 h3 HG HD; have HG := hide HGn.out; have HD := hide HDn.out; clear HGn HDn hg; obtain ⟨⟨r0, r1, r2⟩, ⟨x0, x1, x2, x3⟩, ⟨y0, y1, y2, y3⟩, ⟨z0, z1, z2, z3⟩, ⟨v0, v1, v2, v3⟩, ⟨f0, f1, f2, f3⟩, ⟨h0, h1, h2, h3⟩⟩ := HD.out.vis))
            | (go_at_call 84; refine (HE.out _ HG.out).mono ?_; rintro e wq ⟨hg, rfl⟩; have HGn := hide (gb_trans HG.out hg (.inl rfl)); have HDn := hide (HD.out.gb hg); clear r0 r1 r2 x0 x1 x2 x3 y0 y1 y2 y3 z0 z1 z2 z3 v0 v1 v2 v3 f0 f1 f2 f3 h0 h1 h2 h3 HG HD; have HG := hide HGn.out; have HD := hide HDn.out; clear HGn HDn hg; obtain ⟨⟨r0, r1, r2⟩, ⟨x0, x1, x2, x3⟩, ⟨y0, y1, y2, y3⟩, ⟨z0, z1, z2, z3⟩, ⟨v0, v1, v2, v3⟩, ⟨f0, f1, f2, f3⟩, ⟨h0, h1, h2, h3⟩⟩ := HD.out.vis))
          have hb := put_four HD.out.z (.int .i64 0) (.slice none 0 0) (.slice none 0 0) (.slice none 0 0)
          have m0 : ((((wq.setCell ⟨w.heap.size + 1 + 1 + 1, 0, none⟩ (.int .i64 0)).setCell ⟨w.heap.size + 1 + 1 + 1, 1, none⟩ (.slice none 0 0)).setCell ⟨w.heap.size + 1 + 1 + 1, 2, none⟩ (.slice none 0 0)).setCell ⟨w.heap.size + 1 + 1 + 1, 3, none⟩ (.slice none 0 0)).cell? ⟨w.heap.size + 1 + 1 + 1, 0, none⟩ = some (.int .i64 0) := (blk_cell hb 0).trans rfl
          have m1 : ((((wq.setCell ⟨w.heap.size + 1 + 1 + 1, 0, none⟩ (.int .i64 0)).setCell ⟨w.heap.size + 1 + 1 + 1, 1, none⟩ (.slice none 0 0)).setCell ⟨w.heap.size + 1 + 1 + 1, 2, none⟩ (.slice none 0 0)).setCell ⟨w.heap.size + 1 + 1 + 1, 3, none⟩ (.slice none 0 0)).cell? ⟨w.heap.size + 1 + 1 + 1, 1, none⟩ = some (.slice none 0 0) := (blk_cell hb 1).trans rfl
          have m2 : ((((wq.setCell ⟨w.heap.size + 1 + 1 + 1, 0, none⟩ (.int .i64 0)).setCell ⟨w.heap.size + 1 + 1 + 1, 1, none⟩ (.slice none 0 0)).setCell ⟨w.heap.size + 1 + 1 + 1, 2, none⟩ (.slice none 0 0)).setCell ⟨w.heap.size + 1 + 1 + 1, 3, none⟩ (.slice none 0 0)).cell? ⟨w.heap.size + 1 + 1 + 1, 2, none⟩ = some (.slice none 0 0) := (blk_cell hb 2).trans rfl
          have m3 : ((((wq.setCell ⟨w.heap.size + 1 + 1 + 1, 0, none⟩ (.int .i64 0)).setCell ⟨w.heap.size + 1 + 1 + 1, 1, none⟩ (.slice none 0 0)).setCell ⟨w.heap.size + 1 + 1 + 1, 2, none⟩ (.slice none 0 0)).setCell ⟨w.heap.size + 1 + 1 + 1, 3, none⟩ (.slice none 0 0)).cell? ⟨w.heap.size + 1 + 1 + 1, 3, none⟩ = some (.slice none 0 0) := (blk_cell hb 3).trans rfl
          exact bodyPost_ret (v := .tuple #[.agg #[.int .i64 0, .slice none 0 0, .slice none 0 0, .slice none 0 0], .int .i64 70]) (by simp [results, Tryz.results45, go_sem, m0, m1, m2, m3]) rfl ⟨put_four_gb HG.out (Nat.le_add_right _ 3) _ _ _ _, by rw [HDI.out]⟩
        | some l =>
          rw [hE] at HDI HEC
          have HE := hide (fun w2 (hg : w.grownBy w2 none) => HEC.out w2 hg)
          clear HEC HEA hE
          go_enter Tryz.func45, Tryz.ntmps45
          go_wp2_with fail
          rw [← HW.out]
          go_wp2_with (first
            | (go_at_call 82; refine (isAtom_any _ _ _ _ _).mono ?_; rintro e wp ⟨rfl, hg⟩; have HGn := hide (gb_trans HG.out hg (.inl rfl)); have HDn := hide (HD.out.gb hg); clear r0 r1 r2 x0 x1 x2 x3 y0 y1 y2 y3 z0 z1 z2 z3 v0 v1 v2 v3 f0 f1 f2 f3 h0 h1 h2 h3 HG HD; have HG := hide HGn.out; have HD := hide HDn.out; clear HGn HDn hg; obtain ⟨⟨r0, r1, r2⟩, ⟨x0, x1, x2, x3⟩, ⟨y0, y1, y2, y3⟩, ⟨z0, z1, z2, z3⟩, ⟨v0, v1, v2, v3⟩, ⟨f0, f1, f2, f3⟩, ⟨h0, h1, h2, h3⟩⟩ := HD.out.vis)
            | (go_at_call 30; first | (have _m := MC; clear MC _m; refine (HCX.out _ HG.out).mono ?_; rintro e wq ⟨rfl, hg⟩; have HGn := hide (gb_trans HG.out hg (.inl rfl)); have HDn := hide (HD.out.gb hg); clear r0 r1 r2 x0 x1 x2 x3 y0 y1 y2 y3 z0 z1 z2 z3 v0 v1 v2 v3 f0 f1 f2 f3 h0 h1 h2 h3 HG HD; have HG := hide HGn.out; have HD := hide HDn.out; clear HGn HDn hg; obtain ⟨⟨r0, r1, r2⟩, ⟨x0, x1, x2, x3⟩, ⟨y0, y1, y2, y3⟩, ⟨z0, z1, z2, z3⟩, ⟨v0, v1, v2, v3⟩, ⟨f0, f1, f2, f3⟩, ⟨h0, h1, h2, h3⟩⟩ := HD.out.vis) | (refine (HCY.out _ HG.out).mono ?_; rintro e wq ⟨rfl, hg⟩; have HGn := hide (gb_trans HG.out hg (.inl rfl)); have HDn := hide (HD.out.gb hg); clear r0 r1 r2 x0 x1 x2 x3 y0 y1 y2 y3 z0 z1 z2 z3 v0 v1 v2 v3 f0 f1 f2 f3 h0 h1 h2 h3 HG HD; have HG := hide HGn.out; have HD := hide HDn.out; clear HGn HDn hg; obtain ⟨⟨r0, r1, r2⟩, ⟨x0, x1, x2, x3⟩, ⟨y0, y1, y2, y3⟩, ⟨z0, z1, z2, z3⟩, ⟨v0, v1, v2, v3⟩, ⟨f0, f1, f2, f3⟩, ⟨h0, h1, h2, h3⟩⟩ := HD.out.vis))
            | (go_at_call 84; refine (HE.out _ HG.out).mono ?_; rintro e wq ⟨hg, A, c, rfl, ho⟩; have HO := hide (own_low ho HG.out.size); have HOB : Hid (∀ b, (Value.slice A l.length c).ownBlock = some b → w.heap.size + 4 < b) := hide (fun b e => Nat.lt_of_lt_of_le (blk_lt HD.out.v) (ho.lt b e).1); clear ho; have HGn := hide (gb_trans HG.out hg (.inl rfl)); have HDn := hide (HD.out.gb hg); clear r0 r1 r2 x0 x1 x2 x3 y0 y1 y2 y3 z0 z1 z2 z3 v0 v1 v2 v3 f0 f1 f2 f3 h0 h1 h2 h3 HG HD; have HG := hide HGn.out; have HD := hide HDn.out; clear HGn HDn hg; obtain ⟨⟨r0, r1, r2⟩, ⟨x0, x1, x2, x3⟩, ⟨y0, y1, y2, y3⟩, ⟨z0, z1, z2, z3⟩, ⟨v0, v1, v2, v3⟩, ⟨f0, f1, f2, f3⟩, ⟨h0, h1, h2, h3⟩⟩ := HD.out.vis)
            | (go_at_call 85; refine (like_any _ _ _ _ _ _ ⟨by decide, by decide⟩ ⟨A, l.length, c, rfl⟩ _).mono ?_; rintro e wr ⟨rfl, hg⟩; have HON := hide (HO.out.kept hg (by cases (Value.slice A l.length c).ownBlock <;> simp)); clear HO; have HGn := hide (gb_trans HG.out hg (.inl rfl)); have HDn := hide (HD.out.gb hg); clear r0 r1 r2 x0 x1 x2 x3 y0 y1 y2 y3 z0 z1 z2 z3 v0 v1 v2 v3 f0 f1 f2 f3 h0 h1 h2 h3 HG HD; have HG := hide HGn.out; have HD := hide HDn.out; clear HGn HDn hg; obtain ⟨⟨r0, r1, r2⟩, ⟨x0, x1, x2, x3⟩, ⟨y0, y1, y2, y3⟩, ⟨z0, z1, z2, z3⟩, ⟨v0, v1, v2, v3⟩, ⟨f0, f1, f2, f3⟩, ⟨h0, h1, h2, h3⟩⟩ := HD.out.vis))
          have hb := put_four HD.out.z (.int .i64 (likeT x.t 2)) (.slice A l.length c) (.slice none 0 0) (.slice none 0 0)
          have m0 : ((((wr.setCell ⟨w.heap.size + 1 + 1 + 1, 0, none⟩ (.int .i64 (likeT x.t 2))).setCell ⟨w.heap.size + 1 + 1 + 1, 1, none⟩ (.slice A l.length c)).setCell ⟨w.heap.size + 1 + 1 + 1, 2, none⟩ (.slice none 0 0)).setCell ⟨w.heap.size + 1 + 1 + 1, 3, none⟩ (.slice none 0 0)).cell? ⟨w.heap.size + 1 + 1 + 1, 0, none⟩ = some (.int .i64 (likeT x.t 2)) := (blk_cell hb 0).trans rfl
          have m1 : ((((wr.setCell ⟨w.heap.size + 1 + 1 + 1, 0, none⟩ (.int .i64 (likeT x.t 2))).setCell ⟨w.heap.size + 1 + 1 + 1, 1, none⟩ (.slice A l.length c)).setCell ⟨w.heap.size + 1 + 1 + 1, 2, none⟩ (.slice none 0 0)).setCell ⟨w.heap.size + 1 + 1 + 1, 3, none⟩ (.slice none 0 0)).cell? ⟨w.heap.size + 1 + 1 + 1, 1, none⟩ = some (.slice A l.length c) := (blk_cell hb 1).trans rfl
          have m2 : ((((wr.setCell ⟨w.heap.size + 1 + 1 + 1, 0, none⟩ (.int .i64 (likeT x.t 2))).setCell ⟨w.heap.size + 1 + 1 + 1, 1, none⟩ (.slice A l.length c)).setCell ⟨w.heap.size + 1 + 1 + 1, 2, none⟩ (.slice none 0 0)).setCell ⟨w.heap.size + 1 + 1 + 1, 3, none⟩ (.slice none 0 0)).cell? ⟨w.heap.size + 1 + 1 + 1, 2, none⟩ = some (.slice none 0 0) := (blk_cell hb 2).trans rfl
          have m3 : ((((wr.setCell ⟨w.heap.size + 1 + 1 + 1, 0, none⟩ (.int .i64 (likeT x.t 2))).setCell ⟨w.heap.size + 1 + 1 + 1, 1, none⟩ (.slice A l.length c)).setCell ⟨w.heap.size + 1 + 1 + 1, 2, none⟩ (.slice none 0 0)).setCell ⟨w.heap.size + 1 + 1 + 1, 3, none⟩ (.slice none 0 0)).cell? ⟨w.heap.size + 1 + 1 + 1, 3, none⟩ = some (.slice none 0 0) := (blk_cell hb 3).trans rfl
          have hon := HON.out.kept (put_four_row wr (w.heap.size + 3) (.int .i64 (likeT x.t 2)) (.slice A l.length c) (.slice none 0 0) (.slice none 0 0)) (.inr (fun e => by have := HOB.out _ e; omega))
          obtain ⟨_, _, e9, hc9, _⟩ := own_form hon
          injection e9 with _ _ e9
          exact bodyPost_ret (v := .tuple #[.agg #[.int .i64 (likeT x.t 2), .slice A l.length c, .slice none 0 0, .slice none 0 0], .int .i64 0]) (by simp [results, Tryz.results45, go_sem, m0, m1, m2, m3]) rfl ⟨put_four_gb HG.out (Nat.le_add_right _ 3) _ _ _ _, by rw [HDI.out]; exact ⟨A, c, e9 ▸ hc9, by rw [HLK.out], hon⟩⟩
      · have HDI := hide (show doI f x y = .error 32 by unfold doI; rw [if_pos hxt, if_pos ⟨hyt, hl⟩])
        have hl1 : ((y.n.length : Int) == (x.n.length : Int)) = false := int_beq_f (by omega)
        have hl2 : ((y.n.length : Int) != (x.n.length : Int)) = true := int_bne_f (by omega)
        clear hxt hyt hl HEA
        go_enter Tryz.func45, Tryz.ntmps45
        go_wp2_with fail
        rw [← HW.out]
        go_wp2_with (first
          | (go_at_call 82; refine (isAtom_any _ _ _ _ _).mono ?_; rintro e wp ⟨rfl, hg⟩; have HGn := hide (gb_trans HG.out hg (.inl rfl)); have HDn := hide (HD.out.gb hg); clear r0 r1 r2 x0 x1 x2 x3 y0 y1 y2 y3 z0 z1 z2 z3 v0 v1 v2 v3 f0 f1 f2 f3 h0 h1 h2 h3 HG HD; have HG := hide HGn.out; have HD := hide HDn.out; clear HGn HDn hg; obtain ⟨⟨r0, r1, r2⟩, ⟨x0, x1, x2, x3⟩, ⟨y0, y1, y2, y3⟩, ⟨z0, z1, z2, z3⟩, ⟨v0, v1, v2, v3⟩, ⟨f0, f1, f2, f3⟩, ⟨h0, h1, h2, h3⟩⟩ := HD.out.vis)
          | (go_at_call 30; first | (have _m := MC; clear MC _m; refine (HCX.out _ HG.out).mono ?_; rintro e wq ⟨rfl, hg⟩; have HGn := hide (gb_trans HG.out hg (.inl rfl)); have HDn := hide (HD.out.gb hg); clear r0 r1 r2 x0 x1 x2 x3 y0 y1 y2 y3 z0 z1 z2 z3 v0 v1 v2 v3 f0 f1 f2 f3 h0 h1 h2 h3 HG HD; have HG := hide HGn.out; have HD := hide HDn.out; clear HGn HDn hg; obtain ⟨⟨r0, r1, r2⟩, ⟨x0, x1, x2, x3⟩, ⟨y0, y1, y2, y3⟩, ⟨z0, z1, z2, z3⟩, ⟨v0, v1, v2, v3⟩, ⟨f0, f1, f2, f3⟩, ⟨h0, h1, h2, h3⟩⟩ := HD.out.vis) | (refine (HCY.out _ HG.out).mono ?_; rintro e wq ⟨rfl, hg⟩; have HGn := hide (gb_trans HG.out hg (.inl rfl)); have HDn := hide (HD.out.gb hg); clear r0 r1 r2 x0 x1 x2 x3 y0 y1 y2 y3 z0 z1 z2 z3 v0 v1 v2 v3 f0 f1 f2 f3 h0 h1 h2 h3 HG HD; have HG := hide HGn.out; have HD := hide HDn.out; clear HGn HDn hg; obtain ⟨⟨r0, r1, r2⟩, ⟨x0, x1, x2, x3⟩, ⟨y0, y1, y2, y3⟩, ⟨z0, z1, z2, z3⟩, ⟨v0, v1, v2, v3⟩, ⟨f0, f1, f2, f3⟩, ⟨h0, h1, h2, h3⟩⟩ := HD.out.vis)))
        have hb := put_four HD.out.z (.int .i64 0) (.slice none 0 0) (.slice none 0 0) (.slice none 0 0)
        have m0 : ((((wq.setCell ⟨w.heap.size + 1 + 1 + 1, 0, none⟩ (.int .i64 0)).setCell ⟨w.heap.size + 1 + 1 + 1, 1, none⟩ (.slice none 0 0)).setCell ⟨w.heap.size + 1 + 1 + 1, 2, none⟩ (.slice none 0 0)).setCell ⟨w.heap.size + 1 + 1 + 1, 3, none⟩ (.slice none 0 0)).cell? ⟨w.heap.size + 1 + 1 + 1, 0, none⟩ = some (.int .i64 0) := (blk_cell hb 0).trans rfl
        have m1 : ((((wq.setCell ⟨w.heap.size + 1 + 1 + 1, 0, none⟩ (.int .i64 0)).setCell ⟨w.heap.size + 1 + 1 + 1, 1, none⟩ (.slice none 0 0)).setCell ⟨w.heap.size + 1 + 1 + 1, 2, none⟩ (.slice none 0 0)).setCell ⟨w.heap.size + 1 + 1 + 1, 3, none⟩ (.slice none 0 0)).cell? ⟨w.heap.size + 1 + 1 + 1, 1, none⟩ = some (.slice none 0 0) := (blk_cell hb 1).trans rfl
        have m2 : ((((wq.setCell ⟨w.heap.size + 1 + 1 + 1, 0, none⟩ (.int .i64 0)).setCell ⟨w.heap.size + 1 + 1 + 1, 1, none⟩ (.slice none 0 0)).setCell ⟨w.heap.size + 1 + 1 + 1, 2, none⟩ (.slice none 0 0)).setCell ⟨w.heap.size + 1 + 1 + 1, 3, none⟩ (.slice none 0 0)).cell? ⟨w.heap.size + 1 + 1 + 1, 2, none⟩ = some (.slice none 0 0) := (blk_cell hb 2).trans rfl
        have m3 : ((((wq.setCell ⟨w.heap.size + 1 + 1 + 1, 0, none⟩ (.int .i64 0)).setCell ⟨w.heap.size + 1 + 1 + 1, 1, none⟩ (.slice none 0 0)).setCell ⟨w.heap.size + 1 + 1 + 1, 2, none⟩ (.slice none 0 0)).setCell ⟨w.heap.size + 1 + 1 + 1, 3, none⟩ (.slice none 0 0)).cell? ⟨w.heap.size + 1 + 1 + 1, 3, none⟩ = some (.slice none 0 0) := (blk_cell hb 3).trans rfl
        exact bodyPost_ret (v := .tuple #[.agg #[.int .i64 0, .slice none 0 0, .slice none 0 0, .slice none 0 0], .int .i64 32]) (by simp [results, Tryz.results45, go_sem, m0, m1, m2, m3]) rfl ⟨put_four_gb HG.out (Nat.le_add_right _ 3) _ _ _ _, by rw [HDI.out]⟩
    · have ay : atomT y.t = true := by rw [hyt]; rfl
      have HDI := hide (show doI f x y = match eachO f x.n y.n 0 x.n.length with | none => .error 70 | some l => .ok (2, l) by unfold doI; rw [if_pos hxt, if_neg (fun h => by rw [hyt] at h; exact absurd h.1 (by decide))])
      have HEC := hide (HEA.out x.n.length HNX.out id (fun _ => by omega))
      clear hxt hyt hy1
      cases hE : eachO f x.n y.n 0 x.n.length with
      | none =>
        rw [hE] at HDI HEC
        have HE := hide (fun w2 (hg : w.grownBy w2 none) => HEC.out w2 hg)
        clear HEC HEA hE
        go_enter Tryz.func45, Tryz.ntmps45
        go_wp2_with fail
        rw [← HW.out]
        go_wp2_with (first
          | (go_at_call 82; refine (isAtom_any _ _ _ _ _).mono ?_; rintro e wp ⟨rfl, hg⟩; have HGn := hide (gb_trans HG.out hg (.inl rfl)); have HDn := hide (HD.out.gb hg); clear r0 r1 r2 x0 x1 x2 x3 y0 y1 y2 y3 z0 z1 z2 z3 v0 v1 v2 v3 f0 f1 f2 f3 h0 h1 h2 h3 HG HD; have HG := hide HGn.out; have HD := hide HDn.out; clear HGn HDn hg; obtain ⟨⟨r0, r1, r2⟩, ⟨x0, x1, x2, x3⟩, ⟨y0, y1, y2, y3⟩, ⟨z0, z1, z2, z3⟩, ⟨v0, v1, v2, v3⟩, ⟨f0, f1, f2, f3⟩, ⟨h0, h1, h2, h3⟩⟩ := HD.out.vis)
          | (go_at_call 30; first | (have _m := MC; clear MC _m; refine (HCX.out _ HG.out).mono ?_; rintro e wq ⟨rfl, hg⟩; have HGn := hide (gb_trans HG.out hg (.inl rfl)); have HDn := hide (HD.out.gb hg); clear r0 r1 r2 x0 x1 x2 x3 y0 y1 y2 y3 z0 z1 z2 z3 v0 v1 v2 v3 f0 f1 f2 f3 h0 h1 h2 h3 HG HD; have HG := hide HGn.out; have HD := hide HDn.out; clear HGn HDn hg; obtain ⟨⟨r0, r1, r2⟩, ⟨x0, x1, x2, x3⟩, ⟨y0, y1, y2, y3⟩, ⟨z0, z1, z2, z3⟩, ⟨v0, v1, v2, v3⟩, ⟨f0, f1, f2, f3⟩, ⟨h0, h1, h2, h3⟩⟩ := HD.out.vis) | (refine (HCY.out _ HG.out).mono ?_; rintro e wq ⟨rfl, hg⟩; have HGn := hide (gb_trans HG.out hg (.inl rfl)); have HDn := hide (HD.out.gb hg); clear r0 r1 r2 x0 x1 x2 x3 y0 y1 y2 y3 z0 z1 z2 z3 v0 v1 v2 v3 f0 f1 f2 f3 h0 h1 h2 h3 HG HD; have HG := hide HGn.out; have HD := hide HDn.out; clear HGn HDn hg; obtain ⟨⟨r0, r1, r2⟩, ⟨x0, x1, x2, x3⟩, ⟨y0, y1, y2, y3⟩, ⟨z0, z1, z2, z3⟩, ⟨v0, v1, v2, v3⟩, ⟨f0, f1, f2, f3⟩, ⟨h0, h1, h2, h3⟩⟩ := HD.out.vis))
          | (go_at_call 84; refine (HE.out _ HG.out).mono ?_; rintro e wq ⟨hg, rfl⟩; have HGn := hide (gb_trans HG.out hg (.inl rfl)); have HDn := hide (HD.out.gb hg); clear r0 r1 r2 x0 x1 x2 x3 y0 y1 y2 y3 z0 z1 z2 z3 v0 v1 v2 v3 f0 f1 f2 f3 h0 h1 h2 h3 HG HD; have HG := hide HGn.out; have HD := hide HDn.out; clear HGn HDn hg; obtain ⟨⟨r0, r1, r2⟩, ⟨x0, x1, x2, x3⟩, ⟨y0, y1, y2, y3⟩, ⟨z0, z1, z2, z3⟩, ⟨v0, v1, v2, v3⟩, ⟨f0, f1, f2, f3⟩, ⟨h0, h1, h2, h3⟩⟩ := HD.out.vis))
        have hb := put_four HD.out.z (.int .i64 0) (.slice none 0 0) (.slice none 0 0) (.slice none 0 0)
        have m0 : ((((wq.setCell ⟨w.heap.size + 1 + 1 + 1, 0, none⟩ (.int .i64 0)).setCell ⟨w.heap.size + 1 + 1 + 1, 1, none⟩ (.slice none 0 0)).setCell ⟨w.heap.size + 1 + 1 + 1, 2, none⟩ (.slice none 0 0)).setCell ⟨w.heap.size + 1 + 1 + 1, 3, none⟩ (.slice none 0 0)).cell? ⟨w.heap.size + 1 + 1 + 1, 0, none⟩ = some (.int .i64 0) := (blk_cell hb 0).trans rfl
        have m1 : ((((wq.setCell ⟨w.heap.size + 1 + 1 + 1, 0, none⟩ (.int .i64 0)).setCell ⟨w.heap.size + 1 + 1 + 1, 1, none⟩ (.slice none 0 0)).setCell ⟨w.heap.size + 1 + 1 + 1, 2, none⟩ (.slice none 0 0)).setCell ⟨w.heap.size + 1 + 1 + 1, 3, none⟩ (.slice none 0 0)).cell? ⟨w.heap.size + 1 + 1 + 1, 1, none⟩ = some (.slice none 0 0) := (blk_cell hb 1).trans rfl
        have m2 : ((((wq.setCell ⟨w.heap.size + 1 + 1 + 1, 0, none⟩ (.int .i64 0)).setCell ⟨w.heap.size + 1 + 1 + 1, 1, none⟩ (.slice none 0 0)).setCell ⟨w.heap.size + 1 + 1 + 1, 2, none⟩ (.slice none 0 0)).setCell ⟨w.heap.size + 1 + 1 + 1, 3, none⟩ (.slice none 0 0)).cell? ⟨w.heap.size + 1 + 1 + 1, 2, none⟩ = some (.slice none 0 0) := (blk_cell hb 2).trans rfl
        have m3 : ((((wq.setCell ⟨w.heap.size + 1 + 1 + 1, 0, none⟩ (.int .i64 0)).setCell ⟨w.heap.size + 1 + 1 + 1, 1, none⟩ (.slice none 0 0)).setCell ⟨w.heap.size + 1 + 1 + 1, 2, none⟩ (.slice none 0 0)).setCell ⟨w.heap.size + 1 + 1 + 1, 3, none⟩ (.slice none 0 0)).cell? ⟨w.heap.size + 1 + 1 + 1, 3, none⟩ = some (.slice none 0 0) := (blk_cell hb 3).trans rfl
        exact bodyPost_ret (v := .tuple #[.agg #[.int .i64 0, .slice none 0 0, .slice none 0 0, .slice none 0 0], .int .i64 70]) (by simp [results, Tryz.results45, go_sem, m0, m1, m2, m3]) rfl ⟨put_four_gb HG.out (Nat.le_add_right _ 3) _ _ _ _, by rw [HDI.out]⟩
      | some l =>
        rw [hE] at HDI HEC
        have HE := hide (fun w2 (hg : w.grownBy w2 none) => HEC.out w2 hg)
        clear HEC HEA hE
        go_enter Tryz.func45, Tryz.ntmps45
        go_wp2_with fail
        rw [← HW.out]
        go_wp2_with (first
          | (go_at_call 82; refine (isAtom_any _ _ _ _ _).mono ?_; rintro e wp ⟨rfl, hg⟩; have HGn := hide (gb_trans HG.out hg (.inl rfl)); have HDn := hide (HD.out.gb hg); clear r0 r1 r2 x0 x1 x2 x3 y0 y1 y2 y3 z0 z1 z2 z3 v0 v1 v2 v3 f0 f1 f2 f3 h0 h1 h2 h3 HG HD; have HG := hide HGn.out; have HD := hide HDn.out; clear HGn HDn hg; obtain ⟨⟨r0, r1, r2⟩, ⟨x0, x1, x2, x3⟩, ⟨y0, y1, y2, y3⟩, ⟨z0, z1, z2, z3⟩, ⟨v0, v1, v2, v3⟩, ⟨f0, f1, f2, f3⟩, ⟨h0, h1, h2, h3⟩⟩ := HD.out.vis)
          | (go_at_call 30; first | (have _m := MC; clear MC _m; refine (HCX.out _ HG.out).mono ?_; rintro e wq ⟨rfl, hg⟩; have HGn := hide (gb_trans HG.out hg (.inl rfl)); have HDn := hide (HD.out.gb hg); clear r0 r1 r2 x0 x1 x2 x3 y0 y1 y2 y3 z0 z1 z2 z3 v0 v1 v2 v3 f0 f1 f2 f3 h0 h1 h2 h3 HG HD; have HG := hide HGn.out; have HD := hide HDn.out; clear HGn HDn hg; obtain ⟨⟨r0, r1, r2⟩, ⟨x0, x1, x2, x3⟩, ⟨y0, y1, y2, y3⟩, ⟨z0, z1, z2, z3⟩, ⟨v0, v1, v2, v3⟩, ⟨f0, f1, f2, f3⟩, ⟨h0, h1, h2, h3⟩⟩ := HD.out.vis) | (refine (HCY.out _ HG.out).mono ?_; rintro e wq ⟨rfl, hg⟩; have HGn := hide (gb_trans HG.out hg (.inl rfl)); have HDn := hide (HD.out.gb hg); clear r0 r1 r2 x0 x1 x2 x3 y0 y1 y2 y3 z0 z1 z2 z3 v0 v1 v2 v3 f0 f1 f2 f3 h0 h1 h2 h3 HG HD; have HG := hide HGn.out; have HD := hide HDn.out; clear HGn HDn hg; obtain ⟨⟨r0, r1, r2⟩, ⟨x0, x1, x2, x3⟩, ⟨y0, y1, y2, y3⟩, ⟨z0, z1, z2, z3⟩, ⟨v0, v1, v2, v3⟩, ⟨f0, f1, f2, f3⟩, ⟨h0, h1, h2, h3⟩⟩ := HD.out.vis))
          | (go_at_call 84; refine (HE.out _ HG.out).mono ?_; rintro e wq ⟨hg, A, c, rfl, ho⟩; have HO := hide (own_low ho HG.out.size); have HOB : Hid (∀ b, (Value.slice A l.length c).ownBlock = some b → w.heap.size + 4 < b) := hide (fun b e => Nat.lt_of_lt_of_le (blk_lt HD.out.v) (ho.lt b e).1); clear ho; have HGn := hide (gb_trans HG.out hg (.inl rfl)); have HDn := hide (HD.out.gb hg); clear r0 r1 r2 x0 x1 x2 x3 y0 y1 y2 y3 z0 z1 z2 z3 v0 v1 v2 v3 f0 f1 f2 f3 h0 h1 h2 h3 HG HD; have HG := hide HGn.out; have HD := hide HDn.out; clear HGn HDn hg; obtain ⟨⟨r0, r1, r2⟩, ⟨x0, x1, x2, x3⟩, ⟨y0, y1, y2, y3⟩, ⟨z0, z1, z2, z3⟩, ⟨v0, v1, v2, v3⟩, ⟨f0, f1, f2, f3⟩, ⟨h0, h1, h2, h3⟩⟩ := HD.out.vis)
          | (go_at_call 85; refine (like_any _ _ _ _ _ _ ⟨by decide, by decide⟩ ⟨A, l.length, c, rfl⟩ _).mono ?_; rintro e wr ⟨rfl, hg⟩; have HON := hide (HO.out.kept hg (by cases (Value.slice A l.length c).ownBlock <;> simp)); clear HO; have HGn := hide (gb_trans HG.out hg (.inl rfl)); have HDn := hide (HD.out.gb hg); clear r0 r1 r2 x0 x1 x2 x3 y0 y1 y2 y3 z0 z1 z2 z3 v0 v1 v2 v3 f0 f1 f2 f3 h0 h1 h2 h3 HG HD; have HG := hide HGn.out; have HD := hide HDn.out; clear HGn HDn hg; obtain ⟨⟨r0, r1, r2⟩, ⟨x0, x1, x2, x3⟩, ⟨y0, y1, y2, y3⟩, ⟨z0, z1, z2, z3⟩, ⟨v0, v1, v2, v3⟩, ⟨f0, f1, f2, f3⟩, ⟨h0, h1, h2, h3⟩⟩ := HD.out.vis))
        have hb := put_four HD.out.z (.int .i64 (likeT x.t 2)) (.slice A l.length c) (.slice none 0 0) (.slice none 0 0)
        have m0 : ((((wr.setCell ⟨w.heap.size + 1 + 1 + 1, 0, none⟩ (.int .i64 (likeT x.t 2))).setCell ⟨w.heap.size + 1 + 1 + 1, 1, none⟩ (.slice A l.length c)).setCell ⟨w.heap.size + 1 + 1 + 1, 2, none⟩ (.slice none 0 0)).setCell ⟨w.heap.size + 1 + 1 + 1, 3, none⟩ (.slice none 0 0)).cell? ⟨w.heap.size + 1 + 1 + 1, 0, none⟩ = some (.int .i64 (likeT x.t 2)) := (blk_cell hb 0).trans rfl
        have m1 : ((((wr.setCell ⟨w.heap.size + 1 + 1 + 1, 0, none⟩ (.int .i64 (likeT x.t 2))).setCell ⟨w.heap.size + 1 + 1 + 1, 1, none⟩ (.slice A l.length c)).setCell ⟨w.heap.size + 1 + 1 + 1, 2, none⟩ (.slice none 0 0)).setCell ⟨w.heap.size + 1 + 1 + 1, 3, none⟩ (.slice none 0 0)).cell? ⟨w.heap.size + 1 + 1 + 1, 1, none⟩ = some (.slice A l.length c) := (blk_cell hb 1).trans rfl
        have m2 : ((((wr.setCell ⟨w.heap.size + 1 + 1 + 1, 0, none⟩ (.int .i64 (likeT x.t 2))).setCell ⟨w.heap.size + 1 + 1 + 1, 1, none⟩ (.slice A l.length c)).setCell ⟨w.heap.size + 1 + 1 + 1, 2, none⟩ (.slice none 0 0)).setCell ⟨w.heap.size + 1 + 1 + 1, 3, none⟩ (.slice none 0 0)).cell? ⟨w.heap.size + 1 + 1 + 1, 2, none⟩ = some (.slice none 0 0) := (blk_cell hb 2).trans rfl
        have m3 : ((((wr.setCell ⟨w.heap.size + 1 + 1 + 1, 0, none⟩ (.int .i64 (likeT x.t 2))).setCell ⟨w.heap.size + 1 + 1 + 1, 1, none⟩ (.slice A l.length c)).setCell ⟨w.heap.size + 1 + 1 + 1, 2, none⟩ (.slice none 0 0)).setCell ⟨w.heap.size + 1 + 1 + 1, 3, none⟩ (.slice none 0 0)).cell? ⟨w.heap.size + 1 + 1 + 1, 3, none⟩ = some (.slice none 0 0) := (blk_cell hb 3).trans rfl
        have hon := HON.out.kept (put_four_row wr (w.heap.size + 3) (.int .i64 (likeT x.t 2)) (.slice A l.length c) (.slice none 0 0) (.slice none 0 0)) (.inr (fun e => by have := HOB.out _ e; omega))
        obtain ⟨_, _, e9, hc9, _⟩ := own_form hon
        injection e9 with _ _ e9
        exact bodyPost_ret (v := .tuple #[.agg #[.int .i64 (likeT x.t 2), .slice A l.length c, .slice none 0 0, .slice none 0 0], .int .i64 0]) (by simp [results, Tryz.results45, go_sem, m0, m1, m2, m3]) rfl ⟨put_four_gb HG.out (Nat.le_add_right _ 3) _ _ _ _, by rw [HDI.out]; exact ⟨A, c, e9 ▸ hc9, by rw [HLK.out], hon⟩⟩
  · have ax : atomT x.t = true := by rw [hxt]; rfl
    have HDI := hide (show doI f x y = match eachO f x.n y.n 0 y.n.length with | none => .error 70 | some l => .ok (y.t, l) by unfold doI; rw [if_neg (by rw [hxt]; decide)])
    have HEC := hide (HEA.out y.n.length HNY.out (fun _ => by omega) id)
    rcases HU.out with hyt | ⟨hyt, hy1⟩
    · have ay : atomT y.t = false := by rw [hyt]; rfl
      have HLK := hide (show likeT y.t 2 = y.t by unfold likeT; rw [ay, hyt]; rfl)
      have hl2 : ((y.n.length : Int) != (y.n.length : Int)) = false := by simp
      clear hxt hyt hx1
      cases hE : eachO f x.n y.n 0 y.n.length with
      | none =>
        rw [hE] at HDI HEC
        have HE := hide (fun w2 (hg : w.grownBy w2 none) => HEC.out w2 hg)
        clear HEC HEA hE
        go_enter Tryz.func45, Tryz.ntmps45
        go_wp2_with fail
        rw [← HW.out]
        go_wp2_with (first
          | (go_at_call 82; refine (isAtom_any _ _ _ _ _).mono ?_; rintro e wp ⟨rfl, hg⟩; have HGn := hide (gb_trans HG.out hg (.inl rfl)); have HDn := hide (HD.out.gb hg); clear r0 r1 r2 x0 x1 x2 x3 y0 y1 y2 y3 z0 z1 z2 z3 v0 v1 v2 v3 f0 f1 f2 f3 h0 h1 h2 h3 HG HD; have HG := hide HGn.out; have HD := hide HDn.out; clear HGn HDn hg; obtain ⟨⟨r0, r1, r2⟩, ⟨x0, x1, x2, x3⟩, ⟨y0, y1, y2, y3⟩, ⟨z0, z1, z2, z3⟩, ⟨v0, v1, v2, v3⟩, ⟨f0, f1, f2, f3⟩, ⟨h0, h1, h2, h3⟩⟩ := HD.out.vis)
          | (go_at_call 30; first | (have _m := MC; clear MC _m; refine (HCY.out _ (put_four_gb HG.out (Nat.le_add_right _ 4) (.int .i64 y.t) (.slice mA y.n.length mc) (.slice tA y.s.length tc) (.slice kA y.l.length kc))).mono ?_; rintro e wq ⟨rfl, hg⟩; have HGn := hide (gb_trans (put_four_gb HG.out (Nat.le_add_right _ 4) (.int .i64 y.t) (.slice mA y.n.length mc) (.slice tA y.s.length tc) (.slice kA y.l.length kc)) hg (.inl rfl)); have HDn := hide ((HD.out.wide (.int .i64 y.t) (.slice mA y.n.length mc) (.slice tA y.s.length tc) (.slice kA y.l.length kc)).gb hg); clear r0 r1 r2 x0 x1 x2 x3 y0 y1 y2 y3 z0 z1 z2 z3 v0 v1 v2 v3 f0 f1 f2 f3 h0 h1 h2 h3 HG HD; have HG := hide HGn.out; have HD := hide HDn.out; clear HGn HDn hg; obtain ⟨⟨r0, r1, r2⟩, ⟨x0, x1, x2, x3⟩, ⟨y0, y1, y2, y3⟩, ⟨z0, z1, z2, z3⟩, ⟨v0, v1, v2, v3⟩, ⟨f0, f1, f2, f3⟩, ⟨h0, h1, h2, h3⟩⟩ := HD.out.vis) | (refine (HCY.out _ HG.out).mono ?_; rintro e wq ⟨rfl, hg⟩; have HGn := hide (gb_trans HG.out hg (.inl rfl)); have HDn := hide (HD.out.gb hg); clear r0 r1 r2 x0 x1 x2 x3 y0 y1 y2 y3 z0 z1 z2 z3 v0 v1 v2 v3 f0 f1 f2 f3 h0 h1 h2 h3 HG HD; have HG := hide HGn.out; have HD := hide HDn.out; clear HGn HDn hg; obtain ⟨⟨r0, r1, r2⟩, ⟨x0, x1, x2, x3⟩, ⟨y0, y1, y2, y3⟩, ⟨z0, z1, z2, z3⟩, ⟨v0, v1, v2, v3⟩, ⟨f0, f1, f2, f3⟩, ⟨h0, h1, h2, h3⟩⟩ := HD.out.vis))
          | (go_at_call 84; refine (HE.out _ HG.out).mono ?_; rintro e wq ⟨hg, rfl⟩; have HGn := hide (gb_trans HG.out hg (.inl rfl)); have HDn := hide (HD.out.gb hg); clear r0 r1 r2 x0 x1 x2 x3 y0 y1 y2 y3 z0 z1 z2 z3 v0 v1 v2 v3 f0 f1 f2 f3 h0 h1 h2 h3 HG HD; have HG := hide HGn.out; have HD := hide HDn.out; clear HGn HDn hg; obtain ⟨⟨r0, r1, r2⟩, ⟨x0, x1, x2, x3⟩, ⟨y0, y1, y2, y3⟩, ⟨z0, z1, z2, z3⟩, ⟨v0, v1, v2, v3⟩, ⟨f0, f1, f2, f3⟩, ⟨h0, h1, h2, h3⟩⟩ := HD.out.vis))
        have hb := put_four HD.out.z (.int .i64 0) (.slice none 0 0) (.slice none 0 0) (.slice none 0 0)
        have m0 : ((((wq.setCell ⟨w.heap.size + 1 + 1 + 1, 0, none⟩ (.int .i64 0)).setCell ⟨w.heap.size + 1 + 1 + 1, 1, none⟩ (.slice none 0 0)).setCell ⟨w.heap.size + 1 + 1 + 1, 2, none⟩ (.slice none 0 0)).setCell ⟨w.heap.size + 1 + 1 + 1, 3, none⟩ (.slice none 0 0)).cell? ⟨w.heap.size + 1 + 1 + 1, 0, none⟩ = some (.int .i64 0) := (blk_cell hb 0).trans rfl
        have m1 : ((((wq.setCell ⟨w.heap.size + 1 + 1 + 1, 0, none⟩ (.int .i64 0)).setCell ⟨w.heap.size + 1 + 1 + 1, 1, none⟩ (.slice none 0 0)).setCell ⟨w.heap.size + 1 + 1 + 1, 2, none⟩ (.slice none 0 0)).setCell ⟨w.heap.size + 1 + 1 + 1, 3, none⟩ (.slice none 0 0)).cell? ⟨w.heap.size + 1 + 1 + 1, 1, none⟩ = some (.slice none 0 0) := (blk_cell hb 1).trans rfl
        have m2 : ((((wq.setCell ⟨w.heap.size + 1 + 1 + 1, 0, none⟩ (.int .i64 0)).setCell ⟨w.heap.size + 1 + 1 + 1, 1, none⟩ (.slice none 0 0)).setCell ⟨w.heap.size + 1 + 1 + 1, 2, none⟩ (.slice none 0 0)).setCell ⟨w.heap.size + 1 + 1 + 1, 3, none⟩ (.slice none 0 0)).cell? ⟨w.heap.size + 1 + 1 + 1, 2, none⟩ = some (.slice none 0 0) := (blk_cell hb 2).trans rfl
        have m3 : ((((wq.setCell ⟨w.heap.size + 1 + 1 + 1, 0, none⟩ (.int .i64 0)).setCell ⟨w.heap.size + 1 + 1 + 1, 1, none⟩ (.slice none 0 0)).setCell ⟨w.heap.size + 1 + 1 + 1, 2, none⟩ (.slice none 0 0)).setCell ⟨w.heap.size + 1 + 1 + 1, 3, none⟩ (.slice none 0 0)).cell? ⟨w.heap.size + 1 + 1 + 1, 3, none⟩ = some (.slice none 0 0) := (blk_cell hb 3).trans rfl
        exact bodyPost_ret (v := .tuple #[.agg #[.int .i64 0, .slice none 0 0, .slice none 0 0, .slice none 0 0], .int .i64 70]) (by simp [results, Tryz.results45, go_sem, m0, m1, m2, m3]) rfl ⟨put_four_gb HG.out (Nat.le_add_right _ 3) _ _ _ _, by rw [HDI.out]⟩
      | some l =>
        rw [hE] at HDI HEC
        have HE := hide (fun w2 (hg : w.grownBy w2 none) => HEC.out w2 hg)
        clear HEC HEA hE
        go_enter Tryz.func45, Tryz.ntmps45
        go_wp2_with fail
        rw [← HW.out]
        go_wp2_with (first
          | (go_at_call 82; refine (isAtom_any _ _ _ _ _).mono ?_; rintro e wp ⟨rfl, hg⟩; have HGn := hide (gb_trans HG.out hg (.inl rfl)); have HDn := hide (HD.out.gb hg); clear r0 r1 r2 x0 x1 x2 x3 y0 y1 y2 y3 z0 z1 z2 z3 v0 v1 v2 v3 f0 f1 f2 f3 h0 h1 h2 h3 HG HD; have HG := hide HGn.out; have HD := hide HDn.out; clear HGn HDn hg; obtain ⟨⟨r0, r1, r2⟩, ⟨x0, x1, x2, x3⟩, ⟨y0, y1, y2, y3⟩, ⟨z0, z1, z2, z3⟩, ⟨v0, v1, v2, v3⟩, ⟨f0, f1, f2, f3⟩, ⟨h0, h1, h2, h3⟩⟩ := HD.out.vis)
          | (go_at_call 30; first | (have _m := MC; clear MC _m; refine (HCY.out _ (put_four_gb HG.out (Nat.le_add_right _ 4) (.int .i64 y.t) (.slice mA y.n.length mc) (.slice tA y.s.length tc) (.slice kA y.l.length kc))).mono ?_; rintro e wq ⟨rfl, hg⟩; have HGn := hide (gb_trans (put_four_gb HG.out (Nat.le_add_right _ 4) (.int .i64 y.t) (.slice mA y.n.length mc) (.slice tA y.s.length tc) (.slice kA y.l.length kc)) hg (.inl rfl)); have HDn := hide ((HD.out.wide (.int .i64 y.t) (.slice mA y.n.length mc) (.slice tA y.s.length tc) (.slice kA y.l.length kc)).gb hg); clear r0 r1 r2 x0 x1 x2 x3 y0 y1 y2 y3 z0 z1 z2 z3 v0 v1 v2 v3 f0 f1 f2 f3 h0 h1 h2 h3 HG HD; have HG := hide HGn.out; have HD := hide HDn.out; clear HGn HDn hg; obtain ⟨⟨r0, r1, r2⟩, ⟨x0, x1, x2, x3⟩, ⟨y0, y1, y2, y3⟩, ⟨z0, z1, z2, z3⟩, ⟨v0, v1, v2, v3⟩, ⟨f0, f1, f2, f3⟩, ⟨h0, h1, h2, h3⟩⟩ := HD.out.vis) | (refine (HCY.out _ HG.out).mono ?_; rintro e wq ⟨rfl, hg⟩; have HGn := hide (gb_trans HG.out hg (.inl rfl)); have HDn := hide (HD.out.gb hg); clear r0 r1 r2 x0 x1 x2 x3 y0 y1 y2 y3 z0 z1 z2 z3 v0 v1 v2 v3 f0 f1 f2 f3 h0 h1 h2 h3 HG HD; have HG := hide HGn.out; have HD := hide HDn.out; clear HGn HDn hg; obtain ⟨⟨r0, r1, r2⟩, ⟨x0, x1, x2, x3⟩, ⟨y0, y1, y2, y3⟩, ⟨z0, z1, z2, z3⟩, ⟨v0, v1, v2, v3⟩, ⟨f0, f1, f2, f3⟩, ⟨h0, h1, h2, h3⟩⟩ := HD.out.vis))
          | (go_at_call 84; refine (HE.out _ HG.out).mono ?_; rintro e wq ⟨hg, A, c, rfl, ho⟩; have HO := hide (own_low ho HG.out.size); have HOB : Hid (∀ b, (Value.slice A l.length c).ownBlock = some b → w.heap.size + 4 < b) := hide (fun b e => Nat.lt_of_lt_of_le (blk_lt HD.out.v) (ho.lt b e).1); clear ho; have HGn := hide (gb_trans HG.out hg (.inl rfl)); have HDn := hide (HD.out.gb hg); clear r0 r1 r2 x0 x1 x2 x3 y0 y1 y2 y3 z0 z1 z2 z3 v0 v1 v2 v3 f0 f1 f2 f3 h0 h1 h2 h3 HG HD; have HG := hide HGn.out; have HD := hide HDn.out; clear HGn HDn hg; obtain ⟨⟨r0, r1, r2⟩, ⟨x0, x1, x2, x3⟩, ⟨y0, y1, y2, y3⟩, ⟨z0, z1, z2, z3⟩, ⟨v0, v1, v2, v3⟩, ⟨f0, f1, f2, f3⟩, ⟨h0, h1, h2, h3⟩⟩ := HD.out.vis)
          | (go_at_call 85; refine (like_any _ _ _ _ _ _ ⟨by decide, by decide⟩ ⟨A, l.length, c, rfl⟩ _).mono ?_; rintro e wr ⟨rfl, hg⟩; have HON := hide (HO.out.kept hg (by cases (Value.slice A l.length c).ownBlock <;> simp)); clear HO; have HGn := hide (gb_trans HG.out hg (.inl rfl)); have HDn := hide (HD.out.gb hg); clear r0 r1 r2 x0 x1 x2 x3 y0 y1 y2 y3 z0 z1 z2 z3 v0 v1 v2 v3 f0 f1 f2 f3 h0 h1 h2 h3 HG HD; have HG := hide HGn.out; have HD := hide HDn.out; clear HGn HDn hg; obtain ⟨⟨r0, r1, r2⟩, ⟨x0, x1, x2, x3⟩, ⟨y0, y1, y2, y3⟩, ⟨z0, z1, z2, z3⟩, ⟨v0, v1, v2, v3⟩, ⟨f0, f1, f2, f3⟩, ⟨h0, h1, h2, h3⟩⟩ := HD.out.vis))
        have hb := put_four HD.out.z (.int .i64 (likeT y.t 2)) (.slice A l.length c) (.slice none 0 0) (.slice none 0 0)
        have m0 : ((((wr.setCell ⟨w.heap.size + 1 + 1 + 1, 0, none⟩ (.int .i64 (likeT y.t 2))).setCell ⟨w.heap.size + 1 + 1 + 1, 1, none⟩ (.slice A l.length c)).setCell ⟨w.heap.size + 1 + 1 + 1, 2, none⟩ (.slice none 0 0)).setCell ⟨w.heap.size + 1 + 1 + 1, 3, none⟩ (.slice none 0 0)).cell? ⟨w.heap.size + 1 + 1 + 1, 0, none⟩ = some (.int .i64 (likeT y.t 2)) := (blk_cell hb 0).trans rfl
        have m1 : ((((wr.setCell ⟨w.heap.size + 1 + 1 + 1, 0, none⟩ (.int .i64 (likeT y.t 2))).setCell ⟨w.heap.size + 1 + 1 + 1, 1, none⟩ (.slice A l.length c)).setCell ⟨w.heap.size + 1 + 1 + 1, 2, none⟩ (.slice none 0 0)).setCell ⟨w.heap.size + 1 + 1 + 1, 3, none⟩ (.slice none 0 0)).cell? ⟨w.heap.size + 1 + 1 + 1, 1, none⟩ = some (.slice A l.length c) := (blk_cell hb 1).trans rfl
        have m2 : ((((wr.setCell ⟨w.heap.size + 1 + 1 + 1, 0, none⟩ (.int .i64 (likeT y.t 2))).setCell ⟨w.heap.size + 1 + 1 + 1, 1, none⟩ (.slice A l.length c)).setCell ⟨w.heap.size + 1 + 1 + 1, 2, none⟩ (.slice none 0 0)).setCell ⟨w.heap.size + 1 + 1 + 1, 3, none⟩ (.slice none 0 0)).cell? ⟨w.heap.size + 1 + 1 + 1, 2, none⟩ = some (.slice none 0 0) := (blk_cell hb 2).trans rfl
        have m3 : ((((wr.setCell ⟨w.heap.size + 1 + 1 + 1, 0, none⟩ (.int .i64 (likeT y.t 2))).setCell ⟨w.heap.size + 1 + 1 + 1, 1, none⟩ (.slice A l.length c)).setCell ⟨w.heap.size + 1 + 1 + 1, 2, none⟩ (.slice none 0 0)).setCell ⟨w.heap.size + 1 + 1 + 1, 3, none⟩ (.slice none 0 0)).cell? ⟨w.heap.size + 1 + 1 + 1, 3, none⟩ = some (.slice none 0 0) := (blk_cell hb 3).trans rfl
        have hon := HON.out.kept (put_four_row wr (w.heap.size + 3) (.int .i64 (likeT y.t 2)) (.slice A l.length c) (.slice none 0 0) (.slice none 0 0)) (.inr (fun e => by have := HOB.out _ e; omega))
        obtain ⟨_, _, e9, hc9, _⟩ := own_form hon
        injection e9 with _ _ e9
        exact bodyPost_ret (v := .tuple #[.agg #[.int .i64 (likeT y.t 2), .slice A l.length c, .slice none 0 0, .slice none 0 0], .int .i64 0]) (by simp [results, Tryz.results45, go_sem, m0, m1, m2, m3]) rfl ⟨put_four_gb HG.out (Nat.le_add_right _ 3) _ _ _ _, by rw [HDI.out]; exact ⟨A, c, e9 ▸ hc9, by rw [HLK.out], hon⟩⟩
    · have ay : atomT y.t = true := by rw [hyt]; rfl
      have HLK := hide (show likeT y.t 2 = y.t by unfold likeT; rw [ay, hyt]; rfl)
      clear hxt hyt hx1 hy1
      cases hE : eachO f x.n y.n 0 y.n.length with
      | none =>
        rw [hE] at HDI HEC
        have HE := hide (fun w2 (hg : w.grownBy w2 none) => HEC.out w2 hg)
        clear HEC HEA hE
        go_enter Tryz.func45, Tryz.ntmps45
        go_wp2_with fail
        rw [← HW.out]
        go_wp2_with (first
          | (go_at_call 82; refine (isAtom_any _ _ _ _ _).mono ?_; rintro e wp ⟨rfl, hg⟩; have HGn := hide (gb_trans HG.out hg (.inl rfl)); have HDn := hide (HD.out.gb hg); clear r0 r1 r2 x0 x1 x2 x3 y0 y1 y2 y3 z0 z1 z2 z3 v0 v1 v2 v3 f0 f1 f2 f3 h0 h1 h2 h3 HG HD; have HG := hide HGn.out; have HD := hide HDn.out; clear HGn HDn hg; obtain ⟨⟨r0, r1, r2⟩, ⟨x0, x1, x2, x3⟩, ⟨y0, y1, y2, y3⟩, ⟨z0, z1, z2, z3⟩, ⟨v0, v1, v2, v3⟩, ⟨f0, f1, f2, f3⟩, ⟨h0, h1, h2, h3⟩⟩ := HD.out.vis)
          | (go_at_call 30; first | (have _m := MC; clear MC _m; refine (HCY.out _ (put_four_gb HG.out (Nat.le_add_right _ 4) (.int .i64 y.t) (.slice mA y.n.length mc) (.slice tA y.s.length tc) (.slice kA y.l.length kc))).mono ?_; rintro e wq ⟨rfl, hg⟩; have HGn := hide (gb_trans (put_four_gb HG.out (Nat.le_add_right _ 4) (.int .i64 y.t) (.slice mA y.n.length mc) (.slice tA y.s.length tc) (.slice kA y.l.length kc)) hg (.inl rfl)); have HDn := hide ((HD.out.wide (.int .i64 y.t) (.slice mA y.n.length mc) (.slice tA y.s.length tc) (.slice kA y.l.length kc)).gb hg); clear r0 r1 r2 x0 x1 x2 x3 y0 y1 y2 y3 z0 z1 z2 z3 v0 v1 v2 v3 f0 f1 f2 f3 h0 h1 h2 h3 HG HD; have HG := hide HGn.out; have HD := hide HDn.out; clear HGn HDn hg; obtain ⟨⟨r0, r1, r2⟩, ⟨x0, x1, x2, x3⟩, ⟨y0, y1, y2, y3⟩, ⟨z0, z1, z2, z3⟩, ⟨v0, v1, v2, v3⟩, ⟨f0, f1, f2, f3⟩, ⟨h0, h1, h2, h3⟩⟩ := HD.out.vis) | (refine (HCY.out _ HG.out).mono ?_; rintro e wq ⟨rfl, hg⟩; have HGn := hide (gb_trans HG.out hg (.inl rfl)); have HDn := hide (HD.out.gb hg); clear r0 r1 r2 x0 x1 x2 x3 y0 y1 y2 y3 z0 z1 z2 z3 v0 v1 v2 v3 f0 f1 f2 f3 h0 h1 h2 h3 HG HD; have HG := hide HGn.out; have HD := hide HDn.out; clear HGn HDn hg; obtain ⟨⟨r0, r1, r2⟩, ⟨x0, x1, x2, x3⟩, ⟨y0, y1, y2, y3⟩, ⟨z0, z1, z2, z3⟩, ⟨v0, v1, v2, v3⟩, ⟨f0, f1, f2, f3⟩, ⟨h0, h1, h2, h3⟩⟩ := HD.out.vis))
          | (go_at_call 84; refine (HE.out _ HG.out).mono ?_; rintro e wq ⟨hg, rfl⟩; have HGn := hide (gb_trans HG.out hg (.inl rfl)); have HDn := hide (HD.out.gb hg); clear r0 r1 r2 x0 x1 x2 x3 y0 y1 y2 y3 z0 z1 z2 z3 v0 v1 v2 v3 f0 f1 f2 f3 h0 h1 h2 h3 HG HD; have HG := hide HGn.out; have HD := hide HDn.out; clear HGn HDn hg; obtain ⟨⟨r0, r1, r2⟩, ⟨x0, x1, x2, x3⟩, ⟨y0, y1, y2, y3⟩, ⟨z0, z1, z2, z3⟩, ⟨v0, v1, v2, v3⟩, ⟨f0, f1, f2, f3⟩, ⟨h0, h1, h2, h3⟩⟩ := HD.out.vis))
        have hb := put_four HD.out.z (.int .i64 0) (.slice none 0 0) (.slice none 0 0) (.slice none 0 0)
        have m0 : ((((wq.setCell ⟨w.heap.size + 1 + 1 + 1, 0, none⟩ (.int .i64 0)).setCell ⟨w.heap.size + 1 + 1 + 1, 1, none⟩ (.slice none 0 0)).setCell ⟨w.heap.size + 1 + 1 + 1, 2, none⟩ (.slice none 0 0)).setCell ⟨w.heap.size + 1 + 1 + 1, 3, none⟩ (.slice none 0 0)).cell? ⟨w.heap.size + 1 + 1 + 1, 0, none⟩ = some (.int .i64 0) := (blk_cell hb 0).trans rfl
        have m1 : ((((wq.setCell ⟨w.heap.size + 1 + 1 + 1, 0, none⟩ (.int .i64 0)).setCell ⟨w.heap.size + 1 + 1 + 1, 1, none⟩ (.slice none 0 0)).setCell ⟨w.heap.size + 1 + 1 + 1, 2, none⟩ (.slice none 0 0)).setCell ⟨w.heap.size + 1 + 1 + 1, 3, none⟩ (.slice none 0 0)).cell? ⟨w.heap.size + 1 + 1 + 1, 1, none⟩ = some (.slice none 0 0) := (blk_cell hb 1).trans rfl
        have m2 : ((((wq.setCell ⟨w.heap.size + 1 + 1 + 1, 0, none⟩ (.int .i64 0)).setCell ⟨w.heap.size + 1 + 1 + 1, 1, none⟩ (.slice none 0 0)).setCell ⟨w.heap.size + 1 + 1 + 1, 2, none⟩ (.slice none 0 0)).setCell ⟨w.heap.size + 1 + 1 + 1, 3, none⟩ (.slice none 0 0)).cell? ⟨w.heap.size + 1 + 1 + 1, 2, none⟩ = some (.slice none 0 0) := (blk_cell hb 2).trans rfl
        have m3 : ((((wq.setCell ⟨w.heap.size + 1 + 1 + 1, 0, none⟩ (.int .i64 0)).setCell ⟨w.heap.size + 1 + 1 + 1, 1, none⟩ (.slice none 0 0)).setCell ⟨w.heap.size + 1 + 1 + 1, 2, none⟩ (.slice none 0 0)).setCell ⟨w.heap.size + 1 + 1 + 1, 3, none⟩ (.slice none 0 0)).cell? ⟨w.heap.size + 1 + 1 + 1, 3, none⟩ = some (.slice none 0 0) := (blk_cell hb 3).trans rfl
        exact bodyPost_ret (v := .tuple #[.agg #[.int .i64 0, .slice none 0 0, .slice none 0 0, .slice none 0 0], .int .i64 70]) (by simp [results, Tryz.results45, go_sem, m0, m1, m2, m3]) rfl ⟨put_four_gb HG.out (Nat.le_add_right _ 3) _ _ _ _, by rw [HDI.out]⟩
      | some l =>
        rw [hE] at HDI HEC
        have HE := hide (fun w2 (hg : w.grownBy w2 none) => HEC.out w2 hg)
        clear HEC HEA hE
        go_enter Tryz.func45, Tryz.ntmps45
        go_wp2_with fail
        rw [← HW.out]
        go_wp2_with (first
          | (go_at_call 82; refine (isAtom_any _ _ _ _ _).mono ?_; rintro e wp ⟨rfl, hg⟩; have HGn := hide (gb_trans HG.out hg (.inl rfl)); have HDn := hide (HD.out.gb hg); clear r0 r1 r2 x0 x1 x2 x3 y0 y1 y2 y3 z0 z1 z2 z3 v0 v1 v2 v3 f0 f1 f2 f3 h0 h1 h2 h3 HG HD; have HG := hide HGn.out; have HD := hide HDn.out; clear HGn HDn hg; obtain ⟨⟨r0, r1, r2⟩, ⟨x0, x1, x2, x3⟩, ⟨y0, y1, y2, y3⟩, ⟨z0, z1, z2, z3⟩, ⟨v0, v1, v2, v3⟩, ⟨f0, f1, f2, f3⟩, ⟨h0, h1, h2, h3⟩⟩ := HD.out.vis)
          | (go_at_call 30; first | (have _m := MC; clear MC _m; refine (HCY.out _ (put_four_gb HG.out (Nat.le_add_right _ 4) (.int .i64 y.t) (.slice mA y.n.length mc) (.slice tA y.s.length tc) (.slice kA y.l.length kc))).mono ?_; rintro e wq ⟨rfl, hg⟩; have HGn := hide (gb_trans (put_four_gb HG.out (Nat.le_add_right _ 4) (.int .i64 y.t) (.slice mA y.n.length mc) (.slice tA y.s.length tc) (.slice kA y.l.length kc)) hg (.inl rfl)); have HDn := hide ((HD.out.wide (.int .i64 y.t) (.slice mA y.n.length mc) (.slice tA y.s.length tc) (.slice kA y.l.length kc)).gb hg); clear r0 r1 r2 x0 x1 x2 x3 y0 y1 y2 y3 z0 z1 z2 z3 v0 v1 v2 v3 f0 f1 f2 f3 h0 h1 h2 h3 HG HD; have HG := hide HGn.out; have HD := hide HDn.out; clear HGn HDn hg; obtain ⟨⟨r0, r1, r2⟩, ⟨x0, x1, x2, x3⟩, ⟨y0, y1, y2, y3⟩, ⟨z0, z1, z2, z3⟩, ⟨v0, v1, v2, v3⟩, ⟨f0, f1, f2, f3⟩, ⟨h0, h1, h2, h3⟩⟩ := HD.out.vis) | (refine (HCY.out _ HG.out).mono ?_; rintro e wq ⟨rfl, hg⟩; have HGn := hide (gb_trans HG.out hg (.inl rfl)); have HDn := hide (HD.out.gb hg); clear r0 r1 r2 x0 x1 x2 x3 y0 y1 y2 y3 z0 z1 z2 z3 v0 v1 v2 v3 f0 f1 f2 f3 h0 h1 h2 h3 HG HD; have HG := hide HGn.out; have HD := hide HDn.out; clear HGn HDn hg; obtain ⟨⟨r0, r1, r2⟩, ⟨x0, x1, x2, x3⟩, ⟨y0, y1, y2, y3⟩, ⟨z0, z1, z2, z3⟩, ⟨v0, v1, v2, v3⟩, ⟨f0, f1, f2, f3⟩, ⟨h0, h1, h2, h3⟩⟩ := HD.out.vis))
          | (go_at_call 84; refine (HE.out _ HG.out).mono ?_; rintro e wq ⟨hg, A, c, rfl, ho⟩; have HO := hide (own_low ho HG.out.size); have HOB : Hid (∀ b, (Value.slice A l.length c).ownBlock = some b → w.heap.size + 4 < b) := hide (fun b e => Nat.lt_of_lt_of_le (blk_lt HD.out.v) (ho.lt b e).1); clear ho; have HGn := hide (gb_trans HG.out hg (.inl rfl)); have HDn := hide (HD.out.gb hg); clear r0 r1 r2 x0 x1 x2 x3 y0 y1 y2 y3 z0 z1 z2 z3 v0 v1 v2 v3 f0 f1 f2 f3 h0 h1 h2 h3 HG HD; have HG := hide HGn.out; have HD := hide HDn.out; clear HGn HDn hg; obtain ⟨⟨r0, r1, r2⟩, ⟨x0, x1, x2, x3⟩, ⟨y0, y1, y2, y3⟩, ⟨z0, z1, z2, z3⟩, ⟨v0, v1, v2, v3⟩, ⟨f0, f1, f2, f3⟩, ⟨h0, h1, h2, h3⟩⟩ := HD.out.vis)
          | (go_at_call 85; refine (like_any _ _ _ _ _ _ ⟨by decide, by decide⟩ ⟨A, l.length, c, rfl⟩ _).mono ?_; rintro e wr ⟨rfl, hg⟩; have HON := hide (HO.out.kept hg (by cases (Value.slice A l.length c).ownBlock <;> simp)); clear HO; have HGn := hide (gb_trans HG.out hg (.inl rfl)); have HDn := hide (HD.out.gb hg); clear r0 r1 r2 x0 x1 x2 x3 y0 y1 y2 y3 z0 z1 z2 z3 v0 v1 v2 v3 f0 f1 f2 f3 h0 h1 h2 h3 HG HD; have HG := hide HGn.out; have HD := hide HDn.out; clear HGn HDn hg; obtain ⟨⟨r0, r1, r2⟩, ⟨x0, x1, x2, x3⟩, ⟨y0, y1, y2, y3⟩, ⟨z0, z1, z2, z3⟩, ⟨v0, v1, v2, v3⟩, ⟨f0, f1, f2, f3⟩, ⟨h0, h1, h2, h3⟩⟩ := HD.out.vis))
        have hb := put_four HD.out.z (.int .i64 (likeT y.t 2)) (.slice A l.length c) (.slice none 0 0) (.slice none 0 0)
        have m0 : ((((wr.setCell ⟨w.heap.size + 1 + 1 + 1, 0, none⟩ (.int .i64 (likeT y.t 2))).setCell ⟨w.heap.size + 1 + 1 + 1, 1, none⟩ (.slice A l.length c)).setCell ⟨w.heap.size + 1 + 1 + 1, 2, none⟩ (.slice none 0 0)).setCell ⟨w.heap.size + 1 + 1 + 1, 3, none⟩ (.slice none 0 0)).cell? ⟨w.heap.size + 1 + 1 + 1, 0, none⟩ = some (.int .i64 (likeT y.t 2)) := (blk_cell hb 0).trans rfl
        have m1 : ((((wr.setCell ⟨w.heap.size + 1 + 1 + 1, 0, none⟩ (.int .i64 (likeT y.t 2))).setCell ⟨w.heap.size + 1 + 1 + 1, 1, none⟩ (.slice A l.length c)).setCell ⟨w.heap.size + 1 + 1 + 1, 2, none⟩ (.slice none 0 0)).setCell ⟨w.heap.size + 1 + 1 + 1, 3, none⟩ (.slice none 0 0)).cell? ⟨w.heap.size + 1 + 1 + 1, 1, none⟩ = some (.slice A l.length c) := (blk_cell hb 1).trans rfl
        have m2 : ((((wr.setCell ⟨w.heap.size + 1 + 1 + 1, 0, none⟩ (.int .i64 (likeT y.t 2))).setCell ⟨w.heap.size + 1 + 1 + 1, 1, none⟩ (.slice A l.length c)).setCell ⟨w.heap.size + 1 + 1 + 1, 2, none⟩ (.slice none 0 0)).setCell ⟨w.heap.size + 1 + 1 + 1, 3, none⟩ (.slice none 0 0)).cell? ⟨w.heap.size + 1 + 1 + 1, 2, none⟩ = some (.slice none 0 0) := (blk_cell hb 2).trans rfl
        have m3 : ((((wr.setCell ⟨w.heap.size + 1 + 1 + 1, 0, none⟩ (.int .i64 (likeT y.t 2))).setCell ⟨w.heap.size + 1 + 1 + 1, 1, none⟩ (.slice A l.length c)).setCell ⟨w.heap.size + 1 + 1 + 1, 2, none⟩ (.slice none 0 0)).setCell ⟨w.heap.size + 1 + 1 + 1, 3, none⟩ (.slice none 0 0)).cell? ⟨w.heap.size + 1 + 1 + 1, 3, none⟩ = some (.slice none 0 0) := (blk_cell hb 3).trans rfl
        have hon := HON.out.kept (put_four_row wr (w.heap.size + 3) (.int .i64 (likeT y.t 2)) (.slice A l.length c) (.slice none 0 0) (.slice none 0 0)) (.inr (fun e => by have := HOB.out _ e; omega))
        obtain ⟨_, _, e9, hc9, _⟩ := own_form hon
        injection e9 with _ _ e9
        exact bodyPost_ret (v := .tuple #[.agg #[.int .i64 (likeT y.t 2), .slice A l.length c, .slice none 0 0, .slice none 0 0], .int .i64 0]) (by simp [results, Tryz.results45, go_sem, m0, m1, m2, m3]) rfl ⟨put_four_gb HG.out (Nat.le_add_right _ 3) _ _ _ _, by rw [HDI.out]; exact ⟨A, c, e9 ▸ hc9, by rw [HLK.out], hon⟩⟩
end Go.Proofs.YtnilcnobngcbgaaGreat
