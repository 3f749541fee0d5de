/-
  slices.EqualFunc at what waits and at changes.
-/
import Derived.Test.YtpkmlehkmmdkoaaSimEq
namespace Go.Proofs.Ytpkmlehkmmdkoaa
open Go.RowKit

def eqL {α : Type} (q : α → α → Bool) : List α → List α → Bool
  | [], [] => true
  | x :: xs, y :: ys => q x y && eqL q xs ys
  | _, _ => false
theorem eqL_len {α : Type} {q : α → α → Bool} : ∀ {xs ys : List α}, xs.length ≠ ys.length → eqL q xs ys = false
  | [], [], h => absurd rfl h
  | [], _ :: _, _ | _ :: _, [], _ => rfl
  | x :: xs, y :: ys, h => by
    unfold eqL
    rw [eqL_len (xs := xs) (ys := ys) (fun e => h (by simp [e])), Bool.and_false]
theorem eqL_all {α : Type} {q : α → α → Bool} : ∀ {xs ys : List α}, xs.length = ys.length → (∀ (i : Nat) (h1 : i < xs.length) (h2 : i < ys.length), q xs[i] ys[i] = true) → eqL q xs ys = true
  | [], [], _, _ => rfl
  | [], _ :: _, h, _ | _ :: _, [], h, _ => by simp at h
  | x :: xs, y :: ys, h, k => by
    unfold eqL
    rw [eqL_all (xs := xs) (ys := ys) (by simpa using h) (fun i h1 h2 => k (i + 1) (by simpa using h1) (by simpa using h2)), Bool.and_true]
    exact k 0 (by simp) (by simp)
theorem eqL_no {α : Type} {q : α → α → Bool} : ∀ {xs ys : List α} (i : Nat) (h1 : i < xs.length) (h2 : i < ys.length), q xs[i] ys[i] = false → eqL q xs ys = false
  | [], _, i, h1, _, _ => by simp at h1
  | _ :: _, [], i, _, h2, _ => by simp at h2
  | x :: xs, y :: ys, 0, _, _, k => by
    unfold eqL
    have k' : q x y = false := k
    rw [k', Bool.false_and]
  | x :: xs, y :: ys, i + 1, h1, h2, k => by
    unfold eqL
    rw [eqL_no (xs := xs) (ys := ys) i (by simpa using h1) (by simpa using h2) k, Bool.and_false]
theorem eqL_refl {α : Type} {q : α → α → Bool} (hq : ∀ x, q x x = true) : ∀ xs, eqL q xs xs = true
  | [] => rfl
  | x :: xs => by unfold eqL; rw [hq, eqL_refl hq xs]; rfl

theorem BsAt.grown {w w' : World} {own : Nat → Prop} {v : Value} {xs : List UInt8} (h : BsAt w own v xs) (hg : w.grownBy w' none) : BsAt w' own v xs := h.keep fun i _ hl => hg.block i hl (by simp)
theorem cell_grown {w w' : World} {b i : Nat} {v : Value} (h : w.cell? ⟨b, i, none⟩ = some v) (hg : w.grownBy w' none) : w'.cell? ⟨b, i, none⟩ = some v := by
  have hb := World.block_lt_of_cell? w _ h
  exact (cell_same (p := ⟨b, i, none⟩) (hg.block b hb (by simp))).trans h

set_option maxHeartbeats 4000000 in
set_option maxRecDepth 100000 in
theorem eqf_wr (A1 A2 : Option Addr) (n1 c1 n2 c2 : Nat) (ws ys : List Wr) (own rd own' rd' : Nat → Prop) (w : World) (h : WsAt w own rd (.slice A1 n1 c1) ws) (k : WsAt w own' rd' (.slice A2 n2 c2) ys) :
    Calls Try.prog 82 #[.slice A1 n1 c1, .slice A2 n2 c2, .func (.func 83) #[] #[]] w fun e w' => e = .returned (.bool (eqL wrEq ws ys)) ∧ w.grownBy w' none := by
  obtain ⟨A1', c1', e1, hc1, hm1⟩ := h.form
  obtain ⟨A2', c2', e2, hc2, hm2⟩ := k.form
  injection e1 with e1a e1b e1c
  injection e2 with e2a e2b e2c
  subst e1a; subst e1b; subst e1c; subst e2a; subst e2b; subst e2c
  unfold maxLen at hm1 hm2
  have H := hide h
  have K := hide k
  clear h k
  by_cases hl : ws.length = ys.length
  · have hl1 : ((ws.length : Int) != (ys.length : Int)) = false := by rw [hl]; simp
    have HL := hide hl
    clear hl
    go_enter Try.func82, Try.ntmps82
    go_wp2
    go_loopw [17] (fun i wr => ∃ j : Nat, i = .int .i64 (j : Int) ∧ j ≤ ws.length ∧ (∀ (i : Nat) (h1 : i < ws.length) (h2 : i < ys.length), i < j → wrEq ws[i] ys[i] = true) ∧ w.grownBy wr none) (fun i _ => ws.length - (intOf i).toNat)
    case atStart => exact ⟨0, rfl, Nat.zero_le _, fun i _ _ h => by omega, gb_refl w none⟩
    case round =>
      obtain ⟨j, rfl, hj, hall, hg⟩ := hrel
      have HA := hide hall
      have HG := hide hg
      clear hall hg
      by_cases hlt : j < ws.length
      · have hlt2 : j < ys.length := by rw [← HL.out]; exact hlt
        obtain ⟨b1, v1, rfl, p0, p1, p2, hp⟩ := H.out.elem hlt
        obtain ⟨b2, v2, rfl, q0, q1, q2, hq⟩ := K.out.elem hlt2
        obtain ⟨B1, d1, rfl, _⟩ := hp.form
        obtain ⟨B2, d2, rfl, _⟩ := hq.form
        have p0 := cell_grown p0 HG.out
        have p1 := cell_grown p1 HG.out
        have p2 := cell_grown p2 HG.out
        have r0 := cell_grown q0 HG.out
        have r1 := cell_grown q1 HG.out
        have r2 := cell_grown q2 HG.out
        have s0 := cell_grown r0 (gb_alloc (gb_refl wr none) (.cells #[.bool ws[j].cut, .int .i64 (ws[j].pos : Int), .slice B1 ws[j].p.length d1] 110))
        have s1 := cell_grown r1 (gb_alloc (gb_refl wr none) (.cells #[.bool ws[j].cut, .int .i64 (ws[j].pos : Int), .slice B1 ws[j].p.length d1] 110))
        have s2 := cell_grown r2 (gb_alloc (gb_refl wr none) (.cells #[.bool ws[j].cut, .int .i64 (ws[j].pos : Int), .slice B1 ws[j].p.length d1] 110))
        have hgg : w.grownBy ((wr.alloc (.cells #[.bool ws[j].cut, .int .i64 (ws[j].pos : Int), .slice B1 ws[j].p.length d1] 110)).alloc (.cells #[.bool ys[j].cut, .int .i64 (ys[j].pos : Int), .slice B2 ys[j].p.length d2] 110)) none := gb_alloc (gb_alloc HG.out _) _
        have HS := hide (sameWrite_any ws[j] ys[j] _ _ rd rd' _ (hp.grown hgg) (hq.grown hgg))
        have HGG := hide hgg
        clear hgg hp hq q0 q1 q2
        cases hb : wrEq ws[j] ys[j]
        · rw [hb] at HS
          have HB := hide (eqL_no (q := wrEq) j hlt hlt2 hb)
          clear hb
          go_wp2_with (go_at_call 83; refine HS.out.mono ?_; rintro e w2 ⟨rfl, hg2⟩; have HG2 := hide hg2; clear hg2)
          go_ret
          exact ⟨by rw [HB.out]; rfl, gb_trans HGG.out HG2.out (.inl rfl)⟩
        · rw [hb] at HS
          have HB := hide hb
          clear hb
          go_wp2_with (go_at_call 83; refine HS.out.mono ?_; rintro e w2 ⟨rfl, hg2⟩; have HG2 := hide hg2; clear hg2)
          go_roundw
          case rel =>
            refine ⟨j + 1, by go_num, by omega, fun i h1 h2 hi => ?_, gb_trans HGG.out HG2.out (.inl rfl)⟩
            by_cases hij : i = j
            · subst hij
              exact HB.out
            · exact HA.out i h1 h2 (by omega)
          case measure => simp [intOf]; omega
      · have hje : j = ws.length := by omega
        have HB := hide (eqL_all (q := wrEq) HL.out (fun i h1 h2 => HA.out i h1 h2 (by omega)))
        clear hje
        go_wp2
        go_ret
        exact ⟨by rw [HB.out]; rfl, HG.out⟩
  · have hl1 : ((ws.length : Int) != (ys.length : Int)) = true := by simp; omega
    have HB := hide (eqL_len (q := wrEq) hl)
    clear hl
    go_enter Try.func82, Try.ntmps82
    go_wp2
    go_ret
    exact ⟨by rw [HB.out]; rfl, gb_refl w none⟩

end Go.Proofs.Ytpkmlehkmmdkoaa
