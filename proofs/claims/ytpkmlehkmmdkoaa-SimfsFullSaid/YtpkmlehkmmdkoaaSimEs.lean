/-
  slices.EqualFunc at changes.
-/
import Derived.Test.YtpkmlehkmmdkoaaSimEr
namespace Go.Proofs.Ytpkmlehkmmdkoaa
open Go.RowKit

theorem ChAt.form {w : World} {own : Nat → Prop} {v : Value} {l : List Ch} (h : ChAt w own v l) : ∃ A c, v = .slice A l.length c ∧ l.length ≤ c ∧ c ≤ maxLen := by
  rcases h.1.2 with ⟨h1, h0⟩ | ⟨g, cap, cur, hv, _, _, h3, h4, _⟩
  · exact ⟨none, 0, by rw [h1, h0], by omega, Nat.zero_le _⟩
  · exact ⟨_, cap, hv, h3, h4⟩
theorem ChAt.elem {w : World} {own : Nat → Prop} {A : Option Addr} {n c : Nat} {l : List Ch} (h : ChAt w own (.slice A n c) l) {i : Nat} (hi : i < l.length) :
    ∃ b, A = some ⟨b, 0, none⟩ ∧ w.cell? ⟨b, i * 3, none⟩ = some (.string l[i].src) ∧ w.cell? ⟨b, i * 3 + 1, none⟩ = some (.string l[i].dst) ∧ w.cell? ⟨b, i * 3 + 2, none⟩ = some (.int .i64 (l[i].file : Int)) := by
  rcases h.1.2 with ⟨e, h0⟩ | ⟨b, cap, cur, hv, _, h6, _, _, _, h9⟩
  · omega
  · injection hv with hA _ _
    obtain ⟨w1, w2, w3⟩ := chcells_at l i hi
    have hc : ∀ j, j < l.length * 3 → w.cell? ⟨b, j, none⟩ = (chcells l)[j]? := fun j hj => by
      rw [blk_cell h6, ← h9, List.getElem?_take, if_pos hj, Array.getElem?_toList]
    exact ⟨b, hA, by rw [hc _ (by omega), w1], by rw [hc _ (by omega), w2], by rw [hc _ (by omega), w3]⟩

set_option maxHeartbeats 4000000 in
set_option maxRecDepth 100000 in
theorem eqf_ch (A1 A2 : Option Addr) (n1 c1 n2 c2 : Nat) (ws ys : List Ch) (own own' : Nat → Prop) (w : World) (h : ChAt w own (.slice A1 n1 c1) ws) (k : ChAt w own' (.slice A2 n2 c2) ys) :
    Calls Try.prog 35 #[.slice A1 n1 c1, .slice A2 n2 c2, .func (.func 36) #[] #[]] w fun e w' => e = .returned (.bool (eqL chEq ws ys)) ∧ w.grownBy w' none := by
  obtain ⟨A1', c1', e1, hc1, hm1⟩ := h.form
  obtain ⟨A2', c2', e2, hc2, hm2⟩ := k.form
  injection e1 with e1a e1b e1c
  injection e2 with e2a e2b e2c
  subst e1a; subst e1b; subst e1c; subst e2a; subst e2b; subst e2c
  unfold maxLen at hm1 hm2
  have H := hide h
  have K := hide k
  clear h k
  by_cases hl : ws.length = ys.length
  · have hl1 : ((ws.length : Int) != (ys.length : Int)) = false := by rw [hl]; simp
    have HL := hide hl
    clear hl
    go_enter Try.func35, Try.ntmps35
    go_wp2
    go_loopw [17] (fun i wr => ∃ j : Nat, i = .int .i64 (j : Int) ∧ j ≤ ws.length ∧ (∀ (i : Nat) (h1 : i < ws.length) (h2 : i < ys.length), i < j → chEq ws[i] ys[i] = true) ∧ w.grownBy wr none) (fun i _ => ws.length - (intOf i).toNat)
    case atStart => exact ⟨0, rfl, Nat.zero_le _, fun i _ _ h => by omega, gb_refl w none⟩
    case round =>
      obtain ⟨j, rfl, hj, hall, hg⟩ := hrel
      have HA := hide hall
      have HG := hide hg
      clear hall hg
      by_cases hlt : j < ws.length
      · have hlt2 : j < ys.length := by rw [← HL.out]; exact hlt
        obtain ⟨b1, rfl, p0, p1, p2⟩ := H.out.elem hlt
        obtain ⟨b2, rfl, q0, q1, q2⟩ := K.out.elem hlt2
        have p0 := cell_grown p0 HG.out
        have p1 := cell_grown p1 HG.out
        have p2 := cell_grown p2 HG.out
        have r0 := cell_grown q0 HG.out
        have r1 := cell_grown q1 HG.out
        have r2 := cell_grown q2 HG.out
        have s0 := cell_grown r0 (gb_alloc (gb_refl wr none) (.cells #[.string ws[j].src, .string ws[j].dst, .int .i64 (ws[j].file : Int)] 78))
        have s1 := cell_grown r1 (gb_alloc (gb_refl wr none) (.cells #[.string ws[j].src, .string ws[j].dst, .int .i64 (ws[j].file : Int)] 78))
        have s2 := cell_grown r2 (gb_alloc (gb_refl wr none) (.cells #[.string ws[j].src, .string ws[j].dst, .int .i64 (ws[j].file : Int)] 78))
        have hgg : w.grownBy ((wr.alloc (.cells #[.string ws[j].src, .string ws[j].dst, .int .i64 (ws[j].file : Int)] 78)).alloc (.cells #[.string ys[j].src, .string ys[j].dst, .int .i64 (ys[j].file : Int)] 78)) none := gb_alloc (gb_alloc HG.out _) _
        have HS := hide (sameChange_any ws[j] ys[j] ((wr.alloc (.cells #[.string ws[j].src, .string ws[j].dst, .int .i64 (ws[j].file : Int)] 78)).alloc (.cells #[.string ys[j].src, .string ys[j].dst, .int .i64 (ys[j].file : Int)] 78)))
        have HGG := hide hgg
        clear hgg q0 q1 q2
        cases hb : chEq ws[j] ys[j]
        · rw [hb] at HS
          have HB := hide (eqL_no (q := chEq) j hlt hlt2 hb)
          clear hb
          go_wp2_with (go_at_call 36; refine HS.out.mono ?_; rintro e w2 ⟨rfl, hg2⟩; have HG2 := hide hg2; clear hg2)
          go_ret
          exact ⟨by rw [HB.out]; rfl, gb_trans HGG.out HG2.out (.inl rfl)⟩
        · rw [hb] at HS
          have HB := hide hb
          clear hb
          go_wp2_with (go_at_call 36; refine HS.out.mono ?_; rintro e w2 ⟨rfl, hg2⟩; have HG2 := hide hg2; clear hg2)
          go_roundw
          case rel =>
            refine ⟨j + 1, by go_num, by omega, fun i h1 h2 hi => ?_, gb_trans HGG.out HG2.out (.inl rfl)⟩
            by_cases hij : i = j
            · subst hij
              exact HB.out
            · exact HA.out i h1 h2 (by omega)
          case measure => simp [intOf]; omega
      · have hje : j = ws.length := by omega
        have HB := hide (eqL_all (q := chEq) HL.out (fun i h1 h2 => HA.out i h1 h2 (by omega)))
        clear hje
        go_wp2
        go_ret
        exact ⟨by rw [HB.out]; rfl, HG.out⟩
  · have hl1 : ((ws.length : Int) != (ys.length : Int)) = true := by simp; omega
    have HB := hide (eqL_len (q := chEq) hl)
    clear hl
    go_enter Try.func35, Try.ntmps35
    go_wp2
    go_ret
    exact ⟨by rw [HB.out]; rfl, gb_refl w none⟩

end Go.Proofs.Ytpkmlehkmmdkoaa
