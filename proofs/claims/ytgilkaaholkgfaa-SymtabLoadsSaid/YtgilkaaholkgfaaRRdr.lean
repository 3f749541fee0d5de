/-
  The contracts of the reference's reader: New, Fail, Num, Int.
-/
import Derived.Test.YtgilkaaholkgfaaReg
namespace Go.Proofs.Ytgilkaaholkgfaa
open Go.RowKit

/-- The reference's reader of the bytes bs, at place p with error x, lies in block g. -/
def RefR (w : World) (base g : Nat) (bs : List UInt8) (p : Nat) (x : Int) : Prop :=
  ∃ v, w.heap[g]? = some (.cells #[v, .int .i64 (p : Int), .int .i64 x, .int .i64 (whyAt x p)] 102 (0, 0)) ∧ w.ownsRow base 5 1 v bs.length (u8s bs) ∧ base ≤ g
theorem RefR.lt {w : World} {base g : Nat} {bs : List UInt8} {p : Nat} {x : Int} (h : RefR w base g bs p x) : g < w.heap.size := blk_lt h.choose_spec.1
theorem RefR.ge {w : World} {base g : Nat} {bs : List UInt8} {p : Nat} {x : Int} (h : RefR w base g bs p x) : base ≤ g := h.choose_spec.2.2
theorem RefR.keep {w w' : World} {base g : Nat} {bs : List UInt8} {p : Nat} {x : Int} {row : Option Nat} (h : RefR w base g bs p x) (hg : w.grownBy w' row) (h1 : row ≠ some g)
    (h2 : ∀ k cs t, row = some k → w.heap[k]? = some (.cells cs t (0, 0)) → t ≠ 5) (h3 : ∀ k, row = some k → ∃ cs t, w.heap[k]? = some (.cells cs t (0, 0))) : RefR w' base g bs p x := by
  obtain ⟨v, a, b, c⟩ := h
  refine ⟨v, blk_keep a hg h1.symm, b.kept hg ?_, c⟩
  rcases row with _ | k
  · cases v.ownBlock <;> simp
  · right
    obtain ⟨cs, t, hk⟩ := h3 k rfl
    exact own_ne b hk (Ne.symm (h2 k cs t rfl hk))
theorem RefR.grown {w w' : World} {base g : Nat} {bs : List UInt8} {p : Nat} {x : Int} (h : RefR w base g bs p x) (hg : w.grownBy w' none) : RefR w' base g bs p x :=
  h.keep hg (by simp) (by simp) (by simp)
theorem RefR.drewN {w : World} {base g : Nat} {bs : List UInt8} {p : Nat} {x : Int} (h : RefR w base g bs p x) (n : Nat) : RefR (w.drewN n) base g bs p x := h

/-- What a method of the reference's reader leaves. -/
def RAfter (base g : Nat) (bs : List UInt8) (v : Value) (p : Nat) (x : Int) (w : World) (e : Ending) (w' : World) : Prop :=
  e = .returned v ∧ RefR w' base g bs p x ∧ w.grownBy w' (some g)

theorem setR_own {w : World} {base g : Nat} {v : Value} {bs : List UInt8} {cs : Array Value} (ho : w.ownsRow base 5 1 v bs.length (u8s bs)) (h : w.heap[g]? = some (.cells cs 102 (0, 0))) (i : Nat) (u : Value) :
    (w.setCell ⟨g, i, none⟩ u).ownsRow base 5 1 v bs.length (u8s bs) :=
  ho.kept (gb_setCell (gb_refl w (some g)) (.inl rfl) u) (.inr (own_ne ho h (by decide)))
/-- The place is set. -/
theorem RefR.place {w : World} {base g : Nat} {bs : List UInt8} {p : Nat} (h : RefR w base g bs p 0) (q : Nat) : RefR (w.setCell ⟨g, 1, none⟩ (.int .i64 (q : Int))) base g bs q 0 ∧ w.grownBy (w.setCell ⟨g, 1, none⟩ (.int .i64 (q : Int))) (some g) := by
  obtain ⟨v, a, b, c⟩ := h
  exact ⟨⟨v, by rw [blk_set a 1]; rfl, setR_own b a 1 _, c⟩, gb_setCell (gb_refl w (some g)) (.inl rfl) _⟩

set_option maxHeartbeats 1000000 in
set_option maxRecDepth 100000 in
theorem refNew_any (A : Option Addr) (c : Nat) (bs : List UInt8) (w : World) (hr : Rd w w.heap.size A (u8s bs)) (h1 : bs.length ≤ 100000000) :
    Calls Try.prog 30 #[.slice A bs.length c] w fun e w' => ∃ g, e = .returned (.pointer (some ⟨g, 0, none⟩)) ∧ RefR w' w.heap.size g bs 0 0 ∧ w.grownBy w' none := by
  go_enter Try.func30, Try.ntmps30
  go_wp2_with (at_builtin; go_loud (refine app8 (base := w.heap.size) (World.ownsRow_made w #[] 0 (Nat.le_refl _) (by unfold maxLen; omega) rfl) (hr.alloc (Nat.le_refl _) _) (u8s_length bs) (u8s_cell bs) (by omega) (by simp) rfl rfl rfl rfl ?_); intro v1 w1 hown1 hg1 hwh1; have hw1 := own_as (m := bs.length) (ys := u8s bs) hown1 (by simp) (by simp); obtain ⟨A1, c1, rfl, _, _, _⟩ := own_form hw1)
  have hgw1 : w.grownBy w1 none := gb_trans (gb_alloc (gb_refl w none) _) hg1 (.inr (.inr ⟨_, rfl, Nat.le_refl _⟩))
  clear hown1 hg1 hwh1
  go_ret
  exact ⟨w1.heap.size, rfl, ⟨_, heap_alloc_new w1 _, hw1.alloc _, hgw1.size⟩, gb_alloc hgw1 _⟩

set_option maxHeartbeats 1000000 in
set_option maxRecDepth 100000 in
theorem refFail_not (g : Nat) (v q s : Value) (x y at_ : Int) (w : World) (h : w.heap[g]? = some (.cells #[v, q, .int .i64 x, s] 102 (0, 0))) (hxy : x ≠ 0 ∨ y = 0) :
    Calls Try.prog 54 #[.pointer (some ⟨g, 0, none⟩), .int .i64 y, .int .i64 at_] w fun e w' => e = .returned (.tuple #[]) ∧ w = w' := by
  have h2 : w.cell? ⟨g, 2, none⟩ = some (.int .i64 x) := by rw [blk_cell h]; rfl
  clear h
  by_cases hx : x = 0
  · obtain rfl : y = 0 := by rcases hxy with h | h; exact absurd hx h; exact h
    subst hx
    clear hxy
    go_enter Try.func54, Try.ntmps54
    go_wp2
    go_end0
    exact ⟨rfl, rfl⟩
  · have hb : (x == 0) = false := by simpa using hx
    clear hxy hx
    go_enter Try.func54, Try.ntmps54
    go_wp2
    go_end0
    exact ⟨rfl, rfl⟩

set_option maxHeartbeats 1000000 in
set_option maxRecDepth 100000 in
theorem refFail_set (g : Nat) (v q s : Value) (y : Int) (at_ : Nat) (w : World) (h : w.heap[g]? = some (.cells #[v, q, .int .i64 0, s] 102 (0, 0))) (hy : y ≠ 0) :
    Calls Try.prog 54 #[.pointer (some ⟨g, 0, none⟩), .int .i64 y, .int .i64 (at_ : Int)] w fun e w' => e = .returned (.tuple #[]) ∧ w'.heap[g]? = some (.cells #[v, .int .i64 (at_ : Int), .int .i64 y, .int .i64 (whyAt y at_)] 102 (0, 0)) ∧ w.grownBy w' (some g) := by
  have h2 : w.cell? ⟨g, 2, none⟩ = some (.int .i64 0) := by rw [blk_cell h]; rfl
  have hb : (y != 0) = true := by simpa using hy
  have h1 : w.cell? ⟨g, 1, none⟩ = some q := by rw [blk_cell h]; rfl
  have h3 : w.cell? ⟨g, 3, none⟩ = some s := by rw [blk_cell h]; rfl
  have hf1 := blk_frozen h 1
  have hf2 := blk_frozen h 2
  have hf3 := blk_frozen h 3
  have s2 := blk_set h 2 (.int .i64 y)
  have s3 := blk_set s2 3 (.int .i64 (at_ : Int))
  have s1 := blk_set s3 1 (.int .i64 (at_ : Int))
  have hw : whyAt y at_ = at_ := if_neg hy
  have HS := hide s1
  have HW := hide hw
  have g2 := gb_setCell (gb_refl w (some g)) (p := ⟨g, 2, none⟩) (.inl rfl) (.int .i64 y)
  have g3 := gb_setCell g2 (p := ⟨g, 3, none⟩) (.inl rfl) (.int .i64 (at_ : Int))
  have HG := hide (gb_setCell g3 (p := ⟨g, 1, none⟩) (.inl rfl) (.int .i64 (at_ : Int)))
  clear g2 g3
  clear s1 s2 s3 h hy hw
  go_enter Try.func54, Try.ntmps54
  go_wp2
  go_end0
  refine ⟨rfl, ?_, ?_⟩
  · rw [HW.out]
    exact HS.out
  · exact HG.out

/-- Fail at a place, of a reader without an error. -/
theorem refFail_at {w : World} {base g : Nat} {bs : List UInt8} {p : Nat} (h : RefR w base g bs p 0) (y : Int) (hy : y ≠ 0) (at_ : Nat) :
    Calls Try.prog 54 #[.pointer (some ⟨g, 0, none⟩), .int .i64 y, .int .i64 (at_ : Int)] w (RAfter base g bs (.tuple #[]) at_ y w) := by
  obtain ⟨v, a, b, c⟩ := h
  refine (refFail_set g v _ _ y at_ w a hy).mono fun e w' ⟨he, hb, hg⟩ => ⟨he, ⟨v, hb, b.kept hg (.inr (own_ne b a (by decide))), c⟩, hg⟩
/-- Fail where the reader stands. -/
theorem refFail_any {w : World} {base g : Nat} {bs : List UInt8} {p : Nat} {x : Int} (h : RefR w base g bs p x) (y : Int) :
    Calls Try.prog 54 #[.pointer (some ⟨g, 0, none⟩), .int .i64 y, .int .i64 (p : Int)] w (RAfter base g bs (.tuple #[]) p (rFail x y) w) := by
  by_cases hx : x = 0
  · subst hx
    by_cases hy : y = 0
    · subst hy
      obtain ⟨v, a, b, c⟩ := h
      exact (refFail_not g v _ _ 0 0 p w a (.inr rfl)).mono fun e w' ⟨he, hw⟩ => ⟨he, hw ▸ ⟨v, by simpa [rFail] using a, b, c⟩, hw ▸ gb_refl _ _⟩
    · have e : rFail 0 y = y := by simp [rFail]
      rw [e]
      exact refFail_at h y hy p
  · have e : rFail x y = x := by simp [rFail, hx]
    rw [e]
    obtain ⟨v, a, b, c⟩ := h
    exact (refFail_not g v _ _ x y p w a (.inl hx)).mono fun e w' ⟨he, hw⟩ => ⟨he, hw ▸ ⟨v, a, b, c⟩, hw ▸ gb_refl _ _⟩

theorem num_step_ref (acc k : Nat) (b : UInt8) (hk : k ≤ 9) (ha : acc < 128 ^ k) (h9 : 9 ≤ k → b.toNat ≤ 1) :
    IntKind.u64.wrap ((acc : Int) + IntKind.u64.wrap ((b.toNat : Int) % 128 * 2 ^ (7 * k))) = ((acc + b.toNat % 128 * 128 ^ k : Nat) : Int) := by
  have hs := num_step_sum acc k b hk ha h9
  have e2 : IntKind.u64.wrap ((b.toNat : Int) % 128 * 2 ^ (7 * k)) = ((b.toNat % 128 * 128 ^ k : Nat) : Int) := by
    rw [pow_int, show ((b.toNat : Int) % 128) = ((b.toNat % 128 : Nat) : Int) by omega, ← Int.natCast_mul, IntKind.wrap_u64]
    omega
  rw [e2, ← Int.natCast_add, IntKind.wrap_u64]
  omega

theorem parse_atp (bs : List UInt8) (p k acc : Nat) (h : p + k < bs.length) : parseF k (bs.drop (p + k)) acc =
    if 9 ≤ k ∧ 1 < bs[p + k].toNat then (0, 0, 10)
    else if bs[p + k].toNat = 0 ∧ 0 < k then (0, 0, 11)
    else if bs[p + k].toNat < 128 then (acc + bs[p + k].toNat * 128 ^ k, k + 1, 0)
    else parseF (k + 1) (bs.drop (p + (k + 1))) (acc + (bs[p + k].toNat % 128) * 128 ^ k) := by
  rw [List.drop_eq_getElem_cons h]
  rfl

set_option maxHeartbeats 4000000 in
set_option maxRecDepth 100000 in
theorem refNum_any (base g : Nat) (bs : List UInt8) (p : Nat) (x : Int) (w : World) (h : RefR w base g bs p x) (hp : p ≤ bs.length) (hl : bs.length ≤ 100000000) :
    Calls Try.prog 53 #[.pointer (some ⟨g, 0, none⟩)] w (RAfter base g bs (.int .u64 ((rNum bs p x).1 : Int)) (rNum bs p x).2.1 (rNum bs p x).2.2 w) := by
  have HR := hide h
  obtain ⟨v, hb, ho, hbg⟩ := h
  obtain ⟨A, c, rfl, hnc, hcm, hrd⟩ := own_form ho
  have h0 : w.cell? ⟨g, 0, none⟩ = some (.slice A bs.length c) := by rw [blk_cell hb]; rfl
  have h1 : w.cell? ⟨g, 1, none⟩ = some (.int .i64 (p : Int)) := by rw [blk_cell hb]; rfl
  have h2 : w.cell? ⟨g, 2, none⟩ = some (.int .i64 x) := by rw [blk_cell hb]; rfl
  have hf1 := blk_frozen hb 1
  clear hb ho hbg
  unfold maxLen at hcm
  by_cases hx : x = 0
  · subst hx
    have e1 : rNum bs p 0 = ((parse (bs.drop p)).1, p + (parse (bs.drop p)).2.1, ((parse (bs.drop p)).2.2 : Int)) := by simp [rNum, rPeek]
    have E1 := hide e1
    clear e1
    go_enter Try.func53, Try.ntmps53
    go_wp2
    go_loop [4, 5] (fun s i => ∃ k acc : Nat, p + k ≤ bs.length ∧ k ≤ 9 ∧ acc < 128 ^ k ∧ parse (bs.drop p) = parseF k (bs.drop (p + k)) acc ∧ i = .int .i64 k ∧ s = .int .u64 acc) (fun _ i => 10 - (intOf i).toNat)
    case atStart => exact ⟨0, 0, by omega, by omega, by simp, rfl, rfl, rfl⟩
    case round =>
      obtain ⟨k, acc, hk, hk9, hacc, hp, rfl, rfl⟩ := hrel
      have HP := hide hp
      have HA := hide hacc
      clear hp hacc
      by_cases hlt : p + k < bs.length
      · obtain ⟨ad, rfl, _, hc⟩ := hrd.u8 hlt
        have hpa := parse_atp bs p k acc hlt
        generalize bs[p + k] = b at hc hpa
        have HPA := hide hpa
        clear hpa
        have hb := b.toNat_lt
        by_cases c1 : 9 ≤ k ∧ 1 < b.toNat
        · have e : parse (bs.drop p) = (0, 0, 10) := by rw [HP.out, HPA.out, if_pos c1]
          have E := hide e
          obtain ⟨c1, c2⟩ := c1
          clear e
          go_wp2_with (go_at_call 54; refine (refFail_at HR.out 10 (by decide) p).mono ?_; rintro e w1 ⟨rfl, hr1, hg1⟩)
          go_ret
          exact ⟨by rw [E1.out, E.out]; rfl, by rw [E1.out, E.out]; exact hr1, hg1⟩
        · by_cases c2 : b.toNat < 1 ∧ 0 < k
          · have e : parse (bs.drop p) = (0, 0, 11) := by rw [HP.out, HPA.out, if_neg c1, if_pos ⟨by omega, c2.2⟩]
            have E := hide e
            have C1 := hide c1
            obtain ⟨c3, c4⟩ := c2
            clear e c1
            go_wp2_with (go_at_call 54; refine (refFail_at HR.out 11 (by decide) p).mono ?_; rintro e w1 ⟨rfl, hr1, hg1⟩)
            all_goals
              go_ret
              exact ⟨by rw [E1.out, E.out]; rfl, by rw [E1.out, E.out]; exact hr1, hg1⟩
          · have h9 : 9 ≤ k → b.toNat ≤ 1 := by omega
            have hsum := num_step_sum acc k b hk9 HA.out h9
            have C1 := hide c1
            have C2 := hide c2
            have H9 := hide h9
            have HS := hide hsum
            clear c1 c2 h9 hsum
            by_cases c3 : b.toNat < 128
            · have e : parse (bs.drop p) = (acc + b.toNat % 128 * 128 ^ k, k + 1, 0) := by
                have := C2.out
                rw [HP.out, HPA.out, if_neg C1.out, if_neg (by omega), if_pos c3, Nat.mod_eq_of_lt c3]
              have E := hide e
              clear e
              have hpl := HR.out.place (p + (k + 1))
              rw [show ((p + (k + 1) : Nat) : Int) = (p : Int) + (k : Int) + 1 by omega] at hpl
              have PL := hide hpl
              have NS := hide (num_step_ref acc k b hk9 HA.out H9.out)
              clear hpl
              rcases Nat.lt_or_ge k 9 with hk8 | hk8
              · rcases Nat.lt_or_ge b.toNat 1 with hb0 | hb0
                · have hk0 : k < 1 := by have := C2.out; omega
                  have ns0 := NS.out
                  rw [show (b.toNat : Int) % 128 * 2 ^ (7 * k) = 0 by rw [show (b.toNat : Int) = 0 by omega]; simp] at ns0
                  have NZ := hide ns0
                  clear ns0
                  go_wp2_with fail
                  go_ret
                  exact ⟨by rw [E1.out, E.out]; show _ = Ending.returned (.int .u64 ((acc + b.toNat % 128 * 128 ^ k : Nat) : Int)); rw [← NZ.out]; rfl, by rw [E1.out, E.out]; exact PL.out.1, PL.out.2⟩
                · go_wp2_with fail
                  go_ret
                  exact ⟨by rw [E1.out, E.out]; show _ = Ending.returned (.int .u64 ((acc + b.toNat % 128 * 128 ^ k : Nat) : Int)); rw [← NS.out]; rfl, by rw [E1.out, E.out]; exact PL.out.1, PL.out.2⟩
              · have hb1 := H9.out hk8
                have hb0 : 1 ≤ b.toNat := by have := C2.out; omega
                go_wp2_with fail
                go_ret
                exact ⟨by rw [E1.out, E.out]; show _ = Ending.returned (.int .u64 ((acc + b.toNat % 128 * 128 ^ k : Nat) : Int)); rw [← NS.out]; rfl, by rw [E1.out, E.out]; exact PL.out.1, PL.out.2⟩
            · have hk8 : k < 9 := by have := H9.out; omega
              have NS := hide (num_step_ref acc k b hk9 HA.out H9.out)
              go_wp2_with fail
              go_round
              case rel =>
                have := C2.out
                exact ⟨k + 1, acc + b.toNat % 128 * 128 ^ k, by omega, by omega, by
                  have h1 : b.toNat % 128 * 128 ^ k ≤ 127 * 128 ^ k := Nat.mul_le_mul (by omega) (Nat.le_refl _)
                  have h2 := HA.out
                  rw [Nat.pow_succ]; omega, by rw [HP.out, HPA.out, if_neg C1.out, if_neg (by omega), if_neg c3], by go_num, by rw [← NS.out]⟩
              case measure => simp [intOf]; omega
      · have e : parse (bs.drop p) = (0, 0, 3) := by rw [HP.out, List.drop_of_length_le (by omega)]; rfl
        have E := hide e
        clear e
        go_wp2_with (go_at_call 54; refine (refFail_at HR.out 3 (by decide) p).mono ?_; rintro e w1 ⟨rfl, hr1, hg1⟩)
        go_ret
        exact ⟨by rw [E1.out, E.out]; rfl, by rw [E1.out, E.out]; exact hr1, hg1⟩
  · have e1 : rNum bs p x = (0, p, x) := by simp [rNum, rPeek, hx]
    have E1 := hide e1
    have hb : (x != 0) = true := by simpa using hx
    clear e1 hx
    go_enter Try.func53, Try.ntmps53
    go_wp2
    go_ret
    exact ⟨by rw [E1.out]; rfl, by rw [E1.out]; exact HR.out, gb_refl _ _⟩

end Go.Proofs.Ytgilkaaholkgfaa
