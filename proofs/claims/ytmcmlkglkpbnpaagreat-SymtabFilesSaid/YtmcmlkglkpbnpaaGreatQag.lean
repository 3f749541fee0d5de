/-
  Plain facts: what was put is read back, and what is read is what would be put.
-/
import Derived.Test.YtmcmlkglkpbnpaaGreatQaf
import Derived.Deep.LoopGhost
import Derived.Deep.QuietTactic
import Derived.BigQuiet
namespace Go.Proofs.YtmcmlkglkpbnpaaGreat
open Go.RowKit
def tup (r : Nat × Nat × Nat) : Ending := .returned (.tuple #[.int .u64 (r.1 : Int), .int .i64 (r.2.1 : Int), .int .i64 (r.2.2 : Int)])
theorem parse_at (bs : List UInt8) (k acc : Nat) (h : k < bs.length) : parseF k (bs.drop k) acc =
  if 9 ≤ k ∧ 1 < bs[k].toNat then (0, 0, 10)
  else if bs[k].toNat = 0 ∧ 0 < k then (0, 0, 11)
  else if bs[k].toNat < 128 then (acc + bs[k].toNat * 128 ^ k, k + 1, 0)
  else parseF (k + 1) (bs.drop (k + 1)) (acc + (bs[k].toNat % 128) * 128 ^ k) := by
 rw [List.drop_eq_getElem_cons h]
 rfl
set_option maxHeartbeats 1000000 in
set_option maxRecDepth 100000 in
theorem parseNum_any (A : Option Addr) (c : Nat) (bs : List UInt8) (w : World) (B : Nat)
  (hr : Rd w B A (u8s bs)) (hl : bs.length ≤ 1000000000) :
  Calls Tryz.prog 135 #[.slice A bs.length c] w fun e w' => e = tup (parse bs) ∧ w = w' := by
 go_enter Tryz.func135, Tryz.ntmps135
 go_wp2
 go_step3
 go_wp2
 go_step3
 go_wp2
 go_loop [5, 6, 11] (fun s x i => ∃ k acc : Nat, k ≤ bs.length ∧ k ≤ 9 ∧ acc < 128 ^ k ∧ parse bs = parseF k (bs.drop k) acc ∧ i = .int .i64 k ∧ s = .int .u64 acc ∧ x = .int .i64 3) (fun _ _ i => bs.length - (intOf i).toNat)
 case atStart => exact ⟨0, 0, by omega, by omega, by simp, rfl, rfl, rfl, rfl⟩
 case round =>
  obtain ⟨k, acc, hk, hk9, hacc, hp, rfl, rfl, rfl⟩ := hrel
  have HP := hide hp
  have HA := hide hacc
  clear hp hacc
  by_cases hlt : k < bs.length
  ·obtain ⟨ad, rfl, _, hc⟩ := hr.u8 hlt
   have hpa := parse_at bs k acc hlt
   generalize bs[k] = b at hc hpa
   have HPA := hide hpa
   clear hpa
   have hb := b.toNat_lt
   by_cases c1 : 9 ≤ k ∧ 1 < b.toNat
   ·have e : parse bs = (0, 0, 10) := by rw [HP.out, HPA.out, if_pos c1]
    have E := hide e
    obtain ⟨c1, c2⟩ := c1
    clear e
    go_wp2
    go_ret3
    exact ⟨by rw [E.out]; rfl, rfl⟩
   ·by_cases c2 : b.toNat < 1 ∧ 0 < k
    ·have e : parse bs = (0, 0, 11) := by rw [HP.out, HPA.out, if_neg c1, if_pos ⟨by omega, c2.2⟩]
     have E := hide e
     have C1 := hide c1
     obtain ⟨c3, c4⟩ := c2
     clear e c1
     go_wp2
     all_goals
      go_ret3
      exact ⟨by rw [E.out]; rfl, rfl⟩
    ·have h9 : 9 ≤ k → b.toNat ≤ 1 := by omega
     have NS := hide (num_step acc k b hk9 HA.out h9)
     have C1 := hide c1
     have C2 := hide c2
     have H9 := hide h9
     clear c1 c2 h9
     by_cases c3 : b.toNat < 128
     ·have e : parse bs = (acc + b.toNat % 128 * 128 ^ k, k + 1, 0) := by
       have := C2.out
       rw [HP.out, HPA.out, if_neg C1.out, if_neg (by omega), if_pos c3, Nat.mod_eq_of_lt c3]
      have E := hide e
      clear e
      rcases Nat.lt_or_ge k 9 with hk8 | hk8
      ·rcases Nat.lt_or_ge b.toNat 1 with hb0 | hb0
       ·have hk0 : k < 1 := by have := C2.out; omega
        have NS0 := NS.out
        rw [show ((b.toNat : Nat) : Int) = 0 by omega] at NS0
        have NZ := hide NS0
        clear NS0
        go_wp2
        go_ret3
        exact ⟨by rw [E.out]; simp only [tup]; rw [← NZ.out]; rfl, rfl⟩
       ·go_wp2
        go_ret3
        exact ⟨by rw [E.out]; simp only [tup]; rw [← NS.out]; rfl, rfl⟩
      ·have hb1 := H9.out hk8
       have hb0 : 1 ≤ b.toNat := by have := C2.out; omega
       have hp9 : (2 : Int) ^ (7 * k) = 9223372036854775808 := by
        rw [show k = 9 by omega]; decide
       have NS0 := NS.out
       rw [hp9] at NS0
       clear hp9
       have NZ := hide NS0
       clear NS0
       go_wp2
       go_ret3
       exact ⟨by rw [E.out]; simp only [tup]; rw [← NZ.out, show ((k + 1 : Nat) : Int) = 10 by omega]; rfl, rfl⟩
     ·have hk8 : k < 9 := by have := H9.out; omega
      go_wp2
      go_round
      case rel =>
       have := C2.out
       exact ⟨k + 1, acc + b.toNat % 128 * 128 ^ k, by omega, by omega, by
        have h1 : b.toNat % 128 * 128 ^ k ≤ 127 * 128 ^ k := Nat.mul_le_mul (by omega) (Nat.le_refl _)
        have h2 := HA.out
        rw [Nat.pow_succ]; omega, by rw [HP.out, HPA.out, if_neg C1.out, if_neg (by omega), if_neg c3], by go_num, by rw [← NS.out], rfl⟩
      case measure => simp [intOf]; omega
  ·have e : parse bs = (0, 0, 3) := by rw [HP.out, List.drop_of_length_le (by omega)]; rfl
   have E := hide e
   clear e
   go_wp2
   go_ret3
   exact ⟨by rw [E.out]; rfl, rfl⟩
end Go.Proofs.YtmcmlkglkpbnpaaGreat
namespace Go.Proofs.YtmcmlkglkpbnpaaGreat
open Go.RowKit
def Rdr (w : World) (base g : Nat) (bs : List UInt8) (p : Nat) (x : Int) : Prop :=
 ∃ v, w.heap[g]? = some (.cells #[v, .int .i64 (p : Int), .int .i64 x] 201 (0, 0)) ∧ w.ownsRow base 5 1 v bs.length (u8s bs) ∧ base ≤ g
theorem Rdr.lt {w : World} {base g : Nat} {bs : List UInt8} {p : Nat} {x : Int} (h : Rdr w base g bs p x) : g < w.heap.size := blk_lt h.choose_spec.1
theorem Rdr.keep {w w' : World} {base g : Nat} {bs : List UInt8} {p : Nat} {x : Int} {row : Option Nat} (h : Rdr w base g bs p x) (hg : w.grownBy w' row) (h1 : row ≠ some g)
  (h2 : ∀ k cs t, row = some k → w.heap[k]? = some (.cells cs t (0, 0)) → t ≠ 5) (h3 : ∀ k, row = some k → ∃ cs t, w.heap[k]? = some (.cells cs t (0, 0))) : Rdr w' base g bs p x := by
 obtain ⟨v, a, b, c⟩ := h
 refine ⟨v, blk_keep a hg h1.symm, b.kept hg ?_, c⟩
 rcases row with _ | k
 ·cases v.ownBlock <;> simp
 ·right
  obtain ⟨cs, t, hk⟩ := h3 k rfl
  exact own_ne b hk (Ne.symm (h2 k cs t rfl hk))
theorem Rdr.grown {w w' : World} {base g : Nat} {bs : List UInt8} {p : Nat} {x : Int} (h : Rdr w base g bs p x) (hg : w.grownBy w' none) : Rdr w' base g bs p x :=
 h.keep hg (by simp) (by simp) (by simp)
theorem Rdr.drewN {w : World} {base g : Nat} {bs : List UInt8} {p : Nat} {x : Int} (h : Rdr w base g bs p x) (n : Nat) : Rdr (w.drewN n) base g bs p x := h
set_option maxHeartbeats 1000000 in
set_option maxRecDepth 100000 in
theorem new_any (A : Option Addr) (c : Nat) (bs : List UInt8) (w : World) (hr : Rd w w.heap.size A (u8s bs)) (h1 : bs.length ≤ 100000000) :
  Calls Tryz.prog 100 #[.slice A bs.length c] w fun e w' => ∃ g, e = .returned (.pointer (some ⟨g, 0, none⟩)) ∧ Rdr w' w.heap.size g bs 0 0 ∧ w.grownBy w' none := by
 go_enter Tryz.func100, Tryz.ntmps100
 go_wp2_with (go_at_call 114; refine (grown_any _ _ _ _ _ w.heap.size (Nat.le_refl _) hr (by omega) (by omega)).mono ?_; rintro e w1 ⟨v, rfl, hown, hg⟩; obtain ⟨A1, c1, rfl, _, _, _⟩ := own_form hown)
 go_ret
 exact ⟨w1.heap.size, rfl, ⟨_, heap_alloc_new w1 _, hown.alloc _, hg.size⟩, gb_alloc hg _⟩
set_option maxHeartbeats 1000000 in
set_option maxRecDepth 100000 in
theorem stopped_any (g : Nat) (v : Value) (p : Int) (err : Int) (w : World) (h : w.heap[g]? = some (.cells #[v, .int .i64 p, .int .i64 err] 201 (0, 0))) :
  Calls Tryz.prog 119 #[.pointer (some ⟨g, 0, none⟩)] w fun e w' => e = .returned (.bool (err != 0)) ∧ w = w' := by
 have h2 : w.cell? ⟨g, 2, none⟩ = some (.int .i64 err) := by rw [blk_cell h]; rfl
 clear h
 go_enter Tryz.func119, Tryz.ntmps119
 go_wp2
 go_ret
 exact ⟨by rfl, rfl⟩
set_option maxHeartbeats 1000000 in
set_option maxRecDepth 100000 in
theorem fail_any (g : Nat) (v : Value) (p : Int) (x y : Int) (w : World) (h : w.heap[g]? = some (.cells #[v, .int .i64 p, .int .i64 x] 201 (0, 0))) :
  Calls Tryz.prog 121 #[.pointer (some ⟨g, 0, none⟩), .int .i64 y] w fun e w' => e = .returned (.tuple #[]) ∧ w'.heap[g]? = some (.cells #[v, .int .i64 p, .int .i64 (rFail x y)] 201 (0, 0)) ∧ w.grownBy w' (some g) := by
 have h2 : w.cell? ⟨g, 2, none⟩ = some (.int .i64 x) := by rw [blk_cell h]; rfl
 have hf := blk_frozen h 2
 have hs := blk_set h 2 (.int .i64 y)
 have H := hide h
 have HS := hide hs
 clear h hs
 by_cases hx : x = 0
 ·have e1 : rFail x y = y := by simp [rFail, hx]
  have E1 := hide e1
  have hb : (x == 0) = true := by simpa using hx
  clear e1 hx
  go_enter Tryz.func121, Tryz.ntmps121
  go_wp2
  go_end0
  exact ⟨rfl, by rw [E1.out]; exact HS.out, gb_setCell (gb_refl _ _) (.inl rfl) _⟩
 ·have e1 : rFail x y = x := by simp [rFail, hx]
  have E1 := hide e1
  have hb : (x == 0) = false := by simpa using hx
  clear e1 hx
  go_enter Tryz.func121, Tryz.ntmps121
  go_wp2
  go_end0
  exact ⟨rfl, by rw [E1.out]; exact H.out, gb_refl _ _⟩
set_option maxHeartbeats 1000000 in
set_option maxRecDepth 100000 in
theorem skip_any (g : Nat) (v : Value) (p k : Nat) (x : Int) (w : World) (h : w.heap[g]? = some (.cells #[v, .int .i64 (p : Int), .int .i64 x] 201 (0, 0))) (hk : p + k ≤ 2000000000) :
  Calls Tryz.prog 123 #[.pointer (some ⟨g, 0, none⟩), .int .i64 (k : Int)] w fun e w' => e = .returned (.tuple #[]) ∧ w'.heap[g]? = some (.cells #[v, .int .i64 ((p + k : Nat) : Int), .int .i64 x] 201 (0, 0)) ∧ w.grownBy w' (some g) := by
 have h2 : w.cell? ⟨g, 1, none⟩ = some (.int .i64 (p : Int)) := by rw [blk_cell h]; rfl
 have hf := blk_frozen h 1
 have hs := blk_set h 1 (.int .i64 ((p + k : Nat) : Int))
 have H := hide h
 have HS := hide hs
 clear h hs
 by_cases hx : 0 < k
 ·go_enter Tryz.func123, Tryz.ntmps123
  go_wp2
  go_end0
  exact ⟨rfl, by simpa using HS.out, gb_setCell (gb_refl _ _) (.inl rfl) _⟩
 ·have e1 : p + k = p := by omega
  have E1 := hide e1
  clear e1
  go_enter Tryz.func123, Tryz.ntmps123
  go_wp2
  go_end0
  exact ⟨rfl, by rw [E1.out]; exact H.out, gb_refl _ _⟩
end Go.Proofs.YtmcmlkglkpbnpaaGreat
namespace Go.Proofs.YtmcmlkglkpbnpaaGreat
open Go.RowKit
def whyAt (x : Int) (p : Nat) : Int := if x = 0 then 0 else (p : Int)
def After (base g : Nat) (bs : List UInt8) (v : Value) (p : Nat) (x : Int) (w : World) (e : Ending) (w' : World) : Prop :=
 e = .returned v ∧ Rdr w' base g bs p x ∧ w.grownBy w' (some g)
set_option maxHeartbeats 1000000 in
set_option maxRecDepth 100000 in
theorem peek_any (base g : Nat) (bs : List UInt8) (p : Nat) (x : Int) (w : World) (h : Rdr w base g bs p x) (hp : p ≤ bs.length) (hl : bs.length ≤ 100000000) :
  Calls Tryz.prog 118 #[.pointer (some ⟨g, 0, none⟩)] w (After base g bs (.tuple #[.int .u64 ((rPeek bs p x).1 : Int), .int .i64 ((rPeek bs p x).2.1 : Int)]) p (rPeek bs p x).2.2 w) := by
 obtain ⟨v, hb, ho, hbg⟩ := h
 obtain ⟨A, c, rfl, hnc, hcm, hrd⟩ := own_form ho
 have h0 : w.cell? ⟨g, 0, none⟩ = some (.slice A bs.length c) := by rw [blk_cell hb]; rfl
 have h1 : w.cell? ⟨g, 1, none⟩ = some (.int .i64 (p : Int)) := by rw [blk_cell hb]; rfl
 have h2 : w.cell? ⟨g, 2, none⟩ = some (.int .i64 x) := by rw [blk_cell hb]; rfl
 have H := hide hb
 have HO := hide ho
 clear hb ho
 unfold maxLen at hcm
 by_cases hx : x = 0
 ·subst hx
  have e1 : rPeek bs p 0 = ((parse (bs.drop p)).1, (parse (bs.drop p)).2.1, ((parse (bs.drop p)).2.2 : Int)) := by simp [rPeek]
  have E1 := hide e1
  clear e1
  have hcut := hrd.cut (k := p) (cap := c) (by rw [u8s_length]; exact hp) (by rw [u8s_length]; exact hnc)
  rw [u8s_drop] at hcut
  have hlen : (bs.drop p).length = bs.length - p := List.length_drop
  have HL := hide hlen
  clear hlen
  go_enter Tryz.func118, Tryz.ntmps118
  go_wp2_with (go_at_call 119; refine (stopped_any _ _ _ _ _ H.out).mono ?_; rintro e w' ⟨rfl, rfl⟩)
  go_quiet ((go_at_call 135; rw [← HL.out]; exact quiet_l (parseNum_any _ _ _ _ _ (hcut.drewN _) (by simp; omega))))
  go_wp2_with (go_at_call 121; refine (fail_any _ _ _ _ _ _ (by exact H.out)).mono ?_; rintro e w2 ⟨rfl, hb2, hg2⟩)
  all_goals
   have hg3 : w.grownBy w2 (some g) := ⟨hg2.os, hg2.tape, hg2.output, hg2.size, hg2.block⟩
   go_ret2
   exact ⟨by rw [E1.out]; rfl, ⟨_, by rw [E1.out]; simpa [rFail] using hb2, HO.out.kept hg3 (.inr (own_ne HO.out H.out (by decide))), hbg⟩, hg3⟩
 ·have e1 : rPeek bs p x = (0, 0, x) := by simp [rPeek, hx]
  have E1 := hide e1
  have hb : (x != 0) = true := by simpa using hx
  clear e1 hx
  go_enter Tryz.func118, Tryz.ntmps118
  go_wp2_with (go_at_call 119; refine (stopped_any _ _ _ _ _ H.out).mono ?_; rintro e w' ⟨rfl, rfl⟩)
  go_ret2
  exact ⟨by rw [E1.out]; rfl, ⟨_, by rw [E1.out]; exact H.out, HO.out, hbg⟩, gb_refl _ _⟩
set_option maxHeartbeats 1000000 in
set_option maxRecDepth 100000 in
theorem left_any (base g : Nat) (bs : List UInt8) (p : Nat) (x : Int) (w : World) (h : Rdr w base g bs p x) (hp : p ≤ bs.length) (hl : bs.length ≤ 100000000) :
  Calls Tryz.prog 122 #[.pointer (some ⟨g, 0, none⟩)] w fun e w' => e = .returned (.int .i64 (((bs.length - p : Nat)) : Int)) ∧ ∃ n, w' = w.drewN n := by
 obtain ⟨v, hb, ho, hbg⟩ := h
 obtain ⟨A, c, rfl, hnc, hcm, hrd⟩ := own_form ho
 have h0 : w.cell? ⟨g, 0, none⟩ = some (.slice A bs.length c) := by rw [blk_cell hb]; rfl
 have h1 : w.cell? ⟨g, 1, none⟩ = some (.int .i64 (p : Int)) := by rw [blk_cell hb]; rfl
 clear hb ho hrd
 go_enter Tryz.func122, Tryz.ntmps122
 go_wp2
 go_quiet (fail)
 go_wp2
 go_ret
 exact ⟨by rw [show ((bs.length - p : Nat) : Int) = (bs.length : Int) - (p : Int) by omega]; rfl, _, rfl⟩
set_option maxHeartbeats 1000000 in
set_option maxRecDepth 100000 in
theorem why_any (base g : Nat) (bs : List UInt8) (p : Nat) (x : Int) (w : World) (h : Rdr w base g bs p x) :
  Calls Tryz.prog 124 #[.pointer (some ⟨g, 0, none⟩)] w fun e w' => e = .returned (.tuple #[.int .i64 x, .int .i64 (whyAt x p)]) ∧ ∃ n, w' = w.drewN n := by
 obtain ⟨v, hb, ho, hbg⟩ := h
 have h1 : w.cell? ⟨g, 1, none⟩ = some (.int .i64 (p : Int)) := by rw [blk_cell hb]; rfl
 have h2 : w.cell? ⟨g, 2, none⟩ = some (.int .i64 x) := by rw [blk_cell hb]; rfl
 clear hb ho
 by_cases hx : x = 0
 ·subst hx
  go_enter Tryz.func124, Tryz.ntmps124
  go_wp2
  go_ret2
  exact ⟨rfl, 0, rfl⟩
 ·have e1 : whyAt x p = p := if_neg hx
  have E1 := hide e1
  have hb : (x == 0) = false := by simpa using hx
  clear e1 hx
  go_enter Tryz.func124, Tryz.ntmps124
  go_wp2
  go_quiet (fail)
  go_wp2
  go_ret2
  exact ⟨by rw [E1.out]; rfl, _, rfl⟩
set_option maxHeartbeats 1000000 in
set_option maxRecDepth 100000 in
theorem done_any (base g : Nat) (bs : List UInt8) (p : Nat) (x : Int) (w : World) (h : Rdr w base g bs p x) (hp : p ≤ bs.length) (hl : bs.length ≤ 100000000) :
  Calls Tryz.prog 102 #[.pointer (some ⟨g, 0, none⟩)] w fun e w' => e = .returned (.int .i64 (rDone bs p x)) ∧ ∃ n, w' = w.drewN n := by
 by_cases hx : x = 0
 ·subst hx
  by_cases hlt : p < bs.length
  ·have e1 : rDone bs p 0 = 4 := by simp [rDone, hlt]
   have E1 := hide e1
   clear e1
   go_enter Tryz.func102, Tryz.ntmps102
   go_wp2_with (first
    | (go_at_call 124; refine (why_any _ _ _ _ _ _ h).mono ?_; rintro e w2 ⟨rfl, n, rfl⟩)
    | (go_at_call 122; refine (left_any _ _ _ _ _ _ (h.drewN _) hp hl).mono ?_; rintro e w3 ⟨rfl, m, rfl⟩))
   go_ret
   exact ⟨by rw [E1.out]; rfl, _, rfl⟩
  ·have e1 : rDone bs p 0 = 0 := by simp [rDone, hlt]
   have E1 := hide e1
   have hlz : bs.length - p < 1 := by omega
   clear e1
   go_enter Tryz.func102, Tryz.ntmps102
   go_wp2_with (first
    | (go_at_call 124; refine (why_any _ _ _ _ _ _ h).mono ?_; rintro e w2 ⟨rfl, n, rfl⟩)
    | (go_at_call 122; refine (left_any _ _ _ _ _ _ (h.drewN _) hp hl).mono ?_; rintro e w3 ⟨rfl, m, rfl⟩))
   go_ret
   exact ⟨by rw [E1.out]; rfl, _, rfl⟩
 ·have e1 : rDone bs p x = x := by simp [rDone, hx]
  have E1 := hide e1
  have hb : (x == 0) = false := by simpa using hx
  clear e1 hx
  go_enter Tryz.func102, Tryz.ntmps102
  go_wp2_with (first
   | (go_at_call 124; refine (why_any _ _ _ _ _ _ h).mono ?_; rintro e w2 ⟨rfl, n, rfl⟩)
   | (go_at_call 122; refine (left_any _ _ _ _ _ _ (h.drewN _) hp hl).mono ?_; rintro e w3 ⟨rfl, m, rfl⟩))
  go_ret
  exact ⟨by rw [E1.out]; rfl, _, rfl⟩
end Go.Proofs.YtmcmlkglkpbnpaaGreat
namespace Go.Proofs.YtmcmlkglkpbnpaaGreat
open Go.RowKit
set_option maxHeartbeats 1000000 in
theorem above_yes (n : Nat) (most : Int) (w : World) (hm : I64 most) (h : most < 0 ∨ most < n) :
  Calls Tryz.prog 120 #[.int .u64 n, .int .i64 most] w fun e w' => e = .returned (.bool true) ∧ w = w' := by
 have HM := hide hm
 by_cases h0 : most < 0
 ·clear h hm
  go_enter Tryz.func120, Tryz.ntmps120
  go_wp2
  go_ret
  exact ⟨rfl, rfl⟩
 ·have h1 : most < n := by omega
  have e1 : IntKind.u64.wrap most = most := by obtain ⟨_, b⟩ := hm; rw [IntKind.wrap_u64]; omega
  have E1 := hide e1
  clear h e1 hm
  go_enter Tryz.func120, Tryz.ntmps120
  go_wp2
  go_ret
  exact ⟨by simp [E1.out, h1], rfl⟩
set_option maxHeartbeats 1000000 in
theorem above_no (n : Nat) (most : Int) (w : World) (hm : I64 most) (h : ¬ (most < 0 ∨ most < n)) :
  Calls Tryz.prog 120 #[.int .u64 n, .int .i64 most] w fun e w' => e = .returned (.bool false) ∧ w = w' := by
 have h0 : 0 ≤ most := by omega
 have h1 : n ≤ most := by omega
 have e1 : IntKind.u64.wrap most = most := by obtain ⟨_, b⟩ := hm; rw [IntKind.wrap_u64]; omega
 have E1 := hide e1
 clear h hm e1
 go_enter Tryz.func120, Tryz.ntmps120
 go_wp2
 go_ret
 exact ⟨by simp [E1.out, h0, h1], rfl⟩
theorem peek_as {base g : Nat} {bs : List UInt8} {p n s : Nat} {x y : Int} {w : World} (h : Rdr w base g bs p x) (hp : p ≤ bs.length) (hl : bs.length ≤ 100000000)
  (hn : (rPeek bs p x).1 = n) (hs : (rPeek bs p x).2.1 = s) (hy : (rPeek bs p x).2.2 = y) :
  Calls Tryz.prog 118 #[.pointer (some ⟨g, 0, none⟩)] w (After base g bs (.tuple #[.int .u64 (n : Int), .int .i64 (s : Int)]) p y w) := by
 have := peek_any base g bs p x w h hp hl
 rwa [hn, hs, hy] at this
theorem cut_string {w : World} {A : Option Addr} {B c k n : Nat} {bs : List UInt8} (hr : Rd w B A (u8s bs)) (hnc : bs.length ≤ c) (hk : k + n ≤ bs.length) (m : Nat) :
  (convert 49 9 (.slice (if c = k then A else A.map (fun x => x.add k)) n (c - k))).run Tryz.prog (w.drewN m) = .ok (.string ⟨((bs.drop k).take n).toArray⟩) (w.drewN m) := by
 have h1 := hr.cut (k := k) (cap := c) (by rw [u8s_length]; omega) (by rw [u8s_length]; exact hnc)
 have h2 := (h1.take n).drewN m
 rw [u8s_drop, u8s_take] at h2
 have h3 := run_string_of (P := Tryz.prog) (w.drewN m) 49 5 Tryz.underlying49 Tryz.underlying5 _ B (c - k) _ h2 9 Tryz.underlying9
 have e : ((bs.drop k).take n).length = n := by rw [List.length_take, List.length_drop]; omega
 rw [e] at h3
 exact h3
set_option maxHeartbeats 2000000 in
set_option maxRecDepth 100000 in
theorem text_ok (base g : Nat) (bs : List UInt8) (p n s : Nat) (x most : Int) (w : World) (h : Rdr w base g bs p x) (hp : p ≤ bs.length) (hl : bs.length ≤ 100000000) (hm : I64 most)
  (hn : (rPeek bs p x).1 = n) (hs : (rPeek bs p x).2.1 = s) (hx : (rPeek bs p x).2.2 = 0) (ha : ¬ (most < 0 ∨ most < n)) (hc : p + s + n ≤ bs.length) :
  Calls Tryz.prog 101 #[.pointer (some ⟨g, 0, none⟩), .int .i64 most] w (After base g bs (.string ⟨((bs.drop (p + s)).take n).toArray⟩) (p + s + n) 0 w) := by
 have PK := hide (peek_as h hp hl hn hs hx)
 have HA := hide ha
 clear hn hs hx ha h
 go_enter Tryz.func101, Tryz.ntmps101
 go_wp2_with (first
  | (go_at_call 118; refine PK.out.mono ?_; rintro e w2 ⟨rfl, hr2, hg2⟩; have HR := hide hr2; obtain ⟨v, hb2, ho2, hbg⟩ := hr2; have H2 := hide hb2; obtain ⟨A, c, rfl, hnc, hcm, hrd⟩ := own_form ho2; have HO := hide ho2; have h0 : w2.cell? ⟨g, 0, none⟩ = some (.slice A bs.length c) := (by rw [blk_cell hb2]; rfl); have h1 : w2.cell? ⟨g, 1, none⟩ = some (.int .i64 (p : Int)) := (by rw [blk_cell hb2]; rfl); have hcs := cut_string hrd hnc (k := p + s) (n := n) hc; clear hb2 ho2 hrd; unfold maxLen at hcm)
  | (go_at_call 119; refine (stopped_any _ _ _ _ _ H2.out).mono ?_; rintro e w' ⟨rfl, rfl⟩)
  | (go_at_call 120; refine (above_no _ _ _ hm HA.out).mono ?_; rintro e w' ⟨rfl, rfl⟩)
  | (go_at_call 122; refine (left_any _ _ _ _ _ _ HR.out hp hl).mono ?_; rintro e w3 ⟨rfl, m, rfl⟩)
  | (go_at_call 123; refine (skip_any g _ p (s + n) 0 _ (by exact H2.out) (by omega)).mono ?_; rintro e w4 ⟨rfl, hb4, hg4⟩))
 all_goals
  have hg5 : w2.grownBy w4 (some g) := ⟨hg4.os, hg4.tape, hg4.output, hg4.size, hg4.block⟩
  go_ret
  exact ⟨rfl, ⟨_, by rw [Nat.add_assoc]; exact hb4, HO.out.kept hg5 (.inr (own_ne HO.out H2.out (by decide))), hbg⟩, gb_trans hg2 hg5 (.inl rfl)⟩
set_option maxHeartbeats 1000000 in
set_option maxRecDepth 100000 in
theorem text_long (base g : Nat) (bs : List UInt8) (p n s : Nat) (x most : Int) (w : World) (h : Rdr w base g bs p x) (hp : p ≤ bs.length) (hl : bs.length ≤ 100000000) (hm : I64 most)
  (hn : (rPeek bs p x).1 = n) (hs : (rPeek bs p x).2.1 = s) (hx : (rPeek bs p x).2.2 = 0) (ha : most < 0 ∨ most < n) :
  Calls Tryz.prog 101 #[.pointer (some ⟨g, 0, none⟩), .int .i64 most] w (After base g bs (.string ⟨#[]⟩) p 1 w) := by
 have PK := hide (peek_as h hp hl hn hs hx)
 have HA := hide ha
 clear hn hs hx ha h
 go_enter Tryz.func101, Tryz.ntmps101
 go_wp2_with (first
  | (go_at_call 118; refine PK.out.mono ?_; rintro e w2 ⟨rfl, hr2, hg2⟩; obtain ⟨v, hb2, ho2, hbg⟩ := hr2; have H2 := hide hb2; have HO := hide ho2; clear hb2 ho2)
  | (go_at_call 119; refine (stopped_any _ _ _ _ _ H2.out).mono ?_; rintro e w' ⟨rfl, rfl⟩)
  | (go_at_call 120; refine (above_yes _ _ _ hm HA.out).mono ?_; rintro e w' ⟨rfl, rfl⟩)
  | (go_at_call 121; refine (fail_any _ _ _ _ _ _ H2.out).mono ?_; rintro e w4 ⟨rfl, hb4, hg4⟩))
 go_ret
 exact ⟨rfl, ⟨_, by simpa [rFail] using hb4, HO.out.kept hg4 (.inr (own_ne HO.out H2.out (by decide))), hbg⟩, gb_trans hg2 hg4 (.inl rfl)⟩
set_option maxHeartbeats 1000000 in
set_option maxRecDepth 100000 in
theorem text_short (base g : Nat) (bs : List UInt8) (p n s : Nat) (x most : Int) (w : World) (h : Rdr w base g bs p x) (hp : p ≤ bs.length) (hl : bs.length ≤ 100000000) (hm : I64 most)
  (hn : (rPeek bs p x).1 = n) (hs : (rPeek bs p x).2.1 = s) (hx : (rPeek bs p x).2.2 = 0) (ha : ¬ (most < 0 ∨ most < n)) (hc : bs.length - p - s < n) (hsz : p + s ≤ bs.length) :
  Calls Tryz.prog 101 #[.pointer (some ⟨g, 0, none⟩), .int .i64 most] w (After base g bs (.string ⟨#[]⟩) p 3 w) := by
 have PK := hide (peek_as h hp hl hn hs hx)
 have HA := hide ha
 clear hn hs hx ha h
 go_enter Tryz.func101, Tryz.ntmps101
 go_wp2_with (first
  | (go_at_call 118; refine PK.out.mono ?_; rintro e w2 ⟨rfl, hr2, hg2⟩; have HR := hide hr2; obtain ⟨v, hb2, ho2, hbg⟩ := hr2; have H2 := hide hb2; have HO := hide ho2; clear hb2 ho2)
  | (go_at_call 119; refine (stopped_any _ _ _ _ _ H2.out).mono ?_; rintro e w' ⟨rfl, rfl⟩)
  | (go_at_call 120; refine (above_no _ _ _ hm HA.out).mono ?_; rintro e w' ⟨rfl, rfl⟩)
  | (go_at_call 122; refine (left_any _ _ _ _ _ _ HR.out hp hl).mono ?_; rintro e w3 ⟨rfl, m, rfl⟩)
  | (go_at_call 121; refine (fail_any _ _ _ _ _ _ (by exact H2.out)).mono ?_; rintro e w4 ⟨rfl, hb4, hg4⟩))
 have hg5 : w2.grownBy w4 (some g) := ⟨hg4.os, hg4.tape, hg4.output, hg4.size, hg4.block⟩
 go_ret
 exact ⟨rfl, ⟨_, by simpa [rFail] using hb4, HO.out.kept hg5 (.inr (own_ne HO.out H2.out (by decide))), hbg⟩, gb_trans hg2 hg5 (.inl rfl)⟩
set_option maxHeartbeats 1000000 in
set_option maxRecDepth 100000 in
theorem text_err (base g : Nat) (bs : List UInt8) (p : Nat) (x y most : Int) (w : World) (h : Rdr w base g bs p x) (hp : p ≤ bs.length) (hl : bs.length ≤ 100000000)
  (hx : (rPeek bs p x).2.2 = y) (hy : y ≠ 0) :
  Calls Tryz.prog 101 #[.pointer (some ⟨g, 0, none⟩), .int .i64 most] w (After base g bs (.string ⟨#[]⟩) p y w) := by
 have PK := hide (peek_as h hp hl rfl rfl hx)
 have hb : (y != 0) = true := by simpa using hy
 clear hx h hy
 go_enter Tryz.func101, Tryz.ntmps101
 go_wp2_with (first
  | (go_at_call 118; refine PK.out.mono ?_; rintro e w2 ⟨rfl, hr2, hg2⟩; have HR := hide hr2; obtain ⟨v, hb2, ho2, hbg⟩ := hr2; have H2 := hide hb2; clear hb2)
  | (go_at_call 119; refine (stopped_any _ _ _ _ _ H2.out).mono ?_; rintro e w' ⟨rfl, rfl⟩))
 go_ret
 exact ⟨rfl, HR.out, hg2⟩
theorem text_any (base g : Nat) (bs : List UInt8) (p : Nat) (x most : Int) (w : World) (h : Rdr w base g bs p x) (hp : p ≤ bs.length) (hl : bs.length ≤ 100000000) (hm : I64 most) :
  Calls Tryz.prog 101 #[.pointer (some ⟨g, 0, none⟩), .int .i64 most] w (After base g bs (.string ⟨(rText bs p x most).1.toArray⟩) (rText bs p x most).2.1 (rText bs p x most).2.2 w) := by
 have hsz := rPeek_size bs p x hp
 by_cases hx : (rPeek bs p x).2.2 = 0
 ·by_cases ha : most < 0 ∨ most < (rPeek bs p x).1
  ·have e : rText bs p x most = ([], p, 1) := by unfold rText; rw [if_pos hx, if_pos ha]
   rw [e]
   exact text_long base g bs p _ _ x most w h hp hl hm rfl rfl hx ha
  ·by_cases hc : bs.length - p - (rPeek bs p x).2.1 < (rPeek bs p x).1
   ·have e : rText bs p x most = ([], p, 3) := by unfold rText; rw [if_pos hx, if_neg ha, if_pos hc]
    rw [e]
    exact text_short base g bs p _ _ x most w h hp hl hm rfl rfl hx ha hc hsz
   ·have e : rText bs p x most = ((bs.drop (p + (rPeek bs p x).2.1)).take (rPeek bs p x).1, p + (rPeek bs p x).2.1 + (rPeek bs p x).1, 0) := by unfold rText; rw [if_pos hx, if_neg ha, if_neg hc]
    rw [e]
    exact text_ok base g bs p _ _ x most w h hp hl hm rfl rfl hx ha (by omega)
 ·have e : rText bs p x most = ([], p, (rPeek bs p x).2.2) := by unfold rText; rw [if_neg hx]
  rw [e]
  exact text_err base g bs p x _ most w h hp hl rfl hx
/-! ## a nil Reader -/
end Go.Proofs.YtmcmlkglkpbnpaaGreat
namespace Go.Proofs.YtmcmlkglkpbnpaaGreat
open Go.RowKit
/-! ## a reader of what was put -/
end Go.Proofs.YtmcmlkglkpbnpaaGreat
