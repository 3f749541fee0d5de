/-
  The contracts of octet.Open, octet.Frames.
-/
import Derived.Test.YtgilkaaholkgfaaSeal
namespace Go.Proofs.Ytgilkaaholkgfaa
open Go.RowKit

theorem or_nat32 (a b i : Nat) (hb : b < 2 ^ i) (h : a * 2 ^ i + b < 4294967296) : bits .or .u32 ((a * 2 ^ i : Nat) : Int) (b : Int) = ((a * 2 ^ i + b : Nat) : Int) := by
  rw [u32_or_nat _ _ (by omega) (by omega), ← Nat.shiftLeft_eq, Nat.shiftLeft_add_eq_or_of_lt hb]
/-- Four bytes, laid together by the program, the highest first. -/
theorem or4 (a b c d : UInt8) :
    bits BinOp.or IntKind.u32 (bits BinOp.or IntKind.u32 (bits BinOp.or IntKind.u32 ((a.toNat : Int) * 16777216) ((b.toNat : Int) * 65536)) ((c.toNat : Int) * 256)) (d.toNat : Int) = (be4 a b c d : Int) := by
  have := a.toNat_lt; have := b.toNat_lt; have := c.toNat_lt; have := d.toNat_lt
  have e1 : bits BinOp.or IntKind.u32 ((a.toNat : Int) * 16777216) ((b.toNat : Int) * 65536) = ((a.toNat * 16777216 + b.toNat * 65536 : Nat) : Int) := by
    have := or_nat32 a.toNat (b.toNat * 65536) 24 (by omega) (by omega)
    rw [show (2 : Nat) ^ 24 = 16777216 by decide] at this
    rw [← this]; congr 1
  have e2 : bits BinOp.or IntKind.u32 ((a.toNat * 16777216 + b.toNat * 65536 : Nat) : Int) ((c.toNat : Int) * 256) = ((a.toNat * 16777216 + b.toNat * 65536 + c.toNat * 256 : Nat) : Int) := by
    have := or_nat32 (a.toNat * 256 + b.toNat) (c.toNat * 256) 16 (by omega) (by omega)
    rw [show (2 : Nat) ^ 16 = 65536 by decide, show (a.toNat * 256 + b.toNat) * 65536 = a.toNat * 16777216 + b.toNat * 65536 by omega] at this
    rw [← this]; congr 1
  have e3 : bits BinOp.or IntKind.u32 ((a.toNat * 16777216 + b.toNat * 65536 + c.toNat * 256 : Nat) : Int) (d.toNat : Int) = ((a.toNat * 16777216 + b.toNat * 65536 + c.toNat * 256 + d.toNat : Nat) : Int) := by
    have := or_nat32 (a.toNat * 65536 + b.toNat * 256 + c.toNat) d.toNat 8 (by omega) (by omega)
    rw [show (2 : Nat) ^ 8 = 256 by decide, show (a.toNat * 65536 + b.toNat * 256 + c.toNat) * 256 = a.toNat * 16777216 + b.toNat * 65536 + c.toNat * 256 by omega] at this
    rw [← this]
  rw [e1, e2, e3]
  rfl
/-- The same, the lowest first. -/
theorem or4r (a b c d : UInt8) :
    bits BinOp.or IntKind.u32 (bits BinOp.or IntKind.u32 (bits BinOp.or IntKind.u32 (d.toNat : Int) ((c.toNat : Int) * 256)) ((b.toNat : Int) * 65536)) ((a.toNat : Int) * 16777216) = (be4 a b c d : Int) := by
  have := a.toNat_lt; have := b.toNat_lt; have := c.toNat_lt; have := d.toNat_lt
  have comm : ∀ x y : Nat, x < 4294967296 → y < 4294967296 → bits BinOp.or IntKind.u32 (x : Int) (y : Int) = bits BinOp.or IntKind.u32 (y : Int) (x : Int) := fun x y hx hy => by
    rw [u32_or_nat x y hx hy, u32_or_nat y x hy hx, Nat.or_comm]
  have e1 : bits BinOp.or IntKind.u32 (d.toNat : Int) ((c.toNat : Int) * 256) = ((c.toNat * 256 + d.toNat : Nat) : Int) := by
    have := or_nat32 c.toNat d.toNat 8 (by omega) (by omega)
    rw [show (2 : Nat) ^ 8 = 256 by decide] at this
    rw [← this, comm _ _ (by omega) (by omega)]; congr 1
  have e2 : bits BinOp.or IntKind.u32 ((c.toNat * 256 + d.toNat : Nat) : Int) ((b.toNat : Int) * 65536) = ((b.toNat * 65536 + (c.toNat * 256 + d.toNat) : Nat) : Int) := by
    have := or_nat32 b.toNat (c.toNat * 256 + d.toNat) 16 (by omega) (by omega)
    rw [show (2 : Nat) ^ 16 = 65536 by decide] at this
    rw [← this, comm _ _ (by omega) (by omega)]; congr 1
  have e3 : bits BinOp.or IntKind.u32 ((b.toNat * 65536 + (c.toNat * 256 + d.toNat) : Nat) : Int) ((a.toNat : Int) * 16777216) = ((a.toNat * 16777216 + (b.toNat * 65536 + (c.toNat * 256 + d.toNat)) : Nat) : Int) := by
    have := or_nat32 a.toNat (b.toNat * 65536 + (c.toNat * 256 + d.toNat)) 24 (by omega) (by omega)
    rw [show (2 : Nat) ^ 24 = 16777216 by decide] at this
    rw [← this, comm _ _ (by omega) (by omega)]; congr 1
  have e4 : a.toNat * 16777216 + (b.toNat * 65536 + (c.toNat * 256 + d.toNat)) = be4 a b c d := by unfold be4; omega
  rw [e1, e2, e3, e4]

theorem own_base {w : World} {base base' n : Nat} {t : TypeId} {v : Value} {xs : List Value} (h : w.ownsRow base t 1 v n xs) (hb : base' ≤ base) : w.ownsRow base' t 1 v n xs := by
  refine ⟨h.1, ?_⟩
  rcases h.2 with h2 | ⟨g, cap, cur, h3, h4, h5⟩
  · exact .inl h2
  · exact .inr ⟨g, cap, cur, h3, by omega, h5⟩

theorem grown_as {A : Option Addr} {c n : Nat} {bs : List UInt8} {w : World} (hn : bs.length = n) (hr : Rd w w.heap.size A (u8s bs)) (hs : n ≤ 100000000) :
    Calls Try.prog 74 #[.slice A n c, .int .i64 0] w fun e w' => ∃ v, e = .returned v ∧ w'.ownsRow w.heap.size 5 1 v n (u8s bs) ∧ w.grownBy w' none := by
  subst hn
  exact grown_any A c bs 0 w w.heap.size (Nat.le_refl _) hr (by omega) (by omega)

/-- What Open leaves: the load in new memory, how many bytes the frame has, the error. -/
def Opened (r : List UInt8 × Nat × Nat) (w : World) (e : Ending) (w' : World) : Prop :=
  ∃ v, e = .returned (.tuple #[v, .int .i64 (r.2.1 : Int), .int .i64 (r.2.2 : Int)]) ∧ w'.ownsRow w.heap.size 5 1 v r.1.length (u8s r.1) ∧ w.grownBy w' none

theorem Opened.err {x : Nat} {w w' : World} {e : Ending} (he : e = .returned (.tuple #[.slice none 0 0, .int .i64 0, .int .i64 (x : Int)])) (hg : w.grownBy w' none) : Opened ([], 0, x) w e w' :=
  ⟨_, he, World.ownsRow_nil _ _ _ _, hg⟩

set_option maxHeartbeats 1000000 in
set_option maxRecDepth 100000 in
theorem open_tiny (A : Option Addr) (c : Nat) (bs : List UInt8) (w : World) (h2 : bs.length < 4) :
    Calls Try.prog 48 #[.slice A bs.length c] w (Opened (opn bs) w) := by
  have e : opn bs = ([], 0, 3) := by unfold opn; rw [if_pos h2]
  rw [e]
  clear e
  go_enter Try.func48, Try.ntmps48
  go_wp2
  go_ret3
  exact Opened.err rfl (gb_refl _ _)

/-- Crc of the first bytes, its contract with the sum behind a name. -/
def CrcOf (q n c : Nat) (A : Option Addr) (w : World) : Prop := ∀ k, Calls Try.prog 73 #[.slice (some ⟨w.heap.size, 0, none⟩) 1 1] ((w.drewN k).alloc (.cells #[.slice A n c] 22)) fun e w' => e = .returned (.int .u32 (q : Int)) ∧ w.grownBy w' none

set_option maxHeartbeats 2000000 in
set_option maxRecDepth 100000 in
theorem open_long (b o c n : Nat) (b0 b1 b2 b3 : UInt8) (len : Nat) (w : World) (h2 : 4 ≤ len)
    (hc0 : w.cell? ⟨b, o, none⟩ = some (.int .u8 (b0.toNat : Int))) (hc1 : w.cell? ⟨b, o + 1, none⟩ = some (.int .u8 (b1.toNat : Int))) (hc2 : w.cell? ⟨b, o + 2, none⟩ = some (.int .u8 (b2.toNat : Int))) (hc3 : w.cell? ⟨b, o + 3, none⟩ = some (.int .u8 (b3.toNat : Int)))
    (hn : be4 b0 b1 b2 b3 = n) (h1 : len ≤ 100000000) (c1 : 1048576 < n) :
    Calls Try.prog 48 #[.slice (some ⟨b, o, none⟩) len c] w (Opened ([], 0, 1) w) := by
  have hor := or4 b0 b1 b2 b3
  have hnl := be4_lt b0 b1 b2 b3
  rw [hn] at hor hnl
  have hnl2 : (n : Int) ≤ 4294967295 := by omega
  have g0 : b0.toNat < 256 := b0.toNat_lt
  have g1 : b1.toNat < 256 := b1.toNat_lt
  have g2 : b2.toNat < 256 := b2.toNat_lt
  have g3 : b3.toNat < 256 := b3.toNat_lt
  clear hn hnl
  go_enter Try.func48, Try.ntmps48
  go_wp2
  go_quiet (fail)
  go_wp2
  go_ret3
  exact Opened.err rfl (gb_drewN (gb_refl _ _) _)

set_option maxHeartbeats 2000000 in
set_option maxRecDepth 100000 in
theorem open_short (b o c n : Nat) (b0 b1 b2 b3 : UInt8) (len : Nat) (w : World) (h2 : 4 ≤ len)
    (hc0 : w.cell? ⟨b, o, none⟩ = some (.int .u8 (b0.toNat : Int))) (hc1 : w.cell? ⟨b, o + 1, none⟩ = some (.int .u8 (b1.toNat : Int))) (hc2 : w.cell? ⟨b, o + 2, none⟩ = some (.int .u8 (b2.toNat : Int))) (hc3 : w.cell? ⟨b, o + 3, none⟩ = some (.int .u8 (b3.toNat : Int)))
    (hn : be4 b0 b1 b2 b3 = n) (h1 : len ≤ 100000000) (c1 : n ≤ 1048576) (c2 : len < n + 8) :
    Calls Try.prog 48 #[.slice (some ⟨b, o, none⟩) len c] w (Opened ([], 0, 3) w) := by
  have hor := or4 b0 b1 b2 b3
  rw [hn] at hor
  have g0 : b0.toNat < 256 := b0.toNat_lt
  have g1 : b1.toNat < 256 := b1.toNat_lt
  have g2 : b2.toNat < 256 := b2.toNat_lt
  have g3 : b3.toNat < 256 := b3.toNat_lt
  clear hn
  go_enter Try.func48, Try.ntmps48
  go_wp2
  go_quiet (fail)
  go_wp2
  go_ret3
  exact Opened.err rfl (gb_drewN (gb_refl _ _) _)

set_option maxHeartbeats 4000000 in
set_option maxRecDepth 100000 in
theorem open_sum (b o c n q s : Nat) (b0 b1 b2 b3 d0 d1 d2 d3 : UInt8) (len : Nat) (w : World) (hcap : len ≤ c)
    (hc0 : w.cell? ⟨b, o, none⟩ = some (.int .u8 (b0.toNat : Int))) (hc1 : w.cell? ⟨b, o + 1, none⟩ = some (.int .u8 (b1.toNat : Int))) (hc2 : w.cell? ⟨b, o + 2, none⟩ = some (.int .u8 (b2.toNat : Int))) (hc3 : w.cell? ⟨b, o + 3, none⟩ = some (.int .u8 (b3.toNat : Int)))
    (hd0 : w.cell? ⟨b, o + (4 + n), none⟩ = some (.int .u8 (d0.toNat : Int))) (hd1 : w.cell? ⟨b, o + (4 + n + 1), none⟩ = some (.int .u8 (d1.toNat : Int))) (hd2 : w.cell? ⟨b, o + (4 + n + 2), none⟩ = some (.int .u8 (d2.toNat : Int))) (hd3 : w.cell? ⟨b, o + (4 + n + 3), none⟩ = some (.int .u8 (d3.toNat : Int)))
    (hn : be4 b0 b1 b2 b3 = n) (hs : be4 d3 d2 d1 d0 = s) (h1 : len ≤ 100000000) (c1 : n ≤ 1048576) (c2 : n + 8 ≤ len) (hcrc : CrcOf q (4 + n) c (some ⟨b, o, none⟩) w) (hq : q ≠ s) :
    Calls Try.prog 48 #[.slice (some ⟨b, o, none⟩) len c] w (Opened ([], 0, 12) w) := by
  have hor := or4 b0 b1 b2 b3
  rw [hn] at hor
  have g0 : b0.toNat < 256 := b0.toNat_lt
  have g1 : b1.toNat < 256 := b1.toNat_lt
  have g2 : b2.toNat < 256 := b2.toNat_lt
  have g3 : b3.toNat < 256 := b3.toNat_lt
  clear hn
  have hqi : ((q : Int) == (s : Int)) = false := beq_eq_false_iff_ne.2 (by omega)
  have hqn : ((q : Int) != (s : Int)) = true := bne_iff_ne.2 (by omega)
  clear hq
  go_enter Try.func48, Try.ntmps48
  go_wp2
  go_quiet (fail)
  go_wp2
  clear hor hc0 hc1 hc2 hc3 g0 g1 g2 g3
  have hor := or4r d3 d2 d1 d0
  rw [hs] at hor
  have g0 : d0.toNat < 256 := d0.toNat_lt
  have g1 : d1.toNat < 256 := d1.toNat_lt
  have g2 : d2.toNat < 256 := d2.toNat_lt
  have g3 : d3.toNat < 256 := d3.toNat_lt
  clear hs
  go_quiet (fail)
  clear hd0 hd1 hd2 hd3 g0 g1 g2 g3 hor
  go_wp2_with (go_at_call 73; refine (hcrc _).mono ?_; rintro e w3 ⟨rfl, hg3⟩)
  go_ret3
  exact Opened.err rfl hg3

set_option maxHeartbeats 4000000 in
set_option maxRecDepth 100000 in
theorem open_ok (b o c n s : Nat) (b0 b1 b2 b3 d0 d1 d2 d3 : UInt8) (load : List UInt8) (len : Nat) (w : World) (hcap : len ≤ c)
    (hc0 : w.cell? ⟨b, o, none⟩ = some (.int .u8 (b0.toNat : Int))) (hc1 : w.cell? ⟨b, o + 1, none⟩ = some (.int .u8 (b1.toNat : Int))) (hc2 : w.cell? ⟨b, o + 2, none⟩ = some (.int .u8 (b2.toNat : Int))) (hc3 : w.cell? ⟨b, o + 3, none⟩ = some (.int .u8 (b3.toNat : Int)))
    (hd0 : w.cell? ⟨b, o + (4 + n), none⟩ = some (.int .u8 (d0.toNat : Int))) (hd1 : w.cell? ⟨b, o + (4 + n + 1), none⟩ = some (.int .u8 (d1.toNat : Int))) (hd2 : w.cell? ⟨b, o + (4 + n + 2), none⟩ = some (.int .u8 (d2.toNat : Int))) (hd3 : w.cell? ⟨b, o + (4 + n + 3), none⟩ = some (.int .u8 (d3.toNat : Int)))
    (hn : be4 b0 b1 b2 b3 = n) (hs : be4 d3 d2 d1 d0 = s) (h1 : len ≤ 100000000) (c1 : n ≤ 1048576) (c2 : n + 8 ≤ len) (hcrc : CrcOf s (4 + n) c (some ⟨b, o, none⟩) w)
    (hl : load.length = n) (hrl : Rd w w.heap.size (some ⟨b, o + 4, none⟩) (u8s load)) :
    Calls Try.prog 48 #[.slice (some ⟨b, o, none⟩) len c] w (Opened (load, n + 8, 0) w) := by
  have hor := or4 b0 b1 b2 b3
  rw [hn] at hor
  have g0 : b0.toNat < 256 := b0.toNat_lt
  have g1 : b1.toNat < 256 := b1.toNat_lt
  have g2 : b2.toNat < 256 := b2.toNat_lt
  have g3 : b3.toNat < 256 := b3.toNat_lt
  clear hn
  have HL := hide hl
  clear hl
  go_enter Try.func48, Try.ntmps48
  go_wp2
  go_quiet (fail)
  go_wp2
  clear hor hc0 hc1 hc2 hc3 g0 g1 g2 g3
  have hor := or4r d3 d2 d1 d0
  rw [hs] at hor
  have g0 : d0.toNat < 256 := d0.toNat_lt
  have g1 : d1.toNat < 256 := d1.toNat_lt
  have g2 : d2.toNat < 256 := d2.toNat_lt
  have g3 : d3.toNat < 256 := d3.toNat_lt
  clear hs
  go_quiet (fail)
  clear hd0 hd1 hd2 hd3 g0 g1 g2 g3 hor
  go_wp2_with (first
    | (go_at_call 73; refine (hcrc _).mono ?_; rintro e w3 ⟨rfl, hg3⟩; have hs3 := hg3.size; have hr3 := (hrl.grown hg3 (Nat.le_refl _) (by simp)).more hg3.size)
    | (go_at_call 74; refine (grown_as HL.out hr3 (by omega)).mono ?_; rintro e w4 ⟨v4, rfl, hown4, hg4⟩))
  go_ret3
  have e8 : ((n + 8 : Nat) : Int) = 4 + (n : Int) + 4 := by omega
  exact ⟨v4, by rw [e8]; rfl, own_base (own_as hown4 HL.out.symm rfl) (by omega), gb_trans hg3 hg4 (.inl rfl)⟩

set_option maxHeartbeats 1000000 in
/-- octet.Open. -/
theorem open_any (A : Option Addr) (c : Nat) (bs : List UInt8) (w : World) (hr : Rd w w.heap.size A (u8s bs)) (hc : bs.length ≤ c) (hm : c ≤ maxLen) (h1 : bs.length ≤ 100000000) :
    Calls Try.prog 48 #[.slice A bs.length c] w (Opened (opn bs) w) := by
  rcases Nat.lt_or_ge bs.length 4 with h2 | h2
  · exact open_tiny A c bs w h2
  · obtain ⟨b, o, rfl, hbl, hcell⟩ := hr.lay8 (by omega)
    have k0 := hcell 0 (by omega)
    have k1 := hcell 1 (by omega)
    have k2 := hcell 2 (by omega)
    have k3 := hcell 3 (by omega)
    rw [Nat.add_zero] at k0
    have hN : be4 bs[0] bs[1] bs[2] bs[3] = headOf bs := by unfold headOf; simp [List.getD, show 0 < bs.length by omega, show 1 < bs.length by omega, show 2 < bs.length by omega, show 3 < bs.length by omega]
    generalize bs[0] = b0 at k0 hN
    generalize bs[1] = b1 at k1 hN
    generalize bs[2] = b2 at k2 hN
    generalize bs[3] = b3 at k3 hN
    have hop : opn bs = if 1048576 < headOf bs then ([], 0, 1) else if bs.length < headOf bs + 8 then ([], 0, 3) else if crc (bs.take (4 + headOf bs)) = sumAt bs (4 + headOf bs) then ((bs.drop 4).take (headOf bs), headOf bs + 8, 0) else ([], 0, 12) := by
      unfold opn; rw [if_neg (by omega)]
    generalize headOf bs = n at hN hop
    by_cases c1 : 1048576 < n
    · rw [hop, if_pos c1]
      exact open_long b o c n b0 b1 b2 b3 _ w h2 k0 k1 k2 k3 hN h1 c1
    · by_cases c2 : bs.length < n + 8
      · rw [hop, if_neg c1, if_pos c2]
        exact open_short b o c n b0 b1 b2 b3 _ w h2 k0 k1 k2 k3 hN h1 (by omega) c2
      · have hS : be4 bs[4 + n + 3] bs[4 + n + 2] bs[4 + n + 1] bs[4 + n] = sumAt bs (4 + n) := by
          unfold sumAt
          simp [List.getD, show 4 + n < bs.length by omega, show 4 + n + 1 < bs.length by omega, show 4 + n + 2 < bs.length by omega, show 4 + n + 3 < bs.length by omega]
        have m0 := hcell (4 + n) (by omega)
        have m1 := hcell (4 + n + 1) (by omega)
        have m2 := hcell (4 + n + 2) (by omega)
        have m3 := hcell (4 + n + 3) (by omega)
        generalize bs[4 + n] = d0 at m0 hS
        generalize bs[4 + n + 1] = d1 at m1 hS
        generalize bs[4 + n + 2] = d2 at m2 hS
        generalize bs[4 + n + 3] = d3 at m3 hS
        have hrt := hr.take (4 + n)
        rw [u8s_take] at hrt
        have hlt : (bs.take (4 + n)).length = 4 + n := by rw [List.length_take]; omega
        have hq : CrcOf (crc (bs.take (4 + n))) (4 + n) c (some ⟨b, o, none⟩) w := fun k => (crc_one (hrt.drewN k) hlt (by omega) hm (by omega)).mono fun e w' ⟨he, hg⟩ => ⟨he, hg.os, hg.tape, hg.output, hg.size, hg.block⟩
        generalize crc (bs.take (4 + n)) = q at hq hop
        by_cases c3 : q = sumAt bs (4 + n)
        · rw [hop, if_neg c1, if_neg c2, if_pos c3]
          rw [c3] at hq
          have hrl : Rd w w.heap.size (some ⟨b, o + 4, none⟩) (u8s ((bs.drop 4).take n)) := by
            have h4 := hr.cut (k := 4) (cap := c) (by rw [u8s_length]; omega) (by rw [u8s_length]; exact hc)
            rw [if_neg (by omega)] at h4
            have h5 := h4.take n
            rw [u8s_drop, u8s_take] at h5
            simpa [Addr.add_lit] using h5
          exact open_ok b o c n _ b0 b1 b2 b3 d0 d1 d2 d3 _ _ w hc k0 k1 k2 k3 m0 m1 m2 m3 hN hS h1 (by omega) (by omega) hq (by rw [List.length_take, List.length_drop]; omega) hrl
        · rw [hop, if_neg c1, if_neg c2, if_neg c3]
          exact open_sum b o c n q _ b0 b1 b2 b3 d0 d1 d2 d3 _ w hc k0 k1 k2 k3 m0 m1 m2 m3 hN hS h1 (by omega) (by omega) hq c3

end Go.Proofs.Ytgilkaaholkgfaa
