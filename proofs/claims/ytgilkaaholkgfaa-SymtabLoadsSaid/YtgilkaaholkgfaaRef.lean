/-
  The contracts of the reference's calls on bytes: four, turned, Seal, Open, Frames, Same.
-/
import Derived.Test.YtgilkaaholkgfaaFrames
import Derived.Test.YtgilkaaholkgfaaReg
namespace Go.Proofs.Ytgilkaaholkgfaa
open Go.RowKit

theorem own_full (w : World) (t : TypeId) (cur : Array Value) (n : Nat) (hn : cur.size = n) (hm : n ≤ 1000000) : (w.alloc (.cells cur t)).ownsRow w.heap.size t 1 (.slice (some ⟨w.heap.size, 0, none⟩) n n) n cur.toList :=
  ⟨by simp [hn], .inr ⟨w.heap.size, n, cur, rfl, Nat.le_refl _, heap_alloc_new w _, Nat.le_refl _, by unfold maxLen; omega, by omega, by rw [Nat.mul_one, ← hn, ← Array.length_toList, List.take_length]⟩⟩

/-- New bytes of a known number at hand. -/
def New8 (n : Nat) (bs : List UInt8) (w : World) (e : Ending) (w' : World) : Prop :=
  ∃ A c, e = .returned (.slice A n c) ∧ w'.ownsRow w.heap.size 5 1 (.slice A n c) n (u8s bs) ∧ w.grownBy w' none

theorem hd_cells4 (z : Nat) (h : z < 4294967296) : [Value.int .u8 ((z : Int) / 16777216), .int .u8 ((z : Int) / 65536 % 256), .int .u8 ((z : Int) / 256 % 256), .int .u8 ((z : Int) % 256)] = u8s (hd z) := by
  unfold hd u8s
  simp only [List.map_cons, List.map_nil, UInt8.toNat_ofNat', List.cons.injEq, Value.int.injEq, true_and, and_true]
  omega
theorem tl_cells4 (z : Nat) (h : z < 4294967296) : [Value.int .u8 ((z : Int) % 256), .int .u8 ((z : Int) / 256 % 256), .int .u8 ((z : Int) / 65536 % 256), .int .u8 ((z : Int) / 16777216)] = u8s (tl z) := by
  unfold tl u8s
  simp only [List.map_cons, List.map_nil, UInt8.toNat_ofNat', List.cons.injEq, Value.int.injEq, true_and, and_true]
  omega

set_option maxRecDepth 100000 in
theorem four_any (n : Nat) (hn : n < 4294967296) (w : World) : Calls Try.prog 100 #[.int .u32 (n : Int)] w (New8 4 (hd n) w) := by
  have h2 : (n : Int) ≤ 4294967295 := by omega
  have E := hide (hd_cells4 n hn)
  clear hn
  go_enter Try.func100, Try.ntmps100
  go_wp2
  go_ret
  refine ⟨_, _, rfl, ?_, gb_alloc (gb_refl _ _) _⟩
  rw [← E.out]
  exact own_full _ _ _ 4 rfl (by decide)

set_option maxRecDepth 100000 in
theorem turned_any (n : Nat) (hn : n < 4294967296) (w : World) : Calls Try.prog 82 #[.int .u32 (n : Int)] w (New8 4 (tl n) w) := by
  have h2 : (n : Int) ≤ 4294967295 := by omega
  have E := hide (tl_cells4 n hn)
  clear hn
  go_enter Try.func82, Try.ntmps82
  go_wp2
  go_ret
  refine ⟨_, _, rfl, ?_, gb_alloc (gb_refl _ _) _⟩
  rw [← E.out]
  exact own_full _ _ _ 4 rfl (by decide)

theorem refCrc_as {A : Option Addr} {c n : Nat} {bs : List UInt8} {w : World} {B : Nat} (hn : bs.length = n) (hr : Rd w B A (u8s bs)) (h1 : n ≤ 100000000) :
    Calls Try.prog 83 #[.slice A n c] w fun e w' => e = .returned (.int .u32 (crc bs : Int)) ∧ w = w' := by
  subst hn
  exact refCrc_any A c bs w B hr h1

set_option maxHeartbeats 1000000 in
set_option maxRecDepth 100000 in
theorem refSeal_long (A : Option Addr) (c : Nat) (bs : List UInt8) (w : World) (h1 : 1048576 < bs.length) (h2 : bs.length ≤ 100000000) :
    Calls Try.prog 84 #[.slice A bs.length c] w (NewBytesErr [] 1 w) := by
  go_enter Try.func84, Try.ntmps84
  go_wp2
  go_ret2
  exact ⟨_, rfl, World.ownsRow_nil _ _ _ _, gb_refl _ _⟩

set_option maxHeartbeats 1000000 in
set_option maxRecDepth 100000 in
theorem refSeal_ok (A : Option Addr) (c : Nat) (bs : List UInt8) (w : World) (hr : Rd w w.heap.size A (u8s bs)) (h1 : bs.length ≤ 1048576) :
    Calls Try.prog 84 #[.slice A bs.length c] w (NewBytesErr (frame bs) 0 w) := by
  have HL := hide (show (hd bs.length ++ bs).length = 4 + bs.length by rw [List.length_append]; rfl)
  have HF := hide (show frame bs = hd bs.length ++ bs ++ tl (crc (hd bs.length ++ bs)) from rfl)
  have HQ := hide (crc_lt (hd bs.length ++ bs))
  go_enter Try.func84, Try.ntmps84
  go_wp2_with (first
    | (go_at_call 100; refine (four_any bs.length (by omega) _).mono ?_; rintro e w1 ⟨A1, c1, rfl, hown1, hg1⟩; have hr1 := hr.grown hg1 (Nat.le_refl _) (by simp); have hs1 := hg1.size)
    | (at_builtin; refine app8 hown1 hr1 (u8s_length bs) (u8s_cell bs) (by omega) (by omega) rfl rfl rfl rfl ?_; intro v2 w2 hown2a hg2 hwh2; have hown2 := own_as (m := 4 + bs.length) (ys := u8s (hd bs.length ++ bs)) hown2a rfl (u8s_append _ _).symm; have hg2n := gb_new hg1 hown1 hg2; have hs2 := hg2n.size; obtain ⟨A2, c2, rfl, hnc2, hcm2, hrd2⟩ := own_form hown2; clear hown2a hg2 hwh2)
    | (go_at_call 83; refine (refCrc_as HL.out hrd2 (by omega)).mono ?_; rintro e w3 ⟨rfl, rfl⟩)
    | (go_at_call 82; refine (turned_any _ HQ.out _).mono ?_; rintro e w4 ⟨A4, c4, rfl, hown4, hg4⟩; have hs4 := hg4.size; obtain ⟨A4', c4', hAc, _, _, hrd4⟩ := own_form hown4; injection hAc with hA4 _ hc4; subst hA4; subst hc4; have hown2' := own_grown hown2 hg4)
    | (at_builtin; refine app8 (m := 4) hown2' hrd4 rfl (u8s_cell _) (by omega) (by omega) rfl rfl rfl rfl ?_; intro v5 w5 hown5 hg5 hwh5))
  go_ret2
  exact ⟨v5, rfl, own_as hown5 (by rw [HF.out, List.length_append, HL.out]; rfl) (by rw [HF.out]; exact (u8s_append _ _).symm), gb_new (gb_trans hg2n hg4 (.inl rfl)) hown2' hg5⟩

end Go.Proofs.Ytgilkaaholkgfaa
