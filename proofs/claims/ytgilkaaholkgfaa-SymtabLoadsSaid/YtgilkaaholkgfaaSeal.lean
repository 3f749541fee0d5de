/-
  The contracts of octet.Seal and quiverref01.Seal.
-/
import Derived.Test.YtgilkaaholkgfaaCrcW2
import Derived.Test.YtgilkaaholkgfaaFrm
namespace Go.Proofs.Ytgilkaaholkgfaa
open Go.RowKit

/-- One list of bytes as a list of such lists, laid in a new block. -/
theorem RdB.one {w : World} {A : Option Addr} {c : Nat} {bs : List UInt8} (t : TypeId) (hr : Rd w w.heap.size A (u8s bs)) (hc : bs.length ≤ c) (hm : c ≤ maxLen) :
    RdB (w.alloc (.cells #[.slice A bs.length c] t)) (w.alloc (.cells #[.slice A bs.length c] t)).heap.size (some ⟨w.heap.size, 0, none⟩) [(A, c, bs)] := by
  refine ⟨?_, fun x hx => ?_⟩
  · have := Rd.new w #[.slice A bs.length c] t (sls [(A, c, bs)]) rfl
    simpa using this
  · obtain rfl := List.mem_singleton.1 hx
    exact ⟨(hr.alloc (Nat.le_refl _) _).more (by simp), hc, hm⟩

theorem catB_one (A : Option Addr) (c : Nat) (bs : List UInt8) : catB [(A, c, bs)] = bs := by simp [catB]
/-- Crc of one list of bytes, as it is laid for the call. -/
theorem crc_one {w : World} {A : Option Addr} {c n : Nat} {bs : List UInt8} (hr : Rd w w.heap.size A (u8s bs)) (hn : bs.length = n) (hc : n ≤ c) (hm : c ≤ maxLen) (h : n ≤ 100000000) :
    Calls Try.prog 73 #[.slice (some ⟨w.heap.size, 0, none⟩) 1 1] (w.alloc (.cells #[.slice A n c] 22)) fun e w' => e = .returned (.int .u32 (crc bs : Int)) ∧ w.grownBy w' none := by
  subst hn
  have := crc_any _ 1 [(A, c, bs)] _ (RdB.one 22 hr hc hm) (by simp) (by rw [catB_one]; exact h)
  rw [catB_one] at this
  exact this.mono fun e w' ⟨he, hg⟩ => ⟨he, gb_trans (gb_alloc (gb_refl _ _) _) hg (.inl rfl)⟩
theorem cell4 (k : IntKind) (a b c d : Int) : ∀ u ∈ [Value.int k a, .int k b, .int k c, .int k d], u.oneCell' = true := by
  intro u hu
  simp only [List.mem_cons, List.not_mem_nil, or_false] at hu
  rcases hu with rfl | rfl | rfl | rfl <;> rfl
theorem hd_cells (z : Nat) (h : z ≤ 1048576) : [Value.int .u8 ((z : Int) / 16777216), .int .u8 ((z : Int) / 65536), .int .u8 ((z : Int) / 256 % 256), .int .u8 ((z : Int) % 256)] = u8s (hd z) := by
  unfold hd u8s
  simp only [List.map_cons, List.map_nil, UInt8.toNat_ofNat', List.cons.injEq, Value.int.injEq, true_and, and_true]
  omega
theorem tl_cells (z : Nat) : [Value.int .u8 ((z : Int) % 256), .int .u8 ((z : Int) / 256 % 256), .int .u8 ((z : Int) / 65536 % 256), .int .u8 ((z : Int) / 16777216 % 256)] = u8s (tl z) := by
  unfold tl u8s
  simp only [List.map_cons, List.map_nil, UInt8.toNat_ofNat', List.cons.injEq, Value.int.injEq, true_and, and_true]
  omega
theorem own_grown {w w' : World} {base n : Nat} {t : TypeId} {v : Value} {xs : List Value} (h : w.ownsRow base t 1 v n xs) (hg : w.grownBy w' none) : w'.ownsRow base t 1 v n xs :=
  h.kept hg (by cases v.ownBlock <;> simp)
theorem own_as {w : World} {base n m : Nat} {t : TypeId} {v : Value} {xs ys : List Value} (h : w.ownsRow base t 1 v n xs) (hn : n = m) (hx : xs = ys) : w.ownsRow base t 1 v m ys := by
  subst hn; subst hx; exact h

set_option maxHeartbeats 1000000 in
set_option maxRecDepth 100000 in
theorem seal_long (AL : Option Addr) (cl : Nat) (l : List (Option Addr × Nat × List UInt8)) (w : World) (hl : RdB w w.heap.size AL l) (h1 : l.length ≤ 1000000) (h2 : (catB l).length ≤ 100000000) (h3 : 1048576 < (catB l).length) :
    Calls Try.prog 59 #[.slice AL l.length cl] w fun e w' => e = .returned (.tuple #[.slice none 0 0, .int .i64 1]) ∧ w = w' := by
  go_enter Try.func59, Try.ntmps59
  go_wp2
  go_loop [4, 13] (fun s i => ∃ k : Nat, k ≤ l.length ∧ i = .int .i64 k ∧ (catB (l.take k)).length ≤ 1048576 ∧ s = .int .i64 ((catB (l.take k)).length : Int)) (fun _ i => l.length - (intOf i).toNat)
  case atStart => exact ⟨0, by omega, rfl, by simp [catB], rfl⟩
  case round =>
    obtain ⟨k, hk, rfl, hz, rfl⟩ := hrel
    have hle := catB_take_le l k
    by_cases hlt : k < l.length
    · obtain ⟨ad, rfl, _, hc, _⟩ := hl.at_ hlt
      have hel := catB_elem l k hlt
      have e1 := hide (catB_take l k hlt)
      by_cases hbig : 1048576 < (catB (l.take k)).length + l[k].2.2.length
      · go_wp2
        go_ret2
        exact ⟨rfl, rfl⟩
      · go_wp2
        go_round
        case rel => exact ⟨k + 1, by omega, by go_num, by rw [e1.out, List.length_append]; omega, by rw [e1.out, List.length_append]; go_num⟩
        case measure => simp [intOf]; omega
    · exfalso
      rw [List.take_of_length_le (by omega)] at hz
      omega

/-- What a call that makes bytes, and an error beside them, leaves. -/
def NewBytesErr (bs : List UInt8) (x : Int) (w : World) (e : Ending) (w' : World) : Prop :=
  ∃ v, e = .returned (.tuple #[v, .int .i64 x]) ∧ w'.ownsRow w.heap.size 5 1 v bs.length (u8s bs) ∧ w.grownBy w' none

set_option maxHeartbeats 2000000 in
set_option maxRecDepth 100000 in
theorem seal_ok (AL : Option Addr) (cl : Nat) (l : List (Option Addr × Nat × List UInt8)) (w : World) (hl : RdB w w.heap.size AL l) (h1 : l.length ≤ 1000000) (h3 : (catB l).length ≤ 1048576) :
    Calls Try.prog 59 #[.slice AL l.length cl] w (NewBytesErr (frame (catB l)) 0 w) := by
  go_enter Try.func59, Try.ntmps59
  go_wp2
  go_loop [4, 13] (fun s i => ∃ k : Nat, k ≤ l.length ∧ i = .int .i64 k ∧ s = .int .i64 ((catB (l.take k)).length : Int)) (fun _ i => l.length - (intOf i).toNat)
  case atStart => exact ⟨0, by omega, rfl, rfl⟩
  case round =>
    obtain ⟨k, hk, rfl, rfl⟩ := hrel
    have hle := catB_take_le l k
    by_cases hlt : k < l.length
    · obtain ⟨ad, rfl, _, hc, _⟩ := hl.at_ hlt
      have hel := catB_elem l k hlt
      have e1 := hide (catB_take l k hlt)
      go_wp2
      go_round
      case rel => exact ⟨k + 1, by omega, by go_num, by rw [e1.out, List.length_append]; go_num⟩
      case measure => simp [intOf]; omega
    · have e0 : catB (l.take k) = catB l := by rw [List.take_of_length_le (by omega)]
      rw [e0]
      generalize hz : (catB l).length = z at *
      have HZ := hide hz
      clear hz hle e0
      go_wp2_with (first
        | (at_make; refine make8 w.heap.size (z + 8) (by omega) (by omega) (Nat.le_refl _) rfl rfl rfl rfl ?_; intro w1 hown hg; have hgs := hg.size)
        | (at_builtin; refine app8 (m := 4) (hown.alloc _) (Rd.new _ _ _ _ rfl) rfl (cell4 _ _ _ _ _) (by omega) (by simp; omega) rfl rfl rfl rfl ?_; intro v2 w2 hown2 hg2 hwhere2))
      have hown3 := own_as (m := 4 + (catB (l.take 0)).length) (ys := u8s (hd z ++ catB (l.take 0))) hown2 (by simp [catB]) (by simpa [catB] using hd_cells z h3)
      have hg3 : w.grownBy w2 none := gb_trans (gb_alloc hg _) hg2 (.inr (.inr ⟨_, rfl, Nat.le_refl _⟩))
      clear hown2 hg2 hwhere2 hown hg hgs hlt hk
      go_loopw [7, 44] (fun b i wr => ∃ k : Nat, k ≤ l.length ∧ i = .int .i64 k ∧ wr.ownsRow w.heap.size 5 1 b (4 + (catB (l.take k)).length) (u8s (hd z ++ catB (l.take k))) ∧ w.grownBy wr none) (fun _ i _ => l.length - (intOf i).toNat)
      case atStart => exact ⟨0, by omega, rfl, hown3, hg3⟩
      case round =>
        obtain ⟨k, hk, rfl, hownr, hgr⟩ := hrel
        have hgs := hgr.size
        have hle := catB_take_le l k
        rw [HZ.out] at hle
        by_cases hlt : k < l.length
        · have hlr := hl.grown hgr (Nat.le_refl _) (by simp)
          obtain ⟨ad, rfl, _, hc, hrd, _⟩ := hlr.at_ hlt
          have hel := catB_elem l k hlt
          rw [HZ.out] at hel
          have e1 := hide (catB_take l k hlt)
          go_wp2_with (at_builtin; refine app8 hownr hrd (u8s_length _) (u8s_cell _) (by omega) (by omega) rfl rfl rfl rfl ?_; intro v4 w4 hown4 hg4 hwhere4)
          have hown5 := own_as (m := 4 + (catB (l.take (k + 1))).length) (ys := u8s (hd z ++ catB (l.take (k + 1)))) hown4 (by rw [e1.out, List.length_append]; omega) (by rw [e1.out, ← List.append_assoc]; exact (u8s_append _ _).symm)
          have hg5 := gb_trans hgr hg4 (by
            rcases hv : Value.ownBlock _ with _ | gg
            · exact .inr (.inl rfl)
            · exact .inr (.inr ⟨gg, rfl, (hownr.lt gg hv).1⟩))
          clear hown4 hg4 hwhere4
          go_roundw
          case rel => exact ⟨k + 1, by omega, by go_num, hown5, hg5⟩
          case measure => simp [intOf]; omega
        · have e0 : catB (l.take k) = catB l := by rw [List.take_of_length_le (by omega)]
          have hown5 := own_as (m := 4 + z) (ys := u8s (hd z ++ catB l)) hownr (by rw [e0, HZ.out]) (by rw [e0])
          obtain ⟨A5, c5, rfl, hnc5, hcm5, hrd5⟩ := own_form hown5
          have hlen5 : (hd z ++ catB l).length = 4 + z := by rw [List.length_append, HZ.out]; rfl
          have HL5 := hide hlen5
          clear hownr hlen5 e0 hle
          go_wp2_with (first
            | (go_at_call 73; refine (crc_one hrd5 HL5.out hnc5 hcm5 (by omega)).mono ?_; rintro e w6 ⟨rfl, hg6⟩; have hs6 := hg6.size; have hown6 := own_grown hown5 hg6)
            | (at_builtin; refine app8 (m := 4) (hown6.alloc _) (Rd.new _ _ _ _ rfl) rfl (cell4 _ _ _ _ _) (by omega) (by simp; omega) rfl rfl rfl rfl ?_; intro v7 w7 hown7 hg7 hwhere7))
          have hg8 := gb_new (gb_trans hgr hg6 (.inl rfl)) hown6 (gb_trans (gb_alloc (gb_refl w6 _) _) hg7 (.inl rfl))
          have e9 : frame (catB l) = hd z ++ catB l ++ tl (crc (hd z ++ catB l)) := by unfold frame; rw [HZ.out]
          have E9 := hide e9
          clear e9 hg7 hwhere7
          go_ret2
          exact ⟨v7, rfl, own_as hown7 (by rw [E9.out, List.length_append, HL5.out]; rfl) (by rw [tl_cells, E9.out]; exact (u8s_append _ _).symm), hg8⟩

/-- octet.Seal. -/
theorem seal_any (AL : Option Addr) (cl : Nat) (l : List (Option Addr × Nat × List UInt8)) (w : World) (hl : RdB w w.heap.size AL l) (h1 : l.length ≤ 1000000) (h2 : (catB l).length ≤ 100000000) :
    Calls Try.prog 59 #[.slice AL l.length cl] w (if (catB l).length ≤ 1048576 then NewBytesErr (frame (catB l)) 0 w else NewBytesErr [] 1 w) := by
  split
  · rename_i h; exact seal_ok AL cl l w hl h1 h
  · rename_i h
    exact (seal_long AL cl l w hl h1 h2 (by omega)).mono fun e w' ⟨he, hw⟩ => ⟨_, he, hw ▸ World.ownsRow_nil _ _ _ _, hw ▸ gb_refl _ _⟩

end Go.Proofs.Ytgilkaaholkgfaa
