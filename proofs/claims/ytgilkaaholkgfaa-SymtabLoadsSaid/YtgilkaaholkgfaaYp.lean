/-
  The document's table in memory; its New, Symbol, Number, frame, Bytes.
-/
import Derived.Test.YtgilkaaholkgfaaYi
import Derived.Test.YtgilkaaholkgfaaRRdr4
import Derived.Lib.IndexLaws
namespace Go.Proofs.Ytgilkaaholkgfaa
open Go.RowKit

/-- The document's table of the symbols L lies in block g. -/
def RTabB (w : World) (base g : Nat) (v : Value) (L : List ByteArray) : Prop :=
  w.heap[g]? = some (.cells #[v] 77 (0, 0)) ∧ w.ownsRow base 9 1 v L.length (strs L) ∧ base ≤ g
def RTab (w : World) (base g : Nat) (L : List ByteArray) : Prop := ∃ v, RTabB w base g v L
theorem RTabB.grown {w w' : World} {base g : Nat} {v : Value} {L : List ByteArray} (h : RTabB w base g v L) (hg : w.grownBy w' none) : RTabB w' base g v L := ⟨blk_keep h.1 hg (by simp), own_grown h.2.1 hg, h.2.2⟩
theorem RTab.grown {w w' : World} {base g : Nat} {L : List ByteArray} (h : RTab w base g L) (hg : w.grownBy w' none) : RTab w' base g L := by
  obtain ⟨v, h⟩ := h
  exact ⟨v, h.grown hg⟩
theorem RTab.more {w : World} {base base' g : Nat} {L : List ByteArray} (h : RTab w base g L) (hb : base' ≤ base) : RTab w base' g L := by
  obtain ⟨v, h⟩ := h
  exact ⟨v, h.1, own_base h.2.1 hb, by have := h.2.2; omega⟩
theorem RTab.open_ {w : World} {base g : Nat} {L : List ByteArray} (h : RTab w base g L) :
    ∃ A c, w.cell? ⟨g, 0, none⟩ = some (.slice A L.length c) ∧ L.length ≤ c ∧ c ≤ maxLen ∧ Rd w w.heap.size A (strs L) ∧ RTabB w base g (.slice A L.length c) L := by
  obtain ⟨v, hb⟩ := h
  obtain ⟨A, c, rfl, hn, hc, hr⟩ := own_form hb.2.1
  exact ⟨A, c, by rw [blk_cell hb.1]; rfl, hn, hc, hr, hb⟩
theorem RTab.drewN {w : World} {base g : Nat} {L : List ByteArray} (h : RTab w base g L) (n : Nat) : RTab (w.drewN n) base g L := h
theorem RTab.drew {w : World} {base g : Nat} {L : List ByteArray} (h : RTab w base g L) : RTab w.drew base g L := h

set_option maxHeartbeats 1000000 in
set_option maxRecDepth 100000 in
theorem new_rtab (w : World) : Calls Try.prog 29 #[] w fun e w' => ∃ g, e = .returned (.pointer (some ⟨g, 0, none⟩)) ∧ RTab w' w.heap.size g [⟨#[]⟩] ∧ w.grownBy w' none := by
  have HO := hide (own_lit w ⟨#[]⟩)
  go_enter Try.func29, Try.ntmps29
  go_wp2_with fail
  go_ret
  have e : (w.alloc (.cells #[.string ⟨#[]⟩] 9)).heap.size = w.heap.size + 1 := by simp
  refine ⟨w.heap.size + 1, rfl, ⟨_, ?_, HO.out.alloc _, by omega⟩, gb_alloc (gb_alloc (gb_refl w none) _) _⟩
  rw [← e]
  exact heap_alloc_new _ _

/-! ## Symbol -/

def zB (s : ByteArray) : Bool := decide (0 ≤ Lib.indexByte s.data.toList 0)
theorem zB_yes {s : ByteArray} {k : Nat} (h : k < s.size) (h0 : s[k] = 0) : zB s = true := by
  unfold zB
  refine decide_eq_true ?_
  have hge := Lib.indexByte_ge s.data.toList 0
  rcases Int.lt_or_le (Lib.indexByte s.data.toList 0) 0 with hlt | hle
  · have := Lib.indexByte_none (show Lib.indexByte s.data.toList 0 = -1 by omega) k
    exact absurd (by rw [← h0]; simp [ByteArray.getElem_eq_getElem_data]) this
  · exact hle
theorem zB_no {s : ByteArray} (h : ∀ k (hk : k < s.size), s[k] ≠ 0) : zB s = false := by
  unfold zB
  refine decide_eq_false fun hle => ?_
  obtain ⟨o, ho⟩ := Int.eq_ofNat_of_zero_le hle
  have h1 := (Lib.indexByte_some ho).1
  obtain ⟨hlt, he⟩ := List.getElem?_eq_some_iff.1 h1
  have hlt' : o < s.size := by simpa using hlt
  exact h o hlt' (by rw [← he]; simp [ByteArray.getElem_eq_getElem_data])
theorem unf_eq (s : ByteArray) : unf s = (decide (64 < (s.size : Int)) || zB s) := rfl

set_option maxHeartbeats 1000000 in
set_option maxRecDepth 100000 in
theorem rsymbol_any (s : ByteArray) (w : World) (hs : s.size ≤ 1000000000) : Calls Try.prog 33 #[.string s] w fun e w' => e = .returned (.bool (!unf s)) ∧ w = w' := by
  go_enter Try.func33, Try.ntmps33
  go_wp2_with fail
  go_loop [3] (fun i => ∃ k : Nat, k ≤ s.size ∧ i = .int .i64 (k : Int) ∧ Hid (∀ j (hj : j < s.size), j < k → s[j] ≠ 0)) (fun i => s.size - (intOf i).toNat)
  case atStart => exact ⟨0, Nat.zero_le _, rfl, hide (fun j _ h => absurd h (Nat.not_lt_zero _))⟩
  case round =>
    obtain ⟨k, hk, rfl, HZ⟩ := hrel
    by_cases hlt : k < s.size
    · have hlt1 : (k : Int) < (s.size : Int) := by omega
      by_cases hz : s[k] = 0
      · have HE := hide (zB_yes hlt hz)
        have hb1 : (((s[k]).toNat : Int) == 0) = true := by rw [hz]; rfl
        clear hz
        go_wp2_with fail
        go_ret
        exact ⟨by rw [unf_eq, HE.out, Bool.or_true]; rfl, rfl⟩
      · have hb1 : (((s[k]).toNat : Int) == 0) = false := beq_eq_false_iff_ne.2 (fun h => hz (by
          apply UInt8.toNat_inj.1
          simpa using h))
        have HK := hide hz
        clear hz
        go_wp2_with fail
        go_round
        case rel =>
          refine ⟨k + 1, by omega, by go_num, hide (fun j hj hjk => ?_)⟩
          rcases Nat.lt_or_ge j k with h | h
          · exact HZ.out j hj h
          · have : j = k := by omega
            subst this
            exact HK.out
        case measure => simp [intOf]; omega
    · obtain rfl : k = s.size := by omega
      have hlt1 : ¬ (s.size : Int) < (s.size : Int) := by omega
      have HE := hide (zB_no (s := s) (fun j hj => HZ.out j hj hj))
      go_wp2_with fail
      go_ret
      refine ⟨?_, rfl⟩
      rw [unf_eq, HE.out, Bool.or_false]
      exact ret_b (by rw [← decide_not]; exact decide_eq_decide.2 (by omega))

/-! ## Number -/

theorem enumF_first (s : ByteArray) : ∀ (L : List ByteArray) (k n : Nat), aget (enumF k L) s = some n → ∀ j, j < n - k → L[j]? ≠ some s
  | [], _, _, h => by cases h
  | x :: r, k, n, h => by
    by_cases hx : x = s
    · simp only [enumF, aget, if_pos hx] at h
      injection h with h
      intro j hj
      omega
    · simp only [enumF, aget, if_neg hx] at h
      have h1 := enumF_first s r (k + 1) n h
      intro j hj
      cases j with
      | zero => simpa using hx
      | succ j =>
        rw [List.getElem?_cons_succ]
        exact h1 j (by omega)
theorem numOf_first {L : List ByteArray} {s : ByteArray} {k : Nat} (h : s ∉ L.take k) (hk : L[k]? = some s) : numOf L s = some k := by
  obtain ⟨n, hn⟩ := enumF_mem s L 0 (List.mem_of_getElem? hk)
  have hn' : numOf L s = some n := hn
  rw [hn']
  rcases Nat.lt_trichotomy n k with h1 | h1 | h1
  · have h2 := numOf_some hn'
    exact absurd (List.mem_of_getElem? (show (L.take k)[n]? = some s by rw [List.getElem?_take, if_pos h1]; exact h2)) h
  · rw [h1]
  · exact absurd hk (enumF_first s L 0 n hn k (by omega))
def numI (L : List ByteArray) (s : ByteArray) : Int := match numOf L s with
  | some n => (n : Int)
  | none => -1
theorem numI_some {L : List ByteArray} {s : ByteArray} {n : Nat} (h : numOf L s = some n) : numI L s = (n : Int) := by unfold numI; rw [h]
theorem numI_none {L : List ByteArray} {s : ByteArray} (h : numOf L s = none) : numI L s = -1 := by unfold numI; rw [h]

set_option maxHeartbeats 1000000 in
set_option maxRecDepth 100000 in
theorem rnumber_any (base g : Nat) (L : List ByteArray) (s : ByteArray) (w : World) (h : RTab w base g L) (hL : L.length ≤ 1000000) :
    Calls Try.prog 34 #[.pointer (some ⟨g, 0, none⟩), .string s] w fun e w' => e = .returned (.int .i64 (numI L s)) ∧ w = w' := by
  obtain ⟨A, c, h0, hnc, hcm, hrd, hB⟩ := h.open_
  have HR := hide hrd
  clear hB hrd h
  go_enter Try.func34, Try.ntmps34
  go_wp2_with fail
  go_loop [5] (fun i => ∃ k : Nat, k ≤ L.length ∧ i = .int .i64 (k : Int) ∧ Hid (s ∉ L.take k)) (fun i => L.length - (intOf i).toNat)
  case atStart => exact ⟨0, Nat.zero_le _, rfl, hide (by simp)⟩
  case round =>
    obtain ⟨k, hk, rfl, HE⟩ := hrel
    by_cases hlt : k < L.length
    · have hlt1 : (k : Int) < (L.length : Int) := by omega
      obtain ⟨ad, rfl, _, hcell⟩ := HR.out.str hlt
      obtain ⟨y, hy⟩ : ∃ y, y = L[k] := ⟨_, rfl⟩
      rw [← hy] at hcell
      have HY : Hid (L[k]? = some y) := hide (by rw [hy]; exact List.getElem?_eq_getElem hlt)
      have HTK : Hid (L.take (k + 1) = L.take k ++ [y]) := hide (by rw [hy]; exact List.take_succ_eq_append_getElem hlt)
      clear hy
      by_cases hx : y = s
      · subst hx
        have HN := hide (numI_some (numOf_first HE.out HY.out))
        go_wp2_with fail
        go_ret
        exact ⟨by rw [HN.out]; rfl, rfl⟩
      · have e1 : (y.toList == s.toList) = false := by
          rw [beq_eq_false_iff_ne]
          intro h
          exact hx (by
            rw [ByteArray.toList_eq, ByteArray.toList_eq] at h
            exact ByteArray.ext (Array.toList_inj.1 h))
        have HX := hide hx
        clear hx
        go_wp2_with fail
        go_round
        case rel => exact ⟨k + 1, by omega, by go_num, hide (by rw [HTK.out, List.mem_append, List.mem_singleton]; exact fun h => h.elim HE.out (fun e => HX.out e.symm))⟩
        case measure => simp [intOf]; omega
    · obtain rfl : k = L.length := by omega
      have hlt1 : ¬ (L.length : Int) < (L.length : Int) := by omega
      have HN := hide (numI_none (numOf_no (L := L) (s := s) (by have := HE.out; rwa [List.take_length] at this)))
      go_wp2_with fail
      go_ret
      exact ⟨by rw [HN.out]; rfl, rfl⟩

/-! ## frame, Bytes -/

set_option maxHeartbeats 1000000 in
set_option maxRecDepth 100000 in
theorem rframe_any (s : ByteArray) (w : World) (hs : s.size ≤ 64) : Calls Try.prog 55 #[.string s] w fun e w' =>
    ∃ A c, e = .returned (.slice A (frame (putStr s)).length c) ∧ Rd w' w'.heap.size A (u8s (frame (putStr s))) ∧ w.grownBy w' none := by
  have HP := hide (refPutText_any (.slice none 0 0) 0 s [] w w.heap.size (Nat.le_refl _) (World.ownsRow_nil _ _ _ _) (by omega) (by omega))
  have hpl := putStr_short hs
  go_enter Try.func55, Try.ntmps55
  go_wp2_with (first
    | (go_at_call 85; refine HP.out.mono ?_; rintro e w1 ⟨v1, rfl, ho1, hg1, _⟩; rw [Nat.zero_add, List.nil_append] at ho1; have hg1' : w.grownBy w1 none := hg1; obtain ⟨A1, c1, hv1, _, _, hr1⟩ := own_form ho1; subst hv1; have HR1 := hide hr1; have HG1 := hide hg1'; clear ho1 hg1 hg1' hr1)
    | (go_at_call 84; refine (refSeal_ok A1 c1 (putStr s) w1 HR1.out (by omega)).mono ?_; rintro e w2 ⟨v2, rfl, ho2, hg2⟩; obtain ⟨A2, c2, hv2, _, _, hr2⟩ := own_form ho2; subst hv2; have HR2 := hide hr2; have HG2 := hide hg2; clear ho2 hg2 hr2))
  go_ret
  exact ⟨A2, c2, rfl, HR2.out, gb_trans HG1.out HG2.out (.inl rfl)⟩

set_option maxHeartbeats 4000000 in
set_option maxRecDepth 100000 in
theorem rbytes_any (base g : Nat) (L : List ByteArray) (w : World) (h : RTab w base g L) (h1 : 1 ≤ L.length) (hL : L.length ≤ 70000) (hs : ∀ s ∈ L, s.size ≤ 64) :
    Calls Try.prog 36 #[.pointer (some ⟨g, 0, none⟩)] w (NewBytes w.heap.size (syB (L.drop 1)) w) := by
  have H := hide h
  have hlen : (L.drop 1).length = L.length - 1 := List.length_drop
  obtain ⟨M, hM⟩ : ∃ M, M = L.drop 1 := ⟨_, rfl⟩
  rw [← hM] at hlen
  have HM := hide hM
  have HS : Hid (∀ s ∈ M, s.size ≤ 64) := hide (fun s h => hs s (by rw [hM] at h; exact List.mem_of_mem_drop h))
  have HE : Hid (∀ j (h : j < M.length) (h' : j + 1 < L.length), L[j + 1] = M[j]) := hide (fun j h h' => by
    have : L[j + 1]? = M[j]? := by rw [hM, List.getElem?_drop, Nat.add_comm]
    rw [List.getElem?_eq_getElem h', List.getElem?_eq_getElem h] at this
    injection this)
  rw [← hM]
  clear hM hs h
  go_enter Try.func36, Try.ntmps36
  go_wp2_with fail
  go_loopw [3, 4] (fun b i wr => ∃ j : Nat, j ≤ M.length ∧ i = .int .i64 ((j : Int) + 1) ∧ wr.ownsRow w.heap.size 5 1 b (syB (M.take j)).length (u8s (syB (M.take j))) ∧ w.grownBy wr none) (fun _ i _ => M.length + 1 - (intOf i).toNat)
  case atStart => exact ⟨0, Nat.zero_le _, rfl, World.ownsRow_nil _ _ _ _, gb_refl w none⟩
  case round =>
    obtain ⟨j, hj, rfl, ho, hg⟩ := hrel
    have HO := hide ho
    have HG := hide hg
    have hgs := hg.size
    obtain ⟨A, c, h0, hnc, hcm, hrd, _⟩ := (H.out.grown hg).open_
    by_cases hlt : j < M.length
    · have hlt1 : (j : Int) + 1 < (L.length : Int) := by omega
      have hlt2 : j + 1 < L.length := by omega
      obtain ⟨b0, o0, rfl, _, hlay⟩ := hrd.lay (by intro e2; have := congrArg List.length e2; rw [strs_length] at this; simp at this; rw [this] at hlt2; simp at hlt2)
      have hcell : wr.cell? ⟨b0, o0 + (j + 1), none⟩ = some (.string M[j]) := hlay (j + 1) _ (by rw [← HE.out j hlt hlt2]; simp [strs, hlt2])
      have HSZ := hide (HS.out _ (List.getElem_mem hlt))
      have HT := hide (syB_take M j hlt)
      have hsl := syB_length (M.take j) (fun s h => HS.out s (List.mem_of_mem_take h))
      have hsl2 : (M.take j).length ≤ 70000 := by rw [List.length_take]; omega
      have hfl := frame_short HSZ.out
      obtain ⟨sj, hsj⟩ : ∃ sj, sj = M[j] := ⟨_, rfl⟩
      rw [← hsj] at hcell HSZ HT hfl
      clear hsj ho hg hrd hlay
      generalize syB (M.take j) = X at *
      go_wp2_with (first
        | (go_at_call 55; refine (rframe_any sj wr HSZ.out).mono ?_; rintro e w1 ⟨A1, c1, rfl, hr1, hg1⟩; have HR1 := hide hr1; have HG1 := hide hg1; have HO1 := hide (own_grown HO.out hg1); have hs1 := hg1.size; clear hr1 hg1)
        | (at_builtin; refine app8 HO1.out HR1.out (u8s_length _) (u8s_cell _) (by omega) (by omega) rfl rfl rfl rfl ?_; intro v3 w3 ho3 hg3 hw3; have HO3 := hide ho3; have HG3 := hide hg3; clear ho3 hg3 hw3))
      go_roundw
      case rel =>
        refine ⟨j + 1, by omega, by go_num, ?_, gb_new (gb_trans HG.out HG1.out (.inl rfl)) HO1.out HG3.out⟩
        rw [HT.out, List.length_append, u8s_append]
        exact HO3.out
      case measure => simp [intOf]; omega
    · obtain rfl : j = M.length := by omega
      have hlt1 : ¬ (M.length : Int) + 1 < (L.length : Int) := by omega
      have HTK := hide (show M.take M.length = M from List.take_length)
      clear ho hg hrd
      go_wp2_with fail
      go_ret
      exact ⟨_, rfl, by have := HO.out; rwa [HTK.out] at this, HG.out⟩
end Go.Proofs.Ytgilkaaholkgfaa
