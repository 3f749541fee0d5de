/-
  The contracts of symtab's bytesFrom, Bytes, Number, Symbol, Len, All.
-/
import Derived.Test.YtgilkaaholkgfaaYe
namespace Go.Proofs.Ytgilkaaholkgfaa
open Go.RowKit

/-- Where 's[k:]' begins. -/
def cutA (A : Option Addr) (k c sz : Nat) : Option Addr := if c = k then A else A.map (·.add (k * sz))
theorem run_cut_from {P : Program} (w : World) {t e : TypeId} {i : TypeInfo} (A : Option Addr) (n c k sz : Nat) (ht : P.underlying t = some (.slice e)) (hi : P.info? e = some i) (hs : i.size = sz) (hk : k ≤ n) (_hn : n ≤ c) :
    (Instr.slice t (.slice A n c) (some (.int .i64 (k : Int))) none none).run P w = .ok (.slice (cutA A k c sz) (n - k) (c - k)) w := by
  subst hs
  simp [Instr.slice, Instr.sliceBounds, run_underlying ht, Instr.sliceBound, asIntOf, hk, sizeOf, typeInfo, hi, Result.andThen, cutA]
theorem Rd.cutS {w : World} {B k c : Nat} {A : Option Addr} {L : List ByteArray} (h : Rd w B A (strs L)) (hk : k ≤ L.length) (hc : L.length ≤ c) : Rd w B (cutA A k c 1) (strs (L.drop k)) := by
  have := h.cut (k := k) (cap := c) (by rw [strs_length]; exact hk) (by rw [strs_length]; exact hc)
  have e1 : (strs L).drop k = strs (L.drop k) := by simp [strs]
  rw [e1] at this
  have e : (fun x : Addr => x.add (k * 1)) = (fun x : Addr => x.add k) := by rw [Nat.mul_one]
  unfold cutA
  rw [e]
  exact this

theorem putText_one (s : ByteArray) (w : World) (hs : s.size ≤ 64) :
    Calls Try.prog 60 #[.slice none 0 0, .slice (some ⟨w.heap.size, 0, none⟩) 1 1] (w.alloc (.cells #[.string s] 9)) fun e w' =>
      ∃ A c, e = .returned (.slice A (putStr s).length c) ∧ (putStr s).length ≤ c ∧ c ≤ maxLen ∧ Rd w' w'.heap.size A (u8s (putStr s)) ∧ w.grownBy w' none := by
  have h := putText_any none (some ⟨w.heap.size, 0, none⟩) 0 1 [] [s] (w.alloc (.cells #[.string s] 9)) Rd.nil_ ((Rd.new w #[.string s] 9 (strs [s]) rfl).more (by simp)) (by simp) (by simp) (by simp [sumLen]; omega)
  refine h.mono fun e w' ⟨v, he, ho, hg⟩ => ?_
  rw [List.nil_append, putStrs_one] at ho
  obtain ⟨A, c, rfl, h1, h2, h3⟩ := own_form ho
  exact ⟨A, c, he, h1, h2, h3, gb_trans (gb_alloc (gb_refl w none) _) hg (.inl rfl)⟩
theorem seal_one {A : Option Addr} {c n : Nat} {bs : List UInt8} {w : World} (hr : Rd w w.heap.size A (u8s bs)) (hn : bs.length = n) (hc : n ≤ c) (hm : c ≤ maxLen) (h : n ≤ 1048576) :
    Calls Try.prog 59 #[.slice (some ⟨w.heap.size, 0, none⟩) 1 1] (w.alloc (.cells #[.slice A n c] 22)) fun e w' =>
      ∃ A' c', e = .returned (.tuple #[.slice A' (frame bs).length c', .int .i64 0]) ∧ (frame bs).length ≤ c' ∧ c' ≤ maxLen ∧ Rd w' w'.heap.size A' (u8s (frame bs)) ∧ w.grownBy w' none := by
  subst hn
  have h := seal_ok _ 1 [(A, c, bs)] _ (RdB.one 22 hr hc hm) (by simp) (by rw [catB_one]; exact h)
  rw [catB_one] at h
  refine h.mono fun e w' ⟨v, he, ho, hg⟩ => ?_
  obtain ⟨A', c', rfl, h1, h2, h3⟩ := own_form ho
  exact ⟨A', c', he, h1, h2, h3, gb_trans (gb_alloc (gb_refl w none) _) hg (.inl rfl)⟩

set_option maxHeartbeats 4000000 in
set_option maxRecDepth 100000 in
theorem bytesFrom_any (base g k : Nat) (f : List Nat) (L : List ByteArray) (w : World) (h : TabF w base f g L) (hk : k ≤ L.length) (hL : L.length ≤ 70000) (hs : ∀ s ∈ L, s.size ≤ 64) :
    Calls Try.prog 38 #[.pointer (some ⟨g, 0, none⟩), .int .i64 (k : Int)] w (NewBytes w.heap.size (syB (L.drop k)) w) := by
  obtain ⟨A, c, mb, h0, h1, hnc, hcm, hrd, hm, hB, hf⟩ := h.open_
  obtain ⟨i1, hi1, hiz, his, hib⟩ := info_parts Try.infoT
  have hcut := run_cut_from (P := Try.prog) w (t := 34) A L.length c k 1 Try.underlying34 hi1 his hk hnc
  have hrc := hrd.cutS hk hnc
  have hlen : (L.drop k).length = L.length - k := List.length_drop
  have HS : Hid (∀ s ∈ L.drop k, s.size ≤ 64) := hide (fun s h => hs s (List.mem_of_mem_drop h))
  generalize cutA A k c 1 = A' at hcut hrc
  generalize L.drop k = M at hrc hlen HS
  rw [← hlen] at hcut
  have HR := hide hrc
  have hML : M.length ≤ 70000 := by omega
  clear hf hB hm hi1 hiz his hib hs h hrc hlen hrd h1
  go_enter Try.func38, Try.ntmps38
  go_wp2_with fail
  go_loopw [5, 7, 8, 9, 17] (fun b _ _ _ i wr => ∃ j : Nat, j ≤ M.length ∧ i = .int .i64 (j : Int) ∧ wr.ownsRow w.heap.size 5 1 b (syB (M.take j)).length (u8s (syB (M.take j))) ∧ w.grownBy wr none) (fun _ _ _ _ i _ => M.length - (intOf i).toNat)
  case atStart => exact ⟨0, Nat.zero_le _, rfl, World.ownsRow_nil _ _ _ _, gb_refl w none⟩
  case round =>
    obtain ⟨j, hj, rfl, ho, hg⟩ := hrel
    have HO := hide ho
    have HG := hide hg
    have hgs := hg.size
    by_cases hlt : j < M.length
    · have hlt1 : (j : Int) < (M.length : Int) := by omega
      obtain ⟨ad, rfl, _, hcell⟩ := (HR.out.grown hg (Nat.le_refl _) (by simp)).str hlt
      have HSZ := hide (HS.out _ (List.getElem_mem hlt))
      have HT := hide (syB_take M j hlt)
      have hsl := syB_length (M.take j) (fun s h => HS.out s (List.mem_of_mem_take h))
      have hsl2 : (M.take j).length ≤ 70000 := by rw [List.length_take]; omega
      have hfl := frame_short HSZ.out
      have hpl := putStr_short HSZ.out
      obtain ⟨sj, hsj⟩ : ∃ sj, sj = M[j] := ⟨_, rfl⟩
      rw [← hsj] at hcell HSZ HT hfl hpl
      clear hsj ho hg
      generalize syB (M.take j) = X at *
      go_wp2_with (first
        | (go_at_call 60; refine (putText_one sj wr HSZ.out).mono ?_; rintro e w1 ⟨A1, c1, rfl, hn1, hm1, hr1, hg1⟩; have HR1 := hide hr1; have HG1 := hide hg1; have HM1 := hide hm1; clear hr1 hg1 hm1)
        | (go_at_call 59; refine (seal_one HR1.out rfl hn1 HM1.out (by omega)).mono ?_; rintro e w2 ⟨A2, c2, rfl, hn2, hm2, hr2, hg2⟩; have HR2 := hide hr2; have HG2 := hide hg2; have HM2 := hide hm2; have HO2 := hide (own_grown (own_grown HO.out HG1.out) hg2); have hs2 := hg2.size; have hs1 := HG1.out.size; clear hr2 hg2 hm2)
        | (at_builtin; refine app8 HO2.out HR2.out (u8s_length _) (u8s_cell _) (by omega) (by omega) rfl rfl rfl rfl ?_; intro v3 w3 ho3 hg3 hw3; have HO3 := hide ho3; have HG3 := hide hg3; clear ho3 hg3 hw3))
      go_roundw
      case rel =>
        refine ⟨j + 1, by omega, by go_num, ?_, gb_new (gb_trans HG.out (gb_trans HG1.out HG2.out (.inl rfl)) (.inl rfl)) HO2.out HG3.out⟩
        rw [HT.out, List.length_append, u8s_append]
        exact HO3.out
      case measure => simp [intOf]; omega
    · obtain rfl : j = M.length := by omega
      have hlt1 : ¬ (M.length : Int) < (M.length : Int) := by omega
      have HTK := hide (show M.take M.length = M from List.take_length)
      clear ho hg
      go_wp2_with fail
      go_ret
      exact ⟨_, rfl, by have := HO.out; rwa [HTK.out] at this, HG.out⟩

set_option maxHeartbeats 1000000 in
set_option maxRecDepth 100000 in
theorem bytes_any (base g : Nat) (f : List Nat) (L : List ByteArray) (w : World) (h : TabF w base f g L) (h1 : 1 ≤ L.length) (hL : L.length ≤ 70000) (hs : ∀ s ∈ L, s.size ≤ 64) :
    Calls Try.prog 14 #[.pointer (some ⟨g, 0, none⟩)] w (NewBytes w.heap.size (syB (L.drop 1)) w) := by
  have HC := hide (bytesFrom_any base g 1 f L w h h1 hL hs)
  clear h h1 hs
  go_enter Try.func14, Try.ntmps14
  go_wp2_with (go_at_call 38; refine HC.out.mono ?_; rintro e w1 ⟨v, rfl, ho, hg⟩; have HO := hide ho; have HG := hide hg; clear ho hg)
  go_ret
  exact ⟨v, rfl, HO.out, HG.out⟩

set_option maxHeartbeats 1000000 in
set_option maxRecDepth 100000 in
theorem number_any (base g : Nat) (f : List Nat) (L : List ByteArray) (s : ByteArray) (w : World) (h : TabF w base f g L) :
    Calls Try.prog 17 #[.pointer (some ⟨g, 0, none⟩), .string s] w fun e w' => e = .returned (.tuple #[.int .i64 (((numOf L s).getD 0 : Nat) : Int), .bool (numOf L s).isSome]) ∧ w = w' := by
  obtain ⟨A, c, mb, h0, h1, hnc, hcm, hrd, hm, hB, hf⟩ := h.open_
  cases hnum : numOf L s with
  | some m =>
    have HL : (Instr.lookup 79 (.map (some mb)) (.string s) true).run Try.prog w = .ok (.tuple #[.int .i64 (m : Int), .bool true]) w := hm.ok_yes (P := Try.prog) Try.dstr Try.underlying79 (zint w) (k := s) hnum
    clear hf hB hm hrd h hnum
    go_enter Try.func17, Try.ntmps17
    go_wp2_with fail
    go_ret2
    exact ⟨rfl, rfl⟩
  | none =>
    have HL : (Instr.lookup 79 (.map (some mb)) (.string s) true).run Try.prog w = .ok (.tuple #[.int .i64 0, .bool false]) w := hm.ok_no (P := Try.prog) Try.dstr Try.underlying79 (zint w) (k := s) hnum
    clear hf hB hm hrd h hnum
    go_enter Try.func17, Try.ntmps17
    go_wp2_with fail
    go_ret2
    exact ⟨rfl, rfl⟩

set_option maxHeartbeats 1000000 in
set_option maxRecDepth 100000 in
theorem symbol_ok (base g i : Nat) (f : List Nat) (L : List ByteArray) (w : World) (h : TabF w base f g L) (hi : i < L.length) :
    Calls Try.prog 16 #[.pointer (some ⟨g, 0, none⟩), .int .i64 (i : Int)] w fun e w' => e = .returned (.tuple #[.string L[i], .int .i64 0]) ∧ w = w' := by
  obtain ⟨A, c, mb, h0, h1, hnc, hcm, hrd, hm, hB, hf⟩ := h.open_
  obtain ⟨ad, rfl, _, hcell⟩ := hrd.str hi
  have hi1 : ¬ (i : Int) < 0 := by omega
  have hi2 : ¬ L.length ≤ i := by omega
  have hi3 : (i : Int) < (L.length : Int) := by omega
  clear hf hB hm hrd h h1
  go_enter Try.func16, Try.ntmps16
  go_wp2_with fail
  go_ret2
  exact ⟨rfl, rfl⟩

set_option maxHeartbeats 1000000 in
set_option maxRecDepth 100000 in
theorem symbol_bad (base g : Nat) (i : Int) (f : List Nat) (L : List ByteArray) (w : World) (h : TabF w base f g L) (hi : i < 0 ∨ (L.length : Int) ≤ i) :
    Calls Try.prog 16 #[.pointer (some ⟨g, 0, none⟩), .int .i64 i] w fun e w' => e = .returned (.tuple #[.string ⟨#[]⟩, .int .i64 50]) ∧ w = w' := by
  obtain ⟨A, c, mb, h0, h1, hnc, hcm, hrd, hm, hB, hf⟩ := h.open_
  clear hf hB hm hrd h h1
  rcases hi with hi | hi
  · go_enter Try.func16, Try.ntmps16
    go_wp2_with fail
    go_ret2
    exact ⟨rfl, rfl⟩
  · have hi1 : ¬ i < 0 := by omega
    go_enter Try.func16, Try.ntmps16
    go_wp2_with fail
    go_ret2
    exact ⟨rfl, rfl⟩

set_option maxHeartbeats 1000000 in
set_option maxRecDepth 100000 in
theorem len_any (base g : Nat) (f : List Nat) (L : List ByteArray) (w : World) (h : TabF w base f g L) :
    Calls Try.prog 15 #[.pointer (some ⟨g, 0, none⟩)] w fun e w' => e = .returned (.int .i64 (L.length : Int)) ∧ w = w' := by
  obtain ⟨A, c, mb, h0, h1, hnc, hcm, hrd, hm, hB, hf⟩ := h.open_
  clear hf hB hm hrd h h1
  go_enter Try.func15, Try.ntmps15
  go_wp2_with fail
  go_ret
  exact ⟨rfl, rfl⟩
end Go.Proofs.Ytgilkaaholkgfaa
