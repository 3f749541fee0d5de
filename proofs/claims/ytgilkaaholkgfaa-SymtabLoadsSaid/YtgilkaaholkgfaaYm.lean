/-
  The walk of the law SymtabBack where all is asked.
-/
import Derived.Test.YtgilkaaholkgfaaYl
namespace Go.Proofs.Ytgilkaaholkgfaa
open Go.RowKit

theorem len_as {base g n : Nat} {f : List Nat} {L : List ByteArray} {w : World} (h : TabF w base f g L) (hn : L.length = n) :
    Calls Try.prog 15 #[.pointer (some ⟨g, 0, none⟩)] w fun e w' => e = .returned (.int .i64 (n : Int)) ∧ w = w' := by
  subst hn
  exact len_any base g f L w h
theorem symbol_as {base g i : Nat} {f : List Nat} {L : List ByteArray} {s : ByteArray} {w : World} (h : TabF w base f g L) (hi : L[i]? = some s) :
    Calls Try.prog 16 #[.pointer (some ⟨g, 0, none⟩), .int .i64 (i : Int)] w fun e w' => e = .returned (.tuple #[.string s, .int .i64 0]) ∧ w = w' := by
  obtain ⟨hi1, rfl⟩ := List.getElem?_eq_some_iff.1 hi
  exact symbol_ok base g i f L w h hi1
theorem number_as {base g i : Nat} {f : List Nat} {L : List ByteArray} {s : ByteArray} {w : World} (h : TabF w base f g L) (hi : numOf L s = some i) :
    Calls Try.prog 17 #[.pointer (some ⟨g, 0, none⟩), .string s] w fun e w' => e = .returned (.tuple #[.int .i64 (i : Int), .bool true]) ∧ w = w' := by
  have := number_any base g f L s w h
  rw [hi] at this
  exact this
theorem TabF.drew {w : World} {base g : Nat} {f : List Nat} {L : List ByteArray} (h : TabF w base f g L) : TabF w.drew base f g L := h

/-- The string of a beginning of some bytes. -/
theorem cut_str {w : World} {B : Nat} {A : Option Addr} {k c : Nat} {bs : List UInt8} (hr : Rd w B A (u8s bs)) (hk : k ≤ bs.length) : (convert 22 9 (.slice A k c)).run Try.prog w = .ok (.string ⟨(bs.take k).toArray⟩) w := by
  have h := hr.take k
  rw [u8s_take] at h
  have := run_string_of (P := Try.prog) w 22 5 Try.underlying22 Try.underlying5 A B c (bs.take k) h 9 Try.underlying9
  rwa [List.length_take, Nat.min_eq_left hk] at this

/-- What the table that is read gives back. -/
def BytPost (X : ByteArray) (w : World) (e : Ending) (w' : World) : Prop :=
  ∃ A n c, e = .returned (.slice A n c) ∧ (convert 22 9 (.slice A n c)).run Try.prog w' = .ok (.string X) w' ∧ w.grownBy w' none
theorem bytes_str {base g : Nat} {f : List Nat} {L : List ByteArray} {w : World} (h : TabF w base f g L) (h1 : 1 ≤ L.length) (hL : L.length ≤ 70000) (hs : ∀ s ∈ L, s.size ≤ 64) {bs : List UInt8} (hb : syB (L.drop 1) = bs) :
    Calls Try.prog 14 #[.pointer (some ⟨g, 0, none⟩)] w (BytPost ⟨bs.toArray⟩ w) := by
  subst hb
  refine (bytes_any base g f L w h h1 hL hs).mono fun e w' ⟨v, he, ho, hg⟩ => ?_
  obtain ⟨A, c, rfl, h1, h2, h3⟩ := own_form ho
  exact ⟨A, _, c, he, run_string_of (P := Try.prog) w' 22 5 Try.underlying22 Try.underlying5 A _ c _ h3 9 Try.underlying9, hg⟩

set_option maxHeartbeats 8000000 in
set_option maxRecDepth 100000 in
theorem back_main (A : Option Addr) (c : Nat) (l : List ByteArray) (cut : Nat) (w : World) (hr : Rd w w.heap.size A (strs l)) (hs : ∀ s ∈ l, s.size ≤ 140737488355328) (hh : hugeB l = false) (hl : l.length ≤ 300) (hu : l.any unf = false)
    (hc : cut ≤ (syB ((inter [⟨#[]⟩] l).1.drop 1)).length) :
    Calls Try.prog 4 #[.slice A l.length c, .int .i64 (cut : Int)] w fun e w' => e = .returned (.bool true) ∧ w.grownBy w' none := by
  have HR := hide hr
  have HS := hide hs
  have HH := hide hh
  have HI := hide (fun w1 g f h hg hr => intern_new A c l w w1 g f h hg hr hl hu)
  have HN := hide (inter_new l hl hu)
  clear hr hs hh hu hl
  generalize (inter [⟨#[]⟩] l).1 = L at *
  obtain ⟨P, hP⟩ : ∃ P, P = syB (L.drop 1) := ⟨_, rfl⟩
  rw [← hP] at hc
  have HP := hide hP
  obtain ⟨n, hn⟩ : ∃ n, P.length = n := ⟨_, rfl⟩
  have HPN := hide hn
  obtain ⟨nL, hnL⟩ : ∃ m, L.length = m := ⟨_, rfl⟩
  have HLN := hide hnL
  rw [hn] at hc
  have hc1 : ¬ n < cut := by omega
  clear hP hn hnL
  go_enter Try.func4, Try.ntmps4
  go_wp2_with (first
    | (go_at_call 11; refine (new_tab w).mono ?_; rintro e w1 ⟨g, rfl, ⟨f, ht⟩, hg1⟩; have HT := hide ht; have HG1 := hide hg1; clear ht hg1)
    | (go_at_call 12; refine (huge_any A c w.heap.size l w1 (HR.out.grown HG1.out (Nat.le_refl _) (by simp)) HS.out).mono ?_; rintro e wq ⟨rfl, rfl⟩; rw [HH.out])
    | (go_at_call 13; refine (HI.out w1 g f HT.out HG1.out (HR.out.grown HG1.out (Nat.le_refl _) (by simp))).mono ?_; rintro e w2 ⟨A1, c1, A2, n2, c2, f2, rfl, ht2, hg2⟩; have HT2 := hide ht2; have HG2 := hide hg2; clear ht2 hg2)
    | (go_at_call 14; refine (bytes_any w.heap.size g f2 L w2 HT2.out HN.out.2.2.2 (by have := HN.out.2.2.1; omega) HN.out.1.size).mono ?_; rintro e w3 ⟨v3, rfl, ho3, hg3⟩; rw [← HP.out, HPN.out] at ho3; obtain ⟨A3, c3, hv3, hn3, hm3, hr3⟩ := own_form ho3; subst hv3; have HR3 := hide hr3; have HM3 := hide hm3; have HT3 := hide (HT2.out.grown hg3); have HG3 := hide (gb_trans HG2.out hg3 (.inl rfl)); clear ho3 hg3 hr3 hm3; have hc3 : cut ≤ c3 := (by omega))
    | (go_at_call 9; refine (lnum_any _ _).mono ?_; rintro e wq ⟨rfl, rfl⟩)
    | (go_at_call 7; refine (load_cut L cut A3 c3 w3 HN.out.1 HN.out.2.1 HN.out.2.2.1 (by rw [← HP.out]; exact HR3.out) (by rw [← HP.out, HPN.out]; exact hc) (by rw [← HP.out, HPN.out]; exact hn3) HM3.out).mono ?_; rintro e w4 ⟨j, at_, gu, fu, rfl, hg4, htu, hj, hat, hall, hby⟩; have HS34 := hide hg4.size; have HG4 := hide (gb_trans HG3.out hg4 (.inl rfl)); have HT4 := hide (HT3.out.grown hg4); have HU4 := hide htu; have HR4 := hide (HR3.out.grown hg4 (Nat.le_refl _) (by simp)); rw [← HP.out, HPN.out] at hall; rw [← HP.out] at hby; have HBY := hide hby; have HALL := hide hall; have HJ := hide hj; have HMN : Hid ((L.take (j + 1)).length = j + 1) := hide (by rw [List.length_take]; omega); have hat1 : ¬ cut < at_ := (by omega); have hj1 : ¬ nL < j + 1 := (by have := HLN.out; omega); clear hg4 htu hall hby hj)
    | (go_at_call 15; (with_reducible refine (len_as HU4.out HMN.out).mono ?_); rintro e wq ⟨rfl, rfl⟩)
    | (go_at_call 15; (with_reducible refine (len_as HT4.out HLN.out).mono ?_); rintro e wq ⟨rfl, rfl⟩))
  · rename_i hA hB hC
    exfalso
    have h1 := HALL.out (by omega)
    have h2 := HLN.out
    rcases hC with h | h
    · omega
    · simp at h
      omega
  all_goals
    rename_i hA hB hC hK ha
    clear hA hB hC
    have hjs : j + 1 ≤ 301 := by have := HJ.out; have := HN.out.2.2.1; omega
    have hMs := hide (fun s (h : s ∈ L.take (j + 1)) => HN.out.1.size s (List.mem_of_mem_take h))
    go_loop [13, 14, 15, 16, 17, 18, 19] (fun i _ _ _ _ _ _ => ∃ k : Nat, k ≤ j + 1 ∧ i = .int .i64 (k : Int)) (fun i _ _ _ _ _ _ => (j + 1) - (intOf i).toNat)
    case atStart => exact ⟨0, Nat.zero_le _, rfl⟩
    case round =>
      obtain ⟨k, hk, rfl⟩ := hrel
      by_cases hlt : k < j + 1
      · have hlt1 : (k : Int) < (j : Int) + 1 := by omega
        have hkL : k < L.length := by have := HJ.out; omega
        obtain ⟨s, hs⟩ : ∃ s, s = L[k] := ⟨_, rfl⟩
        have HE1 : Hid (L[k]? = some s) := hide (by rw [hs]; exact List.getElem?_eq_getElem hkL)
        have HE2 : Hid ((L.take (j + 1))[k]? = some s) := hide (by rw [List.getElem?_take, if_pos hlt]; exact HE1.out)
        have HE3 : Hid (numOf L s = some k) := hide (by rw [hs]; exact numOf_at HN.out.1.2 hkL)
        clear hs
        go_wp2_with (first
          | (go_at_call 15; (with_reducible refine (len_as HU4.out HMN.out).mono ?_); rintro e wq ⟨rfl, rfl⟩)
          | (go_at_call 16; (with_reducible refine (symbol_as HT4.out HE1.out).mono ?_); rintro e wq ⟨rfl, rfl⟩)
          | (go_at_call 16; (with_reducible refine (symbol_as HU4.out HE2.out).mono ?_); rintro e wq ⟨rfl, rfl⟩)
          | (go_at_call 17; refine (number_as HT4.out HE3.out).mono ?_; rintro e wq ⟨rfl, rfl⟩)
          | (go_at_call 9; refine (lnum_any _ _).mono ?_; rintro e wq ⟨rfl, rfl⟩))
        go_round
        case rel => exact ⟨k + 1, by omega, by go_num⟩
        case measure => simp [intOf]; omega
      · have hlt1 : ¬ (k : Int) < (j : Int) + 1 := by omega
        have hat2 : at_ ≤ c3 := by omega
        have HPL : Hid (at_ ≤ P.length) := hide (by have := HPN.out; omega)
        have hs4 : (convert 22 9 (.slice A3 at_ c3)).run Try.prog w4.drew = .ok (.string ⟨(P.take at_).toArray⟩) w4.drew := cut_str HR4.out.drew HPL.out
        have HU5 := hide (bytes_str HU4.out.drew (by rw [HMN.out]; omega) (by rw [HMN.out]; have := HJ.out; have := HN.out.2.2.1; omega) hMs.out HBY.out)
        go_wp2_with (go_at_call 15; (with_reducible refine (len_as HU4.out HMN.out).mono ?_); rintro e wq ⟨rfl, rfl⟩)
        go_region_law (first
          | (go_simp; go_at_call 14; refine HU5.out.mono ?_; rintro e5 w5 ⟨A5, n5, c5, rfl, hs5, hg5⟩; have hs6 : (convert 22 9 (.slice A3 at_ c3)).run Try.prog w5 = .ok (.string ⟨(P.take at_).toArray⟩) w5 := cut_str (HR4.out.drew.grown hg5 HS34.out (by simp)) HPL.out; have G5 := hide hg5; clear hg5)
          | (go_simp; go_at_call 6; refine (live_any _).mono ?_; rintro e6 w6 ⟨rfl, hg6⟩; have G6 := hide hg6; clear hg6))
        all_goals
          go_wp2_with fail
          go_ret
          exact ⟨rfl, gb_trans (gb_drew HG4.out) (gb_trans G5.out G6.out (.inl rfl)) (.inl rfl)⟩
end Go.Proofs.Ytgilkaaholkgfaa
