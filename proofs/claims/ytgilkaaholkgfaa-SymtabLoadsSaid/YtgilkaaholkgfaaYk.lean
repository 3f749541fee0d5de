/-
  What is asked of a beginning of a table's bytes: huge; the table that is read.
-/
import Derived.Test.YtgilkaaholkgfaaYi
namespace Go.Proofs.Ytgilkaaholkgfaa
open Go.RowKit

theorem sumLen_bound (l : List ByteArray) (R : Nat) (h : ∀ s ∈ l, s.size ≤ R) : sumLen l ≤ l.length * R := by
  induction l with
  | nil => simp [sumLen]
  | cons s l ih =>
    have h1 := h s (List.mem_cons_self ..)
    have h2 := ih fun x hx => h x (List.mem_cons_of_mem _ hx)
    simp only [sumLen, List.map_cons, List.sum_cons, List.length_cons] at *
    rw [Nat.succ_mul]
    omega
/-- Are there too many texts, or too long ones? -/
def hugeB (l : List ByteArray) : Bool := decide (300 < l.length ∨ 20000 < sumLen (l.take 301))

set_option maxHeartbeats 1000000 in
set_option maxRecDepth 100000 in
theorem huge_any (A : Option Addr) (c B : Nat) (l : List ByteArray) (w : World) (hr : Rd w B A (strs l)) (hs : ∀ s ∈ l, s.size ≤ 140737488355328) :
    Calls Try.prog 12 #[.slice A l.length c] w fun e w' => e = .returned (.bool (hugeB l)) ∧ w = w' := by
  have HR := hide hr
  have HS := hide hs
  clear hr hs
  go_enter Try.func12, Try.ntmps12
  go_wp2_with fail
  go_loop [3, 4] (fun n i => ∃ k : Nat, k ≤ l.length ∧ k ≤ 301 ∧ i = .int .i64 (k : Int) ∧ n = .int .i64 ((sumLen (l.take k) : Nat) : Int)) (fun _ i => l.length - (intOf i).toNat)
  case atStart => exact ⟨0, Nat.zero_le _, by omega, rfl, rfl⟩
  case round =>
    obtain ⟨k, hk, hk3, rfl, rfl⟩ := hrel
    have hb := sumLen_bound (l.take k) 140737488355328 (fun s h => HS.out s (List.mem_of_mem_take h))
    have htl : (l.take k).length = k := by rw [List.length_take]; omega
    rw [htl] at hb
    have hb2 : sumLen (l.take k) ≤ 42361983994953728 := by omega
    clear htl hb
    by_cases hlt : k < l.length
    · have hlt1 : (k : Int) < (l.length : Int) := by omega
      by_cases h3 : k ≤ 300
      · have h31 : (k : Int) ≤ 300 := by omega
        obtain ⟨ad, rfl, _, hcell⟩ := HR.out.str hlt
        have hsz := HS.out _ (List.getElem_mem hlt)
        have HT := hide (sumLen_take l k hlt)
        generalize hsk : sumLen (l.take k) = S at *
        clear hsk
        go_wp2_with fail
        go_round
        case rel => exact ⟨k + 1, by omega, by omega, by go_num, by rw [HT.out]; go_num⟩
        case measure => simp [intOf]; omega
      · have h31 : ¬ (k : Int) ≤ 300 := by omega
        have hE := hide (show hugeB l = true from decide_eq_true (.inl (by omega)))
        have hg1 : (300 : Int) < (l.length : Int) := by omega
        go_wp2_with fail
        go_ret
        exact ⟨by rw [hE.out]; rfl, rfl⟩
    · obtain rfl : k = l.length := by omega
      have hlt1 : ¬ (l.length : Int) < (l.length : Int) := by omega
      have hTT : l.take 301 = l.take l.length := by rw [List.take_length, List.take_of_length_le hk3]
      by_cases h3 : 300 < l.length
      · have hE := hide (show hugeB l = true from decide_eq_true (.inl h3))
        have hg1 : (300 : Int) < (l.length : Int) := by omega
        clear hTT
        go_wp2_with fail
        go_ret
        exact ⟨by rw [hE.out]; rfl, rfl⟩
      · have hg1 : ¬ (300 : Int) < (l.length : Int) := by omega
        have hE := hide (show hugeB l = decide ((20000 : Int) < ((sumLen (l.take l.length) : Nat) : Int)) by
          unfold hugeB
          rw [hTT]
          exact decide_eq_decide.2 (by omega))
        clear hTT
        generalize sumLen (l.take l.length) = S at *
        go_wp2_with fail
        go_ret
        exact ⟨by rw [hE.out]; rfl, rfl⟩

theorem whole_j (e : Nat → Nat) (cut : Nat) (h0 : e 0 ≤ cut) : ∀ m, ∃ j, j ≤ m ∧ e j ≤ cut ∧ (j < m → cut < e (j + 1))
  | 0 => ⟨0, Nat.le_refl _, h0, fun h => absurd h (Nat.lt_irrefl _)⟩
  | m + 1 => by
    obtain ⟨j, h1, h2, h3⟩ := whole_j e cut h0 m
    rcases Nat.lt_or_ge j m with h | h
    · exact ⟨j, by omega, h2, fun _ => h3 h⟩
    · obtain rfl : j = m := by omega
      rcases Nat.lt_or_ge cut (e (j + 1)) with h4 | h4
      · exact ⟨j, by omega, h2, fun _ => h4⟩
      · exact ⟨j + 1, Nat.le_refl _, h4, fun h => absurd h (Nat.lt_irrefl _)⟩

/-- What is read of a beginning of a table's bytes. -/
def CutPost (L : List ByteArray) (cut : Nat) (w : World) (e : Ending) (w' : World) : Prop :=
  ∃ j at_ g f, e = .returned (.tuple #[.pointer (some ⟨g, 0, none⟩), .int .i64 ((at_ : Nat) : Int), .int .i64 0]) ∧ w.grownBy w' none ∧ TabF w' w.heap.size f g (L.take (j + 1)) ∧ j + 1 ≤ L.length ∧ at_ ≤ cut ∧ (cut = (syB (L.drop 1)).length → j + 1 = L.length) ∧
    syB ((L.take (j + 1)).drop 1) = (syB (L.drop 1)).take at_

theorem load_cut (L : List ByteArray) (cut : Nat) (A : Option Addr) (c : Nat) (w : World) (hF : Fit L) (h0 : L[0]? = some ⟨#[]⟩) (hL : L.length ≤ 301) (hr : Rd w w.heap.size A (u8s (syB (L.drop 1)))) (hcut : cut ≤ (syB (L.drop 1)).length) (hc : (syB (L.drop 1)).length ≤ c) (hm : c ≤ maxLen) :
    Calls Try.prog 7 #[.slice A cut c] w (CutPost L cut w) := by
  have hsl := syB_length (L.drop 1) (fun s h => hF.size s (List.mem_of_mem_drop h))
  have hdl : (L.drop 1).length = L.length - 1 := List.length_drop
  have hL0 : 0 < L.length := (List.getElem?_eq_some_iff.1 h0).1
  have h := load_any A cut c ((syB (L.drop 1)).take cut) w (by rw [← u8s_take]; exact hr.take cut) (by rw [List.length_take]; omega) (by omega) hm (by omega)
  obtain ⟨j, hj1, hj2, hj3⟩ := whole_j (ends ((L.drop 1).map putStr)) cut (by rw [ends_zero]; exact Nat.zero_le _) ((L.drop 1).map putStr).length
  have hml : ((L.drop 1).map putStr).length = L.length - 1 := by rw [List.length_map, hdl]
  have hft := frs_torn ((L.drop 1).map putStr) j cut (fun x hx => by
    obtain ⟨s, hs, rfl⟩ := List.mem_map.1 hx
    have := putStr_short (hF.size s (List.mem_of_mem_drop hs))
    omega) hj1 hj2 hcut hj3
  have hjn : jn ((L.drop 1).map putStr) = syB (L.drop 1) := rfl
  rw [hjn] at hft
  rw [hft] at h
  dsimp only at h
  have hhd : L = ⟨#[]⟩ :: L.drop 1 := by
    rw [List.drop_one]
    cases L with
    | nil => simp at hL0
    | cons a r =>
      simp at h0
      rw [h0]
      rfl
  have htk : L.take (j + 1) = [⟨#[]⟩] ++ (L.drop 1).take j := by
    conv => lhs; rw [hhd]
    rfl
  have hld : ld (((L.drop 1).map putStr).take j) = some (L.take (j + 1)) := by
    unfold ld
    rw [← List.map_take, htk]
    refine ldF_own _ _ (fun s hs => hF.1 s (List.mem_of_mem_drop (List.mem_of_mem_take hs))) ?_
    rw [← htk]
    exact (List.take_sublist _ _).nodup hF.2
  rw [hld] at h
  refine h.mono fun e w' ⟨hg, h⟩ => ?_
  rcases h with ⟨h, _⟩ | ⟨M, g, f, h1, h2, h3⟩
  · cases h
  · injection h1 with h1
    subst h1
    refine ⟨j, _, g, f, h2, hg, h3, by omega, hj2, fun he => ?_, ?_⟩
    · rcases Nat.lt_or_ge j ((L.drop 1).map putStr).length with hlt | hge
      · have h4 := hj3 hlt
        have h5 : ends ((L.drop 1).map putStr) (j + 1) ≤ (syB (L.drop 1)).length := by
          unfold ends
          rw [← hjn]
          have : jn ((L.drop 1).map putStr) = jn (((L.drop 1).map putStr).take (j + 1)) ++ jn (((L.drop 1).map putStr).drop (j + 1)) := by
            conv => lhs; rw [← List.take_append_drop (j + 1) ((L.drop 1).map putStr)]
            simp only [jn, List.flatMap_append]
          rw [this, List.length_append]
          omega
        omega
      · omega
    · rw [htk]
      have e1 : (([⟨#[]⟩] : List ByteArray) ++ (L.drop 1).take j).drop 1 = (L.drop 1).take j := rfl
      rw [e1]
      have e2 : syB ((L.drop 1).take j) = jn (((L.drop 1).map putStr).take j) := by unfold syB; rw [List.map_take]
      rw [e2]
      have e3 : syB (L.drop 1) = jn (((L.drop 1).map putStr).take j) ++ jn (((L.drop 1).map putStr).drop j) := by
        rw [← hjn]
        conv => lhs; rw [← List.take_append_drop j ((L.drop 1).map putStr)]
        simp only [jn, List.flatMap_append]
      rw [e3]
      unfold ends
      rw [List.take_left]
end Go.Proofs.Ytgilkaaholkgfaa
