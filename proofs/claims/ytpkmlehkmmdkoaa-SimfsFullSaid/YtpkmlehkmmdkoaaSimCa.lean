/-
  slices.Clone at what waits and at changes; twin.
-/
import Derived.Test.YtpkmlehkmmdkoaaSimEv
import Derived.Test.YtpkmlehkmmdkoaaSimW
namespace Go.Proofs.Ytpkmlehkmmdkoaa
open Go.RowKit

set_option maxHeartbeats 2000000 in
set_option maxRecDepth 100000 in
theorem clone_wr (A : Option Addr) (n c : Nat) (xs : List Value) (w : World) (h : w.ownsRow 0 110 3 (.slice A n c) n xs) (h1 : ∀ u ∈ xs, u.oneCell' = true) (hn : n ≤ 1000000) :
    Calls Try.prog 69 #[.slice A n c] w fun e w' => ∃ A' c', e = .returned (.slice A' n c') ∧ w'.ownsRow 0 110 3 (.slice A' n c') n xs ∧ w.grownBy w' none ∧ ∀ g, (Value.slice A' n c').ownBlock = some g → w.heap.size ≤ g := by
  have hq := fun (w : World) (A : Option Addr) (n c : Nat) => Lib.run_eql_slice_nil (P := Try.prog) w 91 110 A n c 0 0 Try.underlying91
  rcases A with _ | ad
  · obtain ⟨rfl, rfl, rfl⟩ : n = 0 ∧ c = 0 ∧ xs = [] := by
      rcases h.2 with ⟨e, h0⟩ | ⟨g, cap, cur, hv, _⟩
      · injection e with _ _ e
        subst h0
        exact ⟨rfl, e, List.eq_nil_of_length_eq_zero (by simpa using h.1)⟩
      · injection hv with hv
        cases hv
    clear h h1
    go_enter Try.func69, Try.ntmps69
    go_wp2
    go_ret
    exact ⟨none, 0, rfl, World.ownsRow_nil _ _ _ _, gb_refl _ _, fun g hg => by cases hg⟩
  · obtain ⟨i1, hi1, hiz, his, hib⟩ := info_parts Try.infoW
    have hown := own_empty w 110 3
    have hga := gb_alloc (gb_refl w none) (.cells #[] 110)
    have hr : Rd (w.alloc (.cells #[] 110)) w.heap.size (some ad) xs := (Rd.of_own h).grown hga (Nat.le_refl _) (by simp)
    have HI1 := hide hi1
    have HIZ := hide hiz
    have HIS := hide his
    have HIB := hide hib
    have HO := hide hown
    have HR := hide hr
    have HL := hide h.1
    have HC := hide h1
    have HGA := hide hga
    have HM1 : Hid (0 + n ≤ maxLen) := hide (by unfold maxLen; omega)
    have HMB : Hid ((0 + n) * 40 ≤ 140737488355328) := hide (by omega)
    clear hi1 hiz his hib hown hr h h1 hga
    go_enter Try.func69, Try.ntmps69
    go_wp2_with (at_builtin; refine wpList_append_rd _ rfl (.tmp 5) (.tmp 6) 91 rfl 0 110 i1 (.agg #[.bool false, .int .i64 0, .slice none 0 0]) 3 40 Try.underlying91 HI1.out HIZ.out HIS.out HIB.out rfl (Nat.succ_pos 2) (.slice (some ⟨w.heap.size, 0, none⟩) 0 0) 0 [] rfl HO.out w.heap.size (some ad) n c xs rfl HL.out HR.out HC.out HM1.out HMB.out (Nat.zero_le _) ?_; intro v5 w5 ho5 hg5 hb5; rw [Nat.zero_add, List.nil_append] at ho5; obtain ⟨A5, c5, rfl⟩ := own_slice ho5; have HO5 := hide ho5; have HG5 := hide hg5; have HB5 := hide hb5; clear ho5 hg5 hb5)
    go_ret
    refine ⟨A5, c5, rfl, HO5.out, gb_trans HGA.out HG5.out (.inr (.inr ⟨_, rfl, Nat.le_refl _⟩)), fun g hg => ?_⟩
    rcases HB5.out with hb | hb
    · have hb' : (Value.slice A5 n c5).ownBlock = some w.heap.size := hb
      rw [hb'] at hg
      injection hg with hg
      omega
    · rw [hb] at hg
      injection hg with hg
      have : (w.alloc (.cells #[] 110)).heap.size = w.heap.size + 1 := by simp
      omega

set_option maxHeartbeats 2000000 in
set_option maxRecDepth 100000 in
theorem clone_ch (A : Option Addr) (n c : Nat) (xs : List Value) (w : World) (h : w.ownsRow 0 78 3 (.slice A n c) n xs) (h1 : ∀ u ∈ xs, u.oneCell' = true) (hn : n ≤ 1000000) :
    Calls Try.prog 51 #[.slice A n c] w fun e w' => ∃ A' c', e = .returned (.slice A' n c') ∧ w'.ownsRow 0 78 3 (.slice A' n c') n xs ∧ w.grownBy w' none ∧ ∀ g, (Value.slice A' n c').ownBlock = some g → w.heap.size ≤ g := by
  have hq := fun (w : World) (A : Option Addr) (n c : Nat) => Lib.run_eql_slice_nil (P := Try.prog) w 73 78 A n c 0 0 Try.underlying73
  rcases A with _ | ad
  · obtain ⟨rfl, rfl, rfl⟩ : n = 0 ∧ c = 0 ∧ xs = [] := by
      rcases h.2 with ⟨e, h0⟩ | ⟨g, cap, cur, hv, _⟩
      · injection e with _ _ e
        subst h0
        exact ⟨rfl, e, List.eq_nil_of_length_eq_zero (by simpa using h.1)⟩
      · injection hv with hv
        cases hv
    clear h h1
    go_enter Try.func51, Try.ntmps51
    go_wp2
    go_ret
    exact ⟨none, 0, rfl, World.ownsRow_nil _ _ _ _, gb_refl _ _, fun g hg => by cases hg⟩
  · obtain ⟨i1, hi1, hiz, his, hib⟩ := info_parts Try.infoC
    have hown := own_empty w 78 3
    have hga := gb_alloc (gb_refl w none) (.cells #[] 78)
    have hr : Rd (w.alloc (.cells #[] 78)) w.heap.size (some ad) xs := (Rd.of_own h).grown hga (Nat.le_refl _) (by simp)
    have HI1 := hide hi1
    have HIZ := hide hiz
    have HIS := hide his
    have HIB := hide hib
    have HO := hide hown
    have HR := hide hr
    have HL := hide h.1
    have HC := hide h1
    have HGA := hide hga
    have HM1 : Hid (0 + n ≤ maxLen) := hide (by unfold maxLen; omega)
    have HMB : Hid ((0 + n) * 40 ≤ 140737488355328) := hide (by omega)
    clear hi1 hiz his hib hown hr h h1 hga
    go_enter Try.func51, Try.ntmps51
    go_wp2_with (at_builtin; refine wpList_append_rd _ rfl (.tmp 5) (.tmp 6) 73 rfl 0 78 i1 (.agg #[.string ⟨#[]⟩, .string ⟨#[]⟩, .int .i64 0]) 3 40 Try.underlying73 HI1.out HIZ.out HIS.out HIB.out rfl (Nat.succ_pos 2) (.slice (some ⟨w.heap.size, 0, none⟩) 0 0) 0 [] rfl HO.out w.heap.size (some ad) n c xs rfl HL.out HR.out HC.out HM1.out HMB.out (Nat.zero_le _) ?_; intro v5 w5 ho5 hg5 hb5; rw [Nat.zero_add, List.nil_append] at ho5; obtain ⟨A5, c5, rfl⟩ := own_slice ho5; have HO5 := hide ho5; have HG5 := hide hg5; have HB5 := hide hb5; clear ho5 hg5 hb5)
    go_ret
    refine ⟨A5, c5, rfl, HO5.out, gb_trans HGA.out HG5.out (.inr (.inr ⟨_, rfl, Nat.le_refl _⟩)), fun g hg => ?_⟩
    rcases HB5.out with hb | hb
    · have hb' : (Value.slice A5 n c5).ownBlock = some w.heap.size := hb
      rw [hb'] at hg
      injection hg with hg
      omega
    · rw [hb] at hg
      injection hg with hg
      have : (w.alloc (.cells #[] 78)).heap.size = w.heap.size + 1 := by simp
      omega

theorem wcells_one (l : List (Wr × Value)) (h : ∀ x ∈ l, x.2.oneCell' = true) : ∀ u ∈ wcells l, u.oneCell' = true := by
  intro u hu
  obtain ⟨t, ht0, ht⟩ := List.mem_flatMap.1 hu
  simp only [List.mem_cons, List.not_mem_nil, or_false] at ht
  rcases ht with rfl | rfl | rfl
  · rfl
  · rfl
  · exact h t ht0
theorem BsAt.one {w : World} {own : Nat → Prop} {v : Value} {xs : List UInt8} (h : BsAt w own v xs) : v.oneCell' = true := by
  obtain ⟨A, c, rfl, _⟩ := h.form
  rfl
theorem clone_ws (A : Option Addr) (n c : Nat) (ws : List Wr) (own rd : Nat → Prop) (w : World) (h : WsAt w own rd (.slice A n c) ws) (hn : ws.length ≤ 1000000) :
    Calls Try.prog 69 #[.slice A n c] w fun e w' => ∃ A' c', e = .returned (.slice A' n c') ∧ WsAt w' (fun i => w.heap.size ≤ i ∧ i < w'.heap.size) rd (.slice A' n c') ws ∧ w.grownBy w' none := by
  obtain ⟨l, rfl, h2, h3, h4⟩ := h
  obtain ⟨A0, c0, e0⟩ := own_slice h2
  injection e0 with e1 e2 e3
  subst e2
  rw [List.length_map] at hn
  refine (clone_wr A l.length c _ w h2 (wcells_one l fun x hx => (h4 x hx).one) hn).mono ?_
  rintro e w' ⟨A', c', rfl, k1, k2, k3⟩
  exact ⟨A', c', rfl, ⟨l, rfl, k1, fun g hg => ⟨k3 g hg, own_lt k1 g hg⟩, fun x hx => (h4 x hx).grown k2⟩, k2⟩

end Go.Proofs.Ytpkmlehkmmdkoaa
