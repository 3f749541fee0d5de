/-
  Rows of a call's own; clones of numbers and of symbols.
-/
import Derived.Test.YtniliccobkhnlaaVb
import Derived.Deep.RegionHeld3
import Derived.Deep.DrawnRows
namespace Go.Proofs.Ytniliccobkhnlaa
open Go.RowKit

/-- A row that nobody else has: it begins block f, and may be written. -/
def Own (w : World) (f : List Nat) (A : Option Addr) (xs : List Value) : Prop :=
  (xs = [] ∧ f = []) ∨ ∃ b t cur, f = [b] ∧ A = some ⟨b, 0, none⟩ ∧ w.heap[b]? = some (.cells cur t (0, 0)) ∧ cur.toList.take xs.length = xs ∧ xs ≠ []
theorem Own.of_row {w : World} {base : Nat} {e : TypeId} {size n c : Nat} {A : Option Addr} {xs : List Value} (h : w.ownsRow base e size (.slice A n c) n xs) : ∃ f, Own w f A xs ∧ ∀ b ∈ f, base ≤ b ∧ b < w.heap.size := by
  by_cases hx : xs = []
  · exact ⟨[], .inl ⟨hx, rfl⟩, by simp⟩
  rcases h.2 with ⟨h1, h2⟩ | ⟨g, cap, cur, hv, hb, hh, _, _, _, ht⟩
  · have h3 := h.1
    rw [h2] at h3
    simp at h3
    exact absurd h3 hx
  · injection hv with hA
    subst hA
    refine ⟨[g], .inr ⟨g, e, cur, rfl, rfl, hh, ?_, hx⟩, ?_⟩
    · rw [h.1]; exact ht
    · intro b hb'
      obtain rfl := List.mem_singleton.1 hb'
      exact ⟨hb, blk_lt hh⟩
theorem Own.rd {w : World} {f : List Nat} {A : Option Addr} {xs : List Value} {B : Nat} (h : Own w f A xs) (hB : ∀ b ∈ f, b < B) : Rd w B A xs := by
  rcases h with ⟨rfl, _⟩ | ⟨b, t, cur, rfl, rfl, hh, ht, _⟩
  · exact Rd.nil_
  · refine fun _ => ⟨_, rfl, hB b (by simp), fun j u hu => ?_⟩
    have e : (⟨b, 0, none⟩ : Addr).add j = ⟨b, j, none⟩ := by unfold Addr.add; split <;> simp_all
    rw [e, blk_cell hh]
    rw [← ht, List.getElem?_take] at hu
    split at hu
    · simpa using hu
    · cases hu
theorem Own.keep {w w' : World} {f : List Nat} {A : Option Addr} {xs : List Value} (h : Own w f A xs) (hk : ∀ b ∈ f, w'.heap[b]? = w.heap[b]?) : Own w' f A xs := by
  rcases h with h | ⟨b, t, cur, rfl, hA, hh, ht, hx⟩
  · exact .inl h
  · exact .inr ⟨b, t, cur, rfl, hA, (hk b (by simp)).trans hh, ht, hx⟩
theorem Own.lt {w : World} {f : List Nat} {A : Option Addr} {xs : List Value} (h : Own w f A xs) : ∀ b ∈ f, b < w.heap.size := by
  rcases h with ⟨_, rfl⟩ | ⟨b, t, cur, rfl, _, hh, _, _⟩
  · simp
  · intro c hc
    obtain rfl := List.mem_singleton.1 hc
    exact blk_lt hh

theorem i64s_one (l : List Int) : ∀ u ∈ i64s l, u.oneCell' = true := by
  intro u hu
  obtain ⟨t, _, rfl⟩ := List.mem_map.1 hu
  rfl
theorem strs_one (l : List ByteArray) : ∀ u ∈ strs l, u.oneCell' = true := by
  intro u hu
  obtain ⟨t, _, rfl⟩ := List.mem_map.1 hu
  rfl
theorem Try.info64 : (Try.prog.info? 2).map (fun i => (i.zero, i.size, i.bytes)) = some (some (.int .i64 0), 1, 8) := by kernel_rfl
theorem Try.infoS : (Try.prog.info? 9).map (fun i => (i.zero, i.size, i.bytes)) = some (some (.string ⟨#[]⟩), 1, 16) := by kernel_rfl
theorem own_nil (w : World) (t : TypeId) (size : Nat) : (w.alloc (.cells #[] t)).ownsRow w.heap.size t size (.slice (some ⟨w.heap.size, 0, none⟩) 0 0) 0 [] :=
  ⟨by simp, .inr ⟨w.heap.size, 0, #[], rfl, Nat.le_refl _, heap_alloc_new w _, Nat.le_refl _, Nat.zero_le _, by simp, by simp⟩⟩
theorem own_slice {w : World} {base : Nat} {e : TypeId} {size n : Nat} {v : Value} {xs : List Value} (h : w.ownsRow base e size v n xs) : ∃ A c, v = .slice A n c ∧ n ≤ c := by
  rcases h.2 with ⟨rfl, rfl⟩ | ⟨g, cap, cur, rfl, _, _, hc, _⟩
  · exact ⟨none, 0, rfl, Nat.le_refl _⟩
  · exact ⟨_, cap, rfl, hc⟩

/-- What a clone of a row has. -/
def ClonePost (w : World) (e : TypeId) (n : Nat) (xs : List Value) (en : Ending) (w' : World) : Prop := ∃ A c, en = .returned (.slice A n c) ∧ n ≤ c ∧ w'.ownsRow w.heap.size e 1 (.slice A n c) n xs ∧ w.grownBy w' none

set_option maxHeartbeats 4000000 in
set_option maxRecDepth 100000 in
theorem cloneI_any (A : Option Addr) (c B : Nat) (l : List Int) (w : World) (h : Rd w B A (i64s l)) (hB : B ≤ w.heap.size) (hl : l.length ≤ 1100000) :
    Calls Try.prog 54 #[.slice A l.length c] w (ClonePost w 2 l.length (i64s l)) := by
  have hq := fun (w : World) (A : Option Addr) (n c : Nat) => Lib.run_eql_slice_nil (P := Try.prog) w 22 2 A n c 0 0 Try.underlying22
  rcases A with _ | ad
  · have hb : l = [] := by
      rcases l with _ | ⟨b, l⟩
      · rfl
      · obtain ⟨_, e, _⟩ := h (by simp [i64s]); cases e
    subst hb
    go_enter Try.func54, Try.ntmps54
    go_wp2
    go_ret
    exact ⟨_, _, rfl, Nat.le_refl _, ⟨rfl, .inl ⟨rfl, rfl⟩⟩, gb_refl _ _⟩
  · have HO := hide (own_nil w 2 1)
    have HR := hide (h.alloc hB (.cells #[] 2))
    have HL1 : Hid ((i64s l).length = l.length * 1) := hide (by simp [i64s])
    have HOC := hide (i64s_one l)
    have HM1 : Hid (0 + l.length ≤ maxLen) := hide (by unfold maxLen; omega)
    have HMB : Hid ((0 + l.length) * 8 ≤ 140737488355328) := hide (by omega)
    have HBS : Hid (w.heap.size ≤ (w.alloc (.cells #[] 2)).heap.size) := hide (by simp)
    obtain ⟨i1, hi1, hiz, his, hib⟩ := info_parts Try.info64
    have HI1 := hide hi1
    have HIZ := hide hiz
    have HIS := hide his
    have HIB := hide hib
    clear h hl hi1 hiz his hib
    go_enter Try.func54, Try.ntmps54
    go_wp2_with (at_builtin; refine wpList_append_rd _ rfl (.tmp 5) (.tmp 6) 22 rfl w.heap.size 2 i1 (.int .i64 0) 1 8 Try.underlying22 HI1.out HIZ.out HIS.out HIB.out rfl (Nat.succ_pos 0) (.slice (some ⟨w.heap.size, 0, none⟩) 0 0) 0 [] rfl HO.out B (some ad) l.length c (i64s l) rfl HL1.out HR.out HOC.out HM1.out HMB.out HBS.out ?_; intro v5 w5 ho5 hg5 hb5; rw [Nat.zero_add, List.nil_append] at ho5; obtain ⟨A5, c5, rfl, hc5⟩ := own_slice ho5; have HO5 := hide ho5; have HG5 := hide hg5; clear ho5 hg5 hb5)
    go_ret
    exact ⟨A5, c5, rfl, hc5, HO5.out, gb_trans (gb_alloc (gb_refl w none) (.cells #[] 2)) HG5.out (.inr (.inr ⟨_, rfl, Nat.le_refl _⟩))⟩
set_option maxHeartbeats 4000000 in
set_option maxRecDepth 100000 in
theorem cloneS_any (A : Option Addr) (c B : Nat) (l : List ByteArray) (w : World) (h : Rd w B A (strs l)) (hB : B ≤ w.heap.size) (hl : l.length ≤ 1100000) :
    Calls Try.prog 55 #[.slice A l.length c] w (ClonePost w 9 l.length (strs l)) := by
  have hq := fun (w : World) (A : Option Addr) (n c : Nat) => Lib.run_eql_slice_nil (P := Try.prog) w 23 9 A n c 0 0 Try.underlying23
  rcases A with _ | ad
  · have hb : l = [] := by
      rcases l with _ | ⟨b, l⟩
      · rfl
      · obtain ⟨_, e, _⟩ := h (by simp [strs]); cases e
    subst hb
    go_enter Try.func55, Try.ntmps55
    go_wp2
    go_ret
    exact ⟨_, _, rfl, Nat.le_refl _, ⟨rfl, .inl ⟨rfl, rfl⟩⟩, gb_refl _ _⟩
  · have HO := hide (own_nil w 9 1)
    have HR := hide (h.alloc hB (.cells #[] 9))
    have HL1 : Hid ((strs l).length = l.length * 1) := hide (by simp [strs])
    have HOC := hide (strs_one l)
    have HM1 : Hid (0 + l.length ≤ maxLen) := hide (by unfold maxLen; omega)
    have HMB : Hid ((0 + l.length) * 16 ≤ 140737488355328) := hide (by omega)
    have HBS : Hid (w.heap.size ≤ (w.alloc (.cells #[] 9)).heap.size) := hide (by simp)
    obtain ⟨i1, hi1, hiz, his, hib⟩ := info_parts Try.infoS
    have HI1 := hide hi1
    have HIZ := hide hiz
    have HIS := hide his
    have HIB := hide hib
    clear h hl hi1 hiz his hib
    go_enter Try.func55, Try.ntmps55
    go_wp2_with (at_builtin; refine wpList_append_rd _ rfl (.tmp 5) (.tmp 6) 23 rfl w.heap.size 9 i1 (.string ⟨#[]⟩) 1 16 Try.underlying23 HI1.out HIZ.out HIS.out HIB.out rfl (Nat.succ_pos 0) (.slice (some ⟨w.heap.size, 0, none⟩) 0 0) 0 [] rfl HO.out B (some ad) l.length c (strs l) rfl HL1.out HR.out HOC.out HM1.out HMB.out HBS.out ?_; intro v5 w5 ho5 hg5 hb5; rw [Nat.zero_add, List.nil_append] at ho5; obtain ⟨A5, c5, rfl, hc5⟩ := own_slice ho5; have HO5 := hide ho5; have HG5 := hide hg5; clear ho5 hg5 hb5)
    go_ret
    exact ⟨A5, c5, rfl, hc5, HO5.out, gb_trans (gb_alloc (gb_refl w none) (.cells #[] 9)) HG5.out (.inr (.inr ⟨_, rfl, Nat.le_refl _⟩))⟩
end Go.Proofs.Ytniliccobkhnlaa
