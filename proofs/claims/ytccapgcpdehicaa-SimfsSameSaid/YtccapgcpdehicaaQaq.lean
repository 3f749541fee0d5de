/-
  The document's file system: a directory behind a change, the other kinds.
-/
import Derived.Test.YtccapgcpdehicaaQap
import Derived.Deep.DrawnRows
import Derived.StillTailTactics
import Derived.Test.YtccapgcpdehicaaQae
import Derived.Test.YtccapgcpdehicaaQah
import Derived.Deep.RegionLaw
import Derived.Test.YtccapgcpdehicaaQal

namespace Go.Proofs.Ytccapgcpdehicaa
open Go.RowKit
attribute [local go_sem ↓] Go.wp_at_zero Go.wp_at_succ

theorem own_cells {w : World} {base m size : Nat} {e : TypeId} {A : Option Addr} {n c : Nat} {xs : List Value} (h : w.ownsRow base e size (.slice A n c) m xs) (hl : xs.length = m * size) (hm : 0 < m) : ∃ b, A = some ⟨b, 0, none⟩ ∧ ∀ (j : Nat) (u : Value), xs[j]? = some u → w.cell? ⟨b, j, none⟩ = some u := by
  rcases h.2 with ⟨_, h0⟩ | ⟨b, cap, cur, hv, h5, h6, _, _, h8, h9⟩
  · omega
  · injection hv with hA _ _
    refine ⟨b, hA, fun j u hu => ?_⟩
    have hj : j < m * size := by
      rw [← hl]
      exact (List.getElem?_eq_some_iff.1 hu).1
    rw [blk_cell h6, ← hu, ← h9, List.getElem?_take, if_pos hj, Array.getElem?_toList]
theorem own_form0 {w : World} {base m size : Nat} {e : TypeId} {v : Value} {xs : List Value} (h : w.ownsRow base e size v m xs) : ∃ A c, v = .slice A m c ∧ m ≤ c ∧ c ≤ maxLen := by
  rcases h.2 with ⟨h1, h0⟩ | ⟨g, cap, cur, hv, _, _, h3, h4, _⟩
  · exact ⟨none, 0, by rw [h1, h0], by omega, Nat.zero_le _⟩
  · exact ⟨_, cap, hv, h3, h4⟩
theorem E_elem {w : World} {base : Nat} {A : Option Addr} {n c : Nat} {l : List RE} (h : w.ownsRow base 107 2 (.slice A n c) l.length (encE l)) {i : Nat} (hi : i < l.length) : ∃ b, A = some ⟨b, 0, none⟩ ∧ w.cell? ⟨b, i * 2, none⟩ = some (.string l[i].name) ∧ w.cell? ⟨b, i * 2 + 1, none⟩ = some (.int .i64 (l[i].n : Int)) := by
  obtain ⟨b, hA, hc⟩ := own_cells h (encE_len l) (by omega)
  obtain ⟨h1, h2⟩ := encE_at hi
  exact ⟨b, hA, hc _ _ h1, hc _ _ h2⟩
theorem D_elem {w : World} {base : Nat} {A : Option Addr} {n c : Nat} {l : List RD} (h : w.ownsRow base 124 3 (.slice A n c) l.length (encD l)) {i : Nat} (hi : i < l.length) : ∃ b, A = some ⟨b, 0, none⟩ ∧ w.cell? ⟨b, i * 3, none⟩ = some (.bool l[i].cut) ∧ w.cell? ⟨b, i * 3 + 1, none⟩ = some (.int .i64 (l[i].at_ : Int)) ∧ w.cell? ⟨b, i * 3 + 2, none⟩ = some (.string l[i].p) := by
  obtain ⟨b, hA, hc⟩ := own_cells h (encD_len l) (by omega)
  obtain ⟨h1, h2, h3⟩ := encD_at hi
  exact ⟨b, hA, hc _ _ h1, hc _ _ h2, hc _ _ h3⟩
theorem M_elem {w : World} {base : Nat} {A : Option Addr} {n c : Nat} {l : List RM} (h : w.ownsRow base 76 4 (.slice A n c) l.length (encM l)) {i : Nat} (hi : i < l.length) : ∃ b, A = some ⟨b, 0, none⟩ ∧ w.cell? ⟨b, i * 4, none⟩ = some (.int .u8 (l[i].kind : Int)) ∧ w.cell? ⟨b, i * 4 + 1, none⟩ = some (.string l[i].a) ∧ w.cell? ⟨b, i * 4 + 2, none⟩ = some (.string l[i].b) ∧ w.cell? ⟨b, i * 4 + 3, none⟩ = some (.int .i64 (l[i].n : Int)) := by
  obtain ⟨b, hA, hc⟩ := own_cells h (encM_len l) (by omega)
  obtain ⟨h1, h2, h3, h4⟩ := encM_at hi
  exact ⟨b, hA, hc _ _ h1, hc _ _ h2, hc _ _ h3, hc _ _ h4⟩
theorem P_elem {w : World} {base : Nat} {A : Option Addr} {n c : Nat} {l : List Nat} (h : w.ownsRow base 108 1 (.slice A n c) l.length (encP l)) {i : Nat} (hi : i < l.length) : ∃ b, A = some ⟨b, 0, none⟩ ∧ w.cell? ⟨b, i, none⟩ = some (.pointer (some ⟨l[i], 0, none⟩)) := by
  obtain ⟨b, hA, hc⟩ := own_cells h (encP_len l) (by omega)
  exact ⟨b, hA, hc _ _ (encP_at hi)⟩

theorem rstr_ne {a b : ByteArray} (h : a ≠ b) : (a.toList == b.toList) = false := by
  rw [ByteArray.toList_eq, ByteArray.toList_eq]
  refine beq_eq_false_iff_ne.2 fun e => h ?_
  obtain ⟨⟨x⟩⟩ := a
  obtain ⟨⟨y⟩⟩ := b
  have e' : x = y := e
  rw [e']
set_option maxHeartbeats 4000000 in
set_option maxRecDepth 100000 in
theorem rAt_place (l : List RE) (v : Value) (s : ByteArray) (base : Nat) (w : World) (h : w.ownsRow base 107 2 v l.length (encE l)) :
    Calls Try.prog 55 #[v, .string s] w fun e w' => e = .returned (.int .i64 (atR l s)) ∧ w = w' := by
  obtain ⟨A, c, rfl, hc, hm⟩ := own_form0 h
  unfold maxLen at hm
  have H := hide h
  clear h
  go_enter Try.func55, Try.ntmps55
  go_wp2
  go_loopw [5] (fun i wr => ∃ j : Nat, i = .int .i64 (j : Int) ∧ j ≤ l.length ∧ (∀ (i : Nat) (hi : i < l.length), i < j → l[i].name ≠ s) ∧ w = wr) (fun i _ => l.length - (intOf i).toNat)
  case atStart => exact ⟨0, rfl, Nat.zero_le _, fun i _ h => by omega, rfl⟩
  case round =>
    obtain ⟨j, rfl, hj, hall, rfl⟩ := hrel
    have HA := hide hall
    clear hall
    by_cases hlt : j < l.length
    · obtain ⟨b, rfl, p0, p1⟩ := E_elem H.out hlt
      obtain ⟨x, hx⟩ : ∃ x, x = l[j].name := ⟨_, rfl⟩
      rw [← hx] at p0
      have HX := hide hx
      clear hx
      by_cases hs : x = s
      · have HS := hide (atR_found hlt (HX.out.symm.trans hs) HA.out)
        subst hs
        go_wp2
        go_ret
        exact ⟨by rw [HS.out]; rfl, rfl⟩
      · have hs' := rstr_ne hs
        have HS := hide hs
        go_wp2
        go_roundw
        case rel =>
          refine ⟨j + 1, by go_num, by omega, fun i hi h => ?_, trivial⟩
          by_cases hij : i = j
          · subst hij
            rw [← HX.out]
            exact HS.out
          · exact HA.out i hi (by omega)
        case measure => simp [intOf]; omega
    · have HB := hide (atR_none (d := l) (s := s) fun i hi => HA.out i hi (by omega))
      go_wp2
      go_ret
      exact ⟨by rw [HB.out]; rfl, rfl⟩
end Go.Proofs.Ytccapgcpdehicaa

namespace Go.Proofs.Ytccapgcpdehicaa
open Go.RowKit
attribute [local go_sem ↓] Go.wp_at_zero Go.wp_at_succ

theorem Try.infoRE : (Try.prog.info? 107).map (fun i => (i.zero, i.size, i.bytes)) = some (some (.agg #[.string ⟨#[]⟩, .int .i64 0]), 2, 24) := by kernel_rfl
theorem Try.infoRD : (Try.prog.info? 124).map (fun i => (i.zero, i.size, i.bytes)) = some (some (.agg #[.bool false, .int .i64 0, .string ⟨#[]⟩]), 3, 32) := by kernel_rfl
theorem Try.infoRM : (Try.prog.info? 76).map (fun i => (i.zero, i.size, i.bytes)) = some (some (.agg #[.int .u8 0, .string ⟨#[]⟩, .string ⟨#[]⟩, .int .i64 0]), 4, 48) := by kernel_rfl
theorem Try.infoRP : (Try.prog.info? 108).map (fun i => (i.zero, i.size, i.bytes)) = some (some (.pointer none), 1, 8) := by kernel_rfl

theorem rd_own {w : World} {base m size : Nat} {e : TypeId} {A : Option Addr} {c : Nat} {xs : List Value} (h : w.ownsRow base e size (.slice A m c) m xs) : Rd w w.heap.size A xs := fun hn => by
  have hm : 0 < m := by
    rcases Nat.eq_zero_or_pos m with h0 | h0
    · have := h.1
      rw [h0, Nat.zero_mul] at this
      exact absurd (List.eq_nil_of_length_eq_zero this) hn
    · exact h0
  rcases h.2 with ⟨_, h0⟩ | ⟨b, cap, cur, hv, _, h6, _⟩
  · omega
  · injection hv with hA _ _
    obtain ⟨b', hA', hc⟩ := own_cells h h.1 hm
    rw [hA] at hA'
    injection hA' with hA'
    injection hA' with hb _ _
    refine ⟨⟨b, 0, none⟩, hA, blk_lt h6, fun j u hu => ?_⟩
    have e : (⟨b, 0, none⟩ : Addr).add j = ⟨b, j, none⟩ := by unfold Addr.add; split <;> simp_all
    rw [e, hb]
    exact hc j u hu
theorem Rd.pre {w : World} {B : Nat} {A : Option Addr} {xs ys : List Value} (h : Rd w B A (xs ++ ys)) : Rd w B A xs := fun hn => by
  obtain ⟨ad, e, hb, hc⟩ := h (by simp [hn])
  exact ⟨ad, e, hb, fun j u hu => hc j u (by rw [List.getElem?_append_left (List.getElem?_eq_some_iff.1 hu).1]; exact hu)⟩
theorem encE_split (l : List RE) (k : Nat) : encE l = encE (l.take k) ++ encE (l.drop k) := by rw [← encE_app, List.take_append_drop]
theorem rdE_take {w : World} {B k : Nat} {A : Option Addr} {l : List RE} (h : Rd w B A (encE l)) : Rd w B A (encE (l.take k)) := by
  rw [encE_split l k] at h
  exact h.pre
theorem rdE_drop {w : World} {B k c : Nat} {A : Option Addr} {l : List RE} (h : Rd w B A (encE l)) (hk : k ≤ l.length) (hc : l.length ≤ c) : Rd w B (cutA A k c 2) (encE (l.drop k)) := fun hn => by
  have hlt : k < l.length := by
    rcases Nat.lt_or_ge k l.length with h | h
    · exact h
    · rw [List.drop_of_length_le h] at hn
      exact absurd rfl hn
  obtain ⟨ad, rfl, hb, hq⟩ := h (fun e => by have := encE_len l; rw [e] at this; simp at this; omega)
  refine ⟨ad.add (k * 2), ?_, by rw [add_block]; exact hb, fun j u hu => ?_⟩
  · unfold cutA
    rw [if_neg (by omega)]
    rfl
  · rw [add_add]
    refine hq _ _ ?_
    rw [encE_split l k, List.getElem?_append_right (by rw [encE_len, List.length_take]; omega), encE_len, List.length_take]
    rw [show k * 2 + j - min k l.length * 2 = j by rw [Nat.min_eq_left hk]; omega]
    exact hu

theorem gb_row {a b c : World} {base size n : Nat} {e : TypeId} {v : Value} {xs : List Value} (h1 : a.grownBy b none) (ho : b.ownsRow base e size v n xs) (hb : a.heap.size ≤ base) (h2 : b.grownBy c v.ownBlock) : a.grownBy c none := by
  cases q : v.ownBlock with
  | none => rw [q] at h2; exact gb_trans h1 h2 (.inl rfl)
  | some g => rw [q] at h2; exact gb_trans h1 h2 (.inr (.inr ⟨_, rfl, Nat.le_trans hb (ho.lt g q).1⟩))
section
variable {w : World} {o : Oper} {a : Act}
theorem stepE {ops : Array Oper} {K : Act → World → Prop} {Q : Exit → Act → World → Prop} {E : Prop} (hgd : o.guard = none) (s x : Operand)
    (ho : o.op = .call { callee := .builtin .append, args := #[s, x], argTypes := #[70, 70] })
    (base n m : Nat) (L l k : List RE) (v : Value) (hs : a.eval s = v) (hown : w.ownsRow base 107 2 v n (encE l)) (hn : n = l.length) (hm : m = k.length) (B : Nat) (A : Option Addr) (c : Nat) (hx : a.eval x = .slice A m c)
    (hr : Rd w B A (encE k)) (hL : L = l ++ k) (hlen : L.length ≤ 1000000000) (hbase : base ≤ w.heap.size)
    (h : ∀ A' c' w', w'.ownsRow base 107 2 (.slice A' L.length c') L.length (encE L) → w.grownBy w' v.ownBlock → ((Value.slice A' L.length c').ownBlock = v.ownBlock ∨ (Value.slice A' L.length c').ownBlock = some w.heap.size) → K (a.put o.dst (.slice A' L.length c')) w') :
    if Region.wanted o (yielded ops a.tmps) = true then Oper.wp Try.prog o a w K Q else E := by
  obtain ⟨i1, hi1, hiz, his, hib⟩ := info_parts Try.infoRE
  subst hL hn hm
  rw [List.length_append] at hlen h
  refine step_append_row hgd s x 70 ho base 107 i1 (.agg #[.string ⟨#[]⟩, .int .i64 0]) 2 24 Try.underlying70 hi1 hiz his hib rfl (Nat.succ_pos 1) v l.length (encE l) hs hown B A k.length c (encE k) hx (encE_len k) hr (oneE k) (by unfold maxLen; omega) (by omega) hbase ?_
  intro v' w' h2 h3 h4
  obtain ⟨A', c', rfl⟩ := own_slice h2
  rw [← encE_app] at h2
  exact h A' c' w' h2 h3 h4
end

set_option maxHeartbeats 4000000 in
set_option maxRecDepth 100000 in
theorem rWithout (l : List RE) (v : Value) (i base : Nat) (w : World) (h : w.ownsRow base 107 2 v l.length (encE l)) (hi : i < l.length) (hl : l.length ≤ 1000000) :
    Calls Try.prog 79 #[v, .int .i64 (i : Int)] w fun e w' => ∃ A c, e = .returned (.slice A (l.eraseIdx i).length c) ∧ w'.ownsRow w.heap.size 107 2 (.slice A (l.eraseIdx i).length c) (l.eraseIdx i).length (encE (l.eraseIdx i)) ∧ w.grownBy w' none := by
  obtain ⟨A, c, rfl, hc, hm⟩ := own_form0 h
  unfold maxLen at hm
  have H := hide h
  have HRD := hide (rd_own h)
  have h6 : IntKind.i64.wrap ((i : Int) + 1) = ((i + 1 : Nat) : Int) := by rw [IntKind.wrap_i64]; omega
  have h7 : i ≤ c := by omega
  have h8 : i + 1 ≤ l.length := by omega
  have h9 : i + 1 ≤ c := by omega
  have h10 : (i : Int) ≤ (i : Int) + 1 := by omega
  have h11 : 0 ≤ (i : Int) + 1 := by omega
  have h12 : (i : Int) + 1 ≤ (l.length : Int) := by omega
  obtain ⟨L1, hL1⟩ : ∃ L1, L1 = l.take i := ⟨_, rfl⟩
  obtain ⟨L2, hL2⟩ : ∃ L2, L2 = l.eraseIdx i := ⟨_, rfl⟩
  rw [← hL2]
  have HT1 : Hid (i = L1.length) := hide (by rw [hL1, List.length_take]; omega)
  have HT2 : Hid (l.length - (i + 1) = (l.drop (i + 1)).length) := hide (by rw [List.length_drop])
  have HE1 : Hid (L1 = [] ++ L1) := hide rfl
  have HE2 : Hid (L2 = L1 ++ l.drop (i + 1)) := hide (by rw [hL1, hL2, List.eraseIdx_eq_take_drop_succ])
  have HN1 : Hid (L1.length ≤ 1000000000) := hide (by have := HT1.out; omega)
  have HN2 : Hid (L2.length ≤ 1000000000) := hide (by rw [hL2]; have := List.length_eraseIdx_le l i; omega)
  obtain ⟨wa, hwa⟩ : ∃ wa, wa = w.alloc (.cells #[] 107) := ⟨_, rfl⟩
  have hg : w.grownBy wa none := by rw [hwa]; exact gb_alloc (gb_refl w none) _
  have HB0 : Hid (wa.heap[w.heap.size]? = some (.cells #[] 107 (0, 0))) := hide (by rw [hwa]; exact heap_alloc_new w _)
  have HO : Hid (∀ n, (wa.drewN n).ownsRow w.heap.size 107 2 (.slice (some ⟨w.heap.size, 0, none⟩) 0 0) 0 (encE [])) := hide fun n => ⟨rfl, .inr ⟨w.heap.size, 0, #[], rfl, Nat.le_refl _, HB0.out, Nat.le_refl _, Nat.zero_le _, rfl, rfl⟩⟩
  have HRT : Hid (∀ n, Rd (wa.drewN n) w.heap.size A (encE L1)) := hide fun n => by rw [hL1]; exact (rdE_take HRD.out).grown (gb_drewN hg n) (Nat.le_refl _) (by simp)
  have HRX : Hid (∀ w1, w.grownBy w1 none → Rd w1 w.heap.size (cutA A (i + 1) c 2) (encE (l.drop (i + 1)))) := hide fun w1 k => (rdE_drop HRD.out h8 hc).grown k (Nat.le_refl _) (by simp)
  have HG := hide hg
  have HWA := hide hwa
  have HH := hide (And.intro hi (And.intro hl (And.intro hc hm)))
  clear h hL1 hL2 hg hwa hi hl hc hm
  go_enter Try.func79, Try.ntmps79
  go_wp2
  by_cases hce : c = i + 1
  · subst hce
    have HRY : Hid (∀ w1, w.grownBy w1 none → Rd w1 w.heap.size A (encE (l.drop (i + 1)))) := hide fun w1 k => by have := HRX.out w1 k; unfold cutA at this; rw [if_pos rfl] at this; exact this
    go_region_law (first | (refine stepE (by rfl) (.tmp 5) (.tmp 8) (by rfl) w.heap.size 0 i L1 [] L1 (.slice (some ⟨w.heap.size, 0, none⟩) 0 0) (by rfl) (HWA.out ▸ HO.out _) rfl HT1.out w.heap.size A _ (by rfl) (HWA.out ▸ HRT.out _) HE1.out HN1.out (by simp) ?_; intro A1 c1 w1 ho1 hg1 hb1; have HO1 := hide ho1; have HG1 : Hid (w.grownBy w1 none) := hide (gb_trans (gb_drewN (gb_alloc (gb_refl w none) (.cells #[] 107)) _) hg1 (.inr (.inr ⟨_, rfl, Nat.le_refl _⟩))); clear ho1 hg1 hb1) | (refine stepE (by rfl) (.tmp 9) (.tmp 13) (by rfl) w.heap.size L1.length (l.length - (i + 1)) L2 L1 (l.drop (i + 1)) (.slice A1 L1.length c1) (by rfl) HO1.out rfl HT2.out w.heap.size _ _ (by rfl) (HRY.out _ HG1.out) HE2.out HN2.out HG1.out.size ?_; intro A2 c2 w2 ho2 hg2 hb2; have HO2 := hide ho2; have HG2 := hide hg2; clear ho2 hg2 hb2))
    all_goals
      go_wp2
      go_ret
      exact ⟨A2, c2, rfl, HO2.out, gb_row HG1.out HO1.out (Nat.le_refl _) HG2.out⟩
  · have HRY : Hid (∀ w1, w.grownBy w1 none → Rd w1 w.heap.size (A.map (·.add ((i + 1) * 2))) (encE (l.drop (i + 1)))) := hide fun w1 k => by have := HRX.out w1 k; unfold cutA at this; rw [if_neg hce] at this; exact this
    go_region_law (first | (refine stepE (by rfl) (.tmp 5) (.tmp 8) (by rfl) w.heap.size 0 i L1 [] L1 (.slice (some ⟨w.heap.size, 0, none⟩) 0 0) (by rfl) (HWA.out ▸ HO.out _) rfl HT1.out w.heap.size A _ (by rfl) (HWA.out ▸ HRT.out _) HE1.out HN1.out (by simp) ?_; intro A1 c1 w1 ho1 hg1 hb1; have HO1 := hide ho1; have HG1 : Hid (w.grownBy w1 none) := hide (gb_trans (gb_drewN (gb_alloc (gb_refl w none) (.cells #[] 107)) _) hg1 (.inr (.inr ⟨_, rfl, Nat.le_refl _⟩))); clear ho1 hg1 hb1) | (refine stepE (by rfl) (.tmp 9) (.tmp 13) (by rfl) w.heap.size L1.length (l.length - (i + 1)) L2 L1 (l.drop (i + 1)) (.slice A1 L1.length c1) (by rfl) HO1.out rfl HT2.out w.heap.size _ _ (by rfl) (HRY.out _ HG1.out) HE2.out HN2.out HG1.out.size ?_; intro A2 c2 w2 ho2 hg2 hb2; have HO2 := hide ho2; have HG2 := hide hg2; clear ho2 hg2 hb2))
    all_goals
      go_wp2
      go_ret
      exact ⟨A2, c2, rfl, HO2.out, gb_row HG1.out HO1.out (Nat.le_refl _) HG2.out⟩
end Go.Proofs.Ytccapgcpdehicaa

namespace Go.Proofs.Ytccapgcpdehicaa
open Go.RowKit
attribute [local go_sem ↓] Go.wp_at_zero Go.wp_at_succ

/-- A new directory. -/
def DirP (w : World) (L : List RE) (e : Ending) (w' : World) : Prop := ∃ A c, e = .returned (.slice A L.length c) ∧ w'.ownsRow w.heap.size 107 2 (.slice A L.length c) L.length (encE L) ∧ w.grownBy w' none
section
variable {w : World} {o : Oper} {a : Act}
theorem wpListE {ops : Array Oper} {rest : List Oper} {Q : Exit → Act → World → Prop} (hgd : o.guard = none) (s x : Operand)
    (ho : o.op = .call { callee := .builtin .append, args := #[s, x], argTypes := #[70, 70] })
    (base n m : Nat) (L l k : List RE) (v : Value) (hs : a.eval s = v) (hown : w.ownsRow base 107 2 v n (encE l)) (hn : n = l.length) (hm : m = k.length) (B : Nat) (A : Option Addr) (c : Nat) (hx : a.eval x = .slice A m c)
    (hr : Rd w B A (encE k)) (hL : L = l ++ k) (hlen : L.length ≤ 1000000000) (hbase : base ≤ w.heap.size)
    (h : ∀ A' c' w', w'.ownsRow base 107 2 (.slice A' L.length c') L.length (encE L) → w.grownBy w' v.ownBlock → ((Value.slice A' L.length c').ownBlock = v.ownBlock ∨ (Value.slice A' L.length c').ownBlock = some w.heap.size) → wpList Try.prog ops Q rest (a.put o.dst (.slice A' L.length c')) w') :
    wpList Try.prog ops Q (o :: rest) a w := by
  obtain ⟨i1, hi1, hiz, his, hib⟩ := info_parts Try.infoRE
  subst hL hn hm
  rw [List.length_append] at hlen h
  refine wpList_append_rd _ hgd s x 70 ho base 107 i1 (.agg #[.string ⟨#[]⟩, .int .i64 0]) 2 24 Try.underlying70 hi1 hiz his hib rfl (Nat.succ_pos 1) v l.length (encE l) hs hown B A k.length c (encE k) hx (encE_len k) hr (oneE k) (by unfold maxLen; omega) (by omega) hbase ?_
  intro v' w' h2 h3 h4
  obtain ⟨A', c', rfl⟩ := own_slice h2
  rw [← encE_app] at h2
  exact h A' c' w' h2 h3 h4
theorem own_none {w : World} {base b : Nat} (hb : w.heap[b]? = some (.cells #[] 107 (0, 0))) (h : base ≤ b) : w.ownsRow base 107 2 (.slice (some ⟨b, 0, none⟩) 0 0) 0 (encE []) :=
  ⟨rfl, .inr ⟨b, 0, #[], rfl, h, hb, Nat.le_refl _, Nat.zero_le _, rfl, rfl⟩⟩
end

set_option maxHeartbeats 4000000 in
set_option maxRecDepth 100000 in
theorem rMoved_c (l : List RE) (v : Value) (a b : ByteArray) (n base : Nat) (w : World) (h : w.ownsRow base 107 2 v l.length (encE l)) (hl : l.length ≤ 1000000) :
    Calls Try.prog 63 #[v, .agg #[.int .u8 99, .string a, .string b, .int .i64 (n : Int)]] w (DirP w (l ++ [⟨a, n⟩])) := by
  obtain ⟨A, c, rfl, hc, hm⟩ := own_form0 h
  unfold maxLen at hm
  obtain ⟨wa, hwa⟩ : ∃ wa, wa = w.alloc (.cells #[.int .u8 99, .string a, .string b, .int .i64 (n : Int)] 76) := ⟨_, rfl⟩
  have hg : w.grownBy wa none := by rw [hwa]; exact gb_alloc (gb_refl w none) _
  have HB : Hid (wa.heap[w.heap.size]? = some (.cells #[.int .u8 99, .string a, .string b, .int .i64 (n : Int)] 76 (0, 0))) := hide (by rw [hwa]; exact heap_alloc_new w _)
  obtain ⟨wb, hwb⟩ : ∃ wb, wb = wa.alloc (.cells #[] 107) := ⟨_, rfl⟩
  have hgb : w.grownBy wb none := by rw [hwb]; exact gb_alloc hg _
  have HO : Hid (wb.ownsRow w.heap.size 107 2 (.slice (some ⟨wa.heap.size, 0, none⟩) 0 0) 0 (encE [])) := hide (own_none (by rw [hwb]; exact heap_alloc_new wa _) hg.size)
  have HR : Hid (Rd wb w.heap.size A (encE l)) := hide ((rd_own h).grown hgb (Nat.le_refl _) (by simp))
  have HB2 := hide ((show wb.heap[w.heap.size]? = some (.cells #[.int .u8 99, .string a, .string b, .int .i64 (n : Int)] 76 (0, 0)) by rw [hwb]; exact (heap_alloc_old wa _ (blk_lt HB.out)).trans HB.out))
  have HLE : Hid (l = [] ++ l) := hide rfl
  have HLL : Hid (l.length ≤ 1000000000) := hide (by omega)
  obtain ⟨L, hL⟩ : ∃ L, L = l ++ [⟨a, n⟩] := ⟨_, rfl⟩
  rw [← hL]
  have HL := hide hL
  have HN : Hid (L.length ≤ 1000000000) := hide (by rw [hL]; simp; omega)
  have HWA := hide hwa
  have HWB := hide hwb
  have HGB := hide hgb
  clear h hl hc hm hwa hwb hg hgb hL
  go_enter Try.func63, Try.ntmps63
  go_upto_region 1 with fail
  rw [← HWA.out]
  go_wp2_with (first
    | (go_at_call 55; refine (rAt_place l _ _ _ _ HO1.out).mono ?_; rintro e wx ⟨rfl, rfl⟩)
    | (at_builtin; rw [← HWB.out]; refine wpListE rfl (.tmp 8) (.tmp 9) rfl w.heap.size 0 l.length l [] l (.slice (some ⟨wa.heap.size, 0, none⟩) 0 0) rfl HO.out rfl rfl w.heap.size A _ rfl HR.out HLE.out HLL.out HGB.out.size ?_; intro A1 c1 w1 ho1 hg1 hb1; have HO1 := hide ho1; have HG1 := hide (gb_row HGB.out HO.out (Nat.le_refl _) hg1); have HB3 : Hid (w1.heap[w.heap.size]? = some (.cells #[.int .u8 99, .string a, .string b, .int .i64 (n : Int)] 76 (0, 0))) := hide ((hg1.block _ (blk_lt HB2.out) (by simp [Value.ownBlock]; have := blk_lt HB.out; omega)).trans HB2.out); have p0 : w1.cell? ⟨w.heap.size, 0, none⟩ = some (.int .u8 99) := (by { rw [blk_cell HB3.out]; rfl }); have p1 : w1.cell? ⟨w.heap.size, 1, none⟩ = some (.string a) := (by { rw [blk_cell HB3.out]; rfl }); have p2 : w1.cell? ⟨w.heap.size, 2, none⟩ = some (.string b) := (by { rw [blk_cell HB3.out]; rfl }); have p3 : w1.cell? ⟨w.heap.size, 3, none⟩ = some (.int .i64 (n : Int)) := (by { rw [blk_cell HB3.out]; rfl }); clear ho1 hg1 hb1)
    | (at_builtin; refine wpListE rfl (.tmp 19) (.tmp 25) rfl w.heap.size l.length 1 L l [⟨a, n⟩] (.slice A1 l.length c1) rfl (HO1.out.kept (gb_alloc (gb_refl w1 none) _) (by cases (Value.slice A1 l.length c1).ownBlock <;> simp)) rfl rfl (w1.heap.size + 1) (some ⟨w1.heap.size, 0, none⟩) 1 rfl (Rd.new w1 #[.string a, .int .i64 (n : Int)] 107 _ rfl) HL.out HN.out (Nat.le_trans HG1.out.size (by simp)) ?_; intro A2 c2 w2 ho2 hg2 hb2; have HO2 := hide ho2; have HG2 := hide (gb_row (gb_alloc HG1.out _) (HO1.out.kept (gb_alloc (gb_refl w1 none) _) (by cases (Value.slice A1 l.length c1).ownBlock <;> simp)) (Nat.le_refl _) hg2); clear ho2 hg2 hb2))
  go_ret
  exact ⟨A2, c2, rfl, HO2.out, HG2.out⟩
end Go.Proofs.Ytccapgcpdehicaa

namespace Go.Proofs.Ytccapgcpdehicaa
open Go.RowKit
attribute [local go_sem ↓] Go.wp_at_zero Go.wp_at_succ

theorem rAt_at (l : List RE) (v : Value) (s : ByteArray) (base : Nat) (w : World) (x : Int) (h : w.ownsRow base 107 2 v l.length (encE l)) (hx : atR l s = x) :
    Calls Try.prog 55 #[v, .string s] w fun e w' => e = .returned (.int .i64 x) ∧ w = w' := by
  subst hx
  exact rAt_place l v s base w h
theorem rWithout_L (l L : List RE) (A : Option Addr) (n c : Nat) (i base : Nat) (w : World) (h : w.ownsRow base 107 2 (.slice A n c) n (encE l)) (hn : n = l.length) (hi : i < l.length) (hl : l.length ≤ 1000000) (hL : L = l.eraseIdx i) :
    Calls Try.prog 79 #[.slice A n c, .int .i64 (i : Int)] w (DirP w L) := by
  subst hL hn
  exact rWithout l _ i base w h hi hl
theorem ownsRow_less {w : World} {base base' size n : Nat} {e : TypeId} {v : Value} {xs : List Value} (h : w.ownsRow base e size v n xs) (hb : base' ≤ base) : w.ownsRow base' e size v n xs := by
  refine ⟨h.1, ?_⟩
  rcases h.2 with h0 | ⟨g, cap, cur, h1, h2, h3⟩
  · exact .inl h0
  · exact .inr ⟨g, cap, cur, h1, Nat.le_trans hb h2, h3⟩
set_option maxHeartbeats 4000000 in
set_option maxRecDepth 100000 in
theorem rMoved_d1 (l : List RE) (v : Value) (a b : ByteArray) (n base : Nat) (w : World) (h : w.ownsRow base 107 2 v l.length (encE l)) (hl : l.length ≤ 1000000) (j : Nat) (hj : j < l.length) (hat : atR l a = (j : Int)) :
    Calls Try.prog 63 #[v, .agg #[.int .u8 100, .string a, .string b, .int .i64 (n : Int)]] w (DirP w (l.eraseIdx j)) := by
  obtain ⟨A, c, rfl, hc, hm⟩ := own_form0 h
  unfold maxLen at hm
  obtain ⟨wa, hwa⟩ : ∃ wa, wa = w.alloc (.cells #[.int .u8 100, .string a, .string b, .int .i64 (n : Int)] 76) := ⟨_, rfl⟩
  have hg : w.grownBy wa none := by rw [hwa]; exact gb_alloc (gb_refl w none) _
  have HB : Hid (wa.heap[w.heap.size]? = some (.cells #[.int .u8 100, .string a, .string b, .int .i64 (n : Int)] 76 (0, 0))) := hide (by rw [hwa]; exact heap_alloc_new w _)
  obtain ⟨wb, hwb⟩ : ∃ wb, wb = wa.alloc (.cells #[] 107) := ⟨_, rfl⟩
  have hgb : w.grownBy wb none := by rw [hwb]; exact gb_alloc hg _
  have HO : Hid (wb.ownsRow w.heap.size 107 2 (.slice (some ⟨wa.heap.size, 0, none⟩) 0 0) 0 (encE [])) := hide (own_none (by rw [hwb]; exact heap_alloc_new wa _) hg.size)
  have HR : Hid (Rd wb w.heap.size A (encE l)) := hide ((rd_own h).grown hgb (Nat.le_refl _) (by simp))
  have HB2 := hide ((show wb.heap[w.heap.size]? = some (.cells #[.int .u8 100, .string a, .string b, .int .i64 (n : Int)] 76 (0, 0)) by rw [hwb]; exact (heap_alloc_old wa _ (blk_lt HB.out)).trans HB.out))
  have HLE : Hid (l = [] ++ l) := hide rfl
  have HLL : Hid (l.length ≤ 1000000000) := hide (by omega)
  have HLM := hide hl
  obtain ⟨L, hL⟩ : ∃ L, L = l.eraseIdx j := ⟨_, rfl⟩
  rw [← hL]
  have HL := hide hL
  have HAT := hide hat
  have HJ := hide hj
  clear hat
  clear hj hL
  have HWA := hide hwa
  have HWB := hide hwb
  have HGB := hide hgb
  clear h hl hc hm hwa hwb hg hgb
  go_enter Try.func63, Try.ntmps63
  go_upto_region 1 with fail
  rw [← HWA.out]
  go_wp2_with (first
    | (go_at_call 55; refine (rAt_at l _ _ _ _ _ HO1.out HAT.out).mono ?_; rintro e wx ⟨rfl, rfl⟩)
    | (go_at_call 79; refine (rWithout_L l L _ _ _ j _ _ HO1.out rfl HJ.out HLM.out HL.out).mono ?_; rintro e w2 ⟨A2, c2, rfl, ho2, hg2⟩; have HO2 := hide ho2; have HG2 := hide hg2; clear ho2 hg2)
    | (at_builtin; rw [← HWB.out]; refine wpListE rfl (.tmp 8) (.tmp 9) rfl w.heap.size 0 l.length l [] l (.slice (some ⟨wa.heap.size, 0, none⟩) 0 0) rfl HO.out rfl rfl w.heap.size A _ rfl HR.out HLE.out HLL.out HGB.out.size ?_; intro A1 c1 w1 ho1 hg1 hb1; have HO1 := hide ho1; have HG1 := hide (gb_row HGB.out HO.out (Nat.le_refl _) hg1); have HB3 : Hid (w1.heap[w.heap.size]? = some (.cells #[.int .u8 100, .string a, .string b, .int .i64 (n : Int)] 76 (0, 0))) := hide ((hg1.block _ (blk_lt HB2.out) (by simp [Value.ownBlock]; have := blk_lt HB.out; omega)).trans HB2.out); have p0 : w1.cell? ⟨w.heap.size, 0, none⟩ = some (.int .u8 100) := (by { rw [blk_cell HB3.out]; rfl }); have p1 : w1.cell? ⟨w.heap.size, 1, none⟩ = some (.string a) := (by { rw [blk_cell HB3.out]; rfl }); have p2 : w1.cell? ⟨w.heap.size, 2, none⟩ = some (.string b) := (by { rw [blk_cell HB3.out]; rfl }); have p3 : w1.cell? ⟨w.heap.size, 3, none⟩ = some (.int .i64 (n : Int)) := (by { rw [blk_cell HB3.out]; rfl }); clear ho1 hg1 hb1))
  go_ret
  exact ⟨A2, c2, rfl, ownsRow_less HO2.out HG1.out.size, gb_trans HG1.out HG2.out (.inl rfl)⟩

set_option maxHeartbeats 4000000 in
set_option maxRecDepth 100000 in
theorem rMoved_d0 (l : List RE) (v : Value) (a b : ByteArray) (n base : Nat) (w : World) (h : w.ownsRow base 107 2 v l.length (encE l)) (hl : l.length ≤ 1000000) (hat : atR l a = -1) :
    Calls Try.prog 63 #[v, .agg #[.int .u8 100, .string a, .string b, .int .i64 (n : Int)]] w (DirP w (l)) := by
  obtain ⟨A, c, rfl, hc, hm⟩ := own_form0 h
  unfold maxLen at hm
  obtain ⟨wa, hwa⟩ : ∃ wa, wa = w.alloc (.cells #[.int .u8 100, .string a, .string b, .int .i64 (n : Int)] 76) := ⟨_, rfl⟩
  have hg : w.grownBy wa none := by rw [hwa]; exact gb_alloc (gb_refl w none) _
  have HB : Hid (wa.heap[w.heap.size]? = some (.cells #[.int .u8 100, .string a, .string b, .int .i64 (n : Int)] 76 (0, 0))) := hide (by rw [hwa]; exact heap_alloc_new w _)
  obtain ⟨wb, hwb⟩ : ∃ wb, wb = wa.alloc (.cells #[] 107) := ⟨_, rfl⟩
  have hgb : w.grownBy wb none := by rw [hwb]; exact gb_alloc hg _
  have HO : Hid (wb.ownsRow w.heap.size 107 2 (.slice (some ⟨wa.heap.size, 0, none⟩) 0 0) 0 (encE [])) := hide (own_none (by rw [hwb]; exact heap_alloc_new wa _) hg.size)
  have HR : Hid (Rd wb w.heap.size A (encE l)) := hide ((rd_own h).grown hgb (Nat.le_refl _) (by simp))
  have HB2 := hide ((show wb.heap[w.heap.size]? = some (.cells #[.int .u8 100, .string a, .string b, .int .i64 (n : Int)] 76 (0, 0)) by rw [hwb]; exact (heap_alloc_old wa _ (blk_lt HB.out)).trans HB.out))
  have HLE : Hid (l = [] ++ l) := hide rfl
  have HLL : Hid (l.length ≤ 1000000000) := hide (by omega)
  have HLM := hide hl
  have HAT := hide hat
  clear hat
  have HWA := hide hwa
  have HWB := hide hwb
  have HGB := hide hgb
  clear h hl hc hm hwa hwb hg hgb
  go_enter Try.func63, Try.ntmps63
  go_upto_region 1 with fail
  rw [← HWA.out]
  go_wp2_with (first
    | (go_at_call 55; refine (rAt_at l _ _ _ _ _ HO1.out HAT.out).mono ?_; rintro e wx ⟨rfl, rfl⟩)
    | (at_builtin; rw [← HWB.out]; refine wpListE rfl (.tmp 8) (.tmp 9) rfl w.heap.size 0 l.length l [] l (.slice (some ⟨wa.heap.size, 0, none⟩) 0 0) rfl HO.out rfl rfl w.heap.size A _ rfl HR.out HLE.out HLL.out HGB.out.size ?_; intro A1 c1 w1 ho1 hg1 hb1; have HO1 := hide ho1; have HG1 := hide (gb_row HGB.out HO.out (Nat.le_refl _) hg1); have HB3 : Hid (w1.heap[w.heap.size]? = some (.cells #[.int .u8 100, .string a, .string b, .int .i64 (n : Int)] 76 (0, 0))) := hide ((hg1.block _ (blk_lt HB2.out) (by simp [Value.ownBlock]; have := blk_lt HB.out; omega)).trans HB2.out); have p0 : w1.cell? ⟨w.heap.size, 0, none⟩ = some (.int .u8 100) := (by { rw [blk_cell HB3.out]; rfl }); have p1 : w1.cell? ⟨w.heap.size, 1, none⟩ = some (.string a) := (by { rw [blk_cell HB3.out]; rfl }); have p2 : w1.cell? ⟨w.heap.size, 2, none⟩ = some (.string b) := (by { rw [blk_cell HB3.out]; rfl }); have p3 : w1.cell? ⟨w.heap.size, 3, none⟩ = some (.int .i64 (n : Int)) := (by { rw [blk_cell HB3.out]; rfl }); clear ho1 hg1 hb1))
  go_ret
  exact ⟨A1, c1, rfl, HO1.out, HG1.out⟩

set_option maxHeartbeats 4000000 in
set_option maxRecDepth 100000 in
theorem rMoved_r0 (l : List RE) (v : Value) (a b : ByteArray) (n base : Nat) (w : World) (h : w.ownsRow base 107 2 v l.length (encE l)) (hl : l.length ≤ 1000000) (hat : atR l a = -1) :
    Calls Try.prog 63 #[v, .agg #[.int .u8 114, .string a, .string b, .int .i64 (n : Int)]] w (DirP w (l)) := by
  obtain ⟨A, c, rfl, hc, hm⟩ := own_form0 h
  unfold maxLen at hm
  obtain ⟨wa, hwa⟩ : ∃ wa, wa = w.alloc (.cells #[.int .u8 114, .string a, .string b, .int .i64 (n : Int)] 76) := ⟨_, rfl⟩
  have hg : w.grownBy wa none := by rw [hwa]; exact gb_alloc (gb_refl w none) _
  have HB : Hid (wa.heap[w.heap.size]? = some (.cells #[.int .u8 114, .string a, .string b, .int .i64 (n : Int)] 76 (0, 0))) := hide (by rw [hwa]; exact heap_alloc_new w _)
  obtain ⟨wb, hwb⟩ : ∃ wb, wb = wa.alloc (.cells #[] 107) := ⟨_, rfl⟩
  have hgb : w.grownBy wb none := by rw [hwb]; exact gb_alloc hg _
  have HO : Hid (wb.ownsRow w.heap.size 107 2 (.slice (some ⟨wa.heap.size, 0, none⟩) 0 0) 0 (encE [])) := hide (own_none (by rw [hwb]; exact heap_alloc_new wa _) hg.size)
  have HR : Hid (Rd wb w.heap.size A (encE l)) := hide ((rd_own h).grown hgb (Nat.le_refl _) (by simp))
  have HB2 := hide ((show wb.heap[w.heap.size]? = some (.cells #[.int .u8 114, .string a, .string b, .int .i64 (n : Int)] 76 (0, 0)) by rw [hwb]; exact (heap_alloc_old wa _ (blk_lt HB.out)).trans HB.out))
  have HLE : Hid (l = [] ++ l) := hide rfl
  have HLL : Hid (l.length ≤ 1000000000) := hide (by omega)
  have HLM := hide hl
  have HAT := hide hat
  clear hat
  have HWA := hide hwa
  have HWB := hide hwb
  have HGB := hide hgb
  clear h hl hc hm hwa hwb hg hgb
  go_enter Try.func63, Try.ntmps63
  go_upto_region 1 with fail
  rw [← HWA.out]
  go_wp2_with (first
    | (go_at_call 55; refine (rAt_at l _ _ _ _ _ HO1.out HAT.out).mono ?_; rintro e wx ⟨rfl, rfl⟩)
    | (at_builtin; rw [← HWB.out]; refine wpListE rfl (.tmp 8) (.tmp 9) rfl w.heap.size 0 l.length l [] l (.slice (some ⟨wa.heap.size, 0, none⟩) 0 0) rfl HO.out rfl rfl w.heap.size A _ rfl HR.out HLE.out HLL.out HGB.out.size ?_; intro A1 c1 w1 ho1 hg1 hb1; have HO1 := hide ho1; have HG1 := hide (gb_row HGB.out HO.out (Nat.le_refl _) hg1); have HB3 : Hid (w1.heap[w.heap.size]? = some (.cells #[.int .u8 114, .string a, .string b, .int .i64 (n : Int)] 76 (0, 0))) := hide ((hg1.block _ (blk_lt HB2.out) (by simp [Value.ownBlock]; have := blk_lt HB.out; omega)).trans HB2.out); have p0 : w1.cell? ⟨w.heap.size, 0, none⟩ = some (.int .u8 114) := (by { rw [blk_cell HB3.out]; rfl }); have p1 : w1.cell? ⟨w.heap.size, 1, none⟩ = some (.string a) := (by { rw [blk_cell HB3.out]; rfl }); have p2 : w1.cell? ⟨w.heap.size, 2, none⟩ = some (.string b) := (by { rw [blk_cell HB3.out]; rfl }); have p3 : w1.cell? ⟨w.heap.size, 3, none⟩ = some (.int .i64 (n : Int)) := (by { rw [blk_cell HB3.out]; rfl }); clear ho1 hg1 hb1))
  go_ret
  exact ⟨A1, c1, rfl, HO1.out, HG1.out⟩

set_option maxHeartbeats 4000000 in
set_option maxRecDepth 100000 in
theorem rMoved_r1 (l : List RE) (v : Value) (a b : ByteArray) (n base : Nat) (w : World) (h : w.ownsRow base 107 2 v l.length (encE l)) (hl : l.length ≤ 1000000) (j : Nat) (hj : j < l.length) (hat : atR l a = (j : Int)) (hab : a = b) :
    Calls Try.prog 63 #[v, .agg #[.int .u8 114, .string a, .string b, .int .i64 (n : Int)]] w (DirP w (l)) := by
  obtain ⟨A, c, rfl, hc, hm⟩ := own_form0 h
  unfold maxLen at hm
  obtain ⟨wa, hwa⟩ : ∃ wa, wa = w.alloc (.cells #[.int .u8 114, .string a, .string b, .int .i64 (n : Int)] 76) := ⟨_, rfl⟩
  have hg : w.grownBy wa none := by rw [hwa]; exact gb_alloc (gb_refl w none) _
  have HB : Hid (wa.heap[w.heap.size]? = some (.cells #[.int .u8 114, .string a, .string b, .int .i64 (n : Int)] 76 (0, 0))) := hide (by rw [hwa]; exact heap_alloc_new w _)
  obtain ⟨wb, hwb⟩ : ∃ wb, wb = wa.alloc (.cells #[] 107) := ⟨_, rfl⟩
  have hgb : w.grownBy wb none := by rw [hwb]; exact gb_alloc hg _
  have HO : Hid (wb.ownsRow w.heap.size 107 2 (.slice (some ⟨wa.heap.size, 0, none⟩) 0 0) 0 (encE [])) := hide (own_none (by rw [hwb]; exact heap_alloc_new wa _) hg.size)
  have HR : Hid (Rd wb w.heap.size A (encE l)) := hide ((rd_own h).grown hgb (Nat.le_refl _) (by simp))
  have HB2 := hide ((show wb.heap[w.heap.size]? = some (.cells #[.int .u8 114, .string a, .string b, .int .i64 (n : Int)] 76 (0, 0)) by rw [hwb]; exact (heap_alloc_old wa _ (blk_lt HB.out)).trans HB.out))
  have HLE : Hid (l = [] ++ l) := hide rfl
  have HLL : Hid (l.length ≤ 1000000000) := hide (by omega)
  have HLM := hide hl
  have HAT := hide hat
  have HJ := hide hj
  clear hat
  have hab2 : (a.toList == b.toList) = true := by rw [hab]; exact beq_self_eq_true _
  clear hab
  have HWA := hide hwa
  have HWB := hide hwb
  have HGB := hide hgb
  clear h hl hc hm hwa hwb hg hgb
  go_enter Try.func63, Try.ntmps63
  go_upto_region 1 with fail
  rw [← HWA.out]
  go_wp2_with (first
    | (go_at_call 55; refine (rAt_at l _ _ _ _ _ HO1.out HAT.out).mono ?_; rintro e wx ⟨rfl, rfl⟩)
    | (at_builtin; rw [← HWB.out]; refine wpListE rfl (.tmp 8) (.tmp 9) rfl w.heap.size 0 l.length l [] l (.slice (some ⟨wa.heap.size, 0, none⟩) 0 0) rfl HO.out rfl rfl w.heap.size A _ rfl HR.out HLE.out HLL.out HGB.out.size ?_; intro A1 c1 w1 ho1 hg1 hb1; have HO1 := hide ho1; have HG1 := hide (gb_row HGB.out HO.out (Nat.le_refl _) hg1); have HB3 : Hid (w1.heap[w.heap.size]? = some (.cells #[.int .u8 114, .string a, .string b, .int .i64 (n : Int)] 76 (0, 0))) := hide ((hg1.block _ (blk_lt HB2.out) (by simp [Value.ownBlock]; have := blk_lt HB.out; omega)).trans HB2.out); have p0 : w1.cell? ⟨w.heap.size, 0, none⟩ = some (.int .u8 114) := (by { rw [blk_cell HB3.out]; rfl }); have p1 : w1.cell? ⟨w.heap.size, 1, none⟩ = some (.string a) := (by { rw [blk_cell HB3.out]; rfl }); have p2 : w1.cell? ⟨w.heap.size, 2, none⟩ = some (.string b) := (by { rw [blk_cell HB3.out]; rfl }); have p3 : w1.cell? ⟨w.heap.size, 3, none⟩ = some (.int .i64 (n : Int)) := (by { rw [blk_cell HB3.out]; rfl }); clear ho1 hg1 hb1))
  go_ret
  exact ⟨A1, c1, rfl, HO1.out, HG1.out⟩

set_option maxHeartbeats 4000000 in
set_option maxRecDepth 100000 in
theorem rMoved_r2 (l : List RE) (v : Value) (a b : ByteArray) (n base : Nat) (w : World) (h : w.ownsRow base 107 2 v l.length (encE l)) (hl : l.length ≤ 1000000) (j : Nat) (hj : j < l.length) (hat : atR l a = (j : Int)) (hab : a ≠ b) (hat2 : atR (l.eraseIdx j) b = -1) :
    Calls Try.prog 63 #[v, .agg #[.int .u8 114, .string a, .string b, .int .i64 (n : Int)]] w (DirP w (l.eraseIdx j ++ [⟨b, (l[j]'hj).n⟩])) := by
  obtain ⟨A, c, rfl, hc, hm⟩ := own_form0 h
  unfold maxLen at hm
  obtain ⟨wa, hwa⟩ : ∃ wa, wa = w.alloc (.cells #[.int .u8 114, .string a, .string b, .int .i64 (n : Int)] 76) := ⟨_, rfl⟩
  have hg : w.grownBy wa none := by rw [hwa]; exact gb_alloc (gb_refl w none) _
  have HB : Hid (wa.heap[w.heap.size]? = some (.cells #[.int .u8 114, .string a, .string b, .int .i64 (n : Int)] 76 (0, 0))) := hide (by rw [hwa]; exact heap_alloc_new w _)
  obtain ⟨wb, hwb⟩ : ∃ wb, wb = wa.alloc (.cells #[] 107) := ⟨_, rfl⟩
  have hgb : w.grownBy wb none := by rw [hwb]; exact gb_alloc hg _
  have HO : Hid (wb.ownsRow w.heap.size 107 2 (.slice (some ⟨wa.heap.size, 0, none⟩) 0 0) 0 (encE [])) := hide (own_none (by rw [hwb]; exact heap_alloc_new wa _) hg.size)
  have HR : Hid (Rd wb w.heap.size A (encE l)) := hide ((rd_own h).grown hgb (Nat.le_refl _) (by simp))
  have HB2 := hide ((show wb.heap[w.heap.size]? = some (.cells #[.int .u8 114, .string a, .string b, .int .i64 (n : Int)] 76 (0, 0)) by rw [hwb]; exact (heap_alloc_old wa _ (blk_lt HB.out)).trans HB.out))
  have HLE : Hid (l = [] ++ l) := hide rfl
  have HLL : Hid (l.length ≤ 1000000000) := hide (by omega)
  have HLM := hide hl
  obtain ⟨N, hN⟩ : ∃ N, N = (l[j]'hj).n := ⟨_, rfl⟩
  obtain ⟨L1, hL1⟩ : ∃ L1, L1 = l.eraseIdx j := ⟨_, rfl⟩
  rw [← hL1] at hat2
  rw [← hN, ← hL1]
  have hab2 := rstr_ne hab
  have HL1 := hide hL1
  have HL1M : Hid (L1.length ≤ 1000000) := hide (by rw [hL1]; have := List.length_eraseIdx_le l j; omega)
  have HAT2 := hide hat2
  have HNN := hide hN
  obtain ⟨L, hL⟩ : ∃ L, L = L1 ++ [⟨b, N⟩] := ⟨_, rfl⟩
  rw [← hL]
  have HL := hide hL
  have HAT := hide hat
  have HJ := hide hj
  clear hat
  have HN : Hid (L.length ≤ 1000000000) := hide (by have := HL1M.out; rw [hL]; simp; omega)
  clear hN hL hL1 hat2 hab
  have HWA := hide hwa
  have HWB := hide hwb
  have HGB := hide hgb
  clear h hl hc hm hwa hwb hg hgb
  go_enter Try.func63, Try.ntmps63
  go_upto_region 1 with fail
  rw [← HWA.out]
  go_wp2_with (first
    | (go_at_call 55; refine (rAt_at L1 _ _ _ _ _ HO2.out HAT2.out).mono ?_; rintro e wx ⟨rfl, rfl⟩)
    | (go_at_call 55; refine (rAt_at l _ _ _ _ _ HO1.out HAT.out).mono ?_; rintro e wx ⟨rfl, rfl⟩)
    | (go_at_call 79; refine (rWithout_L l L1 _ _ _ j _ _ HO1.out rfl HJ.out HLM.out HL1.out).mono ?_; rintro e w2 ⟨A2, c2, rfl, ho2, hg2⟩; have HO2 := hide (ownsRow_less ho2 HG1.out.size); have HG2 := hide (gb_trans HG1.out hg2 (.inl rfl)); have p0 := cell_grown p0 hg2; have p1 := cell_grown p1 hg2; have p2 := cell_grown p2 hg2; have p3 := cell_grown p3 hg2; clear ho2 hg2 q0 q1)
    | (at_builtin; refine wpListE rfl (.tmp 63) (.tmp 68) rfl w.heap.size L1.length 1 L L1 [⟨b, N⟩] (.slice A2 L1.length c2) rfl (HO2.out.kept (gb_alloc (gb_refl w2 none) _) (by cases (Value.slice A2 L1.length c2).ownBlock <;> simp)) rfl rfl (w2.heap.size + 1) (some ⟨w2.heap.size, 0, none⟩) 1 rfl (Rd.new w2 #[.string b, .int .i64 (N : Int)] 107 _ rfl) HL.out HN.out (Nat.le_trans HG2.out.size (by simp)) ?_; intro A9 c9 w9 ho9 hg9 hb9; have HO9 := hide ho9; have HG9 := hide (gb_row (gb_alloc HG2.out _) (HO2.out.kept (gb_alloc (gb_refl w2 none) _) (by cases (Value.slice A2 L1.length c2).ownBlock <;> simp)) (Nat.le_refl _) hg9); clear ho9 hg9 hb9)
    | (at_builtin; rw [← HWB.out]; refine wpListE rfl (.tmp 8) (.tmp 9) rfl w.heap.size 0 l.length l [] l (.slice (some ⟨wa.heap.size, 0, none⟩) 0 0) rfl HO.out rfl rfl w.heap.size A _ rfl HR.out HLE.out HLL.out HGB.out.size ?_; intro A1 c1 w1 ho1 hg1 hb1; have HO1 := hide ho1; have HG1 := hide (gb_row HGB.out HO.out (Nat.le_refl _) hg1); have HB3 : Hid (w1.heap[w.heap.size]? = some (.cells #[.int .u8 114, .string a, .string b, .int .i64 (n : Int)] 76 (0, 0))) := hide ((hg1.block _ (blk_lt HB2.out) (by simp [Value.ownBlock]; have := blk_lt HB.out; omega)).trans HB2.out); have p0 : w1.cell? ⟨w.heap.size, 0, none⟩ = some (.int .u8 114) := (by { rw [blk_cell HB3.out]; rfl }); have p1 : w1.cell? ⟨w.heap.size, 1, none⟩ = some (.string a) := (by { rw [blk_cell HB3.out]; rfl }); have p2 : w1.cell? ⟨w.heap.size, 2, none⟩ = some (.string b) := (by { rw [blk_cell HB3.out]; rfl }); have p3 : w1.cell? ⟨w.heap.size, 3, none⟩ = some (.int .i64 (n : Int)) := (by { rw [blk_cell HB3.out]; rfl }); obtain ⟨b1, rfl, q0, q1⟩ := E_elem ho1 HJ.out; rw [← HNN.out] at q1; clear ho1 hg1 hb1))
  go_ret
  exact ⟨A9, c9, rfl, HO9.out, HG9.out⟩

set_option maxHeartbeats 4000000 in
set_option maxRecDepth 100000 in
theorem rMoved_r3 (l : List RE) (v : Value) (a b : ByteArray) (n base : Nat) (w : World) (h : w.ownsRow base 107 2 v l.length (encE l)) (hl : l.length ≤ 1000000) (j : Nat) (hj : j < l.length) (hat : atR l a = (j : Int)) (hab : a ≠ b) (k : Nat) (hk : k < (l.eraseIdx j).length) (hat2 : atR (l.eraseIdx j) b = (k : Int)) :
    Calls Try.prog 63 #[v, .agg #[.int .u8 114, .string a, .string b, .int .i64 (n : Int)]] w (DirP w ((l.eraseIdx j).eraseIdx k ++ [⟨b, (l[j]'hj).n⟩])) := by
  obtain ⟨A, c, rfl, hc, hm⟩ := own_form0 h
  unfold maxLen at hm
  obtain ⟨wa, hwa⟩ : ∃ wa, wa = w.alloc (.cells #[.int .u8 114, .string a, .string b, .int .i64 (n : Int)] 76) := ⟨_, rfl⟩
  have hg : w.grownBy wa none := by rw [hwa]; exact gb_alloc (gb_refl w none) _
  have HB : Hid (wa.heap[w.heap.size]? = some (.cells #[.int .u8 114, .string a, .string b, .int .i64 (n : Int)] 76 (0, 0))) := hide (by rw [hwa]; exact heap_alloc_new w _)
  obtain ⟨wb, hwb⟩ : ∃ wb, wb = wa.alloc (.cells #[] 107) := ⟨_, rfl⟩
  have hgb : w.grownBy wb none := by rw [hwb]; exact gb_alloc hg _
  have HO : Hid (wb.ownsRow w.heap.size 107 2 (.slice (some ⟨wa.heap.size, 0, none⟩) 0 0) 0 (encE [])) := hide (own_none (by rw [hwb]; exact heap_alloc_new wa _) hg.size)
  have HR : Hid (Rd wb w.heap.size A (encE l)) := hide ((rd_own h).grown hgb (Nat.le_refl _) (by simp))
  have HB2 := hide ((show wb.heap[w.heap.size]? = some (.cells #[.int .u8 114, .string a, .string b, .int .i64 (n : Int)] 76 (0, 0)) by rw [hwb]; exact (heap_alloc_old wa _ (blk_lt HB.out)).trans HB.out))
  have HLE : Hid (l = [] ++ l) := hide rfl
  have HLL : Hid (l.length ≤ 1000000000) := hide (by omega)
  have HLM := hide hl
  obtain ⟨N, hN⟩ : ∃ N, N = (l[j]'hj).n := ⟨_, rfl⟩
  obtain ⟨L1, hL1⟩ : ∃ L1, L1 = l.eraseIdx j := ⟨_, rfl⟩
  rw [← hL1] at hat2 hk
  rw [← hN, ← hL1]
  obtain ⟨L2, hL2⟩ : ∃ L2, L2 = L1.eraseIdx k := ⟨_, rfl⟩
  rw [← hL2]
  have hab2 := rstr_ne hab
  have HL1 := hide hL1
  have HL2 := hide hL2
  have HK := hide hk
  have HL1M : Hid (L1.length ≤ 1000000) := hide (by rw [hL1]; have := List.length_eraseIdx_le l j; omega)
  have HL2M : Hid (L2.length ≤ 1000000) := hide (by have := HL1M.out; rw [hL2]; have := List.length_eraseIdx_le L1 k; omega)
  have HAT2 := hide hat2
  have HNN := hide hN
  obtain ⟨L, hL⟩ : ∃ L, L = L2 ++ [⟨b, N⟩] := ⟨_, rfl⟩
  rw [← hL]
  have HL := hide hL
  have HAT := hide hat
  have HJ := hide hj
  clear hat
  have HN : Hid (L.length ≤ 1000000000) := hide (by have := HL2M.out; rw [hL]; simp; omega)
  clear hN hL hL1 hL2 hat2 hk hab
  have HWA := hide hwa
  have HWB := hide hwb
  have HGB := hide hgb
  clear h hl hc hm hwa hwb hg hgb
  go_enter Try.func63, Try.ntmps63
  go_upto_region 1 with fail
  rw [← HWA.out]
  go_wp2_with (first
    | (go_at_call 55; refine (rAt_at L1 _ _ _ _ _ HO2.out HAT2.out).mono ?_; rintro e wx ⟨rfl, rfl⟩)
    | (go_at_call 55; refine (rAt_at l _ _ _ _ _ HO1.out HAT.out).mono ?_; rintro e wx ⟨rfl, rfl⟩)
    | (go_at_call 79; refine (rWithout_L L1 L2 _ _ _ k _ _ HO2.out rfl HK.out HL1M.out HL2.out).mono ?_; rintro e w3 ⟨A3, c3, rfl, ho3, hg3⟩; have HO3 := hide (ownsRow_less ho3 HG2.out.size); have HG3 := hide (gb_trans HG2.out hg3 (.inl rfl)); have p0 := cell_grown p0 hg3; have p1 := cell_grown p1 hg3; have p2 := cell_grown p2 hg3; have p3 := cell_grown p3 hg3; clear ho3 hg3)
    | (go_at_call 79; refine (rWithout_L l L1 _ _ _ j _ _ HO1.out rfl HJ.out HLM.out HL1.out).mono ?_; rintro e w2 ⟨A2, c2, rfl, ho2, hg2⟩; have HO2 := hide (ownsRow_less ho2 HG1.out.size); have HG2 := hide (gb_trans HG1.out hg2 (.inl rfl)); have p0 := cell_grown p0 hg2; have p1 := cell_grown p1 hg2; have p2 := cell_grown p2 hg2; have p3 := cell_grown p3 hg2; clear ho2 hg2 q0 q1)
    | (at_builtin; refine wpListE rfl (.tmp 63) (.tmp 68) rfl w.heap.size L2.length 1 L L2 [⟨b, N⟩] (.slice A3 L2.length c3) rfl (HO3.out.kept (gb_alloc (gb_refl w3 none) _) (by cases (Value.slice A3 L2.length c3).ownBlock <;> simp)) rfl rfl (w3.heap.size + 1) (some ⟨w3.heap.size, 0, none⟩) 1 rfl (Rd.new w3 #[.string b, .int .i64 (N : Int)] 107 _ rfl) HL.out HN.out (Nat.le_trans HG3.out.size (by simp)) ?_; intro A9 c9 w9 ho9 hg9 hb9; have HO9 := hide ho9; have HG9 := hide (gb_row (gb_alloc HG3.out _) (HO3.out.kept (gb_alloc (gb_refl w3 none) _) (by cases (Value.slice A3 L2.length c3).ownBlock <;> simp)) (Nat.le_refl _) hg9); clear ho9 hg9 hb9)
    | (at_builtin; rw [← HWB.out]; refine wpListE rfl (.tmp 8) (.tmp 9) rfl w.heap.size 0 l.length l [] l (.slice (some ⟨wa.heap.size, 0, none⟩) 0 0) rfl HO.out rfl rfl w.heap.size A _ rfl HR.out HLE.out HLL.out HGB.out.size ?_; intro A1 c1 w1 ho1 hg1 hb1; have HO1 := hide ho1; have HG1 := hide (gb_row HGB.out HO.out (Nat.le_refl _) hg1); have HB3 : Hid (w1.heap[w.heap.size]? = some (.cells #[.int .u8 114, .string a, .string b, .int .i64 (n : Int)] 76 (0, 0))) := hide ((hg1.block _ (blk_lt HB2.out) (by simp [Value.ownBlock]; have := blk_lt HB.out; omega)).trans HB2.out); have p0 : w1.cell? ⟨w.heap.size, 0, none⟩ = some (.int .u8 114) := (by { rw [blk_cell HB3.out]; rfl }); have p1 : w1.cell? ⟨w.heap.size, 1, none⟩ = some (.string a) := (by { rw [blk_cell HB3.out]; rfl }); have p2 : w1.cell? ⟨w.heap.size, 2, none⟩ = some (.string b) := (by { rw [blk_cell HB3.out]; rfl }); have p3 : w1.cell? ⟨w.heap.size, 3, none⟩ = some (.int .i64 (n : Int)) := (by { rw [blk_cell HB3.out]; rfl }); obtain ⟨b1, rfl, q0, q1⟩ := E_elem ho1 HJ.out; rw [← HNN.out] at q1; clear ho1 hg1 hb1))
  go_ret
  exact ⟨A9, c9, rfl, HO9.out, HG9.out⟩
end Go.Proofs.Ytccapgcpdehicaa
