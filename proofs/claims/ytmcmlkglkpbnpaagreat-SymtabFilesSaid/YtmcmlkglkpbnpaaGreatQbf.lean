/-
  The document's file system: how much is used.
-/
import Derived.Test.YtmcmlkglkpbnpaaGreatQbe
import Derived.Test.YtmcmlkglkpbnpaaGreatQax
import Derived.Test.YtmcmlkglkpbnpaaGreatQaz
import Derived.Deep.RegionLaw
import Derived.Test.YtmcmlkglkpbnpaaGreatQba
import Derived.BigQuiet
namespace Go.Proofs.YtmcmlkglkpbnpaaGreat
open Go.RowKit
attribute [local go_sem ↓] Go.wp_at_zero Go.wp_at_succ
theorem Tryz.infoRE : (Tryz.prog.info? 151).map (fun i => (i.zero, i.size, i.bytes)) = some (some (.agg #[.string ⟨#[]⟩, .int .i64 0]), 2, 24) := by kernel_rfl
theorem Tryz.infoRD : (Tryz.prog.info? 111).map (fun i => (i.zero, i.size, i.bytes)) = some (some (.agg #[.bool false, .int .i64 0, .string ⟨#[]⟩]), 3, 32) := by kernel_rfl
theorem Tryz.infoRM : (Tryz.prog.info? 103).map (fun i => (i.zero, i.size, i.bytes)) = some (some (.agg #[.int .u8 0, .string ⟨#[]⟩, .string ⟨#[]⟩, .int .i64 0]), 4, 48) := by kernel_rfl
theorem Tryz.infoRP : (Tryz.prog.info? 104).map (fun i => (i.zero, i.size, i.bytes)) = some (some (.pointer none), 1, 8) := by kernel_rfl
theorem rd_own {w : World} {base m size : Nat} {e : TypeId} {A : Option Addr} {c : Nat} {xs : List Value} (h : w.ownsRow base e size (.slice A m c) m xs) : Rd w w.heap.size A xs := fun hn => by
 have hm : 0 < m := by
  rcases Nat.eq_zero_or_pos m with h0 | h0
  ·have := h.1
   rw [h0, Nat.zero_mul] at this
   exact absurd (List.eq_nil_of_length_eq_zero this) hn
  ·exact h0
 rcases h.2 with ⟨_, h0⟩ | ⟨b, cap, cur, hv, _, h6, _⟩
 ·omega
 ·injection hv with hA _ _
  obtain ⟨b', hA', hc⟩ := own_cells h h.1 hm
  rw [hA] at hA'
  injection hA' with hA'
  injection hA' with hb _ _
  refine ⟨⟨b, 0, none⟩, hA, blk_lt h6, fun j u hu => ?_⟩
  have e : (⟨b, 0, none⟩ : Addr).add j = ⟨b, j, none⟩ := by unfold Addr.add; split <;> simp_all
  rw [e, hb]
  exact hc j u hu
theorem Rd.pre {w : World} {B : Nat} {A : Option Addr} {xs ys : List Value} (h : Rd w B A (xs ++ ys)) : Rd w B A xs := fun hn => by
 obtain ⟨ad, e, hb, hc⟩ := h (by simp [hn])
 exact ⟨ad, e, hb, fun j u hu => hc j u (by rw [List.getElem?_append_left (List.getElem?_eq_some_iff.1 hu).1]; exact hu)⟩
theorem encE_split (l : List RE) (k : Nat) : encE l = encE (l.take k) ++ encE (l.drop k) := by rw [← encE_app, List.take_append_drop]
theorem rdE_take {w : World} {B k : Nat} {A : Option Addr} {l : List RE} (h : Rd w B A (encE l)) : Rd w B A (encE (l.take k)) := by
 rw [encE_split l k] at h
 exact h.pre
theorem rdE_drop {w : World} {B k c : Nat} {A : Option Addr} {l : List RE} (h : Rd w B A (encE l)) (hk : k ≤ l.length) (hc : l.length ≤ c) : Rd w B (cutA A k c 2) (encE (l.drop k)) := fun hn => by
 have hlt : k < l.length := by
  rcases Nat.lt_or_ge k l.length with h | h
  ·exact h
  ·rw [List.drop_of_length_le h] at hn
   exact absurd rfl hn
 obtain ⟨ad, rfl, hb, hq⟩ := h (fun e => by have := encE_len l; rw [e] at this; simp at this; omega)
 refine ⟨ad.add (k * 2), ?_, by rw [add_block]; exact hb, fun j u hu => ?_⟩
 ·unfold cutA
  rw [if_neg (by omega)]
  rfl
 ·rw [add_add]
  refine hq _ _ ?_
  rw [encE_split l k, List.getElem?_append_right (by rw [encE_len, List.length_take]; omega), encE_len, List.length_take]
  rw [show k * 2 + j - min k l.length * 2 = j by rw [Nat.min_eq_left hk]; omega]
  exact hu
theorem gb_row {a b c : World} {base size n : Nat} {e : TypeId} {v : Value} {xs : List Value} (h1 : a.grownBy b none) (ho : b.ownsRow base e size v n xs) (hb : a.heap.size ≤ base) (h2 : b.grownBy c v.ownBlock) : a.grownBy c none := by
 cases q : v.ownBlock with
 | none => rw [q] at h2; exact gb_trans h1 h2 (.inl rfl)
 | some g => rw [q] at h2; exact gb_trans h1 h2 (.inr (.inr ⟨_, rfl, Nat.le_trans hb (ho.lt g q).1⟩))
section
variable {w : World} {o : Oper} {a : Act}
theorem stepE {ops : Array Oper} {K : Act → World → Prop} {Q : Exit → Act → World → Prop} {E : Prop} (hgd : o.guard = none) (s x : Operand)
  (ho : o.op = .call { callee := .builtin .append, args := #[s, x], argTypes := #[83, 83] })
  (base n m : Nat) (L l k : List RE) (v : Value) (hs : a.eval s = v) (hown : w.ownsRow base 151 2 v n (encE l)) (hn : n = l.length) (hm : m = k.length) (B : Nat) (A : Option Addr) (c : Nat) (hx : a.eval x = .slice A m c)
  (hr : Rd w B A (encE k)) (hL : L = l ++ k) (hlen : L.length ≤ 1000000000) (hbase : base ≤ w.heap.size)
  (h : ∀ A' c' w', w'.ownsRow base 151 2 (.slice A' L.length c') L.length (encE L) → w.grownBy w' v.ownBlock → ((Value.slice A' L.length c').ownBlock = v.ownBlock ∨ (Value.slice A' L.length c').ownBlock = some w.heap.size) → K (a.put o.dst (.slice A' L.length c')) w') :
  if Region.wanted o (yielded ops a.tmps) = true then Oper.wp Tryz.prog o a w K Q else E := by
 obtain ⟨i1, hi1, hiz, his, hib⟩ := info_parts Tryz.infoRE
 subst hL hn hm
 rw [List.length_append] at hlen h
 refine step_append_row hgd s x 83 ho base 151 i1 (.agg #[.string ⟨#[]⟩, .int .i64 0]) 2 24 Tryz.underlying83 hi1 hiz his hib rfl (Nat.succ_pos 1) v l.length (encE l) hs hown B A k.length c (encE k) hx (encE_len k) hr (oneE k) (by unfold maxLen; omega) (by omega) hbase ?_
 intro v' w' h2 h3 h4
 obtain ⟨A', c', rfl⟩ := own_slice h2
 rw [← encE_app] at h2
 exact h A' c' w' h2 h3 h4
end
set_option maxHeartbeats 4000000 in
set_option maxRecDepth 100000 in
theorem rWithout (l : List RE) (v : Value) (i base : Nat) (w : World) (h : w.ownsRow base 151 2 v l.length (encE l)) (hi : i < l.length) (hl : l.length ≤ 1000000) :
  Calls Tryz.prog 72 #[v, .int .i64 (i : Int)] w fun e w' => ∃ A c, e = .returned (.slice A (l.eraseIdx i).length c) ∧ w'.ownsRow w.heap.size 151 2 (.slice A (l.eraseIdx i).length c) (l.eraseIdx i).length (encE (l.eraseIdx i)) ∧ w.grownBy w' none := by
 obtain ⟨A, c, rfl, hc, hm⟩ := own_form0 h
 unfold maxLen at hm
 have H := hide h
 have HRD := hide (rd_own h)
 have h6 : IntKind.i64.wrap ((i : Int) + 1) = ((i + 1 : Nat) : Int) := by rw [IntKind.wrap_i64]; omega
 have h7 : i ≤ c := by omega
 have h8 : i + 1 ≤ l.length := by omega
 have h9 : i + 1 ≤ c := by omega
 have h10 : (i : Int) ≤ (i : Int) + 1 := by omega
 have h11 : 0 ≤ (i : Int) + 1 := by omega
 have h12 : (i : Int) + 1 ≤ (l.length : Int) := by omega
 obtain ⟨L1, hL1⟩ : ∃ L1, L1 = l.take i := ⟨_, rfl⟩
 obtain ⟨L2, hL2⟩ : ∃ L2, L2 = l.eraseIdx i := ⟨_, rfl⟩
 rw [← hL2]
 have HT1 : Hid (i = L1.length) := hide (by rw [hL1, List.length_take]; omega)
 have HT2 : Hid (l.length - (i + 1) = (l.drop (i + 1)).length) := hide (by rw [List.length_drop])
 have HE1 : Hid (L1 = [] ++ L1) := hide rfl
 have HE2 : Hid (L2 = L1 ++ l.drop (i + 1)) := hide (by rw [hL1, hL2, List.eraseIdx_eq_take_drop_succ])
 have HN1 : Hid (L1.length ≤ 1000000000) := hide (by have := HT1.out; omega)
 have HN2 : Hid (L2.length ≤ 1000000000) := hide (by rw [hL2]; have := List.length_eraseIdx_le l i; omega)
 obtain ⟨wa, hwa⟩ : ∃ wa, wa = w.alloc (.cells #[] 151) := ⟨_, rfl⟩
 have hg : w.grownBy wa none := by rw [hwa]; exact gb_alloc (gb_refl w none) _
 have HB0 : Hid (wa.heap[w.heap.size]? = some (.cells #[] 151 (0, 0))) := hide (by rw [hwa]; exact heap_alloc_new w _)
 have HO : Hid (∀ n, (wa.drewN n).ownsRow w.heap.size 151 2 (.slice (some ⟨w.heap.size, 0, none⟩) 0 0) 0 (encE [])) := hide fun n => ⟨rfl, .inr ⟨w.heap.size, 0, #[], rfl, Nat.le_refl _, HB0.out, Nat.le_refl _, Nat.zero_le _, rfl, rfl⟩⟩
 have HRT : Hid (∀ n, Rd (wa.drewN n) w.heap.size A (encE L1)) := hide fun n => by rw [hL1]; exact (rdE_take HRD.out).grown (gb_drewN hg n) (Nat.le_refl _) (by simp)
 have HRX : Hid (∀ w1, w.grownBy w1 none → Rd w1 w.heap.size (cutA A (i + 1) c 2) (encE (l.drop (i + 1)))) := hide fun w1 k => (rdE_drop HRD.out h8 hc).grown k (Nat.le_refl _) (by simp)
 have HG := hide hg
 have HWA := hide hwa
 have HH := hide (And.intro hi (And.intro hl (And.intro hc hm)))
 clear h hL1 hL2 hg hwa hi hl hc hm
 go_enter Tryz.func72, Tryz.ntmps72
 go_wp2
 by_cases hce : c = i + 1
 ·subst hce
  have HRY : Hid (∀ w1, w.grownBy w1 none → Rd w1 w.heap.size A (encE (l.drop (i + 1)))) := hide fun w1 k => by have := HRX.out w1 k; unfold cutA at this; rw [if_pos rfl] at this; exact this
  go_region_law (first | (refine stepE (by rfl) (.tmp 5) (.tmp 8) (by rfl) w.heap.size 0 i L1 [] L1 (.slice (some ⟨w.heap.size, 0, none⟩) 0 0) (by rfl) (HWA.out ▸ HO.out _) rfl HT1.out w.heap.size A _ (by rfl) (HWA.out ▸ HRT.out _) HE1.out HN1.out (by simp) ?_; intro A1 c1 w1 ho1 hg1 hb1; have HO1 := hide ho1; have HG1 : Hid (w.grownBy w1 none) := hide (gb_trans (gb_drewN (gb_alloc (gb_refl w none) (.cells #[] 151)) _) hg1 (.inr (.inr ⟨_, rfl, Nat.le_refl _⟩))); clear ho1 hg1 hb1) | (refine stepE (by rfl) (.tmp 9) (.tmp 13) (by rfl) w.heap.size L1.length (l.length - (i + 1)) L2 L1 (l.drop (i + 1)) (.slice A1 L1.length c1) (by rfl) HO1.out rfl HT2.out w.heap.size _ _ (by rfl) (HRY.out _ HG1.out) HE2.out HN2.out HG1.out.size ?_; intro A2 c2 w2 ho2 hg2 hb2; have HO2 := hide ho2; have HG2 := hide hg2; clear ho2 hg2 hb2))
  all_goals
   go_wp2
   go_ret
   exact ⟨A2, c2, rfl, HO2.out, gb_row HG1.out HO1.out (Nat.le_refl _) HG2.out⟩
 ·have HRY : Hid (∀ w1, w.grownBy w1 none → Rd w1 w.heap.size (A.map (·.add ((i + 1) * 2))) (encE (l.drop (i + 1)))) := hide fun w1 k => by have := HRX.out w1 k; unfold cutA at this; rw [if_neg hce] at this; exact this
  go_region_law (first | (refine stepE (by rfl) (.tmp 5) (.tmp 8) (by rfl) w.heap.size 0 i L1 [] L1 (.slice (some ⟨w.heap.size, 0, none⟩) 0 0) (by rfl) (HWA.out ▸ HO.out _) rfl HT1.out w.heap.size A _ (by rfl) (HWA.out ▸ HRT.out _) HE1.out HN1.out (by simp) ?_; intro A1 c1 w1 ho1 hg1 hb1; have HO1 := hide ho1; have HG1 : Hid (w.grownBy w1 none) := hide (gb_trans (gb_drewN (gb_alloc (gb_refl w none) (.cells #[] 151)) _) hg1 (.inr (.inr ⟨_, rfl, Nat.le_refl _⟩))); clear ho1 hg1 hb1) | (refine stepE (by rfl) (.tmp 9) (.tmp 13) (by rfl) w.heap.size L1.length (l.length - (i + 1)) L2 L1 (l.drop (i + 1)) (.slice A1 L1.length c1) (by rfl) HO1.out rfl HT2.out w.heap.size _ _ (by rfl) (HRY.out _ HG1.out) HE2.out HN2.out HG1.out.size ?_; intro A2 c2 w2 ho2 hg2 hb2; have HO2 := hide ho2; have HG2 := hide hg2; clear ho2 hg2 hb2))
  all_goals
   go_wp2
   go_ret
   exact ⟨A2, c2, rfl, HO2.out, gb_row HG1.out HO1.out (Nat.le_refl _) HG2.out⟩
end Go.Proofs.YtmcmlkglkpbnpaaGreat
namespace Go.Proofs.YtmcmlkglkpbnpaaGreat
open Go.RowKit
attribute [local go_sem ↓] Go.wp_at_zero Go.wp_at_succ
def DirP (w : World) (L : List RE) (e : Ending) (w' : World) : Prop := ∃ A c, e = .returned (.slice A L.length c) ∧ w'.ownsRow w.heap.size 151 2 (.slice A L.length c) L.length (encE L) ∧ w.grownBy w' none
section
variable {w : World} {o : Oper} {a : Act}
theorem wpListE {ops : Array Oper} {rest : List Oper} {Q : Exit → Act → World → Prop} (hgd : o.guard = none) (s x : Operand)
  (ho : o.op = .call { callee := .builtin .append, args := #[s, x], argTypes := #[83, 83] })
  (base n m : Nat) (L l k : List RE) (v : Value) (hs : a.eval s = v) (hown : w.ownsRow base 151 2 v n (encE l)) (hn : n = l.length) (hm : m = k.length) (B : Nat) (A : Option Addr) (c : Nat) (hx : a.eval x = .slice A m c)
  (hr : Rd w B A (encE k)) (hL : L = l ++ k) (hlen : L.length ≤ 1000000000) (hbase : base ≤ w.heap.size)
  (h : ∀ A' c' w', w'.ownsRow base 151 2 (.slice A' L.length c') L.length (encE L) → w.grownBy w' v.ownBlock → ((Value.slice A' L.length c').ownBlock = v.ownBlock ∨ (Value.slice A' L.length c').ownBlock = some w.heap.size) → wpList Tryz.prog ops Q rest (a.put o.dst (.slice A' L.length c')) w') :
  wpList Tryz.prog ops Q (o :: rest) a w := by
 obtain ⟨i1, hi1, hiz, his, hib⟩ := info_parts Tryz.infoRE
 subst hL hn hm
 rw [List.length_append] at hlen h
 refine wpList_append_rd _ hgd s x 83 ho base 151 i1 (.agg #[.string ⟨#[]⟩, .int .i64 0]) 2 24 Tryz.underlying83 hi1 hiz his hib rfl (Nat.succ_pos 1) v l.length (encE l) hs hown B A k.length c (encE k) hx (encE_len k) hr (oneE k) (by unfold maxLen; omega) (by omega) hbase ?_
 intro v' w' h2 h3 h4
 obtain ⟨A', c', rfl⟩ := own_slice h2
 rw [← encE_app] at h2
 exact h A' c' w' h2 h3 h4
theorem own_none {w : World} {base b : Nat} (hb : w.heap[b]? = some (.cells #[] 151 (0, 0))) (h : base ≤ b) : w.ownsRow base 151 2 (.slice (some ⟨b, 0, none⟩) 0 0) 0 (encE []) :=
 ⟨rfl, .inr ⟨b, 0, #[], rfl, h, hb, Nat.le_refl _, Nat.zero_le _, rfl, rfl⟩⟩
end
set_option maxHeartbeats 4000000 in
set_option maxRecDepth 100000 in
theorem rMoved_c (l : List RE) (v : Value) (a b : ByteArray) (n base : Nat) (w : World) (h : w.ownsRow base 151 2 v l.length (encE l)) (hl : l.length ≤ 1000000) :
  Calls Tryz.prog 35 #[v, .agg #[.int .u8 99, .string a, .string b, .int .i64 (n : Int)]] w (DirP w (l ++ [⟨a, n⟩])) := by
 obtain ⟨A, c, rfl, hc, hm⟩ := own_form0 h
 unfold maxLen at hm
 obtain ⟨wa, hwa⟩ : ∃ wa, wa = w.alloc (.cells #[.int .u8 99, .string a, .string b, .int .i64 (n : Int)] 103) := ⟨_, rfl⟩
 have hg : w.grownBy wa none := by rw [hwa]; exact gb_alloc (gb_refl w none) _
 have HB : Hid (wa.heap[w.heap.size]? = some (.cells #[.int .u8 99, .string a, .string b, .int .i64 (n : Int)] 103 (0, 0))) := hide (by rw [hwa]; exact heap_alloc_new w _)
 obtain ⟨wb, hwb⟩ : ∃ wb, wb = wa.alloc (.cells #[] 151) := ⟨_, rfl⟩
 have hgb : w.grownBy wb none := by rw [hwb]; exact gb_alloc hg _
 have HO : Hid (wb.ownsRow w.heap.size 151 2 (.slice (some ⟨wa.heap.size, 0, none⟩) 0 0) 0 (encE [])) := hide (own_none (by rw [hwb]; exact heap_alloc_new wa _) hg.size)
 have HR : Hid (Rd wb w.heap.size A (encE l)) := hide ((rd_own h).grown hgb (Nat.le_refl _) (by simp))
 have HB2 := hide ((show wb.heap[w.heap.size]? = some (.cells #[.int .u8 99, .string a, .string b, .int .i64 (n : Int)] 103 (0, 0)) by rw [hwb]; exact (heap_alloc_old wa _ (blk_lt HB.out)).trans HB.out))
 have HLE : Hid (l = [] ++ l) := hide rfl
 have HLL : Hid (l.length ≤ 1000000000) := hide (by omega)
 obtain ⟨L, hL⟩ : ∃ L, L = l ++ [⟨a, n⟩] := ⟨_, rfl⟩
 rw [← hL]
 have HL := hide hL
 have HN : Hid (L.length ≤ 1000000000) := hide (by rw [hL]; simp; omega)
 have HWA := hide hwa
 have HWB := hide hwb
 have HGB := hide hgb
 clear h hl hc hm hwa hwb hg hgb hL
 go_enter Tryz.func35, Tryz.ntmps35
 go_upto_region 1 with fail
 rw [← HWA.out]
 go_wp2_with (first
  | (go_at_call 71; refine (rAt_place l _ _ _ _ HO1.out).mono ?_; rintro e wx ⟨rfl, rfl⟩)
  | (at_builtin; rw [← HWB.out]; refine wpListE rfl (.tmp 8) (.tmp 9) rfl w.heap.size 0 l.length l [] l (.slice (some ⟨wa.heap.size, 0, none⟩) 0 0) rfl HO.out rfl rfl w.heap.size A _ rfl HR.out HLE.out HLL.out HGB.out.size ?_; intro A1 c1 w1 ho1 hg1 hb1; have HO1 := hide ho1; have HG1 := hide (gb_row HGB.out HO.out (Nat.le_refl _) hg1); have HB3 : Hid (w1.heap[w.heap.size]? = some (.cells #[.int .u8 99, .string a, .string b, .int .i64 (n : Int)] 103 (0, 0))) := hide ((hg1.block _ (blk_lt HB2.out) (by simp [Value.ownBlock]; have := blk_lt HB.out; omega)).trans HB2.out); have p0 : w1.cell? ⟨w.heap.size, 0, none⟩ = some (.int .u8 99) := (by { rw [blk_cell HB3.out]; rfl }); have p1 : w1.cell? ⟨w.heap.size, 1, none⟩ = some (.string a) := (by { rw [blk_cell HB3.out]; rfl }); have p2 : w1.cell? ⟨w.heap.size, 2, none⟩ = some (.string b) := (by { rw [blk_cell HB3.out]; rfl }); have p3 : w1.cell? ⟨w.heap.size, 3, none⟩ = some (.int .i64 (n : Int)) := (by { rw [blk_cell HB3.out]; rfl }); clear ho1 hg1 hb1)
  | (at_builtin; refine wpListE rfl (.tmp 19) (.tmp 25) rfl w.heap.size l.length 1 L l [⟨a, n⟩] (.slice A1 l.length c1) rfl (HO1.out.kept (gb_alloc (gb_refl w1 none) _) (by cases (Value.slice A1 l.length c1).ownBlock <;> simp)) rfl rfl (w1.heap.size + 1) (some ⟨w1.heap.size, 0, none⟩) 1 rfl (Rd.new w1 #[.string a, .int .i64 (n : Int)] 151 _ rfl) HL.out HN.out (Nat.le_trans HG1.out.size (by simp)) ?_; intro A2 c2 w2 ho2 hg2 hb2; have HO2 := hide ho2; have HG2 := hide (gb_row (gb_alloc HG1.out _) (HO1.out.kept (gb_alloc (gb_refl w1 none) _) (by cases (Value.slice A1 l.length c1).ownBlock <;> simp)) (Nat.le_refl _) hg2); clear ho2 hg2 hb2))
 go_ret
 exact ⟨A2, c2, rfl, HO2.out, HG2.out⟩
end Go.Proofs.YtmcmlkglkpbnpaaGreat
namespace Go.Proofs.YtmcmlkglkpbnpaaGreat
open Go.RowKit
attribute [local go_sem ↓] Go.wp_at_zero Go.wp_at_succ
theorem rAt_at (l : List RE) (v : Value) (s : ByteArray) (base : Nat) (w : World) (x : Int) (h : w.ownsRow base 151 2 v l.length (encE l)) (hx : atR l s = x) :
  Calls Tryz.prog 71 #[v, .string s] w fun e w' => e = .returned (.int .i64 x) ∧ w = w' := by
 subst hx
 exact rAt_place l v s base w h
theorem rWithout_L (l L : List RE) (A : Option Addr) (n c : Nat) (i base : Nat) (w : World) (h : w.ownsRow base 151 2 (.slice A n c) n (encE l)) (hn : n = l.length) (hi : i < l.length) (hl : l.length ≤ 1000000) (hL : L = l.eraseIdx i) :
  Calls Tryz.prog 72 #[.slice A n c, .int .i64 (i : Int)] w (DirP w L) := by
 subst hL hn
 exact rWithout l _ i base w h hi hl
theorem ownsRow_less {w : World} {base base' size n : Nat} {e : TypeId} {v : Value} {xs : List Value} (h : w.ownsRow base e size v n xs) (hb : base' ≤ base) : w.ownsRow base' e size v n xs := by
 refine ⟨h.1, ?_⟩
 rcases h.2 with h0 | ⟨g, cap, cur, h1, h2, h3⟩
 ·exact .inl h0
 ·exact .inr ⟨g, cap, cur, h1, Nat.le_trans hb h2, h3⟩
set_option maxHeartbeats 4000000 in
set_option maxRecDepth 100000 in
theorem rMoved_d1 (l : List RE) (v : Value) (a b : ByteArray) (n base : Nat) (w : World) (h : w.ownsRow base 151 2 v l.length (encE l)) (hl : l.length ≤ 1000000) (j : Nat) (hj : j < l.length) (hat : atR l a = (j : Int)) :
  Calls Tryz.prog 35 #[v, .agg #[.int .u8 100, .string a, .string b, .int .i64 (n : Int)]] w (DirP w (l.eraseIdx j)) := by
 obtain ⟨A, c, rfl, hc, hm⟩ := own_form0 h
 unfold maxLen at hm
 obtain ⟨wa, hwa⟩ : ∃ wa, wa = w.alloc (.cells #[.int .u8 100, .string a, .string b, .int .i64 (n : Int)] 103) := ⟨_, rfl⟩
 have hg : w.grownBy wa none := by rw [hwa]; exact gb_alloc (gb_refl w none) _
 have HB : Hid (wa.heap[w.heap.size]? = some (.cells #[.int .u8 100, .string a, .string b, .int .i64 (n : Int)] 103 (0, 0))) := hide (by rw [hwa]; exact heap_alloc_new w _)
 obtain ⟨wb, hwb⟩ : ∃ wb, wb = wa.alloc (.cells #[] 151) := ⟨_, rfl⟩
 have hgb : w.grownBy wb none := by rw [hwb]; exact gb_alloc hg _
 have HO : Hid (wb.ownsRow w.heap.size 151 2 (.slice (some ⟨wa.heap.size, 0, none⟩) 0 0) 0 (encE [])) := hide (own_none (by rw [hwb]; exact heap_alloc_new wa _) hg.size)
 have HR : Hid (Rd wb w.heap.size A (encE l)) := hide ((rd_own h).grown hgb (Nat.le_refl _) (by simp))
 have HB2 := hide ((show wb.heap[w.heap.size]? = some (.cells #[.int .u8 100, .string a, .string b, .int .i64 (n : Int)] 103 (0, 0)) by rw [hwb]; exact (heap_alloc_old wa _ (blk_lt HB.out)).trans HB.out))
 have HLE : Hid (l = [] ++ l) := hide rfl
 have HLL : Hid (l.length ≤ 1000000000) := hide (by omega)
 have HLM := hide hl
 obtain ⟨L, hL⟩ : ∃ L, L = l.eraseIdx j := ⟨_, rfl⟩
 rw [← hL]
 have HL := hide hL
 have HAT := hide hat
 have HJ := hide hj
 clear hat
 clear hj hL
 have HWA := hide hwa
 have HWB := hide hwb
 have HGB := hide hgb
 clear h hl hc hm hwa hwb hg hgb
 go_enter Tryz.func35, Tryz.ntmps35
 go_upto_region 1 with fail
 rw [← HWA.out]
 go_wp2_with (first
  | (go_at_call 71; refine (rAt_at l _ _ _ _ _ HO1.out HAT.out).mono ?_; rintro e wx ⟨rfl, rfl⟩)
  | (go_at_call 72; refine (rWithout_L l L _ _ _ j _ _ HO1.out rfl HJ.out HLM.out HL.out).mono ?_; rintro e w2 ⟨A2, c2, rfl, ho2, hg2⟩; have HO2 := hide ho2; have HG2 := hide hg2; clear ho2 hg2)
  | (at_builtin; rw [← HWB.out]; refine wpListE rfl (.tmp 8) (.tmp 9) rfl w.heap.size 0 l.length l [] l (.slice (some ⟨wa.heap.size, 0, none⟩) 0 0) rfl HO.out rfl rfl w.heap.size A _ rfl HR.out HLE.out HLL.out HGB.out.size ?_; intro A1 c1 w1 ho1 hg1 hb1; have HO1 := hide ho1; have HG1 := hide (gb_row HGB.out HO.out (Nat.le_refl _) hg1); have HB3 : Hid (w1.heap[w.heap.size]? = some (.cells #[.int .u8 100, .string a, .string b, .int .i64 (n : Int)] 103 (0, 0))) := hide ((hg1.block _ (blk_lt HB2.out) (by simp [Value.ownBlock]; have := blk_lt HB.out; omega)).trans HB2.out); have p0 : w1.cell? ⟨w.heap.size, 0, none⟩ = some (.int .u8 100) := (by { rw [blk_cell HB3.out]; rfl }); have p1 : w1.cell? ⟨w.heap.size, 1, none⟩ = some (.string a) := (by { rw [blk_cell HB3.out]; rfl }); have p2 : w1.cell? ⟨w.heap.size, 2, none⟩ = some (.string b) := (by { rw [blk_cell HB3.out]; rfl }); have p3 : w1.cell? ⟨w.heap.size, 3, none⟩ = some (.int .i64 (n : Int)) := (by { rw [blk_cell HB3.out]; rfl }); clear ho1 hg1 hb1))
 go_ret
 exact ⟨A2, c2, rfl, ownsRow_less HO2.out HG1.out.size, gb_trans HG1.out HG2.out (.inl rfl)⟩
set_option maxHeartbeats 4000000 in
set_option maxRecDepth 100000 in
theorem rMoved_d0 (l : List RE) (v : Value) (a b : ByteArray) (n base : Nat) (w : World) (h : w.ownsRow base 151 2 v l.length (encE l)) (hl : l.length ≤ 1000000) (hat : atR l a = -1) :
  Calls Tryz.prog 35 #[v, .agg #[.int .u8 100, .string a, .string b, .int .i64 (n : Int)]] w (DirP w (l)) := by
 obtain ⟨A, c, rfl, hc, hm⟩ := own_form0 h
 unfold maxLen at hm
 obtain ⟨wa, hwa⟩ : ∃ wa, wa = w.alloc (.cells #[.int .u8 100, .string a, .string b, .int .i64 (n : Int)] 103) := ⟨_, rfl⟩
 have hg : w.grownBy wa none := by rw [hwa]; exact gb_alloc (gb_refl w none) _
 have HB : Hid (wa.heap[w.heap.size]? = some (.cells #[.int .u8 100, .string a, .string b, .int .i64 (n : Int)] 103 (0, 0))) := hide (by rw [hwa]; exact heap_alloc_new w _)
 obtain ⟨wb, hwb⟩ : ∃ wb, wb = wa.alloc (.cells #[] 151) := ⟨_, rfl⟩
 have hgb : w.grownBy wb none := by rw [hwb]; exact gb_alloc hg _
 have HO : Hid (wb.ownsRow w.heap.size 151 2 (.slice (some ⟨wa.heap.size, 0, none⟩) 0 0) 0 (encE [])) := hide (own_none (by rw [hwb]; exact heap_alloc_new wa _) hg.size)
 have HR : Hid (Rd wb w.heap.size A (encE l)) := hide ((rd_own h).grown hgb (Nat.le_refl _) (by simp))
 have HB2 := hide ((show wb.heap[w.heap.size]? = some (.cells #[.int .u8 100, .string a, .string b, .int .i64 (n : Int)] 103 (0, 0)) by rw [hwb]; exact (heap_alloc_old wa _ (blk_lt HB.out)).trans HB.out))
 have HLE : Hid (l = [] ++ l) := hide rfl
 have HLL : Hid (l.length ≤ 1000000000) := hide (by omega)
 have HLM := hide hl
 have HAT := hide hat
 clear hat
 have HWA := hide hwa
 have HWB := hide hwb
 have HGB := hide hgb
 clear h hl hc hm hwa hwb hg hgb
 go_enter Tryz.func35, Tryz.ntmps35
 go_upto_region 1 with fail
 rw [← HWA.out]
 go_wp2_with (first
  | (go_at_call 71; refine (rAt_at l _ _ _ _ _ HO1.out HAT.out).mono ?_; rintro e wx ⟨rfl, rfl⟩)
  | (at_builtin; rw [← HWB.out]; refine wpListE rfl (.tmp 8) (.tmp 9) rfl w.heap.size 0 l.length l [] l (.slice (some ⟨wa.heap.size, 0, none⟩) 0 0) rfl HO.out rfl rfl w.heap.size A _ rfl HR.out HLE.out HLL.out HGB.out.size ?_; intro A1 c1 w1 ho1 hg1 hb1; have HO1 := hide ho1; have HG1 := hide (gb_row HGB.out HO.out (Nat.le_refl _) hg1); have HB3 : Hid (w1.heap[w.heap.size]? = some (.cells #[.int .u8 100, .string a, .string b, .int .i64 (n : Int)] 103 (0, 0))) := hide ((hg1.block _ (blk_lt HB2.out) (by simp [Value.ownBlock]; have := blk_lt HB.out; omega)).trans HB2.out); have p0 : w1.cell? ⟨w.heap.size, 0, none⟩ = some (.int .u8 100) := (by { rw [blk_cell HB3.out]; rfl }); have p1 : w1.cell? ⟨w.heap.size, 1, none⟩ = some (.string a) := (by { rw [blk_cell HB3.out]; rfl }); have p2 : w1.cell? ⟨w.heap.size, 2, none⟩ = some (.string b) := (by { rw [blk_cell HB3.out]; rfl }); have p3 : w1.cell? ⟨w.heap.size, 3, none⟩ = some (.int .i64 (n : Int)) := (by { rw [blk_cell HB3.out]; rfl }); clear ho1 hg1 hb1))
 go_ret
 exact ⟨A1, c1, rfl, HO1.out, HG1.out⟩
set_option maxHeartbeats 4000000 in
set_option maxRecDepth 100000 in
theorem rMoved_r0 (l : List RE) (v : Value) (a b : ByteArray) (n base : Nat) (w : World) (h : w.ownsRow base 151 2 v l.length (encE l)) (hl : l.length ≤ 1000000) (hat : atR l a = -1) :
  Calls Tryz.prog 35 #[v, .agg #[.int .u8 114, .string a, .string b, .int .i64 (n : Int)]] w (DirP w (l)) := by
 obtain ⟨A, c, rfl, hc, hm⟩ := own_form0 h
 unfold maxLen at hm
 obtain ⟨wa, hwa⟩ : ∃ wa, wa = w.alloc (.cells #[.int .u8 114, .string a, .string b, .int .i64 (n : Int)] 103) := ⟨_, rfl⟩
 have hg : w.grownBy wa none := by rw [hwa]; exact gb_alloc (gb_refl w none) _
 have HB : Hid (wa.heap[w.heap.size]? = some (.cells #[.int .u8 114, .string a, .string b, .int .i64 (n : Int)] 103 (0, 0))) := hide (by rw [hwa]; exact heap_alloc_new w _)
 obtain ⟨wb, hwb⟩ : ∃ wb, wb = wa.alloc (.cells #[] 151) := ⟨_, rfl⟩
 have hgb : w.grownBy wb none := by rw [hwb]; exact gb_alloc hg _
 have HO : Hid (wb.ownsRow w.heap.size 151 2 (.slice (some ⟨wa.heap.size, 0, none⟩) 0 0) 0 (encE [])) := hide (own_none (by rw [hwb]; exact heap_alloc_new wa _) hg.size)
 have HR : Hid (Rd wb w.heap.size A (encE l)) := hide ((rd_own h).grown hgb (Nat.le_refl _) (by simp))
 have HB2 := hide ((show wb.heap[w.heap.size]? = some (.cells #[.int .u8 114, .string a, .string b, .int .i64 (n : Int)] 103 (0, 0)) by rw [hwb]; exact (heap_alloc_old wa _ (blk_lt HB.out)).trans HB.out))
 have HLE : Hid (l = [] ++ l) := hide rfl
 have HLL : Hid (l.length ≤ 1000000000) := hide (by omega)
 have HLM := hide hl
 have HAT := hide hat
 clear hat
 have HWA := hide hwa
 have HWB := hide hwb
 have HGB := hide hgb
 clear h hl hc hm hwa hwb hg hgb
 go_enter Tryz.func35, Tryz.ntmps35
 go_upto_region 1 with fail
 rw [← HWA.out]
 go_wp2_with (first
  | (go_at_call 71; refine (rAt_at l _ _ _ _ _ HO1.out HAT.out).mono ?_; rintro e wx ⟨rfl, rfl⟩)
  | (at_builtin; rw [← HWB.out]; refine wpListE rfl (.tmp 8) (.tmp 9) rfl w.heap.size 0 l.length l [] l (.slice (some ⟨wa.heap.size, 0, none⟩) 0 0) rfl HO.out rfl rfl w.heap.size A _ rfl HR.out HLE.out HLL.out HGB.out.size ?_; intro A1 c1 w1 ho1 hg1 hb1; have HO1 := hide ho1; have HG1 := hide (gb_row HGB.out HO.out (Nat.le_refl _) hg1); have HB3 : Hid (w1.heap[w.heap.size]? = some (.cells #[.int .u8 114, .string a, .string b, .int .i64 (n : Int)] 103 (0, 0))) := hide ((hg1.block _ (blk_lt HB2.out) (by simp [Value.ownBlock]; have := blk_lt HB.out; omega)).trans HB2.out); have p0 : w1.cell? ⟨w.heap.size, 0, none⟩ = some (.int .u8 114) := (by { rw [blk_cell HB3.out]; rfl }); have p1 : w1.cell? ⟨w.heap.size, 1, none⟩ = some (.string a) := (by { rw [blk_cell HB3.out]; rfl }); have p2 : w1.cell? ⟨w.heap.size, 2, none⟩ = some (.string b) := (by { rw [blk_cell HB3.out]; rfl }); have p3 : w1.cell? ⟨w.heap.size, 3, none⟩ = some (.int .i64 (n : Int)) := (by { rw [blk_cell HB3.out]; rfl }); clear ho1 hg1 hb1))
 go_ret
 exact ⟨A1, c1, rfl, HO1.out, HG1.out⟩
set_option maxHeartbeats 4000000 in
set_option maxRecDepth 100000 in
theorem rMoved_r1 (l : List RE) (v : Value) (a b : ByteArray) (n base : Nat) (w : World) (h : w.ownsRow base 151 2 v l.length (encE l)) (hl : l.length ≤ 1000000) (j : Nat) (hj : j < l.length) (hat : atR l a = (j : Int)) (hab : a = b) :
  Calls Tryz.prog 35 #[v, .agg #[.int .u8 114, .string a, .string b, .int .i64 (n : Int)]] w (DirP w (l)) := by
 obtain ⟨A, c, rfl, hc, hm⟩ := own_form0 h
 unfold maxLen at hm
 obtain ⟨wa, hwa⟩ : ∃ wa, wa = w.alloc (.cells #[.int .u8 114, .string a, .string b, .int .i64 (n : Int)] 103) := ⟨_, rfl⟩
 have hg : w.grownBy wa none := by rw [hwa]; exact gb_alloc (gb_refl w none) _
 have HB : Hid (wa.heap[w.heap.size]? = some (.cells #[.int .u8 114, .string a, .string b, .int .i64 (n : Int)] 103 (0, 0))) := hide (by rw [hwa]; exact heap_alloc_new w _)
 obtain ⟨wb, hwb⟩ : ∃ wb, wb = wa.alloc (.cells #[] 151) := ⟨_, rfl⟩
 have hgb : w.grownBy wb none := by rw [hwb]; exact gb_alloc hg _
 have HO : Hid (wb.ownsRow w.heap.size 151 2 (.slice (some ⟨wa.heap.size, 0, none⟩) 0 0) 0 (encE [])) := hide (own_none (by rw [hwb]; exact heap_alloc_new wa _) hg.size)
 have HR : Hid (Rd wb w.heap.size A (encE l)) := hide ((rd_own h).grown hgb (Nat.le_refl _) (by simp))
 have HB2 := hide ((show wb.heap[w.heap.size]? = some (.cells #[.int .u8 114, .string a, .string b, .int .i64 (n : Int)] 103 (0, 0)) by rw [hwb]; exact (heap_alloc_old wa _ (blk_lt HB.out)).trans HB.out))
 have HLE : Hid (l = [] ++ l) := hide rfl
 have HLL : Hid (l.length ≤ 1000000000) := hide (by omega)
 have HLM := hide hl
 have HAT := hide hat
 have HJ := hide hj
 clear hat
 have hab2 : (a.toList == b.toList) = true := by rw [hab]; exact beq_self_eq_true _
 clear hab
 have HWA := hide hwa
 have HWB := hide hwb
 have HGB := hide hgb
 clear h hl hc hm hwa hwb hg hgb
 go_enter Tryz.func35, Tryz.ntmps35
 go_upto_region 1 with fail
 rw [← HWA.out]
 go_wp2_with (first
  | (go_at_call 71; refine (rAt_at l _ _ _ _ _ HO1.out HAT.out).mono ?_; rintro e wx ⟨rfl, rfl⟩)
  | (at_builtin; rw [← HWB.out]; refine wpListE rfl (.tmp 8) (.tmp 9) rfl w.heap.size 0 l.length l [] l (.slice (some ⟨wa.heap.size, 0, none⟩) 0 0) rfl HO.out rfl rfl w.heap.size A _ rfl HR.out HLE.out HLL.out HGB.out.size ?_; intro A1 c1 w1 ho1 hg1 hb1; have HO1 := hide ho1; have HG1 := hide (gb_row HGB.out HO.out (Nat.le_refl _) hg1); have HB3 : Hid (w1.heap[w.heap.size]? = some (.cells #[.int .u8 114, .string a, .string b, .int .i64 (n : Int)] 103 (0, 0))) := hide ((hg1.block _ (blk_lt HB2.out) (by simp [Value.ownBlock]; have := blk_lt HB.out; omega)).trans HB2.out); have p0 : w1.cell? ⟨w.heap.size, 0, none⟩ = some (.int .u8 114) := (by { rw [blk_cell HB3.out]; rfl }); have p1 : w1.cell? ⟨w.heap.size, 1, none⟩ = some (.string a) := (by { rw [blk_cell HB3.out]; rfl }); have p2 : w1.cell? ⟨w.heap.size, 2, none⟩ = some (.string b) := (by { rw [blk_cell HB3.out]; rfl }); have p3 : w1.cell? ⟨w.heap.size, 3, none⟩ = some (.int .i64 (n : Int)) := (by { rw [blk_cell HB3.out]; rfl }); clear ho1 hg1 hb1))
 go_ret
 exact ⟨A1, c1, rfl, HO1.out, HG1.out⟩
set_option maxHeartbeats 4000000 in
set_option maxRecDepth 100000 in
theorem rMoved_r2 (l : List RE) (v : Value) (a b : ByteArray) (n base : Nat) (w : World) (h : w.ownsRow base 151 2 v l.length (encE l)) (hl : l.length ≤ 1000000) (j : Nat) (hj : j < l.length) (hat : atR l a = (j : Int)) (hab : a ≠ b) (hat2 : atR (l.eraseIdx j) b = -1) :
  Calls Tryz.prog 35 #[v, .agg #[.int .u8 114, .string a, .string b, .int .i64 (n : Int)]] w (DirP w (l.eraseIdx j ++ [⟨b, (l[j]'hj).n⟩])) := by
 obtain ⟨A, c, rfl, hc, hm⟩ := own_form0 h
 unfold maxLen at hm
 obtain ⟨wa, hwa⟩ : ∃ wa, wa = w.alloc (.cells #[.int .u8 114, .string a, .string b, .int .i64 (n : Int)] 103) := ⟨_, rfl⟩
 have hg : w.grownBy wa none := by rw [hwa]; exact gb_alloc (gb_refl w none) _
 have HB : Hid (wa.heap[w.heap.size]? = some (.cells #[.int .u8 114, .string a, .string b, .int .i64 (n : Int)] 103 (0, 0))) := hide (by rw [hwa]; exact heap_alloc_new w _)
 obtain ⟨wb, hwb⟩ : ∃ wb, wb = wa.alloc (.cells #[] 151) := ⟨_, rfl⟩
 have hgb : w.grownBy wb none := by rw [hwb]; exact gb_alloc hg _
 have HO : Hid (wb.ownsRow w.heap.size 151 2 (.slice (some ⟨wa.heap.size, 0, none⟩) 0 0) 0 (encE [])) := hide (own_none (by rw [hwb]; exact heap_alloc_new wa _) hg.size)
 have HR : Hid (Rd wb w.heap.size A (encE l)) := hide ((rd_own h).grown hgb (Nat.le_refl _) (by simp))
 have HB2 := hide ((show wb.heap[w.heap.size]? = some (.cells #[.int .u8 114, .string a, .string b, .int .i64 (n : Int)] 103 (0, 0)) by rw [hwb]; exact (heap_alloc_old wa _ (blk_lt HB.out)).trans HB.out))
 have HLE : Hid (l = [] ++ l) := hide rfl
 have HLL : Hid (l.length ≤ 1000000000) := hide (by omega)
 have HLM := hide hl
 obtain ⟨N, hN⟩ : ∃ N, N = (l[j]'hj).n := ⟨_, rfl⟩
 obtain ⟨L1, hL1⟩ : ∃ L1, L1 = l.eraseIdx j := ⟨_, rfl⟩
 rw [← hL1] at hat2
 rw [← hN, ← hL1]
 have hab2 := rstr_ne hab
 have HL1 := hide hL1
 have HL1M : Hid (L1.length ≤ 1000000) := hide (by rw [hL1]; have := List.length_eraseIdx_le l j; omega)
 have HAT2 := hide hat2
 have HNN := hide hN
 obtain ⟨L, hL⟩ : ∃ L, L = L1 ++ [⟨b, N⟩] := ⟨_, rfl⟩
 rw [← hL]
 have HL := hide hL
 have HAT := hide hat
 have HJ := hide hj
 clear hat
 have HN : Hid (L.length ≤ 1000000000) := hide (by have := HL1M.out; rw [hL]; simp; omega)
 clear hN hL hL1 hat2 hab
 have HWA := hide hwa
 have HWB := hide hwb
 have HGB := hide hgb
 clear h hl hc hm hwa hwb hg hgb
 go_enter Tryz.func35, Tryz.ntmps35
 go_upto_region 1 with fail
 rw [← HWA.out]
 go_wp2_with (first
  | (go_at_call 71; refine (rAt_at L1 _ _ _ _ _ HO2.out HAT2.out).mono ?_; rintro e wx ⟨rfl, rfl⟩)
  | (go_at_call 71; refine (rAt_at l _ _ _ _ _ HO1.out HAT.out).mono ?_; rintro e wx ⟨rfl, rfl⟩)
  | (go_at_call 72; refine (rWithout_L l L1 _ _ _ j _ _ HO1.out rfl HJ.out HLM.out HL1.out).mono ?_; rintro e w2 ⟨A2, c2, rfl, ho2, hg2⟩; have HO2 := hide (ownsRow_less ho2 HG1.out.size); have HG2 := hide (gb_trans HG1.out hg2 (.inl rfl)); have p0 := cell_grown p0 hg2; have p1 := cell_grown p1 hg2; have p2 := cell_grown p2 hg2; have p3 := cell_grown p3 hg2; clear ho2 hg2 q0 q1)
  | (at_builtin; refine wpListE rfl (.tmp 63) (.tmp 68) rfl w.heap.size L1.length 1 L L1 [⟨b, N⟩] (.slice A2 L1.length c2) rfl (HO2.out.kept (gb_alloc (gb_refl w2 none) _) (by cases (Value.slice A2 L1.length c2).ownBlock <;> simp)) rfl rfl (w2.heap.size + 1) (some ⟨w2.heap.size, 0, none⟩) 1 rfl (Rd.new w2 #[.string b, .int .i64 (N : Int)] 151 _ rfl) HL.out HN.out (Nat.le_trans HG2.out.size (by simp)) ?_; intro A9 c9 w9 ho9 hg9 hb9; have HO9 := hide ho9; have HG9 := hide (gb_row (gb_alloc HG2.out _) (HO2.out.kept (gb_alloc (gb_refl w2 none) _) (by cases (Value.slice A2 L1.length c2).ownBlock <;> simp)) (Nat.le_refl _) hg9); clear ho9 hg9 hb9)
  | (at_builtin; rw [← HWB.out]; refine wpListE rfl (.tmp 8) (.tmp 9) rfl w.heap.size 0 l.length l [] l (.slice (some ⟨wa.heap.size, 0, none⟩) 0 0) rfl HO.out rfl rfl w.heap.size A _ rfl HR.out HLE.out HLL.out HGB.out.size ?_; intro A1 c1 w1 ho1 hg1 hb1; have HO1 := hide ho1; have HG1 := hide (gb_row HGB.out HO.out (Nat.le_refl _) hg1); have HB3 : Hid (w1.heap[w.heap.size]? = some (.cells #[.int .u8 114, .string a, .string b, .int .i64 (n : Int)] 103 (0, 0))) := hide ((hg1.block _ (blk_lt HB2.out) (by simp [Value.ownBlock]; have := blk_lt HB.out; omega)).trans HB2.out); have p0 : w1.cell? ⟨w.heap.size, 0, none⟩ = some (.int .u8 114) := (by { rw [blk_cell HB3.out]; rfl }); have p1 : w1.cell? ⟨w.heap.size, 1, none⟩ = some (.string a) := (by { rw [blk_cell HB3.out]; rfl }); have p2 : w1.cell? ⟨w.heap.size, 2, none⟩ = some (.string b) := (by { rw [blk_cell HB3.out]; rfl }); have p3 : w1.cell? ⟨w.heap.size, 3, none⟩ = some (.int .i64 (n : Int)) := (by { rw [blk_cell HB3.out]; rfl }); obtain ⟨b1, rfl, q0, q1⟩ := E_elem ho1 HJ.out; rw [← HNN.out] at q1; clear ho1 hg1 hb1))
 go_ret
 exact ⟨A9, c9, rfl, HO9.out, HG9.out⟩
set_option maxHeartbeats 4000000 in
set_option maxRecDepth 100000 in
theorem rMoved_r3 (l : List RE) (v : Value) (a b : ByteArray) (n base : Nat) (w : World) (h : w.ownsRow base 151 2 v l.length (encE l)) (hl : l.length ≤ 1000000) (j : Nat) (hj : j < l.length) (hat : atR l a = (j : Int)) (hab : a ≠ b) (k : Nat) (hk : k < (l.eraseIdx j).length) (hat2 : atR (l.eraseIdx j) b = (k : Int)) :
  Calls Tryz.prog 35 #[v, .agg #[.int .u8 114, .string a, .string b, .int .i64 (n : Int)]] w (DirP w ((l.eraseIdx j).eraseIdx k ++ [⟨b, (l[j]'hj).n⟩])) := by
 obtain ⟨A, c, rfl, hc, hm⟩ := own_form0 h
 unfold maxLen at hm
 obtain ⟨wa, hwa⟩ : ∃ wa, wa = w.alloc (.cells #[.int .u8 114, .string a, .string b, .int .i64 (n : Int)] 103) := ⟨_, rfl⟩
 have hg : w.grownBy wa none := by rw [hwa]; exact gb_alloc (gb_refl w none) _
 have HB : Hid (wa.heap[w.heap.size]? = some (.cells #[.int .u8 114, .string a, .string b, .int .i64 (n : Int)] 103 (0, 0))) := hide (by rw [hwa]; exact heap_alloc_new w _)
 obtain ⟨wb, hwb⟩ : ∃ wb, wb = wa.alloc (.cells #[] 151) := ⟨_, rfl⟩
 have hgb : w.grownBy wb none := by rw [hwb]; exact gb_alloc hg _
 have HO : Hid (wb.ownsRow w.heap.size 151 2 (.slice (some ⟨wa.heap.size, 0, none⟩) 0 0) 0 (encE [])) := hide (own_none (by rw [hwb]; exact heap_alloc_new wa _) hg.size)
 have HR : Hid (Rd wb w.heap.size A (encE l)) := hide ((rd_own h).grown hgb (Nat.le_refl _) (by simp))
 have HB2 := hide ((show wb.heap[w.heap.size]? = some (.cells #[.int .u8 114, .string a, .string b, .int .i64 (n : Int)] 103 (0, 0)) by rw [hwb]; exact (heap_alloc_old wa _ (blk_lt HB.out)).trans HB.out))
 have HLE : Hid (l = [] ++ l) := hide rfl
 have HLL : Hid (l.length ≤ 1000000000) := hide (by omega)
 have HLM := hide hl
 obtain ⟨N, hN⟩ : ∃ N, N = (l[j]'hj).n := ⟨_, rfl⟩
 obtain ⟨L1, hL1⟩ : ∃ L1, L1 = l.eraseIdx j := ⟨_, rfl⟩
 rw [← hL1] at hat2 hk
 rw [← hN, ← hL1]
 obtain ⟨L2, hL2⟩ : ∃ L2, L2 = L1.eraseIdx k := ⟨_, rfl⟩
 rw [← hL2]
 have hab2 := rstr_ne hab
 have HL1 := hide hL1
 have HL2 := hide hL2
 have HK := hide hk
 have HL1M : Hid (L1.length ≤ 1000000) := hide (by rw [hL1]; have := List.length_eraseIdx_le l j; omega)
 have HL2M : Hid (L2.length ≤ 1000000) := hide (by have := HL1M.out; rw [hL2]; have := List.length_eraseIdx_le L1 k; omega)
 have HAT2 := hide hat2
 have HNN := hide hN
 obtain ⟨L, hL⟩ : ∃ L, L = L2 ++ [⟨b, N⟩] := ⟨_, rfl⟩
 rw [← hL]
 have HL := hide hL
 have HAT := hide hat
 have HJ := hide hj
 clear hat
 have HN : Hid (L.length ≤ 1000000000) := hide (by have := HL2M.out; rw [hL]; simp; omega)
 clear hN hL hL1 hL2 hat2 hk hab
 have HWA := hide hwa
 have HWB := hide hwb
 have HGB := hide hgb
 clear h hl hc hm hwa hwb hg hgb
 go_enter Tryz.func35, Tryz.ntmps35
 go_upto_region 1 with fail
 rw [← HWA.out]
 go_wp2_with (first
  | (go_at_call 71; refine (rAt_at L1 _ _ _ _ _ HO2.out HAT2.out).mono ?_; rintro e wx ⟨rfl, rfl⟩)
  | (go_at_call 71; refine (rAt_at l _ _ _ _ _ HO1.out HAT.out).mono ?_; rintro e wx ⟨rfl, rfl⟩)
  | (go_at_call 72; refine (rWithout_L L1 L2 _ _ _ k _ _ HO2.out rfl HK.out HL1M.out HL2.out).mono ?_; rintro e w3 ⟨A3, c3, rfl, ho3, hg3⟩; have HO3 := hide (ownsRow_less ho3 HG2.out.size); have HG3 := hide (gb_trans HG2.out hg3 (.inl rfl)); have p0 := cell_grown p0 hg3; have p1 := cell_grown p1 hg3; have p2 := cell_grown p2 hg3; have p3 := cell_grown p3 hg3; clear ho3 hg3)
  | (go_at_call 72; refine (rWithout_L l L1 _ _ _ j _ _ HO1.out rfl HJ.out HLM.out HL1.out).mono ?_; rintro e w2 ⟨A2, c2, rfl, ho2, hg2⟩; have HO2 := hide (ownsRow_less ho2 HG1.out.size); have HG2 := hide (gb_trans HG1.out hg2 (.inl rfl)); have p0 := cell_grown p0 hg2; have p1 := cell_grown p1 hg2; have p2 := cell_grown p2 hg2; have p3 := cell_grown p3 hg2; clear ho2 hg2 q0 q1)
  | (at_builtin; refine wpListE rfl (.tmp 63) (.tmp 68) rfl w.heap.size L2.length 1 L L2 [⟨b, N⟩] (.slice A3 L2.length c3) rfl (HO3.out.kept (gb_alloc (gb_refl w3 none) _) (by cases (Value.slice A3 L2.length c3).ownBlock <;> simp)) rfl rfl (w3.heap.size + 1) (some ⟨w3.heap.size, 0, none⟩) 1 rfl (Rd.new w3 #[.string b, .int .i64 (N : Int)] 151 _ rfl) HL.out HN.out (Nat.le_trans HG3.out.size (by simp)) ?_; intro A9 c9 w9 ho9 hg9 hb9; have HO9 := hide ho9; have HG9 := hide (gb_row (gb_alloc HG3.out _) (HO3.out.kept (gb_alloc (gb_refl w3 none) _) (by cases (Value.slice A3 L2.length c3).ownBlock <;> simp)) (Nat.le_refl _) hg9); clear ho9 hg9 hb9)
  | (at_builtin; rw [← HWB.out]; refine wpListE rfl (.tmp 8) (.tmp 9) rfl w.heap.size 0 l.length l [] l (.slice (some ⟨wa.heap.size, 0, none⟩) 0 0) rfl HO.out rfl rfl w.heap.size A _ rfl HR.out HLE.out HLL.out HGB.out.size ?_; intro A1 c1 w1 ho1 hg1 hb1; have HO1 := hide ho1; have HG1 := hide (gb_row HGB.out HO.out (Nat.le_refl _) hg1); have HB3 : Hid (w1.heap[w.heap.size]? = some (.cells #[.int .u8 114, .string a, .string b, .int .i64 (n : Int)] 103 (0, 0))) := hide ((hg1.block _ (blk_lt HB2.out) (by simp [Value.ownBlock]; have := blk_lt HB.out; omega)).trans HB2.out); have p0 : w1.cell? ⟨w.heap.size, 0, none⟩ = some (.int .u8 114) := (by { rw [blk_cell HB3.out]; rfl }); have p1 : w1.cell? ⟨w.heap.size, 1, none⟩ = some (.string a) := (by { rw [blk_cell HB3.out]; rfl }); have p2 : w1.cell? ⟨w.heap.size, 2, none⟩ = some (.string b) := (by { rw [blk_cell HB3.out]; rfl }); have p3 : w1.cell? ⟨w.heap.size, 3, none⟩ = some (.int .i64 (n : Int)) := (by { rw [blk_cell HB3.out]; rfl }); obtain ⟨b1, rfl, q0, q1⟩ := E_elem ho1 HJ.out; rw [← HNN.out] at q1; clear ho1 hg1 hb1))
 go_ret
 exact ⟨A9, c9, rfl, HO9.out, HG9.out⟩
end Go.Proofs.YtmcmlkglkpbnpaaGreat
namespace Go.Proofs.YtmcmlkglkpbnpaaGreat
open Go.RowKit
attribute [local go_sem ↓] Go.wp_at_zero Go.wp_at_succ
theorem rMoved_any (l : List RE) (v : Value) (m : RM) (base : Nat) (w : World) (h : w.ownsRow base 151 2 v l.length (encE l)) (hl : l.length ≤ 1000000) (hk : m.kind = 99 ∨ m.kind = 100 ∨ m.kind = 114) :
  Calls Tryz.prog 35 #[v, .agg #[.int .u8 (m.kind : Int), .string m.a, .string m.b, .int .i64 (m.n : Int)]] w (DirP w (movedR l m)) := by
 obtain ⟨k, a, b, n⟩ := m
 rcases hk with rfl | rfl | rfl
 ·exact rMoved_c l v a b n base w h hl
 ·rcases atR_cases l a with ⟨h1, _⟩ | ⟨j, hj, h1, _⟩
  ·have e : movedR l ⟨100, a, b, n⟩ = l := by simp [movedR, h1]
   rw [e]
   exact rMoved_d0 l v a b n base w h hl h1
  ·have e : movedR l ⟨100, a, b, n⟩ = l.eraseIdx j := by simp [movedR, h1]
   rw [e]
   exact rMoved_d1 l v a b n base w h hl j hj h1
 ·rcases atR_cases l a with ⟨h1, _⟩ | ⟨j, hj, h1, _⟩
  ·have e : movedR l ⟨114, a, b, n⟩ = l := by simp [movedR, h1]
   rw [e]
   exact rMoved_r0 l v a b n base w h hl h1
  ·by_cases hab : a = b
   ·have e : movedR l ⟨114, a, b, n⟩ = l := by simp [movedR, hab]
    rw [e]
    exact rMoved_r1 l v a b n base w h hl j hj h1 hab
   ·have h0 : ¬ ((j : Int) < 0) := by omega
    have hd : l.getD j ⟨⟨#[]⟩, 0⟩ = l[j] := by rw [List.getD_eq_getElem?_getD, List.getElem?_eq_getElem hj]; rfl
    rcases atR_cases (l.eraseIdx j) b with ⟨h2, _⟩ | ⟨i, hi, h2, _⟩
    ·have e : movedR l ⟨114, a, b, n⟩ = l.eraseIdx j ++ [⟨b, (l[j]'hj).n⟩] := by
      unfold movedR
      rw [if_neg (show ¬ (114 : Nat) = 99 by decide), if_neg (show ¬ (114 : Nat) = 100 by decide), if_pos (by rfl)]
      simp only [h1, Int.toNat_natCast, h2, hd]
      rw [if_neg (by simp [h0, hab]), if_neg (by decide)]
     rw [e]
     exact rMoved_r2 l v a b n base w h hl j hj h1 hab h2
    ·have e : movedR l ⟨114, a, b, n⟩ = (l.eraseIdx j).eraseIdx i ++ [⟨b, (l[j]'hj).n⟩] := by
      unfold movedR
      rw [if_neg (show ¬ (114 : Nat) = 99 by decide), if_neg (show ¬ (114 : Nat) = 100 by decide), if_pos (by rfl)]
      simp only [h1, Int.toNat_natCast, h2, hd]
      rw [if_neg (by simp [h0, hab]), if_pos (by omega)]
     rw [e]
     exact rMoved_r3 l v a b n base w h hl j hj h1 hab i hi h2
set_option maxHeartbeats 4000000 in
set_option maxRecDepth 100000 in
theorem rDone_cut (p P : ByteArray) (k : Nat) (n : Int) (w : World) (hk : k ≤ p.size) (_hp : p.size ≤ 1000000000) :
  Calls Tryz.prog 37 #[.string p, .agg #[.bool true, .int .i64 (k : Int), .string P], .int .i64 n] w fun e w' => e = .returned (.string (p.extract 0 k)) ∧ w.grownBy w' none := by
 obtain ⟨wa, hwa⟩ : ∃ wa, wa = w.alloc (.cells #[.bool true, .int .i64 (k : Int), .string P] 111) := ⟨_, rfl⟩
 have hb : wa.heap[w.heap.size]? = some (.cells #[.bool true, .int .i64 (k : Int), .string P] 111 (0, 0)) := by rw [hwa]; exact heap_alloc_new w _
 have HG : Hid (w.grownBy wa none) := hide (by rw [hwa]; exact gb_alloc (gb_refl w none) _)
 have b0 : wa.cell? ⟨w.heap.size, 0, none⟩ = some (.bool true) := by rw [blk_cell hb]; rfl
 have b1 : wa.cell? ⟨w.heap.size, 1, none⟩ = some (.int .i64 (k : Int)) := by rw [blk_cell hb]; rfl
 have HWA := hide hwa
 clear hb hwa
 go_enter Tryz.func37, Tryz.ntmps37
 go_upto_region 1 with fail
 rw [← HWA.out]
 go_wp2_with fail
 go_ret
 exact ⟨rfl, HG.out⟩
set_option maxHeartbeats 4000000 in
set_option maxRecDepth 100000 in
theorem rDone_over (p P : ByteArray) (k n : Nat) (w : World) (hk : k ≤ p.size) (hn : n ≤ P.size) (hp : p.size ≤ 1000000000) (hP : P.size ≤ 1000000000) (ho : p.size ≤ k + n) :
  Calls Tryz.prog 37 #[.string p, .agg #[.bool false, .int .i64 (k : Int), .string P], .int .i64 (n : Int)] w fun e w' => e = .returned (.string (p.extract 0 k ++ P.extract 0 n)) ∧ w.grownBy w' none := by
 obtain ⟨wa, hwa⟩ : ∃ wa, wa = w.alloc (.cells #[.bool false, .int .i64 (k : Int), .string P] 111) := ⟨_, rfl⟩
 have hb : wa.heap[w.heap.size]? = some (.cells #[.bool false, .int .i64 (k : Int), .string P] 111 (0, 0)) := by rw [hwa]; exact heap_alloc_new w _
 have HG : Hid (w.grownBy wa none) := hide (by rw [hwa]; exact gb_alloc (gb_refl w none) _)
 have b0 : wa.cell? ⟨w.heap.size, 0, none⟩ = some (.bool false) := by rw [blk_cell hb]; rfl
 have b1 : wa.cell? ⟨w.heap.size, 1, none⟩ = some (.int .i64 (k : Int)) := by rw [blk_cell hb]; rfl
 have b2 : wa.cell? ⟨w.heap.size, 2, none⟩ = some (.string P) := by rw [blk_cell hb]; rfl
 have HWA := hide hwa
 have hX : (P.extract 0 n).size = n := by rw [ByteArray.size_extract]; omega
 have h6 : IntKind.i64.wrap ((k : Int) + (n : Int)) = ((k + n : Nat) : Int) := by rw [IntKind.wrap_i64]; omega
 clear hb hwa
 go_enter Tryz.func37, Tryz.ntmps37
 go_upto_region 1 with fail
 rw [← HWA.out]
 go_wp2_with fail
 go_ret
 exact ⟨rfl, HG.out⟩
set_option maxHeartbeats 4000000 in
set_option maxRecDepth 100000 in
theorem rDone_within (p P : ByteArray) (k n : Nat) (w : World) (hk : k ≤ p.size) (hn : n ≤ P.size) (hp : p.size ≤ 1000000000) (hP : P.size ≤ 1000000000) (ho : k + n < p.size) :
  Calls Tryz.prog 37 #[.string p, .agg #[.bool false, .int .i64 (k : Int), .string P], .int .i64 (n : Int)] w fun e w' => e = .returned (.string (p.extract 0 k ++ P.extract 0 n ++ p.extract (k + n) p.size)) ∧ w.grownBy w' none := by
 obtain ⟨wa, hwa⟩ : ∃ wa, wa = w.alloc (.cells #[.bool false, .int .i64 (k : Int), .string P] 111) := ⟨_, rfl⟩
 have hb : wa.heap[w.heap.size]? = some (.cells #[.bool false, .int .i64 (k : Int), .string P] 111 (0, 0)) := by rw [hwa]; exact heap_alloc_new w _
 have HG : Hid (w.grownBy wa none) := hide (by rw [hwa]; exact gb_alloc (gb_refl w none) _)
 have b0 : wa.cell? ⟨w.heap.size, 0, none⟩ = some (.bool false) := by rw [blk_cell hb]; rfl
 have b1 : wa.cell? ⟨w.heap.size, 1, none⟩ = some (.int .i64 (k : Int)) := by rw [blk_cell hb]; rfl
 have b2 : wa.cell? ⟨w.heap.size, 2, none⟩ = some (.string P) := by rw [blk_cell hb]; rfl
 have HWA := hide hwa
 have hX : (P.extract 0 n).size = n := by rw [ByteArray.size_extract]; omega
 have h6 : IntKind.i64.wrap ((k : Int) + (n : Int)) = ((k + n : Nat) : Int) := by rw [IntKind.wrap_i64]; omega
 clear hb hwa
 go_enter Tryz.func37, Tryz.ntmps37
 go_upto_region 1 with fail
 rw [← HWA.out]
 go_upto_region 6 with fail
 go_quiet (fail)
 go_wp2_with fail
 go_ret
 exact ⟨rfl, gb_drewN HG.out _⟩
theorem rDone_any (p : ByteArray) (x : RD) (n : Nat) (w : World) (hk : x.at_ ≤ p.size) (hn : x.cut = true ∨ n ≤ x.p.size) (hp : p.size ≤ 1000000000) (hP : x.p.size ≤ 1000000000) :
  Calls Tryz.prog 37 #[.string p, .agg #[.bool x.cut, .int .i64 (x.at_ : Int), .string x.p], .int .i64 (n : Int)] w fun e w' => e = .returned (.string (doneR p x n)) ∧ w.grownBy w' none := by
 obtain ⟨c, k, P⟩ := x
 cases c with
 | true => exact rDone_cut p P k n w hk hp
 | false =>
  have hn' : n ≤ P.size := hn.resolve_left (by simp)
  by_cases ho : p.size ≤ k + n
  ·have e : doneR p ⟨false, k, P⟩ n = p.extract 0 k ++ P.extract 0 n := by simp [doneR, ho]
   rw [e]
   exact rDone_over p P k n w hk hn' hp hP ho
  ·have e : doneR p ⟨false, k, P⟩ n = p.extract 0 k ++ P.extract 0 n ++ p.extract (k + n) p.size := by simp [doneR, ho]
   rw [e]
   exact rDone_within p P k n w hk hn' hp hP (by omega)
end Go.Proofs.YtmcmlkglkpbnpaaGreat
namespace Go.Proofs.YtmcmlkglkpbnpaaGreat
open Go.RowKit
attribute [local go_sem ↓] Go.wp_at_zero Go.wp_at_succ
theorem own_not {w : World} {base n size g : Nat} {e ty : TypeId} {v : Value} {xs : List Value} {cur : Array Value} (h : w.ownsRow base e size v n xs) (hb : w.heap[g]? = some (.cells cur ty (0, 0))) (hne : e ≠ ty) : v.ownBlock ≠ some g := by
 intro hv
 rcases h.2 with ⟨rfl, _⟩ | ⟨b, cap, cur', rfl, _, hh, _⟩
 ·simp [Value.ownBlock] at hv
 ·simp only [Value.ownBlock, Option.some.injEq] at hv
  subst hv
  rw [hb] at hh
  injection hh with hh
  injection hh with h1 h2
  exact hne h2.symm
section
variable {w w' : World} {g : Nat} {S : RS} {bs : List Nat} {vs : List Value} {vF vD vS vM : Value}
theorem RAt.blk (h : RAt w g S bs vs vF vD vS vM) {i : Nat} (hi : i < S.f.length) : ∃ b, bs[i]? = some b ∧ bs.getD i 0 = b ∧ b ≠ g := by
 have hb : i < bs.length := by rw [h.lb]; exact hi
 refine ⟨bs[i], List.getElem?_eq_getElem hb, by rw [List.getD_eq_getElem?_getD, List.getElem?_eq_getElem hb]; rfl, fun e => ?_⟩
 have := (h.fl i hi).box
 rw [List.getD_eq_getElem?_getD, List.getElem?_eq_getElem hb, show (some bs[i]).getD 0 = g from e, h.box] at this
 injection this with this
 injection this with _ h2
 exact absurd h2 (by decide)
theorem RAt.top (h : RAt w g S bs vs vF vD vS vM) (hT : Turned (fun i => i = g) w w') (S' : RS) (e1 : S'.f = S.f) (e2 : S'.d = S.d) (e3 : S'.safe = S.safe) (e4 : S'.m = S.m)
  (hb : w'.heap[g]? = some (.cells #[vF, vD, vS, vM, .int .i64 S'.cap, .int .i64 S'.ops, .int .i64 S'.left, .bool S'.off, .int .i64 0] 86 (0, 0))) : RAt w' g S' bs vs vF vD vS vM := by
 have st : ∀ i, i < w.heap.size → i ≠ g → w'.heap[i]? = w.heap[i]? := fun i hi hne => hT.block i hi hne
 have so : ∀ {base n size : Nat} {e : TypeId} {v : Value} {xs : List Value}, w.ownsRow base e size v n xs → e ≠ 86 → w'.ownsRow base e size v n xs := fun ho hne => own_blk ho fun i hi => st i (ho.lt i hi).2 (fun e => own_not ho h.box hne (by rw [hi, e]))
 refine ⟨hb, so h.rF (by decide), by rw [e2]; exact so h.rD (by decide), by rw [e3]; exact so h.rS (by decide), by rw [e4]; exact so h.rM (by decide), by rw [e1]; exact h.lb, by rw [e1]; exact h.lv, ?_, h.nd, h.ap⟩
 rw [e1]
 intro i hi
 obtain ⟨b, _, hb2, hne⟩ := h.blk hi
 have hf := h.fl i hi
 rw [hb2] at hf ⊢
 exact ⟨(st b (blk_lt hf.box) hne).trans hf.box, so hf.row (by decide)⟩
end
def RS.counts (S : RS) : RS := if 0 < S.left then { S with ops := S.ops + 1, left := S.left - 1, off := S.left - 1 == 0 } else { S with ops := S.ops + 1 }
set_option maxHeartbeats 4000000 in
set_option maxRecDepth 100000 in
theorem rCounts_any (g : Nat) (S : RS) (bs : List Nat) (vs : List Value) (vF vD vS vM : Value) (w : World) (h : RAt w g S bs vs vF vD vS vM) (ho : 0 ≤ S.ops ∧ S.ops ≤ 1000000000) (hl : S.left ≤ 9223372036854775807) :
  Calls Tryz.prog 58 #[.pointer (some ⟨g, 0, none⟩)] w fun e w' => e = .returned (.int .i64 0) ∧ RAt w' g S.counts bs vs vF vD vS vM ∧ Turned (fun i => i = g) w w' := by
 have hb := h.box
 have b5 : w.cell? ⟨g, 5, none⟩ = some (.int .i64 S.ops) := by rw [blk_cell hb]; rfl
 have b6 : w.cell? ⟨g, 6, none⟩ = some (.int .i64 S.left) := by rw [blk_cell hb]; rfl
 have b7 : w.cell? ⟨g, 7, none⟩ = some (.bool S.off) := by rw [blk_cell hb]; rfl
 have z5 := blk_frozen hb 5
 have z6 := blk_frozen hb 6
 have z7 := blk_frozen hb 7
 have h1 : IntKind.i64.wrap (S.ops + 1) = S.ops + 1 := by rw [IntKind.wrap_i64]; omega
 have H := hide h
 have HB := hide hb
 by_cases hp : 0 < S.left
 ·have h2 : IntKind.i64.wrap (S.left - 1) = S.left - 1 := by rw [IntKind.wrap_i64]; omega
  have e : S.counts = { S with ops := S.ops + 1, left := S.left - 1, off := S.left - 1 == 0 } := by simp [RS.counts, hp]
  have E := hide e
  clear h hb e
  go_enter Tryz.func58, Tryz.ntmps58
  go_wp2
  go_ret
  refine ⟨rfl, ?_, Turned.of_gb (gb_set (gb_set (gb_set (gb_refl w (some g)) _ _) _ _) _ _) (fun i e => by injection e with e; exact e.symm)⟩
  rw [E.out]
  refine H.out.top (Turned.of_gb (gb_set (gb_set (gb_set (gb_refl w (some g)) _ _) _ _) _ _) (fun i e => by injection e with e; exact e.symm)) _ rfl rfl rfl rfl ?_
  exact blk_set (blk_set (blk_set HB.out 5 _) 6 _) 7 _
 ·have e : S.counts = { S with ops := S.ops + 1 } := by simp [RS.counts, hp]
  have E := hide e
  clear h hb e
  go_enter Tryz.func58, Tryz.ntmps58
  go_wp2
  go_ret
  refine ⟨rfl, ?_, Turned.of_gb (gb_set (gb_refl w (some g)) _ _) (fun i e => by injection e with e; exact e.symm)⟩
  rw [E.out]
  refine H.out.top (Turned.of_gb (gb_set (gb_refl w (some g)) _ _) (fun i e => by injection e with e; exact e.symm)) _ rfl rfl rfl rfl ?_
  exact blk_set HB.out 5 _
def fileV (S : RS) (bs : List Nat) (n : Int) : Value := if S.d.any (fun e => (e.n : Int) == n) then .pointer (some ⟨bs.getD (n - 1).toNat 0, 0, none⟩) else .pointer none
theorem fileV_has {S : RS} {bs : List Nat} {n : Int} {j : Nat} (hj : j < S.d.length) (h : (S.d[j].n : Int) = n) : fileV S bs n = .pointer (some ⟨bs.getD (n - 1).toNat 0, 0, none⟩) := by
 unfold fileV
 rw [if_pos (List.any_eq_true.2 ⟨S.d[j], List.getElem_mem hj, by simp [h]⟩)]
theorem fileV_no {S : RS} {bs : List Nat} {n : Int} (h : ∀ (i : Nat) (hi : i < S.d.length), (S.d[i].n : Int) ≠ n) : fileV S bs n = .pointer none := by
 unfold fileV
 rw [if_neg]
 intro hc
 obtain ⟨e, he, hn⟩ := List.any_eq_true.1 hc
 obtain ⟨i, hi, rfl⟩ := List.getElem_of_mem he
 exact h i hi (by simpa using hn)
set_option maxHeartbeats 4000000 in
set_option maxRecDepth 100000 in
theorem rFile_any (g : Nat) (S : RS) (bs : List Nat) (vs : List Value) (vF vD vS vM : Value) (n : Int) (w : World) (h : RAt w g S bs vs vF vD vS vM) (hd : ∀ e ∈ S.d, 1 ≤ e.n ∧ e.n ≤ S.f.length) (hf : S.f.length ≤ 1000000) :
  Calls Tryz.prog 77 #[.pointer (some ⟨g, 0, none⟩), .int .i64 n] w fun e w' => e = .returned (fileV S bs n) ∧ w = w' := by
 have hb := h.box
 obtain ⟨A, c, hvD, hc, hm⟩ := own_form0 h.rD
 obtain ⟨A2, c2, hvF, hc2, hm2⟩ := own_form0 h.rF
 unfold maxLen at hm hm2
 have b0 : w.cell? ⟨g, 0, none⟩ = some (.slice A2 bs.length c2) := by rw [blk_cell hb, ← hvF]; rfl
 have b1 : w.cell? ⟨g, 1, none⟩ = some (.slice A S.d.length c) := by rw [blk_cell hb, ← hvD]; rfl
 have HD := hide (hvD ▸ h.rD)
 have HF := hide (hvF ▸ h.rF)
 have HL := hide h.lb
 have HDD := hide hd
 clear h hb hvD hvF hd
 go_enter Tryz.func77, Tryz.ntmps77
 go_wp2
 go_loopw [5] (fun i wr => ∃ j : Nat, i = .int .i64 (j : Int) ∧ j ≤ S.d.length ∧ (∀ (i : Nat) (hi : i < S.d.length), i < j → (S.d[i].n : Int) ≠ n) ∧ w = wr) (fun i _ => S.d.length - (intOf i).toNat)
 case atStart => exact ⟨0, rfl, Nat.zero_le _, fun i _ h => by omega, rfl⟩
 case round =>
  obtain ⟨j, rfl, hj, hall, rfl⟩ := hrel
  have HA := hide hall
  clear hall
  by_cases hlt : j < S.d.length
  ·obtain ⟨b, rfl, p0, p1⟩ := E_elem HD.out hlt
   obtain ⟨x, hx⟩ : ∃ x, x = S.d[j].n := ⟨_, rfl⟩
   have hxn := HDD.out _ (List.getElem_mem hlt)
   rw [← hx] at p1 hxn
   have HX := hide hx
   clear hx p0
   by_cases hs : (x : Int) = n
   ·have HS := hide (fileV_has (bs := bs) hlt (n := n) (by rw [← HX.out]; exact hs))
    have h1 : IntKind.i64.wrap (n - 1) = n - 1 := by rw [IntKind.wrap_i64]; omega
    obtain ⟨k, hk⟩ : ∃ k : Nat, k = (n - 1).toNat := ⟨_, rfl⟩
    have hk1 : n - 1 = (k : Int) := by omega
    have hk2 : k < bs.length := by rw [HL.out]; omega
    obtain ⟨b2, rfl, r0⟩ := P_elem HF.out hk2
    have HB2 : Hid (bs.getD (n - 1).toNat 0 = bs[k]) := hide (by rw [← hk, List.getD_eq_getElem?_getD, List.getElem?_eq_getElem hk2]; rfl)
    rw [hk1] at h1
    have h2 : n - 1 = (k : Int) := hk1
    subst hs
    obtain ⟨y, hy⟩ : ∃ y, y = bs[k] := ⟨_, rfl⟩
    rw [← hy] at r0
    have HY := hide hy
    clear hk hy
    go_wp2
    go_ret
    exact ⟨by rw [HS.out, HB2.out, ← HY.out]; rfl, rfl⟩
   ·have hs' : ((x : Int) == n) = false := beq_eq_false_iff_ne.2 hs
    have HS := hide hs
    go_wp2
    go_roundw
    case rel =>
     refine ⟨j + 1, by go_num, by omega, fun i hi h => ?_, trivial⟩
     by_cases hij : i = j
     ·subst hij
      rw [← HX.out]
      exact HS.out
     ·exact HA.out i hi (by omega)
    case measure => simp [intOf]; omega
  ·have HB := hide (fileV_no (bs := bs) (n := n) fun i hi => HA.out i hi (by omega))
   go_wp2
   go_ret
   exact ⟨by rw [HB.out]; rfl, rfl⟩
end Go.Proofs.YtmcmlkglkpbnpaaGreat
namespace Go.Proofs.YtmcmlkglkpbnpaaGreat
open Go.RowKit
attribute [local go_sem ↓] Go.wp_at_zero Go.wp_at_succ
def noFl : RFl := ⟨0, ⟨#[]⟩, [], ⟨#[]⟩⟩
def usedN (S : RS) (k : Nat) : Nat := ((S.d.take k).map fun e => (S.f.getD (e.n - 1) noFl).p.size).sum
theorem usedN_succ {S : RS} {k : Nat} (hk : k < S.d.length) : usedN S (k + 1) = usedN S k + (S.f.getD (S.d[k].n - 1) noFl).p.size := by
 unfold usedN
 rw [List.take_succ_eq_append_getElem hk, List.map_append, List.sum_append]
 simp
theorem usedN_le {S : RS} (hp : ∀ x ∈ S.f, x.p.size ≤ 1000000000) (k : Nat) (hk : k ≤ S.d.length) : usedN S k ≤ k * 1000000000 := by
 induction k with
 | zero => simp [usedN]
 | succ k ih =>
  have := ih (by omega)
  rw [usedN_succ hk]
  have : (S.f.getD (S.d[k].n - 1) noFl).p.size ≤ 1000000000 := by
   rw [List.getD_eq_getElem?_getD]
   cases h : S.f[S.d[k].n - 1]? with
   | none => exact Nat.zero_le 1000000000
   | some x => exact hp x (List.mem_of_getElem? h)
  omega
theorem RAt.gb {w w' : World} {g : Nat} {S : RS} {bs : List Nat} {vs : List Value} {vF vD vS vM : Value} (h : RAt w g S bs vs vF vD vS vM) (hk : ∀ i, ROwn g bs vs vF vD vS vM i → i < w.heap.size) (hg : w.grownBy w' none) : RAt w' g S bs vs vF vD vS vM :=
 h.keep fun i hi => hg.block i (hk i hi) (by simp)
theorem RAt.lt {w : World} {g : Nat} {S : RS} {bs : List Nat} {vs : List Value} {vF vD vS vM : Value} (h : RAt w g S bs vs vF vD vS vM) : ∀ i, ROwn g bs vs vF vD vS vM i → i < w.heap.size := by
 rintro i (rfl | hi | ⟨v, hv, hi⟩ | hi | hi | hi | hi)
 ·exact blk_lt h.box
 ·obtain ⟨j, hj, rfl⟩ := List.getElem_of_mem hi
  have := (h.fl j (by rw [← h.lb]; exact hj)).box
  rw [List.getD_eq_getElem?_getD, List.getElem?_eq_getElem hj] at this
  exact blk_lt this
 ·obtain ⟨j, hj, rfl⟩ := List.getElem_of_mem hv
  have := (h.fl j (by rw [← h.lv]; exact hj)).row
  rw [List.getD_eq_getElem?_getD (l := vs), List.getElem?_eq_getElem hj] at this
  exact (this.lt i hi).2
 ·exact (h.rF.lt i hi).2
 ·exact (h.rD.lt i hi).2
 ·exact (h.rS.lt i hi).2
 ·exact (h.rM.lt i hi).2
set_option maxHeartbeats 4000000 in
set_option maxRecDepth 100000 in
theorem rUsed_q (g : Nat) (S : RS) (bs : List Nat) (vs : List Value) (vF vD vS vM : Value) (w : World) (h : RAt w g S bs vs vF vD vS vM) (hd : ∀ e ∈ S.d, 1 ≤ e.n ∧ e.n ≤ S.f.length) (hf : S.f.length ≤ 1000000) (hdl : S.d.length ≤ 1000000) (hp : ∀ x ∈ S.f, x.p.size ≤ 1000000000) :
  Calls Tryz.prog 78 #[.pointer (some ⟨g, 0, none⟩)] w fun e w' => e = .returned (.int .i64 (usedN S S.d.length : Int)) ∧ ∃ q, w' = w.drewN q := by
 obtain ⟨A, c, hvD, hc, hm⟩ := own_form0 h.rD
 obtain ⟨A2, c2, hvF, hc2, hm2⟩ := own_form0 h.rF
 subst hvD hvF
 unfold maxLen at hm hm2
 have H := hide h
 have HDD := hide hd
 have HP := hide hp
 clear h hd hp
 go_enter Tryz.func78, Tryz.ntmps78
 go_wp2
 go_loopw [3, 4] (fun a i wr => ∃ j : Nat, i = .int .i64 (j : Int) ∧ a = .int .i64 (usedN S j : Int) ∧ j ≤ S.d.length ∧ ∃ q, wr = w.drewN q) (fun _ i _ => S.d.length - (intOf i).toNat)
 case atStart => exact ⟨0, rfl, by simp [usedN], Nat.zero_le _, 0, rfl⟩
 case round =>
  obtain ⟨j, rfl, rfl, hj, hqr⟩ := hrel
  have HQ := hide hqr
  have hgr : w.grownBy wr none := by obtain ⟨q, rfl⟩ := hqr; exact gb_drewN (gb_refl w none) q
  clear hqr
  have HR := hide (H.out.gb H.out.lt hgr)
  clear hgr
  have b0 : wr.cell? ⟨g, 0, none⟩ = some (.slice A2 bs.length c2) := by rw [blk_cell HR.out.box]; rfl
  have b1 : wr.cell? ⟨g, 1, none⟩ = some (.slice A S.d.length c) := by rw [blk_cell HR.out.box]; rfl
  by_cases hlt : j < S.d.length
  ·obtain ⟨b, rfl, p0, p1⟩ := E_elem HR.out.rD hlt
   obtain ⟨x, hx⟩ : ∃ x, x = S.d[j].n := ⟨_, rfl⟩
   have hxn := HDD.out _ (List.getElem_mem hlt)
   rw [← hx] at p1 hxn
   have hxf : x - 1 < S.f.length := by omega
   obtain ⟨k, hk⟩ : ∃ k, k = x - 1 := ⟨_, rfl⟩
   rw [← hk] at hxf
   have hkb : k < bs.length := by rw [HR.out.lb]; exact hxf
   obtain ⟨b2, rfl, r0⟩ := P_elem HR.out.rF hkb
   obtain ⟨y, hy⟩ : ∃ y, y = bs[k] := ⟨_, rfl⟩
   have hfl := (HR.out.fl k hxf).box
   rw [List.getD_eq_getElem?_getD, List.getElem?_eq_getElem hkb] at hfl
   rw [← hy] at r0
   have hfl2 : wr.heap[y]? = some (.cells #[.int .i64 (S.f[k].n : Int), .string S.f[k].safe, vs.getD k undef, .string S.f[k].p] 108 (0, 0)) := by rw [hy]; exact hfl
   obtain ⟨P, hP⟩ : ∃ P, P = S.f[k].p := ⟨_, rfl⟩
   have r3 : wr.cell? ⟨y, 3, none⟩ = some (.string P) := by rw [blk_cell hfl2, hP]; rfl
   have h1 : IntKind.i64.wrap ((x : Int) - 1) = (k : Int) := by rw [IntKind.wrap_i64]; omega
   have HU : Hid (usedN S (j + 1) = usedN S j + P.size) := hide (by rw [usedN_succ hlt, ← hx, ← hk, List.getD_eq_getElem?_getD, List.getElem?_eq_getElem hxf, hP]; rfl)
   have hle := usedN_le HP.out (j + 1) hlt
   rw [HU.out] at hle
   have h2 : IntKind.i64.wrap ((usedN S j : Int) + (P.size : Int)) = ((usedN S j + P.size : Nat) : Int) := by rw [IntKind.wrap_i64]; omega
   clear hk hx hy hP hfl hfl2 p0 hle
   go_upto_region 5 with fail
   go_quiet (fail)
   go_wp2
   go_roundw
   case rel => exact ⟨j + 1, by go_num, by rw [HU.out, Int.natCast_add], by omega, by obtain ⟨q, hq⟩ := HQ.out; exact ⟨q + nq, by rw [hq, World.drewN_drewN]⟩⟩
   case measure => simp [intOf]; omega
  ·have hje : j = S.d.length := by omega
   have HJ := hide hje
   clear hje
   go_wp2
   go_ret
   exact ⟨by rw [← HJ.out]; rfl, HQ.out⟩
end Go.Proofs.YtmcmlkglkpbnpaaGreat
