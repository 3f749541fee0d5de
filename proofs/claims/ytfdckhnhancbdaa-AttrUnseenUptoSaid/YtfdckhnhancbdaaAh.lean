/-
  attr's keys: the elements of a value.
-/
import Derived.Test.YtfdckhnhancbdaaAg
namespace Go.Proofs.Ytfdckhnhancbdaa
open Go.RowKit
attribute [local go_sem ↓] Go.wp_at_zero Go.wp_at_succ

/-- What keys leaves: a new row of elements. -/
def KeysP (ks : List (Int × ByteArray)) (w : World) (e : Ending) (w' : World) : Prop :=
  ∃ b, e = .returned (.slice (some ⟨b, 0, none⟩) ks.length ks.length) ∧ w.heap.size ≤ b ∧ Rd w' w'.heap.size (some ⟨b, 0, none⟩) (kcs ks) ∧ w.grownBy w' none
/-- A row of n elements, k of them laid. -/
def KeyB (w : World) (b n k : Nat) (ks : List (Int × ByteArray)) : Prop := ∃ cur, w.heap[b]? = some (.cells cur 89 (0, 0)) ∧ cur.size = n * 2 ∧ cur.toList.take (k * 2) = kcs ks
theorem KeyB.start {w : World} {base b n : Nat} {xs : List Value} (h : w.ownsRow base 89 2 (.slice (some ⟨b, 0, none⟩) n n) n xs) : KeyB w b n 0 [] := by
  rcases h.2 with ⟨e, _⟩ | ⟨g, cap, cur, e, _, hh, _, _, hs, _⟩
  · cases e
  · injection e with e1 e2 e3
    injection e1 with e1
    injection e1 with e1
    subst e1 e3
    exact ⟨cur, hh, hs, by simp [kcs]⟩
theorem KeyB.rd {w : World} {b n : Nat} {ks : List (Int × ByteArray)} (h : KeyB w b n n ks) (_hn : ks.length = n) : Rd w w.heap.size (some ⟨b, 0, none⟩) (kcs ks) := by
  obtain ⟨cur, h1, h2, h3⟩ := h
  intro _
  refine ⟨_, rfl, blk_lt h1, fun j u hu => ?_⟩
  have e : (⟨b, 0, none⟩ : Addr).add j = ⟨b, j, none⟩ := by unfold Addr.add; split <;> simp_all
  rw [e, blk_cell h1]
  rw [← h3, List.take_of_length_le (by rw [Array.length_toList, h2]; omega)] at hu
  simpa using hu
theorem KeyB.free {w : World} {b n k : Nat} {ks : List (Int × ByteArray)} (h : KeyB w b n k ks) (hk : k < n) : w.frozen? ⟨b, k * 2, none⟩ = false ∧ w.frozen? ⟨b, k * 2 + 1, none⟩ = false ∧ (∃ u, w.cell? ⟨b, k * 2, none⟩ = some u) ∧ ∃ u, w.cell? ⟨b, k * 2 + 1, none⟩ = some u := by
  obtain ⟨cur, h1, h2, _⟩ := h
  exact ⟨blk_frozen h1 _, blk_frozen h1 _, ⟨cur[k * 2]'(by omega), by rw [blk_cell h1]; simp⟩, ⟨cur[k * 2 + 1]'(by omega), by rw [blk_cell h1]; simp⟩⟩
theorem KeyB.put {w : World} {b n k : Nat} {ks : List (Int × ByteArray)} {m : Int × ByteArray} (h : KeyB w b n k ks) (hk : k < n) : KeyB ((w.setCell ⟨b, k * 2, none⟩ (.int .i64 m.1)).setCell ⟨b, k * 2 + 1, none⟩ (.string m.2)) b n (k + 1) (ks ++ [m]) := by
  obtain ⟨cur, h1, h2, h3⟩ := h
  refine ⟨_, blk_set (blk_set h1 (k * 2) _) (k * 2 + 1) _, by simpa using h2, ?_⟩
  have hk' : k * 2 + 1 < cur.size := by omega
  rw [show (k + 1) * 2 = k * 2 + 1 + 1 by omega, List.take_succ_eq_append_getElem (by simpa using hk'), List.take_succ_eq_append_getElem (by simp; omega), kcs_app]
  simp only [Array.toList_setIfInBounds]
  rw [List.take_set_of_le (by omega), List.take_set_of_le (Nat.le_refl _), h3]
  simp [kcs]
set_option maxHeartbeats 2000000 in
set_option maxRecDepth 100000 in
theorem keysN_any (t : Int) (ht : ¬ t = 3 ∧ ¬ t = -3) (l : List Int) (x1 x2 x3 : Value) (A : Option Addr) (c B : Nat) (hx : x1 = .slice A l.length c) (w : World) (hr : Rd w B A (i64s l)) (hB : B ≤ w.heap.size) (hl : l.length ≤ 1000000) :
    Calls Try.prog 35 #[.agg #[.int .i64 t, x1, x2, x3]] w (KeysP (l.map fun x => (x, noS)) w) := by
  subst hx
  obtain ⟨wa, hwa⟩ : ∃ wa, wa = w.alloc (.cells #[.int .i64 t, .slice A l.length c, x2, x3] 26) := ⟨_, rfl⟩
  have hga : w.grownBy wa none := by rw [hwa]; exact gb_alloc (gb_refl w none) _
  have hba : wa.heap[w.heap.size]? = some (.cells #[.int .i64 t, .slice A l.length c, x2, x3] 26 (0, 0)) := by rw [hwa]; exact heap_alloc_new w _
  have HSA := hide (show wa.heap.size = w.heap.size + 1 by rw [hwa]; simp)
  have HWE := hide hwa
  have HBA := hide hba
  have HGA := hide hga
  have HR := hide (hr.grown hga hB (by simp))
  have HB := hide hB
  obtain ⟨i1, hi1, hiz, his, hib⟩ := info_parts Try.infoK
  have HI1 := hide hi1
  have HIZ := hide hiz
  have HIS := hide his
  have HIB : Hid (i1.bytes * l.length ≤ 281474976710656) := hide (by rw [hib]; omega)
  have HML : Hid (l.length ≤ maxLen) := hide (by unfold maxLen; omega)
  have HLL := hide hl
  clear hi1 hiz his hib hr hB hba hga hwa
  obtain ⟨h1, h2⟩ := ht
  have h3 : (t == 3) = false := by simp [h1]
  have h4 : (t == -3) = false := by simp [h2]
  go_enter Try.func35, Try.ntmps35
  go_wp2_with (refine wpList_make_full _ rfl (.tmp 38) (.tmp 38) 72 rfl (w.heap.size + 1) 89 i1 (.agg #[.int .i64 0, .string ⟨#[]⟩]) 2 Try.underlying72 HI1.out HIZ.out HIS.out .i64 .i64 _ _ l.length rfl rfl rfl rfl HIB.out HML.out (by simp) ?_; rw [← HWE.out]; intro w1 ho1 hg1; have HO1 := hide ho1; have HG1 := hide hg1; have hb1 := blk_keep HBA.out hg1 (by simp); have y0 : w1.cell? ⟨w.heap.size, 0, none⟩ = some (.int .i64 t) := by { rw [blk_cell hb1]; rfl }; have y1 : w1.cell? ⟨w.heap.size, 1, none⟩ = some (.slice A l.length c) := by { rw [blk_cell hb1]; rfl }; clear ho1 hg1 hb1)
  go_loopw [43] (fun i wr => ∃ k : Nat, k ≤ l.length ∧ i = .int .i64 (k : Int) ∧ KeyB wr wa.heap.size l.length k ((l.take k).map fun x => (x, noS)) ∧ w1.grownBy wr (some wa.heap.size)) (fun i _ => l.length - (intOf i).toNat)
  case atStart => exact ⟨0, Nat.zero_le _, rfl, KeyB.start HO1.out, gb_refl _ _⟩
  case round =>
    obtain ⟨k, hk, rfl, hK, hG⟩ := hrel
    by_cases hlt : k < l.length
    · have hkl : k ≤ 1000000 := by have := HLL.out; omega
      have hrd : Rd wr B A (i64s l) := (HR.out.grown (gb_some HG1.out none) (Nat.le_trans HB.out HGA.out.size) (by simp)).grown hG (by have := HB.out; have := HGA.out.size; have := HG1.out.size; omega) (by rintro g e; injection e with e; have := HB.out; have := HGA.out.size; omega)
      obtain ⟨ad, rfl, _, hcell⟩ := hrd.i64 hlt
      obtain ⟨xx, hxx⟩ : ∃ xx, xx = l[k] := ⟨_, rfl⟩
      rw [← hxx] at hcell
      have HP := hide (fun (wq : World) (hq : wq = wr) => hq ▸ hK.put (m := (xx, noS)) hlt)
      obtain ⟨z0, z1, ⟨u0, p0⟩, ⟨u1, p1⟩⟩ := hK.free hlt
      have HX := hide hxx
      have HGR := hide hG
      clear hxx hrd hK hG
      go_wp2_with fail
      go_roundw
      case rel =>
        have he : (l.take (k + 1)).map (fun x => (x, noS)) = (l.take k).map (fun x => (x, noS)) ++ [(xx, noS)] := by rw [List.take_succ_eq_append_getElem hlt, List.map_append, ← HX.out]; rfl
        exact ⟨k + 1, by omega, by go_num, by rw [he]; exact HP.out _ rfl, gb_trans HGR.out (gb_trans (gb_cell _) (gb_cell _) (.inl rfl)) (.inl rfl)⟩
      case measure => simp [intOf]; omega
    · obtain rfl : k = l.length := by omega
      rw [List.take_length] at hK
      have HK := hide hK
      have HGR := hide hG
      clear hK hG
      go_wp2_with fail
      go_ret
      exact ⟨wa.heap.size, by rw [List.length_map]; rfl, HGA.out.size, HK.out.rd (by simp), gb_trans (gb_trans HGA.out HG1.out (.inl rfl)) HGR.out (.inr (.inr ⟨_, rfl, HGA.out.size⟩))⟩
set_option maxHeartbeats 2000000 in
set_option maxRecDepth 100000 in
theorem keysS_any (t : Int) (ht : t = 3 ∨ t = -3) (l : List ByteArray) (x1 x2 x3 : Value) (A : Option Addr) (c B : Nat) (hx : x2 = .slice A l.length c) (w : World) (hr : Rd w B A (strs l)) (hB : B ≤ w.heap.size) (hl : l.length ≤ 1000000) :
    Calls Try.prog 35 #[.agg #[.int .i64 t, x1, x2, x3]] w (KeysP (l.map fun x => ((0 : Int), x)) w) := by
  subst hx
  obtain ⟨wa, hwa⟩ : ∃ wa, wa = w.alloc (.cells #[.int .i64 t, x1, .slice A l.length c, x3] 26) := ⟨_, rfl⟩
  have hga : w.grownBy wa none := by rw [hwa]; exact gb_alloc (gb_refl w none) _
  have hba : wa.heap[w.heap.size]? = some (.cells #[.int .i64 t, x1, .slice A l.length c, x3] 26 (0, 0)) := by rw [hwa]; exact heap_alloc_new w _
  have HSA := hide (show wa.heap.size = w.heap.size + 1 by rw [hwa]; simp)
  have HWE := hide hwa
  have HBA := hide hba
  have HGA := hide hga
  have HR := hide (hr.grown hga hB (by simp))
  have HB := hide hB
  obtain ⟨i1, hi1, hiz, his, hib⟩ := info_parts Try.infoK
  have HI1 := hide hi1
  have HIZ := hide hiz
  have HIS := hide his
  have HIB : Hid (i1.bytes * l.length ≤ 281474976710656) := hide (by rw [hib]; omega)
  have HML : Hid (l.length ≤ maxLen) := hide (by unfold maxLen; omega)
  have HLL := hide hl
  clear hi1 hiz his hib hr hB hba hga hwa
  rcases ht with rfl | rfl
  all_goals

    go_enter Try.func35, Try.ntmps35
    go_wp2_with (refine wpList_make_full _ rfl (.tmp 19) (.tmp 19) 72 rfl (w.heap.size + 1) 89 i1 (.agg #[.int .i64 0, .string ⟨#[]⟩]) 2 Try.underlying72 HI1.out HIZ.out HIS.out .i64 .i64 _ _ l.length rfl rfl rfl rfl HIB.out HML.out (by simp) ?_; rw [← HWE.out]; intro w1 ho1 hg1; have HO1 := hide ho1; have HG1 := hide hg1; have hb1 := blk_keep HBA.out hg1 (by simp); have y0 : w1.cell? ⟨w.heap.size, 0, none⟩ = some (.int .i64 _) := by { rw [blk_cell hb1]; rfl }; have y2 : w1.cell? ⟨w.heap.size, 2, none⟩ = some (.slice A l.length c) := by { rw [blk_cell hb1]; rfl }; clear ho1 hg1 hb1)
    go_loopw [24] (fun i wr => ∃ k : Nat, k ≤ l.length ∧ i = .int .i64 (k : Int) ∧ KeyB wr wa.heap.size l.length k ((l.take k).map fun x => ((0 : Int), x)) ∧ w1.grownBy wr (some wa.heap.size)) (fun i _ => l.length - (intOf i).toNat)
    case atStart => exact ⟨0, Nat.zero_le _, rfl, KeyB.start HO1.out, gb_refl _ _⟩
    case round =>
      obtain ⟨k, hk, rfl, hK, hG⟩ := hrel
      by_cases hlt : k < l.length
      · have hkl : k ≤ 1000000 := by have := HLL.out; omega
        have hrd : Rd wr B A (strs l) := (HR.out.grown (gb_some HG1.out none) (Nat.le_trans HB.out HGA.out.size) (by simp)).grown hG (by have := HB.out; have := HGA.out.size; have := HG1.out.size; omega) (by rintro g e; injection e with e; have := HB.out; have := HGA.out.size; omega)
        obtain ⟨ad, rfl, _, hcell⟩ := hrd.str hlt
        obtain ⟨xx, hxx⟩ : ∃ xx, xx = l[k] := ⟨_, rfl⟩
        rw [← hxx] at hcell
        have HP := hide (fun (wq : World) (hq : wq = wr) => hq ▸ hK.put (m := ((0 : Int), xx)) hlt)
        obtain ⟨z0, z1, ⟨u0, p0⟩, ⟨u1, p1⟩⟩ := hK.free hlt
        have HX := hide hxx
        have HGR := hide hG
        clear hxx hrd hK hG
        go_wp2_with fail
        go_roundw
        case rel =>
          have he : (l.take (k + 1)).map (fun x => ((0 : Int), x)) = (l.take k).map (fun x => ((0 : Int), x)) ++ [((0 : Int), xx)] := by rw [List.take_succ_eq_append_getElem hlt, List.map_append, ← HX.out]; rfl
          exact ⟨k + 1, by omega, by go_num, by rw [he]; exact HP.out _ rfl, gb_trans HGR.out (gb_trans (gb_cell _) (gb_cell _) (.inl rfl)) (.inl rfl)⟩
        case measure => simp [intOf]; omega
      · obtain rfl : k = l.length := by omega
        rw [List.take_length] at hK
        have HK := hide hK
        have HGR := hide hG
        clear hK hG
        go_wp2_with fail
        go_ret
        exact ⟨wa.heap.size, by rw [List.length_map]; rfl, HGA.out.size, HK.out.rd (by simp), gb_trans (gb_trans HGA.out HG1.out (.inl rfl)) HGR.out (.inr (.inr ⟨_, rfl, HGA.out.size⟩))⟩
end Go.Proofs.Ytfdckhnhancbdaa
