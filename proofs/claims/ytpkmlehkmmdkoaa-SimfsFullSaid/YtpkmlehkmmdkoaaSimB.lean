/-
  The contract of simfs.follow: a change is done to names.
-/
import Derived.Test.YtpkmlehkmmdkoaaSimA
namespace Go.Proofs.Ytpkmlehkmmdkoaa
open Go.RowKit

/-- The names behind a change, and the file that has none any more, or 0. -/
def followL (l : List (ByteArray × Nat)) (c : Ch) : List (ByteArray × Nat) × Nat :=
  if c.src = c.dst then (l, 0)
  else if c.src.size = 0 then (aput l c.dst c.file, (aget l c.dst).getD 0)
  else if c.dst.size = 0 then (adel l c.src, (aget l c.src).getD 0)
  else (aput (adel l c.src) c.dst ((aget l c.src).getD 0), (aget (adel l c.src) c.dst).getD 0)

theorem look_name {w : World} {b : Nat} {l : List (ByteArray × Nat)} (h : MapAt encN w b l) (k : ByteArray) :
    (Instr.lookup 72 (.map (some b)) (.string k) false).run Try.prog w = .ok (.int .i64 (((aget l k).getD 0 : Nat) : Int)) w := by
  have := h.look (P := Try.prog) (E := encN) Try.underlying9 Try.underlying72 (zero_int w) k false
  rw [show (Instr.lookup 72 (.map (some b)) (.string k) false) = (Instr.lookup 72 (.map (some b)) (encN.ek k) false) from rfl, this]
  cases aget l k <;> rfl

theorem empty_list {s : ByteArray} (h : s.size = 0) : s = ⟨#[]⟩ := by
  obtain ⟨a⟩ := s
  have : a.size = 0 := h
  rw [Array.eq_empty_of_size_eq_zero this]
theorem str_eq {a b : ByteArray} (h : a = b) : (a.toList == b.toList) = true := by rw [h]; exact beq_self_eq_true _
theorem str_ne {a b : ByteArray} (h : a ≠ b) : (a.toList == b.toList) = false := by
  rw [ByteArray.toList_eq, ByteArray.toList_eq]
  refine beq_eq_false_iff_ne.2 fun e => h ?_
  obtain ⟨⟨x⟩⟩ := a
  obtain ⟨⟨y⟩⟩ := b
  have e' : x = y := e
  rw [e']
theorem str_emp {s : ByteArray} (h : s.size = 0) : s.toList.isEmpty = true := by rw [empty_list h, ByteArray.toList_eq]; rfl
theorem str_full {s : ByteArray} (h : s.size ≠ 0) : s.toList.isEmpty = false := by
  rw [ByteArray.toList_eq]
  obtain ⟨⟨x⟩⟩ := s
  have h' : x.length ≠ 0 := h
  cases x with
  | nil => exact absurd rfl h'
  | cons a l => rfl

set_option maxHeartbeats 4000000 in
set_option maxRecDepth 100000 in
theorem follow_any (b : Nat) (l : List (ByteArray × Nat)) (c : Ch) (w : World) (h : MapAt encN w b l) :
    Calls Try.prog 46 #[.map (some b), .agg #[.string c.src, .string c.dst, .int .i64 (c.file : Int)]] w fun e w' =>
      e = .returned (.int .i64 (((followL l c).2 : Nat) : Int)) ∧ MapAt encN w' b (followL l c).1 ∧ w.grownBy w' (some b) := by
  have hmap := h.alloc (.cells #[.string c.src, .string c.dst, .int .i64 (c.file : Int)] 78)
  have hga := gb_some (gb_alloc (gb_refl w none) (.cells #[.string c.src, .string c.dst, .int .i64 (c.file : Int)] 78)) (some b)
  have hX := heap_alloc_new w (.cells #[.string c.src, .string c.dst, .int .i64 (c.file : Int)] 78)
  have hbl := h.lt
  have HM := hide hmap
  have HG := hide hga
  have HX := hide hX
  clear h hga hX
  by_cases h1 : c.src = c.dst
  · have E1 := hide (show followL l c = (l, 0) from if_pos h1)
    have hb := str_eq h1
    clear h1 hmap
    go_enter Try.func46, Try.ntmps46
    go_wp2
    go_ret
    exact ⟨by rw [E1.out]; rfl, by rw [E1.out]; exact HM.out, HG.out⟩
  by_cases h2 : c.src.size = 0
  · have h3 : c.dst.size ≠ 0 := fun h3 => h1 (by rw [empty_list h2, empty_list h3])
    have E1 := hide (show followL l c = (aput l c.dst c.file, (aget l c.dst).getD 0) from by unfold followL; rw [if_neg h1, if_pos h2])
    have hb := str_ne h1
    have hz := str_emp h2
    have hd := str_full h3
    have hl1 := look_name hmap c.dst
    clear h1 h2 h3 hmap
    go_enter Try.func46, Try.ntmps46
    go_wp2_with (at_mapUpdate; refine wpList_put (E := encN) _ rfl _ _ _ 72 rfl 9 3 Try.underlying9 Try.underlying72 b l rfl HM.out c.dst c.file rfl rfl ?_; intro w1 hm1 hg1 hs1; have HM1 := hide hm1; have HG1 := hide hg1; clear hm1 hg1 hs1)
    go_ret
    exact ⟨by rw [E1.out]; rfl, by rw [E1.out]; exact HM1.out, gb_trans HG.out HG1.out (.inl rfl)⟩
  have hb := str_ne h1
  have hs := str_full h2
  have hl1 := look_name hmap c.src
  by_cases h3 : c.dst.size = 0
  · have E1 := hide (show followL l c = (adel l c.src, (aget l c.src).getD 0) from by unfold followL; rw [if_neg h1, if_neg h2, if_pos h3])
    have hd := str_emp h3
    clear h1 h2 h3 hmap
    go_enter Try.func46, Try.ntmps46
    go_wp2_with (at_delete; refine wpList_del (E := encN) _ rfl _ _ 72 9 rfl 3 Try.underlying9 Try.underlying72 b l rfl HM.out c.src rfl ?_; intro w1 hm1 hg1 hs1; have HM1 := hide hm1; have HG1 := hide hg1; have HX1 := hide ((hg1.block _ (blk_lt HX.out) (fun e => by injection e with e; omega)).trans HX.out); have k1 : w1.cell? ⟨w.heap.size, 1, none⟩ = some (.string c.dst) := by { rw [blk_cell HX1.out]; rfl }; clear hm1 hg1 hs1)
    go_ret
    exact ⟨by rw [E1.out]; rfl, by rw [E1.out]; exact HM1.out, gb_trans HG.out HG1.out (.inl rfl)⟩
  · have E1 := hide (show followL l c = (aput (adel l c.src) c.dst ((aget l c.src).getD 0), (aget (adel l c.src) c.dst).getD 0) from by unfold followL; rw [if_neg h1, if_neg h2, if_neg h3])
    have hd := str_full h3
    clear h1 h2 h3 hmap
    go_enter Try.func46, Try.ntmps46
    go_wp2_with (first
      | (at_delete; refine wpList_del (E := encN) _ rfl _ _ 72 9 rfl 3 Try.underlying9 Try.underlying72 b l rfl HM.out c.src rfl ?_; intro w1 hm1 hg1 hs1; have hl2 := look_name hm1 c.dst; have HM1 := hide hm1; have HG1 := hide hg1; have HX1 := hide ((hg1.block _ (blk_lt HX.out) (fun e => by injection e with e; omega)).trans HX.out); have k1 : w1.cell? ⟨w.heap.size, 1, none⟩ = some (.string c.dst) := by { rw [blk_cell HX1.out]; rfl }; clear hm1 hg1 hs1)
      | (at_mapUpdate; refine wpList_put (E := encN) _ rfl _ _ _ 72 rfl 9 3 Try.underlying9 Try.underlying72 b (adel l c.src) rfl HM1.out c.dst ((aget l c.src).getD 0) rfl rfl ?_; intro w2 hm2 hg2 hs2; have HM2 := hide hm2; have HG2 := hide hg2; clear hm2 hg2 hs2))
    go_ret
    exact ⟨by rw [E1.out]; rfl, by rw [E1.out]; exact HM2.out, gb_trans (gb_trans HG.out HG1.out (.inl rfl)) HG2.out (.inl rfl)⟩

end Go.Proofs.Ytpkmlehkmmdkoaa
