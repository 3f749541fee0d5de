/-
  vec.filled of numbers and of symbols.
-/
import Derived.Test.YtbmgodmfpoappaaGreatQZr
import Derived.Test.YtbmgodmfpoappaaGreatQOc
namespace Go.Proofs.YtbmgodmfpoappaaGreat
open Go.RowKit
attribute [local go_sem ↓] Go.wp_at_zero Go.wp_at_succ
def filI (x y : Int) : Int := if y = -9223372036854775808 then x else y
def filS (x y : ByteArray) : ByteArray := if y.toList.isEmpty = true then x else y
def FilP (xs : List Value) (n : Nat) (w : World) (e : Ending) (w' : World) : Prop := ∃ A c f, e = .returned (.slice A n c) ∧ n ≤ c ∧ Own w' f A xs ∧ (∀ b ∈ f, w.heap.size ≤ b ∧ b < w'.heap.size) ∧ w.grownBy w' none
set_option maxHeartbeats 8000000 in
set_option maxRecDepth 100000 in
theorem fillI_any (l : List Int) (x : Int) (w : World) (B : Nat) (A : Option Addr) (c : Nat) (hl : l.length ≤ 1200000000) (hB : B ≤ w.heap.size) (h : Rd w B A (i64s l)) :
  Calls Tryz.prog 44 #[.slice A l.length c, .int .i64 (-9223372036854775808), .int .i64 x] w (FilP (i64s (l.map (filI x))) (l.map (filI x)).length w) := by
 rw [List.length_map]
 have HCL := hide (cloneI_any A c B l w h hB hl)
 have HL := hide hl
 clear h hB hl
 go_enter Tryz.func44, Tryz.ntmps44
 go_wp2_with (go_at_call 82; refine HCL.out.mono ?_; rintro e w0 ⟨rA, rc, rfl, hrc, how, hg⟩; have HG := hide hg; have HOW := hide how; have HRC := hide hrc; clear hg how hrc)
 obtain ⟨f, hf, hfb⟩ := Own.of_row HOW.out
 have HF := hide hf
 have HFB := hide hfb
 clear hf hfb HOW
 go_loopw [13] (fun i wq => ∃ j : Nat, i = .int .i64 (j : Int) ∧ j ≤ l.length ∧ Own wq f rA (i64s ((l.take j).map (filI x) ++ l.drop j)) ∧ Hid (w0.heap.size ≤ wq.heap.size) ∧ w.grownBy wq none) (fun i _ => l.length - (intOf i).toNat)
 case atStart => exact ⟨0, rfl, Nat.zero_le _, by simpa using HF.out, hide (Nat.le_refl _), HG.out⟩
 case round =>
  obtain ⟨j, rfl, hj, ho, hsz, hgr⟩ := hrel
  by_cases hlt : j < l.length
  ·have hlt1 : (j : Int) < (l.length : Int) := by omega
   have h6 : IntKind.i64.wrap ((j : Int) + 1) = ((j + 1 : Nat) : Int) := by rw [IntKind.wrap_i64]; have := HL.out; omega
   obtain ⟨p, hpe⟩ : ∃ p, p = l[j] := ⟨_, rfl⟩
   obtain ⟨done, hdone⟩ : ∃ d, d = (l.take j).map (filI x) := ⟨_, rfl⟩
   have hdl : done.length = j := by rw [hdone, List.length_map, List.length_take]; omega
   obtain ⟨rest, hrest⟩ : ∃ r, r = l.drop (j + 1) := ⟨_, rfl⟩
   have hdr : l.drop j = p :: rest := by rw [List.drop_eq_getElem_cons hlt, hpe, hrest]
   have htk : (l.take (j + 1)).map (filI x) = done ++ [filI x p] := by rw [List.take_succ_eq_append_getElem hlt, List.map_append, ← hdone, ← hpe]; rfl
   have HNX := hide (show (l.take (j + 1)).map (filI x) ++ l.drop (j + 1) = done ++ filI x p :: rest by rw [htk, ← hrest]; simp)
   rw [← hdone, hdr] at ho
   have hne : i64s (done ++ p :: rest) ≠ [] := by simp [i64s]
   rcases ho with ⟨h0, _⟩ | ⟨b, ty, cur, hfe, rfl, hh, htake, _⟩
   ·exact absurd h0 hne
   have hjlen : (i64s done).length = j := by simp [i64s, hdl]
   have hcur : cur[j]? = some (.int .i64 p) := by
    have h1 : (i64s (done ++ p :: rest))[j]? = some (.int .i64 p) := by
     rw [show i64s (done ++ p :: rest) = i64s done ++ .int .i64 p :: i64s rest by simp [i64s], List.getElem?_append_right (by rw [hjlen]; exact Nat.le_refl _), hjlen, Nat.sub_self]
     rfl
    rw [← htake, List.getElem?_take] at h1
    split at h1
    ·rw [← h1, Array.getElem?_toList]
    ·cases h1
   have hcp : wr.cell? ⟨b, j, none⟩ = some (.int .i64 p) := by rw [blk_cell hh j]; exact hcur
   have zz := blk_frozen hh j
   have HLT := hide hlt
   have HHB := hide hh
   have HSZ := hide hsz.out
   have HGR := hide hgr
   have HTK := hide htake
   have HFE := hide hfe
   have HFBB := hide (show w.heap.size ≤ b from (HFB.out b (by rw [hfe]; simp)).1)
   have HJL := hide hjlen
   clear hh hgr hsz htake hfe hjlen hcur hne htk hdr hrest hdone hdl hpe hlt hj
   by_cases hb : p = -9223372036854775808
   ·have e0 := int_beq_t hb
    have HZ := hide (show filI x p = x by unfold filI; rw [if_pos hb])
    clear hb
    go_wp2_with fail
    go_roundw
    case rel =>
     have hlt := HLT.out
     refine ⟨j + 1, by go_num, by omega, ?_, hide (by simp [World.setCell]; exact HSZ.out), gb_setCell HGR.out (.inr HFBB.out) _⟩
     rw [HNX.out, HZ.out, HFE.out]
     refine .inr ⟨b, ty, _, rfl, rfl, blk_set HHB.out j (.int .i64 x), ?_, by simp [i64s]⟩
     rw [Array.toList_setIfInBounds, show (i64s (done ++ x :: rest)).length = (i64s (done ++ p :: rest)).length by simp [i64s], List.take_set, HTK.out]
     rw [show i64s (done ++ p :: rest) = i64s done ++ .int .i64 p :: i64s rest by simp [i64s], show i64s (done ++ x :: rest) = i64s done ++ .int .i64 x :: i64s rest by simp [i64s]]
     rw [List.set_append_right _ _ (by rw [HJL.out]; exact Nat.le_refl _), HJL.out, Nat.sub_self]
     rfl
    case measure => have := HLT.out; simp [intOf]; omega
   ·have e0 := int_beq_f hb
    have HZ := hide (show filI x p = p by unfold filI; rw [if_neg hb])
    clear hb
    go_wp2_with fail
    go_roundw
    case rel =>
     have hlt := HLT.out
     refine ⟨j + 1, by go_num, by omega, ?_, hide HSZ.out, HGR.out⟩
     rw [HNX.out, HZ.out, HFE.out]
     exact .inr ⟨b, ty, cur, rfl, rfl, HHB.out, HTK.out, by simp [i64s]⟩
    case measure => have := HLT.out; simp [intOf]; omega
  ·have hlt1 : ¬ (j : Int) < (l.length : Int) := by omega
   have hjl : j = l.length := by omega
   rw [hjl, List.take_length, List.drop_length, List.append_nil] at ho
   have HOF := hide ho
   have HGR := hide hgr
   have HSZ := hide hsz.out
   clear ho hgr hsz hlt hj hjl
   go_wp2_with fail
   exact bodyPost_ret (v := .slice rA l.length rc) (by simp [results, Tryz.results44, go_sem]) rfl ⟨rA, rc, f, rfl, HRC.out, HOF.out, (fun b hb => ⟨(HFB.out b hb).1, Nat.lt_of_lt_of_le (HFB.out b hb).2 HSZ.out⟩), HGR.out⟩
set_option maxHeartbeats 8000000 in
set_option maxRecDepth 100000 in
theorem fillS_any (l : List ByteArray) (x : ByteArray) (w : World) (B : Nat) (A : Option Addr) (c : Nat) (hl : l.length ≤ 1200000000) (hB : B ≤ w.heap.size) (h : Rd w B A (strs l)) :
  Calls Tryz.prog 43 #[.slice A l.length c, .string ⟨#[]⟩, .string x] w (FilP (strs (l.map (filS x))) (l.map (filS x)).length w) := by
 rw [List.length_map]
 have HCL := hide (cloneS_any A c B l w h hB hl)
 have HL := hide hl
 clear h hB hl
 go_enter Tryz.func43, Tryz.ntmps43
 go_wp2_with (go_at_call 81; refine HCL.out.mono ?_; rintro e w0 ⟨rA, rc, rfl, hrc, how, hg⟩; have HG := hide hg; have HOW := hide how; have HRC := hide hrc; clear hg how hrc)
 obtain ⟨f, hf, hfb⟩ := Own.of_row HOW.out
 have HF := hide hf
 have HFB := hide hfb
 clear hf hfb HOW
 go_loopw [13] (fun i wq => ∃ j : Nat, i = .int .i64 (j : Int) ∧ j ≤ l.length ∧ Own wq f rA (strs ((l.take j).map (filS x) ++ l.drop j)) ∧ Hid (w0.heap.size ≤ wq.heap.size) ∧ w.grownBy wq none) (fun i _ => l.length - (intOf i).toNat)
 case atStart => exact ⟨0, rfl, Nat.zero_le _, by simpa using HF.out, hide (Nat.le_refl _), HG.out⟩
 case round =>
  obtain ⟨j, rfl, hj, ho, hsz, hgr⟩ := hrel
  by_cases hlt : j < l.length
  ·have hlt1 : (j : Int) < (l.length : Int) := by omega
   have h6 : IntKind.i64.wrap ((j : Int) + 1) = ((j + 1 : Nat) : Int) := by rw [IntKind.wrap_i64]; have := HL.out; omega
   obtain ⟨p, hpe⟩ : ∃ p, p = l[j] := ⟨_, rfl⟩
   obtain ⟨done, hdone⟩ : ∃ d, d = (l.take j).map (filS x) := ⟨_, rfl⟩
   have hdl : done.length = j := by rw [hdone, List.length_map, List.length_take]; omega
   obtain ⟨rest, hrest⟩ : ∃ r, r = l.drop (j + 1) := ⟨_, rfl⟩
   have hdr : l.drop j = p :: rest := by rw [List.drop_eq_getElem_cons hlt, hpe, hrest]
   have htk : (l.take (j + 1)).map (filS x) = done ++ [filS x p] := by rw [List.take_succ_eq_append_getElem hlt, List.map_append, ← hdone, ← hpe]; rfl
   have HNX := hide (show (l.take (j + 1)).map (filS x) ++ l.drop (j + 1) = done ++ filS x p :: rest by rw [htk, ← hrest]; simp)
   rw [← hdone, hdr] at ho
   have hne : strs (done ++ p :: rest) ≠ [] := by simp [strs]
   rcases ho with ⟨h0, _⟩ | ⟨b, ty, cur, hfe, rfl, hh, htake, _⟩
   ·exact absurd h0 hne
   have hjlen : (strs done).length = j := by simp [strs, hdl]
   have hcur : cur[j]? = some (.string p) := by
    have h1 : (strs (done ++ p :: rest))[j]? = some (.string p) := by
     rw [show strs (done ++ p :: rest) = strs done ++ .string p :: strs rest by simp [strs], List.getElem?_append_right (by rw [hjlen]; exact Nat.le_refl _), hjlen, Nat.sub_self]
     rfl
    rw [← htake, List.getElem?_take] at h1
    split at h1
    ·rw [← h1, Array.getElem?_toList]
    ·cases h1
   have hcp : wr.cell? ⟨b, j, none⟩ = some (.string p) := by rw [blk_cell hh j]; exact hcur
   have zz := blk_frozen hh j
   have HLT := hide hlt
   have HHB := hide hh
   have HSZ := hide hsz.out
   have HGR := hide hgr
   have HTK := hide htake
   have HFE := hide hfe
   have HFBB := hide (show w.heap.size ≤ b from (HFB.out b (by rw [hfe]; simp)).1)
   have HJL := hide hjlen
   clear hh hgr hsz htake hfe hjlen hcur hne htk hdr hrest hdone hdl hpe hlt hj
   cases hb : p.toList.isEmpty
   ·have e0 := emp_no hb
    have HZ := hide (show filS x p = p by unfold filS; rw [hb]; rfl)
    clear hb
    go_wp2_with fail
    go_roundw
    case rel =>
     have hlt := HLT.out
     refine ⟨j + 1, by go_num, by omega, ?_, hide HSZ.out, HGR.out⟩
     rw [HNX.out, HZ.out, HFE.out]
     exact .inr ⟨b, ty, cur, rfl, rfl, HHB.out, HTK.out, by simp [strs]⟩
    case measure => have := HLT.out; simp [intOf]; omega
   ·have e0 := emp_yes hb
    have HZ := hide (show filS x p = x by unfold filS; rw [hb]; rfl)
    clear hb
    go_wp2_with fail
    go_roundw
    case rel =>
     have hlt := HLT.out
     refine ⟨j + 1, by go_num, by omega, ?_, hide (by simp [World.setCell]; exact HSZ.out), gb_setCell HGR.out (.inr HFBB.out) _⟩
     rw [HNX.out, HZ.out, HFE.out]
     refine .inr ⟨b, ty, _, rfl, rfl, blk_set HHB.out j (.string x), ?_, by simp [strs]⟩
     rw [Array.toList_setIfInBounds, show (strs (done ++ x :: rest)).length = (strs (done ++ p :: rest)).length by simp [strs], List.take_set, HTK.out]
     rw [show strs (done ++ p :: rest) = strs done ++ .string p :: strs rest by simp [strs], show strs (done ++ x :: rest) = strs done ++ .string x :: strs rest by simp [strs]]
     rw [List.set_append_right _ _ (by rw [HJL.out]; exact Nat.le_refl _), HJL.out, Nat.sub_self]
     rfl
    case measure => have := HLT.out; simp [intOf]; omega
  ·have hlt1 : ¬ (j : Int) < (l.length : Int) := by omega
   have hjl : j = l.length := by omega
   rw [hjl, List.take_length, List.drop_length, List.append_nil] at ho
   have HOF := hide ho
   have HGR := hide hgr
   have HSZ := hide hsz.out
   clear ho hgr hsz hlt hj hjl
   go_wp2_with fail
   exact bodyPost_ret (v := .slice rA l.length rc) (by simp [results, Tryz.results43, go_sem]) rfl ⟨rA, rc, f, rfl, HRC.out, HOF.out, (fun b hb => ⟨(HFB.out b hb).1, Nat.lt_of_lt_of_le (HFB.out b hb).2 HSZ.out⟩), HGR.out⟩
end Go.Proofs.YtbmgodmfpoappaaGreat
