/-
  Whether two file systems are the same: sameFiles.
-/
import Derived.Test.YtpkmlehkmmdkoaaSimEt
namespace Go.Proofs.Ytpkmlehkmmdkoaa
open Go.RowKit

def flO (x y : Option Fl) : Bool := match x, y with
  | some a, some b => flEq a b
  | _, _ => false
def nmOne (S1 S2 : St) (l2 : List (ByteArray × Nat)) (x : ByteArray × Nat) : Bool := match aget l2 x.1 with
  | none => false
  | some m => flO (S1.files (x.2 : Int)) (S2.files (m : Int))
def nmEq (S1 : St) (l1 : List (ByteArray × Nat)) (S2 : St) (l2 : List (ByteArray × Nat)) : Bool := (l1.length == l2.length) && l1.all (nmOne S1 S2 l2)

theorem FsIn.file_of {w : World} {L : Nat → Nat} {g : Nat} {S : St} {mf mn ms : Nat} {vch : Value} {lf : List (Int × Nat)} (h : FsIn w L g S mf mn ms vch lf) {n : Int} {f : Fl} (hf : S.files n = some f) :
    ∃ fb, aget lf n = some fb ∧ FileAt w (fun i => L i = n.toNat + 3) (fun i => L i = 2) fb f := by
  cases hl : aget lf n with
  | none => rw [h.no _ hl] at hf; cases hf
  | some fb =>
    obtain ⟨_, f', hf', hfa⟩ := h.at_ n fb hl
    rw [hf] at hf'
    injection hf' with hf'
    subst hf'
    exact ⟨fb, rfl, hfa⟩
theorem FileAt.grown {w w' : World} {own rd : Nat → Prop} {g : Nat} {f : Fl} (h : FileAt w own rd g f) (hg : w.grownBy w' none) : FileAt w' own rd g f := h.keep fun i _ hl => hg.block i hl (by simp)
theorem aget_in {κ ν : Type} [DecidableEq κ] {l : List (κ × ν)} {k : κ} {v : ν} (h : aget l k = some v) : (k, v) ∈ l := by
  induction l with
  | nil => cases h
  | cons x l ih =>
    obtain ⟨a, u⟩ := x
    simp only [aget] at h
    by_cases e : a = k
    · rw [if_pos e] at h
      injection h with h
      subst e; subst h
      exact List.mem_cons_self ..
    · rw [if_neg e] at h
      exact List.mem_cons_of_mem _ (ih h)

set_option maxHeartbeats 8000000 in
set_option maxRecDepth 100000 in
theorem sameFiles_any (g1 g2 m1 m2 : Nat) (S1 S2 : St) (l1 l2 : List (ByteArray × Nat)) (L1 L2 : Nat → Nat) (w : World) (h : FsAt w L1 g1 S1) (k : FsAt w L2 g2 S2) (hm1 : MapAt encN w m1 l1) (hm2 : MapAt encN w m2 l2)
    (hv1 : ∀ x ∈ l1, (S1.files (x.2 : Int)).isSome) (hv2 : ∀ x ∈ l2, (S2.files (x.2 : Int)).isSome) :
    Calls Try.prog 34 #[.pointer (some ⟨g1, 0, none⟩), .map (some m1), .pointer (some ⟨g2, 0, none⟩), .map (some m2)] w fun e w' => e = .returned (.bool (nmEq S1 l1 S2 l2)) ∧ w.grownBy w' none := by
  obtain ⟨mf1, mn1, ms1, vch1, lf1, h⟩ := h
  obtain ⟨mf2, mn2, ms2, vch2, lf2, k⟩ := k
  have H := hide h
  have K := hide k
  have HM1 := hide hm1
  have HM2 := hide hm2
  have HV1 := hide hv1
  have HV2 := hide hv2
  have hml := hm1.lt
  clear h k hm1 hm2 hv1 hv2
  by_cases hl : l1.length = l2.length
  · have hl1 : ((l1.length : Int) != (l2.length : Int)) = false := by rw [hl]; simp
    have HQ := hide (show nmEq S1 l1 S2 l2 = l1.all (nmOne S1 S2 l2) by unfold nmEq; rw [hl]; simp)
    clear hl
    go_enter Try.func34, Try.ntmps34
    go_wp2_with (first
      | (at_len; with_reducible refine wpList_mlen (E := encN) _ rfl (.tmp 13) 72 rfl 9 3 Try.underlying72 m1 l1 rfl HM1.out ?_)
      | (at_len; refine wpList_mlen (E := encN) _ rfl (.tmp 15) 72 rfl 9 3 Try.underlying72 m2 l2 rfl HM2.out ?_)
      | (at_range; refine wpList_rng (E := encN) _ rfl _ 72 rfl 9 3 Try.underlying72 m1 l1 rfl HM1.out ?_; intro w5 hit hg5 hs5))
    have HIT := hide hit
    have HG5 := hide hg5
    clear hit hg5
    clear hs5
    go_frame
    go_loopw [9] (fun _ wr => ∃ (todo done : List (ByteArray × Nat)), IterAt encN wr m1 w.heap.size l1 todo ∧ (done ++ todo).Perm l1 ∧ (∀ x ∈ done, nmOne S1 S2 l2 x = true) ∧ w.grownBy wr none) (fun _ wr => wr.rangeLeft m1 w.heap.size)
    case atStart => exact ⟨l1, [], HIT.out, by simp, (fun x hx => by cases hx), HG5.out⟩
    case round =>
      obtain ⟨todo, done, hit, hperm, hall, hg⟩ := hrel
      have HI := hide hit
      have HP := hide hperm
      have HA := hide hall
      have HG := hide hg
      clear hit hperm hall hg
      go_wp2_with (first
        | (at_next; refine wpList_nxt (E := encN) _ rfl (.tmp 19) rfl m1 w.heap.size l1 todo rfl HI.out ?_ ?_))
      · intro h0
        go_wp2
        go_ret
        subst h0
        have hp := HP.out
        rw [List.append_nil] at hp
        refine ⟨?_, HG.out⟩
        have : l1.all (nmOne S1 S2 l2) = true := List.all_eq_true.2 fun x hx => HA.out x (hp.mem_iff.2 hx)
        rw [HQ.out, this]
        rfl
      · intro j xa xm w6 hx hit6 hg6 hs6 hen
        obtain ⟨x, hxe⟩ : ∃ x : ByteArray × Nat, x = (xa, xm) := ⟨_, rfl⟩
        rw [← hxe] at hx
        obtain rfl : xa = x.1 := by rw [hxe]
        obtain rfl : xm = x.2 := by rw [hxe]
        clear hxe
        have hxl : x ∈ l1 := HP.out.mem_iff.1 (List.mem_append_right _ (List.mem_of_getElem? hx))
        have hgw : w.grownBy w6 none := gb_trans HG.out hg6 (.inr (.inr ⟨_, rfl, Nat.le_refl _⟩))
        have hlk := look_ok (HM2.out.grown hgw (by simp)) x.1
        have hen' : (Instr.entry (.pointer (some ⟨w.heap.size, 0, none⟩))).run Try.prog w6 = .ok (.tuple #[.string x.1, .int .i64 (x.2 : Int)]) w6 := hen
        have HI6 := hide hit6
        have HX := hide hx
        have HGW := hide hgw
        have HXL := hide hxl
        clear hit6 hx hgw hxl hen hg6 hs6
        cases ha : aget l2 x.1 with
        | none =>
          have HN := hide (show nmOne S1 S2 l2 x = false by unfold nmOne; rw [ha])
          rw [ha] at hlk
          clear ha
          go_wp2
          go_quiet (fail)
          go_wp2
          go_ret
          refine ⟨?_, gb_drewN HGW.out _⟩
          have : l1.all (nmOne S1 S2 l2) = false := List.all_eq_false.2 ⟨x, HXL.out, by rw [HN.out]; simp⟩
          rw [HQ.out, this]
          rfl
        | some m =>
          obtain ⟨f1, hf1⟩ := Option.isSome_iff_exists.1 (HV1.out x HXL.out)
          obtain ⟨f2, hf2⟩ := Option.isSome_iff_exists.1 (HV2.out (x.1, m) (aget_in ha))
          obtain ⟨fb1, k1, k2⟩ := H.out.file_of hf1
          obtain ⟨fb2, k3, k4⟩ := K.out.file_of hf2
          have HN := hide (show nmOne S1 S2 l2 x = flEq f1 f2 by
            unfold nmOne
            rw [ha]
            show flO (S1.files (x.2 : Int)) (S2.files (m : Int)) = _
            rw [hf1, hf2]
            rfl)
          rw [ha] at hlk
          have q1 : w6.cell? ⟨g1, 3, none⟩ = some (.map (some mf1)) := cell_grown H.out.blk.c3 HGW.out
          have q2 : w6.cell? ⟨g2, 3, none⟩ = some (.map (some mf2)) := cell_grown K.out.blk.c3 HGW.out
          have hgd : w.grownBy w6.drew none := gb_drew HGW.out
          have hlk1 : (Instr.lookup 71 (.map (some mf1)) (.int .i64 (x.2 : Int)) false).run Try.prog w6.drew = .ok (.pointer (some ⟨fb1, 0, none⟩)) w6.drew := (H.out.files.grown hgd (by simp)).look_yes (P := Try.prog) (E := encF) Try.underlying3 Try.underlying71 (zero_file _) k1
          have hlk2 : (Instr.lookup 71 (.map (some mf2)) (.int .i64 (m : Int)) false).run Try.prog w6.drew = .ok (.pointer (some ⟨fb2, 0, none⟩)) w6.drew := (K.out.files.grown hgd (by simp)).look_yes (P := Try.prog) (E := encF) Try.underlying3 Try.underlying71 (zero_file _) k3
          have HS := hide (sameFile_any fb1 fb2 f1 f2 _ _ _ _ w6.drew (k2.grown hgd) (k4.grown hgd))
          clear hf1 hf2 k1 k2 k3 k4 ha hgd
          cases hb : flEq f1 f2
          · rw [hb] at HS HN
            clear hb
            go_wp2
            go_still_tail 15, (by kernel_rfl)
            go_wp2_with (go_at_call 65; refine HS.out.mono ?_; rintro e w7 ⟨rfl, hg7⟩; have HG7 := hide (gb_trans (gb_drew HGW.out) hg7 (.inl rfl)); clear hg7)
            go_ret
            refine ⟨?_, HG7.out⟩
            have : l1.all (nmOne S1 S2 l2) = false := List.all_eq_false.2 ⟨x, HXL.out, by rw [HN.out]; simp⟩
            rw [HQ.out, this]
            rfl
          · rw [hb] at HS HN
            clear hb
            go_wp2
            go_still_tail 15, (by kernel_rfl)
            go_wp2_with (go_at_call 65; refine HS.out.mono ?_; rintro e w7 ⟨rfl, hg7⟩; have HG67 := hide (show w6.grownBy w7 none from ⟨hg7.os, hg7.tape, hg7.output, hg7.size, hg7.block⟩); clear hg7)
            have hit7 := HI6.out.grown HG67.out (by simp) (by simp)
            go_roundw
            case rel =>
              refine ⟨_, done ++ [x], hit7, perm_done HP.out HX.out, fun y hy => ?_, gb_trans HGW.out HG67.out (.inl rfl)⟩
              rcases List.mem_append.1 hy with hy | hy
              · exact HA.out y hy
              · rw [List.mem_singleton] at hy
                rw [hy]
                exact HN.out
            case measure =>
              rw [hit7.left, HI.out.left, List.length_eraseIdx]
              have := (List.getElem?_eq_some_iff.1 HX.out).1
              split <;> omega
  · have hl1 : ((l1.length : Int) != (l2.length : Int)) = true := by simp; omega
    have HQ := hide (show nmEq S1 l1 S2 l2 = false by unfold nmEq; rw [beq_eq_false_iff_ne.2 hl]; rfl)
    clear hl
    go_enter Try.func34, Try.ntmps34
    go_wp2_with (first
      | (at_len; with_reducible refine wpList_mlen (E := encN) _ rfl (.tmp 13) 72 rfl 9 3 Try.underlying72 m1 l1 rfl HM1.out ?_)
      | (at_len; refine wpList_mlen (E := encN) _ rfl (.tmp 15) 72 rfl 9 3 Try.underlying72 m2 l2 rfl HM2.out ?_))
    go_ret
    exact ⟨by rw [HQ.out]; rfl, gb_refl w none⟩

end Go.Proofs.Ytpkmlehkmmdkoaa
