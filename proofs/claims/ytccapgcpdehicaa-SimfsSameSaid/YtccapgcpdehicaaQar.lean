/-
  The contract of the document's own CheckName (quiverref02).
-/
import Derived.Test.YtccapgcpdehicaaQaq
import Derived.BigQuiet
import Derived.Test.YtccapgcpdehicaaQaj

namespace Go.Proofs.Ytccapgcpdehicaa
open Go.RowKit
attribute [local go_sem ↓] Go.wp_at_zero Go.wp_at_succ

theorem rMoved_any (l : List RE) (v : Value) (m : RM) (base : Nat) (w : World) (h : w.ownsRow base 107 2 v l.length (encE l)) (hl : l.length ≤ 1000000) (hk : m.kind = 99 ∨ m.kind = 100 ∨ m.kind = 114) :
    Calls Try.prog 63 #[v, .agg #[.int .u8 (m.kind : Int), .string m.a, .string m.b, .int .i64 (m.n : Int)]] w (DirP w (movedR l m)) := by
  obtain ⟨k, a, b, n⟩ := m
  rcases hk with rfl | rfl | rfl
  · exact rMoved_c l v a b n base w h hl
  · rcases atR_cases l a with ⟨h1, _⟩ | ⟨j, hj, h1, _⟩
    · have e : movedR l ⟨100, a, b, n⟩ = l := by simp [movedR, h1]
      rw [e]
      exact rMoved_d0 l v a b n base w h hl h1
    · have e : movedR l ⟨100, a, b, n⟩ = l.eraseIdx j := by simp [movedR, h1]
      rw [e]
      exact rMoved_d1 l v a b n base w h hl j hj h1
  · rcases atR_cases l a with ⟨h1, _⟩ | ⟨j, hj, h1, _⟩
    · have e : movedR l ⟨114, a, b, n⟩ = l := by simp [movedR, h1]
      rw [e]
      exact rMoved_r0 l v a b n base w h hl h1
    · by_cases hab : a = b
      · have e : movedR l ⟨114, a, b, n⟩ = l := by simp [movedR, hab]
        rw [e]
        exact rMoved_r1 l v a b n base w h hl j hj h1 hab
      · have h0 : ¬ ((j : Int) < 0) := by omega
        have hd : l.getD j ⟨⟨#[]⟩, 0⟩ = l[j] := by rw [List.getD_eq_getElem?_getD, List.getElem?_eq_getElem hj]; rfl
        rcases atR_cases (l.eraseIdx j) b with ⟨h2, _⟩ | ⟨i, hi, h2, _⟩
        · have e : movedR l ⟨114, a, b, n⟩ = l.eraseIdx j ++ [⟨b, (l[j]'hj).n⟩] := by
            unfold movedR
            rw [if_neg (show ¬ (114 : Nat) = 99 by decide), if_neg (show ¬ (114 : Nat) = 100 by decide), if_pos (by rfl)]
            simp only [h1, Int.toNat_natCast, h2, hd]
            rw [if_neg (by simp [h0, hab]), if_neg (by decide)]
          rw [e]
          exact rMoved_r2 l v a b n base w h hl j hj h1 hab h2
        · have e : movedR l ⟨114, a, b, n⟩ = (l.eraseIdx j).eraseIdx i ++ [⟨b, (l[j]'hj).n⟩] := by
            unfold movedR
            rw [if_neg (show ¬ (114 : Nat) = 99 by decide), if_neg (show ¬ (114 : Nat) = 100 by decide), if_pos (by rfl)]
            simp only [h1, Int.toNat_natCast, h2, hd]
            rw [if_neg (by simp [h0, hab]), if_pos (by omega)]
          rw [e]
          exact rMoved_r3 l v a b n base w h hl j hj h1 hab i hi h2

set_option maxHeartbeats 4000000 in
set_option maxRecDepth 100000 in
theorem rDone_cut (p P : ByteArray) (k : Nat) (n : Int) (w : World) (hk : k ≤ p.size) (_hp : p.size ≤ 1000000000) :
    Calls Try.prog 65 #[.string p, .agg #[.bool true, .int .i64 (k : Int), .string P], .int .i64 n] w fun e w' => e = .returned (.string (p.extract 0 k)) ∧ w.grownBy w' none := by
  obtain ⟨wa, hwa⟩ : ∃ wa, wa = w.alloc (.cells #[.bool true, .int .i64 (k : Int), .string P] 124) := ⟨_, rfl⟩
  have hb : wa.heap[w.heap.size]? = some (.cells #[.bool true, .int .i64 (k : Int), .string P] 124 (0, 0)) := by rw [hwa]; exact heap_alloc_new w _
  have HG : Hid (w.grownBy wa none) := hide (by rw [hwa]; exact gb_alloc (gb_refl w none) _)
  have b0 : wa.cell? ⟨w.heap.size, 0, none⟩ = some (.bool true) := by rw [blk_cell hb]; rfl
  have b1 : wa.cell? ⟨w.heap.size, 1, none⟩ = some (.int .i64 (k : Int)) := by rw [blk_cell hb]; rfl
  have HWA := hide hwa
  clear hb hwa
  go_enter Try.func65, Try.ntmps65
  go_upto_region 1 with fail
  rw [← HWA.out]
  go_wp2_with fail
  go_ret
  exact ⟨rfl, HG.out⟩
set_option maxHeartbeats 4000000 in
set_option maxRecDepth 100000 in
theorem rDone_over (p P : ByteArray) (k n : Nat) (w : World) (hk : k ≤ p.size) (hn : n ≤ P.size) (hp : p.size ≤ 1000000000) (hP : P.size ≤ 1000000000) (ho : p.size ≤ k + n) :
    Calls Try.prog 65 #[.string p, .agg #[.bool false, .int .i64 (k : Int), .string P], .int .i64 (n : Int)] w fun e w' => e = .returned (.string (p.extract 0 k ++ P.extract 0 n)) ∧ w.grownBy w' none := by
  obtain ⟨wa, hwa⟩ : ∃ wa, wa = w.alloc (.cells #[.bool false, .int .i64 (k : Int), .string P] 124) := ⟨_, rfl⟩
  have hb : wa.heap[w.heap.size]? = some (.cells #[.bool false, .int .i64 (k : Int), .string P] 124 (0, 0)) := by rw [hwa]; exact heap_alloc_new w _
  have HG : Hid (w.grownBy wa none) := hide (by rw [hwa]; exact gb_alloc (gb_refl w none) _)
  have b0 : wa.cell? ⟨w.heap.size, 0, none⟩ = some (.bool false) := by rw [blk_cell hb]; rfl
  have b1 : wa.cell? ⟨w.heap.size, 1, none⟩ = some (.int .i64 (k : Int)) := by rw [blk_cell hb]; rfl
  have b2 : wa.cell? ⟨w.heap.size, 2, none⟩ = some (.string P) := by rw [blk_cell hb]; rfl
  have HWA := hide hwa
  have hX : (P.extract 0 n).size = n := by rw [ByteArray.size_extract]; omega
  have h6 : IntKind.i64.wrap ((k : Int) + (n : Int)) = ((k + n : Nat) : Int) := by rw [IntKind.wrap_i64]; omega
  clear hb hwa
  go_enter Try.func65, Try.ntmps65
  go_upto_region 1 with fail
  rw [← HWA.out]
  go_wp2_with fail
  go_ret
  exact ⟨rfl, HG.out⟩
set_option maxHeartbeats 4000000 in
set_option maxRecDepth 100000 in
theorem rDone_within (p P : ByteArray) (k n : Nat) (w : World) (hk : k ≤ p.size) (hn : n ≤ P.size) (hp : p.size ≤ 1000000000) (hP : P.size ≤ 1000000000) (ho : k + n < p.size) :
    Calls Try.prog 65 #[.string p, .agg #[.bool false, .int .i64 (k : Int), .string P], .int .i64 (n : Int)] w fun e w' => e = .returned (.string (p.extract 0 k ++ P.extract 0 n ++ p.extract (k + n) p.size)) ∧ w.grownBy w' none := by
  obtain ⟨wa, hwa⟩ : ∃ wa, wa = w.alloc (.cells #[.bool false, .int .i64 (k : Int), .string P] 124) := ⟨_, rfl⟩
  have hb : wa.heap[w.heap.size]? = some (.cells #[.bool false, .int .i64 (k : Int), .string P] 124 (0, 0)) := by rw [hwa]; exact heap_alloc_new w _
  have HG : Hid (w.grownBy wa none) := hide (by rw [hwa]; exact gb_alloc (gb_refl w none) _)
  have b0 : wa.cell? ⟨w.heap.size, 0, none⟩ = some (.bool false) := by rw [blk_cell hb]; rfl
  have b1 : wa.cell? ⟨w.heap.size, 1, none⟩ = some (.int .i64 (k : Int)) := by rw [blk_cell hb]; rfl
  have b2 : wa.cell? ⟨w.heap.size, 2, none⟩ = some (.string P) := by rw [blk_cell hb]; rfl
  have HWA := hide hwa
  have hX : (P.extract 0 n).size = n := by rw [ByteArray.size_extract]; omega
  have h6 : IntKind.i64.wrap ((k : Int) + (n : Int)) = ((k + n : Nat) : Int) := by rw [IntKind.wrap_i64]; omega
  clear hb hwa
  go_enter Try.func65, Try.ntmps65
  go_upto_region 1 with fail
  rw [← HWA.out]
  go_upto_region 6 with fail
  go_quiet (fail)
  go_wp2_with fail
  go_ret
  exact ⟨rfl, gb_drewN HG.out _⟩

/-- What done answers. -/
theorem rDone_any (p : ByteArray) (x : RD) (n : Nat) (w : World) (hk : x.at_ ≤ p.size) (hn : x.cut = true ∨ n ≤ x.p.size) (hp : p.size ≤ 1000000000) (hP : x.p.size ≤ 1000000000) :
    Calls Try.prog 65 #[.string p, .agg #[.bool x.cut, .int .i64 (x.at_ : Int), .string x.p], .int .i64 (n : Int)] w fun e w' => e = .returned (.string (doneR p x n)) ∧ w.grownBy w' none := by
  obtain ⟨c, k, P⟩ := x
  cases c with
  | true => exact rDone_cut p P k n w hk hp
  | false =>
    have hn' : n ≤ P.size := hn.resolve_left (by simp)
    by_cases ho : p.size ≤ k + n
    · have e : doneR p ⟨false, k, P⟩ n = p.extract 0 k ++ P.extract 0 n := by simp [doneR, ho]
      rw [e]
      exact rDone_over p P k n w hk hn' hp hP ho
    · have e : doneR p ⟨false, k, P⟩ n = p.extract 0 k ++ P.extract 0 n ++ p.extract (k + n) p.size := by simp [doneR, ho]
      rw [e]
      exact rDone_within p P k n w hk hn' hp hP (by omega)
end Go.Proofs.Ytccapgcpdehicaa

namespace Go.Proofs.Ytccapgcpdehicaa
open Go.RowKit
attribute [local go_sem ↓] Go.wp_at_zero Go.wp_at_succ

theorem own_not {w : World} {base n size g : Nat} {e ty : TypeId} {v : Value} {xs : List Value} {cur : Array Value} (h : w.ownsRow base e size v n xs) (hb : w.heap[g]? = some (.cells cur ty (0, 0))) (hne : e ≠ ty) : v.ownBlock ≠ some g := by
  intro hv
  rcases h.2 with ⟨rfl, _⟩ | ⟨b, cap, cur', rfl, _, hh, _⟩
  · simp [Value.ownBlock] at hv
  · simp only [Value.ownBlock, Option.some.injEq] at hv
    subst hv
    rw [hb] at hh
    injection hh with hh
    injection hh with h1 h2
    exact hne h2.symm
section
variable {w w' : World} {g : Nat} {S : RS} {bs : List Nat} {vs : List Value} {vF vD vS vM : Value}
theorem RAt.blk (h : RAt w g S bs vs vF vD vS vM) {i : Nat} (hi : i < S.f.length) : ∃ b, bs[i]? = some b ∧ bs.getD i 0 = b ∧ b ≠ g := by
  have hb : i < bs.length := by rw [h.lb]; exact hi
  refine ⟨bs[i], List.getElem?_eq_getElem hb, by rw [List.getD_eq_getElem?_getD, List.getElem?_eq_getElem hb]; rfl, fun e => ?_⟩
  have := (h.fl i hi).box
  rw [List.getD_eq_getElem?_getD, List.getElem?_eq_getElem hb, show (some bs[i]).getD 0 = g from e, h.box] at this
  injection this with this
  injection this with _ h2
  exact absurd h2 (by decide)
/-- The top alone has turned. -/
theorem RAt.top (h : RAt w g S bs vs vF vD vS vM) (hT : Turned (fun i => i = g) w w') (S' : RS) (e1 : S'.f = S.f) (e2 : S'.d = S.d) (e3 : S'.safe = S.safe) (e4 : S'.m = S.m)
    (hb : w'.heap[g]? = some (.cells #[vF, vD, vS, vM, .int .i64 S'.cap, .int .i64 S'.ops, .int .i64 S'.left, .bool S'.off, .int .i64 0] 73 (0, 0))) : RAt w' g S' bs vs vF vD vS vM := by
  have st : ∀ i, i < w.heap.size → i ≠ g → w'.heap[i]? = w.heap[i]? := fun i hi hne => hT.block i hi hne
  have so : ∀ {base n size : Nat} {e : TypeId} {v : Value} {xs : List Value}, w.ownsRow base e size v n xs → e ≠ 73 → w'.ownsRow base e size v n xs := fun ho hne => own_blk ho fun i hi => st i (ho.lt i hi).2 (fun e => own_not ho h.box hne (by rw [hi, e]))
  refine ⟨hb, so h.rF (by decide), by rw [e2]; exact so h.rD (by decide), by rw [e3]; exact so h.rS (by decide), by rw [e4]; exact so h.rM (by decide), by rw [e1]; exact h.lb, by rw [e1]; exact h.lv, ?_, h.nd, h.ap⟩
  rw [e1]
  intro i hi
  obtain ⟨b, _, hb2, hne⟩ := h.blk hi
  have hf := h.fl i hi
  rw [hb2] at hf ⊢
  exact ⟨(st b (blk_lt hf.box) hne).trans hf.box, so hf.row (by decide)⟩
end

/-- An operation is counted. -/
def RS.counts (S : RS) : RS := if 0 < S.left then { S with ops := S.ops + 1, left := S.left - 1, off := S.left - 1 == 0 } else { S with ops := S.ops + 1 }

set_option maxHeartbeats 4000000 in
set_option maxRecDepth 100000 in
theorem rCounts_any (g : Nat) (S : RS) (bs : List Nat) (vs : List Value) (vF vD vS vM : Value) (w : World) (h : RAt w g S bs vs vF vD vS vM) (ho : 0 ≤ S.ops ∧ S.ops ≤ 1000000000) (hl : S.left ≤ 9223372036854775807) :
    Calls Try.prog 62 #[.pointer (some ⟨g, 0, none⟩)] w fun e w' => e = .returned (.int .i64 0) ∧ RAt w' g S.counts bs vs vF vD vS vM ∧ Turned (fun i => i = g) w w' := by
  have hb := h.box
  have b5 : w.cell? ⟨g, 5, none⟩ = some (.int .i64 S.ops) := by rw [blk_cell hb]; rfl
  have b6 : w.cell? ⟨g, 6, none⟩ = some (.int .i64 S.left) := by rw [blk_cell hb]; rfl
  have b7 : w.cell? ⟨g, 7, none⟩ = some (.bool S.off) := by rw [blk_cell hb]; rfl
  have z5 := blk_frozen hb 5
  have z6 := blk_frozen hb 6
  have z7 := blk_frozen hb 7
  have h1 : IntKind.i64.wrap (S.ops + 1) = S.ops + 1 := by rw [IntKind.wrap_i64]; omega
  have H := hide h
  have HB := hide hb
  by_cases hp : 0 < S.left
  · have h2 : IntKind.i64.wrap (S.left - 1) = S.left - 1 := by rw [IntKind.wrap_i64]; omega
    have e : S.counts = { S with ops := S.ops + 1, left := S.left - 1, off := S.left - 1 == 0 } := by simp [RS.counts, hp]
    have E := hide e
    clear h hb e
    go_enter Try.func62, Try.ntmps62
    go_wp2
    go_ret
    refine ⟨rfl, ?_, Turned.of_gb (gb_set (gb_set (gb_set (gb_refl w (some g)) _ _) _ _) _ _) (fun i e => by injection e with e; exact e.symm)⟩
    rw [E.out]
    refine H.out.top (Turned.of_gb (gb_set (gb_set (gb_set (gb_refl w (some g)) _ _) _ _) _ _) (fun i e => by injection e with e; exact e.symm)) _ rfl rfl rfl rfl ?_
    exact blk_set (blk_set (blk_set HB.out 5 _) 6 _) 7 _
  · have e : S.counts = { S with ops := S.ops + 1 } := by simp [RS.counts, hp]
    have E := hide e
    clear h hb e
    go_enter Try.func62, Try.ntmps62
    go_wp2
    go_ret
    refine ⟨rfl, ?_, Turned.of_gb (gb_set (gb_refl w (some g)) _ _) (fun i e => by injection e with e; exact e.symm)⟩
    rw [E.out]
    refine H.out.top (Turned.of_gb (gb_set (gb_refl w (some g)) _ _) (fun i e => by injection e with e; exact e.symm)) _ rfl rfl rfl rfl ?_
    exact blk_set HB.out 5 _

/-- The file of a number, if it has a name. -/
def fileV (S : RS) (bs : List Nat) (n : Int) : Value := if S.d.any (fun e => (e.n : Int) == n) then .pointer (some ⟨bs.getD (n - 1).toNat 0, 0, none⟩) else .pointer none
theorem fileV_has {S : RS} {bs : List Nat} {n : Int} {j : Nat} (hj : j < S.d.length) (h : (S.d[j].n : Int) = n) : fileV S bs n = .pointer (some ⟨bs.getD (n - 1).toNat 0, 0, none⟩) := by
  unfold fileV
  rw [if_pos (List.any_eq_true.2 ⟨S.d[j], List.getElem_mem hj, by simp [h]⟩)]
theorem fileV_no {S : RS} {bs : List Nat} {n : Int} (h : ∀ (i : Nat) (hi : i < S.d.length), (S.d[i].n : Int) ≠ n) : fileV S bs n = .pointer none := by
  unfold fileV
  rw [if_neg]
  intro hc
  obtain ⟨e, he, hn⟩ := List.any_eq_true.1 hc
  obtain ⟨i, hi, rfl⟩ := List.getElem_of_mem he
  exact h i hi (by simpa using hn)

set_option maxHeartbeats 4000000 in
set_option maxRecDepth 100000 in
theorem rFile_any (g : Nat) (S : RS) (bs : List Nat) (vs : List Value) (vF vD vS vM : Value) (n : Int) (w : World) (h : RAt w g S bs vs vF vD vS vM) (hd : ∀ e ∈ S.d, 1 ≤ e.n ∧ e.n ≤ S.f.length) (hf : S.f.length ≤ 1000000) :
    Calls Try.prog 83 #[.pointer (some ⟨g, 0, none⟩), .int .i64 n] w fun e w' => e = .returned (fileV S bs n) ∧ w = w' := by
  have hb := h.box
  obtain ⟨A, c, hvD, hc, hm⟩ := own_form0 h.rD
  obtain ⟨A2, c2, hvF, hc2, hm2⟩ := own_form0 h.rF
  unfold maxLen at hm hm2
  have b0 : w.cell? ⟨g, 0, none⟩ = some (.slice A2 bs.length c2) := by rw [blk_cell hb, ← hvF]; rfl
  have b1 : w.cell? ⟨g, 1, none⟩ = some (.slice A S.d.length c) := by rw [blk_cell hb, ← hvD]; rfl
  have HD := hide (hvD ▸ h.rD)
  have HF := hide (hvF ▸ h.rF)
  have HL := hide h.lb
  have HDD := hide hd
  clear h hb hvD hvF hd
  go_enter Try.func83, Try.ntmps83
  go_wp2
  go_loopw [5] (fun i wr => ∃ j : Nat, i = .int .i64 (j : Int) ∧ j ≤ S.d.length ∧ (∀ (i : Nat) (hi : i < S.d.length), i < j → (S.d[i].n : Int) ≠ n) ∧ w = wr) (fun i _ => S.d.length - (intOf i).toNat)
  case atStart => exact ⟨0, rfl, Nat.zero_le _, fun i _ h => by omega, rfl⟩
  case round =>
    obtain ⟨j, rfl, hj, hall, rfl⟩ := hrel
    have HA := hide hall
    clear hall
    by_cases hlt : j < S.d.length
    · obtain ⟨b, rfl, p0, p1⟩ := E_elem HD.out hlt
      obtain ⟨x, hx⟩ : ∃ x, x = S.d[j].n := ⟨_, rfl⟩
      have hxn := HDD.out _ (List.getElem_mem hlt)
      rw [← hx] at p1 hxn
      have HX := hide hx
      clear hx p0
      by_cases hs : (x : Int) = n
      · have HS := hide (fileV_has (bs := bs) hlt (n := n) (by rw [← HX.out]; exact hs))
        have h1 : IntKind.i64.wrap (n - 1) = n - 1 := by rw [IntKind.wrap_i64]; omega
        obtain ⟨k, hk⟩ : ∃ k : Nat, k = (n - 1).toNat := ⟨_, rfl⟩
        have hk1 : n - 1 = (k : Int) := by omega
        have hk2 : k < bs.length := by rw [HL.out]; omega
        obtain ⟨b2, rfl, r0⟩ := P_elem HF.out hk2
        have HB2 : Hid (bs.getD (n - 1).toNat 0 = bs[k]) := hide (by rw [← hk, List.getD_eq_getElem?_getD, List.getElem?_eq_getElem hk2]; rfl)
        rw [hk1] at h1
        have h2 : n - 1 = (k : Int) := hk1
        subst hs
        obtain ⟨y, hy⟩ : ∃ y, y = bs[k] := ⟨_, rfl⟩
        rw [← hy] at r0
        have HY := hide hy
        clear hk hy
        go_wp2
        go_ret
        exact ⟨by rw [HS.out, HB2.out, ← HY.out]; rfl, rfl⟩
      · have hs' : ((x : Int) == n) = false := beq_eq_false_iff_ne.2 hs
        have HS := hide hs
        go_wp2
        go_roundw
        case rel =>
          refine ⟨j + 1, by go_num, by omega, fun i hi h => ?_, trivial⟩
          by_cases hij : i = j
          · subst hij
            rw [← HX.out]
            exact HS.out
          · exact HA.out i hi (by omega)
        case measure => simp [intOf]; omega
    · have HB := hide (fileV_no (bs := bs) (n := n) fun i hi => HA.out i hi (by omega))
      go_wp2
      go_ret
      exact ⟨by rw [HB.out]; rfl, rfl⟩
end Go.Proofs.Ytccapgcpdehicaa

namespace Go.Proofs.Ytccapgcpdehicaa
open Go.RowKit
attribute [local go_sem ↓] Go.wp_at_zero Go.wp_at_succ

def noFl : RFl := ⟨0, ⟨#[]⟩, [], ⟨#[]⟩⟩
/-- What the first k names use. -/
def usedN (S : RS) (k : Nat) : Nat := ((S.d.take k).map fun e => (S.f.getD (e.n - 1) noFl).p.size).sum
theorem usedN_succ {S : RS} {k : Nat} (hk : k < S.d.length) : usedN S (k + 1) = usedN S k + (S.f.getD (S.d[k].n - 1) noFl).p.size := by
  unfold usedN
  rw [List.take_succ_eq_append_getElem hk, List.map_append, List.sum_append]
  simp
theorem usedN_le {S : RS} (hp : ∀ x ∈ S.f, x.p.size ≤ 1000000000) (k : Nat) (hk : k ≤ S.d.length) : usedN S k ≤ k * 1000000000 := by
  induction k with
  | zero => simp [usedN]
  | succ k ih =>
    have := ih (by omega)
    rw [usedN_succ hk]
    have : (S.f.getD (S.d[k].n - 1) noFl).p.size ≤ 1000000000 := by
      rw [List.getD_eq_getElem?_getD]
      cases h : S.f[S.d[k].n - 1]? with
      | none => exact Nat.zero_le 1000000000
      | some x => exact hp x (List.mem_of_getElem? h)
    omega
theorem RAt.gb {w w' : World} {g : Nat} {S : RS} {bs : List Nat} {vs : List Value} {vF vD vS vM : Value} (h : RAt w g S bs vs vF vD vS vM) (hk : ∀ i, ROwn g bs vs vF vD vS vM i → i < w.heap.size) (hg : w.grownBy w' none) : RAt w' g S bs vs vF vD vS vM :=
  h.keep fun i hi => hg.block i (hk i hi) (by simp)
theorem RAt.lt {w : World} {g : Nat} {S : RS} {bs : List Nat} {vs : List Value} {vF vD vS vM : Value} (h : RAt w g S bs vs vF vD vS vM) : ∀ i, ROwn g bs vs vF vD vS vM i → i < w.heap.size := by
  rintro i (rfl | hi | ⟨v, hv, hi⟩ | hi | hi | hi | hi)
  · exact blk_lt h.box
  · obtain ⟨j, hj, rfl⟩ := List.getElem_of_mem hi
    have := (h.fl j (by rw [← h.lb]; exact hj)).box
    rw [List.getD_eq_getElem?_getD, List.getElem?_eq_getElem hj] at this
    exact blk_lt this
  · obtain ⟨j, hj, rfl⟩ := List.getElem_of_mem hv
    have := (h.fl j (by rw [← h.lv]; exact hj)).row
    rw [List.getD_eq_getElem?_getD (l := vs), List.getElem?_eq_getElem hj] at this
    exact (this.lt i hi).2
  · exact (h.rF.lt i hi).2
  · exact (h.rD.lt i hi).2
  · exact (h.rS.lt i hi).2
  · exact (h.rM.lt i hi).2

set_option maxHeartbeats 4000000 in
set_option maxRecDepth 100000 in
theorem rUsed_q (g : Nat) (S : RS) (bs : List Nat) (vs : List Value) (vF vD vS vM : Value) (w : World) (h : RAt w g S bs vs vF vD vS vM) (hd : ∀ e ∈ S.d, 1 ≤ e.n ∧ e.n ≤ S.f.length) (hf : S.f.length ≤ 1000000) (hdl : S.d.length ≤ 1000000) (hp : ∀ x ∈ S.f, x.p.size ≤ 1000000000) :
    Calls Try.prog 82 #[.pointer (some ⟨g, 0, none⟩)] w fun e w' => e = .returned (.int .i64 (usedN S S.d.length : Int)) ∧ ∃ q, w' = w.drewN q := by
  obtain ⟨A, c, hvD, hc, hm⟩ := own_form0 h.rD
  obtain ⟨A2, c2, hvF, hc2, hm2⟩ := own_form0 h.rF
  subst hvD hvF
  unfold maxLen at hm hm2
  have H := hide h
  have HDD := hide hd
  have HP := hide hp
  clear h hd hp
  go_enter Try.func82, Try.ntmps82
  go_wp2
  go_loopw [3, 4] (fun a i wr => ∃ j : Nat, i = .int .i64 (j : Int) ∧ a = .int .i64 (usedN S j : Int) ∧ j ≤ S.d.length ∧ ∃ q, wr = w.drewN q) (fun _ i _ => S.d.length - (intOf i).toNat)
  case atStart => exact ⟨0, rfl, by simp [usedN], Nat.zero_le _, 0, rfl⟩
  case round =>
    obtain ⟨j, rfl, rfl, hj, hqr⟩ := hrel
    have HQ := hide hqr
    have hgr : w.grownBy wr none := by obtain ⟨q, rfl⟩ := hqr; exact gb_drewN (gb_refl w none) q
    clear hqr
    have HR := hide (H.out.gb H.out.lt hgr)
    clear hgr
    have b0 : wr.cell? ⟨g, 0, none⟩ = some (.slice A2 bs.length c2) := by rw [blk_cell HR.out.box]; rfl
    have b1 : wr.cell? ⟨g, 1, none⟩ = some (.slice A S.d.length c) := by rw [blk_cell HR.out.box]; rfl
    by_cases hlt : j < S.d.length
    · obtain ⟨b, rfl, p0, p1⟩ := E_elem HR.out.rD hlt
      obtain ⟨x, hx⟩ : ∃ x, x = S.d[j].n := ⟨_, rfl⟩
      have hxn := HDD.out _ (List.getElem_mem hlt)
      rw [← hx] at p1 hxn
      have hxf : x - 1 < S.f.length := by omega
      obtain ⟨k, hk⟩ : ∃ k, k = x - 1 := ⟨_, rfl⟩
      rw [← hk] at hxf
      have hkb : k < bs.length := by rw [HR.out.lb]; exact hxf
      obtain ⟨b2, rfl, r0⟩ := P_elem HR.out.rF hkb
      obtain ⟨y, hy⟩ : ∃ y, y = bs[k] := ⟨_, rfl⟩
      have hfl := (HR.out.fl k hxf).box
      rw [List.getD_eq_getElem?_getD, List.getElem?_eq_getElem hkb] at hfl
      rw [← hy] at r0
      have hfl2 : wr.heap[y]? = some (.cells #[.int .i64 (S.f[k].n : Int), .string S.f[k].safe, vs.getD k undef, .string S.f[k].p] 111 (0, 0)) := by rw [hy]; exact hfl
      obtain ⟨P, hP⟩ : ∃ P, P = S.f[k].p := ⟨_, rfl⟩
      have r3 : wr.cell? ⟨y, 3, none⟩ = some (.string P) := by rw [blk_cell hfl2, hP]; rfl
      have h1 : IntKind.i64.wrap ((x : Int) - 1) = (k : Int) := by rw [IntKind.wrap_i64]; omega
      have HU : Hid (usedN S (j + 1) = usedN S j + P.size) := hide (by rw [usedN_succ hlt, ← hx, ← hk, List.getD_eq_getElem?_getD, List.getElem?_eq_getElem hxf, hP]; rfl)
      have hle := usedN_le HP.out (j + 1) hlt
      rw [HU.out] at hle
      have h2 : IntKind.i64.wrap ((usedN S j : Int) + (P.size : Int)) = ((usedN S j + P.size : Nat) : Int) := by rw [IntKind.wrap_i64]; omega
      clear hk hx hy hP hfl hfl2 p0 hle
      go_upto_region 5 with fail
      go_quiet (fail)
      go_wp2
      go_roundw
      case rel => exact ⟨j + 1, by go_num, by rw [HU.out, Int.natCast_add], by omega, by obtain ⟨q, hq⟩ := HQ.out; exact ⟨q + nq, by rw [hq, World.drewN_drewN]⟩⟩
      case measure => simp [intOf]; omega
    · have hje : j = S.d.length := by omega
      have HJ := hide hje
      clear hje
      go_wp2
      go_ret
      exact ⟨by rw [← HJ.out]; rfl, HQ.out⟩
end Go.Proofs.Ytccapgcpdehicaa

namespace Go.Proofs.Ytccapgcpdehicaa
open Go.RowKit
attribute [local go_sem ↓] Go.wp_at_zero Go.wp_at_succ

section
variable {w : World} {o : Oper} {a : Act}
theorem stepM {ops : Array Oper} {K : Act → World → Prop} {Q : Exit → Act → World → Prop} {E : Prop} (hgd : o.guard = none) (s x : Operand)
    (ho : o.op = .call { callee := .builtin .append, args := #[s, x], argTypes := #[71, 71] })
    (base n m : Nat) (L l k : List RM) (v : Value) (hs : a.eval s = v) (hown : w.ownsRow base 76 4 v n (encM l)) (hn : n = l.length) (hm : m = k.length) (B : Nat) (A : Option Addr) (c : Nat) (hx : a.eval x = .slice A m c)
    (hr : Rd w B A (encM k)) (hL : L = l ++ k) (hlen : L.length ≤ 1000000000) (hbase : base ≤ w.heap.size)
    (h : ∀ A' c' w', w'.ownsRow base 76 4 (.slice A' L.length c') L.length (encM L) → w.grownBy w' v.ownBlock → ((Value.slice A' L.length c').ownBlock = v.ownBlock ∨ (Value.slice A' L.length c').ownBlock = some w.heap.size) → K (a.put o.dst (.slice A' L.length c')) w') :
    if Region.wanted o (yielded ops a.tmps) = true then Oper.wp Try.prog o a w K Q else E := by
  obtain ⟨i1, hi1, hiz, his, hib⟩ := info_parts Try.infoRM
  subst hL hn hm
  rw [List.length_append] at hlen h
  refine step_append_row hgd s x 71 ho base 76 i1 (.agg #[.int .u8 0, .string ⟨#[]⟩, .string ⟨#[]⟩, .int .i64 0]) 4 48 Try.underlying71 hi1 hiz his hib rfl (Nat.succ_pos 3) v l.length (encM l) hs hown B A k.length c (encM k) hx (encM_len k) hr (oneM k) (by unfold maxLen; omega) (by omega) hbase ?_
  intro v' w' h2 h3 h4
  obtain ⟨A', c', rfl⟩ := own_slice h2
  rw [← encM_app] at h2
  exact h A' c' w' h2 h3 h4
end

/-- Names have changed. -/
def RS.changed (S : RS) (m : RM) : RS := ({ S with m := S.m ++ [m], d := movedR S.d m } : RS).counts
theorem rows_not {w : World} {b1 b2 n1 n2 s1 s2 : Nat} {e1 e2 : TypeId} {v1 v2 : Value} {x1 x2 : List Value} (h1 : w.ownsRow b1 e1 s1 v1 n1 x1) (h2 : w.ownsRow b2 e2 s2 v2 n2 x2) (hne : e1 ≠ e2) : ∀ i, v1.ownBlock = some i → v2.ownBlock ≠ some i := fun i hi hj => by
  rcases h2.2 with ⟨rfl, _⟩ | ⟨b, cap, cur, rfl, _, hh, _⟩
  · simp [Value.ownBlock] at hj
  · simp only [Value.ownBlock, Option.some.injEq] at hj
    subst hj
    exact own_not h1 hh hne hi
/-- The rows of names and of what was done to them are others. -/
theorem RAt.rows {w w' : World} {g : Nat} {S : RS} {bs : List Nat} {vs : List Value} {vF vD vS vM vD' vM' : Value} (h : RAt w g S bs vs vF vD vS vM) (d : List RE) (m : List RM) {M : Nat → Prop} (hT : Turned M w w')
    (hM : ∀ i, M i → i = g ∨ vM.ownBlock = some i ∨ vD.ownBlock = some i ∧ vS.ownBlock ≠ some i)
    (hD : w'.ownsRow 0 107 2 vD' d.length (encE d)) (hm : w'.ownsRow 0 76 4 vM' m.length (encM m))
    (hb : w'.heap[g]? = some (.cells #[vF, vD', vS, vM', .int .i64 S.cap, .int .i64 S.ops, .int .i64 S.left, .bool S.off, .int .i64 0] 73 (0, 0))) : RAt w' g { S with d := d, m := m } bs vs vF vD' vS vM' := by
  have apart : ∀ {b1 b2 n1 n2 s1 s2 : Nat} {e1 e2 : TypeId} {v1 v2 : Value} {x1 x2 : List Value}, w.ownsRow b1 e1 s1 v1 n1 x1 → w.ownsRow b2 e2 s2 v2 n2 x2 → e1 ≠ e2 → ∀ i, v1.ownBlock = some i → v2.ownBlock ≠ some i := fun h1 h2 hne i hi hj => by
    rcases h2.2 with ⟨rfl, _⟩ | ⟨b, cap, cur, rfl, _, hh, _⟩
    · simp [Value.ownBlock] at hj
    · simp only [Value.ownBlock, Option.some.injEq] at hj
      subst hj
      exact own_not h1 hh hne hi
  have so : ∀ {base n size : Nat} {e : TypeId} {v : Value} {xs : List Value}, w.ownsRow base e size v n xs → e ≠ 73 → e ≠ 76 → (∀ i, v.ownBlock = some i → ¬ (vD.ownBlock = some i ∧ vS.ownBlock ≠ some i)) → w'.ownsRow base e size v n xs := fun ho h1 h2 h3 => own_blk ho fun i hi => hT.block i (ho.lt i hi).2 fun hc => by
    rcases hM i hc with e | e | e
    · exact own_not ho h.box h1 (by rw [hi, e])
    · exact apart h.rM ho (Ne.symm h2) i e hi
    · exact h3 i hi e
  have sb : ∀ {b : Nat} {cs : Array Value}, w.heap[b]? = some (.cells cs 111 (0, 0)) → w'.heap[b]? = w.heap[b]? := fun {b cs} hb => hT.block b (blk_lt hb) fun hc => by
    rcases hM b hc with e | e | e
    · rw [e, h.box] at hb
      injection hb with hb
      injection hb with _ h2
      exact absurd h2 (by decide)
    · exact own_not h.rM hb (by decide) e
    · exact own_not h.rD hb (by decide) e.1
  refine ⟨hb, so h.rF (by decide) (by decide) (fun i hi hc => apart h.rF h.rD (by decide) i hi hc.1), hD, so h.rS (by decide) (by decide) (fun i hi hc => hc.2 hi), hm, h.lb, h.lv, ?_, h.nd, h.ap⟩
  intro i hi
  have hf := h.fl i hi
  exact ⟨(sb hf.box).trans hf.box, so hf.row (by decide) (by decide) (fun j hj hc => apart hf.row h.rD (by decide) j hj hc.1)⟩

set_option maxHeartbeats 4000000 in
set_option maxRecDepth 100000 in
theorem rChange_any (g : Nat) (S : RS) (bs : List Nat) (vs : List Value) (vF vD vS vM : Value) (m : RM) (w : World) (h : RAt w g S bs vs vF vD vS vM) (hk : m.kind = 99 ∨ m.kind = 100 ∨ m.kind = 114) (hdl : S.d.length ≤ 1000000) (hml : S.m.length ≤ 1000000) (ho : 0 ≤ S.ops ∧ S.ops ≤ 1000000000) (hl : S.left ≤ 9223372036854775807) :
    Calls Try.prog 61 #[.pointer (some ⟨g, 0, none⟩), .agg #[.int .u8 (m.kind : Int), .string m.a, .string m.b, .int .i64 (m.n : Int)]] w fun e w' => e = .returned (.int .i64 0) ∧ ∃ vD' vM', RAt w' g (S.changed m) bs vs vF vD' vS vM' ∧ (∀ i, vD'.ownBlock = some i ∨ vM'.ownBlock = some i → vM.ownBlock = some i ∨ w.heap.size ≤ i) ∧ Turned (fun i => i = g ∨ vM.ownBlock = some i) w w' := by
  obtain ⟨kk, a, b, n⟩ := m
  obtain ⟨D, hD⟩ : ∃ D, D = movedR S.d ⟨kk, a, b, n⟩ := ⟨_, rfl⟩
  obtain ⟨L, hL⟩ : ∃ L, L = S.m ++ [(⟨kk, a, b, n⟩ : RM)] := ⟨_, rfl⟩
  have HE : Hid (S.changed ⟨kk, a, b, n⟩ = ({ S with m := L, d := D } : RS).counts) := hide (by rw [hD, hL]; rfl)
  have HDD : Hid (∀ (v : Value) (base : Nat) (wx : World), wx.ownsRow base 107 2 v S.d.length (encE S.d) → Calls Try.prog 63 #[v, .agg #[.int .u8 (kk : Int), .string a, .string b, .int .i64 (n : Int)]] wx (DirP wx D)) := hide fun v base wx ho => by rw [hD]; exact rMoved_any S.d v ⟨kk, a, b, n⟩ base wx ho hdl hk
  have HL1 : Hid (L.length ≤ 1000000000) := hide (by rw [hL]; simp; omega)
  have HL := hide hL
  obtain ⟨wa, hwa⟩ : ∃ wa, wa = w.alloc (.cells #[.int .u8 (kk : Int), .string a, .string b, .int .i64 (n : Int)] 76) := ⟨_, rfl⟩
  have hg : w.grownBy wa none := by rw [hwa]; exact gb_alloc (gb_refl w none) _
  have HX : Hid (wa.heap[w.heap.size]? = some (.cells #[.int .u8 (kk : Int), .string a, .string b, .int .i64 (n : Int)] 76 (0, 0))) := hide (by rw [hwa]; exact heap_alloc_new w _)
  have hr := h.gb h.lt hg
  obtain ⟨A, c, hvM, hc, hm⟩ := own_form0 hr.rM
  subst hvM
  have HLT : Hid (∀ i, (Value.slice A S.m.length c).ownBlock = some i → i < w.heap.size) := hide fun i hi => (h.rM.lt i hi).2
  have hlt0 := blk_lt h.box
  have b3 : wa.cell? ⟨g, 3, none⟩ = some (.slice A S.m.length c) := by rw [blk_cell hr.box]; rfl
  have z3 := blk_frozen hr.box 3
  have p0 : wa.cell? ⟨w.heap.size, 0, none⟩ = some (.int .u8 (kk : Int)) := by rw [blk_cell HX.out]; rfl
  have p1 : wa.cell? ⟨w.heap.size, 1, none⟩ = some (.string a) := by rw [blk_cell HX.out]; rfl
  have p2 : wa.cell? ⟨w.heap.size, 2, none⟩ = some (.string b) := by rw [blk_cell HX.out]; rfl
  have p3 : wa.cell? ⟨w.heap.size, 3, none⟩ = some (.int .i64 (n : Int)) := by rw [blk_cell HX.out]; rfl
  have r3 : (wa.alloc (.cells #[.int .u8 (kk : Int), .string a, .string b, .int .i64 (n : Int)] 76)).cell? ⟨g, 3, none⟩ = some (.slice A S.m.length c) := cell_grown b3 (gb_alloc (gb_refl wa none) _)
  have n3 := World.new_ne wa _ b3
  have HGA := hide (gb_alloc (gb_refl wa none) (.cells #[.int .u8 (kk : Int), .string a, .string b, .int .i64 (n : Int)] 76))
  have HLA : Hid (∀ k, ((wa.alloc (.cells #[.int .u8 (kk : Int), .string a, .string b, .int .i64 (n : Int)] 76)).drewN k).ownsRow 0 76 4 (.slice A S.m.length c) S.m.length (encM S.m)) := hide fun k => hr.rM.kept (gb_drewN HGA.out k) (by cases (Value.slice A S.m.length c).ownBlock <;> simp)
  have HRD : Hid (∀ k, Rd ((wa.alloc (.cells #[.int .u8 (kk : Int), .string a, .string b, .int .i64 (n : Int)] 76)).drewN k) (wa.heap.size + 1) (some ⟨wa.heap.size, 0, none⟩) (encM [⟨kk, a, b, n⟩])) := hide fun _ => Rd.new wa #[.int .u8 (kk : Int), .string a, .string b, .int .i64 (n : Int)] 76 _ rfl
  have HR := hide hr
  have HG := hide hg
  have HWA := hide hwa
  have HLT0 := hide hlt0
  clear h hr hg hwa hL hD hk hdl hml hlt0
  go_enter Try.func61, Try.ntmps61
  go_upto_region 1 with fail
  rw [← HWA.out]
  go_region_law (refine stepM (by rfl) (.tmp 9) (.tmp 11) (by rfl) 0 S.m.length 1 L S.m [⟨kk, a, b, n⟩] (.slice A S.m.length c) (by rfl) (HLA.out _) rfl rfl (wa.heap.size + 1) (some ⟨wa.heap.size, 0, none⟩) 1 (by rfl) (HRD.out _) HL.out HL1.out (Nat.zero_le _) ?_; intro A5 c5 w5 ho5 hg5 hb5; have HO5 := hide ho5; have HG5 : Hid (Turned (fun i => (Value.slice A S.m.length c).ownBlock = some i) wa w5) := hide ((Turned.of_gb (M := fun i => (Value.slice A S.m.length c).ownBlock = some i) (gb_drewN HGA.out _) (by simp)).trans (Turned.of_gb (M := fun i => (Value.slice A S.m.length c).ownBlock = some i) hg5 (fun i e => e)) (fun i _ h => h)); have HB5 := hide hb5; have HF5 := hide ((HG5.out.block g (blk_lt HR.out.box) (own_not HR.out.rM HR.out.box (by decide))).trans HR.out.box); have HX5 := hide ((HG5.out.block _ (blk_lt HX.out) (fun e => by have := HLT.out _ e; omega)).trans HX.out); have t3 : w5.cell? ⟨g, 3, none⟩ = some (.slice A S.m.length c) := (by { rw [blk_cell HF5.out]; rfl }); have y3 := blk_frozen HF5.out 3; clear ho5 hg5 hb5)
  all_goals
    obtain ⟨w6, hw6⟩ : ∃ w6, w6 = w5.setCell ⟨g, 3, none⟩ (.slice A5 L.length c5) := ⟨_, rfl⟩
    have hg6 : w5.grownBy w6 (some g) := by rw [hw6]; exact gb_set (gb_refl w5 (some g)) 3 _
    have hT6 : Turned (fun i => i = g ∨ (Value.slice A S.m.length c).ownBlock = some i) wa w6 := (HG5.out.mono (M' := fun i => i = g ∨ (Value.slice A S.m.length c).ownBlock = some i) (fun i _ h => .inr h)).trans (Turned.of_gb (M := fun i => i = g) hg6 (fun i e => by injection e with e; exact e.symm)) (fun i _ h => .inl h)
    have hb6 : w6.heap[g]? = some (.cells #[vF, vD, vS, .slice A5 L.length c5, .int .i64 S.cap, .int .i64 S.ops, .int .i64 S.left, .bool S.off, .int .i64 0] 73 (0, 0)) := by rw [hw6]; exact blk_set HF5.out 3 _
    have hR6 : RAt w6 g { S with d := S.d, m := L } bs vs vF vD vS (.slice A5 L.length c5) := HR.out.rows S.d L hT6 (fun i h => h.imp_right .inl) (own_blk HR.out.rD fun i hi => hT6.block i (HR.out.rD.lt i hi).2 (fun e => e.elim (fun e => own_not HR.out.rD HR.out.box (by decide) (by rw [hi, e])) (fun e => rows_not HR.out.rM HR.out.rD (by decide) i e hi))) (HO5.out.kept hg6 (.inr (own_not HO5.out HF5.out (by decide)))) hb6
    have hx6 : w6.heap[w.heap.size]? = some (.cells #[.int .u8 (kk : Int), .string a, .string b, .int .i64 (n : Int)] 76 (0, 0)) := (hg6.block _ (blk_lt HX5.out) (fun e => by injection e with e; have := HLT0.out; omega)).trans HX5.out
    have HR6 := hide hR6
    have HT6 := hide hT6
    have q1 : w6.cell? ⟨g, 1, none⟩ = some vD := by rw [blk_cell hb6]; rfl
    have x1 := blk_frozen hb6 1
    have s0 : w6.cell? ⟨w.heap.size, 0, none⟩ = some (.int .u8 (kk : Int)) := by rw [blk_cell hx6]; rfl
    have s1 : w6.cell? ⟨w.heap.size, 1, none⟩ = some (.string a) := by rw [blk_cell hx6]; rfl
    have s2 : w6.cell? ⟨w.heap.size, 2, none⟩ = some (.string b) := by rw [blk_cell hx6]; rfl
    have s3 : w6.cell? ⟨w.heap.size, 3, none⟩ = some (.int .i64 (n : Int)) := by rw [blk_cell hx6]; rfl
    rw [← hw6]
    clear hw6 hg6 hT6 hb6 hR6 hx6 b3 z3 p0 p1 p2 p3 r3 n3 t3 y3
    have HDC := hide (HDD.out vD 0 w6.drew HR6.out.rD)
    have HG6 := hide (Nat.le_trans HG.out.size HT6.out.size)
    go_wp2_with fail
    go_region_law (go_simp; go_at_call 63; refine HDC.out.mono ?_; rintro e w7 ⟨A7, c7, rfl, ho7, hg7⟩; have HG7 : Hid (w6.grownBy w7 none) := hide (gb_trans (gb_drew (gb_refl w6 none)) hg7 (.inl rfl)); have HO7 := hide ho7; have HR7 := hide (HR6.out.gb HR6.out.lt HG7.out); have t1 : w7.cell? ⟨g, 1, none⟩ = some vD := (by { rw [blk_cell HR7.out.box]; rfl }); have y1 := blk_frozen HR7.out.box 1; clear ho7 hg7)
    all_goals
      obtain ⟨w8, hw8⟩ : ∃ w8, w8 = w7.setCell ⟨g, 1, none⟩ (.slice A7 D.length c7) := ⟨_, rfl⟩
      have hg8 : w7.grownBy w8 (some g) := by rw [hw8]; exact gb_set (gb_refl w7 (some g)) 1 _
      have hT8 : Turned (fun i => i = g) w7 w8 := Turned.of_gb hg8 (fun i e => by injection e with e; exact e.symm)
      have hb8 : w8.heap[g]? = some (.cells #[vF, .slice A7 D.length c7, vS, .slice A5 L.length c5, .int .i64 S.cap, .int .i64 S.ops, .int .i64 S.left, .bool S.off, .int .i64 0] 73 (0, 0)) := by rw [hw8]; exact blk_set HR7.out.box 1 _
      have hR8 : RAt w8 g { S with d := D, m := L } bs vs vF (.slice A7 D.length c7) vS (.slice A5 L.length c5) := HR7.out.rows D L hT8 (fun i h => .inl h) (ownsRow_less (HO7.out.kept hg8 (.inr (own_not HO7.out HR7.out.box (by decide)))) (Nat.zero_le _)) (HR7.out.rM.kept hg8 (.inr (own_not HR7.out.rM HR7.out.box (by decide)))) hb8
      have HR8 := hide hR8
      have HT8 := hide hT8
      rw [← hw8]
      clear hw8 hg8 hT8 hb8 hR8 q1 x1 s0 s1 s2 s3 t1 y1
      go_wp2_with (go_at_call 62; refine (rCounts_any g _ _ _ _ _ _ _ _ HR8.out ho hl).mono ?_; rintro e w9 ⟨rfl, h9, hT9⟩; have HR9 := hide h9; have HT9 := hide hT9; clear h9 hT9)
      go_ret
      refine ⟨rfl, _, _, by rw [HE.out]; exact HR9.out, fun i hi => ?_, ?_⟩
      · rcases hi with hi | hi
        · exact .inr (Nat.le_trans HG6.out (HO7.out.lt i hi).1)
        · rcases HB5.out with e | e
          · exact .inl (e ▸ hi)
          · rw [e] at hi
            injection hi with hi
            refine .inr ?_
            have := HG.out.size
            rw [← hi]
            simp
            omega
      · have k1 : Turned (fun i => i = g ∨ (Value.slice A S.m.length c).ownBlock = some i) w w7 := ((Turned.of_gb (M := fun i => i = g ∨ (Value.slice A S.m.length c).ownBlock = some i) HG.out (by simp)).trans HT6.out (fun i _ h => h)).trans (Turned.of_gb (M := fun i => i = g ∨ (Value.slice A S.m.length c).ownBlock = some i) HG7.out (by simp)) (fun i _ h => h)
        exact (k1.trans HT8.out (fun i _ h => .inl h)).trans HT9.out (fun i _ h => .inl h)
end Go.Proofs.Ytccapgcpdehicaa

namespace Go.Proofs.Ytccapgcpdehicaa
open Go.RowKit

theorem fitB_int (c : UInt8) : fitB c = (((c.toNat : Int) == 46) || ((c.toNat : Int) == 45) || ((c.toNat : Int) == 95) || ((c.toNat : Int) == 47) || ((decide ((97 : Int) ≤ c.toNat) && decide ((c.toNat : Int) ≤ 122)) || (decide ((48 : Int) ≤ c.toNat) && decide ((c.toNat : Int) ≤ 57)))) := by
  have hc : c.toNat < 256 := c.toNat_lt
  have q : ∀ n : Nat, n < 256 → (c == UInt8.ofNat n) = ((c.toNat : Int) == (n : Int)) := fun n hn => by
    rw [Bool.eq_iff_iff]; simp [← UInt8.toNat_inj]; omega
  unfold fitB
  rw [show (c == 46) = _ from q 46 (by omega), show (c == 45) = _ from q 45 (by omega), show (c == 95) = _ from q 95 (by omega), show (c == 47) = _ from q 47 (by omega)]
  have e1 : (decide (97 ≤ c)) = decide ((97 : Int) ≤ c.toNat) := by rw [Bool.eq_iff_iff]; simp [UInt8.le_iff_toNat_le]; omega
  have e2 : (decide (c ≤ 122)) = decide ((c.toNat : Int) ≤ 122) := by rw [Bool.eq_iff_iff]; simp [UInt8.le_iff_toNat_le]; omega
  have e3 : (decide (48 ≤ c)) = decide ((48 : Int) ≤ c.toNat) := by rw [Bool.eq_iff_iff]; simp [UInt8.le_iff_toNat_le]; omega
  have e4 : (decide (c ≤ 57)) = decide ((c.toNat : Int) ≤ 57) := by rw [Bool.eq_iff_iff]; simp [UInt8.le_iff_toNat_le]; omega
  rw [e1, e2, e3, e4]
  rfl

set_option maxHeartbeats 4000000 in
set_option maxRecDepth 100000 in
theorem refName_any (s : ByteArray) (w : World) : Calls Try.prog 60 #[.string s] w fun e w' => e = .returned (.int .i64 (nameErr s)) ∧ w = w' := by
  by_cases h0 : s.size < 1
  · have R := hide (nameErr_no (nameOk_short h0))
    go_enter Try.func60, Try.ntmps60
    go_wp2
    go_ret
    exact ⟨by rw [R.out]; rfl, rfl⟩
  by_cases h1 : 64 < s.size
  · have R := hide (nameErr_no (nameOk_long h1))
    go_enter Try.func60, Try.ntmps60
    go_wp2
    go_ret
    exact ⟨by rw [R.out]; rfl, rfl⟩
  have hok : nameOk s = s.data.toList.all fitB := by unfold nameOk; simp [show 1 ≤ s.size by omega, show s.size ≤ 64 by omega]
  have R := hide hok
  clear hok
  go_enter Try.func60, Try.ntmps60
  go_wp2
  go_loop [3] (fun i => ∃ k : Nat, k ≤ s.size ∧ i = .int .i64 k ∧ (s.data.toList.take k).all fitB = true) (fun i => s.size - (intOf i).toNat)
  case atStart => exact ⟨0, Nat.zero_le _, rfl, rfl⟩
  case round =>
    obtain ⟨k, hk, rfl, ha⟩ := hrel
    have HA := hide ha
    clear ha
    by_cases hlt : k < s.size
    · have hs : s.data.toList.take (k + 1) = s.data.toList.take k ++ [s[k]] := by
        rw [List.take_succ_eq_append_getElem (by simpa using hlt)]; rfl
      have HS := hide hs
      have HFI := hide (fitB_int s[k])
      clear hs
      obtain ⟨x, hx⟩ : ∃ x : Int, x = (s[k].toNat : Int) := ⟨_, rfl⟩
      have hx0 : 0 ≤ x := by omega
      have hx1 : x < 256 := by have := s[k].toNat_lt; omega
      have hlen : (s.size : Int) ≤ 64 := by omega
      by_cases a1 : x = 46 <;> by_cases a2 : x = 45 <;> by_cases a3 : x = 95 <;> by_cases a4 : x = 47 <;> by_cases c1 : 97 ≤ x <;> by_cases c2 : x ≤ 122 <;> by_cases c3 : 48 ≤ x <;> by_cases c4 : x ≤ 57
      all_goals first
        | (exfalso; omega)
        | (have hf : fitB s[k] = true := by
             rw [HFI.out, ← hx]
             simp [a1, a2, a3, a4, c1, c2, c3, c4]
           have HF := hide hf
           clear hf
           subst hx
           go_wp2
           go_round
           case rel => exact ⟨k + 1, by omega, by go_num, by rw [HS.out, List.all_append, HA.out]; simp [HF.out]⟩
           case measure => simp [intOf]; omega)
        | (have hf : fitB s[k] = false := by
             rw [HFI.out, ← hx]
             simp [a1, a2, a3, a4, c1, c2, c3, c4]
           have HF := hide hf
           clear hf
           subst hx
           have b1 : ((s[k].toNat : Int) != 46) = true := by simp; omega
           have b2 : ((s[k].toNat : Int) != 45) = true := by simp; omega
           have b3 : ((s[k].toNat : Int) != 95) = true := by simp; omega
           have b4 : ((s[k].toNat : Int) != 47) = true := by simp; omega
           clear a1 a2 a3 a4
           go_wp2
           go_ret
           refine ⟨?_, rfl⟩
           have : s.data.toList.all fitB = false := by
             rw [List.all_eq_false]
             exact ⟨s[k], by
               have : s[k] = s.data.toList[k]'(by simpa using hlt) := rfl
               rw [this]; exact List.getElem_mem _, by rw [HF.out]; simp⟩
           rw [nameErr_no (by rw [R.out, this])]
           rfl)
    · go_wp2
      go_ret
      refine ⟨?_, rfl⟩
      have e : s.data.toList.take k = s.data.toList := List.take_of_length_le (by simp; show s.size ≤ k; omega)
      have h := HA.out
      rw [e] at h
      rw [nameErr_ok (by rw [R.out, h])]
      rfl

end Go.Proofs.Ytccapgcpdehicaa
