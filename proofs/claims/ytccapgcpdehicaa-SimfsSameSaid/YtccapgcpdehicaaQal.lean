/-
  A file that is written aside and renamed (the law Switch): its states, step by step.
-/
import Derived.Test.YtccapgcpdehicaaQak
import Derived.Deep.RegionHeld3

namespace Go.Proofs.Ytccapgcpdehicaa
open Go.RowKit

def eqL {α : Type} (q : α → α → Bool) : List α → List α → Bool
  | [], [] => true
  | x :: xs, y :: ys => q x y && eqL q xs ys
  | _, _ => false
theorem eqL_len {α : Type} {q : α → α → Bool} : ∀ {xs ys : List α}, xs.length ≠ ys.length → eqL q xs ys = false
  | [], [], h => absurd rfl h
  | [], _ :: _, _ | _ :: _, [], _ => rfl
  | x :: xs, y :: ys, h => by
    unfold eqL
    rw [eqL_len (xs := xs) (ys := ys) (fun e => h (by simp [e])), Bool.and_false]
theorem eqL_all {α : Type} {q : α → α → Bool} : ∀ {xs ys : List α}, xs.length = ys.length → (∀ (i : Nat) (h1 : i < xs.length) (h2 : i < ys.length), q xs[i] ys[i] = true) → eqL q xs ys = true
  | [], [], _, _ => rfl
  | [], _ :: _, h, _ | _ :: _, [], h, _ => by simp at h
  | x :: xs, y :: ys, h, k => by
    unfold eqL
    rw [eqL_all (xs := xs) (ys := ys) (by simpa using h) (fun i h1 h2 => k (i + 1) (by simpa using h1) (by simpa using h2)), Bool.and_true]
    exact k 0 (by simp) (by simp)
theorem eqL_no {α : Type} {q : α → α → Bool} : ∀ {xs ys : List α} (i : Nat) (h1 : i < xs.length) (h2 : i < ys.length), q xs[i] ys[i] = false → eqL q xs ys = false
  | [], _, i, h1, _, _ => by simp at h1
  | _ :: _, [], i, _, h2, _ => by simp at h2
  | x :: xs, y :: ys, 0, _, _, k => by
    unfold eqL
    have k' : q x y = false := k
    rw [k', Bool.false_and]
  | x :: xs, y :: ys, i + 1, h1, h2, k => by
    unfold eqL
    rw [eqL_no (xs := xs) (ys := ys) i (by simpa using h1) (by simpa using h2) k, Bool.and_false]
theorem BsAt.grown {w w' : World} {own : Nat → Prop} {v : Value} {xs : List UInt8} (h : BsAt w own v xs) (hg : w.grownBy w' none) : BsAt w' own v xs := h.keep fun i _ hl => hg.block i hl (by simp)
theorem cell_grown {w w' : World} {b i : Nat} {v : Value} (h : w.cell? ⟨b, i, none⟩ = some v) (hg : w.grownBy w' none) : w'.cell? ⟨b, i, none⟩ = some v := by
  have hb := World.block_lt_of_cell? w _ h
  exact (cell_same (p := ⟨b, i, none⟩) (hg.block b hb (by simp))).trans h

set_option maxHeartbeats 4000000 in
set_option maxRecDepth 100000 in
theorem eqf_wr (A1 A2 : Option Addr) (n1 c1 n2 c2 : Nat) (ws ys : List Wr) (own rd own' rd' : Nat → Prop) (w : World) (h : WsAt w own rd (.slice A1 n1 c1) ws) (k : WsAt w own' rd' (.slice A2 n2 c2) ys) :
    Calls Try.prog 76 #[.slice A1 n1 c1, .slice A2 n2 c2, .func (.func 77) #[] #[]] w fun e w' => e = .returned (.bool (eqL wrEq ws ys)) ∧ w.grownBy w' none := by
  obtain ⟨A1', c1', e1, hc1, hm1⟩ := h.form
  obtain ⟨A2', c2', e2, hc2, hm2⟩ := k.form
  injection e1 with e1a e1b e1c
  injection e2 with e2a e2b e2c
  subst e1a; subst e1b; subst e1c; subst e2a; subst e2b; subst e2c
  unfold maxLen at hm1 hm2
  have H := hide h
  have K := hide k
  clear h k
  by_cases hl : ws.length = ys.length
  · have hl1 : ((ws.length : Int) != (ys.length : Int)) = false := by rw [hl]; simp
    have HL := hide hl
    clear hl
    go_enter Try.func76, Try.ntmps76
    go_wp2
    go_loopw [17] (fun i wr => ∃ j : Nat, i = .int .i64 (j : Int) ∧ j ≤ ws.length ∧ (∀ (i : Nat) (h1 : i < ws.length) (h2 : i < ys.length), i < j → wrEq ws[i] ys[i] = true) ∧ w.grownBy wr none) (fun i _ => ws.length - (intOf i).toNat)
    case atStart => exact ⟨0, rfl, Nat.zero_le _, fun i _ _ h => by omega, gb_refl w none⟩
    case round =>
      obtain ⟨j, rfl, hj, hall, hg⟩ := hrel
      have HA := hide hall
      have HG := hide hg
      clear hall hg
      by_cases hlt : j < ws.length
      · have hlt2 : j < ys.length := by rw [← HL.out]; exact hlt
        obtain ⟨b1, v1, rfl, p0, p1, p2, hp⟩ := H.out.elem hlt
        obtain ⟨b2, v2, rfl, q0, q1, q2, hq⟩ := K.out.elem hlt2
        obtain ⟨B1, d1, rfl, _⟩ := hp.form
        obtain ⟨B2, d2, rfl, _⟩ := hq.form
        have p0 := cell_grown p0 HG.out
        have p1 := cell_grown p1 HG.out
        have p2 := cell_grown p2 HG.out
        have r0 := cell_grown q0 HG.out
        have r1 := cell_grown q1 HG.out
        have r2 := cell_grown q2 HG.out
        have s0 := cell_grown r0 (gb_alloc (gb_refl wr none) (.cells #[.bool ws[j].cut, .int .i64 (ws[j].pos : Int), .slice B1 ws[j].p.length d1] 116))
        have s1 := cell_grown r1 (gb_alloc (gb_refl wr none) (.cells #[.bool ws[j].cut, .int .i64 (ws[j].pos : Int), .slice B1 ws[j].p.length d1] 116))
        have s2 := cell_grown r2 (gb_alloc (gb_refl wr none) (.cells #[.bool ws[j].cut, .int .i64 (ws[j].pos : Int), .slice B1 ws[j].p.length d1] 116))
        have hgg : w.grownBy ((wr.alloc (.cells #[.bool ws[j].cut, .int .i64 (ws[j].pos : Int), .slice B1 ws[j].p.length d1] 116)).alloc (.cells #[.bool ys[j].cut, .int .i64 (ys[j].pos : Int), .slice B2 ys[j].p.length d2] 116)) none := gb_alloc (gb_alloc HG.out _) _
        have HS := hide (sameWrite_any ws[j] ys[j] _ _ rd rd' _ (hp.grown hgg) (hq.grown hgg))
        have HGG := hide hgg
        clear hgg hp hq q0 q1 q2
        cases hb : wrEq ws[j] ys[j]
        · rw [hb] at HS
          have HB := hide (eqL_no (q := wrEq) j hlt hlt2 hb)
          clear hb
          go_wp2_with (go_at_call 77; refine HS.out.mono ?_; rintro e w2 ⟨rfl, hg2⟩; have HG2 := hide hg2; clear hg2)
          go_ret
          exact ⟨by rw [HB.out]; rfl, gb_trans HGG.out HG2.out (.inl rfl)⟩
        · rw [hb] at HS
          have HB := hide hb
          clear hb
          go_wp2_with (go_at_call 77; refine HS.out.mono ?_; rintro e w2 ⟨rfl, hg2⟩; have HG2 := hide hg2; clear hg2)
          go_roundw
          case rel =>
            refine ⟨j + 1, by go_num, by omega, fun i h1 h2 hi => ?_, gb_trans HGG.out HG2.out (.inl rfl)⟩
            by_cases hij : i = j
            · subst hij
              exact HB.out
            · exact HA.out i h1 h2 (by omega)
          case measure => simp [intOf]; omega
      · have hje : j = ws.length := by omega
        have HB := hide (eqL_all (q := wrEq) HL.out (fun i h1 h2 => HA.out i h1 h2 (by omega)))
        clear hje
        go_wp2
        go_ret
        exact ⟨by rw [HB.out]; rfl, HG.out⟩
  · have hl1 : ((ws.length : Int) != (ys.length : Int)) = true := by simp; omega
    have HB := hide (eqL_len (q := wrEq) hl)
    clear hl
    go_enter Try.func76, Try.ntmps76
    go_wp2
    go_ret
    exact ⟨by rw [HB.out]; rfl, gb_refl w none⟩

end Go.Proofs.Ytccapgcpdehicaa

namespace Go.Proofs.Ytccapgcpdehicaa
open Go.RowKit

theorem ChAt.form {w : World} {own : Nat → Prop} {v : Value} {l : List Ch} (h : ChAt w own v l) : ∃ A c, v = .slice A l.length c ∧ l.length ≤ c ∧ c ≤ maxLen := by
  rcases h.1.2 with ⟨h1, h0⟩ | ⟨g, cap, cur, hv, _, _, h3, h4, _⟩
  · exact ⟨none, 0, by rw [h1, h0], by omega, Nat.zero_le _⟩
  · exact ⟨_, cap, hv, h3, h4⟩
theorem ChAt.elem {w : World} {own : Nat → Prop} {A : Option Addr} {n c : Nat} {l : List Ch} (h : ChAt w own (.slice A n c) l) {i : Nat} (hi : i < l.length) :
    ∃ b, A = some ⟨b, 0, none⟩ ∧ w.cell? ⟨b, i * 3, none⟩ = some (.string l[i].src) ∧ w.cell? ⟨b, i * 3 + 1, none⟩ = some (.string l[i].dst) ∧ w.cell? ⟨b, i * 3 + 2, none⟩ = some (.int .i64 (l[i].file : Int)) := by
  rcases h.1.2 with ⟨e, h0⟩ | ⟨b, cap, cur, hv, _, h6, _, _, _, h9⟩
  · omega
  · injection hv with hA _ _
    obtain ⟨w1, w2, w3⟩ := chcells_at l i hi
    have hc : ∀ j, j < l.length * 3 → w.cell? ⟨b, j, none⟩ = (chcells l)[j]? := fun j hj => by
      rw [blk_cell h6, ← h9, List.getElem?_take, if_pos hj, Array.getElem?_toList]
    exact ⟨b, hA, by rw [hc _ (by omega), w1], by rw [hc _ (by omega), w2], by rw [hc _ (by omega), w3]⟩

set_option maxHeartbeats 4000000 in
set_option maxRecDepth 100000 in
theorem eqf_ch (A1 A2 : Option Addr) (n1 c1 n2 c2 : Nat) (ws ys : List Ch) (own own' : Nat → Prop) (w : World) (h : ChAt w own (.slice A1 n1 c1) ws) (k : ChAt w own' (.slice A2 n2 c2) ys) :
    Calls Try.prog 24 #[.slice A1 n1 c1, .slice A2 n2 c2, .func (.func 25) #[] #[]] w fun e w' => e = .returned (.bool (eqL chEq ws ys)) ∧ w.grownBy w' none := by
  obtain ⟨A1', c1', e1, hc1, hm1⟩ := h.form
  obtain ⟨A2', c2', e2, hc2, hm2⟩ := k.form
  injection e1 with e1a e1b e1c
  injection e2 with e2a e2b e2c
  subst e1a; subst e1b; subst e1c; subst e2a; subst e2b; subst e2c
  unfold maxLen at hm1 hm2
  have H := hide h
  have K := hide k
  clear h k
  by_cases hl : ws.length = ys.length
  · have hl1 : ((ws.length : Int) != (ys.length : Int)) = false := by rw [hl]; simp
    have HL := hide hl
    clear hl
    go_enter Try.func24, Try.ntmps24
    go_wp2
    go_loopw [17] (fun i wr => ∃ j : Nat, i = .int .i64 (j : Int) ∧ j ≤ ws.length ∧ (∀ (i : Nat) (h1 : i < ws.length) (h2 : i < ys.length), i < j → chEq ws[i] ys[i] = true) ∧ w.grownBy wr none) (fun i _ => ws.length - (intOf i).toNat)
    case atStart => exact ⟨0, rfl, Nat.zero_le _, fun i _ _ h => by omega, gb_refl w none⟩
    case round =>
      obtain ⟨j, rfl, hj, hall, hg⟩ := hrel
      have HA := hide hall
      have HG := hide hg
      clear hall hg
      by_cases hlt : j < ws.length
      · have hlt2 : j < ys.length := by rw [← HL.out]; exact hlt
        obtain ⟨b1, rfl, p0, p1, p2⟩ := H.out.elem hlt
        obtain ⟨b2, rfl, q0, q1, q2⟩ := K.out.elem hlt2
        have p0 := cell_grown p0 HG.out
        have p1 := cell_grown p1 HG.out
        have p2 := cell_grown p2 HG.out
        have r0 := cell_grown q0 HG.out
        have r1 := cell_grown q1 HG.out
        have r2 := cell_grown q2 HG.out
        have s0 := cell_grown r0 (gb_alloc (gb_refl wr none) (.cells #[.string ws[j].src, .string ws[j].dst, .int .i64 (ws[j].file : Int)] 67))
        have s1 := cell_grown r1 (gb_alloc (gb_refl wr none) (.cells #[.string ws[j].src, .string ws[j].dst, .int .i64 (ws[j].file : Int)] 67))
        have s2 := cell_grown r2 (gb_alloc (gb_refl wr none) (.cells #[.string ws[j].src, .string ws[j].dst, .int .i64 (ws[j].file : Int)] 67))
        have hgg : w.grownBy ((wr.alloc (.cells #[.string ws[j].src, .string ws[j].dst, .int .i64 (ws[j].file : Int)] 67)).alloc (.cells #[.string ys[j].src, .string ys[j].dst, .int .i64 (ys[j].file : Int)] 67)) none := gb_alloc (gb_alloc HG.out _) _
        have HS := hide (sameChange_any ws[j] ys[j] ((wr.alloc (.cells #[.string ws[j].src, .string ws[j].dst, .int .i64 (ws[j].file : Int)] 67)).alloc (.cells #[.string ys[j].src, .string ys[j].dst, .int .i64 (ys[j].file : Int)] 67)))
        have HGG := hide hgg
        clear hgg q0 q1 q2
        cases hb : chEq ws[j] ys[j]
        · rw [hb] at HS
          have HB := hide (eqL_no (q := chEq) j hlt hlt2 hb)
          clear hb
          go_wp2_with (go_at_call 25; refine HS.out.mono ?_; rintro e w2 ⟨rfl, hg2⟩; have HG2 := hide hg2; clear hg2)
          go_ret
          exact ⟨by rw [HB.out]; rfl, gb_trans HGG.out HG2.out (.inl rfl)⟩
        · rw [hb] at HS
          have HB := hide hb
          clear hb
          go_wp2_with (go_at_call 25; refine HS.out.mono ?_; rintro e w2 ⟨rfl, hg2⟩; have HG2 := hide hg2; clear hg2)
          go_roundw
          case rel =>
            refine ⟨j + 1, by go_num, by omega, fun i h1 h2 hi => ?_, gb_trans HGG.out HG2.out (.inl rfl)⟩
            by_cases hij : i = j
            · subst hij
              exact HB.out
            · exact HA.out i h1 h2 (by omega)
          case measure => simp [intOf]; omega
      · have hje : j = ws.length := by omega
        have HB := hide (eqL_all (q := chEq) HL.out (fun i h1 h2 => HA.out i h1 h2 (by omega)))
        clear hje
        go_wp2
        go_ret
        exact ⟨by rw [HB.out]; rfl, HG.out⟩
  · have hl1 : ((ws.length : Int) != (ys.length : Int)) = true := by simp; omega
    have HB := hide (eqL_len (q := chEq) hl)
    clear hl
    go_enter Try.func24, Try.ntmps24
    go_wp2
    go_ret
    exact ⟨by rw [HB.out]; rfl, gb_refl w none⟩

end Go.Proofs.Ytccapgcpdehicaa

namespace Go.Proofs.Ytccapgcpdehicaa
open Go.RowKit

def flEq (x y : Fl) : Bool := (x.bytes == y.bytes) && (x.safe == y.safe) && eqL wrEq x.waits y.waits
theorem eq8_still {A A2 : Option Addr} {n c n2 c2 : Nat} {xs ys : List UInt8} {w : World} (h : Rd w w.heap.size A (u8s xs)) (k : Rd w w.heap.size A2 (u8s ys)) (hn : n = xs.length) (hn2 : n2 = ys.length) {b : Bool} (hb : (xs == ys) = b) (j : Nat) :
    Calls Try.prog 75 #[.slice A n c, .slice A2 n2 c2] (w.drewN j) fun e w' => e = .returned (.bool b) ∧ w' = w.drewN j :=
  (eq8_any A A2 n c n2 c2 _ _ xs ys (w.drewN j) (h.drewN j) (k.drewN j) hn hn2).mono fun _ _ ⟨he, hw⟩ => ⟨by rw [he, hb], hw.symm⟩

set_option maxHeartbeats 4000000 in
set_option maxRecDepth 100000 in
theorem sameFile_any (g1 g2 : Nat) (f1 f2 : Fl) (own rd own' rd' : Nat → Prop) (w : World) (h : FileAt w own rd g1 f1) (k : FileAt w own' rd' g2 f2) :
    Calls Try.prog 54 #[.pointer (some ⟨g1, 0, none⟩), .pointer (some ⟨g2, 0, none⟩)] w fun e w' => e = .returned (.bool (flEq f1 f2)) ∧ w.grownBy w' none := by
  obtain ⟨v1, hf1, _, _, hb1, hs1, _, hw1⟩ := h
  obtain ⟨v2, hf2, _, _, hb2, hs2, _, hw2⟩ := k
  obtain ⟨A1, c1, e1, _, _, r1⟩ := hb1.rd
  obtain ⟨B1, d1, e2, _, _, t1⟩ := hs1.rd
  obtain ⟨W1, k1, e3, _, _⟩ := hw1.form
  obtain ⟨A2, c2, e4, _, _, r2⟩ := hb2.rd
  obtain ⟨B2, d2, e5, _, _, t2⟩ := hs2.rd
  obtain ⟨W2, k2, e6, _, _⟩ := hw2.form
  have p1 := hf1.c1
  have p2 := hf1.c2
  have p4 := hf1.c4
  have q1 := hf2.c1
  have q2 := hf2.c2
  have q4 := hf2.c4
  rw [e1] at p1
  rw [e2] at p2
  rw [e3] at p4 hw1
  rw [e4] at q1
  rw [e5] at q2
  rw [e6] at q4 hw2
  have HW := hide (eqf_wr W1 W2 _ k1 _ k2 f1.waits f2.waits own rd own' rd' w.drew (hw1.keep fun _ _ _ => rfl) (hw2.keep fun _ _ _ => rfl))
  clear hf1 hf2 hb1 hb2 hs1 hs2 hw1 hw2 e1 e2 e3 e4 e5 e6
  cases hx : (f1.bytes == f2.bytes)
  · have E1 := fun j => eq8_still (c := c1) (c2 := c2) r1 r2 rfl rfl hx j
    have E1 := hide E1
    have HQ := hide (show flEq f1 f2 = false by unfold flEq; rw [hx]; rfl)
    clear r1 r2 t1 t2 hx
    go_enter Try.func54, Try.ntmps54
    go_wp2
    go_quiet ((go_at_call 75; exact Calls.quiet_of_same (E1.out _)))
    go_wp2
    go_ret
    exact ⟨by rw [HQ.out]; rfl, gb_drewN (gb_refl w none) _⟩
  · cases hy : (f1.safe == f2.safe)
    · have E1 := fun j => eq8_still (c := c1) (c2 := c2) r1 r2 rfl rfl hx j
      have E2 := fun j => eq8_still (c := d1) (c2 := d2) t1 t2 rfl rfl hy j
      have E1 := hide E1
      have E2 := hide E2
      have HQ := hide (show flEq f1 f2 = false by unfold flEq; rw [hx, hy]; rfl)
      clear r1 r2 t1 t2 hx hy
      go_enter Try.func54, Try.ntmps54
      go_wp2
      go_quiet ((first
        | (go_at_call 75; with_reducible exact Calls.quiet_of_same (E1.out _))
        | (go_at_call 75; with_reducible exact Calls.quiet_of_same (E2.out _))))
      go_wp2
      go_ret
      exact ⟨by rw [HQ.out]; rfl, gb_drewN (gb_refl w none) _⟩
    · have E1 := fun j => eq8_still (c := c1) (c2 := c2) r1 r2 rfl rfl hx j
      have E2 := fun j => eq8_still (c := d1) (c2 := d2) t1 t2 rfl rfl hy j
      have E1 := hide E1
      have E2 := hide E2
      have HQ := hide (show flEq f1 f2 = eqL wrEq f1.waits f2.waits by unfold flEq; rw [hx, hy]; rfl)
      generalize eqL wrEq f1.waits f2.waits = b at *
      clear r1 r2 t1 t2 hx hy
      go_enter Try.func54, Try.ntmps54
      go_wp2
      go_still_tail 29, (by kernel_rfl)
      still_call (E1.out 1)
      repeat still_step
      still_call (E2.out 1)
      repeat still_step
      refine wpStill_nil ?_
      go_wp2_with (go_at_call 76; refine HW.out.mono ?_; rintro e w1 ⟨rfl, hg⟩; have HG := hide hg; clear hg)
      go_ret
      exact ⟨by rw [HQ.out]; rfl, ⟨HG.out.os, HG.out.tape, HG.out.output, HG.out.size, HG.out.block⟩⟩

end Go.Proofs.Ytccapgcpdehicaa

namespace Go.Proofs.Ytccapgcpdehicaa
open Go.RowKit

def flO (x y : Option Fl) : Bool := match x, y with
  | some a, some b => flEq a b
  | _, _ => false
def nmOne (S1 S2 : St) (l2 : List (ByteArray × Nat)) (x : ByteArray × Nat) : Bool := match aget l2 x.1 with
  | none => false
  | some m => flO (S1.files (x.2 : Int)) (S2.files (m : Int))
def nmEq (S1 : St) (l1 : List (ByteArray × Nat)) (S2 : St) (l2 : List (ByteArray × Nat)) : Bool := (l1.length == l2.length) && l1.all (nmOne S1 S2 l2)

theorem FsIn.file_of {w : World} {L : Nat → Nat} {g : Nat} {S : St} {mf mn ms : Nat} {vch : Value} {lf : List (Int × Nat)} (h : FsIn w L g S mf mn ms vch lf) {n : Int} {f : Fl} (hf : S.files n = some f) :
    ∃ fb, aget lf n = some fb ∧ FileAt w (fun i => L i = n.toNat + 3) (fun i => L i = 2) fb f := by
  cases hl : aget lf n with
  | none => rw [h.no _ hl] at hf; cases hf
  | some fb =>
    obtain ⟨_, f', hf', hfa⟩ := h.at_ n fb hl
    rw [hf] at hf'
    injection hf' with hf'
    subst hf'
    exact ⟨fb, rfl, hfa⟩
theorem FileAt.grown {w w' : World} {own rd : Nat → Prop} {g : Nat} {f : Fl} (h : FileAt w own rd g f) (hg : w.grownBy w' none) : FileAt w' own rd g f := h.keep fun i _ hl => hg.block i hl (by simp)
theorem aget_in {κ ν : Type} [DecidableEq κ] {l : List (κ × ν)} {k : κ} {v : ν} (h : aget l k = some v) : (k, v) ∈ l := by
  induction l with
  | nil => cases h
  | cons x l ih =>
    obtain ⟨a, u⟩ := x
    simp only [aget] at h
    by_cases e : a = k
    · rw [if_pos e] at h
      injection h with h
      subst e; subst h
      exact List.mem_cons_self ..
    · rw [if_neg e] at h
      exact List.mem_cons_of_mem _ (ih h)

set_option maxHeartbeats 8000000 in
set_option maxRecDepth 100000 in
theorem sameFiles_any (g1 g2 m1 m2 : Nat) (S1 S2 : St) (l1 l2 : List (ByteArray × Nat)) (L1 L2 : Nat → Nat) (w : World) (h : FsAt w L1 g1 S1) (k : FsAt w L2 g2 S2) (hm1 : MapAt encN w m1 l1) (hm2 : MapAt encN w m2 l2)
    (hv1 : ∀ x ∈ l1, (S1.files (x.2 : Int)).isSome) (hv2 : ∀ x ∈ l2, (S2.files (x.2 : Int)).isSome) :
    Calls Try.prog 23 #[.pointer (some ⟨g1, 0, none⟩), .map (some m1), .pointer (some ⟨g2, 0, none⟩), .map (some m2)] w fun e w' => e = .returned (.bool (nmEq S1 l1 S2 l2)) ∧ w.grownBy w' none := by
  obtain ⟨mf1, mn1, ms1, vch1, lf1, h⟩ := h
  obtain ⟨mf2, mn2, ms2, vch2, lf2, k⟩ := k
  have H := hide h
  have K := hide k
  have HM1 := hide hm1
  have HM2 := hide hm2
  have HV1 := hide hv1
  have HV2 := hide hv2
  have hml := hm1.lt
  clear h k hm1 hm2 hv1 hv2
  by_cases hl : l1.length = l2.length
  · have hl1 : ((l1.length : Int) != (l2.length : Int)) = false := by rw [hl]; simp
    have HQ := hide (show nmEq S1 l1 S2 l2 = l1.all (nmOne S1 S2 l2) by unfold nmEq; rw [hl]; simp)
    clear hl
    go_enter Try.func23, Try.ntmps23
    go_wp2_with (first
      | (at_len; with_reducible refine wpList_mlen (E := encN) _ rfl (.tmp 13) 61 rfl 9 3 Try.underlying61 m1 l1 rfl HM1.out ?_)
      | (at_len; refine wpList_mlen (E := encN) _ rfl (.tmp 15) 61 rfl 9 3 Try.underlying61 m2 l2 rfl HM2.out ?_)
      | (at_range; refine wpList_rng (E := encN) _ rfl _ 61 rfl 9 3 Try.underlying61 m1 l1 rfl HM1.out ?_; intro w5 hit hg5 hs5))
    have HIT := hide hit
    have HG5 := hide hg5
    clear hit hg5
    clear hs5
    go_frame
    go_loopw [9] (fun _ wr => ∃ (todo done : List (ByteArray × Nat)), IterAt encN wr m1 w.heap.size l1 todo ∧ (done ++ todo).Perm l1 ∧ (∀ x ∈ done, nmOne S1 S2 l2 x = true) ∧ w.grownBy wr none) (fun _ wr => wr.rangeLeft m1 w.heap.size)
    case atStart => exact ⟨l1, [], HIT.out, by simp, (fun x hx => by cases hx), HG5.out⟩
    case round =>
      obtain ⟨todo, done, hit, hperm, hall, hg⟩ := hrel
      have HI := hide hit
      have HP := hide hperm
      have HA := hide hall
      have HG := hide hg
      clear hit hperm hall hg
      go_wp2_with (first
        | (at_next; refine wpList_nxt (E := encN) _ rfl (.tmp 19) rfl m1 w.heap.size l1 todo rfl HI.out ?_ ?_))
      · intro h0
        go_wp2
        go_ret
        subst h0
        have hp := HP.out
        rw [List.append_nil] at hp
        refine ⟨?_, HG.out⟩
        have : l1.all (nmOne S1 S2 l2) = true := List.all_eq_true.2 fun x hx => HA.out x (hp.mem_iff.2 hx)
        rw [HQ.out, this]
        rfl
      · intro j xa xm w6 hx hit6 hg6 hs6 hen
        obtain ⟨x, hxe⟩ : ∃ x : ByteArray × Nat, x = (xa, xm) := ⟨_, rfl⟩
        rw [← hxe] at hx
        obtain rfl : xa = x.1 := by rw [hxe]
        obtain rfl : xm = x.2 := by rw [hxe]
        clear hxe
        have hxl : x ∈ l1 := HP.out.mem_iff.1 (List.mem_append_right _ (List.mem_of_getElem? hx))
        have hgw : w.grownBy w6 none := gb_trans HG.out hg6 (.inr (.inr ⟨_, rfl, Nat.le_refl _⟩))
        have hlk := look_ok (HM2.out.grown hgw (by simp)) x.1
        have hen' : (Instr.entry (.pointer (some ⟨w.heap.size, 0, none⟩))).run Try.prog w6 = .ok (.tuple #[.string x.1, .int .i64 (x.2 : Int)]) w6 := hen
        have HI6 := hide hit6
        have HX := hide hx
        have HGW := hide hgw
        have HXL := hide hxl
        clear hit6 hx hgw hxl hen hg6 hs6
        cases ha : aget l2 x.1 with
        | none =>
          have HN := hide (show nmOne S1 S2 l2 x = false by unfold nmOne; rw [ha])
          rw [ha] at hlk
          clear ha
          go_wp2
          go_quiet (fail)
          go_wp2
          go_ret
          refine ⟨?_, gb_drewN HGW.out _⟩
          have : l1.all (nmOne S1 S2 l2) = false := List.all_eq_false.2 ⟨x, HXL.out, by rw [HN.out]; simp⟩
          rw [HQ.out, this]
          rfl
        | some m =>
          obtain ⟨f1, hf1⟩ := Option.isSome_iff_exists.1 (HV1.out x HXL.out)
          obtain ⟨f2, hf2⟩ := Option.isSome_iff_exists.1 (HV2.out (x.1, m) (aget_in ha))
          obtain ⟨fb1, k1, k2⟩ := H.out.file_of hf1
          obtain ⟨fb2, k3, k4⟩ := K.out.file_of hf2
          have HN := hide (show nmOne S1 S2 l2 x = flEq f1 f2 by
            unfold nmOne
            rw [ha]
            show flO (S1.files (x.2 : Int)) (S2.files (m : Int)) = _
            rw [hf1, hf2]
            rfl)
          rw [ha] at hlk
          have q1 : w6.cell? ⟨g1, 3, none⟩ = some (.map (some mf1)) := cell_grown H.out.blk.c3 HGW.out
          have q2 : w6.cell? ⟨g2, 3, none⟩ = some (.map (some mf2)) := cell_grown K.out.blk.c3 HGW.out
          have hgd : w.grownBy w6.drew none := gb_drew HGW.out
          have hlk1 : (Instr.lookup 60 (.map (some mf1)) (.int .i64 (x.2 : Int)) false).run Try.prog w6.drew = .ok (.pointer (some ⟨fb1, 0, none⟩)) w6.drew := (H.out.files.grown hgd (by simp)).look_yes (P := Try.prog) (E := encF) Try.underlying3 Try.underlying60 (zero_file _) k1
          have hlk2 : (Instr.lookup 60 (.map (some mf2)) (.int .i64 (m : Int)) false).run Try.prog w6.drew = .ok (.pointer (some ⟨fb2, 0, none⟩)) w6.drew := (K.out.files.grown hgd (by simp)).look_yes (P := Try.prog) (E := encF) Try.underlying3 Try.underlying60 (zero_file _) k3
          have HS := hide (sameFile_any fb1 fb2 f1 f2 _ _ _ _ w6.drew (k2.grown hgd) (k4.grown hgd))
          clear hf1 hf2 k1 k2 k3 k4 ha hgd
          cases hb : flEq f1 f2
          · rw [hb] at HS HN
            clear hb
            go_wp2
            go_still_tail 15, (by kernel_rfl)
            go_wp2_with (go_at_call 54; refine HS.out.mono ?_; rintro e w7 ⟨rfl, hg7⟩; have HG7 := hide (gb_trans (gb_drew HGW.out) hg7 (.inl rfl)); clear hg7)
            go_ret
            refine ⟨?_, HG7.out⟩
            have : l1.all (nmOne S1 S2 l2) = false := List.all_eq_false.2 ⟨x, HXL.out, by rw [HN.out]; simp⟩
            rw [HQ.out, this]
            rfl
          · rw [hb] at HS HN
            clear hb
            go_wp2
            go_still_tail 15, (by kernel_rfl)
            go_wp2_with (go_at_call 54; refine HS.out.mono ?_; rintro e w7 ⟨rfl, hg7⟩; have HG67 := hide (show w6.grownBy w7 none from ⟨hg7.os, hg7.tape, hg7.output, hg7.size, hg7.block⟩); clear hg7)
            have hit7 := HI6.out.grown HG67.out (by simp) (by simp)
            go_roundw
            case rel =>
              refine ⟨_, done ++ [x], hit7, perm_done HP.out HX.out, fun y hy => ?_, gb_trans HGW.out HG67.out (.inl rfl)⟩
              rcases List.mem_append.1 hy with hy | hy
              · exact HA.out y hy
              · rw [List.mem_singleton] at hy
                rw [hy]
                exact HN.out
            case measure =>
              rw [hit7.left, HI.out.left, List.length_eraseIdx]
              have := (List.getElem?_eq_some_iff.1 HX.out).1
              split <;> omega
  · have hl1 : ((l1.length : Int) != (l2.length : Int)) = true := by simp; omega
    have HQ := hide (show nmEq S1 l1 S2 l2 = false by unfold nmEq; rw [beq_eq_false_iff_ne.2 hl]; rfl)
    clear hl
    go_enter Try.func23, Try.ntmps23
    go_wp2_with (first
      | (at_len; with_reducible refine wpList_mlen (E := encN) _ rfl (.tmp 13) 61 rfl 9 3 Try.underlying61 m1 l1 rfl HM1.out ?_)
      | (at_len; refine wpList_mlen (E := encN) _ rfl (.tmp 15) 61 rfl 9 3 Try.underlying61 m2 l2 rfl HM2.out ?_))
    go_ret
    exact ⟨by rw [HQ.out]; rfl, gb_refl w none⟩

end Go.Proofs.Ytccapgcpdehicaa

namespace Go.Proofs.Ytccapgcpdehicaa
open Go.RowKit

def SixAt (g1 g2 mn1 ms1 mn2 ms2 : Nat) (A1 : Option Addr) (n1 c1 : Nat) (A2 : Option Addr) (n2 c2 : Nat) (w' : World) : Prop :=
  w'.cell? ⟨g1, 4, none⟩ = some (.map (some mn1)) ∧ w'.cell? ⟨g1, 5, none⟩ = some (.map (some ms1)) ∧ w'.cell? ⟨g1, 6, none⟩ = some (.slice A1 n1 c1) ∧
    w'.cell? ⟨g2, 4, none⟩ = some (.map (some mn2)) ∧ w'.cell? ⟨g2, 5, none⟩ = some (.map (some ms2)) ∧ w'.cell? ⟨g2, 6, none⟩ = some (.slice A2 n2 c2)
theorem SixAt.grown {g1 g2 mn1 ms1 mn2 ms2 : Nat} {A1 : Option Addr} {n1 c1 : Nat} {A2 : Option Addr} {n2 c2 : Nat} {w w' : World} (h : SixAt g1 g2 mn1 ms1 mn2 ms2 A1 n1 c1 A2 n2 c2 w) (hg : w.grownBy w' none) : SixAt g1 g2 mn1 ms1 mn2 ms2 A1 n1 c1 A2 n2 c2 w' := by
  obtain ⟨h1, h2, h3, h4, h5, h6⟩ := h
  exact ⟨cell_grown h1 hg, cell_grown h2 hg, cell_grown h3 hg, cell_grown h4 hg, cell_grown h5 hg, cell_grown h6 hg⟩

theorem ChAt.grown {w w' : World} {own : Nat → Prop} {v : Value} {l : List Ch} (h : ChAt w own v l) (hg : w.grownBy w' none) : ChAt w' own v l := ⟨own_keep h.1 fun _ _ hl => hg.block _ hl (by simp), h.2⟩

set_option maxHeartbeats 8000000 in
set_option maxRecDepth 100000 in
theorem same_yes (g1 g2 : Nat) (S1 S2 : St) (L1 L2 : Nat → Nat) (w : World) (h : FsAt w L1 g1 S1) (k : FsAt w L2 g2 S2)
    (hv1 : ∀ x ∈ S1.names, (S1.files (x.2 : Int)).isSome) (hv2 : ∀ x ∈ S2.names, (S2.files (x.2 : Int)).isSome) (hs1 : ∀ x ∈ S1.safe, (S1.files (x.2 : Int)).isSome) (hs2 : ∀ x ∈ S2.safe, (S2.files (x.2 : Int)).isSome)
    (e1 : nmEq S1 S1.names S2 S2.names = true) (e2 : nmEq S1 S1.safe S2 S2.safe = true) (e3 : eqL chEq S1.changes S2.changes = true) :
    Calls Try.prog 7 #[.pointer (some ⟨g1, 0, none⟩), .pointer (some ⟨g2, 0, none⟩)] w fun e w' => e = .returned (.bool true) ∧ w.grownBy w' none := by
  have H := hide h
  have K := hide k
  obtain ⟨mf1, mn1, ms1, vch1, lf1, h⟩ := h
  obtain ⟨mf2, mn2, ms2, vch2, lf2, k⟩ := k
  obtain ⟨A1, c1, rfl, _⟩ := h.chs.form
  obtain ⟨A2, c2, rfl, _⟩ := k.chs.form
  have HN1 := hide h.names
  have HN2 := hide k.names
  have HS1 := hide h.safe
  have HS2 := hide k.safe
  have HC1 := hide h.chs
  have HC2 := hide k.chs
  have C0 : SixAt g1 g2 mn1 ms1 mn2 ms2 A1 S1.changes.length c1 A2 S2.changes.length c2 w := ⟨h.blk.c4, h.blk.c5, h.blk.c6, k.blk.c4, k.blk.c5, k.blk.c6⟩
  have HC0 := hide C0
  have F1 := hide (fun (w1 : World) (hg : w.grownBy w1 none) => sameFiles_any g1 g2 mn1 mn2 S1 S2 S1.names S2.names L1 L2 w1 (H.out.grown hg) (K.out.grown hg) (HN1.out.grown hg (by simp)) (HN2.out.grown hg (by simp)) hv1 hv2)
  have F2 := hide (fun (w1 : World) (hg : w.grownBy w1 none) => sameFiles_any g1 g2 ms1 ms2 S1 S2 S1.safe S2.safe L1 L2 w1 (H.out.grown hg) (K.out.grown hg) (HS1.out.grown hg (by simp)) (HS2.out.grown hg (by simp)) hs1 hs2)
  have F3 := hide (fun (w1 : World) (hg : w.grownBy w1 none) => eqf_ch A1 A2 _ c1 _ c2 S1.changes S2.changes _ _ w1 (HC1.out.grown hg) (HC2.out.grown hg))
  rw [e1] at F1
  rw [e2] at F2
  rw [e3] at F3
  have HG0 := hide (gb_drew (gb_refl w none))
  clear h k e1 e2 e3 hv1 hv2 hs1 hs2
  obtain ⟨a4, a5, a6, b4, b5, b6⟩ := C0
  go_enter Try.func7, Try.ntmps7
  go_wp2
  go_region_held3 (fun w' => w'.cell? ⟨g1, 4, none⟩ = some (.map (some mn1)) ∧ w'.cell? ⟨g1, 5, none⟩ = some (.map (some ms1)) ∧ w'.cell? ⟨g1, 6, none⟩ = some (.slice A1 S1.changes.length c1) ∧ w'.cell? ⟨g2, 4, none⟩ = some (.map (some mn2)) ∧ w'.cell? ⟨g2, 5, none⟩ = some (.map (some ms2)) ∧ w'.cell? ⟨g2, 6, none⟩ = some (.slice A2 S2.changes.length c2))
    (first | exact HC0.out | exact HC1'.out | exact HC2'.out | exact HC3'.out | go_keep)
    (first
    | (go_simp; go_at_call 23; (have _t := HG0); (with_reducible refine (F1.out _ HG0.out).mono ?_); rintro e w1 ⟨rfl, hg⟩; have HG1 := hide (gb_trans HG0.out hg (.inl rfl)); have HC1' := hide (HC0.out.grown HG1.out); clear hg _t HG0)
    | (go_simp; go_at_call 23; (with_reducible refine (F2.out _ HG1.out).mono ?_); rintro e w2 ⟨rfl, hg⟩; have HG2 := hide (gb_trans HG1.out hg (.inl rfl)); have HC2' := hide (HC0.out.grown HG2.out); clear hg HG1)
    | (go_simp; go_at_call 24; (refine (F3.out _ HG2.out).mono ?_); rintro e w3 ⟨rfl, hg⟩; have HG3 := hide (gb_trans HG2.out hg (.inl rfl)); have HC3' := hide (HC0.out.grown HG3.out); clear hg HG2))
  go_wp2
  go_ret
  exact ⟨rfl, HG3.out⟩

end Go.Proofs.Ytccapgcpdehicaa

namespace Go.Proofs.Ytccapgcpdehicaa
open Go.RowKit

def Sw.it : ByteArray := ⟨#[105, 116]⟩
def Sw.aside : ByteArray := ⟨#[105, 116, 46, 110, 101, 119]⟩
def Sw.F (x1 x2 : Option Fl) : Int → Option Fl := fun n => if n = 2 then x2 else if n = 1 then x1 else none
theorem Sw.F2 (x1 x2 : Option Fl) (f : Fl) : (fun m => if m = (2 : Int) then some f else Sw.F x1 x2 m) = Sw.F x1 (some f) := by
  funext m
  unfold Sw.F
  by_cases h : m = 2 <;> simp [h]
theorem Sw.F1 (x1 x2 : Option Fl) (f : Fl) : (fun m => if m = (1 : Int) then some f else Sw.F x1 x2 m) = Sw.F (some f) x2 := by
  funext m
  unfold Sw.F
  by_cases h : m = 1
  · subst h; simp
  · simp [h]
theorem Sw.F_some {x1 x2 : Option Fl} {n : Int} {f : Fl} (h : Sw.F x1 x2 n = some f) : x1 = some f ∨ x2 = some f := by
  unfold Sw.F at h
  split at h
  · exact .inr h
  · split at h
    · exact .inl h
    · cases h

/-- The state behind k of the five operations. -/
def Sw.T (old fresh : List UInt8) (o a : Int) (d : Bool) : Nat → St
  | 0 => ⟨67108864, old.length, 1, o, a, d, Sw.F (some ⟨false, old, old, []⟩) none, [(Sw.it, 1)], [(Sw.it, 1)], []⟩
  | 1 => ⟨67108864, old.length, 2, o, a, d, Sw.F (some ⟨false, old, old, []⟩) (some ⟨false, [], [], []⟩), [(Sw.it, 1), (Sw.aside, 2)], [(Sw.it, 1)], [⟨⟨#[]⟩, Sw.aside, 2⟩]⟩
  | 2 => ⟨67108864, (old.length : Int) + fresh.length, 2, o, a, d, Sw.F (some ⟨false, old, old, []⟩) (some ⟨false, fresh, [], [⟨false, 0, fresh⟩]⟩), [(Sw.it, 1), (Sw.aside, 2)], [(Sw.it, 1)], [⟨⟨#[]⟩, Sw.aside, 2⟩]⟩
  | 3 => ⟨67108864, (old.length : Int) + fresh.length, 2, o, a, d, Sw.F (some ⟨false, old, old, []⟩) (some ⟨false, fresh, fresh, []⟩), [(Sw.it, 1), (Sw.aside, 2)], [(Sw.it, 1)], [⟨⟨#[]⟩, Sw.aside, 2⟩]⟩
  | 4 => ⟨67108864, fresh.length, 2, o, a, d, Sw.F (some ⟨true, old, old, []⟩) (some ⟨false, fresh, fresh, []⟩), [(Sw.it, 2)], [(Sw.it, 1)], [⟨⟨#[]⟩, Sw.aside, 2⟩, ⟨Sw.aside, Sw.it, 0⟩]⟩
  | _ => ⟨67108864, fresh.length, 2, o, a, d, Sw.F none (some ⟨false, fresh, fresh, []⟩), [(Sw.it, 2)], [(Sw.it, 2)], []⟩
/-- What is so behind the j-th: the power is on, and all were done; or it is off, and some were. -/
def Sw.At (old fresh : List UInt8) (j : Nat) (S : St) : Prop :=
  ∃ k o a d, S = Sw.T old fresh o a d k ∧ k ≤ j ∧ (d = false → k = j) ∧ 0 ≤ o ∧ o ≤ 100 + k ∧ a ≤ 9223372036854775807

theorem St.count_on (S : St) : ∃ a d, S.count = { S with ops := S.ops + 1, armed := a, dead := d } ∧ (S.armed ≤ 9223372036854775807 → a ≤ 9223372036854775807) := by
  unfold St.count
  by_cases h : 0 < S.armed
  · rw [if_pos h]
    exact ⟨_, _, rfl, fun _ => by omega⟩
  · rw [if_neg h]
    exact ⟨S.armed, S.dead, rfl, id⟩

theorem Sw.fine_of (S : St) (x1 x2 : Option Fl) (hS : S.files = Sw.F x1 x2) (h1 : ∀ f, x1 = some f ∨ x2 = some f → f.bytes.length ≤ 40000 ∧ f.safe.length ≤ 40000 ∧ f.waits.length ≤ 10)
    (hu : 0 ≤ S.used ∧ S.used ≤ 100000) (hop : 0 ≤ S.ops ∧ S.ops ≤ 200) (ha : S.armed ≤ 9223372036854775807) (hl : 0 ≤ S.last ∧ S.last ≤ 100) (hc : S.changes.length ≤ 100) : Fine S :=
  ⟨by omega, by omega, ha, by omega, by omega, fun n f h => by
    rw [hS] at h
    have := h1 f (Sw.F_some h)
    omega⟩
theorem Sw.fine {old fresh : List UInt8} (ho : old.length ≤ 20000) (hf : fresh.length ≤ 20000) (o a : Int) (d : Bool) (k : Nat) (h0 : 0 ≤ o ∧ o ≤ 200) (ha : a ≤ 9223372036854775807) : Fine (Sw.T old fresh o a d k) := by
  have hq : ∀ (x1 x2 : Option Fl) (f1 f2 : Fl), x1 = some f1 → x2 = some f2 → (f1.bytes.length ≤ 40000 ∧ f1.safe.length ≤ 40000 ∧ f1.waits.length ≤ 10) → (f2.bytes.length ≤ 40000 ∧ f2.safe.length ≤ 40000 ∧ f2.waits.length ≤ 10) →
      ∀ f : Fl, x1 = some f ∨ x2 = some f → f.bytes.length ≤ 40000 ∧ f.safe.length ≤ 40000 ∧ f.waits.length ≤ 10 := by
    rintro x1 x2 f1 f2 rfl rfl h1 h2 f (h | h) <;> injection h with h <;> subst h <;> assumption
  match k with
  | 0 => exact Sw.fine_of _ _ _ rfl (by rintro f (h | h) <;> cases h; simp; omega) (by simp [Sw.T]; omega) (by simpa [Sw.T] using h0) ha (by simp [Sw.T]) (by simp [Sw.T])
  | 1 => exact Sw.fine_of _ _ _ rfl (hq _ _ _ _ rfl rfl (by simp; omega) (by simp)) (by simp [Sw.T]; omega) (by simpa [Sw.T] using h0) ha (by simp [Sw.T]) (by simp [Sw.T])
  | 2 => exact Sw.fine_of _ _ _ rfl (hq _ _ _ _ rfl rfl (by simp; omega) (by simp; omega)) (by simp [Sw.T]; omega) (by simpa [Sw.T] using h0) ha (by simp [Sw.T]) (by simp [Sw.T])
  | 3 => exact Sw.fine_of _ _ _ rfl (hq _ _ _ _ rfl rfl (by simp; omega) (by simp; omega)) (by simp [Sw.T]; omega) (by simpa [Sw.T] using h0) ha (by simp [Sw.T]) (by simp [Sw.T])
  | 4 => exact Sw.fine_of _ _ _ rfl (hq _ _ _ _ rfl rfl (by simp; omega) (by simp; omega)) (by simp [Sw.T]; omega) (by simpa [Sw.T] using h0) ha (by simp [Sw.T]) (by simp [Sw.T])
  | _ + 5 => exact Sw.fine_of _ _ _ rfl (by rintro f (h | h) <;> cases h; simp; omega) (by simp [Sw.T]; omega) (by simpa [Sw.T] using h0) ha (by simp [Sw.T]) (by simp [Sw.T])

theorem Sw.create_is (old fresh : List UInt8) (o a : Int) : ∃ a' d', (Sw.T old fresh o a false 0).created Sw.aside = Sw.T old fresh (o + 1) a' d' 1 ∧ (a ≤ 9223372036854775807 → a' ≤ 9223372036854775807) := by
  obtain ⟨a', d', e, h⟩ := St.count_on (({ Sw.T old fresh o a false 0 with last := 1 + 1, names := [(Sw.it, 1), (Sw.aside, 2)], changes := [⟨⟨#[]⟩, Sw.aside, 2⟩] } : St).setFile 2 ⟨false, [], [], []⟩)
  refine ⟨a', d', ?_, h⟩
  have e1 : (Sw.T old fresh o a false 0).created Sw.aside = (({ Sw.T old fresh o a false 0 with last := 1 + 1, names := [(Sw.it, 1), (Sw.aside, 2)], changes := [⟨⟨#[]⟩, Sw.aside, 2⟩] } : St).setFile 2 ⟨false, [], [], []⟩).count := rfl
  rw [e1, e]
  unfold St.setFile Sw.T
  simp only [Sw.F2]
  rfl
theorem Sw.append_is (old fresh : List UInt8) (o a : Int) : ∃ a' d', (Sw.T old fresh o a false 1).wrote 2 ⟨false, [], [], []⟩ ⟨false, 0, fresh⟩ = Sw.T old fresh (o + 1) a' d' 2 ∧ (a ≤ 9223372036854775807 → a' ≤ 9223372036854775807) := by
  obtain ⟨a', d', e, h⟩ := St.count_on (({ Sw.T old fresh o a false 1 with used := (old.length : Int) + fresh.length } : St).setFile 2 ⟨false, fresh, [], [⟨false, 0, fresh⟩]⟩)
  refine ⟨a', d', ?_, h⟩
  have e0 : doW [] ⟨false, 0, fresh⟩ = fresh := by simp [doW]
  have e1 : (Sw.T old fresh o a false 1).wrote 2 ⟨false, [], [], []⟩ ⟨false, 0, fresh⟩ = (({ Sw.T old fresh o a false 1 with used := (old.length : Int) + fresh.length } : St).setFile 2 ⟨false, fresh, [], [⟨false, 0, fresh⟩]⟩).count := by
    unfold St.wrote
    simp only [e0]
    have : (Sw.T old fresh o a false 1).used - (([] : List UInt8).length : Int) + (fresh.length : Int) = (old.length : Int) + fresh.length := by simp [Sw.T]
    rw [this]
    rfl
  rw [e1, e]
  unfold St.setFile Sw.T
  simp only [Sw.F2]
theorem Sw.sync_is (old fresh : List UInt8) (o a : Int) : ∃ a' d', (Sw.T old fresh o a false 2).synced 2 ⟨false, fresh, [], [⟨false, 0, fresh⟩]⟩ = Sw.T old fresh (o + 1) a' d' 3 ∧ (a ≤ 9223372036854775807 → a' ≤ 9223372036854775807) := by
  obtain ⟨a', d', e, h⟩ := St.count_on ((Sw.T old fresh o a false 2).setFile 2 ⟨false, fresh, fresh, []⟩)
  refine ⟨a', d', ?_, h⟩
  unfold St.synced
  rw [e]
  unfold St.setFile Sw.T
  simp only [Sw.F2]
theorem Sw.follow_is : followL [(Sw.it, 1), (Sw.aside, 2)] ⟨Sw.aside, Sw.it, 0⟩ = ([(Sw.it, 2)], 1) := by decide
theorem Sw.rename_is (old fresh : List UInt8) (o a : Int) : ∃ a' d', (Sw.T old fresh o a false 3).did ⟨Sw.aside, Sw.it, 0⟩ = Sw.T old fresh (o + 1) a' d' 4 ∧ (a ≤ 9223372036854775807 → a' ≤ 9223372036854775807) := by
  have e1 := St.did_lose (S := Sw.T old fresh o a false 3) (c := ⟨Sw.aside, Sw.it, 0⟩) (n := 1) (f := ⟨false, old, old, []⟩) (by show (followL [(Sw.it, 1), (Sw.aside, 2)] ⟨Sw.aside, Sw.it, 0⟩).2 = 1; rw [Sw.follow_is]) (by decide) rfl
  obtain ⟨a', d', e, h⟩ := St.count_on ({ (({ Sw.T old fresh o a false 3 with used := (Sw.T old fresh o a false 3).used - ((⟨false, old, old, []⟩ : Fl).bytes.length : Int) } : St).setFile ((1 : Nat) : Int) { (⟨false, old, old, []⟩ : Fl) with gone := true }) with names := (followL (Sw.T old fresh o a false 3).names ⟨Sw.aside, Sw.it, 0⟩).1, changes := (Sw.T old fresh o a false 3).changes ++ [⟨Sw.aside, Sw.it, 0⟩] } : St)
  refine ⟨a', d', ?_, h⟩
  rw [e1, e]
  have e2 : (followL (Sw.T old fresh o a false 3).names ⟨Sw.aside, Sw.it, 0⟩).1 = [(Sw.it, 2)] := by show (followL [(Sw.it, 1), (Sw.aside, 2)] ⟨Sw.aside, Sw.it, 0⟩).1 = _; rw [Sw.follow_is]
  have e3 : (Sw.T old fresh o a false 3).used - ((⟨false, old, old, []⟩ : Fl).bytes.length : Int) = (fresh.length : Int) := by simp [Sw.T]; omega
  rw [e2, e3]
  unfold St.setFile Sw.T
  simp only [show ((1 : Nat) : Int) = 1 from rfl, Sw.F1]
  rfl
theorem Sw.settle_is (old fresh : List UInt8) (o a : Int) : ∃ a' d', ((Sw.T old fresh o a false 4).settled (Sw.T old fresh o a false 4).names).count = Sw.T old fresh (o + 1) a' d' 5 ∧ (a ≤ 9223372036854775807 → a' ≤ 9223372036854775807) := by
  obtain ⟨a', d', e, h⟩ := St.count_on ((Sw.T old fresh o a false 4).settled (Sw.T old fresh o a false 4).names)
  refine ⟨a', d', ?_, h⟩
  rw [e]
  have ef : ((Sw.T old fresh o a false 4).settled (Sw.T old fresh o a false 4).names).files = Sw.F none (some ⟨false, fresh, fresh, []⟩) := by
    funext n
    show (if ∃ x ∈ ([(Sw.it, 2)] : List (ByteArray × Nat)), (x.2 : Int) = n then Sw.F (some ⟨true, old, old, []⟩) (some ⟨false, fresh, fresh, []⟩) n else none) = _
    unfold Sw.F
    by_cases hn : n = 2
    · subst hn; simp
    · have hn' : ¬ (2 : Int) = n := fun e => hn e.symm
      simp [hn, hn']
  unfold St.settled at ef ⊢
  simp only at ef ⊢
  rw [ef]
  rfl

end Go.Proofs.Ytccapgcpdehicaa
