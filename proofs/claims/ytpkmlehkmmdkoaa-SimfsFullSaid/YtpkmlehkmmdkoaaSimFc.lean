/-
  Acts in memory, and how many of them and of their bytes there are.
-/
import Derived.Test.YtpkmlehkmmdkoaaSimFb
namespace Go.Proofs.Ytpkmlehkmmdkoaa
open Go.RowKit

/-- An act, and where its parts lie. -/
structure AcV where
  kind : Int
  a : ByteArray
  b : ByteArray
  file : Int
  pos : Int
  n : Int
  dA : Option Addr
  dc : Nat
  d : List UInt8
  dir : Int
  tA : Option Addr
  tn : Nat
  tc : Nat
def AcV.cells (x : AcV) : List Value := [.int .i64 x.kind, .string x.a, .string x.b, .int .i64 x.file, .int .i64 x.pos, .int .i64 x.n, .slice x.dA x.d.length x.dc, .int .i64 x.dir, .slice x.tA x.tn x.tc]
def acells (l : List AcV) : List Value := l.flatMap AcV.cells
theorem acells_at (l : List AcV) (i : Nat) (h : i < l.length) (k : Nat) (hk : k < 9) : (acells l)[i * 9 + k]? = l[i].cells[k]? := by
  induction l generalizing i with
  | nil => simp at h
  | cons x l ih =>
    have e : acells (x :: l) = x.cells ++ acells l := rfl
    have hx : x.cells.length = 9 := rfl
    cases i with
    | zero =>
      rw [e, Nat.zero_mul, Nat.zero_add, List.getElem?_append_left (by omega)]
      rfl
    | succ i =>
      rw [e, List.getElem?_append_right (by omega), show (i + 1) * 9 + k - x.cells.length = i * 9 + k by omega, ih i (by simpa using h)]
      rfl
theorem acells_ne {l : List AcV} (h : 0 < l.length) : acells l ≠ [] := by
  cases l with
  | nil => simp at h
  | cons x l => simp [acells, AcV.cells]
/-- No part takes more than the reach. -/
structure AcV.Small (x : AcV) : Prop where
  a : x.a.size ≤ 140737488351232
  b : x.b.size ≤ 140737488351232
  d : x.d.length ≤ 140737488351232
  t : x.tn ≤ 140737488351232
def AcV.wt (x : AcV) : Nat := x.d.length + x.a.size + x.b.size + x.tn
def wsum (l : List AcV) : Nat := (l.map AcV.wt).sum
theorem wsum_step (l : List AcV) (j : Nat) (h : j < l.length) : wsum (l.take (j + 1)) = wsum (l.take j) + l[j].d.length + l[j].a.size + l[j].b.size + l[j].tn := by
  unfold wsum
  rw [List.take_succ_eq_append_getElem h, List.map_append, List.sum_append]
  simp [AcV.wt]
  omega
theorem wsum_le (l : List AcV) (hs : ∀ x ∈ l, x.Small) : wsum l ≤ l.length * 562949953404928 := by
  induction l with
  | nil => simp [wsum]
  | cons x l ih =>
    have h1 := ih fun y hy => hs y (by simp [hy])
    obtain ⟨a, b, c, d⟩ := hs x (by simp)
    have e : wsum (x :: l) = x.wt + wsum l := by simp [wsum]
    rw [e, List.length_cons, Nat.add_mul]
    unfold AcV.wt
    omega
theorem wsum_mem {l : List AcV} {x : AcV} (h : x ∈ l) : x.d.length ≤ wsum l := by
  induction l with
  | nil => cases h
  | cons y l ih =>
    have e : wsum (y :: l) = y.wt + wsum l := by simp [wsum]
    rw [e]
    rcases List.mem_cons.1 h with rfl | h
    · unfold AcV.wt; omega
    · have := ih h; omega

/-- The cells of an act. -/
structure AcAt (w : World) (b o : Nat) (x : AcV) : Prop where
  c0 : w.cell? ⟨b, o, none⟩ = some (.int .i64 x.kind)
  c1 : w.cell? ⟨b, o + 1, none⟩ = some (.string x.a)
  c2 : w.cell? ⟨b, o + 2, none⟩ = some (.string x.b)
  c3 : w.cell? ⟨b, o + 3, none⟩ = some (.int .i64 x.file)
  c4 : w.cell? ⟨b, o + 4, none⟩ = some (.int .i64 x.pos)
  c5 : w.cell? ⟨b, o + 5, none⟩ = some (.int .i64 x.n)
  c6 : w.cell? ⟨b, o + 6, none⟩ = some (.slice x.dA x.d.length x.dc)
  c7 : w.cell? ⟨b, o + 7, none⟩ = some (.int .i64 x.dir)
  c8 : w.cell? ⟨b, o + 8, none⟩ = some (.slice x.tA x.tn x.tc)
theorem Rd.act {w : World} {B : Nat} {A : Option Addr} {l : List AcV} (h : Rd w B A (acells l)) {i : Nat} (hi : i < l.length) : ∃ b o, A = some ⟨b, o, none⟩ ∧ b < B ∧ AcAt w b (o + i * 9) l[i] := by
  obtain ⟨b, o, hA, hb, hc⟩ := h.lay (acells_ne (by omega))
  have hk : ∀ k u, k < 9 → l[i].cells[k]? = some u → w.cell? ⟨b, o + i * 9 + k, none⟩ = some u := fun k u hk hu => by
    rw [Nat.add_assoc]
    exact hc _ _ ((acells_at l i hi k hk).trans hu)
  exact ⟨b, o, hA, hb, hk 0 _ (by omega) rfl, hk 1 _ (by omega) rfl, hk 2 _ (by omega) rfl, hk 3 _ (by omega) rfl, hk 4 _ (by omega) rfl, hk 5 _ (by omega) rfl, hk 6 _ (by omega) rfl, hk 7 _ (by omega) rfl, hk 8 _ (by omega) rfl⟩
theorem AcAt.grown {w w' : World} {b o : Nat} {x : AcV} (h : AcAt w b o x) (hg : w.grownBy w' none) : AcAt w' b o x :=
  ⟨cell_grown h.c0 hg, cell_grown h.c1 hg, cell_grown h.c2 hg, cell_grown h.c3 hg, cell_grown h.c4 hg, cell_grown h.c5 hg, cell_grown h.c6 hg, cell_grown h.c7 hg, cell_grown h.c8 hg⟩

def longB (l : List AcV) : Bool := decide (60 < l.length) || decide (20000 < wsum l)
theorem longB_no {l : List AcV} (h : longB l = false) : l.length ≤ 60 ∧ ∀ x ∈ l, x.d.length ≤ 20000 := by
  unfold longB at h
  simp only [Bool.or_eq_false_iff, decide_eq_false_iff_not] at h
  exact ⟨by omega, fun x hx => by have := wsum_mem hx; omega⟩
def LongPost (l : List AcV) (w : World) (e : Ending) (w' : World) : Prop := e = .returned (.bool (longB l)) ∧ w.grownBy w' none
set_option maxHeartbeats 4000000 in
set_option maxRecDepth 100000 in
theorem long_any (A : Option Addr) (c B : Nat) (l : List AcV) (w : World) (h : Rd w B A (acells l)) (hsz : ∀ x ∈ l, x.Small) (hm : l.length ≤ 9223372036854775807) :
    Calls Try.prog 7 #[.slice A l.length c] w (LongPost l w) := by
  have H := hide h
  have HS := hide hsz
  clear h hsz
  go_enter Try.func7, Try.ntmps7
  go_wp2
  go_loopw [3, 4] (fun n i wr => ∃ (s j : Nat), n = .int .i64 (s : Int) ∧ i = .int .i64 (j : Int) ∧ j ≤ l.length ∧ j ≤ 61 ∧ s = wsum (l.take j) ∧ w.grownBy wr none) (fun _ i _ => l.length - (intOf i).toNat)
  case atStart => exact ⟨0, 0, rfl, rfl, Nat.zero_le _, by omega, by simp [wsum], gb_refl w none⟩
  case round =>
    obtain ⟨s, j, rfl, rfl, hj, hj2, hs, hg⟩ := hrel
    have HSE := hide hs
    have HG := hide hg
    have hs9 : s ≤ 61 * 562949953404928 := by
      rw [hs]
      refine Nat.le_trans (wsum_le _ fun x hx => HS.out x (List.mem_of_mem_take hx)) ?_
      rw [List.length_take]
      exact Nat.mul_le_mul_right _ (by omega)
    have HS9 := hide hs9
    clear hs hg hs9
    by_cases hlt : j < l.length
    · by_cases h60 : j ≤ 60
      · have hlt1 : (j : Int) < (l.length : Int) := by omega
        have h601 : (j : Int) ≤ 60 := by omega
        obtain ⟨b, o, rfl, hbB, hac⟩ := H.out.act hlt
        have hac := hac.grown HG.out
        have d1 := hac.c1
        have d2 := hac.c2
        have d6 := hac.c6
        have d8 : wr.cell? ⟨b, o + j * 9 + 7 + 1, none⟩ = some (.slice l[j].tA l[j].tn l[j].tc) := hac.c8
        obtain ⟨k1, k2, k3, k4⟩ := HS.out l[j] (List.getElem_mem hlt)
        have hst := wsum_step l j hlt
        rw [← HSE.out] at hst
        have HST := hide hst
        clear hac hst
        generalize l[j].a = xa at *
        generalize l[j].b = xb at *
        generalize l[j].d.length = xd at *
        generalize l[j].tn = xt at *
        have s9 := HS9.out
        have f1 : IntKind.i64.wrap ((s : Int) + (xd : Int)) = (s : Int) + (xd : Int) := by rw [IntKind.wrap_i64]; omega
        have f2 : IntKind.i64.wrap ((s : Int) + (xd : Int) + (xa.size : Int)) = (s : Int) + (xd : Int) + (xa.size : Int) := by rw [IntKind.wrap_i64]; omega
        have f3 : IntKind.i64.wrap ((s : Int) + (xd : Int) + (xa.size : Int) + (xb.size : Int)) = (s : Int) + (xd : Int) + (xa.size : Int) + (xb.size : Int) := by rw [IntKind.wrap_i64]; omega
        have f4 : IntKind.i64.wrap ((s : Int) + (xd : Int) + (xa.size : Int) + (xb.size : Int) + (xt : Int)) = (s : Int) + (xd : Int) + (xa.size : Int) + (xb.size : Int) + (xt : Int) := by rw [IntKind.wrap_i64]; omega
        clear s9 k1 k2 k3 k4
        go_wp2_with fail
        go_quiet (fail)
        go_wp2_with fail
        go_roundw
        case rel =>
          have hst := HST.out
          refine ⟨s + xd + xa.size + xb.size + xt, j + 1, by go_num, by go_num, by omega, by omega, hst.symm, ?_⟩
          first | exact gb_drewN HG.out _ | exact HG.out
        case measure => simp [intOf]; omega
      · have h601 : ¬ (j : Int) ≤ 60 := by omega
        have hlt1 : (j : Int) < (l.length : Int) := by omega
        have h6 : (60 : Int) < (l.length : Int) := by omega
        have HB := hide (show longB l = true by unfold longB; simp; omega)
        go_wp2_with fail
        go_ret
        exact ⟨by rw [HB.out]; rfl, HG.out⟩
    · have hlt1 : ¬ (j : Int) < (l.length : Int) := by omega
      have hje : j = l.length := by omega
      have hse : s = wsum l := by rw [HSE.out, hje, List.take_length]
      by_cases h6 : (60 : Int) < (l.length : Int)
      · have HB := hide (show longB l = true by unfold longB; simp; omega)
        clear hse hje
        go_wp2_with fail
        go_ret
        exact ⟨by rw [HB.out]; rfl, HG.out⟩
      · by_cases h2 : (20000 : Int) < (s : Int)
        · have HB := hide (show longB l = true by unfold longB; simp; omega)
          clear hse hje
          go_wp2_with fail
          go_ret
          exact ⟨by rw [HB.out]; rfl, HG.out⟩
        · have HB := hide (show longB l = false by unfold longB; simp; omega)
          clear hse hje
          go_wp2_with fail
          go_ret
          exact ⟨by rw [HB.out]; rfl, HG.out⟩
end Go.Proofs.Ytpkmlehkmmdkoaa
