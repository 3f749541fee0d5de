/-
  The six pairs of calls of VecOnes: the program and the document answer the same of checked values.
-/
import Derived.Test.YtbmgodmfpoappaaGreatQUg
import Derived.Test.YtbmgodmfpoappaaGreatQUk
import Derived.Test.YtbmgodmfpoappaaGreatQOf
import Derived.Test.YtbmgodmfpoappaaGreatQOm
import Derived.Test.YtbmgodmfpoappaaGreatQKr
import Derived.Test.YtbmgodmfpoappaaGreatQOe
import Derived.Test.YtbmgodmfpoappaaGreatQKs
namespace Go.Proofs.YtbmgodmfpoappaaGreat
open Go.RowKit
theorem rFlat_iff (t : Int) : rFlat t = true ↔ (-5 ≤ t ∧ t < 0) ∨ (1 ≤ t ∧ t ≤ 5) := by
 unfold rFlat rAtom rVec
 simp only [Bool.or_eq_true, Bool.and_eq_true, decide_eq_true_eq]
 omega
theorem hasN_iff (t : Int) : hasN t = true ↔ t = 1 ∨ t = 2 ∨ t = 4 ∨ t = 5 ∨ t = -1 ∨ t = -2 ∨ t = -4 ∨ t = -5 := by
 unfold hasN
 simp only [Bool.or_eq_true, beq_iff_eq]
 omega
theorem own_of_check {v : Vl} (h : checkV v = 0) : ownV v = 0 := by
 have hf : faultsV v = 0 := by
  unfold checkV at h
  by_cases h0 : faultsV v = 0
  ·exact h0
  ·rw [if_neg h0] at h; exact h
 exact own_zero hf
theorem check_low {v : Vl} (h : checkV v = 0) : -1000 ≤ v.t ∧ v.t ≤ 1000 := by
 obtain ⟨h1, _⟩ := own_parts (own_of_check h)
 unfold fieldsOk fieldsT at h1
 by_cases a1 : -1000 ≤ v.t ∧ v.t ≤ 1000
 ·exact a1
 ·have hr : rAbs v.t = v.t := by unfold rAbs; rw [if_neg (by omega)]
  rw [hr, if_neg (by omega), if_neg (by omega), if_neg (by omega), if_neg (by omega), if_neg (by omega)] at h1
  simp at h1
  omega
theorem kind_none {t : Int} (h : rFlat t = false) (s n : Nat) : kindO t s n = 0 := by
 have hn : ¬ ((-5 ≤ t ∧ t < 0) ∨ (1 ≤ t ∧ t ≤ 5)) := fun h2 => by rw [(rFlat_iff t).2 h2] at h; cases h
 have hh : ¬ hasN t = true := fun h2 => by have := (hasN_iff t).1 h2; omega
 unfold kindO
 rw [if_neg (by omega), if_neg (fun h2 => hh h2.1)]
theorem kind_flat {v : Vl} (hck : checkV v = 0) (h : rFlat v.t = true) : kindO v.t v.s.length v.n.length = rkd v.t := by
 obtain ⟨h1, _, _, h4, _⟩ := own_parts (own_of_check hck)
 obtain ⟨p1, _⟩ := plain_of h4
 have hr := (rFlat_iff v.t).1 h
 unfold kindO rkd
 by_cases h3 : v.t = 3
 ·rw [if_pos (.inl h3), if_neg (by omega), h3]
 by_cases h3' : v.t = -3
 ·have hs : v.s.length = 1 := by
   have := p1 (by rw [h3']; rfl)
   rw [(fields_sym h1 (.inr h3')).1] at this
   simpa using this
  rw [if_pos (.inr ⟨h3', hs⟩), if_pos (by omega)]
  omega
 have hN : hasN v.t = true := (hasN_iff v.t).2 (by omega)
 by_cases h0 : v.t < 0
 ·have hl : v.n.length = 1 := by
   have := p1 (by unfold rAtom; rw [decide_eq_true h0, decide_eq_true (by omega : -5 ≤ v.t)]; rfl)
   rw [(fields_num h1 ((hasN_iff v.t).1 hN)).1] at this
   simpa using this
  rw [if_neg (by omega), if_pos ⟨hN, .inr hl⟩, if_pos h0]
  omega
 ·rw [if_neg (by omega), if_pos ⟨hN, .inl (by omega)⟩, if_neg h0]
  omega
theorem bool_bits {v : Vl} (hck : checkV v = 0) (h : rAbs v.t = 1) : ∀ x ∈ v.n, x = 0 ∨ x = 1 := by
 obtain ⟨_, _, _, h4, _⟩ := own_parts (own_of_check hck)
 obtain ⟨_, _, _, _, p5, _⟩ := plain_of h4
 intro x hx
 have := List.all_eq_true.1 (p5 h) x hx
 simp only [Bool.or_eq_true, decide_eq_true_eq] at this
 exact this
theorem abs_one {t : Int} (h : rkd t = 1) : rAbs t = 1 := by
 unfold rkd at h
 unfold rAbs
 by_cases h0 : t < 0
 ·rw [if_pos h0] at h
  rw [if_pos (by omega)]
  exact h
 ·rw [if_neg h0] at h
  rw [if_neg (by omega)]
  exact h
theorem mk_tot {t : Int} {l : List Int} {v : Vl} (h : l.length = v.n.length) : (Vl.mk t l [] []).tot ≤ v.tot := by
 rw [tot_num, Vl.tot_def v]
 omega
theorem emp_tot2 : emp.tot ≤ 1200000000 := by rw [Vl.tot_def]; decide
def Both (A B : World → (Ending → World → Prop) → Prop) (w : World) : Prop := ∃ (y : Vl) (k : Int), y.tot ≤ 1200000000 ∧ (∀ w2, w.grownBy w2 none → A w2 (AtN y k w2)) ∧ (∀ w2, w.grownBy w2 none → B w2 (AtN y k w2))
section
variable (v : Vl) (w : World) (nA : Option Addr) (nc : Nat) (sA : Option Addr) (sc : Nat) (lA : Option Addr) (lc : Nat)
theorem both_neg (hck : checkV v = 0) (ht : v.tot ≤ 1048576) (h : VB w w.heap.size v nA nc sA sc lA lc) :
  Both (Calls Tryz.prog 6 #[.agg #[.int .i64 v.t, .slice nA v.n.length nc, .slice sA v.s.length sc, .slice lA v.l.length lc]]) (Calls Tryz.prog 7 #[.agg #[.int .i64 v.t, .slice nA v.n.length nc, .slice sA v.s.length sc, .slice lA v.l.length lc]]) w := by
 have hlow := (check_low hck).1
 have ht2 : v.tot ≤ 1200000000 := by omega
 have hv : ∀ w2, w.grownBy w2 none → VB w2 w.heap.size v nA nc sA sc lA lc := fun w2 k => h.gb k (Nat.le_refl _)
 by_cases hf : rFlat v.t = true
 ·have hk := kind_flat hck hf
  by_cases h1 : rkd v.t = 1
  ·exact ⟨_, 0, Nat.le_trans (mk_tot (by rw [List.length_map])) ht2, fun w2 k => (vNeg_bool v w2 w.heap.size nA nc sA sc lA lc (by rw [hk, h1]) ht2 k.size (hv w2 k)).mono fun _ _ q => NewE.at q,
    fun w2 k => (rNeg_2 v w2 w.heap.size nA nc sA sc lA lc ⟨hf, by rw [h1]; rfl⟩ ht2 k.size (hv w2 k)).mono fun _ _ q => NewE.at q⟩
  by_cases h2 : rkd v.t = 2
  ·exact ⟨_, 0, Nat.le_trans (mk_tot (by rw [List.length_map])) ht2, fun w2 k => (vNeg_int v w2 w.heap.size nA nc sA sc lA lc (by rw [hk, h2]) ht2 k.size (hv w2 k)).mono fun _ _ q => NewE.at q,
    fun w2 k => (rNeg_2 v w2 w.heap.size nA nc sA sc lA lc ⟨hf, by rw [h2]; rfl⟩ ht2 k.size (hv w2 k)).mono fun _ _ q => NewE.at q⟩
  by_cases h5 : rkd v.t = 5
  ·exact ⟨_, 0, Nat.le_trans (mk_tot (by rw [List.length_map])) ht2, fun w2 k => (vNeg_dec v w2 w.heap.size nA nc sA sc lA lc (by rw [hk, h5]) ht2 k.size (hv w2 k)).mono fun _ _ q => NewE.at q,
    fun w2 k => (rNeg_5 v w2 w.heap.size nA nc sA sc lA lc ⟨hf, by rw [h5]; rfl⟩ ht2 k.size (hv w2 k)).mono fun _ _ q => NewE.at q⟩
  ·exact ⟨emp, 31, emp_tot2, fun w2 _ => (vNeg_no v w2 nA nc sA sc lA lc (by rw [hk]; exact ⟨h1, h2, h5⟩)).mono fun _ _ q => ErrV.at q,
    fun w2 _ => (rNeg_no v w2 nA nc sA sc lA lc hlow (.inr (by unfold plT; rw [if_neg h1]; exact ⟨h2, h5⟩))).mono fun _ _ q => ErrV.at q⟩
 ·have hf : rFlat v.t = false := by simpa using hf
  have hk := kind_none hf v.s.length v.n.length
  exact ⟨emp, 31, emp_tot2, fun w2 _ => (vNeg_no v w2 nA nc sA sc lA lc (by rw [hk]; decide)).mono fun _ _ q => ErrV.at q,
   fun w2 _ => (rNeg_no v w2 nA nc sA sc lA lc hlow (.inl hf)).mono fun _ _ q => ErrV.at q⟩
theorem both_not (ht : v.tot ≤ 1048576) (h : VB w w.heap.size v nA nc sA sc lA lc) :
  Both (Calls Tryz.prog 10 #[.agg #[.int .i64 v.t, .slice nA v.n.length nc, .slice sA v.s.length sc, .slice lA v.l.length lc]]) (Calls Tryz.prog 11 #[.agg #[.int .i64 v.t, .slice nA v.n.length nc, .slice sA v.s.length sc, .slice lA v.l.length lc]]) w := by
 have ht2 : v.tot ≤ 1200000000 := by omega
 have hv : ∀ w2, w.grownBy w2 none → VB w2 w.heap.size v nA nc sA sc lA lc := fun w2 k => h.gb k (Nat.le_refl _)
 cases hs : hasN v.t
 ·exact ⟨emp, 31, emp_tot2, fun w2 _ => (vNot_no v w2 nA nc sA sc lA lc hs).mono fun _ _ q => ErrV.at q, fun w2 _ => (rNot_no v w2 nA nc sA sc lA lc hs).mono fun _ _ q => ErrV.at q⟩
 ·exact ⟨_, 0, Nat.le_trans (mk_tot (by rw [List.length_map])) ht2, fun w2 k => (vNot_in v w2 w.heap.size nA nc sA sc lA lc hs ht2 k.size (hv w2 k)).mono fun _ _ q => NewE.at q,
   fun w2 k => (rNot_in v w2 w.heap.size nA nc sA sc lA lc hs ht2 k.size (hv w2 k)).mono fun _ _ q => NewE.at q⟩
theorem rowI_len (a : Int) (m : Nat) : (rowI a m).length = m := by rw [rowI_eq]; simp
theorem both_til (n : Int) : Both (Calls Tryz.prog 12 #[.int .i64 n]) (Calls Tryz.prog 13 #[.int .i64 n]) w := by
 by_cases h0 : n < 0
 ·exact ⟨emp, 2, emp_tot2, fun w2 _ => (vTil_under n h0 w2).mono fun _ _ q => ErrV.at q, fun w2 _ => (rTil_under n h0 w2).mono fun _ _ q => ErrV.at q⟩
 by_cases h1 : 65536 < n
 ·exact ⟨emp, 6, emp_tot2, fun w2 _ => (vTil_over n h1 w2).mono fun _ _ q => ErrV.at q, fun w2 _ => (rTil_over n h1 w2).mono fun _ _ q => ErrV.at q⟩
 ·obtain ⟨m, rfl⟩ : ∃ m : Nat, n = (m : Int) := ⟨n.toNat, by omega⟩
  exact ⟨_, 0, by rw [tot_num, rowI_len]; omega, fun w2 _ => (vTil_in m (by omega) w2).mono fun _ _ q => NewE.at q, fun w2 _ => (rTil_in m (by omega) w2).mono fun _ _ q => NewE.at q⟩
theorem both_where (ht : v.tot ≤ 1048576) (h : VB w w.heap.size v nA nc sA sc lA lc) :
  Both (Calls Tryz.prog 14 #[.agg #[.int .i64 v.t, .slice nA v.n.length nc, .slice sA v.s.length sc, .slice lA v.l.length lc]]) (Calls Tryz.prog 15 #[.agg #[.int .i64 v.t, .slice nA v.n.length nc, .slice sA v.s.length sc, .slice lA v.l.length lc]]) w := by
 have ht2 : v.tot ≤ 1200000000 := by omega
 have hv : ∀ w2, w.grownBy w2 none → VB w2 w.heap.size v nA nc sA sc lA lc := fun w2 k => h.gb k (Nat.le_refl _)
 by_cases hs : v.t = 1 ∨ v.t = 2
 ·cases hn : v.n.any negB
  ·have hneg : ∀ x ∈ v.n, 0 ≤ x := fun x hx => by
    have := List.any_eq_false.1 hn x hx
    unfold negB at this
    simp at this
    exact this
   by_cases hl : (plW v.n v.n.length).length ≤ 65536
   ·exact ⟨_, 0, by rw [tot_num]; omega, fun w2 k => (vWhere_in v w2 w.heap.size nA nc sA sc lA lc hs hneg hl ht2 k.size (hv w2 k)).mono fun _ _ q => NewE.at q,
     fun w2 k => (rWhere_in v w2 w.heap.size nA nc sA sc lA lc hs hneg hl ht2 k.size (hv w2 k)).mono fun _ _ q => NewE.at q⟩
   ·exact ⟨emp, 6, emp_tot2, fun w2 k => (vWhere_over v w2 w.heap.size nA nc sA sc lA lc hs hneg (by omega) ht2 k.size (hv w2 k)).mono fun _ _ q => ErrV.at q,
     fun w2 k => (rWhere_over v w2 w.heap.size nA nc sA sc lA lc hs hneg (by omega) ht2 k.size (hv w2 k)).mono fun _ _ q => ErrV.at q⟩
  ·exact ⟨emp, 2, emp_tot2, fun w2 k => (vWhere_neg v w2 w.heap.size nA nc sA sc lA lc hs hn ht2 k.size (hv w2 k)).mono fun _ _ q => ErrV.at q,
    fun w2 k => (rWhere_neg v w2 w.heap.size nA nc sA sc lA lc hs hn ht2 k.size (hv w2 k)).mono fun _ _ q => ErrV.at q⟩
 ·have hs2 : v.t ≠ 1 ∧ v.t ≠ 2 := by omega
  exact ⟨emp, 31, emp_tot2, fun w2 _ => (vWhere_no v w2 nA nc sA sc lA lc hs2).mono fun _ _ q => ErrV.at q, fun w2 _ => (rWhere_no v w2 nA nc sA sc lA lc hs2).mono fun _ _ q => ErrV.at q⟩
theorem both_cast (t : Int) (hck : checkV v = 0) (hI : ∀ x ∈ v.n, I64 x) (ht : v.tot ≤ 1048576) (h : VB w w.heap.size v nA nc sA sc lA lc) :
  Both (Calls Tryz.prog 16 #[.int .i64 t, .agg #[.int .i64 v.t, .slice nA v.n.length nc, .slice sA v.s.length sc, .slice lA v.l.length lc]]) (Calls Tryz.prog 17 #[.int .i64 t, .agg #[.int .i64 v.t, .slice nA v.n.length nc, .slice sA v.s.length sc, .slice lA v.l.length lc]]) w := by
 have ht2 : v.tot ≤ 1200000000 := by omega
 have hv : ∀ w2, w.grownBy w2 none → VB w2 w.heap.size v nA nc sA sc lA lc := fun w2 k => h.gb k (Nat.le_refl _)
 by_cases htt : t = 1 ∨ t = 2 ∨ t = 4 ∨ t = 5
 ·have hnt : hasN t = true := (hasN_iff t).2 (by omega)
  cases hs : hasN v.t
  ·exact ⟨emp, 31, emp_tot2, fun w2 _ => (vCast_no t v w2 nA nc sA sc lA lc (by omega) hnt hs).mono fun _ _ q => ErrV.at q, fun w2 _ => (rCast_no t v w2 nA nc sA sc lA lc htt hs).mono fun _ _ q => ErrV.at q⟩
  ·have hN := (hasN_iff v.t).1 hs
   have hf : rFlat v.t = true := (rFlat_iff v.t).2 (by omega)
   have hk := kind_flat hck hf
   have hb : rkd v.t = 1 → ∀ x ∈ v.n, x ≠ -9223372036854775808 := fun h1 x hx => by
    have := bool_bits hck (abs_one h1) x hx
    omega
   refine ⟨mapY (mapO (castD (rkd v.t) t) v.n) (likeT v.t t), mapK (mapO (castD (rkd v.t) t) v.n), ?_, fun w2 k => ?_, fun w2 k => ?_⟩
   ·have h1 := mapY_tot _ (likeT v.t t) (castD (rkd v.t) t) v.n rfl
    have h2 := Vl.tot_def v
    omega
   ·refine vCast_in t v w2 nA nc sA sc lA lc (by omega) hnt hs _ _ (fun w3 k3 => ?_)
    rw [hk]
    have k4 := gb_trans k k3 (.inl rfl)
    exact mapped_cast (rkd v.t) t htt v w3 w.heap.size nA nc sA sc lA lc hI hb ht2 k4.size (hv w3 k4)
   ·exact (rCast_in t v w2 w.heap.size nA nc sA sc lA lc htt hs hI ht2 k.size (hv w2 k)).mono fun _ _ q => MapP.at q
 ·exact ⟨emp, 2, emp_tot2, fun w2 _ => (vCast_arg t v w2 nA nc sA sc lA lc (by
   by_cases h0 : t < 0
   ·exact .inl h0
   ·refine .inr ?_
    cases hq : hasN t
    ·rfl
    ·have := (hasN_iff t).1 hq; omega)).mono fun _ _ q => ErrV.at q,
   fun w2 _ => (rCast_arg t v w2 nA nc sA sc lA lc ⟨by omega, by omega, by omega, by omega⟩).mono fun _ _ q => ErrV.at q⟩
end
theorem sym_size {v : Vl} (hck : checkV v = 0) (ht : v.t ≠ 100) : ∀ s ∈ v.s, s.size ≤ 64 := by
 obtain ⟨_, _, h3, _⟩ := own_parts (own_of_check hck)
 intro s hs
 unfold tooLongV at h3
 rw [if_neg ht] at h3
 have := List.any_eq_false.1 h3 s hs
 unfold longS at this
 simp at this
 omega
theorem chars_fil (q : ByteArray) (hq : q.size ≤ 64) : ∀ l : List ByteArray, Vl.chars (l.map (filS q)) ≤ Vl.chars l + 64 * l.length
 | [] => by simp [Vl.chars]
 | s :: r => by
  have ih := chars_fil q hq r
  unfold Vl.chars at ih ⊢
  simp only [List.map_cons, List.sum_cons, List.length_cons] at ih ⊢
  have : (filS q s).size ≤ s.size + 64 := by
   unfold filS
   split <;> omega
  omega
set_option maxHeartbeats 4000000 in
set_option maxRecDepth 100000 in
theorem both_fill (x v : Vl) (w : World) (xnA : Option Addr) (xnc : Nat) (xsA : Option Addr) (xsc : Nat) (xlA : Option Addr) (xlc : Nat) (nA : Option Addr) (nc : Nat) (sA : Option Addr) (sc : Nat) (lA : Option Addr) (lc : Nat)
  (hck : checkV v = 0) (hcx : checkV x = 0) (ht : v.tot ≤ 1048576) (hx : VB w w.heap.size x xnA xnc xsA xsc xlA xlc) (h : VB w w.heap.size v nA nc sA sc lA lc) :
  Both (Calls Tryz.prog 18 #[.agg #[.int .i64 x.t, .slice xnA x.n.length xnc, .slice xsA x.s.length xsc, .slice xlA x.l.length xlc], .agg #[.int .i64 v.t, .slice nA v.n.length nc, .slice sA v.s.length sc, .slice lA v.l.length lc]])
   (Calls Tryz.prog 19 #[.agg #[.int .i64 x.t, .slice xnA x.n.length xnc, .slice xsA x.s.length xsc, .slice xlA x.l.length xlc], .agg #[.int .i64 v.t, .slice nA v.n.length nc, .slice sA v.s.length sc, .slice lA v.l.length lc]]) w := by
 have hlow := (check_low hck).1
 have hlx := check_low hcx
 have ht2 : v.tot ≤ 1200000000 := by omega
 have hv : ∀ w2, w.grownBy w2 none → VB w2 w.heap.size v nA nc sA sc lA lc := fun w2 k => h.gb k (Nat.le_refl _)
 have hxv : ∀ w2, w.grownBy w2 none → VB w2 w.heap.size x xnA xnc xsA xsc xlA xlc := fun w2 k => hx.gb k (Nat.le_refl _)
 have err : (kindO v.t v.s.length v.n.length = 0 ∨ atomT x.t = false ∨ kindO x.t x.s.length x.n.length ≠ kindO v.t v.s.length v.n.length) → (rFlat v.t = false ∨ rAtom x.t = false ∨ -x.t ≠ rkd v.t) → _ := fun e1 e2 =>
  (⟨emp, 31, emp_tot2, fun w2 _ => (vFill_no x xnA xnc xsA xsc xlA xlc v w2 nA nc sA sc lA lc e1).mono fun _ _ q => ErrV.at q, fun w2 _ => (rFill_no x xnA xnc xsA xsc xlA xlc v w2 nA nc sA sc lA lc hlow hlx e2).mono fun _ _ q => ErrV.at q⟩ :
   Both (Calls Tryz.prog 18 #[.agg #[.int .i64 x.t, .slice xnA x.n.length xnc, .slice xsA x.s.length xsc, .slice xlA x.l.length xlc], .agg #[.int .i64 v.t, .slice nA v.n.length nc, .slice sA v.s.length sc, .slice lA v.l.length lc]])
   (Calls Tryz.prog 19 #[.agg #[.int .i64 x.t, .slice xnA x.n.length xnc, .slice xsA x.s.length xsc, .slice xlA x.l.length xlc], .agg #[.int .i64 v.t, .slice nA v.n.length nc, .slice sA v.s.length sc, .slice lA v.l.length lc]]) w)
 cases hf : rFlat v.t
 ·exact err (.inl (kind_none hf _ _)) (.inl hf)
 cases ha : rAtom x.t
 ·exact err (.inr (.inl (by rw [atom_same]; exact ha))) (.inr (.inl ha))
 have hfx : rFlat x.t = true := by unfold rFlat; rw [ha]; rfl
 have hk := kind_flat hck hf
 have hkx := kind_flat hcx hfx
 have har : -5 ≤ x.t ∧ x.t < 0 := by
  unfold rAtom at ha
  simp only [Bool.and_eq_true, decide_eq_true_eq] at ha
  omega
 have hrx : rkd x.t = -x.t := by unfold rkd; rw [if_pos har.2]
 have hvr := (rFlat_iff v.t).1 hf
 by_cases hkk : -x.t = rkd v.t
 ·have hkn : kindO v.t v.s.length v.n.length ≠ 0 := by rw [hk]; unfold rkd; split <;> omega
  have hkq : kindO x.t x.s.length x.n.length = kindO v.t v.s.length v.n.length := by rw [hk, hkx, hrx, hkk]
  obtain ⟨o1, o2, _, o4, _⟩ := own_parts (own_of_check hck)
  obtain ⟨p1, _, _, _, _, _⟩ := plain_of (own_parts (own_of_check hcx)).2.2.2.1
  obtain ⟨pv, _, _, _, _, _⟩ := plain_of o4
  have hx1 := p1 ha
  by_cases h3 : rkd v.t = 3
  ·-- symbols
   have hv3 : v.t = 3 ∨ v.t = -3 := by unfold rkd at h3; split at h3 <;> omega
   have hx3 : x.t = -3 := by omega
   obtain ⟨en, el⟩ := fields_sym o1 hv3
   have exn := (fields_sym (own_parts (own_of_check hcx)).1 (.inr hx3)).1
   obtain ⟨q, hq⟩ : ∃ q, x.s = [q] := by
    rw [exn] at hx1
    match hxs : x.s with
    | [] => rw [hxs] at hx1; simp at hx1
    | [q] => exact ⟨q, rfl⟩
    | _ :: _ :: _ => rw [hxs] at hx1; simp at hx1
   have hab : rAbs v.t = 3 := by unfold rAbs; rcases hv3 with e | e <;> rw [e] <;> rfl
   have hcnt : v.count = v.s.length := by
    rcases hv3 with e | e
    ·exact count_sym e
    ·have h1 := pv (by rw [e]; rfl)
     rw [en] at h1
     have h2 : v.s.length = 1 := by simpa using h1
     rw [Vl.count_def, if_neg (by omega), if_neg (by omega), if_neg (by omega), if_neg (by omega)]
     omega
   have hq64 : q.size ≤ 64 := sym_size hcx (by omega) q (by rw [hq]; simp)
   refine ⟨.mk v.t [] (v.s.map (filS q)) [], 0, ?_, fun w2 k => ?_, fun w2 k => ?_⟩
   ·have h1 := chars_fil q hq64 v.s
    have h2 := Vl.tot_def v
    rw [Vl.tot_def]
    show 1 + 0 + (v.s.map (filS q)).length + Vl.chars (v.s.map (filS q)) + 0 ≤ _
    rw [List.length_map]
    omega
   ·exact (vFill_sym x xnA xnc xsA xsc xlA xlc v w2 w.heap.size nA nc sA sc lA lc q hq hkn (by rw [hk, h3]) (by rw [atom_same]; exact ha) hkq ht2 k.size (hv w2 k) (hxv w2 k)).mono fun _ _ q => NewE.at q
   ·exact (rFill_sym x xnA xnc xsA xsc xlA xlc v w2 w.heap.size nA nc sA sc lA lc q hq hlow hlx hf ha hkk hab h3 hcnt en el ht2 k.size (hv w2 k) (hxv w2 k)).mono fun _ _ q => NewE.at q
  ·-- numbers
   have hvN : v.t = 1 ∨ v.t = 2 ∨ v.t = 4 ∨ v.t = 5 ∨ v.t = -1 ∨ v.t = -2 ∨ v.t = -4 ∨ v.t = -5 := by unfold rkd at h3; split at h3 <;> omega
   have hxN : x.t = 1 ∨ x.t = 2 ∨ x.t = 4 ∨ x.t = 5 ∨ x.t = -1 ∨ x.t = -2 ∨ x.t = -4 ∨ x.t = -5 := by omega
   obtain ⟨es, el⟩ := fields_num o1 hvN
   have exs := (fields_num (own_parts (own_of_check hcx)).1 hxN).1
   obtain ⟨q, hq⟩ : ∃ q, x.n = [q] := by
    rw [exs] at hx1
    match hxs : x.n with
    | [] => rw [hxs] at hx1; simp at hx1
    | [q] => exact ⟨q, rfl⟩
    | _ :: _ :: _ => rw [hxs] at hx1; simp at hx1
   have hab : rAbs v.t ≠ 3 := by unfold rAbs; split <;> omega
   have hcnt : v.count = v.n.length := by
    by_cases e : v.t < 0
    ·have h1 := pv (by unfold rAtom; rw [decide_eq_true e, decide_eq_true (by omega : -5 ≤ v.t)]; rfl)
     rw [es] at h1
     have h2 : v.n.length = 1 := by simpa using h1
     rw [Vl.count_def, if_neg (by omega), if_neg (by omega), if_neg (by omega), if_neg (by omega)]
     omega
    ·exact count_num (by omega)
   refine ⟨.mk v.t (v.n.map (filI q)) [] [], 0, Nat.le_trans (mk_tot (by rw [List.length_map])) ht2, fun w2 k => ?_, fun w2 k => ?_⟩
   ·exact (vFill_num x xnA xnc xsA xsc xlA xlc v w2 w.heap.size nA nc sA sc lA lc q hq hkn (by rw [hk]; exact h3) (by rw [atom_same]; exact ha) hkq ht2 k.size (hv w2 k) (hxv w2 k)).mono fun _ _ q => NewE.at q
   ·exact (rFill_num x xnA xnc xsA xsc xlA xlc v w2 w.heap.size nA nc sA sc lA lc q hq hlow hlx hf ha hkk (fun h1 y hy => by have := bool_bits hck h1 y hy; omega) hab h3 hcnt es el ht2 k.size (hv w2 k) (hxv w2 k)).mono fun _ _ q => NewE.at q
 ·exact err (.inr (.inr (by rw [hk, hkx, hrx]; exact hkk))) (.inr (.inr hkk))
end Go.Proofs.YtbmgodmfpoappaaGreat
