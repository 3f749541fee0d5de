/-
  Plain facts on good vectors and lists, and on places.
-/
import Derived.Test.YtbmgodmfpoappaaGreatQVAt
import Derived.Deep.QuietTactic
import Derived.BigQuiet
import Derived.Test.YtbmgodmfpoappaaGreatQKm
import Derived.Test.YtbmgodmfpoappaaGreatQKe
import Derived.Test.YtbmgodmfpoappaaGreatQKf
import Derived.Deep.CutBlock
import Derived.Deep.DeepCutAuto
import Derived.Test.YtbmgodmfpoappaaGreatQKk
namespace Go.Proofs.YtbmgodmfpoappaaGreat
open Go.RowKit
structure GbW (w : World) where
 wd : World
 ok : w.grownBy wd none
theorem GbW.cell {w : World} {a : Addr} {u : Value} (h : w.cell? a = some u) (p : GbW w) : p.wd.cell? a = some u := cell_gb h p.ok
end Go.Proofs.YtbmgodmfpoappaaGreat
/- The document's own parts and Check. -/
namespace Go.Proofs.YtbmgodmfpoappaaGreat
open Go.RowKit
attribute [local go_sem ↓] Go.wp_at_zero Go.wp_at_succ
theorem ret_bv {a b : Bool} (h : a = b) : Value.bool a = .bool b := by rw [h]
def evenL (l : List Vl) : Bool := l.all fun x => decide (x.count = Vl.countH l)
def evenV (v : Vl) : Bool := decide (v.t = 0) || evenL v.l
def ownV (v : Vl) : Int := if fieldsOk v = false then 30 else if manyV v = true then 6 else if tooLongV v = true then 1 else if plainV v = false then 30 else if evenV v = false then 32 else 0
def firstE (f : Vl → Int) : List Vl → Int
 | [] => 0
 | x :: r => if f x ≠ 0 then f x else firstE f r
def partsV : Nat → Vl → Int
 | 0, v => ownV v
 | d + 1, v => if ownV v ≠ 0 then ownV v else firstE (partsV d) v.l
theorem partsV_own {d : Nat} {v : Vl} (h : ownV v ≠ 0) : partsV d v = ownV v := by
 cases d with
 | zero => rfl
 | succ d => unfold partsV; rw [if_pos h]
theorem partsV_own' {d : Nat} {v : Vl} {k : Int} (h : ownV v = k) (hk : k ≠ 0) : partsV d v = k := by rw [partsV_own (by rw [h]; exact hk), h]
theorem partsV_zero {v : Vl} (h : ownV v = 0) : partsV 0 v = 0 := h
theorem partsV_succ {d : Nat} {v : Vl} (h : ownV v = 0) : partsV (d + 1) v = firstE (partsV d) v.l := by
 show (if ownV v ≠ 0 then ownV v else firstE (partsV d) v.l) = _
 rw [if_neg (by simp [h])]
theorem firstE_snoc (f : Vl → Int) (l : List Vl) (x : Vl) (h : firstE f l = 0) : firstE f (l ++ [x]) = f x := by
 induction l with
 | nil => simp only [List.nil_append, firstE]; by_cases h : f x = 0 <;> simp [h]
 | cons a r ih =>
  simp only [List.cons_append, firstE] at h ⊢
  by_cases ha : f a = 0
  ·rw [if_neg (by simp [ha])] at h ⊢
   exact ih h
  ·rw [if_pos ha] at h
   exact absurd h ha
theorem firstE_app (f : Vl → Int) (l m : List Vl) (h : firstE f l ≠ 0) : firstE f (l ++ m) = firstE f l := by
 induction l with
 | nil => exact absurd rfl h
 | cons a r ih =>
  simp only [List.cons_append, firstE] at h ⊢
  by_cases ha : f a = 0
  ·rw [if_neg (by simp [ha])] at h ⊢
   rw [if_neg (by simp [ha])]
   exact ih h
  ·rw [if_pos ha, if_pos ha]
theorem firstE_hit (f : Vl → Int) (l : List Vl) (j : Nat) (hj : j < l.length) (h : firstE f (l.take j) = 0) (hx : f l[j] ≠ 0) : firstE f l = f l[j] := by
 have h1 := firstE_snoc f (l.take j) l[j] h
 rw [← List.take_succ_eq_append_getElem hj] at h1
 have h2 := firstE_app f (l.take (j + 1)) (l.drop (j + 1)) (by rw [h1]; exact hx)
 rw [List.take_append_drop, h1] at h2
 exact h2
theorem evenL_no {l : List Vl} {j : Nat} (hj : j < l.length) (h : l[j].count ≠ (l[0]'(by omega)).count) : evenL l = false := by
 unfold evenL
 rw [List.all_eq_false]
 exact ⟨l[j], List.getElem_mem hj, by rw [Vl.countH_at (by omega)]; simpa using h⟩
theorem evenL_yes {l : List Vl} (h : ∀ (j : Nat) (hj : j < l.length), l[j].count = (l[0]'(by omega)).count) : evenL l = true := by
 unfold evenL
 rw [List.all_eq_true]
 intro x hx
 obtain ⟨j, hj, rfl⟩ := List.getElem_of_mem hx
 rw [Vl.countH_at (by omega)]
 simpa using h j hj
theorem chars_mem {l : List ByteArray} {s : ByteArray} (h : s ∈ l) : s.size ≤ Vl.chars l := by
 induction l with
 | nil => cases h
 | cons a r ih =>
  have e : Vl.chars (a :: r) = a.size + Vl.chars r := by simp [Vl.chars]
  rcases List.mem_cons.1 h with rfl | h
  ·omega
  ·have := ih h; omega
theorem size_le_tot {v : Vl} (ht : v.tot ≤ 1200000000) : ∀ s ∈ v.s, s.size ≤ 1200000000 := by
 intro s hs
 have h1 := chars_mem hs
 have := Vl.tot_def v
 omega
def PartsC (d : Nat) : Prop := ∀ (v : Vl) (w : World) (B : Nat) (nA : Option Addr) (nc : Nat) (sA : Option Addr) (sc : Nat) (lA : Option Addr) (lc : Nat), v.tot ≤ 1200000000 → B ≤ w.heap.size → VB w B v nA nc sA sc lA lc →
  Calls Tryz.prog 48 #[.agg #[.int .i64 v.t, .slice nA v.n.length nc, .slice sA v.s.length sc, .slice lA v.l.length lc], .int .i64 (d : Nat)] w fun e w' => e = .returned (.int .i64 (partsV d v)) ∧ w.grownBy w' none
theorem fieldsT_cases (t : Int) : fieldsT t = (false, true, false, true) ∨ fieldsT t = (true, false, false, true) ∨ fieldsT t = (false, false, true, true) ∨ fieldsT t = (false, true, true, true) ∨ fieldsT t = (false, false, false, true) ∨ fieldsT t = (false, false, false, false) := by
 unfold fieldsT
 by_cases h1 : rAbs t = 3
 ·rw [if_pos h1]; simp
 by_cases h2 : t ≠ 0 ∧ 1 ≤ rAbs t ∧ rAbs t ≤ 5
 ·rw [if_neg h1, if_pos h2]; simp
 by_cases h3 : t = 0 ∨ t = 99
 ·rw [if_neg h1, if_neg h2, if_pos h3]; simp
 by_cases h4 : t = 98
 ·rw [if_neg h1, if_neg h2, if_neg h3, if_pos h4]; simp
 by_cases h5 : t = 100
 ·rw [if_neg h1, if_neg h2, if_neg h3, if_neg h4, if_pos h5]; simp
 rw [if_neg h1, if_neg h2, if_neg h3, if_neg h4, if_neg h5]
 by_cases h6 : t = 101 <;> simp [h6]
set_option maxHeartbeats 16000000 in
set_option maxRecDepth 100000 in
theorem parts_of (d : Nat) (hdd : d ≤ 1048576) (IH0 : ∀ d', d = d' + 1 → PartsC d') : PartsC d := by
 intro v w B nA nc sA sc lA lc ht hB h
 obtain ⟨l1, l2, l3, l4⟩ := Vl.lens v ht
 obtain ⟨x, hx⟩ : ∃ x : Int, x = (d : Nat) := ⟨_, rfl⟩
 rw [← hx]
 obtain ⟨wa, hwa⟩ : ∃ wa, wa = w.alloc (.cells #[.int .i64 v.t, .slice nA v.n.length nc, .slice sA v.s.length sc, .slice lA v.l.length lc] 26) := ⟨_, rfl⟩
 have hg : w.grownBy wa none := by rw [hwa]; exact gb_alloc (gb_refl w none) _
 have hc := C4.box w (.int .i64 v.t) (.slice nA v.n.length nc) (.slice sA v.s.length sc) (.slice lA v.l.length lc) 26
 rw [← hwa] at hc
 have b0 : wa.cell? ⟨w.heap.size, 0, none⟩ = some (.int .i64 v.t) := hc.c0
 have b1 : wa.cell? ⟨w.heap.size, 1, none⟩ = some (.slice nA v.n.length nc) := hc.c1
 have b2 : wa.cell? ⟨w.heap.size, 2, none⟩ = some (.slice sA v.s.length sc) := hc.c2
 have b3 : wa.cell? ⟨w.heap.size, 3, none⟩ = some (.slice lA v.l.length lc) := hc.c3
 have HB3 := hide b3
 have HB0 := hide b0
 have hbw := Nat.le_trans hB hg.size
 have hva := h.gb hg hB
 have HV := hide hva
 have HBW := hide hbw
 have HG := hide hg
 have HWE := hide hwa
 have HTT := hide ht
 have IH := hide IH0
 have HFI := hide (fun w2 : World => show Calls Tryz.prog 83 #[.int .i64 v.t] w2 fun e w' => e = .returned (.tuple #[.bool (fieldsT v.t).1, .bool (fieldsT v.t).2.1, .bool (fieldsT v.t).2.2.1, .bool (fieldsT v.t).2.2.2]) ∧ w2 = w' from rFields_any v.t w2)
 have HMA := hide (fun w2 (k : wa.grownBy w2 none) => rMany_any v w2 B nA nc sA sc lA lc ht (Nat.le_trans hbw k.size) (hva.gb k hbw))
 have HLO := hide (fun w2 (k : wa.grownBy w2 none) => rLong_any v w2 B nA nc sA sc lA lc ht (Nat.le_trans hbw k.size) (hva.gb k hbw))
 have HPL := hide (fun w2 (hf : fieldsOk v = true) (k : wa.grownBy w2 none) => rPlain_any v w2 B nA nc sA sc lA lc ht (size_le_tot ht) hf (Nat.le_trans hbw k.size) (hva.gb k hbw))
 have HOV := hide (show ownV v = if fieldsOk v = false then 30 else if manyV v = true then 6 else if tooLongV v = true then 1 else if plainV v = false then 30 else if evenV v = false then 32 else 0 from rfl)
 have HEV := hide (show evenV v = (decide (v.t = 0) || evenL v.l) from rfl)
 have hfo : fieldsOk v = ((fieldsT v.t).2.2.2 && ((fieldsT v.t).1 || decide (v.n.length = 0)) && ((fieldsT v.t).2.1 || decide (v.s.length = 0)) && ((fieldsT v.t).2.2.1 || decide (v.l.length = 0))) := rfl
 have hcs := fieldsT_cases v.t
 clear IH0 ht hB h hg hwa hc hbw hva
 generalize fieldsT v.t = r at *
 go_enter Tryz.func48, Tryz.ntmps48
 go_wp2_with fail
 rw [← HWE.out]
 go_upto_region 2 with (go_at_call 83; refine (HFI.out _).mono ?_; rintro e wq ⟨rfl, rfl⟩)
 go_cut [51] (fun t wc => t = .bool (!fieldsOk v) ∧ wa = wc)
 case first =>
  clear HV HTT IH HMA HLO HPL HOV HEV HFI HWE HB0 HB3
  generalize v.n.length = kn at *
  generalize v.s.length = ks at *
  generalize v.l.length = kl at *
  rcases hcs with rfl | rfl | rfl | rfl | rfl | rfl
  ·by_cases hn : kn = 0
   ·by_cases hl : kl = 0
    ·have HB := hide (show fieldsOk v = true by rw [hfo]; simp [hn, hl])
     clear hfo
     subst hn
     subst hl
     go_wp2_with fail
     go_meet
     case rel => exact ⟨ret_bv (by rw [HB.out]; first | rfl | simpa), rfl⟩
    ·have HB := hide (show fieldsOk v = false by rw [hfo]; simp [hl])
     clear hfo
     subst hn
     have hl1 : 0 < kl := by omega
     clear hl
     go_wp2_with fail
     go_meet
     case rel => exact ⟨ret_bv (by rw [HB.out]; first | rfl | simpa), rfl⟩
   ·have HB := hide (show fieldsOk v = false by rw [hfo]; simp [hn])
    clear hfo
    have hn1 : 0 < kn := by omega
    clear hn
    go_wp2_with fail
    go_meet
    case rel => exact ⟨ret_bv (by rw [HB.out]; first | rfl | simpa), rfl⟩
  ·by_cases hs : ks = 0
   ·by_cases hl : kl = 0
    ·have HB := hide (show fieldsOk v = true by rw [hfo]; simp [hs, hl])
     clear hfo
     subst hs
     subst hl
     go_wp2_with fail
     go_meet
     case rel => exact ⟨ret_bv (by rw [HB.out]; first | rfl | simpa), rfl⟩
    ·have HB := hide (show fieldsOk v = false by rw [hfo]; simp [hl])
     clear hfo
     subst hs
     have hl1 : 0 < kl := by omega
     clear hl
     go_wp2_with fail
     go_meet
     case rel => exact ⟨ret_bv (by rw [HB.out]; first | rfl | simpa), rfl⟩
   ·have HB := hide (show fieldsOk v = false by rw [hfo]; simp [hs])
    clear hfo
    have hs1 : 0 < ks := by omega
    clear hs
    go_wp2_with fail
    go_meet
    case rel => exact ⟨ret_bv (by rw [HB.out]; first | rfl | simpa), rfl⟩
  ·by_cases hn : kn = 0
   ·by_cases hs : ks = 0
    ·have HB := hide (show fieldsOk v = true by rw [hfo]; simp [hn, hs])
     clear hfo
     subst hn
     subst hs
     go_wp2_with fail
     go_meet
     case rel => exact ⟨ret_bv (by rw [HB.out]; first | rfl | simpa), rfl⟩
    ·have HB := hide (show fieldsOk v = false by rw [hfo]; simp [hs])
     clear hfo
     subst hn
     have hs1 : 0 < ks := by omega
     clear hs
     go_wp2_with fail
     go_meet
     case rel => exact ⟨ret_bv (by rw [HB.out]; first | rfl | simpa), rfl⟩
   ·have HB := hide (show fieldsOk v = false by rw [hfo]; simp [hn])
    clear hfo
    have hn1 : 0 < kn := by omega
    clear hn
    go_wp2_with fail
    go_meet
    case rel => exact ⟨ret_bv (by rw [HB.out]; first | rfl | simpa), rfl⟩
  ·by_cases hn : kn = 0
   ·have HB := hide (show fieldsOk v = true by rw [hfo]; simp [hn])
    clear hfo
    subst hn
    go_wp2_with fail
    go_meet
    case rel => exact ⟨ret_bv (by rw [HB.out]; first | rfl | simpa), rfl⟩
   ·have HB := hide (show fieldsOk v = false by rw [hfo]; simp [hn])
    clear hfo
    have hn1 : 0 < kn := by omega
    clear hn
    go_wp2_with fail
    go_meet
    case rel => exact ⟨ret_bv (by rw [HB.out]; first | rfl | simpa), rfl⟩
  ·by_cases hn : kn = 0
   ·by_cases hs : ks = 0
    ·by_cases hl : kl = 0
     ·have HB := hide (show fieldsOk v = true by rw [hfo]; simp [hn, hs, hl])
      clear hfo
      subst hn
      subst hs
      subst hl
      go_wp2_with fail
      go_meet
      case rel => exact ⟨ret_bv (by rw [HB.out]; first | rfl | simpa), rfl⟩
     ·have HB := hide (show fieldsOk v = false by rw [hfo]; simp [hl])
      clear hfo
      subst hn
      subst hs
      have hl1 : 0 < kl := by omega
      clear hl
      go_wp2_with fail
      go_meet
      case rel => exact ⟨ret_bv (by rw [HB.out]; first | rfl | simpa), rfl⟩
    ·have HB := hide (show fieldsOk v = false by rw [hfo]; simp [hs])
     clear hfo
     subst hn
     have hs1 : 0 < ks := by omega
     clear hs
     go_wp2_with fail
     go_meet
     case rel => exact ⟨ret_bv (by rw [HB.out]; first | rfl | simpa), rfl⟩
   ·have HB := hide (show fieldsOk v = false by rw [hfo]; simp [hn])
    clear hfo
    have hn1 : 0 < kn := by omega
    clear hn
    go_wp2_with fail
    go_meet
    case rel => exact ⟨ret_bv (by rw [HB.out]; first | rfl | simpa), rfl⟩
  ·have HB := hide (show fieldsOk v = false by rw [hfo]; simp)
   clear hfo
   go_wp2_with fail
   go_meet
   case rel => exact ⟨ret_bv (by rw [HB.out]; first | rfl | simpa), rfl⟩
 case rest =>
  obtain ⟨rfl, rfl⟩ := hcut
  clear hfo hcs HFI
  cases hok : fieldsOk v with
  | false =>
   have HR := hide (partsV_own' (d := d) (show ownV v = 30 by rw [HOV.out, if_pos hok]) (by decide))
   clear hok
   go_wp2_with fail
   go_ret
   exact ⟨ret_i HR.out.symm, HG.out⟩
  | true =>
   have HOKF := hide hok
   have HPL := hide (fun w2 => HPL.out w2 hok)
   clear hok
   cases hm : manyV v with
   | true =>
    have HR := hide (partsV_own' (d := d) (show ownV v = 6 by rw [HOV.out, if_neg (by rw [HOKF.out]; simp), if_pos hm]) (by decide))
    rw [hm] at HMA
    clear hm
    go_wp2_with (go_at_call 84; refine (HMA.out _ (gb_refl wa none)).mono ?_; rintro e w1 ⟨rfl, hg1⟩; have HG1 := hide hg1; clear hg1)
    go_ret
    exact ⟨ret_i HR.out.symm, gb_trans HG.out HG1.out (.inl rfl)⟩
   | false =>
    rw [hm] at HMA
    have HMF := hide hm
    clear hm
    cases hl : tooLongV v with
    | true =>
     have HR := hide (partsV_own' (d := d) (show ownV v = 1 by rw [HOV.out, if_neg (by rw [HOKF.out]; simp), if_neg (by rw [HMF.out]; simp), if_pos hl]) (by decide))
     rw [hl] at HLO
     clear hl
     go_wp2_with (first
      | (go_at_call 84; refine (HMA.out _ (gb_refl wa none)).mono ?_; rintro e w1 ⟨rfl, hg1⟩; have b0 := cell_gb b0 hg1; have b1 := cell_gb b1 hg1; have b2 := cell_gb b2 hg1; have b3 := cell_gb b3 hg1; have HG1 := hide hg1; clear hg1)
      | (go_at_call 85; refine (HLO.out _ HG1.out).mono ?_; rintro e w2 ⟨rfl, hg2⟩; have b0 := cell_gb b0 hg2; have b1 := cell_gb b1 hg2; have b2 := cell_gb b2 hg2; have b3 := cell_gb b3 hg2; have HG2 := hide (gb_trans HG1.out hg2 (.inl rfl)); clear hg2)
      | (go_at_call 86; refine (HPL.out _ HG2.out).mono ?_; rintro e w3 ⟨rfl, hg3⟩; have b0 := cell_gb b0 hg3; have b1 := cell_gb b1 hg3; have b2 := cell_gb b2 hg3; have b3 := cell_gb b3 hg3; have HG3 := hide (gb_trans HG2.out hg3 (.inl rfl)); clear hg3))
     go_ret
     exact ⟨ret_i HR.out.symm, gb_trans HG.out HG2.out (.inl rfl)⟩
    | false =>
     rw [hl] at HLO
     have HLF := hide hl
     clear hl
     cases hp : plainV v with
     | false =>
      have HR := hide (partsV_own' (d := d) (show ownV v = 30 by rw [HOV.out, if_neg (by rw [HOKF.out]; simp), if_neg (by rw [HMF.out]; simp), if_neg (by rw [HLF.out]; simp), if_pos hp]) (by decide))
      rw [hp] at HPL
      clear hp
      go_wp2_with (first
       | (go_at_call 84; refine (HMA.out _ (gb_refl wa none)).mono ?_; rintro e w1 ⟨rfl, hg1⟩; have b0 := cell_gb b0 hg1; have b1 := cell_gb b1 hg1; have b2 := cell_gb b2 hg1; have b3 := cell_gb b3 hg1; have HG1 := hide hg1; clear hg1)
       | (go_at_call 85; refine (HLO.out _ HG1.out).mono ?_; rintro e w2 ⟨rfl, hg2⟩; have b0 := cell_gb b0 hg2; have b1 := cell_gb b1 hg2; have b2 := cell_gb b2 hg2; have b3 := cell_gb b3 hg2; have HG2 := hide (gb_trans HG1.out hg2 (.inl rfl)); clear hg2)
       | (go_at_call 86; refine (HPL.out _ HG2.out).mono ?_; rintro e w3 ⟨rfl, hg3⟩; have b0 := cell_gb b0 hg3; have b1 := cell_gb b1 hg3; have b2 := cell_gb b2 hg3; have b3 := cell_gb b3 hg3; have HG3 := hide (gb_trans HG2.out hg3 (.inl rfl)); clear hg3))
      go_ret
      exact ⟨ret_i HR.out.symm, gb_trans HG.out HG3.out (.inl rfl)⟩
     | true =>
      rw [hp] at HPL
      have HPF := hide (show plainV v = true from hp)
      clear hp
      by_cases ht0 : v.t = 0
      ·have e0 : (v.t != 0) = false := int_bne_t ht0
       have HEV2 := hide (show evenV v = true by rw [HEV.out, decide_eq_true ht0]; rfl)
       clear ht0
       by_cases h1 : 1 < v.l.length
       ·have h11 : (1 : Int) < (v.l.length : Int) := by omega
        clear h1
        go_wp2_with (first
         | (go_at_call 84; refine (HMA.out _ (gb_refl wa none)).mono ?_; rintro e w1 ⟨rfl, hg1⟩; have b0 := cell_gb b0 hg1; have b1 := cell_gb b1 hg1; have b2 := cell_gb b2 hg1; have b3 := cell_gb b3 hg1; have HG1 := hide hg1; clear hg1)
         | (go_at_call 85; refine (HLO.out _ HG1.out).mono ?_; rintro e w2 ⟨rfl, hg2⟩; have b0 := cell_gb b0 hg2; have b1 := cell_gb b1 hg2; have b2 := cell_gb b2 hg2; have b3 := cell_gb b3 hg2; have HG2 := hide (gb_trans HG1.out hg2 (.inl rfl)); clear hg2)
         | (go_at_call 86; refine (HPL.out _ HG2.out).mono ?_; rintro e w3 ⟨rfl, hg3⟩; have b0 := cell_gb b0 hg3; have b1 := cell_gb b1 hg3; have b2 := cell_gb b2 hg3; have b3 := cell_gb b3 hg3; have HG3 := hide (gb_trans HG2.out hg3 (.inl rfl)); clear hg3))
        go_loopw [9] (fun i wr => i = .int .i64 1 ∧ w3 = wr) (fun _ _ => 0)
        case atStart => exact ⟨rfl, rfl⟩
        case round =>
         obtain ⟨rfl, rfl⟩ := hrel
         have HGR := hide HG3.out
         have HO0 := hide (show ownV v = 0 by rw [HOV.out, if_neg (by rw [HOKF.out]; simp), if_neg (by rw [HMF.out]; simp), if_neg (by rw [HLF.out]; simp), if_neg (by rw [HPF.out]; simp), if_neg (by rw [HEV2.out]; simp)])
         cases d with
         | zero =>
          have hx0 : (x == 0) = true := int_beq_t (by rw [hx]; rfl)
          clear hx
          go_wp2_with fail
          go_ret
          exact ⟨ret_i (partsV_zero HO0.out).symm, gb_trans HG.out HGR.out (.inl rfl)⟩
         | succ d =>
          have hx0 : (x == 0) = false := int_beq_f (by rw [hx]; omega)
          have hx1 : x - 1 = (d : Int) := by rw [hx]; omega
          have hx2 : 0 ≤ x := by omega
          have hx3 : x ≤ 1048576 := by omega
          have HPS := hide (partsV_succ (d := d) HO0.out)
          have HI := hide (IH.out d rfl)
          clear hx hdd
          go_wp2_with fail
          go_loopw [10, 11] (fun i _ wr => ∃ j : Nat, i = .int .i64 (j : Int) ∧ j ≤ v.l.length ∧ Hid (firstE (partsV d) (v.l.take j) = 0) ∧ wa.grownBy wr none) (fun i _ _ => v.l.length - (intOf i).toNat)
          case atStart => exact ⟨0, rfl, Nat.zero_le _, hide rfl, HGR.out⟩
          case round =>
           obtain ⟨j, rfl, hj, HF, hgr⟩ := hrel
           have b3 := cell_gb HB3.out hgr
           by_cases hlt : j < v.l.length
           ·have hlt1 : (j : Int) < (v.l.length : Int) := by omega
            obtain ⟨q, o, xA, xc, yA, yc, zA, zc, rfl, hqB, hc4, hvb⟩ := HV.out.l.at_ hlt
            obtain ⟨d0, d1, d2, d3⟩ := hc4.gb hgr
            have HREC := hide (HI.out v.l[j] wr B xA xc yA yc zA zc (Vl.tot_part HTT.out (List.getElem_mem hlt)) (Nat.le_trans HBW.out hgr.size) (hvb.gb hgr HBW.out))
            have HGW := hide hgr
            have HTK : Hid (partsV d v.l[j] = 0 → firstE (partsV d) (v.l.take (j + 1)) = 0) := hide (fun h => by rw [List.take_succ_eq_append_getElem hlt, firstE_snoc _ _ _ HF.out]; exact h)
            have HHIT : Hid (partsV d v.l[j] ≠ 0 → firstE (partsV d) v.l = partsV d v.l[j]) := hide (fun h => firstE_hit (partsV d) v.l j hlt HF.out h)
            clear hc4 hvb hgr
            generalize partsV d v.l[j] = y at HREC HTK HHIT
            by_cases hy : y = 0
            ·have hy1 : (y != 0) = false := int_bne_t hy
             have HT1 := hide (HTK.out hy)
             clear hy HTK HHIT
             go_wp2_with (go_at_call 48; refine HREC.out.mono ?_; rintro e w9 ⟨rfl, hg9⟩; have HG9 := hide hg9; clear hg9)
             go_roundw
             case rel =>
              have hrr : ∃ k : Nat, Value.int .i64 ((j : Int) + 1) = .int .i64 (k : Int) ∧ k ≤ v.l.length ∧ Hid (firstE (partsV d) (v.l.take k) = 0) ∧ wa.grownBy w9 none := ⟨j + 1, by go_num, by omega, HT1, gb_trans HGW.out HG9.out (.inl rfl)⟩
              first
               | exact hrr
               | ((repeat apply Exists.intro); exact ⟨hrr, rfl⟩)
             case measure => simp [intOf]; omega
            ·have hy1 : (y != 0) = true := int_bne_f hy
             have HT1 := hide (HPS.out.trans (HHIT.out hy))
             clear hy HTK HHIT
             go_wp2_with (go_at_call 48; refine HREC.out.mono ?_; rintro e w9 ⟨rfl, hg9⟩; have HG9 := hide hg9; clear hg9)
             go_ret
             exact ⟨ret_i HT1.out.symm, gb_trans HG.out (gb_trans HGW.out HG9.out (.inl rfl)) (.inl rfl)⟩
           ·have hlt1 : ¬ (j : Int) < (v.l.length : Int) := by omega
            have HGW := hide hgr
            have HT1 := hide (show firstE (partsV d) v.l = 0 by rw [List.take_of_length_le (by omega)] at HF; exact HF.out)
            clear hgr
            go_wp2_with fail
            go_ret
            exact ⟨ret_i (HPS.out.trans HT1.out).symm, gb_trans HG.out HGW.out (.inl rfl)⟩
       ·have h11 : ¬ (1 : Int) < (v.l.length : Int) := by omega
        clear h1
        go_wp2_with (first
         | (go_at_call 84; refine (HMA.out _ (gb_refl wa none)).mono ?_; rintro e w1 ⟨rfl, hg1⟩; have b0 := cell_gb b0 hg1; have b1 := cell_gb b1 hg1; have b2 := cell_gb b2 hg1; have b3 := cell_gb b3 hg1; have HG1 := hide hg1; clear hg1)
         | (go_at_call 85; refine (HLO.out _ HG1.out).mono ?_; rintro e w2 ⟨rfl, hg2⟩; have b0 := cell_gb b0 hg2; have b1 := cell_gb b1 hg2; have b2 := cell_gb b2 hg2; have b3 := cell_gb b3 hg2; have HG2 := hide (gb_trans HG1.out hg2 (.inl rfl)); clear hg2)
         | (go_at_call 86; refine (HPL.out _ HG2.out).mono ?_; rintro e w3 ⟨rfl, hg3⟩; have b0 := cell_gb b0 hg3; have b1 := cell_gb b1 hg3; have b2 := cell_gb b2 hg3; have b3 := cell_gb b3 hg3; have HG3 := hide (gb_trans HG2.out hg3 (.inl rfl)); clear hg3))
        go_loopw [9] (fun i wr => i = .int .i64 1 ∧ w3 = wr) (fun _ _ => 0)
        case atStart => exact ⟨rfl, rfl⟩
        case round =>
         obtain ⟨rfl, rfl⟩ := hrel
         have HGR := hide HG3.out
         have HO0 := hide (show ownV v = 0 by rw [HOV.out, if_neg (by rw [HOKF.out]; simp), if_neg (by rw [HMF.out]; simp), if_neg (by rw [HLF.out]; simp), if_neg (by rw [HPF.out]; simp), if_neg (by rw [HEV2.out]; simp)])
         cases d with
         | zero =>
          have hx0 : (x == 0) = true := int_beq_t (by rw [hx]; rfl)
          clear hx
          go_wp2_with fail
          go_ret
          exact ⟨ret_i (partsV_zero HO0.out).symm, gb_trans HG.out HGR.out (.inl rfl)⟩
         | succ d =>
          have hx0 : (x == 0) = false := int_beq_f (by rw [hx]; omega)
          have hx1 : x - 1 = (d : Int) := by rw [hx]; omega
          have hx2 : 0 ≤ x := by omega
          have hx3 : x ≤ 1048576 := by omega
          have HPS := hide (partsV_succ (d := d) HO0.out)
          have HI := hide (IH.out d rfl)
          clear hx hdd
          go_wp2_with fail
          go_loopw [10, 11] (fun i _ wr => ∃ j : Nat, i = .int .i64 (j : Int) ∧ j ≤ v.l.length ∧ Hid (firstE (partsV d) (v.l.take j) = 0) ∧ wa.grownBy wr none) (fun i _ _ => v.l.length - (intOf i).toNat)
          case atStart => exact ⟨0, rfl, Nat.zero_le _, hide rfl, HGR.out⟩
          case round =>
           obtain ⟨j, rfl, hj, HF, hgr⟩ := hrel
           have b3 := cell_gb HB3.out hgr
           by_cases hlt : j < v.l.length
           ·have hlt1 : (j : Int) < (v.l.length : Int) := by omega
            obtain ⟨q, o, xA, xc, yA, yc, zA, zc, rfl, hqB, hc4, hvb⟩ := HV.out.l.at_ hlt
            obtain ⟨d0, d1, d2, d3⟩ := hc4.gb hgr
            have HREC := hide (HI.out v.l[j] wr B xA xc yA yc zA zc (Vl.tot_part HTT.out (List.getElem_mem hlt)) (Nat.le_trans HBW.out hgr.size) (hvb.gb hgr HBW.out))
            have HGW := hide hgr
            have HTK : Hid (partsV d v.l[j] = 0 → firstE (partsV d) (v.l.take (j + 1)) = 0) := hide (fun h => by rw [List.take_succ_eq_append_getElem hlt, firstE_snoc _ _ _ HF.out]; exact h)
            have HHIT : Hid (partsV d v.l[j] ≠ 0 → firstE (partsV d) v.l = partsV d v.l[j]) := hide (fun h => firstE_hit (partsV d) v.l j hlt HF.out h)
            clear hc4 hvb hgr
            generalize partsV d v.l[j] = y at HREC HTK HHIT
            by_cases hy : y = 0
            ·have hy1 : (y != 0) = false := int_bne_t hy
             have HT1 := hide (HTK.out hy)
             clear hy HTK HHIT
             go_wp2_with (go_at_call 48; refine HREC.out.mono ?_; rintro e w9 ⟨rfl, hg9⟩; have HG9 := hide hg9; clear hg9)
             go_roundw
             case rel =>
              have hrr : ∃ k : Nat, Value.int .i64 ((j : Int) + 1) = .int .i64 (k : Int) ∧ k ≤ v.l.length ∧ Hid (firstE (partsV d) (v.l.take k) = 0) ∧ wa.grownBy w9 none := ⟨j + 1, by go_num, by omega, HT1, gb_trans HGW.out HG9.out (.inl rfl)⟩
              first
               | exact hrr
               | ((repeat apply Exists.intro); exact ⟨hrr, rfl⟩)
             case measure => simp [intOf]; omega
            ·have hy1 : (y != 0) = true := int_bne_f hy
             have HT1 := hide (HPS.out.trans (HHIT.out hy))
             clear hy HTK HHIT
             go_wp2_with (go_at_call 48; refine HREC.out.mono ?_; rintro e w9 ⟨rfl, hg9⟩; have HG9 := hide hg9; clear hg9)
             go_ret
             exact ⟨ret_i HT1.out.symm, gb_trans HG.out (gb_trans HGW.out HG9.out (.inl rfl)) (.inl rfl)⟩
           ·have hlt1 : ¬ (j : Int) < (v.l.length : Int) := by omega
            have HGW := hide hgr
            have HT1 := hide (show firstE (partsV d) v.l = 0 by rw [List.take_of_length_le (by omega)] at HF; exact HF.out)
            clear hgr
            go_wp2_with fail
            go_ret
            exact ⟨ret_i (HPS.out.trans HT1.out).symm, gb_trans HG.out HGW.out (.inl rfl)⟩
      ·have e0 : (v.t != 0) = true := int_bne_f ht0
       have HE1 := hide (show evenV v = evenL v.l by rw [HEV.out, decide_eq_false ht0]; rfl)
       clear ht0
       go_wp2_with (first
        | (go_at_call 84; refine (HMA.out _ (gb_refl wa none)).mono ?_; rintro e w1 ⟨rfl, hg1⟩; have b0 := cell_gb b0 hg1; have b1 := cell_gb b1 hg1; have b2 := cell_gb b2 hg1; have b3 := cell_gb b3 hg1; have HG1 := hide hg1; clear hg1)
        | (go_at_call 85; refine (HLO.out _ HG1.out).mono ?_; rintro e w2 ⟨rfl, hg2⟩; have b0 := cell_gb b0 hg2; have b1 := cell_gb b1 hg2; have b2 := cell_gb b2 hg2; have b3 := cell_gb b3 hg2; have HG2 := hide (gb_trans HG1.out hg2 (.inl rfl)); clear hg2)
        | (go_at_call 86; refine (HPL.out _ HG2.out).mono ?_; rintro e w3 ⟨rfl, hg3⟩; have b0 := cell_gb b0 hg3; have b1 := cell_gb b1 hg3; have b2 := cell_gb b2 hg3; have b3 := cell_gb b3 hg3; have HG3 := hide (gb_trans HG2.out hg3 (.inl rfl)); clear hg3))
       go_loopw [9] (fun i wr => ∃ j : Nat, i = .int .i64 (j : Int) ∧ 1 ≤ j ∧ Hid (∀ (k : Nat) (hk : k < v.l.length), k < j → v.l[k].count = (v.l[0]'(by omega)).count) ∧ wa.grownBy wr none) (fun i _ => v.l.length - (intOf i).toNat)
       case atStart => exact ⟨1, rfl, Nat.le_refl _, hide (fun k hk h => by
        have e : k = 0 := by omega
        subst e
        rfl), HG3.out⟩
       case round =>
        obtain ⟨j, rfl, hj, HE, hgr⟩ := hrel
        have b0 := cell_gb HB0.out hgr
        have b3 := cell_gb HB3.out hgr
        by_cases hlt : j < v.l.length
        ·have hlt1 : (j : Int) < (v.l.length : Int) := by omega
         have hl0 : 0 < v.l.length := by omega
         have hl01 : (0 : Int) < (v.l.length : Int) := by omega
         obtain ⟨q, o, xA, xc, yA, yc, zA, zc, hA, hqB, hc4, hvb⟩ := HV.out.l.at_ hlt
         obtain ⟨q', o', xA', xc', yA', yc', zA', zc', hA', _, hc4', hvb'⟩ := HV.out.l.at_ hl0
         subst hA
         cases hA'
         obtain ⟨d0, d1, d2, d3⟩ := hc4.gb hgr
         have hz4 := hc4'.gb hgr
         simp only [Nat.zero_mul, Nat.add_zero] at hz4
         obtain ⟨z0, z1, z2, z3⟩ := hz4
         have CJ := hide (fun p : GbW wr => rCount_any v.l[j] p.wd B xA xc yA yc zA zc (Vl.tot_part HTT.out (List.getElem_mem hlt)) (Nat.le_trans HBW.out (Nat.le_trans hgr.size p.ok.size)) (hvb.gb (gb_trans hgr p.ok (.inl rfl)) HBW.out))
         have C0 := hide (fun p : GbW wr => rCount_any v.l[0] p.wd B xA' xc' yA' yc' zA' zc' (Vl.tot_part HTT.out (List.getElem_mem hl0)) (Nat.le_trans HBW.out (Nat.le_trans hgr.size p.ok.size)) (hvb'.gb (gb_trans hgr p.ok (.inl rfl)) HBW.out))
         have HB3R := hide b3
         have HC4J := hide (hc4.gb hgr)
         have HC40 := hide (show C4 wr q o (.int .i64 v.l[0].t) (.slice xA' v.l[0].n.length xc') (.slice yA' v.l[0].s.length yc') (.slice zA' v.l[0].l.length zc') from ⟨z0, z1, z2, z3⟩)
         have HGW := hide hgr
         have HYES := hide (fun (h : v.l[j].count = v.l[0].count) (k : Nat) (hk : k < v.l.length) (hkj : k < j + 1) => show v.l[k].count = v.l[0].count by
          by_cases e : k = j
          ·subst e; exact h
          ·exact HE.out k hk (by omega))
         have HNO := hide (fun (h : v.l[j].count ≠ v.l[0].count) => evenL_no hlt h)
         clear hc4 hc4' hvb hvb' hgr d0 d1 d2 d3 z0 z1 z2 z3
         by_cases hcc : v.l[j].count = v.l[0].count
         ·have q0 : (((v.l[j].count : Nat) : Int) != ((v.l[0].count : Nat) : Int)) = false := nat_bne_t hcc
          have HY := hide (HYES.out hcc)
          clear hcc HYES HNO
          go_wp2_with fail
          refine wp_region_facts' 11 (by kernel_rfl) (by kernel_rfl) ?_
          intro A O W L HA HO HW HL
          simp only [List.take_succ_cons, List.take_zero]
          have HS := hide (show A.tmps.size = 103 by rw [HA.out]; rfl)
          have HGW2 := hide (show wr.grownBy W none by rw [HW.out]; exact gb_drew (gb_refl wr none))
          have A2 := hide (show A.eval (.tmp 2) = .pointer (some ⟨w.heap.size, 0, none⟩) by rw [HA.out]; rfl)
          have A9 := hide (show A.eval (.tmp 9) = .int .i64 (j : Int) by rw [HA.out]; rfl)
          refine wpFacts_lit (.pointer (some ⟨w.heap.size, 3, none⟩)) rfl ?_ ?_
          ·intro a wq hw hl
           have e2 : a.tmps[2]?.getD undef = .pointer (some ⟨w.heap.size, 0, none⟩) := (hl 2 (by first | (simp [Op.operands]; done) | simp [Op.operands, Call.operands]) (by rw [HS.out]; decide)).trans A2.out
           clear hl
           go_simp
          refine wpFacts_lit (.slice (some ⟨q, o, none⟩) v.l.length lc) rfl ?_ ?_
          ·intro a wq hw hl
           have e71 : a.tmps[71]?.getD undef = .pointer (some ⟨w.heap.size, 3, none⟩) := hl 71 (by first | (simp [Op.operands]; done) | simp [Op.operands, Call.operands]) (by rw [HS.out]; decide)
           have c3 := cell_gb HB3R.out (gb_trans HGW2.out hw (.inl rfl))
           clear hl
           go_simp
          refine wpFacts_lit (.int .i64 (j : Int)) rfl ?_ ?_
          ·intro a wq hw hl
           have e9 : a.tmps[9]?.getD undef = .int .i64 (j : Int) := (hl 9 (by first | (simp [Op.operands]; done) | simp [Op.operands, Call.operands]) (by rw [HS.out]; decide)).trans A9.out
           clear hl
           go_simp
          refine wpFacts_lit (.pointer (some ⟨q, o + j * 4, none⟩)) rfl ?_ ?_
          ·intro a wq hw hl
           have e72 : a.tmps[72]?.getD undef = .slice (some ⟨q, o, none⟩) v.l.length lc := hl 72 (by first | (simp [Op.operands]; done) | simp [Op.operands, Call.operands]) (by rw [HS.out]; decide)
           have e73 : a.tmps[73]?.getD undef = .int .i64 (j : Int) := hl 73 (by first | (simp [Op.operands]; done) | simp [Op.operands, Call.operands]) (by rw [HS.out]; decide)
           clear hl
           go_simp
          refine wpFacts_lit (.agg #[.int .i64 v.l[j].t, .slice xA v.l[j].n.length xc, .slice yA v.l[j].s.length yc, .slice zA v.l[j].l.length zc]) rfl ?_ ?_
          ·intro a wq hw hl
           have e74 : a.tmps[74]?.getD undef = .pointer (some ⟨q, o + j * 4, none⟩) := hl 74 (by first | (simp [Op.operands]; done) | simp [Op.operands, Call.operands]) (by rw [HS.out]; decide)
           obtain ⟨c0, c1, c2, c3⟩ := HC4J.out.gb (gb_trans HGW2.out hw (.inl rfl))
           clear hl
           go_simp
          refine wpFacts_step (fun vq _ => vq = .int .i64 ((v.l[j].count : Nat) : Int)) rfl (Lit.up _) ?_ ?_
          ·intro a wq hw hl
           have e75 : a.tmps[75]?.getD undef = .agg #[.int .i64 v.l[j].t, .slice xA v.l[j].n.length xc, .slice yA v.l[j].s.length yc, .slice zA v.l[j].l.length zc] := hl 75 (by first | (simp [Op.operands]; done) | simp [Op.operands, Call.operands]) (by rw [HS.out]; decide)
           clear hl
           go_simp
           exact gUpon_lit (CJ.out ⟨wq, (gb_trans HGW2.out hw (.inl rfl))⟩)
          refine wpFacts_lit (.pointer (some ⟨w.heap.size, 3, none⟩)) rfl ?_ ?_
          ·intro a wq hw hl
           have e2 : a.tmps[2]?.getD undef = .pointer (some ⟨w.heap.size, 0, none⟩) := (hl 2 (by first | (simp [Op.operands]; done) | simp [Op.operands, Call.operands]) (by rw [HS.out]; decide)).trans A2.out
           clear hl
           go_simp
          refine wpFacts_lit (.slice (some ⟨q, o, none⟩) v.l.length lc) rfl ?_ ?_
          ·intro a wq hw hl
           have e77 : a.tmps[77]?.getD undef = .pointer (some ⟨w.heap.size, 3, none⟩) := hl 77 (by first | (simp [Op.operands]; done) | simp [Op.operands, Call.operands]) (by rw [HS.out]; decide)
           have c3 := cell_gb HB3R.out (gb_trans HGW2.out hw (.inl rfl))
           clear hl
           go_simp
          refine wpFacts_lit (.pointer (some ⟨q, o, none⟩)) rfl ?_ ?_
          ·intro a wq hw hl
           have e78 : a.tmps[78]?.getD undef = .slice (some ⟨q, o, none⟩) v.l.length lc := hl 78 (by first | (simp [Op.operands]; done) | simp [Op.operands, Call.operands]) (by rw [HS.out]; decide)
           clear hl
           go_simp
          refine wpFacts_lit (.agg #[.int .i64 v.l[0].t, .slice xA' v.l[0].n.length xc', .slice yA' v.l[0].s.length yc', .slice zA' v.l[0].l.length zc']) rfl ?_ ?_
          ·intro a wq hw hl
           have e79 : a.tmps[79]?.getD undef = .pointer (some ⟨q, o, none⟩) := hl 79 (by first | (simp [Op.operands]; done) | simp [Op.operands, Call.operands]) (by rw [HS.out]; decide)
           obtain ⟨c0, c1, c2, c3⟩ := HC40.out.gb (gb_trans HGW2.out hw (.inl rfl))
           clear hl
           go_simp
          refine wpFacts_step (fun vq _ => vq = .int .i64 ((v.l[0].count : Nat) : Int)) rfl (Lit.up _) ?_ ?_
          ·intro a wq hw hl
           have e80 : a.tmps[80]?.getD undef = .agg #[.int .i64 v.l[0].t, .slice xA' v.l[0].n.length xc', .slice yA' v.l[0].s.length yc', .slice zA' v.l[0].l.length zc'] := hl 80 (by first | (simp [Op.operands]; done) | simp [Op.operands, Call.operands]) (by rw [HS.out]; decide)
           clear hl
           go_simp
           exact gUpon_lit (C0.out ⟨wq, (gb_trans HGW2.out hw (.inl rfl))⟩)
          refine HL.out _ (fun a' w13 hc => ?_)
          have e76 : a'.eval (.tmp 76) = .int .i64 ((v.l[j].count : Nat) : Int) := hc.fact 76 (by rw [HS.out]; decide)
          have e81 : a'.eval (.tmp 81) = .int .i64 ((v.l[0].count : Nat) : Int) := hc.fact 81 (by rw [HS.out]; decide)
          have hg13 := gb_trans HGW2.out hc.grown (.inl rfl)
          have hfr := hc.frame [71, 72, 73, 74, 75, 76, 77, 78, 79, 80, 81, 82] (by rw [HO.out]; kernel_rfl)
          rw [hfr]
          clear hfr hc
          rw [HA.out]
          clear HA HO HL HW HS HGW2 A2 A9 CJ C0
          clear A O W L
          simp only [List.drop_succ_cons, List.drop_zero, List.foldl_cons, List.foldl_nil, Act.put, List.setIfInBounds_toArray, List.set_cons_succ, List.set_cons_zero]
          rw [e76, e81]
          generalize a'.eval (.tmp 71) = v71
          generalize a'.eval (.tmp 72) = v72
          generalize a'.eval (.tmp 73) = v73
          generalize a'.eval (.tmp 74) = v74
          generalize a'.eval (.tmp 75) = v75
          generalize a'.eval (.tmp 77) = v77
          generalize a'.eval (.tmp 78) = v78
          generalize a'.eval (.tmp 79) = v79
          generalize a'.eval (.tmp 80) = v80
          generalize a'.eval (.tmp 82) = v82
          have HG13 := hide hg13
          clear e76 e81 hg13
          go_wp2_with fail
          go_roundw
          case rel => exact ⟨j + 1, by go_num, by omega, HY, gb_trans HGW.out HG13.out (.inl rfl)⟩
          case measure => simp [intOf]; omega
         ·have q0 : (((v.l[j].count : Nat) : Int) != ((v.l[0].count : Nat) : Int)) = true := nat_bne_f hcc
          have HR := hide (partsV_own' (d := d) (show ownV v = 32 by rw [HOV.out, if_neg (by rw [HOKF.out]; simp), if_neg (by rw [HMF.out]; simp), if_neg (by rw [HLF.out]; simp), if_neg (by rw [HPF.out]; simp), if_pos (by rw [HE1.out]; exact HNO.out hcc)]) (by decide))
          clear hcc HYES HNO
          go_wp2_with fail
          refine wp_region_facts' 11 (by kernel_rfl) (by kernel_rfl) ?_
          intro A O W L HA HO HW HL
          simp only [List.take_succ_cons, List.take_zero]
          have HS := hide (show A.tmps.size = 103 by rw [HA.out]; rfl)
          have HGW2 := hide (show wr.grownBy W none by rw [HW.out]; exact gb_drew (gb_refl wr none))
          have A2 := hide (show A.eval (.tmp 2) = .pointer (some ⟨w.heap.size, 0, none⟩) by rw [HA.out]; rfl)
          have A9 := hide (show A.eval (.tmp 9) = .int .i64 (j : Int) by rw [HA.out]; rfl)
          refine wpFacts_lit (.pointer (some ⟨w.heap.size, 3, none⟩)) rfl ?_ ?_
          ·intro a wq hw hl
           have e2 : a.tmps[2]?.getD undef = .pointer (some ⟨w.heap.size, 0, none⟩) := (hl 2 (by first | (simp [Op.operands]; done) | simp [Op.operands, Call.operands]) (by rw [HS.out]; decide)).trans A2.out
           clear hl
           go_simp
          refine wpFacts_lit (.slice (some ⟨q, o, none⟩) v.l.length lc) rfl ?_ ?_
          ·intro a wq hw hl
           have e71 : a.tmps[71]?.getD undef = .pointer (some ⟨w.heap.size, 3, none⟩) := hl 71 (by first | (simp [Op.operands]; done) | simp [Op.operands, Call.operands]) (by rw [HS.out]; decide)
           have c3 := cell_gb HB3R.out (gb_trans HGW2.out hw (.inl rfl))
           clear hl
           go_simp
          refine wpFacts_lit (.int .i64 (j : Int)) rfl ?_ ?_
          ·intro a wq hw hl
           have e9 : a.tmps[9]?.getD undef = .int .i64 (j : Int) := (hl 9 (by first | (simp [Op.operands]; done) | simp [Op.operands, Call.operands]) (by rw [HS.out]; decide)).trans A9.out
           clear hl
           go_simp
          refine wpFacts_lit (.pointer (some ⟨q, o + j * 4, none⟩)) rfl ?_ ?_
          ·intro a wq hw hl
           have e72 : a.tmps[72]?.getD undef = .slice (some ⟨q, o, none⟩) v.l.length lc := hl 72 (by first | (simp [Op.operands]; done) | simp [Op.operands, Call.operands]) (by rw [HS.out]; decide)
           have e73 : a.tmps[73]?.getD undef = .int .i64 (j : Int) := hl 73 (by first | (simp [Op.operands]; done) | simp [Op.operands, Call.operands]) (by rw [HS.out]; decide)
           clear hl
           go_simp
          refine wpFacts_lit (.agg #[.int .i64 v.l[j].t, .slice xA v.l[j].n.length xc, .slice yA v.l[j].s.length yc, .slice zA v.l[j].l.length zc]) rfl ?_ ?_
          ·intro a wq hw hl
           have e74 : a.tmps[74]?.getD undef = .pointer (some ⟨q, o + j * 4, none⟩) := hl 74 (by first | (simp [Op.operands]; done) | simp [Op.operands, Call.operands]) (by rw [HS.out]; decide)
           obtain ⟨c0, c1, c2, c3⟩ := HC4J.out.gb (gb_trans HGW2.out hw (.inl rfl))
           clear hl
           go_simp
          refine wpFacts_step (fun vq _ => vq = .int .i64 ((v.l[j].count : Nat) : Int)) rfl (Lit.up _) ?_ ?_
          ·intro a wq hw hl
           have e75 : a.tmps[75]?.getD undef = .agg #[.int .i64 v.l[j].t, .slice xA v.l[j].n.length xc, .slice yA v.l[j].s.length yc, .slice zA v.l[j].l.length zc] := hl 75 (by first | (simp [Op.operands]; done) | simp [Op.operands, Call.operands]) (by rw [HS.out]; decide)
           clear hl
           go_simp
           exact gUpon_lit (CJ.out ⟨wq, (gb_trans HGW2.out hw (.inl rfl))⟩)
          refine wpFacts_lit (.pointer (some ⟨w.heap.size, 3, none⟩)) rfl ?_ ?_
          ·intro a wq hw hl
           have e2 : a.tmps[2]?.getD undef = .pointer (some ⟨w.heap.size, 0, none⟩) := (hl 2 (by first | (simp [Op.operands]; done) | simp [Op.operands, Call.operands]) (by rw [HS.out]; decide)).trans A2.out
           clear hl
           go_simp
          refine wpFacts_lit (.slice (some ⟨q, o, none⟩) v.l.length lc) rfl ?_ ?_
          ·intro a wq hw hl
           have e77 : a.tmps[77]?.getD undef = .pointer (some ⟨w.heap.size, 3, none⟩) := hl 77 (by first | (simp [Op.operands]; done) | simp [Op.operands, Call.operands]) (by rw [HS.out]; decide)
           have c3 := cell_gb HB3R.out (gb_trans HGW2.out hw (.inl rfl))
           clear hl
           go_simp
          refine wpFacts_lit (.pointer (some ⟨q, o, none⟩)) rfl ?_ ?_
          ·intro a wq hw hl
           have e78 : a.tmps[78]?.getD undef = .slice (some ⟨q, o, none⟩) v.l.length lc := hl 78 (by first | (simp [Op.operands]; done) | simp [Op.operands, Call.operands]) (by rw [HS.out]; decide)
           clear hl
           go_simp
          refine wpFacts_lit (.agg #[.int .i64 v.l[0].t, .slice xA' v.l[0].n.length xc', .slice yA' v.l[0].s.length yc', .slice zA' v.l[0].l.length zc']) rfl ?_ ?_
          ·intro a wq hw hl
           have e79 : a.tmps[79]?.getD undef = .pointer (some ⟨q, o, none⟩) := hl 79 (by first | (simp [Op.operands]; done) | simp [Op.operands, Call.operands]) (by rw [HS.out]; decide)
           obtain ⟨c0, c1, c2, c3⟩ := HC40.out.gb (gb_trans HGW2.out hw (.inl rfl))
           clear hl
           go_simp
          refine wpFacts_step (fun vq _ => vq = .int .i64 ((v.l[0].count : Nat) : Int)) rfl (Lit.up _) ?_ ?_
          ·intro a wq hw hl
           have e80 : a.tmps[80]?.getD undef = .agg #[.int .i64 v.l[0].t, .slice xA' v.l[0].n.length xc', .slice yA' v.l[0].s.length yc', .slice zA' v.l[0].l.length zc'] := hl 80 (by first | (simp [Op.operands]; done) | simp [Op.operands, Call.operands]) (by rw [HS.out]; decide)
           clear hl
           go_simp
           exact gUpon_lit (C0.out ⟨wq, (gb_trans HGW2.out hw (.inl rfl))⟩)
          refine HL.out _ (fun a' w13 hc => ?_)
          have e76 : a'.eval (.tmp 76) = .int .i64 ((v.l[j].count : Nat) : Int) := hc.fact 76 (by rw [HS.out]; decide)
          have e81 : a'.eval (.tmp 81) = .int .i64 ((v.l[0].count : Nat) : Int) := hc.fact 81 (by rw [HS.out]; decide)
          have hg13 := gb_trans HGW2.out hc.grown (.inl rfl)
          have hfr := hc.frame [71, 72, 73, 74, 75, 76, 77, 78, 79, 80, 81, 82] (by rw [HO.out]; kernel_rfl)
          rw [hfr]
          clear hfr hc
          rw [HA.out]
          clear HA HO HL HW HS HGW2 A2 A9 CJ C0
          clear A O W L
          simp only [List.drop_succ_cons, List.drop_zero, List.foldl_cons, List.foldl_nil, Act.put, List.setIfInBounds_toArray, List.set_cons_succ, List.set_cons_zero]
          rw [e76, e81]
          generalize a'.eval (.tmp 71) = v71
          generalize a'.eval (.tmp 72) = v72
          generalize a'.eval (.tmp 73) = v73
          generalize a'.eval (.tmp 74) = v74
          generalize a'.eval (.tmp 75) = v75
          generalize a'.eval (.tmp 77) = v77
          generalize a'.eval (.tmp 78) = v78
          generalize a'.eval (.tmp 79) = v79
          generalize a'.eval (.tmp 80) = v80
          generalize a'.eval (.tmp 82) = v82
          have HG13 := hide hg13
          clear e76 e81 hg13
          go_wp2_with fail
          go_ret
          exact ⟨ret_i HR.out.symm, gb_trans HG.out (gb_trans HGW.out HG13.out (.inl rfl)) (.inl rfl)⟩
        ·have hlt1 : ¬ (j : Int) < (v.l.length : Int) := by omega
         have HEV2 := hide (show evenV v = true by rw [HE1.out]; exact evenL_yes (fun k hk => HE.out k hk (by omega)))
         have HGR := hide hgr
         clear hgr
         have HO0 := hide (show ownV v = 0 by rw [HOV.out, if_neg (by rw [HOKF.out]; simp), if_neg (by rw [HMF.out]; simp), if_neg (by rw [HLF.out]; simp), if_neg (by rw [HPF.out]; simp), if_neg (by rw [HEV2.out]; simp)])
         cases d with
         | zero =>
          have hx0 : (x == 0) = true := int_beq_t (by rw [hx]; rfl)
          clear hx
          go_wp2_with fail
          go_ret
          exact ⟨ret_i (partsV_zero HO0.out).symm, gb_trans HG.out HGR.out (.inl rfl)⟩
         | succ d =>
          have hx0 : (x == 0) = false := int_beq_f (by rw [hx]; omega)
          have hx1 : x - 1 = (d : Int) := by rw [hx]; omega
          have hx2 : 0 ≤ x := by omega
          have hx3 : x ≤ 1048576 := by omega
          have HPS := hide (partsV_succ (d := d) HO0.out)
          have HI := hide (IH.out d rfl)
          clear hx hdd
          go_wp2_with fail
          go_loopw [10, 11] (fun i _ wr => ∃ j : Nat, i = .int .i64 (j : Int) ∧ j ≤ v.l.length ∧ Hid (firstE (partsV d) (v.l.take j) = 0) ∧ wa.grownBy wr none) (fun i _ _ => v.l.length - (intOf i).toNat)
          case atStart => exact ⟨0, rfl, Nat.zero_le _, hide rfl, HGR.out⟩
          case round =>
           obtain ⟨j, rfl, hj, HF, hgr⟩ := hrel
           have b3 := cell_gb HB3.out hgr
           by_cases hlt : j < v.l.length
           ·have hlt1 : (j : Int) < (v.l.length : Int) := by omega
            obtain ⟨q, o, xA, xc, yA, yc, zA, zc, rfl, hqB, hc4, hvb⟩ := HV.out.l.at_ hlt
            obtain ⟨d0, d1, d2, d3⟩ := hc4.gb hgr
            have HREC := hide (HI.out v.l[j] wr B xA xc yA yc zA zc (Vl.tot_part HTT.out (List.getElem_mem hlt)) (Nat.le_trans HBW.out hgr.size) (hvb.gb hgr HBW.out))
            have HGW := hide hgr
            have HTK : Hid (partsV d v.l[j] = 0 → firstE (partsV d) (v.l.take (j + 1)) = 0) := hide (fun h => by rw [List.take_succ_eq_append_getElem hlt, firstE_snoc _ _ _ HF.out]; exact h)
            have HHIT : Hid (partsV d v.l[j] ≠ 0 → firstE (partsV d) v.l = partsV d v.l[j]) := hide (fun h => firstE_hit (partsV d) v.l j hlt HF.out h)
            clear hc4 hvb hgr
            generalize partsV d v.l[j] = y at HREC HTK HHIT
            by_cases hy : y = 0
            ·have hy1 : (y != 0) = false := int_bne_t hy
             have HT1 := hide (HTK.out hy)
             clear hy HTK HHIT
             go_wp2_with (go_at_call 48; refine HREC.out.mono ?_; rintro e w9 ⟨rfl, hg9⟩; have HG9 := hide hg9; clear hg9)
             go_roundw
             case rel =>
              have hrr : ∃ k : Nat, Value.int .i64 ((j : Int) + 1) = .int .i64 (k : Int) ∧ k ≤ v.l.length ∧ Hid (firstE (partsV d) (v.l.take k) = 0) ∧ wa.grownBy w9 none := ⟨j + 1, by go_num, by omega, HT1, gb_trans HGW.out HG9.out (.inl rfl)⟩
              first
               | exact hrr
               | ((repeat apply Exists.intro); exact ⟨hrr, rfl⟩)
             case measure => simp [intOf]; omega
            ·have hy1 : (y != 0) = true := int_bne_f hy
             have HT1 := hide (HPS.out.trans (HHIT.out hy))
             clear hy HTK HHIT
             go_wp2_with (go_at_call 48; refine HREC.out.mono ?_; rintro e w9 ⟨rfl, hg9⟩; have HG9 := hide hg9; clear hg9)
             go_ret
             exact ⟨ret_i HT1.out.symm, gb_trans HG.out (gb_trans HGW.out HG9.out (.inl rfl)) (.inl rfl)⟩
           ·have hlt1 : ¬ (j : Int) < (v.l.length : Int) := by omega
            have HGW := hide hgr
            have HT1 := hide (show firstE (partsV d) v.l = 0 by rw [List.take_of_length_le (by omega)] at HF; exact HF.out)
            clear hgr
            go_wp2_with fail
            go_ret
            exact ⟨ret_i (HPS.out.trans HT1.out).symm, gb_trans HG.out HGW.out (.inl rfl)⟩
theorem rParts_d (d : Nat) (hd : d ≤ 1048576) : PartsC d := by
 induction d with
 | zero => exact parts_of 0 (by omega) (fun d' h => by omega)
 | succ d ih =>
  refine parts_of (d + 1) hd (fun d' h => ?_)
  have e : d = d' := by omega
  subst e
  exact ih (by omega)
end Go.Proofs.YtbmgodmfpoappaaGreat
namespace Go.Proofs.YtbmgodmfpoappaaGreat
open Go.RowKit
attribute [local go_sem ↓] Go.wp_at_zero Go.wp_at_succ
def faultsV (v : Vl) : Int := partsV 1048576 v
theorem rParts_full (v : Vl) (w : World) (B : Nat) (nA : Option Addr) (nc : Nat) (sA : Option Addr) (sc : Nat) (lA : Option Addr) (lc : Nat) (ht : v.tot ≤ 1200000000) (hB : B ≤ w.heap.size) (h : VB w B v nA nc sA sc lA lc) :
  Calls Tryz.prog 48 #[.agg #[.int .i64 v.t, .slice nA v.n.length nc, .slice sA v.s.length sc, .slice lA v.l.length lc], .int .i64 1048576] w fun e w' => e = .returned (.int .i64 (faultsV v)) ∧ w.grownBy w' none :=
 rParts_d 1048576 (Nat.le_refl _) v w B nA nc sA sc lA lc ht hB h
def checkV (v : Vl) : Int := if faultsV v = 0 then (if 32 < v.depth then 6 else 0) else faultsV v
set_option maxHeartbeats 8000000 in
set_option maxRecDepth 100000 in
theorem rCheck_any (v : Vl) (w : World) (B : Nat) (nA : Option Addr) (nc : Nat) (sA : Option Addr) (sc : Nat) (lA : Option Addr) (lc : Nat) (ht : v.tot ≤ 1200000000) (hB : B ≤ w.heap.size) (h : VB w B v nA nc sA sc lA lc) :
  Calls Tryz.prog 21 #[.agg #[.int .i64 v.t, .slice nA v.n.length nc, .slice sA v.s.length sc, .slice lA v.l.length lc]] w fun e w' => e = .returned (.int .i64 (checkV v)) ∧ w.grownBy w' none := by
 obtain ⟨wa, hwa⟩ : ∃ wa, wa = w.alloc (.cells #[.int .i64 v.t, .slice nA v.n.length nc, .slice sA v.s.length sc, .slice lA v.l.length lc] 26) := ⟨_, rfl⟩
 have hg : w.grownBy wa none := by rw [hwa]; exact gb_alloc (gb_refl w none) _
 have hc := C4.box w (.int .i64 v.t) (.slice nA v.n.length nc) (.slice sA v.s.length sc) (.slice lA v.l.length lc) 26
 rw [← hwa] at hc
 have b0 : wa.cell? ⟨w.heap.size, 0, none⟩ = some (.int .i64 v.t) := hc.c0
 have b1 : wa.cell? ⟨w.heap.size, 1, none⟩ = some (.slice nA v.n.length nc) := hc.c1
 have b2 : wa.cell? ⟨w.heap.size, 2, none⟩ = some (.slice sA v.s.length sc) := hc.c2
 have b3 : wa.cell? ⟨w.heap.size, 3, none⟩ = some (.slice lA v.l.length lc) := hc.c3
 have hbw := Nat.le_trans hB hg.size
 have hva := h.gb hg hB
 have HP := hide (rParts_full v wa B nA nc sA sc lA lc ht hbw hva)
 have HD := hide (fun w2 (k : wa.grownBy w2 none) => rDepth_any v w2 B nA nc sA sc lA lc ht (Nat.le_trans hbw k.size) (hva.gb k hbw))
 have HG := hide hg
 have HWE := hide hwa
 have HCK := hide (show checkV v = if faultsV v = 0 then (if 32 < v.depth then 6 else 0) else faultsV v from rfl)
 clear ht hB h hg hwa hc hbw hva
 generalize faultsV v = y at HP HCK
 generalize checkV v = z at *
 generalize v.depth = k at *
 by_cases hy : y = 0
 ·have hy1 : (y == 0) = true := int_beq_t hy
  rw [if_pos hy] at HCK
  clear hy
  by_cases hk : 32 < k
  ·have hk1 : (32 : Int) < (k : Int) := by omega
   rw [if_pos hk] at HCK
   clear hk
   go_enter Tryz.func21, Tryz.ntmps21
   go_wp2_with (first
    | (go_at_call 48; rw [← HWE.out]; refine HP.out.mono ?_; rintro e w1 ⟨rfl, hg1⟩; have b0 := cell_gb b0 hg1; have b1 := cell_gb b1 hg1; have b2 := cell_gb b2 hg1; have b3 := cell_gb b3 hg1; have HG1 := hide hg1; clear hg1)
    | (go_at_call 49; refine (HD.out w1 HG1.out).mono ?_; rintro e w2 ⟨rfl, hg2⟩; have HG2 := hide (gb_trans HG1.out hg2 (.inl rfl)); clear hg2))
   go_ret
   exact ⟨ret_i HCK.out.symm, gb_trans HG.out HG2.out (.inl rfl)⟩
  ·have hk1 : ¬ (32 : Int) < (k : Int) := by omega
   rw [if_neg hk] at HCK
   clear hk
   have HY0 := hide (eq_of_beq hy1)
   go_enter Tryz.func21, Tryz.ntmps21
   go_wp2_with (first
    | (go_at_call 48; rw [← HWE.out]; refine HP.out.mono ?_; rintro e w1 ⟨rfl, hg1⟩; have b0 := cell_gb b0 hg1; have b1 := cell_gb b1 hg1; have b2 := cell_gb b2 hg1; have b3 := cell_gb b3 hg1; have HG1 := hide hg1; clear hg1)
    | (go_at_call 49; refine (HD.out w1 HG1.out).mono ?_; rintro e w2 ⟨rfl, hg2⟩; have HG2 := hide (gb_trans HG1.out hg2 (.inl rfl)); clear hg2))
   go_ret
   exact ⟨ret_i (HY0.out.trans HCK.out.symm), gb_trans HG.out HG2.out (.inl rfl)⟩
 ·have hy1 : (y == 0) = false := int_beq_f hy
  rw [if_neg hy] at HCK
  clear hy
  go_enter Tryz.func21, Tryz.ntmps21
  go_wp2_with (go_at_call 48; rw [← HWE.out]; refine HP.out.mono ?_; rintro e w1 ⟨rfl, hg1⟩; have b0 := cell_gb b0 hg1; have b1 := cell_gb b1 hg1; have b2 := cell_gb b2 hg1; have b3 := cell_gb b3 hg1; have HG1 := hide hg1; clear hg1)
  go_ret
  exact ⟨ret_i HCK.out.symm, gb_trans HG.out HG1.out (.inl rfl)⟩
end Go.Proofs.YtbmgodmfpoappaaGreat
namespace Go.Proofs.YtbmgodmfpoappaaGreat
open Go.RowKit
attribute [local go_sem ↓] Go.wp_at_zero Go.wp_at_succ
def SomeI (w : World) (e : Ending) (w' : World) : Prop := ∃ r : Int, e = .returned (.int .i64 r) ∧ w.grownBy w' none
set_option maxHeartbeats 4000000 in
set_option maxRecDepth 100000 in
theorem size7_d (d : Nat) : ∀ (x : Vl) (w : World) (B : Nat) (nA : Option Addr) (nc : Nat) (sA : Option Addr) (sc : Nat) (lA : Option Addr) (lc : Nat), x.depth ≤ d → x.tot ≤ 1200000000 → B ≤ w.heap.size → VB w B x nA nc sA sc lA lc →
  Calls Tryz.prog 20 #[.agg #[.int .i64 x.t, .slice nA x.n.length nc, .slice sA x.s.length sc, .slice lA x.l.length lc]] w (SomeI w) := by
 induction d with
 | zero => intro x; intros; rw [Vl.depth_def] at *; omega
 | succ d ih =>
  intro x w B nA nc sA sc lA lc hd ht hB h
  obtain ⟨l1, l2, l3, l4⟩ := Vl.lens x ht
  obtain ⟨wa, hwa⟩ : ∃ wa, wa = w.alloc (.cells #[.int .i64 x.t, .slice nA x.n.length nc, .slice sA x.s.length sc, .slice lA x.l.length lc] 26) := ⟨_, rfl⟩
  have hb : wa.heap[w.heap.size]? = some (.cells #[.int .i64 x.t, .slice nA x.n.length nc, .slice sA x.s.length sc, .slice lA x.l.length lc] 26 (0, 0)) := by rw [hwa]; exact heap_alloc_new w _
  have hg : w.grownBy wa none := by rw [hwa]; exact gb_alloc (gb_refl w none) _
  have HB := hide hb
  have HG := hide hg
  have HWE := hide hwa
  have HBB := hide hB
  have HL := hide h.l
  have HL3 := hide l3
  have HIH := hide (fun (j : Nat) (hj : j < x.l.length) w2 (hg : w.grownBy w2 none) yA yc zA zc uA uc (hv : VB w2 B x.l[j] yA yc zA zc uA uc) => ih x.l[j] w2 B yA yc zA zc uA uc (by have := Vl.depth_lt (List.getElem_mem hj); omega) (Nat.le_trans (Vl.tot_mem (List.getElem_mem hj)) l4) (Nat.le_trans hB hg.size) hv)
  obtain ⟨c0, c1, c2, c3⟩ : C4 wa w.heap.size 0 (.int .i64 x.t) (.slice nA x.n.length nc) (.slice sA x.s.length sc) (.slice lA x.l.length lc) := c4k hb
  have d0 := c0; have d1 := c1; have d2 := c2; have d3 := c3
  rw [hwa] at d0 d1 d2 d3
  clear hb hg hwa hB h ih hd ht l1 l2 l3 l4
  go_enter Tryz.func20, Tryz.ntmps20
  go_wp2_with fail
  rw [← HWE.out]
  clear d0 d1 d2 d3 c0 c1 c2 c3
  go_loopw [3, 4] (fun u i wr => ∃ (j : Nat) (r : Int), i = .int .i64 (j : Int) ∧ u = .int .i64 r ∧ j ≤ x.l.length ∧ wa.grownBy wr none) (fun _ i _ => x.l.length - (intOf i).toNat)
  case atStart => exact ⟨0, _, rfl, rfl, Nat.zero_le _, gb_refl wa none⟩
  case round =>
   obtain ⟨j, r, rfl, rfl, hj, hgr⟩ := hrel
   have hbx := blk_keep HB.out hgr (by simp)
   obtain ⟨c0, c1, c2, c3⟩ : C4 wr w.heap.size 0 (.int .i64 x.t) (.slice nA x.n.length nc) (.slice sA x.s.length sc) (.slice lA x.l.length lc) := c4k hbx
   have HGR := hide hgr
   by_cases hlt : j < x.l.length
   ·have hlt1 : (j : Int) < (x.l.length : Int) := by omega
    by_cases hr : r ≤ 20000
    ·have hr1 : decide (r ≤ 20000) = true := decide_eq_true hr
     obtain ⟨q, p, yA, yc, zA, zc, uA, uc, hA, hqB, hc4, hvb⟩ := HL.out.at_ hlt
     subst hA
     have hgw : w.grownBy wr none := gb_trans HG.out hgr (.inl rfl)
     obtain ⟨f0, f1, f2, f3⟩ := hc4.gb hgw
     have h6 : IntKind.i64.wrap ((j : Int) + 1) = ((j + 1 : Nat) : Int) := by rw [IntKind.wrap_i64]; have := HL3.out; omega
     have HCALL := hide (HIH.out j hlt wr hgw _ _ _ _ _ _ (hvb.gb hgw HBB.out))
     have HLT := hide hlt
     clear hc4 hvb hgw hgr hbx hj hr
     go_wp2_with (go_at_call 20; refine HCALL.out.mono ?_; rintro e w1 ⟨r2, rfl, hg1⟩; have HG1 := hide hg1; clear hg1)
     go_roundw
     case rel => exact ⟨j + 1, _, by go_num, rfl, by have := HLT.out; omega, gb_trans HGR.out HG1.out (.inl rfl)⟩
     case measure => have := HLT.out; simp [intOf]; omega
    ·have hr1 : decide (r ≤ 20000) = false := decide_eq_false hr
     clear hgr hbx hj hr
     go_wp2_with fail
     exact bodyPost_ret (v := .int .i64 r) (by simp [results, Tryz.results20, go_sem]) rfl ⟨r, rfl, gb_trans HG.out HGR.out (.inl rfl)⟩
   ·have hlt1 : ¬ (j : Int) < (x.l.length : Int) := by omega
    clear hgr hbx hj
    go_wp2_with fail
    exact bodyPost_ret (v := .int .i64 r) (by simp [results, Tryz.results20, go_sem]) rfl ⟨r, rfl, gb_trans HG.out HGR.out (.inl rfl)⟩
def RightR (l : List Vl) (w : World) (e : Ending) (w' : World) : Prop := ∃ b : Bool, e = .returned (.bool b) ∧ (b = true → ∀ x ∈ l, checkV x = 0) ∧ w.grownBy w' none
set_option maxHeartbeats 4000000 in
set_option maxRecDepth 100000 in
theorem right7_any (l : List Vl) (w : World) (B : Nat) (A : Option Addr) (c : Nat) (ht : Vl.tots l ≤ 1200000000) (hB : B ≤ w.heap.size) (h : RdV w B A l) :
  Calls Tryz.prog 4 #[.slice A l.length c] w (RightR l w) := by
 have l1 : l.length ≤ 1200000000 := Nat.le_trans (Vl.length_le_tots l) ht
 have H := hide h
 have HB := hide hB
 have HT := hide ht
 have HL := hide l1
 clear h hB ht l1
 go_enter Tryz.func4, Tryz.ntmps4
 go_wp2_with fail
 go_loopw [3, 4] (fun u i wr => ∃ (j : Nat) (r : Int), i = .int .i64 (j : Int) ∧ u = .int .i64 r ∧ j ≤ l.length ∧ w.grownBy wr none) (fun _ i _ => l.length - (intOf i).toNat)
 case atStart => exact ⟨0, 0, rfl, rfl, Nat.zero_le _, gb_refl w none⟩
 case round =>
  obtain ⟨j, r, rfl, rfl, hj, hgr⟩ := hrel
  have HGR := hide hgr
  by_cases hlt : j < l.length ∧ r ≤ 20000
  ·obtain ⟨hlt, hr⟩ := hlt
   have hlt1 : (j : Int) < (l.length : Int) := by omega
   have hr1 : decide (r ≤ 20000) = true := decide_eq_true hr
   obtain ⟨q, p, yA, yc, zA, zc, uA, uc, hA, hqB, hc4, hvb⟩ := H.out.at_ hlt
   subst hA
   obtain ⟨f0, f1, f2, f3⟩ := hc4.gb hgr
   have h6 : IntKind.i64.wrap ((j : Int) + 1) = ((j + 1 : Nat) : Int) := by rw [IntKind.wrap_i64]; have := HL.out; omega
   have HCALL := hide (size7_d _ l[j] wr B yA yc zA zc uA uc (Nat.le_refl _) (Nat.le_trans (Vl.tot_mem (List.getElem_mem hlt)) HT.out) (Nat.le_trans HB.out hgr.size) (hvb.gb hgr HB.out))
   have HLT := hide hlt
   clear hc4 hvb hgr hj hr
   go_wp2_with (go_at_call 20; refine HCALL.out.mono ?_; rintro e w1 ⟨r2, rfl, hg1⟩; have HG1 := hide hg1; clear hg1)
   go_roundw
   case rel => exact ⟨j + 1, _, by go_num, rfl, by have := HLT.out; omega, gb_trans HGR.out HG1.out (.inl rfl)⟩
   case measure => have := HLT.out; simp [intOf]; omega
  ·have hor : Hid (((j : Int) < (l.length : Int) ∧ decide (r ≤ 20000) = false) ∨ ¬ (j : Int) < (l.length : Int)) := hide (by
    by_cases h1 : j < l.length
    ·exact .inl ⟨by omega, decide_eq_false fun h2 => hlt ⟨h1, h2⟩⟩
    ·exact .inr (by omega))
   clear hlt hgr hj
   rcases hor.out with ⟨k1, k2⟩ | k1
   all_goals
    clear hor
    by_cases hr : 20000 < r
    ·have hr1 : decide (20000 < r) = true := decide_eq_true hr
     clear hr
     go_wp2_with fail
     exact bodyPost_ret (v := .bool false) (by simp [results, Tryz.results4, go_sem]) rfl ⟨false, rfl, (fun h => by cases h), HGR.out⟩
    ·have hr1 : decide (20000 < r) = false := decide_eq_false hr
     have hr2 : ¬ 20000 < r := hr
     clear hr
     go_wp2_with fail
     go_loopw [5] (fun i wr => ∃ j : Nat, i = .int .i64 (j : Int) ∧ j ≤ l.length ∧ Hid (∀ x ∈ l.take j, checkV x = 0) ∧ w.grownBy wr none) (fun i _ => l.length - (intOf i).toNat)
     case atStart => exact ⟨0, rfl, Nat.zero_le _, hide (by simp), HGR.out⟩
     case round =>
      obtain ⟨i, rfl, hi, HE, hgq⟩ := hrel
      have HGQ := hide hgq
      by_cases hlt : i < l.length
      ·have hlt1 : (i : Int) < (l.length : Int) := by omega
       obtain ⟨q, p, yA, yc, zA, zc, uA, uc, hA, hqB, hc4, hvb⟩ := H.out.at_ hlt
       subst hA
       obtain ⟨f0, f1, f2, f3⟩ := hc4.gb hgq
       have h6 : IntKind.i64.wrap ((i : Int) + 1) = ((i + 1 : Nat) : Int) := by rw [IntKind.wrap_i64]; have := HL.out; omega
       obtain ⟨ck, hck, hcall⟩ : ∃ ck, ck = checkV l[i] ∧ Calls Tryz.prog 21 #[.agg #[.int .i64 l[i].t, .slice yA l[i].n.length yc, .slice zA l[i].s.length zc, .slice uA l[i].l.length uc]] wr fun e w' => e = .returned (.int .i64 ck) ∧ wr.grownBy w' none := ⟨_, rfl, rCheck_any l[i] wr B yA yc zA zc uA uc (Nat.le_trans (Vl.tot_mem (List.getElem_mem hlt)) HT.out) (Nat.le_trans HB.out hgq.size) (hvb.gb hgq HB.out)⟩
       have HCALL := hide hcall
       have HLT := hide hlt
       have HTK := hide (show l.take (i + 1) = l.take i ++ [l[i]] from List.take_succ_eq_append_getElem hlt)
       have HCK := hide hck
       clear hc4 hvb hgq hi hck hcall
       by_cases h0 : ck = 0
       ·have h1 : (ck != 0) = false := by simp [h0]
        have H0 := hide h0
        clear h0
        go_wp2_with (go_at_call 21; refine HCALL.out.mono ?_; rintro e w1 ⟨rfl, hg1⟩; have HG1 := hide hg1; clear hg1)
        go_roundw
        case rel => exact ⟨i + 1, by go_num, by have := HLT.out; omega, hide (by rw [HTK.out]; intro x hx; rcases List.mem_append.1 hx with hx | hx; exact HE.out x hx; obtain rfl := List.mem_singleton.1 hx; exact HCK.out.symm.trans H0.out), gb_trans HGQ.out HG1.out (.inl rfl)⟩
        case measure => have := HLT.out; simp [intOf]; omega
       ·have h1 : (ck != 0) = true := by simp [h0]
        clear h0
        go_wp2_with (go_at_call 21; refine HCALL.out.mono ?_; rintro e w1 ⟨rfl, hg1⟩; have HG1 := hide hg1; clear hg1)
        exact bodyPost_ret (v := .bool false) (by simp [results, Tryz.results4, go_sem]) rfl ⟨false, rfl, (fun h => by cases h), gb_trans HGQ.out HG1.out (.inl rfl)⟩
      ·have hlt1 : ¬ (i : Int) < (l.length : Int) := by omega
       have HTT := hide (show l.take i = l from List.take_of_length_le (by omega))
       clear hgq hi hlt
       go_wp2_with fail
       exact bodyPost_ret (v := .bool true) (by simp [results, Tryz.results4, go_sem]) rfl ⟨true, rfl, (fun _ => by have := HE.out; rwa [HTT.out] at this), HGQ.out⟩
end Go.Proofs.YtbmgodmfpoappaaGreat
namespace Go.Proofs.YtbmgodmfpoappaaGreat
open Go.RowKit
theorem own_parts {v : Vl} (h : ownV v = 0) : fieldsOk v = true ∧ manyV v = false ∧ tooLongV v = false ∧ plainV v = true ∧ evenV v = true := by
 unfold ownV at h
 by_cases h1 : fieldsOk v = false
 ·rw [if_pos h1] at h; cases h
 rw [if_neg h1] at h
 by_cases h2 : manyV v = true
 ·rw [if_pos h2] at h; cases h
 rw [if_neg h2] at h
 by_cases h3 : tooLongV v = true
 ·rw [if_pos h3] at h; cases h
 rw [if_neg h3] at h
 by_cases h4 : plainV v = false
 ·rw [if_pos h4] at h; cases h
 rw [if_neg h4] at h
 by_cases h5 : evenV v = false
 ·rw [if_pos h5] at h; cases h
 exact ⟨by simpa using h1, by simpa using h2, by simpa using h3, by simpa using h4, by simpa using h5⟩
theorem atom_same (t : Int) : atomT t = rAtom t := by
 by_cases h : t < 0
 ·by_cases h2 : -5 ≤ t
  ·have : t = -1 ∨ t = -2 ∨ t = -3 ∨ t = -4 ∨ t = -5 := by omega
   rcases this with rfl | rfl | rfl | rfl | rfl <;> rfl
  ·have e : ∀ k : Int, -5 ≤ k → (t == k) = false := fun k hk => by rw [beq_eq_false_iff_ne]; omega
   have e2 : atomT t = false := by
    unfold atomT hasN hasS
    rw [e 1 (by decide), e 2 (by decide), e 4 (by decide), e 5 (by decide), e (-1) (by decide), e (-2) (by decide), e (-4) (by decide), e (-5) (by decide), e 3 (by decide), e (-3) (by decide)]
    simp
   rw [e2]
   unfold rAtom
   simp [h2]
 ·unfold atomT rAtom
  simp [h]
theorem plain_of {v : Vl} (h : plainV v = true) : (rAtom v.t = true → v.n.length + v.s.length = 1) ∧ (v.t = 0 → listV v = true) ∧ (v.t = 98 → tabV v = true) ∧ (v.t = 99 → dicV v = true) ∧ (rAbs v.t = 1 → bitsV v.n = true) ∧ (rAbs v.t = 3 → v.s.all symS = true) := by
 unfold plainV at h
 by_cases ha : rAtom v.t = true ∧ v.n.length + v.s.length ≠ 1
 ·rw [if_pos ha] at h; cases h
 rw [if_neg ha] at h
 refine ⟨fun hr => Classical.byContradiction fun hne => ha ⟨hr, hne⟩, fun e => ?_, fun e => ?_, fun e => ?_, fun e => ?_, fun e => ?_⟩
 ·rw [if_pos e] at h; exact h
 ·rw [if_neg (by omega), if_pos e] at h; exact h
 ·rw [if_neg (by omega), if_neg (by omega), if_pos e] at h; exact h
 ·have h0 : v.t ≠ 0 := fun h0 => by rw [h0] at e; exact absurd e (by decide)
  have h1 : v.t ≠ 98 := fun h0 => by rw [h0] at e; exact absurd e (by decide)
  have h2 : v.t ≠ 99 := fun h0 => by rw [h0] at e; exact absurd e (by decide)
  have h3 : v.t ≠ 100 := fun h0 => by rw [h0] at e; exact absurd e (by decide)
  rw [if_neg h0, if_neg h1, if_neg h2, if_neg h3, if_pos e] at h
  exact h
 ·have h0 : v.t ≠ 0 := fun h0 => by rw [h0] at e; exact absurd e (by decide)
  have h1 : v.t ≠ 98 := fun h0 => by rw [h0] at e; exact absurd e (by decide)
  have h2 : v.t ≠ 99 := fun h0 => by rw [h0] at e; exact absurd e (by decide)
  have h3 : v.t ≠ 100 := fun h0 => by rw [h0] at e; exact absurd e (by decide)
  rw [if_neg h0, if_neg h1, if_neg h2, if_neg h3, if_neg (by omega), if_pos e] at h
  exact h
theorem fields_sym {v : Vl} (h : fieldsOk v = true) (ht : v.t = 3 ∨ v.t = -3) : v.n = [] ∧ v.l = [] := by
 unfold fieldsOk at h
 simp only [Bool.and_eq_true, Bool.or_eq_true, decide_eq_true_eq] at h
 obtain ⟨⟨⟨_, h1⟩, _⟩, h3⟩ := h
 rcases ht with e | e <;> rw [e] at h1 h3 <;> exact ⟨List.eq_nil_of_length_eq_zero (h1.resolve_left (by decide)), List.eq_nil_of_length_eq_zero (h3.resolve_left (by decide))⟩
theorem fields_num {v : Vl} (h : fieldsOk v = true) (ht : v.t = 1 ∨ v.t = 2 ∨ v.t = 4 ∨ v.t = 5 ∨ v.t = -1 ∨ v.t = -2 ∨ v.t = -4 ∨ v.t = -5) : v.s = [] ∧ v.l = [] := by
 unfold fieldsOk at h
 simp only [Bool.and_eq_true, Bool.or_eq_true, decide_eq_true_eq] at h
 obtain ⟨⟨_, h2⟩, h3⟩ := h
 rcases ht with e | e | e | e | e | e | e | e <;> rw [e] at h2 h3 <;> exact ⟨List.eq_nil_of_length_eq_zero (h2.resolve_left (by decide)), List.eq_nil_of_length_eq_zero (h3.resolve_left (by decide))⟩
theorem getD_at {α : Type} {l : List α} {i : Nat} (h : i < l.length) (d : α) : l.getD i d = l[i] := by simp [List.getD_eq_getElem?_getD, h]
theorem count_sym {v : Vl} (ht : v.t = 3) : v.count = v.s.length := by rw [Vl.count_def, if_neg (by omega), if_pos ht]
theorem count_num {v : Vl} (ht : v.t = 1 ∨ v.t = 2 ∨ v.t = 4 ∨ v.t = 5) : v.count = v.n.length := by rw [Vl.count_def, if_pos ht]
theorem own_zero {d : Nat} {v : Vl} (h : partsV d v = 0) : ownV v = 0 := Classical.byContradiction fun hne => hne (partsV_own hne ▸ h)
theorem rowI_eq (a : Int) (m : Nat) : rowI a m = (List.range m).map fun i : Nat => a + (i : Int) := by
 induction m with
 | zero => rfl
 | succ m ih => rw [rowI, ih, List.range_succ, List.map_append]; rfl
end Go.Proofs.YtbmgodmfpoappaaGreat
