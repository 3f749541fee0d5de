/-
  Cast on both sides.
-/
import Derived.Test.YtbmgodmfpoappaaGreatQUd
import Derived.Test.YtbmgodmfpoappaaGreatQUe
import Derived.Test.YtbmgodmfpoappaaGreatQUf
import Derived.Test.YtbmgodmfpoappaaGreatQOl
import Derived.Test.YtbmgodmfpoappaaGreatQUx
namespace Go.Proofs.YtbmgodmfpoappaaGreat
open Go.RowKit
attribute [local go_sem ↓] Go.wp_at_zero Go.wp_at_succ
set_option maxHeartbeats 8000000 in
set_option maxRecDepth 100000 in
theorem rCast_arg (t : Int) (v : Vl) (w : World) (nA : Option Addr) (nc : Nat) (sA : Option Addr) (sc : Nat) (lA : Option Addr) (lc : Nat) (hn : t ≠ 1 ∧ t ≠ 2 ∧ t ≠ 4 ∧ t ≠ 5) :
  Calls Tryz.prog 17 #[.int .i64 t, .agg #[.int .i64 v.t, .slice nA v.n.length nc, .slice sA v.s.length sc, .slice lA v.l.length lc]] w (ErrV 2 w) := by
 obtain ⟨wa, hwa⟩ : ∃ wa, wa = (w.alloc (.cells #[.int .i64 v.t, .slice nA v.n.length nc, .slice sA v.s.length sc, .slice lA v.l.length lc] 26)).alloc (.cells #[.int .i64 0, .slice none 0 0, .slice none 0 0, .slice none 0 0] 26) := ⟨_, rfl⟩
 have bx : wa.heap[w.heap.size]? = some (.cells #[.int .i64 v.t, .slice nA v.n.length nc, .slice sA v.s.length sc, .slice lA v.l.length lc] 26 (0, 0)) := by rw [hwa]; exact (Below.heap_alloc _ _ _ (by rw [World.size_alloc]; omega)).trans (heap_alloc_new w _)
 have bz : wa.heap[w.heap.size + 1]? = some (.cells #[.int .i64 0, .slice none 0 0, .slice none 0 0, .slice none 0 0] 26 (0, 0)) := by rw [hwa]; have := heap_alloc_new (w.alloc (.cells #[.int .i64 v.t, .slice nA v.n.length nc, .slice sA v.s.length sc, .slice lA v.l.length lc] 26)) (.cells #[.int .i64 0, .slice none 0 0, .slice none 0 0, .slice none 0 0] 26); rwa [World.size_alloc] at this
 have HBX := hide bx
 have HBZ := hide bz
 have HSZ := hide (show wa.heap.size = w.heap.size + 2 by rw [hwa]; simp)
 have HG := hide (show w.grownBy wa none by rw [hwa]; exact gb_alloc (gb_alloc (gb_refl w none) _) _)
 have HWE := hide hwa
 obtain ⟨c0, c1, c2, c3⟩ : C4 wa w.heap.size 0 (.int .i64 v.t) (.slice nA v.n.length nc) (.slice sA v.s.length sc) (.slice lA v.l.length lc) := c4k bx
 have e1 : (t != 1) = true := by simp [hn.1]
 have e2 : (t != 2) = true := by simp [hn.2.1]
 have e4 : (t != 4) = true := by simp [hn.2.2.1]
 have e5 : (t != 5) = true := by simp [hn.2.2.2]
 have hrr := blk_keep HBZ.out (gb_refl wa none) (by simp)
 have HRR := hide hrr
 obtain ⟨z0, z1, z2, z3, y0, y1, y2, y3⟩ := zz4 hrr
 clear hrr
 clear hn bx bz hwa
 go_enter Tryz.func17, Tryz.ntmps17
 go_upto_region 1 with fail
 rw [← HWE.out]
 go_wp2_with fail
 obtain ⟨m0, m1, m2, m3⟩ := C4.put HRR.out (.int .i64 0) (.slice none 0 0) (.slice none 0 0) (.slice none 0 0)
 simp only [put4, Nat.zero_add] at m0 m1 m2 m3
 refine bodyPost_ret (v := .tuple #[.agg #[.int .i64 0, .slice none 0 0, .slice none 0 0, .slice none 0 0], .int .i64 2]) (by simp [results, Tryz.results17, go_sem, m0, m1, m2, m3]) rfl ⟨rfl, ?_⟩
 exact put4_to HG.out (Nat.le_succ _)
set_option maxHeartbeats 8000000 in
set_option maxRecDepth 100000 in
theorem rCast_no (t : Int) (v : Vl) (w : World) (nA : Option Addr) (nc : Nat) (sA : Option Addr) (sc : Nat) (lA : Option Addr) (lc : Nat) (htt : t = 1 ∨ t = 2 ∨ t = 4 ∨ t = 5) (hs : hasN v.t = false) :
  Calls Tryz.prog 17 #[.int .i64 t, .agg #[.int .i64 v.t, .slice nA v.n.length nc, .slice sA v.s.length sc, .slice lA v.l.length lc]] w (ErrV 31 w) := by
 obtain ⟨wa, hwa⟩ : ∃ wa, wa = (w.alloc (.cells #[.int .i64 v.t, .slice nA v.n.length nc, .slice sA v.s.length sc, .slice lA v.l.length lc] 26)).alloc (.cells #[.int .i64 0, .slice none 0 0, .slice none 0 0, .slice none 0 0] 26) := ⟨_, rfl⟩
 have bx : wa.heap[w.heap.size]? = some (.cells #[.int .i64 v.t, .slice nA v.n.length nc, .slice sA v.s.length sc, .slice lA v.l.length lc] 26 (0, 0)) := by rw [hwa]; exact (Below.heap_alloc _ _ _ (by rw [World.size_alloc]; omega)).trans (heap_alloc_new w _)
 have bz : wa.heap[w.heap.size + 1]? = some (.cells #[.int .i64 0, .slice none 0 0, .slice none 0 0, .slice none 0 0] 26 (0, 0)) := by rw [hwa]; have := heap_alloc_new (w.alloc (.cells #[.int .i64 v.t, .slice nA v.n.length nc, .slice sA v.s.length sc, .slice lA v.l.length lc] 26)) (.cells #[.int .i64 0, .slice none 0 0, .slice none 0 0, .slice none 0 0] 26); rwa [World.size_alloc] at this
 have HBX := hide bx
 have HBZ := hide bz
 have HSZ := hide (show wa.heap.size = w.heap.size + 2 by rw [hwa]; simp)
 have HG := hide (show w.grownBy wa none by rw [hwa]; exact gb_alloc (gb_alloc (gb_refl w none) _) _)
 have HWE := hide hwa
 obtain ⟨c0, c1, c2, c3⟩ : C4 wa w.heap.size 0 (.int .i64 v.t) (.slice nA v.n.length nc) (.slice sA v.s.length sc) (.slice lA v.l.length lc) := c4k bx
 have hnu := fun w2 => rNumeric_any v.t (.slice nA v.n.length nc) (.slice sA v.s.length sc) (.slice lA v.l.length lc) w2
 rw [hs] at hnu
 have HNU := hide hnu
 clear hnu hs bx bz hwa
 go_enter Tryz.func17, Tryz.ntmps17
 go_upto_region 1 with fail
 rw [← HWE.out]
 go_cut [24] (fun b wc => b = .bool false ∧ wa = wc)
 case first =>
  rcases htt with rfl | rfl | rfl | rfl
  all_goals
   go_wp2_with fail
   go_meet
   case rel => exact ⟨rfl, rfl⟩
 case rest =>
  obtain ⟨rfl, rfl⟩ := hcut
  clear htt
  obtain ⟨c0, c1, c2, c3⟩ := c4k (blk_keep HBX.out (gb_refl wa none) (by simp))
  go_wp2_with (go_at_call 36; refine (HNU.out _).mono ?_; rintro e w1 ⟨rfl, hg1⟩; have HGA1 := hide hg1; clear hg1 c0 c1 c2 c3; have hrr := blk_keep HBZ.out HGA1.out (by simp); have HRR := hide hrr; obtain ⟨z0, z1, z2, z3, y0, y1, y2, y3⟩ := zz4 hrr; clear hrr)
  obtain ⟨m0, m1, m2, m3⟩ := C4.put HRR.out (.int .i64 0) (.slice none 0 0) (.slice none 0 0) (.slice none 0 0)
  simp only [put4, Nat.zero_add] at m0 m1 m2 m3
  refine bodyPost_ret (v := .tuple #[.agg #[.int .i64 0, .slice none 0 0, .slice none 0 0, .slice none 0 0], .int .i64 31]) (by simp [results, Tryz.results17, go_sem, m0, m1, m2, m3]) rfl ⟨rfl, ?_⟩
  exact put4_to (gb_trans HG.out HGA1.out (.inl rfl)) (Nat.le_succ _)
def mapY (o : Option (List Int)) (t : Int) : Vl := match o with | some l => .mk t l [] [] | none => emp
def mapK (o : Option (List Int)) : Int := match o with | some _ => 0 | none => 70
theorem MapP.at {o : Option (List Int)} {t : Int} {w : World} {e : Ending} {w' : World} (h : MapP o t w e w') : AtN (mapY o t) (mapK o) w e w' := by
 cases o with
 | some l => exact NewE.at h
 | none => exact ErrV.at h
theorem mapO_some {f : Int → Option Int} {g : Int → Int} {l : List Int} (h : ∀ x ∈ l, f x = some (g x)) : mapO f l = some (l.map g) := by
 induction l with
 | nil => rfl
 | cons a l ih =>
  unfold mapO
  rw [h a (by simp), ih fun x hx => h x (by simp [hx])]
  rfl
theorem mapO_no {f : Int → Option Int} {l : List Int} (h : ∃ x ∈ l, f x = none) : mapO f l = none := by
 induction l with
 | nil => obtain ⟨x, hx, _⟩ := h; cases hx
 | cons a l ih =>
  unfold mapO
  obtain ⟨x, hx, hn⟩ := h
  rcases List.mem_cons.1 hx with rfl | hx
  ·rw [hn]; rfl
  ·rw [ih ⟨x, hx, hn⟩]; cases f a <;> rfl
theorem mapY_tot (o : Option (List Int)) (t : Int) (f : Int → Option Int) (l : List Int) (h : mapO f l = o) : (mapY o t).tot ≤ 1 + l.length := by
 cases o with
 | none => show emp.tot ≤ _; rw [Vl.tot_def]; simp [emp, Vl.n, Vl.s, Vl.l, Vl.tots, Vl.chars]
 | some m =>
  have hm : m.length = l.length := by
   induction l generalizing m with
   | nil => simp [mapO] at h; rw [h]
   | cons a l ih =>
    unfold mapO at h
    cases hf : f a with
    | none => rw [hf] at h; cases h
    | some y =>
     rw [hf] at h
     cases hr : mapO f l with
     | none => rw [hr] at h; cases h
     | some ys =>
      rw [hr] at h
      have := ih ys hr
      simp at h
      rw [← h]
      simp [this]
  show (Vl.mk t m [] []).tot ≤ _
  rw [tot_num, hm]
  exact Nat.le_refl _
theorem castD_truth {f : Int} {l : List Int} (h : f = 1 → ∀ x ∈ l, x ≠ -9223372036854775808) : mapO (castD f 1) l = some (l.map truI) := mapO_some fun x hx => by
 unfold castD truI
 rw [if_pos rfl]
 by_cases h0 : x = 0
 ·rw [if_neg (fun h => h.1 h0), if_pos (.inl h0)]
 ·by_cases hn : x = -9223372036854775808
  ·rw [if_neg (fun h2 => h2.2 ⟨hn, fun hf => h hf x hx hn⟩), if_pos (.inr hn)]
  ·rw [if_pos ⟨h0, fun h2 => hn h2.1⟩, if_neg (by omega)]
theorem castD_dec {f : Int} (hf : f ≠ 5) (x : Int) : castD f 5 x = decI x := by
 unfold castD decI
 rw [if_neg (by decide)]
 by_cases hn : x = -9223372036854775808
 ·rw [if_pos (.inl hn), if_pos hn]
 ·rw [if_neg (fun h => h.elim hn hf), if_neg hn, if_pos rfl]
theorem castD_int {t : Int} (h1 : t ≠ 1) (h5 : t ≠ 5) (x : Int) : castD 5 t x = intI x := by
 unfold castD intI
 rw [if_neg h1]
 by_cases hn : x = -9223372036854775808
 ·rw [if_pos (.inl hn), if_pos hn]
 ·rw [if_neg (fun h => h.elim hn (fun h => h5 h.symm)), if_neg hn, if_neg h5, if_pos rfl]
theorem castD_same {f t : Int} (h1 : t ≠ 1) (h5 : ¬ (f = 5 ∧ t ≠ 5)) (h6 : ¬ (f ≠ 5 ∧ t = 5)) (x : Int) : castD f t x = some (sameI x) := by
 unfold castD sameI
 rw [if_neg h1]
 by_cases hn : x = -9223372036854775808 ∨ f = t
 ·rw [if_pos hn]
 ·have hft : f ≠ t := fun h => hn (.inr h)
  rw [if_neg hn, if_neg (fun h => h6 ⟨fun hf => hft (hf.trans h.symm), h⟩), if_neg (fun h => h5 ⟨h, fun ht => hft (h.trans ht.symm)⟩)]
theorem mapped_cast (f t : Int) (htt : t = 1 ∨ t = 2 ∨ t = 4 ∨ t = 5) (v : Vl) (w : World) (B : Nat) (nA : Option Addr) (nc : Nat) (sA : Option Addr) (sc : Nat) (lA : Option Addr) (lc : Nat) (hI : ∀ x ∈ v.n, I64 x) (hb : f = 1 → ∀ x ∈ v.n, x ≠ -9223372036854775808) (ht : v.tot ≤ 1200000000) (hB : B ≤ w.heap.size) (h : VB w B v nA nc sA sc lA lc) :
  Calls Tryz.prog 28 #[.agg #[.int .i64 v.t, .slice nA v.n.length nc, .slice sA v.s.length sc, .slice lA v.l.length lc], .int .i64 t, convV f t] w (AtN (mapY (mapO (castD f t) v.n) (likeT v.t t)) (mapK (mapO (castD f t) v.n)) w) := by
 have ht0 : -100 ≤ t ∧ t ≤ 100 := by omega
 by_cases h1 : t = 1
 ·subst h1
  rw [castD_truth hb, show convV f 1 = .func (.func 72) #[] #[] by unfold convV; rw [if_pos rfl]]
  exact (mapped_truth 1 ht0 v w B nA nc sA sc lA lc ht hB h).mono fun e w' h => NewE.at h
 ·by_cases h5 : f = 5 ∧ t ≠ 5
  ·have hc : mapO (castD f t) v.n = some (v.n.map toIntW) := mapO_some fun x hx => by rw [h5.1, castD_int h1 h5.2]; exact intI_some x (hI x hx)
   rw [hc, show convV f t = .func (.func 73) #[] #[] by unfold convV; rw [if_neg h1, if_pos h5]]
   exact (mapped_toInt t ht0 v w B nA nc sA sc lA lc hI ht hB h).mono fun e w' h => NewE.at h
  ·by_cases h6 : f ≠ 5 ∧ t = 5
   ·rw [show convV f t = .func (.func 74) #[] #[] by unfold convV; rw [if_neg h1, if_neg h5, if_pos h6]]
    have hd : ∀ x, castD f t x = decI x := fun x => by rw [h6.2]; exact castD_dec h6.1 x
    by_cases hno : ∃ x ∈ v.n, decI x = none
    ·have hc : mapO (castD f t) v.n = none := mapO_no (by obtain ⟨x, hx, hn⟩ := hno; exact ⟨x, hx, by rw [hd]; exact hn⟩)
     rw [hc]
     exact (mapped_toDec_no t ht0 v w B nA nc sA sc lA lc hI hno ht hB h).mono fun e w' h => ErrV.at h
    ·have hw : ∀ x ∈ v.n, decI x = some (decW x) := fun x hx => by
      unfold decW
      cases hq : decI x with
      | none => exact absurd ⟨x, hx, hq⟩ hno
      | some q => rfl
     have hc : mapO (castD f t) v.n = some (v.n.map decW) := mapO_some fun x hx => by rw [hd]; exact hw x hx
     rw [hc]
     exact (mapped_toDec t ht0 v w B nA nc sA sc lA lc (fun x hx => ⟨hI x hx, hw x hx⟩) ht hB h).mono fun e w' h => NewE.at h
   ·have hc : mapO (castD f t) v.n = some (v.n.map sameI) := mapO_some fun x _ => castD_same h1 h5 h6 x
    rw [hc, show convV f t = .func (.func 75) #[] #[] by unfold convV; rw [if_neg h1, if_neg h5, if_neg h6]]
    exact (mapped_conv1 t ht0 v w B nA nc sA sc lA lc ht hB h).mono fun e w' h => NewE.at h
end Go.Proofs.YtbmgodmfpoappaaGreat
