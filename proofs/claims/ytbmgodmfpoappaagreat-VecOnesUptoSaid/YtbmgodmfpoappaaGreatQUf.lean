/-
  The document's Cast.
-/
import Derived.Test.YtbmgodmfpoappaaGreatQKu
import Derived.Test.YtbmgodmfpoappaaGreatQKr
import Derived.Test.YtbmgodmfpoappaaGreatQQn
import Derived.Deep.CutBlock
namespace Go.Proofs.YtbmgodmfpoappaaGreat
open Go.RowKit
attribute [local go_sem ↓] Go.wp_at_zero Go.wp_at_succ
def mapO (f : Int → Option Int) : List Int → Option (List Int)
 | [] => some []
 | x :: l => (f x).bind fun y => (mapO f l).map (y :: ·)
def castD (f t n : Int) : Option Int :=
 if t = 1 then some (if n ≠ 0 ∧ ¬ (n = -9223372036854775808 ∧ f ≠ 1) then 1 else 0)
 else if n = -9223372036854775808 ∨ f = t then some n
 else if t = 5 then sclI n 10000 1
 else if f = 5 then sclI n 1 10000
 else some n
def MapP (y : Option (List Int)) (t : Int) (w : World) : Ending → World → Prop :=
 match y with
 | some l => NewE (.mk t l [] []) w
 | none => ErrV 70 w
theorem mapO_snoc (f : Int → Option Int) (l : List Int) (x : Int) : mapO f (l ++ [x]) = (mapO f l).bind fun ys => (f x).map fun y => ys ++ [y] := by
 induction l with
 | nil => cases h : f x <;> simp [mapO, h]
 | cons a l ih =>
  rw [List.cons_append]
  unfold mapO
  rw [ih]
  cases f a with
  | none => rfl
  | some y => cases mapO f l with
   | none => rfl
   | some ys => cases f x <;> rfl
theorem mapO_none (f : Int → Option Int) (l r : List Int) (h : mapO f l = none) : mapO f (l ++ r) = none := by
 induction l with
 | nil => simp [mapO] at h
 | cons a l ih =>
  rw [List.cons_append]
  unfold mapO at h ⊢
  cases hf : f a with
  | none => rfl
  | some y =>
   rw [hf] at h
   simp only [Option.bind_some, Option.map_eq_none_iff] at h ⊢
   exact ih h
set_option maxHeartbeats 8000000 in
set_option maxRecDepth 100000 in
theorem rCast_in (t : Int) (v : Vl) (w : World) (B : Nat) (nA : Option Addr) (nc : Nat) (sA : Option Addr) (sc : Nat) (lA : Option Addr) (lc : Nat) (htt : t = 1 ∨ t = 2 ∨ t = 4 ∨ t = 5) (hs : hasN v.t = true) (hI : ∀ x ∈ v.n, I64 x) (ht : v.tot ≤ 1200000000) (hB : B ≤ w.heap.size) (h : VB w B v nA nc sA sc lA lc) :
  Calls Tryz.prog 17 #[.int .i64 t, .agg #[.int .i64 v.t, .slice nA v.n.length nc, .slice sA v.s.length sc, .slice lA v.l.length lc]] w (MapP (mapO (castD (rkd v.t) t) v.n) (likeT v.t t) w) := by
 obtain ⟨l1, l2, l3, l4⟩ := Vl.lens v ht
 obtain ⟨wa, hwa⟩ : ∃ wa, wa = (w.alloc (.cells #[.int .i64 v.t, .slice nA v.n.length nc, .slice sA v.s.length sc, .slice lA v.l.length lc] 26)).alloc (.cells #[.int .i64 0, .slice none 0 0, .slice none 0 0, .slice none 0 0] 26) := ⟨_, rfl⟩
 have bx : wa.heap[w.heap.size]? = some (.cells #[.int .i64 v.t, .slice nA v.n.length nc, .slice sA v.s.length sc, .slice lA v.l.length lc] 26 (0, 0)) := by rw [hwa]; exact (Below.heap_alloc _ _ _ (by rw [World.size_alloc]; omega)).trans (heap_alloc_new w _)
 have bz : wa.heap[w.heap.size + 1]? = some (.cells #[.int .i64 0, .slice none 0 0, .slice none 0 0, .slice none 0 0] 26 (0, 0)) := by rw [hwa]; have := heap_alloc_new (w.alloc (.cells #[.int .i64 v.t, .slice nA v.n.length nc, .slice sA v.s.length sc, .slice lA v.l.length lc] 26)) (.cells #[.int .i64 0, .slice none 0 0, .slice none 0 0, .slice none 0 0] 26); rwa [World.size_alloc] at this
 have HBX := hide bx
 have HBZ := hide bz
 have HSZ := hide (show wa.heap.size = w.heap.size + 2 by rw [hwa]; simp)
 have HG := hide (show w.grownBy wa none by rw [hwa]; exact gb_alloc (gb_alloc (gb_refl w none) _) _)
 have HWE := hide hwa
 obtain ⟨c0, c1, c2, c3⟩ : C4 wa w.heap.size 0 (.int .i64 v.t) (.slice nA v.n.length nc) (.slice sA v.s.length sc) (.slice lA v.l.length lc) := c4k bx
 have hnu := fun w2 => rNumeric_any v.t (.slice nA v.n.length nc) (.slice sA v.s.length sc) (.slice lA v.l.length lc) w2
 rw [hs] at hnu
 have HNU := hide hnu
 have hat := fun w2 => rAtom_any v.t (.slice nA v.n.length nc) (.slice sA v.s.length sc) (.slice lA v.l.length lc) w2
 have HKD := hide (fun w2 => rKind_any v.t (by simp only [hasN, Bool.or_eq_true, beq_iff_eq] at hs; omega) (.slice nA v.n.length nc) (.slice sA v.s.length sc) (.slice lA v.l.length lc) w2)
 have HL := hide l1
 have HN := hide h.n
 have HI := hide hI
 have HBB := hide hB
 have hlk : likeT v.t t = if rAtom v.t = true then -t else t := by unfold likeT; rw [atom_same]
 have hntw : IntKind.i64.wrap (-t) = -t := by rw [IntKind.wrap_i64]; omega
 clear hnu hs bx bz hwa h hB ht l1 l2 l3 l4 hI
 generalize hfr : rkd v.t = fr at *
 clear hfr
 cases hra : rAtom v.t
 ·rw [hra] at hat
  have HAT := hide hat
  have HLK := hide (show likeT v.t t = t by rw [hlk, hra]; rfl)
  clear hat hlk hra
  go_enter Tryz.func17, Tryz.ntmps17
  go_upto_region 1 with fail
  rw [← HWE.out]
  go_cut [24] (fun b wc => b = .bool false ∧ wa = wc)
  case first =>
   clear hntw
   rcases htt with rfl | rfl | rfl | rfl
   all_goals
    go_wp2_with fail
    go_meet
    case rel => exact ⟨rfl, rfl⟩
  case rest =>
   obtain ⟨rfl, rfl⟩ := hcut
   clear htt
   obtain ⟨c0, c1, c2, c3⟩ := c4k (blk_keep HBX.out (gb_refl wa none) (by simp))
   go_upto_region 8 with (first
    | (go_at_call 36; refine (HNU.out _).mono ?_; rintro e w1 ⟨rfl, hg1⟩; have HGA1 := hide hg1; have HG1 := hide (gb_trans HG.out hg1 (.inl rfl)); clear hg1 c0 c1 c2 c3; obtain ⟨c0, c1, c2, c3⟩ := c4k (blk_keep HBX.out HGA1.out (by simp)); have k0 : ∀ o : Obj, (w1.alloc o).cell? ⟨w.heap.size, 0, none⟩ = some (.int .i64 v.t) := fun o => cell_gb c0 (gb_alloc (gb_refl w1 none) o); have k1 : ∀ o : Obj, (w1.alloc o).cell? ⟨w.heap.size, 1, none⟩ = some (.slice nA v.n.length nc) := fun o => cell_gb c1 (gb_alloc (gb_refl w1 none) o); have k2 : ∀ o : Obj, (w1.alloc o).cell? ⟨w.heap.size, 2, none⟩ = some (.slice sA v.s.length sc) := fun o => cell_gb c2 (gb_alloc (gb_refl w1 none) o); have k3 : ∀ o : Obj, (w1.alloc o).cell? ⟨w.heap.size, 3, none⟩ = some (.slice lA v.l.length lc) := fun o => cell_gb c3 (gb_alloc (gb_refl w1 none) o))
    | (go_at_call 33; refine (HAT.out _).mono ?_; rintro e w6 ⟨rfl, hg6⟩; have hgo := gb_trans (gb_alloc (gb_refl w1 none) (.cells #[.int .i64 t, .slice none 0 0, .slice none 0 0, .slice none 0 0] 26)) hg6 (.inl rfl); have hbo := blk_keep (heap_alloc_new w1 (.cells #[.int .i64 t, .slice none 0 0, .slice none 0 0, .slice none 0 0] 26)) hg6 (by simp); have HGO := hide hgo; have HBO := hide hbo; have p0 : w6.cell? ⟨w1.heap.size, 0, none⟩ = some (.int .i64 t) := (by { rw [blk_cell hbo]; rfl }); have zz := blk_frozen hbo 0; clear hg6 hbo hgo c0 c1 c2 c3 k0 k1 k2 k3))
   obtain ⟨w8, hw8⟩ : ∃ w8, w8 = w6 := ⟨_, rfl⟩
   rw [← hw8]
   have HB8 := hide (show w8.heap[w1.heap.size]? = some (.cells #[.int .i64 t, .slice none 0 0, .slice none 0 0, .slice none 0 0] 26 (0, 0)) by rw [hw8]; exact HBO.out)
   have HG8 := hide (show w1.grownBy w8 none by rw [hw8]; exact HGO.out)
   clear hw8
   clear p0 zz
   obtain ⟨c0, c1, c2, c3⟩ := c4k (blk_keep HBX.out (gb_trans HGA1.out HG8.out (.inl rfl)) (by simp))
   go_upto_region 9 with (go_at_call 31; refine (HKD.out _).mono ?_; rintro e w7 ⟨rfl, hg7⟩; have hb7 := blk_keep HB8.out hg7 (by simp); have HGP0 := hide (show GrowP w1 t [] [] none 0 none 0 w7 from ⟨hb7, ⟨rfl, .inl ⟨rfl, rfl⟩⟩, ⟨rfl, .inl ⟨rfl, rfl⟩⟩, gb_trans HG8.out hg7 (.inl rfl)⟩); clear hg7 hb7 c0 c1 c2 c3)
   go_wp2_with fail
   go_loopw [8] (fun i wq => ∃ (j : Nat) (l : List Int), i = .int .i64 (j : Int) ∧ j ≤ v.n.length ∧ Hid (mapO (castD fr t) (v.n.take j) = some l) ∧ Hid (l.length = j) ∧ ∃ N nN, GrowP w1 t l [] N nN none 0 wq) (fun i _ => v.n.length - (intOf i).toNat)
   case atStart => exact ⟨0, [], rfl, Nat.zero_le _, hide rfl, hide rfl, _, _, HGP0.out⟩
   case round =>
    obtain ⟨j, l, rfl, hj, HLE, HLL, N, nN, hgp⟩ := hrel
    have hgr := gb_trans HGA1.out hgp.hg (.inl rfl)
    obtain ⟨c0, c1, c2, c3⟩ := c4k (blk_keep HBX.out hgr (by simp))
    by_cases hlt : j < v.n.length
    ·have hlt1 : (j : Int) < (v.n.length : Int) := by omega
     have h6 : IntKind.i64.wrap ((j : Int) + 1) = ((j + 1 : Nat) : Int) := by rw [IntKind.wrap_i64]; have := HL.out; omega
     obtain ⟨a, ha, _, hcp0⟩ := HN.out.i64 hlt
     subst ha
     obtain ⟨p, hpe⟩ : ∃ p, p = v.n[j] := ⟨_, rfl⟩
     have hpI : I64 p := HI.out p (by rw [hpe]; exact List.getElem_mem hlt)
     rw [← hpe] at hcp0
     have hcp := cell_gb hcp0 (gb_trans HG.out hgr (.inl rfl))
     have HTK := hide (show mapO (castD fr t) (v.n.take (j + 1)) = (castD fr t p).map fun y => l ++ [y] by rw [List.take_succ_eq_append_getElem hlt, mapO_snoc, HLE.out, ← hpe]; rfl)
     have HPI := hide hpI
     have HM1 : Hid (l.length + 1 ≤ maxLen) := hide (by unfold maxLen; have := HL.out; have := HLL.out; omega)
     have HMB : Hid ((l.length + 1) * 8 ≤ 140737488355328) := hide (by have := HL.out; have := HLL.out; omega)
     have HGP := hide hgp
     have HGR := hide hgr
     have HLT := hide hlt
     clear hgp hlt hj hgr hcp0 hpe hpI
     go_upto_block 2 with fail
     go_cut [9, 10] (fun q b wc => wr = wc ∧ ∃ x : Int, q = .int .i64 x ∧ ((b = .bool true ∧ castD fr t p = some x) ∨ (b = .bool false ∧ castD fr t p = none)))
     case first =>
      clear c0 c1 c2 c3 hcp h6 hlt1
      have HS1 := hide (fun w2 (hn : p ≠ -9223372036854775808) => rScaled_any p 10000 1 (HPI.out.num hn) (by decide) (by decide) (by decide) (by rw [Nat.mod_one]; intro h; exact absurd h (by decide)) w2)
      have HS2 := hide (fun w2 (hn : p ≠ -9223372036854775808) => rScaled_any p 1 10000 (HPI.out.num hn) (by decide) (by decide) (by decide) (fun _ => by have := HPI.out.1; have := HPI.out.2; omega) w2)
      by_cases h1 : t = 1
      ·have t1 := int_beq_t h1
       by_cases hp0 : p = 0
       ·have p0 : (p != 0) = false := by simp [hp0]
        have HX := hide (show castD fr t p = some 0 by unfold castD; rw [if_pos h1, if_neg (fun h => h.1 hp0)])
        clear h1 hp0 HS1 HS2
        go_wp2_with fail
        go_meet
        case rel => exact ⟨rfl, _, rfl, .inl ⟨rfl, HX.out⟩⟩
       ·have p0 : (p != 0) = true := by simp [hp0]
        by_cases hpn : p = -9223372036854775808
        ·have pn := int_beq_t hpn
         by_cases hf : fr = 1
         ·have f1 : (fr != 1) = false := by simp [hf]
          have HX := hide (show castD fr t p = some 1 by unfold castD; rw [if_pos h1, if_pos ⟨hp0, fun h => h.2 hf⟩])
          clear h1 hp0 hpn hf HS1 HS2
          go_wp2_with fail
          go_meet
          case rel => exact ⟨rfl, _, rfl, .inl ⟨rfl, HX.out⟩⟩
         ·have f1 : (fr != 1) = true := by simp [hf]
          have HX := hide (show castD fr t p = some 0 by unfold castD; rw [if_pos h1, if_neg (fun h => h.2 ⟨hpn, hf⟩)])
          clear h1 hp0 hpn hf HS1 HS2
          go_wp2_with fail
          go_meet
          case rel => exact ⟨rfl, _, rfl, .inl ⟨rfl, HX.out⟩⟩
        ·have pn := int_beq_f hpn
         have HX := hide (show castD fr t p = some 1 by unfold castD; rw [if_pos h1, if_pos ⟨hp0, fun h => hpn h.1⟩])
         clear h1 hp0 hpn HS1 HS2
         go_wp2_with fail
         go_meet
         case rel => exact ⟨rfl, _, rfl, .inl ⟨rfl, HX.out⟩⟩
      ·have t1 := int_beq_f h1
       by_cases hpn : p = -9223372036854775808
       ·have pn := int_beq_t hpn
        have HX := hide (show castD fr t p = some p by unfold castD; rw [if_neg h1, if_pos (.inl hpn)])
        clear h1 hpn HS1 HS2
        go_wp2_with fail
        go_meet
        case rel => exact ⟨rfl, _, rfl, .inl ⟨rfl, HX.out⟩⟩
       ·have pn := int_beq_f hpn
        by_cases hft : fr = t
        ·have ft := int_beq_t hft
         have HX := hide (show castD fr t p = some p by unfold castD; rw [if_neg h1, if_pos (.inr hft)])
         clear h1 hpn hft HS1 HS2
         go_wp2_with fail
         go_meet
         case rel => exact ⟨rfl, _, rfl, .inl ⟨rfl, HX.out⟩⟩
        ·have ft := int_beq_f hft
         have hne : ¬ (p = -9223372036854775808 ∨ fr = t) := fun h => h.elim hpn hft
         by_cases h5 : t = 5
         ·have t5 := int_beq_t h5
          have hX : castD fr t p = sclI p 10000 1 := by unfold castD; rw [if_neg h1, if_neg hne, if_pos h5]
          have hs1 := fun w2 => HS1.out w2 hpn
          cases hq : sclI p 10000 1 with
          | none =>
           rw [hq] at hs1
           have HX := hide (hX.trans hq)
           have HS := hide (fun w2 => (show Calls Tryz.prog 41 #[.int .i64 p, .int .i64 1, .int .u64 10000, .int .i64 1] w2 fun e w' => e = .returned (.tuple #[.int .i64 0, .bool false]) ∧ w2 = w' from hs1 w2))
           clear h1 hpn hft hne h5 hX hs1 hq HS1 HS2
           go_wp2_with (go_at_call 41; refine (HS.out _).mono ?_; rintro e w1x ⟨rfl, rfl⟩)
           go_meet
           case rel => exact ⟨rfl, _, rfl, .inr ⟨rfl, HX.out⟩⟩
          | some q9 =>
           rw [hq] at hs1
           have HX := hide (hX.trans hq)
           have HS := hide (fun w2 => (show Calls Tryz.prog 41 #[.int .i64 p, .int .i64 1, .int .u64 10000, .int .i64 1] w2 fun e w' => e = .returned (.tuple #[.int .i64 q9, .bool true]) ∧ w2 = w' from hs1 w2))
           clear h1 hpn hft hne h5 hX hs1 hq HS1 HS2
           go_wp2_with (go_at_call 41; refine (HS.out _).mono ?_; rintro e w1x ⟨rfl, rfl⟩)
           go_meet
           case rel => exact ⟨rfl, _, rfl, .inl ⟨rfl, HX.out⟩⟩
         ·have t5 := int_beq_f h5
          by_cases hf5 : fr = 5
          ·have f5 := int_beq_t hf5
           have hX : castD fr t p = some (flq p 10000) := by unfold castD; rw [if_neg h1, if_neg hne, if_neg h5, if_pos hf5]; exact scl_int p (HPI.out.num hpn)
           have hs1 := fun w2 => HS2.out w2 hpn
           rw [scl_int p (HPI.out.num hpn)] at hs1
           generalize flq p 10000 = q9 at *
           have HX := hide hX
           have HS := hide (fun w2 => (show Calls Tryz.prog 41 #[.int .i64 p, .int .i64 1, .int .u64 1, .int .i64 10000] w2 fun e w' => e = .returned (.tuple #[.int .i64 q9, .bool true]) ∧ w2 = w' from hs1 w2))
           clear h1 hpn hft hne h5 hX hs1 hf5 HS1 HS2
           go_wp2_with (go_at_call 41; refine (HS.out _).mono ?_; rintro e w1x ⟨rfl, rfl⟩)
           go_meet
           case rel => exact ⟨rfl, _, rfl, .inl ⟨rfl, HX.out⟩⟩
          ·have f5 := int_beq_f hf5
           have HX := hide (show castD fr t p = some p by unfold castD; rw [if_neg h1, if_neg hne, if_neg h5, if_neg hf5])
           clear h1 hpn hft hne h5 hf5 HS1 HS2
           go_wp2_with fail
           go_meet
           case rel => exact ⟨rfl, _, rfl, .inl ⟨rfl, HX.out⟩⟩
     case rest =>
      obtain ⟨rfl, x, rfl, hx⟩ := hcut
      obtain ⟨c0, c1, c2, c3⟩ := c4k (blk_keep HBX.out HGR.out (by simp))
      rcases hx with ⟨rfl, hx⟩ | ⟨rfl, hx⟩
      ·have hst : mapO (castD fr t) (v.n.take (j + 1)) = some (l ++ [x]) := by rw [HTK.out, hx]; rfl
       have HST2 := hide hst
       clear hx hst
       obtain ⟨i1, hi1, hiz, his, hib⟩ := info_parts Tryz.info64
       have HI1 := hide hi1
       have HIZ := hide hiz
       have HIS := hide his
       have HIB := hide hib
       clear hi1 hiz his hib
       go_upto_region 25 with fail
       have hk7 : wr.grownBy (wr.alloc (.cells #[.int .i64 x] 2)) none := gb_alloc (gb_refl wr none) _
       have HK7 := hide hk7
       have HON := hide (HGP.out.hn.kept hk7 (by cases (Value.slice N l.length nN).ownBlock <;> simp))
       have HRD := hide (show Rd (wr.alloc (.cells #[.int .i64 x] 2)) (wr.alloc (.cells #[.int .i64 x] 2)).heap.size (some ⟨wr.heap.size, 0, none⟩) (i64s [x]) from (Rd.new wr #[.int .i64 x] 2 _ rfl).more (by rw [World.size_alloc]; exact Nat.le_refl _))
       have HOC := hide (i64s_one [x])
       have HBS : Hid (w1.heap.size + 1 ≤ (wr.alloc (.cells #[.int .i64 x] 2)).heap.size) := hide (by have := blk_lt HGP.out.hh; have := hk7.size; omega)
       have p1 : ∀ o : Obj, (wr.alloc o).cell? ⟨w1.heap.size, 1, none⟩ = some (.slice N l.length nN) := fun o => cell_gb (by rw [blk_cell HGP.out.hh]; rfl) (gb_alloc (gb_refl wr none) o)
       have p0 : wr.cell? ⟨w1.heap.size, 1, none⟩ = some (.slice N l.length nN) := by rw [blk_cell HGP.out.hh]; rfl
       clear hk7
       go_wp2_with (at_builtin; refine wpList_append_rd _ rfl (.tmp 93) (.tmp 95) 22 rfl (w1.heap.size + 1) 2 i1 (.int .i64 0) 1 8 Tryz.underlying22 HI1.out HIZ.out HIS.out HIB.out rfl (Nat.succ_pos 0) (.slice N l.length nN) l.length (i64s l) rfl HON.out (wr.alloc (.cells #[.int .i64 x] 2)).heap.size (some ⟨wr.heap.size, 0, none⟩) 1 1 (i64s [x]) rfl rfl HRD.out HOC.out HM1.out HMB.out HBS.out ?_; intro v5 w5 ho5 hg5 hb5; obtain ⟨N5, nc5, rfl, _⟩ := own_slice ho5; have HST := hide (HGP.out.num (m := [x]) HK7.out ho5 hg5); have hR5 := HST.out.1; have p1 : w5.cell? ⟨w1.heap.size, 1, none⟩ = some (.slice N l.length nN) := (by { rw [blk_cell hR5]; rfl }); have z1 := blk_frozen hR5 1; clear ho5 hg5 hb5 hR5)
       go_roundw
       case rel => exact ⟨j + 1, l ++ [x], by go_num, by have := HLT.out; omega, HST2, hide (by rw [List.length_append, HLL.out]; rfl), N5, nc5, HST.out.2.1⟩
       case measure => have := HLT.out; simp [intOf]; omega
      ·have hst : mapO (castD fr t) v.n = none := by
        have h1 : mapO (castD fr t) (v.n.take (j + 1)) = none := by rw [HTK.out, hx]; rfl
        have h2 := mapO_none (castD fr t) (v.n.take (j + 1)) (v.n.drop (j + 1)) h1
        rwa [List.take_append_drop] at h2
       have HST2 := hide hst
       clear hx hst
       have hrr := blk_keep HBZ.out HGR.out (by simp)
       have HRR := hide hrr
       obtain ⟨z0, z1, z2, z3, y0, y1, y2, y3⟩ := zz4 hrr
       clear hrr
       go_wp2_with fail
       obtain ⟨m0, m1, m2, m3⟩ := C4.put HRR.out (.int .i64 0) (.slice none 0 0) (.slice none 0 0) (.slice none 0 0)
       simp only [put4, Nat.zero_add] at m0 m1 m2 m3
       refine bodyPost_ret (v := .tuple #[.agg #[.int .i64 0, .slice none 0 0, .slice none 0 0, .slice none 0 0], .int .i64 70]) (by simp [results, Tryz.results17, go_sem, m0, m1, m2, m3]) rfl ?_
       rw [HST2.out]
       refine ⟨rfl, ?_⟩
       exact put4_to (gb_trans HG.out HGR.out (.inl rfl)) (Nat.le_succ _)
    ·have hlt1 : ¬ (j : Int) < (v.n.length : Int) := by omega
     have hle := HLE.out
     rw [List.take_of_length_le (by omega)] at hle
     have HLE2 := hide hle
     clear hle hgr
     obtain ⟨hh, hoN, hoS, hg⟩ := hgp
     obtain ⟨_, _, hvN, hcN⟩ := own_slice hoN
     injection hvN with hvN1 hvN2 hvN3
     clear hvN1 hvN2
     subst hvN3
     obtain ⟨f, ho, hnd, hf⟩ := VOw.row64 (t := t) hcN hoN
     have hrr := blk_keep HBZ.out (gb_trans HGA1.out hg (.inl rfl)) (by simp)
     have HFIN := hide (NewE.fin (x := .mk t l [] []) (wa := w1) (g := w.heap.size + 1) ho ⟨hnd, fun b hb => ⟨by have := hf b hb; omega, VOw.lt _ _ _ ho b hb⟩⟩ HG1.out hg (by omega) (by have := blk_lt HBZ.out; have := HGA1.out.size; omega))
     have HRR := hide hrr
     obtain ⟨x0, x1, x2, x3, y0, y1, y2, y3⟩ := four_cells hrr (i := 0) (by decide)
     have z0 := blk_frozen hrr 0
     have z1 := blk_frozen hrr 1
     have z2 := blk_frozen hrr 2
     have z3 := blk_frozen hrr 3
     obtain ⟨q0, q1, q2, q3⟩ : C4 wr w1.heap.size 0 (.int .i64 t) (.slice N l.length nN) (.slice none 0 0) (.slice none 0 0) := c4k hh
     clear hh hoN hoS hg hcN ho hnd hf hrr
     go_wp2_with fail
     obtain ⟨m0, m1, m2, m3⟩ := C4.put HRR.out (.int .i64 t) (.slice N l.length nN) (.slice none 0 0) (.slice none 0 0)
     simp only [put4, Nat.zero_add] at m0 m1 m2 m3
     refine bodyPost_ret (v := .tuple #[.agg #[.int .i64 t, .slice N l.length nN, .slice none 0 0, .slice none 0 0], .int .i64 0]) (by simp [results, Tryz.results17, go_sem, m0, m1, m2, m3]) rfl ?_
     rw [HLK.out, HLE2.out]
     exact HFIN.out
 ·rw [hra] at hat
  have HAT := hide hat
  have HLK := hide (show likeT v.t t = -t by rw [hlk, hra]; rfl)
  clear hat hlk hra
  go_enter Tryz.func17, Tryz.ntmps17
  go_upto_region 1 with fail
  rw [← HWE.out]
  go_cut [24] (fun b wc => b = .bool false ∧ wa = wc)
  case first =>
   clear hntw
   rcases htt with rfl | rfl | rfl | rfl
   all_goals
    go_wp2_with fail
    go_meet
    case rel => exact ⟨rfl, rfl⟩
  case rest =>
   obtain ⟨rfl, rfl⟩ := hcut
   clear htt
   obtain ⟨c0, c1, c2, c3⟩ := c4k (blk_keep HBX.out (gb_refl wa none) (by simp))
   go_upto_region 8 with (first
    | (go_at_call 36; refine (HNU.out _).mono ?_; rintro e w1 ⟨rfl, hg1⟩; have HGA1 := hide hg1; have HG1 := hide (gb_trans HG.out hg1 (.inl rfl)); clear hg1 c0 c1 c2 c3; obtain ⟨c0, c1, c2, c3⟩ := c4k (blk_keep HBX.out HGA1.out (by simp)); have k0 : ∀ o : Obj, (w1.alloc o).cell? ⟨w.heap.size, 0, none⟩ = some (.int .i64 v.t) := fun o => cell_gb c0 (gb_alloc (gb_refl w1 none) o); have k1 : ∀ o : Obj, (w1.alloc o).cell? ⟨w.heap.size, 1, none⟩ = some (.slice nA v.n.length nc) := fun o => cell_gb c1 (gb_alloc (gb_refl w1 none) o); have k2 : ∀ o : Obj, (w1.alloc o).cell? ⟨w.heap.size, 2, none⟩ = some (.slice sA v.s.length sc) := fun o => cell_gb c2 (gb_alloc (gb_refl w1 none) o); have k3 : ∀ o : Obj, (w1.alloc o).cell? ⟨w.heap.size, 3, none⟩ = some (.slice lA v.l.length lc) := fun o => cell_gb c3 (gb_alloc (gb_refl w1 none) o))
    | (go_at_call 33; refine (HAT.out _).mono ?_; rintro e w6 ⟨rfl, hg6⟩; have hgo := gb_trans (gb_alloc (gb_refl w1 none) (.cells #[.int .i64 t, .slice none 0 0, .slice none 0 0, .slice none 0 0] 26)) hg6 (.inl rfl); have hbo := blk_keep (heap_alloc_new w1 (.cells #[.int .i64 t, .slice none 0 0, .slice none 0 0, .slice none 0 0] 26)) hg6 (by simp); have HGO := hide hgo; have HBO := hide hbo; have p0 : w6.cell? ⟨w1.heap.size, 0, none⟩ = some (.int .i64 t) := (by { rw [blk_cell hbo]; rfl }); have zz := blk_frozen hbo 0; clear hg6 hbo hgo c0 c1 c2 c3 k0 k1 k2 k3))
   obtain ⟨w8, hw8⟩ : ∃ w8, w8 = w6.setCell ⟨w1.heap.size, 0, none⟩ (.int .i64 (-t)) := ⟨_, rfl⟩
   rw [← hw8]
   have HB8 := hide (show w8.heap[w1.heap.size]? = some (.cells #[.int .i64 (-t), .slice none 0 0, .slice none 0 0, .slice none 0 0] 26 (0, 0)) by rw [hw8, blk_set HBO.out 0 _]; rfl)
   have HG8 := hide (show w1.grownBy w8 none by rw [hw8]; exact gb_setCell HGO.out (.inr (Nat.le_refl _)) _)
   clear hw8
   clear p0 zz
   obtain ⟨c0, c1, c2, c3⟩ := c4k (blk_keep HBX.out (gb_trans HGA1.out HG8.out (.inl rfl)) (by simp))
   go_upto_region 9 with (go_at_call 31; refine (HKD.out _).mono ?_; rintro e w7 ⟨rfl, hg7⟩; have hb7 := blk_keep HB8.out hg7 (by simp); have HGP0 := hide (show GrowP w1 (-t) [] [] none 0 none 0 w7 from ⟨hb7, ⟨rfl, .inl ⟨rfl, rfl⟩⟩, ⟨rfl, .inl ⟨rfl, rfl⟩⟩, gb_trans HG8.out hg7 (.inl rfl)⟩); clear hg7 hb7 c0 c1 c2 c3)
   go_wp2_with fail
   go_loopw [8] (fun i wq => ∃ (j : Nat) (l : List Int), i = .int .i64 (j : Int) ∧ j ≤ v.n.length ∧ Hid (mapO (castD fr t) (v.n.take j) = some l) ∧ Hid (l.length = j) ∧ ∃ N nN, GrowP w1 (-t) l [] N nN none 0 wq) (fun i _ => v.n.length - (intOf i).toNat)
   case atStart => exact ⟨0, [], rfl, Nat.zero_le _, hide rfl, hide rfl, _, _, HGP0.out⟩
   case round =>
    obtain ⟨j, l, rfl, hj, HLE, HLL, N, nN, hgp⟩ := hrel
    have hgr := gb_trans HGA1.out hgp.hg (.inl rfl)
    obtain ⟨c0, c1, c2, c3⟩ := c4k (blk_keep HBX.out hgr (by simp))
    by_cases hlt : j < v.n.length
    ·have hlt1 : (j : Int) < (v.n.length : Int) := by omega
     have h6 : IntKind.i64.wrap ((j : Int) + 1) = ((j + 1 : Nat) : Int) := by rw [IntKind.wrap_i64]; have := HL.out; omega
     obtain ⟨a, ha, _, hcp0⟩ := HN.out.i64 hlt
     subst ha
     obtain ⟨p, hpe⟩ : ∃ p, p = v.n[j] := ⟨_, rfl⟩
     have hpI : I64 p := HI.out p (by rw [hpe]; exact List.getElem_mem hlt)
     rw [← hpe] at hcp0
     have hcp := cell_gb hcp0 (gb_trans HG.out hgr (.inl rfl))
     have HTK := hide (show mapO (castD fr t) (v.n.take (j + 1)) = (castD fr t p).map fun y => l ++ [y] by rw [List.take_succ_eq_append_getElem hlt, mapO_snoc, HLE.out, ← hpe]; rfl)
     have HPI := hide hpI
     have HM1 : Hid (l.length + 1 ≤ maxLen) := hide (by unfold maxLen; have := HL.out; have := HLL.out; omega)
     have HMB : Hid ((l.length + 1) * 8 ≤ 140737488355328) := hide (by have := HL.out; have := HLL.out; omega)
     have HGP := hide hgp
     have HGR := hide hgr
     have HLT := hide hlt
     clear hgp hlt hj hgr hcp0 hpe hpI
     go_upto_block 2 with fail
     go_cut [9, 10] (fun q b wc => wr = wc ∧ ∃ x : Int, q = .int .i64 x ∧ ((b = .bool true ∧ castD fr t p = some x) ∨ (b = .bool false ∧ castD fr t p = none)))
     case first =>
      clear c0 c1 c2 c3 hcp h6 hlt1
      have HS1 := hide (fun w2 (hn : p ≠ -9223372036854775808) => rScaled_any p 10000 1 (HPI.out.num hn) (by decide) (by decide) (by decide) (by rw [Nat.mod_one]; intro h; exact absurd h (by decide)) w2)
      have HS2 := hide (fun w2 (hn : p ≠ -9223372036854775808) => rScaled_any p 1 10000 (HPI.out.num hn) (by decide) (by decide) (by decide) (fun _ => by have := HPI.out.1; have := HPI.out.2; omega) w2)
      by_cases h1 : t = 1
      ·have t1 := int_beq_t h1
       by_cases hp0 : p = 0
       ·have p0 : (p != 0) = false := by simp [hp0]
        have HX := hide (show castD fr t p = some 0 by unfold castD; rw [if_pos h1, if_neg (fun h => h.1 hp0)])
        clear h1 hp0 HS1 HS2
        go_wp2_with fail
        go_meet
        case rel => exact ⟨rfl, _, rfl, .inl ⟨rfl, HX.out⟩⟩
       ·have p0 : (p != 0) = true := by simp [hp0]
        by_cases hpn : p = -9223372036854775808
        ·have pn := int_beq_t hpn
         by_cases hf : fr = 1
         ·have f1 : (fr != 1) = false := by simp [hf]
          have HX := hide (show castD fr t p = some 1 by unfold castD; rw [if_pos h1, if_pos ⟨hp0, fun h => h.2 hf⟩])
          clear h1 hp0 hpn hf HS1 HS2
          go_wp2_with fail
          go_meet
          case rel => exact ⟨rfl, _, rfl, .inl ⟨rfl, HX.out⟩⟩
         ·have f1 : (fr != 1) = true := by simp [hf]
          have HX := hide (show castD fr t p = some 0 by unfold castD; rw [if_pos h1, if_neg (fun h => h.2 ⟨hpn, hf⟩)])
          clear h1 hp0 hpn hf HS1 HS2
          go_wp2_with fail
          go_meet
          case rel => exact ⟨rfl, _, rfl, .inl ⟨rfl, HX.out⟩⟩
        ·have pn := int_beq_f hpn
         have HX := hide (show castD fr t p = some 1 by unfold castD; rw [if_pos h1, if_pos ⟨hp0, fun h => hpn h.1⟩])
         clear h1 hp0 hpn HS1 HS2
         go_wp2_with fail
         go_meet
         case rel => exact ⟨rfl, _, rfl, .inl ⟨rfl, HX.out⟩⟩
      ·have t1 := int_beq_f h1
       by_cases hpn : p = -9223372036854775808
       ·have pn := int_beq_t hpn
        have HX := hide (show castD fr t p = some p by unfold castD; rw [if_neg h1, if_pos (.inl hpn)])
        clear h1 hpn HS1 HS2
        go_wp2_with fail
        go_meet
        case rel => exact ⟨rfl, _, rfl, .inl ⟨rfl, HX.out⟩⟩
       ·have pn := int_beq_f hpn
        by_cases hft : fr = t
        ·have ft := int_beq_t hft
         have HX := hide (show castD fr t p = some p by unfold castD; rw [if_neg h1, if_pos (.inr hft)])
         clear h1 hpn hft HS1 HS2
         go_wp2_with fail
         go_meet
         case rel => exact ⟨rfl, _, rfl, .inl ⟨rfl, HX.out⟩⟩
        ·have ft := int_beq_f hft
         have hne : ¬ (p = -9223372036854775808 ∨ fr = t) := fun h => h.elim hpn hft
         by_cases h5 : t = 5
         ·have t5 := int_beq_t h5
          have hX : castD fr t p = sclI p 10000 1 := by unfold castD; rw [if_neg h1, if_neg hne, if_pos h5]
          have hs1 := fun w2 => HS1.out w2 hpn
          cases hq : sclI p 10000 1 with
          | none =>
           rw [hq] at hs1
           have HX := hide (hX.trans hq)
           have HS := hide (fun w2 => (show Calls Tryz.prog 41 #[.int .i64 p, .int .i64 1, .int .u64 10000, .int .i64 1] w2 fun e w' => e = .returned (.tuple #[.int .i64 0, .bool false]) ∧ w2 = w' from hs1 w2))
           clear h1 hpn hft hne h5 hX hs1 hq HS1 HS2
           go_wp2_with (go_at_call 41; refine (HS.out _).mono ?_; rintro e w1x ⟨rfl, rfl⟩)
           go_meet
           case rel => exact ⟨rfl, _, rfl, .inr ⟨rfl, HX.out⟩⟩
          | some q9 =>
           rw [hq] at hs1
           have HX := hide (hX.trans hq)
           have HS := hide (fun w2 => (show Calls Tryz.prog 41 #[.int .i64 p, .int .i64 1, .int .u64 10000, .int .i64 1] w2 fun e w' => e = .returned (.tuple #[.int .i64 q9, .bool true]) ∧ w2 = w' from hs1 w2))
           clear h1 hpn hft hne h5 hX hs1 hq HS1 HS2
           go_wp2_with (go_at_call 41; refine (HS.out _).mono ?_; rintro e w1x ⟨rfl, rfl⟩)
           go_meet
           case rel => exact ⟨rfl, _, rfl, .inl ⟨rfl, HX.out⟩⟩
         ·have t5 := int_beq_f h5
          by_cases hf5 : fr = 5
          ·have f5 := int_beq_t hf5
           have hX : castD fr t p = some (flq p 10000) := by unfold castD; rw [if_neg h1, if_neg hne, if_neg h5, if_pos hf5]; exact scl_int p (HPI.out.num hpn)
           have hs1 := fun w2 => HS2.out w2 hpn
           rw [scl_int p (HPI.out.num hpn)] at hs1
           generalize flq p 10000 = q9 at *
           have HX := hide hX
           have HS := hide (fun w2 => (show Calls Tryz.prog 41 #[.int .i64 p, .int .i64 1, .int .u64 1, .int .i64 10000] w2 fun e w' => e = .returned (.tuple #[.int .i64 q9, .bool true]) ∧ w2 = w' from hs1 w2))
           clear h1 hpn hft hne h5 hX hs1 hf5 HS1 HS2
           go_wp2_with (go_at_call 41; refine (HS.out _).mono ?_; rintro e w1x ⟨rfl, rfl⟩)
           go_meet
           case rel => exact ⟨rfl, _, rfl, .inl ⟨rfl, HX.out⟩⟩
          ·have f5 := int_beq_f hf5
           have HX := hide (show castD fr t p = some p by unfold castD; rw [if_neg h1, if_neg hne, if_neg h5, if_neg hf5])
           clear h1 hpn hft hne h5 hf5 HS1 HS2
           go_wp2_with fail
           go_meet
           case rel => exact ⟨rfl, _, rfl, .inl ⟨rfl, HX.out⟩⟩
     case rest =>
      obtain ⟨rfl, x, rfl, hx⟩ := hcut
      obtain ⟨c0, c1, c2, c3⟩ := c4k (blk_keep HBX.out HGR.out (by simp))
      rcases hx with ⟨rfl, hx⟩ | ⟨rfl, hx⟩
      ·have hst : mapO (castD fr t) (v.n.take (j + 1)) = some (l ++ [x]) := by rw [HTK.out, hx]; rfl
       have HST2 := hide hst
       clear hx hst
       obtain ⟨i1, hi1, hiz, his, hib⟩ := info_parts Tryz.info64
       have HI1 := hide hi1
       have HIZ := hide hiz
       have HIS := hide his
       have HIB := hide hib
       clear hi1 hiz his hib
       go_upto_region 25 with fail
       have hk7 : wr.grownBy (wr.alloc (.cells #[.int .i64 x] 2)) none := gb_alloc (gb_refl wr none) _
       have HK7 := hide hk7
       have HON := hide (HGP.out.hn.kept hk7 (by cases (Value.slice N l.length nN).ownBlock <;> simp))
       have HRD := hide (show Rd (wr.alloc (.cells #[.int .i64 x] 2)) (wr.alloc (.cells #[.int .i64 x] 2)).heap.size (some ⟨wr.heap.size, 0, none⟩) (i64s [x]) from (Rd.new wr #[.int .i64 x] 2 _ rfl).more (by rw [World.size_alloc]; exact Nat.le_refl _))
       have HOC := hide (i64s_one [x])
       have HBS : Hid (w1.heap.size + 1 ≤ (wr.alloc (.cells #[.int .i64 x] 2)).heap.size) := hide (by have := blk_lt HGP.out.hh; have := hk7.size; omega)
       have p1 : ∀ o : Obj, (wr.alloc o).cell? ⟨w1.heap.size, 1, none⟩ = some (.slice N l.length nN) := fun o => cell_gb (by rw [blk_cell HGP.out.hh]; rfl) (gb_alloc (gb_refl wr none) o)
       have p0 : wr.cell? ⟨w1.heap.size, 1, none⟩ = some (.slice N l.length nN) := by rw [blk_cell HGP.out.hh]; rfl
       clear hk7
       go_wp2_with (at_builtin; refine wpList_append_rd _ rfl (.tmp 93) (.tmp 95) 22 rfl (w1.heap.size + 1) 2 i1 (.int .i64 0) 1 8 Tryz.underlying22 HI1.out HIZ.out HIS.out HIB.out rfl (Nat.succ_pos 0) (.slice N l.length nN) l.length (i64s l) rfl HON.out (wr.alloc (.cells #[.int .i64 x] 2)).heap.size (some ⟨wr.heap.size, 0, none⟩) 1 1 (i64s [x]) rfl rfl HRD.out HOC.out HM1.out HMB.out HBS.out ?_; intro v5 w5 ho5 hg5 hb5; obtain ⟨N5, nc5, rfl, _⟩ := own_slice ho5; have HST := hide (HGP.out.num (m := [x]) HK7.out ho5 hg5); have hR5 := HST.out.1; have p1 : w5.cell? ⟨w1.heap.size, 1, none⟩ = some (.slice N l.length nN) := (by { rw [blk_cell hR5]; rfl }); have z1 := blk_frozen hR5 1; clear ho5 hg5 hb5 hR5)
       go_roundw
       case rel => exact ⟨j + 1, l ++ [x], by go_num, by have := HLT.out; omega, HST2, hide (by rw [List.length_append, HLL.out]; rfl), N5, nc5, HST.out.2.1⟩
       case measure => have := HLT.out; simp [intOf]; omega
      ·have hst : mapO (castD fr t) v.n = none := by
        have h1 : mapO (castD fr t) (v.n.take (j + 1)) = none := by rw [HTK.out, hx]; rfl
        have h2 := mapO_none (castD fr t) (v.n.take (j + 1)) (v.n.drop (j + 1)) h1
        rwa [List.take_append_drop] at h2
       have HST2 := hide hst
       clear hx hst
       have hrr := blk_keep HBZ.out HGR.out (by simp)
       have HRR := hide hrr
       obtain ⟨z0, z1, z2, z3, y0, y1, y2, y3⟩ := zz4 hrr
       clear hrr
       go_wp2_with fail
       obtain ⟨m0, m1, m2, m3⟩ := C4.put HRR.out (.int .i64 0) (.slice none 0 0) (.slice none 0 0) (.slice none 0 0)
       simp only [put4, Nat.zero_add] at m0 m1 m2 m3
       refine bodyPost_ret (v := .tuple #[.agg #[.int .i64 0, .slice none 0 0, .slice none 0 0, .slice none 0 0], .int .i64 70]) (by simp [results, Tryz.results17, go_sem, m0, m1, m2, m3]) rfl ?_
       rw [HST2.out]
       refine ⟨rfl, ?_⟩
       exact put4_to (gb_trans HG.out HGR.out (.inl rfl)) (Nat.le_succ _)
    ·have hlt1 : ¬ (j : Int) < (v.n.length : Int) := by omega
     have hle := HLE.out
     rw [List.take_of_length_le (by omega)] at hle
     have HLE2 := hide hle
     clear hle hgr
     obtain ⟨hh, hoN, hoS, hg⟩ := hgp
     obtain ⟨_, _, hvN, hcN⟩ := own_slice hoN
     injection hvN with hvN1 hvN2 hvN3
     clear hvN1 hvN2
     subst hvN3
     obtain ⟨f, ho, hnd, hf⟩ := VOw.row64 (t := (-t)) hcN hoN
     have hrr := blk_keep HBZ.out (gb_trans HGA1.out hg (.inl rfl)) (by simp)
     have HFIN := hide (NewE.fin (x := .mk (-t) l [] []) (wa := w1) (g := w.heap.size + 1) ho ⟨hnd, fun b hb => ⟨by have := hf b hb; omega, VOw.lt _ _ _ ho b hb⟩⟩ HG1.out hg (by omega) (by have := blk_lt HBZ.out; have := HGA1.out.size; omega))
     have HRR := hide hrr
     obtain ⟨x0, x1, x2, x3, y0, y1, y2, y3⟩ := four_cells hrr (i := 0) (by decide)
     have z0 := blk_frozen hrr 0
     have z1 := blk_frozen hrr 1
     have z2 := blk_frozen hrr 2
     have z3 := blk_frozen hrr 3
     obtain ⟨q0, q1, q2, q3⟩ : C4 wr w1.heap.size 0 (.int .i64 (-t)) (.slice N l.length nN) (.slice none 0 0) (.slice none 0 0) := c4k hh
     clear hh hoN hoS hg hcN ho hnd hf hrr
     go_wp2_with fail
     obtain ⟨m0, m1, m2, m3⟩ := C4.put HRR.out (.int .i64 (-t)) (.slice N l.length nN) (.slice none 0 0) (.slice none 0 0)
     simp only [put4, Nat.zero_add] at m0 m1 m2 m3
     refine bodyPost_ret (v := .tuple #[.agg #[.int .i64 (-t), .slice N l.length nN, .slice none 0 0, .slice none 0 0], .int .i64 0]) (by simp [results, Tryz.results17, go_sem, m0, m1, m2, m3]) rfl ?_
     rw [HLK.out, HLE2.out]
     exact HFIN.out
end Go.Proofs.YtbmgodmfpoappaaGreat
