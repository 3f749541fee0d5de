/-
  value.row: its walk.
-/
import Derived.Test.YtniliccobkhnlaaVr
namespace Go.Proofs.Ytniliccobkhnlaa
open Go.RowKit
attribute [local go_sem ↓] Go.wp_at_zero Go.wp_at_succ

theorem elem_gotI (v : Vl) (i : Int) (w : World) (B : Nat) (nA : Option Addr) (nc : Nat) (sA : Option Addr) (sc : Nat) (lA : Option Addr) (lc : Nat) (hi : 0 ≤ i ∧ i < (v.count : Int)) (ht : v.tot ≤ 1100000) (hB : B ≤ w.heap.size) (h : VB w B v nA nc sA sc lA lc) :
    Calls Try.prog 47 #[.agg #[.int .i64 v.t, .slice nA v.n.length nc, .slice sA v.s.length sc, .slice lA v.l.length lc], .int .i64 i] w (GotV (elemV v i.toNat) w B) := by
  obtain ⟨k, rfl⟩ := Int.eq_ofNat_of_zero_le hi.1
  exact elem_got v k w B nA nc sA sc lA lc (by omega) ht hB h
theorem Vl.l_tots {t : Vl} {ts : List Vl} (h : t ∈ ts) (ht : Vl.tots ts ≤ 1100000) : Vl.tots t.l ≤ 1100000 := by
  have h1 := Vl.tot_mem h
  have h2 := Vl.tot_def t
  omega
theorem flatL_le (ts : List Vl) : Vl.tots (ts.flatMap Vl.l) ≤ Vl.tots ts := by
  induction ts with
  | nil => simp [Vl.tots]
  | cons a r ih =>
    rw [List.flatMap_cons, Vl.tots_append]
    simp only [Vl.tots]
    have := Vl.tot_def a
    omega
theorem elems_tots (cs : List Vl) (i : Int) (h : ∀ c ∈ cs, 0 ≤ i ∧ i < (c.count : Int)) : Vl.tots (cs.map fun c => elemV c i.toNat) ≤ Vl.tots cs := by
  induction cs with
  | nil => simp [Vl.tots]
  | cons a r ih =>
    simp only [List.map_cons, Vl.tots]
    have h1 := ih fun c hc => h c (by simp [hc])
    have h2 := h a (by simp)
    have h3 := elemV_tot a i.toNat (by omega)
    omega
/-- What was gathered has room. -/
theorem Gath.parts {w wr : World} {B : Nat} {n : List ByteArray} {x : List Vl} {N E : Value} (h : Gath w B n x N E wr) : ∃ nA nc eA ec xs, N = .slice nA n.length nc ∧ E = .slice eA x.length ec ∧ wr.ownsRow (w.heap.size + 1) 9 1 (.slice nA n.length nc) n.length (strs n) ∧
  wr.ownsRow (w.heap.size + 1) 26 4 (.slice eA x.length ec) x.length (List.flatten xs) ∧ VAll wr B x xs ∧ w.grownBy wr none ∧ wr.heap[w.heap.size]? = some (.cells #[.int .i64 0, .slice none 0 0, .slice none 0 0, .slice none 0 0] 26 (0, 0)) := by
  obtain ⟨nA, nc, eA, ec, xs, rfl, rfl, h⟩ := h
  exact ⟨nA, nc, eA, ec, xs, rfl, rfl, h⟩
theorem V4_one (a : Int) (x y z : Option Addr) (p q r p' q' r' : Nat) : ∀ u ∈ [Value.int .i64 a, .slice x p p', .slice y q q', .slice z r r'], u.oneCell' = true := by
  intro u hu
  simp only [List.mem_cons, List.not_mem_nil, or_false] at hu
  rcases hu with rfl | rfl | rfl | rfl <;> rfl

theorem NewE.of_pair {a b : Vl} {w wr w2 w3 : World} {ca cb : List Value} {fa fb : List Nat} {cs : Array Value} (hw : w.heap.size < wr.heap.size) (hg : w.grownBy wr none) (h2 : wr.grownBy w2 none) (h3 : w2.grownBy w3 none)
    (ha : VOw w2 a ca fa) (hna : New wr w2 fa) (hb : VOw w3 b cb fb) (hnb : New w2 w3 fb) (hcs : cs.toList = ca ++ cb) :
    NewE (.mk 99 [] [] [a, b]) w (.returned (.tuple #[.agg #[.int .i64 99, .slice none 0 0, .slice none 0 0, .slice (some ⟨w3.heap.size, 0, none⟩) 2 2], .int .i64 0]))
      (put4 (w3.alloc (.cells cs 26)) w.heap.size 0 (.int .i64 99) (.slice none 0 0) (.slice none 0 0) (.slice (some ⟨w3.heap.size, 0, none⟩) 2 2)) := by
  have s2 := h2.size
  have s3 := h3.size
  have hk4 : w3.grownBy (w3.alloc (.cells cs 26)) none := gb_alloc (gb_refl w3 none) _
  have s4 : (w3.alloc (.cells cs 26)).heap.size = w3.heap.size + 1 := by simp
  have s5 := put4_size (w3.alloc (.cells cs 26)) w.heap.size 0 (.int .i64 99) (.slice none 0 0) (.slice none 0 0) (.slice (some ⟨w3.heap.size, 0, none⟩) 2 2)
  have hk : ∀ i, i < w3.heap.size + 1 → i ≠ w.heap.size → (put4 (w3.alloc (.cells cs 26)) w.heap.size 0 (.int .i64 99) (.slice none 0 0) (.slice none 0 0) (.slice (some ⟨w3.heap.size, 0, none⟩) 2 2)).heap[i]? = (w3.alloc (.cells cs 26)).heap[i]? := fun i hi hne =>
    (put4_gb _ w.heap.size 0 _ _ _ _).block i (by omega) (by intro e; injection e with e; exact hne e)
  have h4 := ha.length4
  have hc : w3.heap.size ≠ w.heap.size := by omega
  refine ⟨none, 0, none, 0, some ⟨w3.heap.size, 0, none⟩, 2, [w3.heap.size] ++ (fa ++ (fb ++ [])), rfl, ?_, ?_, ?_⟩
  · refine VOw.mk_ (v := .mk 99 [] [] [a, b]) (fn := []) (fs := []) (fl := [w3.heap.size]) (fp := fa ++ (fb ++ [])) (xs := [ca, cb]) ⟨Nat.le_refl _, Nat.le_refl _, Nat.le_refl _⟩ (.inl ⟨rfl, rfl⟩) (.inl ⟨rfl, rfl⟩) ?_ ⟨ca, [cb], fa, fb ++ [], rfl, rfl, VOw.keep _ _ _ ha fun x hx => ?_, cb, [], fb, [], rfl, rfl, VOw.keep _ _ _ hb fun x hx => ?_, rfl, rfl⟩
    · have e : List.flatten [ca, cb] = cs.toList := by rw [hcs]; simp
      rw [e]
      exact Own.lit (t := 26) (by rw [hk _ (by omega) hc]; exact heap_alloc_new w3 _) (by rw [hcs]; intro e; have h := (List.append_eq_nil_iff.1 e).1; rw [h] at h4; cases h4)
    · have h := hna.2 x hx
      rw [hk x (by omega) (by omega), hk4.block x (by omega) (by simp), h3.block x (by omega) (by simp)]
    · have h := hnb.2 x hx
      rw [hk x (by omega) (by omega), hk4.block x (by omega) (by simp)]
  · have h := (hna.app hnb s2 s3)
    refine ⟨?_, fun x hx => ?_⟩
    · simp only [List.append_nil, List.singleton_append, List.nodup_cons]
      exact ⟨fun hm => by have := (h.2 _ hm).2; omega, h.1⟩
    · simp only [List.append_nil, List.singleton_append, List.mem_cons] at hx
      rcases hx with rfl | hx
      · omega
      · have := h.2 x hx; omega
  · exact put4_to (gb_trans (gb_trans (gb_trans hg h2 (.inl rfl)) h3 (.inl rfl)) hk4 (.inl rfl)) (Nat.le_refl _)

set_option maxHeartbeats 16000000 in
set_option maxRecDepth 100000 in
theorem row_walk (ts : List Vl) (i : Int) (w : World) (B : Nat) (A : Option Addr) (c : Nat) (ht : Vl.tots ts ≤ 500000) (hB : B ≤ w.heap.size) (h : RdV w B A ts) :
    Calls Try.prog 45 #[.int .i64 i, .slice A ts.length c] w (RowPost ts i w) := by
  have hl : ts.length ≤ 500000 := Nat.le_trans (Vl.length_le_tots ts) ht
  obtain ⟨wa, hwa⟩ : ∃ wa, wa = w.alloc (.cells #[.int .i64 0, .slice none 0 0, .slice none 0 0, .slice none 0 0] 26) := ⟨_, rfl⟩
  have hg : w.grownBy wa none := by rw [hwa]; exact gb_alloc (gb_refl w none) _
  have hr : wa.heap[w.heap.size]? = some (.cells #[.int .i64 0, .slice none 0 0, .slice none 0 0, .slice none 0 0] 26 (0, 0)) := by rw [hwa]; exact zero_blk w
  have HG := hide hg
  have HR := hide hr
  have HSZ := hide (show wa.heap.size = w.heap.size + 1 by rw [hwa]; simp)
  have HWE := hide hwa
  have HT := hide ht
  have HB := hide hB
  have H := hide h
  clear ht hB h hg hr hwa
  go_enter Try.func45, Try.ntmps45
  go_wp2_with fail
  rw [← HWE.out]
  go_loopw [6, 7, 16] (fun N E k wr => ∃ (j : Nat) (n : List ByteArray) (x : List Vl), k = .int .i64 (j : Int) ∧ j ≤ ts.length ∧ Hid (n = (ts.take j).flatMap Vl.s) ∧ Hid (x = ((ts.take j).flatMap Vl.l).map fun c => elemV c i.toNat) ∧ Gath w B n x N E wr ∧ Hid (rowOk (ts.take j) i)) (fun _ _ k _ => ts.length - (intOf k).toNat)
  case atStart => exact ⟨0, [], [], rfl, Nat.zero_le _, hide rfl, hide rfl, ⟨none, 0, none, 0, [], rfl, rfl, ⟨rfl, .inl ⟨rfl, rfl⟩⟩, ⟨rfl, .inl ⟨rfl, rfl⟩⟩, rfl, HG.out, HR.out⟩, hide fun t ht => by simp at ht⟩
  case round =>
    obtain ⟨j, n, x, rfl, hj, HN, HX, hga, HOK⟩ := hrel
    by_cases hlt : j < ts.length
    · have hlt1 : (j : Int) < (ts.length : Int) := by omega
      obtain ⟨nA, nc, eA, ec, xs, rfl, rfl, hoN, hoE, hax, hgr, hres⟩ := hga.parts
      obtain ⟨q, o, xA, xc, yA, yc, zA, zc, hA, hqB, hc4, hvb⟩ := H.out.at_ hlt
      subst hA
      obtain ⟨d0, d1, d2, d3⟩ := hc4.gb hgr
      have hvr := hvb.gb hgr HB.out
      have hBr := Nat.le_trans HB.out hgr.size
      have hmem : ts[j] ∈ ts := List.getElem_mem hlt
      have hnb : n.length + ts[j].s.length ≤ 1100000 := by
        have h1 := flatS_le (ts.take (j + 1))
        have h2 := Vl.tots_take_le ts (j + 1)
        rw [flatS_take ts j hlt, ← HN.out, List.length_append] at h1
        have := HT.out
        omega
      have HNS : Hid ((ts.take (j + 1)).flatMap Vl.s = n ++ ts[j].s) := hide (by rw [HN.out]; exact flatS_take ts j hlt)
      have HNL : Hid ((ts.take (j + 1)).flatMap Vl.l = (ts.take j).flatMap Vl.l ++ ts[j].l) := hide (by rw [List.take_succ_eq_append_getElem hlt, List.flatMap_append]; simp)
      have HTOK : Hid (rowOk (ts.take (j + 1)) i ↔ rowOk (ts.take j) i ∧ ∀ c ∈ ts[j].l, 0 ≤ i ∧ i < (c.count : Int)) := hide (by
        rw [List.take_succ_eq_append_getElem hlt]
        constructor
        · intro h
          exact ⟨fun t ht => h t (List.mem_append_left _ ht), h ts[j] (List.mem_append_right _ (List.mem_singleton.2 rfl))⟩
        · rintro ⟨h1, h2⟩ t ht
          rcases List.mem_append.1 ht with ht | ht
          · exact h1 t ht
          · obtain rfl := List.mem_singleton.1 ht
            exact h2)
      have hxl : x.length + ts[j].l.length ≤ 500000 := by
        have h1 := flatL_le (ts.take (j + 1))
        have h2 := Vl.tots_take_le ts (j + 1)
        have h3 := Vl.length_le_tots ((ts.take (j + 1)).flatMap Vl.l)
        rw [HNL.out, List.length_append] at h3
        rw [HNL.out] at h1
        have h4 : x.length = ((ts.take j).flatMap Vl.l).length := by rw [HX.out, List.length_map]
        have := HT.out
        omega
      have HTL : Hid (∀ c ∈ ts[j].l, c.tot ≤ 500000) := hide (fun c hc => by
        have h1 := Vl.tot_mem hc
        have h2 := Vl.tot_mem hmem
        have h3 := Vl.tot_def ts[j]
        have := HT.out
        omega)
      have HNO : Hid ((∃ c ∈ ts[j].l, ¬ (0 ≤ i ∧ i < (c.count : Int))) → ¬ rowOk ts i) := hide (fun ⟨c, hc, hn⟩ h => hn (h _ hmem c hc))
      have hgb : wr.grownBy (wr.alloc (.cells #[.int .i64 ts[j].t, .slice xA ts[j].n.length xc, .slice yA ts[j].s.length yc, .slice zA ts[j].l.length zc] 26)) none := gb_alloc (gb_refl wr none) _
      have hX1 := heap_alloc_new wr (.cells #[.int .i64 ts[j].t, .slice xA ts[j].n.length xc, .slice yA ts[j].s.length yc, .slice zA ts[j].l.length zc] 26)
      have HON := hide (hoN.alloc (.cells #[.int .i64 ts[j].t, .slice xA ts[j].n.length xc, .slice yA ts[j].s.length yc, .slice zA ts[j].l.length zc] 26))
      have HGA := hide (hga.keep hgb HB.out)
      have HRS := hide (hvr.s.grown hgb hBr (by simp))
      have HV0 := hide hvb
      have HX1 := hide hX1
      have HBr : Hid (B ≤ (wr.alloc (.cells #[.int .i64 ts[j].t, .slice xA ts[j].n.length xc, .slice yA ts[j].s.length yc, .slice zA ts[j].l.length zc] 26)).heap.size) := hide (Nat.le_trans hBr hgb.size)
      have HL2 : Hid ((strs ts[j].s).length = ts[j].s.length * 1) := hide (by simp [strs])
      have HOC2 := hide (strs_one ts[j].s)
      have HM2 : Hid (n.length + ts[j].s.length ≤ maxLen) := hide (by unfold maxLen; omega)
      have HMB2 : Hid ((n.length + ts[j].s.length) * 16 ≤ 140737488355328) := hide (by omega)
      have HBS : Hid (w.heap.size + 1 ≤ (wr.alloc (.cells #[.int .i64 ts[j].t, .slice xA ts[j].n.length xc, .slice yA ts[j].s.length yc, .slice zA ts[j].l.length zc] 26)).heap.size) := hide (by have := blk_lt hres; have := hgb.size; omega)
      obtain ⟨i2, hi2, hiz2, his2, hib2⟩ := info_parts Try.infoS
      have HJ1 := hide hi2
      have HJZ := hide hiz2
      have HJS := hide his2
      have HJB := hide hib2
      clear hga hoN hoE hax hgr hres hc4 hvb hvr hBr hmem hgb hX1 hi2 hiz2 his2 hib2 xs
      go_wp2_with (at_builtin; refine wpList_append_rd _ rfl (.tmp 20) (.tmp 22) 23 rfl (w.heap.size + 1) 9 i2 (.string ⟨#[]⟩) 1 16 Try.underlying23 HJ1.out HJZ.out HJS.out HJB.out rfl (Nat.succ_pos 0) (.slice nA n.length nc) n.length (strs n) rfl HON.out B yA ts[j].s.length yc (strs ts[j].s) rfl HL2.out HRS.out HOC2.out HM2.out HMB2.out HBS.out ?_
                   intro v5 w5 ho5 hg5 hb5
                   have hga5 := HGA.out.names HB.out ho5 hg5
                   obtain ⟨N5, nc5, rfl, hnc5⟩ := own_slice ho5
                   have hX5 := (hg5.block _ (blk_lt HX1.out) (fun e => own_ne HON.out HX1.out (by decide) e.symm)).trans HX1.out
                   have x3 : w5.cell? ⟨wr.heap.size, 3, none⟩ = some (.slice zA ts[j].l.length zc) := by rw [blk_cell hX5]; rfl
                   have HGA5 := hide hga5
                   clear ho5 hg5 hb5 hga5 hX5 hnc5)
      go_loopw [7, 27] (fun E k w2 => ∃ (m : Nat) (x2 : List Vl), k = .int .i64 (m : Int) ∧ m ≤ ts[j].l.length ∧ Hid (x2 = x ++ (ts[j].l.take m).map fun c => elemV c i.toNat) ∧ Gath w B (n ++ ts[j].s) x2 (.slice N5 (n.length + ts[j].s.length) nc5) E w2 ∧ Hid (∀ c ∈ ts[j].l.take m, 0 ≤ i ∧ i < (c.count : Int))) (fun _ k _ => ts[j].l.length - (intOf k).toNat)
      case atStart => exact ⟨0, x, rfl, Nat.zero_le _, hide (by simp), HGA5.out, hide (by simp)⟩
      case round =>
        obtain ⟨m, x2, rfl, hm, HX2, hga2, HOK2⟩ := hrel
        by_cases hmt : m < ts[j].l.length
        · have hmt1 : (m : Int) < (ts[j].l.length : Int) := by omega
          obtain ⟨N2, nc2, eA2, ec2, xs, hN2, rfl, hoN, hoE, hax, hgr, hres⟩ := hga2.parts
          obtain ⟨q2, o2, aA, ac, bA, bc, cA, cc, hzA, hq2B, hcc, hcv⟩ := HV0.out.l.at_ hmt
          subst hzA
          obtain ⟨f0, f1, f2, f3⟩ := hcc.gb hgr
          have hBw := Nat.le_trans HB.out hgr.size
          have hgb : wr.grownBy (wr.alloc (.cells #[.int .i64 ts[j].l[m].t, .slice aA ts[j].l[m].n.length ac, .slice bA ts[j].l[m].s.length bc, .slice cA ts[j].l[m].l.length cc] 26)) none := gb_alloc (gb_refl wr none) _
          have hcol : ts[j].l[m] ∈ ts[j].l := List.getElem_mem hmt
          have HTC := hide (Nat.le_trans (HTL.out _ hcol) (by omega : 500000 ≤ 1100000))
          have HVC := hide ((hcv.gb hgr HB.out).gb hgb hBw)
          have HBC := hide (Nat.le_trans hBw hgb.size)
          have HLM := hide (show (ts[j].l.take (m + 1)) = ts[j].l.take m ++ [ts[j].l[m]] from List.take_succ_eq_append_getElem hmt)
          by_cases hin : 0 ≤ i ∧ i < (ts[j].l[m].count : Int)
          · have HE := hide (elem_gotI ts[j].l[m] i _ B aA ac bA bc cA cc hin HTC.out HBC.out HVC.out)
            have HIN := hide hin
            have HGA2 := hide (hga2.keep hgb HB.out)
            have hx2l : x2.length ≤ 500000 := by
              rw [HX2.out, List.length_append, List.length_map, List.length_take]
              omega
            obtain ⟨i1, hi1, hiz, his, hib⟩ := info_parts Try.infoV
            have HI1 := hide hi1
            have HIZ := hide hiz
            have HIS := hide his
            have HIB := hide hib
            generalize hy : elemV ts[j].l[m] i.toNat = y at HE
            have HY := hide hy
            have HM2' : Hid (x2.length + 1 ≤ maxLen) := hide (by unfold maxLen; omega)
            have HMB2' : Hid ((x2.length + 1) * 80 ≤ 140737488355328) := hide (by omega)
            clear hin hga2 hoN hoE hax hgr hres hcc hcv hBw hgb hcol hi1 hiz his hib hy hN2 xs
            go_wp2_with (first
              | (go_at_call 47; refine HE.out.mono ?_
                 rintro e w6 ⟨yA, yc, zA6, zc6, uA, uc, rfl, hvb6, hg6⟩
                 have hga6 := HGA2.out.keep hg6 HB.out
                 obtain ⟨N6, nc6, eA6, ec6, xs, hN6, hE6, hoN6, hoE6, hax6, hgr6, hres6⟩ := hga6.parts
                 simp only [Value.slice.injEq] at hE6
                 obtain ⟨rfl, _, rfl⟩ := hE6
                 have hk4 : w6.grownBy ((w6.alloc (.cells #[.int .i64 y.t, .slice yA y.n.length yc, .slice zA6 y.s.length zc6, .slice uA y.l.length uc] 26)).alloc (.cells #[.int .i64 y.t, .slice yA y.n.length yc, .slice zA6 y.s.length zc6, .slice uA y.l.length uc] 26)) none := gb_alloc (gb_alloc (gb_refl w6 none) _) _
                 have hB6 := Nat.le_trans HB.out hgr6.size
                 have HGA4 := hide (hga6.keep hk4 HB.out)
                 have HOE4 := hide ((hoE6.alloc (.cells #[.int .i64 y.t, .slice yA y.n.length yc, .slice zA6 y.s.length zc6, .slice uA y.l.length uc] 26)).alloc (.cells #[.int .i64 y.t, .slice yA y.n.length yc, .slice zA6 y.s.length zc6, .slice uA y.l.length uc] 26))
                 have HAX4 := hide (hax6.grown hk4 hB6 (by simp))
                 have HVY4 := hide ((hvb6.gb hk4 hB6).at_)
                 have HRD4 := hide ((Own.lit (alloc2_blk w6 (.cells #[.int .i64 y.t, .slice yA y.n.length yc, .slice zA6 y.s.length zc6, .slice uA y.l.length uc] 26) (.cells #[.int .i64 y.t, .slice yA y.n.length yc, .slice zA6 y.s.length zc6, .slice uA y.l.length uc] 26)) (by simp)).rd (B := w6.heap.size + 2) (fun b hb => by obtain rfl := List.mem_singleton.1 hb; omega))
                 have HOC4 := hide (V4_one y.t yA zA6 uA y.n.length y.s.length y.l.length yc zc6 uc)
                 have HBS4 : Hid (w.heap.size + 1 ≤ ((w6.alloc (.cells #[.int .i64 y.t, .slice yA y.n.length yc, .slice zA6 y.s.length zc6, .slice uA y.l.length uc] 26)).alloc (.cells #[.int .i64 y.t, .slice yA y.n.length yc, .slice zA6 y.s.length zc6, .slice uA y.l.length uc] 26)).heap.size) := hide (by have := blk_lt hres6; have := hk4.size; omega)
                 clear hvb6 hg6 hga6 hN6 hoN6 hoE6 hax6 hgr6 hres6 hk4 hB6)
              | (at_builtin; refine wpList_append_rd _ rfl (.tmp 41) (.tmp 43) 24 rfl (w.heap.size + 1) 26 i1 (.agg #[.int .i64 0, .slice none 0 0, .slice none 0 0, .slice none 0 0]) 4 80 Try.underlying24 HI1.out HIZ.out HIS.out HIB.out rfl (Nat.succ_pos 3) (.slice eA2 x2.length ec2) x2.length (List.flatten xs) rfl HOE4.out (w6.heap.size + 2) (some ⟨w6.heap.size + 1, 0, none⟩) 1 1 [.int .i64 y.t, .slice yA y.n.length yc, .slice zA6 y.s.length zc6, .slice uA y.l.length uc] rfl rfl HRD4.out HOC4.out HM2'.out HMB2'.out HBS4.out ?_
                 intro v7 w7 ho7 hg7 hb7
                 have HGA7 := hide (HGA4.out.elem HB.out HVY4.out HOE4.out HAX4.out ho7 hg7)
                 clear ho7 hg7 hb7))
            go_roundw
            case rel =>
              refine ⟨m + 1, x2 ++ [y], by go_num, by omega, hide ?_, HGA7.out, hide ?_⟩
              · rw [HX2.out, HLM.out, List.map_append, ← List.append_assoc]
                simp [HY.out]
              · rw [HLM.out]
                intro c hc
                rcases List.mem_append.1 hc with hc | hc
                · exact HOK2.out c hc
                · obtain rfl := List.mem_singleton.1 hc
                  exact HIN.out
            case measure => simp [intOf]; omega
          · have HE := hide (elem_err ts[j].l[m] i _ B aA ac bA bc cA cc (by omega) HTC.out HBC.out HVC.out)
            have HNR := hide (HNO.out ⟨_, hcol, hin⟩)
            have HGA2 := hide (hga2.keep hgb HB.out)
            clear hin hga2 hoN hoE hax hgr hres hcc hcv hBw hgb hcol hN2 xs
            go_wp2_with (go_at_call 47; refine HE.out.mono ?_
                         rintro e w6 ⟨rfl, hg6⟩
                         have hga6 := (HGA2.out.keep hg6 HB.out).keep (gb_alloc (gb_refl w6 none) (.cells #[.int .i64 0, .slice none 0 0, .slice none 0 0, .slice none 0 0] 26)) HB.out
                         obtain ⟨N6, nc6, eA6, ec6, xs, hN6, hE6, hoN6, hoE6, hax6, hgr6, hres6⟩ := hga6.parts
                         have p0 : (w6.alloc (.cells #[.int .i64 0, .slice none 0 0, .slice none 0 0, .slice none 0 0] 26)).cell? ⟨w.heap.size, 0, none⟩ = some (.int .i64 0) := by rw [blk_cell hres6]; rfl
                         have p1 : (w6.alloc (.cells #[.int .i64 0, .slice none 0 0, .slice none 0 0, .slice none 0 0] 26)).cell? ⟨w.heap.size, 1, none⟩ = some (.slice none 0 0) := by rw [blk_cell hres6]; rfl
                         have p2 : (w6.alloc (.cells #[.int .i64 0, .slice none 0 0, .slice none 0 0, .slice none 0 0] 26)).cell? ⟨w.heap.size, 2, none⟩ = some (.slice none 0 0) := by rw [blk_cell hres6]; rfl
                         have p3 : (w6.alloc (.cells #[.int .i64 0, .slice none 0 0, .slice none 0 0, .slice none 0 0] 26)).cell? ⟨w.heap.size, 3, none⟩ = some (.slice none 0 0) := by rw [blk_cell hres6]; rfl
                         have z0 := blk_frozen hres6 0
                         have z1 := blk_frozen hres6 1
                         have z2 := blk_frozen hres6 2
                         have z3 := blk_frozen hres6 3
                         have HG6 := hide hgr6
                         clear hga6 hN6 hE6 hoN6 hoE6 hax6 hgr6 hres6 hg6)
            refine bodyPost_ret (v := .tuple #[.agg #[.int .i64 0, .slice none 0 0, .slice none 0 0, .slice none 0 0], .int .i64 33]) (by simp [results, Try.results45, go_sem, p0, p1, p2, p3]) rfl ?_
            exact .inr ⟨HNR.out, rfl, put4_to HG6.out (Nat.le_refl _)⟩
        · have hmt1 : ¬ (m : Int) < (ts[j].l.length : Int) := by omega
          have HEM := hide (show ts[j].l.take m = ts[j].l from List.take_of_length_le (by omega))
          have HGA2 := hide hga2
          clear hga2
          go_wp2_with fail
          go_roundw
          case rel =>
            refine ⟨j + 1, n ++ ts[j].s, x2, by go_num, by omega, hide HNS.out.symm, hide ?_, HGA2.out, hide ?_⟩
            · rw [HX2.out, HEM.out, HNL.out, List.map_append, HX.out]
            · rw [HTOK.out]
              refine ⟨HOK.out, ?_⟩
              have := HOK2.out
              rwa [HEM.out] at this
          case measure => simp [intOf]; omega
    · have hlt1 : ¬ (j : Int) < (ts.length : Int) := by omega
      have HTE := hide (show ts.take j = ts from List.take_of_length_le (by omega))
      rw [HTE.out] at HN HX HOK
      obtain ⟨nA, nc, eA, ec, xs, rfl, rfl, hoN, hoE, hax, hgr, hres⟩ := hga.parts
      have hxt : Vl.tots x ≤ 500000 := by
        rw [HX.out]
        have h1 := elems_tots (ts.flatMap Vl.l) i (fun c hc => by
          obtain ⟨t, ht, hct⟩ := List.mem_flatMap.1 hc
          exact HOK.out t ht c hct)
        have h2 := flatL_le ts
        have := HT.out
        omega
      have hnl : n.length ≤ 500000 := by
        rw [HN.out]
        have h1 := flatS_le ts
        have := HT.out
        omega
      have HS := hide (sym_any nA nc wr.heap.size n wr (Rd.of_own hoN) (Nat.le_refl _) (by omega))
      have HOF := hide (fun w2 (k : wr.grownBy w2 none) => of_any x w2 w2.heap.size eA ec (by omega) (Nat.le_refl _) ⟨xs, Rd.of_own (hoE.kept k (by cases (Value.slice eA x.length ec).ownBlock <;> simp)), VAll.mk_ hax.length fun i h1 h2 => by
        obtain ⟨_, h8⟩ := hax.at_ h1
        exact (h8.gb k (Nat.le_trans HB.out hgr.size)).up (Nat.le_trans (Nat.le_trans HB.out hgr.size) k.size)⟩)
      have HRES := hide hres
      have HGR := hide hgr
      clear hga hoN hoE hax hgr hres hxt hnl xs
      go_wp2_with (first
        | (go_at_call 40; refine HS.out.mono ?_
           rintro e w2 ⟨nB, nd, sA, sc, lB, ld, fa, rfl, ha, hna, hg2⟩
           have HA := hide ha
           have HNA := hide hna
           have HG2 := hide hg2
           clear ha hna hg2)
        | (go_at_call 34; refine (HOF.out _ HG2.out).mono ?_
           rintro e w3 ⟨uA, uc, vA, vc, tA, tc, fb, rfl, hb, hnb, hg3⟩
           have HBV := hide hb
           have HNB := hide hnb
           have HG3 := hide hg3
           have hr3 := (hg3.block _ (by have := blk_lt HRES.out; have := HG2.out.size; omega) (by simp)).trans ((HG2.out.block _ (blk_lt HRES.out) (by simp)).trans HRES.out)
           have hr4 : ∀ o : Obj, (w3.alloc o).heap[w.heap.size]? = some (.cells #[.int .i64 0, .slice none 0 0, .slice none 0 0, .slice none 0 0] 26 (0, 0)) := fun o => ((gb_alloc (gb_refl w3 none) o).block _ (blk_lt hr3) (by simp)).trans hr3
           have p0 : ∀ o : Obj, (w3.alloc o).cell? ⟨w.heap.size, 0, none⟩ = some (.int .i64 0) := fun o => by rw [blk_cell (hr4 o)]; rfl
           have p1 : ∀ o : Obj, (w3.alloc o).cell? ⟨w.heap.size, 1, none⟩ = some (.slice none 0 0) := fun o => by rw [blk_cell (hr4 o)]; rfl
           have p2 : ∀ o : Obj, (w3.alloc o).cell? ⟨w.heap.size, 2, none⟩ = some (.slice none 0 0) := fun o => by rw [blk_cell (hr4 o)]; rfl
           have p3 : ∀ o : Obj, (w3.alloc o).cell? ⟨w.heap.size, 3, none⟩ = some (.slice none 0 0) := fun o => by rw [blk_cell (hr4 o)]; rfl
           have z0 : ∀ o : Obj, (w3.alloc o).frozen? ⟨w.heap.size, 0, none⟩ = false := fun o => blk_frozen (hr4 o) 0
           have z1 : ∀ o : Obj, (w3.alloc o).frozen? ⟨w.heap.size, 1, none⟩ = false := fun o => blk_frozen (hr4 o) 1
           have z2 : ∀ o : Obj, (w3.alloc o).frozen? ⟨w.heap.size, 2, none⟩ = false := fun o => blk_frozen (hr4 o) 2
           have z3 : ∀ o : Obj, (w3.alloc o).frozen? ⟨w.heap.size, 3, none⟩ = false := fun o => blk_frozen (hr4 o) 3
           clear hb hnb hg3 hr3 hr4))
      refine bodyPost_ret (v := .tuple #[.agg #[.int .i64 99, .slice none 0 0, .slice none 0 0, .slice (some ⟨w3.heap.size, 0, none⟩) 2 2], .int .i64 0]) (by simp [results, Try.results45, go_sem, p0, p1, p2, p3]) rfl ?_
      refine .inl ⟨HOK.out, ?_⟩
      have hv : rowV ts i.toNat = .mk 99 [] [] [.mk 3 [] n [], ofV x] := by unfold rowV; rw [← HN.out, ← HX.out]
      rw [hv]
      exact NewE.of_pair (blk_lt HRES.out) HGR.out HG2.out HG3.out HA.out HNA.out HBV.out HNB.out rfl
end Go.Proofs.Ytniliccobkhnlaa
