/-
  The walk of OctetTorn: of frames that are cut off anywhere just the whole ones are told (P1.9).
-/
import Derived.Test.YtdaefgkhimhpdaaLawBrs
import Derived.Test.YtdaefgkhimhpdaaTorn
import Derived.Deep.RegionHeld3
import Derived.Deep.DrawnRows
namespace Go.Proofs.Ytdaefgkhimhpdaa
open Go.RowKit Go.ChangeShapes Go.WideShapes Go.ChangeAt

attribute [local go_sem ↓] Go.wp_at_zero Go.wp_at_succ

theorem Try.infoI : (Try.prog.info? 3).map (fun i => (i.zero, i.size, i.bytes)) = some (some (.int .i64 0), 1, 8) := by kernel_rfl
/-- append at ints, onto a row of the call's own. -/
theorem appI {w : World} {ops : Array Oper} {rest : List Oper} {o : Oper} {a : Act} {Q : Exit → Act → World → Prop} {s x : Operand} {base n B m c : Nat} {v : Value} {xs news : List Value} {A : Option Addr}
    (hown : w.ownsRow base 3 1 v n xs) (hr : Rd w B A news) (hl : news.length = m) (h1 : ∀ u ∈ news, u.oneCell' = true) (hsz : n + m ≤ 2000000000) (hbase : base ≤ w.heap.size)
    (hgd : o.guard = none) (ho : o.op = .call { callee := .builtin .append, args := #[s, x], argTypes := #[78, 78] }) (hs : a.eval s = v) (hx : a.eval x = .slice A m c)
    (h : ∀ v' w', w'.ownsRow base 3 1 v' (n + m) (xs ++ news) → w.grownBy w' v.ownBlock → (v'.ownBlock = v.ownBlock ∨ v'.ownBlock = some w.heap.size) → wpList Try.prog ops Q rest (a.put o.dst v') w') :
    wpList Try.prog ops Q (o :: rest) a w := by
  obtain ⟨i0, hi, hz0, hz1, hz2⟩ := info_parts Try.infoI
  exact wpList_append_rd w hgd s x 78 ho base 3 i0 (.int .i64 0) 1 8 Try.underlying78 hi hz0 hz1 hz2 rfl (by decide) v n xs hs hown B A m c news hx (by omega) hr h1 (by unfold maxLen; omega) (by omega) hbase h

/-- The ends as cells. -/
def endCells (ls : List (List UInt8)) (k : Nat) : List Value := (List.range (k + 1)).map fun j => Value.int .i64 (ends ls j : Int)
theorem endCells_succ (ls : List (List UInt8)) (k : Nat) : endCells ls k ++ [.int .i64 (ends ls (k + 1) : Int)] = endCells ls (k + 1) := by
  unfold endCells
  rw [List.range_succ (n := k + 1), List.map_append]
  rfl
theorem endCells_at (ls : List (List UInt8)) (k j : Nat) (h : j ≤ k) : (endCells ls k)[j]? = some (.int .i64 (ends ls j : Int)) := by
  unfold endCells
  rw [List.getElem?_map, List.getElem?_range (by omega)]
  rfl

/-- The bytes of the lists. -/
def rowsOf (l : List (Option Addr × Nat × List UInt8)) : List (List UInt8) := l.map fun x => x.2.2
theorem rowsOf_length (l : List (Option Addr × Nat × List UInt8)) : (rowsOf l).length = l.length := by simp [rowsOf]
theorem rowsOf_at (l : List (Option Addr × Nat × List UInt8)) (k : Nat) (h : k < l.length) : (rowsOf l)[k]'(by rw [rowsOf_length]; exact h) = l[k].2.2 := by simp [rowsOf]
theorem rowsOf_take (l : List (Option Addr × Nat × List UInt8)) (k : Nat) : rowsOf (l.take k) = (rowsOf l).take k := by simp [rowsOf, List.map_take]
theorem jn_bound {l : List (Option Addr × Nat × List UInt8)} : (jn (rowsOf l)).length = (catB l).length + 8 * l.length := by
  induction l with
  | nil => rfl
  | cons x l ih =>
    have ih' := ih
    unfold rowsOf at ih'
    simp only [rowsOf, List.map_cons, jn_cons, List.length_append, frame_length, ih', catB, List.flatMap_cons, List.length_cons]
    omega

/-- What holds ahead of list k: the frames so far, and their ends. -/
def Joined (ls : List (List UInt8)) (k : Nat) (v5 v6 : Value) (w wr : World) : Prop :=
  wr.ownsRow w.heap.size 5 1 v5 (ends ls k) (u8s (jn (ls.take k))) ∧ wr.ownsRow w.heap.size 3 1 v6 (k + 1) (endCells ls k) ∧ w.grownBy wr none
def JoinedP (ls : List (List UInt8)) (k n : Nat) (bs : List UInt8) (v5 v6 : Value) (w wr : World) : Prop :=
  wr.ownsRow w.heap.size 5 1 v5 n (u8s bs) ∧ wr.ownsRow w.heap.size 3 1 v6 (k + 1) (endCells ls k) ∧ w.grownBy wr none

theorem ends_le (l : List (Option Addr × Nat × List UInt8)) (k : Nat) : ends (rowsOf l) k ≤ (catB (l.take k)).length + 8 * k := by
  unfold ends
  rw [← rowsOf_take, jn_bound]
  have := List.length_take_le k l
  omega
theorem RdB.take {w : World} {B : Nat} {A : Option Addr} {l : List (Option Addr × Nat × List UInt8)} (h : RdB w B A l) (k : Nat) : RdB w B A (l.take k) :=
  ⟨by have := h.1.take k; simpa [sls, List.map_take] using this, fun x hx => h.2 x (List.mem_of_mem_take hx)⟩
theorem own_slice {w : World} {base n : Nat} {t : TypeId} {v : Value} {xs : List Value} (h : w.ownsRow base t 1 v n xs) (hn : 0 < n) : ∃ g c, v = .slice (some ⟨g, 0, none⟩) n c ∧ n ≤ c ∧ c ≤ maxLen := by
  have h0 := h.1
  have h2 := h.2
  rcases h2 with ⟨_, hx⟩ | ⟨g, cap, cur, rfl, _, _, hnc, hcm, _⟩
  · subst hx
    simp at h0
    omega
  · exact ⟨g, cap, rfl, hnc, hcm⟩

theorem own_beside {w w' : World} {o : Obj} {base base' n m : Nat} {e t : TypeId} {v u : Value} {xs ys : List Value} (h : w.ownsRow base e 1 v n xs) (h' : w.ownsRow base' t 1 u m ys) (hne : e ≠ t) (hg : (w.alloc o).grownBy w' u.ownBlock) : w'.ownsRow base e 1 v n xs :=
  (h.alloc o).kept hg (own_ne2 (h.alloc o) (h'.alloc o) hne)

set_option maxHeartbeats 8000000 in
set_option maxRecDepth 100000 in
theorem torn_main (AL : Option Addr) (cl : Nat) (cut : Int) (l : List (Option Addr × Nat × List UInt8)) (w : World)
    (hl : RdB w w.heap.size AL l) (hs : AllTiny l) (h1 : l.length ≤ maxLen) (hlc : l.length ≤ cl) (hb : hugeB l = false) :
    Calls Try.prog 7 #[.slice AL l.length cl, .int .i64 cut] w fun e w' => e = .returned (.bool true) ∧ w.grownBy w' none := by
  have LV := hide live_any
  have HU := hide (huge_any AL cl w.heap.size l w hl hs h1)
  rw [hb] at HU
  obtain ⟨hl60, hcat⟩ := hugeB_bounds hb
  clear hb hs h1
  go_enter Try.func7, Try.ntmps7
  go_wp2_with (go_at_call 17; refine HU.out.mono ?_; rintro e w1 ⟨rfl, rfl⟩)
  go_loopw [5, 6, 7] (fun v5 v6 i wr => ∃ k : Nat, k ≤ l.length ∧ i = .int .i64 k ∧ Joined (rowsOf l) k v5 v6 w wr) (fun _ _ i _ => l.length - (intOf i).toNat)
  case atStart => exact ⟨0, by omega, rfl, World.ownsRow_nil _ _ _ _, own_full _ _ _ 1 rfl (by decide), gb_alloc (gb_refl _ _) _⟩
  case round =>
    obtain ⟨k, hk, rfl, hj⟩ := hrel
    obtain ⟨o5, o6, hg⟩ := hj
    have hgs := hg.size
    have hle := catB_take_le l k
    have hel2 := ends_le l k
    by_cases hlt : k < l.length
    · have hlr := (hl.grown hg (Nat.le_refl _) (by simp)).more hgs
      obtain ⟨ad, rfl, -, hc, hrd, hnc, hcm⟩ := hlr.at_ hlt
      have hel := catB_elem l k hlt
      have E1 := hide (ends_succ (rowsOf l) k (by rw [rowsOf_length]; exact hlt))
      have E2 := hide (jn_take_succ (rowsOf l) k (by rw [rowsOf_length]; exact hlt))
      rw [rowsOf_at l k hlt] at E1 E2
      generalize l[k] = x at *
      obtain ⟨a1, c1, X⟩ := x
      dsimp only at hc hrd hnc hcm hel E1 E2
      have HRD := hide hrd; have HNC := hide hnc; have HCM := hide hcm
      have EX := hide (show (frame X).length = X.length + 8 from frame_length X)
      clear hrd hnc hcm hlr
      generalize rowsOf l = ls at *
      go_wp2_with (first
        | (go_at_call 18; refine (seal_one HRD.out HNC.out HCM.out rfl (by omega)).mono ?_; rintro e w1 ⟨g, cap, rfl, hown1, hg1, hcap, hcm1⟩; have hs1 := hg1.size; have o51 := own_grown o5 hg1; have o61 := own_grown o6 hg1; clear hcm1)
        | (go_at_call 26; refine (num_err _ _).mono ?_; rintro e w8 ⟨rfl, rfl⟩)
        | (at_builtin; refine app8 o51 (Rd.of_own hown1) ((u8s_length _).trans EX.out) (u8s_cell _) (by omega) (by omega) rfl rfl rfl rfl ?_; intro v2 w2 hown2 hg2 hwh2; have hs2 := hg2.size; have o62 := o61.kept hg2 (own_ne2 o61 o51 (by decide)); have gw2 := gb_new (gb_trans hg hg1 (.inl rfl)) o51 hg2; obtain ⟨A2, c2, rfl, _, _, _⟩ := own_form hown2; clear hwh2 hg2)
        | (at_builtin; refine appI (m := 1) (o62.alloc _) (Rd.new _ _ _ _ rfl) rfl (cell1 _ _) (by omega) (by simp; omega) rfl rfl rfl rfl ?_; intro v3 w3 hown3 hg3 hwh3))
      have hown2b := own_beside hown2 o62 (by decide) hg3
      have gw3 := gb_new gw2 o62 (gb_trans (gb_alloc (gb_refl w2 _) _) hg3 (.inl rfl))
      have hq : ends ls k + (X.length + 8) = ends ls (k + 1) := by rw [E1.out]; omega
      have hq2 : jn (ls.take k) ++ frame X = jn (ls.take (k + 1)) := by rw [E2.out]
      have hown5 := own_as (m := ends ls (k + 1)) (ys := u8s (jn (ls.take (k + 1)))) hown2b hq (by rw [← hq2]; exact (u8s_append _ _).symm)
      have hown6 := own_as (m := k + 1 + 1) (ys := endCells ls (k + 1)) hown3 rfl (by rw [← endCells_succ, ← hq]; simp)
      rw [hq] at *
      clear hown3 hown2b hown2 hg3 hwh3 o51 o61 o62 o5 o6 hown1 hg1
      go_roundw
      case rel => exact ⟨k + 1, by omega, by go_num, hown5, hown6, gw3⟩
      case measure => simp [intOf]; omega
    · have hkl : k = l.length := by omega
      have hn := ends_all (rowsOf l)
      have hjt : jn ((rowsOf l).take l.length) = jn (rowsOf l) := by rw [← rowsOf_length l, List.take_length]
      rw [rowsOf_length] at hn
      rw [hkl, hjt] at o5
      rw [hkl] at o6
      have hcatk : (catB (l.take k)).length ≤ 20000 := by omega
      rw [hkl] at hel2 hcatk
      obtain ⟨A5, c5, rfl, hnc5, hcm5, hrd5⟩ := own_form o5
      obtain ⟨g6, c6, rfl, hnc6, hcm6⟩ := own_slice o6 (by omega)
      have hN : ends (rowsOf l) l.length ≤ 30000 := by omega
      have hbig : ∀ x ∈ rowsOf l, x.length ≤ 1048576 := by
        intro x hx
        obtain ⟨y, hy, rfl⟩ := List.mem_map.1 hx
        obtain ⟨j, hj, rfl⟩ := List.mem_iff_getElem.1 hy
        have := catB_elem l j hj
        omega
      have HB := hide hbig
      have HN := hide hn
      have HL := hide ((hl.grown hg (Nat.le_refl _) (by simp)).more hgs)
      have HRD := hide hrd5
      have HC5 := hide hcm5
      have HO6 := hide o6
      unfold maxLen at hcm5 hcm6
      have HLS := hide (rowsOf_length l)
      have HTK := hide (fun j => rowsOf_take l j)
      clear hbig hn hrd5 o5 o6 hjt hle hcatk hel2
      generalize rowsOf l = ls at *
      generalize hz : ends ls l.length = z at *
      have HZ := hide hz
      clear hz
      by_cases hc1 : cut < 0
      · go_wp2_with (go_at_call 10; refine (LV.out _).mono ?_; rintro e w9 ⟨rfl, hg9⟩)
        go_ret
        exact ⟨rfl, gb_trans hg hg9 (.inl rfl)⟩
      · by_cases hc2 : (z : Int) < cut
        · go_wp2_with (go_at_call 10; refine (LV.out _).mono ?_; rintro e w9 ⟨rfl, hg9⟩)
          go_ret
          exact ⟨rfl, gb_trans hg hg9 (.inl rfl)⟩
        · obtain ⟨q, rfl⟩ := Int.eq_ofNat_of_zero_le (show 0 ≤ cut by omega)
          have hqz : q ≤ z := by omega
          have hqc : (q : Int) ≤ (c5 : Int) := by omega
          have hq0 : (0 : Int) ≤ (q : Int) := by omega
          have hAT : At8 wr (.slice A5 q c5) ((jn ls).take q) := by
            have hlq : ((jn ls).take q).length = q := by rw [List.length_take, ← HN.out]; omega
            refine ⟨A5, c5, by rw [hlq], by rw [hlq]; omega, HC5.out, ?_⟩
            have := HRD.out.take q
            rwa [u8s_take] at this
          have FR := hide (frames_at hAT (by rw [List.length_take]; omega))
          have HX := hide (fun j h1 h2 h3 => frs_torn ls j q HB.out h1 h2 (by rw [← HN.out]; exact hqz) h3)
          have HS := hide (fun (j : Nat) (h : j ≤ l.length) => (show AtS wr (.slice AL j cl) (ls.take j) from ⟨AL, cl, l.take j, by rw [List.length_take, Nat.min_eq_left h], HL.out.take j, by rw [← HTK.out j]; rfl⟩))
          clear hc2 hlt hAT
          go_wp2
          go_loop [10] (fun i => ∃ j : Nat, j ≤ l.length ∧ i = .int .i64 j ∧ ends ls j ≤ q) (fun i => l.length - (intOf i).toNat)
          case atStart => exact ⟨0, by omega, rfl, by rw [ends_zero]; omega⟩
          case round =>
            obtain ⟨j, hj, rfl, hjq⟩ := hrel
            by_cases hjl : j < l.length
            · have hcell := HO6.out.cellAt (j + 1) (by omega)
              rw [endCells_at ls l.length (j + 1) (by omega)] at hcell
              by_cases hnx : ends ls (j + 1) ≤ q
              · generalize hE : ends ls (j + 1) = E at *
                have HE := hide hE
                clear hE
                go_wp2
                go_round
                case rel => exact ⟨j + 1, by omega, by go_num, by rw [HE.out]; exact hnx⟩
                case measure => simp [intOf]; omega
              · have hnx2 : q < ends ls (j + 1) := by omega
                have HNX := hide hnx2
                clear hnx2
                have hfx := HX.out j (by rw [HLS.out]; exact hj) hjq (fun _ => HNX.out)
                have FR2 := hide (by have := FR.out; rw [hfx] at this; exact this : Calls Try.prog 22 #[.slice A5 q c5] wr (FramesPost (ls.take j, ends ls j, if q = ends ls j then 0 else 3) wr))
                have HSJ := hide (HS.out j hj)
                have HSL := hide (show (ls.take j).length ≤ 1000000000 by rw [List.length_take]; omega)
                have hcJ := HO6.out.cellAt j (by omega)
                rw [endCells_at ls l.length j hj] at hcJ
                have HCJ := hide hcJ
                clear hcJ hfx
                generalize hE0 : ends ls j = E0 at *
                have HE0 := hide hE0
                clear hE0
                have hj0 : (0 : Int) ≤ (j : Int) := by omega
                have hj1 : (j : Int) ≤ (cl : Int) := by omega
                have hj2 : (j : Int) < (l.length : Int) + 1 := by omega
                by_cases hqe : q = E0
                · subst hqe
                  rw [if_pos rfl] at FR2
                  go_wp2_with (go_at_call 22; refine FR2.out.mono ?_; rintro e w2 ⟨A2, n2, c2, rfl, h2, hg2⟩)
                  have hc2 := (own_grown HO6.out hg2).cellAt j (by omega)
                  rw [endCells_at ls l.length j hj, HE0.out] at hc2
                  have HU := hide h2
                  clear h2
                  go_region_held3 (fun w' => w'.cell? ⟨g6, j, none⟩ = some (.int .i64 (q : Int))) (first | assumption | go_keep)
                    (first
                    | (go_simp; go_at_call 27; refine (same_at (HU.out.grown (gb_drew (gb_refl w2 none))) (HSJ.out.grown (gb_drew hg2)) HSL.out).mono ?_; rintro e w3 ⟨rfl, hg3⟩; have hq3 := hide (gb_trans (gb_drew hg2) hg3 (.inl rfl)); have hc3 := (own_grown HO6.out hq3.out).cellAt j (by omega); rw [endCells_at ls l.length j hj, HE0.out] at hc3; clear hg3)
                    | (go_simp; go_at_call 26; refine (num_err _ _).mono ?_; rintro e w8 ⟨rfl, rfl⟩)
                    | (go_simp; go_at_call 10; refine (LV.out _).mono ?_; rintro e w4 ⟨rfl, hg4⟩; have hc4 := (own_grown HO6.out (gb_trans hq3.out hg4 (.inl rfl))).cellAt j (by omega); rw [endCells_at ls l.length j hj, HE0.out] at hc4))
                  all_goals (go_wp2_with fail; go_ret; exact ⟨rfl, gb_trans (gb_trans hg hq3.out (.inl rfl)) hg4 (.inl rfl)⟩)
                · rw [if_neg hqe] at FR2
                  have hb1 : ((q : Int) == (E0 : Int)) = false := beq_eq_false_iff_ne.2 (by omega)
                  go_wp2_with (go_at_call 22; refine FR2.out.mono ?_; rintro e w2 ⟨A2, n2, c2, rfl, h2, hg2⟩)
                  have hc2 := (own_grown HO6.out hg2).cellAt j (by omega)
                  rw [endCells_at ls l.length j hj, HE0.out] at hc2
                  have HU := hide h2
                  clear h2
                  go_region_held3 (fun w' => w'.cell? ⟨g6, j, none⟩ = some (.int .i64 (E0 : Int))) (first | assumption | go_keep)
                    (first
                    | (go_simp; go_at_call 27; refine (same_at (HU.out.grown (gb_drew (gb_refl w2 none))) (HSJ.out.grown (gb_drew hg2)) HSL.out).mono ?_; rintro e w3 ⟨rfl, hg3⟩; have hq3 := hide (gb_trans (gb_drew hg2) hg3 (.inl rfl)); have hc3 := (own_grown HO6.out hq3.out).cellAt j (by omega); rw [endCells_at ls l.length j hj, HE0.out] at hc3; clear hg3)
                    | (go_simp; go_at_call 26; refine (num_err _ _).mono ?_; rintro e w8 ⟨rfl, rfl⟩)
                    | (go_simp; go_at_call 10; refine (LV.out _).mono ?_; rintro e w4 ⟨rfl, hg4⟩; have hc4 := (own_grown HO6.out (gb_trans hq3.out hg4 (.inl rfl))).cellAt j (by omega); rw [endCells_at ls l.length j hj, HE0.out] at hc4))
                  all_goals (go_wp2_with fail; go_ret; exact ⟨rfl, gb_trans (gb_trans hg hq3.out (.inl rfl)) hg4 (.inl rfl)⟩)
            · skip
              have hfx := HX.out j (by rw [HLS.out]; exact hj) hjq (fun h => absurd (by rw [HLS.out] at h; exact h) hjl)
              have FR2 := hide (by have := FR.out; rw [hfx] at this; exact this : Calls Try.prog 22 #[.slice A5 q c5] wr (FramesPost (ls.take j, ends ls j, if q = ends ls j then 0 else 3) wr))
              have HSJ := hide (HS.out j hj)
              have HSL := hide (show (ls.take j).length ≤ 1000000000 by rw [List.length_take]; omega)
              have hcJ := HO6.out.cellAt j (by omega)
              rw [endCells_at ls l.length j hj] at hcJ
              have HCJ := hide hcJ
              clear hcJ hfx
              generalize hE0 : ends ls j = E0 at *
              have HE0 := hide hE0
              clear hE0
              have hj0 : (0 : Int) ≤ (j : Int) := by omega
              have hj1 : (j : Int) ≤ (cl : Int) := by omega
              have hj2 : (j : Int) < (l.length : Int) + 1 := by omega
              by_cases hqe : q = E0
              · subst hqe
                rw [if_pos rfl] at FR2
                go_wp2_with (go_at_call 22; refine FR2.out.mono ?_; rintro e w2 ⟨A2, n2, c2, rfl, h2, hg2⟩)
                have hc2 := (own_grown HO6.out hg2).cellAt j (by omega)
                rw [endCells_at ls l.length j hj, HE0.out] at hc2
                have HU := hide h2
                clear h2
                go_region_held3 (fun w' => w'.cell? ⟨g6, j, none⟩ = some (.int .i64 (q : Int))) (first | assumption | go_keep)
                  (first
                  | (go_simp; go_at_call 27; refine (same_at (HU.out.grown (gb_drew (gb_refl w2 none))) (HSJ.out.grown (gb_drew hg2)) HSL.out).mono ?_; rintro e w3 ⟨rfl, hg3⟩; have hq3 := hide (gb_trans (gb_drew hg2) hg3 (.inl rfl)); have hc3 := (own_grown HO6.out hq3.out).cellAt j (by omega); rw [endCells_at ls l.length j hj, HE0.out] at hc3; clear hg3)
                  | (go_simp; go_at_call 26; refine (num_err _ _).mono ?_; rintro e w8 ⟨rfl, rfl⟩)
                  | (go_simp; go_at_call 10; refine (LV.out _).mono ?_; rintro e w4 ⟨rfl, hg4⟩; have hc4 := (own_grown HO6.out (gb_trans hq3.out hg4 (.inl rfl))).cellAt j (by omega); rw [endCells_at ls l.length j hj, HE0.out] at hc4))
                all_goals (go_wp2_with fail; go_ret; exact ⟨rfl, gb_trans (gb_trans hg hq3.out (.inl rfl)) hg4 (.inl rfl)⟩)
              · rw [if_neg hqe] at FR2
                have hb1 : ((q : Int) == (E0 : Int)) = false := beq_eq_false_iff_ne.2 (by omega)
                go_wp2_with (go_at_call 22; refine FR2.out.mono ?_; rintro e w2 ⟨A2, n2, c2, rfl, h2, hg2⟩)
                have hc2 := (own_grown HO6.out hg2).cellAt j (by omega)
                rw [endCells_at ls l.length j hj, HE0.out] at hc2
                have HU := hide h2
                clear h2
                go_region_held3 (fun w' => w'.cell? ⟨g6, j, none⟩ = some (.int .i64 (E0 : Int))) (first | assumption | go_keep)
                  (first
                  | (go_simp; go_at_call 27; refine (same_at (HU.out.grown (gb_drew (gb_refl w2 none))) (HSJ.out.grown (gb_drew hg2)) HSL.out).mono ?_; rintro e w3 ⟨rfl, hg3⟩; have hq3 := hide (gb_trans (gb_drew hg2) hg3 (.inl rfl)); have hc3 := (own_grown HO6.out hq3.out).cellAt j (by omega); rw [endCells_at ls l.length j hj, HE0.out] at hc3; clear hg3)
                  | (go_simp; go_at_call 26; refine (num_err _ _).mono ?_; rintro e w8 ⟨rfl, rfl⟩)
                  | (go_simp; go_at_call 10; refine (LV.out _).mono ?_; rintro e w4 ⟨rfl, hg4⟩; have hc4 := (own_grown HO6.out (gb_trans hq3.out hg4 (.inl rfl))).cellAt j (by omega); rw [endCells_at ls l.length j hj, HE0.out] at hc4))
                all_goals (go_wp2_with fail; go_ret; exact ⟨rfl, gb_trans (gb_trans hg hq3.out (.inl rfl)) hg4 (.inl rfl)⟩)

end Go.Proofs.Ytdaefgkhimhpdaa
