/-
  The document's own table.
-/
import Derived.Test.YtfdckhnhancbdaaWj
import Derived.Test.YtfdckhnhancbdaaWf
import Derived.Test.YtfdckhnhancbdaaVyp
import Derived.Deep.QuietTactic
import Derived.BigQuiet
namespace Go.Proofs.Ytfdckhnhancbdaa
open Go.RowKit
attribute [local go_sem ↓] Go.wp_at_zero Go.wp_at_succ

/-- Is a table's i-th name, or its column, as it may not be? -/
def badT (v : Vl) (i : Nat) : Bool := (v.s.getD i ⟨#[]⟩).toList.isEmpty || !symS (v.s.getD i ⟨#[]⟩) || !rCol (v.l.getD i (.mk 0 [] [] [])).t || inS (v.s.take i) (v.s.getD i ⟨#[]⟩)
def tabV (v : Vl) : Bool := decide (0 < v.s.length) && decide (v.s.length = v.l.length) && (List.range v.s.length).all fun i => !badT v i
theorem tabV_bad {v : Vl} {i : Nat} (hi : i < v.s.length) (h : badT v i = true) : tabV v = false := by
  unfold tabV
  have : ((List.range v.s.length).all fun i => !badT v i) = false := by
    rw [List.all_eq_false]
    exact ⟨i, List.mem_range.2 hi, by simp [h]⟩
  rw [this, Bool.and_false]
theorem inS_take {l : List ByteArray} {x : ByteArray} {j : Nat} (hj : j < l.length) (h : inS (l.take j) x = false) (hx : l[j] ≠ x) : inS (l.take (j + 1)) x = false := by
  rw [Bool.eq_false_iff] at h ⊢
  intro hc
  obtain ⟨y, hy, he⟩ := List.any_eq_true.1 hc
  have hyx := of_decide_eq_true he
  subst hyx
  rw [List.take_succ_eq_append_getElem hj, List.mem_append, List.mem_singleton] at hy
  rcases hy with hy | hy
  · exact h (inS_yes hy)
  · exact hx hy.symm

set_option maxHeartbeats 8000000 in
set_option maxRecDepth 100000 in
theorem rTable_any (v : Vl) (w : World) (B : Nat) (nA : Option Addr) (nc : Nat) (sA : Option Addr) (sc : Nat) (lA : Option Addr) (lc : Nat) (ht : v.tot ≤ 1100000) (hsz : ∀ s ∈ v.s, s.size ≤ 1100000) (hB : B ≤ w.heap.size) (h : VB w B v nA nc sA sc lA lc) :
    Calls Try.prog 87 #[.agg #[.int .i64 v.t, .slice nA v.n.length nc, .slice sA v.s.length sc, .slice lA v.l.length lc]] w fun e w' => e = .returned (.bool (tabV v)) ∧ w.grownBy w' none := by
  obtain ⟨l1, l2, l3, l4⟩ := Vl.lens v ht
  obtain ⟨wa, hwa⟩ : ∃ wa, wa = w.alloc (.cells #[.int .i64 v.t, .slice nA v.n.length nc, .slice sA v.s.length sc, .slice lA v.l.length lc] 26) := ⟨_, rfl⟩
  have hg : w.grownBy wa none := by rw [hwa]; exact gb_alloc (gb_refl w none) _
  have hc := C4.box w (.int .i64 v.t) (.slice nA v.n.length nc) (.slice sA v.s.length sc) (.slice lA v.l.length lc) 26
  rw [← hwa] at hc
  have b2 : wa.cell? ⟨w.heap.size, 2, none⟩ = some (.slice sA v.s.length sc) := hc.c2
  have b3 : wa.cell? ⟨w.heap.size, 3, none⟩ = some (.slice lA v.l.length lc) := hc.c3
  have hbw := Nat.le_trans hB hg.size
  have HV := hide (h.gb hg hB)
  have HBW := hide hbw
  have HG := hide hg
  have HWE := hide hwa
  have HSZ := hide hsz
  have HB2 := hide b2
  clear ht hB h hg hwa hc hbw hsz
  by_cases h0 : v.s.length = 0
  · have HB := hide (show tabV v = false by unfold tabV; simp [h0])
    have e0 : ((v.s.length : Int) == 0) = true := by rw [h0]; rfl
    clear h0
    go_enter Try.func87, Try.ntmps87
    go_wp2_with fail
    rw [← HWE.out]
    go_wp2_with fail
    go_ret
    exact ⟨ret_b HB.out.symm, HG.out⟩
  have e0 : ((v.s.length : Int) == 0) = false := beq_eq_false_iff_ne.2 (by omega)
  by_cases h1 : v.s.length = v.l.length
  case neg =>
    have HB := hide (show tabV v = false by unfold tabV; simp [h1])
    have e1 : ((v.s.length : Int) != (v.l.length : Int)) = true := by simp; omega
    clear h0 h1
    go_enter Try.func87, Try.ntmps87
    go_wp2_with fail
    rw [← HWE.out]
    go_wp2_with fail
    go_ret
    exact ⟨ret_b HB.out.symm, HG.out⟩
  have e1 : ((v.s.length : Int) != (v.l.length : Int)) = false := by simp; omega
  have HLL := hide h1
  clear h1
  go_enter Try.func87, Try.ntmps87
  go_wp2_with fail
  rw [← HWE.out]
  go_wp2_with fail
  clear e0 e1
  go_loopw [3, 4] (fun i _ wr => ∃ j : Nat, i = .int .i64 (j : Int) ∧ j ≤ v.s.length ∧ Hid (((List.range j).all fun i => !badT v i) = true) ∧ wa.grownBy wr none) (fun i _ _ => v.s.length - (intOf i).toNat)
  case atStart => exact ⟨0, rfl, Nat.zero_le _, hide rfl, gb_refl wa none⟩
  case round =>
    obtain ⟨j, rfl, hj, HA, hgr⟩ := hrel
    have b2 := cell_gb b2 hgr
    have b3 := cell_gb b3 hgr
    have HGR := hide hgr
    by_cases hlt : j < v.s.length
    · have hlt1 : (j : Int) < (v.s.length : Int) := by omega
      have hltl : j < v.l.length := by have := HLL.out; omega
      have hltl1 : (j : Int) < (v.l.length : Int) := by omega
      obtain ⟨sa, hsa, hsb, ca⟩ := HV.out.s.str hlt
      have ca := cell_gb ca hgr
      obtain ⟨q, o, xA, xc, yA, yc, zA, zc, hlA, hqB, hc4, hvb⟩ := HV.out.l.at_ hltl
      subst hlA
      obtain ⟨d0, d1, d2, d3⟩ := hc4.gb hgr
      have HBN := hide (show badT v j = (v.s[j].toList.isEmpty || !symS v.s[j] || !rCol v.l[j].t || inS (v.s.take j) v.s[j]) by unfold badT; simp [hlt, hltl])
      have HSY := hide (fun w2 : World => rSymbol_ok v.s[j] w2 (HSZ.out _ (List.getElem_mem hlt)))
      have HCO := hide (fun w2 : World => rCol_any v.l[j].t (.slice xA v.l[j].n.length xc) (.slice yA v.l[j].s.length yc) (.slice zA v.l[j].l.length zc) w2)
      have HTB := hide (fun h => tabV_bad hlt h)
      have HST := hide (HV.out.s)
      have HNX : Hid (badT v j = false → ((List.range (j + 1)).all fun i => !badT v i) = true) := hide (fun h => by rw [List.range_succ, List.all_append, HA.out]; simp [h])
      subst hsa
      obtain ⟨x, hx⟩ : ∃ x, x = v.s[j] := ⟨_, rfl⟩
      obtain ⟨y, hy⟩ : ∃ y, y = v.l[j] := ⟨_, rfl⟩
      rw [← hx] at ca HBN HSY
      rw [← hy] at d0 d1 d2 d3 HBN HCO
      have HXJ : Hid (v.s[j]'hlt = x) := hide hx.symm
      clear hx hy hc4 hvb hgr
      cases he : x.toList.isEmpty with
      | true =>
        have HB := hide (HTB.out (by rw [HBN.out, he]; simp))
        have he2 : x.toList = [] := by simpa using he
        go_wp2_with fail
        go_ret
        exact ⟨ret_b HB.out.symm, gb_trans HG.out HGR.out (.inl rfl)⟩
      | false =>
        have he2 : ¬ x.toList = [] := by simpa using he
        cases hs : symS x with
        | false =>
          have HB := hide (HTB.out (by rw [HBN.out, hs]; simp))
          rw [hs] at HSY
          clear hs
          go_wp2_with (go_at_call 89; refine (HSY.out _).mono ?_; rintro e wq ⟨rfl, rfl⟩)
          go_ret
          exact ⟨ret_b HB.out.symm, gb_trans HG.out HGR.out (.inl rfl)⟩
        | true =>
          rw [hs] at HSY
          cases hco : rCol y.t with
          | false =>
            have HB := hide (HTB.out (by rw [HBN.out, hco]; simp))
            rw [hco] at HCO
            clear hs hco
            go_wp2_with (first
              | (go_at_call 89; refine (HSY.out _).mono ?_; rintro e wq ⟨rfl, rfl⟩)
              | (go_at_call 88; refine (HCO.out _).mono ?_; rintro e w1 ⟨rfl, hg1⟩; have HG1 := hide hg1; clear hg1))
            go_ret
            exact ⟨ret_b HB.out.symm, gb_trans HG.out (gb_trans HGR.out HG1.out (.inl rfl)) (.inl rfl)⟩
          | true =>
            have HBX := hide (show badT v j = inS (v.s.take j) x by rw [HBN.out, he, hs, hco]; simp)
            rw [hco] at HCO
            clear hs hco
            go_wp2_with (first
              | (go_at_call 89; refine (HSY.out _).mono ?_; rintro e wq ⟨rfl, rfl⟩)
              | (go_at_call 88; refine (HCO.out _).mono ?_; rintro e w1 ⟨rfl, hg1⟩; have HG1 := hide (gb_trans HGR.out hg1 (.inl rfl)); have b2 := cell_gb b2 hg1; have b3 := cell_gb b3 hg1; clear hg1))
            go_loopw [4] (fun i wr => ∃ k : Nat, i = .int .i64 (k : Int) ∧ k ≤ j ∧ Hid (inS (v.s.take k) x = false) ∧ wa.grownBy wr none) (fun i _ => j - (intOf i).toNat)
            case atStart => exact ⟨0, rfl, Nat.zero_le _, hide rfl, HG1.out⟩
            case round =>
              obtain ⟨k, rfl, hk, HK, hg2⟩ := hrel
              clear b2 b3 ca d0 d1 d2 d3
              have b2 := cell_gb HB2.out hg2
              have HG2 := hide hg2
              by_cases hkj : k < j
              · have hkj1 : (k : Int) < (j : Int) := by omega
                have hks : k < v.s.length := by omega
                have hks1 : (k : Int) < (v.s.length : Int) := by omega
                obtain ⟨a1, e1, _, c1⟩ := HV.out.s.str hks
                obtain ⟨a2, e2, _, c2⟩ := HV.out.s.str hlt
                cases e1
                cases e2
                have c1 := cell_gb c1 hg2
                have c2 := cell_gb c2 hg2
                rw [HXJ.out] at c2
                obtain ⟨z, hz⟩ : ∃ z, z = v.s[k] := ⟨_, rfl⟩
                rw [← hz] at c1
                have HZK : Hid (v.s[k]'hks = z) := hide hz.symm
                clear hz hg2
                by_cases hzx : z = x
                · have q1 := ba_eq hzx
                  have HB := hide (HTB.out (by
                    rw [HBX.out]
                    refine inS_yes ?_
                    rw [← hzx, ← HZK.out]
                    exact List.mem_take_iff_getElem.2 ⟨k, by omega, rfl⟩))
                  clear hzx
                  go_wp2_with fail
                  go_quiet (fail)
                  go_wp2_with fail
                  go_ret
                  exact ⟨ret_b HB.out.symm, gb_drewN (gb_trans HG.out HG2.out (.inl rfl)) _⟩
                · have q1 := ba_ne hzx
                  have HN := hide (inS_take hks HK.out (by rw [HZK.out]; exact hzx))
                  clear hzx
                  go_wp2_with fail
                  go_quiet (fail)
                  go_wp2_with fail
                  go_roundw
                  case rel => exact ⟨k + 1, by go_num, by omega, HN, gb_drewN HG2.out _⟩
                  case measure => simp [intOf]; omega
              · obtain rfl : k = j := by omega
                have hkj1 : ¬ (k : Int) < (k : Int) := by omega
                clear hg2
                go_wp2_with fail
                go_roundw
                case rel => exact ⟨k + 1, by go_num, by omega, hide (HNX.out (by rw [HBX.out]; exact HK.out)), HG2.out⟩
                case measure => simp [intOf]; omega
    · have hlt1 : ¬ (j : Int) < (v.s.length : Int) := by omega
      have HB := hide (show tabV v = true by
        have h1 := HA.out
        rw [show j = v.s.length by omega] at h1
        unfold tabV
        rw [h1, decide_eq_true (show 0 < v.s.length by omega), decide_eq_true HLL.out]
        rfl)
      clear hgr
      go_wp2_with fail
      go_ret
      exact ⟨ret_b HB.out.symm, gb_trans HG.out HGR.out (.inl rfl)⟩
end Go.Proofs.Ytfdckhnhancbdaa
