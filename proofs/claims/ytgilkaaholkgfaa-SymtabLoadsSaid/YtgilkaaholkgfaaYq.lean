/-
  The document's Load.
-/
import Derived.Test.YtgilkaaholkgfaaYp
namespace Go.Proofs.Ytgilkaaholkgfaa
open Go.RowKit

/-- The document's reader of one load, all at once. -/
def RSteps (base g : Nat) (L : List ByteArray) (s : ByteArray) (d : Int) (A : Option Addr) (n c : Nat) (w : World) : Prop :=
  Calls Try.prog 30 #[.slice A n c] w fun e w1 => ∃ gR, e = .returned (.pointer (some ⟨gR, 0, none⟩)) ∧
    Calls Try.prog 31 #[.pointer (some ⟨gR, 0, none⟩), .int .i64 64] w1 fun e w2 => e = .returned (.string s) ∧
      Calls Try.prog 32 #[.pointer (some ⟨gR, 0, none⟩)] w2 fun e w3 => e = .returned (.int .i64 d) ∧ w.grownBy w3 none ∧ RTab w3 base g L

theorem rsteps_any (base g : Nat) (L : List ByteArray) (load : List UInt8) (A : Option Addr) (n c : Nat) (w : World) (h : RTab w base g L) (hr : Rd w w.heap.size A (u8s load)) (hn : load.length = n) (hl : n ≤ 100000) :
    RSteps base g L ⟨(rText load 0 0 64).1.toArray⟩ (rDone load (rText load 0 0 64).2.1 (rText load 0 0 64).2.2) A n c w := by
  subst hn
  have hle := rText_le load 0 0 64 (Nat.zero_le _)
  refine (refNew_any A c load w hr (by omega)).mono fun e w1 ⟨gR, he, hR1, hg1⟩ => ⟨gR, he, ?_⟩
  refine (refText_any w.heap.size gR load 0 0 64 w1 hR1 (Nat.zero_le _) (by omega) (by constructor <;> decide)).mono fun e w2 ⟨he, hR2, hg2⟩ => ⟨he, ?_⟩
  refine (refDone_any w.heap.size gR load _ _ w2 hR2 hle).mono fun e w3 ⟨he, nq, hw3⟩ => ⟨he, ?_⟩
  have hg : w.grownBy w3 none := by
    rw [hw3]
    exact gb_drewN (gb_trans hg1 hg2 (.inr (.inr ⟨gR, rfl, hR1.ge⟩))) nq
  exact ⟨hg, h.grown hg⟩

theorem RTabB.entered {w1 w2 : World} {base g : Nat} {v v2 : Value} {L : List ByteArray} {s : ByteArray} (hB : RTabB w1 base g v L) (hg2 : w1.grownBy w2 v.ownBlock) (ho2 : w2.ownsRow base 9 1 v2 (L.length + 1) (strs L ++ [.string s])) :
    RTabB (w2.setCell ⟨g, 0, none⟩ v2) base g v2 (L ++ [s]) ∧ ∀ w0 : World, w0.grownBy w1 none → w0.heap.size ≤ base → w0.grownBy (w2.setCell ⟨g, 0, none⟩ v2) none := by
  have n2 : v.ownBlock ≠ some g := own_ne hB.2.1 hB.1 (by decide)
  have hh2 : w2.heap[g]? = some (.cells #[v] 77 (0, 0)) := blk_keep hB.1 hg2 (fun e => n2 e.symm)
  have hg3 : w2.grownBy (w2.setCell ⟨g, 0, none⟩ v2) (some g) := gb_setCell (gb_refl w2 (some g)) (.inl rfl) v2
  refine ⟨⟨blk_set hh2 0 v2, ?_, hB.2.2⟩, fun w0 h0 hb => ?_⟩
  · rw [strs_snoc, List.length_append]
    exact ho2.kept hg3 (.inr (own_ne ho2 hh2 (by decide)))
  · refine gb_trans (gb_new h0 (own_base hB.2.1 hb) hg2) hg3 (.inr (.inr ⟨g, rfl, ?_⟩))
    have := hB.2.2
    omega

def RLoadPost (r : Option (List ByteArray)) (k : Nat) (w : World) (e : Ending) (w' : World) : Prop :=
  w.grownBy w' none ∧ ((r = none ∧ e = .returned (.tuple #[.pointer none, .int .i64 0, .int .i64 51])) ∨
    ∃ L g, r = some L ∧ e = .returned (.tuple #[.pointer (some ⟨g, 0, none⟩), .int .i64 (k : Int), .int .i64 0]) ∧ RTab w' w.heap.size g L)

set_option maxHeartbeats 8000000 in
set_option maxRecDepth 100000 in
theorem rload_any (A : Option Addr) (n c : Nat) (bs : List UInt8) (w : World) (hr : Rd w w.heap.size A (u8s bs)) (hn : bs.length = n) (hc : n ≤ c) (hm : c ≤ maxLen) (h1 : n ≤ 30000) :
    Calls Try.prog 8 #[.slice A n c] w (RLoadPost (ld (frs bs).1) (frs bs).2.1 w) := by
  subst hn
  have HF := hide (refFrames_any A c bs w hr hc hm (by omega))
  have hmany := frs_many bs
  obtain ⟨ls, at_, er, hq⟩ : ∃ ls a e, frs bs = (ls, a, e) := ⟨_, _, _, rfl⟩
  rw [hq] at HF hmany
  rw [hq]
  dsimp only at hmany ⊢
  have HMX := hide hmany.2
  have hml := hmany.1
  obtain ⟨i1, hi1, hiz, his, hib⟩ := info_parts Try.infoT
  have HI1 := hide hi1
  have HIZ := hide hiz
  have HIS := hide his
  have HIB := hide hib
  clear hq hr hmany hm hi1 hiz his hib
  go_enter Try.func8, Try.ntmps8
  go_wp2_with (first
    | (go_at_call 28; refine HF.out.mono ?_; rintro e w1 ⟨v, rfl, hob, hg1⟩; have HG1 := hide hg1; obtain ⟨AL, cl, l, hv, hrl, hml2⟩ := hob.rd; subst hv; have hml3 : l.map (fun x => x.2.2) = ls := hml2; have hll : l.length = ls.length := (by rw [← hml3, List.length_map]); have HRL := hide hrl; have HML := hide hml3; clear hob hg1 hrl hml2 hml3)
    | (go_at_call 29; refine (new_rtab w1).mono ?_; rintro e w2 ⟨g, rfl, ht, hg2⟩; have HT := hide ht; have HG2 := hide hg2; clear ht hg2))
  have HI : Hid (∀ k (h : k < l.length) (h' : k < ls.length), l[k].2.2 = ls[k]) := hide fun k h h' => by
    have := congrArg (fun x => x[k]?) HML.out
    simpa [h, h'] using this
  have hl3 : l.length * 8 ≤ bs.length := by omega
  go_loopw [9, 10, 11] (fun i _ _ wr => ∃ (k : Nat) (M : List ByteArray), k ≤ l.length ∧ i = .int .i64 (k : Int) ∧ Hid (ldF [⟨#[]⟩] (ls.take k) = some M) ∧ RTab wr w1.heap.size g M ∧ w1.grownBy wr none) (fun i _ _ _ => l.length - (intOf i).toNat)
  case atStart => exact ⟨0, [⟨#[]⟩], Nat.zero_le _, rfl, hide rfl, HT.out, HG2.out⟩
  case round =>
    obtain ⟨k, M, hk, rfl, HM, ht, hg⟩ := hrel
    have HTT := hide ht
    have HG := hide hg
    by_cases hlt : k < l.length
    · have hlt1 : (k : Int) < (l.length : Int) := by omega
      have hlt2 : k < ls.length := by omega
      obtain ⟨ad, rfl, _, hcell, hrd, hlc, _⟩ := (HRL.out.grown hg (Nat.le_refl _) (by simp)).at_ hlt
      have e1 := HI.out k hlt hlt2
      have HLS := hide (HMX.out _ (List.getElem_mem hlt2))
      have HST := hide (ldF_step hlt2 HM.out)
      have HSP := hide (fun h => ldF_stop hlt2 HM.out h)
      have hM5 : M.length ≤ 5000 := by
        have := ldF_some HM.out
        rw [List.length_take] at this
        simp at this
        omega
      have HXL := hide hrd
      generalize l[k] = x at hcell HXL hlc e1
      obtain ⟨xA, xc, X⟩ := x
      dsimp only at hcell HXL hlc e1
      subst e1
      have HRS := hide (rsteps_any w1.heap.size g M ls[k] xA ls[k].length xc wr ht (HXL.out.more hg.size) rfl (by have := HLS.out; omega))
      have HSS : Hid ((⟨(rText ls[k] 0 0 64).1.toArray⟩ : ByteArray).size ≤ 1000000000) := hide (by
        have h2 : (rText ls[k] 0 0 64).1.length ≤ ls[k].length := by
          unfold rText
          split
          · split
            · simp
            · split
              · simp
              · simp only [List.length_take, List.length_drop]; omega
          · simp
        have h3 := HLS.out
        show (rText ls[k] 0 0 64).1.toArray.size ≤ _
        rw [List.size_toArray]
        omega)
      clear ht hg hrd
      obtain ⟨y, hy⟩ : ∃ y, y = ls[k] := ⟨_, rfl⟩
      rw [← hy] at hcell HRS HST HSP hlc HLS HXL HSS
      clear hy
      have hrt : rest1 M y = if rDone y (rText y 0 0 64).2.1 (rText y 0 0 64).2.2 = 0 ∧ numOf M ⟨(rText y 0 0 64).1.toArray⟩ = none ∧ unf ⟨(rText y 0 0 64).1.toArray⟩ = false then some (M ++ [⟨(rText y 0 0 64).1.toArray⟩]) else none := rfl
      generalize (⟨(rText y 0 0 64).1.toArray⟩ : ByteArray) = s at hrt HRS HSS
      generalize rDone y (rText y 0 0 64).2.1 (rText y 0 0 64).2.2 = d at hrt HRS
      have HB : Hid (rest1 M y = none → ldF [⟨#[]⟩] ls = none) := HSP
      by_cases hd : d = 0
      · subst hd
        cases hu : unf s with
        | true =>
          have HN := hide (HB.out (by rw [hrt, hu, if_neg (by simp)]))
          have HSY := hide (fun w : World => rsymbol_any s w HSS.out)
          rw [hu] at HSY
          clear hrt hu
          go_wp2_with (first
            | (go_at_call 30; refine Calls.mono HRS.out ?_; rintro e w3 ⟨gR, rfl, h1⟩; have H1 := hide h1; clear h1)
            | (go_at_call 31; refine H1.out.mono ?_; rintro e w4 ⟨rfl, h2⟩; have H2 := hide h2; clear h2)
            | (go_at_call 32; refine H2.out.mono ?_; rintro e w5 ⟨rfl, hg5, ht5⟩; have HG5 := hide hg5; have HT5 := hide ht5; clear hg5 ht5)
            | (go_at_call 33; refine (HSY.out _).mono ?_; rintro e wq ⟨rfl, rfl⟩))
          go_ret3
          exact ⟨gb_trans HG1.out (gb_trans HG.out HG5.out (.inl rfl)) (.inl rfl), .inl ⟨HN.out, rfl⟩⟩
        | false =>
          have HSY := hide (fun w : World => rsymbol_any s w HSS.out)
          rw [hu] at HSY
          cases hnum : numOf M s with
          | some m =>
            have HN := hide (HB.out (by rw [hrt, hnum, if_neg (by simp)]))
            have HNI := hide (numI_some hnum)
            clear hrt hu hnum
            go_wp2_with (first
              | (go_at_call 30; refine Calls.mono HRS.out ?_; rintro e w3 ⟨gR, rfl, h1⟩; have H1 := hide h1; clear h1)
              | (go_at_call 31; refine H1.out.mono ?_; rintro e w4 ⟨rfl, h2⟩; have H2 := hide h2; clear h2)
              | (go_at_call 32; refine H2.out.mono ?_; rintro e w5 ⟨rfl, hg5, ht5⟩; have HG5 := hide hg5; have HT5 := hide ht5; clear hg5 ht5)
              | (go_at_call 33; refine (HSY.out _).mono ?_; rintro e wq ⟨rfl, rfl⟩)
              | (go_at_call 34; refine (rnumber_any w1.heap.size g M s w5 HT5.out (by omega)).mono ?_; rintro e wq ⟨rfl, rfl⟩; rw [HNI.out]))
            go_ret3
            exact ⟨gb_trans HG1.out (gb_trans HG.out HG5.out (.inl rfl)) (.inl rfl), .inl ⟨HN.out, rfl⟩⟩
          | none =>
            have HN : Hid (ldF [⟨#[]⟩] (ls.take (k + 1)) = some (M ++ [s])) := hide (HST.out.1.trans (by rw [hrt, if_pos ⟨rfl, hnum, hu⟩]))
            have HNI := hide (numI_none hnum)
            have HL1 : Hid (M.length + 1 ≤ maxLen) := hide (by unfold maxLen; omega)
            have HMB : Hid ((M.length + 1) * 16 ≤ 140737488355328) := hide (by omega)
            have HM5 := hide hM5
            obtain ⟨nM, hnM⟩ : ∃ n : Int, n = (M.length : Int) := ⟨_, rfl⟩
            have hge : decide ((65536 : Int) ≤ (M.length : Int)) = false := decide_eq_false (by omega)
            have hge2 : decide (65536 ≤ M.length) = false := decide_eq_false (by omega)
            clear hrt hu hnum hM5 hnM
            go_wp2_with (first
              | (go_at_call 30; refine Calls.mono HRS.out ?_; rintro e w3 ⟨gR, rfl, h1⟩; have H1 := hide h1; clear h1)
              | (go_at_call 31; refine H1.out.mono ?_; rintro e w4 ⟨rfl, h2⟩; have H2 := hide h2; clear h2)
              | (go_at_call 32; refine H2.out.mono ?_; rintro e w5 ⟨rfl, hg5, ht5⟩; have HG5 := hide hg5; have HT5 := hide ht5; obtain ⟨A6, c6, q0, _, _, _, hB6⟩ := ht5.open_; have HB6 := hide hB6; clear hg5 ht5 hB6)
              | (go_at_call 33; refine (HSY.out _).mono ?_; rintro e wq ⟨rfl, rfl⟩)
              | (go_at_call 34; refine (rnumber_any w1.heap.size g M s w5 HT5.out (by have := HM5.out; omega)).mono ?_; rintro e wq ⟨rfl, rfl⟩; rw [HNI.out])
              | (at_builtin; have hga := gb_alloc (gb_refl w5 none) (.cells #[.string s] 9); have HBa := hide (HB6.out.grown hga); have HGa := hide hga; clear hga; refine wpList_append_rd _ rfl (.tmp 58) (.tmp 60) 34 rfl w1.heap.size 9 i1 (.string ⟨#[]⟩) 1 16 Try.underlying34 HI1.out HIZ.out HIS.out HIB.out rfl (Nat.succ_pos 0) (.slice A6 M.length c6) M.length (strs M) rfl HBa.out.2.1 (w5.heap.size + 1) (some ⟨w5.heap.size, 0, none⟩) 1 1 [.string s] rfl rfl (Rd.new w5 #[.string s] 9 _ rfl) (cellT s) HL1.out HMB.out (by have := HG.out.size; have := HG5.out.size; simp; omega) ?_; intro v2 w6 ho2 hg2 hb2; obtain ⟨A2, c2, hv2, _, _, _⟩ := own_form ho2; subst hv2; have HE := hide (HBa.out.entered hg2 ho2); have hh2 := blk_keep HBa.out.1 hg2 (fun e => (own_ne HBa.out.2.1 HBa.out.1 (by decide)) e.symm); have p0 : w6.cell? ⟨g, 0, none⟩ = some (.slice A6 M.length c6) := (by rw [blk_cell hh2]; rfl); have z0 := blk_frozen hh2 0; clear hh2 ho2 hg2 hb2))
            go_roundw
            case rel =>
              exact ⟨k + 1, M ++ [s], by omega, by go_num, HN, ⟨_, HE.out.1⟩, HE.out.2 w1 (gb_trans (gb_trans HG.out HG5.out (.inl rfl)) HGa.out (.inl rfl)) (Nat.le_refl _)⟩
            case measure => simp [intOf]; omega
      · have HN := hide (HB.out (by rw [hrt, if_neg (fun h => hd h.1)]))
        have hb1 : (d != 0) = true := by simpa using hd
        clear hrt hd
        go_wp2_with (first
          | (go_at_call 30; refine Calls.mono HRS.out ?_; rintro e w3 ⟨gR, rfl, h1⟩; have H1 := hide h1; clear h1)
          | (go_at_call 31; refine H1.out.mono ?_; rintro e w4 ⟨rfl, h2⟩; have H2 := hide h2; clear h2)
          | (go_at_call 32; refine H2.out.mono ?_; rintro e w5 ⟨rfl, hg5, ht5⟩; have HG5 := hide hg5; have HT5 := hide ht5; clear hg5 ht5))
        go_ret3
        exact ⟨gb_trans HG1.out (gb_trans HG.out HG5.out (.inl rfl)) (.inl rfl), .inl ⟨HN.out, rfl⟩⟩
    · obtain rfl : k = l.length := by omega
      have hlt1 : ¬ (l.length : Int) < (l.length : Int) := by omega
      have HTK := hide (show ls.take l.length = ls by rw [hll, List.take_length])
      clear ht hg
      go_wp2_with fail
      go_ret3
      refine ⟨gb_trans HG1.out HG.out (.inl rfl), .inr ⟨M, g, ?_, rfl, HTT.out.more HG1.out.size⟩⟩
      have := HM.out
      rw [HTK.out] at this
      exact this
end Go.Proofs.Ytgilkaaholkgfaa
