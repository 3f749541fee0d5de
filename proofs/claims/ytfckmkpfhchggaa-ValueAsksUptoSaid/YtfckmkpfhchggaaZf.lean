/-
  The document's row: what the columns of tables have at a place, as a dictionary.
-/
import Derived.Test.YtfckmkpfhchggaaZg
import Derived.Test.YtfckmkpfhchggaaXn
import Derived.Test.YtfckmkpfhchggaaVu
namespace Go.Proofs.Ytfckmkpfhchggaa
open Go.RowKit
attribute [local go_sem ↓] Go.wp_at_zero Go.wp_at_succ

/-- What was gathered so far: names n, elements x, all of its own. -/
structure GatP (w : World) (n : List ByteArray) (x : List Vl) (nA : Option Addr) (nc : Nat) (eA : Option Addr) (ec : Nat) (xs : List (List Value)) (f : List Nat) (wr : World) : Prop where
  hn : wr.ownsRow (w.heap.size + 1) 9 1 (.slice nA n.length nc) n.length (strs n)
  he : wr.ownsRow (w.heap.size + 1) 26 4 (.slice eA x.length ec) x.length (List.flatten xs)
  hx : VOwAll wr x xs f
  hf : ∀ b ∈ f, (Value.slice nA n.length nc).ownBlock ≠ some b ∧ (Value.slice eA x.length ec).ownBlock ≠ some b
  hg : w.grownBy wr none
  hr : wr.heap[w.heap.size]? = some (.cells #[.int .i64 0, .slice none 0 0, .slice none 0 0, .slice none 0 0] 26 (0, 0))
  hl : ∀ b ∈ f, w.heap.size + 1 ≤ b
def Gat (w : World) (n : List ByteArray) (x : List Vl) (N E : Value) (wr : World) : Prop := ∃ nA nc eA ec xs f, N = .slice nA n.length nc ∧ E = .slice eA x.length ec ∧ GatP w n x nA nc eA ec xs f wr
theorem GatP.keep {w wr w2 : World} {n : List ByteArray} {x : List Vl} {nA : Option Addr} {nc : Nat} {eA : Option Addr} {ec : Nat} {xs : List (List Value)} {f : List Nat} (h : GatP w n x nA nc eA ec xs f wr) (hg : wr.grownBy w2 none) : GatP w n x nA nc eA ec xs f w2 :=
  ⟨h.hn.kept hg (by cases (Value.slice nA n.length nc).ownBlock <;> simp), h.he.kept hg (by cases (Value.slice eA x.length ec).ownBlock <;> simp), VOwAll.keep _ _ _ h.hx fun b hb => hg.block b (VOwAll.lt _ _ _ h.hx b hb) (by simp), h.hf, gb_trans h.hg hg (.inl rfl), (hg.block _ (blk_lt h.hr) (by simp)).trans h.hr, h.hl⟩
theorem GatP.names {w wr w2 : World} {n m : List ByteArray} {x : List Vl} {nA N2 : Option Addr} {nc c2 : Nat} {eA : Option Addr} {ec : Nat} {xs : List (List Value)} {f : List Nat} (h : GatP w n x nA nc eA ec xs f wr)
    (ho : w2.ownsRow (w.heap.size + 1) 9 1 (.slice N2 (n.length + m.length) c2) (n.length + m.length) (strs n ++ strs m)) (hg : wr.grownBy w2 (Value.slice nA n.length nc).ownBlock)
    (hl : (Value.slice N2 (n.length + m.length) c2).ownBlock = (Value.slice nA n.length nc).ownBlock ∨ (Value.slice N2 (n.length + m.length) c2).ownBlock = some wr.heap.size) : GatP w (n ++ m) x N2 c2 eA ec xs f w2 := by
  obtain ⟨h1, h2, h3, h4, h5, h6, h7⟩ := h
  rw [← strs_app] at ho
  refine ⟨by rw [List.length_append]; exact ho, h2.kept hg (rows_apart h2 h1 (by decide)), VOwAll.keep _ _ _ h3 fun b hb => hg.block b (VOwAll.lt _ _ _ h3 b hb) (fun e => (h4 b hb).1 e.symm), fun b hb => ⟨?_, (h4 b hb).2⟩, ?_, ?_, h7⟩
  · rw [List.length_append]
    rcases hl with e | e
    · rw [e]; exact (h4 b hb).1
    · rw [e]
      intro e'
      injection e' with e'
      have := VOwAll.lt _ _ _ h3 b hb
      omega
  · exact gb_trans h5 hg (match hq : (Value.slice nA n.length nc).ownBlock with | none => .inr (.inl rfl) | some g => .inr (.inr ⟨g, rfl, by have := (h1.lt g hq).1; omega⟩))
  · exact (hg.block _ (blk_lt h6) (fun e => by have := (h1.lt _ e.symm).1; omega)).trans h6
theorem GatP.elem {w wr w6 w7 w8 : World} {n : List ByteArray} {x : List Vl} {nA : Option Addr} {nc : Nat} {eA : Option Addr} {ec : Nat} {xs : List (List Value)} {f f6 : List Nat} {y : Vl} {c : List Value} {E2 : Option Addr} {c2 : Nat} (h : GatP w n x nA nc eA ec xs f wr)
    (h6 : wr.grownBy w6 none) (hy : VOw w6 y c f6) (hn6 : New wr w6 f6) (h7 : w6.grownBy w7 none)
    (ho : w8.ownsRow (w.heap.size + 1) 26 4 (.slice E2 (x.length + 1) c2) (x.length + 1) (List.flatten xs ++ c)) (hg : w7.grownBy w8 (Value.slice eA x.length ec).ownBlock)
    (hl : (Value.slice E2 (x.length + 1) c2).ownBlock = (Value.slice eA x.length ec).ownBlock ∨ (Value.slice E2 (x.length + 1) c2).ownBlock = some w7.heap.size) : GatP w n (x ++ [y]) nA nc E2 c2 (xs ++ [c]) (f ++ f6) w8 := by
  obtain ⟨h1, h2, h3, h4, h5, h9, h10⟩ := (h.keep h6).keep h7
  have s6 := h6.size
  have s7 := h7.size
  have hy7 : VOw w7 y c f6 := hy.gb h7
  have hnb : ∀ b ∈ f6, (Value.slice nA n.length nc).ownBlock ≠ some b ∧ (Value.slice eA x.length ec).ownBlock ≠ some b := fun b hb => ⟨fun e => by have := (h.hn.lt b e).2; have := hn6.2 b hb; omega, fun e => by have := (h.he.lt b e).2; have := hn6.2 b hb; omega⟩
  have hlt : ∀ b ∈ f ++ f6, b < w7.heap.size := fun b hb => by
    rcases List.mem_append.1 hb with hb | hb
    · exact VOwAll.lt _ _ _ h3 b hb
    · exact VOw.lt _ _ _ hy7 b hb
  have hboth : ∀ b ∈ f ++ f6, (Value.slice nA n.length nc).ownBlock ≠ some b ∧ (Value.slice eA x.length ec).ownBlock ≠ some b := fun b hb => by
    rcases List.mem_append.1 hb with hb | hb
    · exact h4 b hb
    · exact hnb b hb
  refine ⟨h1.kept hg (rows_apart h1 h2 (by decide)), ?_, ?_, fun b hb => ⟨(hboth b hb).1, ?_⟩, ?_, ?_, ?_⟩
  · rw [List.length_append, List.flatten_append]
    simpa using ho
  · refine VOwAll.snoc _ _ _ (VOwAll.keep _ _ _ h3 fun b hb => hg.block b (VOwAll.lt _ _ _ h3 b hb) (fun e => (h4 b hb).2 e.symm)) (VOw.keep _ _ _ hy7 fun b hb => hg.block b (VOw.lt _ _ _ hy7 b hb) (fun e => (hnb b hb).2 e.symm))
  · rw [List.length_append, List.length_singleton]
    rcases hl with e | e
    · rw [e]; exact (hboth b hb).2
    · rw [e]
      intro e'
      injection e' with e'
      have := hlt b hb
      omega
  · exact gb_trans h5 hg (match hq : (Value.slice eA x.length ec).ownBlock with | none => .inr (.inl rfl) | some g => .inr (.inr ⟨g, rfl, by have := (h2.lt g hq).1; omega⟩))
  · exact (hg.block _ (blk_lt h9) (fun e => by have := (h2.lt _ e.symm).1; omega)).trans h9
  · intro b hb
    rcases List.mem_append.1 hb with hb | hb
    · exact h10 b hb
    · have := hn6.2 b hb
      have := blk_lt h.hr
      omega
theorem NewV.of_newE {v : Vl} {w w' : World} {X : Value} (h : NewE v w (.returned (.tuple #[X, .int .i64 0])) w') : NewV v w (.returned X) w' := by
  obtain ⟨nA, nc, sA, sc, lA, lc, f, he, h1, h2, h3⟩ := h
  simp only [Ending.returned.injEq, Value.tuple.injEq, Array.mk.injEq, List.cons.injEq, and_true] at he
  exact ⟨nA, nc, sA, sc, lA, lc, f, by rw [he], h1, h2, h3⟩

/-- The document's At of a column. -/
def RAtCol : Prop := ∀ (v : Vl) (i : Nat) (w : World) (B : Nat) (nA : Option Addr) (nc : Nat) (sA : Option Addr) (sc : Nat) (lA : Option Addr) (lc : Nat), rCol v.t = true → i < v.count → v.tot ≤ 500000 → B ≤ w.heap.size → VB w B v nA nc sA sc lA lc →
    Calls Try.prog 11 #[.agg #[.int .i64 v.t, .slice nA v.n.length nc, .slice sA v.s.length sc, .slice lA v.l.length lc], .int .i64 (i : Int)] w (NewE (elemV v i) w)

set_option maxHeartbeats 16000000 in
set_option maxRecDepth 100000 in
theorem rRow_walk (hAT : RAtCol) (ts : List Vl) (i : Nat) (hok : rowOk ts i) (hcol : ∀ t ∈ ts, ∀ c ∈ t.l, rCol c.t = true) (h0 : 0 < (ts.flatMap Vl.l).length) (w : World) (B : Nat) (A : Option Addr) (c : Nat) (ht : Vl.tots ts ≤ 500000) (hB : B ≤ w.heap.size) (h : RdV w B A ts) :
    Calls Try.prog 49 #[.slice A ts.length c, .int .i64 (i : Int)] w (NewV (rowV ts i) w) := by
  have hl : ts.length ≤ 500000 := Nat.le_trans (Vl.length_le_tots ts) ht
  obtain ⟨wa, hwa⟩ : ∃ wa, wa = w.alloc (.cells #[.int .i64 0, .slice none 0 0, .slice none 0 0, .slice none 0 0] 26) := ⟨_, rfl⟩
  have hg : w.grownBy wa none := by rw [hwa]; exact gb_alloc (gb_refl w none) _
  have hr : wa.heap[w.heap.size]? = some (.cells #[.int .i64 0, .slice none 0 0, .slice none 0 0, .slice none 0 0] 26 (0, 0)) := by rw [hwa]; exact zero_blk w
  have HG := hide hg
  have HR := hide hr
  have HWE := hide hwa
  have HT := hide ht
  have HB := hide hB
  have H := hide h
  have HAT := hide hAT
  have HOK := hide hok
  have HCOL := hide hcol
  have HL0 := hide h0
  clear ht hB h hg hr hwa hAT hok hcol h0
  go_enter Try.func49, Try.ntmps49
  go_wp2_with fail
  rw [← HWE.out]
  go_loopw [5, 6, 7] (fun N E k wr => ∃ (j : Nat) (n : List ByteArray) (x : List Vl), k = .int .i64 (j : Int) ∧ j ≤ ts.length ∧ Hid (n = (ts.take j).flatMap Vl.s) ∧ Hid (x = ((ts.take j).flatMap Vl.l).map fun c => elemV c i) ∧ Gat w n x N E wr) (fun _ _ k _ => ts.length - (intOf k).toNat)
  case atStart => exact ⟨0, [], [], rfl, Nat.zero_le _, hide rfl, hide rfl, none, 0, none, 0, [], [], rfl, rfl, ⟨rfl, .inl ⟨rfl, rfl⟩⟩, ⟨rfl, .inl ⟨rfl, rfl⟩⟩, ⟨rfl, rfl⟩, by simp, HG.out, HR.out, by simp⟩
  case round =>
    obtain ⟨j, n, x, rfl, hj, HN, HX, nA, nc, eA, ec, xs, f, rfl, rfl, hga⟩ := hrel
    by_cases hlt : j < ts.length
    · have hlt1 : (j : Int) < (ts.length : Int) := by omega
      obtain ⟨q, o, xA, xc, yA, yc, zA, zc, hA, hqB, hc4, hvb⟩ := H.out.at_ hlt
      subst hA
      have HC4 := hide hc4
      obtain ⟨d0, d1, d2, d3⟩ := hc4.gb hga.hg
      have hvr := hvb.gb hga.hg HB.out
      have hmem : ts[j] ∈ ts := List.getElem_mem hlt
      have hnb : n.length + ts[j].s.length ≤ 1100000 := by
        have h1 := flatS_le (ts.take (j + 1))
        have h2 := Vl.tots_take_le ts (j + 1)
        rw [flatS_take ts j hlt, ← HN.out, List.length_append] at h1
        have := HT.out
        omega
      have HNS : Hid ((ts.take (j + 1)).flatMap Vl.s = n ++ ts[j].s) := hide (by rw [HN.out]; exact flatS_take ts j hlt)
      have HNL : Hid ((ts.take (j + 1)).flatMap Vl.l = (ts.take j).flatMap Vl.l ++ ts[j].l) := hide (by rw [List.take_succ_eq_append_getElem hlt, List.flatMap_append]; simp)
      have hxl : x.length + ts[j].l.length ≤ 500000 := by
        have h1 := flatL_le (ts.take (j + 1))
        have h2 := Vl.tots_take_le ts (j + 1)
        have h3 := Vl.length_le_tots ((ts.take (j + 1)).flatMap Vl.l)
        rw [HNL.out, List.length_append] at h3
        rw [HNL.out] at h1
        have h4 : x.length = ((ts.take j).flatMap Vl.l).length := by rw [HX.out, List.length_map]
        have := HT.out
        omega
      have HTL : Hid (∀ c ∈ ts[j].l, c.tot ≤ 500000 ∧ rCol c.t = true ∧ i < c.count) := hide (fun c hc => by
        have h1 := Vl.tot_mem hc
        have h2 := Vl.tot_mem hmem
        have h3 := Vl.tot_def ts[j]
        have h4 := HT.out
        have h5 := HOK.out _ hmem c hc
        exact ⟨by omega, HCOL.out _ hmem c hc, by omega⟩)
      have HGA := hide hga
      have HRS := hide hvr.s
      have HV0 := hide hvb
      have HBr : Hid (B ≤ wr.heap.size) := hide (Nat.le_trans HB.out hga.hg.size)
      have HL2 : Hid ((strs ts[j].s).length = ts[j].s.length * 1) := hide (by simp [strs])
      have HOC2 := hide (strs_one ts[j].s)
      have HM2 : Hid (n.length + ts[j].s.length ≤ maxLen) := hide (by unfold maxLen; omega)
      have HMB2 : Hid ((n.length + ts[j].s.length) * 16 ≤ 140737488355328) := hide (by omega)
      have HBS : Hid (w.heap.size + 1 ≤ wr.heap.size) := hide (by have := blk_lt hga.hr; omega)
      obtain ⟨i2, hi2, hiz2, his2, hib2⟩ := info_parts Try.infoS
      have HJ1 := hide hi2
      have HJZ := hide hiz2
      have HJS := hide his2
      have HJB := hide hib2
      clear hga hc4 hvb hvr hmem hi2 hiz2 his2 hib2
      go_wp2_with (at_builtin; refine wpList_append_rd _ rfl (.tmp 17) (.tmp 22) 23 rfl (w.heap.size + 1) 9 i2 (.string ⟨#[]⟩) 1 16 Try.underlying23 HJ1.out HJZ.out HJS.out HJB.out rfl (Nat.succ_pos 0) (.slice nA n.length nc) n.length (strs n) rfl HGA.out.hn B yA ts[j].s.length yc (strs ts[j].s) rfl HL2.out HRS.out HOC2.out HM2.out HMB2.out HBS.out ?_
                   intro v5 w5 ho5 hg5 hb5
                   obtain ⟨N5, nc5, rfl, hnc5⟩ := own_slice ho5
                   have HGA5 := hide (HGA.out.names ho5 hg5 hb5)
                   clear ho5 hg5 hb5 hnc5)
      go_loopw [6, 8] (fun E k w2 => ∃ (m : Nat) (x2 : List Vl), k = .int .i64 (m : Int) ∧ m ≤ ts[j].l.length ∧ Hid (x2 = x ++ (ts[j].l.take m).map fun c => elemV c i) ∧ ∃ eA2 ec2 xs2 f2, E = .slice eA2 x2.length ec2 ∧ GatP w (n ++ ts[j].s) x2 N5 nc5 eA2 ec2 xs2 f2 w2) (fun _ k _ => ts[j].l.length - (intOf k).toNat)
      case atStart => exact ⟨0, x, rfl, Nat.zero_le _, hide (by simp), _, _, _, _, rfl, HGA5.out⟩
      case round =>
        obtain ⟨m, x2, rfl, hm, HX2, eA2, ec2, xs2, f2, rfl, hga2⟩ := hrel
        obtain ⟨d0, d1, d2, d3⟩ := HC4.out.gb hga2.hg
        by_cases hmt : m < ts[j].l.length
        · have hmt1 : (m : Int) < (ts[j].l.length : Int) := by omega
          obtain ⟨q2, o2, aA, ac, bA, bc, cA, cc, hzA, hq2B, hcc, hcv⟩ := HV0.out.l.at_ hmt
          subst hzA
          obtain ⟨f0, f1, f2', f3⟩ := hcc.gb hga2.hg
          have hBw := Nat.le_trans HB.out hga2.hg.size
          have HCL := hide (HTL.out _ (List.getElem_mem hmt))
          have HLM := hide (show (ts[j].l.take (m + 1)) = ts[j].l.take m ++ [ts[j].l[m]] from List.take_succ_eq_append_getElem hmt)
          have HE := hide (HAT.out ts[j].l[m] i wr B aA ac bA bc cA cc HCL.out.2.1 HCL.out.2.2 HCL.out.1 hBw (hcv.gb hga2.hg HB.out))
          have HGA2 := hide hga2
          have hx2l : x2.length ≤ 500000 := by
            rw [HX2.out, List.length_append, List.length_map, List.length_take]
            omega
          obtain ⟨i1, hi1, hiz, his, hib⟩ := info_parts Try.infoV
          have HI1 := hide hi1
          have HIZ := hide hiz
          have HIS := hide his
          have HIB := hide hib
          generalize hy : elemV ts[j].l[m] i = y at HE
          have HY := hide hy
          have HM2' : Hid (x2.length + 1 ≤ maxLen) := hide (by unfold maxLen; omega)
          have HMB2' : Hid ((x2.length + 1) * 80 ≤ 140737488355328) := hide (by omega)
          clear hga2 hcc hcv hBw hi1 hiz his hib hy
          go_wp2_with (first
            | (go_at_call 11; refine HE.out.mono ?_
               rintro e w6 ⟨yA6, yc6, zA6, zc6, uA, uc, f6, rfl, ho6, hn6, hg6⟩
               have hk4 : w6.grownBy ((w6.alloc (.cells #[.int .i64 y.t, .slice yA6 y.n.length yc6, .slice zA6 y.s.length zc6, .slice uA y.l.length uc] 26)).alloc (.cells #[.int .i64 y.t, .slice yA6 y.n.length yc6, .slice zA6 y.s.length zc6, .slice uA y.l.length uc] 26)) none := gb_alloc (gb_alloc (gb_refl w6 none) _) _
               have HGA4 := hide ((HGA2.out.keep hg6).keep hk4)
               have HRD4 := hide ((Own.lit (alloc2_blk w6 (.cells #[.int .i64 y.t, .slice yA6 y.n.length yc6, .slice zA6 y.s.length zc6, .slice uA y.l.length uc] 26) (.cells #[.int .i64 y.t, .slice yA6 y.n.length yc6, .slice zA6 y.s.length zc6, .slice uA y.l.length uc] 26)) (by simp)).rd (B := w6.heap.size + 2) (fun b hb => by obtain rfl := List.mem_singleton.1 hb; omega))
               have HOC4 := hide (V4_one y.t yA6 zA6 uA y.n.length y.s.length y.l.length yc6 zc6 uc)
               have HBS4 : Hid (w.heap.size + 1 ≤ ((w6.alloc (.cells #[.int .i64 y.t, .slice yA6 y.n.length yc6, .slice zA6 y.s.length zc6, .slice uA y.l.length uc] 26)).alloc (.cells #[.int .i64 y.t, .slice yA6 y.n.length yc6, .slice zA6 y.s.length zc6, .slice uA y.l.length uc] 26)).heap.size) := hide (by have := blk_lt HGA4.out.hr; omega)
               have HO6 := hide ho6
               have HN6 := hide hn6
               have HG6 := hide hg6
               have HK4 := hide hk4
               clear ho6 hn6 hg6 hk4)
            | (at_builtin; refine wpList_append_rd _ rfl (.tmp 47) (.tmp 49) 24 rfl (w.heap.size + 1) 26 i1 (.agg #[.int .i64 0, .slice none 0 0, .slice none 0 0, .slice none 0 0]) 4 80 Try.underlying24 HI1.out HIZ.out HIS.out HIB.out rfl (Nat.succ_pos 3) (.slice eA2 x2.length ec2) x2.length (List.flatten xs2) rfl HGA4.out.he (w6.heap.size + 2) (some ⟨w6.heap.size + 1, 0, none⟩) 1 1 [.int .i64 y.t, .slice yA6 y.n.length yc6, .slice zA6 y.s.length zc6, .slice uA y.l.length uc] rfl rfl HRD4.out HOC4.out HM2'.out HMB2'.out HBS4.out ?_
               intro v7 w7 ho7 hg7 hb7
               obtain ⟨E7, ec7, rfl, hec7⟩ := own_slice ho7
               have HGA7 := hide (HGA2.out.elem HG6.out HO6.out HN6.out HK4.out ho7 hg7 hb7)
               clear ho7 hg7 hb7 hec7))
          go_roundw
          case rel =>
            refine ⟨m + 1, x2 ++ [y], by go_num, by omega, hide ?_, E7, ec7, _, _, by rw [List.length_append]; rfl, HGA7.out⟩
            rw [HX2.out, HLM.out, List.map_append, ← List.append_assoc]
            simp [HY.out]
          case measure => simp [intOf]; omega
        · have hmt1 : ¬ (m : Int) < (ts[j].l.length : Int) := by omega
          have HEM := hide (show ts[j].l.take m = ts[j].l from List.take_of_length_le (by omega))
          have HGA2 := hide hga2
          clear hga2
          go_wp2_with fail
          go_roundw
          case rel =>
            refine ⟨j + 1, n ++ ts[j].s, x2, by go_num, by omega, hide HNS.out.symm, hide ?_, N5, nc5, eA2, ec2, xs2, f2, by rw [List.length_append], rfl, HGA2.out⟩
            rw [HX2.out, HEM.out, HNL.out, List.map_append, HX.out]
          case measure => simp [intOf]; omega
    · have hlt1 : ¬ (j : Int) < (ts.length : Int) := by omega
      have HTE := hide (show ts.take j = ts from List.take_of_length_le (by omega))
      rw [HTE.out] at HN HX
      have hxt : Vl.tots x ≤ 500000 := by
        rw [HX.out]
        have h1 := elems_tots (ts.flatMap Vl.l) i (fun c hc => by
          obtain ⟨t, ht, hct⟩ := List.mem_flatMap.1 hc
          exact HOK.out t ht c hct)
        have h2 := flatL_le ts
        have := HT.out
        simp only [Int.toNat_natCast] at h1
        omega
      have hnl : n.length ≤ 500000 := by
        rw [HN.out]
        have h1 := flatS_le ts
        have := HT.out
        omega
      have hx0 : 0 < x.length := by rw [HX.out, List.length_map]; exact HL0.out
      have HS := hide (rSyms_any nA nc wr.heap.size n wr (Rd.of_own hga.hn) (Nat.le_refl _) (by omega))
      have HOF := hide (fun w2 (k : wr.grownBy w2 none) => rOf_any x w2 w2.heap.size eA ec hx0 (by omega) (Nat.le_refl _) ⟨xs, Rd.of_own (hga.he.kept k (by cases (Value.slice eA x.length ec).ownBlock <;> simp)), VOwAll.at_ _ _ _ (VOwAll.keep _ _ _ hga.hx fun b hb => k.block b (VOwAll.lt _ _ _ hga.hx b hb) (by simp)) (fun b hb => Nat.lt_of_lt_of_le (VOwAll.lt _ _ _ hga.hx b hb) k.size)⟩)
      have HRES := hide hga.hr
      have HGR := hide hga.hg
      clear hga hxt hnl hx0
      go_wp2_with (first
        | (go_at_call 41; refine HS.out.mono ?_
           rintro e w2 ⟨nB, nd, sA, sc, lB, ld, fa, rfl, ha, hna, hg2⟩
           have HA := hide ha
           have HNA := hide hna
           have HG2 := hide hg2
           clear ha hna hg2)
        | (go_at_call 78; refine (HOF.out _ HG2.out).mono ?_
           rintro e w3 ⟨uA, uc, vA, vc, tA, tc, fb, rfl, hb, hnb, hg3⟩
           have HBV := hide hb
           have HNB := hide hnb
           have HG3 := hide hg3
           have hr3 := (hg3.block _ (by have := blk_lt HRES.out; have := HG2.out.size; omega) (by simp)).trans ((HG2.out.block _ (blk_lt HRES.out) (by simp)).trans HRES.out)
           have hr4 : ∀ o : Obj, (w3.alloc o).heap[w.heap.size]? = some (.cells #[.int .i64 0, .slice none 0 0, .slice none 0 0, .slice none 0 0] 26 (0, 0)) := fun o => ((gb_alloc (gb_refl w3 none) o).block _ (blk_lt hr3) (by simp)).trans hr3
           have p0 : ∀ o : Obj, (w3.alloc o).cell? ⟨w.heap.size, 0, none⟩ = some (.int .i64 0) := fun o => by rw [blk_cell (hr4 o)]; rfl
           have p1 : ∀ o : Obj, (w3.alloc o).cell? ⟨w.heap.size, 1, none⟩ = some (.slice none 0 0) := fun o => by rw [blk_cell (hr4 o)]; rfl
           have p2 : ∀ o : Obj, (w3.alloc o).cell? ⟨w.heap.size, 2, none⟩ = some (.slice none 0 0) := fun o => by rw [blk_cell (hr4 o)]; rfl
           have p3 : ∀ o : Obj, (w3.alloc o).cell? ⟨w.heap.size, 3, none⟩ = some (.slice none 0 0) := fun o => by rw [blk_cell (hr4 o)]; rfl
           have z0 : ∀ o : Obj, (w3.alloc o).frozen? ⟨w.heap.size, 0, none⟩ = false := fun o => blk_frozen (hr4 o) 0
           have z1 : ∀ o : Obj, (w3.alloc o).frozen? ⟨w.heap.size, 1, none⟩ = false := fun o => blk_frozen (hr4 o) 1
           have z2 : ∀ o : Obj, (w3.alloc o).frozen? ⟨w.heap.size, 2, none⟩ = false := fun o => blk_frozen (hr4 o) 2
           have z3 : ∀ o : Obj, (w3.alloc o).frozen? ⟨w.heap.size, 3, none⟩ = false := fun o => blk_frozen (hr4 o) 3
           clear hb hnb hg3 hr3 hr4))
      refine bodyPost_ret (v := .agg #[.int .i64 99, .slice none 0 0, .slice none 0 0, .slice (some ⟨w3.heap.size, 0, none⟩) 2 2]) (by simp [results, Try.results49, go_sem, p0, p1, p2, p3]) rfl ?_
      have hv : rowV ts i = .mk 99 [] [] [.mk 3 [] n [], ofV x] := by unfold rowV; rw [← HN.out, ← HX.out]
      rw [hv]
      exact NewV.of_newE (NewE.of_pair (blk_lt HRES.out) HGR.out HG2.out HG3.out HA.out HNA.out HBV.out HNB.out rfl)
end Go.Proofs.Ytfckmkpfhchggaa
