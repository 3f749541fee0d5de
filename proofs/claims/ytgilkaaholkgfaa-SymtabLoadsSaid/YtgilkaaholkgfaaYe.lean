/-
  The contract of symtab's give.
-/
import Derived.Test.YtgilkaaholkgfaaYd
namespace Go.Proofs.Ytgilkaaholkgfaa
open Go.RowKit

/-- Numbers as cells. -/
def nats (l : List Nat) : List Value := l.map fun (n : Nat) => Value.int .i64 (n : Int)
theorem nats_length (l : List Nat) : (nats l).length = l.length := by simp [nats]
theorem own_whole {w : World} {base g n : Nat} {e : TypeId} {xs : List Value} (h : w.ownsRow base e 1 (.slice (some ⟨g, 0, none⟩) n n) n xs) : ∃ cur, w.heap[g]? = some (.cells cur e (0, 0)) ∧ cur.toList = xs ∧ cur.size = n ∧ base ≤ g := by
  rcases h.2 with ⟨h1, _⟩ | ⟨g', cap, cur, hv, hb, hh, _, _, hs, ht⟩
  · cases h1
  · injection hv with e1 e2 e3
    injection e1 with e1
    injection e1 with e1
    subst e1
    subst e3
    have hs' : cur.size = n := by simpa using hs
    refine ⟨cur, hh, ?_, hs', hb⟩
    rw [← ht, List.take_of_length_le (by rw [Array.length_toList]; omega)]
theorem own_of_cells {w : World} {base g n : Nat} {e : TypeId} {cur : Array Value} (h : w.heap[g]? = some (.cells cur e (0, 0))) (hs : cur.size = n) (hb : base ≤ g) (hn : n ≤ maxLen) : w.ownsRow base e 1 (.slice (some ⟨g, 0, none⟩) n n) n cur.toList :=
  ⟨by simp [hs], .inr ⟨g, n, cur, rfl, hb, h, Nat.le_refl _, hn, by omega, by rw [Nat.mul_one, ← hs, ← Array.length_toList, List.take_length]⟩⟩
theorem TabF.not_row {w : World} {base g k : Nat} {f : List Nat} {L : List ByteArray} {cur : Array Value} {t : TypeId} (h : TabF w base f g L) (hk : w.heap[k]? = some (.cells cur t (0, 0))) (h1 : t ≠ 81) (h2 : t ≠ 9) : k ∉ f := by
  obtain ⟨v, mb, hb, rfl⟩ := h
  intro hm
  unfold tabF at hm
  rcases List.mem_cons.1 hm with rfl | hm
  · rw [hb.1] at hk
    injection hk with hk
    injection hk with _ hk
    exact h1 hk.symm
  rcases List.mem_cons.1 hm with rfl | hm
  · obtain ⟨es, clock, hq⟩ := hb.map
    rw [hq] at hk
    cases hk
  · have e : v.ownBlock = some k := by simpa using hm
    rcases hb.2.1.2 with ⟨rfl, _⟩ | ⟨g', cap, cs, rfl, _, hh, _⟩
    · simp [Value.ownBlock] at e
    · have : g' = k := by simpa [Value.ownBlock] using e
      subst this
      rw [hh] at hk
      injection hk with hk
      injection hk with _ hk
      exact h2 hk.symm

/-- The numbers that are laid, k of them told. -/
def NumB (w : World) (nb n k : Nat) (ns : List Nat) : Prop := ∃ cur, w.heap[nb]? = some (.cells cur 3 (0, 0)) ∧ cur.size = n ∧ cur.toList.take k = nats ns
/-- What a round of give leaves. -/
def GiveI (base g nb n : Nat) (f : List Nat) (L l : List ByteArray) (w : World) (k : Nat) (wr : World) : Prop :=
  NumB wr nb n k (inter L (l.take k)).2 ∧ ∃ f', TabF wr base f' g (inter L (l.take k)).1 ∧ Wrote w wr (nb :: f) ∧ (∀ x ∈ f', x ∈ f ∨ w.heap.size < x)

def GivePost (base g : Nat) (f : List Nat) (L l : List ByteArray) (w : World) (e : Ending) (w' : World) : Prop :=
  ∃ v f', e = .returned (.tuple #[v, .int .i64 0]) ∧ w'.ownsRow w.heap.size 3 1 v l.length (nats (inter L l).2) ∧ TabF w' base f' g (inter L l).1 ∧ Wrote w w' f ∧ ∀ x ∈ f', x ∈ f ∨ w.heap.size ≤ x

theorem NumB.put {w w2 : World} {nb n k m : Nat} {ns : List Nat} (h : NumB w nb n k ns) (hw : w2.heap[nb]? = w.heap[nb]?) (hk : k < n) : ∃ cur, w2.heap[nb]? = some (.cells cur 3 (0, 0)) ∧ k < cur.size ∧ NumB (w2.setCell ⟨nb, k, none⟩ (.int .i64 (m : Int))) nb n (k + 1) (ns ++ [m]) := by
  obtain ⟨cur, h1, h2, h3⟩ := h
  refine ⟨cur, hw.trans h1, by omega, _, blk_set (hw.trans h1) k _, by simpa using h2, ?_⟩
  have hk' : k < cur.size := by omega
  rw [List.take_succ_eq_append_getElem (by simpa using hk')]
  have e1 : (cur.setIfInBounds k (.int .i64 (m : Int))).toList.take k = cur.toList.take k := by
    rw [Array.toList_setIfInBounds, List.take_set_of_le (Nat.le_refl _)]
  rw [e1, h3]
  simp [nats]

set_option maxHeartbeats 1000000 in
set_option maxRecDepth 100000 in
theorem give_unfit (g : Nat) (l : List ByteArray) (A : Option Addr) (n c B : Nat) (w : World) (hr : Rd w B A (strs l)) (hn : l.length = n) (hl : n ≤ 1000000) (hu : l.any unf = true) :
    Calls Try.prog 37 #[.pointer (some ⟨g, 0, none⟩), .slice A n c] w fun e w' => e = .returned (.tuple #[.slice none 0 0, .int .i64 50]) ∧ w = w' := by
  have HC := hide (unf_has l w B A n c hn (by omega) hr)
  rw [hu] at HC
  clear hu hr hn
  go_enter Try.func37, Try.ntmps37
  go_wp2_with (go_at_call 56; refine HC.out.mono ?_; rintro e w1 ⟨rfl, rfl⟩)
  go_ret2
  exact ⟨rfl, rfl⟩

set_option maxHeartbeats 4000000 in
set_option maxRecDepth 100000 in
theorem give_any (base g : Nat) (f : List Nat) (L l : List ByteArray) (A : Option Addr) (n c B : Nat) (w : World) (h : TabF w base f g L) (hr : Rd w B A (strs l)) (hB : B ≤ w.heap.size) (hA : ∀ ad, A = some ad → l ≠ [] → ad.block ∉ f)
    (hn : l.length = n) (hl : n ≤ 60000) (hu : l.any unf = false) (hL : L.length ≤ 5000) (hb : base ≤ w.heap.size) :
    Calls Try.prog 37 #[.pointer (some ⟨g, 0, none⟩), .slice A n c] w (GivePost base g f L l w) := by
  subst hn
  have HC := hide (unf_has l w B A l.length c rfl (by omega) hr)
  rw [hu] at HC
  have HU : Hid (∀ s ∈ l, s.size ≤ 64) := hide (fun s hs => unf_size (by
    rw [Bool.eq_false_iff]
    intro hc
    rw [List.any_eq_true.2 ⟨s, hs, hc⟩] at hu
    cases hu))
  have HR := hide hr
  have HB := hide hB
  have HA := hide hA
  have HT := hide h
  have HBS := hide hb
  obtain ⟨i1, hi1, hiz, his, hib⟩ := info_parts Try.infoI
  have HI1 := hide hi1
  have HIZ := hide hiz
  have HIS := hide his
  have HIB : Hid (i1.bytes * l.length ≤ 281474976710656) := hide (by rw [hib]; omega)
  have HML : Hid (l.length ≤ maxLen) := hide (by unfold maxLen; omega)
  obtain ⟨A0, c0, mb0, h0, h1, _, _, _, _, _, hf0⟩ := h.open_
  clear hi1 hiz his hib hu hr hB hA h hb h1 hf0
  go_enter Try.func37, Try.ntmps37
  go_wp2_with (first
    | (go_at_call 56; refine HC.out.mono ?_; rintro e w1 ⟨rfl, rfl⟩)
    | (refine wpList_make_full _ rfl (.tmp 20) (.tmp 20) 37 rfl w.heap.size 3 i1 (.int .i64 0) 1 Try.underlying37 HI1.out HIZ.out HIS.out .i64 .i64 _ _ l.length rfl rfl rfl rfl HIB.out HML.out (Nat.le_refl _) ?_; intro w1 ho1 hg1; have HO1 := hide ho1; have HG1 := hide hg1; clear ho1 hg1))
  go_loopw [8, 9, 10, 11, 24] (fun _ _ _ _ i wr => ∃ k : Nat, k ≤ l.length ∧ i = .int .i64 (k : Int) ∧ GiveI base g w.heap.size l.length f L l w k wr) (fun _ _ _ _ i _ => l.length - (intOf i).toNat)
  case atStart =>
    obtain ⟨cur, hc1, hc2, hc3, _⟩ := own_whole HO1.out
    exact ⟨0, Nat.zero_le _, rfl, ⟨cur, hc1, hc3, rfl⟩, f, HT.out.grown HG1.out, Wrote.of_gb HG1.out _, fun x hx => .inl hx⟩
  case round =>
    obtain ⟨k, hk, rfl, hI⟩ := hrel
    have HI := hide hI
    obtain ⟨hN, f', hT, hW, hF⟩ := hI
    have hsize := inter_take_size L l k hk
    by_cases hlt : k < l.length
    · have hlt1 : (k : Int) < (l.length : Int) := by omega
      have hnb : w.heap.size ∉ f' := by
        obtain ⟨cur, h1, _⟩ := hN
        exact hT.not_row h1 (by decide) (by decide)
      have hrd : Rd wr B A (strs l) := hW.rd HR.out (fun ad ha hm => by
        rcases List.mem_cons.1 hm with e | e
        · obtain ⟨ad', e1, hb', _⟩ := HR.out (by rintro e2; have := congrArg List.length e2; rw [strs_length] at this; simp at this; rw [this] at hlt; simp at hlt)
          rw [ha] at e1
          injection e1 with e1
          subst e1
          have := HB.out
          omega
        · exact HA.out ad ha (by rintro rfl; simp at hlt) e) HB.out
      obtain ⟨ad, rfl, _, hcell⟩ := hrd.str hlt
      have HSM := hide (HU.out _ (List.getElem_mem hlt))
      have HIT := hide (inter_take L l k hlt)
      generalize hq : inter L (l.take k) = q at *
      obtain ⟨M, ns⟩ := q
      dsimp only at hT hN hsize
      have HQ := hide hq
      clear hq
      obtain ⟨A1, c1, mb, q0, q1, _, _, _, hmap, _, hf1⟩ := hT.open_
      clear hf1
      generalize l[k] = s at hcell HSM HIT
      have HF := hide hF
      have HW := hide hW
      have HTT := hide hT
      have HNN := hide hN
      have HNB := hide hnb
      have HMAP := hide hmap
      clear hN hT hW hF hmap hnb hrd
      cases hnum : numOf M s with
      | some m =>
        have HL : (Instr.lookup 79 (.map (some mb)) (.string s) true).run Try.prog wr = .ok (.tuple #[.int .i64 (m : Int), .bool true]) wr := HMAP.out.ok_yes (P := Try.prog) Try.dstr Try.underlying79 (zint wr) (k := s) hnum
        obtain ⟨cur, hp1, hp2, hp3⟩ := HNN.out.put (m := m) (w2 := wr) rfl hlt
        obtain ⟨u0, p0⟩ : ∃ u, wr.cell? ⟨w.heap.size, k, none⟩ = some u := ⟨cur[k], by rw [blk_cell hp1]; simp⟩
        have z0 := blk_frozen hp1 k
        have HE := hide (step1_yes (q := (M, ns)) hnum)
        have HP3 := hide hp3
        clear hnum hp1 hp3
        go_wp2_with fail
        go_roundw
        case rel =>
          have hw2 := Wrote.of_row (gb_setCell (gb_refl wr (some w.heap.size)) (.inl rfl) (p := ⟨w.heap.size, k, none⟩) (.int .i64 (m : Int))) (f := [w.heap.size]) (by simp)
          refine ⟨k + 1, by omega, by go_num, ?_, f', ?_, HW.out.trans hw2 (fun x hx => .inl (by simp at hx; simp [hx])), HF.out⟩
          · rw [HIT.out, HE.out]; exact HP3.out
          · rw [HIT.out, HE.out]; exact HTT.out.wrote hw2 (fun x hx => by simp at hx; rw [hx]; exact HNB.out)
        case measure => simp [intOf]; omega
      | none =>
        have HL : (Instr.lookup 79 (.map (some mb)) (.string s) true).run Try.prog wr = .ok (.tuple #[.int .i64 0, .bool false]) wr := HMAP.out.ok_no (P := Try.prog) Try.dstr Try.underlying79 (zint wr) (k := s) hnum
        have HE := hide (step1_no (q := (M, ns)) hnum)
        have HWS := hide HW.out.size
        have HEN := hide (enter_any base g f' M s wr HTT.out hnum HSM.out (by omega) (by have := HBS.out; have := HWS.out; omega))
        have hlen : ((M.length : Int) == 65536) = false := beq_eq_false_iff_ne.2 (by omega)
        clear hnum
        go_wp2_with (go_at_call 58; refine HEN.out.mono ?_; rintro e w2 ⟨rfl, f2, ht2, hw2, hf2⟩; have HT2 := hide ht2; have HW2 := hide hw2; have HF2 := hide hf2; obtain ⟨cur, hp1, hp2, hp3⟩ := HNN.out.put (m := M.length) (w2 := w2) (hw2.block _ (by obtain ⟨cur, h1, _⟩ := HNN.out; exact blk_lt h1) HNB.out) hlt; have p0 : w2.cell? ⟨w.heap.size, k, none⟩ = some (cur[k]) := (by rw [blk_cell hp1]; simp); have z0 := blk_frozen hp1 k; have HP3 := hide hp3; have HP1 := hide hp1; clear ht2 hw2 hf2 hp1 hp3)
        go_roundw
        case rel =>
          have hw3 := Wrote.of_row (gb_setCell (gb_refl w2 (some w.heap.size)) (.inl rfl) (p := ⟨w.heap.size, k, none⟩) (.int .i64 (M.length : Int))) (f := [w.heap.size]) (by simp)
          have hs2 := HWS.out
          refine ⟨k + 1, by omega, by go_num, ?_, f2, ?_, (HW.out.trans HW2.out (fun x hx => ?_)).trans hw3 (fun x hx => .inl (by simp at hx; simp [hx])), fun x hx => ?_⟩
          · rw [HIT.out, HE.out]; exact HP3.out
          · rw [HIT.out, HE.out]; exact HT2.out.wrote hw3 (fun x hx => by simp at hx; rw [hx]; exact HT2.out.not_row HP1.out (by decide) (by decide))
          · rcases HF.out x hx with h | h
            · exact .inl (by simp [h])
            · exact .inr (by omega)
          · rcases HF2.out x hx with h | h
            · exact HF.out x h
            · right
              obtain ⟨cur, h1, _⟩ := HNN.out
              have := blk_lt h1
              omega
        case measure => simp [intOf]; omega
    · obtain rfl : k = l.length := by omega
      have hlt1 : ¬ (l.length : Int) < (l.length : Int) := by omega
      have HF := hide hF
      have HW := hide hW
      have HTT := hide hT
      have HNN := hide hN
      clear hN hT hW hF hsize
      go_wp2_with fail
      go_ret2
      obtain ⟨cur, h1, h2, h3⟩ := HNN.out
      have hT := HTT.out
      rw [List.take_of_length_le (by rw [Array.length_toList]; omega)] at h3
      rw [List.take_length] at h3 hT
      refine ⟨_, f', rfl, ?_, hT, ?_, fun x hx => (HF.out x hx).imp id (fun h => by omega)⟩
      · rw [← h3]
        exact own_of_cells h1 h2 (Nat.le_refl _) HML.out
      · exact ⟨HW.out.os, HW.out.tape, HW.out.output, HW.out.size, fun x hx hn => HW.out.block x hx (fun hm => by
          rcases List.mem_cons.1 hm with e | e
          · omega
          · exact hn e)⟩
end Go.Proofs.Ytgilkaaholkgfaa
