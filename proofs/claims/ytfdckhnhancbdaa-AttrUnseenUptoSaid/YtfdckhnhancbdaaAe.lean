/-
  How many runs and falls, in plain words; column.push.
-/
import Derived.Test.YtfdckhnhancbdaaAd
import Derived.Test.YtfdckhnhancbdaaGx
namespace Go.Proofs.Ytfdckhnhancbdaa
open Go.RowKit
attribute [local go_sem ↓] Go.wp_at_zero Go.wp_at_succ

def runsK (es : List (Int × ByteArray)) : Int := ((List.range es.length).map fun j => bI (newAt es j)).sum
def fallsK (es : List (Int × ByteArray)) : Int := ((List.range es.length).map fun j => bI (fallAt es j)).sum
theorem newAt_old (es : List (Int × ByteArray)) (k : Int × ByteArray) (j : Nat) (h : j < es.length) : newAt (es ++ [k]) j = newAt es j := by
  unfold newAt
  rw [List.getElem?_append_left h, List.getElem?_append_left (by omega)]
theorem fallAt_old (es : List (Int × ByteArray)) (k : Int × ByteArray) (j : Nat) (h : j < es.length) : fallAt (es ++ [k]) j = fallAt es j := by
  unfold fallAt
  rw [List.getElem?_append_left h, List.getElem?_append_left (by omega)]
theorem runsK_snoc (es : List (Int × ByteArray)) (k : Int × ByteArray) : runsK (es ++ [k]) = runsK es + bI (newAt (es ++ [k]) es.length) := by
  unfold runsK
  rw [List.length_append, List.length_singleton, List.range_succ, List.map_append, List.sum_append]
  simp only [List.map_cons, List.map_nil, List.sum_cons, List.sum_nil, Int.add_zero]
  congr 2
  exact List.map_congr_left fun j hj => by rw [newAt_old es k j (List.mem_range.1 hj)]
theorem fallsK_snoc (es : List (Int × ByteArray)) (k : Int × ByteArray) : fallsK (es ++ [k]) = fallsK es + bI (fallAt (es ++ [k]) es.length) := by
  unfold fallsK
  rw [List.length_append, List.length_singleton, List.range_succ, List.map_append, List.sum_append]
  simp only [List.map_cons, List.map_nil, List.sum_cons, List.sum_nil, Int.add_zero]
  congr 2
  exact List.map_congr_left fun j hj => by rw [fallAt_old es k j (List.mem_range.1 hj)]
theorem bI_in (b : Bool) : 0 ≤ bI b ∧ bI b ≤ 1 := by cases b <;> decide
theorem sum_in (f : Nat → Bool) (n : Nat) : 0 ≤ ((List.range n).map fun j => bI (f j)).sum ∧ ((List.range n).map fun j => bI (f j)).sum ≤ n := by
  induction n with
  | zero => simp
  | succ n ih =>
    rw [List.range_succ, List.map_append, List.sum_append]
    have := bI_in (f n)
    simp only [List.map_cons, List.map_nil, List.sum_cons, List.sum_nil, Int.add_zero]
    omega
theorem runsK_in (es : List (Int × ByteArray)) : 0 ≤ runsK es ∧ runsK es ≤ es.length := sum_in _ _
theorem fallsK_in (es : List (Int × ByteArray)) : 0 ≤ fallsK es ∧ fallsK es ≤ es.length := sum_in _ _

/-- What push leaves. -/
def PushP (base g : Nat) (ty : TypeId) (rest : List Value) (mark t : Int) (v : Value) (es : List (Int × ByteArray)) (w : World) (e : Ending) (w' : World) : Prop :=
  ∃ v', e = .returned (.tuple #[]) ∧ ColB w' base g ty rest mark t v' es (runsK es) (fallsK es) ∧ Wro w w' (g :: v.ownBlock.toList) ∧ (v'.ownBlock = v.ownBlock ∨ ∃ b, v'.ownBlock = some b ∧ w.heap.size ≤ b)
theorem Wro.rd {w w' : World} {f : List Nat} {B : Nat} {A : Option Addr} {xs : List Value} (h : Wro w w' f) (hr : Rd w B A xs) (hA : ∀ ad, A = some ad → xs ≠ [] → ad.block ∉ f) (hB : B ≤ w.heap.size) : Rd w' B A xs := fun hn => by
  obtain ⟨ad, rfl, hb, hc⟩ := hr hn
  refine ⟨ad, rfl, hb, fun j u hu => ?_⟩
  rw [World.cell?_of_block (h.block _ (by rw [add_block]; omega) (by rw [add_block]; exact hA ad rfl hn))]
  exact hc j u hu
theorem Try.infoK : (Try.prog.info? 89).map (fun i => (i.zero, i.size, i.bytes)) = some (some (.agg #[.int .i64 0, .string ⟨#[]⟩]), 2, 24) := by kernel_rfl

theorem rUpon_append {ρ : Gr} {P : Program} {w : World} {o : Oper} {a : Act} {s x : Operand} {t : TypeId} (ho : o.op = .call { callee := .builtin .append, args := #[s, x], argTypes := #[t, t] }) {v sl : Value} (hs : a.eval s = v) (hx : a.eval x = sl) {F : Fct}
    (hrun : ∃ y w', (Builtin.append_ #[t, t] o.type #[v, sl]).run P w = .ok y w' ∧ ρ.R w w' ∧ F y w') : rUpon ρ P w F ((execOp a.eval o).run P w) := by
  obtain ⟨y, w', hr, h1, h2⟩ := hrun
  unfold execOp
  simp only [ho, resolve, invoke, builtin, Sem.run_bind, Sem.run_pure, Result.andThen_ok, List.map_toArray, List.map_cons, List.map_nil, hs, hx, hr]
  exact ⟨h1, h2⟩
theorem key_cells {w : World} {b : Nat} {k : Int × ByteArray} {ty : TypeId} (h : w.heap[b]? = some (.cells #[.int .i64 k.1, .string k.2] ty (0, 0))) : ∀ j u, (kcs [k])[j]? = some u → w.cell? ((⟨b, 0, none⟩ : Addr).add j) = some u := by
  intro j u hu
  have e : (⟨b, 0, none⟩ : Addr).add j = ⟨b, j, none⟩ := by unfold Addr.add; split <;> simp_all
  rw [e, blk_cell h]
  simpa [kcs] using hu
theorem eval_tmp {a : Act} {k : Nat} {v : Value} (h : a.tmps[k]?.getD undef = v) : a.eval (.tmp k) = v := by simpa only [Act.eval, Array.getD_eq_getD_getElem?] using h
theorem CountP.cast {base g : Nat} {ty : TypeId} {rest : List Value} {mark t : Int} {v : Value} {es : List (Int × ByteArray)} {r f r' f' : Int} {w : World} {e : Ending} {w' : World} (h : CountP base g ty rest mark t v es r f w e w') (h1 : r = r') (h2 : f = f') : CountP base g ty rest mark t v es r' f' w e w' := by
  rw [← h1, ← h2]; exact h
theorem count_last (base g : Nat) (ty : TypeId) (rest : List Value) (mark t : Int) (v : Value) (es : List (Int × ByteArray)) (k : Int × ByteArray) (n : Nat) (hn : es.length = n) (w : World) (h : ColB w base g ty rest mark t v (es ++ [k]) (runsK es) (fallsK es)) (hl : n ≤ 200000) :
    Calls Try.prog 63 #[.pointer (some ⟨g, 0, none⟩), .int .i64 (n : Int), .int .i64 1] w (CountP base g ty rest mark t v (es ++ [k]) (runsK (es ++ [k])) (fallsK (es ++ [k])) w) := by
  subst hn
  have hr := runsK_in es
  have hf := fallsK_in es
  rcases Nat.eq_zero_or_pos es.length with h0 | h0
  · have he : es = [] := List.eq_nil_of_length_eq_zero h0
    subst he
    refine (count_first base g ty rest mark t v _ _ _ 1 w h (by simp) (.inl rfl) (by simp [runsK])).mono fun e w' hc => hc.cast ?_ ?_
    · rw [runsK_snoc]; simp [newAt, bI]
    · rw [fallsK_snoc]; simp [fallAt, bI]
  · obtain ⟨m, hm⟩ : ∃ m, es.length = m + 1 := ⟨es.length - 1, by omega⟩
    have ha : (es ++ [k])[es.length]? = some k := by simp
    obtain ⟨b, hb⟩ : ∃ b, es[m]? = some b := ⟨es[m]'(by omega), List.getElem?_eq_getElem (by omega)⟩
    have hb' : (es ++ [k])[m]? = some b := by rw [List.getElem?_append_left (by omega)]; exact hb
    have hb1 : (es ++ [k])[es.length - 1]? = some b := by rw [hm]; exact hb'
    refine (count_next base g ty rest mark t v _ _ _ 1 es.length m hm w h (by simp) (.inl rfl) (by omega) (by omega) k b ha hb' (!decide (k = b)) (decide (cmpK k b < 0)) (by simp) rfl).mono fun e w' hc => hc.cast ?_ ?_
    · rw [runsK_snoc]
      unfold newAt
      rw [ha, hb1]
      have : decide (es.length = 0) = false := decide_eq_false (by omega)
      rw [this, Bool.false_or]
      simp
    · rw [fallsK_snoc]
      unfold fallAt
      rw [ha, hb1]
      have : decide (0 < es.length) = true := decide_eq_true h0
      simp [this]
theorem ColB.setV {w : World} {base g : Nat} {ty : TypeId} {rest : List Value} {mark t : Int} {v x : Value} {es' : List (Int × ByteArray)} {r f : Int} (hb : w.heap[g]? = some (.cells (colC mark t v r f rest) ty (0, 0))) (ho : w.ownsRow base 89 2 x es'.length (kcs es')) (hne : x.ownBlock ≠ some g) :
    ColB (w.setCell ⟨g, 2, none⟩ x) base g ty rest mark t x es' r f :=
  ⟨by simpa [colC] using blk_set hb 2 x, own_gb ho (gb_cell _) (.inr hne), hne⟩

set_option maxHeartbeats 2000000 in
set_option maxRecDepth 100000 in
theorem push_any (base g : Nat) (ty : TypeId) (rest : List Value) (mark t : Int) (v : Value) (es l : List (Int × ByteArray)) (A : Option Addr) (n c B : Nat) (w : World) (h : ColB w base g ty rest mark t v es (runsK es) (fallsK es)) (hr : Rd w B A (kcs l)) (hB : B ≤ w.heap.size) (hn : l.length = n)
    (hA : ∀ ad, A = some ad → l ≠ [] → ad.block ≠ g ∧ v.ownBlock ≠ some ad.block) (hlen : es.length + l.length ≤ 200000) (hb : base ≤ w.heap.size) :
    Calls Try.prog 38 #[.pointer (some ⟨g, 0, none⟩), .slice A n c] w (PushP base g ty rest mark t v (es ++ l) w) := by
  subst hn
  have HH := hide h
  have HR := hide hr
  have HB := hide hB
  have HA := hide hA
  have HLN := hide hlen
  have HBS := hide hb
  have HGL := hide (blk_lt h.blk)
  clear h hr hB hA hlen hb
  go_enter Try.func38, Try.ntmps38
  go_wp2_with fail
  go_loopw [8] (fun i wr => ∃ (k : Nat) (v' : Value), k ≤ l.length ∧ i = .int .i64 (k : Int) ∧ ColB wr base g ty rest mark t v' (es ++ l.take k) (runsK (es ++ l.take k)) (fallsK (es ++ l.take k)) ∧ Wro w wr (g :: v.ownBlock.toList) ∧ (v'.ownBlock = v.ownBlock ∨ ∃ b, v'.ownBlock = some b ∧ w.heap.size ≤ b)) (fun i _ => l.length - (intOf i).toNat)
  case atStart => exact ⟨0, v, Nat.zero_le _, rfl, by simpa using HH.out, Wro.refl_ w _, .inl rfl⟩
  case round =>
    obtain ⟨k, v', hk, rfl, hC, hW, hO⟩ := hrel
    by_cases hlt : k < l.length
    · have hrd : Rd wr B A (kcs l) := hW.rd HR.out (fun ad ha hne hm => by
        have hl0 : l ≠ [] := by rintro rfl; exact hne rfl
        obtain ⟨h1, h2⟩ := HA.out ad ha hl0
        rcases List.mem_cons.1 hm with e | e
        · exact h1 e
        · exact h2 (by simpa using e)) HB.out
      obtain ⟨bb, o, rfl, hbb, hcell⟩ := hrd.key (by omega)
      obtain ⟨k0, k1⟩ := hcell k hlt
      obtain ⟨kk, hkk⟩ : ∃ kk, kk = l[k] := ⟨_, rfl⟩
      rw [← hkk] at k0 k1
      have HK := hide hkk
      have HC := hide hC
      have HW := hide hW
      have HO := hide hO
      clear hrd hcell hkk hC hW hO hbb
      go_wp2_with fail
      obtain ⟨wa, hwa⟩ : ∃ wa, wa = wr.alloc (.cells #[.int .i64 kk.1, .string kk.2] 89) := ⟨_, rfl⟩
      have hga : wr.grownBy wa none := by rw [hwa]; exact gb_alloc (gb_refl wr none) _
      have hx : wa.heap[wr.heap.size]? = some (.cells #[.int .i64 kk.1, .string kk.2] 89 (0, 0)) := by rw [hwa]; exact heap_alloc_new wr _
      obtain ⟨i1, hi1, hiz, his, hib⟩ := info_parts Try.infoK
      have HCA := hide (HC.out.gb hga)
      obtain ⟨sp, F, hnd, hsp, hF, hK⟩ := append_facts (P := Try.prog) wa.drew base 72 72 89 i1 (.agg #[.int .i64 0, .string ⟨#[]⟩]) 2 24 Try.underlying72 hi1 hiz his hib rfl (by omega) v' (es ++ l.take k).length (kcs (es ++ l.take k)) HCA.out.own 1 (kcs [kk]) rfl (kcs_one _) (by omega)
        (by have := HLN.out; unfold maxLen; simp; omega) (by have := HLN.out; simp; omega) (by have := HBS.out; have := HW.out.size; have := hga.size; show base ≤ wa.heap.size; omega)
      have hsl : ∀ s ∈ sp, s.1 < wr.heap.size := fun s hs => own_lt' HC.out.own (hsp s hs).1
      obtain ⟨hku, hrun⟩ := hK sp (fun _ h => h) (fun _ h _ => h) (fun s hs => Nat.lt_of_lt_of_le (hsl s hs) hga.size) hnd
      have HNG : Hid (g ∉ sp.map (·.1)) := hide (fun hm => by
        obtain ⟨s, hs, e⟩ := List.mem_map.1 hm
        exact HC.out.ne (by rw [(hsp s hs).1, e]))
      have HNX : Hid (wr.heap.size ∉ sp.map (·.1)) := hide (fun hm => by
        obtain ⟨s, hs, e⟩ := List.mem_map.1 hm
        have := hsl s hs
        omega)
      have HSL : Hid (∀ x ∈ sp.map (·.1), x < wa.heap.size) := hide (fun x hx => by
        obtain ⟨s, hs, rfl⟩ := List.mem_map.1 hx
        exact Nat.lt_of_lt_of_le (hsl s hs) hga.size)
      have HSV : Hid (∀ x ∈ sp.map (·.1), v'.ownBlock = some x) := hide (fun x hx => by
        obtain ⟨s, hs, rfl⟩ := List.mem_map.1 hx
        exact (hsp s hs).1)
      have HX := hide hx
      have HGA := hide hga
      have HF := hide hF
      have HKU := hide hku
      have HRUN := hide hrun
      rw [← hwa]
      clear hwa hga hx hi1 hiz his hib hnd hsp hF hK hsl hku hrun HC
      refine wp_region_rfacts' (grS sp) 10 (by kernel_rfl) (by kernel_rfl) ?_
      intro A O W L HA HO HW HL
      simp only [List.take_succ_cons, List.take_zero]
      have HS := hide (show A.tmps.size = 31 by rw [HA.out]; rfl)
      have HGW := hide (show wa.grownBy W none by rw [HW.out]; exact gb_drew (gb_refl wa none))
      have A0 := hide (show A.eval (.tmp 0) = .pointer (some ⟨g, 0, none⟩) by rw [HA.out]; rfl)
      have A5 := hide (show A.eval (.tmp 5) = .pointer (some ⟨wr.heap.size, 0, none⟩) by rw [HA.out]; rfl)
      -- slot 12
      refine rFacts_lit (.pointer (some ⟨g, 0, none⟩)) rfl ?_ ?_
      · intro a wq hw hl
        have e0 : a.tmps[0]?.getD undef = .pointer (some ⟨g, 0, none⟩) := (hl 0 (by first | (simp [Op.operands]; done) | simp [Op.operands, Call.operands]) (by rw [HS.out]; decide)).trans A0.out
        clear hl
        go_simp
      -- slot 13
      refine rFacts_lit (.pointer (some ⟨g, 0, none⟩)) rfl ?_ ?_
      · intro a wq hw hl
        have e0 : a.tmps[0]?.getD undef = .pointer (some ⟨g, 0, none⟩) := (hl 0 (by first | (simp [Op.operands]; done) | simp [Op.operands, Call.operands]) (by rw [HS.out]; decide)).trans A0.out
        clear hl
        go_simp
      -- slot 14
      refine rFacts_lit (.pointer (some ⟨g, 0, none⟩)) rfl ?_ ?_
      · intro a wq hw hl
        have e13 : a.tmps[13]?.getD undef = .pointer (some ⟨g, 0, none⟩) := hl 13 (by first | (simp [Op.operands]; done) | simp [Op.operands, Call.operands]) (by rw [HS.out]; decide)
        clear hl
        go_simp
      -- slot 15
      refine rFacts_lit (.pointer (some ⟨g, 2, none⟩)) rfl ?_ ?_
      · intro a wq hw hl
        have e14 : a.tmps[14]?.getD undef = .pointer (some ⟨g, 0, none⟩) := hl 14 (by first | (simp [Op.operands]; done) | simp [Op.operands, Call.operands]) (by rw [HS.out]; decide)
        clear hl
        go_simp
      -- slot 16
      refine rFacts_lit (v') rfl ?_ ?_
      · intro a wq hw hl
        have e15 : a.tmps[15]?.getD undef = .pointer (some ⟨g, 2, none⟩) := hl 15 (by first | (simp [Op.operands]; done) | simp [Op.operands, Call.operands]) (by rw [HS.out]; decide)
        have hbg : wq.heap[g]? = some (.cells (colC mark t v' (runsK (es ++ l.take k)) (fallsK (es ++ l.take k)) rest) ty (0, 0)) := WroS.keep hw (by rw [HW.out]; exact HCA.out.blk) HNG.out
        have c0 : wq.cell? ⟨g, 2, none⟩ = some (v') := by rw [blk_cell hbg]; rfl
        clear hbg
        clear hl
        go_simp
      -- slot 17
      refine rFacts_lit (.agg #[.int .i64 kk.1, .string kk.2]) rfl ?_ ?_
      · intro a wq hw hl
        have e5 : a.tmps[5]?.getD undef = .pointer (some ⟨wr.heap.size, 0, none⟩) := (hl 5 (by first | (simp [Op.operands]; done) | simp [Op.operands, Call.operands]) (by rw [HS.out]; decide)).trans A5.out
        have hbx : wq.heap[wr.heap.size]? = some (.cells #[.int .i64 kk.1, .string kk.2] 89 (0, 0)) := WroS.keep hw (by rw [HW.out]; exact HX.out) HNX.out
        have c0 : wq.cell? ⟨wr.heap.size, 0, none⟩ = some (.int .i64 kk.1) := by rw [blk_cell hbx]; rfl
        have c1 : wq.cell? ⟨wr.heap.size, 1, none⟩ = some (.string kk.2) := by rw [blk_cell hbx]; rfl
        clear hbx
        clear hl
        go_simp
      -- slot 18
      refine rFacts_step (RowR wa.heap.size 1 #[.int .i64 kk.1, .string kk.2] 89) rfl (RowR.up (ρ := grS sp) (f := sp.map (·.1)) (fun _ _ (h : WroS sp _ _) => h.wro) _ _ _ _ HSL.out) ?_ ?_
      · intro a wq hw hl
        have e17 : a.tmps[17]?.getD undef = .agg #[.int .i64 kk.1, .string kk.2] := hl 17 (by first | (simp [Op.operands]; done) | simp [Op.operands, Call.operands]) (by rw [HS.out]; decide)
        clear hl
        go_simp
        exact RowR.new _ _ (by have := hw.wro.size; rw [HW.out] at this; exact this)
      -- slot 19
      refine rFacts_step (F) rfl (HKU.out) ?_ ?_
      · intro a wq hw hl
        have e16 : a.tmps[16]?.getD undef = v' := hl 16 (by first | (simp [Op.operands]; done) | simp [Op.operands, Call.operands]) (by rw [HS.out]; decide)
        have h18 : (RowR wa.heap.size 1 #[.int .i64 kk.1, .string kk.2] 89) (a.tmps[18]?.getD undef) wq := hl 18 (by first | (simp [Op.operands]; done) | simp [Op.operands, Call.operands]) (by rw [HS.out]; decide)
        obtain ⟨rb, e18, hrb, _⟩ := h18
        clear hl
        refine rUpon_append rfl (eval_tmp e16) (eval_tmp e18) ?_
        exact HRUN.out wq ⟨rb, 0, none⟩ 1 (by rw [HW.out] at hw; exact hw) (key_cells hrb)
      -- slot 20
      refine rFacts_lit (.pointer (some ⟨g, 0, none⟩)) rfl ?_ ?_
      · intro a wq hw hl
        have e12 : a.tmps[12]?.getD undef = .pointer (some ⟨g, 0, none⟩) := hl 12 (by first | (simp [Op.operands]; done) | simp [Op.operands, Call.operands]) (by rw [HS.out]; decide)
        clear hl
        go_simp
      -- slot 21
      refine rFacts_lit (.pointer (some ⟨g, 2, none⟩)) rfl ?_ ?_
      · intro a wq hw hl
        have e20 : a.tmps[20]?.getD undef = .pointer (some ⟨g, 0, none⟩) := hl 20 (by first | (simp [Op.operands]; done) | simp [Op.operands, Call.operands]) (by rw [HS.out]; decide)
        clear hl
        go_simp
      refine HL.out _ (fun a' wz hc => ?_)
      have h19 : (F) (a'.eval (.tmp 19)) wz := hc.fact 19 (by rw [HS.out]; decide)
      have e21 : a'.eval (.tmp 21) = .pointer (some ⟨g, 2, none⟩) := hc.fact 21 (by rw [HS.out]; decide)
      have hrwz : ((grS sp)).R W wz := hc.grown
      have hfr := hc.frame [12, 13, 14, 15, 16, 17, 18, 19, 20, 21] (by rw [HO.out]; kernel_rfl)
      rw [hfr]
      clear hfr hc
      rw [HA.out]
      rw [HW.out] at hrwz
      clear HA HO HL HW HS HGW A0 A5
      clear A O W L
      simp only [List.drop_succ_cons, List.drop_zero, List.foldl_cons, List.foldl_nil, Act.put, List.setIfInBounds_toArray, List.set_cons_succ, List.set_cons_zero]
      rw [e21]
      generalize a'.eval (.tmp 12) = x12
      generalize a'.eval (.tmp 13) = x13
      generalize a'.eval (.tmp 14) = x14
      generalize a'.eval (.tmp 15) = x15
      generalize a'.eval (.tmp 16) = x16
      generalize a'.eval (.tmp 17) = x17
      generalize a'.eval (.tmp 18) = x18
      generalize a'.eval (.tmp 19) = x19 at h19 ⊢
      generalize a'.eval (.tmp 20) = x20
      clear e21
      clear a'
      obtain ⟨N, hN⟩ : ∃ N, (es ++ l.take k).length = N := ⟨_, rfl⟩
      obtain ⟨hox, hxo⟩ := HF.out _ _ h19
      have hbz : wz.heap[g]? = some (.cells (colC mark t v' (runsK (es ++ l.take k)) (fallsK (es ++ l.take k)) rest) ty (0, 0)) := WroS.keep hrwz HCA.out.blk HNG.out
      have z2 := blk_frozen hbz 2
      have y2 : wz.cell? ⟨g, 2, none⟩ = some v' := by rw [blk_cell hbz]; rfl
      rw [← kcs_app] at hox
      have hxg : x19.ownBlock ≠ some g := by
        rcases hxo with e | ⟨b, e, hb⟩
        · rw [e]; exact HCA.out.ne
        · rw [e]
          have h1 := HGL.out
          have h2 := HW.out.size
          have h3 : wr.heap.size ≤ wa.heap.size := HGA.out.size
          have h4 : wa.heap.size ≤ b := hb
          intro e2
          injection e2 with e2
          omega
      have hox2 : wz.ownsRow base 89 2 x19 (es ++ l.take k ++ [kk]).length (kcs (es ++ l.take k ++ [kk])) := by rw [List.length_append, List.length_singleton]; exact hox
      have hCy := ColB.setV hbz hox2 hxg
      have HXO : Hid (x19.ownBlock = v.ownBlock ∨ ∃ b, x19.ownBlock = some b ∧ w.heap.size ≤ b) := hide (by
        rcases hxo with e | ⟨b, e, hb⟩
        · rw [e]; exact HO.out
        · exact .inr ⟨b, e, Nat.le_trans (Nat.le_trans HW.out.size HGA.out.size) hb⟩)
      have HWZ : Hid (Wro w wz (g :: v.ownBlock.toList)) := hide ((HW.out.trans (Wro.of_none HGA.out _) (fun _ hx => .inl hx)).trans (show Wro wa wz (sp.map (·.1)) from ⟨hrwz.wro.os, hrwz.wro.tape, hrwz.wro.output, hrwz.wro.size, hrwz.wro.block⟩) fun x hx => by
        rcases HO.out with e | ⟨b, e, hb⟩
        · exact .inl (by rw [← e, HSV.out x hx]; simp)
        · right
          have := HSV.out x hx
          rw [e] at this
          injection this with this
          omega)
      rw [hN] at hox
      obtain ⟨A19, c19, rfl, hnc, hcm, _⟩ := own_form2 hox
      have HNN := hide hN
      have HNL : Hid (N ≤ 200000) := hide (by rw [← hN]; have := HLN.out; simp; omega)
      have hNl : N ≤ 200000 := HNL.out
      have hkl : k ≤ 200000 := by have := HLN.out; omega
      have HCY := hide hCy
      clear hox hox2 hbz hxg hxo hCy hN h19 hrwz hnc hcm
      clear HKU HRUN HF HSL HSV HNG HNX HX HCA HGA
      go_wp2_with fail
      obtain ⟨wy, hwy⟩ : ∃ wy, wy = wz.setCell ⟨g, 2, none⟩ (.slice A19 (N + 1) c19) := ⟨_, rfl⟩
      have HWY : Hid (Wro w wy (g :: v.ownBlock.toList)) := hide (by rw [hwy]; exact HWZ.out.trans (Wro.of_gb (gb_cell _) (f := [g]) (by simp)) (by simp))
      rw [← hwy] at HCY
      rw [← hwy]
      clear hwy
      refine (count_last base g ty rest mark t (.slice A19 (N + 1) c19) (es ++ l.take k) kk N HNN.out wy HCY.out HNL.out).mono ?_
      rintro e w2 ⟨rfl, hC2, hg2⟩
      have HC2 := hide hC2
      have HW2 : Hid (Wro w w2 (g :: v.ownBlock.toList)) := hide (HWY.out.trans (Wro.of_gb hg2 (f := [g]) (by simp)) (by simp))
      clear hC2 hg2
      go_wp2_with fail
      go_roundw
      case rel =>
        have he : es ++ l.take (k + 1) = es ++ l.take k ++ [kk] := by rw [List.take_succ_eq_append_getElem hlt, HK.out, List.append_assoc]
        exact ⟨k + 1, .slice A19 (N + 1) c19, by omega, by go_num, by rw [he]; exact HC2.out, HW2.out, HXO.out⟩
      case measure => simp [intOf]; omega
    · obtain rfl : k = l.length := by omega
      rw [List.take_length] at hC
      have HC := hide hC
      have HW := hide hW
      have HO := hide hO
      clear hC hW hO
      go_wp2_with fail
      go_end0
      exact ⟨v', rfl, HC.out, HW.out, HO.out⟩
end Go.Proofs.Ytfdckhnhancbdaa
