/-
  The names of both file systems, as plain lists: what a change makes of them.
-/
import Derived.Test.YtccapgcpdehicaaQat
import Derived.Test.YtccapgcpdehicaaQai
import Derived.Test.YtccapgcpdehicaaQap

namespace Go.Proofs.Ytccapgcpdehicaa
open Go.RowKit
attribute [local go_sem ↓] Go.wp_at_zero Go.wp_at_succ

theorem encP_app (a b : List Nat) : encP (a ++ b) = encP a ++ encP b := by simp [encP]
section
variable {w : World} {o : Oper} {a : Act}
theorem wpListP {ops : Array Oper} {rest : List Oper} {Q : Exit → Act → World → Prop} (hgd : o.guard = none) (s x : Operand)
    (ho : o.op = .call { callee := .builtin .append, args := #[s, x], argTypes := #[69, 69] })
    (base n m : Nat) (L l k : List Nat) (v : Value) (hs : a.eval s = v) (hown : w.ownsRow base 108 1 v n (encP l)) (hn : n = l.length) (hm : m = k.length) (B : Nat) (A : Option Addr) (c : Nat) (hx : a.eval x = .slice A m c)
    (hr : Rd w B A (encP k)) (hL : L = l ++ k) (hlen : L.length ≤ 1000000000) (hbase : base ≤ w.heap.size)
    (h : ∀ A' c' w', w'.ownsRow base 108 1 (.slice A' L.length c') L.length (encP L) → w.grownBy w' v.ownBlock → ((Value.slice A' L.length c').ownBlock = v.ownBlock ∨ (Value.slice A' L.length c').ownBlock = some w.heap.size) → wpList Try.prog ops Q rest (a.put o.dst (.slice A' L.length c')) w') :
    wpList Try.prog ops Q (o :: rest) a w := by
  obtain ⟨i1, hi1, hiz, his, hib⟩ := info_parts Try.infoRP
  subst hL hn hm
  rw [List.length_append] at hlen h
  refine wpList_append_rd _ hgd s x 69 ho base 108 i1 (.pointer none) 1 8 Try.underlying69 hi1 hiz his hib rfl (Nat.succ_pos 0) v l.length (encP l) hs hown B A k.length c (encP k) hx (encP_len k) hr (oneP k) (by unfold maxLen; omega) (by omega) hbase ?_
  intro v' w' h2 h3 h4
  obtain ⟨A', c', rfl⟩ := own_slice h2
  rw [← encP_app] at h2
  exact h A' c' w' h2 h3 h4
end
/-- A file more. -/
theorem RAt.more {w w' : World} {g B n : Nat} {S : RS} {bs : List Nat} {vs : List Value} {vF vD vS vM vF' : Value} (h : RAt w g S bs vs vF vD vS vM) (hT : Turned (fun i => i = g ∨ vF.ownBlock = some i) w w') (hB : w.heap.size ≤ B)
    (hbB : w'.heap[B]? = some (.cells #[.int .i64 (n : Int), .string ⟨#[]⟩, .slice none 0 0, .string ⟨#[]⟩] 111 (0, 0))) (hF : w'.ownsRow 0 108 1 vF' (bs ++ [B]).length (encP (bs ++ [B])))
    (hb : w'.heap[g]? = some (.cells #[vF', vD, vS, vM, .int .i64 S.cap, .int .i64 S.ops, .int .i64 S.left, .bool S.off, .int .i64 0] 73 (0, 0))) : RAt w' g { S with f := S.f ++ [⟨n, ⟨#[]⟩, [], ⟨#[]⟩⟩] } (bs ++ [B]) (vs ++ [.slice none 0 0]) vF' vD vS vM := by
  have so : ∀ {base n size : Nat} {e : TypeId} {v : Value} {xs : List Value}, w.ownsRow base e size v n xs → e ≠ 73 → e ≠ 108 → w'.ownsRow base e size v n xs := fun ho h1 h2 => own_blk ho fun i hi => hT.block i (ho.lt i hi).2 fun hc => by
    rcases hc with e | e
    · exact own_not ho h.box h1 (by rw [hi, e])
    · exact rows_not h.rF ho (Ne.symm h2) i e hi
  have hlb := h.lb
  have hlv := h.lv
  refine ⟨hb, hF, so h.rD (by decide) (by decide), so h.rS (by decide) (by decide), so h.rM (by decide) (by decide), by simp [hlb], by simp [hlv], ?_, ?_, ?_⟩
  · intro i hi
    simp only [List.length_append, List.length_cons, List.length_nil] at hi
    by_cases hlt : i < S.f.length
    · have hf := h.fl i hlt
      obtain ⟨b, _, h2, h3⟩ := h.blk hlt
      have e1 : (bs ++ [B]).getD i 0 = bs.getD i 0 := by rw [List.getD_eq_getElem?_getD, List.getD_eq_getElem?_getD, List.getElem?_append_left (by omega)]
      have e2 : (vs ++ [Value.slice none 0 0]).getD i undef = vs.getD i undef := by rw [List.getD_eq_getElem?_getD, List.getD_eq_getElem?_getD, List.getElem?_append_left (by omega)]
      rw [e1, e2]
      simp only [List.getElem_append_left hlt]
      refine ⟨(hT.block _ (blk_lt hf.box) fun hc => ?_).trans hf.box, so hf.row (by decide) (by decide)⟩
      rcases hc with e | e
      · exact h3 (by rw [← h2, e])
      · exact own_not h.rF hf.box (by decide) e
    · have hi' : i = S.f.length := by omega
      subst hi'
      have e1 : (bs ++ [B]).getD S.f.length 0 = B := by rw [← hlb]; simp
      have e2 : (vs ++ [Value.slice none 0 0]).getD S.f.length undef = .slice none 0 0 := by rw [← hlv]; simp
      rw [e1, e2]
      simp only [List.getElem_append_right (Nat.le_refl _), Nat.sub_self, List.getElem_cons_zero]
      exact ⟨hbB, ⟨rfl, .inl ⟨rfl, rfl⟩⟩⟩
  · refine List.nodup_append.2 ⟨h.nd, by simp, fun x hx y hy e => ?_⟩
    obtain rfl := List.mem_singleton.1 hy
    have := h.lt x (.inr (.inl hx))
    omega
  · intro i j hij hj
    simp only [List.length_append, List.length_cons, List.length_nil] at hj
    have e2 : ∀ k, k < vs.length → (vs ++ [Value.slice none 0 0]).getD k undef = vs.getD k undef := fun k hk => by rw [List.getD_eq_getElem?_getD, List.getD_eq_getElem?_getD, List.getElem?_append_left hk]
    by_cases hlt : j < vs.length
    · rw [e2 i (by omega), e2 j hlt]
      exact h.ap i j hij hlt
    · have hj' : j = vs.length := by omega
      have e3 : (vs ++ [Value.slice none 0 0]).getD j undef = .slice none 0 0 := by rw [hj']; simp
      rw [e2 i (by omega), e3]
      cases hq : (vs.getD i undef).ownBlock with
      | none => exact .inl rfl
      | some q => exact .inr (by simp [Value.ownBlock])

set_option maxHeartbeats 4000000 in
set_option maxRecDepth 100000 in
theorem rCreate_any (g : Nat) (S : RS) (bs : List Nat) (vs : List Value) (vF vD vS vM : Value) (s : ByteArray) (w : World) (h : RAt w g S bs vs vF vD vS vM) (ok : ROk S) (hfl : S.f.length < 1000000) :
    Calls Try.prog 40 #[.pointer (some ⟨g, 0, none⟩), .string s] w fun e w' => e = .returned (.tuple #[.int .i64 (createR S s).1.1, .int .i64 (createR S s).1.2]) ∧ RTo w g bs vs vF vD vS vM (createR S s).2 w' := by
  have HS := hide (RTo.same h)
  have b7 : w.cell? ⟨g, 7, none⟩ = some (.bool S.off) := by rw [blk_cell h.box]; rfl
  obtain ⟨A, c, hvD, hc, hm⟩ := own_form0 h.rD
  subst hvD
  have b1 : w.cell? ⟨g, 1, none⟩ = some (.slice A S.d.length c) := by rw [blk_cell h.box]; rfl
  have HN := hide (refName_any s w)
  cases h1 : S.off with
  | true =>
    rw [show createR S s = ((0, 21), S) by simp [createR, nameR, h1]]
    rw [h1] at b7
    clear h h1 ok hc hm
    go_enter Try.func40, Try.ntmps40
    go_wp2_with fail
    go_ret2
    exact ⟨rfl, HS.out⟩
  | false =>
    rw [h1] at b7
    by_cases h0 : nameErr s = 0
    · rw [h0] at HN
      rcases atR_cases S.d s with ⟨ha, _⟩ | ⟨j, hj, ha, _⟩
      · have HA := hide (rAt_at S.d (.slice A S.d.length c) s 0 w (-1) h.rD ha)
        by_cases h2 : 4096 ≤ S.d.length
        · have h3 : (4096 : Int) ≤ (S.d.length : Int) := by omega
          rw [show createR S s = ((0, 6), S) by simp [createR, nameR, h1, h0, ha, h2]]
          clear h ha h0 h1 ok hc hm h2
          go_enter Try.func40, Try.ntmps40
          go_wp2_with (first | (go_at_call 60; refine HN.out.mono ?_; rintro e wx ⟨rfl, rfl⟩) | (go_at_call 55; refine HA.out.mono ?_; rintro e wx ⟨rfl, rfl⟩))
          go_ret2
          exact ⟨rfl, HS.out⟩
        · have h3 : ¬ ((4096 : Int) ≤ (S.d.length : Int)) := by omega
          obtain ⟨n, hn⟩ : ∃ n, n = S.f.length + 1 := ⟨_, rfl⟩
          have HE : Hid (createR S s = (((n : Int), 0), ({ S with f := S.f ++ [⟨n, ⟨#[]⟩, [], ⟨#[]⟩⟩] } : RS).changed ⟨99, s, ⟨#[]⟩, n⟩)) := hide (by rw [hn]; simp [createR, nameR, h1, h0, ha, h2])
          obtain ⟨AF, cF, hvF, hcF, hmF⟩ := own_form0 h.rF
          subst hvF
          have b0 : w.cell? ⟨g, 0, none⟩ = some (.slice AF bs.length cF) := by rw [blk_cell h.box]; rfl
          have k1 : IntKind.i64.wrap ((bs.length : Int) + 1) = (n : Int) := by rw [IntKind.wrap_i64, h.lb]; omega
          obtain ⟨wf, hwf⟩ : ∃ wf, wf = w.alloc (.cells #[.int .i64 (n : Int), .string ⟨#[]⟩, .slice none 0 0, .string ⟨#[]⟩] 111) := ⟨_, rfl⟩
          obtain ⟨wr, hwr⟩ : ∃ wr, wr = wf.alloc (.cells #[.pointer (some ⟨w.heap.size, 0, none⟩)] 108) := ⟨_, rfl⟩
          have hgf : w.grownBy wf none := by rw [hwf]; exact gb_alloc (gb_refl w none) _
          have hgr : w.grownBy wr none := by rw [hwr]; exact gb_alloc hgf _
          have HBB : Hid (wr.heap[w.heap.size]? = some (.cells #[.int .i64 (n : Int), .string ⟨#[]⟩, .slice none 0 0, .string ⟨#[]⟩] 111 (0, 0))) := hide (by rw [hwr, hwf]; exact (heap_alloc_old _ _ (by simp)).trans (heap_alloc_new w _))
          have HO := hide ((h.gb h.lt hgr).rF)
          have hsf : wf.heap.size = w.heap.size + 1 := by rw [hwf]; simp
          have HRD : Hid (Rd wr (w.heap.size + 1 + 1) (some ⟨w.heap.size + 1, 0, none⟩) (encP [w.heap.size])) := hide (by have := Rd.new wf #[.pointer (some ⟨w.heap.size, 0, none⟩)] 108 _ rfl; rw [hsf] at this; rw [hwr]; exact this)
          obtain ⟨L, hL⟩ : ∃ L, L = bs ++ [w.heap.size] := ⟨_, rfl⟩
          have HL := hide hL
          have HLN : Hid (L.length ≤ 1000000000) := hide (by rw [hL]; simp [h.lb]; omega)
          have HGR := hide hgr
          have HWF := hide hwf
          have HWR := hide hwr
          have H := hide h
          have OK := hide ok
          have HN2 := hide hn
          clear h ha h0 h1 ok hc hm h2 hcF hmF hn hwf hwr hgf hgr hL hfl hsf
          go_enter Try.func40, Try.ntmps40
          go_wp2_with (first | (go_at_call 60; refine HN.out.mono ?_; rintro e wx ⟨rfl, rfl⟩) | (go_at_call 55; refine HA.out.mono ?_; rintro e wx ⟨rfl, rfl⟩) | (at_builtin; rw [← HWF.out, ← HWR.out]; refine wpListP rfl (.tmp 41) (.tmp 45) rfl 0 bs.length 1 L bs [w.heap.size] (.slice AF bs.length cF) rfl HO.out rfl rfl (w.heap.size + 1 + 1) (some ⟨w.heap.size + 1, 0, none⟩) 1 rfl HRD.out HL.out HLN.out (Nat.zero_le _) ?_; intro A1 c1 w1 ho1 hg1 hb1; have HO1 := hide ho1; have HG1 := hide hg1; have HB1 := hide hb1; have hx1 := (hg1.block g (Nat.lt_of_lt_of_le (blk_lt H.out.box) HGR.out.size) (fun e => own_not H.out.rF H.out.box (by decide) e.symm)).trans ((HGR.out.block g (blk_lt H.out.box) (by simp)).trans H.out.box); have HX1 := hide hx1; have t0 : w1.cell? ⟨g, 0, none⟩ = some (.slice AF bs.length cF) := (by { rw [blk_cell hx1]; rfl }); have y0 := blk_frozen hx1 0; clear ho1 hg1 hb1 hx1))
          obtain ⟨w2, hw2⟩ : ∃ w2, w2 = w1.setCell ⟨g, 0, none⟩ (.slice A1 L.length c1) := ⟨_, rfl⟩
          rw [← hw2]
          have hg2 : w1.grownBy w2 (some g) := by rw [hw2]; exact gb_set (gb_refl w1 (some g)) 0 _
          have hT2 : Turned (fun i => i = g ∨ (Value.slice AF bs.length cF).ownBlock = some i) w w2 := ((Turned.of_gb (M := fun i => i = g ∨ (Value.slice AF bs.length cF).ownBlock = some i) HGR.out (by simp)).trans (Turned.of_gb (M := fun i => (Value.slice AF bs.length cF).ownBlock = some i) HG1.out (fun i e => e)) (fun i _ h => .inr h)).trans (Turned.of_gb (M := fun i => i = g) hg2 (fun i e => by injection e with e; exact e.symm)) (fun i _ h => .inl h)
          have hlg := blk_lt H.out.box
          have hbB : w2.heap[w.heap.size]? = some (.cells #[.int .i64 (n : Int), .string ⟨#[]⟩, .slice none 0 0, .string ⟨#[]⟩] 111 (0, 0)) := by
            have k1 := HG1.out.block w.heap.size (blk_lt HBB.out) (fun e => by have := (H.out.rF.lt _ e.symm).2; omega)
            exact (hg2.block w.heap.size (blk_lt (k1.trans HBB.out)) (fun e => by injection e with e; omega)).trans (k1.trans HBB.out)
          have hF : w2.ownsRow 0 108 1 (.slice A1 L.length c1) L.length (encP L) := HO1.out.kept hg2 (.inr (own_not HO1.out HX1.out (by decide)))
          have hb2 : w2.heap[g]? = some (.cells #[.slice A1 L.length c1, .slice A S.d.length c, vS, vM, .int .i64 S.cap, .int .i64 S.ops, .int .i64 S.left, .bool S.off, .int .i64 0] 73 (0, 0)) := by rw [hw2]; exact blk_set HX1.out 0 _
          have hR2 := H.out.more (n := n) (vF' := .slice A1 L.length c1) hT2 (Nat.le_refl _) hbB (HL.out ▸ hF) hb2
          have hn2 : ∀ i, (Value.slice A1 L.length c1).ownBlock = some i → (Value.slice AF bs.length cF).ownBlock = some i ∨ w.heap.size ≤ i := fun i hi => by
            rcases HB1.out with e | e
            · exact .inl (e ▸ hi)
            · rw [e] at hi
              injection hi with hi
              exact .inr (hi ▸ HGR.out.size)
          have HR2 := hide hR2
          have HT2 := hide hT2
          have HNW := hide hn2
          clear hw2 hg2 hT2 hlg hbB hF hb2 hR2 hn2 t0 y0
          refine (rChange_any g _ _ _ _ _ _ _ ⟨99, s, ⟨#[]⟩, n⟩ w2 HR2.out (.inl rfl) OK.out.dl OK.out.ml OK.out.ops OK.out.left).mono ?_
          rintro e w9 ⟨rfl, vD', vM', h9, ho9, hT9⟩
          have HR9 := hide h9
          have HO9 := hide ho9
          have HT9 := hide hT9
          clear h9 ho9 hT9
          go_wp2_with fail
          go_ret2
          rw [HE.out]
          refine ⟨rfl, _, _, _, _, _, _, HR9.out, fun i hi => ?_, (HT2.out.mono (M' := ROwn g bs vs (.slice AF bs.length cF) (.slice A S.d.length c) vS vM) fun i _ hi => ?_).trans HT9.out fun i _ hi => ?_⟩
          · rcases hi with h | h | ⟨u, hu, h⟩ | h | h | h | h
            · exact .inl (.inl h)
            · rcases List.mem_append.1 h with h | h
              · exact .inl (.inr (.inl h))
              · exact .inr (by rw [List.mem_singleton.1 h]; exact Nat.le_refl _)
            · rcases List.mem_append.1 hu with hu | hu
              · exact .inl (.inr (.inr (.inl ⟨u, hu, h⟩)))
              · rw [List.mem_singleton.1 hu] at h
                simp [Value.ownBlock] at h
            · exact (HNW.out i h).imp_left fun e => .inr (.inr (.inr (.inl e)))
            · exact (HO9.out i (.inl h)).imp (fun e => .inr (.inr (.inr (.inr (.inr (.inr e)))))) (fun e => Nat.le_trans HT2.out.size e)
            · exact .inl (.inr (.inr (.inr (.inr (.inr (.inl h))))))
            · exact (HO9.out i (.inr h)).imp (fun e => .inr (.inr (.inr (.inr (.inr (.inr e)))))) (fun e => Nat.le_trans HT2.out.size e)
          · rcases hi with h | h
            · exact .inl h
            · exact .inr (.inr (.inr (.inl h)))
          · rcases hi with h | h
            · exact .inl h
            · exact .inr (.inr (.inr (.inr (.inr (.inr h)))))
      · have HA := hide (rAt_at S.d (.slice A S.d.length c) s 0 w j h.rD ha)
        have hj0 : ¬ ((j : Int) < 0) := by omega
        have hj1 : (0 : Int) ≤ (j : Int) := by omega
        rw [show createR S s = ((0, 8), S) by simp [createR, nameR, h1, h0, ha]]
        clear h ha h0 h1 ok hc hm
        go_enter Try.func40, Try.ntmps40
        go_wp2_with (first | (go_at_call 60; refine HN.out.mono ?_; rintro e wx ⟨rfl, rfl⟩) | (go_at_call 55; refine HA.out.mono ?_; rintro e wx ⟨rfl, rfl⟩))
        go_ret2
        exact ⟨rfl, HS.out⟩
    · rw [nameErr_20 h0] at HN
      rw [show createR S s = ((0, 20), S) by simp [createR, nameR, h1, nameErr_20 h0]]
      clear h h0 h1 ok hc hm
      go_enter Try.func40, Try.ntmps40
      go_wp2_with (go_at_call 60; refine HN.out.mono ?_; rintro e wx ⟨rfl, rfl⟩)
      go_ret2
      exact ⟨rfl, HS.out⟩
end Go.Proofs.Ytccapgcpdehicaa

namespace Go.Proofs.Ytccapgcpdehicaa
open Go.RowKit
attribute [local go_sem ↓] Go.wp_at_zero Go.wp_at_succ

/-- What a wreck says of a file. -/
def tornR (l : List Tn) (n : Int) : Tn := (l.find? (fun t => t.1 == n)).getD (0, 0, 0)
theorem tornR_has {l : List Tn} {n : Int} {j : Nat} (hj : j < l.length) (h : l[j].1 = n) (hn : ∀ (i : Nat) (hi : i < l.length), i < j → l[i].1 ≠ n) : tornR l n = l[j] := by
  have : l.find? (fun t => t.1 == n) = some l[j] := by
    rw [List.find?_eq_some_iff_getElem]
    exact ⟨by simp [h], j, hj, rfl, fun i hi => by simpa using hn i (by omega) hi⟩
  unfold tornR
  rw [this]
  rfl
theorem tornR_no {l : List Tn} {n : Int} (hn : ∀ (i : Nat) (hi : i < l.length), l[i].1 ≠ n) : tornR l n = (0, 0, 0) := by
  have : l.find? (fun t => t.1 == n) = none := by
    rw [List.find?_eq_none]
    intro x hx
    obtain ⟨i, hi, rfl⟩ := List.getElem_of_mem hx
    simpa using hn i hi
  unfold tornR
  rw [this]
  rfl
theorem tn_elem {w : World} {B : Nat} {A : Option Addr} {l : List Tn} (h : Rd w B A (tcells l)) {i : Nat} (hi : i < l.length) : ∃ b o, A = some ⟨b, o, none⟩ ∧ b < B ∧ w.cell? ⟨b, o + i * 3, none⟩ = some (.int .i64 l[i].1) ∧ w.cell? ⟨b, o + i * 3 + 1, none⟩ = some (.int .i64 l[i].2.1) ∧ w.cell? ⟨b, o + i * 3 + 2, none⟩ = some (.int .i64 l[i].2.2) := by
  have hne : tcells l ≠ [] := fun e => by
    have := tcells_length l
    rw [e] at this
    simp only [List.length_nil] at this
    omega
  obtain ⟨b, o, h1, h2, h3⟩ := h.lay hne
  obtain ⟨k1, k2, k3⟩ := tcells_at l i hi
  exact ⟨b, o, h1, h2, h3 _ _ k1, by rw [Nat.add_assoc]; exact h3 _ _ k2, by rw [Nat.add_assoc]; exact h3 _ _ k3⟩

set_option maxHeartbeats 4000000 in
set_option maxRecDepth 100000 in
theorem rTorn_any (d n : Int) (A : Option Addr) (c B : Nat) (l : List Tn) (w : World) (h : Rd w B A (tcells l)) (hB : B ≤ w.heap.size) (hl : l.length ≤ 1000000) :
    Calls Try.prog 64 #[.agg #[.int .i64 d, .slice A l.length c], .int .i64 n] w fun e w' => e = .returned (.agg #[.int .i64 (tornR l n).1, .int .i64 (tornR l n).2.1, .int .i64 (tornR l n).2.2]) ∧ w.grownBy w' none := by
  obtain ⟨wa, hwa⟩ : ∃ wa, wa = (w.alloc (.cells #[.int .i64 d, .slice A l.length c] 35)).alloc (.cells #[.int .i64 0, .int .i64 0, .int .i64 0] 50) := ⟨_, rfl⟩
  have hg : w.grownBy wa none := by rw [hwa]; exact gb_alloc (gb_alloc (gb_refl w none) _) _
  have hW : wa.heap[w.heap.size]? = some (.cells #[.int .i64 d, .slice A l.length c] 35 (0, 0)) := by rw [hwa]; exact (heap_alloc_old _ _ (by simp)).trans (heap_alloc_new w _)
  have hT : wa.heap[w.heap.size + 1]? = some (.cells #[.int .i64 0, .int .i64 0, .int .i64 0] 50 (0, 0)) := by
    have := heap_alloc_new (w.alloc (.cells #[.int .i64 d, .slice A l.length c] 35)) (.cells #[.int .i64 0, .int .i64 0, .int .i64 0] 50)
    rw [show (w.alloc (.cells #[.int .i64 d, .slice A l.length c] 35)).heap.size = w.heap.size + 1 by simp] at this
    rw [hwa]
    exact this
  have HR := hide (h.grown hg hB (by simp))
  have b1 : wa.cell? ⟨w.heap.size, 1, none⟩ = some (.slice A l.length c) := by rw [blk_cell hW]; rfl
  have t0 : wa.cell? ⟨w.heap.size + 1, 0, none⟩ = some (.int .i64 0) := by rw [blk_cell hT]; rfl
  have t1 : wa.cell? ⟨w.heap.size + 1, 1, none⟩ = some (.int .i64 0) := by rw [blk_cell hT]; rfl
  have t2 : wa.cell? ⟨w.heap.size + 1, 2, none⟩ = some (.int .i64 0) := by rw [blk_cell hT]; rfl
  have z0 := blk_frozen hT 0
  have z1 := blk_frozen hT 1
  have z2 := blk_frozen hT 2
  have HTT := hide hT
  have HWA := hide hwa
  have HG := hide hg
  clear h hB hwa hg hW hT
  go_enter Try.func64, Try.ntmps64
  go_upto_region 1 with fail
  rw [← HWA.out]
  go_wp2_with fail
  go_loopw [5] (fun i wr => ∃ j : Nat, i = .int .i64 (j : Int) ∧ j ≤ l.length ∧ (∀ (i : Nat) (hi : i < l.length), i < j → l[i].1 ≠ n) ∧ wa = wr) (fun i _ => l.length - (intOf i).toNat)
  case atStart => exact ⟨0, rfl, Nat.zero_le _, fun i _ h => by omega, rfl⟩
  case round =>
    obtain ⟨j, rfl, hj, hall, rfl⟩ := hrel
    have HA := hide hall
    clear hall
    by_cases hlt : j < l.length
    · obtain ⟨b, o, rfl, _, p0, p1, p2⟩ := tn_elem HR.out hlt
      obtain ⟨x, hx⟩ : ∃ x, x = l[j] := ⟨_, rfl⟩
      rw [← hx] at p0 p1 p2
      have HX := hide hx
      clear hx
      by_cases hs : x.1 = n
      · have HS := hide (tornR_has hlt (by rw [← HX.out]; exact hs) HA.out)
        have hs2 : (x.1 == n) = true := by simp [hs]
        go_wp2_with fail
        have hf : (((wa.setCell ⟨w.heap.size + 1, 0, none⟩ (.int .i64 n)).setCell ⟨w.heap.size + 1, 1, none⟩ (.int .i64 x.2.1)).setCell ⟨w.heap.size + 1, 2, none⟩ (.int .i64 x.2.2)).heap[w.heap.size + 1]? = some (.cells #[.int .i64 n, .int .i64 x.2.1, .int .i64 x.2.2] 50 (0, 0)) := blk_set (blk_set (blk_set HTT.out 0 _) 1 _) 2 _
        have m0 : (((wa.setCell ⟨w.heap.size + 1, 0, none⟩ (.int .i64 n)).setCell ⟨w.heap.size + 1, 1, none⟩ (.int .i64 x.2.1)).setCell ⟨w.heap.size + 1, 2, none⟩ (.int .i64 x.2.2)).cell? ⟨w.heap.size + 1, 0, none⟩ = some (.int .i64 n) := by rw [blk_cell hf]; rfl
        have m1 : (((wa.setCell ⟨w.heap.size + 1, 0, none⟩ (.int .i64 n)).setCell ⟨w.heap.size + 1, 1, none⟩ (.int .i64 x.2.1)).setCell ⟨w.heap.size + 1, 2, none⟩ (.int .i64 x.2.2)).cell? ⟨w.heap.size + 1, 1, none⟩ = some (.int .i64 x.2.1) := by rw [blk_cell hf]; rfl
        have m2 : (((wa.setCell ⟨w.heap.size + 1, 0, none⟩ (.int .i64 n)).setCell ⟨w.heap.size + 1, 1, none⟩ (.int .i64 x.2.1)).setCell ⟨w.heap.size + 1, 2, none⟩ (.int .i64 x.2.2)).cell? ⟨w.heap.size + 1, 2, none⟩ = some (.int .i64 x.2.2) := by rw [blk_cell hf]; rfl
        refine bodyPost_ret (v := .agg #[.int .i64 n, .int .i64 x.2.1, .int .i64 x.2.2]) (by simp [results, Try.results64, go_sem, m0, m1, m2]) rfl ?_
        exact ⟨by rw [HS.out, ← HX.out, hs], gb_trans HG.out (gb_set (gb_set (gb_set (gb_refl wa (some (w.heap.size + 1))) 0 _) 1 _) 2 _) (.inr (.inr ⟨_, rfl, Nat.le_succ _⟩))⟩
      · have hs' : (x.1 == n) = false := beq_eq_false_iff_ne.2 hs
        have HS := hide hs
        go_wp2_with fail
        go_roundw
        case rel =>
          refine ⟨j + 1, by go_num, by omega, fun i hi h => ?_, trivial⟩
          by_cases hij : i = j
          · subst hij
            rw [← HX.out]
            exact HS.out
          · exact HA.out i hi (by omega)
        case measure => simp [intOf]; omega
    · have HB := hide (tornR_no (l := l) (n := n) fun i hi => HA.out i hi (by omega))
      go_wp2_with fail
      have hf : (((wa.setCell ⟨w.heap.size + 1, 0, none⟩ (.int .i64 0)).setCell ⟨w.heap.size + 1, 1, none⟩ (.int .i64 0)).setCell ⟨w.heap.size + 1, 2, none⟩ (.int .i64 0)).heap[w.heap.size + 1]? = some (.cells #[.int .i64 0, .int .i64 0, .int .i64 0] 50 (0, 0)) := blk_set (blk_set (blk_set HTT.out 0 _) 1 _) 2 _
      have m0 : (((wa.setCell ⟨w.heap.size + 1, 0, none⟩ (.int .i64 0)).setCell ⟨w.heap.size + 1, 1, none⟩ (.int .i64 0)).setCell ⟨w.heap.size + 1, 2, none⟩ (.int .i64 0)).cell? ⟨w.heap.size + 1, 0, none⟩ = some (.int .i64 0) := by rw [blk_cell hf]; rfl
      have m1 : (((wa.setCell ⟨w.heap.size + 1, 0, none⟩ (.int .i64 0)).setCell ⟨w.heap.size + 1, 1, none⟩ (.int .i64 0)).setCell ⟨w.heap.size + 1, 2, none⟩ (.int .i64 0)).cell? ⟨w.heap.size + 1, 1, none⟩ = some (.int .i64 0) := by rw [blk_cell hf]; rfl
      have m2 : (((wa.setCell ⟨w.heap.size + 1, 0, none⟩ (.int .i64 0)).setCell ⟨w.heap.size + 1, 1, none⟩ (.int .i64 0)).setCell ⟨w.heap.size + 1, 2, none⟩ (.int .i64 0)).cell? ⟨w.heap.size + 1, 2, none⟩ = some (.int .i64 0) := by rw [blk_cell hf]; rfl
      refine bodyPost_ret (v := .agg #[.int .i64 0, .int .i64 0, .int .i64 0]) (by simp [results, Try.results64, go_sem, m0, m1, m2]) rfl ?_
      exact ⟨by rw [HB.out], gb_trans HG.out (gb_set (gb_set (gb_set (gb_refl wa (some (w.heap.size + 1))) 0 _) 1 _) 2 _) (.inr (.inr ⟨_, rfl, Nat.le_succ _⟩))⟩

end Go.Proofs.Ytccapgcpdehicaa

namespace Go.Proofs.Ytccapgcpdehicaa
open Go.RowKit
attribute [local go_sem ↓] Go.wp_at_zero Go.wp_at_succ

/-- What the first k writes make of a text. -/
def doneL (p : ByteArray) (l : List RD) : ByteArray := l.foldl (fun p x => doneR p x x.p.size) p
/-- How many of a file's writes are left. -/
def leftN (x : RFl) (t : Tn) : Nat := min x.l.length (max t.2.1 0).toNat
/-- A file behind a crash. -/
def tearP (x : RFl) (t : Tn) : ByteArray :=
  if h : leftN x t < x.l.length then (if (x.l[leftN x t]).cut = false ∧ 0 < t.2.2 then doneR (doneL x.safe (x.l.take (leftN x t))) x.l[leftN x t] (min t.2.2.toNat (x.l[leftN x t]).p.size) else doneL x.safe (x.l.take (leftN x t)))
  else doneL x.safe (x.l.take (leftN x t))
def tearR (x : RFl) (t : Tn) : RFl := ⟨x.n, tearP x t, [], tearP x t⟩
/-- The names behind a crash. -/
def crashD (S : RS) (k : Nat) : List RE := (S.m.take k).foldl movedR S.safe
def crashN (S : RS) (d : Int) : Nat := min S.m.length (max d 0).toNat
def crashR (S : RS) (d : Int) (l : List Tn) : RS := ⟨S.f.map (fun x => tearR x (tornR l x.n)), crashD S (crashN S d), crashD S (crashN S d), [], S.cap, S.ops, -1, false⟩
theorem crashD_succ {S : RS} {k : Nat} (hk : k < S.m.length) : crashD S (k + 1) = movedR (crashD S k) S.m[k] := by
  unfold crashD
  rw [List.take_succ_eq_append_getElem hk, List.foldl_append]
  rfl
theorem movedR_le (d : List RE) (m : RM) : (movedR d m).length ≤ d.length + 1 := by
  unfold movedR
  have e1 : ∀ (l : List RE) (i : Nat), (l.eraseIdx i).length ≤ l.length := fun l i => List.length_eraseIdx_le l i
  repeat' split
  all_goals first
    | (simp only [List.length_append, List.length_cons, List.length_nil]; have h1 := e1 d (atR d m.a).toNat; have h2 := e1 (d.eraseIdx (atR d m.a).toNat) (atR (d.eraseIdx (atR d m.a).toNat) m.b).toNat; omega)
    | (have h1 := e1 d (atR d m.a).toNat; omega)
theorem crashD_le (S : RS) (k : Nat) : (crashD S k).length ≤ S.safe.length + k := by
  induction k with
  | zero => simp [crashD]
  | succ k ih =>
    by_cases hk : k < S.m.length
    · rw [crashD_succ hk]
      have := movedR_le (crashD S k) S.m[k]
      omega
    · have : crashD S (k + 1) = crashD S k := by
        unfold crashD
        rw [List.take_of_length_le (by omega), List.take_of_length_le (by omega)]
      rw [this]
      omega
theorem doneL_succ (p : ByteArray) {l : List RD} {k : Nat} (hk : k < l.length) : doneL p (l.take (k + 1)) = doneR (doneL p (l.take k)) l[k] (l[k]).p.size := by
  unfold doneL
  rw [List.take_succ_eq_append_getElem hk, List.foldl_append]
  rfl
end Go.Proofs.Ytccapgcpdehicaa

namespace Go.Proofs.Ytccapgcpdehicaa
open Go.RowKit

/-- A file's writes can be done again from what is safe on. -/
def GoodR (x : RFl) : Prop := x.safe.size ≤ 1000000000 ∧ x.l.length ≤ 1000000 ∧ ∀ (k : Nat) (hk : k < x.l.length), x.l[k].at_ ≤ (doneL x.safe (x.l.take k)).size ∧ (doneL x.safe (x.l.take k)).size ≤ 1000000000 ∧ x.l[k].p.size ≤ 1000000000
/-- The first q files are torn. -/
def tearN (S : RS) (l : List Tn) (q : Nat) : List RFl := ((S.f.take q).map fun x => tearR x (tornR l x.n)) ++ S.f.drop q
theorem tearN_zero (S : RS) (l : List Tn) : tearN S l 0 = S.f := by simp [tearN]
theorem tearN_all (S : RS) (l : List Tn) : tearN S l S.f.length = S.f.map fun x => tearR x (tornR l x.n) := by simp [tearN]
theorem tearN_len (S : RS) (l : List Tn) {q : Nat} (hq : q ≤ S.f.length) : (tearN S l q).length = S.f.length := by
  unfold tearN
  rw [List.length_append, List.length_map, List.length_take, List.length_drop]
  omega
theorem tearN_get (S : RS) (l : List Tn) {q : Nat} (hq : q < S.f.length) : (tearN S l q)[q]? = some S.f[q] := by
  unfold tearN
  rw [List.getElem?_append_right (by rw [List.length_map, List.length_take]; omega), List.length_map, List.length_take, Nat.min_eq_left (Nat.le_of_lt hq), Nat.sub_self, List.getElem?_drop, Nat.add_zero, List.getElem?_eq_getElem hq]
theorem tearN_set (S : RS) (l : List Tn) {q : Nat} (hq : q < S.f.length) : (tearN S l q).set q (tearR S.f[q] (tornR l S.f[q].n)) = tearN S l (q + 1) := by
  unfold tearN
  have hl : ((S.f.take q).map fun x => tearR x (tornR l x.n)).length = q := by rw [List.length_map, List.length_take]; omega
  rw [List.set_append_right _ _ (by rw [hl]; exact Nat.le_refl _), hl, Nat.sub_self, List.take_succ_eq_append_getElem hq, List.map_append, List.drop_eq_getElem_cons hq, List.set_cons_zero, List.append_assoc]
  rfl
end Go.Proofs.Ytccapgcpdehicaa

namespace Go.Proofs.Ytccapgcpdehicaa

def prE (e : RE) : ByteArray × Nat := (e.name, e.n)
def chOf (m : RM) : Ch := if m.kind = 99 then ⟨⟨#[]⟩, m.a, m.n⟩ else if m.kind = 100 then ⟨m.a, ⟨#[]⟩, 0⟩ else ⟨m.a, m.b, 0⟩
/-- Names, each once, each of another file. -/
structure DirR (d : List RE) : Prop where
  keys : (d.map (·.name)).Nodup
  vals : (d.map (·.n)).Nodup
  ne : ∀ e ∈ d, nameOk e.name = true ∧ 1 ≤ e.n
/-- The same names on both sides. -/
structure Dir (l : List (ByteArray × Nat)) (d : List RE) : Prop where
  perm : l.Perm (d.map prE)
  ok : DirR d

theorem adel_perm {l : List (ByteArray × Nat)} {a : ByteArray} {n : Nat} (h : aget l a = some n) : l.Perm ((a, n) :: adel l a) := by
  induction l with
  | nil => cases h
  | cons y l ih =>
    obtain ⟨b, u⟩ := y
    simp only [aget] at h
    by_cases e : b = a
    · rw [if_pos e] at h
      injection h with h
      rw [show adel ((b, u) :: l) a = l from by simp [adel, e], e, h]
    · rw [if_neg e] at h
      rw [show adel ((b, u) :: l) a = (b, u) :: adel l a from by simp [adel, e]]
      exact ((ih h).cons _).trans (List.Perm.swap _ _ _)
theorem aput_perm (l : List (ByteArray × Nat)) (k : ByteArray) (v : Nat) : (aput l k v).Perm ((k, v) :: adel l k) := by
  induction l with
  | nil => exact List.Perm.refl _
  | cons y l ih =>
    obtain ⟨b, u⟩ := y
    by_cases e : b = k
    · rw [show adel ((b, u) :: l) k = l from by simp [adel, e], show aput ((b, u) :: l) k v = (k, v) :: l from by simp [aput, e]]
    · rw [show adel ((b, u) :: l) k = (b, u) :: adel l k from by simp [adel, e], show aput ((b, u) :: l) k v = (b, u) :: aput l k v from by simp [aput, e]]
      exact (ih.cons _).trans (List.Perm.swap _ _ _)
section
variable {l : List (ByteArray × Nat)} {d : List RE}
theorem Dir.keysL (h : Dir l d) : (l.map (·.1)).Nodup := by
  have := h.perm.map (·.1)
  rw [List.map_map] at this
  exact this.nodup_iff.2 h.ok.keys
theorem Dir.at_none (h : Dir l d) {a : ByteArray} (ha : ∀ e ∈ d, e.name ≠ a) : aget l a = none := by
  cases hg : aget l a with
  | none => rfl
  | some v =>
    obtain ⟨e, he, hh⟩ := List.mem_map.1 (h.perm.mem_iff.1 (ag_in hg))
    injection hh with h1 h2
    exact absurd h1 (ha e he)
theorem Dir.at_some (h : Dir l d) {e : RE} (he : e ∈ d) : aget l e.name = some e.n :=
  aget_mem h.keysL (x := prE e) (h.perm.mem_iff.2 (List.mem_map.2 ⟨e, he, rfl⟩))
theorem Dir.len (h : Dir l d) : l.length = d.length := by rw [h.perm.length_eq, List.length_map]

theorem erase_perm {d : List RE} {j : Nat} (hj : j < d.length) : d.Perm (d[j] :: d.eraseIdx j) :=
  (perm_take d j d[j] (List.getElem?_eq_getElem hj)).symm
theorem DirR.perm {d d' : List RE} (h : DirR d) (hp : d.Perm d') : DirR d' :=
  ⟨(hp.map _).nodup_iff.1 h.keys, (hp.map _).nodup_iff.1 h.vals, fun e he => h.ne e (hp.mem_iff.2 he)⟩
theorem DirR.tail {e : RE} {d : List RE} (h : DirR (e :: d)) : DirR d ∧ (∀ x ∈ d, x.name ≠ e.name ∧ x.n ≠ e.n) := by
  have h1 := h.keys
  have h2 := h.vals
  rw [List.map_cons, List.nodup_cons] at h1 h2
  exact ⟨⟨h1.2, h2.2, fun x hx => h.ne x (List.mem_cons_of_mem _ hx)⟩, fun x hx => ⟨fun q => h1.1 (by rw [← q]; exact List.mem_map_of_mem hx), fun q => h2.1 (by rw [← q]; exact List.mem_map_of_mem hx)⟩⟩
theorem DirR.more {e : RE} {d : List RE} (h : DirR d) (h1 : ∀ x ∈ d, x.name ≠ e.name) (h2 : ∀ x ∈ d, x.n ≠ e.n) (h3 : nameOk e.name = true) (h4 : 1 ≤ e.n) : DirR (d ++ [e]) := by
  have hp : (e :: d).Perm (d ++ [e]) := (List.perm_append_singleton e d).symm
  refine DirR.perm ⟨?_, ?_, ?_⟩ hp
  · rw [List.map_cons, List.nodup_cons]
    exact ⟨fun hm => by obtain ⟨x, hx, q⟩ := List.mem_map.1 hm; exact h1 x hx q, h.keys⟩
  · rw [List.map_cons, List.nodup_cons]
    exact ⟨fun hm => by obtain ⟨x, hx, q⟩ := List.mem_map.1 hm; exact h2 x hx q, h.vals⟩
  · intro x hx
    rcases List.mem_cons.1 hx with rfl | hx
    · exact ⟨h3, h4⟩
    · exact h.ne x hx
theorem Dir.nil : Dir [] [] := ⟨List.Perm.refl _, ⟨List.nodup_nil, List.nodup_nil, fun e he => by cases he⟩⟩

/-- A change that may be done to names. -/
def MoveOk0 (d : List RE) (m : RM) : Prop :=
  (m.kind = 99 ∧ (∀ e ∈ d, e.name ≠ m.a) ∧ nameOk m.a = true ∧ 1 ≤ m.n ∧ ∀ e ∈ d, e.n ≠ m.n) ∨ (m.kind = 100 ∧ nameOk m.a = true ∧ ∃ e ∈ d, e.name = m.a) ∨ (m.kind = 114 ∧ nameOk m.a = true ∧ nameOk m.b = true ∧ ∃ e ∈ d, e.name = m.a)
def MoveOk (d : List RE) (m : RM) : Prop := MoveOk0 d m ∧ (m.kind ≠ 114 → m.b = ⟨#[]⟩)

theorem at_some_of {d : List RE} {a : ByteArray} (h : ∃ e ∈ d, e.name = a) : ∃ (j : Nat) (hj : j < d.length), atR d a = (j : Int) ∧ d[j].name = a := by
  rcases atR_cases d a with ⟨_, hn⟩ | ⟨j, hj, h1, h2, _⟩
  · obtain ⟨e, he, h1⟩ := h
    obtain ⟨i, hi, rfl⟩ := List.getElem_of_mem he
    exact absurd h1 (hn i hi)
  · exact ⟨j, hj, h1, h2⟩
theorem empty_ne {a : ByteArray} (h : a.size ≠ 0) : (⟨#[]⟩ : ByteArray) ≠ a := fun e => h (by rw [← e]; rfl)

/-- A change on both sides. -/
theorem Dir.moved (h : Dir l d) {m : RM} (ok : MoveOk d m) : ∃ lost : Nat, (followL l (chOf m)).2 = lost ∧ Dir (followL l (chOf m)).1 (movedR d m) ∧
    ((if lost = 0 then [] else [lost]) ++ (movedR d m).map (·.n)).Perm ((if m.kind = 99 then [m.n] else []) ++ d.map (·.n)) ∧ (m.kind = 99 → lost = 0) := by
  rcases ok.1 with ⟨hk, hn, hao, h1, hv⟩ | ⟨hk, hao, hin⟩ | ⟨hk, hao, hbo, hin⟩
  · have ha := nameOk_ne hao
    have ec : chOf m = ⟨⟨#[]⟩, m.a, m.n⟩ := by unfold chOf; rw [if_pos hk]
    have ef : followL l (chOf m) = (l ++ [(m.a, m.n)], 0) := by
      rw [ec]
      unfold followL
      rw [if_neg (empty_ne ha), if_pos (by rfl), aput_none (h.at_none hn), h.at_none hn]
      rfl
    have em : movedR d m = d ++ [⟨m.a, m.n⟩] := by unfold movedR; rw [if_pos hk]
    refine ⟨0, by rw [ef], ?_, ?_, fun _ => rfl⟩
    · rw [ef, em]
      refine ⟨?_, h.ok.more hn hv hao h1⟩
      rw [List.map_append]
      exact h.perm.append_right _
    · rw [em, if_pos rfl, if_pos hk, List.nil_append, List.map_append]
      exact List.perm_append_comm
  · have ha := nameOk_ne hao
    have hk99 : ¬ m.kind = 99 := by omega
    have ec : chOf m = ⟨m.a, ⟨#[]⟩, 0⟩ := by unfold chOf; rw [if_neg hk99, if_pos hk]
    obtain ⟨j, hj, hat, hname⟩ := at_some_of hin
    have hg : aget l m.a = some d[j].n := by rw [← hname]; exact h.at_some (List.getElem_mem hj)
    have ef : followL l (chOf m) = (adel l m.a, d[j].n) := by
      rw [ec]
      unfold followL
      rw [if_neg (fun e => empty_ne ha e.symm), if_neg ha, if_pos (by rfl), hg]
      rfl
    have em : movedR d m = d.eraseIdx j := by
      unfold movedR
      rw [if_neg hk99, if_pos hk, if_pos (by omega), hat]
      rfl
    have hp := erase_perm hj
    have hr := h.ok.perm hp
    have h0 : d[j].n ≠ 0 := by have := (h.ok.ne _ (List.getElem_mem hj)).2; omega
    refine ⟨d[j].n, by rw [ef], ?_, ?_, fun e => absurd e hk99⟩
    · rw [ef, em]
      refine ⟨?_, hr.tail.1⟩
      have k1 := (adel_perm hg).symm.trans (h.perm.trans (hp.map prE))
      rw [List.map_cons, show prE d[j] = (m.a, d[j].n) from by unfold prE; rw [hname]] at k1
      exact k1.cons_inv
    · rw [em, if_neg h0, if_neg hk99, List.nil_append]
      exact (hp.map _).symm
  · have ha := nameOk_ne hao
    have hb := nameOk_ne hbo
    have hk99 : ¬ m.kind = 99 := by omega
    have hk100 : ¬ m.kind = 100 := by omega
    have ec : chOf m = ⟨m.a, m.b, 0⟩ := by unfold chOf; rw [if_neg hk99, if_neg hk100]
    obtain ⟨j, hj, hat, hname⟩ := at_some_of hin
    by_cases hab : m.a = m.b
    · have ef : followL l (chOf m) = (l, 0) := by rw [ec]; unfold followL; rw [if_pos hab]
      have em : movedR d m = d := by unfold movedR; rw [if_neg hk99, if_neg hk100, if_pos hk, if_pos (.inr hab)]
      refine ⟨0, by rw [ef], by rw [ef, em]; exact h, ?_, fun _ => rfl⟩
      rw [em, if_pos rfl, if_neg hk99]
    · have hg : aget l m.a = some d[j].n := by rw [← hname]; exact h.at_some (List.getElem_mem hj)
      have hp := erase_perm hj
      have hr := h.ok.perm hp
      have k1 := (adel_perm hg).symm.trans (h.perm.trans (hp.map prE))
      rw [List.map_cons, show prE d[j] = (m.a, d[j].n) from by unfold prE; rw [hname]] at k1
      have D1 : Dir (adel l m.a) (d.eraseIdx j) := ⟨k1.cons_inv, hr.tail.1⟩
      have hnn : d.getD j ⟨⟨#[]⟩, 0⟩ = d[j] := by rw [List.getD_eq_getElem?_getD, List.getElem?_eq_getElem hj]; rfl
      have hj1 : 1 ≤ d[j].n := (h.ok.ne _ (List.getElem_mem hj)).2
      generalize hd1 : d.eraseIdx j = d1 at *
      have em0 : ∀ r, (if 0 ≤ atR d1 m.b then d1.eraseIdx (atR d1 m.b).toNat ++ [⟨m.b, d[j].n⟩] else d1 ++ [⟨m.b, d[j].n⟩]) = r → movedR d m = r := by
        intro r hr2
        rw [← hr2]
        unfold movedR
        rw [if_neg hk99, if_neg hk100, if_pos hk, if_neg (by rintro (q | q); omega; exact hab q), hat, show ((j : Int)).toNat = j from rfl, hd1, hnn]
      have ef0 : followL l (chOf m) = (aput (adel l m.a) m.b d[j].n, (aget (adel l m.a) m.b).getD 0) := by
        rw [ec]
        unfold followL
        rw [if_neg hab, if_neg ha, if_neg hb, hg]
        rfl
      rcases atR_cases d1 m.b with ⟨hb1, hb2⟩ | ⟨k, hk1, hb1, hb2, _⟩
      · have hno : ∀ e ∈ d1, e.name ≠ m.b := fun e he => by obtain ⟨i, hi, rfl⟩ := List.getElem_of_mem he; exact hb2 i hi
        have hg2 := D1.at_none hno
        have em := em0 _ (if_neg (by omega))
        have ef : followL l (chOf m) = (adel l m.a ++ [(m.b, d[j].n)], 0) := by rw [ef0, hg2, aput_none hg2]; rfl
        refine ⟨0, by rw [ef], ?_, ?_, fun _ => rfl⟩
        · rw [ef, em]
          refine ⟨?_, D1.ok.more hno (fun x hx => (hr.tail.2 x hx).2) hbo hj1⟩
          rw [List.map_append]
          exact D1.perm.append_right _
        · rw [em, if_pos rfl, if_neg hk99, List.nil_append, List.nil_append, List.map_append]
          exact List.perm_append_comm.trans (hp.map (fun x : RE => x.n)).symm
      · have hg2 : aget (adel l m.a) m.b = some d1[k].n := by rw [← hb2]; exact D1.at_some (List.getElem_mem hk1)
        have em := em0 _ (if_pos (by omega))
        rw [hb1, show ((k : Int)).toNat = k from rfl] at em
        have ef : followL l (chOf m) = (aput (adel l m.a) m.b d[j].n, d1[k].n) := by rw [ef0, hg2]; rfl
        have hp2 := erase_perm hk1
        have hr2 := D1.ok.perm hp2
        have h0 : d1[k].n ≠ 0 := by have := (D1.ok.ne _ (List.getElem_mem hk1)).2; omega
        have k2 := (adel_perm hg2).symm.trans (D1.perm.trans (hp2.map prE))
        rw [List.map_cons, show prE d1[k] = (m.b, d1[k].n) from by unfold prE; rw [hb2]] at k2
        refine ⟨d1[k].n, by rw [ef], ?_, ?_, fun e => absurd e hk99⟩
        · rw [ef, em]
          refine ⟨(aput_perm _ _ _).trans ?_, hr2.tail.1.more (fun x hx => by have := (hr2.tail.2 x hx).1; rw [hb2] at this; exact this) (fun x hx => (hr.tail.2 x (hp2.mem_iff.2 (List.mem_cons_of_mem _ hx))).2) hbo hj1⟩
          rw [List.map_append]
          exact (k2.cons_inv.cons _).trans (List.perm_append_singleton _ _).symm
        · rw [em, if_neg h0, if_neg hk99, List.nil_append, List.map_append]
          refine List.Perm.trans ?_ (hp.map (·.n)).symm
          rw [List.map_cons]
          refine List.Perm.trans ?_ ((hp2.map (·.n)).cons _).symm
          rw [List.map_cons]
          show (d1[k].n :: ((d1.eraseIdx k).map (·.n) ++ [d[j].n])).Perm _
          exact ((List.perm_append_singleton _ _).cons _).trans (List.Perm.swap _ _ _)
end
end Go.Proofs.Ytccapgcpdehicaa
