/-
  The contracts of symtab.New, enter, give.
-/
import Derived.Test.YtgilkaaholkgfaaYc
import Derived.Deep.RegionHeld3
import Derived.OwnWalk
namespace Go.Proofs.Ytgilkaaholkgfaa
open Go.RowKit

theorem Try.infoT : (Try.prog.info? 9).map (fun i => (i.zero, i.size, i.bytes)) = some (some (.string ⟨#[]⟩), 1, 16) := by kernel_rfl
theorem Try.infoI : (Try.prog.info? 3).map (fun i => (i.zero, i.size, i.bytes)) = some (some (.int .i64 0), 1, 8) := by kernel_rfl
theorem Try.dstr : Try.prog.underlying 9 = some (encN).d := Try.underlying9
theorem zint (w : World) : (zeroValue 3).run Try.prog w = .ok (.int .i64 0) w := Try.zeroValue3 w

/-- An entry of a map that a literal makes. -/
theorem wpList_ins {κ ν : Type} {E : Enc κ ν} {P : Program} (w : World) {ops : Array Oper} {rest : List Oper} {o : Oper} {a : Act} {Q : Exit → Act → World → Prop} [DecidableEq κ]
    (hg : o.guard = none) (m x v : Operand) (t : TypeId) (hop : o.op = Op.insert t m x v) (kt e : TypeId) (hk : P.underlying kt = some E.d) (ht : P.underlying t = some (.map kt e))
    (b : Nat) (l : List (κ × ν)) (hm : a.eval m = .map (some b)) (h : MapAt E w b l) (k : κ) (u : ν) (hx : a.eval x = E.ek k) (hv : a.eval v = E.ev u)
    (hK : ∀ w', MapAt E w' b (aput l k u) → w.grownBy w' (some b) → w'.heap.size = w.heap.size → wpList P ops Q rest (a.put o.dst undef) w') : wpList P ops Q (o :: rest) a w := by
  refine wpList_plain hg fun K' hK' => ?_
  obtain ⟨w', hrun, r1, r2, r3⟩ := h.update (P := P) hk ht k u
  unfold Oper.wp
  simp [execOp, hop, hm, hx, hv, hrun, Result.andThen]
  exact hK' _ _ (hK w' r1 r2 r3)

theorem own_lit (w : World) (s : ByteArray) : (w.alloc (.cells #[.string s] 9)).ownsRow w.heap.size 9 1 (.slice (some ⟨w.heap.size, 0, none⟩) 1 1) 1 (strs [s]) :=
  ⟨by simp [strs], .inr ⟨w.heap.size, 1, #[.string s], rfl, Nat.le_refl _, heap_alloc_new w _, Nat.le_refl _, by unfold maxLen; omega, by simp, by simp [strs]⟩⟩

set_option maxHeartbeats 2000000 in
set_option maxRecDepth 100000 in
theorem new_tab (w : World) : Calls Try.prog 11 #[] w fun e w' => ∃ g, e = .returned (.pointer (some ⟨g, 0, none⟩)) ∧ STab w' w.heap.size g [⟨#[]⟩] ∧ w.grownBy w' none := by
  have hmm := @run_makeMap Try.prog
  have HO := hide (own_lit w ⟨#[]⟩)
  have HM := hide (MapAt.made (E := encN) (w.alloc (.cells #[.string ⟨#[]⟩] 9)))
  have HG := hide (gb_alloc (gb_alloc (gb_refl w none) (.cells #[.string ⟨#[]⟩] 9)) (.map #[] 0))
  have HS := hide (show (w.alloc (.cells #[.string ⟨#[]⟩] 9)).heap.size = w.heap.size + 1 by simp)
  go_enter Try.func11, Try.ntmps11
  go_wp2_with (refine wpList_ins (E := encN) _ rfl _ _ _ 79 rfl 9 3 Try.dstr Try.underlying79 (w.heap.size + 1) [] rfl (HS.out ▸ HM.out) ⟨#[]⟩ 0 rfl rfl ?_; intro w1 hm1 hg1 hs1; have HM1 := hide hm1; have HG1 := hide hg1; have HS1 := hide hs1; clear hm1 hg1 hs1)
  go_ret
  have h0 : (w.alloc (.cells #[.string ⟨#[]⟩] 9)).heap.size = w.heap.size + 1 := HS.out
  have hgm : ((w.alloc (.cells #[.string ⟨#[]⟩] 9)).alloc (.map #[] 0)).grownBy w1 (some (w.heap.size + 1)) := HG1.out
  have ho1 := ((HO.out.alloc (.map #[] 0)).kept hgm (.inr (by simp [Value.ownBlock]))).alloc (.cells #[.slice (some ⟨w.heap.size, 0, none⟩) 1 1, .map (some (w.heap.size + 1))] 81)
  have hm1 := HM1.out.alloc (.cells #[.slice (some ⟨w.heap.size, 0, none⟩) 1 1, .map (some (w.heap.size + 1))] 81)
  have hsz := HS1.out
  simp at hsz
  exact ⟨w1.heap.size, rfl, ⟨_, _, _, ⟨heap_alloc_new w1 _, ho1, hm1, by omega, by omega⟩, rfl⟩, gb_alloc (gb_trans HG.out HG1.out (.inr (.inr ⟨_, rfl, by omega⟩))) _⟩

theorem TabB.grown {w w' : World} {base g mb : Nat} {v : Value} {L : List ByteArray} (hb : TabB w base g v mb L) (hg : w.grownBy w' none) : TabB w' base g v mb L :=
  ⟨blk_keep hb.1 hg (by simp), own_grown hb.2.1 hg, hb.2.2.1.grown hg (by simp), hb.2.2.2⟩
theorem strs_snoc (L : List ByteArray) (s : ByteArray) : strs (L ++ [s]) = strs L ++ [.string s] := by simp [strs]
theorem TabB.entered {w1 w2 w3 w4 : World} {base g mb : Nat} {v v2 : Value} {L : List ByteArray} {s : ByteArray} (hB : TabB w1 base g v mb L) (hg2 : w1.grownBy w2 v.ownBlock)
    (ho2 : w2.ownsRow base 9 1 v2 (L.length + 1) (strs L ++ [.string s])) (h3 : w3 = w2.setCell ⟨g, 0, none⟩ v2) (hm4 : MapAt encN w4 mb (aput (enumF 0 L) s L.length)) (hg4 : w3.grownBy w4 (some mb)) (hn : numOf L s = none) :
    TabB w4 base g v2 mb (L ++ [s]) ∧ Wrote w1 w4 (tabF g v mb) := by
  obtain ⟨n1, n2, n3⟩ := hB.ne
  have hh2 : w2.heap[g]? = some (.cells #[v, .map (some mb)] 81 (0, 0)) := blk_keep hB.1 hg2 (fun e => n2 e.symm)
  have hm2 : MapAt encN w2 mb (enumF 0 L) := hB.2.2.1.grown hg2 (fun e => n3 e.symm)
  have hh3 : w3.heap[g]? = some (.cells #[v2, .map (some mb)] 81 (0, 0)) := by rw [h3]; exact blk_set hh2 0 v2
  have hg3 : w2.grownBy w3 (some g) := by rw [h3]; exact gb_setCell (gb_refl w2 (some g)) (.inl rfl) v2
  have ho3 : w3.ownsRow base 9 1 v2 (L.length + 1) (strs L ++ [.string s]) := ho2.kept hg3 (.inr (own_ne ho2 hh2 (by decide)))
  have hm3 : MapAt encN w3 mb (enumF 0 L) := hm2.grown hg3 (fun e => n1 (by injection e with e; exact e.symm))
  have hnb : v2.ownBlock ≠ some mb := by
    intro e
    obtain ⟨es, clock, h1, _⟩ := hm3
    rcases ho3.2 with ⟨rfl, _⟩ | ⟨g', cap, cur, rfl, _, hh, _⟩
    · simp [Value.ownBlock] at e
    · have : g' = mb := by simpa [Value.ownBlock] using e
      subst this
      rw [h1] at hh
      cases hh
  refine ⟨⟨blk_keep hh3 hg4 (fun e => n1 (by injection e with e)), ?_, ?_, hB.2.2.2⟩, ?_⟩
  · rw [strs_snoc, List.length_append]
    exact ho3.kept hg4 (.inr hnb)
  · rw [← numOf_put hn]; exact hm4
  · refine ((Wrote.of_row hg2 (f := tabF g v mb) (fun x hx => by simp [tabF, hx])).trans (Wrote.of_row hg3 (f := tabF g v mb) (fun x hx => by injection hx with hx; subst hx; simp [tabF])) (fun x hx => .inl hx)).trans (Wrote.of_row hg4 (f := tabF g v mb) (fun x hx => by injection hx with hx; subst hx; simp [tabF])) (fun x hx => .inl hx)

def EntPost (base g : Nat) (f : List Nat) (L : List ByteArray) (s : ByteArray) (w : World) (e : Ending) (w' : World) : Prop :=
  e = .returned (.int .i64 (L.length : Int)) ∧ ∃ f', TabF w' base f' g (L ++ [s]) ∧ Wrote w w' f ∧ ∀ x ∈ f', x ∈ f ∨ w.heap.size ≤ x
theorem cellT (s : ByteArray) : ∀ u ∈ [Value.string s], u.oneCell' = true := by
  intro u hu
  obtain rfl := List.mem_singleton.1 hu
  rfl

set_option maxHeartbeats 4000000 in
set_option maxRecDepth 100000 in
theorem enter_any (base g : Nat) (f : List Nat) (L : List ByteArray) (s : ByteArray) (w : World) (h : TabF w base f g L) (hn : numOf L s = none) (hs : s.size ≤ 64) (hL : L.length ≤ 70000) (hb : base ≤ w.heap.size) :
    Calls Try.prog 58 #[.pointer (some ⟨g, 0, none⟩), .string s] w (EntPost base g f L s w) := by
  obtain ⟨A, c, mb, h0, h1, hnc, hcm, hrd, hm, hB, hf⟩ := h.open_
  have HF := hide hf
  have HB := hide hB
  have HN := hide hn
  have HSZ := hide (show s.size ≤ 281474976710656 by omega)
  have HBASE := hide hb
  obtain ⟨i1, hi1, hiz, his, hib⟩ := info_parts Try.infoT
  have HI1 := hide hi1
  have HIZ := hide hiz
  have HIS := hide his
  have HIB := hide hib
  have HL1 : Hid (L.length + 1 ≤ maxLen) := hide (by unfold maxLen; omega)
  have HMB : Hid ((L.length + 1) * 16 ≤ 140737488355328) := hide (by omega)
  clear hf hB hn hs hb hi1 hiz his hib h hrd hm
  go_enter Try.func58, Try.ntmps58
  go_wp2_with (first
    | (go_at_call 88; refine (sclone_any s _ HSZ.out).mono ?_; rintro e w1 ⟨rfl, hg1⟩; have HG1 := hide hg1; have HB1 := hide (HB.out.grown hg1); have c10 := cell_gb h0 hg1; have c11 := cell_gb h1 hg1; have HS1 := hide hg1.size; clear hg1)
    | (at_builtin; have hga := gb_alloc (gb_refl w1 none) (.cells #[.string s] 9); have HBa := hide (HB1.out.grown hga); have HGa := hide hga; clear hga; refine wpList_append_rd _ rfl (.tmp 17) (.tmp 19) 34 rfl base 9 i1 (.string ⟨#[]⟩) 1 16 Try.underlying34 HI1.out HIZ.out HIS.out HIB.out rfl (Nat.succ_pos 0) (.slice A L.length c) L.length (strs L) rfl HBa.out.2.1 (w1.heap.size + 1) (some ⟨w1.heap.size, 0, none⟩) 1 1 [.string s] rfl rfl (Rd.new w1 #[.string s] 9 _ rfl) (cellT s) HL1.out HMB.out (by have := HBASE.out; have := HS1.out; simp; omega) ?_; intro v2 w2 ho2 hg2 hb2; obtain ⟨A2, c2, hv2, _, _, _⟩ := own_form ho2; subst hv2; have HO2 := hide ho2; have HG2 := hide hg2; have HBB2 := hide hb2; have hh2 := blk_keep HBa.out.1 hg2 (fun e => HBa.out.ne.2.1 e.symm); have p0 : w2.cell? ⟨g, 0, none⟩ = some (.slice A L.length c) := (by rw [blk_cell hh2]; rfl); have z0 := blk_frozen hh2 0; have p1 : (w2.setCell ⟨g, 0, none⟩ (.slice A2 (L.length + 1) c2)).cell? ⟨g, 1, none⟩ = some (.map (some mb)) := (by rw [blk_cell (blk_set hh2 0 (.slice A2 (L.length + 1) c2))]; rfl); have HM3 := hide ((HBa.out.2.2.1.grown hg2 (fun e => HBa.out.ne.2.2 e.symm)).setCell (p := ⟨g, 0, none⟩) HBa.out.ne.1 (.slice A2 (L.length + 1) c2)); clear hh2 ho2 hg2 hb2)
    | (refine wpList_put (E := encN) _ rfl _ _ _ 79 rfl 9 3 Try.dstr Try.underlying79 mb (enumF 0 L) rfl HM3.out s L.length rfl rfl ?_; intro w4 hm4 hg4 hs4; have HM4 := hide hm4; have HG4 := hide hg4; have HS4 := hide hs4; clear hm4 hg4 hs4))
  go_ret
  have hE := HBa.out.entered HG2.out HO2.out rfl HM4.out HG4.out HN.out
  refine ⟨rfl, tabF g (.slice A2 (L.length + 1) c2) mb, ⟨_, mb, hE.1, rfl⟩, ?_, ?_⟩
  · rw [HF.out]
    exact ((Wrote.of_gb HG1.out (tabF g (.slice A L.length c) mb)).trans (Wrote.of_gb HGa.out (tabF g (.slice A L.length c) mb)) (fun x hx => .inl hx)).trans hE.2 (fun x hx => .inl hx)
  · intro x hx
    rw [HF.out]
    have h1 := HG1.out.size
    have h2 := HGa.out.size
    unfold tabF at hx ⊢
    rcases List.mem_cons.1 hx with rfl | hx
    · exact .inl (by simp)
    rcases List.mem_cons.1 hx with rfl | hx
    · exact .inl (by simp)
    · have e : (Value.slice A2 (L.length + 1) c2).ownBlock = some x := by simpa using hx
      rcases HBB2.out with h | h
      · left; rw [← h, e]; simp
      · right
        rw [h] at e
        injection e with e
        simp at e
        omega
end Go.Proofs.Ytgilkaaholkgfaa
