/-
  The contracts of symtab's bytesFrom, Bytes, Number, Symbol, Len, All.
-/
import Derived.Test.YtmcmlkglkpbnpaaGreatQak
import Derived.Deep.RegionHeld3
import Derived.OwnWalk
namespace Go.Proofs.YtmcmlkglkpbnpaaGreat
open Go.RowKit
theorem Tryz.infoTy : (Tryz.prog.info? 9).map (fun i => (i.zero, i.size, i.bytes)) = some (some (.string ⟨#[]⟩), 1, 16) := by kernel_rfl
theorem Tryz.infoI : (Tryz.prog.info? 3).map (fun i => (i.zero, i.size, i.bytes)) = some (some (.int .i64 0), 1, 8) := by kernel_rfl
theorem Tryz.dstr : Tryz.prog.underlying 9 = some (encY).d := Tryz.underlying9
theorem zint (w : World) : (zeroValue 3).run Tryz.prog w = .ok (.int .i64 0) w := Tryz.zeroValue3 w
theorem wpList_ins {κ ν : Type} {E : Enc κ ν} {P : Program} (w : World) {ops : Array Oper} {rest : List Oper} {o : Oper} {a : Act} {Q : Exit → Act → World → Prop} [DecidableEq κ]
  (hg : o.guard = none) (m x v : Operand) (t : TypeId) (hop : o.op = Op.insert t m x v) (kt e : TypeId) (hk : P.underlying kt = some E.d) (ht : P.underlying t = some (.map kt e))
  (b : Nat) (l : List (κ × ν)) (hm : a.eval m = .map (some b)) (h : MapAt E w b l) (k : κ) (u : ν) (hx : a.eval x = E.ek k) (hv : a.eval v = E.ev u)
  (hK : ∀ w', MapAt E w' b (aput l k u) → w.grownBy w' (some b) → w'.heap.size = w.heap.size → wpList P ops Q rest (a.put o.dst undef) w') : wpList P ops Q (o :: rest) a w := by
 refine wpList_plain hg fun K' hK' => ?_
 obtain ⟨w', hrun, r1, r2, r3⟩ := h.update (P := P) hk ht k u
 unfold Oper.wp
 simp [execOp, hop, hm, hx, hv, hrun, Result.andThen]
 exact hK' _ _ (hK w' r1 r2 r3)
theorem own_lit (w : World) (s : ByteArray) : (w.alloc (.cells #[.string s] 9)).ownsRow w.heap.size 9 1 (.slice (some ⟨w.heap.size, 0, none⟩) 1 1) 1 (strs [s]) :=
 ⟨by simp [strs], .inr ⟨w.heap.size, 1, #[.string s], rfl, Nat.le_refl _, heap_alloc_new w _, Nat.le_refl _, by unfold maxLen; omega, by simp, by simp [strs]⟩⟩
set_option maxHeartbeats 2000000 in
set_option maxRecDepth 100000 in
theorem new_tab (w : World) : Calls Tryz.prog 26 #[] w fun e w' => ∃ g, e = .returned (.pointer (some ⟨g, 0, none⟩)) ∧ STab w' w.heap.size g [⟨#[]⟩] ∧ w.grownBy w' none := by
 have hmm := @run_makeMap Tryz.prog
 have HO := hide (own_lit w ⟨#[]⟩)
 have HM := hide (MapAt.made (E := encY) (w.alloc (.cells #[.string ⟨#[]⟩] 9)))
 have HG := hide (gb_alloc (gb_alloc (gb_refl w none) (.cells #[.string ⟨#[]⟩] 9)) (.map #[] 0))
 have HS := hide (show (w.alloc (.cells #[.string ⟨#[]⟩] 9)).heap.size = w.heap.size + 1 by simp)
 go_enter Tryz.func26, Tryz.ntmps26
 go_wp2_with (refine wpList_ins (E := encY) _ rfl _ _ _ 78 rfl 9 3 Tryz.dstr Tryz.underlying78 (w.heap.size + 1) [] rfl (HS.out ▸ HM.out) ⟨#[]⟩ 0 rfl rfl ?_; intro w1 hm1 hg1 hs1; have HM1 := hide hm1; have HG1 := hide hg1; have HS1 := hide hs1; clear hm1 hg1 hs1)
 go_ret
 have h0 : (w.alloc (.cells #[.string ⟨#[]⟩] 9)).heap.size = w.heap.size + 1 := HS.out
 have hgm : ((w.alloc (.cells #[.string ⟨#[]⟩] 9)).alloc (.map #[] 0)).grownBy w1 (some (w.heap.size + 1)) := HG1.out
 have ho1 := ((HO.out.alloc (.map #[] 0)).kept hgm (.inr (by simp [Value.ownBlock]))).alloc (.cells #[.slice (some ⟨w.heap.size, 0, none⟩) 1 1, .map (some (w.heap.size + 1))] 140)
 have hm1 := HM1.out.alloc (.cells #[.slice (some ⟨w.heap.size, 0, none⟩) 1 1, .map (some (w.heap.size + 1))] 140)
 have hsz := HS1.out
 simp at hsz
 exact ⟨w1.heap.size, rfl, ⟨_, _, _, ⟨heap_alloc_new w1 _, ho1, hm1, by omega, by omega⟩, rfl⟩, gb_alloc (gb_trans HG.out HG1.out (.inr (.inr ⟨_, rfl, by omega⟩))) _⟩
theorem TabB.grown {w w' : World} {base g mb : Nat} {v : Value} {L : List ByteArray} (hb : TabB w base g v mb L) (hg : w.grownBy w' none) : TabB w' base g v mb L :=
 ⟨blk_keep hb.1 hg (by simp), own_grown hb.2.1 hg, hb.2.2.1.grown hg (by simp), hb.2.2.2⟩
theorem strs_snoc (L : List ByteArray) (s : ByteArray) : strs (L ++ [s]) = strs L ++ [.string s] := by simp [strs]
theorem TabB.entered {w1 w2 w3 w4 : World} {base g mb : Nat} {v v2 : Value} {L : List ByteArray} {s : ByteArray} (hB : TabB w1 base g v mb L) (hg2 : w1.grownBy w2 v.ownBlock)
  (ho2 : w2.ownsRow base 9 1 v2 (L.length + 1) (strs L ++ [.string s])) (h3 : w3 = w2.setCell ⟨g, 0, none⟩ v2) (hm4 : MapAt encY w4 mb (aput (enumF 0 L) s L.length)) (hg4 : w3.grownBy w4 (some mb)) (hn : numOf L s = none) :
  TabB w4 base g v2 mb (L ++ [s]) ∧ Wrote w1 w4 (tabF g v mb) := by
 obtain ⟨n1, n2, n3⟩ := hB.ne
 have hh2 : w2.heap[g]? = some (.cells #[v, .map (some mb)] 140 (0, 0)) := blk_keep hB.1 hg2 (fun e => n2 e.symm)
 have hm2 : MapAt encY w2 mb (enumF 0 L) := hB.2.2.1.grown hg2 (fun e => n3 e.symm)
 have hh3 : w3.heap[g]? = some (.cells #[v2, .map (some mb)] 140 (0, 0)) := by rw [h3]; exact blk_set hh2 0 v2
 have hg3 : w2.grownBy w3 (some g) := by rw [h3]; exact gb_setCell (gb_refl w2 (some g)) (.inl rfl) v2
 have ho3 : w3.ownsRow base 9 1 v2 (L.length + 1) (strs L ++ [.string s]) := ho2.kept hg3 (.inr (own_ne ho2 hh2 (by decide)))
 have hm3 : MapAt encY w3 mb (enumF 0 L) := hm2.grown hg3 (fun e => n1 (by injection e with e; exact e.symm))
 have hnb : v2.ownBlock ≠ some mb := by
  intro e
  obtain ⟨es, clock, h1, _⟩ := hm3
  rcases ho3.2 with ⟨rfl, _⟩ | ⟨g', cap, cur, rfl, _, hh, _⟩
  ·simp [Value.ownBlock] at e
  ·have : g' = mb := by simpa [Value.ownBlock] using e
   subst this
   rw [h1] at hh
   cases hh
 refine ⟨⟨blk_keep hh3 hg4 (fun e => n1 (by injection e with e)), ?_, ?_, hB.2.2.2⟩, ?_⟩
 ·rw [strs_snoc, List.length_append]
  exact ho3.kept hg4 (.inr hnb)
 ·rw [← numOf_put hn]; exact hm4
 ·refine ((Wrote.of_row hg2 (f := tabF g v mb) (fun x hx => by simp [tabF, hx])).trans (Wrote.of_row hg3 (f := tabF g v mb) (fun x hx => by injection hx with hx; subst hx; simp [tabF])) (fun x hx => .inl hx)).trans (Wrote.of_row hg4 (f := tabF g v mb) (fun x hx => by injection hx with hx; subst hx; simp [tabF])) (fun x hx => .inl hx)
def EntPost (base g : Nat) (f : List Nat) (L : List ByteArray) (s : ByteArray) (w : World) (e : Ending) (w' : World) : Prop :=
 e = .returned (.int .i64 (L.length : Int)) ∧ ∃ f', TabF w' base f' g (L ++ [s]) ∧ Wrote w w' f ∧ ∀ x ∈ f', x ∈ f ∨ w.heap.size ≤ x
theorem cellT (s : ByteArray) : ∀ u ∈ [Value.string s], u.oneCell' = true := by
 intro u hu
 obtain rfl := List.mem_singleton.1 hu
 rfl
set_option maxHeartbeats 4000000 in
set_option maxRecDepth 100000 in
theorem enter_any (base g : Nat) (f : List Nat) (L : List ByteArray) (s : ByteArray) (w : World) (h : TabF w base f g L) (hn : numOf L s = none) (hs : s.size ≤ 64) (hL : L.length ≤ 70000) (hb : base ≤ w.heap.size) :
  Calls Tryz.prog 93 #[.pointer (some ⟨g, 0, none⟩), .string s] w (EntPost base g f L s w) := by
 obtain ⟨A, c, mb, h0, h1, hnc, hcm, hrd, hm, hB, hf⟩ := h.open_
 have HF := hide hf
 have HB := hide hB
 have HN := hide hn
 have HSZ := hide (show s.size ≤ 281474976710656 by omega)
 have HBASE := hide hb
 obtain ⟨i1, hi1, hiz, his, hib⟩ := info_parts Tryz.infoTy
 have HI1 := hide hi1
 have HIZ := hide hiz
 have HIS := hide his
 have HIB := hide hib
 have HL1 : Hid (L.length + 1 ≤ maxLen) := hide (by unfold maxLen; omega)
 have HMB : Hid ((L.length + 1) * 16 ≤ 140737488355328) := hide (by omega)
 clear hf hB hn hs hb hi1 hiz his hib h hrd hm
 go_enter Tryz.func93, Tryz.ntmps93
 go_wp2_with (first
  | (go_at_call 111; refine (sclone_any s _ HSZ.out).mono ?_; rintro e w1 ⟨rfl, hg1⟩; have HG1 := hide hg1; have HB1 := hide (HB.out.grown hg1); have c10 := cell_gb h0 hg1; have c11 := cell_gb h1 hg1; have HS1 := hide hg1.size; clear hg1)
  | (at_builtin; have hga := gb_alloc (gb_refl w1 none) (.cells #[.string s] 9); have HBa := hide (HB1.out.grown hga); have HGa := hide hga; clear hga; refine wpList_append_rd _ rfl (.tmp 17) (.tmp 19) 33 rfl base 9 i1 (.string ⟨#[]⟩) 1 16 Tryz.underlying33 HI1.out HIZ.out HIS.out HIB.out rfl (Nat.succ_pos 0) (.slice A L.length c) L.length (strs L) rfl HBa.out.2.1 (w1.heap.size + 1) (some ⟨w1.heap.size, 0, none⟩) 1 1 [.string s] rfl rfl (Rd.new w1 #[.string s] 9 _ rfl) (cellT s) HL1.out HMB.out (by have := HBASE.out; have := HS1.out; simp; omega) ?_; intro v2 w2 ho2 hg2 hb2; obtain ⟨A2, c2, hv2, _, _, _⟩ := own_form ho2; subst hv2; have HO2 := hide ho2; have HG2 := hide hg2; have HBB2 := hide hb2; have hh2 := blk_keep HBa.out.1 hg2 (fun e => HBa.out.ne.2.1 e.symm); have p0 : w2.cell? ⟨g, 0, none⟩ = some (.slice A L.length c) := (by rw [blk_cell hh2]; rfl); have z0 := blk_frozen hh2 0; have p1 : (w2.setCell ⟨g, 0, none⟩ (.slice A2 (L.length + 1) c2)).cell? ⟨g, 1, none⟩ = some (.map (some mb)) := (by rw [blk_cell (blk_set hh2 0 (.slice A2 (L.length + 1) c2))]; rfl); have HM3 := hide ((HBa.out.2.2.1.grown hg2 (fun e => HBa.out.ne.2.2 e.symm)).setCell (p := ⟨g, 0, none⟩) HBa.out.ne.1 (.slice A2 (L.length + 1) c2)); clear hh2 ho2 hg2 hb2)
  | (refine wpList_put (E := encY) _ rfl _ _ _ 78 rfl 9 3 Tryz.dstr Tryz.underlying78 mb (enumF 0 L) rfl HM3.out s L.length rfl rfl ?_; intro w4 hm4 hg4 hs4; have HM4 := hide hm4; have HG4 := hide hg4; have HS4 := hide hs4; clear hm4 hg4 hs4))
 go_ret
 have hE := HBa.out.entered HG2.out HO2.out rfl HM4.out HG4.out HN.out
 refine ⟨rfl, tabF g (.slice A2 (L.length + 1) c2) mb, ⟨_, mb, hE.1, rfl⟩, ?_, ?_⟩
 ·rw [HF.out]
  exact ((Wrote.of_gb HG1.out (tabF g (.slice A L.length c) mb)).trans (Wrote.of_gb HGa.out (tabF g (.slice A L.length c) mb)) (fun x hx => .inl hx)).trans hE.2 (fun x hx => .inl hx)
 ·intro x hx
  rw [HF.out]
  have h1 := HG1.out.size
  have h2 := HGa.out.size
  unfold tabF at hx ⊢
  rcases List.mem_cons.1 hx with rfl | hx
  ·exact .inl (by simp)
  rcases List.mem_cons.1 hx with rfl | hx
  ·exact .inl (by simp)
  ·have e : (Value.slice A2 (L.length + 1) c2).ownBlock = some x := by simpa using hx
   rcases HBB2.out with h | h
   ·left; rw [← h, e]; simp
   ·right
    rw [h] at e
    injection e with e
    simp at e
    omega
end Go.Proofs.YtmcmlkglkpbnpaaGreat
namespace Go.Proofs.YtmcmlkglkpbnpaaGreat
open Go.RowKit
def nats (l : List Nat) : List Value := l.map fun (n : Nat) => Value.int .i64 (n : Int)
theorem nats_length (l : List Nat) : (nats l).length = l.length := by simp [nats]
theorem own_whole {w : World} {base g n : Nat} {e : TypeId} {xs : List Value} (h : w.ownsRow base e 1 (.slice (some ⟨g, 0, none⟩) n n) n xs) : ∃ cur, w.heap[g]? = some (.cells cur e (0, 0)) ∧ cur.toList = xs ∧ cur.size = n ∧ base ≤ g := by
 rcases h.2 with ⟨h1, _⟩ | ⟨g', cap, cur, hv, hb, hh, _, _, hs, ht⟩
 ·cases h1
 ·injection hv with e1 e2 e3
  injection e1 with e1
  injection e1 with e1
  subst e1
  subst e3
  have hs' : cur.size = n := by simpa using hs
  refine ⟨cur, hh, ?_, hs', hb⟩
  rw [← ht, List.take_of_length_le (by rw [Array.length_toList]; omega)]
theorem own_of_cells {w : World} {base g n : Nat} {e : TypeId} {cur : Array Value} (h : w.heap[g]? = some (.cells cur e (0, 0))) (hs : cur.size = n) (hb : base ≤ g) (hn : n ≤ maxLen) : w.ownsRow base e 1 (.slice (some ⟨g, 0, none⟩) n n) n cur.toList :=
 ⟨by simp [hs], .inr ⟨g, n, cur, rfl, hb, h, Nat.le_refl _, hn, by omega, by rw [Nat.mul_one, ← hs, ← Array.length_toList, List.take_length]⟩⟩
theorem TabF.not_row {w : World} {base g k : Nat} {f : List Nat} {L : List ByteArray} {cur : Array Value} {t : TypeId} (h : TabF w base f g L) (hk : w.heap[k]? = some (.cells cur t (0, 0))) (h1 : t ≠ 140) (h2 : t ≠ 9) : k ∉ f := by
 obtain ⟨v, mb, hb, rfl⟩ := h
 intro hm
 unfold tabF at hm
 rcases List.mem_cons.1 hm with rfl | hm
 ·rw [hb.1] at hk
  injection hk with hk
  injection hk with _ hk
  exact h1 hk.symm
 rcases List.mem_cons.1 hm with rfl | hm
 ·obtain ⟨es, clock, hq⟩ := hb.map
  rw [hq] at hk
  cases hk
 ·have e : v.ownBlock = some k := by simpa using hm
  rcases hb.2.1.2 with ⟨rfl, _⟩ | ⟨g', cap, cs, rfl, _, hh, _⟩
  ·simp [Value.ownBlock] at e
  ·have : g' = k := by simpa [Value.ownBlock] using e
   subst this
   rw [hh] at hk
   injection hk with hk
   injection hk with _ hk
   exact h2 hk.symm
def NumB (w : World) (nb n k : Nat) (ns : List Nat) : Prop := ∃ cur, w.heap[nb]? = some (.cells cur 3 (0, 0)) ∧ cur.size = n ∧ cur.toList.take k = nats ns
def GiveI (base g nb n : Nat) (f : List Nat) (L l : List ByteArray) (w : World) (k : Nat) (wr : World) : Prop :=
 NumB wr nb n k (inter L (l.take k)).2 ∧ ∃ f', TabF wr base f' g (inter L (l.take k)).1 ∧ Wrote w wr (nb :: f) ∧ (∀ x ∈ f', x ∈ f ∨ w.heap.size < x)
def GivePost (base g : Nat) (f : List Nat) (L l : List ByteArray) (w : World) (e : Ending) (w' : World) : Prop :=
 ∃ v f', e = .returned (.tuple #[v, .int .i64 0]) ∧ w'.ownsRow w.heap.size 3 1 v l.length (nats (inter L l).2) ∧ TabF w' base f' g (inter L l).1 ∧ Wrote w w' f ∧ ∀ x ∈ f', x ∈ f ∨ w.heap.size ≤ x
theorem NumB.put {w w2 : World} {nb n k m : Nat} {ns : List Nat} (h : NumB w nb n k ns) (hw : w2.heap[nb]? = w.heap[nb]?) (hk : k < n) : ∃ cur, w2.heap[nb]? = some (.cells cur 3 (0, 0)) ∧ k < cur.size ∧ NumB (w2.setCell ⟨nb, k, none⟩ (.int .i64 (m : Int))) nb n (k + 1) (ns ++ [m]) := by
 obtain ⟨cur, h1, h2, h3⟩ := h
 refine ⟨cur, hw.trans h1, by omega, _, blk_set (hw.trans h1) k _, by simpa using h2, ?_⟩
 have hk' : k < cur.size := by omega
 rw [List.take_succ_eq_append_getElem (by simpa using hk')]
 have e1 : (cur.setIfInBounds k (.int .i64 (m : Int))).toList.take k = cur.toList.take k := by
  rw [Array.toList_setIfInBounds, List.take_set_of_le (Nat.le_refl _)]
 rw [e1, h3]
 simp [nats]
set_option maxHeartbeats 1000000 in
set_option maxRecDepth 100000 in
theorem give_unfit (g : Nat) (l : List ByteArray) (A : Option Addr) (n c B : Nat) (w : World) (hr : Rd w B A (strs l)) (hn : l.length = n) (hl : n ≤ 1000000) (hu : l.any unf = true) :
  Calls Tryz.prog 53 #[.pointer (some ⟨g, 0, none⟩), .slice A n c] w fun e w' => e = .returned (.tuple #[.slice none 0 0, .int .i64 50]) ∧ w = w' := by
 have HC := hide (unf_has l w B A n c hn (by omega) hr)
 rw [hu] at HC
 clear hu hr hn
 go_enter Tryz.func53, Tryz.ntmps53
 go_wp2_with (go_at_call 91; refine HC.out.mono ?_; rintro e w1 ⟨rfl, rfl⟩)
 go_ret2
 exact ⟨rfl, rfl⟩
set_option maxHeartbeats 4000000 in
set_option maxRecDepth 100000 in
theorem give_any (base g : Nat) (f : List Nat) (L l : List ByteArray) (A : Option Addr) (n c B : Nat) (w : World) (h : TabF w base f g L) (hr : Rd w B A (strs l)) (hB : B ≤ w.heap.size) (hA : ∀ ad, A = some ad → l ≠ [] → ad.block ∉ f)
  (hn : l.length = n) (hl : n ≤ 60000) (hu : l.any unf = false) (hL : L.length ≤ 5000) (hb : base ≤ w.heap.size) :
  Calls Tryz.prog 53 #[.pointer (some ⟨g, 0, none⟩), .slice A n c] w (GivePost base g f L l w) := by
 subst hn
 have HC := hide (unf_has l w B A l.length c rfl (by omega) hr)
 rw [hu] at HC
 have HU : Hid (∀ s ∈ l, s.size ≤ 64) := hide (fun s hs => unf_size (by
  rw [Bool.eq_false_iff]
  intro hc
  rw [List.any_eq_true.2 ⟨s, hs, hc⟩] at hu
  cases hu))
 have HR := hide hr
 have HB := hide hB
 have HA := hide hA
 have HT := hide h
 have HBS := hide hb
 obtain ⟨i1, hi1, hiz, his, hib⟩ := info_parts Tryz.infoI
 have HI1 := hide hi1
 have HIZ := hide hiz
 have HIS := hide his
 have HIB : Hid (i1.bytes * l.length ≤ 281474976710656) := hide (by rw [hib]; omega)
 have HML : Hid (l.length ≤ maxLen) := hide (by unfold maxLen; omega)
 obtain ⟨A0, c0, mb0, h0, h1, _, _, _, _, _, hf0⟩ := h.open_
 clear hi1 hiz his hib hu hr hB hA h hb h1 hf0
 go_enter Tryz.func53, Tryz.ntmps53
 go_wp2_with (first
  | (go_at_call 91; refine HC.out.mono ?_; rintro e w1 ⟨rfl, rfl⟩)
  | (refine wpList_make_full _ rfl (.tmp 20) (.tmp 20) 55 rfl w.heap.size 3 i1 (.int .i64 0) 1 Tryz.underlying55 HI1.out HIZ.out HIS.out .i64 .i64 _ _ l.length rfl rfl rfl rfl HIB.out HML.out (Nat.le_refl _) ?_; intro w1 ho1 hg1; have HO1 := hide ho1; have HG1 := hide hg1; clear ho1 hg1))
 go_loopw [8, 9, 10, 11, 24] (fun _ _ _ _ i wr => ∃ k : Nat, k ≤ l.length ∧ i = .int .i64 (k : Int) ∧ GiveI base g w.heap.size l.length f L l w k wr) (fun _ _ _ _ i _ => l.length - (intOf i).toNat)
 case atStart =>
  obtain ⟨cur, hc1, hc2, hc3, _⟩ := own_whole HO1.out
  exact ⟨0, Nat.zero_le _, rfl, ⟨cur, hc1, hc3, rfl⟩, f, HT.out.grown HG1.out, Wrote.of_gb HG1.out _, fun x hx => .inl hx⟩
 case round =>
  obtain ⟨k, hk, rfl, hI⟩ := hrel
  have HI := hide hI
  obtain ⟨hN, f', hT, hW, hF⟩ := hI
  have hsize := inter_take_size L l k hk
  by_cases hlt : k < l.length
  ·have hlt1 : (k : Int) < (l.length : Int) := by omega
   have hnb : w.heap.size ∉ f' := by
    obtain ⟨cur, h1, _⟩ := hN
    exact hT.not_row h1 (by decide) (by decide)
   have hrd : Rd wr B A (strs l) := hW.rd HR.out (fun ad ha hm => by
    rcases List.mem_cons.1 hm with e | e
    ·obtain ⟨ad', e1, hb', _⟩ := HR.out (by rintro e2; have := congrArg List.length e2; rw [strs_length] at this; simp at this; rw [this] at hlt; simp at hlt)
     rw [ha] at e1
     injection e1 with e1
     subst e1
     have := HB.out
     omega
    ·exact HA.out ad ha (by rintro rfl; simp at hlt) e) HB.out
   obtain ⟨ad, rfl, _, hcell⟩ := hrd.str hlt
   have HSM := hide (HU.out _ (List.getElem_mem hlt))
   have HIT := hide (inter_take L l k hlt)
   generalize hq : inter L (l.take k) = q at *
   obtain ⟨M, ns⟩ := q
   dsimp only at hT hN hsize
   have HQ := hide hq
   clear hq
   obtain ⟨A1, c1, mb, q0, q1, _, _, _, hmap, _, hf1⟩ := hT.open_
   clear hf1
   generalize l[k] = s at hcell HSM HIT
   have HF := hide hF
   have HW := hide hW
   have HTT := hide hT
   have HNN := hide hN
   have HNB := hide hnb
   have HMAP := hide hmap
   clear hN hT hW hF hmap hnb hrd
   cases hnum : numOf M s with
   | some m =>
    have HL : (Instr.lookup 78 (.map (some mb)) (.string s) true).run Tryz.prog wr = .ok (.tuple #[.int .i64 (m : Int), .bool true]) wr := HMAP.out.ok_yes (P := Tryz.prog) Tryz.dstr Tryz.underlying78 (zint wr) (k := s) hnum
    obtain ⟨cur, hp1, hp2, hp3⟩ := HNN.out.put (m := m) (w2 := wr) rfl hlt
    obtain ⟨u0, p0⟩ : ∃ u, wr.cell? ⟨w.heap.size, k, none⟩ = some u := ⟨cur[k], by rw [blk_cell hp1]; simp⟩
    have z0 := blk_frozen hp1 k
    have HE := hide (step1_yes (q := (M, ns)) hnum)
    have HP3 := hide hp3
    clear hnum hp1 hp3
    go_wp2_with fail
    go_roundw
    case rel =>
     have hw2 := Wrote.of_row (gb_setCell (gb_refl wr (some w.heap.size)) (.inl rfl) (p := ⟨w.heap.size, k, none⟩) (.int .i64 (m : Int))) (f := [w.heap.size]) (by simp)
     refine ⟨k + 1, by omega, by go_num, ?_, f', ?_, HW.out.trans hw2 (fun x hx => .inl (by simp at hx; simp [hx])), HF.out⟩
     ·rw [HIT.out, HE.out]; exact HP3.out
     ·rw [HIT.out, HE.out]; exact HTT.out.wrote hw2 (fun x hx => by simp at hx; rw [hx]; exact HNB.out)
    case measure => simp [intOf]; omega
   | none =>
    have HL : (Instr.lookup 78 (.map (some mb)) (.string s) true).run Tryz.prog wr = .ok (.tuple #[.int .i64 0, .bool false]) wr := HMAP.out.ok_no (P := Tryz.prog) Tryz.dstr Tryz.underlying78 (zint wr) (k := s) hnum
    have HE := hide (step1_no (q := (M, ns)) hnum)
    have HWS := hide HW.out.size
    have HEN := hide (enter_any base g f' M s wr HTT.out hnum HSM.out (by omega) (by have := HBS.out; have := HWS.out; omega))
    have hlen : ((M.length : Int) == 65536) = false := beq_eq_false_iff_ne.2 (by omega)
    clear hnum
    go_wp2_with (go_at_call 93; refine HEN.out.mono ?_; rintro e w2 ⟨rfl, f2, ht2, hw2, hf2⟩; have HT2 := hide ht2; have HW2 := hide hw2; have HF2 := hide hf2; obtain ⟨cur, hp1, hp2, hp3⟩ := HNN.out.put (m := M.length) (w2 := w2) (hw2.block _ (by obtain ⟨cur, h1, _⟩ := HNN.out; exact blk_lt h1) HNB.out) hlt; have p0 : w2.cell? ⟨w.heap.size, k, none⟩ = some (cur[k]) := (by rw [blk_cell hp1]; simp); have z0 := blk_frozen hp1 k; have HP3 := hide hp3; have HP1 := hide hp1; clear ht2 hw2 hf2 hp1 hp3)
    go_roundw
    case rel =>
     have hw3 := Wrote.of_row (gb_setCell (gb_refl w2 (some w.heap.size)) (.inl rfl) (p := ⟨w.heap.size, k, none⟩) (.int .i64 (M.length : Int))) (f := [w.heap.size]) (by simp)
     have hs2 := HWS.out
     refine ⟨k + 1, by omega, by go_num, ?_, f2, ?_, (HW.out.trans HW2.out (fun x hx => ?_)).trans hw3 (fun x hx => .inl (by simp at hx; simp [hx])), fun x hx => ?_⟩
     ·rw [HIT.out, HE.out]; exact HP3.out
     ·rw [HIT.out, HE.out]; exact HT2.out.wrote hw3 (fun x hx => by simp at hx; rw [hx]; exact HT2.out.not_row HP1.out (by decide) (by decide))
     ·rcases HF.out x hx with h | h
      ·exact .inl (by simp [h])
      ·exact .inr (by omega)
     ·rcases HF2.out x hx with h | h
      ·exact HF.out x h
      ·right
       obtain ⟨cur, h1, _⟩ := HNN.out
       have := blk_lt h1
       omega
    case measure => simp [intOf]; omega
  ·obtain rfl : k = l.length := by omega
   have hlt1 : ¬ (l.length : Int) < (l.length : Int) := by omega
   have HF := hide hF
   have HW := hide hW
   have HTT := hide hT
   have HNN := hide hN
   clear hN hT hW hF hsize
   go_wp2_with fail
   go_ret2
   obtain ⟨cur, h1, h2, h3⟩ := HNN.out
   have hT := HTT.out
   rw [List.take_of_length_le (by rw [Array.length_toList]; omega)] at h3
   rw [List.take_length] at h3 hT
   refine ⟨_, f', rfl, ?_, hT, ?_, fun x hx => (HF.out x hx).imp id (fun h => by omega)⟩
   ·rw [← h3]
    exact own_of_cells h1 h2 (Nat.le_refl _) HML.out
   ·exact ⟨HW.out.os, HW.out.tape, HW.out.output, HW.out.size, fun x hx hn => HW.out.block x hx (fun hm => by
     rcases List.mem_cons.1 hm with e | e
     ·omega
     ·exact hn e)⟩
end Go.Proofs.YtmcmlkglkpbnpaaGreat
namespace Go.Proofs.YtmcmlkglkpbnpaaGreat
open Go.RowKit
def cutY (A : Option Addr) (k c sz : Nat) : Option Addr := if c = k then A else A.map (·.add (k * sz))
theorem run_cutY {P : Program} (w : World) {t e : TypeId} {i : TypeInfo} (A : Option Addr) (n c k sz : Nat) (ht : P.underlying t = some (.slice e)) (hi : P.info? e = some i) (hs : i.size = sz) (hk : k ≤ n) (_hn : n ≤ c) :
  (Instr.slice t (.slice A n c) (some (.int .i64 (k : Int))) none none).run P w = .ok (.slice (cutY A k c sz) (n - k) (c - k)) w := by
 subst hs
 simp [Instr.slice, Instr.sliceBounds, run_underlying ht, Instr.sliceBound, asIntOf, hk, sizeOf, typeInfo, hi, Result.andThen, cutY]
theorem Rd.cutS {w : World} {B k c : Nat} {A : Option Addr} {L : List ByteArray} (h : Rd w B A (strs L)) (hk : k ≤ L.length) (hc : L.length ≤ c) : Rd w B (cutY A k c 1) (strs (L.drop k)) := by
 have := h.cut (k := k) (cap := c) (by rw [strs_length]; exact hk) (by rw [strs_length]; exact hc)
 have e1 : (strs L).drop k = strs (L.drop k) := by simp [strs]
 rw [e1] at this
 have e : (fun x : Addr => x.add (k * 1)) = (fun x : Addr => x.add k) := by rw [Nat.mul_one]
 unfold cutY
 rw [e]
 exact this
theorem putText_one (s : ByteArray) (w : World) (hs : s.size ≤ 64) :
  Calls Tryz.prog 95 #[.slice none 0 0, .slice (some ⟨w.heap.size, 0, none⟩) 1 1] (w.alloc (.cells #[.string s] 9)) fun e w' =>
   ∃ A c, e = .returned (.slice A (putStr s).length c) ∧ (putStr s).length ≤ c ∧ c ≤ maxLen ∧ Rd w' w'.heap.size A (u8s (putStr s)) ∧ w.grownBy w' none := by
 have h := putText_any none (some ⟨w.heap.size, 0, none⟩) 0 1 [] [s] (w.alloc (.cells #[.string s] 9)) Rd.nil_ ((Rd.new w #[.string s] 9 (strs [s]) rfl).more (by simp)) (by simp) (by simp) (by simp [sumLen]; omega)
 refine h.mono fun e w' ⟨v, he, ho, hg⟩ => ?_
 rw [List.nil_append, putStrs_one] at ho
 obtain ⟨A, c, rfl, h1, h2, h3⟩ := own_form ho
 exact ⟨A, c, he, h1, h2, h3, gb_trans (gb_alloc (gb_refl w none) _) hg (.inl rfl)⟩
theorem seal_one {A : Option Addr} {c n : Nat} {bs : List UInt8} {w : World} (hr : Rd w w.heap.size A (u8s bs)) (hn : bs.length = n) (hc : n ≤ c) (hm : c ≤ maxLen) (h : n ≤ 1048576) :
  Calls Tryz.prog 94 #[.slice (some ⟨w.heap.size, 0, none⟩) 1 1] (w.alloc (.cells #[.slice A n c] 49)) fun e w' =>
   ∃ A' c', e = .returned (.tuple #[.slice A' (frame bs).length c', .int .i64 0]) ∧ (frame bs).length ≤ c' ∧ c' ≤ maxLen ∧ Rd w' w'.heap.size A' (u8s (frame bs)) ∧ w.grownBy w' none := by
 subst hn
 have h := seal_ok _ 1 [(A, c, bs)] _ (RdB.one 49 hr hc hm) (by simp) (by rw [catB_one]; exact h)
 rw [catB_one] at h
 refine h.mono fun e w' ⟨v, he, ho, hg⟩ => ?_
 obtain ⟨A', c', rfl, h1, h2, h3⟩ := own_form ho
 exact ⟨A', c', he, h1, h2, h3, gb_trans (gb_alloc (gb_refl w none) _) hg (.inl rfl)⟩
set_option maxHeartbeats 4000000 in
set_option maxRecDepth 100000 in
theorem bytesFrom_any (base g k : Nat) (f : List Nat) (L : List ByteArray) (w : World) (h : TabF w base f g L) (hk : k ≤ L.length) (hL : L.length ≤ 70000) (hs : ∀ s ∈ L, s.size ≤ 64) :
  Calls Tryz.prog 54 #[.pointer (some ⟨g, 0, none⟩), .int .i64 (k : Int)] w (NewBytes w.heap.size (syB (L.drop k)) w) := by
 obtain ⟨A, c, mb, h0, h1, hnc, hcm, hrd, hm, hB, hf⟩ := h.open_
 obtain ⟨i1, hi1, hiz, his, hib⟩ := info_parts Tryz.infoTy
 have hcut := run_cutY (P := Tryz.prog) w (t := 33) A L.length c k 1 Tryz.underlying33 hi1 his hk hnc
 have hrc := hrd.cutS hk hnc
 have hlen : (L.drop k).length = L.length - k := List.length_drop
 have HS : Hid (∀ s ∈ L.drop k, s.size ≤ 64) := hide (fun s h => hs s (List.mem_of_mem_drop h))
 generalize cutY A k c 1 = A' at hcut hrc
 generalize L.drop k = M at hrc hlen HS
 rw [← hlen] at hcut
 have HR := hide hrc
 have hML : M.length ≤ 70000 := by omega
 clear hf hB hm hi1 hiz his hib hs h hrc hlen hrd h1
 go_enter Tryz.func54, Tryz.ntmps54
 go_wp2_with fail
 go_loopw [5, 7, 8, 9, 17] (fun b _ _ _ i wr => ∃ j : Nat, j ≤ M.length ∧ i = .int .i64 (j : Int) ∧ wr.ownsRow w.heap.size 5 1 b (syB (M.take j)).length (u8s (syB (M.take j))) ∧ w.grownBy wr none) (fun _ _ _ _ i _ => M.length - (intOf i).toNat)
 case atStart => exact ⟨0, Nat.zero_le _, rfl, World.ownsRow_nil _ _ _ _, gb_refl w none⟩
 case round =>
  obtain ⟨j, hj, rfl, ho, hg⟩ := hrel
  have HO := hide ho
  have HG := hide hg
  have hgs := hg.size
  by_cases hlt : j < M.length
  ·have hlt1 : (j : Int) < (M.length : Int) := by omega
   obtain ⟨ad, rfl, _, hcell⟩ := (HR.out.grown hg (Nat.le_refl _) (by simp)).str hlt
   have HSZ := hide (HS.out _ (List.getElem_mem hlt))
   have HT := hide (syB_take M j hlt)
   have hsl := syB_length (M.take j) (fun s h => HS.out s (List.mem_of_mem_take h))
   have hsl2 : (M.take j).length ≤ 70000 := by rw [List.length_take]; omega
   have hfl := frame_short HSZ.out
   have hpl := putStr_short HSZ.out
   obtain ⟨sj, hsj⟩ : ∃ sj, sj = M[j] := ⟨_, rfl⟩
   rw [← hsj] at hcell HSZ HT hfl hpl
   clear hsj ho hg
   generalize syB (M.take j) = X at *
   go_wp2_with (first
    | (go_at_call 95; refine (putText_one sj wr HSZ.out).mono ?_; rintro e w1 ⟨A1, c1, rfl, hn1, hm1, hr1, hg1⟩; have HR1 := hide hr1; have HG1 := hide hg1; have HM1 := hide hm1; clear hr1 hg1 hm1)
    | (go_at_call 94; refine (seal_one HR1.out rfl hn1 HM1.out (by omega)).mono ?_; rintro e w2 ⟨A2, c2, rfl, hn2, hm2, hr2, hg2⟩; have HR2 := hide hr2; have HG2 := hide hg2; have HM2 := hide hm2; have HO2 := hide (own_grown (own_grown HO.out HG1.out) hg2); have hs2 := hg2.size; have hs1 := HG1.out.size; clear hr2 hg2 hm2)
    | (at_builtin; refine app8 HO2.out HR2.out (u8s_length _) (u8s_cell _) (by omega) (by omega) rfl rfl rfl rfl ?_; intro v3 w3 ho3 hg3 hw3; have HO3 := hide ho3; have HG3 := hide hg3; clear ho3 hg3 hw3))
   go_roundw
   case rel =>
    refine ⟨j + 1, by omega, by go_num, ?_, gb_new (gb_trans HG.out (gb_trans HG1.out HG2.out (.inl rfl)) (.inl rfl)) HO2.out HG3.out⟩
    rw [HT.out, List.length_append, u8s_append]
    exact HO3.out
   case measure => simp [intOf]; omega
  ·obtain rfl : j = M.length := by omega
   have hlt1 : ¬ (M.length : Int) < (M.length : Int) := by omega
   have HTK := hide (show M.take M.length = M from List.take_length)
   clear ho hg
   go_wp2_with fail
   go_ret
   exact ⟨_, rfl, by have := HO.out; rwa [HTK.out] at this, HG.out⟩
set_option maxHeartbeats 1000000 in
set_option maxRecDepth 100000 in
theorem bytes_any (base g : Nat) (f : List Nat) (L : List ByteArray) (w : World) (h : TabF w base f g L) (h1 : 1 ≤ L.length) (hL : L.length ≤ 70000) (hs : ∀ s ∈ L, s.size ≤ 64) :
  Calls Tryz.prog 63 #[.pointer (some ⟨g, 0, none⟩)] w (NewBytes w.heap.size (syB (L.drop 1)) w) := by
 have HC := hide (bytesFrom_any base g 1 f L w h h1 hL hs)
 clear h h1 hs
 go_enter Tryz.func63, Tryz.ntmps63
 go_wp2_with (go_at_call 54; refine HC.out.mono ?_; rintro e w1 ⟨v, rfl, ho, hg⟩; have HO := hide ho; have HG := hide hg; clear ho hg)
 go_ret
 exact ⟨v, rfl, HO.out, HG.out⟩
set_option maxHeartbeats 1000000 in
set_option maxRecDepth 100000 in
theorem number_any (base g : Nat) (f : List Nat) (L : List ByteArray) (s : ByteArray) (w : World) (h : TabF w base f g L) :
  Calls Tryz.prog 59 #[.pointer (some ⟨g, 0, none⟩), .string s] w fun e w' => e = .returned (.tuple #[.int .i64 (((numOf L s).getD 0 : Nat) : Int), .bool (numOf L s).isSome]) ∧ w = w' := by
 obtain ⟨A, c, mb, h0, h1, hnc, hcm, hrd, hm, hB, hf⟩ := h.open_
 cases hnum : numOf L s with
 | some m =>
  have HL : (Instr.lookup 78 (.map (some mb)) (.string s) true).run Tryz.prog w = .ok (.tuple #[.int .i64 (m : Int), .bool true]) w := hm.ok_yes (P := Tryz.prog) Tryz.dstr Tryz.underlying78 (zint w) (k := s) hnum
  clear hf hB hm hrd h hnum
  go_enter Tryz.func59, Tryz.ntmps59
  go_wp2_with fail
  go_ret2
  exact ⟨rfl, rfl⟩
 | none =>
  have HL : (Instr.lookup 78 (.map (some mb)) (.string s) true).run Tryz.prog w = .ok (.tuple #[.int .i64 0, .bool false]) w := hm.ok_no (P := Tryz.prog) Tryz.dstr Tryz.underlying78 (zint w) (k := s) hnum
  clear hf hB hm hrd h hnum
  go_enter Tryz.func59, Tryz.ntmps59
  go_wp2_with fail
  go_ret2
  exact ⟨rfl, rfl⟩
set_option maxHeartbeats 1000000 in
set_option maxRecDepth 100000 in
theorem symbol_ok (base g i : Nat) (f : List Nat) (L : List ByteArray) (w : World) (h : TabF w base f g L) (hi : i < L.length) :
  Calls Tryz.prog 28 #[.pointer (some ⟨g, 0, none⟩), .int .i64 (i : Int)] w fun e w' => e = .returned (.tuple #[.string L[i], .int .i64 0]) ∧ w = w' := by
 obtain ⟨A, c, mb, h0, h1, hnc, hcm, hrd, hm, hB, hf⟩ := h.open_
 obtain ⟨ad, rfl, _, hcell⟩ := hrd.str hi
 have hi1 : ¬ (i : Int) < 0 := by omega
 have hi2 : ¬ L.length ≤ i := by omega
 have hi3 : (i : Int) < (L.length : Int) := by omega
 clear hf hB hm hrd h h1
 go_enter Tryz.func28, Tryz.ntmps28
 go_wp2_with fail
 go_ret2
 exact ⟨rfl, rfl⟩
set_option maxHeartbeats 1000000 in
set_option maxRecDepth 100000 in
theorem symbol_bad (base g : Nat) (i : Int) (f : List Nat) (L : List ByteArray) (w : World) (h : TabF w base f g L) (hi : i < 0 ∨ (L.length : Int) ≤ i) :
  Calls Tryz.prog 28 #[.pointer (some ⟨g, 0, none⟩), .int .i64 i] w fun e w' => e = .returned (.tuple #[.string ⟨#[]⟩, .int .i64 50]) ∧ w = w' := by
 obtain ⟨A, c, mb, h0, h1, hnc, hcm, hrd, hm, hB, hf⟩ := h.open_
 clear hf hB hm hrd h h1
 rcases hi with hi | hi
 ·go_enter Tryz.func28, Tryz.ntmps28
  go_wp2_with fail
  go_ret2
  exact ⟨rfl, rfl⟩
 ·have hi1 : ¬ i < 0 := by omega
  go_enter Tryz.func28, Tryz.ntmps28
  go_wp2_with fail
  go_ret2
  exact ⟨rfl, rfl⟩
set_option maxHeartbeats 1000000 in
set_option maxRecDepth 100000 in
theorem len_any (base g : Nat) (f : List Nat) (L : List ByteArray) (w : World) (h : TabF w base f g L) :
  Calls Tryz.prog 30 #[.pointer (some ⟨g, 0, none⟩)] w fun e w' => e = .returned (.int .i64 (L.length : Int)) ∧ w = w' := by
 obtain ⟨A, c, mb, h0, h1, hnc, hcm, hrd, hm, hB, hf⟩ := h.open_
 clear hf hB hm hrd h h1
 go_enter Tryz.func30, Tryz.ntmps30
 go_wp2_with fail
 go_ret
 exact ⟨rfl, rfl⟩
end Go.Proofs.YtmcmlkglkpbnpaaGreat
