/-
  symtab's give, the greatest number of symbols in sight: with an error none is new.
-/
import Derived.Test.YtmcmlkglkpbnpaaGreatQal
import Derived.Lib.SliceRun
import Derived.Deep.Upon
import Derived.Laws.IdiomCopy
namespace Go.Proofs.YtmcmlkglkpbnpaaGreat
open Go.RowKit
theorem enumF_app : ∀ (L r : List ByteArray) (k : Nat), enumF k (L ++ r) = enumF k L ++ enumF (k + L.length) r
 | [], r, k => by simp [enumF]
 | x :: L, r, k => by
  simp only [List.cons_append, enumF, enumF_app L r (k + 1), List.length_cons]
  rw [show k + 1 + L.length = k + (L.length + 1) by omega]
theorem adel_right {A B : List (ByteArray × Nat)} {s : ByteArray} (h : aget A s = none) : adel (A ++ B) s = A ++ adel B s := by
 induction A with
 | nil => rfl
 | cons x A ih =>
  obtain ⟨a, u⟩ := x
  simp only [aget] at h
  by_cases e : a = s
  ·rw [if_pos e] at h; cases h
  ·rw [if_neg e] at h
   rw [List.cons_append]
   simp only [adel, if_neg e]
   rw [ih h, List.cons_append]
def delE (L r : List ByteArray) (j : Nat) : List (ByteArray × Nat) := enumF 0 L ++ enumF (L.length + j) (r.drop j)
theorem delE_zero (L r : List ByteArray) : delE L r 0 = enumF 0 (L ++ r) := by
 unfold delE
 rw [enumF_app, List.drop_zero, Nat.zero_add, Nat.add_zero]
theorem delE_all (L r : List ByteArray) : delE L r r.length = enumF 0 L := by
 unfold delE
 rw [List.drop_length]
 simp [enumF]
theorem delE_step {L r : List ByteArray} {j : Nat} (hj : j < r.length) (hn : r[j] ∉ L) : adel (delE L r j) r[j] = delE L r (j + 1) := by
 unfold delE
 rw [adel_right (enumF_none _ L 0 hn), List.drop_eq_getElem_cons hj]
 simp only [enumF, adel, if_true]
 rfl
theorem setCells_gb (b : Nat) : ∀ (vs : List Value) (o : Nat) (w : World), w.grownBy (w.setCells b o vs) (some b)
 | [], _, w => gb_refl w (some b)
 | v :: vs, o, w => gb_trans (gb_setCell (gb_refl w (some b)) (.inl rfl) (p := ⟨b, o, none⟩) v) (setCells_gb b vs (o + 1) (w.setCell ⟨b, o, none⟩ v)) (.inl rfl)
theorem setCells_blk (b : Nat) : ∀ (vs : List Value) (o : Nat) (w : World) (cur : Array Value) (t : TypeId), w.heap[b]? = some (.cells cur t (0, 0)) → ∃ cur', (w.setCells b o vs).heap[b]? = some (.cells cur' t (0, 0)) ∧ cur'.size = cur.size ∧ cur'.toList.take o = cur.toList.take o
 | [], _, _, cur, _, h => ⟨cur, h, rfl, rfl⟩
 | v :: vs, o, w, cur, t, h => by
  obtain ⟨cur', h1, h2, h3⟩ := setCells_blk b vs (o + 1) (w.setCell ⟨b, o, none⟩ v) (cur.setIfInBounds o v) t (blk_set h o v)
  refine ⟨cur', h1, by rw [h2, Array.size_setIfInBounds], ?_⟩
  have e : (cur'.toList.take (o + 1)).take o = ((cur.setIfInBounds o v).toList.take (o + 1)).take o := by rw [h3]
  rw [List.take_take, List.take_take, Nat.min_eq_left (Nat.le_succ o)] at e
  rw [e, Array.toList_setIfInBounds, List.take_set_of_le (Nat.le_refl o)]
theorem run_cut_to_ {P : Program} (w : World) {t e : TypeId} {i : TypeInfo} (A : Option Addr) (n c k : Nat) (ht : P.underlying t = some (.slice e)) (hi : P.info? e = some i) (hk : k ≤ n) (hn : n ≤ c) :
  (Instr.slice t (.slice A n c) none (some (.int .i64 (k : Int))) none).run P w = .ok (.slice A k c) w := by
 have h2 : k ≤ c := by omega
 simp [Instr.slice, Instr.sliceBounds, run_underlying ht, Instr.sliceBound, asIntOf, h2, sizeOf, typeInfo, hi, Result.andThen]
 intro _
 cases A with
 | none => rfl
 | some x => simp only [Option.map_some]; congr 1
theorem clear_run {base : Nat} {A : Option Addr} {c : Nat} {L r : List ByteArray} {w wx : World} (h : w.ownsRow base 9 1 (.slice A (L ++ r).length c) (L ++ r).length (strs (L ++ r))) (hx : ∀ i, (Value.slice A (L ++ r).length c).ownBlock = some i → wx.heap[i]? = w.heap[i]?) :
  ∃ w2, (∀ ty, (Builtin.clear_ #[33] ty #[.slice (cutY A L.length c 1) r.length (c - L.length)]).run Tryz.prog wx = .ok (.tuple #[]) w2) ∧ wx.grownBy w2 (Value.slice A (L ++ r).length c).ownBlock ∧ w2.ownsRow base 9 1 (.slice A L.length c) L.length (strs L) := by
 have hsl : (strs L).length = L.length * 1 := by rw [strs_length, Nat.mul_one]
 have htk : (strs (L ++ r)).take L.length = strs L := by
  unfold strs
  rw [List.map_append, List.take_left' (by rw [List.length_map])]
 rcases h.2 with ⟨hv, h0⟩ | ⟨b, cap, cur, hv, hb, hg, hn, hc, hs, ht⟩
 ·injection hv with h1 h2 h3
  subst h1
  subst h3
  have hr0 : r.length = 0 := by rw [List.length_append] at h0; omega
  have hl0 : L.length = 0 := by rw [List.length_append] at h0; omega
  refine ⟨wx, fun ty => ?_, gb_refl wx _, ⟨hsl, .inl ⟨by rw [hl0], hl0⟩⟩⟩
  rw [hr0, hl0]
  simp [Builtin.clear_, run_underlying Tryz.underlying33, cutY]
 ·injection hv with h1 h2 h3
  subst h1
  subst h3
  have hgx : wx.heap[b]? = some (.cells cur 9 (0, 0)) := (hx b rfl).trans hg
  rw [Nat.mul_one] at hs ht
  by_cases hr : r.length = 0
  ·refine ⟨wx, fun ty => ?_, gb_refl wx _, ⟨hsl, .inr ⟨b, c, cur, rfl, hb, hgx, by rw [List.length_append] at hn; omega, hc, by rw [Nat.mul_one]; exact hs, ?_⟩⟩⟩
   ·rw [hr]
    unfold cutY
    split <;> simp [Builtin.clear_, run_underlying Tryz.underlying33]
   ·rw [Nat.mul_one, show L.length = (L ++ r).length by rw [List.length_append]; omega, ht, ← htk, List.take_of_length_le (by rw [strs_length, List.length_append]; omega)]
  ·have hlt : L.length < c := by rw [List.length_append] at hn; omega
   have hcut : cutY (some ⟨b, 0, none⟩) L.length c 1 = some ⟨b, L.length, none⟩ := by
    unfold cutY
    rw [if_neg (by omega)]
    simp [Addr.add]
    intro h
    rw [h]
    rfl
   obtain ⟨cur', k1, k2, k3⟩ := setCells_blk b (List.replicate r.length (.string ⟨#[]⟩)) L.length wx cur 9 hgx
   refine ⟨wx.setCells b L.length (List.replicate r.length (.string ⟨#[]⟩)), fun ty => ?_, setCells_gb b _ _ wx, ⟨hsl, .inr ⟨b, c, cur', rfl, hb, k1, by omega, hc, by rw [k2, Nat.mul_one]; exact hs, ?_⟩⟩⟩
   ·rw [hcut]
    refine Lib.run_clear_slice (P := Tryz.prog) wx 33 9 ty (.string ⟨#[]⟩) Tryz.underlying33 (fun w => Tryz.zeroValue9 w) rfl rfl b L.length r.length (c - L.length) (by omega) (fun j hj => ?_) (fun j hj => blk_frozen hgx _)
    rw [blk_cell hgx]
    have : L.length + j < cur.size := by rw [hs]; rw [List.length_append] at hn; omega
    simp [this]
   ·rw [Nat.mul_one, k3, ← htk, ← ht, List.take_take, Nat.min_eq_left (by rw [List.length_append]; omega)]
def ForgetPost (base g : Nat) (f : List Nat) (L : List ByteArray) (w : World) (e : Ending) (w' : World) : Prop :=
 e = .returned (.tuple #[]) ∧ TabF w' base f g L ∧ Wrote w w' f
set_option maxHeartbeats 4000000 in
set_option maxRecDepth 100000 in
theorem forget_any (base g : Nat) (f : List Nat) (L r : List ByteArray) (w : World) (h : TabF w base f g (L ++ r)) (hnd : (L ++ r).Nodup) (hL : (L ++ r).length ≤ 1000000) :
  Calls Tryz.prog 55 #[.pointer (some ⟨g, 0, none⟩), .int .i64 (L.length : Int)] w (ForgetPost base g f L w) := by
 obtain ⟨A, c, mb, h0, h1, hnc, hcm, hrd, hmap, hB, hf⟩ := h.open_
 obtain ⟨i1, hi1, hiz, his, hib⟩ := info_parts Tryz.infoTy
 have hlenN : (L ++ r).length = L.length + r.length := List.length_append
 have hcut := fun wx : World => run_cutY (P := Tryz.prog) wx (t := 33) A (L ++ r).length c L.length 1 Tryz.underlying33 hi1 his (by rw [hlenN]; omega) hnc
 have hcut2 := fun wx : World => run_cut_to_ (P := Tryz.prog) wx (t := 33) A (L ++ r).length c L.length Tryz.underlying33 hi1 (by rw [hlenN]; omega) hnc
 have hrc := hrd.cutS (k := L.length) (by rw [hlenN]; omega) hnc
 rw [List.drop_left] at hrc
 have hsub : (L ++ r).length - L.length = r.length := by omega
 simp only [hsub] at hcut
 have HCLR := hide (fun wx hx => clear_run (wx := wx) hB.2.1 hx)
 have hne := hB.ne
 obtain ⟨A', hA'⟩ : ∃ A', A' = cutY A L.length c 1 := ⟨_, rfl⟩
 rw [← hA'] at hcut hrc HCLR
 have hnm : ∀ ad, A' = some ad → ad.block ≠ mb := fun ad ha e => by
  rw [hA'] at ha
  unfold cutY at ha
  cases A with
  | none => simp at ha
  | some a0 =>
   have : ad.block = a0.block := by
    split at ha
    ·injection ha with ha; rw [ha]
    ·simp only [Option.map_some, Option.some.injEq] at ha
     rw [← ha]
     exact add_block a0 _
   exact hne.2.2 (by show some a0.block = some mb; rw [← this, e])
 rw [← delE_zero] at hmap
 have HMP := hide hmap
 have HNM := hide hnm
 have HR := hide hrc
 have HB := hide hB
 have HF := hide hf
 have HND := hide hnd
 have HNE := hide hne
 have hr1 : r.length ≤ 1000000 := by omega
 have HBL := hide hB.1
 clear h hmap hrc hB hf hnd hA' hrd hi1 hiz his hib hcm hL hne hnm
 generalize (L ++ r).length = N at hcut hcut2 h0 HCLR HB HF HNE HBL
 clear hsub hlenN hnc
 go_enter Tryz.func55, Tryz.ntmps55
 go_wp2_with fail
 go_loopw [13] (fun i wr => ∃ j : Nat, i = .int .i64 (j : Int) ∧ j ≤ r.length ∧ MapAt encY wr mb (delE L r j) ∧ w.grownBy wr (some mb)) (fun i _ => r.length - (intOf i).toNat)
 case atStart => exact ⟨0, rfl, Nat.zero_le _, HMP.out, gb_refl w (some mb)⟩
 case round =>
  obtain ⟨j, rfl, hj, hm, hg⟩ := hrel
  have HM := hide hm
  have HG := hide hg
  have hbl : wr.heap[g]? = some (.cells #[.slice A N c, .map (some mb)] 140 (0, 0)) := blk_keep HBL.out hg (fun e => HNE.out.1 (by injection e))
  have q0 : wr.cell? ⟨g, 0, none⟩ = some (.slice A N c) := by rw [blk_cell hbl]; rfl
  have q1 : wr.cell? ⟨g, 1, none⟩ = some (.map (some mb)) := by rw [blk_cell hbl]; rfl
  have HBL2 := hide hbl
  by_cases hlt : j < r.length
  ·have hlt1 : (j : Int) < (r.length : Int) := by omega
   have hrd : Rd wr w.heap.size A' (strs r) := fun hn => by
    obtain ⟨ad, e1, e2, e3⟩ := HR.out hn
    exact ⟨ad, e1, e2, fun k u hu => (World.cell?_of_block (a := ad.add k) (by rw [add_block]; exact HG.out.block _ e2 (fun e => HNM.out ad e1 (by injection e)))).trans (e3 k u hu)⟩
   obtain ⟨ad, rfl, _, hcell⟩ := hrd.str hlt
   have HST := hide (delE_step hlt (fun hmem => (List.nodup_append.1 HND.out).2.2 _ hmem _ (List.getElem_mem hlt) rfl))
   obtain ⟨s, hs⟩ : ∃ s, s = r[j] := ⟨_, rfl⟩
   rw [← hs] at hcell HST
   clear hs hm hg hbl hrd
   go_wp2_with (at_delete; refine wpList_del (E := encY) _ rfl _ _ 78 9 rfl 3 Tryz.dstr Tryz.underlying78 mb (delE L r j) rfl HM.out s rfl ?_; intro w2 hm2 hg2 hs2; have HM2 := hide hm2; have HG2 := hide (gb_trans HG.out hg2 (.inl rfl)); clear hm2 hg2 hs2)
   go_roundw
   case rel => exact ⟨j + 1, by go_num, by omega, by rw [← HST.out]; exact HM2.out, HG2.out⟩
   case measure => simp [intOf]; omega
  ·obtain rfl : j = r.length := by omega
   have hlt1 : ¬ (r.length : Int) < (r.length : Int) := by omega
   obtain ⟨w2, hcl, hg2, ho2⟩ := HCLR.out wr (fun i hi => HG.out.block i (by
    rcases HB.out.2.1.2 with ⟨hv, _⟩ | ⟨g', cap, cur, hv, _, hh, _⟩
    ·rw [hv] at hi; simp [Value.ownBlock] at hi
    ·rw [hv] at hi
     have : g' = i := by simpa [Value.ownBlock] using hi
     subst this
     exact blk_lt hh) (fun e => HNE.out.2.2 (by rw [hi]; exact e)))
   have hbl2 : w2.heap[g]? = some (.cells #[.slice A N c, .map (some mb)] 140 (0, 0)) := blk_keep HBL2.out hg2 (fun e => HNE.out.2.1 e.symm)
   have p0 : w2.cell? ⟨g, 0, none⟩ = some (.slice A N c) := by rw [blk_cell hbl2]; rfl
   have z0 := blk_frozen hbl2 0
   have HM2 := hide (by have := HM.out; rw [delE_all] at this; exact this.grown hg2 (fun e => HNE.out.2.2 e.symm))
   have HG2 := hide hg2
   have HO2 := hide ho2
   have HB2 := hide hbl2
   clear hm hg hbl hbl2 hg2 ho2
   go_wp2_with fail
   go_end0
   refine ⟨rfl, ⟨.slice A L.length c, mb, ⟨?_, ?_, ?_, HB.out.2.2.2.1, HB.out.2.2.2.2⟩, ?_⟩, ?_⟩
   ·have := blk_set HB2.out 0 (.slice A L.length c)
    simpa using this
   ·exact HO2.out.kept (gb_setCell (gb_refl w2 (some g)) (.inl rfl) (p := ⟨g, 0, none⟩) (.slice A L.length c)) (.inr fun e => HNE.out.2.1 (by cases A <;> simp [Value.ownBlock] at e ⊢ <;> exact e))
   ·exact HM2.out.setCell (p := ⟨g, 0, none⟩) HNE.out.1 _
   ·rw [HF.out]
    unfold tabF
    cases A <;> rfl
   ·rw [HF.out]
    exact ((Wrote.of_row HG.out (f := tabF g (.slice A N c) mb) (fun x hx => by injection hx with hx; subst hx; simp [tabF])).trans (Wrote.of_row HG2.out (f := tabF g (.slice A N c) mb) (fun x hx => by simp [tabF, hx])) (fun x hx => .inl hx)).trans (Wrote.of_row (gb_setCell (gb_refl w2 (some g)) (.inl rfl) (p := ⟨g, 0, none⟩) (.slice A L.length c)) (f := tabF g (.slice A N c) mb) (fun x hx => by injection hx with hx; subst hx; simp [tabF])) (fun x hx => .inl hx)
end Go.Proofs.YtmcmlkglkpbnpaaGreat
namespace Go.Proofs.YtmcmlkglkpbnpaaGreat
open Go.RowKit
theorem inter_more (L l : List ByteArray) (k : Nat) : (inter L (l.take k)).1.length ≤ (inter L l).1.length := by
 have e : inter L l = (l.drop k).foldl step1 (inter L (l.take k)) := by
  unfold inter
  rw [← List.foldl_append, List.take_append_drop]
 obtain ⟨r, hr, _⟩ := inter_pre (l.drop k) (inter L (l.take k)).1 (inter L (l.take k)).2
 have hr : ((l.drop k).foldl step1 (inter L (l.take k))).1 = (inter L (l.take k)).1 ++ r := hr
 rw [e, hr, List.length_append]
 omega
theorem Wrote.less {w w' : World} {f : List Nat} (h : Wrote w w' (w.heap.size :: f)) : Wrote w w' f :=
 ⟨h.os, h.tape, h.output, h.size, fun x hx hn => h.block x hx (fun hm => by
  rcases List.mem_cons.1 hm with e | e
  ·omega
  ·exact hn e)⟩
def GiveLim (base g : Nat) (f : List Nat) (L l : List ByteArray) (w : World) (e : Ending) (w' : World) : Prop :=
 ((inter L l).1.length ≤ 65536 ∧ GivePost base g f L l w e w') ∨
  (65536 < (inter L l).1.length ∧ e = .returned (.tuple #[.slice none 0 0, .int .i64 6]) ∧ ∃ f', TabF w' base f' g L ∧ Wrote w w' f ∧ ∀ x ∈ f', x ∈ f ∨ w.heap.size ≤ x)
set_option maxHeartbeats 4000000 in
set_option maxRecDepth 100000 in
theorem give_lim (base g : Nat) (f : List Nat) (L l : List ByteArray) (A : Option Addr) (n c B : Nat) (w : World) (h : TabF w base f g L) (hr : Rd w B A (strs l)) (hB : B ≤ w.heap.size) (hA : ∀ ad, A = some ad → l ≠ [] → ad.block ∉ f)
  (hn : l.length = n) (hl : n ≤ 60000) (hu : l.any unf = false) (hL : L.length ≤ 65536) (hnd : L.Nodup) (hb : base ≤ w.heap.size) :
  Calls Tryz.prog 53 #[.pointer (some ⟨g, 0, none⟩), .slice A n c] w (GiveLim base g f L l w) := by
 subst hn
 have HC := hide (unf_has l w B A l.length c rfl (by omega) hr)
 rw [hu] at HC
 have HU : Hid (∀ s ∈ l, s.size ≤ 64) := hide (fun s hs => unf_size (by
  rw [Bool.eq_false_iff]
  intro hc
  rw [List.any_eq_true.2 ⟨s, hs, hc⟩] at hu
  cases hu))
 have HR := hide hr
 have HB := hide hB
 have HA := hide hA
 have HT := hide h
 have HBS := hide hb
 have HLL := hide hL
 have HND := hide hnd
 obtain ⟨i1, hi1, hiz, his, hib⟩ := info_parts Tryz.infoI
 have HI1 := hide hi1
 have HIZ := hide hiz
 have HIS := hide his
 have HIB : Hid (i1.bytes * l.length ≤ 281474976710656) := hide (by rw [hib]; omega)
 have HML : Hid (l.length ≤ maxLen) := hide (by unfold maxLen; omega)
 obtain ⟨A0, c0, mb0, h0, h1, _, _, _, _, _, hf0⟩ := h.open_
 clear hi1 hiz his hib hu hr hB hA h hb h1 hf0 hL hnd
 go_enter Tryz.func53, Tryz.ntmps53
 go_wp2_with (first
  | (go_at_call 91; refine HC.out.mono ?_; rintro e w1 ⟨rfl, rfl⟩)
  | (refine wpList_make_full _ rfl (.tmp 20) (.tmp 20) 55 rfl w.heap.size 3 i1 (.int .i64 0) 1 Tryz.underlying55 HI1.out HIZ.out HIS.out .i64 .i64 _ _ l.length rfl rfl rfl rfl HIB.out HML.out (Nat.le_refl _) ?_; intro w1 ho1 hg1; have HO1 := hide ho1; have HG1 := hide hg1; clear ho1 hg1))
 go_loopw [8, 9, 10, 11, 24] (fun _ _ _ _ i wr => ∃ k : Nat, k ≤ l.length ∧ i = .int .i64 (k : Int) ∧ GiveI base g w.heap.size l.length f L l w k wr ∧ (inter L (l.take k)).1.length ≤ 65536) (fun _ _ _ _ i _ => l.length - (intOf i).toNat)
 case atStart =>
  obtain ⟨cur, hc1, hc2, hc3, _⟩ := own_whole HO1.out
  exact ⟨0, Nat.zero_le _, rfl, ⟨⟨cur, hc1, hc3, rfl⟩, f, HT.out.grown HG1.out, Wrote.of_gb HG1.out _, fun x hx => .inl hx⟩, HLL.out⟩
 case round =>
  obtain ⟨k, hk, rfl, hI, hM0⟩ := hrel
  have HPRE : Hid (∃ r, (inter L (l.take k)).1 = L ++ r) := hide (by obtain ⟨r, hr, _⟩ := inter_pre (l.take k) L []; exact ⟨r, hr⟩)
  have HMND : Hid ((inter L (l.take k)).1.Nodup) := hide (inter_nodup (l.take k) (L, []) HND.out)
  have HBIG : Hid (65536 < (inter L (l.take (k + 1))).1.length → 65536 < (inter L l).1.length) := hide (fun h => Nat.lt_of_lt_of_le h (inter_more L l (k + 1)))
  have HI := hide hI
  obtain ⟨hN, f', hT, hW, hF⟩ := hI
  have hsize := inter_take_size L l k hk
  by_cases hlt : k < l.length
  ·have hlt1 : (k : Int) < (l.length : Int) := by omega
   have hnb : w.heap.size ∉ f' := by
    obtain ⟨cur, h1, _⟩ := hN
    exact hT.not_row h1 (by decide) (by decide)
   have hrd : Rd wr B A (strs l) := hW.rd HR.out (fun ad ha hm => by
    rcases List.mem_cons.1 hm with e | e
    ·obtain ⟨ad', e1, hb', _⟩ := HR.out (by rintro e2; have := congrArg List.length e2; rw [strs_length] at this; simp at this; rw [this] at hlt; simp at hlt)
     rw [ha] at e1
     injection e1 with e1
     subst e1
     have := HB.out
     omega
    ·exact HA.out ad ha (by rintro rfl; simp at hlt) e) HB.out
   obtain ⟨ad, rfl, _, hcell⟩ := hrd.str hlt
   have HSM := hide (HU.out _ (List.getElem_mem hlt))
   have HIT := hide (inter_take L l k hlt)
   generalize hq : inter L (l.take k) = q at *
   obtain ⟨M, ns⟩ := q
   dsimp only at hT hN hsize hM0 HPRE HMND
   have HM0 := hide hM0
   clear hM0
   have HQ := hide hq
   clear hq
   obtain ⟨A1, c1, mb, q0, q1, _, _, _, hmap, _, hf1⟩ := hT.open_
   clear hf1
   generalize l[k] = s at hcell HSM HIT
   have HF := hide hF
   have HW := hide hW
   have HTT := hide hT
   have HNN := hide hN
   have HNB := hide hnb
   have HMAP := hide hmap
   clear hN hT hW hF hmap hnb hrd
   cases hnum : numOf M s with
   | some m =>
    have HL : (Instr.lookup 78 (.map (some mb)) (.string s) true).run Tryz.prog wr = .ok (.tuple #[.int .i64 (m : Int), .bool true]) wr := HMAP.out.ok_yes (P := Tryz.prog) Tryz.dstr Tryz.underlying78 (zint wr) (k := s) hnum
    obtain ⟨cur, hp1, hp2, hp3⟩ := HNN.out.put (m := m) (w2 := wr) rfl hlt
    obtain ⟨u0, p0⟩ : ∃ u, wr.cell? ⟨w.heap.size, k, none⟩ = some u := ⟨cur[k], by rw [blk_cell hp1]; simp⟩
    have z0 := blk_frozen hp1 k
    have HE := hide (step1_yes (q := (M, ns)) hnum)
    have HP3 := hide hp3
    clear hnum hp1 hp3
    go_wp2_with fail
    go_roundw
    case rel =>
     have hw2 := Wrote.of_row (gb_setCell (gb_refl wr (some w.heap.size)) (.inl rfl) (p := ⟨w.heap.size, k, none⟩) (.int .i64 (m : Int))) (f := [w.heap.size]) (by simp)
     refine ⟨k + 1, by omega, by go_num, ⟨?_, f', ?_, HW.out.trans hw2 (fun x hx => .inl (by simp at hx; simp [hx])), HF.out⟩, by rw [HIT.out, HE.out]; exact HM0.out⟩
     ·rw [HIT.out, HE.out]; exact HP3.out
     ·rw [HIT.out, HE.out]; exact HTT.out.wrote hw2 (fun x hx => by simp at hx; rw [hx]; exact HNB.out)
    case measure => simp [intOf]; omega
   | none =>
    have HL : (Instr.lookup 78 (.map (some mb)) (.string s) true).run Tryz.prog wr = .ok (.tuple #[.int .i64 0, .bool false]) wr := HMAP.out.ok_no (P := Tryz.prog) Tryz.dstr Tryz.underlying78 (zint wr) (k := s) hnum
    have HE := hide (step1_no (q := (M, ns)) hnum)
    have HWS := hide HW.out.size
    by_cases hfull : M.length = 65536
    ·have hl1 : ((M.length : Int) == 65536) = true := by rw [hfull]; rfl
     obtain ⟨r, hr⟩ := HPRE.out
     have HFO := hide (forget_any base g f' L r wr (hr ▸ HTT.out) (hr ▸ HMND.out) (by rw [← hr]; omega))
     have HGT := hide (HBIG.out (by rw [HIT.out, HE.out]; show 65536 < (M ++ [s]).length; simp; omega))
     clear hnum hfull hr
     go_wp2_with (go_at_call 55; refine HFO.out.mono ?_; rintro e w2 ⟨rfl, ht2, hw2⟩; have HT2 := hide ht2; have HW2 := hide hw2; clear ht2 hw2)
     go_ret2
     refine .inr ⟨HGT.out, rfl, f', HT2.out, ?_, fun x hx => (HF.out x hx).imp id fun h => Nat.le_of_lt h⟩
     refine Wrote.less (HW.out.trans HW2.out fun x hx => ?_)
     rcases HF.out x hx with h | h
     ·exact .inl (by simp [h])
     ·exact .inr (by omega)
    ·have hlen : ((M.length : Int) == 65536) = false := beq_eq_false_iff_ne.2 (by omega)
     have hM1 : M.length + 1 ≤ 65536 := by have := HM0.out; omega
     have HM1 := hide hM1
     clear hM1
     have HEN := hide (enter_any base g f' M s wr HTT.out hnum HSM.out (by have := HM0.out; omega) (by have := HBS.out; have := HWS.out; omega))
     clear hnum hfull
     go_wp2_with (go_at_call 93; refine HEN.out.mono ?_; rintro e w2 ⟨rfl, f2, ht2, hw2, hf2⟩; have HT2 := hide ht2; have HW2 := hide hw2; have HF2 := hide hf2; obtain ⟨cur, hp1, hp2, hp3⟩ := HNN.out.put (m := M.length) (w2 := w2) (hw2.block _ (by obtain ⟨cur, h1, _⟩ := HNN.out; exact blk_lt h1) HNB.out) hlt; have p0 : w2.cell? ⟨w.heap.size, k, none⟩ = some (cur[k]) := (by rw [blk_cell hp1]; simp); have z0 := blk_frozen hp1 k; have HP3 := hide hp3; have HP1 := hide hp1; clear ht2 hw2 hf2 hp1 hp3)
     go_roundw
     case rel =>
      have hw3 := Wrote.of_row (gb_setCell (gb_refl w2 (some w.heap.size)) (.inl rfl) (p := ⟨w.heap.size, k, none⟩) (.int .i64 (M.length : Int))) (f := [w.heap.size]) (by simp)
      have hs2 := HWS.out
      refine ⟨k + 1, by omega, by go_num, ⟨?_, f2, ?_, (HW.out.trans HW2.out (fun x hx => ?_)).trans hw3 (fun x hx => .inl (by simp at hx; simp [hx])), fun x hx => ?_⟩, by rw [HIT.out, HE.out]; show (M ++ [s]).length ≤ 65536; rw [List.length_append]; exact HM1.out⟩
      ·rw [HIT.out, HE.out]; exact HP3.out
      ·rw [HIT.out, HE.out]; exact HT2.out.wrote hw3 (fun x hx => by simp at hx; rw [hx]; exact HT2.out.not_row HP1.out (by decide) (by decide))
      ·rcases HF.out x hx with h | h
       ·exact .inl (by simp [h])
       ·exact .inr (by omega)
      ·rcases HF2.out x hx with h | h
       ·exact HF.out x h
       ·right
        obtain ⟨cur, h1, _⟩ := HNN.out
        have := blk_lt h1
        omega
     case measure => simp [intOf]; omega
  ·obtain rfl : k = l.length := by omega
   have hlt1 : ¬ (l.length : Int) < (l.length : Int) := by omega
   have HF := hide hF
   have HW := hide hW
   have HTT := hide hT
   have HNN := hide hN
   have HM0 := hide hM0
   clear hN hT hW hF hsize hM0
   go_wp2_with fail
   go_ret2
   obtain ⟨cur, h1, h2, h3⟩ := HNN.out
   have hT := HTT.out
   rw [List.take_of_length_le (by rw [Array.length_toList]; omega)] at h3
   rw [List.take_length] at h3 hT
   have HM2 := HM0.out
   rw [List.take_length] at HM2
   refine .inl ⟨HM2, _, f', rfl, ?_, hT, ?_, fun x hx => (HF.out x hx).imp id (fun h => by omega)⟩
   ·rw [← h3]
    exact own_of_cells h1 h2 (Nat.le_refl _) HML.out
   ·exact ⟨HW.out.os, HW.out.tape, HW.out.output, HW.out.size, fun x hx hn => HW.out.block x hx (fun hm => by
     rcases List.mem_cons.1 hm with e | e
     ·omega
     ·exact hn e)⟩
end Go.Proofs.YtmcmlkglkpbnpaaGreat
