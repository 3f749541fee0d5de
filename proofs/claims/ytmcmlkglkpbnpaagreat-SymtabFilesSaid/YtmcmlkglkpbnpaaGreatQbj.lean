/-
  Both file systems, step by step: writes, cuts, syncs; capacity, arming; names.
-/
import Derived.Test.YtmcmlkglkpbnpaaGreatQbd
import Derived.Test.YtmcmlkglkpbnpaaGreatQbi
namespace Go.Proofs.YtmcmlkglkpbnpaaGreat
def prE (e : RE) : ByteArray × Nat := (e.name, e.n)
def chOf (m : RM) : Ch := if m.kind = 99 then ⟨⟨#[]⟩, m.a, m.n⟩ else if m.kind = 100 then ⟨m.a, ⟨#[]⟩, 0⟩ else ⟨m.a, m.b, 0⟩
structure DirR (d : List RE) : Prop where
 keys : (d.map (·.name)).Nodup
 vals : (d.map (·.n)).Nodup
 ne : ∀ e ∈ d, nameOk e.name = true ∧ 1 ≤ e.n
structure Dir (l : List (ByteArray × Nat)) (d : List RE) : Prop where
 perm : l.Perm (d.map prE)
 ok : DirR d
theorem adel_perm {l : List (ByteArray × Nat)} {a : ByteArray} {n : Nat} (h : aget l a = some n) : l.Perm ((a, n) :: adel l a) := by
 induction l with
 | nil => cases h
 | cons y l ih =>
  obtain ⟨b, u⟩ := y
  simp only [aget] at h
  by_cases e : b = a
  ·rw [if_pos e] at h
   injection h with h
   rw [show adel ((b, u) :: l) a = l from by simp [adel, e], e, h]
  ·rw [if_neg e] at h
   rw [show adel ((b, u) :: l) a = (b, u) :: adel l a from by simp [adel, e]]
   exact ((ih h).cons _).trans (List.Perm.swap _ _ _)
theorem aput_perm (l : List (ByteArray × Nat)) (k : ByteArray) (v : Nat) : (aput l k v).Perm ((k, v) :: adel l k) := by
 induction l with
 | nil => exact List.Perm.refl _
 | cons y l ih =>
  obtain ⟨b, u⟩ := y
  by_cases e : b = k
  ·rw [show adel ((b, u) :: l) k = l from by simp [adel, e], show aput ((b, u) :: l) k v = (k, v) :: l from by simp [aput, e]]
  ·rw [show adel ((b, u) :: l) k = (b, u) :: adel l k from by simp [adel, e], show aput ((b, u) :: l) k v = (b, u) :: aput l k v from by simp [aput, e]]
   exact (ih.cons _).trans (List.Perm.swap _ _ _)
section
variable {l : List (ByteArray × Nat)} {d : List RE}
theorem Dir.keysL (h : Dir l d) : (l.map (·.1)).Nodup := by
 have := h.perm.map (·.1)
 rw [List.map_map] at this
 exact this.nodup_iff.2 h.ok.keys
theorem Dir.at_none (h : Dir l d) {a : ByteArray} (ha : ∀ e ∈ d, e.name ≠ a) : aget l a = none := by
 cases hg : aget l a with
 | none => rfl
 | some v =>
  obtain ⟨e, he, hh⟩ := List.mem_map.1 (h.perm.mem_iff.1 (ag_in hg))
  injection hh with h1 h2
  exact absurd h1 (ha e he)
theorem Dir.at_some (h : Dir l d) {e : RE} (he : e ∈ d) : aget l e.name = some e.n :=
 aget_mem h.keysL (x := prE e) (h.perm.mem_iff.2 (List.mem_map.2 ⟨e, he, rfl⟩))
theorem Dir.len (h : Dir l d) : l.length = d.length := by rw [h.perm.length_eq, List.length_map]
theorem erase_perm {d : List RE} {j : Nat} (hj : j < d.length) : d.Perm (d[j] :: d.eraseIdx j) :=
 (perm_take d j d[j] (List.getElem?_eq_getElem hj)).symm
theorem DirR.perm {d d' : List RE} (h : DirR d) (hp : d.Perm d') : DirR d' :=
 ⟨(hp.map _).nodup_iff.1 h.keys, (hp.map _).nodup_iff.1 h.vals, fun e he => h.ne e (hp.mem_iff.2 he)⟩
theorem DirR.tail {e : RE} {d : List RE} (h : DirR (e :: d)) : DirR d ∧ (∀ x ∈ d, x.name ≠ e.name ∧ x.n ≠ e.n) := by
 have h1 := h.keys
 have h2 := h.vals
 rw [List.map_cons, List.nodup_cons] at h1 h2
 exact ⟨⟨h1.2, h2.2, fun x hx => h.ne x (List.mem_cons_of_mem _ hx)⟩, fun x hx => ⟨fun q => h1.1 (by rw [← q]; exact List.mem_map_of_mem hx), fun q => h2.1 (by rw [← q]; exact List.mem_map_of_mem hx)⟩⟩
theorem DirR.more {e : RE} {d : List RE} (h : DirR d) (h1 : ∀ x ∈ d, x.name ≠ e.name) (h2 : ∀ x ∈ d, x.n ≠ e.n) (h3 : nameOk e.name = true) (h4 : 1 ≤ e.n) : DirR (d ++ [e]) := by
 have hp : (e :: d).Perm (d ++ [e]) := (List.perm_append_singleton e d).symm
 refine DirR.perm ⟨?_, ?_, ?_⟩ hp
 ·rw [List.map_cons, List.nodup_cons]
  exact ⟨fun hm => by obtain ⟨x, hx, q⟩ := List.mem_map.1 hm; exact h1 x hx q, h.keys⟩
 ·rw [List.map_cons, List.nodup_cons]
  exact ⟨fun hm => by obtain ⟨x, hx, q⟩ := List.mem_map.1 hm; exact h2 x hx q, h.vals⟩
 ·intro x hx
  rcases List.mem_cons.1 hx with rfl | hx
  ·exact ⟨h3, h4⟩
  ·exact h.ne x hx
theorem Dir.nil : Dir [] [] := ⟨List.Perm.refl _, ⟨List.nodup_nil, List.nodup_nil, fun e he => by cases he⟩⟩
def MoveOk0 (d : List RE) (m : RM) : Prop :=
 (m.kind = 99 ∧ (∀ e ∈ d, e.name ≠ m.a) ∧ nameOk m.a = true ∧ 1 ≤ m.n ∧ ∀ e ∈ d, e.n ≠ m.n) ∨ (m.kind = 100 ∧ nameOk m.a = true ∧ ∃ e ∈ d, e.name = m.a) ∨ (m.kind = 114 ∧ nameOk m.a = true ∧ nameOk m.b = true ∧ ∃ e ∈ d, e.name = m.a)
def MoveOk (d : List RE) (m : RM) : Prop := MoveOk0 d m ∧ (m.kind ≠ 114 → m.b = ⟨#[]⟩)
theorem at_some_of {d : List RE} {a : ByteArray} (h : ∃ e ∈ d, e.name = a) : ∃ (j : Nat) (hj : j < d.length), atR d a = (j : Int) ∧ d[j].name = a := by
 rcases atR_cases d a with ⟨_, hn⟩ | ⟨j, hj, h1, h2, _⟩
 ·obtain ⟨e, he, h1⟩ := h
  obtain ⟨i, hi, rfl⟩ := List.getElem_of_mem he
  exact absurd h1 (hn i hi)
 ·exact ⟨j, hj, h1, h2⟩
theorem empty_ne {a : ByteArray} (h : a.size ≠ 0) : (⟨#[]⟩ : ByteArray) ≠ a := fun e => h (by rw [← e]; rfl)
theorem Dir.moved (h : Dir l d) {m : RM} (ok : MoveOk d m) : ∃ lost : Nat, (followL l (chOf m)).2 = lost ∧ Dir (followL l (chOf m)).1 (movedR d m) ∧
  ((if lost = 0 then [] else [lost]) ++ (movedR d m).map (·.n)).Perm ((if m.kind = 99 then [m.n] else []) ++ d.map (·.n)) ∧ (m.kind = 99 → lost = 0) := by
 rcases ok.1 with ⟨hk, hn, hao, h1, hv⟩ | ⟨hk, hao, hin⟩ | ⟨hk, hao, hbo, hin⟩
 ·have ha := nameOk_ne hao
  have ec : chOf m = ⟨⟨#[]⟩, m.a, m.n⟩ := by unfold chOf; rw [if_pos hk]
  have ef : followL l (chOf m) = (l ++ [(m.a, m.n)], 0) := by
   rw [ec]
   unfold followL
   rw [if_neg (empty_ne ha), if_pos (by rfl), aput_none (h.at_none hn), h.at_none hn]
   rfl
  have em : movedR d m = d ++ [⟨m.a, m.n⟩] := by unfold movedR; rw [if_pos hk]
  refine ⟨0, by rw [ef], ?_, ?_, fun _ => rfl⟩
  ·rw [ef, em]
   refine ⟨?_, h.ok.more hn hv hao h1⟩
   rw [List.map_append]
   exact h.perm.append_right _
  ·rw [em, if_pos rfl, if_pos hk, List.nil_append, List.map_append]
   exact List.perm_append_comm
 ·have ha := nameOk_ne hao
  have hk99 : ¬ m.kind = 99 := by omega
  have ec : chOf m = ⟨m.a, ⟨#[]⟩, 0⟩ := by unfold chOf; rw [if_neg hk99, if_pos hk]
  obtain ⟨j, hj, hat, hname⟩ := at_some_of hin
  have hg : aget l m.a = some d[j].n := by rw [← hname]; exact h.at_some (List.getElem_mem hj)
  have ef : followL l (chOf m) = (adel l m.a, d[j].n) := by
   rw [ec]
   unfold followL
   rw [if_neg (fun e => empty_ne ha e.symm), if_neg ha, if_pos (by rfl), hg]
   rfl
  have em : movedR d m = d.eraseIdx j := by
   unfold movedR
   rw [if_neg hk99, if_pos hk, if_pos (by omega), hat]
   rfl
  have hp := erase_perm hj
  have hr := h.ok.perm hp
  have h0 : d[j].n ≠ 0 := by have := (h.ok.ne _ (List.getElem_mem hj)).2; omega
  refine ⟨d[j].n, by rw [ef], ?_, ?_, fun e => absurd e hk99⟩
  ·rw [ef, em]
   refine ⟨?_, hr.tail.1⟩
   have k1 := (adel_perm hg).symm.trans (h.perm.trans (hp.map prE))
   rw [List.map_cons, show prE d[j] = (m.a, d[j].n) from by unfold prE; rw [hname]] at k1
   exact k1.cons_inv
  ·rw [em, if_neg h0, if_neg hk99, List.nil_append]
   exact (hp.map _).symm
 ·have ha := nameOk_ne hao
  have hb := nameOk_ne hbo
  have hk99 : ¬ m.kind = 99 := by omega
  have hk100 : ¬ m.kind = 100 := by omega
  have ec : chOf m = ⟨m.a, m.b, 0⟩ := by unfold chOf; rw [if_neg hk99, if_neg hk100]
  obtain ⟨j, hj, hat, hname⟩ := at_some_of hin
  by_cases hab : m.a = m.b
  ·have ef : followL l (chOf m) = (l, 0) := by rw [ec]; unfold followL; rw [if_pos hab]
   have em : movedR d m = d := by unfold movedR; rw [if_neg hk99, if_neg hk100, if_pos hk, if_pos (.inr hab)]
   refine ⟨0, by rw [ef], by rw [ef, em]; exact h, ?_, fun _ => rfl⟩
   rw [em, if_pos rfl, if_neg hk99]
  ·have hg : aget l m.a = some d[j].n := by rw [← hname]; exact h.at_some (List.getElem_mem hj)
   have hp := erase_perm hj
   have hr := h.ok.perm hp
   have k1 := (adel_perm hg).symm.trans (h.perm.trans (hp.map prE))
   rw [List.map_cons, show prE d[j] = (m.a, d[j].n) from by unfold prE; rw [hname]] at k1
   have D1 : Dir (adel l m.a) (d.eraseIdx j) := ⟨k1.cons_inv, hr.tail.1⟩
   have hnn : d.getD j ⟨⟨#[]⟩, 0⟩ = d[j] := by rw [List.getD_eq_getElem?_getD, List.getElem?_eq_getElem hj]; rfl
   have hj1 : 1 ≤ d[j].n := (h.ok.ne _ (List.getElem_mem hj)).2
   generalize hd1 : d.eraseIdx j = d1 at *
   have em0 : ∀ r, (if 0 ≤ atR d1 m.b then d1.eraseIdx (atR d1 m.b).toNat ++ [⟨m.b, d[j].n⟩] else d1 ++ [⟨m.b, d[j].n⟩]) = r → movedR d m = r := by
    intro r hr2
    rw [← hr2]
    unfold movedR
    rw [if_neg hk99, if_neg hk100, if_pos hk, if_neg (by rintro (q | q); omega; exact hab q), hat, show ((j : Int)).toNat = j from rfl, hd1, hnn]
   have ef0 : followL l (chOf m) = (aput (adel l m.a) m.b d[j].n, (aget (adel l m.a) m.b).getD 0) := by
    rw [ec]
    unfold followL
    rw [if_neg hab, if_neg ha, if_neg hb, hg]
    rfl
   rcases atR_cases d1 m.b with ⟨hb1, hb2⟩ | ⟨k, hk1, hb1, hb2, _⟩
   ·have hno : ∀ e ∈ d1, e.name ≠ m.b := fun e he => by obtain ⟨i, hi, rfl⟩ := List.getElem_of_mem he; exact hb2 i hi
    have hg2 := D1.at_none hno
    have em := em0 _ (if_neg (by omega))
    have ef : followL l (chOf m) = (adel l m.a ++ [(m.b, d[j].n)], 0) := by rw [ef0, hg2, aput_none hg2]; rfl
    refine ⟨0, by rw [ef], ?_, ?_, fun _ => rfl⟩
    ·rw [ef, em]
     refine ⟨?_, D1.ok.more hno (fun x hx => (hr.tail.2 x hx).2) hbo hj1⟩
     rw [List.map_append]
     exact D1.perm.append_right _
    ·rw [em, if_pos rfl, if_neg hk99, List.nil_append, List.nil_append, List.map_append]
     exact List.perm_append_comm.trans (hp.map (fun x : RE => x.n)).symm
   ·have hg2 : aget (adel l m.a) m.b = some d1[k].n := by rw [← hb2]; exact D1.at_some (List.getElem_mem hk1)
    have em := em0 _ (if_pos (by omega))
    rw [hb1, show ((k : Int)).toNat = k from rfl] at em
    have ef : followL l (chOf m) = (aput (adel l m.a) m.b d[j].n, d1[k].n) := by rw [ef0, hg2]; rfl
    have hp2 := erase_perm hk1
    have hr2 := D1.ok.perm hp2
    have h0 : d1[k].n ≠ 0 := by have := (D1.ok.ne _ (List.getElem_mem hk1)).2; omega
    have k2 := (adel_perm hg2).symm.trans (D1.perm.trans (hp2.map prE))
    rw [List.map_cons, show prE d1[k] = (m.b, d1[k].n) from by unfold prE; rw [hb2]] at k2
    refine ⟨d1[k].n, by rw [ef], ?_, ?_, fun e => absurd e hk99⟩
    ·rw [ef, em]
     refine ⟨(aput_perm _ _ _).trans ?_, hr2.tail.1.more (fun x hx => by have := (hr2.tail.2 x hx).1; rw [hb2] at this; exact this) (fun x hx => (hr.tail.2 x (hp2.mem_iff.2 (List.mem_cons_of_mem _ hx))).2) hbo hj1⟩
     rw [List.map_append]
     exact (k2.cons_inv.cons _).trans (List.perm_append_singleton _ _).symm
    ·rw [em, if_neg h0, if_neg hk99, List.nil_append, List.map_append]
     refine List.Perm.trans ?_ (hp.map (·.n)).symm
     rw [List.map_cons]
     refine List.Perm.trans ?_ ((hp2.map (·.n)).cons _).symm
     rw [List.map_cons]
     show (d1[k].n :: ((d1.eraseIdx k).map (·.n) ++ [d[j].n])).Perm _
     exact ((List.perm_append_singleton _ _).cons _).trans (List.Perm.swap _ _ _)
end
end Go.Proofs.YtmcmlkglkpbnpaaGreat
namespace Go.Proofs.YtmcmlkglkpbnpaaGreat
def bl (s : ByteArray) : List UInt8 := s.data.toList
theorem bl_len (s : ByteArray) : (bl s).length = s.size := by
 show s.data.toList.length = s.data.size
 exact Array.length_toList
theorem bl_inj {a b : ByteArray} (h : bl a = bl b) : a = b := by
 obtain ⟨⟨x⟩⟩ := a
 obtain ⟨⟨y⟩⟩ := b
 have h' : x = y := h
 rw [h']
theorem bl_app (a b : ByteArray) : bl (a ++ b) = bl a ++ bl b := by
 unfold bl
 rw [ByteArray.data_append, Array.toList_append]
theorem bl_ext (a : ByteArray) (i j : Nat) : bl (a.extract i j) = ((bl a).drop i).take (j - i) := by
 unfold bl
 rw [ByteArray.data_extract, Array.toList_extract, List.extract_eq_take_drop]
def wrOf (x : RD) : Wr := ⟨x.cut, x.at_, bl x.p⟩
theorem bl_done {p : ByteArray} {x : RD} {n : Nat} (hn : n ≤ x.p.size) : bl (doneR p x n) = doW (bl p) ⟨x.cut, x.at_, (bl x.p).take n⟩ := by
 unfold doneR doW
 cases hc : x.cut
 ·have e1 : ((bl x.p).take n).length = n := by rw [List.length_take, bl_len]; omega
  simp only [Bool.false_eq_true, if_false]
  rw [e1]
  by_cases hs : p.size ≤ x.at_ + n
  ·rw [if_pos hs, bl_app, bl_ext, bl_ext, (show (bl p).drop (x.at_ + n) = [] from List.drop_eq_nil_of_le (by rw [bl_len]; exact hs)), List.append_nil]
   simp
  ·rw [if_neg hs, bl_app, bl_app, bl_ext, bl_ext, bl_ext, List.take_of_length_le (l := (bl p).drop (x.at_ + n)) (by rw [List.length_drop, bl_len]; omega)]
   simp
 ·simp only [if_true]
  rw [bl_ext]
  simp
theorem bl_done_all (p : ByteArray) (x : RD) : bl (doneR p x x.p.size) = doW (bl p) (wrOf x) := by
 rw [bl_done (Nat.le_refl _), List.take_of_length_le (by rw [bl_len]; exact Nat.le_refl _)]
 rfl
theorem bl_doneL (p : ByteArray) (l : List RD) : bl (doneL p l) = (l.map wrOf).foldl doW (bl p) := by
 induction l generalizing p with
 | nil => rfl
 | cons x l ih =>
  show bl (doneL (doneR p x x.p.size) l) = _
  rw [ih, bl_done_all]
  rfl
theorem doneL_app (p : ByteArray) (l : List RD) (x : RD) : doneL p (l ++ [x]) = doneR (doneL p l) x x.p.size := by
 unfold doneL
 rw [List.foldl_append]
 rfl
theorem done_size {p : ByteArray} {x : RD} {n : Nat} (hn : n ≤ x.p.size) (ha : x.at_ ≤ p.size) : (doneR p x n).size = if x.cut then x.at_ else max p.size (x.at_ + n) := by
 rw [← bl_len, bl_done hn]
 unfold doW
 cases x.cut
 ·simp only [Bool.false_eq_true, if_false, List.length_append, List.length_take, List.length_drop, bl_len]
  omega
 ·simp only [if_true, List.length_take, bl_len]
  omega
structure FS2 (f : Fl) (x : RFl) : Prop where
 safe : f.safe = bl x.safe
 bytes : f.bytes = bl x.p
 waits : f.waits = x.l.map wrOf
structure GoodX (D k : Nat) (x : RFl) : Prop where
 len : x.l.length ≤ k
 p : x.p = doneL x.safe x.l
 sz : ∀ j, j ≤ x.l.length → (doneL x.safe (x.l.take j)).size ≤ D
 wr : ∀ (j : Nat) (hj : j < x.l.length), x.l[j].at_ ≤ (doneL x.safe (x.l.take j)).size ∧ x.l[j].p.size ≤ D
theorem GoodX.mono {D D' k k' : Nat} {x : RFl} (h : GoodX D k x) (hD : D ≤ D') (hk : k ≤ k') : GoodX D' k' x :=
 ⟨Nat.le_trans h.len hk, h.p, fun j hj => Nat.le_trans (h.sz j hj) hD, fun j hj => ⟨(h.wr j hj).1, Nat.le_trans (h.wr j hj).2 hD⟩⟩
theorem GoodX.psz {D k : Nat} {x : RFl} (h : GoodX D k x) : x.p.size ≤ D := by
 have := h.sz x.l.length (Nat.le_refl _)
 rw [List.take_length, ← h.p] at this
 exact this
theorem GoodX.ssz {D k : Nat} {x : RFl} (h : GoodX D k x) : x.safe.size ≤ D := h.sz 0 (Nat.zero_le _)
theorem GoodX.goodR {D k : Nat} {x : RFl} (h : GoodX D k x) (hD : D ≤ 1600000) (hk : k ≤ 1000) : GoodR x :=
 ⟨by have := h.ssz; omega, by have := h.len; omega, fun j hj => ⟨(h.wr j hj).1, by have := h.sz j (Nat.le_of_lt hj); omega, by have := (h.wr j hj).2; omega⟩⟩
theorem GoodX.more {D D' k : Nat} {x : RFl} (h : GoodX D k x) (d : RD) (hD : D ≤ D') (ha : d.at_ ≤ x.p.size) (hp : d.p.size ≤ D') (hs : (doneR x.p d d.p.size).size ≤ D') : GoodX D' (k + 1) ⟨x.n, x.safe, x.l ++ [d], doneR x.p d d.p.size⟩ := by
 refine ⟨by have := h.len; simp; omega, ?_, fun j hj => ?_, fun j hj => ?_⟩
 ·show doneR x.p d d.p.size = doneL x.safe (x.l ++ [d])
  rw [doneL_app, ← h.p]
 ·show (doneL x.safe ((x.l ++ [d]).take j)).size ≤ D'
  by_cases e : j ≤ x.l.length
  ·rw [List.take_append_of_le_length e]
   exact Nat.le_trans (h.sz j e) hD
  ·have hj' : j ≤ (x.l ++ [d]).length := hj
   rw [List.take_of_length_le (by rw [List.length_append] at *; simp at *; omega), doneL_app, ← h.p]
   exact hs
 ·have hj' : j < (x.l ++ [d]).length := hj
  by_cases e : j < x.l.length
  ·have e1 : (x.l ++ [d])[j]'hj' = x.l[j] := List.getElem_append_left e
   show ((x.l ++ [d])[j]'hj').at_ ≤ (doneL x.safe ((x.l ++ [d]).take j)).size ∧ ((x.l ++ [d])[j]'hj').p.size ≤ D'
   rw [e1, List.take_append_of_le_length (Nat.le_of_lt e)]
   exact ⟨(h.wr j e).1, Nat.le_trans (h.wr j e).2 hD⟩
  ·obtain rfl : j = x.l.length := by simp at hj'; omega
   have e1 : (x.l ++ [d])[x.l.length]'hj' = d := by simp
   show ((x.l ++ [d])[x.l.length]'hj').at_ ≤ (doneL x.safe ((x.l ++ [d]).take x.l.length)).size ∧ ((x.l ++ [d])[x.l.length]'hj').p.size ≤ D'
   rw [e1, List.take_append_of_le_length (Nat.le_refl _), List.take_length, ← h.p]
   exact ⟨ha, hp⟩
theorem GoodX.fresh {D k n : Nat} {p : ByteArray} (h : p.size ≤ D) : GoodX D k ⟨n, p, [], p⟩ :=
 ⟨Nat.zero_le _, rfl, fun j hj => by obtain rfl : j = 0 := Nat.le_zero.1 hj; exact h, fun j hj => absurd hj (Nat.not_lt_zero j)⟩
def hP (R : RS) (n : Nat) : Nat := (R.f.getD (n - 1) noFl).p.size
theorem usedN_all (R : RS) : usedN R R.d.length = sumF (hP R) (R.d.map prE) := by
 unfold usedN sumF
 rw [List.take_length, List.map_map]
 rfl
theorem sumF_nums (h : Nat → Nat) (d : List RE) : sumF h (d.map prE) = ((d.map (·.n)).map h).sum := by
 unfold sumF
 rw [List.map_map, List.map_map]
 rfl
structure Sim (D k : Nat) (S : St) (R : RS) : Prop where
 cap : S.cap = R.cap
 capb : 0 ≤ R.cap ∧ R.cap ≤ 67108864
 ops : S.ops = R.ops
 opsb : 0 ≤ R.ops ∧ R.ops ≤ k
 dead : S.dead = R.off
 armed : R.off = false → S.armed = max R.left 0
 armb : S.armed ≤ 9223372036854775807
 left : -1 ≤ R.left ∧ R.left ≤ 9223372036854775807
 last : S.last = R.f.length
 fl : R.f.length ≤ k
 ml : R.m.length ≤ k
 names : Dir S.names R.d
 safe : Dir S.safe R.safe
 chs : S.changes = R.m.map chOf
 dm : R.d = crashD R R.m.length
 mv : ∀ (j : Nat) (hj : j < R.m.length), MoveOk (crashD R j) R.m[j]
 nums : ∀ (i : Nat) (hi : i < R.f.length), R.f[i].n = i + 1
 good : ∀ x ∈ R.f, GoodX D k x
 files : ∀ n f, S.files n = some f → 1 ≤ n ∧ ∃ hi : (n - 1).toNat < R.f.length, FS2 f R.f[(n - 1).toNat]
 gone : ∀ n f, S.files n = some f → (f.gone = false ↔ ∃ e ∈ R.d, (e.n : Int) = n)
 inS : ∀ e ∈ R.safe, (S.files (e.n : Int)).isSome
 inM : ∀ m ∈ R.m, m.kind = 99 → (S.files (m.n : Int)).isSome
 used : S.used = ((sumF (hP R) (R.d.map prE) : Nat) : Int)
section
variable {D k : Nat} {S : St} {R : RS}
theorem Sim.mono {D' k' : Nat} (h : Sim D k S R) (hD : D ≤ D') (hk : k ≤ k') : Sim D' k' S R :=
 { h with opsb := ⟨h.opsb.1, by have := h.opsb.2; omega⟩, fl := Nat.le_trans h.fl hk, ml := Nat.le_trans h.ml hk, good := fun x hx => (h.good x hx).mono hD hk }
theorem Sim.new {c : Int} (h0 : ¬ c < 0) (h1 : ¬ 67108864 < c) : Sim 0 0 (St.new c) (newRS c) where
 cap := rfl
 capb := by constructor <;> (show _ ≤ _; simp only [newRS]; omega)
 ops := rfl
 opsb := ⟨Int.le_refl _, Int.le_refl _⟩
 dead := rfl
 armed := fun _ => rfl
 armb := by show (0 : Int) ≤ 9223372036854775807; omega
 left := ⟨by show (-1 : Int) ≤ -1; omega, by show (-1 : Int) ≤ 9223372036854775807; omega⟩
 last := rfl
 fl := Nat.le_refl _
 ml := Nat.le_refl _
 names := Dir.nil
 safe := Dir.nil
 chs := rfl
 dm := rfl
 mv := fun j hj => absurd hj (Nat.not_lt_zero j)
 nums := fun j hj => absurd hj (Nat.not_lt_zero j)
 good := fun x hx => by cases hx
 files := fun n f hf => by cases hf
 gone := fun n f hf => by cases hf
 inS := fun e he => by cases he
 inM := fun e he => by cases he
 used := rfl
theorem Sim.dirs (h : Sim D k S R) : ∀ j, j ≤ R.m.length → Dir (followed S.safe (S.changes.take j)) (crashD R j) ∧ ∀ e ∈ crashD R j, (S.files (e.n : Int)).isSome := by
 intro j
 induction j with
 | zero => exact fun _ => ⟨h.safe, h.inS⟩
 | succ j ih =>
  intro hj
  obtain ⟨h1, h2⟩ := ih (by omega)
  have hlt : j < R.m.length := by omega
  obtain ⟨lost, k1, k2, k3, _⟩ := h1.moved (h.mv j hlt)
  have e1 : followed S.safe (S.changes.take (j + 1)) = (followL (followed S.safe (S.changes.take j)) (chOf R.m[j])).1 := by
   rw [h.chs, List.take_succ_eq_append_getElem (by rw [List.length_map]; exact hlt)]
   unfold followed
   rw [List.foldl_append, List.getElem_map]
   rfl
  rw [e1, crashD_succ hlt]
  refine ⟨k2, fun e he => ?_⟩
  have hm : e.n ∈ (if lost = 0 then [] else [lost]) ++ (movedR (crashD R j) R.m[j]).map (·.n) := List.mem_append_right _ (List.mem_map_of_mem he)
  rcases List.mem_append.1 (k3.mem_iff.1 hm) with hm | hm
  ·by_cases e99 : R.m[j].kind = 99
   ·rw [if_pos e99] at hm
    rw [List.mem_singleton.1 hm]
    exact h.inM _ (List.getElem_mem hlt) e99
   ·rw [if_neg e99] at hm
    cases hm
  ·obtain ⟨x, hx, hxn⟩ := List.mem_map.1 hm
   rw [← hxn]
   exact h2 x hx
theorem Sim.inD (h : Sim D k S R) : ∀ e ∈ R.d, (S.files (e.n : Int)).isSome := by
 intro e he
 rw [h.dm] at he
 exact (h.dirs _ (Nat.le_refl _)).2 e he
theorem Sim.num (h : Sim D k S R) {e : RE} (hs : (S.files (e.n : Int)).isSome) : 1 ≤ e.n ∧ e.n ≤ R.f.length := by
 obtain ⟨f, hf⟩ := Option.isSome_iff_exists.1 hs
 obtain ⟨h1, h2, _⟩ := h.files _ f hf
 omega
theorem dir_len {d : List RE} {F : Nat} (h : DirR d) (hn : ∀ e ∈ d, 1 ≤ e.n ∧ e.n ≤ F) : d.length ≤ F := by
 have := nodup_le (d.map (·.n)) (List.range' 1 F) h.vals fun x hx => by
  obtain ⟨e, he, rfl⟩ := List.mem_map.1 hx
  have := hn e he
  exact List.mem_range'_1.2 ⟨this.1, by omega⟩
 rwa [List.length_map, List.length_range'] at this
theorem Sim.lens (h : Sim D k S R) (j : Nat) (hj : j ≤ R.m.length) : (crashD R j).length ≤ R.f.length := by
 obtain ⟨h1, h2⟩ := h.dirs j hj
 exact dir_len h1.ok fun e he => h.num (h2 e he)
theorem Sim.dl (h : Sim D k S R) : R.d.length ≤ R.f.length := by
 have := h.lens R.m.length (Nat.le_refl _)
 rwa [← h.dm] at this
theorem Sim.numOk (h : Sim D k S R) (hk : k ≤ 1000) : NumOk R := ⟨fun e he => h.num (h.inD e he), by have := h.fl; omega⟩
theorem Sim.rok (h : Sim D k S R) (hD : D ≤ 1600000) (hk : k ≤ 1000) : ROk R := by
 have h1 := h.fl
 have h2 := h.dl
 have h3 := h.lens 0 (Nat.zero_le _)
 have h4 := h.ml
 have h5 := h.opsb
 exact ⟨h.numOk hk, by omega, by show (crashD R 0).length ≤ _; omega, by omega, ⟨h5.1, by omega⟩, h.left.2, fun x hx => by have := (h.good x hx).psz; omega, fun x hx => by have := (h.good x hx).len; omega⟩
theorem Sim.used_le (h : Sim D k S R) : sumF (hP R) (R.d.map prE) ≤ R.d.length * D := by
 unfold sumF
 have := sum_le ((R.d.map prE).map fun x => hP R x.2) D fun x hx => by
  obtain ⟨y, hy, rfl⟩ := List.mem_map.1 hx
  obtain ⟨e, he, rfl⟩ := List.mem_map.1 hy
  have hn := h.num (h.inD e he)
  show (R.f.getD (e.n - 1) noFl).p.size ≤ D
  rw [List.getD_eq_getElem?_getD, List.getElem?_eq_getElem (by omega)]
  exact (h.good _ (List.getElem_mem (by omega))).psz
 rwa [List.length_map, List.length_map] at this
theorem Sim.fine (h : Sim D k S R) (hD : D ≤ 1600000) (hk : k ≤ 1000) : Fine S := by
 have h1 := h.fl
 have h2 := h.dl
 have h4 := h.ml
 have h5 := h.opsb
 have h6 := h.used_le
 have h7 : R.d.length * D ≤ 1000 * 1600000 := Nat.mul_le_mul (by omega) hD
 refine ⟨by rw [h.used]; omega, by rw [h.ops]; omega, h.armb, by rw [h.last]; omega, by rw [h.chs, List.length_map]; omega, fun n f hf => ?_⟩
 obtain ⟨_, hi, e⟩ := h.files n f hf
 have g := h.good _ (List.getElem_mem hi)
 have k1 := g.psz
 have k2 := g.ssz
 have k3 := g.len
 rw [e.bytes, e.safe, e.waits, bl_len, bl_len, List.length_map]
 omega
theorem Sim.hN (h : Sim D k S R) : ∀ x ∈ S.names, (S.files (x.2 : Int)).isSome := by
 intro x hx
 obtain ⟨e, he, rfl⟩ := List.mem_map.1 (h.names.perm.mem_iff.1 hx)
 exact h.inD e he
theorem any_iff {d : List RE} {n : Int} : d.any (fun e => (e.n : Int) == n) = true ↔ ∃ e ∈ d, (e.n : Int) = n := by
 rw [List.any_eq_true]
 constructor
 ·rintro ⟨e, he, h⟩; exact ⟨e, he, by simpa using h⟩
 ·rintro ⟨e, he, h⟩; exact ⟨e, he, by simpa using h⟩
theorem Sim.file (h : Sim D k S R) {n : Int} (hn : R.d.any (fun e => (e.n : Int) == n) = true) : ∃ f, S.file n = some f ∧ FS2 f (fileR R n) ∧ S.files n = some f ∧ f.gone = false ∧ 1 ≤ n ∧ (n - 1).toNat < R.f.length := by
 obtain ⟨e, he, rfl⟩ := any_iff.1 hn
 obtain ⟨f, hf⟩ := Option.isSome_iff_exists.1 (h.inD e he)
 have hg := (h.gone _ f hf).2 ⟨e, he, rfl⟩
 obtain ⟨h1, hi, h2⟩ := h.files _ f hf
 refine ⟨f, by unfold St.file; rw [hf]; simp only [hg]; rfl, ?_, hf, hg, h1, hi⟩
 unfold fileR
 rw [List.getD_eq_getElem?_getD, List.getElem?_eq_getElem hi]
 exact h2
theorem Sim.nofile (h : Sim D k S R) {n : Int} (hn : R.d.any (fun e => (e.n : Int) == n) = false) : S.file n = none := by
 unfold St.file
 cases hf : S.files n with
 | none => rfl
 | some f =>
  cases hg : f.gone
  ·have := any_iff.2 ((h.gone n f hf).1 hg)
   rw [hn] at this
   cases this
  ·simp only [hg]
   rfl
theorem Sim.count (h : Sim D k S R) (hoff : R.off = false) (ho : R.ops + 1 ≤ k) : Sim D k S.count R.counts := by
 have h0 := h.armed hoff
 have h1 := h.left
 have hb := h.armb
 have h2 := h.opsb
 by_cases hl : 0 < R.left
 ·have es : S.count = { S with ops := S.ops + 1, armed := S.armed - 1, dead := S.armed - 1 == 0 } := by unfold St.count; rw [if_pos (by omega)]
  have er : R.counts = { R with ops := R.ops + 1, left := R.left - 1, off := R.left - 1 == 0 } := by unfold RS.counts; rw [if_pos hl]
  rw [es, er]
  exact { h with
   ops := by show S.ops + 1 = R.ops + 1; rw [h.ops]
   opsb := ⟨by show 0 ≤ R.ops + 1; omega, ho⟩
   dead := by show (S.armed - 1 == 0) = (R.left - 1 == 0); rw [show S.armed = R.left by omega]
   armed := fun _ => by show S.armed - 1 = max (R.left - 1) 0; omega
   armb := by show S.armed - 1 ≤ _; omega
   left := ⟨by show -1 ≤ R.left - 1; omega, by show R.left - 1 ≤ _; omega⟩ }
 ·have es : S.count = { S with ops := S.ops + 1 } := by unfold St.count; rw [if_neg (by omega)]
  have er : R.counts = { R with ops := R.ops + 1 } := by unfold RS.counts; rw [if_neg hl]
  rw [es, er]
  exact { h with
   ops := by show S.ops + 1 = R.ops + 1; rw [h.ops]
   opsb := ⟨by show 0 ≤ R.ops + 1; omega, ho⟩ }
theorem Sim.filed (h : Sim D k S R) {D' k' : Nat} (hD : D ≤ D') (hk : k ≤ k') {n : Int} (hn : R.d.any (fun e => (e.n : Int) == n) = true) {f : Fl} (hf : S.files n = some f) (f' : Fl) (x' : RFl) (u : Int) (hu : u = S.used - f.bytes.length + f'.bytes.length)
  (hg : f'.gone = false) (he : FS2 f' x') (hx : x'.n = (fileR R n).n) (gx : GoodX D' k' x') : Sim D' k' (({ S with used := u } : St).setFile n f') { R with f := R.f.set (n - 1).toNat x' } := by
 obtain ⟨f0, _, q2, q3, q4, q5, q6⟩ := h.file hn
 rw [hf] at q3
 injection q3 with q3
 subst q3
 have hff : fileR R n = R.f[(n - 1).toNat] := by unfold fileR; rw [List.getD_eq_getElem?_getD, List.getElem?_eq_getElem q6]; rfl
 have hm := h.mono hD hk
 have hsome : ∀ q : Int, (S.files q).isSome → ((({ S with used := u } : St).setFile n f').files q).isSome := by
  intro q hq
  show (if q = n then some f' else S.files q).isSome
  by_cases e : q = n
  ·rw [if_pos e]; rfl
  ·rw [if_neg e]; exact hq
 exact { hm with
  last := by show S.last = ((R.f.set _ x').length : Int); rw [List.length_set]; exact h.last
  fl := by show (R.f.set _ x').length ≤ k'; rw [List.length_set]; exact hm.fl
  nums := by
   intro i hi
   have hi' : i < R.f.length := by have : i < (R.f.set (n - 1).toNat x').length := hi; rwa [List.length_set] at this
   show (R.f.set (n - 1).toNat x')[i].n = i + 1
   rw [List.getElem_set]
   by_cases e : (n - 1).toNat = i
   ·subst e
    rw [if_pos rfl, hx, hff]
    exact h.nums _ hi'
   ·rw [if_neg e]
    exact h.nums i hi'
  good := by
   intro x hxm
   rcases List.mem_or_eq_of_mem_set hxm with hxm | rfl
   ·exact hm.good x hxm
   ·exact gx
  files := by
   intro q fq hq
   have hq : (if q = n then some f' else S.files q) = some fq := hq
   have hl : ∀ i, i < R.f.length → i < (R.f.set (n - 1).toNat x').length := fun i hi => by rw [List.length_set]; exact hi
   by_cases e : q = n
   ·subst e
    rw [if_pos rfl] at hq
    injection hq with hq
    subst hq
    refine ⟨q5, hl _ q6, ?_⟩
    show FS2 f' ((R.f.set (q - 1).toNat x')[(q - 1).toNat]'(hl _ q6))
    rw [List.getElem_set, if_pos rfl]
    exact he
   ·rw [if_neg e] at hq
    obtain ⟨k1, hi, k2⟩ := h.files q fq hq
    refine ⟨k1, hl _ hi, ?_⟩
    show FS2 fq ((R.f.set (n - 1).toNat x')[(q - 1).toNat]'(hl _ hi))
    rw [List.getElem_set, if_neg (by omega)]
    exact k2
  gone := by
   intro q fq hq
   have hq : (if q = n then some f' else S.files q) = some fq := hq
   by_cases e : q = n
   ·subst e
    rw [if_pos rfl] at hq
    injection hq with hq
    subst hq
    exact ⟨fun _ => any_iff.1 hn, fun _ => hg⟩
   ·rw [if_neg e] at hq
    exact h.gone q fq hq
  inS := fun e he => hsome _ (h.inS e he)
  inM := fun m hm hk => hsome _ (h.inM m hm hk)
  used := by
   show u = ((sumF (hP { R with f := R.f.set (n - 1).toNat x' }) (R.d.map prE) : Nat) : Int)
   have hvals : ((R.d.map prE).map (·.2)).Nodup := by rw [List.map_map]; exact h.names.ok.vals
   have hin : n.toNat ∈ (R.d.map prE).map (·.2) := by
    obtain ⟨e, he, hen⟩ := any_iff.1 hn
    rw [List.map_map]
    exact List.mem_map.2 ⟨e, he, by show e.n = n.toNat; omega⟩
   have hsame : ∀ m, m ∈ (R.d.map prE).map (·.2) → m ≠ n.toNat → hP R m = hP { R with f := R.f.set (n - 1).toNat x' } m := by
    intro m hm hne
    rw [List.map_map] at hm
    obtain ⟨e, he, hen⟩ := List.mem_map.1 hm
    have hen : e.n = m := hen
    have := h.num (h.inD e he)
    show (R.f.getD (m - 1) noFl).p.size = ((R.f.set (n - 1).toNat x').getD (m - 1) noFl).p.size
    rw [getD_set_other _ _ _ _ _ (by omega)]
   have h1 := sumF_one (h := hP R) (h' := fun m => if m = n.toNat then hP { R with f := R.f.set (n - 1).toNat x' } m else hP R m) hvals hin (fun m hm => by show hP R m = if m = n.toNat then _ else hP R m; rw [if_neg hm])
   have h2 : sumF (fun m => if m = n.toNat then hP { R with f := R.f.set (n - 1).toNat x' } m else hP R m) (R.d.map prE) = sumF (hP { R with f := R.f.set (n - 1).toNat x' }) (R.d.map prE) := by
    refine sumF_eq fun y hy => ?_
    show (if y.2 = n.toNat then _ else hP R y.2) = _
    by_cases e : y.2 = n.toNat
    ·rw [if_pos e]
    ·rw [if_neg e]
     exact hsame y.2 (List.mem_map_of_mem hy) e
   have hn1 : n.toNat - 1 = (n - 1).toNat := by omega
   have e1 : hP R n.toNat = f.bytes.length := by
    show (R.f.getD (n.toNat - 1) noFl).p.size = _
    rw [hn1, q2.bytes, bl_len]
    rfl
   have e2 : (if n.toNat = n.toNat then hP { R with f := R.f.set (n - 1).toNat x' } n.toNat else hP R n.toNat) = f'.bytes.length := by
    rw [if_pos rfl]
    show ((R.f.set (n - 1).toNat x').getD (n.toNat - 1) noFl).p.size = _
    rw [hn1, getD_set_same _ _ _ _ q6, he.bytes, bl_len]
   have h3 : sumF (hP R) (R.d.map prE) = sumF (hP R) (R.d.map prE) := rfl
   rw [h2] at h1
   have h4 : hP R n.toNat ≤ sumF (hP R) (R.d.map prE) := by
    obtain ⟨y, hy, hy2⟩ := List.mem_map.1 hin
    have := sumF_mem (h := hP R) hy
    have hy2 : y.2 = n.toNat := hy2
    rw [hy2] at this
    exact this
   have h5 := h.used
   have h6 : sumF (hP { R with f := R.f.set (n - 1).toNat x' }) (R.d.map prE) + hP R n.toNat = sumF (hP R) (R.d.map prE) + f'.bytes.length := by rw [← e2]; exact h1
   rw [e1] at h4 h6
   omega }
end
end Go.Proofs.YtmcmlkglkpbnpaaGreat
namespace Go.Proofs.YtmcmlkglkpbnpaaGreat
section
variable {D k : Nat} {S : St} {R : RS}
theorem thereR_off {n : Int} (h : R.off = true) : thereR R n = 21 := by unfold thereR; rw [h]; rfl
theorem thereR_no {n : Int} (h : R.off = false) (h2 : R.d.any (fun e => (e.n : Int) == n) = false) : thereR R n = 7 := by unfold thereR; rw [h, h2]; rfl
theorem thereR_yes {n : Int} (h : R.off = false) (h2 : R.d.any (fun e => (e.n : Int) == n) = true) : thereR R n = 0 := by unfold thereR; rw [h, h2]; rfl
theorem Sim.wrote (h : Sim D k S R) (hoff : R.off = false) {n : Int} (hn : R.d.any (fun e => (e.n : Int) == n) = true) {f : Fl} (hf : S.files n = some f) (x : RD) (m : Nat) (hm : m = x.p.size) (ha : x.at_ ≤ (fileR R n).p.size) :
  Sim (D + m) (k + 1) (S.wrote n f (wrOf x)) ({ R with f := R.f.set (n - 1).toNat ⟨(fileR R n).n, (fileR R n).safe, (fileR R n).l ++ [x], doneR (fileR R n).p x x.p.size⟩ } : RS).counts := by
 obtain ⟨f0, q1, q2, q3, q4, q5, q6⟩ := h.file hn
 rw [hf] at q3
 injection q3 with q3
 subst q3
 have hin : fileR R n ∈ R.f := by unfold fileR; rw [List.getD_eq_getElem?_getD, List.getElem?_eq_getElem q6]; exact List.getElem_mem q6
 have hg := h.good _ hin
 have hb : (doneR (fileR R n).p x x.p.size).size ≤ D + m := by
  rw [done_size (Nat.le_refl _) ha]
  have := hg.psz
  split <;> omega
 have h1 := h.filed (D' := D + m) (k' := k + 1) (by omega) (by omega) hn hf { f with bytes := doW f.bytes (wrOf x), waits := f.waits ++ [wrOf x] } ⟨(fileR R n).n, (fileR R n).safe, (fileR R n).l ++ [x], doneR (fileR R n).p x x.p.size⟩ (S.used - f.bytes.length + (doW f.bytes (wrOf x)).length) rfl q4
  ⟨q2.safe, by show doW f.bytes (wrOf x) = _; rw [q2.bytes, bl_done_all], by show f.waits ++ [wrOf x] = _; rw [q2.waits, List.map_append]; rfl⟩ rfl (hg.more x (by omega) ha (by omega) hb)
 exact h1.count hoff (by have := h.opsb.2; show R.ops + 1 ≤ ((k + 1 : Nat) : Int); omega)
theorem Sim.write (h : Sim D k S R) (n pos : Int) (p : ByteArray) : S.writeE n pos p.size = (writeR R n pos p).1 ∧ Sim (D + p.size) (k + 1) (S.write n pos (bl p)) (writeR R n pos p).2 := by
 have hm := h.mono (D' := D + p.size) (k' := k + 1) (by omega) (by omega)
 unfold St.writeE St.write writeR
 rw [h.dead]
 cases ho : R.off
 ·cases hn : R.d.any (fun e => (e.n : Int) == n) with
  | false =>
   rw [thereR_no ho hn, h.nofile hn]
   exact ⟨rfl, hm⟩
  | true =>
   obtain ⟨f, q1, q2, q3, q4, q5, q6⟩ := h.file hn
   rw [thereR_yes ho hn, q1]
   have e1 : f.bytes.length = (fileR R n).p.size := by rw [q2.bytes, bl_len]
   have e2 : S.used = ((usedN R R.d.length : Nat) : Int) := by rw [h.used, usedN_all]
   simp only [Bool.false_eq_true, if_false, ne_eq, not_true_eq_false]
   rw [e1, e2, h.cap, bl_len]
   by_cases c1 : pos < 0 ∨ ((fileR R n).p.size : Int) < pos
   ·rw [if_pos c1, if_pos c1, if_pos c1]
    exact ⟨rfl, hm⟩
   ·rw [if_neg c1, if_neg c1, if_neg c1]
    by_cases c2 : ((fileR R n).p.size : Int) < pos + p.size ∧ R.cap < usedN R R.d.length + (pos + p.size - (fileR R n).p.size)
    ·rw [if_pos c2, if_pos c2, if_pos c2]
     exact ⟨rfl, hm⟩
    ·rw [if_neg c2, if_neg c2, if_neg c2]
     refine ⟨rfl, ?_⟩
     have := h.wrote ho hn q3 ⟨false, pos.toNat, p⟩ p.size rfl (by show pos.toNat ≤ _; omega)
     exact this
 ·rw [thereR_off ho]
  exact ⟨rfl, hm⟩
theorem append_write {n : Int} {f : Fl} {p : List UInt8} (hn : S.file n = some f) : S.append n p = S.write n f.bytes.length p := by
 unfold St.append St.write
 rw [hn]
 cases S.dead
 ·simp only [Bool.false_eq_true, if_false]
  rw [if_neg (c := (f.bytes.length : Int) < 0 ∨ (f.bytes.length : Int) < f.bytes.length) (by omega)]
  by_cases c : 0 < p.length ∧ S.cap < S.used + p.length
  ·rw [if_pos c, if_pos ⟨by omega, by omega⟩]
  ·rw [if_neg c, if_neg (fun c2 => c ⟨by omega, by omega⟩)]
   rfl
 ·rfl
theorem append_writeE {n : Int} {f : Fl} {m : Nat} (hn : S.file n = some f) : S.appendE n m = S.writeE n f.bytes.length m := by
 unfold St.appendE St.writeE
 rw [hn]
 cases S.dead
 ·simp only [Bool.false_eq_true, if_false]
  rw [if_neg (c := (f.bytes.length : Int) < 0 ∨ (f.bytes.length : Int) < f.bytes.length) (by omega)]
  by_cases c : 0 < m ∧ S.cap < S.used + m
  ·rw [if_pos c, if_pos ⟨by omega, by omega⟩]
  ·rw [if_neg c, if_neg (fun c2 => c ⟨by omega, by omega⟩)]
 ·rfl
theorem Sim.append (h : Sim D k S R) (n : Int) (p : ByteArray) : S.appendE n p.size = (appendR R n p).1 ∧ Sim (D + p.size) (k + 1) (S.append n (bl p)) (appendR R n p).2 := by
 have hm := h.mono (D' := D + p.size) (k' := k + 1) (by omega) (by omega)
 cases ho : R.off
 ·cases hn : R.d.any (fun e => (e.n : Int) == n) with
  | false =>
   unfold St.appendE St.append appendR
   rw [h.dead, ho, thereR_no ho hn, h.nofile hn]
   exact ⟨rfl, hm⟩
  | true =>
   obtain ⟨f, q1, q2, q3, q4, q5, q6⟩ := h.file hn
   have e1 : f.bytes.length = (fileR R n).p.size := by rw [q2.bytes, bl_len]
   rw [append_write q1, append_writeE q1, e1]
   unfold appendR
   rw [thereR_yes ho hn, if_neg (by simp)]
   exact h.write n _ p
 ·unfold St.appendE St.append appendR
  rw [h.dead, ho, thereR_off ho]
  exact ⟨rfl, hm⟩
theorem Sim.cut (h : Sim D k S R) (n size : Int) : S.cutE n size = (cutR R n size).1 ∧ Sim D (k + 1) (S.cut n size) (cutR R n size).2 := by
 have hm := h.mono (D' := D) (k' := k + 1) (by omega) (by omega)
 unfold St.cutE St.cut cutR
 rw [h.dead]
 cases ho : R.off
 ·cases hn : R.d.any (fun e => (e.n : Int) == n) with
  | false =>
   rw [thereR_no ho hn, h.nofile hn]
   exact ⟨rfl, hm⟩
  | true =>
   obtain ⟨f, q1, q2, q3, q4, q5, q6⟩ := h.file hn
   rw [thereR_yes ho hn, q1]
   have e1 : f.bytes.length = (fileR R n).p.size := by rw [q2.bytes, bl_len]
   simp only [Bool.false_eq_true, if_false, ne_eq, not_true_eq_false]
   rw [e1]
   by_cases c1 : size < 0 ∨ ((fileR R n).p.size : Int) < size
   ·rw [if_pos c1, if_pos c1, if_pos c1]
    exact ⟨rfl, hm⟩
   ·rw [if_neg c1, if_neg c1, if_neg c1]
    refine ⟨rfl, ?_⟩
    have := h.wrote ho hn q3 ⟨true, size.toNat, ⟨#[]⟩⟩ 0 rfl (by show size.toNat ≤ _; omega)
    have e9 : doneR (fileR R n).p ⟨true, size.toNat, ⟨#[]⟩⟩ 0 = (fileR R n).p.extract 0 size.toNat := by unfold doneR; rw [if_pos rfl]
    rw [show (⟨true, size.toNat, ⟨#[]⟩⟩ : RD).p.size = 0 from rfl, e9, ho] at this
    exact this
 ·rw [thereR_off ho]
  exact ⟨rfl, hm⟩
def St.syncE (S : St) (n : Int) : Int := if S.dead then 21 else match S.file n with
 | none => 7
 | some _ => 0
def St.sync (S : St) (n : Int) : St := if S.dead then S else match S.file n with
 | none => S
 | some f => S.synced n f
theorem Sim.sync (h : Sim D k S R) (n : Int) : S.syncE n = (syncR R n).1 ∧ Sim D (k + 1) (S.sync n) (syncR R n).2 := by
 have hm := h.mono (D' := D) (k' := k + 1) (by omega) (by omega)
 unfold St.syncE St.sync syncR
 rw [h.dead]
 cases ho : R.off
 ·cases hn : R.d.any (fun e => (e.n : Int) == n) with
  | false =>
   rw [thereR_no ho hn, h.nofile hn]
   exact ⟨rfl, hm⟩
  | true =>
   obtain ⟨f, q1, q2, q3, q4, q5, q6⟩ := h.file hn
   rw [thereR_yes ho hn, q1]
   simp only [Bool.false_eq_true, if_false, ne_eq, not_true_eq_false]
   refine ⟨trivial, ?_⟩
   have hin : fileR R n ∈ R.f := by unfold fileR; rw [List.getD_eq_getElem?_getD, List.getElem?_eq_getElem q6]; exact List.getElem_mem q6
   have h1 := h.filed (D' := D) (k' := k + 1) (by omega) (by omega) hn q3 ⟨f.gone, f.bytes, f.bytes, []⟩ ⟨(fileR R n).n, (fileR R n).p, [], (fileR R n).p⟩ S.used (by show S.used = S.used - f.bytes.length + f.bytes.length; omega) q4
    ⟨q2.bytes, q2.bytes, rfl⟩ rfl (GoodX.fresh (h.good _ hin).psz)
   have h2 := h1.count ho (by have := h.opsb.2; show R.ops + 1 ≤ ((k + 1 : Nat) : Int); omega)
   rw [ho] at h2
   exact h2
 ·rw [thereR_off ho]
  exact ⟨rfl, hm⟩
def St.setCap (S : St) (n : Int) : St := if n < 0 ∨ 67108864 < n then S else { S with cap := n }
def St.setCapE (n : Int) : Int := if n < 0 ∨ 67108864 < n then 2 else 0
theorem Sim.setCap (h : Sim D k S R) (n : Int) : St.setCapE n = (capR R n).1 ∧ Sim D (k + 1) (S.setCap n) (capR R n).2 := by
 have hm := h.mono (D' := D) (k' := k + 1) (by omega) (by omega)
 unfold St.setCapE St.setCap capR
 by_cases c : n < 0 ∨ 67108864 < n
 ·rw [if_pos c, if_pos c, if_pos c]
  exact ⟨rfl, hm⟩
 ·rw [if_neg c, if_neg c, if_neg c]
  exact ⟨rfl, { hm with cap := rfl, capb := by constructor <;> (show _ ≤ _; simp only []; omega), used := hm.used }⟩
theorem Sim.arm (h : Sim D k S R) (n : Int) (hn : n ≤ 9223372036854775807) : Sim D (k + 1) (S.arm n) (armR R n) := by
 have hm := h.mono (D' := D) (k' := k + 1) (by omega) (by omega)
 unfold St.arm armR
 cases ho : R.off
 ·rw [if_neg (by simp)]
  exact { hm with
   dead := by show (S.dead || n == 0) = (n == 0); rw [h.dead, ho]; rfl
   armed := fun _ => by show max n 0 = max (max n (-1)) 0; omega
   armb := by show max n 0 ≤ _; omega
   left := ⟨by show -1 ≤ max n (-1); omega, by show max n (-1) ≤ _; omega⟩ }
 ·rw [if_pos rfl]
  exact { hm with
   dead := by show (S.dead || n == 0) = R.off; rw [h.dead, ho]; rfl
   armed := fun q => by rw [ho] at q; cases q
   armb := by show max n 0 ≤ _; omega }
end
end Go.Proofs.YtmcmlkglkpbnpaaGreat
