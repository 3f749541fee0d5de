/-
  Both file systems behind a crash.
-/
import Derived.Test.YtmcmlkglkpbnpaaGreatQbj
namespace Go.Proofs.YtmcmlkglkpbnpaaGreat
section
variable {D k : Nat} {S : St} {R : RS}
theorem Dir.at_cases {l : List (ByteArray × Nat)} {d : List RE} (h : Dir l d) (a : ByteArray) : (atR d a = -1 ∧ aget l a = none ∧ ∀ e ∈ d, e.name ≠ a) ∨ ∃ (j : Nat) (hj : j < d.length), atR d a = (j : Int) ∧ aget l a = some d[j].n ∧ d[j].name = a := by
 rcases atR_cases d a with ⟨h1, h2⟩ | ⟨j, hj, h1, h2, _⟩
 ·have hn : ∀ e ∈ d, e.name ≠ a := fun e he => by obtain ⟨i, hi, rfl⟩ := List.getElem_of_mem he; exact h2 i hi
  exact .inl ⟨h1, h.at_none hn, hn⟩
 ·exact .inr ⟨j, hj, h1, by rw [← h2]; exact h.at_some (List.getElem_mem hj), h2⟩
theorem crashD_app {R1 : RS} {m : RM} (e1 : R1.safe = R.safe) (e2 : R1.m = R.m ++ [m]) {j : Nat} (hj : j ≤ R.m.length) : crashD R1 j = crashD R j := by
 unfold crashD
 rw [e1, e2, List.take_append_of_le_length hj]
theorem crashD_last {R1 : RS} {m : RM} (e1 : R1.safe = R.safe) (e2 : R1.m = R.m ++ [m]) : crashD R1 (R.m.length + 1) = movedR (crashD R R.m.length) m := by
 have h : R.m.length < R1.m.length := by rw [e2]; simp
 rw [crashD_succ h, crashD_app e1 e2 (Nat.le_refl _)]
 congr 1
 have : R1.m[R.m.length]? = some m := by rw [e2]; simp
 rw [List.getElem?_eq_getElem h] at this
 injection this
theorem mv_app {R1 : RS} {m : RM} (e1 : R1.safe = R.safe) (e2 : R1.m = R.m ++ [m]) (dm : R.d = crashD R R.m.length) (mv : ∀ (j : Nat) (hj : j < R.m.length), MoveOk (crashD R j) R.m[j]) (ok : MoveOk R.d m) :
  ∀ (j : Nat) (hj : j < R1.m.length), MoveOk (crashD R1 j) R1.m[j] := by
 intro j hj
 have hj' : j < (R.m ++ [m]).length := by rw [← e2]; exact hj
 have e3 : R1.m[j] = (R.m ++ [m])[j] := by
  have : R1.m[j]? = (R.m ++ [m])[j]? := by rw [e2]
  rw [List.getElem?_eq_getElem hj, List.getElem?_eq_getElem hj'] at this
  injection this
 rw [e3]
 by_cases e : j < R.m.length
 ·rw [crashD_app e1 e2 (Nat.le_of_lt e), List.getElem_append_left e]
  exact mv j e
 ·obtain rfl : j = R.m.length := by simp at hj'; omega
  rw [crashD_app e1 e2 (Nat.le_refl _), ← dm]
  simpa using ok
theorem Sim.changed (h : Sim D k S R) (hoff : R.off = false) {m : RM} (ok : MoveOk R.d m) (h99 : m.kind ≠ 99) :
  Sim D (k + 1) (S.did (chOf m)) (R.changed m) ∧ ((followL S.names (chOf m)).2 ≠ 0 → ∃ f, S.files ((followL S.names (chOf m)).2 : Int) = some f) := by
 obtain ⟨lost, k1, k2, k3, _⟩ := h.names.moved ok
 rw [if_neg h99, List.nil_append] at k3
 have hnd : ((if lost = 0 then [] else [lost]) ++ (movedR R.d m).map (·.n)).Nodup := k3.nodup_iff.2 h.names.ok.vals
 have hm := h.mono (D' := D) (k' := k + 1) (by omega) (by omega)
 have hfile : lost ≠ 0 → ∃ f, S.files (lost : Int) = some f ∧ f.bytes.length = hP R lost := by
  intro h0
  have : lost ∈ R.d.map (·.n) := k3.mem_iff.1 (by rw [if_neg h0]; exact List.mem_append_left _ (List.mem_singleton.2 rfl))
  obtain ⟨e, he, hen⟩ := List.mem_map.1 this
  have hen : e.n = lost := hen
  obtain ⟨f, hf⟩ := Option.isSome_iff_exists.1 (h.inD e he)
  rw [hen] at hf
  obtain ⟨h1, hi, h2⟩ := h.files _ f hf
  refine ⟨f, hf, ?_⟩
  rw [h2.bytes, bl_len]
  show _ = (R.f.getD (lost - 1) noFl).p.size
  have e9 : lost - 1 = ((lost : Int) - 1).toNat := by omega
  rw [e9, List.getD_eq_getElem?_getD, List.getElem?_eq_getElem hi]
  rfl
 have hsum : ((if lost = 0 then 0 else hP R lost) : Nat) + sumF (hP R) ((movedR R.d m).map prE) = sumF (hP R) (R.d.map prE) := by
  have := (k3.map (hP R)).sum_nat
  rw [List.map_append, List.sum_append, ← sumF_nums, ← sumF_nums] at this
  rw [← this]
  split <;> simp
 obtain ⟨S1, hS1⟩ : ∃ S1, S1 = ({ (if lost = 0 then S else S.lost lost) with names := (followL S.names (chOf m)).1, changes := S.changes ++ [chOf m] } : St) := ⟨_, rfl⟩
 have hdid : S.did (chOf m) = S1.count := by unfold St.did; rw [k1, hS1]
 have c1 : S1.cap = S.cap ∧ S1.ops = S.ops ∧ S1.dead = S.dead ∧ S1.armed = S.armed ∧ S1.last = S.last ∧ S1.safe = S.safe ∧ S1.names = (followL S.names (chOf m)).1 ∧ S1.changes = S.changes ++ [chOf m] ∧ S1.used = S.used - ((if lost = 0 then 0 else hP R lost : Nat) : Int) ∧
   (∀ q, (S.files q).isSome → (S1.files q).isSome) ∧ (∀ q f', S1.files q = some f' → ∃ f0, S.files q = some f0 ∧ f'.safe = f0.safe ∧ f'.bytes = f0.bytes ∧ f'.waits = f0.waits ∧ (f'.gone = false ↔ f0.gone = false ∧ (lost = 0 ∨ q ≠ (lost : Int)))) := by
  by_cases h0 : lost = 0
  ·subst hS1
   rw [if_pos h0, if_pos h0]
   exact ⟨rfl, rfl, rfl, rfl, rfl, rfl, rfl, rfl, by show S.used = S.used - ((0 : Nat) : Int); omega, fun q hq => hq, fun q f' hq => ⟨f', hq, rfl, rfl, rfl, ⟨fun hg => ⟨hg, .inl h0⟩, fun hg => hg.1⟩⟩⟩
  ·obtain ⟨f, hf, hl⟩ := hfile h0
   have el : S.lost lost = ({ S with used := S.used - f.bytes.length } : St).setFile (lost : Int) { f with gone := true } := by unfold St.lost; rw [hf]
   subst hS1
   rw [if_neg h0, if_neg h0, el]
   refine ⟨rfl, rfl, rfl, rfl, rfl, rfl, rfl, rfl, by show S.used - (f.bytes.length : Int) = _; rw [hl], fun q hq => ?_, fun q f' hq => ?_⟩
   ·show (if q = (lost : Int) then some { f with gone := true } else S.files q).isSome
    by_cases e : q = (lost : Int)
    ·rw [if_pos e]; rfl
    ·rw [if_neg e]; exact hq
   ·have hq : (if q = (lost : Int) then some { f with gone := true } else S.files q) = some f' := hq
    by_cases e : q = (lost : Int)
    ·rw [if_pos e] at hq
     injection hq with hq
     subst hq
     exact ⟨f, by rw [e]; exact hf, rfl, rfl, rfl, ⟨fun hg => (by cases hg), fun hg => hg.2.elim (fun q => absurd q h0) (fun q => absurd e q)⟩⟩
    ·rw [if_neg e] at hq
     exact ⟨f', hq, rfl, rfl, rfl, ⟨fun hg => ⟨hg, .inr e⟩, fun hg => hg.1⟩⟩
 obtain ⟨a1, a2, a3, a4, a5, a6, a7, a8, a9, a10, a11⟩ := c1
 refine ⟨?_, fun hl => by rw [k1] at hl ⊢; obtain ⟨f, hf, _⟩ := hfile hl; exact ⟨f, hf⟩⟩
 rw [hdid]
 have hs : Sim D (k + 1) S1 { R with m := R.m ++ [m], d := movedR R.d m } :=
  {cap := a1.trans h.cap
   capb := h.capb
   ops := a2.trans h.ops
   opsb := hm.opsb
   dead := a3.trans h.dead
   armed := fun q => a4.trans (h.armed q)
   armb := by rw [a4]; exact h.armb
   left := h.left
   last := a5.trans h.last
   fl := hm.fl
   ml := by show (R.m ++ [m]).length ≤ k + 1; have := h.ml; simp; omega
   names := by rw [a7]; exact k2
   safe := by rw [a6]; exact h.safe
   chs := by rw [a8, h.chs]; show _ = (R.m ++ [m]).map chOf; rw [List.map_append]; rfl
   dm := by
    show movedR R.d m = crashD _ (R.m ++ [m]).length
    rw [List.length_append]
    have := crashD_last (R := R) (R1 := { R with m := R.m ++ [m], d := movedR R.d m }) (m := m) rfl rfl
    rw [← h.dm] at this
    exact this.symm
   mv := mv_app (R := R) rfl rfl h.dm h.mv ok
   nums := h.nums
   good := hm.good
   files := fun q f' hq => by
    obtain ⟨f0, b1, b2, b3, b4, _⟩ := a11 q f' hq
    obtain ⟨k1, hi, k2⟩ := h.files q f0 b1
    exact ⟨k1, hi, ⟨b2.trans k2.safe, b3.trans k2.bytes, b4.trans k2.waits⟩⟩
   gone := fun q f' hq => by
    obtain ⟨f0, b1, _, _, _, b5⟩ := a11 q f' hq
    rw [b5, h.gone q f0 b1]
    constructor
    ·rintro ⟨⟨e, he, hen⟩, hl⟩
     have : e.n ∈ (if lost = 0 then [] else [lost]) ++ (movedR R.d m).map (·.n) := k3.mem_iff.2 (List.mem_map_of_mem he)
     rcases List.mem_append.1 this with hx | hx
     ·by_cases h0 : lost = 0
      ·rw [if_pos h0] at hx; cases hx
      ·rw [if_neg h0] at hx
       have := List.mem_singleton.1 hx
       rcases hl with hl | hl
       ·exact absurd hl h0
       ·exact absurd (by rw [← hen, this]) hl
     ·obtain ⟨x, hx, hxn⟩ := List.mem_map.1 hx
      exact ⟨x, hx, by rw [← hen]; exact congrArg _ hxn⟩
    ·rintro ⟨e, he, hen⟩
     have hx : e.n ∈ R.d.map (·.n) := k3.mem_iff.1 (List.mem_append_right _ (List.mem_map_of_mem he))
     obtain ⟨x, hx, hxn⟩ := List.mem_map.1 hx
     refine ⟨⟨x, hx, by rw [← hen]; exact congrArg _ hxn⟩, ?_⟩
     by_cases h0 : lost = 0
     ·exact .inl h0
     ·refine .inr fun e2 => ?_
      rw [if_neg h0] at hnd
      have := (List.nodup_cons.1 hnd).1
      exact this (List.mem_map.2 ⟨e, he, by show e.n = lost; omega⟩)
   inS := fun e he => a10 _ (h.inS e he)
   inM := fun x hx hk => by
    rcases List.mem_append.1 hx with hx | hx
    ·exact a10 _ (h.inM x hx hk)
    ·rw [List.mem_singleton.1 hx] at hk
     exact absurd hk h99
   used := by
    show S1.used = ((sumF (hP R) ((movedR R.d m).map prE) : Nat) : Int)
    rw [a9, h.used]
    omega }
 exact hs.count hoff (by have := h.opsb.2; show R.ops + 1 ≤ ((k + 1 : Nat) : Int); omega)
theorem nameR_off {s : ByteArray} (h : R.off = true) : nameR R s = 21 := by unfold nameR; rw [h]; rfl
theorem nameR_bad {s : ByteArray} (h : R.off = false) (h2 : nameOk s = false) : nameR R s = 20 := by unfold nameR nameErr; rw [h, h2]; rfl
theorem nameR_ok {s : ByteArray} (h : R.off = false) (h2 : nameOk s = true) : nameR R s = 0 := by unfold nameR nameErr; rw [h, h2]; rfl
def St.syncDirE (S : St) : Int := if S.dead then 21 else 0
def St.syncDir (S : St) : St := if S.dead then S else (S.settled S.names).count
theorem Sim.syncDir (h : Sim D k S R) : S.syncDirE = (syncDirR R).1 ∧ Sim D (k + 1) S.syncDir (syncDirR R).2 := by
 have hm := h.mono (D' := D) (k' := k + 1) (by omega) (by omega)
 unfold St.syncDirE St.syncDir syncDirR
 rw [h.dead]
 cases ho : R.off
 ·refine ⟨rfl, ?_⟩
  have hs : Sim D (k + 1) (S.settled S.names) { R with safe := R.d, m := [] } :=
   { hm with
    ml := Nat.zero_le _
    names := h.names
    safe := h.names
    chs := rfl
    dm := rfl
    mv := fun j hj => absurd hj (Nat.not_lt_zero j)
    files := fun n f hf => by
     have hf : (if ∃ x ∈ S.names, (x.2 : Int) = n then S.files n else none) = some f := hf
     split at hf
     ·exact h.files n f hf
     ·cases hf
    gone := fun n f hf => by
     have hf : (if ∃ x ∈ S.names, (x.2 : Int) = n then S.files n else none) = some f := hf
     split at hf
     ·exact h.gone n f hf
     ·cases hf
    inS := fun e he => by
     show (if ∃ x ∈ S.names, (x.2 : Int) = (e.n : Int) then S.files (e.n : Int) else none).isSome
     rw [if_pos ⟨prE e, h.names.perm.mem_iff.2 (List.mem_map_of_mem he), rfl⟩]
     exact h.inD e he
    inM := fun x hx => by cases hx
    used := h.used }
  have h2 := hs.count ho (by have := h.opsb.2; show R.ops + 1 ≤ ((k + 1 : Nat) : Int); omega)
  rw [ho] at h2
  exact h2
 ·exact ⟨rfl, hm⟩
def createVal (S : St) (a : ByteArray) : Int := if createErr S a = 0 then S.last + 1 else 0
def St.create (S : St) (a : ByteArray) : St := if createErr S a = 0 then S.created a else S
theorem Sim.create (h : Sim D k S R) (a : ByteArray) : createVal S a = (createR R a).1.1 ∧ createErr S a = (createR R a).1.2 ∧ Sim D (k + 1) (S.create a) (createR R a).2 := by
 have hm := h.mono (D' := D) (k' := k + 1) (by omega) (by omega)
 have bad : ∀ E : Int, E ≠ 0 → createErr S a = E → createR R a = ((0, E), R) → createVal S a = (createR R a).1.1 ∧ createErr S a = (createR R a).1.2 ∧ Sim D (k + 1) (S.create a) (createR R a).2 := by
  intro E h0 e1 g3
  have g1 : createVal S a = 0 := by unfold createVal; rw [e1, if_neg h0]
  have g2 : S.create a = S := by unfold St.create; rw [e1, if_neg h0]
  rw [g1, g2, g3, e1]
  exact ⟨rfl, rfl, hm⟩
 cases ho : R.off
 ·cases hno : nameOk a
  ·exact bad 20 (by decide) (by unfold createErr; rw [h.dead, ho, hno]; rfl) (by unfold createR; rw [nameR_bad ho hno]; rfl)
  ·rcases h.names.at_cases a with ⟨q1, q2, q3⟩ | ⟨j, hj, q1, q2, q3⟩
   ·by_cases hl : 4096 ≤ R.d.length
    ·exact bad 6 (by decide) (by unfold createErr; rw [h.dead, ho, hno, q2, h.names.len]; simp [hl]) (by unfold createR; rw [nameR_ok ho hno, if_neg (by simp), if_neg (c := 0 ≤ atR R.d a) (by omega), if_pos hl])
    ·have e1 : createErr S a = 0 := by unfold createErr; rw [h.dead, ho, hno, q2, h.names.len]; simp [hl]
     have g1 : createVal S a = S.last + 1 := by unfold createVal; rw [e1, if_pos rfl]
     have g2 : S.create a = S.created a := by unfold St.create; rw [e1, if_pos rfl]
     have g3 : createR R a = (((R.f.length : Int) + 1, 0), ({ R with f := R.f ++ [⟨R.f.length + 1, ⟨#[]⟩, [], ⟨#[]⟩⟩] } : RS).changed ⟨99, a, ⟨#[]⟩, R.f.length + 1⟩) := by
      unfold createR
      rw [nameR_ok ho hno, if_neg (by simp), if_neg (c := 0 ≤ atR R.d a) (by omega), if_neg hl]
     rw [g1, g2, g3]
     refine ⟨by rw [h.last], e1, ?_⟩
     have eN : (S.last + 1).toNat = R.f.length + 1 := by rw [h.last]; omega
     have eI : S.last + 1 = ((R.f.length + 1 : Nat) : Int) := by rw [h.last]; omega
     have ok : MoveOk R.d ⟨99, a, ⟨#[]⟩, R.f.length + 1⟩ := ⟨.inl ⟨rfl, q3, hno, by show 1 ≤ R.f.length + 1; omega, fun e he => by have := h.num (h.inD e he); show e.n ≠ R.f.length + 1; omega⟩, fun _ => rfl⟩
     obtain ⟨lost, k1, k2, k3, k4⟩ := h.names.moved ok
     have em : movedR R.d ⟨99, a, ⟨#[]⟩, R.f.length + 1⟩ = R.d ++ [⟨a, R.f.length + 1⟩] := by unfold movedR; rw [if_pos rfl]
     have ec : chOf ⟨99, a, ⟨#[]⟩, R.f.length + 1⟩ = ⟨⟨#[]⟩, a, R.f.length + 1⟩ := by unfold chOf; rw [if_pos rfl]
     have ef : (followL S.names (chOf ⟨99, a, ⟨#[]⟩, R.f.length + 1⟩)).1 = aput S.names a (R.f.length + 1) := by
      rw [ec]
      unfold followL
      rw [if_neg (empty_ne (nameOk_ne hno)), if_pos (by rfl)]
     have hnone : S.files ((R.f.length + 1 : Nat) : Int) = none := by
      cases hf : S.files ((R.f.length + 1 : Nat) : Int) with
      | none => rfl
      | some f => obtain ⟨_, hi, _⟩ := h.files _ f hf; omega
     have hsome : ∀ q : Int, (S.files q).isSome → ((if q = ((R.f.length + 1 : Nat) : Int) then some (⟨false, [], [], []⟩ : Fl) else S.files q)).isSome := fun q hq => by
      by_cases e : q = ((R.f.length + 1 : Nat) : Int)
      ·rw [if_pos e]; rfl
      ·rw [if_neg e]; exact hq
     have hs : Sim D (k + 1) (({ S with last := S.last + 1, names := aput S.names a (S.last + 1).toNat, changes := S.changes ++ [⟨⟨#[]⟩, a, (S.last + 1).toNat⟩] } : St).setFile (S.last + 1) ⟨false, [], [], []⟩)
       (⟨R.f ++ [⟨R.f.length + 1, ⟨#[]⟩, [], ⟨#[]⟩⟩], movedR R.d ⟨99, a, ⟨#[]⟩, R.f.length + 1⟩, R.safe, R.m ++ [⟨99, a, ⟨#[]⟩, R.f.length + 1⟩], R.cap, R.ops, R.left, R.off⟩ : RS) := by
      rw [eN, eI]
      exact
      {cap := h.cap
       capb := h.capb
       ops := h.ops
       opsb := hm.opsb
       dead := h.dead
       armed := h.armed
       armb := h.armb
       left := h.left
       last := by show ((R.f.length + 1 : Nat) : Int) = ((R.f ++ [_]).length : Int); simp
       fl := by show (R.f ++ [_]).length ≤ k + 1; have := h.fl; simp; omega
       ml := by show (R.m ++ [_]).length ≤ k + 1; have := h.ml; simp; omega
       names := by show Dir (aput S.names a (R.f.length + 1)) _; rw [← ef]; exact k2
       safe := h.safe
       chs := by show S.changes ++ [_] = (R.m ++ [_]).map chOf; rw [h.chs, List.map_append, List.map_cons, ec]; rfl
       dm := by
        have := crashD_last (R := R) (R1 := (⟨R.f ++ [⟨R.f.length + 1, ⟨#[]⟩, [], ⟨#[]⟩⟩], movedR R.d ⟨99, a, ⟨#[]⟩, R.f.length + 1⟩, R.safe, R.m ++ [⟨99, a, ⟨#[]⟩, R.f.length + 1⟩], R.cap, R.ops, R.left, R.off⟩ : RS)) (m := ⟨99, a, ⟨#[]⟩, R.f.length + 1⟩) rfl rfl
        rw [← h.dm] at this
        have e5 : (R.m ++ [(⟨99, a, ⟨#[]⟩, R.f.length + 1⟩ : RM)]).length = R.m.length + 1 := by simp
        rw [← e5] at this
        exact this.symm
       mv := mv_app (R := R) rfl rfl h.dm h.mv ok
       nums := fun i hi => by
        have hi : i < (R.f ++ [(⟨R.f.length + 1, ⟨#[]⟩, [], ⟨#[]⟩⟩ : RFl)]).length := hi
        show (R.f ++ [(⟨R.f.length + 1, ⟨#[]⟩, [], ⟨#[]⟩⟩ : RFl)])[i].n = i + 1
        by_cases e : i < R.f.length
        ·rw [List.getElem_append_left e]; exact h.nums i e
        ·obtain rfl : i = R.f.length := by simp at hi; omega
         simp
       good := fun x hx => by
        rcases List.mem_append.1 hx with hx | hx
        ·exact hm.good x hx
        ·rw [List.mem_singleton.1 hx]; exact GoodX.fresh (Nat.zero_le _)
       files := fun q f' hq => by
        have hq : (if q = ((R.f.length + 1 : Nat) : Int) then some (⟨false, [], [], []⟩ : Fl) else S.files q) = some f' := hq
        have hl : ∀ i, i ≤ R.f.length → i < (R.f ++ [(⟨R.f.length + 1, ⟨#[]⟩, [], ⟨#[]⟩⟩ : RFl)]).length := fun i hi => by simp; omega
        by_cases e : q = ((R.f.length + 1 : Nat) : Int)
        ·rw [if_pos e] at hq
         injection hq with hq
         subst hq
         refine ⟨by omega, hl _ (by omega), ?_⟩
         have e2 : (q - 1).toNat = R.f.length := by omega
         have : (R.f ++ [(⟨R.f.length + 1, ⟨#[]⟩, [], ⟨#[]⟩⟩ : RFl)])[(q - 1).toNat]? = some ⟨R.f.length + 1, ⟨#[]⟩, [], ⟨#[]⟩⟩ := by rw [e2]; simp
         rw [List.getElem?_eq_getElem (hl _ (by omega))] at this
         injection this with this
         show FS2 _ ((R.f ++ [(⟨R.f.length + 1, ⟨#[]⟩, [], ⟨#[]⟩⟩ : RFl)])[(q - 1).toNat]'(hl _ (by omega)))
         rw [this]
         exact ⟨rfl, rfl, rfl⟩
        ·rw [if_neg e] at hq
         obtain ⟨k1, hi, k2⟩ := h.files q f' hq
         refine ⟨k1, hl _ (Nat.le_of_lt hi), ?_⟩
         show FS2 _ ((R.f ++ [(⟨R.f.length + 1, ⟨#[]⟩, [], ⟨#[]⟩⟩ : RFl)])[(q - 1).toNat]'(hl _ (Nat.le_of_lt hi)))
         rw [List.getElem_append_left hi]
         exact k2
       gone := fun q f' hq => by
        have hq : (if q = ((R.f.length + 1 : Nat) : Int) then some (⟨false, [], [], []⟩ : Fl) else S.files q) = some f' := hq
        suffices hgo : f'.gone = false ↔ ∃ e ∈ R.d ++ [(⟨a, R.f.length + 1⟩ : RE)], (e.n : Int) = q by
         rw [← em] at hgo
         exact hgo
        by_cases e : q = ((R.f.length + 1 : Nat) : Int)
        ·rw [if_pos e] at hq
         injection hq with hq
         subst hq
         exact ⟨fun _ => ⟨⟨a, R.f.length + 1⟩, List.mem_append_right _ (List.mem_singleton.2 rfl), e.symm⟩, fun _ => rfl⟩
        ·rw [if_neg e] at hq
         rw [h.gone q f' hq]
         constructor
         ·rintro ⟨x, hx, hxn⟩
          exact ⟨x, List.mem_append_left _ hx, hxn⟩
         ·rintro ⟨x, hx, hxn⟩
          rcases List.mem_append.1 hx with hx | hx
          ·exact ⟨x, hx, hxn⟩
          ·rw [List.mem_singleton.1 hx] at hxn
           exact absurd hxn.symm e
       inS := fun e he => hsome _ (h.inS e he)
       inM := fun x hx hk => by
        rcases List.mem_append.1 hx with hx | hx
        ·exact hsome _ (h.inM x hx hk)
        ·rw [List.mem_singleton.1 hx]
         show ((if ((R.f.length + 1 : Nat) : Int) = ((R.f.length + 1 : Nat) : Int) then some (⟨false, [], [], []⟩ : Fl) else _)).isSome
         rw [if_pos rfl]
         rfl
       used := by
        suffices hgo : S.used = ((sumF (hP (⟨R.f ++ [⟨R.f.length + 1, ⟨#[]⟩, [], ⟨#[]⟩⟩], movedR R.d ⟨99, a, ⟨#[]⟩, R.f.length + 1⟩, R.safe, R.m ++ [⟨99, a, ⟨#[]⟩, R.f.length + 1⟩], R.cap, R.ops, R.left, R.off⟩ : RS)) ((R.d ++ [(⟨a, R.f.length + 1⟩ : RE)]).map prE) : Nat) : Int) by
         have em2 := em
         rw [← em2] at hgo
         exact hgo
        rw [List.map_append, sumF_append, h.used]
        have e1 : ∀ R1 : RS, R1.f = R.f ++ [(⟨R.f.length + 1, ⟨#[]⟩, [], ⟨#[]⟩⟩ : RFl)] → sumF (hP R) (R.d.map prE) = sumF (hP R1) (R.d.map prE) := fun R1 hR1 => by
         refine sumF_eq fun y hy => ?_
         obtain ⟨e, he, rfl⟩ := List.mem_map.1 hy
         have := h.num (h.inD e he)
         show (R.f.getD (e.n - 1) noFl).p.size = (R1.f.getD (e.n - 1) noFl).p.size
         rw [hR1, List.getD_eq_getElem?_getD, List.getD_eq_getElem?_getD, List.getElem?_append_left (by omega)]
        have e2 : ∀ R1 : RS, R1.f = R.f ++ [(⟨R.f.length + 1, ⟨#[]⟩, [], ⟨#[]⟩⟩ : RFl)] → sumF (hP R1) ([(⟨a, R.f.length + 1⟩ : RE)].map prE) = 0 := fun R1 hR1 => by
         show (R1.f.getD (R.f.length + 1 - 1) noFl).p.size + 0 = 0
         rw [hR1, List.getD_eq_getElem?_getD, show R.f.length + 1 - 1 = R.f.length from by omega, List.getElem?_append_right (Nat.le_refl _), Nat.sub_self]
         rfl
        have e3 : ∀ R1 : RS, R1.f = R.f ++ [(⟨R.f.length + 1, ⟨#[]⟩, [], ⟨#[]⟩⟩ : RFl)] → ((sumF (hP R) (R.d.map prE) : Nat) : Int) = ((sumF (hP R1) (R.d.map prE) + sumF (hP R1) ([(⟨a, R.f.length + 1⟩ : RE)].map prE) : Nat) : Int) := fun R1 hR1 => by
         rw [← e1 R1 hR1, e2 R1 hR1]
         rfl
        exact e3 _ rfl }
     exact hs.count ho (by have := h.opsb.2; show R.ops + 1 ≤ ((k + 1 : Nat) : Int); omega)
   ·exact bad 8 (by decide) (by unfold createErr; rw [h.dead, ho, hno, q2]; rfl) (by unfold createR; rw [nameR_ok ho hno, if_neg (by simp), if_pos (c := 0 ≤ atR R.d a) (by omega)])
 ·exact bad 21 (by decide) (by unfold createErr; rw [h.dead, ho]; rfl) (by unfold createR; rw [nameR_off ho]; rfl)
end
end Go.Proofs.YtmcmlkglkpbnpaaGreat
namespace Go.Proofs.YtmcmlkglkpbnpaaGreat
theorem tornM_get (tl : List Tn) (m0 : List (Int × Tn)) (n : Int) : aget (tl.foldl tornM m0) n = (aget m0 n).or (tl.find? (fun t => t.1 == n)) := by
 induction tl generalizing m0 with
 | nil => simp
 | cons t tl ih =>
  rw [List.foldl_cons, ih]
  by_cases e : t.1 = n
  ·subst e
   rw [List.find?_cons_of_pos (by simp)]
   unfold tornM
   cases hg : aget m0 t.1 with
   | none => rw [if_neg (by simp), aget_aput, if_pos rfl]; rfl
   | some v => rw [if_pos (by rfl), hg]; rfl
  ·rw [List.find?_cons_of_neg (by simpa using e)]
   congr 1
   unfold tornM
   split
   ·rfl
   ·rw [aget_aput, if_neg (fun q => e q.symm)]
theorem tornM_all (tl : List Tn) (n : Int) : (aget (tl.foldl tornM []) n).getD (0, 0, 0) = tornR tl n := by
 rw [tornM_get]
 rfl
section
variable {D k : Nat} {S : St} {R : RS}
theorem tearK_is {f : Fl} {x : RFl} (h : FS2 f x) (t : Tn) : tearK f t.2.1 = leftN x t := by
 unfold tearK leftN clampI
 rw [h.waits, List.length_map]
 omega
theorem take_done {f : Fl} {x : RFl} (h : FS2 f x) (j : Nat) : (f.waits.take j).foldl doW f.safe = bl (doneL x.safe (x.l.take j)) := by
 rw [h.waits, h.safe, bl_doneL, List.map_take]
theorem tearF_is {f : Fl} {x : RFl} (h : FS2 f x) (t : Tn) : tearF f t.2.1 t.2.2 = bl (tearP x t) := by
 unfold tearF tearP
 rw [tearK_is h, take_done h]
 by_cases hl : leftN x t < x.l.length
 ·rw [dif_pos hl]
  have e1 : f.waits[leftN x t]? = some (wrOf (x.l[leftN x t])) := by rw [h.waits, List.getElem?_map, List.getElem?_eq_getElem hl]; rfl
  rw [e1]
  generalize x.l[leftN x t] = d
  generalize doneL x.safe (x.l.take (leftN x t)) = p
  show (if d.cut then bl p else doW (bl p) ⟨false, d.at_, (bl d.p).take (clampI t.2.2 (bl d.p).length).toNat⟩) = _
  cases hc : d.cut
  ·simp only [Bool.false_eq_true, if_false, true_and]
   by_cases hb : 0 < t.2.2
   ·rw [if_pos hb, bl_done (Nat.min_le_right _ _), hc]
    congr 3
    unfold clampI
    rw [bl_len]
    omega
   ·rw [if_neg hb]
    have : (clampI t.2.2 (bl d.p).length).toNat = 0 := by unfold clampI; omega
    rw [this]
    simp [doW]
  ·simp
 ·rw [dif_neg hl]
  have e1 : f.waits[leftN x t]? = none := by rw [h.waits, List.getElem?_map, List.getElem?_eq_none (by omega)]; rfl
  rw [e1]
theorem tearP_size {x : RFl} (h : GoodX D k x) (t : Tn) : (tearP x t).size ≤ D := by
 unfold tearP
 by_cases hl : leftN x t < x.l.length
 ·rw [dif_pos hl]
  have h1 := h.sz _ (Nat.le_of_lt hl)
  have h2 := h.sz _ (show leftN x t + 1 ≤ x.l.length from hl)
  have h3 := (h.wr _ hl).1
  rw [doneL_succ _ hl, done_size (Nat.le_refl _) h3] at h2
  split
  ·rename_i hc
   rw [done_size (Nat.min_le_right _ _) h3, hc.1]
   rw [hc.1] at h2
   simp only [Bool.false_eq_true, if_false] at h2 ⊢
   omega
  ·exact h1
 ·rw [dif_neg hl]
  exact h.sz _ (by unfold leftN; omega)
theorem Sim.fGood (h : Sim D k S R) (hD : D ≤ 1600000) (hk : k ≤ 1000) : ∀ n f, S.files n = some f → f.Good := by
 intro n f hf
 obtain ⟨_, hi, e⟩ := h.files n f hf
 have g := h.good _ (List.getElem_mem hi)
 generalize R.f[(n - 1).toNat] = x at e g
 refine ⟨by rw [e.waits, List.length_map]; have := g.len; omega, by rw [e.safe, bl_len]; have := g.ssz; omega, fun j hj => ?_⟩
 have hj' : j < x.l.length := by rw [e.waits, List.length_map] at hj; exact hj
 have e1 : f.waits[j] = wrOf x.l[j] := by
  have : f.waits[j]? = some (wrOf x.l[j]) := by rw [e.waits, List.getElem?_map, List.getElem?_eq_getElem hj']; rfl
  rw [List.getElem?_eq_getElem hj] at this
  injection this
 rw [e1, take_done e, bl_len]
 show x.l[j].at_ ≤ _ ∧ _ + (bl x.l[j].p).length ≤ _
 rw [bl_len]
 have h1 := g.wr j hj'
 have h2 := g.sz j (Nat.le_of_lt hj')
 exact ⟨h1.1, by omega⟩
theorem Sim.kinds (h : Sim D k S R) : ∀ m ∈ R.m, m.kind = 99 ∨ m.kind = 100 ∨ m.kind = 114 := by
 intro m hm
 obtain ⟨j, hj, rfl⟩ := List.getElem_of_mem hm
 rcases (h.mv j hj).1 with h | h | h
 ·exact .inl h.1
 ·exact .inr (.inl h.1)
 ·exact .inr (.inr h.1)
theorem Sim.crashK (h : Sim D k S R) (dir : Int) : crashK S dir = crashN R dir := by
 unfold Go.Proofs.YtmcmlkglkpbnpaaGreat.crashK crashN clampI
 rw [h.chs, List.length_map]
 omega
theorem crashN_le (dir : Int) : crashN R dir ≤ R.m.length := by unfold crashN; omega
def St.crashed (S : St) (dir : Int) (tl : List Tn) (ks : List Int) : St := { (S.fallen dir).torn (tl.foldl tornM []) ks with dead := false, armed := 0 }
theorem Sim.crash (h : Sim D k S R) (dir : Int) (tl : List Tn) (ks : List Int) (hnd : ks.Nodup) (hks : ∀ n, n ∈ ks ↔ ∃ x ∈ followed S.safe (S.changes.take (Go.Proofs.YtmcmlkglkpbnpaaGreat.crashK S dir)), (x.2 : Int) = n) :
  Sim D (k + 1) (S.crashed dir tl ks) (crashR R dir tl) := by
 have hm := h.mono (D' := D) (k' := k + 1) (by omega) (by omega)
 obtain ⟨hd1, hd2⟩ := h.dirs (crashN R dir) (crashN_le dir)
 rw [h.crashK] at hks
 obtain ⟨F, hF⟩ : ∃ F, F = followed S.safe (S.changes.take (crashN R dir)) := ⟨_, rfl⟩
 obtain ⟨d', hd'⟩ : ∃ d', d' = crashD R (crashN R dir) := ⟨_, rfl⟩
 rw [← hF] at hks hd1
 rw [← hd'] at hd1 hd2
 have hfall : S.fallen dir = ({ S with safe := F } : St).settled F := by unfold St.fallen; rw [h.crashK, ← hF]
 have hR : crashR R dir tl = ⟨R.f.map (fun x => tearR x (tornR tl x.n)), d', d', [], R.cap, R.ops, -1, false⟩ := by unfold crashR; rw [← hd']
 have hS : S.crashed dir tl ks = { (({ S with safe := F } : St).settled F).torn (tl.foldl tornM []) ks with dead := false, armed := 0 } := by unfold St.crashed; rw [hfall]
 have hmem : ∀ n : Int, n ∈ ks ↔ ∃ e ∈ d', (e.n : Int) = n := fun n => by
  rw [hks]
  constructor
  ·rintro ⟨x, hx, hxn⟩
   obtain ⟨e, he, rfl⟩ := List.mem_map.1 (hd1.perm.mem_iff.1 hx)
   exact ⟨e, he, hxn⟩
  ·rintro ⟨e, he, hen⟩
   exact ⟨prE e, hd1.perm.mem_iff.2 (List.mem_map_of_mem he), hen⟩
 have hfiles : ∀ n, (S.crashed dir tl ks).files n = if n ∈ ks then (S.files n).map (tornFl (tl.foldl tornM []) n) else none := by
  intro n
  rw [hS]
  show (if n ∈ ks then (if ∃ x ∈ F, (x.2 : Int) = n then S.files n else none).map (tornFl (tl.foldl tornM []) n) else (if ∃ x ∈ F, (x.2 : Int) = n then S.files n else none)) = _
  by_cases e : n ∈ ks
  ·rw [if_pos e, if_pos e, if_pos ((hks n).1 e)]
  ·rw [if_neg e, if_neg e, if_neg (fun q => e ((hks n).2 q))]
 have hlen : (R.f.map (fun x => tearR x (tornR tl x.n))).length = R.f.length := List.length_map _
 have hone : ∀ n f', (S.crashed dir tl ks).files n = some f' → n ∈ ks ∧ ∃ f, S.files n = some f ∧ f' = tornFl (tl.foldl tornM []) n f ∧ 1 ≤ n ∧ ∃ hi : (n - 1).toNat < R.f.length, FS2 f R.f[(n - 1).toNat] ∧ FS2 f' (tearR R.f[(n - 1).toNat] (tornR tl R.f[(n - 1).toNat].n)) ∧ (R.f[(n - 1).toNat].n : Int) = n := by
  intro n f' hq
  rw [hfiles] at hq
  by_cases e : n ∈ ks
  ·rw [if_pos e] at hq
   cases hf : S.files n with
   | none => rw [hf] at hq; cases hq
   | some f =>
    rw [hf] at hq
    injection hq with hq
    obtain ⟨h1, hi, h2⟩ := h.files n f hf
    have hn : (R.f[(n - 1).toNat].n : Int) = n := by rw [h.nums _ hi]; omega
    refine ⟨e, f, rfl, hq.symm, h1, hi, h2, ?_, hn⟩
    have et : tornFl (tl.foldl tornM []) n f = ⟨false, bl (tearP R.f[(n - 1).toNat] (tornR tl R.f[(n - 1).toNat].n)), bl (tearP R.f[(n - 1).toNat] (tornR tl R.f[(n - 1).toNat].n)), []⟩ := by
     unfold tornFl
     rw [tornM_all, tearF_is h2, hn]
    rw [← hq, et]
    exact ⟨rfl, rfl, rfl⟩
  ·rw [if_neg e] at hq; cases hq
 have hin : ∀ e ∈ d', ((S.crashed dir tl ks).files (e.n : Int)).isSome := fun e he => by
  rw [hfiles, if_pos ((hmem _).2 ⟨e, he, rfl⟩), Option.isSome_map]
  exact hd2 e he
 rw [hR]
 exact
 {cap := by rw [hS]; exact h.cap
  capb := h.capb
  ops := by rw [hS]; exact h.ops
  opsb := hm.opsb
  dead := by rw [hS]
  armed := fun _ => by rw [hS]; rfl
  armb := by rw [hS]; show (0 : Int) ≤ _; omega
  left := by constructor <;> (show _ ≤ _; simp only []; omega)
  last := by rw [hS]; show S.last = ((R.f.map _).length : Int); rw [hlen]; exact h.last
  fl := by show (R.f.map _).length ≤ k + 1; rw [hlen]; exact hm.fl
  ml := Nat.zero_le _
  names := by rw [hS]; exact hd1
  safe := by rw [hS]; exact hd1
  chs := by rw [hS]; rfl
  dm := rfl
  mv := fun j hj => absurd hj (Nat.not_lt_zero j)
  nums := fun i hi => by
   have hi' : i < R.f.length := by have : i < (R.f.map (fun x => tearR x (tornR tl x.n))).length := hi; rwa [hlen] at this
   show (R.f.map (fun x => tearR x (tornR tl x.n)))[i].n = i + 1
   rw [List.getElem_map]
   exact h.nums i hi'
  good := fun x hx => by
   obtain ⟨y, hy, rfl⟩ := List.mem_map.1 hx
   exact GoodX.fresh (tearP_size (h.good y hy) _)
  files := fun n f' hq => by
   obtain ⟨_, f, _, _, h1, hi, _, h3, _⟩ := hone n f' hq
   have hi2 : (n - 1).toNat < (R.f.map (fun x => tearR x (tornR tl x.n))).length := by rw [hlen]; exact hi
   refine ⟨h1, hi2, ?_⟩
   show FS2 f' ((R.f.map (fun x => tearR x (tornR tl x.n)))[(n - 1).toNat]'hi2)
   rw [List.getElem_map]
   exact h3
  gone := fun n f' hq => by
   obtain ⟨hk, f, _, hf, _⟩ := hone n f' hq
   rw [hf]
   exact ⟨fun _ => (hmem n).1 hk, fun _ => rfl⟩
  inS := hin
  inM := fun x hx => by cases hx
  used := by
   rw [hS]
   show (((ks.map fun n => ((((if ∃ x ∈ F, (x.2 : Int) = n then S.files n else none)).map (tornFl (tl.foldl tornM []) n)).map fun f => f.bytes.length).getD 0).sum : Nat) : Int) = _
   have hp : ks.Perm (d'.map (fun e => (e.n : Int))) := by
    refine (List.perm_ext_iff_of_nodup hnd ?_).2 fun n => ?_
    ·have := hd1.ok.vals
     rw [show d'.map (fun e => (e.n : Int)) = (d'.map (·.n)).map (fun n : Nat => (n : Int)) by rw [List.map_map]; rfl]
     exact List.Pairwise.map _ (fun a b hab he => hab (by omega)) this
    ·rw [hmem]
     constructor
     ·rintro ⟨e, he, hen⟩; exact List.mem_map.2 ⟨e, he, hen⟩
     ·intro hx; obtain ⟨e, he, hen⟩ := List.mem_map.1 hx; exact ⟨e, he, hen⟩
   rw [(hp.map _).sum_nat, List.map_map]
   unfold sumF
   rw [List.map_map]
   congr 2
   refine List.map_congr_left fun e he => ?_
   have hk : (e.n : Int) ∈ ks := (hmem _).2 ⟨e, he, rfl⟩
   obtain ⟨f', hf'⟩ := Option.isSome_iff_exists.1 (hin e he)
   obtain ⟨_, f, q1, q2, q3, hi, _, q4, _⟩ := hone _ f' hf'
   show ((((if ∃ x ∈ F, (x.2 : Int) = (e.n : Int) then S.files (e.n : Int) else none)).map (tornFl (tl.foldl tornM []) (e.n : Int))).map fun f => f.bytes.length).getD 0 = ((R.f.map (fun x => tearR x (tornR tl x.n))).getD (e.n - 1) noFl).p.size
   rw [if_pos ((hks _).1 hk), q1]
   show (tornFl (tl.foldl tornM []) (e.n : Int) f).bytes.length = _
   rw [← q2, q4.bytes, bl_len]
   have e1 : e.n - 1 = ((e.n : Int) - 1).toNat := by omega
   rw [e1, List.getD_eq_getElem?_getD, List.getElem?_map, List.getElem?_eq_getElem hi]
   rfl }
end
end Go.Proofs.YtmcmlkglkpbnpaaGreat
