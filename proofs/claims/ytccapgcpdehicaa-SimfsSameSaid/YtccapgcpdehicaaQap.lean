/-
  The document's file system (quiverref02): its plain state, and how it lies in memory.
-/
import Derived.Test.YtccapgcpdehicaaQak
import Derived.Test.YtccapgcpdehicaaQal
import Derived.Test.YtccapgcpdehicaaQao
import Derived.Test.YtccapgcpdehicaaQac
import Derived.Laws.OwnMore

namespace Go.Proofs.Ytccapgcpdehicaa

def sumF (h : Nat → Nat) (l : List (ByteArray × Nat)) : Nat := (l.map fun x => h x.2).sum
theorem sumF_append (h : Nat → Nat) (a b : List (ByteArray × Nat)) : sumF h (a ++ b) = sumF h a + sumF h b := by simp [sumF]
theorem sumF_cons (h : Nat → Nat) (x : ByteArray × Nat) (l : List (ByteArray × Nat)) : sumF h (x :: l) = h x.2 + sumF h l := by simp [sumF]
theorem sumF_eq {h h' : Nat → Nat} : ∀ {l : List (ByteArray × Nat)}, (∀ x ∈ l, h x.2 = h' x.2) → sumF h l = sumF h' l
  | [], _ => rfl
  | x :: l, k => by
    rw [sumF_cons, sumF_cons, k x (by simp), sumF_eq (l := l) (fun y hy => k y (by simp [hy]))]
theorem sumF_mem {h : Nat → Nat} : ∀ {l : List (ByteArray × Nat)} {x : ByteArray × Nat}, x ∈ l → h x.2 ≤ sumF h l
  | y :: l, x, hx => by
    rw [sumF_cons]
    rcases List.mem_cons.1 hx with rfl | hx
    · omega
    · have := sumF_mem (h := h) hx
      omega
/-- One number's length changes. -/
theorem sumF_one {h h' : Nat → Nat} {n : Nat} : ∀ {l : List (ByteArray × Nat)}, (l.map (·.2)).Nodup → n ∈ l.map (·.2) → (∀ m, m ≠ n → h m = h' m) → sumF h' l + h n = sumF h l + h' n
  | [], _, hn, _ => by simp at hn
  | x :: l, hd, hn, k => by
    rw [sumF_cons, sumF_cons]
    rw [List.map_cons, List.nodup_cons] at hd
    by_cases e : x.2 = n
    · have hl : sumF h l = sumF h' l := sumF_eq fun y hy => k y.2 (fun e2 => hd.1 (by rw [e, ← e2]; exact List.mem_map_of_mem hy))
      rw [e, hl]
      omega
    · have hn' : n ∈ l.map (·.2) := by
        rw [List.map_cons] at hn
        rcases List.mem_cons.1 hn with hn | hn
        · exact absurd hn.symm e
        · exact hn
      have := sumF_one hd.2 hn' k
      rw [k x.2 e]
      omega

section
variable {κ ν : Type} [DecidableEq κ]
theorem aget_none {l : List (κ × ν)} {k : κ} (h : aget l k = none) : ∀ x ∈ l, x.1 ≠ k := by
  induction l with
  | nil => intro x hx; cases hx
  | cons y l ih =>
    obtain ⟨a, u⟩ := y
    simp only [aget] at h
    by_cases e : a = k
    · rw [if_pos e] at h; cases h
    · rw [if_neg e] at h
      intro x hx
      rcases List.mem_cons.1 hx with rfl | hx
      · exact e
      · exact ih h x hx
theorem aput_none {l : List (κ × ν)} {k : κ} {v : ν} (h : aget l k = none) : aput l k v = l ++ [(k, v)] := by
  induction l with
  | nil => rfl
  | cons y l ih =>
    obtain ⟨a, u⟩ := y
    simp only [aget] at h
    by_cases e : a = k
    · rw [if_pos e] at h; cases h
    · rw [if_neg e] at h
      simp only [aput, if_neg e, ih h, List.cons_append]
theorem aput_keys {l : List (κ × ν)} {k : κ} {v w : ν} (h : aget l k = some w) : (aput l k v).map (·.1) = l.map (·.1) := by
  induction l with
  | nil => cases h
  | cons y l ih =>
    obtain ⟨a, u⟩ := y
    simp only [aget] at h
    by_cases e : a = k
    · simp [aput, e]
    · rw [if_neg e] at h
      simp only [aput, if_neg e, List.map_cons, ih h]
theorem aput_mem {l : List (κ × ν)} {k : κ} {v : ν} (hd : (l.map (·.1)).Nodup) {x : κ × ν} : x ∈ aput l k v ↔ x = (k, v) ∨ (x ∈ l ∧ x.1 ≠ k) := by
  induction l with
  | nil => simp [aput]
  | cons y l ih =>
    obtain ⟨a, u⟩ := y
    rw [List.map_cons, List.nodup_cons] at hd
    by_cases e : a = k
    · subst e
      rw [show aput ((a, u) :: l) a v = (a, v) :: l from by simp [aput]]
      constructor
      · intro h
        rcases List.mem_cons.1 h with h | h
        · exact .inl h
        · exact .inr ⟨List.mem_cons_of_mem _ h, fun e2 => hd.1 (List.mem_map.2 ⟨x, h, e2⟩)⟩
      · intro h
        rcases h with h | ⟨h, h2⟩
        · exact List.mem_cons.2 (.inl h)
        · rcases List.mem_cons.1 h with h | h
          · subst h; exact absurd rfl h2
          · exact List.mem_cons.2 (.inr h)
    · rw [show aput ((a, u) :: l) k v = (a, u) :: aput l k v from by simp [aput, e]]
      constructor
      · intro h
        rcases List.mem_cons.1 h with h | h
        · subst h; exact .inr ⟨List.mem_cons_self .., e⟩
        · rcases (ih hd.2).1 h with h | ⟨h, h2⟩
          · exact .inl h
          · exact .inr ⟨List.mem_cons_of_mem _ h, h2⟩
      · intro h
        rcases h with h | ⟨h, h2⟩
        · exact List.mem_cons.2 (.inr ((ih hd.2).2 (.inl h)))
        · rcases List.mem_cons.1 h with h | h
          · exact List.mem_cons.2 (.inl h)
          · exact List.mem_cons.2 (.inr ((ih hd.2).2 (.inr ⟨h, h2⟩)))
end

theorem aput_vals {l : List (ByteArray × Nat)} {k : ByteArray} {v : Nat} (hd : (l.map (·.1)).Nodup) (hv : (l.map (·.2)).Nodup) (hn : v ∉ l.map (·.2)) : ((aput l k v).map (·.2)).Nodup := by
  induction l with
  | nil => simp [aput]
  | cons y l ih =>
    obtain ⟨a, u⟩ := y
    rw [List.map_cons, List.nodup_cons] at hd hv
    rw [List.map_cons, List.mem_cons, not_or] at hn
    by_cases e : a = k
    · simp only [aput, if_pos e, List.map_cons, List.nodup_cons]
      exact ⟨hn.2, hv.2⟩
    · simp only [aput, if_neg e, List.map_cons, List.nodup_cons]
      refine ⟨fun hm => ?_, ih hd.2 hv.2 hn.2⟩
      obtain ⟨x, hx, hx2⟩ := List.mem_map.1 hm
      rcases (aput_mem hd.2).1 hx with rfl | ⟨hx, _⟩
      · exact hn.1 hx2
      · exact hv.1 (List.mem_map.2 ⟨x, hx, hx2⟩)
theorem aput_nodup {l : List (ByteArray × Nat)} {k : ByteArray} {v : Nat} (hd : (l.map (·.1)).Nodup) : ((aput l k v).map (·.1)).Nodup := by
  cases ha : aget l k with
  | none =>
    rw [aput_none ha, List.map_append, List.nodup_append]
    refine ⟨hd, by simp, fun a h1 b h2 e => ?_⟩
    obtain ⟨x, hx, rfl⟩ := List.mem_map.1 h1
    simp only [List.map_cons, List.map_nil, List.mem_singleton] at h2
    exact aget_none ha x hx (e.trans h2)
  | some w => rw [aput_keys ha]; exact hd

end Go.Proofs.Ytccapgcpdehicaa

namespace Go.Proofs.Ytccapgcpdehicaa

theorem ag_in {l : List (ByteArray × Nat)} {a : ByteArray} {n : Nat} (ha : aget l a = some n) : (a, n) ∈ l := by
  induction l with
  | nil => cases ha
  | cons z l ih =>
    obtain ⟨c, v⟩ := z
    simp only [aget] at ha
    by_cases e3 : c = a
    · rw [if_pos e3] at ha
      injection ha with ha
      rw [e3, ha]
      exact List.mem_cons_self ..
    · rw [if_neg e3] at ha
      exact List.mem_cons_of_mem _ (ih ha)
/-- The length of a file. -/
def hL (F : Int → Option Fl) (n : Nat) : Nat := match F (n : Int) with
  | some f => f.bytes.length
  | none => 0
theorem hL_some {F : Int → Option Fl} {n : Nat} {f : Fl} (h : F (n : Int) = some f) : hL F n = f.bytes.length := by unfold hL; rw [h]

/-- Behind at most k acts, with room for C bytes. -/
structure Fit (C : Int) (k : Nat) (S : St) : Prop where
  cap : S.cap = C
  dead : S.dead = false
  armed : S.armed = 0
  safe : S.safe = []
  used : S.used = ((sumF (hL S.files) S.names : Nat) : Int)
  room : S.used ≤ C
  keys : (S.names.map (·.1)).Nodup
  vals : (S.names.map (·.2)).Nodup
  there : ∀ x ∈ S.names, ∃ f, S.files (x.2 : Int) = some f ∧ f.gone = false
  named : ∀ n f, S.files n = some f → f.gone = false → n.toNat ∈ S.names.map (·.2)
  nums : ∀ n f, S.files n = some f → 0 < n ∧ n ≤ S.last
  last : 0 ≤ S.last ∧ S.last ≤ k
  ops : 0 ≤ S.ops ∧ S.ops ≤ k
  chs : S.changes.length ≤ k
  files : ∀ n f, S.files n = some f → (f.bytes.length : Int) ≤ C ∧ f.safe.length = 0 ∧ f.waits.length ≤ k
  cnt : S.names.length ≤ k
section
variable {C : Int} {k : Nat} {S : St}
theorem Fit.new (h : 0 ≤ C) : Fit C 0 (St.new C) :=
  { cap := rfl, dead := rfl, armed := rfl, safe := rfl, used := rfl, room := h, keys := List.nodup_nil, vals := List.nodup_nil, there := fun x hx => (by cases hx), named := fun _ _ h => (by cases h), nums := fun _ _ h => (by cases h), last := ⟨Int.le_refl _, Int.le_refl _⟩, ops := ⟨Int.le_refl _, Int.le_refl _⟩, chs := Nat.le_refl _, files := fun _ _ h => (by cases h), cnt := Nat.le_refl _ }
theorem Fit.more (h : Fit C k S) : Fit C (k + 1) S := by
  have h1 := h.last
  have h2 := h.ops
  have h3 := h.chs
  exact { h with last := ⟨h1.1, by omega⟩, ops := ⟨h2.1, by omega⟩, chs := by omega, files := fun n f hf => by have := h.files n f hf; exact ⟨this.1, this.2.1, by omega⟩, cnt := by have := h.cnt; omega }
theorem Fit.fine (h : Fit C k S) (h0 : 0 ≤ C) (hC : C ≤ 10000) (hk : k ≤ 1000) : Fine S := by
  have h1 := h.last
  have h2 := h.ops
  have h3 := h.chs
  have h4 := h.room
  have h5 := h.used
  have h6 := h.armed
  refine ⟨by omega, by omega, by omega, by omega, by omega, fun n f hf => ?_⟩
  have := h.files n f hf
  omega
theorem count_idle (h : S.armed = 0) : S.count = { S with ops := S.ops + 1 } := by
  unfold St.count
  rw [if_neg (by omega)]

theorem Fit.wrote (h : Fit C k S) {n : Int} {f : Fl} (hn : S.file n = some f) (x : Wr) (hr : S.used - f.bytes.length + (doW f.bytes x).length ≤ C) : Fit C (k + 1) (S.wrote n f x) := by
  obtain ⟨hf, hg⟩ := St.file_some hn
  have hn0 := h.nums n f hf
  have hnn : ((n.toNat : Nat) : Int) = n := by omega
  have h1 := h.last
  have h2 := h.ops
  have h3 := h.chs
  have hu := h.used
  unfold St.wrote
  rw [count_idle (by exact h.armed)]
  have es : ∀ m, m ≠ n.toNat → hL S.files m = hL (fun m => if m = n then some { f with bytes := doW f.bytes x, waits := f.waits ++ [x] } else S.files m) m := by
    intro m hm
    have e : (fun m => if m = n then some { f with bytes := doW f.bytes x, waits := f.waits ++ [x] } else S.files m) (m : Int) = S.files (m : Int) := if_neg (by omega)
    unfold hL
    rw [e]
  have e1 : hL S.files n.toNat = f.bytes.length := hL_some (by rw [hnn]; exact hf)
  have e2 : hL (fun m => if m = n then some { f with bytes := doW f.bytes x, waits := f.waits ++ [x] } else S.files m) n.toNat = (doW f.bytes x).length :=
    hL_some (f := { f with bytes := doW f.bytes x, waits := f.waits ++ [x] }) (if_pos hnn)
  have e3 := sumF_one h.vals (h.named n f hf hg) es
  rw [e1, e2] at e3
  have e4 : f.bytes.length ≤ sumF (hL S.files) S.names := by
    obtain ⟨y, hy, hy2⟩ := List.mem_map.1 (h.named n f hf hg)
    have := sumF_mem (h := hL S.files) hy
    have hy2 : y.2 = n.toNat := hy2
    rw [hy2, e1] at this
    exact this
  have hfl : ∀ m f', (if m = n then some { f with bytes := doW f.bytes x, waits := f.waits ++ [x] } else S.files m) = some f' → (m = n ∧ f' = { f with bytes := doW f.bytes x, waits := f.waits ++ [x] }) ∨ (m ≠ n ∧ S.files m = some f') := by
    intro m f' hm
    by_cases e : m = n
    · rw [if_pos e] at hm
      injection hm with hm
      exact .inl ⟨e, hm.symm⟩
    · rw [if_neg e] at hm
      exact .inr ⟨e, hm⟩
  refine ⟨h.cap, h.dead, h.armed, h.safe, ?_, hr, h.keys, h.vals, fun y hy => ?_, fun m f' hm hg' => ?_, fun m f' hm => ?_, ⟨h1.1, by show S.last ≤ ((k + 1 : Nat) : Int); omega⟩, ⟨by show 0 ≤ S.ops + 1; omega, by show S.ops + 1 ≤ ((k + 1 : Nat) : Int); omega⟩, by show S.changes.length ≤ k + 1; omega, fun m f' hm => ?_, h.more.cnt⟩
  · show S.used - f.bytes.length + (doW f.bytes x).length = ((sumF (hL (fun m => if m = n then some { f with bytes := doW f.bytes x, waits := f.waits ++ [x] } else S.files m)) S.names : Nat) : Int)
    omega
  · obtain ⟨f1, k1, k2⟩ := h.there y hy
    by_cases e : (y.2 : Int) = n
    · exact ⟨_, if_pos e, hg⟩
    · exact ⟨f1, (if_neg e).trans k1, k2⟩
  · rcases hfl m f' hm with ⟨rfl, rfl⟩ | ⟨_, hm⟩
    · exact h.named m f hf hg
    · exact h.named m f' hm hg'
  · rcases hfl m f' hm with ⟨rfl, rfl⟩ | ⟨_, hm⟩
    · exact hn0
    · exact h.nums m f' hm
  · rcases hfl m f' hm with ⟨rfl, rfl⟩ | ⟨_, hm⟩
    · have := h.files m f hf
      refine ⟨by show ((doW f.bytes x).length : Int) ≤ C; omega, this.2.1, ?_⟩
      show (f.waits ++ [x]).length ≤ k + 1
      rw [List.length_append]
      simp
      exact this.2.2
    · have := h.files m f' hm
      exact ⟨this.1, this.2.1, by omega⟩

theorem createErr_zero {name : ByteArray} (he : createErr S name = 0) : aget S.names name = none := by
  unfold createErr at he
  cases hd : S.dead
  · rw [hd] at he
    cases hno : nameOk name
    · rw [hno] at he; simp at he
    · rw [hno] at he
      cases hs : aget S.names name with
      | none => rfl
      | some v => rw [hs] at he; simp at he
  · rw [hd] at he; simp at he

theorem Fit.created (h : Fit C k S) {name : ByteArray} (he : createErr S name = 0) : Fit C (k + 1) (S.created name) := by
  have ha := createErr_zero he
  have h1 := h.last
  have h2 := h.ops
  have h3 := h.chs
  have hu := h.used
  have hq : (((S.last + 1).toNat : Nat) : Int) = S.last + 1 := by omega
  have hnew : S.files (S.last + 1) = none := by
    cases hf : S.files (S.last + 1) with
    | none => rfl
    | some f => have := h.nums _ f hf; omega
  have hnv : (S.last + 1).toNat ∉ S.names.map (·.2) := by
    intro hm
    obtain ⟨y, hy, hy2⟩ := List.mem_map.1 hm
    have hy2 : y.2 = (S.last + 1).toNat := hy2
    obtain ⟨f, k1, _⟩ := h.there y hy
    rw [hy2, hq, hnew] at k1
    cases k1
  unfold St.created
  rw [count_idle (by exact h.armed)]
  have hfl : ∀ m f', (if m = S.last + 1 then some (⟨false, [], [], []⟩ : Fl) else S.files m) = some f' → (m = S.last + 1 ∧ f' = ⟨false, [], [], []⟩) ∨ (m ≠ S.last + 1 ∧ S.files m = some f') := by
    intro m f' hm
    by_cases e : m = S.last + 1
    · rw [if_pos e] at hm
      injection hm with hm
      exact .inl ⟨e, hm.symm⟩
    · rw [if_neg e] at hm
      exact .inr ⟨e, hm⟩
  have hmem : ∀ y, y ∈ aput S.names name (S.last + 1).toNat ↔ y ∈ S.names ∨ y = (name, (S.last + 1).toNat) := by
    intro y
    rw [aput_none ha, List.mem_append, List.mem_singleton]
  refine ⟨h.cap, h.dead, h.armed, h.safe, ?_, h.room, aput_nodup h.keys, aput_vals h.keys h.vals hnv, fun y hy => ?_, fun m f' hm hg' => ?_, fun m f' hm => ?_, ⟨by show 0 ≤ S.last + 1; omega, by show S.last + 1 ≤ ((k + 1 : Nat) : Int); omega⟩, ⟨by show 0 ≤ S.ops + 1; omega, by show S.ops + 1 ≤ ((k + 1 : Nat) : Int); omega⟩, by show (S.changes ++ [_]).length ≤ k + 1; simp; omega, fun m f' hm => ?_, by show (aput S.names name (S.last + 1).toNat).length ≤ k + 1; rw [aput_none ha]; have := h.cnt; simp; omega⟩
  · show S.used = ((sumF (hL (fun m => if m = S.last + 1 then some (⟨false, [], [], []⟩ : Fl) else S.files m)) (aput S.names name (S.last + 1).toNat) : Nat) : Int)
    have e0 : hL (fun m => if m = S.last + 1 then some (⟨false, [], [], []⟩ : Fl) else S.files m) (S.last + 1).toNat = 0 :=
      hL_some (f := ⟨false, [], [], []⟩) (if_pos hq)
    have e1 : sumF (hL S.files) S.names = sumF (hL (fun m => if m = S.last + 1 then some (⟨false, [], [], []⟩ : Fl) else S.files m)) S.names := by
      refine sumF_eq fun y hy => ?_
      obtain ⟨f, k1, _⟩ := h.there y hy
      have := h.nums _ f k1
      rw [hL_some k1]
      exact (hL_some (F := (fun m => if m = S.last + 1 then some (⟨false, [], [], []⟩ : Fl) else S.files m)) ((if_neg (by omega)).trans k1)).symm
    rw [aput_none ha, sumF_append, sumF_cons, hu, e1]
    show _ = ((_ + (hL _ (S.last + 1).toNat + 0) : Nat) : Int)
    rw [e0]
    rfl
  · rcases (hmem y).1 hy with hy | rfl
    · obtain ⟨f1, k1, k2⟩ := h.there y hy
      have := h.nums _ f1 k1
      exact ⟨f1, (if_neg (by omega)).trans k1, k2⟩
    · exact ⟨⟨false, [], [], []⟩, if_pos hq, rfl⟩
  · show m.toNat ∈ (aput S.names name (S.last + 1).toNat).map (·.2)
    rcases hfl m f' hm with ⟨rfl, rfl⟩ | ⟨_, hm⟩
    · exact List.mem_map.2 ⟨_, (hmem _).2 (.inr rfl), rfl⟩
    · obtain ⟨y, hy, hy2⟩ := List.mem_map.1 (h.named m f' hm hg')
      exact List.mem_map.2 ⟨y, (hmem y).2 (.inl hy), hy2⟩
  · show 0 < m ∧ m ≤ S.last + 1
    rcases hfl m f' hm with ⟨rfl, rfl⟩ | ⟨_, hm⟩
    · omega
    · have := h.nums m f' hm
      omega
  · rcases hfl m f' hm with ⟨rfl, rfl⟩ | ⟨_, hm⟩
    · refine ⟨?_, rfl, Nat.zero_le _⟩
      have := h.room
      show (0 : Int) ≤ C
      omega
    · have := h.files m f' hm
      exact ⟨this.1, this.2.1, by omega⟩

end

end Go.Proofs.Ytccapgcpdehicaa

namespace Go.Proofs.Ytccapgcpdehicaa
open Go.RowKit

section
variable {C : Int} {k : Nat} {S : St}
theorem Fit.pos (h : Fit C k S) {a : ByteArray} {n : Nat} (ha : aget S.names a = some n) : 0 < n ∧ ∃ f, S.files (n : Int) = some f := by
  obtain ⟨f, k1, _⟩ := h.there _ (ag_in ha)
  have := h.nums _ f k1
  have e : (0 : Int) < (n : Int) := this.1
  exact ⟨by omega, f, k1⟩
theorem nameOk_ne {a : ByteArray} (h : nameOk a = true) : a.size ≠ 0 := by
  unfold nameOk at h
  simp at h
  omega
/-! ## Writes -/
def St.appendE (S : St) (n : Int) (m : Nat) : Int := if S.dead then 21 else match S.file n with
  | none => 7
  | some _ => if 0 < m ∧ S.cap < S.used + m then 5 else 0
def St.append (S : St) (n : Int) (p : List UInt8) : St := if S.dead then S else match S.file n with
  | none => S
  | some f => if 0 < p.length ∧ S.cap < S.used + p.length then S else S.wrote n f ⟨false, f.bytes.length, p⟩
theorem append_any (L : Nat → Nat) (g : Nat) (S : St) (n : Int) (A : Option Addr) (m c B : Nat) (p : List UInt8) (w : World) (h : FsAt w L g S) (hF : Fine S) (hr : Rd w B A (u8s p)) (hB : B ≤ w.heap.size) (hm : m = p.length) (hp : p.length ≤ 400000000) :
    Calls Try.prog 12 #[.pointer (some ⟨g, 0, none⟩), .int .i64 n, .slice A m c] w (FsPost L g (S.append n p) (.int .i64 (S.appendE n m)) w) := by
  cases hd : S.dead
  · cases hn : S.file n with
    | none =>
      have e1 : S.append n p = S := by unfold St.append; rw [hd, hn]; rfl
      have e2 : S.appendE n m = 7 := by unfold St.appendE; rw [hd, hn]; rfl
      rw [e1, e2]
      refine (append_none L g S n A m c w h hd hn).mono ?_
      rintro e w' ⟨rfl, rfl⟩
      exact FsPost.same0 h _
    | some f =>
      by_cases hc : 0 < m ∧ S.cap < S.used + m
      · have e1 : S.append n p = S := by unfold St.append; rw [hd, hn]; show (if 0 < p.length ∧ S.cap < S.used + p.length then S else _) = S; exact if_pos (by rw [hm] at hc; exact hc)
        have e2 : S.appendE n m = 5 := by unfold St.appendE; rw [hd, hn]; exact if_pos hc
        rw [e1, e2]
        refine (append_full L g S n f A m c w h hF hd hn (by omega) hc.1 hc.2).mono ?_
        rintro e w' ⟨rfl, j, rfl⟩
        exact FsPost.same h _ j
      · have e1 : S.append n p = S.wrote n f ⟨false, f.bytes.length, p⟩ := by unfold St.append; rw [hd, hn]; show (if 0 < p.length ∧ S.cap < S.used + p.length then S else S.wrote n f ⟨false, f.bytes.length, p⟩) = _; exact if_neg (by rw [hm] at hc; exact hc)
        have e2 : S.appendE n m = 0 := by unfold St.appendE; rw [hd, hn]; exact if_neg hc
        rw [e1, e2]
        exact append_ok L g S n f A m c B p w h hF hd hn hr hB hm hp (by omega)
  · have e1 : S.append n p = S := by unfold St.append; rw [hd]; rfl
    have e2 : S.appendE n m = 21 := by unfold St.appendE; rw [hd]; rfl
    rw [e1, e2]
    refine (append_dead L g S n A m c w h hd).mono ?_
    rintro e w' ⟨rfl, rfl⟩
    exact FsPost.same0 h _

theorem Fit.append (h : Fit C k S) (n : Int) (p : List UInt8) : Fit C (k + 1) (S.append n p) := by
  unfold St.append
  rw [h.dead]
  cases hn : S.file n with
  | none => exact h.more
  | some f =>
    show Fit C (k + 1) (if 0 < p.length ∧ S.cap < S.used + p.length then S else S.wrote n f ⟨false, f.bytes.length, p⟩)
    have hr := h.room
    have hc := h.cap
    split
    · exact h.more
    · refine h.wrote hn _ ?_
      have : (doW f.bytes ⟨false, f.bytes.length, p⟩).length = f.bytes.length + p.length := by simp [doW]
      rw [this]
      omega
theorem Fit.write (h : Fit C k S) (n q : Int) (p : List UInt8) : Fit C (k + 1) (S.write n q p) := by
  unfold St.write
  rw [h.dead]
  cases hn : S.file n with
  | none => exact h.more
  | some f =>
    show Fit C (k + 1) (if q < 0 ∨ (f.bytes.length : Int) < q then S else if (f.bytes.length : Int) < q + p.length ∧ S.cap < S.used + (q + p.length - f.bytes.length) then S else S.wrote n f ⟨false, q.toNat, p⟩)
    have hr := h.room
    have hc := h.cap
    split
    · exact h.more
    · split
      · exact h.more
      · refine h.wrote hn _ ?_
        have : (doW f.bytes ⟨false, q.toNat, p⟩).length = max f.bytes.length (q.toNat + p.length) := by simp [doW]; omega
        rw [this]
        omega
theorem Fit.cut (h : Fit C k S) (n q : Int) : Fit C (k + 1) (S.cut n q) := by
  unfold St.cut
  rw [h.dead]
  cases hn : S.file n with
  | none => exact h.more
  | some f =>
    show Fit C (k + 1) (if q < 0 ∨ (f.bytes.length : Int) < q then S else S.wrote n f ⟨true, q.toNat, []⟩)
    have hr := h.room
    split
    · exact h.more
    · refine h.wrote hn _ ?_
      rw [doW_cut]
      simp
      omega
/-! ## The same as itself -/
theorem eqL_self {α : Type} {q : α → α → Bool} (hq : ∀ x, q x x = true) : ∀ l : List α, eqL q l l = true
  | [] => rfl
  | x :: l => by
    show (q x x && eqL q l l) = true
    rw [hq, eqL_self hq l]
    rfl
theorem chEq_self (x : Ch) : chEq x x = true := by simp [chEq]
theorem flEq_self (x : Fl) : flEq x x = true := by simp [flEq, eqL_self (fun y => (wrEq_iff y y).2 rfl)]
theorem Fit.nmEq (h : Fit C k S) : nmEq S S.names S S.names = true := by
  unfold Go.Proofs.Ytccapgcpdehicaa.nmEq
  simp only [beq_self_eq_true, Bool.true_and, List.all_eq_true]
  intro x hx
  obtain ⟨f, hf, _⟩ := h.there x hx
  unfold nmOne
  rw [aget_mem h.keys hx]
  show flO (S.files (x.2 : Int)) (S.files (x.2 : Int)) = true
  rw [hf]
  exact flEq_self f
theorem Fit.isSome (h : Fit C k S) : ∀ x ∈ S.names, (S.files (x.2 : Int)).isSome := fun x hx => by
  obtain ⟨f, hf, _⟩ := h.there x hx
  rw [hf]
  rfl
/-- A copy is told as the same. -/
theorem Fit.same (h : Fit C k S) {g1 g2 : Nat} {L1 L2 : Nat → Nat} {w : World} (h1 : FsAt w L1 g1 S) (h2 : FsAt w L2 g2 S) :
    Calls Try.prog 7 #[.pointer (some ⟨g1, 0, none⟩), .pointer (some ⟨g2, 0, none⟩)] w fun e w' => e = .returned (.bool true) ∧ w.grownBy w' none :=
  same_yes g1 g2 S S L1 L2 w h1 h2 h.isSome h.isSome (by rw [h.safe]; exact fun x hx => by cases hx) (by rw [h.safe]; exact fun x hx => by cases hx) h.nmEq (by rw [h.safe]; rfl) (eqL_self chEq_self _)
end

end Go.Proofs.Ytccapgcpdehicaa

namespace Go.Proofs.Ytccapgcpdehicaa
open Go.RowKit

/-- A write (p at at_), or a cut (to at_). -/
structure RD where
  cut : Bool
  at_ : Nat
  p : ByteArray
/-- A name, and its file's number. -/
structure RE where
  name : ByteArray
  n : Nat
/-- What was done to names. -/
structure RM where
  kind : Nat
  a : ByteArray
  b : ByteArray
  n : Nat
/-- A file: its number, what is safe, what was done since, its bytes. -/
structure RFl where
  n : Nat
  safe : ByteArray
  l : List RD
  p : ByteArray
/-- The document's file system. -/
structure RS where
  f : List RFl
  d : List RE
  safe : List RE
  m : List RM
  cap : Int
  ops : Int
  left : Int
  off : Bool
def fE (e : RE) : List Value := [.string e.name, .int .i64 (e.n : Int)]
def fD (d : RD) : List Value := [.bool d.cut, .int .i64 (d.at_ : Int), .string d.p]
def fM (m : RM) : List Value := [.int .u8 (m.kind : Int), .string m.a, .string m.b, .int .i64 (m.n : Int)]
def encE (l : List RE) : List Value := l.flatMap fE
def encD (l : List RD) : List Value := l.flatMap fD
def encM (l : List RM) : List Value := l.flatMap fM
def encP (l : List Nat) : List Value := l.map fun b => .pointer (some ⟨b, 0, none⟩)
theorem fm_len {α : Type} (f : α → List Value) (k : Nat) (hk : ∀ x, (f x).length = k) (l : List α) : (l.flatMap f).length = l.length * k := by
  induction l with
  | nil => simp
  | cons a l ih => rw [List.flatMap_cons, List.length_append, hk, ih, List.length_cons, Nat.add_mul]; omega
theorem fm_at {α : Type} (f : α → List Value) (k : Nat) (hk : ∀ x, (f x).length = k) (l : List α) (i j : Nat) (hi : i < l.length) (hj : j < k) : (l.flatMap f)[i * k + j]? = (f l[i])[j]? := by
  induction l generalizing i with
  | nil => simp at hi
  | cons a l ih =>
    rw [List.flatMap_cons]
    cases i with
    | zero =>
      rw [Nat.zero_mul, Nat.zero_add, List.getElem?_append_left (by rw [hk]; exact hj)]
      rfl
    | succ i =>
      rw [List.getElem?_append_right (by rw [hk, Nat.add_mul]; omega), hk, show (i + 1) * k + j - k = i * k + j by rw [Nat.add_mul]; omega, ih i (by simpa using hi)]
      rfl
theorem encE_len (l : List RE) : (encE l).length = l.length * 2 := fm_len fE 2 (fun _ => rfl) l
theorem encD_len (l : List RD) : (encD l).length = l.length * 3 := fm_len fD 3 (fun _ => rfl) l
theorem encM_len (l : List RM) : (encM l).length = l.length * 4 := fm_len fM 4 (fun _ => rfl) l
theorem encP_len (l : List Nat) : (encP l).length = l.length * 1 := by simp [encP]
theorem encE_app (a b : List RE) : encE (a ++ b) = encE a ++ encE b := by simp [encE]
theorem encD_app (a b : List RD) : encD (a ++ b) = encD a ++ encD b := by simp [encD]
theorem encM_app (a b : List RM) : encM (a ++ b) = encM a ++ encM b := by simp [encM]
theorem encE_at {l : List RE} {i : Nat} (hi : i < l.length) : (encE l)[i * 2]? = some (.string l[i].name) ∧ (encE l)[i * 2 + 1]? = some (.int .i64 (l[i].n : Int)) :=
  ⟨fm_at fE 2 (fun _ => rfl) l i 0 hi (by decide), fm_at fE 2 (fun _ => rfl) l i 1 hi (by decide)⟩
theorem encD_at {l : List RD} {i : Nat} (hi : i < l.length) : (encD l)[i * 3]? = some (.bool l[i].cut) ∧ (encD l)[i * 3 + 1]? = some (.int .i64 (l[i].at_ : Int)) ∧ (encD l)[i * 3 + 2]? = some (.string l[i].p) :=
  ⟨fm_at fD 3 (fun _ => rfl) l i 0 hi (by decide), fm_at fD 3 (fun _ => rfl) l i 1 hi (by decide), fm_at fD 3 (fun _ => rfl) l i 2 hi (by decide)⟩
theorem encM_at {l : List RM} {i : Nat} (hi : i < l.length) : (encM l)[i * 4]? = some (.int .u8 (l[i].kind : Int)) ∧ (encM l)[i * 4 + 1]? = some (.string l[i].a) ∧ (encM l)[i * 4 + 2]? = some (.string l[i].b) ∧ (encM l)[i * 4 + 3]? = some (.int .i64 (l[i].n : Int)) :=
  ⟨fm_at fM 4 (fun _ => rfl) l i 0 hi (by decide), fm_at fM 4 (fun _ => rfl) l i 1 hi (by decide), fm_at fM 4 (fun _ => rfl) l i 2 hi (by decide), fm_at fM 4 (fun _ => rfl) l i 3 hi (by decide)⟩
theorem encP_at {l : List Nat} {i : Nat} (hi : i < l.length) : (encP l)[i]? = some (.pointer (some ⟨l[i], 0, none⟩)) := by
  unfold encP
  rw [List.getElem?_map, List.getElem?_eq_getElem hi]
  rfl
theorem oneE (l : List RE) : ∀ u ∈ encE l, u.oneCell' = true := by
  intro u hu
  obtain ⟨e, _, h⟩ := List.mem_flatMap.1 hu
  simp only [fE, List.mem_cons, List.not_mem_nil, or_false] at h
  rcases h with rfl | rfl <;> rfl
theorem oneD (l : List RD) : ∀ u ∈ encD l, u.oneCell' = true := by
  intro u hu
  obtain ⟨e, _, h⟩ := List.mem_flatMap.1 hu
  simp only [fD, List.mem_cons, List.not_mem_nil, or_false] at h
  rcases h with rfl | rfl | rfl <;> rfl
theorem oneM (l : List RM) : ∀ u ∈ encM l, u.oneCell' = true := by
  intro u hu
  obtain ⟨e, _, h⟩ := List.mem_flatMap.1 hu
  simp only [fM, List.mem_cons, List.not_mem_nil, or_false] at h
  rcases h with rfl | rfl | rfl | rfl <;> rfl
theorem oneP (l : List Nat) : ∀ u ∈ encP l, u.oneCell' = true := by
  intro u hu
  obtain ⟨b, _, rfl⟩ := List.mem_map.1 hu
  rfl
/-- The place of a name; -1: there is none. -/
def atR (d : List RE) (s : ByteArray) : Int := match d.findIdx? (fun e => decide (e.name = s)) with | some i => (i : Int) | none => -1
theorem atR_found {d : List RE} {s : ByteArray} {j : Nat} (hj : j < d.length) (h : d[j].name = s) (hn : ∀ (i : Nat) (hi : i < d.length), i < j → d[i].name ≠ s) : atR d s = (j : Int) := by
  have : d.findIdx? (fun e => decide (e.name = s)) = some j := List.findIdx?_eq_some_iff_getElem.2 ⟨hj, by simpa using h, fun i hi => by simpa using hn i (by omega) hi⟩
  unfold atR
  rw [this]
theorem atR_none {d : List RE} {s : ByteArray} (hn : ∀ (i : Nat) (hi : i < d.length), d[i].name ≠ s) : atR d s = -1 := by
  have : d.findIdx? (fun e => decide (e.name = s)) = none := List.findIdx?_eq_none_iff.2 fun x hx => by
    obtain ⟨i, hi, rfl⟩ := List.getElem_of_mem hx
    simpa using hn i hi
  unfold atR
  rw [this]
theorem atR_cases (d : List RE) (s : ByteArray) : (atR d s = -1 ∧ ∀ (i : Nat) (hi : i < d.length), d[i].name ≠ s) ∨ ∃ (j : Nat) (hj : j < d.length), atR d s = (j : Int) ∧ d[j].name = s ∧ ∀ (i : Nat) (hi : i < d.length), i < j → d[i].name ≠ s := by
  cases h : d.findIdx? (fun e => decide (e.name = s)) with
  | none =>
    left
    have := List.findIdx?_eq_none_iff.1 h
    exact ⟨by unfold atR; rw [h], fun i hi => by simpa using this d[i] (List.getElem_mem hi)⟩
  | some j =>
    right
    obtain ⟨hj, h1, h2⟩ := List.findIdx?_eq_some_iff_getElem.1 h
    exact ⟨j, hj, by unfold atR; rw [h], by simpa using h1, fun i _ hlt => by simpa using h2 i hlt⟩
/-- A directory behind a change. -/
def movedR (d : List RE) (m : RM) : List RE :=
  if m.kind = 99 then d ++ [⟨m.a, m.n⟩]
  else if m.kind = 100 then (if 0 ≤ atR d m.a then d.eraseIdx (atR d m.a).toNat else d)
  else if m.kind = 114 then
    (if atR d m.a < 0 ∨ m.a = m.b then d
     else if 0 ≤ atR (d.eraseIdx (atR d m.a).toNat) m.b then (d.eraseIdx (atR d m.a).toNat).eraseIdx (atR (d.eraseIdx (atR d m.a).toNat) m.b).toNat ++ [⟨m.b, (d.getD (atR d m.a).toNat ⟨⟨#[]⟩, 0⟩).n⟩]
     else d.eraseIdx (atR d m.a).toNat ++ [⟨m.b, (d.getD (atR d m.a).toNat ⟨⟨#[]⟩, 0⟩).n⟩])
  else d
/-- A file's bytes behind a write or a cut; of a write its first n bytes. -/
def doneR (p : ByteArray) (x : RD) (n : Nat) : ByteArray :=
  if x.cut then p.extract 0 x.at_
  else if p.size ≤ x.at_ + n then p.extract 0 x.at_ ++ x.p.extract 0 n
  else p.extract 0 x.at_ ++ x.p.extract 0 n ++ p.extract (x.at_ + n) p.size
theorem own_blk {w w' : World} {base n size : Nat} {e : TypeId} {v : Value} {xs : List Value} (h : w.ownsRow base e size v n xs) (hk : ∀ i, v.ownBlock = some i → w'.heap[i]? = w.heap[i]?) : w'.ownsRow base e size v n xs := by
  refine ⟨h.1, ?_⟩
  rcases h.2 with h0 | ⟨g, cap, cur, rfl, hb, hg, hr⟩
  · exact .inl h0
  · exact .inr ⟨g, cap, cur, rfl, hb, (hk g rfl).trans hg, hr⟩
/-- A file in memory, what was done to it in the row v. -/
structure RFAt (w : World) (b : Nat) (v : Value) (x : RFl) : Prop where
  box : w.heap[b]? = some (.cells #[.int .i64 (x.n : Int), .string x.safe, v, .string x.p] 111 (0, 0))
  row : w.ownsRow 0 124 3 v x.l.length (encD x.l)
/-- The blocks of a file system. -/
def ROwn (g : Nat) (bs : List Nat) (vs : List Value) (vF vD vS vM : Value) (i : Nat) : Prop :=
  i = g ∨ i ∈ bs ∨ (∃ v ∈ vs, v.ownBlock = some i) ∨ vF.ownBlock = some i ∨ vD.ownBlock = some i ∨ vS.ownBlock = some i ∨ vM.ownBlock = some i
/-- A file system in memory. -/
structure RAt (w : World) (g : Nat) (S : RS) (bs : List Nat) (vs : List Value) (vF vD vS vM : Value) : Prop where
  box : w.heap[g]? = some (.cells #[vF, vD, vS, vM, .int .i64 S.cap, .int .i64 S.ops, .int .i64 S.left, .bool S.off, .int .i64 0] 73 (0, 0))
  rF : w.ownsRow 0 108 1 vF bs.length (encP bs)
  rD : w.ownsRow 0 107 2 vD S.d.length (encE S.d)
  rS : w.ownsRow 0 107 2 vS S.safe.length (encE S.safe)
  rM : w.ownsRow 0 76 4 vM S.m.length (encM S.m)
  lb : bs.length = S.f.length
  lv : vs.length = S.f.length
  fl : ∀ (i : Nat) (h : i < S.f.length), RFAt w (bs.getD i 0) (vs.getD i undef) S.f[i]
  nd : bs.Nodup
  ap : ∀ i j, i < j → j < vs.length → (vs.getD i undef).ownBlock = none ∨ (vs.getD i undef).ownBlock ≠ (vs.getD j undef).ownBlock
/-- A file system in memory, among the blocks O. -/
def RsAt (w : World) (O : Nat → Prop) (g : Nat) (S : RS) : Prop := ∃ bs vs vF vD vS vM, RAt w g S bs vs vF vD vS vM ∧ ∀ i, ROwn g bs vs vF vD vS vM i → O i ∧ i < w.heap.size
/-- The blocks O, and those that have come since w. -/
def Onew (O : Nat → Prop) (w w' : World) (i : Nat) : Prop := O i ∨ w.heap.size ≤ i ∧ i < w'.heap.size
theorem RFAt.keep {w w' : World} {b : Nat} {v : Value} {x : RFl} (h : RFAt w b v x) (hb : w'.heap[b]? = w.heap[b]?) (hv : ∀ i, v.ownBlock = some i → w'.heap[i]? = w.heap[i]?) : RFAt w' b v x :=
  ⟨hb.trans h.box, own_blk h.row hv⟩
theorem RAt.keep {w w' : World} {g : Nat} {S : RS} {bs : List Nat} {vs : List Value} {vF vD vS vM : Value} (h : RAt w g S bs vs vF vD vS vM) (hk : ∀ i, ROwn g bs vs vF vD vS vM i → w'.heap[i]? = w.heap[i]?) : RAt w' g S bs vs vF vD vS vM :=
  ⟨(hk g (.inl rfl)).trans h.box, own_blk h.rF fun i e => hk i (.inr (.inr (.inr (.inl e)))), own_blk h.rD fun i e => hk i (.inr (.inr (.inr (.inr (.inl e))))), own_blk h.rS fun i e => hk i (.inr (.inr (.inr (.inr (.inr (.inl e)))))), own_blk h.rM fun i e => hk i (.inr (.inr (.inr (.inr (.inr (.inr e)))))),
    h.lb, h.lv, fun i hi => (h.fl i hi).keep (hk _ (.inr (.inl (by rw [List.getD_eq_getElem?_getD, List.getElem?_eq_getElem (by rw [h.lb]; exact hi)]; exact List.getElem_mem _)))) fun k e => hk k (.inr (.inr (.inl ⟨_, by rw [List.getD_eq_getElem?_getD, List.getElem?_eq_getElem (by rw [h.lv]; exact hi)]; exact List.getElem_mem _, e⟩))), h.nd, h.ap⟩
theorem RsAt.keep {w w' : World} {O : Nat → Prop} {g : Nat} {S : RS} {M : Nat → Prop} (h : RsAt w O g S) (hT : Turned M w w') (hM : ∀ i, O i → ¬ M i) : RsAt w' O g S := by
  obtain ⟨bs, vs, vF, vD, vS, vM, h1, h2⟩ := h
  exact ⟨bs, vs, vF, vD, vS, vM, h1.keep fun i hi => hT.block i (h2 i hi).2 (hM i (h2 i hi).1), fun i hi => ⟨(h2 i hi).1, Nat.lt_of_lt_of_le (h2 i hi).2 hT.size⟩⟩
theorem RsAt.gb {w w' : World} {O : Nat → Prop} {g : Nat} {S : RS} (h : RsAt w O g S) (hg : w.grownBy w' none) : RsAt w' O g S :=
  h.keep (M := fun _ => False) (Turned.of_gb hg (by simp)) fun _ _ h => h
end Go.Proofs.Ytccapgcpdehicaa
