/-
  SimfsFull: what holds of the file system behind each act.
-/
import Derived.Test.YtpkmlehkmmdkoaaSimEv
import Derived.Test.YtpkmlehkmmdkoaaSimCc
import Derived.Test.YtpkmlehkmmdkoaaSimWf
namespace Go.Proofs.Ytpkmlehkmmdkoaa

theorem adel_vals {l : List (ByteArray × Nat)} {a : ByteArray} {n : Nat} (hd : (l.map (·.2)).Nodup) (ha : aget l a = some n) (m : Nat) : m ∈ (adel l a).map (·.2) ↔ m ∈ l.map (·.2) ∧ m ≠ n := by
  induction l with
  | nil => cases ha
  | cons y l ih =>
    obtain ⟨b, u⟩ := y
    rw [List.map_cons, List.nodup_cons] at hd
    simp only [aget] at ha
    by_cases e : b = a
    · rw [if_pos e] at ha
      injection ha with ha
      subst ha
      rw [show adel ((b, u) :: l) a = l from by simp [adel, e], List.map_cons, List.mem_cons]
      constructor
      · intro h
        exact ⟨.inr h, fun e2 => hd.1 (by rw [e2] at h; exact h)⟩
      · rintro ⟨h | h, h2⟩
        · exact absurd h h2
        · exact h
    · rw [if_neg e] at ha
      rw [show adel ((b, u) :: l) a = (b, u) :: adel l a from by simp [adel, e], List.map_cons, List.mem_cons, ih hd.2 ha, List.map_cons, List.mem_cons]
      constructor
      · rintro (h | ⟨h, h2⟩)
        · refine ⟨.inl h, fun e2 => hd.1 ?_⟩
          have hm : n ∈ l.map (·.2) := by
            clear ih hd h e2
            induction l with
            | nil => cases ha
            | cons z l ih2 =>
              obtain ⟨c, v⟩ := z
              simp only [aget] at ha
              by_cases e3 : c = a
              · rw [if_pos e3] at ha
                injection ha with ha
                simp [ha]
              · rw [if_neg e3] at ha
                exact List.mem_cons_of_mem _ (ih2 ha)
          rw [← h, e2]
          exact hm
        · exact ⟨.inr h, h2⟩
      · rintro ⟨h | h, h2⟩
        · exact .inl h
        · exact .inr ⟨h, h2⟩
theorem ag_in {l : List (ByteArray × Nat)} {a : ByteArray} {n : Nat} (ha : aget l a = some n) : (a, n) ∈ l := by
  induction l with
  | nil => cases ha
  | cons z l ih =>
    obtain ⟨c, v⟩ := z
    simp only [aget] at ha
    by_cases e3 : c = a
    · rw [if_pos e3] at ha
      injection ha with ha
      rw [e3, ha]
      exact List.mem_cons_self ..
    · rw [if_neg e3] at ha
      exact List.mem_cons_of_mem _ (ih ha)
theorem aput_vals_mem {l : List (ByteArray × Nat)} {b : ByteArray} {n m : Nat} (hd : (l.map (·.2)).Nodup) (ha : aget l b = some m) (q : Nat) : q ∈ (aput l b n).map (·.2) ↔ q = n ∨ (q ∈ l.map (·.2) ∧ q ≠ m) := by
  induction l with
  | nil => cases ha
  | cons y l ih =>
    obtain ⟨c, u⟩ := y
    rw [List.map_cons, List.nodup_cons] at hd
    simp only [aget] at ha
    by_cases e : c = b
    · rw [if_pos e] at ha
      injection ha with ha
      subst ha
      rw [show aput ((c, u) :: l) b n = (c, n) :: l from by simp [aput, e], List.map_cons, List.mem_cons, List.map_cons, List.mem_cons]
      constructor
      · rintro (h | h)
        · exact .inl h
        · exact .inr ⟨.inr h, fun e2 => hd.1 (by rw [e2] at h; exact h)⟩
      · rintro (h | ⟨h | h, h2⟩)
        · exact .inl h
        · exact absurd h h2
        · exact .inr h
    · rw [if_neg e] at ha
      rw [show aput ((c, u) :: l) b n = (c, u) :: aput l b n from by simp [aput, e], List.map_cons, List.mem_cons, ih hd.2 ha, List.map_cons, List.mem_cons]
      constructor
      · rintro (h | h | ⟨h, h2⟩)
        · refine .inr ⟨.inl h, fun e2 => hd.1 ?_⟩
          have : m ∈ l.map (·.2) := List.mem_map.2 ⟨(b, m), ag_in ha, rfl⟩
          rw [← h, e2]
          exact this
        · exact .inl h
        · exact .inr ⟨.inr h, h2⟩
      · rintro (h | ⟨h | h, h2⟩)
        · exact .inr (.inl h)
        · exact .inl h
        · exact .inr (.inr ⟨h, h2⟩)

/-- The length of a file. -/
def hL (F : Int → Option Fl) (n : Nat) : Nat := match F (n : Int) with
  | some f => f.bytes.length
  | none => 0
theorem hL_some {F : Int → Option Fl} {n : Nat} {f : Fl} (h : F (n : Int) = some f) : hL F n = f.bytes.length := by unfold hL; rw [h]

/-- Behind at most k acts, with room for C bytes. -/
structure Fit (C : Int) (k : Nat) (S : St) : Prop where
  cap : S.cap = C
  dead : S.dead = false
  armed : S.armed = 0
  safe : S.safe = []
  used : S.used = ((sumF (hL S.files) S.names : Nat) : Int)
  room : S.used ≤ C
  keys : (S.names.map (·.1)).Nodup
  vals : (S.names.map (·.2)).Nodup
  there : ∀ x ∈ S.names, ∃ f, S.files (x.2 : Int) = some f ∧ f.gone = false
  named : ∀ n f, S.files n = some f → f.gone = false → n.toNat ∈ S.names.map (·.2)
  nums : ∀ n f, S.files n = some f → 0 < n ∧ n ≤ S.last
  last : 0 ≤ S.last ∧ S.last ≤ k
  ops : 0 ≤ S.ops ∧ S.ops ≤ k
  chs : S.changes.length ≤ k
  files : ∀ n f, S.files n = some f → (f.bytes.length : Int) ≤ C ∧ f.safe.length = 0 ∧ f.waits.length ≤ k
  cnt : S.names.length ≤ k
theorem sumF_len (l : List (ByteArray × Nat)) : sumF (fun _ => 1) l = l.length := by
  induction l with
  | nil => rfl
  | cons x l ih => rw [sumF_cons, ih, List.length_cons]; omega

section
variable {C : Int} {k : Nat} {S : St}
theorem Fit.new (h : 0 ≤ C) : Fit C 0 (St.new C) :=
  { cap := rfl, dead := rfl, armed := rfl, safe := rfl, used := rfl, room := h, keys := List.nodup_nil, vals := List.nodup_nil, there := fun x hx => (by cases hx), named := fun _ _ h => (by cases h), nums := fun _ _ h => (by cases h), last := ⟨Int.le_refl _, Int.le_refl _⟩, ops := ⟨Int.le_refl _, Int.le_refl _⟩, chs := Nat.le_refl _, files := fun _ _ h => (by cases h), cnt := Nat.le_refl _ }
theorem Fit.more (h : Fit C k S) : Fit C (k + 1) S := by
  have h1 := h.last
  have h2 := h.ops
  have h3 := h.chs
  exact { h with last := ⟨h1.1, by omega⟩, ops := ⟨h2.1, by omega⟩, chs := by omega, files := fun n f hf => by have := h.files n f hf; exact ⟨this.1, this.2.1, by omega⟩, cnt := by have := h.cnt; omega }
theorem Fit.fine (h : Fit C k S) (h0 : 0 ≤ C) (hC : C ≤ 10000) (hk : k ≤ 1000) : Fine S := by
  have h1 := h.last
  have h2 := h.ops
  have h3 := h.chs
  have h4 := h.room
  have h5 := h.used
  have h6 := h.armed
  refine ⟨by omega, by omega, by omega, by omega, by omega, fun n f hf => ?_⟩
  have := h.files n f hf
  omega
theorem count_idle (h : S.armed = 0) : S.count = { S with ops := S.ops + 1 } := by
  unfold St.count
  rw [if_neg (by omega)]

theorem Fit.wrote (h : Fit C k S) {n : Int} {f : Fl} (hn : S.file n = some f) (x : Wr) (hr : S.used - f.bytes.length + (doW f.bytes x).length ≤ C) : Fit C (k + 1) (S.wrote n f x) := by
  obtain ⟨hf, hg⟩ := St.file_some hn
  have hn0 := h.nums n f hf
  have hnn : ((n.toNat : Nat) : Int) = n := by omega
  have h1 := h.last
  have h2 := h.ops
  have h3 := h.chs
  have hu := h.used
  unfold St.wrote
  rw [count_idle (by exact h.armed)]
  have es : ∀ m, m ≠ n.toNat → hL S.files m = hL (fun m => if m = n then some { f with bytes := doW f.bytes x, waits := f.waits ++ [x] } else S.files m) m := by
    intro m hm
    have e : (fun m => if m = n then some { f with bytes := doW f.bytes x, waits := f.waits ++ [x] } else S.files m) (m : Int) = S.files (m : Int) := if_neg (by omega)
    unfold hL
    rw [e]
  have e1 : hL S.files n.toNat = f.bytes.length := hL_some (by rw [hnn]; exact hf)
  have e2 : hL (fun m => if m = n then some { f with bytes := doW f.bytes x, waits := f.waits ++ [x] } else S.files m) n.toNat = (doW f.bytes x).length :=
    hL_some (f := { f with bytes := doW f.bytes x, waits := f.waits ++ [x] }) (if_pos hnn)
  have e3 := sumF_one h.vals (h.named n f hf hg) es
  rw [e1, e2] at e3
  have e4 : f.bytes.length ≤ sumF (hL S.files) S.names := by
    obtain ⟨y, hy, hy2⟩ := List.mem_map.1 (h.named n f hf hg)
    have := sumF_mem (h := hL S.files) hy
    have hy2 : y.2 = n.toNat := hy2
    rw [hy2, e1] at this
    exact this
  have hfl : ∀ m f', (if m = n then some { f with bytes := doW f.bytes x, waits := f.waits ++ [x] } else S.files m) = some f' → (m = n ∧ f' = { f with bytes := doW f.bytes x, waits := f.waits ++ [x] }) ∨ (m ≠ n ∧ S.files m = some f') := by
    intro m f' hm
    by_cases e : m = n
    · rw [if_pos e] at hm
      injection hm with hm
      exact .inl ⟨e, hm.symm⟩
    · rw [if_neg e] at hm
      exact .inr ⟨e, hm⟩
  refine ⟨h.cap, h.dead, h.armed, h.safe, ?_, hr, h.keys, h.vals, fun y hy => ?_, fun m f' hm hg' => ?_, fun m f' hm => ?_, ⟨h1.1, by show S.last ≤ ((k + 1 : Nat) : Int); omega⟩, ⟨by show 0 ≤ S.ops + 1; omega, by show S.ops + 1 ≤ ((k + 1 : Nat) : Int); omega⟩, by show S.changes.length ≤ k + 1; omega, fun m f' hm => ?_, h.more.cnt⟩
  · show S.used - f.bytes.length + (doW f.bytes x).length = ((sumF (hL (fun m => if m = n then some { f with bytes := doW f.bytes x, waits := f.waits ++ [x] } else S.files m)) S.names : Nat) : Int)
    omega
  · obtain ⟨f1, k1, k2⟩ := h.there y hy
    by_cases e : (y.2 : Int) = n
    · exact ⟨_, if_pos e, hg⟩
    · exact ⟨f1, (if_neg e).trans k1, k2⟩
  · rcases hfl m f' hm with ⟨rfl, rfl⟩ | ⟨_, hm⟩
    · exact h.named m f hf hg
    · exact h.named m f' hm hg'
  · rcases hfl m f' hm with ⟨rfl, rfl⟩ | ⟨_, hm⟩
    · exact hn0
    · exact h.nums m f' hm
  · rcases hfl m f' hm with ⟨rfl, rfl⟩ | ⟨_, hm⟩
    · have := h.files m f hf
      refine ⟨by show ((doW f.bytes x).length : Int) ≤ C; omega, this.2.1, ?_⟩
      show (f.waits ++ [x]).length ≤ k + 1
      rw [List.length_append]
      simp
      exact this.2.2
    · have := h.files m f' hm
      exact ⟨this.1, this.2.1, by omega⟩

theorem createErr_zero {name : ByteArray} (he : createErr S name = 0) : aget S.names name = none := by
  unfold createErr at he
  cases hd : S.dead
  · rw [hd] at he
    cases hno : nameOk name
    · rw [hno] at he; simp at he
    · rw [hno] at he
      cases hs : aget S.names name with
      | none => rfl
      | some v => rw [hs] at he; simp at he
  · rw [hd] at he; simp at he

theorem Fit.created (h : Fit C k S) {name : ByteArray} (he : createErr S name = 0) : Fit C (k + 1) (S.created name) := by
  have ha := createErr_zero he
  have h1 := h.last
  have h2 := h.ops
  have h3 := h.chs
  have hu := h.used
  have hq : (((S.last + 1).toNat : Nat) : Int) = S.last + 1 := by omega
  have hnew : S.files (S.last + 1) = none := by
    cases hf : S.files (S.last + 1) with
    | none => rfl
    | some f => have := h.nums _ f hf; omega
  have hnv : (S.last + 1).toNat ∉ S.names.map (·.2) := by
    intro hm
    obtain ⟨y, hy, hy2⟩ := List.mem_map.1 hm
    have hy2 : y.2 = (S.last + 1).toNat := hy2
    obtain ⟨f, k1, _⟩ := h.there y hy
    rw [hy2, hq, hnew] at k1
    cases k1
  unfold St.created
  rw [count_idle (by exact h.armed)]
  have hfl : ∀ m f', (if m = S.last + 1 then some (⟨false, [], [], []⟩ : Fl) else S.files m) = some f' → (m = S.last + 1 ∧ f' = ⟨false, [], [], []⟩) ∨ (m ≠ S.last + 1 ∧ S.files m = some f') := by
    intro m f' hm
    by_cases e : m = S.last + 1
    · rw [if_pos e] at hm
      injection hm with hm
      exact .inl ⟨e, hm.symm⟩
    · rw [if_neg e] at hm
      exact .inr ⟨e, hm⟩
  have hmem : ∀ y, y ∈ aput S.names name (S.last + 1).toNat ↔ y ∈ S.names ∨ y = (name, (S.last + 1).toNat) := by
    intro y
    rw [aput_none ha, List.mem_append, List.mem_singleton]
  refine ⟨h.cap, h.dead, h.armed, h.safe, ?_, h.room, aput_nodup h.keys, aput_vals h.keys h.vals hnv, fun y hy => ?_, fun m f' hm hg' => ?_, fun m f' hm => ?_, ⟨by show 0 ≤ S.last + 1; omega, by show S.last + 1 ≤ ((k + 1 : Nat) : Int); omega⟩, ⟨by show 0 ≤ S.ops + 1; omega, by show S.ops + 1 ≤ ((k + 1 : Nat) : Int); omega⟩, by show (S.changes ++ [_]).length ≤ k + 1; simp; omega, fun m f' hm => ?_, by show (aput S.names name (S.last + 1).toNat).length ≤ k + 1; rw [aput_none ha]; have := h.cnt; simp; omega⟩
  · show S.used = ((sumF (hL (fun m => if m = S.last + 1 then some (⟨false, [], [], []⟩ : Fl) else S.files m)) (aput S.names name (S.last + 1).toNat) : Nat) : Int)
    have e0 : hL (fun m => if m = S.last + 1 then some (⟨false, [], [], []⟩ : Fl) else S.files m) (S.last + 1).toNat = 0 :=
      hL_some (f := ⟨false, [], [], []⟩) (if_pos hq)
    have e1 : sumF (hL S.files) S.names = sumF (hL (fun m => if m = S.last + 1 then some (⟨false, [], [], []⟩ : Fl) else S.files m)) S.names := by
      refine sumF_eq fun y hy => ?_
      obtain ⟨f, k1, _⟩ := h.there y hy
      have := h.nums _ f k1
      rw [hL_some k1]
      exact (hL_some (F := (fun m => if m = S.last + 1 then some (⟨false, [], [], []⟩ : Fl) else S.files m)) ((if_neg (by omega)).trans k1)).symm
    rw [aput_none ha, sumF_append, sumF_cons, hu, e1]
    show _ = ((_ + (hL _ (S.last + 1).toNat + 0) : Nat) : Int)
    rw [e0]
    rfl
  · rcases (hmem y).1 hy with hy | rfl
    · obtain ⟨f1, k1, k2⟩ := h.there y hy
      have := h.nums _ f1 k1
      exact ⟨f1, (if_neg (by omega)).trans k1, k2⟩
    · exact ⟨⟨false, [], [], []⟩, if_pos hq, rfl⟩
  · show m.toNat ∈ (aput S.names name (S.last + 1).toNat).map (·.2)
    rcases hfl m f' hm with ⟨rfl, rfl⟩ | ⟨_, hm⟩
    · exact List.mem_map.2 ⟨_, (hmem _).2 (.inr rfl), rfl⟩
    · obtain ⟨y, hy, hy2⟩ := List.mem_map.1 (h.named m f' hm hg')
      exact List.mem_map.2 ⟨y, (hmem y).2 (.inl hy), hy2⟩
  · show 0 < m ∧ m ≤ S.last + 1
    rcases hfl m f' hm with ⟨rfl, rfl⟩ | ⟨_, hm⟩
    · omega
    · have := h.nums m f' hm
      omega
  · rcases hfl m f' hm with ⟨rfl, rfl⟩ | ⟨_, hm⟩
    · refine ⟨?_, rfl, Nat.zero_le _⟩
      have := h.room
      show (0 : Int) ≤ C
      omega
    · have := h.files m f' hm
      exact ⟨this.1, this.2.1, by omega⟩

/-- Names are other ones; no file is lost. -/
theorem Fit.turn0 (h : Fit C k S) (c : Ch) {l : List (ByteArray × Nat)} (hk : (l.map (·.1)).Nodup) (hv : (l.map (·.2)).Nodup) (hm : ∀ n, n ∈ l.map (·.2) ↔ n ∈ S.names.map (·.2)) (hs : ∀ g, sumF g l = sumF g S.names) :
    Fit C (k + 1) ({ S with names := l, changes := S.changes ++ [c] } : St).count := by
  have h1 := h.last
  have h2 := h.ops
  have h3 := h.chs
  rw [count_idle (by exact h.armed)]
  refine ⟨h.cap, h.dead, h.armed, h.safe, ?_, h.room, hk, hv, fun y hy => ?_, fun m f' hf hg' => ?_, h.nums, ⟨h1.1, by show S.last ≤ ((k + 1 : Nat) : Int); omega⟩, ⟨by show 0 ≤ S.ops + 1; omega, by show S.ops + 1 ≤ ((k + 1 : Nat) : Int); omega⟩, by show (S.changes ++ [_]).length ≤ k + 1; simp; omega, h.more.files, by have e1 := hs (fun _ => 1); have e2 := h.cnt; rw [sumF_len, sumF_len] at e1; show l.length ≤ k + 1; omega⟩
  · show S.used = ((sumF (hL S.files) l : Nat) : Int)
    rw [hs, h.used]
  · obtain ⟨z, hz, hz2⟩ := List.mem_map.1 ((hm y.2).1 (List.mem_map.2 ⟨y, hy, rfl⟩))
    have hz2 : z.2 = y.2 := hz2
    rw [← hz2]
    exact h.there z hz
  · exact (hm _).2 (h.named m f' hf hg')

/-- Names are other ones, and file m has none any more. -/
theorem Fit.turn1 (h : Fit C k S) (c : Ch) {l : List (ByteArray × Nat)} {m : Nat} {f : Fl} (hf : S.files (m : Int) = some f) (hk : (l.map (·.1)).Nodup) (hv : (l.map (·.2)).Nodup) (hm : ∀ n, n ∈ l.map (·.2) ↔ n ∈ S.names.map (·.2) ∧ n ≠ m) (hs : ∀ g, sumF g l + g m = sumF g S.names) :
    Fit C (k + 1) ({ (({ S with used := S.used - f.bytes.length } : St).setFile (m : Int) { f with gone := true }) with names := l, changes := S.changes ++ [c] } : St).count := by
  have h1 := h.last
  have h2 := h.ops
  have h3 := h.chs
  have hu := h.used
  have hr := h.room
  rw [count_idle (by exact h.armed)]
  have hfl : ∀ q f', (if q = (m : Int) then some { f with gone := true } else S.files q) = some f' → (q = (m : Int) ∧ f' = { f with gone := true }) ∨ (q ≠ (m : Int) ∧ S.files q = some f') := by
    intro q f' hq
    by_cases e : q = (m : Int)
    · rw [if_pos e] at hq
      injection hq with hq
      exact .inl ⟨e, hq.symm⟩
    · rw [if_neg e] at hq
      exact .inr ⟨e, hq⟩
  refine ⟨h.cap, h.dead, h.armed, h.safe, ?_, by show S.used - f.bytes.length ≤ C; omega, hk, hv, fun y hy => ?_, fun q f' hq hg' => ?_, fun q f' hq => ?_, ⟨h1.1, by show S.last ≤ ((k + 1 : Nat) : Int); omega⟩, ⟨by show 0 ≤ S.ops + 1; omega, by show S.ops + 1 ≤ ((k + 1 : Nat) : Int); omega⟩, by show (S.changes ++ [_]).length ≤ k + 1; simp; omega, fun q f' hq => ?_, by have e1 := hs (fun _ => 1); have e2 := h.cnt; rw [sumF_len, sumF_len] at e1; show l.length ≤ k + 1; omega⟩
  · have e := hs (hL S.files)
    rw [hL_some hf] at e
    have e2 : ∀ F' : Int → Option Fl, (∀ q : Nat, F' (q : Int) = if (q : Int) = (m : Int) then some { f with gone := true } else S.files (q : Int)) → sumF (hL S.files) l = sumF (hL F') l := by
      intro F' hS
      refine sumF_eq fun y hy => ?_
      unfold hL
      rw [hS]
      by_cases e : (y.2 : Int) = (m : Int)
      · rw [if_pos e, e, hf]
      · rw [if_neg e]
    show S.used - f.bytes.length = ((sumF (hL _) l : Nat) : Int)
    rw [← e2 _ (fun q => rfl)]
    omega
  · have hy2 := (hm y.2).1 (List.mem_map.2 ⟨y, hy, rfl⟩)
    obtain ⟨z, hz, hz2⟩ := List.mem_map.1 hy2.1
    have hz2 : z.2 = y.2 := hz2
    obtain ⟨f1, k1, k2⟩ := h.there z hz
    rw [hz2] at k1
    have := hy2.2
    exact ⟨f1, (if_neg (by omega)).trans k1, k2⟩
  · rcases hfl q f' hq with ⟨rfl, rfl⟩ | ⟨hne, hq⟩
    · cases hg'
    · have := h.nums q f' hq
      exact (hm _).2 ⟨h.named q f' hq hg', by omega⟩
  · rcases hfl q f' hq with ⟨rfl, rfl⟩ | ⟨hne, hq⟩
    · exact h.nums _ f hf
    · exact h.nums q f' hq
  · rcases hfl q f' hq with ⟨rfl, rfl⟩ | ⟨hne, hq⟩
    · have := h.files _ f hf
      exact ⟨this.1, this.2.1, by show f.waits.length ≤ k + 1; omega⟩
    · have := h.files q f' hq
      exact ⟨this.1, this.2.1, by omega⟩
end

end Go.Proofs.Ytpkmlehkmmdkoaa
