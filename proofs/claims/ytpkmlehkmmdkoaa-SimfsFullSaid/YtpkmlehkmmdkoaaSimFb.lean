/-
  SimfsFull: renaming and removing keep what holds; appending, whatever the file; nothing has changed.
-/
import Derived.Test.YtpkmlehkmmdkoaaSimFa
namespace Go.Proofs.Ytpkmlehkmmdkoaa
open Go.RowKit

section
variable {C : Int} {k : Nat} {S : St}
theorem Fit.pos (h : Fit C k S) {a : ByteArray} {n : Nat} (ha : aget S.names a = some n) : 0 < n ∧ ∃ f, S.files (n : Int) = some f := by
  obtain ⟨f, k1, _⟩ := h.there _ (ag_in ha)
  have := h.nums _ f k1
  have e : (0 : Int) < (n : Int) := this.1
  exact ⟨by omega, f, k1⟩
theorem nameOk_ne {a : ByteArray} (h : nameOk a = true) : a.size ≠ 0 := by
  unfold nameOk at h
  simp at h
  omega
theorem adel_keys {l : List (ByteArray × Nat)} (a : ByteArray) (h : (l.map (·.1)).Nodup) : ((adel l a).map (·.1)).Nodup := ((adel_sub l a).map _).nodup h
theorem adel_valn {l : List (ByteArray × Nat)} (a : ByteArray) (h : (l.map (·.2)).Nodup) : ((adel l a).map (·.2)).Nodup := ((adel_sub l a).map _).nodup h

theorem Fit.removed (h : Fit C k S) {a : ByteArray} (he : askErr S [a] a = 0) : Fit C (k + 1) (S.did ⟨a, ⟨#[]⟩, 0⟩) ∧ ∃ f, S.files ((followL S.names ⟨a, ⟨#[]⟩, 0⟩).2 : Int) = some f := by
  obtain ⟨hd, hno, n, hs⟩ := askErr_zero he
  have ha := nameOk_ne (a := a) (by simpa using hno)
  obtain ⟨hn0, f, hf⟩ := h.pos hs
  have ef : followL S.names ⟨a, ⟨#[]⟩, 0⟩ = (adel S.names a, n) := by
    unfold followL
    rw [if_neg (fun e => ha (by show a.size = 0; rw [show a = ⟨#[]⟩ from e]; rfl)), if_neg ha, if_pos (by rfl), hs]
    rfl
  have e2 : (followL S.names ⟨a, ⟨#[]⟩, 0⟩).2 = n := by rw [ef]
  rw [St.did_lose e2 (by omega) hf, e2, ef]
  refine ⟨h.turn1 _ hf (adel_keys a h.keys) (adel_valn a h.vals) (fun m => adel_vals h.vals hs m) (fun g => ?_), f, hf⟩
  exact (sumF_adel hs).symm

theorem Fit.renamed (h : Fit C k S) {a b : ByteArray} (he : askErr S [a, b] a = 0) : Fit C (k + 1) (S.did ⟨a, b, 0⟩) ∧ ((followL S.names ⟨a, b, 0⟩).2 ≠ 0 → ∃ f, S.files ((followL S.names ⟨a, b, 0⟩).2 : Int) = some f) := by
  obtain ⟨hd, hno, n, hs⟩ := askErr_zero he
  have ha := nameOk_ne (a := a) (by simp at hno; exact hno.1)
  have hb := nameOk_ne (a := b) (by simp at hno; exact hno.2)
  obtain ⟨hn0, f, hf⟩ := h.pos hs
  by_cases hab : a = b
  · have ef : followL S.names ⟨a, b, 0⟩ = (S.names, 0) := by
      unfold followL
      rw [if_pos hab]
    have e2 : (followL S.names ⟨a, b, 0⟩).2 = 0 := by rw [ef]
    rw [St.did_keep e2, ef]
    exact ⟨h.turn0 _ h.keys h.vals (fun _ => Iff.rfl) (fun _ => rfl), fun e => absurd rfl e⟩
  · have hk1 := adel_keys a h.keys
    have hv1 := adel_valn a h.vals
    have hnn : n ∉ (adel S.names a).map (·.2) := fun hm => ((adel_vals h.vals hs n).1 hm).2 rfl
    have ef : followL S.names ⟨a, b, 0⟩ = (aput (adel S.names a) b n, (aget (adel S.names a) b).getD 0) := by
      unfold followL
      rw [if_neg hab, if_neg ha, if_neg hb, hs]
      rfl
    have hk2 : ((aput (adel S.names a) b n).map (·.1)).Nodup := aput_nodup hk1
    have hv2 : ((aput (adel S.names a) b n).map (·.2)).Nodup := aput_vals hk1 hv1 hnn
    cases hg : aget (adel S.names a) b with
    | none =>
      have e2 : (followL S.names ⟨a, b, 0⟩).2 = 0 := by rw [ef, hg]; rfl
      rw [St.did_keep e2, e2, ef]
      refine ⟨h.turn0 _ hk2 hv2 (fun m => ?_) (fun g => ?_), fun e => absurd rfl e⟩
      · rw [aput_none hg, List.map_append, List.mem_append, adel_vals h.vals hs]
        simp only [List.map_cons, List.map_nil, List.mem_singleton]
        constructor
        · rintro (⟨h1, _⟩ | rfl)
          · exact h1
          · exact List.mem_map.2 ⟨(a, m), ag_in hs, rfl⟩
        · intro h1
          by_cases e : m = n
          · exact .inr e
          · exact .inl ⟨h1, e⟩
      · show sumF g (aput (adel S.names a) b n) = sumF g S.names
        rw [aput_none hg, sumF_append, sumF_cons, sumF_adel hs]
        rfl
    | some m =>
      have hmi : m ∈ S.names.map (·.2) ∧ m ≠ n := (adel_vals h.vals hs m).1 (List.mem_map.2 ⟨(b, m), ag_in hg, rfl⟩)
      obtain ⟨y, hy, hy2⟩ := List.mem_map.1 hmi.1
      have hy2 : y.2 = m := hy2
      obtain ⟨fm, hfm, _⟩ := h.there y hy
      rw [hy2] at hfm
      have hm0 := (h.nums _ fm hfm).1
      have e2 : (followL S.names ⟨a, b, 0⟩).2 = m := by rw [ef, hg]; rfl
      rw [St.did_lose e2 (by omega) hfm, e2, ef]
      refine ⟨h.turn1 _ hfm hk2 hv2 (fun q => ?_) (fun g => ?_), fun _ => ⟨fm, hfm⟩⟩
      · show q ∈ (aput (adel S.names a) b n).map (·.2) ↔ _
        rw [aput_vals_mem hv1 hg, adel_vals h.vals hs]
        constructor
        · rintro (rfl | ⟨⟨h1, _⟩, h2⟩)
          · exact ⟨List.mem_map.2 ⟨(a, q), ag_in hs, rfl⟩, fun e => hmi.2 e.symm⟩
          · exact ⟨h1, h2⟩
        · rintro ⟨h1, h2⟩
          by_cases e : q = n
          · exact .inl e
          · exact .inr ⟨⟨h1, e⟩, h2⟩
      · show sumF g (aput (adel S.names a) b n) + g m = sumF g S.names
        rw [sumF_aput hg, sumF_adel hs]

/-! ## Writes -/
def St.appendE (S : St) (n : Int) (m : Nat) : Int := if S.dead then 21 else match S.file n with
  | none => 7
  | some _ => if 0 < m ∧ S.cap < S.used + m then 5 else 0
def St.append (S : St) (n : Int) (p : List UInt8) : St := if S.dead then S else match S.file n with
  | none => S
  | some f => if 0 < p.length ∧ S.cap < S.used + p.length then S else S.wrote n f ⟨false, f.bytes.length, p⟩
theorem append_any (L : Nat → Nat) (g : Nat) (S : St) (n : Int) (A : Option Addr) (m c B : Nat) (p : List UInt8) (w : World) (h : FsAt w L g S) (hF : Fine S) (hr : Rd w B A (u8s p)) (hB : B ≤ w.heap.size) (hm : m = p.length) (hp : p.length ≤ 400000000) :
    Calls Try.prog 15 #[.pointer (some ⟨g, 0, none⟩), .int .i64 n, .slice A m c] w (FsPost L g (S.append n p) (.int .i64 (S.appendE n m)) w) := by
  cases hd : S.dead
  · cases hn : S.file n with
    | none =>
      have e1 : S.append n p = S := by unfold St.append; rw [hd, hn]; rfl
      have e2 : S.appendE n m = 7 := by unfold St.appendE; rw [hd, hn]; rfl
      rw [e1, e2]
      refine (append_none L g S n A m c w h hd hn).mono ?_
      rintro e w' ⟨rfl, rfl⟩
      exact FsPost.same0 h _
    | some f =>
      by_cases hc : 0 < m ∧ S.cap < S.used + m
      · have e1 : S.append n p = S := by unfold St.append; rw [hd, hn]; show (if 0 < p.length ∧ S.cap < S.used + p.length then S else _) = S; exact if_pos (by rw [hm] at hc; exact hc)
        have e2 : S.appendE n m = 5 := by unfold St.appendE; rw [hd, hn]; exact if_pos hc
        rw [e1, e2]
        refine (append_full L g S n f A m c w h hF hd hn (by omega) hc.1 hc.2).mono ?_
        rintro e w' ⟨rfl, j, rfl⟩
        exact FsPost.same h _ j
      · have e1 : S.append n p = S.wrote n f ⟨false, f.bytes.length, p⟩ := by unfold St.append; rw [hd, hn]; show (if 0 < p.length ∧ S.cap < S.used + p.length then S else S.wrote n f ⟨false, f.bytes.length, p⟩) = _; exact if_neg (by rw [hm] at hc; exact hc)
        have e2 : S.appendE n m = 0 := by unfold St.appendE; rw [hd, hn]; exact if_neg hc
        rw [e1, e2]
        exact append_ok L g S n f A m c B p w h hF hd hn hr hB hm hp (by omega)
  · have e1 : S.append n p = S := by unfold St.append; rw [hd]; rfl
    have e2 : S.appendE n m = 21 := by unfold St.appendE; rw [hd]; rfl
    rw [e1, e2]
    refine (append_dead L g S n A m c w h hd).mono ?_
    rintro e w' ⟨rfl, rfl⟩
    exact FsPost.same0 h _

theorem Fit.append (h : Fit C k S) (n : Int) (p : List UInt8) : Fit C (k + 1) (S.append n p) := by
  unfold St.append
  rw [h.dead]
  cases hn : S.file n with
  | none => exact h.more
  | some f =>
    show Fit C (k + 1) (if 0 < p.length ∧ S.cap < S.used + p.length then S else S.wrote n f ⟨false, f.bytes.length, p⟩)
    have hr := h.room
    have hc := h.cap
    split
    · exact h.more
    · refine h.wrote hn _ ?_
      have : (doW f.bytes ⟨false, f.bytes.length, p⟩).length = f.bytes.length + p.length := by simp [doW]
      rw [this]
      omega
theorem Fit.write (h : Fit C k S) (n q : Int) (p : List UInt8) : Fit C (k + 1) (S.write n q p) := by
  unfold St.write
  rw [h.dead]
  cases hn : S.file n with
  | none => exact h.more
  | some f =>
    show Fit C (k + 1) (if q < 0 ∨ (f.bytes.length : Int) < q then S else if (f.bytes.length : Int) < q + p.length ∧ S.cap < S.used + (q + p.length - f.bytes.length) then S else S.wrote n f ⟨false, q.toNat, p⟩)
    have hr := h.room
    have hc := h.cap
    split
    · exact h.more
    · split
      · exact h.more
      · refine h.wrote hn _ ?_
        have : (doW f.bytes ⟨false, q.toNat, p⟩).length = max f.bytes.length (q.toNat + p.length) := by simp [doW]; omega
        rw [this]
        omega
theorem Fit.cut (h : Fit C k S) (n q : Int) : Fit C (k + 1) (S.cut n q) := by
  unfold St.cut
  rw [h.dead]
  cases hn : S.file n with
  | none => exact h.more
  | some f =>
    show Fit C (k + 1) (if q < 0 ∨ (f.bytes.length : Int) < q then S else S.wrote n f ⟨true, q.toNat, []⟩)
    have hr := h.room
    split
    · exact h.more
    · refine h.wrote hn _ ?_
      rw [doW_cut]
      simp
      omega
theorem append_five {n : Int} {p : List UInt8} (h : S.appendE n p.length = 5) : S.append n p = S ∧ 0 < p.length := by
  unfold St.appendE at h
  unfold St.append
  cases hd : S.dead
  · rw [hd] at h
    cases hn : S.file n with
    | none => rw [hn] at h; simp at h
    | some f =>
      rw [hn] at h
      have h' : (if 0 < p.length ∧ S.cap < S.used + p.length then (5 : Int) else 0) = 5 := h
      by_cases hc : 0 < p.length ∧ S.cap < S.used + p.length
      · exact ⟨if_pos hc, hc.1⟩
      · rw [if_neg hc] at h'; cases h'
  · rw [hd] at h; simp at h
theorem write_five {n q : Int} {p : List UInt8} (h : S.writeE n q p.length = 5) : S.write n q p = S ∧ 0 < p.length := by
  unfold St.writeE at h
  unfold St.write
  cases hd : S.dead
  · rw [hd] at h
    cases hn : S.file n with
    | none => rw [hn] at h; simp at h
    | some f =>
      rw [hn] at h
      have h' : (if q < 0 ∨ (f.bytes.length : Int) < q then (2 : Int) else if (f.bytes.length : Int) < q + p.length ∧ S.cap < S.used + (q + p.length - f.bytes.length) then 5 else 0) = 5 := h
      by_cases hq : q < 0 ∨ (f.bytes.length : Int) < q
      · rw [if_pos hq] at h'; cases h'
      · rw [if_neg hq] at h'
        by_cases hc : (f.bytes.length : Int) < q + p.length ∧ S.cap < S.used + (q + p.length - f.bytes.length)
        · exact ⟨(if_neg hq).trans (if_pos hc), by omega⟩
        · rw [if_neg hc] at h'; cases h'
  · rw [hd] at h; simp at h

/-! ## The same as itself -/
theorem eqL_self {α : Type} {q : α → α → Bool} (hq : ∀ x, q x x = true) : ∀ l : List α, eqL q l l = true
  | [] => rfl
  | x :: l => by
    show (q x x && eqL q l l) = true
    rw [hq, eqL_self hq l]
    rfl
theorem chEq_self (x : Ch) : chEq x x = true := by simp [chEq]
theorem flEq_self (x : Fl) : flEq x x = true := by simp [flEq, eqL_self (fun y => (wrEq_iff y y).2 rfl)]
theorem Fit.nmEq (h : Fit C k S) : nmEq S S.names S S.names = true := by
  unfold Go.Proofs.Ytpkmlehkmmdkoaa.nmEq
  simp only [beq_self_eq_true, Bool.true_and, List.all_eq_true]
  intro x hx
  obtain ⟨f, hf, _⟩ := h.there x hx
  unfold nmOne
  rw [aget_mem h.keys hx]
  show flO (S.files (x.2 : Int)) (S.files (x.2 : Int)) = true
  rw [hf]
  exact flEq_self f
theorem Fit.isSome (h : Fit C k S) : ∀ x ∈ S.names, (S.files (x.2 : Int)).isSome := fun x hx => by
  obtain ⟨f, hf, _⟩ := h.there x hx
  rw [hf]
  rfl
/-- A copy is told as the same. -/
theorem Fit.same (h : Fit C k S) {g1 g2 : Nat} {L1 L2 : Nat → Nat} {w : World} (h1 : FsAt w L1 g1 S) (h2 : FsAt w L2 g2 S) :
    Calls Try.prog 10 #[.pointer (some ⟨g1, 0, none⟩), .pointer (some ⟨g2, 0, none⟩)] w fun e w' => e = .returned (.bool true) ∧ w.grownBy w' none :=
  same_yes g1 g2 S S L1 L2 w h1 h2 h.isSome h.isSome (by rw [h.safe]; exact fun x hx => by cases hx) (by rw [h.safe]; exact fun x hx => by cases hx) h.nmEq (by rw [h.safe]; rfl) (eqL_self chEq_self _)
end

end Go.Proofs.Ytpkmlehkmmdkoaa
