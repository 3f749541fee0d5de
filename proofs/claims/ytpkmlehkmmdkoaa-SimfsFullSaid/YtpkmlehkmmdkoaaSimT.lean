/-
  A file that is written aside and renamed (the law Switch): its states, step by step.
-/
import Derived.Test.YtpkmlehkmmdkoaaSimS
namespace Go.Proofs.Ytpkmlehkmmdkoaa
open Go.RowKit

def Sw.it : ByteArray := ⟨#[105, 116]⟩
def Sw.aside : ByteArray := ⟨#[105, 116, 46, 110, 101, 119]⟩
def Sw.F (x1 x2 : Option Fl) : Int → Option Fl := fun n => if n = 2 then x2 else if n = 1 then x1 else none
theorem Sw.F2 (x1 x2 : Option Fl) (f : Fl) : (fun m => if m = (2 : Int) then some f else Sw.F x1 x2 m) = Sw.F x1 (some f) := by
  funext m
  unfold Sw.F
  by_cases h : m = 2 <;> simp [h]
theorem Sw.F1 (x1 x2 : Option Fl) (f : Fl) : (fun m => if m = (1 : Int) then some f else Sw.F x1 x2 m) = Sw.F (some f) x2 := by
  funext m
  unfold Sw.F
  by_cases h : m = 1
  · subst h; simp
  · simp [h]
theorem Sw.F_some {x1 x2 : Option Fl} {n : Int} {f : Fl} (h : Sw.F x1 x2 n = some f) : x1 = some f ∨ x2 = some f := by
  unfold Sw.F at h
  split at h
  · exact .inr h
  · split at h
    · exact .inl h
    · cases h

/-- The state behind k of the five operations. -/
def Sw.T (old fresh : List UInt8) (o a : Int) (d : Bool) : Nat → St
  | 0 => ⟨67108864, old.length, 1, o, a, d, Sw.F (some ⟨false, old, old, []⟩) none, [(Sw.it, 1)], [(Sw.it, 1)], []⟩
  | 1 => ⟨67108864, old.length, 2, o, a, d, Sw.F (some ⟨false, old, old, []⟩) (some ⟨false, [], [], []⟩), [(Sw.it, 1), (Sw.aside, 2)], [(Sw.it, 1)], [⟨⟨#[]⟩, Sw.aside, 2⟩]⟩
  | 2 => ⟨67108864, (old.length : Int) + fresh.length, 2, o, a, d, Sw.F (some ⟨false, old, old, []⟩) (some ⟨false, fresh, [], [⟨false, 0, fresh⟩]⟩), [(Sw.it, 1), (Sw.aside, 2)], [(Sw.it, 1)], [⟨⟨#[]⟩, Sw.aside, 2⟩]⟩
  | 3 => ⟨67108864, (old.length : Int) + fresh.length, 2, o, a, d, Sw.F (some ⟨false, old, old, []⟩) (some ⟨false, fresh, fresh, []⟩), [(Sw.it, 1), (Sw.aside, 2)], [(Sw.it, 1)], [⟨⟨#[]⟩, Sw.aside, 2⟩]⟩
  | 4 => ⟨67108864, fresh.length, 2, o, a, d, Sw.F (some ⟨true, old, old, []⟩) (some ⟨false, fresh, fresh, []⟩), [(Sw.it, 2)], [(Sw.it, 1)], [⟨⟨#[]⟩, Sw.aside, 2⟩, ⟨Sw.aside, Sw.it, 0⟩]⟩
  | _ => ⟨67108864, fresh.length, 2, o, a, d, Sw.F none (some ⟨false, fresh, fresh, []⟩), [(Sw.it, 2)], [(Sw.it, 2)], []⟩
/-- What is so behind the j-th: the power is on, and all were done; or it is off, and some were. -/
def Sw.At (old fresh : List UInt8) (j : Nat) (S : St) : Prop :=
  ∃ k o a d, S = Sw.T old fresh o a d k ∧ k ≤ j ∧ (d = false → k = j) ∧ 0 ≤ o ∧ o ≤ 100 + k ∧ a ≤ 9223372036854775807

theorem St.count_on (S : St) : ∃ a d, S.count = { S with ops := S.ops + 1, armed := a, dead := d } ∧ (S.armed ≤ 9223372036854775807 → a ≤ 9223372036854775807) := by
  unfold St.count
  by_cases h : 0 < S.armed
  · rw [if_pos h]
    exact ⟨_, _, rfl, fun _ => by omega⟩
  · rw [if_neg h]
    exact ⟨S.armed, S.dead, rfl, id⟩

theorem Sw.fine_of (S : St) (x1 x2 : Option Fl) (hS : S.files = Sw.F x1 x2) (h1 : ∀ f, x1 = some f ∨ x2 = some f → f.bytes.length ≤ 40000 ∧ f.safe.length ≤ 40000 ∧ f.waits.length ≤ 10)
    (hu : 0 ≤ S.used ∧ S.used ≤ 100000) (hop : 0 ≤ S.ops ∧ S.ops ≤ 200) (ha : S.armed ≤ 9223372036854775807) (hl : 0 ≤ S.last ∧ S.last ≤ 100) (hc : S.changes.length ≤ 100) : Fine S :=
  ⟨by omega, by omega, ha, by omega, by omega, fun n f h => by
    rw [hS] at h
    have := h1 f (Sw.F_some h)
    omega⟩
theorem Sw.fine {old fresh : List UInt8} (ho : old.length ≤ 20000) (hf : fresh.length ≤ 20000) (o a : Int) (d : Bool) (k : Nat) (h0 : 0 ≤ o ∧ o ≤ 200) (ha : a ≤ 9223372036854775807) : Fine (Sw.T old fresh o a d k) := by
  have hq : ∀ (x1 x2 : Option Fl) (f1 f2 : Fl), x1 = some f1 → x2 = some f2 → (f1.bytes.length ≤ 40000 ∧ f1.safe.length ≤ 40000 ∧ f1.waits.length ≤ 10) → (f2.bytes.length ≤ 40000 ∧ f2.safe.length ≤ 40000 ∧ f2.waits.length ≤ 10) →
      ∀ f : Fl, x1 = some f ∨ x2 = some f → f.bytes.length ≤ 40000 ∧ f.safe.length ≤ 40000 ∧ f.waits.length ≤ 10 := by
    rintro x1 x2 f1 f2 rfl rfl h1 h2 f (h | h) <;> injection h with h <;> subst h <;> assumption
  match k with
  | 0 => exact Sw.fine_of _ _ _ rfl (by rintro f (h | h) <;> cases h; simp; omega) (by simp [Sw.T]; omega) (by simpa [Sw.T] using h0) ha (by simp [Sw.T]) (by simp [Sw.T])
  | 1 => exact Sw.fine_of _ _ _ rfl (hq _ _ _ _ rfl rfl (by simp; omega) (by simp)) (by simp [Sw.T]; omega) (by simpa [Sw.T] using h0) ha (by simp [Sw.T]) (by simp [Sw.T])
  | 2 => exact Sw.fine_of _ _ _ rfl (hq _ _ _ _ rfl rfl (by simp; omega) (by simp; omega)) (by simp [Sw.T]; omega) (by simpa [Sw.T] using h0) ha (by simp [Sw.T]) (by simp [Sw.T])
  | 3 => exact Sw.fine_of _ _ _ rfl (hq _ _ _ _ rfl rfl (by simp; omega) (by simp; omega)) (by simp [Sw.T]; omega) (by simpa [Sw.T] using h0) ha (by simp [Sw.T]) (by simp [Sw.T])
  | 4 => exact Sw.fine_of _ _ _ rfl (hq _ _ _ _ rfl rfl (by simp; omega) (by simp; omega)) (by simp [Sw.T]; omega) (by simpa [Sw.T] using h0) ha (by simp [Sw.T]) (by simp [Sw.T])
  | _ + 5 => exact Sw.fine_of _ _ _ rfl (by rintro f (h | h) <;> cases h; simp; omega) (by simp [Sw.T]; omega) (by simpa [Sw.T] using h0) ha (by simp [Sw.T]) (by simp [Sw.T])

theorem Sw.create_is (old fresh : List UInt8) (o a : Int) : ∃ a' d', (Sw.T old fresh o a false 0).created Sw.aside = Sw.T old fresh (o + 1) a' d' 1 ∧ (a ≤ 9223372036854775807 → a' ≤ 9223372036854775807) := by
  obtain ⟨a', d', e, h⟩ := St.count_on (({ Sw.T old fresh o a false 0 with last := 1 + 1, names := [(Sw.it, 1), (Sw.aside, 2)], changes := [⟨⟨#[]⟩, Sw.aside, 2⟩] } : St).setFile 2 ⟨false, [], [], []⟩)
  refine ⟨a', d', ?_, h⟩
  have e1 : (Sw.T old fresh o a false 0).created Sw.aside = (({ Sw.T old fresh o a false 0 with last := 1 + 1, names := [(Sw.it, 1), (Sw.aside, 2)], changes := [⟨⟨#[]⟩, Sw.aside, 2⟩] } : St).setFile 2 ⟨false, [], [], []⟩).count := rfl
  rw [e1, e]
  unfold St.setFile Sw.T
  simp only [Sw.F2]
  rfl
theorem Sw.append_is (old fresh : List UInt8) (o a : Int) : ∃ a' d', (Sw.T old fresh o a false 1).wrote 2 ⟨false, [], [], []⟩ ⟨false, 0, fresh⟩ = Sw.T old fresh (o + 1) a' d' 2 ∧ (a ≤ 9223372036854775807 → a' ≤ 9223372036854775807) := by
  obtain ⟨a', d', e, h⟩ := St.count_on (({ Sw.T old fresh o a false 1 with used := (old.length : Int) + fresh.length } : St).setFile 2 ⟨false, fresh, [], [⟨false, 0, fresh⟩]⟩)
  refine ⟨a', d', ?_, h⟩
  have e0 : doW [] ⟨false, 0, fresh⟩ = fresh := by simp [doW]
  have e1 : (Sw.T old fresh o a false 1).wrote 2 ⟨false, [], [], []⟩ ⟨false, 0, fresh⟩ = (({ Sw.T old fresh o a false 1 with used := (old.length : Int) + fresh.length } : St).setFile 2 ⟨false, fresh, [], [⟨false, 0, fresh⟩]⟩).count := by
    unfold St.wrote
    simp only [e0]
    have : (Sw.T old fresh o a false 1).used - (([] : List UInt8).length : Int) + (fresh.length : Int) = (old.length : Int) + fresh.length := by simp [Sw.T]
    rw [this]
    rfl
  rw [e1, e]
  unfold St.setFile Sw.T
  simp only [Sw.F2]
theorem Sw.sync_is (old fresh : List UInt8) (o a : Int) : ∃ a' d', (Sw.T old fresh o a false 2).synced 2 ⟨false, fresh, [], [⟨false, 0, fresh⟩]⟩ = Sw.T old fresh (o + 1) a' d' 3 ∧ (a ≤ 9223372036854775807 → a' ≤ 9223372036854775807) := by
  obtain ⟨a', d', e, h⟩ := St.count_on ((Sw.T old fresh o a false 2).setFile 2 ⟨false, fresh, fresh, []⟩)
  refine ⟨a', d', ?_, h⟩
  unfold St.synced
  rw [e]
  unfold St.setFile Sw.T
  simp only [Sw.F2]
theorem Sw.follow_is : followL [(Sw.it, 1), (Sw.aside, 2)] ⟨Sw.aside, Sw.it, 0⟩ = ([(Sw.it, 2)], 1) := by decide
theorem Sw.rename_is (old fresh : List UInt8) (o a : Int) : ∃ a' d', (Sw.T old fresh o a false 3).did ⟨Sw.aside, Sw.it, 0⟩ = Sw.T old fresh (o + 1) a' d' 4 ∧ (a ≤ 9223372036854775807 → a' ≤ 9223372036854775807) := by
  have e1 := St.did_lose (S := Sw.T old fresh o a false 3) (c := ⟨Sw.aside, Sw.it, 0⟩) (n := 1) (f := ⟨false, old, old, []⟩) (by show (followL [(Sw.it, 1), (Sw.aside, 2)] ⟨Sw.aside, Sw.it, 0⟩).2 = 1; rw [Sw.follow_is]) (by decide) rfl
  obtain ⟨a', d', e, h⟩ := St.count_on ({ (({ Sw.T old fresh o a false 3 with used := (Sw.T old fresh o a false 3).used - ((⟨false, old, old, []⟩ : Fl).bytes.length : Int) } : St).setFile ((1 : Nat) : Int) { (⟨false, old, old, []⟩ : Fl) with gone := true }) with names := (followL (Sw.T old fresh o a false 3).names ⟨Sw.aside, Sw.it, 0⟩).1, changes := (Sw.T old fresh o a false 3).changes ++ [⟨Sw.aside, Sw.it, 0⟩] } : St)
  refine ⟨a', d', ?_, h⟩
  rw [e1, e]
  have e2 : (followL (Sw.T old fresh o a false 3).names ⟨Sw.aside, Sw.it, 0⟩).1 = [(Sw.it, 2)] := by show (followL [(Sw.it, 1), (Sw.aside, 2)] ⟨Sw.aside, Sw.it, 0⟩).1 = _; rw [Sw.follow_is]
  have e3 : (Sw.T old fresh o a false 3).used - ((⟨false, old, old, []⟩ : Fl).bytes.length : Int) = (fresh.length : Int) := by simp [Sw.T]; omega
  rw [e2, e3]
  unfold St.setFile Sw.T
  simp only [show ((1 : Nat) : Int) = 1 from rfl, Sw.F1]
  rfl
theorem Sw.settle_is (old fresh : List UInt8) (o a : Int) : ∃ a' d', ((Sw.T old fresh o a false 4).settled (Sw.T old fresh o a false 4).names).count = Sw.T old fresh (o + 1) a' d' 5 ∧ (a ≤ 9223372036854775807 → a' ≤ 9223372036854775807) := by
  obtain ⟨a', d', e, h⟩ := St.count_on ((Sw.T old fresh o a false 4).settled (Sw.T old fresh o a false 4).names)
  refine ⟨a', d', ?_, h⟩
  rw [e]
  have ef : ((Sw.T old fresh o a false 4).settled (Sw.T old fresh o a false 4).names).files = Sw.F none (some ⟨false, fresh, fresh, []⟩) := by
    funext n
    show (if ∃ x ∈ ([(Sw.it, 2)] : List (ByteArray × Nat)), (x.2 : Int) = n then Sw.F (some ⟨true, old, old, []⟩) (some ⟨false, fresh, fresh, []⟩) n else none) = _
    unfold Sw.F
    by_cases hn : n = 2
    · subst hn; simp
    · have hn' : ¬ (2 : Int) = n := fun e => hn e.symm
      simp [hn, hn']
  unfold St.settled at ef ⊢
  simp only at ef ⊢
  rw [ef]
  rfl

end Go.Proofs.Ytpkmlehkmmdkoaa
