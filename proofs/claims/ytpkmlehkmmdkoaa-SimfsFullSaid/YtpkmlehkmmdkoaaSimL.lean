/-
  What every law of this layer does first of all: a file that is written, synced, written again and torn.
-/
import Derived.Test.YtpkmlehkmmdkoaaSimN
namespace Go.Proofs.Ytpkmlehkmmdkoaa
open Go.RowKit

def Live.nm : ByteArray := ⟨#[97]⟩
def Live.S1 : St := (St.new 10).created Live.nm
def Live.f0 : Fl := ⟨false, [], [], []⟩
def Live.S2 : St := Live.S1.wrote 1 Live.f0 ⟨false, 0, [97, 98, 99]⟩
def Live.f1 : Fl := ⟨false, [97, 98, 99], [], [⟨false, 0, [97, 98, 99]⟩]⟩
def Live.S3 : St := Live.S2.synced 1 Live.f1
def Live.f2 : Fl := ⟨false, [97, 98, 99], [97, 98, 99], []⟩
def Live.S4 : St := (Live.S3.settled Live.S3.names).count
def Live.S5 : St := Live.S4.wrote 1 Live.f2 ⟨false, 3, [100, 101]⟩
def Live.f3 : Fl := ⟨false, [97, 98, 99, 100, 101], [97, 98, 99], [⟨false, 3, [100, 101]⟩]⟩
def Live.S6 : St := Live.S5.wrote 1 Live.f3 ⟨false, 5, [102]⟩
def Live.f4 : Fl := ⟨false, [97, 98, 99, 100, 101, 102], [97, 98, 99], [⟨false, 3, [100, 101]⟩, ⟨false, 5, [102]⟩]⟩

/-- All that the steps ask. -/
theorem Live.err : createErr (St.new 10) Live.nm = 0 := by decide
theorem Live.h1 : Live.S1.file 1 = some Live.f0 ∧ Live.S1.dead = false := ⟨rfl, rfl⟩
theorem Live.h2 : Live.S2.file 1 = some Live.f1 ∧ Live.S2.dead = false := ⟨rfl, rfl⟩
theorem Live.h3 : Live.S3.file 1 = some Live.f2 ∧ Live.S3.dead = false := ⟨rfl, rfl⟩
theorem Live.h4 : Live.S4.file 1 = some Live.f2 ∧ Live.S4.dead = false := ⟨rfl, rfl⟩
theorem Live.h5 : Live.S5.file 1 = some Live.f3 ∧ Live.S5.dead = false := ⟨rfl, rfl⟩
theorem Live.h6 : Live.S6.file 1 = some Live.f4 ∧ Live.S6.dead = false := ⟨rfl, rfl⟩
theorem Live.only1 (S : St) (f : Fl) (he : S.files = fun m => if m = 1 then some f else none) (hu : 0 ≤ S.used ∧ S.used ≤ 100) (ho : 0 ≤ S.ops ∧ S.ops ≤ 100) (ha : S.armed ≤ 100) (hl : 0 ≤ S.last ∧ S.last ≤ 100) (hc : S.changes.length ≤ 100) (hf : f.bytes.length ≤ 100 ∧ f.safe.length ≤ 100 ∧ f.waits.length ≤ 100) : Fine S := by
  refine ⟨by omega, by omega, by omega, by omega, by omega, fun n f' h => ?_⟩
  rw [he] at h
  simp only at h
  split at h
  · injection h with h
    subst h
    omega
  · cases h
theorem Live.fine0 : Fine (St.new 10) := ⟨by decide, by decide, by decide, by decide, by decide, fun n f h => by cases h⟩
theorem Live.files1 : Live.S1.files = fun m => if m = 1 then some Live.f0 else none := rfl
theorem Live.files2 : Live.S2.files = fun m => if m = 1 then some Live.f1 else none := by
  funext m
  show (if m = 1 then some _ else if m = 1 then _ else none) = _
  split <;> rfl
theorem Live.files3 : Live.S3.files = fun m => if m = 1 then some Live.f2 else none := by
  funext m
  show (if m = 1 then some _ else Live.S2.files m) = _
  rw [Live.files2]
  simp only
  split <;> rfl
theorem Live.files4 : Live.S4.files = fun m => if m = 1 then some Live.f2 else none := by
  funext m
  show (if ∃ x ∈ Live.S3.names, (x.2 : Int) = m then Live.S3.files m else none) = _
  rw [Live.files3, show Live.S3.names = [(Live.nm, 1)] from rfl]
  by_cases h : m = 1
  · subst h; rfl
  · rw [if_neg h]
    simp [h]
theorem Live.files5 : Live.S5.files = fun m => if m = 1 then some Live.f3 else none := by
  funext m
  show (if m = 1 then some _ else Live.S4.files m) = _
  rw [Live.files4]
  simp only
  split <;> rfl
theorem Live.files6 : Live.S6.files = fun m => if m = 1 then some Live.f4 else none := by
  funext m
  show (if m = 1 then some _ else Live.S5.files m) = _
  rw [Live.files5]
  simp only
  split <;> rfl
theorem Live.fine1 : Fine Live.S1 := Live.only1 _ _ Live.files1 (by decide) (by decide) (by decide) (by decide) (by decide) (by decide)
theorem Live.fine2 : Fine Live.S2 := Live.only1 _ _ Live.files2 (by decide) (by decide) (by decide) (by decide) (by decide) (by decide)
theorem Live.fine3 : Fine Live.S3 := Live.only1 _ _ Live.files3 (by decide) (by decide) (by decide) (by decide) (by decide) (by decide)
theorem Live.fine4 : Fine Live.S4 := Live.only1 _ _ Live.files4 (by decide) (by decide) (by decide) (by decide) (by decide) (by decide)
theorem Live.fine5 : Fine Live.S5 := Live.only1 _ _ Live.files5 (by decide) (by decide) (by decide) (by decide) (by decide) (by decide)
theorem Live.fine6 : Fine Live.S6 := Live.only1 _ _ Live.files6 (by decide) (by decide) (by decide) (by decide) (by decide) (by decide)
theorem Live.names3 : ∀ x ∈ Live.S3.names, (Live.S3.files (x.2 : Int)).isSome := by decide

/-! ## behind the crash -/
def Live.l6 : List (ByteArray × Nat) := followed Live.S6.safe (Live.S6.changes.take (crashK Live.S6 0))
theorem Live.l6_is : Live.l6 = [(Live.nm, 1)] := by decide
theorem Live.hN6 : ∀ x ∈ followed Live.S6.safe (Live.S6.changes.take (crashK Live.S6 0)), (Live.S6.files (x.2 : Int)).isSome := by
  intro x hx
  have hx' : x ∈ Live.l6 := hx
  rw [Live.l6_is] at hx'
  simp only [List.mem_singleton] at hx'
  subst hx'
  decide
theorem Live.hNl6 : (followed Live.S6.safe (Live.S6.changes.take (crashK Live.S6 0))).length ≤ 100000 := by
  show Live.l6.length ≤ 100000
  rw [Live.l6_is]
  decide
theorem Live.good4 : Live.f4.Good := by
  refine ⟨by decide, by decide, fun k hk => ?_⟩
  have hk' : k < 2 := hk
  rcases k with _ | _ | k
  · simp [Live.f4]
  · simp [Live.f4, doW]
  · omega
theorem Live.hG6 : ∀ n f, Live.S6.files n = some f → f.Good := by
  intro n f h
  rw [Live.files6] at h
  simp only at h
  split at h
  · injection h with h
    subst h
    exact Live.good4
  · cases h
theorem Live.ks {ks : List Int} (h1 : ks.Nodup) (h2 : ∀ n, n ∈ ks ↔ ∃ x ∈ followed Live.S6.safe (Live.S6.changes.take (crashK Live.S6 0)), (x.2 : Int) = n) : ks = [1] := by
  have h3 : ∀ n, n ∈ ks ↔ n = 1 := fun n => by
    rw [h2]
    show (∃ x ∈ Live.l6, (x.2 : Int) = n) ↔ _
    rw [Live.l6_is]
    simp
    omega
  match ks, h1, h3 with
  | [], _, h => exact absurd ((h 1).2 rfl) (by simp)
  | [a], _, h => rw [(h a).1 (by simp)]
  | a :: b :: t, hn, h =>
    have ha := (h a).1 (by simp)
    have hb := (h b).1 (by simp)
    rw [ha, hb] at hn
    simp at hn
def Live.f5 : Fl := ⟨false, [97, 98, 99, 100], [97, 98, 99, 100], []⟩
def Live.S7 : St := { (Live.S6.fallen 0).torn ([((1 : Int), (0 : Int), (1 : Int))].foldl tornM []) [1] with dead := false, armed := 0 }
theorem Live.files7 : Live.S7.files = fun m => if m = 1 then some Live.f5 else none := by
  funext m
  show (if m ∈ [1] then (if ∃ x ∈ Live.l6, (x.2 : Int) = m then Live.S6.files m else none).map (tornFl ([((1 : Int), (0 : Int), (1 : Int))].foldl tornM []) m) else if ∃ x ∈ Live.l6, (x.2 : Int) = m then Live.S6.files m else none) = _
  rw [Live.l6_is, Live.files6]
  by_cases h : m = 1
  · subst h
    rfl
  · have h' : ¬ (1 : Int) = m := fun e => h e.symm
    simp [h, h']
theorem Live.h7 : Live.S7.file 1 = some Live.f5 ∧ Live.S7.dead = false := by
  refine ⟨?_, rfl⟩
  unfold St.file
  rw [Live.files7]
  rfl
theorem Live.fine7 : Fine Live.S7 := Live.only1 _ _ Live.files7 (by decide) (by decide) (by decide) (by decide) (by decide) (by decide)
def Live.S8 : St := { Live.S7 with armed := 1 }
theorem Live.h8 : Live.S8.file 1 = some Live.f5 ∧ Live.S8.dead = false := Live.h7
theorem Live.fine8 : Fine Live.S8 := Live.only1 _ _ Live.files7 (by decide) (by decide) (by decide) (by decide) (by decide) (by decide)
def Live.S9 : St := Live.S8.wrote 1 Live.f5 ⟨false, 4, [120]⟩
theorem Live.dead9 : Live.S9.dead = true := by decide
theorem Live.fit8 : (1 : Nat) = 0 ∨ Live.S8.used + (1 : Nat) ≤ Live.S8.cap := by decide
theorem Live.badA : nameErr ⟨#[65]⟩ = 20 := by decide

end Go.Proofs.Ytpkmlehkmmdkoaa
