/-
  The law Switch: its first operations, and what is found.
-/
import Derived.Test.YtpkmlehkmmdkoaaSimU
import Derived.Test.YtpkmlehkmmdkoaaSimO
namespace Go.Proofs.Ytpkmlehkmmdkoaa
open Go.RowKit

/-! ## up to the first SyncDir -/
theorem Sw.F0 (f : Fl) : (fun m => if m = (1 : Int) then some f else (fun _ => none : Int → Option Fl) m) = Sw.F (some f) none := by
  funext m
  unfold Sw.F
  by_cases h : m = 1
  · subst h; simp
  · simp [h]
def Sw.V1 : St := ⟨67108864, 0, 1, 1, 0, false, Sw.F (some ⟨false, [], [], []⟩) none, [(Sw.it, 1)], [], [⟨⟨#[]⟩, Sw.it, 1⟩]⟩
def Sw.V2 (old : List UInt8) : St := ⟨67108864, old.length, 1, 2, 0, false, Sw.F (some ⟨false, old, [], [⟨false, 0, old⟩]⟩) none, [(Sw.it, 1)], [], [⟨⟨#[]⟩, Sw.it, 1⟩]⟩
def Sw.V3 (old : List UInt8) : St := ⟨67108864, old.length, 1, 3, 0, false, Sw.F (some ⟨false, old, old, []⟩) none, [(Sw.it, 1)], [], [⟨⟨#[]⟩, Sw.it, 1⟩]⟩
theorem Sw.v1 : (St.new 67108864).created Sw.it = Sw.V1 := by
  have e : (St.new 67108864).created Sw.it = { Sw.V1 with files := fun m => if m = (1 : Int) then some ⟨false, [], [], []⟩ else (fun _ => none : Int → Option Fl) m } := rfl
  rw [e, Sw.F0]
  rfl
theorem Sw.v2 (old : List UInt8) : Sw.V1.wrote 1 ⟨false, [], [], []⟩ ⟨false, 0, old⟩ = Sw.V2 old := by
  have e0 : doW [] ⟨false, 0, old⟩ = old := by simp [doW]
  have e1 : Sw.V1.wrote 1 ⟨false, [], [], []⟩ ⟨false, 0, old⟩ = { Sw.V2 old with used := 0 - 0 + (doW [] ⟨false, 0, old⟩).length, files := fun m => if m = (1 : Int) then some ⟨false, doW [] ⟨false, 0, old⟩, [], [⟨false, 0, old⟩]⟩ else Sw.F (some ⟨false, [], [], []⟩) none m } := rfl
  rw [e1, e0, Sw.F1]
  unfold Sw.V2
  simp
theorem Sw.v3 (old : List UInt8) : (Sw.V2 old).synced 1 ⟨false, old, [], [⟨false, 0, old⟩]⟩ = Sw.V3 old := by
  have e1 : (Sw.V2 old).synced 1 ⟨false, old, [], [⟨false, 0, old⟩]⟩ = { Sw.V3 old with files := fun m => if m = (1 : Int) then some ⟨false, old, old, []⟩ else Sw.F (some ⟨false, old, [], [⟨false, 0, old⟩]⟩) none m } := rfl
  rw [e1, Sw.F1]
  rfl
theorem Sw.v4 (old fresh : List UInt8) : ((Sw.V3 old).settled (Sw.V3 old).names).count = Sw.T old fresh 4 0 false 0 := by
  have ef : (fun n : Int => if ∃ x ∈ ([(Sw.it, 1)] : List (ByteArray × Nat)), (x.2 : Int) = n then Sw.F (some ⟨false, old, old, []⟩) none n else none) = Sw.F (some ⟨false, old, old, []⟩) none := by
    funext n
    unfold Sw.F
    by_cases hn : n = 1
    · subst hn; simp
    · have hn' : ¬ (1 : Int) = n := fun e => hn e.symm
      by_cases h2 : n = 2 <;> simp [hn, hn', h2]
  have e1 : ((Sw.V3 old).settled (Sw.V3 old).names).count = { Sw.T old fresh 4 0 false 0 with files := fun n : Int => if ∃ x ∈ ([(Sw.it, 1)] : List (ByteArray × Nat)), (x.2 : Int) = n then Sw.F (some ⟨false, old, old, []⟩) none n else none } := rfl
  rw [e1, ef]
  rfl
theorem Sw.fine1 : Fine Sw.V1 := Sw.fine_of _ _ _ rfl (by rintro f (h | h) <;> cases h; simp) (by decide) (by decide) (by decide) (by decide) (by decide)
theorem Sw.fine2 {old : List UInt8} (ho : old.length ≤ 20000) : Fine (Sw.V2 old) := Sw.fine_of _ _ _ rfl (by rintro f (h | h) <;> cases h; simp; omega) (by simp [Sw.V2]; omega) (by simp [Sw.V2]) (by simp [Sw.V2]) (by simp [Sw.V2]) (by simp [Sw.V2])
theorem Sw.fine3 {old : List UInt8} (ho : old.length ≤ 20000) : Fine (Sw.V3 old) := Sw.fine_of _ _ _ rfl (by rintro f (h | h) <;> cases h; simp; omega) (by simp [Sw.V3]; omega) (by simp [Sw.V3]) (by simp [Sw.V3]) (by simp [Sw.V3]) (by simp [Sw.V3])
theorem Sw.fine0 : Fine (St.new 67108864) := ⟨by decide, by decide, by decide, by decide, by decide, fun n f h => by cases h⟩

section
variable {w wx : World} {g : Nat} {old fresh : List UInt8}
theorem Sw.c1 (h : Lv w g (St.new 67108864) wx) : Calls Try.prog 14 #[.pointer (some ⟨g, 0, none⟩), .string ⟨#[105, 116]⟩] wx fun e w' => e = .returned (.tuple #[.int .i64 1, .int .i64 0]) ∧ Lv w g Sw.V1 w' :=
  (h.create Sw.it (show createErr (St.new 67108864) Sw.it = 0 from rfl) Sw.fine0).mono fun e w' ⟨he, hl⟩ => ⟨he, by rw [Sw.v1] at hl; exact hl⟩
theorem Sw.c2 (h : Lv w g Sw.V1 wx) (ho : old.length ≤ 20000) (A : Option Addr) (m c : Nat) (hr : Rd wx wx.heap.size A (u8s old)) (hm : m = old.length) :
    Calls Try.prog 15 #[.pointer (some ⟨g, 0, none⟩), .int .i64 1, .slice A m c] wx fun e w' => e = .returned (.int .i64 0) ∧ Lv w g (Sw.V2 old) w' :=
  (h.append Sw.fine1 (n := 1) (f := ⟨false, [], [], []⟩) ⟨rfl, rfl⟩ old A m c hr hm (by omega) (.inr (by show (0 : Int) + m ≤ 67108864; omega))).mono fun e w' ⟨he, hl⟩ => ⟨he, by
    have hl' : Lv w g (Sw.V1.wrote 1 ⟨false, [], [], []⟩ ⟨false, 0, old⟩) w' := hl
    rw [Sw.v2] at hl'
    exact hl'⟩
theorem Sw.c3 (h : Lv w g (Sw.V2 old) wx) (ho : old.length ≤ 20000) : Calls Try.prog 16 #[.pointer (some ⟨g, 0, none⟩), .int .i64 1] wx fun e w' => e = .returned (.int .i64 0) ∧ Lv w g (Sw.V3 old) w' :=
  (h.sync (Sw.fine2 ho) (n := 1) (f := ⟨false, old, [], [⟨false, 0, old⟩]⟩) ⟨rfl, rfl⟩).mono fun e w' ⟨he, hl⟩ => ⟨he, by rw [Sw.v3] at hl; exact hl⟩
theorem Sw.c4 (fresh : List UInt8) (h : Lv w g (Sw.V3 old) wx) (ho : old.length ≤ 20000) : Calls Try.prog 17 #[.pointer (some ⟨g, 0, none⟩)] wx fun e w' => e = .returned (.int .i64 0) ∧ Lv w g (Sw.T old fresh 4 0 false 0) w' :=
  (h.syncdir (Sw.fine3 ho) rfl (fun x hx => by
    have hx' : x ∈ ([(Sw.it, 1)] : List (ByteArray × Nat)) := hx
    rw [List.mem_singleton] at hx'
    subst hx'
    rfl)).mono fun e w' ⟨he, hl⟩ => ⟨he, by rw [Sw.v4 old fresh] at hl; exact hl⟩
theorem Sw.c5 (h : Lv w g (Sw.T old fresh 4 0 false 0) wx) (n : Int) (hn : n ≤ 9223372036854775807) : Calls Try.prog 18 #[.pointer (some ⟨g, 0, none⟩), .int .i64 n] wx fun e w' => e = .returned (.tuple #[]) ∧ ∃ S, Lv w g S w' ∧ Sw.At old fresh 0 S := by
  obtain ⟨L, h1, h2, h3⟩ := h
  refine (Lv.post h2 h3 (armed_in L g _ n wx h1)).mono fun e w' ⟨he, hl⟩ => ⟨he, _, hl, 0, 4, max n 0, false || n == 0, rfl, Nat.le_refl _, fun _ => rfl, by omega, by omega, by omega⟩
/-- Open and Read behind the crash. -/
theorem Sw.open_ {S : St} {d : Bool} (h : Lv w g S wx) (hp : Sw.Post old fresh d S) : ∃ (n : Nat) (xs : List UInt8), (xs = old ∨ xs = fresh) ∧ (d = false → xs = fresh) ∧ xs.length ≤ 20000 ∧
    Calls Try.prog 22 #[.pointer (some ⟨g, 0, none⟩), .string ⟨#[105, 116]⟩] wx fun e w' => e = .returned (.tuple #[.int .i64 (n : Int), .int .i64 0]) ∧
      Calls Try.prog 23 #[.pointer (some ⟨g, 0, none⟩), .int .i64 (n : Int), .int .i64 0, .int .i64 67108864] w' fun e w2 => ∃ A c m, e = .returned (.tuple #[.slice A m c, .int .i64 0]) ∧ m = xs.length ∧ w.grownBy w2 none ∧ Rd w2 w2.heap.size A (u8s xs) := by
  obtain ⟨p1, p2, n, f, p3, p4, p5, p6, p7⟩ := hp
  obtain ⟨L, h1, h2, h3⟩ := h
  have he : askErr S [Sw.it] Sw.it = 0 := by
    have hok : [Sw.it].all nameOk = true := by decide
    unfold askErr
    rw [p1, hok, p3]
    simp
  refine ⟨n, f.bytes, p5, p6, p7, (open_any L g S Sw.it wx h1).mono ?_⟩
  rintro e w' ⟨rfl, hg⟩
  refine ⟨by rw [openVal, if_pos he, he, p3]; rfl, ?_⟩
  have hl := Lv.keep ⟨L, h1, h2, h3⟩ hg
  refine (hl.read p2 (n := (n : Int)) (f := f) ⟨p4, p1⟩ 0 67108864 (Nat.zero_le _) (by decide)).mono ?_
  rintro e w2 ⟨A, c, m, rfl, hm, hl2, hr, _⟩
  refine ⟨A, c, m, rfl, by rw [hm]; show min 67108864 (f.bytes.length - 0) = _; omega, hl2.grown, ?_⟩
  rw [List.drop_zero, List.take_of_length_le (by show f.bytes.length ≤ 67108864; omega)] at hr
  exact hr
end

end Go.Proofs.Ytpkmlehkmmdkoaa
