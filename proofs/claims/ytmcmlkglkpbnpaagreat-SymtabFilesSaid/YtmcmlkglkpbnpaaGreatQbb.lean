/-
  The contracts of FS.Size, FS.SetCapacity, FS.WaitingDir, of FS.Waiting where there is no file.
-/
import Derived.Test.YtmcmlkglkpbnpaaGreatQba
import Derived.Deep.RegionHeld3
import Derived.Test.YtmcmlkglkpbnpaaGreatQaz

namespace Go.Proofs.YtmcmlkglkpbnpaaGreat
open Go.RowKit

theorem ChAt.form {w : World} {own : Nat → Prop} {v : Value} {l : List Ch} (h : ChAt w own v l) : ∃ A c, v = .slice A l.length c ∧ l.length ≤ c ∧ c ≤ maxLen := by
  rcases h.1.2 with ⟨h1, h0⟩ | ⟨g, cap, cur, hv, _, _, h3, h4, _⟩
  · exact ⟨none, 0, by rw [h1, h0], by omega, Nat.zero_le _⟩
  · exact ⟨_, cap, hv, h3, h4⟩
theorem ChAt.elem {w : World} {own : Nat → Prop} {A : Option Addr} {n c : Nat} {l : List Ch} (h : ChAt w own (.slice A n c) l) {i : Nat} (hi : i < l.length) :
    ∃ b, A = some ⟨b, 0, none⟩ ∧ w.cell? ⟨b, i * 3, none⟩ = some (.string l[i].src) ∧ w.cell? ⟨b, i * 3 + 1, none⟩ = some (.string l[i].dst) ∧ w.cell? ⟨b, i * 3 + 2, none⟩ = some (.int .i64 (l[i].file : Int)) := by
  rcases h.1.2 with ⟨e, h0⟩ | ⟨b, cap, cur, hv, _, h6, _, _, _, h9⟩
  · omega
  · injection hv with hA _ _
    obtain ⟨w1, w2, w3⟩ := chcells_at l i hi
    have hc : ∀ j, j < l.length * 3 → w.cell? ⟨b, j, none⟩ = (chcells l)[j]? := fun j hj => by
      rw [blk_cell h6, ← h9, List.getElem?_take, if_pos hj, Array.getElem?_toList]
    exact ⟨b, hA, by rw [hc _ (by omega), w1], by rw [hc _ (by omega), w2], by rw [hc _ (by omega), w3]⟩

end Go.Proofs.YtmcmlkglkpbnpaaGreat

namespace Go.Proofs.YtmcmlkglkpbnpaaGreat
open Go.RowKit

end Go.Proofs.YtmcmlkglkpbnpaaGreat

namespace Go.Proofs.YtmcmlkglkpbnpaaGreat
open Go.RowKit

theorem FileAt.grown {w w' : World} {own rd : Nat → Prop} {g : Nat} {f : Fl} (h : FileAt w own rd g f) (hg : w.grownBy w' none) : FileAt w' own rd g f := h.keep fun i _ hl => hg.block i hl (by simp)
end Go.Proofs.YtmcmlkglkpbnpaaGreat

namespace Go.Proofs.YtmcmlkglkpbnpaaGreat
open Go.RowKit

def SixAt (g1 g2 mn1 ms1 mn2 ms2 : Nat) (A1 : Option Addr) (n1 c1 : Nat) (A2 : Option Addr) (n2 c2 : Nat) (w' : World) : Prop :=
  w'.cell? ⟨g1, 4, none⟩ = some (.map (some mn1)) ∧ w'.cell? ⟨g1, 5, none⟩ = some (.map (some ms1)) ∧ w'.cell? ⟨g1, 6, none⟩ = some (.slice A1 n1 c1) ∧
    w'.cell? ⟨g2, 4, none⟩ = some (.map (some mn2)) ∧ w'.cell? ⟨g2, 5, none⟩ = some (.map (some ms2)) ∧ w'.cell? ⟨g2, 6, none⟩ = some (.slice A2 n2 c2)
theorem SixAt.grown {g1 g2 mn1 ms1 mn2 ms2 : Nat} {A1 : Option Addr} {n1 c1 : Nat} {A2 : Option Addr} {n2 c2 : Nat} {w w' : World} (h : SixAt g1 g2 mn1 ms1 mn2 ms2 A1 n1 c1 A2 n2 c2 w) (hg : w.grownBy w' none) : SixAt g1 g2 mn1 ms1 mn2 ms2 A1 n1 c1 A2 n2 c2 w' := by
  obtain ⟨h1, h2, h3, h4, h5, h6⟩ := h
  exact ⟨cell_grown h1 hg, cell_grown h2 hg, cell_grown h3 hg, cell_grown h4 hg, cell_grown h5 hg, cell_grown h6 hg⟩

theorem ChAt.grown {w w' : World} {own : Nat → Prop} {v : Value} {l : List Ch} (h : ChAt w own v l) (hg : w.grownBy w' none) : ChAt w' own v l := ⟨own_keep h.1 fun _ _ hl => hg.block _ hl (by simp), h.2⟩

end Go.Proofs.YtmcmlkglkpbnpaaGreat

namespace Go.Proofs.YtmcmlkglkpbnpaaGreat
open Go.RowKit

def Sw.it : ByteArray := ⟨#[105, 116]⟩
def Sw.aside : ByteArray := ⟨#[105, 116, 46, 110, 101, 119]⟩
def Sw.F (x1 x2 : Option Fl) : Int → Option Fl := fun n => if n = 2 then x2 else if n = 1 then x1 else none
theorem Sw.F2 (x1 x2 : Option Fl) (f : Fl) : (fun m => if m = (2 : Int) then some f else Sw.F x1 x2 m) = Sw.F x1 (some f) := by
  funext m
  unfold Sw.F
  by_cases h : m = 2 <;> simp [h]
theorem Sw.F1 (x1 x2 : Option Fl) (f : Fl) : (fun m => if m = (1 : Int) then some f else Sw.F x1 x2 m) = Sw.F (some f) x2 := by
  funext m
  unfold Sw.F
  by_cases h : m = 1
  · subst h; simp
  · simp [h]
theorem Sw.F_some {x1 x2 : Option Fl} {n : Int} {f : Fl} (h : Sw.F x1 x2 n = some f) : x1 = some f ∨ x2 = some f := by
  unfold Sw.F at h
  split at h
  · exact .inr h
  · split at h
    · exact .inl h
    · cases h

/-- The state behind k of the five operations. -/
def Sw.T (old fresh : List UInt8) (o a : Int) (d : Bool) : Nat → St
  | 0 => ⟨67108864, old.length, 1, o, a, d, Sw.F (some ⟨false, old, old, []⟩) none, [(Sw.it, 1)], [(Sw.it, 1)], []⟩
  | 1 => ⟨67108864, old.length, 2, o, a, d, Sw.F (some ⟨false, old, old, []⟩) (some ⟨false, [], [], []⟩), [(Sw.it, 1), (Sw.aside, 2)], [(Sw.it, 1)], [⟨⟨#[]⟩, Sw.aside, 2⟩]⟩
  | 2 => ⟨67108864, (old.length : Int) + fresh.length, 2, o, a, d, Sw.F (some ⟨false, old, old, []⟩) (some ⟨false, fresh, [], [⟨false, 0, fresh⟩]⟩), [(Sw.it, 1), (Sw.aside, 2)], [(Sw.it, 1)], [⟨⟨#[]⟩, Sw.aside, 2⟩]⟩
  | 3 => ⟨67108864, (old.length : Int) + fresh.length, 2, o, a, d, Sw.F (some ⟨false, old, old, []⟩) (some ⟨false, fresh, fresh, []⟩), [(Sw.it, 1), (Sw.aside, 2)], [(Sw.it, 1)], [⟨⟨#[]⟩, Sw.aside, 2⟩]⟩
  | 4 => ⟨67108864, fresh.length, 2, o, a, d, Sw.F (some ⟨true, old, old, []⟩) (some ⟨false, fresh, fresh, []⟩), [(Sw.it, 2)], [(Sw.it, 1)], [⟨⟨#[]⟩, Sw.aside, 2⟩, ⟨Sw.aside, Sw.it, 0⟩]⟩
  | _ => ⟨67108864, fresh.length, 2, o, a, d, Sw.F none (some ⟨false, fresh, fresh, []⟩), [(Sw.it, 2)], [(Sw.it, 2)], []⟩
/-- What is so behind the j-th: the power is on, and all were done; or it is off, and some were. -/
def Sw.At (old fresh : List UInt8) (j : Nat) (S : St) : Prop :=
  ∃ k o a d, S = Sw.T old fresh o a d k ∧ k ≤ j ∧ (d = false → k = j) ∧ 0 ≤ o ∧ o ≤ 100 + k ∧ a ≤ 9223372036854775807

theorem St.count_on (S : St) : ∃ a d, S.count = { S with ops := S.ops + 1, armed := a, dead := d } ∧ (S.armed ≤ 9223372036854775807 → a ≤ 9223372036854775807) := by
  unfold St.count
  by_cases h : 0 < S.armed
  · rw [if_pos h]
    exact ⟨_, _, rfl, fun _ => by omega⟩
  · rw [if_neg h]
    exact ⟨S.armed, S.dead, rfl, id⟩

theorem Sw.fine_of (S : St) (x1 x2 : Option Fl) (hS : S.files = Sw.F x1 x2) (h1 : ∀ f, x1 = some f ∨ x2 = some f → f.bytes.length ≤ 40000 ∧ f.safe.length ≤ 40000 ∧ f.waits.length ≤ 10)
    (hu : 0 ≤ S.used ∧ S.used ≤ 100000) (hop : 0 ≤ S.ops ∧ S.ops ≤ 200) (ha : S.armed ≤ 9223372036854775807) (hl : 0 ≤ S.last ∧ S.last ≤ 100) (hc : S.changes.length ≤ 100) : Fine S :=
  ⟨by omega, by omega, ha, by omega, by omega, fun n f h => by
    rw [hS] at h
    have := h1 f (Sw.F_some h)
    omega⟩
theorem Sw.fine {old fresh : List UInt8} (ho : old.length ≤ 20000) (hf : fresh.length ≤ 20000) (o a : Int) (d : Bool) (k : Nat) (h0 : 0 ≤ o ∧ o ≤ 200) (ha : a ≤ 9223372036854775807) : Fine (Sw.T old fresh o a d k) := by
  have hq : ∀ (x1 x2 : Option Fl) (f1 f2 : Fl), x1 = some f1 → x2 = some f2 → (f1.bytes.length ≤ 40000 ∧ f1.safe.length ≤ 40000 ∧ f1.waits.length ≤ 10) → (f2.bytes.length ≤ 40000 ∧ f2.safe.length ≤ 40000 ∧ f2.waits.length ≤ 10) →
      ∀ f : Fl, x1 = some f ∨ x2 = some f → f.bytes.length ≤ 40000 ∧ f.safe.length ≤ 40000 ∧ f.waits.length ≤ 10 := by
    rintro x1 x2 f1 f2 rfl rfl h1 h2 f (h | h) <;> injection h with h <;> subst h <;> assumption
  match k with
  | 0 => exact Sw.fine_of _ _ _ rfl (by rintro f (h | h) <;> cases h; simp; omega) (by simp [Sw.T]; omega) (by simpa [Sw.T] using h0) ha (by simp [Sw.T]) (by simp [Sw.T])
  | 1 => exact Sw.fine_of _ _ _ rfl (hq _ _ _ _ rfl rfl (by simp; omega) (by simp)) (by simp [Sw.T]; omega) (by simpa [Sw.T] using h0) ha (by simp [Sw.T]) (by simp [Sw.T])
  | 2 => exact Sw.fine_of _ _ _ rfl (hq _ _ _ _ rfl rfl (by simp; omega) (by simp; omega)) (by simp [Sw.T]; omega) (by simpa [Sw.T] using h0) ha (by simp [Sw.T]) (by simp [Sw.T])
  | 3 => exact Sw.fine_of _ _ _ rfl (hq _ _ _ _ rfl rfl (by simp; omega) (by simp; omega)) (by simp [Sw.T]; omega) (by simpa [Sw.T] using h0) ha (by simp [Sw.T]) (by simp [Sw.T])
  | 4 => exact Sw.fine_of _ _ _ rfl (hq _ _ _ _ rfl rfl (by simp; omega) (by simp; omega)) (by simp [Sw.T]; omega) (by simpa [Sw.T] using h0) ha (by simp [Sw.T]) (by simp [Sw.T])
  | _ + 5 => exact Sw.fine_of _ _ _ rfl (by rintro f (h | h) <;> cases h; simp; omega) (by simp [Sw.T]; omega) (by simpa [Sw.T] using h0) ha (by simp [Sw.T]) (by simp [Sw.T])

theorem Sw.create_is (old fresh : List UInt8) (o a : Int) : ∃ a' d', (Sw.T old fresh o a false 0).created Sw.aside = Sw.T old fresh (o + 1) a' d' 1 ∧ (a ≤ 9223372036854775807 → a' ≤ 9223372036854775807) := by
  obtain ⟨a', d', e, h⟩ := St.count_on (({ Sw.T old fresh o a false 0 with last := 1 + 1, names := [(Sw.it, 1), (Sw.aside, 2)], changes := [⟨⟨#[]⟩, Sw.aside, 2⟩] } : St).setFile 2 ⟨false, [], [], []⟩)
  refine ⟨a', d', ?_, h⟩
  have e1 : (Sw.T old fresh o a false 0).created Sw.aside = (({ Sw.T old fresh o a false 0 with last := 1 + 1, names := [(Sw.it, 1), (Sw.aside, 2)], changes := [⟨⟨#[]⟩, Sw.aside, 2⟩] } : St).setFile 2 ⟨false, [], [], []⟩).count := rfl
  rw [e1, e]
  unfold St.setFile Sw.T
  simp only [Sw.F2]
  rfl
theorem Sw.append_is (old fresh : List UInt8) (o a : Int) : ∃ a' d', (Sw.T old fresh o a false 1).wrote 2 ⟨false, [], [], []⟩ ⟨false, 0, fresh⟩ = Sw.T old fresh (o + 1) a' d' 2 ∧ (a ≤ 9223372036854775807 → a' ≤ 9223372036854775807) := by
  obtain ⟨a', d', e, h⟩ := St.count_on (({ Sw.T old fresh o a false 1 with used := (old.length : Int) + fresh.length } : St).setFile 2 ⟨false, fresh, [], [⟨false, 0, fresh⟩]⟩)
  refine ⟨a', d', ?_, h⟩
  have e0 : doW [] ⟨false, 0, fresh⟩ = fresh := by simp [doW]
  have e1 : (Sw.T old fresh o a false 1).wrote 2 ⟨false, [], [], []⟩ ⟨false, 0, fresh⟩ = (({ Sw.T old fresh o a false 1 with used := (old.length : Int) + fresh.length } : St).setFile 2 ⟨false, fresh, [], [⟨false, 0, fresh⟩]⟩).count := by
    unfold St.wrote
    simp only [e0]
    have : (Sw.T old fresh o a false 1).used - (([] : List UInt8).length : Int) + (fresh.length : Int) = (old.length : Int) + fresh.length := by simp [Sw.T]
    rw [this]
    rfl
  rw [e1, e]
  unfold St.setFile Sw.T
  simp only [Sw.F2]
theorem Sw.sync_is (old fresh : List UInt8) (o a : Int) : ∃ a' d', (Sw.T old fresh o a false 2).synced 2 ⟨false, fresh, [], [⟨false, 0, fresh⟩]⟩ = Sw.T old fresh (o + 1) a' d' 3 ∧ (a ≤ 9223372036854775807 → a' ≤ 9223372036854775807) := by
  obtain ⟨a', d', e, h⟩ := St.count_on ((Sw.T old fresh o a false 2).setFile 2 ⟨false, fresh, fresh, []⟩)
  refine ⟨a', d', ?_, h⟩
  unfold St.synced
  rw [e]
  unfold St.setFile Sw.T
  simp only [Sw.F2]
theorem Sw.settle_is (old fresh : List UInt8) (o a : Int) : ∃ a' d', ((Sw.T old fresh o a false 4).settled (Sw.T old fresh o a false 4).names).count = Sw.T old fresh (o + 1) a' d' 5 ∧ (a ≤ 9223372036854775807 → a' ≤ 9223372036854775807) := by
  obtain ⟨a', d', e, h⟩ := St.count_on ((Sw.T old fresh o a false 4).settled (Sw.T old fresh o a false 4).names)
  refine ⟨a', d', ?_, h⟩
  rw [e]
  have ef : ((Sw.T old fresh o a false 4).settled (Sw.T old fresh o a false 4).names).files = Sw.F none (some ⟨false, fresh, fresh, []⟩) := by
    funext n
    show (if ∃ x ∈ ([(Sw.it, 2)] : List (ByteArray × Nat)), (x.2 : Int) = n then Sw.F (some ⟨true, old, old, []⟩) (some ⟨false, fresh, fresh, []⟩) n else none) = _
    unfold Sw.F
    by_cases hn : n = 2
    · subst hn; simp
    · have hn' : ¬ (2 : Int) = n := fun e => hn e.symm
      simp [hn, hn']
  unfold St.settled at ef ⊢
  simp only at ef ⊢
  rw [ef]
  rfl

end Go.Proofs.YtmcmlkglkpbnpaaGreat

namespace Go.Proofs.YtmcmlkglkpbnpaaGreat
open Go.RowKit

def Sw.Did (w : World) (g : Nat) (old fresh : List UInt8) (j : Nat) (S0 : St) (e : Ending) (w' : World) : Prop := ∃ (x : Int) (S' : St), e = .returned (.int .i64 x) ∧ Lv w g S' w' ∧ Sw.At old fresh j S' ∧ (S'.dead = false → S0.dead = false)
def Sw.Made (w : World) (g : Nat) (old fresh : List UInt8) (e : Ending) (w' : World) : Prop :=
  ∃ (b x : Int) (S' : St), e = .returned (.tuple #[.int .i64 b, .int .i64 x]) ∧ Lv w g S' w' ∧ Sw.At old fresh 1 S' ∧ (S'.dead = false → b = 2)

theorem Sw.T_dead (old fresh : List UInt8) (o a : Int) (d : Bool) (k : Nat) : (Sw.T old fresh o a d k).dead = d := by
  match k with
  | 0 | 1 | 2 | 3 | 4 | _ + 5 => rfl
theorem Sw.At.off {old fresh : List UInt8} {j : Nat} {S : St} (h : Sw.At old fresh j S) (hd : S.dead = true) (i : Nat) (hi : j ≤ i) : Sw.At old fresh i S := by
  obtain ⟨k, o, a, d, rfl, h1, h2, h3⟩ := h
  rw [Sw.T_dead] at hd
  subst hd
  exact ⟨k, o, a, true, rfl, by omega, (fun h => by cases h), h3⟩
theorem Sw.At.on {old fresh : List UInt8} {j : Nat} {S : St} (h : Sw.At old fresh j S) (hd : S.dead = false) : ∃ o a, S = Sw.T old fresh o a false j ∧ 0 ≤ o ∧ o ≤ 100 + j ∧ a ≤ 9223372036854775807 := by
  obtain ⟨k, o, a, d, rfl, h1, h2, h3⟩ := h
  rw [Sw.T_dead] at hd
  subst hd
  obtain rfl := h2 rfl
  exact ⟨o, a, rfl, h3⟩

section
variable {w wx : World} {g : Nat} {S : St} {old fresh : List UInt8}
theorem Sw.create (h : Lv w g S wx) (hS : Sw.At old fresh 0 S) (ho : old.length ≤ 20000) (hf : fresh.length ≤ 20000) :
    Calls Tryz.prog 79 #[.pointer (some ⟨g, 0, none⟩), .string ⟨#[105, 116, 46, 110, 101, 119]⟩] wx (Sw.Made w g old fresh) := by
  cases hd : S.dead
  · obtain ⟨o, a, rfl, h1, h2, h3⟩ := hS.on hd
    obtain ⟨a', d', e1, e2⟩ := Sw.create_is old fresh o a
    refine (h.create Sw.aside (show createErr (Sw.T old fresh o a false 0) Sw.aside = 0 from rfl) (Sw.fine ho hf o a false 0 (by omega) h3)).mono ?_
    rintro e w' ⟨rfl, hl⟩
    rw [e1] at hl
    exact ⟨2, 0, _, rfl, hl, ⟨1, _, _, _, rfl, Nat.le_refl _, fun _ => rfl, by omega, by omega, e2 h3⟩, fun _ => rfl⟩
  · have he : createErr S Sw.aside ≠ 0 := by unfold createErr; rw [hd, if_pos rfl]; decide
    have hn : S.names.length ≤ 1000000 := by
      obtain ⟨k, o, a, d, rfl, hk, _⟩ := hS
      obtain rfl : k = 0 := by omega
      simp [Sw.T]
    obtain ⟨L, h1, h2, h3⟩ := h
    refine (create_bad L g S Sw.aside wx h1 he hn).mono ?_
    rintro e w' ⟨rfl, hg⟩
    exact ⟨0, _, S, rfl, Lv.keep ⟨L, h1, h2, h3⟩ hg, hS.off hd 1 (by omega), fun h => by rw [hd] at h; cases h⟩
theorem Sw.append (h : Lv w g S wx) (hS : Sw.At old fresh 1 S) (ho : old.length ≤ 20000) (hf : fresh.length ≤ 20000) (b : Int) (hb : S.dead = false → b = 2) (A : Option Addr) (m c : Nat) (hr : Rd wx wx.heap.size A (u8s fresh)) (hm : m = fresh.length) :
    Calls Tryz.prog 15 #[.pointer (some ⟨g, 0, none⟩), .int .i64 b, .slice A m c] wx (Sw.Did w g old fresh 2 S) := by
  cases hd : S.dead
  · obtain rfl := hb hd
    obtain ⟨o, a, rfl, h1, h2, h3⟩ := hS.on hd
    obtain ⟨a', d', e1, e2⟩ := Sw.append_is old fresh o a
    refine (h.append (Sw.fine ho hf o a false 1 (by omega) h3) (n := 2) (f := ⟨false, [], [], []⟩) ⟨rfl, rfl⟩ fresh A m c hr hm (by omega) (.inr (by simp [Sw.T]; omega))).mono ?_
    rintro e w' ⟨rfl, hl⟩
    have hl' : Lv w g ((Sw.T old fresh o a false 1).wrote 2 ⟨false, [], [], []⟩ ⟨false, 0, fresh⟩) w' := hl
    rw [e1] at hl'
    exact ⟨0, _, rfl, hl', ⟨2, _, _, _, rfl, Nat.le_refl _, fun _ => rfl, by omega, by omega, e2 h3⟩, fun _ => hd⟩
  · refine (h.append_dead hd b A m c).mono ?_
    rintro e w' ⟨rfl, hl⟩
    exact ⟨_, S, rfl, hl, hS.off hd 2 (by omega), id⟩
theorem Sw.sync (h : Lv w g S wx) (hS : Sw.At old fresh 2 S) (ho : old.length ≤ 20000) (hf : fresh.length ≤ 20000) (b : Int) (hb : S.dead = false → b = 2) :
    Calls Tryz.prog 57 #[.pointer (some ⟨g, 0, none⟩), .int .i64 b] wx (Sw.Did w g old fresh 3 S) := by
  cases hd : S.dead
  · obtain rfl := hb hd
    obtain ⟨o, a, rfl, h1, h2, h3⟩ := hS.on hd
    obtain ⟨a', d', e1, e2⟩ := Sw.sync_is old fresh o a
    refine (h.sync (Sw.fine ho hf o a false 2 (by omega) h3) (n := 2) (f := ⟨false, fresh, [], [⟨false, 0, fresh⟩]⟩) ⟨rfl, rfl⟩).mono ?_
    rintro e w' ⟨rfl, hl⟩
    rw [e1] at hl
    exact ⟨0, _, rfl, hl, ⟨3, _, _, _, rfl, Nat.le_refl _, fun _ => rfl, by omega, by omega, e2 h3⟩, fun _ => hd⟩
  · obtain ⟨L, h1, h2, h3⟩ := h
    refine (sync_bad L g S b 21 wx h1 (.inl ⟨hd, rfl⟩)).mono ?_
    rintro e w' ⟨rfl, rfl⟩
    exact ⟨_, S, rfl, ⟨L, h1, h2, h3⟩, hS.off hd 3 (by omega), id⟩
theorem Sw.syncdir (h : Lv w g S wx) (hS : Sw.At old fresh 4 S) (ho : old.length ≤ 20000) (hf : fresh.length ≤ 20000) :
    Calls Tryz.prog 80 #[.pointer (some ⟨g, 0, none⟩)] wx (Sw.Did w g old fresh 5 S) := by
  cases hd : S.dead
  · obtain ⟨o, a, rfl, h1, h2, h3⟩ := hS.on hd
    obtain ⟨a', d', e1, e2⟩ := Sw.settle_is old fresh o a
    refine (h.syncdir (Sw.fine ho hf o a false 4 (by omega) h3) rfl (fun x hx => ?_)).mono ?_
    · have hx' : x ∈ ([(Sw.it, 2)] : List (ByteArray × Nat)) := hx
      rw [List.mem_singleton] at hx'
      subst hx'
      rfl
    rintro e w' ⟨rfl, hl⟩
    rw [e1] at hl
    exact ⟨0, _, rfl, hl, ⟨5, _, _, _, rfl, Nat.le_refl _, fun _ => rfl, by omega, by omega, e2 h3⟩, fun _ => hd⟩
  · obtain ⟨L, h1, h2, h3⟩ := h
    refine (syncdir_dead L g S wx h1 hd).mono ?_
    rintro e w' ⟨rfl, rfl⟩
    exact ⟨_, S, rfl, ⟨L, h1, h2, h3⟩, hS.off hd 5 (by omega), id⟩
end

/-! ## the crash -/
theorem tearF_none {f : Fl} (h : f.waits = []) (n b : Int) : tearF f n b = f.safe := by
  unfold tearF
  rw [h]
  simp
theorem tearF_one {f : Fl} {p : List UInt8} (hs : f.safe = []) (h : f.waits = [⟨false, 0, p⟩]) (n b : Int) : (tearF f n b).length ≤ p.length := by
  have hk := tearK_le f n
  unfold tearF
  generalize tearK f n = k at hk
  rw [h, hs]
  rw [h] at hk
  match k, hk with
  | 0, _ => simp [doW]; omega
  | 1, _ => simp [doW]
def Sw.Small (f : Fl) : Prop := f.Good ∧ ∀ n b, (tearF f n b).length ≤ 20000
theorem Sw.small_none {f : Fl} (h : f.waits = []) (hs : f.safe.length ≤ 20000) : Sw.Small f :=
  ⟨⟨by rw [h]; decide, by omega, fun k hk => by rw [h] at hk; cases hk⟩, fun n b => by rw [tearF_none h]; exact hs⟩
theorem Sw.small {old fresh : List UInt8} (ho : old.length ≤ 20000) (hf : fresh.length ≤ 20000) (o a : Int) (d : Bool) (k : Nat) : ∀ n f, (Sw.T old fresh o a d k).files n = some f → Sw.Small f := by
  have h2 : Sw.Small ⟨false, fresh, [], [⟨false, 0, fresh⟩]⟩ := ⟨⟨by simp, by simp, fun k hk => by
    obtain rfl : k = 0 := by simp at hk; omega
    simp; omega⟩, fun n b => Nat.le_trans (tearF_one rfl rfl n b) hf⟩
  intro n f h
  match k with
  | 0 => rcases Sw.F_some h with h | h <;> cases h; exact Sw.small_none rfl ho
  | 1 => rcases Sw.F_some h with h | h <;> cases h; exact Sw.small_none rfl ho; exact Sw.small_none rfl (by simp)
  | 2 => rcases Sw.F_some h with h | h <;> cases h; exact Sw.small_none rfl ho; exact h2
  | 3 => rcases Sw.F_some h with h | h <;> cases h; exact Sw.small_none rfl ho; exact Sw.small_none rfl hf
  | 4 => rcases Sw.F_some h with h | h <;> cases h; exact Sw.small_none rfl ho; exact Sw.small_none rfl hf
  | _ + 5 => rcases Sw.F_some h with h | h <;> cases h; exact Sw.small_none rfl hf

/-- Where "it" leads to behind a crash. -/
def Sw.Leads (old fresh : List UInt8) (fin : Prop) (S : St) (l : List (ByteArray × Nat)) : Prop :=
  l.length ≤ 100000 ∧ (∀ x ∈ l, (S.files (x.2 : Int)).isSome ∧ (x.2 = 1 ∨ x.2 = 2)) ∧ ∃ n f, (Sw.it, n) ∈ l ∧ aget l Sw.it = some n ∧ S.files (n : Int) = some f ∧ f.waits = [] ∧ (f.safe = old ∨ f.safe = fresh) ∧ (fin → f.safe = fresh)
theorem Sw.lead1 {old fresh : List UInt8} {fin : Prop} {S : St} {x2 : Option Fl} {gn : Bool} (hS : S.files = Sw.F (some ⟨gn, old, old, []⟩) x2) (hfin : ¬ fin) : Sw.Leads old fresh fin S [(Sw.it, 1)] := by
  refine ⟨by decide, fun x hx => ?_, 1, ⟨gn, old, old, []⟩, by simp, by decide, by rw [hS]; rfl, rfl, .inl rfl, fun h => absurd h hfin⟩
  rw [List.mem_singleton] at hx
  subst hx
  exact ⟨by rw [hS]; rfl, .inl rfl⟩
theorem Sw.lead12 {old fresh : List UInt8} {fin : Prop} {S : St} {f2 : Fl} {gn : Bool} (hS : S.files = Sw.F (some ⟨gn, old, old, []⟩) (some f2)) (hfin : ¬ fin) : Sw.Leads old fresh fin S [(Sw.it, 1), (Sw.aside, 2)] := by
  refine ⟨by decide, fun x hx => ?_, 1, ⟨gn, old, old, []⟩, by simp, by decide, by rw [hS]; rfl, rfl, .inl rfl, fun h => absurd h hfin⟩
  simp only [List.mem_cons, List.not_mem_nil, or_false] at hx
  rcases hx with rfl | rfl
  · exact ⟨by rw [hS]; rfl, .inl rfl⟩
  · exact ⟨by rw [hS]; rfl, .inr rfl⟩
theorem Sw.lead2 {old fresh : List UInt8} {fin : Prop} {S : St} {x1 : Option Fl} {gn : Bool} (hS : S.files = Sw.F x1 (some ⟨gn, fresh, fresh, []⟩)) : Sw.Leads old fresh fin S [(Sw.it, 2)] := by
  refine ⟨by decide, fun x hx => ?_, 2, ⟨gn, fresh, fresh, []⟩, by simp, by decide, by rw [hS]; rfl, rfl, .inr rfl, fun _ => rfl⟩
  rw [List.mem_singleton] at hx
  subst hx
  exact ⟨by rw [hS]; rfl, .inr rfl⟩
theorem Sw.leads {old fresh : List UInt8} (o a : Int) (d : Bool) (k : Nat) (dir : Int) : Sw.Leads old fresh (5 ≤ k) (Sw.T old fresh o a d k) (followed (Sw.T old fresh o a d k).safe ((Sw.T old fresh o a d k).changes.take (crashK (Sw.T old fresh o a d k) dir))) := by
  have hk := crashK_le (Sw.T old fresh o a d k) dir
  generalize crashK (Sw.T old fresh o a d k) dir = j at hk
  have c0 : ∀ ch : List Ch, followed [(Sw.it, 1)] (ch.take 0) = [(Sw.it, 1)] := fun ch => by rw [List.take_zero]; rfl
  have c1 : followed [(Sw.it, 1)] ([⟨⟨#[]⟩, Sw.aside, 2⟩] : List Ch) = [(Sw.it, 1), (Sw.aside, 2)] := by decide
  have c2 : followed [(Sw.it, 1)] ([⟨⟨#[]⟩, Sw.aside, 2⟩, ⟨Sw.aside, Sw.it, 0⟩] : List Ch) = [(Sw.it, 2)] := by decide
  match k with
  | 0 =>
    obtain rfl : j = 0 := by simpa [Sw.T] using hk
    show Sw.Leads _ _ _ _ (followed [(Sw.it, 1)] (List.take 0 _))
    rw [c0]
    exact Sw.lead1 rfl (by decide)
  | 1 =>
    match j, hk with
    | 0, _ => show Sw.Leads _ _ _ _ (followed [(Sw.it, 1)] (List.take 0 _)); rw [c0]; exact Sw.lead1 rfl (by decide)
    | 1, _ => rw [show followed (Sw.T old fresh o a d 1).safe ((Sw.T old fresh o a d 1).changes.take 1) = _ from c1]; exact Sw.lead12 rfl (by decide)
  | 2 =>
    match j, hk with
    | 0, _ => show Sw.Leads _ _ _ _ (followed [(Sw.it, 1)] (List.take 0 _)); rw [c0]; exact Sw.lead1 rfl (by decide)
    | 1, _ => rw [show followed (Sw.T old fresh o a d 2).safe ((Sw.T old fresh o a d 2).changes.take 1) = _ from c1]; exact Sw.lead12 rfl (by decide)
  | 3 =>
    match j, hk with
    | 0, _ => show Sw.Leads _ _ _ _ (followed [(Sw.it, 1)] (List.take 0 _)); rw [c0]; exact Sw.lead1 rfl (by decide)
    | 1, _ => rw [show followed (Sw.T old fresh o a d 3).safe ((Sw.T old fresh o a d 3).changes.take 1) = _ from c1]; exact Sw.lead12 rfl (by decide)
  | 4 =>
    match j, hk with
    | 0, _ => show Sw.Leads _ _ _ _ (followed [(Sw.it, 1)] (List.take 0 _)); rw [c0]; exact Sw.lead1 rfl (by decide)
    | 1, _ => rw [show followed (Sw.T old fresh o a d 4).safe ((Sw.T old fresh o a d 4).changes.take 1) = _ from c1]; exact Sw.lead12 rfl (by decide)
    | 2, _ => rw [show followed (Sw.T old fresh o a d 4).safe ((Sw.T old fresh o a d 4).changes.take 2) = _ from c2]; exact Sw.lead2 rfl
  | k + 5 =>
    obtain rfl : j = 0 := by simpa [Sw.T] using hk
    exact Sw.lead2 rfl

theorem sumB_le (B : Nat) : ∀ l : List Nat, (∀ x ∈ l, x ≤ B) → l.sum ≤ l.length * B
  | [], _ => by simp
  | x :: l, h => by
    have h1 := h x (by simp)
    have h2 := sumB_le B l fun y hy => h y (by simp [hy])
    have h3 : (l.length + 1) * B = l.length * B + B := Nat.succ_mul _ _
    simp only [List.sum_cons, List.length_cons]
    omega

def Sw.Post (old fresh : List UInt8) (dead : Bool) (S' : St) : Prop := S'.dead = false ∧ Fine S' ∧ ∃ (n : Nat) (f : Fl), aget S'.names Sw.it = some n ∧ S'.file (n : Int) = some f ∧ (f.bytes = old ∨ f.bytes = fresh) ∧ (dead = false → f.bytes = fresh) ∧ f.bytes.length ≤ 20000
theorem Sw.post {old fresh : List UInt8} (ho : old.length ≤ 20000) (hf : fresh.length ≤ 20000) (o a : Int) (d : Bool) (k : Nat) (dir : Int) (m : List (Int × Tn)) (ks : List Int) (hd : d = false → 5 ≤ k) (h0 : 0 ≤ o ∧ o ≤ 200)
    (hks : ks.Nodup) (hk : ∀ n, n ∈ ks ↔ ∃ x ∈ followed (Sw.T old fresh o a d k).safe ((Sw.T old fresh o a d k).changes.take (crashK (Sw.T old fresh o a d k) dir)), (x.2 : Int) = n) :
    Sw.Post old fresh d { ((Sw.T old fresh o a d k).fallen dir).torn m ks with dead := false, armed := 0 } := by
  obtain ⟨_, q1, n, f, q2, q3, q4, q5, q6, q7⟩ := Sw.leads (old := old) (fresh := fresh) o a d k dir
  have hsm := Sw.small ho hf o a d k
  have hT : (Sw.T old fresh o a d k).ops = o ∧ (0 ≤ (Sw.T old fresh o a d k).last ∧ (Sw.T old fresh o a d k).last ≤ 2) := by
    match k with
    | 0 | 1 | 2 | 3 | 4 | _ + 5 => exact ⟨rfl, by simp [Sw.T], by simp [Sw.T]⟩
  generalize Sw.T old fresh o a d k = S at *
  generalize hl : followed S.safe (S.changes.take (crashK S dir)) = l at *
  have hfa : ∀ n, (S.fallen dir).files n = if ∃ x ∈ l, (x.2 : Int) = n then S.files n else none := fun n => by
    show (if ∃ x ∈ followed S.safe (S.changes.take (crashK S dir)), (x.2 : Int) = n then S.files n else none) = _
    rw [hl]
  have hto : ∀ n f, ((S.fallen dir).torn m ks).files n = some f → ∃ f0, S.files n = some f0 ∧ f = tornFl m n f0 := fun n f h => by
    have h' : (if n ∈ ks then ((S.fallen dir).files n).map (tornFl m n) else (S.fallen dir).files n) = some f := h
    rw [hfa] at h'
    by_cases hx : ∃ x ∈ l, (x.2 : Int) = n
    · rw [if_pos hx, if_pos ((hk n).2 hx)] at h'
      cases hs : S.files n with
      | none => rw [hs] at h'; cases h'
      | some f0 => rw [hs] at h'; exact ⟨f0, rfl, by injection h' with h'; exact h'.symm⟩
    · rw [if_neg hx] at h'
      split at h' <;> cases h'
  have hmem : ∃ x ∈ l, (x.2 : Int) = (n : Int) := ⟨_, q2, rfl⟩
  have hfn : ((S.fallen dir).torn m ks).files (n : Int) = some (tornFl m n f) := by
    show (if (n : Int) ∈ ks then ((S.fallen dir).files n).map (tornFl m n) else (S.fallen dir).files n) = _
    rw [hfa, if_pos hmem, if_pos ((hk n).2 hmem), q4]
    rfl
  have hsz : ∀ n f0, S.files n = some f0 → (tornFl m n f0).bytes.length ≤ 20000 ∧ (tornFl m n f0).safe.length ≤ 20000 := fun n f0 h => ⟨(hsm n f0 h).2 _ _, (hsm n f0 h).2 _ _⟩
  have hb : (tornFl m n f).bytes = f.safe := tearF_none q5 _ _
  have hk2 : ks.length ≤ 2 := by
    have hv : ∀ x ∈ ks, x = 1 ∨ x = 2 := fun x hx => by
      obtain ⟨y, hy1, hy2⟩ := (hk x).1 hx
      have := (q1 y hy1).2
      omega
    match ks, hks, hv with
    | [], _, _ | [_], _, _ | [_, _], _, _ => simp
    | x :: y :: z :: t, hn, hv =>
      have h1 := hv x (by simp)
      have h2 := hv y (by simp)
      have h3 := hv z (by simp)
      simp only [List.nodup_cons, List.mem_cons, not_or] at hn
      omega
  have hu : ((ks.map fun n => ((((S.fallen dir).files n).map (tornFl m n)).map fun f => f.bytes.length).getD 0).sum : Nat) ≤ 40000 := by
    have h1 := sumB_le 20000 (ks.map fun n => ((((S.fallen dir).files n).map (tornFl m n)).map fun f => f.bytes.length).getD 0) (fun x hx => by
      obtain ⟨i, hi, rfl⟩ := List.mem_map.1 hx
      rw [hfa, if_pos ((hk i).1 hi)]
      cases hs : S.files i with
      | none => simp
      | some f0 => exact (hsz i f0 hs).1)
    rw [List.length_map] at h1
    omega
  refine ⟨rfl, ⟨⟨by show (0 : Int) ≤ ((ks.map _).sum : Nat); omega, by show (((ks.map _).sum : Nat) : Int) ≤ _; omega⟩, by show 0 ≤ S.ops ∧ S.ops ≤ _; omega, by show (0 : Int) ≤ 9223372036854775807; decide, by show 0 ≤ S.last ∧ S.last ≤ _; omega, by show ([] : List Ch).length ≤ _; decide, fun n' f' h' => ?_⟩, n, tornFl m n f, ?_, ?_, ?_, fun hd' => ?_, ?_⟩
  · obtain ⟨f0, h1, rfl⟩ := hto n' f' h'
    have := hsz n' f0 h1
    exact ⟨by omega, by omega, by show ([] : List Wr).length ≤ _; decide⟩
  · show aget (followed S.safe (S.changes.take (crashK S dir))) Sw.it = some n
    rw [hl]
    exact q3
  · show (match ((S.fallen dir).torn m ks).files (n : Int) with | some f => if f.gone then none else some f | none => none) = _
    rw [hfn]
    rfl
  · rw [hb]
    exact q6
  · rw [hb]
    exact q7 (hd hd')
  · exact (hsz _ f q4).1

theorem Sw.crash {w wx : World} {g : Nat} {S : St} {old fresh : List UInt8} (h : Lv w g S wx) (hS : Sw.At old fresh 5 S) (ho : old.length ≤ 20000) (hf : fresh.length ≤ 20000) (dir : Int) (A : Option Addr) (n c : Nat) (tl : List Tn) {wy : World} (hy : wx.grownBy wy none)
    (hr : Rd wy wy.heap.size A (tcells tl)) (hA : ∀ a, A = some a → a.block < w.heap.size ∨ wx.heap.size ≤ a.block) (hn : n = tl.length) (htl : tl.length ≤ c ∧ c ≤ maxLen) :
    Calls Tryz.prog 8 #[.pointer (some ⟨g, 0, none⟩), .agg #[.int .i64 dir, .slice A n c]] wy fun e w' => e = .returned (.tuple #[]) ∧ ∃ S', Lv w g S' w' ∧ Sw.Post old fresh S.dead S' := by
  subst hn
  obtain ⟨k, o, a, d, rfl, hk, hd, h1, h2, h3⟩ := hS
  obtain ⟨q0, q1, _⟩ := Sw.leads (old := old) (fresh := fresh) o a d k dir
  refine (h.crash (Sw.fine ho hf o a d k (by omega) h3) dir A c tl hy hr hA htl (fun x hx => (q1 x hx).1) q0 (fun n f hn => (Sw.small ho hf o a d k n f hn).1)).mono ?_
  rintro e w' ⟨rfl, ks, k1, k2, hl⟩
  refine ⟨rfl, _, hl, ?_⟩
  rw [Sw.T_dead]
  exact Sw.post ho hf o a d k dir _ ks (fun h => by rw [hd h]; omega) (by omega) k1 k2

end Go.Proofs.YtmcmlkglkpbnpaaGreat

namespace Go.Proofs.YtmcmlkglkpbnpaaGreat

def sumF (h : Nat → Nat) (l : List (ByteArray × Nat)) : Nat := (l.map fun x => h x.2).sum
theorem sumF_append (h : Nat → Nat) (a b : List (ByteArray × Nat)) : sumF h (a ++ b) = sumF h a + sumF h b := by simp [sumF]
theorem sumF_cons (h : Nat → Nat) (x : ByteArray × Nat) (l : List (ByteArray × Nat)) : sumF h (x :: l) = h x.2 + sumF h l := by simp [sumF]
theorem sumF_eq {h h' : Nat → Nat} : ∀ {l : List (ByteArray × Nat)}, (∀ x ∈ l, h x.2 = h' x.2) → sumF h l = sumF h' l
  | [], _ => rfl
  | x :: l, k => by
    rw [sumF_cons, sumF_cons, k x (by simp), sumF_eq (l := l) (fun y hy => k y (by simp [hy]))]
theorem sumF_mem {h : Nat → Nat} : ∀ {l : List (ByteArray × Nat)} {x : ByteArray × Nat}, x ∈ l → h x.2 ≤ sumF h l
  | y :: l, x, hx => by
    rw [sumF_cons]
    rcases List.mem_cons.1 hx with rfl | hx
    · omega
    · have := sumF_mem (h := h) hx
      omega
/-- One number's length changes. -/
theorem sumF_one {h h' : Nat → Nat} {n : Nat} : ∀ {l : List (ByteArray × Nat)}, (l.map (·.2)).Nodup → n ∈ l.map (·.2) → (∀ m, m ≠ n → h m = h' m) → sumF h' l + h n = sumF h l + h' n
  | [], _, hn, _ => by simp at hn
  | x :: l, hd, hn, k => by
    rw [sumF_cons, sumF_cons]
    rw [List.map_cons, List.nodup_cons] at hd
    by_cases e : x.2 = n
    · have hl : sumF h l = sumF h' l := sumF_eq fun y hy => k y.2 (fun e2 => hd.1 (by rw [e, ← e2]; exact List.mem_map_of_mem hy))
      rw [e, hl]
      omega
    · have hn' : n ∈ l.map (·.2) := by
        rw [List.map_cons] at hn
        rcases List.mem_cons.1 hn with hn | hn
        · exact absurd hn.symm e
        · exact hn
      have := sumF_one hd.2 hn' k
      rw [k x.2 e]
      omega

section
variable {κ ν : Type} [DecidableEq κ]
theorem aget_none {l : List (κ × ν)} {k : κ} (h : aget l k = none) : ∀ x ∈ l, x.1 ≠ k := by
  induction l with
  | nil => intro x hx; cases hx
  | cons y l ih =>
    obtain ⟨a, u⟩ := y
    simp only [aget] at h
    by_cases e : a = k
    · rw [if_pos e] at h; cases h
    · rw [if_neg e] at h
      intro x hx
      rcases List.mem_cons.1 hx with rfl | hx
      · exact e
      · exact ih h x hx
theorem aput_none {l : List (κ × ν)} {k : κ} {v : ν} (h : aget l k = none) : aput l k v = l ++ [(k, v)] := by
  induction l with
  | nil => rfl
  | cons y l ih =>
    obtain ⟨a, u⟩ := y
    simp only [aget] at h
    by_cases e : a = k
    · rw [if_pos e] at h; cases h
    · rw [if_neg e] at h
      simp only [aput, if_neg e, ih h, List.cons_append]
theorem aput_keys {l : List (κ × ν)} {k : κ} {v w : ν} (h : aget l k = some w) : (aput l k v).map (·.1) = l.map (·.1) := by
  induction l with
  | nil => cases h
  | cons y l ih =>
    obtain ⟨a, u⟩ := y
    simp only [aget] at h
    by_cases e : a = k
    · simp [aput, e]
    · rw [if_neg e] at h
      simp only [aput, if_neg e, List.map_cons, ih h]
theorem aput_mem {l : List (κ × ν)} {k : κ} {v : ν} (hd : (l.map (·.1)).Nodup) {x : κ × ν} : x ∈ aput l k v ↔ x = (k, v) ∨ (x ∈ l ∧ x.1 ≠ k) := by
  induction l with
  | nil => simp [aput]
  | cons y l ih =>
    obtain ⟨a, u⟩ := y
    rw [List.map_cons, List.nodup_cons] at hd
    by_cases e : a = k
    · subst e
      rw [show aput ((a, u) :: l) a v = (a, v) :: l from by simp [aput]]
      constructor
      · intro h
        rcases List.mem_cons.1 h with h | h
        · exact .inl h
        · exact .inr ⟨List.mem_cons_of_mem _ h, fun e2 => hd.1 (List.mem_map.2 ⟨x, h, e2⟩)⟩
      · intro h
        rcases h with h | ⟨h, h2⟩
        · exact List.mem_cons.2 (.inl h)
        · rcases List.mem_cons.1 h with h | h
          · subst h; exact absurd rfl h2
          · exact List.mem_cons.2 (.inr h)
    · rw [show aput ((a, u) :: l) k v = (a, u) :: aput l k v from by simp [aput, e]]
      constructor
      · intro h
        rcases List.mem_cons.1 h with h | h
        · subst h; exact .inr ⟨List.mem_cons_self .., e⟩
        · rcases (ih hd.2).1 h with h | ⟨h, h2⟩
          · exact .inl h
          · exact .inr ⟨List.mem_cons_of_mem _ h, h2⟩
      · intro h
        rcases h with h | ⟨h, h2⟩
        · exact List.mem_cons.2 (.inr ((ih hd.2).2 (.inl h)))
        · rcases List.mem_cons.1 h with h | h
          · exact List.mem_cons.2 (.inl h)
          · exact List.mem_cons.2 (.inr ((ih hd.2).2 (.inr ⟨h, h2⟩)))
end

theorem aput_vals {l : List (ByteArray × Nat)} {k : ByteArray} {v : Nat} (hd : (l.map (·.1)).Nodup) (hv : (l.map (·.2)).Nodup) (hn : v ∉ l.map (·.2)) : ((aput l k v).map (·.2)).Nodup := by
  induction l with
  | nil => simp [aput]
  | cons y l ih =>
    obtain ⟨a, u⟩ := y
    rw [List.map_cons, List.nodup_cons] at hd hv
    rw [List.map_cons, List.mem_cons, not_or] at hn
    by_cases e : a = k
    · simp only [aput, if_pos e, List.map_cons, List.nodup_cons]
      exact ⟨hn.2, hv.2⟩
    · simp only [aput, if_neg e, List.map_cons, List.nodup_cons]
      refine ⟨fun hm => ?_, ih hd.2 hv.2 hn.2⟩
      obtain ⟨x, hx, hx2⟩ := List.mem_map.1 hm
      rcases (aput_mem hd.2).1 hx with rfl | ⟨hx, _⟩
      · exact hn.1 hx2
      · exact hv.1 (List.mem_map.2 ⟨x, hx, hx2⟩)
theorem aput_nodup {l : List (ByteArray × Nat)} {k : ByteArray} {v : Nat} (hd : (l.map (·.1)).Nodup) : ((aput l k v).map (·.1)).Nodup := by
  cases ha : aget l k with
  | none =>
    rw [aput_none ha, List.map_append, List.nodup_append]
    refine ⟨hd, by simp, fun a h1 b h2 e => ?_⟩
    obtain ⟨x, hx, rfl⟩ := List.mem_map.1 h1
    simp only [List.map_cons, List.map_nil, List.mem_singleton] at h2
    exact aget_none ha x hx (e.trans h2)
  | some w => rw [aput_keys ha]; exact hd

end Go.Proofs.YtmcmlkglkpbnpaaGreat

namespace Go.Proofs.YtmcmlkglkpbnpaaGreat
open Go.RowKit

theorem fitB_int (c : UInt8) : fitB c = (((c.toNat : Int) == 46) || ((c.toNat : Int) == 45) || ((c.toNat : Int) == 95) || ((c.toNat : Int) == 47) || ((decide ((97 : Int) ≤ c.toNat) && decide ((c.toNat : Int) ≤ 122)) || (decide ((48 : Int) ≤ c.toNat) && decide ((c.toNat : Int) ≤ 57)))) := by
  have hc : c.toNat < 256 := c.toNat_lt
  have q : ∀ n : Nat, n < 256 → (c == UInt8.ofNat n) = ((c.toNat : Int) == (n : Int)) := fun n hn => by
    rw [Bool.eq_iff_iff]; simp [← UInt8.toNat_inj]; omega
  unfold fitB
  rw [show (c == 46) = _ from q 46 (by omega), show (c == 45) = _ from q 45 (by omega), show (c == 95) = _ from q 95 (by omega), show (c == 47) = _ from q 47 (by omega)]
  have e1 : (decide (97 ≤ c)) = decide ((97 : Int) ≤ c.toNat) := by rw [Bool.eq_iff_iff]; simp [UInt8.le_iff_toNat_le]; omega
  have e2 : (decide (c ≤ 122)) = decide ((c.toNat : Int) ≤ 122) := by rw [Bool.eq_iff_iff]; simp [UInt8.le_iff_toNat_le]; omega
  have e3 : (decide (48 ≤ c)) = decide ((48 : Int) ≤ c.toNat) := by rw [Bool.eq_iff_iff]; simp [UInt8.le_iff_toNat_le]; omega
  have e4 : (decide (c ≤ 57)) = decide ((c.toNat : Int) ≤ 57) := by rw [Bool.eq_iff_iff]; simp [UInt8.le_iff_toNat_le]; omega
  rw [e1, e2, e3, e4]
  rfl

set_option maxHeartbeats 4000000 in
set_option maxRecDepth 100000 in
theorem refName_any (s : ByteArray) (w : World) : Calls Tryz.prog 84 #[.string s] w fun e w' => e = .returned (.int .i64 (nameErr s)) ∧ w = w' := by
  by_cases h0 : s.size < 1
  · have R := hide (nameErr_no (nameOk_short h0))
    go_enter Tryz.func84, Tryz.ntmps84
    go_wp2
    go_ret
    exact ⟨by rw [R.out]; rfl, rfl⟩
  by_cases h1 : 64 < s.size
  · have R := hide (nameErr_no (nameOk_long h1))
    go_enter Tryz.func84, Tryz.ntmps84
    go_wp2
    go_ret
    exact ⟨by rw [R.out]; rfl, rfl⟩
  have hok : nameOk s = s.data.toList.all fitB := by unfold nameOk; simp [show 1 ≤ s.size by omega, show s.size ≤ 64 by omega]
  have R := hide hok
  clear hok
  go_enter Tryz.func84, Tryz.ntmps84
  go_wp2
  go_loop [3] (fun i => ∃ k : Nat, k ≤ s.size ∧ i = .int .i64 k ∧ (s.data.toList.take k).all fitB = true) (fun i => s.size - (intOf i).toNat)
  case atStart => exact ⟨0, Nat.zero_le _, rfl, rfl⟩
  case round =>
    obtain ⟨k, hk, rfl, ha⟩ := hrel
    have HA := hide ha
    clear ha
    by_cases hlt : k < s.size
    · have hs : s.data.toList.take (k + 1) = s.data.toList.take k ++ [s[k]] := by
        rw [List.take_succ_eq_append_getElem (by simpa using hlt)]; rfl
      have HS := hide hs
      have HFI := hide (fitB_int s[k])
      clear hs
      obtain ⟨x, hx⟩ : ∃ x : Int, x = (s[k].toNat : Int) := ⟨_, rfl⟩
      have hx0 : 0 ≤ x := by omega
      have hx1 : x < 256 := by have := s[k].toNat_lt; omega
      have hlen : (s.size : Int) ≤ 64 := by omega
      by_cases a1 : x = 46 <;> by_cases a2 : x = 45 <;> by_cases a3 : x = 95 <;> by_cases a4 : x = 47 <;> by_cases c1 : 97 ≤ x <;> by_cases c2 : x ≤ 122 <;> by_cases c3 : 48 ≤ x <;> by_cases c4 : x ≤ 57
      all_goals first
        | (exfalso; omega)
        | (have hf : fitB s[k] = true := by
             rw [HFI.out, ← hx]
             simp [a1, a2, a3, a4, c1, c2, c3, c4]
           have HF := hide hf
           clear hf
           subst hx
           go_wp2
           go_round
           case rel => exact ⟨k + 1, by omega, by go_num, by rw [HS.out, List.all_append, HA.out]; simp [HF.out]⟩
           case measure => simp [intOf]; omega)
        | (have hf : fitB s[k] = false := by
             rw [HFI.out, ← hx]
             simp [a1, a2, a3, a4, c1, c2, c3, c4]
           have HF := hide hf
           clear hf
           subst hx
           have b1 : ((s[k].toNat : Int) != 46) = true := by simp; omega
           have b2 : ((s[k].toNat : Int) != 45) = true := by simp; omega
           have b3 : ((s[k].toNat : Int) != 95) = true := by simp; omega
           have b4 : ((s[k].toNat : Int) != 47) = true := by simp; omega
           clear a1 a2 a3 a4
           go_wp2
           go_ret
           refine ⟨?_, rfl⟩
           have : s.data.toList.all fitB = false := by
             rw [List.all_eq_false]
             exact ⟨s[k], by
               have : s[k] = s.data.toList[k]'(by simpa using hlt) := rfl
               rw [this]; exact List.getElem_mem _, by rw [HF.out]; simp⟩
           rw [nameErr_no (by rw [R.out, this])]
           rfl)
    · go_wp2
      go_ret
      refine ⟨?_, rfl⟩
      have e : s.data.toList.take k = s.data.toList := List.take_of_length_le (by simp; show s.size ≤ k; omega)
      have h := HA.out
      rw [e] at h
      rw [nameErr_ok (by rw [R.out, h])]
      rfl

end Go.Proofs.YtmcmlkglkpbnpaaGreat

namespace Go.Proofs.YtmcmlkglkpbnpaaGreat
open Go.RowKit

theorem size_dead (L : Nat → Nat) (g : Nat) (S : St) (n : Int) (w : World) (h : FsAt w L g S) (hd : S.dead = true) :
    Calls Tryz.prog 81 #[.pointer (some ⟨g, 0, none⟩), .int .i64 n] w fun e w' => e = .returned (.tuple #[.int .i64 0, .int .i64 21]) ∧ w = w' := by
  obtain ⟨mf, mn, ms, vch, lf, h⟩ := h
  have HFD := hide (h.find_dead n hd)
  clear h hd
  go_enter Tryz.func81, Tryz.ntmps81
  go_wp2_with (go_at_call 38; refine HFD.out.mono ?_; rintro e w1 ⟨rfl, rfl⟩)
  go_ret2
  exact ⟨rfl, rfl⟩
theorem size_none (L : Nat → Nat) (g : Nat) (S : St) (n : Int) (w : World) (h : FsAt w L g S) (hd : S.dead = false) (hn : S.file n = none) :
    Calls Tryz.prog 81 #[.pointer (some ⟨g, 0, none⟩), .int .i64 n] w fun e w' => e = .returned (.tuple #[.int .i64 0, .int .i64 7]) ∧ w = w' := by
  obtain ⟨mf, mn, ms, vch, lf, h⟩ := h
  have HFD := hide (h.find_none hd hn)
  clear h hd hn
  go_enter Tryz.func81, Tryz.ntmps81
  go_wp2_with (go_at_call 38; refine HFD.out.mono ?_; rintro e w1 ⟨rfl, rfl⟩)
  go_ret2
  exact ⟨rfl, rfl⟩
theorem size_some (L : Nat → Nat) (g : Nat) (S : St) (n : Int) (f : Fl) (w : World) (h : FsAt w L g S) (hd : S.dead = false) (hn : S.file n = some f) :
    Calls Tryz.prog 81 #[.pointer (some ⟨g, 0, none⟩), .int .i64 n] w fun e w' => e = .returned (.tuple #[.int .i64 (f.bytes.length : Int), .int .i64 0]) ∧ w = w' := by
  obtain ⟨mf, mn, ms, vch, lf, h⟩ := h
  obtain ⟨fb, h1, h2, h3, h4⟩ := h.find_some hd hn
  obtain ⟨fv, hfl, hof, hgo, hbb, _⟩ := h2
  obtain ⟨A, c, hvb, hlc, hcm, hrd⟩ := hbb.rd
  have q1 := hfl.c1
  rw [hvb] at q1
  have HFD := hide h4
  clear h hd hn h4 hfl hbb hvb hrd
  go_enter Tryz.func81, Tryz.ntmps81
  go_wp2_with (go_at_call 38; refine HFD.out.mono ?_; rintro e w1 ⟨rfl, rfl⟩)
  go_ret2
  exact ⟨rfl, rfl⟩
theorem setCap_bad (L : Nat → Nat) (g : Nat) (S : St) (n : Int) (w : World) (_h : FsAt w L g S) (hn : n < 0 ∨ 67108864 < n) :
    Calls Tryz.prog 13 #[.pointer (some ⟨g, 0, none⟩), .int .i64 n] w fun e w' => e = .returned (.int .i64 2) ∧ w = w' := by
  by_cases h1 : n < 0
  · clear hn
    go_enter Tryz.func13, Tryz.ntmps13
    go_wp2
    go_ret
    exact ⟨rfl, rfl⟩
  · have h2 : 67108864 < n := hn.resolve_left h1
    clear hn
    go_enter Tryz.func13, Tryz.ntmps13
    go_wp2
    go_ret
    exact ⟨rfl, rfl⟩
theorem setCap_ok (L : Nat → Nat) (g : Nat) (S : St) (n : Int) (w : World) (h : FsAt w L g S) (h1 : ¬ n < 0) (h2 : ¬ 67108864 < n) :
    Calls Tryz.prog 13 #[.pointer (some ⟨g, 0, none⟩), .int .i64 n] w fun e w' => e = .returned (.int .i64 0) ∧ FsAt w' L g { S with cap := n } ∧ L g = 1 ∧ w.grownBy w' (some g) := by
  obtain ⟨mf, mn, ms, vch, lf, h⟩ := h
  have q0 := h.blk.c0
  have f0 := h.blk.fr 0
  have H := hide h
  clear h
  go_enter Tryz.func13, Tryz.ntmps13
  go_wp2
  go_ret
  exact ⟨rfl, ⟨mf, mn, ms, vch, lf, H.out.setg 0 _ { S with cap := n } (H.out.blk.set0 n) rfl rfl rfl rfl⟩, H.out.lg, gb_set (gb_refl w (some g)) 0 _⟩
end Go.Proofs.YtmcmlkglkpbnpaaGreat
