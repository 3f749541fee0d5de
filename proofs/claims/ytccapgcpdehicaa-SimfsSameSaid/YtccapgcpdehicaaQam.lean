/-
  []byte("..") of a constant, wherever the literal's row lies: the row is marked behind its end, nothing else turns; two such rows beside a file system that a call has made.
-/
import Derived.Test.YtccapgcpdehicaaQal
import Derived.Test.YtccapgcpdehicaaQaj
import Derived.Lib.SlBytesConst

namespace Go.Proofs.Ytccapgcpdehicaa
open Go.RowKit

def Sw.Did (w : World) (g : Nat) (old fresh : List UInt8) (j : Nat) (S0 : St) (e : Ending) (w' : World) : Prop := ∃ (x : Int) (S' : St), e = .returned (.int .i64 x) ∧ Lv w g S' w' ∧ Sw.At old fresh j S' ∧ (S'.dead = false → S0.dead = false)
def Sw.Made (w : World) (g : Nat) (old fresh : List UInt8) (e : Ending) (w' : World) : Prop :=
  ∃ (b x : Int) (S' : St), e = .returned (.tuple #[.int .i64 b, .int .i64 x]) ∧ Lv w g S' w' ∧ Sw.At old fresh 1 S' ∧ (S'.dead = false → b = 2)

theorem Sw.T_dead (old fresh : List UInt8) (o a : Int) (d : Bool) (k : Nat) : (Sw.T old fresh o a d k).dead = d := by
  match k with
  | 0 | 1 | 2 | 3 | 4 | _ + 5 => rfl
theorem Sw.At.off {old fresh : List UInt8} {j : Nat} {S : St} (h : Sw.At old fresh j S) (hd : S.dead = true) (i : Nat) (hi : j ≤ i) : Sw.At old fresh i S := by
  obtain ⟨k, o, a, d, rfl, h1, h2, h3⟩ := h
  rw [Sw.T_dead] at hd
  subst hd
  exact ⟨k, o, a, true, rfl, by omega, (fun h => by cases h), h3⟩
theorem Sw.At.on {old fresh : List UInt8} {j : Nat} {S : St} (h : Sw.At old fresh j S) (hd : S.dead = false) : ∃ o a, S = Sw.T old fresh o a false j ∧ 0 ≤ o ∧ o ≤ 100 + j ∧ a ≤ 9223372036854775807 := by
  obtain ⟨k, o, a, d, rfl, h1, h2, h3⟩ := h
  rw [Sw.T_dead] at hd
  subst hd
  obtain rfl := h2 rfl
  exact ⟨o, a, rfl, h3⟩

section
variable {w wx : World} {g : Nat} {S : St} {old fresh : List UInt8}
theorem Sw.create (h : Lv w g S wx) (hS : Sw.At old fresh 0 S) (ho : old.length ≤ 20000) (hf : fresh.length ≤ 20000) :
    Calls Try.prog 11 #[.pointer (some ⟨g, 0, none⟩), .string ⟨#[105, 116, 46, 110, 101, 119]⟩] wx (Sw.Made w g old fresh) := by
  cases hd : S.dead
  · obtain ⟨o, a, rfl, h1, h2, h3⟩ := hS.on hd
    obtain ⟨a', d', e1, e2⟩ := Sw.create_is old fresh o a
    refine (h.create Sw.aside (show createErr (Sw.T old fresh o a false 0) Sw.aside = 0 from rfl) (Sw.fine ho hf o a false 0 (by omega) h3)).mono ?_
    rintro e w' ⟨rfl, hl⟩
    rw [e1] at hl
    exact ⟨2, 0, _, rfl, hl, ⟨1, _, _, _, rfl, Nat.le_refl _, fun _ => rfl, by omega, by omega, e2 h3⟩, fun _ => rfl⟩
  · have he : createErr S Sw.aside ≠ 0 := by unfold createErr; rw [hd, if_pos rfl]; decide
    have hn : S.names.length ≤ 1000000 := by
      obtain ⟨k, o, a, d, rfl, hk, _⟩ := hS
      obtain rfl : k = 0 := by omega
      simp [Sw.T]
    obtain ⟨L, h1, h2, h3⟩ := h
    refine (create_bad L g S Sw.aside wx h1 he hn).mono ?_
    rintro e w' ⟨rfl, hg⟩
    exact ⟨0, _, S, rfl, Lv.keep ⟨L, h1, h2, h3⟩ hg, hS.off hd 1 (by omega), fun h => by rw [hd] at h; cases h⟩
theorem Sw.append (h : Lv w g S wx) (hS : Sw.At old fresh 1 S) (ho : old.length ≤ 20000) (hf : fresh.length ≤ 20000) (b : Int) (hb : S.dead = false → b = 2) (A : Option Addr) (m c : Nat) (hr : Rd wx wx.heap.size A (u8s fresh)) (hm : m = fresh.length) :
    Calls Try.prog 12 #[.pointer (some ⟨g, 0, none⟩), .int .i64 b, .slice A m c] wx (Sw.Did w g old fresh 2 S) := by
  cases hd : S.dead
  · obtain rfl := hb hd
    obtain ⟨o, a, rfl, h1, h2, h3⟩ := hS.on hd
    obtain ⟨a', d', e1, e2⟩ := Sw.append_is old fresh o a
    refine (h.append (Sw.fine ho hf o a false 1 (by omega) h3) (n := 2) (f := ⟨false, [], [], []⟩) ⟨rfl, rfl⟩ fresh A m c hr hm (by omega) (.inr (by simp [Sw.T]; omega))).mono ?_
    rintro e w' ⟨rfl, hl⟩
    have hl' : Lv w g ((Sw.T old fresh o a false 1).wrote 2 ⟨false, [], [], []⟩ ⟨false, 0, fresh⟩) w' := hl
    rw [e1] at hl'
    exact ⟨0, _, rfl, hl', ⟨2, _, _, _, rfl, Nat.le_refl _, fun _ => rfl, by omega, by omega, e2 h3⟩, fun _ => hd⟩
  · refine (h.append_dead hd b A m c).mono ?_
    rintro e w' ⟨rfl, hl⟩
    exact ⟨_, S, rfl, hl, hS.off hd 2 (by omega), id⟩
theorem Sw.sync (h : Lv w g S wx) (hS : Sw.At old fresh 2 S) (ho : old.length ≤ 20000) (hf : fresh.length ≤ 20000) (b : Int) (hb : S.dead = false → b = 2) :
    Calls Try.prog 13 #[.pointer (some ⟨g, 0, none⟩), .int .i64 b] wx (Sw.Did w g old fresh 3 S) := by
  cases hd : S.dead
  · obtain rfl := hb hd
    obtain ⟨o, a, rfl, h1, h2, h3⟩ := hS.on hd
    obtain ⟨a', d', e1, e2⟩ := Sw.sync_is old fresh o a
    refine (h.sync (Sw.fine ho hf o a false 2 (by omega) h3) (n := 2) (f := ⟨false, fresh, [], [⟨false, 0, fresh⟩]⟩) ⟨rfl, rfl⟩).mono ?_
    rintro e w' ⟨rfl, hl⟩
    rw [e1] at hl
    exact ⟨0, _, rfl, hl, ⟨3, _, _, _, rfl, Nat.le_refl _, fun _ => rfl, by omega, by omega, e2 h3⟩, fun _ => hd⟩
  · obtain ⟨L, h1, h2, h3⟩ := h
    refine (sync_bad L g S b 21 wx h1 (.inl ⟨hd, rfl⟩)).mono ?_
    rintro e w' ⟨rfl, rfl⟩
    exact ⟨_, S, rfl, ⟨L, h1, h2, h3⟩, hS.off hd 3 (by omega), id⟩
theorem Sw.rename (h : Lv w g S wx) (hS : Sw.At old fresh 3 S) (ho : old.length ≤ 20000) (hf : fresh.length ≤ 20000) :
    Calls Try.prog 43 #[.pointer (some ⟨g, 0, none⟩), .string ⟨#[105, 116, 46, 110, 101, 119]⟩, .string ⟨#[105, 116]⟩] wx (Sw.Did w g old fresh 4 S) := by
  obtain ⟨L, h1', h2', h3'⟩ := h
  cases hd : S.dead
  · obtain ⟨o, a, rfl, h1, h2, h3⟩ := hS.on hd
    obtain ⟨a', d', e1, e2⟩ := Sw.rename_is old fresh o a
    have hfo : followL (Sw.T old fresh o a false 3).names ⟨Sw.aside, Sw.it, 0⟩ = ([(Sw.it, 2)], 1) := Sw.follow_is
    have hc := Lv.post h2' h3' (rename_ok L g _ Sw.aside Sw.it wx h1' (show askErr (Sw.T old fresh o a false 3) [Sw.aside, Sw.it] Sw.aside = 0 from rfl) (Sw.fine ho hf o a false 3 (by omega) h3) (fun _ => ⟨⟨false, old, old, []⟩, by rw [hfo]; rfl⟩))
    refine hc.mono ?_
    rintro e w' ⟨rfl, hl⟩
    rw [e1] at hl
    exact ⟨0, _, rfl, hl, ⟨4, _, _, _, rfl, Nat.le_refl _, fun _ => rfl, by omega, by omega, e2 h3⟩, fun _ => hd⟩
  · have he : askErr S [Sw.aside, Sw.it] Sw.aside ≠ 0 := by unfold askErr; rw [hd, if_pos rfl]; decide
    refine (rename_bad L g S Sw.aside Sw.it wx h1' he).mono ?_
    rintro e w' ⟨rfl, hg⟩
    exact ⟨_, S, rfl, Lv.keep ⟨L, h1', h2', h3'⟩ hg, hS.off hd 4 (by omega), id⟩
theorem Sw.syncdir (h : Lv w g S wx) (hS : Sw.At old fresh 4 S) (ho : old.length ≤ 20000) (hf : fresh.length ≤ 20000) :
    Calls Try.prog 14 #[.pointer (some ⟨g, 0, none⟩)] wx (Sw.Did w g old fresh 5 S) := by
  cases hd : S.dead
  · obtain ⟨o, a, rfl, h1, h2, h3⟩ := hS.on hd
    obtain ⟨a', d', e1, e2⟩ := Sw.settle_is old fresh o a
    refine (h.syncdir (Sw.fine ho hf o a false 4 (by omega) h3) rfl (fun x hx => ?_)).mono ?_
    · have hx' : x ∈ ([(Sw.it, 2)] : List (ByteArray × Nat)) := hx
      rw [List.mem_singleton] at hx'
      subst hx'
      rfl
    rintro e w' ⟨rfl, hl⟩
    rw [e1] at hl
    exact ⟨0, _, rfl, hl, ⟨5, _, _, _, rfl, Nat.le_refl _, fun _ => rfl, by omega, by omega, e2 h3⟩, fun _ => hd⟩
  · obtain ⟨L, h1, h2, h3⟩ := h
    refine (syncdir_dead L g S wx h1 hd).mono ?_
    rintro e w' ⟨rfl, rfl⟩
    exact ⟨_, S, rfl, ⟨L, h1, h2, h3⟩, hS.off hd 5 (by omega), id⟩
end

/-! ## the crash -/
theorem tearF_none {f : Fl} (h : f.waits = []) (n b : Int) : tearF f n b = f.safe := by
  unfold tearF
  rw [h]
  simp
theorem tearF_one {f : Fl} {p : List UInt8} (hs : f.safe = []) (h : f.waits = [⟨false, 0, p⟩]) (n b : Int) : (tearF f n b).length ≤ p.length := by
  have hk := tearK_le f n
  unfold tearF
  generalize tearK f n = k at hk
  rw [h, hs]
  rw [h] at hk
  match k, hk with
  | 0, _ => simp [doW]; omega
  | 1, _ => simp [doW]
def Sw.Small (f : Fl) : Prop := f.Good ∧ ∀ n b, (tearF f n b).length ≤ 20000
theorem Sw.small_none {f : Fl} (h : f.waits = []) (hs : f.safe.length ≤ 20000) : Sw.Small f :=
  ⟨⟨by rw [h]; decide, by omega, fun k hk => by rw [h] at hk; cases hk⟩, fun n b => by rw [tearF_none h]; exact hs⟩
theorem Sw.small {old fresh : List UInt8} (ho : old.length ≤ 20000) (hf : fresh.length ≤ 20000) (o a : Int) (d : Bool) (k : Nat) : ∀ n f, (Sw.T old fresh o a d k).files n = some f → Sw.Small f := by
  have h2 : Sw.Small ⟨false, fresh, [], [⟨false, 0, fresh⟩]⟩ := ⟨⟨by simp, by simp, fun k hk => by
    obtain rfl : k = 0 := by simp at hk; omega
    simp; omega⟩, fun n b => Nat.le_trans (tearF_one rfl rfl n b) hf⟩
  intro n f h
  match k with
  | 0 => rcases Sw.F_some h with h | h <;> cases h; exact Sw.small_none rfl ho
  | 1 => rcases Sw.F_some h with h | h <;> cases h; exact Sw.small_none rfl ho; exact Sw.small_none rfl (by simp)
  | 2 => rcases Sw.F_some h with h | h <;> cases h; exact Sw.small_none rfl ho; exact h2
  | 3 => rcases Sw.F_some h with h | h <;> cases h; exact Sw.small_none rfl ho; exact Sw.small_none rfl hf
  | 4 => rcases Sw.F_some h with h | h <;> cases h; exact Sw.small_none rfl ho; exact Sw.small_none rfl hf
  | _ + 5 => rcases Sw.F_some h with h | h <;> cases h; exact Sw.small_none rfl hf

/-- Where "it" leads to behind a crash. -/
def Sw.Leads (old fresh : List UInt8) (fin : Prop) (S : St) (l : List (ByteArray × Nat)) : Prop :=
  l.length ≤ 100000 ∧ (∀ x ∈ l, (S.files (x.2 : Int)).isSome ∧ (x.2 = 1 ∨ x.2 = 2)) ∧ ∃ n f, (Sw.it, n) ∈ l ∧ aget l Sw.it = some n ∧ S.files (n : Int) = some f ∧ f.waits = [] ∧ (f.safe = old ∨ f.safe = fresh) ∧ (fin → f.safe = fresh)
theorem Sw.lead1 {old fresh : List UInt8} {fin : Prop} {S : St} {x2 : Option Fl} {gn : Bool} (hS : S.files = Sw.F (some ⟨gn, old, old, []⟩) x2) (hfin : ¬ fin) : Sw.Leads old fresh fin S [(Sw.it, 1)] := by
  refine ⟨by decide, fun x hx => ?_, 1, ⟨gn, old, old, []⟩, by simp, by decide, by rw [hS]; rfl, rfl, .inl rfl, fun h => absurd h hfin⟩
  rw [List.mem_singleton] at hx
  subst hx
  exact ⟨by rw [hS]; rfl, .inl rfl⟩
theorem Sw.lead12 {old fresh : List UInt8} {fin : Prop} {S : St} {f2 : Fl} {gn : Bool} (hS : S.files = Sw.F (some ⟨gn, old, old, []⟩) (some f2)) (hfin : ¬ fin) : Sw.Leads old fresh fin S [(Sw.it, 1), (Sw.aside, 2)] := by
  refine ⟨by decide, fun x hx => ?_, 1, ⟨gn, old, old, []⟩, by simp, by decide, by rw [hS]; rfl, rfl, .inl rfl, fun h => absurd h hfin⟩
  simp only [List.mem_cons, List.not_mem_nil, or_false] at hx
  rcases hx with rfl | rfl
  · exact ⟨by rw [hS]; rfl, .inl rfl⟩
  · exact ⟨by rw [hS]; rfl, .inr rfl⟩
theorem Sw.lead2 {old fresh : List UInt8} {fin : Prop} {S : St} {x1 : Option Fl} {gn : Bool} (hS : S.files = Sw.F x1 (some ⟨gn, fresh, fresh, []⟩)) : Sw.Leads old fresh fin S [(Sw.it, 2)] := by
  refine ⟨by decide, fun x hx => ?_, 2, ⟨gn, fresh, fresh, []⟩, by simp, by decide, by rw [hS]; rfl, rfl, .inr rfl, fun _ => rfl⟩
  rw [List.mem_singleton] at hx
  subst hx
  exact ⟨by rw [hS]; rfl, .inr rfl⟩
theorem Sw.leads {old fresh : List UInt8} (o a : Int) (d : Bool) (k : Nat) (dir : Int) : Sw.Leads old fresh (5 ≤ k) (Sw.T old fresh o a d k) (followed (Sw.T old fresh o a d k).safe ((Sw.T old fresh o a d k).changes.take (crashK (Sw.T old fresh o a d k) dir))) := by
  have hk := crashK_le (Sw.T old fresh o a d k) dir
  generalize crashK (Sw.T old fresh o a d k) dir = j at hk
  have c0 : ∀ ch : List Ch, followed [(Sw.it, 1)] (ch.take 0) = [(Sw.it, 1)] := fun ch => by rw [List.take_zero]; rfl
  have c1 : followed [(Sw.it, 1)] ([⟨⟨#[]⟩, Sw.aside, 2⟩] : List Ch) = [(Sw.it, 1), (Sw.aside, 2)] := by decide
  have c2 : followed [(Sw.it, 1)] ([⟨⟨#[]⟩, Sw.aside, 2⟩, ⟨Sw.aside, Sw.it, 0⟩] : List Ch) = [(Sw.it, 2)] := by decide
  match k with
  | 0 =>
    obtain rfl : j = 0 := by simpa [Sw.T] using hk
    show Sw.Leads _ _ _ _ (followed [(Sw.it, 1)] (List.take 0 _))
    rw [c0]
    exact Sw.lead1 rfl (by decide)
  | 1 =>
    match j, hk with
    | 0, _ => show Sw.Leads _ _ _ _ (followed [(Sw.it, 1)] (List.take 0 _)); rw [c0]; exact Sw.lead1 rfl (by decide)
    | 1, _ => rw [show followed (Sw.T old fresh o a d 1).safe ((Sw.T old fresh o a d 1).changes.take 1) = _ from c1]; exact Sw.lead12 rfl (by decide)
  | 2 =>
    match j, hk with
    | 0, _ => show Sw.Leads _ _ _ _ (followed [(Sw.it, 1)] (List.take 0 _)); rw [c0]; exact Sw.lead1 rfl (by decide)
    | 1, _ => rw [show followed (Sw.T old fresh o a d 2).safe ((Sw.T old fresh o a d 2).changes.take 1) = _ from c1]; exact Sw.lead12 rfl (by decide)
  | 3 =>
    match j, hk with
    | 0, _ => show Sw.Leads _ _ _ _ (followed [(Sw.it, 1)] (List.take 0 _)); rw [c0]; exact Sw.lead1 rfl (by decide)
    | 1, _ => rw [show followed (Sw.T old fresh o a d 3).safe ((Sw.T old fresh o a d 3).changes.take 1) = _ from c1]; exact Sw.lead12 rfl (by decide)
  | 4 =>
    match j, hk with
    | 0, _ => show Sw.Leads _ _ _ _ (followed [(Sw.it, 1)] (List.take 0 _)); rw [c0]; exact Sw.lead1 rfl (by decide)
    | 1, _ => rw [show followed (Sw.T old fresh o a d 4).safe ((Sw.T old fresh o a d 4).changes.take 1) = _ from c1]; exact Sw.lead12 rfl (by decide)
    | 2, _ => rw [show followed (Sw.T old fresh o a d 4).safe ((Sw.T old fresh o a d 4).changes.take 2) = _ from c2]; exact Sw.lead2 rfl
  | k + 5 =>
    obtain rfl : j = 0 := by simpa [Sw.T] using hk
    exact Sw.lead2 rfl

theorem sumB_le (B : Nat) : ∀ l : List Nat, (∀ x ∈ l, x ≤ B) → l.sum ≤ l.length * B
  | [], _ => by simp
  | x :: l, h => by
    have h1 := h x (by simp)
    have h2 := sumB_le B l fun y hy => h y (by simp [hy])
    have h3 : (l.length + 1) * B = l.length * B + B := Nat.succ_mul _ _
    simp only [List.sum_cons, List.length_cons]
    omega

def Sw.Post (old fresh : List UInt8) (dead : Bool) (S' : St) : Prop := S'.dead = false ∧ Fine S' ∧ ∃ (n : Nat) (f : Fl), aget S'.names Sw.it = some n ∧ S'.file (n : Int) = some f ∧ (f.bytes = old ∨ f.bytes = fresh) ∧ (dead = false → f.bytes = fresh) ∧ f.bytes.length ≤ 20000
theorem Sw.post {old fresh : List UInt8} (ho : old.length ≤ 20000) (hf : fresh.length ≤ 20000) (o a : Int) (d : Bool) (k : Nat) (dir : Int) (m : List (Int × Tn)) (ks : List Int) (hd : d = false → 5 ≤ k) (h0 : 0 ≤ o ∧ o ≤ 200)
    (hks : ks.Nodup) (hk : ∀ n, n ∈ ks ↔ ∃ x ∈ followed (Sw.T old fresh o a d k).safe ((Sw.T old fresh o a d k).changes.take (crashK (Sw.T old fresh o a d k) dir)), (x.2 : Int) = n) :
    Sw.Post old fresh d { ((Sw.T old fresh o a d k).fallen dir).torn m ks with dead := false, armed := 0 } := by
  obtain ⟨_, q1, n, f, q2, q3, q4, q5, q6, q7⟩ := Sw.leads (old := old) (fresh := fresh) o a d k dir
  have hsm := Sw.small ho hf o a d k
  have hT : (Sw.T old fresh o a d k).ops = o ∧ (0 ≤ (Sw.T old fresh o a d k).last ∧ (Sw.T old fresh o a d k).last ≤ 2) := by
    match k with
    | 0 | 1 | 2 | 3 | 4 | _ + 5 => exact ⟨rfl, by simp [Sw.T], by simp [Sw.T]⟩
  generalize Sw.T old fresh o a d k = S at *
  generalize hl : followed S.safe (S.changes.take (crashK S dir)) = l at *
  have hfa : ∀ n, (S.fallen dir).files n = if ∃ x ∈ l, (x.2 : Int) = n then S.files n else none := fun n => by
    show (if ∃ x ∈ followed S.safe (S.changes.take (crashK S dir)), (x.2 : Int) = n then S.files n else none) = _
    rw [hl]
  have hto : ∀ n f, ((S.fallen dir).torn m ks).files n = some f → ∃ f0, S.files n = some f0 ∧ f = tornFl m n f0 := fun n f h => by
    have h' : (if n ∈ ks then ((S.fallen dir).files n).map (tornFl m n) else (S.fallen dir).files n) = some f := h
    rw [hfa] at h'
    by_cases hx : ∃ x ∈ l, (x.2 : Int) = n
    · rw [if_pos hx, if_pos ((hk n).2 hx)] at h'
      cases hs : S.files n with
      | none => rw [hs] at h'; cases h'
      | some f0 => rw [hs] at h'; exact ⟨f0, rfl, by injection h' with h'; exact h'.symm⟩
    · rw [if_neg hx] at h'
      split at h' <;> cases h'
  have hmem : ∃ x ∈ l, (x.2 : Int) = (n : Int) := ⟨_, q2, rfl⟩
  have hfn : ((S.fallen dir).torn m ks).files (n : Int) = some (tornFl m n f) := by
    show (if (n : Int) ∈ ks then ((S.fallen dir).files n).map (tornFl m n) else (S.fallen dir).files n) = _
    rw [hfa, if_pos hmem, if_pos ((hk n).2 hmem), q4]
    rfl
  have hsz : ∀ n f0, S.files n = some f0 → (tornFl m n f0).bytes.length ≤ 20000 ∧ (tornFl m n f0).safe.length ≤ 20000 := fun n f0 h => ⟨(hsm n f0 h).2 _ _, (hsm n f0 h).2 _ _⟩
  have hb : (tornFl m n f).bytes = f.safe := tearF_none q5 _ _
  have hk2 : ks.length ≤ 2 := by
    have hv : ∀ x ∈ ks, x = 1 ∨ x = 2 := fun x hx => by
      obtain ⟨y, hy1, hy2⟩ := (hk x).1 hx
      have := (q1 y hy1).2
      omega
    match ks, hks, hv with
    | [], _, _ | [_], _, _ | [_, _], _, _ => simp
    | x :: y :: z :: t, hn, hv =>
      have h1 := hv x (by simp)
      have h2 := hv y (by simp)
      have h3 := hv z (by simp)
      simp only [List.nodup_cons, List.mem_cons, not_or] at hn
      omega
  have hu : ((ks.map fun n => ((((S.fallen dir).files n).map (tornFl m n)).map fun f => f.bytes.length).getD 0).sum : Nat) ≤ 40000 := by
    have h1 := sumB_le 20000 (ks.map fun n => ((((S.fallen dir).files n).map (tornFl m n)).map fun f => f.bytes.length).getD 0) (fun x hx => by
      obtain ⟨i, hi, rfl⟩ := List.mem_map.1 hx
      rw [hfa, if_pos ((hk i).1 hi)]
      cases hs : S.files i with
      | none => simp
      | some f0 => exact (hsz i f0 hs).1)
    rw [List.length_map] at h1
    omega
  refine ⟨rfl, ⟨⟨by show (0 : Int) ≤ ((ks.map _).sum : Nat); omega, by show (((ks.map _).sum : Nat) : Int) ≤ _; omega⟩, by show 0 ≤ S.ops ∧ S.ops ≤ _; omega, by show (0 : Int) ≤ 9223372036854775807; decide, by show 0 ≤ S.last ∧ S.last ≤ _; omega, by show ([] : List Ch).length ≤ _; decide, fun n' f' h' => ?_⟩, n, tornFl m n f, ?_, ?_, ?_, fun hd' => ?_, ?_⟩
  · obtain ⟨f0, h1, rfl⟩ := hto n' f' h'
    have := hsz n' f0 h1
    exact ⟨by omega, by omega, by show ([] : List Wr).length ≤ _; decide⟩
  · show aget (followed S.safe (S.changes.take (crashK S dir))) Sw.it = some n
    rw [hl]
    exact q3
  · show (match ((S.fallen dir).torn m ks).files (n : Int) with | some f => if f.gone then none else some f | none => none) = _
    rw [hfn]
    rfl
  · rw [hb]
    exact q6
  · rw [hb]
    exact q7 (hd hd')
  · exact (hsz _ f q4).1

theorem Sw.crash {w wx : World} {g : Nat} {S : St} {old fresh : List UInt8} (h : Lv w g S wx) (hS : Sw.At old fresh 5 S) (ho : old.length ≤ 20000) (hf : fresh.length ≤ 20000) (dir : Int) (A : Option Addr) (n c : Nat) (tl : List Tn) {wy : World} (hy : wx.grownBy wy none)
    (hr : Rd wy wy.heap.size A (tcells tl)) (hA : ∀ a, A = some a → a.block < w.heap.size ∨ wx.heap.size ≤ a.block) (hn : n = tl.length) (htl : tl.length ≤ c ∧ c ≤ maxLen) :
    Calls Try.prog 16 #[.pointer (some ⟨g, 0, none⟩), .agg #[.int .i64 dir, .slice A n c]] wy fun e w' => e = .returned (.tuple #[]) ∧ ∃ S', Lv w g S' w' ∧ Sw.Post old fresh S.dead S' := by
  subst hn
  obtain ⟨k, o, a, d, rfl, hk, hd, h1, h2, h3⟩ := hS
  obtain ⟨q0, q1, _⟩ := Sw.leads (old := old) (fresh := fresh) o a d k dir
  refine (h.crash (Sw.fine ho hf o a d k (by omega) h3) dir A c tl hy hr hA htl (fun x hx => (q1 x hx).1) q0 (fun n f hn => (Sw.small ho hf o a d k n f hn).1)).mono ?_
  rintro e w' ⟨rfl, ks, k1, k2, hl⟩
  refine ⟨rfl, _, hl, ?_⟩
  rw [Sw.T_dead]
  exact Sw.post ho hf o a d k dir _ ks (fun h => by rw [hd h]; omega) (by omega) k1 k2

end Go.Proofs.Ytccapgcpdehicaa

namespace Go.Proofs.Ytccapgcpdehicaa
open Go.RowKit

theorem freeze_at (w : World) (b n : Nat) (C : Array Value) (e : TypeId) (hb : w.heap[b]? = some (.cells C e (0, 0))) (hn : n = C.size) :
    (w.freeze ⟨b, n, none⟩ 1).heap[b]? = some (.cells C e (n, n + 1)) ∧ w.grownBy (w.freeze ⟨b, n, none⟩ 1) (some b) ∧ (w.freeze ⟨b, n, none⟩ 1).heap.size = w.heap.size := by
  subst hn
  unfold World.freeze
  rw [if_neg (by decide)]
  refine ⟨?_, ⟨rfl, rfl, rfl, by simp, fun i hi hne => ?_⟩, by simp⟩
  · show (w.heap.modify b _)[b]? = _
    rw [Array.getElem?_modify, if_pos rfl, hb]
    rfl
  · have hib : ¬ b = i := fun e => hne (by rw [e])
    simp [Array.getElem?_modify, hib]

theorem conv_run {P : Program} (w : World) (t e : TypeId) (b : Nat) (C : Array Value) (n c : Nat) (ht : P.underlying t = some (.slice e)) (he : P.underlying e = some (.int .u8)) (hb : w.heap[b]? = some (.cells C e (0, 0))) (hn : n = C.size) :
    (convert t t (.slice (some ⟨b, 0, none⟩) n c)).run P w = .ok (.slice (some ⟨b, 0, none⟩) n c) (w.freeze ⟨b, n, none⟩ 1) := by
  subst hn
  have hsh : w.shape? b = some (e, C.size) := by
    unfold World.shape?
    rw [hb]
  simp [convert, run_underlying ht, run_underlying he, markStringish, hsh]

def Lr.C1 : Array Value := #[.int .u8 100, .int .u8 101]
def Lr.C2 : Array Value := #[.int .u8 102]
/-- A row that was made beside a file system: its block, and whether it has been marked. -/
def rowAt (L : Nat → Nat) (w wx : World) (C : Array Value) (o : Option (Nat × Bool)) : Prop :=
  ∀ x, o = some x → w.heap.size ≤ x.1 ∧ L x.1 = 0 ∧ wx.heap[x.1]? = some (.cells C 5 (if x.2 then (C.size, C.size + 1) else (0, 0)))
def Lr (w : World) (g : Nat) (S : St) (o1 o2 : Option (Nat × Bool)) (wx : World) : Prop :=
  ∃ L, FsAt wx L g S ∧ w.grownBy wx none ∧ (∀ i, i < w.heap.size → L i = 0) ∧ rowAt L w wx Lr.C1 o1 ∧ rowAt L w wx Lr.C2 o2

theorem rowAt.none {L : Nat → Nat} {w wx : World} {C : Array Value} : rowAt L w wx C none := fun _ h => by cases h
theorem rowAt.keep {L : Nat → Nat} {w wx wy : World} {C : Array Value} {o : Option (Nat × Bool)} (h : rowAt L w wx C o) (hk : ∀ x, o = some x → wy.heap[x.1]? = wx.heap[x.1]?) : rowAt L w wy C o := fun x hx => by
  obtain ⟨h1, h2, h3⟩ := h x hx
  exact ⟨h1, h2, (hk x hx).trans h3⟩
theorem rowAt.lt {L : Nat → Nat} {w wx : World} {C : Array Value} {o : Option (Nat × Bool)} (h : rowAt L w wx C o) (x : Nat × Bool) (hx : o = some x) : x.1 < wx.heap.size := blk_lt (h x hx).2.2

variable {w wx : World} {g : Nat} {S : St} {o1 o2 : Option (Nat × Bool)}
theorem Lr.start (h : Lv w g S wx) : Lr w g S none none wx := by
  obtain ⟨L, h1, h2, h3⟩ := h
  exact ⟨L, h1, h2, h3, rowAt.none, rowAt.none⟩
theorem Lr.live (h : Lr w g S o1 o2 wx) : Lv w g S wx := by
  obtain ⟨L, h1, h2, h3, _⟩ := h
  exact ⟨L, h1, h2, h3⟩
theorem Lr.keep {wy : World} (h : Lr w g S o1 o2 wx) (hg : wx.grownBy wy none) : Lr w g S o1 o2 wy := by
  obtain ⟨L, h1, h2, h3, h4, h5⟩ := h
  exact ⟨L, h1.keep (Turned.of_gb (M := fun _ => False) hg (by simp)) (fun _ _ h => h), gb_trans h2 hg (.inl rfl), h3, h4.keep fun x hx => hg.block _ (h4.lt x hx) (by simp), h5.keep fun x hx => hg.block _ (h5.lt x hx) (by simp)⟩
theorem Lr.drewN (h : Lr w g S o1 o2 wx) (n : Nat) : Lr w g S o1 o2 (wx.drewN n) := h.keep (gb_drewN (gb_refl wx none) n)
theorem Lr.drew (h : Lr w g S o1 o2 wx) : Lr w g S o1 o2 wx.drew := h.drewN 1
theorem Lr.alloc (h : Lr w g S o1 o2 wx) (o : Obj) : Lr w g S o1 o2 (wx.alloc o) := h.keep (gb_alloc (gb_refl wx none) o)
theorem lab_new {L : Nat → Nat} {g : Nat} {S : St} {wx : World} (h : FsAt wx L g S) : L wx.heap.size = 0 := by
  obtain ⟨_, _, _, _, _, h⟩ := h
  exact Classical.byContradiction fun hc => by have := h.lt _ hc; omega
theorem Lr.alloc1 (h : Lr w g S none o2 wx) {b : Nat} (hb : wx.heap.size = b) : Lr w g S (some (b, false)) o2 (wx.alloc (.cells #[.int .u8 100, .int .u8 101] 5 (0, 0))) := by
  subst hb
  obtain ⟨L, h1, h2, h3, _, h5⟩ := h.alloc (.cells #[.int .u8 100, .int .u8 101] 5 (0, 0))
  obtain ⟨L', h1', h2', h3', _, h5'⟩ := h
  have hl := lab_new h1'
  have hg := gb_alloc (gb_refl wx none) (.cells #[.int .u8 100, .int .u8 101] 5 (0, 0))
  exact ⟨L', h1'.keep (Turned.of_gb (M := fun _ => False) hg (by simp)) (fun _ _ h => h), h2, h3', fun x hx => by injection hx with hx; subst hx; exact ⟨h2'.size, hl, heap_alloc_new wx _⟩, h5'.keep fun x hx => hg.block _ (h5'.lt x hx) (by simp)⟩
theorem Lr.alloc2 (h : Lr w g S o1 none wx) {b : Nat} (hb : wx.heap.size = b) : Lr w g S o1 (some (b, false)) (wx.alloc (.cells #[.int .u8 102] 5 (0, 0))) := by
  subst hb
  obtain ⟨L', h1', h2', h3', h5', _⟩ := h
  have hl := lab_new h1'
  have hg := gb_alloc (gb_refl wx none) (.cells #[.int .u8 102] 5 (0, 0))
  exact ⟨L', h1'.keep (Turned.of_gb (M := fun _ => False) hg (by simp)) (fun _ _ h => h), gb_trans h2' hg (.inl rfl), h3', h5'.keep fun x hx => hg.block _ (h5'.lt x hx) (by simp), fun x hx => by injection hx with hx; subst hx; exact ⟨h2'.size, hl, heap_alloc_new wx _⟩⟩
theorem Lr.row1 {b : Nat} (h : Lr w g S (some (b, false)) o2 wx) : wx.heap[b]? = some (.cells #[.int .u8 100, .int .u8 101] 5 (0, 0)) := by
  obtain ⟨L, _, _, _, h4, _⟩ := h
  exact (h4 _ rfl).2.2
theorem Lr.row2 {b : Nat} (h : Lr w g S o1 (some (b, false)) wx) : wx.heap[b]? = some (.cells #[.int .u8 102] 5 (0, 0)) := by
  obtain ⟨L, _, _, _, _, h4⟩ := h
  exact (h4 _ rfl).2.2
theorem row_apart {L : Nat → Nat} {x y : Nat × Bool} (h : rowAt L w wx Lr.C1 (some x)) (k : rowAt L w wx Lr.C2 (some y)) : x.1 ≠ y.1 := fun e => by
  have h1 := (h x rfl).2.2
  have h2 := (k y rfl).2.2
  rw [e, h2] at h1
  injection h1 with h1
  injection h1 with h1
  exact absurd (congrArg Array.size h1) (by decide)
theorem Lr.conv1 {b : Nat} (h : Lr w g S (some (b, false)) o2 wx) : Lr w g S (some (b, true)) o2 (wx.freeze ⟨b, 2, none⟩ 1) := by
  obtain ⟨L, h1, h2, h3, h4, h5⟩ := h
  obtain ⟨k1, k2, k3⟩ := h4 _ rfl
  obtain ⟨q1, q2, q3⟩ := freeze_at wx b 2 Lr.C1 5 k3 rfl
  refine ⟨L, h1.keep (Turned.of_gb (M := fun i => i = b) q2 (fun i e => by injection e with e; exact e.symm)) (fun i hi e => hi (e ▸ k2)), gb_trans h2 q2 (.inr (.inr ⟨_, rfl, k1⟩)), h3, fun x hx => by injection hx with hx; subst hx; exact ⟨k1, k2, q1⟩, ?_⟩
  cases o2 with
  | none => exact rowAt.none
  | some y => exact h5.keep fun x hx => by injection hx with hx; subst hx; exact q2.block _ (h5.lt _ rfl) (fun e => by injection e with e; exact row_apart h4 h5 e.symm)
theorem Lr.conv2 {b : Nat} (h : Lr w g S o1 (some (b, false)) wx) : Lr w g S o1 (some (b, true)) (wx.freeze ⟨b, 1, none⟩ 1) := by
  obtain ⟨L, h1, h2, h3, h5, h4⟩ := h
  obtain ⟨k1, k2, k3⟩ := h4 _ rfl
  obtain ⟨q1, q2, q3⟩ := freeze_at wx b 1 Lr.C2 5 k3 rfl
  refine ⟨L, h1.keep (Turned.of_gb (M := fun i => i = b) q2 (fun i e => by injection e with e; exact e.symm)) (fun i hi e => hi (e ▸ k2)), gb_trans h2 q2 (.inr (.inr ⟨_, rfl, k1⟩)), h3, ?_, fun x hx => by injection hx with hx; subst hx; exact ⟨k1, k2, q1⟩⟩
  cases o1 with
  | none => exact rowAt.none
  | some y => exact h5.keep fun x hx => by injection hx with hx; subst hx; exact q2.block _ (h5.lt _ rfl) (fun e => by injection e with e; exact row_apart h5 h4 e)
theorem rowAt.moved {L L' : Nat → Nat} {wy : World} {C : Array Value} {o : Option (Nat × Bool)} (h : rowAt L w wx C o) (hm : Moved L wx L' wy) : rowAt L' w wy C o := fun x hx => by
  obtain ⟨h1, h2, h3⟩ := h x hx
  exact ⟨h1, (hm.same _ (blk_lt h3)).trans h2, (hm.turned.block _ (blk_lt h3) (by rw [h2]; omega)).trans h3⟩
theorem Lr.post {S' : St} {L : Nat → Nat} {f : FuncId} {args : Array Value} {v : Value} (hg : w.grownBy wx none) (h0 : ∀ i, i < w.heap.size → L i = 0) (h1 : rowAt L w wx Lr.C1 o1) (h2 : rowAt L w wx Lr.C2 o2) (h : Calls Try.prog f args wx (FsPost L g S' v wx)) :
    Calls Try.prog f args wx fun e w' => e = .returned v ∧ Lr w g S' o1 o2 w' :=
  h.mono fun e w' ⟨he, L', k1, k2⟩ => by
    obtain ⟨L2, a1, a2, a3⟩ := Lv.moved hg h0 k1 k2
    have hs := hg.size
    refine ⟨he, L', k1, a2, fun i hi => (k2.same i (by omega)).trans (h0 i hi), h1.moved k2, h2.moved k2⟩
theorem Rd.row (wx : World) (b : Nat) (C : Array Value) (t : TypeId) (fr : Nat × Nat) (xs : List Value) (h : xs = C.toList) (hb : wx.heap[b]? = some (.cells C t fr)) : Rd wx wx.heap.size (some ⟨b, 0, none⟩) xs := fun _ =>
  ⟨_, rfl, blk_lt hb, fun j u hu => by
    subst h
    have e : (⟨b, 0, none⟩ : Addr).add j = ⟨b, j, none⟩ := by unfold Addr.add; split <;> simp_all
    rw [e, cell_of_row _ b j C t fr hb]
    simpa using hu⟩
theorem Lr.call1 {b c : Nat} {m : Bool} (h : Lr w g S (some (b, m)) o2 wx) (hF : Fine S) {f : Fl} (hn : S.file 1 = some f ∧ S.dead = false) (hfit : S.used + 2 ≤ S.cap) :
    Calls Try.prog 12 #[.pointer (some ⟨g, 0, none⟩), .int .i64 1, .slice (some ⟨b, 0, none⟩) 2 c] wx fun e w' => e = .returned (.int .i64 0) ∧ Lr w g (S.wrote 1 f ⟨false, f.bytes.length, [100, 101]⟩) none o2 w' := by
  obtain ⟨L, h1, h2, h3, h4, h5⟩ := h
  exact Lr.post h2 h3 rowAt.none h5 (append_ok L g S 1 f _ 2 c _ [100, 101] wx h1 hF hn.2 hn.1 (Rd.row wx b _ _ _ _ rfl (h4 _ rfl).2.2) (Nat.le_refl _) rfl (by decide) (.inr hfit))
theorem Lr.call2 {b c : Nat} {m : Bool} (h : Lr w g S o1 (some (b, m)) wx) (hF : Fine S) {f : Fl} (hn : S.file 1 = some f ∧ S.dead = false) (hfit : S.used + 1 ≤ S.cap) :
    Calls Try.prog 12 #[.pointer (some ⟨g, 0, none⟩), .int .i64 1, .slice (some ⟨b, 0, none⟩) 1 c] wx fun e w' => e = .returned (.int .i64 0) ∧ Lr w g (S.wrote 1 f ⟨false, f.bytes.length, [102]⟩) o1 none w' := by
  obtain ⟨L, h1, h2, h3, h5, h4⟩ := h
  exact Lr.post h2 h3 h5 rowAt.none (append_ok L g S 1 f _ 1 c _ [102] wx h1 hF hn.2 hn.1 (Rd.row wx b _ _ _ _ rfl (h4 _ rfl).2.2) (Nat.le_refl _) rfl (by decide) (.inr hfit))

theorem Live.fit4 : Live.S4.used + 2 ≤ Live.S4.cap := by decide
theorem Live.fit5 : Live.S5.used + 1 ≤ Live.S5.cap := by decide
theorem Live.fit6 : Live.S6.cap < Live.S6.used + (8 : Nat) := by decide
theorem Lr.go1 {b c : Nat} {Q : Ending → World → Prop} (h : Lr w g Live.S4 (some (b, true)) o2 wx) (k : ∀ w', Lr w g Live.S5 none o2 w' → Q (.returned (.int .i64 0)) w') :
    Calls Try.prog 12 #[.pointer (some ⟨g, 0, none⟩), .int .i64 1, .slice (some ⟨b, 0, none⟩) 2 c] wx Q :=
  (h.call1 Live.fine4 Live.h4 Live.fit4).mono fun _ w' ⟨he, hr⟩ => by rw [he]; exact k w' hr
theorem Lr.go2 {b c : Nat} {Q : Ending → World → Prop} (h : Lr w g Live.S5 none (some (b, true)) wx) (k : ∀ w', Lv w g Live.S6 w' → Q (.returned (.int .i64 0)) w') :
    Calls Try.prog 12 #[.pointer (some ⟨g, 0, none⟩), .int .i64 1, .slice (some ⟨b, 0, none⟩) 1 c] wx Q :=
  (h.call2 Live.fine5 Live.h5 Live.fit5).mono fun _ w' ⟨he, hr⟩ => by rw [he]; exact k w' hr.live
theorem Lr.go3 {A : Option Addr} {c : Nat} {Q : Ending → World → Prop} (h : Lv w g Live.S6 wx) (k : ∀ w', Lv w g Live.S6 w' → Q (.returned (.int .i64 5)) w') :
    Calls Try.prog 12 #[.pointer (some ⟨g, 0, none⟩), .int .i64 1, .slice A 8 c] wx Q :=
  (h.append_full Live.fine6 Live.h6 A 8 c (by decide) (by decide) Live.fit6).mono fun _ w' ⟨he, hr⟩ => by rw [he]; exact k w' hr

end Go.Proofs.Ytccapgcpdehicaa
