/-
  A file system in memory, as a plain state; the blocks that it owns, by labels; the contracts of Append, Write, Sync, Waiting, Read.
-/
import Derived.Test.YtpkmlehkmmdkoaaSim8
namespace Go.Proofs.Ytpkmlehkmmdkoaa
open Go.RowKit

/-- What was done to names. -/
structure Ch where
  src : ByteArray
  dst : ByteArray
  file : Nat
def chcells (l : List Ch) : List Value := l.flatMap fun c => [.string c.src, .string c.dst, .int .i64 (c.file : Int)]
theorem chcells_length (l : List Ch) : (chcells l).length = l.length * 3 := by
  induction l with
  | nil => rfl
  | cons x l ih => simp [chcells] at ih ⊢; omega
theorem chcells_append (a b : List Ch) : chcells (a ++ b) = chcells a ++ chcells b := by simp [chcells]
def ChAt (w : World) (own : Nat → Prop) (vch : Value) (l : List Ch) : Prop := w.ownsRow 0 78 3 vch l.length (chcells l) ∧ ∀ g, vch.ownBlock = some g → own g

/-- A file system's state. -/
structure St where
  cap : Int
  used : Int
  last : Int
  ops : Int
  armed : Int
  dead : Bool
  files : Int → Option Fl
  names : List (ByteArray × Nat)
  safe : List (ByteArray × Nat)
  changes : List Ch
def St.v (S : St) (mf mn ms : Nat) (vch : Value) : FsV := ⟨S.cap, S.used, S.last, mf, mn, ms, vch, S.ops, S.armed, S.dead⟩
def St.count (S : St) : St := if 0 < S.armed then { S with ops := S.ops + 1, armed := S.armed - 1, dead := S.armed - 1 == 0 } else { S with ops := S.ops + 1 }
theorem St.count_v (S : St) (mf mn ms : Nat) (vch : Value) : (S.v mf mn ms vch).count = S.count.v mf mn ms vch := by
  unfold FsV.count St.count St.v
  by_cases h : 0 < S.armed <;> simp [h]
theorem St.count_files (S : St) : S.count.files = S.files := by unfold St.count; split <;> rfl
theorem St.count_names (S : St) : S.count.names = S.names := by unfold St.count; split <;> rfl
theorem St.count_safe (S : St) : S.count.safe = S.safe := by unfold St.count; split <;> rfl
theorem St.count_changes (S : St) : S.count.changes = S.changes := by unfold St.count; split <;> rfl
def St.setFile (S : St) (n : Int) (f : Fl) : St := { S with files := fun m => if m = n then some f else S.files m }

/-- The file system S lies in block g; L labels the blocks: 1: its own, 2: bytes that nobody writes over, 3 + n: those of file n. -/
structure FsIn (w : World) (L : Nat → Nat) (g : Nat) (S : St) (mf mn ms : Nat) (vch : Value) (lf : List (Int × Nat)) : Prop where
  blk : FsB w g (S.v mf mn ms vch)
  lg : L g = 1
  lmf : L mf = 1
  lmn : L mn = 1
  lms : L ms = 1
  ns : mn ≠ ms
  fn : mf ≠ mn
  fs : mf ≠ ms
  files : MapAt encF w mf lf
  names : MapAt encN w mn S.names
  safe : MapAt encN w ms S.safe
  chs : ChAt w (fun i => L i = 1) vch S.changes
  at_ : ∀ n fb, aget lf n = some fb → 0 < n ∧ ∃ f, S.files n = some f ∧ FileAt w (fun i => L i = n.toNat + 3) (fun i => L i = 2) fb f
  no : ∀ n, aget lf n = none → S.files n = none
  lt : ∀ i, L i ≠ 0 → i < w.heap.size
def FsAt (w : World) (L : Nat → Nat) (g : Nat) (S : St) : Prop := ∃ mf mn ms vch lf, FsIn w L g S mf mn ms vch lf

/-- What an operation may do to memory. -/
structure Moved (L : Nat → Nat) (w : World) (L' : Nat → Nat) (w' : World) : Prop where
  turned : Turned (fun i => L i = 1 ∨ 3 ≤ L i) w w'
  same : ∀ i, i < w.heap.size → L' i = L i
theorem Moved.refl (L : Nat → Nat) (w : World) : Moved L w L w := ⟨Turned.refl _ w, fun _ _ => rfl⟩
theorem Moved.trans {L L1 L2 : Nat → Nat} {w w1 w2 : World} (h : Moved L w L1 w1) (k : Moved L1 w1 L2 w2) : Moved L w L2 w2 :=
  ⟨h.turned.trans k.turned fun i hi hm => by rwa [h.same i hi] at hm, fun i hi => (k.same i (Nat.lt_of_lt_of_le hi h.turned.size)).trans (h.same i hi)⟩
theorem Moved.drewN {L L' : Nat → Nat} {w w' : World} (h : Moved L w L' w') (n : Nat) : Moved L w L' (w'.drewN n) := ⟨h.turned.drewN n, h.same⟩
theorem FsAt.drewN {w : World} {L : Nat → Nat} {g : Nat} {S : St} (h : FsAt w L g S) (n : Nat) : FsAt (w.drewN n) L g S := by
  obtain ⟨mf, mn, ms, vch, lf, h⟩ := h
  exact ⟨mf, mn, ms, vch, lf, h.blk, h.lg, h.lmf, h.lmn, h.lms, h.ns, h.fn, h.fs, h.files, h.names, h.safe, h.chs, h.at_, h.no, h.lt⟩
/-- What an operation leaves. -/
def FsPost (L : Nat → Nat) (g : Nat) (S' : St) (v : Value) (w : World) (e : Ending) (w' : World) : Prop := e = .returned v ∧ ∃ L', FsAt w' L' g S' ∧ Moved L w L' w'

/-- The file system stays while blocks that it does not own are written, and new ones are made. -/
theorem FsAt.keep {w w' : World} {L : Nat → Nat} {g : Nat} {S : St} {M : Nat → Prop} (h : FsAt w L g S) (hT : Turned M w w') (hM : ∀ i, L i ≠ 0 → ¬ M i) : FsAt w' L g S := by
  obtain ⟨mf, mn, ms, vch, lf, h⟩ := h
  have st : ∀ i, L i ≠ 0 → w'.heap[i]? = w.heap[i]? := fun i hi => hT.block i (h.lt i hi) (hM i hi)
  refine ⟨mf, mn, ms, vch, lf, h.blk.keep (st g (by rw [h.lg]; decide)), h.lg, h.lmf, h.lmn, h.lms, h.ns, h.fn, h.fs, h.files.keep (st mf (by rw [h.lmf]; decide)), h.names.keep (st mn (by rw [h.lmn]; decide)), h.safe.keep (st ms (by rw [h.lms]; decide)), ⟨own_keep h.chs.1 fun i hi _ => st i (by have : L i = 1 := h.chs.2 i hi; rw [this]; decide), h.chs.2⟩, fun n fb hn => ?_, h.no, fun i hi => Nat.lt_of_lt_of_le (h.lt i hi) hT.size⟩
  obtain ⟨h0, f, h1, h2⟩ := h.at_ n fb hn
  exact ⟨h0, f, h1, h2.keep fun i hi _ => st i (by rcases hi with hi | hi <;> rw [hi] <;> omega)⟩

/-- A file system whose file n has been turned. -/
theorem FsIn.turn_in {w w' : World} {L : Nat → Nat} {g : Nat} {S S' : St} {mf mn ms : Nat} {vch : Value} {lf : List (Int × Nat)} {n : Int} {fb s : Nat} {f' : Fl} (h : FsIn w L g S mf mn ms vch lf) (hn : aget lf n = some fb)
    (hb : FsB w' g (S'.v mf mn ms vch)) (hT : Turned (fun i => i = g ∨ L i = n.toNat + 3) w w') (hs : w.heap.size ≤ s) (hs' : s ≤ w'.heap.size)
    (hf : FileAt w' (fun i => L i = n.toNat + 3 ∨ (s ≤ i ∧ i < w'.heap.size)) (fun i => L i = 2 ∨ (w.heap.size ≤ i ∧ i < s)) fb f')
    (e1 : S'.files = fun m => if m = n then some f' else S.files m) (e2 : S'.names = S.names) (e3 : S'.safe = S.safe) (e4 : S'.changes = S.changes) :
    ∃ L', FsIn w' L' g S' mf mn ms vch lf ∧ Moved L w L' w' := by
  obtain ⟨hn0, f, hf0, _⟩ := h.at_ n fb hn
  have hgl := h.blk.lt
  refine ⟨fun i => if i < w.heap.size then L i else if i < s then 2 else if i < w'.heap.size then n.toNat + 3 else 0, ⟨hb, ?_, ?_, ?_, ?_, h.ns, h.fn, h.fs, ?_, ?_, ?_, ⟨?_, ?_⟩, ?_, ?_, ?_⟩, ⟨hT.mono fun i _ hi => ?_, fun i hi => if_pos hi⟩⟩
  · rw [if_pos hgl]; exact h.lg
  · rw [if_pos h.files.lt]; exact h.lmf
  · rw [if_pos h.names.lt]; exact h.lmn
  · rw [if_pos h.safe.lt]; exact h.lms
  · refine h.files.keep (hT.block mf h.files.lt fun hi => ?_)
    rcases hi with hi | hi
    · obtain ⟨es, cl, hm, _⟩ := h.files
      have hg' : w.heap[g]? = _ := h.blk
      rw [hi, hg'] at hm
      cases hm
    · rw [h.lmf] at hi; omega
  · rw [e2]
    refine h.names.keep (hT.block mn h.names.lt fun hi => ?_)
    rcases hi with hi | hi
    · obtain ⟨es, cl, hm, _⟩ := h.names
      have hg' : w.heap[g]? = _ := h.blk
      rw [hi, hg'] at hm
      cases hm
    · rw [h.lmn] at hi; omega
  · rw [e3]
    refine h.safe.keep (hT.block ms h.safe.lt fun hi => ?_)
    rcases hi with hi | hi
    · obtain ⟨es, cl, hm, _⟩ := h.safe
      have hg' : w.heap[g]? = _ := h.blk
      rw [hi, hg'] at hm
      cases hm
    · rw [h.lms] at hi; omega
  · rw [e4]
    refine own_keep h.chs.1 fun i hi hl => hT.block i hl fun hh => ?_
    rcases hh with rfl | hh
    · exact own_ne h.chs.1 h.blk (by decide) hi
    · have : L i = 1 := h.chs.2 i hi
      omega
  · intro i hi
    show (if i < w.heap.size then L i else _) = 1
    rw [if_pos (own_lt h.chs.1 i hi)]
    exact h.chs.2 i hi
  · intro m fb' hm
    rw [e1]
    by_cases hmn : m = n
    · subst hmn
      rw [hn] at hm
      injection hm with hm
      subst hm
      refine ⟨hn0, f', if_pos rfl, hf.mono (fun i hl hi => ?_) (fun i hl hi => ?_)⟩
      · show (if i < w.heap.size then L i else if i < s then 2 else if i < w'.heap.size then m.toNat + 3 else 0) = m.toNat + 3
        rcases hi with hi | hi
        · rw [if_pos (h.lt i (by rw [hi]; omega))]
          exact hi
        · rw [if_neg (by omega), if_neg (by omega), if_pos hi.2]
      · show (if i < w.heap.size then L i else if i < s then 2 else if i < w'.heap.size then m.toNat + 3 else 0) = 2
        rcases hi with hi | hi
        · rw [if_pos (h.lt i (by rw [hi]; omega))]
          exact hi
        · rw [if_neg (by omega), if_pos hi.2]
    · obtain ⟨hm0, f2, hf2, hfa⟩ := h.at_ m fb' hm
      refine ⟨hm0, f2, by simp [hmn, hf2], (hfa.keep fun i hi hl => hT.block i hl fun hh => ?_).mono (fun i hl hi => ?_) (fun i hl hi => ?_)⟩
      · rcases hh with rfl | hh
        · rcases hi with hi | hi <;> rw [h.lg] at hi <;> omega
        · rcases hi with hi | hi
          · have : m.toNat = n.toNat := by omega
            exact hmn (by omega)
          · omega
      · show (if i < w.heap.size then L i else _) = m.toNat + 3
        rw [if_pos (h.lt i (by rw [hi]; omega))]
        exact hi
      · show (if i < w.heap.size then L i else _) = 2
        rw [if_pos (h.lt i (by rw [hi]; omega))]
        exact hi
  · intro m hm
    rw [e1]
    have hmn : m ≠ n := fun e => by rw [e, hn] at hm; cases hm
    show (if m = n then some f' else S.files m) = none
    rw [if_neg hmn]
    exact h.no m hm
  · intro i hi
    by_cases h1 : i < w.heap.size
    · exact Nat.lt_of_lt_of_le h1 hT.size
    · by_cases h2 : i < s
      · omega
      · by_cases h3 : i < w'.heap.size
        · exact h3
        · simp [h1, h2, h3] at hi
  · rcases hi with rfl | hi
    · exact .inl h.lg
    · exact .inr (by omega)

/-- A file system whose file n has been turned. -/
theorem FsIn.turn {w w' : World} {L : Nat → Nat} {g : Nat} {S S' : St} {mf mn ms : Nat} {vch : Value} {lf : List (Int × Nat)} {n : Int} {fb s : Nat} {f' : Fl} (h : FsIn w L g S mf mn ms vch lf) (hn : aget lf n = some fb)
    (hb : FsB w' g (S'.v mf mn ms vch)) (hT : Turned (fun i => i = g ∨ L i = n.toNat + 3) w w') (hs : w.heap.size ≤ s) (hs' : s ≤ w'.heap.size)
    (hf : FileAt w' (fun i => L i = n.toNat + 3 ∨ (s ≤ i ∧ i < w'.heap.size)) (fun i => L i = 2 ∨ (w.heap.size ≤ i ∧ i < s)) fb f')
    (e1 : S'.files = fun m => if m = n then some f' else S.files m) (e2 : S'.names = S.names) (e3 : S'.safe = S.safe) (e4 : S'.changes = S.changes) :
    ∃ L', FsAt w' L' g S' ∧ Moved L w L' w' :=
  let ⟨L', h1, h2⟩ := h.turn_in hn hb hT hs hs' hf e1 e2 e3 e4
  ⟨L', ⟨mf, mn, ms, vch, lf, h1⟩, h2⟩

end Go.Proofs.Ytpkmlehkmmdkoaa
