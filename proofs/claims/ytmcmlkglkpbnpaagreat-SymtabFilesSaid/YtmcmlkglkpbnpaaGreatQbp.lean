/-
  symtab's Open.
-/
import Derived.Test.YtmcmlkglkpbnpaaGreatQas
import Derived.Test.YtmcmlkglkpbnpaaGreatQbo
namespace Go.Proofs.YtmcmlkglkpbnpaaGreat
open Go.RowKit
section
variable {D k : Nat} {S : St} {R : RS}
theorem Sim.open5 (h : Sim D k S R) (a : ByteArray) : openVal S a = (if nameR R a = 0 ∧ 0 ≤ atR R.d a then ((R.d.getD (atR R.d a).toNat ⟨⟨#[]⟩, 0⟩).n : Int) else 0) ∧ askErr S [a] a = (if nameR R a = 0 then (if 0 ≤ atR R.d a then 0 else 7) else nameR R a) := by
 have e0 : ∀ E, askErr S [a] a = E → E ≠ 0 → openVal S a = 0 := fun E h1 h2 => by unfold openVal; rw [h1, if_neg h2]
 cases ho : R.off
 ·cases hno : nameOk a
  ·have e1 : askErr S [a] a = 20 := by unfold askErr; rw [h.dead, ho, List.all_cons, hno]; rfl
   rw [e0 _ e1 (by decide), e1, nameR_bad ho hno]
   exact ⟨rfl, rfl⟩
  ·rw [nameR_ok ho hno]
   have e2 : [a].all nameOk = true := by rw [List.all_cons, hno]; rfl
   rcases h.names.at_cases a with ⟨q1, q2, q3⟩ | ⟨j, hj, q1, q2, q3⟩
   ·have e1 : askErr S [a] a = 7 := by unfold askErr; rw [h.dead, ho, e2, q2]; rfl
    rw [e0 _ e1 (by decide), e1, q1]
    exact ⟨rfl, rfl⟩
   ·have e1 : askErr S [a] a = 0 := by unfold askErr; rw [h.dead, ho, e2, q2]; rfl
    have e3 : openVal S a = (R.d[j].n : Int) := by unfold openVal; rw [e1, if_pos rfl, q2]; rfl
    have e4 : R.d.getD j ⟨⟨#[]⟩, 0⟩ = R.d[j] := by rw [List.getD_eq_getElem?_getD, List.getElem?_eq_getElem hj]; rfl
    rw [e3, e1, q1, if_pos ⟨rfl, by omega⟩, if_pos rfl, if_pos (by omega), show ((j : Int)).toNat = j from rfl, e4]
    exact ⟨rfl, rfl⟩
 ·have e1 : askErr S [a] a = 21 := by unfold askErr; rw [h.dead, ho]; rfl
  rw [e0 _ e1 (by decide), e1, nameR_off ho]
  exact ⟨rfl, rfl⟩
end
def Nz (w w' : World) (Z : Nat → Prop) (i : Nat) : Prop := Z i ∨ (w.heap.size ≤ i ∧ i < w'.heap.size)
theorem Wrote.turned {w w' : World} {f : List Nat} (h : Wrote w w' f) : Turned (fun i => i ∈ f) w w' := ⟨h.os, h.tape, h.output, h.size, fun i hi hm => h.block i hi hm⟩
section
variable {w0 wx wy : World} {Z : Nat → Prop} {g q : Nat} {S : St} {R : RS}
theorem Bo.wrote {M : Nat → Prop} (h : Bo w0 Z g S q R wx) (hT : Turned M wx wy) (hM : ∀ i, M i → Z i) : Bo wy (Nz wx wy Z) g S q R wy := by
 have hs := h.size
 obtain ⟨L, O, h1, h2, h3, h4, h5⟩ := h
 refine ⟨L, O, h1.keep hT (fun i hi hm => hi (h5 i (hM i hm)).1), h2.keep hT (fun i hi hm => (h4 i hi).2.2 (hM i hm)), Turned.refl _ _, fun i hi => ⟨(h4 i hi).1, Nat.lt_of_lt_of_le (h4 i hi).2.1 hT.size, fun hz => ?_⟩, fun i hi => ?_⟩
 ·rcases hz with hz | hz
  ·exact (h4 i hi).2.2 hz
  ·have := (h4 i hi).2.1
   omega
 ·rcases hi with hi | hi
  ·exact ⟨(h5 i hi).1, Nat.lt_of_lt_of_le (h5 i hi).2 (Nat.le_trans hs hT.size)⟩
  ·exact ⟨Classical.byContradiction fun hc => by have := h1.lts hc; omega, hi.2⟩
theorem Bo.grew (h : Bo w0 Z g S q R wx) (hg : wx.grownBy wy none) : Bo wy (Nz wx wy Z) g S q R wy :=
 h.wrote (M := fun _ => False) (Turned.of_gb hg (by simp)) (fun _ h => h.elim)
end
def SyB (w : World) (gF gT g : Nat) (n : Int) : Prop := w.heap[gF]? = some (.cells #[.pointer (some ⟨gT, 0, none⟩), .pointer (some ⟨g, 0, none⟩), .int .i64 n] 64 (0, 0))
def RSyB (w : World) (gF gT g : Nat) (n : Int) : Prop := w.heap[gF]? = some (.cells #[.pointer (some ⟨gT, 0, none⟩), .pointer (some ⟨g, 0, none⟩), .int .i64 n] 48 (0, 0))
def PF (Z : Nat → Prop) (w : World) (gF g : Nat) (n : Int) (L : List ByteArray) : Prop := ∃ gT f, SyB w gF gT g n ∧ TabF w 0 f gT L ∧ Z gF ∧ gF ∉ f ∧ ∀ x ∈ f, Z x
def DF (Z : Nat → Prop) (w : World) (gF q : Nat) (n : Int) (L : List ByteArray) : Prop := ∃ gT v, RSyB w gF gT q n ∧ RTabB w 0 gT v L ∧ Z gF ∧ Z gT ∧ ∀ i, v.ownBlock = some i → Z i
theorem PF.keep {Z : Nat → Prop} {w w' : World} {gF g : Nat} {n : Int} {L : List ByteArray} (h : PF Z w gF g n L) {M : Nat → Prop} (hT : Turned M w w') (hM : ∀ i, M i → ¬ Z i) : PF Z w' gF g n L := by
 obtain ⟨gT, f, h1, ⟨v, mb, h2, rfl⟩, h3, h4, h5⟩ := h
 have hk : ∀ i, Z i → i < w.heap.size → w'.heap[i]? = w.heap[i]? := fun i hz hi => hT.block i hi (fun hm => hM i hm hz)
 refine ⟨gT, _, (hk gF h3 (blk_lt h1)).trans h1, ⟨v, mb, ⟨?_, ?_, ?_, h2.2.2.2⟩, rfl⟩, h3, h4, h5⟩
 ·exact (hk gT (h5 gT (by simp [tabF])) (blk_lt h2.1)).trans h2.1
 ·refine own_blk h2.2.1 fun i hi => ?_
  rcases h2.2.1.2 with ⟨rfl, _⟩ | ⟨b, cap, cur, rfl, _, hb, _⟩
  ·simp [Value.ownBlock] at hi
  ·have : b = i := by simpa [Value.ownBlock] using hi
   subst this
   exact hk b (h5 b (by simp [tabF, Value.ownBlock])) (blk_lt hb)
 ·exact h2.2.2.1.keep (hk mb (h5 mb (by simp [tabF])) h2.2.2.1.lt)
theorem DF.keep {Z : Nat → Prop} {w w' : World} {gF q : Nat} {n : Int} {L : List ByteArray} (h : DF Z w gF q n L) {M : Nat → Prop} (hT : Turned M w w') (hM : ∀ i, M i → ¬ Z i) : DF Z w' gF q n L := by
 obtain ⟨gT, v, h1, h2, h3, h4, h5⟩ := h
 have hk : ∀ i, Z i → i < w.heap.size → w'.heap[i]? = w.heap[i]? := fun i hz hi => hT.block i hi (fun hm => hM i hm hz)
 refine ⟨gT, v, (hk gF h3 (blk_lt h1)).trans h1, ⟨(hk gT h4 (blk_lt h2.1)).trans h2.1, own_blk h2.2.1 fun i hi => ?_, h2.2.2⟩, h3, h4, h5⟩
 rcases h2.2.1.2 with ⟨rfl, _⟩ | ⟨b, cap, cur, rfl, _, hb, _⟩
 ·simp [Value.ownBlock] at hi
 ·have : b = i := by simpa [Value.ownBlock] using hi
  subst this
  exact hk b (h5 b rfl) (blk_lt hb)
theorem PF.mono {Z Z' : Nat → Prop} {w : World} {gF g : Nat} {n : Int} {L : List ByteArray} (h : PF Z w gF g n L) (hZ : ∀ i, Z i → Z' i) : PF Z' w gF g n L := by
 obtain ⟨gT, f, h1, h2, h3, h4, h5⟩ := h
 exact ⟨gT, f, h1, h2, hZ _ h3, h4, fun x hx => hZ _ (h5 x hx)⟩
theorem DF.mono {Z Z' : Nat → Prop} {w : World} {gF q : Nat} {n : Int} {L : List ByteArray} (h : DF Z w gF q n L) (hZ : ∀ i, Z i → Z' i) : DF Z' w gF q n L := by
 obtain ⟨gT, v, h1, h2, h3, h4, h5⟩ := h
 exact ⟨gT, v, h1, h2, hZ _ h3, hZ _ h4, fun i hi => hZ _ (h5 i hi)⟩
/-! ## What opening comes to -/
theorem frsF_end (n : Nat) : ∀ p : List UInt8, (frsF n p).2.1 ≤ p.length := by
 induction n with
 | zero => exact fun p => Nat.zero_le _
 | succ n ih =>
  intro p
  unfold frsF
  split
  ·exact Nat.zero_le _
  ·split
   ·rename_i h
    have hs := opn_size p h
    have := ih (p.drop (opn p).2.1)
    rw [List.length_drop] at this
    show (opn p).2.1 + _ ≤ _
    omega
   ·exact Nat.zero_le _
theorem frs_end (p : List UInt8) : (frs p).2.1 ≤ p.length := frsF_end _ p
def numA (R : RS) (a : ByteArray) : Int := if nameR R a = 0 ∧ 0 ≤ atR R.d a then ((R.d.getD (atR R.d a).toNat ⟨⟨#[]⟩, 0⟩).n : Int) else 0
def errA (R : RS) (a : ByteArray) : Int := if nameR R a = 0 then (if 0 ≤ atR R.d a then 0 else 7) else nameR R a
def crA (R : RS) (a : ByteArray) : RS × Int × Option (Int × List ByteArray) :=
 if (createR R a).1.2 ≠ 0 then ((createR R a).2, (createR R a).1.2, none)
 else if (syncDirR (createR R a).2).1 ≠ 0 then ((syncDirR (createR R a).2).2, (syncDirR (createR R a).2).1, none)
 else ((syncDirR (createR R a).2).2, 0, some ((createR R a).1.1, [⟨#[]⟩]))
def mendA (R : RS) (n : Int) (at_ : Nat) (L : List ByteArray) : RS × Int × Option (Int × List ByteArray) :=
 if (cutR R n at_).1 ≠ 0 then ((cutR R n at_).2, (cutR R n at_).1, none)
 else if (syncR (cutR R n at_).2 n).1 ≠ 0 then ((syncR (cutR R n at_).2 n).2, (syncR (cutR R n at_).2 n).1, none)
 else ((syncR (cutR R n at_).2 n).2, 0, some (n, L))
def recA (R : RS) (n : Int) : RS × Int × Option (Int × List ByteArray) :=
 if thereR R n ≠ 0 then (R, thereR R n, none)
 else if (readR R n 0 (sizeV R n)).2 ≠ 0 then (R, (readR R n 0 (sizeV R n)).2, none)
 else match ldL (frs (bl (readR R n 0 (sizeV R n)).1)).1 with
  | none => (R, 51, none)
  | some L => if (((frs (bl (readR R n 0 (sizeV R n)).1)).2.1 : Nat) : Int) = sizeV R n then (R, 0, some (n, L)) else mendA R n (frs (bl (readR R n 0 (sizeV R n)).1)).2.1 L
def openA (R : RS) (a : ByteArray) : RS × Int × Option (Int × List ByteArray) :=
 if errA R a = 7 then crA R a else if errA R a ≠ 0 then (R, errA R a, none) else recA R (numA R a)
theorem read_all {R : RS} {n : Int} (h : thereR R n = 0) : readR R n 0 (sizeV R n) = ((fileR R n).p, 0) ∧ sizeV R n = ((fileR R n).p.size : Int) := by
 have e : sizeV R n = ((fileR R n).p.size : Int) := by unfold sizeV; rw [if_pos h]
 refine ⟨?_, e⟩
 unfold readR
 rw [if_neg (by simp [h]), if_neg (by rw [e]; omega), e]
 congr 1
 have : (0 : Int).toNat + min ((fileR R n).p.size : Int).toNat ((fileR R n).p.size - (0 : Int).toNat) = (fileR R n).p.size := by simp
 rw [this]
 apply ByteArray.ext
 simp
end Go.Proofs.YtmcmlkglkpbnpaaGreat
namespace Go.Proofs.YtmcmlkglkpbnpaaGreat
open Go.RowKit
def OpenP (Z : Nat → Prop) (g q : Nat) (R : RS) (S' : St) (x : RS × Int × Option (Int × List ByteArray)) (wx : World) (e : Ending) (w' : World) : Prop :=
 ∃ Z' : Nat → Prop, (∀ i, Z i → Z' i) ∧ (∀ i, Z' i → Z i ∨ wx.heap.size ≤ i) ∧ Turned (fun i => ¬ Z i) wx w' ∧ Bo w' Z' g S' q R w' ∧
  ((x.2.2 = none ∧ e = .returned (.tuple #[.pointer none, .int .i64 x.2.1])) ∨
   ∃ n L gF, x.2.2 = some (n, L) ∧ e = .returned (.tuple #[.pointer (some ⟨gF, 0, none⟩), .int .i64 0]) ∧ PF (fun i => Z' i ∧ wx.heap.size ≤ i) w' gF g n L)
def RecP (Z : Nat → Prop) (g q : Nat) (R : RS) (S' : St) (x : RS × Int × Option (Int × List ByteArray)) (wx : World) (e : Ending) (w' : World) : Prop :=
 ∃ Z' : Nat → Prop, (∀ i, Z i → Z' i) ∧ (∀ i, Z' i → Z i ∨ wx.heap.size ≤ i) ∧ Turned (fun i => ¬ Z i) wx w' ∧ Bo w' Z' g S' q R w' ∧
  ((x.2.2 = none ∧ e = .returned (.tuple #[.pointer none, .int .i64 x.2.1])) ∨
   ∃ n L gT f, x.2.2 = some (n, L) ∧ e = .returned (.tuple #[.pointer (some ⟨gT, 0, none⟩), .int .i64 0]) ∧ TabF w' 0 f gT L ∧ ∀ y ∈ f, Z' y ∧ wx.heap.size ≤ y ∧ y < w'.heap.size)
theorem TabF.same {w w' : World} {base g : Nat} {f : List Nat} {L : List ByteArray} (h : TabF w base f g L) (hk : ∀ x ∈ f, w'.heap[x]? = w.heap[x]?) : TabF w' base f g L := by
 obtain ⟨v, mb, h2, rfl⟩ := h
 refine ⟨v, mb, ⟨(hk g (by simp [tabF])).trans h2.1, own_blk h2.2.1 fun i hi => hk i (by simp [tabF, hi]), h2.2.2.1.keep (hk mb (by simp [tabF])), h2.2.2.2⟩, rfl⟩
theorem loadL_none {A : Option Addr} {n c k : Nat} {w : World} (h : Calls Tryz.prog 29 #[.slice A n c] w (LoadPost none k w)) :
  Calls Tryz.prog 29 #[.slice A n c] w fun e w' => e = .returned (.tuple #[.pointer none, .int .i64 0, .int .i64 51]) ∧ w.grownBy w' none :=
 h.mono fun e w' ⟨hg, h⟩ => by
  rcases h with ⟨_, h⟩ | ⟨L, g, f, h1, _, _⟩
  ·exact ⟨h, hg⟩
  ·cases h1
theorem loadL_some {A : Option Addr} {n c k : Nat} {w : World} {L : List ByteArray} (h : Calls Tryz.prog 29 #[.slice A n c] w (LoadPost (some L) k w)) :
  Calls Tryz.prog 29 #[.slice A n c] w fun e w' => ∃ g f, e = .returned (.tuple #[.pointer (some ⟨g, 0, none⟩), .int .i64 (k : Int), .int .i64 0]) ∧ TabF w' w.heap.size f g L ∧ w.grownBy w' none :=
 h.mono fun e w' ⟨hg, h⟩ => by
  rcases h with ⟨h1, _⟩ | ⟨M, g, f, h1, h2, h3⟩
  ·cases h1
  ·injection h1 with h1
   subst h1
   exact ⟨g, f, h2, h3, hg⟩
section
variable {wx : World} {Z : Nat → Prop} {g q D k : Nat} {S : St} {R : RS}
theorem turned_gb {w w' : World} {Z : Nat → Prop} (hg : w.grownBy w' none) : Turned (fun i => ¬ Z i) w w' := Turned.of_gb hg (by simp)
set_option maxHeartbeats 4000000 in
set_option maxRecDepth 100000 in
theorem create_any5 (h : Bo wx Z g S q R wx) (hs : Sim D k S R) (hD : D ≤ 1600000) (hk : k + 2 ≤ 1000) (a : ByteArray) :
  Calls Tryz.prog 43 #[.pointer (some ⟨g, 0, none⟩), .string a] wx fun e w' => ∃ S', Sim D (k + 2) S' (crA R a).1 ∧ OpenP Z g q R S' (crA R a) wx e w' := by
 have hc := h.pCreate hs hD (by omega) a
 obtain ⟨c1, c2, c3⟩ := hs.create a
 rw [c1, c2] at hc
 have hsd := c3.syncDir
 unfold crA
 generalize (createR R a).1.1 = n at *
 generalize (createR R a).1.2 = E at *
 generalize (createR R a).2 = R1 at *
 generalize S.create a = S1 at *
 have HC := hide hc
 by_cases hE : E = 0
 ·subst hE
  have hsy : Hid (∀ w2, Bo wx Z g S1 q R w2 → Calls Tryz.prog 80 #[.pointer (some ⟨g, 0, none⟩)] w2 fun e w' => e = .returned (.int .i64 (syncDirR R1).1) ∧ Bo wx Z g S1.syncDir q R w') := hide fun w2 hb => by
   have := hb.pSyncDir c3 hD (by omega)
   rwa [hsd.1] at this
  have HSD := hide hsd.2
  generalize (syncDirR R1).1 = E2 at *
  generalize (syncDirR R1).2 = R2 at *
  generalize S1.syncDir = S2 at *
  by_cases hE2 : E2 = 0
  ·subst hE2
   clear hc h hs c3 hsd c1 c2
   go_enter Tryz.func43, Tryz.ntmps43
   go_wp2_with (first
    | (go_at_call 79; refine HC.out.mono ?_; rintro e w1 ⟨rfl, hb⟩; have HB1 := hide hb; clear hb)
    | (go_at_call 80; refine (hsy.out _ HB1.out).mono ?_; rintro e w2 ⟨rfl, hb⟩; have HB2 := hide hb; clear hb)
    | (go_at_call 26; refine (new_tab w2).mono ?_; rintro e w3 ⟨gT, rfl, ht, hg⟩; have HT := hide ht; have HG := hide hg; clear ht hg))
   go_ret2
   obtain ⟨f, hf⟩ := HT.out
   have hga : w3.grownBy (w3.alloc (.cells #[.pointer (some ⟨gT, 0, none⟩), .pointer (some ⟨g, 0, none⟩), .int .i64 n] 64)) none := gb_alloc (gb_refl w3 none) _
   have hgg := gb_trans HG.out hga (.inl rfl)
   have hsz := HB2.out.size
   have hlt := hf.lt
   refine ⟨S2, HSD.out, Nz w2 _ Z, fun i hi => .inl hi, fun i hi => hi.imp id fun h => Nat.le_trans hsz h.1, HB2.out.turned.trans (turned_gb (Z := Z) hgg) (fun _ _ h => h), HB2.out.grew hgg, .inr ⟨n, _, w3.heap.size, rfl, rfl, gT, f, heap_alloc_new w3 _, (hf.grown hga).more (Nat.zero_le _), ⟨.inr ⟨HG.out.size, by simp⟩, Nat.le_trans hsz HG.out.size⟩, fun hm => by have := (hlt _ hm).1; omega, fun x hx => ?_⟩⟩
   have := hlt x hx
   exact ⟨.inr ⟨this.2, by simp; omega⟩, Nat.le_trans hsz this.2⟩
  ·have hb2 : (E2 != 0) = true := by simpa using hE2
   clear hc h hs c3 hsd c1 c2
   rw [if_neg (by simp), if_pos hE2]
   clear hE2
   go_enter Tryz.func43, Tryz.ntmps43
   go_wp2_with (first
    | (go_at_call 79; refine HC.out.mono ?_; rintro e w1 ⟨rfl, hb⟩; have HB1 := hide hb; clear hb)
    | (go_at_call 80; refine (hsy.out _ HB1.out).mono ?_; rintro e w2 ⟨rfl, hb⟩; have HB2 := hide hb; clear hb))
   go_ret2
   exact ⟨S2, HSD.out, Z, fun _ h => h, fun _ h => .inl h, HB2.out.turned, HB2.out.here, .inl ⟨rfl, rfl⟩⟩
 ·have hb1 : (E != 0) = true := by simpa using hE
  have HS1 := hide (c3.mono (Nat.le_refl D) (Nat.le_succ (k + 1)))
  rw [if_pos hE]
  clear hc h hs c3 hsd c1 c2 hE
  go_enter Tryz.func43, Tryz.ntmps43
  go_wp2_with (go_at_call 79; refine HC.out.mono ?_; rintro e w1 ⟨rfl, hb⟩; have HB1 := hide hb; clear hb)
  go_ret2
  exact ⟨S1, HS1.out, Z, fun _ h => h, fun _ h => .inl h, HB1.out.turned, HB1.out.here, .inl ⟨rfl, rfl⟩⟩
set_option maxHeartbeats 8000000 in
set_option maxRecDepth 100000 in
theorem recovered_any5 (h : Bo wx Z g S q R wx) (hs : Sim D k S R) (hD : D ≤ 1600000) (hk : k + 2 ≤ 1000) (n : Int) :
  Calls Tryz.prog 44 #[.pointer (some ⟨g, 0, none⟩), .int .i64 n] wx fun e w' => ∃ S', Sim D (k + 2) S' (recA R n).1 ∧ RecP Z g q R S' (recA R n) wx e w' := by
 have HSZ := hide (h.pSize hs n)
 have HB := hide h
 have HS2 := hide (hs.mono (Nat.le_refl D) (Nat.le_add_right k 2))
 by_cases hE : thereR R n = 0
 ·obtain ⟨hra, hsv⟩ := read_all hE
  have hps : (fileR R n).p.size ≤ 1600000 := by
   have hin : R.d.any (fun e => (e.n : Int) == n) = true := (thereR_has hE).2
   obtain ⟨f, _, _, _, _, h5, h6⟩ := hs.file hin
   have : fileR R n = R.f[(n - 1).toNat] := by unfold fileR; rw [List.getD_eq_getElem?_getD, List.getElem?_eq_getElem h6]; rfl
   rw [this]
   exact Nat.le_trans (hs.good _ (List.getElem_mem h6)).psz hD
  have HRD : Hid (∀ w1, wx.grownBy w1 none → Calls Tryz.prog 82 #[.pointer (some ⟨g, 0, none⟩), .int .i64 n, .int .i64 0, .int .i64 (sizeV R n)] w1 fun e w' => ∃ A c, e = .returned (.tuple #[.slice A (fileR R n).p.size c, .int .i64 0]) ∧
    Rd w' w'.heap.size A (u8s (bl (fileR R n).p)) ∧ (fileR R n).p.size ≤ c ∧ c ≤ maxLen ∧ w1.grownBy w' none) := hide fun w1 hg => by
   have := (h.keep hg).pRead hs hD (by omega) n 0 (sizeV R n)
   rw [hra] at this
   refine this.mono ?_
   rintro e w' ⟨A, c, rfl, hb, hgr⟩
   obtain ⟨A', c', e1, q1, q2, q3⟩ := hb.rd
   injection e1 with e1 e2 e3
   subst e1
   subst e3
   exact ⟨A, c, rfl, q3, by rw [← bl_len]; exact q1, q2, hgr⟩
  have hLD := fun (A : Option Addr) (c : Nat) (w : World) (hr : Rd w w.heap.size A (u8s (bl (fileR R n).p))) (hc : (fileR R n).p.size ≤ c) (hm : c ≤ maxLen) => load_lim A (fileR R n).p.size c (bl (fileR R n).p) w hr (bl_len _) hc hm (by omega)
  have hend := frs_end (bl (fileR R n).p)
  rw [bl_len] at hend
  rw [hE, hsv] at HSZ
  rw [hsv] at HRD
  have hcut := fun at_ : Nat => hs.cut n (at_ : Int)
  unfold recA
  rw [if_neg (by simp [hE]), hra, if_neg (by simp), hsv]
  have HLD := hide hLD
  generalize (fileR R n).p = P at *
  generalize (frs (bl P)).1 = fr at *
  generalize (frs (bl P)).2.1 = at_ at *
  clear hra hsv hLD
  cases hld : ldL fr with
  | none =>
   simp only [hld] at HLD
   have HL := hide (fun A c w hr hc hm => loadL_none (HLD.out A c w hr hc hm))
   clear hld HLD h hs hcut hend hps hE
   go_enter Tryz.func44, Tryz.ntmps44
   go_wp2_with (first
    | (go_at_call 81; refine HSZ.out.mono ?_; rintro e w1 ⟨rfl, hg⟩; have HG1 := hide hg; clear hg)
    | (go_at_call 82; refine (HRD.out _ HG1.out).mono ?_; rintro e w2 ⟨A, c, rfl, hr, hc, hm, hg⟩; have HR := hide hr; have HCC := hide hc; have HMM := hide hm; have HG2 := hide (gb_trans HG1.out hg (.inl rfl)); clear hr hc hm hg)
    | (go_at_call 29; refine (HL.out A c w2 HR.out HCC.out HMM.out).mono ?_; rintro e w3 ⟨rfl, hg⟩; have HG3 := hide (gb_trans HG2.out hg (.inl rfl)); clear hg))
   go_ret2
   exact ⟨S, HS2.out, Z, fun _ h => h, fun _ h => .inl h, turned_gb HG3.out, (HB.out.keep HG3.out).here, .inl ⟨rfl, rfl⟩⟩
  | some L =>
   simp only [hld] at HLD
   have HL := hide (fun A c w hr hc hm => loadL_some (HLD.out A c w hr hc hm))
   by_cases hat : at_ = P.size
   ·have hb1 : ((at_ : Int) == (P.size : Int)) = true := by rw [hat]; simp
    dsimp only
    rw [if_pos (show (at_ : Int) = (P.size : Int) by rw [hat])]
    clear hld HLD h hs hcut hend hps hE hat
    go_enter Tryz.func44, Tryz.ntmps44
    go_wp2_with (first
     | (go_at_call 81; refine HSZ.out.mono ?_; rintro e w1 ⟨rfl, hg⟩; have HG1 := hide hg; clear hg)
     | (go_at_call 82; refine (HRD.out _ HG1.out).mono ?_; rintro e w2 ⟨A, c, rfl, hr, hc, hm, hg⟩; have HR := hide hr; have HCC := hide hc; have HMM := hide hm; have HG2 := hide (gb_trans HG1.out hg (.inl rfl)); clear hr hc hm hg)
     | (go_at_call 29; refine (HL.out A c w2 HR.out HCC.out HMM.out).mono ?_; rintro e w3 ⟨gT, f, rfl, ht, hg⟩; have HT := hide ht; have HG3 := hide (gb_trans HG2.out hg (.inl rfl)); clear hg ht))
    go_ret2
    have hsz := HG2.out.size
    refine ⟨S, HS2.out, Nz wx w3 Z, fun _ h => .inl h, fun i hi => hi.imp id fun h => h.1, turned_gb HG3.out, HB.out.grew HG3.out, .inr ⟨n, L, gT, f, rfl, rfl, HT.out.more (Nat.zero_le _), fun y hy => ?_⟩⟩
    have := HT.out.lt y hy
    exact ⟨.inr ⟨by omega, this.1⟩, by omega, this.1⟩
   ·have hb1 : ((at_ : Int) == (P.size : Int)) = false := beq_eq_false_iff_ne.2 fun e => hat (by omega)
    dsimp only
    rw [if_neg (show ¬ (at_ : Int) = (P.size : Int) by omega)]
    obtain ⟨d1, d2⟩ := hcut at_
    have hsy := d2.sync n
    have hCT : Hid (∀ w3 Z3, Bo w3 Z3 g S q R w3 → Calls Tryz.prog 83 #[.pointer (some ⟨g, 0, none⟩), .int .i64 n, .int .i64 (at_ : Int)] w3 fun e w' => e = .returned (.int .i64 (cutR R n at_).1) ∧ Bo w3 Z3 g (S.cut n at_) q R w') := hide fun w3 Z3 hb => by
     have := hb.pCut hs hD (by omega) n at_
     rwa [d1] at this
    unfold mendA
    generalize (cutR R n at_).1 = E1 at *
    generalize (cutR R n at_).2 = R1 at *
    generalize S.cut n at_ = S1 at *
    have hSY : Hid (∀ w3 w4 Z3, Bo w3 Z3 g S1 q R w4 → Calls Tryz.prog 57 #[.pointer (some ⟨g, 0, none⟩), .int .i64 n] w4 fun e w' => e = .returned (.int .i64 (syncR R1 n).1) ∧ Bo w3 Z3 g (S1.sync n) q R w') := hide fun w3 w4 Z3 hb => by
     have := hb.pSync d2 hD (by omega) n
     rwa [hsy.1] at this
    have HD2 := hide (d2.mono (Nat.le_refl D) (Nat.le_succ (k + 1)))
    have HSY2 := hide hsy.2
    generalize (syncR R1 n).1 = E2 at *
    generalize (syncR R1 n).2 = R2 at *
    generalize S1.sync n = S2 at *
    clear hld HLD h hs hcut hend hps hE hat d1 d2 hsy
    by_cases hE1 : E1 = 0
    ·subst hE1
     by_cases hE2 : E2 = 0
     ·subst hE2
      go_enter Tryz.func44, Tryz.ntmps44
      go_wp2_with (first
       | (go_at_call 81; refine HSZ.out.mono ?_; rintro e w1 ⟨rfl, hg⟩; have HG1 := hide hg; clear hg)
       | (go_at_call 82; refine (HRD.out _ HG1.out).mono ?_; rintro e w2 ⟨A, c, rfl, hr, hc, hm, hg⟩; have HR := hide hr; have HCC := hide hc; have HMM := hide hm; have HG2 := hide (gb_trans HG1.out hg (.inl rfl)); clear hr hc hm hg)
       | (go_at_call 29; refine (HL.out A c w2 HR.out HCC.out HMM.out).mono ?_; rintro e w3 ⟨gT, f, rfl, ht, hg⟩; have HT := hide ht; have HG3 := hide (gb_trans HG2.out hg (.inl rfl)); have HB3 := hide (HB.out.grew HG3.out); clear hg ht)
       | (go_at_call 83; refine (hCT.out _ _ HB3.out).mono ?_; rintro e w4 ⟨rfl, hb⟩; have HB4 := hide hb; clear hb)
       | (go_at_call 57; refine (hSY.out _ _ _ HB4.out).mono ?_; rintro e w5 ⟨rfl, hb⟩; have HB5 := hide hb; clear hb))
      go_ret2
      have hsz := HG2.out.size
      have hT5 := HB5.out.turned
      have hin : ∀ y ∈ f, Nz wx w3 Z y ∧ wx.heap.size ≤ y ∧ y < w3.heap.size := fun y hy => by
       have := HT.out.lt y hy
       exact ⟨.inr ⟨by omega, this.1⟩, by omega, this.1⟩
      refine ⟨S2, HSY2.out, Nz wx w3 Z, fun _ h => .inl h, fun i hi => hi.imp id fun h => h.1, (turned_gb (Z := Z) HG3.out).trans hT5 (fun i _ hn hz => hn (.inl hz)), HB5.out.here, .inr ⟨n, L, gT, f, rfl, rfl, (HT.out.same fun y hy => hT5.block y (hin y hy).2.2 (fun hn => hn (hin y hy).1)).more (Nat.zero_le _), fun y hy => ⟨(hin y hy).1, (hin y hy).2.1, Nat.lt_of_lt_of_le (hin y hy).2.2 hT5.size⟩⟩⟩
     ·have hb2 : (E2 != 0) = true := by simpa using hE2
      rw [if_neg (by simp), if_pos hE2]
      clear hE2
      go_enter Tryz.func44, Tryz.ntmps44
      go_wp2_with (first
       | (go_at_call 81; refine HSZ.out.mono ?_; rintro e w1 ⟨rfl, hg⟩; have HG1 := hide hg; clear hg)
       | (go_at_call 82; refine (HRD.out _ HG1.out).mono ?_; rintro e w2 ⟨A, c, rfl, hr, hc, hm, hg⟩; have HR := hide hr; have HCC := hide hc; have HMM := hide hm; have HG2 := hide (gb_trans HG1.out hg (.inl rfl)); clear hr hc hm hg)
       | (go_at_call 29; refine (HL.out A c w2 HR.out HCC.out HMM.out).mono ?_; rintro e w3 ⟨gT, f, rfl, ht, hg⟩; have HT := hide ht; have HG3 := hide (gb_trans HG2.out hg (.inl rfl)); have HB3 := hide (HB.out.grew HG3.out); clear hg ht)
       | (go_at_call 83; refine (hCT.out _ _ HB3.out).mono ?_; rintro e w4 ⟨rfl, hb⟩; have HB4 := hide hb; clear hb)
       | (go_at_call 57; refine (hSY.out _ _ _ HB4.out).mono ?_; rintro e w5 ⟨rfl, hb⟩; have HB5 := hide hb; clear hb))
      go_ret2
      exact ⟨S2, HSY2.out, Nz wx w3 Z, fun _ h => .inl h, fun i hi => hi.imp id fun h => h.1, (turned_gb (Z := Z) HG3.out).trans HB5.out.turned (fun i _ hn hz => hn (.inl hz)), HB5.out.here, .inl ⟨rfl, rfl⟩⟩
    ·have hb2 : (E1 != 0) = true := by simpa using hE1
     rw [if_pos hE1]
     clear hE1
     go_enter Tryz.func44, Tryz.ntmps44
     go_wp2_with (first
      | (go_at_call 81; refine HSZ.out.mono ?_; rintro e w1 ⟨rfl, hg⟩; have HG1 := hide hg; clear hg)
      | (go_at_call 82; refine (HRD.out _ HG1.out).mono ?_; rintro e w2 ⟨A, c, rfl, hr, hc, hm, hg⟩; have HR := hide hr; have HCC := hide hc; have HMM := hide hm; have HG2 := hide (gb_trans HG1.out hg (.inl rfl)); clear hr hc hm hg)
      | (go_at_call 29; refine (HL.out A c w2 HR.out HCC.out HMM.out).mono ?_; rintro e w3 ⟨gT, f, rfl, ht, hg⟩; have HT := hide ht; have HG3 := hide (gb_trans HG2.out hg (.inl rfl)); have HB3 := hide (HB.out.grew HG3.out); clear hg ht)
      | (go_at_call 83; refine (hCT.out _ _ HB3.out).mono ?_; rintro e w4 ⟨rfl, hb⟩; have HB4 := hide hb; clear hb))
     go_ret2
     exact ⟨S1, HD2.out, Nz wx w3 Z, fun _ h => .inl h, fun i hi => hi.imp id fun h => h.1, (turned_gb (Z := Z) HG3.out).trans HB4.out.turned (fun i _ hn hz => hn (.inl hz)), HB4.out.here, .inl ⟨rfl, rfl⟩⟩
 ·have hb1 : (thereR R n != 0) = true := by simpa using hE
  have e1 : recA R n = (R, thereR R n, none) := by unfold recA; rw [if_pos hE]
  rw [e1]
  generalize thereR R n = E at *
  clear hE e1 h hs
  go_enter Tryz.func44, Tryz.ntmps44
  go_wp2_with (go_at_call 81; refine HSZ.out.mono ?_; rintro e w1 ⟨rfl, hg⟩; have HG1 := hide hg; clear hg)
  go_ret2
  exact ⟨S, HS2.out, Z, fun _ h => h, fun _ h => .inl h, turned_gb HG1.out, (HB.out.keep HG1.out).here, .inl ⟨rfl, rfl⟩⟩
end
end Go.Proofs.YtmcmlkglkpbnpaaGreat
namespace Go.Proofs.YtmcmlkglkpbnpaaGreat
open Go.RowKit
theorem recA_err {R : RS} {n : Int} (h : (recA R n).2.2 = none) : (recA R n).2.1 ≠ 0 := by
 unfold recA at h ⊢
 split
 ·assumption
 ·rename_i h0
  rw [if_neg h0] at h
  split
  ·assumption
  ·rename_i h1
   rw [if_neg h1] at h
   split
   ·show (51 : Int) ≠ 0
    decide
   ·rename_i L hL
    rw [hL] at h
    simp only at h
    split
    ·rename_i h2
     rw [if_pos h2] at h
     cases h
    ·rename_i h2
     rw [if_neg h2] at h
     unfold mendA at h ⊢
     split
     ·assumption
     ·rename_i h3
      rw [if_neg h3] at h
      split
      ·assumption
      ·rename_i h4
       rw [if_neg h4] at h
       cases h
theorem recA_num {R : RS} {n m : Int} {L : List ByteArray} (h : (recA R n).2.2 = some (m, L)) : m = n := by
 unfold recA at h
 split at h
 ·cases h
 ·split at h
  ·cases h
  ·split at h
   ·cases h
   ·split at h
    ·injection h with h; injection h with h; exact h.symm
    ·unfold mendA at h
     split at h
     ·cases h
     ·split at h
      ·cases h
      ·injection h with h; injection h with h; exact h.symm
section
variable {wx w1 : World} {Z : Nat → Prop} {g q D k : Nat} {S S' : St} {R : RS}
theorem OpenP.back {x : RS × Int × Option (Int × List ByteArray)} {e : Ending} {w' : World} (h : OpenP Z g q R S' x w1 e w') (hb : Bo wx Z g S q R w1) : OpenP Z g q R S' x wx e w' := by
 obtain ⟨Z', h1, h2, h3, h4, h5⟩ := h
 have hsz := hb.size
 refine ⟨Z', h1, fun i hi => (h2 i hi).imp id fun h => Nat.le_trans hsz h, hb.turned.trans h3 (fun _ _ h => h), h4, ?_⟩
 rcases h5 with h5 | ⟨n, L, gF, k1, k2, gT, f, k3, k4, k5, k6, k7⟩
 ·exact .inl h5
 ·exact .inr ⟨n, L, gF, k1, k2, gT, f, k3, k4, ⟨k5.1, Nat.le_trans hsz k5.2⟩, k6, fun x hx => ⟨(k7 x hx).1, Nat.le_trans hsz (k7 x hx).2⟩⟩
set_option maxHeartbeats 4000000 in
set_option maxRecDepth 100000 in
theorem open_any5 (h : Bo wx Z g S q R wx) (hs : Sim D k S R) (hD : D ≤ 1600000) (hk : k + 2 ≤ 1000) (a : ByteArray) :
  Calls Tryz.prog 17 #[.pointer (some ⟨g, 0, none⟩), .string a] wx fun e w' => ∃ S', Sim D (k + 2) S' (openA R a).1 ∧ OpenP Z g q R S' (openA R a) wx e w' := by
 have hop := h.pOpen a
 obtain ⟨o1, o2⟩ := hs.open5 a
 rw [show openVal S a = numA R a from o1, show askErr S [a] a = errA R a from o2] at hop
 have HO := hide hop
 have HS2 := hide (hs.mono (Nat.le_refl D) (Nat.le_add_right k 2))
 have HCR := hide fun (w1 : World) (hb : Bo wx Z g S q R w1) => create_any5 hb.here hs hD hk a
 have HRC := hide fun (w1 : World) (hb : Bo wx Z g S q R w1) => recovered_any5 hb.here hs hD hk (numA R a)
 unfold openA
 have hre := recA_err (R := R) (n := numA R a)
 have hrn := fun m L => recA_num (R := R) (n := numA R a) (m := m) (L := L)
 generalize numA R a = n at *
 generalize errA R a = E at *
 clear hop o1 o2 h hs
 by_cases h7 : E = 7
 ·subst h7
  rw [if_pos rfl]
  generalize crA R a = X at *
  obtain ⟨R', E', o⟩ := X
  cases o with
  | none =>
   have HC : Hid (∀ w1, Bo wx Z g S q R w1 → Calls Tryz.prog 43 #[.pointer (some ⟨g, 0, none⟩), .string a] w1 fun e w' => e = .returned (.tuple #[.pointer none, .int .i64 E']) ∧ ∃ S', Sim D (k + 2) S' R' ∧ OpenP Z g q R S' (R', E', none) wx e w') := hide fun w1 hb => (HCR.out w1 hb).mono fun e w' ⟨S', s1, s2⟩ => by
    have s3 := s2.back hb
    obtain ⟨Z', _, _, _, _, s4⟩ := s2
    rcases s4 with ⟨_, s4⟩ | ⟨_, _, _, s4, _⟩
    ·exact ⟨s4, S', s1, s3⟩
    ·cases s4
   clear HCR HRC hre hrn
   go_enter Tryz.func17, Tryz.ntmps17
   go_wp2_with (first
    | (go_at_call 42; refine HO.out.mono ?_; rintro e w1 ⟨rfl, hb⟩; have HB1 := hide hb; clear hb)
    | (go_at_call 43; refine (HC.out _ HB1.out).mono ?_; rintro e w2 ⟨rfl, hx⟩; have HX := hide hx; clear hx))
   go_ret2
   exact HX.out
  | some p =>
   obtain ⟨n', L⟩ := p
   have HC : Hid (∀ w1, Bo wx Z g S q R w1 → Calls Tryz.prog 43 #[.pointer (some ⟨g, 0, none⟩), .string a] w1 fun e w' => ∃ gF, e = .returned (.tuple #[.pointer (some ⟨gF, 0, none⟩), .int .i64 0]) ∧ ∃ S', Sim D (k + 2) S' R' ∧ OpenP Z g q R S' (R', E', some (n', L)) wx e w') := hide fun w1 hb => (HCR.out w1 hb).mono fun e w' ⟨S', s1, s2⟩ => by
    have s3 := s2.back hb
    obtain ⟨Z', _, _, _, _, s4⟩ := s2
    rcases s4 with ⟨s4, _⟩ | ⟨_, _, gF, _, s4, _⟩
    ·cases s4
    ·exact ⟨gF, s4, S', s1, s3⟩
   clear HCR HRC hre hrn
   go_enter Tryz.func17, Tryz.ntmps17
   go_wp2_with (first
    | (go_at_call 42; refine HO.out.mono ?_; rintro e w1 ⟨rfl, hb⟩; have HB1 := hide hb; clear hb)
    | (go_at_call 43; refine (HC.out _ HB1.out).mono ?_; rintro e w2 ⟨gF, rfl, hx⟩; have HX := hide hx; clear hx))
   go_ret2
   exact HX.out
 ·have hb7 : (E == 7) = false := beq_eq_false_iff_ne.2 h7
  rw [if_neg h7]
  by_cases h0 : E = 0
  ·subst h0
   rw [if_neg (by simp)]
   generalize recA R n = X at *
   obtain ⟨R', E', o⟩ := X
   cases o with
   | none =>
    have he0 : E' ≠ 0 := hre rfl
    have hbe : (E' != 0) = true := by simpa using he0
    have HC : Hid (∀ w1, Bo wx Z g S q R w1 → Calls Tryz.prog 44 #[.pointer (some ⟨g, 0, none⟩), .int .i64 n] w1 fun e w' => e = .returned (.tuple #[.pointer none, .int .i64 E']) ∧ ∃ S', Sim D (k + 2) S' R' ∧ ∃ Z' : Nat → Prop, (∀ i, Z i → Z' i) ∧ (∀ i, Z' i → Z i ∨ w1.heap.size ≤ i) ∧ Turned (fun i => ¬ Z i) w1 w' ∧ Bo w' Z' g S' q R w') := hide fun w1 hb => (HRC.out w1 hb).mono fun e w' ⟨S', s1, Z', r1, r2, r3, r4, r5⟩ => by
     rcases r5 with ⟨_, r5⟩ | ⟨_, _, _, _, r5, _⟩
     ·exact ⟨r5, S', s1, Z', r1, r2, r3, r4⟩
     ·cases r5
    clear HCR HRC hre hrn he0 h7
    go_enter Tryz.func17, Tryz.ntmps17
    go_wp2_with (first
     | (go_at_call 42; refine HO.out.mono ?_; rintro e w1 ⟨rfl, hb⟩; have HB1 := hide hb; clear hb)
     | (go_at_call 44; refine (HC.out _ HB1.out).mono ?_; rintro e w2 ⟨rfl, hx⟩; have HX := hide hx; clear hx))
    go_ret2
    obtain ⟨S', s1, Z', r1, r2, r3, r4⟩ := HX.out
    exact ⟨S', s1, Z', r1, fun i hi => (r2 i hi).imp id fun h => Nat.le_trans HB1.out.size h, HB1.out.turned.trans r3 (fun _ _ h => h), r4, .inl ⟨rfl, rfl⟩⟩
   | some p =>
    obtain ⟨n', L⟩ := p
    obtain rfl := hrn n' L rfl
    have HC : Hid (∀ w1, Bo wx Z g S q R w1 → Calls Tryz.prog 44 #[.pointer (some ⟨g, 0, none⟩), .int .i64 n'] w1 fun e w' => ∃ gT f, e = .returned (.tuple #[.pointer (some ⟨gT, 0, none⟩), .int .i64 0]) ∧ ∃ S', Sim D (k + 2) S' R' ∧ ∃ Z' : Nat → Prop, (∀ i, Z i → Z' i) ∧ (∀ i, Z' i → Z i ∨ w1.heap.size ≤ i) ∧ Turned (fun i => ¬ Z i) w1 w' ∧ Bo w' Z' g S' q R w' ∧ TabF w' 0 f gT L ∧ ∀ y ∈ f, Z' y ∧ w1.heap.size ≤ y ∧ y < w'.heap.size) := hide fun w1 hb => (HRC.out w1 hb).mono fun e w' ⟨S', s1, Z', r1, r2, r3, r4, r5⟩ => by
     rcases r5 with ⟨r5, _⟩ | ⟨_, L', gT, f, r5, r6, r7, r8⟩
     ·cases r5
     ·injection r5 with r5
      injection r5 with _ r5
      subst r5
      exact ⟨gT, f, r6, S', s1, Z', r1, r2, r3, r4, r7, r8⟩
    clear HCR HRC hre hrn h7
    go_enter Tryz.func17, Tryz.ntmps17
    go_wp2_with (first
     | (go_at_call 42; refine HO.out.mono ?_; rintro e w1 ⟨rfl, hb⟩; have HB1 := hide hb; clear hb)
     | (go_at_call 44; refine (HC.out _ HB1.out).mono ?_; rintro e w2 ⟨gT, f, rfl, hx⟩; have HX := hide hx; clear hx))
    go_ret2
    obtain ⟨S', s1, Z', r1, r2, r3, r4, r5, r6⟩ := HX.out
    have hsz := HB1.out.size
    have hga : w2.grownBy (w2.alloc (.cells #[.pointer (some ⟨gT, 0, none⟩), .pointer (some ⟨g, 0, none⟩), .int .i64 n'] 64)) none := gb_alloc (gb_refl w2 none) _
    have hs2 := r3.size
    refine ⟨S', s1, Nz w2 _ Z', fun i hi => .inl (r1 i hi), fun i hi => ?_, (HB1.out.turned.trans r3 (fun _ _ h => h)).trans (turned_gb (Z := Z) hga) (fun _ _ h => h), r4.grew hga, .inr ⟨n', L, w2.heap.size, rfl, rfl, gT, f, heap_alloc_new w2 _, r5.grown hga, ⟨.inr ⟨Nat.le_refl _, by simp⟩, by omega⟩, fun hm => by have := (r6 _ hm).2.2; omega, fun x hx => ⟨.inl (r6 x hx).1, Nat.le_trans hsz (r6 x hx).2.1⟩⟩⟩
    rcases hi with hi | hi
    ·exact (r2 i hi).imp id fun h => Nat.le_trans hsz h
    ·exact .inr (by omega)
  ·have hb0 : (E != 0) = true := by simpa using h0
   rw [if_pos h0]
   clear HCR HRC hre hrn h0 h7
   go_enter Tryz.func17, Tryz.ntmps17
   go_wp2_with (go_at_call 42; refine HO.out.mono ?_; rintro e w1 ⟨rfl, hb⟩; have HB1 := hide hb; clear hb)
   go_ret2
   exact ⟨S, HS2.out, Z, fun _ h => h, fun _ h => .inl h, HB1.out.turned, HB1.out.here, .inl ⟨rfl, rfl⟩⟩
end
end Go.Proofs.YtmcmlkglkpbnpaaGreat
