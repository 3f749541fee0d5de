/-
  SimfsFull: renaming and removing keep what holds; appending, whatever the file; nothing has changed.
-/
import Derived.Test.YtmcmlkglkpbnpaaGreatQbc
import Derived.Test.YtmcmlkglkpbnpaaGreatQac
import Derived.Deep.CutBlock
import Derived.Deep.DeepCutAuto
import Derived.Deep.RegionWith
import Derived.Test.YtmcmlkglkpbnpaaGreatQbb
namespace Go.Proofs.YtmcmlkglkpbnpaaGreat
open Go.RowKit
end Go.Proofs.YtmcmlkglkpbnpaaGreat
namespace Go.Proofs.YtmcmlkglkpbnpaaGreat
open Go.RowKit
/-! ## up to the first SyncDir -/
theorem Sw.F0 (f : Fl) : (fun m => if m = (1 : Int) then some f else (fun _ => none : Int → Option Fl) m) = Sw.F (some f) none := by
 funext m
 unfold Sw.F
 by_cases h : m = 1
 ·subst h; simp
 ·simp [h]
def Sw.V1 : St := ⟨67108864, 0, 1, 1, 0, false, Sw.F (some ⟨false, [], [], []⟩) none, [(Sw.it, 1)], [], [⟨⟨#[]⟩, Sw.it, 1⟩]⟩
def Sw.V2 (old : List UInt8) : St := ⟨67108864, old.length, 1, 2, 0, false, Sw.F (some ⟨false, old, [], [⟨false, 0, old⟩]⟩) none, [(Sw.it, 1)], [], [⟨⟨#[]⟩, Sw.it, 1⟩]⟩
def Sw.V3 (old : List UInt8) : St := ⟨67108864, old.length, 1, 3, 0, false, Sw.F (some ⟨false, old, old, []⟩) none, [(Sw.it, 1)], [], [⟨⟨#[]⟩, Sw.it, 1⟩]⟩
theorem Sw.v1 : (St.new 67108864).created Sw.it = Sw.V1 := by
 have e : (St.new 67108864).created Sw.it = { Sw.V1 with files := fun m => if m = (1 : Int) then some ⟨false, [], [], []⟩ else (fun _ => none : Int → Option Fl) m } := rfl
 rw [e, Sw.F0]
 rfl
theorem Sw.v2 (old : List UInt8) : Sw.V1.wrote 1 ⟨false, [], [], []⟩ ⟨false, 0, old⟩ = Sw.V2 old := by
 have e0 : doW [] ⟨false, 0, old⟩ = old := by simp [doW]
 have e1 : Sw.V1.wrote 1 ⟨false, [], [], []⟩ ⟨false, 0, old⟩ = { Sw.V2 old with used := 0 - 0 + (doW [] ⟨false, 0, old⟩).length, files := fun m => if m = (1 : Int) then some ⟨false, doW [] ⟨false, 0, old⟩, [], [⟨false, 0, old⟩]⟩ else Sw.F (some ⟨false, [], [], []⟩) none m } := rfl
 rw [e1, e0, Sw.F1]
 unfold Sw.V2
 simp
theorem Sw.v3 (old : List UInt8) : (Sw.V2 old).synced 1 ⟨false, old, [], [⟨false, 0, old⟩]⟩ = Sw.V3 old := by
 have e1 : (Sw.V2 old).synced 1 ⟨false, old, [], [⟨false, 0, old⟩]⟩ = { Sw.V3 old with files := fun m => if m = (1 : Int) then some ⟨false, old, old, []⟩ else Sw.F (some ⟨false, old, [], [⟨false, 0, old⟩]⟩) none m } := rfl
 rw [e1, Sw.F1]
 rfl
theorem Sw.v4 (old fresh : List UInt8) : ((Sw.V3 old).settled (Sw.V3 old).names).count = Sw.T old fresh 4 0 false 0 := by
 have ef : (fun n : Int => if ∃ x ∈ ([(Sw.it, 1)] : List (ByteArray × Nat)), (x.2 : Int) = n then Sw.F (some ⟨false, old, old, []⟩) none n else none) = Sw.F (some ⟨false, old, old, []⟩) none := by
  funext n
  unfold Sw.F
  by_cases hn : n = 1
  ·subst hn; simp
  ·have hn' : ¬ (1 : Int) = n := fun e => hn e.symm
   by_cases h2 : n = 2 <;> simp [hn, hn', h2]
 have e1 : ((Sw.V3 old).settled (Sw.V3 old).names).count = { Sw.T old fresh 4 0 false 0 with files := fun n : Int => if ∃ x ∈ ([(Sw.it, 1)] : List (ByteArray × Nat)), (x.2 : Int) = n then Sw.F (some ⟨false, old, old, []⟩) none n else none } := rfl
 rw [e1, ef]
 rfl
theorem Sw.fine1 : Fine Sw.V1 := Sw.fine_of _ _ _ rfl (by rintro f (h | h) <;> cases h; simp) (by decide) (by decide) (by decide) (by decide) (by decide)
theorem Sw.fine2 {old : List UInt8} (ho : old.length ≤ 20000) : Fine (Sw.V2 old) := Sw.fine_of _ _ _ rfl (by rintro f (h | h) <;> cases h; simp; omega) (by simp [Sw.V2]; omega) (by simp [Sw.V2]) (by simp [Sw.V2]) (by simp [Sw.V2]) (by simp [Sw.V2])
theorem Sw.fine3 {old : List UInt8} (ho : old.length ≤ 20000) : Fine (Sw.V3 old) := Sw.fine_of _ _ _ rfl (by rintro f (h | h) <;> cases h; simp; omega) (by simp [Sw.V3]; omega) (by simp [Sw.V3]) (by simp [Sw.V3]) (by simp [Sw.V3]) (by simp [Sw.V3])
theorem Sw.fine0 : Fine (St.new 67108864) := ⟨by decide, by decide, by decide, by decide, by decide, fun n f h => by cases h⟩
section
variable {w wx : World} {g : Nat} {old fresh : List UInt8}
theorem Sw.c1 (h : Lv w g (St.new 67108864) wx) : Calls Tryz.prog 79 #[.pointer (some ⟨g, 0, none⟩), .string ⟨#[105, 116]⟩] wx fun e w' => e = .returned (.tuple #[.int .i64 1, .int .i64 0]) ∧ Lv w g Sw.V1 w' :=
 (h.create Sw.it (show createErr (St.new 67108864) Sw.it = 0 from rfl) Sw.fine0).mono fun e w' ⟨he, hl⟩ => ⟨he, by rw [Sw.v1] at hl; exact hl⟩
theorem Sw.c2 (h : Lv w g Sw.V1 wx) (ho : old.length ≤ 20000) (A : Option Addr) (m c : Nat) (hr : Rd wx wx.heap.size A (u8s old)) (hm : m = old.length) :
  Calls Tryz.prog 15 #[.pointer (some ⟨g, 0, none⟩), .int .i64 1, .slice A m c] wx fun e w' => e = .returned (.int .i64 0) ∧ Lv w g (Sw.V2 old) w' :=
 (h.append Sw.fine1 (n := 1) (f := ⟨false, [], [], []⟩) ⟨rfl, rfl⟩ old A m c hr hm (by omega) (.inr (by show (0 : Int) + m ≤ 67108864; omega))).mono fun e w' ⟨he, hl⟩ => ⟨he, by
  have hl' : Lv w g (Sw.V1.wrote 1 ⟨false, [], [], []⟩ ⟨false, 0, old⟩) w' := hl
  rw [Sw.v2] at hl'
  exact hl'⟩
theorem Sw.c3 (h : Lv w g (Sw.V2 old) wx) (ho : old.length ≤ 20000) : Calls Tryz.prog 57 #[.pointer (some ⟨g, 0, none⟩), .int .i64 1] wx fun e w' => e = .returned (.int .i64 0) ∧ Lv w g (Sw.V3 old) w' :=
 (h.sync (Sw.fine2 ho) (n := 1) (f := ⟨false, old, [], [⟨false, 0, old⟩]⟩) ⟨rfl, rfl⟩).mono fun e w' ⟨he, hl⟩ => ⟨he, by rw [Sw.v3] at hl; exact hl⟩
theorem Sw.c4 (fresh : List UInt8) (h : Lv w g (Sw.V3 old) wx) (ho : old.length ≤ 20000) : Calls Tryz.prog 80 #[.pointer (some ⟨g, 0, none⟩)] wx fun e w' => e = .returned (.int .i64 0) ∧ Lv w g (Sw.T old fresh 4 0 false 0) w' :=
 (h.syncdir (Sw.fine3 ho) rfl (fun x hx => by
  have hx' : x ∈ ([(Sw.it, 1)] : List (ByteArray × Nat)) := hx
  rw [List.mem_singleton] at hx'
  subst hx'
  rfl)).mono fun e w' ⟨he, hl⟩ => ⟨he, by rw [Sw.v4 old fresh] at hl; exact hl⟩
theorem Sw.c5 (h : Lv w g (Sw.T old fresh 4 0 false 0) wx) (n : Int) (hn : n ≤ 9223372036854775807) : Calls Tryz.prog 10 #[.pointer (some ⟨g, 0, none⟩), .int .i64 n] wx fun e w' => e = .returned (.tuple #[]) ∧ ∃ S, Lv w g S w' ∧ Sw.At old fresh 0 S := by
 obtain ⟨L, h1, h2, h3⟩ := h
 refine (Lv.post h2 h3 (armed_in L g _ n wx h1)).mono fun e w' ⟨he, hl⟩ => ⟨he, _, hl, 0, 4, max n 0, false || n == 0, rfl, Nat.le_refl _, fun _ => rfl, by omega, by omega, by omega⟩
theorem Sw.open_ {S : St} {d : Bool} (h : Lv w g S wx) (hp : Sw.Post old fresh d S) : ∃ (n : Nat) (xs : List UInt8), (xs = old ∨ xs = fresh) ∧ (d = false → xs = fresh) ∧ xs.length ≤ 20000 ∧
  Calls Tryz.prog 42 #[.pointer (some ⟨g, 0, none⟩), .string ⟨#[105, 116]⟩] wx fun e w' => e = .returned (.tuple #[.int .i64 (n : Int), .int .i64 0]) ∧
   Calls Tryz.prog 82 #[.pointer (some ⟨g, 0, none⟩), .int .i64 (n : Int), .int .i64 0, .int .i64 67108864] w' fun e w2 => ∃ A c m, e = .returned (.tuple #[.slice A m c, .int .i64 0]) ∧ m = xs.length ∧ w.grownBy w2 none ∧ Rd w2 w2.heap.size A (u8s xs) := by
 obtain ⟨p1, p2, n, f, p3, p4, p5, p6, p7⟩ := hp
 obtain ⟨L, h1, h2, h3⟩ := h
 have he : askErr S [Sw.it] Sw.it = 0 := by
  have hok : [Sw.it].all nameOk = true := by decide
  unfold askErr
  rw [p1, hok, p3]
  simp
 refine ⟨n, f.bytes, p5, p6, p7, (open_any L g S Sw.it wx h1).mono ?_⟩
 rintro e w' ⟨rfl, hg⟩
 refine ⟨by rw [openVal, if_pos he, he, p3]; rfl, ?_⟩
 have hl := Lv.keep ⟨L, h1, h2, h3⟩ hg
 refine (hl.read p2 (n := (n : Int)) (f := f) ⟨p4, p1⟩ 0 67108864 (Nat.zero_le _) (by decide)).mono ?_
 rintro e w2 ⟨A, c, m, rfl, hm, hl2, hr, _⟩
 refine ⟨A, c, m, rfl, by rw [hm]; show min 67108864 (f.bytes.length - 0) = _; omega, hl2.grown, ?_⟩
 rw [List.drop_zero, List.take_of_length_le (by show f.bytes.length ≤ 67108864; omega)] at hr
 exact hr
end
end Go.Proofs.YtmcmlkglkpbnpaaGreat
namespace Go.Proofs.YtmcmlkglkpbnpaaGreat
open Go.RowKit
theorem Sw.laid {w3 : World} {own : Nat → Prop} {A : Option Addr} {n c : Nat} {xs : List UInt8} (hb : BsAt w3 own (.slice A n c) ([] ++ xs)) (hn : n = ([] ++ xs).length) : Rd w3 w3.heap.size A (u8s xs) ∧ n = xs.length := by
 obtain ⟨A', c', e, _, _, hr⟩ := hb.rd
 injection e with e1 e2 e3
 subst e1
 exact ⟨hr, hn⟩
theorem Rd.at_ {w w' : World} {A : Option Addr} {xs : List Value} (h : Rd w w.heap.size A xs) (hg : w.grownBy w' none) : Rd w' w.heap.size A xs := h.grown hg (Nat.le_refl _) (by simp)
theorem own_cap {w : World} {base size n c : Nat} {e : TypeId} {A : Option Addr} {xs : List Value} (h : w.ownsRow base e size (.slice A n c) n xs) : n ≤ c ∧ c ≤ maxLen := by
 rcases h.2 with ⟨h1, h0⟩ | ⟨g, cap, cur, hv, _, _, h3, h4, _⟩
 ·injection h1 with _ _ h1
  subst h1
  subst h0
  exact ⟨Nat.le_refl _, Nat.zero_le _⟩
 ·injection hv with _ _ hv
  subst hv
  exact ⟨h3, h4⟩
theorem Sw.wreck {w0 w13 w5 : World} {g : Nat} {S : St} {A : Option Addr} {n c : Nat} {tl : List Tn} (_ : Lv w0 g S w13) (ho : w5.ownsRow 0 94 3 (.slice A n c) n (tcells tl)) (hg : (w13.alloc (.cells #[] 94)).grownBy w5 (some w13.heap.size))
  (hb : (Value.slice A n c).ownBlock = some w13.heap.size ∨ (Value.slice A n c).ownBlock = some (w13.alloc (.cells #[] 94)).heap.size) :
  w13.grownBy w5 none ∧ Rd w5 w5.heap.size A (tcells tl) ∧ (∀ a, A = some a → a.block < w0.heap.size ∨ w13.heap.size ≤ a.block) ∧ (n ≤ c ∧ c ≤ maxLen) := by
 refine ⟨gb_trans (gb_alloc (gb_refl w13 none) (.cells #[] 94)) hg (.inr (.inr ⟨_, rfl, Nat.le_refl _⟩)), Rd.of_own ho, fun a ha => .inr ?_, own_cap ho⟩
 subst ha
 rcases hb with hb | hb
 ·have e : a.block = w13.heap.size := by injection hb
  omega
 ·have e : a.block = (w13.alloc (.cells #[] 94)).heap.size := by injection hb
  rw [e]
  simp
theorem Sw.str {w : World} {A : Option Addr} {n c B : Nat} {bs : List UInt8} (hr : Rd w B A (u8s bs)) (hn : n = bs.length) : (convert 49 9 (.slice A n c)).run Tryz.prog w = .ok (.string ⟨bs.toArray⟩) w := by
 subst hn
 exact run_string_of w 49 5 Tryz.underlying49 Tryz.underlying5 _ _ _ _ hr 9 Tryz.underlying9
theorem Sw.same {a b : List UInt8} (h : a = b) : (a == b) = true := by
 subst h
 simp
theorem Sw.other {a b : List UInt8} (h : a ≠ b) : (a == b) = false := beq_eq_false_iff_ne.2 h
end Go.Proofs.YtmcmlkglkpbnpaaGreat
namespace Go.Proofs.YtmcmlkglkpbnpaaGreat
open Go.RowKit
theorem BsAt.one {w : World} {own : Nat → Prop} {v : Value} {xs : List UInt8} (h : BsAt w own v xs) : v.oneCell' = true := by
 obtain ⟨A, c, rfl, _⟩ := h.form
 rfl
end Go.Proofs.YtmcmlkglkpbnpaaGreat
namespace Go.Proofs.YtmcmlkglkpbnpaaGreat
open Go.RowKit
def FourAt (g : Nat) (gn : Bool) (A : Option Addr) (n c : Nat) (B : Option Addr) (m d : Nat) (W : Option Addr) (k f : Nat) (w' : World) : Prop :=
 w'.cell? ⟨g, 0, none⟩ = some (.bool gn) ∧ w'.cell? ⟨g, 1, none⟩ = some (.slice A n c) ∧ w'.cell? ⟨g, 2, none⟩ = some (.slice B m d) ∧ w'.cell? ⟨g, 4, none⟩ = some (.slice W k f)
theorem FourAt.grown {g : Nat} {gn : Bool} {A : Option Addr} {n c : Nat} {B : Option Addr} {m d : Nat} {W : Option Addr} {k f : Nat} {w w' : World} (h : FourAt g gn A n c B m d W k f w) (hg : w.grownBy w' none) : FourAt g gn A n c B m d W k f w' := by
 obtain ⟨h1, h2, h3, h4⟩ := h
 exact ⟨cell_grown h1 hg, cell_grown h2 hg, cell_grown h3 hg, cell_grown h4 hg⟩
end Go.Proofs.YtmcmlkglkpbnpaaGreat
namespace Go.Proofs.YtmcmlkglkpbnpaaGreat
open Go.RowKit
structure CopyIn (w wr : World) (L LL : Nat → Nat) (S : St) (G mN mn ms : Nat) (vch : Value) (lk : List (Int × Nat)) : Prop where
 fs : FsB wr G (S.v mN mn ms vch)
 km : MapAt encF wr mN lk
 lG : LL G = 1
 lN : LL mN = 1
 old : ∀ i, i < w.heap.size → LL i = if L i = 2 then 2 else 0
 lt : ∀ i, LL i ≠ 0 → i < wr.heap.size
 at_ : ∀ n fb, aget lk n = some fb → 0 < n ∧ ∃ f, S.files n = some f ∧ FileAt wr (fun i => LL i = n.toNat + 3) (fun i => LL i = 2) fb f
 gb : w.grownBy wr none
theorem CopyIn.step {w wr w6 w7 w8 : World} {L LL : Nat → Nat} {S : St} {G mN mn ms : Nat} {vch : Value} {lk : List (Int × Nat)} {n : Int} {g' : Nat} {f : Fl} {it : Nat} (h : CopyIn w wr L LL S G mN mn ms vch lk) (hlt : ∀ i, L i ≠ 0 → i < w.heap.size)
  (hi0 : LL it = 0) (hiw : w.heap.size ≤ it) (hN : w.heap.size ≤ mN) (hg6 : wr.grownBy w6 (some it)) (hs6 : w6.heap.size = wr.heap.size) (hn : 0 < n) (hf : S.files n = some f) (hfa : FileAt w7 (fun i => w6.heap.size ≤ i ∧ i < w7.heap.size) (fun i => L i = 2) g' f) (hg7 : w6.grownBy w7 none)
  (hm8 : MapAt encF w8 mN (aput lk n g')) (hg8 : w7.grownBy w8 (some mN)) (hs8 : w8.heap.size = w7.heap.size) : ∃ LL', CopyIn w w8 L LL' S G mN mn ms vch (aput lk n g') ∧ (∀ i, i < wr.heap.size → LL' i = LL i) := by
 have hs7 := hg7.size
 have hGl := h.fs.lt
 have hNl := h.km.lt
 have hGN : mN ≠ G := map_ne h.km h.fs
 have hGi : G ≠ it := fun e => by rw [← e, h.lG] at hi0; omega
 have hNi : mN ≠ it := fun e => by rw [← e, h.lN] at hi0; omega
 have hw0 := h.gb.size
 have st : ∀ i, i < wr.heap.size → i ≠ it → i ≠ mN → w8.heap[i]? = wr.heap[i]? := fun i hi h1 h2 =>
  ((hg8.block i (by omega) (fun e => h2 (by injection e))).trans (hg7.block i (by omega) (by simp))).trans (hg6.block i hi (fun e => h1 (by injection e)))
 refine ⟨fun i => if i < wr.heap.size then LL i else if i < w7.heap.size then n.toNat + 3 else 0, ⟨h.fs.keep (st G hGl hGi (fun e => hGN e.symm)), hm8, ?_, ?_, fun i hi => ?_, fun i hi => ?_, fun m fb hm => ?_, ?_⟩, fun i hi => if_pos hi⟩
 ·rw [if_pos hGl]; exact h.lG
 ·rw [if_pos hNl]; exact h.lN
 ·rw [if_pos (by omega)]; exact h.old i hi
 ·by_cases h1 : i < wr.heap.size
  ·omega
  ·by_cases h2 : i < w7.heap.size
   ·omega
   ·simp [h1, h2] at hi
 ·rw [aget_aput] at hm
  by_cases hmn : m = n
  ·rw [if_pos hmn] at hm
   injection hm with hm
   subst hm
   subst hmn
   refine ⟨hn, f, hf, (hfa.keep fun i hi hl => hg8.block i hl (fun e => ?_)).mono (fun i hl hi => ?_) (fun i hl hi => ?_)⟩
   ·injection e with e
    rcases hi with hi | hi
    ·omega
    ·have := hlt i (by rw [hi]; decide)
     omega
   ·rw [if_neg (by omega), if_pos hi.2]
   ·have hil := hlt i (by rw [hi]; decide)
    rw [if_pos (by omega), h.old i hil, if_pos hi]
  ·rw [if_neg hmn] at hm
   obtain ⟨hm0, f', hf', hfa'⟩ := h.at_ m fb hm
   refine ⟨hm0, f', hf', (hfa'.keep fun i hi hl => st i hl (fun e => ?_) (fun e => ?_)).mono (fun i hl hi => ?_) (fun i hl hi => ?_)⟩
   ·rw [e] at hi
    rcases hi with hi | hi <;> rw [hi0] at hi <;> omega
   ·rw [e] at hi
    rcases hi with hi | hi <;> rw [h.lN] at hi <;> omega
   ·rw [if_pos (h.lt i (by rw [hi]; omega))]; exact hi
   ·rw [if_pos (h.lt i (by rw [hi]; omega))]; exact hi
 ·exact gb_trans (gb_trans (gb_trans h.gb hg6 (.inr (.inr ⟨_, rfl, hiw⟩))) hg7 (.inl rfl)) hg8 (.inr (.inr ⟨_, rfl, hN⟩))
def CopyPost (L : Nat → Nat) (S : St) (w : World) (e : Ending) (w' : World) : Prop :=
 ∃ g' L', e = .returned (.pointer (some ⟨g', 0, none⟩)) ∧ FsAt w' L' g' S ∧ w.grownBy w' none ∧ ∀ i, i < w.heap.size → L' i ≠ 0 → L' i = 2 ∧ L i = 2
theorem CopyIn.fin {w wr w' : World} {L LL : Nat → Nat} {S : St} {G mN mn ms mn' ms' : Nat} {vch vch' : Value} {lk : List (Int × Nat)} (h : CopyIn w wr L LL S G mN mn ms vch lk) (hT : Turned (fun i => i = G) wr w') (hfs : FsB w' G (S.v mN mn' ms' vch'))
  (hn : MapAt encN w' mn' S.names) (hs : MapAt encN w' ms' S.safe) (hc : w'.ownsRow 0 89 3 vch' S.changes.length (chcells S.changes)) (hcb : ∀ i, vch'.ownBlock = some i → wr.heap.size ≤ i)
  (h1 : wr.heap.size ≤ mn') (h2 : mn' < ms') (hGw : w.heap.size ≤ G) (hno : ∀ n, aget lk n = none → S.files n = none) : CopyPost L S w (.returned (.pointer (some ⟨G, 0, none⟩))) w' := by
 have hsz := hT.size
 have hGl := h.fs.lt
 have hNl := h.km.lt
 have hGN : mN ≠ G := map_ne h.km h.fs
 have l1 := hn.lt
 have l2 := hs.lt
 refine ⟨G, fun i => if i < wr.heap.size then LL i else if i < w'.heap.size then 1 else 0, rfl, ⟨mN, mn', ms', vch', lk, hfs, ?_, ?_, ?_, ?_, by omega, by omega, by omega, h.km.keep (hT.block mN hNl hGN), hn, hs, ⟨hc, fun i hi => ?_⟩, fun n fb hk => ?_, hno, fun i hi => ?_⟩, ⟨hT.os.trans h.gb.os, hT.tape.trans h.gb.tape, hT.output.trans h.gb.output, Nat.le_trans h.gb.size hsz, fun i hi hne => (hT.block i (Nat.lt_of_lt_of_le hi h.gb.size) (fun e => by omega)).trans (h.gb.block i hi hne)⟩, fun i hi hl => ?_⟩
 ·rw [if_pos hGl]; exact h.lG
 ·rw [if_pos hNl]; exact h.lN
 ·rw [if_neg (by omega), if_pos l1]
 ·rw [if_neg (by omega), if_pos l2]
 ·have hb := hcb i hi
  have := own_lt hc i hi
  show (if i < wr.heap.size then LL i else if i < w'.heap.size then 1 else 0) = 1
  rw [if_neg (by omega), if_pos this]
 ·obtain ⟨hn0, f, hf, hfa⟩ := h.at_ n fb hk
  refine ⟨hn0, f, hf, (hfa.keep fun i hi hl => hT.block i hl (fun e => ?_)).mono (fun i hl hi => ?_) (fun i hl hi => ?_)⟩
  ·rw [e] at hi
   rcases hi with hi | hi <;> rw [h.lG] at hi <;> omega
  ·rw [if_pos (h.lt i (by rw [hi]; omega))]; exact hi
  ·rw [if_pos (h.lt i (by rw [hi]; omega))]; exact hi
 ·by_cases k1 : i < wr.heap.size
  ·omega
  ·by_cases k2 : i < w'.heap.size
   ·exact k2
   ·simp [k1, k2] at hi
 ·have hi' := h.gb.size
  have hl' : (if i < wr.heap.size then LL i else if i < w'.heap.size then 1 else 0) ≠ 0 := hl
  show (if i < wr.heap.size then LL i else if i < w'.heap.size then 1 else 0) = 2 ∧ L i = 2
  rw [if_pos (by omega), h.old i hi] at hl' ⊢
  by_cases h2 : L i = 2
  ·exact ⟨if_pos h2, h2⟩
  ·rw [if_neg h2] at hl'
   exact absurd rfl hl'
end Go.Proofs.YtmcmlkglkpbnpaaGreat
namespace Go.Proofs.YtmcmlkglkpbnpaaGreat
theorem ag_in {l : List (ByteArray × Nat)} {a : ByteArray} {n : Nat} (ha : aget l a = some n) : (a, n) ∈ l := by
 induction l with
 | nil => cases ha
 | cons z l ih =>
  obtain ⟨c, v⟩ := z
  simp only [aget] at ha
  by_cases e3 : c = a
  ·rw [if_pos e3] at ha
   injection ha with ha
   rw [e3, ha]
   exact List.mem_cons_self ..
  ·rw [if_neg e3] at ha
   exact List.mem_cons_of_mem _ (ih ha)
def hL (F : Int → Option Fl) (n : Nat) : Nat := match F (n : Int) with
 | some f => f.bytes.length
 | none => 0
theorem hL_some {F : Int → Option Fl} {n : Nat} {f : Fl} (h : F (n : Int) = some f) : hL F n = f.bytes.length := by unfold hL; rw [h]
structure Fit (C : Int) (k : Nat) (S : St) : Prop where
 cap : S.cap = C
 dead : S.dead = false
 armed : S.armed = 0
 safe : S.safe = []
 used : S.used = ((sumF (hL S.files) S.names : Nat) : Int)
 room : S.used ≤ C
 keys : (S.names.map (·.1)).Nodup
 vals : (S.names.map (·.2)).Nodup
 there : ∀ x ∈ S.names, ∃ f, S.files (x.2 : Int) = some f ∧ f.gone = false
 named : ∀ n f, S.files n = some f → f.gone = false → n.toNat ∈ S.names.map (·.2)
 nums : ∀ n f, S.files n = some f → 0 < n ∧ n ≤ S.last
 last : 0 ≤ S.last ∧ S.last ≤ k
 ops : 0 ≤ S.ops ∧ S.ops ≤ k
 chs : S.changes.length ≤ k
 files : ∀ n f, S.files n = some f → (f.bytes.length : Int) ≤ C ∧ f.safe.length = 0 ∧ f.waits.length ≤ k
 cnt : S.names.length ≤ k
section
variable {C : Int} {k : Nat} {S : St}
theorem Fit.new (h : 0 ≤ C) : Fit C 0 (St.new C) :=
 { cap := rfl, dead := rfl, armed := rfl, safe := rfl, used := rfl, room := h, keys := List.nodup_nil, vals := List.nodup_nil, there := fun x hx => (by cases hx), named := fun _ _ h => (by cases h), nums := fun _ _ h => (by cases h), last := ⟨Int.le_refl _, Int.le_refl _⟩, ops := ⟨Int.le_refl _, Int.le_refl _⟩, chs := Nat.le_refl _, files := fun _ _ h => (by cases h), cnt := Nat.le_refl _ }
theorem Fit.more (h : Fit C k S) : Fit C (k + 1) S := by
 have h1 := h.last
 have h2 := h.ops
 have h3 := h.chs
 exact { h with last := ⟨h1.1, by omega⟩, ops := ⟨h2.1, by omega⟩, chs := by omega, files := fun n f hf => by have := h.files n f hf; exact ⟨this.1, this.2.1, by omega⟩, cnt := by have := h.cnt; omega }
theorem Fit.fine (h : Fit C k S) (h0 : 0 ≤ C) (hC : C ≤ 10000) (hk : k ≤ 1000) : Fine S := by
 have h1 := h.last
 have h2 := h.ops
 have h3 := h.chs
 have h4 := h.room
 have h5 := h.used
 have h6 := h.armed
 refine ⟨by omega, by omega, by omega, by omega, by omega, fun n f hf => ?_⟩
 have := h.files n f hf
 omega
theorem count_idle (h : S.armed = 0) : S.count = { S with ops := S.ops + 1 } := by
 unfold St.count
 rw [if_neg (by omega)]
theorem Fit.wrote (h : Fit C k S) {n : Int} {f : Fl} (hn : S.file n = some f) (x : Wr) (hr : S.used - f.bytes.length + (doW f.bytes x).length ≤ C) : Fit C (k + 1) (S.wrote n f x) := by
 obtain ⟨hf, hg⟩ := St.file_some hn
 have hn0 := h.nums n f hf
 have hnn : ((n.toNat : Nat) : Int) = n := by omega
 have h1 := h.last
 have h2 := h.ops
 have h3 := h.chs
 have hu := h.used
 unfold St.wrote
 rw [count_idle (by exact h.armed)]
 have es : ∀ m, m ≠ n.toNat → hL S.files m = hL (fun m => if m = n then some { f with bytes := doW f.bytes x, waits := f.waits ++ [x] } else S.files m) m := by
  intro m hm
  have e : (fun m => if m = n then some { f with bytes := doW f.bytes x, waits := f.waits ++ [x] } else S.files m) (m : Int) = S.files (m : Int) := if_neg (by omega)
  unfold hL
  rw [e]
 have e1 : hL S.files n.toNat = f.bytes.length := hL_some (by rw [hnn]; exact hf)
 have e2 : hL (fun m => if m = n then some { f with bytes := doW f.bytes x, waits := f.waits ++ [x] } else S.files m) n.toNat = (doW f.bytes x).length :=
  hL_some (f := { f with bytes := doW f.bytes x, waits := f.waits ++ [x] }) (if_pos hnn)
 have e3 := sumF_one h.vals (h.named n f hf hg) es
 rw [e1, e2] at e3
 have e4 : f.bytes.length ≤ sumF (hL S.files) S.names := by
  obtain ⟨y, hy, hy2⟩ := List.mem_map.1 (h.named n f hf hg)
  have := sumF_mem (h := hL S.files) hy
  have hy2 : y.2 = n.toNat := hy2
  rw [hy2, e1] at this
  exact this
 have hfl : ∀ m f', (if m = n then some { f with bytes := doW f.bytes x, waits := f.waits ++ [x] } else S.files m) = some f' → (m = n ∧ f' = { f with bytes := doW f.bytes x, waits := f.waits ++ [x] }) ∨ (m ≠ n ∧ S.files m = some f') := by
  intro m f' hm
  by_cases e : m = n
  ·rw [if_pos e] at hm
   injection hm with hm
   exact .inl ⟨e, hm.symm⟩
  ·rw [if_neg e] at hm
   exact .inr ⟨e, hm⟩
 refine ⟨h.cap, h.dead, h.armed, h.safe, ?_, hr, h.keys, h.vals, fun y hy => ?_, fun m f' hm hg' => ?_, fun m f' hm => ?_, ⟨h1.1, by show S.last ≤ ((k + 1 : Nat) : Int); omega⟩, ⟨by show 0 ≤ S.ops + 1; omega, by show S.ops + 1 ≤ ((k + 1 : Nat) : Int); omega⟩, by show S.changes.length ≤ k + 1; omega, fun m f' hm => ?_, h.more.cnt⟩
 ·show S.used - f.bytes.length + (doW f.bytes x).length = ((sumF (hL (fun m => if m = n then some { f with bytes := doW f.bytes x, waits := f.waits ++ [x] } else S.files m)) S.names : Nat) : Int)
  omega
 ·obtain ⟨f1, k1, k2⟩ := h.there y hy
  by_cases e : (y.2 : Int) = n
  ·exact ⟨_, if_pos e, hg⟩
  ·exact ⟨f1, (if_neg e).trans k1, k2⟩
 ·rcases hfl m f' hm with ⟨rfl, rfl⟩ | ⟨_, hm⟩
  ·exact h.named m f hf hg
  ·exact h.named m f' hm hg'
 ·rcases hfl m f' hm with ⟨rfl, rfl⟩ | ⟨_, hm⟩
  ·exact hn0
  ·exact h.nums m f' hm
 ·rcases hfl m f' hm with ⟨rfl, rfl⟩ | ⟨_, hm⟩
  ·have := h.files m f hf
   refine ⟨by show ((doW f.bytes x).length : Int) ≤ C; omega, this.2.1, ?_⟩
   show (f.waits ++ [x]).length ≤ k + 1
   rw [List.length_append]
   simp
   exact this.2.2
  ·have := h.files m f' hm
   exact ⟨this.1, this.2.1, by omega⟩
theorem createErr_zero {name : ByteArray} (he : createErr S name = 0) : aget S.names name = none := by
 unfold createErr at he
 cases hd : S.dead
 ·rw [hd] at he
  cases hno : nameOk name
  ·rw [hno] at he; simp at he
  ·rw [hno] at he
   cases hs : aget S.names name with
   | none => rfl
   | some v => rw [hs] at he; simp at he
 ·rw [hd] at he; simp at he
theorem Fit.created (h : Fit C k S) {name : ByteArray} (he : createErr S name = 0) : Fit C (k + 1) (S.created name) := by
 have ha := createErr_zero he
 have h1 := h.last
 have h2 := h.ops
 have h3 := h.chs
 have hu := h.used
 have hq : (((S.last + 1).toNat : Nat) : Int) = S.last + 1 := by omega
 have hnew : S.files (S.last + 1) = none := by
  cases hf : S.files (S.last + 1) with
  | none => rfl
  | some f => have := h.nums _ f hf; omega
 have hnv : (S.last + 1).toNat ∉ S.names.map (·.2) := by
  intro hm
  obtain ⟨y, hy, hy2⟩ := List.mem_map.1 hm
  have hy2 : y.2 = (S.last + 1).toNat := hy2
  obtain ⟨f, k1, _⟩ := h.there y hy
  rw [hy2, hq, hnew] at k1
  cases k1
 unfold St.created
 rw [count_idle (by exact h.armed)]
 have hfl : ∀ m f', (if m = S.last + 1 then some (⟨false, [], [], []⟩ : Fl) else S.files m) = some f' → (m = S.last + 1 ∧ f' = ⟨false, [], [], []⟩) ∨ (m ≠ S.last + 1 ∧ S.files m = some f') := by
  intro m f' hm
  by_cases e : m = S.last + 1
  ·rw [if_pos e] at hm
   injection hm with hm
   exact .inl ⟨e, hm.symm⟩
  ·rw [if_neg e] at hm
   exact .inr ⟨e, hm⟩
 have hmem : ∀ y, y ∈ aput S.names name (S.last + 1).toNat ↔ y ∈ S.names ∨ y = (name, (S.last + 1).toNat) := by
  intro y
  rw [aput_none ha, List.mem_append, List.mem_singleton]
 refine ⟨h.cap, h.dead, h.armed, h.safe, ?_, h.room, aput_nodup h.keys, aput_vals h.keys h.vals hnv, fun y hy => ?_, fun m f' hm hg' => ?_, fun m f' hm => ?_, ⟨by show 0 ≤ S.last + 1; omega, by show S.last + 1 ≤ ((k + 1 : Nat) : Int); omega⟩, ⟨by show 0 ≤ S.ops + 1; omega, by show S.ops + 1 ≤ ((k + 1 : Nat) : Int); omega⟩, by show (S.changes ++ [_]).length ≤ k + 1; simp; omega, fun m f' hm => ?_, by show (aput S.names name (S.last + 1).toNat).length ≤ k + 1; rw [aput_none ha]; have := h.cnt; simp; omega⟩
 ·show S.used = ((sumF (hL (fun m => if m = S.last + 1 then some (⟨false, [], [], []⟩ : Fl) else S.files m)) (aput S.names name (S.last + 1).toNat) : Nat) : Int)
  have e0 : hL (fun m => if m = S.last + 1 then some (⟨false, [], [], []⟩ : Fl) else S.files m) (S.last + 1).toNat = 0 :=
   hL_some (f := ⟨false, [], [], []⟩) (if_pos hq)
  have e1 : sumF (hL S.files) S.names = sumF (hL (fun m => if m = S.last + 1 then some (⟨false, [], [], []⟩ : Fl) else S.files m)) S.names := by
   refine sumF_eq fun y hy => ?_
   obtain ⟨f, k1, _⟩ := h.there y hy
   have := h.nums _ f k1
   rw [hL_some k1]
   exact (hL_some (F := (fun m => if m = S.last + 1 then some (⟨false, [], [], []⟩ : Fl) else S.files m)) ((if_neg (by omega)).trans k1)).symm
  rw [aput_none ha, sumF_append, sumF_cons, hu, e1]
  show _ = ((_ + (hL _ (S.last + 1).toNat + 0) : Nat) : Int)
  rw [e0]
  rfl
 ·rcases (hmem y).1 hy with hy | rfl
  ·obtain ⟨f1, k1, k2⟩ := h.there y hy
   have := h.nums _ f1 k1
   exact ⟨f1, (if_neg (by omega)).trans k1, k2⟩
  ·exact ⟨⟨false, [], [], []⟩, if_pos hq, rfl⟩
 ·show m.toNat ∈ (aput S.names name (S.last + 1).toNat).map (·.2)
  rcases hfl m f' hm with ⟨rfl, rfl⟩ | ⟨_, hm⟩
  ·exact List.mem_map.2 ⟨_, (hmem _).2 (.inr rfl), rfl⟩
  ·obtain ⟨y, hy, hy2⟩ := List.mem_map.1 (h.named m f' hm hg')
   exact List.mem_map.2 ⟨y, (hmem y).2 (.inl hy), hy2⟩
 ·show 0 < m ∧ m ≤ S.last + 1
  rcases hfl m f' hm with ⟨rfl, rfl⟩ | ⟨_, hm⟩
  ·omega
  ·have := h.nums m f' hm
   omega
 ·rcases hfl m f' hm with ⟨rfl, rfl⟩ | ⟨_, hm⟩
  ·refine ⟨?_, rfl, Nat.zero_le _⟩
   have := h.room
   show (0 : Int) ≤ C
   omega
  ·have := h.files m f' hm
   exact ⟨this.1, this.2.1, by omega⟩
end
end Go.Proofs.YtmcmlkglkpbnpaaGreat
namespace Go.Proofs.YtmcmlkglkpbnpaaGreat
open Go.RowKit
section
variable {C : Int} {k : Nat} {S : St}
theorem Fit.pos (h : Fit C k S) {a : ByteArray} {n : Nat} (ha : aget S.names a = some n) : 0 < n ∧ ∃ f, S.files (n : Int) = some f := by
 obtain ⟨f, k1, _⟩ := h.there _ (ag_in ha)
 have := h.nums _ f k1
 have e : (0 : Int) < (n : Int) := this.1
 exact ⟨by omega, f, k1⟩
theorem nameOk_ne {a : ByteArray} (h : nameOk a = true) : a.size ≠ 0 := by
 unfold nameOk at h
 simp at h
 omega
/-! ## Writes -/
def St.appendE (S : St) (n : Int) (m : Nat) : Int := if S.dead then 21 else match S.file n with
 | none => 7
 | some _ => if 0 < m ∧ S.cap < S.used + m then 5 else 0
def St.append (S : St) (n : Int) (p : List UInt8) : St := if S.dead then S else match S.file n with
 | none => S
 | some f => if 0 < p.length ∧ S.cap < S.used + p.length then S else S.wrote n f ⟨false, f.bytes.length, p⟩
theorem append_any (L : Nat → Nat) (g : Nat) (S : St) (n : Int) (A : Option Addr) (m c B : Nat) (p : List UInt8) (w : World) (h : FsAt w L g S) (hF : Fine S) (hr : Rd w B A (u8s p)) (hB : B ≤ w.heap.size) (hm : m = p.length) (hp : p.length ≤ 400000000) :
  Calls Tryz.prog 15 #[.pointer (some ⟨g, 0, none⟩), .int .i64 n, .slice A m c] w (FsPost L g (S.append n p) (.int .i64 (S.appendE n m)) w) := by
 cases hd : S.dead
 ·cases hn : S.file n with
  | none =>
   have e1 : S.append n p = S := by unfold St.append; rw [hd, hn]; rfl
   have e2 : S.appendE n m = 7 := by unfold St.appendE; rw [hd, hn]; rfl
   rw [e1, e2]
   refine (append_none L g S n A m c w h hd hn).mono ?_
   rintro e w' ⟨rfl, rfl⟩
   exact FsPost.same0 h _
  | some f =>
   by_cases hc : 0 < m ∧ S.cap < S.used + m
   ·have e1 : S.append n p = S := by unfold St.append; rw [hd, hn]; show (if 0 < p.length ∧ S.cap < S.used + p.length then S else _) = S; exact if_pos (by rw [hm] at hc; exact hc)
    have e2 : S.appendE n m = 5 := by unfold St.appendE; rw [hd, hn]; exact if_pos hc
    rw [e1, e2]
    refine (append_full L g S n f A m c w h hF hd hn (by omega) hc.1 hc.2).mono ?_
    rintro e w' ⟨rfl, j, rfl⟩
    exact FsPost.same h _ j
   ·have e1 : S.append n p = S.wrote n f ⟨false, f.bytes.length, p⟩ := by unfold St.append; rw [hd, hn]; show (if 0 < p.length ∧ S.cap < S.used + p.length then S else S.wrote n f ⟨false, f.bytes.length, p⟩) = _; exact if_neg (by rw [hm] at hc; exact hc)
    have e2 : S.appendE n m = 0 := by unfold St.appendE; rw [hd, hn]; exact if_neg hc
    rw [e1, e2]
    exact append_ok L g S n f A m c B p w h hF hd hn hr hB hm hp (by omega)
 ·have e1 : S.append n p = S := by unfold St.append; rw [hd]; rfl
  have e2 : S.appendE n m = 21 := by unfold St.appendE; rw [hd]; rfl
  rw [e1, e2]
  refine (append_dead L g S n A m c w h hd).mono ?_
  rintro e w' ⟨rfl, rfl⟩
  exact FsPost.same0 h _
theorem Fit.append (h : Fit C k S) (n : Int) (p : List UInt8) : Fit C (k + 1) (S.append n p) := by
 unfold St.append
 rw [h.dead]
 cases hn : S.file n with
 | none => exact h.more
 | some f =>
  show Fit C (k + 1) (if 0 < p.length ∧ S.cap < S.used + p.length then S else S.wrote n f ⟨false, f.bytes.length, p⟩)
  have hr := h.room
  have hc := h.cap
  split
  ·exact h.more
  ·refine h.wrote hn _ ?_
   have : (doW f.bytes ⟨false, f.bytes.length, p⟩).length = f.bytes.length + p.length := by simp [doW]
   rw [this]
   omega
theorem Fit.write (h : Fit C k S) (n q : Int) (p : List UInt8) : Fit C (k + 1) (S.write n q p) := by
 unfold St.write
 rw [h.dead]
 cases hn : S.file n with
 | none => exact h.more
 | some f =>
  show Fit C (k + 1) (if q < 0 ∨ (f.bytes.length : Int) < q then S else if (f.bytes.length : Int) < q + p.length ∧ S.cap < S.used + (q + p.length - f.bytes.length) then S else S.wrote n f ⟨false, q.toNat, p⟩)
  have hr := h.room
  have hc := h.cap
  split
  ·exact h.more
  ·split
   ·exact h.more
   ·refine h.wrote hn _ ?_
    have : (doW f.bytes ⟨false, q.toNat, p⟩).length = max f.bytes.length (q.toNat + p.length) := by simp [doW]; omega
    rw [this]
    omega
theorem Fit.cut (h : Fit C k S) (n q : Int) : Fit C (k + 1) (S.cut n q) := by
 unfold St.cut
 rw [h.dead]
 cases hn : S.file n with
 | none => exact h.more
 | some f =>
  show Fit C (k + 1) (if q < 0 ∨ (f.bytes.length : Int) < q then S else S.wrote n f ⟨true, q.toNat, []⟩)
  have hr := h.room
  split
  ·exact h.more
  ·refine h.wrote hn _ ?_
   rw [doW_cut]
   simp
   omega
/-! ## The same as itself -/
theorem Fit.isSome (h : Fit C k S) : ∀ x ∈ S.names, (S.files (x.2 : Int)).isSome := fun x hx => by
 obtain ⟨f, hf, _⟩ := h.there x hx
 rw [hf]
 rfl
end
end Go.Proofs.YtmcmlkglkpbnpaaGreat
