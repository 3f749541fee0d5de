/-
  Whether two files are the same: bytes.Equal, sameWrite, sameChange.
-/
import Derived.Test.YtccapgcpdehicaaQaj
import Derived.Test.YtccapgcpdehicaaQaa
import Derived.Lib.AppendStr

namespace Go.Proofs.Ytccapgcpdehicaa
open Go.RowKit

theorem BsAt.ne {w : World} {own : Nat → Prop} {v : Value} {xs : List UInt8} {fb : Nat} {fv : FlV} (h : BsAt w own v xs) (hf : FlB w fb fv) : BsAt w (fun i => own i ∧ i ≠ fb) v xs := by
  rcases h with h | ⟨h0, g', cap, cur, h1, h2, h3, h4⟩
  · exact .inl h
  · refine .inr ⟨h0, g', cap, cur, h1, ⟨h2, fun e => ?_⟩, h3, h4⟩
    have hf' : w.heap[fb]? = _ := hf
    rw [← e, h3] at hf'
    injection hf' with hf'
    injection hf' with _ hf'
    exact absurd hf' (by decide)
theorem WsAt.ne {w : World} {own rd : Nat → Prop} {v : Value} {ws : List Wr} {fb : Nat} {fv : FlV} (h : WsAt w own rd v ws) (hf : FlB w fb fv) : WsAt w (fun i => own i ∧ i ≠ fb) (fun i => rd i ∧ i ≠ fb) v ws := by
  obtain ⟨l, rfl, h2, h3, h4⟩ := h
  exact ⟨l, rfl, h2, fun i hi => ⟨h3 i hi, fun e => own_ne h2 hf (by decide) (e ▸ hi)⟩, fun y hy => (h4 y hy).ne hf⟩
/-- A file that has lost its name. -/
theorem FileAt.lost {w w' : World} {own rd : Nat → Prop} {fb : Nat} {f : Fl} {v : FlV} (hv : FlB w fb v) (ho : own fb) (hb : BsAt w own v.vb f.bytes) (hs : BsAt w own v.vs f.safe) (hp : Sep v.vb f.bytes.length v.vs f.safe.length v.shared) (hw : WsAt w own rd v.vw f.waits)
    (hk : ∀ i, own i ∨ rd i → i < w.heap.size → i ≠ fb → w'.heap[i]? = w.heap[i]?) (hv' : FlB w' fb { v with gone := true }) : FileAt w' own rd fb { f with gone := true } :=
  ⟨{ v with gone := true }, hv', ho, rfl, ((hb.ne hv).keep fun i hi hl => hk i (.inl hi.1) hl hi.2).mono (fun _ h => h.1), ((hs.ne hv).keep fun i hi hl => hk i (.inl hi.1) hl hi.2).mono (fun _ h => h.1), hp,
    ((hw.ne hv).keep fun i hi hl => by rcases hi with hi | hi; exact hk i (.inl hi.1) hl hi.2; exact hk i (.inr hi.1) hl hi.2).mono (fun _ _ h => h.1) (fun _ _ h => h.1)⟩

def St.lost (S : St) (n : Nat) : St := match S.files (n : Int) with
  | some f => ({ S with used := S.used - f.bytes.length } : St).setFile (n : Int) { f with gone := true }
  | none => S
/-- What do does. -/
def St.did (S : St) (c : Ch) : St := ({ (if (followL S.names c).2 = 0 then S else S.lost (followL S.names c).2) with names := (followL S.names c).1, changes := S.changes ++ [c] } : St).count
theorem St.did_keep {S : St} {c : Ch} (h : (followL S.names c).2 = 0) : S.did c = ({ S with names := (followL S.names c).1, changes := S.changes ++ [c] } : St).count := by
  unfold St.did
  rw [if_pos h]
theorem St.did_lose {S : St} {c : Ch} {n : Nat} {f : Fl} (h : (followL S.names c).2 = n) (h0 : n ≠ 0) (hf : S.files (n : Int) = some f) :
    S.did c = ({ (({ S with used := S.used - f.bytes.length } : St).setFile (n : Int) { f with gone := true }) with names := (followL S.names c).1, changes := S.changes ++ [c] } : St).count := by
  unfold St.did
  rw [h, if_neg h0]
  unfold St.lost
  rw [hf]

set_option maxRecDepth 100000 in
theorem did_in (L : Nat → Nat) (g : Nat) (S : St) (c : Ch) (w : World) (h : FsAt w L g S) (hF : Fine S) (hN : (followL S.names c).2 ≠ 0 → ∃ f, S.files ((followL S.names c).2 : Int) = some f) :
    Calls Try.prog 28 #[.pointer (some ⟨g, 0, none⟩), .agg #[.string c.src, .string c.dst, .int .i64 (c.file : Int)]] w (FsPost L g (S.did c) (.tuple #[]) w) := by
  obtain ⟨mf, mn, ms, vch, lf, h⟩ := h
  have hvl : ∀ i, vch.ownBlock = some i → i < w.heap.size ∧ L i = 1 := fun i hi => ⟨own_lt h.chs.1 i hi, h.chs.2 i hi⟩
  have hcf : vch.ownBlock ≠ some mf := own_ne_map h.chs.1 h.files
  have hfg : mf ≠ g := map_ne h.files h.blk
  by_cases h0 : (followL S.names c).2 = 0
  · refine (fsdo_keep g _ S.names S.changes c w h.blk h.names h.chs.1 h0 hF.ops hF.armed hF.chs).mono ?_
    rintro e w' ⟨rfl, vch', hv, hn, hc, hb, hT⟩
    have hsz := hT.size
    have ec : ({ S.v mf mn ms vch with vch := vch' } : FsV).count = (S.did c).v mf mn ms vch' := by
      rw [St.did_keep h0, ← St.count_v]
      rfl
    refine ⟨rfl, h.rebuild (fun _ => False) (L' := fun i => if i < w.heap.size then L i else if i < w'.heap.size then 1 else 0) (mf' := mf) (mn' := mn) (ms' := ms) (vch' := vch') (lf' := lf)
      (hT.mono fun i _ hi => .inl ?_) (fun _ _ h => h.elim) (by rw [← ec]; exact hv) (fun i hi => if_pos hi) (fun i hi => ?_) ?_ ?_ ?_ h.ns h.fn h.fs ?_ ?_ ?_ ⟨?_, fun i hi => ?_⟩ (fun n fb hn => .inl ⟨hn, ?_, fun _ _ h => h.elim⟩) (fun n hn => ?_)⟩
    · rcases hi with rfl | rfl | hi
      · exact h.lg
      · exact h.lmn
      · exact (hvl i hi).2
    · by_cases h1 : i < w.heap.size
      · omega
      · by_cases h3 : i < w'.heap.size
        · exact h3
        · simp [h1, h3] at hi
    · show (if mf < w.heap.size then L mf else _) = 1
      rw [if_pos h.files.lt]; exact h.lmf
    · show (if mn < w.heap.size then L mn else _) = 1
      rw [if_pos h.names.lt]; exact h.lmn
    · show (if ms < w.heap.size then L ms else _) = 1
      rw [if_pos h.safe.lt]; exact h.lms
    · refine h.files.keep (hT.block mf h.files.lt fun hh => ?_)
      rcases hh with hh | hh | hh
      · exact hfg hh
      · exact h.fn hh
      · exact hcf hh
    · rw [St.did_keep h0, St.count_names]
      exact hn
    · rw [St.did_keep h0, St.count_safe]
      refine h.safe.keep (hT.block ms h.safe.lt fun hh => ?_)
      rcases hh with hh | hh | hh
      · exact map_ne h.safe h.blk hh
      · exact h.ns hh.symm
      · exact own_ne_map h.chs.1 h.safe hh
    · rw [St.did_keep h0, St.count_changes]
      exact hc
    · show (if i < w.heap.size then L i else if i < w'.heap.size then 1 else 0) = 1
      rcases hb with hb | ⟨j, hj, hj2⟩
      · rw [hb] at hi
        rw [if_pos (hvl i hi).1]
        exact (hvl i hi).2
      · rw [hj] at hi
        injection hi with hi
        subst hi
        have := own_lt hc j hj
        rw [if_neg (by omega), if_pos this]
    · rw [St.did_keep h0, St.count_files]
    · rw [St.did_keep h0, St.count_files]
      exact h.no n hn
  · obtain ⟨f, hf⟩ := hN h0
    obtain ⟨n, hnE⟩ : ∃ n, n = (followL S.names c).2 := ⟨_, rfl⟩
    rw [← hnE] at h0 hf
    have hF' := hF.files _ f hf
    cases hl : aget lf (n : Int) with
    | none => rw [h.no _ hl] at hf; cases hf
    | some fb =>
    obtain ⟨hn0, f', hf', fv, hfl, hof, hgo, hbb, hbs, hsep, hws⟩ := h.at_ _ fb hl
    rw [hf] at hf'
    injection hf' with hf'
    subst hf'
    obtain ⟨A1, c1, hvb, _, _⟩ := hbb.form
    have hof' : L fb = n + 3 := hof
    refine (fsdo_lose g fb n f.bytes.length c1 A1 _ fv S.names lf S.changes c w h.blk h.names h.files h.chs.1 hnE.symm (by omega) hl hfl hvb (by omega) (by have := hF.used; show -2000000000000000 ≤ S.used ∧ S.used ≤ 2000000000000000; omega) h.fn hF.ops hF.armed hF.chs).mono ?_
    rintro e w' ⟨rfl, vch', hv, hfl', hn, hc, hb, hT⟩
    have hsz := hT.size
    have hd := St.did_lose hnE.symm h0 hf
    have ec : ({ S.v mf mn ms vch with used := (S.v mf mn ms vch).used - (f.bytes.length : Int), vch := vch' } : FsV).count = (S.did c).v mf mn ms vch' := by
      rw [hd, ← St.count_v]
      rfl
    have hfbl := hfl.lt
    refine ⟨rfl, h.rebuild (fun i => i = fb) (L' := fun i => if i < w.heap.size then L i else if i < w'.heap.size then 1 else 0) (mf' := mf) (mn' := mn) (ms' := ms) (vch' := vch') (lf' := lf)
      (hT.mono fun i _ hi => ?_) (fun i _ hi => by rw [hi, hof']; omega) (by rw [← ec]; exact hv) (fun i hi => if_pos hi) (fun i hi => ?_) ?_ ?_ ?_ h.ns h.fn h.fs ?_ ?_ ?_ ⟨?_, fun i hi => ?_⟩ (fun m fm hm => ?_) (fun m hm => ?_)⟩
    · rcases hi with rfl | rfl | rfl | hi
      · exact .inl h.lg
      · exact .inr rfl
      · exact .inl h.lmn
      · exact .inl (hvl i hi).2
    · by_cases h1 : i < w.heap.size
      · omega
      · by_cases h3 : i < w'.heap.size
        · exact h3
        · simp [h1, h3] at hi
    · show (if mf < w.heap.size then L mf else _) = 1
      rw [if_pos h.files.lt]; exact h.lmf
    · show (if mn < w.heap.size then L mn else _) = 1
      rw [if_pos h.names.lt]; exact h.lmn
    · show (if ms < w.heap.size then L ms else _) = 1
      rw [if_pos h.safe.lt]; exact h.lms
    · refine h.files.keep (hT.block mf h.files.lt fun hh => ?_)
      rcases hh with hh | hh | hh | hh
      · exact hfg hh
      · exact map_ne h.files hfl hh
      · exact h.fn hh
      · exact hcf hh
    · rw [hd, St.count_names]
      exact hn
    · rw [hd, St.count_safe]
      refine h.safe.keep (hT.block ms h.safe.lt fun hh => ?_)
      rcases hh with hh | hh | hh | hh
      · exact map_ne h.safe h.blk hh
      · exact map_ne h.safe hfl hh
      · exact h.ns hh.symm
      · exact own_ne_map h.chs.1 h.safe hh
    · rw [hd, St.count_changes]
      exact hc
    · show (if i < w.heap.size then L i else if i < w'.heap.size then 1 else 0) = 1
      rcases hb with hb | ⟨j, hj, hj2⟩
      · rw [hb] at hi
        rw [if_pos (hvl i hi).1]
        exact (hvl i hi).2
      · rw [hj] at hi
        injection hi with hi
        subst hi
        have := own_lt hc j hj
        rw [if_neg (by omega), if_pos this]
    · rw [hd, St.count_files]
      by_cases hmn : m = (n : Int)
      · subst hmn
        rw [hl] at hm
        injection hm with hm
        subst hm
        refine .inr ⟨hn0, { f with gone := true }, if_pos rfl, (FileAt.lost hfl hof hbb hbs hsep hws (fun i hi hil hne => hT.block i hil fun hh => ?_) hfl').mono (fun i hil hi => ?_) (fun i hil hi => ?_)⟩
        · rcases hh with hh | hh | hh | hh
          · rcases hi with hi | hi <;> rw [hh, h.lg] at hi <;> omega
          · exact hne hh
          · have := h.lmn
            rcases hi with hi | hi <;> rw [hh] at hi
            · have hi' : L mn = _ := hi
              omega
            · have hi' : L mn = 2 := hi
              omega
          · have := (hvl i hh).2
            rcases hi with hi | hi
            · have hi' : L i = _ := hi
              omega
            · have hi' : L i = 2 := hi
              omega
        · show (if i < w.heap.size then L i else _) = _
          have hi' : L i = (n : Int).toNat + 3 := hi
          rw [if_pos (h.lt i (by omega))]
          exact hi
        · show (if i < w.heap.size then L i else _) = _
          have hi' : L i = 2 := hi
          rw [if_pos (h.lt i (by omega))]
          exact hi
      · refine .inl ⟨hm, by show (if m = (n : Int) then _ else S.files m) = _; rw [if_neg hmn], fun i _ hi => ?_⟩
        obtain ⟨hm0, _⟩ := h.at_ _ fm hm
        rw [hi, hof']
        omega
    · rw [hd, St.count_files]
      show (if m = (n : Int) then _ else S.files m) = none
      have hmn : ¬ m = (n : Int) := fun e => by rw [e, hl] at hm; cases hm
      rw [if_neg hmn]
      exact h.no m hm

end Go.Proofs.Ytccapgcpdehicaa

namespace Go.Proofs.Ytccapgcpdehicaa
open Go.RowKit

theorem Moved.grown {L : Nat → Nat} {w w' : World} (hg : w.grownBy w' none) : Moved L w L w' := ⟨Turned.of_gb hg (by simp), fun _ _ => rfl⟩
theorem FsAt.grown {L : Nat → Nat} {g : Nat} {S : St} {w w' : World} (h : FsAt w L g S) (hg : w.grownBy w' none) : FsAt w' L g S := h.keep (Turned.of_gb (M := fun _ => False) hg (by simp)) (fun _ _ h => h)

def askErr (S : St) (l : List ByteArray) (a : ByteArray) : Int := if S.dead then 21 else if l.all nameOk = false then 20 else if aget S.names a = none then 7 else 0

/-- What ready and the look-up of a name tell, at a world in which a row of names was laid. -/
structure Asked (L : Nat → Nat) (g : Nat) (S : St) (l : List ByteArray) (a : ByteArray) (A : Option Addr) (wa : World) : Prop where
  ready : Calls Try.prog 27 #[.pointer (some ⟨g, 0, none⟩), .slice A l.length l.length] wa fun e w' => e = .returned (.int .i64 (readyErr S.dead l)) ∧ wa = w'
  look : ∃ mn, wa.cell? ⟨g, 4, none⟩ = some (.map (some mn)) ∧ (Instr.lookup 61 (.map (some mn)) (.string a) true).run Try.prog wa = .ok (.tuple #[.int .i64 (((aget S.names a).getD 0 : Nat) : Int), .bool (aget S.names a).isSome]) wa
theorem FsAt.asked {L : Nat → Nat} {g : Nat} {S : St} {w : World} (h : FsAt w L g S) (l : List ByteArray) (a : ByteArray) (hl : l.length ≤ 1000) (A : Option Addr) (hr : Rd w w.heap.size A (strs l)) : Asked L g S l a A w := by
  obtain ⟨mf, mn, ms, vch, lf, h⟩ := h
  exact ⟨ready_any g _ A l.length _ l w h.blk hr hl, mn, h.blk.c4, look_ok h.names a⟩

set_option maxHeartbeats 4000000 in
set_option maxRecDepth 100000 in
theorem rename_bad (L : Nat → Nat) (g : Nat) (S : St) (a b : ByteArray) (w : World) (h : FsAt w L g S) (he : askErr S [a, b] a ≠ 0) :
    Calls Try.prog 43 #[.pointer (some ⟨g, 0, none⟩), .string a, .string b] w fun e w' => e = .returned (.int .i64 (askErr S [a, b] a)) ∧ w.grownBy w' none := by
  obtain ⟨wa, hwaE⟩ : ∃ wa, wa = w.alloc (.cells #[.string a, .string b] 9) := ⟨_, rfl⟩
  have hga : w.grownBy wa none := by rw [hwaE]; exact gb_alloc (gb_refl w none) _
  have hrd : Rd wa wa.heap.size (some ⟨w.heap.size, 0, none⟩) (strs [a, b]) := by rw [hwaE]; exact (Rd.new w #[.string a, .string b] 9 _ rfl).more (by simp)
  obtain ⟨hr, mn, q4, hlk⟩ := (h.grown hga).asked [a, b] a (by simp) _ hrd
  have HWE := hide hwaE
  have HG := hide hga
  cases hd : S.dead
  · cases hno : [a, b].all nameOk
    · have e1 : askErr S [a, b] a = 20 := by simp only [askErr, hd, hno]; rfl
      rw [hd, readyErr_no hno] at hr
      have HR := hide hr
      have E1 := hide e1
      clear h hr hga hrd hwaE hd hno e1 hlk he q4
      go_enter Try.func43, Try.ntmps43
      go_wp2_with fail
      rw [← HWE.out]
      refine HR.out.mono ?_
      rintro e w1 ⟨rfl, rfl⟩
      go_wp2
      go_ret
      exact ⟨by rw [E1.out]; rfl, HG.out⟩
    · rw [hd, readyErr_ok hno] at hr
      have hs : aget S.names a = none := by
        refine Classical.byContradiction fun hc => he ?_
        simp only [askErr, hd, hno]
        simp [hc]
      have e1 : askErr S [a, b] a = 7 := by
        simp only [askErr, hd, hno]
        simp [hs]
      rw [hs] at hlk
      have HR := hide hr
      have E1 := hide e1
      clear h hr hga hrd hwaE hd hno e1 he hs
      go_enter Try.func43, Try.ntmps43
      go_wp2_with fail
      rw [← HWE.out]
      refine HR.out.mono ?_
      rintro e w1 ⟨rfl, rfl⟩
      go_wp2
      go_ret
      exact ⟨by rw [E1.out]; rfl, HG.out⟩
  · have e1 : askErr S [a, b] a = 21 := by simp only [askErr, hd]; rfl
    rw [hd] at hr
    have HR := hide hr
    have E1 := hide e1
    clear h hr hga hrd hwaE hd e1 hlk he q4
    go_enter Try.func43, Try.ntmps43
    go_wp2_with fail
    rw [← HWE.out]
    refine HR.out.mono ?_
    rintro e w1 ⟨rfl, rfl⟩
    go_wp2
    go_ret
    exact ⟨by rw [E1.out]; rfl, HG.out⟩

theorem askErr_zero {S : St} {l : List ByteArray} {a : ByteArray} (he : askErr S l a = 0) : S.dead = false ∧ l.all nameOk = true ∧ ∃ n, aget S.names a = some n := by
  unfold askErr at he
  cases hd : S.dead
  · rw [hd] at he
    cases hno : l.all nameOk
    · rw [hno] at he
      simp at he
    · rw [hno] at he
      cases hs : aget S.names a with
      | none => rw [hs] at he; simp at he
      | some n => exact ⟨rfl, rfl, n, rfl⟩
  · rw [hd] at he
    simp at he

set_option maxHeartbeats 4000000 in
set_option maxRecDepth 100000 in
theorem rename_ok (L : Nat → Nat) (g : Nat) (S : St) (a b : ByteArray) (w : World) (h : FsAt w L g S) (he : askErr S [a, b] a = 0) (hF : Fine S) (hN : (followL S.names ⟨a, b, 0⟩).2 ≠ 0 → ∃ f, S.files ((followL S.names ⟨a, b, 0⟩).2 : Int) = some f) :
    Calls Try.prog 43 #[.pointer (some ⟨g, 0, none⟩), .string a, .string b] w (FsPost L g (S.did ⟨a, b, 0⟩) (.int .i64 0) w) := by
  obtain ⟨wa, hwaE⟩ : ∃ wa, wa = w.alloc (.cells #[.string a, .string b] 9) := ⟨_, rfl⟩
  have hga : w.grownBy wa none := by rw [hwaE]; exact gb_alloc (gb_refl w none) _
  have hrd : Rd wa wa.heap.size (some ⟨w.heap.size, 0, none⟩) (strs [a, b]) := by rw [hwaE]; exact (Rd.new w #[.string a, .string b] 9 _ rfl).more (by simp)
  obtain ⟨hr, mn, q4, hlk⟩ := (h.grown hga).asked [a, b] a (by simp) _ hrd
  obtain ⟨hd, hno, n, hs⟩ := askErr_zero he
  rw [hd, readyErr_ok hno] at hr
  rw [hs] at hlk
  have hdo : Calls Try.prog 28 #[.pointer (some ⟨g, 0, none⟩), .agg #[.string a, .string b, .int .i64 0]] wa (FsPost L g (S.did ⟨a, b, 0⟩) (.tuple #[]) wa) := did_in L g S ⟨a, b, 0⟩ wa (h.grown hga) hF hN
  have HWE := hide hwaE
  have HG := hide hga
  have HR := hide hr
  have HDO := hide hdo
  clear h hr hga hrd hwaE hd hno he hs hdo hF hN
  go_enter Try.func43, Try.ntmps43
  go_wp2_with fail
  rw [← HWE.out]
  refine HR.out.mono ?_
  rintro e w1 ⟨rfl, rfl⟩
  go_wp2_with (go_at_call 28; refine HDO.out.mono ?_; rintro e w2 ⟨rfl, hp⟩; have HP := hide hp; clear hp)
  go_ret
  obtain ⟨L', h1, h2⟩ := HP.out
  exact ⟨rfl, L', h1, (Moved.grown HG.out).trans h2⟩

def openVal (S : St) (a : ByteArray) : Int := if askErr S [a] a = 0 then (((aget S.names a).getD 0 : Nat) : Int) else 0

set_option maxHeartbeats 4000000 in
set_option maxRecDepth 100000 in
theorem open_any (L : Nat → Nat) (g : Nat) (S : St) (a : ByteArray) (w : World) (h : FsAt w L g S) :
    Calls Try.prog 41 #[.pointer (some ⟨g, 0, none⟩), .string a] w fun e w' => e = .returned (.tuple #[.int .i64 (openVal S a), .int .i64 (askErr S [a] a)]) ∧ w.grownBy w' none := by
  obtain ⟨wa, hwaE⟩ : ∃ wa, wa = w.alloc (.cells #[.string a] 9) := ⟨_, rfl⟩
  have hga : w.grownBy wa none := by rw [hwaE]; exact gb_alloc (gb_refl w none) _
  have hrd : Rd wa wa.heap.size (some ⟨w.heap.size, 0, none⟩) (strs [a]) := by rw [hwaE]; exact (Rd.new w #[.string a] 9 _ rfl).more (by simp)
  obtain ⟨hr, mn, q4, hlk⟩ := (h.grown hga).asked [a] a (by simp) _ hrd
  have HWE := hide hwaE
  have HG := hide hga
  cases hd : S.dead
  · cases hno : [a].all nameOk
    · have e1 : askErr S [a] a = 20 := by simp only [askErr, hd, hno]; rfl
      rw [hd, readyErr_no hno] at hr
      have HR := hide hr
      have E1 := hide e1
      clear h hr hga hrd hwaE hd hno e1 hlk q4
      go_enter Try.func41, Try.ntmps41
      go_wp2_with fail
      rw [← HWE.out]
      refine HR.out.mono ?_
      rintro e w1 ⟨rfl, rfl⟩
      go_wp2
      go_ret2
      exact ⟨by unfold openVal; rw [E1.out]; rfl, HG.out⟩
    · rw [hd, readyErr_ok hno] at hr
      have HR := hide hr
      cases hs : aget S.names a with
      | none =>
        have e1 : askErr S [a] a = 7 := by
          simp only [askErr, hd, hno]
          simp [hs]
        rw [hs] at hlk
        have E1 := hide e1
        clear h hr hga hrd hwaE hd hno e1 hs
        go_enter Try.func41, Try.ntmps41
        go_wp2_with fail
        rw [← HWE.out]
        refine HR.out.mono ?_
        rintro e w1 ⟨rfl, rfl⟩
        go_wp2
        go_ret2
        exact ⟨by unfold openVal; rw [E1.out]; rfl, HG.out⟩
      | some n =>
        have e1 : askErr S [a] a = 0 := by
          simp only [askErr, hd, hno]
          simp [hs]
        rw [hs] at hlk
        have E1 := hide e1
        have HS := hide hs
        clear h hr hga hrd hwaE hd hno e1 hs
        go_enter Try.func41, Try.ntmps41
        go_wp2_with fail
        rw [← HWE.out]
        refine HR.out.mono ?_
        rintro e w1 ⟨rfl, rfl⟩
        go_wp2
        go_ret2
        exact ⟨by unfold openVal; rw [E1.out, HS.out]; rfl, HG.out⟩
  · have e1 : askErr S [a] a = 21 := by simp only [askErr, hd]; rfl
    rw [hd] at hr
    have HR := hide hr
    have E1 := hide e1
    clear h hr hga hrd hwaE hd e1 hlk q4
    go_enter Try.func41, Try.ntmps41
    go_wp2_with fail
    rw [← HWE.out]
    refine HR.out.mono ?_
    rintro e w1 ⟨rfl, rfl⟩
    go_wp2
    go_ret2
    exact ⟨by unfold openVal; rw [E1.out]; rfl, HG.out⟩

/-! ## what a dead file system answers -/
def St.arm (S : St) (n : Int) : St := { S with armed := max n 0, dead := S.dead || n == 0 }
theorem armed_in (L : Nat → Nat) (g : Nat) (S : St) (n : Int) (wx : World) (h : FsAt wx L g S) :
    Calls Try.prog 18 #[.pointer (some ⟨g, 0, none⟩), .int .i64 n] wx (FsPost L g (S.arm n) (.tuple #[]) wx) := by
  obtain ⟨mf, mn, ms, vch, lf, h1⟩ := h
  refine (arm_any g _ n wx h1.blk).mono ?_
  rintro e w' ⟨rfl, hv, hg⟩
  refine ⟨rfl, ?_⟩
  have hsz := hg.size
  have hne : ∀ i, i ≠ g → (some i : Option Nat) ≠ some g := fun i hi e => hi (by injection e)
  exact h1.rebuild (S' := S.arm n) (fun _ => False) (L' := L) (mf' := mf) (mn' := mn) (ms' := ms) (vch' := vch) (lf' := lf)
      ((Turned.of_gb (M := fun i => i = g) hg (fun i e => by injection e with e; exact e.symm)).mono fun i _ hi => .inl (hi ▸ h1.lg)) (fun _ _ h => h.elim) hv (fun _ _ => rfl) (fun i hi => Nat.lt_of_lt_of_le (h1.lt i hi) hsz) h1.lmf h1.lmn h1.lms h1.ns h1.fn h1.fs
      (h1.files.grown hg (hne _ (map_ne h1.files h1.blk))) (h1.names.grown hg (hne _ (map_ne h1.names h1.blk))) (h1.safe.grown hg (hne _ (map_ne h1.safe h1.blk)))
      ⟨own_keep h1.chs.1 fun i hi hl => hg.block i hl (fun e => own_ne h1.chs.1 h1.blk (by decide) (by injection e with e; rw [hi, e])), h1.chs.2⟩ (fun n fb hn => .inl ⟨hn, rfl, fun _ _ h => h.elim⟩) (fun n hn => h1.no n hn)

set_option maxHeartbeats 1000000 in
set_option maxRecDepth 100000 in
theorem sync_bad (L : Nat → Nat) (g : Nat) (S : St) (n : Int) (x : Int) (w : World) (h : FsAt w L g S) (hx : (S.dead = true ∧ x = 21) ∨ (S.dead = false ∧ S.file n = none ∧ x = 7)) :
    Calls Try.prog 13 #[.pointer (some ⟨g, 0, none⟩), .int .i64 n] w fun e w' => e = .returned (.int .i64 x) ∧ w = w' := by
  obtain ⟨mf, mn, ms, vch, lf, h⟩ := h
  rcases hx with ⟨hd, rfl⟩ | ⟨hd, hn, rfl⟩
  · have HFD := hide (h.find_dead n hd)
    clear h hd
    go_enter Try.func13, Try.ntmps13
    go_wp2_with (go_at_call 29; refine HFD.out.mono ?_; rintro e w1 ⟨rfl, rfl⟩)
    go_ret
    exact ⟨rfl, rfl⟩
  · have HFD := hide (h.find_none hd hn)
    clear h hd hn
    go_enter Try.func13, Try.ntmps13
    go_wp2_with (go_at_call 29; refine HFD.out.mono ?_; rintro e w1 ⟨rfl, rfl⟩)
    go_ret
    exact ⟨rfl, rfl⟩

set_option maxHeartbeats 1000000 in
set_option maxRecDepth 100000 in
theorem syncdir_dead (L : Nat → Nat) (g : Nat) (S : St) (w : World) (h : FsAt w L g S) (hd : S.dead = true) :
    Calls Try.prog 14 #[.pointer (some ⟨g, 0, none⟩)] w fun e w' => e = .returned (.int .i64 21) ∧ w = w' := by
  obtain ⟨mf, mn, ms, vch, lf, h⟩ := h
  have hr := ready_any g _ none 0 0 [] w h.blk Rd.nil_ (by simp)
  rw [show (S.v mf mn ms vch).dead = S.dead from rfl, hd] at hr
  have HR := hide hr
  clear h hr hd
  go_enter Try.func14, Try.ntmps14
  go_wp2_with (go_at_call 27; refine HR.out.mono ?_; rintro e w1 ⟨rfl, rfl⟩)
  go_ret
  exact ⟨rfl, rfl⟩

end Go.Proofs.Ytccapgcpdehicaa

namespace Go.Proofs.Ytccapgcpdehicaa
open Go.RowKit

theorem FsPost.same {L : Nat → Nat} {g : Nat} {S : St} {w : World} (h : FsAt w L g S) (v : Value) (j : Nat) : FsPost L g S v w (.returned v) (w.drewN j) := ⟨rfl, L, h.drewN j, (Moved.refl L w).drewN j⟩
theorem FsPost.same0 {L : Nat → Nat} {g : Nat} {S : St} {w : World} (h : FsAt w L g S) (v : Value) : FsPost L g S v w (.returned v) w := ⟨rfl, L, h, Moved.refl L w⟩

/-! ## Cut -/
def St.cutE (S : St) (n k : Int) : Int := if S.dead then 21 else match S.file n with
  | none => 7
  | some f => if k < 0 ∨ (f.bytes.length : Int) < k then 2 else 0
def St.cut (S : St) (n k : Int) : St := if S.dead then S else match S.file n with
  | none => S
  | some f => if k < 0 ∨ (f.bytes.length : Int) < k then S else S.wrote n f ⟨true, k.toNat, []⟩

theorem doW_cut (b : List UInt8) (k : Nat) : doW b ⟨true, k, []⟩ = b.take k := by simp [doW]

theorem cut_alter {w : World} {L : Nat → Nat} {g : Nat} {S : St} {mf mn ms : Nat} {vch : Value} {lf : List (Int × Nat)} {n : Int} {fb : Nat} {f : Fl} (h : FsIn w L g S mf mn ms vch lf) (hF : Fine S) (hn : aget lf n = some fb) (hfi : S.files n = some f)
    (hfa : FileAt w (fun i => L i = n.toNat + 3) (fun i => L i = 2) fb f) (k : Nat) (hk : k ≤ f.bytes.length) :
    Calls Try.prog 57 #[.pointer (some ⟨g, 0, none⟩), .pointer (some ⟨fb, 0, none⟩), .agg #[.bool true, .int .i64 (k : Int), .slice none 0 0]] w (FsPost L g (S.wrote n f ⟨true, k, []⟩) (.tuple #[]) w) := by
  have hb := hF.files n f hfi
  refine (alter_any g fb (S.v mf mn ms vch) _ _ f ⟨true, k, []⟩ (.slice none 0 0) w h.blk hfa BsAt.nil_ hk (fun i hi => ⟨by omega, h.lt i (by omega), fun e => by rw [e, h.lg] at hi; omega⟩) (fun i hi => ⟨h.lt i (by omega), fun e => by rw [e, h.lg] at hi; omega⟩)
    (by simp; omega) hb.2.2 hF.used hF.ops hF.armed (by rw [doW_cut]; simp; omega)).mono ?_
  rintro e w' ⟨rfl, h1, h2, h3⟩
  have he : PutPost g fb (S.v mf mn ms vch) (fun i => L i = n.toNat + 3) (fun i => L i = 2) f ⟨true, k, []⟩ w (.returned (.int .i64 0)) w' := ⟨rfl, h1, h3, w.heap.size, Nat.le_refl _, h3.size, h2.mono (fun _ _ h => h) (fun _ _ h => .inl h)⟩
  exact ⟨rfl, h.wrote hn he⟩

set_option maxHeartbeats 2000000 in
set_option maxRecDepth 100000 in
theorem cut_any (L : Nat → Nat) (g : Nat) (S : St) (n k : Int) (w : World) (h : FsAt w L g S) (hF : Fine S) :
    Calls Try.prog 71 #[.pointer (some ⟨g, 0, none⟩), .int .i64 n, .int .i64 k] w (FsPost L g (S.cut n k) (.int .i64 (S.cutE n k)) w) := by
  have H := hide h
  obtain ⟨mf, mn, ms, vch, lf, h⟩ := h
  cases hd : S.dead
  · cases hn : S.file n with
    | none =>
      have e1 : S.cutE n k = 7 := by unfold St.cutE; rw [hd, hn]; rfl
      have e2 : S.cut n k = S := by unfold St.cut; rw [hd, hn]; rfl
      rw [e1, e2]
      have HFD := hide (h.find_none hd hn)
      clear h hd hn e1 e2 hF
      go_enter Try.func71, Try.ntmps71
      go_wp2_with (go_at_call 29; refine HFD.out.mono ?_; rintro e w1 ⟨rfl, rfl⟩)
      go_ret
      exact FsPost.same0 H.out _
    | some f =>
      obtain ⟨fb, h1, h2, h3, h4⟩ := h.find_some hd hn
      have HFD := hide h4
      have hfa := h2
      obtain ⟨fv, hfl, _, _, hbb, _⟩ := h2
      obtain ⟨A1, c1, hv, hnc, hcm⟩ := hbb.form
      unfold maxLen at hcm
      have q1 := hfl.c1
      rw [hv] at q1
      by_cases hk : k < 0 ∨ (f.bytes.length : Int) < k
      · have e1 : S.cutE n k = 2 := by unfold St.cutE; rw [hd, hn]; simp [hk]
        have e2 : S.cut n k = S := by unfold St.cut; rw [hd, hn]; simp [hk]
        rw [e1, e2]
        rcases hk with hk | hk
        · clear h hd hn e1 e2 hF hfl hbb hv h4 hfa h1 h3
          go_enter Try.func71, Try.ntmps71
          go_wp2_with (go_at_call 29; refine HFD.out.mono ?_; rintro e w1 ⟨rfl, rfl⟩)
          go_ret
          exact FsPost.same0 H.out _
        · have hk0 : ¬ k < 0 := by omega
          clear h hd hn e1 e2 hF hfl hbb hv h4 hfa h1 h3
          go_enter Try.func71, Try.ntmps71
          go_wp2_with (go_at_call 29; refine HFD.out.mono ?_; rintro e w1 ⟨rfl, rfl⟩)
          go_ret
          exact FsPost.same0 H.out _
      · have e1 : S.cutE n k = 0 := by unfold St.cutE; rw [hd, hn]; simp [hk]
        have e2 : S.cut n k = S.wrote n f ⟨true, k.toNat, []⟩ := by unfold St.cut; rw [hd, hn]; simp [hk]
        rw [e1, e2]
        have hk0 : ¬ k < 0 := by omega
        have hk1 : ¬ (f.bytes.length : Int) < k := by omega
        obtain ⟨j, rfl⟩ : ∃ j : Nat, k = (j : Int) := ⟨k.toNat, by omega⟩
        have HAL := hide (cut_alter h hF h1 (St.file_some hn).1 hfa j (by omega))
        have ej : (j : Int).toNat = j := by omega
        rw [ej]
        clear h hd hn e1 e2 hF hfl hbb hv h4 hfa h1 h3 hk ej hk0
        go_enter Try.func71, Try.ntmps71
        go_wp2_with (first
          | (go_at_call 29; refine HFD.out.mono ?_; rintro e w1 ⟨rfl, rfl⟩)
          | (go_at_call 57; refine HAL.out.mono ?_; rintro e w2 ⟨rfl, hp⟩; have HP := hide hp; clear hp))
        go_ret
        exact ⟨rfl, HP.out⟩
  · have e1 : S.cutE n k = 21 := by unfold St.cutE; rw [hd]; rfl
    have e2 : S.cut n k = S := by unfold St.cut; rw [hd]; rfl
    rw [e1, e2]
    have HFD := hide (h.find_dead n hd)
    clear h hd e1 e2 hF
    go_enter Try.func71, Try.ntmps71
    go_wp2_with (go_at_call 29; refine HFD.out.mono ?_; rintro e w1 ⟨rfl, rfl⟩)
    go_ret
    exact FsPost.same0 H.out _

/-! ## Write -/
def St.writeE (S : St) (n k : Int) (m : Nat) : Int := if S.dead then 21 else match S.file n with
  | none => 7
  | some f => if k < 0 ∨ (f.bytes.length : Int) < k then 2 else if (f.bytes.length : Int) < k + m ∧ S.cap < S.used + (k + m - f.bytes.length) then 5 else 0
def St.write (S : St) (n k : Int) (p : List UInt8) : St := if S.dead then S else match S.file n with
  | none => S
  | some f => if k < 0 ∨ (f.bytes.length : Int) < k then S else if (f.bytes.length : Int) < k + p.length ∧ S.cap < S.used + (k + p.length - f.bytes.length) then S else S.wrote n f ⟨false, k.toNat, p⟩

set_option maxHeartbeats 2000000 in
set_option maxRecDepth 100000 in
theorem write_any (L : Nat → Nat) (g : Nat) (S : St) (n k : Int) (A : Option Addr) (m c B : Nat) (p : List UInt8) (w : World) (h : FsAt w L g S) (hF : Fine S) (hr : Rd w B A (u8s p)) (hB : B ≤ w.heap.size) (hm : m = p.length) (hp : p.length ≤ 400000000) :
    Calls Try.prog 68 #[.pointer (some ⟨g, 0, none⟩), .int .i64 n, .int .i64 k, .slice A m c] w (FsPost L g (S.write n k p) (.int .i64 (S.writeE n k m)) w) := by
  have H := hide h
  obtain ⟨mf, mn, ms, vch, lf, h⟩ := h
  cases hd : S.dead
  · cases hn : S.file n with
    | none =>
      have e1 : S.writeE n k m = 7 := by unfold St.writeE; rw [hd, hn]; rfl
      have e2 : S.write n k p = S := by unfold St.write; rw [hd, hn]; rfl
      rw [e1, e2]
      have HFD := hide (h.find_none hd hn)
      clear h hd hn e1 e2 hF hr hm
      go_enter Try.func68, Try.ntmps68
      go_wp2_with (go_at_call 29; refine HFD.out.mono ?_; rintro e w1 ⟨rfl, rfl⟩)
      go_ret
      exact FsPost.same0 H.out _
    | some f =>
      obtain ⟨fb, h1, h2, h3, h4⟩ := h.find_some hd hn
      have HFD := hide h4
      have hb := hF.files n f (St.file_some hn).1
      by_cases hk : k < 0 ∨ (f.bytes.length : Int) < k
      · have e1 : S.writeE n k m = 2 := by unfold St.writeE; rw [hd, hn]; simp [hk]
        have e2 : S.write n k p = S := by unfold St.write; rw [hd, hn]; simp [hk]
        rw [e1, e2]
        have HPA := hide (put_arg g fb _ _ f k A m c w h2 hk)
        clear h hd hn e1 e2 hF hr hm h4 h1 h2 h3 hk hb
        go_enter Try.func68, Try.ntmps68
        go_wp2_with (first
          | (go_at_call 29; refine HFD.out.mono ?_; rintro e w1 ⟨rfl, rfl⟩)
          | (go_at_call 30; refine HPA.out.mono ?_; rintro e w1 ⟨rfl, rfl⟩))
        go_ret
        exact FsPost.same0 H.out _
      · obtain ⟨j, rfl⟩ : ∃ j : Nat, k = (j : Int) := ⟨k.toNat, by omega⟩
        by_cases hc : (f.bytes.length : Int) < (j : Int) + m ∧ S.cap < S.used + ((j : Int) + m - f.bytes.length)
        · have e1 : S.writeE n j m = 5 := by unfold St.writeE; rw [hd, hn]; simp only [Bool.false_eq_true, if_false, if_neg hk, if_pos hc]
          have e2 : S.write n j p = S := by
            unfold St.write
            rw [hd, hn]
            rw [hm] at hc
            simp only [Bool.false_eq_true, if_false, if_neg hk, if_pos hc]
          rw [e1, e2]
          have HPF := hide (put_full g fb (S.v mf mn ms vch) _ _ f j m A c w h.blk h2 (by omega) (by omega) (by omega) hF.used (by omega) hc.2)
          clear h hd hn e1 e2 hF hr hm h4 h1 h2 h3 hk hb hc
          go_enter Try.func68, Try.ntmps68
          go_wp2_with (first
            | (go_at_call 29; refine HFD.out.mono ?_; rintro e w1 ⟨rfl, rfl⟩)
            | (go_at_call 30; refine HPF.out.mono ?_; rintro e w1 ⟨rfl, i, rfl⟩))
          go_ret
          exact FsPost.same H.out _ _
        · have e1 : S.writeE n j m = 0 := by unfold St.writeE; rw [hd, hn]; simp only [Bool.false_eq_true, if_false, if_neg hk, if_neg hc]
          have e2 : S.write n j p = S.wrote n f ⟨false, j, p⟩ := by
            unfold St.write
            rw [hd, hn]
            rw [hm] at hc
            simp only [Bool.false_eq_true, if_false, if_neg hk, if_neg hc]
            rfl
          rw [e1, e2]
          have HPO := hide (h.put_ok hF h1 (St.file_some hn).1 h2 j m A c B p hr hB hm (by omega) hp (by omega))
          clear h hd hn e1 e2 hF hr hm h4 h1 h2 h3 hk hb hc
          go_enter Try.func68, Try.ntmps68
          go_wp2_with (first
            | (go_at_call 29; refine HFD.out.mono ?_; rintro e w1 ⟨rfl, rfl⟩)
            | (go_at_call 30; refine HPO.out.mono ?_; rintro e w1 ⟨rfl, hpo⟩; have HPP := hide hpo; clear hpo))
          go_ret
          exact ⟨rfl, HPP.out⟩
  · have e1 : S.writeE n k m = 21 := by unfold St.writeE; rw [hd]; rfl
    have e2 : S.write n k p = S := by unfold St.write; rw [hd]; rfl
    rw [e1, e2]
    have HFD := hide (h.find_dead n hd)
    clear h hd e1 e2 hF hr hm
    go_enter Try.func68, Try.ntmps68
    go_wp2_with (go_at_call 29; refine HFD.out.mono ?_; rintro e w1 ⟨rfl, rfl⟩)
    go_ret
    exact FsPost.same0 H.out _

/-! ## Remove -/
def St.remove (S : St) (a : ByteArray) : St := if askErr S [a] a = 0 then S.did ⟨a, ⟨#[]⟩, 0⟩ else S

set_option maxHeartbeats 4000000 in
set_option maxRecDepth 100000 in
theorem remove_any (L : Nat → Nat) (g : Nat) (S : St) (a : ByteArray) (w : World) (h : FsAt w L g S) (hF : Fine S) (hN : askErr S [a] a = 0 → (followL S.names ⟨a, ⟨#[]⟩, 0⟩).2 ≠ 0 → ∃ f, S.files ((followL S.names ⟨a, ⟨#[]⟩, 0⟩).2 : Int) = some f) :
    Calls Try.prog 45 #[.pointer (some ⟨g, 0, none⟩), .string a] w (FsPost L g (S.remove a) (.int .i64 (askErr S [a] a)) w) := by
  obtain ⟨wa, hwaE⟩ : ∃ wa, wa = w.alloc (.cells #[.string a] 9) := ⟨_, rfl⟩
  have hga : w.grownBy wa none := by rw [hwaE]; exact gb_alloc (gb_refl w none) _
  have hrd : Rd wa wa.heap.size (some ⟨w.heap.size, 0, none⟩) (strs [a]) := by rw [hwaE]; exact (Rd.new w #[.string a] 9 _ rfl).more (by simp)
  obtain ⟨hr, mn, q4, hlk⟩ := (h.grown hga).asked [a] a (by simp) _ hrd
  have HWE := hide hwaE
  have HG := hide hga
  have H := hide (h.grown hga)
  cases hd : S.dead
  · cases hno : [a].all nameOk
    · have e1 : askErr S [a] a = 20 := by simp only [askErr, hd, hno]; rfl
      have e2 : S.remove a = S := by unfold St.remove; rw [e1]; rfl
      rw [e1, e2]
      rw [hd, readyErr_no hno] at hr
      have HR := hide hr
      clear h hr hga hrd hwaE hd hno e1 e2 hlk q4 hF hN
      go_enter Try.func45, Try.ntmps45
      go_wp2_with fail
      rw [← HWE.out]
      refine HR.out.mono ?_
      rintro e w1 ⟨rfl, rfl⟩
      go_wp2
      go_ret
      exact ⟨rfl, L, H.out, Moved.grown HG.out⟩
    · rw [hd, readyErr_ok hno] at hr
      have HR := hide hr
      cases hs : aget S.names a with
      | none =>
        have e1 : askErr S [a] a = 7 := by
          simp only [askErr, hd, hno]
          simp [hs]
        have e2 : S.remove a = S := by unfold St.remove; rw [e1]; rfl
        rw [e1, e2]
        rw [hs] at hlk
        clear h hr hga hrd hwaE hd hno e1 e2 hs hF hN
        go_enter Try.func45, Try.ntmps45
        go_wp2_with fail
        rw [← HWE.out]
        refine HR.out.mono ?_
        rintro e w1 ⟨rfl, rfl⟩
        go_wp2
        go_ret
        exact ⟨rfl, L, H.out, Moved.grown HG.out⟩
      | some n =>
        have e1 : askErr S [a] a = 0 := by
          simp only [askErr, hd, hno]
          simp [hs]
        have e2 : S.remove a = S.did ⟨a, ⟨#[]⟩, 0⟩ := by unfold St.remove; rw [if_pos e1]
        have hdo : Calls Try.prog 28 #[.pointer (some ⟨g, 0, none⟩), .agg #[.string a, .string ⟨#[]⟩, .int .i64 0]] wa (FsPost L g (S.did ⟨a, ⟨#[]⟩, 0⟩) (.tuple #[]) wa) := did_in L g S ⟨a, ⟨#[]⟩, 0⟩ wa (h.grown hga) hF (hN e1)
        rw [e1, e2]
        rw [hs] at hlk
        have HDO := hide hdo
        clear h hr hga hrd hwaE hd hno e1 e2 hs hF hN hdo
        go_enter Try.func45, Try.ntmps45
        go_wp2_with fail
        rw [← HWE.out]
        refine HR.out.mono ?_
        rintro e w1 ⟨rfl, rfl⟩
        go_wp2_with (go_at_call 28; refine HDO.out.mono ?_; rintro e w2 ⟨rfl, hp⟩; have HP := hide hp; clear hp)
        go_ret
        obtain ⟨L', h1, h2⟩ := HP.out
        exact ⟨rfl, L', h1, (Moved.grown HG.out).trans h2⟩
  · have e1 : askErr S [a] a = 21 := by simp only [askErr, hd]; rfl
    have e2 : S.remove a = S := by unfold St.remove; rw [e1]; rfl
    rw [e1, e2]
    rw [hd] at hr
    have HR := hide hr
    clear h hr hga hrd hwaE hd e1 e2 hlk q4 hF hN
    go_enter Try.func45, Try.ntmps45
    go_wp2_with fail
    rw [← HWE.out]
    refine HR.out.mono ?_
    rintro e w1 ⟨rfl, rfl⟩
    go_wp2
    go_ret
    exact ⟨rfl, L, H.out, Moved.grown HG.out⟩

end Go.Proofs.Ytccapgcpdehicaa

namespace Go.Proofs.Ytccapgcpdehicaa
open Go.RowKit

section
variable {P : Program} (w : World)
/-- string(x), x a slice of bytes that reads as bs. -/
theorem run_string_of (src e : TypeId) (hs : P.underlying src = some (.slice e)) (he : P.underlying e = some (.int .u8)) (A : Option Addr) (B c : Nat) (bs : List UInt8) (hr : Rd w B A (u8s bs)) (dst : TypeId)
    (hd : P.underlying dst = some .string) : (convert src dst (.slice A bs.length c)).run P w = .ok (.string ⟨bs.toArray⟩) w := by
  rcases Nat.eq_zero_or_pos bs.length with h0 | h0
  · have hb : bs = [] := List.eq_nil_of_length_eq_zero h0
    subst hb
    cases A with
    | none => exact run_convert_bytes_nil w src e hs he _ c dst hd
    | some ad =>
      show (convert src dst (.slice (some ad) 0 c)).run P w = _
      rw [run_convert_bytes_string w src dst e _ 0 c hs he hd]
      exact run_bytesToString w ad 0 c [] (by simp [loadCells, loadCellsFrom])
  · obtain ⟨ad, rfl, _, hc⟩ := hr (u8s_ne (by rintro rfl; simp at h0))
    rw [run_convert_bytes_string w src dst e _ bs.length c hs he hd]
    have hl : (loadCells ad bs.length).run P w = .ok ((bs.map fun b => (b.toNat : Int)).map (Value.int .u8)).toArray w := by
      have := run_loadCells_list (P := P) w ad (u8s bs) hc
      rw [u8s_length] at this
      rw [this]
      simp [u8s, Function.comp_def]
    rw [run_bytesToString w ad bs.length c _ hl, foldl_push_bytes]
    congr 2
    simp [ByteArray.empty, ByteArray.emptyWithCapacity, Function.comp_def]
    rfl
end

end Go.Proofs.Ytccapgcpdehicaa

namespace Go.Proofs.Ytccapgcpdehicaa
open Go.RowKit

theorem str8 {w : World} {A : Option Addr} {n c B : Nat} {bs : List UInt8} (hr : Rd w B A (u8s bs)) (hn : n = bs.length) : (convert 32 9 (.slice A n c)).run Try.prog w = .ok (.string ⟨bs.toArray⟩) w := by
  subst hn
  exact run_string_of w 32 5 Try.underlying32 Try.underlying5 _ _ _ _ hr 9 Try.underlying9

set_option maxHeartbeats 1000000 in
theorem eq8_any (A A2 : Option Addr) (n c n2 c2 B B2 : Nat) (xs ys : List UInt8) (w : World) (h : Rd w B A (u8s xs)) (k : Rd w B2 A2 (u8s ys)) (hn : n = xs.length) (hn2 : n2 = ys.length) :
    Calls Try.prog 75 #[.slice A n c, .slice A2 n2 c2] w fun e w' => e = .returned (.bool (xs == ys)) ∧ w = w' := by
  have q1 := str8 (c := c) h hn
  have q2 := str8 (c := c2) k hn2
  clear h k hn hn2
  by_cases he : xs = ys
  · have hb : (xs == ys) = true := by rw [he]; simp
    have HB := hide hb
    clear he
    go_enter Try.func75, Try.ntmps75
    go_wp2
    go_ret
    exact ⟨by rw [HB.out]; rfl, rfl⟩
  · have hb : (xs == ys) = false := beq_eq_false_iff_ne.2 he
    have HB := hide hb
    clear he
    go_enter Try.func75, Try.ntmps75
    go_wp2
    go_ret
    exact ⟨by rw [HB.out]; rfl, rfl⟩

def wrEq (x y : Wr) : Bool := (x.cut == y.cut) && (x.pos == y.pos) && (x.p == y.p)
theorem wrEq_iff (x y : Wr) : wrEq x y = true ↔ x = y := by
  obtain ⟨a, b, c⟩ := x
  obtain ⟨a', b', c'⟩ := y
  simp [wrEq, and_assoc]

set_option maxHeartbeats 2000000 in
set_option maxRecDepth 100000 in
theorem sameWrite_any (x y : Wr) (vx vy : Value) (rd rd' : Nat → Prop) (w : World) (h : BsAt w rd vx x.p) (k : BsAt w rd' vy y.p) :
    Calls Try.prog 77 #[.agg #[.bool x.cut, .int .i64 (x.pos : Int), vx], .agg #[.bool y.cut, .int .i64 (y.pos : Int), vy]] w fun e w' => e = .returned (.bool (wrEq x y)) ∧ w.grownBy w' none := by
  obtain ⟨A1, c1, rfl, _, _, r1⟩ := h.rd
  obtain ⟨A2, c2, rfl, _, _, r2⟩ := k.rd
  have hg : w.grownBy ((w.alloc (.cells #[.bool x.cut, .int .i64 (x.pos : Int), .slice A1 x.p.length c1] 116)).alloc (.cells #[.bool y.cut, .int .i64 (y.pos : Int), .slice A2 y.p.length c2] 116)) none := gb_alloc (gb_alloc (gb_refl w none) _) _
  have HE := hide (eq8_any A1 A2 _ c1 _ c2 _ _ x.p y.p _ (r1.grown hg (Nat.le_refl _) (by simp)) (r2.grown hg (Nat.le_refl _) (by simp)) rfl rfl)
  have HG := hide hg
  clear h k r1 r2 hg
  by_cases e1 : x.cut = y.cut
  · have hc : (x.cut == y.cut) = true := by rw [e1]; simp
    by_cases e2 : x.pos = y.pos
    · have hp : ((x.pos : Int) == (y.pos : Int)) = true := by rw [e2]; simp
      have HQ := hide (show wrEq x y = (x.p == y.p) by unfold wrEq; rw [e1, e2]; simp)
      generalize (x.p == y.p) = b at *
      clear e1 e2
      go_enter Try.func77, Try.ntmps77
      go_wp2_with (go_at_call 75; refine HE.out.mono ?_; rintro e w1 ⟨rfl, rfl⟩)
      go_ret
      exact ⟨by rw [HQ.out]; rfl, HG.out⟩
    · have hp : ((x.pos : Int) == (y.pos : Int)) = false := beq_eq_false_iff_ne.2 (fun e => e2 (by omega))
      have HQ := hide (show wrEq x y = false by
        have : (x.pos == y.pos) = false := beq_eq_false_iff_ne.2 e2
        unfold wrEq; rw [this]; simp)
      clear e1 e2
      go_enter Try.func77, Try.ntmps77
      go_wp2
      go_ret
      exact ⟨by rw [HQ.out]; rfl, HG.out⟩
  · have hc : (x.cut == y.cut) = false := beq_eq_false_iff_ne.2 e1
    have HQ := hide (show wrEq x y = false by unfold wrEq; rw [hc]; simp)
    clear e1
    go_enter Try.func77, Try.ntmps77
    go_wp2
    go_ret
    exact ⟨by rw [HQ.out]; rfl, HG.out⟩

def chEq (x y : Ch) : Bool := decide (x.src = y.src) && decide (x.dst = y.dst)

set_option maxHeartbeats 2000000 in
set_option maxRecDepth 100000 in
theorem sameChange_any (x y : Ch) (w : World) :
    Calls Try.prog 25 #[.agg #[.string x.src, .string x.dst, .int .i64 (x.file : Int)], .agg #[.string y.src, .string y.dst, .int .i64 (y.file : Int)]] w fun e w' => e = .returned (.bool (chEq x y)) ∧ w.grownBy w' none := by
  have HG := hide (show w.grownBy ((w.alloc (.cells #[.string x.src, .string x.dst, .int .i64 (x.file : Int)] 67)).alloc (.cells #[.string y.src, .string y.dst, .int .i64 (y.file : Int)] 67)) none from gb_alloc (gb_alloc (gb_refl w none) _) _)
  by_cases e1 : x.src = y.src
  · have h1 := str_eq e1
    by_cases e2 : x.dst = y.dst
    · have h2 := str_eq e2
      have HQ := hide (show chEq x y = true by unfold chEq; simp [e1, e2])
      clear e1 e2
      go_enter Try.func25, Try.ntmps25
      go_wp2
      go_ret
      exact ⟨by rw [HQ.out]; rfl, HG.out⟩
    · have h2 := str_ne e2
      have HQ := hide (show chEq x y = false by unfold chEq; simp [e2])
      clear e1 e2
      go_enter Try.func25, Try.ntmps25
      go_wp2
      go_ret
      exact ⟨by rw [HQ.out]; rfl, HG.out⟩
  · have h1 := str_ne e1
    have HQ := hide (show chEq x y = false by unfold chEq; simp [e1])
    clear e1
    go_enter Try.func25, Try.ntmps25
    go_wp2
    go_ret
    exact ⟨by rw [HQ.out]; rfl, HG.out⟩

end Go.Proofs.Ytccapgcpdehicaa
