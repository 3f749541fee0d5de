/-
  FS.do upon a file system's state; Rename, Remove, Open.
-/
import Derived.Test.YtpkmlehkmmdkoaaSimP
namespace Go.Proofs.Ytpkmlehkmmdkoaa
open Go.RowKit

theorem BsAt.ne {w : World} {own : Nat → Prop} {v : Value} {xs : List UInt8} {fb : Nat} {fv : FlV} (h : BsAt w own v xs) (hf : FlB w fb fv) : BsAt w (fun i => own i ∧ i ≠ fb) v xs := by
  rcases h with h | ⟨h0, g', cap, cur, h1, h2, h3, h4⟩
  · exact .inl h
  · refine .inr ⟨h0, g', cap, cur, h1, ⟨h2, fun e => ?_⟩, h3, h4⟩
    have hf' : w.heap[fb]? = _ := hf
    rw [← e, h3] at hf'
    injection hf' with hf'
    injection hf' with _ hf'
    exact absurd hf' (by decide)
theorem WsAt.ne {w : World} {own rd : Nat → Prop} {v : Value} {ws : List Wr} {fb : Nat} {fv : FlV} (h : WsAt w own rd v ws) (hf : FlB w fb fv) : WsAt w (fun i => own i ∧ i ≠ fb) (fun i => rd i ∧ i ≠ fb) v ws := by
  obtain ⟨l, rfl, h2, h3, h4⟩ := h
  exact ⟨l, rfl, h2, fun i hi => ⟨h3 i hi, fun e => own_ne h2 hf (by decide) (e ▸ hi)⟩, fun y hy => (h4 y hy).ne hf⟩
/-- A file that has lost its name. -/
theorem FileAt.lost {w w' : World} {own rd : Nat → Prop} {fb : Nat} {f : Fl} {v : FlV} (hv : FlB w fb v) (ho : own fb) (hb : BsAt w own v.vb f.bytes) (hs : BsAt w own v.vs f.safe) (hp : Sep v.vb f.bytes.length v.vs f.safe.length v.shared) (hw : WsAt w own rd v.vw f.waits)
    (hk : ∀ i, own i ∨ rd i → i < w.heap.size → i ≠ fb → w'.heap[i]? = w.heap[i]?) (hv' : FlB w' fb { v with gone := true }) : FileAt w' own rd fb { f with gone := true } :=
  ⟨{ v with gone := true }, hv', ho, rfl, ((hb.ne hv).keep fun i hi hl => hk i (.inl hi.1) hl hi.2).mono (fun _ h => h.1), ((hs.ne hv).keep fun i hi hl => hk i (.inl hi.1) hl hi.2).mono (fun _ h => h.1), hp,
    ((hw.ne hv).keep fun i hi hl => by rcases hi with hi | hi; exact hk i (.inl hi.1) hl hi.2; exact hk i (.inr hi.1) hl hi.2).mono (fun _ _ h => h.1) (fun _ _ h => h.1)⟩

def St.lost (S : St) (n : Nat) : St := match S.files (n : Int) with
  | some f => ({ S with used := S.used - f.bytes.length } : St).setFile (n : Int) { f with gone := true }
  | none => S
/-- What do does. -/
def St.did (S : St) (c : Ch) : St := ({ (if (followL S.names c).2 = 0 then S else S.lost (followL S.names c).2) with names := (followL S.names c).1, changes := S.changes ++ [c] } : St).count
theorem St.did_keep {S : St} {c : Ch} (h : (followL S.names c).2 = 0) : S.did c = ({ S with names := (followL S.names c).1, changes := S.changes ++ [c] } : St).count := by
  unfold St.did
  rw [if_pos h]
theorem St.did_lose {S : St} {c : Ch} {n : Nat} {f : Fl} (h : (followL S.names c).2 = n) (h0 : n ≠ 0) (hf : S.files (n : Int) = some f) :
    S.did c = ({ (({ S with used := S.used - f.bytes.length } : St).setFile (n : Int) { f with gone := true }) with names := (followL S.names c).1, changes := S.changes ++ [c] } : St).count := by
  unfold St.did
  rw [h, if_neg h0]
  unfold St.lost
  rw [hf]

set_option maxRecDepth 100000 in
theorem did_in (L : Nat → Nat) (g : Nat) (S : St) (c : Ch) (w : World) (h : FsAt w L g S) (hF : Fine S) (hN : (followL S.names c).2 ≠ 0 → ∃ f, S.files ((followL S.names c).2 : Int) = some f) :
    Calls Try.prog 39 #[.pointer (some ⟨g, 0, none⟩), .agg #[.string c.src, .string c.dst, .int .i64 (c.file : Int)]] w (FsPost L g (S.did c) (.tuple #[]) w) := by
  obtain ⟨mf, mn, ms, vch, lf, h⟩ := h
  have hvl : ∀ i, vch.ownBlock = some i → i < w.heap.size ∧ L i = 1 := fun i hi => ⟨own_lt h.chs.1 i hi, h.chs.2 i hi⟩
  have hcf : vch.ownBlock ≠ some mf := own_ne_map h.chs.1 h.files
  have hfg : mf ≠ g := map_ne h.files h.blk
  by_cases h0 : (followL S.names c).2 = 0
  · refine (fsdo_keep g _ S.names S.changes c w h.blk h.names h.chs.1 h0 hF.ops hF.armed hF.chs).mono ?_
    rintro e w' ⟨rfl, vch', hv, hn, hc, hb, hT⟩
    have hsz := hT.size
    have ec : ({ S.v mf mn ms vch with vch := vch' } : FsV).count = (S.did c).v mf mn ms vch' := by
      rw [St.did_keep h0, ← St.count_v]
      rfl
    refine ⟨rfl, h.rebuild (fun _ => False) (L' := fun i => if i < w.heap.size then L i else if i < w'.heap.size then 1 else 0) (mf' := mf) (mn' := mn) (ms' := ms) (vch' := vch') (lf' := lf)
      (hT.mono fun i _ hi => .inl ?_) (fun _ _ h => h.elim) (by rw [← ec]; exact hv) (fun i hi => if_pos hi) (fun i hi => ?_) ?_ ?_ ?_ h.ns h.fn h.fs ?_ ?_ ?_ ⟨?_, fun i hi => ?_⟩ (fun n fb hn => .inl ⟨hn, ?_, fun _ _ h => h.elim⟩) (fun n hn => ?_)⟩
    · rcases hi with rfl | rfl | hi
      · exact h.lg
      · exact h.lmn
      · exact (hvl i hi).2
    · by_cases h1 : i < w.heap.size
      · omega
      · by_cases h3 : i < w'.heap.size
        · exact h3
        · simp [h1, h3] at hi
    · show (if mf < w.heap.size then L mf else _) = 1
      rw [if_pos h.files.lt]; exact h.lmf
    · show (if mn < w.heap.size then L mn else _) = 1
      rw [if_pos h.names.lt]; exact h.lmn
    · show (if ms < w.heap.size then L ms else _) = 1
      rw [if_pos h.safe.lt]; exact h.lms
    · refine h.files.keep (hT.block mf h.files.lt fun hh => ?_)
      rcases hh with hh | hh | hh
      · exact hfg hh
      · exact h.fn hh
      · exact hcf hh
    · rw [St.did_keep h0, St.count_names]
      exact hn
    · rw [St.did_keep h0, St.count_safe]
      refine h.safe.keep (hT.block ms h.safe.lt fun hh => ?_)
      rcases hh with hh | hh | hh
      · exact map_ne h.safe h.blk hh
      · exact h.ns hh.symm
      · exact own_ne_map h.chs.1 h.safe hh
    · rw [St.did_keep h0, St.count_changes]
      exact hc
    · show (if i < w.heap.size then L i else if i < w'.heap.size then 1 else 0) = 1
      rcases hb with hb | ⟨j, hj, hj2⟩
      · rw [hb] at hi
        rw [if_pos (hvl i hi).1]
        exact (hvl i hi).2
      · rw [hj] at hi
        injection hi with hi
        subst hi
        have := own_lt hc j hj
        rw [if_neg (by omega), if_pos this]
    · rw [St.did_keep h0, St.count_files]
    · rw [St.did_keep h0, St.count_files]
      exact h.no n hn
  · obtain ⟨f, hf⟩ := hN h0
    obtain ⟨n, hnE⟩ : ∃ n, n = (followL S.names c).2 := ⟨_, rfl⟩
    rw [← hnE] at h0 hf
    have hF' := hF.files _ f hf
    cases hl : aget lf (n : Int) with
    | none => rw [h.no _ hl] at hf; cases hf
    | some fb =>
    obtain ⟨hn0, f', hf', fv, hfl, hof, hgo, hbb, hbs, hsep, hws⟩ := h.at_ _ fb hl
    rw [hf] at hf'
    injection hf' with hf'
    subst hf'
    obtain ⟨A1, c1, hvb, _, _⟩ := hbb.form
    have hof' : L fb = n + 3 := hof
    refine (fsdo_lose g fb n f.bytes.length c1 A1 _ fv S.names lf S.changes c w h.blk h.names h.files h.chs.1 hnE.symm (by omega) hl hfl hvb (by omega) (by have := hF.used; show -2000000000000000 ≤ S.used ∧ S.used ≤ 2000000000000000; omega) h.fn hF.ops hF.armed hF.chs).mono ?_
    rintro e w' ⟨rfl, vch', hv, hfl', hn, hc, hb, hT⟩
    have hsz := hT.size
    have hd := St.did_lose hnE.symm h0 hf
    have ec : ({ S.v mf mn ms vch with used := (S.v mf mn ms vch).used - (f.bytes.length : Int), vch := vch' } : FsV).count = (S.did c).v mf mn ms vch' := by
      rw [hd, ← St.count_v]
      rfl
    have hfbl := hfl.lt
    refine ⟨rfl, h.rebuild (fun i => i = fb) (L' := fun i => if i < w.heap.size then L i else if i < w'.heap.size then 1 else 0) (mf' := mf) (mn' := mn) (ms' := ms) (vch' := vch') (lf' := lf)
      (hT.mono fun i _ hi => ?_) (fun i _ hi => by rw [hi, hof']; omega) (by rw [← ec]; exact hv) (fun i hi => if_pos hi) (fun i hi => ?_) ?_ ?_ ?_ h.ns h.fn h.fs ?_ ?_ ?_ ⟨?_, fun i hi => ?_⟩ (fun m fm hm => ?_) (fun m hm => ?_)⟩
    · rcases hi with rfl | rfl | rfl | hi
      · exact .inl h.lg
      · exact .inr rfl
      · exact .inl h.lmn
      · exact .inl (hvl i hi).2
    · by_cases h1 : i < w.heap.size
      · omega
      · by_cases h3 : i < w'.heap.size
        · exact h3
        · simp [h1, h3] at hi
    · show (if mf < w.heap.size then L mf else _) = 1
      rw [if_pos h.files.lt]; exact h.lmf
    · show (if mn < w.heap.size then L mn else _) = 1
      rw [if_pos h.names.lt]; exact h.lmn
    · show (if ms < w.heap.size then L ms else _) = 1
      rw [if_pos h.safe.lt]; exact h.lms
    · refine h.files.keep (hT.block mf h.files.lt fun hh => ?_)
      rcases hh with hh | hh | hh | hh
      · exact hfg hh
      · exact map_ne h.files hfl hh
      · exact h.fn hh
      · exact hcf hh
    · rw [hd, St.count_names]
      exact hn
    · rw [hd, St.count_safe]
      refine h.safe.keep (hT.block ms h.safe.lt fun hh => ?_)
      rcases hh with hh | hh | hh | hh
      · exact map_ne h.safe h.blk hh
      · exact map_ne h.safe hfl hh
      · exact h.ns hh.symm
      · exact own_ne_map h.chs.1 h.safe hh
    · rw [hd, St.count_changes]
      exact hc
    · show (if i < w.heap.size then L i else if i < w'.heap.size then 1 else 0) = 1
      rcases hb with hb | ⟨j, hj, hj2⟩
      · rw [hb] at hi
        rw [if_pos (hvl i hi).1]
        exact (hvl i hi).2
      · rw [hj] at hi
        injection hi with hi
        subst hi
        have := own_lt hc j hj
        rw [if_neg (by omega), if_pos this]
    · rw [hd, St.count_files]
      by_cases hmn : m = (n : Int)
      · subst hmn
        rw [hl] at hm
        injection hm with hm
        subst hm
        refine .inr ⟨hn0, { f with gone := true }, if_pos rfl, (FileAt.lost hfl hof hbb hbs hsep hws (fun i hi hil hne => hT.block i hil fun hh => ?_) hfl').mono (fun i hil hi => ?_) (fun i hil hi => ?_)⟩
        · rcases hh with hh | hh | hh | hh
          · rcases hi with hi | hi <;> rw [hh, h.lg] at hi <;> omega
          · exact hne hh
          · have := h.lmn
            rcases hi with hi | hi <;> rw [hh] at hi
            · have hi' : L mn = _ := hi
              omega
            · have hi' : L mn = 2 := hi
              omega
          · have := (hvl i hh).2
            rcases hi with hi | hi
            · have hi' : L i = _ := hi
              omega
            · have hi' : L i = 2 := hi
              omega
        · show (if i < w.heap.size then L i else _) = _
          have hi' : L i = (n : Int).toNat + 3 := hi
          rw [if_pos (h.lt i (by omega))]
          exact hi
        · show (if i < w.heap.size then L i else _) = _
          have hi' : L i = 2 := hi
          rw [if_pos (h.lt i (by omega))]
          exact hi
      · refine .inl ⟨hm, by show (if m = (n : Int) then _ else S.files m) = _; rw [if_neg hmn], fun i _ hi => ?_⟩
        obtain ⟨hm0, _⟩ := h.at_ _ fm hm
        rw [hi, hof']
        omega
    · rw [hd, St.count_files]
      show (if m = (n : Int) then _ else S.files m) = none
      have hmn : ¬ m = (n : Int) := fun e => by rw [e, hl] at hm; cases hm
      rw [if_neg hmn]
      exact h.no m hm

end Go.Proofs.Ytpkmlehkmmdkoaa
