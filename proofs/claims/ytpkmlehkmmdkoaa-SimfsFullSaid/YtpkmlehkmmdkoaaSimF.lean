/-
  FS.settle, count, SyncDir upon a file system's state.
-/
import Derived.Test.YtpkmlehkmmdkoaaSimE
namespace Go.Proofs.Ytpkmlehkmmdkoaa
open Go.RowKit

def St.settled (S : St) (l : List (ByteArray × Nat)) : St := { S with names := l, safe := l, changes := [], files := fun n => if ∃ x ∈ l, (x.2 : Int) = n then S.files n else none }

theorem FsPost.then_ {L : Nat → Nat} {g : Nat} {S' : St} {v : Value} {w w1 : World} {L1 : Nat → Nat} {e : Ending} {w2 : World} (hM : Moved L w L1 w1) (h : FsPost L1 g S' v w1 e w2) : FsPost L g S' v w e w2 := by
  obtain ⟨he, L2, h1, h2⟩ := h
  exact ⟨he, L2, h1, hM.trans h2⟩

theorem settle_in (L : Nat → Nat) (g : Nat) (S : St) (mf mn ms : Nat) (vch : Value) (lf : List (Int × Nat)) (b : Nat) (l : List (ByteArray × Nat)) (w : World) (h : FsIn w L g S mf mn ms vch lf) (hb : MapAt encN w b l) (hLb : L b = 1) (hN : ∀ x ∈ l, (S.files (x.2 : Int)).isSome) :
    Calls Try.prog 44 #[.pointer (some ⟨g, 0, none⟩), .map (some b)] w (FsPost L g (S.settled l) (.tuple #[]) w) := by
  refine (fs_settle g _ b l lf w h.blk hb h.files fun x hx => ?_).mono ?_
  · cases hx' : aget lf (x.2 : Int) with
    | some fb => exact ⟨fb, rfl⟩
    | none =>
      have := hN x hx
      rw [h.no _ hx'] at this
      cases this
  · rintro e w' ⟨rfl, ms', mf', lk, hv, hb', hms, hmf, hlk, hs1, hs2, hne, hg⟩
    refine ⟨rfl, ?_⟩
    have hbl := hb.lt
    have hsz := hg.size
    have l1 := hms.lt
    have l2 := hmf.lt
    refine h.rebuild (fun _ => False) (L' := fun i => if i < w.heap.size then L i else if i < w'.heap.size then 1 else 0) (mf' := mf') (mn' := b) (ms' := ms') (vch' := .slice none 0 0) (lf' := lk)
      ((Turned.of_gb (M := fun i => i = g) hg (fun i e => by injection e with e; exact e.symm)).mono fun i _ hi => .inl (hi ▸ h.lg)) (fun _ _ h => h.elim) hv (fun i hi => if_pos hi) (fun i hi => ?_) ?_ ?_ ?_ (by omega) (by omega) hne.symm hmf hb' hms ⟨⟨rfl, .inl ⟨rfl, rfl⟩⟩, fun i hi => by cases hi⟩ (fun n fb hn => ?_) (fun n hn => ?_)
    · by_cases h1 : i < w.heap.size
      · omega
      · by_cases h3 : i < w'.heap.size
        · exact h3
        · simp [h1, h3] at hi
    · show (if mf' < w.heap.size then L mf' else if mf' < w'.heap.size then 1 else 0) = 1
      rw [if_neg (by omega), if_pos l2]
    · show (if b < w.heap.size then L b else _) = 1
      rw [if_pos hbl]; exact hLb
    · show (if ms' < w.heap.size then L ms' else if ms' < w'.heap.size then 1 else 0) = 1
      rw [if_neg (by omega), if_pos l1]
    · rw [hlk n] at hn
      by_cases hx : ∃ x ∈ l, (x.2 : Int) = n
      · rw [if_pos hx] at hn
        exact .inl ⟨hn, if_pos hx, fun _ _ h => h.elim⟩
      · rw [if_neg hx] at hn
        cases hn
    · show (if ∃ x ∈ l, (x.2 : Int) = n then S.files n else none) = none
      rw [hlk n] at hn
      by_cases hx : ∃ x ∈ l, (x.2 : Int) = n
      · rw [if_pos hx] at hn ⊢
        exact h.no n hn
      · exact if_neg hx

theorem count_in (L : Nat → Nat) (g : Nat) (S : St) (w : World) (h : FsAt w L g S) (ho : 0 ≤ S.ops ∧ S.ops ≤ 2000000000) (ha : S.armed ≤ 9223372036854775807) :
    Calls Try.prog 43 #[.pointer (some ⟨g, 0, none⟩)] w (FsPost L g S.count (.tuple #[]) w) := by
  obtain ⟨mf, mn, ms, vch, lf, h⟩ := h
  refine (count_any g _ w h.blk ho.1 ho.2 ha).mono ?_
  rintro e w' ⟨rfl, hv, hg⟩
  refine ⟨rfl, ?_⟩
  have hsz := hg.size
  rw [St.count_v] at hv
  have hne : ∀ i, i ≠ g → (some i : Option Nat) ≠ some g := fun i hi e => hi (by injection e)
  refine h.rebuild (fun _ => False) (L' := L) (mf' := mf) (mn' := mn) (ms' := ms) (vch' := vch) (lf' := lf)
      ((Turned.of_gb (M := fun i => i = g) hg (fun i e => by injection e with e; exact e.symm)).mono fun i _ hi => .inl (hi ▸ h.lg)) (fun _ _ h => h.elim) hv (fun _ _ => rfl) (fun i hi => Nat.lt_of_lt_of_le (h.lt i hi) hsz) h.lmf h.lmn h.lms h.ns h.fn h.fs
      (h.files.grown hg (hne _ (map_ne h.files h.blk))) (by rw [St.count_names]; exact h.names.grown hg (hne _ (map_ne h.names h.blk))) (by rw [St.count_safe]; exact h.safe.grown hg (hne _ (map_ne h.safe h.blk))) ?_ (fun n fb hn => .inl ⟨hn, by rw [St.count_files], fun _ _ h => h.elim⟩) (fun n hn => by rw [St.count_files]; exact h.no n hn)
  rw [St.count_changes]
  exact ⟨own_keep h.chs.1 fun i hi hl => hg.block i hl (fun e => own_ne h.chs.1 h.blk (by decide) (by injection e with e; rw [hi, e])), h.chs.2⟩

set_option maxHeartbeats 1000000 in
set_option maxRecDepth 100000 in
theorem syncdir_ok (L : Nat → Nat) (g : Nat) (S : St) (w : World) (h : FsAt w L g S) (hF : Fine S) (hd : S.dead = false) (hN : ∀ x ∈ S.names, (S.files (x.2 : Int)).isSome) :
    Calls Try.prog 17 #[.pointer (some ⟨g, 0, none⟩)] w (FsPost L g (S.settled S.names).count (.int .i64 0) w) := by
  obtain ⟨mf, mn, ms, vch, lf, h⟩ := h
  have hr := ready_any g _ none 0 0 [] w h.blk Rd.nil_ (by simp)
  rw [show (S.v mf mn ms vch).dead = S.dead from rfl, hd, readyErr_ok rfl] at hr
  have HR := hide hr
  have HST := hide (settle_in L g S mf mn ms vch lf mn S.names w h h.names h.lmn hN)
  have q4 : w.cell? ⟨g, 4, none⟩ = some (.map (some mn)) := h.blk.c4
  have HO := hide hF.ops
  have HA := hF.armed
  clear h hr hF hd hN
  go_enter Try.func17, Try.ntmps17
  go_wp2_with (first
    | (go_at_call 38; refine HR.out.mono ?_; rintro e w1 ⟨rfl, rfl⟩)
    | (go_at_call 44; refine HST.out.mono ?_; rintro e w2 ⟨rfl, L2, h2, m2⟩; have H2 := hide h2; have M2 := hide m2; clear h2 m2 q4)
    | (go_at_call 43; refine (count_in L2 g _ _ H2.out HO.out HA).mono ?_; rintro e w3 ⟨rfl, L3, h3, m3⟩; have H3 := hide h3; have M3 := hide m3; clear h3 m3))
  go_ret
  exact ⟨rfl, L3, H3.out, M2.out.trans M3.out⟩

end Go.Proofs.Ytpkmlehkmmdkoaa
