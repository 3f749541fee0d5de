/-
  Copy.
-/
import Derived.Test.YtpkmlehkmmdkoaaSimCb
namespace Go.Proofs.Ytpkmlehkmmdkoaa
open Go.RowKit

/-- A copy under way: its block, its map of files, the files that are copied. -/
structure CopyIn (w wr : World) (L LL : Nat → Nat) (S : St) (G mN mn ms : Nat) (vch : Value) (lk : List (Int × Nat)) : Prop where
  fs : FsB wr G (S.v mN mn ms vch)
  km : MapAt encF wr mN lk
  lG : LL G = 1
  lN : LL mN = 1
  old : ∀ i, i < w.heap.size → LL i = if L i = 2 then 2 else 0
  lt : ∀ i, LL i ≠ 0 → i < wr.heap.size
  at_ : ∀ n fb, aget lk n = some fb → 0 < n ∧ ∃ f, S.files n = some f ∧ FileAt wr (fun i => LL i = n.toNat + 3) (fun i => LL i = 2) fb f
  gb : w.grownBy wr none

theorem CopyIn.step {w wr w6 w7 w8 : World} {L LL : Nat → Nat} {S : St} {G mN mn ms : Nat} {vch : Value} {lk : List (Int × Nat)} {n : Int} {g' : Nat} {f : Fl} {it : Nat} (h : CopyIn w wr L LL S G mN mn ms vch lk) (hlt : ∀ i, L i ≠ 0 → i < w.heap.size)
    (hi0 : LL it = 0) (hiw : w.heap.size ≤ it) (hN : w.heap.size ≤ mN) (hg6 : wr.grownBy w6 (some it)) (hs6 : w6.heap.size = wr.heap.size) (hn : 0 < n) (hf : S.files n = some f) (hfa : FileAt w7 (fun i => w6.heap.size ≤ i ∧ i < w7.heap.size) (fun i => L i = 2) g' f) (hg7 : w6.grownBy w7 none)
    (hm8 : MapAt encF w8 mN (aput lk n g')) (hg8 : w7.grownBy w8 (some mN)) (hs8 : w8.heap.size = w7.heap.size) : ∃ LL', CopyIn w w8 L LL' S G mN mn ms vch (aput lk n g') ∧ (∀ i, i < wr.heap.size → LL' i = LL i) := by
  have hs7 := hg7.size
  have hGl := h.fs.lt
  have hNl := h.km.lt
  have hGN : mN ≠ G := map_ne h.km h.fs
  have hGi : G ≠ it := fun e => by rw [← e, h.lG] at hi0; omega
  have hNi : mN ≠ it := fun e => by rw [← e, h.lN] at hi0; omega
  have hw0 := h.gb.size
  have st : ∀ i, i < wr.heap.size → i ≠ it → i ≠ mN → w8.heap[i]? = wr.heap[i]? := fun i hi h1 h2 =>
    ((hg8.block i (by omega) (fun e => h2 (by injection e))).trans (hg7.block i (by omega) (by simp))).trans (hg6.block i hi (fun e => h1 (by injection e)))
  refine ⟨fun i => if i < wr.heap.size then LL i else if i < w7.heap.size then n.toNat + 3 else 0, ⟨h.fs.keep (st G hGl hGi (fun e => hGN e.symm)), hm8, ?_, ?_, fun i hi => ?_, fun i hi => ?_, fun m fb hm => ?_, ?_⟩, fun i hi => if_pos hi⟩
  · rw [if_pos hGl]; exact h.lG
  · rw [if_pos hNl]; exact h.lN
  · rw [if_pos (by omega)]; exact h.old i hi
  · by_cases h1 : i < wr.heap.size
    · omega
    · by_cases h2 : i < w7.heap.size
      · omega
      · simp [h1, h2] at hi
  · rw [aget_aput] at hm
    by_cases hmn : m = n
    · rw [if_pos hmn] at hm
      injection hm with hm
      subst hm
      subst hmn
      refine ⟨hn, f, hf, (hfa.keep fun i hi hl => hg8.block i hl (fun e => ?_)).mono (fun i hl hi => ?_) (fun i hl hi => ?_)⟩
      · injection e with e
        rcases hi with hi | hi
        · omega
        · have := hlt i (by rw [hi]; decide)
          omega
      · rw [if_neg (by omega), if_pos hi.2]
      · have hil := hlt i (by rw [hi]; decide)
        rw [if_pos (by omega), h.old i hil, if_pos hi]
    · rw [if_neg hmn] at hm
      obtain ⟨hm0, f', hf', hfa'⟩ := h.at_ m fb hm
      refine ⟨hm0, f', hf', (hfa'.keep fun i hi hl => st i hl (fun e => ?_) (fun e => ?_)).mono (fun i hl hi => ?_) (fun i hl hi => ?_)⟩
      · rw [e] at hi
        rcases hi with hi | hi <;> rw [hi0] at hi <;> omega
      · rw [e] at hi
        rcases hi with hi | hi <;> rw [h.lN] at hi <;> omega
      · rw [if_pos (h.lt i (by rw [hi]; omega))]; exact hi
      · rw [if_pos (h.lt i (by rw [hi]; omega))]; exact hi
  · exact gb_trans (gb_trans (gb_trans h.gb hg6 (.inr (.inr ⟨_, rfl, hiw⟩))) hg7 (.inl rfl)) hg8 (.inr (.inr ⟨_, rfl, hN⟩))

/-- A copy of a file system. -/
def CopyPost (L : Nat → Nat) (S : St) (w : World) (e : Ending) (w' : World) : Prop :=
  ∃ g' L', e = .returned (.pointer (some ⟨g', 0, none⟩)) ∧ FsAt w' L' g' S ∧ w.grownBy w' none ∧ ∀ i, i < w.heap.size → L' i ≠ 0 → L' i = 2 ∧ L i = 2

theorem CopyIn.fin {w wr w' : World} {L LL : Nat → Nat} {S : St} {G mN mn ms mn' ms' : Nat} {vch vch' : Value} {lk : List (Int × Nat)} (h : CopyIn w wr L LL S G mN mn ms vch lk) (hT : Turned (fun i => i = G) wr w') (hfs : FsB w' G (S.v mN mn' ms' vch'))
    (hn : MapAt encN w' mn' S.names) (hs : MapAt encN w' ms' S.safe) (hc : w'.ownsRow 0 78 3 vch' S.changes.length (chcells S.changes)) (hcb : ∀ i, vch'.ownBlock = some i → wr.heap.size ≤ i)
    (h1 : wr.heap.size ≤ mn') (h2 : mn' < ms') (hGw : w.heap.size ≤ G) (hno : ∀ n, aget lk n = none → S.files n = none) : CopyPost L S w (.returned (.pointer (some ⟨G, 0, none⟩))) w' := by
  have hsz := hT.size
  have hGl := h.fs.lt
  have hNl := h.km.lt
  have hGN : mN ≠ G := map_ne h.km h.fs
  have l1 := hn.lt
  have l2 := hs.lt
  refine ⟨G, fun i => if i < wr.heap.size then LL i else if i < w'.heap.size then 1 else 0, rfl, ⟨mN, mn', ms', vch', lk, hfs, ?_, ?_, ?_, ?_, by omega, by omega, by omega, h.km.keep (hT.block mN hNl hGN), hn, hs, ⟨hc, fun i hi => ?_⟩, fun n fb hk => ?_, hno, fun i hi => ?_⟩, ⟨hT.os.trans h.gb.os, hT.tape.trans h.gb.tape, hT.output.trans h.gb.output, Nat.le_trans h.gb.size hsz, fun i hi hne => (hT.block i (Nat.lt_of_lt_of_le hi h.gb.size) (fun e => by omega)).trans (h.gb.block i hi hne)⟩, fun i hi hl => ?_⟩
  · rw [if_pos hGl]; exact h.lG
  · rw [if_pos hNl]; exact h.lN
  · rw [if_neg (by omega), if_pos l1]
  · rw [if_neg (by omega), if_pos l2]
  · have hb := hcb i hi
    have := own_lt hc i hi
    show (if i < wr.heap.size then LL i else if i < w'.heap.size then 1 else 0) = 1
    rw [if_neg (by omega), if_pos this]
  · obtain ⟨hn0, f, hf, hfa⟩ := h.at_ n fb hk
    refine ⟨hn0, f, hf, (hfa.keep fun i hi hl => hT.block i hl (fun e => ?_)).mono (fun i hl hi => ?_) (fun i hl hi => ?_)⟩
    · rw [e] at hi
      rcases hi with hi | hi <;> rw [h.lG] at hi <;> omega
    · rw [if_pos (h.lt i (by rw [hi]; omega))]; exact hi
    · rw [if_pos (h.lt i (by rw [hi]; omega))]; exact hi
  · by_cases k1 : i < wr.heap.size
    · omega
    · by_cases k2 : i < w'.heap.size
      · exact k2
      · simp [k1, k2] at hi
  · have hi' := h.gb.size
    have hl' : (if i < wr.heap.size then LL i else if i < w'.heap.size then 1 else 0) ≠ 0 := hl
    show (if i < wr.heap.size then LL i else if i < w'.heap.size then 1 else 0) = 2 ∧ L i = 2
    rw [if_pos (by omega), h.old i hi] at hl' ⊢
    by_cases h2 : L i = 2
    · exact ⟨if_pos h2, h2⟩
    · rw [if_neg h2] at hl'
      exact absurd rfl hl'

set_option maxHeartbeats 8000000 in
set_option maxRecDepth 100000 in
theorem copy_any (g : Nat) (S : St) (L : Nat → Nat) (w : World) (h : FsAt w L g S) (hF : Fine S) :
    Calls Try.prog 24 #[.pointer (some ⟨g, 0, none⟩)] w (CopyPost L S w) := by
  obtain ⟨mf, mn, ms, vch, lf, h⟩ := h
  obtain ⟨Ac, cc, rfl, hcl, hcm⟩ := h.chs.form
  have H0 := h
  have hgl := h.blk.lt
  have hml := h.files.lt
  have q0 : w.cell? ⟨g, 0, none⟩ = some (.int .i64 S.cap) := h.blk.c0
  have q1 : w.cell? ⟨g, 1, none⟩ = some (.int .i64 S.used) := h.blk.c1
  have q2 : w.cell? ⟨g, 2, none⟩ = some (.int .i64 S.last) := h.blk.c2
  have q3 : w.cell? ⟨g, 3, none⟩ = some (.map (some mf)) := h.blk.c3
  have q4 : w.cell? ⟨g, 4, none⟩ = some (.map (some mn)) := h.blk.c4
  have q5 : w.cell? ⟨g, 5, none⟩ = some (.map (some ms)) := h.blk.c5
  have q6 : w.cell? ⟨g, 6, none⟩ = some (.slice Ac S.changes.length cc) := h.blk.c6
  have q7 : w.cell? ⟨g, 7, none⟩ = some (.int .i64 S.ops) := h.blk.c7
  have q8 : w.cell? ⟨g, 8, none⟩ = some (.int .i64 S.armed) := h.blk.c8
  have q9 : w.cell? ⟨g, 9, none⟩ = some (.bool S.dead) := h.blk.c9
  have HMF := hide (H0.files.grown (gb_alloc (gb_refl w none) (.cells #[.int .i64 S.cap, .int .i64 S.used, .int .i64 S.last, .map (some mf), .map (some mn), .map (some ms), .slice Ac S.changes.length cc, .int .i64 S.ops, .int .i64 S.armed, .bool S.dead] 75)) (by simp))
  have hga2 : w.grownBy ((w.alloc (.cells #[.int .i64 S.cap, .int .i64 S.used, .int .i64 S.last, .map (some (w.heap.size + 1)), .map (some mn), .map (some ms), .slice Ac S.changes.length cc, .int .i64 S.ops, .int .i64 S.armed, .bool S.dead] 75)).alloc (.map #[] 0)) none := gb_alloc (gb_alloc (gb_refl w none) _) _
  have HMF2 := hide (H0.files.grown hga2 (by simp))
  have hz2 : ((w.alloc (.cells #[.int .i64 S.cap, .int .i64 S.used, .int .i64 S.last, .map (some (w.heap.size + 1)), .map (some mn), .map (some ms), .slice Ac S.changes.length cc, .int .i64 S.ops, .int .i64 S.armed, .bool S.dead] 75)).alloc (.map #[] 0)).heap.size = w.heap.size + 2 := by simp
  have HC0 : Hid (CopyIn w ((w.alloc (.cells #[.int .i64 S.cap, .int .i64 S.used, .int .i64 S.last, .map (some (w.heap.size + 1)), .map (some mn), .map (some ms), .slice Ac S.changes.length cc, .int .i64 S.ops, .int .i64 S.armed, .bool S.dead] 75)).alloc (.map #[] 0)) L (fun i => if i < w.heap.size then (if L i = 2 then 2 else 0) else if i < w.heap.size + 2 then 1 else 0) S w.heap.size (w.heap.size + 1) mn ms (.slice Ac S.changes.length cc) []) := hide (by
    refine ⟨?_, ?_, ?_, ?_, fun i hi => if_pos hi, fun i hi => ?_, (fun n fb hk => by cases hk), hga2⟩
    · exact (heap_alloc_old _ _ (by simp)).trans (heap_alloc_new w _)
    · have := MapAt.made (E := encF) (w.alloc (.cells #[.int .i64 S.cap, .int .i64 S.used, .int .i64 S.last, .map (some (w.heap.size + 1)), .map (some mn), .map (some ms), .slice Ac S.changes.length cc, .int .i64 S.ops, .int .i64 S.armed, .bool S.dead] 75))
      have e : (w.alloc (.cells #[.int .i64 S.cap, .int .i64 S.used, .int .i64 S.last, .map (some (w.heap.size + 1)), .map (some mn), .map (some ms), .slice Ac S.changes.length cc, .int .i64 S.ops, .int .i64 S.armed, .bool S.dead] 75)).heap.size = w.heap.size + 1 := by simp
      rw [e] at this
      exact this
    · show (if w.heap.size < w.heap.size then _ else if w.heap.size < w.heap.size + 2 then 1 else 0) = 1
      rw [if_neg (by omega), if_pos (by omega)]
    · show (if w.heap.size + 1 < w.heap.size then _ else if w.heap.size + 1 < w.heap.size + 2 then 1 else 0) = 1
      rw [if_neg (by omega), if_pos (by omega)]
    · rw [hz2]
      by_cases k1 : i < w.heap.size
      · omega
      · by_cases k2 : i < w.heap.size + 2
        · exact k2
        · simp [k1, k2] at hi)
  have HZ2 := hide hz2
  have hmk := fun (w : World) (n : Int) => run_mkmap (P := Try.prog) w 71 3 90 n Try.underlying71
  have H := hide H0
  clear h hga2 hz2 H0
  go_enter Try.func24, Try.ntmps24
  go_wp2_with (first
    | (at_len; refine wpList_mlen (E := encF) _ rfl _ 71 rfl 3 90 Try.underlying71 mf lf rfl HMF.out ?_)
    | (at_range; refine wpList_rng (E := encF) _ rfl _ 71 rfl 3 90 Try.underlying71 mf lf rfl HMF2.out ?_; intro w5 hit hg5 hs5; clear q0 q1 q2 q3 q4 q5 q6 q7 q8 q9 hmk))
  rw [HZ2.out] at hit hs5 ⊢
  have HIT := hide hit
  have HC5 : Hid (∃ LL, CopyIn w w5 L LL S w.heap.size (w.heap.size + 1) mn ms (.slice Ac S.changes.length cc) [] ∧ LL (w.heap.size + 2) = 0) := hide ⟨_, ⟨HC0.out.fs.keep (hg5.block _ HC0.out.fs.lt (by simp)), HC0.out.km.grown hg5 (by simp), HC0.out.lG, HC0.out.lN, HC0.out.old, fun i hi => Nat.lt_of_lt_of_le (HC0.out.lt i hi) hg5.size, (fun n fb hk => by cases hk), gb_trans HC0.out.gb hg5 (.inl rfl)⟩, by
    show (if w.heap.size + 2 < w.heap.size then _ else if w.heap.size + 2 < w.heap.size + 2 then 1 else 0) = 0
    rw [if_neg (by omega), if_neg (by omega)]⟩
  clear hit hg5 HC0 HMF HMF2
  go_frame
  have HLT := hide H.out.lt
  have HFI := hide hF.files
  have HFC := hide hF.chs
  clear hF
  go_loopw [4] (fun _ wr => ∃ (todo done : List (Int × Nat)) (lk : List (Int × Nat)) (LL : Nat → Nat), IterAt encF wr mf (w.heap.size + 2) lf todo ∧ (done ++ todo).Perm lf ∧ CopyIn w wr L LL S w.heap.size (w.heap.size + 1) mn ms (.slice Ac S.changes.length cc) lk ∧ LL (w.heap.size + 2) = 0 ∧ ∀ n, aget lk n = none → ∀ x ∈ done, x.1 ≠ n) (fun _ wr => wr.rangeLeft mf (w.heap.size + 2))
  case atStart =>
    obtain ⟨LL, h1, h2⟩ := HC5.out
    exact ⟨lf, [], [], LL, HIT.out, by simp, h1, h2, (fun n _ x hx => by cases hx)⟩
  case round =>
    obtain ⟨todo, done, lk, LL, hit, hperm, hc, hl0, hno⟩ := hrel
    have HI := hide hit
    have HP := hide hperm
    have HC := hide hc
    have HL0 := hide hl0
    have HNO := hide hno
    clear hit hperm hc hl0 hno HC5 HIT
    go_wp2_with (first
      | (at_next; refine wpList_nxt (E := encF) _ rfl (.tmp 22) rfl mf (w.heap.size + 2) lf todo rfl HI.out ?_ ?_))
    · intro h0
      subst h0
      have hp := HP.out
      rw [List.append_nil] at hp
      have hfin : ∀ n, aget lk n = none → S.files n = none := fun n hn => by
        refine H.out.no n ?_
        cases hx : aget lf n with
        | none => rfl
        | some fb => exact absurd rfl (HNO.out n hn (n, fb) (hp.mem_iff.2 (aget_in hx)))
      have HFN := hide hfin
      clear hfin hp
      have c4 : wr.cell? ⟨g, 4, none⟩ = some (.map (some mn)) := cell_grown H.out.blk.c4 HC.out.gb
      have HN0 := hide (H.out.names.grown HC.out.gb (by simp))
      have hGl := HC.out.fs.lt
      have hgG : g ≠ w.heap.size := by omega
      have hGg : w.heap.size ≠ g := fun e => hgG e.symm
      go_wp2_with fail
      refine (mclone_any mn S.names _ HN0.out).mono ?_
      rintro e w6 ⟨rfl, hm6, hg6, hs6⟩
      have HB6 : Hid (FsB w6 w.heap.size (S.v (w.heap.size + 1) mn ms (.slice Ac S.changes.length cc))) := hide (HC.out.fs.keep (hg6.block _ hGl (by simp)))
      have k4 : w6.cell? ⟨w.heap.size, 4, none⟩ = some (.map (some mn)) := HB6.out.c4
      have f4 := HB6.out.fr 4
      have hgw6 : w.grownBy (w6.setCell ⟨w.heap.size, 4, none⟩ (.map (some wr.heap.size))) none := gb_setCell (gb_trans HC.out.gb hg6 (.inl rfl)) (.inr (Nat.le_refl _)) _
      have c5 : (w6.setCell ⟨w.heap.size, 4, none⟩ (.map (some wr.heap.size))).cell? ⟨g, 5, none⟩ = some (.map (some ms)) := cell_grown H.out.blk.c5 hgw6
      have HG7 := hide hgw6
      have HM7 := hide (hm6.setCell (p := ⟨w.heap.size, 4, none⟩) (fun e => by have e' : w.heap.size = wr.heap.size := e; omega) (.map (some wr.heap.size)))
      have HB7 := hide (HB6.out.set4 wr.heap.size)
      have HT7 := hide (show Turned (fun i => i = w.heap.size) wr (w6.setCell ⟨w.heap.size, 4, none⟩ (.map (some wr.heap.size))) from (Turned.of_gb (M := fun i => i = w.heap.size) hg6 (by simp)).trans (Turned.of_gb (M := fun i => i = w.heap.size) (gb_set (gb_refl w6 (some w.heap.size)) 4 (.map (some wr.heap.size))) (fun i e => by injection e with e; exact e.symm)) (fun i _ h => h))
      have HS7 : Hid ((w6.setCell ⟨w.heap.size, 4, none⟩ (.map (some wr.heap.size))).heap.size = wr.heap.size + 1) := hide (by simp [World.setCell, hs6])
      clear hm6 hg6 hs6 hgw6 HB6
      go_wp2_with fail
      clear c4 k4 f4 c5
      generalize w6.setCell ⟨w.heap.size, 4, none⟩ (.map (some wr.heap.size)) = w7 at *
      refine (mclone_any ms S.safe w7 (H.out.safe.grown HG7.out (by simp))).mono ?_
      rintro e w8 ⟨rfl, hm8, hg8, hs8⟩
      have HB8 : Hid (FsB w8 w.heap.size (S.v (w.heap.size + 1) wr.heap.size ms (.slice Ac S.changes.length cc))) := hide (HB7.out.keep (hg8.block _ HB7.out.lt (by simp)))
      have k5 : w8.cell? ⟨w.heap.size, 5, none⟩ = some (.map (some ms)) := HB8.out.c5
      have f5 := HB8.out.fr 5
      have hgw8 : w.grownBy (w8.setCell ⟨w.heap.size, 5, none⟩ (.map (some w7.heap.size))) none := gb_setCell (gb_trans HG7.out hg8 (.inl rfl)) (.inr (Nat.le_refl _)) _
      have c6 : (w8.setCell ⟨w.heap.size, 5, none⟩ (.map (some w7.heap.size))).cell? ⟨g, 6, none⟩ = some (.slice Ac S.changes.length cc) := cell_grown H.out.blk.c6 hgw8
      have HG9 := hide hgw8
      have h7l := HM7.out.lt
      have HM9 := hide ((HM7.out.grown hg8 (by simp)).setCell (p := ⟨w.heap.size, 5, none⟩) (fun e => by have e' : w.heap.size = wr.heap.size := e; omega) (.map (some w7.heap.size)))
      have HMS9 := hide (hm8.setCell (p := ⟨w.heap.size, 5, none⟩) (fun e => by have e' : w.heap.size = w7.heap.size := e; have := HS7.out; omega) (.map (some w7.heap.size)))
      have HB9 := hide (HB8.out.set5 w7.heap.size)
      have HT9 := hide (HT7.out.trans (show Turned (fun i => i = w.heap.size) w7 (w8.setCell ⟨w.heap.size, 5, none⟩ (.map (some w7.heap.size))) from (Turned.of_gb (M := fun i => i = w.heap.size) hg8 (by simp)).trans (Turned.of_gb (M := fun i => i = w.heap.size) (gb_set (gb_refl w8 (some w.heap.size)) 5 (.map (some w7.heap.size))) (fun i e => by injection e with e; exact e.symm)) (fun i _ h => h)) (fun i _ h => h))
      have HS9 : Hid ((w8.setCell ⟨w.heap.size, 5, none⟩ (.map (some w7.heap.size))).heap.size = wr.heap.size + 2) := hide (by have := HS7.out; simp [World.setCell, hs8]; omega)
      clear hm8 hg8 hs8 hgw8 HB8 h7l
      go_wp2_with fail
      clear k5 f5 c6
      generalize w8.setCell ⟨w.heap.size, 5, none⟩ (.map (some w7.heap.size)) = w9 at *
      refine (clone_ch Ac S.changes.length cc (chcells S.changes) w9 (own_keep H.out.chs.1 fun i _ hl => HG9.out.block i hl (by simp)) (fun u hu => by
        obtain ⟨t, _, ht⟩ := List.mem_flatMap.1 hu
        exact ch_cells t u ht) HFC.out).mono ?_
      rintro e w10 ⟨A10, c10, rfl, ho10, hg10, hb10⟩
      have HB10 : Hid (FsB w10 w.heap.size (S.v (w.heap.size + 1) wr.heap.size w7.heap.size (.slice Ac S.changes.length cc))) := hide (HB9.out.keep (hg10.block _ HB9.out.lt (by simp)))
      have k6 : w10.cell? ⟨w.heap.size, 6, none⟩ = some (.slice Ac S.changes.length cc) := HB10.out.c6
      have f6 := HB10.out.fr 6
      have HO10 := hide ho10
      have HG10 := hide hg10
      have HBB := hide hb10
      clear ho10 hg10 hb10
      go_wp2_with fail
      go_ret
      have hs9 := HS9.out
      have hs7 := HS7.out
      have hz := HG10.out.size
      have hT : Turned (fun i => i = w.heap.size) w9 (w10.setCell ⟨w.heap.size, 6, none⟩ (.slice A10 S.changes.length c10)) := (Turned.of_gb (M := fun i => i = w.heap.size) HG10.out (by simp)).trans (Turned.of_gb (M := fun i => i = w.heap.size) (gb_set (gb_refl w10 (some w.heap.size)) 6 (.slice A10 S.changes.length c10)) (fun i e => by injection e with e; exact e.symm)) (fun i _ h => h)
      refine HC.out.fin (HT9.out.trans hT (fun i _ h => h)) (HB10.out.set6 _) ((HM9.out.grown HG10.out (by simp)).setCell (p := ⟨w.heap.size, 6, none⟩) (fun e => by have e' : w.heap.size = wr.heap.size := e; omega) _) ((HMS9.out.grown HG10.out (by simp)).setCell (p := ⟨w.heap.size, 6, none⟩) (fun e => by have e' : w.heap.size = w7.heap.size := e; omega) _)
        (own_other HO10.out (gb_set (gb_refl w10 (some w.heap.size)) 6 _) HB10.out (by decide)) (fun i hi => by have := HBB.out i hi; omega) (Nat.le_refl _) (by show wr.heap.size < w7.heap.size; omega) (Nat.le_refl _) HFN.out
    · intro j xa xm w6 hx hit6 hg6 hs6 hen
      obtain ⟨x, hxe⟩ : ∃ x : Int × Nat, x = (xa, xm) := ⟨_, rfl⟩
      rw [← hxe] at hx
      obtain rfl : xa = x.1 := by rw [hxe]
      obtain rfl : xm = x.2 := by rw [hxe]
      clear hxe
      have hxl : x ∈ lf := HP.out.mem_iff.1 (List.mem_append_right _ (List.mem_of_getElem? hx))
      obtain ⟨hn0, f, hf, hfa⟩ := H.out.at_ x.1 x.2 (aget_mem H.out.files.nodup hxl)
      have hgw : w.grownBy w6 none := gb_trans HC.out.gb hg6 (.inr (.inr ⟨_, rfl, by omega⟩))
      have hfi := HFI.out _ f hf
      have hen' : (Instr.entry (.pointer (some ⟨w.heap.size + 2, 0, none⟩))).run Try.prog w6 = .ok (.tuple #[.int .i64 x.1, .pointer (some ⟨x.2, 0, none⟩)]) w6 := hen
      have hGl := HC.out.fs.lt
      have hGi : w.heap.size ≠ w.heap.size + 2 := by omega
      have HB6 : Hid (FsB w6 w.heap.size (S.v (w.heap.size + 1) mn ms (.slice Ac S.changes.length cc))) := hide (HC.out.fs.keep (hg6.block _ hGl (fun e => by injection e with e; omega)))
      have k3 : w6.cell? ⟨w.heap.size, 3, none⟩ = some (.map (some (w.heap.size + 1))) := HB6.out.c3
      have HK6 := hide (HC.out.km.grown hg6 (fun e => by injection e with e; omega))
      have HTW := hide (twin_any x.2 f _ _ w6.drew (hfa.grown (gb_drew hgw)) (by omega) (by omega) hfi.2.2)
      have HI6 := hide hit6
      have HX := hide hx
      have HG6 := hide hg6
      have HS6 := hide hs6
      have HN0 := hide hn0
      have HF := hide hf
      clear hit6 hx hg6 hen hfa hfi hf hn0 hgw hxl
      go_wp2_with fail
      go_region_held3 (fun w' => w'.cell? ⟨w.heap.size, 3, none⟩ = some (.map (some (w.heap.size + 1)))) (first | exact k3 | exact k37 | exact k38 | go_keep)
        ((go_simp; go_at_call 49; refine HTW.out.mono ?_; rintro e w7 ⟨g', rfl, hfa7, hg7⟩; have HFA := hide hfa7; have HG7 : Hid (w6.grownBy w7 none) := hide ⟨hg7.os, hg7.tape, hg7.output, hg7.size, hg7.block⟩; have k37 : w7.cell? ⟨w.heap.size, 3, none⟩ = some (.map (some (w.heap.size + 1))) := cell_grown k3 HG7.out; obtain ⟨w8, hrun, hm8, hg8, hs8⟩ := MapAt.update (P := Try.prog) (E := encF) (w := w7) (HK6.out.grown HG7.out (by simp)) Try.underlying3 Try.underlying71 x.1 g'; have hrun' : (Instr.mapUpdate 71 (.map (some (w.heap.size + 1))) (.int .i64 x.1) (.pointer (some ⟨g', 0, none⟩))).run Try.prog w7 = .ok () w8 := hrun; have k38 : w8.cell? ⟨w.heap.size, 3, none⟩ = some (.map (some (w.heap.size + 1))) := (HB6.out.keep ((hg8.block _ (Nat.lt_of_lt_of_le HB6.out.lt HG7.out.size) (fun e => by injection e with e; omega)).trans (HG7.out.block _ HB6.out.lt (by simp)))).c3; have HM8 := hide hm8; have HG8 := hide hg8; have HS8 := hide hs8; clear hfa7 hg7 hrun hm8 hg8 hs8))
      clear k3 k37 k38 hrun'
      obtain ⟨LL', hc', hsame⟩ := HC.out.step HLT.out HL0.out (by omega) (by omega) HG6.out HS6.out HN0.out HF.out HFA.out HG7.out HM8.out HG8.out HS8.out
      have hit8 := (HI6.out.grown HG7.out (by simp) (by simp)).grown HG8.out (fun e => by injection e with e; omega) (fun e => by injection e with e; omega)
      go_roundw
      case rel =>
        have hrel8 : ∃ (todo done : List (Int × Nat)) (lk : List (Int × Nat)) (LL : Nat → Nat), IterAt encF w8 mf (w.heap.size + 2) lf todo ∧ (done ++ todo).Perm lf ∧ CopyIn w w8 L LL S w.heap.size (w.heap.size + 1) mn ms (.slice Ac S.changes.length cc) lk ∧ LL (w.heap.size + 2) = 0 ∧ ∀ n, aget lk n = none → ∀ x ∈ done, x.1 ≠ n := by
          refine ⟨_, done ++ [x], _, LL', hit8, perm_done HP.out HX.out, hc', ?_, fun n hn y hy => ?_⟩
          · rw [hsame _ HI.out.lt]
            exact HL0.out
          · rw [aget_aput] at hn
            by_cases hnx : n = x.1
            · rw [if_pos hnx] at hn; cases hn
            · rw [if_neg hnx] at hn
              rcases List.mem_append.1 hy with hy | hy
              · exact HNO.out n hn y hy
              · rw [List.mem_singleton] at hy
                rw [hy]
                exact fun e => hnx e.symm
        repeat apply Exists.intro
        exact ⟨hrel8, rfl⟩
      case measure =>
        rw [hit8.left, HI.out.left, List.length_eraseIdx]
        have := (List.getElem?_eq_some_iff.1 HX.out).1
        split <;> omega

end Go.Proofs.Ytpkmlehkmmdkoaa
