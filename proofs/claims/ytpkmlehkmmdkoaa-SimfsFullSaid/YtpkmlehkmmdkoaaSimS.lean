/-
  Rename, Remove, Open, Arm upon a file system's state.
-/
import Derived.Test.YtpkmlehkmmdkoaaSimQ
namespace Go.Proofs.Ytpkmlehkmmdkoaa
open Go.RowKit

theorem Moved.grown {L : Nat → Nat} {w w' : World} (hg : w.grownBy w' none) : Moved L w L w' := ⟨Turned.of_gb hg (by simp), fun _ _ => rfl⟩
theorem FsAt.grown {L : Nat → Nat} {g : Nat} {S : St} {w w' : World} (h : FsAt w L g S) (hg : w.grownBy w' none) : FsAt w' L g S := h.keep (Turned.of_gb (M := fun _ => False) hg (by simp)) (fun _ _ h => h)

def askErr (S : St) (l : List ByteArray) (a : ByteArray) : Int := if S.dead then 21 else if l.all nameOk = false then 20 else if aget S.names a = none then 7 else 0

/-- What ready and the look-up of a name tell, at a world in which a row of names was laid. -/
structure Asked (L : Nat → Nat) (g : Nat) (S : St) (l : List ByteArray) (a : ByteArray) (A : Option Addr) (wa : World) : Prop where
  ready : Calls Try.prog 38 #[.pointer (some ⟨g, 0, none⟩), .slice A l.length l.length] wa fun e w' => e = .returned (.int .i64 (readyErr S.dead l)) ∧ wa = w'
  look : ∃ mn, wa.cell? ⟨g, 4, none⟩ = some (.map (some mn)) ∧ (Instr.lookup 72 (.map (some mn)) (.string a) true).run Try.prog wa = .ok (.tuple #[.int .i64 (((aget S.names a).getD 0 : Nat) : Int), .bool (aget S.names a).isSome]) wa
theorem FsAt.asked {L : Nat → Nat} {g : Nat} {S : St} {w : World} (h : FsAt w L g S) (l : List ByteArray) (a : ByteArray) (hl : l.length ≤ 1000) (A : Option Addr) (hr : Rd w w.heap.size A (strs l)) : Asked L g S l a A w := by
  obtain ⟨mf, mn, ms, vch, lf, h⟩ := h
  exact ⟨ready_any g _ A l.length _ l w h.blk hr hl, mn, h.blk.c4, look_ok h.names a⟩

set_option maxHeartbeats 4000000 in
set_option maxRecDepth 100000 in
theorem rename_bad (L : Nat → Nat) (g : Nat) (S : St) (a b : ByteArray) (w : World) (h : FsAt w L g S) (he : askErr S [a, b] a ≠ 0) :
    Calls Try.prog 19 #[.pointer (some ⟨g, 0, none⟩), .string a, .string b] w fun e w' => e = .returned (.int .i64 (askErr S [a, b] a)) ∧ w.grownBy w' none := by
  obtain ⟨wa, hwaE⟩ : ∃ wa, wa = w.alloc (.cells #[.string a, .string b] 9) := ⟨_, rfl⟩
  have hga : w.grownBy wa none := by rw [hwaE]; exact gb_alloc (gb_refl w none) _
  have hrd : Rd wa wa.heap.size (some ⟨w.heap.size, 0, none⟩) (strs [a, b]) := by rw [hwaE]; exact (Rd.new w #[.string a, .string b] 9 _ rfl).more (by simp)
  obtain ⟨hr, mn, q4, hlk⟩ := (h.grown hga).asked [a, b] a (by simp) _ hrd
  have HWE := hide hwaE
  have HG := hide hga
  cases hd : S.dead
  · cases hno : [a, b].all nameOk
    · have e1 : askErr S [a, b] a = 20 := by simp only [askErr, hd, hno]; rfl
      rw [hd, readyErr_no hno] at hr
      have HR := hide hr
      have E1 := hide e1
      clear h hr hga hrd hwaE hd hno e1 hlk he q4
      go_enter Try.func19, Try.ntmps19
      go_wp2_with fail
      rw [← HWE.out]
      refine HR.out.mono ?_
      rintro e w1 ⟨rfl, rfl⟩
      go_wp2
      go_ret
      exact ⟨by rw [E1.out]; rfl, HG.out⟩
    · rw [hd, readyErr_ok hno] at hr
      have hs : aget S.names a = none := by
        refine Classical.byContradiction fun hc => he ?_
        simp only [askErr, hd, hno]
        simp [hc]
      have e1 : askErr S [a, b] a = 7 := by
        simp only [askErr, hd, hno]
        simp [hs]
      rw [hs] at hlk
      have HR := hide hr
      have E1 := hide e1
      clear h hr hga hrd hwaE hd hno e1 he hs
      go_enter Try.func19, Try.ntmps19
      go_wp2_with fail
      rw [← HWE.out]
      refine HR.out.mono ?_
      rintro e w1 ⟨rfl, rfl⟩
      go_wp2
      go_ret
      exact ⟨by rw [E1.out]; rfl, HG.out⟩
  · have e1 : askErr S [a, b] a = 21 := by simp only [askErr, hd]; rfl
    rw [hd] at hr
    have HR := hide hr
    have E1 := hide e1
    clear h hr hga hrd hwaE hd e1 hlk he q4
    go_enter Try.func19, Try.ntmps19
    go_wp2_with fail
    rw [← HWE.out]
    refine HR.out.mono ?_
    rintro e w1 ⟨rfl, rfl⟩
    go_wp2
    go_ret
    exact ⟨by rw [E1.out]; rfl, HG.out⟩

theorem askErr_zero {S : St} {l : List ByteArray} {a : ByteArray} (he : askErr S l a = 0) : S.dead = false ∧ l.all nameOk = true ∧ ∃ n, aget S.names a = some n := by
  unfold askErr at he
  cases hd : S.dead
  · rw [hd] at he
    cases hno : l.all nameOk
    · rw [hno] at he
      simp at he
    · rw [hno] at he
      cases hs : aget S.names a with
      | none => rw [hs] at he; simp at he
      | some n => exact ⟨rfl, rfl, n, rfl⟩
  · rw [hd] at he
    simp at he

set_option maxHeartbeats 4000000 in
set_option maxRecDepth 100000 in
theorem rename_ok (L : Nat → Nat) (g : Nat) (S : St) (a b : ByteArray) (w : World) (h : FsAt w L g S) (he : askErr S [a, b] a = 0) (hF : Fine S) (hN : (followL S.names ⟨a, b, 0⟩).2 ≠ 0 → ∃ f, S.files ((followL S.names ⟨a, b, 0⟩).2 : Int) = some f) :
    Calls Try.prog 19 #[.pointer (some ⟨g, 0, none⟩), .string a, .string b] w (FsPost L g (S.did ⟨a, b, 0⟩) (.int .i64 0) w) := by
  obtain ⟨wa, hwaE⟩ : ∃ wa, wa = w.alloc (.cells #[.string a, .string b] 9) := ⟨_, rfl⟩
  have hga : w.grownBy wa none := by rw [hwaE]; exact gb_alloc (gb_refl w none) _
  have hrd : Rd wa wa.heap.size (some ⟨w.heap.size, 0, none⟩) (strs [a, b]) := by rw [hwaE]; exact (Rd.new w #[.string a, .string b] 9 _ rfl).more (by simp)
  obtain ⟨hr, mn, q4, hlk⟩ := (h.grown hga).asked [a, b] a (by simp) _ hrd
  obtain ⟨hd, hno, n, hs⟩ := askErr_zero he
  rw [hd, readyErr_ok hno] at hr
  rw [hs] at hlk
  have hdo : Calls Try.prog 39 #[.pointer (some ⟨g, 0, none⟩), .agg #[.string a, .string b, .int .i64 0]] wa (FsPost L g (S.did ⟨a, b, 0⟩) (.tuple #[]) wa) := did_in L g S ⟨a, b, 0⟩ wa (h.grown hga) hF hN
  have HWE := hide hwaE
  have HG := hide hga
  have HR := hide hr
  have HDO := hide hdo
  clear h hr hga hrd hwaE hd hno he hs hdo hF hN
  go_enter Try.func19, Try.ntmps19
  go_wp2_with fail
  rw [← HWE.out]
  refine HR.out.mono ?_
  rintro e w1 ⟨rfl, rfl⟩
  go_wp2_with (go_at_call 39; refine HDO.out.mono ?_; rintro e w2 ⟨rfl, hp⟩; have HP := hide hp; clear hp)
  go_ret
  obtain ⟨L', h1, h2⟩ := HP.out
  exact ⟨rfl, L', h1, (Moved.grown HG.out).trans h2⟩

def openVal (S : St) (a : ByteArray) : Int := if askErr S [a] a = 0 then (((aget S.names a).getD 0 : Nat) : Int) else 0

set_option maxHeartbeats 4000000 in
set_option maxRecDepth 100000 in
theorem open_any (L : Nat → Nat) (g : Nat) (S : St) (a : ByteArray) (w : World) (h : FsAt w L g S) :
    Calls Try.prog 22 #[.pointer (some ⟨g, 0, none⟩), .string a] w fun e w' => e = .returned (.tuple #[.int .i64 (openVal S a), .int .i64 (askErr S [a] a)]) ∧ w.grownBy w' none := by
  obtain ⟨wa, hwaE⟩ : ∃ wa, wa = w.alloc (.cells #[.string a] 9) := ⟨_, rfl⟩
  have hga : w.grownBy wa none := by rw [hwaE]; exact gb_alloc (gb_refl w none) _
  have hrd : Rd wa wa.heap.size (some ⟨w.heap.size, 0, none⟩) (strs [a]) := by rw [hwaE]; exact (Rd.new w #[.string a] 9 _ rfl).more (by simp)
  obtain ⟨hr, mn, q4, hlk⟩ := (h.grown hga).asked [a] a (by simp) _ hrd
  have HWE := hide hwaE
  have HG := hide hga
  cases hd : S.dead
  · cases hno : [a].all nameOk
    · have e1 : askErr S [a] a = 20 := by simp only [askErr, hd, hno]; rfl
      rw [hd, readyErr_no hno] at hr
      have HR := hide hr
      have E1 := hide e1
      clear h hr hga hrd hwaE hd hno e1 hlk q4
      go_enter Try.func22, Try.ntmps22
      go_wp2_with fail
      rw [← HWE.out]
      refine HR.out.mono ?_
      rintro e w1 ⟨rfl, rfl⟩
      go_wp2
      go_ret2
      exact ⟨by unfold openVal; rw [E1.out]; rfl, HG.out⟩
    · rw [hd, readyErr_ok hno] at hr
      have HR := hide hr
      cases hs : aget S.names a with
      | none =>
        have e1 : askErr S [a] a = 7 := by
          simp only [askErr, hd, hno]
          simp [hs]
        rw [hs] at hlk
        have E1 := hide e1
        clear h hr hga hrd hwaE hd hno e1 hs
        go_enter Try.func22, Try.ntmps22
        go_wp2_with fail
        rw [← HWE.out]
        refine HR.out.mono ?_
        rintro e w1 ⟨rfl, rfl⟩
        go_wp2
        go_ret2
        exact ⟨by unfold openVal; rw [E1.out]; rfl, HG.out⟩
      | some n =>
        have e1 : askErr S [a] a = 0 := by
          simp only [askErr, hd, hno]
          simp [hs]
        rw [hs] at hlk
        have E1 := hide e1
        have HS := hide hs
        clear h hr hga hrd hwaE hd hno e1 hs
        go_enter Try.func22, Try.ntmps22
        go_wp2_with fail
        rw [← HWE.out]
        refine HR.out.mono ?_
        rintro e w1 ⟨rfl, rfl⟩
        go_wp2
        go_ret2
        exact ⟨by unfold openVal; rw [E1.out, HS.out]; rfl, HG.out⟩
  · have e1 : askErr S [a] a = 21 := by simp only [askErr, hd]; rfl
    rw [hd] at hr
    have HR := hide hr
    have E1 := hide e1
    clear h hr hga hrd hwaE hd e1 hlk q4
    go_enter Try.func22, Try.ntmps22
    go_wp2_with fail
    rw [← HWE.out]
    refine HR.out.mono ?_
    rintro e w1 ⟨rfl, rfl⟩
    go_wp2
    go_ret2
    exact ⟨by unfold openVal; rw [E1.out]; rfl, HG.out⟩

/-! ## what a dead file system answers -/
def St.arm (S : St) (n : Int) : St := { S with armed := max n 0, dead := S.dead || n == 0 }
theorem armed_in (L : Nat → Nat) (g : Nat) (S : St) (n : Int) (wx : World) (h : FsAt wx L g S) :
    Calls Try.prog 18 #[.pointer (some ⟨g, 0, none⟩), .int .i64 n] wx (FsPost L g (S.arm n) (.tuple #[]) wx) := by
  obtain ⟨mf, mn, ms, vch, lf, h1⟩ := h
  refine (arm_any g _ n wx h1.blk).mono ?_
  rintro e w' ⟨rfl, hv, hg⟩
  refine ⟨rfl, ?_⟩
  have hsz := hg.size
  have hne : ∀ i, i ≠ g → (some i : Option Nat) ≠ some g := fun i hi e => hi (by injection e)
  exact h1.rebuild (S' := S.arm n) (fun _ => False) (L' := L) (mf' := mf) (mn' := mn) (ms' := ms) (vch' := vch) (lf' := lf)
      ((Turned.of_gb (M := fun i => i = g) hg (fun i e => by injection e with e; exact e.symm)).mono fun i _ hi => .inl (hi ▸ h1.lg)) (fun _ _ h => h.elim) hv (fun _ _ => rfl) (fun i hi => Nat.lt_of_lt_of_le (h1.lt i hi) hsz) h1.lmf h1.lmn h1.lms h1.ns h1.fn h1.fs
      (h1.files.grown hg (hne _ (map_ne h1.files h1.blk))) (h1.names.grown hg (hne _ (map_ne h1.names h1.blk))) (h1.safe.grown hg (hne _ (map_ne h1.safe h1.blk)))
      ⟨own_keep h1.chs.1 fun i hi hl => hg.block i hl (fun e => own_ne h1.chs.1 h1.blk (by decide) (by injection e with e; rw [hi, e])), h1.chs.2⟩ (fun n fb hn => .inl ⟨hn, rfl, fun _ _ h => h.elim⟩) (fun n hn => h1.no n hn)

set_option maxHeartbeats 1000000 in
set_option maxRecDepth 100000 in
theorem sync_bad (L : Nat → Nat) (g : Nat) (S : St) (n : Int) (x : Int) (w : World) (h : FsAt w L g S) (hx : (S.dead = true ∧ x = 21) ∨ (S.dead = false ∧ S.file n = none ∧ x = 7)) :
    Calls Try.prog 16 #[.pointer (some ⟨g, 0, none⟩), .int .i64 n] w fun e w' => e = .returned (.int .i64 x) ∧ w = w' := by
  obtain ⟨mf, mn, ms, vch, lf, h⟩ := h
  rcases hx with ⟨hd, rfl⟩ | ⟨hd, hn, rfl⟩
  · have HFD := hide (h.find_dead n hd)
    clear h hd
    go_enter Try.func16, Try.ntmps16
    go_wp2_with (go_at_call 40; refine HFD.out.mono ?_; rintro e w1 ⟨rfl, rfl⟩)
    go_ret
    exact ⟨rfl, rfl⟩
  · have HFD := hide (h.find_none hd hn)
    clear h hd hn
    go_enter Try.func16, Try.ntmps16
    go_wp2_with (go_at_call 40; refine HFD.out.mono ?_; rintro e w1 ⟨rfl, rfl⟩)
    go_ret
    exact ⟨rfl, rfl⟩

set_option maxHeartbeats 1000000 in
set_option maxRecDepth 100000 in
theorem syncdir_dead (L : Nat → Nat) (g : Nat) (S : St) (w : World) (h : FsAt w L g S) (hd : S.dead = true) :
    Calls Try.prog 17 #[.pointer (some ⟨g, 0, none⟩)] w fun e w' => e = .returned (.int .i64 21) ∧ w = w' := by
  obtain ⟨mf, mn, ms, vch, lf, h⟩ := h
  have hr := ready_any g _ none 0 0 [] w h.blk Rd.nil_ (by simp)
  rw [show (S.v mf mn ms vch).dead = S.dead from rfl, hd] at hr
  have HR := hide hr
  clear h hr hd
  go_enter Try.func17, Try.ntmps17
  go_wp2_with (go_at_call 38; refine HR.out.mono ?_; rintro e w1 ⟨rfl, rfl⟩)
  go_ret
  exact ⟨rfl, rfl⟩

end Go.Proofs.Ytpkmlehkmmdkoaa
