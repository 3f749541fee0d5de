/-
  Total contracts upon a file system's state: Cut, Write, Remove, Size, WaitingDir, SetCapacity.
-/
import Derived.Test.YtpkmlehkmmdkoaaSimS
namespace Go.Proofs.Ytpkmlehkmmdkoaa
open Go.RowKit

theorem FsPost.same {L : Nat → Nat} {g : Nat} {S : St} {w : World} (h : FsAt w L g S) (v : Value) (j : Nat) : FsPost L g S v w (.returned v) (w.drewN j) := ⟨rfl, L, h.drewN j, (Moved.refl L w).drewN j⟩
theorem FsPost.same0 {L : Nat → Nat} {g : Nat} {S : St} {w : World} (h : FsAt w L g S) (v : Value) : FsPost L g S v w (.returned v) w := ⟨rfl, L, h, Moved.refl L w⟩

/-! ## Cut -/
def St.cutE (S : St) (n k : Int) : Int := if S.dead then 21 else match S.file n with
  | none => 7
  | some f => if k < 0 ∨ (f.bytes.length : Int) < k then 2 else 0
def St.cut (S : St) (n k : Int) : St := if S.dead then S else match S.file n with
  | none => S
  | some f => if k < 0 ∨ (f.bytes.length : Int) < k then S else S.wrote n f ⟨true, k.toNat, []⟩

theorem doW_cut (b : List UInt8) (k : Nat) : doW b ⟨true, k, []⟩ = b.take k := by simp [doW]

theorem cut_alter {w : World} {L : Nat → Nat} {g : Nat} {S : St} {mf mn ms : Nat} {vch : Value} {lf : List (Int × Nat)} {n : Int} {fb : Nat} {f : Fl} (h : FsIn w L g S mf mn ms vch lf) (hF : Fine S) (hn : aget lf n = some fb) (hfi : S.files n = some f)
    (hfa : FileAt w (fun i => L i = n.toNat + 3) (fun i => L i = 2) fb f) (k : Nat) (hk : k ≤ f.bytes.length) :
    Calls Try.prog 52 #[.pointer (some ⟨g, 0, none⟩), .pointer (some ⟨fb, 0, none⟩), .agg #[.bool true, .int .i64 (k : Int), .slice none 0 0]] w (FsPost L g (S.wrote n f ⟨true, k, []⟩) (.tuple #[]) w) := by
  have hb := hF.files n f hfi
  refine (alter_any g fb (S.v mf mn ms vch) _ _ f ⟨true, k, []⟩ (.slice none 0 0) w h.blk hfa BsAt.nil_ hk (fun i hi => ⟨by omega, h.lt i (by omega), fun e => by rw [e, h.lg] at hi; omega⟩) (fun i hi => ⟨h.lt i (by omega), fun e => by rw [e, h.lg] at hi; omega⟩)
    (by simp; omega) hb.2.2 hF.used hF.ops hF.armed (by rw [doW_cut]; simp; omega)).mono ?_
  rintro e w' ⟨rfl, h1, h2, h3⟩
  have he : PutPost g fb (S.v mf mn ms vch) (fun i => L i = n.toNat + 3) (fun i => L i = 2) f ⟨true, k, []⟩ w (.returned (.int .i64 0)) w' := ⟨rfl, h1, h3, w.heap.size, Nat.le_refl _, h3.size, h2.mono (fun _ _ h => h) (fun _ _ h => .inl h)⟩
  exact ⟨rfl, h.wrote hn he⟩

set_option maxHeartbeats 2000000 in
set_option maxRecDepth 100000 in
theorem cut_any (L : Nat → Nat) (g : Nat) (S : St) (n k : Int) (w : World) (h : FsAt w L g S) (hF : Fine S) :
    Calls Try.prog 26 #[.pointer (some ⟨g, 0, none⟩), .int .i64 n, .int .i64 k] w (FsPost L g (S.cut n k) (.int .i64 (S.cutE n k)) w) := by
  have H := hide h
  obtain ⟨mf, mn, ms, vch, lf, h⟩ := h
  cases hd : S.dead
  · cases hn : S.file n with
    | none =>
      have e1 : S.cutE n k = 7 := by unfold St.cutE; rw [hd, hn]; rfl
      have e2 : S.cut n k = S := by unfold St.cut; rw [hd, hn]; rfl
      rw [e1, e2]
      have HFD := hide (h.find_none hd hn)
      clear h hd hn e1 e2 hF
      go_enter Try.func26, Try.ntmps26
      go_wp2_with (go_at_call 40; refine HFD.out.mono ?_; rintro e w1 ⟨rfl, rfl⟩)
      go_ret
      exact FsPost.same0 H.out _
    | some f =>
      obtain ⟨fb, h1, h2, h3, h4⟩ := h.find_some hd hn
      have HFD := hide h4
      have hfa := h2
      obtain ⟨fv, hfl, _, _, hbb, _⟩ := h2
      obtain ⟨A1, c1, hv, hnc, hcm⟩ := hbb.form
      unfold maxLen at hcm
      have q1 := hfl.c1
      rw [hv] at q1
      by_cases hk : k < 0 ∨ (f.bytes.length : Int) < k
      · have e1 : S.cutE n k = 2 := by unfold St.cutE; rw [hd, hn]; simp [hk]
        have e2 : S.cut n k = S := by unfold St.cut; rw [hd, hn]; simp [hk]
        rw [e1, e2]
        rcases hk with hk | hk
        · clear h hd hn e1 e2 hF hfl hbb hv h4 hfa h1 h3
          go_enter Try.func26, Try.ntmps26
          go_wp2_with (go_at_call 40; refine HFD.out.mono ?_; rintro e w1 ⟨rfl, rfl⟩)
          go_ret
          exact FsPost.same0 H.out _
        · have hk0 : ¬ k < 0 := by omega
          clear h hd hn e1 e2 hF hfl hbb hv h4 hfa h1 h3
          go_enter Try.func26, Try.ntmps26
          go_wp2_with (go_at_call 40; refine HFD.out.mono ?_; rintro e w1 ⟨rfl, rfl⟩)
          go_ret
          exact FsPost.same0 H.out _
      · have e1 : S.cutE n k = 0 := by unfold St.cutE; rw [hd, hn]; simp [hk]
        have e2 : S.cut n k = S.wrote n f ⟨true, k.toNat, []⟩ := by unfold St.cut; rw [hd, hn]; simp [hk]
        rw [e1, e2]
        have hk0 : ¬ k < 0 := by omega
        have hk1 : ¬ (f.bytes.length : Int) < k := by omega
        obtain ⟨j, rfl⟩ : ∃ j : Nat, k = (j : Int) := ⟨k.toNat, by omega⟩
        have HAL := hide (cut_alter h hF h1 (St.file_some hn).1 hfa j (by omega))
        have ej : (j : Int).toNat = j := by omega
        rw [ej]
        clear h hd hn e1 e2 hF hfl hbb hv h4 hfa h1 h3 hk ej hk0
        go_enter Try.func26, Try.ntmps26
        go_wp2_with (first
          | (go_at_call 40; refine HFD.out.mono ?_; rintro e w1 ⟨rfl, rfl⟩)
          | (go_at_call 52; refine HAL.out.mono ?_; rintro e w2 ⟨rfl, hp⟩; have HP := hide hp; clear hp))
        go_ret
        exact ⟨rfl, HP.out⟩
  · have e1 : S.cutE n k = 21 := by unfold St.cutE; rw [hd]; rfl
    have e2 : S.cut n k = S := by unfold St.cut; rw [hd]; rfl
    rw [e1, e2]
    have HFD := hide (h.find_dead n hd)
    clear h hd e1 e2 hF
    go_enter Try.func26, Try.ntmps26
    go_wp2_with (go_at_call 40; refine HFD.out.mono ?_; rintro e w1 ⟨rfl, rfl⟩)
    go_ret
    exact FsPost.same0 H.out _

/-! ## Write -/
def St.writeE (S : St) (n k : Int) (m : Nat) : Int := if S.dead then 21 else match S.file n with
  | none => 7
  | some f => if k < 0 ∨ (f.bytes.length : Int) < k then 2 else if (f.bytes.length : Int) < k + m ∧ S.cap < S.used + (k + m - f.bytes.length) then 5 else 0
def St.write (S : St) (n k : Int) (p : List UInt8) : St := if S.dead then S else match S.file n with
  | none => S
  | some f => if k < 0 ∨ (f.bytes.length : Int) < k then S else if (f.bytes.length : Int) < k + p.length ∧ S.cap < S.used + (k + p.length - f.bytes.length) then S else S.wrote n f ⟨false, k.toNat, p⟩

set_option maxHeartbeats 2000000 in
set_option maxRecDepth 100000 in
theorem write_any (L : Nat → Nat) (g : Nat) (S : St) (n k : Int) (A : Option Addr) (m c B : Nat) (p : List UInt8) (w : World) (h : FsAt w L g S) (hF : Fine S) (hr : Rd w B A (u8s p)) (hB : B ≤ w.heap.size) (hm : m = p.length) (hp : p.length ≤ 400000000) :
    Calls Try.prog 25 #[.pointer (some ⟨g, 0, none⟩), .int .i64 n, .int .i64 k, .slice A m c] w (FsPost L g (S.write n k p) (.int .i64 (S.writeE n k m)) w) := by
  have H := hide h
  obtain ⟨mf, mn, ms, vch, lf, h⟩ := h
  cases hd : S.dead
  · cases hn : S.file n with
    | none =>
      have e1 : S.writeE n k m = 7 := by unfold St.writeE; rw [hd, hn]; rfl
      have e2 : S.write n k p = S := by unfold St.write; rw [hd, hn]; rfl
      rw [e1, e2]
      have HFD := hide (h.find_none hd hn)
      clear h hd hn e1 e2 hF hr hm
      go_enter Try.func25, Try.ntmps25
      go_wp2_with (go_at_call 40; refine HFD.out.mono ?_; rintro e w1 ⟨rfl, rfl⟩)
      go_ret
      exact FsPost.same0 H.out _
    | some f =>
      obtain ⟨fb, h1, h2, h3, h4⟩ := h.find_some hd hn
      have HFD := hide h4
      have hb := hF.files n f (St.file_some hn).1
      by_cases hk : k < 0 ∨ (f.bytes.length : Int) < k
      · have e1 : S.writeE n k m = 2 := by unfold St.writeE; rw [hd, hn]; simp [hk]
        have e2 : S.write n k p = S := by unfold St.write; rw [hd, hn]; simp [hk]
        rw [e1, e2]
        have HPA := hide (put_arg g fb _ _ f k A m c w h2 hk)
        clear h hd hn e1 e2 hF hr hm h4 h1 h2 h3 hk hb
        go_enter Try.func25, Try.ntmps25
        go_wp2_with (first
          | (go_at_call 40; refine HFD.out.mono ?_; rintro e w1 ⟨rfl, rfl⟩)
          | (go_at_call 41; refine HPA.out.mono ?_; rintro e w1 ⟨rfl, rfl⟩))
        go_ret
        exact FsPost.same0 H.out _
      · obtain ⟨j, rfl⟩ : ∃ j : Nat, k = (j : Int) := ⟨k.toNat, by omega⟩
        by_cases hc : (f.bytes.length : Int) < (j : Int) + m ∧ S.cap < S.used + ((j : Int) + m - f.bytes.length)
        · have e1 : S.writeE n j m = 5 := by unfold St.writeE; rw [hd, hn]; simp only [Bool.false_eq_true, if_false, if_neg hk, if_pos hc]
          have e2 : S.write n j p = S := by
            unfold St.write
            rw [hd, hn]
            rw [hm] at hc
            simp only [Bool.false_eq_true, if_false, if_neg hk, if_pos hc]
          rw [e1, e2]
          have HPF := hide (put_full g fb (S.v mf mn ms vch) _ _ f j m A c w h.blk h2 (by omega) (by omega) (by omega) hF.used (by omega) hc.2)
          clear h hd hn e1 e2 hF hr hm h4 h1 h2 h3 hk hb hc
          go_enter Try.func25, Try.ntmps25
          go_wp2_with (first
            | (go_at_call 40; refine HFD.out.mono ?_; rintro e w1 ⟨rfl, rfl⟩)
            | (go_at_call 41; refine HPF.out.mono ?_; rintro e w1 ⟨rfl, i, rfl⟩))
          go_ret
          exact FsPost.same H.out _ _
        · have e1 : S.writeE n j m = 0 := by unfold St.writeE; rw [hd, hn]; simp only [Bool.false_eq_true, if_false, if_neg hk, if_neg hc]
          have e2 : S.write n j p = S.wrote n f ⟨false, j, p⟩ := by
            unfold St.write
            rw [hd, hn]
            rw [hm] at hc
            simp only [Bool.false_eq_true, if_false, if_neg hk, if_neg hc]
            rfl
          rw [e1, e2]
          have HPO := hide (h.put_ok hF h1 (St.file_some hn).1 h2 j m A c B p hr hB hm (by omega) hp (by omega))
          clear h hd hn e1 e2 hF hr hm h4 h1 h2 h3 hk hb hc
          go_enter Try.func25, Try.ntmps25
          go_wp2_with (first
            | (go_at_call 40; refine HFD.out.mono ?_; rintro e w1 ⟨rfl, rfl⟩)
            | (go_at_call 41; refine HPO.out.mono ?_; rintro e w1 ⟨rfl, hpo⟩; have HPP := hide hpo; clear hpo))
          go_ret
          exact ⟨rfl, HPP.out⟩
  · have e1 : S.writeE n k m = 21 := by unfold St.writeE; rw [hd]; rfl
    have e2 : S.write n k p = S := by unfold St.write; rw [hd]; rfl
    rw [e1, e2]
    have HFD := hide (h.find_dead n hd)
    clear h hd e1 e2 hF hr hm
    go_enter Try.func25, Try.ntmps25
    go_wp2_with (go_at_call 40; refine HFD.out.mono ?_; rintro e w1 ⟨rfl, rfl⟩)
    go_ret
    exact FsPost.same0 H.out _

/-! ## Remove -/
def St.remove (S : St) (a : ByteArray) : St := if askErr S [a] a = 0 then S.did ⟨a, ⟨#[]⟩, 0⟩ else S

set_option maxHeartbeats 4000000 in
set_option maxRecDepth 100000 in
theorem remove_any (L : Nat → Nat) (g : Nat) (S : St) (a : ByteArray) (w : World) (h : FsAt w L g S) (hF : Fine S) (hN : askErr S [a] a = 0 → (followL S.names ⟨a, ⟨#[]⟩, 0⟩).2 ≠ 0 → ∃ f, S.files ((followL S.names ⟨a, ⟨#[]⟩, 0⟩).2 : Int) = some f) :
    Calls Try.prog 27 #[.pointer (some ⟨g, 0, none⟩), .string a] w (FsPost L g (S.remove a) (.int .i64 (askErr S [a] a)) w) := by
  obtain ⟨wa, hwaE⟩ : ∃ wa, wa = w.alloc (.cells #[.string a] 9) := ⟨_, rfl⟩
  have hga : w.grownBy wa none := by rw [hwaE]; exact gb_alloc (gb_refl w none) _
  have hrd : Rd wa wa.heap.size (some ⟨w.heap.size, 0, none⟩) (strs [a]) := by rw [hwaE]; exact (Rd.new w #[.string a] 9 _ rfl).more (by simp)
  obtain ⟨hr, mn, q4, hlk⟩ := (h.grown hga).asked [a] a (by simp) _ hrd
  have HWE := hide hwaE
  have HG := hide hga
  have H := hide (h.grown hga)
  cases hd : S.dead
  · cases hno : [a].all nameOk
    · have e1 : askErr S [a] a = 20 := by simp only [askErr, hd, hno]; rfl
      have e2 : S.remove a = S := by unfold St.remove; rw [e1]; rfl
      rw [e1, e2]
      rw [hd, readyErr_no hno] at hr
      have HR := hide hr
      clear h hr hga hrd hwaE hd hno e1 e2 hlk q4 hF hN
      go_enter Try.func27, Try.ntmps27
      go_wp2_with fail
      rw [← HWE.out]
      refine HR.out.mono ?_
      rintro e w1 ⟨rfl, rfl⟩
      go_wp2
      go_ret
      exact ⟨rfl, L, H.out, Moved.grown HG.out⟩
    · rw [hd, readyErr_ok hno] at hr
      have HR := hide hr
      cases hs : aget S.names a with
      | none =>
        have e1 : askErr S [a] a = 7 := by
          simp only [askErr, hd, hno]
          simp [hs]
        have e2 : S.remove a = S := by unfold St.remove; rw [e1]; rfl
        rw [e1, e2]
        rw [hs] at hlk
        clear h hr hga hrd hwaE hd hno e1 e2 hs hF hN
        go_enter Try.func27, Try.ntmps27
        go_wp2_with fail
        rw [← HWE.out]
        refine HR.out.mono ?_
        rintro e w1 ⟨rfl, rfl⟩
        go_wp2
        go_ret
        exact ⟨rfl, L, H.out, Moved.grown HG.out⟩
      | some n =>
        have e1 : askErr S [a] a = 0 := by
          simp only [askErr, hd, hno]
          simp [hs]
        have e2 : S.remove a = S.did ⟨a, ⟨#[]⟩, 0⟩ := by unfold St.remove; rw [if_pos e1]
        have hdo : Calls Try.prog 39 #[.pointer (some ⟨g, 0, none⟩), .agg #[.string a, .string ⟨#[]⟩, .int .i64 0]] wa (FsPost L g (S.did ⟨a, ⟨#[]⟩, 0⟩) (.tuple #[]) wa) := did_in L g S ⟨a, ⟨#[]⟩, 0⟩ wa (h.grown hga) hF (hN e1)
        rw [e1, e2]
        rw [hs] at hlk
        have HDO := hide hdo
        clear h hr hga hrd hwaE hd hno e1 e2 hs hF hN hdo
        go_enter Try.func27, Try.ntmps27
        go_wp2_with fail
        rw [← HWE.out]
        refine HR.out.mono ?_
        rintro e w1 ⟨rfl, rfl⟩
        go_wp2_with (go_at_call 39; refine HDO.out.mono ?_; rintro e w2 ⟨rfl, hp⟩; have HP := hide hp; clear hp)
        go_ret
        obtain ⟨L', h1, h2⟩ := HP.out
        exact ⟨rfl, L', h1, (Moved.grown HG.out).trans h2⟩
  · have e1 : askErr S [a] a = 21 := by simp only [askErr, hd]; rfl
    have e2 : S.remove a = S := by unfold St.remove; rw [e1]; rfl
    rw [e1, e2]
    rw [hd] at hr
    have HR := hide hr
    clear h hr hga hrd hwaE hd e1 e2 hlk q4 hF hN
    go_enter Try.func27, Try.ntmps27
    go_wp2_with fail
    rw [← HWE.out]
    refine HR.out.mono ?_
    rintro e w1 ⟨rfl, rfl⟩
    go_wp2
    go_ret
    exact ⟨rfl, L, H.out, Moved.grown HG.out⟩

end Go.Proofs.Ytpkmlehkmmdkoaa
