/-
  The contracts of Append, Write, Sync, Waiting at a file system.
-/
import Derived.Test.YtpkmlehkmmdkoaaSim9
namespace Go.Proofs.Ytpkmlehkmmdkoaa
open Go.RowKit

/-- The file of a number, if it has a name. -/
def St.file (S : St) (n : Int) : Option Fl := match S.files n with | some f => if f.gone then none else some f | none => none
theorem St.file_some {S : St} {n : Int} {f : Fl} (h : S.file n = some f) : S.files n = some f ∧ f.gone = false := by
  unfold St.file at h
  cases hf : S.files n with
  | none => rw [hf] at h; cases h
  | some f' =>
    rw [hf] at h
    cases hg : f'.gone
    · simp [hg] at h; subst h; exact ⟨rfl, hg⟩
    · simp [hg] at h

section
variable {w : World} {L : Nat → Nat} {g : Nat} {S : St} {mf mn ms : Nat} {vch : Value} {lf : List (Int × Nat)}
theorem FsIn.named_none (h : FsIn w L g S mf mn ms vch lf) {n : Int} (hn : S.file n = none) :
    Calls Try.prog 54 #[.pointer (some ⟨g, 0, none⟩), .int .i64 n] w fun e w' => e = .returned (.pointer none) ∧ w = w' := by
  cases hl : aget lf n with
  | none => exact named_no g _ lf n w h.blk h.files hl
  | some fb =>
    obtain ⟨_, f, hf, fv, hfl, _, hgo, _⟩ := h.at_ n fb hl
    refine (named_yes g fb _ fv lf n w h.blk h.files hl hfl).mono fun e w' ⟨he, hw⟩ => ⟨?_, hw⟩
    have : f.gone = true := by
      unfold St.file at hn
      rw [hf] at hn
      cases hg : f.gone
      · simp [hg] at hn
      · rfl
    rw [he, hgo, this]
    rfl
theorem FsIn.named_some (h : FsIn w L g S mf mn ms vch lf) {n : Int} {f : Fl} (hn : S.file n = some f) :
    ∃ fb, aget lf n = some fb ∧ FileAt w (fun i => L i = n.toNat + 3) (fun i => L i = 2) fb f ∧ 0 < n ∧
      Calls Try.prog 54 #[.pointer (some ⟨g, 0, none⟩), .int .i64 n] w fun e w' => e = .returned (.pointer (some ⟨fb, 0, none⟩)) ∧ w = w' := by
  obtain ⟨hf, hgo⟩ := St.file_some hn
  cases hl : aget lf n with
  | none => rw [h.no n hl] at hf; cases hf
  | some fb =>
    obtain ⟨h0, f', hf', hfa⟩ := h.at_ n fb hl
    rw [hf] at hf'
    injection hf' with hf'
    subst hf'
    have hfa' := hfa
    obtain ⟨fv, hfl, _, hgo', _⟩ := hfa
    refine ⟨fb, rfl, hfa', h0, (named_yes g fb _ fv lf n w h.blk h.files hl hfl).mono fun e w' ⟨he, hw⟩ => ⟨?_, hw⟩⟩
    rw [he, hgo', hgo]
    rfl
theorem FsIn.find_dead (h : FsIn w L g S mf mn ms vch lf) (n : Int) (hd : S.dead = true) :
    Calls Try.prog 40 #[.pointer (some ⟨g, 0, none⟩), .int .i64 n] w fun e w' => e = .returned (.tuple #[.pointer none, .int .i64 21]) ∧ w = w' := Go.Proofs.Ytpkmlehkmmdkoaa.find_dead g _ n w h.blk hd
theorem FsIn.find_none (h : FsIn w L g S mf mn ms vch lf) {n : Int} (hd : S.dead = false) (hn : S.file n = none) :
    Calls Try.prog 40 #[.pointer (some ⟨g, 0, none⟩), .int .i64 n] w fun e w' => e = .returned (.tuple #[.pointer none, .int .i64 7]) ∧ w = w' := find_no g _ n w h.blk hd (h.named_none hn)
theorem FsIn.find_some (h : FsIn w L g S mf mn ms vch lf) {n : Int} {f : Fl} (hd : S.dead = false) (hn : S.file n = some f) :
    ∃ fb, aget lf n = some fb ∧ FileAt w (fun i => L i = n.toNat + 3) (fun i => L i = 2) fb f ∧ 0 < n ∧
      Calls Try.prog 40 #[.pointer (some ⟨g, 0, none⟩), .int .i64 n] w fun e w' => e = .returned (.tuple #[.pointer (some ⟨fb, 0, none⟩), .int .i64 0]) ∧ w = w' := by
  obtain ⟨fb, h1, h2, h3, h4⟩ := h.named_some hn
  exact ⟨fb, h1, h2, h3, find_yes g fb _ n w h.blk hd h4⟩
end

/-- The numbers are such that no sum of them turns over. -/
structure Fine (S : St) : Prop where
  used : 0 ≤ S.used ∧ S.used ≤ 1000000000000000
  ops : 0 ≤ S.ops ∧ S.ops ≤ 2000000000
  armed : S.armed ≤ 9223372036854775807
  last : 0 ≤ S.last ∧ S.last ≤ 2000000000
  chs : S.changes.length ≤ 1000000
  files : ∀ n f, S.files n = some f → f.bytes.length ≤ 500000000 ∧ f.safe.length ≤ 500000000 ∧ f.waits.length ≤ 1000000

/-- A write that is done. -/
def St.wrote (S : St) (n : Int) (f : Fl) (x : Wr) : St := (({ S with used := S.used - f.bytes.length + (doW f.bytes x).length } : St).setFile n { f with bytes := doW f.bytes x, waits := f.waits ++ [x] }).count

theorem FsIn.wrote {w w' : World} {L : Nat → Nat} {g : Nat} {S : St} {mf mn ms : Nat} {vch : Value} {lf : List (Int × Nat)} {n : Int} {fb : Nat} {f : Fl} {x : Wr} (h : FsIn w L g S mf mn ms vch lf) (hn : aget lf n = some fb)
    (hp : PutPost g fb (S.v mf mn ms vch) (fun i => L i = n.toNat + 3) (fun i => L i = 2) f x w (.returned (.int .i64 0)) w') : ∃ L', FsAt w' L' g (S.wrote n f x) ∧ Moved L w L' w' := by
  obtain ⟨_, hb, hT, s, hs, hs', hf⟩ := hp
  refine h.turn (S' := S.wrote n f x) hn ?_ hT hs hs' hf ?_ ?_ ?_ ?_
  · have e : ({ S.v mf mn ms vch with used := (S.v mf mn ms vch).used - f.bytes.length + (doW f.bytes x).length } : FsV) = (({ S with used := S.used - f.bytes.length + (doW f.bytes x).length } : St).setFile n { f with bytes := doW f.bytes x, waits := f.waits ++ [x] }).v mf mn ms vch := rfl
    rw [e, St.count_v] at hb
    exact hb
  · exact St.count_files _
  · exact St.count_names _
  · exact St.count_safe _
  · exact St.count_changes _

theorem FsIn.put_ok {w : World} {L : Nat → Nat} {g : Nat} {S : St} {mf mn ms : Nat} {vch : Value} {lf : List (Int × Nat)} {n : Int} {fb : Nat} {f : Fl} (h : FsIn w L g S mf mn ms vch lf) (hF : Fine S) (hn : aget lf n = some fb) (hfi : S.files n = some f)
    (hfa : FileAt w (fun i => L i = n.toNat + 3) (fun i => L i = 2) fb f) (k m : Nat) (A : Option Addr) (c B : Nat) (p : List UInt8) (hr : Rd w B A (u8s p)) (hB : B ≤ w.heap.size) (hm : m = p.length) (hk : k ≤ f.bytes.length) (hp : p.length ≤ 400000000)
    (hfit : k + m ≤ f.bytes.length ∨ S.used + (k + m - f.bytes.length : Int) ≤ S.cap) :
    Calls Try.prog 41 #[.pointer (some ⟨g, 0, none⟩), .pointer (some ⟨fb, 0, none⟩), .int .i64 (k : Int), .slice A m c] w fun e w' => e = .returned (.int .i64 0) ∧ ∃ L', FsAt w' L' g (S.wrote n f ⟨false, k, p⟩) ∧ Moved L w L' w' := by
  have hb := hF.files n f hfi
  refine (Go.Proofs.Ytpkmlehkmmdkoaa.put_ok g fb (S.v mf mn ms vch) _ _ f k m A c B p w h.blk hfa hr hB hm hk (fun i hi => ⟨by omega, h.lt i (by omega), fun e => by rw [e, h.lg] at hi; omega⟩) (fun i hi => ⟨h.lt i (by omega), fun e => by rw [e, h.lg] at hi; omega⟩) (by omega) hb.2.2 hF.used hF.ops hF.armed hfit).mono fun e w' hp => ⟨hp.1, ?_⟩
  have he : PutPost g fb (S.v mf mn ms vch) (fun i => L i = n.toNat + 3) (fun i => L i = 2) f ⟨false, k, p⟩ w (.returned (.int .i64 0)) w' := ⟨rfl, hp.2⟩
  exact h.wrote hn he

set_option maxHeartbeats 1000000 in
set_option maxRecDepth 100000 in
theorem append_dead (L : Nat → Nat) (g : Nat) (S : St) (n : Int) (A : Option Addr) (m c : Nat) (w : World) (h : FsAt w L g S) (hd : S.dead = true) :
    Calls Try.prog 15 #[.pointer (some ⟨g, 0, none⟩), .int .i64 n, .slice A m c] w fun e w' => e = .returned (.int .i64 21) ∧ w = w' := by
  obtain ⟨mf, mn, ms, vch, lf, h⟩ := h
  have HFD := hide (h.find_dead n hd)
  clear h hd
  go_enter Try.func15, Try.ntmps15
  go_wp2_with (go_at_call 40; refine HFD.out.mono ?_; rintro e w1 ⟨rfl, rfl⟩)
  go_ret
  exact ⟨rfl, rfl⟩

set_option maxHeartbeats 1000000 in
set_option maxRecDepth 100000 in
theorem append_none (L : Nat → Nat) (g : Nat) (S : St) (n : Int) (A : Option Addr) (m c : Nat) (w : World) (h : FsAt w L g S) (hd : S.dead = false) (hn : S.file n = none) :
    Calls Try.prog 15 #[.pointer (some ⟨g, 0, none⟩), .int .i64 n, .slice A m c] w fun e w' => e = .returned (.int .i64 7) ∧ w = w' := by
  obtain ⟨mf, mn, ms, vch, lf, h⟩ := h
  have HFD := hide (h.find_none hd hn)
  clear h hd hn
  go_enter Try.func15, Try.ntmps15
  go_wp2_with (go_at_call 40; refine HFD.out.mono ?_; rintro e w1 ⟨rfl, rfl⟩)
  go_ret
  exact ⟨rfl, rfl⟩

set_option maxHeartbeats 1000000 in
set_option maxRecDepth 100000 in
theorem append_full (L : Nat → Nat) (g : Nat) (S : St) (n : Int) (f : Fl) (A : Option Addr) (m c : Nat) (w : World) (h : FsAt w L g S) (hF : Fine S) (hd : S.dead = false) (hn : S.file n = some f) (hm : m ≤ 400000000) (h0 : 0 < m) (hc : S.cap < S.used + m) :
    Calls Try.prog 15 #[.pointer (some ⟨g, 0, none⟩), .int .i64 n, .slice A m c] w fun e w' => e = .returned (.int .i64 5) ∧ ∃ j, w' = w.drewN j := by
  obtain ⟨mf, mn, ms, vch, lf, h⟩ := h
  obtain ⟨fb, h1, h2, h3, h4⟩ := h.find_some hd hn
  have hb := hF.files n f (St.file_some hn).1
  have HPF := hide (put_full g fb (S.v mf mn ms vch) _ _ f f.bytes.length m A c w h.blk h2 (Nat.le_refl _) (by omega) (by omega) hF.used (by omega) (by show S.cap < S.used + _; omega))
  have HFD := hide h4
  obtain ⟨fv, hfl, _, _, hbb, _⟩ := h2
  obtain ⟨A1, c1, hv, hnc, hcm⟩ := hbb.form
  unfold maxLen at hcm
  have q1 := hfl.c1
  rw [hv] at q1
  clear h hd hn h4 hfl hbb hv hF
  go_enter Try.func15, Try.ntmps15
  go_wp2_with (first
    | (go_at_call 40; refine HFD.out.mono ?_; rintro e w1 ⟨rfl, rfl⟩)
    | (go_at_call 41; refine HPF.out.mono ?_; rintro e w1 ⟨rfl, j, rfl⟩))
  go_ret
  exact ⟨rfl, j, rfl⟩

set_option maxHeartbeats 1000000 in
set_option maxRecDepth 100000 in
theorem append_ok (L : Nat → Nat) (g : Nat) (S : St) (n : Int) (f : Fl) (A : Option Addr) (m c B : Nat) (p : List UInt8) (w : World) (h : FsAt w L g S) (hF : Fine S) (hd : S.dead = false) (hn : S.file n = some f) (hr : Rd w B A (u8s p)) (hB : B ≤ w.heap.size) (hm : m = p.length) (hp : p.length ≤ 400000000)
    (hfit : m = 0 ∨ S.used + m ≤ S.cap) :
    Calls Try.prog 15 #[.pointer (some ⟨g, 0, none⟩), .int .i64 n, .slice A m c] w (FsPost L g (S.wrote n f ⟨false, f.bytes.length, p⟩) (.int .i64 0) w) := by
  obtain ⟨mf, mn, ms, vch, lf, h⟩ := h
  obtain ⟨fb, h1, h2, h3, h4⟩ := h.find_some hd hn
  have HPO := hide (h.put_ok hF h1 (St.file_some hn).1 h2 f.bytes.length m A c B p hr hB hm (Nat.le_refl _) hp (by omega))
  have HFD := hide h4
  obtain ⟨fv, hfl, _, _, hbb, _⟩ := h2
  obtain ⟨A1, c1, hv, hnc, hcm⟩ := hbb.form
  unfold maxLen at hcm
  have q1 := hfl.c1
  rw [hv] at q1
  clear h hd hn h4 hfl hbb hv hF hr hm hp hfit
  go_enter Try.func15, Try.ntmps15
  go_wp2_with (first
    | (go_at_call 40; refine HFD.out.mono ?_; rintro e w1 ⟨rfl, rfl⟩)
    | (go_at_call 41; refine HPO.out.mono ?_; rintro e w1 ⟨rfl, hpo⟩; have HPP := hide hpo; clear hpo))
  go_ret
  exact ⟨rfl, HPP.out⟩

/-! ## Sync, Waiting -/

def St.synced (S : St) (n : Int) (f : Fl) : St := (S.setFile n ⟨f.gone, f.bytes, f.bytes, []⟩).count

set_option maxHeartbeats 1000000 in
set_option maxRecDepth 100000 in
theorem sync_ok (L : Nat → Nat) (g : Nat) (S : St) (n : Int) (f : Fl) (w : World) (h : FsAt w L g S) (hF : Fine S) (hd : S.dead = false) (hn : S.file n = some f) :
    Calls Try.prog 16 #[.pointer (some ⟨g, 0, none⟩), .int .i64 n] w (FsPost L g (S.synced n f) (.int .i64 0) w) := by
  obtain ⟨mf, mn, ms, vch, lf, h⟩ := h
  obtain ⟨fb, h1, h2, h3, h4⟩ := h.find_some hd hn
  obtain ⟨fv, hfl, hof, hgo, hbb, _⟩ := h2
  have HFD := hide h4
  have HST := hide (fsettle_any fb fv _ f.bytes w hfl hof hbb)
  have hgf : fb ≠ g := fun e => by
    have : L fb = n.toNat + 3 := hof
    rw [e, h.lg] at this
    omega
  have H := hide h
  have HO := hF.ops
  have HA := hF.armed
  obtain ⟨ho1, ho2⟩ := HO
  have H1 := hide h1
  have HGO := hide hgo
  have HOF := hide hof
  clear h hd hn h4 hfl hbb hF h1 hgo hof
  go_enter Try.func16, Try.ntmps16
  go_wp2_with (first
    | (go_at_call 40; refine HFD.out.mono ?_; rintro e w1 ⟨rfl, rfl⟩)
    | (go_at_call 42; refine HST.out.mono ?_; rintro e w1 ⟨rfl, hf1, hg1⟩; have HF1 := hide hf1; have HG1 := hide hg1; have HB1 := hide (H.out.blk.keep (hg1.block g H.out.blk.lt (fun e => hgf (by injection e with e; exact e.symm)))); clear hf1 hg1)
    | (go_at_call 43; refine (count_any g _ _ HB1.out ho1 ho2 HA).mono ?_; rintro e w2 ⟨rfl, hv2, hg2⟩; have HV2 := hide hv2; have HG2 := hide hg2; clear hv2 hg2))
  go_ret
  refine ⟨rfl, ?_⟩
  have hf2 : FileAt w2 (fun i => L i = n.toNat + 3) (fun i => L i = 2) fb ⟨fv.gone, f.bytes, f.bytes, []⟩ := (HF1.out _).keep fun i hi hl => HG2.out.block i hl (fun e => by
    injection e with e
    rw [e, H.out.lg] at hi
    omega)
  rw [HGO.out] at hf2
  have hsz : w.heap.size ≤ w2.heap.size := Nat.le_trans HG1.out.size HG2.out.size
  have e : (S.v mf mn ms vch).count = (S.synced n f).v mf mn ms vch := by
    rw [St.count_v]
    unfold St.synced St.count St.setFile St.v
    by_cases h : 0 < S.armed <;> simp [h]
  refine H.out.turn (S' := S.synced n f) (s := w2.heap.size) H1.out (by rw [← e]; exact HV2.out) ?_ hsz (Nat.le_refl _) (hf2.mono (fun _ _ h => .inl h) (fun _ _ h => .inl h)) (St.count_files _) (St.count_names _) (St.count_safe _) (St.count_changes _)
  exact (Turned.of_gb (M := fun i => i = g ∨ L i = n.toNat + 3) HG1.out (fun i e => by injection e with e; exact .inr (by rw [← e]; exact HOF.out))).trans (Turned.of_gb (M := fun i => i = g) HG2.out (fun i e => by injection e with e; exact e.symm)) (fun i _ h => .inl h)

set_option maxHeartbeats 1000000 in
set_option maxRecDepth 100000 in
theorem waiting_some (L : Nat → Nat) (g : Nat) (S : St) (n : Int) (f : Fl) (w : World) (h : FsAt w L g S) (hn : S.file n = some f) :
    Calls Try.prog 31 #[.pointer (some ⟨g, 0, none⟩), .int .i64 n] w fun e w' => e = .returned (.int .i64 (f.waits.length : Int)) ∧ w = w' := by
  obtain ⟨mf, mn, ms, vch, lf, h⟩ := h
  obtain ⟨fb, h1, h2, h3, h4⟩ := h.named_some hn
  obtain ⟨fv, hfl, _, _, _, _, _, hws⟩ := h2
  obtain ⟨A1, c1, hv, _⟩ := hws.form
  have q4 := hfl.c4
  rw [hv] at q4
  have HFD := hide h4
  clear h hn h4 hfl hws hv
  go_enter Try.func31, Try.ntmps31
  go_wp2_with (go_at_call 54; refine HFD.out.mono ?_; rintro e w1 ⟨rfl, rfl⟩)
  go_ret
  exact ⟨rfl, rfl⟩

end Go.Proofs.Ytpkmlehkmmdkoaa
