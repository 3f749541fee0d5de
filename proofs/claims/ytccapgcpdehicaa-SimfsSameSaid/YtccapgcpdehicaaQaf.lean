/-
  The contracts of simfs.New, FS.do.
-/
import Derived.Test.YtccapgcpdehicaaQae

namespace Go.Proofs.Ytccapgcpdehicaa
open Go.RowKit

/-- The file of a number, if it has a name. -/
def St.file (S : St) (n : Int) : Option Fl := match S.files n with | some f => if f.gone then none else some f | none => none
theorem St.file_some {S : St} {n : Int} {f : Fl} (h : S.file n = some f) : S.files n = some f ∧ f.gone = false := by
  unfold St.file at h
  cases hf : S.files n with
  | none => rw [hf] at h; cases h
  | some f' =>
    rw [hf] at h
    cases hg : f'.gone
    · simp [hg] at h; subst h; exact ⟨rfl, hg⟩
    · simp [hg] at h

section
variable {w : World} {L : Nat → Nat} {g : Nat} {S : St} {mf mn ms : Nat} {vch : Value} {lf : List (Int × Nat)}
theorem FsIn.named_none (h : FsIn w L g S mf mn ms vch lf) {n : Int} (hn : S.file n = none) :
    Calls Try.prog 34 #[.pointer (some ⟨g, 0, none⟩), .int .i64 n] w fun e w' => e = .returned (.pointer none) ∧ w = w' := by
  cases hl : aget lf n with
  | none => exact named_no g _ lf n w h.blk h.files hl
  | some fb =>
    obtain ⟨_, f, hf, fv, hfl, _, hgo, _⟩ := h.at_ n fb hl
    refine (named_yes g fb _ fv lf n w h.blk h.files hl hfl).mono fun e w' ⟨he, hw⟩ => ⟨?_, hw⟩
    have : f.gone = true := by
      unfold St.file at hn
      rw [hf] at hn
      cases hg : f.gone
      · simp [hg] at hn
      · rfl
    rw [he, hgo, this]
    rfl
theorem FsIn.named_some (h : FsIn w L g S mf mn ms vch lf) {n : Int} {f : Fl} (hn : S.file n = some f) :
    ∃ fb, aget lf n = some fb ∧ FileAt w (fun i => L i = n.toNat + 3) (fun i => L i = 2) fb f ∧ 0 < n ∧
      Calls Try.prog 34 #[.pointer (some ⟨g, 0, none⟩), .int .i64 n] w fun e w' => e = .returned (.pointer (some ⟨fb, 0, none⟩)) ∧ w = w' := by
  obtain ⟨hf, hgo⟩ := St.file_some hn
  cases hl : aget lf n with
  | none => rw [h.no n hl] at hf; cases hf
  | some fb =>
    obtain ⟨h0, f', hf', hfa⟩ := h.at_ n fb hl
    rw [hf] at hf'
    injection hf' with hf'
    subst hf'
    have hfa' := hfa
    obtain ⟨fv, hfl, _, hgo', _⟩ := hfa
    refine ⟨fb, rfl, hfa', h0, (named_yes g fb _ fv lf n w h.blk h.files hl hfl).mono fun e w' ⟨he, hw⟩ => ⟨?_, hw⟩⟩
    rw [he, hgo', hgo]
    rfl
theorem FsIn.find_dead (h : FsIn w L g S mf mn ms vch lf) (n : Int) (hd : S.dead = true) :
    Calls Try.prog 29 #[.pointer (some ⟨g, 0, none⟩), .int .i64 n] w fun e w' => e = .returned (.tuple #[.pointer none, .int .i64 21]) ∧ w = w' := Go.Proofs.Ytccapgcpdehicaa.find_dead g _ n w h.blk hd
theorem FsIn.find_none (h : FsIn w L g S mf mn ms vch lf) {n : Int} (hd : S.dead = false) (hn : S.file n = none) :
    Calls Try.prog 29 #[.pointer (some ⟨g, 0, none⟩), .int .i64 n] w fun e w' => e = .returned (.tuple #[.pointer none, .int .i64 7]) ∧ w = w' := find_no g _ n w h.blk hd (h.named_none hn)
theorem FsIn.find_some (h : FsIn w L g S mf mn ms vch lf) {n : Int} {f : Fl} (hd : S.dead = false) (hn : S.file n = some f) :
    ∃ fb, aget lf n = some fb ∧ FileAt w (fun i => L i = n.toNat + 3) (fun i => L i = 2) fb f ∧ 0 < n ∧
      Calls Try.prog 29 #[.pointer (some ⟨g, 0, none⟩), .int .i64 n] w fun e w' => e = .returned (.tuple #[.pointer (some ⟨fb, 0, none⟩), .int .i64 0]) ∧ w = w' := by
  obtain ⟨fb, h1, h2, h3, h4⟩ := h.named_some hn
  exact ⟨fb, h1, h2, h3, find_yes g fb _ n w h.blk hd h4⟩
end

/-- The numbers are such that no sum of them turns over. -/
structure Fine (S : St) : Prop where
  used : 0 ≤ S.used ∧ S.used ≤ 1000000000000000
  ops : 0 ≤ S.ops ∧ S.ops ≤ 2000000000
  armed : S.armed ≤ 9223372036854775807
  last : 0 ≤ S.last ∧ S.last ≤ 2000000000
  chs : S.changes.length ≤ 1000000
  files : ∀ n f, S.files n = some f → f.bytes.length ≤ 500000000 ∧ f.safe.length ≤ 500000000 ∧ f.waits.length ≤ 1000000

/-- A write that is done. -/
def St.wrote (S : St) (n : Int) (f : Fl) (x : Wr) : St := (({ S with used := S.used - f.bytes.length + (doW f.bytes x).length } : St).setFile n { f with bytes := doW f.bytes x, waits := f.waits ++ [x] }).count

theorem FsIn.wrote {w w' : World} {L : Nat → Nat} {g : Nat} {S : St} {mf mn ms : Nat} {vch : Value} {lf : List (Int × Nat)} {n : Int} {fb : Nat} {f : Fl} {x : Wr} (h : FsIn w L g S mf mn ms vch lf) (hn : aget lf n = some fb)
    (hp : PutPost g fb (S.v mf mn ms vch) (fun i => L i = n.toNat + 3) (fun i => L i = 2) f x w (.returned (.int .i64 0)) w') : ∃ L', FsAt w' L' g (S.wrote n f x) ∧ Moved L w L' w' := by
  obtain ⟨_, hb, hT, s, hs, hs', hf⟩ := hp
  refine h.turn (S' := S.wrote n f x) hn ?_ hT hs hs' hf ?_ ?_ ?_ ?_
  · have e : ({ S.v mf mn ms vch with used := (S.v mf mn ms vch).used - f.bytes.length + (doW f.bytes x).length } : FsV) = (({ S with used := S.used - f.bytes.length + (doW f.bytes x).length } : St).setFile n { f with bytes := doW f.bytes x, waits := f.waits ++ [x] }).v mf mn ms vch := rfl
    rw [e, St.count_v] at hb
    exact hb
  · exact St.count_files _
  · exact St.count_names _
  · exact St.count_safe _
  · exact St.count_changes _

theorem FsIn.put_ok {w : World} {L : Nat → Nat} {g : Nat} {S : St} {mf mn ms : Nat} {vch : Value} {lf : List (Int × Nat)} {n : Int} {fb : Nat} {f : Fl} (h : FsIn w L g S mf mn ms vch lf) (hF : Fine S) (hn : aget lf n = some fb) (hfi : S.files n = some f)
    (hfa : FileAt w (fun i => L i = n.toNat + 3) (fun i => L i = 2) fb f) (k m : Nat) (A : Option Addr) (c B : Nat) (p : List UInt8) (hr : Rd w B A (u8s p)) (hB : B ≤ w.heap.size) (hm : m = p.length) (hk : k ≤ f.bytes.length) (hp : p.length ≤ 400000000)
    (hfit : k + m ≤ f.bytes.length ∨ S.used + (k + m - f.bytes.length : Int) ≤ S.cap) :
    Calls Try.prog 30 #[.pointer (some ⟨g, 0, none⟩), .pointer (some ⟨fb, 0, none⟩), .int .i64 (k : Int), .slice A m c] w fun e w' => e = .returned (.int .i64 0) ∧ ∃ L', FsAt w' L' g (S.wrote n f ⟨false, k, p⟩) ∧ Moved L w L' w' := by
  have hb := hF.files n f hfi
  refine (Go.Proofs.Ytccapgcpdehicaa.put_ok g fb (S.v mf mn ms vch) _ _ f k m A c B p w h.blk hfa hr hB hm hk (fun i hi => ⟨by omega, h.lt i (by omega), fun e => by rw [e, h.lg] at hi; omega⟩) (fun i hi => ⟨h.lt i (by omega), fun e => by rw [e, h.lg] at hi; omega⟩) (by omega) hb.2.2 hF.used hF.ops hF.armed hfit).mono fun e w' hp => ⟨hp.1, ?_⟩
  have he : PutPost g fb (S.v mf mn ms vch) (fun i => L i = n.toNat + 3) (fun i => L i = 2) f ⟨false, k, p⟩ w (.returned (.int .i64 0)) w' := ⟨rfl, hp.2⟩
  exact h.wrote hn he

set_option maxHeartbeats 1000000 in
set_option maxRecDepth 100000 in
theorem append_dead (L : Nat → Nat) (g : Nat) (S : St) (n : Int) (A : Option Addr) (m c : Nat) (w : World) (h : FsAt w L g S) (hd : S.dead = true) :
    Calls Try.prog 12 #[.pointer (some ⟨g, 0, none⟩), .int .i64 n, .slice A m c] w fun e w' => e = .returned (.int .i64 21) ∧ w = w' := by
  obtain ⟨mf, mn, ms, vch, lf, h⟩ := h
  have HFD := hide (h.find_dead n hd)
  clear h hd
  go_enter Try.func12, Try.ntmps12
  go_wp2_with (go_at_call 29; refine HFD.out.mono ?_; rintro e w1 ⟨rfl, rfl⟩)
  go_ret
  exact ⟨rfl, rfl⟩

set_option maxHeartbeats 1000000 in
set_option maxRecDepth 100000 in
theorem append_none (L : Nat → Nat) (g : Nat) (S : St) (n : Int) (A : Option Addr) (m c : Nat) (w : World) (h : FsAt w L g S) (hd : S.dead = false) (hn : S.file n = none) :
    Calls Try.prog 12 #[.pointer (some ⟨g, 0, none⟩), .int .i64 n, .slice A m c] w fun e w' => e = .returned (.int .i64 7) ∧ w = w' := by
  obtain ⟨mf, mn, ms, vch, lf, h⟩ := h
  have HFD := hide (h.find_none hd hn)
  clear h hd hn
  go_enter Try.func12, Try.ntmps12
  go_wp2_with (go_at_call 29; refine HFD.out.mono ?_; rintro e w1 ⟨rfl, rfl⟩)
  go_ret
  exact ⟨rfl, rfl⟩

set_option maxHeartbeats 1000000 in
set_option maxRecDepth 100000 in
theorem append_full (L : Nat → Nat) (g : Nat) (S : St) (n : Int) (f : Fl) (A : Option Addr) (m c : Nat) (w : World) (h : FsAt w L g S) (hF : Fine S) (hd : S.dead = false) (hn : S.file n = some f) (hm : m ≤ 400000000) (h0 : 0 < m) (hc : S.cap < S.used + m) :
    Calls Try.prog 12 #[.pointer (some ⟨g, 0, none⟩), .int .i64 n, .slice A m c] w fun e w' => e = .returned (.int .i64 5) ∧ ∃ j, w' = w.drewN j := by
  obtain ⟨mf, mn, ms, vch, lf, h⟩ := h
  obtain ⟨fb, h1, h2, h3, h4⟩ := h.find_some hd hn
  have hb := hF.files n f (St.file_some hn).1
  have HPF := hide (put_full g fb (S.v mf mn ms vch) _ _ f f.bytes.length m A c w h.blk h2 (Nat.le_refl _) (by omega) (by omega) hF.used (by omega) (by show S.cap < S.used + _; omega))
  have HFD := hide h4
  obtain ⟨fv, hfl, _, _, hbb, _⟩ := h2
  obtain ⟨A1, c1, hv, hnc, hcm⟩ := hbb.form
  unfold maxLen at hcm
  have q1 := hfl.c1
  rw [hv] at q1
  clear h hd hn h4 hfl hbb hv hF
  go_enter Try.func12, Try.ntmps12
  go_wp2_with (first
    | (go_at_call 29; refine HFD.out.mono ?_; rintro e w1 ⟨rfl, rfl⟩)
    | (go_at_call 30; refine HPF.out.mono ?_; rintro e w1 ⟨rfl, j, rfl⟩))
  go_ret
  exact ⟨rfl, j, rfl⟩

set_option maxHeartbeats 1000000 in
set_option maxRecDepth 100000 in
theorem append_ok (L : Nat → Nat) (g : Nat) (S : St) (n : Int) (f : Fl) (A : Option Addr) (m c B : Nat) (p : List UInt8) (w : World) (h : FsAt w L g S) (hF : Fine S) (hd : S.dead = false) (hn : S.file n = some f) (hr : Rd w B A (u8s p)) (hB : B ≤ w.heap.size) (hm : m = p.length) (hp : p.length ≤ 400000000)
    (hfit : m = 0 ∨ S.used + m ≤ S.cap) :
    Calls Try.prog 12 #[.pointer (some ⟨g, 0, none⟩), .int .i64 n, .slice A m c] w (FsPost L g (S.wrote n f ⟨false, f.bytes.length, p⟩) (.int .i64 0) w) := by
  obtain ⟨mf, mn, ms, vch, lf, h⟩ := h
  obtain ⟨fb, h1, h2, h3, h4⟩ := h.find_some hd hn
  have HPO := hide (h.put_ok hF h1 (St.file_some hn).1 h2 f.bytes.length m A c B p hr hB hm (Nat.le_refl _) hp (by omega))
  have HFD := hide h4
  obtain ⟨fv, hfl, _, _, hbb, _⟩ := h2
  obtain ⟨A1, c1, hv, hnc, hcm⟩ := hbb.form
  unfold maxLen at hcm
  have q1 := hfl.c1
  rw [hv] at q1
  clear h hd hn h4 hfl hbb hv hF hr hm hp hfit
  go_enter Try.func12, Try.ntmps12
  go_wp2_with (first
    | (go_at_call 29; refine HFD.out.mono ?_; rintro e w1 ⟨rfl, rfl⟩)
    | (go_at_call 30; refine HPO.out.mono ?_; rintro e w1 ⟨rfl, hpo⟩; have HPP := hide hpo; clear hpo))
  go_ret
  exact ⟨rfl, HPP.out⟩

/-! ## Sync, Waiting -/

def St.synced (S : St) (n : Int) (f : Fl) : St := (S.setFile n ⟨f.gone, f.bytes, f.bytes, []⟩).count

set_option maxHeartbeats 1000000 in
set_option maxRecDepth 100000 in
theorem sync_ok (L : Nat → Nat) (g : Nat) (S : St) (n : Int) (f : Fl) (w : World) (h : FsAt w L g S) (hF : Fine S) (hd : S.dead = false) (hn : S.file n = some f) :
    Calls Try.prog 13 #[.pointer (some ⟨g, 0, none⟩), .int .i64 n] w (FsPost L g (S.synced n f) (.int .i64 0) w) := by
  obtain ⟨mf, mn, ms, vch, lf, h⟩ := h
  obtain ⟨fb, h1, h2, h3, h4⟩ := h.find_some hd hn
  obtain ⟨fv, hfl, hof, hgo, hbb, _⟩ := h2
  have HFD := hide h4
  have HST := hide (fsettle_any fb fv _ f.bytes w hfl hof hbb)
  have hgf : fb ≠ g := fun e => by
    have : L fb = n.toNat + 3 := hof
    rw [e, h.lg] at this
    omega
  have H := hide h
  have HO := hF.ops
  have HA := hF.armed
  obtain ⟨ho1, ho2⟩ := HO
  have H1 := hide h1
  have HGO := hide hgo
  have HOF := hide hof
  clear h hd hn h4 hfl hbb hF h1 hgo hof
  go_enter Try.func13, Try.ntmps13
  go_wp2_with (first
    | (go_at_call 29; refine HFD.out.mono ?_; rintro e w1 ⟨rfl, rfl⟩)
    | (go_at_call 31; refine HST.out.mono ?_; rintro e w1 ⟨rfl, hf1, hg1⟩; have HF1 := hide hf1; have HG1 := hide hg1; have HB1 := hide (H.out.blk.keep (hg1.block g H.out.blk.lt (fun e => hgf (by injection e with e; exact e.symm)))); clear hf1 hg1)
    | (go_at_call 32; refine (count_any g _ _ HB1.out ho1 ho2 HA).mono ?_; rintro e w2 ⟨rfl, hv2, hg2⟩; have HV2 := hide hv2; have HG2 := hide hg2; clear hv2 hg2))
  go_ret
  refine ⟨rfl, ?_⟩
  have hf2 : FileAt w2 (fun i => L i = n.toNat + 3) (fun i => L i = 2) fb ⟨fv.gone, f.bytes, f.bytes, []⟩ := (HF1.out _).keep fun i hi hl => HG2.out.block i hl (fun e => by
    injection e with e
    rw [e, H.out.lg] at hi
    omega)
  rw [HGO.out] at hf2
  have hsz : w.heap.size ≤ w2.heap.size := Nat.le_trans HG1.out.size HG2.out.size
  have e : (S.v mf mn ms vch).count = (S.synced n f).v mf mn ms vch := by
    rw [St.count_v]
    unfold St.synced St.count St.setFile St.v
    by_cases h : 0 < S.armed <;> simp [h]
  refine H.out.turn (S' := S.synced n f) (s := w2.heap.size) H1.out (by rw [← e]; exact HV2.out) ?_ hsz (Nat.le_refl _) (hf2.mono (fun _ _ h => .inl h) (fun _ _ h => .inl h)) (St.count_files _) (St.count_names _) (St.count_safe _) (St.count_changes _)
  exact (Turned.of_gb (M := fun i => i = g ∨ L i = n.toNat + 3) HG1.out (fun i e => by injection e with e; exact .inr (by rw [← e]; exact HOF.out))).trans (Turned.of_gb (M := fun i => i = g) HG2.out (fun i e => by injection e with e; exact e.symm)) (fun i _ h => .inl h)

set_option maxHeartbeats 1000000 in
set_option maxRecDepth 100000 in
theorem waiting_some (L : Nat → Nat) (g : Nat) (S : St) (n : Int) (f : Fl) (w : World) (h : FsAt w L g S) (hn : S.file n = some f) :
    Calls Try.prog 15 #[.pointer (some ⟨g, 0, none⟩), .int .i64 n] w fun e w' => e = .returned (.int .i64 (f.waits.length : Int)) ∧ w = w' := by
  obtain ⟨mf, mn, ms, vch, lf, h⟩ := h
  obtain ⟨fb, h1, h2, h3, h4⟩ := h.named_some hn
  obtain ⟨fv, hfl, _, _, _, _, _, hws⟩ := h2
  obtain ⟨A1, c1, hv, _⟩ := hws.form
  have q4 := hfl.c4
  rw [hv] at q4
  have HFD := hide h4
  clear h hn h4 hfl hws hv
  go_enter Try.func15, Try.ntmps15
  go_wp2_with (go_at_call 34; refine HFD.out.mono ?_; rintro e w1 ⟨rfl, rfl⟩)
  go_ret
  exact ⟨rfl, rfl⟩

end Go.Proofs.Ytccapgcpdehicaa

namespace Go.Proofs.Ytccapgcpdehicaa
open Go.RowKit

/-- The names behind a change, and the file that has none any more, or 0. -/
def followL (l : List (ByteArray × Nat)) (c : Ch) : List (ByteArray × Nat) × Nat :=
  if c.src = c.dst then (l, 0)
  else if c.src.size = 0 then (aput l c.dst c.file, (aget l c.dst).getD 0)
  else if c.dst.size = 0 then (adel l c.src, (aget l c.src).getD 0)
  else (aput (adel l c.src) c.dst ((aget l c.src).getD 0), (aget (adel l c.src) c.dst).getD 0)

theorem look_name {w : World} {b : Nat} {l : List (ByteArray × Nat)} (h : MapAt encN w b l) (k : ByteArray) :
    (Instr.lookup 61 (.map (some b)) (.string k) false).run Try.prog w = .ok (.int .i64 (((aget l k).getD 0 : Nat) : Int)) w := by
  have := h.look (P := Try.prog) (E := encN) Try.underlying9 Try.underlying61 (zero_int w) k false
  rw [show (Instr.lookup 61 (.map (some b)) (.string k) false) = (Instr.lookup 61 (.map (some b)) (encN.ek k) false) from rfl, this]
  cases aget l k <;> rfl

theorem empty_list {s : ByteArray} (h : s.size = 0) : s = ⟨#[]⟩ := by
  obtain ⟨a⟩ := s
  have : a.size = 0 := h
  rw [Array.eq_empty_of_size_eq_zero this]
theorem str_eq {a b : ByteArray} (h : a = b) : (a.toList == b.toList) = true := by rw [h]; exact beq_self_eq_true _
theorem str_ne {a b : ByteArray} (h : a ≠ b) : (a.toList == b.toList) = false := by
  rw [ByteArray.toList_eq, ByteArray.toList_eq]
  refine beq_eq_false_iff_ne.2 fun e => h ?_
  obtain ⟨⟨x⟩⟩ := a
  obtain ⟨⟨y⟩⟩ := b
  have e' : x = y := e
  rw [e']
theorem str_emp {s : ByteArray} (h : s.size = 0) : s.toList.isEmpty = true := by rw [empty_list h, ByteArray.toList_eq]; rfl
theorem str_full {s : ByteArray} (h : s.size ≠ 0) : s.toList.isEmpty = false := by
  rw [ByteArray.toList_eq]
  obtain ⟨⟨x⟩⟩ := s
  have h' : x.length ≠ 0 := h
  cases x with
  | nil => exact absurd rfl h'
  | cons a l => rfl

set_option maxHeartbeats 4000000 in
set_option maxRecDepth 100000 in
theorem follow_any (b : Nat) (l : List (ByteArray × Nat)) (c : Ch) (w : World) (h : MapAt encN w b l) :
    Calls Try.prog 36 #[.map (some b), .agg #[.string c.src, .string c.dst, .int .i64 (c.file : Int)]] w fun e w' =>
      e = .returned (.int .i64 (((followL l c).2 : Nat) : Int)) ∧ MapAt encN w' b (followL l c).1 ∧ w.grownBy w' (some b) := by
  have hmap := h.alloc (.cells #[.string c.src, .string c.dst, .int .i64 (c.file : Int)] 67)
  have hga := gb_some (gb_alloc (gb_refl w none) (.cells #[.string c.src, .string c.dst, .int .i64 (c.file : Int)] 67)) (some b)
  have hX := heap_alloc_new w (.cells #[.string c.src, .string c.dst, .int .i64 (c.file : Int)] 67)
  have hbl := h.lt
  have HM := hide hmap
  have HG := hide hga
  have HX := hide hX
  clear h hga hX
  by_cases h1 : c.src = c.dst
  · have E1 := hide (show followL l c = (l, 0) from if_pos h1)
    have hb := str_eq h1
    clear h1 hmap
    go_enter Try.func36, Try.ntmps36
    go_wp2
    go_ret
    exact ⟨by rw [E1.out]; rfl, by rw [E1.out]; exact HM.out, HG.out⟩
  by_cases h2 : c.src.size = 0
  · have h3 : c.dst.size ≠ 0 := fun h3 => h1 (by rw [empty_list h2, empty_list h3])
    have E1 := hide (show followL l c = (aput l c.dst c.file, (aget l c.dst).getD 0) from by unfold followL; rw [if_neg h1, if_pos h2])
    have hb := str_ne h1
    have hz := str_emp h2
    have hd := str_full h3
    have hl1 := look_name hmap c.dst
    clear h1 h2 h3 hmap
    go_enter Try.func36, Try.ntmps36
    go_wp2_with (at_mapUpdate; refine wpList_put (E := encN) _ rfl _ _ _ 61 rfl 9 3 Try.underlying9 Try.underlying61 b l rfl HM.out c.dst c.file rfl rfl ?_; intro w1 hm1 hg1 hs1; have HM1 := hide hm1; have HG1 := hide hg1; clear hm1 hg1 hs1)
    go_ret
    exact ⟨by rw [E1.out]; rfl, by rw [E1.out]; exact HM1.out, gb_trans HG.out HG1.out (.inl rfl)⟩
  have hb := str_ne h1
  have hs := str_full h2
  have hl1 := look_name hmap c.src
  by_cases h3 : c.dst.size = 0
  · have E1 := hide (show followL l c = (adel l c.src, (aget l c.src).getD 0) from by unfold followL; rw [if_neg h1, if_neg h2, if_pos h3])
    have hd := str_emp h3
    clear h1 h2 h3 hmap
    go_enter Try.func36, Try.ntmps36
    go_wp2_with (at_delete; refine wpList_del (E := encN) _ rfl _ _ 61 9 rfl 3 Try.underlying9 Try.underlying61 b l rfl HM.out c.src rfl ?_; intro w1 hm1 hg1 hs1; have HM1 := hide hm1; have HG1 := hide hg1; have HX1 := hide ((hg1.block _ (blk_lt HX.out) (fun e => by injection e with e; omega)).trans HX.out); have k1 : w1.cell? ⟨w.heap.size, 1, none⟩ = some (.string c.dst) := by { rw [blk_cell HX1.out]; rfl }; clear hm1 hg1 hs1)
    go_ret
    exact ⟨by rw [E1.out]; rfl, by rw [E1.out]; exact HM1.out, gb_trans HG.out HG1.out (.inl rfl)⟩
  · have E1 := hide (show followL l c = (aput (adel l c.src) c.dst ((aget l c.src).getD 0), (aget (adel l c.src) c.dst).getD 0) from by unfold followL; rw [if_neg h1, if_neg h2, if_neg h3])
    have hd := str_full h3
    clear h1 h2 h3 hmap
    go_enter Try.func36, Try.ntmps36
    go_wp2_with (first
      | (at_delete; refine wpList_del (E := encN) _ rfl _ _ 61 9 rfl 3 Try.underlying9 Try.underlying61 b l rfl HM.out c.src rfl ?_; intro w1 hm1 hg1 hs1; have hl2 := look_name hm1 c.dst; have HM1 := hide hm1; have HG1 := hide hg1; have HX1 := hide ((hg1.block _ (blk_lt HX.out) (fun e => by injection e with e; omega)).trans HX.out); have k1 : w1.cell? ⟨w.heap.size, 1, none⟩ = some (.string c.dst) := by { rw [blk_cell HX1.out]; rfl }; clear hm1 hg1 hs1)
      | (at_mapUpdate; refine wpList_put (E := encN) _ rfl _ _ _ 61 rfl 9 3 Try.underlying9 Try.underlying61 b (adel l c.src) rfl HM1.out c.dst ((aget l c.src).getD 0) rfl rfl ?_; intro w2 hm2 hg2 hs2; have HM2 := hide hm2; have HG2 := hide hg2; clear hm2 hg2 hs2))
    go_ret
    exact ⟨by rw [E1.out]; rfl, by rw [E1.out]; exact HM2.out, gb_trans (gb_trans HG.out HG1.out (.inl rfl)) HG2.out (.inl rfl)⟩

end Go.Proofs.Ytccapgcpdehicaa

namespace Go.Proofs.Ytccapgcpdehicaa
open Go.RowKit

theorem Try.infoC : (Try.prog.info? 67).map (fun i => (i.zero, i.size, i.bytes)) = some (some (.agg #[.string ⟨#[]⟩, .string ⟨#[]⟩, .int .i64 0]), 3, 40) := by kernel_rfl

/-- What do leaves, where no file loses its name. -/
def DoFs (g : Nat) (v : FsV) (l : List (ByteArray × Nat)) (ch : List Ch) (c : Ch) (w : World) (e : Ending) (w' : World) : Prop :=
  e = .returned (.tuple #[]) ∧ ∃ vch, FsB w' g ({ v with vch := vch } : FsV).count ∧ MapAt encN w' v.mn (followL l c).1 ∧ w'.ownsRow 0 67 3 vch (ch ++ [c]).length (chcells (ch ++ [c])) ∧
    (vch.ownBlock = v.vch.ownBlock ∨ ∃ i, vch.ownBlock = some i ∧ w.heap.size ≤ i) ∧ Turned (fun i => i = g ∨ i = v.mn ∨ v.vch.ownBlock = some i) w w'

theorem ch_cells (c : Ch) : ∀ u ∈ [Value.string c.src, .string c.dst, Value.int .i64 (c.file : Int)], u.oneCell' = true := by
  intro u hu
  simp only [List.mem_cons, List.not_mem_nil, or_false] at hu
  rcases hu with rfl | rfl | rfl <;> rfl

theorem map_ne {κ ν : Type} {E : Enc κ ν} {w : World} {b g : Nat} {l : List (κ × ν)} {cs : Array Value} {t : TypeId} {fr : Nat × Nat} (h : MapAt E w b l) (hg : w.heap[g]? = some (.cells cs t fr)) : b ≠ g := by
  rintro rfl
  obtain ⟨es, cl, hm, _⟩ := h
  rw [hm] at hg
  cases hg

theorem own_ne_map {κ ν : Type} {E : Enc κ ν} {w : World} {base size n b : Nat} {e : TypeId} {v : Value} {xs : List Value} {l : List (κ × ν)} (h : w.ownsRow base e size v n xs) (hm : MapAt E w b l) : v.ownBlock ≠ some b := fun he => by
  rcases h.2 with ⟨h1, _⟩ | ⟨g', cap, cur, hv, _, h3, _⟩
  · rw [h1] at he; cases he
  · rw [hv] at he
    injection he with he
    have e' : g' = b := he
    exact map_ne hm h3 e'.symm

set_option maxHeartbeats 4000000 in
set_option maxRecDepth 100000 in
theorem fsdo_keep (g : Nat) (v : FsV) (l : List (ByteArray × Nat)) (ch : List Ch) (c : Ch) (w : World) (h : FsB w g v) (hm : MapAt encN w v.mn l) (hc : w.ownsRow 0 67 3 v.vch ch.length (chcells ch)) (hgone : (followL l c).2 = 0)
    (h0 : 0 ≤ v.ops ∧ v.ops ≤ 2000000000) (ha : v.armed ≤ 9223372036854775807) (hcl : ch.length ≤ 1000000) :
    Calls Try.prog 28 #[.pointer (some ⟨g, 0, none⟩), .agg #[.string c.src, .string c.dst, .int .i64 (c.file : Int)]] w (DoFs g v l ch c w) := by
  obtain ⟨i1, hi1, hiz, his, hib⟩ := info_parts Try.infoC
  obtain ⟨h01, h02⟩ := h0
  obtain ⟨wa, hwaE⟩ : ∃ wa, wa = w.alloc (.cells #[.string c.src, .string c.dst, .int .i64 (c.file : Int)] 67) := ⟨_, rfl⟩
  have hga : w.grownBy wa none := by rw [hwaE]; exact gb_alloc (gb_refl w none) _
  have hX := heap_alloc_new w (.cells #[.string c.src, .string c.dst, .int .i64 (c.file : Int)] 67)
  rw [← hwaE] at hX
  have hgl := h.lt
  have hml := hm.lt
  have hmg : v.mn ≠ g := map_ne hm h
  have hrm : v.vch.ownBlock ≠ some v.mn := own_ne_map hc hm
  have hVa : FsB wa g v := h.keep (hga.block g hgl (by simp))
  have hma : MapAt encN wa.drew v.mn l := hm.keep (hga.block _ hml (by simp))
  have hca := own_keep hc (w' := wa) fun i hi hl => hga.block i hl (by simp)
  have hFO := follow_any v.mn l c _ hma
  rw [hgone] at hFO
  have HFO := hide hFO
  have HWE := hide hwaE
  have HX := hide hX
  have HVA := hide hVa
  have HCA := hide hca
  have HI1 := hide hi1
  have HIZ := hide hiz
  have HIS := hide his
  have HIB := hide hib
  have HGA := hide hga
  have HCL := hide hc
  have q4 := hVa.c4
  have b0 : wa.cell? ⟨w.heap.size, 0, none⟩ = some (.string c.src) := by rw [blk_cell hX]; rfl
  have b1 : wa.cell? ⟨w.heap.size, 1, none⟩ = some (.string c.dst) := by rw [blk_cell hX]; rfl
  have b2 : wa.cell? ⟨w.heap.size, 2, none⟩ = some (.int .i64 (c.file : Int)) := by rw [blk_cell hX]; rfl
  have HGO := hide hgone
  clear hi1 hiz his hib hX hVa hma hca hFO hwaE h hm hc hga hgone
  go_enter Try.func28, Try.ntmps28
  go_wp2
  rw [← HWE.out]
  go_still_tail 5, (by kernel_rfl)
  go_wp2_with (go_at_call 36; refine HFO.out.mono ?_; rintro e w2 ⟨rfl, hm2, hg2⟩; have HM2 := hide hm2; have HG2 : Hid (wa.grownBy w2 (some v.mn)) := hide ⟨hg2.os, hg2.tape, hg2.output, hg2.size, hg2.block⟩; clear hm2 hg2)
  clear q4 b0 b1 b2
  have HV2 : Hid (FsB w2 g v) := hide (HVA.out.keep (HG2.out.block g HVA.out.lt (fun e => hmg (by injection e with e; exact e.symm))))
  have HC2 : Hid (w2.ownsRow 0 67 3 v.vch ch.length (chcells ch)) := hide (own_keep HCA.out fun i hi hl => HG2.out.block i hl (fun e => hrm (by injection e with e; rw [hi, e])))
  have HX2 : Hid (w2.heap[w.heap.size]? = some (.cells #[.string c.src, .string c.dst, .int .i64 (c.file : Int)] 67 (0, 0))) := hide ((HG2.out.block _ (blk_lt HX.out) (fun e => by injection e with e; omega)).trans HX.out)
  have q6 := HV2.out.c6
  have f6 := HV2.out.fr 6
  have b0 : w2.cell? ⟨w.heap.size, 0, none⟩ = some (.string c.src) := by rw [blk_cell HX2.out]; rfl
  have b1 : w2.cell? ⟨w.heap.size, 1, none⟩ = some (.string c.dst) := by rw [blk_cell HX2.out]; rfl
  have b2 : w2.cell? ⟨w.heap.size, 2, none⟩ = some (.int .i64 (c.file : Int)) := by rw [blk_cell HX2.out]; rfl
  have n0 := World.new_ne w2 _ b0
  have n6 := World.new_ne w2 _ q6
  have r6 : (w2.alloc (.cells #[.string c.src, .string c.dst, .int .i64 (c.file : Int)] 67)).cell? ⟨g, 6, none⟩ = some v.vch := (show FsB (w2.alloc (.cells #[.string c.src, .string c.dst, .int .i64 (c.file : Int)] 67)) g v from HV2.out.keep (heap_alloc_old w2 _ HV2.out.lt)).c6
  have HLA : Hid ((w2.alloc (.cells #[.string c.src, .string c.dst, .int .i64 (c.file : Int)] 67)).ownsRow 0 67 3 v.vch ch.length (chcells ch)) := hide (HC2.out.alloc _)
  have HRN := hide (Rd.new w2 #[.string c.src, .string c.dst, .int .i64 (c.file : Int)] 67 [.string c.src, .string c.dst, .int .i64 (c.file : Int)] rfl)
  have HOC := hide (ch_cells c)
  have HM1 : Hid (ch.length + 1 ≤ maxLen) := hide (by unfold maxLen; omega)
  have HMB : Hid ((ch.length + 1) * 40 ≤ 140737488355328) := hide (by omega)
  have DEC1 : Hid (64 ≠ 67) := hide (by decide)
  go_region_law
    ((refine step_append_row (by rfl) (.tmp 42) (.tmp 44) 62 (by rfl) 0 67 i1 (.agg #[.string ⟨#[]⟩, .string ⟨#[]⟩, .int .i64 0]) 3 40 Try.underlying62 HI1.out HIZ.out HIS.out HIB.out rfl (Nat.succ_pos 2) v.vch ch.length (chcells ch) (by rfl) HLA.out (w2.heap.size + 1) (some ⟨w2.heap.size, 0, none⟩) 1 1 [.string c.src, .string c.dst, .int .i64 (c.file : Int)] (by rfl) rfl HRN.out HOC.out HM1.out HMB.out (Nat.zero_le _) ?_; intro v5 w5 ho5 hg5 hb5; obtain ⟨A5, c5, rfl⟩ := own_slice ho5; have HO5 := hide ho5; have hg6 : (w2.alloc (.cells #[.string c.src, .string c.dst, .int .i64 (c.file : Int)] 67)).grownBy w5 v.vch.ownBlock := ⟨hg5.os, hg5.tape, hg5.output, hg5.size, hg5.block⟩; have HG5 : Hid (w2.grownBy w5 v.vch.ownBlock) := hide (gb_trans (gb_alloc (gb_refl w2 v.vch.ownBlock) (.cells #[.string c.src, .string c.dst, .int .i64 (c.file : Int)] 67)) hg6 (.inl rfl)); clear hg6; have HBB5 := hide hb5; clear ho5 hg5 hb5; have HV5 : Hid (FsB w5 g v) := hide (row_stay HC2.out HG5.out HV2.out DEC1.out); have t5 := HV5.out.c6; have t6 := HV5.out.fr 6))
  all_goals
    clear q6 f6 b0 b1 b2 n0 n6 r6 t5 t6
    have HV6 := hide (HV5.out.set6 (.slice A5 (ch.length + 1) c5))
    go_wp2_with (go_at_call 32; refine (count_any g _ _ HV6.out h01 h02 ha).mono ?_; rintro e w6 ⟨rfl, hv6, hg6⟩; have HV7 := hide hv6; have HG7 := hide hg6; clear hv6 hg6)
    go_end0
    have hg5 : w5.grownBy (w5.setCell ⟨g, 6, none⟩ (.slice A5 (ch.length + 1) c5)) (some g) := gb_set (gb_refl w5 (some g)) 6 _
    have hg56 : w5.grownBy w6 (some g) := gb_trans hg5 HG7.out (.inl rfl)
    have hsz : w.heap.size ≤ w2.heap.size := Nat.le_trans HGA.out.size HG2.out.size
    refine ⟨rfl, _, HV7.out, ?_, ?_, ?_, ?_⟩
    · exact (HM2.out.grown HG5.out (fun e => hrm e.symm)).grown hg56 (fun e => hmg (by injection e))
    · rw [List.length_append, chcells_append]
      exact own_other HO5.out hg56 HV5.out (by decide)
    · rcases HBB5.out with hb | hb
      · exact .inl hb
      · refine .inr ⟨_, hb, Nat.le_trans hsz ?_⟩
        show w2.heap.size ≤ (w2.alloc _).heap.size
        simp
    · exact (((Turned.of_gb (M := fun i => i = g ∨ i = v.mn ∨ v.vch.ownBlock = some i) HGA.out (by simp)).trans (Turned.of_gb (M := fun i => i = v.mn) HG2.out (fun i e => by injection e with e; exact e.symm)) (fun i _ h => .inr (.inl h))).trans (Turned.of_gb (M := fun i => v.vch.ownBlock = some i) HG5.out (fun i e => e)) (fun i _ h => .inr (.inr h))).trans (Turned.of_gb (M := fun i => i = g) hg56 (fun i e => by injection e with e; exact e.symm)) (fun i _ h => .inl h)

end Go.Proofs.Ytccapgcpdehicaa
