/-
  Files in memory; the contracts of file.do, FS.named, FS.find, file.settle.
-/
import Derived.Test.YtpkmlehkmmdkoaaSim5A
import Derived.Test.YtpkmlehkmmdkoaaSim5B
namespace Go.Proofs.Ytpkmlehkmmdkoaa
open Go.RowKit

theorem BsAt.none_ {w : World} {own : Nat → Prop} : BsAt w own (.slice none 0 0) [] := .inl ⟨rfl, _, rfl⟩

theorem do_any (g : Nat) (v : FlV) (own rd : Nat → Prop) (xs : List UInt8) (x : Wr) (vp : Value) (w : World) (h : FlB w g v) (hb : BsAt w own v.vb xs) (hp : PAt w rd vp x.p) (hk : x.pos ≤ xs.length)
    (hdis : ∀ i, rd i → ¬ own i ∧ i < w.heap.size) (hlen : xs.length + x.p.length ≤ 1000000000) :
    Calls Try.prog 68 #[.pointer (some ⟨g, 0, none⟩), .agg #[.bool x.cut, .int .i64 (x.pos : Int), vp]] w (DoPost g v own xs (doW xs x) w) := by
  obtain ⟨cut, k, p⟩ := x
  cases cut
  · obtain ⟨A, c, hv, _⟩ := hb.form
    obtain ⟨Ap, cp, hvp, _⟩ := hp.form
    subst hvp
    have hk' : k ≤ xs.length := hk
    have hn : k + (xs.length - k) = xs.length := by omega
    rw [← hn] at hv
    by_cases hmd : p.length ≤ xs.length - k
    · exact do_putA g v own rd xs p _ k (xs.length - k) p.length c cp A Ap w h hb hv hn hp rfl hmd hdis hlen rfl
    · exact do_putB g v own rd xs p _ k (xs.length - k) p.length c cp A Ap w h hb hv hn hp rfl (by omega) hdis hlen rfl
  · exact do_cut g v own xs k vp w h hb hk

/-! ## what waits -/
def wcells (l : List (Wr × Value)) : List Value := l.flatMap fun x => [.bool x.1.cut, .int .i64 (x.1.pos : Int), x.2]
theorem wcells_length (l : List (Wr × Value)) : (wcells l).length = l.length * 3 := by
  induction l with
  | nil => rfl
  | cons x l ih => simp [wcells] at ih ⊢; omega
theorem wcells_append (a b : List (Wr × Value)) : wcells (a ++ b) = wcells a ++ wcells b := by simp [wcells]
theorem wcells_at (l : List (Wr × Value)) (i : Nat) (h : i < l.length) : (wcells l)[i * 3]? = some (.bool l[i].1.cut) ∧ (wcells l)[i * 3 + 1]? = some (.int .i64 (l[i].1.pos : Int)) ∧ (wcells l)[i * 3 + 2]? = some l[i].2 := by
  induction l generalizing i with
  | nil => simp at h
  | cons x l ih =>
    have e : wcells (x :: l) = [.bool x.1.cut, .int .i64 (x.1.pos : Int), x.2] ++ wcells l := rfl
    cases i with
    | zero => rw [e]; exact ⟨rfl, rfl, rfl⟩
    | succ i =>
      have := ih i (by simpa using h)
      rw [e]
      rw [show (i + 1) * 3 = (i * 3) + 3 by omega, show i * 3 + 3 + 1 = i * 3 + 1 + 3 by omega, show i * 3 + 3 + 2 = i * 3 + 2 + 3 by omega]
      rw [List.getElem?_append_right (by simp), List.getElem?_append_right (by simp), List.getElem?_append_right (by simp)]
      simpa using this
def WsAt (w : World) (own rd : Nat → Prop) (vw : Value) (ws : List Wr) : Prop :=
  ∃ l : List (Wr × Value), l.map (·.1) = ws ∧ w.ownsRow 0 110 3 vw l.length (wcells l) ∧ (∀ g, vw.ownBlock = some g → own g) ∧ ∀ x ∈ l, BsAt w rd x.2 x.1.p

theorem own_keep {w w' : World} {base size n : Nat} {e : TypeId} {v : Value} {xs : List Value} (h : w.ownsRow base e size v n xs) (hk : ∀ g, v.ownBlock = some g → g < w.heap.size → w'.heap[g]? = w.heap[g]?) : w'.ownsRow base e size v n xs := by
  refine ⟨h.1, ?_⟩
  rcases h.2 with h2 | ⟨g, cap, cur, hv, h3, h4, h5⟩
  · exact .inl h2
  · exact .inr ⟨g, cap, cur, hv, h3, (hk g (by rw [hv]; rfl) (blk_lt h4)).trans h4, h5⟩
theorem WsAt.keep {w w' : World} {own rd : Nat → Prop} {vw : Value} {ws : List Wr} (h : WsAt w own rd vw ws) (hk : ∀ g, own g ∨ rd g → g < w.heap.size → w'.heap[g]? = w.heap[g]?) : WsAt w' own rd vw ws := by
  obtain ⟨l, h1, h2, h3, h4⟩ := h
  exact ⟨l, h1, own_keep h2 fun g hg hlt => hk g (.inl (h3 g hg)) hlt, h3, fun x hx => (h4 x hx).keep fun g hg hlt => hk g (.inr hg) hlt⟩
theorem WsAt.mono {w : World} {own own' rd rd' : Nat → Prop} {vw : Value} {ws : List Wr} (h : WsAt w own rd vw ws) (ho : ∀ g, g < w.heap.size → own g → own' g) (hr : ∀ g, g < w.heap.size → rd g → rd' g) : WsAt w own' rd' vw ws := by
  obtain ⟨l, h1, h2, h3, h4⟩ := h
  refine ⟨l, h1, h2, fun g hg => ?_, fun x hx => (h4 x hx).lts fun i hi hlt => hr i hlt hi⟩
  refine ho g ?_ (h3 g hg)
  rcases h2.2 with ⟨e, _⟩ | ⟨g', cap, cur, e, _, h5, _⟩
  · rw [e] at hg; cases hg
  · rw [e] at hg
    injection hg with hg
    have e' : g' = g := hg
    exact e' ▸ blk_lt h5
theorem WsAt.none_ {w : World} {own rd : Nat → Prop} : WsAt w own rd (.slice none 0 0) [] := ⟨[], rfl, ⟨rfl, .inl ⟨rfl, rfl⟩⟩, (fun _ h => by cases h), (by simp)⟩
theorem WsAt.form {w : World} {own rd : Nat → Prop} {vw : Value} {ws : List Wr} (h : WsAt w own rd vw ws) : ∃ A c, vw = .slice A ws.length c ∧ ws.length ≤ c ∧ c ≤ maxLen := by
  obtain ⟨l, rfl, h2, _⟩ := h
  rw [List.length_map]
  rcases h2.2 with ⟨e, h0⟩ | ⟨g', cap, cur, e, _, h5, h6, h7, _⟩
  · exact ⟨none, 0, by rw [h0]; exact e, by omega, Nat.zero_le _⟩
  · exact ⟨_, cap, e, h6, h7⟩

/-! ## a file -/
structure Fl where
  gone : Bool
  bytes : List UInt8
  safe : List UInt8
  waits : List Wr
def FileAt (w : World) (own rd : Nat → Prop) (g : Nat) (f : Fl) : Prop :=
  ∃ v : FlV, FlB w g v ∧ own g ∧ v.gone = f.gone ∧ BsAt w own v.vb f.bytes ∧ BsAt w own v.vs f.safe ∧ Sep v.vb f.bytes.length v.vs f.safe.length v.shared ∧ WsAt w own rd v.vw f.waits

theorem FileAt.keep {w w' : World} {own rd : Nat → Prop} {g : Nat} {f : Fl} (h : FileAt w own rd g f) (hk : ∀ g, own g ∨ rd g → g < w.heap.size → w'.heap[g]? = w.heap[g]?) : FileAt w' own rd g f := by
  obtain ⟨v, h1, h2, h3, h4, h5, h6, h7⟩ := h
  exact ⟨v, h1.keep (hk g (.inl h2) h1.lt), h2, h3, h4.keep fun i hi hl => hk i (.inl hi) hl, h5.keep fun i hi hl => hk i (.inl hi) hl, h6, h7.keep hk⟩
theorem FileAt.mono {w : World} {own own' rd rd' : Nat → Prop} {g : Nat} {f : Fl} (h : FileAt w own rd g f) (ho : ∀ g, g < w.heap.size → own g → own' g) (hr : ∀ g, g < w.heap.size → rd g → rd' g) : FileAt w own' rd' g f := by
  obtain ⟨v, h1, h2, h3, h4, h5, h6, h7⟩ := h
  exact ⟨v, h1, ho g h1.lt h2, h3, h4.lts fun i hi hl => ho i hl hi, h5.lts fun i hi hl => ho i hl hi, h6, h7.mono ho hr⟩

/-! ## files by numbers, names -/
def encF : Enc Int Nat := encI fun b => .pointer (some ⟨b, 0, none⟩)
def encN : Enc ByteArray Nat := encS fun n => .int .i64 (n : Int)
theorem zero_int (w : World) : (zeroValue 3).run Try.prog w = .ok (.int .i64 0) w := by kernel_rfl
theorem zero_file (w : World) : (zeroValue 90).run Try.prog w = .ok (.pointer none) w := by kernel_rfl

set_option maxHeartbeats 1000000 in
set_option maxRecDepth 100000 in
theorem named_no (g : Nat) (v : FsV) (lf : List (Int × Nat)) (n : Int) (w : World) (h : FsB w g v) (hm : MapAt encF w v.mf lf) (hn : aget lf n = none) :
    Calls Try.prog 54 #[.pointer (some ⟨g, 0, none⟩), .int .i64 n] w fun e w' => e = .returned (.pointer none) ∧ w = w' := by
  have h3 := h.c3
  have hl : (Instr.lookup 71 (.map (some v.mf)) (.int .i64 n) false).run Try.prog w = .ok (.pointer none) w := hm.look_no (E := encF) Try.underlying3 Try.underlying71 (zero_file w) hn
  clear h hm hn
  go_enter Try.func54, Try.ntmps54
  go_wp2
  go_ret
  exact ⟨rfl, rfl⟩

set_option maxHeartbeats 1000000 in
set_option maxRecDepth 100000 in
theorem named_yes (g fb : Nat) (v : FsV) (fv : FlV) (lf : List (Int × Nat)) (n : Int) (w : World) (h : FsB w g v) (hm : MapAt encF w v.mf lf) (hn : aget lf n = some fb) (hf : FlB w fb fv) :
    Calls Try.prog 54 #[.pointer (some ⟨g, 0, none⟩), .int .i64 n] w fun e w' => e = .returned (.pointer (if fv.gone then none else some ⟨fb, 0, none⟩)) ∧ w = w' := by
  have h3 := h.c3
  have hg := hf.c0
  have hl : (Instr.lookup 71 (.map (some v.mf)) (.int .i64 n) false).run Try.prog w = .ok (.pointer (some ⟨fb, 0, none⟩)) w := hm.look_yes (E := encF) Try.underlying3 Try.underlying71 (zero_file w) hn
  clear h hm hn hf
  cases hgo : fv.gone
  all_goals
    rw [hgo] at hg
    clear hgo
    go_enter Try.func54, Try.ntmps54
    go_wp2
    go_ret
    exact ⟨rfl, rfl⟩

/-- named's answer. -/
def named (lf : List (Int × Nat)) (gone : Nat → Bool) (n : Int) : Option Addr := match aget lf n with | none => none | some fb => if gone fb then none else some ⟨fb, 0, none⟩

set_option maxHeartbeats 1000000 in
set_option maxRecDepth 100000 in
theorem find_dead (g : Nat) (v : FsV) (n : Int) (w : World) (h : FsB w g v) (hd : v.dead = true) :
    Calls Try.prog 40 #[.pointer (some ⟨g, 0, none⟩), .int .i64 n] w fun e w' => e = .returned (.tuple #[.pointer none, .int .i64 21]) ∧ w = w' := by
  have hr := ready_any g v none 0 0 [] w h Rd.nil_ (by simp)
  rw [hd, readyErr_dead] at hr
  have HR := hide hr
  clear h hd hr
  go_enter Try.func40, Try.ntmps40
  go_wp2_with (go_at_call 38; refine HR.out.mono ?_; rintro e w1 ⟨rfl, rfl⟩)
  go_ret2
  exact ⟨rfl, rfl⟩

set_option maxHeartbeats 1000000 in
set_option maxRecDepth 100000 in
theorem find_no (g : Nat) (v : FsV) (n : Int) (w : World) (h : FsB w g v) (hd : v.dead = false) (hn : Calls Try.prog 54 #[.pointer (some ⟨g, 0, none⟩), .int .i64 n] w fun e w' => e = .returned (.pointer none) ∧ w = w') :
    Calls Try.prog 40 #[.pointer (some ⟨g, 0, none⟩), .int .i64 n] w fun e w' => e = .returned (.tuple #[.pointer none, .int .i64 7]) ∧ w = w' := by
  have hr := ready_any g v none 0 0 [] w h Rd.nil_ (by simp)
  rw [hd, readyErr_ok rfl] at hr
  have HR := hide hr
  have HN := hide hn
  clear h hd hr hn
  go_enter Try.func40, Try.ntmps40
  go_wp2_with (first
    | (go_at_call 38; refine HR.out.mono ?_; rintro e w1 ⟨rfl, rfl⟩)
    | (go_at_call 54; refine HN.out.mono ?_; rintro e w1 ⟨rfl, rfl⟩))
  go_ret2
  exact ⟨rfl, rfl⟩

set_option maxHeartbeats 1000000 in
set_option maxRecDepth 100000 in
theorem find_yes (g fb : Nat) (v : FsV) (n : Int) (w : World) (h : FsB w g v) (hd : v.dead = false) (hn : Calls Try.prog 54 #[.pointer (some ⟨g, 0, none⟩), .int .i64 n] w fun e w' => e = .returned (.pointer (some ⟨fb, 0, none⟩)) ∧ w = w') :
    Calls Try.prog 40 #[.pointer (some ⟨g, 0, none⟩), .int .i64 n] w fun e w' => e = .returned (.tuple #[.pointer (some ⟨fb, 0, none⟩), .int .i64 0]) ∧ w = w' := by
  have hr := ready_any g v none 0 0 [] w h Rd.nil_ (by simp)
  rw [hd, readyErr_ok rfl] at hr
  have HR := hide hr
  have HN := hide hn
  clear h hd hr hn
  go_enter Try.func40, Try.ntmps40
  go_wp2_with (first
    | (go_at_call 38; refine HR.out.mono ?_; rintro e w1 ⟨rfl, rfl⟩)
    | (go_at_call 54; refine HN.out.mono ?_; rintro e w1 ⟨rfl, rfl⟩))
  go_ret2
  exact ⟨rfl, rfl⟩

/-- file.settle: what the file holds is safe. -/
theorem fsettle_any (g : Nat) (v : FlV) (own : Nat → Prop) (xs : List UInt8) (w : World) (h : FlB w g v) (ho : own g) (hb : BsAt w own v.vb xs) :
    Calls Try.prog 42 #[.pointer (some ⟨g, 0, none⟩)] w fun e w' => e = .returned (.tuple #[]) ∧ (∀ rd, FileAt w' own rd g ⟨v.gone, xs, xs, []⟩) ∧ w.grownBy w' (some g) := by
  obtain ⟨A, c, hv, hn, _⟩ := hb.form
  refine (fsettle_blk g v A xs.length c w h hv hn).mono fun e w' ⟨he, h1, h2⟩ => ⟨he, fun rd => ?_, h2⟩
  have hb' := hb.other h2 h (by decide)
  refine ⟨_, h1, ho, rfl, hb', ?_, ?_, WsAt.none_⟩
  · rw [hv] at hb'
    have := hb'.cut (Nat.le_refl _)
    rwa [List.take_length] at this
  · exact fun _ _ _ _ => ⟨rfl, .inl (Nat.le_refl _)⟩

end Go.Proofs.Ytpkmlehkmmdkoaa
