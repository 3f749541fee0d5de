/-
  The document's Ints and Texts; the law's num; live.
-/
import Derived.Test.YtgilkaaholkgfaaYh
import Derived.Deep.QuietTactic
import Derived.BigQuiet
namespace Go.Proofs.Ytgilkaaholkgfaa
open Go.RowKit

set_option maxHeartbeats 400000 in
theorem lnum_any (x : Int) (w : World) : Calls Try.prog 9 #[.int .i64 x] w fun e w' => e = .returned (.int .i64 x) ∧ w = w' := by
  go_enter Try.func9, Try.ntmps9
  go_wp2
  go_ret
  exact ⟨rfl, rfl⟩

theorem Rd.nat {w : World} {B : Nat} {A : Option Addr} {k : Nat} {l : List Nat} (h : Rd w B A (nats l)) (hk : k < l.length) : ∃ ad, A = some ad ∧ ad.block < B ∧ w.cell? (ad.add k) = some (.int .i64 ((l[k] : Nat) : Int)) := by
  obtain ⟨ad, h1, h2, h3⟩ := h.cell (k := k) (by rw [nats_length]; exact hk)
  exact ⟨ad, h1, h2, by rw [h3]; simp [nats]⟩

set_option maxHeartbeats 1000000 in
set_option maxRecDepth 100000 in
theorem ints_yes (A A' : Option Addr) (n c c' B B' : Nat) (l : List Nat) (w : World) (h : Rd w B A (nats l)) (h' : Rd w B' A' (nats l)) (hB : B ≤ w.heap.size) (hB' : B' ≤ w.heap.size) (hn : l.length = n) (hl : n ≤ 1000000) :
    Calls Try.prog 25 #[.slice A n c, .slice A' n c'] w fun e w' => e = .returned (.bool true) ∧ w.grownBy w' none := by
  subst hn
  have H := hide h
  have H' := hide h'
  have HB := hide hB
  have HB' := hide hB'
  clear h h' hB hB'
  go_enter Try.func25, Try.ntmps25
  go_wp2_with fail
  go_loopw [5] (fun i wr => ∃ k : Nat, k ≤ l.length ∧ i = .int .i64 (k : Int) ∧ w.grownBy wr none) (fun i _ => l.length - (intOf i).toNat)
  case atStart => exact ⟨0, Nat.zero_le _, rfl, gb_refl w none⟩
  case round =>
    obtain ⟨k, hk, rfl, hg⟩ := hrel
    have HG := hide hg
    by_cases hlt : k < l.length
    · have hlt1 : (k : Int) < (l.length : Int) := by omega
      obtain ⟨a1, rfl, _, q1⟩ := (H.out.grown hg HB.out (by simp)).nat hlt
      obtain ⟨a2, rfl, _, q2⟩ := (H'.out.grown hg HB'.out (by simp)).nat hlt
      clear hg
      go_wp2_with fail
      go_quiet (fail)
      go_wp2_with fail
      go_roundw
      case rel => exact ⟨k + 1, by omega, by go_num, gb_drewN HG.out _⟩
      case measure => simp [intOf]; omega
    · have hlt1 : ¬ (k : Int) < (l.length : Int) := by omega
      clear hg
      go_wp2_with fail
      go_ret
      exact ⟨rfl, HG.out⟩

set_option maxHeartbeats 1000000 in
set_option maxRecDepth 100000 in
theorem texts_yes (A A' : Option Addr) (n c c' B B' : Nat) (l : List ByteArray) (w : World) (h : Rd w B A (strs l)) (h' : Rd w B' A' (strs l)) (hB : B ≤ w.heap.size) (hB' : B' ≤ w.heap.size) (hn : l.length = n) (hl : n ≤ 1000000) :
    Calls Try.prog 35 #[.slice A n c, .slice A' n c'] w fun e w' => e = .returned (.bool true) ∧ w.grownBy w' none := by
  subst hn
  have H := hide h
  have H' := hide h'
  have HB := hide hB
  have HB' := hide hB'
  clear h h' hB hB'
  go_enter Try.func35, Try.ntmps35
  go_wp2_with fail
  go_loopw [5] (fun i wr => ∃ k : Nat, k ≤ l.length ∧ i = .int .i64 (k : Int) ∧ w.grownBy wr none) (fun i _ => l.length - (intOf i).toNat)
  case atStart => exact ⟨0, Nat.zero_le _, rfl, gb_refl w none⟩
  case round =>
    obtain ⟨k, hk, rfl, hg⟩ := hrel
    have HG := hide hg
    by_cases hlt : k < l.length
    · have hlt1 : (k : Int) < (l.length : Int) := by omega
      obtain ⟨a1, rfl, _, q1⟩ := (H.out.grown hg HB.out (by simp)).str hlt
      obtain ⟨a2, rfl, _, q2⟩ := (H'.out.grown hg HB'.out (by simp)).str hlt
      clear hg
      go_wp2_with fail
      go_quiet (fail)
      go_wp2_with fail
      go_roundw
      case rel => exact ⟨k + 1, by omega, by go_num, gb_drewN HG.out _⟩
      case measure => simp [intOf]; omega
    · have hlt1 : ¬ (k : Int) < (l.length : Int) := by omega
      clear hg
      go_wp2_with fail
      go_ret
      exact ⟨rfl, HG.out⟩

/-! ## live -/

def litL : List ByteArray := [⟨#[97]⟩, ⟨#[]⟩, ⟨#[98]⟩, ⟨#[97]⟩]
theorem lit_inter : inter [⟨#[]⟩] litL = ([⟨#[]⟩, ⟨#[97]⟩, ⟨#[98]⟩], [1, 0, 2, 1]) := by decide +kernel
theorem lit_fit : litL.any unf = false := by decide +kernel
def litB : List UInt8 := syB (([⟨#[]⟩, ⟨#[97]⟩, ⟨#[98]⟩] : List ByteArray).drop 1)
theorem litB_len : litB.length = 20 := by decide +kernel
theorem lit_frs : frs (litB.take 19) = ([[1, 97]], 10, 3) := by decide +kernel
theorem lit_ld : ld [[1, 97]] = some [⟨#[]⟩, ⟨#[97]⟩] := by decide +kernel

theorem load_lit (A : Option Addr) (c : Nat) (w : World) (hr : Rd w w.heap.size A (u8s litB)) (hc : 20 ≤ c) (hm : c ≤ maxLen) :
    Calls Try.prog 7 #[.slice A 19 c] w fun e w' => w.grownBy w' none ∧ ∃ g f, e = .returned (.tuple #[.pointer (some ⟨g, 0, none⟩), .int .i64 10, .int .i64 0]) ∧ TabF w' w.heap.size f g [⟨#[]⟩, ⟨#[97]⟩] := by
  have h := load_any A 19 c (litB.take 19) w (by rw [← u8s_take]; exact hr.take 19) (by rw [List.length_take, litB_len]; rfl) (by omega) hm (by omega)
  rw [lit_frs] at h
  dsimp only at h
  rw [lit_ld] at h
  refine h.mono fun e w' ⟨hg, h⟩ => ⟨hg, ?_⟩
  rcases h with ⟨h, _⟩ | ⟨L, g, f, h1, h2, h3⟩
  · cases h
  · injection h1 with h1
    subst h1
    exact ⟨g, f, h2, h3⟩

/-- Intern of the four texts. -/
theorem intern_lit (base g : Nat) (f : List Nat) (w : World) (h : TabF w base f g [⟨#[]⟩]) (hb : base ≤ w.heap.size) :
    Calls Try.prog 13 #[.pointer (some ⟨g, 0, none⟩), .slice (some ⟨w.heap.size, 0, none⟩) 4 4] (w.alloc (.cells #[.string ⟨#[97]⟩, .string ⟨#[]⟩, .string ⟨#[98]⟩, .string ⟨#[97]⟩] 9)) fun e w' =>
      ∃ A c A2 c2 f', e = .returned (.tuple #[.slice A 4 c, .slice A2 20 c2, .int .i64 0]) ∧ Rd w' w'.heap.size A (nats [1, 0, 2, 1]) ∧ 20 ≤ c2 ∧ c2 ≤ maxLen ∧ Rd w' w'.heap.size A2 (u8s litB) ∧
        TabF w' base f' g [⟨#[]⟩, ⟨#[97]⟩, ⟨#[98]⟩] ∧ Wrote w w' f := by
  have hga := gb_alloc (gb_refl w none) (.cells #[.string ⟨#[97]⟩, .string ⟨#[]⟩, .string ⟨#[98]⟩, .string ⟨#[97]⟩] 9)
  have hi := intern_any base g f [⟨#[]⟩] litL (some ⟨w.heap.size, 0, none⟩) 4 4 (w.heap.size + 1) _ (h.grown hga) fit_new (Rd.new w #[.string ⟨#[97]⟩, .string ⟨#[]⟩, .string ⟨#[98]⟩, .string ⟨#[97]⟩] 9 (strs litL) rfl) (by simp)
    (fun ad ha _ hm => by
      injection ha with ha
      subst ha
      have := h.lt _ hm
      simp at this) rfl (by omega) lit_fit (by simp) (by simp; omega)
  refine hi.mono fun e w' ⟨A, c, b, f', he, ho1, ho2, ht, hw, _⟩ => ?_
  rw [lit_inter] at ho1 ho2 ht
  have ho2' : w'.ownsRow (w.alloc (.cells #[.string ⟨#[97]⟩, .string ⟨#[]⟩, .string ⟨#[98]⟩, .string ⟨#[97]⟩] 9)).heap.size 5 1 b litB.length (u8s litB) := ho2
  rw [litB_len] at ho2'
  obtain ⟨A2, c2, hb2, h1, h2, h3⟩ := own_form ho2'
  subst hb2
  exact ⟨A, c, A2, c2, f', he, Rd.of_own ho1, h1, h2, h3, ht, (Wrote.of_gb hga f).trans hw (fun x hx => .inl hx)⟩

theorem sym_two (base g : Nat) (f : List Nat) (w : World) (h : TabF w base f g [⟨#[]⟩, ⟨#[97]⟩, ⟨#[98]⟩]) :
    Calls Try.prog 16 #[.pointer (some ⟨g, 0, none⟩), .int .i64 2] w fun e w' => e = .returned (.tuple #[.string ⟨#[98]⟩, .int .i64 0]) ∧ w = w' := symbol_ok base g 2 f _ w h (by decide)
theorem sym_three (base g : Nat) (f : List Nat) (w : World) (h : TabF w base f g [⟨#[]⟩, ⟨#[97]⟩, ⟨#[98]⟩]) :
    Calls Try.prog 16 #[.pointer (some ⟨g, 0, none⟩), .int .i64 3] w fun e w' => e = .returned (.tuple #[.string ⟨#[]⟩, .int .i64 50]) ∧ w = w' := symbol_bad base g 3 f _ w h (.inr (by decide))
theorem len_two (base g : Nat) (f : List Nat) (w : World) (h : TabF w base f g [⟨#[]⟩, ⟨#[97]⟩]) :
    Calls Try.prog 15 #[.pointer (some ⟨g, 0, none⟩)] w fun e w' => e = .returned (.int .i64 2) ∧ w = w' := len_any base g f _ w h
theorem len_three (base g : Nat) (f : List Nat) (w : World) (h : TabF w base f g [⟨#[]⟩, ⟨#[97]⟩, ⟨#[98]⟩]) :
    Calls Try.prog 15 #[.pointer (some ⟨g, 0, none⟩)] w fun e w' => e = .returned (.int .i64 3) ∧ w = w' := len_any base g f _ w h

set_option maxHeartbeats 4000000 in
set_option maxRecDepth 100000 in
theorem live_any (w : World) : Calls Try.prog 6 #[] w fun e w' => e = .returned (.bool true) ∧ w.grownBy w' none := by
  go_enter Try.func6, Try.ntmps6
  go_wp2_with (first
    | (go_at_call 11; refine (new_tab w).mono ?_; rintro e w1 ⟨g, rfl, ⟨f, ht⟩, hg1⟩; have HT := hide ht; have HG1 := hide hg1; have HS1 := hide hg1.size; clear ht hg1)
    | (go_at_call 13; refine (intern_lit w.heap.size g f w1 HT.out HS1.out).mono ?_; rintro e w2 ⟨A, c, A2, c2, f2, rfl, hr1, hn2, hm2, hr2, ht2, hw2⟩; have HR1 := hide hr1; have HM2 := hide hm2; have HR2 := hide hr2; have HT2 := hide ht2; have HG2 := hide (hw2.gb HG1.out (fun x hx => (HT.out.lt x hx).2)); clear hr1 hm2 hr2 ht2 hw2)
    | (go_at_call 16; (with_reducible refine (sym_two w.heap.size g f2 w2 HT2.out).mono ?_); rintro e wq ⟨rfl, rfl⟩)
    | (go_at_call 16; (with_reducible refine (sym_three w.heap.size g f2 w2 HT2.out).mono ?_); rintro e wq ⟨rfl, rfl⟩)
    | (go_at_call 7; refine (load_lit A2 c2 w2 HR2.out hn2 HM2.out).mono ?_; rintro e w3 ⟨hg3, g3, f3, rfl, ht3⟩; have HT3 := hide ht3; have HG3 := hide hg3; clear ht3 hg3)
    | (go_at_call 9; refine (lnum_any _ _).mono ?_; rintro e wq ⟨rfl, rfl⟩)
    | (go_at_call 25; refine (ints_yes A (some ⟨w3.heap.size, 0, none⟩) 4 c 4 w2.heap.size (w3.heap.size + 1) [1, 0, 2, 1] _ ((HR1.out.grown HG3.out (Nat.le_refl _) (by simp)).alloc HG3.out.size _) (Rd.new w3 #[.int .i64 1, .int .i64 0, .int .i64 2, .int .i64 1] 3 _ rfl) (by have := HG3.out.size; simp; omega) (by simp) rfl (by omega)).mono ?_; rintro e w4 ⟨rfl, hg4⟩; have HG4 := hide (gb_trans (gb_alloc (gb_refl w3 none) _) hg4 (.inl rfl)); have HT4 := hide ((HT2.out.grown HG3.out).grown HG4.out); have HU4 := hide (HT3.out.grown HG4.out); clear hg4)
    | (go_at_call 15; (with_reducible refine (len_two w2.heap.size g3 f3 w4 HU4.out).mono ?_); rintro e wq ⟨rfl, rfl⟩)
    | (go_at_call 15; (with_reducible refine (len_three w.heap.size g f2 w4 HT4.out).mono ?_); rintro e wq ⟨rfl, rfl⟩))
  go_ret
  exact ⟨rfl, gb_trans HG2.out (gb_trans HG3.out HG4.out (.inl rfl)) (.inl rfl)⟩
end Go.Proofs.Ytgilkaaholkgfaa
