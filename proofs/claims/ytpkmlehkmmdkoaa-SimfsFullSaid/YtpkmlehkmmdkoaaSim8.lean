/-
  The contracts of FS.put.
-/
import Derived.Test.YtpkmlehkmmdkoaaSim7
namespace Go.Proofs.Ytpkmlehkmmdkoaa
open Go.RowKit

set_option maxHeartbeats 2000000 in
set_option maxRecDepth 100000 in
theorem put_arg (g fb : Nat) (own rd : Nat → Prop) (f : Fl) (k : Int) (A : Option Addr) (n c : Nat) (w : World) (hf : FileAt w own rd fb f) (hk : k < 0 ∨ (f.bytes.length : Int) < k) :
    Calls Try.prog 41 #[.pointer (some ⟨g, 0, none⟩), .pointer (some ⟨fb, 0, none⟩), .int .i64 k, .slice A n c] w fun e w' => e = .returned (.int .i64 2) ∧ w = w' := by
  obtain ⟨fv, hfl, _, _, hb, _⟩ := hf
  obtain ⟨A1, c1, hv, hnc, hcm⟩ := hb.form
  unfold maxLen at hcm
  have h1 := hfl.c1
  rw [hv] at h1
  clear hfl hb hv
  rcases hk with hk | hk
  · go_enter Try.func41, Try.ntmps41
    go_wp2
    go_ret
    exact ⟨rfl, rfl⟩
  · have hk0 : ¬ k < 0 := by omega
    have hk1 : (0 : Int) ≤ k := by omega
    go_enter Try.func41, Try.ntmps41
    go_wp2
    go_ret
    exact ⟨rfl, rfl⟩

set_option maxHeartbeats 2000000 in
set_option maxRecDepth 100000 in
theorem put_full (g fb : Nat) (v : FsV) (own rd : Nat → Prop) (f : Fl) (k n : Nat) (A : Option Addr) (c : Nat) (w : World) (h : FsB w g v) (hf : FileAt w own rd fb f) (hk : k ≤ f.bytes.length) (hn : n ≤ 1000000000) (hfl : f.bytes.length ≤ 1000000000)
    (hu : 0 ≤ v.used ∧ v.used ≤ 1000000000000000) (hm : f.bytes.length < k + n) (hc : v.cap < v.used + (k + n - f.bytes.length : Int)) :
    Calls Try.prog 41 #[.pointer (some ⟨g, 0, none⟩), .pointer (some ⟨fb, 0, none⟩), .int .i64 (k : Int), .slice A n c] w fun e w' => e = .returned (.int .i64 5) ∧ ∃ j, w' = w.drewN j := by
  obtain ⟨fv, hfl, _, _, hb, _⟩ := hf
  obtain ⟨A1, c1, hv, hnc, hcm⟩ := hb.form
  unfold maxLen at hcm
  obtain ⟨hu1, hu2⟩ := hu
  have h1 := hfl.c1
  rw [hv] at h1
  have q0 := h.c0
  have q1 := h.c1
  have hm' : (0 : Int) < (k : Int) + (n : Int) - (f.bytes.length : Int) := by omega
  have hw1 : IntKind.i64.wrap ((k : Int) + (n : Int)) = (k : Int) + (n : Int) := IntWalk.i64_in _ (by omega)
  have hw2 : IntKind.i64.wrap ((k : Int) + (n : Int) - (f.bytes.length : Int)) = (k : Int) + (n : Int) - (f.bytes.length : Int) := IntWalk.i64_in _ (by omega)
  have hw3 : IntKind.i64.wrap (v.used + ((k : Int) + (n : Int) - (f.bytes.length : Int))) = v.used + ((k : Int) + (n : Int) - (f.bytes.length : Int)) := IntWalk.i64_in _ (by omega)
  have hd1 : decide ((f.bytes.length : Int) < (k : Int) + (n : Int)) = true := by simp; omega
  have hd2 : decide (v.cap < v.used + ((k : Int) + (n : Int) - (f.bytes.length : Int))) = true := by simpa using hc
  clear hfl hb hv h hm
  go_enter Try.func41, Try.ntmps41
  go_wp2
  go_quiet (fail)
  go_wp2
  go_ret
  exact ⟨rfl, _, rfl⟩

/-- What put leaves where it writes. -/
def PutPost (g fb : Nat) (v : FsV) (own rd : Nat → Prop) (f : Fl) (x : Wr) (w : World) (e : Ending) (w' : World) : Prop :=
  e = .returned (.int .i64 0) ∧ FsB w' g ({ v with used := v.used - f.bytes.length + (doW f.bytes x).length } : FsV).count ∧ Turned (fun i => i = g ∨ own i) w w' ∧
    ∃ s, w.heap.size ≤ s ∧ s ≤ w'.heap.size ∧ FileAt w' (fun i => own i ∨ (s ≤ i ∧ i < w'.heap.size)) (fun i => rd i ∨ (w.heap.size ≤ i ∧ i < s)) fb { f with bytes := doW f.bytes x, waits := f.waits ++ [x] }

theorem doW_len (b p : List UInt8) (k : Nat) (h : k ≤ b.length) : (doW b ⟨false, k, p⟩).length = max b.length (k + p.length) := by
  simp [doW]
  omega

/-- Behind the clone: what alter is called with. -/
theorem put_alter {g fb : Nat} {v : FsV} {own rd : Nat → Prop} {f : Fl} {k n c2 : Nat} {A2 : Option Addr} {p : List UInt8} {w wq w1 : World} (h : FsB w g v) (hf : FileAt w own rd fb f) (hq : ∃ j, wq = w.drewN j) (hk : k ≤ f.bytes.length)
    (hdis : ∀ i, rd i → ¬ own i ∧ i < w.heap.size ∧ i ≠ g) (hog : ∀ i, own i → i < w.heap.size ∧ i ≠ g) (hlen : f.bytes.length + p.length ≤ 1000000000) (hwl : f.waits.length ≤ 1000000)
    (hu : 0 ≤ v.used ∧ v.used ≤ 1000000000000000) (h0 : 0 ≤ v.ops ∧ v.ops ≤ 2000000000) (ha : v.armed ≤ 9223372036854775807) (hdl : (doW f.bytes ⟨false, k, p⟩).length ≤ 2000000000)
    (hb1 : BsAt w1 (fun i => wq.heap.size ≤ i ∧ i < w1.heap.size) (.slice A2 n c2) p) (hg1 : wq.grownBy w1 none) :
    Calls Try.prog 52 #[.pointer (some ⟨g, 0, none⟩), .pointer (some ⟨fb, 0, none⟩), .agg #[.bool false, .int .i64 (k : Int), .slice A2 n c2]] w1 fun e w' => e = .returned (.tuple #[]) ∧ PutPost g fb v own rd f ⟨false, k, p⟩ w (.returned (.int .i64 0)) w' := by
  obtain ⟨j, rfl⟩ := hq
  have hgw : w.grownBy w1 none := ⟨hg1.os, hg1.tape, hg1.output, hg1.size, hg1.block⟩
  have hgl := h.lt
  have h1 : FsB w1 g v := h.keep (hgw.block g hgl (by simp))
  have hf1 : FileAt w1 own (fun i => rd i ∨ (w.heap.size ≤ i ∧ i < w1.heap.size)) fb f := (hf.keep fun i _ hl => hgw.block i hl (by simp)).mono (fun _ _ h => h) (fun _ _ h => .inl h)
  refine (alter_any g fb v own (fun i => rd i ∨ (w.heap.size ≤ i ∧ i < w1.heap.size)) f ⟨false, k, p⟩ (.slice A2 n c2) w1 h1 hf1 (hb1.mono fun i hi => .inr hi) hk (fun i hi => ?_) (fun i hi => ⟨Nat.lt_of_lt_of_le (hog i hi).1 hgw.size, (hog i hi).2⟩) hlen hwl hu h0 ha hdl).mono fun e w' ⟨he, h2, h3, h4⟩ => ⟨he, rfl, h2, ?_, w1.heap.size, hgw.size, h4.size, h3⟩
  · rcases hi with hi | hi
    · exact ⟨(hdis i hi).1, Nat.lt_of_lt_of_le (hdis i hi).2.1 hgw.size, (hdis i hi).2.2⟩
    · exact ⟨fun ho => by have := (hog i ho).1; omega, hi.2, by omega⟩
  · exact (Turned.of_gb (M := fun i => i = g ∨ own i) hgw (by simp)).trans h4 fun _ _ h => h

set_option maxHeartbeats 4000000 in
set_option maxRecDepth 100000 in
theorem put_ok (g fb : Nat) (v : FsV) (own rd : Nat → Prop) (f : Fl) (k n : Nat) (A : Option Addr) (c B : Nat) (p : List UInt8) (w : World) (h : FsB w g v) (hf : FileAt w own rd fb f) (hr : Rd w B A (u8s p)) (hB : B ≤ w.heap.size) (hn : n = p.length) (hk : k ≤ f.bytes.length)
    (hdis : ∀ i, rd i → ¬ own i ∧ i < w.heap.size ∧ i ≠ g) (hog : ∀ i, own i → i < w.heap.size ∧ i ≠ g) (hlen : f.bytes.length + p.length ≤ 1000000000) (hwl : f.waits.length ≤ 1000000)
    (hu : 0 ≤ v.used ∧ v.used ≤ 1000000000000000) (h0 : 0 ≤ v.ops ∧ v.ops ≤ 2000000000) (ha : v.armed ≤ 9223372036854775807) (hfit : k + n ≤ f.bytes.length ∨ v.used + (k + n - f.bytes.length : Int) ≤ v.cap) :
    Calls Try.prog 41 #[.pointer (some ⟨g, 0, none⟩), .pointer (some ⟨fb, 0, none⟩), .int .i64 (k : Int), .slice A n c] w (PutPost g fb v own rd f ⟨false, k, p⟩ w) := by
  have hkk := hf
  obtain ⟨fv, hfl, _, _, hb, _⟩ := hkk
  obtain ⟨A1, c1, hv, hnc, hcm⟩ := hb.form
  unfold maxLen at hcm
  obtain ⟨hu1, hu2⟩ := hu
  have h1 := hfl.c1
  rw [hv] at h1
  have q0 := h.c0
  have q1 := h.c1
  have hw1 : IntKind.i64.wrap ((k : Int) + (n : Int)) = (k : Int) + (n : Int) := IntWalk.i64_in _ (by omega)
  have hw2 : IntKind.i64.wrap ((k : Int) + (n : Int) - (f.bytes.length : Int)) = (k : Int) + (n : Int) - (f.bytes.length : Int) := IntWalk.i64_in _ (by omega)
  have hw3 : IntKind.i64.wrap (v.used + ((k : Int) + (n : Int) - (f.bytes.length : Int))) = v.used + ((k : Int) + (n : Int) - (f.bytes.length : Int)) := IntWalk.i64_in _ (by omega)
  have H := hide h
  have HF := hide hf
  have HR := hide hr
  have HN := hide hn
  have HD := hide hdis
  have HO := hide hog
  have HPL : Hid (p.length ≤ 1000000000) := hide (by omega)
  have HLEN := hide hlen
  have HWL := hide hwl
  have HU : Hid (0 ≤ v.used ∧ v.used ≤ 1000000000000000) := hide ⟨hu1, hu2⟩
  have HH0 := hide h0
  have HHA := hide ha
  have HDL : Hid ((doW f.bytes ⟨false, k, p⟩).length ≤ 2000000000) := hide (by rw [doW_len _ _ _ hk]; omega)
  have HK := hide hk
  by_cases hm : f.bytes.length < k + n
  · have hc : v.used + ((k : Int) + (n : Int) - (f.bytes.length : Int)) ≤ v.cap := by omega
    have hd1 : decide ((f.bytes.length : Int) < (k : Int) + (n : Int)) = true := by simp; omega
    have hd2 : decide (v.cap < v.used + ((k : Int) + (n : Int) - (f.bytes.length : Int))) = false := by simp; omega
    clear hfl hb hv h hm hf hr hn hdis hog hlen hwl h0 ha hfit
    go_enter Try.func41, Try.ntmps41
    go_wp2
    go_quiet (fail)
    go_wp2_with (first
      | (go_at_call 48; refine (clone8_any A n c B p _ (Rd.drewN HR.out _) HN.out hB HPL.out).mono ?_; rintro e w1 ⟨A2, c2, rfl, hb1, hg1⟩; have HAL := hide (put_alter H.out HF.out ⟨_, rfl⟩ HK.out HD.out HO.out HLEN.out HWL.out HU.out HH0.out HHA.out HDL.out hb1 hg1); clear hb1 hg1)
      | (go_at_call 52; refine HAL.out.mono ?_; rintro e w2 ⟨rfl, hpost⟩; have HPO := hide hpost; clear hpost))
    go_ret
    exact HPO.out
  · have hd1 : decide ((f.bytes.length : Int) < (k : Int) + (n : Int)) = false := by simp; omega
    clear hfl hb hv h hf hr hn hdis hog hlen hwl h0 ha hfit
    go_enter Try.func41, Try.ntmps41
    go_wp2
    go_quiet (fail)
    go_wp2_with (first
      | (go_at_call 48; refine (clone8_any A n c B p _ (Rd.drewN HR.out _) HN.out hB HPL.out).mono ?_; rintro e w1 ⟨A2, c2, rfl, hb1, hg1⟩; have HAL := hide (put_alter H.out HF.out ⟨_, rfl⟩ HK.out HD.out HO.out HLEN.out HWL.out HU.out HH0.out HHA.out HDL.out hb1 hg1); clear hb1 hg1)
      | (go_at_call 52; refine HAL.out.mono ?_; rintro e w2 ⟨rfl, hpost⟩; have HPO := hide hpost; clear hpost))
    go_ret
    exact HPO.out

end Go.Proofs.Ytpkmlehkmmdkoaa
