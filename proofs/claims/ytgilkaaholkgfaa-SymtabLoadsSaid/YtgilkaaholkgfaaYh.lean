/-
  The contracts of symtab's Load, Intern, All.
-/
import Derived.Test.YtgilkaaholkgfaaYg
import Derived.Test.YtgilkaaholkgfaaRefF
namespace Go.Proofs.Ytgilkaaholkgfaa
open Go.RowKit

/-- Symbols that may be a table's. -/
def Fit (L : List ByteArray) : Prop := (∀ s ∈ L, unf s = false) ∧ L.Nodup
theorem Fit.size {L : List ByteArray} (h : Fit L) : ∀ s ∈ L, s.size ≤ 64 := fun s hs => unf_size (h.1 s hs)
theorem fit_new : Fit [⟨#[]⟩] := ⟨fun s hs => by
  obtain rfl := List.mem_singleton.1 hs
  decide +kernel, by simp⟩
theorem Fit.inter {L l : List ByteArray} (h : Fit L) (hl : ∀ s ∈ l, unf s = false) : Fit (inter L l).1 := by
  refine ⟨fun s hs => ?_, inter_nodup l (L, []) h.2⟩
  obtain ⟨r, hr, hm⟩ := inter_pre l L []
  unfold Go.Proofs.Ytgilkaaholkgfaa.inter at hs
  rw [hr] at hs
  rcases List.mem_append.1 hs with h1 | h1
  · exact h.1 s h1
  · exact hl s (hm s h1)
theorem Fit.rest1 {L M : List ByteArray} {x : List UInt8} (h : Fit L) (hM : rest1 L x = some M) : Fit M := by
  unfold Go.Proofs.Ytgilkaaholkgfaa.rest1 at hM
  split at hM
  · rename_i hc
    injection hM with hM
    subst hM
    refine ⟨fun s hs => ?_, List.nodup_append.2 ⟨h.2, by simp, fun a ha b hb => ?_⟩⟩
    · rcases List.mem_append.1 hs with h1 | h1
      · exact h.1 s h1
      · rw [List.mem_singleton.1 h1]; exact hc.2.2
    · obtain rfl := List.mem_singleton.1 hb
      rintro rfl
      exact numOf_none hc.2.1 ha
  · cases hM
theorem Fit.ldF {l : List (List UInt8)} : ∀ {L M : List ByteArray}, Fit L → ldF L l = some M → Fit M := by
  induction l with
  | nil => intro L M h hM; injection hM with hM; rw [← hM]; exact h
  | cons x r ih =>
    intro L M h hM
    unfold Go.Proofs.Ytgilkaaholkgfaa.ldF at hM
    obtain ⟨M', h1, h2⟩ := Option.bind_eq_some_iff.1 hM
    exact ih (h.rest1 h1) h2

def LoadPost (r : Option (List ByteArray)) (k : Nat) (w : World) (e : Ending) (w' : World) : Prop :=
  w.grownBy w' none ∧ ((r = none ∧ e = .returned (.tuple #[.pointer none, .int .i64 0, .int .i64 51])) ∨
    ∃ L g f, r = some L ∧ e = .returned (.tuple #[.pointer (some ⟨g, 0, none⟩), .int .i64 (k : Int), .int .i64 0]) ∧ TabF w' w.heap.size f g L)

set_option maxHeartbeats 4000000 in
set_option maxRecDepth 100000 in
theorem load_any (A : Option Addr) (n c : Nat) (bs : List UInt8) (w : World) (hr : Rd w w.heap.size A (u8s bs)) (hn : bs.length = n) (hc : n ≤ c) (hm : c ≤ maxLen) (h1 : n ≤ 30000) :
    Calls Try.prog 7 #[.slice A n c] w (LoadPost (ld (frs bs).1) (frs bs).2.1 w) := by
  subst hn
  have HF := hide (frames_any A c bs w hr hc hm (by omega))
  have hmany := frs_many bs
  obtain ⟨ls, at_, er, hq⟩ : ∃ ls a e, frs bs = (ls, a, e) := ⟨_, _, _, rfl⟩
  rw [hq] at HF hmany
  rw [hq]
  dsimp only at hmany ⊢
  have HMX := hide hmany.2
  have hml := hmany.1
  clear hq hr hmany hm
  go_enter Try.func7, Try.ntmps7
  go_wp2_with (first
    | (go_at_call 26; refine HF.out.mono ?_; rintro e w1 ⟨v, rfl, hob, hg1⟩; have HG1 := hide hg1; obtain ⟨AL, cl, l, hv, hrl, hml2⟩ := hob.rd; subst hv; have hml3 : l.map (fun x => x.2.2) = ls := hml2; have hll : l.length = ls.length := (by rw [← hml3, List.length_map]); have HRL := hide hrl; have HML := hide hml3; clear hob hg1 hrl hml2 hml3)
    | (go_at_call 11; refine (new_tab w1).mono ?_; rintro e w2 ⟨g, rfl, ⟨f, ht⟩, hg2⟩; have HT := hide ht; have HG2 := hide hg2; clear ht hg2))
  have HI : Hid (∀ k (h : k < l.length) (h' : k < ls.length), l[k].2.2 = ls[k]) := hide fun k h h' => by
    have := congrArg (fun x => x[k]?) HML.out
    simpa [h, h'] using this
  have hl3 : l.length * 8 ≤ bs.length := by omega
  go_loopw [10, 20] (fun _ i wr => ∃ (k : Nat) (M : List ByteArray) (f' : List Nat), k ≤ l.length ∧ i = .int .i64 (k : Int) ∧ Hid (ldF [⟨#[]⟩] (ls.take k) = some M) ∧ TabF wr w1.heap.size f' g M ∧ w1.grownBy wr none) (fun _ i _ => l.length - (intOf i).toNat)
  case atStart => exact ⟨0, [⟨#[]⟩], f, Nat.zero_le _, rfl, hide rfl, HT.out, HG2.out⟩
  case round =>
    obtain ⟨k, M, f', hk, rfl, HM, ht, hg⟩ := hrel
    have HTT := hide ht
    have HG := hide hg
    by_cases hlt : k < l.length
    · have hlt1 : (k : Int) < (l.length : Int) := by omega
      have hlt2 : k < ls.length := by omega
      obtain ⟨ad, rfl, _, hcell, hrd, hlc, _⟩ := (HRL.out.grown hg (Nat.le_refl _) (by simp)).at_ hlt
      have e1 := HI.out k hlt hlt2
      have HLS := hide (HMX.out _ (List.getElem_mem hlt2))
      have HST := hide (ldF_step hlt2 HM.out)
      have HSP := hide (fun h => ldF_stop hlt2 HM.out h)
      have hM5 : M.length ≤ 5000 := by
        have := ldF_some HM.out
        rw [List.length_take] at this
        simp at this
        omega
      have HXL := hide hrd
      generalize l[k] = x at hcell HXL hlc e1
      obtain ⟨xA, xc, X⟩ := x
      dsimp only at hcell HXL hlc e1
      subst e1
      have HRS := hide (restore_any w1.heap.size g f' M ls[k] xA ls[k].length xc wr ht (HXL.out.more hg.size) rfl (by have := HLS.out; omega) hM5 hg.size)
      clear ht hg hrd
      obtain ⟨y, hy⟩ : ∃ y, y = ls[k] := ⟨_, rfl⟩
      rw [← hy] at hcell HRS HST HSP hlc HLS HXL
      clear hy
      cases hrs : rest1 M y with
      | none =>
        have HN : Hid (ldF [⟨#[]⟩] ls = none) := hide (HSP.out hrs)
        rw [hrs] at HRS
        clear hrs
        go_wp2_with (go_at_call 27; refine HRS.out.mono ?_; rintro e w3 ⟨rfl, hw3, _⟩; have HW3 := hide hw3; clear hw3)
        go_ret3
        exact ⟨gb_trans HG1.out (HW3.out.gb HG.out (fun x hx => (HTT.out.lt x hx).2)) (.inl rfl), .inl ⟨HN.out, rfl⟩⟩
      | some M' =>
        have HN : Hid (ldF [⟨#[]⟩] (ls.take (k + 1)) = some M') := hide (HST.out.1.trans hrs)
        rw [hrs] at HRS
        clear hrs
        go_wp2_with (go_at_call 27; refine HRS.out.mono ?_; rintro e w3 ⟨rfl, hw3, hq3⟩; have HW3 := hide hw3; have HQ3 := hide (hq3 M' rfl); clear hw3 hq3)
        go_roundw
        case rel =>
          obtain ⟨f3, ht3, hf3⟩ := HQ3.out
          exact ⟨k + 1, M', f3, by omega, by go_num, HN, ht3, HW3.out.gb HG.out (fun x hx => (HTT.out.lt x hx).2)⟩
        case measure => simp [intOf]; omega
    · obtain rfl : k = l.length := by omega
      have hlt1 : ¬ (l.length : Int) < (l.length : Int) := by omega
      have HTK := hide (show ls.take l.length = ls by rw [hll, List.take_length])
      clear ht hg
      go_wp2_with fail
      go_ret3
      refine ⟨gb_trans HG1.out HG.out (.inl rfl), .inr ⟨M, g, f', ?_, rfl, HTT.out.more HG1.out.size⟩⟩
      have := HM.out
      rw [HTK.out] at this
      exact this

def InternPost (base g : Nat) (f : List Nat) (L l : List ByteArray) (w : World) (e : Ending) (w' : World) : Prop :=
  ∃ A c b f', e = .returned (.tuple #[.slice A l.length c, b, .int .i64 0]) ∧ w'.ownsRow w.heap.size 3 1 (.slice A l.length c) l.length (nats (inter L l).2) ∧
    w'.ownsRow w.heap.size 5 1 b (syB ((inter L l).1.drop L.length)).length (u8s (syB ((inter L l).1.drop L.length))) ∧ TabF w' base f' g (inter L l).1 ∧ Wrote w w' f ∧ ∀ x ∈ f', x ∈ f ∨ w.heap.size ≤ x

set_option maxHeartbeats 1000000 in
set_option maxRecDepth 100000 in
theorem intern_bad (base g : Nat) (f : List Nat) (L l : List ByteArray) (A : Option Addr) (n c B : Nat) (w : World) (h : TabF w base f g L) (hr : Rd w B A (strs l)) (hn : l.length = n) (hl : n ≤ 1000000) (hu : l.any unf = true) :
    Calls Try.prog 13 #[.pointer (some ⟨g, 0, none⟩), .slice A n c] w fun e w' => e = .returned (.tuple #[.slice none 0 0, .slice none 0 0, .int .i64 50]) ∧ w = w' := by
  have HG := hide (give_unfit g l A n c B w hr hn hl hu)
  obtain ⟨A0, c0, mb, h0, h1, _, _, _, _, _, hf0⟩ := h.open_
  clear hf0 hu hr hn h h1
  go_enter Try.func13, Try.ntmps13
  go_wp2_with (go_at_call 37; refine HG.out.mono ?_; rintro e w1 ⟨rfl, rfl⟩)
  go_ret3
  exact ⟨rfl, rfl⟩

set_option maxHeartbeats 1000000 in
set_option maxRecDepth 100000 in
theorem intern_any (base g : Nat) (f : List Nat) (L l : List ByteArray) (A : Option Addr) (n c B : Nat) (w : World) (h : TabF w base f g L) (hF : Fit L) (hr : Rd w B A (strs l)) (hB : B ≤ w.heap.size) (hA : ∀ ad, A = some ad → l ≠ [] → ad.block ∉ f)
    (hn : l.length = n) (hl : n ≤ 60000) (hu : l.any unf = false) (hL : L.length ≤ 5000) (hb : base ≤ w.heap.size) :
    Calls Try.prog 13 #[.pointer (some ⟨g, 0, none⟩), .slice A n c] w (InternPost base g f L l w) := by
  subst hn
  have HG := hide (give_any base g f L l A l.length c B w h hr hB hA rfl hl hu hL hb)
  have HFT := hide (hF.inter (l := l) (fun s hs => by
    rw [Bool.eq_false_iff]
    intro hc
    rw [List.any_eq_true.2 ⟨s, hs, hc⟩] at hu
    cases hu))
  have hsz := inter_size L l
  have hge : L.length ≤ (inter L l).1.length := by
    obtain ⟨r, hr, _⟩ := inter_pre l L []
    show L.length ≤ (l.foldl step1 (L, [])).1.length
    rw [hr, List.length_append]
    omega
  obtain ⟨A0, c0, mb, h0, h1, _, _, _, _, _, hf0⟩ := h.open_
  have HLT := hide h.lt
  clear hf0 hu hr h h1 hF hA hB hb
  have HFZ := hide HFT.out.size
  go_enter Try.func13, Try.ntmps13
  go_wp2_with (first
    | (go_at_call 37; refine HG.out.mono ?_; rintro e w1 ⟨v1, f1, rfl, ho1, ht1, hw1, hf1⟩; obtain ⟨A1, c1, hv1, _, _, _⟩ := own_form ho1; subst hv1; have HO1 := hide ho1; have HT1 := hide ht1; have HW1 := hide hw1; have HF1 := hide hf1; clear ho1 ht1 hw1 hf1)
    | (go_at_call 38; refine (bytesFrom_any base g L.length f1 (inter L l).1 w1 HT1.out hge (by omega) HFZ.out).mono ?_; rintro e w2 ⟨v2, rfl, ho2, hg2⟩; have HO2 := hide ho2; have HG2 := hide hg2; clear ho2 hg2))
  go_ret3
  exact ⟨A1, c1, v2, f1, rfl, own_grown HO1.out HG2.out, own_base HO2.out HW1.out.size, HT1.out.grown HG2.out, HW1.out.trans (Wrote.of_gb HG2.out f) (fun x hx => .inl hx), HF1.out⟩
end Go.Proofs.Ytgilkaaholkgfaa
