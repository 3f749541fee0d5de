/-
  The document's Load, the greatest number of symbols in sight.
-/
import Derived.Test.YtmcmlkglkpbnpaaGreatQam
import Derived.Test.YtmcmlkglkpbnpaaGreatQap
namespace Go.Proofs.YtmcmlkglkpbnpaaGreat
open Go.RowKit
def rest1L (L : List ByteArray) (load : List UInt8) : Option (List ByteArray) := match rest1 L load with
 | some M => if M.length ≤ 65536 then some M else none
 | none => none
def ldL (l : List (List UInt8)) : Option (List ByteArray) := match ld l with
 | some M => if M.length ≤ 65536 then some M else none
 | none => none
theorem ldL_no {M : List ByteArray} {l : List (List UInt8)} {k : Nat} (h : k < l.length) (hM : ldF [⟨#[]⟩] (l.take k) = some M) (hn : rest1L M l[k] = none) : ldL l = none := by
 unfold rest1L at hn
 unfold ldL ld
 cases hr : rest1 M l[k] with
 | none => rw [ldF_stop h hM hr]
 | some M' =>
  rw [hr] at hn
  have hn : ¬ M'.length ≤ 65536 := fun hle => by
   rw [show (match some M' with | some M => if M.length ≤ 65536 then some M else none | none => none) = (if M'.length ≤ 65536 then some M' else none) from rfl, if_pos hle] at hn
   cases hn
  cases hf : ldF [⟨#[]⟩] l with
  | none => rfl
  | some N =>
   have h1 := ldF_some hf
   have h2 := rest1_length hr
   have h3 := ldF_some hM
   rw [List.length_take] at h3
   exact if_neg (by simp at h1 h3; omega)
theorem ldL_yes {M M' : List ByteArray} {l : List (List UInt8)} {k : Nat} (h : k < l.length) (hM : ldF [⟨#[]⟩] (l.take k) = some M) (hn : rest1L M l[k] = some M') : ldF [⟨#[]⟩] (l.take (k + 1)) = some M' ∧ M'.length ≤ 65536 := by
 unfold rest1L at hn
 cases hr : rest1 M l[k] with
 | none => rw [hr] at hn; cases hn
 | some N =>
  rw [hr] at hn
  by_cases hle : N.length ≤ 65536
  ·rw [show (match some N with | some M => if M.length ≤ 65536 then some M else none | none => none) = (if N.length ≤ 65536 then some N else none) from rfl, if_pos hle] at hn
   injection hn with hn
   subst hn
   exact ⟨(ldF_step h hM).1.trans hr, hle⟩
  ·rw [show (match some N with | some M => if M.length ≤ 65536 then some M else none | none => none) = (if N.length ≤ 65536 then some N else none) from rfl, if_neg hle] at hn
   cases hn
theorem steps_big (base g : Nat) (f : List Nat) (L : List ByteArray) (load : List UInt8) (A : Option Addr) (c : Nat) (w : World) (h : TabF w base f g L) (hr : Rd w w.heap.size A (u8s load)) (hl : load.length ≤ 100000000) :
  Steps base g f L ⟨(rText load 0 0 64).1.toArray⟩ (rDone load (rText load 0 0 64).2.1 (rText load 0 0 64).2.2) A load.length c w := by
 have hle := rText_le load 0 0 64 (Nat.zero_le _)
 refine (new_any A c load w hr (by omega)).mono fun e w1 ⟨gR, he, hR1, hg1⟩ => ⟨gR, he, ?_⟩
 refine (text_any w.heap.size gR load 0 0 64 w1 hR1 (Nat.zero_le _) (by omega) (by constructor <;> decide)).mono fun e w2 ⟨he, hR2, hg2⟩ => ⟨he, ?_⟩
 refine (done_any w.heap.size gR load _ _ w2 hR2 hle (by omega)).mono fun e w3 ⟨he, nq, hw3⟩ => ⟨he, ?_⟩
 have h3 := hR1.above
 have hq : Wrote w w2 f := (Wrote.of_gb hg1 f).trans (Wrote.of_row hg2 (f := [gR]) (by simp)) (fun x hx => by simp at hx; subst hx; exact .inr h3)
 have ht : TabF w2 base f g L := (h.grown hg1).wrote (Wrote.of_row hg2 (f := [gR]) (by simp)) (fun x hx hm => by simp at hx; subst hx; have := h.lt _ hm; omega)
 rw [hw3]
 exact ⟨⟨hq.os, hq.tape, hq.output, hq.size, hq.block⟩, ht.drewN _⟩
set_option maxHeartbeats 1000000 in
set_option maxRecDepth 100000 in
theorem restore_fresh (base g : Nat) (f : List Nat) (L : List ByteArray) (s : ByteArray) (A : Option Addr) (n c : Nat) (w : World) (h : Steps base g f L s 0 A n c w) (hm : numOf L s = none) (hu : unf s = false) (hL : L.length < 65536) (hnd : L.Nodup) (hb : base ≤ w.heap.size) :
  Calls Tryz.prog 67 #[.pointer (some ⟨g, 0, none⟩), .slice A n c] w (RestPost base g f (some (L ++ [s])) w) := by
 have H := hide h
 have HM := hide hm
 have HBS := hide hb
 have HIN := hide (inter_one hm)
 have HU : Hid (∀ wq : World, w.heap.size ≤ wq.heap.size → TabF wq base f g L → Calls Tryz.prog 53 #[.pointer (some ⟨g, 0, none⟩), .slice (some ⟨wq.heap.size, 0, none⟩) 1 1] (wq.alloc (.cells #[.string s] 9)) (GivePost base g f L [s] (wq.alloc (.cells #[.string s] 9)))) := hide (fun wq hq ht =>
  (give_lim base g f L [s] (some ⟨wq.heap.size, 0, none⟩) 1 1 (wq.heap.size + 1) _ (ht.grown (gb_alloc (gb_refl wq none) _)) (Rd.new wq #[.string s] 9 (strs [s]) rfl) (by simp) (fun ad ha _ hm => by
   injection ha with ha
   subst ha
   have := ht.lt _ hm
   simp at this) rfl (by omega) (by simp [hu]) (by omega) hnd (by have := HBS.out; simp; omega)).mono fun e w' h => by
    rcases h with h | h
    ·exact h.2
    ·have := h.1
     rw [HIN.out] at this
     simp at this
     omega)
 clear h hm hu hb hnd
 go_enter Tryz.func67, Tryz.ntmps67
 go_wp2_with (first
  | (go_at_call 100; refine Calls.mono H.out ?_; rintro e w1 ⟨gR, rfl, h1⟩; have H1 := hide h1; clear h1)
  | (go_at_call 101; refine H1.out.mono ?_; rintro e w2 ⟨rfl, h2⟩; have H2 := hide h2; clear h2)
  | (go_at_call 102; refine H2.out.mono ?_; rintro e w3 ⟨rfl, h3⟩; have H3 := hide h3; obtain ⟨A4, c4, mb, q0, q1, _, _, _, hm4, _, hf4⟩ := h3.2.open_; have HLK : (Instr.lookup 78 (.map (some mb)) (.string s) true).run Tryz.prog w3 = .ok (.tuple #[.int .i64 0, .bool false]) w3 := hm4.ok_no (P := Tryz.prog) Tryz.dstr Tryz.underlying78 (zint w3) (k := s) HM.out; clear h3 hm4 hf4)
  | (go_at_call 53; refine (HU.out _ H3.out.1.size H3.out.2).mono ?_; rintro e w4 ⟨v4, f4, rfl, ho4, ht4, hw4, hf4⟩; have HT4 := hide ht4; have HW4 := hide hw4; have HF4 := hide hf4; clear ho4 ht4 hw4 hf4))
 go_ret
 have hT4 := HT4.out
 rw [HIN.out] at hT4
 refine ⟨rfl, ?_, fun L' h => ?_⟩
 ·exact (H3.out.1.trans (Wrote.of_gb (gb_alloc (gb_refl w3 none) _) f) (fun x hx => .inl hx)).trans HW4.out (fun x hx => .inl hx)
 ·injection h with h
  subst h
  refine ⟨f4, hT4, fun x hx => (HF4.out x hx).imp id (fun h => ?_)⟩
  have := H3.out.1.size
  simp at h
  omega
set_option maxHeartbeats 1000000 in
set_option maxRecDepth 100000 in
theorem restore_full (base g : Nat) (f : List Nat) (L : List ByteArray) (s : ByteArray) (A : Option Addr) (n c : Nat) (w : World) (h : Steps base g f L s 0 A n c w) (hm : numOf L s = none) (hu : unf s = false) (hL : L.length = 65536) (hnd : L.Nodup) (hb : base ≤ w.heap.size) :
  Calls Tryz.prog 67 #[.pointer (some ⟨g, 0, none⟩), .slice A n c] w (RestPost base g f none w) := by
 have H := hide h
 have HM := hide hm
 have HBS := hide hb
 have HIN := hide (inter_one hm)
 have HLL := hide hL
 have HU : Hid (∀ wq : World, w.heap.size ≤ wq.heap.size → TabF wq base f g L → Calls Tryz.prog 53 #[.pointer (some ⟨g, 0, none⟩), .slice (some ⟨wq.heap.size, 0, none⟩) 1 1] (wq.alloc (.cells #[.string s] 9)) fun e w' => e = .returned (.tuple #[.slice none 0 0, .int .i64 6]) ∧ Wrote (wq.alloc (.cells #[.string s] 9)) w' f) := hide (fun wq hq ht =>
  (give_lim base g f L [s] (some ⟨wq.heap.size, 0, none⟩) 1 1 (wq.heap.size + 1) _ (ht.grown (gb_alloc (gb_refl wq none) _)) (Rd.new wq #[.string s] 9 (strs [s]) rfl) (by simp) (fun ad ha _ hm => by
   injection ha with ha
   subst ha
   have := ht.lt _ hm
   simp at this) rfl (by omega) (by simp [hu]) (by omega) hnd (by have := HBS.out; simp; omega)).mono fun e w' h => by
    rcases h with h | h
    ·have := h.1
     rw [HIN.out] at this
     simp at this
     omega
    ·obtain ⟨_, h2, _, _, h3, _⟩ := h
     exact ⟨h2, h3⟩)
 clear h hm hu hb hnd hL
 go_enter Tryz.func67, Tryz.ntmps67
 go_wp2_with (first
  | (go_at_call 100; refine Calls.mono H.out ?_; rintro e w1 ⟨gR, rfl, h1⟩; have H1 := hide h1; clear h1)
  | (go_at_call 101; refine H1.out.mono ?_; rintro e w2 ⟨rfl, h2⟩; have H2 := hide h2; clear h2)
  | (go_at_call 102; refine H2.out.mono ?_; rintro e w3 ⟨rfl, h3⟩; have H3 := hide h3; obtain ⟨A4, c4, mb, q0, q1, _, _, _, hm4, _, hf4⟩ := h3.2.open_; have HLK : (Instr.lookup 78 (.map (some mb)) (.string s) true).run Tryz.prog w3 = .ok (.tuple #[.int .i64 0, .bool false]) w3 := hm4.ok_no (P := Tryz.prog) Tryz.dstr Tryz.underlying78 (zint w3) (k := s) HM.out; clear h3 hm4 hf4)
  | (go_at_call 53; refine (HU.out _ H3.out.1.size H3.out.2).mono ?_; rintro e w4 ⟨rfl, hw4⟩; have HW4 := hide hw4; clear hw4))
 go_ret
 exact ⟨rfl, (H3.out.1.trans (Wrote.of_gb (gb_alloc (gb_refl w3 none) _) f) (fun x hx => .inl hx)).trans HW4.out (fun x hx => .inl hx), fun L' h => by cases h⟩
theorem restore_lim (base g : Nat) (f : List Nat) (L : List ByteArray) (load : List UInt8) (A : Option Addr) (n c : Nat) (w : World) (h : TabF w base f g L) (hr : Rd w w.heap.size A (u8s load)) (hn : load.length = n) (hl : n ≤ 100000000) (hL : L.length ≤ 65536) (hnd : L.Nodup) (hb : base ≤ w.heap.size) :
  Calls Tryz.prog 67 #[.pointer (some ⟨g, 0, none⟩), .slice A n c] w (RestPost base g f (rest1L L load) w) := by
 subst hn
 have hs := steps_big base g f L load A c w h hr hl
 unfold rest1L rest1
 generalize (⟨(rText load 0 0 64).1.toArray⟩ : ByteArray) = s at *
 generalize rDone load (rText load 0 0 64).2.1 (rText load 0 0 64).2.2 = d at *
 by_cases hd : d = 0
 ·subst hd
  cases hm : numOf L s with
  | some m => rw [if_neg (by simp)]; exact restore_known base g f L s m A _ c w hs hm
  | none =>
   cases hu : unf s with
   | true => rw [if_neg (by simp)]; exact restore_unfit base g f L s A _ c w hs hm hu
   | false =>
    rw [if_pos ⟨rfl, rfl, rfl⟩]
    by_cases hfl : L.length = 65536
    ·rw [show (match some (L ++ [s]) with | some M => if M.length ≤ 65536 then some M else none | none => none) = none from if_neg (by simp; omega)]
     exact restore_full base g f L s A _ c w hs hm hu hfl hnd hb
    ·rw [show (match some (L ++ [s]) with | some M => if M.length ≤ 65536 then some M else none | none => none) = some (L ++ [s]) from if_pos (by simp; omega)]
     exact restore_fresh base g f L s A _ c w hs hm hu (by omega) hnd hb
 ·rw [if_neg (fun h => hd h.1)]
  exact restore_bad base g f L s d A _ c w hs hd
set_option maxHeartbeats 4000000 in
set_option maxRecDepth 100000 in
theorem load_lim (A : Option Addr) (n c : Nat) (bs : List UInt8) (w : World) (hr : Rd w w.heap.size A (u8s bs)) (hn : bs.length = n) (hc : n ≤ c) (hm : c ≤ maxLen) (h1 : n ≤ 100000000) :
  Calls Tryz.prog 29 #[.slice A n c] w (LoadPost (ldL (frs bs).1) (frs bs).2.1 w) := by
 subst hn
 have HF := hide (frames_any A c bs w hr hc hm (by omega))
 have hmany := frs_many bs
 obtain ⟨ls, at_, er, hq⟩ : ∃ ls a e, frs bs = (ls, a, e) := ⟨_, _, _, rfl⟩
 rw [hq] at HF hmany
 rw [hq]
 dsimp only at hmany ⊢
 have HMX := hide hmany.2
 have hml := hmany.1
 clear hq hr hmany hm
 go_enter Tryz.func29, Tryz.ntmps29
 go_wp2_with (first
  | (go_at_call 66; refine HF.out.mono ?_; rintro e w1 ⟨v, rfl, hob, hg1⟩; have HG1 := hide hg1; obtain ⟨AL, cl, l, hv, hrl, hml2⟩ := hob.rd; subst hv; have hml3 : l.map (fun x => x.2.2) = ls := hml2; have hll : l.length = ls.length := (by rw [← hml3, List.length_map]); have HRL := hide hrl; have HML := hide hml3; clear hob hg1 hrl hml2 hml3)
  | (go_at_call 26; refine (new_tab w1).mono ?_; rintro e w2 ⟨g, rfl, ⟨f, ht⟩, hg2⟩; have HT := hide ht; have HG2 := hide hg2; clear ht hg2))
 have HI : Hid (∀ k (h : k < l.length) (h' : k < ls.length), l[k].2.2 = ls[k]) := hide fun k h h' => by
  have := congrArg (fun x => x[k]?) HML.out
  simpa [h, h'] using this
 have hl3 : l.length * 8 ≤ bs.length := by omega
 go_loopw [10, 20] (fun _ i wr => ∃ (k : Nat) (M : List ByteArray) (f' : List Nat), k ≤ l.length ∧ i = .int .i64 (k : Int) ∧ Hid (ldF [⟨#[]⟩] (ls.take k) = some M ∧ M.length ≤ 65536) ∧ TabF wr w1.heap.size f' g M ∧ w1.grownBy wr none) (fun _ i _ => l.length - (intOf i).toNat)
 case atStart => exact ⟨0, [⟨#[]⟩], f, Nat.zero_le _, rfl, hide ⟨rfl, by decide⟩, HT.out, HG2.out⟩
 case round =>
  obtain ⟨k, M, f', hk, rfl, HM, ht, hg⟩ := hrel
  have HTT := hide ht
  have HG := hide hg
  by_cases hlt : k < l.length
  ·have hlt1 : (k : Int) < (l.length : Int) := by omega
   have hlt2 : k < ls.length := by omega
   obtain ⟨ad, rfl, _, hcell, hrd, hlc, _⟩ := (HRL.out.grown hg (Nat.le_refl _) (by simp)).at_ hlt
   have e1 := HI.out k hlt hlt2
   have HLS := hide (HMX.out _ (List.getElem_mem hlt2))
   have HNO := hide (fun h : rest1L M ls[k] = none => ldL_no hlt2 HM.out.1 h)
   have HYES := hide (fun M' (h : rest1L M ls[k] = some M') => ldL_yes hlt2 HM.out.1 h)
   have HNDM := hide (FitY.ldF fit_new HM.out.1).2
   have HXL := hide hrd
   generalize l[k] = x at hcell HXL hlc e1
   obtain ⟨xA, xc, X⟩ := x
   dsimp only at hcell HXL hlc e1
   subst e1
   have HRS := hide (restore_lim w1.heap.size g f' M ls[k] xA ls[k].length xc wr ht (HXL.out.more hg.size) rfl (by have := HLS.out; omega) HM.out.2 HNDM.out hg.size)
   clear ht hg hrd
   obtain ⟨y, hy⟩ : ∃ y, y = ls[k] := ⟨_, rfl⟩
   rw [← hy] at hcell HRS HNO HYES hlc HLS HXL
   clear hy
   cases hrs : rest1L M y with
   | none =>
    have HN : Hid (ldL ls = none) := hide (HNO.out hrs)
    rw [hrs] at HRS
    clear hrs
    go_wp2_with (go_at_call 67; refine HRS.out.mono ?_; rintro e w3 ⟨rfl, hw3, _⟩; have HW3 := hide hw3; clear hw3)
    go_ret3
    exact ⟨gb_trans HG1.out (HW3.out.gb HG.out (fun x hx => (HTT.out.lt x hx).2)) (.inl rfl), .inl ⟨HN.out, rfl⟩⟩
   | some M' =>
    have HN : Hid (ldF [⟨#[]⟩] (ls.take (k + 1)) = some M' ∧ M'.length ≤ 65536) := hide (HYES.out M' hrs)
    rw [hrs] at HRS
    clear hrs
    go_wp2_with (go_at_call 67; refine HRS.out.mono ?_; rintro e w3 ⟨rfl, hw3, hq3⟩; have HW3 := hide hw3; have HQ3 := hide (hq3 M' rfl); clear hw3 hq3)
    go_roundw
    case rel =>
     obtain ⟨f3, ht3, hf3⟩ := HQ3.out
     exact ⟨k + 1, M', f3, by omega, by go_num, HN, ht3, HW3.out.gb HG.out (fun x hx => (HTT.out.lt x hx).2)⟩
    case measure => simp [intOf]; omega
  ·obtain rfl : k = l.length := by omega
   have hlt1 : ¬ (l.length : Int) < (l.length : Int) := by omega
   have HTK := hide (show ls.take l.length = ls by rw [hll, List.take_length])
   clear ht hg
   go_wp2_with fail
   go_ret3
   refine ⟨gb_trans HG1.out HG.out (.inl rfl), .inr ⟨M, g, f', ?_, rfl, HTT.out.more HG1.out.size⟩⟩
   have := HM.out
   rw [HTK.out] at this
   unfold ldL ld
   rw [this.1]
   exact if_pos this.2
end Go.Proofs.YtmcmlkglkpbnpaaGreat
namespace Go.Proofs.YtmcmlkglkpbnpaaGreat
open Go.RowKit
theorem rest1L_eq (M : List ByteArray) (y : List UInt8) : rest1L M y = if rDone y (rText y 0 0 64).2.1 (rText y 0 0 64).2.2 = 0 ∧ numOf M ⟨(rText y 0 0 64).1.toArray⟩ = none ∧ unf ⟨(rText y 0 0 64).1.toArray⟩ = false then (if M.length < 65536 then some (M ++ [⟨(rText y 0 0 64).1.toArray⟩]) else none) else none := by
 unfold rest1L rest1
 split
 ·rename_i N hN
  split at hN
  ·injection hN with hN
   subst hN
   rename_i hc
   rw [if_pos hc, List.length_append]
   by_cases h : M.length < 65536
   ·rw [if_pos h, if_pos (by simp; omega)]
   ·rw [if_neg h, if_neg (by simp; omega)]
  ·cases hN
 ·rename_i hN
  split at hN
  ·cases hN
  ·rename_i hc
   rw [if_neg hc]
theorem rsteps_big (base g : Nat) (L : List ByteArray) (load : List UInt8) (A : Option Addr) (n c : Nat) (w : World) (h : RTab w base g L) (hr : Rd w w.heap.size A (u8s load)) (hn : load.length = n) (hl : n ≤ 100000000) :
  RSteps base g L ⟨(rText load 0 0 64).1.toArray⟩ (rDone load (rText load 0 0 64).2.1 (rText load 0 0 64).2.2) A n c w := by
 subst hn
 have hle := rText_le load 0 0 64 (Nat.zero_le _)
 refine (refNew_any A c load w hr (by omega)).mono fun e w1 ⟨gR, he, hR1, hg1⟩ => ⟨gR, he, ?_⟩
 refine (refText_any w.heap.size gR load 0 0 64 w1 hR1 (Nat.zero_le _) (by omega) (by constructor <;> decide)).mono fun e w2 ⟨he, hR2, hg2⟩ => ⟨he, ?_⟩
 refine (refDone_any w.heap.size gR load _ _ w2 hR2 hle).mono fun e w3 ⟨he, nq, hw3⟩ => ⟨he, ?_⟩
 have hg : w.grownBy w3 none := by
  rw [hw3]
  exact gb_drewN (gb_trans hg1 hg2 (.inr (.inr ⟨gR, rfl, hR1.ge⟩))) nq
 exact ⟨hg, h.grown hg⟩
set_option maxHeartbeats 8000000 in
set_option maxRecDepth 100000 in
theorem rload_lim (A : Option Addr) (n c : Nat) (bs : List UInt8) (w : World) (hr : Rd w w.heap.size A (u8s bs)) (hn : bs.length = n) (hc : n ≤ c) (hm : c ≤ maxLen) (h1 : n ≤ 100000000) :
  Calls Tryz.prog 51 #[.slice A n c] w (RLoadPost (ldL (frs bs).1) (frs bs).2.1 w) := by
 subst hn
 have HF := hide (refFrames_any A c bs w hr hc hm (by omega))
 have hmany := frs_many bs
 obtain ⟨ls, at_, er, hq⟩ : ∃ ls a e, frs bs = (ls, a, e) := ⟨_, _, _, rfl⟩
 rw [hq] at HF hmany
 rw [hq]
 dsimp only at hmany ⊢
 have HMX := hide hmany.2
 have hml := hmany.1
 obtain ⟨i1, hi1, hiz, his, hib⟩ := info_parts Tryz.infoTy
 have HI1 := hide hi1
 have HIZ := hide hiz
 have HIS := hide his
 have HIB := hide hib
 clear hq hr hmany hm hi1 hiz his hib
 go_enter Tryz.func51, Tryz.ntmps51
 go_wp2_with (first
  | (go_at_call 86; refine HF.out.mono ?_; rintro e w1 ⟨v, rfl, hob, hg1⟩; have HG1 := hide hg1; obtain ⟨AL, cl, l, hv, hrl, hml2⟩ := hob.rd; subst hv; have hml3 : l.map (fun x => x.2.2) = ls := hml2; have hll : l.length = ls.length := (by rw [← hml3, List.length_map]); have HRL := hide hrl; have HML := hide hml3; clear hob hg1 hrl hml2 hml3)
  | (go_at_call 48; refine (new_rtab w1).mono ?_; rintro e w2 ⟨g, rfl, ht, hg2⟩; have HT := hide ht; have HG2 := hide hg2; clear ht hg2))
 have HI : Hid (∀ k (h : k < l.length) (h' : k < ls.length), l[k].2.2 = ls[k]) := hide fun k h h' => by
  have := congrArg (fun x => x[k]?) HML.out
  simpa [h, h'] using this
 have hl3 : l.length * 8 ≤ bs.length := by omega
 go_loopw [9, 10, 11] (fun i _ _ wr => ∃ (k : Nat) (M : List ByteArray), k ≤ l.length ∧ i = .int .i64 (k : Int) ∧ Hid (ldF [⟨#[]⟩] (ls.take k) = some M ∧ M.length ≤ 65536) ∧ RTab wr w1.heap.size g M ∧ w1.grownBy wr none) (fun i _ _ _ => l.length - (intOf i).toNat)
 case atStart => exact ⟨0, [⟨#[]⟩], Nat.zero_le _, rfl, hide ⟨rfl, by decide⟩, HT.out, HG2.out⟩
 case round =>
  obtain ⟨k, M, hk, rfl, HM, ht, hg⟩ := hrel
  have HTT := hide ht
  have HG := hide hg
  by_cases hlt : k < l.length
  ·have hlt1 : (k : Int) < (l.length : Int) := by omega
   have hlt2 : k < ls.length := by omega
   obtain ⟨ad, rfl, _, hcell, hrd, hlc, _⟩ := (HRL.out.grown hg (Nat.le_refl _) (by simp)).at_ hlt
   have e1 := HI.out k hlt hlt2
   have HLS := hide (HMX.out _ (List.getElem_mem hlt2))
   have HNO := hide (fun h : rest1L M ls[k] = none => ldL_no hlt2 HM.out.1 h)
   have HYES := hide (fun M' (h : rest1L M ls[k] = some M') => ldL_yes hlt2 HM.out.1 h)
   have hM5 : M.length ≤ 65536 := HM.out.2
   have HXL := hide hrd
   generalize l[k] = x at hcell HXL hlc e1
   obtain ⟨xA, xc, X⟩ := x
   dsimp only at hcell HXL hlc e1
   subst e1
   have HRS := hide (rsteps_big w1.heap.size g M ls[k] xA ls[k].length xc wr ht (HXL.out.more hg.size) rfl (by have := HLS.out; omega))
   have HSS : Hid ((⟨(rText ls[k] 0 0 64).1.toArray⟩ : ByteArray).size ≤ 1000000000) := hide (by
    have h2 : (rText ls[k] 0 0 64).1.length ≤ ls[k].length := by
     unfold rText
     split
     ·split
      ·simp
      ·split
       ·simp
       ·simp only [List.length_take, List.length_drop]; omega
     ·simp
    have h3 := HLS.out
    show (rText ls[k] 0 0 64).1.toArray.size ≤ _
    rw [List.size_toArray]
    omega)
   clear ht hg hrd
   obtain ⟨y, hy⟩ : ∃ y, y = ls[k] := ⟨_, rfl⟩
   rw [← hy] at hcell HRS HNO HYES hlc HLS HXL HSS
   clear hy
   have hrt := rest1L_eq M y
   generalize (⟨(rText y 0 0 64).1.toArray⟩ : ByteArray) = s at hrt HRS HSS
   generalize rDone y (rText y 0 0 64).2.1 (rText y 0 0 64).2.2 = d at hrt HRS
   have HB : Hid (rest1L M y = none → ldL ls = none) := HNO
   by_cases hd : d = 0
   ·subst hd
    cases hu : unf s with
    | true =>
     have HN := hide (HB.out (by rw [hrt, hu, if_neg (by simp)]))
     have HSY := hide (fun w : World => rsymbol_any s w HSS.out)
     rw [hu] at HSY
     clear hrt hu
     go_wp2_with (first
      | (go_at_call 87; refine Calls.mono HRS.out ?_; rintro e w3 ⟨gR, rfl, h1⟩; have H1 := hide h1; clear h1)
      | (go_at_call 88; refine H1.out.mono ?_; rintro e w4 ⟨rfl, h2⟩; have H2 := hide h2; clear h2)
      | (go_at_call 89; refine H2.out.mono ?_; rintro e w5 ⟨rfl, hg5, ht5⟩; have HG5 := hide hg5; have HT5 := hide ht5; clear hg5 ht5)
      | (go_at_call 90; refine (HSY.out _).mono ?_; rintro e wq ⟨rfl, rfl⟩))
     go_ret3
     exact ⟨gb_trans HG1.out (gb_trans HG.out HG5.out (.inl rfl)) (.inl rfl), .inl ⟨HN.out, rfl⟩⟩
    | false =>
     have HSY := hide (fun w : World => rsymbol_any s w HSS.out)
     rw [hu] at HSY
     cases hnum : numOf M s with
     | some m =>
      have HN := hide (HB.out (by rw [hrt, hnum, if_neg (by simp)]))
      have HNI := hide (numI_some hnum)
      clear hrt hu hnum
      go_wp2_with (first
       | (go_at_call 87; refine Calls.mono HRS.out ?_; rintro e w3 ⟨gR, rfl, h1⟩; have H1 := hide h1; clear h1)
       | (go_at_call 88; refine H1.out.mono ?_; rintro e w4 ⟨rfl, h2⟩; have H2 := hide h2; clear h2)
       | (go_at_call 89; refine H2.out.mono ?_; rintro e w5 ⟨rfl, hg5, ht5⟩; have HG5 := hide hg5; have HT5 := hide ht5; clear hg5 ht5)
       | (go_at_call 90; refine (HSY.out _).mono ?_; rintro e wq ⟨rfl, rfl⟩)
       | (go_at_call 60; refine (rnumber_any w1.heap.size g M s w5 HT5.out (by omega)).mono ?_; rintro e wq ⟨rfl, rfl⟩; rw [HNI.out]))
      go_ret3
      exact ⟨gb_trans HG1.out (gb_trans HG.out HG5.out (.inl rfl)) (.inl rfl), .inl ⟨HN.out, rfl⟩⟩
     | none =>
      by_cases hfl : M.length < 65536
      ·have HN : Hid (ldF [⟨#[]⟩] (ls.take (k + 1)) = some (M ++ [s]) ∧ (M ++ [s]).length ≤ 65536) := hide (HYES.out _ (by rw [hrt, if_pos ⟨rfl, hnum, hu⟩, if_pos hfl]))
       have HNI := hide (numI_none hnum)
       have HL1 : Hid (M.length + 1 ≤ maxLen) := hide (by unfold maxLen; omega)
       have HMB : Hid ((M.length + 1) * 16 ≤ 140737488355328) := hide (by omega)
       have HM5 := hide hM5
       have hge : decide ((65536 : Int) ≤ (M.length : Int)) = false := decide_eq_false (by omega)
       have hge2 : decide (65536 ≤ M.length) = false := decide_eq_false (by omega)
       clear hrt hu hnum hM5 hfl
       go_wp2_with (first
        | (go_at_call 87; refine Calls.mono HRS.out ?_; rintro e w3 ⟨gR, rfl, h1⟩; have H1 := hide h1; clear h1)
        | (go_at_call 88; refine H1.out.mono ?_; rintro e w4 ⟨rfl, h2⟩; have H2 := hide h2; clear h2)
        | (go_at_call 89; refine H2.out.mono ?_; rintro e w5 ⟨rfl, hg5, ht5⟩; have HG5 := hide hg5; have HT5 := hide ht5; obtain ⟨A6, c6, q0, _, _, _, hB6⟩ := ht5.open_; have HB6 := hide hB6; clear hg5 ht5 hB6)
        | (go_at_call 90; refine (HSY.out _).mono ?_; rintro e wq ⟨rfl, rfl⟩)
        | (go_at_call 60; refine (rnumber_any w1.heap.size g M s w5 HT5.out (by have := HM5.out; omega)).mono ?_; rintro e wq ⟨rfl, rfl⟩; rw [HNI.out])
        | (at_builtin; have hga := gb_alloc (gb_refl w5 none) (.cells #[.string s] 9); have HBa := hide (HB6.out.grown hga); have HGa := hide hga; clear hga; refine wpList_append_rd _ rfl (.tmp 58) (.tmp 60) 33 rfl w1.heap.size 9 i1 (.string ⟨#[]⟩) 1 16 Tryz.underlying33 HI1.out HIZ.out HIS.out HIB.out rfl (Nat.succ_pos 0) (.slice A6 M.length c6) M.length (strs M) rfl HBa.out.2.1 (w5.heap.size + 1) (some ⟨w5.heap.size, 0, none⟩) 1 1 [.string s] rfl rfl (Rd.new w5 #[.string s] 9 _ rfl) (cellT s) HL1.out HMB.out (by have := HG.out.size; have := HG5.out.size; simp; omega) ?_; intro v2 w6 ho2 hg2 hb2; obtain ⟨A2, c2, hv2, _, _, _⟩ := own_form ho2; subst hv2; have HE := hide (HBa.out.entered hg2 ho2); have hh2 := blk_keep HBa.out.1 hg2 (fun e => (own_ne HBa.out.2.1 HBa.out.1 (by decide)) e.symm); have p0 : w6.cell? ⟨g, 0, none⟩ = some (.slice A6 M.length c6) := (by rw [blk_cell hh2]; rfl); have z0 := blk_frozen hh2 0; clear hh2 ho2 hg2 hb2))
       go_roundw
       case rel =>
        exact ⟨k + 1, M ++ [s], by omega, by go_num, HN, ⟨_, HE.out.1⟩, HE.out.2 w1 (gb_trans (gb_trans HG.out HG5.out (.inl rfl)) HGa.out (.inl rfl)) (Nat.le_refl _)⟩
       case measure => simp [intOf]; omega
      ·have HN := hide (HB.out (by rw [hrt, if_pos ⟨rfl, hnum, hu⟩, if_neg hfl]))
       have HNI := hide (numI_none hnum)
       have HM5 := hide hM5
       have hge : decide ((65536 : Int) ≤ (M.length : Int)) = true := decide_eq_true (by omega)
       have hge2 : decide (65536 ≤ M.length) = true := decide_eq_true (by omega)
       clear hrt hu hnum hM5 hfl
       go_wp2_with (first
        | (go_at_call 87; refine Calls.mono HRS.out ?_; rintro e w3 ⟨gR, rfl, h1⟩; have H1 := hide h1; clear h1)
        | (go_at_call 88; refine H1.out.mono ?_; rintro e w4 ⟨rfl, h2⟩; have H2 := hide h2; clear h2)
        | (go_at_call 89; refine H2.out.mono ?_; rintro e w5 ⟨rfl, hg5, ht5⟩; have HG5 := hide hg5; have HT5 := hide ht5; obtain ⟨A6, c6, q0, _, _, _, hB6⟩ := ht5.open_; clear hg5 ht5 hB6)
        | (go_at_call 90; refine (HSY.out _).mono ?_; rintro e wq ⟨rfl, rfl⟩)
        | (go_at_call 60; refine (rnumber_any w1.heap.size g M s w5 HT5.out (by have := HM5.out; omega)).mono ?_; rintro e wq ⟨rfl, rfl⟩; rw [HNI.out]))
       go_ret3
       exact ⟨gb_trans HG1.out (gb_trans HG.out HG5.out (.inl rfl)) (.inl rfl), .inl ⟨HN.out, rfl⟩⟩
   ·have HN := hide (HB.out (by rw [hrt, if_neg (fun h => hd h.1)]))
    have hb1 : (d != 0) = true := by simpa using hd
    clear hrt hd
    go_wp2_with (first
     | (go_at_call 87; refine Calls.mono HRS.out ?_; rintro e w3 ⟨gR, rfl, h1⟩; have H1 := hide h1; clear h1)
     | (go_at_call 88; refine H1.out.mono ?_; rintro e w4 ⟨rfl, h2⟩; have H2 := hide h2; clear h2)
     | (go_at_call 89; refine H2.out.mono ?_; rintro e w5 ⟨rfl, hg5, ht5⟩; have HG5 := hide hg5; have HT5 := hide ht5; clear hg5 ht5))
    go_ret3
    exact ⟨gb_trans HG1.out (gb_trans HG.out HG5.out (.inl rfl)) (.inl rfl), .inl ⟨HN.out, rfl⟩⟩
  ·obtain rfl : k = l.length := by omega
   have hlt1 : ¬ (l.length : Int) < (l.length : Int) := by omega
   have HTK := hide (show ls.take l.length = ls by rw [hll, List.take_length])
   clear ht hg
   go_wp2_with fail
   go_ret3
   refine ⟨gb_trans HG1.out HG.out (.inl rfl), .inr ⟨M, g, ?_, rfl, HTT.out.more HG1.out.size⟩⟩
   have := HM.out
   rw [HTK.out] at this
   unfold ldL ld
   rw [this.1]
   exact if_pos this.2
end Go.Proofs.YtmcmlkglkpbnpaaGreat
