/-
  What is asked of a beginning of a table's bytes: huge; the table that is read.
-/
import Derived.Test.YtmcmlkglkpbnpaaGreatQal
import Derived.Test.YtmcmlkglkpbnpaaGreatQao
import Derived.Deep.QuietTactic
import Derived.BigQuiet
import Derived.Lib.IndexLaws
namespace Go.Proofs.YtmcmlkglkpbnpaaGreat
open Go.RowKit
theorem frsF_many (n : Nat) : ∀ p : List UInt8, (frsF n p).1.length * 8 ≤ p.length ∧ ∀ x ∈ (frsF n p).1, x.length ≤ p.length := by
 induction n with
 | zero => intro p; simp [frsF]
 | succ n ih =>
  intro p
  unfold frsF
  split
  ·simp
  ·split
   ·rename_i h0 h1
    have hs := opn_size p h1
    have h2 := ih (p.drop (opn p).2.1)
    rw [List.length_drop] at h2
    refine ⟨by simp only [List.length_cons]; omega, fun x hx => ?_⟩
    rcases List.mem_cons.1 hx with rfl | hx
    ·omega
    ·have := h2.2 x hx
     omega
   ·simp
theorem frs_many (p : List UInt8) : (frs p).1.length * 8 ≤ p.length ∧ ∀ x ∈ (frs p).1, x.length ≤ p.length := frsF_many _ p
def RestPost (base g : Nat) (f : List Nat) (r : Option (List ByteArray)) (w : World) (e : Ending) (w' : World) : Prop :=
 e = .returned (.bool r.isSome) ∧ Wrote w w' f ∧ ∀ L', r = some L' → ∃ f', TabF w' base f' g L' ∧ ∀ x ∈ f', x ∈ f ∨ w.heap.size ≤ x
theorem inter_one {L : List ByteArray} {s : ByteArray} (h : numOf L s = none) : inter L [s] = (L ++ [s], [L.length]) := by
 show step1 (L, []) s = _
 rw [step1_no h]
 rfl
def Mid (base g : Nat) (f : List Nat) (L : List ByteArray) (w : World) (w3 : World) : Prop := Wrote w w3 f ∧ TabF w3 base f g L
def Steps (base g : Nat) (f : List Nat) (L : List ByteArray) (s : ByteArray) (d : Int) (A : Option Addr) (n c : Nat) (w : World) : Prop :=
 Calls Tryz.prog 100 #[.slice A n c] w fun e w1 => ∃ gR, e = .returned (.pointer (some ⟨gR, 0, none⟩)) ∧
  Calls Tryz.prog 101 #[.pointer (some ⟨gR, 0, none⟩), .int .i64 64] w1 fun e w2 => e = .returned (.string s) ∧
   Calls Tryz.prog 102 #[.pointer (some ⟨gR, 0, none⟩)] w2 fun e w3 => e = .returned (.int .i64 d) ∧ Mid base g f L w w3
theorem steps_any (base g : Nat) (f : List Nat) (L : List ByteArray) (load : List UInt8) (A : Option Addr) (c : Nat) (w : World) (h : TabF w base f g L) (hr : Rd w w.heap.size A (u8s load)) (hl : load.length ≤ 100000) :
  Steps base g f L ⟨(rText load 0 0 64).1.toArray⟩ (rDone load (rText load 0 0 64).2.1 (rText load 0 0 64).2.2) A load.length c w := by
 have hle := rText_le load 0 0 64 (Nat.zero_le _)
 refine (new_any A c load w hr (by omega)).mono fun e w1 ⟨gR, he, hR1, hg1⟩ => ⟨gR, he, ?_⟩
 refine (text_any w.heap.size gR load 0 0 64 w1 hR1 (Nat.zero_le _) (by omega) (by constructor <;> decide)).mono fun e w2 ⟨he, hR2, hg2⟩ => ⟨he, ?_⟩
 refine (done_any w.heap.size gR load _ _ w2 hR2 hle (by omega)).mono fun e w3 ⟨he, nq, hw3⟩ => ⟨he, ?_⟩
 have h3 := hR1.above
 have hq : Wrote w w2 f := (Wrote.of_gb hg1 f).trans (Wrote.of_row hg2 (f := [gR]) (by simp)) (fun x hx => by simp at hx; subst hx; exact .inr h3)
 have ht : TabF w2 base f g L := (h.grown hg1).wrote (Wrote.of_row hg2 (f := [gR]) (by simp)) (fun x hx hm => by simp at hx; subst hx; have := h.lt _ hm; omega)
 rw [hw3]
 exact ⟨⟨hq.os, hq.tape, hq.output, hq.size, hq.block⟩, ht.drewN _⟩
set_option maxHeartbeats 1000000 in
set_option maxRecDepth 100000 in
theorem restore_bad (base g : Nat) (f : List Nat) (L : List ByteArray) (s : ByteArray) (d : Int) (A : Option Addr) (n c : Nat) (w : World) (h : Steps base g f L s d A n c w) (hd : d ≠ 0) :
  Calls Tryz.prog 67 #[.pointer (some ⟨g, 0, none⟩), .slice A n c] w (RestPost base g f none w) := by
 have H := hide h
 have hb1 : (d != 0) = true := by simpa using hd
 clear h hd
 go_enter Tryz.func67, Tryz.ntmps67
 go_wp2_with (first
  | (go_at_call 100; refine Calls.mono H.out ?_; rintro e w1 ⟨gR, rfl, h1⟩; have H1 := hide h1; clear h1)
  | (go_at_call 101; refine H1.out.mono ?_; rintro e w2 ⟨rfl, h2⟩; have H2 := hide h2; clear h2)
  | (go_at_call 102; refine H2.out.mono ?_; rintro e w3 ⟨rfl, h3⟩; have H3 := hide h3; clear h3))
 go_ret
 exact ⟨rfl, H3.out.1, fun L' h => by cases h⟩
set_option maxHeartbeats 1000000 in
set_option maxRecDepth 100000 in
theorem restore_known (base g : Nat) (f : List Nat) (L : List ByteArray) (s : ByteArray) (m : Nat) (A : Option Addr) (n c : Nat) (w : World) (h : Steps base g f L s 0 A n c w) (hm : numOf L s = some m) :
  Calls Tryz.prog 67 #[.pointer (some ⟨g, 0, none⟩), .slice A n c] w (RestPost base g f none w) := by
 have H := hide h
 have HM := hide hm
 clear h hm
 go_enter Tryz.func67, Tryz.ntmps67
 go_wp2_with (first
  | (go_at_call 100; refine Calls.mono H.out ?_; rintro e w1 ⟨gR, rfl, h1⟩; have H1 := hide h1; clear h1)
  | (go_at_call 101; refine H1.out.mono ?_; rintro e w2 ⟨rfl, h2⟩; have H2 := hide h2; clear h2)
  | (go_at_call 102; refine H2.out.mono ?_; rintro e w3 ⟨rfl, h3⟩; have H3 := hide h3; obtain ⟨A4, c4, mb, q0, q1, _, _, _, hm4, _, hf4⟩ := h3.2.open_; have HLK : (Instr.lookup 78 (.map (some mb)) (.string s) true).run Tryz.prog w3 = .ok (.tuple #[.int .i64 (m : Int), .bool true]) w3 := hm4.ok_yes (P := Tryz.prog) Tryz.dstr Tryz.underlying78 (zint w3) (k := s) HM.out; clear h3 hm4 hf4))
 go_ret
 exact ⟨rfl, H3.out.1, fun L' h => by cases h⟩
set_option maxHeartbeats 1000000 in
set_option maxRecDepth 100000 in
theorem restore_unfit (base g : Nat) (f : List Nat) (L : List ByteArray) (s : ByteArray) (A : Option Addr) (n c : Nat) (w : World) (h : Steps base g f L s 0 A n c w) (hm : numOf L s = none) (hu : unf s = true) :
  Calls Tryz.prog 67 #[.pointer (some ⟨g, 0, none⟩), .slice A n c] w (RestPost base g f none w) := by
 have H := hide h
 have HM := hide hm
 have HU : Hid (∀ wq : World, Calls Tryz.prog 53 #[.pointer (some ⟨g, 0, none⟩), .slice (some ⟨wq.heap.size, 0, none⟩) 1 1] (wq.alloc (.cells #[.string s] 9)) fun e w' => e = .returned (.tuple #[.slice none 0 0, .int .i64 50]) ∧ wq.grownBy w' none) := hide (fun wq =>
  (give_unfit g [s] (some ⟨wq.heap.size, 0, none⟩) 1 1 (wq.heap.size + 1) _ (Rd.new wq #[.string s] 9 (strs [s]) rfl) rfl (by omega) (by simp [hu])).mono fun e w' ⟨he, hw⟩ => ⟨he, hw ▸ gb_alloc (gb_refl wq none) _⟩)
 clear h hm hu
 go_enter Tryz.func67, Tryz.ntmps67
 go_wp2_with (first
  | (go_at_call 100; refine Calls.mono H.out ?_; rintro e w1 ⟨gR, rfl, h1⟩; have H1 := hide h1; clear h1)
  | (go_at_call 101; refine H1.out.mono ?_; rintro e w2 ⟨rfl, h2⟩; have H2 := hide h2; clear h2)
  | (go_at_call 102; refine H2.out.mono ?_; rintro e w3 ⟨rfl, h3⟩; have H3 := hide h3; obtain ⟨A4, c4, mb, q0, q1, _, _, _, hm4, _, hf4⟩ := h3.2.open_; have HLK : (Instr.lookup 78 (.map (some mb)) (.string s) true).run Tryz.prog w3 = .ok (.tuple #[.int .i64 0, .bool false]) w3 := hm4.ok_no (P := Tryz.prog) Tryz.dstr Tryz.underlying78 (zint w3) (k := s) HM.out; clear h3 hm4 hf4)
  | (go_at_call 53; refine (HU.out _).mono ?_; rintro e w4 ⟨rfl, hg4⟩; have HG4 := hide hg4; clear hg4))
 go_ret
 exact ⟨rfl, H3.out.1.trans (Wrote.of_gb HG4.out f) (fun x hx => .inl hx), fun L' h => by cases h⟩
set_option maxHeartbeats 1000000 in
set_option maxRecDepth 100000 in
theorem restore_ok (base g : Nat) (f : List Nat) (L : List ByteArray) (s : ByteArray) (A : Option Addr) (n c : Nat) (w : World) (h : Steps base g f L s 0 A n c w) (hm : numOf L s = none) (hu : unf s = false) (hL : L.length ≤ 5000) (hb : base ≤ w.heap.size) :
  Calls Tryz.prog 67 #[.pointer (some ⟨g, 0, none⟩), .slice A n c] w (RestPost base g f (some (L ++ [s])) w) := by
 have H := hide h
 have HM := hide hm
 have HBS := hide hb
 have HIN := hide (inter_one hm)
 have HU : Hid (∀ wq : World, w.heap.size ≤ wq.heap.size → TabF wq base f g L → Calls Tryz.prog 53 #[.pointer (some ⟨g, 0, none⟩), .slice (some ⟨wq.heap.size, 0, none⟩) 1 1] (wq.alloc (.cells #[.string s] 9)) (GivePost base g f L [s] (wq.alloc (.cells #[.string s] 9)))) := hide (fun wq hq ht =>
  give_any base g f L [s] (some ⟨wq.heap.size, 0, none⟩) 1 1 (wq.heap.size + 1) _ (ht.grown (gb_alloc (gb_refl wq none) _)) (Rd.new wq #[.string s] 9 (strs [s]) rfl) (by simp) (fun ad ha _ hm => by
   injection ha with ha
   subst ha
   have := ht.lt _ hm
   simp at this) rfl (by omega) (by simp [hu]) hL (by have := HBS.out; simp; omega))
 clear h hm hu hb
 go_enter Tryz.func67, Tryz.ntmps67
 go_wp2_with (first
  | (go_at_call 100; refine Calls.mono H.out ?_; rintro e w1 ⟨gR, rfl, h1⟩; have H1 := hide h1; clear h1)
  | (go_at_call 101; refine H1.out.mono ?_; rintro e w2 ⟨rfl, h2⟩; have H2 := hide h2; clear h2)
  | (go_at_call 102; refine H2.out.mono ?_; rintro e w3 ⟨rfl, h3⟩; have H3 := hide h3; obtain ⟨A4, c4, mb, q0, q1, _, _, _, hm4, _, hf4⟩ := h3.2.open_; have HLK : (Instr.lookup 78 (.map (some mb)) (.string s) true).run Tryz.prog w3 = .ok (.tuple #[.int .i64 0, .bool false]) w3 := hm4.ok_no (P := Tryz.prog) Tryz.dstr Tryz.underlying78 (zint w3) (k := s) HM.out; clear h3 hm4 hf4)
  | (go_at_call 53; refine (HU.out _ H3.out.1.size H3.out.2).mono ?_; rintro e w4 ⟨v4, f4, rfl, ho4, ht4, hw4, hf4⟩; have HT4 := hide ht4; have HW4 := hide hw4; have HF4 := hide hf4; clear ho4 ht4 hw4 hf4))
 go_ret
 have hT4 := HT4.out
 rw [HIN.out] at hT4
 refine ⟨rfl, ?_, fun L' h => ?_⟩
 ·exact (H3.out.1.trans (Wrote.of_gb (gb_alloc (gb_refl w3 none) _) f) (fun x hx => .inl hx)).trans HW4.out (fun x hx => .inl hx)
 ·injection h with h
  subst h
  refine ⟨f4, hT4, fun x hx => (HF4.out x hx).imp id (fun h => ?_)⟩
  have := H3.out.1.size
  simp at h
  omega
theorem restore_any (base g : Nat) (f : List Nat) (L : List ByteArray) (load : List UInt8) (A : Option Addr) (n c : Nat) (w : World) (h : TabF w base f g L) (hr : Rd w w.heap.size A (u8s load)) (hn : load.length = n) (hl : n ≤ 100000) (hL : L.length ≤ 5000) (hb : base ≤ w.heap.size) :
  Calls Tryz.prog 67 #[.pointer (some ⟨g, 0, none⟩), .slice A n c] w (RestPost base g f (rest1 L load) w) := by
 subst hn
 have hs := steps_any base g f L load A c w h hr hl
 unfold rest1
 generalize (⟨(rText load 0 0 64).1.toArray⟩ : ByteArray) = s at *
 generalize rDone load (rText load 0 0 64).2.1 (rText load 0 0 64).2.2 = d at *
 by_cases hd : d = 0
 ·subst hd
  cases hm : numOf L s with
  | some m => rw [if_neg (by simp)]; exact restore_known base g f L s m A _ c w hs hm
  | none =>
   cases hu : unf s with
   | true => rw [if_neg (by simp)]; exact restore_unfit base g f L s A _ c w hs hm hu
   | false => rw [if_pos ⟨rfl, rfl, rfl⟩]; exact restore_ok base g f L s A _ c w hs hm hu hL hb
 ·rw [if_neg (fun h => hd h.1)]
  exact restore_bad base g f L s d A _ c w hs hd
end Go.Proofs.YtmcmlkglkpbnpaaGreat
namespace Go.Proofs.YtmcmlkglkpbnpaaGreat
open Go.RowKit
def FitY (L : List ByteArray) : Prop := (∀ s ∈ L, unf s = false) ∧ L.Nodup
theorem FitY.size {L : List ByteArray} (h : FitY L) : ∀ s ∈ L, s.size ≤ 64 := fun s hs => unf_size (h.1 s hs)
theorem fit_new : FitY [⟨#[]⟩] := ⟨fun s hs => by
 obtain rfl := List.mem_singleton.1 hs
 decide +kernel, by simp⟩
theorem FitY.inter {L l : List ByteArray} (h : FitY L) (hl : ∀ s ∈ l, unf s = false) : FitY (inter L l).1 := by
 refine ⟨fun s hs => ?_, inter_nodup l (L, []) h.2⟩
 obtain ⟨r, hr, hm⟩ := inter_pre l L []
 unfold Go.Proofs.YtmcmlkglkpbnpaaGreat.inter at hs
 rw [hr] at hs
 rcases List.mem_append.1 hs with h1 | h1
 ·exact h.1 s h1
 ·exact hl s (hm s h1)
theorem FitY.rest1 {L M : List ByteArray} {x : List UInt8} (h : FitY L) (hM : rest1 L x = some M) : FitY M := by
 unfold Go.Proofs.YtmcmlkglkpbnpaaGreat.rest1 at hM
 split at hM
 ·rename_i hc
  injection hM with hM
  subst hM
  refine ⟨fun s hs => ?_, List.nodup_append.2 ⟨h.2, by simp, fun a ha b hb => ?_⟩⟩
  ·rcases List.mem_append.1 hs with h1 | h1
   ·exact h.1 s h1
   ·rw [List.mem_singleton.1 h1]; exact hc.2.2
  ·obtain rfl := List.mem_singleton.1 hb
   rintro rfl
   exact numOf_none hc.2.1 ha
 ·cases hM
theorem FitY.ldF {l : List (List UInt8)} : ∀ {L M : List ByteArray}, FitY L → ldF L l = some M → FitY M := by
 induction l with
 | nil => intro L M h hM; injection hM with hM; rw [← hM]; exact h
 | cons x r ih =>
  intro L M h hM
  unfold Go.Proofs.YtmcmlkglkpbnpaaGreat.ldF at hM
  obtain ⟨M', h1, h2⟩ := Option.bind_eq_some_iff.1 hM
  exact ih (h.rest1 h1) h2
def LoadPost (r : Option (List ByteArray)) (k : Nat) (w : World) (e : Ending) (w' : World) : Prop :=
 w.grownBy w' none ∧ ((r = none ∧ e = .returned (.tuple #[.pointer none, .int .i64 0, .int .i64 51])) ∨
  ∃ L g f, r = some L ∧ e = .returned (.tuple #[.pointer (some ⟨g, 0, none⟩), .int .i64 (k : Int), .int .i64 0]) ∧ TabF w' w.heap.size f g L)
set_option maxHeartbeats 4000000 in
set_option maxRecDepth 100000 in
theorem load_any (A : Option Addr) (n c : Nat) (bs : List UInt8) (w : World) (hr : Rd w w.heap.size A (u8s bs)) (hn : bs.length = n) (hc : n ≤ c) (hm : c ≤ maxLen) (h1 : n ≤ 30000) :
  Calls Tryz.prog 29 #[.slice A n c] w (LoadPost (ld (frs bs).1) (frs bs).2.1 w) := by
 subst hn
 have HF := hide (frames_any A c bs w hr hc hm (by omega))
 have hmany := frs_many bs
 obtain ⟨ls, at_, er, hq⟩ : ∃ ls a e, frs bs = (ls, a, e) := ⟨_, _, _, rfl⟩
 rw [hq] at HF hmany
 rw [hq]
 dsimp only at hmany ⊢
 have HMX := hide hmany.2
 have hml := hmany.1
 clear hq hr hmany hm
 go_enter Tryz.func29, Tryz.ntmps29
 go_wp2_with (first
  | (go_at_call 66; refine HF.out.mono ?_; rintro e w1 ⟨v, rfl, hob, hg1⟩; have HG1 := hide hg1; obtain ⟨AL, cl, l, hv, hrl, hml2⟩ := hob.rd; subst hv; have hml3 : l.map (fun x => x.2.2) = ls := hml2; have hll : l.length = ls.length := (by rw [← hml3, List.length_map]); have HRL := hide hrl; have HML := hide hml3; clear hob hg1 hrl hml2 hml3)
  | (go_at_call 26; refine (new_tab w1).mono ?_; rintro e w2 ⟨g, rfl, ⟨f, ht⟩, hg2⟩; have HT := hide ht; have HG2 := hide hg2; clear ht hg2))
 have HI : Hid (∀ k (h : k < l.length) (h' : k < ls.length), l[k].2.2 = ls[k]) := hide fun k h h' => by
  have := congrArg (fun x => x[k]?) HML.out
  simpa [h, h'] using this
 have hl3 : l.length * 8 ≤ bs.length := by omega
 go_loopw [10, 20] (fun _ i wr => ∃ (k : Nat) (M : List ByteArray) (f' : List Nat), k ≤ l.length ∧ i = .int .i64 (k : Int) ∧ Hid (ldF [⟨#[]⟩] (ls.take k) = some M) ∧ TabF wr w1.heap.size f' g M ∧ w1.grownBy wr none) (fun _ i _ => l.length - (intOf i).toNat)
 case atStart => exact ⟨0, [⟨#[]⟩], f, Nat.zero_le _, rfl, hide rfl, HT.out, HG2.out⟩
 case round =>
  obtain ⟨k, M, f', hk, rfl, HM, ht, hg⟩ := hrel
  have HTT := hide ht
  have HG := hide hg
  by_cases hlt : k < l.length
  ·have hlt1 : (k : Int) < (l.length : Int) := by omega
   have hlt2 : k < ls.length := by omega
   obtain ⟨ad, rfl, _, hcell, hrd, hlc, _⟩ := (HRL.out.grown hg (Nat.le_refl _) (by simp)).at_ hlt
   have e1 := HI.out k hlt hlt2
   have HLS := hide (HMX.out _ (List.getElem_mem hlt2))
   have HST := hide (ldF_step hlt2 HM.out)
   have HSP := hide (fun h => ldF_stop hlt2 HM.out h)
   have hM5 : M.length ≤ 5000 := by
    have := ldF_some HM.out
    rw [List.length_take] at this
    simp at this
    omega
   have HXL := hide hrd
   generalize l[k] = x at hcell HXL hlc e1
   obtain ⟨xA, xc, X⟩ := x
   dsimp only at hcell HXL hlc e1
   subst e1
   have HRS := hide (restore_any w1.heap.size g f' M ls[k] xA ls[k].length xc wr ht (HXL.out.more hg.size) rfl (by have := HLS.out; omega) hM5 hg.size)
   clear ht hg hrd
   obtain ⟨y, hy⟩ : ∃ y, y = ls[k] := ⟨_, rfl⟩
   rw [← hy] at hcell HRS HST HSP hlc HLS HXL
   clear hy
   cases hrs : rest1 M y with
   | none =>
    have HN : Hid (ldF [⟨#[]⟩] ls = none) := hide (HSP.out hrs)
    rw [hrs] at HRS
    clear hrs
    go_wp2_with (go_at_call 67; refine HRS.out.mono ?_; rintro e w3 ⟨rfl, hw3, _⟩; have HW3 := hide hw3; clear hw3)
    go_ret3
    exact ⟨gb_trans HG1.out (HW3.out.gb HG.out (fun x hx => (HTT.out.lt x hx).2)) (.inl rfl), .inl ⟨HN.out, rfl⟩⟩
   | some M' =>
    have HN : Hid (ldF [⟨#[]⟩] (ls.take (k + 1)) = some M') := hide (HST.out.1.trans hrs)
    rw [hrs] at HRS
    clear hrs
    go_wp2_with (go_at_call 67; refine HRS.out.mono ?_; rintro e w3 ⟨rfl, hw3, hq3⟩; have HW3 := hide hw3; have HQ3 := hide (hq3 M' rfl); clear hw3 hq3)
    go_roundw
    case rel =>
     obtain ⟨f3, ht3, hf3⟩ := HQ3.out
     exact ⟨k + 1, M', f3, by omega, by go_num, HN, ht3, HW3.out.gb HG.out (fun x hx => (HTT.out.lt x hx).2)⟩
    case measure => simp [intOf]; omega
  ·obtain rfl : k = l.length := by omega
   have hlt1 : ¬ (l.length : Int) < (l.length : Int) := by omega
   have HTK := hide (show ls.take l.length = ls by rw [hll, List.take_length])
   clear ht hg
   go_wp2_with fail
   go_ret3
   refine ⟨gb_trans HG1.out HG.out (.inl rfl), .inr ⟨M, g, f', ?_, rfl, HTT.out.more HG1.out.size⟩⟩
   have := HM.out
   rw [HTK.out] at this
   exact this
def InternPost (base g : Nat) (f : List Nat) (L l : List ByteArray) (w : World) (e : Ending) (w' : World) : Prop :=
 ∃ A c b f', e = .returned (.tuple #[.slice A l.length c, b, .int .i64 0]) ∧ w'.ownsRow w.heap.size 3 1 (.slice A l.length c) l.length (nats (inter L l).2) ∧
  w'.ownsRow w.heap.size 5 1 b (syB ((inter L l).1.drop L.length)).length (u8s (syB ((inter L l).1.drop L.length))) ∧ TabF w' base f' g (inter L l).1 ∧ Wrote w w' f ∧ ∀ x ∈ f', x ∈ f ∨ w.heap.size ≤ x
set_option maxHeartbeats 1000000 in
set_option maxRecDepth 100000 in
theorem intern_any (base g : Nat) (f : List Nat) (L l : List ByteArray) (A : Option Addr) (n c B : Nat) (w : World) (h : TabF w base f g L) (hF : FitY L) (hr : Rd w B A (strs l)) (hB : B ≤ w.heap.size) (hA : ∀ ad, A = some ad → l ≠ [] → ad.block ∉ f)
  (hn : l.length = n) (hl : n ≤ 60000) (hu : l.any unf = false) (hL : L.length ≤ 5000) (hb : base ≤ w.heap.size) :
  Calls Tryz.prog 27 #[.pointer (some ⟨g, 0, none⟩), .slice A n c] w (InternPost base g f L l w) := by
 subst hn
 have HG := hide (give_any base g f L l A l.length c B w h hr hB hA rfl hl hu hL hb)
 have HFT := hide (hF.inter (l := l) (fun s hs => by
  rw [Bool.eq_false_iff]
  intro hc
  rw [List.any_eq_true.2 ⟨s, hs, hc⟩] at hu
  cases hu))
 have hsz := inter_size L l
 have hge : L.length ≤ (inter L l).1.length := by
  obtain ⟨r, hr, _⟩ := inter_pre l L []
  show L.length ≤ (l.foldl step1 (L, [])).1.length
  rw [hr, List.length_append]
  omega
 obtain ⟨A0, c0, mb, h0, h1, _, _, _, _, _, hf0⟩ := h.open_
 have HLT := hide h.lt
 clear hf0 hu hr h h1 hF hA hB hb
 have HFZ := hide HFT.out.size
 go_enter Tryz.func27, Tryz.ntmps27
 go_wp2_with (first
  | (go_at_call 53; refine HG.out.mono ?_; rintro e w1 ⟨v1, f1, rfl, ho1, ht1, hw1, hf1⟩; obtain ⟨A1, c1, hv1, _, _, _⟩ := own_form ho1; subst hv1; have HO1 := hide ho1; have HT1 := hide ht1; have HW1 := hide hw1; have HF1 := hide hf1; clear ho1 ht1 hw1 hf1)
  | (go_at_call 54; refine (bytesFrom_any base g L.length f1 (inter L l).1 w1 HT1.out hge (by omega) HFZ.out).mono ?_; rintro e w2 ⟨v2, rfl, ho2, hg2⟩; have HO2 := hide ho2; have HG2 := hide hg2; clear ho2 hg2))
 go_ret3
 exact ⟨A1, c1, v2, f1, rfl, own_grown HO1.out HG2.out, own_base HO2.out HW1.out.size, HT1.out.grown HG2.out, HW1.out.trans (Wrote.of_gb HG2.out f) (fun x hx => .inl hx), HF1.out⟩
end Go.Proofs.YtmcmlkglkpbnpaaGreat
namespace Go.Proofs.YtmcmlkglkpbnpaaGreat
open Go.RowKit
set_option maxHeartbeats 400000 in
theorem lnum_any (x : Int) (w : World) : Calls Tryz.prog 12 #[.int .i64 x] w fun e w' => e = .returned (.int .i64 x) ∧ w = w' := by
 go_enter Tryz.func12, Tryz.ntmps12
 go_wp2
 go_ret
 exact ⟨rfl, rfl⟩
theorem Rd.nat {w : World} {B : Nat} {A : Option Addr} {k : Nat} {l : List Nat} (h : Rd w B A (nats l)) (hk : k < l.length) : ∃ ad, A = some ad ∧ ad.block < B ∧ w.cell? (ad.add k) = some (.int .i64 ((l[k] : Nat) : Int)) := by
 obtain ⟨ad, h1, h2, h3⟩ := h.cell (k := k) (by rw [nats_length]; exact hk)
 exact ⟨ad, h1, h2, by rw [h3]; simp [nats]⟩
set_option maxHeartbeats 1000000 in
set_option maxRecDepth 100000 in
theorem ints_yes (A A' : Option Addr) (n c c' B B' : Nat) (l : List Nat) (w : World) (h : Rd w B A (nats l)) (h' : Rd w B' A' (nats l)) (hB : B ≤ w.heap.size) (hB' : B' ≤ w.heap.size) (hn : l.length = n) (hl : n ≤ 1000000) :
  Calls Tryz.prog 21 #[.slice A n c, .slice A' n c'] w fun e w' => e = .returned (.bool true) ∧ w.grownBy w' none := by
 subst hn
 have H := hide h
 have H' := hide h'
 have HB := hide hB
 have HB' := hide hB'
 clear h h' hB hB'
 go_enter Tryz.func21, Tryz.ntmps21
 go_wp2_with fail
 go_loopw [5] (fun i wr => ∃ k : Nat, k ≤ l.length ∧ i = .int .i64 (k : Int) ∧ w.grownBy wr none) (fun i _ => l.length - (intOf i).toNat)
 case atStart => exact ⟨0, Nat.zero_le _, rfl, gb_refl w none⟩
 case round =>
  obtain ⟨k, hk, rfl, hg⟩ := hrel
  have HG := hide hg
  by_cases hlt : k < l.length
  ·have hlt1 : (k : Int) < (l.length : Int) := by omega
   obtain ⟨a1, rfl, _, q1⟩ := (H.out.grown hg HB.out (by simp)).nat hlt
   obtain ⟨a2, rfl, _, q2⟩ := (H'.out.grown hg HB'.out (by simp)).nat hlt
   clear hg
   go_wp2_with fail
   go_quiet (fail)
   go_wp2_with fail
   go_roundw
   case rel => exact ⟨k + 1, by omega, by go_num, gb_drewN HG.out _⟩
   case measure => simp [intOf]; omega
  ·have hlt1 : ¬ (k : Int) < (l.length : Int) := by omega
   clear hg
   go_wp2_with fail
   go_ret
   exact ⟨rfl, HG.out⟩
set_option maxHeartbeats 1000000 in
set_option maxRecDepth 100000 in
theorem texts_yes (A A' : Option Addr) (n c c' B B' : Nat) (l : List ByteArray) (w : World) (h : Rd w B A (strs l)) (h' : Rd w B' A' (strs l)) (hB : B ≤ w.heap.size) (hB' : B' ≤ w.heap.size) (hn : l.length = n) (hl : n ≤ 1000000) :
  Calls Tryz.prog 61 #[.slice A n c, .slice A' n c'] w fun e w' => e = .returned (.bool true) ∧ w.grownBy w' none := by
 subst hn
 have H := hide h
 have H' := hide h'
 have HB := hide hB
 have HB' := hide hB'
 clear h h' hB hB'
 go_enter Tryz.func61, Tryz.ntmps61
 go_wp2_with fail
 go_loopw [5] (fun i wr => ∃ k : Nat, k ≤ l.length ∧ i = .int .i64 (k : Int) ∧ w.grownBy wr none) (fun i _ => l.length - (intOf i).toNat)
 case atStart => exact ⟨0, Nat.zero_le _, rfl, gb_refl w none⟩
 case round =>
  obtain ⟨k, hk, rfl, hg⟩ := hrel
  have HG := hide hg
  by_cases hlt : k < l.length
  ·have hlt1 : (k : Int) < (l.length : Int) := by omega
   obtain ⟨a1, rfl, _, q1⟩ := (H.out.grown hg HB.out (by simp)).str hlt
   obtain ⟨a2, rfl, _, q2⟩ := (H'.out.grown hg HB'.out (by simp)).str hlt
   clear hg
   go_wp2_with fail
   go_quiet (fail)
   go_wp2_with fail
   go_roundw
   case rel => exact ⟨k + 1, by omega, by go_num, gb_drewN HG.out _⟩
   case measure => simp [intOf]; omega
  ·have hlt1 : ¬ (k : Int) < (l.length : Int) := by omega
   clear hg
   go_wp2_with fail
   go_ret
   exact ⟨rfl, HG.out⟩
/-! ## live -/
def litL : List ByteArray := [⟨#[97]⟩, ⟨#[]⟩, ⟨#[98]⟩, ⟨#[97]⟩]
theorem lit_inter : inter [⟨#[]⟩] litL = ([⟨#[]⟩, ⟨#[97]⟩, ⟨#[98]⟩], [1, 0, 2, 1]) := by decide +kernel
theorem lit_fit : litL.any unf = false := by decide +kernel
def litB : List UInt8 := syB (([⟨#[]⟩, ⟨#[97]⟩, ⟨#[98]⟩] : List ByteArray).drop 1)
theorem litB_len : litB.length = 20 := by decide +kernel
theorem lit_frs : frs (litB.take 19) = ([[1, 97]], 10, 3) := by decide +kernel
theorem lit_ld : ld [[1, 97]] = some [⟨#[]⟩, ⟨#[97]⟩] := by decide +kernel
theorem load_lit (A : Option Addr) (c : Nat) (w : World) (hr : Rd w w.heap.size A (u8s litB)) (hc : 20 ≤ c) (hm : c ≤ maxLen) :
  Calls Tryz.prog 29 #[.slice A 19 c] w fun e w' => w.grownBy w' none ∧ ∃ g f, e = .returned (.tuple #[.pointer (some ⟨g, 0, none⟩), .int .i64 10, .int .i64 0]) ∧ TabF w' w.heap.size f g [⟨#[]⟩, ⟨#[97]⟩] := by
 have h := load_any A 19 c (litB.take 19) w (by rw [← u8s_take]; exact hr.take 19) (by rw [List.length_take, litB_len]; rfl) (by omega) hm (by omega)
 rw [lit_frs] at h
 dsimp only at h
 rw [lit_ld] at h
 refine h.mono fun e w' ⟨hg, h⟩ => ⟨hg, ?_⟩
 rcases h with ⟨h, _⟩ | ⟨L, g, f, h1, h2, h3⟩
 ·cases h
 ·injection h1 with h1
  subst h1
  exact ⟨g, f, h2, h3⟩
theorem intern_lit (base g : Nat) (f : List Nat) (w : World) (h : TabF w base f g [⟨#[]⟩]) (hb : base ≤ w.heap.size) :
  Calls Tryz.prog 27 #[.pointer (some ⟨g, 0, none⟩), .slice (some ⟨w.heap.size, 0, none⟩) 4 4] (w.alloc (.cells #[.string ⟨#[97]⟩, .string ⟨#[]⟩, .string ⟨#[98]⟩, .string ⟨#[97]⟩] 9)) fun e w' =>
   ∃ A c A2 c2 f', e = .returned (.tuple #[.slice A 4 c, .slice A2 20 c2, .int .i64 0]) ∧ Rd w' w'.heap.size A (nats [1, 0, 2, 1]) ∧ 20 ≤ c2 ∧ c2 ≤ maxLen ∧ Rd w' w'.heap.size A2 (u8s litB) ∧
    TabF w' base f' g [⟨#[]⟩, ⟨#[97]⟩, ⟨#[98]⟩] ∧ Wrote w w' f := by
 have hga := gb_alloc (gb_refl w none) (.cells #[.string ⟨#[97]⟩, .string ⟨#[]⟩, .string ⟨#[98]⟩, .string ⟨#[97]⟩] 9)
 have hi := intern_any base g f [⟨#[]⟩] litL (some ⟨w.heap.size, 0, none⟩) 4 4 (w.heap.size + 1) _ (h.grown hga) fit_new (Rd.new w #[.string ⟨#[97]⟩, .string ⟨#[]⟩, .string ⟨#[98]⟩, .string ⟨#[97]⟩] 9 (strs litL) rfl) (by simp)
  (fun ad ha _ hm => by
   injection ha with ha
   subst ha
   have := h.lt _ hm
   simp at this) rfl (by omega) lit_fit (by simp) (by simp; omega)
 refine hi.mono fun e w' ⟨A, c, b, f', he, ho1, ho2, ht, hw, _⟩ => ?_
 rw [lit_inter] at ho1 ho2 ht
 have ho2' : w'.ownsRow (w.alloc (.cells #[.string ⟨#[97]⟩, .string ⟨#[]⟩, .string ⟨#[98]⟩, .string ⟨#[97]⟩] 9)).heap.size 5 1 b litB.length (u8s litB) := ho2
 rw [litB_len] at ho2'
 obtain ⟨A2, c2, hb2, h1, h2, h3⟩ := own_form ho2'
 subst hb2
 exact ⟨A, c, A2, c2, f', he, Rd.of_own ho1, h1, h2, h3, ht, (Wrote.of_gb hga f).trans hw (fun x hx => .inl hx)⟩
theorem sym_two (base g : Nat) (f : List Nat) (w : World) (h : TabF w base f g [⟨#[]⟩, ⟨#[97]⟩, ⟨#[98]⟩]) :
  Calls Tryz.prog 28 #[.pointer (some ⟨g, 0, none⟩), .int .i64 2] w fun e w' => e = .returned (.tuple #[.string ⟨#[98]⟩, .int .i64 0]) ∧ w = w' := symbol_ok base g 2 f _ w h (by decide)
theorem sym_three (base g : Nat) (f : List Nat) (w : World) (h : TabF w base f g [⟨#[]⟩, ⟨#[97]⟩, ⟨#[98]⟩]) :
  Calls Tryz.prog 28 #[.pointer (some ⟨g, 0, none⟩), .int .i64 3] w fun e w' => e = .returned (.tuple #[.string ⟨#[]⟩, .int .i64 50]) ∧ w = w' := symbol_bad base g 3 f _ w h (.inr (by decide))
theorem len_two (base g : Nat) (f : List Nat) (w : World) (h : TabF w base f g [⟨#[]⟩, ⟨#[97]⟩]) :
  Calls Tryz.prog 30 #[.pointer (some ⟨g, 0, none⟩)] w fun e w' => e = .returned (.int .i64 2) ∧ w = w' := len_any base g f _ w h
theorem len_three (base g : Nat) (f : List Nat) (w : World) (h : TabF w base f g [⟨#[]⟩, ⟨#[97]⟩, ⟨#[98]⟩]) :
  Calls Tryz.prog 30 #[.pointer (some ⟨g, 0, none⟩)] w fun e w' => e = .returned (.int .i64 3) ∧ w = w' := len_any base g f _ w h
set_option maxHeartbeats 4000000 in
set_option maxRecDepth 100000 in
theorem live_any (w : World) : Calls Tryz.prog 4 #[] w fun e w' => e = .returned (.bool true) ∧ w.grownBy w' none := by
 go_enter Tryz.func4, Tryz.ntmps4
 go_wp2_with (first
  | (go_at_call 26; refine (new_tab w).mono ?_; rintro e w1 ⟨g, rfl, ⟨f, ht⟩, hg1⟩; have HT := hide ht; have HG1 := hide hg1; have HS1 := hide hg1.size; clear ht hg1)
  | (go_at_call 27; refine (intern_lit w.heap.size g f w1 HT.out HS1.out).mono ?_; rintro e w2 ⟨A, c, A2, c2, f2, rfl, hr1, hn2, hm2, hr2, ht2, hw2⟩; have HR1 := hide hr1; have HM2 := hide hm2; have HR2 := hide hr2; have HT2 := hide ht2; have HG2 := hide (hw2.gb HG1.out (fun x hx => (HT.out.lt x hx).2)); clear hr1 hm2 hr2 ht2 hw2)
  | (go_at_call 28; (with_reducible refine (sym_two w.heap.size g f2 w2 HT2.out).mono ?_); rintro e wq ⟨rfl, rfl⟩)
  | (go_at_call 28; (with_reducible refine (sym_three w.heap.size g f2 w2 HT2.out).mono ?_); rintro e wq ⟨rfl, rfl⟩)
  | (go_at_call 29; refine (load_lit A2 c2 w2 HR2.out hn2 HM2.out).mono ?_; rintro e w3 ⟨hg3, g3, f3, rfl, ht3⟩; have HT3 := hide ht3; have HG3 := hide hg3; clear ht3 hg3)
  | (go_at_call 12; refine (lnum_any _ _).mono ?_; rintro e wq ⟨rfl, rfl⟩)
  | (go_at_call 21; refine (ints_yes A (some ⟨w3.heap.size, 0, none⟩) 4 c 4 w2.heap.size (w3.heap.size + 1) [1, 0, 2, 1] _ ((HR1.out.grown HG3.out (Nat.le_refl _) (by simp)).alloc HG3.out.size _) (Rd.new w3 #[.int .i64 1, .int .i64 0, .int .i64 2, .int .i64 1] 3 _ rfl) (by have := HG3.out.size; simp; omega) (by simp) rfl (by omega)).mono ?_; rintro e w4 ⟨rfl, hg4⟩; have HG4 := hide (gb_trans (gb_alloc (gb_refl w3 none) _) hg4 (.inl rfl)); have HT4 := hide ((HT2.out.grown HG3.out).grown HG4.out); have HU4 := hide (HT3.out.grown HG4.out); clear hg4)
  | (go_at_call 30; (with_reducible refine (len_two w2.heap.size g3 f3 w4 HU4.out).mono ?_); rintro e wq ⟨rfl, rfl⟩)
  | (go_at_call 30; (with_reducible refine (len_three w.heap.size g f2 w4 HT4.out).mono ?_); rintro e wq ⟨rfl, rfl⟩))
 go_ret
 exact ⟨rfl, gb_trans HG2.out (gb_trans HG3.out HG4.out (.inl rfl)) (.inl rfl)⟩
end Go.Proofs.YtmcmlkglkpbnpaaGreat
namespace Go.Proofs.YtmcmlkglkpbnpaaGreat
open Go.RowKit
def RTabB (w : World) (base g : Nat) (v : Value) (L : List ByteArray) : Prop :=
 w.heap[g]? = some (.cells #[v] 68 (0, 0)) ∧ w.ownsRow base 9 1 v L.length (strs L) ∧ base ≤ g
def RTab (w : World) (base g : Nat) (L : List ByteArray) : Prop := ∃ v, RTabB w base g v L
theorem RTabB.grown {w w' : World} {base g : Nat} {v : Value} {L : List ByteArray} (h : RTabB w base g v L) (hg : w.grownBy w' none) : RTabB w' base g v L := ⟨blk_keep h.1 hg (by simp), own_grown h.2.1 hg, h.2.2⟩
theorem RTab.grown {w w' : World} {base g : Nat} {L : List ByteArray} (h : RTab w base g L) (hg : w.grownBy w' none) : RTab w' base g L := by
 obtain ⟨v, h⟩ := h
 exact ⟨v, h.grown hg⟩
theorem RTab.more {w : World} {base base' g : Nat} {L : List ByteArray} (h : RTab w base g L) (hb : base' ≤ base) : RTab w base' g L := by
 obtain ⟨v, h⟩ := h
 exact ⟨v, h.1, own_base h.2.1 hb, by have := h.2.2; omega⟩
theorem RTab.open_ {w : World} {base g : Nat} {L : List ByteArray} (h : RTab w base g L) :
  ∃ A c, w.cell? ⟨g, 0, none⟩ = some (.slice A L.length c) ∧ L.length ≤ c ∧ c ≤ maxLen ∧ Rd w w.heap.size A (strs L) ∧ RTabB w base g (.slice A L.length c) L := by
 obtain ⟨v, hb⟩ := h
 obtain ⟨A, c, rfl, hn, hc, hr⟩ := own_form hb.2.1
 exact ⟨A, c, by rw [blk_cell hb.1]; rfl, hn, hc, hr, hb⟩
theorem RTab.drewN {w : World} {base g : Nat} {L : List ByteArray} (h : RTab w base g L) (n : Nat) : RTab (w.drewN n) base g L := h
theorem RTab.drew {w : World} {base g : Nat} {L : List ByteArray} (h : RTab w base g L) : RTab w.drew base g L := h
set_option maxHeartbeats 1000000 in
set_option maxRecDepth 100000 in
theorem new_rtab (w : World) : Calls Tryz.prog 48 #[] w fun e w' => ∃ g, e = .returned (.pointer (some ⟨g, 0, none⟩)) ∧ RTab w' w.heap.size g [⟨#[]⟩] ∧ w.grownBy w' none := by
 have HO := hide (own_lit w ⟨#[]⟩)
 go_enter Tryz.func48, Tryz.ntmps48
 go_wp2_with fail
 go_ret
 have e : (w.alloc (.cells #[.string ⟨#[]⟩] 9)).heap.size = w.heap.size + 1 := by simp
 refine ⟨w.heap.size + 1, rfl, ⟨_, ?_, HO.out.alloc _, by omega⟩, gb_alloc (gb_alloc (gb_refl w none) _) _⟩
 rw [← e]
 exact heap_alloc_new _ _
/-! ## Symbol -/
def zB (s : ByteArray) : Bool := decide (0 ≤ Lib.indexByte s.data.toList 0)
theorem zB_yes {s : ByteArray} {k : Nat} (h : k < s.size) (h0 : s[k] = 0) : zB s = true := by
 unfold zB
 refine decide_eq_true ?_
 have hge := Lib.indexByte_ge s.data.toList 0
 rcases Int.lt_or_le (Lib.indexByte s.data.toList 0) 0 with hlt | hle
 ·have := Lib.indexByte_none (show Lib.indexByte s.data.toList 0 = -1 by omega) k
  exact absurd (by rw [← h0]; simp [ByteArray.getElem_eq_getElem_data]) this
 ·exact hle
theorem zB_no {s : ByteArray} (h : ∀ k (hk : k < s.size), s[k] ≠ 0) : zB s = false := by
 unfold zB
 refine decide_eq_false fun hle => ?_
 obtain ⟨o, ho⟩ := Int.eq_ofNat_of_zero_le hle
 have h1 := (Lib.indexByte_some ho).1
 obtain ⟨hlt, he⟩ := List.getElem?_eq_some_iff.1 h1
 have hlt' : o < s.size := by simpa using hlt
 exact h o hlt' (by rw [← he]; simp [ByteArray.getElem_eq_getElem_data])
theorem unf_eq (s : ByteArray) : unf s = (decide (64 < (s.size : Int)) || zB s) := rfl
set_option maxHeartbeats 1000000 in
set_option maxRecDepth 100000 in
theorem rsymbol_any (s : ByteArray) (w : World) (hs : s.size ≤ 1000000000) : Calls Tryz.prog 90 #[.string s] w fun e w' => e = .returned (.bool (!unf s)) ∧ w = w' := by
 go_enter Tryz.func90, Tryz.ntmps90
 go_wp2_with fail
 go_loop [3] (fun i => ∃ k : Nat, k ≤ s.size ∧ i = .int .i64 (k : Int) ∧ Hid (∀ j (hj : j < s.size), j < k → s[j] ≠ 0)) (fun i => s.size - (intOf i).toNat)
 case atStart => exact ⟨0, Nat.zero_le _, rfl, hide (fun j _ h => absurd h (Nat.not_lt_zero _))⟩
 case round =>
  obtain ⟨k, hk, rfl, HZ⟩ := hrel
  by_cases hlt : k < s.size
  ·have hlt1 : (k : Int) < (s.size : Int) := by omega
   by_cases hz : s[k] = 0
   ·have HE := hide (zB_yes hlt hz)
    have hb1 : (((s[k]).toNat : Int) == 0) = true := by rw [hz]; rfl
    clear hz
    go_wp2_with fail
    go_ret
    exact ⟨by rw [unf_eq, HE.out, Bool.or_true]; rfl, rfl⟩
   ·have hb1 : (((s[k]).toNat : Int) == 0) = false := beq_eq_false_iff_ne.2 (fun h => hz (by
     apply UInt8.toNat_inj.1
     simpa using h))
    have HK := hide hz
    clear hz
    go_wp2_with fail
    go_round
    case rel =>
     refine ⟨k + 1, by omega, by go_num, hide (fun j hj hjk => ?_)⟩
     rcases Nat.lt_or_ge j k with h | h
     ·exact HZ.out j hj h
     ·have : j = k := by omega
      subst this
      exact HK.out
    case measure => simp [intOf]; omega
  ·obtain rfl : k = s.size := by omega
   have hlt1 : ¬ (s.size : Int) < (s.size : Int) := by omega
   have HE := hide (zB_no (s := s) (fun j hj => HZ.out j hj hj))
   go_wp2_with fail
   go_ret
   refine ⟨?_, rfl⟩
   rw [unf_eq, HE.out, Bool.or_false]
   exact ret_b (by rw [← decide_not]; exact decide_eq_decide.2 (by omega))
/-! ## Number -/
theorem enumF_first (s : ByteArray) : ∀ (L : List ByteArray) (k n : Nat), aget (enumF k L) s = some n → ∀ j, j < n - k → L[j]? ≠ some s
 | [], _, _, h => by cases h
 | x :: r, k, n, h => by
  by_cases hx : x = s
  ·simp only [enumF, aget, if_pos hx] at h
   injection h with h
   intro j hj
   omega
  ·simp only [enumF, aget, if_neg hx] at h
   have h1 := enumF_first s r (k + 1) n h
   intro j hj
   cases j with
   | zero => simpa using hx
   | succ j =>
    rw [List.getElem?_cons_succ]
    exact h1 j (by omega)
theorem numOf_first {L : List ByteArray} {s : ByteArray} {k : Nat} (h : s ∉ L.take k) (hk : L[k]? = some s) : numOf L s = some k := by
 obtain ⟨n, hn⟩ := enumF_mem s L 0 (List.mem_of_getElem? hk)
 have hn' : numOf L s = some n := hn
 rw [hn']
 rcases Nat.lt_trichotomy n k with h1 | h1 | h1
 ·have h2 := numOf_some hn'
  exact absurd (List.mem_of_getElem? (show (L.take k)[n]? = some s by rw [List.getElem?_take, if_pos h1]; exact h2)) h
 ·rw [h1]
 ·exact absurd hk (enumF_first s L 0 n hn k (by omega))
def numI (L : List ByteArray) (s : ByteArray) : Int := match numOf L s with
 | some n => (n : Int)
 | none => -1
theorem numI_some {L : List ByteArray} {s : ByteArray} {n : Nat} (h : numOf L s = some n) : numI L s = (n : Int) := by unfold numI; rw [h]
theorem numI_none {L : List ByteArray} {s : ByteArray} (h : numOf L s = none) : numI L s = -1 := by unfold numI; rw [h]
set_option maxHeartbeats 1000000 in
set_option maxRecDepth 100000 in
theorem rnumber_any (base g : Nat) (L : List ByteArray) (s : ByteArray) (w : World) (h : RTab w base g L) (hL : L.length ≤ 1000000) :
  Calls Tryz.prog 60 #[.pointer (some ⟨g, 0, none⟩), .string s] w fun e w' => e = .returned (.int .i64 (numI L s)) ∧ w = w' := by
 obtain ⟨A, c, h0, hnc, hcm, hrd, hB⟩ := h.open_
 have HR := hide hrd
 clear hB hrd h
 go_enter Tryz.func60, Tryz.ntmps60
 go_wp2_with fail
 go_loop [5] (fun i => ∃ k : Nat, k ≤ L.length ∧ i = .int .i64 (k : Int) ∧ Hid (s ∉ L.take k)) (fun i => L.length - (intOf i).toNat)
 case atStart => exact ⟨0, Nat.zero_le _, rfl, hide (by simp)⟩
 case round =>
  obtain ⟨k, hk, rfl, HE⟩ := hrel
  by_cases hlt : k < L.length
  ·have hlt1 : (k : Int) < (L.length : Int) := by omega
   obtain ⟨ad, rfl, _, hcell⟩ := HR.out.str hlt
   obtain ⟨y, hy⟩ : ∃ y, y = L[k] := ⟨_, rfl⟩
   rw [← hy] at hcell
   have HY : Hid (L[k]? = some y) := hide (by rw [hy]; exact List.getElem?_eq_getElem hlt)
   have HTK : Hid (L.take (k + 1) = L.take k ++ [y]) := hide (by rw [hy]; exact List.take_succ_eq_append_getElem hlt)
   clear hy
   by_cases hx : y = s
   ·subst hx
    have HN := hide (numI_some (numOf_first HE.out HY.out))
    go_wp2_with fail
    go_ret
    exact ⟨by rw [HN.out]; rfl, rfl⟩
   ·have e1 : (y.toList == s.toList) = false := by
     rw [beq_eq_false_iff_ne]
     intro h
     exact hx (by
      rw [ByteArray.toList_eq, ByteArray.toList_eq] at h
      exact ByteArray.ext (Array.toList_inj.1 h))
    have HX := hide hx
    clear hx
    go_wp2_with fail
    go_round
    case rel => exact ⟨k + 1, by omega, by go_num, hide (by rw [HTK.out, List.mem_append, List.mem_singleton]; exact fun h => h.elim HE.out (fun e => HX.out e.symm))⟩
    case measure => simp [intOf]; omega
  ·obtain rfl : k = L.length := by omega
   have hlt1 : ¬ (L.length : Int) < (L.length : Int) := by omega
   have HN := hide (numI_none (numOf_no (L := L) (s := s) (by have := HE.out; rwa [List.take_length] at this)))
   go_wp2_with fail
   go_ret
   exact ⟨by rw [HN.out]; rfl, rfl⟩
/-! ## frame, Bytes -/
set_option maxHeartbeats 1000000 in
set_option maxRecDepth 100000 in
theorem rframe_any (s : ByteArray) (w : World) (hs : s.size ≤ 64) : Calls Tryz.prog 96 #[.string s] w fun e w' =>
  ∃ A c, e = .returned (.slice A (frame (putStr s)).length c) ∧ Rd w' w'.heap.size A (u8s (frame (putStr s))) ∧ w.grownBy w' none := by
 have HP := hide (refPutText_any (.slice none 0 0) 0 s [] w w.heap.size (Nat.le_refl _) (World.ownsRow_nil _ _ _ _) (by omega) (by omega))
 have hpl := putStr_short hs
 go_enter Tryz.func96, Tryz.ntmps96
 go_wp2_with (first
  | (go_at_call 117; refine HP.out.mono ?_; rintro e w1 ⟨v1, rfl, ho1, hg1, _⟩; rw [Nat.zero_add, List.nil_append] at ho1; have hg1' : w.grownBy w1 none := hg1; obtain ⟨A1, c1, hv1, _, _, hr1⟩ := own_form ho1; subst hv1; have HR1 := hide hr1; have HG1 := hide hg1'; clear ho1 hg1 hg1' hr1)
  | (go_at_call 116; refine (refSeal_ok A1 c1 (putStr s) w1 HR1.out (by omega)).mono ?_; rintro e w2 ⟨v2, rfl, ho2, hg2⟩; obtain ⟨A2, c2, hv2, _, _, hr2⟩ := own_form ho2; subst hv2; have HR2 := hide hr2; have HG2 := hide hg2; clear ho2 hg2 hr2))
 go_ret
 exact ⟨A2, c2, rfl, HR2.out, gb_trans HG1.out HG2.out (.inl rfl)⟩
set_option maxHeartbeats 4000000 in
set_option maxRecDepth 100000 in
theorem rbytes_any (base g : Nat) (L : List ByteArray) (w : World) (h : RTab w base g L) (h1 : 1 ≤ L.length) (hL : L.length ≤ 70000) (hs : ∀ s ∈ L, s.size ≤ 64) :
  Calls Tryz.prog 64 #[.pointer (some ⟨g, 0, none⟩)] w (NewBytes w.heap.size (syB (L.drop 1)) w) := by
 have H := hide h
 have hlen : (L.drop 1).length = L.length - 1 := List.length_drop
 obtain ⟨M, hM⟩ : ∃ M, M = L.drop 1 := ⟨_, rfl⟩
 rw [← hM] at hlen
 have HM := hide hM
 have HS : Hid (∀ s ∈ M, s.size ≤ 64) := hide (fun s h => hs s (by rw [hM] at h; exact List.mem_of_mem_drop h))
 have HE : Hid (∀ j (h : j < M.length) (h' : j + 1 < L.length), L[j + 1] = M[j]) := hide (fun j h h' => by
  have : L[j + 1]? = M[j]? := by rw [hM, List.getElem?_drop, Nat.add_comm]
  rw [List.getElem?_eq_getElem h', List.getElem?_eq_getElem h] at this
  injection this)
 rw [← hM]
 clear hM hs h
 go_enter Tryz.func64, Tryz.ntmps64
 go_wp2_with fail
 go_loopw [3, 4] (fun b i wr => ∃ j : Nat, j ≤ M.length ∧ i = .int .i64 ((j : Int) + 1) ∧ wr.ownsRow w.heap.size 5 1 b (syB (M.take j)).length (u8s (syB (M.take j))) ∧ w.grownBy wr none) (fun _ i _ => M.length + 1 - (intOf i).toNat)
 case atStart => exact ⟨0, Nat.zero_le _, rfl, World.ownsRow_nil _ _ _ _, gb_refl w none⟩
 case round =>
  obtain ⟨j, hj, rfl, ho, hg⟩ := hrel
  have HO := hide ho
  have HG := hide hg
  have hgs := hg.size
  obtain ⟨A, c, h0, hnc, hcm, hrd, _⟩ := (H.out.grown hg).open_
  by_cases hlt : j < M.length
  ·have hlt1 : (j : Int) + 1 < (L.length : Int) := by omega
   have hlt2 : j + 1 < L.length := by omega
   obtain ⟨b0, o0, rfl, _, hlay⟩ := hrd.lay (by intro e2; have := congrArg List.length e2; rw [strs_length] at this; simp at this; rw [this] at hlt2; simp at hlt2)
   have hcell : wr.cell? ⟨b0, o0 + (j + 1), none⟩ = some (.string M[j]) := hlay (j + 1) _ (by rw [← HE.out j hlt hlt2]; simp [strs, hlt2])
   have HSZ := hide (HS.out _ (List.getElem_mem hlt))
   have HT := hide (syB_take M j hlt)
   have hsl := syB_length (M.take j) (fun s h => HS.out s (List.mem_of_mem_take h))
   have hsl2 : (M.take j).length ≤ 70000 := by rw [List.length_take]; omega
   have hfl := frame_short HSZ.out
   obtain ⟨sj, hsj⟩ : ∃ sj, sj = M[j] := ⟨_, rfl⟩
   rw [← hsj] at hcell HSZ HT hfl
   clear hsj ho hg hrd hlay
   generalize syB (M.take j) = X at *
   go_wp2_with (first
    | (go_at_call 96; refine (rframe_any sj wr HSZ.out).mono ?_; rintro e w1 ⟨A1, c1, rfl, hr1, hg1⟩; have HR1 := hide hr1; have HG1 := hide hg1; have HO1 := hide (own_grown HO.out hg1); have hs1 := hg1.size; clear hr1 hg1)
    | (at_builtin; refine app8 HO1.out HR1.out (u8s_length _) (u8s_cell _) (by omega) (by omega) rfl rfl rfl rfl ?_; intro v3 w3 ho3 hg3 hw3; have HO3 := hide ho3; have HG3 := hide hg3; clear ho3 hg3 hw3))
   go_roundw
   case rel =>
    refine ⟨j + 1, by omega, by go_num, ?_, gb_new (gb_trans HG.out HG1.out (.inl rfl)) HO1.out HG3.out⟩
    rw [HT.out, List.length_append, u8s_append]
    exact HO3.out
   case measure => simp [intOf]; omega
  ·obtain rfl : j = M.length := by omega
   have hlt1 : ¬ (M.length : Int) + 1 < (L.length : Int) := by omega
   have HTK := hide (show M.take M.length = M from List.take_length)
   clear ho hg hrd
   go_wp2_with fail
   go_ret
   exact ⟨_, rfl, by have := HO.out; rwa [HTK.out] at this, HG.out⟩
end Go.Proofs.YtmcmlkglkpbnpaaGreat
namespace Go.Proofs.YtmcmlkglkpbnpaaGreat
open Go.RowKit
def RSteps (base g : Nat) (L : List ByteArray) (s : ByteArray) (d : Int) (A : Option Addr) (n c : Nat) (w : World) : Prop :=
 Calls Tryz.prog 87 #[.slice A n c] w fun e w1 => ∃ gR, e = .returned (.pointer (some ⟨gR, 0, none⟩)) ∧
  Calls Tryz.prog 88 #[.pointer (some ⟨gR, 0, none⟩), .int .i64 64] w1 fun e w2 => e = .returned (.string s) ∧
   Calls Tryz.prog 89 #[.pointer (some ⟨gR, 0, none⟩)] w2 fun e w3 => e = .returned (.int .i64 d) ∧ w.grownBy w3 none ∧ RTab w3 base g L
theorem RTabB.entered {w1 w2 : World} {base g : Nat} {v v2 : Value} {L : List ByteArray} {s : ByteArray} (hB : RTabB w1 base g v L) (hg2 : w1.grownBy w2 v.ownBlock) (ho2 : w2.ownsRow base 9 1 v2 (L.length + 1) (strs L ++ [.string s])) :
  RTabB (w2.setCell ⟨g, 0, none⟩ v2) base g v2 (L ++ [s]) ∧ ∀ w0 : World, w0.grownBy w1 none → w0.heap.size ≤ base → w0.grownBy (w2.setCell ⟨g, 0, none⟩ v2) none := by
 have n2 : v.ownBlock ≠ some g := own_ne hB.2.1 hB.1 (by decide)
 have hh2 : w2.heap[g]? = some (.cells #[v] 68 (0, 0)) := blk_keep hB.1 hg2 (fun e => n2 e.symm)
 have hg3 : w2.grownBy (w2.setCell ⟨g, 0, none⟩ v2) (some g) := gb_setCell (gb_refl w2 (some g)) (.inl rfl) v2
 refine ⟨⟨blk_set hh2 0 v2, ?_, hB.2.2⟩, fun w0 h0 hb => ?_⟩
 ·rw [strs_snoc, List.length_append]
  exact ho2.kept hg3 (.inr (own_ne ho2 hh2 (by decide)))
 ·refine gb_trans (gb_new h0 (own_base hB.2.1 hb) hg2) hg3 (.inr (.inr ⟨g, rfl, ?_⟩))
  have := hB.2.2
  omega
def RLoadPost (r : Option (List ByteArray)) (k : Nat) (w : World) (e : Ending) (w' : World) : Prop :=
 w.grownBy w' none ∧ ((r = none ∧ e = .returned (.tuple #[.pointer none, .int .i64 0, .int .i64 51])) ∨
  ∃ L g, r = some L ∧ e = .returned (.tuple #[.pointer (some ⟨g, 0, none⟩), .int .i64 (k : Int), .int .i64 0]) ∧ RTab w' w.heap.size g L)
end Go.Proofs.YtmcmlkglkpbnpaaGreat
namespace Go.Proofs.YtmcmlkglkpbnpaaGreat
open Go.RowKit
theorem sumLen_bound (l : List ByteArray) (R : Nat) (h : ∀ s ∈ l, s.size ≤ R) : sumLen l ≤ l.length * R := by
 induction l with
 | nil => simp [sumLen]
 | cons s l ih =>
  have h1 := h s (List.mem_cons_self ..)
  have h2 := ih fun x hx => h x (List.mem_cons_of_mem _ hx)
  simp only [sumLen, List.map_cons, List.sum_cons, List.length_cons] at *
  rw [Nat.succ_mul]
  omega
def hugeB (l : List ByteArray) : Bool := decide (300 < l.length ∨ 20000 < sumLen (l.take 301))
set_option maxHeartbeats 1000000 in
set_option maxRecDepth 100000 in
theorem huge_any (A : Option Addr) (c B : Nat) (l : List ByteArray) (w : World) (hr : Rd w B A (strs l)) (hs : ∀ s ∈ l, s.size ≤ 140737488355328) :
  Calls Tryz.prog 7 #[.slice A l.length c] w fun e w' => e = .returned (.bool (hugeB l)) ∧ w = w' := by
 have HR := hide hr
 have HS := hide hs
 clear hr hs
 go_enter Tryz.func7, Tryz.ntmps7
 go_wp2_with fail
 go_loop [3, 4] (fun n i => ∃ k : Nat, k ≤ l.length ∧ k ≤ 301 ∧ i = .int .i64 (k : Int) ∧ n = .int .i64 ((sumLen (l.take k) : Nat) : Int)) (fun _ i => l.length - (intOf i).toNat)
 case atStart => exact ⟨0, Nat.zero_le _, by omega, rfl, rfl⟩
 case round =>
  obtain ⟨k, hk, hk3, rfl, rfl⟩ := hrel
  have hb := sumLen_bound (l.take k) 140737488355328 (fun s h => HS.out s (List.mem_of_mem_take h))
  have htl : (l.take k).length = k := by rw [List.length_take]; omega
  rw [htl] at hb
  have hb2 : sumLen (l.take k) ≤ 42361983994953728 := by omega
  clear htl hb
  by_cases hlt : k < l.length
  ·have hlt1 : (k : Int) < (l.length : Int) := by omega
   by_cases h3 : k ≤ 300
   ·have h31 : (k : Int) ≤ 300 := by omega
    obtain ⟨ad, rfl, _, hcell⟩ := HR.out.str hlt
    have hsz := HS.out _ (List.getElem_mem hlt)
    have HT := hide (sumLen_take l k hlt)
    generalize hsk : sumLen (l.take k) = S at *
    clear hsk
    go_wp2_with fail
    go_round
    case rel => exact ⟨k + 1, by omega, by omega, by go_num, by rw [HT.out]; go_num⟩
    case measure => simp [intOf]; omega
   ·have h31 : ¬ (k : Int) ≤ 300 := by omega
    have hE := hide (show hugeB l = true from decide_eq_true (.inl (by omega)))
    have hg1 : (300 : Int) < (l.length : Int) := by omega
    go_wp2_with fail
    go_ret
    exact ⟨by rw [hE.out]; rfl, rfl⟩
  ·obtain rfl : k = l.length := by omega
   have hlt1 : ¬ (l.length : Int) < (l.length : Int) := by omega
   have hTT : l.take 301 = l.take l.length := by rw [List.take_length, List.take_of_length_le hk3]
   by_cases h3 : 300 < l.length
   ·have hE := hide (show hugeB l = true from decide_eq_true (.inl h3))
    have hg1 : (300 : Int) < (l.length : Int) := by omega
    clear hTT
    go_wp2_with fail
    go_ret
    exact ⟨by rw [hE.out]; rfl, rfl⟩
   ·have hg1 : ¬ (300 : Int) < (l.length : Int) := by omega
    have hE := hide (show hugeB l = decide ((20000 : Int) < ((sumLen (l.take l.length) : Nat) : Int)) by
     unfold hugeB
     rw [hTT]
     exact decide_eq_decide.2 (by omega))
    clear hTT
    generalize sumLen (l.take l.length) = S at *
    go_wp2_with fail
    go_ret
    exact ⟨by rw [hE.out]; rfl, rfl⟩
end Go.Proofs.YtmcmlkglkpbnpaaGreat
