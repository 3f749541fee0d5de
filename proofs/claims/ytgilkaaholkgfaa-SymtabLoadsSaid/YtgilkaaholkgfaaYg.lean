/-
  The contracts of symtab's restore and Load.
-/
import Derived.Test.YtgilkaaholkgfaaYf
import Derived.Test.YtgilkaaholkgfaaReg
namespace Go.Proofs.Ytgilkaaholkgfaa
open Go.RowKit

theorem frsF_many (n : Nat) : ∀ p : List UInt8, (frsF n p).1.length * 8 ≤ p.length ∧ ∀ x ∈ (frsF n p).1, x.length ≤ p.length := by
  induction n with
  | zero => intro p; simp [frsF]
  | succ n ih =>
    intro p
    unfold frsF
    split
    · simp
    · split
      · rename_i h0 h1
        have hs := opn_size p h1
        have h2 := ih (p.drop (opn p).2.1)
        rw [List.length_drop] at h2
        refine ⟨by simp only [List.length_cons]; omega, fun x hx => ?_⟩
        rcases List.mem_cons.1 hx with rfl | hx
        · omega
        · have := h2.2 x hx
          omega
      · simp
theorem frs_many (p : List UInt8) : (frs p).1.length * 8 ≤ p.length ∧ ∀ x ∈ (frs p).1, x.length ≤ p.length := frsF_many _ p

def RestPost (base g : Nat) (f : List Nat) (r : Option (List ByteArray)) (w : World) (e : Ending) (w' : World) : Prop :=
  e = .returned (.bool r.isSome) ∧ Wrote w w' f ∧ ∀ L', r = some L' → ∃ f', TabF w' base f' g L' ∧ ∀ x ∈ f', x ∈ f ∨ w.heap.size ≤ x

theorem inter_one {L : List ByteArray} {s : ByteArray} (h : numOf L s = none) : inter L [s] = (L ++ [s], [L.length]) := by
  show step1 (L, []) s = _
  rw [step1_no h]
  rfl


def Mid (base g : Nat) (f : List Nat) (L : List ByteArray) (w : World) (w3 : World) : Prop := Wrote w w3 f ∧ TabF w3 base f g L
/-- The first steps, all at once: the reader's text and what Done says. -/
def Steps (base g : Nat) (f : List Nat) (L : List ByteArray) (s : ByteArray) (d : Int) (A : Option Addr) (n c : Nat) (w : World) : Prop :=
  Calls Try.prog 49 #[.slice A n c] w fun e w1 => ∃ gR, e = .returned (.pointer (some ⟨gR, 0, none⟩)) ∧
    Calls Try.prog 50 #[.pointer (some ⟨gR, 0, none⟩), .int .i64 64] w1 fun e w2 => e = .returned (.string s) ∧
      Calls Try.prog 51 #[.pointer (some ⟨gR, 0, none⟩)] w2 fun e w3 => e = .returned (.int .i64 d) ∧ Mid base g f L w w3

theorem steps_any (base g : Nat) (f : List Nat) (L : List ByteArray) (load : List UInt8) (A : Option Addr) (c : Nat) (w : World) (h : TabF w base f g L) (hr : Rd w w.heap.size A (u8s load)) (hl : load.length ≤ 100000) :
    Steps base g f L ⟨(rText load 0 0 64).1.toArray⟩ (rDone load (rText load 0 0 64).2.1 (rText load 0 0 64).2.2) A load.length c w := by
  have hle := rText_le load 0 0 64 (Nat.zero_le _)
  refine (new_any A c load w hr (by omega)).mono fun e w1 ⟨gR, he, hR1, hg1⟩ => ⟨gR, he, ?_⟩
  refine (text_any w.heap.size gR load 0 0 64 w1 hR1 (Nat.zero_le _) (by omega) (by constructor <;> decide)).mono fun e w2 ⟨he, hR2, hg2⟩ => ⟨he, ?_⟩
  refine (done_any w.heap.size gR load _ _ w2 hR2 hle (by omega)).mono fun e w3 ⟨he, nq, hw3⟩ => ⟨he, ?_⟩
  have h3 := hR1.above
  have hq : Wrote w w2 f := (Wrote.of_gb hg1 f).trans (Wrote.of_row hg2 (f := [gR]) (by simp)) (fun x hx => by simp at hx; subst hx; exact .inr h3)
  have ht : TabF w2 base f g L := (h.grown hg1).wrote (Wrote.of_row hg2 (f := [gR]) (by simp)) (fun x hx hm => by simp at hx; subst hx; have := h.lt _ hm; omega)
  rw [hw3]
  exact ⟨⟨hq.os, hq.tape, hq.output, hq.size, hq.block⟩, ht.drewN _⟩

set_option maxHeartbeats 1000000 in
set_option maxRecDepth 100000 in
theorem restore_bad (base g : Nat) (f : List Nat) (L : List ByteArray) (s : ByteArray) (d : Int) (A : Option Addr) (n c : Nat) (w : World) (h : Steps base g f L s d A n c w) (hd : d ≠ 0) :
    Calls Try.prog 27 #[.pointer (some ⟨g, 0, none⟩), .slice A n c] w (RestPost base g f none w) := by
  have H := hide h
  have hb1 : (d != 0) = true := by simpa using hd
  clear h hd
  go_enter Try.func27, Try.ntmps27
  go_wp2_with (first
    | (go_at_call 49; refine Calls.mono H.out ?_; rintro e w1 ⟨gR, rfl, h1⟩; have H1 := hide h1; clear h1)
    | (go_at_call 50; refine H1.out.mono ?_; rintro e w2 ⟨rfl, h2⟩; have H2 := hide h2; clear h2)
    | (go_at_call 51; refine H2.out.mono ?_; rintro e w3 ⟨rfl, h3⟩; have H3 := hide h3; clear h3))
  go_ret
  exact ⟨rfl, H3.out.1, fun L' h => by cases h⟩

set_option maxHeartbeats 1000000 in
set_option maxRecDepth 100000 in
theorem restore_known (base g : Nat) (f : List Nat) (L : List ByteArray) (s : ByteArray) (m : Nat) (A : Option Addr) (n c : Nat) (w : World) (h : Steps base g f L s 0 A n c w) (hm : numOf L s = some m) :
    Calls Try.prog 27 #[.pointer (some ⟨g, 0, none⟩), .slice A n c] w (RestPost base g f none w) := by
  have H := hide h
  have HM := hide hm
  clear h hm
  go_enter Try.func27, Try.ntmps27
  go_wp2_with (first
    | (go_at_call 49; refine Calls.mono H.out ?_; rintro e w1 ⟨gR, rfl, h1⟩; have H1 := hide h1; clear h1)
    | (go_at_call 50; refine H1.out.mono ?_; rintro e w2 ⟨rfl, h2⟩; have H2 := hide h2; clear h2)
    | (go_at_call 51; refine H2.out.mono ?_; rintro e w3 ⟨rfl, h3⟩; have H3 := hide h3; obtain ⟨A4, c4, mb, q0, q1, _, _, _, hm4, _, hf4⟩ := h3.2.open_; have HLK : (Instr.lookup 79 (.map (some mb)) (.string s) true).run Try.prog w3 = .ok (.tuple #[.int .i64 (m : Int), .bool true]) w3 := hm4.ok_yes (P := Try.prog) Try.dstr Try.underlying79 (zint w3) (k := s) HM.out; clear h3 hm4 hf4))
  go_ret
  exact ⟨rfl, H3.out.1, fun L' h => by cases h⟩

set_option maxHeartbeats 1000000 in
set_option maxRecDepth 100000 in
theorem restore_unfit (base g : Nat) (f : List Nat) (L : List ByteArray) (s : ByteArray) (A : Option Addr) (n c : Nat) (w : World) (h : Steps base g f L s 0 A n c w) (hm : numOf L s = none) (hu : unf s = true) :
    Calls Try.prog 27 #[.pointer (some ⟨g, 0, none⟩), .slice A n c] w (RestPost base g f none w) := by
  have H := hide h
  have HM := hide hm
  have HU : Hid (∀ wq : World, Calls Try.prog 37 #[.pointer (some ⟨g, 0, none⟩), .slice (some ⟨wq.heap.size, 0, none⟩) 1 1] (wq.alloc (.cells #[.string s] 9)) fun e w' => e = .returned (.tuple #[.slice none 0 0, .int .i64 50]) ∧ wq.grownBy w' none) := hide (fun wq =>
    (give_unfit g [s] (some ⟨wq.heap.size, 0, none⟩) 1 1 (wq.heap.size + 1) _ (Rd.new wq #[.string s] 9 (strs [s]) rfl) rfl (by omega) (by simp [hu])).mono fun e w' ⟨he, hw⟩ => ⟨he, hw ▸ gb_alloc (gb_refl wq none) _⟩)
  clear h hm hu
  go_enter Try.func27, Try.ntmps27
  go_wp2_with (first
    | (go_at_call 49; refine Calls.mono H.out ?_; rintro e w1 ⟨gR, rfl, h1⟩; have H1 := hide h1; clear h1)
    | (go_at_call 50; refine H1.out.mono ?_; rintro e w2 ⟨rfl, h2⟩; have H2 := hide h2; clear h2)
    | (go_at_call 51; refine H2.out.mono ?_; rintro e w3 ⟨rfl, h3⟩; have H3 := hide h3; obtain ⟨A4, c4, mb, q0, q1, _, _, _, hm4, _, hf4⟩ := h3.2.open_; have HLK : (Instr.lookup 79 (.map (some mb)) (.string s) true).run Try.prog w3 = .ok (.tuple #[.int .i64 0, .bool false]) w3 := hm4.ok_no (P := Try.prog) Try.dstr Try.underlying79 (zint w3) (k := s) HM.out; clear h3 hm4 hf4)
    | (go_at_call 37; refine (HU.out _).mono ?_; rintro e w4 ⟨rfl, hg4⟩; have HG4 := hide hg4; clear hg4))
  go_ret
  exact ⟨rfl, H3.out.1.trans (Wrote.of_gb HG4.out f) (fun x hx => .inl hx), fun L' h => by cases h⟩

set_option maxHeartbeats 1000000 in
set_option maxRecDepth 100000 in
theorem restore_ok (base g : Nat) (f : List Nat) (L : List ByteArray) (s : ByteArray) (A : Option Addr) (n c : Nat) (w : World) (h : Steps base g f L s 0 A n c w) (hm : numOf L s = none) (hu : unf s = false) (hL : L.length ≤ 5000) (hb : base ≤ w.heap.size) :
    Calls Try.prog 27 #[.pointer (some ⟨g, 0, none⟩), .slice A n c] w (RestPost base g f (some (L ++ [s])) w) := by
  have H := hide h
  have HM := hide hm
  have HBS := hide hb
  have HIN := hide (inter_one hm)
  have HU : Hid (∀ wq : World, w.heap.size ≤ wq.heap.size → TabF wq base f g L → Calls Try.prog 37 #[.pointer (some ⟨g, 0, none⟩), .slice (some ⟨wq.heap.size, 0, none⟩) 1 1] (wq.alloc (.cells #[.string s] 9)) (GivePost base g f L [s] (wq.alloc (.cells #[.string s] 9)))) := hide (fun wq hq ht =>
    give_any base g f L [s] (some ⟨wq.heap.size, 0, none⟩) 1 1 (wq.heap.size + 1) _ (ht.grown (gb_alloc (gb_refl wq none) _)) (Rd.new wq #[.string s] 9 (strs [s]) rfl) (by simp) (fun ad ha _ hm => by
      injection ha with ha
      subst ha
      have := ht.lt _ hm
      simp at this) rfl (by omega) (by simp [hu]) hL (by have := HBS.out; simp; omega))
  clear h hm hu hb
  go_enter Try.func27, Try.ntmps27
  go_wp2_with (first
    | (go_at_call 49; refine Calls.mono H.out ?_; rintro e w1 ⟨gR, rfl, h1⟩; have H1 := hide h1; clear h1)
    | (go_at_call 50; refine H1.out.mono ?_; rintro e w2 ⟨rfl, h2⟩; have H2 := hide h2; clear h2)
    | (go_at_call 51; refine H2.out.mono ?_; rintro e w3 ⟨rfl, h3⟩; have H3 := hide h3; obtain ⟨A4, c4, mb, q0, q1, _, _, _, hm4, _, hf4⟩ := h3.2.open_; have HLK : (Instr.lookup 79 (.map (some mb)) (.string s) true).run Try.prog w3 = .ok (.tuple #[.int .i64 0, .bool false]) w3 := hm4.ok_no (P := Try.prog) Try.dstr Try.underlying79 (zint w3) (k := s) HM.out; clear h3 hm4 hf4)
    | (go_at_call 37; refine (HU.out _ H3.out.1.size H3.out.2).mono ?_; rintro e w4 ⟨v4, f4, rfl, ho4, ht4, hw4, hf4⟩; have HT4 := hide ht4; have HW4 := hide hw4; have HF4 := hide hf4; clear ho4 ht4 hw4 hf4))
  go_ret
  have hT4 := HT4.out
  rw [HIN.out] at hT4
  refine ⟨rfl, ?_, fun L' h => ?_⟩
  · exact (H3.out.1.trans (Wrote.of_gb (gb_alloc (gb_refl w3 none) _) f) (fun x hx => .inl hx)).trans HW4.out (fun x hx => .inl hx)
  · injection h with h
    subst h
    refine ⟨f4, hT4, fun x hx => (HF4.out x hx).imp id (fun h => ?_)⟩
    have := H3.out.1.size
    simp at h
    omega

theorem restore_any (base g : Nat) (f : List Nat) (L : List ByteArray) (load : List UInt8) (A : Option Addr) (n c : Nat) (w : World) (h : TabF w base f g L) (hr : Rd w w.heap.size A (u8s load)) (hn : load.length = n) (hl : n ≤ 100000) (hL : L.length ≤ 5000) (hb : base ≤ w.heap.size) :
    Calls Try.prog 27 #[.pointer (some ⟨g, 0, none⟩), .slice A n c] w (RestPost base g f (rest1 L load) w) := by
  subst hn
  have hs := steps_any base g f L load A c w h hr hl
  unfold rest1
  generalize (⟨(rText load 0 0 64).1.toArray⟩ : ByteArray) = s at *
  generalize rDone load (rText load 0 0 64).2.1 (rText load 0 0 64).2.2 = d at *
  by_cases hd : d = 0
  · subst hd
    cases hm : numOf L s with
    | some m => rw [if_neg (by simp)]; exact restore_known base g f L s m A _ c w hs hm
    | none =>
      cases hu : unf s with
      | true => rw [if_neg (by simp)]; exact restore_unfit base g f L s A _ c w hs hm hu
      | false => rw [if_pos ⟨rfl, rfl, rfl⟩]; exact restore_ok base g f L s A _ c w hs hm hu hL hb
  · rw [if_neg (fun h => hd h.1)]
    exact restore_bad base g f L s d A _ c w hs hd
end Go.Proofs.Ytgilkaaholkgfaa
