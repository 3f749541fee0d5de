/-
  file.twin.
-/
import Derived.Test.YtpkmlehkmmdkoaaSimCa
namespace Go.Proofs.Ytpkmlehkmmdkoaa
open Go.RowKit

theorem wpList_append_nil8 {w : World} {ops : Array Oper} {rest : List Oper} {o : Oper} {a : Act} {Q : Exit → Act → World → Prop} (hgd : o.guard = none) (s x : Operand)
    (ho : o.op = .call { callee := .builtin .append, args := #[s, x], argTypes := #[32, 32] }) {v : Value} {A : Option Addr} {c : Nat} (hs : a.eval s = v) (hx : a.eval x = .slice A 0 c)
    (hown : w.ownsRow 0 5 1 v 0 []) (hK : wpList Try.prog ops Q rest (a.put o.dst v) w) : wpList Try.prog ops Q (o :: rest) a w := by
  obtain ⟨i0, hi, _⟩ := info_parts Try.info8
  have hrun := run_append_none (P := Try.prog) w 0 32 o.type 5 i0 1 Try.underlying32 hi v 0 [] hown A c
  refine wpList_plain hgd fun K' hK' => ?_
  unfold Oper.wp execOp
  simp only [ho, resolve, invoke, builtin, Sem.run_bind, Sem.run_pure, Result.andThen_ok, List.map_toArray, List.map_cons, List.map_nil, hs, hx]
  rw [hrun]
  exact hK' _ _ hK

set_option maxHeartbeats 1000000 in
set_option maxRecDepth 100000 in
theorem clone8_own (A : Option Addr) (n c B : Nat) (bs : List UInt8) (w : World) (hr : Rd w B A (u8s bs)) (hn : n = bs.length) (hB : B ≤ w.heap.size) (hl : bs.length ≤ 1000000000) :
    Calls Try.prog 48 #[.slice A n c] w fun e w' => ∃ A' c', e = .returned (.slice A' n c') ∧ BsAt w' (fun i => w.heap.size ≤ i ∧ i < w'.heap.size) (.slice A' n c') bs ∧ w.grownBy w' none ∧ ∀ g, (Value.slice A' n c').ownBlock = some g → w.heap.size ≤ g ∧ g < w'.heap.size := by
  rcases Nat.eq_zero_or_pos bs.length with h0 | h0
  · have hb : bs = [] := List.eq_nil_of_length_eq_zero h0
    subst hb
    subst hn
    have hq := fun (w : World) (A : Option Addr) (n c : Nat) => Lib.run_eql_slice_nil (P := Try.prog) w 32 5 A n c 0 0 Try.underlying32
    have HO := hide (own_empty w 5 1)
    have HG := hide (gb_alloc (gb_refl w none) (.cells #[] 5))
    clear hr h0
    rcases A with _ | ad
    · go_enter Try.func48, Try.ntmps48
      go_wp2
      go_ret
      exact ⟨none, 0, rfl, .inl ⟨rfl, _, rfl⟩, gb_refl _ _, fun g hg => by cases hg⟩
    · go_enter Try.func48, Try.ntmps48
      go_wp2_with (at_builtin; refine wpList_append_nil8 rfl (.tmp 5) (.tmp 6) rfl rfl rfl HO.out ?_)
      go_ret
      refine ⟨_, _, rfl, .inl ⟨rfl, _, rfl⟩, HG.out, fun g hg => ?_⟩
      have hg' : some w.heap.size = some g := hg
      injection hg' with hg'
      have : (w.alloc (.cells #[] 5)).heap.size = w.heap.size + 1 := by simp
      omega
  · refine (clone8_any A n c B bs w hr hn hB hl).mono ?_
    rintro e w' ⟨A', c', rfl, hb, hg⟩
    refine ⟨A', c', rfl, hb, hg, fun g hg' => ?_⟩
    rcases hb with ⟨hx, _⟩ | ⟨_, g', cap, cur, hv, ho, _⟩
    · subst hx
      simp at h0
    · rw [hv] at hg'
      have e : some g' = some g := hg'
      injection e with e
      subst e
      exact ho

def FourAt (g : Nat) (gn : Bool) (A : Option Addr) (n c : Nat) (B : Option Addr) (m d : Nat) (W : Option Addr) (k f : Nat) (w' : World) : Prop :=
  w'.cell? ⟨g, 0, none⟩ = some (.bool gn) ∧ w'.cell? ⟨g, 1, none⟩ = some (.slice A n c) ∧ w'.cell? ⟨g, 2, none⟩ = some (.slice B m d) ∧ w'.cell? ⟨g, 4, none⟩ = some (.slice W k f)
theorem FourAt.grown {g : Nat} {gn : Bool} {A : Option Addr} {n c : Nat} {B : Option Addr} {m d : Nat} {W : Option Addr} {k f : Nat} {w w' : World} (h : FourAt g gn A n c B m d W k f w) (hg : w.grownBy w' none) : FourAt g gn A n c B m d W k f w' := by
  obtain ⟨h1, h2, h3, h4⟩ := h
  exact ⟨cell_grown h1 hg, cell_grown h2 hg, cell_grown h3 hg, cell_grown h4 hg⟩

set_option maxHeartbeats 8000000 in
set_option maxRecDepth 100000 in
theorem twin_any (g : Nat) (f : Fl) (own rd : Nat → Prop) (w : World) (h : FileAt w own rd g f) (h1 : f.bytes.length ≤ 1000000000) (h2 : f.safe.length ≤ 1000000000) (h3 : f.waits.length ≤ 1000000) :
    Calls Try.prog 49 #[.pointer (some ⟨g, 0, none⟩)] w fun e w' => ∃ g', e = .returned (.pointer (some ⟨g', 0, none⟩)) ∧ FileAt w' (fun i => w.heap.size ≤ i ∧ i < w'.heap.size) rd g' f ∧ w.grownBy w' none := by
  obtain ⟨v, hf, _, hgo, hb, hs, _, hw⟩ := h
  obtain ⟨A1, c1, e1, _, _, r1⟩ := hb.rd
  obtain ⟨B1, d1, e2, _, _, t1⟩ := hs.rd
  obtain ⟨W1, k1, e3, _, _⟩ := hw.form
  have C0 : FourAt g f.gone A1 f.bytes.length c1 B1 f.safe.length d1 W1 f.waits.length k1 w := ⟨by rw [hf.c0, hgo], by rw [hf.c1, e1], by rw [hf.c2, e2], by rw [hf.c4, e3]⟩
  rw [e3] at hw
  have HC0 := hide C0
  have HR1 := hide r1
  have HT1 := hide t1
  have HW := hide hw
  have HL1 := hide h1
  have HL2 := hide h2
  have HL3 := hide h3
  have HG0 := hide (gb_drew (gb_refl w none))
  clear hf hgo hb hs hw e1 e2 e3 r1 t1 h1 h2 h3
  obtain ⟨a0, a1, a2, a4⟩ := C0
  go_enter Try.func49, Try.ntmps49
  go_wp2
  go_region_held3 (fun w' => w'.cell? ⟨g, 0, none⟩ = some (.bool f.gone) ∧ w'.cell? ⟨g, 1, none⟩ = some (.slice A1 f.bytes.length c1) ∧ w'.cell? ⟨g, 2, none⟩ = some (.slice B1 f.safe.length d1) ∧ w'.cell? ⟨g, 4, none⟩ = some (.slice W1 f.waits.length k1))
    (first | exact HC0.out | exact HC1.out | exact HC2.out | exact HC3.out | go_keep)
    (first
    | (go_simp; go_at_call 48; (have _t := HG0); (with_reducible refine (clone8_own A1 f.bytes.length c1 w.heap.size f.bytes _ (HR1.out.at_ HG0.out) rfl HG0.out.size HL1.out).mono ?_); rintro e w1 ⟨X1, x1, rfl, hb1, hg1, ho1⟩; have HB1 := hide hb1; have HO1 := hide ho1; have HS01 := hide (show w.heap.size ≤ w1.heap.size from (gb_trans HG0.out hg1 (.inl rfl)).size); have HG1 := hide (gb_trans HG0.out hg1 (.inl rfl)); have HC1 := hide (HC0.out.grown HG1.out); clear hb1 hg1 ho1 _t HG0)
    | (go_simp; go_at_call 48; (with_reducible refine (clone8_own B1 f.safe.length d1 w.heap.size f.safe _ (HT1.out.at_ HG1.out) rfl HG1.out.size HL2.out).mono ?_); rintro e w2 ⟨X2, x2, rfl, hb2, hg2, ho2⟩; have HB2 := hide hb2; have HO2 := hide ho2; have HG12 := hide hg2; have HG2 := hide (gb_trans HG1.out hg2 (.inl rfl)); have HC2 := hide (HC0.out.grown HG2.out); clear hb2 hg2 ho2 HG1)
    | (go_simp; go_at_call 69; (refine (clone_ws W1 f.waits.length k1 f.waits own rd _ (HW.out.keep fun i _ hl => HG2.out.block i hl (by simp)) HL3.out).mono ?_); rintro e w3 ⟨X3, x3, rfl, hb3, hg3⟩; have HB3 := hide hb3; have HG23 := hide hg3; have HG3 := hide (gb_trans HG2.out hg3 (.inl rfl)); have HC3 := hide (HC0.out.grown HG3.out); clear hb3 hg3))
  go_wp2
  go_ret
  have s1 := HG12.out.size
  have s2 := HG23.out.size
  have s0 : w.heap.size ≤ w1.heap.size := by
    exact HS01.out
  have hga := gb_alloc (gb_refl w3 none) (.cells #[.bool f.gone, .slice X1 f.bytes.length x1, .slice X2 f.safe.length x2, .bool false, .slice X3 f.waits.length x3] 93)
  have hz : (w3.alloc (.cells #[.bool f.gone, .slice X1 f.bytes.length x1, .slice X2 f.safe.length x2, .bool false, .slice X3 f.waits.length x3] 93)).heap.size = w3.heap.size + 1 := by simp
  refine ⟨w3.heap.size, rfl, ⟨⟨f.gone, .slice X1 f.bytes.length x1, .slice X2 f.safe.length x2, false, .slice X3 f.waits.length x3⟩, heap_alloc_new w3 _, ⟨by omega, by rw [hz]; omega⟩, rfl, ?_, ?_, fun q h1 h2 _ => ?_, ?_⟩, gb_trans HG3.out hga (.inl rfl)⟩
  · exact (((HB1.out.grown HG12.out).grown HG23.out).grown hga).mono fun i hi => ⟨hi.1, by rw [hz]; omega⟩
  · exact ((HB2.out.grown HG23.out).grown hga).mono fun i hi => ⟨by omega, by rw [hz]; omega⟩
  · have q1 := HO1.out q h1
    have q2 := HO2.out q h2
    omega
  · exact (HB3.out.keep fun i _ hl => hga.block i hl (by simp)).mono (fun i _ hi => ⟨by omega, by rw [hz]; omega⟩) (fun _ _ h => h)

end Go.Proofs.Ytpkmlehkmmdkoaa
