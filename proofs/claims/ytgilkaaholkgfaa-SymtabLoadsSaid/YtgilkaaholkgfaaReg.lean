/-
  Steps of regions that draw their order: append onto a new empty []byte; frames as rules.
-/
import Derived.Test.YtgilkaaholkgfaaLive
import Derived.Deep.DeepCutAuto
import Derived.Deep.RegionLaw
namespace Go.Proofs.Ytgilkaaholkgfaa
open Go.RowKit

/-- New bytes at hand: a slice value that reads as bs. -/
def At8 (w : World) (v : Value) (bs : List UInt8) : Prop := ∃ A c, v = .slice A bs.length c ∧ bs.length ≤ c ∧ c ≤ maxLen ∧ Rd w w.heap.size A (u8s bs)
set_option maxRecDepth 100000 in
theorem At8.grown {w w' : World} {v : Value} {bs : List UInt8} (h : At8 w v bs) (hg : w.grownBy w' none) : At8 w' v bs := by
  obtain ⟨A, c, e, h1, h2, h3⟩ := h
  exact ⟨A, c, e, h1, h2, (h3.grown hg (Nat.le_refl _) (by simp)).more hg.size⟩
set_option maxRecDepth 100000 in
theorem At8.of_own {w : World} {base n : Nat} {v : Value} {bs : List UInt8} (h : w.ownsRow base 5 1 v n (u8s bs)) (hn : n = bs.length) : At8 w v bs := by
  subst hn
  obtain ⟨A, c, e, h1, h2, h3⟩ := own_form h
  exact ⟨A, c, e, h1, h2, h3⟩
set_option maxRecDepth 100000 in
/-- string(v). -/
theorem At8.string {w : World} {A : Option Addr} {n c : Nat} {bs : List UInt8} (h : At8 w (.slice A n c) bs) : (convert 22 9 (.slice A n c)).run Try.prog w = .ok (.string ⟨bs.toArray⟩) w := by
  obtain ⟨A', c', e, _, _, hr⟩ := h
  injection e with e1 e2 e3
  subst e1; subst e2; subst e3
  exact run_string_of w 22 5 Try.underlying22 Try.underlying5 _ _ _ _ hr 9 Try.underlying9

set_option maxRecDepth 100000 in
/-- append([]byte{}, b...): new bytes; nothing that was there has turned. -/
theorem run_append_empty {w : World} {g : Nat} {A : Option Addr} {c B : Nat} {bs : List UInt8} (ty : TypeId) (hg : w.heap[g]? = some (.cells #[] 5 (0, 0))) (hr : Rd w B A (u8s bs)) (hl : bs.length ≤ 2000000000) :
    ∃ v' w', (Builtin.append_ #[22, 22] ty #[.slice (some ⟨g, 0, none⟩) 0 0, .slice A bs.length c]).run Try.prog w = .ok v' w' ∧ At8 w' v' bs ∧ w.grownBy w' none := by
  obtain ⟨i0, hi, hz0, hz1, hz2⟩ := info_parts Try.info8
  have hown : w.ownsRow 0 5 1 (.slice (some ⟨g, 0, none⟩) 0 0) 0 [] := ⟨rfl, .inr ⟨g, 0, #[], rfl, Nat.zero_le _, hg, Nat.le_refl _, Nat.zero_le _, rfl, rfl⟩⟩
  rcases Nat.eq_zero_or_pos bs.length with h0 | h0
  · have hb : bs = [] := List.eq_nil_of_length_eq_zero h0
    subst hb
    exact ⟨_, w, run_append_none w 0 22 ty 5 i0 1 Try.underlying22 hi _ 0 [] hown A c, ⟨_, 0, rfl, Nat.le_refl _, Nat.zero_le _, Rd.nil_⟩, gb_refl _ _⟩
  · obtain ⟨ad, rfl, _, hc⟩ := hr (u8s_ne (by rintro rfl; simp at h0))
    have hgrow := run_append_grow (P := Try.prog) w 22 ty 5 i0 (.int .u8 0) Try.underlying22 hi hz0 ⟨g, 0, none⟩ 0 0 [] (by simp) (by simp) ad bs.length c (u8s bs) (by rw [u8s_length, hz1, Nat.mul_one]) hc (by omega) (by omega) (growslice_fits (by omega) (by rw [hz2]; omega))
    refine ⟨_, _, hgrow, ?_, gb_alloc (gb_drew (gb_refl w none)) _⟩
    have hcm : grownCap w (0 + bs.length) 0 5 ≤ maxLen := grownCap_le_maxLen w _ 0 _ (by unfold maxLen; omega)
    have hge := grownCap_ge w (0 + bs.length) 0 5
    refine ⟨some ⟨w.heap.size, 0, none⟩, _, by rw [Nat.zero_add], by omega, hcm, fun _ => ⟨_, rfl, by simp, fun j u hu => ?_⟩⟩
    have e : (⟨w.heap.size, 0, none⟩ : Addr).add j = ⟨w.heap.size, j, none⟩ := by unfold Addr.add; split <;> simp_all
    have hj : j < (u8s bs).length := (List.getElem?_eq_some_iff.1 hu).1
    rw [e, cell_of_row _ w.heap.size j _ 5 (0, 0) (heap_alloc_new w.drew _)]
    rw [Array.getElem?_append_left (by simpa using hj)]
    simpa using hu

set_option maxRecDepth 100000 in
/-- The same as one step of a region that draws its order. -/
theorem step_empty {w : World} {ops : Array Oper} {o : Oper} {a : Act} {K : Act → World → Prop} {Q : Exit → Act → World → Prop} {E : Prop} {s x : Operand} {g : Nat} {A : Option Addr} {c B : Nat} {bs : List UInt8}
    (hg : w.heap[g]? = some (.cells #[] 5 (0, 0))) (hr : Rd w B A (u8s bs)) (hl : bs.length ≤ 2000000000)
    (hgd : o.guard = none) (ho : o.op = .call { callee := .builtin .append, args := #[s, x], argTypes := #[22, 22] })
    (hs : a.eval s = .slice (some ⟨g, 0, none⟩) 0 0) (hx : a.eval x = .slice A bs.length c)
    (h : ∀ A' c' w', At8 w' (.slice A' bs.length c') bs → w.grownBy w' none → K (a.put o.dst (.slice A' bs.length c')) w') :
    if Region.wanted o (yielded ops a.tmps) = true then Oper.wp Try.prog o a w K Q else E := by
  have hw : Region.wanted o (yielded ops a.tmps) = true := by simp [Region.wanted, hgd]
  rw [if_pos hw]
  obtain ⟨v', w', hrun, h2, h3⟩ := run_append_empty o.type hg hr hl
  obtain ⟨A', c', rfl, h4, h5, h6⟩ := h2
  unfold Oper.wp execOp
  simp only [ho, resolve, invoke, builtin, Sem.run_bind, Sem.run_pure, Result.andThen_ok, List.map_toArray, List.map_cons, List.map_nil, hs, hx]
  rw [hrun]
  exact h A' c' w' ⟨A', c', rfl, h4, h5, h6⟩ h3

set_option maxRecDepth 100000 in
theorem putText_at {w : World} {A AL : Option Addr} {n c cl B : Nat} {bs : List UInt8} {l : List ByteArray} (h : At8 w (.slice A n c) bs) (hl : Rd w B AL (strs l)) (hB : B ≤ w.heap.size) (h1 : bs.length ≤ 100000000) (h2 : l.length ≤ 1000000) (h3 : sumLen l ≤ 100000000) :
    Calls Try.prog 60 #[.slice A n c, .slice AL l.length cl] w fun e w' => ∃ A' c', e = .returned (.slice A' (bs.length + (putStrs l).length) c') ∧ At8 w' (.slice A' (bs.length + (putStrs l).length) c') (bs ++ putStrs l) ∧ w.grownBy w' none := by
  obtain ⟨A', c', e, _, _, hr⟩ := h
  injection e with e1 e2 e3
  subst e1; subst e2; subst e3
  refine (putText_any A AL c cl bs l w hr (hl.more hB) h1 h2 h3).mono fun e w' ⟨v, he, ho, hg⟩ => ?_
  obtain ⟨A2, c2, rfl, h3, h4, h5⟩ := At8.of_own ho rfl
  rw [List.length_append] at he h3
  exact ⟨A2, c2, he, ⟨A2, c2, by rw [List.length_append], by rw [List.length_append]; exact h3, h4, h5⟩, hg⟩

end Go.Proofs.Ytgilkaaholkgfaa
