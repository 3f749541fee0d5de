/-
  The contracts of the reference's Frames and Same.
-/
import Derived.Test.YtgilkaaholkgfaaRefO
namespace Go.Proofs.Ytgilkaaholkgfaa
open Go.RowKit

theorem refOpen_as {A : Option Addr} {c n : Nat} {bs : List UInt8} {w : World} (hn : bs.length = n) (hr : Rd w w.heap.size A (u8s bs)) (hc : n ≤ c) (_ : c ≤ maxLen) (h1 : n ≤ 100000000) :
    Calls Try.prog 52 #[.slice A n c] w (Opened (opn bs) w) := by
  subst hn
  exact refOpen_any A c bs w hr hc h1

set_option maxHeartbeats 4000000 in
set_option maxRecDepth 100000 in
theorem refFrames_any (A : Option Addr) (c : Nat) (bs : List UInt8) (w : World) (hr : Rd w w.heap.size A (u8s bs)) (hc : bs.length ≤ c) (hm : c ≤ maxLen) (h1 : bs.length ≤ 100000000) :
    Calls Try.prog 28 #[.slice A bs.length c] w (Framed (frs bs) w) := by
  have HM := hide hm
  unfold maxLen at hm
  go_enter Try.func28, Try.ntmps28
  go_wp2
  go_loopw [5, 6] (fun b i wr => ∃ (k : Nat) (ls : List (List UInt8)), k ≤ bs.length ∧ i = .int .i64 k ∧ ls.length ≤ k ∧ frs bs = (ls ++ (frs (bs.drop k)).1, k + (frs (bs.drop k)).2.1, (frs (bs.drop k)).2.2) ∧ OwnB wr w.heap.size b ls ∧ w.grownBy wr none)
    (fun _ i _ => bs.length - (intOf i).toNat)
  case atStart => exact ⟨0, [], by omega, rfl, by simp, by simp, OwnB.nil_ _ _, gb_refl _ _⟩
  case round =>
    obtain ⟨k, ls, hk, rfl, hlk, hfr, how, hg⟩ := hrel
    have HF := hide hfr
    have HO := hide how
    have hgs := hg.size
    clear hfr how
    by_cases hlt : k < bs.length
    · have hrw := (hr.grown hg (Nat.le_refl _) (by simp)).more hgs
      have hcut := hrw.cut (k := k) (cap := c) (by rw [u8s_length]; exact hk) (by rw [u8s_length]; exact hc)
      have hne : ¬ c = k := by omega
      rw [if_neg hne, u8s_drop] at hcut
      have hlen : (bs.drop k).length = bs.length - k := List.length_drop
      have OP := hide (refOpen_as hlen hcut (by omega) (by unfold maxLen; omega) (by omega) : Calls Try.prog 52 #[.slice _ (bs.length - k) (c - k)] wr _)
      have hsz := opn_size (bs.drop k)
      have hfo := frs_ok (bs.drop k) (by omega)
      have hfe := frs_err (bs.drop k) (by omega)
      rw [hlen] at hsz
      generalize opn (bs.drop k) = r at hsz hfo hfe OP
      obtain ⟨load, sz, er⟩ := r
      dsimp only at hsz hfo hfe
      rcases Nat.eq_zero_or_pos er with hx | hx
      · subst hx
        have hsz := hsz rfl
        have HFO := hide (hfo rfl)
        clear hfo hfe hlen hcut hrw
        go_wp2_with (first
          | (go_at_call 52; refine OP.out.mono ?_; rintro e w2 ⟨v2, rfl, hown2, hg2⟩; obtain ⟨A2, c2, rfl, hnc2, hcm2, hrd2⟩ := own_form hown2; obtain ⟨l, hl1, hl2, hl3⟩ := HO.out; have hll : l.length ≤ k := (by rw [← hl1, List.length_map] at hlk; exact hlk); have hl2' := own_grown hl2 hg2; have hgs2 := hg2.size)
          | (at_builtin; refine appS (m := 1) (hl2'.alloc _) (Rd.new _ _ _ _ rfl) rfl (cellS _ _ _) (by omega) (by simp; omega) rfl rfl rfl rfl ?_; intro v4 w4 hown4 hg4 hwhere4))
        have hob := OwnB.more hl1 hl2' (fun x hx => own_grown (hl3 x hx) hg2) (own_base hown2 hgs) (gb_alloc (gb_refl w2 none) _) hown4 rfl rfl rfl hg4
        have hg5 := gb_new (gb_trans hg hg2 (.inl rfl)) hl2' (gb_trans (gb_alloc (gb_refl w2 _) _) hg4 (.inl rfl))
        clear hown4 hg4 hwhere4 hown2 hl2 hl2' hl3
        go_roundw
        case rel =>
          exact ⟨k + sz, ls ++ [load], by omega, by go_num, by simp; omega, by rw [HF.out, HFO.out]; simp [List.drop_drop, Nat.add_assoc], hob, hg5⟩
        case measure => simp [intOf]; omega
      · have HFE := hide (hfe (by omega))
        have hb1 : ((er : Int) == 0) = false := beq_eq_false_iff_ne.2 (by omega)
        clear hfo hfe hlen hcut hrw hsz
        go_wp2_with (go_at_call 52; refine OP.out.mono ?_; rintro e w2 ⟨v2, rfl, hown2, hg2⟩)
        go_ret3
        refine ⟨_, ?_, by rw [HF.out, HFE.out, List.append_nil]; exact OwnB.grown HO.out hg2, gb_trans hg hg2 (.inl rfl)⟩
        rw [HF.out, HFE.out]
        rfl
    · have e : frs bs = (ls, k, 0) := by rw [HF.out, List.drop_of_length_le (by omega)]; simp [frs_nil]
      have E := hide e
      clear e
      go_wp2_with (fail)
      go_ret3
      exact ⟨_, by rw [E.out]; rfl, by rw [E.out]; exact HO.out, hg⟩

theorem OwnB.rd {w : World} {base : Nat} {v : Value} {ls : List (List UInt8)} (h : OwnB w base v ls) : ∃ A c l, v = .slice A (l : List (Option Addr × Nat × List UInt8)).length c ∧ RdB w w.heap.size A l ∧ l.map (fun x => x.2.2) = ls := by
  obtain ⟨l, h1, h2, h3⟩ := h
  obtain ⟨A, c, rfl, _, _, hr⟩ := own_form h2
  refine ⟨A, c, l, rfl, ⟨hr, fun x hx => ?_⟩, h1⟩
  obtain ⟨A', c', e, h4, h5, h6⟩ := own_form (h3 x hx)
  injection e with e1 _ e3
  subst e1; subst e3
  exact ⟨h6, h4, h5⟩

theorem quiet_conv {P : Program} {ops : Array Oper} {C : World → Prop} {Q : Act → Prop} {a : Act} {o : Oper} {rest : List Oper} {s t : TypeId} {x : Operand} {v u : Value}
    (hg : o.guard = none) (ho : o.op = .convert s t x) (hx : a.eval x = v) (h : ∀ w, C w → (convert s t v).run P w = .ok u w) (hk : wpQuiet P ops C Q rest (a.put o.dst u)) : wpQuiet P ops C Q (o :: rest) a := by
  refine wpQuiet_step fun K hK => ?_
  rw [if_pos (by simp [Region.wanted, hg])]
  refine ⟨u, fun w hw => ?_, hK _ hk⟩
  unfold Oper.quietAt execOp
  simp only [ho, hx, Sem.run_bind, h w hw, Result.andThen_ok, Sem.run_pure]
  exact ⟨rfl, rfl⟩

end Go.Proofs.Ytgilkaaholkgfaa
