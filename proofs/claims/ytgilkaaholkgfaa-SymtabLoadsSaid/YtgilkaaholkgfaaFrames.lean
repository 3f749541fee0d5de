/-
  The contract of octet.Frames; lists of bytes of the call's own.
-/
import Derived.Test.YtgilkaaholkgfaaOpen
namespace Go.Proofs.Ytgilkaaholkgfaa
open Go.RowKit

theorem Try.infoS : (Try.prog.info? 22).map (fun i => (i.zero, i.size, i.bytes)) = some (some (.slice none 0 0), 1, 24) := by kernel_rfl

/-- append at lists of bytes, of one list. -/
theorem appS {w : World} {ops : Array Oper} {rest : List Oper} {o : Oper} {a : Act} {Q : Exit → Act → World → Prop} {s x : Operand} {base n B m c : Nat} {v : Value} {xs news : List Value} {A : Option Addr}
    (hown : w.ownsRow base 22 1 v n xs) (hr : Rd w B A news) (hl : news.length = m) (h1 : ∀ u ∈ news, u.oneCell' = true) (hsz : n + m ≤ 2000000000) (hbase : base ≤ w.heap.size)
    (hgd : o.guard = none) (ho : o.op = .call { callee := .builtin .append, args := #[s, x], argTypes := #[64, 64] }) (hs : a.eval s = v) (hx : a.eval x = .slice A m c)
    (h : ∀ v' w', w'.ownsRow base 22 1 v' (n + m) (xs ++ news) → w.grownBy w' v.ownBlock → (v'.ownBlock = v.ownBlock ∨ v'.ownBlock = some w.heap.size) → wpList Try.prog ops Q rest (a.put o.dst v') w') :
    wpList Try.prog ops Q (o :: rest) a w := by
  obtain ⟨i0, hi, hz0, hz1, hz2⟩ := info_parts Try.infoS
  exact wpList_append_rd w hgd s x 64 ho base 22 i0 (.slice none 0 0) 1 24 Try.underlying64 hi hz0 hz1 hz2 rfl (by decide) v n xs hs hown B A m c news hx (by omega) hr h1 (by unfold maxLen; omega) (by omega) hbase h

/-- A list of lists of bytes, all of it the call's own. -/
def OwnB (w : World) (base : Nat) (v : Value) (ls : List (List UInt8)) : Prop :=
  ∃ l : List (Option Addr × Nat × List UInt8), l.map (fun x => x.2.2) = ls ∧ w.ownsRow base 22 1 v l.length (sls l) ∧ ∀ x ∈ l, w.ownsRow base 5 1 (.slice x.1 x.2.2.length x.2.1) x.2.2.length (u8s x.2.2)

theorem OwnB.nil_ (w : World) (base : Nat) : OwnB w base (.slice none 0 0) [] := ⟨[], rfl, World.ownsRow_nil _ _ _ _, by simp⟩
theorem OwnB.grown {w w' : World} {base : Nat} {v : Value} {ls : List (List UInt8)} (h : OwnB w base v ls) (hg : w.grownBy w' none) : OwnB w' base v ls := by
  obtain ⟨l, h1, h2, h3⟩ := h
  exact ⟨l, h1, own_grown h2 hg, fun x hx => own_grown (h3 x hx) hg⟩
theorem own_ne2 {w : World} {base base' n m : Nat} {e t : TypeId} {v u : Value} {xs ys : List Value} (h : w.ownsRow base e 1 v n xs) (h' : w.ownsRow base' t 1 u m ys) (hne : e ≠ t) : v.ownBlock = none ∨ v.ownBlock ≠ u.ownBlock := by
  rcases h'.2 with ⟨rfl, _⟩ | ⟨g, cap, cur, rfl, _, hh, _⟩
  · cases v.ownBlock <;> simp [Value.ownBlock]
  · exact .inr (own_ne h hh hne)
/-- One more list. -/
theorem OwnB.more {w w1 w' : World} {base : Nat} {v v' : Value} {A : Option Addr} {c : Nat} {ls : List (List UInt8)} {bs : List UInt8} {k n : Nat} {xs : List Value} {l : List (Option Addr × Nat × List UInt8)}
    (h1 : l.map (fun x => x.2.2) = ls) (h2 : w.ownsRow base 22 1 v l.length (sls l)) (h3 : ∀ x ∈ l, w.ownsRow base 5 1 (.slice x.1 x.2.2.length x.2.1) x.2.2.length (u8s x.2.2))
    (hb : w.ownsRow base 5 1 (.slice A bs.length c) bs.length (u8s bs)) (hg1 : w.grownBy w1 none)
    (ho : w'.ownsRow base 22 1 v' (l.length + k) (sls l ++ xs)) (hk : k = 1) (hn : n = bs.length) (hx : xs = [.slice A n c]) (hg : w1.grownBy w' v.ownBlock) : OwnB w' base v' (ls ++ [bs]) := by
  subst hk
  subst hx
  subst hn
  refine ⟨l ++ [(A, c, bs)], by simp [h1], by simpa [sls] using ho, fun x hx => ?_⟩
  have h2' := own_grown h2 hg1
  rcases List.mem_append.1 hx with hx | hx
  · exact (own_grown (h3 x hx) hg1).kept hg (own_ne2 (own_grown (h3 x hx) hg1) h2' (by decide))
  · obtain rfl := List.mem_singleton.1 hx
    exact (own_grown hb hg1).kept hg (own_ne2 (own_grown hb hg1) h2' (by decide))

theorem open_as {A : Option Addr} {c n : Nat} {bs : List UInt8} {w : World} (hn : bs.length = n) (hr : Rd w w.heap.size A (u8s bs)) (hc : n ≤ c) (hm : c ≤ maxLen) (h1 : n ≤ 100000000) :
    Calls Try.prog 48 #[.slice A n c] w (Opened (opn bs) w) := by
  subst hn
  exact open_any A c bs w hr hc hm h1

/-- What Frames leaves. -/
def Framed (r : List (List UInt8) × Nat × Nat) (w : World) (e : Ending) (w' : World) : Prop :=
  ∃ v, e = .returned (.tuple #[v, .int .i64 (r.2.1 : Int), .int .i64 (r.2.2 : Int)]) ∧ OwnB w' w.heap.size v r.1 ∧ w.grownBy w' none

theorem cellS (A : Option Addr) (n c : Nat) : ∀ u ∈ [Value.slice A n c], u.oneCell' = true := by
  intro u hu
  obtain rfl := List.mem_singleton.1 hu
  rfl

set_option maxHeartbeats 4000000 in
set_option maxRecDepth 100000 in
theorem frames_any (A : Option Addr) (c : Nat) (bs : List UInt8) (w : World) (hr : Rd w w.heap.size A (u8s bs)) (hc : bs.length ≤ c) (hm : c ≤ maxLen) (h1 : bs.length ≤ 100000000) :
    Calls Try.prog 26 #[.slice A bs.length c] w (Framed (frs bs) w) := by
  have HM := hide hm
  unfold maxLen at hm
  go_enter Try.func26, Try.ntmps26
  go_wp2
  go_loopw [5, 6] (fun b i wr => ∃ (k : Nat) (ls : List (List UInt8)), k ≤ bs.length ∧ i = .int .i64 k ∧ ls.length ≤ k ∧ frs bs = (ls ++ (frs (bs.drop k)).1, k + (frs (bs.drop k)).2.1, (frs (bs.drop k)).2.2) ∧ OwnB wr w.heap.size b ls ∧ w.grownBy wr none)
    (fun _ i _ => bs.length - (intOf i).toNat)
  case atStart => exact ⟨0, [], by omega, rfl, by simp, by simp, OwnB.nil_ _ _, gb_refl _ _⟩
  case round =>
    obtain ⟨k, ls, hk, rfl, hlk, hfr, how, hg⟩ := hrel
    have HF := hide hfr
    have HO := hide how
    have hgs := hg.size
    clear hfr how
    by_cases hlt : k < bs.length
    · have hrw := (hr.grown hg (Nat.le_refl _) (by simp)).more hgs
      have hcut := hrw.cut (k := k) (cap := c) (by rw [u8s_length]; exact hk) (by rw [u8s_length]; exact hc)
      have hne : ¬ c = k := by omega
      rw [if_neg hne, u8s_drop] at hcut
      have hlen : (bs.drop k).length = bs.length - k := List.length_drop
      have OP := hide (open_as hlen hcut (by omega) (by unfold maxLen; omega) (by omega) : Calls Try.prog 48 #[.slice _ (bs.length - k) (c - k)] wr _)
      have hsz := opn_size (bs.drop k)
      have hfo := frs_ok (bs.drop k) (by omega)
      have hfe := frs_err (bs.drop k) (by omega)
      rw [hlen] at hsz
      generalize opn (bs.drop k) = r at hsz hfo hfe OP
      obtain ⟨load, sz, er⟩ := r
      dsimp only at hsz hfo hfe
      rcases Nat.eq_zero_or_pos er with hx | hx
      · subst hx
        have hsz := hsz rfl
        have HFO := hide (hfo rfl)
        clear hfo hfe hlen hcut hrw
        go_wp2_with (first
          | (go_at_call 48; refine OP.out.mono ?_; rintro e w2 ⟨v2, rfl, hown2, hg2⟩; obtain ⟨A2, c2, rfl, hnc2, hcm2, hrd2⟩ := own_form hown2; obtain ⟨l, hl1, hl2, hl3⟩ := HO.out; have hll : l.length ≤ k := (by rw [← hl1, List.length_map] at hlk; exact hlk); have hl2' := own_grown hl2 hg2; have hgs2 := hg2.size)
          | (at_builtin; refine appS (m := 1) (hl2'.alloc _) (Rd.new _ _ _ _ rfl) rfl (cellS _ _ _) (by omega) (by simp; omega) rfl rfl rfl rfl ?_; intro v4 w4 hown4 hg4 hwhere4))
        have hob := OwnB.more hl1 hl2' (fun x hx => own_grown (hl3 x hx) hg2) (own_base hown2 hgs) (gb_alloc (gb_refl w2 none) _) hown4 rfl rfl rfl hg4
        have hg5 := gb_new (gb_trans hg hg2 (.inl rfl)) hl2' (gb_trans (gb_alloc (gb_refl w2 _) _) hg4 (.inl rfl))
        clear hown4 hg4 hwhere4 hown2 hl2 hl2' hl3
        go_roundw
        case rel =>
          exact ⟨k + sz, ls ++ [load], by omega, by go_num, by simp; omega, by rw [HF.out, HFO.out]; simp [List.drop_drop, Nat.add_assoc], hob, hg5⟩
        case measure => simp [intOf]; omega
      · have HFE := hide (hfe (by omega))
        have hb1 : ((er : Int) == 0) = false := beq_eq_false_iff_ne.2 (by omega)
        clear hfo hfe hlen hcut hrw hsz
        go_wp2_with (go_at_call 48; refine OP.out.mono ?_; rintro e w2 ⟨v2, rfl, hown2, hg2⟩)
        go_ret3
        refine ⟨_, ?_, by rw [HF.out, HFE.out, List.append_nil]; exact OwnB.grown HO.out hg2, gb_trans hg hg2 (.inl rfl)⟩
        rw [HF.out, HFE.out]
        rfl
    · have e : frs bs = (ls, k, 0) := by rw [HF.out, List.drop_of_length_le (by omega)]; simp [frs_nil]
      have E := hide e
      clear e
      go_wp2_with (fail)
      go_ret3
      exact ⟨_, by rw [E.out]; rfl, by rw [E.out]; exact HO.out, hg⟩

end Go.Proofs.Ytgilkaaholkgfaa
