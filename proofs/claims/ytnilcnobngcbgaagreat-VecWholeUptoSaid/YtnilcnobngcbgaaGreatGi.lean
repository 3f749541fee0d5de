/-
  append onto a new empty row, as a fact; append of structs as a step.
-/
import Derived.Test.YtnilcnobngcbgaaGreatGh
import Derived.Test.YtnilcnobngcbgaaGreatWd
import Derived.Test.YtnilcnobngcbgaaGreatVj
import Derived.Deep.RegionLaw
namespace Go.Proofs.YtnilcnobngcbgaaGreat
open Go.RowKit

/-- A row of its own, of elements of one cell. -/
def RowO (base : Nat) (e : TypeId) (n : Nat) (xs : List Value) : Fct := fun v w => ∃ A c, v = .slice A n c ∧ n ≤ c ∧ w.ownsRow base e 1 (.slice A n c) n xs
theorem RowO.up (base : Nat) (e : TypeId) (n : Nat) (xs : List Value) : (RowO base e n xs).Up := by
  rintro v w w' ⟨A, c, h1, h2, h3⟩ hg
  exact ⟨A, c, h1, h2, h3.kept hg (by cases (Value.slice A n c).ownBlock <;> simp)⟩
theorem run_append_fresh {P : Program} {w : World} {g base : Nat} (t ty e : TypeId) (i : TypeInfo) (z : Value) (ht : P.underlying t = some (.slice e)) (hi : P.info? e = some i) (hz : i.zero = some z) (hs : i.size = 1) (hby : i.bytes ≤ 16) (hzs : z.cells.size = 1)
    (hg : w.heap[g]? = some (.cells #[] e (0, 0))) {A : Option Addr} {c B m : Nat} {news : List Value} (hl : news.length = m) (hr : Rd w B A news) (hm : m ≤ 1100000) (hbg : base ≤ g) :
    ∃ A' c' w', (Builtin.append_ #[t, t] ty #[.slice (some ⟨g, 0, none⟩) 0 0, .slice A m c]).run P w = .ok (.slice A' m c') w' ∧ m ≤ c' ∧ w'.ownsRow base e 1 (.slice A' m c') m news ∧ w.grownBy w' none := by
  have hown : w.ownsRow base e 1 (.slice (some ⟨g, 0, none⟩) 0 0) 0 [] := ⟨rfl, .inr ⟨g, 0, #[], rfl, hbg, hg, Nat.le_refl _, Nat.zero_le _, rfl, rfl⟩⟩
  rcases Nat.eq_zero_or_pos m with h0 | h0
  · subst h0
    have hb : news = [] := List.eq_nil_of_length_eq_zero hl
    subst hb
    exact ⟨_, _, w, run_append_none w base t ty e i 1 ht hi _ 0 [] hown A c, Nat.le_refl _, hown, gb_refl _ _⟩
  · obtain ⟨ad, rfl, _, hc⟩ := hr (by rintro rfl; simp at hl; omega)
    have hbb : (0 + m) * i.bytes ≤ 140737488355328 := Nat.le_trans (Nat.mul_le_mul (show 0 + m ≤ 1100000 by omega) hby) (by decide)
    have hgrow := run_append_grow (P := P) w t ty e i z ht hi hz ⟨g, 0, none⟩ 0 0 [] (by simp) (by simp) ad m c news (by rw [hs, hl, Nat.mul_one]) hc (by omega) (by omega) (growslice_fits (by omega) hbb)
    have hcm : grownCap w (0 + m) 0 e ≤ maxLen := grownCap_le_maxLen w _ 0 _ (by unfold maxLen; omega)
    have hge := grownCap_ge w (0 + m) 0 e
    rw [Nat.zero_add] at hgrow hcm hge
    have hlt := blk_lt hg
    refine ⟨_, _, _, hgrow, hge, ⟨by rw [hl, Nat.mul_one], .inr ⟨w.heap.size, _, _, rfl, by omega, heap_alloc_new w.drew _, hge, hcm, ?_, ?_⟩⟩, gb_alloc (gb_drew (gb_refl w none)) _⟩
    · simp only [Array.size_append, List.size_toArray, size_zeroCells, hzs, hl, List.length_nil]
      omega
    · simp only [Array.toList_append, List.nil_append, Nat.mul_one]
      rw [← hl]
      exact List.take_left
/-- A row beside a block of another type. -/
theorem row_not_box {w : World} {base n size g : Nat} {e ty : TypeId} {v : Value} {xs : List Value} {cur : Array Value} (h : w.ownsRow base e size v n xs) (hb : w.heap[g]? = some (.cells cur ty (0, 0))) (hne : e ≠ ty) : v.ownBlock ≠ some g := by
  intro hv
  rcases h.2 with ⟨rfl, _⟩ | ⟨b, cap, cur', rfl, _, hh, _⟩
  · simp [Value.ownBlock] at hv
  · simp only [Value.ownBlock, Option.some.injEq] at hv
    subst hv
    rw [hb] at hh
    injection hh with hh
    injection hh with h1 h2
    exact hne h2.symm
theorem Wrote.of_row {a b : World} {row : Option Nat} {f : List Nat} (h : a.grownBy b row) (hf : ∀ g, row = some g → g ∈ f) : Wrote a b f := by
  cases row with
  | none => exact Wrote.of_gb h f
  | some g => exact Wrote.of_some h (hf g rfl)
theorem ev {a : Act} {t : Tmp} {v : Value} (h : a.tmps[t]?.getD undef = v) : a.eval (.tmp t) = v := by
  rw [Act.eval, Array.getD_eq_getD_getElem?]; exact h
theorem exec_append {P : Program} {w w' : World} {a : Act} {o : Oper} {s x : Operand} {t : TypeId} {vs vx v' : Value} (ho : o.op = .call { callee := .builtin .append, args := #[s, x], argTypes := #[t, t] }) (hs : a.eval s = vs) (hx : a.eval x = vx)
    (hrun : (Builtin.append_ #[t, t] o.type #[vs, vx]).run P w = .ok v' w') : (execOp a.eval o).run P w = .ok (.value v') w' := by
  unfold execOp
  simp only [ho, resolve, invoke, builtin, Sem.run_bind, Sem.run_pure, Result.andThen_ok, List.map_toArray, List.map_cons, List.map_nil, hs, hx, hrun]
/-- append of structs as one step of a region that draws its order. -/
theorem step_append_row' {w : World} {ops : Array Oper} {o : Oper} {a : Act} {K : Act → World → Prop} {Q : Exit → Act → World → Prop} {E : Prop} (hgd : o.guard = none) (s x : Operand) (t : TypeId)
    (ho : o.op = .call { callee := .builtin .append, args := #[s, x], argTypes := #[t, t] })
    (base : Nat) (e : TypeId) (i : TypeInfo) (z : Value) (size bytes : Nat) (ht : Tryz.prog.underlying t = some (.slice e)) (hi : Tryz.prog.info? e = some i) (hz : i.zero = some z)
    (hsize : i.size = size) (hby : i.bytes = bytes) (hzs : z.cells.size = size) (hsz : 0 < size)
    (v : Value) (n : Nat) (xs : List Value) (hs : a.eval s = v) (hown : w.ownsRow base e size v n xs)
    (B : Nat) (A : Option Addr) (m c : Nat) (news : List Value) (hx : a.eval x = .slice A m c) (hl : news.length = m * size) (hr : Rd w B A news) (h1 : ∀ u ∈ news, u.oneCell' = true)
    (h63 : n + m ≤ maxLen) (hbytes : (n + m) * bytes ≤ 140737488355328) (hbase : base ≤ w.heap.size)
    (h : ∀ v' w', w'.ownsRow base e size v' (n + m) (xs ++ news) → w.grownBy w' v.ownBlock → (v'.ownBlock = v.ownBlock ∨ v'.ownBlock = some w.heap.size) → K (a.put o.dst v') w') :
    if Region.wanted o (yielded ops a.tmps) = true then Oper.wp Tryz.prog o a w K Q else E := by
  have hw : Region.wanted o (yielded ops a.tmps) = true := by simp [Region.wanted, hgd]
  rw [if_pos hw]
  exact wp_append_rd w s x t ho base e i z size bytes ht hi hz hsize hby hzs hsz v n xs hs hown B A m c news hx hl hr h1 h63 hbytes hbase h
end Go.Proofs.YtnilcnobngcbgaaGreat
