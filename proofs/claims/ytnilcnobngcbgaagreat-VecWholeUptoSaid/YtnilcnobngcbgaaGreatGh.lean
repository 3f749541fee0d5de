/-
  Facts out of contracts.
-/
import Derived.Test.YtnilcnobngcbgaaGreatGf
import Derived.Test.YtnilcnobngcbgaaGreatVg
namespace Go.Proofs.YtnilcnobngcbgaaGreat
open Go.RowKit

theorem VAt.vb {w : World} {B : Nat} {v : Vl} {nA : Option Addr} {nc : Nat} {sA : Option Addr} {sc : Nat} {lA : Option Addr} {lc : Nat} (h : VAt w B v [.int .i64 v.t, .slice nA v.n.length nc, .slice sA v.s.length sc, .slice lA v.l.length lc]) : VB w B v nA nc sA sc lA lc := by
  obtain ⟨a, b, c, d, e, f, hc, hv⟩ := h.parts
  simp only [List.cons.injEq, Value.slice.injEq, true_and, and_true] at hc
  obtain ⟨⟨rfl, rfl⟩, ⟨rfl, rfl⟩, ⟨rfl, rfl⟩⟩ := hc
  exact hv
theorem VOw.vb {w : World} {v : Vl} {nA : Option Addr} {nc : Nat} {sA : Option Addr} {sc : Nat} {lA : Option Addr} {lc : Nat} {f : List Nat} (h : VOw w v [.int .i64 v.t, .slice nA v.n.length nc, .slice sA v.s.length sc, .slice lA v.l.length lc] f) : VB w w.heap.size v nA nc sA sc lA lc :=
  (VOw.at_ _ _ _ h fun b hb => VOw.lt _ _ _ h b hb).vb
theorem ValF.of_new {v : Vl} {w w' : World} {e : Ending} (h : NewV v w e w') : ∃ x, e = .returned x ∧ w.grownBy w' none ∧ ValF v x w' := by
  obtain ⟨nA, nc, sA, sc, lA, lc, f, rfl, ho, _, hg⟩ := h
  exact ⟨_, rfl, hg, nA, nc, sA, sc, lA, lc, rfl, ho.vb⟩
/-- The cells of a row that was laid out. -/
theorem rd_row {w : World} {b : Nat} {cs : Array Value} {ty : TypeId} {xs : List Value} (h : w.heap[b]? = some (.cells cs ty (0, 0))) (hx : cs.toList = xs) (hn : xs ≠ []) : Rd w w.heap.size (some ⟨b, 0, none⟩) xs := by
  subst hx
  have ho : Own w [b] (some ⟨b, 0, none⟩) cs.toList := .inr ⟨b, ty, cs, rfl, rfl, h, List.take_of_length_le (by simp), hn⟩
  exact ho.rd fun x hx => by
    obtain rfl := List.mem_singleton.1 hx
    exact blk_lt h

/-! ## values with their blocks, and boxes beside them -/
theorem VOw.gb {w w' : World} {v : Vl} {cs : List Value} {f : List Nat} (h : VOw w v cs f) (hg : w.grownBy w' none) : VOw w' v cs f :=
  VOw.keep _ _ _ h fun b hb => hg.block b (VOw.lt _ _ _ h b hb) (by simp)
theorem VOwAll.gb {w w' : World} {l : List Vl} {xs : List (List Value)} {f : List Nat} (h : VOwAll w l xs f) (hg : w.grownBy w' none) : VOwAll w' l xs f :=
  VOwAll.keep _ _ _ h fun b hb => hg.block b (VOwAll.lt _ _ _ h b hb) (by simp)
theorem Own.gb {w w' : World} {f : List Nat} {A : Option Addr} {xs : List Value} (h : Own w f A xs) (hg : w.grownBy w' none) : Own w' f A xs :=
  h.keep fun b hb => hg.block b (h.lt b hb) (by simp)
/-- A value, its blocks known. -/
def ValO (v : Vl) : Fct := fun x w => ∃ nA nc sA sc lA lc f, x = .agg #[.int .i64 v.t, .slice nA v.n.length nc, .slice sA v.s.length sc, .slice lA v.l.length lc] ∧ VOw w v [.int .i64 v.t, .slice nA v.n.length nc, .slice sA v.s.length sc, .slice lA v.l.length lc] f
theorem ValO.up (v : Vl) : (ValO v).Up := by
  rintro x w w' ⟨nA, nc, sA, sc, lA, lc, f, h1, h2⟩ hg
  exact ⟨nA, nc, sA, sc, lA, lc, f, h1, h2.gb hg⟩
theorem ValO.of_new {v : Vl} {w w' : World} {e : Ending} (h : NewV v w e w') : ∃ x, e = .returned x ∧ w.grownBy w' none ∧ ValO v x w' := by
  obtain ⟨nA, nc, sA, sc, lA, lc, f, rfl, ho, _, hg⟩ := h
  exact ⟨_, rfl, hg, nA, nc, sA, sc, lA, lc, f, rfl, ho⟩
theorem ValO.call {w : World} {f : FuncId} {args : Array Value} {v : Vl} (h : Calls Tryz.prog f args w (NewV v w)) : gUpon Tryz.prog w (ValO v) (.ok (.enter f args) w) :=
  ⟨gb_refl w none, h.mono fun _ _ h => ValO.of_new h⟩
/-- A slice of values, their blocks known. -/
def RdVO (l : List Vl) : Fct := fun x w => ∃ A c xs f g, x = .slice A l.length c ∧ l.length ≤ c ∧ Own w f A (List.flatten xs) ∧ VOwAll w l xs g
theorem RdVO.up (l : List Vl) : (RdVO l).Up := by
  rintro x w w' ⟨A, c, xs, f, g, h1, h2, h3, h4⟩ hg
  exact ⟨A, c, xs, f, g, h1, h2, h3.gb hg, h4.gb hg⟩
theorem own_row {w : World} {b : Nat} {cs : Array Value} {ty : TypeId} {xs : List Value} (h : w.heap[b]? = some (.cells cs ty (0, 0))) (hx : cs.toList = xs) (hn : xs ≠ []) : Own w [b] (some ⟨b, 0, none⟩) xs := by
  subst hx
  exact .inr ⟨b, ty, cs, rfl, rfl, h, List.take_of_length_le (by simp), hn⟩
theorem RdVO.two {w : World} {a b : Vl} {x0 x1 x2 x3 y0 y1 y2 y3 : Value} {f1 f2 : List Nat} (h1 : VOw w a [x0, x1, x2, x3] f1) (h2 : VOw w b [y0, y1, y2, y3] f2) :
    gUpon Tryz.prog w (RdVO [a, b]) (.ok (.value (.slice (some ⟨w.heap.size, 0, none⟩) 2 2)) (w.alloc (.cells #[x0, x1, x2, x3, y0, y1, y2, y3] 26))) := by
  have hg := gb_alloc (gb_refl w none) (.cells #[x0, x1, x2, x3, y0, y1, y2, y3] 26)
  exact ⟨hg, _, _, [[x0, x1, x2, x3], [y0, y1, y2, y3]], [w.heap.size], f1 ++ (f2 ++ []), rfl, Nat.le_refl _, own_row (heap_alloc_new w _) rfl (by simp), _, _, _, _, rfl, rfl, h1.gb hg, _, _, _, _, rfl, rfl, h2.gb hg, rfl, rfl⟩
/-- A value whose rows are kept. -/
theorem ValO.mk_ {P : Program} {w : World} {v : Vl} {nA : Option Addr} {nc : Nat} {sA : Option Addr} {sc : Nat} {lA : Option Addr} {lc : Nat} {fn fs fl g : List Nat} {xs : List (List Value)} (h1 : v.n.length ≤ nc ∧ v.s.length ≤ sc ∧ v.l.length ≤ lc)
    (h2 : Own w fn nA (i64s v.n)) (h3 : Own w fs sA (strs v.s)) (h4 : Own w fl lA (List.flatten xs)) (h5 : VOwAll w v.l xs g) :
    gUpon P w (ValO v) (.ok (.value (.agg #[.int .i64 v.t, .slice nA v.n.length nc, .slice sA v.s.length sc, .slice lA v.l.length lc])) w) :=
  ⟨gb_refl w none, nA, nc, sA, sc, lA, lc, _, rfl, VOw.mk_ h1 h2 h3 h4 h5⟩
theorem Own.nil_ {w : World} : Own w [] none [] := .inl ⟨rfl, rfl⟩

mutual
/-- A value none of whose rows looks like an empty box. -/
def clearV : Vl → Bool | .mk _ n _ l => decide (n ≠ [0]) && decide (l.length ≠ 1) && clearL l
def clearL : List Vl → Bool | [] => true | v :: r => clearV v && clearL r
end
/-- An empty box of a value. -/
def zero4 : Array Value := #[.int .i64 0, .slice none 0 0, .slice none 0 0, .slice none 0 0]
theorem Own.not_box {w : World} {f : List Nat} {A : Option Addr} {xs : List Value} {g : Nat} {ty : TypeId} (h : Own w f A xs) (hb : w.heap[g]? = some (.cells zero4 ty (0, 0))) (hx : xs ≠ [] → zero4.toList.take xs.length ≠ xs) : g ∉ f := by
  rcases h with ⟨_, rfl⟩ | ⟨b, t, cur, rfl, rfl, hh, ht, hn⟩
  · simp
  · intro hm
    obtain rfl := List.mem_singleton.1 hm
    rw [hb] at hh
    injection hh with hh
    injection hh with hh
    subst hh
    exact hx hn ht
mutual
theorem box_out {w : World} {g : Nat} {ty : TypeId} (hb : w.heap[g]? = some (.cells zero4 ty (0, 0))) : ∀ (v : Vl) (cs : List Value) (f : List Nat), VOw w v cs f → clearV v = true → g ∉ f
  | .mk t n s l, cs, f, h, hc => by
    obtain ⟨nA, nc, sA, sc, lA, lc, xs, fn, fs, fl, fp, rfl, a, ⟨h2, h3, h4⟩, h5, rfl⟩ := h
    simp only [clearV, Bool.and_eq_true, decide_eq_true_eq] at hc
    have hn : g ∉ fn := h2.not_box hb fun hne he => by
      match n, hne with
      | [x], _ => simp [i64s, zero4] at he; exact hc.1.1 (by rw [he])
      | x :: y :: r, _ => simp [i64s, zero4] at he
    have hs : g ∉ fs := h3.not_box hb fun hne he => by
      match s, hne with
      | x :: r, _ => simp [strs, zero4] at he
    have hl : g ∉ fl := h4.not_box hb fun hne he => by
      have h6 := flat4_length h5.all4
      have h7 := h5.length
      have h8 : (zero4.toList.take (List.flatten xs).length).length = (List.flatten xs).length := by rw [he]
      have h9 : (zero4.toList.take (List.flatten xs).length).length ≤ 4 := by simp [zero4]; omega
      have h0 : (List.flatten xs).length ≠ 0 := fun e => hne (List.eq_nil_of_length_eq_zero e)
      omega
    have hp := boxes_out hb l xs fp h5 hc.2
    simp [hn, hs, hl, hp]
theorem boxes_out {w : World} {g : Nat} {ty : TypeId} (hb : w.heap[g]? = some (.cells zero4 ty (0, 0))) : ∀ (l : List Vl) (xs : List (List Value)) (f : List Nat), VOwAll w l xs f → clearL l = true → g ∉ f
  | [], xs, f, h, _ => by rw [h.2]; simp
  | v :: r, xs, f, h, hc => by
    obtain ⟨c, q, f1, f2, rfl, rfl, h1, h2⟩ := h
    simp only [clearL, Bool.and_eq_true] at hc
    have a := box_out hb v c f1 h1 hc.1
    have b := boxes_out hb r q f2 h2 hc.2
    simp [a, b]
end
/-- Four cells are stored into an empty box: the box has them, a value beside it is kept. -/
theorem C4.put {w : World} {g : Nat} {ty : TypeId} (h : w.heap[g]? = some (.cells zero4 ty (0, 0))) (c0 c1 c2 c3 : Value) : C4 (put4 w g 0 c0 c1 c2 c3) g 0 c0 c1 c2 c3 := by
  have h := put4_blk (i := 0) h c0 c1 c2 c3
  exact ⟨by rw [blk_cell h]; rfl, by rw [blk_cell h]; rfl, by rw [blk_cell h]; rfl, by rw [blk_cell h]; rfl⟩
theorem VOw.put {w : World} {g : Nat} {ty : TypeId} {v : Vl} {cs : List Value} {f : List Nat} (h : VOw w v cs f) (hb : w.heap[g]? = some (.cells zero4 ty (0, 0))) (hc : clearV v = true) (c0 c1 c2 c3 : Value) : VOw (put4 w g 0 c0 c1 c2 c3) v cs f :=
  VOw.keep _ _ _ h fun b hm => (put4_gb w g 0 c0 c1 c2 c3).block b (VOw.lt _ _ _ h b hm) (fun e => by
    injection e with e
    subst e
    exact box_out hb _ _ _ h hc hm)
end Go.Proofs.YtnilcnobngcbgaaGreat
