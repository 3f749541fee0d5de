/-
  value.Clone and value.cloneAll.
-/
import Derived.Test.YtfdckhnhancbdaaVo
import Derived.Test.YtfdckhnhancbdaaVc
namespace Go.Proofs.Ytfdckhnhancbdaa
open Go.RowKit
attribute [local go_sem ↓] Go.wp_at_zero Go.wp_at_succ

/-- What a copy of a value is: of the same value, in new blocks, which nobody else has. -/
def NewV (v : Vl) (w : World) (e : Ending) (w' : World) : Prop := ∃ nA nc sA sc lA lc f, e = .returned (.agg #[.int .i64 v.t, .slice nA v.n.length nc, .slice sA v.s.length sc, .slice lA v.l.length lc]) ∧
  VOw w' v [.int .i64 v.t, .slice nA v.n.length nc, .slice sA v.s.length sc, .slice lA v.l.length lc] f ∧ New w w' f ∧ w.grownBy w' none
/-- What a copy of a list is. -/
def NewL (l : List Vl) (w : World) (e : Ending) (w' : World) : Prop := ∃ A c xs f g, e = .returned (.slice A l.length c) ∧ l.length ≤ c ∧ Own w' f A (List.flatten xs) ∧ VOwAll w' l xs g ∧ New w w' (f ++ g) ∧ w.grownBy w' none

theorem Try.infoV : (Try.prog.info? 26).map (fun i => (i.zero, i.size, i.bytes)) = some (some (.agg #[.int .i64 0, .slice none 0 0, .slice none 0 0, .slice none 0 0]), 4, 80) := by kernel_rfl

/-- The first j of a list are copied into block g. -/
def Fill (w : World) (l : List Vl) (j : Nat) (wr : World) : Prop := ∃ xs f cur, wr.heap[w.heap.size]? = some (.cells cur 26 (0, 0)) ∧ cur.size = l.length * 4 ∧ cur.toList.take (j * 4) = List.flatten xs ∧ VOwAll wr (l.take j) xs f ∧ f.Nodup ∧ (∀ b ∈ f, w.heap.size < b) ∧ w.grownBy wr none

theorem Fill.step {w wr wa w6 : World} {l : List Vl} {j : Nat} {xs : List (List Value)} {f f6 : List Nat} {cur : Array Value} {c0 c1 c2 c3 : Value} (hlt : j < l.length) (hh6 : w6.heap[w.heap.size]? = some (.cells cur 26 (0, 0))) (hs : cur.size = l.length * 4)
    (htk : cur.toList.take (j * 4) = List.flatten xs) (hall : VOwAll wr (l.take j) xs f) (hnd : f.Nodup) (hbig : ∀ b ∈ f, w.heap.size < b) (hg : w.grownBy wr none) (hga : wr.grownBy wa none) (hg6 : wa.grownBy w6 none)
    (hw : w.heap.size < wr.heap.size) (ho6 : VOw w6 l[j] [c0, c1, c2, c3] f6) (hn6 : New wa w6 f6) : Fill w l (j + 1) (put4 w6 w.heap.size (j * 4) c0 c1 c2 c3) := by
  have h1 := hga.size
  have h2 := hg6.size
  have hk : ∀ b, b < w6.heap.size → b ≠ w.heap.size → (put4 w6 w.heap.size (j * 4) c0 c1 c2 c3).heap[b]? = w6.heap[b]? := fun b hb hne => (put4_gb w6 w.heap.size (j * 4) c0 c1 c2 c3).block b hb (by intro e; injection e with e; exact hne e)
  refine ⟨xs ++ [[c0, c1, c2, c3]], f ++ f6, _, put4_blk hh6 c0 c1 c2 c3, by simp [hs], ?_, ?_, ?_, ?_, ?_⟩
  · rw [show (j + 1) * 4 = j * 4 + 4 by omega, put4_take cur (j * 4) (by omega), htk, List.flatten_append]
    simp
  · rw [List.take_succ_eq_append_getElem hlt]
    refine VOwAll.snoc _ _ _ (VOwAll.keep _ _ _ hall fun b hb => ?_) (VOw.keep _ _ _ ho6 fun b hb => ?_)
    · have hb1 := VOwAll.lt _ _ _ hall b hb
      have hb2 := hbig b hb
      rw [hk b (by omega) (by omega), hg6.block b (by omega) (by simp), hga.block b (by omega) (by simp)]
    · have hb1 := hn6.2 b hb
      exact hk b (by omega) (by omega)
  · refine List.nodup_append.2 ⟨hnd, hn6.1, fun x hx y hy e => ?_⟩
    have := VOwAll.lt _ _ _ hall x hx
    have := (hn6.2 y hy).1
    omega
  · intro b hb
    rcases List.mem_append.1 hb with hb | hb
    · exact hbig b hb
    · have := (hn6.2 b hb).1
      omega
  · exact gb_trans (gb_trans hg (gb_trans hga hg6 (.inl rfl)) (.inl rfl)) (put4_gb w6 w.heap.size (j * 4) c0 c1 c2 c3) (.inr (.inr ⟨_, rfl, Nat.le_refl _⟩))
theorem Fill.done {w wr : World} {l : List Vl} (h : Fill w l l.length wr) (h0 : 0 < l.length) : NewL l w (.returned (.slice (some ⟨w.heap.size, 0, none⟩) l.length l.length)) wr := by
  obtain ⟨xs, f, cur, hh, hs, htk, hall, hnd, hbig, hg⟩ := h
  rw [List.take_length] at hall
  have hlen : (List.flatten xs).length = l.length * 4 := by rw [flat4_length hall.all4, hall.length]
  have hne : List.flatten xs ≠ [] := by intro e; rw [e] at hlen; simp at hlen; omega
  refine ⟨_, _, xs, [w.heap.size], f, rfl, Nat.le_refl _, .inr ⟨_, _, cur, rfl, rfl, hh, by rw [hlen]; exact htk, hne⟩, hall, ⟨?_, ?_⟩, hg⟩
  · simp only [List.singleton_append, List.nodup_cons]
    exact ⟨fun hm => by have := hbig _ hm; omega, hnd⟩
  · intro b hb
    rcases List.mem_append.1 hb with hb | hb
    · obtain rfl := List.mem_singleton.1 hb
      exact ⟨Nat.le_refl _, blk_lt hh⟩
    · exact ⟨Nat.le_of_lt (hbig b hb), VOwAll.lt _ _ _ hall b hb⟩

theorem NewV.of_parts {v : Vl} {w wa w1 w2 w3 : World} {A1 A2 A3 : Option Addr} {c1 c2 c3 : Nat} {xs : List (List Value)} {f g : List Nat} (hsz : wa.heap.size = w.heap.size + 2) (hg : w.grownBy wa none)
    (hc1 : v.n.length ≤ c1) (ho1 : w1.ownsRow wa.heap.size 2 1 (.slice A1 v.n.length c1) v.n.length (i64s v.n)) (hg1 : wa.grownBy w1 none)
    (hc2 : v.s.length ≤ c2) (ho2 : w2.ownsRow w1.heap.size 9 1 (.slice A2 v.s.length c2) v.s.length (strs v.s)) (hg2 : w1.grownBy w2 none)
    (hc3 : v.l.length ≤ c3) (ho3 : Own w3 f A3 (List.flatten xs)) (ha : VOwAll w3 v.l xs g) (hn : New w2 w3 (f ++ g)) (hg3 : w2.grownBy w3 none) :
    NewV v w (.returned (.agg #[.int .i64 v.t, .slice A1 v.n.length c1, .slice A2 v.s.length c2, .slice A3 v.l.length c3])) (put4 w3 (w.heap.size + 1) 0 (.int .i64 v.t) (.slice A1 v.n.length c1) (.slice A2 v.s.length c2) (.slice A3 v.l.length c3)) := by
  obtain ⟨f1, o1, b1⟩ := Own.of_row ho1
  obtain ⟨f2, o2, b2⟩ := Own.of_row ho2
  have s1 := hg1.size
  have s2 := hg2.size
  have s3 := hg3.size
  have hk : ∀ b, b < w3.heap.size → b ≠ w.heap.size + 1 → (put4 w3 (w.heap.size + 1) 0 (.int .i64 v.t) (.slice A1 v.n.length c1) (.slice A2 v.s.length c2) (.slice A3 v.l.length c3)).heap[b]? = w3.heap[b]? := fun b hb hne => (put4_gb w3 (w.heap.size + 1) 0 _ _ _ _).block b hb (by intro e; injection e with e; exact hne e)
  have hs4 := put4_size w3 (w.heap.size + 1) 0 (.int .i64 v.t) (.slice A1 v.n.length c1) (.slice A2 v.s.length c2) (.slice A3 v.l.length c3)
  refine ⟨A1, c1, A2, c2, A3, c3, f1 ++ (f2 ++ (f ++ g)), rfl, VOw.mk_ ⟨hc1, hc2, hc3⟩ (o1.keep fun b hb => ?_) (o2.keep fun b hb => ?_) (ho3.keep fun b hb => ?_) (VOwAll.keep _ _ _ ha fun b hb => ?_), ?_, ?_⟩
  · have := b1 b hb
    rw [hk b (by omega) (by omega), hg3.block b (by omega) (by simp), hg2.block b (by omega) (by simp)]
  · have := b2 b hb
    rw [hk b (by omega) (by omega), hg3.block b (by omega) (by simp)]
  · have := hn.2 b (by simp [hb])
    exact hk b (by omega) (by omega)
  · have := hn.2 b (by simp [hb])
    exact hk b (by omega) (by omega)
  · have n1 : New wa w1 f1 := New.one b1 o1.len (Nat.le_refl _)
    have n2 : New w1 w2 f2 := New.one b2 o2.len (Nat.le_refl _)
    exact ((n1.app (n2.app hn s2 s3) s1 (by omega)).more (by omega)).less (by omega)
  · exact gb_trans (gb_trans hg (gb_trans hg1 (gb_trans hg2 hg3 (.inl rfl)) (.inl rfl)) (.inl rfl)) (put4_gb w3 (w.heap.size + 1) 0 _ _ _ _) (.inr (.inr ⟨_, rfl, by omega⟩))

end Go.Proofs.Ytfdckhnhancbdaa
