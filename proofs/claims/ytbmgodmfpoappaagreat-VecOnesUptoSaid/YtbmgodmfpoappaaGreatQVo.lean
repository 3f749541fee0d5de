/-
  Rows of a call's own; clones of numbers and of symbols.
-/
import Derived.Test.YtbmgodmfpoappaaGreatQVb
import Derived.Deep.RegionHeld3
import Derived.Deep.DrawnRows
namespace Go.Proofs.YtbmgodmfpoappaaGreat
open Go.RowKit
def Own (w : World) (f : List Nat) (A : Option Addr) (xs : List Value) : Prop :=
 (xs = [] ∧ f = []) ∨ ∃ b t cur, f = [b] ∧ A = some ⟨b, 0, none⟩ ∧ w.heap[b]? = some (.cells cur t (0, 0)) ∧ cur.toList.take xs.length = xs ∧ xs ≠ []
theorem Own.of_row {w : World} {base : Nat} {e : TypeId} {size n c : Nat} {A : Option Addr} {xs : List Value} (h : w.ownsRow base e size (.slice A n c) n xs) : ∃ f, Own w f A xs ∧ ∀ b ∈ f, base ≤ b ∧ b < w.heap.size := by
 by_cases hx : xs = []
 ·exact ⟨[], .inl ⟨hx, rfl⟩, by simp⟩
 rcases h.2 with ⟨h1, h2⟩ | ⟨g, cap, cur, hv, hb, hh, _, _, _, ht⟩
 ·have h3 := h.1
  rw [h2] at h3
  simp at h3
  exact absurd h3 hx
 ·injection hv with hA
  subst hA
  refine ⟨[g], .inr ⟨g, e, cur, rfl, rfl, hh, ?_, hx⟩, ?_⟩
  ·rw [h.1]; exact ht
  ·intro b hb'
   obtain rfl := List.mem_singleton.1 hb'
   exact ⟨hb, blk_lt hh⟩
theorem Own.rd {w : World} {f : List Nat} {A : Option Addr} {xs : List Value} {B : Nat} (h : Own w f A xs) (hB : ∀ b ∈ f, b < B) : Rd w B A xs := by
 rcases h with ⟨rfl, _⟩ | ⟨b, t, cur, rfl, rfl, hh, ht, _⟩
 ·exact Rd.nil_
 ·refine fun _ => ⟨_, rfl, hB b (by simp), fun j u hu => ?_⟩
  have e : (⟨b, 0, none⟩ : Addr).add j = ⟨b, j, none⟩ := by unfold Addr.add; split <;> simp_all
  rw [e, blk_cell hh]
  rw [← ht, List.getElem?_take] at hu
  split at hu
  ·simpa using hu
  ·cases hu
theorem Own.keep {w w' : World} {f : List Nat} {A : Option Addr} {xs : List Value} (h : Own w f A xs) (hk : ∀ b ∈ f, w'.heap[b]? = w.heap[b]?) : Own w' f A xs := by
 rcases h with h | ⟨b, t, cur, rfl, hA, hh, ht, hx⟩
 ·exact .inl h
 ·exact .inr ⟨b, t, cur, rfl, hA, (hk b (by simp)).trans hh, ht, hx⟩
theorem Own.lt {w : World} {f : List Nat} {A : Option Addr} {xs : List Value} (h : Own w f A xs) : ∀ b ∈ f, b < w.heap.size := by
 rcases h with ⟨_, rfl⟩ | ⟨b, t, cur, rfl, _, hh, _, _⟩
 ·simp
 ·intro c hc
  obtain rfl := List.mem_singleton.1 hc
  exact blk_lt hh
theorem i64s_one (l : List Int) : ∀ u ∈ i64s l, u.oneCell' = true := by
 intro u hu
 obtain ⟨t, _, rfl⟩ := List.mem_map.1 hu
 rfl
theorem strs_one (l : List ByteArray) : ∀ u ∈ strs l, u.oneCell' = true := by
 intro u hu
 obtain ⟨t, _, rfl⟩ := List.mem_map.1 hu
 rfl
theorem Tryz.info64 : (Tryz.prog.info? 2).map (fun i => (i.zero, i.size, i.bytes)) = some (some (.int .i64 0), 1, 8) := by kernel_rfl
theorem Tryz.infoS : (Tryz.prog.info? 9).map (fun i => (i.zero, i.size, i.bytes)) = some (some (.string ⟨#[]⟩), 1, 16) := by kernel_rfl
theorem own_nil (w : World) (t : TypeId) (size : Nat) : (w.alloc (.cells #[] t)).ownsRow w.heap.size t size (.slice (some ⟨w.heap.size, 0, none⟩) 0 0) 0 [] :=
 ⟨by simp, .inr ⟨w.heap.size, 0, #[], rfl, Nat.le_refl _, heap_alloc_new w _, Nat.le_refl _, Nat.zero_le _, by simp, by simp⟩⟩
theorem own_slice {w : World} {base : Nat} {e : TypeId} {size n : Nat} {v : Value} {xs : List Value} (h : w.ownsRow base e size v n xs) : ∃ A c, v = .slice A n c ∧ n ≤ c := by
 rcases h.2 with ⟨rfl, rfl⟩ | ⟨g, cap, cur, rfl, _, _, hc, _⟩
 ·exact ⟨none, 0, rfl, Nat.le_refl _⟩
 ·exact ⟨_, cap, rfl, hc⟩
def ClonePost (w : World) (e : TypeId) (n : Nat) (xs : List Value) (en : Ending) (w' : World) : Prop := ∃ A c, en = .returned (.slice A n c) ∧ n ≤ c ∧ w'.ownsRow w.heap.size e 1 (.slice A n c) n xs ∧ w.grownBy w' none
set_option maxHeartbeats 4000000 in
set_option maxRecDepth 100000 in
theorem cloneI_any (A : Option Addr) (c B : Nat) (l : List Int) (w : World) (h : Rd w B A (i64s l)) (hB : B ≤ w.heap.size) (hl : l.length ≤ 1200000000) :
  Calls Tryz.prog 82 #[.slice A l.length c] w (ClonePost w 2 l.length (i64s l)) := by
 have hq := fun (w : World) (A : Option Addr) (n c : Nat) => Lib.run_eql_slice_nil (P := Tryz.prog) w 22 2 A n c 0 0 Tryz.underlying22
 rcases A with _ | ad
 ·have hb : l = [] := by
   rcases l with _ | ⟨b, l⟩
   ·rfl
   ·obtain ⟨_, e, _⟩ := h (by simp [i64s]); cases e
  subst hb
  go_enter Tryz.func82, Tryz.ntmps82
  go_wp2
  go_ret
  exact ⟨_, _, rfl, Nat.le_refl _, ⟨rfl, .inl ⟨rfl, rfl⟩⟩, gb_refl _ _⟩
 ·have HO := hide (own_nil w 2 1)
  have HR := hide (h.alloc hB (.cells #[] 2))
  have HL1 : Hid ((i64s l).length = l.length * 1) := hide (by simp [i64s])
  have HOC := hide (i64s_one l)
  have HM1 : Hid (0 + l.length ≤ maxLen) := hide (by unfold maxLen; omega)
  have HMB : Hid ((0 + l.length) * 8 ≤ 140737488355328) := hide (by omega)
  have HBS : Hid (w.heap.size ≤ (w.alloc (.cells #[] 2)).heap.size) := hide (by simp)
  obtain ⟨i1, hi1, hiz, his, hib⟩ := info_parts Tryz.info64
  have HI1 := hide hi1
  have HIZ := hide hiz
  have HIS := hide his
  have HIB := hide hib
  clear h hl hi1 hiz his hib
  go_enter Tryz.func82, Tryz.ntmps82
  go_wp2_with (at_builtin; refine wpList_append_rd _ rfl (.tmp 5) (.tmp 6) 22 rfl w.heap.size 2 i1 (.int .i64 0) 1 8 Tryz.underlying22 HI1.out HIZ.out HIS.out HIB.out rfl (Nat.succ_pos 0) (.slice (some ⟨w.heap.size, 0, none⟩) 0 0) 0 [] rfl HO.out B (some ad) l.length c (i64s l) rfl HL1.out HR.out HOC.out HM1.out HMB.out HBS.out ?_; intro v5 w5 ho5 hg5 hb5; rw [Nat.zero_add, List.nil_append] at ho5; obtain ⟨A5, c5, rfl, hc5⟩ := own_slice ho5; have HO5 := hide ho5; have HG5 := hide hg5; clear ho5 hg5 hb5)
  go_ret
  exact ⟨A5, c5, rfl, hc5, HO5.out, gb_trans (gb_alloc (gb_refl w none) (.cells #[] 2)) HG5.out (.inr (.inr ⟨_, rfl, Nat.le_refl _⟩))⟩
set_option maxHeartbeats 4000000 in
set_option maxRecDepth 100000 in
theorem cloneS_any (A : Option Addr) (c B : Nat) (l : List ByteArray) (w : World) (h : Rd w B A (strs l)) (hB : B ≤ w.heap.size) (hl : l.length ≤ 1200000000) :
  Calls Tryz.prog 81 #[.slice A l.length c] w (ClonePost w 9 l.length (strs l)) := by
 have hq := fun (w : World) (A : Option Addr) (n c : Nat) => Lib.run_eql_slice_nil (P := Tryz.prog) w 23 9 A n c 0 0 Tryz.underlying23
 rcases A with _ | ad
 ·have hb : l = [] := by
   rcases l with _ | ⟨b, l⟩
   ·rfl
   ·obtain ⟨_, e, _⟩ := h (by simp [strs]); cases e
  subst hb
  go_enter Tryz.func81, Tryz.ntmps81
  go_wp2
  go_ret
  exact ⟨_, _, rfl, Nat.le_refl _, ⟨rfl, .inl ⟨rfl, rfl⟩⟩, gb_refl _ _⟩
 ·have HO := hide (own_nil w 9 1)
  have HR := hide (h.alloc hB (.cells #[] 9))
  have HL1 : Hid ((strs l).length = l.length * 1) := hide (by simp [strs])
  have HOC := hide (strs_one l)
  have HM1 : Hid (0 + l.length ≤ maxLen) := hide (by unfold maxLen; omega)
  have HMB : Hid ((0 + l.length) * 16 ≤ 140737488355328) := hide (by omega)
  have HBS : Hid (w.heap.size ≤ (w.alloc (.cells #[] 9)).heap.size) := hide (by simp)
  obtain ⟨i1, hi1, hiz, his, hib⟩ := info_parts Tryz.infoS
  have HI1 := hide hi1
  have HIZ := hide hiz
  have HIS := hide his
  have HIB := hide hib
  clear h hl hi1 hiz his hib
  go_enter Tryz.func81, Tryz.ntmps81
  go_wp2_with (at_builtin; refine wpList_append_rd _ rfl (.tmp 5) (.tmp 6) 23 rfl w.heap.size 9 i1 (.string ⟨#[]⟩) 1 16 Tryz.underlying23 HI1.out HIZ.out HIS.out HIB.out rfl (Nat.succ_pos 0) (.slice (some ⟨w.heap.size, 0, none⟩) 0 0) 0 [] rfl HO.out B (some ad) l.length c (strs l) rfl HL1.out HR.out HOC.out HM1.out HMB.out HBS.out ?_; intro v5 w5 ho5 hg5 hb5; rw [Nat.zero_add, List.nil_append] at ho5; obtain ⟨A5, c5, rfl, hc5⟩ := own_slice ho5; have HO5 := hide ho5; have HG5 := hide hg5; clear ho5 hg5 hb5)
  go_ret
  exact ⟨A5, c5, rfl, hc5, HO5.out, gb_trans (gb_alloc (gb_refl w none) (.cells #[] 9)) HG5.out (.inr (.inr ⟨_, rfl, Nat.le_refl _⟩))⟩
end Go.Proofs.YtbmgodmfpoappaaGreat
/- Values that nobody else has: their blocks. -/
namespace Go.Proofs.YtbmgodmfpoappaaGreat
open Go.RowKit
mutual
def VOw (w : World) : Vl → List Value → List Nat → Prop
 | .mk t n s l, cs, f => ∃ nA nc sA sc lA lc xs fn fs fl fp, cs = [.int .i64 t, .slice nA n.length nc, .slice sA s.length sc, .slice lA l.length lc] ∧ (n.length ≤ nc ∧ s.length ≤ sc ∧ l.length ≤ lc) ∧
   (Own w fn nA (i64s n) ∧ Own w fs sA (strs s) ∧ Own w fl lA (List.flatten xs)) ∧ VOwAll w l xs fp ∧ f = fn ++ (fs ++ (fl ++ fp))
def VOwAll (w : World) : List Vl → List (List Value) → List Nat → Prop
 | [], xs, f => xs = [] ∧ f = []
 | v :: r, xs, f => ∃ c q f1 f2, xs = c :: q ∧ f = f1 ++ f2 ∧ VOw w v c f1 ∧ VOwAll w r q f2
end
section
variable {w w' : World} {v : Vl} {l : List Vl} {cs : List Value} {xs : List (List Value)} {f : List Nat}
theorem VOw.parts (h : VOw w v cs f) : ∃ nA nc sA sc lA lc xs fn fs fl fp, cs = [.int .i64 v.t, .slice nA v.n.length nc, .slice sA v.s.length sc, .slice lA v.l.length lc] ∧ (v.n.length ≤ nc ∧ v.s.length ≤ sc ∧ v.l.length ≤ lc) ∧
   (Own w fn nA (i64s v.n) ∧ Own w fs sA (strs v.s) ∧ Own w fl lA (List.flatten xs)) ∧ VOwAll w v.l xs fp ∧ f = fn ++ (fs ++ (fl ++ fp)) := by
 cases v with
 | mk t n s l => exact h
theorem VOw.mk_ {nA nc sA sc lA lc xs fn fs fl fp} (h1 : v.n.length ≤ nc ∧ v.s.length ≤ sc ∧ v.l.length ≤ lc) (h2 : Own w fn nA (i64s v.n)) (h3 : Own w fs sA (strs v.s)) (h4 : Own w fl lA (List.flatten xs)) (h5 : VOwAll w v.l xs fp) :
  VOw w v [.int .i64 v.t, .slice nA v.n.length nc, .slice sA v.s.length sc, .slice lA v.l.length lc] (fn ++ (fs ++ (fl ++ fp))) := by
 cases v with
 | mk t n s l => exact ⟨nA, nc, sA, sc, lA, lc, xs, fn, fs, fl, fp, rfl, h1, ⟨h2, h3, h4⟩, h5, rfl⟩
theorem VOw.length4 (h : VOw w v cs f) : cs.length = 4 := by
 obtain ⟨_, _, _, _, _, _, _, _, _, _, _, rfl, _⟩ := h.parts
 rfl
theorem VOwAll.length (h : VOwAll w l xs f) : xs.length = l.length := by
 induction l generalizing xs f with
 | nil => obtain ⟨rfl, _⟩ := h; rfl
 | cons a r ih =>
  obtain ⟨c, q, f1, f2, rfl, rfl, _, h2⟩ := h
  simp [ih h2]
theorem VOwAll.all4 (h : VOwAll w l xs f) : ∀ c ∈ xs, c.length = 4 := by
 induction l generalizing xs f with
 | nil => obtain ⟨rfl, _⟩ := h; simp
 | cons a r ih =>
  obtain ⟨c, q, f1, f2, rfl, rfl, h1, h2⟩ := h
  intro d hd
  rcases List.mem_cons.1 hd with rfl | hd
  ·exact h1.length4
  ·exact ih h2 d hd
mutual
theorem VOw.at_ {B : Nat} : ∀ (v : Vl) (cs : List Value) (f : List Nat), VOw w v cs f → (∀ b ∈ f, b < B) → VAt w B v cs
 | .mk t n s l, cs, f, h, hB => by
  obtain ⟨nA, nc, sA, sc, lA, lc, xs, fn, fs, fl, fp, rfl, ⟨a1, a2, a3⟩, ⟨h2, h3, h4⟩, h5, rfl⟩ := h
  exact ⟨nA, nc, sA, sc, lA, lc, xs, rfl, a1, a2, a3, h2.rd fun b hb => hB b (by simp [hb]), h3.rd fun b hb => hB b (by simp [hb]), h4.rd fun b hb => hB b (by simp [hb]), VOwAll.at_ l xs fp h5 fun b hb => hB b (by simp [hb])⟩
theorem VOwAll.at_ {B : Nat} : ∀ (l : List Vl) (xs : List (List Value)) (f : List Nat), VOwAll w l xs f → (∀ b ∈ f, b < B) → VAll w B l xs
 | [], xs, f, h, _ => h.1
 | v :: r, xs, f, h, hB => by
  obtain ⟨c, q, f1, f2, rfl, rfl, h1, h2⟩ := h
  exact ⟨c, q, rfl, VOw.at_ v c f1 h1 fun b hb => hB b (by simp [hb]), VOwAll.at_ r q f2 h2 fun b hb => hB b (by simp [hb])⟩
end
mutual
theorem VOw.keep : ∀ (v : Vl) (cs : List Value) (f : List Nat), VOw w v cs f → (∀ b ∈ f, w'.heap[b]? = w.heap[b]?) → VOw w' v cs f
 | .mk t n s l, cs, f, h, hB => by
  obtain ⟨nA, nc, sA, sc, lA, lc, xs, fn, fs, fl, fp, rfl, a, ⟨h2, h3, h4⟩, h5, rfl⟩ := h
  exact ⟨nA, nc, sA, sc, lA, lc, xs, fn, fs, fl, fp, rfl, a, ⟨h2.keep fun b hb => hB b (by simp [hb]), h3.keep fun b hb => hB b (by simp [hb]), h4.keep fun b hb => hB b (by simp [hb])⟩, VOwAll.keep l xs fp h5 fun b hb => hB b (by simp [hb]), rfl⟩
theorem VOwAll.keep : ∀ (l : List Vl) (xs : List (List Value)) (f : List Nat), VOwAll w l xs f → (∀ b ∈ f, w'.heap[b]? = w.heap[b]?) → VOwAll w' l xs f
 | [], xs, f, h, _ => h
 | v :: r, xs, f, h, hB => by
  obtain ⟨c, q, f1, f2, rfl, rfl, h1, h2⟩ := h
  exact ⟨c, q, f1, f2, rfl, rfl, VOw.keep v c f1 h1 fun b hb => hB b (by simp [hb]), VOwAll.keep r q f2 h2 fun b hb => hB b (by simp [hb])⟩
end
mutual
theorem VOw.lt : ∀ (v : Vl) (cs : List Value) (f : List Nat), VOw w v cs f → ∀ b ∈ f, b < w.heap.size
 | .mk t n s l, cs, f, h => by
  obtain ⟨nA, nc, sA, sc, lA, lc, xs, fn, fs, fl, fp, rfl, a, ⟨h2, h3, h4⟩, h5, rfl⟩ := h
  intro b hb
  simp only [List.mem_append] at hb
  rcases hb with hb | hb | hb | hb
  ·exact h2.lt b hb
  ·exact h3.lt b hb
  ·exact h4.lt b hb
  ·exact VOwAll.lt l xs fp h5 b hb
theorem VOwAll.lt : ∀ (l : List Vl) (xs : List (List Value)) (f : List Nat), VOwAll w l xs f → ∀ b ∈ f, b < w.heap.size
 | [], xs, f, h => by rw [h.2]; simp
 | v :: r, xs, f, h => by
  obtain ⟨c, q, f1, f2, rfl, rfl, h1, h2⟩ := h
  intro b hb
  simp only [List.mem_append] at hb
  rcases hb with hb | hb
  ·exact VOw.lt v c f1 h1 b hb
  ·exact VOwAll.lt r q f2 h2 b hb
end
theorem VOwAll.snoc {c : List Value} {g : List Nat} : ∀ (l : List Vl) (xs : List (List Value)) (f : List Nat), VOwAll w l xs f → VOw w v c g → VOwAll w (l ++ [v]) (xs ++ [c]) (f ++ g)
 | [], xs, f, h, k => by
  obtain ⟨rfl, rfl⟩ := h
  exact ⟨c, [], g, [], rfl, by simp, k, rfl, rfl⟩
 | a :: r, xs, f, h, k => by
  obtain ⟨d, q, f1, f2, rfl, rfl, h1, h2⟩ := h
  exact ⟨d, q ++ [c], f1, f2 ++ g, rfl, by simp, h1, VOwAll.snoc r q f2 h2 k⟩
end
def New (w w' : World) (f : List Nat) : Prop := f.Nodup ∧ ∀ b ∈ f, w.heap.size ≤ b ∧ b < w'.heap.size
theorem New.nil_ (w w' : World) : New w w' [] := ⟨List.nodup_nil, by simp⟩
theorem New.more {a b c : World} {f : List Nat} (h : New a b f) (hbc : b.heap.size ≤ c.heap.size) : New a c f := ⟨h.1, fun x hx => by have := h.2 x hx; omega⟩
theorem New.less {a b c : World} {f : List Nat} (h : New b c f) (hab : a.heap.size ≤ b.heap.size) : New a c f := ⟨h.1, fun x hx => by have := h.2 x hx; omega⟩
theorem New.one {a b c : World} {f : List Nat} (h : ∀ x ∈ f, a.heap.size ≤ x ∧ x < b.heap.size) (h1 : f.length ≤ 1) (hbc : b.heap.size ≤ c.heap.size) : New a c f := by
 match f, h1 with
 | [], _ => exact New.nil_ a c
 | [x], _ => exact ⟨by simp, fun y hy => by have := h y hy; omega⟩
theorem Own.len {w : World} {f : List Nat} {A : Option Addr} {xs : List Value} (h : Own w f A xs) : f.length ≤ 1 := by
 rcases h with ⟨_, rfl⟩ | ⟨b, t, cur, rfl, _⟩ <;> simp
/-! ## four cells are stored -/
theorem four_cells {w : World} {g i : Nat} {cur : Array Value} {t : TypeId} (h : w.heap[g]? = some (.cells cur t (0, 0))) (hi : i + 4 ≤ cur.size) :
  ∃ u0 u1 u2 u3, C4 w g i u0 u1 u2 u3 :=
 ⟨cur[i], cur[i + 1], cur[i + 2], cur[i + 3], by rw [blk_cell h]; simp, by rw [blk_cell h]; simp, by rw [blk_cell h]; simp, by rw [blk_cell h]; simp⟩
def put4 (w : World) (g i : Nat) (c0 c1 c2 c3 : Value) : World := (((w.setCell ⟨g, i, none⟩ c0).setCell ⟨g, i + 1, none⟩ c1).setCell ⟨g, i + 2, none⟩ c2).setCell ⟨g, i + 3, none⟩ c3
theorem put4_blk {w : World} {g i : Nat} {cur : Array Value} {t : TypeId} (h : w.heap[g]? = some (.cells cur t (0, 0))) (c0 c1 c2 c3 : Value) :
  (put4 w g i c0 c1 c2 c3).heap[g]? = some (.cells ((((cur.setIfInBounds i c0).setIfInBounds (i + 1) c1).setIfInBounds (i + 2) c2).setIfInBounds (i + 3) c3) t (0, 0)) :=
 blk_set (blk_set (blk_set (blk_set h i c0) (i + 1) c1) (i + 2) c2) (i + 3) c3
theorem put4_gb (w : World) (g i : Nat) (c0 c1 c2 c3 : Value) : w.grownBy (put4 w g i c0 c1 c2 c3) (some g) :=
 gb_setCell (gb_setCell (gb_setCell (gb_setCell (gb_refl w (some g)) (.inl rfl) c0) (.inl rfl) c1) (.inl rfl) c2) (.inl rfl) c3
theorem put4_size (w : World) (g i : Nat) (c0 c1 c2 c3 : Value) : (put4 w g i c0 c1 c2 c3).heap.size = w.heap.size := by simp [put4, World.setCell]
theorem put4_take (cur : Array Value) (i : Nat) (hi : i + 4 ≤ cur.size) (c0 c1 c2 c3 : Value) :
  ((((cur.setIfInBounds i c0).setIfInBounds (i + 1) c1).setIfInBounds (i + 2) c2).setIfInBounds (i + 3) c3).toList.take (i + 4) = cur.toList.take i ++ [c0, c1, c2, c3] := by
 apply List.ext_getElem?
 intro k
 by_cases hk : k < i + 4
 ·rw [List.getElem?_take, if_pos hk]
  simp only [Array.toList_setIfInBounds, List.getElem?_set, Array.length_toList, List.length_set]
  by_cases h0 : k < i
  ·rw [List.getElem?_append_left (by simp; omega), List.getElem?_take, if_pos h0]
   rw [if_neg (by omega), if_neg (by omega), if_neg (by omega), if_neg (by omega)]
  ·have hl : (cur.toList.take i).length = i := by simp; omega
   rw [List.getElem?_append_right (by omega), hl]
   have : k = i ∨ k = i + 1 ∨ k = i + 2 ∨ k = i + 3 := by omega
   rcases this with rfl | rfl | rfl | rfl
   ·rw [if_neg (by omega), if_neg (by omega), if_neg (by omega), if_pos rfl, if_pos (by omega)]; simp
   ·rw [if_neg (by omega), if_neg (by omega), if_pos rfl, if_pos (by omega)]; simp
   ·rw [if_neg (by omega), if_pos rfl, if_pos (by omega)]; simp
   ·rw [if_pos rfl, if_pos (by omega)]; simp
 ·rw [List.getElem?_take, if_neg hk, List.getElem?_append_right (by simp; omega)]
  have hl : (cur.toList.take i).length = i := by simp; omega
  rw [hl]
  symm
  apply List.getElem?_eq_none
  simp; omega
end Go.Proofs.YtbmgodmfpoappaaGreat
