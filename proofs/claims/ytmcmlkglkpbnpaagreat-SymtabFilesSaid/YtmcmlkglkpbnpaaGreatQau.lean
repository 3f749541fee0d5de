/-
  Bytes, writes and files in memory; the contracts of slices.Clone at bytes, of file.settle.
-/
import Derived.Test.YtmcmlkglkpbnpaaGreatQat
import Derived.StillTailTactics
namespace Go.Proofs.YtmcmlkglkpbnpaaGreat
open Go.RowKit
theorem Tryz.info8 : (Tryz.prog.info? 5).map (fun i => (i.zero, i.size, i.bytes)) = some (some (.int .u8 0), 1, 1) := by kernel_rfl
def BsAt (w : World) (own : Nat → Prop) (v : Value) (xs : List UInt8) : Prop :=
 (xs = [] ∧ ∃ A, v = .slice A 0 0) ∨
 (0 < xs.length ∧ ∃ g cap cur, v = .slice (some ⟨g, 0, none⟩) xs.length cap ∧ own g ∧ w.heap[g]? = some (.cells cur 5 (0, 0)) ∧ xs.length ≤ cap ∧ cap ≤ cur.size ∧ cur.size ≤ maxLen ∧ (cap = cur.size ∨ cap = xs.length) ∧ cur.toList.take xs.length = u8s xs)
def Sep (vb : Value) (nb : Nat) (vs : Value) (ns : Nat) (sh : Bool) : Prop :=
 ∀ g, vb.ownBlock = some g → vs.ownBlock = some g → 0 < ns → sh = true ∧ (ns ≤ nb ∨ ∃ A, vb = .slice A nb nb)
def Keeps (w w' : World) (v : Value) (n : Nat) (sh : Bool) (v' : Value) (n' : Nat) (sh' : Bool) : Prop :=
 ∀ (own : Nat → Prop) (vs : Value) (xs : List UInt8), BsAt w own vs xs → Sep v n vs xs.length sh → BsAt w' own vs xs ∧ Sep v' n' vs xs.length sh'
section
variable {w w' : World} {own own' : Nat → Prop} {v : Value} {xs : List UInt8}
theorem BsAt.nil_ : BsAt w own (.slice none 0 0) [] := .inl ⟨rfl, _, rfl⟩
theorem BsAt.mono (h : BsAt w own v xs) (ho : ∀ g, own g → own' g) : BsAt w own' v xs := by
 rcases h with h | ⟨h0, g, cap, cur, h1, h2, h3⟩
 ·exact .inl h
 ·exact .inr ⟨h0, g, cap, cur, h1, ho g h2, h3⟩
theorem BsAt.keep (h : BsAt w own v xs) (hk : ∀ g, own g → g < w.heap.size → w'.heap[g]? = w.heap[g]?) : BsAt w' own v xs := by
 rcases h with h | ⟨h0, g, cap, cur, h1, h2, h3, h4⟩
 ·exact .inl h
 ·exact .inr ⟨h0, g, cap, cur, h1, h2, (hk g h2 (blk_lt h3)).trans h3, h4⟩
theorem BsAt.form (h : BsAt w own v xs) : ∃ A c, v = .slice A xs.length c ∧ xs.length ≤ c ∧ c ≤ maxLen := by
 rcases h with ⟨rfl, A, rfl⟩ | ⟨_, g, cap, cur, rfl, h2, h3, h4, h5, h6, _⟩
 ·exact ⟨A, 0, rfl, Nat.le_refl _, Nat.zero_le _⟩
 ·exact ⟨_, cap, rfl, h4, by omega⟩
theorem BsAt.rd (h : BsAt w own v xs) : ∃ A c, v = .slice A xs.length c ∧ xs.length ≤ c ∧ c ≤ maxLen ∧ Rd w w.heap.size A (u8s xs) := by
 rcases h with ⟨rfl, A, rfl⟩ | ⟨_, g, cap, cur, rfl, h2, h3, h4, h5, h6, _, h7⟩
 ·exact ⟨A, 0, rfl, Nat.le_refl _, Nat.zero_le _, Rd.nil_⟩
 ·refine ⟨_, cap, rfl, h4, by omega, fun _ => ⟨_, rfl, blk_lt h3, fun j u hu => ?_⟩⟩
  have e : (⟨g, 0, none⟩ : Addr).add j = ⟨g, j, none⟩ := by unfold Addr.add; split <;> simp_all
  have hj : j < xs.length := by have := (List.getElem?_eq_some_iff.1 hu).1; rwa [u8s_length] at this
  rw [e, blk_cell h3, ← hu, ← h7, List.getElem?_take, if_pos hj]
  simp
theorem BsAt.lt (h : BsAt w own v xs) (h0 : 0 < xs.length) : ∃ g, v.ownBlock = some g ∧ g < w.heap.size := by
 rcases h with ⟨rfl, _⟩ | ⟨_, g, cap, cur, rfl, _, h3, _⟩
 ·simp at h0
 ·exact ⟨g, rfl, blk_lt h3⟩
theorem BsAt.fresh {cur : Array Value} {n : Nat} {g : Nat} (ho : own g) (hg : w.heap[g]? = some (.cells cur 5 (0, 0))) (hn : n = xs.length) (h1 : xs.length ≤ cur.size) (h2 : cur.size ≤ maxLen) (h0 : 0 < xs.length) (h3 : cur.toList.take xs.length = u8s xs) :
  BsAt w own (.slice (some ⟨g, 0, none⟩) n cur.size) xs := by
 subst hn
 exact .inr ⟨h0, g, cur.size, cur, rfl, ho, hg, h1, Nat.le_refl _, h2, .inl rfl, h3⟩
theorem Keeps.trans {a b c : World} {v1 v2 v3 : Value} {n1 n2 n3 : Nat} {s1 s2 s3 : Bool} (h : Keeps a b v1 n1 s1 v2 n2 s2) (k : Keeps b c v2 n2 s2 v3 n3 s3) : Keeps a c v1 n1 s1 v3 n3 s3 :=
 fun own vs xs hb hs => k own vs xs (h own vs xs hb hs).1 (h own vs xs hb hs).2
theorem Keeps.grown {v' : Value} {n n' : Nat} {sh sh' : Bool} (hg : w.grownBy w' none) (hv : ∀ g, v'.ownBlock = some g → w.heap.size ≤ g) : Keeps w w' v n sh v' n' sh' :=
 fun own vs xs hb _ => ⟨hb.keep fun g _ hlt => hg.block g hlt (by simp), fun g h1 h2 h0 => by
  obtain ⟨g', e, hlt⟩ := hb.lt h0
  rw [e] at h2
  injection h2 with h2
  have := hv g h1
  omega⟩
theorem Keeps.same {n : Nat} {sh : Bool} (hg : w.grownBy w' none) : Keeps w w' v n sh v n sh :=
 fun own vs xs hb hs => ⟨hb.keep fun g _ hlt => hg.block g hlt (by simp), hs⟩
theorem Keeps.cell {n : Nat} {sh : Bool} {g : Nat} {cs : Array Value} {t : TypeId} (hg : w.grownBy w' (some g)) (hh : w.heap[g]? = some (.cells cs t (0, 0))) (ht : t ≠ 5) : Keeps w w' v n sh v n sh :=
 fun own vs xs hb hs => ⟨by
  rcases hb with h | ⟨h0, g', cap, cur, h1, h2, h3, h4⟩
  ·exact .inl h
  ·refine .inr ⟨h0, g', cap, cur, h1, h2, (hg.block g' (blk_lt h3) (fun e => ?_)).trans h3, h4⟩
   injection e with e
   subst e
   rw [h3] at hh
   injection hh with hh
   injection hh with _ hh
   exact ht hh.symm, hs⟩
end
theorem take_u8s {l : List Value} {n m : Nat} {xs : List UInt8} (h : l.take n = u8s xs) (hm : m ≤ n) : l.take m = u8s (xs.take m) := by
 rw [← u8s_take, ← h, List.take_take, Nat.min_eq_left hm]
theorem run_append_bs {w : World} {own : Nat → Prop} {v : Value} {xs bs : List UInt8} {A : Option Addr} {B c : Nat} (ty : TypeId) (h : BsAt w own v xs) (hr : Rd w B A (u8s bs)) (hl : xs.length + bs.length ≤ 1000000000) :
  ∃ v' w', (Builtin.append_ #[49, 49] ty #[v, .slice A bs.length c]).run Tryz.prog w = .ok v' w' ∧ BsAt w' (fun i => own i ∨ i = w.heap.size) v' (xs ++ bs) ∧ w.grownBy w' (if xs = [] then none else v.ownBlock) ∧
   (∀ sh, Keeps w w' v xs.length sh v' (xs ++ bs).length sh) ∧ (v' = v ∧ bs = [] ∨ v'.ownBlock = v.ownBlock ∧ xs ≠ [] ∨ v'.ownBlock = some w.heap.size) := by
 obtain ⟨i0, hi, hz0, hz1, hz2⟩ := info_parts Tryz.info8
 have hmx : maxLen = 9223372036854775807 := rfl
 rcases Nat.eq_zero_or_pos bs.length with hb0 | hb0
 ·have hb : bs = [] := List.eq_nil_of_length_eq_zero hb0
  subst hb
  obtain ⟨A0, c0, hv, hnc, _⟩ := h.form
  refine ⟨v, w, ?_, by rw [List.append_nil]; exact h.mono fun g hg => .inl hg, gb_refl w _, fun sh => by rw [List.append_nil]; exact Keeps.same (gb_refl w _), .inl ⟨rfl, rfl⟩⟩
  subst hv
  cases A <;> cases A0 <;> simp [Builtin.append_, run_underlying Tryz.underlying49, sizeOf, typeInfo, hi, Builtin.lenOf, Builtin.firstCells, hnc, storeCells, loadCells, loadCellsFrom]
 ·obtain ⟨ad, rfl, _, hc⟩ := hr (u8s_ne (by rintro rfl; simp at hb0))
  have hnews : (u8s bs).length = bs.length * i0.size := by rw [u8s_length, hz1, Nat.mul_one]
  have grow : ∀ (b : Addr) (n cap : Nat), xs.length = n → cap < n + bs.length → (∀ j u, (u8s xs)[j]? = some u → w.cell? (b.add j) = some u) → v = .slice (some b) n cap →
    ∃ v' w', (Builtin.append_ #[49, 49] ty #[v, .slice (some ad) bs.length c]).run Tryz.prog w = .ok v' w' ∧ BsAt w' (fun i => own i ∨ i = w.heap.size) v' (xs ++ bs) ∧ w.grownBy w' (if xs = [] then none else v.ownBlock) ∧
    (∀ sh, Keeps w w' v xs.length sh v' (xs ++ bs).length sh) ∧ (v' = v ∧ bs = [] ∨ v'.ownBlock = v.ownBlock ∧ xs ≠ [] ∨ v'.ownBlock = some w.heap.size) := by
   intro b n cap hn hlt holds hv
   subst hv
   have hgrow := run_append_grow (P := Tryz.prog) w 49 ty 5 i0 (.int .u8 0) Tryz.underlying49 hi hz0 b n cap (u8s xs) (by rw [u8s_length, hz1, Nat.mul_one]; exact hn) holds ad bs.length c (u8s bs) hnews hc hlt (by omega) (growslice_fits (by omega) (by rw [hz2]; omega))
   have hcm : grownCap w (n + bs.length) cap 5 ≤ maxLen := grownCap_le_maxLen w _ _ _ (by rw [hmx]; omega)
   have hge := grownCap_ge w (n + bs.length) cap 5
   have hg0 : w.grownBy (w.drew.alloc (.cells ((u8s xs).toArray ++ (u8s bs).toArray ++ Builtin.zeroCells (Value.int .u8 0).cells (grownCap w (n + bs.length) cap 5 - (n + bs.length))) 5)) none := gb_alloc (gb_drew (gb_refl w none)) _
   have hnew := heap_alloc_new w.drew (.cells ((u8s xs).toArray ++ (u8s bs).toArray ++ Builtin.zeroCells (Value.int .u8 0).cells (grownCap w (n + bs.length) cap 5 - (n + bs.length))) 5)
   refine ⟨_, _, hgrow, ?_, gb_some hg0 _, fun sh => Keeps.grown hg0 (fun g hg => by injection hg with hg; exact Nat.le_of_eq hg), .inr (.inr rfl)⟩
   generalize grownCap w (n + bs.length) cap 5 = gc at *
   have hsz : ((u8s xs).toArray ++ (u8s bs).toArray ++ Builtin.zeroCells (Value.int .u8 0).cells (gc - (n + bs.length))).size = gc := by
    simp only [Array.size_append, List.size_toArray, u8s_length, size_zeroCells]
    simp [Value.cells]
    omega
   have hlen : (xs ++ bs).length = n + bs.length := by rw [List.length_append, hn]
   have hbs := BsAt.fresh (own := fun i => own i ∨ i = w.heap.size) (n := n + bs.length) (xs := xs ++ bs) (.inr rfl) hnew hlen.symm (by rw [hsz, hlen]; exact hge) (by rw [hsz]; exact hcm) (by omega) (by
    rw [Array.toList_append, Array.toList_append, List.take_append_of_le_length (by simp [u8s_length]), List.take_of_length_le (by simp [u8s_length]), u8s_append])
   rw [hsz] at hbs
   exact hbs
  rcases h with ⟨rfl, A0, rfl⟩ | ⟨h0, g, cap, cur, rfl, ho, hg, hnc, hcc, hcm, hfull, htk⟩
  ·rcases A0 with _ | b
   ·have hown : w.ownsRow w.heap.size 5 1 (.slice none 0 0) 0 [] := ⟨rfl, .inl ⟨rfl, rfl⟩⟩
    obtain ⟨v', w', hrun, h2, h3, h4⟩ := run_append_rd (P := Tryz.prog) w w.heap.size 49 ty 5 i0 _ 1 1 Tryz.underlying49 hi hz0 hz1 hz2 rfl (by decide) (.slice none 0 0) 0 [] hown B (some ad) bs.length c (u8s bs) (by rw [u8s_length, Nat.mul_one]) (fun _ => ⟨ad, rfl, ‹_›, hc⟩) (u8s_cell bs) (by rw [hmx]; omega) (by omega) (Nat.le_refl _)
    rw [Nat.zero_add] at h2
    rcases h2.2 with ⟨_, e⟩ | ⟨g, cap, cur, rfl, hge, hg, hnc, hcm, hcs, htk⟩
    ·omega
    ·rw [Nat.mul_one] at hcs htk
     have hgw : g = w.heap.size := by
      rcases h4 with h4 | h4
      ·cases h4
      ·injection h4
     refine ⟨_, w', hrun, .inr ⟨by simpa using hb0, g, cap, cur, rfl, .inr hgw, hg, by simpa using hnc, by omega, by omega, .inl hcs.symm, by simpa using htk⟩, h3, fun sh => Keeps.grown h3 (fun g' e => by injection e with e; have e' : g = g' := e; omega), .inr (.inr (by rw [hgw]; rfl))⟩
   ·exact grow b 0 0 rfl (by omega) (by simp [u8s]) rfl
  ·by_cases hroom : xs.length + bs.length ≤ cap
   ·have hcs : cap = cur.size := by omega
    have hfit : xs.length * i0.size + (u8s bs).length ≤ cur.size := by rw [hz1, Nat.mul_one, u8s_length]; omega
    have hrm := run_append_room (P := Tryz.prog) w 49 ty 5 i0 Tryz.underlying49 hi g xs.length cap cur hg ad bs.length c (u8s bs) hnews hc (u8s_cell bs) hroom hfit
    rw [hz1, Nat.mul_one] at hrm
    have hset := setRow_heap w g cur (cur.toList.take xs.length ++ u8s bs ++ cur.toList.drop (xs.length + (u8s bs).length)).toArray 5 (0, 0) hg
    have hoth := fun k hk => setRow_other w g k (cur.toList.take xs.length ++ u8s bs ++ cur.toList.drop (xs.length + (u8s bs).length)).toArray hk
    have hgb : w.grownBy (w.setRow g (cur.toList.take xs.length ++ u8s bs ++ cur.toList.drop (xs.length + (u8s bs).length)).toArray) (some g) := ⟨rfl, rfl, rfl, by simp [World.setRow], fun k _ hk => hoth k (fun e => hk (by rw [e]))⟩
    have hsz : (cur.toList.take xs.length ++ u8s bs ++ cur.toList.drop (xs.length + (u8s bs).length)).toArray.size = cur.size := by
     simp [u8s_length]; omega
    have htk' : (cur.toList.take xs.length ++ u8s bs ++ cur.toList.drop (xs.length + (u8s bs).length)).take (xs ++ bs).length = u8s (xs ++ bs) := by
     rw [List.take_append_of_le_length (by simp [u8s_length]; omega), List.take_of_length_le (by simp [u8s_length]; omega), htk, u8s_append]
    refine ⟨_, _, hrm, .inr ⟨by simp; omega, g, cap, _, by rw [List.length_append], .inl ho, hset, by rw [List.length_append]; exact hroom, by rw [hsz]; omega, by rw [hsz]; exact hcm, .inl (by rw [hsz]; exact hcs), htk'⟩, by rw [if_neg (by rintro rfl; simp at h0)]; exact hgb, fun sh => ?_, .inr (.inl ⟨rfl, by rintro rfl; simp at h0⟩)⟩
    intro own2 vs ys hb hs
    rcases hb with h | ⟨h0', g', cap', cur', rfl, ho', hg', hnc', hcc', hcm', hfull', htk2⟩
    ·exact ⟨.inl h, fun g1 _ _ h3 => by rw [h.1] at h3; simp at h3⟩
    ·by_cases hgg : g' = g
     ·subst hgg
      rw [hg] at hg'
      injection hg' with hg'
      injection hg' with hg'
      subst hg'
      obtain ⟨hsh, hle⟩ := hs g' rfl rfl h0'
      have hle' : ys.length ≤ xs.length := by
       rcases hle with h | ⟨A1, e⟩
       ·exact h
       ·injection e with _ _ e3; omega
      refine ⟨.inr ⟨h0', g', cap', _, rfl, ho', hset, hnc', by rw [hsz]; exact hcc', by rw [hsz]; exact hcm', by rw [hsz]; exact hfull', ?_⟩, fun g1 h1 h2 _ => ⟨hsh, .inl (by rw [List.length_append]; omega)⟩⟩
      show ((cur.toList.take xs.length ++ u8s bs ++ cur.toList.drop (xs.length + (u8s bs).length))).take ys.length = u8s ys
      rw [List.append_assoc, List.take_append_of_le_length (by simp; omega), List.take_take, Nat.min_eq_left hle', htk2]
     ·exact ⟨.inr ⟨h0', g', cap', cur', rfl, ho', (hoth g' hgg).trans hg', hnc', hcc', hcm', hfull', htk2⟩, fun g1 h1 h2 _ => by
       injection h1 with h1
       injection h2 with h2
       exact absurd (h2.trans h1.symm) hgg⟩
   ·exact grow ⟨g, 0, none⟩ xs.length cap rfl (by omega) (fun j u hu => by
     have e : (⟨g, 0, none⟩ : Addr).add j = ⟨g, j, none⟩ := by unfold Addr.add; split <;> simp_all
     have hj : j < xs.length := by have := (List.getElem?_eq_some_iff.1 hu).1; rwa [u8s_length] at this
     rw [e, blk_cell hg, ← hu, ← htk, List.getElem?_take, if_pos hj]
     simp) rfl
set_option maxRecDepth 100000 in
theorem wpList_append_bs {w : World} {ops : Array Oper} {rest : List Oper} {o : Oper} {a : Act} {Q : Exit → Act → World → Prop} (hgd : o.guard = none) (s x : Operand)
  (ho : o.op = .call { callee := .builtin .append, args := #[s, x], argTypes := #[49, 49] })
  {own : Nat → Prop} {v : Value} {xs bs : List UInt8} {A : Option Addr} {B c n : Nat} (hs : a.eval s = v) (hx : a.eval x = .slice A n c) (h : BsAt w own v xs) (hr : Rd w B A (u8s bs)) (hn : n = bs.length) (hl : xs.length + bs.length ≤ 1000000000)
  (hK : ∀ A' n' c' w', n' = (xs ++ bs).length → BsAt w' (fun i => own i ∨ i = w.heap.size) (.slice A' n' c') (xs ++ bs) → w.grownBy w' (if xs = [] then none else v.ownBlock) → (∀ sh, Keeps w w' v xs.length sh (.slice A' n' c') (xs ++ bs).length sh) →
   ((.slice A' n' c') = v ∧ bs = [] ∨ (Value.slice A' n' c').ownBlock = v.ownBlock ∧ xs ≠ [] ∨ (Value.slice A' n' c').ownBlock = some w.heap.size) → wpList Tryz.prog ops Q rest (a.put o.dst (.slice A' n' c')) w') : wpList Tryz.prog ops Q (o :: rest) a w := by
 subst hn
 obtain ⟨v', w', hrun, h1, h2, h3, h4⟩ := run_append_bs o.type h hr hl
 obtain ⟨A', c', rfl, _⟩ := h1.form
 refine wpList_plain hgd fun K' hK' => ?_
 unfold Oper.wp execOp
 simp only [ho, resolve, invoke, builtin, Sem.run_bind, Sem.run_pure, Result.andThen_ok, List.map_toArray, List.map_cons, List.map_nil, hs, hx]
 rw [hrun]
 exact hK' _ _ (hK A' _ c' w' rfl h1 h2 h3 h4)
set_option maxHeartbeats 1000000 in
set_option maxRecDepth 100000 in
theorem clone8_any (A : Option Addr) (n c B : Nat) (bs : List UInt8) (w : World) (hr : Rd w B A (u8s bs)) (hn : n = bs.length) (hB : B ≤ w.heap.size) (hl : bs.length ≤ 1000000000) :
  Calls Tryz.prog 76 #[.slice A n c] w fun e w' => ∃ A' c', e = .returned (.slice A' n c') ∧ BsAt w' (fun i => w.heap.size ≤ i ∧ i < w'.heap.size) (.slice A' n c') bs ∧ w.grownBy w' none := by
 have hq := fun (w : World) (A : Option Addr) (n c : Nat) => Lib.run_eql_slice_nil (P := Tryz.prog) w 49 5 A n c 0 0 Tryz.underlying49
 rcases A with _ | ad
 ·have hb : bs = [] := by
   rcases bs with _ | ⟨b, bs⟩
   ·rfl
   ·obtain ⟨_, e, _⟩ := hr (by simp [u8s]); cases e
  subst hb
  subst hn
  go_enter Tryz.func76, Tryz.ntmps76
  go_wp2
  go_ret
  exact ⟨_, _, rfl, .inl ⟨rfl, _, rfl⟩, gb_refl _ _⟩
 ·have hown : BsAt (w.alloc (.cells #[] 5)) (fun i => i = w.heap.size) (.slice (some ⟨w.heap.size, 0, none⟩) 0 0) [] := .inl ⟨rfl, _, rfl⟩
  have hr' := (hr.alloc hB (.cells #[] 5))
  have HO := hide hown
  have HR := hide hr'
  have HN := hide hn
  clear hown hr' hr hn
  go_enter Tryz.func76, Tryz.ntmps76
  go_wp2_with (at_builtin; refine wpList_append_bs rfl (.tmp 5) (.tmp 6) rfl rfl rfl HO.out HR.out HN.out (by simp; omega) ?_; intro A1 n1 c1 w1 hn1 hb1 hg1 hk1 hat1; have HN1 := hide hn1; clear hn1 hk1 hat1)
  go_ret
  have hg2 : w.grownBy w1 none := gb_trans (gb_alloc (gb_refl w none) (.cells #[] 5)) hg1 (.inr (.inl rfl))
  have hnn : n1 = n := by rw [HN1.out, HN.out]; simp
  subst hnn
  rw [List.nil_append] at hb1
  refine ⟨A1, c1, rfl, ?_, hg2⟩
  rcases hb1 with h | ⟨h0, g, cap, cur, h1, h2, h3, h4⟩
  ·exact .inl h
  ·refine .inr ⟨h0, g, cap, cur, h1, ⟨?_, blk_lt h3⟩, h3, h4⟩
   rcases h2 with h2 | h2
   ·exact Nat.le_of_eq h2.symm
   ·rw [h2]; simp
set_option maxRecDepth 100000 in
theorem run_copy_bs {w : World} {own : Nat → Prop} {g cap dCap : Nat} {xs bs : List UInt8} {A : Option Addr} {B c k : Nat} (ty : TypeId) (h : BsAt w own (.slice (some ⟨g, 0, none⟩) xs.length cap) xs) (h0 : 0 < xs.length) (hr : Rd w B A (u8s bs)) (hk : k + bs.length ≤ xs.length) (hb0 : 0 < bs.length) :
  ∃ w', (Builtin.copy_ #[49, 49] ty #[.slice (some ⟨g, k, none⟩) (xs.length - k) dCap, .slice A bs.length c]).run Tryz.prog w = .ok (goInt bs.length) w' ∧
   BsAt w' own (.slice (some ⟨g, 0, none⟩) xs.length cap) (xs.take k ++ bs ++ xs.drop (k + bs.length)) ∧ w.grownBy w' (some g) ∧ w'.heap.size = w.heap.size ∧
   Keeps w w' (.slice (some ⟨g, 0, none⟩) xs.length cap) xs.length false (.slice (some ⟨g, 0, none⟩) xs.length cap) xs.length false := by
 obtain ⟨ad, rfl, _, hc⟩ := hr (u8s_ne (by rintro rfl; simp at hb0))
 rcases h with ⟨rfl, _⟩ | ⟨_, g', cap', cur, e, ho, hg, hnc, hcc, hcm, hfull, htk⟩
 ·simp at h0
 injection e with e1 e2 e3
 injection e1 with e1
 injection e1 with e1
 subst e1
 subst e3
 have hlc : (u8s bs).length = Nat.min bs.length (xs.length - k) := by rw [u8s_length]; show _ = min _ _; omega
 have hrun := run_copy_row (P := Tryz.prog) w 49 49 ty 5 g k (xs.length - k) dCap ad bs.length c cur 5 (u8s bs) Tryz.underlying49 (by kernel_rfl) hg hlc hc (by rw [u8s_length]; omega) (u8s_cell bs)
 rw [u8s_length] at hrun
 have hset := setRow_heap w g cur (cur.toList.take k ++ u8s bs ++ cur.toList.drop (k + bs.length)).toArray 5 (0, 0) hg
 have hoth := fun i hi => setRow_other w g i (cur.toList.take k ++ u8s bs ++ cur.toList.drop (k + bs.length)).toArray hi
 have hgb : w.grownBy (w.setRow g (cur.toList.take k ++ u8s bs ++ cur.toList.drop (k + bs.length)).toArray) (some g) := ⟨rfl, rfl, rfl, by simp [World.setRow], fun i _ hi => hoth i (fun e => hi (by rw [e]))⟩
 have hsz : (cur.toList.take k ++ u8s bs ++ cur.toList.drop (k + bs.length)).toArray.size = cur.size := by simp [u8s_length]; omega
 have hlen : (xs.take k ++ bs ++ xs.drop (k + bs.length)).length = xs.length := by simp; omega
 have hcut : cur.toList.take xs.length = u8s xs := htk
 have htk' : (cur.toList.take k ++ u8s bs ++ cur.toList.drop (k + bs.length)).take xs.length = u8s (xs.take k ++ bs ++ xs.drop (k + bs.length)) := by
  have e1 : cur.toList.take k = u8s (xs.take k) := take_u8s hcut (by omega)
  have e2 : (cur.toList.drop (k + bs.length)).take (xs.length - (k + bs.length)) = u8s (xs.drop (k + bs.length)) := by
   rw [← u8s_drop, ← hcut, List.take_drop]
   congr 2
   omega
  rw [e1, List.take_append]
  have e3 : (u8s (xs.take k) ++ u8s bs).length = k + bs.length := by simp [u8s_length]; omega
  rw [List.take_of_length_le (by omega), e3, e2, u8s_append, u8s_append]
 refine ⟨_, hrun, .inr ⟨by omega, g, cap, _, by rw [hlen], ho, hset, by omega, by rw [hsz]; exact hcc, by rw [hsz]; exact hcm, by rw [hsz, hlen]; exact hfull, by rw [hlen]; exact htk'⟩, hgb, by simp [World.setRow], ?_⟩
 intro own2 vs ys hb hs
 rcases hb with h | ⟨h0', g', cap', cur', rfl, ho', hg', h4⟩
 ·exact ⟨.inl h, hs⟩
 ·have hgg : g' ≠ g := fun e => by
   have := (hs g rfl (by rw [e]; rfl) h0').1
   cases this
  exact ⟨.inr ⟨h0', g', cap', cur', rfl, ho', (hoth g' hgg).trans hg', h4⟩, hs⟩
structure FlV where
 gone : Bool
 vb : Value
 vs : Value
 shared : Bool
 vw : Value
def FlV.cells (v : FlV) : Array Value := #[.bool v.gone, v.vb, v.vs, .bool v.shared, v.vw]
def FlB (w : World) (g : Nat) (v : FlV) : Prop := w.heap[g]? = some (.cells v.cells 100 (0, 0))
section
variable {w w' : World} {g : Nat} {v : FlV}
theorem FlB.lt (h : FlB w g v) : g < w.heap.size := blk_lt h
theorem FlB.keep (h : FlB w g v) (hk : w'.heap[g]? = w.heap[g]?) : FlB w' g v := hk.trans h
theorem FlB.c0 (h : FlB w g v) : w.cell? ⟨g, 0, none⟩ = some (.bool v.gone) := blk_cell h 0
theorem FlB.c1 (h : FlB w g v) : w.cell? ⟨g, 1, none⟩ = some v.vb := blk_cell h 1
theorem FlB.c2 (h : FlB w g v) : w.cell? ⟨g, 2, none⟩ = some v.vs := blk_cell h 2
theorem FlB.c3 (h : FlB w g v) : w.cell? ⟨g, 3, none⟩ = some (.bool v.shared) := blk_cell h 3
theorem FlB.c4 (h : FlB w g v) : w.cell? ⟨g, 4, none⟩ = some v.vw := blk_cell h 4
theorem FlB.fr (h : FlB w g v) (i : Nat) : w.frozen? ⟨g, i, none⟩ = false := blk_frozen h i
theorem FlB.set_ {v' : FlV} (h : FlB w g v) (i : Nat) (u : Value) (e : v.cells.setIfInBounds i u = v'.cells) : FlB (w.setCell ⟨g, i, none⟩ u) g v' := by
 have := blk_set h i u
 rw [e] at this
 exact this
theorem FlB.set0 (h : FlB w g v) (x : Bool) : FlB (w.setCell ⟨g, 0, none⟩ (.bool x)) g { v with gone := x } := h.set_ 0 _ rfl
theorem FlB.set1 (h : FlB w g v) (x : Value) : FlB (w.setCell ⟨g, 1, none⟩ x) g { v with vb := x } := h.set_ 1 _ rfl
theorem FlB.set2 (h : FlB w g v) (x : Value) : FlB (w.setCell ⟨g, 2, none⟩ x) g { v with vs := x } := h.set_ 2 _ rfl
theorem FlB.set3 (h : FlB w g v) (x : Bool) : FlB (w.setCell ⟨g, 3, none⟩ (.bool x)) g { v with shared := x } := h.set_ 3 _ rfl
theorem FlB.set4 (h : FlB w g v) (x : Value) : FlB (w.setCell ⟨g, 4, none⟩ x) g { v with vw := x } := h.set_ 4 _ rfl
end
set_option maxHeartbeats 1000000 in
set_option maxRecDepth 100000 in
theorem fsettle_blk (g : Nat) (v : FlV) (A : Option Addr) (n c : Nat) (w : World) (h : FlB w g v) (hv : v.vb = .slice A n c) (hn : n ≤ c) :
  Calls Tryz.prog 70 #[.pointer (some ⟨g, 0, none⟩)] w fun e w' => e = .returned (.tuple #[]) ∧ FlB w' g { v with vs := .slice A n n, shared := true, vw := .slice none 0 0 } ∧ w.grownBy w' (some g) := by
 have h1 := h.c1
 have h2 := h.c2
 have h3 := h.c3
 have h4 := h.c4
 have f2 := h.fr 2
 have f3 := h.fr 3
 have f4 := h.fr 4
 rw [hv] at h1
 have H := hide h
 clear h hv
 go_enter Tryz.func70, Tryz.ntmps70
 go_wp2
 go_still_tail 18, (by kernel_rfl)
 go_wp2
 go_end0
 exact ⟨rfl, ((H.out.set2 _).set3 _).set4 _, gb_drew (gb_set (gb_set (gb_set (gb_refl _ _) _ _) _ _) _ _)⟩
end Go.Proofs.YtmcmlkglkpbnpaaGreat
