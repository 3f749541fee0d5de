/-
  Both file systems beside each other in memory.
-/
import Derived.Test.YtccapgcpdehicaaGreatQai
import Derived.Shelf.SlIter.Nil
import Derived.Shelf.SortM.Plain
import Derived.Shelf.SortM.SortNone
import Derived.Ground.GgzProg
import Derived.Ground.SlgmProg
import Derived.Test.YtccapgcpdehicaaGreatQau
import Derived.Laws.OwnMore
import Derived.Deep.RegionLaw
import Derived.Test.YtccapgcpdehicaaGreatQaw
import Derived.Test.YtccapgcpdehicaaGreatQax
import Derived.Test.YtccapgcpdehicaaGreatQaj

namespace Go.Proofs.YtccapgcpdehicaaGreat
open Go.RowKit

theorem waitingDir_any (L : Nat → Nat) (g : Nat) (S : St) (w : World) (h : FsAt w L g S) :
    Calls Tryz.prog 12 #[.pointer (some ⟨g, 0, none⟩)] w fun e w' => e = .returned (.int .i64 (S.changes.length : Int)) ∧ w = w' := by
  obtain ⟨mf, mn, ms, vch, lf, h⟩ := h
  have q6 := h.blk.c6
  rcases h.chs.1.2 with ⟨h1, h0⟩ | ⟨b, cap, cur, hv, _⟩
  · rw [show (S.v mf mn ms vch).vch = vch from rfl, h1] at q6
    rw [h0]
    clear h
    go_enter Tryz.func12, Tryz.ntmps12
    go_wp2
    go_ret
    exact ⟨rfl, rfl⟩
  · rw [show (S.v mf mn ms vch).vch = vch from rfl, hv] at q6
    clear h
    go_enter Tryz.func12, Tryz.ntmps12
    go_wp2
    go_ret
    exact ⟨rfl, rfl⟩
theorem setCap_bad (L : Nat → Nat) (g : Nat) (S : St) (n : Int) (w : World) (_h : FsAt w L g S) (hn : n < 0 ∨ 67108864 < n) :
    Calls Tryz.prog 60 #[.pointer (some ⟨g, 0, none⟩), .int .i64 n] w fun e w' => e = .returned (.int .i64 2) ∧ w = w' := by
  by_cases h1 : n < 0
  · clear hn
    go_enter Tryz.func60, Tryz.ntmps60
    go_wp2
    go_ret
    exact ⟨rfl, rfl⟩
  · have h2 : 67108864 < n := hn.resolve_left h1
    clear hn
    go_enter Tryz.func60, Tryz.ntmps60
    go_wp2
    go_ret
    exact ⟨rfl, rfl⟩
theorem setCap_ok (L : Nat → Nat) (g : Nat) (S : St) (n : Int) (w : World) (h : FsAt w L g S) (h1 : ¬ n < 0) (h2 : ¬ 67108864 < n) :
    Calls Tryz.prog 60 #[.pointer (some ⟨g, 0, none⟩), .int .i64 n] w fun e w' => e = .returned (.int .i64 0) ∧ FsAt w' L g { S with cap := n } ∧ L g = 1 ∧ w.grownBy w' (some g) := by
  obtain ⟨mf, mn, ms, vch, lf, h⟩ := h
  have q0 := h.blk.c0
  have f0 := h.blk.fr 0
  have H := hide h
  clear h
  go_enter Tryz.func60, Tryz.ntmps60
  go_wp2
  go_ret
  exact ⟨rfl, ⟨mf, mn, ms, vch, lf, H.out.setg 0 _ { S with cap := n } (H.out.blk.set0 n) rfl rfl rfl rfl⟩, H.out.lg, gb_set (gb_refl w (some g)) 0 _⟩
end Go.Proofs.YtccapgcpdehicaaGreat

namespace Go.Proofs
open Go.RowKit Go.Maps Go.Sort Go.Shelf
shelf_lay_g SlLaysZ.n7 Ggz 7 at Tryz 36 as Tryz.mapKeys
shelf_lay_g SlLaysZ.n6 Ggz 6 at Tryz 35 as Tryz.sliceSorted
shelf_lay_g SlLaysM.n6 Slgm 6 at Tryz 65 as Tryz.sliceSort
end Go.Proofs

namespace Go.Proofs.YtccapgcpdehicaaGreat
open Go.RowKit Go.Maps Go.Sort Go.Shelf Go.WideShapes

def strB : Value → List UInt8
  | .string s => s.data.toList
  | _ => []
set_option maxRecDepth 100000 in
/-- The names, as the library's contract of maps has them. -/
theorem names_own {w : World} {b : Nat} {l : List (ByteArray × Nat)} (h : MapAt encN w b l) (hl : l.length ≤ maxLen) (hs : ∀ x ∈ l, x.1.size ≤ maxLen) :
    ∃ D0 : DataW Unit, w.ownsMap Tryz.prog 9 (fun _ => some (.nil, [])) b l.length D0 ∧ (strKeys D0).Perm (l.map fun x => x.1.data.toList) ∧ Maps.size D0 = l.length := by
  obtain ⟨es, clock, hb, hst, hes⟩ := h
  have hsz : es.size = l.length := by have := congrArg List.length hes; simpa using this
  have hrd : ∀ x ∈ es.toList, Go.WideElems.rd (H := Unit) Tryz.prog 9 (fun _ => some (.nil, [])) x = some (.string (strB x.key), .nil) := by
    intro x hx
    obtain ⟨y, hy, hk, _⟩ := enc_keys (E := encN) hes x hx
    have h1 := hs y hy
    have hk' : x.key = .string y.1 := hk
    refine Go.WideElems.rd_mk (H := Unit) (R := fun _ => some (.nil, [])) (yv := (.nil, [])) (key := x.key) (val := x.val) (born := x.born) ?_ rfl
    rw [hk']
    simp [keyOf, Tryz.underlying9, mapKey, strB, h1]
  refine ⟨_, ⟨es, clock, hb, ⟨by omega, hst, fun x hx => ⟨_, hrd x hx⟩⟩, by omega, rfl⟩, ?_, ?_⟩
  · have e1 : es.toList.map (fun x => strOf (Go.WideElems.rg (H := Unit) Tryz.prog 9 (fun _ => some (.nil, [])) x).1) = l.map fun x => x.1.data.toList := by
      have e2 : es.toList.map (fun x => strOf (Go.WideElems.rg (H := Unit) Tryz.prog 9 (fun _ => some (.nil, [])) x).1) = (es.toList.map fun x => (x.key, x.val)).map fun p => strB p.1 := by
        rw [List.map_map]
        refine List.map_congr_left fun x hx => ?_
        rw [Go.WideElems.rg_of (hrd x hx)]
        rfl
      rw [e2, hes, List.map_map]
      rfl
    show ((List.foldr DataW.insert [] (es.toList.map _)).map fun p => strOf p.1).Perm _
    rw [← e1]
    have := (sorted_perm (es.toList.map (Go.WideElems.rg (H := Unit) Tryz.prog 9 (fun _ => some (.nil, []))))).map fun p => strOf p.1
    rw [List.map_map] at this
    exact this
  · rw [size_eq, (sorted_perm _).length_eq, List.length_map, Array.length_toList, hsz]
theorem own_formS {w : World} {base m size : Nat} {e : TypeId} {v : Value} {xs : List Value} (h : w.ownsRow base e size v m xs) : ∃ A c, v = .slice A m c ∧ m ≤ c ∧ c ≤ maxLen := by
  rcases h.2 with ⟨h1, h0⟩ | ⟨g, cap, cur, hv, _, _, h3, h4, _⟩
  · exact ⟨none, 0, by rw [h1, h0], by omega, Nat.zero_le _⟩
  · exact ⟨_, cap, hv, h3, h4⟩
theorem ownsRow_lessS {w : World} {base base' size n : Nat} {e : TypeId} {v : Value} {xs : List Value} (h : w.ownsRow base e size v n xs) (hb : base' ≤ base) : w.ownsRow base' e size v n xs := by
  refine ⟨h.1, ?_⟩
  rcases h.2 with h0 | ⟨g, cap, cur, h1, h2, h3⟩
  · exact .inl h0
  · exact .inr ⟨g, cap, cur, h1, Nat.le_trans hb h2, h3⟩
/-- Go's order of strings, on their bytes. -/
def leS (a b : ByteArray) : Prop := a.data.toList ≤ b.data.toList
def toBA (l : List UInt8) : ByteArray := ⟨l.toArray⟩
theorem strs_of (l : List (List UInt8)) : l.map encStr = strs (l.map toBA) := by
  unfold strs
  rw [List.map_map]
  rfl

theorem keys_any (mb : Option Nat) (W : World) : Calls Tryz.prog 36 #[.map mb] W fun e w' => e = .returned (.func (.func 66) #[] #[.pointer (some ⟨W.heap.size, 0, none⟩)]) ∧ w' = W.alloc (.cells #[.map mb] 74) :=
  callsIn_wide.1 (AnyZ.keys_in Tryz.mapKeys Fence.wide 5 trivial rfl mb W)
theorem sorts_any (m : Nat) : AnyZ.SortsIn Tryz.prog Tryz.sliceSorted_ren Fence.wide m :=
  ⟨fun blk off cap ss W hH hblk hsz => callsIn_wide.2 (AnyM.slices_Sort_string Tryz.sliceSort blk off cap ss W hH hblk hsz),
   fun p cap W => callsIn_wide.2 (AnyM.slices_Sort_string_none Tryz.sliceSort p cap W)⟩
set_option maxHeartbeats 1000000 in
theorem sorted_any (b : Nat) (l : List (ByteArray × Nat)) (w : World) (h : MapAt encN w b l) (hl : l.length ≤ 100000) (hs : ∀ x ∈ l, x.1.size ≤ 64) :
    Calls Tryz.prog 35 #[.func (.func 66) #[] #[.pointer (some ⟨w.heap.size, 0, none⟩)]] (w.alloc (.cells #[.map (some b)] 74)) fun e w' =>
      ∃ A c L, e = .returned (.slice A L.length c) ∧ L.Perm (l.map (·.1)) ∧ L.Pairwise leS ∧ w'.ownsRow (w.heap.size + 1) 9 1 (.slice A L.length c) L.length (strs L) ∧ (w.alloc (.cells #[.map (some b)] 74)).grownBy w' none := by
  obtain ⟨D0, hown, hperm, hsize⟩ := names_own h (by unfold maxLen; omega) (fun x hx => by have := hs x hx; unfold maxLen; omega)
  have hbl := h.lt
  have hseq : SeqGives Fence.wide 2 Tryz.prog 66 #[.pointer (some ⟨w.heap.size, 0, none⟩)] encStr (fun ss => ss.Perm (strKeys D0)) (Maps.size D0) (w.alloc (.cells #[.map (some b)] 74)) :=
    AnyZ.keys_gives (ρ := Tryz.mapKeys_ren) { Tryz.mapKeys with } Fence.wide _ trivial rfl (by omega) w.heap.size b l.length D0 _ (by simp) (by simp) (by
      obtain ⟨es, clock, hb, Ft, hz, hD⟩ := hown
      exact ⟨es, clock, (Below.heap_alloc _ _ b hbl).trans hb, Ft, hz, hD⟩)
  have hmax : Maps.size D0 ≤ maxLen := by rw [hsize]; unfold maxLen; omega
  have hbytes : Maps.size D0 * 16 ≤ 140737488355328 := by rw [hsize]; omega
  refine (callsIn_wide.1 (AnyZ.sorted_in Tryz.sliceSorted Fence.wide 5 trivial trivial trivial trivial rfl (by omega) (sorts_any _) (enters_of Tryz.func65 (by kernel_rfl) rfl) 66 #[.pointer (some ⟨w.heap.size, 0, none⟩)] trivial (enters_of Tryz.func66 (by kernel_rfl) rfl) _ _ hmax hbytes _ hseq)).mono ?_
  rintro e w' ⟨v, ss, rfl, hS, hrow, _, hb⟩
  obtain ⟨S, hSE⟩ : ∃ S, S = (ss.mergeSort (fun x y => decide (x ≤ y))).map toBA := ⟨_, rfl⟩
  have hlen : ss.length = S.length := by rw [hSE, List.length_map, List.length_mergeSort]
  rw [strs_of, ← hSE, hlen, World.size_alloc] at hrow
  obtain ⟨A, c, rfl, _, _⟩ := own_formS hrow
  refine ⟨A, c, S, rfl, ?_, ?_, hrow, gb_of_below hb none⟩
  · rw [hSE]
    have h1 := ((List.mergeSort_perm ss (fun x y => decide (x ≤ y))).trans (hS.trans hperm)).map toBA
    rw [List.map_map] at h1
    exact h1
  · rw [hSE]
    have tr : ∀ a b c : List UInt8, decide (a ≤ b) = true → decide (b ≤ c) = true → decide (a ≤ c) = true := fun a b c h1 h2 => by simp only [decide_eq_true_eq] at *; exact List.le_trans h1 h2
    have tot : ∀ a b : List UInt8, (decide (a ≤ b) || decide (b ≤ a)) = true := fun a b => by simp only [Bool.or_eq_true, decide_eq_true_eq]; exact List.le_total a b
    refine List.pairwise_map.2 ((List.pairwise_mergeSort tr tot ss).imp fun {a b} hab => ?_)
    have h9 : a ≤ b := of_decide_eq_true hab
    exact h9

set_option maxHeartbeats 1000000 in
set_option maxRecDepth 100000 in
theorem list_any (L : Nat → Nat) (g : Nat) (S : St) (w : World) (h : FsAt w L g S) (hl : S.names.length ≤ 100000) (hs : ∀ x ∈ S.names, x.1.size ≤ 64) :
    Calls Tryz.prog 14 #[.pointer (some ⟨g, 0, none⟩)] w fun e w' => ∃ A c N, e = .returned (.slice A N.length c) ∧ N.Perm (S.names.map (·.1)) ∧ N.Pairwise leS ∧ w'.ownsRow w.heap.size 9 1 (.slice A N.length c) N.length (strs N) ∧ w.grownBy w' none := by
  obtain ⟨mf, mn, ms, vch, lf, h⟩ := h
  have q4 : w.cell? ⟨g, 4, none⟩ = some (.map (some mn)) := h.blk.c4
  have HK := hide (keys_any (some mn) w)
  have HS := hide (sorted_any mn S.names w h.names hl hs)
  have HG : Hid (w.grownBy (w.alloc (.cells #[.map (some mn)] 74)) none) := hide (gb_alloc (gb_refl w none) _)
  clear h hl hs
  go_enter Tryz.func14, Tryz.ntmps14
  go_wp2_with (first
    | (go_at_call 36; refine HK.out.mono ?_; rintro e w1 ⟨rfl, rfl⟩)
    | (go_at_call 35; refine HS.out.mono ?_; rintro e w2 ⟨A, c, N, rfl, hp, hw, ho, hg⟩; have HP := hide hp; have HW := hide hw; have HO := hide ho; have HG2 := hide hg; clear hp hw ho hg))
  go_ret
  exact ⟨A, c, N, rfl, HP.out, HW.out, ownsRow_lessS HO.out (Nat.le_succ _), gb_trans HG.out HG2.out (.inl rfl)⟩
end Go.Proofs.YtccapgcpdehicaaGreat

namespace Go.Proofs.YtccapgcpdehicaaGreat
open Go.RowKit Go.Sort
attribute [local go_sem ↓] Go.wp_at_zero Go.wp_at_succ

/-! ## Plain words -/
def noS : ByteArray := ⟨#[]⟩
def ltS (a b : ByteArray) : Prop := a.data.toList < b.data.toList
instance (a b : ByteArray) : Decidable (ltS a b) := inferInstanceAs (Decidable (a.data.toList < b.data.toList))
theorem leS_of_not {a b : ByteArray} (h : ¬ ltS b a) : leS a b := List.not_lt.1 h
theorem leS_of_lt {a b : ByteArray} (h : ltS a b) : leS a b := List.le_of_lt h
theorem leS_trans {a b c : ByteArray} (h : leS a b) (k : leS b c) : leS a c := List.le_trans h k
def swpS (d : List ByteArray) (j : Nat) : List ByteArray := (d.set j (d.getD (j + 1) noS)).set (j + 1) (d.getD j noS)
/-- What stands at j goes down to where it belongs. -/
def insS : Nat → List ByteArray → List ByteArray
  | 0, d => d
  | j + 1, d => if ltS (d.getD (j + 1) noS) (d.getD j noS) then insS j (swpS d j) else d
theorem swpS_len (d : List ByteArray) (j : Nat) : (swpS d j).length = d.length := by simp [swpS]
theorem insS_len : ∀ (j : Nat) (d : List ByteArray), (insS j d).length = d.length := by
  intro j
  induction j with
  | zero => intro d; rfl
  | succ j ih =>
    intro d
    unfold insS
    split
    · rw [ih, swpS_len]
    · rfl
theorem getD_mid (A B : List ByteArray) (x : ByteArray) (j : Nat) (h : j = A.length) : (A ++ x :: B).getD j noS = x := by
  subst h
  simp [List.getD_eq_getElem?_getD]
theorem swpS_mid (A B : List ByteArray) (x y : ByteArray) (j : Nat) (h : j = A.length) : swpS (A ++ y :: x :: B) j = A ++ x :: y :: B := by
  unfold swpS
  have e1 : (A ++ y :: x :: B).getD (j + 1) noS = x := by
    have := getD_mid (A ++ [y]) B x (j + 1) (by simp [h])
    rwa [List.append_assoc] at this
  rw [getD_mid A _ y j h, e1]
  subst h
  rw [List.set_append_right _ _ (Nat.le_refl _), Nat.sub_self, List.set_cons_zero, List.set_append_right _ _ (by omega), Nat.add_sub_cancel_left, List.set_cons_succ, List.set_cons_zero]
theorem insS_ok : ∀ (j : Nat) (A B : List ByteArray) (x : ByteArray), A.length = j → (A ++ B).Pairwise leS → (∀ b ∈ B, leS x b) → (insS j (A ++ x :: B)).Pairwise leS ∧ (insS j (A ++ x :: B)).Perm (x :: (A ++ B)) := by
  intro j
  induction j with
  | zero =>
    intro A B x hA hs hb
    obtain rfl := List.length_eq_zero_iff.1 hA
    exact ⟨List.pairwise_cons.2 ⟨hb, hs⟩, List.Perm.refl _⟩
  | succ j ih =>
    intro A B x hA hs hb
    have hne : A ≠ [] := fun e => by rw [e] at hA; cases hA
    obtain ⟨A', y, rfl⟩ : ∃ A' y, A = A' ++ [y] := ⟨A.dropLast, A.getLast hne, (List.dropLast_concat_getLast hne).symm⟩
    have hA' : A'.length = j := by rw [List.length_append] at hA; simpa using hA
    have e0 : A' ++ [y] ++ x :: B = A' ++ y :: x :: B := by simp
    have e1 : (A' ++ [y] ++ x :: B).getD (j + 1) noS = x := getD_mid _ _ _ _ (by simp [hA'])
    have e2 : (A' ++ [y] ++ x :: B).getD j noS = y := by rw [e0]; exact getD_mid _ _ _ _ hA'.symm
    unfold insS
    rw [e1, e2]
    have hs' : (A' ++ (y :: B)).Pairwise leS := by rw [show A' ++ y :: B = A' ++ [y] ++ B by simp]; exact hs
    by_cases h : ltS x y
    · rw [if_pos h, e0, swpS_mid _ _ _ _ _ hA'.symm]
      obtain ⟨k1, k2⟩ := ih A' (y :: B) x hA' hs' (fun b hb' => by
        rcases List.mem_cons.1 hb' with rfl | hb'
        · exact leS_of_lt h
        · exact hb b hb')
      exact ⟨k1, by rw [show A' ++ [y] ++ B = A' ++ y :: B by simp]; exact k2⟩
    · rw [if_neg h]
      have hyx := leS_of_not h
      rw [List.pairwise_append] at hs'
      obtain ⟨p1, p2, p3⟩ := hs'
      refine ⟨?_, List.perm_middle⟩
      rw [e0, List.pairwise_append]
      refine ⟨p1, ?_, fun a ha b hb' => ?_⟩
      · rw [List.pairwise_cons, List.pairwise_cons]
        refine ⟨fun b hb' => ?_, hb, (List.pairwise_cons.1 p2).2⟩
        rcases List.mem_cons.1 hb' with rfl | hb'
        · exact hyx
        · exact (List.pairwise_cons.1 p2).1 b hb'
      · rcases List.mem_cons.1 hb' with rfl | hb'
        · exact p3 a ha _ (List.mem_cons_self ..)
        · rcases List.mem_cons.1 hb' with rfl | hb'
          · exact leS_trans (p3 a ha y (List.mem_cons_self ..)) hyx
          · exact p3 a ha b (List.mem_cons_of_mem _ hb')
/-- The first k names, in order. -/
def listR (d : List RE) : Nat → List ByteArray
  | 0 => []
  | k + 1 => insS k (listR d k ++ [(d.getD k ⟨⟨#[]⟩, 0⟩).name])
theorem listR_ok (d : List RE) : ∀ k, k ≤ d.length → (listR d k).length = k ∧ (listR d k).Pairwise leS ∧ (listR d k).Perm ((d.take k).map (·.name)) := by
  intro k
  induction k with
  | zero => exact fun _ => ⟨rfl, List.Pairwise.nil, List.Perm.refl _⟩
  | succ k ih =>
    intro hk
    obtain ⟨h1, h2, h3⟩ := ih (by omega)
    have hx : (d.getD k ⟨⟨#[]⟩, 0⟩).name = (d[k]'(by omega)).name := by rw [List.getD_eq_getElem?_getD, List.getElem?_eq_getElem (by omega)]; rfl
    obtain ⟨k1, k2⟩ := insS_ok k (listR d k) [] (d.getD k ⟨⟨#[]⟩, 0⟩).name h1 (by rw [List.append_nil]; exact h2) (fun b hb => by cases hb)
    refine ⟨by unfold listR; rw [insS_len, List.length_append, h1]; rfl, k1, k2.trans ?_⟩
    rw [List.append_nil, List.take_succ_eq_append_getElem (by omega), List.map_append, hx]
    exact (h3.cons _).trans (List.perm_append_singleton _ _).symm

theorem gtr_lt (p q : ByteArray) : (!Op.bytesLess q.toList p.toList && !q.toList == p.toList) = decide (ltS p q) := by
  rw [ByteArray.toList_eq, ByteArray.toList_eq, bytesLess_eq]
  show _ = decide (p.data.toList < q.data.toList)
  generalize p.data.toList = a
  generalize q.data.toList = b
  by_cases h : a < b
  · have h1 : ¬ b < a := fun h2 => absurd (List.lt_trans h h2) (List.lt_irrefl _)
    have h2 : b ≠ a := fun e => by rw [e] at h; exact List.lt_irrefl _ h
    simp [h, h1, h2]
  · have h1 : b ≤ a := List.not_lt.1 h
    by_cases h2 : b = a
    · simp [h2, List.lt_irrefl]
    · have h3 : b < a := Classical.byContradiction fun h4 => h2 (List.le_antisymm h1 (List.not_lt.1 h4))
      simp [h, h3]
theorem strs_len (l : List ByteArray) : (strs l).length = l.length * 1 := by unfold strs; simp
theorem oneS (l : List ByteArray) : ∀ u ∈ strs l, u.oneCell' = true := by
  intro u hu
  unfold strs at hu
  obtain ⟨b, _, rfl⟩ := List.mem_map.1 hu
  rfl
theorem strs_app (a b : List ByteArray) : strs (a ++ b) = strs a ++ strs b := by unfold strs; simp
theorem strs_set (l : List ByteArray) (i : Nat) (x : ByteArray) : strs (l.set i x) = (strs l).set i (.string x) := by unfold strs; rw [List.map_set]
theorem strs_get {l : List ByteArray} {i : Nat} (h : i < l.length) : (strs l)[i]? = some (.string (l.getD i noS)) := by
  unfold strs
  rw [List.getElem?_map, List.getElem?_eq_getElem h, List.getD_eq_getElem?_getD, List.getElem?_eq_getElem h]
  rfl
theorem Tryz.infoStr : (Tryz.prog.info? 9).map (fun i => (i.zero, i.size, i.bytes)) = some (some (.string ⟨#[]⟩), 1, 16) := by kernel_rfl
section
variable {w : World} {o : Oper} {a : Act}
theorem wpListS {ops : Array Oper} {rest : List Oper} {Q : Exit → Act → World → Prop} (hgd : o.guard = none) (s x : Operand)
    (ho : o.op = .call { callee := .builtin .append, args := #[s, x], argTypes := #[50, 50] })
    (base n m : Nat) (L l k : List ByteArray) (v : Value) (hs : a.eval s = v) (hown : w.ownsRow base 9 1 v n (strs l)) (hn : n = l.length) (hm : m = k.length) (B : Nat) (A : Option Addr) (c : Nat) (hx : a.eval x = .slice A m c)
    (hr : Rd w B A (strs k)) (hL : L = l ++ k) (hlen : L.length ≤ 1000000000) (hbase : base ≤ w.heap.size)
    (h : ∀ A' c' w', w'.ownsRow base 9 1 (.slice A' L.length c') L.length (strs L) → w.grownBy w' v.ownBlock → ((Value.slice A' L.length c').ownBlock = v.ownBlock ∨ (Value.slice A' L.length c').ownBlock = some w.heap.size) → wpList Tryz.prog ops Q rest (a.put o.dst (.slice A' L.length c')) w') :
    wpList Tryz.prog ops Q (o :: rest) a w := by
  obtain ⟨i1, hi1, hiz, his, hib⟩ := info_parts Tryz.infoStr
  subst hL hn hm
  rw [List.length_append] at hlen h
  refine wpList_append_rd _ hgd s x 50 ho base 9 i1 (.string ⟨#[]⟩) 1 16 Tryz.underlying50 hi1 hiz his hib rfl (Nat.succ_pos 0) v l.length (strs l) hs hown B A k.length c (strs k) hx (strs_len k) hr (oneS k) (by unfold maxLen; omega) (by omega) hbase ?_
  intro v' w' h2 h3 h4
  obtain ⟨A', c', rfl⟩ := own_slice h2
  rw [← strs_app] at h2
  exact h A' c' w' h2 h3 h4
end

set_option maxHeartbeats 4000000 in
set_option maxRecDepth 100000 in
theorem rList_any (g : Nat) (S : RS) (bs : List Nat) (vs : List Value) (vF vD vS vM : Value) (w : World) (h : RAt w g S bs vs vF vD vS vM) (hd : S.d.length ≤ 1000000) :
    Calls Tryz.prog 15 #[.pointer (some ⟨g, 0, none⟩)] w fun e w' => ∃ A c N, e = .returned (.slice A N.length c) ∧ N.Perm (S.d.map (·.name)) ∧ N.Pairwise leS ∧ w'.ownsRow w.heap.size 9 1 (.slice A N.length c) N.length (strs N) ∧ w.grownBy w' none := by
  obtain ⟨AD, cD, rfl, _, hmD⟩ := own_form0 h.rD
  unfold maxLen at hmD
  have H := hide h
  have HD := hide hd
  clear h hd
  go_enter Tryz.func15, Tryz.ntmps15
  go_wp2_with fail
  go_loopw [3, 4] (fun v i wr => ∃ k : Nat, i = .int .i64 (k : Int) ∧ k ≤ S.d.length ∧ wr.ownsRow w.heap.size 9 1 v k (strs (listR S.d k)) ∧ w.grownBy wr none) (fun _ i _ => S.d.length - (intOf i).toNat)
  case atStart => exact ⟨0, rfl, Nat.zero_le _, ⟨rfl, .inl ⟨rfl, rfl⟩⟩, gb_refl w none⟩
  case round =>
    obtain ⟨k, rfl, hk, hrow, hgr⟩ := hrel
    have HR := hide (H.out.gb H.out.lt hgr)
    have b1 : wr.cell? ⟨g, 1, none⟩ = some (.slice AD S.d.length cD) := by rw [blk_cell HR.out.box]; rfl
    by_cases hlt : k < S.d.length
    · have hlt1 : (k : Int) < (S.d.length : Int) := by omega
      obtain ⟨be, hAD, e0, e1⟩ := E_elem HR.out.rD hlt
      obtain ⟨x, hx⟩ : ∃ x, x = S.d[k].name := ⟨_, rfl⟩
      rw [← hx] at e0
      obtain ⟨hl1, hl2, hl3⟩ := listR_ok S.d k hk
      obtain ⟨L, hL⟩ : ∃ L, L = listR S.d k := ⟨_, rfl⟩
      have hxx : (S.d.getD k ⟨⟨#[]⟩, 0⟩).name = x := by rw [hx, List.getD_eq_getElem?_getD, List.getElem?_eq_getElem hlt]; rfl
      have HN : Hid (listR S.d (k + 1) = insS k (L ++ [x])) := hide (by rw [hL, ← hxx]; rfl)
      rw [← hL] at hrow hl1
      have HL1 := hide hl1
      have HROW := hide hrow
      have HGR := hide hgr
      have HLT := hide hlt
      have HRD := hide (Rd.laid wr #[.string x] 9 (0, 0) (strs [x]) rfl)
      have hga := gb_alloc (gb_refl wr none) (.cells #[.string x] 9)
      have HROW2 := hide (HROW.out.kept hga (by cases u3.ownBlock <;> simp))
      have HGA := hide (gb_trans hgr hga (.inl rfl))
      obtain ⟨LX, hLX⟩ : ∃ LX, LX = L ++ [x] := ⟨_, rfl⟩
      have hLXl : LX.length = k + 1 := by rw [hLX, List.length_append, hl1]; rfl
      have HLX := hide hLX
      have HLXL := hide hLXl
      have HNX : Hid (listR S.d (k + 1) = insS k LX) := hide (by rw [HN.out, hLX])
      have HLE : Hid (LX.length ≤ 1000000000) := hide (by have := HD.out; omega)
      have HBS : Hid (w.heap.size ≤ (wr.alloc (.cells #[.string x] 9)).heap.size) := hide (Nat.le_trans hgr.size hga.size)
      have h7 : IntKind.i64.wrap ((LX.length : Int) - 1) = (k : Int) := by rw [IntKind.wrap_i64]; have := HD.out; omega
      have h6 : IntKind.i64.wrap ((k : Int) + 1) = ((k + 1 : Nat) : Int) := by rw [IntKind.wrap_i64]; have := HD.out; omega
      subst hAD
      clear hx hl2 hl3 hL hxx hrow hl1 hgr hga hLX hLXl e1 hk HN
      go_upto_region 6 with (at_builtin; refine wpListS rfl (.tmp 15) (.tmp 24) rfl w.heap.size k 1 LX L [x] u3 rfl HROW2.out HL1.out.symm rfl (wr.heap.size + 1) (some ⟨wr.heap.size, 0, none⟩) 1 rfl HRD.out HLX.out HLE.out HBS.out ?_; intro A1 c1 w1 ho1 hg1 hb1; have HO1 := hide ho1; have HG1 := hide (gb_row HGA.out HROW2.out (Nat.le_refl _) hg1); clear ho1 hg1 hb1)
      obtain ⟨gb, hA1, _⟩ := own_cells HO1.out (strs_len LX) (by rw [HLXL.out]; omega)
      subst hA1
      have HGB : Hid (w.heap.size ≤ gb) := hide (HO1.out.lt gb rfl).1
      clear HROW HROW2 HGR HGA HRD HBS b1 e0
      go_wp2_with fail
      go_loopw [5] (fun j ws => ∃ (m : Nat) (E : List ByteArray), j = .int .i64 (m : Int) ∧ m ≤ k ∧ E.length = LX.length ∧ insS m E = insS k LX ∧ ws.ownsRow w.heap.size 9 1 (.slice (some ⟨gb, 0, none⟩) LX.length c1) LX.length (strs E) ∧ w.grownBy ws none) (fun j _ => (intOf j).toNat)
      case atStart => exact ⟨k, LX, rfl, Nat.le_refl _, rfl, rfl, HO1.out, HG1.out⟩
      case round =>
        obtain ⟨m, E, rfl, hm, hEl, hEe, hoE, hgE⟩ := hrel
        have HOE := hide hoE
        have HGE := hide hgE
        have HEL := hide hEl
        have HM := hide hm
        cases m with
        | zero =>
          have HEE : Hid (E = insS k LX) := hide hEe
          have hz : decide ((0 : Int) < ((0 : Nat) : Int)) = false := by decide
          clear hoE hgE hEl hm hEe
          go_wp2_with fail
          go_quiet (fail)
          go_wp2_with fail
          go_roundw
          case rel => exact ⟨k + 1, rfl, HLT.out, by rw [HNX.out, ← HEE.out, ← HLXL.out]; exact HOE.out.kept (gb_drewN (gb_refl wr none) nq) (by simp [Value.ownBlock]), gb_drewN HGE.out nq⟩
          case measure => have := HLT.out; simp [intOf]; omega
        | succ m =>
          have hm1 : IntKind.i64.wrap (((m + 1 : Nat) : Int) - 1) = (m : Int) := by rw [IntKind.wrap_i64]; have := HD.out; have := HLT.out; omega
          have k1 := hoE.cellAt (m + 1) (by have := HLXL.out; omega)
          have k0 := hoE.cellAt m (by have := HLXL.out; omega)
          obtain ⟨p, hp⟩ : ∃ p, p = E.getD (m + 1) noS := ⟨_, rfl⟩
          obtain ⟨q, hq⟩ : ∃ q, q = E.getD m noS := ⟨_, rfl⟩
          rw [strs_get (by have := HLXL.out; omega), ← hp] at k1
          rw [strs_get (by have := HLXL.out; omega), ← hq] at k0
          have hin : insS (m + 1) E = if ltS p q then insS m (swpS E m) else E := by rw [hp, hq]; rfl
          have HP := hide hp
          have HQ := hide hq
          have hl1 : ((m + 1 : Nat) : Int) < (LX.length : Int) := by have := HLXL.out; omega
          have hl0 : (m : Int) < (LX.length : Int) := by have := HLXL.out; omega
          obtain ⟨m1, hm1e⟩ : ∃ m1, m1 = m + 1 := ⟨_, rfl⟩
          have HM1 := hide hm1e
          rw [← hm1e] at hm1 k1 hl1 hin hEe ⊢
          have h00 : 0 < m1 := by omega
          have hz : decide (0 < m1) = true := decide_eq_true h00
          by_cases hlt : ltS p q
          · rw [if_pos hlt] at hin
            have HEE := hide (hin.symm.trans hEe)
            have HLT2 := hide hlt
            clear hoE hgE hEl hm hEe hp hq hin hm1e
            go_wp2_with fail
            go_quiet (fail)
            rw [gtr_lt, decide_eq_true HLT2.out]
            obtain ⟨wz, hwz⟩ : ∃ wz, wz = wr.drewN nq := ⟨_, rfl⟩
            rw [← hwz]
            have hgz : wr.grownBy wz none := by rw [hwz]; exact gb_drewN (gb_refl wr none) nq
            have HOZ := hide (HOE.out.kept hgz (by simp [Value.ownBlock]))
            have HGZ := hide (gb_trans HGE.out hgz (.inl rfl))
            have k1 : wz.cell? ⟨gb, m1, none⟩ = some (.string p) := by rw [hwz]; exact k1
            have k0 : wz.cell? ⟨gb, m, none⟩ = some (.string q) := by rw [hwz]; exact k0
            have z1 := HOZ.out.frozenAt m1
            have z0 := HOZ.out.frozenAt m
            have hne1 : ¬ m = m1 := by have := HM1.out; omega
            have hne2 : ¬ m1 = m := by have := HM1.out; omega
            have hne3 : ¬ (m1 : Int) = (m : Int) := by have := HM1.out; omega
            clear hgz hwz
            go_wp2_with fail
            go_region_law (fail)
            all_goals
              go_wp2_with fail
              go_roundw
              case rel =>
                refine ⟨m, swpS E m, rfl, by have := HM.out; omega, by rw [swpS_len]; exact HEL.out, HEE.out, ?_, gb_drew (gb_setCell (gb_setCell HGZ.out (.inr HGB.out) _) (.inr HGB.out) _)⟩
                have h1 := ((HOZ.out.stored m (.string p)).1.stored m1 (.string q)).1
                unfold swpS
                rw [strs_set, strs_set, ← HP.out, ← HQ.out, ← HM1.out]
                exact h1.kept (gb_drew (gb_refl _ none)) (by simp [Value.ownBlock])
              case measure => have := HM1.out; simp [intOf]; omega
          · rw [if_neg hlt] at hin
            have HEE := hide (hin.symm.trans hEe)
            have HLT2 := hide hlt
            clear hoE hgE hEl hm hEe hp hq hin hm1e
            go_wp2_with fail
            go_quiet (fail)
            rw [gtr_lt, decide_eq_false HLT2.out]
            go_wp2_with fail
            go_roundw
            case rel => exact ⟨k + 1, rfl, HLT.out, by rw [HNX.out, ← HEE.out, ← HLXL.out]; exact HOE.out.kept (gb_drewN (gb_refl wr none) nq) (by simp [Value.ownBlock]), gb_drewN HGE.out nq⟩
            case measure => have := HLT.out; simp [intOf]; omega
    · have hke : k = S.d.length := by omega
      subst hke
      have hlt1 : ¬ (S.d.length : Int) < (S.d.length : Int) := by omega
      obtain ⟨hl1, hl2, hl3⟩ := listR_ok S.d S.d.length (Nat.le_refl _)
      rw [List.take_length] at hl3
      go_wp2_with fail
      go_ret
      obtain ⟨A, c, rfl, _, _⟩ := own_form0 hrow
      refine ⟨A, c, listR S.d S.d.length, by rw [hl1]; rfl, hl3, hl2, ?_, hgr⟩
      rw [hl1]
      exact hrow
end Go.Proofs.YtccapgcpdehicaaGreat

namespace Go.Proofs.YtccapgcpdehicaaGreat
open Go.RowKit

/-- The program's file system S at g and the document's R at q, which share no block; the blocks Z are neither's, and as they were in w0. -/
def Bo (w0 : World) (Z : Nat → Prop) (g : Nat) (S : St) (q : Nat) (R : RS) (wx : World) : Prop :=
  ∃ L O, FsAt wx L g S ∧ RsAt wx O q R ∧ Turned (fun i => ¬ Z i) w0 wx ∧ (∀ i, O i → L i = 0 ∧ i < wx.heap.size ∧ ¬ Z i) ∧ (∀ i, Z i → L i = 0 ∧ i < w0.heap.size)

section
variable {w0 wx wy : World} {Z Z' : Nat → Prop} {g q : Nat} {S S' : St} {R R' : RS}
theorem FsAt.lts {w : World} {L : Nat → Nat} {g : Nat} {S : St} (h : FsAt w L g S) {i : Nat} (hi : L i ≠ 0) : i < w.heap.size := by
  obtain ⟨mf, mn, ms, vch, lf, h⟩ := h
  exact h.lt i hi
theorem Bo.turned (h : Bo w0 Z g S q R wx) : Turned (fun i => ¬ Z i) w0 wx := by
  obtain ⟨L, O, _, _, h, _⟩ := h
  exact h
theorem Bo.size (h : Bo w0 Z g S q R wx) : w0.heap.size ≤ wx.heap.size := h.turned.size
theorem Bo.keep (h : Bo w0 Z g S q R wx) (hg : wx.grownBy wy none) : Bo w0 Z g S q R wy := by
  obtain ⟨L, O, h1, h2, h3, h4, h5⟩ := h
  exact ⟨L, O, h1.keep (Turned.of_gb (M := fun _ => False) hg (by simp)) (fun _ _ h => h), h2.gb hg, h3.trans (Turned.of_gb (M := fun _ => False) hg (by simp)) (fun _ _ h => h.elim), fun i hi => ⟨(h4 i hi).1, Nat.lt_of_lt_of_le (h4 i hi).2.1 hg.size, (h4 i hi).2.2⟩, h5⟩
theorem Bo.drewN (h : Bo w0 Z g S q R wx) (n : Nat) : Bo w0 Z g S q R (wx.drewN n) := h.keep (gb_drewN (gb_refl wx none) n)
theorem Bo.drew (h : Bo w0 Z g S q R wx) : Bo w0 Z g S q R wx.drew := h.drewN 1
/-- A block of Z is as it was. -/
theorem Bo.block (h : Bo w0 Z g S q R wx) {i : Nat} (hi : Z i) : wx.heap[i]? = w0.heap[i]? := by
  obtain ⟨L, O, _, _, h3, _, h5⟩ := h
  exact h3.block i (h5 i hi).2 (fun k => k hi)
theorem Bo.zlt (h : Bo w0 Z g S q R wx) {i : Nat} (hi : Z i) : i < w0.heap.size := by
  obtain ⟨L, O, _, _, _, _, h5⟩ := h
  exact (h5 i hi).2
/-- From here on. -/
theorem Bo.here (h : Bo w0 Z g S q R wx) : Bo wx Z g S q R wx := by
  obtain ⟨L, O, h1, h2, h3, h4, h5⟩ := h
  exact ⟨L, O, h1, h2, Turned.refl _ _, h4, fun i hi => ⟨(h5 i hi).1, Nat.lt_of_lt_of_le (h5 i hi).2 h3.size⟩⟩
/-- New blocks are neither's. -/
theorem Bo.protect (h : Bo w0 Z g S q R wx) (hg : wx.grownBy wy none) {N : Nat → Prop} (hN : ∀ i, N i → wx.heap.size ≤ i ∧ i < wy.heap.size) : Bo wy (fun i => Z i ∨ N i) g S q R wy := by
  have hs := h.size
  have hzl := fun {i} => h.zlt (i := i)
  obtain ⟨L, O, h1, h2, h3, h4, h5⟩ := h
  refine ⟨L, O, h1.keep (Turned.of_gb (M := fun _ => False) hg (by simp)) (fun _ _ h => h), h2.gb hg, Turned.refl _ _, fun i hi => ⟨(h4 i hi).1, Nat.lt_of_lt_of_le (h4 i hi).2.1 hg.size, fun hz => ?_⟩, fun i hi => ?_⟩
  · rcases hz with hz | hz
    · exact (h4 i hi).2.2 hz
    · have := (h4 i hi).2.1
      have := (hN i hz).1
      omega
  · rcases hi with hi | hi
    · exact ⟨(h5 i hi).1, Nat.lt_of_lt_of_le (hzl hi) (Nat.le_trans hs hg.size)⟩
    · refine ⟨Classical.byContradiction fun hc => ?_, (hN i hi).2⟩
      have := h1.lts hc
      have := (hN i hi).1
      omega
/-- Blocks of Z have been written. -/
theorem Bo.touch (h : Bo w0 Z g S q R wx) {M : Nat → Prop} (hT : Turned M wx wy) (hM : ∀ i, M i → Z i) : Bo wy Z g S q R wy := by
  have hs := h.size
  obtain ⟨L, O, h1, h2, h3, h4, h5⟩ := h
  exact ⟨L, O, h1.keep hT (fun i hi hm => hi (h5 i (hM i hm)).1), h2.keep hT (fun i hi hm => (h4 i hi).2.2 (hM i hm)), Turned.refl _ _, fun i hi => ⟨(h4 i hi).1, Nat.lt_of_lt_of_le (h4 i hi).2.1 hT.size, (h4 i hi).2.2⟩, fun i hi => ⟨(h5 i hi).1, Nat.lt_of_lt_of_le (h5 i hi).2 (Nat.le_trans hs hT.size)⟩⟩
/-- From an earlier world on, of fewer blocks. -/
theorem Bo.back {w1 : World} (h : Bo w1 Z' g S q R wx) (hT : Turned (fun i => ¬ Z i) w0 w1) (hZ : ∀ i, Z i → Z' i ∧ i < w0.heap.size) : Bo w0 Z g S q R wx := by
  obtain ⟨L, O, h1, h2, h3, h4, h5⟩ := h
  exact ⟨L, O, h1, h2, hT.trans h3 (fun i _ hi hz => hi (hZ i hz).1), fun i hi => ⟨(h4 i hi).1, (h4 i hi).2.1, fun hz => (h4 i hi).2.2 (hZ i hz).1⟩, fun i hi => ⟨(h5 i (hZ i hi).1).1, (hZ i hi).2⟩⟩

/-- A call of the program's. -/
theorem Bo.prog {f : FuncId} {args : Array Value} {v : Value} (h : Bo w0 Z g S q R wx) (hc : ∀ L, FsAt wx L g S → Calls Tryz.prog f args wx (FsPost L g S' v wx)) :
    Calls Tryz.prog f args wx fun e w' => e = .returned v ∧ Bo w0 Z g S' q R w' := by
  obtain ⟨L, O, h1, h2, h3, h4, h5⟩ := h
  refine (hc L h1).mono ?_
  rintro e w' ⟨rfl, L', k1, k2⟩
  refine ⟨rfl, L', O, k1, h2.keep k2.turned (fun i hi hm => by have := (h4 i hi).1; omega), h3.trans k2.turned (fun i _ hm hz => by have := (h5 i hz).1; omega), fun i hi => ⟨(k2.same i (h4 i hi).2.1).trans (h4 i hi).1, Nat.lt_of_lt_of_le (h4 i hi).2.1 k2.turned.size, (h4 i hi).2.2⟩, fun i hi => ⟨(k2.same i (Nat.lt_of_lt_of_le (h5 i hi).2 h3.size)).trans (h5 i hi).1, (h5 i hi).2⟩⟩
/-- A call of the document's. -/
theorem Bo.doc {f : FuncId} {args : Array Value} {v : Value} (h : Bo w0 Z g S q R wx) (hc : ∀ bs vs vF vD vS vM, RAt wx q R bs vs vF vD vS vM → (∀ i, ROwn q bs vs vF vD vS vM i → ¬ Z i) → Calls Tryz.prog f args wx fun e w' => e = .returned v ∧ RTo wx q bs vs vF vD vS vM R' w') :
    Calls Tryz.prog f args wx fun e w' => e = .returned v ∧ Bo w0 Z g S q R' w' := by
  obtain ⟨L, O, h1, ⟨bs, vs, vF, vD, vS, vM, k1, k2⟩, h3, h4, h5⟩ := h
  refine (hc bs vs vF vD vS vM k1 (fun i hi => (h4 i (k2 i hi).1).2.2)).mono ?_
  rintro e w' ⟨rfl, ht⟩
  obtain ⟨hr, hT⟩ := ht.rs k2
  refine ⟨rfl, L, Onew O wx w', h1.keep hT (fun i hi hm => hi (h4 i hm).1), hr, h3.trans hT (fun i _ hm hz => (h4 i hm).2.2 hz), fun i hi => ?_, h5⟩
  rcases hi with hi | hi
  · exact ⟨(h4 i hi).1, Nat.lt_of_lt_of_le (h4 i hi).2.1 hT.size, (h4 i hi).2.2⟩
  · exact ⟨Classical.byContradiction fun hc => by have := h1.lts hc; omega, hi.2, fun hz => by have := (h5 i hz).2; have := h3.size; omega⟩
/-- A call of the program's that turns nothing. -/
theorem Bo.ask {f : FuncId} {args : Array Value} {P : Ending → Prop} (h : Bo w0 Z g S q R wx) (hc : ∀ L, FsAt wx L g S → Calls Tryz.prog f args wx fun e w' => P e ∧ wx.grownBy w' none) :
    Calls Tryz.prog f args wx fun e w' => P e ∧ wx.grownBy w' none := by
  obtain ⟨L, O, h1, _⟩ := h
  exact hc L h1
theorem Bo.fs (h : Bo w0 Z g S q R wx) : ∃ L, FsAt wx L g S := by
  obtain ⟨L, O, h1, _⟩ := h
  exact ⟨L, h1⟩
theorem Bo.rs (h : Bo w0 Z g S q R wx) : ∃ bs vs vF vD vS vM, RAt wx q R bs vs vF vD vS vM := by
  obtain ⟨L, O, _, ⟨bs, vs, vF, vD, vS, vM, k1, _⟩, _⟩ := h
  exact ⟨bs, vs, vF, vD, vS, vM, k1⟩

/-! ## What the program's file system answers -/
variable {D k : Nat}
theorem Bo.pCreate (h : Bo w0 Z g S q R wx) (hs : Sim D k S R') (hD : D ≤ 1000000) (hk : k ≤ 1000) (a : ByteArray) :
    Calls Tryz.prog 19 #[.pointer (some ⟨g, 0, none⟩), .string a] wx fun e w' => e = .returned (.tuple #[.int .i64 (createVal S a), .int .i64 (createErr S a)]) ∧ Bo w0 Z g (S.create a) q R w' := by
  refine h.prog fun L hL => ?_
  unfold createVal St.create
  by_cases he : createErr S a = 0
  · rw [if_pos he, if_pos he, he]
    exact create_ok L g S a wx hL he (hs.fine hD hk)
  · rw [if_neg he, if_neg he]
    refine (create_bad L g S a wx hL he (by rw [hs.names.len]; have := hs.dl; have := hs.fl; omega)).mono ?_
    rintro e w' ⟨rfl, hg⟩
    exact ⟨rfl, L, hL.keep (Turned.of_gb (M := fun _ => False) hg (by simp)) (fun _ _ h => h), ⟨Turned.of_gb hg (by simp), fun _ _ => rfl⟩⟩
theorem Bo.pOpen (h : Bo w0 Z g S q R wx) (a : ByteArray) :
    Calls Tryz.prog 51 #[.pointer (some ⟨g, 0, none⟩), .string a] wx fun e w' => e = .returned (.tuple #[.int .i64 (openVal S a), .int .i64 (askErr S [a] a)]) ∧ Bo w0 Z g S q R w' :=
  (h.ask (P := fun e => e = .returned (.tuple #[.int .i64 (openVal S a), .int .i64 (askErr S [a] a)])) fun L hL => open_any L g S a wx hL).mono fun _ _ k => ⟨k.1, h.keep k.2⟩
theorem Bo.pRename (h : Bo w0 Z g S q R wx) (hs : Sim D k S R') (hD : D ≤ 1000000) (hk : k ≤ 1000) (a b : ByteArray) :
    Calls Tryz.prog 53 #[.pointer (some ⟨g, 0, none⟩), .string a, .string b] wx fun e w' => e = .returned (.int .i64 (askErr S [a, b] a)) ∧ Bo w0 Z g (S.rename a b) q R w' := by
  refine h.prog fun L hL => ?_
  unfold St.rename
  by_cases he : askErr S [a, b] a = 0
  · rw [if_pos he, he]
    exact rename_ok L g S a b wx hL he (hs.fine hD hk) ((hs.rename a b).2.2 he)
  · rw [if_neg he]
    refine (rename_bad L g S a b wx hL he).mono ?_
    rintro e w' ⟨rfl, hg⟩
    exact ⟨rfl, L, hL.keep (Turned.of_gb (M := fun _ => False) hg (by simp)) (fun _ _ h => h), ⟨Turned.of_gb hg (by simp), fun _ _ => rfl⟩⟩
theorem Bo.pRemove (h : Bo w0 Z g S q R wx) (hs : Sim D k S R') (hD : D ≤ 1000000) (hk : k ≤ 1000) (a : ByteArray) :
    Calls Tryz.prog 55 #[.pointer (some ⟨g, 0, none⟩), .string a] wx fun e w' => e = .returned (.int .i64 (askErr S [a] a)) ∧ Bo w0 Z g (S.remove a) q R w' :=
  h.prog fun L hL => remove_any L g S a wx hL (hs.fine hD hk) (hs.remove a).2.2
theorem Bo.pSyncDir (h : Bo w0 Z g S q R wx) (hs : Sim D k S R') (hD : D ≤ 1000000) (hk : k ≤ 1000) :
    Calls Tryz.prog 22 #[.pointer (some ⟨g, 0, none⟩)] wx fun e w' => e = .returned (.int .i64 S.syncDirE) ∧ Bo w0 Z g S.syncDir q R w' := by
  refine h.prog fun L hL => ?_
  unfold St.syncDirE St.syncDir
  cases hd : S.dead
  · exact syncdir_ok L g S wx hL (hs.fine hD hk) hd hs.hN
  · refine (syncdir_dead L g S wx hL hd).mono ?_
    rintro e w' ⟨rfl, rfl⟩
    exact FsPost.same0 hL _
theorem Bo.pSync (h : Bo w0 Z g S q R wx) (hs : Sim D k S R') (hD : D ≤ 1000000) (hk : k ≤ 1000) (n : Int) :
    Calls Tryz.prog 21 #[.pointer (some ⟨g, 0, none⟩), .int .i64 n] wx fun e w' => e = .returned (.int .i64 (S.syncE n)) ∧ Bo w0 Z g (S.sync n) q R w' := by
  refine h.prog fun L hL => ?_
  unfold St.syncE St.sync
  cases hd : S.dead
  · cases hn : S.file n with
    | none =>
      refine (sync_bad L g S n 7 wx hL (.inr ⟨hd, hn, rfl⟩)).mono ?_
      rintro e w' ⟨rfl, rfl⟩
      exact FsPost.same0 hL _
    | some f => exact sync_ok L g S n f wx hL (hs.fine hD hk) hd hn
  · refine (sync_bad L g S n 21 wx hL (.inl ⟨hd, rfl⟩)).mono ?_
    rintro e w' ⟨rfl, rfl⟩
    exact FsPost.same0 hL _
theorem Bo.pCut (h : Bo w0 Z g S q R wx) (hs : Sim D k S R') (hD : D ≤ 1000000) (hk : k ≤ 1000) (n z : Int) :
    Calls Tryz.prog 81 #[.pointer (some ⟨g, 0, none⟩), .int .i64 n, .int .i64 z] wx fun e w' => e = .returned (.int .i64 (S.cutE n z)) ∧ Bo w0 Z g (S.cut n z) q R w' :=
  h.prog fun L hL => cut_any L g S n z wx hL (hs.fine hD hk)
theorem Bo.pWrite (h : Bo w0 Z g S q R wx) (hs : Sim D k S R') (hD : D ≤ 1000000) (hk : k ≤ 1000) (n z : Int) (A : Option Addr) (m c B : Nat) (p : List UInt8) (hr : Rd wx B A (u8s p)) (hB : B ≤ wx.heap.size) (hm : m = p.length) (hp : p.length ≤ 400000000) :
    Calls Tryz.prog 78 #[.pointer (some ⟨g, 0, none⟩), .int .i64 n, .int .i64 z, .slice A m c] wx fun e w' => e = .returned (.int .i64 (S.writeE n z m)) ∧ Bo w0 Z g (S.write n z p) q R w' :=
  h.prog fun L hL => write_any L g S n z A m c B p wx hL (hs.fine hD hk) hr hB hm hp
theorem Bo.pAppend (h : Bo w0 Z g S q R wx) (hs : Sim D k S R') (hD : D ≤ 1000000) (hk : k ≤ 1000) (n : Int) (A : Option Addr) (m c B : Nat) (p : List UInt8) (hr : Rd wx B A (u8s p)) (hB : B ≤ wx.heap.size) (hm : m = p.length) (hp : p.length ≤ 400000000) :
    Calls Tryz.prog 20 #[.pointer (some ⟨g, 0, none⟩), .int .i64 n, .slice A m c] wx fun e w' => e = .returned (.int .i64 (S.appendE n m)) ∧ Bo w0 Z g (S.append n p) q R w' :=
  h.prog fun L hL => append_any L g S n A m c B p wx hL (hs.fine hD hk) hr hB hm hp
theorem Bo.pArm (h : Bo w0 Z g S q R wx) (n : Int) :
    Calls Tryz.prog 24 #[.pointer (some ⟨g, 0, none⟩), .int .i64 n] wx fun e w' => e = .returned (.tuple #[]) ∧ Bo w0 Z g (S.arm n) q R w' :=
  h.prog fun L hL => armed_in L g S n wx hL
theorem Bo.pCap (h : Bo w0 Z g S q R wx) (n : Int) :
    Calls Tryz.prog 60 #[.pointer (some ⟨g, 0, none⟩), .int .i64 n] wx fun e w' => e = .returned (.int .i64 (St.setCapE n)) ∧ Bo w0 Z g (S.setCap n) q R w' := by
  refine h.prog fun L hL => ?_
  unfold St.setCapE St.setCap
  by_cases c : n < 0 ∨ 67108864 < n
  · rw [if_pos c, if_pos c]
    refine (setCap_bad L g S n wx hL c).mono ?_
    rintro e w' ⟨rfl, rfl⟩
    exact FsPost.same0 hL _
  · rw [if_neg c, if_neg c]
    refine (setCap_ok L g S n wx hL (by omega) (by omega)).mono ?_
    rintro e w' ⟨rfl, h1, h2, h3⟩
    exact ⟨rfl, L, h1, ⟨Turned.of_gb h3 (fun i e => by injection e with e; subst e; exact .inl h2), fun _ _ => rfl⟩⟩
theorem Bo.pCrash (h : Bo w0 Z g S q R wx) (hs : Sim D k S R') (hD : D ≤ 1000000) (hk : k ≤ 1000) (dir : Int) (A : Option Addr) (c : Nat) (tl : List Tn) (hwy : wx.grownBy wy none) (hr : Rd wy wy.heap.size A (tcells tl)) (hA : ∀ a, A = some a → Z a.block ∨ wx.heap.size ≤ a.block) (htl : tl.length ≤ c ∧ c ≤ maxLen) :
    Calls Tryz.prog 7 #[.pointer (some ⟨g, 0, none⟩), .agg #[.int .i64 dir, .slice A tl.length c]] wy fun e w' => e = .returned (.tuple #[]) ∧ ∃ ks : List Int,
      ks.Nodup ∧ (∀ n, n ∈ ks ↔ ∃ x ∈ followed S.safe (S.changes.take (crashK S dir)), (x.2 : Int) = n) ∧ Bo w0 Z g (S.crashed dir tl ks) q R w' := by
  have hy := h.keep hwy
  have hlt : ∀ i, wx.heap.size ≤ i → ∀ L, FsAt wx L g S → L i = 0 := fun i hi L hL => Classical.byContradiction fun hc => by have := hL.lts hc; omega
  obtain ⟨L, O, h1, h2, h3, h4, h5⟩ := h
  have h1y := h1.keep (Turned.of_gb (M := fun _ => False) hwy (by simp)) (fun _ _ h => h)
  have h2y := h2.gb hwy
  obtain ⟨hd1, hd2⟩ := hs.dirs (crashN R' dir) (crashN_le dir)
  rw [hs.crashK]
  have hN : ∀ x ∈ followed S.safe (S.changes.take (crashN R' dir)), (S.files (x.2 : Int)).isSome := fun x hx => by
    obtain ⟨e, he, rfl⟩ := List.mem_map.1 (hd1.perm.mem_iff.1 hx)
    exact hd2 e he
  have hNl : (followed S.safe (S.changes.take (crashN R' dir))).length ≤ 100000 := by rw [hd1.len]; have := hs.lens _ (crashN_le (R := R') dir); have := hs.fl; omega
  have hcr := crash_any L g S dir A c tl wy h1y (hs.fine hD hk) (TnAt.of_rd hr fun a ha => ?_) htl (by rw [hs.crashK]; exact hN) (by rw [hs.crashK]; exact hNl) (hs.fGood hD hk)
  · refine hcr.mono ?_
    rintro e w' ⟨rfl, ks, L', k0, k1, k2, k3⟩
    rw [hs.crashK] at k1
    have hsz := hwy.size
    refine ⟨rfl, ks, k0, k1, L', O, k2, h2y.keep k3.turned (fun i hi hm => by have := (h4 i hi).1; omega), (h3.trans (Turned.of_gb (M := fun _ => False) hwy (by simp)) (fun _ _ h => h.elim)).trans k3.turned (fun i _ hm hz => by have := (h5 i hz).1; omega), fun i hi => ⟨(k3.same i (Nat.lt_of_lt_of_le (h4 i hi).2.1 hsz)).trans (h4 i hi).1, Nat.lt_of_lt_of_le (Nat.lt_of_lt_of_le (h4 i hi).2.1 hsz) k3.turned.size, (h4 i hi).2.2⟩, fun i hi => ⟨(k3.same i (Nat.lt_of_lt_of_le (h5 i hi).2 (Nat.le_trans h3.size hsz))).trans (h5 i hi).1, (h5 i hi).2⟩⟩
  · rcases hA a ha with hz | hz
    · exact (h5 _ hz).1
    · exact hlt _ hz L h1

/-! ## What the document's answers -/
theorem Bo.dCreate (h : Bo w0 Z g S q R wx) (hs : Sim D k S' R) (hD : D ≤ 1000000) (hk : k ≤ 1000) (a : ByteArray) :
    Calls Tryz.prog 50 #[.pointer (some ⟨q, 0, none⟩), .string a] wx fun e w' => e = .returned (.tuple #[.int .i64 (createR R a).1.1, .int .i64 (createR R a).1.2]) ∧ Bo w0 Z g S q (createR R a).2 w' :=
  h.doc fun bs vs vF vD vS vM hR _ => rCreate_any q R bs vs vF vD vS vM a wx hR (hs.rok hD hk) (by have := hs.fl; omega)
theorem Bo.dOpen (h : Bo w0 Z g S q R wx) (a : ByteArray) :
    Calls Tryz.prog 52 #[.pointer (some ⟨q, 0, none⟩), .string a] wx fun e w' => e = .returned (.tuple #[.int .i64 (if nameR R a = 0 ∧ 0 ≤ atR R.d a then ((R.d.getD (atR R.d a).toNat ⟨⟨#[]⟩, 0⟩).n : Int) else 0), .int .i64 (if nameR R a = 0 then (if 0 ≤ atR R.d a then 0 else 7) else nameR R a)]) ∧ Bo w0 Z g S q R w' := by
  obtain ⟨bs, vs, vF, vD, vS, vM, hR⟩ := h.rs
  refine (rOpen_any q R bs vs vF vD vS vM a wx hR).mono ?_
  rintro e w' ⟨rfl, rfl⟩
  exact ⟨rfl, h⟩
theorem Bo.dRename (h : Bo w0 Z g S q R wx) (hs : Sim D k S' R) (hD : D ≤ 1000000) (hk : k ≤ 1000) (a b : ByteArray) :
    Calls Tryz.prog 54 #[.pointer (some ⟨q, 0, none⟩), .string a, .string b] wx fun e w' => e = .returned (.int .i64 (renameR R a b).1) ∧ Bo w0 Z g S q (renameR R a b).2 w' :=
  h.doc fun bs vs vF vD vS vM hR _ => rRename_any q R bs vs vF vD vS vM a b wx hR (hs.rok hD hk)
theorem Bo.dRemove (h : Bo w0 Z g S q R wx) (hs : Sim D k S' R) (hD : D ≤ 1000000) (hk : k ≤ 1000) (a : ByteArray) :
    Calls Tryz.prog 56 #[.pointer (some ⟨q, 0, none⟩), .string a] wx fun e w' => e = .returned (.int .i64 (removeR R a).1) ∧ Bo w0 Z g S q (removeR R a).2 w' :=
  h.doc fun bs vs vF vD vS vM hR _ => rRemove_any q R bs vs vF vD vS vM a wx hR (hs.rok hD hk)
theorem Bo.dSyncDir (h : Bo w0 Z g S q R wx) (hs : Sim D k S' R) (hD : D ≤ 1000000) (hk : k ≤ 1000) :
    Calls Tryz.prog 57 #[.pointer (some ⟨q, 0, none⟩)] wx fun e w' => e = .returned (.int .i64 (syncDirR R).1) ∧ Bo w0 Z g S q (syncDirR R).2 w' :=
  h.doc fun bs vs vF vD vS vM hR _ => rSyncDir_any q R bs vs vF vD vS vM wx hR (hs.rok hD hk)
theorem Bo.dSync (h : Bo w0 Z g S q R wx) (hs : Sim D k S' R) (hD : D ≤ 1000000) (hk : k ≤ 1000) (n : Int) :
    Calls Tryz.prog 84 #[.pointer (some ⟨q, 0, none⟩), .int .i64 n] wx fun e w' => e = .returned (.int .i64 (syncR R n).1) ∧ Bo w0 Z g S q (syncR R n).2 w' :=
  h.doc fun bs vs vF vD vS vM hR _ => rSync_any q R bs vs vF vD vS vM n wx hR (hs.rok hD hk)
theorem Bo.dCut (h : Bo w0 Z g S q R wx) (hs : Sim D k S' R) (hD : D ≤ 1000000) (hk : k ≤ 1000) (n z : Int) :
    Calls Tryz.prog 82 #[.pointer (some ⟨q, 0, none⟩), .int .i64 n, .int .i64 z] wx fun e w' => e = .returned (.int .i64 (cutR R n z).1) ∧ Bo w0 Z g S q (cutR R n z).2 w' :=
  h.doc fun bs vs vF vD vS vM hR _ => rCut_any q R bs vs vF vD vS vM n z wx hR (hs.rok hD hk)
theorem Bo.dWrite (h : Bo w0 Z g S q R wx) (hs : Sim D k S' R) (hD : D ≤ 1000000) (hk : k ≤ 1000) (n z : Int) (p : ByteArray) (hp : p.size ≤ 100000000) :
    Calls Tryz.prog 79 #[.pointer (some ⟨q, 0, none⟩), .int .i64 n, .int .i64 z, .string p] wx fun e w' => e = .returned (.int .i64 (writeR R n z p).1) ∧ Bo w0 Z g S q (writeR R n z p).2 w' :=
  h.doc fun bs vs vF vD vS vM hR _ => rWrite_any q R bs vs vF vD vS vM n z p wx hR (hs.rok hD hk) hp
theorem Bo.dAppend (h : Bo w0 Z g S q R wx) (hs : Sim D k S' R) (hD : D ≤ 1000000) (hk : k ≤ 1000) (n : Int) (p : ByteArray) (hp : p.size ≤ 100000000) :
    Calls Tryz.prog 80 #[.pointer (some ⟨q, 0, none⟩), .int .i64 n, .string p] wx fun e w' => e = .returned (.int .i64 (appendR R n p).1) ∧ Bo w0 Z g S q (appendR R n p).2 w' :=
  h.doc fun bs vs vF vD vS vM hR _ => rAppend_any q R bs vs vF vD vS vM n p wx hR (hs.rok hD hk) hp
theorem Bo.dArm (h : Bo w0 Z g S q R wx) (n : Int) :
    Calls Tryz.prog 59 #[.pointer (some ⟨q, 0, none⟩), .int .i64 n] wx fun e w' => e = .returned (.tuple #[]) ∧ Bo w0 Z g S q (armR R n) w' :=
  h.doc fun bs vs vF vD vS vM hR _ => rArm_any q R bs vs vF vD vS vM n wx hR
theorem Bo.dCap (h : Bo w0 Z g S q R wx) (n : Int) :
    Calls Tryz.prog 61 #[.pointer (some ⟨q, 0, none⟩), .int .i64 n] wx fun e w' => e = .returned (.int .i64 (capR R n).1) ∧ Bo w0 Z g S q (capR R n).2 w' :=
  h.doc fun bs vs vF vD vS vM hR _ => rCap_any q R bs vs vF vD vS vM n wx hR
theorem Bo.dCrash (h : Bo w0 Z g S q R wx) (hs : Sim D k S' R) (hD : D ≤ 1000000) (hk : k ≤ 1000) (d : Int) (A : Option Addr) (c B : Nat) (l : List Tn) (hr : Rd wx B A (tcells l)) (hB : B ≤ wx.heap.size) (hl : l.length ≤ 1000000) (hZ : ∀ i, i < B → Z i) :
    Calls Tryz.prog 58 #[.pointer (some ⟨q, 0, none⟩), .agg #[.int .i64 d, .slice A l.length c]] wx fun e w' => e = .returned (.tuple #[]) ∧ Bo w0 Z g S q (crashR R d l) w' :=
  h.doc fun bs vs vF vD vS vM hR hn => rCrash_any q R bs vs vF vD vS vM d A c B l wx hR (hs.rok hD hk) hs.kinds (by have := hs.lens 0 (Nat.zero_le _); have := hs.fl; have := hs.ml; have e : (crashD R 0).length = R.safe.length := rfl; omega) hr hB hl (fun x hx => (hs.good x hx).goodR hD hk) (fun i hi => Classical.byContradiction fun hc => hn i hi (hZ i (by omega)))
end
end Go.Proofs.YtccapgcpdehicaaGreat
