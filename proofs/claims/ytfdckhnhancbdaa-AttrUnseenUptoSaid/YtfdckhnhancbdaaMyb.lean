/-
  Append of whatever is small: what becomes of the elements and of the mark.
-/
import Derived.Test.YtfdckhnhancbdaaMyc
import Derived.Test.YtfdckhnhancbdaaVc

namespace Go.Proofs.Ytfdckhnhancbdaa
open Go.RowKit
attribute [local go_sem ↓] Go.wp_at_zero Go.wp_at_succ

set_option maxHeartbeats 2000000 in
set_option maxRecDepth 100000 in
theorem append_bad (base g : Nat) (f : List Nat) (mark t : Int) (es : List (Int × ByteArray)) (vt : Int) (ht : vt ≠ t) (x1 x2 x3 : Value) (w : World) (h : IxF w base f g mark t es) :
    Calls Try.prog 15 #[.pointer (some ⟨g, 0, none⟩), .agg #[.int .i64 vt, x1, x2, x3]] w fun e w' => e = .returned (.tuple #[.bool false, .int .i64 31]) ∧ w.grownBy w' none := by
  obtain ⟨wa, hwa⟩ : ∃ wa, wa = w.alloc (.cells #[.int .i64 vt, x1, x2, x3] 26) := ⟨_, rfl⟩
  have hga : w.grownBy wa none := by rw [hwa]; exact gb_alloc (gb_refl w none) _
  have hba : wa.heap[w.heap.size]? = some (.cells #[.int .i64 vt, x1, x2, x3] 26 (0, 0)) := by rw [hwa]; exact heap_alloc_new w _
  obtain ⟨x, mb, tr, hI⟩ := h.gb hga
  have g1 : wa.cell? ⟨g, 1, none⟩ = some (.int .i64 t) := by rw [blk_cell hI.col.blk]; rfl
  have y0 : wa.cell? ⟨w.heap.size, 0, none⟩ = some (.int .i64 vt) := by rw [blk_cell hba]; rfl
  have hne : (vt == t) = false := by simp [ht]
  have hne2 : (vt != t) = true := by simp [ht]
  have HGA := hide hga
  have HWE := hide hwa
  clear hwa hga hba h hI
  go_enter Try.func15, Try.ntmps15
  go_wp2_with fail
  rw [← HWE.out]
  go_quiet (fail)
  go_wp2_with fail
  go_ret2
  exact ⟨rfl, gb_trans HGA.out (gb_drewN (gb_refl wa none) _) (.inl rfl)⟩
/-- The elements behind an Append. -/
def appK (t : Int) (es : List (Int × ByteArray)) (v : Vl) : List (Int × ByteArray) := if v.t = t then es ++ keysV v else es
def AppU (base g : Nat) (f : List Nat) (t : Int) (es : List (Int × ByteArray)) (w : World) (e : Ending) (w' : World) : Prop :=
  ∃ f' m b er, e = .returned (.tuple #[.bool b, .int .i64 er]) ∧ IxF w' base f' g m t es ∧ Mark5 m ∧ holdsG m es = true ∧ Wro w w' f ∧ ∀ x ∈ f', x ∈ f ∨ w.heap.size ≤ x
theorem app_any (base g : Nat) (f : List Nat) (mark t : Int) (hm : Mark5 mark) (es : List (Int × ByteArray)) (hh : holdsG mark es = true) (v : Vl) (nA : Option Addr) (nc : Nat) (sA : Option Addr) (sc : Nat) (lA : Option Addr) (lc ll : Nat) (w : World) (h : IxF w base f g mark t es) (hn : Rd w w.heap.size nA (i64s v.n)) (hs : Rd w w.heap.size sA (strs v.s))
    (hl : v.n.length ≤ 300 ∧ v.s.length ≤ 300) (hes : es.length ≤ 300) (hb : base ≤ w.heap.size) :
    Calls Try.prog 15 #[.pointer (some ⟨g, 0, none⟩), .agg #[.int .i64 v.t, .slice nA v.n.length nc, .slice sA v.s.length sc, .slice lA ll lc]] w (AppU base g f t (appK t es v) w) := by
  by_cases ht : v.t = t
  · subst ht
    have hk := keysV_len v 300 hl
    have ha : appK v.t es v = es ++ keysV v := if_pos rfl
    refine (appendG_any base g f mark hm es v nA nc sA sc lA lc ll w h hn hs ⟨by omega, by omega⟩ (by omega) hb true (decide_eq_true (by omega))).mono fun e w' hp => ?_
    obtain ⟨f', rfl, hI, hw, hf⟩ := hp.1 rfl
    rw [ha]
    refine ⟨f', _, _, _, rfl, hI, ?_, ?_, hw, hf⟩
    · cases holdsG mark (es ++ keysV v)
      · exact (show Mark5 0 by unfold Mark5; omega)
      · exact hm
    · cases e : holdsG mark (es ++ keysV v)
      · rfl
      · exact e
  · have ha : appK t es v = es := if_neg ht
    refine (append_bad base g f mark t es v.t ht _ _ _ w h).mono fun e w' ⟨he, hg⟩ => ?_
    rw [ha]
    exact ⟨f, mark, _, _, he, h.gb hg, hm, hh, Wro.of_none hg f, fun x hx => .inl hx⟩
end Go.Proofs.Ytfdckhnhancbdaa

/- What the law AttrUnseen asks of an index, each answer told by its elements alone. -/
namespace Go.Proofs.Ytfdckhnhancbdaa
open Go.RowKit

/-- The vector of elements. -/
def vecE (t : Int) (es : List (Int × ByteArray)) : Vl := if t = 3 then .mk 3 [] (es.map (·.2)) [] else .mk t (es.map (·.1)) [] []
def WfK (t : Int) (es : List (Int × ByteArray)) : Prop := ∀ x ∈ es, if t = 3 then x.1 = 0 else x.2 = noS
theorem vecE_t (t : Int) (es : List (Int × ByteArray)) : (vecE t es).t = t := by
  unfold vecE
  by_cases h : t = 3
  · rw [if_pos h, h]; rfl
  · rw [if_neg h]; rfl
theorem vecE_keys {t : Int} (ht : 1 ≤ t ∧ t ≤ 5) {es : List (Int × ByteArray)} (h : WfK t es) : keysV (vecE t es) = es := by
  unfold WfK at h
  by_cases h3 : t = 3
  · subst h3
    have e : vecE 3 es = .mk 3 [] (es.map (·.2)) [] := if_pos rfl
    rw [e]
    show (es.map (·.2)).map (fun x => ((0 : Int), x)) = es
    rw [List.map_map]
    conv => rhs; rw [← List.map_id es]
    apply List.map_congr_left
    intro x hx
    have := h x hx
    rw [if_pos rfl] at this
    exact Prod.ext this.symm rfl
  · have e : vecE t es = .mk t (es.map (·.1)) [] [] := if_neg h3
    rw [e]
    have e2 : keysV (.mk t (es.map (·.1)) [] []) = (es.map (·.1)).map (fun x => (x, noS)) := by
      unfold keysV
      have : ¬ ((Vl.mk t (es.map (·.1)) [] []).t = 3 ∨ (Vl.mk t (es.map (·.1)) [] []).t = -3) := by show ¬ (t = 3 ∨ t = -3); omega
      rw [if_neg this]
      rfl
    rw [e2, List.map_map]
    conv => rhs; rw [← List.map_id es]
    apply List.map_congr_left
    intro x hx
    have := h x hx
    rw [if_neg h3] at this
    exact Prod.ext rfl this.symm
theorem keysV_wf (v : Vl) (ht : 1 ≤ v.t ∧ v.t ≤ 5) : WfK v.t (keysV v) := by
  intro x hx
  unfold keysV at hx
  by_cases h3 : v.t = 3
  · rw [if_pos (.inl h3)] at hx
    rw [if_pos h3]
    obtain ⟨y, _, rfl⟩ := List.mem_map.1 hx
    rfl
  · rw [if_neg (by omega)] at hx
    rw [if_neg h3]
    obtain ⟨y, _, rfl⟩ := List.mem_map.1 hx
    rfl
theorem appK_wf {t : Int} (ht : 1 ≤ t ∧ t ≤ 5) {es : List (Int × ByteArray)} (h : WfK t es) (v : Vl) : WfK t (appK t es v) := by
  unfold appK
  by_cases e : v.t = t
  · rw [if_pos e]
    subst e
    intro x hx
    rcases List.mem_append.1 hx with hx | hx
    · exact h x hx
    · exact keysV_wf v ht x hx
  · rw [if_neg e]
    exact h
theorem appK_len (t : Int) (es : List (Int × ByteArray)) (v : Vl) (hes : es.length ≤ 300) (hl : v.n.length ≤ 300 ∧ v.s.length ≤ 300) : (appK t es v).length ≤ 600 := by
  have := keysV_len v 300 hl
  unfold appK
  split
  · rw [List.length_append]; omega
  · omega
theorem vector_u (base g : Nat) (f : List Nat) (mark t : Int) (es : List (Int × ByteArray)) (w : World) (h : IxF w base f g mark t es) (hl : es.length ≤ 1000000) :
    Calls Try.prog 21 #[.pointer (some ⟨g, 0, none⟩)] w (ValP (vecE t es) w) := by
  by_cases h3 : t = 3
  · subst h3
    refine (vectorS_ix base g f mark es w h hl).mono fun e w' ⟨A, c, he, hv, hg, ha⟩ => ?_
    rw [show vecE 3 es = .mk 3 [] (es.map (·.2)) [] from if_pos rfl]
    exact ⟨none, 0, A, c, none, 0, he, hv, hg, fun ad h => by cases h⟩
  · refine (vectorN_ix base g f mark t h3 es w h hl).mono fun e w' ⟨A, c, he, hv, hg, ha⟩ => ?_
    rw [show vecE t es = .mk t (es.map (·.1)) [] [] from if_neg h3]
    exact ⟨A, c, none, 0, none, 0, he, hv, hg, ha⟩
/-- Places, and an error. -/
def PlaP (l : List Nat) (er : Int) (w : World) (e : Ending) (w' : World) : Prop := ∃ A c, e = .returned (.tuple #[.slice A l.length c, .int .i64 er]) ∧ Rd w' w'.heap.size A (nts l) ∧ w.grownBy w' none
def findL (t : Int) (es : List (Int × ByteArray)) (a : Vl) : List Nat := match elemK t a with | some k => places es k | none => []
def rangeL (t : Int) (es : List (Int × ByteArray)) (lv hv : Option Vl) : List Nat := match bdK t lv, bdK t hv with | some kl, some kh => rangeK es (lv.map fun _ => kl) (hv.map fun _ => kh) | _, _ => []
def rangeE (t : Int) (lv hv : Option Vl) : Int := match bdK t lv, bdK t hv with | some _, some _ => 0 | _, _ => 31
theorem find_u (base g : Nat) (f : List Nat) (mark t : Int) (es : List (Int × ByteArray)) (a : Vl) (htb : 1 ≤ t ∧ t ≤ 5) (nA : Option Addr) (nc : Nat) (sA : Option Addr) (sc : Nat) (lA : Option Addr) (lc ll : Nat) (w : World) (h : IxF w base f g mark t es)
    (hn : Rd w w.heap.size nA (i64s a.n)) (hs : Rd w w.heap.size sA (strs a.s)) (hl : a.n.length ≤ 100000 ∧ a.s.length ≤ 100000) (hes : es.length ≤ 100000) :
    Calls Try.prog 23 #[.pointer (some ⟨g, 0, none⟩), .agg #[.int .i64 a.t, .slice nA a.n.length nc, .slice sA a.s.length sc, .slice lA ll lc]] w (PlaP (findL t es a) (erK (elemK t a)) w) := by
  unfold findL
  cases e : elemK t a with
  | none => exact (find_bad base g f mark t es a e htb nA nc sA sc lA lc ll w h hn hs hl).mono fun e w' ⟨he, hg⟩ => ⟨none, 0, he, Rd.nil_, hg⟩
  | some k => exact (find_ok base g f mark t es a k (elemK_some e).2 (elemK_some e).1 htb nA nc sA sc lA lc ll w h hn hs hl hes).mono fun e w' ⟨A, c, he, hr, hg, _⟩ => ⟨A, c, he, hr, hg⟩
theorem range_u (base g : Nat) (f : List Nat) (mark t : Int) (es : List (Int × ByteArray)) (htb : 1 ≤ t ∧ t ≤ 5) (lo hi : Option Addr) (lv hv : Option Vl) (w : World) (h : IxF w base f g mark t es) (hlo : BdA w lo lv) (hhi : BdA w hi hv) (hes : es.length ≤ 100000) (hso : mark = 1 → fallsK es = 0) :
    Calls Try.prog 24 #[.pointer (some ⟨g, 0, none⟩), .pointer lo, .pointer hi] w (PlaP (rangeL t es lv hv) (rangeE t lv hv) w) := by
  refine (range_any base g f mark t es htb lo hi lv hv w h hlo hhi hes hso).mono fun e w' hp => ?_
  unfold RangeP at hp
  unfold rangeL rangeE
  split at hp
  · rename_i kl kh e1 e2
    rw [e1, e2]
    obtain ⟨A, c, he, hr, hg, _⟩ := hp
    exact ⟨A, c, he, hr, hg⟩
  · rename_i hno
    have e : ∀ (α : Type) (x : (Int × ByteArray) → (Int × ByteArray) → α) (y : α), (match bdK t lv, bdK t hv with | some kl, some kh => x kl kh | _, _ => y) = y := fun α x y => by
      cases e1 : bdK t lv with
      | none => rfl
      | some kl =>
        cases e2 : bdK t hv with
        | none => rfl
        | some kh => exact absurd e2 (fun e2 => hno kl kh e1 e2)
    rw [e, e]
    exact ⟨none, 0, hp.1, Rd.nil_, hp.2⟩
/-- A mark that holds of the elements is found right. -/
theorem valid_u (mark t : Int) (hm : Mark5 mark) (ht : 1 ≤ t ∧ t ≤ 5) (es : List (Int × ByteArray)) (hw : WfK t es) (hh : holdsG mark es = true) (hes : es.length ≤ 100000) (nA : Option Addr) (nc : Nat) (sA : Option Addr) (sc : Nat) (lA : Option Addr) (lc ll : Nat) (w : World) (hn : Rd w w.heap.size nA (i64s (vecE t es).n)) (hs : Rd w w.heap.size sA (strs (vecE t es).s)) :
    Calls Try.prog 13 #[.int .i64 mark, .agg #[.int .i64 (vecE t es).t, .slice nA (vecE t es).n.length nc, .slice sA (vecE t es).s.length sc, .slice lA ll lc]] w fun e w' => e = .returned (.int .i64 0) ∧ w.grownBy w' none := by
  have h := valid_any mark hm (vecE t es) (by rw [vecE_t]; exact ht) nA nc sA sc lA lc ll w hn hs (by
    unfold vecE
    split
    · exact ⟨Nat.zero_le _, by show (es.map (·.2)).length ≤ _; rw [List.length_map]; exact hes⟩
    · exact ⟨by show (es.map (·.1)).length ≤ _; rw [List.length_map]; exact hes, Nat.zero_le _⟩)
  rw [vecE_keys ht hw, hh] at h
  exact h
end Go.Proofs.Ytfdckhnhancbdaa
