/-
  A column in memory, what marks hang on, and column.count.
-/
import Derived.Test.YtfdckhnhancbdaaAc
import Derived.StillTailTactics
import Derived.Deep.CutBlock
namespace Go.Proofs.Ytfdckhnhancbdaa
open Go.RowKit
attribute [local go_sem ↓] Go.wp_at_zero Go.wp_at_succ

/-- Does a run begin at that place? -/
def newAt (es : List (Int × ByteArray)) (j : Nat) : Bool := decide (j = 0) || !decide (es[j]? = es[j - 1]?)
/-- Is the element at that place less than the one ahead? -/
def fallAt (es : List (Int × ByteArray)) (j : Nat) : Bool := decide (0 < j) && (match es[j]?, es[j - 1]? with | some a, some b => decide (cmpK a b < 0) | _, _ => false)
def bI (b : Bool) : Int := if b = true then 1 else 0
theorem bI_t : bI true = 1 := rfl
theorem bI_f : bI false = 0 := rfl
def colC (mark t : Int) (v : Value) (r f : Int) (rest : List Value) : Array Value := (.int .i64 mark :: .int .i64 t :: v :: .int .i64 r :: .int .i64 f :: rest).toArray
/-- A column in block g: its mark, its type, its elements (in row v), how many runs and falls are counted. -/
structure ColB (w : World) (base g : Nat) (ty : TypeId) (rest : List Value) (mark t : Int) (v : Value) (es : List (Int × ByteArray)) (r f : Int) : Prop where
  blk : w.heap[g]? = some (.cells (colC mark t v r f rest) ty (0, 0))
  own : w.ownsRow base 89 2 v es.length (kcs es)
  ne : v.ownBlock ≠ some g
theorem own_keep {w w' : World} {base n size : Nat} {t : TypeId} {v : Value} {xs : List Value} (ho : w.ownsRow base t size v n xs) (hk : ∀ g, v.ownBlock = some g → w'.heap[g]? = w.heap[g]?) : w'.ownsRow base t size v n xs := by
  refine ⟨ho.1, ?_⟩
  rcases ho.2 with h2 | ⟨g, cap, cur, rfl, h4, h5, h6⟩
  · exact .inl h2
  · exact .inr ⟨g, cap, cur, rfl, h4, (hk g rfl).trans h5, h6⟩
theorem own_lt {w : World} {base n size : Nat} {t : TypeId} {v : Value} {xs : List Value} (ho : w.ownsRow base t size v n xs) {g : Nat} (hg : v.ownBlock = some g) : g < w.heap.size ∧ base ≤ g := by
  rcases ho.2 with ⟨rfl, _⟩ | ⟨g', cap, cur, rfl, h4, h5, h6⟩
  · simp [Value.ownBlock] at hg
  · obtain rfl : g' = g := by simpa [Value.ownBlock] using hg
    exact ⟨blk_lt h5, h4⟩
theorem own_gb {w w' : World} {base n size : Nat} {t : TypeId} {v : Value} {xs : List Value} {row : Option Nat} (ho : w.ownsRow base t size v n xs) (hg : w.grownBy w' row) (hv : v.ownBlock = none ∨ v.ownBlock ≠ row) : w'.ownsRow base t size v n xs :=
  own_keep ho fun g e => hg.block g (own_lt ho e).1 (by rcases hv with h | h; exact absurd (e.symm.trans h) (by simp); exact fun e' => h (e.trans e'))
theorem gb_cell {w : World} {g i : Nat} (u : Value) : w.grownBy (w.setCell ⟨g, i, none⟩ u) (some g) := gb_setCell (w := w) (p := ⟨g, i, none⟩) (gb_refl w (some g)) (.inl rfl) u
theorem ColB.setR {w : World} {base g : Nat} {ty : TypeId} {rest : List Value} {mark t : Int} {v : Value} {es : List (Int × ByteArray)} {r f : Int} (h : ColB w base g ty rest mark t v es r f) (r' : Int) :
    ColB (w.setCell ⟨g, 3, none⟩ (.int .i64 r')) base g ty rest mark t v es r' f :=
  ⟨by simpa [colC] using blk_set h.blk 3 (.int .i64 r'), own_gb h.own (gb_cell _) (.inr h.ne), h.ne⟩
theorem ColB.setF {w : World} {base g : Nat} {ty : TypeId} {rest : List Value} {mark t : Int} {v : Value} {es : List (Int × ByteArray)} {r f : Int} (h : ColB w base g ty rest mark t v es r f) (f' : Int) :
    ColB (w.setCell ⟨g, 4, none⟩ (.int .i64 f')) base g ty rest mark t v es r f' :=
  ⟨by simpa [colC] using blk_set h.blk 4 (.int .i64 f'), own_gb h.own (gb_cell _) (.inr h.ne), h.ne⟩
theorem ColB.setRF {w : World} {base g : Nat} {ty : TypeId} {rest : List Value} {mark t : Int} {v : Value} {es : List (Int × ByteArray)} {r f : Int} (h : ColB w base g ty rest mark t v es r f) (r' f' : Int) :
    ColB ((w.setCell ⟨g, 3, none⟩ (.int .i64 r')).setCell ⟨g, 4, none⟩ (.int .i64 f')) base g ty rest mark t v es r' f' := by
  have h1 := blk_set h.blk 3 (.int .i64 r')
  have h2 := blk_set h1 4 (.int .i64 f')
  refine ⟨by simpa [colC] using h2, ?_, h.ne⟩
  exact own_gb (own_gb h.own (gb_cell _) (.inr h.ne)) (gb_cell _) (.inr h.ne)
theorem ColB.keep {w w' : World} {base g : Nat} {ty : TypeId} {rest : List Value} {mark t : Int} {v : Value} {es : List (Int × ByteArray)} {r f : Int} (h : ColB w base g ty rest mark t v es r f) (hk : ∀ b, b = g ∨ v.ownBlock = some b → w'.heap[b]? = w.heap[b]?) : ColB w' base g ty rest mark t v es r f :=
  ⟨(hk g (.inl rfl)).trans h.blk, own_keep h.own fun b hb => hk b (.inr hb), h.ne⟩
theorem ColB.gb {w w' : World} {base g : Nat} {ty : TypeId} {rest : List Value} {mark t : Int} {v : Value} {es : List (Int × ByteArray)} {r f : Int} (h : ColB w base g ty rest mark t v es r f) (hg : w.grownBy w' none) : ColB w' base g ty rest mark t v es r f :=
  ⟨blk_keep h.blk hg (by simp), own_gb h.own hg (by cases h' : v.ownBlock; exact .inl rfl; exact .inr (by simp)), h.ne⟩
/-- The cells of a column. -/
theorem ColB.cells {w : World} {base g : Nat} {ty : TypeId} {rest : List Value} {mark t : Int} {v : Value} {es : List (Int × ByteArray)} {r f : Int} (h : ColB w base g ty rest mark t v es r f) :
    w.cell? ⟨g, 0, none⟩ = some (.int .i64 mark) ∧ w.cell? ⟨g, 1, none⟩ = some (.int .i64 t) ∧ w.cell? ⟨g, 2, none⟩ = some v ∧ w.cell? ⟨g, 3, none⟩ = some (.int .i64 r) ∧ w.cell? ⟨g, 4, none⟩ = some (.int .i64 f) :=
  ⟨by rw [blk_cell h.blk]; rfl, by rw [blk_cell h.blk]; rfl, by rw [blk_cell h.blk]; rfl, by rw [blk_cell h.blk]; rfl, by rw [blk_cell h.blk]; rfl⟩
theorem own_form2 {w : World} {base : Nat} {e : TypeId} {v : Value} {n size : Nat} {xs : List Value} (h : w.ownsRow base e size v n xs) : ∃ A c, v = .slice A n c ∧ n ≤ c ∧ c ≤ maxLen ∧ Rd w w.heap.size A xs := by
  have h' := h
  rcases h.2 with ⟨rfl, rfl⟩ | ⟨g, cap, cur, rfl, _, _, hnc, hcm, _⟩
  · exact ⟨none, 0, rfl, Nat.le_refl _, Nat.zero_le _, Rd.of_own h'⟩
  · exact ⟨_, cap, rfl, hnc, hcm, Rd.of_own h'⟩
theorem Rd.key {w : World} {B : Nat} {A : Option Addr} {l : List (Int × ByteArray)} (h : Rd w B A (kcs l)) (hn : 0 < l.length) : ∃ b o, A = some ⟨b, o, none⟩ ∧ b < B ∧ ∀ j (hj : j < l.length), w.cell? ⟨b, o + j * 2, none⟩ = some (.int .i64 l[j].1) ∧ w.cell? ⟨b, o + j * 2 + 1, none⟩ = some (.string l[j].2) := by
  obtain ⟨b, o, h1, h2, h3⟩ := h.lay (by rw [← List.length_pos_iff, kcs_length]; omega)
  exact ⟨b, o, h1, h2, fun j hj => ⟨h3 _ _ (kcs_at l j hj).1, h3 _ _ (kcs_at l j hj).2⟩⟩

theorem ColB.ne' {w : World} {base g : Nat} {ty : TypeId} {rest : List Value} {mark t : Int} {B o n c : Nat} {es : List (Int × ByteArray)} {r f : Int} (h : ColB w base g ty rest mark t (.slice (some ⟨B, o, none⟩) n c) es r f) : some B ≠ some g := by
  have := h.ne
  simpa [Value.ownBlock] using this

theorem cell_same {w w' : World} {B : Nat} (h : w'.heap[B]? = w.heap[B]?) (i : Nat) : w'.cell? ⟨B, i, none⟩ = w.cell? ⟨B, i, none⟩ := World.cell?_of_block (a := ⟨B, i, none⟩) h

/-- What count leaves. -/
def CountP (base g : Nat) (ty : TypeId) (rest : List Value) (mark t : Int) (v : Value) (es : List (Int × ByteArray)) (r f : Int) (w : World) (e : Ending) (w' : World) : Prop :=
  e = .returned (.tuple #[]) ∧ ColB w' base g ty rest mark t v es r f ∧ w.grownBy w' (some g)
set_option maxHeartbeats 1000000 in
set_option maxRecDepth 100000 in
theorem count_first (base g : Nat) (ty : TypeId) (rest : List Value) (mark t : Int) (v : Value) (es : List (Int × ByteArray)) (r f n : Int) (w : World) (h : ColB w base g ty rest mark t v es r f) (h0 : 0 < es.length) (hn : n = 1 ∨ n = -1) (hr : -1000000 ≤ r ∧ r ≤ 1000000) :
    Calls Try.prog 63 #[.pointer (some ⟨g, 0, none⟩), .int .i64 0, .int .i64 n] w (CountP base g ty rest mark t v es (r + n) f w) := by
  obtain ⟨A, c, rfl, hc, hm, hrd⟩ := own_form2 h.own
  obtain ⟨c0, c1, c2, c3, c4⟩ := h.cells
  have z3 := blk_frozen h.blk 3
  have hl : ¬ es.length = 0 := by omega
  have hw : IntKind.i64.wrap (r + n) = r + n := by rw [IntKind.wrap_i64]; omega
  have HH := hide h
  clear h hrd
  go_enter Try.func63, Try.ntmps63
  go_wp2_with fail
  go_quiet (fail)
  go_wp2_with fail
  go_quiet (fail)
  go_wp2_with fail
  go_end0
  exact ⟨rfl, ((ColB.gb HH.out (gb_drewN (gb_refl w none) _)).setR (r + n)).gb (gb_drewN (gb_refl _ none) _), gb_drewN (gb_trans (gb_drewN (gb_refl w (some g)) _) (gb_cell _) (.inl rfl)) _⟩
set_option maxHeartbeats 2000000 in
set_option maxRecDepth 100000 in
/-- The elements at hand are equal just if g says so; they stand as f says. -/
theorem count_next (base g : Nat) (ty : TypeId) (rest : List Value) (mark t : Int) (v : Value) (es : List (Int × ByteArray)) (r f n : Int) (j m : Nat) (hj : j = m + 1) (w : World) (h : ColB w base g ty rest mark t v es r f) (hm : j < es.length) (hn : n = 1 ∨ n = -1) (hr : -1000000 ≤ r ∧ r ≤ 1000000) (hf : -1000000 ≤ f ∧ f ≤ 1000000)
    (a b : Int × ByteArray) (ha : es[j]? = some a) (hb : es[m]? = some b) (nb fb : Bool) (hnb : decide (a = b) = !nb) (hfb : decide (cmpK a b < 0) = fb) :
    Calls Try.prog 63 #[.pointer (some ⟨g, 0, none⟩), .int .i64 (j : Int), .int .i64 n] w (CountP base g ty rest mark t v es (r + n * bI nb) (f + n * bI fb) w) := by
  obtain ⟨A, c, rfl, hc, hml, hrd⟩ := own_form2 h.own
  obtain ⟨c0, c1, c2, c3, c4⟩ := h.cells
  have z3 := blk_frozen h.blk 3
  have z4 := blk_frozen h.blk 4
  obtain ⟨B, o, rfl, hlt, hcell⟩ := hrd.key (by omega)
  have HLT := hide hlt
  have HNE : Hid (some B ≠ some g) := hide h.ne'
  have k0 := hcell m (by omega)
  have k1 := hcell j hm
  have ea : es[j] = a := by
    rw [List.getElem?_eq_getElem hm] at ha
    exact Option.some.inj ha
  have eb : es[m] = b := by
    rw [List.getElem?_eq_getElem (by omega)] at hb
    exact Option.some.inj hb
  rw [ea] at k1
  rw [eb] at k0
  obtain ⟨k00, k01⟩ := k0
  obtain ⟨k10, k11⟩ := k1
  have hw1 : IntKind.i64.wrap (r + n) = r + n := by rw [IntKind.wrap_i64]; omega
  have hw2 : IntKind.i64.wrap (f + n) = f + n := by rw [IntKind.wrap_i64]; omega
  have hw3 : IntKind.i64.wrap ((j : Int) - 1) = (m : Int) := by rw [IntKind.wrap_i64]; unfold maxLen at hml; omega
  have hl1 : ¬ es.length ≤ j := by omega
  have hl3 : m < es.length := by omega
  have hl4 : 0 < j := by omega
  have hl5 : ((j : Int) == 0) = false := by simp; omega
  have hl6 : ¬ j = 0 := by omega
  have HEQ := fun w => equalIn_key a b w
  have HCM := hide (fun w => compare_any a b w)
  rw [hnb] at HEQ
  generalize cmpK a b = cc at *
  unfold kagg at HEQ HCM
  have HH := hide h
  clear h hrd hcell hlt ha hb ea eb hnb hj
  cases nb <;> cases fb
  all_goals
    go_enter Try.func63, Try.ntmps63
    go_wp2_with fail
    go_quiet (fail)
    go_wp2_with fail
    first
      | (obtain ⟨wb, hwb⟩ : ∃ wb, wb = (w.drewN nq).setCell ⟨g, 3, none⟩ (.int .i64 (r + n)) := ⟨_, rfl⟩
         have hB : ColB wb base g ty rest mark t (.slice (some ⟨B, o, none⟩) es.length c) es (r + n) f := by
           rw [hwb]; exact (HH.out.gb (gb_drewN (gb_refl w none) _)).setR (r + n)
         have hG : w.grownBy wb (some g) := by rw [hwb]; exact gb_trans (gb_drewN (gb_refl w (some g)) _) (gb_cell _) (.inl rfl)
         rw [← hwb])
      | (obtain ⟨wb, hwb⟩ : ∃ wb, wb = w.drewN nq := ⟨_, rfl⟩
         have hB : ColB wb base g ty rest mark t (.slice (some ⟨B, o, none⟩) es.length c) es r f := by
           rw [hwb]; exact HH.out.gb (gb_drewN (gb_refl w none) _)
         have hG : w.grownBy wb (some g) := by rw [hwb]; exact gb_drewN (gb_refl w (some g)) _
         rw [← hwb])
    obtain ⟨_, _, d2, _, d4⟩ := hB.cells
    have y4 := blk_frozen hB.blk 4
    have l00 := (cell_same (hG.block B (HLT.out) HNE.out) (o + m * 2)).trans k00
    have l01 := (cell_same (hG.block B (HLT.out) HNE.out) (o + m * 2 + 1)).trans k01
    have l10 := (cell_same (hG.block B (HLT.out) HNE.out) (o + j * 2)).trans k10
    have l11 := (cell_same (hG.block B (HLT.out) HNE.out) (o + j * 2 + 1)).trans k11
    have HB := hide hB
    have HG := hide hG
    clear hwb hB hG
    go_still_tail 18, (by kernel_rfl)
    go_wp2_with fail
    refine (HCM.out _).mono ?_
    rintro e w1 ⟨rfl, hg1⟩
    have hgb : wb.grownBy w1 none := ⟨hg1.os, hg1.tape, hg1.output, hg1.size, hg1.block⟩
    have hB1 := HB.out.gb hgb
    obtain ⟨_, _, _, _, d4⟩ := hB1.cells
    have y4 := blk_frozen hB1.blk 4
    have HB1 := hide hB1
    have HG1 := hide (gb_trans HG.out hgb (.inr (.inl rfl)))
    clear hg1 hgb hB1
    go_wp2_with fail
    go_end0
    first
      | exact ⟨rfl, by have h := HB1.out.setF (f + n); simpa [bI] using h, gb_trans HG1.out (gb_cell _) (.inl rfl)⟩
      | exact ⟨rfl, by have h := HB1.out; simpa [bI] using h, HG1.out⟩
end Go.Proofs.Ytfdckhnhancbdaa
