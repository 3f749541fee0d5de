/-
  attr's holds, stays, fault, Build (marks that do not ask how many unlike elements there are).
-/
import Derived.Test.YtfdckhnhancbdaaAi
namespace Go.Proofs.Ytfdckhnhancbdaa
open Go.RowKit
attribute [local go_sem ↓] Go.wp_at_zero Go.wp_at_succ

theorem ColB.setM {w : World} {base g : Nat} {ty : TypeId} {rest : List Value} {mark t : Int} {v : Value} {es : List (Int × ByteArray)} {r f : Int} (h : ColB w base g ty rest mark t v es r f) (m : Int) :
    ColB (w.setCell ⟨g, 0, none⟩ (.int .i64 m)) base g ty rest m t v es r f :=
  ⟨by simpa [colC] using blk_set h.blk 0 (.int .i64 m), own_gb h.own (gb_cell _) (.inr h.ne), h.ne⟩
theorem IxF.setM {w : World} {base g : Nat} {f : List Nat} {mark t : Int} {es : List (Int × ByteArray)} (h : IxF w base f g mark t es) (m : Int) : IxF (w.setCell ⟨g, 0, none⟩ (.int .i64 m)) base f g m t es := by
  obtain ⟨v, mb, tr, h⟩ := h
  have hne : ∀ b ∈ f, b ≠ g → (w.setCell ⟨g, 0, none⟩ (.int .i64 m)).heap[b]? = w.heap[b]? := fun b hb hn => (gb_cell (g := g) (i := 0) _).block b (h.lt b hb).2 (fun e => by injection e with e; exact hn e)
  have hgm : mb ≠ g := fun e => h.map.not_cells h.col.blk e.symm
  refine ⟨v, mb, tr, h.col.setM m, h.map.keep (hne mb (by rw [h.foot]; simp) hgm), fun x hx => own_gb (h.rows x hx) (gb_cell _) (.inr (own_ne (h.rows x hx) h.col.blk (by decide))), h.pl, h.foot, h.nd, h.bg⟩
/-- Is the vector as its mark says? (Of marks that ask for no count of unlike elements.) -/
def holdsK (mark : Int) (es : List (Int × ByteArray)) : Bool := !decide (mark = 1) || decide (fallsK es = 0)
def Mark3 (mark : Int) : Prop := mark = 0 ∨ mark = 1 ∨ mark = 3

set_option maxHeartbeats 1000000 in
set_option maxRecDepth 100000 in
theorem holds_any (base g : Nat) (ty : TypeId) (rest : List Value) (mark t : Int) (v : Value) (es : List (Int × ByteArray)) (fv : Value) (w : World) (h : ColB w base g ty rest mark t v es (runsK es) (fallsK es)) (hm : Mark3 mark) :
    Calls Try.prog 39 #[.pointer (some ⟨g, 0, none⟩), fv] w fun e w' => e = .returned (.bool (holdsK mark es)) ∧ w = w' := by
  obtain ⟨c0, c1, c2, c3, c4⟩ := h.cells
  have HE : Hid (fallsK es = 0 ∨ ¬ fallsK es = 0) := hide (by omega)
  unfold holdsK
  generalize fallsK es = fk at *
  clear h
  rcases hm with rfl | rfl | rfl
  · go_enter Try.func39, Try.ntmps39
    go_wp2_with fail
    go_ret
    exact ⟨rfl, rfl⟩
  · rcases HE.out with rfl | hf
    · go_enter Try.func39, Try.ntmps39
      go_wp2_with fail
      go_ret
      exact ⟨rfl, rfl⟩
    · have h1 : (fk == 0) = false := by simp [hf]
      have HD := hide (decide_eq_false hf)
      go_enter Try.func39, Try.ntmps39
      go_wp2_with fail
      go_ret
      exact ⟨by rw [HD.out]; rfl, rfl⟩
  · go_enter Try.func39, Try.ntmps39
    go_wp2_with fail
    go_ret
    exact ⟨rfl, rfl⟩

/-- What stays leaves. -/
def StaysP (base g : Nat) (f : List Nat) (mark t : Int) (es : List (Int × ByteArray)) (w : World) (e : Ending) (w' : World) : Prop :=
  e = .returned (.bool (holdsK mark es)) ∧ IxF w' base f g (bif holdsK mark es then mark else 0) t es ∧ w.grownBy w' (some g)
set_option maxHeartbeats 1000000 in
set_option maxRecDepth 100000 in
theorem stays_any (base g : Nat) (f : List Nat) (mark t : Int) (es : List (Int × ByteArray)) (w : World) (h : IxF w base f g mark t es) (hm : Mark3 mark) :
    Calls Try.prog 36 #[.pointer (some ⟨g, 0, none⟩)] w (StaysP base g f mark t es w) := by
  obtain ⟨wa, hwa⟩ : ∃ wa, wa = w.alloc (.cells #[.pointer (some ⟨g, 0, none⟩)] 30) := ⟨_, rfl⟩
  have hga : w.grownBy wa none := by rw [hwa]; exact gb_alloc (gb_refl w none) _
  have hI := h.gb hga
  obtain ⟨v, mb, tr, hB⟩ := hI
  have hblk := hB.col.blk
  have c0 : wa.cell? ⟨g, 0, none⟩ = some (.int .i64 mark) := by rw [blk_cell hblk]; rfl
  have z0 := blk_frozen hblk 0
  have y0 : wa.cell? ⟨w.heap.size, 0, none⟩ = some (.pointer (some ⟨g, 0, none⟩)) := by rw [hwa]; simp
  have HC := hide (fun fv => holds_any base g _ _ mark t v es fv wa hB.col hm)
  have HI := hide (h.gb hga)
  have HG := hide hga
  have HWE := hide hwa
  unfold StaysP
  generalize hh : holdsK mark es = hb at *
  clear h hm hwa hga hblk hB hh
  cases hb
  all_goals
    go_enter Try.func36, Try.ntmps36
    go_wp2_with (go_at_call 39; rw [← HWE.out]; refine (HC.out _).mono ?_; rintro e w1 ⟨rfl, rfl⟩)
    go_ret
    first
      | exact ⟨rfl, HI.out, gb_some HG.out _⟩
      | exact ⟨rfl, HI.out.setM 0, gb_trans (gb_some HG.out _) (gb_cell _) (.inl rfl)⟩
theorem fault_ok (kind t : Int) (x1 x2 x3 : Value) (hk : 0 ≤ kind ∧ kind ≤ 4) (ht : 1 ≤ t ∧ t ≤ 5) (w : World) :
    Calls Try.prog 33 #[.int .i64 kind, .agg #[.int .i64 t, x1, x2, x3]] w fun e w' => e = .returned (.int .i64 0) ∧ w.grownBy w' none := by
  have h1 : ¬ kind < 0 := by omega
  have h2 : ¬ 4 < kind := by omega
  have h3 : ¬ t < 1 := by omega
  have h4 : ¬ 5 < t := by omega
  have HG := hide (gb_alloc (gb_refl w none) (.cells #[.int .i64 t, x1, x2, x3] 26))
  clear hk ht
  go_enter Try.func33, Try.ntmps33
  go_wp2_with fail
  go_ret
  exact ⟨rfl, HG.out⟩
end Go.Proofs.Ytfdckhnhancbdaa
