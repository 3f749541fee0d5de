/-
  The contracts of octet.New and of the methods of octet.Reader.
-/
import Derived.Test.YtgilkaaholkgfaaOct3
namespace Go.Proofs.Ytgilkaaholkgfaa
open Go.RowKit

/-- A reader of the bytes bs at place p with error x lies in block g; its bytes in a row of bytes of its own. -/
def Rdr (w : World) (base g : Nat) (bs : List UInt8) (p : Nat) (x : Int) : Prop :=
  ∃ v, w.heap[g]? = some (.cells #[v, .int .i64 (p : Int), .int .i64 x] 132 (0, 0)) ∧ w.ownsRow base 5 1 v bs.length (u8s bs) ∧ base ≤ g

theorem Rdr.lt {w : World} {base g : Nat} {bs : List UInt8} {p : Nat} {x : Int} (h : Rdr w base g bs p x) : g < w.heap.size := blk_lt h.choose_spec.1
theorem Rdr.keep {w w' : World} {base g : Nat} {bs : List UInt8} {p : Nat} {x : Int} {row : Option Nat} (h : Rdr w base g bs p x) (hg : w.grownBy w' row) (h1 : row ≠ some g)
    (h2 : ∀ k cs t, row = some k → w.heap[k]? = some (.cells cs t (0, 0)) → t ≠ 5) (h3 : ∀ k, row = some k → ∃ cs t, w.heap[k]? = some (.cells cs t (0, 0))) : Rdr w' base g bs p x := by
  obtain ⟨v, a, b, c⟩ := h
  refine ⟨v, blk_keep a hg h1.symm, b.kept hg ?_, c⟩
  rcases row with _ | k
  · cases v.ownBlock <;> simp
  · right
    obtain ⟨cs, t, hk⟩ := h3 k rfl
    exact own_ne b hk (Ne.symm (h2 k cs t rfl hk))
theorem Rdr.grown {w w' : World} {base g : Nat} {bs : List UInt8} {p : Nat} {x : Int} (h : Rdr w base g bs p x) (hg : w.grownBy w' none) : Rdr w' base g bs p x :=
  h.keep hg (by simp) (by simp) (by simp)
theorem Rdr.drewN {w : World} {base g : Nat} {bs : List UInt8} {p : Nat} {x : Int} (h : Rdr w base g bs p x) (n : Nat) : Rdr (w.drewN n) base g bs p x := h

theorem set_own {w : World} {base g : Nat} {v : Value} {bs : List UInt8} {cs : Array Value} (ho : w.ownsRow base 5 1 v bs.length (u8s bs)) (h : w.heap[g]? = some (.cells cs 132 (0, 0))) (i : Nat) (u : Value) :
    (w.setCell ⟨g, i, none⟩ u).ownsRow base 5 1 v bs.length (u8s bs) :=
  ho.kept (gb_setCell (gb_refl w (some g)) (.inl rfl) u) (.inr (own_ne ho h (by decide)))

set_option maxHeartbeats 1000000 in
set_option maxRecDepth 100000 in
theorem new_any (A : Option Addr) (c : Nat) (bs : List UInt8) (w : World) (hr : Rd w w.heap.size A (u8s bs)) (h1 : bs.length ≤ 100000000) :
    Calls Try.prog 49 #[.slice A bs.length c] w fun e w' => ∃ g, e = .returned (.pointer (some ⟨g, 0, none⟩)) ∧ Rdr w' w.heap.size g bs 0 0 ∧ w.grownBy w' none := by
  go_enter Try.func49, Try.ntmps49
  go_wp2_with (go_at_call 74; refine (grown_any _ _ _ _ _ w.heap.size (Nat.le_refl _) hr (by omega) (by omega)).mono ?_; rintro e w1 ⟨v, rfl, hown, hg⟩; obtain ⟨A1, c1, rfl, _, _, _⟩ := own_form hown)
  go_ret
  exact ⟨w1.heap.size, rfl, ⟨_, heap_alloc_new w1 _, hown.alloc _, hg.size⟩, gb_alloc hg _⟩

set_option maxHeartbeats 1000000 in
set_option maxRecDepth 100000 in
theorem stopped_any (g : Nat) (v : Value) (p : Int) (err : Int) (w : World) (h : w.heap[g]? = some (.cells #[v, .int .i64 p, .int .i64 err] 132 (0, 0))) :
    Calls Try.prog 76 #[.pointer (some ⟨g, 0, none⟩)] w fun e w' => e = .returned (.bool (err != 0)) ∧ w = w' := by
  have h2 : w.cell? ⟨g, 2, none⟩ = some (.int .i64 err) := by rw [blk_cell h]; rfl
  clear h
  go_enter Try.func76, Try.ntmps76
  go_wp2
  go_ret
  exact ⟨by rfl, rfl⟩

set_option maxHeartbeats 1000000 in
set_option maxRecDepth 100000 in
theorem fail_any (g : Nat) (v : Value) (p : Int) (x y : Int) (w : World) (h : w.heap[g]? = some (.cells #[v, .int .i64 p, .int .i64 x] 132 (0, 0))) :
    Calls Try.prog 78 #[.pointer (some ⟨g, 0, none⟩), .int .i64 y] w fun e w' => e = .returned (.tuple #[]) ∧ w'.heap[g]? = some (.cells #[v, .int .i64 p, .int .i64 (rFail x y)] 132 (0, 0)) ∧ w.grownBy w' (some g) := by
  have h2 : w.cell? ⟨g, 2, none⟩ = some (.int .i64 x) := by rw [blk_cell h]; rfl
  have hf := blk_frozen h 2
  have hs := blk_set h 2 (.int .i64 y)
  have H := hide h
  have HS := hide hs
  clear h hs
  by_cases hx : x = 0
  · have e1 : rFail x y = y := by simp [rFail, hx]
    have E1 := hide e1
    have hb : (x == 0) = true := by simpa using hx
    clear e1 hx
    go_enter Try.func78, Try.ntmps78
    go_wp2
    go_end0
    exact ⟨rfl, by rw [E1.out]; exact HS.out, gb_setCell (gb_refl _ _) (.inl rfl) _⟩
  · have e1 : rFail x y = x := by simp [rFail, hx]
    have E1 := hide e1
    have hb : (x == 0) = false := by simpa using hx
    clear e1 hx
    go_enter Try.func78, Try.ntmps78
    go_wp2
    go_end0
    exact ⟨rfl, by rw [E1.out]; exact H.out, gb_refl _ _⟩

set_option maxHeartbeats 1000000 in
set_option maxRecDepth 100000 in
theorem skip_any (g : Nat) (v : Value) (p k : Nat) (x : Int) (w : World) (h : w.heap[g]? = some (.cells #[v, .int .i64 (p : Int), .int .i64 x] 132 (0, 0))) (hk : p + k ≤ 2000000000) :
    Calls Try.prog 80 #[.pointer (some ⟨g, 0, none⟩), .int .i64 (k : Int)] w fun e w' => e = .returned (.tuple #[]) ∧ w'.heap[g]? = some (.cells #[v, .int .i64 ((p + k : Nat) : Int), .int .i64 x] 132 (0, 0)) ∧ w.grownBy w' (some g) := by
  have h2 : w.cell? ⟨g, 1, none⟩ = some (.int .i64 (p : Int)) := by rw [blk_cell h]; rfl
  have hf := blk_frozen h 1
  have hs := blk_set h 1 (.int .i64 ((p + k : Nat) : Int))
  have H := hide h
  have HS := hide hs
  clear h hs
  by_cases hx : 0 < k
  · go_enter Try.func80, Try.ntmps80
    go_wp2
    go_end0
    exact ⟨rfl, by simpa using HS.out, gb_setCell (gb_refl _ _) (.inl rfl) _⟩
  · have e1 : p + k = p := by omega
    have E1 := hide e1
    clear e1
    go_enter Try.func80, Try.ntmps80
    go_wp2
    go_end0
    exact ⟨rfl, by rw [E1.out]; exact H.out, gb_refl _ _⟩

end Go.Proofs.Ytgilkaaholkgfaa
