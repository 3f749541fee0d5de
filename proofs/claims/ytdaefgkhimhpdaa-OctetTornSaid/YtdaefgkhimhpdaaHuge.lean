/-
  An argument [][]byte; the contract of quiverlaw01.huge; the calls on bytes at hand.
-/
import Derived.Test.YtdaefgkhimhpdaaRow
import Derived.Test.YtdaefgkhimhpdaaRefF
import Derived.Deep.Matrix
namespace Go.Proofs.Ytdaefgkhimhpdaa
open Go.RowKit Go.ChangeShapes Go.WideShapes Go.ChangeAt

/-- At most the reach. -/
def Tiny (n : Nat) : Prop := n ≤ reachBytes
def AllTiny (l : List (Option Addr × Nat × List UInt8)) : Prop := ∀ x ∈ l, Tiny x.2.2.length

theorem RdB.more {w : World} {B B' : Nat} {A : Option Addr} {l : List (Option Addr × Nat × List UInt8)} (h : RdB w B A l) (hB : B ≤ B') : RdB w B' A l :=
  ⟨h.1.more hB, fun x hx => ⟨(h.2 x hx).1.more hB, (h.2 x hx).2⟩⟩

section
variable {H : Type} {enc : TypeId × Value → H}
/-- An argument [][]byte; each of its rows takes at most the reach. -/
theorem open_u8s {W : World} {base : Nat} {v : Value} {d : DataW H} {p : List MemPlace} (hv : Value.okWide Try.prog W .any base 35 v) (h : DataW.Trod enc Try.prog W 0 (fun _ => true) true 35 v d p)
    (hsz : ∀ n ∈ d.weights Try.prog 35, n ≤ reachBytes) :
    ∃ (A : Option Addr) (c : Nat) (l : List (Option Addr × Nat × List UInt8)), v = .slice A l.length c ∧ l.length ≤ c ∧ c ≤ maxLen ∧ RdB W W.heap.size A l ∧ AllTiny l := by
  obtain ⟨a0, len, cap, rfl⟩ := okWide_slice Try.underlying35 hv
  obtain ⟨fuel, hf⟩ := h
  rcases Go.Deep.open_int_rows Try.underlying35 Try.underlying22 Try.underlying5 Try.cellsSl Try.cells8 hf with ⟨hcs, _⟩ | ⟨a, len', cap', A, L, C, Z, hcs, _, hl, hm, hx, hr⟩
  · simp only [Value.cells, List.cons.injEq, and_true, Value.slice.injEq] at hcs
    obtain ⟨rfl, rfl, rfl⟩ := hcs
    exact ⟨none, 0, [], rfl, Nat.le_refl _, Nat.zero_le _, ⟨Rd.nil_, by simp⟩, by intro x hx; cases hx⟩
  · simp only [Value.cells, List.cons.injEq, and_true, Value.slice.injEq] at hcs
    obtain ⟨rfl, rfl, rfl⟩ := hcs
    simp only [Prod.mk.injEq] at hx
    obtain ⟨rfl, _⟩ := hx
    have hrow : ∀ r, r < len → (((Z r).take (L r)).map fun n => UInt8.ofNat n.toNat).length = L r := by
      intro r hr'
      obtain ⟨_, h1, _, h2, _⟩ := hr r (by omega)
      simp; omega
    have hu : ∀ r, r < len → u8s (((Z r).take (L r)).map fun n => UInt8.ofNat n.toNat) = ((Z r).take (L r)).map (Value.int .u8) := by
      intro r hr'
      obtain ⟨_, _, _, _, hwz, _⟩ := hr r (by omega)
      unfold u8s
      rw [List.map_map]
      apply List.map_congr_left
      intro n hn
      have hw := byte_wf (hwz n (List.mem_of_mem_take hn))
      simp only [Function.comp, Value.int.injEq, true_and, UInt8.toNat_ofNat']
      omega
    refine ⟨some a, cap, (List.range len).map fun r => (A r, C r, ((Z r).take (L r)).map fun n => UInt8.ofNat n.toNat), by simp, by simpa using hl, hm, ⟨?_, ?_⟩, ?_⟩
    · intro hn
      have h0 : 0 < len := by
        rcases Nat.eq_zero_or_pos len with h | h
        · subst h; simp [sls] at hn
        · exact h
      refine ⟨a, rfl, ?_, fun j u hu' => ?_⟩
      · have := World.block_lt_of_cell? W _ (hr 0 (by omega)).1
        rwa [add_block] at this
      · have hj : j < len := by
          have := (List.getElem?_eq_some_iff.1 hu').1
          simpa [sls] using this
        have hrw := hrow j hj
        rw [(hr j (by omega)).1, ← hu']
        simp only [sls, List.map_map, List.getElem?_map, List.getElem?_range hj, Option.map_some, Function.comp]
        rw [hrw]
    · intro x hx
      obtain ⟨r, hrm, rfl⟩ := List.mem_map.1 hx
      have hr' : r < len := List.mem_range.1 hrm
      obtain ⟨_, h1, h2, h3, _, h5, h6⟩ := hr r (by omega)
      refine ⟨?_, by show List.length _ ≤ C r; rw [hrow r hr']; exact h1, h2⟩
      show Rd W W.heap.size (A r) (u8s _)
      rw [hu r hr']
      rcases hA : A r with _ | a'
      · have := h5 hA
        have hz : Z r = [] := List.eq_nil_of_length_eq_zero (by omega)
        rw [hz]
        simp only [List.take_nil, List.map_nil]
        exact Rd.nil_
      · exact rd_of_ints (by omega) (fun i hi => (h6 a' hA).2 i (by omega))
    · intro x hx
      obtain ⟨r, hrm, rfl⟩ := List.mem_map.1 hx
      have hr' : r < len := List.mem_range.1 hrm
      obtain ⟨_, h1, h2, h3, _, h5, h6⟩ := hr r (by omega)
      show List.length _ ≤ reachBytes
      rw [hrow r hr']
      rcases hA : A r with _ | a'
      · have := h5 hA
        omega
      · have hin : (Go.Deep.intRow .u8 (A r) (L r) (Z r) : DataW H) ∈ (List.range len).map fun r => (Go.Deep.intRow .u8 (A r) (L r) (Z r) : DataW H) := List.mem_map.2 ⟨r, hrm, rfl⟩
        have hw := hsz ((lits .u8 ((Z r).take (L r)) : List (DataW H)).length + (lits .u8 ((Z r).drop (L r)) : List (DataW H)).length) (by
          unfold DataW.weights
          rw [Try.underlying35]
          simp only [List.mem_cons, List.mem_append]
          refine .inr (.inl (mem_weightsAll hin ?_))
          rw [hA]
          unfold Go.Deep.intRow DataW.weights
          rw [Try.underlying22]
          simp [Try.bytes8])
        simp [lits] at hw
        omega
end

theorem catB_tiny {l : List (Option Addr × Nat × List UInt8)} (h : AllTiny l) : (catB l).length ≤ l.length * reachBytes := by
  induction l with
  | nil => simp [catB]
  | cons a l ih =>
    have h1 := ih fun s hs => h s (by simp [hs])
    have h2 := h a (by simp)
    unfold Tiny at h2
    simp only [catB, List.flatMap_cons, List.length_append, List.length_cons] at *
    rw [Nat.add_mul]
    omega
theorem reach_is : reachBytes = 140737488351232 := rfl
theorem wrap_tiny {a b : Nat} (ha : a ≤ 61 * reachBytes) (hb : Tiny b) : wrap64 ((a : Int) + (b : Int)) = (a : Int) + (b : Int) := by
  unfold Tiny at hb
  rw [reach_is] at *
  unfold wrap64
  omega

def hugeB (l : List (Option Addr × Nat × List UInt8)) : Bool := decide (60 < l.length ∨ 20000 < (catB l).length)
theorem hugeB_yes {l : List (Option Addr × Nat × List UInt8)} (h : 60 < l.length ∨ 20000 < (catB l).length) : hugeB l = true := decide_eq_true h
theorem hugeB_no {l : List (Option Addr × Nat × List UInt8)} (h : ¬ (60 < l.length ∨ 20000 < (catB l).length)) : hugeB l = false := decide_eq_false h
theorem hugeB_bounds {l : List (Option Addr × Nat × List UInt8)} (h : hugeB l = false) : l.length ≤ 60 ∧ (catB l).length ≤ 20000 := by
  have := of_decide_eq_false h
  omega

theorem ret_bool {a b : Bool} (h : a = b) : Ending.returned (.bool a) = .returned (.bool b) := by rw [h]

set_option maxHeartbeats 2000000 in
set_option maxRecDepth 100000 in
theorem huge_any (AL : Option Addr) (cl B : Nat) (l : List (Option Addr × Nat × List UInt8)) (w : World) (hl : RdB w B AL l) (hs : AllTiny l) (h1 : l.length ≤ maxLen) :
    Calls Try.prog 17 #[.slice AL l.length cl] w fun e w' => e = .returned (.bool (hugeB l)) ∧ w = w' := by
  have HS := hide hs
  clear hs
  unfold maxLen at h1
  go_enter Try.func17, Try.ntmps17
  go_wp2
  go_loop [3, 4] (fun n i => ∃ k : Nat, k ≤ l.length ∧ k ≤ 61 ∧ i = .int .i64 k ∧ n = .int .i64 ((catB (l.take k)).length : Int)) (fun _ i => l.length - (intOf i).toNat)
  case atStart => exact ⟨0, by omega, by omega, rfl, rfl⟩
  case round =>
    obtain ⟨k, hk, hk61, rfl, rfl⟩ := hrel
    have hsm : (catB (l.take k)).length ≤ 61 * reachBytes := by
      have h := catB_tiny (l := l.take k) (fun t ht => HS.out t (List.mem_of_mem_take ht))
      have hl : (l.take k).length ≤ 61 := by simp; omega
      exact Nat.le_trans h (Nat.mul_le_mul hl (Nat.le_refl _))
    have HSM := hide hsm
    clear hsm
    by_cases hlt : k < l.length ∧ k ≤ 60
    · obtain ⟨hlt, hk60⟩ := hlt
      obtain ⟨ad, rfl, _, hc, _⟩ := hl.at_ hlt
      have hw := hide (wrap_tiny HSM.out (HS.out _ (List.getElem_mem hlt)))
      have hst := hide (catB_take l k hlt)
      go_wp2
      go_round
      case rel => exact ⟨k + 1, by omega, by omega, by go_num, by rw [hw.out, hst.out, List.length_append]; go_num⟩
      case measure => simp [intOf]; omega
    · by_cases c1 : 60 < l.length
      · have E := hide (hugeB_yes (l := l) (.inl c1))
        go_wp2
        all_goals (go_ret; refine ⟨?_, rfl⟩; rw [E.out]; first | done | exact ret_bool (by simp <;> omega))
      · have hks : l.take k = l := List.take_of_length_le (by omega)
        rw [hks]
        by_cases c2 : 20000 < (catB l).length
        · have E := hide (hugeB_yes (l := l) (.inr c2))
          clear hks
          go_wp2
          all_goals (go_ret; refine ⟨?_, rfl⟩; rw [E.out]; first | done | exact ret_bool (by simp <;> omega))
        · have E := hide (hugeB_no (l := l) (by omega))
          clear hks
          go_wp2
          all_goals (go_ret; refine ⟨?_, rfl⟩; rw [E.out]; first | done | exact ret_bool (by simp <;> omega))

/-! ## calls on bytes at hand -/

/-- New bytes, and an error beside them. -/
def SealPost (F : List UInt8) (x : Int) (w : World) (e : Ending) (w' : World) : Prop :=
  ∃ A n c, e = .returned (.tuple #[.slice A n c, .int .i64 x]) ∧ At8 w' (.slice A n c) F ∧ w.grownBy w' none
def OpenPost (r : List UInt8 × Nat × Nat) (w : World) (e : Ending) (w' : World) : Prop :=
  ∃ A n c, e = .returned (.tuple #[.slice A n c, .int .i64 (r.2.1 : Int), .int .i64 (r.2.2 : Int)]) ∧ At8 w' (.slice A n c) r.1 ∧ w.grownBy w' none
/-- A slice of byte slices at hand. -/
def AtS (w : World) (v : Value) (ls : List (List UInt8)) : Prop :=
  ∃ A c l, v = .slice A (l : List (Option Addr × Nat × List UInt8)).length c ∧ RdB w w.heap.size A l ∧ l.map (fun x => x.2.2) = ls
def FramesPost (r : List (List UInt8) × Nat × Nat) (w : World) (e : Ending) (w' : World) : Prop :=
  ∃ A n c, e = .returned (.tuple #[.slice A n c, .int .i64 (r.2.1 : Int), .int .i64 (r.2.2 : Int)]) ∧ AtS w' (.slice A n c) r.1 ∧ w.grownBy w' none

theorem AtS.grown {w w' : World} {v : Value} {ls : List (List UInt8)} (h : AtS w v ls) (hg : w.grownBy w' none) : AtS w' v ls := by
  obtain ⟨A, c, l, e, h1, h2⟩ := h
  exact ⟨A, c, l, e, (h1.grown hg (Nat.le_refl _) (by simp)).more hg.size, h2⟩

theorem SealPost.of {F : List UInt8} {x : Int} {w : World} {e : Ending} {w' : World} (h : NewBytesErr F x w e w') : SealPost F x w e w' := by
  obtain ⟨v, he, ho, hg⟩ := h
  obtain ⟨A, c, rfl, h3, h4, h5⟩ := At8.of_own ho rfl
  exact ⟨A, F.length, c, he, ⟨A, c, rfl, h3, h4, h5⟩, hg⟩
theorem OpenPost.of {r : List UInt8 × Nat × Nat} {w : World} {e : Ending} {w' : World} (h : Opened r w e w') : OpenPost r w e w' := by
  obtain ⟨v, he, ho, hg⟩ := h
  obtain ⟨A, c, rfl, h3, h4, h5⟩ := At8.of_own ho rfl
  exact ⟨A, r.1.length, c, he, ⟨A, c, rfl, h3, h4, h5⟩, hg⟩
theorem FramesPost.of {r : List (List UInt8) × Nat × Nat} {w : World} {e : Ending} {w' : World} (h : Framed r w e w') : FramesPost r w e w' := by
  obtain ⟨v, he, ho, hg⟩ := h
  obtain ⟨A, c, l, rfl, h1, h2⟩ := ho.rd
  exact ⟨A, l.length, c, he, ⟨A, c, l, rfl, h1, h2⟩, hg⟩

section
variable {w : World} {A : Option Addr} {n c : Nat} {bs : List UInt8}
theorem seal_at {AL : Option Addr} {cl : Nat} {l : List (Option Addr × Nat × List UInt8)} (hl : RdB w w.heap.size AL l) (h1 : l.length ≤ 1000000) (h3 : (catB l).length ≤ 1048576) :
    Calls Try.prog 18 #[.slice AL l.length cl] w (SealPost (frame (catB l)) 0 w) := (seal_ok AL cl l w hl h1 h3).mono fun _ _ h => SealPost.of h
theorem refSeal_at (h : At8 w (.slice A n c) bs) (h1 : bs.length ≤ 1048576) : Calls Try.prog 19 #[.slice A n c] w (SealPost (frame bs) 0 w) := by
  obtain ⟨A', c', e, _, _, hr⟩ := h
  injection e with e1 e2 e3
  subst e1; subst e2; subst e3
  exact (refSeal_ok _ _ bs w hr h1).mono fun _ _ h => SealPost.of h
theorem open_at (h : At8 w (.slice A n c) bs) (h1 : bs.length ≤ 100000000) : Calls Try.prog 20 #[.slice A n c] w (OpenPost (opn bs) w) := by
  obtain ⟨A', c', e, h2, h3, hr⟩ := h
  injection e with e1 e2 e3
  subst e1; subst e2; subst e3
  exact (open_any _ _ bs w hr h2 h3 h1).mono fun _ _ h => OpenPost.of h
theorem refOpen_at (h : At8 w (.slice A n c) bs) (h1 : bs.length ≤ 100000000) : Calls Try.prog 21 #[.slice A n c] w (OpenPost (opn bs) w) := by
  obtain ⟨A', c', e, h2, h3, hr⟩ := h
  injection e with e1 e2 e3
  subst e1; subst e2; subst e3
  exact (refOpen_any _ _ bs w hr h2 h1).mono fun _ _ h => OpenPost.of h
theorem frames_at (h : At8 w (.slice A n c) bs) (h1 : bs.length ≤ 100000000) : Calls Try.prog 22 #[.slice A n c] w (FramesPost (frs bs) w) := by
  obtain ⟨A', c', e, h2, h3, hr⟩ := h
  injection e with e1 e2 e3
  subst e1; subst e2; subst e3
  exact (frames_any _ _ bs w hr h2 h3 h1).mono fun _ _ h => FramesPost.of h
theorem refFrames_at (h : At8 w (.slice A n c) bs) (h1 : bs.length ≤ 100000000) : Calls Try.prog 23 #[.slice A n c] w (FramesPost (frs bs) w) := by
  obtain ⟨A', c', e, h2, h3, hr⟩ := h
  injection e with e1 e2 e3
  subst e1; subst e2; subst e3
  exact (refFrames_any _ _ bs w hr h2 h3 h1).mono fun _ _ h => FramesPost.of h
theorem refCrc_at (h : At8 w (.slice A n c) bs) (h1 : bs.length ≤ 100000000) : Calls Try.prog 25 #[.slice A n c] w fun e w' => e = .returned (.int .u32 (crc bs : Int)) ∧ w = w' := by
  obtain ⟨A', c', e, h2, h3, hr⟩ := h
  injection e with e1 e2 e3
  subst e1; subst e2; subst e3
  exact refCrc_any _ _ bs w _ hr h1
theorem same_at {A' : Option Addr} {n' c' : Nat} {ls : List (List UInt8)} (h : AtS w (.slice A n c) ls) (h' : AtS w (.slice A' n' c') ls) (h1 : ls.length ≤ 1000000000) :
    Calls Try.prog 27 #[.slice A n c, .slice A' n' c'] w fun e w' => e = .returned (.bool true) ∧ w.grownBy w' none := by
  obtain ⟨_, _, l, e, h2, h3⟩ := h
  injection e with e1 e2 e3
  subst e1; subst e2; subst e3
  obtain ⟨_, _, l', e, h2', h3'⟩ := h'
  injection e with e1 e2 e3
  subst e1; subst e2; subst e3
  have hl : l.length = ls.length := by rw [← h3]; simp
  have hl' : l'.length = ls.length := by rw [← h3']; simp
  rw [hl', ← hl]
  exact same_any _ _ _ _ w.heap.size l.length l l' w h2 h2' (Nat.le_refl _) rfl (h3.trans h3'.symm) (by omega)
end

end Go.Proofs.Ytdaefgkhimhpdaa
