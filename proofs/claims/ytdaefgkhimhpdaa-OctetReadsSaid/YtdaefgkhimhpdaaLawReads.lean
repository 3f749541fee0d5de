/-
  The walk of OctetReads: every readings of every bytes are as the document says (P1.5 to P1.7).
-/
import Derived.Test.YtdaefgkhimhpdaaRRdr4
import Derived.Test.YtdaefgkhimhpdaaLawBack
import Derived.Deep.SlicePairs
import Derived.Laws.OwnMore
import Derived.Deep.CutBlock
namespace Go.Proofs.Ytdaefgkhimhpdaa
open Go.RowKit Go.ChangeShapes Go.WideShapes Go.ChangeAt
attribute [local go_sem ↓] Go.wp_at_zero Go.wp_at_succ

/-- What is read, as cells. -/
def stepCells (l : List (Int × Int)) : List Value := l.flatMap fun s => [.int .i64 s.1, .int .i64 s.2]
theorem stepCells_at (l : List (Int × Int)) : ∀ (k : Nat) (h : k < l.length), (stepCells l)[k * 2]? = some (.int .i64 l[k].1) ∧ (stepCells l)[k * 2 + 1]? = some (.int .i64 l[k].2) := by
  induction l with
  | nil => intro k h; simp at h
  | cons a l ih =>
    intro k h
    have e : stepCells (a :: l) = .int .i64 a.1 :: .int .i64 a.2 :: stepCells l := rfl
    rw [e]
    cases k with
    | zero => exact ⟨rfl, rfl⟩
    | succ k =>
      have := ih k (by simpa using h)
      rw [show (k + 1) * 2 = k * 2 + 2 by omega]
      simpa using this
theorem stepCells_ne {l : List (Int × Int)} (h : 0 < l.length) : stepCells l ≠ [] := by
  cases l with
  | nil => simp at h
  | cons a l => simp [stepCells]

theorem Rdr.far {w w' : World} {base g k : Nat} {bs : List UInt8} {p : Nat} {x : Int} (h : Rdr w base g bs p x) (hg : w.grownBy w' (some k)) (hk : k < base) : Rdr w' base g bs p x := by
  obtain ⟨v, a, b, c⟩ := h
  refine ⟨v, blk_keep a hg (by intro e; injection e with e; omega), b.kept hg ?_, c⟩
  rcases hv : v.ownBlock with _ | j
  · exact .inl rfl
  · exact .inr (by intro e; injection e with e; have := (b.lt j hv).1; omega)
theorem RefR.far {w w' : World} {base g k : Nat} {bs : List UInt8} {p : Nat} {x : Int} (h : RefR w base g bs p x) (hg : w.grownBy w' (some k)) (hk : k < base) : RefR w' base g bs p x := by
  obtain ⟨v, a, b, c⟩ := h
  refine ⟨v, blk_keep a hg (by intro e; injection e with e; omega), b.kept hg ?_, c⟩
  rcases hv : v.ownBlock with _ | j
  · exact .inl rfl
  · exact .inr (by intro e; injection e with e; have := (b.lt j hv).1; omega)
/-- The one reader beside the other. -/
theorem Rdr.besideR {w w' : World} {b1 b2 g1 g2 : Nat} {B1 B2 : List UInt8} {p1 p2 : Nat} {x1 x2 : Int} (h : Rdr w b1 g1 B1 p1 x1) (h2 : RefR w b2 g2 B2 p2 x2) (hne : g2 ≠ g1) (hg : w.grownBy w' (some g2)) : Rdr w' b1 g1 B1 p1 x1 := by
  obtain ⟨v, hb, _, _⟩ := h2
  refine h.keep hg (fun e => hne (by injection e)) (fun k cs t e hk => ?_) (fun k e => ?_)
  · injection e with e
    subst e
    rw [hb] at hk
    injection hk with hk
    injection hk with _ ht
    subst ht
    decide
  · injection e with e
    subst e
    exact ⟨_, _, hb⟩
theorem RefR.besideR {w w' : World} {b1 b2 g1 g2 : Nat} {B1 B2 : List UInt8} {p1 p2 : Nat} {x1 x2 : Int} (h2 : RefR w b2 g2 B2 p2 x2) (h : Rdr w b1 g1 B1 p1 x1) (hne : g1 ≠ g2) (hg : w.grownBy w' (some g1)) : RefR w' b2 g2 B2 p2 x2 := by
  obtain ⟨v, hb, _, _⟩ := h
  refine h2.keep hg (fun e => hne (by injection e)) (fun k cs t e hk => ?_) (fun k e => ?_)
  · injection e with e
    subst e
    rw [hb] at hk
    injection hk with hk
    injection hk with _ ht
    subst ht
    decide
  · injection e with e
    subst e
    exact ⟨_, _, hb⟩

/-- The two readers, at one place with one error. -/
def Both (b1 b2 g1 g2 : Nat) (bs : List UInt8) (p : Nat) (x : Int) (w wr : World) : Prop := Rdr wr b1 g1 bs p x ∧ RefR wr b2 g2 bs p x ∧ w.grownBy wr none ∧ p ≤ bs.length
/-- Behind the first one's answer. -/
def Half (b1 b2 g1 g2 : Nat) (bs : List UInt8) (p : Nat) (x : Int) (p' : Nat) (x' : Int) (w wr : World) : Prop := Rdr wr b1 g1 bs p' x' ∧ RefR wr b2 g2 bs p x ∧ w.grownBy wr none
theorem Both.half {b1 b2 g1 g2 : Nat} {bs : List UInt8} {p p' : Nat} {x x' : Int} {w wr w2 : World} (h : Both b1 b2 g1 g2 bs p x w wr) (hne : g1 ≠ g2) (hge : w.heap.size ≤ g1) (hg : wr.grownBy w2 (some g1)) (hr : Rdr w2 b1 g1 bs p' x') : Half b1 b2 g1 g2 bs p x p' x' w w2 := by
  obtain ⟨h1, h2, h3, _⟩ := h
  exact ⟨hr, h2.besideR h1 hne hg, gb_trans h3 hg (.inr (.inr ⟨g1, rfl, hge⟩))⟩
theorem Half.both {b1 b2 g1 g2 : Nat} {bs : List UInt8} {p p' : Nat} {x x' : Int} {w wr w2 : World} (h : Half b1 b2 g1 g2 bs p x p' x' w wr) (hne : g1 ≠ g2) (hge : w.heap.size ≤ g2) (hg : wr.grownBy w2 (some g2)) (hr : RefR w2 b2 g2 bs p' x') (hp : p' ≤ bs.length) : Both b1 b2 g1 g2 bs p' x' w w2 := by
  obtain ⟨h1, h2, h3⟩ := h
  exact ⟨h1.besideR h2 (Ne.symm hne) hg, hr, gb_trans h3 hg (.inr (.inr ⟨g2, rfl, hge⟩)), hp⟩

theorem Both.far {b1 b2 g1 g2 k : Nat} {bs : List UInt8} {p : Nat} {x : Int} {w wr w2 : World} (h : Both b1 b2 g1 g2 bs p x w wr) (hg : wr.grownBy w2 (some k)) (hk : k < b1) (hb : b1 ≤ b2) (hw : w.heap.size ≤ k) : Both b1 b2 g1 g2 bs p x w w2 :=
  ⟨h.1.far hg hk, h.2.1.far hg (by omega), gb_trans h.2.2.1 hg (.inr (.inr ⟨k, rfl, hw⟩)), h.2.2.2⟩
theorem own_at0 {w : World} {base n c : Nat} {t : TypeId} {A : Option Addr} {xs : List Value} (h : w.ownsRow base t 1 (.slice A n c) n xs) (hn : 0 < n) : ∃ g, A = some ⟨g, 0, none⟩ := by
  have h0 := h.1
  have h2 := h.2
  rcases h2 with ⟨_, hx⟩ | ⟨g, cap, cur, hv, _⟩
  · subst hx
    simp at h0
    omega
  · injection hv with e
    exact ⟨g, e⟩

theorem stepCell_in {w W : World} {b o k : Nat} {l : List (Int × Int)} {u : Value} (h : Rd w w.heap.size (some ⟨b, o, none⟩) (stepCells l)) (hg : w.grownBy W none) (hk : k < l.length) (hu : (stepCells l)[k * 2 + 1]? = some u) : W.cell? ⟨b, o + k * 2 + 1, none⟩ = some u := by
  obtain ⟨b', o', e, _, hc⟩ := (h.grown hg (Nat.le_refl _) (by simp)).lay (stepCells_ne (by omega))
  injection e with e
  injection e with e1 e2
  subst e1; subst e2
  exact hc _ _ hu
theorem gb_undrew {w w' : World} {g : Option Nat} (h : w.drew.grownBy w' g) : w.grownBy w' g := ⟨h.os, h.tape, h.output, h.size, h.block⟩
/-- octet.Reader.Fail. -/
theorem failR_any {w : World} {base g : Nat} {bs : List UInt8} {p : Nat} {x : Int} (h : Rdr w base g bs p x) (y : Int) :
    Calls Try.prog 40 #[.pointer (some ⟨g, 0, none⟩), .int .i64 y] w (After base g bs (.tuple #[]) p (rFail x y) w) := by
  obtain ⟨v, a, b, c⟩ := h
  refine (fail_any g v p x y w a).mono fun e w' ⟨he, hb, hg⟩ => ⟨he, ⟨v, hb, b.kept hg (.inr (own_ne b a (by decide))), c⟩, hg⟩

theorem left_as2 {w : World} {base g n : Nat} {bs : List UInt8} {p : Nat} {x : Int} (h : Rdr w base g bs p x) (hp : p ≤ bs.length) (hl : bs.length ≤ 100000000) (hn : bs.length = n) :
    Calls Try.prog 44 #[.pointer (some ⟨g, 0, none⟩)] w fun e w' => e = .returned (.int .i64 ((n : Int) - (p : Int))) ∧ ∃ n, w' = w.drewN n := by
  subst hn
  have := left_any base g bs p x w h hp hl
  rw [show ((bs.length - p : Nat) : Int) = (bs.length : Int) - (p : Int) by omega] at this
  exact this

def SomeBoth (b1 b2 g1 g2 : Nat) (bs : List UInt8) (w wr : World) : Prop := ∃ p x, Both b1 b2 g1 g2 bs p x w wr

theorem xor55 (b : UInt8) : bits .xor .u8 (b.toNat : Int) 85 = ((b ^^^ 85).toNat : Int) := by
  have := u8_xor_nat b.toNat 85 b.toNat_lt (by decide)
  rw [UInt8.toNat_xor]
  exact this

set_option maxHeartbeats 8000000 in
set_option maxRecDepth 100000 in
theorem reads_main (A AL : Option Addr) (c cl : Nat) (bs : List UInt8) (l : List (Int × Int)) (w : World)
    (hb : Rd w w.heap.size A (u8s bs)) (hl : Rd w w.heap.size AL (stepCells l)) (hI : ∀ s ∈ l, I64 s.1 ∧ I64 s.2) (h1 : bs.length ≤ 20000) (h2 : l.length ≤ 60) :
    Calls Try.prog 5 #[.slice A bs.length c, .slice AL l.length cl] w fun e w' => e = .returned (.bool true) ∧ w.grownBy w' none := by
  have LV := hide live_any
  have HB := hide hb; have HL := hide hl; have HI := hide hI
  clear hb hl hI
  go_enter Try.func5, Try.ntmps5
  go_wp2_with (first
    | (at_builtin; go_loud (refine app8 (base := w.heap.size) (World.ownsRow_made w #[] 0 (Nat.le_refl _) (by unfold maxLen; omega) rfl) (HB.out.alloc (Nat.le_refl _) _) (u8s_length bs) (u8s_cell bs) (by omega) (by simp) rfl rfl rfl rfl ?_); intro v1 w1 hown1 hg1 hwh1; have hw1 := own_as (m := bs.length) (ys := u8s bs) hown1 (by simp) (by simp); have hgw1 : w.grownBy w1 none := gb_trans (gb_alloc (gb_refl w none) _) hg1 (.inr (.inr ⟨_, rfl, Nat.le_refl _⟩)); obtain ⟨A1, c1, rfl, hnc1, hcm1, hrd1⟩ := own_form hw1; have O1 := hide hw1; have G1 := hide hgw1; clear hown1 hg1 hwh1 hw1 hgw1 hcm1)
    | (go_at_call 28; refine (new_any _ _ _ _ hrd1 (by omega)).mono ?_; rintro e w2 ⟨g1, rfl, hr2, hg2⟩; have R2 := hide hr2; have G2 := hide (gb_trans G1.out hg2 (.inl rfl)); have O2 := hide (own_grown O1.out hg2); have hge1 := hr2.choose_spec.2.2; have hgs1 := G1.out.size; clear hr2 hg2 hrd1)
    | (go_at_call 29; refine (refNew_any _ _ _ _ ((HB.out.grown G2.out (Nat.le_refl _) (by simp)).more G2.out.size) (by omega)).mono ?_; rintro e w3 ⟨g2, rfl, hr3, hg3⟩; have Q3 := hide hr3; have R3 := hide (R2.out.grown hg3); have G3 := hide (gb_trans G2.out hg3 (.inl rfl)); have O3 := hide (own_grown O2.out hg3); have hge2 := hr3.ge; have hlt1 := R2.out.lt; have hgs2 := G2.out.size; clear hr3 hg3))
  have hne : g1 ≠ g2 := by omega
  have hwg1 : w.heap.size ≤ g1 := by omega
  have hwg2 : w.heap.size ≤ g2 := by omega
  have hO1 := hide (fun k hk => (O1.out.lt k hk).2)
  have BB := hide (show Both w1.heap.size w2.heap.size g1 g2 bs 0 0 w w3 from ⟨R3.out, Q3.out, G3.out, Nat.zero_le _⟩)
  have hb12 : w1.heap.size ≤ w2.heap.size := by omega
  generalize w1.heap.size = b1 at *
  generalize w2.heap.size = b2 at *
  clear R2 R3 Q3 G1 G2 G3 O1 O2 hge1 hge2 hlt1 hgs1 hgs2
  generalize hn : bs.length = n at *
  have HN := hide hn
  clear hn
  go_loopw [8] (fun i wr => ∃ (k : Nat) (cur : List UInt8), k ≤ n ∧ cur.length = n ∧ i = .int .i64 k ∧ wr.ownsRow w.heap.size 5 1 (.slice A1 n c1) n (u8s cur) ∧ Both b1 b2 g1 g2 bs 0 0 w wr) (fun i _ => n - (intOf i).toNat)
  case atStart => exact ⟨0, bs, by omega, HN.out, rfl, O3.out, BB.out⟩
  case round =>
    obtain ⟨k, cur, hk, hcl, rfl, hown, hbo⟩ := hrel
    have HCL := hide hcl; have HO := hide hown; have HBO := hide hbo
    clear hcl hown hbo
    by_cases hlt : k < n
    · obtain ⟨g, rfl⟩ := own_at0 HO.out (by omega)
      have hcl := HCL.out
      have hkc : k < cur.length := by omega
      have hcell := HO.out.cellAt k (by omega)
      rw [show (u8s cur)[k]? = some (.int .u8 (cur[k].toNat : Int)) by simp [u8s, hkc]] at hcell
      have hfz := HO.out.frozenAt k
      have hst := HO.out.stored k (.int .u8 (bits .xor .u8 (cur[k].toNat : Int) 85))
      have hgl := HO.out.lt g rfl
      have hgb := hO1.out g rfl
      have HS1 := hide (own_as (m := n) (ys := u8s (cur.set k (cur[k] ^^^ 85))) hst.1 rfl (by rw [xor55]; simp [u8s, List.map_set]))
      have HS2 := hide (HBO.out.far hst.2 hgb hb12 hgl.1)
      have HCS := hide (show (cur.set k (cur[k] ^^^ 85)).length = n by rw [List.length_set]; exact hcl)
      clear hst hcl
      generalize cur[k] = b at *
      clear hkc
      go_wp2
      go_roundw
      case rel => exact ⟨k + 1, _, by omega, HCS.out, by go_num, HS1.out, HS2.out⟩
      case measure => simp [intOf]; omega
    · clear HO HCL O3 hk
      go_wp2
      go_loopw [9] (fun i wr => ∃ k : Nat, k ≤ l.length ∧ i = .int .i64 k ∧ SomeBoth b1 b2 g1 g2 bs w wr) (fun i _ => l.length - (intOf i).toNat)
      case atStart => exact ⟨0, by omega, rfl, 0, 0, HBO.out⟩
      case round =>
        obtain ⟨k2, hk2, rfl, p, x, hbo⟩ := hrel
        have HBO := hide hbo
        clear hbo hlt
        by_cases hlt : k2 < l.length
        · obtain ⟨b, o, rfl, _, hcells⟩ := (HL.out.grown HBO.out.2.2.1 (Nat.le_refl _) (by simp)).lay (stepCells_ne (by omega))
          have hst := stepCells_at l k2 hlt
          have c0 := hcells _ _ hst.1
          have c1 := hcells _ _ hst.2
          have hI2 := HI.out _ (List.getElem_mem hlt)
          have hsl := hst
          generalize l[k2] = s2 at c0 c1 hI2 hsl
          obtain ⟨kd, mo⟩ := s2
          dsimp only at c0 c1 hI2 hsl
          have HCM := hide (fun (W : World) (hW : w.grownBy W none) => stepCell_in HL.out hW hlt hsl.2)
          clear hcells hst hsl
          have HC := hide (fun (W : World) (hW : w.grownBy W none) => (show W.cell? ⟨b, o + k2 * 2 + 1, none⟩ = some (.int .i64 mo) from HCM.out W hW))
          have HBL := hide (show bs.length ≤ 100000000 by rw [HN.out]; omega)
          clear HCM
          go_upto_block 4 with fail
          go_cut [10] (fun s10 wc => s10 = .bool true ∧ SomeBoth b1 b2 g1 g2 bs w wc)
          case first =>
            by_cases k0 : kd = 0
            · subst k0
              go_wp2_with (first
                | (go_at_call 30; refine (num_any _ _ _ _ _ _ HBO.out.1 HBO.out.2.2.2 HBL.out).mono ?_; rintro e w4 ⟨rfl, hr4, hg4⟩; have HH := hide (HBO.out.half hne hwg1 hg4 hr4); clear hr4 hg4)
                | (go_at_call 31; refine (refNum_any _ _ _ _ _ _ HH.out.2.1 HBO.out.2.2.2 HBL.out).mono ?_; rintro e w5 ⟨rfl, hr5, hg5⟩; have HE := hide (HH.out.both hne hwg2 hg5 hr5 (rNum_le bs p x HBO.out.2.2.2)); clear hr5 hg5))
              go_meet
              case rel => exact ⟨rfl, _, _, HE.out⟩
            · skip
              by_cases k1 : kd = 1
              · subst k1
                go_wp2_with (first
                  | (go_at_call 32; refine (int_any _ _ _ _ _ _ HBO.out.1 HBO.out.2.2.2 HBL.out).mono ?_; rintro e w4 ⟨rfl, hr4, hg4⟩; have HH := hide (HBO.out.half hne hwg1 hg4 hr4); clear hr4 hg4)
                  | (go_at_call 33; refine (refInt_any _ _ _ _ _ _ HH.out.2.1 HBO.out.2.2.2 HBL.out).mono ?_; rintro e w5 ⟨rfl, hr5, hg5⟩; have HE := hide (HH.out.both hne hwg2 hg5 hr5 (rNum_le bs p x HBO.out.2.2.2)); clear hr5 hg5))
                go_meet
                case rel => exact ⟨rfl, _, _, HE.out⟩
              · skip
                by_cases k2' : kd = 2
                · subst k2'
                  go_wp2_with (first
                    | (go_at_call 34; refine (byte_any _ _ _ _ _ _ HBO.out.1 HBO.out.2.2.2 HBL.out).mono ?_; rintro e w4 ⟨rfl, hr4, hg4⟩; have HH := hide (HBO.out.half hne hwg1 hg4 hr4); clear hr4 hg4)
                    | (go_at_call 35; refine (refByte_any _ _ _ _ _ _ HH.out.2.1 HBO.out.2.2.2 HBL.out).mono ?_; rintro e w5 ⟨rfl, hr5, hg5⟩; have HE := hide (HH.out.both hne hwg2 hg5 hr5 (rByte_le bs p x HBO.out.2.2.2)); clear hr5 hg5))
                  go_meet
                  case rel => exact ⟨rfl, _, _, HE.out⟩
                · skip
                  by_cases k3 : kd = 3
                  · subst k3
                    go_wp2_with fail
                    go_region_held3 (fun w' => w'.cell? ⟨b, o + k2 * 2 + 1, none⟩ = some (.int .i64 mo)) (first | assumption | go_keep)
                      (first
                      | (go_simp; go_at_call 36; refine (text_any _ _ _ _ _ mo _ (HBO.out.1.drewN 1) HBO.out.2.2.2 HBL.out hI2.2).mono ?_; rintro e w4 ⟨rfl, hr4, hg4⟩; have HH := hide (HBO.out.half hne hwg1 (gb_undrew hg4) hr4); have c4 := HC.out _ HH.out.2.2; clear hr4 hg4)
                      | (go_simp; go_at_call 37; refine (refText_any _ _ _ _ _ mo _ HH.out.2.1 HBO.out.2.2.2 HBL.out hI2.2).mono ?_; rintro e w5 ⟨rfl, hr5, hg5⟩; have HE := hide (HH.out.both hne hwg2 hg5 hr5 (rText_le bs p x mo HBO.out.2.2.2)); have c5 := HC.out _ HE.out.2.2.1; clear hr5 hg5))
                    go_wp2_with fail
                    go_meet
                    case rel => exact ⟨rfl, _, _, HE.out⟩
                  · skip
                    by_cases k4 : kd = 4
                    · subst k4
                      go_wp2_with fail
                      go_region_held3 (fun w' => w'.cell? ⟨b, o + k2 * 2 + 1, none⟩ = some (.int .i64 mo)) (first | assumption | go_keep)
                        (first
                        | (go_simp; go_at_call 38; refine (count_any _ _ _ _ _ mo _ (HBO.out.1.drewN 1) HBO.out.2.2.2 HBL.out hI2.2).mono ?_; rintro e w4 ⟨rfl, hr4, hg4⟩; have HH := hide (HBO.out.half hne hwg1 (gb_undrew hg4) hr4); have c4 := HC.out _ HH.out.2.2; clear hr4 hg4)
                        | (go_simp; go_at_call 39; refine (refCount_any _ _ _ _ _ mo _ HH.out.2.1 HBO.out.2.2.2 HBL.out hI2.2).mono ?_; rintro e w5 ⟨rfl, hr5, hg5⟩; have HE := hide (HH.out.both hne hwg2 hg5 hr5 (rCount_le bs p x mo HBO.out.2.2.2)); have c5 := HC.out _ HE.out.2.2.1; clear hr5 hg5))
                      go_wp2_with fail
                      go_meet
                      case rel => exact ⟨rfl, _, _, HE.out⟩
                    · skip
                      by_cases k5 : kd = 5
                      · subst k5
                        have FA := hide (HBO.out.1)
                        have c6 := HC.out _ HBO.out.2.2.1
                        go_wp2_with (go_at_call 40; refine (failR_any FA.out mo).mono ?_; rintro e w4 ⟨rfl, hr4, hg4⟩; have HH := hide (HBO.out.half hne hwg1 hg4 hr4); have c4 := HC.out _ HH.out.2.2; have p4 := HH.out.2.1.at_; clear hr4 hg4)
                        go_region_held3 (fun w' => w'.cell? ⟨b, o + k2 * 2 + 1, none⟩ = some (.int .i64 mo) ∧ w'.cell? ⟨g2, 1, none⟩ = some (.int .i64 (p : Int))) (first | exact ⟨c5, p5⟩ | go_keep)
                          ((go_simp; go_at_call 41; refine (refFail_any (HH.out.2.1.drewN 1) mo).mono ?_; rintro e w5 ⟨rfl, hr5, hg5⟩; have HE := hide (HH.out.both hne hwg2 (gb_undrew hg5) hr5 HBO.out.2.2.2); have c5 := HC.out _ HE.out.2.2.1; have p5 := HE.out.2.1.at_; clear hr5 hg5))
                        go_wp2_with fail
                        go_meet
                        case rel => exact ⟨rfl, _, _, HE.out⟩
                      · have e0 : (kd == 0) = false := beq_eq_false_iff_ne.2 k0
                        have e1 : (kd == 1) = false := beq_eq_false_iff_ne.2 k1
                        have e2 : (kd == 2) = false := beq_eq_false_iff_ne.2 k2'
                        have e3 : (kd == 3) = false := beq_eq_false_iff_ne.2 k3
                        have e4 : (kd == 4) = false := beq_eq_false_iff_ne.2 k4
                        have e5 : (kd == 5) = false := beq_eq_false_iff_ne.2 k5
                        go_wp2_with fail
                        go_meet
                        case rel => exact ⟨rfl, _, _, HBO.out⟩
          case rest =>
            obtain ⟨rfl, p', x', hbo'⟩ := hcut
            have HB2 := hide hbo'
            clear hbo'
            go_wp2_with (go_at_call 42; refine (why_any _ _ _ _ _ _ HB2.out.1).mono ?_; rintro e7 w7 ⟨rfl, n7, rfl⟩)
            have hpn := HB2.out.2.2.2
            rw [HN.out] at hpn
            have RD := hide (HB2.out.1.drewN n7); have QD := hide (HB2.out.2.1.drewN n7); have GD := hide (gb_drewN HB2.out.2.2.1 n7)
            have HP2 := hide HB2.out.2.2.2
            clear HB2
            generalize wc.drewN n7 = W at *
            have q1 := QD.out.at_
            have q2 := QD.out.err
            have q3 := QD.out.spot
            have f1 : IntKind.i64.wrap ((n : Int) - (p' : Int)) = (n : Int) - (p' : Int) := by rw [IntKind.wrap_i64]; omega
            have HBL2 := hide (show bs.length ≤ 100000000 by rw [HN.out]; omega)
            go_quiet ((first
              | (go_at_call 26; exact quiet_l (num_err _ _))
              | (go_at_call 43; exact quiet_l (at_any _ _ _ _ _ _ (RD.out.drewN _)))
              | (go_at_call 44; exact Calls.quiet_of (left_as2 (RD.out.drewN _) HP2.out HBL2.out HN.out))
              | (go_at_call 45; exact Calls.quiet_of (done_any _ _ _ _ _ _ (RD.out.drewN _) HP2.out HBL2.out))
              | (go_at_call 46; exact Calls.quiet_of (refDone_any _ _ _ _ _ _ (QD.out.drewN _) HP2.out))))
            go_wp2_with fail
            go_roundw
            case rel => exact ⟨k2 + 1, by omega, by go_num, _, _, RD.out.drewN _, QD.out.drewN _, gb_drewN GD.out _, HP2.out⟩
            case measure => simp [intOf]; omega
        · go_wp2_with (go_at_call 10; refine (LV.out _).mono ?_; rintro e w9 ⟨rfl, hg9⟩)
          go_ret
          exact ⟨rfl, gb_trans HBO.out.2.2.1 hg9 (.inl rfl)⟩

end Go.Proofs.Ytdaefgkhimhpdaa
