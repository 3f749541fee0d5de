/-
  The walk of OctetBack: what was put is read back; what is read is what would be put (P1.8).
-/
import Derived.Test.YtdaefgkhimhpdaaLive
import Derived.Test.YtdaefgkhimhpdaaRow
import Derived.Test.YtdaefgkhimhpdaaReg
import Derived.Test.YtdaefgkhimhpdaaBack
import Derived.Deep.RegionHeld3
import Derived.Deep.DrawnRows
namespace Go.Proofs.Ytdaefgkhimhpdaa
open Go.RowKit Go.ChangeShapes Go.WideShapes Go.ChangeAt
attribute [local go_sem ↓] Go.wp_at_zero Go.wp_at_succ

def TinyS (n : Nat) : Prop := n ≤ reachBytes
theorem sumLen_tiny {l : List ByteArray} (h : ∀ s ∈ l, TinyS s.size) : sumLen l ≤ l.length * reachBytes := by
  induction l with
  | nil => simp [sumLen]
  | cons a l ih =>
    have h1 := ih fun s hs => h s (by simp [hs])
    have h2 := h a (by simp)
    unfold TinyS at h2
    simp only [sumLen, List.map_cons, List.sum_cons, List.length_cons] at *
    rw [Nat.add_mul]
    omega
theorem reach_numS : reachBytes = 140737488351232 := rfl
theorem wrap_tinyS {a b : Nat} (ha : a ≤ 61 * reachBytes) (hb : TinyS b) : wrap64 ((a : Int) + (b : Int)) = (a : Int) + (b : Int) := by
  unfold TinyS at hb
  rw [reach_numS] at *
  unfold wrap64
  omega

/-! ## where the reader stands -/

def backB (l : List Nat) (m : List Int) (s : List ByteArray) : List UInt8 := (([] ++ putAll l) ++ putAll (m.map zig)) ++ putStrs s
def pos1 (l : List Nat) (k : Nat) : Nat := (putAll (l.take k)).length
def pos2 (l : List Nat) (m : List Int) (k : Nat) : Nat := (putAll l ++ putAll ((m.map zig).take k)).length
def pos3 (l : List Nat) (m : List Int) (s : List ByteArray) (k : Nat) : Nat := ((putAll l ++ putAll (m.map zig)) ++ putStrs (s.take k)).length
theorem pos1_zero (l : List Nat) : pos1 l 0 = 0 := rfl
theorem pos1_end (l : List Nat) (m : List Int) : pos1 l l.length = pos2 l m 0 := by simp [pos1, pos2, putAll]
theorem pos2_end (l : List Nat) (m : List Int) (s : List ByteArray) : pos2 l m m.length = pos3 l m s 0 := by
  unfold pos2 pos3
  rw [List.take_of_length_le (by rw [List.length_map]; exact Nat.le_refl _)]
  simp [putStrs]
theorem pos3_end (l : List Nat) (m : List Int) (s : List ByteArray) : pos3 l m s s.length = (backB l m s).length := by simp [pos3, backB]
theorem flat_pos {α : Type} (f : α → List UInt8) (l : List α) (k : Nat) (h : k < l.length) : ((l.take (k + 1)).flatMap f).length = ((l.take k).flatMap f).length + (f l[k]).length := by
  rw [List.take_succ_eq_append_getElem h, List.flatMap_append, List.length_append]
  simp
theorem back1 (l : List Nat) (m : List Int) (s : List ByteArray) (k : Nat) (h : k < l.length) (hu : U64 l[k]) : rNum (backB l m s) (pos1 l k) 0 = (l[k], pos1 l (k + 1), 0) := by
  have e : backB l m s = putAll (l.take k) ++ (putNum l[k] ++ (putAll (l.drop (k + 1)) ++ (putAll (m.map zig) ++ putStrs s))) := by
    have := split3 l k h putNum
    unfold backB
    rw [List.nil_append, show putAll l = l.flatMap putNum from rfl, this]
    simp only [putAll, List.append_assoc]
  have hp : pos1 l (k + 1) = (putAll (l.take k)).length + (putNum l[k]).length := flat_pos putNum l k h
  rw [e, hp]
  exact rNum_put _ _ _ (by unfold U64 at hu; omega)
theorem back2 (l : List Nat) (m : List Int) (s : List ByteArray) (k : Nat) (h : k < m.length) (hu : I64 m[k]) : rNum (backB l m s) (pos2 l m k) 0 = (zig m[k], pos2 l m (k + 1), 0) := by
  have hz : k < (m.map zig).length := by rw [List.length_map]; exact h
  have hg : (m.map zig)[k] = zig m[k] := by simp
  have e : backB l m s = (putAll l ++ putAll ((m.map zig).take k)) ++ (putNum (zig m[k]) ++ (putAll ((m.map zig).drop (k + 1)) ++ putStrs s)) := by
    have := split3 (m.map zig) k hz putNum
    rw [hg] at this
    unfold backB
    rw [List.nil_append, show putAll (m.map zig) = (m.map zig).flatMap putNum from rfl, this]
    simp only [putAll, List.append_assoc]
  have hp : pos2 l m (k + 1) = (putAll l ++ putAll ((m.map zig).take k)).length + (putNum (zig m[k])).length := by
    have := flat_pos putNum (m.map zig) k hz
    rw [hg] at this
    unfold pos2
    rw [List.length_append, List.length_append]
    unfold putAll at *
    omega
  rw [e, hp]
  exact rNum_put _ _ _ (by have := zig_u64 hu; unfold U64 at this; omega)
theorem back3 (l : List Nat) (m : List Int) (s : List ByteArray) (k : Nat) (h : k < s.length) (hu : s[k].size ≤ 20000) : rText (backB l m s) (pos3 l m s k) 0 s[k].size = (s[k].data.toList, pos3 l m s (k + 1), 0) := by
  have e : backB l m s = ((putAll l ++ putAll (m.map zig)) ++ putStrs (s.take k)) ++ (putStr s[k] ++ putStrs (s.drop (k + 1))) := by
    have := split3 s k h putStr
    unfold backB
    rw [List.nil_append, show putStrs s = s.flatMap putStr from rfl, this]
    simp only [putStrs, List.append_assoc]
  have hp : pos3 l m s (k + 1) = ((putAll l ++ putAll (m.map zig)) ++ putStrs (s.take k)).length + (putStr s[k]).length := by
    have := flat_pos putStr s k h
    unfold pos3 putStrs
    simp only [List.length_append]
    omega
  rw [e, hp]
  exact rText_put _ _ _ (by omega)
theorem pos1_le (l : List Nat) (m : List Int) (s : List ByteArray) (k : Nat) : pos1 l k ≤ (backB l m s).length := by
  have : putAll l = putAll (l.take k) ++ putAll (l.drop k) := by
    conv => lhs; rw [← List.take_append_drop k l]
    simp only [putAll, List.flatMap_append]
  unfold pos1 backB
  rw [List.nil_append, this]
  simp only [List.length_append]
  omega
theorem pos2_le (l : List Nat) (m : List Int) (s : List ByteArray) (k : Nat) : pos2 l m k ≤ (backB l m s).length := by
  have : putAll (m.map zig) = putAll ((m.map zig).take k) ++ putAll ((m.map zig).drop k) := by
    conv => lhs; rw [← List.take_append_drop k (m.map zig)]
    simp only [putAll, List.flatMap_append]
  unfold pos2 backB
  rw [List.nil_append, this]
  simp only [List.length_append]
  omega
theorem pos3_le (l : List Nat) (m : List Int) (s : List ByteArray) (k : Nat) : pos3 l m s k ≤ (backB l m s).length := by
  have : putStrs s = putStrs (s.take k) ++ putStrs (s.drop k) := by
    conv => lhs; rw [← List.take_append_drop k s]
    simp only [putStrs, List.flatMap_append]
  unfold pos3 backB
  rw [List.nil_append, this]
  simp only [List.length_append]
  omega

/-! ## readers -/

theorem Rdr.beside {w w' : World} {b1 b2 g1 g2 : Nat} {B1 B2 : List UInt8} {p1 p2 : Nat} {x1 x2 : Int} (h : Rdr w b2 g2 B2 p2 x2) (h1 : Rdr w b1 g1 B1 p1 x1) (hne : g1 ≠ g2) (hg : w.grownBy w' (some g1)) : Rdr w' b2 g2 B2 p2 x2 := by
  obtain ⟨v, hb, _, _⟩ := h1
  refine h.keep hg (fun e => hne (by injection e)) (fun k cs t e hk => ?_) (fun k e => ?_)
  · injection e with e
    subst e
    rw [hb] at hk
    injection hk with hk
    injection hk with _ ht
    subst ht
    decide
  · injection e with e
    subst e
    exact ⟨_, _, hb⟩
theorem num_as2 {w : World} {base g : Nat} {bs : List UInt8} {p n q : Nat} {x y : Int} (h : Rdr w base g bs p x) (hp : p ≤ bs.length) (hl : bs.length ≤ 100000000) (hN : rNum bs p x = (n, q, y)) :
    Calls Try.prog 30 #[.pointer (some ⟨g, 0, none⟩)] w (After base g bs (.int .u64 (n : Int)) q y w) := by
  have := num_any base g bs p x w h hp hl
  rwa [hN] at this
theorem int_as2 {w : World} {base g : Nat} {bs : List UInt8} {p n q : Nat} {x y i : Int} (h : Rdr w base g bs p x) (hp : p ≤ bs.length) (hl : bs.length ≤ 100000000) (hN : rNum bs p x = (n, q, y)) (hi : unzig n = i) :
    Calls Try.prog 32 #[.pointer (some ⟨g, 0, none⟩)] w (After base g bs (.int .i64 i) q y w) := by
  have := int_any base g bs p x w h hp hl
  rw [hN] at this
  subst hi
  exact this
theorem text_as2 {w : World} {base g : Nat} {bs : List UInt8} {p q : Nat} {t : List UInt8} {x y most : Int} {z : ByteArray} (h : Rdr w base g bs p x) (hp : p ≤ bs.length) (hl : bs.length ≤ 100000000) (hm : I64 most) (hN : rText bs p x most = (t, q, y)) (hz : (⟨t.toArray⟩ : ByteArray) = z) :
    Calls Try.prog 36 #[.pointer (some ⟨g, 0, none⟩), .int .i64 most] w (After base g bs (.string z) q y w) := by
  have := text_any base g bs p x most w h hp hl hm
  rw [hN] at this
  subst hz
  exact this
theorem new_at {w : World} {A : Option Addr} {n c : Nat} {bs : List UInt8} (h : At8 w (.slice A n c) bs) (h1 : bs.length ≤ 100000000) :
    Calls Try.prog 28 #[.slice A n c] w fun e w' => ∃ g, e = .returned (.pointer (some ⟨g, 0, none⟩)) ∧ Rdr w' w.heap.size g bs 0 0 ∧ w.grownBy w' none := by
  obtain ⟨A', c', e, h2, h3, hr⟩ := h
  injection e with e1 e2 e3
  subst e1; subst e2; subst e3
  exact new_any _ _ bs w hr h1
theorem At8.nil_ (w : World) : At8 w (.slice none 0 0) [] := ⟨none, 0, rfl, Nat.le_refl _, Nat.zero_le _, Rd.nil_⟩
theorem Rd.u64_at {w : World} {B : Nat} {ad : Addr} {l : List Nat} {k : Nat} (h : Rd w B (some ad) (u64s l)) (hk : k < l.length) : w.cell? (ad.add k) = some (.int .u64 (l[k] : Int)) := by
  obtain ⟨ad', e, _, hc⟩ := h.u64 hk
  injection e with e
  subst e
  exact hc
theorem Rd.i64_at {w : World} {B : Nat} {ad : Addr} {l : List Int} {k : Nat} (h : Rd w B (some ad) (i64s l)) (hk : k < l.length) : w.cell? (ad.add k) = some (.int .i64 l[k]) := by
  obtain ⟨ad', e, _, hc⟩ := h.i64 hk
  injection e with e
  subst e
  exact hc
theorem Rd.str_at {w : World} {B : Nat} {ad : Addr} {l : List ByteArray} {k : Nat} (h : Rd w B (some ad) (strs l)) (hk : k < l.length) : w.cell? (ad.add k) = some (.string l[k]) := by
  obtain ⟨ad', e, _, hc⟩ := h.str hk
  injection e with e
  subst e
  exact hc
def Laid (F : List UInt8) (w : World) (e : Ending) (w' : World) : Prop := ∃ A n c, e = .returned (.slice A n c) ∧ At8 w' (.slice A n c) F ∧ w.grownBy w' none
theorem put_n {w : World} {A AL : Option Addr} {n c cl k B : Nat} {bs : List UInt8} {l : List Nat} (h : At8 w (.slice A n c) bs) (hk : l.length = k) (hl : Rd w B AL (u64s l)) (hB : B ≤ w.heap.size) (hu : ∀ n ∈ l, U64 n) (h1 : bs.length ≤ 100000000) (h2 : l.length ≤ 1000000) :
    Calls Try.prog 12 #[.slice A n c, .slice AL k cl] w (Laid (bs ++ putAll l) w) := by
  subst hk
  exact (put_at h hl hB hu h1 h2).mono fun e w' ⟨A', c', he, ha, hg⟩ => ⟨A', _, c', he, ha, hg⟩
theorem putInt_n {w : World} {A AL : Option Addr} {n c cl k B : Nat} {bs : List UInt8} {l : List Int} (h : At8 w (.slice A n c) bs) (hk : l.length = k) (hl : Rd w B AL (i64s l)) (hB : B ≤ w.heap.size) (hu : ∀ n ∈ l, I64 n) (h1 : bs.length ≤ 100000000) (h2 : l.length ≤ 1000000) :
    Calls Try.prog 14 #[.slice A n c, .slice AL k cl] w (Laid (bs ++ putAll (l.map zig)) w) := by
  subst hk
  exact (putInt_at h hl hB hu h1 h2).mono fun e w' ⟨A', c', he, ha, hg⟩ => ⟨A', _, c', he, ha, hg⟩
theorem putText_n {w : World} {A AL : Option Addr} {n c cl k B : Nat} {bs : List UInt8} {l : List ByteArray} (h : At8 w (.slice A n c) bs) (hk : l.length = k) (hl : Rd w B AL (strs l)) (hB : B ≤ w.heap.size) (h1 : bs.length ≤ 100000000) (h2 : l.length ≤ 1000000) (h3 : sumLen l ≤ 100000000) :
    Calls Try.prog 16 #[.slice A n c, .slice AL k cl] w (Laid (bs ++ putStrs l) w) := by
  subst hk
  exact (putText_at h hl hB h1 h2 h3).mono fun e w' ⟨A', c', he, ha, hg⟩ => ⟨A', _, c', he, ha, hg⟩
/-- Put of one number behind nothing. -/
theorem put1_at {w : World} {n : Nat} (hu : U64 n) :
    Calls Try.prog 12 #[.slice none 0 0, .slice (some ⟨w.heap.size, 0, none⟩) 1 1] (w.alloc (.cells #[.int .u64 (n : Int)] 28)) fun e w' => ∃ A m c, e = .returned (.slice A m c) ∧ At8 w' (.slice A m c) (putNum n) ∧ w.grownBy w' none := by
  have hr := Rd.new w #[.int .u64 (n : Int)] 28 (u64s [n]) rfl
  refine (put_at (At8.nil_ (w.alloc (.cells #[.int .u64 (n : Int)] 28))) hr (by simp) (by intro k hk; obtain rfl := List.mem_singleton.1 hk; exact hu) (by simp) (by simp)).mono fun e w' ⟨A, c, he, h, hg⟩ => ?_
  have e1 : ([] : List UInt8) ++ putAll [n] = putNum n := by simp [putAll]
  rw [e1] at h
  exact ⟨A, _, c, he, h, gb_trans (gb_alloc (gb_refl _ _) _) hg (.inl rfl)⟩

theorem put1_drew {w : World} {n : Nat} (hu : U64 n) :
    Calls Try.prog 12 #[.slice none 0 0, .slice (some ⟨w.heap.size, 0, none⟩) 1 1] (w.alloc (.cells #[.int .u64 (n : Int)] 28)).drew fun e w' => ∃ A m c, e = .returned (.slice A m c) ∧ At8 w' (.slice A m c) (putNum n) ∧ w.grownBy w' none := by
  have hr := Rd.drew (Rd.new w #[.int .u64 (n : Int)] 28 (u64s [n]) rfl)
  refine (put_at (At8.nil_ (w.alloc (.cells #[.int .u64 (n : Int)] 28)).drew) hr (by simp) (by intro k hk; obtain rfl := List.mem_singleton.1 hk; exact hu) (by simp) (by simp)).mono fun e w' ⟨A, c, he, h, hg⟩ => ?_
  have e1 : ([] : List UInt8) ++ putAll [n] = putNum n := by simp [putAll]
  rw [e1] at h
  exact ⟨A, _, c, he, h, gb_trans (gb_drew (gb_alloc (gb_refl _ _) _)) hg (.inl rfl)⟩

/-- The two readers: of what was put, at p; of the bytes handed in, at the beginning. -/
def St (b1 b2 g g2 : Nat) (B bs : List UInt8) (p : Nat) (w wr : World) : Prop := Rdr wr b1 g B p 0 ∧ Rdr wr b2 g2 bs 0 0 ∧ w.grownBy wr none
theorem St.step {b1 b2 g g2 : Nat} {B bs : List UInt8} {p p' : Nat} {w wr w2 : World} (h : St b1 b2 g g2 B bs p w wr) (hne : g ≠ g2) (hge : w.heap.size ≤ g) (hg : wr.drew.grownBy w2 (some g)) (hr : Rdr w2 b1 g B p' 0) : St b1 b2 g g2 B bs p' w w2 := by
  obtain ⟨h1, h2, h3⟩ := h
  have hg' : wr.grownBy w2 (some g) := gb_trans (gb_drew (gb_refl wr (some g))) hg (.inl rfl)
  exact ⟨hr, h2.beside h1 hne hg', gb_trans h3 hg' (.inr (.inr ⟨g, rfl, hge⟩))⟩
theorem St.drew {b1 b2 g g2 : Nat} {B bs : List UInt8} {p : Nat} {w wr : World} (h : St b1 b2 g g2 B bs p w wr) : Rdr wr.drew b1 g B p 0 := h.1.drewN 1
theorem bytes_list (s : ByteArray) : (⟨s.data.toList.toArray⟩ : ByteArray) = s := by cases s; simp

theorem done_as2 {w : World} {base g : Nat} {bs : List UInt8} {p : Nat} {x y : Int} (h : Rdr w base g bs p x) (hp : p ≤ bs.length) (hl : bs.length ≤ 100000000) (hN : rDone bs p x = y) :
    Calls Try.prog 45 #[.pointer (some ⟨g, 0, none⟩)] w fun e w' => e = .returned (.int .i64 y) ∧ ∃ n, w' = w.drewN n := by
  subst hN
  exact done_any base g bs p x w h hp hl
theorem rDone_end (bs : List UInt8) : rDone bs bs.length 0 = 0 := by simp [rDone]
theorem rNum_take {bs : List UInt8} {n pl : Nat} (h : rNum bs 0 0 = (n, pl, 0)) : putNum n = bs.take pl := by
  unfold rNum rPeek at h
  rw [if_pos rfl] at h
  simp only [List.drop_zero, Nat.zero_add, Prod.mk.injEq] at h
  obtain ⟨h1, h2, h3⟩ := h
  refine put_parse bs n pl ?_
  rcases hp : parse bs with ⟨a, b, c⟩
  rw [hp] at h1 h2 h3
  simp only at h1 h2 h3
  obtain rfl : c = 0 := by omega
  rw [h1, h2]
theorem rNum_u64 {bs : List UInt8} {p n pl : Nat} {x e : Int} (h : rNum bs p x = (n, pl, e)) : U64 n := by
  have := rPeek_lt bs p x
  have h2 : (rNum bs p x).1 = n := by rw [h]
  unfold U64
  rw [← h2]
  unfold rNum
  show (rPeek bs p x).1 ≤ _
  omega

end Go.Proofs.Ytdaefgkhimhpdaa
