/-
  The contract of quiverlaw01.live: it answers true, whatever the world; nothing that was there turns.
-/
import Derived.Test.YtdaefgkhimhpdaaFrames
import Derived.Test.YtdaefgkhimhpdaaRdr3
import Derived.Lib.SlBytesConst
namespace Go.Proofs.Ytdaefgkhimhpdaa
open Go.RowKit

set_option maxHeartbeats 400000 in
theorem num_err (x : Int) (w : World) : Calls Try.prog 26 #[.int .i64 x] w fun e w' => e = .returned (.int .i64 x) ∧ w = w' := by
  go_enter Try.func26, Try.ntmps26
  go_wp2
  go_ret
  exact ⟨rfl, rfl⟩

def lit : List UInt8 := [172, 2, 5, 2, 97, 98]
def ab : ByteArray := ⟨#[97, 98]⟩
theorem lit_is : ([] ++ putAll [300, 5]) ++ putStrs [ab] = lit := by decide +kernel
theorem lit_len : lit.length = 6 := rfl
theorem num1 : rNum lit 0 0 = (300, 2, 0) := by decide +kernel
theorem num2 : rNum lit 2 0 = (5, 3, 0) := by decide +kernel
theorem txt3 : rText lit 3 0 9 = ([97, 98], 6, 0) := by decide +kernel
theorem don4 : rDone lit 6 0 = 0 := by decide +kernel
theorem frm5 : frame [97] = [0, 0, 0, 1, 97] ++ tl (crc [0, 0, 0, 1, 97]) := by decide +kernel
def fra : List UInt8 := frame [97]
theorem fra_len : fra.length = 9 := by decide +kernel
theorem opn6 : opn (fra.take 8) = ([], 0, 3) := by decide +kernel
theorem opn7 : opn fra = ([97], 9, 0) := by decide +kernel
theorem crc8 : crc (catB [(none, 0, [49, 50, 51, 52]), (none, 0, [53, 54, 55, 56, 57])]) = 3808858755 := by decide +kernel

theorem put_lit (w : World) : Calls Try.prog 12 #[.slice none 0 0, .slice (some ⟨w.heap.size, 0, none⟩) 2 2] (w.alloc (.cells #[.int .u64 300, .int .u64 5] 28)) fun e w' =>
    ∃ v, e = .returned v ∧ w'.ownsRow w.heap.size 5 1 v 3 (u8s ([] ++ putAll [300, 5])) ∧ w.grownBy w' none := by
  have h := put_any none (some ⟨w.heap.size, 0, none⟩) 0 2 [] [300, 5] (w.alloc (.cells #[.int .u64 300, .int .u64 5] 28)) Rd.nil_ (by simpa using Rd.new w #[.int .u64 300, .int .u64 5] 28 (u64s [300, 5]) rfl) (by intro n hn; simp at hn; unfold U64; omega) (by simp) (by simp)
  exact h.mono fun e w' ⟨v, he, ho, hg⟩ => ⟨v, he, own_base (own_as ho (m := 3) rfl rfl) (by simp), gb_trans (gb_alloc (gb_refl w none) _) hg (.inl rfl)⟩
theorem putText_lit (A : Option Addr) (c n m : Nat) (bs out : List UInt8) (w : World) (hn : bs.length = n) (hl : n ≤ 1000) (hr : Rd w w.heap.size A (u8s bs)) (ho : bs ++ putStrs [ab] = out) (hm : out.length = m) :
    Calls Try.prog 16 #[.slice A n c, .slice (some ⟨w.heap.size, 0, none⟩) 1 1] (w.alloc (.cells #[.string ab] 9)) fun e w' =>
      ∃ v, e = .returned v ∧ w'.ownsRow w.heap.size 5 1 v m (u8s out) ∧ w.grownBy w' none := by
  subst hn
  subst ho
  subst hm
  have h := putText_any A (some ⟨w.heap.size, 0, none⟩) c 1 bs [ab] (w.alloc (.cells #[.string ab] 9)) (by simpa using (hr.alloc (Nat.le_refl _) (.cells #[.string ab] 9)).more (B' := w.heap.size + 1) (by omega)) (by simpa using Rd.new w #[.string ab] 9 (strs [ab]) rfl) (by omega) (by simp) (by decide +kernel)
  exact h.mono fun e w' ⟨v, he, ho, hg⟩ => ⟨v, he, own_base ho (by simp), gb_trans (gb_alloc (gb_refl w none) _) hg (.inl rfl)⟩
theorem new_as (A : Option Addr) (c n : Nat) (bs : List UInt8) (w : World) (hn : bs.length = n) (hr : Rd w w.heap.size A (u8s bs)) (h1 : n ≤ 100000000) :
    Calls Try.prog 28 #[.slice A n c] w fun e w' => ∃ g, e = .returned (.pointer (some ⟨g, 0, none⟩)) ∧ Rdr w' w.heap.size g bs 0 0 ∧ w.grownBy w' none := by
  subst hn
  exact new_any A c bs w hr h1
/-- string(x) of a row of the call's own, in whatever later world. -/
theorem own_string {w w' : World} {base n : Nat} {A : Option Addr} {c : Nat} {bs : List UInt8} (ho : w.ownsRow base 5 1 (.slice A n c) n (u8s bs)) (hn : bs.length = n) (hg : w.grownBy w' none) :
    (convert 22 9 (.slice A n c)).run Try.prog w' = .ok (.string ⟨bs.toArray⟩) w' := by
  subst hn
  obtain ⟨A', c', e, _, _, hr⟩ := own_form (own_grown ho hg)
  injection e with e1 _ e2
  subst e1; subst e2
  exact run_string_of w' 22 5 Try.underlying22 Try.underlying5 _ _ _ _ hr 9 Try.underlying9

/-- A new block, marked behind its end. -/
theorem Rd.marked (w : World) (cs : Array Value) (t : TypeId) (fr : Nat × Nat) (xs : List Value) (h : xs = cs.toList) : Rd (w.alloc (.cells cs t fr)) (w.heap.size + 1) (some ⟨w.heap.size, 0, none⟩) xs := fun _ =>
  ⟨_, rfl, by simp, fun j u hu => by
    subst h
    have e : (⟨w.heap.size, 0, none⟩ : Addr).add j = ⟨w.heap.size, j, none⟩ := by unfold Addr.add; split <;> simp_all
    rw [e, cell_of_row _ w.heap.size j cs t fr (heap_alloc_new w _)]
    simpa using hu⟩
theorem seal_lit (w : World) : Calls Try.prog 18 #[.slice (some ⟨w.heap.size + 1, 0, none⟩) 1 1] ((w.alloc (.cells #[.int .u8 97] 5 (1, 2))).alloc (.cells #[.slice (some ⟨w.heap.size, 0, none⟩) 1 1] 22)) fun e w' =>
    ∃ v, e = .returned (.tuple #[v, .int .i64 0]) ∧ w'.ownsRow w.heap.size 5 1 v 9 (u8s fra) ∧ w.grownBy w' none := by
  have hr : Rd (w.alloc (.cells #[.int .u8 97] 5 (1, 2))) (w.alloc (.cells #[.int .u8 97] 5 (1, 2))).heap.size (some ⟨w.heap.size, 0, none⟩) (u8s [97]) := by
    simpa using Rd.marked w #[.int .u8 97] 5 (1, 2) (u8s [97]) rfl
  have h1 := RdB.one (c := 1) 22 hr (by simp) (by unfold maxLen; omega)
  have h2 := seal_ok _ 1 [(some ⟨w.heap.size, 0, none⟩, 1, [97])] _ h1 (by simp) (by rw [catB_one]; simp)
  rw [catB_one] at h2
  have h3 : Calls Try.prog 18 _ _ (fun (e : Ending) (w' : World) => ∃ v, e = Ending.returned (.tuple #[v, .int .i64 0]) ∧ w'.ownsRow w.heap.size 5 1 v 9 (u8s fra) ∧ w.grownBy w' none) :=
    h2.mono fun e w' ⟨v, he, ho, hg⟩ => ⟨v, he, own_base (own_as ho (m := 9) fra_len rfl) (by simp; omega), gb_trans (gb_alloc (gb_alloc (gb_refl w none) _) _) hg (.inl rfl)⟩
  simpa using h3
theorem crc_lit (w : World) : Calls Try.prog 24 #[.slice (some ⟨w.heap.size + 2, 0, none⟩) 2 2]
    (((w.alloc (.cells #[.int .u8 49, .int .u8 50, .int .u8 51, .int .u8 52] 5 (4, 5))).alloc (.cells #[.int .u8 53, .int .u8 54, .int .u8 55, .int .u8 56, .int .u8 57] 5 (5, 6))).alloc (.cells #[.slice (some ⟨w.heap.size, 0, none⟩) 4 4, .slice (some ⟨w.heap.size + 1, 0, none⟩) 5 5] 22)) fun e w' =>
    e = .returned (.int .u32 3808858755) ∧ w.grownBy w' none := by
  have hr1 : Rd (w.alloc (.cells #[.int .u8 49, .int .u8 50, .int .u8 51, .int .u8 52] 5 (4, 5))) (w.heap.size + 1) (some ⟨w.heap.size, 0, none⟩) (u8s [49, 50, 51, 52]) := Rd.marked w _ _ _ _ rfl
  have hr2 := Rd.marked (w.alloc (.cells #[.int .u8 49, .int .u8 50, .int .u8 51, .int .u8 52] 5 (4, 5))) #[.int .u8 53, .int .u8 54, .int .u8 55, .int .u8 56, .int .u8 57] 5 (5, 6) (u8s [53, 54, 55, 56, 57]) rfl
  have hr3 := Rd.new ((w.alloc (.cells #[.int .u8 49, .int .u8 50, .int .u8 51, .int .u8 52] 5 (4, 5))).alloc (.cells #[.int .u8 53, .int .u8 54, .int .u8 55, .int .u8 56, .int .u8 57] 5 (5, 6))) #[.slice (some ⟨w.heap.size, 0, none⟩) 4 4, .slice (some ⟨w.heap.size + 1, 0, none⟩) 5 5] 22 (sls [(some ⟨w.heap.size, 0, none⟩, 4, [49, 50, 51, 52]), (some ⟨w.heap.size + 1, 0, none⟩, 5, [53, 54, 55, 56, 57])]) rfl
  have hr1' := ((hr1.alloc (by simp) (.cells #[.int .u8 53, .int .u8 54, .int .u8 55, .int .u8 56, .int .u8 57] 5 (5, 6))).alloc (by simp) (.cells #[.slice (some ⟨w.heap.size, 0, none⟩) 4 4, .slice (some ⟨w.heap.size + 1, 0, none⟩) 5 5] 22)).more (B' := w.heap.size + 3) (by omega)
  have hr2' := (hr2.alloc (by simp) (.cells #[.slice (some ⟨w.heap.size, 0, none⟩) 4 4, .slice (some ⟨w.heap.size + 1, 0, none⟩) 5 5] 22)).more (B' := w.heap.size + 3) (by simp)
  have h := crc_any (some ⟨w.heap.size + 2, 0, none⟩) 2 [(some ⟨w.heap.size, 0, none⟩, 4, [49, 50, 51, 52]), (some ⟨w.heap.size + 1, 0, none⟩, 5, [53, 54, 55, 56, 57])] _
    (⟨by simpa using hr3, fun x hx => by
      simp only [List.mem_cons, List.not_mem_nil, or_false] at hx
      rcases hx with rfl | rfl
      · exact ⟨by simpa using hr1', by simp, by unfold maxLen; simp⟩
      · exact ⟨by simpa using hr2', by simp, by unfold maxLen; simp⟩⟩ : RdB (((w.alloc (.cells #[.int .u8 49, .int .u8 50, .int .u8 51, .int .u8 52] 5 (4, 5))).alloc (.cells #[.int .u8 53, .int .u8 54, .int .u8 55, .int .u8 56, .int .u8 57] 5 (5, 6))).alloc (.cells #[.slice (some ⟨w.heap.size, 0, none⟩) 4 4, .slice (some ⟨w.heap.size + 1, 0, none⟩) 5 5] 22)) _ _ _)
    (by simp) (by simp [catB])
  have e : crc (catB [((some ⟨w.heap.size, 0, none⟩ : Option Addr), 4, [49, 50, 51, 52]), (some ⟨w.heap.size + 1, 0, none⟩, 5, [53, 54, 55, 56, 57])]) = 3808858755 := crc8
  rw [e] at h
  exact h.mono fun e w' ⟨he, hg⟩ => ⟨he, gb_trans (gb_alloc (gb_alloc (gb_alloc (gb_refl w none) _) _) _) hg (.inl rfl)⟩

theorem Rdr.above {w : World} {base g : Nat} {bs : List UInt8} {p : Nat} {x : Int} (h : Rdr w base g bs p x) : base ≤ g := h.choose_spec.2.2

theorem conv_const2 (w : World) (F : Obj) (C : Array Value) (n c : Nat) :
    (convert 22 22 (.slice (some ⟨w.heap.size + 1, 0, none⟩) n c)).run Try.prog ((w.alloc F).alloc (.cells C 5)) = .ok (.slice (some ⟨w.heap.size + 1, 0, none⟩) n c) ((w.alloc F).alloc (.cells C 5 (C.size, C.size + 1))) := by
  have h := Lib.run_convert_bytes_const (P := Try.prog) (w.alloc F) 22 5 C n c Try.underlying22 Try.underlying5
  have e : (w.alloc F).heap.size = w.heap.size + 1 := by simp
  rw [e] at h
  exact h

theorem num_as {base g : Nat} {bs : List UInt8} {p : Nat} {x : Int} {w : World} {n q : Nat} {y : Int} (h : Rdr w base g bs p x) (hp : p ≤ bs.length) (hl : bs.length ≤ 100000000) (e : rNum bs p x = (n, q, y)) :
    Calls Try.prog 30 #[.pointer (some ⟨g, 0, none⟩)] w (After base g bs (.int .u64 (n : Int)) q y w) := by
  have := num_any base g bs p x w h hp hl
  rwa [e] at this
theorem text_as {base g : Nat} {bs : List UInt8} {p : Nat} {x most : Int} {w : World} {t : List UInt8} {q : Nat} {y : Int} (h : Rdr w base g bs p x) (hp : p ≤ bs.length) (hl : bs.length ≤ 100000000) (hm : I64 most) (e : rText bs p x most = (t, q, y)) :
    Calls Try.prog 36 #[.pointer (some ⟨g, 0, none⟩), .int .i64 most] w (After base g bs (.string ⟨t.toArray⟩) q y w) := by
  have := text_any base g bs p x most w h hp hl hm
  rwa [e] at this
theorem done_as {base g : Nat} {bs : List UInt8} {p : Nat} {x y : Int} {w : World} (h : Rdr w base g bs p x) (hp : p ≤ bs.length) (hl : bs.length ≤ 100000000) (e : rDone bs p x = y) :
    Calls Try.prog 45 #[.pointer (some ⟨g, 0, none⟩)] w fun e w' => e = .returned (.int .i64 y) ∧ ∃ n, w' = w.drewN n := by
  have := done_any base g bs p x w h hp hl
  rwa [e] at this

set_option maxHeartbeats 4000000 in
set_option maxRecDepth 100000 in
theorem live_any (w : World) : Calls Try.prog 10 #[] w fun e w' => e = .returned (.bool true) ∧ w.grownBy w' none := by
  have hi9 : I64 9 := by unfold I64; omega
  have hl6 : lit.length ≤ 100000000 := by rw [lit_len]; omega
  go_enter Try.func10, Try.ntmps10
  go_wp2_with (first
    | (go_at_call 12; refine (put_lit w).mono ?_; rintro e w1 ⟨v1, rfl, hown1, hg1⟩; obtain ⟨A1, c1, rfl, _, _, hrd1⟩ := own_form hown1)
    | (go_at_call 16; refine (putText_lit A1 c1 3 6 _ lit _ rfl (by omega) hrd1 lit_is rfl).mono ?_; rintro e w2 ⟨v2, rfl, hown2, hg2⟩; obtain ⟨A2, c2, rfl, _, _, hrd2⟩ := own_form hown2; clear hown1 hrd1)
    | (go_at_call 28; refine (new_as A2 c2 6 lit _ rfl hrd2 (by omega)).mono ?_; rintro e w3 ⟨g, rfl, hR, hg3⟩; have hcv := own_string hown2 rfl hg3; clear hown2 hrd2)
    | fail)
  refine (num_as hR (by omega) hl6 num1).mono ?_
  rintro e w4 ⟨rfl, hR4, hg4⟩
  go_wp2_with (fail)
  refine (num_as hR4 (by rw [lit_len]; omega) hl6 num2).mono ?_
  rintro e w5 ⟨rfl, hR5, hg5⟩
  have kc2 := conv_const2
  have kc := fun (w : World) (C : Array Value) (n c : Nat) => Lib.run_convert_bytes_const (P := Try.prog) w 22 5 C n c Try.underlying22 Try.underlying5
  go_wp2_with (first
    | (go_at_call 36; refine (text_as hR5 (by rw [lit_len]; omega) hl6 hi9 txt3).mono ?_; rintro e w6 ⟨rfl, hR6, hg6⟩)
    | (go_at_call 45; refine (done_as hR6 (by rw [lit_len]; omega) hl6 don4).mono ?_; rintro e w7 ⟨rfl, n7, rfl⟩; have hg8 : w.grownBy (w6.drewN n7) none := (gb_trans (gb_trans hg1 hg2 (.inl rfl)) (gb_drewN (gb_trans (gb_trans (gb_trans hg3 hg4 (.inr (.inr ⟨g, rfl, hR.above⟩))) hg5 (.inr (.inr ⟨g, rfl, hR.above⟩))) hg6 (.inr (.inr ⟨g, rfl, hR.above⟩))) n7) (.inl rfl)); clear hcv hR hR4 hR5 hR6 hg1 hg2 hg3 hg4 hg5 hg6; generalize w6.drewN n7 = w7 at *)
    | (go_at_call 26; refine (num_err _ _).mono ?_; rintro e w8 ⟨rfl, rfl⟩)
    | (go_at_call 18; refine (seal_lit w7).mono ?_; rintro e w9 ⟨v9, rfl, hown9, hg9⟩; obtain ⟨A9, c9, rfl, hnc9, hcm9, hrd9⟩ := own_form hown9)
    | fail)
  have hrt := hrd9.take 8
  rw [u8s_take] at hrt
  have op1 := open_as (n := 8) (c := c9) (by rw [List.length_take, fra_len]; rfl) hrt (by omega) hcm9 (by omega)
  rw [opn6] at op1
  refine op1.mono ?_
  clear op1
  rintro e w10 ⟨v10, rfl, hown10, hg10⟩
  have hrd10 := (hrd9.grown hg10 (Nat.le_refl _) (by simp)).more hg10.size
  clear hown10 hrt hrd9
  go_wp2_with (fail)
  have op2 := open_as (n := 9) (c := c9) fra_len hrd10 (by omega) hcm9 (by omega)
  rw [opn7] at op2
  refine op2.mono ?_
  clear op2
  rintro e w11 ⟨v11, rfl, hown11, hg11⟩
  have hown12 := own_as (m := 1) (ys := u8s [97]) hown11 rfl rfl
  clear hown11
  obtain ⟨A11, c11, rfl, _, _, hrd11⟩ := own_form hown12
  have hcv := own_string (bs := [97]) hown12 rfl (gb_refl _ none)
  have hg12 : w.grownBy w11 none := gb_trans (gb_trans (gb_trans hg8 hg9 (.inl rfl)) hg10 (.inl rfl)) hg11 (.inl rfl)
  clear hown12 hrd11 hrd10 hown9 hg8 hg9 hg10 hg11
  go_wp2_with (first
    | (go_at_call 26; refine (num_err _ _).mono ?_; rintro e w8 ⟨rfl, rfl⟩)
    | (go_at_call 24; refine (crc_lit w11).mono ?_; rintro e w12 ⟨rfl, hg13⟩)
    | fail)
  go_ret
  exact ⟨rfl, gb_trans hg12 hg13 (.inl rfl)⟩

end Go.Proofs.Ytdaefgkhimhpdaa
