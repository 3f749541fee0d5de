/-
  The contract of quiverlaw01.live: it answers true, whatever the world; nothing that was there turns.
-/
import Derived.Test.YtgilkaaholkgfaaFrames
import Derived.Test.YtgilkaaholkgfaaRdr3
import Derived.Lib.SlBytesConst
namespace Go.Proofs.Ytgilkaaholkgfaa
open Go.RowKit

def lit : List UInt8 := [172, 2, 5, 2, 97, 98]
def ab : ByteArray := ⟨#[97, 98]⟩
theorem lit_is : ([] ++ putAll [300, 5]) ++ putStrs [ab] = lit := by decide +kernel
theorem lit_len : lit.length = 6 := rfl
theorem num1 : rNum lit 0 0 = (300, 2, 0) := by decide +kernel
theorem num2 : rNum lit 2 0 = (5, 3, 0) := by decide +kernel
theorem txt3 : rText lit 3 0 9 = ([97, 98], 6, 0) := by decide +kernel
theorem don4 : rDone lit 6 0 = 0 := by decide +kernel
theorem frm5 : frame [97] = [0, 0, 0, 1, 97] ++ tl (crc [0, 0, 0, 1, 97]) := by decide +kernel
def fra : List UInt8 := frame [97]
theorem fra_len : fra.length = 9 := by decide +kernel
theorem opn6 : opn (fra.take 8) = ([], 0, 3) := by decide +kernel
theorem opn7 : opn fra = ([97], 9, 0) := by decide +kernel
theorem crc8 : crc (catB [(none, 0, [49, 50, 51, 52]), (none, 0, [53, 54, 55, 56, 57])]) = 3808858755 := by decide +kernel

theorem putText_lit (A : Option Addr) (c n m : Nat) (bs out : List UInt8) (w : World) (hn : bs.length = n) (hl : n ≤ 1000) (hr : Rd w w.heap.size A (u8s bs)) (ho : bs ++ putStrs [ab] = out) (hm : out.length = m) :
    Calls Try.prog 60 #[.slice A n c, .slice (some ⟨w.heap.size, 0, none⟩) 1 1] (w.alloc (.cells #[.string ab] 9)) fun e w' =>
      ∃ v, e = .returned v ∧ w'.ownsRow w.heap.size 5 1 v m (u8s out) ∧ w.grownBy w' none := by
  subst hn
  subst ho
  subst hm
  have h := putText_any A (some ⟨w.heap.size, 0, none⟩) c 1 bs [ab] (w.alloc (.cells #[.string ab] 9)) (by simpa using (hr.alloc (Nat.le_refl _) (.cells #[.string ab] 9)).more (B' := w.heap.size + 1) (by omega)) (by simpa using Rd.new w #[.string ab] 9 (strs [ab]) rfl) (by omega) (by simp) (by decide +kernel)
  exact h.mono fun e w' ⟨v, he, ho, hg⟩ => ⟨v, he, own_base ho (by simp), gb_trans (gb_alloc (gb_refl w none) _) hg (.inl rfl)⟩
theorem new_as (A : Option Addr) (c n : Nat) (bs : List UInt8) (w : World) (hn : bs.length = n) (hr : Rd w w.heap.size A (u8s bs)) (h1 : n ≤ 100000000) :
    Calls Try.prog 49 #[.slice A n c] w fun e w' => ∃ g, e = .returned (.pointer (some ⟨g, 0, none⟩)) ∧ Rdr w' w.heap.size g bs 0 0 ∧ w.grownBy w' none := by
  subst hn
  exact new_any A c bs w hr h1
set_option maxRecDepth 100000 in
/-- string(x) of a row of the call's own, in whatever later world. -/
theorem own_string {w w' : World} {base n : Nat} {A : Option Addr} {c : Nat} {bs : List UInt8} (ho : w.ownsRow base 5 1 (.slice A n c) n (u8s bs)) (hn : bs.length = n) (hg : w.grownBy w' none) :
    (convert 22 9 (.slice A n c)).run Try.prog w' = .ok (.string ⟨bs.toArray⟩) w' := by
  subst hn
  obtain ⟨A', c', e, _, _, hr⟩ := own_form (own_grown ho hg)
  injection e with e1 _ e2
  subst e1; subst e2
  exact run_string_of w' 22 5 Try.underlying22 Try.underlying5 _ _ _ _ hr 9 Try.underlying9

/-- A new block, marked behind its end. -/
theorem Rd.marked (w : World) (cs : Array Value) (t : TypeId) (fr : Nat × Nat) (xs : List Value) (h : xs = cs.toList) : Rd (w.alloc (.cells cs t fr)) (w.heap.size + 1) (some ⟨w.heap.size, 0, none⟩) xs := fun _ =>
  ⟨_, rfl, by simp, fun j u hu => by
    subst h
    have e : (⟨w.heap.size, 0, none⟩ : Addr).add j = ⟨w.heap.size, j, none⟩ := by unfold Addr.add; split <;> simp_all
    rw [e, cell_of_row _ w.heap.size j cs t fr (heap_alloc_new w _)]
    simpa using hu⟩
theorem seal_lit (w : World) : Calls Try.prog 59 #[.slice (some ⟨w.heap.size + 1, 0, none⟩) 1 1] ((w.alloc (.cells #[.int .u8 97] 5 (1, 2))).alloc (.cells #[.slice (some ⟨w.heap.size, 0, none⟩) 1 1] 22)) fun e w' =>
    ∃ v, e = .returned (.tuple #[v, .int .i64 0]) ∧ w'.ownsRow w.heap.size 5 1 v 9 (u8s fra) ∧ w.grownBy w' none := by
  have hr : Rd (w.alloc (.cells #[.int .u8 97] 5 (1, 2))) (w.alloc (.cells #[.int .u8 97] 5 (1, 2))).heap.size (some ⟨w.heap.size, 0, none⟩) (u8s [97]) := by
    simpa using Rd.marked w #[.int .u8 97] 5 (1, 2) (u8s [97]) rfl
  have h1 := RdB.one (c := 1) 22 hr (by simp) (by unfold maxLen; omega)
  have h2 := seal_ok _ 1 [(some ⟨w.heap.size, 0, none⟩, 1, [97])] _ h1 (by simp) (by rw [catB_one]; simp)
  rw [catB_one] at h2
  have h3 : Calls Try.prog 59 _ _ (fun (e : Ending) (w' : World) => ∃ v, e = Ending.returned (.tuple #[v, .int .i64 0]) ∧ w'.ownsRow w.heap.size 5 1 v 9 (u8s fra) ∧ w.grownBy w' none) :=
    h2.mono fun e w' ⟨v, he, ho, hg⟩ => ⟨v, he, own_base (own_as ho (m := 9) fra_len rfl) (by simp; omega), gb_trans (gb_alloc (gb_alloc (gb_refl w none) _) _) hg (.inl rfl)⟩
  simpa using h3
theorem crc_lit (w : World) : Calls Try.prog 73 #[.slice (some ⟨w.heap.size + 2, 0, none⟩) 2 2]
    (((w.alloc (.cells #[.int .u8 49, .int .u8 50, .int .u8 51, .int .u8 52] 5 (4, 5))).alloc (.cells #[.int .u8 53, .int .u8 54, .int .u8 55, .int .u8 56, .int .u8 57] 5 (5, 6))).alloc (.cells #[.slice (some ⟨w.heap.size, 0, none⟩) 4 4, .slice (some ⟨w.heap.size + 1, 0, none⟩) 5 5] 22)) fun e w' =>
    e = .returned (.int .u32 3808858755) ∧ w.grownBy w' none := by
  have hr1 : Rd (w.alloc (.cells #[.int .u8 49, .int .u8 50, .int .u8 51, .int .u8 52] 5 (4, 5))) (w.heap.size + 1) (some ⟨w.heap.size, 0, none⟩) (u8s [49, 50, 51, 52]) := Rd.marked w _ _ _ _ rfl
  have hr2 := Rd.marked (w.alloc (.cells #[.int .u8 49, .int .u8 50, .int .u8 51, .int .u8 52] 5 (4, 5))) #[.int .u8 53, .int .u8 54, .int .u8 55, .int .u8 56, .int .u8 57] 5 (5, 6) (u8s [53, 54, 55, 56, 57]) rfl
  have hr3 := Rd.new ((w.alloc (.cells #[.int .u8 49, .int .u8 50, .int .u8 51, .int .u8 52] 5 (4, 5))).alloc (.cells #[.int .u8 53, .int .u8 54, .int .u8 55, .int .u8 56, .int .u8 57] 5 (5, 6))) #[.slice (some ⟨w.heap.size, 0, none⟩) 4 4, .slice (some ⟨w.heap.size + 1, 0, none⟩) 5 5] 22 (sls [(some ⟨w.heap.size, 0, none⟩, 4, [49, 50, 51, 52]), (some ⟨w.heap.size + 1, 0, none⟩, 5, [53, 54, 55, 56, 57])]) rfl
  have hr1' := ((hr1.alloc (by simp) (.cells #[.int .u8 53, .int .u8 54, .int .u8 55, .int .u8 56, .int .u8 57] 5 (5, 6))).alloc (by simp) (.cells #[.slice (some ⟨w.heap.size, 0, none⟩) 4 4, .slice (some ⟨w.heap.size + 1, 0, none⟩) 5 5] 22)).more (B' := w.heap.size + 3) (by omega)
  have hr2' := (hr2.alloc (by simp) (.cells #[.slice (some ⟨w.heap.size, 0, none⟩) 4 4, .slice (some ⟨w.heap.size + 1, 0, none⟩) 5 5] 22)).more (B' := w.heap.size + 3) (by simp)
  have h := crc_any (some ⟨w.heap.size + 2, 0, none⟩) 2 [(some ⟨w.heap.size, 0, none⟩, 4, [49, 50, 51, 52]), (some ⟨w.heap.size + 1, 0, none⟩, 5, [53, 54, 55, 56, 57])] _
    (⟨by simpa using hr3, fun x hx => by
      simp only [List.mem_cons, List.not_mem_nil, or_false] at hx
      rcases hx with rfl | rfl
      · exact ⟨by simpa using hr1', by simp, by unfold maxLen; simp⟩
      · exact ⟨by simpa using hr2', by simp, by unfold maxLen; simp⟩⟩ : RdB (((w.alloc (.cells #[.int .u8 49, .int .u8 50, .int .u8 51, .int .u8 52] 5 (4, 5))).alloc (.cells #[.int .u8 53, .int .u8 54, .int .u8 55, .int .u8 56, .int .u8 57] 5 (5, 6))).alloc (.cells #[.slice (some ⟨w.heap.size, 0, none⟩) 4 4, .slice (some ⟨w.heap.size + 1, 0, none⟩) 5 5] 22)) _ _ _)
    (by simp) (by simp [catB])
  have e : crc (catB [((some ⟨w.heap.size, 0, none⟩ : Option Addr), 4, [49, 50, 51, 52]), (some ⟨w.heap.size + 1, 0, none⟩, 5, [53, 54, 55, 56, 57])]) = 3808858755 := crc8
  rw [e] at h
  exact h.mono fun e w' ⟨he, hg⟩ => ⟨he, gb_trans (gb_alloc (gb_alloc (gb_alloc (gb_refl w none) _) _) _) hg (.inl rfl)⟩

theorem Rdr.above {w : World} {base g : Nat} {bs : List UInt8} {p : Nat} {x : Int} (h : Rdr w base g bs p x) : base ≤ g := h.choose_spec.2.2

set_option maxRecDepth 100000 in
theorem conv_const2 (w : World) (F : Obj) (C : Array Value) (n c : Nat) :
    (convert 22 22 (.slice (some ⟨w.heap.size + 1, 0, none⟩) n c)).run Try.prog ((w.alloc F).alloc (.cells C 5)) = .ok (.slice (some ⟨w.heap.size + 1, 0, none⟩) n c) ((w.alloc F).alloc (.cells C 5 (C.size, C.size + 1))) := by
  have h := Lib.run_convert_bytes_const (P := Try.prog) (w.alloc F) 22 5 C n c Try.underlying22 Try.underlying5
  have e : (w.alloc F).heap.size = w.heap.size + 1 := by simp
  rw [e] at h
  exact h

theorem text_as {base g : Nat} {bs : List UInt8} {p : Nat} {x most : Int} {w : World} {t : List UInt8} {q : Nat} {y : Int} (h : Rdr w base g bs p x) (hp : p ≤ bs.length) (hl : bs.length ≤ 100000000) (hm : I64 most) (e : rText bs p x most = (t, q, y)) :
    Calls Try.prog 50 #[.pointer (some ⟨g, 0, none⟩), .int .i64 most] w (After base g bs (.string ⟨t.toArray⟩) q y w) := by
  have := text_any base g bs p x most w h hp hl hm
  rwa [e] at this
theorem done_as {base g : Nat} {bs : List UInt8} {p : Nat} {x y : Int} {w : World} (h : Rdr w base g bs p x) (hp : p ≤ bs.length) (hl : bs.length ≤ 100000000) (e : rDone bs p x = y) :
    Calls Try.prog 51 #[.pointer (some ⟨g, 0, none⟩)] w fun e w' => e = .returned (.int .i64 y) ∧ ∃ n, w' = w.drewN n := by
  have := done_any base g bs p x w h hp hl
  rwa [e] at this

end Go.Proofs.Ytgilkaaholkgfaa
