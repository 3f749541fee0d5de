/-
  The walk of the law SymtabLoads (what tells says is handed in).
-/
import Derived.Test.YtmcmlkglkpbnpaaGreatQap
import Derived.Deep.RegionLaw
namespace Go.Proofs.YtmcmlkglkpbnpaaGreat
open Go.RowKit
end Go.Proofs.YtmcmlkglkpbnpaaGreat
namespace Go.Proofs.YtmcmlkglkpbnpaaGreat
open Go.RowKit
theorem len_as {base g n : Nat} {f : List Nat} {L : List ByteArray} {w : World} (h : TabF w base f g L) (hn : L.length = n) :
  Calls Tryz.prog 30 #[.pointer (some ⟨g, 0, none⟩)] w fun e w' => e = .returned (.int .i64 (n : Int)) ∧ w = w' := by
 subst hn
 exact len_any base g f L w h
theorem TabF.drew {w : World} {base g : Nat} {f : List Nat} {L : List ByteArray} (h : TabF w base f g L) : TabF w.drew base f g L := h
end Go.Proofs.YtmcmlkglkpbnpaaGreat
namespace Go.Proofs.YtmcmlkglkpbnpaaGreat
open Go.RowKit
theorem strs_cell (l : List ByteArray) : ∀ u ∈ strs l, u.oneCell' = true := by
 intro u hu
 obtain ⟨t, _, rfl⟩ := List.mem_map.1 hu
 rfl
theorem own_emptyY (w : World) (t : TypeId) (size : Nat) : (w.alloc (.cells #[] t)).ownsRow w.heap.size t size (.slice (some ⟨w.heap.size, 0, none⟩) 0 0) 0 [] :=
 ⟨by simp, .inr ⟨w.heap.size, 0, #[], rfl, Nat.le_refl _, heap_alloc_new w _, Nat.le_refl _, Nat.zero_le _, by simp, by simp⟩⟩
set_option maxHeartbeats 4000000 in
set_option maxRecDepth 100000 in
theorem clonet_any (A : Option Addr) (c B : Nat) (l : List ByteArray) (w : World) (h : Rd w B A (strs l)) (hB : B ≤ w.heap.size) (hl : l.length ≤ 1100000) :
  Calls Tryz.prog 98 #[.slice A l.length c] w fun e w' => ∃ A' c', e = .returned (.slice A' l.length c') ∧ Rd w' w'.heap.size A' (strs l) ∧ w.grownBy w' none := by
 have hq := fun (w : World) (A : Option Addr) (n c : Nat) => Lib.run_eql_slice_nil (P := Tryz.prog) w 33 9 A n c 0 0 Tryz.underlying33
 rcases A with _ | ad
 ·have hb : l = [] := by
   rcases l with _ | ⟨b, l⟩
   ·rfl
   ·obtain ⟨_, e, _⟩ := h (by simp [strs]); cases e
  subst hb
  go_enter Tryz.func98, Tryz.ntmps98
  go_wp2
  go_ret
  exact ⟨_, _, rfl, Rd.nil_, gb_refl _ _⟩
 ·have HO := hide (own_emptyY w 9 1)
  have HR := hide (h.alloc hB (.cells #[] 9))
  have HL1 : Hid ((strs l).length = l.length * 1) := hide (by simp [strs])
  have HOC := hide (strs_cell l)
  have HM1 : Hid (0 + l.length ≤ maxLen) := hide (by unfold maxLen; omega)
  have HMB : Hid ((0 + l.length) * 16 ≤ 140737488355328) := hide (by omega)
  have HBS : Hid (w.heap.size ≤ (w.alloc (.cells #[] 9)).heap.size) := hide (by simp)
  obtain ⟨i1, hi1, hiz, his, hib⟩ := info_parts Tryz.infoTy
  have HI1 := hide hi1
  have HIZ := hide hiz
  have HIS := hide his
  have HIB := hide hib
  clear h hl hi1 hiz his hib
  go_enter Tryz.func98, Tryz.ntmps98
  go_wp2_with (at_builtin; refine wpList_append_rd _ rfl (.tmp 5) (.tmp 6) 33 rfl w.heap.size 9 i1 (.string ⟨#[]⟩) 1 16 Tryz.underlying33 HI1.out HIZ.out HIS.out HIB.out rfl (Nat.succ_pos 0) (.slice (some ⟨w.heap.size, 0, none⟩) 0 0) 0 [] rfl HO.out B (some ad) l.length c (strs l) rfl HL1.out HR.out HOC.out HM1.out HMB.out HBS.out ?_; intro v5 w5 ho5 hg5 hb5; rw [Nat.zero_add, List.nil_append] at ho5; obtain ⟨A5, c5, hv5, _, _, hr5⟩ := own_form ho5; subst hv5; have HR5 := hide hr5; have HG5 := hide hg5; clear ho5 hg5 hb5 hr5)
  go_ret
  exact ⟨A5, c5, rfl, HR5.out, gb_trans (gb_alloc (gb_refl w none) (.cells #[] 9)) HG5.out (.inr (.inr ⟨_, rfl, Nat.le_refl _⟩))⟩
set_option maxHeartbeats 1000000 in
set_option maxRecDepth 100000 in
theorem all_any {base g : Nat} {f : List Nat} {L : List ByteArray} {w : World} (h : TabF w base f g L) (hL : L.length ≤ 1100000) :
  Calls Tryz.prog 62 #[.pointer (some ⟨g, 0, none⟩)] w fun e w' => ∃ A' c', e = .returned (.slice A' L.length c') ∧ Rd w' w'.heap.size A' (strs L) ∧ w.grownBy w' none := by
 obtain ⟨A, c, mb, h0, h1, _, _, hrd, _, _, hf0⟩ := h.open_
 have HC := hide (clonet_any A c w.heap.size L w hrd (Nat.le_refl _) hL)
 clear hf0 hrd h h1
 go_enter Tryz.func62, Tryz.ntmps62
 go_wp2_with (go_at_call 98; refine HC.out.mono ?_; rintro e w1 ⟨A1, c1, rfl, hr1, hg1⟩; have HR1 := hide hr1; have HG1 := hide hg1; clear hr1 hg1)
 go_ret
 exact ⟨A1, c1, rfl, HR1.out, HG1.out⟩
def StrPost (n : Nat) (X : ByteArray) (w : World) (e : Ending) (w' : World) : Prop :=
 ∃ A c, e = .returned (.slice A n c) ∧ (∀ w2, w'.grownBy w2 none → (convert 49 9 (.slice A n c)).run Tryz.prog w2 = .ok (.string X) w2) ∧ w.grownBy w' none
theorem strPost_of {bs : List UInt8} {w : World} {f : FuncId} {args : Array Value} (h : Calls Tryz.prog f args w (NewBytes w.heap.size bs w)) : Calls Tryz.prog f args w (StrPost bs.length ⟨bs.toArray⟩ w) := by
 refine h.mono fun e w' ⟨v, he, ho, hg⟩ => ?_
 obtain ⟨A, c, rfl, _, _, _⟩ := own_form ho
 exact ⟨A, c, he, fun w2 h2 => own_string ho rfl h2, hg⟩
end Go.Proofs.YtmcmlkglkpbnpaaGreat
namespace Go.Proofs.YtmcmlkglkpbnpaaGreat
open Go.RowKit
def TellsOk : Prop := ∀ (bt br g gr : Nat) (f : List Nat) (L : List ByteArray) (s : ByteArray) (n : Int) (w : World), TabF w bt f g L → RTab w br gr L → FitY L → 1 ≤ L.length → L.length ≤ 66000 →
 Calls Tryz.prog 24 #[.pointer (some ⟨g, 0, none⟩), .pointer (some ⟨gr, 0, none⟩), .string s, .int .i64 n] w fun e w' => e = .returned (.bool true) ∧ w.grownBy w' none
end Go.Proofs.YtmcmlkglkpbnpaaGreat
