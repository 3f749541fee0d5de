/-
  PROVED: for all lists of bytes and every place: of their frames, one behind the other and cut off there, octet.Frames tells just the whole ones, the place behind them, and OK just if that is where they were cut (P1.9); the law returns true and leaves its arguments as they were. No condition.
-/
import Derived.Test.YtdaefgkhimhpdaaLawTorn
namespace Go.Proofs.Ytdaefgkhimhpdaa
open Go.RowKit Go.ChangeShapes Go.WideShapes Go.ChangeAt

set_option maxHeartbeats 2000000 in
set_option maxRecDepth 100000 in
theorem torn_live (AL : Option Addr) (cl : Nat) (cut : Int) (l : List (Option Addr × Nat × List UInt8)) (w : World)
    (hl : RdB w w.heap.size AL l) (hs : AllTiny l) (h1 : l.length ≤ maxLen) (hb : hugeB l = true) :
    Calls Try.prog 7 #[.slice AL l.length cl, .int .i64 cut] w fun e w' => e = .returned (.bool true) ∧ w.grownBy w' none := by
  have LV := hide live_any
  have HU := hide (huge_any AL cl w.heap.size l w hl hs h1)
  rw [hb] at HU
  clear hb hs hl
  go_enter Try.func7, Try.ntmps7
  go_wp2_with (first
    | (go_at_call 17; refine HU.out.mono ?_; rintro e w1 ⟨rfl, rfl⟩)
    | (go_at_call 10; refine (LV.out _).mono ?_; rintro e w1 ⟨rfl, hg⟩))
  go_ret
  exact ⟨rfl, hg⟩

set_option maxRecDepth 100000 in
theorem lawTorn_lifted (os : Os) (started : os.Started) (H : Type) (enc : TypeId × Value → H) :
    ReturnsInHanded {} Try.checked os 7 .any (Rows.octetTornSpec.pre6 enc Try.prog Try.f7 Rows.octetTornRow.domain false) (Rows.octetTornSpec.post enc Try.prog Try.f7 false true false false) := by
  refine returnsInHanded_of_change_sized (C := Try.checked) Try.own started (by kernel_rfl) Try.func7
    (ChangeSpec.witness6 (enc := enc) (C := Try.checked) false ⟨#[], #[.slice none 0 0, .int .i64 0], []⟩ 8 (by kernel_rfl) (by kernel_rfl) (by kernel_rfl) (by kernel_rfl)) ?_
  intro W base args ds gs before hval0 hW _ hsz0 _
  have hval : ∀ (j : Nat) t v, Try.f7.params[j]? = some t → args[j]? = some v → Value.okWide Try.prog W .any base t v := hval0
  have hW' := hW
  obtain ⟨p, q, hA0, hV, _, _, _⟩ := hW
  have hA : DataW.TrodAll enc Try.prog W 0 (fun _ => true) true Try.f7.params.toList args.toList ds p := hA0
  have hsz : (DataW.weightsEach Try.prog (Try.f7.params.toList ++ Rows.octetTornSpec.plain.varTypes Try.prog) (ds ++ gs)).all (· ≤ reachBytes) = true := hsz0
  rw [Try.params7] at hA hval hsz
  obtain ⟨v0, v1, d0, d1, p0, p1, rfl, rfl, _, t0, t1⟩ := trodAll_two hA
  obtain ⟨rfl, rfl⟩ := trodVars_none hV
  simp only [List.cons_append, List.nil_append, List.append_nil, DataW.weightsEach, List.all_append, Bool.and_eq_true, List.all_eq_true, decide_eq_true_eq] at hsz
  obtain ⟨AL, cl, l, rfl, h1, h1m, hl, hlt⟩ := open_u8s (hval 0 _ _ rfl rfl) t0 hsz.1
  obtain ⟨a, rfl, rfl, rfl, _⟩ := open_int Try.underlying3 (hval 1 _ _ rfl rfl) t1
  have hwalk : Calls Try.prog 7 #[.slice AL l.length cl, .int .i64 a] W fun e w' => e = .returned (.bool true) ∧ W.grownBy w' none := by
    rcases hh : hugeB l with _ | _
    · exact torn_main AL cl a l W hl hlt (Nat.le_trans h1 h1m) h1 hh
    · exact torn_live AL cl a l W hl hlt (Nat.le_trans h1 h1m) hh
  refine hwalk.mono fun e W' ⟨he, hg⟩ => ⟨_, he, post_law hW' rfl ?_ rfl rfl (gb_below hg (Nat.le_refl _) (by simp))⟩
  intro t ht
  rw [Try.params7] at ht
  simp only [List.mem_cons, List.not_mem_nil, or_false] at ht
  rcases ht with rfl | rfl <;> exact ⟨by kernel_rfl, of_decide_eq_true (by kernel_rfl)⟩

theorem octetTorn_holds : Rows.OctetTornSaid :=
  OpenClaim.holds_of_wide 7 Try.f7 rfl rfl rfl rfl rfl rfl rfl ⟨rfl, rfl, rfl, rfl, rfl⟩ rfl rfl rfl rfl rfl (by kernel_rfl) Try.func7 (by kernel_rfl)
    (of_decide_eq_true (by kernel_rfl)) (by unfold Func.isWrapper; first | (rw [if_pos (by decide +kernel)]; kernel_rfl) | (rw [if_neg (by decide +kernel)]; exact ⟨rfl, rfl⟩))
    (fun os started H enc _ => lawTorn_lifted os started H enc)

end Go.Proofs.Ytdaefgkhimhpdaa
