/-
  FS.do where a file loses its name.
-/
import Derived.Test.YtpkmlehkmmdkoaaSimM
namespace Go.Proofs.Ytpkmlehkmmdkoaa
open Go.RowKit

/-- What do leaves, where file fb loses its name. -/
def DoLose (g fb len : Nat) (v : FsV) (fv : FlV) (l : List (ByteArray × Nat)) (ch : List Ch) (c : Ch) (w : World) (e : Ending) (w' : World) : Prop :=
  e = .returned (.tuple #[]) ∧ ∃ vch, FsB w' g ({ v with used := v.used - len, vch := vch } : FsV).count ∧ FlB w' fb { fv with gone := true } ∧ MapAt encN w' v.mn (followL l c).1 ∧
    w'.ownsRow 0 78 3 vch (ch ++ [c]).length (chcells (ch ++ [c])) ∧ (vch.ownBlock = v.vch.ownBlock ∨ ∃ i, vch.ownBlock = some i ∧ w.heap.size ≤ i) ∧ Turned (fun i => i = g ∨ i = fb ∨ i = v.mn ∨ v.vch.ownBlock = some i) w w'

theorem fl_fs {w : World} {g fb : Nat} {v : FsV} {fv : FlV} (h : FsB w g v) (hf : FlB w fb fv) : fb ≠ g := by
  rintro rfl
  have h1 : w.heap[fb]? = _ := h
  have h2 : w.heap[fb]? = _ := hf
  rw [h1] at h2
  injection h2 with h2
  injection h2 with _ h2
  exact absurd h2 (by decide)

set_option maxHeartbeats 8000000 in
set_option maxRecDepth 100000 in
theorem fsdo_lose (g fb n len c1 : Nat) (A1 : Option Addr) (v : FsV) (fv : FlV) (l : List (ByteArray × Nat)) (lf : List (Int × Nat)) (ch : List Ch) (c : Ch) (w : World) (h : FsB w g v) (hm : MapAt encN w v.mn l) (hf : MapAt encF w v.mf lf) (hc : w.ownsRow 0 78 3 v.vch ch.length (chcells ch))
    (hgone : (followL l c).2 = n) (hn0 : 0 < n) (hn : aget lf (n : Int) = some fb) (hfl : FlB w fb fv) (hvb : fv.vb = .slice A1 len c1) (hll : len ≤ 2000000000) (hu : -2000000000000000 ≤ v.used ∧ v.used ≤ 2000000000000000) (hmn : v.mf ≠ v.mn)
    (h0 : 0 ≤ v.ops ∧ v.ops ≤ 2000000000) (ha : v.armed ≤ 9223372036854775807) (hcl : ch.length ≤ 1000000) :
    Calls Try.prog 39 #[.pointer (some ⟨g, 0, none⟩), .agg #[.string c.src, .string c.dst, .int .i64 (c.file : Int)]] w (DoLose g fb len v fv l ch c w) := by
  obtain ⟨i1, hi1, hiz, his, hib⟩ := info_parts Try.infoC
  obtain ⟨h01, h02⟩ := h0
  obtain ⟨hu1, hu2⟩ := hu
  obtain ⟨wa, hwaE⟩ : ∃ wa, wa = w.alloc (.cells #[.string c.src, .string c.dst, .int .i64 (c.file : Int)] 78) := ⟨_, rfl⟩
  have hga : w.grownBy wa none := by rw [hwaE]; exact gb_alloc (gb_refl w none) _
  have hX := heap_alloc_new w (.cells #[.string c.src, .string c.dst, .int .i64 (c.file : Int)] 78)
  rw [← hwaE] at hX
  have hgl := h.lt
  have hml := hm.lt
  have hfbl := hfl.lt
  have hmg : v.mn ≠ g := map_ne hm h
  have hfg : v.mf ≠ g := map_ne hf h
  have hfbg : fb ≠ g := fl_fs h hfl
  have hfbm : v.mn ≠ fb := map_ne hm hfl
  have hfbf : v.mf ≠ fb := map_ne hf hfl
  have hrm : v.vch.ownBlock ≠ some v.mn := own_ne_map hc hm
  have hVa : FsB wa g v := h.keep (hga.block g hgl (by simp))
  have hma : MapAt encN wa.drew v.mn l := hm.keep (hga.block _ hml (by simp))
  have hca := own_keep hc (w' := wa) fun i hi hl => hga.block i hl (by simp)
  have hfla : FlB wa fb fv := hfl.keep (hga.block fb hfbl (by simp))
  have hfa : MapAt encF wa v.mf lf := hf.keep (hga.block _ hf.lt (by simp))
  have hFO := follow_any v.mn l c _ hma
  rw [hgone] at hFO
  have HFO := hide hFO
  have HWE := hide hwaE
  have HX := hide hX
  have HVA := hide hVa
  have HCA := hide hca
  have HFA := hide hfa
  have HLA := hide hfla
  have HI1 := hide hi1
  have HIZ := hide hiz
  have HIS := hide his
  have HIB := hide hib
  have HGA := hide hga
  have HCL := hide hc
  have HVB := hide hvb
  have HN := hide hn
  have q4 := hVa.c4
  have b0 : wa.cell? ⟨w.heap.size, 0, none⟩ = some (.string c.src) := by rw [blk_cell hX]; rfl
  have b1 : wa.cell? ⟨w.heap.size, 1, none⟩ = some (.string c.dst) := by rw [blk_cell hX]; rfl
  have b2 : wa.cell? ⟨w.heap.size, 2, none⟩ = some (.int .i64 (c.file : Int)) := by rw [blk_cell hX]; rfl
  have HGO := hide hgone
  have hz1 : ((n : Int) != 0) = true := by simp; omega
  have hz2 : ((n : Int) == 0) = false := by simp; omega
  have hws : IntKind.i64.wrap (v.used - (len : Int)) = v.used - (len : Int) := IntWalk.i64_in _ (by omega)
  clear hi1 hiz his hib hX hVa hma hca hfa hfla hFO hwaE h hm hc hf hfl hga hgone hvb hn
  go_enter Try.func39, Try.ntmps39
  go_wp2
  rw [← HWE.out]
  go_still_tail 5, (by kernel_rfl)
  go_wp2_with (go_at_call 46; refine HFO.out.mono ?_; rintro e w2 ⟨rfl, hm2, hg2⟩; have HM2 := hide hm2; have HG2 : Hid (wa.grownBy w2 (some v.mn)) := hide ⟨hg2.os, hg2.tape, hg2.output, hg2.size, hg2.block⟩; clear hm2 hg2)
  clear q4 b0 b1 b2
  have HV2 : Hid (FsB w2 g v) := hide (HVA.out.keep (HG2.out.block g HVA.out.lt (fun e => hmg (by injection e with e; exact e.symm))))
  have HC2 : Hid (w2.ownsRow 0 78 3 v.vch ch.length (chcells ch)) := hide (own_keep HCA.out fun i hi hl => HG2.out.block i hl (fun e => hrm (by injection e with e; rw [hi, e])))
  have HX2 : Hid (w2.heap[w.heap.size]? = some (.cells #[.string c.src, .string c.dst, .int .i64 (c.file : Int)] 78 (0, 0))) := hide ((HG2.out.block _ (blk_lt HX.out) (fun e => by injection e with e; omega)).trans HX.out)
  have HL2 : Hid (FlB w2 fb fv) := hide (HLA.out.keep (HG2.out.block fb HLA.out.lt (fun e => hfbm (by injection e with e; exact e.symm))))
  have HF2 : Hid (MapAt encF w2 v.mf lf) := hide (HFA.out.keep (HG2.out.block _ HFA.out.lt (fun e => hmn (by injection e))))
  have q1 := HV2.out.c1
  have q3 := HV2.out.c3
  have f1 := HV2.out.fr 1
  have t1 := HL2.out.c1
  rw [HVB.out] at t1
  have hlk : (Instr.lookup 71 (.map (some v.mf)) (.int .i64 (n : Int)) false).run Try.prog w2.drew = .ok (.pointer (some ⟨fb, 0, none⟩)) w2.drew := (HF2.out.keep (w' := w2.drew) rfl).look_yes (P := Try.prog) (E := encF) Try.underlying3 Try.underlying71 (zero_file w2.drew) HN.out
  have HV3 : Hid (FsB (w2.setCell ⟨g, 1, none⟩ (.int .i64 (v.used - (len : Int)))) g ({ v with used := v.used - len } : FsV)) := hide (HV2.out.set1 _)
  have HL3 : Hid (FlB (w2.setCell ⟨g, 1, none⟩ (.int .i64 (v.used - (len : Int)))) fb fv) := hide (HL2.out.keep ((gb_set (gb_refl w2 (some g)) 1 _).block fb HL2.out.lt (fun e => hfbg (by injection e))))
  have HF3 : Hid (MapAt encF (w2.setCell ⟨g, 1, none⟩ (.int .i64 (v.used - (len : Int)))) v.mf lf) := hide (HF2.out.keep ((gb_set (gb_refl w2 (some g)) 1 _).block _ HF2.out.lt (fun e => hfg (by injection e))))
  have q3' := HV3.out.c3
  have k0 := HL3.out.c0
  have kf0 := HL3.out.fr 0
  have hlk3 : (Instr.lookup 71 (.map (some v.mf)) (.int .i64 (n : Int)) false).run Try.prog (w2.setCell ⟨g, 1, none⟩ (.int .i64 (v.used - (len : Int)))).drew = .ok (.pointer (some ⟨fb, 0, none⟩)) (w2.setCell ⟨g, 1, none⟩ (.int .i64 (v.used - (len : Int)))).drew :=
    (HF3.out.keep (w' := (w2.setCell ⟨g, 1, none⟩ (.int .i64 (v.used - (len : Int)))).drew) rfl).look_yes (P := Try.prog) (E := encF) Try.underlying3 Try.underlying71 (zero_file _) HN.out
  go_still_tail 17, (by kernel_rfl)
  go_wp2_with fail
  clear q1 q3 f1 t1 hlk q3' k0 kf0 hlk3
  have HV4 : Hid (FsB ((w2.setCell ⟨g, 1, none⟩ (.int .i64 (v.used - (len : Int)))).setCell ⟨fb, 0, none⟩ (.bool true)).drew g ({ v with used := v.used - len } : FsV)) := hide (HV3.out.keep ((gb_set (gb_refl _ (some fb)) 0 _).block g HV3.out.lt (fun e => hfbg (by injection e with e; exact e.symm))))
  have HL4 : Hid (FlB ((w2.setCell ⟨g, 1, none⟩ (.int .i64 (v.used - (len : Int)))).setCell ⟨fb, 0, none⟩ (.bool true)).drew fb { fv with gone := true }) := hide (HL3.out.set0 true)
  have HGG : Hid (Turned (fun i => i = g ∨ i = fb) w2 ((w2.setCell ⟨g, 1, none⟩ (.int .i64 (v.used - (len : Int)))).setCell ⟨fb, 0, none⟩ (.bool true)).drew) := hide (((Turned.of_gb (M := fun i => i = g ∨ i = fb) (gb_set (gb_refl w2 (some g)) 1 (.int .i64 (v.used - (len : Int)))) (fun i e => by injection e with e; exact .inl e.symm)).trans (Turned.of_gb (M := fun i => i = fb) (gb_set (gb_refl _ (some fb)) 0 (.bool true)) (fun i e => by injection e with e; exact e.symm)) (fun i _ h => .inr h)).drewN 1)
  generalize ((w2.setCell ⟨g, 1, none⟩ (.int .i64 (v.used - (len : Int)))).setCell ⟨fb, 0, none⟩ (.bool true)).drew = w4 at *
  clear HV3 HL3 HF3
  have hsz4 := HGG.out.size
  have hcfb : v.vch.ownBlock ≠ some fb := fun e => own_ne HC2.out HL2.out (by decide) e
  have hcg : v.vch.ownBlock ≠ some g := fun e => own_ne HC2.out HV2.out (by decide) e
  have HC4 : Hid (w4.ownsRow 0 78 3 v.vch ch.length (chcells ch)) := hide (own_keep HC2.out fun i hi hl => HGG.out.block i hl (fun e => by rcases e with e | e; exact hcg (by rw [hi, e]); exact hcfb (by rw [hi, e])))
  have HX4 : Hid (w4.heap[w.heap.size]? = some (.cells #[.string c.src, .string c.dst, .int .i64 (c.file : Int)] 78 (0, 0))) := hide ((HGG.out.block _ (blk_lt HX2.out) (fun e => by omega)).trans HX2.out)
  have HM4 : Hid (MapAt encN w4 v.mn (followL l c).1) := hide (HM2.out.keep (HGG.out.block _ HM2.out.lt (fun e => by rcases e with e | e; exact hmg e; exact hfbm e)))
  have HT4 : Hid (Turned (fun i => i = g ∨ i = fb ∨ i = v.mn) w w4) := hide (((Turned.of_gb (M := fun i => i = g ∨ i = fb ∨ i = v.mn) HGA.out (by simp)).trans (Turned.of_gb (M := fun i => i = v.mn) HG2.out (fun i e => by injection e with e; exact e.symm)) (fun i _ h => .inr (.inr h))).trans HGG.out (fun i _ h => by rcases h with h | h; exact .inl h; exact .inr (.inl h)))
  clear HGG HX2 HC2 HM2 HV2 HL2 HF2
  have q6 := HV4.out.c6
  have f6 := HV4.out.fr 6
  have b0 : w4.cell? ⟨w.heap.size, 0, none⟩ = some (.string c.src) := by rw [blk_cell HX4.out]; rfl
  have b1 : w4.cell? ⟨w.heap.size, 1, none⟩ = some (.string c.dst) := by rw [blk_cell HX4.out]; rfl
  have b2 : w4.cell? ⟨w.heap.size, 2, none⟩ = some (.int .i64 (c.file : Int)) := by rw [blk_cell HX4.out]; rfl
  have n0 := World.new_ne w4 _ b0
  have n6 := World.new_ne w4 _ q6
  have r6 : (w4.alloc (.cells #[.string c.src, .string c.dst, .int .i64 (c.file : Int)] 78)).cell? ⟨g, 6, none⟩ = some v.vch := (show FsB (w4.alloc (.cells #[.string c.src, .string c.dst, .int .i64 (c.file : Int)] 78)) g _ from HV4.out.keep (heap_alloc_old w4 _ HV4.out.lt)).c6
  have HLA4 : Hid ((w4.alloc (.cells #[.string c.src, .string c.dst, .int .i64 (c.file : Int)] 78)).ownsRow 0 78 3 v.vch ch.length (chcells ch)) := hide (HC4.out.alloc _)
  have HRN := hide (Rd.new w4 #[.string c.src, .string c.dst, .int .i64 (c.file : Int)] 78 [.string c.src, .string c.dst, .int .i64 (c.file : Int)] rfl)
  have HOC := hide (ch_cells c)
  have HM1 : Hid (ch.length + 1 ≤ maxLen) := hide (by unfold maxLen; omega)
  have HMB : Hid ((ch.length + 1) * 40 ≤ 140737488355328) := hide (by omega)
  have DEC1 : Hid (75 ≠ 78) := hide (by decide)
  have DEC2 : Hid (93 ≠ 78) := hide (by decide)
  clear hws hz1 hz2
  go_region_law
    ((refine step_append_row (by rfl) (.tmp 42) (.tmp 44) 73 (by rfl) 0 78 i1 (.agg #[.string ⟨#[]⟩, .string ⟨#[]⟩, .int .i64 0]) 3 40 Try.underlying73 HI1.out HIZ.out HIS.out HIB.out rfl (Nat.succ_pos 2) v.vch ch.length (chcells ch) (by rfl) HLA4.out (w4.heap.size + 1) (some ⟨w4.heap.size, 0, none⟩) 1 1 [.string c.src, .string c.dst, .int .i64 (c.file : Int)] (by rfl) rfl HRN.out HOC.out HM1.out HMB.out (Nat.zero_le _) ?_; intro v5 w5 ho5 hg5 hb5; obtain ⟨A5, c5, rfl⟩ := own_slice ho5; have HO5 := hide ho5; have hg6 : (w4.alloc (.cells #[.string c.src, .string c.dst, .int .i64 (c.file : Int)] 78)).grownBy w5 v.vch.ownBlock := ⟨hg5.os, hg5.tape, hg5.output, hg5.size, hg5.block⟩; have HG5 : Hid (w4.grownBy w5 v.vch.ownBlock) := hide (gb_trans (gb_alloc (gb_refl w4 v.vch.ownBlock) (.cells #[.string c.src, .string c.dst, .int .i64 (c.file : Int)] 78)) hg6 (.inl rfl)); clear hg6; have HBB5 := hide hb5; clear ho5 hg5 hb5; have HV5 : Hid (FsB w5 g ({ v with used := v.used - len } : FsV)) := hide (row_stay HC4.out HG5.out HV4.out DEC1.out); have t5 := HV5.out.c6; have t6 := HV5.out.fr 6))
  all_goals
    clear q6 f6 b0 b1 b2 n0 n6 r6 t5 t6
    have HV6 := hide (HV5.out.set6 (.slice A5 (ch.length + 1) c5))
    have HL5 : Hid (FlB w5 fb { fv with gone := true }) := hide (row_stay HC4.out HG5.out HL4.out DEC2.out)
    go_wp2_with (go_at_call 43; refine (count_any g _ _ HV6.out h01 h02 ha).mono ?_; rintro e w6 ⟨rfl, hv6, hg6⟩; have HV7 := hide hv6; have HG7 := hide hg6; clear hv6 hg6)
    go_end0
    have hg5 : w5.grownBy (w5.setCell ⟨g, 6, none⟩ (.slice A5 (ch.length + 1) c5)) (some g) := gb_set (gb_refl w5 (some g)) 6 _
    have hg56 : w5.grownBy w6 (some g) := gb_trans hg5 HG7.out (.inl rfl)
    have hsz : w.heap.size ≤ w4.heap.size := HT4.out.size
    refine ⟨rfl, _, HV7.out, ?_, ?_, ?_, ?_, ?_⟩
    · exact HL5.out.keep (hg56.block fb HL5.out.lt (fun e => hfbg (by injection e)))
    · exact (HM4.out.grown HG5.out (fun e => hrm e.symm)).grown hg56 (fun e => hmg (by injection e))
    · rw [List.length_append, chcells_append]
      exact own_other HO5.out hg56 HV5.out (by decide)
    · rcases HBB5.out with hb | hb
      · exact .inl hb
      · refine .inr ⟨_, hb, Nat.le_trans hsz ?_⟩
        show w4.heap.size ≤ (w4.alloc _).heap.size
        simp
    · exact ((HT4.out.mono (M' := fun i => i = g ∨ i = fb ∨ i = v.mn ∨ v.vch.ownBlock = some i) (fun i _ h => by rcases h with h | h | h; exact .inl h; exact .inr (.inl h); exact .inr (.inr (.inl h)))).trans (Turned.of_gb (M := fun i => v.vch.ownBlock = some i) HG5.out (fun i e => e)) (fun i _ h => .inr (.inr (.inr h)))).trans (Turned.of_gb (M := fun i => i = g) hg56 (fun i e => by injection e with e; exact e.symm)) (fun i _ h => .inl h)

end Go.Proofs.Ytpkmlehkmmdkoaa
