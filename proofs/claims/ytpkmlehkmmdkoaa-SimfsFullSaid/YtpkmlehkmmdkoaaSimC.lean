/-
  The contracts of simfs.New, FS.do.
-/
import Derived.Test.YtpkmlehkmmdkoaaSimB
namespace Go.Proofs.Ytpkmlehkmmdkoaa
open Go.RowKit

theorem Try.infoC : (Try.prog.info? 78).map (fun i => (i.zero, i.size, i.bytes)) = some (some (.agg #[.string ⟨#[]⟩, .string ⟨#[]⟩, .int .i64 0]), 3, 40) := by kernel_rfl

/-- What do leaves, where no file loses its name. -/
def DoFs (g : Nat) (v : FsV) (l : List (ByteArray × Nat)) (ch : List Ch) (c : Ch) (w : World) (e : Ending) (w' : World) : Prop :=
  e = .returned (.tuple #[]) ∧ ∃ vch, FsB w' g ({ v with vch := vch } : FsV).count ∧ MapAt encN w' v.mn (followL l c).1 ∧ w'.ownsRow 0 78 3 vch (ch ++ [c]).length (chcells (ch ++ [c])) ∧
    (vch.ownBlock = v.vch.ownBlock ∨ ∃ i, vch.ownBlock = some i ∧ w.heap.size ≤ i) ∧ Turned (fun i => i = g ∨ i = v.mn ∨ v.vch.ownBlock = some i) w w'

theorem ch_cells (c : Ch) : ∀ u ∈ [Value.string c.src, .string c.dst, Value.int .i64 (c.file : Int)], u.oneCell' = true := by
  intro u hu
  simp only [List.mem_cons, List.not_mem_nil, or_false] at hu
  rcases hu with rfl | rfl | rfl <;> rfl

theorem map_ne {κ ν : Type} {E : Enc κ ν} {w : World} {b g : Nat} {l : List (κ × ν)} {cs : Array Value} {t : TypeId} {fr : Nat × Nat} (h : MapAt E w b l) (hg : w.heap[g]? = some (.cells cs t fr)) : b ≠ g := by
  rintro rfl
  obtain ⟨es, cl, hm, _⟩ := h
  rw [hm] at hg
  cases hg

theorem own_ne_map {κ ν : Type} {E : Enc κ ν} {w : World} {base size n b : Nat} {e : TypeId} {v : Value} {xs : List Value} {l : List (κ × ν)} (h : w.ownsRow base e size v n xs) (hm : MapAt E w b l) : v.ownBlock ≠ some b := fun he => by
  rcases h.2 with ⟨h1, _⟩ | ⟨g', cap, cur, hv, _, h3, _⟩
  · rw [h1] at he; cases he
  · rw [hv] at he
    injection he with he
    have e' : g' = b := he
    exact map_ne hm h3 e'.symm

set_option maxHeartbeats 4000000 in
set_option maxRecDepth 100000 in
theorem fsdo_keep (g : Nat) (v : FsV) (l : List (ByteArray × Nat)) (ch : List Ch) (c : Ch) (w : World) (h : FsB w g v) (hm : MapAt encN w v.mn l) (hc : w.ownsRow 0 78 3 v.vch ch.length (chcells ch)) (hgone : (followL l c).2 = 0)
    (h0 : 0 ≤ v.ops ∧ v.ops ≤ 2000000000) (ha : v.armed ≤ 9223372036854775807) (hcl : ch.length ≤ 1000000) :
    Calls Try.prog 39 #[.pointer (some ⟨g, 0, none⟩), .agg #[.string c.src, .string c.dst, .int .i64 (c.file : Int)]] w (DoFs g v l ch c w) := by
  obtain ⟨i1, hi1, hiz, his, hib⟩ := info_parts Try.infoC
  obtain ⟨h01, h02⟩ := h0
  obtain ⟨wa, hwaE⟩ : ∃ wa, wa = w.alloc (.cells #[.string c.src, .string c.dst, .int .i64 (c.file : Int)] 78) := ⟨_, rfl⟩
  have hga : w.grownBy wa none := by rw [hwaE]; exact gb_alloc (gb_refl w none) _
  have hX := heap_alloc_new w (.cells #[.string c.src, .string c.dst, .int .i64 (c.file : Int)] 78)
  rw [← hwaE] at hX
  have hgl := h.lt
  have hml := hm.lt
  have hmg : v.mn ≠ g := map_ne hm h
  have hrm : v.vch.ownBlock ≠ some v.mn := own_ne_map hc hm
  have hVa : FsB wa g v := h.keep (hga.block g hgl (by simp))
  have hma : MapAt encN wa.drew v.mn l := hm.keep (hga.block _ hml (by simp))
  have hca := own_keep hc (w' := wa) fun i hi hl => hga.block i hl (by simp)
  have hFO := follow_any v.mn l c _ hma
  rw [hgone] at hFO
  have HFO := hide hFO
  have HWE := hide hwaE
  have HX := hide hX
  have HVA := hide hVa
  have HCA := hide hca
  have HI1 := hide hi1
  have HIZ := hide hiz
  have HIS := hide his
  have HIB := hide hib
  have HGA := hide hga
  have HCL := hide hc
  have q4 := hVa.c4
  have b0 : wa.cell? ⟨w.heap.size, 0, none⟩ = some (.string c.src) := by rw [blk_cell hX]; rfl
  have b1 : wa.cell? ⟨w.heap.size, 1, none⟩ = some (.string c.dst) := by rw [blk_cell hX]; rfl
  have b2 : wa.cell? ⟨w.heap.size, 2, none⟩ = some (.int .i64 (c.file : Int)) := by rw [blk_cell hX]; rfl
  have HGO := hide hgone
  clear hi1 hiz his hib hX hVa hma hca hFO hwaE h hm hc hga hgone
  go_enter Try.func39, Try.ntmps39
  go_wp2
  rw [← HWE.out]
  go_still_tail 5, (by kernel_rfl)
  go_wp2_with (go_at_call 46; refine HFO.out.mono ?_; rintro e w2 ⟨rfl, hm2, hg2⟩; have HM2 := hide hm2; have HG2 : Hid (wa.grownBy w2 (some v.mn)) := hide ⟨hg2.os, hg2.tape, hg2.output, hg2.size, hg2.block⟩; clear hm2 hg2)
  clear q4 b0 b1 b2
  have HV2 : Hid (FsB w2 g v) := hide (HVA.out.keep (HG2.out.block g HVA.out.lt (fun e => hmg (by injection e with e; exact e.symm))))
  have HC2 : Hid (w2.ownsRow 0 78 3 v.vch ch.length (chcells ch)) := hide (own_keep HCA.out fun i hi hl => HG2.out.block i hl (fun e => hrm (by injection e with e; rw [hi, e])))
  have HX2 : Hid (w2.heap[w.heap.size]? = some (.cells #[.string c.src, .string c.dst, .int .i64 (c.file : Int)] 78 (0, 0))) := hide ((HG2.out.block _ (blk_lt HX.out) (fun e => by injection e with e; omega)).trans HX.out)
  have q6 := HV2.out.c6
  have f6 := HV2.out.fr 6
  have b0 : w2.cell? ⟨w.heap.size, 0, none⟩ = some (.string c.src) := by rw [blk_cell HX2.out]; rfl
  have b1 : w2.cell? ⟨w.heap.size, 1, none⟩ = some (.string c.dst) := by rw [blk_cell HX2.out]; rfl
  have b2 : w2.cell? ⟨w.heap.size, 2, none⟩ = some (.int .i64 (c.file : Int)) := by rw [blk_cell HX2.out]; rfl
  have n0 := World.new_ne w2 _ b0
  have n6 := World.new_ne w2 _ q6
  have r6 : (w2.alloc (.cells #[.string c.src, .string c.dst, .int .i64 (c.file : Int)] 78)).cell? ⟨g, 6, none⟩ = some v.vch := (show FsB (w2.alloc (.cells #[.string c.src, .string c.dst, .int .i64 (c.file : Int)] 78)) g v from HV2.out.keep (heap_alloc_old w2 _ HV2.out.lt)).c6
  have HLA : Hid ((w2.alloc (.cells #[.string c.src, .string c.dst, .int .i64 (c.file : Int)] 78)).ownsRow 0 78 3 v.vch ch.length (chcells ch)) := hide (HC2.out.alloc _)
  have HRN := hide (Rd.new w2 #[.string c.src, .string c.dst, .int .i64 (c.file : Int)] 78 [.string c.src, .string c.dst, .int .i64 (c.file : Int)] rfl)
  have HOC := hide (ch_cells c)
  have HM1 : Hid (ch.length + 1 ≤ maxLen) := hide (by unfold maxLen; omega)
  have HMB : Hid ((ch.length + 1) * 40 ≤ 140737488355328) := hide (by omega)
  have DEC1 : Hid (75 ≠ 78) := hide (by decide)
  go_region_law
    ((refine step_append_row (by rfl) (.tmp 42) (.tmp 44) 73 (by rfl) 0 78 i1 (.agg #[.string ⟨#[]⟩, .string ⟨#[]⟩, .int .i64 0]) 3 40 Try.underlying73 HI1.out HIZ.out HIS.out HIB.out rfl (Nat.succ_pos 2) v.vch ch.length (chcells ch) (by rfl) HLA.out (w2.heap.size + 1) (some ⟨w2.heap.size, 0, none⟩) 1 1 [.string c.src, .string c.dst, .int .i64 (c.file : Int)] (by rfl) rfl HRN.out HOC.out HM1.out HMB.out (Nat.zero_le _) ?_; intro v5 w5 ho5 hg5 hb5; obtain ⟨A5, c5, rfl⟩ := own_slice ho5; have HO5 := hide ho5; have hg6 : (w2.alloc (.cells #[.string c.src, .string c.dst, .int .i64 (c.file : Int)] 78)).grownBy w5 v.vch.ownBlock := ⟨hg5.os, hg5.tape, hg5.output, hg5.size, hg5.block⟩; have HG5 : Hid (w2.grownBy w5 v.vch.ownBlock) := hide (gb_trans (gb_alloc (gb_refl w2 v.vch.ownBlock) (.cells #[.string c.src, .string c.dst, .int .i64 (c.file : Int)] 78)) hg6 (.inl rfl)); clear hg6; have HBB5 := hide hb5; clear ho5 hg5 hb5; have HV5 : Hid (FsB w5 g v) := hide (row_stay HC2.out HG5.out HV2.out DEC1.out); have t5 := HV5.out.c6; have t6 := HV5.out.fr 6))
  all_goals
    clear q6 f6 b0 b1 b2 n0 n6 r6 t5 t6
    have HV6 := hide (HV5.out.set6 (.slice A5 (ch.length + 1) c5))
    go_wp2_with (go_at_call 43; refine (count_any g _ _ HV6.out h01 h02 ha).mono ?_; rintro e w6 ⟨rfl, hv6, hg6⟩; have HV7 := hide hv6; have HG7 := hide hg6; clear hv6 hg6)
    go_end0
    have hg5 : w5.grownBy (w5.setCell ⟨g, 6, none⟩ (.slice A5 (ch.length + 1) c5)) (some g) := gb_set (gb_refl w5 (some g)) 6 _
    have hg56 : w5.grownBy w6 (some g) := gb_trans hg5 HG7.out (.inl rfl)
    have hsz : w.heap.size ≤ w2.heap.size := Nat.le_trans HGA.out.size HG2.out.size
    refine ⟨rfl, _, HV7.out, ?_, ?_, ?_, ?_⟩
    · exact (HM2.out.grown HG5.out (fun e => hrm e.symm)).grown hg56 (fun e => hmg (by injection e))
    · rw [List.length_append, chcells_append]
      exact own_other HO5.out hg56 HV5.out (by decide)
    · rcases HBB5.out with hb | hb
      · exact .inl hb
      · refine .inr ⟨_, hb, Nat.le_trans hsz ?_⟩
        show w2.heap.size ≤ (w2.alloc _).heap.size
        simp
    · exact (((Turned.of_gb (M := fun i => i = g ∨ i = v.mn ∨ v.vch.ownBlock = some i) HGA.out (by simp)).trans (Turned.of_gb (M := fun i => i = v.mn) HG2.out (fun i e => by injection e with e; exact e.symm)) (fun i _ h => .inr (.inl h))).trans (Turned.of_gb (M := fun i => v.vch.ownBlock = some i) HG5.out (fun i e => e)) (fun i _ h => .inr (.inr h))).trans (Turned.of_gb (M := fun i => i = g) hg56 (fun i e => by injection e with e; exact e.symm)) (fun i _ h => .inl h)

end Go.Proofs.Ytpkmlehkmmdkoaa
