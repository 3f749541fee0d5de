/-
  FS.settle, count, SyncDir upon a file system's state.
-/
import Derived.Test.YtmcmlkglkpbnpaaGreatQax
import Derived.Carry
import Derived.Laws.Externs
import Derived.StillTailTactics
import Derived.Maps.RangeWalk
namespace Go.Proofs.YtmcmlkglkpbnpaaGreat
open Go.RowKit
theorem Tryz.infoC : (Tryz.prog.info? 89).map (fun i => (i.zero, i.size, i.bytes)) = some (some (.agg #[.string ⟨#[]⟩, .string ⟨#[]⟩, .int .i64 0]), 3, 40) := by kernel_rfl
def DoFs (g : Nat) (v : FsV) (l : List (ByteArray × Nat)) (ch : List Ch) (c : Ch) (w : World) (e : Ending) (w' : World) : Prop :=
 e = .returned (.tuple #[]) ∧ ∃ vch, FsB w' g ({ v with vch := vch } : FsV).count ∧ MapAt encN w' v.mn (followL l c).1 ∧ w'.ownsRow 0 89 3 vch (ch ++ [c]).length (chcells (ch ++ [c])) ∧
  (vch.ownBlock = v.vch.ownBlock ∨ ∃ i, vch.ownBlock = some i ∧ w.heap.size ≤ i) ∧ Turned (fun i => i = g ∨ i = v.mn ∨ v.vch.ownBlock = some i) w w'
theorem ch_cells (c : Ch) : ∀ u ∈ [Value.string c.src, .string c.dst, Value.int .i64 (c.file : Int)], u.oneCell' = true := by
 intro u hu
 simp only [List.mem_cons, List.not_mem_nil, or_false] at hu
 rcases hu with rfl | rfl | rfl <;> rfl
theorem map_ne {κ ν : Type} {E : Enc κ ν} {w : World} {b g : Nat} {l : List (κ × ν)} {cs : Array Value} {t : TypeId} {fr : Nat × Nat} (h : MapAt E w b l) (hg : w.heap[g]? = some (.cells cs t fr)) : b ≠ g := by
 rintro rfl
 obtain ⟨es, cl, hm, _⟩ := h
 rw [hm] at hg
 cases hg
theorem own_ne_map {κ ν : Type} {E : Enc κ ν} {w : World} {base size n b : Nat} {e : TypeId} {v : Value} {xs : List Value} {l : List (κ × ν)} (h : w.ownsRow base e size v n xs) (hm : MapAt E w b l) : v.ownBlock ≠ some b := fun he => by
 rcases h.2 with ⟨h1, _⟩ | ⟨g', cap, cur, hv, _, h3, _⟩
 ·rw [h1] at he; cases he
 ·rw [hv] at he
  injection he with he
  have e' : g' = b := he
  exact map_ne hm h3 e'.symm
set_option maxHeartbeats 4000000 in
set_option maxRecDepth 100000 in
theorem fsdo_keep (g : Nat) (v : FsV) (l : List (ByteArray × Nat)) (ch : List Ch) (c : Ch) (w : World) (h : FsB w g v) (hm : MapAt encN w v.mn l) (hc : w.ownsRow 0 89 3 v.vch ch.length (chcells ch)) (hgone : (followL l c).2 = 0)
  (h0 : 0 ≤ v.ops ∧ v.ops ≤ 2000000000) (ha : v.armed ≤ 9223372036854775807) (hcl : ch.length ≤ 1000000) :
  Calls Tryz.prog 105 #[.pointer (some ⟨g, 0, none⟩), .agg #[.string c.src, .string c.dst, .int .i64 (c.file : Int)]] w (DoFs g v l ch c w) := by
 obtain ⟨i1, hi1, hiz, his, hib⟩ := info_parts Tryz.infoC
 obtain ⟨h01, h02⟩ := h0
 obtain ⟨wa, hwaE⟩ : ∃ wa, wa = w.alloc (.cells #[.string c.src, .string c.dst, .int .i64 (c.file : Int)] 89) := ⟨_, rfl⟩
 have hga : w.grownBy wa none := by rw [hwaE]; exact gb_alloc (gb_refl w none) _
 have hX := heap_alloc_new w (.cells #[.string c.src, .string c.dst, .int .i64 (c.file : Int)] 89)
 rw [← hwaE] at hX
 have hgl := h.lt
 have hml := hm.lt
 have hmg : v.mn ≠ g := map_ne hm h
 have hrm : v.vch.ownBlock ≠ some v.mn := own_ne_map hc hm
 have hVa : FsB wa g v := h.keep (hga.block g hgl (by simp))
 have hma : MapAt encN wa.drew v.mn l := hm.keep (hga.block _ hml (by simp))
 have hca := own_keep hc (w' := wa) fun i hi hl => hga.block i hl (by simp)
 have hFO := follow_any v.mn l c _ hma
 rw [hgone] at hFO
 have HFO := hide hFO
 have HWE := hide hwaE
 have HX := hide hX
 have HVA := hide hVa
 have HCA := hide hca
 have HI1 := hide hi1
 have HIZ := hide hiz
 have HIS := hide his
 have HIB := hide hib
 have HGA := hide hga
 have HCL := hide hc
 have q4 := hVa.c4
 have b0 : wa.cell? ⟨w.heap.size, 0, none⟩ = some (.string c.src) := by rw [blk_cell hX]; rfl
 have b1 : wa.cell? ⟨w.heap.size, 1, none⟩ = some (.string c.dst) := by rw [blk_cell hX]; rfl
 have b2 : wa.cell? ⟨w.heap.size, 2, none⟩ = some (.int .i64 (c.file : Int)) := by rw [blk_cell hX]; rfl
 have HGO := hide hgone
 clear hi1 hiz his hib hX hVa hma hca hFO hwaE h hm hc hga hgone
 go_enter Tryz.func105, Tryz.ntmps105
 go_wp2
 rw [← HWE.out]
 go_still_tail 5, (by kernel_rfl)
 go_wp2_with (go_at_call 32; refine HFO.out.mono ?_; rintro e w2 ⟨rfl, hm2, hg2⟩; have HM2 := hide hm2; have HG2 : Hid (wa.grownBy w2 (some v.mn)) := hide ⟨hg2.os, hg2.tape, hg2.output, hg2.size, hg2.block⟩; clear hm2 hg2)
 clear q4 b0 b1 b2
 have HV2 : Hid (FsB w2 g v) := hide (HVA.out.keep (HG2.out.block g HVA.out.lt (fun e => hmg (by injection e with e; exact e.symm))))
 have HC2 : Hid (w2.ownsRow 0 89 3 v.vch ch.length (chcells ch)) := hide (own_keep HCA.out fun i hi hl => HG2.out.block i hl (fun e => hrm (by injection e with e; rw [hi, e])))
 have HX2 : Hid (w2.heap[w.heap.size]? = some (.cells #[.string c.src, .string c.dst, .int .i64 (c.file : Int)] 89 (0, 0))) := hide ((HG2.out.block _ (blk_lt HX.out) (fun e => by injection e with e; omega)).trans HX.out)
 have q6 := HV2.out.c6
 have f6 := HV2.out.fr 6
 have b0 : w2.cell? ⟨w.heap.size, 0, none⟩ = some (.string c.src) := by rw [blk_cell HX2.out]; rfl
 have b1 : w2.cell? ⟨w.heap.size, 1, none⟩ = some (.string c.dst) := by rw [blk_cell HX2.out]; rfl
 have b2 : w2.cell? ⟨w.heap.size, 2, none⟩ = some (.int .i64 (c.file : Int)) := by rw [blk_cell HX2.out]; rfl
 have n0 := World.new_ne w2 _ b0
 have n6 := World.new_ne w2 _ q6
 have r6 : (w2.alloc (.cells #[.string c.src, .string c.dst, .int .i64 (c.file : Int)] 89)).cell? ⟨g, 6, none⟩ = some v.vch := (show FsB (w2.alloc (.cells #[.string c.src, .string c.dst, .int .i64 (c.file : Int)] 89)) g v from HV2.out.keep (heap_alloc_old w2 _ HV2.out.lt)).c6
 have HLA : Hid ((w2.alloc (.cells #[.string c.src, .string c.dst, .int .i64 (c.file : Int)] 89)).ownsRow 0 89 3 v.vch ch.length (chcells ch)) := hide (HC2.out.alloc _)
 have HRN := hide (Rd.new w2 #[.string c.src, .string c.dst, .int .i64 (c.file : Int)] 89 [.string c.src, .string c.dst, .int .i64 (c.file : Int)] rfl)
 have HOC := hide (ch_cells c)
 have HM1 : Hid (ch.length + 1 ≤ maxLen) := hide (by unfold maxLen; omega)
 have HMB : Hid ((ch.length + 1) * 40 ≤ 140737488355328) := hide (by omega)
 have DEC1 : Hid (81 ≠ 89) := hide (by decide)
 go_region_law
  ((refine step_append_row (by rfl) (.tmp 42) (.tmp 44) 79 (by rfl) 0 89 i1 (.agg #[.string ⟨#[]⟩, .string ⟨#[]⟩, .int .i64 0]) 3 40 Tryz.underlying79 HI1.out HIZ.out HIS.out HIB.out rfl (Nat.succ_pos 2) v.vch ch.length (chcells ch) (by rfl) HLA.out (w2.heap.size + 1) (some ⟨w2.heap.size, 0, none⟩) 1 1 [.string c.src, .string c.dst, .int .i64 (c.file : Int)] (by rfl) rfl HRN.out HOC.out HM1.out HMB.out (Nat.zero_le _) ?_; intro v5 w5 ho5 hg5 hb5; obtain ⟨A5, c5, rfl⟩ := own_slice ho5; have HO5 := hide ho5; have hg6 : (w2.alloc (.cells #[.string c.src, .string c.dst, .int .i64 (c.file : Int)] 89)).grownBy w5 v.vch.ownBlock := ⟨hg5.os, hg5.tape, hg5.output, hg5.size, hg5.block⟩; have HG5 : Hid (w2.grownBy w5 v.vch.ownBlock) := hide (gb_trans (gb_alloc (gb_refl w2 v.vch.ownBlock) (.cells #[.string c.src, .string c.dst, .int .i64 (c.file : Int)] 89)) hg6 (.inl rfl)); clear hg6; have HBB5 := hide hb5; clear ho5 hg5 hb5; have HV5 : Hid (FsB w5 g v) := hide (row_stay HC2.out HG5.out HV2.out DEC1.out); have t5 := HV5.out.c6; have t6 := HV5.out.fr 6))
 all_goals
  clear q6 f6 b0 b1 b2 n0 n6 r6 t5 t6
  have HV6 := hide (HV5.out.set6 (.slice A5 (ch.length + 1) c5))
  go_wp2_with (go_at_call 97; refine (count_any g _ _ HV6.out h01 h02 ha).mono ?_; rintro e w6 ⟨rfl, hv6, hg6⟩; have HV7 := hide hv6; have HG7 := hide hg6; clear hv6 hg6)
  go_end0
  have hg5 : w5.grownBy (w5.setCell ⟨g, 6, none⟩ (.slice A5 (ch.length + 1) c5)) (some g) := gb_set (gb_refl w5 (some g)) 6 _
  have hg56 : w5.grownBy w6 (some g) := gb_trans hg5 HG7.out (.inl rfl)
  have hsz : w.heap.size ≤ w2.heap.size := Nat.le_trans HGA.out.size HG2.out.size
  refine ⟨rfl, _, HV7.out, ?_, ?_, ?_, ?_⟩
  ·exact (HM2.out.grown HG5.out (fun e => hrm e.symm)).grown hg56 (fun e => hmg (by injection e))
  ·rw [List.length_append, chcells_append]
   exact own_other HO5.out hg56 HV5.out (by decide)
  ·rcases HBB5.out with hb | hb
   ·exact .inl hb
   ·refine .inr ⟨_, hb, Nat.le_trans hsz ?_⟩
    show w2.heap.size ≤ (w2.alloc _).heap.size
    simp
  ·exact (((Turned.of_gb (M := fun i => i = g ∨ i = v.mn ∨ v.vch.ownBlock = some i) HGA.out (by simp)).trans (Turned.of_gb (M := fun i => i = v.mn) HG2.out (fun i e => by injection e with e; exact e.symm)) (fun i _ h => .inr (.inl h))).trans (Turned.of_gb (M := fun i => v.vch.ownBlock = some i) HG5.out (fun i e => e)) (fun i _ h => .inr (.inr h))).trans (Turned.of_gb (M := fun i => i = g) hg56 (fun i e => by injection e with e; exact e.symm)) (fun i _ h => .inl h)
end Go.Proofs.YtmcmlkglkpbnpaaGreat
namespace Go.Proofs.YtmcmlkglkpbnpaaGreat
open Go.RowKit
def St.new (cap : Int) : St := ⟨cap, 0, 0, 0, 0, false, fun _ => none, [], [], []⟩
set_option maxHeartbeats 2000000 in
set_option maxRecDepth 100000 in
theorem new_ok (c : Int) (w : World) (h0 : 0 ≤ c) (h1 : c ≤ 67108864) :
  Calls Tryz.prog 5 #[.int .i64 c] w fun e w' => ∃ g L, e = .returned (.tuple #[.pointer (some ⟨g, 0, none⟩), .int .i64 0]) ∧ FsAt w' L g (St.new c) ∧ w.grownBy w' none ∧ ∀ i, L i ≠ 0 → w.heap.size ≤ i := by
 have hmm := @run_makeMap Tryz.prog
 go_enter Tryz.func5, Tryz.ntmps5
 go_wp2
 go_ret2
 have hB : ∀ o1 o2 o3 o4 : Obj, w.grownBy ((((w.alloc o1).alloc o2).alloc o3).alloc o4) none := fun _ _ _ _ => gb_alloc (gb_alloc (gb_alloc (gb_alloc (gb_refl w none) _) _) _) _
 refine ⟨w.heap.size + 1 + 1 + 1, fun i => if w.heap.size ≤ i ∧ i < w.heap.size + 4 then 1 else 0, rfl, ⟨w.heap.size, w.heap.size + 1, w.heap.size + 1 + 1, .slice none 0 0, [], ?_⟩, hB _ _ _ _, fun i hi => ?_⟩
 ·refine ⟨?_, if_pos ⟨by omega, by omega⟩, if_pos ⟨by omega, by omega⟩, if_pos ⟨by omega, by omega⟩, if_pos ⟨by omega, by omega⟩, by omega, by omega, by omega, ?_, ?_, ?_, ⟨⟨rfl, .inl ⟨rfl, rfl⟩⟩, (fun i h => by cases h)⟩, (fun n fb h => by cases h), fun n _ => rfl, fun i hi => ?_⟩
  ·have := heap_alloc_new (((w.alloc (.map #[] 0)).alloc (.map #[] 0)).alloc (.map #[] 0)) (.cells ((St.new c).v w.heap.size (w.heap.size + 1) (w.heap.size + 1 + 1) (.slice none 0 0)).cells 81 (0, 0))
   have e : (((w.alloc (.map #[] 0)).alloc (.map #[] 0)).alloc (.map #[] 0)).heap.size = w.heap.size + 1 + 1 + 1 := by simp
   rw [e] at this
   exact this
  ·exact (((MapAt.made w).alloc _).alloc _).alloc _
  ·have := MapAt.made (E := encN) (w.alloc (.map #[] 0))
   exact ((show MapAt encN ((w.alloc (.map #[] 0)).alloc (.map #[] 0)) (w.heap.size + 1) [] by simpa using this).alloc _).alloc _
  ·have := MapAt.made (E := encN) ((w.alloc (.map #[] 0)).alloc (.map #[] 0))
   exact (show MapAt encN (((w.alloc (.map #[] 0)).alloc (.map #[] 0)).alloc (.map #[] 0)) (w.heap.size + 1 + 1) [] by simpa using this).alloc _
  ·by_cases h : w.heap.size ≤ i ∧ i < w.heap.size + 4
   ·simp; omega
   ·simp [h] at hi
 ·by_cases h : w.heap.size ≤ i ∧ i < w.heap.size + 4
  ·exact h.1
  ·simp [h] at hi
/-! ## Create -/
theorem aget_aput {κ ν : Type} [DecidableEq κ] (l : List (κ × ν)) (k k' : κ) (v : ν) : aget (aput l k v) k' = if k' = k then some v else aget l k' := by
 induction l with
 | nil =>
  by_cases h : k' = k
  ·simp [aput, aget, h]
  ·have : ¬ k = k' := fun e => h e.symm
   simp [aput, aget, h, this]
 | cons x l ih =>
  obtain ⟨a, u⟩ := x
  by_cases hak : a = k
  ·subst hak
   by_cases h : k' = a
   ·subst h; simp [aput, aget]
   ·have : ¬ a = k' := fun e => h e.symm
    simp [aput, aget, h, this]
  ·simp only [aput, if_neg hak, aget, ih]
   by_cases h : a = k'
   ·subst h; simp [hak]
   ·simp [h]
def createErr (S : St) (name : ByteArray) : Int :=
 if S.dead then 21 else if nameOk name = false then 20 else if (aget S.names name).isSome then 8 else if 4096 ≤ S.names.length then 6 else 0
theorem look_ok {w : World} {b : Nat} {l : List (ByteArray × Nat)} (h : MapAt encN w b l) (k : ByteArray) :
  (Instr.lookup 78 (.map (some b)) (.string k) true).run Tryz.prog w = .ok (.tuple #[.int .i64 (((aget l k).getD 0 : Nat) : Int), .bool (aget l k).isSome]) w := by
 have := h.look (P := Tryz.prog) (E := encN) Tryz.underlying9 Tryz.underlying78 (zero_int w) k true
 rw [show (Instr.lookup 78 (.map (some b)) (.string k) true) = (Instr.lookup 78 (.map (some b)) (encN.ek k) true) from rfl, this]
 cases aget l k <;> rfl
set_option maxHeartbeats 4000000 in
set_option maxRecDepth 100000 in
theorem create_bad (L : Nat → Nat) (g : Nat) (S : St) (name : ByteArray) (w : World) (h : FsAt w L g S) (he : createErr S name ≠ 0) (hl : S.names.length ≤ 1000000) :
  Calls Tryz.prog 79 #[.pointer (some ⟨g, 0, none⟩), .string name] w fun e w' => e = .returned (.tuple #[.int .i64 0, .int .i64 (createErr S name)]) ∧ w.grownBy w' none := by
 obtain ⟨mf, mn, ms, vch, lf, h⟩ := h
 obtain ⟨wa, hwaE⟩ : ∃ wa, wa = w.alloc (.cells #[.string name] 9) := ⟨_, rfl⟩
 have hgl : w.grownBy wa none := by rw [hwaE]; exact gb_alloc (gb_refl w none) _
 have hva : FsB wa g (S.v mf mn ms vch) := h.blk.keep (hgl.block g h.blk.lt (by simp))
 have hma := h.names.grown hgl (by simp)
 have hr := ready_any g _ (some ⟨w.heap.size, 0, none⟩) 1 _ [name] wa hva (by rw [hwaE]; exact Rd.new w #[.string name] 9 _ rfl) (by simp)
 have HWE := hide hwaE
 have hlk := look_ok hma name
 have q4 : wa.cell? ⟨g, 4, none⟩ = some (.map (some mn)) := hva.c4
 have HG := hide hgl
 have HMA := hide hma
 cases hd : S.dead
 ·cases hno : nameOk name
  ·have e1 : createErr S name = 20 := by simp [createErr, hd, hno]
   have e2 : readyErr (S.v mf mn ms vch).dead [name] = 20 := by rw [show (S.v mf mn ms vch).dead = S.dead from rfl, hd]; exact readyErr_no (by simp [hno])
   rw [e2] at hr
   have HR := hide hr
   have E1 := hide e1
   clear h hva hma hr hgl hwaE hd hno e1 e2 hlk
   go_enter Tryz.func79, Tryz.ntmps79
   go_wp2_with fail
   rw [← HWE.out]
   refine HR.out.mono ?_
   rintro e w1 ⟨rfl, rfl⟩
   go_wp2
   go_ret2
   exact ⟨by rw [E1.out]; rfl, HG.out⟩
  ·have e2 : readyErr (S.v mf mn ms vch).dead [name] = 0 := by rw [show (S.v mf mn ms vch).dead = S.dead from rfl, hd]; exact readyErr_ok (by simp [hno])
   rw [e2] at hr
   have HR := hide hr
   cases hs : (aget S.names name).isSome
   ·have hlen : 4096 ≤ S.names.length := by
     refine Classical.byContradiction fun hc => he ?_
     simp [createErr, hd, hno, hs]
     omega
    have e1 : createErr S name = 6 := by simp [createErr, hd, hno, hs, hlen]
    rw [hs] at hlk
    have E1 := hide e1
    clear h hva hma hr hgl hwaE hd hno e1 e2 hs he
    go_enter Tryz.func79, Tryz.ntmps79
    go_wp2_with fail
    rw [← HWE.out]
    refine HR.out.mono ?_
    rintro e w1 ⟨rfl, rfl⟩
    go_wp2_with ((at_len; refine wpList_mlen (E := encN) _ rfl _ 78 rfl 9 3 Tryz.underlying78 mn S.names rfl HMA.out ?_))
    go_ret2
    exact ⟨by rw [E1.out]; rfl, HG.out⟩
   ·have e1 : createErr S name = 8 := by simp [createErr, hd, hno, hs]
    rw [hs] at hlk
    have E1 := hide e1
    clear h hva hma hr hgl hwaE hd hno e1 e2 hs he
    go_enter Tryz.func79, Tryz.ntmps79
    go_wp2_with fail
    rw [← HWE.out]
    refine HR.out.mono ?_
    rintro e w1 ⟨rfl, rfl⟩
    go_wp2
    go_ret2
    exact ⟨by rw [E1.out]; rfl, HG.out⟩
 ·have e1 : createErr S name = 21 := by simp [createErr, hd]
  have e2 : readyErr (S.v mf mn ms vch).dead [name] = 21 := by rw [show (S.v mf mn ms vch).dead = S.dead from rfl, hd]; rfl
  rw [e2] at hr
  have HR := hide hr
  have E1 := hide e1
  clear h hva hma hr hgl hwaE hd e1 e2 hlk he
  go_enter Tryz.func79, Tryz.ntmps79
  go_wp2_with fail
  rw [← HWE.out]
  refine HR.out.mono ?_
  rintro e w1 ⟨rfl, rfl⟩
  go_wp2
  go_ret2
  exact ⟨by rw [E1.out]; rfl, HG.out⟩
theorem FsIn.rebuild {w w' : World} {L L' : Nat → Nat} {g : Nat} {S S' : St} {mf mn ms : Nat} {vch : Value} {lf : List (Int × Nat)} {mf' mn' ms' : Nat} {vch' : Value} {lf' : List (Int × Nat)} (P : Nat → Prop)
  (h : FsIn w L g S mf mn ms vch lf) (hT : Turned (fun i => L i = 1 ∨ P i) w w') (hP : ∀ i, i < w.heap.size → P i → 3 ≤ L i)
  (hb : FsB w' g (S'.v mf' mn' ms' vch')) (hL : ∀ i, i < w.heap.size → L' i = L i) (hlt : ∀ i, L' i ≠ 0 → i < w'.heap.size)
  (l1 : L' mf' = 1) (l2 : L' mn' = 1) (l3 : L' ms' = 1) (d1 : mn' ≠ ms') (d2 : mf' ≠ mn') (d3 : mf' ≠ ms')
  (m1 : MapAt encF w' mf' lf') (m2 : MapAt encN w' mn' S'.names) (m3 : MapAt encN w' ms' S'.safe) (hc : ChAt w' (fun i => L' i = 1) vch' S'.changes)
  (ha : ∀ n fb, aget lf' n = some fb → (aget lf n = some fb ∧ S'.files n = S.files n ∧ ∀ i, i < w.heap.size → P i → L i ≠ n.toNat + 3) ∨ (0 < n ∧ ∃ f, S'.files n = some f ∧ FileAt w' (fun i => L' i = n.toNat + 3) (fun i => L' i = 2) fb f))
  (hno : ∀ n, aget lf' n = none → S'.files n = none) :
  ∃ L', FsAt w' L' g S' ∧ Moved L w L' w' := by
 refine ⟨L', ⟨mf', mn', ms', vch', lf', hb, (hL g h.blk.lt).trans h.lg, l1, l2, l3, d1, d2, d3, m1, m2, m3, hc, fun n fb hn => ?_, hno, hlt⟩, ⟨hT.mono fun i hl hi => ?_, hL⟩⟩
 ·rcases ha n fb hn with ⟨h1, h2, h3⟩ | h1
  ·obtain ⟨hn0, f, hf, hfa⟩ := h.at_ n fb h1
   refine ⟨hn0, f, h2.trans hf, (hfa.keep fun i hi hl => hT.block i hl fun hh => ?_).mono (fun i hl hi => ?_) (fun i hl hi => ?_)⟩
   ·rcases hh with hh | hh
    ·rcases hi with hi | hi <;> omega
    ·rcases hi with hi | hi
     ·exact h3 i hl hh hi
     ·have := hP i hl hh
      omega
   ·show L' i = n.toNat + 3
    rw [hL i (h.lt i (by rw [hi]; omega))]
    exact hi
   ·show L' i = 2
    rw [hL i (h.lt i (by rw [hi]; omega))]
    exact hi
  ·exact h1
 ·rcases hi with hi | hi
  ·exact .inl hi
  ·exact .inr (hP i hl hi)
theorem FsV.count_last (v : FsV) : v.count.last = v.last := by unfold FsV.count; split <;> rfl
def St.created (S : St) (name : ByteArray) : St :=
 (({ S with last := S.last + 1, names := aput S.names name (S.last + 1).toNat, changes := S.changes ++ [⟨⟨#[]⟩, name, (S.last + 1).toNat⟩] } : St).setFile (S.last + 1) ⟨false, [], [], []⟩).count
theorem FsIn.created {w w1 w2 w3 : World} {L : Nat → Nat} {g : Nat} {S : St} {mf mn ms : Nat} {vch vch3 : Value} {lf : List (Int × Nat)} {name : ByteArray} (h : FsIn w L g S mf mn ms vch lf) (hl : 0 ≤ S.last)
  (hgw : w.grownBy w1 (some g)) (hg12 : w1.grownBy w2 (some mf)) (hf2 : FlB w2 w1.heap.size ⟨false, .slice none 0 0, .slice none 0 0, false, .slice none 0 0⟩) (hm2 : MapAt encF w2 mf (aput lf (S.last + 1) w1.heap.size))
  (hv3 : FsB w3 g ({ (({ S with last := S.last + 1 } : St).v mf mn ms vch) with vch := vch3 } : FsV).count) (hn3 : MapAt encN w3 mn (aput S.names name (S.last + 1).toNat))
  (hc3 : w3.ownsRow 0 89 3 vch3 (S.changes ++ [(⟨⟨#[]⟩, name, (S.last + 1).toNat⟩ : Ch)]).length (chcells (S.changes ++ [(⟨⟨#[]⟩, name, (S.last + 1).toNat⟩ : Ch)])))
  (hb3 : vch3.ownBlock = vch.ownBlock ∨ ∃ i, vch3.ownBlock = some i ∧ w2.heap.size ≤ i) (ht3 : Turned (fun i => i = g ∨ i = mn ∨ vch.ownBlock = some i) w2 w3) :
  ∃ L', FsAt w3 L' g (S.created name) ∧ Moved L w L' w3 := by
 have s1 := hgw.size
 have s2 := hf2.lt
 have s3 := ht3.size
 have hgl := h.blk.lt
 have hfl := h.files.lt
 have hfg : mf ≠ g := map_ne h.files h.blk
 have hvl : ∀ i, vch.ownBlock = some i → i < w.heap.size ∧ L i = 1 := fun i hi => ⟨own_lt h.chs.1 i hi, h.chs.2 i hi⟩
 have hcf : vch.ownBlock ≠ some mf := own_ne_map h.chs.1 h.files
 have st2 : ∀ i, i < w.heap.size → i ≠ g → i ≠ mf → w2.heap[i]? = w.heap[i]? := fun i hi h1 h2 =>
  (hg12.block i (by omega) (fun e => h2 (by injection e))).trans (hgw.block i hi (fun e => h1 (by injection e)))
 have hT : Turned (fun i => L i = 1 ∨ False) w w3 := by
  have a : Turned (fun i => L i = 1 ∨ False) w w2 := ⟨hg12.os.trans hgw.os, hg12.tape.trans hgw.tape, hg12.output.trans hgw.output, by omega, fun i hi hm => st2 i hi (fun e => hm (.inl (e ▸ h.lg))) (fun e => hm (.inl (e ▸ h.lmf)))⟩
  refine a.trans ht3 fun i hi hm => .inl ?_
  rcases hm with rfl | rfl | hm
  ·exact h.lg
  ·exact h.lmn
  ·exact (hvl i hm).2
 have ec : (({ (({ S with last := S.last + 1 } : St).v mf mn ms vch) with vch := vch3 } : FsV).count) = (S.created name).v mf mn ms vch3 := by
  unfold St.created
  rw [← St.count_v]
  rfl
 refine h.rebuild (fun _ => False) (L' := fun i => if i < w.heap.size then L i else if i = w1.heap.size then (S.last + 1).toNat + 3 else if i < w3.heap.size then 1 else 0) (mf' := mf) (mn' := mn) (ms' := ms) (vch' := vch3) (lf' := aput lf (S.last + 1) w1.heap.size)
  hT (fun _ _ h => h.elim) (by rw [← ec]; exact hv3) (fun i hi => if_pos hi) (fun i hi => ?_) ?_ ?_ ?_ h.ns h.fn h.fs ?_ ?_ ?_ ⟨?_, fun i hi => ?_⟩ (fun n fb hn => ?_) (fun n hn => ?_)
 ·by_cases h1 : i < w.heap.size
  ·omega
  ·by_cases h2 : i = w1.heap.size
   ·omega
   ·by_cases h3 : i < w3.heap.size
    ·exact h3
    ·simp [h1, h2, h3] at hi
 ·show (if mf < w.heap.size then L mf else _) = 1
  rw [if_pos hfl]; exact h.lmf
 ·show (if mn < w.heap.size then L mn else _) = 1
  rw [if_pos h.names.lt]; exact h.lmn
 ·show (if ms < w.heap.size then L ms else _) = 1
  rw [if_pos h.safe.lt]; exact h.lms
 ·refine hm2.keep (ht3.block mf (by omega) fun hh => ?_)
  rcases hh with hh | hh | hh
  ·exact hfg hh
  ·exact h.fn hh
  ·exact hcf hh
 ·rw [show (S.created name).names = aput S.names name (S.last + 1).toNat by unfold St.created; rw [St.count_names]; rfl]
  exact hn3
 ·rw [show (S.created name).safe = S.safe by unfold St.created; rw [St.count_safe]; rfl]
  refine h.safe.keep ((ht3.block ms (by have := h.safe.lt; omega) fun hh => ?_).trans (st2 ms h.safe.lt (map_ne h.safe h.blk) (fun e => h.fs e.symm)))
  rcases hh with hh | hh | hh
  ·exact map_ne h.safe h.blk hh
  ·exact h.ns hh.symm
  ·exact own_ne_map h.chs.1 h.safe hh
 ·rw [show (S.created name).changes = S.changes ++ [⟨⟨#[]⟩, name, (S.last + 1).toNat⟩] by unfold St.created; rw [St.count_changes]; rfl]
  exact hc3
 ·show (if i < w.heap.size then L i else if i = w1.heap.size then (S.last + 1).toNat + 3 else if i < w3.heap.size then 1 else 0) = 1
  rcases hb3 with hb3 | ⟨j, hj, hj2⟩
  ·rw [hb3] at hi
   rw [if_pos (hvl i hi).1]
   exact (hvl i hi).2
  ·rw [hj] at hi
   injection hi with hi
   subst hi
   have := own_lt hc3 j hj
   rw [if_neg (by omega), if_neg (by omega), if_pos this]
 ·rw [aget_aput] at hn
  have ef : (S.created name).files = fun m => if m = S.last + 1 then some ⟨false, [], [], []⟩ else S.files m := by unfold St.created; rw [St.count_files]; rfl
  by_cases hnl : n = S.last + 1
  ·rw [if_pos hnl] at hn
   injection hn with hn
   subst hn
   refine .inr ⟨by omega, ⟨false, [], [], []⟩, by rw [ef]; exact if_pos hnl, ⟨_, hf2.keep (ht3.block _ s2 fun hh => ?_), ?_, rfl, BsAt.none_, BsAt.none_, ?_, WsAt.none_⟩⟩
   ·have hml := h.names.lt
    rcases hh with hh | hh | hh
    ·omega
    ·omega
    ·have := (hvl _ hh).1
     omega
   ·show (if w1.heap.size < w.heap.size then _ else if w1.heap.size = w1.heap.size then (S.last + 1).toNat + 3 else _) = n.toNat + 3
    rw [if_neg (by omega), if_pos rfl, hnl]
   ·exact fun _ hh => by cases hh
  ·rw [if_neg hnl] at hn
   exact .inl ⟨hn, by rw [ef]; exact if_neg hnl, fun _ _ h => h.elim⟩
 ·rw [aget_aput] at hn
  by_cases hnl : n = S.last + 1
  ·rw [if_pos hnl] at hn; cases hn
  ·rw [if_neg hnl] at hn
   have ef : (S.created name).files = fun m => if m = S.last + 1 then some ⟨false, [], [], []⟩ else S.files m := by unfold St.created; rw [St.count_files]; rfl
   rw [ef]
   show (if n = S.last + 1 then _ else S.files n) = none
   rw [if_neg hnl]
   exact h.no n hn
set_option maxHeartbeats 4000000 in
set_option maxRecDepth 100000 in
theorem create_ok (L : Nat → Nat) (g : Nat) (S : St) (name : ByteArray) (w : World) (h : FsAt w L g S) (he : createErr S name = 0) (hF : Fine S) :
  Calls Tryz.prog 79 #[.pointer (some ⟨g, 0, none⟩), .string name] w (FsPost L g (S.created name) (.tuple #[.int .i64 (S.last + 1), .int .i64 0]) w) := by
 obtain ⟨mf, mn, ms, vch, lf, h⟩ := h
 obtain ⟨ho1, ho2⟩ := hF.ops
 obtain ⟨hl1, hl2⟩ := hF.last
 have hd : S.dead = false := by
  cases hd : S.dead
  ·rfl
  ·simp [createErr, hd] at he
 have hno : nameOk name = true := by
  cases hno : nameOk name
  ·simp [createErr, hd, hno] at he
  ·rfl
 have hs : aget S.names name = none := by
  cases hs : aget S.names name with
  | none => rfl
  | some n => simp [createErr, hd, hno, hs] at he
 have hlen : S.names.length < 4096 := by
  refine Classical.byContradiction fun hc => ?_
  simp [createErr, hd, hno, hs] at he
  omega
 have hnz : name.size ≠ 0 := by
  intro e
  rw [nameOk_short (by omega)] at hno
  cases hno
 have hcast : (((S.last + 1).toNat : Nat) : Int) = S.last + 1 := by omega
 obtain ⟨wa, hwaE⟩ : ∃ wa, wa = w.alloc (.cells #[.string name] 9) := ⟨_, rfl⟩
 have hga : w.grownBy wa none := by rw [hwaE]; exact gb_alloc (gb_refl w none) _
 have hva : FsB wa g (S.v mf mn ms vch) := h.blk.keep (hga.block g h.blk.lt (by simp))
 have hr := ready_any g _ (some ⟨w.heap.size, 0, none⟩) 1 _ [name] wa hva (by rw [hwaE]; exact Rd.new w #[.string name] 9 _ rfl) (by simp)
 rw [show readyErr (S.v mf mn ms vch).dead [name] = 0 by rw [show (S.v mf mn ms vch).dead = S.dead from rfl, hd]; exact readyErr_ok (by simp [hno])] at hr
 have hma := h.names.grown hga (by simp)
 have hlk := look_ok hma name
 rw [hs] at hlk
 have HR := hide hr
 have HWE := hide hwaE
 have HVA := hide hva
 have HMA := hide hma
 have HGA := hide hga
 have H := hide h
 have HS := hide hs
 have HNZ := hide hnz
 have HCAST := hide hcast
 have HCL := hF.chs
 have HARM := hF.armed
 have q2 : wa.cell? ⟨g, 2, none⟩ = some (.int .i64 S.last) := hva.c2
 have f2 := hva.fr 2
 have q3 : wa.cell? ⟨g, 3, none⟩ = some (.map (some mf)) := hva.c3
 have q4 : wa.cell? ⟨g, 4, none⟩ = some (.map (some mn)) := hva.c4
 clear h hva hma hr hga hd hno hs he hF hwaE hnz hcast
 go_enter Tryz.func79, Tryz.ntmps79
 go_wp2_with fail
 rw [← HWE.out]
 refine HR.out.mono ?_
 rintro e w1 ⟨rfl, rfl⟩
 go_wp2_with ((at_len; refine wpList_mlen (E := encN) _ rfl _ 78 rfl 9 3 Tryz.underlying78 mn S.names rfl HMA.out ?_))
 have HV1 : Hid (FsB (wa.setCell ⟨g, 2, none⟩ (.int .i64 (S.last + 1))) g (({ S with last := S.last + 1 } : St).v mf mn ms vch)) := hide (HVA.out.set2 _)
 have HG1 : Hid (wa.grownBy (wa.setCell ⟨g, 2, none⟩ (.int .i64 (S.last + 1))) (some g)) := hide (gb_set (gb_refl wa (some g)) 2 _)
 clear q2 f2 q3 q4 hlk
 generalize wa.setCell ⟨g, 2, none⟩ (.int .i64 (S.last + 1)) = w1 at *
 have hgw1 : w.grownBy w1 (some g) := gb_trans (gb_some HGA.out (some g)) HG1.out (.inl rfl)
 have hfg : mf ≠ g := map_ne H.out.files H.out.blk
 have hng : mn ≠ g := map_ne H.out.names H.out.blk
 have hcg : vch.ownBlock ≠ some g := own_ne H.out.chs.1 H.out.blk (by decide)
 have HM1 := hide (H.out.files.grown hgw1 (fun e => hfg (by injection e)))
 have HN1 := hide (H.out.names.grown hgw1 (fun e => hng (by injection e)))
 have HC1 := hide (own_keep H.out.chs.1 fun i hi hl => hgw1.block i hl (fun e => hcg (by injection e with e; rw [hi, e])))
 have HGW1 := hide hgw1
 clear hgw1
 have q2 : w1.cell? ⟨g, 2, none⟩ = some (.int .i64 (S.last + 1)) := HV1.out.c2
 have q3 : w1.cell? ⟨g, 3, none⟩ = some (.map (some mf)) := HV1.out.c3
 have HVb : Hid (FsB (w1.alloc (.cells #[.bool false, .slice none 0 0, .slice none 0 0, .bool false, .slice none 0 0] 100)) g (({ S with last := S.last + 1 } : St).v mf mn ms vch)) := hide (HV1.out.keep (heap_alloc_old w1 _ HV1.out.lt))
 have r2 : (w1.alloc (.cells #[.bool false, .slice none 0 0, .slice none 0 0, .bool false, .slice none 0 0] 100)).cell? ⟨g, 2, none⟩ = some (.int .i64 (S.last + 1)) := HVb.out.c2
 have r3 : (w1.alloc (.cells #[.bool false, .slice none 0 0, .slice none 0 0, .bool false, .slice none 0 0] 100)).cell? ⟨g, 3, none⟩ = some (.map (some mf)) := HVb.out.c3
 have HMb := hide (HM1.out.alloc (.cells #[.bool false, .slice none 0 0, .slice none 0 0, .bool false, .slice none 0 0] 100))
 have n2 := World.new_ne w1 _ q2
 obtain ⟨w2, hrun, hm2, hg2, _⟩ := MapAt.update (P := Tryz.prog) (E := encF) (w := (w1.alloc (.cells #[.bool false, .slice none 0 0, .slice none 0 0, .bool false, .slice none 0 0] 100)).drew) HMb.out Tryz.underlying3 Tryz.underlying77 (S.last + 1) w1.heap.size
 have hrun' : (Instr.mapUpdate 77 (.map (some mf)) (.int .i64 (S.last + 1)) (.pointer (some ⟨w1.heap.size, 0, none⟩))).run Tryz.prog (w1.alloc (.cells #[.bool false, .slice none 0 0, .slice none 0 0, .bool false, .slice none 0 0] 100)).drew = .ok () w2 := hrun
 have HM2 := hide hm2
 have HG2 : Hid ((w1.alloc (.cells #[.bool false, .slice none 0 0, .slice none 0 0, .bool false, .slice none 0 0] 100)).grownBy w2 (some mf)) := hide ⟨hg2.os, hg2.tape, hg2.output, hg2.size, hg2.block⟩
 clear hm2 hg2 hrun
 go_region_law (fail)
 all_goals
  clear q2 q3 r2 r3 n2 hrun'
  have hg12 : w1.grownBy w2 (some mf) := gb_trans (gb_alloc (gb_refl w1 (some mf)) (.cells #[.bool false, .slice none 0 0, .slice none 0 0, .bool false, .slice none 0 0] 100)) HG2.out (.inl rfl)
  have HV2 := hide (HV1.out.keep (hg12.block g HV1.out.lt (fun e => hfg (by injection e with e; exact e.symm))))
  have hN2 := HN1.out.grown hg12 (fun e => H.out.fn (by injection e with e; exact e.symm))
  have hC2 := own_keep HC1.out (w' := w2) fun i hi hl => hg12.block i hl (fun e => own_ne_map HC1.out HM1.out (by injection e with e; rw [hi, e]))
  have q2 : w2.cell? ⟨g, 2, none⟩ = some (.int .i64 (S.last + 1)) := HV2.out.c2
  have hfl : followL S.names ⟨⟨#[]⟩, name, (S.last + 1).toNat⟩ = (aput S.names name (S.last + 1).toNat, 0) := by
   have h1 : ¬ ((⟨#[]⟩ : ByteArray) = name) := fun e => HNZ.out (by rw [← e]; rfl)
   unfold followL
   rw [if_neg h1, if_pos (show (⟨#[]⟩ : ByteArray).size = 0 from rfl), HS.out]
   rfl
  have hdo := fsdo_keep g _ S.names S.changes ⟨⟨#[]⟩, name, (S.last + 1).toNat⟩ w2 HV2.out hN2 hC2 (by rw [hfl]) ⟨ho1, ho2⟩ HARM HCL
  have hdo' : Calls Tryz.prog 105 #[.pointer (some ⟨g, 0, none⟩), .agg #[.string ⟨#[]⟩, .string name, .int .i64 (S.last + 1)]] w2 (DoFs g (({ S with last := S.last + 1 } : St).v mf mn ms vch) S.names S.changes ⟨⟨#[]⟩, name, (S.last + 1).toNat⟩ w2) := by
   have := hdo
   simp only [HCAST.out] at this
   exact this
  have HDO := hide hdo'
  have HFL := hide hfl
  have HG12 := hide hg12
  clear hdo hdo' hN2 hC2 hfl hg12
  go_wp2_with (go_at_call 105; refine HDO.out.mono ?_; rintro e w3 ⟨rfl, vch3, hv3, hn3, hc3, hb3, ht3⟩; have HV3 := hide hv3; have HN3 := hide hn3; have HC3 := hide hc3; have HB3 := hide hb3; have HT3 := hide ht3; have s2 := (show w3.cell? ⟨g, 2, none⟩ = some (.int .i64 (S.last + 1)) by have := hv3.c2; rw [FsV.count_last] at this; exact this); clear hv3 hn3 hc3 hb3 ht3)
  go_ret2
  have hfl3 := HFL.out
  have hf2 : FlB w2 w1.heap.size ⟨false, .slice none 0 0, .slice none 0 0, false, .slice none 0 0⟩ :=
   FlB.keep (v := ⟨false, .slice none 0 0, .slice none 0 0, false, .slice none 0 0⟩) (heap_alloc_new w1 _) (HG2.out.block _ (by simp) (fun e => by injection e with e; have := HM1.out.lt; omega))
  exact ⟨rfl, H.out.created hl1 HGW1.out HG12.out hf2 HM2.out HV3.out (by have := HN3.out; rw [hfl3] at this; exact this) HC3.out HB3.out HT3.out⟩
end Go.Proofs.YtmcmlkglkpbnpaaGreat
namespace Go.Proofs.YtmcmlkglkpbnpaaGreat
open Go.RowKit
theorem run_mclone {P : Program} {w : World} {r : Nat} {es : Array MapEntry} {clock : Nat} (t : TypeId) (hb : w.heap[r]? = some (.map es clock)) :
  (Extern.MapsClone.clone #[.iface t (.map (some r))]).run P w = .ok (.iface t (.map (some w.heap.size))) (w.alloc (.map es clock)) := by
 have e : Extern.MapsClone.clone #[.iface t (.map (some r))] = (getObj r >>= fun o => match o with
   | .map entries clock => (newObj (.map entries clock) >>= fun n => pure (.iface t (.map (some n))))
   | _ => stuck "maps.clone: a map expected") := rfl
 rw [e]
 simp [MapKept.run_getObj_map hb, Result.andThen, go_sem]
theorem run_eqlIn_map {P : Program} (w : World) (d : Nat) (t k e : TypeId) (p : Option Nat) (h : P.underlying t = some (.map k e)) :
  (Op.equalIn (d + 1) t (.map p) (.map none)).run P w = .ok p.isNone w := by
 cases p <;> simp [Op.equalIn, run_underlying h]
theorem run_eql_map {P : Program} (w : World) (t k e : TypeId) (p : Option Nat) (h : P.underlying t = some (.map k e)) :
  (binOp .eql t (.map p) (.map none)).run P w = .ok (.bool p.isNone) w := by
 simp only [binOp]
 simp [show Op.equal t (.map p) (.map none) = Op.equalIn (9999 + 1) t (.map p) (.map none) from rfl, run_eqlIn_map w 9999 t k e p h]
theorem run_tassert_map {P : Program} (w : World) (t xT k e : TypeId) (v : Value) (h : P.underlying t = some (.map k e)) : (Instr.typeAssert (.iface t v) xT t false).run P w = .ok v w := by
 simp [Instr.typeAssert, run_underlying h, go_sem, Result.andThen]
set_option maxHeartbeats 2000000 in
set_option maxRecDepth 100000 in
theorem mclone_any (b : Nat) (l : List (ByteArray × Nat)) (w : World) (h : MapAt encN w b l) :
  Calls Tryz.prog 68 #[.map (some b)] w fun e w' => e = .returned (.map (some w.heap.size)) ∧ MapAt encN w' w.heap.size l ∧ w.grownBy w' none ∧ w'.heap.size = w.heap.size + 1 := by
 obtain ⟨es, clock, hb, hs, hl⟩ := h
 have hq := fun w => run_eql_map (P := Tryz.prog) w 78 _ _ (some b) Tryz.underlying78
 have hx := run_mclone (P := Tryz.prog) 78 hb
 have ht := fun w v => run_tassert_map (P := Tryz.prog) w 78 20 _ _ v Tryz.underlying78
 have HB := hide hb
 have HS := hide hs
 have HL := hide hl
 clear hb hs hl
 go_enter Tryz.func68, Tryz.ntmps68
 go_wp2
 rw [run_callFunc_extern Tryz.func103 (by kernel_rfl) (by kernel_rfl) (by kernel_rfl) (e := Extern.MapsClone.clone) (by kernel_rfl), hx]
 simp only [Result.andThen]
 rw [Oper.upon_value]
 go_wp2
 go_ret
 exact ⟨rfl, ⟨es, clock, heap_alloc_new w _, HS.out, HL.out⟩, gb_alloc (gb_refl w none) _, by simp⟩
theorem run_mkmap {P : Program} (w : World) (t k e : TypeId) (n : Int) (h : P.underlying t = some (.map k e)) :
  (Instr.makeMap t (some (.int .i64 n))).run P w = .ok (.map (some w.heap.size)) (w.alloc (.map #[] 0)) := by
 simp [Instr.makeMap, run_underlying h, asInt, asIntOf, Result.andThen]
def SettlePost (g : Nat) (v : FsV) (b : Nat) (l : List (ByteArray × Nat)) (lf : List (Int × Nat)) (w : World) (e : Ending) (w' : World) : Prop :=
 e = .returned (.tuple #[]) ∧ ∃ ms mf lk, FsB w' g { v with mn := b, ms := ms, mf := mf, vch := .slice none 0 0 } ∧ MapAt encN w' b l ∧ MapAt encN w' ms l ∧ MapAt encF w' mf lk ∧
  (∀ n, aget lk n = if ∃ x ∈ l, (x.2 : Int) = n then aget lf n else none) ∧ w.heap.size ≤ ms ∧ w.heap.size ≤ mf ∧ ms ≠ mf ∧ w.grownBy w' (some g)
theorem perm_take {α : Type} : ∀ (t : List α) (j : Nat) (x : α), t[j]? = some x → (x :: t.eraseIdx j).Perm t
 | [], _, _, h => by simp at h
 | a :: t, 0, x, h => by simp at h; subst h; simp
 | a :: t, j + 1, x, h => by
  simp at h
  rw [List.eraseIdx_cons_succ]
  exact (List.Perm.swap a x _).trans ((perm_take t j x h).cons a)
theorem perm_done {α : Type} {d t l : List α} {j : Nat} {x : α} (h : (d ++ t).Perm l) (hj : t[j]? = some x) : ((d ++ [x]) ++ t.eraseIdx j).Perm l := by
 rw [List.append_assoc]
 exact ((perm_take t j x hj).append_left d).trans h
set_option maxHeartbeats 4000000 in
set_option maxRecDepth 100000 in
theorem fs_settle (g : Nat) (v : FsV) (b : Nat) (l : List (ByteArray × Nat)) (lf : List (Int × Nat)) (w : World) (h : FsB w g v) (hb : MapAt encN w b l) (hf : MapAt encF w v.mf lf) (hin : ∀ x ∈ l, ∃ fb, aget lf (x.2 : Int) = some fb) :
  Calls Tryz.prog 33 #[.pointer (some ⟨g, 0, none⟩), .map (some b)] w (SettlePost g v b l lf w) := by
 have hbg : b ≠ g := map_ne hb h
 have hfg : v.mf ≠ g := map_ne hf h
 have hgl := h.lt
 have hbl := hb.lt
 have hfl := hf.lt
 have H1 := hide (h.set4 b)
 have HG1 := hide (gb_set (gb_refl w (some g)) 4 (.map (some b)))
 have HB1 := hide (hb.setCell (p := ⟨g, 4, none⟩) (fun e => hbg e.symm) (.map (some b)))
 have HF1 := hide (hf.setCell (p := ⟨g, 4, none⟩) (fun e => hfg e.symm) (.map (some b)))
 have HS1 : Hid ((w.setCell ⟨g, 4, none⟩ (.map (some b))).heap.size = w.heap.size) := hide (by simp [World.setCell])
 have HC := hide (mclone_any b l _ HB1.out)
 have f4 := h.fr 4
 have q4 := h.c4
 clear h hb hf
 go_enter Tryz.func33, Tryz.ntmps33
 go_wp2_with fail
 refine HC.out.mono ?_
 rintro e w2 ⟨rfl, hm2, hg2, hs2⟩
 generalize w.setCell ⟨g, 4, none⟩ (.map (some b)) = w1 at *
 have HV2 := hide (H1.out.keep (hg2.block g H1.out.lt (by simp)))
 have HB2 := hide (HB1.out.grown hg2 (by simp))
 have HF2 := hide (HF1.out.grown hg2 (by simp))
 have HM2 := hide hm2
 have HG2 : Hid (w.grownBy w2 (some g)) := hide (gb_trans HG1.out hg2 (.inr (.inl rfl)))
 clear hm2 hg2 f4 q4 HC H1 HB1 HF1 HG1
 rw [HS1.out] at hs2 HM2 ⊢
 have hmg : w.heap.size ≠ g := by omega
 have HV3 := hide ((HV2.out.set5 w.heap.size).set6 (.slice none 0 0))
 have HB3 := hide ((HB2.out.setCell (p := ⟨g, 5, none⟩) (fun e => hbg e.symm) (.map (some w.heap.size))).setCell (p := ⟨g, 6, none⟩) (fun e => hbg e.symm) (.slice none 0 0))
 have HF3 := hide ((HF2.out.setCell (p := ⟨g, 5, none⟩) (fun e => hfg e.symm) (.map (some w.heap.size))).setCell (p := ⟨g, 6, none⟩) (fun e => hfg e.symm) (.slice none 0 0))
 have HM3 := hide ((HM2.out.setCell (p := ⟨g, 5, none⟩) (fun e => hmg e.symm) (.map (some w.heap.size))).setCell (p := ⟨g, 6, none⟩) (fun e => hmg e.symm) (.slice none 0 0))
 have HG3 := hide (gb_set (gb_set HG2.out 5 (.map (some w.heap.size))) 6 (.slice none 0 0))
 have hs3 : ((w2.setCell ⟨g, 5, none⟩ (.map (some w.heap.size))).setCell ⟨g, 6, none⟩ (.slice none 0 0)).heap.size = w.heap.size + 1 := by simp [World.setCell, hs2]
 have q5 := HV2.out.c5
 have f5 := HV2.out.fr 5
 have q6 := HV2.out.c6
 have f6 := HV2.out.fr 6
 clear HV2 HB2 HF2 HM2 HG2
 have hmk := fun (w : World) (n : Int) => run_mkmap (P := Tryz.prog) w 77 3 96 n Tryz.underlying77
 have HB4 := hide (HB3.out.alloc (.map #[] 0))
 have HF4 := hide (HF3.out.alloc (.map #[] 0))
 have HM4 := hide (HM3.out.alloc (.map #[] 0))
 have HV4 := hide (HV3.out.keep (heap_alloc_old _ (.map #[] 0) HV3.out.lt))
 have HG4 := hide (gb_alloc HG3.out (.map #[] 0))
 have HK4 := hide (MapAt.made (E := encF) ((w2.setCell ⟨g, 5, none⟩ (.map (some w.heap.size))).setCell ⟨g, 6, none⟩ (.slice none 0 0)))
 go_wp2_with (first
  | (at_len; refine wpList_mlen (E := encN) _ rfl _ 78 rfl 9 3 Tryz.underlying78 b l rfl HB3.out ?_)
  | (at_range; refine wpList_rng (E := encN) _ rfl _ 78 rfl 9 3 Tryz.underlying78 b l rfl HB4.out ?_; intro w5 hit hg5 hs5; clear q5 f5 q6 f6))
 generalize (w2.setCell ⟨g, 5, none⟩ (.map (some w.heap.size))).setCell ⟨g, 6, none⟩ (.slice none 0 0) = w3 at *
 have e1 : (w3.alloc (.map #[] 0)).heap.size = w3.heap.size + 1 := by simp
 rw [e1] at hit hs5 ⊢
 clear HB3 HF3 HM3 HV3 HG3 hmk
 have HF5 := hide (HF4.out.grown hg5 (by simp))
 have HM5 := hide (HM4.out.grown hg5 (by simp))
 have HK5 := hide (HK4.out.grown hg5 (by simp))
 have HV5 := hide (HV4.out.keep (hg5.block g HV4.out.lt (by simp)))
 have HG5 : Hid (w.grownBy w5 (some g)) := hide (gb_trans HG4.out hg5 (.inr (.inl rfl)))
 have HIT := hide hit
 clear HB4 HF4 HM4 HV4 HG4 HK4 hg5 hit
 rw [hs3] at HIT hs5 HK5 e1 ⊢
 have hmf : v.mf < w.heap.size + 1 + 1 + 1 := by have := HF5.out.lt; omega
 go_frame
 go_loopw [6] (fun _ wr => ∃ (todo done : List (ByteArray × Nat)) (lk : List (Int × Nat)), IterAt encN wr b (w.heap.size + 1 + 1) l todo ∧ (done ++ todo).Perm l ∧ MapAt encF wr (w.heap.size + 1) lk ∧ (∀ n, aget lk n = if ∃ x ∈ done, (x.2 : Int) = n then aget lf n else none) ∧
   FsB wr g { v with mn := b, ms := w.heap.size, vch := .slice none 0 0 } ∧ MapAt encF wr v.mf lf ∧ MapAt encN wr w.heap.size l ∧ w.grownBy wr (some g))
  (fun _ wr => wr.rangeLeft b (w.heap.size + 1 + 1))
 case atStart => exact ⟨l, [], [], HIT.out, by simp, HK5.out, (fun n => by simp [aget]), HV5.out, HF5.out, HM5.out, HG5.out⟩
 case round =>
  obtain ⟨todo, done, lk, hit, hperm, hk, hlk, hv, hf, hm, hg⟩ := hrel
  have q3 : wr.cell? ⟨g, 3, none⟩ = some (.map (some v.mf)) := hv.c3
  have f3 := hv.fr 3
  have HP := hide hperm
  have HLK := hide hlk
  have HI := hide hit
  have HK := hide hk
  have HV := hide hv
  have HF := hide hf
  have HM := hide hm
  have HG := hide hg
  clear hperm hlk hit hk hv hf hm hg
  go_wp2_with (first
   | (at_next; refine wpList_nxt (E := encN) _ rfl (.tmp 23) rfl b (w.heap.size + 1 + 1) l todo rfl HI.out ?_ ?_))
  ·intro h0
   go_wp2
   go_end0
   subst h0
   have hp := HP.out
   rw [List.append_nil] at hp
   refine ⟨rfl, w.heap.size, w.heap.size + 1, lk, HV.out.set3 _, HI.out.map.setCell (p := ⟨g, 3, none⟩) (fun e => hbg e.symm) _, HM.out.setCell (p := ⟨g, 3, none⟩) (fun e => hmg e.symm) _, HK.out.setCell (p := ⟨g, 3, none⟩) (by show g ≠ w.heap.size + 1; omega) _, fun n => ?_, Nat.le_refl _, by omega, by omega, gb_set HG.out 3 _⟩
   rw [HLK.out n]
   by_cases hx : ∃ x ∈ l, (x.2 : Int) = n
   ·obtain ⟨x, hx1, hx2⟩ := hx
    rw [if_pos ⟨x, hp.mem_iff.2 hx1, hx2⟩, if_pos ⟨x, hx1, hx2⟩]
   ·rw [if_neg hx, if_neg (fun ⟨x, h1, h2⟩ => hx ⟨x, hp.mem_iff.1 h1, h2⟩)]
  ·intro j xa xm w6 hx hit6 hg6 hs6 hen
   obtain ⟨x, hxe⟩ : ∃ x : ByteArray × Nat, x = (xa, xm) := ⟨_, rfl⟩
   rw [← hxe] at hx
   obtain rfl : xa = x.1 := by rw [hxe]
   obtain rfl : xm = x.2 := by rw [hxe]
   clear hxe
   have hxl : x ∈ l := HP.out.mem_iff.1 (List.mem_append_right _ (List.mem_of_getElem? hx))
   obtain ⟨fb, hfb⟩ := hin x hxl
   have hne : ∀ i, i < w.heap.size → (some i : Option Nat) ≠ some (w.heap.size + 1 + 1) := fun i hi e => by injection e with e; omega
   have hf6 := HF.out.grown hg6 (hne _ hfl)
   have hk6 := HK.out.grown hg6 (fun e => by injection e with e; omega)
   have hlook : (Instr.lookup 77 (.map (some v.mf)) (.int .i64 (x.2 : Int)) false).run Tryz.prog w6 = .ok (.pointer (some ⟨fb, 0, none⟩)) w6 := hf6.look_yes (P := Tryz.prog) (E := encF) Tryz.underlying3 Tryz.underlying77 (zero_file w6) hfb
   have hen' : (Instr.entry (.pointer (some ⟨w.heap.size + 1 + 1, 0, none⟩))).run Tryz.prog w6 = .ok (.tuple #[.string x.1, .int .i64 (x.2 : Int)]) w6 := hen
   have hv6 := HV.out.keep (hg6.block g HV.out.lt (hne _ hgl).symm.symm)
   have r3 : w6.cell? ⟨g, 3, none⟩ = some (.map (some v.mf)) := hv6.c3
   have HK6 := hide hk6
   have HF6 := hide hf6
   have HV6 := hide hv6
   have HI6 := hide hit6
   have HG6 := hide hg6
   have HM6 := hide (HM.out.grown hg6 (fun e => by injection e with e; omega))
   have HX := hide hx
   have HFB := hide hfb
   clear hk6 hf6 hv6 hit6 hg6 hen q3 f3 hx hfb
   go_wp2_with (at_mapUpdate; refine wpList_put (E := encF) _ rfl (.tmp 28) (.tmp 29) (.tmp 35) 77 rfl 3 96 Tryz.underlying3 Tryz.underlying77 (w.heap.size + 1) lk rfl HK6.out (x.2 : Int) fb rfl rfl ?_; intro w7 hk7 hg7 hs7; go_frame)
   have hne7 : ∀ i, i < w.heap.size → (some i : Option Nat) ≠ some (w.heap.size + 1) := fun i hi e => by injection e with e; omega
   have hit7 := HI6.out.grown hg7 (hne7 _ hbl) (fun e => by injection e with e; omega)
   go_roundw
   case rel =>
    refine ⟨_, done ++ [x], _, hit7, perm_done HP.out HX.out, hk7, fun n => ?_, HV6.out.keep (hg7.block g HV6.out.lt (hne7 _ hgl)), HF6.out.grown hg7 (hne7 _ hfl), HM6.out.grown hg7 (fun e => by injection e with e; omega), gb_trans (gb_trans HG.out HG6.out (.inr (.inr ⟨_, rfl, by omega⟩))) hg7 (.inr (.inr ⟨_, rfl, by omega⟩))⟩
    rw [aget_aput, HLK.out n]
    by_cases hn : n = (x.2 : Int)
    ·rw [if_pos hn, if_pos ⟨x, by simp, hn.symm⟩, hn, HFB.out]
    ·rw [if_neg hn]
     by_cases hd : ∃ y ∈ done, (y.2 : Int) = n
     ·obtain ⟨y, h1, h2⟩ := hd
      rw [if_pos ⟨y, h1, h2⟩, if_pos ⟨y, List.mem_append_left _ h1, h2⟩]
     ·rw [if_neg hd, if_neg]
      rintro ⟨y, h1, h2⟩
      rcases List.mem_append.1 h1 with h1 | h1
      ·exact hd ⟨y, h1, h2⟩
      ·simp only [List.mem_singleton] at h1
       subst h1
       exact hn h2.symm
   case measure =>
    rw [hit7.left, HI.out.left, List.length_eraseIdx]
    have := (List.getElem?_eq_some_iff.1 HX.out).1
    split <;> omega
end Go.Proofs.YtmcmlkglkpbnpaaGreat
namespace Go.Proofs.YtmcmlkglkpbnpaaGreat
open Go.RowKit
def St.settled (S : St) (l : List (ByteArray × Nat)) : St := { S with names := l, safe := l, changes := [], files := fun n => if ∃ x ∈ l, (x.2 : Int) = n then S.files n else none }
theorem settle_in (L : Nat → Nat) (g : Nat) (S : St) (mf mn ms : Nat) (vch : Value) (lf : List (Int × Nat)) (b : Nat) (l : List (ByteArray × Nat)) (w : World) (h : FsIn w L g S mf mn ms vch lf) (hb : MapAt encN w b l) (hLb : L b = 1) (hN : ∀ x ∈ l, (S.files (x.2 : Int)).isSome) :
  Calls Tryz.prog 33 #[.pointer (some ⟨g, 0, none⟩), .map (some b)] w (FsPost L g (S.settled l) (.tuple #[]) w) := by
 refine (fs_settle g _ b l lf w h.blk hb h.files fun x hx => ?_).mono ?_
 ·cases hx' : aget lf (x.2 : Int) with
  | some fb => exact ⟨fb, rfl⟩
  | none =>
   have := hN x hx
   rw [h.no _ hx'] at this
   cases this
 ·rintro e w' ⟨rfl, ms', mf', lk, hv, hb', hms, hmf, hlk, hs1, hs2, hne, hg⟩
  refine ⟨rfl, ?_⟩
  have hbl := hb.lt
  have hsz := hg.size
  have l1 := hms.lt
  have l2 := hmf.lt
  refine h.rebuild (fun _ => False) (L' := fun i => if i < w.heap.size then L i else if i < w'.heap.size then 1 else 0) (mf' := mf') (mn' := b) (ms' := ms') (vch' := .slice none 0 0) (lf' := lk)
   ((Turned.of_gb (M := fun i => i = g) hg (fun i e => by injection e with e; exact e.symm)).mono fun i _ hi => .inl (hi ▸ h.lg)) (fun _ _ h => h.elim) hv (fun i hi => if_pos hi) (fun i hi => ?_) ?_ ?_ ?_ (by omega) (by omega) hne.symm hmf hb' hms ⟨⟨rfl, .inl ⟨rfl, rfl⟩⟩, fun i hi => by cases hi⟩ (fun n fb hn => ?_) (fun n hn => ?_)
  ·by_cases h1 : i < w.heap.size
   ·omega
   ·by_cases h3 : i < w'.heap.size
    ·exact h3
    ·simp [h1, h3] at hi
  ·show (if mf' < w.heap.size then L mf' else if mf' < w'.heap.size then 1 else 0) = 1
   rw [if_neg (by omega), if_pos l2]
  ·show (if b < w.heap.size then L b else _) = 1
   rw [if_pos hbl]; exact hLb
  ·show (if ms' < w.heap.size then L ms' else if ms' < w'.heap.size then 1 else 0) = 1
   rw [if_neg (by omega), if_pos l1]
  ·rw [hlk n] at hn
   by_cases hx : ∃ x ∈ l, (x.2 : Int) = n
   ·rw [if_pos hx] at hn
    exact .inl ⟨hn, if_pos hx, fun _ _ h => h.elim⟩
   ·rw [if_neg hx] at hn
    cases hn
  ·show (if ∃ x ∈ l, (x.2 : Int) = n then S.files n else none) = none
   rw [hlk n] at hn
   by_cases hx : ∃ x ∈ l, (x.2 : Int) = n
   ·rw [if_pos hx] at hn ⊢
    exact h.no n hn
   ·exact if_neg hx
theorem count_in (L : Nat → Nat) (g : Nat) (S : St) (w : World) (h : FsAt w L g S) (ho : 0 ≤ S.ops ∧ S.ops ≤ 2000000000) (ha : S.armed ≤ 9223372036854775807) :
  Calls Tryz.prog 97 #[.pointer (some ⟨g, 0, none⟩)] w (FsPost L g S.count (.tuple #[]) w) := by
 obtain ⟨mf, mn, ms, vch, lf, h⟩ := h
 refine (count_any g _ w h.blk ho.1 ho.2 ha).mono ?_
 rintro e w' ⟨rfl, hv, hg⟩
 refine ⟨rfl, ?_⟩
 have hsz := hg.size
 rw [St.count_v] at hv
 have hne : ∀ i, i ≠ g → (some i : Option Nat) ≠ some g := fun i hi e => hi (by injection e)
 refine h.rebuild (fun _ => False) (L' := L) (mf' := mf) (mn' := mn) (ms' := ms) (vch' := vch) (lf' := lf)
   ((Turned.of_gb (M := fun i => i = g) hg (fun i e => by injection e with e; exact e.symm)).mono fun i _ hi => .inl (hi ▸ h.lg)) (fun _ _ h => h.elim) hv (fun _ _ => rfl) (fun i hi => Nat.lt_of_lt_of_le (h.lt i hi) hsz) h.lmf h.lmn h.lms h.ns h.fn h.fs
   (h.files.grown hg (hne _ (map_ne h.files h.blk))) (by rw [St.count_names]; exact h.names.grown hg (hne _ (map_ne h.names h.blk))) (by rw [St.count_safe]; exact h.safe.grown hg (hne _ (map_ne h.safe h.blk))) ?_ (fun n fb hn => .inl ⟨hn, by rw [St.count_files], fun _ _ h => h.elim⟩) (fun n hn => by rw [St.count_files]; exact h.no n hn)
 rw [St.count_changes]
 exact ⟨own_keep h.chs.1 fun i hi hl => hg.block i hl (fun e => own_ne h.chs.1 h.blk (by decide) (by injection e with e; rw [hi, e])), h.chs.2⟩
set_option maxHeartbeats 1000000 in
set_option maxRecDepth 100000 in
theorem syncdir_ok (L : Nat → Nat) (g : Nat) (S : St) (w : World) (h : FsAt w L g S) (hF : Fine S) (hd : S.dead = false) (hN : ∀ x ∈ S.names, (S.files (x.2 : Int)).isSome) :
  Calls Tryz.prog 80 #[.pointer (some ⟨g, 0, none⟩)] w (FsPost L g (S.settled S.names).count (.int .i64 0) w) := by
 obtain ⟨mf, mn, ms, vch, lf, h⟩ := h
 have hr := ready_any g _ none 0 0 [] w h.blk Rd.nil_ (by simp)
 rw [show (S.v mf mn ms vch).dead = S.dead from rfl, hd, readyErr_ok rfl] at hr
 have HR := hide hr
 have HST := hide (settle_in L g S mf mn ms vch lf mn S.names w h h.names h.lmn hN)
 have q4 : w.cell? ⟨g, 4, none⟩ = some (.map (some mn)) := h.blk.c4
 have HO := hide hF.ops
 have HA := hF.armed
 clear h hr hF hd hN
 go_enter Tryz.func80, Tryz.ntmps80
 go_wp2_with (first
  | (go_at_call 73; refine HR.out.mono ?_; rintro e w1 ⟨rfl, rfl⟩)
  | (go_at_call 33; refine HST.out.mono ?_; rintro e w2 ⟨rfl, L2, h2, m2⟩; have H2 := hide h2; have M2 := hide m2; clear h2 m2 q4)
  | (go_at_call 97; refine (count_in L2 g _ _ H2.out HO.out HA).mono ?_; rintro e w3 ⟨rfl, L3, h3, m3⟩; have H3 := hide h3; have M3 := hide m3; clear h3 m3))
 go_ret
 exact ⟨rfl, L3, H3.out, M2.out.trans M3.out⟩
end Go.Proofs.YtmcmlkglkpbnpaaGreat
