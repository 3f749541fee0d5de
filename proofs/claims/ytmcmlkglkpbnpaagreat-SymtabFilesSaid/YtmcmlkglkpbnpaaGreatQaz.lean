/-
  What the methods answer of a nil file system.
-/
import Derived.Test.YtmcmlkglkpbnpaaGreatQay
namespace Go.Proofs.YtmcmlkglkpbnpaaGreat
open Go.RowKit
theorem WsAt.elem {w : World} {own rd : Nat → Prop} {A : Option Addr} {n c : Nat} {ws : List Wr} (h : WsAt w own rd (.slice A n c) ws) {i : Nat} (hi : i < ws.length) :
  ∃ b vp, A = some ⟨b, 0, none⟩ ∧ w.cell? ⟨b, i * 3, none⟩ = some (.bool ws[i].cut) ∧ w.cell? ⟨b, i * 3 + 1, none⟩ = some (.int .i64 (ws[i].pos : Int)) ∧ w.cell? ⟨b, i * 3 + 2, none⟩ = some vp ∧ BsAt w rd vp ws[i].p := by
 obtain ⟨l, rfl, h2, h3, h4⟩ := h
 rw [List.length_map] at hi
 rcases h2.2 with ⟨e, h0⟩ | ⟨b, cap, cur, hv, h5, h6, h7⟩
 ·omega
 ·injection hv with hA _ _
  obtain ⟨w1, w2, w3⟩ := wcells_at l i hi
  obtain ⟨_, _, h8, h9⟩ := h7
  have hc : ∀ j, j < l.length * 3 → w.cell? ⟨b, j, none⟩ = (wcells l)[j]? := fun j hj => by
   rw [blk_cell h6, ← h9, List.getElem?_take, if_pos hj, Array.getElem?_toList]
  refine ⟨b, l[i].2, hA, ?_, ?_, ?_, ?_⟩
  ·rw [hc _ (by omega), w1]; simp
  ·rw [hc _ (by omega), w2]; simp
  ·rw [hc _ (by omega), w3]
  ·have := h4 _ (List.getElem_mem hi)
   simpa using this
def tearK (f : Fl) (n : Int) : Nat := (clampI n f.waits.length).toNat
theorem tearK_le (f : Fl) (n : Int) : tearK f n ≤ f.waits.length := by unfold tearK clampI; omega
def tearF (f : Fl) (n b : Int) : List UInt8 :=
 let xs := (f.waits.take (tearK f n)).foldl doW f.safe
 match f.waits[tearK f n]? with
 | some x => if x.cut then xs else doW xs ⟨false, x.pos, x.p.take (clampI b x.p.length).toNat⟩
 | none => xs
theorem run_cut_to {P : Program} (w : World) {t e : TypeId} {i : TypeInfo} (A : Option Addr) (n c k : Nat) (ht : P.underlying t = some (.slice e)) (hi : P.info? e = some i) (hk : k ≤ n) (hn : n ≤ c) :
  (Instr.slice t (.slice A n c) none (some (.int .i64 (k : Int))) none).run P w = .ok (.slice A k c) w := by
 have h2 : k ≤ c := by omega
 simp [Instr.slice, Instr.sliceBounds, run_underlying ht, Instr.sliceBound, asIntOf, h2, sizeOf, typeInfo, hi, Result.andThen]
 intro _
 cases A with
 | none => rfl
 | some x => simp only [Option.map_some]; congr 1
theorem within_still (n m : Int) (k : Nat) (h : clampI n m = (k : Int)) (w : World) : Calls Tryz.prog 31 #[.int .i64 n, .int .i64 m] w fun e w' => e = .returned (.int .i64 (k : Int)) ∧ w' = w :=
 (within_any n m w).mono fun _ _ ⟨h1, h2⟩ => ⟨by rw [h1, h], h2.symm⟩
def TearAt (g : Nat) (vs vw : Value) (own rd : Nat → Prop) (ws : List Wr) (X : Array Value) (w : World) (xs : List UInt8) (wr : World) : Prop :=
 ∃ vb sh, FlB wr g ⟨false, vb, vs, sh, vw⟩ ∧ BsAt wr (ext own w wr) vb xs ∧ WsAt wr (ext own w wr) rd vw ws ∧ wr.heap[w.heap.size]? = some (.cells X 94 (0, 0)) ∧ Turned (fun i => i = g ∨ own i) w wr
theorem TearAt.alloc {g : Nat} {vs vw : Value} {own rd : Nat → Prop} {ws : List Wr} {X : Array Value} {w : World} {xs : List UInt8} {wr : World} (h : TearAt g vs vw own rd ws X w xs wr) (O : Obj) : TearAt g vs vw own rd ws X w xs (wr.alloc O) := by
 obtain ⟨vb, sh, h1, h2, h3, h4, h5⟩ := h
 have hs := h5.size
 refine ⟨vb, sh, h1.alloc O, (h2.alloc O).mono fun i hi => ?_, (h3.keep fun i hi hl => heap_alloc_old wr O hl).mono (fun i _ hi => ?_) (fun _ _ h => h), (heap_alloc_old wr O (blk_lt h4)).trans h4, h5.alloc O⟩
 ·rcases hi with hi | ⟨h6, h7⟩
  ·exact .inl hi
  ·exact .inr ⟨h6, by simp; omega⟩
 ·rcases hi with hi | ⟨h6, h7⟩
  ·exact .inl hi
  ·exact .inr ⟨h6, by simp; omega⟩
theorem TearAt.drewN {g : Nat} {vs vw : Value} {own rd : Nat → Prop} {ws : List Wr} {X : Array Value} {w : World} {xs : List UInt8} {wr : World} (h : TearAt g vs vw own rd ws X w xs wr) (k : Nat) : TearAt g vs vw own rd ws X w xs (wr.drewN k) := by
 obtain ⟨vb, sh, h1, h2, h3, h4, h5⟩ := h
 exact ⟨vb, sh, h1, h2, h3, h4, h5.drewN k⟩
theorem TearAt.do_ {g : Nat} {vs vw : Value} {own rd : Nat → Prop} {ws : List Wr} {X : Array Value} {w : World} {xs : List UInt8} {wr : World} (h : TearAt g vs vw own rd ws X w xs wr) {x : Wr} {vp : Value} (hp : PAt wr rd vp x.p) (hk : x.pos ≤ xs.length) (hlen : xs.length + x.p.length ≤ 1000000000)
  (hdis : ∀ i, rd i → ¬ own i ∧ i < w.heap.size) (hof : own g) (hg : g < w.heap.size) :
  Calls Tryz.prog 69 #[.pointer (some ⟨g, 0, none⟩), .agg #[.bool x.cut, .int .i64 (x.pos : Int), vp]] wr fun e w' => e = .returned (.tuple #[]) ∧ TearAt g vs vw own rd ws X w (doW xs x) w' := by
 obtain ⟨vb, sh, h1, h2, h3, h4, h5⟩ := h
 have hs := h5.size
 have hne : ∀ i, rd i → ¬ ext own w wr i := fun i hi he => by
  rcases he with he | he
  ·exact (hdis i hi).1 he
  ·have := (hdis i hi).2
   omega
 refine (do_any g _ (ext own w wr) rd xs x vp wr h1 h2 hp hk (fun i hi => ⟨hne i hi, Nat.lt_of_lt_of_le (hdis i hi).2 hs⟩) hlen).mono ?_
 rintro e w' ⟨rfl, vb', sh', hf, hb, hT, _⟩
 have hs' := hT.size
 have up : ∀ i, ext own w wr i → ext own w w' i := fun i hi => by
  rcases hi with hi | ⟨h6, h7⟩
  ·exact .inl hi
  ·exact .inr ⟨h6, by omega⟩
 refine ⟨rfl, vb', sh', hf, hb.mono fun i hi => ?_, (h3.do_stay hT h1 (.inl hof) hne).mono (fun i _ hi => up i hi) (fun _ _ h => h), do_stay hT h4 (by omega) (by decide), h5.trans hT fun i hi hm => ?_⟩
 ·rcases hi with hi | ⟨h6, h7⟩
  ·exact up i hi
  ·exact .inr ⟨by omega, h7⟩
 ·rcases hm with hm | ⟨hm, _⟩
  ·exact .inl hm
  ·rcases hm with hm | hm
   ·exact .inr hm
   ·omega
theorem TearAt.settle {g : Nat} {vs vw : Value} {own rd : Nat → Prop} {ws : List Wr} {X : Array Value} {w : World} {xs : List UInt8} {wr : World} (h : TearAt g vs vw own rd ws X w xs wr) (hof : own g) :
  Calls Tryz.prog 70 #[.pointer (some ⟨g, 0, none⟩)] wr fun e w' => e = .returned (.tuple #[]) ∧ FileAt w' (ext own w w') rd g ⟨false, xs, xs, []⟩ ∧ Turned (fun i => i = g ∨ own i) w w' := by
 obtain ⟨vb, sh, h1, h2, h3, h4, h5⟩ := h
 refine (fsettle_any g _ (ext own w wr) xs wr h1 (.inl hof) h2).mono ?_
 rintro e w' ⟨rfl, hf, hg⟩
 refine ⟨rfl, (hf rd).mono (fun i _ hi => ?_) (fun _ _ h => h), h5.trans (Turned.of_gb (M := fun i => i = g) hg (fun i e => by injection e with e; exact e.symm)) fun i _ hi => .inl hi⟩
 rcases hi with hi | ⟨h6, h7⟩
 ·exact .inl hi
 ·exact .inr ⟨h6, Nat.lt_of_lt_of_le h7 hg.size⟩
set_option maxHeartbeats 4000000 in
set_option maxRecDepth 100000 in
theorem tear_any (g : Nat) (f : Fl) (own rd : Nat → Prop) (tf n b : Int) (w : World) (h : FileAt w own rd g f)
  (hdis : ∀ i, rd i → ¬ own i ∧ i < w.heap.size) (hwl : f.waits.length ≤ 1000000)
  (hok : ∀ k (hk : k < f.waits.length), f.waits[k].pos ≤ ((f.waits.take k).foldl doW f.safe).length ∧ ((f.waits.take k).foldl doW f.safe).length + f.waits[k].p.length ≤ 1000000000) :
  Calls Tryz.prog 34 #[.pointer (some ⟨g, 0, none⟩), .agg #[.int .i64 tf, .int .i64 n, .int .i64 b]] w fun e w' =>
   e = .returned (.tuple #[]) ∧ FileAt w' (ext own w w') rd g ⟨false, tearF f n b, tearF f n b, []⟩ ∧ Turned (fun i => i = g ∨ own i) w w' := by
 obtain ⟨v, hfl, hof, hgo, hbb, hbs, hsep, hws⟩ := h
 obtain ⟨A, c, hvw, hnc, hcm⟩ := hws.form
 have hlt := hfl.lt
 have hgx : g ≠ w.heap.size := by omega
 have hgx' : w.heap.size ≠ g := by omega
 have q0 := hfl.c0
 have f0 := hfl.fr 0
 have q1 := hfl.c1
 have f1 := hfl.fr 1
 have q2 := hfl.c2
 have q4 := hfl.c4
 rw [hvw] at q4
 obtain ⟨As, cs, hvs, _⟩ := hbs.form
 rw [hvs] at q2
 obtain ⟨Ab, cb, hvb, _⟩ := hbb.form
 rw [hvb] at q1
 have HKE : Hid (clampI n f.waits.length = (tearK f n : Int)) := hide (by unfold tearK clampI; omega)
 have hkl := tearK_le f n
 have HFL := hide hfl
 go_enter Tryz.func34, Tryz.ntmps34
 go_wp2_with (go_at_call 31; refine (within_any _ _ _).mono ?_; rintro e w1 ⟨rfl, rfl⟩; rw [HKE.out])
 have hfa : FlB (w.alloc (.cells #[.int .i64 tf, .int .i64 n, .int .i64 b] 94)) g v := hfl.alloc _
 have hT0 : TearAt g v.vs v.vw own rd f.waits #[.int .i64 tf, .int .i64 n, .int .i64 b] w f.safe (((w.setCell ⟨g, 0, none⟩ (.bool false)).setCell ⟨g, 1, none⟩ (.slice As f.safe.length cs)).alloc (.cells #[.int .i64 tf, .int .i64 n, .int .i64 b] 94)) := by
  have hg : w.grownBy ((w.setCell ⟨g, 0, none⟩ (.bool false)).setCell ⟨g, 1, none⟩ (.slice As f.safe.length cs)) (some g) := gb_setCell (gb_setCell (gb_refl w (some g)) (p := ⟨g, 0, none⟩) (.inl rfl) (.bool false)) (p := ⟨g, 1, none⟩) (.inl rfl) _
  have hz : ((w.setCell ⟨g, 0, none⟩ (.bool false)).setCell ⟨g, 1, none⟩ (.slice As f.safe.length cs)).heap.size = w.heap.size := by simp [World.setCell]
  have hx := heap_alloc_new ((w.setCell ⟨g, 0, none⟩ (.bool false)).setCell ⟨g, 1, none⟩ (.slice As f.safe.length cs)) (.cells #[.int .i64 tf, .int .i64 n, .int .i64 b] 94)
  rw [hz] at hx
  refine ⟨.slice As f.safe.length cs, v.shared, (((hfl.set0 false).set1 _).alloc _), ?_, ?_, hx, (Turned.of_gb (M := fun i => i = g ∨ own i) hg (fun i e => by injection e with e; exact .inl e.symm)).alloc _⟩
  ·have hb0 := hbs
   rw [hvs] at hb0
   exact ((hb0.other hg hfl (by decide)).alloc _).mono fun i hi => Or.inl hi
  ·refine ((hws.do_stay (Turned.of_gb (M := fun i => i = g ∨ (own i ∧ Is8 w i)) hg (fun i e => by injection e with e; exact .inl e.symm)) hfl hof (fun i hi => (hdis i hi).1)).keep fun i hi hl => heap_alloc_old _ _ hl).mono (fun i _ hi => .inl hi) (fun _ _ h => h)
 generalize ((w.setCell ⟨g, 0, none⟩ (.bool false)).setCell ⟨g, 1, none⟩ (.slice As f.safe.length cs)).alloc (.cells #[.int .i64 tf, .int .i64 n, .int .i64 b] 94) = w1 at *
 have HT0 := hide hT0
 have HDIS := hide hdis
 have HOK := hide hok
 clear hT0 hdis hok hws hbs hbb hsep hfa q0 f0 q1 f1 q2 q4 hfl
 rw [hvw] at HT0
 go_loopw [32] (fun i wr => ∃ j : Nat, i = .int .i64 (j : Int) ∧ j ≤ tearK f n ∧ TearAt g v.vs (.slice A f.waits.length c) own rd f.waits #[.int .i64 tf, .int .i64 n, .int .i64 b] w ((f.waits.take j).foldl doW f.safe) wr) (fun i _ => tearK f n - (intOf i).toNat)
 case atStart => exact ⟨0, rfl, Nat.zero_le _, HT0.out⟩
 case round =>
  obtain ⟨j, rfl, hj, hT⟩ := hrel
  have HT := hide hT
  clear hT
  by_cases hlt2 : j < tearK f n
  ·have hjl : j < f.waits.length := by omega
   obtain ⟨vb, sh, h1, h2, h3, h4, h5⟩ := HT.out
   obtain ⟨bw, vp, rfl, c0, c1, c2, hp⟩ := h3.elem hjl
   obtain ⟨Ap, cp, rfl, _⟩ := hp.form
   have HP := hide hp
   clear h1 h2 h3 h4 h5 hp
   obtain ⟨k1, k2⟩ := HOK.out j hjl
   have HD := hide (TearAt.do_ (HT.out.alloc (.cells #[.bool f.waits[j].cut, .int .i64 (f.waits[j].pos : Int), .slice Ap f.waits[j].p.length cp] 147)) (HP.out.alloc _).put k1 k2 HDIS.out hof hlt)
   clear k1 k2
   go_wp2_with (go_at_call 69; refine HD.out.mono ?_; rintro e w2 ⟨rfl, hT2⟩; have HT2 := hide hT2; clear hT2)
   go_roundw
   case rel =>
    refine ⟨j + 1, by go_num, by omega, ?_⟩
    have h := HT2.out
    rw [List.take_succ_eq_append_getElem hjl, List.foldl_append]
    exact h
   case measure => simp [intOf]; omega
  ·obtain rfl : j = tearK f n := by omega
   by_cases hkn : tearK f n < f.waits.length
   ·obtain ⟨vb, sh, h1, h2, h3, h4, h5⟩ := HT.out
    obtain ⟨bw, vp, rfl, c0, c1, c2, hp⟩ := h3.elem hkn
    obtain ⟨Ap, cp, rfl, hpc, _⟩ := hp.form
    have HP := hide hp
    have HE : Hid (f.waits[tearK f n]? = some f.waits[tearK f n]) := hide (List.getElem?_eq_getElem hkn)
    have b2 : wr.cell? ⟨w.heap.size, 2, none⟩ = some (.int .i64 b) := by rw [blk_cell h4]; rfl
    clear h1 h2 h3 h4 h5 hp
    cases hcut : f.waits[tearK f n].cut
    ·rw [hcut] at c0
     go_wp2_with fail
     obtain ⟨m, hm⟩ : ∃ m : Nat, m = (clampI b f.waits[tearK f n].p.length).toNat := ⟨_, rfl⟩
     have HMC : Hid (clampI b f.waits[tearK f n].p.length = (m : Int)) := hide (by rw [hm]; unfold clampI; omega)
     have hml : m ≤ f.waits[tearK f n].p.length := by rw [hm]; unfold clampI; omega
     have HM := hide hm
     clear hm
     have hX := heap_alloc_new wr (.cells #[.bool false, .int .i64 (f.waits[tearK f n].pos : Int), .slice Ap f.waits[tearK f n].p.length cp] 147)
     have HT2 := hide (HT.out.alloc (.cells #[.bool false, .int .i64 (f.waits[tearK f n].pos : Int), .slice Ap f.waits[tearK f n].p.length cp] 147))
     have HP2 := hide (HP.out.alloc (.cells #[.bool false, .int .i64 (f.waits[tearK f n].pos : Int), .slice Ap f.waits[tearK f n].p.length cp] 147))
     clear b2 c0 c1 c2
     generalize wr.alloc (.cells #[.bool false, .int .i64 (f.waits[tearK f n].pos : Int), .slice Ap f.waits[tearK f n].p.length cp] 147) = w2 at *
     have d1 : w2.cell? ⟨wr.heap.size, 1, none⟩ = some (.int .i64 (f.waits[tearK f n].pos : Int)) := by rw [blk_cell hX]; rfl
     have d2 : w2.cell? ⟨wr.heap.size, 2, none⟩ = some (.slice Ap f.waits[tearK f n].p.length cp) := by rw [blk_cell hX]; rfl
     have d3 : w2.cell? ⟨w.heap.size, 2, none⟩ = some (.int .i64 b) := by
      obtain ⟨_, _, _, _, _, h4, _⟩ := HT2.out
      rw [blk_cell h4]; rfl
     obtain ⟨i8, hi8, _⟩ := info_parts Tryz.info8
     have hsl := fun w => run_cut_to (P := Tryz.prog) w Ap f.waits[tearK f n].p.length cp m Tryz.underlying49 hi8 hml hpc
     clear hX hi8
     go_still_tail 13, (by kernel_rfl)
     still_call (within_still _ _ m HMC.out _)
     repeat still_step
     refine wpStill_nil ?_
     have hpp : PAt w2 rd (.slice Ap m cp) (f.waits[tearK f n].p.take m) := HP2.out.short hml
     obtain ⟨k1, k2⟩ := HOK.out _ hkn
     have HD := hide (TearAt.do_ (x := ⟨false, f.waits[tearK f n].pos, f.waits[tearK f n].p.take m⟩) (HT2.out.drewN 1) (vp := .slice Ap m cp) hpp k1 (by simp; omega) HDIS.out hof hlt)
     clear k1 k2 hpp hsl d1 d2 d3
     go_wp2_with (first
      | (go_at_call 69; refine HD.out.mono ?_; rintro e w3 ⟨rfl, hT3⟩; have HT3 := hide hT3; clear hT3)
      | (go_at_call 70; refine (TearAt.settle HT3.out hof).mono ?_; rintro e w4 ⟨rfl, hT4⟩; have HT4 := hide hT4; clear hT4))
     go_end0
     refine ⟨rfl, ?_⟩
     have e : tearF f n b = doW ((f.waits.take (tearK f n)).foldl doW f.safe) ⟨false, f.waits[tearK f n].pos, f.waits[tearK f n].p.take m⟩ := by
      unfold tearF
      rw [HE.out, HM.out]
      simp [hcut]
     rw [e]
     exact HT4.out
    ·rw [hcut] at c0
     go_wp2_with (go_at_call 70; refine (TearAt.settle HT.out hof).mono ?_; rintro e w2 ⟨rfl, hT2⟩; have HT2 := hide hT2; clear hT2)
     go_end0
     refine ⟨rfl, ?_⟩
     have e : tearF f n b = (f.waits.take (tearK f n)).foldl doW f.safe := by unfold tearF; rw [HE.out]; simp [hcut]
     rw [e]
     exact HT2.out
   ·have hke : tearK f n = f.waits.length := by omega
    go_wp2_with (go_at_call 70; refine (TearAt.settle HT.out hof).mono ?_; rintro e w2 ⟨rfl, hT2⟩; have HT2 := hide hT2; clear hT2)
    go_end0
    refine ⟨rfl, ?_⟩
    have e : tearF f n b = (f.waits.take (tearK f n)).foldl doW f.safe := by unfold tearF; rw [List.getElem?_eq_none (by omega)]
    rw [e]
    exact HT2.out
end Go.Proofs.YtmcmlkglkpbnpaaGreat
namespace Go.Proofs.YtmcmlkglkpbnpaaGreat
open Go.RowKit
theorem chcells_at (l : List Ch) (i : Nat) (h : i < l.length) : (chcells l)[i * 3]? = some (.string l[i].src) ∧ (chcells l)[i * 3 + 1]? = some (.string l[i].dst) ∧ (chcells l)[i * 3 + 2]? = some (.int .i64 (l[i].file : Int)) := by
 induction l generalizing i with
 | nil => simp at h
 | cons x l ih =>
  have e : chcells (x :: l) = [.string x.src, .string x.dst, .int .i64 (x.file : Int)] ++ chcells l := rfl
  cases i with
  | zero => rw [e]; exact ⟨rfl, rfl, rfl⟩
  | succ i =>
   have := ih i (by simpa using h)
   rw [e]
   rw [show (i + 1) * 3 = (i * 3) + 3 by omega, show i * 3 + 3 + 1 = i * 3 + 1 + 3 by omega, show i * 3 + 3 + 2 = i * 3 + 2 + 3 by omega]
   rw [List.getElem?_append_right (by simp), List.getElem?_append_right (by simp), List.getElem?_append_right (by simp)]
   simpa using this
theorem ch_elem {w : World} {A : Option Addr} {c : Nat} {l : List Ch} (h : w.ownsRow 0 89 3 (.slice A l.length c) l.length (chcells l)) {i : Nat} (hi : i < l.length) :
  ∃ b, A = some ⟨b, 0, none⟩ ∧ w.cell? ⟨b, i * 3, none⟩ = some (.string l[i].src) ∧ w.cell? ⟨b, i * 3 + 1, none⟩ = some (.string l[i].dst) ∧ w.cell? ⟨b, i * 3 + 2, none⟩ = some (.int .i64 (l[i].file : Int)) := by
 rcases h.2 with ⟨e, h0⟩ | ⟨b, cap, cur, hv, h5, h6, _, _, h8, h9⟩
 ·omega
 ·injection hv with hA _ _
  obtain ⟨w1, w2, w3⟩ := chcells_at l i hi
  have hc : ∀ j, j < l.length * 3 → w.cell? ⟨b, j, none⟩ = (chcells l)[j]? := fun j hj => by
   rw [blk_cell h6, ← h9, List.getElem?_take, if_pos hj, Array.getElem?_toList]
  exact ⟨b, hA, by rw [hc _ (by omega), w1], by rw [hc _ (by omega), w2], by rw [hc _ (by omega), w3]⟩
theorem FsIn.safe_turn {w w' : World} {L : Nat → Nat} {g : Nat} {S : St} {mf mn ms : Nat} {vch : Value} {lf : List (Int × Nat)} (h : FsIn w L g S mf mn ms vch lf) {l : List (ByteArray × Nat)} (hm : MapAt encN w' ms l) (hT : Turned (fun i => i = ms) w w') :
  FsIn w' L g { S with safe := l } mf mn ms vch lf := by
 have st : ∀ i, L i ≠ 0 → i ≠ ms → w'.heap[i]? = w.heap[i]? := fun i hi hne => hT.block i (h.lt i hi) hne
 have gm : ms ≠ g := map_ne h.safe h.blk
 refine ⟨h.blk.keep (st g (by rw [h.lg]; decide) gm.symm), h.lg, h.lmf, h.lmn, h.lms, h.ns, h.fn, h.fs, h.files.keep (st mf (by rw [h.lmf]; decide) h.fs), h.names.keep (st mn (by rw [h.lmn]; decide) h.ns), hm, ⟨own_keep h.chs.1 fun i hi _ => st i (by have : L i = 1 := h.chs.2 i hi; rw [this]; decide) (fun e => own_ne_map h.chs.1 h.safe (by rw [hi, e])), h.chs.2⟩, fun n fb hn => ?_, h.no, fun i hi => Nat.lt_of_lt_of_le (h.lt i hi) hT.size⟩
 obtain ⟨h0, f, h1, h2⟩ := h.at_ n fb hn
 refine ⟨h0, f, h1, h2.keep fun i hi _ => st i (by rcases hi with hi | hi <;> rw [hi] <;> omega) (fun e => ?_)⟩
 rw [e, h.lms] at hi
 omega
abbrev Tn := Int × Int × Int
def tcells (l : List Tn) : List Value := l.flatMap fun t => [.int .i64 t.1, .int .i64 t.2.1, .int .i64 t.2.2]
def tval (t : Tn) : Value := .agg #[.int .i64 t.1, .int .i64 t.2.1, .int .i64 t.2.2]
def encT : Enc Int Tn := encI tval
def tornM (m : List (Int × Tn)) (t : Tn) : List (Int × Tn) := if (aget m t.1).isSome then m else aput m t.1 t
def tornFl (m : List (Int × Tn)) (n : Int) (f : Fl) : Fl := ⟨false, tearF f ((aget m n).getD (0, 0, 0)).2.1 ((aget m n).getD (0, 0, 0)).2.2, tearF f ((aget m n).getD (0, 0, 0)).2.1 ((aget m n).getD (0, 0, 0)).2.2, []⟩
def followed (l : List (ByteArray × Nat)) (ch : List Ch) : List (ByteArray × Nat) := ch.foldl (fun l c => (followL l c).1) l
def crashK (S : St) (dir : Int) : Nat := (clampI dir S.changes.length).toNat
theorem crashK_le (S : St) (dir : Int) : crashK S dir ≤ S.changes.length := by unfold crashK clampI; omega
theorem tcells_length (l : List Tn) : (tcells l).length = l.length * 3 := by
 induction l with
 | nil => rfl
 | cons x l ih => simp [tcells] at ih ⊢; omega
theorem tcells_at (l : List Tn) (i : Nat) (h : i < l.length) : (tcells l)[i * 3]? = some (.int .i64 l[i].1) ∧ (tcells l)[i * 3 + 1]? = some (.int .i64 l[i].2.1) ∧ (tcells l)[i * 3 + 2]? = some (.int .i64 l[i].2.2) := by
 induction l generalizing i with
 | nil => simp at h
 | cons x l ih =>
  have e : tcells (x :: l) = [.int .i64 x.1, .int .i64 x.2.1, .int .i64 x.2.2] ++ tcells l := rfl
  cases i with
  | zero => rw [e]; exact ⟨rfl, rfl, rfl⟩
  | succ i =>
   have := ih i (by simpa using h)
   rw [e]
   rw [show (i + 1) * 3 = (i * 3) + 3 by omega, show i * 3 + 3 + 1 = i * 3 + 1 + 3 by omega, show i * 3 + 3 + 2 = i * 3 + 2 + 3 by omega]
   rw [List.getElem?_append_right (by simp), List.getElem?_append_right (by simp), List.getElem?_append_right (by simp)]
   simpa using this
theorem cell_same {w w' : World} {p : Addr} (h : w'.heap[p.block]? = w.heap[p.block]?) : w'.cell? p = w.cell? p := by
 unfold World.cell?
 rw [h]
def TnAt (w : World) (L : Nat → Nat) (A : Option Addr) (l : List Tn) : Prop := ∀ i (hi : i < l.length), ∃ b o, A = some ⟨b, o, none⟩ ∧ L b = 0 ∧ b < w.heap.size ∧
 w.cell? ⟨b, o + i * 3, none⟩ = some (.int .i64 l[i].1) ∧ w.cell? ⟨b, o + i * 3 + 1, none⟩ = some (.int .i64 l[i].2.1) ∧ w.cell? ⟨b, o + i * 3 + 2, none⟩ = some (.int .i64 l[i].2.2)
theorem TnAt.keep {w w' : World} {L L' : Nat → Nat} {A : Option Addr} {l : List Tn} (h : TnAt w L A l) {M : Nat → Prop} (hT : Turned M w w') (hM : ∀ i, i < w.heap.size → L i = 0 → ¬ M i) (hL : ∀ i, i < w.heap.size → L' i = L i) : TnAt w' L' A l := fun i hi => by
 obtain ⟨b, o, h1, h2, h3, h4, h5, h6⟩ := h i hi
 have e := hT.block b h3 (hM b h3 h2)
 exact ⟨b, o, h1, (hL b h3).trans h2, Nat.lt_of_lt_of_le h3 hT.size, (cell_same e).trans h4, (cell_same e).trans h5, (cell_same e).trans h6⟩
theorem TnAt.of_rd {w : World} {L : Nat → Nat} {A : Option Addr} {l : List Tn} (h : Rd w w.heap.size A (tcells l)) (hL : ∀ a, A = some a → L a.block = 0) : TnAt w L A l := fun i hi => by
 have hne : tcells l ≠ [] := fun e => by
  have := tcells_length l
  rw [e] at this
  simp only [List.length_nil] at this
  omega
 obtain ⟨b, o, h1, h2, h3⟩ := h.lay hne
 obtain ⟨k1, k2, k3⟩ := tcells_at l i hi
 exact ⟨b, o, h1, hL _ h1, h2, h3 _ _ k1, by rw [Nat.add_assoc]; exact h3 _ _ k2, by rw [Nat.add_assoc]; exact h3 _ _ k3⟩
theorem FsIn.keep_in {w w' : World} {L : Nat → Nat} {g : Nat} {S : St} {mf mn ms : Nat} {vch : Value} {lf : List (Int × Nat)} {M : Nat → Prop} (h : FsIn w L g S mf mn ms vch lf) (hT : Turned M w w') (hM : ∀ i, L i ≠ 0 → ¬ M i) : FsIn w' L g S mf mn ms vch lf := by
 have st : ∀ i, L i ≠ 0 → w'.heap[i]? = w.heap[i]? := fun i hi => hT.block i (h.lt i hi) (hM i hi)
 refine ⟨h.blk.keep (st g (by rw [h.lg]; decide)), h.lg, h.lmf, h.lmn, h.lms, h.ns, h.fn, h.fs, h.files.keep (st mf (by rw [h.lmf]; decide)), h.names.keep (st mn (by rw [h.lmn]; decide)), h.safe.keep (st ms (by rw [h.lms]; decide)), ⟨own_keep h.chs.1 fun i hi _ => st i (by have : L i = 1 := h.chs.2 i hi; rw [this]; decide), h.chs.2⟩, fun n fb hn => ?_, h.no, fun i hi => Nat.lt_of_lt_of_le (h.lt i hi) hT.size⟩
 obtain ⟨h0, f, h1, h2⟩ := h.at_ n fb hn
 exact ⟨h0, f, h1, h2.keep fun i hi _ => st i (by rcases hi with hi | hi <;> rw [hi] <;> omega)⟩
theorem zero_torn (w : World) : (zeroValue 94).run Tryz.prog w = .ok (.agg #[.int .i64 0, .int .i64 0, .int .i64 0]) w := by kernel_rfl
theorem look_torn {w : World} {b : Nat} {m : List (Int × Tn)} (h : MapAt encT w b m) (k : Int) (x : Bool) :
  (Instr.lookup 92 (.map (some b)) (.int .i64 k) x).run Tryz.prog w = .ok (if x then .tuple #[.agg #[.int .i64 ((aget m k).getD (0, 0, 0)).1, .int .i64 ((aget m k).getD (0, 0, 0)).2.1, .int .i64 ((aget m k).getD (0, 0, 0)).2.2], .bool (aget m k).isSome] else .agg #[.int .i64 ((aget m k).getD (0, 0, 0)).1, .int .i64 ((aget m k).getD (0, 0, 0)).2.1, .int .i64 ((aget m k).getD (0, 0, 0)).2.2]) w := by
 have := h.look (P := Tryz.prog) (E := encT) Tryz.underlying3 Tryz.underlying92 (zero_torn w) k x
 rw [show (Instr.lookup 92 (.map (some b)) (.int .i64 k) x) = (Instr.lookup 92 (.map (some b)) (encT.ek k) x) from rfl, this]
 cases aget m k <;> cases x <;> rfl
theorem FsIn.setg {w : World} {L : Nat → Nat} {g : Nat} {S : St} {mf mn ms : Nat} {vch : Value} {lf : List (Int × Nat)} (h : FsIn w L g S mf mn ms vch lf) (k : Nat) (u : Value) (S' : St) (hb : FsB (w.setCell ⟨g, k, none⟩ u) g (S'.v mf mn ms vch))
  (e1 : S'.files = S.files) (e2 : S'.names = S.names) (e3 : S'.safe = S.safe) (e4 : S'.changes = S.changes) : FsIn (w.setCell ⟨g, k, none⟩ u) L g S' mf mn ms vch lf := by
 have hT : Turned (fun i => i = g) w (w.setCell ⟨g, k, none⟩ u) := Turned.of_gb (gb_set (gb_refl w (some g)) k _) (fun i e => by injection e with e; exact e.symm)
 have st : ∀ i, L i ≠ 0 → i ≠ g → (w.setCell ⟨g, k, none⟩ u).heap[i]? = w.heap[i]? := fun i hi hne => hT.block i (h.lt i hi) hne
 refine ⟨hb, h.lg, h.lmf, h.lmn, h.lms, h.ns, h.fn, h.fs, h.files.keep (st mf (by rw [h.lmf]; decide) (map_ne h.files h.blk)), by rw [e2]; exact h.names.keep (st mn (by rw [h.lmn]; decide) (map_ne h.names h.blk)), by rw [e3]; exact h.safe.keep (st ms (by rw [h.lms]; decide) (map_ne h.safe h.blk)), ⟨by rw [e4]; exact own_keep h.chs.1 fun i hi _ => st i (by have : L i = 1 := h.chs.2 i hi; rw [this]; decide) (fun e => own_ne h.chs.1 h.blk (by decide) (by rw [hi, e])), h.chs.2⟩, fun n fb hn => ?_, by rw [e1]; exact h.no, fun i hi => Nat.lt_of_lt_of_le (h.lt i hi) hT.size⟩
 obtain ⟨h0, f, h1, h2⟩ := h.at_ n fb hn
 refine ⟨h0, f, by rw [e1]; exact h1, h2.keep fun i hi _ => st i (by rcases hi with hi | hi <;> rw [hi] <;> omega) (fun e => ?_)⟩
 rw [e, h.lg] at hi
 omega
theorem FsIn.keep_used {w : World} {L : Nat → Nat} {g : Nat} {S : St} {mf mn ms : Nat} {vch : Value} {lf : List (Int × Nat)} (h : FsIn w L g S mf mn ms vch lf) (x : Int) : FsIn (w.setCell ⟨g, 1, none⟩ (.int .i64 x)) L g { S with used := x } mf mn ms vch lf :=
 h.setg 1 _ _ (h.blk.set1 x) rfl rfl rfl rfl
theorem mem_of_aget {κ ν : Type} [DecidableEq κ] {l : List (κ × ν)} {k : κ} {v : ν} (h : aget l k = some v) : (k, v) ∈ l := by
 induction l with
 | nil => cases h
 | cons y l ih =>
  obtain ⟨a, u⟩ := y
  by_cases hk : a = k
  ·subst hk
   simp [aget] at h
   simp [h]
  ·simp [aget, hk] at h
   exact List.mem_cons_of_mem _ (ih h)
theorem nodup_le {α : Type} [DecidableEq α] : ∀ (a b : List α), a.Nodup → (∀ x ∈ a, x ∈ b) → a.length ≤ b.length
 | [], _, _, _ => Nat.zero_le _
 | x :: a, b, hn, hs => by
  have hx : x ∈ b := hs x (by simp)
  have := nodup_le a (b.erase x) (List.nodup_cons.1 hn).2 fun y hy => by
   have hne : y ≠ x := fun e => (List.nodup_cons.1 hn).1 (e ▸ hy)
   exact (List.mem_erase_of_ne hne).2 (hs y (by simp [hy]))
  rw [List.length_erase_of_mem hx] at this
  have := List.length_pos_of_mem hx
  simp only [List.length_cons]
  omega
def Fl.Good (f : Fl) : Prop := f.waits.length ≤ 1000000 ∧ f.safe.length ≤ 1000000000 ∧
 ∀ k (hk : k < f.waits.length), f.waits[k].pos ≤ ((f.waits.take k).foldl doW f.safe).length ∧ ((f.waits.take k).foldl doW f.safe).length + f.waits[k].p.length ≤ 1000000000
theorem doW_le (b : List UInt8) (x : Wr) : (doW b x).length ≤ b.length + x.p.length := by
 unfold doW
 split
 ·simp; omega
 ·simp; omega
theorem foldW_le {f : Fl} (h : f.Good) : ∀ k, k ≤ f.waits.length → ((f.waits.take k).foldl doW f.safe).length ≤ 1000000000 := by
 intro k hk
 cases k with
 | zero => exact h.2.1
 | succ k =>
  rw [List.take_succ_eq_append_getElem hk, List.foldl_append]
  have h1 := (h.2.2 k hk).2
  have h2 := doW_le ((f.waits.take k).foldl doW f.safe) f.waits[k]
  exact Nat.le_trans h2 h1
theorem tearF_le {f : Fl} (h : f.Good) (n b : Int) : (tearF f n b).length ≤ 1000000000 := by
 unfold tearF
 have hk := tearK_le f n
 rcases Nat.lt_or_ge (tearK f n) f.waits.length with h1 | h1
 ·rw [List.getElem?_eq_getElem h1]
  simp only
  split
  ·exact foldW_le h _ hk
  ·have h2 := (h.2.2 _ h1).2
   have h3 := doW_le ((f.waits.take (tearK f n)).foldl doW f.safe) ⟨false, f.waits[tearK f n].pos, f.waits[tearK f n].p.take (clampI b f.waits[tearK f n].p.length).toNat⟩
   simp only [List.length_take] at h3
   omega
 ·rw [List.getElem?_eq_none h1]
  exact foldW_le h _ hk
def St.torn (S : St) (m : List (Int × Tn)) (ks : List Int) : St :=
 { S with used := ((ks.map fun n => (((S.files n).map (tornFl m n)).map fun f => f.bytes.length).getD 0).sum : Nat), files := fun n => if n ∈ ks then (S.files n).map (tornFl m n) else S.files n }
theorem aget_mem {κ ν : Type} [DecidableEq κ] {l : List (κ × ν)} (h : (l.map (·.1)).Nodup) {x : κ × ν} (hx : x ∈ l) : aget l x.1 = some x.2 := by
 induction l with
 | nil => simp at hx
 | cons y l ih =>
  obtain ⟨a, u⟩ := y
  rw [List.map_cons, List.nodup_cons] at h
  rcases List.mem_cons.1 hx with rfl | hx
  ·simp [aget]
  ·have hne : ¬ a = x.1 := fun e => h.1 (by rw [e]; exact List.mem_map.2 ⟨x, hx, rfl⟩)
   simp [aget, hne, ih h.2 hx]
theorem sum_le (l : List Nat) (b : Nat) (h : ∀ x ∈ l, x ≤ b) : l.sum ≤ l.length * b := by
 induction l with
 | nil => simp
 | cons x l ih =>
  have h1 := h x (by simp)
  have h2 := ih fun y hy => h y (by simp [hy])
  simp only [List.sum_cons, List.length_cons, Nat.add_mul, Nat.one_mul]
  omega
theorem torn_len_le {S : St} (hG : ∀ n f, S.files n = some f → f.Good) (m : List (Int × Tn)) (n : Int) : (((S.files n).map (tornFl m n)).map fun f => f.bytes.length).getD 0 ≤ 1000000000 := by
 cases h : S.files n with
 | none => simp
 | some f => exact tearF_le (hG n f h) _ _
theorem St.torn_more {S : St} {m : List (Int × Tn)} {ks : List Int} {n : Int} {f : Fl} (hn : n ∉ ks) (hf : S.files n = some f) :
  (S.torn m (ks ++ [n])).files = (fun k => if k = n then some (tornFl m n f) else (S.torn m ks).files k) ∧ (S.torn m (ks ++ [n])).used = (S.torn m ks).used + (tornFl m n f).bytes.length := by
 refine ⟨?_, ?_⟩
 ·funext k
  show (if k ∈ ks ++ [n] then _ else _) = if k = n then _ else if k ∈ ks then _ else _
  by_cases hk : k = n
  ·subst hk
   simp [hf]
  ·simp [hk]
 ·unfold St.torn
  simp [hf]
def St.fallen (S : St) (dir : Int) : St := ({ S with safe := followed S.safe (S.changes.take (crashK S dir)) } : St).settled (followed S.safe (S.changes.take (crashK S dir)))
set_option maxHeartbeats 4000000 in
set_option maxRecDepth 100000 in
theorem crash_any (L : Nat → Nat) (g : Nat) (S : St) (dir : Int) (A : Option Addr) (c : Nat) (tl : List Tn) (w : World) (h : FsAt w L g S) (hF : Fine S) (ht : TnAt w L A tl) (htl : tl.length ≤ c ∧ c ≤ maxLen)
  (hN : ∀ x ∈ followed S.safe (S.changes.take (crashK S dir)), (S.files (x.2 : Int)).isSome)
  (hNl : (followed S.safe (S.changes.take (crashK S dir))).length ≤ 100000) (hG : ∀ n f, S.files n = some f → f.Good) :
  Calls Tryz.prog 8 #[.pointer (some ⟨g, 0, none⟩), .agg #[.int .i64 dir, .slice A tl.length c]] w fun e w' => e = .returned (.tuple #[]) ∧ ∃ (ks : List Int) (L' : Nat → Nat),
   ks.Nodup ∧ (∀ n, n ∈ ks ↔ ∃ x ∈ followed S.safe (S.changes.take (crashK S dir)), (x.2 : Int) = n) ∧ FsAt w' L' g { (S.fallen dir).torn (tl.foldl tornM []) ks with dead := false, armed := 0 } ∧ Moved L w L' w' := by
 obtain ⟨mf, mn, ms, vch, lf, h⟩ := h
 obtain ⟨Ac, cc, rfl⟩ := own_slice h.chs.1
 have hcl : S.changes.length ≤ cc ∧ cc ≤ maxLen := by
  rcases h.chs.1.2 with ⟨e, h0⟩ | ⟨b, cap, cur, hv, h5, h6, h7, h8, _⟩
  ·injection e with _ _ e
   omega
  ·injection hv with _ _ hv
   omega
 obtain ⟨hcl1, hcl2⟩ := hcl
 have hga : w.grownBy (w.alloc (.cells #[.int .i64 dir, .slice A tl.length c] 36)) none := gb_alloc (gb_refl w none) _
 have hX := heap_alloc_new w (.cells #[.int .i64 dir, .slice A tl.length c] 36)
 have ha : FsIn (w.alloc (.cells #[.int .i64 dir, .slice A tl.length c] 36)) L g S mf mn ms (.slice Ac S.changes.length cc) lf := h.keep_in (Turned.of_gb (M := fun _ => False) hga (by simp)) (fun _ _ h => h)
 have hta : TnAt (w.alloc (.cells #[.int .i64 dir, .slice A tl.length c] 36)) L A tl := ht.keep (Turned.of_gb (M := fun _ => False) hga (by simp)) (fun _ _ _ h => h) (fun _ _ => rfl)
 have q5 : (w.alloc (.cells #[.int .i64 dir, .slice A tl.length c] 36)).cell? ⟨g, 5, none⟩ = some (.map (some ms)) := ha.blk.c5
 have q6 : (w.alloc (.cells #[.int .i64 dir, .slice A tl.length c] 36)).cell? ⟨g, 6, none⟩ = some (.slice Ac S.changes.length cc) := ha.blk.c6
 have b0 : (w.alloc (.cells #[.int .i64 dir, .slice A tl.length c] 36)).cell? ⟨w.heap.size, 0, none⟩ = some (.int .i64 dir) := by rw [blk_cell hX]; rfl
 have HA := hide ha
 have HTA := hide hta
 have HX := hide hX
 have HGA := hide hga
 have HKE : Hid (clampI dir S.changes.length = (crashK S dir : Int)) := hide (by unfold crashK clampI; omega)
 have hkl := crashK_le S dir
 have hcb : S.changes.length ≤ 1000000 := hF.chs
 obtain ⟨htl1, htl2⟩ := htl
 have htb : tl.length ≤ 9223372036854775807 := by unfold maxLen at htl2; omega
 have hL0 : L w.heap.size = 0 := Classical.byContradiction fun hc => by have := h.lt _ hc; omega
 clear h ht ha hta hX hga
 obtain ⟨ic, hic, _⟩ := info_parts Tryz.infoC
 have hsl := fun w => run_cut_to (P := Tryz.prog) w Ac S.changes.length cc (crashK S dir) Tryz.underlying79 hic hkl hcl1
 clear hic
 go_enter Tryz.func8, Tryz.ntmps8
 go_wp2_with fail
 generalize w.alloc (.cells #[.int .i64 dir, .slice A tl.length c] 36) = wa at *
 refine wp_region_still_lit (by kernel_rfl) (by kernel_rfl) ?_
 repeat still_step
 still_call (within_still _ _ _ HKE.out _)
 repeat still_step
 refine wpStill_nil ?_
 clear hsl q5 q6 b0
 go_wp2_with fail
 rw [show ({ heap := wa.heap, tape := wa.tape, drawn := wa.drawn + 1, os := wa.os, output := wa.output } : World) = wa.drew from rfl]
 have HB : Hid (FsIn wa.drew L g S mf mn ms (.slice Ac S.changes.length cc) lf) := hide (HA.out.keep_in ((Turned.refl (fun _ => False) wa).drewN 1) (fun _ _ h => h))
 have HTB : Hid (TnAt wa.drew L A tl) := hide (HTA.out.keep ((Turned.refl (fun _ => False) wa).drewN 1) (fun _ _ _ h => h) (fun _ _ => rfl))
 have HXB : Hid (wa.drew.heap[w.heap.size]? = some (.cells #[.int .i64 dir, .slice A tl.length c] 36 (0, 0))) := hide HX.out
 have HGB : Hid (w.grownBy wa.drew none) := hide (gb_drew HGA.out)
 generalize wa.drew = wb at *
 clear HA HTA HX HGA
 go_loopw [34] (fun i wr => ∃ j : Nat, i = .int .i64 (j : Int) ∧ j ≤ crashK S dir ∧ MapAt encN wr ms (followed S.safe (S.changes.take j)) ∧ Turned (fun i => i = ms) wb wr) (fun i _ => crashK S dir - (intOf i).toNat)
 case atStart => exact ⟨0, rfl, Nat.zero_le _, HB.out.safe, Turned.refl _ _⟩
 case round =>
  obtain ⟨j, rfl, hj, hm, hT⟩ := hrel
  have HS := hide (HB.out.safe_turn hm hT)
  have HM := hide hm
  have HT := hide hT
  clear hm hT
  by_cases hlt2 : j < crashK S dir
  ·have hjl : j < S.changes.length := by omega
   obtain ⟨bw, hbw, c0, c1, c2⟩ := ch_elem HS.out.chs.1 hjl
   subst hbw
   have HFO := hide (follow_any ms _ S.changes[j] _ (HM.out.alloc (.cells #[.string S.changes[j].src, .string S.changes[j].dst, .int .i64 (S.changes[j].file : Int)] 89)))
   go_wp2_with (go_at_call 32; refine HFO.out.mono ?_; rintro e w2 ⟨rfl, hm2, hg2⟩; have HM2 := hide hm2; have HG2 := hide hg2; clear hm2 hg2)
   go_roundw
   case rel =>
    refine ⟨j + 1, by go_num, by omega, ?_, (HT.out.alloc _).trans (Turned.of_gb (M := fun i => i = ms) HG2.out (fun i e => by injection e with e; exact e.symm)) (fun _ _ h => h)⟩
    have h := HM2.out
    rw [List.take_succ_eq_append_getElem hjl]
    unfold followed
    rw [List.foldl_append]
    exact h
   case measure => simp [intOf]; omega
  ·obtain rfl : j = crashK S dir := by omega
   have HST := hide (settle_in L g _ mf mn ms _ lf ms _ wr HS.out HM.out HS.out.lms hN)
   have hmk := fun (w : World) (n : Int) => run_mkmap (P := Tryz.prog) w 92 3 94 n Tryz.underlying92
   go_wp2_with (go_at_call 33; refine HST.out.mono ?_; rintro e w2 ⟨rfl, L2, ⟨mf2, mn2, ms2, vch2, lf2, h2⟩, m2⟩; have H2 := hide h2; have M2 := hide m2; clear h2 m2; have HX2 : Hid (w2.heap[w.heap.size]? = some (.cells #[.int .i64 dir, .slice A tl.length c] 36 (0, 0))) := hide ((M2.out.turned.block _ (Nat.lt_of_lt_of_le (blk_lt HXB.out) HT.out.size) (by rw [hL0]; omega)).trans ((HT.out.block _ (blk_lt HXB.out) (fun e => by have := HB.out.lms; rw [← e, hL0] at this; cases this)).trans HXB.out)); have b1 : w2.cell? ⟨w.heap.size, 1, none⟩ = some (.slice A tl.length c) := (by rw [blk_cell HX2.out]; rfl); have b2 : (w2.alloc (.map #[] 0)).cell? ⟨w.heap.size, 1, none⟩ = some (.slice A tl.length c) := (by rw [blk_cell ((heap_alloc_old w2 _ (blk_lt HX2.out)).trans HX2.out)]; rfl))
   have HTN : Hid (TnAt w2 L2 A tl) := hide ((HTB.out.keep HT.out (fun i _ h0 e => by have := HB.out.lms; rw [← e, h0] at this; cases this) (fun _ _ => rfl)).keep M2.out.turned (fun i _ h0 => by rw [h0]; omega) M2.out.same)
   have HM3 := hide (MapAt.made (E := encT) w2)
   have HT3 : Hid (Turned (fun _ => False) w2 (w2.alloc (.map #[] 0))) := hide ((Turned.refl _ w2).alloc _)
   clear HST HS HM b1 b2
   generalize w2.alloc (.map #[] 0) = w3 at *
   go_loopw [52] (fun i wr => ∃ j : Nat, i = .int .i64 (j : Int) ∧ j ≤ tl.length ∧ MapAt encT wr w2.heap.size ((tl.take j).foldl tornM []) ∧ Turned (fun _ => False) w2 wr) (fun i _ => tl.length - (intOf i).toNat)
   case atStart => exact ⟨0, rfl, Nat.zero_le _, HM3.out, HT3.out⟩
   case round =>
    obtain ⟨j, rfl, hj, hm4, ht4⟩ := hrel
    have HM4 := hide hm4
    have HT4 := hide ht4
    clear hm4 ht4
    by_cases hlt3 : j < tl.length
    ·obtain ⟨bt, ot, hA, _, hbl, c0, c1, c2⟩ := (HTN.out.keep (L' := L2) HT4.out (fun _ _ _ h => h) (fun _ _ => rfl)) j hlt3
     subst hA
     have hlk := look_torn (HM4.out.alloc (.cells #[.int .i64 tl[j].1, .int .i64 tl[j].2.1, .int .i64 tl[j].2.2] 94)) tl[j].1 true
     rw [if_pos rfl] at hlk
     have hfold : (tl.take (j + 1)).foldl tornM [] = tornM ((tl.take j).foldl tornM []) tl[j] := by rw [List.take_succ_eq_append_getElem hlt3, List.foldl_append]; rfl
     have HFO := hide hfold
     clear hfold
     generalize hml : (tl.take j).foldl tornM [] = m at *
     cases hs : (aget m tl[j].1).isSome
     ·rw [hs] at hlk
      have HSS := hide hs
      clear hs
      have HMX := hide ((HM4.out.alloc (.cells #[.int .i64 tl[j].1, .int .i64 tl[j].2.1, .int .i64 tl[j].2.2] 94)).alloc (.cells #[.int .i64 ((aget m tl[j].1).getD (0, 0, 0)).1, .int .i64 ((aget m tl[j].1).getD (0, 0, 0)).2.1, .int .i64 ((aget m tl[j].1).getD (0, 0, 0)).2.2] 94))
      go_wp2_with (at_mapUpdate; refine wpList_put (E := encT) _ rfl (.tmp 65) (.tmp 67) (.tmp 68) 92 rfl 3 94 Tryz.underlying3 Tryz.underlying92 w2.heap.size m rfl HMX.out tl[j].1 tl[j] rfl rfl ?_; intro w5 hm5 hg5 hs5; go_frame)
      go_roundw
      case rel =>
       refine ⟨j + 1, by go_num, by omega, ?_, ((HT4.out.alloc _).alloc _).trans (Turned.of_gb (M := fun i => i = w2.heap.size) hg5 (fun i e => by injection e with e; exact e.symm)) (fun i hi h => by omega)⟩
       rw [HFO.out]
       unfold tornM
       rw [HSS.out]
       exact hm5
      case measure => simp [intOf]; omega
     ·rw [hs] at hlk
      have HSS := hide hs
      clear hs
      go_wp2_with fail
      go_roundw
      case rel =>
       refine ⟨j + 1, by go_num, by omega, ?_, (HT4.out.alloc _).alloc _⟩
       rw [HFO.out]
       unfold tornM
       rw [HSS.out]
       exact (HM4.out.alloc _).alloc _
      case measure => simp [intOf]; omega
    ·obtain rfl : j = tl.length := by omega
     have h5 := H2.out.keep_in HT4.out (fun _ _ h => h)
     have q1 := h5.blk.c1
     have f1 := h5.blk.fr 1
     have q3 : wr.cell? ⟨g, 3, none⟩ = some (.map (some mf2)) := h5.blk.c3
     have H6 := hide (h5.keep_used 0)
     have HM6 := hide (HM4.out.setCell (p := ⟨g, 1, none⟩) (fun e => by have := H2.out.blk.lt; have e' : g = w2.heap.size := e; omega) (.int .i64 0))
     have HG6 : Hid (Turned (fun i => i = g) wr (wr.setCell ⟨g, 1, none⟩ (.int .i64 0))) := hide (Turned.of_gb (gb_set (gb_refl wr (some g)) 1 _) (fun i e => by injection e with e; exact e.symm))
     clear h5
     go_wp2_with (at_range; refine wpList_rng (E := encF) _ rfl _ 77 rfl 3 96 Tryz.underlying77 mf2 lf2 rfl H6.out.files ?_; intro w7 hit hg7 hs7; clear q1 f1 q3)
     have hz : (wr.setCell ⟨g, 1, none⟩ (.int .i64 0)).heap.size = wr.heap.size := by simp [World.setCell]
     rw [hz] at hit hs7 ⊢
     have H7 := hide (H6.out.keep_in (Turned.of_gb (M := fun _ => False) hg7 (by simp)) (fun _ _ h => h))
     have HM7 := hide (HM6.out.grown hg7 (by simp))
     have HIT := hide hit
     have HG7 : Hid (Turned (fun i => i = g) w2 w7) := hide (((HT4.out.mono (M' := fun i => i = g) (fun i _ h => h.elim)).trans HG6.out (fun i _ h => h)).trans (Turned.of_gb (M := fun _ => False) hg7 (by simp)) (fun _ _ h => h.elim))
     have hLr : L2 wr.heap.size = 0 := Classical.byContradiction fun hc => by have := H2.out.lt _ hc; have := HT4.out.size; omega
     have hLt : L2 w2.heap.size = 0 := Classical.byContradiction fun hc => by have := H2.out.lt _ hc; omega
     have hwr := HT4.out.size
     have hrt : w2.heap.size < wr.heap.size := HM4.out.lt
     clear hit hg7 H6 HM6 HG6 HM4 hwr
     generalize wr.heap.size = r at *
     go_frame
     go_loopw [12] (fun _ wx => ∃ (todo done : List (Int × Nat)) (L' : Nat → Nat), FsIn wx L' g ((S.fallen dir).torn (tl.foldl tornM []) (done.map (·.1))) mf2 mn2 ms2 vch2 lf2 ∧ IterAt encF wx mf2 r lf2 todo ∧ (done ++ todo).Perm lf2 ∧
       MapAt encT wx w2.heap.size (tl.foldl tornM []) ∧ L' r = 0 ∧ L' w2.heap.size = 0 ∧ Moved L2 w2 L' wx)
      (fun _ wx => wx.rangeLeft mf2 r)
     case atStart =>
      refine ⟨lf2, [], L2, ?_, HIT.out, by simp, ?_, hLr, hLt, HG7.out.mono fun i _ hi => .inl (hi ▸ H2.out.lg), fun _ _ => rfl⟩
      ·have := H7.out
       unfold St.torn
       simp only [List.map_nil, List.sum_nil, List.not_mem_nil, if_false]
       exact this
      ·have := HM7.out
       rw [List.take_length] at this
       exact this
     case round =>
      obtain ⟨todo, done, L', hfs, hit, hperm, hmt, hl1, hl2, hmv⟩ := hrel
      have hfg : ∀ n f, (S.fallen dir).files n = some f → S.files n = some f := fun n f hf => by
       have hf' : (if ∃ x ∈ followed S.safe (S.changes.take (crashK S dir)), (x.2 : Int) = n then S.files n else none) = some f := hf
       split at hf'
       ·exact hf'
       ·cases hf'
      have hnd := hfs.files.nodup
      have hkey : ∀ n fb, aget lf2 n = some fb → ∃ x ∈ followed S.safe (S.changes.take (crashK S dir)), (x.2 : Int) = n := fun n fb hn => by
       obtain ⟨_, f, hf, _⟩ := H2.out.at_ n fb hn
       have hf' : (if ∃ x ∈ followed S.safe (S.changes.take (crashK S dir)), (x.2 : Int) = n then S.files n else none) = some f := hf
       split at hf'
       ·assumption
       ·cases hf'
      have HFG := hide hfg
      have HND := hide hnd
      have HKEY := hide hkey
      have HFS := hide hfs
      have HI := hide hit
      have HP := hide hperm
      have HMT := hide hmt
      have HMV := hide hmv
      have q8 := hfs.blk.c8
      have f8 := hfs.blk.fr 8
      have q9 := hfs.blk.c9
      have f9 := hfs.blk.fr 9
      clear hfg hnd hkey hfs hit hperm hmt hmv
      go_wp2_with (first
       | (at_next; refine wpList_nxt (E := encF) _ rfl (.tmp 77) rfl mf2 r lf2 todo rfl HI.out ?_ ?_))
      ·intro h0
       go_wp2
       go_end0
       subst h0
       have hp := HP.out
       rw [List.append_nil] at hp
       refine ⟨rfl, done.map (·.1), L', ((hp.map (·.1)).nodup_iff).2 HND.out, fun n => ⟨fun hn => ?_, fun hn => ?_⟩, ⟨mf2, mn2, ms2, vch2, lf2, (HFS.out.setg 9 _ { (S.fallen dir).torn (tl.foldl tornM []) (done.map (·.1)) with dead := false } (HFS.out.blk.set9 false) rfl rfl rfl rfl).setg 8 _ _ ((HFS.out.blk.set9 false).set8 0) rfl rfl rfl rfl⟩, ?_⟩
       ·obtain ⟨y, hy, rfl⟩ := List.mem_map.1 hn
        exact HKEY.out y.1 y.2 (aget_mem HND.out (hp.mem_iff.1 hy))
       ·cases hk : aget lf2 n with
        | some fb => exact List.mem_map.2 ⟨(n, fb), hp.mem_iff.2 (mem_of_aget hk), rfl⟩
        | none =>
         have hno := H2.out.no n hk
         obtain ⟨y, hy1, hy2⟩ := hn
         have hno' : (if ∃ x ∈ followed S.safe (S.changes.take (crashK S dir)), (x.2 : Int) = n then S.files n else none) = none := hno
         rw [if_pos ⟨y, hy1, hy2⟩] at hno'
         have := hN y hy1
         rw [hy2, hno'] at this
         cases this
       ·have m1 : Moved L w L _ := ⟨(Turned.of_gb (M := fun i => L i = 1 ∨ 3 ≤ L i) HGB.out (by simp)).trans HT.out (fun i _ e => .inl (by rw [e]; exact HB.out.lms)), fun _ _ => rfl⟩
        refine (m1.trans M2.out).trans (HMV.out.trans ⟨?_, fun _ _ => rfl⟩)
        exact Turned.of_gb (gb_set (gb_set (gb_refl wr (some g)) 9 _) 8 _) (fun i e => by injection e with e; exact .inl (by rw [← e]; exact HFS.out.lg))
      ·intro j xa xm w6 hx hit6 hg6 hs6 hen
       have hmem : (xa, xm) ∈ lf2 := HP.out.mem_iff.1 (List.mem_append_right _ (List.mem_of_getElem? hx))
       have hag := aget_mem HND.out hmem
       have hxd : xa ∉ done.map (·.1) := by
        have hnd := (((perm_done HP.out hx).map (·.1)).nodup_iff).2 HND.out
        rw [List.map_append, List.map_append] at hnd
        have := (List.nodup_append.1 (List.nodup_append.1 hnd).1).2.2
        intro hc
        exact this xa hc xa (by simp) rfl
       have hfs6 := HFS.out.keep_in (Turned.of_gb (M := fun i => i = r) hg6 (fun i e => by injection e with e; exact e.symm)) (fun i hi e => hi (by rw [e]; exact hl1))
       obtain ⟨hn0, f, hSf, hfa⟩ := hfs6.at_ xa xm hag
       have hSf2 : (S.fallen dir).files xa = some f := by
        have h' : (if xa ∈ done.map (·.1) then ((S.fallen dir).files xa).map (tornFl (tl.foldl tornM []) xa) else (S.fallen dir).files xa) = some f := hSf
        rw [if_neg hxd] at h'
        exact h'
       have hgood := hG _ _ (HFG.out _ _ hSf2)
       have hmt6 := HMT.out.grown hg6 (fun e => by injection e with e; omega)
       have hlk := look_torn hmt6 xa false
       rw [if_neg (by decide)] at hlk
       have htr := tear_any xm f _ _ ((aget (tl.foldl tornM []) xa).getD (0, 0, 0)).1 ((aget (tl.foldl tornM []) xa).getD (0, 0, 0)).2.1 ((aget (tl.foldl tornM []) xa).getD (0, 0, 0)).2.2 w6 hfa (fun i hi => ⟨by have hi' : L' i = 2 := hi; show ¬ L' i = _; rw [hi']; omega, hfs6.lt i (by have hi' : L' i = 2 := hi; rw [hi']; decide)⟩) hgood.1 hgood.2.2
       have hen' : (Instr.entry (.pointer (some ⟨r, 0, none⟩))).run Tryz.prog w6 = .ok (.tuple #[.int .i64 xa, .pointer (some ⟨xm, 0, none⟩)]) w6 := hen
       have HTR := hide htr
       have HFS6 := hide hfs6
       have HMT6 := hide hmt6
       have HIT6 := hide hit6
       have HG6 := hide hg6
       have HX := hide hx
       have HXD := hide hxd
       have HAG := hide hag
       have HSF := hide hSf2
       clear htr hfs6 hmt6 hit6 hg6 hen hx hxd hag hSf2 hSf hfa hmem q8 f8 q9 f9
       go_wp2_with (go_at_call 34; refine HTR.out.mono ?_; rintro e w7 ⟨rfl, hf7, hT7⟩; have HF7 := hide hf7; have HT7 := hide hT7; clear hf7 hT7 hlk hen')
       have hlx : ∃ v7 A7 c7, FlB w7 xm v7 ∧ v7.vb = .slice A7 (tearF f ((aget (tl.foldl tornM []) xa).getD (0, 0, 0)).2.1 ((aget (tl.foldl tornM []) xa).getD (0, 0, 0)).2.2).length c7 := by
        obtain ⟨v7, h1, _, _, h2, _⟩ := HF7.out
        obtain ⟨A7, c7, h3, _⟩ := h2.form
        exact ⟨v7, A7, c7, h1, h3⟩
       obtain ⟨v7, A7, c7, hv7x, hv7b⟩ := hlx
       have hxm : L' xm = xa.toNat + 3 := by
        obtain ⟨_, _, _, h⟩ := HFS6.out.at_ xa xm HAG.out
        obtain ⟨_, _, h, _⟩ := h
        exact h
       have hgx : g ≠ xm := fun e => by have := HFS6.out.lg; rw [e, hxm] at this; omega
       have hv7 := HFS6.out.blk.keep (HT7.out.block g HFS6.out.blk.lt (fun hh => by
        rcases hh with hh | hh
        ·exact hgx hh
        ·have hh' : L' g = xa.toNat + 3 := hh
         rw [HFS6.out.lg] at hh'
         omega))
       obtain ⟨U, hU⟩ : ∃ U : Nat, U = ((done.map (·.1)).map fun n => ((((S.fallen dir).files n).map (tornFl (tl.foldl tornM []) n)).map fun f => f.bytes.length).getD 0).sum := ⟨_, rfl⟩
       have hUu : ((S.fallen dir).torn (tl.foldl tornM []) (done.map (·.1))).used = (U : Int) := by rw [hU]; rfl
       have hlen : (tearF f ((aget (tl.foldl tornM []) xa).getD (0, 0, 0)).2.1 ((aget (tl.foldl tornM []) xa).getD (0, 0, 0)).2.2).length ≤ 1000000000 := tearF_le hgood _ _
       have hUb : U ≤ 100000 * 1000000000 := by
        have h1 := sum_le ((done.map (·.1)).map fun n => ((((S.fallen dir).files n).map (tornFl (tl.foldl tornM []) n)).map fun f => f.bytes.length).getD 0) 1000000000 (fun y hy => by
         obtain ⟨n, _, rfl⟩ := List.mem_map.1 hy
         exact torn_len_le (fun n f hf => hG n f (HFG.out n f hf)) _ _)
        rw [← hU, List.length_map, List.length_map] at h1
        have h2 : done.length ≤ lf2.length := by
         have := HP.out.length_eq
         rw [List.length_append] at this
         omega
        have h3 := nodup_le (lf2.map (·.1)) ((followed S.safe (S.changes.take (crashK S dir))).map fun x => (x.2 : Int)) HND.out (fun n hn => by
         obtain ⟨y, hy, rfl⟩ := List.mem_map.1 hn
         obtain ⟨z, hz1, hz2⟩ := HKEY.out y.1 y.2 (aget_mem HND.out hy)
         exact List.mem_map.2 ⟨z, hz1, hz2⟩)
        rw [List.length_map, List.length_map] at h3
        exact Nat.le_trans h1 (Nat.mul_le_mul_right _ (Nat.le_trans h2 (Nat.le_trans h3 hNl)))
       generalize hLN : (tearF f ((aget (tl.foldl tornM []) xa).getD (0, 0, 0)).2.1 ((aget (tl.foldl tornM []) xa).getD (0, 0, 0)).2.2).length = ln at hv7b hlen
       have hw : IntKind.i64.wrap ((U : Int) + (ln : Int)) = ((U + ln : Nat) : Int) := by
        rw [show (U : Int) + (ln : Int) = ((U + ln : Nat) : Int) by omega]
        exact IntWalk.i64_in _ (by omega)
       have q1 : w7.cell? ⟨g, 1, none⟩ = some (.int .i64 (U : Int)) := by rw [← hUu]; exact hv7.c1
       have f1 := hv7.fr 1
       have qx := hv7x.c1
       rw [hv7b] at qx
       have HV7 := hide hv7
       have HLN := hide hLN
       have HUU := hide hUu
       clear hv7 hv7x hv7b hLN hUu hU hUb hlen
       go_still_tail 12, (by kernel_rfl)
       go_wp2_with fail
       have hsz6 := HT7.out.size
       have hgl6 := HFS6.out.blk.lt
       have hG8 : Turned (fun i => i = g) w7 (w7.setCell ⟨g, 1, none⟩ (.int .i64 ((U : Int) + (ln : Int)))).drew := Turned.of_gb (gb_drew (gb_set (gb_refl w7 (some g)) 1 _)) (fun i e => by injection e with e; exact e.symm)
       have hsz8 := hG8.size
       have hT8 : Turned (fun i => i = g ∨ L' i = xa.toNat + 3) w6 (w7.setCell ⟨g, 1, none⟩ (.int .i64 ((U : Int) + (ln : Int)))).drew :=
        (HT7.out.mono (M' := fun i => i = g ∨ L' i = xa.toNat + 3) (fun i _ h => by
         rcases h with rfl | h
         ·exact .inr hxm
         ·exact .inr h)).trans hG8 (fun i _ h => .inl h)
       have hb8 : FsB (w7.setCell ⟨g, 1, none⟩ (.int .i64 ((U : Int) + (ln : Int)))).drew g (((S.fallen dir).torn (tl.foldl tornM []) (done.map (·.1) ++ [xa])).v mf2 mn2 ms2 vch2) := by
        have h := HV7.out.set1 ((U : Int) + (ln : Int))
        have e : ((S.fallen dir).torn (tl.foldl tornM []) (done.map (·.1) ++ [xa])).used = (U : Int) + (ln : Int) := by
         rw [(St.torn_more HXD.out HSF.out).2, HUU.out, ← HLN.out]
         rfl
        have e2 : (((S.fallen dir).torn (tl.foldl tornM []) (done.map (·.1) ++ [xa])).v mf2 mn2 ms2 vch2) = { ((S.fallen dir).torn (tl.foldl tornM []) (done.map (·.1))).v mf2 mn2 ms2 vch2 with used := (U : Int) + (ln : Int) } := by
         rw [← e]
         rfl
        rw [e2]
        exact h
       have hf8 : FileAt (w7.setCell ⟨g, 1, none⟩ (.int .i64 ((U : Int) + (ln : Int)))).drew (fun i => L' i = xa.toNat + 3 ∨ (w6.heap.size ≤ i ∧ i < (w7.setCell ⟨g, 1, none⟩ (.int .i64 ((U : Int) + (ln : Int)))).drew.heap.size)) (fun i => L' i = 2 ∨ (w6.heap.size ≤ i ∧ i < w6.heap.size)) xm (tornFl (tl.foldl tornM []) xa f) := by
        refine (HF7.out.keep fun i hi hl => hG8.block i hl (fun e => ?_)).mono (fun i _ hi => ?_) (fun i _ hi => .inl hi)
        ·subst e
         rcases hi with hi | hi
         ·rcases hi with hi | hi
          ·have hi' : L' i = xa.toNat + 3 := hi
           rw [HFS6.out.lg] at hi'
           omega
          ·omega
         ·have hi' : L' i = 2 := hi
          rw [HFS6.out.lg] at hi'
          omega
        ·rcases hi with hi | hi
         ·exact .inl hi
         ·exact .inr ⟨hi.1, Nat.lt_of_lt_of_le hi.2 hsz8⟩
       obtain ⟨L'', h1, h2⟩ := HFS6.out.turn_in (S' := (S.fallen dir).torn (tl.foldl tornM []) (done.map (·.1) ++ [xa])) HAG.out hb8 hT8 (Nat.le_refl _) (Nat.le_trans hsz6 hsz8) hf8 (St.torn_more HXD.out HSF.out).1 rfl rfl rfl
       have hrl : r < w6.heap.size := HIT6.out.lt
       have st8 : ∀ i, i < w6.heap.size → i ≠ g → L' i ≠ xa.toNat + 3 → (w7.setCell ⟨g, 1, none⟩ (.int .i64 ((U : Int) + (ln : Int)))).drew.heap[i]? = w6.heap[i]? := fun i hi h1 h2 => hT8.block i hi (fun h => h.elim h1 h2)
       have hlr : r ≠ g := fun e => by have := HFS6.out.lg; rw [← e, hl1] at this; cases this
       have hlt' : w2.heap.size ≠ g := fun e => by have := HFS6.out.lg; rw [← e, hl2] at this; cases this
       have hit8 := HIT6.out.keep (st8 mf2 HFS6.out.files.lt (map_ne HFS6.out.files HFS6.out.blk) (by rw [HFS6.out.lmf]; omega)) (st8 r hrl hlr (by rw [hl1]; omega))
       have hmt8 := HMT6.out.keep (st8 w2.heap.size HMT6.out.lt hlt' (by rw [hl2]; omega))
       go_roundw
       case rel =>
        refine ⟨todo.eraseIdx j, done ++ [(xa, xm)], L'', ?_, hit8, perm_done HP.out HX.out, hmt8, (h2.same r hrl).trans hl1, (h2.same _ HMT6.out.lt).trans hl2, ?_⟩
        ·rw [List.map_append]
         exact h1
        ·have m6 : Moved L2 w2 L' w6 := ⟨HMV.out.turned.trans (Turned.of_gb (M := fun i => i = r) HG6.out (fun i e => by injection e with e; exact e.symm)) (fun i hi e => by omega), HMV.out.same⟩
         exact m6.trans h2
       case measure =>
        rw [hit8.left, HI.out.left, List.length_eraseIdx]
        have := (List.getElem?_eq_some_iff.1 HX.out).1
        split <;> omega
end Go.Proofs.YtmcmlkglkpbnpaaGreat
namespace Go.Proofs.YtmcmlkglkpbnpaaGreat
open Go.RowKit
set_option maxHeartbeats 4000000 in
set_option maxRecDepth 100000 in
theorem read_ok (L : Nat → Nat) (g : Nat) (S : St) (n : Int) (f : Fl) (k : Nat) (x : Int) (w : World) (h : FsAt w L g S) (hF : Fine S) (hd : S.dead = false) (hn : S.file n = some f) (hk : k ≤ f.bytes.length) (hx : 0 ≤ x) :
  Calls Tryz.prog 82 #[.pointer (some ⟨g, 0, none⟩), .int .i64 n, .int .i64 (k : Int), .int .i64 x] w fun e w' => ∃ A c m, e = .returned (.tuple #[.slice A m c, .int .i64 0]) ∧
   m = min x.toNat (f.bytes.length - k) ∧ BsAt w' (fun i => w.heap.size ≤ i ∧ i < w'.heap.size) (.slice A m c) ((f.bytes.drop k).take x.toNat) ∧ w.grownBy w' none := by
 obtain ⟨mf, mn, ms, vch, lf, h⟩ := h
 obtain ⟨fb, h1, h2, h3, h4⟩ := h.find_some hd hn
 obtain ⟨fv, hfl, hof, hgo, hbb, _⟩ := h2
 obtain ⟨A, c, hvb, hlc, hcm, hrd⟩ := hbb.rd
 have hbl := (hF.files n f (St.file_some hn).1).1
 obtain ⟨d, hdd⟩ : ∃ d, k + d = f.bytes.length := ⟨f.bytes.length - k, by omega⟩
 have q1 := hfl.c1
 rw [hvb, ← hdd] at q1
 rw [← hdd] at hlc
 have HFD := hide h4
 obtain ⟨i8, hi8, _, hs8, _⟩ := info_parts Tryz.info8
 have hcut := fun w => run_cut_from (P := Tryz.prog) w A (k + d) c k 1 Tryz.underlying49 hi8 hs8 (by omega) hlc
 have hw : IntKind.i64.wrap ((k : Int) + (d : Int) - (k : Int)) = (d : Int) := by
  rw [show (k : Int) + (d : Int) - (k : Int) = d by omega]
  exact IntWalk.i64_in _ (by omega)
 have hkd : k ≤ k + d := by omega
 have hx' : ¬ x < 0 := by omega
 obtain ⟨m, hm⟩ : ∃ m : Nat, m = min x.toNat d := ⟨_, rfl⟩
 have hmd : m ≤ d := by omega
 have hcut2 := fun w => run_cut_to (P := Tryz.prog) w (cutA A k c 1) d (c - k) m Tryz.underlying49 hi8 hmd (by omega)
 have hdk : k + d - k = d := by omega
 rw [hdk] at hcut
 have HR : Hid (Rd w.drew w.heap.size (cutA A k c 1) (u8s ((f.bytes.drop k).take m))) := hide (by
  have := (hrd.cutA (k := k) (c := c) (by omega) (by omega)).take m
  rw [u8s_take] at this
  exact this)
 have HL : Hid (m = ((f.bytes.drop k).take m).length) := hide (by simp; omega)
 have HL2 : Hid (((f.bytes.drop k).take m).length ≤ 1000000000) := hide (by rw [← HL.out]; omega)
 have HM := hide hm
 have HDD := hide hdd
 have hcase : (x ≤ (d : Int) ∧ x = (m : Int)) ∨ (¬ x ≤ (d : Int) ∧ (d : Int) < x ∧ d = m) := by omega
 clear h hn h4 hfl hbb hF hvb hrd hi8 hs8 hm hdk hdd hk hbl
 rcases hcase with ⟨hc1, rfl⟩ | ⟨hc1, hc2, rfl⟩
 ·have hc3 : ¬ (d : Int) < (m : Int) := by omega
  have hc4 : ¬ d < m := by omega
  have hc5 : min m d = m := by omega
  go_enter Tryz.func82, Tryz.ntmps82
  go_wp2_with (go_at_call 38; refine HFD.out.mono ?_; rintro e w1 ⟨rfl, rfl⟩)
  go_still_tail 16, (by kernel_rfl)
  go_wp2_with (go_at_call 76; refine (clone8_any _ _ _ w.heap.size _ _ HR.out HL.out (Nat.le_refl _) HL2.out).mono ?_; rintro e w2 ⟨A2, c2, rfl, hb2, hg2⟩; have HB2 := hide hb2; have HG2 := hide hg2; clear hb2 hg2)
  go_ret2
  refine ⟨A2, c2, m, rfl, by rw [HM.out]; have := HDD.out; omega, ?_, ⟨HG2.out.os, HG2.out.tape, HG2.out.output, HG2.out.size, HG2.out.block⟩⟩
  have e : (f.bytes.drop k).take (m : Int).toNat = (f.bytes.drop k).take m := rfl
  rw [e]
  exact HB2.out
 ·go_enter Tryz.func82, Tryz.ntmps82
  go_wp2_with (go_at_call 38; refine HFD.out.mono ?_; rintro e w1 ⟨rfl, rfl⟩)
  go_still_tail 16, (by kernel_rfl)
  go_wp2_with (go_at_call 76; refine (clone8_any _ _ _ w.heap.size _ _ HR.out HL.out (Nat.le_refl _) HL2.out).mono ?_; rintro e w2 ⟨A2, c2, rfl, hb2, hg2⟩; have HB2 := hide hb2; have HG2 := hide hg2; clear hb2 hg2)
  go_ret2
  refine ⟨A2, c2, d, rfl, by rw [HM.out]; have := HDD.out; omega, ?_, ⟨HG2.out.os, HG2.out.tape, HG2.out.output, HG2.out.size, HG2.out.block⟩⟩
  have e : (f.bytes.drop k).take x.toNat = (f.bytes.drop k).take d := by
   have := HDD.out
   rw [List.take_of_length_le (by simp; omega), List.take_of_length_le (by simp; omega)]
  rw [e]
  exact HB2.out
end Go.Proofs.YtmcmlkglkpbnpaaGreat
namespace Go.Proofs.YtmcmlkglkpbnpaaGreat
open Go.RowKit
set_option maxHeartbeats 1000000 in
theorem find_nil (n : Int) (w : World) : Calls Tryz.prog 38 #[.pointer none, .int .i64 n] w fun e w' => e = .returned (.tuple #[.pointer none, .int .i64 7]) ∧ w = w' := by
 go_enter Tryz.func38, Tryz.ntmps38
 go_wp2_with (go_at_call 73; refine (ready_nil _ _ _ _).mono ?_; rintro e w1 ⟨rfl, rfl⟩)
 go_ret2
 exact ⟨rfl, rfl⟩
set_option maxHeartbeats 1000000 in
theorem append_nil (n : Int) (A : Option Addr) (m c : Nat) (w : World) : Calls Tryz.prog 15 #[.pointer none, .int .i64 n, .slice A m c] w fun e w' => e = .returned (.int .i64 7) ∧ w = w' := by
 go_enter Tryz.func15, Tryz.ntmps15
 go_wp2_with (go_at_call 38; refine (find_nil _ _).mono ?_; rintro e w1 ⟨rfl, rfl⟩)
 go_ret
 exact ⟨rfl, rfl⟩
end Go.Proofs.YtmcmlkglkpbnpaaGreat
