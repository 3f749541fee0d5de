/-
  What a crash leaves of a file: file.tear.
-/
import Derived.Test.YtccapgcpdehicaaQag

namespace Go.Proofs.Ytccapgcpdehicaa
open Go.RowKit

/-- An element of what waits. -/
theorem WsAt.elem {w : World} {own rd : Nat → Prop} {A : Option Addr} {n c : Nat} {ws : List Wr} (h : WsAt w own rd (.slice A n c) ws) {i : Nat} (hi : i < ws.length) :
    ∃ b vp, A = some ⟨b, 0, none⟩ ∧ w.cell? ⟨b, i * 3, none⟩ = some (.bool ws[i].cut) ∧ w.cell? ⟨b, i * 3 + 1, none⟩ = some (.int .i64 (ws[i].pos : Int)) ∧ w.cell? ⟨b, i * 3 + 2, none⟩ = some vp ∧ BsAt w rd vp ws[i].p := by
  obtain ⟨l, rfl, h2, h3, h4⟩ := h
  rw [List.length_map] at hi
  rcases h2.2 with ⟨e, h0⟩ | ⟨b, cap, cur, hv, h5, h6, h7⟩
  · omega
  · injection hv with hA _ _
    obtain ⟨w1, w2, w3⟩ := wcells_at l i hi
    obtain ⟨_, _, h8, h9⟩ := h7
    have hc : ∀ j, j < l.length * 3 → w.cell? ⟨b, j, none⟩ = (wcells l)[j]? := fun j hj => by
      rw [blk_cell h6, ← h9, List.getElem?_take, if_pos hj, Array.getElem?_toList]
    refine ⟨b, l[i].2, hA, ?_, ?_, ?_, ?_⟩
    · rw [hc _ (by omega), w1]; simp
    · rw [hc _ (by omega), w2]; simp
    · rw [hc _ (by omega), w3]
    · have := h4 _ (List.getElem_mem hi)
      simpa using this

def tearK (f : Fl) (n : Int) : Nat := (clampI n f.waits.length).toNat
theorem tearK_le (f : Fl) (n : Int) : tearK f n ≤ f.waits.length := by unfold tearK clampI; omega
def tearF (f : Fl) (n b : Int) : List UInt8 :=
  let xs := (f.waits.take (tearK f n)).foldl doW f.safe
  match f.waits[tearK f n]? with
  | some x => if x.cut then xs else doW xs ⟨false, x.pos, x.p.take (clampI b x.p.length).toNat⟩
  | none => xs

theorem run_cut_to {P : Program} (w : World) {t e : TypeId} {i : TypeInfo} (A : Option Addr) (n c k : Nat) (ht : P.underlying t = some (.slice e)) (hi : P.info? e = some i) (hk : k ≤ n) (hn : n ≤ c) :
    (Instr.slice t (.slice A n c) none (some (.int .i64 (k : Int))) none).run P w = .ok (.slice A k c) w := by
  have h2 : k ≤ c := by omega
  simp [Instr.slice, Instr.sliceBounds, run_underlying ht, Instr.sliceBound, asIntOf, h2, sizeOf, typeInfo, hi, Result.andThen]
  intro _
  cases A with
  | none => rfl
  | some x => simp only [Option.map_some]; congr 1

theorem within_still (n m : Int) (k : Nat) (h : clampI n m = (k : Int)) (w : World) : Calls Try.prog 35 #[.int .i64 n, .int .i64 m] w fun e w' => e = .returned (.int .i64 (k : Int)) ∧ w' = w :=
  (within_any n m w).mono fun _ _ ⟨h1, h2⟩ => ⟨by rw [h1, h], h2.symm⟩

/-- Half way through tear: the bytes are xs. -/
def TearAt (g : Nat) (vs vw : Value) (own rd : Nat → Prop) (ws : List Wr) (X : Array Value) (w : World) (xs : List UInt8) (wr : World) : Prop :=
  ∃ vb sh, FlB wr g ⟨false, vb, vs, sh, vw⟩ ∧ BsAt wr (ext own w wr) vb xs ∧ WsAt wr (ext own w wr) rd vw ws ∧ wr.heap[w.heap.size]? = some (.cells X 50 (0, 0)) ∧ Turned (fun i => i = g ∨ own i) w wr

theorem TearAt.alloc {g : Nat} {vs vw : Value} {own rd : Nat → Prop} {ws : List Wr} {X : Array Value} {w : World} {xs : List UInt8} {wr : World} (h : TearAt g vs vw own rd ws X w xs wr) (O : Obj) : TearAt g vs vw own rd ws X w xs (wr.alloc O) := by
  obtain ⟨vb, sh, h1, h2, h3, h4, h5⟩ := h
  have hs := h5.size
  refine ⟨vb, sh, h1.alloc O, (h2.alloc O).mono fun i hi => ?_, (h3.keep fun i hi hl => heap_alloc_old wr O hl).mono (fun i _ hi => ?_) (fun _ _ h => h), (heap_alloc_old wr O (blk_lt h4)).trans h4, h5.alloc O⟩
  · rcases hi with hi | ⟨h6, h7⟩
    · exact .inl hi
    · exact .inr ⟨h6, by simp; omega⟩
  · rcases hi with hi | ⟨h6, h7⟩
    · exact .inl hi
    · exact .inr ⟨h6, by simp; omega⟩
theorem TearAt.drewN {g : Nat} {vs vw : Value} {own rd : Nat → Prop} {ws : List Wr} {X : Array Value} {w : World} {xs : List UInt8} {wr : World} (h : TearAt g vs vw own rd ws X w xs wr) (k : Nat) : TearAt g vs vw own rd ws X w xs (wr.drewN k) := by
  obtain ⟨vb, sh, h1, h2, h3, h4, h5⟩ := h
  exact ⟨vb, sh, h1, h2, h3, h4, h5.drewN k⟩

theorem TearAt.do_ {g : Nat} {vs vw : Value} {own rd : Nat → Prop} {ws : List Wr} {X : Array Value} {w : World} {xs : List UInt8} {wr : World} (h : TearAt g vs vw own rd ws X w xs wr) {x : Wr} {vp : Value} (hp : PAt wr rd vp x.p) (hk : x.pos ≤ xs.length) (hlen : xs.length + x.p.length ≤ 1000000000)
    (hdis : ∀ i, rd i → ¬ own i ∧ i < w.heap.size) (hof : own g) (hg : g < w.heap.size) :
    Calls Try.prog 59 #[.pointer (some ⟨g, 0, none⟩), .agg #[.bool x.cut, .int .i64 (x.pos : Int), vp]] wr fun e w' => e = .returned (.tuple #[]) ∧ TearAt g vs vw own rd ws X w (doW xs x) w' := by
  obtain ⟨vb, sh, h1, h2, h3, h4, h5⟩ := h
  have hs := h5.size
  have hne : ∀ i, rd i → ¬ ext own w wr i := fun i hi he => by
    rcases he with he | he
    · exact (hdis i hi).1 he
    · have := (hdis i hi).2
      omega
  refine (do_any g _ (ext own w wr) rd xs x vp wr h1 h2 hp hk (fun i hi => ⟨hne i hi, Nat.lt_of_lt_of_le (hdis i hi).2 hs⟩) hlen).mono ?_
  rintro e w' ⟨rfl, vb', sh', hf, hb, hT, _⟩
  have hs' := hT.size
  have up : ∀ i, ext own w wr i → ext own w w' i := fun i hi => by
    rcases hi with hi | ⟨h6, h7⟩
    · exact .inl hi
    · exact .inr ⟨h6, by omega⟩
  refine ⟨rfl, vb', sh', hf, hb.mono fun i hi => ?_, (h3.do_stay hT h1 (.inl hof) hne).mono (fun i _ hi => up i hi) (fun _ _ h => h), do_stay hT h4 (by omega) (by decide), h5.trans hT fun i hi hm => ?_⟩
  · rcases hi with hi | ⟨h6, h7⟩
    · exact up i hi
    · exact .inr ⟨by omega, h7⟩
  · rcases hm with hm | ⟨hm, _⟩
    · exact .inl hm
    · rcases hm with hm | hm
      · exact .inr hm
      · omega

theorem TearAt.settle {g : Nat} {vs vw : Value} {own rd : Nat → Prop} {ws : List Wr} {X : Array Value} {w : World} {xs : List UInt8} {wr : World} (h : TearAt g vs vw own rd ws X w xs wr) (hof : own g) :
    Calls Try.prog 31 #[.pointer (some ⟨g, 0, none⟩)] wr fun e w' => e = .returned (.tuple #[]) ∧ FileAt w' (ext own w w') rd g ⟨false, xs, xs, []⟩ ∧ Turned (fun i => i = g ∨ own i) w w' := by
  obtain ⟨vb, sh, h1, h2, h3, h4, h5⟩ := h
  refine (fsettle_any g _ (ext own w wr) xs wr h1 (.inl hof) h2).mono ?_
  rintro e w' ⟨rfl, hf, hg⟩
  refine ⟨rfl, (hf rd).mono (fun i _ hi => ?_) (fun _ _ h => h), h5.trans (Turned.of_gb (M := fun i => i = g) hg (fun i e => by injection e with e; exact e.symm)) fun i _ hi => .inl hi⟩
  rcases hi with hi | ⟨h6, h7⟩
  · exact .inl hi
  · exact .inr ⟨h6, Nat.lt_of_lt_of_le h7 hg.size⟩

set_option maxHeartbeats 4000000 in
set_option maxRecDepth 100000 in
theorem tear_any (g : Nat) (f : Fl) (own rd : Nat → Prop) (tf n b : Int) (w : World) (h : FileAt w own rd g f)
    (hdis : ∀ i, rd i → ¬ own i ∧ i < w.heap.size) (hwl : f.waits.length ≤ 1000000)
    (hok : ∀ k (hk : k < f.waits.length), f.waits[k].pos ≤ ((f.waits.take k).foldl doW f.safe).length ∧ ((f.waits.take k).foldl doW f.safe).length + f.waits[k].p.length ≤ 1000000000) :
    Calls Try.prog 37 #[.pointer (some ⟨g, 0, none⟩), .agg #[.int .i64 tf, .int .i64 n, .int .i64 b]] w fun e w' =>
      e = .returned (.tuple #[]) ∧ FileAt w' (ext own w w') rd g ⟨false, tearF f n b, tearF f n b, []⟩ ∧ Turned (fun i => i = g ∨ own i) w w' := by
  obtain ⟨v, hfl, hof, hgo, hbb, hbs, hsep, hws⟩ := h
  obtain ⟨A, c, hvw, hnc, hcm⟩ := hws.form
  have hlt := hfl.lt
  have hgx : g ≠ w.heap.size := by omega
  have hgx' : w.heap.size ≠ g := by omega
  have q0 := hfl.c0
  have f0 := hfl.fr 0
  have q1 := hfl.c1
  have f1 := hfl.fr 1
  have q2 := hfl.c2
  have q4 := hfl.c4
  rw [hvw] at q4
  obtain ⟨As, cs, hvs, _⟩ := hbs.form
  rw [hvs] at q2
  obtain ⟨Ab, cb, hvb, _⟩ := hbb.form
  rw [hvb] at q1
  have HKE : Hid (clampI n f.waits.length = (tearK f n : Int)) := hide (by unfold tearK clampI; omega)
  have hkl := tearK_le f n
  have HFL := hide hfl
  go_enter Try.func37, Try.ntmps37
  go_wp2_with (go_at_call 35; refine (within_any _ _ _).mono ?_; rintro e w1 ⟨rfl, rfl⟩; rw [HKE.out])
  have hfa : FlB (w.alloc (.cells #[.int .i64 tf, .int .i64 n, .int .i64 b] 50)) g v := hfl.alloc _
  have hT0 : TearAt g v.vs v.vw own rd f.waits #[.int .i64 tf, .int .i64 n, .int .i64 b] w f.safe (((w.setCell ⟨g, 0, none⟩ (.bool false)).setCell ⟨g, 1, none⟩ (.slice As f.safe.length cs)).alloc (.cells #[.int .i64 tf, .int .i64 n, .int .i64 b] 50)) := by
    have hg : w.grownBy ((w.setCell ⟨g, 0, none⟩ (.bool false)).setCell ⟨g, 1, none⟩ (.slice As f.safe.length cs)) (some g) := gb_setCell (gb_setCell (gb_refl w (some g)) (p := ⟨g, 0, none⟩) (.inl rfl) (.bool false)) (p := ⟨g, 1, none⟩) (.inl rfl) _
    have hz : ((w.setCell ⟨g, 0, none⟩ (.bool false)).setCell ⟨g, 1, none⟩ (.slice As f.safe.length cs)).heap.size = w.heap.size := by simp [World.setCell]
    have hx := heap_alloc_new ((w.setCell ⟨g, 0, none⟩ (.bool false)).setCell ⟨g, 1, none⟩ (.slice As f.safe.length cs)) (.cells #[.int .i64 tf, .int .i64 n, .int .i64 b] 50)
    rw [hz] at hx
    refine ⟨.slice As f.safe.length cs, v.shared, (((hfl.set0 false).set1 _).alloc _), ?_, ?_, hx, (Turned.of_gb (M := fun i => i = g ∨ own i) hg (fun i e => by injection e with e; exact .inl e.symm)).alloc _⟩
    · have hb0 := hbs
      rw [hvs] at hb0
      exact ((hb0.other hg hfl (by decide)).alloc _).mono fun i hi => Or.inl hi
    · refine ((hws.do_stay (Turned.of_gb (M := fun i => i = g ∨ (own i ∧ Is8 w i)) hg (fun i e => by injection e with e; exact .inl e.symm)) hfl hof (fun i hi => (hdis i hi).1)).keep fun i hi hl => heap_alloc_old _ _ hl).mono (fun i _ hi => .inl hi) (fun _ _ h => h)
  generalize ((w.setCell ⟨g, 0, none⟩ (.bool false)).setCell ⟨g, 1, none⟩ (.slice As f.safe.length cs)).alloc (.cells #[.int .i64 tf, .int .i64 n, .int .i64 b] 50) = w1 at *
  have HT0 := hide hT0
  have HDIS := hide hdis
  have HOK := hide hok
  clear hT0 hdis hok hws hbs hbb hsep hfa q0 f0 q1 f1 q2 q4 hfl
  rw [hvw] at HT0
  go_loopw [32] (fun i wr => ∃ j : Nat, i = .int .i64 (j : Int) ∧ j ≤ tearK f n ∧ TearAt g v.vs (.slice A f.waits.length c) own rd f.waits #[.int .i64 tf, .int .i64 n, .int .i64 b] w ((f.waits.take j).foldl doW f.safe) wr) (fun i _ => tearK f n - (intOf i).toNat)
  case atStart => exact ⟨0, rfl, Nat.zero_le _, HT0.out⟩
  case round =>
    obtain ⟨j, rfl, hj, hT⟩ := hrel
    have HT := hide hT
    clear hT
    by_cases hlt2 : j < tearK f n
    · have hjl : j < f.waits.length := by omega
      obtain ⟨vb, sh, h1, h2, h3, h4, h5⟩ := HT.out
      obtain ⟨bw, vp, rfl, c0, c1, c2, hp⟩ := h3.elem hjl
      obtain ⟨Ap, cp, rfl, _⟩ := hp.form
      have HP := hide hp
      clear h1 h2 h3 h4 h5 hp
      obtain ⟨k1, k2⟩ := HOK.out j hjl
      have HD := hide (TearAt.do_ (HT.out.alloc (.cells #[.bool f.waits[j].cut, .int .i64 (f.waits[j].pos : Int), .slice Ap f.waits[j].p.length cp] 116)) (HP.out.alloc _).put k1 k2 HDIS.out hof hlt)
      clear k1 k2
      go_wp2_with (go_at_call 59; refine HD.out.mono ?_; rintro e w2 ⟨rfl, hT2⟩; have HT2 := hide hT2; clear hT2)
      go_roundw
      case rel =>
        refine ⟨j + 1, by go_num, by omega, ?_⟩
        have h := HT2.out
        rw [List.take_succ_eq_append_getElem hjl, List.foldl_append]
        exact h
      case measure => simp [intOf]; omega
    · obtain rfl : j = tearK f n := by omega
      by_cases hkn : tearK f n < f.waits.length
      · obtain ⟨vb, sh, h1, h2, h3, h4, h5⟩ := HT.out
        obtain ⟨bw, vp, rfl, c0, c1, c2, hp⟩ := h3.elem hkn
        obtain ⟨Ap, cp, rfl, hpc, _⟩ := hp.form
        have HP := hide hp
        have HE : Hid (f.waits[tearK f n]? = some f.waits[tearK f n]) := hide (List.getElem?_eq_getElem hkn)
        have b2 : wr.cell? ⟨w.heap.size, 2, none⟩ = some (.int .i64 b) := by rw [blk_cell h4]; rfl
        clear h1 h2 h3 h4 h5 hp
        cases hcut : f.waits[tearK f n].cut
        · rw [hcut] at c0
          go_wp2_with fail
          obtain ⟨m, hm⟩ : ∃ m : Nat, m = (clampI b f.waits[tearK f n].p.length).toNat := ⟨_, rfl⟩
          have HMC : Hid (clampI b f.waits[tearK f n].p.length = (m : Int)) := hide (by rw [hm]; unfold clampI; omega)
          have hml : m ≤ f.waits[tearK f n].p.length := by rw [hm]; unfold clampI; omega
          have HM := hide hm
          clear hm
          have hX := heap_alloc_new wr (.cells #[.bool false, .int .i64 (f.waits[tearK f n].pos : Int), .slice Ap f.waits[tearK f n].p.length cp] 116)
          have HT2 := hide (HT.out.alloc (.cells #[.bool false, .int .i64 (f.waits[tearK f n].pos : Int), .slice Ap f.waits[tearK f n].p.length cp] 116))
          have HP2 := hide (HP.out.alloc (.cells #[.bool false, .int .i64 (f.waits[tearK f n].pos : Int), .slice Ap f.waits[tearK f n].p.length cp] 116))
          clear b2 c0 c1 c2
          generalize wr.alloc (.cells #[.bool false, .int .i64 (f.waits[tearK f n].pos : Int), .slice Ap f.waits[tearK f n].p.length cp] 116) = w2 at *
          have d1 : w2.cell? ⟨wr.heap.size, 1, none⟩ = some (.int .i64 (f.waits[tearK f n].pos : Int)) := by rw [blk_cell hX]; rfl
          have d2 : w2.cell? ⟨wr.heap.size, 2, none⟩ = some (.slice Ap f.waits[tearK f n].p.length cp) := by rw [blk_cell hX]; rfl
          have d3 : w2.cell? ⟨w.heap.size, 2, none⟩ = some (.int .i64 b) := by
            obtain ⟨_, _, _, _, _, h4, _⟩ := HT2.out
            rw [blk_cell h4]; rfl
          obtain ⟨i8, hi8, _⟩ := info_parts Try.info8
          have hsl := fun w => run_cut_to (P := Try.prog) w Ap f.waits[tearK f n].p.length cp m Try.underlying32 hi8 hml hpc
          clear hX hi8
          go_still_tail 13, (by kernel_rfl)
          still_call (within_still _ _ m HMC.out _)
          repeat still_step
          refine wpStill_nil ?_
          have hpp : PAt w2 rd (.slice Ap m cp) (f.waits[tearK f n].p.take m) := HP2.out.short hml
          obtain ⟨k1, k2⟩ := HOK.out _ hkn
          have HD := hide (TearAt.do_ (x := ⟨false, f.waits[tearK f n].pos, f.waits[tearK f n].p.take m⟩) (HT2.out.drewN 1) (vp := .slice Ap m cp) hpp k1 (by simp; omega) HDIS.out hof hlt)
          clear k1 k2 hpp hsl d1 d2 d3
          go_wp2_with (first
            | (go_at_call 59; refine HD.out.mono ?_; rintro e w3 ⟨rfl, hT3⟩; have HT3 := hide hT3; clear hT3)
            | (go_at_call 31; refine (TearAt.settle HT3.out hof).mono ?_; rintro e w4 ⟨rfl, hT4⟩; have HT4 := hide hT4; clear hT4))
          go_end0
          refine ⟨rfl, ?_⟩
          have e : tearF f n b = doW ((f.waits.take (tearK f n)).foldl doW f.safe) ⟨false, f.waits[tearK f n].pos, f.waits[tearK f n].p.take m⟩ := by
            unfold tearF
            rw [HE.out, HM.out]
            simp [hcut]
          rw [e]
          exact HT4.out
        · rw [hcut] at c0
          go_wp2_with (go_at_call 31; refine (TearAt.settle HT.out hof).mono ?_; rintro e w2 ⟨rfl, hT2⟩; have HT2 := hide hT2; clear hT2)
          go_end0
          refine ⟨rfl, ?_⟩
          have e : tearF f n b = (f.waits.take (tearK f n)).foldl doW f.safe := by unfold tearF; rw [HE.out]; simp [hcut]
          rw [e]
          exact HT2.out
      · have hke : tearK f n = f.waits.length := by omega
        go_wp2_with (go_at_call 31; refine (TearAt.settle HT.out hof).mono ?_; rintro e w2 ⟨rfl, hT2⟩; have HT2 := hide hT2; clear hT2)
        go_end0
        refine ⟨rfl, ?_⟩
        have e : tearF f n b = (f.waits.take (tearK f n)).foldl doW f.safe := by unfold tearF; rw [List.getElem?_eq_none (by omega)]
        rw [e]
        exact HT2.out

end Go.Proofs.Ytccapgcpdehicaa
