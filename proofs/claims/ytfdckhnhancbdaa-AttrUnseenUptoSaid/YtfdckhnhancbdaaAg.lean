/-
  attr's Index.add.
-/
import Derived.Test.YtfdckhnhancbdaaAf
namespace Go.Proofs.Ytfdckhnhancbdaa
open Go.RowKit
attribute [local go_sem ↓] Go.wp_at_zero Go.wp_at_succ

theorem rUpon_entry {ρ : Gr} {P : Program} {w : World} {o : Oper} {a : Act} {m k : Operand} {t : TypeId} (ho : o.op = Op.mapEntry t m k) {mv kv : Value} (hm : a.eval m = mv) (hk : a.eval k = kv) {F : Fct}
    (hrun : ∃ y w', (Instr.mapEntry t mv kv).run P w = .ok y w' ∧ ρ.R w w' ∧ F y w') : rUpon ρ P w F ((execOp a.eval o).run P w) := by
  obtain ⟨y, w', hr, h1, h2⟩ := hrun
  simp [execOp, ho, hm, hk, hr, Result.andThen]
  exact ⟨h1, h2⟩
theorem wpList_estore {P : Program} {w : World} {ops : Array Oper} {rest : List Oper} {o : Oper} {a : Act} {Q : Exit → Act → World → Prop} (hg : o.guard = none) (m s v : Operand) (t : TypeId) (hop : o.op = Op.entryStore t m s v) {mv sv uv : Value} (hm : a.eval m = mv) (hs : a.eval s = sv) (hv : a.eval v = uv) (G : World → Prop)
    (hrun : ∃ w', (Instr.entryStore t mv sv uv).run P w = .ok () w' ∧ G w') (hK : ∀ w', G w' → wpList P ops Q rest (a.put o.dst undef) w') : wpList P ops Q (o :: rest) a w := by
  refine wpList_plain hg fun K' hK' => ?_
  obtain ⟨w', hr, h1⟩ := hrun
  unfold Oper.wp
  simp [execOp, hop, hm, hs, hv, hr, Result.andThen]
  exact hK' _ _ (hK w' h1)
theorem one_cells {w : World} {b : Nat} {u : Value} {ty : TypeId} (h : w.heap[b]? = some (.cells #[u] ty (0, 0))) : ∀ j x, [u][j]? = some x → w.cell? ((⟨b, 0, none⟩ : Addr).add j) = some x := by
  intro j x hx
  have e : (⟨b, 0, none⟩ : Addr).add j = ⟨b, j, none⟩ := by unfold Addr.add; split <;> simp_all
  rw [e, blk_cell h]
  simpa using hx
theorem aget_mem {κ ν : Type} [DecidableEq κ] {l : List (κ × ν)} {k : κ} {y : ν} (h : aget l k = some y) : (k, y) ∈ l := by
  obtain ⟨a, b, _, _, h3⟩ := aput_form l k
  rcases h3 with ⟨h3, _⟩ | ⟨y', h3, h4⟩
  · rw [h] at h3; cases h3
  · rw [h] at h3; cases h3; rw [h4]; simp
theorem Try.infoN : (Try.prog.info? 3).map (fun i => (i.zero, i.size, i.bytes)) = some (some (.int .i64 0), 1, 8) := by kernel_rfl
/-- What an index is behind an element more: its places' rows, its blocks. -/
theorem IxB.step {w w' : World} {base g : Nat} {mark t : Int} {v v2 : Value} {mb : Nat} {tr : Tr} {es : List (Int × ByteArray)} {f : List Nat} {k : Int × ByteArray} {y : Value × List Nat} {u : Value} {n m : Nat} (h : IxB w base g mark t v mb tr es f)
    (hy : y = (aget tr k).getD (.slice none 0 0, []))
    (hn : w.heap.size = n) (hu : u.ownBlock = y.1.ownBlock ∨ ∃ b, u.ownBlock = some b ∧ n ≤ b) (hum : ∀ b, u.ownBlock = some b → b < m) (hnm : n ≤ m) (hv : v2.ownBlock = v.ownBlock ∨ ∃ b, v2.ownBlock = some b ∧ m ≤ b)
    (hcol : ColB w' base g 77 [.map (some mb)] mark t v2 (es ++ [k]) (runsK (es ++ [k])) (fallsK (es ++ [k])))
    (hmap : MapK encP w' mb (aput (trV tr) k u)) (hrow : w'.ownsRow base 3 1 u (y.2 ++ [es.length]).length (nts (y.2 ++ [es.length])))
    (hkeep : ∀ b ∈ f, b ≠ g → b ≠ mb → v.ownBlock ≠ some b → y.1.ownBlock ≠ some b → w'.heap[b]? = w.heap[b]?) :
    ∃ f', IxB w' base g mark t v2 mb (aput tr k (u, y.2 ++ [es.length])) (es ++ [k]) f' ∧ ∀ x ∈ f', x ∈ f ∨ n ≤ x := by
  subst hn
  obtain ⟨a, b, h1, h2, h3⟩ := aput_form tr k
  have htb : trB tr = trB a ++ (y.1.ownBlock.toList ++ trB b) := by
    rcases h3 with ⟨h3, h4, h5⟩ | ⟨y', h3, h4⟩
    · rw [hy, h3, h4, h5]; simp [Value.ownBlock, trB]
    · rw [hy, h3, h4, trB_app, trB_cons]; rfl
  have hpl : y.2 = places es k := by
    rw [hy, ← h.pl.get k, trL_get]
    cases aget tr k <;> rfl
  have hnd := h.nd
  have hlt := h.lt
  have hf := h.foot
  refine ⟨g :: mb :: (v2.ownBlock.toList ++ trB (aput tr k (u, y.2 ++ [es.length]))), ⟨hcol, by rw [trV_put]; exact hmap, ?_, ?_, rfl, ?_, h.bg⟩, ?_⟩
  · intro x hx
    rw [h1] at hx
    have hx' : x = (k, (u, y.2 ++ [es.length])) ∨ x ∈ a ++ b := by
      rcases List.mem_append.1 hx with hx | hx
      · exact .inr (by simp [hx])
      · rcases List.mem_cons.1 hx with hx | hx
        · exact .inl hx
        · exact .inr (by simp [hx])
    rcases hx' with rfl | hx'
    · exact hrow
    · refine own_keep (h.rows x (h2 x hx')) fun c hc => ?_
      have hcx : c ∈ x.2.1.ownBlock.toList := by simp [hc]
      have hca : c ∈ trB a ∨ c ∈ trB b := by
        rcases List.mem_append.1 hx' with hx' | hx'
        · exact .inl (List.mem_flatMap.2 ⟨x, hx', hcx⟩)
        · exact .inr (List.mem_flatMap.2 ⟨x, hx', hcx⟩)
      rw [hf, htb] at hnd
      have hcf : c ∈ f := by
        rw [hf, htb]
        rcases hca with hca | hca <;> simp [hca]
      simp only [List.nodup_cons, List.mem_cons, List.mem_append, not_or, List.nodup_append] at hnd
      obtain ⟨⟨_, _, g2, g3, g4⟩, ⟨m1, m2, m3, m4⟩, v1, ⟨ta, ⟨yt, tb, hyb⟩, hab⟩, hvt⟩ := hnd
      refine hkeep c hcf ?_ ?_ ?_ ?_
      · rintro rfl
        rcases hca with hca | hca
        · exact g2 hca
        · exact g4 hca
      · rintro rfl
        rcases hca with hca | hca
        · exact m2 hca
        · exact m4 hca
      · intro e
        rcases hca with hca | hca
        · exact hvt c (by simp [e]) c (.inl hca) rfl
        · exact hvt c (by simp [e]) c (.inr (.inr hca)) rfl
      · intro e
        rcases hca with hca | hca
        · exact hab c hca c (.inl (by simp [e])) rfl
        · exact hyb c (by simp [e]) c hca rfl
  · rw [trL_put]
    show PlOK (es ++ [k]) (aput (trL tr) k (y.2 ++ [es.length]))
    rw [hpl]
    exact h.pl.snoc k
  · rw [h1, trB_app, trB_cons]
    rw [hf, htb] at hnd hlt
    have e1 : g :: mb :: (v.ownBlock.toList ++ (trB a ++ (y.1.ownBlock.toList ++ trB b))) = (g :: mb :: (v.ownBlock.toList ++ trB a)) ++ (y.1.ownBlock.toList ++ trB b) := by simp
    rw [e1] at hnd hlt
    have s1 := nodup_swap hnd (fun x hx => (hlt x hx).2) hu
    have e2 : (g :: mb :: (v.ownBlock.toList ++ trB a)) ++ (u.ownBlock.toList ++ trB b) = [g, mb] ++ (v.ownBlock.toList ++ (trB a ++ (u.ownBlock.toList ++ trB b))) := by simp
    have hl2 : ∀ x ∈ (g :: mb :: (v.ownBlock.toList ++ trB a)) ++ (u.ownBlock.toList ++ trB b), x < m := by
      intro x hx
      rcases List.mem_append.1 hx with hx | hx
      · have := (hlt x (List.mem_append_left _ hx)).2
        omega
      · rcases List.mem_append.1 hx with hx | hx
        · exact hum x (by simpa using hx)
        · have := (hlt x (List.mem_append_right _ (List.mem_append_right _ hx))).2
          omega
    rw [e2] at s1 hl2
    have s2 := nodup_swap s1 hl2 hv
    simpa using s2
  · intro x hx
    rw [h1, trB_app, trB_cons] at hx
    rw [hf, htb]
    simp only [List.mem_cons, List.mem_append] at hx ⊢
    rcases hx with hx | hx | hx | hx | hx | hx
    · exact .inl (.inl hx)
    · exact .inl (.inr (.inl hx))
    · rcases hv with e | ⟨c, e, hc⟩
      · rw [e] at hx; exact .inl (.inr (.inr (.inl hx)))
      · right
        rw [e] at hx
        have : x = c := by simpa using hx
        omega
    · exact .inl (.inr (.inr (.inr (.inl hx))))
    · rcases hu with e | ⟨c, e, hc⟩
      · have hx : x ∈ u.ownBlock.toList := hx
        rw [e] at hx; exact .inl (.inr (.inr (.inr (.inr (.inl hx)))))
      · right
        have hx : x ∈ u.ownBlock.toList := hx
        rw [e] at hx
        have : x = c := by simpa using hx
        omega
    · exact .inl (.inr (.inr (.inr (.inr (.inr hx)))))

/-- What add leaves. -/
def AddP (base g : Nat) (f : List Nat) (mark t : Int) (es : List (Int × ByteArray)) (w : World) (e : Ending) (w' : World) : Prop :=
  ∃ f', e = .returned (.tuple #[]) ∧ IxF w' base f' g mark t es ∧ Wro w w' f ∧ ∀ x ∈ f', x ∈ f ∨ w.heap.size ≤ x
set_option maxHeartbeats 4000000 in
set_option maxRecDepth 100000 in
theorem add_any (base g : Nat) (f : List Nat) (mark t : Int) (es l : List (Int × ByteArray)) (A : Option Addr) (n c B : Nat) (w : World) (h : IxF w base f g mark t es) (hr : Rd w B A (kcs l)) (hB : B ≤ w.heap.size) (hn : l.length = n)
    (hA : ∀ ad, A = some ad → l ≠ [] → ad.block ∉ f) (hlen : es.length + l.length ≤ 200000) (hb : base ≤ w.heap.size) :
    Calls Try.prog 34 #[.pointer (some ⟨g, 0, none⟩), .slice A n c] w (AddP base g f mark t (es ++ l) w) := by
  subst hn
  have HH := hide h
  have HR := hide hr
  have HB := hide hB
  have HA := hide hA
  have HLN := hide hlen
  have HBS := hide hb
  have HFL := hide h.lt
  clear h hr hB hA hlen hb
  go_enter Try.func34, Try.ntmps34
  go_wp2_with fail
  go_loopw [8] (fun i wr => ∃ (k : Nat) (f' : List Nat), k ≤ l.length ∧ i = .int .i64 (k : Int) ∧ IxF wr base f' g mark t (es ++ l.take k) ∧ Wro w wr f ∧ ∀ x ∈ f', x ∈ f ∨ w.heap.size ≤ x) (fun i _ => l.length - (intOf i).toNat)
  case atStart => exact ⟨0, f, Nat.zero_le _, rfl, by simpa using HH.out, Wro.refl_ w _, fun x hx => .inl hx⟩
  case round =>
    obtain ⟨k, f', hk, rfl, hI, hW, hF⟩ := hrel
    by_cases hlt : k < l.length
    · have hrd : Rd wr B A (kcs l) := hW.rd HR.out (fun ad ha hne hm => by
        have hl0 : l ≠ [] := by rintro rfl; exact hne rfl
        exact HA.out ad ha hl0 hm) HB.out
      obtain ⟨bb, o, rfl, hbb, hcell⟩ := hrd.key (by omega)
      obtain ⟨k0, k1⟩ := hcell k hlt
      obtain ⟨kk, hkk⟩ : ∃ kk, kk = l[k] := ⟨_, rfl⟩
      rw [← hkk] at k0 k1
      have HK := hide hkk
      obtain ⟨v, mb, tr, hI⟩ := hI
      have HI := hide hI
      have HWR := hide hW
      have HFF := hide hF
      have hkl : k ≤ 200000 := by have := HLN.out; omega
      clear hrd hcell hkk hI hW hF hbb
      go_wp2_with fail
      obtain ⟨wa, hwa⟩ : ∃ wa, wa = wr.alloc (.cells #[.int .i64 kk.1, .string kk.2] 89) := ⟨_, rfl⟩
      have hga : wr.grownBy wa none := by rw [hwa]; exact gb_alloc (gb_refl wr none) _
      have hsa : wa.heap.size = wr.heap.size + 1 := by rw [hwa]; simp
      have hx : wa.heap[wr.heap.size]? = some (.cells #[.int .i64 kk.1, .string kk.2] 89 (0, 0)) := by rw [hwa]; exact heap_alloc_new wr _
      rw [← hwa]
      have hIA : IxB wa base g mark t v mb tr (es ++ l.take k) f' := HI.out.keep fun b hb => hga.block b (HI.out.lt b hb).2 (by simp)
      obtain ⟨y, hy⟩ : ∃ y, y = (aget tr kk).getD (.slice none 0 0, []) := ⟨_, rfl⟩
      have hyv : (aget (trV tr) kk).getD (.slice none 0 0) = y.1 := by rw [hy, trV_get]; cases aget tr kk <;> rfl
      have hyo : wa.ownsRow base 3 1 y.1 y.2.length (nts y.2) := by
        rw [hy]
        cases e : aget tr kk with
        | none => exact World.ownsRow_nil wa base 3 1
        | some q => exact hIA.rows (kk, q) (aget_mem e)
      have hym : y.1.ownBlock ≠ some mb := by
        intro e
        rcases hyo.2 with ⟨e2, _⟩ | ⟨g', cap, cur, e2, _, hh, _⟩
        · rw [e2] at e; simp [Value.ownBlock] at e
        · rw [e2] at e
          have : g' = mb := by simpa [Value.ownBlock] using e
          exact hIA.map.not_cells hh this
      have hyg : y.1.ownBlock ≠ some g := own_ne hyo hIA.col.blk (by decide)
      have hyl : y.2.length ≤ (es ++ l.take k).length := by
        have hpl : y.2 = places (es ++ l.take k) kk := by
          rw [hy, ← hIA.pl.get kk, trL_get]
          cases aget tr kk <;> rfl
        rw [hpl]
        unfold places
        exact Nat.le_trans (List.length_filter_le _ _) (by simp)
      obtain ⟨o0, o1, s, hb0, hE1, hE2⟩ := MapK.entry key_run (w := wa.drew) hIA.map Try.underlying75 (.slice none 0 0) (fun w => by kernel_rfl) kk
      rw [hyv] at hE1
      obtain ⟨i1, hi1, hiz, his, hib⟩ := info_parts Try.infoN
      obtain ⟨N, hN⟩ : ∃ N, (es ++ l.take k).length = N := ⟨_, rfl⟩
      have hNl : N ≤ 200000 := by rw [← hN]; have := HLN.out; simp; omega
      obtain ⟨sp, F, hnd, hsp, hF, hKK⟩ := append_facts (P := Try.prog) wa.drew base 55 55 3 i1 (.int .i64 0) 1 8 Try.underlying55 hi1 hiz his hib rfl (by omega) y.1 y.2.length (nts y.2) hyo 1 (nts [N]) rfl (nts_one _) (by omega)
        (by rw [hN] at hyl; unfold maxLen; omega) (by rw [hN] at hyl; omega) (by have := HBS.out; have := HWR.out.size; have := hga.size; show base ≤ wa.heap.size; omega)
      have hsl : ∀ s ∈ sp, s.1 < wr.heap.size := fun s hs => by
        have e := (hsp s hs).1
        have hsf : s.1 ∈ f' := by
          rw [hIA.foot]
          cases e2 : aget tr kk with
          | none => rw [hy, e2] at e; simp [Value.ownBlock] at e
          | some q =>
            have hq : (kk, q) ∈ tr := aget_mem e2
            rw [hy, e2] at e
            have : s.1 ∈ trB tr := List.mem_flatMap.2 ⟨(kk, q), hq, by simpa using e⟩
            simp [this]
        exact (HI.out.lt _ hsf).2
      have hmsp : mb ∉ sp.map (·.1) := fun hm => by
        obtain ⟨s, hs, e⟩ := List.mem_map.1 hm
        exact hym (by rw [(hsp s hs).1, e])
      have hgsp : g ∉ sp.map (·.1) := fun hm => by
        obtain ⟨s, hs, e⟩ := List.mem_map.1 hm
        exact hyg (by rw [(hsp s hs).1, e])
      have hmlt : mb < wr.heap.size := HI.out.map.lt
      have hgm : g ≠ mb := hIA.map.not_cells hIA.col.blk
      have hnd2 : (((mb, o0, o1) :: sp).map (·.1)).Nodup := by
        simp only [List.map_cons, List.nodup_cons]
        exact ⟨hmsp, hnd⟩
      have hsl2 : ∀ s ∈ (mb, o0, o1) :: sp, s.1 < wr.heap.size := fun s hs => by
        rcases List.mem_cons.1 hs with rfl | hs
        · exact hmlt
        · exact hsl s hs
      obtain ⟨hku, hrun⟩ := hKK ((mb, o0, o1) :: sp) (fun _ h => List.mem_cons_of_mem _ h) (fun s hs e => by
        rcases List.mem_cons.1 hs with rfl | hs
        · exact absurd e hym
        · exact hs) (fun s hs => by show s.1 < wa.heap.size; have := hsl2 s hs; omega) hnd2
      have hent : ∀ w, WroS ((mb, o0, o1) :: sp) wa.drew w → ∃ (x : Value) (w' : World), (Instr.mapEntry 75 (.map (some mb)) (.agg #[.int .i64 kk.1, .string kk.2])).run Try.prog w = .ok x w' ∧ WroS ((mb, o0, o1) :: sp) w w' ∧ (x = .tuple #[y.1, .int .i64 ((s : Nat) : Int)] ∧ w'.heap[mb]? = some o1) := fun w hw => by
        obtain ⟨w', h1, h2, h3, _⟩ := hE1 w (hw.t (mb, o0, o1) (by simp) (.inl hb0))
        exact ⟨_, w', h1, WroS.one (s := (mb, o0, o1)) (by simp) hnd2 h3 h2, rfl, h2⟩
      have hke : KUp (grS ((mb, o0, o1) :: sp)) (fun (x : Value) (w : World) => x = .tuple #[y.1, .int .i64 ((s : Nat) : Int)] ∧ w.heap[mb]? = some o1) := by
        rintro x w w' ⟨h1, h2⟩ hr
        exact ⟨h1, hr.s (mb, o0, o1) (by simp) h2⟩
      have HNG : Hid (g ∉ ((mb, o0, o1) :: sp).map (·.1)) := hide (by
        simp only [List.map_cons, List.mem_cons, not_or]
        exact ⟨hgm, hgsp⟩)
      have HNX : Hid (wr.heap.size ∉ ((mb, o0, o1) :: sp).map (·.1)) := hide (fun hm => by
        obtain ⟨s, hs, e⟩ := List.mem_map.1 hm
        have := hsl2 s hs
        omega)
      have HSL : Hid (∀ x ∈ ((mb, o0, o1) :: sp).map (·.1), x < wa.heap.size) := hide (fun x hx => by
        obtain ⟨s, hs, rfl⟩ := List.mem_map.1 hx
        have := hsl2 s hs
        omega)
      have HSV : Hid (∀ x ∈ ((mb, o0, o1) :: sp).map (·.1), x = mb ∨ y.1.ownBlock = some x) := hide (fun x hx => by
        obtain ⟨s, hs, rfl⟩ := List.mem_map.1 hx
        rcases List.mem_cons.1 hs with rfl | hs
        · exact .inl rfl
        · exact .inr (hsp s hs).1)
      have hco := hIA.col.own
      rw [hN] at hco
      obtain ⟨Av, cv, hv, _, hcm, _⟩ := own_form2 hco
      have hcg := hIA.col.blk
      rw [hv] at hcg
      have HCG := hide hcg
      have HVV := hide hv
      have HX := hide hx
      have HGA := hide hga
      have HF := hide hF
      have HKU := hide hku
      have HRUN := hide hrun
      have HENT := hide hent
      have HKE := hide hke
      have HE2 := hide hE2
      have HIA := hide hIA
      have HY := hide hy
      have HSA := hide hsa
      have HNN := hide hN
      have HGM := hide hgm
      have HYG := hide hyg
      have HYM := hide hym
      clear hwa hga hx hi1 hiz his hib hnd hsp hF hKK hsl hku hrun hIA hy hyv hyo hym hyl hb0 hE1 hE2 hmsp hgsp hmlt hgm hnd2 hsl2 hent hke hco hcg hv hcm hsa hN hyg
      refine wp_region_rfacts' (grS ((mb, o0, o1) :: sp)) 16 (by kernel_rfl) (by kernel_rfl) ?_
      intro A O W L HA HO HW HL
      simp only [List.take_succ_cons, List.take_zero]
      have HS := hide (show A.tmps.size = 35 by rw [HA.out]; rfl)
      have HGW := hide (show wa.grownBy W none by rw [HW.out]; exact gb_drew (gb_refl wa none))
      have A0 := hide (show A.eval (.tmp 0) = .pointer (some ⟨g, 0, none⟩) by rw [HA.out]; rfl)
      have A5 := hide (show A.eval (.tmp 5) = .pointer (some ⟨wr.heap.size, 0, none⟩) by rw [HA.out]; rfl)
      -- slot 12
      refine rFacts_lit (.pointer (some ⟨g, 0, none⟩)) rfl ?_ ?_
      · intro a wq hw hl
        have e0 : a.tmps[0]?.getD undef = .pointer (some ⟨g, 0, none⟩) := (hl 0 (by first | (simp [Op.operands]; done) | simp [Op.operands, Call.operands]) (by rw [HS.out]; decide)).trans A0.out
        clear hl
        go_simp
      -- slot 13
      refine rFacts_lit (.pointer (some ⟨g, 0, none⟩)) rfl ?_ ?_
      · intro a wq hw hl
        have e12 : a.tmps[12]?.getD undef = .pointer (some ⟨g, 0, none⟩) := hl 12 (by first | (simp [Op.operands]; done) | simp [Op.operands, Call.operands]) (by rw [HS.out]; decide)
        clear hl
        go_simp
      -- slot 14
      refine rFacts_lit (.pointer (some ⟨g, 5, none⟩)) rfl ?_ ?_
      · intro a wq hw hl
        have e13 : a.tmps[13]?.getD undef = .pointer (some ⟨g, 0, none⟩) := hl 13 (by first | (simp [Op.operands]; done) | simp [Op.operands, Call.operands]) (by rw [HS.out]; decide)
        clear hl
        go_simp
      -- slot 15
      refine rFacts_lit (.map (some mb)) rfl ?_ ?_
      · intro a wq hw hl
        have e14 : a.tmps[14]?.getD undef = .pointer (some ⟨g, 5, none⟩) := hl 14 (by first | (simp [Op.operands]; done) | simp [Op.operands, Call.operands]) (by rw [HS.out]; decide)
        have hbg : wq.heap[g]? = some (.cells (colC mark t (.slice Av N cv) (runsK (es ++ l.take k)) (fallsK (es ++ l.take k)) [.map (some mb)]) 77 (0, 0)) := WroS.keep hw (by rw [HW.out]; exact HCG.out) HNG.out
        have c0 : wq.cell? ⟨g, 5, none⟩ = some (.map (some mb)) := by rw [blk_cell hbg]; rfl
        clear hbg
        clear hl
        go_simp
      -- slot 16
      refine rFacts_lit (.agg #[.int .i64 kk.1, .string kk.2]) rfl ?_ ?_
      · intro a wq hw hl
        have e5 : a.tmps[5]?.getD undef = .pointer (some ⟨wr.heap.size, 0, none⟩) := (hl 5 (by first | (simp [Op.operands]; done) | simp [Op.operands, Call.operands]) (by rw [HS.out]; decide)).trans A5.out
        have hbx : wq.heap[wr.heap.size]? = some (.cells #[.int .i64 kk.1, .string kk.2] 89 (0, 0)) := WroS.keep hw (by rw [HW.out]; exact HX.out) HNX.out
        have c0 : wq.cell? ⟨wr.heap.size, 0, none⟩ = some (.int .i64 kk.1) := by rw [blk_cell hbx]; rfl
        have c1 : wq.cell? ⟨wr.heap.size, 1, none⟩ = some (.string kk.2) := by rw [blk_cell hbx]; rfl
        clear hbx
        clear hl
        go_simp
      -- slot 18
      refine rFacts_lit (.pointer (some ⟨g, 0, none⟩)) rfl ?_ ?_
      · intro a wq hw hl
        have e0 : a.tmps[0]?.getD undef = .pointer (some ⟨g, 0, none⟩) := (hl 0 (by first | (simp [Op.operands]; done) | simp [Op.operands, Call.operands]) (by rw [HS.out]; decide)).trans A0.out
        clear hl
        go_simp
      -- slot 19
      refine rFacts_lit (.pointer (some ⟨g, 0, none⟩)) rfl ?_ ?_
      · intro a wq hw hl
        have e18 : a.tmps[18]?.getD undef = .pointer (some ⟨g, 0, none⟩) := hl 18 (by first | (simp [Op.operands]; done) | simp [Op.operands, Call.operands]) (by rw [HS.out]; decide)
        clear hl
        go_simp
      -- slot 20
      refine rFacts_lit (.pointer (some ⟨g, 0, none⟩)) rfl ?_ ?_
      · intro a wq hw hl
        have e19 : a.tmps[19]?.getD undef = .pointer (some ⟨g, 0, none⟩) := hl 19 (by first | (simp [Op.operands]; done) | simp [Op.operands, Call.operands]) (by rw [HS.out]; decide)
        clear hl
        go_simp
      -- slot 21
      refine rFacts_lit (.pointer (some ⟨g, 2, none⟩)) rfl ?_ ?_
      · intro a wq hw hl
        have e20 : a.tmps[20]?.getD undef = .pointer (some ⟨g, 0, none⟩) := hl 20 (by first | (simp [Op.operands]; done) | simp [Op.operands, Call.operands]) (by rw [HS.out]; decide)
        clear hl
        go_simp
      -- slot 22
      refine rFacts_lit (.slice Av N cv) rfl ?_ ?_
      · intro a wq hw hl
        have e21 : a.tmps[21]?.getD undef = .pointer (some ⟨g, 2, none⟩) := hl 21 (by first | (simp [Op.operands]; done) | simp [Op.operands, Call.operands]) (by rw [HS.out]; decide)
        have hbg : wq.heap[g]? = some (.cells (colC mark t (.slice Av N cv) (runsK (es ++ l.take k)) (fallsK (es ++ l.take k)) [.map (some mb)]) 77 (0, 0)) := WroS.keep hw (by rw [HW.out]; exact HCG.out) HNG.out
        have c0 : wq.cell? ⟨g, 2, none⟩ = some (.slice Av N cv) := by rw [blk_cell hbg]; rfl
        clear hbg
        clear hl
        go_simp
      -- slot 23
      refine rFacts_lit (.int .i64 ((N : Nat) : Int)) rfl ?_ ?_
      · intro a wq hw hl
        have e22 : a.tmps[22]?.getD undef = .slice Av N cv := hl 22 (by first | (simp [Op.operands]; done) | simp [Op.operands, Call.operands]) (by rw [HS.out]; decide)
        clear hl
        go_simp
      -- slot 24
      refine rFacts_step (RowR wa.heap.size 1 #[.int .i64 ((N : Nat) : Int)] 3) rfl (RowR.up (ρ := grS ((mb, o0, o1) :: sp)) (f := ((mb, o0, o1) :: sp).map (·.1)) (fun _ _ (h : WroS ((mb, o0, o1) :: sp) _ _) => h.wro) _ _ _ _ HSL.out) ?_ ?_
      · intro a wq hw hl
        have e23 : a.tmps[23]?.getD undef = .int .i64 ((N : Nat) : Int) := hl 23 (by first | (simp [Op.operands]; done) | simp [Op.operands, Call.operands]) (by rw [HS.out]; decide)
        clear hl
        go_simp
        exact RowR.new _ _ (by have := hw.wro.size; rw [HW.out] at this; exact this)
      -- slot 25
      refine rFacts_step (fun (x : Value) (w : World) => x = .tuple #[y.1, .int .i64 ((s : Nat) : Int)] ∧ w.heap[mb]? = some o1) rfl (HKE.out) ?_ ?_
      · intro a wq hw hl
        have e15 : a.tmps[15]?.getD undef = .map (some mb) := hl 15 (by first | (simp [Op.operands]; done) | simp [Op.operands, Call.operands]) (by rw [HS.out]; decide)
        have e16 : a.tmps[16]?.getD undef = .agg #[.int .i64 kk.1, .string kk.2] := hl 16 (by first | (simp [Op.operands]; done) | simp [Op.operands, Call.operands]) (by rw [HS.out]; decide)
        clear hl
        refine rUpon_entry rfl (eval_tmp e15) (eval_tmp e16) ?_
        exact HENT.out wq (by rw [HW.out] at hw; exact hw)
      -- slot 17
      refine rFacts_lit (y.1) rfl ?_ ?_
      · intro a wq hw hl
        have h25 : (fun (x : Value) (w : World) => x = .tuple #[y.1, .int .i64 ((s : Nat) : Int)] ∧ w.heap[mb]? = some o1) (a.tmps[25]?.getD undef) wq := hl 25 (by first | (simp [Op.operands]; done) | simp [Op.operands, Call.operands]) (by rw [HS.out]; decide)
        obtain ⟨e25, _⟩ := h25
        clear hl
        go_simp
      -- slot 26
      refine rFacts_step (F) rfl (HKU.out) ?_ ?_
      · intro a wq hw hl
        have e17 : a.tmps[17]?.getD undef = y.1 := hl 17 (by first | (simp [Op.operands]; done) | simp [Op.operands, Call.operands]) (by rw [HS.out]; decide)
        have h24 : (RowR wa.heap.size 1 #[.int .i64 ((N : Nat) : Int)] 3) (a.tmps[24]?.getD undef) wq := hl 24 (by first | (simp [Op.operands]; done) | simp [Op.operands, Call.operands]) (by rw [HS.out]; decide)
        obtain ⟨rb, e24, hrb, _⟩ := h24
        clear hl
        refine rUpon_append rfl (eval_tmp e17) (eval_tmp e24) ?_
        exact HRUN.out wq ⟨rb, 0, none⟩ 1 (by rw [HW.out] at hw; exact hw) (one_cells hrb)
      -- slot 27
      refine rFacts_lit (.int .i64 ((s : Nat) : Int)) rfl ?_ ?_
      · intro a wq hw hl
        have h25 : (fun (x : Value) (w : World) => x = .tuple #[y.1, .int .i64 ((s : Nat) : Int)] ∧ w.heap[mb]? = some o1) (a.tmps[25]?.getD undef) wq := hl 25 (by first | (simp [Op.operands]; done) | simp [Op.operands, Call.operands]) (by rw [HS.out]; decide)
        obtain ⟨e25, _⟩ := h25
        clear hl
        go_simp
      refine HL.out _ (fun a' wz hc => ?_)
      have e15 : a'.eval (.tmp 15) = .map (some mb) := hc.fact 15 (by rw [HS.out]; decide)
      have h25 : (fun (x : Value) (w : World) => x = .tuple #[y.1, .int .i64 ((s : Nat) : Int)] ∧ w.heap[mb]? = some o1) (a'.eval (.tmp 25)) wz := hc.fact 25 (by rw [HS.out]; decide)
      have h26 : (F) (a'.eval (.tmp 26)) wz := hc.fact 26 (by rw [HS.out]; decide)
      have e27 : a'.eval (.tmp 27) = .int .i64 ((s : Nat) : Int) := hc.fact 27 (by rw [HS.out]; decide)
      have hrwz : ((grS ((mb, o0, o1) :: sp))).R W wz := hc.grown
      have hfr := hc.frame [12, 13, 14, 15, 16, 18, 19, 20, 21, 22, 23, 24, 25, 17, 26, 27] (by rw [HO.out]; kernel_rfl)
      rw [hfr]
      clear hfr hc
      rw [HA.out]
      rw [HW.out] at hrwz
      clear HA HO HL HW HS HGW A0 A5
      clear A O W L
      simp only [List.drop_succ_cons, List.drop_zero, List.foldl_cons, List.foldl_nil, Act.put, List.setIfInBounds_toArray, List.set_cons_succ, List.set_cons_zero]
      rw [e15, e27]
      generalize a'.eval (.tmp 12) = x12
      generalize a'.eval (.tmp 13) = x13
      generalize a'.eval (.tmp 14) = x14
      generalize a'.eval (.tmp 16) = x16
      generalize a'.eval (.tmp 18) = x18
      generalize a'.eval (.tmp 19) = x19
      generalize a'.eval (.tmp 20) = x20
      generalize a'.eval (.tmp 21) = x21
      generalize a'.eval (.tmp 22) = x22
      generalize a'.eval (.tmp 23) = x23
      generalize a'.eval (.tmp 24) = x24
      generalize a'.eval (.tmp 25) = x25 at h25 ⊢
      generalize a'.eval (.tmp 17) = x17
      generalize a'.eval (.tmp 26) = x26 at h26 ⊢
      clear e15 e27
      clear a'
      obtain ⟨hou, huo⟩ := HF.out _ _ h26
      have hm1 : wz.heap[mb]? = some o1 := h25.2
      refine wpList_estore rfl (.tmp 15) (.tmp 27) (.tmp 26) 75 rfl rfl rfl rfl (fun wy => MapK encP wy mb (aput (trV tr) kk x26) ∧ wz.grownBy wy (some mb) ∧ wy.heap.size = wz.heap.size) (HE2.out wz x26 hm1) ?_
      rintro wy ⟨hmy, hgy, hsy⟩
      have hwaz : Wro wa wz (((mb, o0, o1) :: sp).map (·.1)) := ⟨hrwz.wro.os, hrwz.wro.tape, hrwz.wro.output, hrwz.wro.size, hrwz.wro.block⟩
      have hyf : ∀ b, y.1.ownBlock = some b → b ∈ trB tr := fun b e => by
        cases e2 : aget tr kk with
        | none => rw [HY.out, e2] at e; simp [Value.ownBlock] at e
        | some q =>
          rw [HY.out, e2] at e
          exact List.mem_flatMap.2 ⟨(kk, q), aget_mem e2, by simpa using e⟩
      have hnd := HIA.out.nd
      rw [HIA.out.foot] at hnd
      simp only [List.nodup_cons, List.mem_cons, List.mem_append, not_or, List.nodup_append] at hnd
      obtain ⟨⟨_, _, hg3⟩, ⟨hm2, hm3⟩, _, _, hvt⟩ := hnd
      have hvm : v.ownBlock ≠ some mb := fun e => hm2 (by simp [e])
      have hvy : ∀ b, v.ownBlock = some b → y.1.ownBlock ≠ some b := fun b e e2 => hvt b (by simp [e]) b (hyf b e2) rfl
      have hspf : ∀ x ∈ ((mb, o0, o1) :: sp).map (·.1), x ∈ f' := fun x hx => by
        rw [HIA.out.foot]
        rcases HSV.out x hx with rfl | e
        · simp
        · simp [hyf x e]
      have hmf : mb ∈ f' := by rw [HIA.out.foot]; simp
      have hvf : ∀ b ∈ g :: v.ownBlock.toList, b ∈ f' := fun b hb => by
        rw [HIA.out.foot]
        rcases List.mem_cons.1 hb with rfl | hb
        · simp
        · simp [hb]
      have hbx : wy.heap[wr.heap.size]? = some (.cells #[.int .i64 kk.1, .string kk.2] 89 (0, 0)) := by
        have h1 := WroS.keep hrwz HX.out HNX.out
        exact blk_keep h1 hgy (fun e => by
          injection e with e
          have := (HIA.out.lt mb hmf).2
          have := HI.out.map.lt
          omega)
      have hcy : ColB wy base g 77 [.map (some mb)] mark t v (es ++ l.take k) (runsK (es ++ l.take k)) (fallsK (es ++ l.take k)) := by
        refine (HIA.out.col.keep fun b hb => hwaz.block b ?_ fun hm => ?_).keep fun b hb => hgy.block b ?_ ?_
        · exact (HIA.out.lt b (hvf b (by rcases hb with rfl | hb <;> simp [*]))).2
        · rcases HSV.out b hm with rfl | e
          · rcases hb with e | e
            · exact HGM.out e.symm
            · exact hvm e
          · rcases hb with rfl | e2
            · exact HYG.out e
            · exact hvy b e2 e
        · exact Nat.lt_of_lt_of_le (HIA.out.lt b (hvf b (by rcases hb with rfl | hb <;> simp [*]))).2 hwaz.size
        · rcases hb with rfl | e
          · intro e; injection e with e; exact HGM.out e
          · intro e2; injection e2 with e2; subst e2; exact hvm e
      have hux : ∀ b, x26.ownBlock = some b → b < wz.heap.size := fun b e => (own_lt hou e).1
      have hum : ∀ b, x26.ownBlock = some b → b ≠ mb ∧ b ≠ g ∧ v.ownBlock ≠ some b := fun b e => by
        rcases huo with e2 | ⟨b2, e2, hb2⟩
        · rw [e2] at e
          exact ⟨fun e3 => HYM.out (by rw [e, e3]), fun e3 => HYG.out (by rw [e, e3]), fun e3 => hvy b e3 e⟩
        · rw [e2] at e
          injection e with e
          subst e
          have hb2 : wa.heap.size ≤ b2 := hb2
          have h1 := (HIA.out.lt mb hmf).2
          have h2 := (HIA.out.lt g (hvf g (by simp))).2
          refine ⟨by omega, by omega, fun e3 => ?_⟩
          have := (HIA.out.lt b2 (hvf b2 (by simp [e3]))).2
          omega
      have hoy : wy.ownsRow base 3 1 x26 (y.2.length + 1) (nts y.2 ++ nts [N]) := own_gb hou hgy (by
        cases e : x26.ownBlock with
        | none => exact .inl rfl
        | some b => exact .inr (fun e2 => by injection e2 with e2; exact (hum b e).1 e2))
      have HX := hide hbx
      have HCY := hide hcy
      have HMY := hide hmy
      have HGY := hide hgy
      have HWAZ := hide hwaz
      have HUO : Hid (x26.ownBlock = y.1.ownBlock ∨ ∃ b, x26.ownBlock = some b ∧ wa.heap.size ≤ b) := hide huo
      have HUX := hide hux
      have HUM := hide hum
      have HOY := hide hoy
      have HVM := hide hvm
      have HVF := hide hvf
      have HSPF := hide hspf
      have HMF := hide hmf
      clear hou huo hm1 hmy hgy hsy hwaz hyf hg3 hm2 hm3 hvt hvy hspf hbx hcy hux hum hoy h25 h26 hrwz hvm hvf hmf
      clear HENT HKE HKU HRUN HF HCG HNG HNX HSL
      go_wp2_with fail
      refine wp_region_facts' 5 (by kernel_rfl) (by kernel_rfl) ?_
      intro A O W L HA HO HW HL
      simp only [List.take_succ_cons, List.take_zero]
      have HS := hide (show A.tmps.size = 35 by rw [HA.out]; rfl)
      have HGW := hide (show wy.grownBy W none by rw [HW.out]; exact gb_drew (gb_refl wy none))
      have A0 := hide (show A.eval (.tmp 0) = .pointer (some ⟨g, 0, none⟩) by rw [HA.out]; rfl)
      have A5 := hide (show A.eval (.tmp 5) = .pointer (some ⟨wr.heap.size, 0, none⟩) by rw [HA.out]; rfl)
      -- slot 28
      refine wpFacts_lit (.pointer (some ⟨g, 0, none⟩)) rfl ?_ ?_
      · intro a wq hw hl
        have e0 : a.tmps[0]?.getD undef = .pointer (some ⟨g, 0, none⟩) := (hl 0 (by first | (simp [Op.operands]; done) | simp [Op.operands, Call.operands]) (by rw [HS.out]; decide)).trans A0.out
        clear hl
        go_simp
      -- slot 29
      refine wpFacts_lit (.pointer (some ⟨g, 0, none⟩)) rfl ?_ ?_
      · intro a wq hw hl
        have e28 : a.tmps[28]?.getD undef = .pointer (some ⟨g, 0, none⟩) := hl 28 (by first | (simp [Op.operands]; done) | simp [Op.operands, Call.operands]) (by rw [HS.out]; decide)
        clear hl
        go_simp
      -- slot 30
      refine wpFacts_lit (.pointer (some ⟨g, 0, none⟩)) rfl ?_ ?_
      · intro a wq hw hl
        have e29 : a.tmps[29]?.getD undef = .pointer (some ⟨g, 0, none⟩) := hl 29 (by first | (simp [Op.operands]; done) | simp [Op.operands, Call.operands]) (by rw [HS.out]; decide)
        clear hl
        go_simp
      -- slot 31
      refine wpFacts_lit (.agg #[.int .i64 kk.1, .string kk.2]) rfl ?_ ?_
      · intro a wq hw hl
        have e5 : a.tmps[5]?.getD undef = .pointer (some ⟨wr.heap.size, 0, none⟩) := (hl 5 (by first | (simp [Op.operands]; done) | simp [Op.operands, Call.operands]) (by rw [HS.out]; decide)).trans A5.out
        have hbx : wq.heap[wr.heap.size]? = some (.cells #[.int .i64 kk.1, .string kk.2] 89 (0, 0)) := blk_keep HX.out (gb_trans HGW.out hw (.inl rfl)) (by simp)
        have c0 : wq.cell? ⟨wr.heap.size, 0, none⟩ = some (.int .i64 kk.1) := by rw [blk_cell hbx]; rfl
        have c1 : wq.cell? ⟨wr.heap.size, 1, none⟩ = some (.string kk.2) := by rw [blk_cell hbx]; rfl
        clear hbx
        clear hl
        go_simp
      -- slot 32
      refine wpFacts_step (RowF wy.heap.size 1 #[.int .i64 kk.1, .string kk.2] 89) rfl (RowF.up _ _ _ _) ?_ ?_
      · intro a wq hw hl
        have e31 : a.tmps[31]?.getD undef = .agg #[.int .i64 kk.1, .string kk.2] := hl 31 (by first | (simp [Op.operands]; done) | simp [Op.operands, Call.operands]) (by rw [HS.out]; decide)
        clear hl
        go_simp
        exact RowF.new _ _ (Nat.le_trans HGW.out.size hw.size)
      refine HL.out _ (fun a' wp hc => ?_)
      have e30 : a'.eval (.tmp 30) = .pointer (some ⟨g, 0, none⟩) := hc.fact 30 (by rw [HS.out]; decide)
      have h32 : (RowF wy.heap.size 1 #[.int .i64 kk.1, .string kk.2] 89) (a'.eval (.tmp 32)) wp := hc.fact 32 (by rw [HS.out]; decide)
      have hgwp := gb_trans HGW.out hc.grown (.inl rfl)
      have hfr := hc.frame [28, 29, 30, 31, 32, 33] (by rw [HO.out]; kernel_rfl)
      rw [hfr]
      clear hfr hc
      rw [HA.out]
      clear HA HO HL HW HS HGW A0 A5
      clear A O W L
      simp only [List.drop_succ_cons, List.drop_zero, List.foldl_cons, List.foldl_nil, Act.put, List.setIfInBounds_toArray, List.set_cons_succ, List.set_cons_zero]
      rw [e30]
      generalize a'.eval (.tmp 28) = x28
      generalize a'.eval (.tmp 29) = x29
      generalize a'.eval (.tmp 31) = x31
      generalize a'.eval (.tmp 32) = x32 at h32 ⊢
      generalize a'.eval (.tmp 33) = x33
      clear e30
      clear a'
      obtain ⟨rb, e32, hrb, hge⟩ := h32
      subst e32
      have hcp := HCY.out.gb hgwp
      have HP := hide (push_any base g 77 [.map (some mb)] mark t v (es ++ l.take k) [kk] (some ⟨rb, 0, none⟩) 1 1 wp.heap.size wp hcp (fun _ => ⟨_, rfl, blk_lt hrb, key_cells hrb⟩) (Nat.le_refl _) rfl
        (fun ad ha _ => by
          cases ha
          have h1 := (HIA.out.lt g (HVF.out g (by simp))).2
          have h2 := HWAZ.out.size
          have h3 := HGY.out.size
          refine ⟨fun e => ?_, fun e => ?_⟩
          · have : rb = g := e
            omega
          · have := (HIA.out.lt rb (HVF.out rb (by simp [e]))).2
            omega) (by have := HLN.out; simp; omega) (by have := HBS.out; have := HWR.out.size; have := HGA.out.size; have := HWAZ.out.size; have := HGY.out.size; have := hgwp.size; omega))
      have HGP := hide hgwp
      clear hrb hge hcp hgwp
      go_wp2_with fail
      refine HP.out.mono ?_
      rintro e w4 ⟨v2, rfl, hc2, hw2, ho2⟩
      have HC2 := hide hc2
      have HW2 := hide hw2
      have HO2 := hide ho2
      clear hc2 hw2 ho2
      go_wp2_with fail
      go_roundw
      case rel =>
        have he : es ++ l.take (k + 1) = es ++ l.take k ++ [kk] := by rw [List.take_succ_eq_append_getElem hlt, HK.out, List.append_assoc]
        have hsz1 := HWAZ.out.size
        have hsz2 := HGY.out.size
        have hsz3 := HGP.out.size
        have hm4 : MapK encP w4 mb (aput (trV tr) kk x26) := (HMY.out.grown HGP.out (by simp)).keep (HW2.out.block mb (Nat.lt_of_lt_of_le HMY.out.lt hsz3) (fun hm => by
          rcases List.mem_cons.1 hm with e | e
          · exact HGM.out e.symm
          · exact HVM.out (by simpa using e)))
        have ho4 : w4.ownsRow base 3 1 x26 (y.2 ++ [(es ++ l.take k).length]).length (nts (y.2 ++ [(es ++ l.take k).length])) := by
          rw [nts_app, List.length_append, List.length_singleton, HNN.out]
          refine own_keep (own_gb HOY.out HGP.out (by cases x26.ownBlock <;> simp)) fun b hb => HW2.out.block b ?_ fun hm => ?_
          · have := HUX.out b hb; omega
          · rcases List.mem_cons.1 hm with e | e
            · exact (HUM.out b hb).2.1 e
            · exact (HUM.out b hb).2.2 (by simpa using e)
        obtain ⟨f2, hI2, hf2⟩ := IxB.step (n := wa.heap.size) (m := wp.heap.size) (u := x26) HIA.out HY.out rfl HUO.out (fun b hb => by have := HUX.out b hb; omega) (by omega) HO2.out HC2.out hm4 ho4 (fun b hb h1 h2 h3 h4 => by
          have hb1 := (HIA.out.lt b hb).2
          rw [HW2.out.block b (by omega) (fun hm => by
            rcases List.mem_cons.1 hm with e | e
            · exact h1 e
            · exact h3 (by simpa using e)), HGP.out.block b (by omega) (by simp), HGY.out.block b (by omega) (fun e => by injection e with e; exact h2 e)]
          exact HWAZ.out.block b hb1 (fun hm => by
            rcases HSV.out b hm with e | e
            · exact h2 e
            · exact h4 e))
        have hin : ∀ x ∈ f', x ∈ f ∨ w.heap.size ≤ x := HFF.out
        refine ⟨k + 1, f2, by omega, by go_num, by rw [he]; exact ⟨_, _, _, hI2⟩, ?_, fun x hx => ?_⟩
        · refine ((((HWR.out.trans (Wro.of_none HGA.out []) (by simp)).trans HWAZ.out fun x hx => hin x (HSPF.out x hx)).trans (Wro.of_gb HGY.out (f := [mb]) (by simp)) fun x hx => ?_).trans (Wro.of_none HGP.out []) (by simp)).trans HW2.out fun x hx => hin x (HVF.out x hx)
          have : x = mb := by simpa using hx
          subst this
          exact hin _ HMF.out
        · rcases hf2 x hx with h | h
          · exact hin x h
          · right
            have := HWR.out.size
            have := HGA.out.size
            omega
      case measure => simp [intOf]; omega
    · obtain rfl : k = l.length := by omega
      rw [List.take_length] at hI
      have HI := hide hI
      have HWR := hide hW
      have HFF := hide hF
      clear hI hW hF
      go_wp2_with fail
      go_end0
      exact ⟨f', rfl, HI.out, HWR.out, HFF.out⟩
end Go.Proofs.Ytfdckhnhancbdaa
