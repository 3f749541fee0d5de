/-
  The law Switch: its walk.
-/
import Derived.Test.YtpkmlehkmmdkoaaSimV
import Derived.Test.YtpkmlehkmmdkoaaSimO
namespace Go.Proofs.Ytpkmlehkmmdkoaa
open Go.RowKit

theorem Sw.laid {w3 : World} {own : Nat → Prop} {A : Option Addr} {n c : Nat} {xs : List UInt8} (hb : BsAt w3 own (.slice A n c) ([] ++ xs)) (hn : n = ([] ++ xs).length) : Rd w3 w3.heap.size A (u8s xs) ∧ n = xs.length := by
  obtain ⟨A', c', e, _, _, hr⟩ := hb.rd
  injection e with e1 e2 e3
  subst e1
  exact ⟨hr, hn⟩
theorem Rd.at_ {w w' : World} {A : Option Addr} {xs : List Value} (h : Rd w w.heap.size A xs) (hg : w.grownBy w' none) : Rd w' w.heap.size A xs := h.grown hg (Nat.le_refl _) (by simp)

/-- What is handed in. -/
structure Sw.In (w : World) (Ao : Option Addr) (no co : Nat) (Af : Option Addr) (nf cf : Nat) (At : Option Addr) (nt ct : Nat) (old fresh : List UInt8) (tl : List Tn) : Prop where
  ro : Rd w w.heap.size Ao (u8s old)
  rf : Rd w w.heap.size Af (u8s fresh)
  rt : Rd w w.heap.size At (tcells tl)
  hno : no = old.length
  hnf : nf = fresh.length
  hnt : nt = tl.length
  hco : no ≤ co ∧ co ≤ maxLen
  hcf : nf ≤ cf ∧ cf ≤ maxLen
  hct : nt ≤ ct ∧ ct ≤ maxLen

theorem Try.infoT : (Try.prog.info? 65).map (fun i => (i.zero, i.size, i.bytes)) = some (some (.agg #[.int .i64 0, .int .i64 0, .int .i64 0]), 3, 24) := by kernel_rfl
theorem tcells_one (l : List Tn) : ∀ u ∈ tcells l, u.oneCell' = true := by
  intro u hu
  obtain ⟨t, _, ht⟩ := List.mem_flatMap.1 hu
  simp only [List.mem_cons, List.not_mem_nil, or_false] at ht
  rcases ht with rfl | rfl | rfl <;> rfl
theorem own_cap {w : World} {base size n c : Nat} {e : TypeId} {A : Option Addr} {xs : List Value} (h : w.ownsRow base e size (.slice A n c) n xs) : n ≤ c ∧ c ≤ maxLen := by
  rcases h.2 with ⟨h1, h0⟩ | ⟨g, cap, cur, hv, _, _, h3, h4, _⟩
  · injection h1 with _ _ h1
    subst h1
    subst h0
    exact ⟨Nat.le_refl _, Nat.zero_le _⟩
  · injection hv with _ _ hv
    subst hv
    exact ⟨h3, h4⟩
theorem own_empty (w : World) (t : TypeId) (size : Nat) : (w.alloc (.cells #[] t)).ownsRow 0 t size (.slice (some ⟨w.heap.size, 0, none⟩) 0 0) 0 [] :=
  ⟨by simp, .inr ⟨w.heap.size, 0, #[], rfl, Nat.zero_le _, heap_alloc_new w _, Nat.le_refl _, Nat.zero_le _, by simp, by simp⟩⟩
/-- The list of a wreck that was laid anew. -/
theorem Sw.wreck {w0 w13 w5 : World} {g : Nat} {S : St} {A : Option Addr} {n c : Nat} {tl : List Tn} (_ : Lv w0 g S w13) (ho : w5.ownsRow 0 65 3 (.slice A n c) n (tcells tl)) (hg : (w13.alloc (.cells #[] 65)).grownBy w5 (some w13.heap.size))
    (hb : (Value.slice A n c).ownBlock = some w13.heap.size ∨ (Value.slice A n c).ownBlock = some (w13.alloc (.cells #[] 65)).heap.size) :
    w13.grownBy w5 none ∧ Rd w5 w5.heap.size A (tcells tl) ∧ (∀ a, A = some a → a.block < w0.heap.size ∨ w13.heap.size ≤ a.block) ∧ (n ≤ c ∧ c ≤ maxLen) := by
  refine ⟨gb_trans (gb_alloc (gb_refl w13 none) (.cells #[] 65)) hg (.inr (.inr ⟨_, rfl, Nat.le_refl _⟩)), Rd.of_own ho, fun a ha => .inr ?_, own_cap ho⟩
  subst ha
  rcases hb with hb | hb
  · have e : a.block = w13.heap.size := by injection hb
    omega
  · have e : a.block = (w13.alloc (.cells #[] 65)).heap.size := by injection hb
    rw [e]
    simp
theorem Sw.str {w : World} {A : Option Addr} {n c B : Nat} {bs : List UInt8} (hr : Rd w B A (u8s bs)) (hn : n = bs.length) : (convert 32 9 (.slice A n c)).run Try.prog w = .ok (.string ⟨bs.toArray⟩) w := by
  subst hn
  exact run_string_of w 32 5 Try.underlying32 Try.underlying5 _ _ _ _ hr 9 Try.underlying9
theorem Sw.same {a b : List UInt8} (h : a = b) : (a == b) = true := by
  subst h
  simp
theorem Sw.other {a b : List UInt8} (h : a ≠ b) : (a == b) = false := beq_eq_false_iff_ne.2 h

set_option maxHeartbeats 8000000 in
set_option maxRecDepth 100000 in
theorem lawSwitch_main (Ao : Option Addr) (no co : Nat) (Af : Option Addr) (nf cf : Nat) (stop dir : Int) (At : Option Addr) (nt ct : Nat) (old fresh : List UInt8) (tl : List Tn) (w : World) (h : Sw.In w Ao no co Af nf cf At nt ct old fresh tl)
    (hst : stop ≤ 9223372036854775807) (h1 : ¬ (20000 : Int) < (no : Int)) (h2 : ¬ (20000 : Int) < (nf : Int)) (h3 : ¬ (200 : Int) < (nt : Int)) :
    Calls Try.prog 4 #[.agg #[.slice Ao no co, .slice Af nf cf, .int .i64 stop, .int .i64 dir, .slice At nt ct]] w fun e w' => e = .returned (.bool true) ∧ w.grownBy w' none := by
  have H := hide h
  obtain ⟨wa, hwaE⟩ : ∃ wa, wa = w.alloc (.cells #[.slice Ao no co, .slice Af nf cf, .int .i64 stop, .int .i64 dir, .slice At nt ct] 37) := ⟨_, rfl⟩
  have hX := heap_alloc_new w (.cells #[.slice Ao no co, .slice Af nf cf, .int .i64 stop, .int .i64 dir, .slice At nt ct] 37)
  rw [← hwaE] at hX
  have HG := hide (show w.grownBy wa none by rw [hwaE]; exact gb_alloc (gb_refl w none) _)
  have HWE := hide hwaE
  have b0 : wa.cell? ⟨w.heap.size, 0, none⟩ = some (.slice Ao no co) := by rw [blk_cell hX]; rfl
  have b1 : wa.cell? ⟨w.heap.size, 1, none⟩ = some (.slice Af nf cf) := by rw [blk_cell hX]; rfl
  have b2 : wa.cell? ⟨w.heap.size, 2, none⟩ = some (.int .i64 stop) := by rw [blk_cell hX]; rfl
  have b3 : wa.cell? ⟨w.heap.size, 3, none⟩ = some (.int .i64 dir) := by rw [blk_cell hX]; rfl
  have b4 : wa.cell? ⟨w.heap.size, 4, none⟩ = some (.slice At nt ct) := by rw [blk_cell hX]; rfl
  clear hX hwaE h
  go_enter Try.func4, Try.ntmps4
  go_wp2_with fail
  rw [← HWE.out]
  go_region_held3 (fun w' => w'.cell? ⟨w.heap.size, 0, none⟩ = some (.slice Ao no co) ∧ w'.cell? ⟨w.heap.size, 1, none⟩ = some (.slice Af nf cf) ∧ w'.cell? ⟨w.heap.size, 2, none⟩ = some (.int .i64 stop) ∧ w'.cell? ⟨w.heap.size, 3, none⟩ = some (.int .i64 dir) ∧ w'.cell? ⟨w.heap.size, 4, none⟩ = some (.slice At nt ct)) (first | exact ⟨b0, b1, b2, b3, b4⟩ | go_keep) ((fail))
  have HX0 : Hid ((wa.alloc (.cells #[.int .i64 dir, .slice At nt ct] 35)).drew.heap[wa.heap.size]? = some (.cells #[.int .i64 dir, .slice At nt ct] 35 (0, 0))) := hide (heap_alloc_new wa _)
  have HG0 : Hid (w.grownBy (wa.alloc (.cells #[.int .i64 dir, .slice At nt ct] 35)).drew none) := hide (gb_drew (gb_alloc HG.out _))
  go_wp2_with fail
  clear b0 b1 b2 b3 b4
  generalize (wa.alloc (.cells #[.int .i64 dir, .slice At nt ct] 35)).drew = w0 at *
  have HOL : Hid (old.length ≤ 20000) := hide (by have := H.out.hno; omega)
  have HFL : Hid (fresh.length ≤ 20000) := hide (by have := H.out.hnf; omega)
  have HOL2 : Hid (([] : List UInt8).length + old.length ≤ 1000000000) := hide (by have := HOL.out; simp; omega)
  have HFL2 : Hid (([] : List UInt8).length + fresh.length ≤ 1000000000) := hide (by have := HFL.out; simp; omega)
  have HNO := hide H.out.hno
  have HNF := hide H.out.hnf
  have HST := hide hst
  clear hst
  go_wp2_with (first
    | (go_at_call 12; refine (Lv.new 67108864 _ (by decide) (by decide)).mono ?_; rintro e w1 ⟨g, rfl, hl⟩; have HL1 := hide hl; clear hl)
    | (go_at_call 13; refine (num_any _ _).mono ?_; rintro e wq ⟨rfl, rfl⟩)
    | (go_at_call 14; refine (Sw.c1 HL1.out).mono ?_; rintro e w2 ⟨rfl, hl⟩; have HL2 := hide hl; have HRO := hide (H.out.ro.at_ (gb_alloc (gb_trans HG0.out hl.grown (.inl rfl)) (.cells #[] 5))); clear hl HL1)
    | (at_builtin; refine wpList_append_bs (own := fun _ => True) (xs := []) rfl (.tmp 59) (.tmp 60) rfl rfl rfl (.inl ⟨rfl, _, rfl⟩) HRO.out HNO.out HOL2.out ?_; intro A3 n3 c3 w3 hn3 hb3 hg3 hk3 ho3; have HR3 := hide (Sw.laid hb3 hn3); have HL3 := hide ((HL2.out.alloc (.cells #[] 5)).keep hg3); clear hn3 hb3 hg3 hk3 ho3 HL2 HRO)
    | (go_at_call 15; refine (Sw.c2 HL3.out HOL.out _ _ _ HR3.out.1 HR3.out.2).mono ?_; rintro e w4 ⟨rfl, hl⟩; have HL4 := hide hl; clear hl HL3 HR3)
    | (go_at_call 16; refine (Sw.c3 HL4.out HOL.out).mono ?_; rintro e w5 ⟨rfl, hl⟩; have HL5 := hide hl; clear hl HL4)
    | (go_at_call 17; refine (Sw.c4 fresh HL5.out HOL.out).mono ?_; rintro e w6 ⟨rfl, hl⟩; have HL6 := hide hl; clear hl HL5)
    | (go_at_call 18; refine (Sw.c5 HL6.out stop HST.out).mono ?_; rintro e w7 ⟨rfl, S7, hl, hs⟩; have HL7 := hide hl; have HS7 := hide hs; clear hl hs HL6)
    | (go_at_call 14; refine (Sw.create HL7.out HS7.out HOL.out HFL.out).mono ?_; rintro e w8 ⟨b, x8, S8, rfl, hl, hs, hb⟩; have HL8 := hide hl; have HS8 := hide hs; have HB8 := hide hb; have HRF := hide (H.out.rf.at_ (gb_alloc (gb_trans HG0.out hl.grown (.inl rfl)) (.cells #[] 5))); clear hl hs hb HL7 HS7)
    | (at_builtin; refine wpList_append_bs (own := fun _ => True) (xs := []) rfl (.tmp 78) (.tmp 79) rfl rfl rfl (.inl ⟨rfl, _, rfl⟩) HRF.out HNF.out HFL2.out ?_; intro A9 n9 c9 w9 hn9 hb9 hg9 hk9 ho9; have HR9 := hide (Sw.laid hb9 hn9); have HL9 := hide ((HL8.out.alloc (.cells #[] 5)).keep hg9); clear hn9 hb9 hg9 hk9 ho9 HL8 HRF)
    | (go_at_call 15; refine (Sw.append HL9.out HS8.out HOL.out HFL.out b HB8.out _ _ _ HR9.out.1 HR9.out.2).mono ?_; rintro e w10 ⟨x10, S10, rfl, hl, hs, hd⟩; have HL10 := hide hl; have HS10 := hide hs; have HB10 := hide (fun h => HB8.out (hd h)); clear hl hs hd HL9 HR9 HS8 HB8)
    | (go_at_call 16; refine (Sw.sync HL10.out HS10.out HOL.out HFL.out b HB10.out).mono ?_; rintro e w11 ⟨x11, S11, rfl, hl, hs, hd⟩; have HL11 := hide hl; have HS11 := hide hs; clear hl hs hd HL10 HS10 HB10)
    | (go_at_call 19; refine (Sw.rename HL11.out HS11.out HOL.out HFL.out).mono ?_; rintro e w12 ⟨x12, S12, rfl, hl, hs, hd⟩; have HL12 := hide hl; have HS12 := hide hs; clear hl hs hd HL11 HS11)
    | (go_at_call 17; refine (Sw.syncdir HL12.out HS12.out HOL.out HFL.out).mono ?_; rintro e w13 ⟨x13, S13, rfl, hl, hs, hd⟩; have HL13 := hide hl; have HS13 := hide hs; clear hl hs hd HL12 HS12)
    | (go_at_call 20; refine (HL13.out.dead).mono ?_; rintro e wq ⟨rfl, rfl⟩))
  have HX13 := hide ((HL13.out.grown.block _ (blk_lt HX0.out) (by simp)).trans HX0.out)
  have c0 : w13.cell? ⟨wa.heap.size, 0, none⟩ = some (.int .i64 dir) := by rw [blk_cell HX13.out]; rfl
  have c1 : w13.cell? ⟨wa.heap.size, 1, none⟩ = some (.slice At nt ct) := by rw [blk_cell HX13.out]; rfl
  obtain ⟨i1, hi1, hiz, his, hib⟩ := info_parts Try.infoT
  have HI1 := hide hi1
  have HIZ := hide hiz
  have HIS := hide his
  have HIB := hide hib
  clear hi1 hiz his hib
  have HO13 := hide (own_empty w13 65 3)
  have HRT := hide (H.out.rt.at_ (gb_alloc (gb_trans HG0.out HL13.out.grown (.inl rfl)) (.cells #[] 65)))
  have HLEN := hide (show (tcells tl).length = nt * 3 by rw [tcells_length, H.out.hnt])
  have HOC := hide (tcells_one tl)
  have HM1 : Hid (0 + nt ≤ maxLen) := hide (by unfold maxLen; omega)
  have HMB : Hid ((0 + nt) * 24 ≤ 140737488355328) := hide (by omega)
  have HNT := hide H.out.hnt
  go_region_held3 (fun w' => w'.cell? ⟨wa.heap.size, 0, none⟩ = some (.int .i64 dir) ∧ w'.cell? ⟨wa.heap.size, 1, none⟩ = some (.slice At nt ct)) (first | exact ⟨c0, c1⟩ | exact ⟨c05, c15⟩ | exact ⟨c06, c16⟩ | go_keep)
    (first
    | (refine step_append_row (by rfl) (.tmp 95) (.tmp 97) 33 (by rfl) 0 65 i1 (.agg #[.int .i64 0, .int .i64 0, .int .i64 0]) 3 24 Try.underlying33 HI1.out HIZ.out HIS.out HIB.out rfl (Nat.succ_pos 2) (.slice (some ⟨w13.heap.size, 0, none⟩) 0 0) 0 [] (by rfl) HO13.out w.heap.size At nt ct (tcells tl) (by rfl) HLEN.out HRT.out HOC.out HM1.out HMB.out (Nat.zero_le _) ?_; intro v5 w5 ho5 hg5 hb5; rw [Nat.zero_add, List.nil_append] at ho5; obtain ⟨A5, c5, rfl⟩ := own_slice ho5; have HY := hide (Sw.wreck HL13.out ho5 ⟨hg5.os, hg5.tape, hg5.output, hg5.size, hg5.block⟩ hb5); have HX5 := hide ((HY.out.1.block _ (blk_lt HX13.out) (by simp)).trans HX13.out); have c05 : w5.cell? ⟨wa.heap.size, 0, none⟩ = some (.int .i64 dir) := by { rw [blk_cell HX5.out]; rfl }; have c15 : w5.cell? ⟨wa.heap.size, 1, none⟩ = some (.slice At nt ct) := by { rw [blk_cell HX5.out]; rfl }; clear ho5 hg5 hb5)
    | (go_simp; go_at_call 21; refine (Sw.crash HL13.out HS13.out HOL.out HFL.out dir A5 nt c5 tl HY.out.1 HY.out.2.1 HY.out.2.2.1 HNT.out (HNT.out ▸ HY.out.2.2.2)).mono ?_; rintro e w14 ⟨rfl, S14, hl, hp⟩; have HL14 := hide hl; have HP14 := hide hp; have HX14 := hide ((hl.grown.block _ (blk_lt HX0.out) (by simp)).trans HX0.out); have c06 : w14.cell? ⟨wa.heap.size, 0, none⟩ = some (.int .i64 dir) := by { rw [blk_cell HX14.out]; rfl }; have c16 : w14.cell? ⟨wa.heap.size, 1, none⟩ = some (.slice At nt ct) := by { rw [blk_cell HX14.out]; rfl }; clear hl hp))
  clear c0 c1 c05 c15 c06 c16
  have hop := Sw.open_ HL14.out HP14.out
  obtain ⟨n, xs, hx, hfin, hxl, hop⟩ := hop
  have HOP := hide hop
  have HR0 := hide H.out.ro
  have HRF := hide H.out.rf
  clear hop
  go_wp2_with (go_at_call 22; refine HOP.out.mono ?_; rintro e w15 ⟨rfl, hrd⟩; have HRD := hide hrd; clear hrd)
  refine HRD.out.mono ?_
  rintro e w16 ⟨A16, c16, m16, rfl, hm, hg, hr⟩
  have HG16 := hide (gb_trans HG0.out hg (.inl rfl))
  have hs1 := Sw.str (c := c16) hr hm
  have hs2 := Sw.str (c := co) (HR0.out.at_ HG16.out) HNO.out
  have hs3 := Sw.str (c := cf) (HRF.out.at_ HG16.out) HNF.out
  clear hm hg hr
  have HX := hide hx
  have HFIN := hide hfin
  clear hx hfin
  generalize hdd : S13.dead = d13 at *
  clear hdd
  by_cases hf : xs = fresh
  · by_cases ho : xs = old
    · have q1 := Sw.same ho
      have q3 := Sw.same hf
      clear hf ho
      cases d13
      all_goals
        go_wp2_with (first
          | (go_at_call 13; refine (num_any _ _).mono ?_; rintro e wq ⟨rfl, rfl⟩)
          | (go_at_call 8; refine (live_any _).mono ?_; rintro e w17 ⟨rfl, hg⟩; have HG17 := hide hg; clear hg))
        go_ret
        exact ⟨rfl, gb_trans HG16.out HG17.out (.inl rfl)⟩
    · have q1 := Sw.other ho
      have q3 := Sw.same hf
      clear hf ho
      cases d13
      all_goals
        go_wp2_with (first
          | (go_at_call 13; refine (num_any _ _).mono ?_; rintro e wq ⟨rfl, rfl⟩)
          | (go_at_call 8; refine (live_any _).mono ?_; rintro e w17 ⟨rfl, hg⟩; have HG17 := hide hg; clear hg))
        go_ret
        exact ⟨rfl, gb_trans HG16.out HG17.out (.inl rfl)⟩
  · have ho : xs = old := HX.out.resolve_right hf
    have q1 := Sw.same ho
    have q3 := Sw.other hf
    cases d13
    · exact absurd (HFIN.out rfl) hf
    clear hf ho
    go_wp2_with (first
      | (go_at_call 13; refine (num_any _ _).mono ?_; rintro e wq ⟨rfl, rfl⟩)
      | (go_at_call 8; refine (live_any _).mono ?_; rintro e w17 ⟨rfl, hg⟩; have HG17 := hide hg; clear hg))
    go_ret
    exact ⟨rfl, gb_trans HG16.out HG17.out (.inl rfl)⟩

end Go.Proofs.Ytpkmlehkmmdkoaa
