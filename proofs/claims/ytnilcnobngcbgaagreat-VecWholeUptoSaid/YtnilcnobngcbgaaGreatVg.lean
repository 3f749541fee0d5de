/-
  value.Clone and value.cloneAll.
-/
import Derived.Test.YtnilcnobngcbgaaGreatVo
import Derived.Test.YtnilcnobngcbgaaGreatVc
namespace Go.Proofs.YtnilcnobngcbgaaGreat
open Go.RowKit
attribute [local go_sem ↓] Go.wp_at_zero Go.wp_at_succ

/-- What a copy of a value is: of the same value, in new blocks, which nobody else has. -/
def NewV (v : Vl) (w : World) (e : Ending) (w' : World) : Prop := ∃ nA nc sA sc lA lc f, e = .returned (.agg #[.int .i64 v.t, .slice nA v.n.length nc, .slice sA v.s.length sc, .slice lA v.l.length lc]) ∧
  VOw w' v [.int .i64 v.t, .slice nA v.n.length nc, .slice sA v.s.length sc, .slice lA v.l.length lc] f ∧ New w w' f ∧ w.grownBy w' none
/-- value.Clone on values of that depth. -/
def CloneC (d : Nat) : Prop := ∀ (v : Vl) (w : World) (B : Nat) (nA : Option Addr) (nc : Nat) (sA : Option Addr) (sc : Nat) (lA : Option Addr) (lc : Nat), v.depth ≤ d → v.tot ≤ 1100000 → B ≤ w.heap.size → VB w B v nA nc sA sc lA lc →
    Calls Tryz.prog 96 #[.agg #[.int .i64 v.t, .slice nA v.n.length nc, .slice sA v.s.length sc, .slice lA v.l.length lc]] w (NewV v w)
/-- What a copy of a list is. -/
def NewL (l : List Vl) (w : World) (e : Ending) (w' : World) : Prop := ∃ A c xs f g, e = .returned (.slice A l.length c) ∧ l.length ≤ c ∧ Own w' f A (List.flatten xs) ∧ VOwAll w' l xs g ∧ New w w' (f ++ g) ∧ w.grownBy w' none

theorem Tryz.infoV : (Tryz.prog.info? 26).map (fun i => (i.zero, i.size, i.bytes)) = some (some (.agg #[.int .i64 0, .slice none 0 0, .slice none 0 0, .slice none 0 0]), 4, 80) := by kernel_rfl

/-- The first j of a list are copied into block g. -/
def Fill (w : World) (l : List Vl) (j : Nat) (wr : World) : Prop := ∃ xs f cur, wr.heap[w.heap.size]? = some (.cells cur 26 (0, 0)) ∧ cur.size = l.length * 4 ∧ cur.toList.take (j * 4) = List.flatten xs ∧ VOwAll wr (l.take j) xs f ∧ f.Nodup ∧ (∀ b ∈ f, w.heap.size < b) ∧ w.grownBy wr none

theorem Fill.step {w wr wa w6 : World} {l : List Vl} {j : Nat} {xs : List (List Value)} {f f6 : List Nat} {cur : Array Value} {c0 c1 c2 c3 : Value} (hlt : j < l.length) (hh6 : w6.heap[w.heap.size]? = some (.cells cur 26 (0, 0))) (hs : cur.size = l.length * 4)
    (htk : cur.toList.take (j * 4) = List.flatten xs) (hall : VOwAll wr (l.take j) xs f) (hnd : f.Nodup) (hbig : ∀ b ∈ f, w.heap.size < b) (hg : w.grownBy wr none) (hga : wr.grownBy wa none) (hg6 : wa.grownBy w6 none)
    (hw : w.heap.size < wr.heap.size) (ho6 : VOw w6 l[j] [c0, c1, c2, c3] f6) (hn6 : New wa w6 f6) : Fill w l (j + 1) (put4 w6 w.heap.size (j * 4) c0 c1 c2 c3) := by
  have h1 := hga.size
  have h2 := hg6.size
  have hk : ∀ b, b < w6.heap.size → b ≠ w.heap.size → (put4 w6 w.heap.size (j * 4) c0 c1 c2 c3).heap[b]? = w6.heap[b]? := fun b hb hne => (put4_gb w6 w.heap.size (j * 4) c0 c1 c2 c3).block b hb (by intro e; injection e with e; exact hne e)
  refine ⟨xs ++ [[c0, c1, c2, c3]], f ++ f6, _, put4_blk hh6 c0 c1 c2 c3, by simp [hs], ?_, ?_, ?_, ?_, ?_⟩
  · rw [show (j + 1) * 4 = j * 4 + 4 by omega, put4_take cur (j * 4) (by omega), htk, List.flatten_append]
    simp
  · rw [List.take_succ_eq_append_getElem hlt]
    refine VOwAll.snoc _ _ _ (VOwAll.keep _ _ _ hall fun b hb => ?_) (VOw.keep _ _ _ ho6 fun b hb => ?_)
    · have hb1 := VOwAll.lt _ _ _ hall b hb
      have hb2 := hbig b hb
      rw [hk b (by omega) (by omega), hg6.block b (by omega) (by simp), hga.block b (by omega) (by simp)]
    · have hb1 := hn6.2 b hb
      exact hk b (by omega) (by omega)
  · refine List.nodup_append.2 ⟨hnd, hn6.1, fun x hx y hy e => ?_⟩
    have := VOwAll.lt _ _ _ hall x hx
    have := (hn6.2 y hy).1
    omega
  · intro b hb
    rcases List.mem_append.1 hb with hb | hb
    · exact hbig b hb
    · have := (hn6.2 b hb).1
      omega
  · exact gb_trans (gb_trans hg (gb_trans hga hg6 (.inl rfl)) (.inl rfl)) (put4_gb w6 w.heap.size (j * 4) c0 c1 c2 c3) (.inr (.inr ⟨_, rfl, Nat.le_refl _⟩))
theorem Fill.done {w wr : World} {l : List Vl} (h : Fill w l l.length wr) (h0 : 0 < l.length) : NewL l w (.returned (.slice (some ⟨w.heap.size, 0, none⟩) l.length l.length)) wr := by
  obtain ⟨xs, f, cur, hh, hs, htk, hall, hnd, hbig, hg⟩ := h
  rw [List.take_length] at hall
  have hlen : (List.flatten xs).length = l.length * 4 := by rw [flat4_length hall.all4, hall.length]
  have hne : List.flatten xs ≠ [] := by intro e; rw [e] at hlen; simp at hlen; omega
  refine ⟨_, _, xs, [w.heap.size], f, rfl, Nat.le_refl _, .inr ⟨_, _, cur, rfl, rfl, hh, by rw [hlen]; exact htk, hne⟩, hall, ⟨?_, ?_⟩, hg⟩
  · simp only [List.singleton_append, List.nodup_cons]
    exact ⟨fun hm => by have := hbig _ hm; omega, hnd⟩
  · intro b hb
    rcases List.mem_append.1 hb with hb | hb
    · obtain rfl := List.mem_singleton.1 hb
      exact ⟨Nat.le_refl _, blk_lt hh⟩
    · exact ⟨Nat.le_of_lt (hbig b hb), VOwAll.lt _ _ _ hall b hb⟩

set_option maxHeartbeats 8000000 in
set_option maxRecDepth 100000 in
theorem cloneAll_of {d : Nat} (hC : CloneC d) (l : List Vl) (w : World) (B : Nat) (A : Option Addr) (c : Nat) (hd : ∀ x ∈ l, x.depth ≤ d) (ht : Vl.tots l ≤ 1100000) (hB : B ≤ w.heap.size) (h : RdV w B A l) :
    Calls Tryz.prog 63 #[.slice A l.length c] w (NewL l w) := by
  by_cases h0 : l = []
  · subst h0
    go_enter Tryz.func63, Tryz.ntmps63
    go_wp2_with fail
    go_ret
    exact ⟨none, 0, [], [], [], rfl, Nat.le_refl _, .inl ⟨rfl, rfl⟩, ⟨rfl, rfl⟩, New.nil_ _ _, gb_refl w none⟩
  have hl0 : 0 < l.length := List.length_pos_iff.2 h0
  have IH := hide hC
  have H := hide h
  have HD := hide hd
  have HT := hide (fun x (hx : x ∈ l) => Nat.le_trans (Vl.tot_mem hx) ht)
  have l1 : l.length ≤ 1100000 := Nat.le_trans (Vl.length_le_tots l) ht
  have HBB := hide hB
  have e0 : ((l.length : Int) == 0) = false := beq_eq_false_iff_ne.2 (by omega)
  obtain ⟨i1, hi1, hiz, his, hib⟩ := info_parts Tryz.infoV
  have HI1 := hide hi1
  have HIZ := hide hiz
  have HIS := hide his
  have HIB := hide (show i1.bytes * l.length ≤ 281474976710656 by rw [hib]; omega)
  have HML := hide (show l.length ≤ maxLen by unfold maxLen; omega)
  clear hC h hd ht hB h0 hi1 hiz his hib
  go_enter Tryz.func63, Tryz.ntmps63
  go_wp2_with (refine wpList_make_full _ rfl (.tmp 10) (.tmp 10) 24 rfl w.heap.size 26 i1 (.agg #[.int .i64 0, .slice none 0 0, .slice none 0 0, .slice none 0 0]) 4 Tryz.underlying24 HI1.out HIZ.out HIS.out .i64 .i64 _ _ l.length rfl rfl rfl rfl HIB.out HML.out (Nat.le_refl _) ?_; intro w1 ho1 hg1; have HO1 := hide ho1; have HG1 := hide hg1; clear ho1 hg1)
  go_loopw [14] (fun i wr => ∃ j : Nat, i = .int .i64 (j : Int) ∧ j ≤ l.length ∧ Fill w l j wr) (fun i _ => l.length - (intOf i).toNat)
  case atStart =>
    refine ⟨0, rfl, Nat.zero_le _, [], [], ?_⟩
    rcases HO1.out.2 with ⟨h, _⟩ | ⟨g, cap, cur, hv, _, hh, _, _, hs, _⟩
    · cases h
    · injection hv with e1 e2 e3
      subst e3
      obtain rfl : w.heap.size = g := by simpa using e1
      exact ⟨cur, hh, hs, by simp, ⟨rfl, rfl⟩, List.nodup_nil, by simp, HG1.out⟩
  case round =>
    obtain ⟨j, rfl, hj, hfill⟩ := hrel
    have HF := hide hfill
    clear hfill
    by_cases hlt : j < l.length
    · have hlt1 : (j : Int) < (l.length : Int) := by omega
      obtain ⟨xs, f, cur, hh, hs, htk, hall, hnd, hbig, hg⟩ := HF.out
      obtain ⟨q, o, xA, xc, yA, yc, zA, zc, rfl, hqB, hc4, hvb⟩ := H.out.at_ hlt
      obtain ⟨d0, d1, d2, d3⟩ := hc4.gb hg
      have hga : wr.grownBy (wr.alloc (.cells #[.int .i64 l[j].t, .slice xA l[j].n.length xc, .slice yA l[j].s.length yc, .slice zA l[j].l.length zc] 26)) none := gb_alloc (gb_refl wr none) _
      have hgw := gb_trans hg hga (.inl rfl)
      have HCALL := hide (IH.out l[j] _ B xA xc yA yc zA zc (HD.out _ (List.getElem_mem hlt)) (HT.out _ (List.getElem_mem hlt)) (Nat.le_trans HBB.out hgw.size) (hvb.gb hgw HBB.out))
      have HGA := hide hga
      have HH := hide hh
      have HS := hide hs
      have HTK := hide htk
      have HALL := hide hall
      have HND := hide hnd
      have HBIG := hide hbig
      have HGG := hide hg
      clear hc4 hvb hga hgw hh hs htk hall hnd hbig hg
      go_wp2_with fail
      refine HCALL.out.mono ?_
      rintro e w6 ⟨aA, ac, bA, bc, cA, cc, f6, rfl, ho6, hn6, hg6⟩
      have HO6 := hide ho6
      have HN6 := hide hn6
      have HG6 := hide hg6
      clear ho6 hn6 hg6
      have hh6 := (HG6.out.block _ (by have := blk_lt HH.out; have := HGA.out.size; omega) (by simp)).trans ((HGA.out.block _ (blk_lt HH.out) (by simp)).trans HH.out)
      have hi4 : j * 4 + 4 ≤ cur.size := (by have := HS.out; omega)
      obtain ⟨u0, u1, u2, u3, p0, p1, p2, p3⟩ := four_cells hh6 hi4
      have z0 := blk_frozen hh6 (j * 4)
      have z1 := blk_frozen hh6 (j * 4 + 1)
      have z2 := blk_frozen hh6 (j * 4 + 2)
      have z3 := blk_frozen hh6 (j * 4 + 3)
      have HH6 := hide hh6
      have HI4 := hide hi4
      clear hh6 hi4
      go_wp2_with fail
      go_roundw
      case rel => exact ⟨j + 1, by go_num, by omega, Fill.step hlt HH6.out HS.out HTK.out HALL.out HND.out HBIG.out HGG.out HGA.out HG6.out (blk_lt HH.out) HO6.out HN6.out⟩
      case measure => simp [intOf]; omega
    · have hlt1 : ¬ (j : Int) < (l.length : Int) := by omega
      have HE := hide (show j = l.length by omega)
      go_wp2_with fail
      go_ret
      exact Fill.done (by rw [← HE.out]; exact HF.out) hl0

theorem NewV.of_parts {v : Vl} {w wa w1 w2 w3 : World} {A1 A2 A3 : Option Addr} {c1 c2 c3 : Nat} {xs : List (List Value)} {f g : List Nat} (hsz : wa.heap.size = w.heap.size + 2) (hg : w.grownBy wa none)
    (hc1 : v.n.length ≤ c1) (ho1 : w1.ownsRow wa.heap.size 2 1 (.slice A1 v.n.length c1) v.n.length (i64s v.n)) (hg1 : wa.grownBy w1 none)
    (hc2 : v.s.length ≤ c2) (ho2 : w2.ownsRow w1.heap.size 9 1 (.slice A2 v.s.length c2) v.s.length (strs v.s)) (hg2 : w1.grownBy w2 none)
    (hc3 : v.l.length ≤ c3) (ho3 : Own w3 f A3 (List.flatten xs)) (ha : VOwAll w3 v.l xs g) (hn : New w2 w3 (f ++ g)) (hg3 : w2.grownBy w3 none) :
    NewV v w (.returned (.agg #[.int .i64 v.t, .slice A1 v.n.length c1, .slice A2 v.s.length c2, .slice A3 v.l.length c3])) (put4 w3 (w.heap.size + 1) 0 (.int .i64 v.t) (.slice A1 v.n.length c1) (.slice A2 v.s.length c2) (.slice A3 v.l.length c3)) := by
  obtain ⟨f1, o1, b1⟩ := Own.of_row ho1
  obtain ⟨f2, o2, b2⟩ := Own.of_row ho2
  have s1 := hg1.size
  have s2 := hg2.size
  have s3 := hg3.size
  have hk : ∀ b, b < w3.heap.size → b ≠ w.heap.size + 1 → (put4 w3 (w.heap.size + 1) 0 (.int .i64 v.t) (.slice A1 v.n.length c1) (.slice A2 v.s.length c2) (.slice A3 v.l.length c3)).heap[b]? = w3.heap[b]? := fun b hb hne => (put4_gb w3 (w.heap.size + 1) 0 _ _ _ _).block b hb (by intro e; injection e with e; exact hne e)
  have hs4 := put4_size w3 (w.heap.size + 1) 0 (.int .i64 v.t) (.slice A1 v.n.length c1) (.slice A2 v.s.length c2) (.slice A3 v.l.length c3)
  refine ⟨A1, c1, A2, c2, A3, c3, f1 ++ (f2 ++ (f ++ g)), rfl, VOw.mk_ ⟨hc1, hc2, hc3⟩ (o1.keep fun b hb => ?_) (o2.keep fun b hb => ?_) (ho3.keep fun b hb => ?_) (VOwAll.keep _ _ _ ha fun b hb => ?_), ?_, ?_⟩
  · have := b1 b hb
    rw [hk b (by omega) (by omega), hg3.block b (by omega) (by simp), hg2.block b (by omega) (by simp)]
  · have := b2 b hb
    rw [hk b (by omega) (by omega), hg3.block b (by omega) (by simp)]
  · have := hn.2 b (by simp [hb])
    exact hk b (by omega) (by omega)
  · have := hn.2 b (by simp [hb])
    exact hk b (by omega) (by omega)
  · have n1 : New wa w1 f1 := New.one b1 o1.len (Nat.le_refl _)
    have n2 : New w1 w2 f2 := New.one b2 o2.len (Nat.le_refl _)
    exact ((n1.app (n2.app hn s2 s3) s1 (by omega)).more (by omega)).less (by omega)
  · exact gb_trans (gb_trans hg (gb_trans hg1 (gb_trans hg2 hg3 (.inl rfl)) (.inl rfl)) (.inl rfl)) (put4_gb w3 (w.heap.size + 1) 0 _ _ _ _) (.inr (.inr ⟨_, rfl, by omega⟩))

set_option maxHeartbeats 8000000 in
set_option maxRecDepth 100000 in
theorem vClone_d (d : Nat) : CloneC d := by
  induction d with
  | zero => intro v; intros; rw [Vl.depth_def] at *; omega
  | succ d ih =>
    intro v w B nA nc sA sc lA lc hd ht hB hv
    obtain ⟨l1, l2, l3, l4⟩ := Vl.lens v ht
    obtain ⟨wa, hwa⟩ : ∃ wa, wa = (w.alloc (.cells #[.int .i64 v.t, .slice nA v.n.length nc, .slice sA v.s.length sc, .slice lA v.l.length lc] 26)).alloc (.cells #[.int .i64 0, .slice none 0 0, .slice none 0 0, .slice none 0 0] 26) := ⟨_, rfl⟩
    have hg : w.grownBy wa none := by rw [hwa]; exact gb_alloc (gb_alloc (gb_refl w none) _) _
    have hc := (C4.box w (.int .i64 v.t) (.slice nA v.n.length nc) (.slice sA v.s.length sc) (.slice lA v.l.length lc) 26).gb (gb_alloc (gb_refl _ none) (.cells #[.int .i64 0, .slice none 0 0, .slice none 0 0, .slice none 0 0] 26))
    have hr : wa.heap[w.heap.size + 1]? = some (.cells #[.int .i64 0, .slice none 0 0, .slice none 0 0, .slice none 0 0] 26 (0, 0)) := by
      have h := heap_alloc_new (w.alloc (.cells #[.int .i64 v.t, .slice nA v.n.length nc, .slice sA v.s.length sc, .slice lA v.l.length lc] 26)) (.cells #[.int .i64 0, .slice none 0 0, .slice none 0 0, .slice none 0 0] 26)
      have e : (w.alloc (.cells #[.int .i64 v.t, .slice nA v.n.length nc, .slice sA v.s.length sc, .slice lA v.l.length lc] 26)).heap.size = w.heap.size + 1 := by simp
      rw [e] at h
      rw [hwa]
      exact h
    rw [← hwa] at hc
    have hbw := Nat.le_trans hB hg.size
    have hva := hv.gb hg hB
    have EN := hide (fun w2 (k : wa.grownBy w2 none) => cloneI_any nA nc B v.n w2 (hva.gb k hbw).n (Nat.le_trans hbw k.size) l1)
    have ES := hide (fun w2 (k : wa.grownBy w2 none) => cloneS_any sA sc B v.s w2 (hva.gb k hbw).s (Nat.le_trans hbw k.size) l2)
    have EL := hide (fun w2 (k : wa.grownBy w2 none) => cloneAll_of ih v.l w2 B lA lc (fun x hx => Vl.depth_part hd hx) l4 (Nat.le_trans hbw k.size) (hva.gb k hbw).l)
    have HG := hide hg
    have HWE := hide hwa
    have HR := hide hr
    have HSZ := hide (show wa.heap.size = w.heap.size + 2 by rw [hwa]; simp)
    have q0 : wa.cell? ⟨w.heap.size, 0, none⟩ = some (.int .i64 v.t) := hc.c0
    have q1 : wa.cell? ⟨w.heap.size, 1, none⟩ = some (.slice nA v.n.length nc) := hc.c1
    have q2 : wa.cell? ⟨w.heap.size, 2, none⟩ = some (.slice sA v.s.length sc) := hc.c2
    have q3 : wa.cell? ⟨w.heap.size, 3, none⟩ = some (.slice lA v.l.length lc) := hc.c3
    clear ih hd ht hB hv hg hwa hc hva hbw hr
    go_enter Tryz.func96, Tryz.ntmps96
    go_wp2_with fail
    rw [← HWE.out]
    go_region_held3 (fun w' => w'.cell? ⟨w.heap.size, 0, none⟩ = some (.int .i64 v.t) ∧ w'.cell? ⟨w.heap.size, 1, none⟩ = some (.slice nA v.n.length nc) ∧ w'.cell? ⟨w.heap.size, 2, none⟩ = some (.slice sA v.s.length sc) ∧ w'.cell? ⟨w.heap.size, 3, none⟩ = some (.slice lA v.l.length lc))
      (first | exact ⟨q0, q1, q2, q3⟩ | exact ⟨cell_gb q0 HG3.out, cell_gb q1 HG3.out, cell_gb q2 HG3.out, cell_gb q3 HG3.out⟩ | exact ⟨cell_gb q0 HG2.out, cell_gb q1 HG2.out, cell_gb q2 HG2.out, cell_gb q3 HG2.out⟩ | exact ⟨cell_gb q0 HG1.out, cell_gb q1 HG1.out, cell_gb q2 HG1.out, cell_gb q3 HG1.out⟩ | go_keep)
      (first
        | (go_simp; go_at_call 121; refine (EN.out _ (gb_drew (gb_refl wa none))).mono ?_; rintro e w1 ⟨A1, c1, rfl, hc1, ho1, hg1⟩; have HC1 := hide hc1; have HO1 := hide ho1; have HG1 := hide (show wa.grownBy w1 none from gb_trans (gb_drew (gb_refl wa none)) hg1 (.inl rfl)); have HS1 := hide hg1.size; clear hc1 ho1 hg1)
        | (go_simp; go_at_call 122; refine (ES.out _ HG1.out).mono ?_; rintro e w2 ⟨A2, c2, rfl, hc2, ho2, hg2⟩; have HC2 := hide hc2; have HO2 := hide ho2; have HG12 := hide hg2; have HG2 := hide (gb_trans HG1.out hg2 (.inl rfl)); clear hc2 ho2 hg2)
        | (go_simp; go_at_call 63; refine (EL.out _ HG2.out).mono ?_; rintro e w3 ⟨A3, c3, xs, f, g, rfl, hc3, ho3, hall3, hn3, hg3⟩; have HC3 := hide hc3; have HO3 := hide ho3; have HA3 := hide hall3; have HN3 := hide hn3; have HG23 := hide hg3; have HG3 := hide (gb_trans HG2.out hg3 (.inl rfl)); have hr3 := (HG3.out.block _ (blk_lt HR.out) (by simp)).trans HR.out; have p0 : w3.cell? ⟨w.heap.size + 1, 0, none⟩ = some (.int .i64 0) := (by rw [blk_cell hr3]; rfl); have p1 : w3.cell? ⟨w.heap.size + 1, 1, none⟩ = some (.slice none 0 0) := (by rw [blk_cell hr3]; rfl); have p2 : w3.cell? ⟨w.heap.size + 1, 2, none⟩ = some (.slice none 0 0) := (by rw [blk_cell hr3]; rfl); have p3 : w3.cell? ⟨w.heap.size + 1, 3, none⟩ = some (.slice none 0 0) := (by rw [blk_cell hr3]; rfl); have z0 := blk_frozen hr3 0; have z1 := blk_frozen hr3 1; have z2 := blk_frozen hr3 2; have z3 := blk_frozen hr3 3; have HR3 := hide hr3; clear hc3 ho3 hall3 hn3 hg3 hr3))
    go_wp2_with fail
    refine bodyPost_ret (v := .agg #[.int .i64 v.t, .slice A1 v.n.length c1, .slice A2 v.s.length c2, .slice A3 v.l.length c3]) (by simp [results, Tryz.results96, go_sem, p0, p1, p2, p3]) rfl ?_
    exact NewV.of_parts HSZ.out HG.out HC1.out HO1.out HG1.out HC2.out HO2.out HG12.out HC3.out HO3.out HA3.out HN3.out HG23.out
end Go.Proofs.YtnilcnobngcbgaaGreat
