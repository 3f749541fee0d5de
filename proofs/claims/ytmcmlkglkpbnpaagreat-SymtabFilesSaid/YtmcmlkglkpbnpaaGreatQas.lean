/-
  The document's Intern.
-/
import Derived.Test.YtmcmlkglkpbnpaaGreatQaq
import Derived.Test.YtmcmlkglkpbnpaaGreatQar
import Derived.StillTailTactics
namespace Go.Proofs.YtmcmlkglkpbnpaaGreat
open Go.RowKit
theorem own_apart {w : World} {b1 b2 s1 s2 n1 n2 : Nat} {e1 e2 : TypeId} {v1 v2 : Value} {xs ys : List Value} (h : w.ownsRow b1 e1 s1 v1 n1 xs) (k : w.ownsRow b2 e2 s2 v2 n2 ys) (hne : e1 ≠ e2) : v2.ownBlock = none ∨ v2.ownBlock ≠ v1.ownBlock := by
 rcases k.2 with ⟨rfl, _⟩ | ⟨g, cap, cur, rfl, _, hg, _⟩
 ·exact .inl rfl
 ·exact .inr fun e => own_ne h hg hne e.symm
theorem step_append_row' {w : World} {ops : Array Oper} {o : Oper} {a : Act} {K : Act → World → Prop} {Q : Exit → Act → World → Prop} {E : Prop} (hgd : o.guard = none) (s x : Operand) (t : TypeId)
  (ho : o.op = .call { callee := .builtin .append, args := #[s, x], argTypes := #[t, t] })
  (base : Nat) (e : TypeId) (i : TypeInfo) (z : Value) (size bytes : Nat) (ht : Tryz.prog.underlying t = some (.slice e)) (hi : Tryz.prog.info? e = some i) (hz : i.zero = some z)
  (hsize : i.size = size) (hby : i.bytes = bytes) (hzs : z.cells.size = size) (hsz : 0 < size)
  (v : Value) (n : Nat) (xs : List Value) (hs : a.eval s = v) (hown : w.ownsRow base e size v n xs)
  (B : Nat) (A : Option Addr) (m c : Nat) (news : List Value) (hx : a.eval x = .slice A m c) (hl : news.length = m * size) (hr : Rd w B A news) (h1 : ∀ u ∈ news, u.oneCell' = true)
  (h63 : n + m ≤ maxLen) (hbytes : (n + m) * bytes ≤ 140737488355328) (hbase : base ≤ w.heap.size)
  (h : ∀ v' w', w'.ownsRow base e size v' (n + m) (xs ++ news) → w.grownBy w' v.ownBlock → (v'.ownBlock = v.ownBlock ∨ v'.ownBlock = some w.heap.size) → K (a.put o.dst v') w') :
  if Region.wanted o (yielded ops a.tmps) = true then Oper.wp Tryz.prog o a w K Q else E := by
 have hw : Region.wanted o (yielded ops a.tmps) = true := by simp [Region.wanted, hgd]
 rw [if_pos hw]
 exact wp_append_rd w s x t ho base e i z size bytes ht hi hz hsize hby hzs hsz v n xs hs hown B A m c news hx hl hr h1 h63 hbytes hbase h
theorem own_past {w w' : World} {b1 b2 s1 s2 n1 n2 : Nat} {e1 e2 : TypeId} {v1 v2 : Value} {xs ys : List Value} (h : w.ownsRow b1 e1 s1 v1 n1 xs) (k : w.ownsRow b2 e2 s2 v2 n2 ys) (hne : e1 ≠ e2) (hg : w.grownBy w' v1.ownBlock) : w'.ownsRow b2 e2 s2 v2 n2 ys :=
 k.kept hg (own_apart h k hne)
theorem RTab.past {w w' : World} {base g b n s : Nat} {e : TypeId} {v : Value} {L : List ByteArray} {xs : List Value} (h : RTab w base g L) (ho : w.ownsRow b e s v n xs) (h1 : e ≠ 68) (h2 : e ≠ 9) (hg : w.grownBy w' v.ownBlock) : RTab w' base g L := by
 obtain ⟨u, k1, k2, k3⟩ := h
 exact ⟨u, blk_keep k1 hg (fun e => own_ne ho k1 h1 e.symm), own_past ho k2 h2 hg, k3⟩
def RInternPost (g : Nat) (L l : List ByteArray) (w : World) (e : Ending) (w' : World) : Prop :=
 (l.any unf = true ∧ e = .returned (.tuple #[.slice none 0 0, .slice none 0 0, .int .i64 50]) ∧ w.grownBy w' none) ∨
 (l.any unf = false ∧ 65536 < (inter L l).1.length ∧ e = .returned (.tuple #[.slice none 0 0, .slice none 0 0, .int .i64 6]) ∧ w.grownBy w' none) ∨
 (l.any unf = false ∧ (inter L l).1.length ≤ 65536 ∧ ∃ A c Ab cb, e = .returned (.tuple #[.slice A l.length c, .slice Ab (syB ((inter L l).1.drop L.length)).length cb, .int .i64 0]) ∧ w'.ownsRow w.heap.size 3 1 (.slice A l.length c) l.length (nats (inter L l).2) ∧
  Rd w' w'.heap.size Ab (u8s (syB ((inter L l).1.drop L.length))) ∧ (∃ v', w'.heap[g]? = some (.cells #[v'] 68 (0, 0)) ∧ w'.ownsRow w.heap.size 9 1 v' (inter L l).1.length (strs (inter L l).1)) ∧ w.grownBy w' (some g))
def RI (w : World) (gx : Nat) (L l : List ByteArray) (k : Nat) (vo vb : Value) (wr : World) : Prop :=
 RTab wr w.heap.size gx (inter L (l.take k)).1 ∧ wr.ownsRow w.heap.size 3 1 vo k (nats (inter L (l.take k)).2) ∧
  wr.ownsRow w.heap.size 5 1 vb (syB ((inter L (l.take k)).1.drop L.length)).length (u8s (syB ((inter L (l.take k)).1.drop L.length))) ∧ w.grownBy wr none
theorem nats_snoc (l : List Nat) (n : Nat) : nats (l ++ [n]) = nats l ++ [.int .i64 (n : Int)] := by simp [nats]
set_option maxHeartbeats 8000000 in
set_option maxRecDepth 100000 in
theorem rintern_any (base g : Nat) (L l : List ByteArray) (A : Option Addr) (n c B : Nat) (w : World) (h : RTab w base g L) (hr : Rd w B A (strs l)) (hB : B ≤ w.heap.size) (hn : l.length = n) (hl : n ≤ 60000) (hL : L.length ≤ 65536) (hs : ∀ s ∈ l, s.size ≤ 1000000000) :
  Calls Tryz.prog 56 #[.pointer (some ⟨g, 0, none⟩), .slice A n c] w (RInternPost g L l w) := by
 subst hn
 obtain ⟨A0, c0, h0, hn0, hm0, hrd0, hB0⟩ := h.open_
 obtain ⟨i1, hi1, hiz, his, hib⟩ := info_parts Tryz.infoTy
 obtain ⟨i2, hj1, hjz, hjs, hjb⟩ := info_parts Tryz.infoI
 have HI1 := hide hi1
 have HIZ := hide hiz
 have HIS := hide his
 have HIB := hide hib
 have HJ1 := hide hj1
 have HJZ := hide hjz
 have HJS := hide hjs
 have HJB := hide hjb
 have HR := hide hr
 have HBB := hide hB
 have HS := hide hs
 have HRD := hide hrd0
 have HRT := hide hB0
 have HL0 := hide hL
 have HGL := hide (blk_lt hB0.1)
 clear hi1 hiz his hib hj1 hjz hjs hjb hr hB hs hrd0 hB0 h hn0 hm0
 go_enter Tryz.func56, Tryz.ntmps56
 go_wp2_with fail
 go_loopw [7] (fun i wr => ∃ k : Nat, i = .int .i64 (k : Int) ∧ k ≤ l.length ∧ (∀ (j : Nat) (hj : j < l.length), j < k → unf l[j] = false) ∧ w = wr) (fun i _ => l.length - (intOf i).toNat)
 case atStart => exact ⟨0, rfl, Nat.zero_le _, fun j _ h => by omega, rfl⟩
 case round =>
  obtain ⟨k, rfl, hk, hall, rfl⟩ := hrel
  have HALL := hide hall
  clear hall
  by_cases hlt : k < l.length
  ·have hlt1 : (k : Int) < (l.length : Int) := by omega
   obtain ⟨ad, rfl, _, hcell⟩ := HR.out.str hlt
   have HSY := hide (rsymbol_any l[k] w (HS.out _ (List.getElem_mem hlt)))
   have HNO := hide (fun hu : unf l[k] = true => List.any_eq_true.2 ⟨_, List.getElem_mem hlt, hu⟩)
   have HYES := hide (fun (hu : unf l[k] = false) (j : Nat) (hj : j < l.length) (hjk : j < k + 1) => show unf l[j] = false from by
    by_cases e : j = k
    ·subst e; exact hu
    ·exact HALL.out j hj (by omega))
   obtain ⟨s, hs⟩ : ∃ s, s = l[k] := ⟨_, rfl⟩
   rw [← hs] at hcell HSY HNO HYES
   clear hs
   cases hu : unf s
   ·rw [hu] at HSY
    have HY := hide (HYES.out hu)
    clear hu
    go_wp2_with (go_at_call 90; refine HSY.out.mono ?_; rintro e wq ⟨rfl, rfl⟩)
    go_roundw
    case rel => exact ⟨k + 1, by go_num, by omega, HY.out, trivial⟩
    case measure => simp [intOf]; omega
   ·rw [hu] at HSY
    have HN := hide (HNO.out hu)
    clear hu
    go_wp2_with (go_at_call 90; refine HSY.out.mono ?_; rintro e wq ⟨rfl, rfl⟩)
    go_ret3
    exact .inl ⟨HN.out, rfl, gb_refl _ none⟩
  ·have hlt1 : ¬ (k : Int) < (l.length : Int) := by omega
   have HU : Hid (l.any unf = false) := hide (Bool.eq_false_iff.2 fun hc => by
    obtain ⟨s, hs, hu⟩ := List.any_eq_true.1 hc
    obtain ⟨j, hj, rfl⟩ := List.getElem_of_mem hs
    rw [HALL.out j hj (by omega)] at hu
    cases hu)
   have HML : Hid (0 + L.length ≤ maxLen) := hide (by unfold maxLen; omega)
   have HMB : Hid ((0 + L.length) * 16 ≤ 140737488355328) := hide (by omega)
   have HE0 := hide (own_emptyY w 9 1)
   have h0a : (w.alloc (.cells #[] 9)).cell? ⟨g, 0, none⟩ = some (.slice A0 L.length c0) := cell_gb h0 (gb_alloc (gb_refl w none) _)
   clear HALL hk
   go_wp2_with (at_builtin; refine wpList_append_rd _ rfl (.tmp 25) (.tmp 29) 33 rfl w.heap.size 9 i1 (.string ⟨#[]⟩) 1 16 Tryz.underlying33 HI1.out HIZ.out HIS.out HIB.out rfl (Nat.succ_pos 0) (.slice (some ⟨w.heap.size, 0, none⟩) 0 0) 0 [] rfl HE0.out w.heap.size A0 L.length c0 (strs L) rfl (by rw [strs_length, Nat.mul_one]) (HRD.out.grown (gb_alloc (gb_refl w none) _) (Nat.le_refl _) (by simp)) (strs_cell L) HML.out HMB.out (by simp) ?_; intro v2 w2 ho2 hg2 hb2; rw [Nat.zero_add, List.nil_append] at ho2; obtain ⟨A2, c2, hv2, _, _, _⟩ := own_form ho2; subst hv2; have HO2 := hide ho2; have HG2 := hide (gb_trans (gb_alloc (gb_refl w none) (.cells #[] 9)) hg2 (.inr (.inr ⟨_, rfl, Nat.le_refl _⟩))); clear ho2 hg2 hb2)
   obtain ⟨w3, hw3⟩ : ∃ w3, w3 = w2.alloc (.cells #[.slice A2 L.length c2] 68) := ⟨_, rfl⟩
   have hg3 : w2.grownBy w3 none := by rw [hw3]; exact gb_alloc (gb_refl w2 none) _
   have HT3 : Hid (RTab w3 w.heap.size w2.heap.size L) := hide ⟨.slice A2 L.length c2, by rw [hw3]; exact heap_alloc_new w2 _, own_grown HO2.out hg3, HG2.out.size⟩
   have HG3 := hide (gb_trans HG2.out hg3 (.inl rfl))
   rw [← hw3]
   generalize w2.heap.size = gx at *
   have HW0 := hide (show RI w gx L l 0 (.slice none 0 0) (.slice none 0 0) w3 from ⟨HT3.out, by rw [List.take_zero, inter_nil]; exact World.ownsRow_nil _ _ _ _, by rw [List.take_zero, inter_nil, List.drop_length, syB_nil]; exact World.ownsRow_nil _ _ _ _, HG3.out⟩)
   clear hw3 hg3
   go_loopw [9, 10, 11, 12] (fun vo vb i _ wr => ∃ k : Nat, i = .int .i64 (k : Int) ∧ k ≤ l.length ∧ RI w gx L l k vo vb wr) (fun _ _ i _ _ => l.length - (intOf i).toNat)
   case atStart => exact ⟨0, rfl, Nat.zero_le _, HW0.out⟩
   case round =>
    obtain ⟨k, rfl, hk, hri⟩ := hrel
    obtain ⟨hT, hO, hBb, hg⟩ := hri
    have hpre : ∃ r, (inter L (l.take k)).1 = L ++ r ∧ ∀ x ∈ r, x.size ≤ 64 := by
     obtain ⟨r, h1, h2⟩ := inter_pre (l.take k) L []
     exact ⟨r, h1, fun x hx => unf_size (Bool.eq_false_iff.2 fun hc => by
      have := HU.out
      rw [List.any_eq_true.2 ⟨x, List.mem_of_mem_take (h2 x hx), hc⟩] at this
      cases this)⟩
    have hsize := inter_take_size L l k hk
    by_cases hlt : k < l.length
    ·have hlt1 : (k : Int) < (l.length : Int) := by omega
     have hit := inter_take L l k hlt
     obtain ⟨ad, rfl, _, hcell⟩ := (HR.out.grown hg HBB.out (by simp)).str hlt
     have hca : ∀ wx : World, w.grownBy wx none → wx.cell? (ad.add k) = some (.string l[k]) := fun wx hx => by
      obtain ⟨ad', e1, _, h1⟩ := (HR.out.grown hx HBB.out (by simp)).str hlt
      injection e1 with e1
      rw [e1]
      exact h1
     have HCA := hide hca
     clear hca
     have hsz : l[k].size ≤ 64 := unf_size (Bool.eq_false_iff.2 fun hc => by
      have := HU.out
      rw [List.any_eq_true.2 ⟨_, List.getElem_mem hlt, hc⟩] at this
      cases this)
     generalize inter L (l.take k) = q at *
     obtain ⟨M, ns⟩ := q
     dsimp only at hT hO hBb hpre hsize
     obtain ⟨sk, hsk⟩ : ∃ sk, sk = l[k] := ⟨_, rfl⟩
     rw [← hsk] at hcell hit hsz HCA
     clear hsk
     obtain ⟨r, hM, hrs⟩ := hpre
     have hdr : M.drop L.length = r := by rw [hM, List.drop_left]
     have hrl : M.length = L.length + r.length := by rw [hM, List.length_append]
     have hxl := syB_length r hrs
     rw [hdr] at hBb
     obtain ⟨X, hX⟩ : ∃ X, X = syB r := ⟨_, rfl⟩
     rw [← hX] at hBb hxl
     have hx5 : X.length ≤ 6000000 := by omega
     have HX := hide hX
     have HIT := hide hit
     have HDR := hide hM
     have HT := hide hT
     have HO := hide hO
     have HBY := hide hBb
     have HG := hide hg
     have HSZ := hide hsz
     have HML2 : Hid (M.length + 1 ≤ maxLen) := hide (by unfold maxLen; omega)
     have HMB2 : Hid ((M.length + 1) * 16 ≤ 140737488355328) := hide (by omega)
     have HK1 : Hid (k + 1 ≤ maxLen) := hide (by unfold maxLen; omega)
     have HK2 : Hid ((k + 1) * 8 ≤ 140737488355328) := hide (by omega)
     have HML3 : Hid (M.length ≤ 1000000) := hide (by omega)
     have HSW := hide hg.size
     have HX5 := hide hx5
     clear hX hit hM hT hO hBb hg hsz hdr hrl hxl hx5 hrs hsize
     cases hnum : numOf M sk with
     | some m =>
      have HNU := hide (rnumber_any w.heap.size gx M sk wr HT.out HML3.out)
      rw [numI_some hnum] at HNU
      have HE := hide (step1_yes (q := (M, ns)) hnum)
      clear hnum
      go_wp2_with (first
       | (go_at_call 60; refine HNU.out.mono ?_; rintro e wq ⟨rfl, rfl⟩)
       | (at_builtin; have hga := gb_alloc (gb_refl wr none) (.cells #[.int .i64 (m : Int)] 3); refine wpList_append_rd _ rfl (.tmp 72) (.tmp 74) 55 rfl w.heap.size 3 i2 (.int .i64 0) 1 8 Tryz.underlying55 HJ1.out HJZ.out HJS.out HJB.out rfl (Nat.succ_pos 0) u9 k (nats ns) rfl (own_grown HO.out hga) (wr.heap.size + 1) (some ⟨wr.heap.size, 0, none⟩) 1 1 [.int .i64 (m : Int)] rfl rfl (Rd.new wr #[.int .i64 (m : Int)] 3 _ rfl) (cell1 _ _) HK1.out HK2.out (by have := HSW.out; simp; omega) ?_; intro v5 w5 ho5 hg5 hb5; have HO5 := hide ho5; have HT5 := hide ((HT.out.grown hga).past (own_grown HO.out hga) (by decide) (by decide) hg5); have HB5 := hide (own_past (own_grown HO.out hga) (own_grown HBY.out hga) (by decide) hg5); have HG5 := hide (gb_new (gb_trans HG.out hga (.inl rfl)) (own_grown HO.out hga) hg5); clear ho5 hg5 hb5 hga))
      go_roundw
      case rel =>
       refine ⟨k + 1, by go_num, by omega, ?_, ?_, ?_, HG5.out⟩
       ·rw [HIT.out, HE.out]; exact HT5.out
       ·rw [HIT.out, HE.out, nats_snoc]; exact HO5.out
       ·rw [HIT.out, HE.out]
        show w5.ownsRow _ _ 1 u10 (syB (M.drop L.length)).length (u8s (syB (M.drop L.length)))
        rw [HDR.out, List.drop_left, ← HX.out]
        exact HB5.out
      case measure => simp [intOf]; omega
     | none =>
      have HNU := hide (rnumber_any w.heap.size gx M sk wr HT.out HML3.out)
      rw [numI_none hnum] at HNU
      have HE := hide (step1_no (q := (M, ns)) hnum)
      obtain ⟨A6, c6, q0, _, _, _, hB6⟩ := HT.out.open_
      have hfl := frame_short HSZ.out
      have HFL := hide hfl
      clear hnum hfl
      go_upto_region 15 with (go_at_call 60; refine HNU.out.mono ?_; rintro e wq ⟨rfl, rfl⟩)
      have hka : wr.grownBy (wr.drew.alloc (.cells #[.string sk] 9)) none := gb_alloc (gb_drew (gb_refl wr none)) _
      have HBa := hide (hB6.grown hka)
      have HOd := hide (own_grown HO.out hka)
      have HBYd := hide (own_grown HBY.out hka)
      have HGd := hide (gb_trans HG.out hka (.inl rfl))
      have HBS : Hid (w.heap.size ≤ (wr.drew.alloc (.cells #[.string sk] 9)).heap.size) := hide (Nat.le_trans HSW.out hka.size)
      have HRN := hide (show Rd (wr.drew.alloc (.cells #[.string sk] 9)) (wr.drew.alloc (.cells #[.string sk] 9)).heap.size (some ⟨wr.drew.heap.size, 0, none⟩) [.string sk] from (Rd.new wr.drew #[.string sk] 9 _ rfl).more (by rw [World.size_alloc]; exact Nat.le_refl _))
      have HOC := hide (cellT sk)
      have HL1 : Hid (([.string sk] : List Value).length = 1 * 1) := hide rfl
      have q1 : ∀ o : Obj, (wr.alloc o).cell? ⟨gx, 0, none⟩ = some (.slice A6 M.length c6) := fun o => cell_gb q0 (gb_alloc (gb_refl wr none) o)
      clear hka hB6 HNU
      go_region_law (refine step_append_row' (by rfl) (.tmp 56) (.tmp 61) 33 (by rfl) w.heap.size 9 i1 (.string ⟨#[]⟩) 1 16 Tryz.underlying33 HI1.out HIZ.out HIS.out HIB.out rfl (Nat.succ_pos 0) (.slice A6 M.length c6) M.length (strs M) (by rfl) HBa.out.2.1 (wr.drew.alloc (.cells #[.string sk] 9)).heap.size (some ⟨wr.drew.heap.size, 0, none⟩) 1 1 [.string sk] (by rfl) HL1.out HRN.out HOC.out HML2.out HMB2.out HBS.out ?_; intro v6 w6 ho6 hg6 hb6; obtain ⟨A7, c7, hv7, _, _, _⟩ := own_form ho6; subst hv7; have HEN := hide (HBa.out.entered hg6 ho6); have hh6 := blk_keep HBa.out.1 hg6 (fun e => (own_ne HBa.out.2.1 HBa.out.1 (by decide)) e.symm); have p0 : w6.cell? ⟨gx, 0, none⟩ = some (.slice A6 M.length c6) := (by { rw [blk_cell hh6]; rfl }); have z0 := blk_frozen hh6 0; have ho66 := own_past HBa.out.2.1 HOd.out (by decide) hg6; have hb66 := own_past HBa.out.2.1 HBYd.out (by decide) hg6; have HO7 := hide (ho66.kept (gb_setCell (gb_refl w6 (some gx)) (.inl rfl) (p := ⟨gx, 0, none⟩) (.slice A7 (M.length + 1) c7)) (.inr (own_ne ho66 hh6 (by decide)))); have HBY7 := hide (hb66.kept (gb_setCell (gb_refl w6 (some gx)) (.inl rfl) (p := ⟨gx, 0, none⟩) (.slice A7 (M.length + 1) c7)) (.inr (own_ne hb66 hh6 (by decide)))); have HG7 := hide (HEN.out.2 w HGd.out (Nat.le_refl _)); have hc7 := HCA.out _ HG7.out; clear ho6 hg6 hb6 ho66 hb66 hh6)
      all_goals
       go_wp2_with (first
        | (go_at_call 96; refine (rframe_any sk _ HSZ.out).mono ?_; rintro e w8 ⟨A8, c8, rfl, hr8, hg8⟩; have HR8 := hide hr8; have HT8 := hide (RTab.grown ⟨_, HEN.out.1⟩ hg8); have HO8 := hide (own_grown HO7.out hg8); have HBY8 := hide (own_grown HBY7.out hg8); have HG8 := hide (gb_trans HG7.out hg8 (.inl rfl)); clear hr8 hg8)
        | (at_builtin; refine app8 HBY8.out HR8.out (u8s_length _) (u8s_cell _) (by have := HX5.out; have := HFL.out; omega) (HG8.out.size) rfl rfl rfl rfl ?_; intro v9 w9 ho9 hg9 hb9; have HBY9 := hide ho9; have HT9 := hide (HT8.out.past HBY8.out (by decide) (by decide) hg9); have HO9 := hide (own_past HBY8.out HO8.out (by decide) hg9); have HG9 := hide (gb_new HG8.out HBY8.out hg9); clear ho9 hg9 hb9)
        | (at_builtin; have hga := gb_alloc (gb_refl w9 none) (.cells #[.int .i64 (M.length : Int)] 3); refine wpList_append_rd _ rfl (.tmp 72) (.tmp 74) 55 rfl w.heap.size 3 i2 (.int .i64 0) 1 8 Tryz.underlying55 HJ1.out HJZ.out HJS.out HJB.out rfl (Nat.succ_pos 0) u9 k (nats ns) rfl (own_grown HO9.out hga) (w9.heap.size + 1) (some ⟨w9.heap.size, 0, none⟩) 1 1 [.int .i64 (M.length : Int)] rfl rfl (Rd.new w9 #[.int .i64 (M.length : Int)] 3 _ rfl) (cell1 _ _) HK1.out HK2.out (by have := HG9.out.size; simp; omega) ?_; intro v5 w5 ho5 hg5 hb5; have HO5 := hide ho5; have HT5 := hide ((HT9.out.grown hga).past (own_grown HO9.out hga) (by decide) (by decide) hg5); have HB5 := hide (own_past (own_grown HO9.out hga) (own_grown HBY9.out hga) (by decide) hg5); have HG5 := hide (gb_new (gb_trans HG9.out hga (.inl rfl)) (own_grown HO9.out hga) hg5); clear ho5 hg5 hb5 hga))
       go_roundw
       case rel =>
        refine ⟨k + 1, by go_num, by omega, ?_, ?_, ?_, HG5.out⟩
        ·rw [HIT.out, HE.out]; exact HT5.out
        ·rw [HIT.out, HE.out, nats_snoc]; exact HO5.out
        ·rw [HIT.out, HE.out]
         show w5.ownsRow _ _ 1 _ (syB ((M ++ [sk]).drop L.length)).length (u8s (syB ((M ++ [sk]).drop L.length)))
         rw [HDR.out, List.append_assoc, List.drop_left, syB_snoc, ← HX.out, List.length_append, u8s_append]
         exact HB5.out
       case measure => simp [intOf]; omega
    ·obtain rfl : k = l.length := by omega
     have hlt1 : ¬ (l.length : Int) < (l.length : Int) := by omega
     rw [List.take_length] at hT hO hBb hsize
     clear hpre
     obtain ⟨A6, c6, q0, _, _, _, hB6⟩ := hT.open_
     obtain ⟨Ao, co, rfl, _, _, hro⟩ := own_form hO
     obtain ⟨Ab, cb, rfl, _, _, hrb⟩ := own_form hBb
     have HG := hide hg
     have hbl := blk_keep HRT.out.1 hg (by simp)
     have HML3 := hide (show (inter L l).1.length ≤ 1000000 by omega)
     by_cases hbig : 65536 < (inter L l).1.length
     ·have hb1 : (65536 : Int) < ((inter L l).1.length : Int) := by omega
      have HBG := hide hbig
      clear hT hO hBb hg hB6 hro hrb hbl hbig hsize
      go_wp2_with fail
      go_ret3
      exact .inr (.inl ⟨HU.out, HBG.out, rfl, HG.out⟩)
     ·have hb1 : ¬ (65536 : Int) < ((inter L l).1.length : Int) := by omega
      have HBG := hide (Nat.not_lt.1 hbig)
      have HB6 := hide hB6
      have HRO := hide hro
      have HRB := hide hrb
      have HOO := hide hO
      have HOB := hide hBb
      have HBL := hide hbl
      have p0 : wr.cell? ⟨g, 0, none⟩ = some (.slice A0 L.length c0) := by rw [blk_cell hbl]; rfl
      have z0 := blk_frozen hbl 0
      clear hT hO hBb hg hB6 hro hrb hbl hbig hsize
      go_wp2_with fail
      go_ret3
      have hgs : wr.grownBy (wr.setCell ⟨g, 0, none⟩ (.slice A6 (inter L l).1.length c6)) (some g) := gb_setCell (gb_refl wr (some g)) (.inl rfl) _
      have hrest : ∀ {A : Option Addr} {e : TypeId} {n c b : Nat} {xs : List Value}, e ≠ 68 → wr.ownsRow b e 1 (.slice A n c) n xs → Rd (wr.setCell ⟨g, 0, none⟩ (.slice A6 (inter L l).1.length c6)) (wr.setCell ⟨g, 0, none⟩ (.slice A6 (inter L l).1.length c6)).heap.size A xs := fun he ho => by
       obtain ⟨A', c', e1, _, _, hr⟩ := own_form (ho.kept hgs (.inr (own_ne ho HBL.out he)))
       injection e1 with e1
       rw [e1]
       exact hr
      refine .inr (.inr ⟨HU.out, HBG.out, Ao, co, Ab, cb, rfl, HOO.out.kept hgs (.inr (own_ne HOO.out HBL.out (by decide))), hrest (by decide) HOB.out, ⟨.slice A6 (inter L l).1.length c6, ?_, ?_⟩, ?_⟩)
      ·exact blk_set HBL.out 0 _
      ·exact HB6.out.2.1.kept hgs (.inr (own_ne HB6.out.2.1 HBL.out (by decide)))
      ·exact gb_trans ⟨HG.out.os, HG.out.tape, HG.out.output, HG.out.size, fun i hi _ => HG.out.block i hi (by simp)⟩ hgs (.inl rfl)
end Go.Proofs.YtmcmlkglkpbnpaaGreat
