/-
  Both tables' files: what the law asks of them, Sync.
-/
import Derived.Test.YtmcmlkglkpbnpaaGreatQbq
import Derived.Test.YtmcmlkglkpbnpaaGreatQap
import Derived.Test.YtmcmlkglkpbnpaaGreatQbt
import Derived.Test.YtmcmlkglkpbnpaaGreatQbo
namespace Go.Proofs.YtmcmlkglkpbnpaaGreat
open Go.RowKit
def DAddP (Z ZD : Nat → Prop) (g : Nat) (S : St) (q : Nat) (x : RS × Int × List ByteArray × Option (List Nat)) (gF : Nat) (n : Int) (wx : World) (e : Ending) (w' : World) : Prop :=
 ∃ Z' ZD' : Nat → Prop, (∀ i, Z i → Z' i) ∧ (∀ i, Z' i → Z i ∨ wx.heap.size ≤ i) ∧ (∀ i, ZD' i → ZD i ∨ wx.heap.size ≤ i) ∧ (∀ i, ZD' i → Z' i) ∧ Turned (fun i => ¬ (Z i ∧ ¬ ZD i)) wx w' ∧ Bo w' Z' g S q x.1 w' ∧ DF ZD' w' gF q n x.2.2.1 ∧
  ((x.2.2.2 = none ∧ e = .returned (.tuple #[.slice none 0 0, .int .i64 x.2.1])) ∨
   ∃ out A c, x.2.2.2 = some out ∧ e = .returned (.tuple #[.slice A out.length c, .int .i64 0]) ∧ Rd w' w'.heap.size A (nats out))
section
variable {wx w' : World} {Z ZD : Nat → Prop} {g q gF gT : Nat} {n : Int} {S : St} {R : RS} {L' : List ByteArray} {v' : Value}
theorem df_new (h1 : RSyB wx gF gT q n) (h3 : ZD gF) (h4 : ZD gT) (hne : gF ≠ gT) (hg : wx.grownBy w' (some gT)) (hT : w'.heap[gT]? = some (.cells #[v'] 68 (0, 0))) (ho : w'.ownsRow wx.heap.size 9 1 v' L'.length (strs L')) :
  DF (fun i => ZD i ∨ (wx.heap.size ≤ i ∧ i < w'.heap.size)) w' gF q n L' := by
 refine ⟨gT, v', blk_keep h1 hg (fun e => hne (Option.some.inj e)), ⟨hT, own_base ho (Nat.zero_le _), Nat.zero_le _⟩, .inl h3, .inl h4, fun i hi => ?_⟩
 rcases ho.2 with ⟨rfl, _⟩ | ⟨b, cap, cur, rfl, hb, hh, _⟩
 ·simp [Value.ownBlock] at hi
 ·have : b = i := by simpa [Value.ownBlock] using hi
  subst this
  exact .inr ⟨hb, blk_lt hh⟩
theorem dfin {x : RS × Int × List ByteArray × Option (List Nat)} {e : Ending} (h : Bo wx Z g S q R wx) (hZ : ∀ i, ZD i → Z i) (h1 : RSyB wx gF gT q n) (h3 : ZD gF) (h4 : ZD gT) (hne : gF ≠ gT) (hg : wx.grownBy w' (some gT)) (hT : w'.heap[gT]? = some (.cells #[v'] 68 (0, 0))) (ho : w'.ownsRow wx.heap.size 9 1 v' x.2.2.1.length (strs x.2.2.1)) (hx : x.1 = R)
  (he : (x.2.2.2 = none ∧ e = .returned (.tuple #[.slice none 0 0, .int .i64 x.2.1])) ∨ ∃ out A c, x.2.2.2 = some out ∧ e = .returned (.tuple #[.slice A out.length c, .int .i64 0]) ∧ Rd w' w'.heap.size A (nats out)) : DAddP Z ZD g S q x gF n wx e w' := by
 have hT2 : Turned (fun i => i = gT) wx w' := Turned.of_gb hg (fun g e => by injection e with e; exact e.symm)
 refine ⟨Nz wx w' Z, fun i => ZD i ∨ (wx.heap.size ≤ i ∧ i < w'.heap.size), fun _ h => .inl h, fun i hi => hi.imp id fun h => h.1, fun i hi => hi.imp id fun h => h.1, fun i hi => hi.imp (hZ i) id, hT2.mono fun i _ e hz => hz.2 (e ▸ h4), ?_, df_new h1 h3 h4 hne hg hT ho, he⟩
 rw [hx]
 exact h.wrote hT2 (fun i e => e ▸ hZ _ h4)
end
set_option maxHeartbeats 8000000 in
set_option maxRecDepth 100000 in
theorem dadd_any5 {wx : World} {Z ZD : Nat → Prop} {g q D k gF : Nat} {n : Int} {S S0 : St} {R : RS} {L : List ByteArray} (h : Bo wx Z g S q R wx) (hs : Sim D k S0 R) (hdf : DF ZD wx gF q n L) (hZ : ∀ i, ZD i → Z i) (hF : FitY L) (hL : L.length ≤ 65536)
  (l : List ByteArray) (A : Option Addr) (c B : Nat) (hr : Rd wx B A (strs l)) (hB : B ≤ wx.heap.size) (hl : l.length ≤ 60000) (hsz : ∀ s ∈ l, s.size ≤ 1000000000) (hD : D ≤ 1600000) (hk : k + 1 ≤ 1000) :
  Calls Tryz.prog 20 #[.pointer (some ⟨gF, 0, none⟩), .slice A l.length c] wx (DAddP Z ZD g S q (addA R n L l) gF n wx) := by
 obtain ⟨gT, v, h1, h2, h3, h4, h5⟩ := hdf
 have hne : gF ≠ gT := fun e => by
  have hh := h2.1
  rw [← e, show wx.heap[gF]? = _ from h1] at hh
  simp at hh
 obtain ⟨A0, c0, h0, hn0, hm0, hrd0, hB0⟩ := RTab.open_ (w := wx) (base := 0) (g := gT) (L := L) ⟨v, h2⟩
 obtain ⟨i1, hi1, hiz, his, hib⟩ := info_parts Tryz.infoTy
 have HI1 := hide hi1
 have HIZ := hide hiz
 have HIS := hide his
 have HIB := hide hib
 have HB := hide h
 have HFL := hide (show RSyB wx gF gT q n from h1)
 have HRD := hide hrd0
 have HRT := hide hB0
 have H3 := hide h3
 have H4 := hide h4
 have HZ := hide hZ
 have HNE := hide hne
 have HML : Hid (0 + L.length ≤ maxLen) := hide (by unfold maxLen; omega)
 have HMB : Hid ((0 + L.length) * 16 ≤ 140737488355328) := hide (by omega)
 have HE0 := hide (own_emptyY wx 9 1)
 have HTK : Hid (∀ w2 v2, wx.grownBy w2 none → w2.heap[gT]? = some (.cells #[.slice A0 L.length c0] 68 (0, 0)) → wx.grownBy (w2.setCell ⟨gT, 0, none⟩ v2) (some gT)) := hide fun w2 v2 hg _ => gb_trans ⟨hg.os, hg.tape, hg.output, hg.size, fun i hi _ => hg.block i hi (by simp)⟩ (gb_setCell (gb_refl w2 (some gT)) (.inl rfl) _) (.inl rfl)
 have p0 : (wx.alloc (.cells #[] 9)).cell? ⟨gF, 0, none⟩ = some (.pointer (some ⟨gT, 0, none⟩)) := cell_gb (by rw [blk_cell h1]; rfl) (gb_alloc (gb_refl wx none) _)
 have p1 : (wx.alloc (.cells #[] 9)).cell? ⟨gT, 0, none⟩ = some (.slice A0 L.length c0) := cell_gb h0 (gb_alloc (gb_refl wx none) _)
 have HIN : Hid (∀ w2, wx.grownBy w2 none → Calls Tryz.prog 56 #[.pointer (some ⟨gT, 0, none⟩), .slice A l.length c] w2 (RInternPost gT L l w2)) := hide fun w2 hg => rintern_any 0 gT L l A l.length c B w2 (RTab.grown ⟨v, h2⟩ hg) (hr.grown hg hB (by simp)) (Nat.le_trans hB hg.size) rfl hl hL hsz
 have HERR : Hid (∀ (E : Int) w2 w3 A2 c2, wx.grownBy w2 none → w2.ownsRow wx.heap.size 9 1 (.slice A2 L.length c2) L.length (strs L) → w2.grownBy w3 none → DAddP Z ZD g S q (R, E, L, none) gF n wx (.returned (.tuple #[.slice none 0 0, .int .i64 E])) (w3.setCell ⟨gT, 0, none⟩ (.slice A2 L.length c2))) := hide fun E w2 w3 A2 c2 hg2 ho2 hg3 => by
  have hg := gb_trans hg2 hg3 (.inl rfl)
  have hbk := blk_keep hB0.1 hg (by simp)
  have ho3 := own_grown ho2 hg3
  exact dfin h hZ h1 h3 h4 hne (gb_trans ⟨hg.os, hg.tape, hg.output, hg.size, fun i hi _ => hg.block i hi (by simp)⟩ (gb_setCell (gb_refl w3 (some gT)) (.inl rfl) _) (.inl rfl)) (blk_set hbk 0 _) (ho3.kept (gb_setCell (gb_refl w3 (some gT)) (.inl rfl) _) (.inr (own_ne ho3 hbk (by decide)))) rfl (.inl ⟨rfl, rfl⟩)
 unfold addA
 by_cases hu : l.any unf = true
 ·rw [if_pos hu]
  have HI : Hid (∀ w2, wx.grownBy w2 none → Calls Tryz.prog 56 #[.pointer (some ⟨gT, 0, none⟩), .slice A l.length c] w2 fun e w' => e = .returned (.tuple #[.slice none 0 0, .slice none 0 0, .int .i64 50]) ∧ w2.grownBy w' none) := hide fun w2 hg => (HIN.out w2 hg).mono fun e w' hx => by
   rcases hx with hx | hx | hx
   ·exact hx.2
   ·rw [hu] at hx; cases hx.1
   ·rw [hu] at hx; cases hx.1
  clear hu h1 h2 h3 h4 h5 hr hB h hF hL hZ hne h0 hrd0 hB0 hi1 hiz his hib HIN
  go_enter Tryz.func20, Tryz.ntmps20
  go_wp2_with (first
   | (go_at_call 56; refine (HI.out _ HG2.out).mono ?_; rintro e w3 ⟨rfl, hg3⟩; have HG3 := hide hg3; have hbk := blk_keep HRT.out.1 (gb_trans HG2.out hg3 (.inl rfl)) (by simp); have k0 : w3.cell? ⟨gF, 0, none⟩ = some (.pointer (some ⟨gT, 0, none⟩)) := cell_gb d0 hg3; have k1 : w3.cell? ⟨gT, 0, none⟩ = some (.slice A0 L.length c0) := (by { rw [blk_cell hbk]; rfl }); have z0 := blk_frozen hbk 0; clear hg3 hbk)
   | (at_builtin; refine wpList_append_rd _ rfl (.tmp 10) (.tmp 17) 33 rfl wx.heap.size 9 i1 (.string ⟨#[]⟩) 1 16 Tryz.underlying33 HI1.out HIZ.out HIS.out HIB.out rfl (Nat.succ_pos 0) (.slice (some ⟨wx.heap.size, 0, none⟩) 0 0) 0 [] rfl HE0.out wx.heap.size A0 L.length c0 (strs L) rfl (by rw [strs_length, Nat.mul_one]) (HRD.out.grown (gb_alloc (gb_refl wx none) _) (Nat.le_refl _) (by simp)) (strs_cell L) HML.out HMB.out (by simp) ?_; intro v2 w2 ho2 hg2 hb2; rw [Nat.zero_add, List.nil_append] at ho2; obtain ⟨A2, c2, hv2, _, _, _⟩ := own_form ho2; subst hv2; have HO2 := hide ho2; have HG2 := hide (gb_trans (gb_alloc (gb_refl wx none) (.cells #[] 9)) hg2 (.inr (.inr ⟨_, rfl, Nat.le_refl _⟩))); have d0 : w2.cell? ⟨gF, 0, none⟩ = some (.pointer (some ⟨gT, 0, none⟩)) := (by { rw [blk_cell (blk_keep HFL.out HG2.out (by simp))]; rfl }); clear ho2 hg2 hb2))
  go_ret2
  exact HERR.out 50 _ _ _ _ HG2.out HO2.out HG3.out
 ·have hu0 : l.any unf = false := by simpa using hu
  rw [if_neg hu]
  by_cases hbig : 65536 < (inter L l).1.length
  ·rw [if_pos hbig]
   have HI : Hid (∀ w2, wx.grownBy w2 none → Calls Tryz.prog 56 #[.pointer (some ⟨gT, 0, none⟩), .slice A l.length c] w2 fun e w' => e = .returned (.tuple #[.slice none 0 0, .slice none 0 0, .int .i64 6]) ∧ w2.grownBy w' none) := hide fun w2 hg => (HIN.out w2 hg).mono fun e w' hx => by
    rcases hx with hx | hx | hx
    ·rw [hu0] at hx; cases hx.1
    ·exact hx.2.2
    ·have := hx.2.1; omega
   clear hu hu0 hbig h1 h2 h3 h4 h5 hr hB h hF hL hZ hne h0 hrd0 hB0 hi1 hiz his hib HIN
   go_enter Tryz.func20, Tryz.ntmps20
   go_wp2_with (first
    | (go_at_call 56; refine (HI.out _ HG2.out).mono ?_; rintro e w3 ⟨rfl, hg3⟩; have HG3 := hide hg3; have hbk := blk_keep HRT.out.1 (gb_trans HG2.out hg3 (.inl rfl)) (by simp); have k0 : w3.cell? ⟨gF, 0, none⟩ = some (.pointer (some ⟨gT, 0, none⟩)) := cell_gb d0 hg3; have k1 : w3.cell? ⟨gT, 0, none⟩ = some (.slice A0 L.length c0) := (by { rw [blk_cell hbk]; rfl }); have z0 := blk_frozen hbk 0; clear hg3 hbk)
    | (at_builtin; refine wpList_append_rd _ rfl (.tmp 10) (.tmp 17) 33 rfl wx.heap.size 9 i1 (.string ⟨#[]⟩) 1 16 Tryz.underlying33 HI1.out HIZ.out HIS.out HIB.out rfl (Nat.succ_pos 0) (.slice (some ⟨wx.heap.size, 0, none⟩) 0 0) 0 [] rfl HE0.out wx.heap.size A0 L.length c0 (strs L) rfl (by rw [strs_length, Nat.mul_one]) (HRD.out.grown (gb_alloc (gb_refl wx none) _) (Nat.le_refl _) (by simp)) (strs_cell L) HML.out HMB.out (by simp) ?_; intro v2 w2 ho2 hg2 hb2; rw [Nat.zero_add, List.nil_append] at ho2; obtain ⟨A2, c2, hv2, _, _, _⟩ := own_form ho2; subst hv2; have HO2 := hide ho2; have HG2 := hide (gb_trans (gb_alloc (gb_refl wx none) (.cells #[] 9)) hg2 (.inr (.inr ⟨_, rfl, Nat.le_refl _⟩))); have d0 : w2.cell? ⟨gF, 0, none⟩ = some (.pointer (some ⟨gT, 0, none⟩)) := (by { rw [blk_cell (blk_keep HFL.out HG2.out (by simp))]; rfl }); clear ho2 hg2 hb2))
   go_ret2
   exact HERR.out 6 _ _ _ _ HG2.out HO2.out HG3.out
  ·rw [if_neg hbig]
   have HI : Hid (∀ w2, wx.grownBy w2 none → Calls Tryz.prog 56 #[.pointer (some ⟨gT, 0, none⟩), .slice A l.length c] w2 fun e w' => ∃ A c Ab cb, e = .returned (.tuple #[.slice A l.length c, .slice Ab (syB ((inter L l).1.drop L.length)).length cb, .int .i64 0]) ∧ w'.ownsRow w2.heap.size 3 1 (.slice A l.length c) l.length (nats (inter L l).2) ∧
     Rd w' w'.heap.size Ab (u8s (syB ((inter L l).1.drop L.length))) ∧ (∃ v', w'.heap[gT]? = some (.cells #[v'] 68 (0, 0)) ∧ w'.ownsRow w2.heap.size 9 1 v' (inter L l).1.length (strs (inter L l).1)) ∧ w2.grownBy w' (some gT)) := hide fun w2 hg => (HIN.out w2 hg).mono fun e w' hx => by
    rcases hx with hx | hx | hx
    ·rw [hu0] at hx; cases hx.1
    ·exact absurd hx.2.1 hbig
    ·exact hx.2.2
   have hlen := inter_length L l
   obtain ⟨r, hpre, _⟩ := inter_pre l L []
   have hpre : (inter L l).1 = L ++ r := hpre
   have hdr : (inter L l).1.drop L.length = r := by rw [hpre, List.drop_left]
   have HLEN := hide hlen
   by_cases hnew : (inter L l).1.length = L.length
   ·rw [if_pos hnew]
    have hr0 : r = [] := by
     rw [hpre, List.length_append] at hnew
     exact List.eq_nil_of_length_eq_zero (by omega)
    have hsame : (inter L l).1 = L := by rw [hpre, hr0, List.append_nil]
    rw [hdr, hr0, hsame, syB_nil] at HI
    have HBK : Hid (∀ (w2 w3 : World) Ao co v', wx.grownBy w2 none → w2.grownBy w3 (some gT) → w3.ownsRow w2.heap.size 3 1 (.slice Ao l.length co) l.length (nats (inter L l).2) → w3.heap[gT]? = some (.cells #[v'] 68 (0, 0)) → w3.ownsRow w2.heap.size 9 1 v' L.length (strs L) → DAddP Z ZD g S q (R, 0, L, some (inter L l).2) gF n wx (.returned (.tuple #[.slice Ao l.length co, .int .i64 0])) w3) := hide fun w2 w3 Ao co v' hg2 hg3 ho ht hv => by
     refine dfin h hZ h1 h3 h4 hne (gb_trans ⟨hg2.os, hg2.tape, hg2.output, hg2.size, fun i hi _ => hg2.block i hi (by simp)⟩ hg3 (.inl rfl)) ht (own_base hv hg2.size) rfl (.inr ⟨_, Ao, co, rfl, ?_, ?_⟩)
     ·rw [hlen]
     ·exact Rd.of_own ho
    clear hu hu0 hbig h1 h2 h3 h4 h5 hr hB h hF hL hZ hne h0 hrd0 hB0 hi1 hiz his hib HIN hnew hpre hdr hsame hr0 hlen
    generalize (inter L l).2 = ns at *
    generalize (inter L l).1 = M at *
    go_enter Tryz.func20, Tryz.ntmps20
    go_wp2_with (first
     | (go_at_call 56; refine (HI.out _ HG2.out).mono ?_; rintro e w3 ⟨Ao, co, Ab, cb, rfl, ho, hrb, ⟨v3, ht, hv⟩, hg3⟩; have HG3 := hide hg3; have HOO := hide ho; have HTT := hide ht; have HTV := hide hv; clear hg3 ho ht hv hrb)
     | (at_builtin; refine wpList_append_rd _ rfl (.tmp 10) (.tmp 17) 33 rfl wx.heap.size 9 i1 (.string ⟨#[]⟩) 1 16 Tryz.underlying33 HI1.out HIZ.out HIS.out HIB.out rfl (Nat.succ_pos 0) (.slice (some ⟨wx.heap.size, 0, none⟩) 0 0) 0 [] rfl HE0.out wx.heap.size A0 L.length c0 (strs L) rfl (by rw [strs_length, Nat.mul_one]) (HRD.out.grown (gb_alloc (gb_refl wx none) _) (Nat.le_refl _) (by simp)) (strs_cell L) HML.out HMB.out (by simp) ?_; intro v2 w2 ho2 hg2 hb2; rw [Nat.zero_add, List.nil_append] at ho2; obtain ⟨A2, c2, hv2, _, _, _⟩ := own_form ho2; subst hv2; have HO2 := hide ho2; have HG2 := hide (gb_trans (gb_alloc (gb_refl wx none) (.cells #[] 9)) hg2 (.inr (.inr ⟨_, rfl, Nat.le_refl _⟩))); have d0 : w2.cell? ⟨gF, 0, none⟩ = some (.pointer (some ⟨gT, 0, none⟩)) := (by { rw [blk_cell (blk_keep HFL.out HG2.out (by simp))]; rfl }); clear ho2 hg2 hb2))
    go_ret2
    exact HBK.out _ _ _ _ _ HG2.out HG3.out HOO.out HTT.out HTV.out
   ·rw [if_neg hnew]
    have hxl := syB_length r (fun s hx => (hF.inter fun s hs => by
      rw [Bool.eq_false_iff]
      intro hc
      exact hu (List.any_eq_true.2 ⟨s, hs, hc⟩)).size s (by rw [hpre]; exact List.mem_append_right _ hx))
    have hrl : r.length ≤ 60000 := by
     have h1 := inter_size L l
     rw [hpre, List.length_append] at h1
     omega
    have hrne : r ≠ [] := fun e => hnew (by rw [hpre, e, List.append_nil])
    have hxp := syB_pos hrne
    rw [hdr] at HI ⊢
    obtain ⟨X, hX⟩ : ∃ X, X = syB r := ⟨_, rfl⟩
    rw [← hX] at HI hxl hxp ⊢
    have hx6 : X.length ≤ 6000000 := by omega
    have hxp1 : (0 : Int) < (X.length : Int) := by omega
    have HAP : Hid (∀ w3 Z3, Bo w3 Z3 g S q R w3 → Calls Tryz.prog 16 #[.pointer (some ⟨q, 0, none⟩), .int .i64 n, .string ⟨X.toArray⟩] w3 fun e w' => e = .returned (.int .i64 (appendR R n ⟨X.toArray⟩).1) ∧ Bo w3 Z3 g S q (appendR R n ⟨X.toArray⟩).2 w') := hide fun w3 Z3 hb => hb.dAppend hs hD (by omega) n ⟨X.toArray⟩ (by
     have : (⟨X.toArray⟩ : ByteArray).size = X.length := by rw [← bl_len, bl_mk]
     omega)
    have HBX := hide h
    have HB0 := hide hB0.1
    generalize (appendR R n ⟨X.toArray⟩).1 = E at *
    generalize (appendR R n ⟨X.toArray⟩).2 = R2 at *
    generalize (inter L l).2 = ns at *
    generalize (inter L l).1 = M at *
    obtain ⟨res, hres⟩ : ∃ res : RS × Int × List ByteArray × Option (List Nat), res = if E ≠ 0 then (R2, E, L, none) else (R2, 0, M, some ns) := ⟨_, rfl⟩
    rw [← hres]
    have HRES := hide hres
    clear hu hu0 hbig h1 h2 h3 h4 h5 hr hB h hF hL hZ hne h0 hrd0 hB0 hi1 hiz his hib HIN hnew hpre hdr hlen hs hX hxl hrl hrne hres HERR
    go_enter Tryz.func20, Tryz.ntmps20
    go_upto_region 4 with (first
     | (go_at_call 56; refine (HI.out _ HG2.out).mono ?_; rintro e w3 ⟨Ao, co, Ab, cb, rfl, ho, hrb, ⟨v3, ht, hv⟩, hg3⟩; have HG3 := hide hg3; have HOO := hide ho; have HTT := hide ht; have HTV := hide hv; have HRB := hide hrb; clear hg3 ho ht hv hrb)
     | (at_builtin; refine wpList_append_rd _ rfl (.tmp 10) (.tmp 17) 33 rfl wx.heap.size 9 i1 (.string ⟨#[]⟩) 1 16 Tryz.underlying33 HI1.out HIZ.out HIS.out HIB.out rfl (Nat.succ_pos 0) (.slice (some ⟨wx.heap.size, 0, none⟩) 0 0) 0 [] rfl HE0.out wx.heap.size A0 L.length c0 (strs L) rfl (by rw [strs_length, Nat.mul_one]) (HRD.out.grown (gb_alloc (gb_refl wx none) _) (Nat.le_refl _) (by simp)) (strs_cell L) HML.out HMB.out (by simp) ?_; intro v2 w2 ho2 hg2 hb2; rw [Nat.zero_add, List.nil_append] at ho2; obtain ⟨A2, c2, hv2, _, _, _⟩ := own_form ho2; subst hv2; have HO2 := hide ho2; have HG2 := hide (gb_trans (gb_alloc (gb_refl wx none) (.cells #[] 9)) hg2 (.inr (.inr ⟨_, rfl, Nat.le_refl _⟩))); have d0 : w2.cell? ⟨gF, 0, none⟩ = some (.pointer (some ⟨gT, 0, none⟩)) := (by { rw [blk_cell (blk_keep HFL.out HG2.out (by simp))]; rfl }); clear ho2 hg2 hb2))
    have HGX : Hid (wx.grownBy w3 (some gT)) := hide (gb_trans ⟨HG2.out.os, HG2.out.tape, HG2.out.output, HG2.out.size, fun i hi _ => HG2.out.block i hi (by simp)⟩ HG3.out (.inl rfl))
    have hgn : ∀ i, some gT = some i → i = gT := fun i e => by injection e with e; exact e.symm
    have HT3 : Hid (Turned (fun i => i = gT) wx w3) := hide (Turned.of_gb HGX.out (fun i e => hgn i e))
    have HB3 := hide (HB.out.wrote HT3.out (fun i e => e ▸ HZ.out _ H4.out))
    have HFL3 : Hid (RSyB w3 gF gT q n) := hide (blk_keep HFL.out HGX.out (fun e => HNE.out (Option.some.inj e)))
    have HO3 : Hid (w3.ownsRow wx.heap.size 9 1 (.slice A2 L.length c2) L.length (strs L)) := hide (HO2.out.kept HG3.out (.inr (own_ne HO2.out (blk_keep HRT.out.1 HG2.out (by simp)) (by decide))))
    refine wp_region_facts' 10 (by kernel_rfl) (by kernel_rfl) ?_
    intro A O W L HA HO HW HL
    simp only [List.take_succ_cons, List.take_zero]
    have HS := hide (show A.tmps.size = 58 by rw [HA.out]; rfl)
    have HGW := hide (show w3.grownBy W none by rw [HW.out]; exact gb_drew (gb_refl w3 none))
    have A0 := hide (show A.eval (.tmp 0) = .pointer (some ⟨gF, 0, none⟩) by rw [HA.out]; rfl)
    have A8 := hide (show A.eval (.tmp 8) = .slice Ab X.length cb by rw [HA.out]; rfl)
    refine wpFacts_lit (.pointer (some ⟨gF, 0, none⟩)) rfl ?_ ?_
    ·intro a wq hw hl
     have e0 : a.tmps[0]?.getD undef = .pointer (some ⟨gF, 0, none⟩) := (hl 0 (by first | (simp [Op.operands]; done) | simp [Op.operands, Call.operands]) (by rw [HS.out]; decide)).trans A0.out
     clear hl
     go_simp
    refine wpFacts_lit (.pointer (some ⟨gF, 0, none⟩)) rfl ?_ ?_
    ·intro a wq hw hl
     have e36 : a.tmps[36]?.getD undef = .pointer (some ⟨gF, 0, none⟩) := hl 36 (by first | (simp [Op.operands]; done) | simp [Op.operands, Call.operands]) (by rw [HS.out]; decide)
     clear hl
     go_simp
    refine wpFacts_lit (.pointer (some ⟨gF, 1, none⟩)) rfl ?_ ?_
    ·intro a wq hw hl
     have e37 : a.tmps[37]?.getD undef = .pointer (some ⟨gF, 0, none⟩) := hl 37 (by first | (simp [Op.operands]; done) | simp [Op.operands, Call.operands]) (by rw [HS.out]; decide)
     clear hl
     go_simp
    refine wpFacts_lit (.pointer (some ⟨q, 0, none⟩)) rfl ?_ ?_
    ·intro a wq hw hl
     have e38 : a.tmps[38]?.getD undef = .pointer (some ⟨gF, 1, none⟩) := hl 38 (by first | (simp [Op.operands]; done) | simp [Op.operands, Call.operands]) (by rw [HS.out]; decide)
     have hbF := blk_keep HFL3.out (gb_trans HGW.out hw (.inl rfl)) (by simp)
     have c1 : wq.cell? ⟨gF, 1, none⟩ = some (.pointer (some ⟨q, 0, none⟩)) := by rw [blk_cell hbF]; rfl
     clear hbF
     clear hl
     go_simp
    refine wpFacts_lit (.pointer (some ⟨gF, 0, none⟩)) rfl ?_ ?_
    ·intro a wq hw hl
     have e0 : a.tmps[0]?.getD undef = .pointer (some ⟨gF, 0, none⟩) := (hl 0 (by first | (simp [Op.operands]; done) | simp [Op.operands, Call.operands]) (by rw [HS.out]; decide)).trans A0.out
     clear hl
     go_simp
    refine wpFacts_lit (.pointer (some ⟨gF, 0, none⟩)) rfl ?_ ?_
    ·intro a wq hw hl
     have e40 : a.tmps[40]?.getD undef = .pointer (some ⟨gF, 0, none⟩) := hl 40 (by first | (simp [Op.operands]; done) | simp [Op.operands, Call.operands]) (by rw [HS.out]; decide)
     clear hl
     go_simp
    refine wpFacts_lit (.pointer (some ⟨gF, 2, none⟩)) rfl ?_ ?_
    ·intro a wq hw hl
     have e41 : a.tmps[41]?.getD undef = .pointer (some ⟨gF, 0, none⟩) := hl 41 (by first | (simp [Op.operands]; done) | simp [Op.operands, Call.operands]) (by rw [HS.out]; decide)
     clear hl
     go_simp
    refine wpFacts_lit (.int .i64 n) rfl ?_ ?_
    ·intro a wq hw hl
     have e42 : a.tmps[42]?.getD undef = .pointer (some ⟨gF, 2, none⟩) := hl 42 (by first | (simp [Op.operands]; done) | simp [Op.operands, Call.operands]) (by rw [HS.out]; decide)
     have hbF := blk_keep HFL3.out (gb_trans HGW.out hw (.inl rfl)) (by simp)
     have c2 : wq.cell? ⟨gF, 2, none⟩ = some (.int .i64 n) := by rw [blk_cell hbF]; rfl
     clear hbF
     clear hl
     go_simp
    refine wpFacts_lit (.slice Ab X.length cb) rfl ?_ ?_
    ·intro a wq hw hl
     have e8 : a.tmps[8]?.getD undef = .slice Ab X.length cb := (hl 8 (by first | (simp [Op.operands]; done) | simp [Op.operands, Call.operands]) (by rw [HS.out]; decide)).trans A8.out
     clear hl
     go_simp
    refine wpFacts_lit (.string ⟨X.toArray⟩) rfl ?_ ?_
    ·intro a wq hw hl
     have e44 : a.tmps[44]?.getD undef = .slice Ab X.length cb := hl 44 (by first | (simp [Op.operands]; done) | simp [Op.operands, Call.operands]) (by rw [HS.out]; decide)
     have hs45 : (convert 49 9 (.slice Ab X.length cb)).run Tryz.prog wq = .ok (.string ⟨X.toArray⟩) wq := string_of (HRB.out.grown (gb_trans HGW.out hw (.inl rfl)) (Nat.le_refl _) (by simp)) rfl
     clear hl
     go_simp
    refine HL.out _ (fun a' w4 hc => ?_)
    have e39 : a'.eval (.tmp 39) = .pointer (some ⟨q, 0, none⟩) := hc.fact 39 (by rw [HS.out]; decide)
    have e43 : a'.eval (.tmp 43) = .int .i64 n := hc.fact 43 (by rw [HS.out]; decide)
    have e45 : a'.eval (.tmp 45) = .string ⟨X.toArray⟩ := hc.fact 45 (by rw [HS.out]; decide)
    have hgw4 := gb_trans HGW.out hc.grown (.inl rfl)
    have hfr := hc.frame [36, 37, 38, 39, 40, 41, 42, 43, 44, 45, 46, 9] (by rw [HO.out]; kernel_rfl)
    rw [hfr]
    clear hfr hc
    rw [HA.out]
    clear HA HO HL HW HS HGW A0 A8
    clear A O W L
    simp only [List.drop_succ_cons, List.drop_zero, List.foldl_cons, List.foldl_nil, Act.put, List.setIfInBounds_toArray, List.set_cons_succ, List.set_cons_zero]
    rw [e39, e43, e45]
    generalize a'.eval (.tmp 36) = x36
    generalize a'.eval (.tmp 37) = x37
    generalize a'.eval (.tmp 38) = x38
    generalize a'.eval (.tmp 40) = x40
    generalize a'.eval (.tmp 41) = x41
    generalize a'.eval (.tmp 42) = x42
    generalize a'.eval (.tmp 44) = x44
    generalize a'.eval (.tmp 46) = x46
    generalize a'.eval (.tmp 9) = x9
    clear e39 e43 e45
    clear a'
    have HG4 := hide hgw4
    have HB4 := hide (HB3.out.grew hgw4)
    have HT13 : Hid (Turned (fun i => ¬ (Z i ∧ ¬ ZD i)) wx w3) := hide (HT3.out.mono fun i _ e hz => hz.2 (e ▸ H4.out))
    have hsz3 := HGX.out.size
    clear hgw4
    by_cases hE : E = 0
    ·subst hE
     obtain rfl : res = (R2, 0, M, some ns) := HRES.out.trans (if_neg (by simp))
     clear HRES
     go_wp2_with (go_at_call 16; refine (HAP.out _ _ HB4.out).mono ?_; rintro e w5 ⟨rfl, hb⟩; have HB5 := hide hb; clear hb)
     go_ret2
     have hT := (Turned.of_gb (M := fun i => ¬ Nz w3 w4 (Nz wx w3 Z) i) HG4.out (by simp)).trans HB5.out.turned (fun _ _ h => h)
     have hdf := df_new HFL.out H3.out H4.out HNE.out HGX.out HTT.out (own_base HTV.out HG2.out.size)
     refine ⟨Nz w3 w4 (Nz wx w3 Z), fun i => ZD i ∨ (wx.heap.size ≤ i ∧ i < w3.heap.size), fun _ h => .inl (.inl h), fun i hi => ?_, fun i hi => hi.imp id fun h => h.1, fun i hi => .inl (hi.imp (HZ.out i) id), HT13.out.trans hT (fun i _ h hz => h (.inl (.inl hz.1))), HB5.out.here, hdf.keep hT (fun i h hz => h (.inl (hz.imp (HZ.out i) id))), .inr ⟨ns, Ao, co, rfl, ?_, ?_⟩⟩
     ·rcases hi with (hi | hi) | hi
      ·exact .inl hi
      ·exact .inr hi.1
      ·exact .inr (by omega)
     ·show _ = Ending.returned (.tuple #[.slice Ao ns.length co, .int .i64 0])
      rw [HLEN.out]
      rfl
     ·exact Rd.of_own (ownNew_keep HOO.out hT fun i h1 h2 h => h (.inl (.inr ⟨Nat.le_trans HG2.out.size h1, h2⟩)))
    ·obtain rfl : res = (R2, E, L, none) := HRES.out.trans (if_pos hE)
     have hbe : (E != 0) = true := by simpa using hE
     have HTS : Hid (∀ w5, Turned (fun i => ¬ Nz w3 w4 (Nz wx w3 Z) i) w3 w5 → w5.heap[gT]? = some (.cells #[v3] 68 (0, 0))) := hide fun w5 hT => (hT.block gT (blk_lt HTT.out) (fun h => h (.inl (.inl (HZ.out _ H4.out))))).trans HTT.out
     have HFS : Hid (∀ w5, Turned (fun i => ¬ Nz w3 w4 (Nz wx w3 Z) i) w3 w5 → RSyB w5 gF gT q n) := hide fun w5 hT => (hT.block gF (blk_lt HFL3.out) (fun h => h (.inl (.inl (HZ.out _ H3.out))))).trans HFL3.out
     clear HRES hE
     go_wp2_with (go_at_call 16; refine (HAP.out _ _ HB4.out).mono ?_; rintro e w5 ⟨rfl, hb⟩; have HB5 := hide hb; clear hb; have HT5 := hide ((Turned.of_gb (M := fun i => ¬ Nz w3 w4 (Nz wx w3 Z) i) HG4.out (by simp)).trans HB5.out.turned (fun _ _ h => h)); have HTT5 := hide (HTS.out _ HT5.out); have k0 : w5.cell? ⟨gF, 0, none⟩ = some (.pointer (some ⟨gT, 0, none⟩)) := (by { rw [blk_cell (HFS.out _ HT5.out)]; rfl }); have k1 : w5.cell? ⟨gT, 0, none⟩ = some v3 := (by { rw [blk_cell HTT5.out]; rfl }); have z0 := blk_frozen HTT5.out 0)
     go_ret2
     have hgs : w5.grownBy (w5.setCell ⟨gT, 0, none⟩ (.slice A2 L.length c2)) (some gT) := gb_setCell (gb_refl w5 (some gT)) (.inl rfl) _
     have hT6 : Turned (fun i => i = gT) w5 (w5.setCell ⟨gT, 0, none⟩ (.slice A2 L.length c2)) := Turned.of_gb hgs (fun i e => hgn i e)
     have ho5 := ownNew_keep HO3.out HT5.out fun i h1 h2 h => h (.inl (.inr ⟨h1, h2⟩))
     have ho6 := ho5.kept hgs (.inr (own_ne ho5 HTT5.out (by decide)))
     refine ⟨Nz w3 w4 (Nz wx w3 Z), fun i => ZD i ∨ (wx.heap.size ≤ i ∧ i < w3.heap.size), fun _ h => .inl (.inl h), fun i hi => ?_, fun i hi => hi.imp id fun h => h.1, fun i hi => .inl (hi.imp (HZ.out i) id), (HT13.out.trans HT5.out (fun i _ h hz => h (.inl (.inl hz.1)))).trans hT6 (fun i _ e hz => hz.2 (e ▸ H4.out)), HB5.out.here.touch hT6 (fun i e => .inl (.inl (e ▸ HZ.out _ H4.out))), ⟨gT, .slice A2 L.length c2, blk_keep (HFS.out _ HT5.out) hgs (fun e => HNE.out (Option.some.inj e)), ⟨blk_set HTT5.out 0 _, own_base ho6 (Nat.zero_le _), Nat.zero_le _⟩, .inl H3.out, .inl H4.out, fun i hi => ?_⟩, .inl ⟨rfl, rfl⟩⟩
     ·rcases hi with (hi | hi) | hi
      ·exact .inl hi
      ·exact .inr hi.1
      ·exact .inr (by omega)
     ·rcases HO3.out.2 with ⟨hv, _⟩ | ⟨b, cap, cur, hv, hb, hh, _⟩
      ·rw [hv] at hi; simp [Value.ownBlock] at hi
      ·rw [hv] at hi
       have : b = i := by simpa [Value.ownBlock] using hi
       subst this
       exact .inr ⟨hb, blk_lt hh⟩
end Go.Proofs.YtmcmlkglkpbnpaaGreat
namespace Go.Proofs.YtmcmlkglkpbnpaaGreat
open Go.RowKit
def KeepY (L : List ByteArray) : Prop := FitY L ∧ 1 ≤ L.length ∧ L.length ≤ 65536
theorem ldF_long {l : List (List UInt8)} : ∀ {L M : List ByteArray}, ldF L l = some M → L.length ≤ M.length := by
 induction l with
 | nil => intro L M h; injection h with h; rw [← h]; exact Nat.le_refl _
 | cons x l ih =>
  intro L M h
  have h : (rest1 L x).bind (fun N => ldF N l) = some M := h
  cases hr : rest1 L x with
  | none => rw [hr] at h; cases h
  | some N =>
   rw [hr] at h
   have h1 := ih h
   unfold rest1 at hr
   split at hr
   ·injection hr with hr
    rw [← hr, List.length_append] at h1
    omega
   ·cases hr
theorem ldL_keep {l : List (List UInt8)} {M : List ByteArray} (h : ldL l = some M) : KeepY M := by
 unfold ldL at h
 split at h
 ·rename_i N hN
  split at h
  ·rename_i hle
   injection h with h
   subst h
   exact ⟨fit_new.ldF hN, ldF_long hN, hle⟩
  ·cases h
 ·cases h
theorem open_keep {R : RS} {a : ByteArray} {n : Int} {L : List ByteArray} (h : (openA R a).2.2 = some (n, L)) : KeepY L := by
 unfold openA at h
 split at h
 ·unfold crA at h
  split at h
  ·cases h
  ·split at h
   ·cases h
   ·injection h with h
    injection h with _ h
    rw [← h]
    exact ⟨fit_new, Nat.le_refl _, by simp⟩
 ·split at h
  ·cases h
  ·unfold recA at h
   split at h
   ·cases h
   ·split at h
    ·cases h
    ·split at h
     ·cases h
     ·rename_i M hM
      split at h
      ·injection h with h
       injection h with _ h
       exact h ▸ ldL_keep hM
      ·unfold mendA at h
       split at h
       ·cases h
       ·split at h
        ·cases h
        ·injection h with h
         injection h with _ h
         exact h ▸ ldL_keep hM
theorem add_keep {R : RS} {n : Int} {L l : List ByteArray} (h : KeepY L) : KeepY (addA R n L l).2.2.1 := by
 unfold addA
 split
 ·exact h
 ·rename_i hu
  split
  ·exact h
  ·rename_i hb
   split
   ·exact h
   ·split
    ·exact h
    ·refine ⟨h.1.inter fun s hs => ?_, ?_, Nat.not_lt.1 hb⟩
     ·rw [Bool.eq_false_iff]
      intro hc
      exact hu (List.any_eq_true.2 ⟨s, hs, hc⟩)
     ·obtain ⟨r, hr, _⟩ := inter_pre l L []
      have hr : (inter L l).1 = L ++ r := hr
      have := h.2.1
      show 1 ≤ (inter L l).1.length
      rw [hr, List.length_append]
      omega
theorem add_bytes {L l : List ByteArray} (hl : l.length ≤ 300) (hu : l.any unf = false) : (syB ((inter L l).1.drop L.length)).length ≤ 24600 := by
 obtain ⟨r, hr, hm⟩ := inter_pre l L []
 have hr : (inter L l).1 = L ++ r := hr
 have h1 := inter_size L l
 rw [hr, List.length_append] at h1
 rw [hr, List.drop_left]
 have := syB_length r fun s hs => unf_size (Bool.eq_false_iff.2 fun hc => by
  rw [List.any_eq_true.2 ⟨s, hm s hs, hc⟩] at hu
  cases hu)
 omega
theorem not_huge {l : List ByteArray} (h : hugeB l = false) : l.length ≤ 300 ∧ sumLen l ≤ 20000 := by
 unfold hugeB at h
 have h : ¬ (300 < l.length ∨ 20000 < sumLen (l.take 301)) := by simpa using h
 have h1 : l.length ≤ 300 := by omega
 refine ⟨h1, ?_⟩
 rw [List.take_of_length_le (by omega)] at h
 omega
end Go.Proofs.YtmcmlkglkpbnpaaGreat
namespace Go.Proofs.YtmcmlkglkpbnpaaGreat
open Go.RowKit
def TwoF (K Z : Nat → Prop) (g q : Nat) (o : Option (Int × List ByteArray)) (vt vw : Value) (wr : World) : Prop :=
 (o = none ∧ vt = .pointer none ∧ vw = .pointer none) ∨
  ∃ n L gF gD, ∃ ZP ZD : Nat → Prop, o = some (n, L) ∧ vt = .pointer (some ⟨gF, 0, none⟩) ∧ vw = .pointer (some ⟨gD, 0, none⟩) ∧ PF ZP wr gF g n L ∧ DF ZD wr gD q n L ∧ (∀ i, ZP i → Z i ∧ ¬ K i ∧ ¬ ZD i) ∧ (∀ i, ZD i → Z i ∧ ¬ K i)
def SyS (K : Nat → Prop) (g q : Nat) (S : St) (R : RS) (o : Option (Int × List ByteArray)) (vt vw : Value) (wr : World) : Prop :=
 ∃ Z : Nat → Prop, (∀ i, K i → Z i) ∧ Bo wr Z g S q R wr ∧ TwoF K Z g q o vt vw wr
theorem open_zero {R : RS} {a : ByteArray} {x : Int × List ByteArray} (h : (openA R a).2.2 = some x) : (openA R a).2.1 = 0 := by
 unfold openA at h ⊢
 split
 ·rename_i h7
  rw [if_pos h7] at h
  unfold crA at h ⊢
  split
  ·rename_i h1; rw [if_pos h1] at h; cases h
  ·rename_i h1
   rw [if_neg h1] at h
   split
   ·rename_i h2; rw [if_pos h2] at h; cases h
   ·rfl
 ·rename_i h7
  rw [if_neg h7] at h
  split
  ·rename_i h1; rw [if_pos h1] at h; cases h
  ·rename_i h1
   rw [if_neg h1] at h
   unfold recA at h ⊢
   split
   ·rename_i h2; rw [if_pos h2] at h; cases h
   ·rename_i h2
    rw [if_neg h2] at h
    split
    ·rename_i h3; rw [if_pos h3] at h; cases h
    ·rename_i h3
     rw [if_neg h3] at h
     split
     ·rename_i h4; simp only [h4] at h; cases h
     ·rename_i L h4
      simp only [h4] at h
      split
      ·rfl
      ·rename_i h5
       rw [if_neg h5] at h
       unfold mendA at h ⊢
       split
       ·rename_i h6; rw [if_pos h6] at h; cases h
       ·rename_i h6
        rw [if_neg h6] at h
        split
        ·rename_i h8; rw [if_pos h8] at h; cases h
        ·rfl
section
variable {K K' Z Z' : Nat → Prop} {g q D k : Nat} {S S' : St} {R R' : RS} {o : Option (Int × List ByteArray)} {vt vw : Value} {wx w' : World}
theorem TwoF.keep (h : TwoF K Z g q o vt vw wx) (hT : Turned (fun i => ¬ Z i) wx w') : TwoF K Z g q o vt vw w' := by
 rcases h with h | ⟨n, L, gF, gD, ZP, ZD, h1, h2, h3, h4, h5, h6, h7⟩
 ·exact .inl h
 ·exact .inr ⟨n, L, gF, gD, ZP, ZD, h1, h2, h3, h4.keep hT (fun i hm hz => hm (h6 i hz).1), h5.keep hT (fun i hm hz => hm (h7 i hz).1), h6, h7⟩
theorem TwoF.to (h : TwoF K Z g q o vt vw wx) (hZ : ∀ i, Z i → Z' i ∧ (K' i → K i)) : TwoF K' Z' g q o vt vw wx := by
 rcases h with h | ⟨n, L, gF, gD, ZP, ZD, h1, h2, h3, h4, h5, h6, h7⟩
 ·exact .inl h
 ·exact .inr ⟨n, L, gF, gD, ZP, ZD, h1, h2, h3, h4, h5, fun i hi => ⟨(hZ i (h6 i hi).1).1, fun hk => (h6 i hi).2.1 ((hZ i (h6 i hi).1).2 hk), (h6 i hi).2.2⟩, fun i hi => ⟨(hZ i (h7 i hi).1).1, fun hk => (h7 i hi).2 ((hZ i (h7 i hi).1).2 hk)⟩⟩
theorem SyS.lt (h : SyS K g q S R o vt vw wx) {i : Nat} (hi : K i) : i < wx.heap.size := by
 obtain ⟨Z, h1, h2, _⟩ := h
 exact h2.zlt (h1 i hi)
theorem SyS.more (h : SyS K g q S R o vt vw wx) (hg : wx.grownBy w' none) (hK : ∀ i, K' i → K i ∨ (wx.heap.size ≤ i ∧ i < w'.heap.size)) : SyS K' g q S R o vt vw w' := by
 obtain ⟨Z, h1, h2, h3⟩ := h
 exact ⟨Nz wx w' Z, fun i hi => (hK i hi).imp (h1 i) id, h2.grew hg, (h3.keep (turned_gb hg)).to fun i hi => ⟨.inl hi, fun hk => (hK i hk).elim id fun hk => by have := h2.zlt hi; omega⟩⟩
theorem SyS.grown (h : SyS K g q S R o vt vw wx) (hg : wx.grownBy w' none) : SyS K g q S R o vt vw w' := h.more hg fun _ hi => .inl hi
theorem SyS.less (h : SyS K g q S R o vt vw wx) (hK : ∀ i, K' i → K i) : SyS K' g q S R o vt vw wx := h.more (gb_refl wx none) fun i hi => .inl (hK i hi)
theorem SyS.forget (h : SyS K g q S R o vt vw wx) : SyS K g q S R none (.pointer none) (.pointer none) wx := by
 obtain ⟨Z, h1, h2, _⟩ := h
 exact ⟨Z, h1, h2, .inl ⟨rfl, rfl, rfl⟩⟩
theorem SyS.call {f : FuncId} {args : Array Value} {P : Ending → Prop} (h : SyS K g q S R o vt vw wx) (hc : ∀ Z, (∀ i, K i → Z i) → Bo wx Z g S q R wx → Calls Tryz.prog f args wx fun e w' => P e ∧ Bo wx Z g S' q R' w') :
  Calls Tryz.prog f args wx fun e w' => P e ∧ Turned (fun i => ¬ K i) wx w' ∧ SyS K g q S' R' o vt vw w' := by
 obtain ⟨Z, h1, h2, h3⟩ := h
 exact (hc Z h1 h2).mono fun e w' ⟨he, hb⟩ => ⟨he, hb.turned.mono fun i _ hz hk => hz (h1 i hk), Z, h1, hb.here, h3.keep hb.turned⟩
theorem SyS.open_ (h : SyS K g q S R o vt vw wx) (hs : Sim D k S R) (hD : D ≤ 1600000) (hk : k + 2 ≤ 1000) (a : ByteArray) :
  Calls Tryz.prog 17 #[.pointer (some ⟨g, 0, none⟩), .string a] wx fun e w1 => ∃ S' vx, e = .returned (.tuple #[vx, .int .i64 (openA R a).2.1]) ∧ Sim D (k + 2) S' (openA R a).1 ∧ Turned (fun i => ¬ K i) wx w1 ∧
   Calls Tryz.prog 18 #[.pointer (some ⟨q, 0, none⟩), .string a] w1 fun e w2 => ∃ vy, e = .returned (.tuple #[vy, .int .i64 (openA R a).2.1]) ∧ Turned (fun i => ¬ K i) w1 w2 ∧ SyS K g q S' (openA R a).1 (openA R a).2.2 vx vy w2 := by
 obtain ⟨Z, h1, h2, _⟩ := h
 refine (open_any5 h2 hs hD hk a).mono fun e w1 ⟨S', hs', Z', a1, a2, a3, a4, a5⟩ => ?_
 have hzl := fun {i} => h2.zlt (i := i)
 have hd := dopen_any5 a4 hs hD hk a
 rcases a5 with ⟨b1, b2⟩ | ⟨n, L, gF, b1, b2, b3⟩
 ·refine ⟨S', _, b2, hs', a3.mono fun i _ hz hk => hz (h1 i hk), hd.mono fun e w2 ⟨Z2, c1, c2, c3, c4, c5⟩ => ?_⟩
  rcases c5 with ⟨d1, d2⟩ | ⟨n, L, gD, d1, _, _⟩
  ·exact ⟨_, d2, c3.mono fun i _ hz hk => hz (a1 i (h1 i hk)), Z2, fun i hk => c1 i (a1 i (h1 i hk)), c4, .inl ⟨b1, rfl, rfl⟩⟩
  ·rw [b1] at d1; cases d1
 ·have hE : (openA R a).2.1 = 0 := open_zero b1
  refine ⟨S', _, by rw [hE]; exact b2, hs', a3.mono fun i _ hz hk => hz (h1 i hk), hd.mono fun e w2 ⟨Z2, c1, c2, c3, c4, c5⟩ => ?_⟩
  rcases c5 with ⟨d1, d2⟩ | ⟨n2, L2, gD, d1, d2, d3⟩
  ·rw [b1] at d1; cases d1
  ·rw [b1] at d1
   injection d1 with d1
   injection d1 with e1 e2
   subst e1 e2
   refine ⟨_, by rw [hE]; exact d2, c3.mono fun i _ hz hk => hz (a1 i (h1 i hk)), Z2, fun i hk => c1 i (a1 i (h1 i hk)), c4, .inr ⟨n, L, gF, gD, _, _, b1, rfl, rfl, b3.keep c3 (fun i hm hz => hm hz.1), d3, fun i hi => ⟨c1 i hi.1, fun hk => ?_, fun hd => ?_⟩, fun i hi => ⟨hi.1, fun hk => ?_⟩⟩⟩
   ·have := hzl (h1 i hk); omega
   ·have := a4.zlt hi.1; omega
   ·have := hzl (h1 i hk)
    have := a3.size
    omega
end
end Go.Proofs.YtmcmlkglkpbnpaaGreat
namespace Go.Proofs.YtmcmlkglkpbnpaaGreat
open Go.RowKit
theorem add_zero5 {R : RS} {n : Int} {L l : List ByteArray} {out : List Nat} (h : (addA R n L l).2.2.2 = some out) : (addA R n L l).2.1 = 0 := by
 unfold addA at h ⊢
 split
 ·rename_i h1; rw [if_pos h1] at h; cases h
 ·rename_i h1
  rw [if_neg h1] at h
  split
  ·rename_i h2; rw [if_pos h2] at h; cases h
  ·rename_i h2
   rw [if_neg h2] at h
   split
   ·rfl
   ·rename_i h3
    rw [if_neg h3] at h
    split
    ·rename_i h4; rw [if_pos h4] at h; cases h
    ·rfl
theorem add_out {R : RS} {n : Int} {L l : List ByteArray} {out : List Nat} (h : (addA R n L l).2.2.2 = some out) : out.length = l.length := by
 unfold addA at h
 split at h
 ·cases h
 ·split at h
  ·cases h
  ·split at h
   ·injection h with h; rw [← h]; exact inter_length L l
   ·split at h
    ·cases h
    ·injection h with h; rw [← h]; exact inter_length L l
section
variable {K K' Z Z' : Nat → Prop} {g q D k gF gD : Nat} {n : Int} {S S' : St} {R R' : RS} {L : List ByteArray} {wx w' : World}
theorem Rd.turned {B : Nat} {A : Option Addr} {xs : List Value} {M : Nat → Prop} (h : Rd wx B A xs) (hB : B ≤ wx.heap.size) (hT : Turned M wx w') (hA : ∀ ad, A = some ad → xs ≠ [] → ¬ M ad.block) : Rd w' w'.heap.size A xs := fun hn => by
 obtain ⟨ad, rfl, hb, hc⟩ := h hn
 have hlt := Nat.lt_of_lt_of_le hb hB
 have hs : ∀ p : Addr, p.block = ad.block → w'.cell? p = wx.cell? p := fun p hp => cell_same (by rw [hp]; exact hT.block ad.block hlt (hA ad rfl hn))
 exact ⟨ad, rfl, Nat.lt_of_lt_of_le hlt hT.size, fun j u hu => (hs _ (by unfold Addr.add; first | rfl | (split <;> rfl))).trans (hc j u hu)⟩
theorem SyS.add (h : SyS K g q S R (some (n, L)) (.pointer (some ⟨gF, 0, none⟩)) (.pointer (some ⟨gD, 0, none⟩)) wx) (hs : Sim D k S R) (hY : KeepY L) (hD : D ≤ 1600000) (hk : k + 1 ≤ 1000)
  (l : List ByteArray) (A A2 : Option Addr) (c c2 : Nat) (hr : Rd wx wx.heap.size A (strs l)) (hA : ∀ ad, A = some ad → l ≠ [] → K ad.block) (hr2 : Rd wx wx.heap.size A2 (strs l)) (hA2 : ∀ ad, A2 = some ad → l ≠ [] → K ad.block)
  (hl : l.length ≤ 300) (hsz : ∀ s ∈ l, s.size ≤ 1000000000) :
  Calls Tryz.prog 19 #[.pointer (some ⟨gF, 0, none⟩), .slice A l.length c] wx fun e w1 => ∃ S' vx, e = .returned (.tuple #[vx, .int .i64 (addA R n L l).2.1]) ∧ Sim (D + 24600) (k + 1) S' (addA R n L l).1 ∧ Turned (fun i => ¬ K i) wx w1 ∧
   Calls Tryz.prog 20 #[.pointer (some ⟨gD, 0, none⟩), .slice A2 l.length c2] w1 fun e w2 => ∃ vy, e = .returned (.tuple #[vy, .int .i64 (addA R n L l).2.1]) ∧ Turned (fun i => ¬ K i) w1 w2 ∧
    SyS K g q S' (addA R n L l).1 (some (n, (addA R n L l).2.2.1)) (.pointer (some ⟨gF, 0, none⟩)) (.pointer (some ⟨gD, 0, none⟩)) w2 ∧
    Calls Tryz.prog 21 #[vx, vy] w2 fun e w3 => e = .returned (.bool true) ∧ w2.grownBy w3 none := by
 obtain ⟨Z, h1, h2, h3⟩ := h
 rcases h3 with ⟨h0, _⟩ | ⟨n1, L1, gF1, gD1, ZP, ZD, e1, e2, e3, h4, h5, h6, h7⟩
 ·cases h0
 injection e1 with e1
 injection e1 with ea eb
 injection e2 with e2; injection e2 with e2; injection e2 with e2
 injection e3 with e3; injection e3 with e3; injection e3 with e3
 subst ea eb e2 e3
 have hzl := fun {i} => h2.zlt (i := i)
 have hKlt : ∀ i, K i → i < wx.heap.size := fun i hi => hzl (h1 i hi)
 refine (add_any5 h2 hs h4 (fun i hi => (h6 i hi).1) hY.1 hY.2.2 l A c wx.heap.size hr (Nat.le_refl _) (fun ad ha hne hm => (h6 _ hm).2.1 (hA ad ha hne)) (by omega) hD hk 24600 (fun hu => add_bytes hl hu)).mono fun e w1 hx => ?_
 obtain ⟨S', hs', Z1, ZP1, a1, a2, a3, a4, a5, a6, a7, a8⟩ := hx
 have hT1 : Turned (fun i => ¬ K i) wx w1 := a5.mono fun i _ hm hi => hm ⟨h1 i hi, fun hz => (h6 i hz).2.1 hi⟩
 have hdf : DF ZD w1 gD q n L := h5.keep a5 (fun i hm hz => hm ⟨(h7 i hz).1, fun hp => (h6 i hp).2.2 hz⟩)
 have hdlt : ∀ i, ZD i → i < wx.heap.size := fun i hi => hzl (h7 i hi).1
 have hadd := dadd_any5 a6 hs hdf (fun i hi => a1 i (h7 i hi).1) hY.1 hY.2.2 l A2 c2 w1.heap.size (hr2.turned (Nat.le_refl _) hT1 (fun ad ha hne hm => hm (hA2 ad ha (fun e => hne (by rw [e]; rfl))))) (Nat.le_refl _) (by omega) hsz hD hk
 have hpd : ∀ i, ZP1 i → ¬ ZD i := fun i hi hd => (a3 i hi).elim (fun hp => (h6 i hp).2.2 hd) fun hge => by have := hdlt i hd; omega
 have hpk : ∀ i, ZP1 i → ¬ K i := fun i hi hk => (a3 i hi).elim (fun hp => (h6 i hp).2.1 hk) fun hge => by have := hKlt i hk; omega
 have hfin : ∀ w2 Z2 ZD2, (∀ i, Z1 i → Z2 i) → (∀ i, ZD2 i → ZD i ∨ w1.heap.size ≤ i) → (∀ i, ZD2 i → Z2 i) → Turned (fun i => ¬ (Z1 i ∧ ¬ ZD i)) w1 w2 → Bo w2 Z2 g S' q (addA R n L l).1 w2 → DF ZD2 w2 gD q n (addA R n L l).2.2.1 →
   Turned (fun i => ¬ K i) w1 w2 ∧ SyS K g q S' (addA R n L l).1 (some (n, (addA R n L l).2.2.1)) (.pointer (some ⟨gF, 0, none⟩)) (.pointer (some ⟨gD, 0, none⟩)) w2 := fun w2 Z2 ZD2 b1 b2 b3 b4 b5 b6 => by
  refine ⟨b4.mono fun i _ hm hi => hm ⟨a1 i (h1 i hi), fun hd => (h7 i hd).2 hi⟩, Z2, fun i hi => b1 i (a1 i (h1 i hi)), b5, .inr ⟨n, _, gF, gD, ZP1, ZD2, rfl, rfl, rfl, a7.keep b4 (fun i hm hz => hm ⟨a4 i hz, hpd i hz⟩), b6, fun i hi => ⟨b1 i (a4 i hi), hpk i hi, fun hd => ?_⟩, fun i hi => ⟨b3 i hi, fun hk => ?_⟩⟩⟩
  ·rcases b2 i hd with hd | hd
   ·exact hpd i hi hd
   ·have := a6.zlt (a4 i hi); omega
  ·rcases b2 i hi with hd | hd
   ·exact (h7 i hd).2 hk
   ·have := hKlt i hk
    have := hT1.size
    omega
 rcases a8 with ⟨b1, b2⟩ | ⟨out, Ao, co, b1, b2, b3, b4⟩
 ·refine ⟨S', _, b2, hs', hT1, hadd.mono fun e w2 hx => ?_⟩
  obtain ⟨Z2, ZD2, c1, c2, c3, c4, c5, c6, c7, c8⟩ := hx
  obtain ⟨f1, f2⟩ := hfin w2 Z2 ZD2 c1 c3 c4 c5 c6 c7
  rcases c8 with ⟨d1, d2⟩ | ⟨out, _, _, d1, _⟩
  ·exact ⟨_, d2, f1, f2, ints_yes none none 0 0 0 0 0 [] w2 Rd.nil_ Rd.nil_ (Nat.zero_le _) (Nat.zero_le _) rfl (Nat.zero_le _)⟩
  ·rw [b1] at d1; cases d1
 ·have hE : (addA R n L l).2.1 = 0 := add_zero5 b1
  refine ⟨S', _, by rw [hE]; exact b2, hs', hT1, hadd.mono fun e w2 hx => ?_⟩
  obtain ⟨Z2, ZD2, c1, c2, c3, c4, c5, c6, c7, c8⟩ := hx
  obtain ⟨f1, f2⟩ := hfin w2 Z2 ZD2 c1 c3 c4 c5 c6 c7
  rcases c8 with ⟨d1, _⟩ | ⟨out2, A3, c3', d1, d2, d3⟩
  ·rw [b1] at d1; cases d1
  ·rw [b1] at d1
   injection d1 with d1
   subst d1
   have hro : Rd w2 w2.heap.size Ao (nats out) := b3.turned (Nat.le_refl _) c5 fun ad ha _ hm => hm ⟨(b4 ad ha).2.2.1, fun hd => by have := hdlt _ hd; have := (b4 ad ha).1; omega⟩
   have hol : out.length ≤ 1000 := by
    have := add_out b1
    omega
   exact ⟨_, by rw [hE]; exact d2, f1, f2, ints_yes Ao A3 out.length _ _ w2.heap.size w2.heap.size out w2 hro d3 (Nat.le_refl _) (Nat.le_refl _) rfl (by omega)⟩
end
end Go.Proofs.YtmcmlkglkpbnpaaGreat
namespace Go.Proofs.YtmcmlkglkpbnpaaGreat
open Go.RowKit
section
variable {K Z : Nat → Prop} {g q D k gF gD : Nat} {n : Int} {S : St} {R Rq : RS} {L : List ByteArray} {B0 wx wq : World}
theorem bo_fsync {ZP : Nat → Prop} (h : Bo B0 Z g S q Rq wq) (hs : Sim D k S R) (hp : PF ZP wq gF g n L) (hD : D ≤ 1600000) (hk : k + 1 ≤ 1000) :
  Calls Tryz.prog 22 #[.pointer (some ⟨gF, 0, none⟩)] wq fun e w' => e = .returned (.int .i64 (syncR R n).1) ∧ Bo B0 Z g (S.sync n) q Rq w' := by
 obtain ⟨gT, f, h1, _⟩ := hp
 exact (fsync_any5 h.here hs h1 hD hk).mono fun e w' hx => ⟨hx.1, hx.2.1.back h.turned fun _ hi => ⟨hi, h.zlt hi⟩⟩
theorem SyS.asks (h : SyS K g q S R (some (n, L)) (.pointer (some ⟨gF, 0, none⟩)) (.pointer (some ⟨gD, 0, none⟩)) wx) (hY : KeepY L) :
  ∃ gT gT2 A c, wx.cell? ⟨gF, 0, none⟩ = some (.pointer (some ⟨gT, 0, none⟩)) ∧ wx.cell? ⟨gD, 0, none⟩ = some (.pointer (some ⟨gT2, 0, none⟩)) ∧ wx.cell? ⟨gD, 1, none⟩ = some (.pointer (some ⟨q, 0, none⟩)) ∧ wx.cell? ⟨gD, 2, none⟩ = some (.int .i64 n) ∧ wx.cell? ⟨gT2, 0, none⟩ = some (.slice A L.length c) ∧
   (∀ w2 s m, wx.grownBy w2 none → Calls Tryz.prog 24 #[.pointer (some ⟨gT, 0, none⟩), .pointer (some ⟨gT2, 0, none⟩), .string s, .int .i64 m] w2 fun e w' => e = .returned (.bool true) ∧ w2.grownBy w' none) ∧
   (∀ w2, wx.grownBy w2 none → Calls Tryz.prog 25 #[.pointer (some ⟨gF, 0, none⟩)] w2 fun e w' => e = .returned (.int .i64 (L.length : Int)) ∧ w2.grownBy w' none) := by
 obtain ⟨Z, h1, h2, h3⟩ := h
 rcases h3 with ⟨h0, _⟩ | ⟨n1, L1, gF1, gD1, ZP, ZD, e1, e2, e3, h4, h5, h6, h7⟩
 ·cases h0
 injection e1 with e1
 injection e1 with ea eb
 injection e2 with e2; injection e2 with e2; injection e2 with e2
 injection e3 with e3; injection e3 with e3; injection e3 with e3
 subst ea eb e2 e3
 obtain ⟨gT, f, p1, p2, _⟩ := h4
 obtain ⟨gT2, v, d1, d2, _⟩ := h5
 obtain ⟨A, c, r1, _⟩ := RTab.open_ (w := wx) (base := 0) (g := gT2) (L := L) ⟨v, d2⟩
 refine ⟨gT, gT2, A, c, by rw [blk_cell p1]; rfl, by rw [blk_cell d1]; rfl, by rw [blk_cell d1]; rfl, by rw [blk_cell d1]; rfl, r1, fun w2 s m hg => ?_, fun w2 hg => ?_⟩
 ·exact tells_ok 0 0 gT gT2 f L s m w2 (p2.grown hg) (RTab.grown ⟨v, d2⟩ hg) hY.1 hY.2.1 (by have := hY.2.2; omega)
 ·exact (flen_any gF gT g n f L w2 (blk_keep p1 hg (by simp)) (p2.grown hg)).mono fun e w' hx => ⟨hx.1, hx.2 ▸ gb_refl w2 none⟩
end
end Go.Proofs.YtmcmlkglkpbnpaaGreat
