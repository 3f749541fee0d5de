/-
  symtab's File.Add, File.Sync, File.Len.
-/
import Derived.Test.YtmcmlkglkpbnpaaGreatQbp
import Derived.Lib.ConvBytes
import Derived.Test.YtmcmlkglkpbnpaaGreatQbr
namespace Go.Proofs.YtmcmlkglkpbnpaaGreat
open Go.RowKit
theorem bytesWorld_gb (w : World) (e : TypeId) (s : ByteArray) : w.grownBy (Lib.bytesWorld w e s) none :=
 ⟨by unfold Lib.bytesWorld World.freeze; split <;> rfl, by unfold Lib.bytesWorld World.freeze; split <;> rfl, by unfold Lib.bytesWorld World.freeze; split <;> rfl, by rw [Lib.bytesWorld_size]; omega, fun i hi _ => Lib.bytesWorld_at_old w e s i hi⟩
theorem bytesWorld_rd (w : World) (s : ByteArray) : Rd (Lib.bytesWorld w 5 s) (Lib.bytesWorld w 5 s).heap.size (some ⟨w.heap.size, 0, none⟩) (u8s (bl s)) := fun _ =>
 ⟨_, rfl, by rw [Lib.bytesWorld_size]; exact Nat.lt_succ_self _, fun j u hu => by
  have hj : j < s.size := by
   have := (List.getElem?_eq_some_iff.1 hu).1
   rw [u8s_length, bl_len] at this
   exact this
  have h1 := Lib.bytesWorld_cell w 5 s j hj
  have e1 : (⟨w.heap.size, 0, none⟩ : Addr).add j = ⟨w.heap.size, j, none⟩ := by
   by_cases h0 : j = 0
   ·subst h0; rfl
   ·simp [Addr.add]
    exact h0
  rw [e1, h1]
  have hb : j < (bl s).length := by rw [bl_len]; exact hj
  have hu2 : (u8s (bl s))[j]? = some (.int .u8 ((bl s)[j].toNat : Int)) := by
   unfold u8s
   rw [List.getElem?_map, List.getElem?_eq_getElem hb]
   rfl
  rw [hu2] at hu
  rw [← hu]
  congr 2
  unfold bl at hb ⊢
  rw [List.getD_eq_getElem?_getD, List.getElem?_eq_getElem hb]
  rfl⟩
def DOpenP (Z : Nat → Prop) (g : Nat) (S : St) (q : Nat) (x : RS × Int × Option (Int × List ByteArray)) (wx : World) (e : Ending) (w' : World) : Prop :=
 ∃ Z' : Nat → Prop, (∀ i, Z i → Z' i) ∧ (∀ i, Z' i → Z i ∨ wx.heap.size ≤ i) ∧ Turned (fun i => ¬ Z i) wx w' ∧ Bo w' Z' g S q x.1 w' ∧
  ((x.2.2 = none ∧ e = .returned (.tuple #[.pointer none, .int .i64 x.2.1])) ∨
   ∃ n L gF, x.2.2 = some (n, L) ∧ e = .returned (.tuple #[.pointer (some ⟨gF, 0, none⟩), .int .i64 0]) ∧ DF (fun i => Z' i ∧ wx.heap.size ≤ i) w' gF q n L)
theorem rloadL_none {A : Option Addr} {n c k : Nat} {w : World} (h : Calls Tryz.prog 51 #[.slice A n c] w (RLoadPost none k w)) :
  Calls Tryz.prog 51 #[.slice A n c] w fun e w' => e = .returned (.tuple #[.pointer none, .int .i64 0, .int .i64 51]) ∧ w.grownBy w' none :=
 h.mono fun e w' ⟨hg, h⟩ => by
  rcases h with ⟨_, h⟩ | ⟨L, g, h1, _, _⟩
  ·exact ⟨h, hg⟩
  ·cases h1
theorem rloadL_some {A : Option Addr} {n c k : Nat} {w : World} {L : List ByteArray} (h : Calls Tryz.prog 51 #[.slice A n c] w (RLoadPost (some L) k w)) :
  Calls Tryz.prog 51 #[.slice A n c] w fun e w' => ∃ g, e = .returned (.tuple #[.pointer (some ⟨g, 0, none⟩), .int .i64 (k : Int), .int .i64 0]) ∧ RTab w' w.heap.size g L ∧ w.grownBy w' none :=
 h.mono fun e w' ⟨hg, h⟩ => by
  rcases h with ⟨h1, _⟩ | ⟨M, g, h1, h2, h3⟩
  ·cases h1
  ·injection h1 with h1
   subst h1
   exact ⟨g, h2, h3, hg⟩
theorem RTab.blocks {w : World} {base g : Nat} {L : List ByteArray} (h : RTab w base g L) : ∃ v, RTabB w base g v L ∧ base ≤ g ∧ g < w.heap.size ∧ ∀ i, v.ownBlock = some i → base ≤ i ∧ i < w.heap.size := by
 obtain ⟨v, h1⟩ := h
 refine ⟨v, h1, h1.2.2, blk_lt h1.1, fun i hi => ?_⟩
 rcases h1.2.1.2 with ⟨rfl, _⟩ | ⟨b, cap, cur, rfl, hb, hh, _⟩
 ·simp [Value.ownBlock] at hi
 ·have : b = i := by simpa [Value.ownBlock] using hi
  subst this
  exact ⟨hb, blk_lt hh⟩
theorem RTabB.less {w : World} {base g : Nat} {v : Value} {L : List ByteArray} (h : RTabB w base g v L) : RTabB w 0 g v L := ⟨h.1, own_base h.2.1 (Nat.zero_le _), Nat.zero_le _⟩
theorem boNew {wx w1 w2 : World} {Z : Nat → Prop} {g q : Nat} {S : St} {R : RS} (h : Bo wx Z g S q R wx) (hg : wx.grownBy w1 none) (hg2 : w1.grownBy w2 none) : Bo w2 (Nz wx w2 Z) g S q R w2 :=
 h.grew (gb_trans hg hg2 (.inl rfl))
set_option maxHeartbeats 8000000 in
set_option maxRecDepth 100000 in
theorem dopen_any5 {wx : World} {Z : Nat → Prop} {g q D k : Nat} {S S0 : St} {R : RS} (h : Bo wx Z g S q R wx) (hs : Sim D k S0 R) (hD : D ≤ 1600000) (hk : k + 2 ≤ 1000) (a : ByteArray) :
  Calls Tryz.prog 18 #[.pointer (some ⟨q, 0, none⟩), .string a] wx (DOpenP Z g S q (openA R a) wx) := by
 have HO : Hid (Calls Tryz.prog 45 #[.pointer (some ⟨q, 0, none⟩), .string a] wx fun e w' => e = .returned (.tuple #[.int .i64 (numA R a), .int .i64 (errA R a)]) ∧ wx.grownBy w' none) := hide (by
  obtain ⟨bs, vs, vF, vD, vS, vM, hR⟩ := h.rs
  exact (rOpen_any q R bs vs vF vD vS vM a wx hR).mono fun e w' hx => ⟨hx.1, hx.2 ▸ gb_refl wx none⟩)
 have HBX := hide h
 unfold openA
 by_cases h7 : errA R a = 7
 ·rw [if_pos h7]
  rw [h7] at HO
  have HC : Hid (∀ w1, Bo wx Z g S q R w1 → Calls Tryz.prog 46 #[.pointer (some ⟨q, 0, none⟩), .string a] w1 fun e w' => e = .returned (.tuple #[.int .i64 (createR R a).1.1, .int .i64 (createR R a).1.2]) ∧ Bo wx Z g S q (createR R a).2 w') := hide fun w1 hb => hb.dCreate hs hD (by omega) a
  have c3 := (hs.create a).2.2
  have HSD : Hid (∀ w1, Bo wx Z g S q (createR R a).2 w1 → Calls Tryz.prog 47 #[.pointer (some ⟨q, 0, none⟩)] w1 fun e w' => e = .returned (.int .i64 (syncDirR (createR R a).2).1) ∧ Bo wx Z g S q (syncDirR (createR R a).2).2 w') := hide fun w1 hb => hb.dSyncDir c3 hD (by omega)
  unfold crA
  generalize (createR R a).1.1 = n at *
  generalize (createR R a).1.2 = E at *
  generalize (createR R a).2 = R1 at *
  generalize (syncDirR R1).1 = E2 at *
  generalize (syncDirR R1).2 = R2 at *
  generalize numA R a = n0 at *
  clear h7 hs c3 h
  by_cases hE : E = 0
  ·subst hE
   by_cases hE2 : E2 = 0
   ·subst hE2
    go_enter Tryz.func18, Tryz.ntmps18
    go_wp2_with (first
     | (go_at_call 45; refine HO.out.mono ?_; rintro e w1 ⟨rfl, hg⟩; have HG1 := hide hg; have HB1 := hide (HBX.out.keep hg); clear hg)
     | (go_at_call 46; refine (HC.out _ HB1.out).mono ?_; rintro e w2 ⟨rfl, hb⟩; have HB2 := hide hb; clear hb)
     | (go_at_call 47; refine (HSD.out _ HB2.out).mono ?_; rintro e w3 ⟨rfl, hb⟩; have HB3 := hide hb; clear hb)
     | (go_at_call 48; refine (new_rtab w3).mono ?_; rintro e w4 ⟨gT, rfl, ht, hg⟩; have HT := hide ht; have HG := hide hg; clear ht hg))
    go_ret2
    obtain ⟨v, t1, t2, t3, t4⟩ := HT.out.blocks
    have hga : w4.grownBy (w4.alloc (.cells #[.pointer (some ⟨gT, 0, none⟩), .pointer (some ⟨q, 0, none⟩), .int .i64 n] 48)) none := gb_alloc (gb_refl w4 none) _
    have hgg := gb_trans HG.out hga (.inl rfl)
    have hsz := HB3.out.size
    refine ⟨Nz w3 _ Z, fun i hi => .inl hi, fun i hi => hi.imp id fun h => Nat.le_trans hsz h.1, HB3.out.turned.trans (turned_gb (Z := Z) hgg) (fun _ _ h => h), HB3.out.grew hgg, .inr ⟨n, _, w4.heap.size, rfl, rfl, gT, v, heap_alloc_new w4 _, (t1.grown hga).less, ⟨.inr ⟨HG.out.size, by simp⟩, Nat.le_trans hsz HG.out.size⟩, ⟨.inr ⟨t2, by simp; omega⟩, Nat.le_trans hsz t2⟩, fun i hi => ⟨.inr ⟨(t4 i hi).1, by have := (t4 i hi).2; simp; omega⟩, Nat.le_trans hsz (t4 i hi).1⟩⟩⟩
   ·have hb2 : (E2 != 0) = true := by simpa using hE2
    rw [if_neg (by simp), if_pos hE2]
    clear hE2
    go_enter Tryz.func18, Tryz.ntmps18
    go_wp2_with (first
     | (go_at_call 45; refine HO.out.mono ?_; rintro e w1 ⟨rfl, hg⟩; have HG1 := hide hg; have HB1 := hide (HBX.out.keep hg); clear hg)
     | (go_at_call 46; refine (HC.out _ HB1.out).mono ?_; rintro e w2 ⟨rfl, hb⟩; have HB2 := hide hb; clear hb)
     | (go_at_call 47; refine (HSD.out _ HB2.out).mono ?_; rintro e w3 ⟨rfl, hb⟩; have HB3 := hide hb; clear hb))
    go_ret2
    exact ⟨Z, fun _ h => h, fun _ h => .inl h, HB3.out.turned, HB3.out.here, .inl ⟨rfl, rfl⟩⟩
  ·have hb1 : (E != 0) = true := by simpa using hE
   rw [if_pos hE]
   clear hE
   go_enter Tryz.func18, Tryz.ntmps18
   go_wp2_with (first
    | (go_at_call 45; refine HO.out.mono ?_; rintro e w1 ⟨rfl, hg⟩; have HG1 := hide hg; have HB1 := hide (HBX.out.keep hg); clear hg)
    | (go_at_call 46; refine (HC.out _ HB1.out).mono ?_; rintro e w2 ⟨rfl, hb⟩; have HB2 := hide hb; clear hb))
   go_ret2
   exact ⟨Z, fun _ h => h, fun _ h => .inl h, HB2.out.turned, HB2.out.here, .inl ⟨rfl, rfl⟩⟩
 ·have hb7 : (errA R a == 7) = false := beq_eq_false_iff_ne.2 h7
  rw [if_neg h7]
  by_cases h0 : errA R a = 0
  ·rw [if_neg (by simp [h0])]
   rw [h0] at HO
   have HSZ : Hid (∀ w1, Bo wx Z g S q R w1 → Calls Tryz.prog 49 #[.pointer (some ⟨q, 0, none⟩), .int .i64 (numA R a)] w1 fun e w' => e = .returned (.tuple #[.int .i64 (sizeV R (numA R a)), .int .i64 (thereR R (numA R a))]) ∧ w1.grownBy w' none) := hide fun w1 hb => hb.dSize hs (by omega) _
   generalize numA R a = n at *
   clear h7 hb7 h0
   by_cases hE : thereR R n = 0
   ·obtain ⟨hra, hsv⟩ := read_all hE
    have hps : (fileR R n).p.size ≤ 1600000 := by
     have hin : R.d.any (fun e => (e.n : Int) == n) = true := (thereR_has hE).2
     obtain ⟨f, _, _, _, _, h5, h6⟩ := hs.file hin
     have : fileR R n = R.f[(n - 1).toNat] := by unfold fileR; rw [List.getD_eq_getElem?_getD, List.getElem?_eq_getElem h6]; rfl
     rw [this]
     exact Nat.le_trans (hs.good _ (List.getElem_mem h6)).psz hD
    have HRD : Hid (∀ w1, Bo wx Z g S q R w1 → Calls Tryz.prog 50 #[.pointer (some ⟨q, 0, none⟩), .int .i64 n, .int .i64 0, .int .i64 (sizeV R n)] w1 fun e w' => e = .returned (.tuple #[.string (fileR R n).p, .int .i64 0]) ∧ w1.grownBy w' none) := hide fun w1 hb => by
     have := hb.dRead hs hD (by omega) n 0 (sizeV R n)
     rwa [hra] at this
    have hLD := fun (w : World) => rload_lim (some ⟨w.heap.size, 0, none⟩) (fileR R n).p.size (grownCap w (fileR R n).p.size 0 5) (bl (fileR R n).p) (Lib.bytesWorld w 5 (fileR R n).p) (bytesWorld_rd w _) (bl_len _) (grownCap_ge _ _ _ _) (grownCap_le_maxLen _ _ _ _ (by unfold maxLen; omega)) (by omega)
    have hend := frs_end (bl (fileR R n).p)
    rw [bl_len] at hend
    rw [hE, hsv] at HSZ
    rw [hsv] at HRD
    have hcut := fun at_ : Nat => (hs.cut n (at_ : Int)).2
    unfold recA
    rw [if_neg (by simp [hE]), hra, if_neg (by simp), hsv]
    generalize (fileR R n).p = P at *
    have hcv : ∀ wq : World, (convert 9 49 (.string P)).run Tryz.prog wq = .ok (.slice (some ⟨wq.heap.size, 0, none⟩) P.size (grownCap wq P.size 0 5)) (Lib.bytesWorld wq 5 P) := fun wq => Lib.run_convert_string_bytes wq 9 49 5 P Tryz.underlying9 Tryz.underlying49 Tryz.underlying5
    generalize (frs (bl P)).1 = fr at *
    generalize (frs (bl P)).2.1 = at_ at *
    clear hra hsv hps
    cases hld : ldL fr with
    | none =>
     simp only [hld] at hLD
     have HL := hide (fun w => rloadL_none (hLD w))
     clear hld hLD h hs hcut hend hE
     go_enter Tryz.func18, Tryz.ntmps18
     go_wp2_with (first
      | (go_at_call 45; refine HO.out.mono ?_; rintro e w1 ⟨rfl, hg⟩; have HG1 := hide hg; have HB1 := hide (HBX.out.keep hg); clear hg)
      | (go_at_call 49; refine (HSZ.out _ HB1.out).mono ?_; rintro e w2 ⟨rfl, hg⟩; have HG2 := hide hg; clear hg)
      | (go_at_call 50; refine (HRD.out _ (HB1.out.keep HG2.out)).mono ?_; rintro e w3 ⟨rfl, hg⟩; have HG3 := hide (gb_trans HG2.out hg (.inl rfl)); clear hg)
      | (go_at_call 51; refine (HL.out w3).mono ?_; rintro e w4 ⟨rfl, hg⟩; have HG4 := hide (gb_trans (gb_trans HG3.out (bytesWorld_gb w3 _ _) (.inl rfl)) hg (.inl rfl)); clear hg))
     go_ret2
     exact ⟨Z, fun _ h => h, fun _ h => .inl h, (HB1.out.keep HG4.out).turned, (HB1.out.keep HG4.out).here, .inl ⟨rfl, rfl⟩⟩
    | some L =>
     simp only [hld] at hLD
     have HL := hide (fun w => rloadL_some (hLD w))
     by_cases hat : at_ = P.size
     ·have hb1 : ¬ (at_ : Int) < (P.size : Int) := by omega
      dsimp only
      rw [if_pos (show (at_ : Int) = (P.size : Int) by rw [hat])]
      clear hld hLD h hs hcut hend hE hat
      go_enter Tryz.func18, Tryz.ntmps18
      go_wp2_with (first
       | (go_at_call 45; refine HO.out.mono ?_; rintro e w1 ⟨rfl, hg⟩; have HG1 := hide hg; have HB1 := hide (HBX.out.keep hg); clear hg)
       | (go_at_call 49; refine (HSZ.out _ HB1.out).mono ?_; rintro e w2 ⟨rfl, hg⟩; have HG2 := hide hg; clear hg)
       | (go_at_call 50; refine (HRD.out _ (HB1.out.keep HG2.out)).mono ?_; rintro e w3 ⟨rfl, hg⟩; have HG3 := hide (gb_trans HG2.out hg (.inl rfl)); clear hg)
       | (go_at_call 51; refine (HL.out w3).mono ?_; rintro e w4 ⟨gT, rfl, ht, hg⟩; have HT := hide ht; have HG4 := hide (gb_trans (gb_trans HG3.out (bytesWorld_gb w3 _ _) (.inl rfl)) hg (.inl rfl)); have HSW := hide (Nat.le_trans HB1.out.size (Nat.le_trans HG3.out.size (bytesWorld_gb w3 5 P).size)); have HB4x := hide (boNew HBX.out HG1.out HG4.out); clear hg ht))
      go_ret2
      have hb4 := HB1.out.keep HG4.out
      obtain ⟨v, t1, t2, t3, t4⟩ := HT.out.blocks
      have hsw := HSW.out
      have hga : w4.grownBy (w4.alloc (.cells #[.pointer (some ⟨gT, 0, none⟩), .pointer (some ⟨q, 0, none⟩), .int .i64 n] 48)) none := gb_alloc (gb_refl w4 none) _
      have hgg := HB4x.out.grew hga
      refine ⟨Nz w4 _ (Nz wx w4 Z), fun i hi => .inl (.inl hi), fun i hi => ?_, hb4.turned.trans (turned_gb (Z := Z) hga) (fun _ _ h => h), hgg, .inr ⟨n, L, w4.heap.size, rfl, rfl, gT, v, heap_alloc_new w4 _, (t1.grown hga).less, ⟨.inr ⟨Nat.le_refl _, by simp⟩, hb4.size⟩, ⟨.inl (.inr ⟨by omega, t3⟩), by omega⟩, fun i hi => ⟨.inl (.inr ⟨by have := (t4 i hi).1; omega, (t4 i hi).2⟩), by have := (t4 i hi).1; omega⟩⟩⟩
      have := hb4.size
      rcases hi with (hi | hi) | hi
      ·exact .inl hi
      ·exact .inr hi.1
      ·exact .inr (by omega)
     ·have hb1 : (at_ : Int) < (P.size : Int) := by omega
      dsimp only
      rw [if_neg (show ¬ (at_ : Int) = (P.size : Int) by omega)]
      have d2 := hcut at_
      have HCT : Hid (∀ w3 Z3, Bo w3 Z3 g S q R w3 → Calls Tryz.prog 52 #[.pointer (some ⟨q, 0, none⟩), .int .i64 n, .int .i64 (at_ : Int)] w3 fun e w' => e = .returned (.int .i64 (cutR R n at_).1) ∧ Bo w3 Z3 g S q (cutR R n at_).2 w') := hide fun w3 Z3 hb => hb.dCut hs hD (by omega) n at_
      have HSY : Hid (∀ w3 w4 Z3, Bo w3 Z3 g S q (cutR R n at_).2 w4 → Calls Tryz.prog 23 #[.pointer (some ⟨q, 0, none⟩), .int .i64 n] w4 fun e w' => e = .returned (.int .i64 (syncR (cutR R n at_).2 n).1) ∧ Bo w3 Z3 g S q (syncR (cutR R n at_).2 n).2 w') := hide fun w3 w4 Z3 hb => hb.dSync d2 hD (by omega) n
      unfold mendA
      generalize (cutR R n at_).1 = E1 at *
      generalize (cutR R n at_).2 = R1 at *
      generalize (syncR R1 n).1 = E2 at *
      generalize (syncR R1 n).2 = R2 at *
      clear hld hLD h hs hcut hend hE hat d2
      by_cases hE1 : E1 = 0
      ·subst hE1
       by_cases hE2 : E2 = 0
       ·subst hE2
        go_enter Tryz.func18, Tryz.ntmps18
        go_wp2_with (first
         | (go_at_call 45; refine HO.out.mono ?_; rintro e w1 ⟨rfl, hg⟩; have HG1 := hide hg; have HB1 := hide (HBX.out.keep hg); clear hg)
         | (go_at_call 49; refine (HSZ.out _ HB1.out).mono ?_; rintro e w2 ⟨rfl, hg⟩; have HG2 := hide hg; clear hg)
         | (go_at_call 50; refine (HRD.out _ (HB1.out.keep HG2.out)).mono ?_; rintro e w3 ⟨rfl, hg⟩; have HG3 := hide (gb_trans HG2.out hg (.inl rfl)); clear hg)
         | (go_at_call 51; refine (HL.out w3).mono ?_; rintro e w4 ⟨gT, rfl, ht, hg⟩; have HT := hide ht; have HG4 := hide (gb_trans (gb_trans HG3.out (bytesWorld_gb w3 _ _) (.inl rfl)) hg (.inl rfl)); have HSW := hide (Nat.le_trans HB1.out.size (Nat.le_trans HG3.out.size (bytesWorld_gb w3 5 P).size)); have HB4x := hide (boNew HBX.out HG1.out HG4.out); clear hg ht)
         | (go_at_call 52; refine (HCT.out _ _ HB4x.out).mono ?_; rintro e w5 ⟨rfl, hb⟩; have HB5 := hide hb; clear hb)
         | (go_at_call 23; refine (HSY.out _ _ _ HB5.out).mono ?_; rintro e w6 ⟨rfl, hb⟩; have HB6 := hide hb; clear hb))
        go_ret2
        obtain ⟨v, t1, t2, t3, t4⟩ := HT.out.blocks
        have hsw := HSW.out
        have hga : w6.grownBy (w6.alloc (.cells #[.pointer (some ⟨gT, 0, none⟩), .pointer (some ⟨q, 0, none⟩), .int .i64 n] 48)) none := gb_alloc (gb_refl w6 none) _
        have hT := HB6.out.turned
        have hs6 := hT.size
        have hs4 := (HB1.out.keep HG4.out).size
        have hk : ∀ i, wx.heap.size ≤ i → i < w4.heap.size → w6.heap[i]? = w4.heap[i]? := fun i h1 h2 => hT.block i h2 (fun hn => hn (.inr ⟨h1, h2⟩))
        have t5 : RTabB w6 0 gT v L := ⟨(hk gT (by omega) t3).trans t1.1, own_base (own_blk t1.2.1 fun i hi => hk i (by have := (t4 i hi).1; omega) (t4 i hi).2) (Nat.zero_le _), Nat.zero_le _⟩
        refine ⟨Nz w6 _ (Nz wx w4 Z), fun i hi => .inl (.inl hi), fun i hi => ?_, ((HB1.out.keep HG4.out).turned.trans hT (fun i _ hn hz => hn (.inl hz))).trans (turned_gb (Z := Z) hga) (fun _ _ h => h), HB6.out.grew hga, .inr ⟨n, L, w6.heap.size, rfl, rfl, gT, v, heap_alloc_new w6 _, t5.grown hga, ⟨.inr ⟨Nat.le_refl _, by simp⟩, by omega⟩, ⟨.inl (.inr ⟨by omega, t3⟩), by omega⟩, fun i hi => ⟨.inl (.inr ⟨by have := (t4 i hi).1; omega, (t4 i hi).2⟩), by have := (t4 i hi).1; omega⟩⟩⟩
        rcases hi with (hi | hi) | hi
        ·exact .inl hi
        ·exact .inr hi.1
        ·exact .inr (by omega)
       ·have hb2 : (E2 != 0) = true := by simpa using hE2
        rw [if_neg (by simp), if_pos hE2]
        clear hE2
        go_enter Tryz.func18, Tryz.ntmps18
        go_wp2_with (first
         | (go_at_call 45; refine HO.out.mono ?_; rintro e w1 ⟨rfl, hg⟩; have HG1 := hide hg; have HB1 := hide (HBX.out.keep hg); clear hg)
         | (go_at_call 49; refine (HSZ.out _ HB1.out).mono ?_; rintro e w2 ⟨rfl, hg⟩; have HG2 := hide hg; clear hg)
         | (go_at_call 50; refine (HRD.out _ (HB1.out.keep HG2.out)).mono ?_; rintro e w3 ⟨rfl, hg⟩; have HG3 := hide (gb_trans HG2.out hg (.inl rfl)); clear hg)
         | (go_at_call 51; refine (HL.out w3).mono ?_; rintro e w4 ⟨gT, rfl, ht, hg⟩; have HT := hide ht; have HG4 := hide (gb_trans (gb_trans HG3.out (bytesWorld_gb w3 _ _) (.inl rfl)) hg (.inl rfl)); have HSW := hide (Nat.le_trans HB1.out.size (Nat.le_trans HG3.out.size (bytesWorld_gb w3 5 P).size)); have HB4x := hide (boNew HBX.out HG1.out HG4.out); clear hg ht)
         | (go_at_call 52; refine (HCT.out _ _ HB4x.out).mono ?_; rintro e w5 ⟨rfl, hb⟩; have HB5 := hide hb; clear hb)
         | (go_at_call 23; refine (HSY.out _ _ _ HB5.out).mono ?_; rintro e w6 ⟨rfl, hb⟩; have HB6 := hide hb; clear hb))
        go_ret2
        exact ⟨Nz wx w4 Z, fun _ h => .inl h, fun i hi => hi.imp id fun h => h.1, (HB1.out.keep HG4.out).turned.trans HB6.out.turned (fun i _ hn hz => hn (.inl hz)), HB6.out.here, .inl ⟨rfl, rfl⟩⟩
      ·have hb2 : (E1 != 0) = true := by simpa using hE1
       have hb3 : (E1 == 0) = false := beq_eq_false_iff_ne.2 hE1
       rw [if_pos hE1]
       clear hE1
       go_enter Tryz.func18, Tryz.ntmps18
       go_wp2_with (first
        | (go_at_call 45; refine HO.out.mono ?_; rintro e w1 ⟨rfl, hg⟩; have HG1 := hide hg; have HB1 := hide (HBX.out.keep hg); clear hg)
        | (go_at_call 49; refine (HSZ.out _ HB1.out).mono ?_; rintro e w2 ⟨rfl, hg⟩; have HG2 := hide hg; clear hg)
        | (go_at_call 50; refine (HRD.out _ (HB1.out.keep HG2.out)).mono ?_; rintro e w3 ⟨rfl, hg⟩; have HG3 := hide (gb_trans HG2.out hg (.inl rfl)); clear hg)
        | (go_at_call 51; refine (HL.out w3).mono ?_; rintro e w4 ⟨gT, rfl, ht, hg⟩; have HT := hide ht; have HG4 := hide (gb_trans (gb_trans HG3.out (bytesWorld_gb w3 _ _) (.inl rfl)) hg (.inl rfl)); have HSW := hide (Nat.le_trans HB1.out.size (Nat.le_trans HG3.out.size (bytesWorld_gb w3 5 P).size)); have HB4x := hide (boNew HBX.out HG1.out HG4.out); clear hg ht)
        | (go_at_call 52; refine (HCT.out _ _ HB4x.out).mono ?_; rintro e w5 ⟨rfl, hb⟩; have HB5 := hide hb; clear hb))
       go_ret2
       exact ⟨Nz wx w4 Z, fun _ h => .inl h, fun i hi => hi.imp id fun h => h.1, (HB1.out.keep HG4.out).turned.trans HB5.out.turned (fun i _ hn hz => hn (.inl hz)), HB5.out.here, .inl ⟨rfl, rfl⟩⟩
   ·have hb1 : (thereR R n != 0) = true := by simpa using hE
    have e1 : recA R n = (R, thereR R n, none) := by unfold recA; rw [if_pos hE]
    rw [e1]
    generalize thereR R n = E at *
    clear hE e1 h hs
    go_enter Tryz.func18, Tryz.ntmps18
    go_wp2_with (first
     | (go_at_call 45; refine HO.out.mono ?_; rintro e w1 ⟨rfl, hg⟩; have HG1 := hide hg; have HB1 := hide (HBX.out.keep hg); clear hg)
     | (go_at_call 49; refine (HSZ.out _ HB1.out).mono ?_; rintro e w2 ⟨rfl, hg⟩; have HG2 := hide hg; clear hg))
    go_ret2
    exact ⟨Z, fun _ h => h, fun _ h => .inl h, (HB1.out.keep HG2.out).turned, (HB1.out.keep HG2.out).here, .inl ⟨rfl, rfl⟩⟩
  ·have hb0 : (errA R a != 0) = true := by simpa using h0
   rw [if_pos h0]
   generalize numA R a = n at *
   generalize errA R a = E at *
   clear h0 h7 h hs
   go_enter Tryz.func18, Tryz.ntmps18
   go_wp2_with (first
    | (go_at_call 45; refine HO.out.mono ?_; rintro e w1 ⟨rfl, hg⟩; have HG1 := hide hg; have HB1 := hide (HBX.out.keep hg); clear hg))
   go_ret2
   exact ⟨Z, fun _ h => h, fun _ h => .inl h, HB1.out.turned, HB1.out.here, .inl ⟨rfl, rfl⟩⟩
end Go.Proofs.YtmcmlkglkpbnpaaGreat
namespace Go.Proofs.YtmcmlkglkpbnpaaGreat
open Go.RowKit
attribute [local go_sem ↓] Go.wp_at_zero Go.wp_at_succ
set_option maxHeartbeats 1600000 in
set_option maxRecDepth 100000 in
theorem ftable_any (gF gT g : Nat) (n : Int) (w : World) (h : SyB w gF gT g n) : Calls Tryz.prog 65 #[.pointer (some ⟨gF, 0, none⟩)] w fun e w' => e = .returned (.pointer (some ⟨gT, 0, none⟩)) ∧ w = w' := by
 have c0 : w.cell? ⟨gF, 0, none⟩ = some (.pointer (some ⟨gT, 0, none⟩)) := by rw [blk_cell h]; rfl
 clear h
 go_enter Tryz.func65, Tryz.ntmps65
 go_wp2
 go_ret
 exact ⟨rfl, rfl⟩
set_option maxHeartbeats 1600000 in
set_option maxRecDepth 100000 in
theorem flen_any (gF gT g : Nat) (n : Int) (f : List Nat) (L : List ByteArray) (w : World) (h : SyB w gF gT g n) (ht : TabF w 0 f gT L) : Calls Tryz.prog 25 #[.pointer (some ⟨gF, 0, none⟩)] w fun e w' => e = .returned (.int .i64 (L.length : Int)) ∧ w = w' := by
 have H1 := hide (ftable_any gF gT g n w h)
 have H2 := hide (len_any 0 gT f L w ht)
 clear h ht
 go_enter Tryz.func25, Tryz.ntmps25
 go_wp2_with (first
  | (go_at_call 65; refine H1.out.mono ?_; rintro e w1 ⟨rfl, rfl⟩)
  | (go_at_call 30; refine H2.out.mono ?_; rintro e w1 ⟨rfl, rfl⟩))
 go_ret
 exact ⟨rfl, rfl⟩
def ByF (X : List UInt8) : Fct := fun v w => ∃ A c, v = .slice A X.length c ∧ Rd w w.heap.size A (u8s X)
theorem ByF.up (X : List UInt8) : (ByF X).Up := fun _ _ _ hv hg => by
 obtain ⟨A, c, h1, h2⟩ := hv
 exact ⟨A, c, h1, (h2.grown hg (Nat.le_refl _) (by simp)).more hg.size⟩
def addA (R : RS) (n : Int) (L l : List ByteArray) : RS × Int × List ByteArray × Option (List Nat) :=
 if l.any unf = true then (R, 50, L, none)
 else if 65536 < (inter L l).1.length then (R, 6, L, none)
 else if (inter L l).1.length = L.length then (R, 0, L, some (inter L l).2)
 else if (appendR R n ⟨(syB ((inter L l).1.drop L.length)).toArray⟩).1 ≠ 0 then ((appendR R n ⟨(syB ((inter L l).1.drop L.length)).toArray⟩).2, (appendR R n ⟨(syB ((inter L l).1.drop L.length)).toArray⟩).1, L, none)
 else ((appendR R n ⟨(syB ((inter L l).1.drop L.length)).toArray⟩).2, 0, (inter L l).1, some (inter L l).2)
def AddP (Z ZP : Nat → Prop) (g q : Nat) (R : RS) (S' : St) (x : RS × Int × List ByteArray × Option (List Nat)) (gF : Nat) (n : Int) (wx : World) (e : Ending) (w' : World) : Prop :=
 ∃ Z' ZP' : Nat → Prop, (∀ i, Z i → Z' i) ∧ (∀ i, Z' i → Z i ∨ wx.heap.size ≤ i) ∧ (∀ i, ZP' i → ZP i ∨ wx.heap.size ≤ i) ∧ (∀ i, ZP' i → Z' i) ∧ Turned (fun i => ¬ (Z i ∧ ¬ ZP i)) wx w' ∧ Bo w' Z' g S' q R w' ∧ PF ZP' w' gF g n x.2.2.1 ∧
  ((x.2.2.2 = none ∧ e = .returned (.tuple #[.slice none 0 0, .int .i64 x.2.1])) ∨
   ∃ out A c, x.2.2.2 = some out ∧ e = .returned (.tuple #[.slice A out.length c, .int .i64 0]) ∧ Rd w' w'.heap.size A (nats out) ∧ ∀ ad, A = some ad → wx.heap.size ≤ ad.block ∧ ad.block < w'.heap.size ∧ Z' ad.block ∧ ¬ ZP' ad.block)
theorem bl_mk (X : List UInt8) : bl ⟨X.toArray⟩ = X := by unfold bl; simp
theorem syB_pos {r : List ByteArray} (h : r ≠ []) : 0 < (syB r).length := by
 obtain ⟨s, t, rfl⟩ := List.exists_cons_of_ne_nil h
 have : syB (s :: t) = frame (putStr s) ++ syB t := by simp [syB, jn]
 rw [this, List.length_append, frame_length]
 omega
theorem Wrote.past {w w' : World} {f : List Nat} {Z ZP : Nat → Prop} (h : Wrote w w' f) (hf : ∀ x ∈ f, ZP x) : Turned (fun i => ¬ (Z i ∧ ¬ ZP i)) w w' :=
 h.turned.mono fun i _ hm hz => hz.2 (hf i hm)
theorem _root_.Go.World.ownsRow.ge_ {w : World} {b e s n c : Nat} {A : Option Addr} {xs : List Value} (h : w.ownsRow b e s (.slice A n c) n xs) {ad : Addr} (ha : A = some ad) : b ≤ ad.block := by
 rcases h.2 with ⟨hv, _⟩ | ⟨g, cap, cur, hv, hb, _⟩
 ·injection hv with hv; rw [hv] at ha; cases ha
 ·injection hv with hv; rw [hv] at ha; injection ha with ha; rw [← ha]; exact hb
theorem ownNew_keep {w w1 w3 : World} {e : TypeId} {s n c : Nat} {A : Option Addr} {xs : List Value} {M : Nat → Prop} (ho : w1.ownsRow w.heap.size e s (.slice A n c) n xs) (hT : Turned M w1 w3) (hM : ∀ i, w.heap.size ≤ i → i < w1.heap.size → ¬ M i) : w3.ownsRow w.heap.size e s (.slice A n c) n xs := by
 refine own_blk ho fun i hi => ?_
 rcases ho.2 with ⟨hv, _⟩ | ⟨b, cap, cur, hv, hb, hg, _⟩
 ·rw [hv] at hi; simp [Value.ownBlock] at hi
 ·rw [hv] at hi
  have : b = i := by simpa [Value.ownBlock] using hi
  subst this
  exact hT.block b (blk_lt hg) (hM b hb (blk_lt hg))
theorem TabF.turned {w w' : World} {base g : Nat} {f : List Nat} {L : List ByteArray} {M : Nat → Prop} (h : TabF w base f g L) (hT : Turned M w w') (hM : ∀ i ∈ f, ¬ M i) : TabF w' base f g L := by
 obtain ⟨v, mb, h2, rfl⟩ := h
 have hk : ∀ i ∈ tabF g v mb, i < w.heap.size → w'.heap[i]? = w.heap[i]? := fun i hz hi => hT.block i hi (hM i hz)
 refine ⟨v, mb, ⟨?_, ?_, ?_, h2.2.2.2⟩, rfl⟩
 ·exact (hk g (by simp [tabF]) (blk_lt h2.1)).trans h2.1
 ·refine own_blk h2.2.1 fun i hi => ?_
  rcases h2.2.1.2 with ⟨rfl, _⟩ | ⟨b, cap, cur, rfl, _, hb, _⟩
  ·simp [Value.ownBlock] at hi
  ·have : b = i := by simpa [Value.ownBlock] using hi
   subst this
   exact hk b (by simp [tabF, Value.ownBlock]) (blk_lt hb)
 ·exact h2.2.2.1.keep (hk mb (by simp [tabF]) h2.2.2.1.lt)
theorem outNew {w w1 : World} {gT n c : Nat} {A : Option Addr} {f' : List Nat} {M : List ByteArray} {Z ZP : Nat → Prop} {xs : List Value} (ho : w1.ownsRow w.heap.size 3 1 (.slice A n c) n xs) (ht : TabF w1 0 f' gT M) {ad : Addr} (ha : A = some ad) (hz : ¬ ZP ad.block) :
  w.heap.size ≤ ad.block ∧ ad.block < w1.heap.size ∧ Nz w w1 Z ad.block ∧ ¬ (ZP ad.block ∨ (ad.block ∈ f' ∧ w.heap.size ≤ ad.block)) := by
 rcases ho.2 with ⟨hv, _⟩ | ⟨b, cap, cur, hv, hb, hg, _⟩
 ·injection hv with hv; rw [hv] at ha; cases ha
 ·injection hv with hv
  rw [hv] at ha
  injection ha with ha
  subst ha
  exact ⟨hb, blk_lt hg, .inr ⟨hb, blk_lt hg⟩, fun h => h.elim hz fun h => ht.not_row hg (by decide) (by decide) h.1⟩
set_option maxHeartbeats 8000000 in
set_option maxRecDepth 100000 in
theorem add_any5 {wx : World} {Z ZP : Nat → Prop} {g q D k gF : Nat} {n : Int} {S : St} {R : RS} {L : List ByteArray} (h : Bo wx Z g S q R wx) (hs : Sim D k S R) (hpf : PF ZP wx gF g n L) (hZ : ∀ i, ZP i → Z i) (hF : FitY L) (hL : L.length ≤ 65536)
  (l : List ByteArray) (A : Option Addr) (c B : Nat) (hr : Rd wx B A (strs l)) (hB : B ≤ wx.heap.size) (hA : ∀ ad, A = some ad → l ≠ [] → ¬ ZP ad.block) (hl : l.length ≤ 60000) (hD : D ≤ 1600000) (hk : k + 1 ≤ 1000) (Db : Nat) (hDb : l.any unf = false → (syB ((inter L l).1.drop L.length)).length ≤ Db) :
  Calls Tryz.prog 19 #[.pointer (some ⟨gF, 0, none⟩), .slice A l.length c] wx fun e w' => ∃ S', Sim (D + Db) (k + 1) S' (addA R n L l).1 ∧ AddP Z ZP g q R S' (addA R n L l) gF n wx e w' := by
 obtain ⟨gT, f, h1, h2, h3, h4, h5⟩ := hpf
 have HLN := hide (fun (w : World) (f' : List Nat) (L' : List ByteArray) (hb : SyB w gF gT g n) (ht : TabF w 0 f' gT L') => flen_any gF gT g n f' L' w hb ht)
 have HFL := hide (show SyB wx gF gT g n from h1)
 have HT := hide h2
 have c0 : wx.cell? ⟨gF, 0, none⟩ = some (.pointer (some ⟨gT, 0, none⟩)) := by rw [blk_cell h1]; rfl
 have HB := hide h
 have HSM := hide (hs.mono (Nat.le_add_right D Db) (Nat.le_succ k))
 have H3 := hide h3
 have H4 := hide h4
 have H5 := hide h5
 have HZ := hide hZ
 have HGL := hide (blk_lt h1)
 unfold addA
 by_cases hu : l.any unf = true
 ·have HGV := hide (give_unfit gT l A l.length c B wx hr rfl (by omega) hu)
  rw [if_pos hu]
  clear hu h1 h2 h3 h4 h5 hr hB hA hs h hF hL hZ hDb
  go_enter Tryz.func19, Tryz.ntmps19
  go_wp2_with (first
   | (go_at_call 25; refine (HLN.out _ _ _ HFL.out HT.out).mono ?_; rintro e w1 ⟨rfl, rfl⟩)
   | (go_at_call 53; refine HGV.out.mono ?_; rintro e w1 ⟨rfl, rfl⟩))
  go_ret2
  exact ⟨S, HSM.out, Z, ZP, fun _ h => h, fun _ h => .inl h, fun _ h => .inl h, HZ.out, Turned.refl _ _, HB.out, ⟨gT, f, HFL.out, HT.out, H3.out, H4.out, H5.out⟩, .inl ⟨rfl, rfl⟩⟩
 ·have hu0 : l.any unf = false := by simpa using hu
  rw [if_neg hu]
  have hDb := hDb hu0
  have hgv := give_lim 0 gT f L l A l.length c B wx h2 hr hB (fun ad ha hne hm => hA ad ha hne (h5 _ hm)) rfl hl hu0 hL hF.2 (Nat.zero_le _)
  have hsz : ∀ s ∈ (inter L l).1, s.size ≤ 64 := (hF.inter fun s hs => by
   rw [Bool.eq_false_iff]
   intro hc
   exact hu (List.any_eq_true.2 ⟨s, hs, hc⟩)).size
  have hnd : (inter L l).1.Nodup := inter_nodup l (L, []) hF.2
  by_cases hbig : 65536 < (inter L l).1.length
  ·have HGV : Hid (Calls Tryz.prog 53 #[.pointer (some ⟨gT, 0, none⟩), .slice A l.length c] wx fun e w' => e = .returned (.tuple #[.slice none 0 0, .int .i64 6]) ∧ ∃ f', TabF w' 0 f' gT L ∧ Wrote wx w' f ∧ ∀ x ∈ f', x ∈ f ∨ wx.heap.size ≤ x) := hide (hgv.mono fun e w' hx => by
    rcases hx with hx | hx
    ·have := hx.1; omega
    ·exact hx.2)
   rw [if_pos hbig]
   clear hu hu0 h1 h2 h3 h4 h5 hr hB hA hs h hF hL hgv hbig hsz hnd hZ hDb
   go_enter Tryz.func19, Tryz.ntmps19
   go_wp2_with (first
    | (go_at_call 25; refine (HLN.out _ _ _ HFL.out HT.out).mono ?_; rintro e w1 ⟨rfl, rfl⟩)
    | (go_at_call 53; refine HGV.out.mono ?_; rintro e w1 ⟨rfl, hx⟩; have HX := hide hx; clear hx))
   go_ret2
   obtain ⟨f', t1, t2, t3⟩ := HX.out
   have hlt := t1.lt
   have hfl : SyB w1 gF gT g n := t2.blk HFL.out H4.out
   refine ⟨S, HSM.out, Nz wx w1 Z, fun i => ZP i ∨ (wx.heap.size ≤ i ∧ i < w1.heap.size), fun _ h => .inl h, fun i hi => hi.imp id fun h => h.1, fun i hi => hi.imp id fun h => h.1, fun i hi => hi.imp (HZ.out i) id, t2.past H5.out, HB.out.wrote t2.turned (fun i hi => HZ.out i (H5.out i hi)), ⟨gT, f', hfl, t1, .inl H3.out, fun hm => ?_, fun x hx => ?_⟩, .inl ⟨rfl, rfl⟩⟩
   ·rcases t3 gF hm with hm | hm
    ·exact H4.out hm
    ·have := HGL.out; omega
   ·exact (t3 x hx).imp (H5.out x) fun h => ⟨h, (hlt x hx).1⟩
  ·have HGV : Hid (Calls Tryz.prog 53 #[.pointer (some ⟨gT, 0, none⟩), .slice A l.length c] wx (GivePost 0 gT f L l wx)) := hide (hgv.mono fun e w' hx => by
    rcases hx with hx | hx
    ·exact hx.2
    ·exact absurd hx.1 hbig)
   rw [if_neg hbig]
   have hL2 : (inter L l).1.length ≤ 65536 := by omega
   have hlen := inter_length L l
   obtain ⟨r, hpre, _⟩ := inter_pre l L []
   have hpre : (inter L l).1 = L ++ r := hpre
   by_cases hnew : (inter L l).1.length = L.length
   ·rw [if_pos hnew]
    have hsame : (inter L l).1 = L := by
     rw [hpre, List.length_append] at hnew
     have : r = [] := List.eq_nil_of_length_eq_zero (by omega)
     rw [hpre, this, List.append_nil]
    generalize hM : (inter L l).1 = M at *
    generalize hns : (inter L l).2 = ns at *
    have HM := hide hM
    have HNS := hide hns
    have HSAME := hide hsame
    have HLEN := hide hlen
    have hbe : ((M.length : Int) == (L.length : Int)) = true := by rw [hnew]; simp
    clear hu hu0 h1 h2 h3 h4 h5 hr hB hA hs h hF hL hgv hbig hsz hnd hM hns hsame hpre hnew hlen hZ hDb
    go_enter Tryz.func19, Tryz.ntmps19
    go_wp2_with (first
     | (go_at_call 25; refine (HLN.out _ _ _ HFL1.out HT1.out).mono ?_; rintro e w4 ⟨rfl, rfl⟩)
     | (go_at_call 25; refine (HLN.out _ _ _ HFL.out HT.out).mono ?_; rintro e w4 ⟨rfl, rfl⟩)
     | (go_at_call 53; refine HGV.out.mono ?_; rintro e w1 ⟨v, f', rfl, ho, ht, hw, hf⟩; obtain ⟨Ao, co, hv, _, _, hro⟩ := own_form ho; subst hv; have HO := hide ho; have HRO := hide hro; have HT1 := hide (HM.out ▸ ht); have HW1 := hide hw; have HF1 := hide hf; have HFL1 := hide (show SyB w1 gF gT g n from hw.blk HFL.out H4.out); clear ho hro ht hw hf))
    go_ret2
    have hlt := HT1.out.lt
    refine ⟨S, HSM.out, Nz wx w1 Z, fun i => ZP i ∨ (i ∈ f' ∧ wx.heap.size ≤ i), fun _ h => .inl h, fun i hi => hi.imp id fun h => h.1, fun i hi => hi.imp id fun h => h.2, fun i hi => hi.imp (HZ.out i) (fun h => ⟨h.2, (hlt i h.1).1⟩), HW1.out.past H5.out, HB.out.wrote HW1.out.turned (fun i hi => HZ.out i (H5.out i hi)), ⟨gT, f', HFL1.out, HSAME.out ▸ HT1.out, .inl H3.out, fun hm => ?_, fun x hx => ?_⟩, .inr ⟨ns, Ao, co, rfl, ?_, ?_, fun ad ha => ?_⟩⟩
    ·rcases HF1.out gF hm with hm | hm
     ·exact H4.out hm
     ·have := HGL.out; omega
    ·exact (HF1.out x hx).imp (H5.out x) fun h => ⟨hx, h⟩
    ·show _ = Ending.returned (.tuple #[.slice Ao ns.length co, .int .i64 0])
     rw [HLEN.out]
     rfl
    ·rw [← HNS.out]; exact HRO.out
    ·exact outNew HO.out HT1.out ha (fun hz => Nat.lt_irrefl _ (Nat.lt_of_lt_of_le (HB.out.zlt (HZ.out _ hz)) (HO.out.ge_ ha)))
   ·rw [if_neg hnew]
    have hap := hs.append n ⟨(syB ((inter L l).1.drop L.length)).toArray⟩
    have hpz : (⟨(syB ((inter L l).1.drop L.length)).toArray⟩ : ByteArray).size = (syB ((inter L l).1.drop L.length)).length := by rw [← bl_len, bl_mk]
    rw [bl_mk, hpz] at hap
    have hxl := syB_length r (fun s hx => hsz s (by rw [hpre]; exact List.mem_append_right _ hx))
    have hrl : r.length ≤ 60000 := by
     have h1 := inter_size L l
     rw [hpre, List.length_append] at h1
     omega
    have hdr : (inter L l).1.drop L.length = r := by rw [hpre, List.drop_left]
    rw [hdr] at hap hpz hDb ⊢
    obtain ⟨X, hX⟩ : ∃ X, X = syB r := ⟨_, rfl⟩
    rw [← hX] at hap hpz hxl hDb ⊢
    have hx6 : X.length ≤ 6000000 := by omega
    generalize hM : (inter L l).1 = M at *
    generalize hns : (inter L l).2 = ns at *
    have hbe : ((M.length : Int) == (L.length : Int)) = false := beq_eq_false_iff_ne.2 fun e => hnew (by omega)
    have HBF0 := hide (fun (w : World) (f' : List Nat) (ht : TabF w 0 f' gT M) => bytesFrom_any 0 gT L.length f' M w ht (by rw [hpre, List.length_append]; omega) (by omega) hsz)
    have HAP : Hid (∀ w2 Z2 A2 c2, Bo w2 Z2 g S q R w2 → Rd w2 w2.heap.size A2 (u8s X) → Calls Tryz.prog 15 #[.pointer (some ⟨g, 0, none⟩), .int .i64 n, .slice A2 X.length c2] w2 fun e w' => e = .returned (.int .i64 (appendR R n ⟨X.toArray⟩).1) ∧ Bo w2 Z2 g (S.append n X) q R w') := hide fun w2 Z2 A2 c2 hb hr2 => by
     have := hb.pAppend hs hD (by omega) n A2 X.length c2 w2.heap.size X hr2 (Nat.le_refl _) rfl (by omega)
     rwa [hap.1] at this
    have HS2 : Hid (Sim (D + Db) (k + 1) (S.append n X) (appendR R n ⟨X.toArray⟩).2) := hide (hap.2.mono (by omega) (Nat.le_refl _))
    have HM := hide hM
    have HNS := hide hns
    have HLEN := hide hlen
    have HDR := hide (show M.drop L.length = r by rw [hpre, List.drop_left])
    have HX := hide hX
    have HPRE := hide hpre
    have HFG := hide (fun (w : World) (f' : List Nat) (ht : TabF w 0 f' gT M) => forget_any 0 gT f' L r w (by rw [← hpre]; exact ht) (hpre ▸ hnd) (by rw [← hpre]; omega))
    generalize S.append n X = S2 at *
    generalize (appendR R n ⟨X.toArray⟩).1 = E at *
    generalize (appendR R n ⟨X.toArray⟩).2 = R2 at *
    obtain ⟨res, hres⟩ : ∃ res : RS × Int × List ByteArray × Option (List Nat), res = if E ≠ 0 then (R2, E, L, none) else (R2, 0, M, some ns) := ⟨_, rfl⟩
    rw [← hres]
    have HRES := hide hres
    clear hu hu0 h1 h2 h3 h4 h5 hr hB hA hs h hF hL hgv hbig hsz hnd hM hns hpre hnew hlen hap hpz hxl hrl hdr hX hL2 hZ hres hDb
    go_enter Tryz.func19, Tryz.ntmps19
    go_upto_region 7 with (first
     | (go_at_call 25; refine (HLN.out _ _ _ HFL1.out HT1.out).mono ?_; rintro e w4 ⟨rfl, rfl⟩)
     | (go_at_call 25; refine (HLN.out _ _ _ HFL.out HT.out).mono ?_; rintro e w4 ⟨rfl, rfl⟩)
     | (go_at_call 53; refine HGV.out.mono ?_; rintro e w1 ⟨v, f', rfl, ho, ht, hw, hf⟩; obtain ⟨Ao, co, hv, _, _, hro⟩ := own_form ho; subst hv; have HO := hide ho; have HRO := hide hro; have HT1 := hide (HM.out ▸ ht); have HW1 := hide hw; have HF1 := hide hf; have HFL1 := hide (show SyB w1 gF gT g n from hw.blk HFL.out H4.out); clear ho hro ht hw hf))
    obtain ⟨n0, hn0⟩ : ∃ n0, n0 = L.length := ⟨_, rfl⟩
    have HBF : Hid (∀ wq, w1.grownBy wq none → Calls Tryz.prog 54 #[.pointer (some ⟨gT, 0, none⟩), .int .i64 (n0 : Int)] wq fun e w' => ∃ A c, e = .returned (.slice A X.length c) ∧ Rd w' w'.heap.size A (u8s X) ∧ wq.grownBy w' none) := hide fun wq hg => by
     rw [hn0]
     refine (HBF0.out wq f' (HT1.out.grown hg)).mono fun e w' hx => ?_
     obtain ⟨v, k1, k2, k3⟩ := hx
     rw [HDR.out, ← HX.out] at k2
     obtain ⟨A2, c2, rfl, _, _, k4⟩ := own_form k2
     exact ⟨A2, c2, k1, k4, k3⟩
    have HFN : Hid (∀ (w : World) (f' : List Nat), TabF w 0 f' gT M → Calls Tryz.prog 55 #[.pointer (some ⟨gT, 0, none⟩), .int .i64 (n0 : Int)] w (ForgetPost 0 gT f' L w)) := hide fun w f' ht => by
     rw [hn0]
     exact HFG.out w f' ht
    have HB1 := hide (HB.out.wrote HW1.out.turned (fun i hi => HZ.out i (H5.out i hi)))
    rw [← hn0]
    have HN0 := hide hn0
    clear hn0 hbe
    refine wp_region_facts' 14 (by kernel_rfl) (by kernel_rfl) ?_
    intro A O W L HA HO HW HL
    simp only [List.take_succ_cons, List.take_zero]
    have HS := hide (show A.tmps.size = 57 by rw [HA.out]; rfl)
    have HGW := hide (show w1.grownBy W none by rw [HW.out]; exact gb_drew (gb_refl w1 none))
    have A0 := hide (show A.eval (.tmp 0) = .pointer (some ⟨gF, 0, none⟩) by rw [HA.out]; rfl)
    have A6 := hide (show A.eval (.tmp 6) = .int .i64 (n0 : Int) by rw [HA.out]; rfl)
    refine wpFacts_lit (.pointer (some ⟨gF, 0, none⟩)) rfl ?_ ?_
    ·intro a wq hw hl
     have e0 : a.tmps[0]?.getD undef = .pointer (some ⟨gF, 0, none⟩) := (hl 0 (by first | (simp [Op.operands]; done) | simp [Op.operands, Call.operands]) (by rw [HS.out]; decide)).trans A0.out
     clear hl
     go_simp
    refine wpFacts_lit (.pointer (some ⟨gF, 0, none⟩)) rfl ?_ ?_
    ·intro a wq hw hl
     have e32 : a.tmps[32]?.getD undef = .pointer (some ⟨gF, 0, none⟩) := hl 32 (by first | (simp [Op.operands]; done) | simp [Op.operands, Call.operands]) (by rw [HS.out]; decide)
     clear hl
     go_simp
    refine wpFacts_lit (.pointer (some ⟨gF, 1, none⟩)) rfl ?_ ?_
    ·intro a wq hw hl
     have e33 : a.tmps[33]?.getD undef = .pointer (some ⟨gF, 0, none⟩) := hl 33 (by first | (simp [Op.operands]; done) | simp [Op.operands, Call.operands]) (by rw [HS.out]; decide)
     clear hl
     go_simp
    refine wpFacts_lit (.pointer (some ⟨g, 0, none⟩)) rfl ?_ ?_
    ·intro a wq hw hl
     have e34 : a.tmps[34]?.getD undef = .pointer (some ⟨gF, 1, none⟩) := hl 34 (by first | (simp [Op.operands]; done) | simp [Op.operands, Call.operands]) (by rw [HS.out]; decide)
     have hbF := blk_keep HFL1.out (gb_trans HGW.out hw (.inl rfl)) (by simp)
     have c1 : wq.cell? ⟨gF, 1, none⟩ = some (.pointer (some ⟨g, 0, none⟩)) := by rw [blk_cell hbF]; rfl
     clear hbF
     clear hl
     go_simp
    refine wpFacts_lit (.pointer (some ⟨gF, 0, none⟩)) rfl ?_ ?_
    ·intro a wq hw hl
     have e0 : a.tmps[0]?.getD undef = .pointer (some ⟨gF, 0, none⟩) := (hl 0 (by first | (simp [Op.operands]; done) | simp [Op.operands, Call.operands]) (by rw [HS.out]; decide)).trans A0.out
     clear hl
     go_simp
    refine wpFacts_lit (.pointer (some ⟨gF, 0, none⟩)) rfl ?_ ?_
    ·intro a wq hw hl
     have e36 : a.tmps[36]?.getD undef = .pointer (some ⟨gF, 0, none⟩) := hl 36 (by first | (simp [Op.operands]; done) | simp [Op.operands, Call.operands]) (by rw [HS.out]; decide)
     clear hl
     go_simp
    refine wpFacts_lit (.pointer (some ⟨gF, 2, none⟩)) rfl ?_ ?_
    ·intro a wq hw hl
     have e37 : a.tmps[37]?.getD undef = .pointer (some ⟨gF, 0, none⟩) := hl 37 (by first | (simp [Op.operands]; done) | simp [Op.operands, Call.operands]) (by rw [HS.out]; decide)
     clear hl
     go_simp
    refine wpFacts_lit (.int .i64 n) rfl ?_ ?_
    ·intro a wq hw hl
     have e38 : a.tmps[38]?.getD undef = .pointer (some ⟨gF, 2, none⟩) := hl 38 (by first | (simp [Op.operands]; done) | simp [Op.operands, Call.operands]) (by rw [HS.out]; decide)
     have hbF := blk_keep HFL1.out (gb_trans HGW.out hw (.inl rfl)) (by simp)
     have c2 : wq.cell? ⟨gF, 2, none⟩ = some (.int .i64 n) := by rw [blk_cell hbF]; rfl
     clear hbF
     clear hl
     go_simp
    refine wpFacts_lit (.pointer (some ⟨gF, 0, none⟩)) rfl ?_ ?_
    ·intro a wq hw hl
     have e0 : a.tmps[0]?.getD undef = .pointer (some ⟨gF, 0, none⟩) := (hl 0 (by first | (simp [Op.operands]; done) | simp [Op.operands, Call.operands]) (by rw [HS.out]; decide)).trans A0.out
     clear hl
     go_simp
    refine wpFacts_lit (.pointer (some ⟨gF, 0, none⟩)) rfl ?_ ?_
    ·intro a wq hw hl
     have e40 : a.tmps[40]?.getD undef = .pointer (some ⟨gF, 0, none⟩) := hl 40 (by first | (simp [Op.operands]; done) | simp [Op.operands, Call.operands]) (by rw [HS.out]; decide)
     clear hl
     go_simp
    refine wpFacts_lit (.pointer (some ⟨gF, 0, none⟩)) rfl ?_ ?_
    ·intro a wq hw hl
     have e41 : a.tmps[41]?.getD undef = .pointer (some ⟨gF, 0, none⟩) := hl 41 (by first | (simp [Op.operands]; done) | simp [Op.operands, Call.operands]) (by rw [HS.out]; decide)
     clear hl
     go_simp
    refine wpFacts_lit (.pointer (some ⟨gT, 0, none⟩)) rfl ?_ ?_
    ·intro a wq hw hl
     have e42 : a.tmps[42]?.getD undef = .pointer (some ⟨gF, 0, none⟩) := hl 42 (by first | (simp [Op.operands]; done) | simp [Op.operands, Call.operands]) (by rw [HS.out]; decide)
     have hbF := blk_keep HFL1.out (gb_trans HGW.out hw (.inl rfl)) (by simp)
     have c0 : wq.cell? ⟨gF, 0, none⟩ = some (.pointer (some ⟨gT, 0, none⟩)) := by rw [blk_cell hbF]; rfl
     clear hbF
     clear hl
     go_simp
    refine wpFacts_lit (.int .i64 (n0 : Int)) rfl ?_ ?_
    ·intro a wq hw hl
     have e6 : a.tmps[6]?.getD undef = .int .i64 (n0 : Int) := (hl 6 (by first | (simp [Op.operands]; done) | simp [Op.operands, Call.operands]) (by rw [HS.out]; decide)).trans A6.out
     clear hl
     go_simp
    refine wpFacts_step (ByF X) rfl (ByF.up X) ?_ ?_
    ·intro a wq hw hl
     have e43 : a.tmps[43]?.getD undef = .pointer (some ⟨gT, 0, none⟩) := hl 43 (by first | (simp [Op.operands]; done) | simp [Op.operands, Call.operands]) (by rw [HS.out]; decide)
     have e44 : a.tmps[44]?.getD undef = .int .i64 (n0 : Int) := hl 44 (by first | (simp [Op.operands]; done) | simp [Op.operands, Call.operands]) (by rw [HS.out]; decide)
     clear hl
     go_simp
     exact ⟨gb_refl wq none, (HBF.out wq (gb_trans HGW.out hw (.inl rfl))).mono fun e w9 hx => by obtain ⟨A, c, h1, h2, h3⟩ := hx; exact ⟨_, h1, h3, A, c, rfl, h2⟩⟩
    refine HL.out _ (fun a' w2 hc => ?_)
    have e35 : a'.eval (.tmp 35) = .pointer (some ⟨g, 0, none⟩) := hc.fact 35 (by rw [HS.out]; decide)
    have e39 : a'.eval (.tmp 39) = .int .i64 n := hc.fact 39 (by rw [HS.out]; decide)
    have h45 : (ByF X) (a'.eval (.tmp 45)) w2 := hc.fact 45 (by rw [HS.out]; decide)
    have hgw2 := gb_trans HGW.out hc.grown (.inl rfl)
    have hfr := hc.frame [32, 33, 34, 35, 36, 37, 38, 39, 40, 41, 42, 43, 44, 45, 46, 8] (by rw [HO.out]; kernel_rfl)
    rw [hfr]
    clear hfr hc
    rw [HA.out]
    clear HA HO HL HW HS HGW A0 A6
    clear A O W L
    simp only [List.drop_succ_cons, List.drop_zero, List.foldl_cons, List.foldl_nil, Act.put, List.setIfInBounds_toArray, List.set_cons_succ, List.set_cons_zero]
    rw [e35, e39]
    generalize a'.eval (.tmp 32) = x32
    generalize a'.eval (.tmp 33) = x33
    generalize a'.eval (.tmp 34) = x34
    generalize a'.eval (.tmp 36) = x36
    generalize a'.eval (.tmp 37) = x37
    generalize a'.eval (.tmp 38) = x38
    generalize a'.eval (.tmp 40) = x40
    generalize a'.eval (.tmp 41) = x41
    generalize a'.eval (.tmp 42) = x42
    generalize a'.eval (.tmp 43) = x43
    generalize a'.eval (.tmp 44) = x44
    generalize a'.eval (.tmp 45) = x45 at h45 ⊢
    generalize a'.eval (.tmp 46) = x46
    generalize a'.eval (.tmp 8) = x8
    clear e35 e39
    clear a'
    obtain ⟨A2, c2, hv2, hr2⟩ := h45
    subst hv2
    have HR2 := hide hr2
    have HG2 := hide hgw2
    have HB2 := hide (HB1.out.grew hgw2)
    have HLT := hide HT1.out.lt
    clear hr2 hgw2
    by_cases hE : E = 0
    ·subst hE
     obtain rfl : res = (R2, 0, M, some ns) := HRES.out.trans (if_neg (by simp))
     clear HRES
     go_wp2_with (go_at_call 15; refine (HAP.out _ _ A2 c2 HB2.out HR2.out).mono ?_; rintro e w3 ⟨rfl, hb⟩; have HB3 := hide hb; clear hb)
     go_ret2
     have hT13 := (Turned.of_gb (M := fun i => ¬ Nz w1 w2 (Nz wx w1 Z) i) HG2.out (by simp)).trans HB3.out.turned (fun _ _ h => h)
     refine ⟨S2, HS2.out, Nz w1 w2 (Nz wx w1 Z), fun i => ZP i ∨ (i ∈ f' ∧ wx.heap.size ≤ i), fun _ h => .inl (.inl h), fun i hi => ?_, fun i hi => hi.imp id fun h => h.2, fun i hi => .inl (hi.imp (HZ.out i) (fun h => ⟨h.2, (HLT.out i h.1).1⟩)), ((HW1.out.past H5.out).trans hT13 fun _ _ h hz => h (.inl (.inl hz.1))), HB3.out.here, (PF.keep (Z := fun i => ZP i ∨ (i ∈ f' ∧ wx.heap.size ≤ i)) ⟨gT, f', HFL1.out, HT1.out, .inl H3.out, fun hm => ?_, fun x hx => ?_⟩ hT13 fun i h hz => h (.inl (hz.imp (HZ.out i) (fun h => ⟨h.2, (HLT.out i h.1).1⟩)))), .inr ⟨ns, Ao, co, rfl, ?_, ?_, fun ad ha => ?_⟩⟩
     ·have := HW1.out.size
      rcases hi with (hi | hi) | hi
      ·exact .inl hi
      ·exact .inr hi.1
      ·exact .inr (by omega)
     ·rcases HF1.out gF hm with hm | hm
      ·exact H4.out hm
      ·have := HGL.out; omega
     ·exact (HF1.out x hx).imp (H5.out x) fun h => ⟨hx, h⟩
     ·show _ = Ending.returned (.tuple #[.slice Ao ns.length co, .int .i64 0])
      rw [HLEN.out]
      rfl
     ·have := Rd.of_own (ownNew_keep HO.out hT13 fun i h1 h2 h => h (.inl (.inr ⟨h1, h2⟩)))
      rwa [HNS.out] at this
     ·have hh := outNew (Z := Z) HO.out HT1.out ha (fun hz => Nat.lt_irrefl _ (Nat.lt_of_lt_of_le (HB.out.zlt (HZ.out _ hz)) (HO.out.ge_ ha)))
      exact ⟨hh.1, Nat.lt_of_lt_of_le hh.2.1 hT13.size, .inl hh.2.2.1, hh.2.2.2⟩
    ·have hbE : (E == 0) = false := beq_eq_false_iff_ne.2 hE
     obtain rfl : res = (R2, E, L, none) := HRES.out.trans (if_pos hE)
     have hbe : (E != 0) = true := by simpa using hE
     have HTM : Hid (∀ w3, Turned (fun i => ¬ Nz w1 w2 (Nz wx w1 Z) i) w1 w3 → TabF w3 0 f' gT M) := hide fun w3 hT => HT1.out.turned hT fun i hi h => h (.inl ((HF1.out i hi).imp (fun h => HZ.out i (H5.out i h)) (fun h => ⟨h, (HLT.out i hi).1⟩)))
     clear HRES hE
     go_wp2_with (first
      | (go_at_call 15; refine (HAP.out _ _ A2 c2 HB2.out HR2.out).mono ?_; rintro e w3 ⟨rfl, hb⟩; have HB3 := hide hb; clear hb; have HT13 := hide ((Turned.of_gb (M := fun i => ¬ Nz w1 w2 (Nz wx w1 Z) i) HG2.out (by simp)).trans HB3.out.turned (fun _ _ h => h)); have HFL3 := hide (show SyB w3 gF gT g n from (HT13.out.block gF (blk_lt HFL1.out) (fun h => h (.inl (.inl (HZ.out _ H3.out))))).trans HFL1.out); have c3 : w3.cell? ⟨gF, 0, none⟩ = some (.pointer (some ⟨gT, 0, none⟩)) := by rw [blk_cell HFL3.out]; rfl)
      | (go_at_call 55; refine (HFN.out _ f' (HTM.out _ HT13.out)).mono ?_; rintro e w4 ⟨rfl, ht, hw⟩; have HT4 := hide ht; have HW4 := hide hw; clear ht hw))
     go_ret2
     have hNz : ∀ i ∈ f', Nz wx w1 Z i := fun i hi => (HF1.out i hi).imp (fun h => HZ.out i (H5.out i h)) (fun h => ⟨h, (HLT.out i hi).1⟩)
     have hfl3 := HFL3.out
     have hgf : gF ∉ f' := fun hm => (HF1.out gF hm).elim (fun h => H4.out h) fun h => by have := HGL.out; omega
     refine ⟨S2, HS2.out, Nz w3 w4 (Nz w1 w2 (Nz wx w1 Z)), fun i => ZP i ∨ (i ∈ f' ∧ wx.heap.size ≤ i), fun _ h => .inl (.inl (.inl h)), fun i hi => ?_, fun i hi => hi.imp id fun h => h.2, fun i hi => .inl (.inl (hi.imp (HZ.out i) (fun h => ⟨h.2, (HLT.out i h.1).1⟩))), (((HW1.out.past H5.out).trans HT13.out fun _ _ h hz => h (.inl (.inl hz.1))).trans HW4.out.turned fun i hi hm hz => (HF1.out i hm).elim (fun h => hz.2 (H5.out i h)) (fun h => by omega)), HB3.out.here.wrote HW4.out.turned (fun i hi => .inl (hNz i hi)), ⟨gT, f', HW4.out.blk hfl3 hgf, HT4.out, .inl H3.out, hgf, fun x hx => (HF1.out x hx).imp (H5.out x) fun h => ⟨hx, h⟩⟩, .inl ⟨rfl, rfl⟩⟩
     have h1 := HW1.out.size
     have h2 := HT13.out.size
     rcases hi with ((hi | hi) | hi) | hi
     ·exact .inl hi
     ·exact .inr hi.1
     ·exact .inr (by omega)
     ·exact .inr (by omega)
set_option maxHeartbeats 4000000 in
set_option maxRecDepth 100000 in
theorem fsync_any5 {wx : World} {Z : Nat → Prop} {g q D k gF gT : Nat} {n : Int} {S : St} {R Rq : RS} (h : Bo wx Z g S q Rq wx) (hs : Sim D k S R) (hfl : SyB wx gF gT g n) (hD : D ≤ 1600000) (hk : k + 1 ≤ 1000) :
  Calls Tryz.prog 22 #[.pointer (some ⟨gF, 0, none⟩)] wx fun e w' => e = .returned (.int .i64 (syncR R n).1) ∧ Bo wx Z g (S.sync n) q Rq w' ∧ Sim D (k + 1) (S.sync n) (syncR R n).2 := by
 have hsy := hs.sync n
 have HSY : Hid (∀ w2, wx.grownBy w2 none → Calls Tryz.prog 57 #[.pointer (some ⟨g, 0, none⟩), .int .i64 n] w2 fun e w' => e = .returned (.int .i64 (syncR R n).1) ∧ Bo wx Z g (S.sync n) q Rq w') := hide fun w2 hg => by
  have := (h.keep hg).pSync hs hD (by omega) n
  rwa [hsy.1] at this
 have HS2 := hide hsy.2
 have HFL := hide (show SyB wx gF gT g n from hfl)
 generalize S.sync n = S2 at *
 generalize (syncR R n).1 = E at *
 generalize (syncR R n).2 = R2 at *
 clear h hs hfl hsy
 go_enter Tryz.func22, Tryz.ntmps22
 go_upto_region 3 with fail
 refine wp_region_facts' 8 (by kernel_rfl) (by kernel_rfl) ?_
 intro A O W L HA HO HW HL
 simp only [List.take_succ_cons, List.take_zero]
 have HS := hide (show A.tmps.size = 14 by rw [HA.out]; rfl)
 have HGW := hide (show wx.grownBy W none by rw [HW.out]; exact gb_drew (gb_refl wx none))
 have A0 := hide (show A.eval (.tmp 0) = .pointer (some ⟨gF, 0, none⟩) by rw [HA.out]; rfl)
 refine wpFacts_lit (.pointer (some ⟨gF, 0, none⟩)) rfl ?_ ?_
 ·intro a wq hw hl
  have e0 : a.tmps[0]?.getD undef = .pointer (some ⟨gF, 0, none⟩) := (hl 0 (by first | (simp [Op.operands]; done) | simp [Op.operands, Call.operands]) (by rw [HS.out]; decide)).trans A0.out
  clear hl
  go_simp
 refine wpFacts_lit (.pointer (some ⟨gF, 0, none⟩)) rfl ?_ ?_
 ·intro a wq hw hl
  have e5 : a.tmps[5]?.getD undef = .pointer (some ⟨gF, 0, none⟩) := hl 5 (by first | (simp [Op.operands]; done) | simp [Op.operands, Call.operands]) (by rw [HS.out]; decide)
  clear hl
  go_simp
 refine wpFacts_lit (.pointer (some ⟨gF, 1, none⟩)) rfl ?_ ?_
 ·intro a wq hw hl
  have e6 : a.tmps[6]?.getD undef = .pointer (some ⟨gF, 0, none⟩) := hl 6 (by first | (simp [Op.operands]; done) | simp [Op.operands, Call.operands]) (by rw [HS.out]; decide)
  clear hl
  go_simp
 refine wpFacts_lit (.pointer (some ⟨g, 0, none⟩)) rfl ?_ ?_
 ·intro a wq hw hl
  have e7 : a.tmps[7]?.getD undef = .pointer (some ⟨gF, 1, none⟩) := hl 7 (by first | (simp [Op.operands]; done) | simp [Op.operands, Call.operands]) (by rw [HS.out]; decide)
  have hbF := blk_keep HFL.out (gb_trans HGW.out hw (.inl rfl)) (by simp)
  have c1 : wq.cell? ⟨gF, 1, none⟩ = some (.pointer (some ⟨g, 0, none⟩)) := by rw [blk_cell hbF]; rfl
  clear hbF
  clear hl
  go_simp
 refine wpFacts_lit (.pointer (some ⟨gF, 0, none⟩)) rfl ?_ ?_
 ·intro a wq hw hl
  have e0 : a.tmps[0]?.getD undef = .pointer (some ⟨gF, 0, none⟩) := (hl 0 (by first | (simp [Op.operands]; done) | simp [Op.operands, Call.operands]) (by rw [HS.out]; decide)).trans A0.out
  clear hl
  go_simp
 refine wpFacts_lit (.pointer (some ⟨gF, 0, none⟩)) rfl ?_ ?_
 ·intro a wq hw hl
  have e9 : a.tmps[9]?.getD undef = .pointer (some ⟨gF, 0, none⟩) := hl 9 (by first | (simp [Op.operands]; done) | simp [Op.operands, Call.operands]) (by rw [HS.out]; decide)
  clear hl
  go_simp
 refine wpFacts_lit (.pointer (some ⟨gF, 2, none⟩)) rfl ?_ ?_
 ·intro a wq hw hl
  have e10 : a.tmps[10]?.getD undef = .pointer (some ⟨gF, 0, none⟩) := hl 10 (by first | (simp [Op.operands]; done) | simp [Op.operands, Call.operands]) (by rw [HS.out]; decide)
  clear hl
  go_simp
 refine wpFacts_lit (.int .i64 n) rfl ?_ ?_
 ·intro a wq hw hl
  have e11 : a.tmps[11]?.getD undef = .pointer (some ⟨gF, 2, none⟩) := hl 11 (by first | (simp [Op.operands]; done) | simp [Op.operands, Call.operands]) (by rw [HS.out]; decide)
  have hbF := blk_keep HFL.out (gb_trans HGW.out hw (.inl rfl)) (by simp)
  have c2 : wq.cell? ⟨gF, 2, none⟩ = some (.int .i64 n) := by rw [blk_cell hbF]; rfl
  clear hbF
  clear hl
  go_simp
 refine HL.out _ (fun a' w2 hc => ?_)
 have e8 : a'.eval (.tmp 8) = .pointer (some ⟨g, 0, none⟩) := hc.fact 8 (by rw [HS.out]; decide)
 have e12 : a'.eval (.tmp 12) = .int .i64 n := hc.fact 12 (by rw [HS.out]; decide)
 have hgw2 := gb_trans HGW.out hc.grown (.inl rfl)
 have hfr := hc.frame [5, 6, 7, 8, 9, 10, 11, 12, 13, 2] (by rw [HO.out]; kernel_rfl)
 rw [hfr]
 clear hfr hc
 rw [HA.out]
 clear HA HO HL HW HS HGW A0
 clear A O W L
 simp only [List.drop_succ_cons, List.drop_zero, List.foldl_cons, List.foldl_nil, Act.put, List.setIfInBounds_toArray, List.set_cons_succ, List.set_cons_zero]
 rw [e8, e12]
 generalize a'.eval (.tmp 5) = x5
 generalize a'.eval (.tmp 6) = x6
 generalize a'.eval (.tmp 7) = x7
 generalize a'.eval (.tmp 9) = x9
 generalize a'.eval (.tmp 10) = x10
 generalize a'.eval (.tmp 11) = x11
 generalize a'.eval (.tmp 13) = x13
 generalize a'.eval (.tmp 2) = x2
 clear e8 e12
 clear a'
 have HG2 := hide hgw2
 clear hgw2
 go_wp2_with (go_at_call 57; refine (HSY.out _ HG2.out).mono ?_; rintro e w3 ⟨rfl, hb⟩; have HB3 := hide hb; clear hb)
 go_ret
 exact ⟨rfl, HB3.out, HS2.out⟩
end Go.Proofs.YtmcmlkglkpbnpaaGreat
