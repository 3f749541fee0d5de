/-
  Same, where all is the same.
-/
import Derived.Test.YtpkmlehkmmdkoaaSimEu
import Derived.Deep.RegionHeld3
namespace Go.Proofs.Ytpkmlehkmmdkoaa
open Go.RowKit

def SixAt (g1 g2 mn1 ms1 mn2 ms2 : Nat) (A1 : Option Addr) (n1 c1 : Nat) (A2 : Option Addr) (n2 c2 : Nat) (w' : World) : Prop :=
  w'.cell? ⟨g1, 4, none⟩ = some (.map (some mn1)) ∧ w'.cell? ⟨g1, 5, none⟩ = some (.map (some ms1)) ∧ w'.cell? ⟨g1, 6, none⟩ = some (.slice A1 n1 c1) ∧
    w'.cell? ⟨g2, 4, none⟩ = some (.map (some mn2)) ∧ w'.cell? ⟨g2, 5, none⟩ = some (.map (some ms2)) ∧ w'.cell? ⟨g2, 6, none⟩ = some (.slice A2 n2 c2)
theorem SixAt.grown {g1 g2 mn1 ms1 mn2 ms2 : Nat} {A1 : Option Addr} {n1 c1 : Nat} {A2 : Option Addr} {n2 c2 : Nat} {w w' : World} (h : SixAt g1 g2 mn1 ms1 mn2 ms2 A1 n1 c1 A2 n2 c2 w) (hg : w.grownBy w' none) : SixAt g1 g2 mn1 ms1 mn2 ms2 A1 n1 c1 A2 n2 c2 w' := by
  obtain ⟨h1, h2, h3, h4, h5, h6⟩ := h
  exact ⟨cell_grown h1 hg, cell_grown h2 hg, cell_grown h3 hg, cell_grown h4 hg, cell_grown h5 hg, cell_grown h6 hg⟩

theorem ChAt.grown {w w' : World} {own : Nat → Prop} {v : Value} {l : List Ch} (h : ChAt w own v l) (hg : w.grownBy w' none) : ChAt w' own v l := ⟨own_keep h.1 fun _ _ hl => hg.block _ hl (by simp), h.2⟩

set_option maxHeartbeats 8000000 in
set_option maxRecDepth 100000 in
theorem same_yes (g1 g2 : Nat) (S1 S2 : St) (L1 L2 : Nat → Nat) (w : World) (h : FsAt w L1 g1 S1) (k : FsAt w L2 g2 S2)
    (hv1 : ∀ x ∈ S1.names, (S1.files (x.2 : Int)).isSome) (hv2 : ∀ x ∈ S2.names, (S2.files (x.2 : Int)).isSome) (hs1 : ∀ x ∈ S1.safe, (S1.files (x.2 : Int)).isSome) (hs2 : ∀ x ∈ S2.safe, (S2.files (x.2 : Int)).isSome)
    (e1 : nmEq S1 S1.names S2 S2.names = true) (e2 : nmEq S1 S1.safe S2 S2.safe = true) (e3 : eqL chEq S1.changes S2.changes = true) :
    Calls Try.prog 10 #[.pointer (some ⟨g1, 0, none⟩), .pointer (some ⟨g2, 0, none⟩)] w fun e w' => e = .returned (.bool true) ∧ w.grownBy w' none := by
  have H := hide h
  have K := hide k
  obtain ⟨mf1, mn1, ms1, vch1, lf1, h⟩ := h
  obtain ⟨mf2, mn2, ms2, vch2, lf2, k⟩ := k
  obtain ⟨A1, c1, rfl, _⟩ := h.chs.form
  obtain ⟨A2, c2, rfl, _⟩ := k.chs.form
  have HN1 := hide h.names
  have HN2 := hide k.names
  have HS1 := hide h.safe
  have HS2 := hide k.safe
  have HC1 := hide h.chs
  have HC2 := hide k.chs
  have C0 : SixAt g1 g2 mn1 ms1 mn2 ms2 A1 S1.changes.length c1 A2 S2.changes.length c2 w := ⟨h.blk.c4, h.blk.c5, h.blk.c6, k.blk.c4, k.blk.c5, k.blk.c6⟩
  have HC0 := hide C0
  have F1 := hide (fun (w1 : World) (hg : w.grownBy w1 none) => sameFiles_any g1 g2 mn1 mn2 S1 S2 S1.names S2.names L1 L2 w1 (H.out.grown hg) (K.out.grown hg) (HN1.out.grown hg (by simp)) (HN2.out.grown hg (by simp)) hv1 hv2)
  have F2 := hide (fun (w1 : World) (hg : w.grownBy w1 none) => sameFiles_any g1 g2 ms1 ms2 S1 S2 S1.safe S2.safe L1 L2 w1 (H.out.grown hg) (K.out.grown hg) (HS1.out.grown hg (by simp)) (HS2.out.grown hg (by simp)) hs1 hs2)
  have F3 := hide (fun (w1 : World) (hg : w.grownBy w1 none) => eqf_ch A1 A2 _ c1 _ c2 S1.changes S2.changes _ _ w1 (HC1.out.grown hg) (HC2.out.grown hg))
  rw [e1] at F1
  rw [e2] at F2
  rw [e3] at F3
  have HG0 := hide (gb_drew (gb_refl w none))
  clear h k e1 e2 e3 hv1 hv2 hs1 hs2
  obtain ⟨a4, a5, a6, b4, b5, b6⟩ := C0
  go_enter Try.func10, Try.ntmps10
  go_wp2
  go_region_held3 (fun w' => w'.cell? ⟨g1, 4, none⟩ = some (.map (some mn1)) ∧ w'.cell? ⟨g1, 5, none⟩ = some (.map (some ms1)) ∧ w'.cell? ⟨g1, 6, none⟩ = some (.slice A1 S1.changes.length c1) ∧ w'.cell? ⟨g2, 4, none⟩ = some (.map (some mn2)) ∧ w'.cell? ⟨g2, 5, none⟩ = some (.map (some ms2)) ∧ w'.cell? ⟨g2, 6, none⟩ = some (.slice A2 S2.changes.length c2))
    (first | exact HC0.out | exact HC1'.out | exact HC2'.out | exact HC3'.out | go_keep)
    (first
    | (go_simp; go_at_call 34; (have _t := HG0); (with_reducible refine (F1.out _ HG0.out).mono ?_); rintro e w1 ⟨rfl, hg⟩; have HG1 := hide (gb_trans HG0.out hg (.inl rfl)); have HC1' := hide (HC0.out.grown HG1.out); clear hg _t HG0)
    | (go_simp; go_at_call 34; (with_reducible refine (F2.out _ HG1.out).mono ?_); rintro e w2 ⟨rfl, hg⟩; have HG2 := hide (gb_trans HG1.out hg (.inl rfl)); have HC2' := hide (HC0.out.grown HG2.out); clear hg HG1)
    | (go_simp; go_at_call 35; (refine (F3.out _ HG2.out).mono ?_); rintro e w3 ⟨rfl, hg⟩; have HG3 := hide (gb_trans HG2.out hg (.inl rfl)); have HC3' := hide (HC0.out.grown HG3.out); clear hg HG2))
  go_wp2
  go_ret
  exact ⟨rfl, HG3.out⟩

end Go.Proofs.Ytpkmlehkmmdkoaa
