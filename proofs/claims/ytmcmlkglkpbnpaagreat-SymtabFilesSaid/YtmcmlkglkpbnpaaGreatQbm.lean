/-
  FS.Read where it answers an error.
-/
import Derived.Test.YtmcmlkglkpbnpaaGreatQbb
import Derived.Shelf.SlIter.Nil
import Derived.Shelf.SortM.Plain
import Derived.Shelf.SortM.SortNone
import Derived.Ground.GgzProg
import Derived.Ground.SlgmProg
namespace Go.Proofs
open Go.RowKit Go.Maps Go.Sort Go.Shelf
end Go.Proofs
namespace Go.Proofs.YtmcmlkglkpbnpaaGreat
open Go.RowKit Go.Maps Go.Sort Go.Shelf Go.WideShapes
def leS (a b : ByteArray) : Prop := a.data.toList ≤ b.data.toList
end Go.Proofs.YtmcmlkglkpbnpaaGreat
namespace Go.Proofs.YtmcmlkglkpbnpaaGreat
open Go.RowKit
theorem read_dead (L : Nat → Nat) (g : Nat) (S : St) (n k x : Int) (w : World) (h : FsAt w L g S) (hd : S.dead = true) :
  Calls Tryz.prog 82 #[.pointer (some ⟨g, 0, none⟩), .int .i64 n, .int .i64 k, .int .i64 x] w fun e w' => e = .returned (.tuple #[.slice none 0 0, .int .i64 21]) ∧ w = w' := by
 obtain ⟨mf, mn, ms, vch, lf, h⟩ := h
 have HFD := hide (h.find_dead n hd)
 clear h hd
 go_enter Tryz.func82, Tryz.ntmps82
 go_wp2_with (go_at_call 38; refine HFD.out.mono ?_; rintro e w1 ⟨rfl, rfl⟩)
 go_ret2
 exact ⟨rfl, rfl⟩
theorem read_none (L : Nat → Nat) (g : Nat) (S : St) (n k x : Int) (w : World) (h : FsAt w L g S) (hd : S.dead = false) (hn : S.file n = none) :
  Calls Tryz.prog 82 #[.pointer (some ⟨g, 0, none⟩), .int .i64 n, .int .i64 k, .int .i64 x] w fun e w' => e = .returned (.tuple #[.slice none 0 0, .int .i64 7]) ∧ w = w' := by
 obtain ⟨mf, mn, ms, vch, lf, h⟩ := h
 have HFD := hide (h.find_none hd hn)
 clear h hd hn
 go_enter Tryz.func82, Tryz.ntmps82
 go_wp2_with (go_at_call 38; refine HFD.out.mono ?_; rintro e w1 ⟨rfl, rfl⟩)
 go_ret2
 exact ⟨rfl, rfl⟩
set_option maxHeartbeats 1000000 in
theorem read_arg (L : Nat → Nat) (g : Nat) (S : St) (n k x : Int) (f : Fl) (w : World) (h : FsAt w L g S) (hd : S.dead = false) (hn : S.file n = some f) (hb : k < 0 ∨ (f.bytes.length : Int) < k ∨ x < 0) :
  Calls Tryz.prog 82 #[.pointer (some ⟨g, 0, none⟩), .int .i64 n, .int .i64 k, .int .i64 x] w fun e w' => e = .returned (.tuple #[.slice none 0 0, .int .i64 2]) ∧ w = w' := by
 obtain ⟨mf, mn, ms, vch, lf, h⟩ := h
 obtain ⟨fb, h1, h2, h3, h4⟩ := h.find_some hd hn
 obtain ⟨fv, hfl, hof, hgo, hbb, _⟩ := h2
 obtain ⟨A, c, hvb, hlc, hcm, hrd⟩ := hbb.rd
 have q1 := hfl.c1
 rw [hvb] at q1
 have HFD := hide h4
 clear h hd hn h4 hfl hbb hvb hrd
 by_cases k1 : k < 0
 ·clear hb
  go_enter Tryz.func82, Tryz.ntmps82
  go_wp2_with (go_at_call 38; refine HFD.out.mono ?_; rintro e w1 ⟨rfl, rfl⟩)
  go_ret2
  exact ⟨rfl, rfl⟩
 ·by_cases k2 : (f.bytes.length : Int) < k
  ·clear hb
   go_enter Tryz.func82, Tryz.ntmps82
   go_wp2_with (go_at_call 38; refine HFD.out.mono ?_; rintro e w1 ⟨rfl, rfl⟩)
   go_ret2
   exact ⟨rfl, rfl⟩
  ·have k3 : x < 0 := by omega
   clear hb
   go_enter Tryz.func82, Tryz.ntmps82
   go_wp2_with (go_at_call 38; refine HFD.out.mono ?_; rintro e w1 ⟨rfl, rfl⟩)
   go_ret2
   exact ⟨rfl, rfl⟩
end Go.Proofs.YtmcmlkglkpbnpaaGreat
