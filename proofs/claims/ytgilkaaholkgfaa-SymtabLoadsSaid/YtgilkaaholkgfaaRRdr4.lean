/-
  The contract of the reference's reader's Text.
-/
import Derived.Test.YtgilkaaholkgfaaRRdr3
namespace Go.Proofs.Ytgilkaaholkgfaa
open Go.RowKit

set_option maxHeartbeats 2000000 in
set_option maxRecDepth 100000 in
theorem refText_err (base g : Nat) (bs : List UInt8) (p : Nat) (x y most : Int) (w : World) (h : RefR w base g bs p x) (hp : p ≤ bs.length) (hl : bs.length ≤ 100000000) (hN : rNum bs p x = (0, p, y)) (hy : y ≠ 0) :
    Calls Try.prog 31 #[.pointer (some ⟨g, 0, none⟩), .int .i64 most] w (RAfter base g bs (.string ⟨#[]⟩) p y w) := by
  have h1 := h.at_
  have NM := hide (refNum_as h hp hl hN)
  have hb : (y != 0) = true := by simpa using hy
  clear h hN hy
  go_enter Try.func31, Try.ntmps31
  go_wp2_with (go_at_call 53; refine NM.out.mono ?_; rintro e w1 ⟨rfl, hr1, hg1⟩; have HR1 := hide hr1; have HG1 := hide hg1; have k2 := hr1.err; clear hr1 hg1)
  go_ret
  exact ⟨rfl, HR1.out, HG1.out⟩

set_option maxHeartbeats 2000000 in
set_option maxRecDepth 100000 in
theorem refText_long (base g : Nat) (bs : List UInt8) (p n q : Nat) (x most : Int) (w : World) (h : RefR w base g bs p x) (hp : p ≤ bs.length) (hl : bs.length ≤ 100000000) (hm : I64 most) (hN : rNum bs p x = (n, q, 0)) (ha : most < 0 ∨ most < n) :
    Calls Try.prog 31 #[.pointer (some ⟨g, 0, none⟩), .int .i64 most] w (RAfter base g bs (.string ⟨#[]⟩) p 1 w) := by
  have h1 := h.at_
  have NM := hide (refNum_as h hp hl hN)
  clear h hN
  by_cases h0 : most < 0
  · clear ha hm
    go_enter Try.func31, Try.ntmps31
    go_wp2_with (first
      | (go_at_call 53; refine NM.out.mono ?_; rintro e w1 ⟨rfl, hr1, hg1⟩; have HR1 := hide hr1; have HG1 := hide hg1; have k2 := hr1.err; clear hr1 hg1)
      | (go_at_call 54; refine (refFail_at HR1.out 1 (by decide) p).mono ?_; rintro e w2 ⟨rfl, hr2, hg2⟩))
    go_ret
    exact ⟨rfl, hr2, gb_trans HG1.out hg2 (.inl rfl)⟩
  · have hgt : IntKind.u64.wrap most < (n : Int) := by rw [u64_of hm (by omega)]; omega
    have h00 : 0 ≤ most := by omega
    clear ha hm
    go_enter Try.func31, Try.ntmps31
    go_wp2_with (first
      | (go_at_call 53; refine NM.out.mono ?_; rintro e w1 ⟨rfl, hr1, hg1⟩; have HR1 := hide hr1; have HG1 := hide hg1; have k2 := hr1.err; clear hr1 hg1)
      | (go_at_call 54; refine (refFail_at HR1.out 1 (by decide) p).mono ?_; rintro e w2 ⟨rfl, hr2, hg2⟩))
    go_ret
    exact ⟨rfl, hr2, gb_trans HG1.out hg2 (.inl rfl)⟩

set_option maxHeartbeats 2000000 in
set_option maxRecDepth 100000 in
theorem refText_short (base g : Nat) (bs : List UInt8) (p n q : Nat) (x most : Int) (w : World) (h : RefR w base g bs p x) (hp : p ≤ bs.length) (hl : bs.length ≤ 100000000) (hm : I64 most) (hN : rNum bs p x = (n, q, 0)) (ha : ¬ (most < 0 ∨ most < n)) (hq : q ≤ bs.length) (hs : bs.length - q < n) :
    Calls Try.prog 31 #[.pointer (some ⟨g, 0, none⟩), .int .i64 most] w (RAfter base g bs (.string ⟨#[]⟩) p 3 w) := by
  have h1 := h.at_
  have NM := hide (refNum_as h hp hl hN)
  have h00 : 0 ≤ most := by omega
  have hle : (n : Int) ≤ IntKind.u64.wrap most := by rw [u64_of hm h00]; omega
  have f1 : IntKind.u64.wrap ((bs.length : Int) - (q : Int)) = (bs.length : Int) - (q : Int) := by rw [IntKind.wrap_u64]; omega
  have f2 : (bs.length : Int) - (q : Int) < (n : Int) := by omega
  have f3 : IntKind.i64.wrap ((bs.length : Int) - (q : Int)) = (bs.length : Int) - (q : Int) := by rw [IntKind.wrap_i64]; omega
  have F1 := hide f1; have F3 := hide f3
  clear h hN ha hm f1 f3
  go_enter Try.func31, Try.ntmps31
  go_wp2_with (go_at_call 53; refine NM.out.mono ?_; rintro e w1 ⟨rfl, hr1, hg1⟩; have HR1 := hide hr1; have HG1 := hide hg1; have k2 := hr1.err; have k1 := hr1.at_; obtain ⟨A, c, k0, _, _, _⟩ := hr1.bytes; clear hr1 hg1)
  have f1 := F1.out
  have f3 := F3.out
  go_quiet (fail)
  clear f1 f3
  go_wp2_with (go_at_call 54; refine (refFail_at (HR1.out.drewN _) 3 (by decide) p).mono ?_; rintro e w2 ⟨rfl, hr2, hg2⟩)
  go_ret
  exact ⟨rfl, hr2, gb_trans (gb_drewN HG1.out _) hg2 (.inl rfl)⟩

set_option maxHeartbeats 4000000 in
set_option maxRecDepth 100000 in
theorem refText_ok (base g : Nat) (bs : List UInt8) (p n q : Nat) (x most : Int) (w : World) (h : RefR w base g bs p x) (hp : p ≤ bs.length) (hl : bs.length ≤ 100000000) (hm : I64 most) (hN : rNum bs p x = (n, q, 0)) (ha : ¬ (most < 0 ∨ most < n)) (hs : q + n ≤ bs.length) :
    Calls Try.prog 31 #[.pointer (some ⟨g, 0, none⟩), .int .i64 most] w (RAfter base g bs (.string ⟨((bs.drop q).take n).toArray⟩) (q + n) 0 w) := by
  have h1 := h.at_
  have NM := hide (refNum_as h hp hl hN)
  have h00 : 0 ≤ most := by omega
  have hle : (n : Int) ≤ IntKind.u64.wrap most := by rw [u64_of hm h00]; omega
  have F1 := hide (show IntKind.u64.wrap ((bs.length : Int) - (q : Int)) = (bs.length : Int) - (q : Int) by rw [IntKind.wrap_u64]; omega)
  have F3 := hide (show IntKind.i64.wrap ((bs.length : Int) - (q : Int)) = (bs.length : Int) - (q : Int) by rw [IntKind.wrap_i64]; omega)
  have f2 : (n : Int) ≤ (bs.length : Int) - (q : Int) := by omega
  clear h hN ha hm
  go_enter Try.func31, Try.ntmps31
  go_wp2_with (go_at_call 53; refine NM.out.mono ?_; rintro e w1 ⟨rfl, hr1, hg1⟩; have HR1 := hide hr1; have HG1 := hide hg1; have k2 := hr1.err; have k1 := hr1.at_; obtain ⟨A, c, k0, hnc, hcm, hrd⟩ := hr1.bytes; have HRD := hide hrd; have HCM := hide hcm; clear hr1 hg1 hrd hcm)
  have f1 := F1.out
  have f3 := F3.out
  go_quiet (fail)
  clear f1 f3
  have HRW := hide (HR1.out.drewN nq)
  have HGW := hide (gb_drewN HG1.out nq)
  clear k0 k1 k2 HR1 HG1 HRD
  generalize w1.drewN nq = W at *
  have k1 := HRW.out.at_
  have kf1 := HRW.out.free
  have hpl := HRW.out.place (q + n)
  rw [show ((q + n : Nat) : Int) = (q : Int) + (n : Int) by omega] at hpl
  have PL1 := hide hpl.1
  have PL2 := hide (gb_trans HGW.out hpl.2 (.inl rfl))
  clear hpl HRW HGW
  go_wp2
  generalize W.setCell ⟨g, 1, none⟩ (.int .i64 ((q : Int) + (n : Int))) = W2 at *
  have j1 := PL1.out.at_
  obtain ⟨A2, c2, j0, hnc2, hcm2, hrd2⟩ := PL1.out.bytes
  rw [show ((q + n : Nat) : Int) = (q : Int) + (n : Int) by omega] at j1
  have HCS := hide (fun m => cut_string hrd2 hnc2 (k := q) (n := n) hs m)
  have f4 : IntKind.i64.wrap ((q : Int) + (n : Int) - (n : Int)) = (q : Int) := by rw [IntKind.wrap_i64]; omega
  have f5 : (0 : Int) ≤ (q : Int) := by omega
  have f6 : (q : Int) ≤ (q : Int) + (n : Int) := by omega
  have f7 : (q : Int) + (n : Int) ≤ (c2 : Int) := by omega
  have f8 : (n : Int) ≤ 100000000 := by omega
  have f12 : IntKind.i64.wrap (n : Int) = (n : Int) := by rw [IntKind.wrap_i64]; omega
  have f11 : IntKind.i64.wrap (q : Int) = (q : Int) := by rw [IntKind.wrap_i64]; omega
  have f9 : ((q : Int) + (n : Int)).toNat = q + n := by omega
  have f10 : q + n - q = n := by omega
  clear hrd2 hnc hnc2 hcm2 hle f2 F1 F3 HCM
  refine wp_region_quiet_lit (by kernel_rfl) (by kernel_rfl) ?_
  repeat (any_goals (first | quiet_step (fail) | (refine quiet_conv rfl rfl rfl (fun W hW => by obtain ⟨n, rfl⟩ := hW; exact HCS.out n) ?_)))
  all_goals
    refine wpQuiet_nil ?_
    intro w' hw'
    obtain ⟨nr, hw''⟩ := hw'
    subst hw''
    go_wp2
    all_goals (go_ret; exact ⟨rfl, PL1.out.drewN _, gb_drewN PL2.out _⟩)

/-- The reference's Text. -/
theorem refText_any (base g : Nat) (bs : List UInt8) (p : Nat) (x most : Int) (w : World) (h : RefR w base g bs p x) (hp : p ≤ bs.length) (hl : bs.length ≤ 100000000) (hm : I64 most) :
    Calls Try.prog 31 #[.pointer (some ⟨g, 0, none⟩), .int .i64 most] w (RAfter base g bs (.string ⟨(rText bs p x most).1.toArray⟩) (rText bs p x most).2.1 (rText bs p x most).2.2 w) := by
  rcases hN : rNum bs p x with ⟨n, q, y⟩
  by_cases hy : y = 0
  · subst hy
    obtain ⟨k1, k2, k3⟩ := rNum_ok hN
    have hq : q ≤ bs.length := by have := rPeek_size bs p x hp; omega
    by_cases ha : most < 0 ∨ most < n
    · have e : rText bs p x most = ([], p, 1) := by unfold rText; rw [if_pos k3, k1, if_pos ha]
      rw [e]
      exact refText_long base g bs p n q x most w h hp hl hm hN ha
    · by_cases hs : bs.length - q < n
      · have e : rText bs p x most = ([], p, 3) := by unfold rText; rw [if_pos k3, k1, if_neg ha, if_pos (by omega)]
        rw [e]
        exact refText_short base g bs p n q x most w h hp hl hm hN ha hq hs
      · have e : rText bs p x most = ((bs.drop q).take n, q + n, 0) := by unfold rText; rw [if_pos k3, k1, if_neg ha, if_neg (by omega), k2]
        rw [e]
        exact refText_ok base g bs p n q x most w h hp hl hm hN ha (by omega)
  · obtain ⟨rfl, rfl, k3⟩ := rNum_err hN hy
    have e : rText bs q x most = ([], q, y) := by unfold rText; rw [if_neg (by rw [k3]; exact hy), k3]
    rw [e]
    exact refText_err base g bs q x y most w h hp hl hN hy

end Go.Proofs.Ytgilkaaholkgfaa
