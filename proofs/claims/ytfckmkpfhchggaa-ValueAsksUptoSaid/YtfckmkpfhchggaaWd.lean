/-
  spoil: writes into a value's own blocks, and nowhere else.
-/
import Derived.Test.YtfckmkpfhchggaaVh
namespace Go.Proofs.Ytfckmkpfhchggaa
open Go.RowKit

/-- From w to w' only the blocks f were written (and new ones made). -/
structure Wrote (w w' : World) (f : List Nat) : Prop where
  os : w'.os = w.os
  tape : w'.tape = w.tape
  output : w'.output = w.output
  size : w.heap.size ≤ w'.heap.size
  block : ∀ k, k < w.heap.size → k ∉ f → w'.heap[k]? = w.heap[k]?
theorem Wrote.refl_ (w : World) (f : List Nat) : Wrote w w f := ⟨rfl, rfl, rfl, Nat.le_refl _, fun _ _ _ => rfl⟩
theorem Wrote.of_gb {w w' : World} (h : w.grownBy w' none) (f : List Nat) : Wrote w w' f := ⟨h.os, h.tape, h.output, h.size, fun k hk _ => h.block k hk (by simp)⟩
theorem Wrote.trans {a b c : World} {f g : List Nat} (h : Wrote a b f) (k : Wrote b c g) (hg : ∀ x ∈ g, x ∈ f ∨ a.heap.size ≤ x) : Wrote a c f :=
  ⟨k.os.trans h.os, k.tape.trans h.tape, k.output.trans h.output, Nat.le_trans h.size k.size, fun x hx hn => by
    rw [k.block x (Nat.lt_of_lt_of_le hx h.size) (fun hm => by
      rcases hg x hm with h1 | h1
      · exact hn h1
      · omega)]
    exact h.block x hx hn⟩
theorem Wrote.more {a b : World} {f g : List Nat} (h : Wrote a b f) (hf : ∀ x ∈ f, x ∈ g) : Wrote a b g := ⟨h.os, h.tape, h.output, h.size, fun x hx hn => h.block x hx fun hm => hn (hf x hm)⟩
theorem Wrote.of_some {a b : World} {g : Nat} {f : List Nat} (h : a.grownBy b (some g)) (hf : g ∈ f) : Wrote a b f :=
  ⟨h.os, h.tape, h.output, h.size, fun x hx hn => h.block x hx (by intro e; injection e with e; exact hn (by rw [e]; exact hf))⟩
theorem Wrote.gb {w0 w w' : World} {f : List Nat} (h : Wrote w w' f) (hg : w0.grownBy w none) (hf : ∀ x ∈ f, w0.heap.size ≤ x) : w0.grownBy w' none :=
  ⟨h.os.trans hg.os, h.tape.trans hg.tape, h.output.trans hg.output, Nat.le_trans hg.size h.size, fun x hx _ => by
    rw [h.block x (Nat.lt_of_lt_of_le hx hg.size) (fun hm => by have := hf x hm; omega)]
    exact hg.block x hx (by simp)⟩
theorem Wrote.cell {w w' : World} {f : List Nat} (h : Wrote w w' f) {a : Addr} {u : Value} (hc : w.cell? a = some u) (hn : a.block ∉ f) : w'.cell? a = some u := by
  rw [World.cell?_of_block (h.block _ (World.block_lt_of_cell? w _ hc) hn)]
  exact hc

/-- A row's block, whatever is in it. -/
def Room (w : World) (f : List Nat) (A : Option Addr) (n : Nat) : Prop := n = 0 ∨ ∃ b t cur, f = [b] ∧ A = some ⟨b, 0, none⟩ ∧ w.heap[b]? = some (.cells cur t (0, 0)) ∧ n ≤ cur.size
theorem Own.room {w : World} {f : List Nat} {A : Option Addr} {xs : List Value} {n : Nat} (h : Own w f A xs) (hn : n = xs.length) : Room w f A n := by
  subst hn
  rcases h with ⟨rfl, _⟩ | ⟨b, t, cur, rfl, hA, hh, ht, _⟩
  · exact .inl rfl
  · refine .inr ⟨b, t, cur, rfl, hA, hh, ?_⟩
    have h1 := congrArg List.length ht
    rw [List.length_take] at h1
    have h2 : cur.toList.length = cur.size := Array.length_toList
    omega
theorem Room.keep {w w' : World} {f : List Nat} {A : Option Addr} {n : Nat} (h : Room w f A n) (hk : ∀ b ∈ f, b < w.heap.size → w'.heap[b]? = w.heap[b]?) : Room w' f A n := by
  rcases h with h | ⟨b, t, cur, rfl, hA, hh, hs⟩
  · exact .inl h
  · exact .inr ⟨b, t, cur, rfl, hA, (hk b (by simp) (blk_lt hh)).trans hh, hs⟩

theorem Room.set {w : World} {b t n : Nat} {cur : Array Value} (hh : w.heap[b]? = some (.cells cur t (0, 0))) (hs : n ≤ cur.size) (j : Nat) (u : Value) : Room (w.setCell ⟨b, j, none⟩ u) [b] (some ⟨b, 0, none⟩) n :=
  .inr ⟨b, t, _, rfl, rfl, blk_set hh j u, by simpa using hs⟩

/-- What is left of a value's parts behind j of them. -/
def Lft (wa : World) (l : List Vl) (xs : List (List Value)) (fl fp f : List Nat) (lA : Option Addr) (j : Nat) (wr : World) : Prop :=
  Wrote wa wr f ∧ (∃ fj, VOwAll wr (l.drop j) (xs.drop j) fj ∧ fj.Nodup ∧ ∀ b ∈ fj, b ∈ fp) ∧
    (j < l.length → ∃ b t cur, fl = [b] ∧ lA = some ⟨b, 0, none⟩ ∧ wr.heap[b]? = some (.cells cur t (0, 0)) ∧ l.length * 4 ≤ cur.size ∧ ∀ k, j * 4 ≤ k → k < l.length * 4 → cur[k]? = xs.flatten[k]?)
theorem Lft.start {wa : World} {l : List Vl} {xs : List (List Value)} {fl fp f : List Nat} {lA : Option Addr} {wr : World} (h : Wrote wa wr f) (ho : Own wr fl lA (List.flatten xs)) (hall : VOwAll wr l xs fp) (hn : fp.Nodup) : Lft wa l xs fl fp f lA 0 wr := by
  refine ⟨h, ⟨fp, hall, hn, fun _ hb => hb⟩, fun h0 => ?_⟩
  have hlen : (List.flatten xs).length = l.length * 4 := by rw [flat4_length hall.all4, hall.length]
  rcases ho with ⟨h1, _⟩ | ⟨b, t, cur, rfl, hA, hh, ht, _⟩
  · rw [h1] at hlen; simp at hlen; omega
  · have h1 := congrArg List.length ht
    rw [List.length_take] at h1
    have h2 : cur.toList.length = cur.size := Array.length_toList
    refine ⟨b, t, cur, rfl, hA, hh, by omega, fun k _ hk => ?_⟩
    rw [← ht, List.getElem?_take, if_pos (by omega), Array.getElem?_toList]
theorem put4_out (cur : Array Value) (i k : Nat) (hk : i + 4 ≤ k) (c0 c1 c2 c3 : Value) : ((((cur.setIfInBounds i c0).setIfInBounds (i + 1) c1).setIfInBounds (i + 2) c2).setIfInBounds (i + 3) c3)[k]? = cur[k]? := by
  simp only [Array.getElem?_setIfInBounds]
  rw [if_neg (by omega), if_neg (by omega), if_neg (by omega), if_neg (by omega)]
/-- The part that is next: its four cells, its blocks. -/
theorem Lft.here {wa : World} {l : List Vl} {xs : List (List Value)} {fl fp f : List Nat} {lA : Option Addr} {j : Nat} {wr : World} (h : Lft wa l xs fl fp f lA j wr) (hj : j < l.length) (hx4 : ∀ c ∈ xs, c.length = 4) (hxl : xs.length = l.length) (hdis : ∀ b ∈ fl, b ∉ fp) :
    ∃ b xA xc yA yc zA zc f1, lA = some ⟨b, 0, none⟩ ∧ fl = [b] ∧ C4 wr b (j * 4) (.int .i64 l[j].t) (.slice xA l[j].n.length xc) (.slice yA l[j].s.length yc) (.slice zA l[j].l.length zc) ∧
      VOw wr l[j] [.int .i64 l[j].t, .slice xA l[j].n.length xc, .slice yA l[j].s.length yc, .slice zA l[j].l.length zc] f1 ∧ f1.Nodup ∧ (∀ x ∈ f1, x ∈ fp) ∧ b < wr.heap.size ∧
      ∀ w6, Wrote wr w6 f1 → ∃ t cur, w6.heap[b]? = some (.cells cur t (0, 0)) ∧ l.length * 4 ≤ cur.size ∧ ∀ c0 c1 c2 c3, (b ∈ f) → (∀ x ∈ fp, x ∈ f) → Lft wa l xs fl fp f lA (j + 1) (put4 w6 b (j * 4) c0 c1 c2 c3) := by
  obtain ⟨hw, ⟨fj, hall, hnd, hsub⟩, hbl⟩ := h
  obtain ⟨b, t, cur, rfl, hA, hh, hs, hcs⟩ := hbl hj
  rw [List.drop_eq_getElem_cons hj] at hall
  obtain ⟨c, q, f1, f2, hxq, rfl, h1, h2⟩ := hall
  have hjx : j < xs.length := by omega
  rw [List.drop_eq_getElem_cons hjx] at hxq
  simp only [List.cons.injEq] at hxq
  obtain ⟨hc, hq⟩ := hxq
  obtain ⟨n1, n2, n3⟩ := List.nodup_append.1 hnd
  have hbn : b ∉ fp := hdis b (by simp)
  obtain ⟨xA, xc, yA, yc, zA, zc, rs, gn, gs, gl, gp, hce, hlen, hown, hsubs, hfe⟩ := h1.parts
  have hcell : ∀ k u, k < 4 → c[k]? = some u → wr.cell? ⟨b, j * 4 + k, none⟩ = some u := by
    intro k u hk hu
    rw [blk_cell hh, hcs (j * 4 + k) (by omega) (by omega), flat4_at hx4 j k hjx hk, hc]
    exact hu
  subst hce
  have hbw := blk_lt hh
  refine ⟨b, xA, xc, yA, yc, zA, zc, f1, hA, rfl, ⟨hcell 0 _ (by omega) rfl, hcell 1 _ (by omega) rfl, hcell 2 _ (by omega) rfl, hcell 3 _ (by omega) rfl⟩, h1, n1, fun x hx => hsub x (by simp [hx]), hbw, fun w6 hw6 => ?_⟩
  have hh6 : w6.heap[b]? = some (.cells cur t (0, 0)) := (hw6.block b hbw (fun hm => hbn (hsub b (by simp [hm])))).trans hh
  refine ⟨t, cur, hh6, hs, fun c0 c1 c2 c3 hbf hff => ⟨?_, ⟨f2, ?_, n2, fun x hx => hsub x (by simp [hx])⟩, fun hj1 => ⟨b, t, _, rfl, hA, put4_blk hh6 c0 c1 c2 c3, by simpa using hs, fun k hk hk2 => ?_⟩⟩⟩
  · exact (hw.trans hw6 fun x hx => .inl (hff x (hsub x (by simp [hx])))).trans (Wrote.of_some (put4_gb w6 b (j * 4) c0 c1 c2 c3) (f := [b]) (by simp)) fun x hx => .inl (by obtain rfl := List.mem_singleton.1 hx; exact hbf)
  · rw [hq]
    refine VOwAll.keep _ _ _ h2 fun x hx => ?_
    have hxw := VOwAll.lt _ _ _ h2 x hx
    have hxb : x ≠ b := fun e => hbn (by rw [← e]; exact hsub x (by simp [hx]))
    rw [(put4_gb w6 b (j * 4) c0 c1 c2 c3).block x (Nat.lt_of_lt_of_le hxw hw6.size) (by intro e; injection e with e; exact hxb e)]
    exact hw6.block x hxw fun hm => n3 x hm x hx rfl
  · rw [put4_out cur (j * 4) k (by omega)]
    exact hcs k (by omega) hk2

def SpoilC (d : Nat) : Prop := ∀ (v : Vl) (w : World) (nA : Option Addr) (nc : Nat) (sA : Option Addr) (sc : Nat) (lA : Option Addr) (lc : Nat) (f : List Nat), v.depth ≤ d → v.tot ≤ 1100000 → f.Nodup →
    VOw w v [.int .i64 v.t, .slice nA v.n.length nc, .slice sA v.s.length sc, .slice lA v.l.length lc] f →
    Calls Try.prog 36 #[.agg #[.int .i64 v.t, .slice nA v.n.length nc, .slice sA v.s.length sc, .slice lA v.l.length lc]] w fun e w' => e = .returned (.tuple #[]) ∧ Wrote w w' f

set_option maxHeartbeats 8000000 in
set_option maxRecDepth 100000 in
theorem spoil_d (d : Nat) : SpoilC d := by
  induction d with
  | zero => intro v; intros; rw [Vl.depth_def] at *; omega
  | succ d ih =>
    intro v w nA nc sA sc lA lc f hd ht hnd hv
    obtain ⟨l1, l2, l3, l4⟩ := Vl.lens v ht
    have hlt := VOw.lt _ _ _ hv
    obtain ⟨wa, hwa⟩ : ∃ wa, wa = w.alloc (.cells #[.int .i64 v.t, .slice nA v.n.length nc, .slice sA v.s.length sc, .slice lA v.l.length lc] 26) := ⟨_, rfl⟩
    have hg : w.grownBy wa none := by rw [hwa]; exact gb_alloc (gb_refl w none) _
    have hva := VOw.keep _ _ _ hv fun b hb => hg.block b (hlt b hb) (by simp)
    have hc := C4.box w (.int .i64 v.t) (.slice nA v.n.length nc) (.slice sA v.s.length sc) (.slice lA v.l.length lc) 26
    rw [← hwa] at hc
    have hout : ∀ wr, Wrote wa wr f → wr.cell? ⟨w.heap.size, 1, none⟩ = some (.slice nA v.n.length nc) ∧ wr.cell? ⟨w.heap.size, 2, none⟩ = some (.slice sA v.s.length sc) ∧ wr.cell? ⟨w.heap.size, 3, none⟩ = some (.slice lA v.l.length lc) := by
      intro wr hwr
      have hn : w.heap.size ∉ f := fun hm => by have := hlt _ hm; omega
      exact ⟨hwr.cell hc.c1 hn, hwr.cell hc.c2 hn, hwr.cell hc.c3 hn⟩
    obtain ⟨nA', nc', sA', sc', lA', lc', xs, fn, fs, fl, fp, hce, hcap, ⟨o1, o2, o3⟩, hall, hfe⟩ := hva.parts
    simp only [List.cons.injEq, Value.slice.injEq, and_true, true_and] at hce
    obtain ⟨⟨rfl, rfl⟩, ⟨rfl, rfl⟩, ⟨rfl, rfl⟩⟩ := hce
    subst hfe
    have hmn : ∀ x ∈ fn, x ∈ fn ++ (fs ++ (fl ++ fp)) := fun x hx => by simp [hx]
    have hms : ∀ x ∈ fs, x ∈ fn ++ (fs ++ (fl ++ fp)) := fun x hx => by simp [hx]
    have hml : ∀ x ∈ fl, x ∈ fn ++ (fs ++ (fl ++ fp)) := fun x hx => by simp [hx]
    have hmp : ∀ x ∈ fp, x ∈ fn ++ (fs ++ (fl ++ fp)) := fun x hx => by simp [hx]
    obtain ⟨n1, n2, n3⟩ := List.nodup_append.1 hnd
    obtain ⟨n4, n5, n6⟩ := List.nodup_append.1 n2
    obtain ⟨n7, n8, n9⟩ := List.nodup_append.1 n5
    have hdns : ∀ x ∈ fs, x ∉ fn := fun x hx hm => n3 x hm x (by simp [hx]) rfl
    have hdnl : ∀ x ∈ fl, x ∉ fn := fun x hx hm => n3 x hm x (by simp [hx]) rfl
    have hdnp : ∀ x ∈ fp, x ∉ fn := fun x hx hm => n3 x hm x (by simp [hx]) rfl
    have hdsl : ∀ x ∈ fl, x ∉ fs := fun x hx hm => n6 x hm x (by simp [hx]) rfl
    have hdsp : ∀ x ∈ fp, x ∉ fs := fun x hx hm => n6 x hm x (by simp [hx]) rfl
    have hdlp : ∀ x ∈ fl, x ∉ fp := fun x hx hm => n9 x hx x hm rfl
    have HRN := hide (Own.room o1 (n := v.n.length) (by simp [i64s]))
    have HRS := hide (Own.room o2 (n := v.s.length) (by simp [strs]))
    have HX4 := hide hall.all4
    have HXL := hide hall.length
    have HOL := hide o3
    have HALL := hide hall
    have HM := hide (And.intro hmn (And.intro hms (And.intro hml hmp)))
    have HD1 := hide (And.intro hdns (And.intro hdnl (And.intro hdnp (And.intro hdsl (And.intro hdsp hdlp)))))
    have HN8 := hide n8
    have HG := hide hg
    have HWE := hide hwa
    have HOUT := hide hout
    have IH := hide ih
    have HDD := hide (fun (x : Vl) (hx : x ∈ v.l) => (Vl.depth_part hd hx : x.depth ≤ d))
    have HTT := hide (fun (x : Vl) (hx : x ∈ v.l) => Vl.tot_part ht hx)
    obtain ⟨b1, b2, b3⟩ := hout wa (Wrote.refl_ wa _)
    clear ih hd ht hnd hv hlt hva hc hout hcap o1 o2 o3 hall hmn hms hml hmp n1 n2 n3 n4 n5 n6 n7 n8 n9 hdns hdnl hdnp hdsl hdsp hdlp hg hwa
    go_enter Try.func36, Try.ntmps36
    go_wp2_with fail
    rw [← HWE.out]
    go_loopw [2] (fun i wr => ∃ j : Nat, i = .int .i64 (j : Int) ∧ j ≤ v.n.length ∧ Wrote wa wr fn ∧ Room wr fn nA v.n.length) (fun i _ => v.n.length - (intOf i).toNat)
    case atStart => exact ⟨0, rfl, Nat.zero_le _, Wrote.refl_ _ _, HRN.out⟩
    case round =>
      obtain ⟨j, rfl, hj, hW, hR⟩ := hrel
      have HW := hide hW
      by_cases hlt : j < v.n.length
      · have hlt1 : (j : Int) < (v.n.length : Int) := by omega
        rcases hR with h0 | ⟨b, t, cur, rfl, rfl, hh, hs⟩
        · omega
        · obtain ⟨b1, b2, b3⟩ := HOUT.out wr (hW.more fun x hx => by simp at hx; simp [hx])
          obtain ⟨u0, p0⟩ : ∃ u, wr.cell? ⟨b, j, none⟩ = some u := ⟨cur[j], by rw [blk_cell hh]; simp⟩
          have z0 := blk_frozen hh j
          have HH := hide hh
          have HS := hide hs
          clear hW hh hs
          go_wp2_with fail
          go_roundw
          case rel => exact ⟨j + 1, by go_num, by omega, HW.out.trans (Wrote.of_some (gb_setCell (gb_refl wr (some b)) (.inl rfl) _) (f := [b]) (by simp)) (fun x hx => .inl hx), Room.set HH.out HS.out _ _⟩
          case measure => simp [intOf]; omega
      · have hlt1 : ¬ (j : Int) < (v.n.length : Int) := by omega
        obtain ⟨w1, e⟩ : ∃ w1, w1 = wr := ⟨wr, rfl⟩
        subst e
        obtain ⟨b1, b2, b3⟩ := HOUT.out w1 (hW.more fun x hx => by simp [hx])
        clear hW hR
        go_wp2_with fail
        go_loopw [3] (fun i wr => ∃ j : Nat, i = .int .i64 (j : Int) ∧ j ≤ v.s.length ∧ Wrote wa wr (fn ++ fs) ∧ Room wr fs sA v.s.length) (fun i _ => v.s.length - (intOf i).toNat)
        case atStart => exact ⟨0, rfl, Nat.zero_le _, HW.out.more fun x hx => by simp [hx], HRS.out.keep fun b hb hbl => HW.out.block b hbl (HD1.out.1 b hb)⟩
        case round =>
          obtain ⟨i, rfl, hi, hW2, hR⟩ := hrel
          have HW2 := hide hW2
          by_cases hlt : i < v.s.length
          · have hlt1 : (i : Int) < (v.s.length : Int) := by omega
            rcases hR with h0 | ⟨b, t, cur, rfl, rfl, hh, hs⟩
            · omega
            · obtain ⟨b1, b2, b3⟩ := HOUT.out wr (hW2.more fun x hx => by simp at hx; rcases hx with hx | hx <;> simp [hx])
              obtain ⟨u0, p0⟩ : ∃ u, wr.cell? ⟨b, i, none⟩ = some u := ⟨cur[i], by rw [blk_cell hh]; simp⟩
              have z0 := blk_frozen hh i
              have HH := hide hh
              have HS := hide hs
              clear hW2 hh hs
              go_wp2_with fail
              go_roundw
              case rel => exact ⟨i + 1, by go_num, by omega, HW2.out.trans (Wrote.of_some (gb_setCell (gb_refl wr (some b)) (.inl rfl) _) (f := [b]) (by simp)) (fun x hx => .inl (by simp at hx; simp [hx])), Room.set HH.out HS.out _ _⟩
              case measure => simp [intOf]; omega
          · have hlt1 : ¬ (i : Int) < (v.s.length : Int) := by omega
            obtain ⟨w2, e⟩ : ∃ w2, w2 = wr := ⟨wr, rfl⟩
            subst e
            obtain ⟨b1, b2, b3⟩ := HOUT.out w2 (hW2.more fun x hx => by simp at hx; rcases hx with hx | hx <;> simp [hx])
            have HNO := hide (fun x (hx : x ∉ fn ∧ x ∉ fs) (hxl : x < wa.heap.size) => hW2.block x hxl (by simp [hx.1, hx.2]))
            have HST := hide (Lft.start (wa := wa) (f := fn ++ (fs ++ (fl ++ fp))) (hW2.more fun x hx => by simp at hx; rcases hx with hx | hx <;> simp [hx])
              (HOL.out.keep fun b hb => HNO.out b ⟨HD1.out.2.1 b hb, HD1.out.2.2.2.1 b hb⟩ (HOL.out.lt b hb)) (VOwAll.keep _ _ _ HALL.out fun b hb => HNO.out b ⟨HD1.out.2.2.1 b hb, HD1.out.2.2.2.2.1 b hb⟩ (VOwAll.lt _ _ _ HALL.out b hb)) HN8.out)
            clear hW2 hR
            go_wp2_with fail
            go_loopw [4] (fun i wr => ∃ j : Nat, i = .int .i64 (j : Int) ∧ j ≤ v.l.length ∧ Lft wa v.l xs fl fp (fn ++ (fs ++ (fl ++ fp))) lA j wr) (fun i _ => v.l.length - (intOf i).toNat)
            case atStart => exact ⟨0, rfl, Nat.zero_le _, HST.out⟩
            case round =>
              obtain ⟨k, rfl, hk, hL⟩ := hrel
              have HL := hide hL
              by_cases hlt : k < v.l.length
              · have hlt1 : (k : Int) < (v.l.length : Int) := by omega
                obtain ⟨b, xA, xc, yA, yc, zA, zc, f1, rfl, rfl, hc4, hvo, hn1, hsub1, hbw, hnext⟩ := hL.here hlt HX4.out HXL.out HD1.out.2.2.2.2.2
                obtain ⟨b1, b2, b3⟩ := HOUT.out wr hL.1
                obtain ⟨d0, d1, d2, d3⟩ := hc4
                have HREC := hide (IH.out v.l[k] wr xA xc yA yc zA zc f1 (HDD.out _ (List.getElem_mem hlt)) (HTT.out _ (List.getElem_mem hlt)) hn1 hvo)
                have HSUB := hide hsub1
                have HNX := hide hnext
                clear hL hvo hn1 hsub1 hbw hnext
                go_wp2_with fail
                refine HREC.out.mono ?_
                rintro e w6 ⟨rfl, hw6⟩
                obtain ⟨b1, b2, b3⟩ := HOUT.out w6 (HL.out.1.trans hw6 fun x hx => .inl (by have := HSUB.out x hx; simp [this]))
                obtain ⟨t, cur, hh6, hs6, hfin⟩ := HNX.out w6 hw6
                have hi4 : k * 4 + 4 ≤ cur.size := by omega
                obtain ⟨u0, u1, u2, u3, p0, p1, p2, p3⟩ := four_cells hh6 hi4
                have z0 := blk_frozen hh6 (k * 4)
                have z1 := blk_frozen hh6 (k * 4 + 1)
                have z2 := blk_frozen hh6 (k * 4 + 2)
                have z3 := blk_frozen hh6 (k * 4 + 3)
                have HFIN := hide (hfin (.int .i64 0) (.slice none 0 0) (.slice none 0 0) (.slice none 0 0) (by simp) (fun x hx => by simp [hx]))
                clear hw6 hh6 hs6 hfin hi4 d0 d1 d2 d3
                go_wp2_with fail
                go_roundw
                case rel => exact ⟨k + 1, by go_num, by omega, HFIN.out⟩
                case measure => simp [intOf]; omega
              · have hlt1 : ¬ (k : Int) < (v.l.length : Int) := by omega
                have HWW := hide hL.1
                obtain ⟨b1, b2, b3⟩ := HOUT.out wr hL.1
                clear hL
                go_wp2_with fail
                go_end0
                exact ⟨rfl, (Wrote.of_gb HG.out _).trans HWW.out fun x hx => .inl hx⟩
theorem spoil_any (v : Vl) (w : World) (nA : Option Addr) (nc : Nat) (sA : Option Addr) (sc : Nat) (lA : Option Addr) (lc : Nat) (f : List Nat) (ht : v.tot ≤ 1100000) (hn : f.Nodup)
    (h : VOw w v [.int .i64 v.t, .slice nA v.n.length nc, .slice sA v.s.length sc, .slice lA v.l.length lc] f) :
    Calls Try.prog 36 #[.agg #[.int .i64 v.t, .slice nA v.n.length nc, .slice sA v.s.length sc, .slice lA v.l.length lc]] w fun e w' => e = .returned (.tuple #[]) ∧ Wrote w w' f :=
  spoil_d v.depth v w nA nc sA sc lA lc f (Nat.le_refl _) ht hn h
end Go.Proofs.Ytfckmkpfhchggaa
