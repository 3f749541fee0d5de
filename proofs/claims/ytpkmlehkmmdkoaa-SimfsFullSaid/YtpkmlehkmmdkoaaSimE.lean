/-
  The contracts of maps.Clone, FS.settle, SyncDir.
-/
import Derived.Test.YtpkmlehkmmdkoaaSimD
import Derived.Laws.Externs
import Derived.StillTailTactics
import Derived.Maps.RangeWalk
namespace Go.Proofs.Ytpkmlehkmmdkoaa
open Go.RowKit

theorem run_mclone {P : Program} {w : World} {r : Nat} {es : Array MapEntry} {clock : Nat} (t : TypeId) (hb : w.heap[r]? = some (.map es clock)) :
    (Extern.MapsClone.clone #[.iface t (.map (some r))]).run P w = .ok (.iface t (.map (some w.heap.size))) (w.alloc (.map es clock)) := by
  have e : Extern.MapsClone.clone #[.iface t (.map (some r))] = (getObj r >>= fun o => match o with
      | .map entries clock => (newObj (.map entries clock) >>= fun n => pure (.iface t (.map (some n))))
      | _ => stuck "maps.clone: a map expected") := rfl
  rw [e]
  simp [MapKept.run_getObj_map hb, Result.andThen, go_sem]
theorem run_eqlIn_map {P : Program} (w : World) (d : Nat) (t k e : TypeId) (p : Option Nat) (h : P.underlying t = some (.map k e)) :
    (Op.equalIn (d + 1) t (.map p) (.map none)).run P w = .ok p.isNone w := by
  cases p <;> simp [Op.equalIn, run_underlying h]
theorem run_eql_map {P : Program} (w : World) (t k e : TypeId) (p : Option Nat) (h : P.underlying t = some (.map k e)) :
    (binOp .eql t (.map p) (.map none)).run P w = .ok (.bool p.isNone) w := by
  simp only [binOp]
  simp [show Op.equal t (.map p) (.map none) = Op.equalIn (9999 + 1) t (.map p) (.map none) from rfl, run_eqlIn_map w 9999 t k e p h]
theorem run_tassert_map {P : Program} (w : World) (t xT k e : TypeId) (v : Value) (h : P.underlying t = some (.map k e)) : (Instr.typeAssert (.iface t v) xT t false).run P w = .ok v w := by
  simp [Instr.typeAssert, run_underlying h, go_sem, Result.andThen]

set_option maxHeartbeats 2000000 in
set_option maxRecDepth 100000 in
theorem mclone_any (b : Nat) (l : List (ByteArray × Nat)) (w : World) (h : MapAt encN w b l) :
    Calls Try.prog 50 #[.map (some b)] w fun e w' => e = .returned (.map (some w.heap.size)) ∧ MapAt encN w' w.heap.size l ∧ w.grownBy w' none ∧ w'.heap.size = w.heap.size + 1 := by
  obtain ⟨es, clock, hb, hs, hl⟩ := h
  have hq := fun w => run_eql_map (P := Try.prog) w 72 _ _ (some b) Try.underlying72
  have hx := run_mclone (P := Try.prog) 72 hb
  have ht := fun w v => run_tassert_map (P := Try.prog) w 72 20 _ _ v Try.underlying72
  have HB := hide hb
  have HS := hide hs
  have HL := hide hl
  clear hb hs hl
  go_enter Try.func50, Try.ntmps50
  go_wp2
  rw [run_callFunc_extern Try.func70 (by kernel_rfl) (by kernel_rfl) (by kernel_rfl) (e := Extern.MapsClone.clone) (by kernel_rfl), hx]
  simp only [Result.andThen]
  rw [Oper.upon_value]
  go_wp2
  go_ret
  exact ⟨rfl, ⟨es, clock, heap_alloc_new w _, HS.out, HL.out⟩, gb_alloc (gb_refl w none) _, by simp⟩

theorem run_mkmap {P : Program} (w : World) (t k e : TypeId) (n : Int) (h : P.underlying t = some (.map k e)) :
    (Instr.makeMap t (some (.int .i64 n))).run P w = .ok (.map (some w.heap.size)) (w.alloc (.map #[] 0)) := by
  simp [Instr.makeMap, run_underlying h, asInt, asIntOf, Result.andThen]

/-- What settle leaves. -/
def SettlePost (g : Nat) (v : FsV) (b : Nat) (l : List (ByteArray × Nat)) (lf : List (Int × Nat)) (w : World) (e : Ending) (w' : World) : Prop :=
  e = .returned (.tuple #[]) ∧ ∃ ms mf lk, FsB w' g { v with mn := b, ms := ms, mf := mf, vch := .slice none 0 0 } ∧ MapAt encN w' b l ∧ MapAt encN w' ms l ∧ MapAt encF w' mf lk ∧
    (∀ n, aget lk n = if ∃ x ∈ l, (x.2 : Int) = n then aget lf n else none) ∧ w.heap.size ≤ ms ∧ w.heap.size ≤ mf ∧ ms ≠ mf ∧ w.grownBy w' (some g)

theorem perm_take {α : Type} : ∀ (t : List α) (j : Nat) (x : α), t[j]? = some x → (x :: t.eraseIdx j).Perm t
  | [], _, _, h => by simp at h
  | a :: t, 0, x, h => by simp at h; subst h; simp
  | a :: t, j + 1, x, h => by
    simp at h
    rw [List.eraseIdx_cons_succ]
    exact (List.Perm.swap a x _).trans ((perm_take t j x h).cons a)
theorem perm_done {α : Type} {d t l : List α} {j : Nat} {x : α} (h : (d ++ t).Perm l) (hj : t[j]? = some x) : ((d ++ [x]) ++ t.eraseIdx j).Perm l := by
  rw [List.append_assoc]
  exact ((perm_take t j x hj).append_left d).trans h

set_option maxHeartbeats 4000000 in
set_option maxRecDepth 100000 in
theorem fs_settle (g : Nat) (v : FsV) (b : Nat) (l : List (ByteArray × Nat)) (lf : List (Int × Nat)) (w : World) (h : FsB w g v) (hb : MapAt encN w b l) (hf : MapAt encF w v.mf lf) (hin : ∀ x ∈ l, ∃ fb, aget lf (x.2 : Int) = some fb) :
    Calls Try.prog 44 #[.pointer (some ⟨g, 0, none⟩), .map (some b)] w (SettlePost g v b l lf w) := by
  have hbg : b ≠ g := map_ne hb h
  have hfg : v.mf ≠ g := map_ne hf h
  have hgl := h.lt
  have hbl := hb.lt
  have hfl := hf.lt
  have H1 := hide (h.set4 b)
  have HG1 := hide (gb_set (gb_refl w (some g)) 4 (.map (some b)))
  have HB1 := hide (hb.setCell (p := ⟨g, 4, none⟩) (fun e => hbg e.symm) (.map (some b)))
  have HF1 := hide (hf.setCell (p := ⟨g, 4, none⟩) (fun e => hfg e.symm) (.map (some b)))
  have HS1 : Hid ((w.setCell ⟨g, 4, none⟩ (.map (some b))).heap.size = w.heap.size) := hide (by simp [World.setCell])
  have HC := hide (mclone_any b l _ HB1.out)
  have f4 := h.fr 4
  have q4 := h.c4
  clear h hb hf
  go_enter Try.func44, Try.ntmps44
  go_wp2_with fail
  refine HC.out.mono ?_
  rintro e w2 ⟨rfl, hm2, hg2, hs2⟩
  generalize w.setCell ⟨g, 4, none⟩ (.map (some b)) = w1 at *
  have HV2 := hide (H1.out.keep (hg2.block g H1.out.lt (by simp)))
  have HB2 := hide (HB1.out.grown hg2 (by simp))
  have HF2 := hide (HF1.out.grown hg2 (by simp))
  have HM2 := hide hm2
  have HG2 : Hid (w.grownBy w2 (some g)) := hide (gb_trans HG1.out hg2 (.inr (.inl rfl)))
  clear hm2 hg2 f4 q4 HC H1 HB1 HF1 HG1
  rw [HS1.out] at hs2 HM2 ⊢
  have hmg : w.heap.size ≠ g := by omega
  have HV3 := hide ((HV2.out.set5 w.heap.size).set6 (.slice none 0 0))
  have HB3 := hide ((HB2.out.setCell (p := ⟨g, 5, none⟩) (fun e => hbg e.symm) (.map (some w.heap.size))).setCell (p := ⟨g, 6, none⟩) (fun e => hbg e.symm) (.slice none 0 0))
  have HF3 := hide ((HF2.out.setCell (p := ⟨g, 5, none⟩) (fun e => hfg e.symm) (.map (some w.heap.size))).setCell (p := ⟨g, 6, none⟩) (fun e => hfg e.symm) (.slice none 0 0))
  have HM3 := hide ((HM2.out.setCell (p := ⟨g, 5, none⟩) (fun e => hmg e.symm) (.map (some w.heap.size))).setCell (p := ⟨g, 6, none⟩) (fun e => hmg e.symm) (.slice none 0 0))
  have HG3 := hide (gb_set (gb_set HG2.out 5 (.map (some w.heap.size))) 6 (.slice none 0 0))
  have hs3 : ((w2.setCell ⟨g, 5, none⟩ (.map (some w.heap.size))).setCell ⟨g, 6, none⟩ (.slice none 0 0)).heap.size = w.heap.size + 1 := by simp [World.setCell, hs2]
  have q5 := HV2.out.c5
  have f5 := HV2.out.fr 5
  have q6 := HV2.out.c6
  have f6 := HV2.out.fr 6
  clear HV2 HB2 HF2 HM2 HG2
  have hmk := fun (w : World) (n : Int) => run_mkmap (P := Try.prog) w 71 3 90 n Try.underlying71
  have HB4 := hide (HB3.out.alloc (.map #[] 0))
  have HF4 := hide (HF3.out.alloc (.map #[] 0))
  have HM4 := hide (HM3.out.alloc (.map #[] 0))
  have HV4 := hide (HV3.out.keep (heap_alloc_old _ (.map #[] 0) HV3.out.lt))
  have HG4 := hide (gb_alloc HG3.out (.map #[] 0))
  have HK4 := hide (MapAt.made (E := encF) ((w2.setCell ⟨g, 5, none⟩ (.map (some w.heap.size))).setCell ⟨g, 6, none⟩ (.slice none 0 0)))
  go_wp2_with (first
    | (at_len; refine wpList_mlen (E := encN) _ rfl _ 72 rfl 9 3 Try.underlying72 b l rfl HB3.out ?_)
    | (at_range; refine wpList_rng (E := encN) _ rfl _ 72 rfl 9 3 Try.underlying72 b l rfl HB4.out ?_; intro w5 hit hg5 hs5; clear q5 f5 q6 f6))
  generalize (w2.setCell ⟨g, 5, none⟩ (.map (some w.heap.size))).setCell ⟨g, 6, none⟩ (.slice none 0 0) = w3 at *
  have e1 : (w3.alloc (.map #[] 0)).heap.size = w3.heap.size + 1 := by simp
  rw [e1] at hit hs5 ⊢
  clear HB3 HF3 HM3 HV3 HG3 hmk
  have HF5 := hide (HF4.out.grown hg5 (by simp))
  have HM5 := hide (HM4.out.grown hg5 (by simp))
  have HK5 := hide (HK4.out.grown hg5 (by simp))
  have HV5 := hide (HV4.out.keep (hg5.block g HV4.out.lt (by simp)))
  have HG5 : Hid (w.grownBy w5 (some g)) := hide (gb_trans HG4.out hg5 (.inr (.inl rfl)))
  have HIT := hide hit
  clear HB4 HF4 HM4 HV4 HG4 HK4 hg5 hit
  rw [hs3] at HIT hs5 HK5 e1 ⊢
  have hmf : v.mf < w.heap.size + 1 + 1 + 1 := by have := HF5.out.lt; omega
  go_frame
  go_loopw [6] (fun _ wr => ∃ (todo done : List (ByteArray × Nat)) (lk : List (Int × Nat)), IterAt encN wr b (w.heap.size + 1 + 1) l todo ∧ (done ++ todo).Perm l ∧ MapAt encF wr (w.heap.size + 1) lk ∧ (∀ n, aget lk n = if ∃ x ∈ done, (x.2 : Int) = n then aget lf n else none) ∧
      FsB wr g { v with mn := b, ms := w.heap.size, vch := .slice none 0 0 } ∧ MapAt encF wr v.mf lf ∧ MapAt encN wr w.heap.size l ∧ w.grownBy wr (some g))
    (fun _ wr => wr.rangeLeft b (w.heap.size + 1 + 1))
  case atStart => exact ⟨l, [], [], HIT.out, by simp, HK5.out, (fun n => by simp [aget]), HV5.out, HF5.out, HM5.out, HG5.out⟩
  case round =>
    obtain ⟨todo, done, lk, hit, hperm, hk, hlk, hv, hf, hm, hg⟩ := hrel
    have q3 : wr.cell? ⟨g, 3, none⟩ = some (.map (some v.mf)) := hv.c3
    have f3 := hv.fr 3
    have HP := hide hperm
    have HLK := hide hlk
    have HI := hide hit
    have HK := hide hk
    have HV := hide hv
    have HF := hide hf
    have HM := hide hm
    have HG := hide hg
    clear hperm hlk hit hk hv hf hm hg
    go_wp2_with (first
      | (at_next; refine wpList_nxt (E := encN) _ rfl (.tmp 23) rfl b (w.heap.size + 1 + 1) l todo rfl HI.out ?_ ?_))
    · intro h0
      go_wp2
      go_end0
      subst h0
      have hp := HP.out
      rw [List.append_nil] at hp
      refine ⟨rfl, w.heap.size, w.heap.size + 1, lk, HV.out.set3 _, HI.out.map.setCell (p := ⟨g, 3, none⟩) (fun e => hbg e.symm) _, HM.out.setCell (p := ⟨g, 3, none⟩) (fun e => hmg e.symm) _, HK.out.setCell (p := ⟨g, 3, none⟩) (by show g ≠ w.heap.size + 1; omega) _, fun n => ?_, Nat.le_refl _, by omega, by omega, gb_set HG.out 3 _⟩
      rw [HLK.out n]
      by_cases hx : ∃ x ∈ l, (x.2 : Int) = n
      · obtain ⟨x, hx1, hx2⟩ := hx
        rw [if_pos ⟨x, hp.mem_iff.2 hx1, hx2⟩, if_pos ⟨x, hx1, hx2⟩]
      · rw [if_neg hx, if_neg (fun ⟨x, h1, h2⟩ => hx ⟨x, hp.mem_iff.1 h1, h2⟩)]
    · intro j xa xm w6 hx hit6 hg6 hs6 hen
      obtain ⟨x, hxe⟩ : ∃ x : ByteArray × Nat, x = (xa, xm) := ⟨_, rfl⟩
      rw [← hxe] at hx
      obtain rfl : xa = x.1 := by rw [hxe]
      obtain rfl : xm = x.2 := by rw [hxe]
      clear hxe
      have hxl : x ∈ l := HP.out.mem_iff.1 (List.mem_append_right _ (List.mem_of_getElem? hx))
      obtain ⟨fb, hfb⟩ := hin x hxl
      have hne : ∀ i, i < w.heap.size → (some i : Option Nat) ≠ some (w.heap.size + 1 + 1) := fun i hi e => by injection e with e; omega
      have hf6 := HF.out.grown hg6 (hne _ hfl)
      have hk6 := HK.out.grown hg6 (fun e => by injection e with e; omega)
      have hlook : (Instr.lookup 71 (.map (some v.mf)) (.int .i64 (x.2 : Int)) false).run Try.prog w6 = .ok (.pointer (some ⟨fb, 0, none⟩)) w6 := hf6.look_yes (P := Try.prog) (E := encF) Try.underlying3 Try.underlying71 (zero_file w6) hfb
      have hen' : (Instr.entry (.pointer (some ⟨w.heap.size + 1 + 1, 0, none⟩))).run Try.prog w6 = .ok (.tuple #[.string x.1, .int .i64 (x.2 : Int)]) w6 := hen
      have hv6 := HV.out.keep (hg6.block g HV.out.lt (hne _ hgl).symm.symm)
      have r3 : w6.cell? ⟨g, 3, none⟩ = some (.map (some v.mf)) := hv6.c3
      have HK6 := hide hk6
      have HF6 := hide hf6
      have HV6 := hide hv6
      have HI6 := hide hit6
      have HG6 := hide hg6
      have HM6 := hide (HM.out.grown hg6 (fun e => by injection e with e; omega))
      have HX := hide hx
      have HFB := hide hfb
      clear hk6 hf6 hv6 hit6 hg6 hen q3 f3 hx hfb
      go_wp2_with (at_mapUpdate; refine wpList_put (E := encF) _ rfl (.tmp 28) (.tmp 29) (.tmp 35) 71 rfl 3 90 Try.underlying3 Try.underlying71 (w.heap.size + 1) lk rfl HK6.out (x.2 : Int) fb rfl rfl ?_; intro w7 hk7 hg7 hs7; go_frame)
      have hne7 : ∀ i, i < w.heap.size → (some i : Option Nat) ≠ some (w.heap.size + 1) := fun i hi e => by injection e with e; omega
      have hit7 := HI6.out.grown hg7 (hne7 _ hbl) (fun e => by injection e with e; omega)
      go_roundw
      case rel =>
        refine ⟨_, done ++ [x], _, hit7, perm_done HP.out HX.out, hk7, fun n => ?_, HV6.out.keep (hg7.block g HV6.out.lt (hne7 _ hgl)), HF6.out.grown hg7 (hne7 _ hfl), HM6.out.grown hg7 (fun e => by injection e with e; omega), gb_trans (gb_trans HG.out HG6.out (.inr (.inr ⟨_, rfl, by omega⟩))) hg7 (.inr (.inr ⟨_, rfl, by omega⟩))⟩
        rw [aget_aput, HLK.out n]
        by_cases hn : n = (x.2 : Int)
        · rw [if_pos hn, if_pos ⟨x, by simp, hn.symm⟩, hn, HFB.out]
        · rw [if_neg hn]
          by_cases hd : ∃ y ∈ done, (y.2 : Int) = n
          · obtain ⟨y, h1, h2⟩ := hd
            rw [if_pos ⟨y, h1, h2⟩, if_pos ⟨y, List.mem_append_left _ h1, h2⟩]
          · rw [if_neg hd, if_neg]
            rintro ⟨y, h1, h2⟩
            rcases List.mem_append.1 h1 with h1 | h1
            · exact hd ⟨y, h1, h2⟩
            · simp only [List.mem_singleton] at h1
              subst h1
              exact hn h2.symm
      case measure =>
        rw [hit7.left, HI.out.left, List.length_eraseIdx]
        have := (List.getElem?_eq_some_iff.1 HX.out).1
        split <;> omega

end Go.Proofs.Ytpkmlehkmmdkoaa
