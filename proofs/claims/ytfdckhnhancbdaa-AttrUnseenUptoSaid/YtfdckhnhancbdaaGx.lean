/-
  Regions by facts where known blocks turn from a known old content into a known new one, each once: append onto a row of the call's own, 'm[k] = f(m[k])'. No program stands in it.
-/
import Derived.Test.YtfdckhnhancbdaaGw
import Derived.Test.YtfdckhnhancbdaaMk
import Derived.Maps.AppendAt
namespace Go.Proofs.Ytfdckhnhancbdaa
open Go.RowKit

/-- A block, its old content, its new one. -/
abbrev Spec := Nat × Obj × Obj
/-- Only these blocks are written, each from its old content to its new one. -/
structure WroS (sp : List Spec) (a b : World) : Prop where
  wro : Wro a b (sp.map (·.1))
  t : ∀ s ∈ sp, a.heap[s.1]? = some s.2.1 ∨ a.heap[s.1]? = some s.2.2 → b.heap[s.1]? = some s.2.1 ∨ b.heap[s.1]? = some s.2.2
  s : ∀ s ∈ sp, a.heap[s.1]? = some s.2.2 → b.heap[s.1]? = some s.2.2
theorem WroS.refl_ (sp : List Spec) (w : World) : WroS sp w w := ⟨Wro.refl_ w _, fun _ _ h => h, fun _ _ h => h⟩
theorem WroS.trans_ {sp : List Spec} {a b c : World} (h : WroS sp a b) (k : WroS sp b c) : WroS sp a c :=
  ⟨h.wro.trans k.wro fun _ hx => .inl hx, fun s hs x => k.t s hs (h.t s hs x), fun s hs x => k.s s hs (h.s s hs x)⟩
theorem WroS.of_gb {sp : List Spec} {a b : World} (h : a.grownBy b none) : WroS sp a b :=
  ⟨Wro.of_none h _, fun s _ x => by
      rcases x with x | x
      · exact .inl ((h.block s.1 (blk_lt x) (by simp)).trans x)
      · exact .inr ((h.block s.1 (blk_lt x) (by simp)).trans x), fun s _ x => (h.block s.1 (blk_lt x) (by simp)).trans x⟩
abbrev grS (sp : List Spec) : Gr := ⟨WroS sp, WroS.refl_ sp, WroS.trans_, WroS.of_gb⟩
/-- One of the blocks is written. -/
theorem WroS.one {sp : List Spec} {a b : World} {s : Spec} (hs : s ∈ sp) (hn : (sp.map (·.1)).Nodup) (hg : a.grownBy b (some s.1)) (hb : b.heap[s.1]? = some s.2.2) : WroS sp a b := by
  have hone : ∀ x ∈ sp, x.1 = s.1 → x = s := by
    intro x hx e
    obtain ⟨i, hi, hxi⟩ := List.getElem_of_mem hx
    obtain ⟨j, hj, hsj⟩ := List.getElem_of_mem hs
    have : i = j := (List.getElem?_inj (by simpa using hi) hn).1 (by simp [hi, hj, hxi, hsj, e])
    subst this
    exact hxi.symm.trans hsj
  refine ⟨Wro.of_gb hg fun g e => .inl (by injection e with e; subst e; exact List.mem_map.2 ⟨s, hs, rfl⟩), fun x hx h => ?_, fun x hx h => ?_⟩
  · by_cases e : x.1 = s.1
    · rw [hone x hx e]; exact .inr hb
    · have hk : ∀ o, a.heap[x.1]? = some o → b.heap[x.1]? = some o := fun o ho => (hg.block x.1 (blk_lt ho) (by simpa using e)).trans ho
      rcases h with h | h
      · exact .inl (hk _ h)
      · exact .inr (hk _ h)
  · by_cases e : x.1 = s.1
    · rw [hone x hx e]; exact hb
    · exact (hg.block x.1 (blk_lt h) (by simpa using e)).trans h

/-- A place that no spec has is as it was. -/
theorem WroS.keep {sp : List Spec} {a b : World} (h : WroS sp a b) {g : Nat} {o : Obj} (ho : a.heap[g]? = some o) (hn : g ∉ sp.map (·.1)) : b.heap[g]? = some o := (h.wro.block g (blk_lt ho) hn).trans ho

theorem own_keep' {w w' : World} {base n size : Nat} {t : TypeId} {v : Value} {xs : List Value} (ho : w.ownsRow base t size v n xs) (hk : ∀ g, v.ownBlock = some g → w'.heap[g]? = w.heap[g]?) : w'.ownsRow base t size v n xs := by
  refine ⟨ho.1, ?_⟩
  rcases ho.2 with h2 | ⟨g, cap, cur, rfl, h4, h5, h6⟩
  · exact .inl h2
  · exact .inr ⟨g, cap, cur, rfl, h4, (hk g rfl).trans h5, h6⟩
theorem own_lt' {w : World} {base n size : Nat} {t : TypeId} {v : Value} {xs : List Value} (ho : w.ownsRow base t size v n xs) {g : Nat} (hg : v.ownBlock = some g) : g < w.heap.size := by
  rcases ho.2 with ⟨rfl, _⟩ | ⟨g', cap, cur, rfl, h4, h5, h6⟩
  · simp [Value.ownBlock] at hg
  · obtain rfl : g' = g := by simpa [Value.ownBlock] using hg
    exact blk_lt h5
theorem row_again {cur : List Value} {news : List Value} {k : Nat} (hfit : k + news.length ≤ cur.length) :
    (cur.take k ++ news ++ cur.drop (k + news.length)).take k ++ news ++ (cur.take k ++ news ++ cur.drop (k + news.length)).drop (k + news.length) = cur.take k ++ news ++ cur.drop (k + news.length) := by
  have h1 : (cur.take k).length = k := by simp; omega
  have h2 : (cur.take k ++ news).length = k + news.length := by simp; omega
  rw [List.append_assoc (cur.take k), List.take_append_of_le_length (by omega), List.take_of_length_le (by omega), ← List.append_assoc, List.drop_append_of_le_length (by omega), List.drop_of_length_le (by omega), List.nil_append]
theorem setRow_gb (w : World) (g : Nat) (cs : Array Value) : w.grownBy (w.setRow g cs) (some g) := ⟨rfl, rfl, rfl, by simp [World.setRow], fun k _ hk => setRow_other w g k _ (fun e => hk (by rw [e]))⟩

/-- What is left of a row that is known in W, in a world where the row's block may bear what is laid behind it. -/
def AppF (W : World) (base : Nat) (e : TypeId) (size : Nat) (v : Value) (n : Nat) (xs : List Value) : Fct := fun x w =>
  w.ownsRow base e size x n xs ∧ (x.ownBlock = v.ownBlock ∨ ∃ b, x.ownBlock = some b ∧ W.heap.size ≤ b)

section
variable {P : Program}
/-- append onto a row of the call's own, at any world in which only the specs' blocks have turned: its result (F) lasts. -/
theorem append_facts (W : World) (base : Nat) (t ty e : TypeId) (i : TypeInfo) (z : Value) (size bytes : Nat) (ht : P.underlying t = some (.slice e)) (hi : P.info? e = some i) (hz : i.zero = some z)
    (hsize : i.size = size) (hby : i.bytes = bytes) (hzs : z.cells.size = size) (hsz : 0 < size)
    (v : Value) (n : Nat) (xs : List Value) (hown : W.ownsRow base e size v n xs) (m : Nat) (news : List Value) (hl : news.length = m * size) (h1 : ∀ u ∈ news, u.oneCell' = true) (hm : 0 < m)
    (h63 : n + m ≤ maxLen) (hbytes : (n + m) * bytes ≤ 140737488355328) (hbase : base ≤ W.heap.size) :
    ∃ (sp : List Spec) (F : Fct), (sp.map (·.1)).Nodup ∧ (∀ s ∈ sp, v.ownBlock = some s.1 ∧ W.heap[s.1]? = some s.2.1 ∧ ∃ cs ty, s.2.1 = .cells cs ty (0, 0)) ∧
      (∀ x w, F x w → AppF W base e size v (n + m) (xs ++ news) x w) ∧
      ∀ sp' : List Spec, (∀ s ∈ sp, s ∈ sp') → (∀ s ∈ sp', v.ownBlock = some s.1 → s ∈ sp) → (∀ s ∈ sp', s.1 < W.heap.size) → (sp'.map (·.1)).Nodup →
        KUp (grS sp') F ∧ ∀ (w : World) (A : Addr) (c : Nat), WroS sp' W w → (∀ j u, news[j]? = some u → w.cell? (A.add j) = some u) →
          ∃ x w', (Builtin.append_ #[t, t] ty #[v, .slice (some A) m c]).run P w = .ok x w' ∧ WroS sp' w w' ∧ F x w' := by
  subst hsize
  subst hby
  have hsmall : n + m ≤ 9223372036854775807 := by simp only [maxLen] at h63; omega
  have hlen : (xs ++ news).length = (n + m) * i.size := by rw [List.length_append, hown.1, hl, Nat.add_mul]
  -- the arm that makes a new block
  have grown : ∀ (w : World) (old : Nat), base ≤ w.heap.size → (w.drew.alloc (.cells (xs.toArray ++ news.toArray ++ Builtin.zeroCells z.cells (grownCap w (n + m) old e - (n + m))) e)).ownsRow base e i.size
        (.slice (some ⟨w.heap.size, 0, none⟩) (n + m) (grownCap w (n + m) old e)) (n + m) (xs ++ news) := by
    intro w old hbw
    have hge := grownCap_ge w (n + m) old e
    have hcm : grownCap w (n + m) old e ≤ maxLen := grownCap_le_maxLen w (n + m) old e h63
    refine ⟨hlen, .inr ⟨w.heap.size, _, _, rfl, hbw, heap_alloc_new w.drew _, hge, hcm, ?_, ?_⟩⟩
    · simp only [Array.size_append, List.size_toArray, size_zeroCells, hzs, hown.1, hl, ← Nat.add_mul]
      congr 1
      omega
    · simp only [Array.toList_append, List.append_assoc]
      rw [← List.append_assoc, ← hlen]
      exact List.take_left
  have newF : ∀ sp' : List Spec, (∀ s ∈ sp', s.1 < W.heap.size) → KUp (grS sp') (fun x w => ∃ b c, x = .slice (some ⟨b, 0, none⟩) (n + m) c ∧ W.heap.size ≤ b ∧ w.ownsRow base e i.size x (n + m) (xs ++ news)) := by
    rintro sp' hlt x w w' ⟨b, c, rfl, hb, ho⟩ hg
    refine ⟨b, c, rfl, hb, own_keep' ho fun g hg' => ?_⟩
    obtain rfl : b = g := by simpa [Value.ownBlock] using hg'
    refine hg.wro.block b (own_lt' ho rfl) fun hm => ?_
    obtain ⟨s, hs, rfl⟩ := List.mem_map.1 hm
    have := hlt s hs
    omega
  rcases hown.2 with ⟨rfl, rfl⟩ | ⟨g, cap, cur, rfl, hbg, hg, hnc, hcm, hcs, htake⟩
  · have hx : xs = [] := List.eq_nil_of_length_eq_zero (by simpa using hown.1)
    subst hx
    refine ⟨[], fun x w => ∃ b c, x = .slice (some ⟨b, 0, none⟩) (0 + m) c ∧ W.heap.size ≤ b ∧ w.ownsRow base e i.size x (0 + m) ([] ++ news), by simp, by simp, ?_, fun sp' _ _ hlt _ => ⟨newF sp' hlt, fun w A c hw hc => ?_⟩⟩
    · rintro x w ⟨b, c, rfl, hb, ho⟩
      exact ⟨ho, .inr ⟨b, rfl, hb⟩⟩
    · have hr := run_append_nil (P := P) w t ty e i z ht hi hz A m c news hl hc hm (by omega) (by have hb := hbytes; simp only [Nat.zero_add] at hb; omega)
      have hgr := grown w 0 (Nat.le_trans hbase hw.wro.size)
      simp only [Nat.zero_add, List.nil_append, Array.empty_append] at hgr ⊢
      refine ⟨_, _, hr, WroS.of_gb ⟨rfl, rfl, rfl, by simp, fun k hk _ => heap_alloc_old w.drew _ hk⟩, _, _, rfl, hw.wro.size, hgr⟩
  · by_cases hroom : n + m ≤ cap
    · have hfit : n * i.size + news.length ≤ cur.size := by rw [hl, hcs, ← Nat.add_mul]; exact Nat.mul_le_mul_right _ hroom
      obtain ⟨cur2, hc2⟩ : ∃ cur2 : Array Value, cur2 = (cur.toList.take (n * i.size) ++ news ++ cur.toList.drop (n * i.size + news.length)).toArray := ⟨_, rfl⟩
      have hs2 : cur2.size = cap * i.size := by
        rw [hc2]
        simp only [List.size_toArray, List.length_append, List.length_take, List.length_drop, Array.length_toList]
        omega
      have ht2 : cur2.toList.take ((n + m) * i.size) = xs ++ news := by
        rw [hc2, htake, ← hlen]
        exact List.take_left
      have hagain : (cur2.toList.take (n * i.size) ++ news ++ cur2.toList.drop (n * i.size + news.length)).toArray = cur2 := by
        have := row_again (cur := cur.toList) (news := news) (k := n * i.size) (by simpa using hfit)
        rw [hc2]
        rw [this]
      refine ⟨[(g, .cells cur e (0, 0), .cells cur2 e (0, 0))], fun x w => x = .slice (some ⟨g, 0, none⟩) (n + m) cap ∧ w.heap[g]? = some (.cells cur2 e (0, 0)), by simp, ?_, ?_, fun sp' hin hv hlt hnd => ⟨?_, fun w A c hw hc => ?_⟩⟩
      · intro s hs
        obtain rfl := List.mem_singleton.1 hs
        exact ⟨rfl, hg, _, _, rfl⟩
      · rintro x w ⟨rfl, hb⟩
        exact ⟨⟨hlen, .inr ⟨g, cap, cur2, rfl, hbg, hb, hroom, hcm, hs2, ht2⟩⟩, .inl rfl⟩
      · rintro x w w' ⟨rfl, hb⟩ hr
        exact ⟨rfl, hr.s _ (hin _ (List.mem_singleton.2 rfl)) hb⟩
      · have hat := hw.t _ (hin _ (List.mem_singleton.2 rfl)) (.inl hg)
        have hrun : ∀ cw : Array Value, w.heap[g]? = some (.cells cw e (0, 0)) → cw.size = cur.size → (cw.toList.take (n * i.size) ++ news ++ cw.toList.drop (n * i.size + news.length)).toArray = cur2 →
            ∃ x w', (Builtin.append_ #[t, t] ty #[.slice (some ⟨g, 0, none⟩) n cap, .slice (some A) m c]).run P w = .ok x w' ∧ WroS sp' w w' ∧ (x = .slice (some ⟨g, 0, none⟩) (n + m) cap ∧ w'.heap[g]? = some (.cells cur2 e (0, 0))) := by
          intro cw hcw hsz' heq
          have hr := run_append_room (P := P) w t ty e i ht hi g n cap cw hcw A m c news hl hc h1 hroom (by omega)
          rw [heq] at hr
          have hb := setRow_heap w g cw cur2 e (0, 0) hcw
          exact ⟨_, _, hr, WroS.one (hin _ (List.mem_singleton.2 rfl)) hnd (setRow_gb w g cur2) hb, rfl, hb⟩
        rcases hat with hat | hat
        · exact hrun cur hat rfl hc2.symm
        · exact hrun cur2 hat (by omega) hagain
    · refine ⟨[], fun x w => ∃ b c, x = .slice (some ⟨b, 0, none⟩) (n + m) c ∧ W.heap.size ≤ b ∧ w.ownsRow base e i.size x (n + m) (xs ++ news), by simp, by simp, ?_, fun sp' _ hv hlt _ => ⟨newF sp' hlt, fun w A c hw hc => ?_⟩⟩
      · rintro x w ⟨b, c, rfl, hb, ho⟩
        exact ⟨ho, .inr ⟨b, rfl, hb⟩⟩
      · have hgw : w.heap[g]? = W.heap[g]? := hw.wro.block g (blk_lt hg) fun hm => by
          obtain ⟨s, hs, e1⟩ := List.mem_map.1 hm
          have := hv s hs (by rw [e1]; rfl)
          cases this
        have holds : ∀ j u, xs[j]? = some u → w.cell? ((⟨g, 0, none⟩ : Addr).add j) = some u := fun j u hu => by
          exact (World.cell?_of_block (a := (⟨g, 0, none⟩ : Addr).add j) (by rw [add_block]; exact hgw)).trans (hown.cells (g := g) rfl j u hu)
        have hr := run_append_grow (P := P) w t ty e i z ht hi hz ⟨g, 0, none⟩ n cap xs hown.1 holds A m c news hl hc (by omega) (by omega) (growslice_fits (by omega) hbytes)
        have hgr := grown w cap (Nat.le_trans hbase hw.wro.size)
        exact ⟨_, _, hr, WroS.of_gb ⟨rfl, rfl, rfl, by simp, fun k hk _ => heap_alloc_old w.drew _ hk⟩, _, _, rfl, hw.wro.size, hgr⟩
end
end Go.Proofs.Ytfdckhnhancbdaa
