/-
  Maps whose keys are structs, as association lists: the run of each operation on one, 'm[k] = f(m[k])' among them. No program stands in it.
-/
import Derived.Test.YtfdckhnhancbdaaMp
namespace Go.Proofs.Ytfdckhnhancbdaa
open Go.RowKit Go.MapKept

section
variable {κ ν : Type}

/-- How a map's keys and elements are laid. -/
structure EncK (κ ν : Type) where
  ek : κ → Value
  ev : ν → Value
  inj : ∀ a b, ek a = ek b → a = b
/-- What the program does with such keys. -/
structure KeyRun [DecidableEq κ] (P : Program) (kt : TypeId) (E : EncK κ ν) : Prop where
  kind : ∃ fs, P.underlying kt = some (.struct fs)
  check : ∀ (em : Bool) (k : κ) (w : World), (Instr.checkKey em 10000 kt (E.ek k)).run P w = .ok () w
  eq : ∀ (a b : κ) (w : World), (Op.equal kt (E.ek a) (E.ek b)).run P w = .ok (decide (a = b)) w
  bits : ∀ k, Instr.sameBits 10000 (E.ek k) (E.ek k) = true

/-- Block b is a map whose entries are l, in that order. -/
def MapK (E : EncK κ ν) (w : World) (b : Nat) (l : List (κ × ν)) : Prop :=
  ∃ es clock, w.heap[b]? = some (.map es clock) ∧ Stamped es clock ∧ es.toList.map (fun e => (e.key, e.val)) = l.map (fun x => (E.ek x.1, E.ev x.2))

variable {E : EncK κ ν} {w w' : World} {b : Nat} {l : List (κ × ν)} {P : Program} {t kt e : TypeId}

theorem MapK.keep (h : MapK E w b l) (hk : w'.heap[b]? = w.heap[b]?) : MapK E w' b l := by
  obtain ⟨es, clock, h1, h2⟩ := h
  exact ⟨es, clock, hk.trans h1, h2⟩
theorem MapK.lt (h : MapK E w b l) : b < w.heap.size := by
  obtain ⟨es, clock, h1, _⟩ := h
  exact (Array.getElem?_eq_some_iff.1 h1).1
theorem MapK.drewN (h : MapK E w b l) (n : Nat) : MapK E (w.drewN n) b l := h
theorem MapK.alloc (h : MapK E w b l) (o : Obj) : MapK E (w.alloc o) b l := h.keep (heap_alloc_old w o h.lt)
theorem MapK.setCell (h : MapK E w b l) {p : Addr} (hp : p.block ≠ b) (u : Value) : MapK E (w.setCell p u) b l := h.keep (Below.heap_setCell w p u b (fun e => hp e.symm))
theorem MapK.grown {row : Option Nat} (h : MapK E w b l) (hg : w.grownBy w' row) (hne : some b ≠ row) : MapK E w' b l := h.keep (hg.block b h.lt hne)
theorem MapK.made (w : World) : MapK E (w.alloc (.map #[] 0)) w.heap.size [] := ⟨#[], 0, heap_alloc_new w _, stamped_empty 0, rfl⟩
theorem MapK.nodup (h : MapK E w b l) : (l.map (·.1)).Nodup := by
  obtain ⟨es, clock, _, ⟨_, _, h3⟩, h4⟩ := h
  have e1 : es.toList.map (·.key) = (l.map (·.1)).map E.ek := by
    have := congrArg (List.map Prod.fst) h4
    simpa [List.map_map, Function.comp_def] using this
  rw [e1] at h3
  exact (List.pairwise_map.1 h3).imp (fun h e => h (by rw [e]))
theorem MapK.not_cells (h : MapK E w b l) {g : Nat} {cs : Array Value} {ty : TypeId} {f : Nat × Nat} (hg : w.heap[g]? = some (.cells cs ty f)) : g ≠ b := by
  rintro rfl
  obtain ⟨es, clock, h1, _⟩ := h
  rw [h1] at hg
  cases hg

section
variable [DecidableEq κ]

/-- What the search for a key finds. -/
theorem ask_aget (K : KeyRun P kt E) (w : World) (k : κ) : ∀ (es : List MapEntry) (l : List (κ × ν)) (i : Nat), es.map (fun e => (e.key, e.val)) = l.map (fun x => (E.ek x.1, E.ev x.2)) →
    (aget l k = none ∧ (Instr.findAsking kt (E.ek k) es i).run P w = .ok none w ∧ (∀ x ∈ es, x.key ≠ E.ek k) ∧ (∀ v, aput l k v = l ++ [(k, v)]) ∧ adel l k = l) ∨
    ∃ j u x, aget l k = some u ∧ (Instr.findAsking kt (E.ek k) es i).run P w = .ok (some (i + j, x.val)) w ∧ es[j]? = some x ∧ x.key = E.ek k ∧ x.val = E.ev u ∧ (∀ v, aput l k v = l.set j (k, v)) ∧ adel l k = l.eraseIdx j
  | [], l, i, h => by
    have : l = [] := by simpa using h.symm
    subst this
    exact .inl ⟨rfl, by simp [Instr.findAsking], by simp, fun _ => rfl, rfl⟩
  | x :: es, [], i, h => by simp at h
  | x :: es, (a, u) :: l, i, h => by
    simp only [List.map_cons, List.cons.injEq, Prod.mk.injEq] at h
    obtain ⟨⟨hk, hv⟩, ht⟩ := h
    have hq := K.eq k a w
    rw [← hk] at hq
    by_cases hak : a = k
    · subst hak
      exact .inr ⟨0, u, x, by simp [aget], by simp [Instr.findAsking, hq, Result.andThen], rfl, hk, hv, fun v => by simp [aput], by simp [adel]⟩
    · have hne : x.key ≠ E.ek k := fun q => hak (E.inj _ _ (by rw [← hk, q]))
      have hka : ¬ k = a := fun e => hak e.symm
      rcases ask_aget K w k es l (i + 1) ht with ⟨h1, h2, h3, h4, h5⟩ | ⟨j, u', x', h1, h2, h3, h4, h5, h6, h7⟩
      · exact .inl ⟨by simp [aget, hak, h1], by simp [Instr.findAsking, hq, hka, Result.andThen, h2], fun y hy => by
          rcases List.mem_cons.1 hy with rfl | hy
          · exact hne
          · exact h3 y hy, fun v => by simp [aput, hak, h4], by simp [adel, hak, h5]⟩
      · exact .inr ⟨j + 1, u', x', by simp [aget, hak, h1], by simp [Instr.findAsking, hq, hka, Result.andThen, h2]; omega, by simpa using h3, h4, h5, fun v => by simp [aput, hak, h6], by simp [adel, hak, h7]⟩
theorem find_ask (K : KeyRun P kt E) (w : World) (k : κ) (es : List MapEntry) : (Instr.findKey kt (E.ek k) es).run P w = (Instr.findAsking kt (E.ek k) es 0).run P w := by
  obtain ⟨fs, hfs⟩ := K.kind
  cases es with
  | nil => simp [Instr.findKey, run_underlying hfs, Result.andThen, Instr.findNow, Instr.findAsking]
  | cons x es => simp [Instr.findKey, run_underlying hfs, Result.andThen, Instr.findNow, Instr.sameNow]
theorem find_agetK (K : KeyRun P kt E) (w : World) (k : κ) (es : List MapEntry) (l : List (κ × ν)) (h : es.map (fun e => (e.key, e.val)) = l.map (fun x => (E.ek x.1, E.ev x.2))) :
    (aget l k = none ∧ (Instr.findKey kt (E.ek k) es).run P w = .ok none w ∧ (∀ x ∈ es, x.key ≠ E.ek k) ∧ (∀ v, aput l k v = l ++ [(k, v)]) ∧ adel l k = l) ∨
    ∃ j u x, aget l k = some u ∧ (Instr.findKey kt (E.ek k) es).run P w = .ok (some (j, x.val)) w ∧ es[j]? = some x ∧ x.key = E.ek k ∧ x.val = E.ev u ∧ (∀ v, aput l k v = l.set j (k, v)) ∧ adel l k = l.eraseIdx j := by
  rw [find_ask K]
  simpa using ask_aget K w k es l 0 h
theorem KeyRun.stays (K : KeyRun P kt E) (k : κ) (w : World) : (Instr.keyThatStays (E.ek k) (E.ek k)).run P w = .ok (E.ek k) w := by simp [Instr.keyThatStays, K.bits k]

/-- 'm[k]', 'v, ok := m[k]'. -/
theorem MapK.look (K : KeyRun P kt E) (h : MapK E w b l) (ht : P.underlying t = some (.map kt e)) {z : Value} (hz : (zeroValue e).run P w = .ok z w) (k : κ) (c : Bool) :
    (Instr.lookup t (.map (some b)) (E.ek k) c).run P w = .ok (if c then .tuple #[((aget l k).map E.ev).getD z, .bool (aget l k).isSome] else ((aget l k).map E.ev).getD z) w := by
  obtain ⟨es, clock, hb, hs, hl⟩ := h
  rcases find_agetK K w k es.toList l hl with ⟨h1, h2, _⟩ | ⟨j, u, x, h1, h2, _, _, h5, _⟩
  · simp [Instr.lookup, run_underlying ht, MapKept.run_getObj_map hb, K.check, h2, hz, h1, Result.andThen]
  · simp [Instr.lookup, run_underlying ht, MapKept.run_getObj_map hb, K.check, h2, h1, h5, Result.andThen]
/-- 'm[k] = v'. -/
theorem MapK.update (K : KeyRun P kt E) (h : MapK E w b l) (ht : P.underlying t = some (.map kt e)) (k : κ) (v : ν) :
    ∃ w', (Instr.mapUpdate t (.map (some b)) (E.ek k) (E.ev v)).run P w = .ok () w' ∧ MapK E w' b (aput l k v) ∧ w.grownBy w' (some b) ∧ w'.heap.size = w.heap.size := by
  obtain ⟨es, clock, hb, hs, hl⟩ := h
  rcases find_agetK K w k es.toList l hl with ⟨h1, h2, h3, h4, _⟩ | ⟨j, u, x, h1, h2, h3, h4', h5, h6, _⟩
  · refine ⟨Go.ChangeMaps.setBlock w b (.map (es.push ⟨E.ek k, E.ev v, clock⟩) (clock + 1)), ?_, ⟨_, _, (heap_set hb).1, stamped_push hs h3, ?_⟩, gb_setBlock hb, by simp [Go.ChangeMaps.setBlock]⟩
    · simp [Instr.mapUpdate, run_underlying ht, MapKept.run_getObj_map hb, K.check, h2, MapKept.run_setObj_map _ hb, Result.andThen, Go.ChangeMaps.setBlock]
    · rw [h4]
      simp [hl]
  · have hj : es[j]? = some x := by simpa using h3
    have hlist : (es.modify j (fun e' => { e' with key := E.ek k, val := E.ev v })).toList = es.toList.set j { x with key := E.ek k, val := E.ev v } := by rw [Array.toList_modify, Go.ChangeMaps.modify_eq_set _ _ _ _ h3]
    refine ⟨Go.ChangeMaps.setBlock w b (.map (es.modify j (fun e' => { e' with key := E.ek k, val := E.ev v })) clock), ?_, ⟨_, _, (heap_set hb).1, stamped_modify hs _ _ (fun _ _ => rfl) (fun e' _ he' => by rw [hj] at he'; cases he'; exact h4'.symm), ?_⟩, gb_setBlock hb, by simp [Go.ChangeMaps.setBlock]⟩
    · simp [Instr.mapUpdate, run_underlying ht, MapKept.run_getObj_map hb, K.check, h2, hj, h4', K.stays, MapKept.run_setObj_map _ hb, Result.andThen, Go.ChangeMaps.setBlock]
    · rw [h6, hlist, List.map_set, hl, List.map_set]
/-- 'delete(m, k)'. -/
theorem MapK.drop (K : KeyRun P kt E) (h : MapK E w b l) (ht : P.underlying t = some (.map kt e)) (k : κ) (ty : TypeId) :
    ∃ w', (Builtin.delete_ #[t, kt] ty #[.map (some b), E.ek k]).run P w = .ok (.tuple #[]) w' ∧ MapK E w' b (adel l k) ∧ w.grownBy w' (some b) ∧ w'.heap.size = w.heap.size := by
  obtain ⟨es, clock, hb, hs, hl⟩ := h
  rcases find_agetK K w k es.toList l hl with ⟨h1, h2, h3, _, h5⟩ | ⟨j, u, x, h1, h2, h3, h4', _, _, h7⟩
  · refine ⟨Go.ChangeMaps.setBlock w b (.map es clock), ?_, ⟨_, _, (heap_set hb).1, hs, by rw [h5]; exact hl⟩, gb_setBlock hb, by simp [Go.ChangeMaps.setBlock]⟩
    simp [Builtin.delete_, run_underlying ht, MapKept.run_getObj_map hb, K.check, h2, MapKept.run_setObj_map _ hb, Result.andThen, Go.ChangeMaps.setBlock]
  · have hjs : j < es.size := by simpa using (List.getElem?_eq_some_iff.1 h3).1
    have hsub : (es.eraseIdxIfInBounds j).toList = es.toList.eraseIdx j := by
      unfold Array.eraseIdxIfInBounds
      rw [dif_pos hjs]
      simp
    refine ⟨Go.ChangeMaps.setBlock w b (.map (es.eraseIdxIfInBounds j) clock), ?_, ⟨_, _, (heap_set hb).1, stamped_erase hs j, ?_⟩, gb_setBlock hb, by simp [Go.ChangeMaps.setBlock]⟩
    · simp [Builtin.delete_, run_underlying ht, MapKept.run_getObj_map hb, K.check, h2, MapKept.run_setObj_map _ hb, Result.andThen, Go.ChangeMaps.setBlock]
    · rw [h7, hsub, Go.ChangeMaps.map_eraseIdx, hl, Go.ChangeMaps.map_eraseIdx]

theorem modify_id {es : Array MapEntry} {j : Nat} {x : MapEntry} (hj : es[j]? = some x) (f : MapEntry → MapEntry) (hf : f x = x) : es.modify j f = es := by
  apply Array.ext_getElem?
  intro i
  rw [Array.getElem?_modify]
  by_cases h : j = i
  · subst h; simp [hj, hf]
  · simp [h]
theorem setBlock_id {o : Obj} (hb : w.heap[b]? = some o) : Go.ChangeMaps.setBlock w b o = w := by
  have : w.heap.setIfInBounds b o = w.heap := by
    apply Array.ext_getElem?
    intro i
    rw [Array.getElem?_setIfInBounds]
    by_cases h : b = i
    · subst h; rw [if_pos rfl, if_pos (Array.getElem?_eq_some_iff.1 hb).1, hb]
    · rw [if_neg h]
  unfold Go.ChangeMaps.setBlock
  rw [this]
theorem findIdx_stamp {es : Array MapEntry} {clock j : Nat} {x : MapEntry} (hs : Stamped es clock) (hj : es[j]? = some x) : es.findIdx? (fun e => (e.born : Int) == (x.born : Int)) = some j := by
  rw [Array.findIdx?_eq_some_iff_getElem]
  have hjl : j < es.size := (Array.getElem?_eq_some_iff.1 hj).1
  have hx : es[j] = x := (Array.getElem?_eq_some_iff.1 hj).2
  refine ⟨hjl, by simp [hx], fun i hi hc => ?_⟩
  have hn := hs.2.1
  have hil : i < es.size := by omega
  have he : (es[i]'hil).born = x.born := by
    have h := eq_of_beq hc
    omega
  have h2 : i = j := (List.getElem?_inj (by simpa using hil) hn).1 (by simp [hil, hjl, he, hx])
  omega

/-- 'm[k] = f(m[k])': its first half tells the element and a stamp, its second one lays the new element there. Both are told at the block's contents o0 (ahead of the first half) and o1 (behind it). -/
theorem MapK.entry (K : KeyRun P kt E) (h : MapK E w b l) (ht : P.underlying t = some (.map kt e)) (z : ν) (hz : ∀ w : World, (zeroValue e).run P w = .ok (E.ev z) w) (k : κ) :
    ∃ (o0 o1 : Obj) (s : Nat), w.heap[b]? = some o0 ∧
      (∀ w : World, w.heap[b]? = some o0 ∨ w.heap[b]? = some o1 → ∃ w', (Instr.mapEntry t (.map (some b)) (E.ek k)).run P w = .ok (.tuple #[E.ev ((aget l k).getD z), goInt s]) w' ∧ w'.heap[b]? = some o1 ∧ w.grownBy w' (some b) ∧ w'.heap.size = w.heap.size) ∧
      (∀ (w : World) (u : ν), w.heap[b]? = some o1 → ∃ w', (Instr.entryStore t (.map (some b)) (goInt s) (E.ev u)).run P w = .ok () w' ∧ MapK E w' b (aput l k u) ∧ w.grownBy w' (some b) ∧ w'.heap.size = w.heap.size) := by
  obtain ⟨es, clock, hb, hs, hl⟩ := h
  rcases find_agetK K w k es.toList l hl with ⟨h1, h2, h3, h4, _⟩ | ⟨j, u, x, h1, h2, h3, h4', h5, h6, _⟩
  · obtain ⟨x, hx⟩ : ∃ x : MapEntry, x = ⟨E.ek k, E.ev z, clock⟩ := ⟨_, rfl⟩
    have hs1 : Stamped (es.push x) (clock + 1) := by rw [hx]; exact stamped_push hs h3
    have hl1 : (es.push x).toList.map (fun e => (e.key, e.val)) = (l ++ [(k, z)]).map (fun x => (E.ek x.1, E.ev x.2)) := by rw [hx]; simp [hl]
    have hj1 : (es.push x)[es.size]? = some x := by simp
    have hag : ∀ w : World, (Instr.findKey kt (E.ek k) (es.push x).toList).run P w = .ok (some (es.size, E.ev z)) w := by
      intro w
      rcases find_agetK K w k (es.push x).toList _ hl1 with ⟨g1, g2, g3, _⟩ | ⟨j, u, y, g1, g2, g3, g4, g5, g6, _⟩
      · exact absurd (by rw [hx]) (g3 x (by simp))
      · have hn := hs1.2.2
        have : j = es.size := by
          rcases Nat.lt_trichotomy j es.size with hj | hj | hj
          · exact absurd g4 (h3 y (by
              have : es.toList[j]? = some y := by
                rw [← g3, Array.toList_push, List.getElem?_append_left (by simpa using hj)]
              exact List.mem_of_getElem? this))
          · exact hj
          · have hjl := (List.getElem?_eq_some_iff.1 g3).1
            simp at hjl
            omega
        subst this
        have hy : y = x := by
          have : (es.push x).toList[es.size]? = some x := by simp
          rw [this] at g3
          exact (Option.some.inj g3).symm
        rw [g2, hy, hx]
    have hz' : (aget l k).getD z = z := by rw [h1]; rfl
    have hset0 : (es.push x).size = es.size + 1 := by simp
    generalize hes : es.push x = es1 at *
    refine ⟨_, .map es1 (clock + 1), clock, hb, fun w1 hw1 => ?_, fun w1 u hw1 => ?_⟩
    · rw [hz']
      rcases hw1 with hw1 | hw1
      · have h2' : (Instr.findKey kt (E.ek k) es.toList).run P w1 = .ok none w1 := by
          rcases find_agetK K w1 k es.toList l hl with ⟨_, g2, _⟩ | ⟨j, u, y, g1, _⟩
          · exact g2
          · rw [h1] at g1; cases g1
        refine ⟨Go.ChangeMaps.setBlock w1 b (.map es1 (clock + 1)), ?_, (heap_set hw1).1, gb_setBlock hw1, by simp [Go.ChangeMaps.setBlock]⟩
        simp [Instr.mapEntry, run_underlying ht, MapKept.run_getObj_map hw1, K.check, h2', hz, MapKept.run_setObj_map _ hw1, Result.andThen, Go.ChangeMaps.setBlock, ← hes, hx]
      · refine ⟨w1, ?_, hw1, gb_refl w1 _, rfl⟩
        have hid : es1.modify es.size (fun e => { e with key := E.ek k }) = es1 := modify_id hj1 (fun e => { e with key := E.ek k }) (by rw [hx])
        have hxk : x.key = E.ek k := by rw [hx]
        have hxb : x.born = clock := by rw [hx]
        have hset := setBlock_id hw1
        unfold Go.ChangeMaps.setBlock at hset
        simp [Instr.mapEntry, run_underlying ht, MapKept.run_getObj_map hw1, K.check, hag, hj1, hxk, hxb, K.stays, MapKept.run_setObj_map _ hw1, Result.andThen, hid, hset]
    · have hf := findIdx_stamp hs1 hj1
      have hxb : x.born = clock := by rw [hx]
      rw [hxb] at hf
      have hg := heap_set (o' := .map (es1.modify es.size (fun e => { e with val := E.ev u })) (clock + 1)) hw1
      refine ⟨Go.ChangeMaps.setBlock w1 b (.map (es1.modify es.size (fun e => { e with val := E.ev u })) (clock + 1)), ?_, ⟨_, _, hg.1, stamped_modify hs1 _ _ (fun _ _ => rfl) (fun _ _ _ => rfl), ?_⟩, gb_setBlock hw1, by simp [Go.ChangeMaps.setBlock]⟩
      · simp [Instr.entryStore, MapKept.run_getObj_map hw1, goInt, asInt, asIntOf, hf, MapKept.run_setObj_map _ hw1, Result.andThen, Go.ChangeMaps.setBlock]
      · rw [h4, Array.toList_modify, Go.ChangeMaps.modify_eq_set _ _ _ x (by simpa using hj1)]
        rw [List.map_set, hl1]
        have : ((l ++ [(k, z)]).map (fun x => (E.ek x.1, E.ev x.2))).set es.size (x.key, E.ev u) = (l ++ [(k, u)]).map (fun x => (E.ek x.1, E.ev x.2)) := by
          have hlen : es.size = (l.map (fun x => (E.ek x.1, E.ev x.2))).length := by
            have := congrArg List.length hl
            simpa using this
          rw [List.map_append, List.map_append, hlen, List.set_append_right _ _ (Nat.le_refl _)]
          simp [hx]
        exact this
  · have hj : es[j]? = some x := by simpa using h3
    have hz' : (aget l k).getD z = u := by rw [h1]; rfl
    refine ⟨_, .map es clock, x.born, hb, fun w1 hw1 => ?_, fun w1 v hw1 => ?_⟩
    · rw [hz']
      have hw1 : w1.heap[b]? = some (.map es clock) := by rcases hw1 with h | h <;> exact h
      have h2' : (Instr.findKey kt (E.ek k) es.toList).run P w1 = .ok (some (j, x.val)) w1 := by
        rw [find_ask K] at h2 ⊢
        rcases ask_aget K w1 k es.toList l 0 hl with ⟨g1, _⟩ | ⟨j', u', y, g1, g2, g3, g4, _⟩
        · rw [h1] at g1; cases g1
        · have hjj : j' = j := by
            have hn := hs.2.2
            have l1 := (List.getElem?_eq_some_iff.1 g3).1
            have e1 : (es.toList.map (·.key))[j']? = some (E.ek k) := by rw [List.getElem?_map, g3]; simp [g4]
            have e2 : (es.toList.map (·.key))[j]? = some (E.ek k) := by rw [List.getElem?_map, h3]; simp [h4']
            exact (List.getElem?_inj (by simpa using l1) hn).1 (e1.trans e2.symm)
          subst hjj
          rw [h3] at g3
          cases g3
          simpa using g2
      refine ⟨w1, ?_, hw1, gb_refl w1 _, rfl⟩
      have hid : es.modify j (fun e => { e with key := E.ek k }) = es := modify_id hj _ (by rw [← h4'])
      have hset := setBlock_id hw1
      unfold Go.ChangeMaps.setBlock at hset
      simp [Instr.mapEntry, run_underlying ht, MapKept.run_getObj_map hw1, K.check, h2', hj, h4', K.stays, MapKept.run_setObj_map _ hw1, Result.andThen, hid, hset, h5]
    · have hf := findIdx_stamp hs hj
      have hg := heap_set (o' := .map (es.modify j (fun e => { e with val := E.ev v })) clock) hw1
      refine ⟨Go.ChangeMaps.setBlock w1 b (.map (es.modify j (fun e => { e with val := E.ev v })) clock), ?_, ⟨_, _, hg.1, stamped_modify hs _ _ (fun _ _ => rfl) (fun _ _ _ => rfl), ?_⟩, gb_setBlock hw1, by simp [Go.ChangeMaps.setBlock]⟩
      · simp [Instr.entryStore, MapKept.run_getObj_map hw1, goInt, asInt, asIntOf, hf, MapKept.run_setObj_map _ hw1, Result.andThen, Go.ChangeMaps.setBlock]
      · rw [h6, Array.toList_modify, Go.ChangeMaps.modify_eq_set _ _ _ _ h3, List.map_set, hl, List.map_set]
        simp [h4']
end
/-- 'len(m)'. -/
theorem MapK.len (h : MapK E w b l) (ht : P.underlying t = some (.map kt e)) (ty : TypeId) : (Builtin.len_ #[t] ty #[.map (some b)]).run P w = .ok (.int .i64 (l.length : Int)) w := by
  obtain ⟨es, clock, hb, hs, hl⟩ := h
  have e1 : es.size = l.length := by have := congrArg List.length hl; simpa using this
  simp [Builtin.len_, run_underlying ht, MapKept.run_getObj_map hb, Result.andThen, goInt, e1]
end
end Go.Proofs.Ytfdckhnhancbdaa
