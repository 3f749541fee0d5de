/-
  Copy.
-/
import Derived.Test.YtccapgcpdehicaaQan
import Derived.Test.YtccapgcpdehicaaQal

namespace Go.Proofs.Ytccapgcpdehicaa
open Go.RowKit

theorem Sw.laid {w3 : World} {own : Nat → Prop} {A : Option Addr} {n c : Nat} {xs : List UInt8} (hb : BsAt w3 own (.slice A n c) ([] ++ xs)) (hn : n = ([] ++ xs).length) : Rd w3 w3.heap.size A (u8s xs) ∧ n = xs.length := by
  obtain ⟨A', c', e, _, _, hr⟩ := hb.rd
  injection e with e1 e2 e3
  subst e1
  exact ⟨hr, hn⟩
theorem Rd.at_ {w w' : World} {A : Option Addr} {xs : List Value} (h : Rd w w.heap.size A xs) (hg : w.grownBy w' none) : Rd w' w.heap.size A xs := h.grown hg (Nat.le_refl _) (by simp)

/-- What is handed in. -/
structure Sw.In (w : World) (Ao : Option Addr) (no co : Nat) (Af : Option Addr) (nf cf : Nat) (At : Option Addr) (nt ct : Nat) (old fresh : List UInt8) (tl : List Tn) : Prop where
  ro : Rd w w.heap.size Ao (u8s old)
  rf : Rd w w.heap.size Af (u8s fresh)
  rt : Rd w w.heap.size At (tcells tl)
  hno : no = old.length
  hnf : nf = fresh.length
  hnt : nt = tl.length
  hco : no ≤ co ∧ co ≤ maxLen
  hcf : nf ≤ cf ∧ cf ≤ maxLen
  hct : nt ≤ ct ∧ ct ≤ maxLen

theorem Try.infoT : (Try.prog.info? 50).map (fun i => (i.zero, i.size, i.bytes)) = some (some (.agg #[.int .i64 0, .int .i64 0, .int .i64 0]), 3, 24) := by kernel_rfl
theorem tcells_one (l : List Tn) : ∀ u ∈ tcells l, u.oneCell' = true := by
  intro u hu
  obtain ⟨t, _, ht⟩ := List.mem_flatMap.1 hu
  simp only [List.mem_cons, List.not_mem_nil, or_false] at ht
  rcases ht with rfl | rfl | rfl <;> rfl
theorem own_cap {w : World} {base size n c : Nat} {e : TypeId} {A : Option Addr} {xs : List Value} (h : w.ownsRow base e size (.slice A n c) n xs) : n ≤ c ∧ c ≤ maxLen := by
  rcases h.2 with ⟨h1, h0⟩ | ⟨g, cap, cur, hv, _, _, h3, h4, _⟩
  · injection h1 with _ _ h1
    subst h1
    subst h0
    exact ⟨Nat.le_refl _, Nat.zero_le _⟩
  · injection hv with _ _ hv
    subst hv
    exact ⟨h3, h4⟩
theorem own_empty (w : World) (t : TypeId) (size : Nat) : (w.alloc (.cells #[] t)).ownsRow 0 t size (.slice (some ⟨w.heap.size, 0, none⟩) 0 0) 0 [] :=
  ⟨by simp, .inr ⟨w.heap.size, 0, #[], rfl, Nat.zero_le _, heap_alloc_new w _, Nat.le_refl _, Nat.zero_le _, by simp, by simp⟩⟩
/-- The list of a wreck that was laid anew. -/
theorem Sw.wreck {w0 w13 w5 : World} {g : Nat} {S : St} {A : Option Addr} {n c : Nat} {tl : List Tn} (_ : Lv w0 g S w13) (ho : w5.ownsRow 0 50 3 (.slice A n c) n (tcells tl)) (hg : (w13.alloc (.cells #[] 50)).grownBy w5 (some w13.heap.size))
    (hb : (Value.slice A n c).ownBlock = some w13.heap.size ∨ (Value.slice A n c).ownBlock = some (w13.alloc (.cells #[] 50)).heap.size) :
    w13.grownBy w5 none ∧ Rd w5 w5.heap.size A (tcells tl) ∧ (∀ a, A = some a → a.block < w0.heap.size ∨ w13.heap.size ≤ a.block) ∧ (n ≤ c ∧ c ≤ maxLen) := by
  refine ⟨gb_trans (gb_alloc (gb_refl w13 none) (.cells #[] 50)) hg (.inr (.inr ⟨_, rfl, Nat.le_refl _⟩)), Rd.of_own ho, fun a ha => .inr ?_, own_cap ho⟩
  subst ha
  rcases hb with hb | hb
  · have e : a.block = w13.heap.size := by injection hb
    omega
  · have e : a.block = (w13.alloc (.cells #[] 50)).heap.size := by injection hb
    rw [e]
    simp
theorem Sw.str {w : World} {A : Option Addr} {n c B : Nat} {bs : List UInt8} (hr : Rd w B A (u8s bs)) (hn : n = bs.length) : (convert 32 9 (.slice A n c)).run Try.prog w = .ok (.string ⟨bs.toArray⟩) w := by
  subst hn
  exact run_string_of w 32 5 Try.underlying32 Try.underlying5 _ _ _ _ hr 9 Try.underlying9
theorem Sw.same {a b : List UInt8} (h : a = b) : (a == b) = true := by
  subst h
  simp
theorem Sw.other {a b : List UInt8} (h : a ≠ b) : (a == b) = false := beq_eq_false_iff_ne.2 h

end Go.Proofs.Ytccapgcpdehicaa

namespace Go.Proofs.Ytccapgcpdehicaa
open Go.RowKit

set_option maxHeartbeats 2000000 in
set_option maxRecDepth 100000 in
theorem clone_wr (A : Option Addr) (n c : Nat) (xs : List Value) (w : World) (h : w.ownsRow 0 116 3 (.slice A n c) n xs) (h1 : ∀ u ∈ xs, u.oneCell' = true) (hn : n ≤ 1000000) :
    Calls Try.prog 80 #[.slice A n c] w fun e w' => ∃ A' c', e = .returned (.slice A' n c') ∧ w'.ownsRow 0 116 3 (.slice A' n c') n xs ∧ w.grownBy w' none ∧ ∀ g, (Value.slice A' n c').ownBlock = some g → w.heap.size ≤ g := by
  have hq := fun (w : World) (A : Option Addr) (n c : Nat) => Lib.run_eql_slice_nil (P := Try.prog) w 80 116 A n c 0 0 Try.underlying80
  rcases A with _ | ad
  · obtain ⟨rfl, rfl, rfl⟩ : n = 0 ∧ c = 0 ∧ xs = [] := by
      rcases h.2 with ⟨e, h0⟩ | ⟨g, cap, cur, hv, _⟩
      · injection e with _ _ e
        subst h0
        exact ⟨rfl, e, List.eq_nil_of_length_eq_zero (by simpa using h.1)⟩
      · injection hv with hv
        cases hv
    clear h h1
    go_enter Try.func80, Try.ntmps80
    go_wp2
    go_ret
    exact ⟨none, 0, rfl, World.ownsRow_nil _ _ _ _, gb_refl _ _, fun g hg => by cases hg⟩
  · obtain ⟨i1, hi1, hiz, his, hib⟩ := info_parts Try.infoW
    have hown := own_empty w 116 3
    have hga := gb_alloc (gb_refl w none) (.cells #[] 116)
    have hr : Rd (w.alloc (.cells #[] 116)) w.heap.size (some ad) xs := (Rd.of_own h).grown hga (Nat.le_refl _) (by simp)
    have HI1 := hide hi1
    have HIZ := hide hiz
    have HIS := hide his
    have HIB := hide hib
    have HO := hide hown
    have HR := hide hr
    have HL := hide h.1
    have HC := hide h1
    have HGA := hide hga
    have HM1 : Hid (0 + n ≤ maxLen) := hide (by unfold maxLen; omega)
    have HMB : Hid ((0 + n) * 40 ≤ 140737488355328) := hide (by omega)
    clear hi1 hiz his hib hown hr h h1 hga
    go_enter Try.func80, Try.ntmps80
    go_wp2_with (at_builtin; refine wpList_append_rd _ rfl (.tmp 5) (.tmp 6) 80 rfl 0 116 i1 (.agg #[.bool false, .int .i64 0, .slice none 0 0]) 3 40 Try.underlying80 HI1.out HIZ.out HIS.out HIB.out rfl (Nat.succ_pos 2) (.slice (some ⟨w.heap.size, 0, none⟩) 0 0) 0 [] rfl HO.out w.heap.size (some ad) n c xs rfl HL.out HR.out HC.out HM1.out HMB.out (Nat.zero_le _) ?_; intro v5 w5 ho5 hg5 hb5; rw [Nat.zero_add, List.nil_append] at ho5; obtain ⟨A5, c5, rfl⟩ := own_slice ho5; have HO5 := hide ho5; have HG5 := hide hg5; have HB5 := hide hb5; clear ho5 hg5 hb5)
    go_ret
    refine ⟨A5, c5, rfl, HO5.out, gb_trans HGA.out HG5.out (.inr (.inr ⟨_, rfl, Nat.le_refl _⟩)), fun g hg => ?_⟩
    rcases HB5.out with hb | hb
    · have hb' : (Value.slice A5 n c5).ownBlock = some w.heap.size := hb
      rw [hb'] at hg
      injection hg with hg
      omega
    · rw [hb] at hg
      injection hg with hg
      have : (w.alloc (.cells #[] 116)).heap.size = w.heap.size + 1 := by simp
      omega

set_option maxHeartbeats 2000000 in
set_option maxRecDepth 100000 in
theorem clone_ch (A : Option Addr) (n c : Nat) (xs : List Value) (w : World) (h : w.ownsRow 0 67 3 (.slice A n c) n xs) (h1 : ∀ u ∈ xs, u.oneCell' = true) (hn : n ≤ 1000000) :
    Calls Try.prog 67 #[.slice A n c] w fun e w' => ∃ A' c', e = .returned (.slice A' n c') ∧ w'.ownsRow 0 67 3 (.slice A' n c') n xs ∧ w.grownBy w' none ∧ ∀ g, (Value.slice A' n c').ownBlock = some g → w.heap.size ≤ g := by
  have hq := fun (w : World) (A : Option Addr) (n c : Nat) => Lib.run_eql_slice_nil (P := Try.prog) w 62 67 A n c 0 0 Try.underlying62
  rcases A with _ | ad
  · obtain ⟨rfl, rfl, rfl⟩ : n = 0 ∧ c = 0 ∧ xs = [] := by
      rcases h.2 with ⟨e, h0⟩ | ⟨g, cap, cur, hv, _⟩
      · injection e with _ _ e
        subst h0
        exact ⟨rfl, e, List.eq_nil_of_length_eq_zero (by simpa using h.1)⟩
      · injection hv with hv
        cases hv
    clear h h1
    go_enter Try.func67, Try.ntmps67
    go_wp2
    go_ret
    exact ⟨none, 0, rfl, World.ownsRow_nil _ _ _ _, gb_refl _ _, fun g hg => by cases hg⟩
  · obtain ⟨i1, hi1, hiz, his, hib⟩ := info_parts Try.infoC
    have hown := own_empty w 67 3
    have hga := gb_alloc (gb_refl w none) (.cells #[] 67)
    have hr : Rd (w.alloc (.cells #[] 67)) w.heap.size (some ad) xs := (Rd.of_own h).grown hga (Nat.le_refl _) (by simp)
    have HI1 := hide hi1
    have HIZ := hide hiz
    have HIS := hide his
    have HIB := hide hib
    have HO := hide hown
    have HR := hide hr
    have HL := hide h.1
    have HC := hide h1
    have HGA := hide hga
    have HM1 : Hid (0 + n ≤ maxLen) := hide (by unfold maxLen; omega)
    have HMB : Hid ((0 + n) * 40 ≤ 140737488355328) := hide (by omega)
    clear hi1 hiz his hib hown hr h h1 hga
    go_enter Try.func67, Try.ntmps67
    go_wp2_with (at_builtin; refine wpList_append_rd _ rfl (.tmp 5) (.tmp 6) 62 rfl 0 67 i1 (.agg #[.string ⟨#[]⟩, .string ⟨#[]⟩, .int .i64 0]) 3 40 Try.underlying62 HI1.out HIZ.out HIS.out HIB.out rfl (Nat.succ_pos 2) (.slice (some ⟨w.heap.size, 0, none⟩) 0 0) 0 [] rfl HO.out w.heap.size (some ad) n c xs rfl HL.out HR.out HC.out HM1.out HMB.out (Nat.zero_le _) ?_; intro v5 w5 ho5 hg5 hb5; rw [Nat.zero_add, List.nil_append] at ho5; obtain ⟨A5, c5, rfl⟩ := own_slice ho5; have HO5 := hide ho5; have HG5 := hide hg5; have HB5 := hide hb5; clear ho5 hg5 hb5)
    go_ret
    refine ⟨A5, c5, rfl, HO5.out, gb_trans HGA.out HG5.out (.inr (.inr ⟨_, rfl, Nat.le_refl _⟩)), fun g hg => ?_⟩
    rcases HB5.out with hb | hb
    · have hb' : (Value.slice A5 n c5).ownBlock = some w.heap.size := hb
      rw [hb'] at hg
      injection hg with hg
      omega
    · rw [hb] at hg
      injection hg with hg
      have : (w.alloc (.cells #[] 67)).heap.size = w.heap.size + 1 := by simp
      omega

theorem wcells_one (l : List (Wr × Value)) (h : ∀ x ∈ l, x.2.oneCell' = true) : ∀ u ∈ wcells l, u.oneCell' = true := by
  intro u hu
  obtain ⟨t, ht0, ht⟩ := List.mem_flatMap.1 hu
  simp only [List.mem_cons, List.not_mem_nil, or_false] at ht
  rcases ht with rfl | rfl | rfl
  · rfl
  · rfl
  · exact h t ht0
theorem BsAt.one {w : World} {own : Nat → Prop} {v : Value} {xs : List UInt8} (h : BsAt w own v xs) : v.oneCell' = true := by
  obtain ⟨A, c, rfl, _⟩ := h.form
  rfl
theorem clone_ws (A : Option Addr) (n c : Nat) (ws : List Wr) (own rd : Nat → Prop) (w : World) (h : WsAt w own rd (.slice A n c) ws) (hn : ws.length ≤ 1000000) :
    Calls Try.prog 80 #[.slice A n c] w fun e w' => ∃ A' c', e = .returned (.slice A' n c') ∧ WsAt w' (fun i => w.heap.size ≤ i ∧ i < w'.heap.size) rd (.slice A' n c') ws ∧ w.grownBy w' none := by
  obtain ⟨l, rfl, h2, h3, h4⟩ := h
  obtain ⟨A0, c0, e0⟩ := own_slice h2
  injection e0 with e1 e2 e3
  subst e2
  rw [List.length_map] at hn
  refine (clone_wr A l.length c _ w h2 (wcells_one l fun x hx => (h4 x hx).one) hn).mono ?_
  rintro e w' ⟨A', c', rfl, k1, k2, k3⟩
  exact ⟨A', c', rfl, ⟨l, rfl, k1, fun g hg => ⟨k3 g hg, own_lt k1 g hg⟩, fun x hx => (h4 x hx).grown k2⟩, k2⟩

end Go.Proofs.Ytccapgcpdehicaa

namespace Go.Proofs.Ytccapgcpdehicaa
open Go.RowKit

theorem wpList_append_nil8 {w : World} {ops : Array Oper} {rest : List Oper} {o : Oper} {a : Act} {Q : Exit → Act → World → Prop} (hgd : o.guard = none) (s x : Operand)
    (ho : o.op = .call { callee := .builtin .append, args := #[s, x], argTypes := #[32, 32] }) {v : Value} {A : Option Addr} {c : Nat} (hs : a.eval s = v) (hx : a.eval x = .slice A 0 c)
    (hown : w.ownsRow 0 5 1 v 0 []) (hK : wpList Try.prog ops Q rest (a.put o.dst v) w) : wpList Try.prog ops Q (o :: rest) a w := by
  obtain ⟨i0, hi, _⟩ := info_parts Try.info8
  have hrun := run_append_none (P := Try.prog) w 0 32 o.type 5 i0 1 Try.underlying32 hi v 0 [] hown A c
  refine wpList_plain hgd fun K' hK' => ?_
  unfold Oper.wp execOp
  simp only [ho, resolve, invoke, builtin, Sem.run_bind, Sem.run_pure, Result.andThen_ok, List.map_toArray, List.map_cons, List.map_nil, hs, hx]
  rw [hrun]
  exact hK' _ _ hK

set_option maxHeartbeats 1000000 in
set_option maxRecDepth 100000 in
theorem clone8_own (A : Option Addr) (n c B : Nat) (bs : List UInt8) (w : World) (hr : Rd w B A (u8s bs)) (hn : n = bs.length) (hB : B ≤ w.heap.size) (hl : bs.length ≤ 1000000000) :
    Calls Try.prog 38 #[.slice A n c] w fun e w' => ∃ A' c', e = .returned (.slice A' n c') ∧ BsAt w' (fun i => w.heap.size ≤ i ∧ i < w'.heap.size) (.slice A' n c') bs ∧ w.grownBy w' none ∧ ∀ g, (Value.slice A' n c').ownBlock = some g → w.heap.size ≤ g ∧ g < w'.heap.size := by
  rcases Nat.eq_zero_or_pos bs.length with h0 | h0
  · have hb : bs = [] := List.eq_nil_of_length_eq_zero h0
    subst hb
    subst hn
    have hq := fun (w : World) (A : Option Addr) (n c : Nat) => Lib.run_eql_slice_nil (P := Try.prog) w 32 5 A n c 0 0 Try.underlying32
    have HO := hide (own_empty w 5 1)
    have HG := hide (gb_alloc (gb_refl w none) (.cells #[] 5))
    clear hr h0
    rcases A with _ | ad
    · go_enter Try.func38, Try.ntmps38
      go_wp2
      go_ret
      exact ⟨none, 0, rfl, .inl ⟨rfl, _, rfl⟩, gb_refl _ _, fun g hg => by cases hg⟩
    · go_enter Try.func38, Try.ntmps38
      go_wp2_with (at_builtin; refine wpList_append_nil8 rfl (.tmp 5) (.tmp 6) rfl rfl rfl HO.out ?_)
      go_ret
      refine ⟨_, _, rfl, .inl ⟨rfl, _, rfl⟩, HG.out, fun g hg => ?_⟩
      have hg' : some w.heap.size = some g := hg
      injection hg' with hg'
      have : (w.alloc (.cells #[] 5)).heap.size = w.heap.size + 1 := by simp
      omega
  · refine (clone8_any A n c B bs w hr hn hB hl).mono ?_
    rintro e w' ⟨A', c', rfl, hb, hg⟩
    refine ⟨A', c', rfl, hb, hg, fun g hg' => ?_⟩
    rcases hb with ⟨hx, _⟩ | ⟨_, g', cap, cur, hv, ho, _⟩
    · subst hx
      simp at h0
    · rw [hv] at hg'
      have e : some g' = some g := hg'
      injection e with e
      subst e
      exact ho

def FourAt (g : Nat) (gn : Bool) (A : Option Addr) (n c : Nat) (B : Option Addr) (m d : Nat) (W : Option Addr) (k f : Nat) (w' : World) : Prop :=
  w'.cell? ⟨g, 0, none⟩ = some (.bool gn) ∧ w'.cell? ⟨g, 1, none⟩ = some (.slice A n c) ∧ w'.cell? ⟨g, 2, none⟩ = some (.slice B m d) ∧ w'.cell? ⟨g, 4, none⟩ = some (.slice W k f)
theorem FourAt.grown {g : Nat} {gn : Bool} {A : Option Addr} {n c : Nat} {B : Option Addr} {m d : Nat} {W : Option Addr} {k f : Nat} {w w' : World} (h : FourAt g gn A n c B m d W k f w) (hg : w.grownBy w' none) : FourAt g gn A n c B m d W k f w' := by
  obtain ⟨h1, h2, h3, h4⟩ := h
  exact ⟨cell_grown h1 hg, cell_grown h2 hg, cell_grown h3 hg, cell_grown h4 hg⟩

set_option maxHeartbeats 8000000 in
set_option maxRecDepth 100000 in
theorem twin_any (g : Nat) (f : Fl) (own rd : Nat → Prop) (w : World) (h : FileAt w own rd g f) (h1 : f.bytes.length ≤ 1000000000) (h2 : f.safe.length ≤ 1000000000) (h3 : f.waits.length ≤ 1000000) :
    Calls Try.prog 66 #[.pointer (some ⟨g, 0, none⟩)] w fun e w' => ∃ g', e = .returned (.pointer (some ⟨g', 0, none⟩)) ∧ FileAt w' (fun i => w.heap.size ≤ i ∧ i < w'.heap.size) rd g' f ∧ w.grownBy w' none := by
  obtain ⟨v, hf, _, hgo, hb, hs, _, hw⟩ := h
  obtain ⟨A1, c1, e1, _, _, r1⟩ := hb.rd
  obtain ⟨B1, d1, e2, _, _, t1⟩ := hs.rd
  obtain ⟨W1, k1, e3, _, _⟩ := hw.form
  have C0 : FourAt g f.gone A1 f.bytes.length c1 B1 f.safe.length d1 W1 f.waits.length k1 w := ⟨by rw [hf.c0, hgo], by rw [hf.c1, e1], by rw [hf.c2, e2], by rw [hf.c4, e3]⟩
  rw [e3] at hw
  have HC0 := hide C0
  have HR1 := hide r1
  have HT1 := hide t1
  have HW := hide hw
  have HL1 := hide h1
  have HL2 := hide h2
  have HL3 := hide h3
  have HG0 := hide (gb_drew (gb_refl w none))
  clear hf hgo hb hs hw e1 e2 e3 r1 t1 h1 h2 h3
  obtain ⟨a0, a1, a2, a4⟩ := C0
  go_enter Try.func66, Try.ntmps66
  go_wp2
  go_region_held3 (fun w' => w'.cell? ⟨g, 0, none⟩ = some (.bool f.gone) ∧ w'.cell? ⟨g, 1, none⟩ = some (.slice A1 f.bytes.length c1) ∧ w'.cell? ⟨g, 2, none⟩ = some (.slice B1 f.safe.length d1) ∧ w'.cell? ⟨g, 4, none⟩ = some (.slice W1 f.waits.length k1))
    (first | exact HC0.out | exact HC1.out | exact HC2.out | exact HC3.out | go_keep)
    (first
    | (go_simp; go_at_call 38; (have _t := HG0); (with_reducible refine (clone8_own A1 f.bytes.length c1 w.heap.size f.bytes _ (HR1.out.at_ HG0.out) rfl HG0.out.size HL1.out).mono ?_); rintro e w1 ⟨X1, x1, rfl, hb1, hg1, ho1⟩; have HB1 := hide hb1; have HO1 := hide ho1; have HS01 := hide (show w.heap.size ≤ w1.heap.size from (gb_trans HG0.out hg1 (.inl rfl)).size); have HG1 := hide (gb_trans HG0.out hg1 (.inl rfl)); have HC1 := hide (HC0.out.grown HG1.out); clear hb1 hg1 ho1 _t HG0)
    | (go_simp; go_at_call 38; (with_reducible refine (clone8_own B1 f.safe.length d1 w.heap.size f.safe _ (HT1.out.at_ HG1.out) rfl HG1.out.size HL2.out).mono ?_); rintro e w2 ⟨X2, x2, rfl, hb2, hg2, ho2⟩; have HB2 := hide hb2; have HO2 := hide ho2; have HG12 := hide hg2; have HG2 := hide (gb_trans HG1.out hg2 (.inl rfl)); have HC2 := hide (HC0.out.grown HG2.out); clear hb2 hg2 ho2 HG1)
    | (go_simp; go_at_call 80; (refine (clone_ws W1 f.waits.length k1 f.waits own rd _ (HW.out.keep fun i _ hl => HG2.out.block i hl (by simp)) HL3.out).mono ?_); rintro e w3 ⟨X3, x3, rfl, hb3, hg3⟩; have HB3 := hide hb3; have HG23 := hide hg3; have HG3 := hide (gb_trans HG2.out hg3 (.inl rfl)); have HC3 := hide (HC0.out.grown HG3.out); clear hb3 hg3))
  go_wp2
  go_ret
  have s1 := HG12.out.size
  have s2 := HG23.out.size
  have s0 : w.heap.size ≤ w1.heap.size := by
    exact HS01.out
  have hga := gb_alloc (gb_refl w3 none) (.cells #[.bool f.gone, .slice X1 f.bytes.length x1, .slice X2 f.safe.length x2, .bool false, .slice X3 f.waits.length x3] 82)
  have hz : (w3.alloc (.cells #[.bool f.gone, .slice X1 f.bytes.length x1, .slice X2 f.safe.length x2, .bool false, .slice X3 f.waits.length x3] 82)).heap.size = w3.heap.size + 1 := by simp
  refine ⟨w3.heap.size, rfl, ⟨⟨f.gone, .slice X1 f.bytes.length x1, .slice X2 f.safe.length x2, false, .slice X3 f.waits.length x3⟩, heap_alloc_new w3 _, ⟨by omega, by rw [hz]; omega⟩, rfl, ?_, ?_, fun q h1 h2 _ => ?_, ?_⟩, gb_trans HG3.out hga (.inl rfl)⟩
  · exact (((HB1.out.grown HG12.out).grown HG23.out).grown hga).mono fun i hi => ⟨hi.1, by rw [hz]; omega⟩
  · exact ((HB2.out.grown HG23.out).grown hga).mono fun i hi => ⟨by omega, by rw [hz]; omega⟩
  · have q1 := HO1.out q h1
    have q2 := HO2.out q h2
    omega
  · exact (HB3.out.keep fun i _ hl => hga.block i hl (by simp)).mono (fun i _ hi => ⟨by omega, by rw [hz]; omega⟩) (fun _ _ h => h)

end Go.Proofs.Ytccapgcpdehicaa

namespace Go.Proofs.Ytccapgcpdehicaa
open Go.RowKit

/-- A copy under way: its block, its map of files, the files that are copied. -/
structure CopyIn (w wr : World) (L LL : Nat → Nat) (S : St) (G mN mn ms : Nat) (vch : Value) (lk : List (Int × Nat)) : Prop where
  fs : FsB wr G (S.v mN mn ms vch)
  km : MapAt encF wr mN lk
  lG : LL G = 1
  lN : LL mN = 1
  old : ∀ i, i < w.heap.size → LL i = if L i = 2 then 2 else 0
  lt : ∀ i, LL i ≠ 0 → i < wr.heap.size
  at_ : ∀ n fb, aget lk n = some fb → 0 < n ∧ ∃ f, S.files n = some f ∧ FileAt wr (fun i => LL i = n.toNat + 3) (fun i => LL i = 2) fb f
  gb : w.grownBy wr none

theorem CopyIn.step {w wr w6 w7 w8 : World} {L LL : Nat → Nat} {S : St} {G mN mn ms : Nat} {vch : Value} {lk : List (Int × Nat)} {n : Int} {g' : Nat} {f : Fl} {it : Nat} (h : CopyIn w wr L LL S G mN mn ms vch lk) (hlt : ∀ i, L i ≠ 0 → i < w.heap.size)
    (hi0 : LL it = 0) (hiw : w.heap.size ≤ it) (hN : w.heap.size ≤ mN) (hg6 : wr.grownBy w6 (some it)) (hs6 : w6.heap.size = wr.heap.size) (hn : 0 < n) (hf : S.files n = some f) (hfa : FileAt w7 (fun i => w6.heap.size ≤ i ∧ i < w7.heap.size) (fun i => L i = 2) g' f) (hg7 : w6.grownBy w7 none)
    (hm8 : MapAt encF w8 mN (aput lk n g')) (hg8 : w7.grownBy w8 (some mN)) (hs8 : w8.heap.size = w7.heap.size) : ∃ LL', CopyIn w w8 L LL' S G mN mn ms vch (aput lk n g') ∧ (∀ i, i < wr.heap.size → LL' i = LL i) := by
  have hs7 := hg7.size
  have hGl := h.fs.lt
  have hNl := h.km.lt
  have hGN : mN ≠ G := map_ne h.km h.fs
  have hGi : G ≠ it := fun e => by rw [← e, h.lG] at hi0; omega
  have hNi : mN ≠ it := fun e => by rw [← e, h.lN] at hi0; omega
  have hw0 := h.gb.size
  have st : ∀ i, i < wr.heap.size → i ≠ it → i ≠ mN → w8.heap[i]? = wr.heap[i]? := fun i hi h1 h2 =>
    ((hg8.block i (by omega) (fun e => h2 (by injection e))).trans (hg7.block i (by omega) (by simp))).trans (hg6.block i hi (fun e => h1 (by injection e)))
  refine ⟨fun i => if i < wr.heap.size then LL i else if i < w7.heap.size then n.toNat + 3 else 0, ⟨h.fs.keep (st G hGl hGi (fun e => hGN e.symm)), hm8, ?_, ?_, fun i hi => ?_, fun i hi => ?_, fun m fb hm => ?_, ?_⟩, fun i hi => if_pos hi⟩
  · rw [if_pos hGl]; exact h.lG
  · rw [if_pos hNl]; exact h.lN
  · rw [if_pos (by omega)]; exact h.old i hi
  · by_cases h1 : i < wr.heap.size
    · omega
    · by_cases h2 : i < w7.heap.size
      · omega
      · simp [h1, h2] at hi
  · rw [aget_aput] at hm
    by_cases hmn : m = n
    · rw [if_pos hmn] at hm
      injection hm with hm
      subst hm
      subst hmn
      refine ⟨hn, f, hf, (hfa.keep fun i hi hl => hg8.block i hl (fun e => ?_)).mono (fun i hl hi => ?_) (fun i hl hi => ?_)⟩
      · injection e with e
        rcases hi with hi | hi
        · omega
        · have := hlt i (by rw [hi]; decide)
          omega
      · rw [if_neg (by omega), if_pos hi.2]
      · have hil := hlt i (by rw [hi]; decide)
        rw [if_pos (by omega), h.old i hil, if_pos hi]
    · rw [if_neg hmn] at hm
      obtain ⟨hm0, f', hf', hfa'⟩ := h.at_ m fb hm
      refine ⟨hm0, f', hf', (hfa'.keep fun i hi hl => st i hl (fun e => ?_) (fun e => ?_)).mono (fun i hl hi => ?_) (fun i hl hi => ?_)⟩
      · rw [e] at hi
        rcases hi with hi | hi <;> rw [hi0] at hi <;> omega
      · rw [e] at hi
        rcases hi with hi | hi <;> rw [h.lN] at hi <;> omega
      · rw [if_pos (h.lt i (by rw [hi]; omega))]; exact hi
      · rw [if_pos (h.lt i (by rw [hi]; omega))]; exact hi
  · exact gb_trans (gb_trans (gb_trans h.gb hg6 (.inr (.inr ⟨_, rfl, hiw⟩))) hg7 (.inl rfl)) hg8 (.inr (.inr ⟨_, rfl, hN⟩))

/-- A copy of a file system. -/
def CopyPost (L : Nat → Nat) (S : St) (w : World) (e : Ending) (w' : World) : Prop :=
  ∃ g' L', e = .returned (.pointer (some ⟨g', 0, none⟩)) ∧ FsAt w' L' g' S ∧ w.grownBy w' none ∧ ∀ i, i < w.heap.size → L' i ≠ 0 → L' i = 2 ∧ L i = 2

theorem CopyIn.fin {w wr w' : World} {L LL : Nat → Nat} {S : St} {G mN mn ms mn' ms' : Nat} {vch vch' : Value} {lk : List (Int × Nat)} (h : CopyIn w wr L LL S G mN mn ms vch lk) (hT : Turned (fun i => i = G) wr w') (hfs : FsB w' G (S.v mN mn' ms' vch'))
    (hn : MapAt encN w' mn' S.names) (hs : MapAt encN w' ms' S.safe) (hc : w'.ownsRow 0 67 3 vch' S.changes.length (chcells S.changes)) (hcb : ∀ i, vch'.ownBlock = some i → wr.heap.size ≤ i)
    (h1 : wr.heap.size ≤ mn') (h2 : mn' < ms') (hGw : w.heap.size ≤ G) (hno : ∀ n, aget lk n = none → S.files n = none) : CopyPost L S w (.returned (.pointer (some ⟨G, 0, none⟩))) w' := by
  have hsz := hT.size
  have hGl := h.fs.lt
  have hNl := h.km.lt
  have hGN : mN ≠ G := map_ne h.km h.fs
  have l1 := hn.lt
  have l2 := hs.lt
  refine ⟨G, fun i => if i < wr.heap.size then LL i else if i < w'.heap.size then 1 else 0, rfl, ⟨mN, mn', ms', vch', lk, hfs, ?_, ?_, ?_, ?_, by omega, by omega, by omega, h.km.keep (hT.block mN hNl hGN), hn, hs, ⟨hc, fun i hi => ?_⟩, fun n fb hk => ?_, hno, fun i hi => ?_⟩, ⟨hT.os.trans h.gb.os, hT.tape.trans h.gb.tape, hT.output.trans h.gb.output, Nat.le_trans h.gb.size hsz, fun i hi hne => (hT.block i (Nat.lt_of_lt_of_le hi h.gb.size) (fun e => by omega)).trans (h.gb.block i hi hne)⟩, fun i hi hl => ?_⟩
  · rw [if_pos hGl]; exact h.lG
  · rw [if_pos hNl]; exact h.lN
  · rw [if_neg (by omega), if_pos l1]
  · rw [if_neg (by omega), if_pos l2]
  · have hb := hcb i hi
    have := own_lt hc i hi
    show (if i < wr.heap.size then LL i else if i < w'.heap.size then 1 else 0) = 1
    rw [if_neg (by omega), if_pos this]
  · obtain ⟨hn0, f, hf, hfa⟩ := h.at_ n fb hk
    refine ⟨hn0, f, hf, (hfa.keep fun i hi hl => hT.block i hl (fun e => ?_)).mono (fun i hl hi => ?_) (fun i hl hi => ?_)⟩
    · rw [e] at hi
      rcases hi with hi | hi <;> rw [h.lG] at hi <;> omega
    · rw [if_pos (h.lt i (by rw [hi]; omega))]; exact hi
    · rw [if_pos (h.lt i (by rw [hi]; omega))]; exact hi
  · by_cases k1 : i < wr.heap.size
    · omega
    · by_cases k2 : i < w'.heap.size
      · exact k2
      · simp [k1, k2] at hi
  · have hi' := h.gb.size
    have hl' : (if i < wr.heap.size then LL i else if i < w'.heap.size then 1 else 0) ≠ 0 := hl
    show (if i < wr.heap.size then LL i else if i < w'.heap.size then 1 else 0) = 2 ∧ L i = 2
    rw [if_pos (by omega), h.old i hi] at hl' ⊢
    by_cases h2 : L i = 2
    · exact ⟨if_pos h2, h2⟩
    · rw [if_neg h2] at hl'
      exact absurd rfl hl'

set_option maxHeartbeats 8000000 in
set_option maxRecDepth 100000 in
theorem copy_any (g : Nat) (S : St) (L : Nat → Nat) (w : World) (h : FsAt w L g S) (hF : Fine S) :
    Calls Try.prog 52 #[.pointer (some ⟨g, 0, none⟩)] w (CopyPost L S w) := by
  obtain ⟨mf, mn, ms, vch, lf, h⟩ := h
  obtain ⟨Ac, cc, rfl, hcl, hcm⟩ := h.chs.form
  have H0 := h
  have hgl := h.blk.lt
  have hml := h.files.lt
  have q0 : w.cell? ⟨g, 0, none⟩ = some (.int .i64 S.cap) := h.blk.c0
  have q1 : w.cell? ⟨g, 1, none⟩ = some (.int .i64 S.used) := h.blk.c1
  have q2 : w.cell? ⟨g, 2, none⟩ = some (.int .i64 S.last) := h.blk.c2
  have q3 : w.cell? ⟨g, 3, none⟩ = some (.map (some mf)) := h.blk.c3
  have q4 : w.cell? ⟨g, 4, none⟩ = some (.map (some mn)) := h.blk.c4
  have q5 : w.cell? ⟨g, 5, none⟩ = some (.map (some ms)) := h.blk.c5
  have q6 : w.cell? ⟨g, 6, none⟩ = some (.slice Ac S.changes.length cc) := h.blk.c6
  have q7 : w.cell? ⟨g, 7, none⟩ = some (.int .i64 S.ops) := h.blk.c7
  have q8 : w.cell? ⟨g, 8, none⟩ = some (.int .i64 S.armed) := h.blk.c8
  have q9 : w.cell? ⟨g, 9, none⟩ = some (.bool S.dead) := h.blk.c9
  have HMF := hide (H0.files.grown (gb_alloc (gb_refl w none) (.cells #[.int .i64 S.cap, .int .i64 S.used, .int .i64 S.last, .map (some mf), .map (some mn), .map (some ms), .slice Ac S.changes.length cc, .int .i64 S.ops, .int .i64 S.armed, .bool S.dead] 64)) (by simp))
  have hga2 : w.grownBy ((w.alloc (.cells #[.int .i64 S.cap, .int .i64 S.used, .int .i64 S.last, .map (some (w.heap.size + 1)), .map (some mn), .map (some ms), .slice Ac S.changes.length cc, .int .i64 S.ops, .int .i64 S.armed, .bool S.dead] 64)).alloc (.map #[] 0)) none := gb_alloc (gb_alloc (gb_refl w none) _) _
  have HMF2 := hide (H0.files.grown hga2 (by simp))
  have hz2 : ((w.alloc (.cells #[.int .i64 S.cap, .int .i64 S.used, .int .i64 S.last, .map (some (w.heap.size + 1)), .map (some mn), .map (some ms), .slice Ac S.changes.length cc, .int .i64 S.ops, .int .i64 S.armed, .bool S.dead] 64)).alloc (.map #[] 0)).heap.size = w.heap.size + 2 := by simp
  have HC0 : Hid (CopyIn w ((w.alloc (.cells #[.int .i64 S.cap, .int .i64 S.used, .int .i64 S.last, .map (some (w.heap.size + 1)), .map (some mn), .map (some ms), .slice Ac S.changes.length cc, .int .i64 S.ops, .int .i64 S.armed, .bool S.dead] 64)).alloc (.map #[] 0)) L (fun i => if i < w.heap.size then (if L i = 2 then 2 else 0) else if i < w.heap.size + 2 then 1 else 0) S w.heap.size (w.heap.size + 1) mn ms (.slice Ac S.changes.length cc) []) := hide (by
    refine ⟨?_, ?_, ?_, ?_, fun i hi => if_pos hi, fun i hi => ?_, (fun n fb hk => by cases hk), hga2⟩
    · exact (heap_alloc_old _ _ (by simp)).trans (heap_alloc_new w _)
    · have := MapAt.made (E := encF) (w.alloc (.cells #[.int .i64 S.cap, .int .i64 S.used, .int .i64 S.last, .map (some (w.heap.size + 1)), .map (some mn), .map (some ms), .slice Ac S.changes.length cc, .int .i64 S.ops, .int .i64 S.armed, .bool S.dead] 64))
      have e : (w.alloc (.cells #[.int .i64 S.cap, .int .i64 S.used, .int .i64 S.last, .map (some (w.heap.size + 1)), .map (some mn), .map (some ms), .slice Ac S.changes.length cc, .int .i64 S.ops, .int .i64 S.armed, .bool S.dead] 64)).heap.size = w.heap.size + 1 := by simp
      rw [e] at this
      exact this
    · show (if w.heap.size < w.heap.size then _ else if w.heap.size < w.heap.size + 2 then 1 else 0) = 1
      rw [if_neg (by omega), if_pos (by omega)]
    · show (if w.heap.size + 1 < w.heap.size then _ else if w.heap.size + 1 < w.heap.size + 2 then 1 else 0) = 1
      rw [if_neg (by omega), if_pos (by omega)]
    · rw [hz2]
      by_cases k1 : i < w.heap.size
      · omega
      · by_cases k2 : i < w.heap.size + 2
        · exact k2
        · simp [k1, k2] at hi)
  have HZ2 := hide hz2
  have hmk := fun (w : World) (n : Int) => run_mkmap (P := Try.prog) w 60 3 79 n Try.underlying60
  have H := hide H0
  clear h hga2 hz2 H0
  go_enter Try.func52, Try.ntmps52
  go_wp2_with (first
    | (at_len; refine wpList_mlen (E := encF) _ rfl _ 60 rfl 3 79 Try.underlying60 mf lf rfl HMF.out ?_)
    | (at_range; refine wpList_rng (E := encF) _ rfl _ 60 rfl 3 79 Try.underlying60 mf lf rfl HMF2.out ?_; intro w5 hit hg5 hs5; clear q0 q1 q2 q3 q4 q5 q6 q7 q8 q9 hmk))
  rw [HZ2.out] at hit hs5 ⊢
  have HIT := hide hit
  have HC5 : Hid (∃ LL, CopyIn w w5 L LL S w.heap.size (w.heap.size + 1) mn ms (.slice Ac S.changes.length cc) [] ∧ LL (w.heap.size + 2) = 0) := hide ⟨_, ⟨HC0.out.fs.keep (hg5.block _ HC0.out.fs.lt (by simp)), HC0.out.km.grown hg5 (by simp), HC0.out.lG, HC0.out.lN, HC0.out.old, fun i hi => Nat.lt_of_lt_of_le (HC0.out.lt i hi) hg5.size, (fun n fb hk => by cases hk), gb_trans HC0.out.gb hg5 (.inl rfl)⟩, by
    show (if w.heap.size + 2 < w.heap.size then _ else if w.heap.size + 2 < w.heap.size + 2 then 1 else 0) = 0
    rw [if_neg (by omega), if_neg (by omega)]⟩
  clear hit hg5 HC0 HMF HMF2
  go_frame
  have HLT := hide H.out.lt
  have HFI := hide hF.files
  have HFC := hide hF.chs
  clear hF
  go_loopw [4] (fun _ wr => ∃ (todo done : List (Int × Nat)) (lk : List (Int × Nat)) (LL : Nat → Nat), IterAt encF wr mf (w.heap.size + 2) lf todo ∧ (done ++ todo).Perm lf ∧ CopyIn w wr L LL S w.heap.size (w.heap.size + 1) mn ms (.slice Ac S.changes.length cc) lk ∧ LL (w.heap.size + 2) = 0 ∧ ∀ n, aget lk n = none → ∀ x ∈ done, x.1 ≠ n) (fun _ wr => wr.rangeLeft mf (w.heap.size + 2))
  case atStart =>
    obtain ⟨LL, h1, h2⟩ := HC5.out
    exact ⟨lf, [], [], LL, HIT.out, by simp, h1, h2, (fun n _ x hx => by cases hx)⟩
  case round =>
    obtain ⟨todo, done, lk, LL, hit, hperm, hc, hl0, hno⟩ := hrel
    have HI := hide hit
    have HP := hide hperm
    have HC := hide hc
    have HL0 := hide hl0
    have HNO := hide hno
    clear hit hperm hc hl0 hno HC5 HIT
    go_wp2_with (first
      | (at_next; refine wpList_nxt (E := encF) _ rfl (.tmp 22) rfl mf (w.heap.size + 2) lf todo rfl HI.out ?_ ?_))
    · intro h0
      subst h0
      have hp := HP.out
      rw [List.append_nil] at hp
      have hfin : ∀ n, aget lk n = none → S.files n = none := fun n hn => by
        refine H.out.no n ?_
        cases hx : aget lf n with
        | none => rfl
        | some fb => exact absurd rfl (HNO.out n hn (n, fb) (hp.mem_iff.2 (aget_in hx)))
      have HFN := hide hfin
      clear hfin hp
      have c4 : wr.cell? ⟨g, 4, none⟩ = some (.map (some mn)) := cell_grown H.out.blk.c4 HC.out.gb
      have HN0 := hide (H.out.names.grown HC.out.gb (by simp))
      have hGl := HC.out.fs.lt
      have hgG : g ≠ w.heap.size := by omega
      have hGg : w.heap.size ≠ g := fun e => hgG e.symm
      go_wp2_with fail
      refine (mclone_any mn S.names _ HN0.out).mono ?_
      rintro e w6 ⟨rfl, hm6, hg6, hs6⟩
      have HB6 : Hid (FsB w6 w.heap.size (S.v (w.heap.size + 1) mn ms (.slice Ac S.changes.length cc))) := hide (HC.out.fs.keep (hg6.block _ hGl (by simp)))
      have k4 : w6.cell? ⟨w.heap.size, 4, none⟩ = some (.map (some mn)) := HB6.out.c4
      have f4 := HB6.out.fr 4
      have hgw6 : w.grownBy (w6.setCell ⟨w.heap.size, 4, none⟩ (.map (some wr.heap.size))) none := gb_setCell (gb_trans HC.out.gb hg6 (.inl rfl)) (.inr (Nat.le_refl _)) _
      have c5 : (w6.setCell ⟨w.heap.size, 4, none⟩ (.map (some wr.heap.size))).cell? ⟨g, 5, none⟩ = some (.map (some ms)) := cell_grown H.out.blk.c5 hgw6
      have HG7 := hide hgw6
      have HM7 := hide (hm6.setCell (p := ⟨w.heap.size, 4, none⟩) (fun e => by have e' : w.heap.size = wr.heap.size := e; omega) (.map (some wr.heap.size)))
      have HB7 := hide (HB6.out.set4 wr.heap.size)
      have HT7 := hide (show Turned (fun i => i = w.heap.size) wr (w6.setCell ⟨w.heap.size, 4, none⟩ (.map (some wr.heap.size))) from (Turned.of_gb (M := fun i => i = w.heap.size) hg6 (by simp)).trans (Turned.of_gb (M := fun i => i = w.heap.size) (gb_set (gb_refl w6 (some w.heap.size)) 4 (.map (some wr.heap.size))) (fun i e => by injection e with e; exact e.symm)) (fun i _ h => h))
      have HS7 : Hid ((w6.setCell ⟨w.heap.size, 4, none⟩ (.map (some wr.heap.size))).heap.size = wr.heap.size + 1) := hide (by simp [World.setCell, hs6])
      clear hm6 hg6 hs6 hgw6 HB6
      go_wp2_with fail
      clear c4 k4 f4 c5
      generalize w6.setCell ⟨w.heap.size, 4, none⟩ (.map (some wr.heap.size)) = w7 at *
      refine (mclone_any ms S.safe w7 (H.out.safe.grown HG7.out (by simp))).mono ?_
      rintro e w8 ⟨rfl, hm8, hg8, hs8⟩
      have HB8 : Hid (FsB w8 w.heap.size (S.v (w.heap.size + 1) wr.heap.size ms (.slice Ac S.changes.length cc))) := hide (HB7.out.keep (hg8.block _ HB7.out.lt (by simp)))
      have k5 : w8.cell? ⟨w.heap.size, 5, none⟩ = some (.map (some ms)) := HB8.out.c5
      have f5 := HB8.out.fr 5
      have hgw8 : w.grownBy (w8.setCell ⟨w.heap.size, 5, none⟩ (.map (some w7.heap.size))) none := gb_setCell (gb_trans HG7.out hg8 (.inl rfl)) (.inr (Nat.le_refl _)) _
      have c6 : (w8.setCell ⟨w.heap.size, 5, none⟩ (.map (some w7.heap.size))).cell? ⟨g, 6, none⟩ = some (.slice Ac S.changes.length cc) := cell_grown H.out.blk.c6 hgw8
      have HG9 := hide hgw8
      have h7l := HM7.out.lt
      have HM9 := hide ((HM7.out.grown hg8 (by simp)).setCell (p := ⟨w.heap.size, 5, none⟩) (fun e => by have e' : w.heap.size = wr.heap.size := e; omega) (.map (some w7.heap.size)))
      have HMS9 := hide (hm8.setCell (p := ⟨w.heap.size, 5, none⟩) (fun e => by have e' : w.heap.size = w7.heap.size := e; have := HS7.out; omega) (.map (some w7.heap.size)))
      have HB9 := hide (HB8.out.set5 w7.heap.size)
      have HT9 := hide (HT7.out.trans (show Turned (fun i => i = w.heap.size) w7 (w8.setCell ⟨w.heap.size, 5, none⟩ (.map (some w7.heap.size))) from (Turned.of_gb (M := fun i => i = w.heap.size) hg8 (by simp)).trans (Turned.of_gb (M := fun i => i = w.heap.size) (gb_set (gb_refl w8 (some w.heap.size)) 5 (.map (some w7.heap.size))) (fun i e => by injection e with e; exact e.symm)) (fun i _ h => h)) (fun i _ h => h))
      have HS9 : Hid ((w8.setCell ⟨w.heap.size, 5, none⟩ (.map (some w7.heap.size))).heap.size = wr.heap.size + 2) := hide (by have := HS7.out; simp [World.setCell, hs8]; omega)
      clear hm8 hg8 hs8 hgw8 HB8 h7l
      go_wp2_with fail
      clear k5 f5 c6
      generalize w8.setCell ⟨w.heap.size, 5, none⟩ (.map (some w7.heap.size)) = w9 at *
      refine (clone_ch Ac S.changes.length cc (chcells S.changes) w9 (own_keep H.out.chs.1 fun i _ hl => HG9.out.block i hl (by simp)) (fun u hu => by
        obtain ⟨t, _, ht⟩ := List.mem_flatMap.1 hu
        exact ch_cells t u ht) HFC.out).mono ?_
      rintro e w10 ⟨A10, c10, rfl, ho10, hg10, hb10⟩
      have HB10 : Hid (FsB w10 w.heap.size (S.v (w.heap.size + 1) wr.heap.size w7.heap.size (.slice Ac S.changes.length cc))) := hide (HB9.out.keep (hg10.block _ HB9.out.lt (by simp)))
      have k6 : w10.cell? ⟨w.heap.size, 6, none⟩ = some (.slice Ac S.changes.length cc) := HB10.out.c6
      have f6 := HB10.out.fr 6
      have HO10 := hide ho10
      have HG10 := hide hg10
      have HBB := hide hb10
      clear ho10 hg10 hb10
      go_wp2_with fail
      go_ret
      have hs9 := HS9.out
      have hs7 := HS7.out
      have hz := HG10.out.size
      have hT : Turned (fun i => i = w.heap.size) w9 (w10.setCell ⟨w.heap.size, 6, none⟩ (.slice A10 S.changes.length c10)) := (Turned.of_gb (M := fun i => i = w.heap.size) HG10.out (by simp)).trans (Turned.of_gb (M := fun i => i = w.heap.size) (gb_set (gb_refl w10 (some w.heap.size)) 6 (.slice A10 S.changes.length c10)) (fun i e => by injection e with e; exact e.symm)) (fun i _ h => h)
      refine HC.out.fin (HT9.out.trans hT (fun i _ h => h)) (HB10.out.set6 _) ((HM9.out.grown HG10.out (by simp)).setCell (p := ⟨w.heap.size, 6, none⟩) (fun e => by have e' : w.heap.size = wr.heap.size := e; omega) _) ((HMS9.out.grown HG10.out (by simp)).setCell (p := ⟨w.heap.size, 6, none⟩) (fun e => by have e' : w.heap.size = w7.heap.size := e; omega) _)
        (own_other HO10.out (gb_set (gb_refl w10 (some w.heap.size)) 6 _) HB10.out (by decide)) (fun i hi => by have := HBB.out i hi; omega) (Nat.le_refl _) (by show wr.heap.size < w7.heap.size; omega) (Nat.le_refl _) HFN.out
    · intro j xa xm w6 hx hit6 hg6 hs6 hen
      obtain ⟨x, hxe⟩ : ∃ x : Int × Nat, x = (xa, xm) := ⟨_, rfl⟩
      rw [← hxe] at hx
      obtain rfl : xa = x.1 := by rw [hxe]
      obtain rfl : xm = x.2 := by rw [hxe]
      clear hxe
      have hxl : x ∈ lf := HP.out.mem_iff.1 (List.mem_append_right _ (List.mem_of_getElem? hx))
      obtain ⟨hn0, f, hf, hfa⟩ := H.out.at_ x.1 x.2 (aget_mem H.out.files.nodup hxl)
      have hgw : w.grownBy w6 none := gb_trans HC.out.gb hg6 (.inr (.inr ⟨_, rfl, by omega⟩))
      have hfi := HFI.out _ f hf
      have hen' : (Instr.entry (.pointer (some ⟨w.heap.size + 2, 0, none⟩))).run Try.prog w6 = .ok (.tuple #[.int .i64 x.1, .pointer (some ⟨x.2, 0, none⟩)]) w6 := hen
      have hGl := HC.out.fs.lt
      have hGi : w.heap.size ≠ w.heap.size + 2 := by omega
      have HB6 : Hid (FsB w6 w.heap.size (S.v (w.heap.size + 1) mn ms (.slice Ac S.changes.length cc))) := hide (HC.out.fs.keep (hg6.block _ hGl (fun e => by injection e with e; omega)))
      have k3 : w6.cell? ⟨w.heap.size, 3, none⟩ = some (.map (some (w.heap.size + 1))) := HB6.out.c3
      have HK6 := hide (HC.out.km.grown hg6 (fun e => by injection e with e; omega))
      have HTW := hide (twin_any x.2 f _ _ w6.drew (hfa.grown (gb_drew hgw)) (by omega) (by omega) hfi.2.2)
      have HI6 := hide hit6
      have HX := hide hx
      have HG6 := hide hg6
      have HS6 := hide hs6
      have HN0 := hide hn0
      have HF := hide hf
      clear hit6 hx hg6 hen hfa hfi hf hn0 hgw hxl
      go_wp2_with fail
      go_region_held3 (fun w' => w'.cell? ⟨w.heap.size, 3, none⟩ = some (.map (some (w.heap.size + 1)))) (first | exact k3 | exact k37 | exact k38 | go_keep)
        ((go_simp; go_at_call 66; refine HTW.out.mono ?_; rintro e w7 ⟨g', rfl, hfa7, hg7⟩; have HFA := hide hfa7; have HG7 : Hid (w6.grownBy w7 none) := hide ⟨hg7.os, hg7.tape, hg7.output, hg7.size, hg7.block⟩; have k37 : w7.cell? ⟨w.heap.size, 3, none⟩ = some (.map (some (w.heap.size + 1))) := cell_grown k3 HG7.out; obtain ⟨w8, hrun, hm8, hg8, hs8⟩ := MapAt.update (P := Try.prog) (E := encF) (w := w7) (HK6.out.grown HG7.out (by simp)) Try.underlying3 Try.underlying60 x.1 g'; have hrun' : (Instr.mapUpdate 60 (.map (some (w.heap.size + 1))) (.int .i64 x.1) (.pointer (some ⟨g', 0, none⟩))).run Try.prog w7 = .ok () w8 := hrun; have k38 : w8.cell? ⟨w.heap.size, 3, none⟩ = some (.map (some (w.heap.size + 1))) := (HB6.out.keep ((hg8.block _ (Nat.lt_of_lt_of_le HB6.out.lt HG7.out.size) (fun e => by injection e with e; omega)).trans (HG7.out.block _ HB6.out.lt (by simp)))).c3; have HM8 := hide hm8; have HG8 := hide hg8; have HS8 := hide hs8; clear hfa7 hg7 hrun hm8 hg8 hs8))
      clear k3 k37 k38 hrun'
      obtain ⟨LL', hc', hsame⟩ := HC.out.step HLT.out HL0.out (by omega) (by omega) HG6.out HS6.out HN0.out HF.out HFA.out HG7.out HM8.out HG8.out HS8.out
      have hit8 := (HI6.out.grown HG7.out (by simp) (by simp)).grown HG8.out (fun e => by injection e with e; omega) (fun e => by injection e with e; omega)
      go_roundw
      case rel =>
        have hrel8 : ∃ (todo done : List (Int × Nat)) (lk : List (Int × Nat)) (LL : Nat → Nat), IterAt encF w8 mf (w.heap.size + 2) lf todo ∧ (done ++ todo).Perm lf ∧ CopyIn w w8 L LL S w.heap.size (w.heap.size + 1) mn ms (.slice Ac S.changes.length cc) lk ∧ LL (w.heap.size + 2) = 0 ∧ ∀ n, aget lk n = none → ∀ x ∈ done, x.1 ≠ n := by
          refine ⟨_, done ++ [x], _, LL', hit8, perm_done HP.out HX.out, hc', ?_, fun n hn y hy => ?_⟩
          · rw [hsame _ HI.out.lt]
            exact HL0.out
          · rw [aget_aput] at hn
            by_cases hnx : n = x.1
            · rw [if_pos hnx] at hn; cases hn
            · rw [if_neg hnx] at hn
              rcases List.mem_append.1 hy with hy | hy
              · exact HNO.out n hn y hy
              · rw [List.mem_singleton] at hy
                rw [hy]
                exact fun e => hnx e.symm
        repeat apply Exists.intro
        exact ⟨hrel8, rfl⟩
      case measure =>
        rw [hit8.left, HI.out.left, List.length_eraseIdx]
        have := (List.getElem?_eq_some_iff.1 HX.out).1
        split <;> omega

end Go.Proofs.Ytccapgcpdehicaa
