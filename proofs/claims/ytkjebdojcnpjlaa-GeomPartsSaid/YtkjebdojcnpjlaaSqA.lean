/- A set with a span, by the document: the contract of its Add. Condition: the slice reads as spans that may be. -/
import Derived.Test.YtkjebdojcnpjlaaSqB
namespace Go.Proofs.Ytkjebdojcnpjlaa.SqA
open Go.RowKit MSep MSepC MSpM SpA SqB

theorem take_snoc {xs : List Sp} {k : Nat} {s : Sp} (h : xs[k]? = some s) : xs.take (k + 1) = xs.take k ++ [s] := by
  rw [List.take_add_one, h]
  rfl
theorem own_sp {w : World} {ops : Array Oper} {rest : List Oper} {o : Oper} {a : Act} {Q : Exit → Act → World → Prop} (hgd : o.guard = none) (s x : Operand)
    (ho : o.op = .call { callee := .builtin .append, args := #[s, x], argTypes := #[33, 33] })
    (B g0 : Nat) (hs : a.eval s = .slice (some ⟨g0, 0, none⟩) 0 0) (hown : Out B w (.slice (some ⟨g0, 0, none⟩) 0 0) [])
    (A : Option Addr) (m c : Nat) (news : List Sp) (hx : a.eval x = .slice A m c) (hr : RdS w A m news) (hlim : m ≤ 4000000000000) (hbase : B ≤ w.heap.size)
    (h : ∀ g c' w', g < w'.heap.size → B ≤ g → m ≤ c' → c' ≤ maxLen → RdS w' (some ⟨g, 0, none⟩) m news → Fr (fun q => q = g0) w w' → wpList Try.prog ops Q rest (a.put o.dst (.slice (some ⟨g, 0, none⟩) m c')) w') :
    wpList Try.prog ops Q (o :: rest) a w := by
  obtain ⟨i0, z0, hi, hz0, hz1, hz2, hz3⟩ := info23
  refine wpList_plain hgd fun K hK => ?_
  have key : ∃ v' w', (Builtin.append_ #[33, 33] o.type #[.slice (some ⟨g0, 0, none⟩) 0 0, .slice A m c]).run Try.prog w = .ok v' w' ∧ Out B w' v' news ∧ Fr (fun q => q = g0) w w' ∧ v'.ownBlock ≠ none := by
    by_cases h0 : m = 0 ∧ A = none
    · obtain ⟨rfl, rfl⟩ := h0
      have hn : news = [] := List.eq_nil_of_length_eq_zero hr.1
      subst hn
      refine ⟨.slice (some ⟨g0, 0, none⟩) 0 0, w, ?_, hown, Fr.refl _ _, by simp [Value.ownBlock]⟩
      simp [Builtin.append_, run_underlying Try.underlying33, sizeOf, typeInfo, hi, Builtin.lenOf, Builtin.firstCells, storeCells]
    · obtain ⟨ad, rfl, hc⟩ : ∃ ad, A = some ad ∧ ∀ j u, (cs2 news)[j]? = some u → w.cell? (ad.add j) = some u := by
        rcases Nat.eq_zero_or_pos m with hm | hm
        · subst hm
          have hn : news = [] := List.eq_nil_of_length_eq_zero hr.1
          subst hn
          cases A with
          | none => exact absurd ⟨rfl, rfl⟩ h0
          | some ad => exact ⟨ad, rfl, fun j u hu => by simp [cs2_nil] at hu⟩
        · obtain ⟨g, o, rfl, _, hc⟩ := hr.2.2 (by omega)
          refine ⟨_, rfl, fun j u hu => ?_⟩
          rw [add_off]
          exact hc j u hu
      obtain ⟨v', w', hrun, h2, h3, _, h5⟩ := run_append_own_at (P := Try.prog) w B 33 o.type 31 i0 z0 2 16 Try.underlying33 hi hz0 hz1 hz2 hz3 (by decide) (.slice (some ⟨g0, 0, none⟩) 0 0) 0 (cs2 []) hown ad m c (cs2 news) hr.2.1 hc cs2_one (by simp only [maxLen]; omega) (by omega) hbase
      refine ⟨v', w', hrun, ?_, (Fr.refl _ _).grown h3 (fun k hk _ => ?_), ?_⟩
      · unfold Out
        rw [hr.1]
        simpa [cs2_nil] using h2
      · simpa [Value.ownBlock] using hk.symm
      · rcases h5 with h5 | h5 <;> rw [h5] <;> simp [Value.ownBlock]
  obtain ⟨v', w', hrun, o1, f1, hne⟩ := key
  unfold Oper.wp execOp
  simp only [ho, resolve, invoke, builtin, Sem.run_bind, Sem.run_pure, Result.andThen_ok, List.map_toArray, List.map_cons, List.map_nil, hs, hx, hrun]
  have hrd := o1
  rcases o1.2 with ⟨rfl, _⟩ | ⟨g, cap, cur, rfl, hb, hh, hnc, hcm, _⟩
  · simp [Value.ownBlock] at hne
  · have hlen : news.length = m := hr.1
    rw [hlen] at hnc hrd ⊢
    exact hK _ _ (h g cap w' (Array.getElem?_eq_some_iff.1 hh).1 hb hnc hcm hrd.rd f1)

def RaI (w : World) (xs : List Sp) (a n : Int) (l : Nat) (f t v d i : Value) (wr : World) : Prop :=
  ∃ (k : Nat) (st : (Int × Int) × List Sp × Bool) (A : Option Addr) (c : Nat), k ≤ l ∧ i = .int .i64 k ∧ (xs.take k).foldl raStep ((a, a + n), [], false) = st ∧ f = .int .i64 st.1.1 ∧ t = .int .i64 st.1.2 ∧ d = .bool st.2.2 ∧ v = .slice A st.2.1.length c ∧
    Out (w.heap.size + 1) wr v st.2.1 ∧ Fr No w wr ∧ 0 ≤ st.1.1 ∧ st.1.1 ≤ st.1.2 ∧ st.1.2 ≤ 1099511627776 ∧ st.2.1.length ≤ 2 * k ∧ w.heap.size + 1 ≤ wr.heap.size
theorem fold_snoc {xs : List Sp} {k : Nat} {s : Sp} {st st0 : (Int × Int) × List Sp × Bool} (h : xs[k]? = some s) (e : (xs.take k).foldl raStep st0 = st) : (xs.take (k + 1)).foldl raStep st0 = raStep st s := by
  rw [take_snoc h, List.foldl_append, e]
  rfl
set_option maxRecDepth 100000 in
theorem rAdd_ok (A : Option Addr) (l c : Nat) (xs : List Sp) (a n : Int) (w : World) (hl : l ≤ 100000) (hx : RdS w A l xs) (hr : ∀ s ∈ xs, may s) (hs : may (a, n)) : Calls Try.prog 17 #[.slice A l c, .agg #[.int .i64 a, .int .i64 n]] w fun e w' =>
    RetS w w' e (radd xs (a, n)) := by
  have HX := hid hx
  have HR := hid hr
  have FW := hid (fr1 w (.cells #[.int .i64 a, .int .i64 n] 31))
  have BX := hid (Blk.new w 31 #[.int .i64 a, .int .i64 n])
  have c0 := BX.out.cell 0
  have c1 := BX.out.cell 1
  simp only [List.getElem?_toArray, List.getElem?_cons_zero, List.getElem?_cons_succ] at c0 c1
  unfold may at hs
  simp only [] at hs
  obtain ⟨L, hL⟩ : ∃ L, radd xs (a, n) = L := ⟨_, rfl⟩
  rw [hL]
  have HL := hid hL
  clear hx hr hL
  by_cases hn0 : n = 0
  · have hnb : (n == 0) = true := by simp [hn0]
    have E := hid (show xs = L by rw [← HL.out, radd, if_pos hn0])
    clear hn0
    go_enter Try.func17, Try.ntmps17
    go_wp2
    go_ret
    exact .mk (by rw [← E.out]; exact HX.out.fr FW.out) FW.out
  · have hnb : (n == 0) = false := by simp [hn0]
    have E := hid (show raEnd (xs.foldl raStep ((a, a + n), [], false)) = L by rw [← HL.out, radd, if_neg hn0])
    have han : wrap64 (a + n) = a + n := w64 _ (by omega)
    have han2 : IntKind.i64.wrap (a + n) = a + n := by rw [IntKind.wrap_i64]; omega
    clear hn0 HL
    go_enter Try.func17, Try.ntmps17
    go_wp2_with fail
    have FW := kd FW
    refine wp_region_noPanic ?_
    refine wp_region_held_drew (S := (fun W' => W'.cell? ⟨w.heap.size, 0, none⟩ = some (.int .i64 a) ∧ W'.cell? ⟨w.heap.size, 1, none⟩ = some (.int .i64 n) ∧ Hid (Fr No w W'))) (by kernel_rfl) ?_ (fun hHeld => ?_)
    · (try dsimp only); (first | (go_split_ands; exact ⟨kc f (by assumption), kc f (by assumption), by assumption⟩) | (go_split_ands; exact ⟨(by assumption), (by assumption), by assumption⟩) | (go_split_ands; exact ⟨kc (fr1 _ _) (by assumption), kc (fr1 _ _) (by assumption), kfa (by assumption)⟩))
    refine wpAnyH_take (i := 0) (v := ?v1) rfl (by kernel_rfl) (by kernel_rfl) (by kernel_rfl) (fun _ _ _ h => h) (Or.inl ⟨by kernel_rfl, ?y1⟩) (by assumption) ?_
    case y1 => (intro w hSw; (try dsimp only at hSw); go_simp; all_goals with_reducible rfl)
    try simp only [Act.put, List.getElem_toArray, List.getElem_cons_zero, List.setIfInBounds_toArray, List.set_cons_zero, List.set_cons_succ]
    refine wpAnyH_take (i := 1) (v := ?v2) rfl (by kernel_rfl) (by kernel_rfl) (by kernel_rfl) (fun _ _ _ h => h) (Or.inl ⟨by kernel_rfl, ?y2⟩) (by assumption) ?_
    case y2 => (intro w hSw; (try dsimp only at hSw); go_simp; all_goals with_reducible rfl)
    try simp only [Act.put, List.getElem_toArray, List.getElem_cons_succ, List.getElem_cons_zero, List.setIfInBounds_toArray, List.set_cons_zero, List.set_cons_succ]
    refine wpAnyH_take (i := 2) (v := ?v3) rfl (by kernel_rfl) (by kernel_rfl) (by kernel_rfl) (fun _ _ _ h => h) (Or.inl ⟨by kernel_rfl, ?y3⟩) (by assumption) ?_
    case y3 => (intro w hSw; (try dsimp only at hSw); go_simp; all_goals with_reducible rfl)
    try simp only [Act.put, List.getElem_toArray, List.getElem_cons_succ, List.getElem_cons_zero, List.setIfInBounds_toArray, List.set_cons_zero, List.set_cons_succ]
    refine wpAnyH_take (i := 3) (v := ?v4) rfl (by kernel_rfl) (by kernel_rfl) (by kernel_rfl) (fun _ _ _ h => h) (Or.inl ⟨by kernel_rfl, ?y4⟩) (by assumption) ?_
    case y4 => (intro w hSw; (try dsimp only at hSw); go_simp; all_goals with_reducible rfl)
    try simp only [Act.put, List.getElem_toArray, List.getElem_cons_succ, List.getElem_cons_zero, List.setIfInBounds_toArray, List.set_cons_zero, List.set_cons_succ]
    refine wpAnyH_take (i := 4) (v := ?v5) rfl (by kernel_rfl) (by kernel_rfl) (by kernel_rfl) (fun _ _ _ h => h) (Or.inl ⟨by kernel_rfl, ?y5⟩) (by assumption) ?_
    case y5 => (intro w hSw; (try dsimp only at hSw); go_simp; all_goals with_reducible rfl)
    try simp only [Act.put, List.getElem_toArray, List.getElem_cons_succ, List.getElem_cons_zero, List.setIfInBounds_toArray, List.set_cons_zero, List.set_cons_succ]
    refine wpAnyH_take (i := 5) (v := ?v6) rfl (by kernel_rfl) (by kernel_rfl) (by kernel_rfl) (fun _ _ _ h => h) (Or.inl ⟨by kernel_rfl, ?y6⟩) (by assumption) ?_
    case y6 => (intro w hSw; (try dsimp only at hSw); go_simp; all_goals with_reducible rfl)
    try simp only [Act.put, List.getElem_toArray, List.getElem_cons_succ, List.getElem_cons_zero, List.setIfInBounds_toArray, List.set_cons_zero, List.set_cons_succ]
    refine wpAnyH_take (i := 6) (v := (.int .i64 (a + n))) rfl (by kernel_rfl) (by kernel_rfl) (by kernel_rfl) (fun _ _ _ h => h) (Or.inl ⟨by kernel_rfl, fun w hSw => by first | (go_simp; done) | (go_simp; with_reducible rfl) | (go_simp; omega)⟩) (by assumption) ?_
    try simp only [Act.put, List.getElem_toArray, List.getElem_cons_succ, List.getElem_cons_zero, List.setIfInBounds_toArray, List.set_cons_zero, List.set_cons_succ]
    refine wpAnyH_take (i := 7) (v := ?v7) rfl (by kernel_rfl) (by kernel_rfl) (by kernel_rfl) (fun _ _ _ h => h) (Or.inl ⟨by kernel_rfl, ?y7⟩) (by assumption) ?_
    case y7 => (intro w hSw; (try dsimp only at hSw); go_simp; all_goals with_reducible rfl)
    try simp only [Act.put, List.getElem_toArray, List.getElem_cons_succ, List.getElem_cons_zero, List.setIfInBounds_toArray, List.set_cons_zero, List.set_cons_succ]
    refine wpAnyH_take (i := 8) (v := ?v8) rfl (by kernel_rfl) (by kernel_rfl) (by kernel_rfl) (fun _ _ _ h => h) (Or.inl ⟨by kernel_rfl, ?y8⟩) (by assumption) ?_
    case y8 => (intro w hSw; (try dsimp only at hSw); go_simp; all_goals with_reducible rfl)
    try simp only [Act.put, List.getElem_toArray, List.getElem_cons_succ, List.getElem_cons_zero, List.setIfInBounds_toArray, List.set_cons_zero, List.set_cons_succ]
    refine wpAnyH_done (by kernel_rfl) ?_ _
    refine NoPanic.normal ?_
    have HZ := hid (show w.heap.size + 1 ≤ (w.alloc (.cells #[.int .i64 a, .int .i64 n] 31)).drew.heap.size by simp)
    go_wp2
    go_loopw [5, 6, 7, 8, 9] (fun f t v d i wr => RaI w xs a n l f t v d i wr) (fun _ _ _ _ i _ => l - (intOf i).toNat)
    case atStart => exact ⟨0, ((a, a + n), [], false), none, 0, by omega, rfl, rfl, rfl, rfl, rfl, rfl, Out.nil _ _, FW.out, by simp only []; omega, by simp only []; omega, by simp only []; omega, by simp, HZ.out⟩
    case round =>
      obtain ⟨k, ⟨⟨fr, to⟩, out, dn⟩, Av, cv, hk, rfl, hst, rfl, rfl, rfl, rfl, ho, hf, h0, h1, h2, h3, h4⟩ := hrel
      simp only [] at ho h0 h1 h2 h3
      by_cases hlt : k < l
      · have hk1 : k < xs.length := by rw [HX.out.1]; exact hlt
        obtain ⟨⟨b, m⟩, hx⟩ : ∃ x, xs[k]? = some x := ⟨_, List.getElem?_eq_getElem hk1⟩
        have HXk := hid hx
        have hmb := HR.out _ (List.mem_of_getElem? hx)
        have HST := hid (fold_snoc hx hst)
        obtain ⟨g, o, rfl, hg, hc⟩ := HX.out.at_ (by omega)
        obtain ⟨p0, p1⟩ := hc k _ HXk.out
        simp only [] at p0 p1
        have P0 := hid p0
        have P1 := hid p1
        have c0 := kc hf p0
        have c1 := kc hf p1
        have hlt3 : (k : Int) < l := by omega
        have h0k : (0 : Int) ≤ k := by omega
        have FW := hid hf
        have OX := hid ho
        have HK := hid hlt
        have HL3 := hid h3
        have HZ := hid h4
        unfold may at hmb
        simp only [] at hmb
        have hbm : wrap64 (b + m) = b + m := w64 _ (by omega)
        have hbm2 : IntKind.i64.wrap (b + m) = b + m := by rw [IntKind.wrap_i64]; omega
        have hft : wrap64 (to - fr) = to - fr := w64 _ (by omega)
        clear hc hg hx hk1 hf ho hk hlt p0 p1 hst h3 h4
        go_wp2_with fail
        have FW := kd FW
        refine wp_region_noPanic ?_
        refine wp_region_held_drew (S := (fun W' => W'.cell? ⟨g, o + k * 2, none⟩ = some (.int .i64 b) ∧ W'.cell? ⟨g, o + k * 2 + 1, none⟩ = some (.int .i64 m) ∧ Hid (Fr No w W'))) (by kernel_rfl) ?_ (fun hHeld => ?_)
        · (try dsimp only); (first | (go_split_ands; exact ⟨kc f (by assumption), kc f (by assumption), by assumption⟩) | (go_split_ands; exact ⟨(by assumption), (by assumption), by assumption⟩) | (go_split_ands; exact ⟨kc (fr1 _ _) (by assumption), kc (fr1 _ _) (by assumption), kfa (by assumption)⟩))
        refine wpAnyH_take (i := 0) (v := ?v9) rfl (by kernel_rfl) (by kernel_rfl) (by kernel_rfl) (fun _ _ _ h => h) (Or.inl ⟨by kernel_rfl, ?y9⟩) (by assumption) ?_
        case y9 => (intro w hSw; (try dsimp only at hSw); go_simp; all_goals with_reducible rfl)
        try simp only [Act.put, List.getElem_toArray, List.getElem_cons_zero, List.setIfInBounds_toArray, List.set_cons_zero, List.set_cons_succ]
        refine wpAnyH_take (i := 1) (v := ?v10) rfl (by kernel_rfl) (by kernel_rfl) (by kernel_rfl) (fun _ _ _ h => h) (Or.inl ⟨by kernel_rfl, ?y10⟩) (by assumption) ?_
        case y10 => (intro w hSw; (try dsimp only at hSw); go_simp; all_goals with_reducible rfl)
        try simp only [Act.put, List.getElem_toArray, List.getElem_cons_succ, List.getElem_cons_zero, List.setIfInBounds_toArray, List.set_cons_zero, List.set_cons_succ]
        refine wpAnyH_take (i := 2) (v := ?v11) rfl (by kernel_rfl) (by kernel_rfl) (by kernel_rfl) (fun _ _ _ h => h) (Or.inl ⟨by kernel_rfl, ?y11⟩) (by assumption) ?_
        case y11 => (intro w hSw; (try dsimp only at hSw); go_simp; all_goals with_reducible rfl)
        try simp only [Act.put, List.getElem_toArray, List.getElem_cons_succ, List.getElem_cons_zero, List.setIfInBounds_toArray, List.set_cons_zero, List.set_cons_succ]
        refine wpAnyH_take (i := 3) (v := ?v12) rfl (by kernel_rfl) (by kernel_rfl) (by kernel_rfl) (fun _ _ _ h => h) (Or.inl ⟨by kernel_rfl, ?y12⟩) (by assumption) ?_
        case y12 => (intro w hSw; (try dsimp only at hSw); go_simp; all_goals with_reducible rfl)
        try simp only [Act.put, List.getElem_toArray, List.getElem_cons_succ, List.getElem_cons_zero, List.setIfInBounds_toArray, List.set_cons_zero, List.set_cons_succ]
        refine wpAnyH_take (i := 4) (v := ?v13) rfl (by kernel_rfl) (by kernel_rfl) (by kernel_rfl) (fun _ _ _ h => h) (Or.inl ⟨by kernel_rfl, ?y13⟩) (by assumption) ?_
        case y13 => (intro w hSw; (try dsimp only at hSw); go_simp; all_goals with_reducible rfl)
        try simp only [Act.put, List.getElem_toArray, List.getElem_cons_succ, List.getElem_cons_zero, List.setIfInBounds_toArray, List.set_cons_zero, List.set_cons_succ]
        refine wpAnyH_take (i := 5) (v := ?v14) rfl (by kernel_rfl) (by kernel_rfl) (by kernel_rfl) (fun _ _ _ h => h) (Or.inl ⟨by kernel_rfl, ?y14⟩) (by assumption) ?_
        case y14 => (intro w hSw; (try dsimp only at hSw); go_simp; all_goals with_reducible rfl)
        try simp only [Act.put, List.getElem_toArray, List.getElem_cons_succ, List.getElem_cons_zero, List.setIfInBounds_toArray, List.set_cons_zero, List.set_cons_succ]
        refine wpAnyH_take (i := 6) (v := ?v15) rfl (by kernel_rfl) (by kernel_rfl) (by kernel_rfl) (fun _ _ _ h => h) (Or.inl ⟨by kernel_rfl, ?y15⟩) (by assumption) ?_
        case y15 => (intro w hSw; (try dsimp only at hSw); go_simp; all_goals with_reducible rfl)
        try simp only [Act.put, List.getElem_toArray, List.getElem_cons_succ, List.getElem_cons_zero, List.setIfInBounds_toArray, List.set_cons_zero, List.set_cons_succ]
        refine wpAnyH_take (i := 7) (v := ?v16) rfl (by kernel_rfl) (by kernel_rfl) (by kernel_rfl) (fun _ _ _ h => h) (Or.inl ⟨by kernel_rfl, ?y16⟩) (by assumption) ?_
        case y16 => (intro w hSw; (try dsimp only at hSw); go_simp; all_goals with_reducible rfl)
        try simp only [Act.put, List.getElem_toArray, List.getElem_cons_succ, List.getElem_cons_zero, List.setIfInBounds_toArray, List.set_cons_zero, List.set_cons_succ]
        refine wpAnyH_take (i := 8) (v := ?v17) rfl (by kernel_rfl) (by kernel_rfl) (by kernel_rfl) (fun _ _ _ h => h) (Or.inl ⟨by kernel_rfl, ?y17⟩) (by assumption) ?_
        case y17 => (intro w hSw; (try dsimp only at hSw); go_simp; all_goals with_reducible rfl)
        try simp only [Act.put, List.getElem_toArray, List.getElem_cons_succ, List.getElem_cons_zero, List.setIfInBounds_toArray, List.set_cons_zero, List.set_cons_succ]
        refine wpAnyH_take (i := 9) (v := ?v18) rfl (by kernel_rfl) (by kernel_rfl) (by kernel_rfl) (fun _ _ _ h => h) (Or.inl ⟨by kernel_rfl, ?y18⟩) (by assumption) ?_
        case y18 => (intro w hSw; (try dsimp only at hSw); go_simp; all_goals with_reducible rfl)
        try simp only [Act.put, List.getElem_toArray, List.getElem_cons_succ, List.getElem_cons_zero, List.setIfInBounds_toArray, List.set_cons_zero, List.set_cons_succ]
        refine wpAnyH_take (i := 10) (v := ?v19) rfl (by kernel_rfl) (by kernel_rfl) (by kernel_rfl) (fun _ _ _ h => h) (Or.inl ⟨by kernel_rfl, ?y19⟩) (by assumption) ?_
        case y19 => (intro w hSw; (try dsimp only at hSw); go_simp; all_goals with_reducible rfl)
        try simp only [Act.put, List.getElem_toArray, List.getElem_cons_succ, List.getElem_cons_zero, List.setIfInBounds_toArray, List.set_cons_zero, List.set_cons_succ]
        refine wpAnyH_take (i := 11) (v := ?v20) rfl (by kernel_rfl) (by kernel_rfl) (by kernel_rfl) (fun _ _ _ h => h) (Or.inl ⟨by kernel_rfl, ?y20⟩) (by assumption) ?_
        case y20 => (intro w hSw; (try dsimp only at hSw); go_simp; all_goals with_reducible rfl)
        try simp only [Act.put, List.getElem_toArray, List.getElem_cons_succ, List.getElem_cons_zero, List.setIfInBounds_toArray, List.set_cons_zero, List.set_cons_succ]
        refine wpAnyH_take (i := 12) (v := ?v21) rfl (by kernel_rfl) (by kernel_rfl) (by kernel_rfl) (fun _ _ _ h => h) (Or.inl ⟨by kernel_rfl, ?y21⟩) (by assumption) ?_
        case y21 => (intro w hSw; (try dsimp only at hSw); go_simp; all_goals with_reducible rfl)
        try simp only [Act.put, List.getElem_toArray, List.getElem_cons_succ, List.getElem_cons_zero, List.setIfInBounds_toArray, List.set_cons_zero, List.set_cons_succ]
        refine wpAnyH_take (i := 13) (v := ?v22) rfl (by kernel_rfl) (by kernel_rfl) (by kernel_rfl) (fun _ _ _ h => h) (Or.inl ⟨by kernel_rfl, ?y22⟩) (by assumption) ?_
        case y22 => (intro w hSw; (try dsimp only at hSw); go_simp; all_goals with_reducible rfl)
        try simp only [Act.put, List.getElem_toArray, List.getElem_cons_succ, List.getElem_cons_zero, List.setIfInBounds_toArray, List.set_cons_zero, List.set_cons_succ]
        refine wpAnyH_take (i := 14) (v := ?v23) rfl (by kernel_rfl) (by kernel_rfl) (by kernel_rfl) (fun _ _ _ h => h) (Or.inl ⟨by kernel_rfl, ?y23⟩) (by assumption) ?_
        case y23 => (intro w hSw; (try dsimp only at hSw); go_simp; all_goals with_reducible rfl)
        try simp only [Act.put, List.getElem_toArray, List.getElem_cons_succ, List.getElem_cons_zero, List.setIfInBounds_toArray, List.set_cons_zero, List.set_cons_succ]
        refine wpAnyH_take (i := 15) (v := (.int .i64 (b + m))) rfl (by kernel_rfl) (by kernel_rfl) (by kernel_rfl) (fun _ _ _ h => h) (Or.inl ⟨by kernel_rfl, fun w hSw => by first | (go_simp; done) | (go_simp; with_reducible rfl) | (go_simp; omega)⟩) (by assumption) ?_
        try simp only [Act.put, List.getElem_toArray, List.getElem_cons_succ, List.getElem_cons_zero, List.setIfInBounds_toArray, List.set_cons_zero, List.set_cons_succ]
        refine wpAnyH_take (i := 16) (v := ?v24) rfl (by kernel_rfl) (by kernel_rfl) (by kernel_rfl) (fun _ _ _ h => h) (Or.inl ⟨by kernel_rfl, ?y24⟩) (by assumption) ?_
        case y24 => (intro w hSw; (try dsimp only at hSw); go_simp; all_goals with_reducible rfl)
        try simp only [Act.put, List.getElem_toArray, List.getElem_cons_succ, List.getElem_cons_zero, List.setIfInBounds_toArray, List.set_cons_zero, List.set_cons_succ]
        refine wpAnyH_take (i := 17) (v := ?v25) rfl (by kernel_rfl) (by kernel_rfl) (by kernel_rfl) (fun _ _ _ h => h) (Or.inl ⟨by kernel_rfl, ?y25⟩) (by assumption) ?_
        case y25 => (intro w hSw; (try dsimp only at hSw); go_simp; all_goals with_reducible rfl)
        try simp only [Act.put, List.getElem_toArray, List.getElem_cons_succ, List.getElem_cons_zero, List.setIfInBounds_toArray, List.set_cons_zero, List.set_cons_succ]
        refine wpAnyH_done (by kernel_rfl) ?_ _
        refine NoPanic.normal ?_
        go_split_ands
        by_cases c1c : b + m < fr
        · have HC1 := hid c1c
          go_wp2_with (at_builtin; refine app_sp rfl (.tmp 57) (.tmp 62) rfl (w.heap.size + 1) _ out rfl (ko (fr1 _ _) OX).out _ 1 _ [(b, m)] rfl (lit_rd2 _ _ _ _ (by simp)) (by have := HL3.out; simp; omega) (by have := HZ.out; simp; omega) ?_)
          intro A4 c4 w4 o4 f4
          have FW := hid (fr_own (kfa (o := .cells #[.int .i64 (b), .int .i64 (m)] 31) FW).out (ko (fr1 _ _) OX).out (by omega) f4)
          have HZ := hid (show w.heap.size + 1 ≤ w4.heap.size by have h1 := f4.size; have h2 := HZ.out; simp at h1; omega)
          have OX := hid o4
          clear o4 f4
          go_wp2
          go_roundw
          case rel => exact ⟨k + 1, ((fr, to), out ++ [(b, m)], dn), A4, c4, HK.out, by go_num, HST.out.trans (by unfold raStep; simp only []; rw [if_pos HC1.out]), rfl, rfl, rfl, by simp, by simpa using OX.out, FW.out, by omega, by omega, by omega, by have := HL3.out; simp; omega, HZ.out⟩
          case measure => have := HK.out; simp [intOf]; omega
        · have HC1 := hid c1c
          by_cases c2c : to < b
          · have HC2 := hid c2c
            cases dn with
            | true =>
              go_wp2_with (at_builtin; refine app_sp rfl (.tmp 78) (.tmp 83) rfl (w.heap.size + 1) _ out rfl (ko (fr1 _ _) OX).out _ 1 _ [(b, m)] rfl (lit_rd2 _ _ _ _ (by simp)) (by have := HL3.out; simp; omega) (by have := HZ.out; simp; omega) ?_)
              intro A4 c4 w4 o4 f4
              have FW := hid (fr_own (kfa (o := .cells #[.int .i64 (b), .int .i64 (m)] 31) FW).out (ko (fr1 _ _) OX).out (by omega) f4)
              have HZ := hid (show w.heap.size + 1 ≤ w4.heap.size by have h1 := f4.size; have h2 := HZ.out; simp at h1; omega)
              have OX := hid o4
              clear o4 f4
              go_wp2
              go_roundw
              case rel => exact ⟨k + 1, ((fr, to), out ++ [(b, m)], true), A4, c4, HK.out, by go_num, HST.out.trans (by unfold raStep; simp only []; rw [if_neg (by have := HC1.out; omega), if_pos HC2.out]; simp), rfl, rfl, rfl, by simp, by simpa using OX.out, FW.out, by omega, by omega, by omega, by have := HL3.out; simp; omega, HZ.out⟩
              case measure => have := HK.out; simp [intOf]; omega
            | false =>
              go_wp2_with (at_builtin; refine app_sp rfl (.tmp 70) (.tmp 76) rfl (w.heap.size + 1) _ out rfl (ko (fr1 _ _) OX).out _ 1 _ [(fr, to - fr)] rfl (lit_rd2 _ _ _ _ (by simp)) (by have := HL3.out; simp; omega) (by have := HZ.out; simp; omega) ?_)
              intro A4 c4 w4 o4 f4
              have FW := hid (fr_own (kfa (o := .cells #[.int .i64 (fr), .int .i64 (to - fr)] 31) FW).out (ko (fr1 _ _) OX).out (by omega) f4)
              have HZ := hid (show w.heap.size + 1 ≤ w4.heap.size by have h1 := f4.size; have h2 := HZ.out; simp at h1; omega)
              have OX := hid o4
              clear o4 f4
              have c0 := kc FW.out P0.out
              have c1 := kc FW.out P1.out
              go_wp2_with (at_builtin; refine app_sp rfl (.tmp 78) (.tmp 83) rfl (w.heap.size + 1) _ (out ++ [(fr, to - fr)]) rfl (ko (fr1 _ _) OX).out _ 1 _ [(b, m)] rfl (lit_rd2 _ _ _ _ (by simp)) (by have := HL3.out; simp; omega) (by have := HZ.out; simp; omega) ?_)
              intro A4 c4 w4 o4 f4
              have FW := hid (fr_own (kfa (o := .cells #[.int .i64 (b), .int .i64 (m)] 31) FW).out (ko (fr1 _ _) OX).out (by omega) f4)
              have HZ := hid (show w.heap.size + 1 ≤ w4.heap.size by have h1 := f4.size; have h2 := HZ.out; simp at h1; omega)
              have OX := hid o4
              clear o4 f4
              go_wp2
              go_roundw
              case rel => exact ⟨k + 1, ((fr, to), (out ++ [(fr, to - fr)]) ++ [(b, m)], true), A4, c4, HK.out, by go_num, HST.out.trans (by unfold raStep; simp only []; rw [if_neg (by have := HC1.out; omega), if_pos HC2.out]; simp), rfl, rfl, rfl, by simp, by simpa using OX.out, FW.out, by omega, by omega, by omega, by have := HL3.out; simp; omega, HZ.out⟩
              case measure => have := HK.out; simp [intOf]; omega
          · have HC2 := hid c2c
            have OX := ko ((Fr.refl No wr).drew) OX
            go_wp2
            all_goals
              go_roundw
              case rel => exact ⟨k + 1, ((min fr b, max to (b + m)), out, dn), Av, cv, HK.out, by go_num, HST.out.trans (by unfold raStep; simp only []; rw [if_neg (by have := HC1.out; omega), if_neg (by have := HC2.out; omega)]), by congr 1; simp only []; omega, by congr 1; simp only []; omega, rfl, rfl, OX.out, FW.out, by simp only []; omega, by simp only []; omega, by simp only []; omega, by have := HL3.out; simp; omega, HZ.out⟩
              case measure => have := HK.out; simp [intOf]; omega
      · have HKL := hid (show xs.take k = xs from List.take_of_length_le (by rw [HX.out.1]; omega))
        rw [HKL.out] at hst
        have E2 := hid (show raEnd ((fr, to), out, dn) = L by rw [← hst]; exact E.out)
        have hge : ¬ (k : Int) < l := by omega
        have FW := hid hf
        have OX := hid ho
        have HL3 := hid h3
        have HZ := hid h4
        have hft : wrap64 (to - fr) = to - fr := w64 _ (by omega)
        clear hst hf ho h3 h4 hlt
        cases dn with
        | true =>
          have E3 := hid (show out = L from E2.out)
          go_wp2
          go_ret
          exact .mk (by rw [← E3.out]; exact OX.out.rd) FW.out
        | false =>
          have E3 := hid (show out ++ [(fr, to - fr)] = L from E2.out)
          go_wp2_with (at_builtin; refine app_sp rfl (.tmp 87) (.tmp 93) rfl (w.heap.size + 1) _ out rfl (ko (fr1 _ _) OX).out _ 1 _ [(fr, to - fr)] rfl (lit_rd2 _ _ _ _ (by simp)) (by have := HL3.out; simp; omega) (by have := HZ.out; simp; omega) ?_)
          intro A4 c4 w4 o4 f4
          have FW := hid (fr_own (kfa (o := .cells #[.int .i64 (fr), .int .i64 (to - fr)] 31) FW).out (ko (fr1 _ _) OX).out (by omega) f4)
          have HZ := hid (show w.heap.size + 1 ≤ w4.heap.size by have h1 := f4.size; have h2 := HZ.out; simp at h1; omega)
          have OX := hid o4
          clear o4 f4
          go_wp2
          go_ret
          exact .mk (by rw [← E3.out]; simpa using OX.out.rd) FW.out
end Go.Proofs.Ytkjebdojcnpjlaa.SqA
