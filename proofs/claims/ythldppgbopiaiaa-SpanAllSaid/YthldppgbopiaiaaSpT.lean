/- Contract: what two sets have in common, as the program reckons it (a place in each set, a label behind the loops). Conditions: the slices read as sets' spans, at most 2000 each. -/
import Derived.Test.YthldppgbopiaiaaSpS
namespace Go.Proofs.Ythldppgbopiaiaa.SpT
open Go.RowKit MSep MSepC MSpM MSpN SpA SpB SpO SpE SpF SpG SpH SpI SpQ SpS

/-- 'v = append(v, x...)', v a row of the call's own; where the new row lies. -/
theorem app_sp3 {w : World} {ops : Array Oper} {rest : List Oper} {o : Oper} {a : Act} {Q : Exit → Act → World → Prop} (hgd : o.guard = none) (s x : Operand)
    (ho : o.op = .call { callee := .builtin .append, args := #[s, x], argTypes := #[25, 25] })
    (B : Nat) (v : Value) (l : List Sp) (hs : a.eval s = v) (hown : Out B w v l)
    (A : Option Addr) (m c : Nat) (news : List Sp) (hx : a.eval x = .slice A m c) (hr : RdS w A m news)
    (hlim : l.length + m ≤ 4000000000000) (hbase : B ≤ w.heap.size)
    (h : ∀ A' c' w', Out B w' (.slice A' (l.length + m) c') (l ++ news) → Fr (fun q => v.ownBlock = some q) w w' → (∀ q, (Value.slice A' (l.length + m) c').ownBlock = some q → v.ownBlock = some q ∨ w.heap.size ≤ q) → wpList Try.prog ops Q rest (a.put o.dst (.slice A' (l.length + m) c')) w') :
    wpList Try.prog ops Q (o :: rest) a w := by
  obtain ⟨i0, z0, hi, hz0, hz1, hz2, hz3⟩ := info23
  refine wpList_appk 2 (by omega) hgd s x 25 ho B 23 i0 z0 16 Try.underlying25 hi hz0 hz1 hz2 hz3 v l.length (cs2 l) hs hown A m c (cs2 news) hx hr.2 cs2_one (by simp only [maxLen]; omega) (by omega) hbase ?_
  intro A' c' w' o1 f1 h1
  refine h A' c' w' ?_ f1 h1
  have e : (l ++ news).length = l.length + m := by rw [List.length_append, hr.1]
  unfold Out
  rw [cs2_append, e]
  exact o1
theorem drop_at {ys : List Sp} {j : Nat} {t : Sp} (h : ys[j]? = some t) : ys.drop j = t :: ys.drop (j + 1) := by
  obtain ⟨h1, h2⟩ := List.getElem?_eq_some_iff.1 h
  rw [List.drop_eq_getElem_cons h1, h2]
theorem far2 {w : World} {g h : Nat} {t : TypeId} {cs : Array Value} {x y : Value} (b : Blk w g t cs) (hn : g ≠ h) : Blk ((w.setCell ⟨h, 0, none⟩ x).setCell ⟨h, 1, none⟩ y) g t cs := (b.far (p := ⟨h, 0, none⟩) hn x).far (p := ⟨h, 1, none⟩) hn y
theorem com_lt {s t : Sp} {X Y P L : List Sp} (h : P ++ com (s :: X) (t :: Y) = L) (hlt : s.1 + s.2 < t.1 + t.2) : (P ++ one s t) ++ com X (t :: Y) = L := by
  rw [com_cons, if_pos hlt, ← List.append_assoc] at h
  exact h
theorem com_ge {s t : Sp} {X Y P L : List Sp} (h : P ++ com (s :: X) (t :: Y) = L) (hlt : ¬ s.1 + s.2 < t.1 + t.2) : (P ++ one s t) ++ com (s :: X) Y = L := by
  rw [com_cons, if_neg hlt, ← List.append_assoc] at h
  exact h

set_option maxRecDepth 100000 in
set_option maxHeartbeats 8000000 in
theorem common_ok (A B : Option Addr) (l c m d : Nat) (xs ys : List Sp) (w : World) (hl : l ≤ 2000) (hm : m ≤ 2000) (hx : RdS w A l xs) (hy : RdS w B m ys) (hmx : ∀ s ∈ xs, may s) (hmy : ∀ s ∈ ys, may s) :
    Calls Try.prog 48 #[.slice A l c, .slice B m d] w fun e w' => RetS w w' e (com xs ys) := by
  have HX := hid hx
  have HY := hid hy
  have HMX := hid hmx
  have HMY := hid hmy
  obtain ⟨L, hL⟩ : ∃ L, com xs ys = L := ⟨_, rfl⟩
  rw [hL]
  have HL := hid hL
  clear hx hy hmx hmy hL
  go_enter Try.func48, Try.ntmps48
  go_wp2_with fail
  refine wp_scope_on 0 rfl ?_
  go_wp2
  go_loopw [5, 6, 12] (fun v jj i wr => ∃ (k j : Nat) (A : Option Addr) (c : Nat) (P : List Sp), k ≤ l ∧ j ≤ m ∧ i = .int .i64 k ∧ jj = .int .i64 j ∧ v = .slice A P.length c ∧ P ++ com (xs.drop k) (ys.drop j) = L ∧ P.length ≤ k + j ∧ Out w.heap.size wr v P ∧ Fr No w wr) (fun _ _ i _ => l - (intOf i).toNat)
  case atStart => exact ⟨0, 0, none, 0, [], by omega, by omega, rfl, rfl, rfl, by simpa using HL.out, by simp, Out.nil _ _, Fr.refl _ _⟩
  case round =>
    obtain ⟨k, j, Av, cv, P, hk, hj, rfl, rfl, rfl, hL, hln, ho, hf⟩ := hrel
    by_cases hlt : k < l
    · have hk1 : k < xs.length := by rw [HX.out.1]; exact hlt
      obtain ⟨⟨a, n⟩, hx⟩ : ∃ x, xs[k]? = some x := ⟨_, List.getElem?_eq_getElem hk1⟩
      have HMA := hid (HMX.out _ (List.mem_of_getElem? hx))
      rw [drop_at hx] at hL
      obtain ⟨g, o, rfl, hg, hc⟩ := (HX.out.fr hf).at_ (by omega)
      obtain ⟨c0, c1⟩ := hc k _ hx
      simp only [] at c0 c1
      have hlt3 : (k : Int) < l := by omega
      have h0k : (0 : Int) ≤ k := by omega
      have h0j : (0 : Int) ≤ j := by omega
      have HJ := hid hj
      have HC := hid hL
      have HLN := hid hln
      have HK := hid hlt
      have FW := hid (hf.alloc (.cells #[.int .i64 a, .int .i64 n] 23))
      have OX := hid (ho.fr (fr1 wr (.cells #[.int .i64 a, .int .i64 n] 23)))
      obtain ⟨g8, hg8⟩ : ∃ g8, wr.heap.size = g8 := ⟨_, rfl⟩
      have BX := hid (show Blk _ g8 _ _ from hg8 ▸ Blk.new wr 23 #[.int .i64 a, .int .i64 n])
      have HV := hid (fun q h => Nat.ne_of_lt (hg8 ▸ (ho.ge q h).2))
      have HW8 := hid (show w.heap.size ≤ g8 from hg8 ▸ hf.size)
      clear hx hk1 hc hg hf ho hlt hL hln hj hk
      go_wp2
      clear c0 c1
      try simp only [hg8]
      clear hg8
      go_loopw [5, 6] (fun v jj wi => ∃ (j : Nat) (A : Option Addr) (c : Nat) (P : List Sp), j ≤ m ∧ jj = .int .i64 j ∧ v = .slice A P.length c ∧ P ++ com ((a, n) :: xs.drop (k + 1)) (ys.drop j) = L ∧ P.length ≤ k + j ∧ Out w.heap.size wi v P ∧ Fr No w wi ∧ Blk wi g8 23 #[.int .i64 a, .int .i64 n] ∧ ∀ q, v.ownBlock = some q → q ≠ g8) (fun _ jj _ => m - (intOf jj).toNat)
      case atStart => exact ⟨j, Av, cv, P, HJ.out, rfl, rfl, HC.out, HLN.out, OX.out, FW.out, BX.out, HV.out⟩
      case round =>
        clear FW OX BX HV HC HLN HJ h0j
        obtain ⟨j, Av, cv, P, hj, rfl, rfl, hL, hln, ho, hf, hb, hv⟩ := hrel
        by_cases hlt : j < m
        · have hj1 : j < ys.length := by rw [HY.out.1]; exact hlt
          obtain ⟨⟨b, q⟩, hy⟩ : ∃ y, ys[j]? = some y := ⟨_, List.getElem?_eq_getElem hj1⟩
          have HMB := hid (HMY.out _ (List.mem_of_getElem? hy))
          have HD := hid (drop_at hy)
          rw [drop_at hy] at hL
          have HC := hid hL
          obtain ⟨⟨u, v⟩, hX⟩ : ∃ X, meet0 (a, n) (b, q) = X := ⟨_, rfl⟩
          have HM0 := hid hX
          have HMT := hid (show meet (a, n) (b, q) = (u, v) by rw [meet_yes HMA.out HMB.out, hX])
          obtain ⟨g2, o2, rfl, hg2, hc2⟩ := HY.out.at_ (by omega)
          obtain ⟨e0, e1⟩ := hc2 j _ hy
          simp only [] at e0 e1
          have E0 := hid e0
          have E1 := hid e1
          have d0 := kc hf e0
          have d1 := kc hf e1
          have c0 := hb.cell 0
          have c1 := hb.cell 1
          simp only [List.getElem?_toArray, List.getElem?_cons_zero, List.getElem?_cons_succ] at c0 c1
          have hjt3 : (j : Int) < m := by omega
          have h0j : (0 : Int) ≤ j := by omega
          have hjm : ((j : Int) == (m : Int)) = false := by simp; omega
          have hsz := hf.size
          have h8 := hb.lt
          have hw8 := HW8.out
          have FW := hid hf
          have OX := hid ho
          have BX := hid hb
          have HVG := hid (fun q h => (ho.ge q h).2)
          have HV := hid hv
          have HJ := hid hlt
          have HLN := hid hln
          clear hc2 hy hj1 hf ho hb hj hlt hX hv hL hln e0 e1
          go_upto_region 7 with fail
          go_cut [9] (fun mp wx => ∃ mb : Nat, mp = .pointer (some ⟨mb, 0, none⟩) ∧ Blk wx mb 23 #[.int .i64 u, .int .i64 v] ∧ Out w.heap.size wx (.slice Av P.length cv) P ∧ Fr No w wx ∧ Blk wx g8 23 #[.int .i64 a, .int .i64 n])
          case first =>
            have FW := kd FW
            refine wp_region_noPanic ?_
            refine wp_region_held_drew (S := (fun W' => W'.cell? ⟨g8, 0, none⟩ = some (.int .i64 a) ∧ W'.cell? ⟨g8, 1, none⟩ = some (.int .i64 n) ∧ W'.cell? ⟨g2, o2 + j * 2, none⟩ = some (.int .i64 b) ∧ W'.cell? ⟨g2, o2 + j * 2 + 1, none⟩ = some (.int .i64 q) ∧ Hid (Fr No w W'))) (by kernel_rfl) ?_ (fun hHeld => ?_)
            · (try dsimp only); (first | (go_split_ands; exact ⟨kc f (by assumption), kc f (by assumption), kc f (by assumption), kc f (by assumption), by assumption⟩) | (go_split_ands; exact ⟨(by assumption), (by assumption), (by assumption), (by assumption), by assumption⟩) | (go_split_ands; exact ⟨kc (fr1 _ _) (by assumption), kc (fr1 _ _) (by assumption), kc (fr1 _ _) (by assumption), kc (fr1 _ _) (by assumption), kfa (by assumption)⟩) | (go_split_ands; exact ⟨kc (fr1d _ _) (by assumption), kc (fr1d _ _) (by assumption), kc (fr1d _ _) (by assumption), kc (fr1d _ _) (by assumption), kfae (by assumption)⟩) | (go_split_ands; exact ⟨ks (by simp only []; omega) (by assumption), ks (by simp only []; omega) (by assumption), ks (by simp only []; omega) (by assumption), ks (by simp only []; omega) (by assumption), kfs (by omega) (by assumption)⟩))
            refine wpAnyH_take (i := 0) (v := ?v1) rfl (by kernel_rfl) (by kernel_rfl) (by kernel_rfl) (fun _ _ _ h => h) (Or.inl ⟨by kernel_rfl, ?y1⟩) (by assumption) ?_
            case y1 => (intro w hSw; (try dsimp only at hSw); go_simp; all_goals with_reducible rfl)
            try simp only [Act.put, List.getElem_toArray, List.getElem_cons_zero, List.setIfInBounds_toArray, List.set_cons_zero, List.set_cons_succ]
            refine wpAnyH_take (i := 1) (v := ?v2) rfl (by kernel_rfl) (by kernel_rfl) (by kernel_rfl) (fun _ _ _ h => h) (Or.inl ⟨by kernel_rfl, ?y2⟩) (by assumption) ?_
            case y2 => (intro w hSw; (try dsimp only at hSw); go_simp; all_goals with_reducible rfl)
            try simp only [Act.put, List.getElem_toArray, List.getElem_cons_succ, List.getElem_cons_zero, List.setIfInBounds_toArray, List.set_cons_zero, List.set_cons_succ]
            refine wpAnyH_take (i := 2) (v := ?v3) rfl (by kernel_rfl) (by kernel_rfl) (by kernel_rfl) (fun _ _ _ h => h) (Or.inl ⟨by kernel_rfl, ?y3⟩) (by assumption) ?_
            case y3 => (intro w hSw; (try dsimp only at hSw); go_simp; all_goals with_reducible rfl)
            try simp only [Act.put, List.getElem_toArray, List.getElem_cons_succ, List.getElem_cons_zero, List.setIfInBounds_toArray, List.set_cons_zero, List.set_cons_succ]
            refine wpAnyH_take (i := 3) (v := ?v4) rfl (by kernel_rfl) (by kernel_rfl) (by kernel_rfl) (fun _ _ _ h => h) (Or.inl ⟨by kernel_rfl, ?y4⟩) (by assumption) ?_
            case y4 => (intro w hSw; (try dsimp only at hSw); go_simp; all_goals with_reducible rfl)
            try simp only [Act.put, List.getElem_toArray, List.getElem_cons_succ, List.getElem_cons_zero, List.setIfInBounds_toArray, List.set_cons_zero, List.set_cons_succ]
            refine wpAnyH_take (i := 4) (v := ?v5) rfl (by kernel_rfl) (by kernel_rfl) (by kernel_rfl) (fun _ _ _ h => h) (Or.inl ⟨by kernel_rfl, ?y5⟩) (by assumption) ?_
            case y5 => (intro w hSw; (try dsimp only at hSw); go_simp; all_goals with_reducible rfl)
            try simp only [Act.put, List.getElem_toArray, List.getElem_cons_succ, List.getElem_cons_zero, List.setIfInBounds_toArray, List.set_cons_zero, List.set_cons_succ]
            refine wpAnyH_ready (rs := [5, 6]) (by kernel_rfl) (by simp) (AllReadyH.cons rfl (fun K hK => ?_) (AllReadyH.cons rfl (fun K hK => ?_) AllReadyH.nil))
            · go_simp
              go_at_call 11
              refine (meet_ok a n b q _ (wf_may HMA.out) (wf_may HMB.out)).mono ?_
              rintro e W1 ⟨rfl, f⟩
              have FW := kf f hHeld.2.2.2.2
              rw [HMT.out]
              have OX := ko f OX
              have BX := kb f BX
              (try have MX := kb f MX)
              dsimp only
              refine hK.out _ _ ?_ (fun hHeld => ?_)
              · (try dsimp only); (first | (go_split_ands; exact ⟨kc f (by assumption), kc f (by assumption), kc f (by assumption), kc f (by assumption), by assumption⟩) | (go_split_ands; exact ⟨(by assumption), (by assumption), (by assumption), (by assumption), by assumption⟩) | (go_split_ands; exact ⟨kc (fr1 _ _) (by assumption), kc (fr1 _ _) (by assumption), kc (fr1 _ _) (by assumption), kc (fr1 _ _) (by assumption), kfa (by assumption)⟩) | (go_split_ands; exact ⟨kc (fr1d _ _) (by assumption), kc (fr1d _ _) (by assumption), kc (fr1d _ _) (by assumption), kc (fr1d _ _) (by assumption), kfae (by assumption)⟩) | (go_split_ands; exact ⟨ks (by simp only []; omega) (by assumption), ks (by simp only []; omega) (by assumption), ks (by simp only []; omega) (by assumption), ks (by simp only []; omega) (by assumption), kfs (by omega) (by assumption)⟩))
              clear hK K
              try simp only [Act.put, List.getElem_toArray, List.getElem_cons_succ, List.getElem_cons_zero, List.setIfInBounds_toArray, List.set_cons_zero, List.set_cons_succ]
              refine wpAnyH_ready (rs := [6]) (by kernel_rfl) (by simp) (AllReadyH.cons rfl (fun K hK => ?_) AllReadyH.nil)
              go_simp
              refine hK.out _ _ ?_ (fun hHeld => ?_)
              · (try dsimp only); (first | (go_split_ands; exact ⟨kc f (by assumption), kc f (by assumption), kc f (by assumption), kc f (by assumption), by assumption⟩) | (go_split_ands; exact ⟨(by assumption), (by assumption), (by assumption), (by assumption), by assumption⟩) | (go_split_ands; exact ⟨kc (fr1 _ _) (by assumption), kc (fr1 _ _) (by assumption), kc (fr1 _ _) (by assumption), kc (fr1 _ _) (by assumption), kfa (by assumption)⟩) | (go_split_ands; exact ⟨kc (fr1d _ _) (by assumption), kc (fr1d _ _) (by assumption), kc (fr1d _ _) (by assumption), kc (fr1d _ _) (by assumption), kfae (by assumption)⟩) | (go_split_ands; exact ⟨ks (by simp only []; omega) (by assumption), ks (by simp only []; omega) (by assumption), ks (by simp only []; omega) (by assumption), ks (by simp only []; omega) (by assumption), kfs (by omega) (by assumption)⟩))
              clear hK K
              try simp only [Act.put, List.getElem_toArray, List.getElem_cons_succ, List.getElem_cons_zero, List.setIfInBounds_toArray, List.set_cons_zero, List.set_cons_succ]
              skip
              refine wpAnyH_ready (rs := [7]) (by kernel_rfl) (by simp) (AllReadyH.cons rfl (fun K hK => ?_) AllReadyH.nil)
              (try have k0 := MX.out.cell 0)
              (try have k1 := MX.out.cell 1)
              (try have z0 := MX.out.frozen 0)
              (try have z1 := MX.out.frozen 1)
              (try simp only [List.getElem?_toArray, List.getElem?_cons_zero, List.getElem?_cons_succ] at k0 k1)
              go_simp
              refine hK.out _ _ ?_ (fun hHeld => ?_)
              · (try dsimp only); (first | (go_split_ands; exact ⟨kc f (by assumption), kc f (by assumption), kc f (by assumption), kc f (by assumption), by assumption⟩) | (go_split_ands; exact ⟨(by assumption), (by assumption), (by assumption), (by assumption), by assumption⟩) | (go_split_ands; exact ⟨kc (fr1 _ _) (by assumption), kc (fr1 _ _) (by assumption), kc (fr1 _ _) (by assumption), kc (fr1 _ _) (by assumption), kfa (by assumption)⟩) | (go_split_ands; exact ⟨kc (fr1d _ _) (by assumption), kc (fr1d _ _) (by assumption), kc (fr1d _ _) (by assumption), kc (fr1d _ _) (by assumption), kfae (by assumption)⟩) | (go_split_ands; exact ⟨ks (by simp only []; omega) (by assumption), ks (by simp only []; omega) (by assumption), ks (by simp only []; omega) (by assumption), ks (by simp only []; omega) (by assumption), kfs (by omega) (by assumption)⟩))
              clear hK K
              try simp only [Act.put, List.getElem_toArray, List.getElem_cons_succ, List.getElem_cons_zero, List.setIfInBounds_toArray, List.set_cons_zero, List.set_cons_succ]
              refine wpAnyH_done (by kernel_rfl) ?_ _
              refine NoPanic.normal ?_
              go_wp2_with fail
              go_meet
              case rel => exact ⟨_, rfl, Blk.new W1 23 _, OX.out.fr (fr1 _ _), FW.out.alloc _, BX.out.alloc _⟩
            · go_simp
              refine hK.out _ _ ?_ (fun hHeld => ?_)
              · (try dsimp only); (first | (go_split_ands; exact ⟨kc f (by assumption), kc f (by assumption), kc f (by assumption), kc f (by assumption), by assumption⟩) | (go_split_ands; exact ⟨(by assumption), (by assumption), (by assumption), (by assumption), by assumption⟩) | (go_split_ands; exact ⟨kc (fr1 _ _) (by assumption), kc (fr1 _ _) (by assumption), kc (fr1 _ _) (by assumption), kc (fr1 _ _) (by assumption), kfa (by assumption)⟩) | (go_split_ands; exact ⟨kc (fr1d _ _) (by assumption), kc (fr1d _ _) (by assumption), kc (fr1d _ _) (by assumption), kc (fr1d _ _) (by assumption), kfae (by assumption)⟩) | (go_split_ands; exact ⟨ks (by simp only []; omega) (by assumption), ks (by simp only []; omega) (by assumption), ks (by simp only []; omega) (by assumption), ks (by simp only []; omega) (by assumption), kfs (by omega) (by assumption)⟩))
              clear hK K
              try simp only [Act.put, List.getElem_toArray, List.getElem_cons_succ, List.getElem_cons_zero, List.setIfInBounds_toArray, List.set_cons_zero, List.set_cons_succ]
              have OX := hid (OX.out.fr (fr1d _ (.cells #[.int .i64 0, .int .i64 0] 23))); have BX := hid (BX.out.fr (fr1d _ (.cells #[.int .i64 0, .int .i64 0] 23)) (fun h => h)); have MX := hid (show Blk _ wr.heap.size 23 #[.int .i64 0, .int .i64 0] from Blk.new wr 23 #[.int .i64 0, .int .i64 0])
              refine wpAnyH_ready (rs := [5]) (by kernel_rfl) (by simp) (AllReadyH.cons rfl (fun K hK => ?_) AllReadyH.nil)
              go_simp
              go_at_call 11
              refine (meet_ok a n b q _ (wf_may HMA.out) (wf_may HMB.out)).mono ?_
              rintro e W1 ⟨rfl, f⟩
              have FW := kf f hHeld.2.2.2.2
              rw [HMT.out]
              have OX := ko f OX
              have BX := kb f BX
              (try have MX := kb f MX)
              dsimp only
              refine hK.out _ _ ?_ (fun hHeld => ?_)
              · (try dsimp only); (first | (go_split_ands; exact ⟨kc f (by assumption), kc f (by assumption), kc f (by assumption), kc f (by assumption), by assumption⟩) | (go_split_ands; exact ⟨(by assumption), (by assumption), (by assumption), (by assumption), by assumption⟩) | (go_split_ands; exact ⟨kc (fr1 _ _) (by assumption), kc (fr1 _ _) (by assumption), kc (fr1 _ _) (by assumption), kc (fr1 _ _) (by assumption), kfa (by assumption)⟩) | (go_split_ands; exact ⟨kc (fr1d _ _) (by assumption), kc (fr1d _ _) (by assumption), kc (fr1d _ _) (by assumption), kc (fr1d _ _) (by assumption), kfae (by assumption)⟩) | (go_split_ands; exact ⟨ks (by simp only []; omega) (by assumption), ks (by simp only []; omega) (by assumption), ks (by simp only []; omega) (by assumption), ks (by simp only []; omega) (by assumption), kfs (by omega) (by assumption)⟩))
              clear hK K
              try simp only [Act.put, List.getElem_toArray, List.getElem_cons_succ, List.getElem_cons_zero, List.setIfInBounds_toArray, List.set_cons_zero, List.set_cons_succ]
              refine wpAnyH_ready (rs := [7]) (by kernel_rfl) (by simp) (AllReadyH.cons rfl (fun K hK => ?_) AllReadyH.nil)
              (try have k0 := MX.out.cell 0)
              (try have k1 := MX.out.cell 1)
              (try have z0 := MX.out.frozen 0)
              (try have z1 := MX.out.frozen 1)
              (try simp only [List.getElem?_toArray, List.getElem?_cons_zero, List.getElem?_cons_succ] at k0 k1)
              go_simp
              refine hK.out _ _ ?_ (fun hHeld => ?_)
              · (try dsimp only); (first | (go_split_ands; exact ⟨kc f (by assumption), kc f (by assumption), kc f (by assumption), kc f (by assumption), by assumption⟩) | (go_split_ands; exact ⟨(by assumption), (by assumption), (by assumption), (by assumption), by assumption⟩) | (go_split_ands; exact ⟨kc (fr1 _ _) (by assumption), kc (fr1 _ _) (by assumption), kc (fr1 _ _) (by assumption), kc (fr1 _ _) (by assumption), kfa (by assumption)⟩) | (go_split_ands; exact ⟨kc (fr1d _ _) (by assumption), kc (fr1d _ _) (by assumption), kc (fr1d _ _) (by assumption), kc (fr1d _ _) (by assumption), kfae (by assumption)⟩) | (go_split_ands; exact ⟨ks (by simp only []; omega) (by assumption), ks (by simp only []; omega) (by assumption), ks (by simp only []; omega) (by assumption), ks (by simp only []; omega) (by assumption), kfs (by omega) (by assumption)⟩))
              clear hK K
              try simp only [Act.put, List.getElem_toArray, List.getElem_cons_succ, List.getElem_cons_zero, List.setIfInBounds_toArray, List.set_cons_zero, List.set_cons_succ]
              refine wpAnyH_done (by kernel_rfl) ?_ _
              refine NoPanic.normal ?_
              go_wp2_with fail
              go_meet
              case rel => exact ⟨_, rfl, (MX.out.set_ 0 _).set_ 1 _, out_set OX.out (fun q h => by have := HVG.out q h; omega), (kfs (by omega) FW).out, far2 BX.out (by omega)⟩
          case rest =>
            clear FW OX BX c0 c1 d0 d1 HVG
            obtain ⟨mb, rfl, hB, hO, hF, hb⟩ := hcut
            have hb0 := hB.cell 0
            have hb1 := hB.cell 1
            simp only [List.getElem?_toArray, List.getElem?_cons_zero, List.getElem?_cons_succ] at hb0 hb1
            have FW := hid hF
            have OX := hid hO
            have BX := hid hb
            clear hB hO hF hb
            have hab := HMA.out
            have hbb := HMB.out
            unfold may at hab hbb
            simp only [] at hab hbb
            by_cases hv : 0 < v
            · go_wp2_with (at_builtin; refine app_sp3 rfl (.tmp 29) (.tmp 31) rfl w.heap.size _ P rfl (ko (fr1 _ _) OX).out _ 1 _ [(u, v)] rfl (lit_rd2 _ _ _ _ (by simp)) (by have := HLN.out; omega) (by have := FW.out.size; simp; omega) ?_)
              intro A5 c5 w5 o5 f5 h5
              have HV0 := HV
              have HV := hid (fun (q : Nat) (h : (Value.slice A5 (P.length + 1) c5).ownBlock = some q) => show q ≠ g8 from (h5 q h).elim (HV.out q) (fun h6 he => by have := BX.out.lt; omega))
              have BX := hid ((BX.out.alloc _).fr f5 (fun he => HV0.out _ he rfl))
              have FW := hid (fr_own (FW.out.alloc _) (ko (fr1 _ _) OX).out (Nat.le_refl _) f5)
              have OX := hid o5
              clear o5 f5 h5 hb0 hb1
              have c0 := BX.out.cell 0
              have c1 := BX.out.cell 1
              simp only [List.getElem?_toArray, List.getElem?_cons_zero, List.getElem?_cons_succ] at c0 c1
              have d0 := kc FW.out E0.out
              have d1 := kc FW.out E1.out
              by_cases he : a + n < b + q
              · have HE := hid (com_lt HC.out he)
                have HE2 := hid (show (P ++ [(u, v)]) ++ com (xs.drop (k + 1)) (ys.drop j) = L by have h := HE.out; rw [one, HM0.out, if_pos hv] at h; rw [HD.out]; exact h)
                go_wp2_with fail
                have FW := kd FW
                refine wp_region_noPanic ?_
                refine wp_region_held_drew (S := (fun W' => W'.cell? ⟨g8, 0, none⟩ = some (.int .i64 a) ∧ W'.cell? ⟨g8, 1, none⟩ = some (.int .i64 n) ∧ W'.cell? ⟨g2, o2 + j * 2, none⟩ = some (.int .i64 b) ∧ W'.cell? ⟨g2, o2 + j * 2 + 1, none⟩ = some (.int .i64 q) ∧ Hid (Fr No w W'))) (by kernel_rfl) ?_ (fun hHeld => ?_)
                · (try dsimp only); (first | (go_split_ands; exact ⟨kc f (by assumption), kc f (by assumption), kc f (by assumption), kc f (by assumption), by assumption⟩) | (go_split_ands; exact ⟨(by assumption), (by assumption), (by assumption), (by assumption), by assumption⟩) | (go_split_ands; exact ⟨kc (fr1 _ _) (by assumption), kc (fr1 _ _) (by assumption), kc (fr1 _ _) (by assumption), kc (fr1 _ _) (by assumption), kfa (by assumption)⟩))
                refine wpAnyH_take (i := 0) (v := ?v6) rfl (by kernel_rfl) (by kernel_rfl) (by kernel_rfl) (fun _ _ _ h => h) (Or.inl ⟨by kernel_rfl, ?y6⟩) (by assumption) ?_
                case y6 => (intro w hSw; (try dsimp only at hSw); go_simp; all_goals with_reducible rfl)
                try simp only [Act.put, List.getElem_toArray, List.getElem_cons_zero, List.setIfInBounds_toArray, List.set_cons_zero, List.set_cons_succ]
                refine wpAnyH_take (i := 1) (v := ?v7) rfl (by kernel_rfl) (by kernel_rfl) (by kernel_rfl) (fun _ _ _ h => h) (Or.inl ⟨by kernel_rfl, ?y7⟩) (by assumption) ?_
                case y7 => (intro w hSw; (try dsimp only at hSw); go_simp; all_goals with_reducible rfl)
                try simp only [Act.put, List.getElem_toArray, List.getElem_cons_succ, List.getElem_cons_zero, List.setIfInBounds_toArray, List.set_cons_zero, List.set_cons_succ]
                refine wpAnyH_take (i := 2) (v := ?v8) rfl (by kernel_rfl) (by kernel_rfl) (by kernel_rfl) (fun _ _ _ h => h) (Or.inl ⟨by kernel_rfl, ?y8⟩) (by assumption) ?_
                case y8 => (intro w hSw; (try dsimp only at hSw); go_simp; all_goals with_reducible rfl)
                try simp only [Act.put, List.getElem_toArray, List.getElem_cons_succ, List.getElem_cons_zero, List.setIfInBounds_toArray, List.set_cons_zero, List.set_cons_succ]
                refine wpAnyH_take (i := 3) (v := ?v9) rfl (by kernel_rfl) (by kernel_rfl) (by kernel_rfl) (fun _ _ _ h => h) (Or.inl ⟨by kernel_rfl, ?y9⟩) (by assumption) ?_
                case y9 => (intro w hSw; (try dsimp only at hSw); go_simp; all_goals with_reducible rfl)
                try simp only [Act.put, List.getElem_toArray, List.getElem_cons_succ, List.getElem_cons_zero, List.setIfInBounds_toArray, List.set_cons_zero, List.set_cons_succ]
                refine wpAnyH_take (i := 5) (v := ?v10) rfl (by kernel_rfl) (by kernel_rfl) (by kernel_rfl) (fun _ _ _ h => h) (Or.inl ⟨by kernel_rfl, ?y10⟩) (by assumption) ?_
                case y10 => (intro w hSw; (try dsimp only at hSw); go_simp; all_goals with_reducible rfl)
                try simp only [Act.put, List.getElem_toArray, List.getElem_cons_succ, List.getElem_cons_zero, List.setIfInBounds_toArray, List.set_cons_zero, List.set_cons_succ]
                refine wpAnyH_ready (rs := [4]) (by kernel_rfl) (by simp) (AllReadyH.cons rfl (fun K hK => ?_) AllReadyH.nil)
                go_simp
                go_at_call 16
                refine (end_may _ _ _ (by first | exact HMA.out | exact HMB.out)).mono ?_
                rintro e W1 ⟨rfl, f⟩
                have FW := kf f hHeld.2.2.2.2
                have OX := ko f OX
                have BX := kb f BX
                dsimp only
                refine hK.out _ _ ?_ (fun hHeld => ?_)
                · (try dsimp only); (first | (go_split_ands; exact ⟨kc f (by assumption), kc f (by assumption), kc f (by assumption), kc f (by assumption), by assumption⟩) | (go_split_ands; exact ⟨(by assumption), (by assumption), (by assumption), (by assumption), by assumption⟩) | (go_split_ands; exact ⟨kc (fr1 _ _) (by assumption), kc (fr1 _ _) (by assumption), kc (fr1 _ _) (by assumption), kc (fr1 _ _) (by assumption), kfa (by assumption)⟩))
                clear hK K
                try simp only [Act.put, List.getElem_toArray, List.getElem_cons_succ, List.getElem_cons_zero, List.setIfInBounds_toArray, List.set_cons_zero, List.set_cons_succ]
                refine wpAnyH_ready (rs := [6]) (by kernel_rfl) (by simp) (AllReadyH.cons rfl (fun K hK => ?_) AllReadyH.nil)
                go_simp
                go_at_call 16
                refine (end_may _ _ _ (by first | exact HMA.out | exact HMB.out)).mono ?_
                rintro e W1 ⟨rfl, f⟩
                have FW := kf f hHeld.2.2.2.2
                have OX := ko f OX
                have BX := kb f BX
                dsimp only
                refine hK.out _ _ ?_ (fun hHeld => ?_)
                · (try dsimp only); (first | (go_split_ands; exact ⟨kc f (by assumption), kc f (by assumption), kc f (by assumption), kc f (by assumption), by assumption⟩) | (go_split_ands; exact ⟨(by assumption), (by assumption), (by assumption), (by assumption), by assumption⟩) | (go_split_ands; exact ⟨kc (fr1 _ _) (by assumption), kc (fr1 _ _) (by assumption), kc (fr1 _ _) (by assumption), kc (fr1 _ _) (by assumption), kfa (by assumption)⟩))
                clear hK K
                try simp only [Act.put, List.getElem_toArray, List.getElem_cons_succ, List.getElem_cons_zero, List.setIfInBounds_toArray, List.set_cons_zero, List.set_cons_succ]
                refine wpAnyH_take (i := 7) (v := ?v11) rfl (by kernel_rfl) (by kernel_rfl) (by kernel_rfl) (fun _ _ _ h => h) (Or.inl ⟨by kernel_rfl, ?y11⟩) (by assumption) ?_
                case y11 => (intro w hSw; (try dsimp only at hSw); go_simp; all_goals with_reducible rfl)
                try simp only [Act.put, List.getElem_toArray, List.getElem_cons_succ, List.getElem_cons_zero, List.setIfInBounds_toArray, List.set_cons_zero, List.set_cons_succ]
                refine wpAnyH_done (by kernel_rfl) ?_ _
                refine NoPanic.normal ?_
                go_wp2
                go_roundw
                case rel => exact ⟨k + 1, j, A5, c5, (P ++ [(u, v)]), HK.out, by have := HJ.out; omega, by go_num, rfl, by simp, HE2.out, by have := HLN.out; simp; omega, OX.out, FW.out⟩
                case measure => have := HK.out; simp [intOf]; omega
              · have HE := hid (com_ge HC.out he)
                have HE2 := hid (show (P ++ [(u, v)]) ++ com ((a, n) :: xs.drop (k + 1)) (ys.drop (j + 1)) = L by have h := HE.out; rw [one, HM0.out, if_pos hv] at h; exact h)
                go_wp2_with fail
                have FW := kd FW
                refine wp_region_noPanic ?_
                refine wp_region_held_drew (S := (fun W' => W'.cell? ⟨g8, 0, none⟩ = some (.int .i64 a) ∧ W'.cell? ⟨g8, 1, none⟩ = some (.int .i64 n) ∧ W'.cell? ⟨g2, o2 + j * 2, none⟩ = some (.int .i64 b) ∧ W'.cell? ⟨g2, o2 + j * 2 + 1, none⟩ = some (.int .i64 q) ∧ Hid (Fr No w W'))) (by kernel_rfl) ?_ (fun hHeld => ?_)
                · (try dsimp only); (first | (go_split_ands; exact ⟨kc f (by assumption), kc f (by assumption), kc f (by assumption), kc f (by assumption), by assumption⟩) | (go_split_ands; exact ⟨(by assumption), (by assumption), (by assumption), (by assumption), by assumption⟩) | (go_split_ands; exact ⟨kc (fr1 _ _) (by assumption), kc (fr1 _ _) (by assumption), kc (fr1 _ _) (by assumption), kc (fr1 _ _) (by assumption), kfa (by assumption)⟩))
                refine wpAnyH_take (i := 0) (v := ?v12) rfl (by kernel_rfl) (by kernel_rfl) (by kernel_rfl) (fun _ _ _ h => h) (Or.inl ⟨by kernel_rfl, ?y12⟩) (by assumption) ?_
                case y12 => (intro w hSw; (try dsimp only at hSw); go_simp; all_goals with_reducible rfl)
                try simp only [Act.put, List.getElem_toArray, List.getElem_cons_zero, List.setIfInBounds_toArray, List.set_cons_zero, List.set_cons_succ]
                refine wpAnyH_take (i := 1) (v := ?v13) rfl (by kernel_rfl) (by kernel_rfl) (by kernel_rfl) (fun _ _ _ h => h) (Or.inl ⟨by kernel_rfl, ?y13⟩) (by assumption) ?_
                case y13 => (intro w hSw; (try dsimp only at hSw); go_simp; all_goals with_reducible rfl)
                try simp only [Act.put, List.getElem_toArray, List.getElem_cons_succ, List.getElem_cons_zero, List.setIfInBounds_toArray, List.set_cons_zero, List.set_cons_succ]
                refine wpAnyH_take (i := 2) (v := ?v14) rfl (by kernel_rfl) (by kernel_rfl) (by kernel_rfl) (fun _ _ _ h => h) (Or.inl ⟨by kernel_rfl, ?y14⟩) (by assumption) ?_
                case y14 => (intro w hSw; (try dsimp only at hSw); go_simp; all_goals with_reducible rfl)
                try simp only [Act.put, List.getElem_toArray, List.getElem_cons_succ, List.getElem_cons_zero, List.setIfInBounds_toArray, List.set_cons_zero, List.set_cons_succ]
                refine wpAnyH_take (i := 3) (v := ?v15) rfl (by kernel_rfl) (by kernel_rfl) (by kernel_rfl) (fun _ _ _ h => h) (Or.inl ⟨by kernel_rfl, ?y15⟩) (by assumption) ?_
                case y15 => (intro w hSw; (try dsimp only at hSw); go_simp; all_goals with_reducible rfl)
                try simp only [Act.put, List.getElem_toArray, List.getElem_cons_succ, List.getElem_cons_zero, List.setIfInBounds_toArray, List.set_cons_zero, List.set_cons_succ]
                refine wpAnyH_take (i := 5) (v := ?v16) rfl (by kernel_rfl) (by kernel_rfl) (by kernel_rfl) (fun _ _ _ h => h) (Or.inl ⟨by kernel_rfl, ?y16⟩) (by assumption) ?_
                case y16 => (intro w hSw; (try dsimp only at hSw); go_simp; all_goals with_reducible rfl)
                try simp only [Act.put, List.getElem_toArray, List.getElem_cons_succ, List.getElem_cons_zero, List.setIfInBounds_toArray, List.set_cons_zero, List.set_cons_succ]
                refine wpAnyH_ready (rs := [4]) (by kernel_rfl) (by simp) (AllReadyH.cons rfl (fun K hK => ?_) AllReadyH.nil)
                go_simp
                go_at_call 16
                refine (end_may _ _ _ (by first | exact HMA.out | exact HMB.out)).mono ?_
                rintro e W1 ⟨rfl, f⟩
                have FW := kf f hHeld.2.2.2.2
                have OX := ko f OX
                have BX := kb f BX
                dsimp only
                refine hK.out _ _ ?_ (fun hHeld => ?_)
                · (try dsimp only); (first | (go_split_ands; exact ⟨kc f (by assumption), kc f (by assumption), kc f (by assumption), kc f (by assumption), by assumption⟩) | (go_split_ands; exact ⟨(by assumption), (by assumption), (by assumption), (by assumption), by assumption⟩) | (go_split_ands; exact ⟨kc (fr1 _ _) (by assumption), kc (fr1 _ _) (by assumption), kc (fr1 _ _) (by assumption), kc (fr1 _ _) (by assumption), kfa (by assumption)⟩))
                clear hK K
                try simp only [Act.put, List.getElem_toArray, List.getElem_cons_succ, List.getElem_cons_zero, List.setIfInBounds_toArray, List.set_cons_zero, List.set_cons_succ]
                refine wpAnyH_ready (rs := [6]) (by kernel_rfl) (by simp) (AllReadyH.cons rfl (fun K hK => ?_) AllReadyH.nil)
                go_simp
                go_at_call 16
                refine (end_may _ _ _ (by first | exact HMA.out | exact HMB.out)).mono ?_
                rintro e W1 ⟨rfl, f⟩
                have FW := kf f hHeld.2.2.2.2
                have OX := ko f OX
                have BX := kb f BX
                dsimp only
                refine hK.out _ _ ?_ (fun hHeld => ?_)
                · (try dsimp only); (first | (go_split_ands; exact ⟨kc f (by assumption), kc f (by assumption), kc f (by assumption), kc f (by assumption), by assumption⟩) | (go_split_ands; exact ⟨(by assumption), (by assumption), (by assumption), (by assumption), by assumption⟩) | (go_split_ands; exact ⟨kc (fr1 _ _) (by assumption), kc (fr1 _ _) (by assumption), kc (fr1 _ _) (by assumption), kc (fr1 _ _) (by assumption), kfa (by assumption)⟩))
                clear hK K
                try simp only [Act.put, List.getElem_toArray, List.getElem_cons_succ, List.getElem_cons_zero, List.setIfInBounds_toArray, List.set_cons_zero, List.set_cons_succ]
                refine wpAnyH_take (i := 7) (v := ?v17) rfl (by kernel_rfl) (by kernel_rfl) (by kernel_rfl) (fun _ _ _ h => h) (Or.inl ⟨by kernel_rfl, ?y17⟩) (by assumption) ?_
                case y17 => (intro w hSw; (try dsimp only at hSw); go_simp; all_goals with_reducible rfl)
                try simp only [Act.put, List.getElem_toArray, List.getElem_cons_succ, List.getElem_cons_zero, List.setIfInBounds_toArray, List.set_cons_zero, List.set_cons_succ]
                refine wpAnyH_done (by kernel_rfl) ?_ _
                refine NoPanic.normal ?_
                go_wp2
                go_roundw
                case rel => exact ⟨j + 1, A5, c5, (P ++ [(u, v)]), HJ.out, by go_num, by simp, HE2.out, by have := HLN.out; simp; omega, OX.out, FW.out, BX.out, HV.out⟩
                case measure => have := HJ.out; simp [intOf]; omega
            · skip
              have c0 := BX.out.cell 0
              have c1 := BX.out.cell 1
              simp only [List.getElem?_toArray, List.getElem?_cons_zero, List.getElem?_cons_succ] at c0 c1
              have d0 := kc FW.out E0.out
              have d1 := kc FW.out E1.out
              by_cases he : a + n < b + q
              · have HE := hid (com_lt HC.out he)
                have HE2 := hid (show P ++ com (xs.drop (k + 1)) (ys.drop j) = L by have h := HE.out; rw [one, HM0.out, if_neg hv] at h; rw [HD.out]; simpa using h)
                go_wp2_with fail
                have FW := kd FW
                refine wp_region_noPanic ?_
                refine wp_region_held_drew (S := (fun W' => W'.cell? ⟨g8, 0, none⟩ = some (.int .i64 a) ∧ W'.cell? ⟨g8, 1, none⟩ = some (.int .i64 n) ∧ W'.cell? ⟨g2, o2 + j * 2, none⟩ = some (.int .i64 b) ∧ W'.cell? ⟨g2, o2 + j * 2 + 1, none⟩ = some (.int .i64 q) ∧ Hid (Fr No w W'))) (by kernel_rfl) ?_ (fun hHeld => ?_)
                · (try dsimp only); (first | (go_split_ands; exact ⟨kc f (by assumption), kc f (by assumption), kc f (by assumption), kc f (by assumption), by assumption⟩) | (go_split_ands; exact ⟨(by assumption), (by assumption), (by assumption), (by assumption), by assumption⟩) | (go_split_ands; exact ⟨kc (fr1 _ _) (by assumption), kc (fr1 _ _) (by assumption), kc (fr1 _ _) (by assumption), kc (fr1 _ _) (by assumption), kfa (by assumption)⟩))
                refine wpAnyH_take (i := 0) (v := ?v18) rfl (by kernel_rfl) (by kernel_rfl) (by kernel_rfl) (fun _ _ _ h => h) (Or.inl ⟨by kernel_rfl, ?y18⟩) (by assumption) ?_
                case y18 => (intro w hSw; (try dsimp only at hSw); go_simp; all_goals with_reducible rfl)
                try simp only [Act.put, List.getElem_toArray, List.getElem_cons_zero, List.setIfInBounds_toArray, List.set_cons_zero, List.set_cons_succ]
                refine wpAnyH_take (i := 1) (v := ?v19) rfl (by kernel_rfl) (by kernel_rfl) (by kernel_rfl) (fun _ _ _ h => h) (Or.inl ⟨by kernel_rfl, ?y19⟩) (by assumption) ?_
                case y19 => (intro w hSw; (try dsimp only at hSw); go_simp; all_goals with_reducible rfl)
                try simp only [Act.put, List.getElem_toArray, List.getElem_cons_succ, List.getElem_cons_zero, List.setIfInBounds_toArray, List.set_cons_zero, List.set_cons_succ]
                refine wpAnyH_take (i := 2) (v := ?v20) rfl (by kernel_rfl) (by kernel_rfl) (by kernel_rfl) (fun _ _ _ h => h) (Or.inl ⟨by kernel_rfl, ?y20⟩) (by assumption) ?_
                case y20 => (intro w hSw; (try dsimp only at hSw); go_simp; all_goals with_reducible rfl)
                try simp only [Act.put, List.getElem_toArray, List.getElem_cons_succ, List.getElem_cons_zero, List.setIfInBounds_toArray, List.set_cons_zero, List.set_cons_succ]
                refine wpAnyH_take (i := 3) (v := ?v21) rfl (by kernel_rfl) (by kernel_rfl) (by kernel_rfl) (fun _ _ _ h => h) (Or.inl ⟨by kernel_rfl, ?y21⟩) (by assumption) ?_
                case y21 => (intro w hSw; (try dsimp only at hSw); go_simp; all_goals with_reducible rfl)
                try simp only [Act.put, List.getElem_toArray, List.getElem_cons_succ, List.getElem_cons_zero, List.setIfInBounds_toArray, List.set_cons_zero, List.set_cons_succ]
                refine wpAnyH_take (i := 5) (v := ?v22) rfl (by kernel_rfl) (by kernel_rfl) (by kernel_rfl) (fun _ _ _ h => h) (Or.inl ⟨by kernel_rfl, ?y22⟩) (by assumption) ?_
                case y22 => (intro w hSw; (try dsimp only at hSw); go_simp; all_goals with_reducible rfl)
                try simp only [Act.put, List.getElem_toArray, List.getElem_cons_succ, List.getElem_cons_zero, List.setIfInBounds_toArray, List.set_cons_zero, List.set_cons_succ]
                refine wpAnyH_ready (rs := [4]) (by kernel_rfl) (by simp) (AllReadyH.cons rfl (fun K hK => ?_) AllReadyH.nil)
                go_simp
                go_at_call 16
                refine (end_may _ _ _ (by first | exact HMA.out | exact HMB.out)).mono ?_
                rintro e W1 ⟨rfl, f⟩
                have FW := kf f hHeld.2.2.2.2
                have OX := ko f OX
                have BX := kb f BX
                dsimp only
                refine hK.out _ _ ?_ (fun hHeld => ?_)
                · (try dsimp only); (first | (go_split_ands; exact ⟨kc f (by assumption), kc f (by assumption), kc f (by assumption), kc f (by assumption), by assumption⟩) | (go_split_ands; exact ⟨(by assumption), (by assumption), (by assumption), (by assumption), by assumption⟩) | (go_split_ands; exact ⟨kc (fr1 _ _) (by assumption), kc (fr1 _ _) (by assumption), kc (fr1 _ _) (by assumption), kc (fr1 _ _) (by assumption), kfa (by assumption)⟩))
                clear hK K
                try simp only [Act.put, List.getElem_toArray, List.getElem_cons_succ, List.getElem_cons_zero, List.setIfInBounds_toArray, List.set_cons_zero, List.set_cons_succ]
                refine wpAnyH_ready (rs := [6]) (by kernel_rfl) (by simp) (AllReadyH.cons rfl (fun K hK => ?_) AllReadyH.nil)
                go_simp
                go_at_call 16
                refine (end_may _ _ _ (by first | exact HMA.out | exact HMB.out)).mono ?_
                rintro e W1 ⟨rfl, f⟩
                have FW := kf f hHeld.2.2.2.2
                have OX := ko f OX
                have BX := kb f BX
                dsimp only
                refine hK.out _ _ ?_ (fun hHeld => ?_)
                · (try dsimp only); (first | (go_split_ands; exact ⟨kc f (by assumption), kc f (by assumption), kc f (by assumption), kc f (by assumption), by assumption⟩) | (go_split_ands; exact ⟨(by assumption), (by assumption), (by assumption), (by assumption), by assumption⟩) | (go_split_ands; exact ⟨kc (fr1 _ _) (by assumption), kc (fr1 _ _) (by assumption), kc (fr1 _ _) (by assumption), kc (fr1 _ _) (by assumption), kfa (by assumption)⟩))
                clear hK K
                try simp only [Act.put, List.getElem_toArray, List.getElem_cons_succ, List.getElem_cons_zero, List.setIfInBounds_toArray, List.set_cons_zero, List.set_cons_succ]
                refine wpAnyH_take (i := 7) (v := ?v23) rfl (by kernel_rfl) (by kernel_rfl) (by kernel_rfl) (fun _ _ _ h => h) (Or.inl ⟨by kernel_rfl, ?y23⟩) (by assumption) ?_
                case y23 => (intro w hSw; (try dsimp only at hSw); go_simp; all_goals with_reducible rfl)
                try simp only [Act.put, List.getElem_toArray, List.getElem_cons_succ, List.getElem_cons_zero, List.setIfInBounds_toArray, List.set_cons_zero, List.set_cons_succ]
                refine wpAnyH_done (by kernel_rfl) ?_ _
                refine NoPanic.normal ?_
                go_wp2
                go_roundw
                case rel => exact ⟨k + 1, j, Av, cv, P, HK.out, by have := HJ.out; omega, by go_num, rfl, by simp, HE2.out, by have := HLN.out; simp; omega, OX.out, FW.out⟩
                case measure => have := HK.out; simp [intOf]; omega
              · have HE := hid (com_ge HC.out he)
                have HE2 := hid (show P ++ com ((a, n) :: xs.drop (k + 1)) (ys.drop (j + 1)) = L by have h := HE.out; rw [one, HM0.out, if_neg hv] at h; simpa using h)
                go_wp2_with fail
                have FW := kd FW
                refine wp_region_noPanic ?_
                refine wp_region_held_drew (S := (fun W' => W'.cell? ⟨g8, 0, none⟩ = some (.int .i64 a) ∧ W'.cell? ⟨g8, 1, none⟩ = some (.int .i64 n) ∧ W'.cell? ⟨g2, o2 + j * 2, none⟩ = some (.int .i64 b) ∧ W'.cell? ⟨g2, o2 + j * 2 + 1, none⟩ = some (.int .i64 q) ∧ Hid (Fr No w W'))) (by kernel_rfl) ?_ (fun hHeld => ?_)
                · (try dsimp only); (first | (go_split_ands; exact ⟨kc f (by assumption), kc f (by assumption), kc f (by assumption), kc f (by assumption), by assumption⟩) | (go_split_ands; exact ⟨(by assumption), (by assumption), (by assumption), (by assumption), by assumption⟩) | (go_split_ands; exact ⟨kc (fr1 _ _) (by assumption), kc (fr1 _ _) (by assumption), kc (fr1 _ _) (by assumption), kc (fr1 _ _) (by assumption), kfa (by assumption)⟩))
                refine wpAnyH_take (i := 0) (v := ?v24) rfl (by kernel_rfl) (by kernel_rfl) (by kernel_rfl) (fun _ _ _ h => h) (Or.inl ⟨by kernel_rfl, ?y24⟩) (by assumption) ?_
                case y24 => (intro w hSw; (try dsimp only at hSw); go_simp; all_goals with_reducible rfl)
                try simp only [Act.put, List.getElem_toArray, List.getElem_cons_zero, List.setIfInBounds_toArray, List.set_cons_zero, List.set_cons_succ]
                refine wpAnyH_take (i := 1) (v := ?v25) rfl (by kernel_rfl) (by kernel_rfl) (by kernel_rfl) (fun _ _ _ h => h) (Or.inl ⟨by kernel_rfl, ?y25⟩) (by assumption) ?_
                case y25 => (intro w hSw; (try dsimp only at hSw); go_simp; all_goals with_reducible rfl)
                try simp only [Act.put, List.getElem_toArray, List.getElem_cons_succ, List.getElem_cons_zero, List.setIfInBounds_toArray, List.set_cons_zero, List.set_cons_succ]
                refine wpAnyH_take (i := 2) (v := ?v26) rfl (by kernel_rfl) (by kernel_rfl) (by kernel_rfl) (fun _ _ _ h => h) (Or.inl ⟨by kernel_rfl, ?y26⟩) (by assumption) ?_
                case y26 => (intro w hSw; (try dsimp only at hSw); go_simp; all_goals with_reducible rfl)
                try simp only [Act.put, List.getElem_toArray, List.getElem_cons_succ, List.getElem_cons_zero, List.setIfInBounds_toArray, List.set_cons_zero, List.set_cons_succ]
                refine wpAnyH_take (i := 3) (v := ?v27) rfl (by kernel_rfl) (by kernel_rfl) (by kernel_rfl) (fun _ _ _ h => h) (Or.inl ⟨by kernel_rfl, ?y27⟩) (by assumption) ?_
                case y27 => (intro w hSw; (try dsimp only at hSw); go_simp; all_goals with_reducible rfl)
                try simp only [Act.put, List.getElem_toArray, List.getElem_cons_succ, List.getElem_cons_zero, List.setIfInBounds_toArray, List.set_cons_zero, List.set_cons_succ]
                refine wpAnyH_take (i := 5) (v := ?v28) rfl (by kernel_rfl) (by kernel_rfl) (by kernel_rfl) (fun _ _ _ h => h) (Or.inl ⟨by kernel_rfl, ?y28⟩) (by assumption) ?_
                case y28 => (intro w hSw; (try dsimp only at hSw); go_simp; all_goals with_reducible rfl)
                try simp only [Act.put, List.getElem_toArray, List.getElem_cons_succ, List.getElem_cons_zero, List.setIfInBounds_toArray, List.set_cons_zero, List.set_cons_succ]
                refine wpAnyH_ready (rs := [4]) (by kernel_rfl) (by simp) (AllReadyH.cons rfl (fun K hK => ?_) AllReadyH.nil)
                go_simp
                go_at_call 16
                refine (end_may _ _ _ (by first | exact HMA.out | exact HMB.out)).mono ?_
                rintro e W1 ⟨rfl, f⟩
                have FW := kf f hHeld.2.2.2.2
                have OX := ko f OX
                have BX := kb f BX
                dsimp only
                refine hK.out _ _ ?_ (fun hHeld => ?_)
                · (try dsimp only); (first | (go_split_ands; exact ⟨kc f (by assumption), kc f (by assumption), kc f (by assumption), kc f (by assumption), by assumption⟩) | (go_split_ands; exact ⟨(by assumption), (by assumption), (by assumption), (by assumption), by assumption⟩) | (go_split_ands; exact ⟨kc (fr1 _ _) (by assumption), kc (fr1 _ _) (by assumption), kc (fr1 _ _) (by assumption), kc (fr1 _ _) (by assumption), kfa (by assumption)⟩))
                clear hK K
                try simp only [Act.put, List.getElem_toArray, List.getElem_cons_succ, List.getElem_cons_zero, List.setIfInBounds_toArray, List.set_cons_zero, List.set_cons_succ]
                refine wpAnyH_ready (rs := [6]) (by kernel_rfl) (by simp) (AllReadyH.cons rfl (fun K hK => ?_) AllReadyH.nil)
                go_simp
                go_at_call 16
                refine (end_may _ _ _ (by first | exact HMA.out | exact HMB.out)).mono ?_
                rintro e W1 ⟨rfl, f⟩
                have FW := kf f hHeld.2.2.2.2
                have OX := ko f OX
                have BX := kb f BX
                dsimp only
                refine hK.out _ _ ?_ (fun hHeld => ?_)
                · (try dsimp only); (first | (go_split_ands; exact ⟨kc f (by assumption), kc f (by assumption), kc f (by assumption), kc f (by assumption), by assumption⟩) | (go_split_ands; exact ⟨(by assumption), (by assumption), (by assumption), (by assumption), by assumption⟩) | (go_split_ands; exact ⟨kc (fr1 _ _) (by assumption), kc (fr1 _ _) (by assumption), kc (fr1 _ _) (by assumption), kc (fr1 _ _) (by assumption), kfa (by assumption)⟩))
                clear hK K
                try simp only [Act.put, List.getElem_toArray, List.getElem_cons_succ, List.getElem_cons_zero, List.setIfInBounds_toArray, List.set_cons_zero, List.set_cons_succ]
                refine wpAnyH_take (i := 7) (v := ?v29) rfl (by kernel_rfl) (by kernel_rfl) (by kernel_rfl) (fun _ _ _ h => h) (Or.inl ⟨by kernel_rfl, ?y29⟩) (by assumption) ?_
                case y29 => (intro w hSw; (try dsimp only at hSw); go_simp; all_goals with_reducible rfl)
                try simp only [Act.put, List.getElem_toArray, List.getElem_cons_succ, List.getElem_cons_zero, List.setIfInBounds_toArray, List.set_cons_zero, List.set_cons_succ]
                refine wpAnyH_done (by kernel_rfl) ?_ _
                refine NoPanic.normal ?_
                go_wp2
                go_roundw
                case rel => exact ⟨j + 1, Av, cv, P, HJ.out, by go_num, by simp, HE2.out, by have := HLN.out; simp; omega, OX.out, FW.out, BX.out, HV.out⟩
                case measure => have := HJ.out; simp [intOf]; omega
        · obtain rfl : j = m := by omega
          have hE : ys.drop j = [] := List.drop_of_length_le (by rw [HY.out.1]; exact Nat.le_refl _)
          rw [hE, com_nil2, List.append_nil] at hL
          subst hL
          have OX := hid ho
          have FW := hid hf
          clear hE ho hf hb hv
          go_wp2
          go_step3
          refine jump_on ?_
          go_wp2
          rw [Exit.noGoto_ret]
          go_ret
          exact .mk OX.out.rd FW.out
    · obtain rfl : k = l := by omega
      have hE : xs.drop k = [] := List.drop_of_length_le (by rw [HX.out.1]; exact Nat.le_refl _)
      rw [hE, com_nil, List.append_nil] at hL
      subst hL
      have OX := hid ho
      have FW := hid hf
      clear hE ho hf
      go_wp2
      go_step3
      go_wp2
      rw [jump_ret]
      go_ret
      exact .mk OX.out.rd FW.out
end Go.Proofs.Ythldppgbopiaiaa.SpT
