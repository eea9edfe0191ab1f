/- Contract: what two sets have in common, as the document's answer reckons it. Conditions: the slices read as sets' spans, at most 2000 each. -/
import Derived.Test.YthldppgbopiaiaaSpQ
import Derived.Deep.DeepCutAuto
namespace Go.Proofs.Ythldppgbopiaiaa.SpS
open Go.RowKit MSep MSepC MSpM MSpN SpA SpB SpO SpE SpF SpG SpH SpI SpQ

theorem out_set {B g : Nat} {W : World} {v x y : Value} {l : List Sp} (o : Out B W v l) (hg : ∀ q, v.ownBlock = some q → q ≠ g) : Out B ((W.setCell ⟨g, 0, none⟩ x).setCell ⟨g, 1, none⟩ y) v l :=
  own_fr (own_fr o (Fr.set1 W g 0 x) (fun q hq h => hg q hq h)) (Fr.set1 _ g 1 y) (fun q hq h => hg q hq h)
theorem fr1d (w : World) (A : Obj) : Fr No w (w.alloc A).drew := (fr1 w A).drew
theorem kfae {a b : World} {o : Obj} (h : Hid (Fr No a b.drew)) : Hid (Fr No a (b.alloc o).drew) := hid (h.out.alloc o)
theorem one_len (s t : Sp) : (one s t).length ≤ 1 := by unfold one; split <;> simp
theorem row_len (s : Sp) : ∀ b : List Sp, (b.flatMap fun t => one s t).length ≤ b.length
  | [] => by simp
  | t :: b => by
    have := row_len s b
    have := one_len s t
    simp only [List.flatMap_cons, List.length_append, List.length_cons]
    omega
theorem rboth_len (b : List Sp) : ∀ a : List Sp, (rboth a b).length ≤ a.length * b.length
  | [] => by simp [rboth]
  | s :: a => by
    have h1 := rboth_len b a
    have h2 := row_len s b
    unfold rboth at h1 ⊢
    simp only [List.flatMap_cons, List.length_append, List.length_cons, Nat.add_mul, Nat.one_mul]
    omega
theorem both_snoc {xs ys : List Sp} {k : Nat} {s : Sp} (h : xs[k]? = some s) : rboth (xs.take (k + 1)) ys = rboth (xs.take k) ys ++ ys.flatMap fun t => one s t := by
  rw [take_snoc h, rboth, List.flatMap_append]
  simp [rboth]
theorem row_snoc {ys : List Sp} {j : Nat} {s t : Sp} (h : ys[j]? = some t) : ((ys.take (j + 1)).flatMap fun t => one s t) = ((ys.take j).flatMap fun t => one s t) ++ one s t := by
  rw [take_snoc h, List.flatMap_append]
  simp
theorem both_len {xs ys : List Sp} {l m k j : Nat} (s : Sp) (hx : xs.length = l) (hy : ys.length = m) (hl : l ≤ 2000) (hm : m ≤ 2000) : (rboth (xs.take k) ys ++ (ys.take j).flatMap fun t => one s t).length ≤ 4002000 := by
  have h1 := rboth_len ys (xs.take k)
  have h2 := row_len s (ys.take j)
  have h3 : (xs.take k).length ≤ 2000 := by simp; omega
  have h4 : (ys.take j).length ≤ 2000 := by simp; omega
  have h5 : (xs.take k).length * ys.length ≤ 2000 * 2000 := Nat.mul_le_mul h3 (by omega)
  rw [List.length_append]
  omega

set_option maxRecDepth 100000 in
set_option maxHeartbeats 8000000 in
theorem rBoth_ok (A B : Option Addr) (l c m d : Nat) (xs ys : List Sp) (w : World) (hl : l ≤ 2000) (hm : m ≤ 2000) (hx : RdS w A l xs) (hy : RdS w B m ys) (hmx : ∀ s ∈ xs, may s) (hmy : ∀ s ∈ ys, may s) :
    Calls Try.prog 33 #[.slice A l c, .slice B m d] w fun e w' => RetS w w' e (rboth xs ys) := by
  have HX := hid hx
  have HY := hid hy
  have HMX := hid hmx
  have HMY := hid hmy
  clear hx hy hmx hmy
  go_enter Try.func33, Try.ntmps33
  go_wp2
  go_loopw [5, 6] (fun v i wr => ∃ (k : Nat) (A : Option Addr) (c : Nat), k ≤ l ∧ i = .int .i64 k ∧ v = .slice A (rboth (xs.take k) ys).length c ∧ Out w.heap.size wr v (rboth (xs.take k) ys) ∧ Fr No w wr) (fun _ i _ => l - (intOf i).toNat)
  case atStart => exact ⟨0, none, 0, by omega, rfl, by simp [rboth], Out.nil _ _, Fr.refl _ _⟩
  case round =>
    obtain ⟨k, Av, cv, hk, rfl, rfl, ho, hf⟩ := hrel
    by_cases hlt : k < l
    · have hk1 : k < xs.length := by rw [HX.out.1]; exact hlt
      obtain ⟨⟨a, n⟩, hx⟩ : ∃ x, xs[k]? = some x := ⟨_, List.getElem?_eq_getElem hk1⟩
      have HXk := hid hx
      have HMA := hid (HMX.out _ (List.mem_of_getElem? hx))
      have hlt3 : (k : Int) < l := by omega
      have h0k : (0 : Int) ≤ k := by omega
      have HO := hid ho
      have HF := hid hf
      have HK := hid hlt
      clear hx hk1 hf ho hk hlt
      go_wp2
      go_loopw [5, 7] (fun v i wi => ∃ (j : Nat) (A : Option Addr) (c : Nat), j ≤ m ∧ i = .int .i64 j ∧ v = .slice A (rboth (xs.take k) ys ++ (ys.take j).flatMap fun t => one (a, n) t).length c ∧ Out w.heap.size wi v (rboth (xs.take k) ys ++ (ys.take j).flatMap fun t => one (a, n) t) ∧ Fr No w wi) (fun _ i _ => m - (intOf i).toNat)
      case atStart => exact ⟨0, Av, cv, by omega, rfl, by simp, by simpa using HO.out, HF.out⟩
      case round =>
        obtain ⟨j, Aj, cj, hj, rfl, rfl, ho, hf⟩ := hrel
        by_cases hlt : j < m
        · have hj1 : j < ys.length := by rw [HY.out.1]; exact hlt
          obtain ⟨⟨b, q⟩, hy⟩ : ∃ y, ys[j]? = some y := ⟨_, List.getElem?_eq_getElem hj1⟩
          have HYj := hid hy
          have HMB := hid (HMY.out _ (List.mem_of_getElem? hy))
          obtain ⟨⟨u, v⟩, hX⟩ : ∃ X, meet0 (a, n) (b, q) = X := ⟨_, rfl⟩
          have HM0 := hid hX
          have HLN := hid (both_len (k := k) (j := j) (a, n) HX.out.1 HY.out.1 hl hm)
          obtain ⟨P, hP⟩ : ∃ P, rboth (xs.take k) ys ++ ((ys.take j).flatMap fun t => one (a, n) t) = P := ⟨_, rfl⟩
          have HP := hid hP
          rw [hP] at ho HLN ⊢
          obtain ⟨g, o, rfl, hg, hc⟩ := (HX.out.fr hf).at_ (by have := HK.out; omega)
          obtain ⟨c0, c1⟩ := hc k _ HXk.out
          obtain ⟨g2, o2, rfl, hg2, hc2⟩ := (HY.out.fr hf).at_ (by omega)
          obtain ⟨d0, d1⟩ := hc2 j _ HYj.out
          simp only [] at c0 c1 d0 d1
          have hjt3 : (j : Int) < m := by omega
          have h0j : (0 : Int) ≤ j := by omega
          have hsz := hf.size
          have FW := hid hf
          have OX := hid ho
          have HV := hid (fun q h => (ho.ge q h).2)
          have HJ := hid hlt
          clear hc hc2 hy hj1 hf ho hj hlt hX hP
          go_upto_region 8 with fail
          go_cut [8] (fun mp wx => ∃ mb : Nat, mp = .pointer (some ⟨mb, 0, none⟩) ∧ Blk wx mb 23 #[.int .i64 u, .int .i64 v] ∧ Out w.heap.size wx (.slice Aj P.length cj) P ∧ Fr No w wx)
          case first =>
            have FW := kd FW
            refine wp_region_noPanic ?_
            refine wp_region_held_drew (S := (fun W' => W'.cell? ⟨g, o + k * 2, none⟩ = some (.int .i64 a) ∧ W'.cell? ⟨g, o + k * 2 + 1, none⟩ = some (.int .i64 n) ∧ W'.cell? ⟨g2, o2 + j * 2, none⟩ = some (.int .i64 b) ∧ W'.cell? ⟨g2, o2 + j * 2 + 1, none⟩ = some (.int .i64 q) ∧ Hid (Fr No w W'))) (by kernel_rfl) ?_ (fun hHeld => ?_)
            · (try dsimp only); (first | (go_split_ands; exact ⟨kc f (by assumption), kc f (by assumption), kc f (by assumption), kc f (by assumption), by assumption⟩) | (go_split_ands; exact ⟨(by assumption), (by assumption), (by assumption), (by assumption), by assumption⟩) | (go_split_ands; exact ⟨kc (fr1 _ _) (by assumption), kc (fr1 _ _) (by assumption), kc (fr1 _ _) (by assumption), kc (fr1 _ _) (by assumption), kfa (by assumption)⟩) | (go_split_ands; exact ⟨kc (fr1d _ _) (by assumption), kc (fr1d _ _) (by assumption), kc (fr1d _ _) (by assumption), kc (fr1d _ _) (by assumption), kfae (by assumption)⟩) | (go_split_ands; exact ⟨ks (by simp only []; omega) (by assumption), ks (by simp only []; omega) (by assumption), ks (by simp only []; omega) (by assumption), ks (by simp only []; omega) (by assumption), kfs (by omega) (by assumption)⟩))
            refine wpAnyH_take (i := 0) (v := ?v1) rfl (by kernel_rfl) (by kernel_rfl) (by kernel_rfl) (fun _ _ _ h => h) (Or.inl ⟨by kernel_rfl, ?y1⟩) (by assumption) ?_
            case y1 => (intro w hSw; (try dsimp only at hSw); go_simp; all_goals with_reducible rfl)
            try simp only [Act.put, List.getElem_toArray, List.getElem_cons_zero, List.setIfInBounds_toArray, List.set_cons_zero, List.set_cons_succ]
            refine wpAnyH_take (i := 1) (v := ?v2) rfl (by kernel_rfl) (by kernel_rfl) (by kernel_rfl) (fun _ _ _ h => h) (Or.inl ⟨by kernel_rfl, ?y2⟩) (by assumption) ?_
            case y2 => (intro w hSw; (try dsimp only at hSw); go_simp; all_goals with_reducible rfl)
            try simp only [Act.put, List.getElem_toArray, List.getElem_cons_succ, List.getElem_cons_zero, List.setIfInBounds_toArray, List.set_cons_zero, List.set_cons_succ]
            refine wpAnyH_take (i := 2) (v := ?v3) rfl (by kernel_rfl) (by kernel_rfl) (by kernel_rfl) (fun _ _ _ h => h) (Or.inl ⟨by kernel_rfl, ?y3⟩) (by assumption) ?_
            case y3 => (intro w hSw; (try dsimp only at hSw); go_simp; all_goals with_reducible rfl)
            try simp only [Act.put, List.getElem_toArray, List.getElem_cons_succ, List.getElem_cons_zero, List.setIfInBounds_toArray, List.set_cons_zero, List.set_cons_succ]
            refine wpAnyH_take (i := 3) (v := ?v4) rfl (by kernel_rfl) (by kernel_rfl) (by kernel_rfl) (fun _ _ _ h => h) (Or.inl ⟨by kernel_rfl, ?y4⟩) (by assumption) ?_
            case y4 => (intro w hSw; (try dsimp only at hSw); go_simp; all_goals with_reducible rfl)
            try simp only [Act.put, List.getElem_toArray, List.getElem_cons_succ, List.getElem_cons_zero, List.setIfInBounds_toArray, List.set_cons_zero, List.set_cons_succ]
            refine wpAnyH_take (i := 4) (v := ?v5) rfl (by kernel_rfl) (by kernel_rfl) (by kernel_rfl) (fun _ _ _ h => h) (Or.inl ⟨by kernel_rfl, ?y5⟩) (by assumption) ?_
            case y5 => (intro w hSw; (try dsimp only at hSw); go_simp; all_goals with_reducible rfl)
            try simp only [Act.put, List.getElem_toArray, List.getElem_cons_succ, List.getElem_cons_zero, List.setIfInBounds_toArray, List.set_cons_zero, List.set_cons_succ]
            refine wpAnyH_take (i := 5) (v := ?v6) rfl (by kernel_rfl) (by kernel_rfl) (by kernel_rfl) (fun _ _ _ h => h) (Or.inl ⟨by kernel_rfl, ?y6⟩) (by assumption) ?_
            case y6 => (intro w hSw; (try dsimp only at hSw); go_simp; all_goals with_reducible rfl)
            try simp only [Act.put, List.getElem_toArray, List.getElem_cons_succ, List.getElem_cons_zero, List.setIfInBounds_toArray, List.set_cons_zero, List.set_cons_succ]
            refine wpAnyH_take (i := 6) (v := ?v7) rfl (by kernel_rfl) (by kernel_rfl) (by kernel_rfl) (fun _ _ _ h => h) (Or.inl ⟨by kernel_rfl, ?y7⟩) (by assumption) ?_
            case y7 => (intro w hSw; (try dsimp only at hSw); go_simp; all_goals with_reducible rfl)
            try simp only [Act.put, List.getElem_toArray, List.getElem_cons_succ, List.getElem_cons_zero, List.setIfInBounds_toArray, List.set_cons_zero, List.set_cons_succ]
            refine wpAnyH_take (i := 7) (v := ?v8) rfl (by kernel_rfl) (by kernel_rfl) (by kernel_rfl) (fun _ _ _ h => h) (Or.inl ⟨by kernel_rfl, ?y8⟩) (by assumption) ?_
            case y8 => (intro w hSw; (try dsimp only at hSw); go_simp; all_goals with_reducible rfl)
            try simp only [Act.put, List.getElem_toArray, List.getElem_cons_succ, List.getElem_cons_zero, List.setIfInBounds_toArray, List.set_cons_zero, List.set_cons_succ]
            refine wpAnyH_ready (rs := [8, 9]) (by kernel_rfl) (by simp) (AllReadyH.cons rfl (fun K hK => ?_) (AllReadyH.cons rfl (fun K hK => ?_) AllReadyH.nil))
            · go_simp
              go_at_call 18
              refine (rMeet_ok a n b q _ HMA.out HMB.out).mono ?_
              rintro e W1 ⟨rfl, f⟩
              have FW := kf f hHeld.2.2.2.2
              rw [HM0.out]
              have OX := ko f OX
              (try have MX := kb f MX)
              dsimp only
              refine hK.out _ _ ?_ (fun hHeld => ?_)
              · (try dsimp only); (first | (go_split_ands; exact ⟨kc f (by assumption), kc f (by assumption), kc f (by assumption), kc f (by assumption), by assumption⟩) | (go_split_ands; exact ⟨(by assumption), (by assumption), (by assumption), (by assumption), by assumption⟩) | (go_split_ands; exact ⟨kc (fr1 _ _) (by assumption), kc (fr1 _ _) (by assumption), kc (fr1 _ _) (by assumption), kc (fr1 _ _) (by assumption), kfa (by assumption)⟩) | (go_split_ands; exact ⟨kc (fr1d _ _) (by assumption), kc (fr1d _ _) (by assumption), kc (fr1d _ _) (by assumption), kc (fr1d _ _) (by assumption), kfae (by assumption)⟩) | (go_split_ands; exact ⟨ks (by simp only []; omega) (by assumption), ks (by simp only []; omega) (by assumption), ks (by simp only []; omega) (by assumption), ks (by simp only []; omega) (by assumption), kfs (by omega) (by assumption)⟩))
              clear hK K
              try simp only [Act.put, List.getElem_toArray, List.getElem_cons_succ, List.getElem_cons_zero, List.setIfInBounds_toArray, List.set_cons_zero, List.set_cons_succ]
              refine wpAnyH_ready (rs := [9]) (by kernel_rfl) (by simp) (AllReadyH.cons rfl (fun K hK => ?_) AllReadyH.nil)
              go_simp
              refine hK.out _ _ ?_ (fun hHeld => ?_)
              · (try dsimp only); (first | (go_split_ands; exact ⟨kc f (by assumption), kc f (by assumption), kc f (by assumption), kc f (by assumption), by assumption⟩) | (go_split_ands; exact ⟨(by assumption), (by assumption), (by assumption), (by assumption), by assumption⟩) | (go_split_ands; exact ⟨kc (fr1 _ _) (by assumption), kc (fr1 _ _) (by assumption), kc (fr1 _ _) (by assumption), kc (fr1 _ _) (by assumption), kfa (by assumption)⟩) | (go_split_ands; exact ⟨kc (fr1d _ _) (by assumption), kc (fr1d _ _) (by assumption), kc (fr1d _ _) (by assumption), kc (fr1d _ _) (by assumption), kfae (by assumption)⟩) | (go_split_ands; exact ⟨ks (by simp only []; omega) (by assumption), ks (by simp only []; omega) (by assumption), ks (by simp only []; omega) (by assumption), ks (by simp only []; omega) (by assumption), kfs (by omega) (by assumption)⟩))
              clear hK K
              try simp only [Act.put, List.getElem_toArray, List.getElem_cons_succ, List.getElem_cons_zero, List.setIfInBounds_toArray, List.set_cons_zero, List.set_cons_succ]
              skip
              refine wpAnyH_ready (rs := [10]) (by kernel_rfl) (by simp) (AllReadyH.cons rfl (fun K hK => ?_) AllReadyH.nil)
              (try have k0 := MX.out.cell 0)
              (try have k1 := MX.out.cell 1)
              (try have z0 := MX.out.frozen 0)
              (try have z1 := MX.out.frozen 1)
              (try simp only [List.getElem?_toArray, List.getElem?_cons_zero, List.getElem?_cons_succ] at k0 k1)
              go_simp
              refine hK.out _ _ ?_ (fun hHeld => ?_)
              · (try dsimp only); (first | (go_split_ands; exact ⟨kc f (by assumption), kc f (by assumption), kc f (by assumption), kc f (by assumption), by assumption⟩) | (go_split_ands; exact ⟨(by assumption), (by assumption), (by assumption), (by assumption), by assumption⟩) | (go_split_ands; exact ⟨kc (fr1 _ _) (by assumption), kc (fr1 _ _) (by assumption), kc (fr1 _ _) (by assumption), kc (fr1 _ _) (by assumption), kfa (by assumption)⟩) | (go_split_ands; exact ⟨kc (fr1d _ _) (by assumption), kc (fr1d _ _) (by assumption), kc (fr1d _ _) (by assumption), kc (fr1d _ _) (by assumption), kfae (by assumption)⟩) | (go_split_ands; exact ⟨ks (by simp only []; omega) (by assumption), ks (by simp only []; omega) (by assumption), ks (by simp only []; omega) (by assumption), ks (by simp only []; omega) (by assumption), kfs (by omega) (by assumption)⟩))
              clear hK K
              try simp only [Act.put, List.getElem_toArray, List.getElem_cons_succ, List.getElem_cons_zero, List.setIfInBounds_toArray, List.set_cons_zero, List.set_cons_succ]
              refine wpAnyH_done (by kernel_rfl) ?_ _
              refine NoPanic.normal ?_
              go_wp2_with fail
              go_meet
              case rel => exact ⟨_, rfl, Blk.new W1 23 _, OX.out.fr (fr1 _ _), FW.out.alloc _⟩
            · go_simp
              refine hK.out _ _ ?_ (fun hHeld => ?_)
              · (try dsimp only); (first | (go_split_ands; exact ⟨kc f (by assumption), kc f (by assumption), kc f (by assumption), kc f (by assumption), by assumption⟩) | (go_split_ands; exact ⟨(by assumption), (by assumption), (by assumption), (by assumption), by assumption⟩) | (go_split_ands; exact ⟨kc (fr1 _ _) (by assumption), kc (fr1 _ _) (by assumption), kc (fr1 _ _) (by assumption), kc (fr1 _ _) (by assumption), kfa (by assumption)⟩) | (go_split_ands; exact ⟨kc (fr1d _ _) (by assumption), kc (fr1d _ _) (by assumption), kc (fr1d _ _) (by assumption), kc (fr1d _ _) (by assumption), kfae (by assumption)⟩) | (go_split_ands; exact ⟨ks (by simp only []; omega) (by assumption), ks (by simp only []; omega) (by assumption), ks (by simp only []; omega) (by assumption), ks (by simp only []; omega) (by assumption), kfs (by omega) (by assumption)⟩))
              clear hK K
              try simp only [Act.put, List.getElem_toArray, List.getElem_cons_succ, List.getElem_cons_zero, List.setIfInBounds_toArray, List.set_cons_zero, List.set_cons_succ]
              have OX := hid (OX.out.fr (fr1d _ (.cells #[.int .i64 0, .int .i64 0] 23))); have MX := hid (show Blk _ wr.heap.size 23 #[.int .i64 0, .int .i64 0] from Blk.new wr 23 #[.int .i64 0, .int .i64 0])
              refine wpAnyH_ready (rs := [8]) (by kernel_rfl) (by simp) (AllReadyH.cons rfl (fun K hK => ?_) AllReadyH.nil)
              go_simp
              go_at_call 18
              refine (rMeet_ok a n b q _ HMA.out HMB.out).mono ?_
              rintro e W1 ⟨rfl, f⟩
              have FW := kf f hHeld.2.2.2.2
              rw [HM0.out]
              have OX := ko f OX
              (try have MX := kb f MX)
              dsimp only
              refine hK.out _ _ ?_ (fun hHeld => ?_)
              · (try dsimp only); (first | (go_split_ands; exact ⟨kc f (by assumption), kc f (by assumption), kc f (by assumption), kc f (by assumption), by assumption⟩) | (go_split_ands; exact ⟨(by assumption), (by assumption), (by assumption), (by assumption), by assumption⟩) | (go_split_ands; exact ⟨kc (fr1 _ _) (by assumption), kc (fr1 _ _) (by assumption), kc (fr1 _ _) (by assumption), kc (fr1 _ _) (by assumption), kfa (by assumption)⟩) | (go_split_ands; exact ⟨kc (fr1d _ _) (by assumption), kc (fr1d _ _) (by assumption), kc (fr1d _ _) (by assumption), kc (fr1d _ _) (by assumption), kfae (by assumption)⟩) | (go_split_ands; exact ⟨ks (by simp only []; omega) (by assumption), ks (by simp only []; omega) (by assumption), ks (by simp only []; omega) (by assumption), ks (by simp only []; omega) (by assumption), kfs (by omega) (by assumption)⟩))
              clear hK K
              try simp only [Act.put, List.getElem_toArray, List.getElem_cons_succ, List.getElem_cons_zero, List.setIfInBounds_toArray, List.set_cons_zero, List.set_cons_succ]
              refine wpAnyH_ready (rs := [10]) (by kernel_rfl) (by simp) (AllReadyH.cons rfl (fun K hK => ?_) AllReadyH.nil)
              (try have k0 := MX.out.cell 0)
              (try have k1 := MX.out.cell 1)
              (try have z0 := MX.out.frozen 0)
              (try have z1 := MX.out.frozen 1)
              (try simp only [List.getElem?_toArray, List.getElem?_cons_zero, List.getElem?_cons_succ] at k0 k1)
              go_simp
              refine hK.out _ _ ?_ (fun hHeld => ?_)
              · (try dsimp only); (first | (go_split_ands; exact ⟨kc f (by assumption), kc f (by assumption), kc f (by assumption), kc f (by assumption), by assumption⟩) | (go_split_ands; exact ⟨(by assumption), (by assumption), (by assumption), (by assumption), by assumption⟩) | (go_split_ands; exact ⟨kc (fr1 _ _) (by assumption), kc (fr1 _ _) (by assumption), kc (fr1 _ _) (by assumption), kc (fr1 _ _) (by assumption), kfa (by assumption)⟩) | (go_split_ands; exact ⟨kc (fr1d _ _) (by assumption), kc (fr1d _ _) (by assumption), kc (fr1d _ _) (by assumption), kc (fr1d _ _) (by assumption), kfae (by assumption)⟩) | (go_split_ands; exact ⟨ks (by simp only []; omega) (by assumption), ks (by simp only []; omega) (by assumption), ks (by simp only []; omega) (by assumption), ks (by simp only []; omega) (by assumption), kfs (by omega) (by assumption)⟩))
              clear hK K
              try simp only [Act.put, List.getElem_toArray, List.getElem_cons_succ, List.getElem_cons_zero, List.setIfInBounds_toArray, List.set_cons_zero, List.set_cons_succ]
              refine wpAnyH_done (by kernel_rfl) ?_ _
              refine NoPanic.normal ?_
              go_wp2_with fail
              go_meet
              case rel => exact ⟨_, rfl, (MX.out.set_ 0 _).set_ 1 _, out_set OX.out (fun q h => by have := HV.out q h; omega), (kfs (by omega) FW).out⟩
          case rest =>
            obtain ⟨mb, rfl, hB, hO, hF⟩ := hcut
            have hb0 := hB.cell 0
            have hb1 := hB.cell 1
            simp only [List.getElem?_toArray, List.getElem?_cons_zero, List.getElem?_cons_succ] at hb0 hb1
            have FW := hid hF
            have OX := hid hO
            have HH := hid (Nat.le_trans FW.out.size (Nat.le_refl _))
            clear hB hO hF
            by_cases hv : 0 < v
            · have HE := hid (show rboth (xs.take k) ys ++ ((ys.take (j + 1)).flatMap fun t => one (a, n) t) = P ++ [(u, v)] by rw [row_snoc HYj.out, ← List.append_assoc, HP.out, one, HM0.out, if_pos hv])
              go_wp2_with (at_builtin; refine app_sp rfl (.tmp 33) (.tmp 35) rfl w.heap.size _ P rfl (ko (fr1 _ _) OX).out _ 1 _ [(u, v)] rfl (lit_rd2 _ _ _ _ (by simp)) (by have := HLN.out; omega) (by have := HH.out; simp; omega) ?_)
              intro A5 c5 w5 o5 f5
              have FW := hid (fr_own (FW.out.alloc _) (ko (fr1 _ _) OX).out (Nat.le_refl _) f5)
              have O5 := hid o5
              clear o5 f5 hb0 hb1
              go_wp2
              go_roundw
              case rel => exact ⟨j + 1, A5, c5, HJ.out, by go_num, by rw [HE.out]; simp, by rw [HE.out]; exact O5.out, FW.out⟩
              case measure => have := HJ.out; simp [intOf]; omega
            · have HE := hid (show rboth (xs.take k) ys ++ ((ys.take (j + 1)).flatMap fun t => one (a, n) t) = P by rw [row_snoc HYj.out, ← List.append_assoc, HP.out, one, HM0.out, if_neg hv]; simp)
              go_wp2
              go_roundw
              case rel => exact ⟨j + 1, Aj, cj, HJ.out, by go_num, by rw [HE.out], by rw [HE.out]; exact OX.out, FW.out⟩
              case measure => have := HJ.out; simp [intOf]; omega
        · obtain rfl : j = m := by omega
          have hE : ys.take j = ys := List.take_of_length_le (by rw [HY.out.1]; exact Nat.le_refl _)
          rw [hE, ← both_snoc HXk.out] at ho ⊢
          have OX := hid ho
          have FW := hid hf
          clear hE ho hf
          go_wp2
          go_roundw
          case rel => exact ⟨k + 1, Aj, cj, HK.out, by go_num, rfl, OX.out, FW.out⟩
          case measure => have := HK.out; simp [intOf]; omega
    · obtain rfl : k = l := by omega
      have hE : xs.take k = xs := List.take_of_length_le (by rw [HX.out.1]; exact Nat.le_refl _)
      rw [hE] at ho ⊢
      have HO := hid ho
      have FW := hid hf
      clear hE ho hf
      go_wp2
      go_ret
      exact .mk HO.out.rd FW.out
end Go.Proofs.Ythldppgbopiaiaa.SpS
