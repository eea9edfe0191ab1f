/- Contracts: room for so many bytes; two slices of bytes, one behind the other; a copy of bytes. Condition: no more than some millions of bytes. -/
import Derived.Test.YtcocebfipkbkiaaDoorBtA
import Derived.Test.YtcocebfipkbkiaaDoorCrcF
import Derived.Lib.AppendZeros
namespace Go.Proofs.YtcocebfipkbkiaaDoor.BtF
open Go.RowKit MSep MFrame CrcA CrcM CrcC CrcE Kit
open SpA (w64)

def OB (B : Nat) (w : World) (v : Value) (l : List Int) : Prop := w.ownsRow B 5 1 v l.length (CrcE.cells l)
theorem OB.nil (B : Nat) (w : World) : OB B w (.slice none 0 0) [] := World.ownsRow_nil w B 5 1
theorem OB.fr {B : Nat} {w w' : World} {v : Value} {l : List Int} (h : OB B w v l) (f : Fr No w w') : OB B w' v l := own_fr h f (fun _ _ h => h)
theorem OB.rd {B : Nat} {w : World} {A : Option Addr} {n c : Nat} {l : List Int} (hn : n = l.length) (h : OB B w (.slice A n c) l) : Rd w A n (l.map (Value.int .u8)) := by
  subst hn
  exact Rd.own h
theorem OB.ge {B : Nat} {w : World} {v : Value} {l : List Int} (h : OB B w v l) (k : Nat) (hk : v.ownBlock = some k) : B ≤ k := by
  rcases h.2 with ⟨rfl, _⟩ | ⟨g, cap, cur, rfl, hb, hh, _⟩
  · simp [Value.ownBlock] at hk
  · simp [Value.ownBlock] at hk
    subst hk
    exact hb
theorem OB.lim {B : Nat} {w : World} {A : Option Addr} {n c : Nat} {l : List Int} (h : OB B w (.slice A n c) l) : l.length ≤ c ∧ c ≤ maxLen := by
  rcases h.2 with ⟨hv, h0⟩ | ⟨g, cap, cur, hv, hb, hg, hnc, hcm, hcs, htake⟩
  · injection hv with h1 h2 h3
    subst h3
    exact ⟨by omega, by simp [maxLen]⟩
  · injection hv with h1 h2 h3
    subst h3
    exact ⟨hnc, hcm⟩
theorem blk_rd {w : World} {g : Nat} {t : TypeId} {xs : List Value} (h : Blk w g t xs.toArray) : Rd w (some ⟨g, 0, none⟩) xs.length xs :=
  ⟨rfl, fun _ => ⟨g, 0, rfl, Blk.lt h, fun j u hu => by rw [Nat.zero_add, Blk.cell h j]; simpa using hu⟩⟩
theorem cells_len (l : List Int) : (CrcE.cells l).length = l.length := by simp [CrcE.cells]
theorem zc_size (z : Array Value) (n : Nat) : (Builtin.zeroCells z n).size = n * z.size := by
  simp [Builtin.zeroCells]
theorem appz_b {w : World} {ops : Array Oper} {rest : List Oper} {o : Oper} {a : Act} {Q : Exit → Act → World → Prop} (hgd : o.guard = none) (s x : Operand)
    (ho : o.op = .call { callee := .builtin .append, args := #[s, x], argTypes := #[27, 3] }) (n : Nat) (hs : a.eval s = .slice none 0 0) (hx : a.eval x = .int .i64 n) (h0 : 0 < n) (hn : n ≤ 1000000000)
    (h : ∀ g c w', OB w.heap.size w' (.slice (some ⟨g, 0, none⟩) 0 c) [] → n ≤ c → c ≤ maxLen → Fr No w w' → wpList Tryd.prog ops Q rest (a.put o.dst (.slice (some ⟨g, 0, none⟩) n c)) w') :
    wpList Tryd.prog ops Q (o :: rest) a w := by
  obtain ⟨i0, hi, hz0, hz1, hz2⟩ := info_parts u8_info
  refine wpList_plain hgd fun K hK => ?_
  have hrun := Lib.run_append_nil_zeros (P := Tryd.prog) w 27 3 o.type 5 i0 (.int .u8 0) .i64 .i64 Tryd.underlying27 Tryd.underlying3 hi hz0 n h0 (by omega) (by omega) (by rw [hz2]; omega)
  unfold Oper.wp execOp
  simp only [ho, resolve, invoke, builtin, Sem.run_bind, Sem.run_pure, Result.andThen_ok, List.map_toArray, List.map_cons, List.map_nil, hs, hx, hrun]
  have hge := grownCap_ge w n 0 5
  have hle := grownCap_le_maxLen w n 0 5 (by simp only [maxLen]; omega)
  refine hK _ _ (h w.heap.size (grownCap w n 0 5) _ ?_ hge hle (((Fr.refl No w).drew).alloc _))
  refine World.ownsRow_made w.drew _ _ (Nat.le_refl _) hle ?_
  simp only [Array.size_append, zc_size]
  simp [Value.cells]
  omega
set_option maxRecDepth 100000 in
theorem grow_ok (n : Nat) (w : World) (hn : n ≤ 1000000000) : Calls Tryd.prog 68 #[.slice none 0 0, .int .i64 n] w fun e w' => ∃ A c, e = .returned (.slice A 0 c) ∧ OB w.heap.size w' (.slice A 0 c) [] ∧ Fr No w w' := by
  have h1 : ¬ (n : Int) < 0 := by omega
  have h2 : wrap64 ((n : Int) - 0) = n := w64 _ (by omega) |>.trans (by omega)
  have h3 : wrap64 (n : Int) = n := w64 _ (by omega)
  rcases Nat.eq_zero_or_pos n with h | h
  · subst h
    go_enter Tryd.func68, Tryd.ntmps68
    go_wp2
    go_ret
    exact ⟨none, 0, rfl, OB.nil _ _, Fr.refl _ _⟩
  · have h4 : (0 : Int) < n := by omega
    go_enter Tryd.func68, Tryd.ntmps68
    go_wp2_with (at_builtin; refine appz_b rfl (.tmp 20) (.tmp 21) rfl n rfl rfl h hn ?_)
    intro g c w1 o1 hc hm f1
    have O1 := hid o1
    have F1 := hid f1
    have hc0 : (0 : Int) ≤ c := by omega
    clear o1 f1 hm
    go_wp2
    go_ret
    exact ⟨_, _, rfl, O1.out, F1.out⟩
theorem app_b {w : World} {ops : Array Oper} {rest : List Oper} {o : Oper} {a : Act} {Q : Exit → Act → World → Prop} (hgd : o.guard = none) (s x : Operand)
    (ho : o.op = .call { callee := .builtin .append, args := #[s, x], argTypes := #[27, 27] })
    (B : Nat) (v : Value) (l : List Int) (hs : a.eval s = v) (hown : OB B w v l)
    (A : Option Addr) (m c : Nat) (news : List Int) (hx : a.eval x = .slice A m c) (hr : Rd w A m (news.map (Value.int .u8)))
    (hlim : l.length + m ≤ 100000000000000) (hbase : B ≤ w.heap.size)
    (h : ∀ A' c' w', OB B w' (.slice A' (l.length + m) c') (l ++ news) → Fr (fun q => v.ownBlock = some q) w w' → wpList Tryd.prog ops Q rest (a.put o.dst (.slice A' (l.length + m) c')) w') :
    wpList Tryd.prog ops Q (o :: rest) a w := by
  obtain ⟨i0, hi, hz0, hz1, hz2⟩ := info_parts u8_info
  have hm : news.length = m := by simpa using hr.1
  refine wpList_app hgd s x 27 ho B 5 i0 (.int .u8 0) 1 Tryd.underlying27 hi hz0 hz1 hz2 rfl v l.length (CrcE.cells l) hs hown A m c (CrcE.cells news) hx hr one_u8s (by simp only [maxLen]; omega) (by omega) hbase ?_
  intro A' c' w' o1 f1 _
  refine h A' c' w' ?_ f1
  have e : (l ++ news).length = l.length + m := by rw [List.length_append, hm]
  unfold OB
  rw [e, show CrcE.cells (l ++ news) = CrcE.cells l ++ CrcE.cells news by simp [CrcE.cells]]
  exact o1
def RetB (w w' : World) (e : Ending) (L : List Int) : Prop := ∃ A' c', e = .returned (.slice A' L.length c') ∧ Rd w' A' L.length (L.map (Value.int .u8)) ∧ (L.length ≤ c' ∧ c' ≤ maxLen) ∧ Fr No w w'
def sumL (n : Nat → Nat) : Nat → Nat
  | 0 => 0
  | k + 1 => sumL n k + n k
def catL (X : Nat → List Int) : Nat → List Int
  | 0 => []
  | k + 1 => catL X k ++ X k
theorem cat_len {n : Nat → Nat} {X : Nat → List Int} (h : ∀ k, k < 2 → (X k).length = n k) : ∀ k, k ≤ 2 → (catL X k).length = sumL n k
  | 0, _ => rfl
  | k + 1, hk => by rw [catL, List.length_append, cat_len h k (by omega), h k (by omega), sumL]
theorem sum_le {n : Nat → Nat} (h : ∀ k, n k ≤ 200000000) : ∀ k, sumL n k ≤ k * 200000000
  | 0 => by simp [sumL]
  | k + 1 => by
    have := sum_le h k
    have := h k
    rw [sumL]
    omega
set_option maxRecDepth 100000 in
set_option maxHeartbeats 2000000 in
theorem concat_ok (g : Nat) (c0 : Nat) (A : Nat → Option Addr) (n c : Nat → Nat) (X : Nat → List Int) (w : World) (hg : ∀ k, k < 2 → w.cell? ⟨g, 0 + k, none⟩ = some (.slice (A k) (n k) (c k))) (hn : ∀ k, n k ≤ 200000000) (hX : ∀ k, k < 2 → Rd w (A k) (n k) ((X k).map (Value.int .u8))) :
    Calls Tryd.prog 35 #[.slice (some ⟨g, 0, none⟩) 2 c0] w fun e w' => RetB w w' e (catL X 2) := by
  have HG := hid hg
  have HX := hid hX
  have HN := hid hn
  have HLX := hid (show ∀ k, k < 2 → (X k).length = n k from fun k hk => by simpa using (hX k hk).1)
  have HL := hid (cat_len (n := n) (X := X) HLX.out)
  have HS := hid (sum_le hn)
  clear hg hX hn
  go_enter Tryd.func35, Tryd.ntmps35
  go_wp2
  go_loopw [3, 11] (fun v i wr => ∃ k : Nat, k ≤ 2 ∧ i = .int .i64 k ∧ v = .int .i64 (sumL n k : Nat) ∧ Fr No w wr) (fun _ i _ => 2 - (intOf i).toNat)
  case atStart => exact ⟨0, by omega, rfl, rfl, Fr.refl _ _⟩
  case round =>
    obtain ⟨k, hk, rfl, rfl, hf⟩ := hrel
    by_cases hlt : k < 2
    · have hlt3 : (k : Int) < 2 := by omega
      have h0k : (0 : Int) ≤ k := by omega
      have hc := kc hf (HG.out k hlt)
      rw [Nat.zero_add] at hc
      have h1 := HS.out (k + 1)
      have e1 : sumL n (k + 1) = sumL n k + n k := rfl
      have hw : wrap64 ((sumL n k : Nat) + (n k : Nat)) = (sumL n (k + 1) : Nat) := by rw [e1]; exact (w64 _ (by omega)).trans (by omega)
      have E := hid hw
      obtain ⟨s, hs⟩ : ∃ s, sumL n (k + 1) = s := ⟨_, rfl⟩
      rw [hs] at hw h1
      have hs0 : ¬ (s : Int) < 0 := by omega
      have HSS := hid hs
      have FW := hid hf
      have HK := hid hlt
      clear hf hs e1 h1 hlt hk
      go_wp2
      go_roundw
      case rel => exact ⟨k + 1, HK.out, by go_num, by rw [E.out], FW.out⟩
      case measure => have := HK.out; simp [intOf]; omega
    · obtain rfl : k = 2 := by omega
      have hge : ¬ ((2 : Nat) : Int) < 2 := by omega
      have FW := hid hf
      have H3 := HS.out 2
      clear hf
      go_wp2_with fail
      refine (grow_ok (sumL n 2) _ (by omega)).mono ?_
      rintro e w1 ⟨Ag, cg, rfl, og, fg⟩
      have HH := hid (show w.heap.size ≤ wr.heap.size from FW.out.size)
      have FW := kf fg FW
      have OG := hid og
      have HZ := hid (show wr.heap.size ≤ w1.heap.size from fg.size)
      clear og fg H3
      obtain ⟨B, hB⟩ : ∃ B, wr.heap.size = B := ⟨_, rfl⟩
      rw [hB] at HH OG HZ
      clear hB
      go_wp2
      go_loopw [6, 27] (fun v i wq => ∃ (k : Nat) (A' : Option Addr) (c' : Nat), k ≤ 2 ∧ i = .int .i64 k ∧ v = .slice A' (catL X k).length c' ∧ OB B wq v (catL X k) ∧ Fr No w wq ∧ B ≤ wq.heap.size) (fun _ i _ => 2 - (intOf i).toNat)
      case atStart => exact ⟨0, Ag, cg, by omega, rfl, rfl, OG.out, FW.out, HZ.out⟩
      case round =>
        obtain ⟨k, A', c', hk, rfl, rfl, ho, hf, hz⟩ := hrel
        by_cases hlt : k < 2
        · have hlt3 : (k : Int) < 2 := by omega
          have h0k : (0 : Int) ≤ k := by omega
          have hc := kc hf (HG.out k hlt)
          rw [Nat.zero_add] at hc
          have HR := hid ((HX.out k hlt).fr hf (fun _ _ _ h => h))
          have hl := HL.out k hk
          have h1 := HS.out k
          have h2 := HN.out k
          have HLIM := hid (show (catL X k).length + n k ≤ 100000000000000 by omega)
          have FQ := hid hf
          have OQ := hid ho
          have HQ := hid hz
          have HK := hid hlt
          clear hf ho hz hl h1 h2 hlt hk
          go_wp2_with (at_builtin; refine app_b rfl (.tmp 31) (.tmp 32) rfl B _ (catL X k) rfl OQ.out _ (n k) _ (X k) rfl HR.out HLIM.out HQ.out ?_)
          intro A4 c4 w4 o4 f4
          have FQ2 := hid (show Fr No w w4 from FQ.out.step f4 (fun i hi h => by have := OQ.out.ge i h; have := HH.out; omega))
          have HQ2 := hid (Nat.le_trans HQ.out f4.size)
          have O4 := hid o4
          have E4 := hid (show (catL X k).length + n k = (catL X (k + 1)).length by rw [catL, List.length_append, HLX.out k HK.out])
          clear o4 f4
          go_wp2
          go_roundw
          case rel => exact ⟨k + 1, A4, c4, HK.out, by go_num, by rw [E4.out], O4.out, FQ2.out, HQ2.out⟩
          case measure => have := HK.out; simp [intOf]; omega
        · obtain rfl : k = 2 := by omega
          have hge : ¬ ((2 : Nat) : Int) < 2 := by omega
          have FQ := hid hf
          have OQ := hid ho
          clear hf ho hz
          go_wp2
          go_ret
          exact ⟨A', c', rfl, OB.rd rfl OQ.out, OQ.out.lim, FQ.out⟩
theorem concat2_ok (g c : Nat) (A0 A1 : Option Addr) (n0 n1 c0 c1 : Nat) (X0 X1 : List Int) (w : World) (h0 : w.cell? ⟨g, 0, none⟩ = some (.slice A0 n0 c0)) (h1 : w.cell? ⟨g, 1, none⟩ = some (.slice A1 n1 c1))
    (b0 : n0 ≤ 200000000) (b1 : n1 ≤ 200000000) (R0 : Rd w A0 n0 (X0.map (Value.int .u8))) (R1 : Rd w A1 n1 (X1.map (Value.int .u8))) :
    Calls Tryd.prog 35 #[.slice (some ⟨g, 0, none⟩) 2 c] w fun e w' => RetB w w' e (X0 ++ X1) := by
  have h := concat_ok g c (fun k => match k with | 0 => A0 | _ => A1) (fun k => match k with | 0 => n0 | _ => n1) (fun k => match k with | 0 => c0 | _ => c1) (fun k => match k with | 0 => X0 | _ => X1) w
    (fun k hk => match k, hk with | 0, _ => h0 | 1, _ => h1)
    (fun k => match k with | 0 => b0 | _ + 1 => b1)
    (fun k hk => match k, hk with | 0, _ => R0 | 1, _ => R1)
  simpa [catL] using h
set_option maxRecDepth 100000 in
theorem clone_ok (A : Option Addr) (n c : Nat) (X : List Int) (w : World) (hn : n ≤ 1000000000000) (hr : Rd w A n (X.map (Value.int .u8))) :
    Calls Tryd.prog 45 #[.slice A n c] w fun e w' => ∃ A' c', e = .returned (.slice A' n c') ∧ n ≤ c' ∧ Rd w' A' n (X.map (Value.int .u8)) ∧ (∀ g o, A' = some ⟨g, o, none⟩ → w.heap.size ≤ g) ∧ Fr No w w' := by
  have hlen : X.length = n := by simpa using hr.1
  cases A with
  | none =>
    have h0 : n = 0 := by
      rcases Nat.eq_zero_or_pos n with h | h
      · exact h
      · obtain ⟨g, o, h, _⟩ := hr.2 h
        cases h
    subst h0
    obtain rfl : X = [] := List.eq_nil_of_length_eq_zero hlen
    have hq : ∀ w, (binOp .eql 27 (.slice none 0 c) (.slice none 0 0)).run Tryd.prog w = .ok (.bool true) w := fun w => by kernel_rfl
    go_enter Tryd.func45, Tryd.ntmps45
    go_wp2
    go_ret
    exact ⟨none, 0, rfl, Nat.le_refl _, Rd.nil _ _, (fun g o h => by cases h), Fr.refl _ _⟩
  | some ad =>
    have hown0 : OB w.heap.size (w.alloc (.cells #[] 5)) (.slice (some ⟨w.heap.size, 0, none⟩) 0 0) [] := World.ownsRow_lit w #[] 0 (Nat.le_refl _) (by simp [maxLen]) rfl
    have HO := hid hown0
    have HA := hid (hr.fr (S := No) ((Fr.refl _ w).alloc (.cells #[] 5)) (fun _ _ _ h => h))
    have hq : ∀ w, (binOp .eql 27 (.slice (some ad) n c) (.slice none 0 0)).run Tryd.prog w = .ok (.bool false) w := fun w => by kernel_rfl
    clear hr hown0
    go_enter Tryd.func45, Tryd.ntmps45
    go_wp2_with (first | (at_builtin; refine app_b rfl (.tmp 5) (.tmp 6) rfl w.heap.size _ [] rfl HO.out (some ad) n c X rfl HA.out (by simp; omega) (by simp) ?_))
    intro A1 c1 w1 own1 f1
    have F1 := hid (show Fr No w w1 from ((Fr.refl No w).alloc (.cells #[] 5)).step f1 (fun i hi h => by simp [Value.ownBlock] at h; omega))
    have hcap : n ≤ c1 := by
      rcases own1.2 with ⟨hv, h0⟩ | ⟨g, cap, cur, hv, hb, hg, hnc, _⟩
      · rw [hlen] at h0
        omega
      · injection hv with h1 h2 h3
        subst h3
        rw [hlen] at hnc
        exact hnc
    have HC := hid hcap
    have O1 := hid (OB.rd hlen.symm own1)
    have OG := hid (show ∀ g o, A1 = some ⟨g, o, none⟩ → w.heap.size ≤ g from fun g o h => OB.ge own1 g (by rw [h]; rfl))
    clear own1 f1 hcap
    go_wp2
    go_ret
    exact ⟨A1, c1, rfl, HC.out, O1.out, OG.out, F1.out⟩
end Go.Proofs.YtcocebfipkbkiaaDoor.BtF
