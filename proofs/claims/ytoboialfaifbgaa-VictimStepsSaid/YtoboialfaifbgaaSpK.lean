/- Contracts: room for so many spans; three slices of spans, one behind the other. Condition: no more than some thousands of spans. -/
import Derived.Test.YtoboialfaifbgaaSpJ
import Derived.Lib.AppendZeros
namespace Go.Proofs.Ytoboialfaifbgaa.SpK
open Go.RowKit MSep MSepC MSpM SpA SpB SpO SpE SpF SpG SpH

theorem zc_size (z : Array Value) (n : Nat) : (Builtin.zeroCells z n).size = n * z.size := by
  simp [Builtin.zeroCells]
/-- 'append(nil, make([]Span, n)...)'. -/
theorem appz_nil {w : World} {ops : Array Oper} {rest : List Oper} {o : Oper} {a : Act} {Q : Exit → Act → World → Prop} (hgd : o.guard = none) (s x : Operand)
    (ho : o.op = .call { callee := .builtin .append, args := #[s, x], argTypes := #[64, 3] }) (n : Nat) (hs : a.eval s = .slice none 0 0) (hx : a.eval x = .int .i64 n) (h0 : 0 < n) (hn : n ≤ 1000000)
    (h : ∀ g c w', Out w.heap.size w' (.slice (some ⟨g, 0, none⟩) 0 c) [] → n ≤ c → c ≤ maxLen → Fr No w w' → wpList Try.prog ops Q rest (a.put o.dst (.slice (some ⟨g, 0, none⟩) n c)) w') :
    wpList Try.prog ops Q (o :: rest) a w := by
  obtain ⟨i0, z0, hi, hz0, hz1, hz2, hz3⟩ := info23
  refine wpList_plain hgd fun K hK => ?_
  have hrun := Lib.run_append_nil_zeros (P := Try.prog) w 64 3 o.type 68 i0 z0 .i64 .i64 Try.underlying64 Try.underlying3 hi hz0 n h0 (by omega) (by omega) (by rw [hz2]; omega)
  unfold Oper.wp execOp
  simp only [ho, resolve, invoke, builtin, Sem.run_bind, Sem.run_pure, Result.andThen_ok, List.map_toArray, List.map_cons, List.map_nil, hs, hx, hrun]
  have hge := grownCap_ge w n 0 68
  have hle := grownCap_le_maxLen w n 0 68 (by simp only [maxLen]; omega)
  refine hK _ _ (h w.heap.size (grownCap w n 0 68) _ ?_ hge hle (((Fr.refl No w).drew).alloc _))
  refine World.ownsRow_made w.drew _ _ (Nat.le_refl _) hle ?_
  simp only [Array.size_append, zc_size, hz3]
  omega
set_option maxRecDepth 100000 in
theorem grow_ok (n : Nat) (w : World) (hn : n ≤ 1000000) : Calls Try.prog 120 #[.slice none 0 0, .int .i64 n] w fun e w' => ∃ A c, e = .returned (.slice A 0 c) ∧ Out w.heap.size w' (.slice A 0 c) [] ∧ Fr No w w' := by
  have h1 : ¬ (n : Int) < 0 := by omega
  have h2 : wrap64 ((n : Int) - 0) = n := w64 _ (by omega) |>.trans (by omega)
  have h3 : wrap64 (n : Int) = n := w64 _ (by omega)
  rcases Nat.eq_zero_or_pos n with h | h
  · subst h
    go_enter Try.func120, Try.ntmps120
    go_wp2
    go_ret
    exact ⟨none, 0, rfl, Out.nil _ _, Fr.refl _ _⟩
  · have h4 : (0 : Int) < n := by omega
    go_enter Try.func120, Try.ntmps120
    go_wp2_with (at_builtin; refine appz_nil rfl (.tmp 20) (.tmp 21) rfl n rfl rfl h hn ?_)
    intro g c w1 o1 hc hm f1
    have O1 := hid o1
    have F1 := hid f1
    have hc0 : (0 : Int) ≤ c := by omega
    clear o1 f1 hm
    go_wp2
    go_ret
    exact ⟨_, _, rfl, O1.out, F1.out⟩

/-- The lengths of the first k. -/
def sumL (n : Nat → Nat) : Nat → Nat
  | 0 => 0
  | k + 1 => sumL n k + n k
def catL (X : Nat → List Sp) : Nat → List Sp
  | 0 => []
  | k + 1 => catL X k ++ X k
theorem cat_len {n : Nat → Nat} {X : Nat → List Sp} (h : ∀ k, k < 3 → (X k).length = n k) : ∀ k, k ≤ 3 → (catL X k).length = sumL n k
  | 0, _ => rfl
  | k + 1, hk => by rw [catL, List.length_append, cat_len h k (by omega), h k (by omega), sumL]
theorem sum_le {n : Nat → Nat} (h : ∀ k, n k ≤ 5000) : ∀ k, sumL n k ≤ k * 5000
  | 0 => by simp [sumL]
  | k + 1 => by
    have := sum_le h k
    have := h k
    rw [sumL]
    omega

set_option maxRecDepth 100000 in
set_option maxHeartbeats 2000000 in
theorem concat_ok (g : Nat) (c0 : Nat) (A : Nat → Option Addr) (n c : Nat → Nat) (X : Nat → List Sp) (w : World) (hg : ∀ k, k < 3 → w.cell? ⟨g, 0 + k, none⟩ = some (.slice (A k) (n k) (c k))) (hn : ∀ k, n k ≤ 5000) (hX : ∀ k, k < 3 → RdS w (A k) (n k) (X k)) :
    Calls Try.prog 104 #[.slice (some ⟨g, 0, none⟩) 3 c0] w fun e w' => RetS w w' e (catL X 3) := by
  have HG := hid hg
  have HX := hid hX
  have HN := hid hn
  have HL := hid (cat_len (n := n) (X := X) (fun k hk => (hX k hk).1))
  have HS := hid (sum_le hn)
  clear hg hX hn
  go_enter Try.func104, Try.ntmps104
  go_wp2
  go_loopw [3, 11] (fun v i wr => ∃ k : Nat, k ≤ 3 ∧ i = .int .i64 k ∧ v = .int .i64 (sumL n k : Nat) ∧ Fr No w wr) (fun _ i _ => 3 - (intOf i).toNat)
  case atStart => exact ⟨0, by omega, rfl, rfl, Fr.refl _ _⟩
  case round =>
    obtain ⟨k, hk, rfl, rfl, hf⟩ := hrel
    by_cases hlt : k < 3
    · have hlt3 : (k : Int) < 3 := by omega
      have h0k : (0 : Int) ≤ k := by omega
      have hc := kc hf (HG.out k hlt)
      rw [Nat.zero_add] at hc
      have h1 := HS.out (k + 1)
      have e1 : sumL n (k + 1) = sumL n k + n k := rfl
      have hw : wrap64 ((sumL n k : Nat) + (n k : Nat)) = (sumL n (k + 1) : Nat) := by rw [e1]; exact (w64 _ (by omega)).trans (by omega)
      have E := hid hw
      obtain ⟨s, hs⟩ : ∃ s, sumL n (k + 1) = s := ⟨_, rfl⟩
      rw [hs] at hw h1
      have hs0 : ¬ (s : Int) < 0 := by omega
      have HSS := hid hs
      have FW := hid hf
      have HK := hid hlt
      clear hf hs e1 h1 hlt hk
      go_wp2
      go_roundw
      case rel => exact ⟨k + 1, HK.out, by go_num, by rw [E.out], FW.out⟩
      case measure => have := HK.out; simp [intOf]; omega
    · obtain rfl : k = 3 := by omega
      have hge : ¬ ((3 : Nat) : Int) < 3 := by omega
      have FW := hid hf
      have H3 := HS.out 3
      clear hf
      go_wp2_with fail
      refine (grow_ok (sumL n 3) _ (by omega)).mono ?_
      rintro e w1 ⟨Ag, cg, rfl, og, fg⟩
      have HH := hid (show w.heap.size ≤ wr.heap.size from FW.out.size)
      have FW := kf fg FW
      have OG := hid og
      have HZ := hid (show wr.heap.size ≤ w1.heap.size from fg.size)
      clear og fg H3
      obtain ⟨B, hB⟩ : ∃ B, wr.heap.size = B := ⟨_, rfl⟩
      rw [hB] at HH OG HZ
      clear hB
      go_wp2
      go_loopw [6, 27] (fun v i wq => ∃ (k : Nat) (A' : Option Addr) (c' : Nat), k ≤ 3 ∧ i = .int .i64 k ∧ v = .slice A' (catL X k).length c' ∧ Out B wq v (catL X k) ∧ Fr No w wq ∧ B ≤ wq.heap.size) (fun _ i _ => 3 - (intOf i).toNat)
      case atStart => exact ⟨0, Ag, cg, by omega, rfl, rfl, OG.out, FW.out, HZ.out⟩
      case round =>
        obtain ⟨k, A', c', hk, rfl, rfl, ho, hf, hz⟩ := hrel
        by_cases hlt : k < 3
        · have hlt3 : (k : Int) < 3 := by omega
          have h0k : (0 : Int) ≤ k := by omega
          have hc := kc hf (HG.out k hlt)
          rw [Nat.zero_add] at hc
          have HR := hid ((HX.out k hlt).fr hf)
          have hl := HL.out k hk
          have h1 := HS.out k
          have h2 := HN.out k
          have HLIM := hid (show (catL X k).length + n k ≤ 4000000000000 by omega)
          have FQ := hid hf
          have OQ := hid ho
          have HQ := hid hz
          have HK := hid hlt
          clear hf ho hz hl h1 h2 hlt hk
          go_wp2_with (at_builtin; refine app_sp rfl (.tmp 31) (.tmp 32) rfl B _ (catL X k) rfl OQ.out _ (n k) _ (X k) rfl HR.out HLIM.out HQ.out ?_)
          intro A4 c4 w4 o4 f4
          have FQ2 := hid (fr_own FQ.out OQ.out HH.out f4)
          have HQ2 := hid (Nat.le_trans HQ.out f4.size)
          have O4 := hid o4
          have E4 := hid (show (catL X k).length + n k = (catL X (k + 1)).length by rw [catL, List.length_append, HR.out.1])
          clear o4 f4
          go_wp2
          go_roundw
          case rel => exact ⟨k + 1, A4, c4, HK.out, by go_num, by rw [E4.out], O4.out, FQ2.out, HQ2.out⟩
          case measure => have := HK.out; simp [intOf]; omega
        · obtain rfl : k = 3 := by omega
          have hge : ¬ ((3 : Nat) : Int) < 3 := by omega
          have FQ := hid hf
          have OQ := hid ho
          clear hf ho hz
          go_wp2
          go_ret
          exact .mk OQ.out.rd FQ.out
theorem concat3_ok (g c : Nat) (A0 A1 A2 : Option Addr) (n0 n1 n2 c0 c1 c2 : Nat) (X0 X1 X2 : List Sp) (w : World) (h0 : w.cell? ⟨g, 0, none⟩ = some (.slice A0 n0 c0)) (h1 : w.cell? ⟨g, 1, none⟩ = some (.slice A1 n1 c1)) (h2 : w.cell? ⟨g, 2, none⟩ = some (.slice A2 n2 c2))
    (b0 : n0 ≤ 5000) (b1 : n1 ≤ 5000) (b2 : n2 ≤ 5000) (R0 : RdS w A0 n0 X0) (R1 : RdS w A1 n1 X1) (R2 : RdS w A2 n2 X2) :
    Calls Try.prog 104 #[.slice (some ⟨g, 0, none⟩) 3 c] w fun e w' => RetS w w' e (X0 ++ X1 ++ X2) := by
  have h := concat_ok g c (fun k => match k with | 0 => A0 | 1 => A1 | _ => A2) (fun k => match k with | 0 => n0 | 1 => n1 | _ => n2) (fun k => match k with | 0 => c0 | 1 => c1 | _ => c2) (fun k => match k with | 0 => X0 | 1 => X1 | _ => X2) w
    (fun k hk => match k, hk with | 0, _ => h0 | 1, _ => h1 | 2, _ => h2)
    (fun k => match k with | 0 => b0 | 1 => b1 | _ + 2 => b2)
    (fun k hk => match k, hk with | 0, _ => R0 | 1, _ => R1 | 2, _ => R2)
  simpa [catL] using h
end Go.Proofs.Ytoboialfaifbgaa.SpK
