/- Contracts: three slices of spans, one behind the other, and that what comes of it is within its capacity. Condition: no more than some thousands of spans. -/
import Derived.Test.YtoboialfaifbgaaSpL
namespace Go.Proofs.Ytoboialfaifbgaa.SpKq
open Go.RowKit MSep MSepC MSpM SpA SpB SpO SpE SpF SpG SpH SpK

def RetQS (w w' : World) (e : Ending) (L : List Sp) : Prop := ∃ A k c, e = .returned (.slice A k c) ∧ RdS w' A k L ∧ ((k ≤ c ∧ c ≤ maxLen) ∧ ∀ g o, A = some ⟨g, o, none⟩ → w.heap.size ≤ g) ∧ Fr No w w'
def RetQ (w w' : World) (e : Ending) (L : List Sp) (n : Int) : Prop := ∃ A k c, e = .returned (.tuple #[.slice A k c, .int .i64 n]) ∧ RdS w' A k L ∧ ((k ≤ c ∧ c ≤ maxLen) ∧ ∀ g o, A = some ⟨g, o, none⟩ → w.heap.size ≤ g) ∧ Fr No w w'
theorem RetQ.mk {w w' : World} {L : List Sp} {A : Option Addr} {k c : Nat} {n : Int} (h : RdS w' A k L) (b : (k ≤ c ∧ c ≤ maxLen) ∧ ∀ g o, A = some ⟨g, o, none⟩ → w.heap.size ≤ g) (f : Fr No w w') : RetQ w w' (.returned (.tuple #[.slice A k c, .int .i64 n])) L n := ⟨A, k, c, rfl, h, b, f⟩
theorem out_lim {B : Nat} {w : World} {A : Option Addr} {n c : Nat} {l : List Sp} (h : Out B w (.slice A n c) l) : n ≤ c ∧ c ≤ maxLen := by
  have h1 := h.1
  rcases h.2 with ⟨e, hn⟩ | ⟨g, cap, cur, e, hb, hh, hnc, hr⟩
  · injection e with e1 e2 e3
    subst e2 e3
    exact ⟨Nat.le_refl _, by simp [maxLen]⟩
  · injection e with e1 e2 e3
    subst e2 e3
    exact ⟨hnc, hr.1⟩

set_option maxRecDepth 100000 in
set_option maxHeartbeats 2000000 in
theorem concatq_ok (g : Nat) (c0 : Nat) (A : Nat → Option Addr) (n c : Nat → Nat) (X : Nat → List Sp) (w : World) (hg : ∀ k, k < 3 → w.cell? ⟨g, 0 + k, none⟩ = some (.slice (A k) (n k) (c k))) (hn : ∀ k, n k ≤ 5000) (hX : ∀ k, k < 3 → RdS w (A k) (n k) (X k)) :
    Calls Try.prog 104 #[.slice (some ⟨g, 0, none⟩) 3 c0] w fun e w' => RetQS w w' e (catL X 3) := by
  have HG := hid hg
  have HX := hid hX
  have HN := hid hn
  have HL := hid (cat_len (n := n) (X := X) (fun k hk => (hX k hk).1))
  have HS := hid (sum_le hn)
  clear hg hX hn
  go_enter Try.func104, Try.ntmps104
  go_wp2
  go_loopw [3, 11] (fun v i wr => ∃ k : Nat, k ≤ 3 ∧ i = .int .i64 k ∧ v = .int .i64 (sumL n k : Nat) ∧ Fr No w wr) (fun _ i _ => 3 - (intOf i).toNat)
  case atStart => exact ⟨0, by omega, rfl, rfl, Fr.refl _ _⟩
  case round =>
    obtain ⟨k, hk, rfl, rfl, hf⟩ := hrel
    by_cases hlt : k < 3
    · have hlt3 : (k : Int) < 3 := by omega
      have h0k : (0 : Int) ≤ k := by omega
      have hc := kc hf (HG.out k hlt)
      rw [Nat.zero_add] at hc
      have h1 := HS.out (k + 1)
      have e1 : sumL n (k + 1) = sumL n k + n k := rfl
      have hw : wrap64 ((sumL n k : Nat) + (n k : Nat)) = (sumL n (k + 1) : Nat) := by rw [e1]; exact (w64 _ (by omega)).trans (by omega)
      have E := hid hw
      obtain ⟨s, hs⟩ : ∃ s, sumL n (k + 1) = s := ⟨_, rfl⟩
      rw [hs] at hw h1
      have hs0 : ¬ (s : Int) < 0 := by omega
      have HSS := hid hs
      have FW := hid hf
      have HK := hid hlt
      clear hf hs e1 h1 hlt hk
      go_wp2
      go_roundw
      case rel => exact ⟨k + 1, HK.out, by go_num, by rw [E.out], FW.out⟩
      case measure => have := HK.out; simp [intOf]; omega
    · obtain rfl : k = 3 := by omega
      have hge : ¬ ((3 : Nat) : Int) < 3 := by omega
      have FW := hid hf
      have H3 := HS.out 3
      clear hf
      go_wp2_with fail
      refine (grow_ok (sumL n 3) _ (by omega)).mono ?_
      rintro e w1 ⟨Ag, cg, rfl, og, fg⟩
      have HH := hid (show w.heap.size ≤ wr.heap.size from FW.out.size)
      have FW := kf fg FW
      have OG := hid og
      have HZ := hid (show wr.heap.size ≤ w1.heap.size from fg.size)
      clear og fg H3
      obtain ⟨B, hB⟩ : ∃ B, wr.heap.size = B := ⟨_, rfl⟩
      rw [hB] at HH OG HZ
      clear hB
      go_wp2
      go_loopw [6, 27] (fun v i wq => ∃ (k : Nat) (A' : Option Addr) (c' : Nat), k ≤ 3 ∧ i = .int .i64 k ∧ v = .slice A' (catL X k).length c' ∧ Out B wq v (catL X k) ∧ Fr No w wq ∧ B ≤ wq.heap.size) (fun _ i _ => 3 - (intOf i).toNat)
      case atStart => exact ⟨0, Ag, cg, by omega, rfl, rfl, OG.out, FW.out, HZ.out⟩
      case round =>
        obtain ⟨k, A', c', hk, rfl, rfl, ho, hf, hz⟩ := hrel
        by_cases hlt : k < 3
        · have hlt3 : (k : Int) < 3 := by omega
          have h0k : (0 : Int) ≤ k := by omega
          have hc := kc hf (HG.out k hlt)
          rw [Nat.zero_add] at hc
          have HR := hid ((HX.out k hlt).fr hf)
          have hl := HL.out k hk
          have h1 := HS.out k
          have h2 := HN.out k
          have HLIM := hid (show (catL X k).length + n k ≤ 4000000000000 by omega)
          have FQ := hid hf
          have OQ := hid ho
          have HQ := hid hz
          have HK := hid hlt
          clear hf ho hz hl h1 h2 hlt hk
          go_wp2_with (at_builtin; refine app_sp rfl (.tmp 31) (.tmp 32) rfl B _ (catL X k) rfl OQ.out _ (n k) _ (X k) rfl HR.out HLIM.out HQ.out ?_)
          intro A4 c4 w4 o4 f4
          have FQ2 := hid (fr_own FQ.out OQ.out HH.out f4)
          have HQ2 := hid (Nat.le_trans HQ.out f4.size)
          have O4 := hid o4
          have E4 := hid (show (catL X k).length + n k = (catL X (k + 1)).length by rw [catL, List.length_append, HR.out.1])
          clear o4 f4
          go_wp2
          go_roundw
          case rel => exact ⟨k + 1, A4, c4, HK.out, by go_num, by rw [E4.out], O4.out, FQ2.out, HQ2.out⟩
          case measure => have := HK.out; simp [intOf]; omega
        · obtain rfl : k = 3 := by omega
          have hge : ¬ ((3 : Nat) : Int) < 3 := by omega
          have FQ := hid hf
          have OQ := hid ho
          clear hf ho hz
          go_wp2
          go_ret
          exact ⟨_, _, _, rfl, OQ.out.rd, ⟨out_lim OQ.out, fun g o e => by have h1 := (OQ.out.ge g (by rw [e]; rfl)).1; have h2 := HH.out; omega⟩, FQ.out⟩
theorem concat3q_ok (g c : Nat) (A0 A1 A2 : Option Addr) (n0 n1 n2 c0 c1 c2 : Nat) (X0 X1 X2 : List Sp) (w : World) (h0 : w.cell? ⟨g, 0, none⟩ = some (.slice A0 n0 c0)) (h1 : w.cell? ⟨g, 1, none⟩ = some (.slice A1 n1 c1)) (h2 : w.cell? ⟨g, 2, none⟩ = some (.slice A2 n2 c2))
    (b0 : n0 ≤ 5000) (b1 : n1 ≤ 5000) (b2 : n2 ≤ 5000) (R0 : RdS w A0 n0 X0) (R1 : RdS w A1 n1 X1) (R2 : RdS w A2 n2 X2) :
    Calls Try.prog 104 #[.slice (some ⟨g, 0, none⟩) 3 c] w fun e w' => RetQS w w' e (X0 ++ X1 ++ X2) := by
  have h := concatq_ok g c (fun k => match k with | 0 => A0 | 1 => A1 | _ => A2) (fun k => match k with | 0 => n0 | 1 => n1 | _ => n2) (fun k => match k with | 0 => c0 | 1 => c1 | _ => c2) (fun k => match k with | 0 => X0 | 1 => X1 | _ => X2) w
    (fun k hk => match k, hk with | 0, _ => h0 | 1, _ => h1 | 2, _ => h2)
    (fun k => match k with | 0 => b0 | 1 => b1 | _ + 2 => b2)
    (fun k hk => match k, hk with | 0, _ => R0 | 1, _ => R1 | 2, _ => R2)
  simpa [catL] using h
end Go.Proofs.Ytoboialfaifbgaa.SpKq
