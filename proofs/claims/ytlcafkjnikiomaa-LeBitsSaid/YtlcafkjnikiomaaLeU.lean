/- Contracts of le.Unpack, of the plain Unpack and Pack, and of 'looks' in the statements of layer 1. Conditions: what is handed in reads as bytes, or as bits. -/
import Derived.Test.YtlcafkjnikiomaaLeX
namespace Go.Proofs.Ytlcafkjnikiomaa.LeU
open Go.RowKit MSep MFrame LeA LeW LeR LeB LeX

/-- No bit behind bit n - 1. -/
def tailOk (n : Nat) (bs : List Int) : Bool := n % 8 == 0 || bs.getD (n / 8) 0 / 2 ^ (n % 8) == 0

theorem tail_fin : ∀ x : Fin 256, ∀ s : Fin 8, ((x.val : Int) / 2 ^ s.val == 0) = decide (∀ t : Fin 8, s.val ≤ t.val → ((x.val : Int) / 2 ^ t.val % 2 == 1) = false) := by decide +kernel
theorem tail_iff (n : Nat) (bs : List Int) (hl : bs.length = (n + 7) / 8) (hu : ∀ x ∈ bs, 0 ≤ x ∧ x ≤ 255) :
    tailOk n bs = true ↔ ∀ i, n ≤ i → i < 8 * bs.length → bitOf bs i = false := by
  by_cases h8 : n % 8 = 0
  · constructor
    · intro _ i h1 h2
      omega
    · intro _
      simp [tailOk, h8]
  · have hlt : n / 8 < bs.length := by omega
    have hx := hu _ (List.getElem_mem hlt)
    obtain ⟨m, hm⟩ := Int.eq_ofNat_of_zero_le hx.1
    have hd : bs.getD (n / 8) 0 = (m : Int) := by simp [List.getD, List.getElem?_eq_getElem hlt, hm]
    have hf := tail_fin ⟨m, by omega⟩ ⟨n % 8, by omega⟩
    simp only at hf
    have ht : tailOk n bs = ((m : Int) / 2 ^ (n % 8) == 0) := by
      rw [tailOk, hd]
      simp [h8]
    rw [ht, hf, decide_eq_true_iff]
    constructor
    · intro h i h1 h2
      have hi : i / 8 = n / 8 := by omega
      have := h ⟨i % 8, by omega⟩ (by simp; omega)
      simp only [bitOf, hi, hd]
      exact this
    · intro h t hst
      have h2 := t.isLt
      have := h (8 * (n / 8) + t.val) (by omega) (by omega)
      simp only [bitOf, show (8 * (n / 8) + t.val) / 8 = n / 8 by omega, show (8 * (n / 8) + t.val) % 8 = t.val by omega, hd] at this
      exact this

theorem unpack_arg (n : Int) (A : Option Addr) (l c : Nat) (w : World) (hn : n < 0 ∨ 65536 < n) :
    Calls Try.prog 34 #[.int .i64 n, .slice A l c] w fun e w' => e = .returned (.tuple #[.pointer none, .int .i64 1]) ∧ w = w' := by
  have hb : (decide (0 ≤ n) && decide (n ≤ 65536)) = false := by simp; omega
  go_enter Try.func34, Try.ntmps34
  go_wp2_with (go_at_call 44; refine (isRow_any _ _).mono ?_; rintro e w' ⟨rfl, rfl⟩; rw [hb])
  go_ret2
  exact ⟨rfl, rfl⟩

theorem unpack_len (n : Nat) (A : Option Addr) (l c : Nat) (w : World) (hn : n ≤ 65536) (hl : l ≠ (n + 7) / 8) (hm : l ≤ maxLen) :
    Calls Try.prog 34 #[.int .i64 n, .slice A l c] w fun e w' => e = .returned (.tuple #[.pointer none, .int .i64 10]) ∧ w = w' := by
  unfold maxLen at hm
  have hb : (decide (0 ≤ (n : Int)) && decide ((n : Int) ≤ 65536)) = true := by simp; omega
  obtain ⟨m, hmm⟩ : ∃ m, (n + 7) / 8 = m := ⟨_, rfl⟩
  have hp := packed_in n hn
  rw [hmm] at hp hl
  have HP := hid hp
  have hne : ((l : Int) != (m : Int)) = true := by rw [bne_iff_ne]; omega
  clear hmm hp
  go_enter Try.func34, Try.ntmps34
  go_wp2_with (first
    | (go_at_call 44; refine (isRow_any _ _).mono ?_; rintro e w' ⟨rfl, rfl⟩; rw [hb])
    | (go_at_call 45; refine (HP.out _).mono ?_; rintro e w' ⟨rfl, rfl⟩))
  go_ret2
  exact ⟨rfl, rfl⟩

theorem byte_at {w : World} {A : Option Addr} {l c : Nat} {bs : List Int} (h : IsB w A l c bs) (k : Nat) (hk : k < l) : ∃ d o x, A = some ⟨d, o, none⟩ ∧ bs[k]? = some x ∧ bs.getD k 0 = x ∧ w.cell? ⟨d, o + k, none⟩ = some (.int .u8 x) ∧ 0 ≤ x ∧ x ≤ 255 := by
  have hl : bs.length = l := by simpa using h.1.1
  obtain ⟨d, o, e, _, hc⟩ := h.1.2 (by omega)
  have hkl : k < bs.length := by omega
  have hx := h.2.2.2 _ (List.getElem_mem hkl)
  exact ⟨d, o, bs[k], e, List.getElem?_eq_getElem hkl, by simp [List.getD, List.getElem?_eq_getElem hkl], hc k _ (by simp [hkl]), hx.1, hx.2⟩

theorem unpack_tail (n : Nat) (A : Option Addr) (l c : Nat) (bs : List Int) (w : World) (hn : n ≤ 65536) (hl : l = (n + 7) / 8) (hB : IsB w A l c bs) (ht : tailOk n bs = false) :
    Calls Try.prog 34 #[.int .i64 n, .slice A l c] w fun e w' => e = .returned (.tuple #[.pointer none, .int .i64 10]) ∧ w = w' := by
  have hb : (decide (0 ≤ (n : Int)) && decide ((n : Int) ≤ 65536)) = true := by simp; omega
  simp [tailOk] at ht
  obtain ⟨d, o, x, rfl, hx, hd, hc, x0, x1⟩ := byte_at hB (n / 8) (by omega)
  have hd' : bs[n / 8]?.getD 0 = x := by rw [hx]; rfl
  rw [hd'] at ht
  have hp := packed_in n hn
  rw [← hl] at hp
  have HP := hid hp
  have h8 : ((n : Int) % 8 != 0) = true := by rw [bne_iff_ne]; omega
  have hne : (x / 2 ^ (n % 8) != 0) = true := by rw [bne_iff_ne]; exact ht.2
  have hlt : n / 8 < l := by omega
  have hlt2 : (n : Int) / 8 < (l : Int) := by omega
  have hl2 : l ≤ 8193 := by omega
  clear hl hp ht hd hx
  go_enter Try.func34, Try.ntmps34
  go_wp2_with (first
    | (go_at_call 44; refine (isRow_any _ _).mono ?_; rintro e w' ⟨rfl, rfl⟩; rw [hb])
    | (go_at_call 45; refine (HP.out _).mono ?_; rintro e w' ⟨rfl, rfl⟩))
  go_ret2
  exact ⟨rfl, rfl⟩

theorem unpack_ok (n : Nat) (A : Option Addr) (l c : Nat) (bs : List Int) (B : Nat) (w : World) (hn : n ≤ 65536) (hl : l = (n + 7) / 8) (hB : IsB w A l c bs) (ht : tailOk n bs = true) (hb0 : B ≤ w.heap.size) :
    Calls Try.prog 34 #[.int .i64 n, .slice A l c] w fun e w' => ∃ g A' c', e = .returned (.tuple #[.pointer (some ⟨g, 0, none⟩), .int .i64 0]) ∧ BOk w' B g n A' c' bs ∧ Fr No w w' ∧ ∀ k, BF g A' k → w.heap.size ≤ k := by
  obtain ⟨i0, hi, hz0, hz1, hz2⟩ := info_parts u8_info
  have hb : (decide (0 ≤ (n : Int)) && decide ((n : Int) ≤ 65536)) = true := by simp; omega
  have hlen : bs.length = l := by simpa using hB.1.1
  have HU := hid hB.2.2.2
  have hR := hB.1
  have HNB := hid (hlen.trans hl)
  have HLEN := hid hlen
  have hp := packed_in n hn
  rw [← hl] at hp
  have HP := hid hp
  have hl2 : l ≤ 8193 := by omega
  have fin : ∀ A2 c2 w2, w2.ownsRow B 5 1 (.slice A2 l c2) l (bs.map (Value.int .u8)) → Fr No w w2 → (∀ k, (Value.slice A2 l c2).ownBlock = some k → w.heap.size ≤ k) → BOk (w2.alloc (.cells #[.int .i64 n, .slice A2 l c2] 75)) B w2.heap.size n A2 c2 bs ∧ Fr No w (w2.alloc (.cells #[.int .i64 n, .slice A2 l c2] 75)) ∧ ∀ k, BF w2.heap.size A2 k → w.heap.size ≤ k := by
    intro A2 c2 w2 hown hF hO
    refine ⟨⟨?_, ?_, HNB.out, hn, HU.out, Nat.le_trans hb0 hF.size⟩, hF.alloc _, ?_⟩
    · rw [hlen]
      exact Blk.new w2 75 #[.int .i64 n, .slice A2 l c2]
    · rw [hlen]
      exact hown.alloc _
    · rintro k (rfl | ⟨a, rfl, rfl⟩)
      · exact hF.size
      · exact hO _ rfl
  have FIN := hid fin
  clear fin hlen
  by_cases h8 : n % 8 = 0
  · have h8' : ((n : Int) % 8 != 0) = false := by rw [bne_eq_false_iff_eq]; omega
    clear hl hp ht hB h8
    go_enter Try.func34, Try.ntmps34
    go_wp2_with (first
      | (go_at_call 44; refine (isRow_any _ _).mono ?_; rintro e w' ⟨rfl, rfl⟩; rw [hb])
      | (go_at_call 45; refine (HP.out _).mono ?_; rintro e w' ⟨rfl, rfl⟩)
      | (at_builtin; go_must (refine wpList_app rfl _ (.tmp 29) 27 rfl B 5 i0 (.int .u8 0) 1 Try.underlying27 hi hz0 hz1 hz2 rfl (.slice none 0 0) 0 [] rfl (World.ownsRow_nil _ _ _ _) A l c _ rfl hR one_u8s (by simp only [maxLen]; omega) (by omega) hb0 ?_)))
    intro A2 c2 w2 hown2 hF2 hO2
    have hX := FIN.out A2 c2 w2 (by simpa using hown2) (hF2.mono (fun k _ hk => by simp [Value.ownBlock] at hk)) (fun k hk => by
      rcases hO2 k (by simpa using hk) with h | h
      · simp [Value.ownBlock] at h
      · exact h)
    have HX := hid hX
    clear hX hown2 hF2 hO2
    go_wp2
    go_ret2
    exact ⟨_, A2, c2, rfl, HX.out⟩
  · have hlt : n / 8 < l := by omega
    obtain ⟨d, o, x, rfl, hx, hd, hc, x0, x1⟩ := byte_at hB (n / 8) hlt
    have h8' : ((n : Int) % 8 != 0) = true := by rw [bne_iff_ne]; omega
    have hne : (x / 2 ^ (n % 8) != 0) = false := by
      simp only [tailOk, hd] at ht
      rw [bne_eq_false_iff_eq]
      simpa [h8] using ht
    have hlt2 : (n : Int) / 8 < (l : Int) := by omega
    clear hl hp ht hB h8 hd hx
    go_enter Try.func34, Try.ntmps34
    go_wp2_with (first
      | (go_at_call 44; refine (isRow_any _ _).mono ?_; rintro e w' ⟨rfl, rfl⟩; rw [hb])
      | (go_at_call 45; refine (HP.out _).mono ?_; rintro e w' ⟨rfl, rfl⟩)
      | (at_builtin; go_must (refine wpList_app rfl _ (.tmp 29) 27 rfl B 5 i0 (.int .u8 0) 1 Try.underlying27 hi hz0 hz1 hz2 rfl (.slice none 0 0) 0 [] rfl (World.ownsRow_nil _ _ _ _) _ l c _ rfl hR one_u8s (by simp only [maxLen]; omega) (by omega) hb0 ?_)))
    intro A2 c2 w2 hown2 hF2 hO2
    have hX := FIN.out A2 c2 w2 (by simpa using hown2) (hF2.mono (fun k _ hk => by simp [Value.ownBlock] at hk)) (fun k hk => by
      rcases hO2 k (by simpa using hk) with h | h
      · simp [Value.ownBlock] at h
      · exact h)
    have HX := hid hX
    clear hX hown2 hF2 hO2
    go_wp2
    go_ret2
    exact ⟨_, A2, c2, rfl, HX.out⟩
end Go.Proofs.Ytlcafkjnikiomaa.LeU
