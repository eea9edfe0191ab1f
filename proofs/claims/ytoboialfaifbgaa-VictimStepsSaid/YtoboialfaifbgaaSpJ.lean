/- Contracts: how many sectors a set has; in which span of a set a sector is. Condition: the slice reads as a list, all numbers are 64 bits. -/
import Derived.Test.YtoboialfaifbgaaSpI
namespace Go.Proofs.Ytoboialfaifbgaa.SpJ
open Go.RowKit MSep MSepC MSpM SpA SpB SpC SpO SpE SpF SpG SpH

/-- How many sectors the spans have. -/
def tot (l : List Sp) : Int := (l.map (·.2)).sum
theorem tot_append (a b : List Sp) : tot (a ++ b) = tot a + tot b := by simp [tot]
theorem tot_one (s : Sp) : tot [s] = s.2 := by simp [tot]
theorem tot_snoc {xs : List Sp} {k : Nat} {s : Sp} (h : xs[k]? = some s) : tot (xs.take (k + 1)) = tot (xs.take k) + s.2 := by
  rw [take_snoc h, tot_append, tot_one]
theorem tot_range : ∀ (l : List Sp), (∀ s ∈ l, may s) → 0 ≤ tot l ∧ tot l ≤ l.length * 1099511627776
  | [], _ => by simp [tot]
  | s :: l, h => by
    have h1 := tot_range l (fun t ht => h t (by simp [ht]))
    have h2 := h s (by simp)
    unfold may at h2
    have e : tot (s :: l) = s.2 + tot l := by simp [tot]
    rw [e, List.length_cons]
    have e2 : ((l.length + 1 : Nat) : Int) * 1099511627776 = (l.length : Int) * 1099511627776 + 1099511627776 := by
      rw [Int.natCast_add]
      omega
    omega

set_option maxRecDepth 100000 in
set_option maxHeartbeats 2000000 in
theorem total_ok (A : Option Addr) (l c : Nat) (xs : List Sp) (w : World) (hl : l ≤ 4096) (hx : RdS w A l xs) (hr : Ris xs) : Calls Try.prog 61 #[.slice A l c] w fun e w' => e = .returned (.int .i64 (tot xs)) ∧ Fr No w w' := by
  have hset : isSet xs = true := decide_eq_true ⟨by rw [hx.1]; omega, hr⟩
  have HSET := hid hset
  have HX := hid hx
  have HR := hid hr
  have HI := hid (isSet_ok A l c xs w (by simp only [maxLen]; omega) hx (fun t ht => wf_may (hr.2 t ht).1))
  obtain ⟨T, hT⟩ : ∃ T, tot xs = T := ⟨_, rfl⟩
  rw [hT]
  have HT := hid hT
  clear hset hx hr hT
  go_enter Try.func61, Try.ntmps61
  go_wp2_with fail
  refine HI.out.mono ?_
  rintro e w1 ⟨rfl, f1⟩
  rw [HSET.out]
  have FW := hid f1
  clear f1 HI
  go_wp2
  go_loopw [3, 11] (fun v i wr => ∃ k : Nat, k ≤ l ∧ i = .int .i64 k ∧ v = .int .i64 (tot (xs.take k)) ∧ Fr No w wr) (fun _ i _ => l - (intOf i).toNat)
  case atStart => exact ⟨0, by omega, rfl, rfl, FW.out⟩
  case round =>
    obtain ⟨k, hk, rfl, rfl, hf⟩ := hrel
    by_cases hlt : k < l
    · have hk1 : k < xs.length := by rw [HX.out.1]; exact hlt
      obtain ⟨⟨b, m⟩, hx⟩ : ∃ x, xs[k]? = some x := ⟨_, List.getElem?_eq_getElem hk1⟩
      have HXk := hid hx
      have hmb := (HR.out.2 _ (List.mem_of_getElem? hx)).1
      obtain ⟨g, o, rfl, hg, hc⟩ := (HX.out.fr hf).at_ (by omega)
      obtain ⟨c0, c1⟩ := hc k _ HXk.out
      simp only [] at c0 c1
      have hlt3 : (k : Int) < l := by omega
      have h0k : (0 : Int) ≤ k := by omega
      have FW := hid (hf.alloc (.cells #[.int .i64 b, .int .i64 m] 68))
      have ht := tot_range (xs.take k) (fun s hs => (HR.out.2 s (List.mem_of_mem_take hs)).1)
      have hkl : (xs.take k).length = k := by rw [List.length_take, HX.out.1]; omega
      rw [hkl] at ht
      have E := hid (tot_snoc hx)
      unfold may at hmb
      simp only [] at hmb
      obtain ⟨t, hte⟩ : ∃ t, tot (xs.take k) = t := ⟨_, rfl⟩
      rw [hte] at ht E ⊢
      have hw : wrap64 (t + m) = t + m := w64 _ (by omega)
      have HK := hid hlt
      clear hc hg hx hk1 hf hk hlt ht hkl hmb hte
      go_wp2
      go_roundw
      case rel => exact ⟨k + 1, HK.out, by go_num, by rw [E.out, hw], FW.out⟩
      case measure => have := HK.out; simp [intOf]; omega
    · obtain rfl : k = l := by omega
      have hE : xs.take k = xs := List.take_of_length_le (by rw [HX.out.1]; exact Nat.le_refl _)
      rw [hE, HT.out]
      have FW := hid hf
      clear hE hf
      go_wp2
      go_ret
      exact ⟨rfl, FW.out⟩

set_option maxRecDepth 100000 in
theorem total_no (A : Option Addr) (l c : Nat) (xs : List Sp) (w : World) (hl : l ≤ maxLen) (hx : RdS w A l xs) (hw : ∀ s ∈ xs, wf s) (hn : isSet xs = false) : Calls Try.prog 61 #[.slice A l c] w fun e w' => e = .returned (.int .i64 0) ∧ Fr No w w' := by
  have HI := hid (isSet_ok A l c xs w hl hx hw)
  have HN := hid hn
  clear hx hw hn
  go_enter Try.func61, Try.ntmps61
  go_wp2_with fail
  refine HI.out.mono ?_
  rintro e w1 ⟨rfl, f1⟩
  rw [HN.out]
  have FW := hid f1
  clear f1 HI
  go_wp2
  go_ret
  exact ⟨rfl, FW.out⟩

/-- The first place from k on of a span that has sector x; -1, if there is none. -/
def fnd (x : Int) : List Sp → Nat → Int
  | [], _ => -1
  | s :: l, k => if has s x then k else fnd x l (k + 1)
theorem fnd_step {x : Int} {xs : List Sp} {k : Nat} {s : Sp} (h : xs[k]? = some s) : fnd x (xs.drop k) k = if has s x then (k : Int) else fnd x (xs.drop (k + 1)) (k + 1) := by
  have hk : k < xs.length := (List.getElem?_eq_some_iff.1 h).1
  have e : xs[k] = s := (List.getElem?_eq_some_iff.1 h).2
  rw [List.drop_eq_getElem_cons hk, e, fnd]

end Go.Proofs.Ytoboialfaifbgaa.SpJ
