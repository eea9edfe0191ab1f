/- Contracts: what a content, sectors within a band, and a piece are, by the program; part of a content. Conditions: a band's length is no more than 1023 sectors; the lengths are those of slices. -/
import Derived.Test.YtpiplcakefcaaaaDoorBdA
namespace Go.Proofs.YtpiplcakefcaaaaDoor.BdB
open Go.RowKit MSep MFrame Kit MGeM BdM BdA
open GeA (bg BG BL ld_geom by_)
open GeC (layout_ok)

set_option maxRecDepth 100000 in
theorem isc_ok (ya yr yq yb yd yt yx yu : Int) (A : Option Addr) (l c : Nat) (v : Bool) (w : World) (hd : 0 ≤ yd ∧ yd ≤ 1023) (_hl : (l : Int) ≤ 9223372036854775807) (hv : v = true ↔ (l : Int) = 128 * yd) :
    Calls Tryd.prog 80 #[.agg #[.int .i64 ya, .int .i64 yr, .int .i64 yq, .int .i64 yb, .int .i64 yd, .int .i64 yt, .int .i64 yx, .int .i64 yu], .slice A l c] w fun e w' => e = .returned (.bool v) ∧ Fr No w w' := by
  obtain ⟨d0, d1⟩ := hd
  have HV := hid hv
  have HF := hid (fun o => fr1 w o)
  clear hv
  go_enter Tryd.func80, Tryd.ntmps80
  go_wp2
  go_ret
  exact ⟨retb (by have h := HV.out; cases v <;> simp at h ⊢ <;> omega), HF.out _⟩
set_option maxRecDepth 100000 in
set_option maxHeartbeats 1000000 in
theorem isw_ok (ya yr yq yb yd yt yx yu a n : Int) (v : Bool) (w : World) (hd : 0 ≤ yd ∧ yd ≤ 1023) (hv : v = true ↔ wi yd a n) :
    Calls Tryd.prog 82 #[.agg #[.int .i64 ya, .int .i64 yr, .int .i64 yq, .int .i64 yb, .int .i64 yd, .int .i64 yt, .int .i64 yx, .int .i64 yu], .int .i64 a, .int .i64 n] w fun e w' => e = .returned (.bool v) ∧ Fr No w w' := by
  obtain ⟨d0, d1⟩ := hd
  have HV := hid hv
  have HF := hid (fun o => fr1 w o)
  clear hv
  by_cases h1 : 0 ≤ a
  · by_cases h2 : 1 ≤ n
    · by_cases h3 : n ≤ yd
      · go_enter Tryd.func82, Tryd.ntmps82
        go_wp2
        go_ret
        exact ⟨retb (by have h := HV.out; unfold wi at h; cases v <;> simp at h ⊢ <;> omega), HF.out _⟩
      · go_enter Tryd.func82, Tryd.ntmps82
        go_wp2
        go_ret
        exact ⟨retb (by have h := HV.out; unfold wi at h; cases v <;> simp at h ⊢ <;> omega), HF.out _⟩
    · go_enter Tryd.func82, Tryd.ntmps82
      go_wp2
      go_ret
      exact ⟨retb (by have h := HV.out; unfold wi at h; cases v <;> simp at h ⊢ <;> omega), HF.out _⟩
  · go_enter Tryd.func82, Tryd.ntmps82
    go_wp2
    go_ret
    exact ⟨retb (by have h := HV.out; unfold wi at h; cases v <;> simp at h ⊢ <;> omega), HF.out _⟩
theorem isc_yes (ya yr yq yb yd yt yx yu : Int) (A : Option Addr) (l c : Nat) (w : World) (hd : 0 ≤ yd ∧ yd ≤ 1023) (hl : (l : Int) ≤ 9223372036854775807) (hv : (l : Int) = 128 * yd) :
    Calls Tryd.prog 80 #[.agg #[.int .i64 ya, .int .i64 yr, .int .i64 yq, .int .i64 yb, .int .i64 yd, .int .i64 yt, .int .i64 yx, .int .i64 yu], .slice A l c] w fun e w' => e = .returned (.bool true) ∧ Fr No w w' :=
  isc_ok ya yr yq yb yd yt yx yu A l c true w hd hl (by simpa using hv)
theorem isc_no (ya yr yq yb yd yt yx yu : Int) (A : Option Addr) (l c : Nat) (w : World) (hd : 0 ≤ yd ∧ yd ≤ 1023) (hl : (l : Int) ≤ 9223372036854775807) (hv : ¬ (l : Int) = 128 * yd) :
    Calls Tryd.prog 80 #[.agg #[.int .i64 ya, .int .i64 yr, .int .i64 yq, .int .i64 yb, .int .i64 yd, .int .i64 yt, .int .i64 yx, .int .i64 yu], .slice A l c] w fun e w' => e = .returned (.bool false) ∧ Fr No w w' :=
  isc_ok ya yr yq yb yd yt yx yu A l c false w hd hl (by simpa using hv)
theorem isw_yes (ya yr yq yb yd yt yx yu a n : Int) (w : World) (hd : 0 ≤ yd ∧ yd ≤ 1023) (hv : wi yd a n) :
    Calls Tryd.prog 82 #[.agg #[.int .i64 ya, .int .i64 yr, .int .i64 yq, .int .i64 yb, .int .i64 yd, .int .i64 yt, .int .i64 yx, .int .i64 yu], .int .i64 a, .int .i64 n] w fun e w' => e = .returned (.bool true) ∧ Fr No w w' :=
  isw_ok ya yr yq yb yd yt yx yu a n true w hd (by simpa using hv)
theorem isw_no (ya yr yq yb yd yt yx yu a n : Int) (w : World) (hd : 0 ≤ yd ∧ yd ≤ 1023) (hv : ¬ wi yd a n) :
    Calls Tryd.prog 82 #[.agg #[.int .i64 ya, .int .i64 yr, .int .i64 yq, .int .i64 yb, .int .i64 yd, .int .i64 yt, .int .i64 yx, .int .i64 yu], .int .i64 a, .int .i64 n] w fun e w' => e = .returned (.bool false) ∧ Fr No w w' :=
  isw_ok ya yr yq yb yd yt yx yu a n false w hd (by simpa using hv)
theorem ret_slice {g o o' n n' c c' : Nat} (h1 : o = o') (h2 : n = n') (h3 : c = c') : Ending.returned (.slice (some ⟨g, o, none⟩) n c) = Ending.returned (.slice (some ⟨g, o', none⟩) n' c') := by rw [h1, h2, h3]
theorem ret_int {k : IntKind} {a b : Int} (h : a = b) : Ending.returned (.int k a) = .returned (.int k b) := by rw [h]
set_option maxRecDepth 100000 in
/-- A part of a content that is not empty. -/
theorem part_ok (g o l c a n : Nat) (w : World) (h1 : 1 ≤ n) (hl : 128 * (a + n) ≤ l) (hc : l ≤ c) (hm : c ≤ maxLen) :
    Calls Tryd.prog 83 #[.slice (some ⟨g, o, none⟩) l c, .int .i64 a, .int .i64 n] w fun e w' => e = .returned (.slice (some ⟨g, o + 128 * a, none⟩) (128 * n) (c - 128 * a)) ∧ w = w' := by
  unfold maxLen at hm
  go_enter Tryd.func83, Tryd.ntmps83
  go_wp2
  go_ret
  exact ⟨ret_slice (by omega) (by omega) (by omega), rfl⟩
abbrev pv (a n : Int) (h : Bool) (A : Option Addr) (l c : Nat) : Value := .agg #[.int .i64 a, .int .i64 n, .bool h, .slice A l c]
abbrev pcs (a n : Int) (h : Bool) (A : Option Addr) (l c : Nat) : Array Value := #[.int .i64 a, .int .i64 n, .bool h, .slice A l c]
def PB (w : World) (g : Nat) (a n : Int) (h : Bool) (A : Option Addr) (l c : Nat) : Prop := Blk w g 73 (pcs a n h A l c)
theorem PB.cells {w : World} {g : Nat} {a n : Int} {h : Bool} {A : Option Addr} {l c : Nat} (k : PB w g a n h A l c) : w.cell? ⟨g, 0, none⟩ = some (.int .i64 a) ∧ w.cell? ⟨g, 1, none⟩ = some (.int .i64 n) ∧ w.cell? ⟨g, 2, none⟩ = some (.bool h) ∧ w.cell? ⟨g, 3, none⟩ = some (.slice A l c) := ⟨Blk.cell k 0, Blk.cell k 1, Blk.cell k 2, Blk.cell k 3⟩
theorem sc_true (a n : Int) (A : Option Addr) (l c : Nat) (z : List Int) : sc ⟨a, n, true, A, l, c, z⟩ = if l = 0 then n else 0 := by
  unfold sc
  by_cases h : l = 0
  · rw [if_pos ⟨rfl, h⟩, if_pos h]
  · rw [if_neg (fun q => h q.2), if_pos (Or.inl rfl), if_neg h]
theorem sc_false (a n : Int) (A : Option Addr) (l c : Nat) (z : List Int) : sc ⟨a, n, false, A, l, c, z⟩ = if n ≠ 0 ∨ l % 128 ≠ 0 then 0 else ((l / 128 : Nat) : Int) := by
  unfold sc
  rw [if_neg (fun q => by cases q.1)]
  by_cases h : n ≠ 0 ∨ l % 128 ≠ 0
  · rw [if_pos (Or.inr h), if_pos h]
  · rw [if_neg (fun q => by rcases q with q | q; cases q; exact h q), if_neg h]
set_option maxRecDepth 100000 in
set_option maxHeartbeats 1000000 in
theorem psec_ok (a n : Int) (h : Bool) (A : Option Addr) (l c : Nat) (z : List Int) (w : World) (hl : l ≤ maxLen) :
    Calls Tryd.prog 81 #[pv a n h A l c] w fun e w' => e = .returned (.int .i64 (sc ⟨a, n, h, A, l, c, z⟩)) ∧ Fr No w w' := by
  unfold maxLen at hl
  have HF := hid (fun o => fr1 w o)
  cases h with
  | true =>
    rw [sc_true]
    by_cases h0 : l = 0
    · rw [if_pos h0]
      have e0 : ((l : Int) == 0) = true := by simp [h0]
      clear h0
      go_enter Tryd.func81, Tryd.ntmps81
      go_wp2
      go_ret
      exact ⟨rfl, HF.out _⟩
    · rw [if_neg h0]
      have e0 : ((l : Int) == 0) = false := by simpa using h0
      have e1 : (l == 0) = false := by simpa using h0
      clear h0
      go_enter Tryd.func81, Tryd.ntmps81
      go_wp2
      all_goals
        go_ret
        exact ⟨rfl, HF.out _⟩
  | false =>
    rw [sc_false]
    have hq : (l : Int) / 128 * 128 ≤ l := by omega
    have hq0 : 0 ≤ (l : Int) / 128 := by omega
    by_cases hn : n = 0
    · have e1 : (n == 0) = true := by simpa using hn
      have e2 : (n != 0) = false := by simp [hn]
      by_cases hm : l % 128 = 0
      · rw [if_neg (by omega)]
        have e3 : ((l : Int) / 128 * 128 == (l : Int)) = true := by simp; omega
        have e4 : ((l : Int) / 128 * 128 != (l : Int)) = false := by simp; omega
        clear hn hm
        go_enter Tryd.func81, Tryd.ntmps81
        go_wp2
        go_ret
        exact ⟨ret_int (by omega), HF.out _⟩
      · rw [if_pos (Or.inr hm)]
        have e3 : ((l : Int) / 128 * 128 == (l : Int)) = false := by simp; omega
        have e4 : ((l : Int) / 128 * 128 != (l : Int)) = true := by simp; omega
        clear hn hm
        go_enter Tryd.func81, Tryd.ntmps81
        go_wp2
        go_ret
        exact ⟨rfl, HF.out _⟩
    · rw [if_pos (Or.inl hn)]
      have e1 : (n == 0) = false := by simpa using hn
      have e2 : (n != 0) = true := by simp [hn]
      clear hn
      go_enter Tryd.func81, Tryd.ntmps81
      go_wp2
      go_ret
      exact ⟨rfl, HF.out _⟩
end Go.Proofs.YtpiplcakefcaaaaDoor.BdB
