/- Contracts of the plain reader that the statements of layer 1 hold package le's against. Conditions: its own block is known whole, and what is left reads as bytes. -/
import Derived.Test.YtkkbgbpmpcoffaaDoorLeX
namespace Go.Proofs.YtkkbgbpmpcoffaaDoor.LeY
open Go.RowKit MSep LeA LeW LeR LeX

/-- The plain reader at block g, at fault or not, with xs left at A. -/
structure YOk (w : World) (g : Nat) (bad : Bool) (A : Option Addr) (c : Nat) (xs : List Int) : Prop where
  blk : Blk w g 87 #[.slice A xs.length c, .bool bad]
  rd : Rd w A xs.length (xs.map (Value.int .u8))
  cap : xs.length ≤ c
  apart : 0 < xs.length → ∀ a, A = some a → a.block ≠ g
  u8 : ∀ x ∈ xs, 0 ≤ x ∧ x ≤ 255
  len : xs.length ≤ 140737488355328

/-- The blocks of a plain reader. -/
def YF (g : Nat) (A : Option Addr) (xs : List Int) : Nat → Prop := fun k => k = g ∨ (0 < xs.length ∧ ∃ a, A = some a ∧ a.block = k)
theorem YF.cut {g c k : Nat} {A : Option Addr} {xs : List Int} {i : Nat} (h : YF g (cutA A c k) (xs.drop k) i) : YF g A xs i := by
  rcases h with h | ⟨h0, a, ha, rfl⟩
  · exact .inl h
  · obtain ⟨a', ha', hb⟩ := cutA_block ha
    exact .inr ⟨by simp at h0; omega, a', ha', hb⟩
theorem Rd.fr_pos {S : Nat → Prop} {w w' : World} {A : Option Addr} {n : Nat} {xs : List Value} (h : Rd w A n xs) (hf : Fr S w w') (hn : 0 < n → ∀ g o, A = some ⟨g, o, none⟩ → ¬ S g) : Rd w' A n xs := by
  rcases Nat.eq_zero_or_pos n with h0 | h0
  · exact ⟨h.1, fun hp => by omega⟩
  · exact h.fr hf (hn h0)

section
variable {w w' : World} {g : Nat} {bad : Bool} {A : Option Addr} {c : Nat} {xs : List Int}
theorem YOk.fr {S : Nat → Prop} (h : YOk w g bad A c xs) (hf : Fr S w w') (hn : ∀ k, YF g A xs k → ¬ S k) : YOk w' g bad A c xs :=
  ⟨h.blk.fr hf (hn g (.inl rfl)), Rd.fr_pos h.rd hf (fun h0 d _ e => hn d (.inr ⟨h0, _, e, rfl⟩)), h.cap, h.apart, h.u8, h.len⟩
theorem YOk.drewN (h : YOk w g bad A c xs) (n : Nat) : YOk (w.drewN n) g bad A c xs := ⟨h.blk, h.rd, h.cap, h.apart, h.u8, h.len⟩
theorem YOk.toBad (h : YOk w g bad A c xs) : YOk (w.setCell ⟨g, 1, none⟩ (.bool true)) g true A c xs :=
  ⟨by simpa using h.blk.set_ 1 (.bool true), Rd.fr_pos h.rd (Fr.set1 w g 1 _) (fun h0 _ _ e hd => h.apart h0 _ e hd), h.cap, h.apart, h.u8, h.len⟩
end

set_option maxRecDepth 100000 in
theorem ybytes_bad (g : Nat) (n : Int) (bad : Bool) (A : Option Addr) (c : Nat) (xs : List Int) (w : World) (hn : bad = true ∨ n < 0 ∨ xs.length < n) (h : YOk w g bad A c xs) :
    Calls Tryd.prog 40 #[.pointer (some ⟨g, 0, none⟩), .int .i64 n] w fun e w' => e = .returned (.slice none 0 0) ∧ YOk w' g true A c xs ∧ Fr (fun k => k = g) w w' := by
  have c0 := h.blk.cell 0
  have c1 := h.blk.cell 1
  have f1 := h.blk.frozen 1
  have fin := And.intro (YOk.toBad h) (Fr.set1 w g 1 (.bool true))
  have FIN := hid fin
  clear fin
  cases bad with
  | true =>
    clear hn
    go_enter Tryd.func40, Tryd.ntmps40
    go_wp2
    go_ret
    exact ⟨rfl, FIN.out⟩
  | false =>
    have hn' : n < 0 ∨ xs.length < n := hn.resolve_left (by decide)
    clear hn
    rcases hn' with hn | hn
    · go_enter Tryd.func40, Tryd.ntmps40
      go_wp2
      go_ret
      exact ⟨rfl, FIN.out⟩
    · have hn0 : ¬ n < 0 := by omega
      go_enter Tryd.func40, Tryd.ntmps40
      go_wp2
      go_ret
      exact ⟨rfl, FIN.out⟩

set_option maxRecDepth 100000 in
theorem ybytes_ok (g : Nat) (n : Nat) (A : Option Addr) (c : Nat) (xs : List Int) (w : World) (hn : n ≤ xs.length) (h : YOk w g false A c xs) :
    Calls Tryd.prog 40 #[.pointer (some ⟨g, 0, none⟩), .int .i64 n] w fun e w' => e = .returned (.slice A n c) ∧
      YOk w' g false (cutA A c n) (c - n) (xs.drop n) ∧ Rd w' A n ((xs.map (Value.int .u8)).take n) ∧ Fr (fun k => k = g) w w' := by
  have c0 := h.blk.cell 0
  have c1 := h.blk.cell 1
  have f0 := h.blk.frozen 0
  have hn0 : ¬ (n : Int) < 0 := by omega
  have hcap := h.cap
  have hlen := h.len
  have hle : ¬ (xs.length : Int) < n := by omega
  have key : ∀ A', A' = cutA A c n → ∀ w', w.setCell ⟨g, 0, none⟩ (.slice A' (xs.length - n) (c - n)) = w' → YOk w' g false (cutA A c n) (c - n) (xs.drop n) ∧ Rd w' A n ((xs.map (Value.int .u8)).take n) ∧ Fr (fun k => k = g) w w' := by
    rintro A' rfl w' rfl
    have hF := Fr.set1 w g 0 (.slice (cutA A c n) (xs.length - n) (c - n))
    refine ⟨⟨?_, ?_, ?_, ?_, fun x hx => h.u8 x (List.mem_of_mem_drop hx), ?_⟩, ?_, hF⟩
    · simpa using h.blk.set_ 0 (.slice (cutA A c n) (xs.length - n) (c - n))
    · have h1 := Rd.fr_pos (h.rd.cut hn hcap) hF (fun h0 d o e hd => by
        obtain ⟨a', e', hb⟩ := cutA_block e
        exact (h.apart (by omega) a' e') (hb.trans hd))
      simpa using h1
    · simp; omega
    · intro h0 a e
      obtain ⟨a', e', hb⟩ := cutA_block e
      exact hb ▸ h.apart (by simp at h0; omega) a' e'
    · simp; omega
    · exact Rd.fr_pos (h.rd.take hn) hF (fun h0 d o e hd => (h.apart (by omega) _ e) hd)
  have HK := hid key
  have HH := hid h
  clear key h
  have hsplit : c = n ∨ ¬ c = n := by omega
  go_enter Tryd.func40, Tryd.ntmps40
  rcases hsplit with hc | hc
  · obtain rfl : n = c := hc.symm
    go_wp2
    go_ret
    refine ⟨rfl, ?_⟩
    have h0 := HK.out A (by simp [cutA]) _ rfl
    have h1 : xs.length - n = 0 := by omega
    rw [h1] at h0
    simpa using h0
  · go_wp2
    go_ret
    refine ⟨rfl, ?_⟩
    exact HK.out (Option.map (fun x => x.add n) A) (by simp [cutA, hc]) _ rfl

set_option maxRecDepth 100000 in
theorem yget_bad (g : Nat) (n : Int) (bad : Bool) (A : Option Addr) (c : Nat) (xs : List Int) (w : World) (hn : bad = true ∨ ¬ (n = 1 ∨ n = 2 ∨ n = 4 ∨ n = 8) ∨ xs.length < n) (h : YOk w g bad A c xs) :
    Calls Tryd.prog 41 #[.pointer (some ⟨g, 0, none⟩), .int .i64 n] w fun e w' => e = .returned (.int .u64 0) ∧ YOk w' g true A c xs ∧ Fr (fun k => k = g) w w' := by
  by_cases hs : n = 1 ∨ n = 2 ∨ n = 4 ∨ n = 8
  · have hb : (n == 1 || n == 2 || n == 4 || n == 8) = true := by rcases hs with rfl | rfl | rfl | rfl <;> rfl
    have hn' : bad = true ∨ n < 0 ∨ xs.length < n := by
      rcases hn with h | h | h
      · exact .inl h
      · exact absurd hs h
      · exact .inr (.inr h)
    have HB := hid (ybytes_bad g n bad A c xs w hn' h)
    clear hn hn' hs
    go_enter Tryd.func41, Tryd.ntmps41
    go_wp2_with (first
      | (go_at_call 61; refine (size_any _ _).mono ?_; rintro e w' ⟨rfl, rfl⟩; rw [hb])
      | (go_at_call 40; refine HB.out.mono ?_; rintro e w1 ⟨rfl, h1, h2⟩))
    go_rounds 1
    go_ret
    exact ⟨rfl, h1, h2⟩
  · have hb : (n == 1 || n == 2 || n == 4 || n == 8) = false := by simp; omega
    have c1 := h.blk.cell 1
    have f1 := h.blk.frozen 1
    have fin := And.intro (YOk.toBad h) (Fr.set1 w g 1 (.bool true))
    have FIN := hid fin
    clear fin hs hn
    go_enter Tryd.func41, Tryd.ntmps41
    go_wp2_with (go_at_call 61; refine (size_any _ _).mono ?_; rintro e w' ⟨rfl, rfl⟩; rw [hb])
    go_ret
    exact ⟨rfl, FIN.out⟩

set_option maxRecDepth 100000 in
theorem yget_ok (g : Nat) (n : Nat) (A : Option Addr) (c : Nat) (xs : List Int) (w : World) (hs : n = 1 ∨ n = 2 ∨ n = 4 ∨ n = 8) (hn : n ≤ xs.length) (h : YOk w g false A c xs) :
    Calls Tryd.prog 41 #[.pointer (some ⟨g, 0, none⟩), .int .i64 n] w fun e w' => e = .returned (.int .u64 (num (xs.take n))) ∧
      YOk w' g false (cutA A c n) (c - n) (xs.drop n) ∧ Fr (fun k => k = g) w w' := by
  have hb : ((n : Int) == 1 || (n : Int) == 2 || (n : Int) == 4 || (n : Int) == 8) = true := by rcases hs with rfl | rfl | rfl | rfl <;> rfl
  have h8 : n ≤ 8 := by omega
  go_enter Tryd.func41, Tryd.ntmps41
  go_wp2_with (first
    | (go_at_call 61; refine (size_any _ _).mono ?_; rintro e w' ⟨rfl, rfl⟩; rw [hb])
    | (go_at_call 40; refine (ybytes_ok _ _ _ _ _ _ hn h).mono ?_; rintro e w1 ⟨rfl, h1, h2, h3⟩; have H1 := hid h1; have H2 := hid h2; have H3 := hid h3; clear h1 h2 h3))
  obtain ⟨d, o, rfl, hd, hc⟩ := H2.out.2 (by omega)
  have HC := hid hc
  clear hc
  go_loop [6, 7] (fun acc i => ∃ k : Nat, k ≤ n ∧ i = .int .i64 k ∧ acc = .int .u64 (num (xs.take k))) (fun _ i => n - (intOf i).toNat)
  case atStart => exact ⟨0, by omega, rfl, by simp [num]⟩
  case round =>
    obtain ⟨k, hk, rfl, rfl⟩ := hrel
    by_cases hlt : k < n
    · obtain ⟨x, hx⟩ : ∃ x, xs[k]? = some x := ⟨xs[k], List.getElem?_eq_getElem (by omega)⟩
      have hcell := HC.out k (.int .u8 x) (by rw [List.getElem?_take, if_pos hlt]; simp [hx])
      have hxb := h.u8 x (List.mem_of_getElem? hx)
      have hnb := num_bd (xs.take k) (fun y hy => h.u8 y (List.mem_of_mem_take hy))
      have HX := hid hx
      clear hx
      go_wp2
      go_round
      case rel =>
        refine ⟨k + 1, by omega, by go_num, ?_⟩
        have hl : (xs.take k).length = k := by simp; omega
        rw [hl] at hnb
        rw [or_byte _ x k (by omega) hnb.1 hnb.2 hxb.1 hxb.2, List.take_add_one, HX.out, Option.toList_some, num_snoc, hl]
      case measure => simp [intOf]; omega
    · obtain rfl : k = n := by omega
      go_wp2
      go_ret
      exact ⟨rfl, H1.out, H3.out⟩

set_option maxRecDepth 100000 in
theorem yint_bad (g : Nat) (n a b : Int) (bad : Bool) (A : Option Addr) (c : Nat) (xs : List Int) (w : World) (hn : bad = true ∨ ¬ (n = 1 ∨ n = 2 ∨ n = 4 ∨ n = 8) ∨ xs.length < n) (h : YOk w g bad A c xs) :
    Calls Tryd.prog 42 #[.pointer (some ⟨g, 0, none⟩), .int .i64 n, .int .i64 a, .int .i64 b] w fun e w' => e = .returned (.int .i64 0) ∧ YOk w' g true A c xs ∧ Fr (fun k => k = g) w w' := by
  go_enter Tryd.func42, Tryd.ntmps42
  go_wp2_with (go_at_call 41; refine (yget_bad _ _ _ _ _ _ _ hn h).mono ?_; rintro e w1 ⟨rfl, h1, h2⟩; have c1 := h1.blk.cell 1; have f1 := h1.blk.frozen 1)
  go_ret
  exact ⟨rfl, YOk.toBad h1, h2.trans (Fr.set1 _ g 1 _)⟩

set_option maxRecDepth 100000 in
theorem yint_ok (g : Nat) (n : Nat) (a b : Int) (A : Option Addr) (c : Nat) (xs : List Int) (w : World) (hs : n = 1 ∨ n = 2 ∨ n = 4 ∨ n = 8) (hn : n ≤ xs.length) (h : YOk w g false A c xs)
    (ha : a ≤ wrap64 (num (xs.take n))) (hb : wrap64 (num (xs.take n)) ≤ b) :
    Calls Tryd.prog 42 #[.pointer (some ⟨g, 0, none⟩), .int .i64 n, .int .i64 a, .int .i64 b] w fun e w' => e = .returned (.int .i64 (wrap64 (num (xs.take n)))) ∧
      YOk w' g false (cutA A c n) (c - n) (xs.drop n) ∧ Fr (fun k => k = g) w w' := by
  have hg := yget_ok g n A c xs w hs hn h
  generalize num (xs.take n) = v at *
  obtain ⟨r, hr⟩ : ∃ r, wrap64 v = r := ⟨_, rfl⟩
  rw [hr] at ha hb ⊢
  have h1 : ¬ r < a := by omega
  have h2 : ¬ b < r := by omega
  go_enter Tryd.func42, Tryd.ntmps42
  go_wp2_with (go_at_call 41; refine hg.mono ?_; rintro e w1 ⟨rfl, q1, q2⟩; have c1 := q1.blk.cell 1)
  go_ret
  exact ⟨rfl, q1, q2⟩

set_option maxRecDepth 100000 in
theorem yint_out (g : Nat) (n : Nat) (a b : Int) (A : Option Addr) (c : Nat) (xs : List Int) (w : World) (hs : n = 1 ∨ n = 2 ∨ n = 4 ∨ n = 8) (hn : n ≤ xs.length) (h : YOk w g false A c xs)
    (ha : wrap64 (num (xs.take n)) < a ∨ b < wrap64 (num (xs.take n))) :
    Calls Tryd.prog 42 #[.pointer (some ⟨g, 0, none⟩), .int .i64 n, .int .i64 a, .int .i64 b] w fun e w' => e = .returned (.int .i64 0) ∧
      (∃ A' c' ys, YOk w' g true A' c' ys ∧ ∀ k, YF g A' ys k → YF g A xs k) ∧ Fr (fun k => k = g) w w' := by
  have hg := yget_ok g n A c xs w hs hn h
  generalize num (xs.take n) = v at *
  obtain ⟨r, hr⟩ : ∃ r, wrap64 v = r := ⟨_, rfl⟩
  rw [hr] at ha
  by_cases h1 : r < a
  · clear ha
    go_enter Tryd.func42, Tryd.ntmps42
    go_wp2_with (go_at_call 41; refine hg.mono ?_; rintro e w1 ⟨rfl, q1, q2⟩; have c1 := q1.blk.cell 1; have f1 := q1.blk.frozen 1)
    go_ret
    exact ⟨rfl, ⟨_, _, _, YOk.toBad q1, fun _ h => YF.cut h⟩, q2.trans (Fr.set1 _ g 1 _)⟩
  · have h2 : b < r := ha.resolve_left h1
    clear ha
    go_enter Tryd.func42, Tryd.ntmps42
    go_wp2_with (go_at_call 41; refine hg.mono ?_; rintro e w1 ⟨rfl, q1, q2⟩; have c1 := q1.blk.cell 1; have f1 := q1.blk.frozen 1)
    go_ret
    exact ⟨rfl, ⟨_, _, _, YOk.toBad q1, fun _ h => YF.cut h⟩, q2.trans (Fr.set1 _ g 1 _)⟩

/-- What the plain reader answers at the end. -/
def yend (bad : Bool) (xs : List Int) : Bool := allZero xs && !bad

set_option maxRecDepth 100000 in
theorem ydone_any (g : Nat) (bad : Bool) (A : Option Addr) (c : Nat) (xs : List Int) (w : World) (h : YOk w g bad A c xs) :
    Calls Tryd.prog 43 #[.pointer (some ⟨g, 0, none⟩)] w fun e w' => e = .returned (.bool (yend bad xs)) ∧ w = w' := by
  have c0 := h.blk.cell 0
  have c1 := h.blk.cell 1
  have hlen := h.len
  have HR := hid h.rd
  go_enter Tryd.func43, Tryd.ntmps43
  go_wp2
  go_loop [3] (fun i => ∃ k : Nat, k ≤ xs.length ∧ i = .int .i64 k ∧ allZero (xs.take k) = true) (fun i => xs.length - (intOf i).toNat)
  case atStart => exact ⟨0, by omega, rfl, by simp [allZero]⟩
  case round =>
    obtain ⟨k, hk, rfl, hz⟩ := hrel
    have HZ := hid hz
    clear hz
    by_cases hlt : k < xs.length
    · obtain ⟨d, o, rfl, hd, hc⟩ := HR.out.2 (by omega)
      obtain ⟨x, hx⟩ : ∃ x, xs[k]? = some x := ⟨xs[k], List.getElem?_eq_getElem (by omega)⟩
      have hcell := hc k (.int .u8 x) (by simp [hx])
      have HX := hid hx
      clear hx hc
      by_cases hx0 : x = 0
      · subst hx0
        go_wp2
        go_round
        case rel =>
          refine ⟨k + 1, by omega, by go_num, ?_⟩
          have := HZ.out
          simp only [allZero] at this ⊢
          rw [List.take_add_one, HX.out]
          simp [this]
        case measure => simp [intOf]; omega
      · go_wp2
        go_ret
        have hf : allZero xs = false := by
          simp only [allZero, List.all_eq_false]
          exact ⟨x, List.mem_of_getElem? HX.out, by simpa using hx0⟩
        have he : yend bad xs = false := by simp [yend, hf]
        rw [he]
        exact ⟨rfl, rfl⟩
    · obtain rfl : k = xs.length := by omega
      go_wp2
      go_ret
      have hz := HZ.out
      rw [List.take_length] at hz
      have he : yend bad xs = !bad := by simp [yend, hz]
      rw [he]
      exact ⟨rfl, rfl⟩
end Go.Proofs.YtkkbgbpmpcoffaaDoor.LeY
