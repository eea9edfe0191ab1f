/- Contracts of package le's reader. Conditions: the reader's own block is known whole, and what is left reads as bytes. -/
import Derived.Test.YtkkbgbpmpcoffaaDoorLeW
import Derived.Lib.EndianBits
namespace Go.Proofs.YtkkbgbpmpcoffaaDoor.LeR
open Go.RowKit MSep LeA LeW

/-- A reader at block g, at fault or not, with xs left at A. -/
structure ROk (w : World) (B g : Nat) (bad : Bool) (A : Option Addr) (c : Nat) (xs : List Int) : Prop where
  blk : Blk w g 124 #[.slice A xs.length c, .bool bad]
  rd : Rd w A xs.length (xs.map (Value.int .u8))
  cap : xs.length ≤ c
  apart : ∀ a, A = some a → a.block ≠ g ∧ B ≤ a.block
  u8 : ∀ x ∈ xs, 0 ≤ x ∧ x ≤ 255
  len : xs.length ≤ 140737488355328
  hB : B ≤ g

/-- The blocks of a reader. -/
def RF (g : Nat) (A : Option Addr) : Nat → Prop := fun k => k = g ∨ ∃ a, A = some a ∧ a.block = k

section
variable {w w' : World} {B g : Nat} {bad : Bool} {A : Option Addr} {c : Nat} {xs : List Int}
theorem ROk.fr {S : Nat → Prop} (h : ROk w B g bad A c xs) (hf : Fr S w w') (hn : ∀ k, RF g A k → ¬ S k) : ROk w' B g bad A c xs :=
  ⟨h.blk.fr hf (hn g (.inl rfl)), h.rd.fr hf (fun d _ e => hn d (.inr ⟨_, e, rfl⟩)), h.cap, h.apart, h.u8, h.len, h.hB⟩
theorem ROk.lt (h : ROk w B g bad A c xs) (hn : 0 < xs.length) : ∀ k, RF g A k → k < w.heap.size := by
  rintro k (rfl | ⟨a, rfl, rfl⟩)
  · exact h.blk.lt
  · obtain ⟨d, o, e, hd, _⟩ := h.rd.2 hn
    injection e with e
    subst e
    exact hd
theorem RF.cut {g c k : Nat} {A : Option Addr} {i : Nat} (h : RF g (cutA A c k) i) : RF g A i := by
  rcases h with h | ⟨a, ha, rfl⟩
  · exact .inl h
  · obtain ⟨a', ha', hb⟩ := cutA_block ha
    exact .inr ⟨a', ha', hb⟩
theorem ROk.drewN (h : ROk w B g bad A c xs) (n : Nat) : ROk (w.drewN n) B g bad A c xs := ⟨h.blk, h.rd, h.cap, h.apart, h.u8, h.len, h.hB⟩
end

set_option maxRecDepth 100000 in
theorem fail_any (g : Nat) (B : Nat) (bad : Bool) (A : Option Addr) (c : Nat) (xs : List Int) (w : World) (h : ROk w B g bad A c xs) :
    Calls Tryd.prog 80 #[.pointer (some ⟨g, 0, none⟩)] w fun e w' => e = .returned (.tuple #[]) ∧ ROk w' B g true none 0 [] ∧ Fr (fun k => k = g) w w' := by
  have c0 := h.blk.cell 0
  have c1 := h.blk.cell 1
  have f0 := h.blk.frozen 0
  have f1 := h.blk.frozen 1
  go_enter Tryd.func80, Tryd.ntmps80
  go_wp2
  go_end0
  refine ⟨rfl, ⟨?_, Rd.nil _ _, by simp, by simp, by simp, by simp, h.hB⟩, ?_⟩
  · simpa using (h.blk.set_ 0 (.slice none 0 0)).set_ 1 (.bool true)
  · exact (Fr.set1 w g 0 _).trans (Fr.set1 _ g 1 _)

set_option maxRecDepth 100000 in
theorem next_bad (g : Nat) (n : Int) (B : Nat) (bad : Bool) (A : Option Addr) (c : Nat) (xs : List Int) (w : World) (hn : n < 0 ∨ xs.length < n) (h : ROk w B g bad A c xs) :
    Calls Tryd.prog 79 #[.pointer (some ⟨g, 0, none⟩), .int .i64 n] w fun e w' => e = .returned (.slice none 0 0) ∧ ROk w' B g true none 0 [] ∧ Fr (fun k => k = g) w w' := by
  have c0 := h.blk.cell 0
  rcases hn with hn | hn
  · go_enter Tryd.func79, Tryd.ntmps79
    go_wp2_with (go_at_call 80; refine (fail_any _ _ _ _ _ _ _ h).mono ?_; rintro e w' ⟨rfl, h1, h2⟩)
    go_ret
    exact ⟨rfl, h1, h2⟩
  · have hn0 : ¬ n < 0 := by omega
    go_enter Tryd.func79, Tryd.ntmps79
    go_wp2_with (go_at_call 80; refine (fail_any _ _ _ _ _ _ _ h).mono ?_; rintro e w' ⟨rfl, h1, h2⟩)
    go_ret
    exact ⟨rfl, h1, h2⟩

set_option maxRecDepth 100000 in
theorem next_ok (g : Nat) (n : Nat) (B : Nat) (bad : Bool) (A : Option Addr) (c : Nat) (xs : List Int) (w : World) (hn : n ≤ xs.length) (h : ROk w B g bad A c xs) :
    Calls Tryd.prog 79 #[.pointer (some ⟨g, 0, none⟩), .int .i64 n] w fun e w' => e = .returned (.slice A n c) ∧
      ROk w' B g bad (cutA A c n) (c - n) (xs.drop n) ∧ Rd w' A n ((xs.map (Value.int .u8)).take n) ∧ Fr (fun k => k = g) w w' := by
  have c0 := h.blk.cell 0
  have f0 := h.blk.frozen 0
  have hn0 : ¬ (n : Int) < 0 := by omega
  have hcap := h.cap
  have hlen := h.len
  have hle : ¬ (xs.length : Int) < n := by omega
  have key : ∀ A', A' = cutA A c n → ∀ w', w.setCell ⟨g, 0, none⟩ (.slice A' (xs.length - n) (c - n)) = w' → ROk w' B g bad (cutA A c n) (c - n) (xs.drop n) ∧ Rd w' A n ((xs.map (Value.int .u8)).take n) ∧ Fr (fun k => k = g) w w' := by
    rintro A' rfl w' rfl
    have hF := Fr.set1 w g 0 (.slice (cutA A c n) (xs.length - n) (c - n))
    refine ⟨⟨?_, ?_, ?_, ?_, fun x hx => h.u8 x (List.mem_of_mem_drop hx), ?_, h.hB⟩, ?_, hF⟩
    · simpa using h.blk.set_ 0 (.slice (cutA A c n) (xs.length - n) (c - n))
    · have h1 := (h.rd.cut hn hcap).fr hF (fun d o e hd => by
        obtain ⟨a', e', hb⟩ := cutA_block e
        exact (h.apart a' e').1 (hb.trans hd))
      simpa using h1
    · simp; omega
    · intro a e
      obtain ⟨a', e', hb⟩ := cutA_block e
      exact hb ▸ h.apart a' e'
    · simp; omega
    · have h1 := (h.rd.take hn).fr hF (fun d o e hd => (h.apart _ e).1 hd)
      exact h1
  have HK := hid key
  have HH := hid h
  clear key h
  go_enter Tryd.func79, Tryd.ntmps79
  have hsplit : c = n ∨ ¬ c = n := by omega
  rcases hsplit with hc | hc
  · obtain rfl : n = c := hc.symm
    go_wp2
    go_ret
    refine ⟨rfl, ?_⟩
    have h0 := HK.out A (by simp [cutA]) _ rfl
    have h1 : xs.length - n = 0 := by omega
    rw [h1] at h0
    simpa using h0
  · go_wp2
    go_ret
    refine ⟨rfl, ?_⟩
    exact HK.out (Option.map (fun x => x.add n) A) (by simp [cutA, hc]) _ rfl

/-- The number whose lowest byte is the first. -/
def num : List Int → Int
  | [] => 0
  | x :: l => x + 256 * num l
theorem num_snoc : ∀ (l : List Int) (x : Int), num (l ++ [x]) = num l + x * 256 ^ l.length
  | [], x => by simp [num]
  | y :: l, x => by
    simp only [List.cons_append, num, num_snoc l x, List.length_cons, Int.pow_succ]
    rw [Int.mul_add, ← Int.add_assoc, Int.mul_left_comm, Int.mul_comm 256 (256 ^ l.length)]
theorem num_bd : ∀ (l : List Int), (∀ x ∈ l, 0 ≤ x ∧ x ≤ 255) → 0 ≤ num l ∧ num l < 256 ^ l.length
  | [], _ => by simp [num]
  | y :: l, h => by
    have h1 := num_bd l (fun x hx => h x (List.mem_cons_of_mem _ hx))
    have h2 := h y (List.mem_cons_self ..)
    simp only [num, List.length_cons, Int.pow_succ]
    omega

theorem or_byte (a x : Int) (k : Nat) (hk : k < 8) (ha0 : 0 ≤ a) (ha : a < 256 ^ k) (hx0 : 0 ≤ x) (hx : x ≤ 255) : bits .or .u64 a (IntKind.u64.wrap (x * 2 ^ (8 * k))) = a + x * 256 ^ k := by
  have h2 : (2 : Int) ^ (8 * k) = 256 ^ k := by rw [Int.pow_mul]; rfl
  have hn : (256 : Nat) ^ k ≤ 256 ^ 7 := Nat.pow_le_pow_right (by omega) (by omega)
  have hn1 : 1 ≤ (256 : Nat) ^ k := Nat.pos_of_ne_zero (by simp)
  have hc : (256 : Int) ^ k = ((256 ^ k : Nat) : Int) := by simp
  have h3 : (256 : Int) ^ k ≤ 72057594037927936 ∧ (1 : Int) ≤ 256 ^ k := by
    rw [hc]
    simp only [Nat.reducePow] at hn
    omega
  have h4 : x * 256 ^ k ≤ 255 * 256 ^ k := Int.mul_le_mul_of_nonneg_right hx (by omega)
  have h5 : 0 ≤ x * 256 ^ k := Int.mul_nonneg hx0 (by omega)
  rw [h2, u64_wrap_id (x * 256 ^ k) h5 (by omega)]
  refine bits_join_low .u64 64 (by decide) wraps_u64 (8 * k) a (x * 256 ^ k) ha0 (by rw [h2]; exact ha) (by simp; omega) h5 ?_ (by simp; omega)
  rw [h2]
  exact Int.mul_emod_left _ _

set_option maxRecDepth 100000 in
theorem get_nil (n : Int) (w : World) : Calls Tryd.prog 66 #[.pointer none, .int .i64 n] w fun e w' => e = .returned (.int .u64 0) ∧ w = w' := by
  go_enter Tryd.func66, Tryd.ntmps66
  go_wp2
  go_ret
  exact ⟨rfl, rfl⟩

set_option maxRecDepth 100000 in
theorem get_bad (g : Nat) (n : Int) (B : Nat) (bad : Bool) (A : Option Addr) (c : Nat) (xs : List Int) (w : World) (hn : ¬ (n = 1 ∨ n = 2 ∨ n = 4 ∨ n = 8) ∨ xs.length < n) (h : ROk w B g bad A c xs) :
    Calls Tryd.prog 66 #[.pointer (some ⟨g, 0, none⟩), .int .i64 n] w fun e w' => e = .returned (.int .u64 0) ∧ ROk w' B g true none 0 [] ∧ Fr (fun k => k = g) w w' := by
  by_cases hs : n = 1 ∨ n = 2 ∨ n = 4 ∨ n = 8
  · have hb : (n == 1 || n == 2 || n == 4 || n == 8) = true := by rcases hs with rfl | rfl | rfl | rfl <;> rfl
    have hl : xs.length < n := hn.resolve_left (fun h => h hs)
    clear hn
    go_enter Tryd.func66, Tryd.ntmps66
    go_wp2_with (first
      | (go_at_call 74; refine (isSize_any _ _).mono ?_; rintro e w' ⟨rfl, rfl⟩; rw [hb])
      | (go_at_call 79; refine (next_bad _ _ _ _ _ _ _ _ (.inr hl) h).mono ?_; rintro e w1 ⟨rfl, h1, h2⟩))
    go_rounds 1
    go_ret
    exact ⟨rfl, h1, h2⟩
  · have hb : (n == 1 || n == 2 || n == 4 || n == 8) = false := by simp; omega
    clear hs hn
    go_enter Tryd.func66, Tryd.ntmps66
    go_wp2_with (first
      | (go_at_call 74; refine (isSize_any _ _).mono ?_; rintro e w' ⟨rfl, rfl⟩; rw [hb])
      | (go_at_call 80; refine (fail_any _ _ _ _ _ _ _ h).mono ?_; rintro e w' ⟨rfl, h1, h2⟩))
    go_ret
    exact ⟨rfl, h1, h2⟩

set_option maxRecDepth 100000 in
theorem get_ok (g : Nat) (n : Nat) (B : Nat) (bad : Bool) (A : Option Addr) (c : Nat) (xs : List Int) (w : World) (hs : n = 1 ∨ n = 2 ∨ n = 4 ∨ n = 8) (hn : n ≤ xs.length) (h : ROk w B g bad A c xs) :
    Calls Tryd.prog 66 #[.pointer (some ⟨g, 0, none⟩), .int .i64 n] w fun e w' => e = .returned (.int .u64 (num (xs.take n))) ∧
      ROk w' B g bad (cutA A c n) (c - n) (xs.drop n) ∧ Fr (fun k => k = g) w w' := by
  have hb : ((n : Int) == 1 || (n : Int) == 2 || (n : Int) == 4 || (n : Int) == 8) = true := by rcases hs with rfl | rfl | rfl | rfl <;> rfl
  have h8 : n ≤ 8 := by omega
  go_enter Tryd.func66, Tryd.ntmps66
  go_wp2_with (first
    | (go_at_call 74; refine (isSize_any _ _).mono ?_; rintro e w' ⟨rfl, rfl⟩; rw [hb])
    | (go_at_call 79; refine (next_ok _ _ _ _ _ _ _ _ hn h).mono ?_; rintro e w1 ⟨rfl, h1, h2, h3⟩; have H1 := hid h1; have H2 := hid h2; have H3 := hid h3; clear h1 h2 h3))
  obtain ⟨d, o, rfl, hd, hc⟩ := H2.out.2 (by omega)
  have HC := hid hc
  clear hc
  go_loop [5, 19] (fun acc i => ∃ k : Nat, k ≤ n ∧ i = .int .i64 k ∧ acc = .int .u64 (num (xs.take k))) (fun _ i => n - (intOf i).toNat)
  case atStart => exact ⟨0, by omega, rfl, by simp [num]⟩
  case round =>
    obtain ⟨k, hk, rfl, rfl⟩ := hrel
    by_cases hlt : k < n
    · obtain ⟨x, hx⟩ : ∃ x, xs[k]? = some x := ⟨xs[k], List.getElem?_eq_getElem (by omega)⟩
      have hcell := HC.out k (.int .u8 x) (by rw [List.getElem?_take, if_pos hlt]; simp [hx])
      have hxb := h.u8 x (List.mem_of_getElem? hx)
      have hnb := num_bd (xs.take k) (fun y hy => h.u8 y (List.mem_of_mem_take hy))
      have HX := hid hx
      clear hx
      go_wp2
      go_round
      case rel =>
        refine ⟨k + 1, by omega, by go_num, ?_⟩
        have hl : (xs.take k).length = k := by simp; omega
        rw [hl] at hnb
        rw [or_byte _ x k (by omega) hnb.1 hnb.2 hxb.1 hxb.2, List.take_add_one, HX.out, Option.toList_some, num_snoc, hl]
      case measure => simp [intOf]; omega
    · obtain rfl : k = n := by omega
      go_wp2
      go_ret
      exact ⟨rfl, H1.out, H3.out⟩

set_option maxRecDepth 100000 in
theorem int_nil (n a b : Int) (w : World) : Calls Tryd.prog 67 #[.pointer none, .int .i64 n, .int .i64 a, .int .i64 b] w fun e w' => e = .returned (.int .i64 0) ∧ w = w' := by
  go_enter Tryd.func67, Tryd.ntmps67
  go_wp2
  go_ret
  exact ⟨rfl, rfl⟩

set_option maxRecDepth 100000 in
theorem int_bad (g : Nat) (n a b : Int) (B : Nat) (bad : Bool) (A : Option Addr) (c : Nat) (xs : List Int) (w : World) (hn : ¬ (n = 1 ∨ n = 2 ∨ n = 4 ∨ n = 8) ∨ xs.length < n) (h : ROk w B g bad A c xs) :
    Calls Tryd.prog 67 #[.pointer (some ⟨g, 0, none⟩), .int .i64 n, .int .i64 a, .int .i64 b] w fun e w' => e = .returned (.int .i64 0) ∧ ROk w' B g true none 0 [] ∧ Fr (fun k => k = g) w w' := by
  go_enter Tryd.func67, Tryd.ntmps67
  go_wp2_with (go_at_call 66; refine (get_bad _ _ _ _ _ _ _ _ hn h).mono ?_; rintro e w1 ⟨rfl, h1, h2⟩; have c1 := h1.blk.cell 1)
  go_ret
  exact ⟨rfl, h1, h2⟩

set_option maxRecDepth 100000 in
theorem int_ok (g : Nat) (n : Nat) (a b : Int) (B : Nat) (A : Option Addr) (c : Nat) (xs : List Int) (w : World) (hs : n = 1 ∨ n = 2 ∨ n = 4 ∨ n = 8) (hn : n ≤ xs.length) (h : ROk w B g false A c xs)
    (ha : a ≤ wrap64 (num (xs.take n))) (hb : wrap64 (num (xs.take n)) ≤ b) :
    Calls Tryd.prog 67 #[.pointer (some ⟨g, 0, none⟩), .int .i64 n, .int .i64 a, .int .i64 b] w fun e w' => e = .returned (.int .i64 (wrap64 (num (xs.take n)))) ∧
      ROk w' B g false (cutA A c n) (c - n) (xs.drop n) ∧ Fr (fun k => k = g) w w' := by
  have hg := get_ok g n B false A c xs w hs hn h
  generalize num (xs.take n) = v at *
  obtain ⟨r, hr⟩ : ∃ r, wrap64 v = r := ⟨_, rfl⟩
  rw [hr] at ha hb ⊢
  have h1 : ¬ r < a := by omega
  have h2 : ¬ b < r := by omega
  go_enter Tryd.func67, Tryd.ntmps67
  go_wp2_with (go_at_call 66; refine hg.mono ?_; rintro e w1 ⟨rfl, q1, q2⟩; have c1 := q1.blk.cell 1)
  go_ret
  exact ⟨rfl, q1, q2⟩

set_option maxRecDepth 100000 in
theorem int_out (g : Nat) (n : Nat) (a b : Int) (B : Nat) (A : Option Addr) (c : Nat) (xs : List Int) (w : World) (hs : n = 1 ∨ n = 2 ∨ n = 4 ∨ n = 8) (hn : n ≤ xs.length) (h : ROk w B g false A c xs)
    (ha : wrap64 (num (xs.take n)) < a ∨ b < wrap64 (num (xs.take n))) :
    Calls Tryd.prog 67 #[.pointer (some ⟨g, 0, none⟩), .int .i64 n, .int .i64 a, .int .i64 b] w fun e w' => e = .returned (.int .i64 0) ∧
      ROk w' B g true none 0 [] ∧ Fr (fun k => k = g) w w' := by
  have hg := get_ok g n B false A c xs w hs hn h
  generalize num (xs.take n) = v at *
  obtain ⟨r, hr⟩ : ∃ r, wrap64 v = r := ⟨_, rfl⟩
  rw [hr] at ha
  by_cases h1 : r < a
  · clear ha
    go_enter Tryd.func67, Tryd.ntmps67
    go_wp2_with (first
      | (go_at_call 66; refine hg.mono ?_; rintro e w1 ⟨rfl, q1, q2⟩; have c1 := q1.blk.cell 1)
      | (go_at_call 80; refine (fail_any _ _ _ _ _ _ _ q1).mono ?_; rintro e w2 ⟨rfl, r1, r2⟩))
    go_ret
    exact ⟨rfl, r1, q2.trans r2⟩
  · have h2 : b < r := ha.resolve_left h1
    clear ha
    go_enter Tryd.func67, Tryd.ntmps67
    go_wp2_with (first
      | (go_at_call 66; refine hg.mono ?_; rintro e w1 ⟨rfl, q1, q2⟩; have c1 := q1.blk.cell 1)
      | (go_at_call 80; refine (fail_any _ _ _ _ _ _ _ q1).mono ?_; rintro e w2 ⟨rfl, r1, r2⟩))
    go_ret
    exact ⟨rfl, r1, q2.trans r2⟩

set_option maxRecDepth 100000 in
theorem bytes_nil (n : Int) (w : World) : Calls Tryd.prog 65 #[.pointer none, .int .i64 n] w fun e w' => e = .returned (.slice none 0 0) ∧ w = w' := by
  go_enter Tryd.func65, Tryd.ntmps65
  go_wp2
  go_ret
  exact ⟨rfl, rfl⟩

set_option maxRecDepth 100000 in
theorem bytes_bad (g : Nat) (n : Int) (B : Nat) (bad : Bool) (A : Option Addr) (c : Nat) (xs : List Int) (w : World) (hn : n < 0 ∨ xs.length < n) (hB : B ≤ w.heap.size) (h : ROk w B g bad A c xs) :
    Calls Tryd.prog 65 #[.pointer (some ⟨g, 0, none⟩), .int .i64 n] w fun e w' => ∃ A' c', e = .returned (.slice A' 0 c') ∧ ROk w' B g true none 0 [] ∧ Fr (fun k => k = g) w w' := by
  obtain ⟨i0, hi, hz0, hz1, hz2⟩ := info_parts u8_info
  go_enter Tryd.func65, Tryd.ntmps65
  go_wp2_with (first
    | (go_at_call 79; refine (next_bad _ _ _ _ _ _ _ _ hn h).mono ?_; rintro e w1 ⟨rfl, h1, h2⟩)
    | (at_builtin; go_must (refine wpList_app rfl _ (.tmp 9) 27 rfl B 5 i0 (.int .u8 0) 1 Tryd.underlying27 hi hz0 hz1 hz2 rfl (.slice none 0 0) 0 [] rfl (World.ownsRow_nil _ _ _ _) none 0 0 [] rfl (Rd.nil _ _) (by simp) (by simp only [maxLen]; omega) (by omega) (Nat.le_trans hB h2.size) ?_)))
  intro A2 c2 w2 _ hF2 _
  go_wp2
  go_ret
  exact ⟨A2, c2, rfl, h1.fr hF2 (fun k _ hk => by simp [Value.ownBlock] at hk), h2.step hF2 (fun k _ hk => by simp [Value.ownBlock] at hk)⟩

set_option maxRecDepth 100000 in
theorem bytes_ok (g : Nat) (n : Nat) (B : Nat) (bad : Bool) (A : Option Addr) (c : Nat) (xs : List Int) (w : World) (hn : n ≤ xs.length) (hB : B ≤ w.heap.size) (h : ROk w B g bad A c xs) :
    Calls Tryd.prog 65 #[.pointer (some ⟨g, 0, none⟩), .int .i64 n] w fun e w' => ∃ A' c', e = .returned (.slice A' n c') ∧
      w'.ownsRow B 5 1 (.slice A' n c') n ((xs.map (Value.int .u8)).take n) ∧ ROk w' B g bad (cutA A c n) (c - n) (xs.drop n) ∧ Fr (fun k => k = g) w w' ∧ ∀ k, (Value.slice A' n c').ownBlock = some k → w.heap.size ≤ k := by
  obtain ⟨i0, hi, hz0, hz1, hz2⟩ := info_parts u8_info
  have hlen := h.len
  go_enter Tryd.func65, Tryd.ntmps65
  go_wp2_with (first
    | (go_at_call 79; refine (next_ok _ _ _ _ _ _ _ _ hn h).mono ?_; rintro e w1 ⟨rfl, h1, h2, h3⟩; have H2 := hid h2; clear h2)
    | (at_builtin; go_must (refine wpList_app rfl _ (.tmp 9) 27 rfl B 5 i0 (.int .u8 0) 1 Tryd.underlying27 hi hz0 hz1 hz2 rfl (.slice none 0 0) 0 [] rfl (World.ownsRow_nil _ _ _ _) A n c _ rfl H2.out (fun u hu => one_u8s u (List.mem_of_mem_take hu)) (by simp only [maxLen]; omega) (by omega) (Nat.le_trans hB h3.size) ?_)))
  intro A2 c2 w2 hown2 hF2 hO2
  have HO2 := hid hO2
  clear hO2
  go_wp2
  go_ret
  refine ⟨A2, c2, by simp, by simpa using hown2, h1.fr hF2 (fun k _ hk => by simp [Value.ownBlock] at hk), h3.step hF2 (fun k _ hk => by simp [Value.ownBlock] at hk), fun k hk => ?_⟩
  have := HO2.out k (by simpa using hk)
  have := h3.size
  rcases HO2.out k (by simpa using hk) with h | h
  · simp [Value.ownBlock] at h
  · omega

set_option maxRecDepth 100000 in
theorem done_nil (w : World) : Calls Tryd.prog 68 #[.pointer none] w fun e w' => e = .returned (.int .i64 6) ∧ w = w' := by
  go_enter Tryd.func68, Tryd.ntmps68
  go_wp2
  go_ret
  exact ⟨rfl, rfl⟩

set_option maxRecDepth 100000 in
theorem done_bad (g : Nat) (B : Nat) (A : Option Addr) (c : Nat) (xs : List Int) (w : World) (h : ROk w B g true A c xs) :
    Calls Tryd.prog 68 #[.pointer (some ⟨g, 0, none⟩)] w fun e w' => e = .returned (.int .i64 10) ∧ w = w' := by
  have c1 := h.blk.cell 1
  go_enter Tryd.func68, Tryd.ntmps68
  go_wp2
  go_ret
  exact ⟨rfl, rfl⟩

/-- Are all of these 0? -/
def allZero (xs : List Int) : Bool := xs.all (· == 0)
/-- What a reader that is not at fault answers at the end. -/
def endOf (xs : List Int) : Int := if allZero xs then 0 else 10

set_option maxRecDepth 100000 in
theorem done_ok (g : Nat) (B : Nat) (A : Option Addr) (c : Nat) (xs : List Int) (w : World) (h : ROk w B g false A c xs) :
    Calls Tryd.prog 68 #[.pointer (some ⟨g, 0, none⟩)] w fun e w' => e = .returned (.int .i64 (endOf xs)) ∧ w = w' := by
  have c0 := h.blk.cell 0
  have c1 := h.blk.cell 1
  have hlen := h.len
  have HR := hid h.rd
  go_enter Tryd.func68, Tryd.ntmps68
  go_wp2
  go_loop [16] (fun i => ∃ k : Nat, k ≤ xs.length ∧ i = .int .i64 k ∧ allZero (xs.take k) = true) (fun i => xs.length - (intOf i).toNat)
  case atStart => exact ⟨0, by omega, rfl, by simp [allZero]⟩
  case round =>
    obtain ⟨k, hk, rfl, hz⟩ := hrel
    have HZ := hid hz
    clear hz
    by_cases hlt : k < xs.length
    · obtain ⟨d, o, rfl, hd, hc⟩ := HR.out.2 (by omega)
      obtain ⟨x, hx⟩ : ∃ x, xs[k]? = some x := ⟨xs[k], List.getElem?_eq_getElem (by omega)⟩
      have hcell := hc k (.int .u8 x) (by simp [hx])
      have HX := hid hx
      clear hx hc
      by_cases hx0 : x = 0
      · subst hx0
        go_wp2
        go_round
        case rel =>
          refine ⟨k + 1, by omega, by go_num, ?_⟩
          have := HZ.out
          simp only [allZero] at this ⊢
          rw [List.take_add_one, HX.out]
          simp [this]
        case measure => simp [intOf]; omega
      · go_wp2
        go_ret
        have hf : allZero xs = false := by
          simp only [allZero, List.all_eq_false]
          exact ⟨x, List.mem_of_getElem? HX.out, by simpa using hx0⟩
        have he : endOf xs = 10 := by simp [endOf, hf]
        rw [he]
        exact ⟨rfl, rfl⟩
    · obtain rfl : k = xs.length := by omega
      go_wp2
      go_ret
      have hz := HZ.out
      rw [List.take_length] at hz
      have he : endOf xs = 0 := by simp [endOf, hz]
      rw [he]
      exact ⟨rfl, rfl⟩

set_option maxRecDepth 100000 in
theorem take_any (A : Option Addr) (n c : Nat) (zs : List Int) (B : Nat) (w : World) (hr : Rd w A n (zs.map (Value.int .u8))) (hu : ∀ x ∈ zs, 0 ≤ x ∧ x ≤ 255) (hn : n ≤ 140737488355328) (hB : B ≤ w.heap.size) :
    Calls Tryd.prog 64 #[.slice A n c] w fun e w' => ∃ g A' c', e = .returned (.pointer (some ⟨g, 0, none⟩)) ∧ ROk w' B g false A' c' zs ∧ Fr No w w' ∧ (∀ k, RF g A' k → w.heap.size ≤ k) ∧ ∀ k, RF g A' k → k < w'.heap.size := by
  obtain ⟨i0, hi, hz0, hz1, hz2⟩ := info_parts u8_info
  have hl : zs.length = n := by simpa using hr.1
  have HL := hid hl
  clear hl
  go_enter Tryd.func64, Tryd.ntmps64
  go_wp2_with (at_builtin; go_must (refine wpList_app rfl _ (.tmp 3) 27 rfl B 5 i0 (.int .u8 0) 1 Tryd.underlying27 hi hz0 hz1 hz2 rfl (.slice none 0 0) 0 [] rfl (World.ownsRow_nil _ _ _ _) A n c _ rfl hr one_u8s (by simp only [maxLen]; omega) (by omega) hB ?_))
  intro A2 c2 w2 hown2 hF2 hO2
  have HO2 := hid hO2
  clear hO2
  go_wp2
  go_ret
  have hn2 : zs.length = n := HL.out
  have hown3 : w2.ownsRow B 5 1 (.slice A2 n c2) n (zs.map (Value.int .u8)) := by simpa using hown2
  have hF3 : Fr No w w2 := hF2.mono (fun k _ hk => by simp [Value.ownBlock] at hk)
  have hA : ∀ a, A2 = some a → B ≤ a.block ∧ a.block < w2.heap.size ∧ w.heap.size ≤ a.block := by
    rintro a rfl
    have h1 := hown3.lt a.block rfl
    refine ⟨h1.1, h1.2, ?_⟩
    rcases HO2.out a.block (by simp [Value.ownBlock]) with h | h
    · simp [Value.ownBlock] at h
    · exact h
  refine ⟨w2.heap.size, A2, c2, rfl, ⟨?_, ?_, ?_, fun a ha => ⟨by have := (hA a ha).2.1; omega, (hA a ha).1⟩, hu, by omega, Nat.le_trans hB hF3.size⟩, hF3.alloc _, ?_, ?_⟩
  · rw [hn2]
    simpa using Blk.new w2 124 #[.slice A2 n c2, .bool false]
  · rw [hn2]
    exact (Rd.own hown3).fr (S := No) ((Fr.refl _ _).alloc _) (fun _ _ _ h => h)
  · rw [hn2]
    rcases hown3.2 with ⟨h1, h2⟩ | ⟨g, cap, cur, h1, _, _, h4, _⟩
    · injection h1 with _ _ h3
      omega
    · injection h1 with _ _ h3
      omega
  · rintro k (rfl | ⟨a, ha, rfl⟩)
    · exact hF3.size
    · exact (hA a ha).2.2
  · rintro k (rfl | ⟨a, ha, rfl⟩)
    · simp
    · have := (hA a ha).2.1
      simp
      omega
end Go.Proofs.YtkkbgbpmpcoffaaDoor.LeR
