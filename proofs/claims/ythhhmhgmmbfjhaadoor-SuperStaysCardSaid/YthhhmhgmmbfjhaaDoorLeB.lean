/- Contracts of package le's rows of bits. Conditions: the row's own block and its bytes' block are known whole. -/
import Derived.Test.YthhhmhgmmbfjhaaDoorLeR
namespace Go.Proofs.YthhhmhgmmbfjhaaDoor.LeB
open Go.RowKit MSep LeA LeW LeR

/-- A row of n bits at block g, its bytes bs at A. -/
structure BOk (w : World) (B g : Nat) (n : Nat) (A : Option Addr) (c : Nat) (bs : List Int) : Prop where
  blk : Blk w g 172 #[.int .i64 n, .slice A bs.length c]
  own : w.ownsRow B 5 1 (.slice A bs.length c) bs.length (bs.map (Value.int .u8))
  nb : bs.length = (n + 7) / 8
  n1 : n ≤ 65536
  u8 : ∀ x ∈ bs, 0 ≤ x ∧ x ≤ 255
  hB : B ≤ g

/-- The blocks of a row. -/
def BF (g : Nat) (A : Option Addr) : Nat → Prop := fun k => k = g ∨ ∃ a, A = some a ∧ a.block = k

/-- Bit i of these bytes. -/
def bitOf (bs : List Int) (i : Nat) : Bool := bs.getD (i / 8) 0 / 2 ^ (i % 8) % 2 == 1
/-- Is there a bit i? -/
def inB (n : Nat) (i : Int) : Bool := decide (0 ≤ i) && decide (i < n)
/-- What Has answers. -/
def hasB (n : Nat) (bs : List Int) (i : Int) : Bool := inB n i && bitOf bs i.toNat

section
variable {w w' : World} {B g n : Nat} {A : Option Addr} {c : Nat} {bs : List Int}
theorem BOk.fr {S : Nat → Prop} (h : BOk w B g n A c bs) (hf : Fr S w w') (hn : ∀ k, BF g A k → ¬ S k) : BOk w' B g n A c bs :=
  ⟨h.blk.fr hf (hn g (.inl rfl)), own_fr h.own hf (fun k hk => by
    cases A with
    | none => cases hk
    | some a =>
      simp [Value.ownBlock] at hk
      exact hn k (.inr ⟨a, rfl, hk⟩)), h.nb, h.n1, h.u8, h.hB⟩
theorem BOk.lt (h : BOk w B g n A c bs) : ∀ k, BF g A k → k < w.heap.size := by
  rintro k (rfl | ⟨a, rfl, rfl⟩)
  · exact h.blk.lt
  · exact (h.own.lt _ rfl).2
theorem BOk.apart (h : BOk w B g n A c bs) : (Value.slice A bs.length c).ownBlock ≠ some g := own_blk_ne h.own h.blk (by decide)
end

theorem and_one_fin : ∀ y : Fin 256, bits BinOp.and IntKind.u8 (y.val : Int) 1 = (y.val : Int) % 2 := by decide +kernel
theorem and_one (y : Int) (h0 : 0 ≤ y) (h1 : y ≤ 255) : bits BinOp.and IntKind.u8 y 1 = y % 2 := by
  obtain ⟨m, rfl⟩ := Int.eq_ofNat_of_zero_le h0
  exact and_one_fin ⟨m, by omega⟩

/-- A byte with bit t the other way. -/
def flip (x : Int) (t : Nat) : Int := if x / 2 ^ t % 2 = 1 then x - 2 ^ t else x + 2 ^ t
theorem xor_fin : ∀ x : Fin 256, ∀ t : Fin 8, bits BinOp.xor IntKind.u8 (x.val : Int) (2 ^ t.val % 256) = flip x.val t.val ∧ 0 ≤ flip x.val t.val ∧ flip x.val t.val ≤ 255 ∧
    ∀ s : Fin 8, (flip x.val t.val / 2 ^ s.val % 2 == 1) = if s = t then !((x.val : Int) / 2 ^ s.val % 2 == 1) else ((x.val : Int) / 2 ^ s.val % 2 == 1) := by decide +kernel
theorem xor_pow (x : Int) (t : Nat) (h0 : 0 ≤ x) (h1 : x ≤ 255) (ht : t < 8) : bits BinOp.xor IntKind.u8 x (2 ^ t % 256) = flip x t ∧ 0 ≤ flip x t ∧ flip x t ≤ 255 ∧
    ∀ s, s < 8 → (flip x t / 2 ^ s % 2 == 1) = if s = t then !(x / 2 ^ s % 2 == 1) else (x / 2 ^ s % 2 == 1) := by
  obtain ⟨m, rfl⟩ := Int.eq_ofNat_of_zero_le h0
  have := xor_fin ⟨m, by omega⟩ ⟨t, ht⟩
  refine ⟨this.1, this.2.1, this.2.2.1, fun s hs => ?_⟩
  have h2 := this.2.2.2 ⟨s, hs⟩
  simpa using h2

set_option maxRecDepth 100000 in
theorem isRow_any (n : Int) (w : World) : Calls Tryd.prog 131 #[.int .i64 n] w fun e w' => e = .returned (.bool (decide (0 ≤ n) && decide (n ≤ 65536))) ∧ w = w' := by
  by_cases h : 0 ≤ n
  · by_cases h2 : n ≤ 65536
    · go_enter Tryd.func131, Tryd.ntmps131
      go_wp2
      go_ret
      exact ⟨by simp [h, h2], rfl⟩
    · go_enter Tryd.func131, Tryd.ntmps131
      go_wp2
      go_ret
      exact ⟨by simp [h2], rfl⟩
  · go_enter Tryd.func131, Tryd.ntmps131
    go_wp2
    go_ret
    exact ⟨by rw [decide_eq_false (by omega : ¬ 0 ≤ n)]; rfl, rfl⟩

set_option maxRecDepth 100000 in
theorem packed_in (n : Nat) (h : n ≤ 65536) (w : World) : Calls Tryd.prog 132 #[.int .i64 n] w fun e w' => e = .returned (.int .i64 ((n + 7) / 8 : Nat)) ∧ w = w' := by
  go_enter Tryd.func132, Tryd.ntmps132
  go_wp2
  go_ret
  exact ⟨by simp, rfl⟩

set_option maxRecDepth 100000 in
theorem there_nil (i : Int) (w : World) : Calls Tryd.prog 133 #[.pointer none, .int .i64 i] w fun e w' => e = .returned (.bool false) ∧ w = w' := by
  go_enter Tryd.func133, Tryd.ntmps133
  go_wp2
  go_ret
  exact ⟨rfl, rfl⟩

set_option maxRecDepth 100000 in
theorem there_any (i : Int) {w : World} {B g n : Nat} {A : Option Addr} {c : Nat} {bs : List Int} (h : BOk w B g n A c bs) :
    Calls Tryd.prog 133 #[.pointer (some ⟨g, 0, none⟩), .int .i64 i] w fun e w' => e = .returned (.bool (inB n i)) ∧ w = w' := by
  have c0 := h.blk.cell 0
  have hn1 := h.n1
  by_cases h0 : 0 ≤ i
  · by_cases h2 : i < n
    · have hb : inB n i = true := by simp [inB, h0, h2]
      rw [hb]
      go_enter Tryd.func133, Tryd.ntmps133
      go_wp2
      go_ret
      exact ⟨rfl, rfl⟩
    · have hb : inB n i = false := by simp [inB, h2]
      rw [hb]
      go_enter Tryd.func133, Tryd.ntmps133
      go_wp2
      go_ret
      exact ⟨rfl, rfl⟩
  · have hb : inB n i = false := by simp [inB, h0]
    rw [hb]
    go_enter Tryd.func133, Tryd.ntmps133
    go_wp2
    go_ret
    exact ⟨rfl, rfl⟩

set_option maxRecDepth 100000 in
theorem has_nil (i : Int) (w : World) : Calls Tryd.prog 110 #[.pointer none, .int .i64 i] w fun e w' => e = .returned (.bool false) ∧ w = w' := by
  go_enter Tryd.func110, Tryd.ntmps110
  go_wp2_with (go_at_call 133; refine (there_nil _ _).mono ?_; rintro e w' ⟨rfl, rfl⟩)
  go_ret
  exact ⟨rfl, rfl⟩

/-- The byte in which a bit is. -/
theorem BOk.byte {w : World} {B g n : Nat} {A : Option Addr} {c : Nat} {bs : List Int} (h : BOk w B g n A c bs) (i : Nat) (hi : i < n) :
    ∃ d x, A = some ⟨d, 0, none⟩ ∧ bs[i / 8]? = some x ∧ w.cell? ⟨d, i / 8, none⟩ = some (.int .u8 x) ∧ w.frozen? ⟨d, i / 8, none⟩ = false ∧ i / 8 < bs.length ∧ 0 ≤ x ∧ x ≤ 255 := by
  have hl : i / 8 < bs.length := by have := h.nb; omega
  have hown := h.own
  rcases hown.2 with ⟨_, h0⟩ | ⟨d, cap, cur, hv, _⟩
  · omega
  · injection hv with h1 h2 h3
    subst h1
    have hx : bs[i / 8]? = some bs[i / 8] := List.getElem?_eq_getElem hl
    have hu := h.u8 _ (List.getElem_mem hl)
    refine ⟨d, bs[i / 8], rfl, hx, ?_, hown.frozenAt _, hl, hu.1, hu.2⟩
    rw [hown.cellAt (i / 8) (by omega)]
    simp [hx]

set_option maxRecDepth 100000 in
theorem has_any (i : Int) {w : World} {B g n : Nat} {A : Option Addr} {c : Nat} {bs : List Int} (h : BOk w B g n A c bs) :
    Calls Tryd.prog 110 #[.pointer (some ⟨g, 0, none⟩), .int .i64 i] w fun e w' => e = .returned (.bool (hasB n bs i)) ∧ w = w' := by
  have c1 := h.blk.cell 1
  have hn1 := h.n1
  by_cases hin : 0 ≤ i ∧ i < n
  · obtain ⟨k, rfl⟩ := Int.eq_ofNat_of_zero_le hin.1
    have hb : inB n k = true := by simp [inB]; omega
    have hh : hasB n bs k = bitOf bs k := by rw [hasB, hb]; simp
    rw [hh]
    obtain ⟨d, x, rfl, hx, hcell, _, hl, hx0, hx1⟩ := h.byte k (by omega)
    have hbit : bitOf bs k = (x / 2 ^ (k % 8) % 2 == 1) := by simp [bitOf, List.getD, hx]
    have HB := hid hbit
    clear hbit hh
    go_enter Tryd.func110, Tryd.ntmps110
    go_wp2_with (go_at_call 133; refine (there_any _ h).mono ?_; rintro e w' ⟨rfl, rfl⟩; rw [hb])
    go_ret
    have hle := Int.ediv_le_self (2 ^ (k % 8)) hx0
    have hge : 0 ≤ x / 2 ^ (k % 8) := Int.ediv_nonneg hx0 (Int.pow_nonneg (by omega))
    exact ⟨by rw [and_one _ hge (by omega), HB.out]; rfl, rfl⟩
  · have hb : inB n i = false := by simp [inB]; omega
    have hh : hasB n bs i = false := by rw [hasB, hb]; rfl
    rw [hh]
    clear hh
    go_enter Tryd.func110, Tryd.ntmps110
    go_wp2_with (go_at_call 133; refine (there_any _ h).mono ?_; rintro e w' ⟨rfl, rfl⟩; rw [hb])
    go_ret
    exact ⟨rfl, rfl⟩

/-- What Set answers. -/
def setB (n : Nat) (bs : List Int) (i : Int) (is : Bool) : Bool := inB n i && (bitOf bs i.toNat != is)
/-- The bytes behind Set. -/
def setL (n : Nat) (bs : List Int) (i : Int) (is : Bool) : List Int := if setB n bs i is then bs.set (i.toNat / 8) (flip (bs.getD (i.toNat / 8) 0) (i.toNat % 8)) else bs

set_option maxRecDepth 100000 in
theorem set_nil (i : Int) (is : Bool) (w : World) : Calls Tryd.prog 104 #[.pointer none, .int .i64 i, .bool is] w fun e w' => e = .returned (.bool false) ∧ w = w' := by
  go_enter Tryd.func104, Tryd.ntmps104
  go_wp2_with (go_at_call 133; refine (there_nil _ _).mono ?_; rintro e w' ⟨rfl, rfl⟩)
  go_ret
  exact ⟨rfl, rfl⟩

set_option maxRecDepth 100000 in
theorem set_same (i : Int) (is : Bool) {w : World} {B g n : Nat} {A : Option Addr} {c : Nat} {bs : List Int} (hs : setB n bs i is = false) (h : BOk w B g n A c bs) :
    Calls Tryd.prog 104 #[.pointer (some ⟨g, 0, none⟩), .int .i64 i, .bool is] w fun e w' => e = .returned (.bool false) ∧ w = w' := by
  cases hb : inB n i with
  | false =>
    go_enter Tryd.func104, Tryd.ntmps104
    go_wp2_with (go_at_call 133; refine (there_any _ h).mono ?_; rintro e w' ⟨rfl, rfl⟩; rw [hb])
    go_ret
    exact ⟨rfl, rfl⟩
  | true =>
    have hh : hasB n bs i = is := by
      rw [setB, hb] at hs
      rw [hasB, hb]
      simpa using hs
    subst hh
    clear hs
    go_enter Tryd.func104, Tryd.ntmps104
    go_wp2_with (first
      | (go_at_call 133; refine (there_any _ h).mono ?_; rintro e w' ⟨rfl, rfl⟩; rw [hb])
      | (go_at_call 110; refine (has_any _ h).mono ?_; rintro e w' ⟨rfl, rfl⟩))
    go_ret
    exact ⟨rfl, rfl⟩

set_option maxRecDepth 100000 in
theorem set_other (i : Int) (is : Bool) {w : World} {B g n : Nat} {A : Option Addr} {c : Nat} {bs : List Int} (hs : setB n bs i is = true) (h : BOk w B g n A c bs) :
    Calls Tryd.prog 104 #[.pointer (some ⟨g, 0, none⟩), .int .i64 i, .bool is] w fun e w' => e = .returned (.bool true) ∧ BOk w' B g n A c (setL n bs i is) ∧ Fr (BF g A) w w' := by
  have hsl : setL n bs i is = bs.set (i.toNat / 8) (flip (bs.getD (i.toNat / 8) 0) (i.toNat % 8)) := by rw [setL, if_pos hs]
  have hb : inB n i = true := by
    rw [setB] at hs
    simp at hs
    exact hs.1
  have hin : 0 ≤ i ∧ i < n := by simpa [inB] using hb
  obtain ⟨k, rfl⟩ := Int.eq_ofNat_of_zero_le hin.1
  have hh : (hasB n bs k == is) = false := by
    rw [setB, hb] at hs
    rw [hasB, hb]
    simpa using hs
  obtain ⟨d, x, rfl, hx, hcell, hfr, hl, hx0, hx1⟩ := h.byte k (by omega)
  have hxp := xor_pow x (k % 8) hx0 hx1 (by omega)
  have hgd : bs.getD (k / 8) 0 = x := by simp [List.getD, hx]
  have c1 := h.blk.cell 1
  have hap := h.apart
  have hn1 := h.n1
  rw [Int.toNat_natCast, hgd] at hsl
  have HS := hid hsl
  have HX := hid hxp
  have HA := hid hap
  clear hsl hxp hap hx hs hgd
  go_enter Tryd.func104, Tryd.ntmps104
  go_wp2_with (first
    | (go_at_call 133; refine (there_any _ h).mono ?_; rintro e w' ⟨rfl, rfl⟩; rw [hb])
    | (go_at_call 110; refine (has_any _ h).mono ?_; rintro e w' ⟨rfl, rfl⟩))
  go_region
  go_wp2
  go_ret
  obtain ⟨e1, f0, f1, _⟩ := HX.out
  rw [e1, HS.out]
  have hdg : g ≠ d := fun e => HA.out (by simp [Value.ownBlock, e])
  have hst := (h.own.stored (k / 8) (.int .u8 (flip x (k % 8)))).1
  refine ⟨rfl, ⟨?_, ?_, ?_, h.n1, ?_, h.hB⟩, ?_⟩
  · rw [List.length_set]
    exact (h.blk.far (p := ⟨d, k / 8, none⟩) hdg _).drew
  · rw [List.length_set, List.map_set]
    exact hst
  · rw [List.length_set]
    exact h.nb
  · intro y hy
    rcases List.mem_or_eq_of_mem_set hy with hy | rfl
    · exact h.u8 y hy
    · exact ⟨f0, f1⟩
  · exact (Fr.setCell (S := BF g (some ⟨d, 0, none⟩)) (p := ⟨d, k / 8, none⟩) (Fr.refl _ w) (fun _ => .inr ⟨_, rfl, rfl⟩) _).drew

/-- How many of the first k bits are set. -/
def cntB (bs : List Int) : Nat → Int
  | 0 => 0
  | k + 1 => cntB bs k + if bitOf bs k then 1 else 0
theorem cntB_bd (bs : List Int) : ∀ k, 0 ≤ cntB bs k ∧ cntB bs k ≤ k
  | 0 => by simp [cntB]
  | k + 1 => by
    have := cntB_bd bs k
    simp only [cntB]
    split <;> omega
theorem hasB_in {n : Nat} {bs : List Int} {k : Nat} (h : k < n) : hasB n bs k = bitOf bs k := by
  have hb : inB n k = true := by simp [inB]; omega
  rw [hasB, hb]
  simp

/-- The first from k on, within m, of which p says yes; -1, if there is none. -/
def firstP (p : Nat → Bool) : Nat → Nat → Int
  | _, 0 => -1
  | k, m + 1 => if p k then k else firstP p (k + 1) m
/-- What First answers. -/
def firstB (n : Nat) (bs : List Int) (is : Bool) (start : Int) : Int := firstP (fun i => bitOf bs i == is) (max start 0).toNat (n - (max start 0).toNat)

set_option maxRecDepth 100000 in
theorem pack_nil (w : World) : Calls Tryd.prog 105 #[.pointer none] w fun e w' => e = .returned (.slice none 0 0) ∧ w = w' := by
  go_enter Tryd.func105, Tryd.ntmps105
  go_wp2
  go_ret
  exact ⟨rfl, rfl⟩

set_option maxRecDepth 100000 in
theorem pack_any {w : World} {B g n : Nat} {A : Option Addr} {c : Nat} {bs : List Int} (hB : B ≤ w.heap.size) (h : BOk w B g n A c bs) :
    Calls Tryd.prog 105 #[.pointer (some ⟨g, 0, none⟩)] w fun e w' => ∃ A' c', e = .returned (.slice A' bs.length c') ∧
      w'.ownsRow B 5 1 (.slice A' bs.length c') bs.length (bs.map (Value.int .u8)) ∧ Fr No w w' ∧ ∀ k, (Value.slice A' bs.length c').ownBlock = some k → w.heap.size ≤ k := by
  obtain ⟨i0, hi, hz0, hz1, hz2⟩ := info_parts u8_info
  have c1 := h.blk.cell 1
  have hn1 := h.n1
  have hnb := h.nb
  have hlen : bs.length ≤ 65536 := by omega
  clear hnb
  go_enter Tryd.func105, Tryd.ntmps105
  go_wp2_with (at_builtin; go_must (refine wpList_app rfl _ (.tmp 8) 26 rfl B 5 i0 (.int .u8 0) 1 Tryd.underlying26 hi hz0 hz1 hz2 rfl (.slice none 0 0) 0 [] rfl (World.ownsRow_nil _ _ _ _) A _ c _ rfl (Rd.own h.own) one_u8s (by simp only [maxLen]; omega) (by omega) hB ?_))
  intro A2 c2 w2 hown2 hF2 hO2
  have HO2 := hid hO2
  clear hO2
  go_wp2
  go_ret
  refine ⟨A2, c2, by simp, by simpa using hown2, hF2.mono (fun k _ hk => by simp [Value.ownBlock] at hk), fun k hk => ?_⟩
  rcases HO2.out k (by simpa using hk) with h | h
  · simp [Value.ownBlock] at h
  · exact h

set_option maxRecDepth 100000 in
theorem newBits_out (n : Int) (w : World) (hn : n < 0 ∨ 65536 < n) : Calls Tryd.prog 103 #[.int .i64 n] w fun e w' => e = .returned (.pointer none) ∧ w = w' := by
  have hb : (decide (0 ≤ n) && decide (n ≤ 65536)) = false := by simp; omega
  go_enter Tryd.func103, Tryd.ntmps103
  go_wp2_with (go_at_call 131; refine (isRow_any _ _).mono ?_; rintro e w' ⟨rfl, rfl⟩; rw [hb])
  go_ret
  exact ⟨rfl, rfl⟩

set_option maxRecDepth 100000 in
theorem newBits_in (n : Nat) (B : Nat) (w : World) (hn : n ≤ 65536) (hB : B ≤ w.heap.size) : Calls Tryd.prog 103 #[.int .i64 n] w fun e w' => ∃ g A c, e = .returned (.pointer (some ⟨g, 0, none⟩)) ∧
    BOk w' B g n A c (List.replicate ((n + 7) / 8) 0) ∧ Fr No w w' ∧ ∀ k, BF g A k → w.heap.size ≤ k := by
  obtain ⟨i0, hi, hz0, hz1, hz2⟩ := info_parts u8_info
  have hb : (decide (0 ≤ (n : Int)) && decide ((n : Int) ≤ 65536)) = true := by simp; omega
  obtain ⟨m, hm⟩ : ∃ m, (n + 7) / 8 = m := ⟨_, rfl⟩
  have hm2 : m ≤ 8192 := by omega
  have hp := packed_in n hn
  rw [hm] at hp ⊢
  have HM := hid hm
  have HP := hid hp
  clear hm hp
  go_enter Tryd.func103, Tryd.ntmps103
  go_wp2_with (first
    | (go_at_call 131; refine (isRow_any _ _).mono ?_; rintro e w' ⟨rfl, rfl⟩; rw [hb])
    | (go_at_call 132; refine (HP.out _).mono ?_; rintro e w' ⟨rfl, rfl⟩)
    | (at_make; go_must (refine wpList_make_full _ rfl _ _ 26 rfl B 5 i0 (.int .u8 0) 1 Tryd.underlying26 hi hz0 hz1 .i64 .i64 _ _ m rfl rfl rfl rfl (by rw [hz2]; omega) (by simp only [maxLen]; omega) hB ?_)))
  intro w1 hown1 hg1
  have hF1 : Fr No w w1 := (Fr.refl _ _).grown hg1 (fun k hk => by cases hk)
  have HF1 := hid hF1
  clear hF1 hg1
  go_wp2
  go_ret
  rw [toList_madeCells_one] at hown1
  have hs := HF1.out.size
  have hlt := hown1.lt w.heap.size rfl
  refine ⟨w1.heap.size, some ⟨w.heap.size, 0, none⟩, m, rfl, ⟨?_, ?_, ?_, hn, ?_, by omega⟩, HF1.out.alloc _, ?_⟩
  · simpa using Blk.new w1 172 #[.int .i64 n, .slice (some ⟨w.heap.size, 0, none⟩) m m]
  · simpa using hown1.alloc _
  · rw [List.length_replicate, HM.out]
  · intro x hx
    rw [List.mem_replicate] at hx
    omega
  · rintro k (rfl | ⟨a, ha, rfl⟩)
    · exact hs
    · injection ha with ha
      subst ha
      exact Nat.le_refl _
end Go.Proofs.YthhhmhgmmbfjhaaDoor.LeB
