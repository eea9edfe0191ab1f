/- Contracts of package le's writer and of the plain writer of 124 bytes of room beside a block that is theirs not. Conditions: all that is put has room; the writer's own block and its bytes' block are known whole. -/
import Derived.Test.YtkkbgbpmpcoffaaDoorLeY
import Derived.Test.YtkkbgbpmpcoffaaDoorKit
namespace Go.Proofs.YtkkbgbpmpcoffaaDoor.WrB
open Go.RowKit MSep LeA LeW LeR LeX

/-- Blocks from B on, but T. -/
def NP (B T : Nat) : Nat → Prop := fun k => B ≤ k ∧ k ≠ T
/-- A writer at g whose blocks are from B on, T none of them. -/
def WrP (w : World) (B T g : Nat) (xs : List Int) : Prop := (∃ sv, WOk w B g 124 false sv xs ∧ ∀ k, WF g sv k → k ≠ T) ∧ T < w.heap.size
def XrP (w : World) (B T g : Nat) (xs : List Int) : Prop := (∃ sv, XOk w B g 124 false sv xs ∧ ∀ k, WF g sv k → k ≠ T) ∧ T < w.heap.size

section
variable {w w' : World} {B T g : Nat} {xs : List Int}
theorem wf_lt {sv : Value} {room : Int} {bad : Bool} (h : WOk w B g room bad sv xs) : ∀ k, WF g sv k → B ≤ k ∧ k < w.heap.size := by
  rintro k (rfl | hk)
  · exact ⟨h.hB, h.blk.lt⟩
  · exact h.own.lt k hk
theorem xf_lt {sv : Value} {room : Int} {bad : Bool} (h : XOk w B g room bad sv xs) : ∀ k, WF g sv k → B ≤ k ∧ k < w.heap.size := by
  rintro k (rfl | hk)
  · exact ⟨h.hB, h.blk.lt⟩
  · exact h.own.lt k hk
theorem WrP.fr (h : WrP w B T g xs) (hf : Fr No w w') : WrP w' B T g xs := by
  obtain ⟨⟨sv, h, ha⟩, ht⟩ := h
  exact ⟨⟨sv, h.fr hf (fun _ _ h => h), ha⟩, Nat.lt_of_lt_of_le ht hf.size⟩
theorem XrP.fr (h : XrP w B T g xs) (hf : Fr No w w') : XrP w' B T g xs := by
  obtain ⟨⟨sv, h, ha⟩, ht⟩ := h
  exact ⟨⟨sv, h.fr hf (fun _ _ h => h), ha⟩, Nat.lt_of_lt_of_le ht hf.size⟩
theorem WrP.drew (h : WrP w B T g xs) : WrP w.drew B T g xs := h.fr ((Fr.refl No w).drew)
theorem XrP.drew (h : XrP w B T g xs) : XrP w.drew B T g xs := h.fr ((Fr.refl No w).drew)
/-- A new block is none of the writer's. -/
theorem WrP.box (h : WrP w B T g xs) (o : Obj) : WrP (w.alloc o) B w.heap.size g xs := by
  obtain ⟨⟨sv, h, ha⟩, ht⟩ := h
  exact ⟨⟨sv, h.fr ((Fr.refl No w).alloc o) (fun _ _ h => h), fun k hk => by have := (wf_lt h k hk).2; omega⟩, by simp⟩
theorem XrP.box (h : XrP w B T g xs) (o : Obj) : XrP (w.alloc o) B w.heap.size g xs := by
  obtain ⟨⟨sv, h, ha⟩, ht⟩ := h
  exact ⟨⟨sv, h.fr ((Fr.refl No w).alloc o) (fun _ _ h => h), fun k hk => by have := (xf_lt h k hk).2; omega⟩, by simp⟩
theorem WrP.le (h : WrP w B T g xs) : B ≤ w.heap.size := by
  obtain ⟨⟨sv, h, ha⟩, ht⟩ := h
  exact Nat.le_trans h.hB (Nat.le_of_lt h.blk.lt)
theorem XrP.le (h : XrP w B T g xs) : B ≤ w.heap.size := by
  obtain ⟨⟨sv, h, ha⟩, ht⟩ := h
  exact Nat.le_trans h.hB (Nat.le_of_lt h.blk.lt)
end

theorem put_wp (g : Nat) (size n : Int) (B T : Nat) (xs : List Int) (w : World) (hs : size = 1 ∨ size = 2 ∨ size = 4 ∨ size = 8) (hf : xs.length + size ≤ 124) (hn : 0 ≤ n ∧ n < 18446744073709551616) (h : WrP w B T g xs) :
    Calls Tryd.prog 54 #[.pointer (some ⟨g, 0, none⟩), .int .i64 size, .int .u64 n] w fun e w' => e = .returned (.pointer (some ⟨g, 0, none⟩)) ∧ WrP w' B T g (xs ++ low size.toNat n) ∧ Fr (NP B T) w w' := by
  have hl := h.le
  obtain ⟨⟨sv, h, ha⟩, ht⟩ := h
  refine (put_ok g size n B 124 sv xs w hs hf hn.1 hn.2 hl h).mono ?_
  rintro e w' ⟨rfl, sv', h1, h2, h3⟩
  refine ⟨rfl, ⟨⟨sv', h1, ?_⟩, Nat.lt_of_lt_of_le ht h2.size⟩, h2.mono (fun k _ hk => ⟨(wf_lt h k hk).1, ha k hk⟩)⟩
  rintro k (rfl | hk)
  · exact ha k (.inl rfl)
  · rcases h3 k hk with h4 | h4
    · exact ha k (.inr h4)
    · omega
theorem put_xp (g : Nat) (size n : Int) (B T : Nat) (xs : List Int) (w : World) (hs : size = 1 ∨ size = 2 ∨ size = 4 ∨ size = 8) (hf : xs.length + size ≤ 124) (hn : 0 ≤ n ∧ n < 18446744073709551616) (h : XrP w B T g xs) :
    Calls Tryd.prog 33 #[.pointer (some ⟨g, 0, none⟩), .int .i64 size, .int .u64 n] w fun e w' => e = .returned (.tuple #[]) ∧ XrP w' B T g (xs ++ low size.toNat n) ∧ Fr (NP B T) w w' := by
  have hl := h.le
  obtain ⟨⟨sv, h, ha⟩, ht⟩ := h
  refine (xput_ok g size n B 124 sv xs w hs hf hn.1 hn.2 hl h).mono ?_
  rintro e w' ⟨rfl, sv', h1, h2, h3⟩
  refine ⟨rfl, ⟨⟨sv', h1, ?_⟩, Nat.lt_of_lt_of_le ht h2.size⟩, h2.mono (fun k _ hk => ⟨(xf_lt h k hk).1, ha k hk⟩)⟩
  rintro k (rfl | hk)
  · exact ha k (.inl rfl)
  · rcases h3 k hk with h4 | h4
    · exact ha k (.inr h4)
    · omega
theorem bytes_wp (g : Nat) (A : Option Addr) (n c : Nat) (ys : List Int) (B T : Nat) (xs : List Int) (w : World) (hf : xs.length + n ≤ 124) (hr : Rd w A n (ys.map (Value.int .u8))) (h : WrP w B T g xs) :
    Calls Tryd.prog 53 #[.pointer (some ⟨g, 0, none⟩), .slice A n c] w fun e w' => e = .returned (.pointer (some ⟨g, 0, none⟩)) ∧ WrP w' B T g (xs ++ ys) ∧ Fr (NP B T) w w' := by
  have hl := h.le
  obtain ⟨⟨sv, h, ha⟩, ht⟩ := h
  refine (LeW.bytes_ok g A n c ys B 124 sv xs w (by omega) hr hl h).mono ?_
  rintro e w' ⟨rfl, sv', h1, h2, h3⟩
  refine ⟨rfl, ⟨⟨sv', h1, ?_⟩, Nat.lt_of_lt_of_le ht h2.size⟩, h2.mono (fun k _ hk => ⟨(wf_lt h k hk).1, ha k hk⟩)⟩
  rintro k (rfl | hk)
  · exact ha k (.inl rfl)
  · rcases h3 k hk with h4 | h4
    · exact ha k (.inr h4)
    · omega
theorem bytes_xp (g : Nat) (A : Option Addr) (n c : Nat) (ys : List Int) (B T : Nat) (xs : List Int) (w : World) (hf : xs.length + n ≤ 124) (hr : Rd w A n (ys.map (Value.int .u8))) (h : XrP w B T g xs) :
    Calls Tryd.prog 32 #[.pointer (some ⟨g, 0, none⟩), .slice A n c] w fun e w' => e = .returned (.tuple #[]) ∧ XrP w' B T g (xs ++ ys) ∧ Fr (NP B T) w w' := by
  have hl := h.le
  obtain ⟨⟨sv, h, ha⟩, ht⟩ := h
  refine (xbytes_ok g A n c ys B 124 sv xs w (by omega) hr hl h).mono ?_
  rintro e w' ⟨rfl, sv', h1, h2, h3⟩
  refine ⟨rfl, ⟨⟨sv', h1, ?_⟩, Nat.lt_of_lt_of_le ht h2.size⟩, h2.mono (fun k _ hk => ⟨(xf_lt h k hk).1, ha k hk⟩)⟩
  rintro k (rfl | hk)
  · exact ha k (.inl rfl)
  · rcases h3 k hk with h4 | h4
    · exact ha k (.inr h4)
    · omega
theorem done_wp (g : Nat) (B T : Nat) (xs : List Int) (w : World) (h : WrP w B T g xs) :
    Calls Tryd.prog 55 #[.pointer (some ⟨g, 0, none⟩)] w fun e w' => ∃ A, e = .returned (.tuple #[.slice A 124 124, .int .i64 0]) ∧ Rd w' A 124 ((padded 124 xs).map (Value.int .u8)) ∧ Fr No w w' := by
  have hl := h.le
  obtain ⟨⟨sv, h, ha⟩, ht⟩ := h
  refine (LeW.done_ok g B 124 sv xs w hl h).mono ?_
  rintro e w' ⟨rfl, h1, h2⟩
  exact ⟨_, rfl, Rd.own h1, h2⟩
theorem XrP.rd {w : World} {B T g : Nat} {xs : List Int} (h : XrP w B T g xs) : ∃ A c, w.cell? ⟨g, 1, none⟩ = some (.slice A xs.length c) ∧ Rd w A xs.length (xs.map (Value.int .u8)) := by
  obtain ⟨⟨sv, h, _⟩, _⟩ := h
  obtain ⟨A, cap, rfl⟩ := own_form h.own
  exact ⟨A, cap, h.blk.cell 1, Rd.own h.own⟩
theorem WrP.len {w : World} {B T g : Nat} {xs : List Int} (h : WrP w B T g xs) : xs.length ≤ 124 := by
  obtain ⟨⟨sv, h, _⟩, _⟩ := h
  have := h.fit
  omega
theorem WrP.un {w : World} {B T G g : Nat} {xs : List Int} (h : WrP w B T g xs) (hG : G < B) : WrP w B G g xs := by
  have hl := h.le
  obtain ⟨⟨sv, h, ha⟩, ht⟩ := h
  exact ⟨⟨sv, h, fun k hk => by have := (wf_lt h k hk).1; omega⟩, by omega⟩
theorem XrP.un {w : World} {B T G g : Nat} {xs : List Int} (h : XrP w B T g xs) (hG : G < B) : XrP w B G g xs := by
  have hl := h.le
  obtain ⟨⟨sv, h, ha⟩, ht⟩ := h
  exact ⟨⟨sv, h, fun k hk => by have := (xf_lt h k hk).1; omega⟩, by omega⟩
/-- A new writer. -/
theorem new_wp (T : Nat) (w : World) (hT : T < w.heap.size) : Calls Tryd.prog 52 #[.int .i64 124] w fun e w' => e = .returned (.pointer (some ⟨w.heap.size, 0, none⟩)) ∧ WrP w' w.heap.size T w.heap.size [] ∧ Fr No w w' := by
  refine (new_in 124 w (by decide) (by decide)).mono ?_
  rintro e w' ⟨rfl, rfl⟩
  refine ⟨rfl, ⟨⟨.slice none 0 0, ⟨Blk.new w _ _, World.ownsRow_nil _ _ _ _, Nat.le_refl _, by decide, by decide, by decide⟩, ?_⟩, by simp; omega⟩, (Fr.refl No w).alloc _⟩
  rintro k (rfl | hk)
  · omega
  · simp [Value.ownBlock] at hk
theorem new_xp (T : Nat) (w : World) (hT : T < w.heap.size) : XrP (w.alloc (.cells #[.int .i64 124, .slice none 0 0, .bool false] 76)) w.heap.size T w.heap.size [] := by
  refine ⟨⟨.slice none 0 0, ⟨Blk.new w _ _, World.ownsRow_nil _ _ _ _, Nat.le_refl _, by decide, by decide, by decide⟩, ?_⟩, by simp; omega⟩
  rintro k (rfl | hk)
  · omega
  · simp [Value.ownBlock] at hk

theorem kcN {B T : Nat} {b c : World} {p : Addr} {v : Value} (k : Fr (NP B T) b c) (h : b.cell? p = some v) (hp : p.block < B ∨ p.block = T := by first | (left; (try simp only []); omega) | (right; rfl)) : c.cell? p = some v := k.cell_some h (fun h => by unfold NP at h; omega)
theorem kfN {B T : Nat} {a b c : World} (k : Fr (NP B T) b c) (h : Hid (Fr (NP B T) a b)) : Hid (Fr (NP B T) a c) := hid (h.out.trans k)
theorem kdN {B T : Nat} {a b : World} (h : Hid (Fr (NP B T) a b)) : Hid (Fr (NP B T) a b.drew) := hid h.out.drew
theorem kfaN {B T : Nat} {a b : World} {o : Obj} (h : Hid (Fr (NP B T) a b)) : Hid (Fr (NP B T) a (b.alloc o)) := hid (h.out.alloc o)
theorem np_mono {B T T' : Nat} {w w' : World} (hT : T' < B) (h : Fr (NP B T) w w') : Fr (NP B T') w w' := h.mono fun k hk hn => by unfold NP at *; omega
end Go.Proofs.YtkkbgbpmpcoffaaDoor.WrB
