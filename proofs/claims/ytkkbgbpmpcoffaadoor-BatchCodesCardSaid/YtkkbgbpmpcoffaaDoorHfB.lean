import Derived.Test.YtkkbgbpmpcoffaaDoorLeY
import Derived.Test.YtkkbgbpmpcoffaaDoorBtA
import Derived.Test.YtkkbgbpmpcoffaaDoorWrB
import Derived.Test.YtkkbgbpmpcoffaaDoorHfA
import Derived.Lib.SlBytesConst
import Derived.Lib.AppendZeros
import Derived.Test.YtkkbgbpmpcoffaaDoorBtD
import Derived.Test.YtkkbgbpmpcoffaaDoorSpO
/- Contracts of package le's reader and of the plain reader in one form: what is left, or that it is at fault, as one value. Conditions: the reader's own block is known whole, and what is left reads as bytes. -/
namespace Go.Proofs.YtkkbgbpmpcoffaaDoor.RdA
open Go.RowKit MSep LeA LeW LeR LeX LeY

/-- What a number of n bytes is, and what is left. -/
def gt (n : Nat) : Option (List Int) → Int × Option (List Int)
  | none => (0, none)
  | some xs => if xs.length < n then (0, none) else (num (xs.take n), some (xs.drop n))
/-- The same, as a whole number that has to be within bounds. -/
def gi (n : Nat) (a b : Int) : Option (List Int) → Int × Option (List Int)
  | none => (0, none)
  | some xs => if xs.length < n then (0, none) else if a ≤ wrap64 (num (xs.take n)) ∧ wrap64 (num (xs.take n)) ≤ b then (wrap64 (num (xs.take n)), some (xs.drop n)) else (0, none)

/-- A reader at block g: its blocks are among U. -/
def RdO (w : World) (B : Nat) (U : Nat → Prop) (g : Nat) : Option (List Int) → Prop
  | none => ROk w B g true none 0 [] ∧ U g
  | some xs => ∃ A c, ROk w B g false A c xs ∧ ∀ k, RF g A k → U k
/-- The plain reader at block g: its blocks are among U. -/
def YdO (w : World) (U : Nat → Prop) (g : Nat) : Option (List Int) → Prop
  | none => ∃ A c xs, YOk w g true A c xs ∧ ∀ k, YF g A xs k → U k
  | some xs => ∃ A c, YOk w g false A c xs ∧ ∀ k, YF g A xs k → U k

section
variable {w w' : World} {B g : Nat} {U : Nat → Prop} {st : Option (List Int)}
theorem RdO.fr {S : Nat → Prop} (h : RdO w B U g st) (hf : Fr S w w') (hn : ∀ k, U k → ¬ S k) : RdO w' B U g st := by
  cases st with
  | none => exact ⟨h.1.fr hf (fun k hk => by rcases hk with rfl | ⟨a, h0, _⟩; exact hn _ h.2; cases h0), h.2⟩
  | some xs =>
    obtain ⟨A, c, h1, h2⟩ := h
    exact ⟨A, c, h1.fr hf (fun k hk => hn k (h2 k hk)), h2⟩
theorem RdO.drew (h : RdO w B U g st) : RdO w.drew B U g st := h.fr (S := No) ((Fr.refl No w).drew) (fun _ _ h => h)
theorem RdO.own (h : RdO w B U g st) : U g := by
  cases st with
  | none => exact h.2
  | some xs =>
    obtain ⟨A, c, h1, h2⟩ := h
    exact h2 g (.inl rfl)
theorem RdO.hB (h : RdO w B U g st) : B ≤ g := by
  cases st with
  | none => exact h.1.hB
  | some xs =>
    obtain ⟨A, c, h1, h2⟩ := h
    exact h1.hB
theorem RdO.lt (h : RdO w B U g st) : g < w.heap.size := by
  cases st with
  | none => exact h.1.blk.lt
  | some xs =>
    obtain ⟨A, c, h1, h2⟩ := h
    exact h1.blk.lt
theorem YdO.fr {S : Nat → Prop} (h : YdO w U g st) (hf : Fr S w w') (hn : ∀ k, U k → ¬ S k) : YdO w' U g st := by
  cases st with
  | none =>
    obtain ⟨A, c, xs, h1, h2⟩ := h
    exact ⟨A, c, xs, h1.fr hf (fun k hk => hn k (h2 k hk)), h2⟩
  | some xs =>
    obtain ⟨A, c, h1, h2⟩ := h
    exact ⟨A, c, h1.fr hf (fun k hk => hn k (h2 k hk)), h2⟩
theorem YdO.drew (h : YdO w U g st) : YdO w.drew U g st := h.fr (S := No) ((Fr.refl No w).drew) (fun _ _ h => h)
theorem YdO.own (h : YdO w U g st) : U g := by
  cases st with
  | none =>
    obtain ⟨A, c, xs, h1, h2⟩ := h
    exact h2 g (.inl rfl)
  | some xs =>
    obtain ⟨A, c, h1, h2⟩ := h
    exact h2 g (.inl rfl)
theorem YdO.lt (h : YdO w U g st) : g < w.heap.size := by
  cases st with
  | none =>
    obtain ⟨A, c, xs, h1, h2⟩ := h
    exact h1.blk.lt
  | some xs =>
    obtain ⟨A, c, h1, h2⟩ := h
    exact h1.blk.lt
end

/-- The program's Int, whatever the reader. -/
theorem int_rd (g n : Nat) (a b : Int) (B : Nat) (U : Nat → Prop) (st : Option (List Int)) (w : World) (hs : n = 1 ∨ n = 2 ∨ n = 4 ∨ n = 8) (h : RdO w B U g st) :
    Calls Tryd.prog 67 #[.pointer (some ⟨g, 0, none⟩), .int .i64 n, .int .i64 a, .int .i64 b] w fun e w' => e = .returned (.int .i64 (gi n a b st).1) ∧ RdO w' B U g (gi n a b st).2 ∧ Fr (fun k => k = g) w w' := by
  have hu := h.own
  cases st with
  | none =>
    refine (int_bad g n a b B true none 0 [] w (.inr (by simp; omega)) h.1).mono ?_
    rintro e w' ⟨rfl, h1, h2⟩
    exact ⟨rfl, ⟨h1, hu⟩, h2⟩
  | some xs =>
    obtain ⟨A, c, h1, h2⟩ := h
    by_cases hl : xs.length < n
    · simp only [gi, if_pos hl]
      refine (int_bad g n a b B false A c xs w (.inr (by omega)) h1).mono ?_
      rintro e w' ⟨rfl, h3, h4⟩
      exact ⟨rfl, ⟨h3, hu⟩, h4⟩
    · by_cases hr : a ≤ wrap64 (num (xs.take n)) ∧ wrap64 (num (xs.take n)) ≤ b
      · simp only [gi, if_neg hl, if_pos hr]
        refine (int_ok g n a b B A c xs w hs (by omega) h1 hr.1 hr.2).mono ?_
        rintro e w' ⟨rfl, h3, h4⟩
        exact ⟨rfl, ⟨_, _, h3, fun k hk => h2 k (RF.cut hk)⟩, h4⟩
      · simp only [gi, if_neg hl, if_neg hr]
        refine (int_out g n a b B A c xs w hs (by omega) h1 (by omega)).mono ?_
        rintro e w' ⟨rfl, h3, h4⟩
        exact ⟨rfl, ⟨h3, hu⟩, h4⟩
/-- What a reader answers at the end. -/
def dn : Option (List Int) → Int
  | none => 10
  | some xs => endOf xs
theorem done_rd (g : Nat) (B : Nat) (U : Nat → Prop) (st : Option (List Int)) (w : World) (h : RdO w B U g st) :
    Calls Tryd.prog 68 #[.pointer (some ⟨g, 0, none⟩)] w fun e w' => e = .returned (.int .i64 (dn st)) ∧ w = w' := by
  cases st with
  | none => exact done_bad g B none 0 [] w h.1
  | some xs =>
    obtain ⟨A, c, h1, h2⟩ := h
    exact done_ok g B A c xs w h1
theorem take_rd (A : Option Addr) (n c : Nat) (zs : List Int) (w : World) (hr : Rd w A n (zs.map (Value.int .u8))) (hu : ∀ x ∈ zs, 0 ≤ x ∧ x ≤ 255) (hn : n ≤ 140737488355328) :
    Calls Tryd.prog 64 #[.slice A n c] w fun e w' => ∃ g, e = .returned (.pointer (some ⟨g, 0, none⟩)) ∧ RdO w' w.heap.size (fun k => w.heap.size ≤ k ∧ k < w'.heap.size) g (some zs) ∧ Fr No w w' := by
  refine (take_any A n c zs w.heap.size w hr hu hn (Nat.le_refl _)).mono ?_
  rintro e w' ⟨g, A', c', rfl, h1, h2, h3, h4⟩
  exact ⟨g, rfl, ⟨A', c', h1, fun k hk => ⟨h3 k hk, h4 k hk⟩⟩, h2⟩
/-- So many bytes that there are. -/
theorem bytes_rd (g n : Nat) (B : Nat) (U : Nat → Prop) (xs : List Int) (w : World) (hn : n ≤ xs.length) (hB : B ≤ w.heap.size) (h : RdO w B U g (some xs)) :
    Calls Tryd.prog 65 #[.pointer (some ⟨g, 0, none⟩), .int .i64 n] w fun e w' => ∃ A' c', e = .returned (.slice A' n c') ∧ Rd w' A' n ((xs.map (Value.int .u8)).take n) ∧ RdO w' B U g (some (xs.drop n)) ∧ Fr (fun k => k = g) w w' := by
  obtain ⟨A, c, h1, h2⟩ := h
  refine (bytes_ok g n B false A c xs w hn hB h1).mono ?_
  rintro e w' ⟨A', c', rfl, h3, h4, h5, h6⟩
  exact ⟨A', c', rfl, Rd.own h3, ⟨_, _, h4, fun k hk => h2 k (RF.cut hk)⟩, h5⟩

/-- The plain reader's Get, Int, Bytes, Done. -/
theorem get_yd (g n : Nat) (U : Nat → Prop) (st : Option (List Int)) (w : World) (hs : n = 1 ∨ n = 2 ∨ n = 4 ∨ n = 8) (h : YdO w U g st) :
    Calls Tryd.prog 41 #[.pointer (some ⟨g, 0, none⟩), .int .i64 n] w fun e w' => e = .returned (.int .u64 (gt n st).1) ∧ YdO w' U g (gt n st).2 ∧ Fr (fun k => k = g) w w' := by
  cases st with
  | none =>
    obtain ⟨A, c, xs, h1, h2⟩ := h
    refine (yget_bad g n true A c xs w (.inl rfl) h1).mono ?_
    rintro e w' ⟨rfl, h3, h4⟩
    exact ⟨rfl, ⟨_, _, _, h3, h2⟩, h4⟩
  | some xs =>
    obtain ⟨A, c, h1, h2⟩ := h
    by_cases hl : xs.length < n
    · simp only [gt, if_pos hl]
      refine (yget_bad g n false A c xs w (.inr (.inr (by omega))) h1).mono ?_
      rintro e w' ⟨rfl, h3, h4⟩
      exact ⟨rfl, ⟨_, _, _, h3, h2⟩, h4⟩
    · simp only [gt, if_neg hl]
      refine (yget_ok g n A c xs w hs (by omega) h1).mono ?_
      rintro e w' ⟨rfl, h3, h4⟩
      exact ⟨rfl, ⟨_, _, h3, fun k hk => h2 k (YF.cut hk)⟩, h4⟩
theorem int_yd (g n : Nat) (a b : Int) (U : Nat → Prop) (st : Option (List Int)) (w : World) (hs : n = 1 ∨ n = 2 ∨ n = 4 ∨ n = 8) (h : YdO w U g st) :
    Calls Tryd.prog 42 #[.pointer (some ⟨g, 0, none⟩), .int .i64 n, .int .i64 a, .int .i64 b] w fun e w' => e = .returned (.int .i64 (gi n a b st).1) ∧ YdO w' U g (gi n a b st).2 ∧ Fr (fun k => k = g) w w' := by
  cases st with
  | none =>
    obtain ⟨A, c, xs, h1, h2⟩ := h
    refine (yint_bad g n a b true A c xs w (.inl rfl) h1).mono ?_
    rintro e w' ⟨rfl, h3, h4⟩
    exact ⟨rfl, ⟨_, _, _, h3, h2⟩, h4⟩
  | some xs =>
    obtain ⟨A, c, h1, h2⟩ := h
    by_cases hl : xs.length < n
    · simp only [gi, if_pos hl]
      refine (yint_bad g n a b false A c xs w (.inr (.inr (by omega))) h1).mono ?_
      rintro e w' ⟨rfl, h3, h4⟩
      exact ⟨rfl, ⟨_, _, _, h3, h2⟩, h4⟩
    · by_cases hr : a ≤ wrap64 (num (xs.take n)) ∧ wrap64 (num (xs.take n)) ≤ b
      · simp only [gi, if_neg hl, if_pos hr]
        refine (yint_ok g n a b A c xs w hs (by omega) h1 hr.1 hr.2).mono ?_
        rintro e w' ⟨rfl, h3, h4⟩
        exact ⟨rfl, ⟨_, _, h3, fun k hk => h2 k (YF.cut hk)⟩, h4⟩
      · simp only [gi, if_neg hl, if_neg hr]
        refine (yint_out g n a b A c xs w hs (by omega) h1 (by omega)).mono ?_
        rintro e w' ⟨rfl, ⟨A', c', ys, h3, h5⟩, h4⟩
        exact ⟨rfl, ⟨_, _, _, h3, fun k hk => h2 k (h5 k hk)⟩, h4⟩
theorem bytes_yd (g n : Nat) (U : Nat → Prop) (xs : List Int) (w : World) (hn : n ≤ xs.length) (h : YdO w U g (some xs)) :
    Calls Tryd.prog 40 #[.pointer (some ⟨g, 0, none⟩), .int .i64 n] w fun e w' => ∃ A' c', e = .returned (.slice A' n c') ∧ Rd w' A' n ((xs.map (Value.int .u8)).take n) ∧ YdO w' U g (some (xs.drop n)) ∧ Fr (fun k => k = g) w w' := by
  obtain ⟨A, c, h1, h2⟩ := h
  refine (ybytes_ok g n A c xs w hn h1).mono ?_
  rintro e w' ⟨rfl, h3, h4, h5⟩
  exact ⟨A, c, rfl, h4, ⟨_, _, h3, fun k hk => h2 k (YF.cut hk)⟩, h5⟩
/-- Is all got? -/
def dy : Option (List Int) → Bool
  | none => false
  | some xs => allZero xs
theorem done_yd (g : Nat) (U : Nat → Prop) (st : Option (List Int)) (w : World) (h : YdO w U g st) :
    Calls Tryd.prog 43 #[.pointer (some ⟨g, 0, none⟩)] w fun e w' => e = .returned (.bool (dy st)) ∧ w = w' := by
  cases st with
  | none =>
    obtain ⟨A, c, xs, h1, h2⟩ := h
    refine (ydone_any g true A c xs w h1).mono ?_
    rintro e w' ⟨rfl, rfl⟩
    exact ⟨by simp [yend, dy], rfl⟩
  | some xs =>
    obtain ⟨A, c, h1, h2⟩ := h
    refine (ydone_any g false A c xs w h1).mono ?_
    rintro e w' ⟨rfl, rfl⟩
    exact ⟨by simp [yend, dy], rfl⟩
/-- A plain reader that is laid of a row that reads as bytes. -/
theorem YdO.new {w : World} {A : Option Addr} {c : Nat} {xs : List Int} {U : Nat → Prop} {g : Nat} (hb : Blk w g 87 #[.slice A xs.length c, .bool false]) (hr : Rd w A xs.length (xs.map (Value.int .u8))) (hc : xs.length ≤ c) (hu : ∀ x ∈ xs, 0 ≤ x ∧ x ≤ 255) (hl : xs.length ≤ 140737488355328)
    (hA : ∀ a, A = some a → a.block ≠ g ∧ U a.block) (hg : U g) : YdO w U g (some xs) :=
  ⟨A, c, ⟨hb, hr, hc, fun _ a e => (hA a e).1, hu, hl⟩, fun k hk => by
    rcases hk with rfl | ⟨_, a, e, rfl⟩
    · exact hg
    · exact (hA a e).2⟩

theorem dn_zero (st : Option (List Int)) : dn st = 0 ↔ dy st = true := by
  cases st with
  | none => simp [dn, dy]
  | some xs =>
    simp only [dn, dy, endOf]
    split <;> simp_all
end Go.Proofs.YtkkbgbpmpcoffaaDoor.RdA
/- Plain facts on deltas and records: which may be, their bytes, and what any bytes are as a record. Nothing here walks a program. -/
namespace Go.Proofs.YtkkbgbpmpcoffaaDoor.RcM
open Go.RowKit LeW LeR RdA

theorem num_low : ∀ (k : Nat) (n : Int), num (low k n) = n % 256 ^ k
  | 0, n => by simp [low, num, Int.emod_one]
  | k + 1, n => by
    rw [low, num, num_low k, Int.pow_succ]
    have h1 := Int.emod_add_mul_ediv n 256
    have h2 : n % (256 ^ k * 256) = n % 256 + 256 * (n / 256 % 256 ^ k) := by
      rw [Int.mul_comm (256 ^ k) 256, Int.emod_def, Int.emod_def n 256, Int.emod_def (n / 256), ← Int.ediv_ediv_of_nonneg (by omega), Int.mul_sub, ← Int.mul_assoc]
      omega
    rw [h2]
/-- A delta: kind, at, how many, zone, offset. -/
structure De where
  k : Int
  a : Int
  n : Int
  z : Int
  o : Int
/-- A record: epoch, number, whether it ends a group, up to, deltas. -/
structure Rc where
  e : Int
  s : Int
  c : Bool
  u : Int
  l : List De
def zn (z : Int) : Prop := 0 ≤ z ∧ z ≤ 143
instance (z : Int) : Decidable (zn z) := by unfold zn; exact inferInstance
def ata (a : Int) : Prop := 0 ≤ a ∧ a ≤ 4294967295
instance (a : Int) : Decidable (ata a) := by unfold ata; exact inferInstance
def mny (n : Int) : Prop := 1 ≤ n ∧ n ≤ 65535
instance (n : Int) : Decidable (mny n) := by unfold mny; exact inferInstance
/-- A delta that may be. -/
def mayD (d : De) : Prop := (d.k = 1 ∧ ata d.a ∧ mny d.n ∧ zn d.z ∧ 0 ≤ d.o ∧ d.o ≤ 1024) ∨ (d.k = 2 ∧ ata d.a ∧ mny d.n ∧ d.z = 0 ∧ d.o = 0) ∨ (d.k = 3 ∧ ata d.a ∧ d.n = 0 ∧ (zn d.z ∨ d.z = 255) ∧ d.o = 0) ∨ (d.k = 4 ∧ d.a = 0 ∧ d.n = 0 ∧ zn d.z ∧ d.o = 0)
instance (d : De) : Decidable (mayD d) := by unfold mayD; exact inferInstance
def mayH (e s u : Int) : Prop := (1 ≤ e ∧ e ≤ 2147483648) ∧ (0 ≤ s ∧ s ≤ 1099511627776) ∧ (0 ≤ u ∧ u ≤ 1099511627776)
instance (e s u : Int) : Decidable (mayH e s u) := by unfold mayH; exact inferInstance
/-- A record that may be. -/
def mayR (r : Rc) : Prop := mayH r.e r.s r.u ∧ r.l.length ≤ 6 ∧ ∀ d ∈ r.l, mayD d
instance (r : Rc) : Decidable (mayR r) := by unfold mayR; exact inferInstance

theorem mayD_in {d : De} (h : mayD d) : (1 ≤ d.k ∧ d.k ≤ 4) ∧ (0 ≤ d.a ∧ d.a ≤ 4294967295) ∧ (0 ≤ d.n ∧ d.n ≤ 65535) ∧ (0 ≤ d.z ∧ d.z ≤ 255) ∧ (0 ≤ d.o ∧ d.o ≤ 1024) := by
  unfold mayD zn ata mny at h
  omega

/-- A delta's bytes, a record's. -/
def eD (d : De) : List Int := low 1 d.k ++ (low 1 d.z ++ (low 2 d.n ++ (low 4 d.a ++ (low 4 d.o ++ low 4 0))))
def b01 (b : Bool) : Int := if b then 1 else 0
def eH (r : Rc) : List Int := [74, 82] ++ (low 1 (b01 r.c) ++ (low 1 r.l.length ++ (low 4 r.e ++ (low 8 r.s ++ low 8 r.u))))
def eR (r : Rc) : List Int := eH r ++ r.l.flatMap eD
theorem eD_len (d : De) : (eD d).length = 16 := by simp [eD, low_len]
theorem eH_len (r : Rc) : (eH r).length = 24 := by simp [eH, low_len]
theorem fl_len (l : List De) : (l.flatMap eD).length = 16 * l.length := by
  induction l with
  | nil => rfl
  | cons d l ih => rw [List.flatMap_cons, List.length_append, eD_len, ih, List.length_cons]; omega
theorem eR_len (r : Rc) : (eR r).length = 24 + 16 * r.l.length := by rw [eR, List.length_append, eH_len, fl_len]
theorem low_u8 : ∀ (k : Nat) (n : Int), ∀ x ∈ low k n, 0 ≤ x ∧ x ≤ 255
  | 0, n, x, h => by simp [low] at h
  | k + 1, n, x, h => by
    rw [low, List.mem_cons] at h
    rcases h with rfl | h
    · omega
    · exact low_u8 k _ x h
theorem eD_u8 (d : De) : ∀ x ∈ eD d, 0 ≤ x ∧ x ≤ 255 := by
  intro x h
  simp only [eD, List.mem_append] at h
  rcases h with h | h | h | h | h | h <;> exact low_u8 _ _ x h
theorem eR_u8 (r : Rc) : ∀ x ∈ eR r, 0 ≤ x ∧ x ≤ 255 := by
  intro x h
  simp only [eR, eH, List.mem_append, List.mem_flatMap] at h
  rcases h with (h | h | h | h | h | h) | ⟨d, _, h⟩
  · simp at h; omega
  · exact low_u8 _ _ x h
  · exact low_u8 _ _ x h
  · exact low_u8 _ _ x h
  · exact low_u8 _ _ x h
  · exact low_u8 _ _ x h
  · exact eD_u8 d x h

/-- One delta, as the program gets it, each number within bounds. -/
def pD (st : Option (List Int)) : De × Option (List Int) :=
  let k := gi 1 1 4 st
  let z := gi 1 0 255 k.2
  let n := gi 2 0 65535 z.2
  let a := gi 4 0 4294967295 n.2
  let o := gi 4 0 1024 a.2
  let q := gi 4 0 0 o.2
  (⟨k.1, a.1, n.1, z.1, o.1⟩, q.2)
def pDs : Nat → Option (List Int) → List De × Option (List Int)
  | 0, st => ([], st)
  | n + 1, st => ((pD st).1 :: (pDs n (pD st).2).1, (pDs n (pD st).2).2)
theorem pDs_snoc : ∀ (n : Nat) (st : Option (List Int)), pDs (n + 1) st = ((pDs n st).1 ++ [(pD (pDs n st).2).1], (pD (pDs n st).2).2)
  | 0, st => rfl
  | n + 1, st => by
    have h := pDs_snoc n (pD st).2
    rw [pDs, h]
    simp [pDs]
/-- One delta, as the document's text gets it; the last number. -/
def rD (st : Option (List Int)) : De × Int × Option (List Int) :=
  let k := gt 1 st
  let z := gt 1 k.2
  let n := gt 2 z.2
  let a := gt 4 n.2
  let o := gt 4 a.2
  let q := gt 4 o.2
  (⟨wrap64 k.1, wrap64 a.1, wrap64 n.1, wrap64 z.1, wrap64 o.1⟩, q.1, q.2)
/-- n deltas; none: one of them says nothing. -/
def rDs : Nat → Option (List Int) → Option (List De × Option (List Int))
  | 0, st => some ([], st)
  | n + 1, st => if (rD st).2.1 = 0 then (rDs n (rD st).2.2).map fun p => ((rD st).1 :: p.1, p.2) else none
/-- What comes ahead of the deltas: whether it ends a group, how many, epoch, number, up to. -/
structure Hd where
  c : Int
  n : Int
  e : Int
  s : Int
  u : Int
def hd (st : Option (List Int)) : Hd × Option (List Int) :=
  let c := gi 1 0 1 st
  let n := gi 1 0 6 c.2
  let e := gi 4 1 2147483648 n.2
  let s := gi 8 0 1099511627776 e.2
  let u := gi 8 0 1099511627776 s.2
  (⟨c.1, n.1, e.1, s.1, u.1⟩, u.2)
def tk (st : Option (List Int)) : Rc × Option (List Int) :=
  let h := hd st
  let d := pDs h.1.n.toNat h.2
  (⟨h.1.e, h.1.s, decide (h.1.c = 1), h.1.u, d.1⟩, d.2)
def marked (xs : List Int) : Prop := xs.take 2 = [74, 82]
instance (xs : List Int) : Decidable (marked xs) := by unfold marked; exact inferInstance
/-- What 124 bytes are as a record, by the program. -/
def dP (xs : List Int) : Option Rc :=
  if marked xs then (let t := tk (some (xs.drop 2)); if dn t.2 = 0 ∧ mayR t.1 then some t.1 else none) else none
/-- The same, by the document's text. -/
def dR (xs : List Int) : Option Rc :=
  if marked xs then (let h := hd (some (xs.drop 2)); match rDs h.1.n.toNat h.2 with
    | none => none
    | some d => if dy d.2 = true ∧ mayR ⟨h.1.e, h.1.s, decide (h.1.c = 1), h.1.u, d.1⟩ then some ⟨h.1.e, h.1.s, decide (h.1.c = 1), h.1.u, d.1⟩ else none) else none

theorem gi_none (n : Nat) (a b : Int) : gi n a b none = (0, none) := rfl
theorem pD_none : (pD none).2 = none := rfl
theorem pDs_none : ∀ n, (pDs n none).2 = none
  | 0 => rfl
  | n + 1 => by rw [pDs]; exact pDs_none n
theorem rD_none : rD none = (⟨0, 0, 0, 0, 0⟩, 0, none) := by
  have h : wrap64 0 = 0 := by unfold wrap64; omega
  simp only [rD, gt, h]
theorem rDs_none : ∀ n, ∃ l, rDs n none = some (l, none)
  | 0 => ⟨[], rfl⟩
  | n + 1 => by
    obtain ⟨l, h⟩ := rDs_none n
    refine ⟨⟨0, 0, 0, 0, 0⟩ :: l, ?_⟩
    rw [rDs, rD_none]
    simp [h]
/-- A number within bounds is the number; the reader goes on. -/
theorem gi_some {n : Nat} {a b : Int} {xs : List Int} (hl : n ≤ xs.length) : gi n a b (some xs) = if a ≤ wrap64 (num (xs.take n)) ∧ wrap64 (num (xs.take n)) ≤ b then (wrap64 (num (xs.take n)), some (xs.drop n)) else (0, none) := by
  rw [gi, if_neg (by omega)]
theorem gt_some {n : Nat} {xs : List Int} (hl : n ≤ xs.length) : gt n (some xs) = (num (xs.take n), some (xs.drop n)) := by
  rw [gt, if_neg (by omega)]
theorem num_take {xs : List Int} (h : ∀ x ∈ xs, 0 ≤ x ∧ x ≤ 255) (n : Nat) (hl : n ≤ xs.length) : 0 ≤ num (xs.take n) ∧ num (xs.take n) < 256 ^ n := by
  have := num_bd (xs.take n) (fun x hx => h x (List.mem_of_mem_take hx))
  rw [List.length_take, Nat.min_eq_left hl] at this
  exact this
theorem w64 (n : Int) (h : 0 ≤ n ∧ n < 9223372036854775808) : wrap64 n = n := by unfold wrap64; omega
/-- One delta of 16 bytes: both get the same, and go on; or the program is at fault, and the document's is none that may be. -/
theorem one_delta {xs : List Int} (h8 : ∀ x ∈ xs, 0 ≤ x ∧ x ≤ 255) (hl : 16 ≤ xs.length) :
    ((rD (some xs)).2.1 = 0 ∧ pD (some xs) = ((rD (some xs)).1, some (xs.drop 16)) ∧ (rD (some xs)).2.2 = some (xs.drop 16)) ∨
    ((pD (some xs)).2 = none ∧ ((rD (some xs)).2.1 ≠ 0 ∨ ((rD (some xs)).2.2 = some (xs.drop 16) ∧ ¬ mayD (rD (some xs)).1))) := by
  have hr : rD (some xs) = (⟨wrap64 (num (xs.take 1)), wrap64 (num ((xs.drop 4).take 4)), wrap64 (num ((xs.drop 2).take 2)), wrap64 (num ((xs.drop 1).take 1)), wrap64 (num ((xs.drop 8).take 4))⟩, num ((xs.drop 12).take 4), some (xs.drop 16)) := by
    simp only [rD, gt_some (n := 1) (xs := xs) (by omega), gt_some (n := 1) (xs := xs.drop 1) (by simp; omega), List.drop_drop, gt_some (n := 2) (xs := xs.drop 2) (by simp; omega), gt_some (n := 4) (xs := xs.drop 4) (by simp; omega), gt_some (n := 4) (xs := xs.drop 8) (by simp; omega), gt_some (n := 4) (xs := xs.drop 12) (by simp; omega), Nat.reduceAdd]
  have b1 := num_take h8 1 (by omega)
  have b2 := num_take (xs := xs.drop 1) (fun x hx => h8 x (List.mem_of_mem_drop hx)) 1 (by simp; omega)
  have b3 := num_take (xs := xs.drop 2) (fun x hx => h8 x (List.mem_of_mem_drop hx)) 2 (by simp; omega)
  have b4 := num_take (xs := xs.drop 4) (fun x hx => h8 x (List.mem_of_mem_drop hx)) 4 (by simp; omega)
  have b5 := num_take (xs := xs.drop 8) (fun x hx => h8 x (List.mem_of_mem_drop hx)) 4 (by simp; omega)
  have b6 := num_take (xs := xs.drop 12) (fun x hx => h8 x (List.mem_of_mem_drop hx)) 4 (by simp; omega)
  have g1 := gi_some (n := 1) (a := 1) (b := 4) (xs := xs) (by omega)
  have g2 := gi_some (n := 1) (a := 0) (b := 255) (xs := xs.drop 1) (by simp; omega)
  have g3 := gi_some (n := 2) (a := 0) (b := 65535) (xs := xs.drop 2) (by simp; omega)
  have g4 := gi_some (n := 4) (a := 0) (b := 4294967295) (xs := xs.drop 4) (by simp; omega)
  have g5 := gi_some (n := 4) (a := 0) (b := 1024) (xs := xs.drop 8) (by simp; omega)
  have g6 := gi_some (n := 4) (a := 0) (b := 0) (xs := xs.drop 12) (by simp; omega)
  simp only [List.drop_drop, Nat.reduceAdd] at g1 g2 g3 g4 g5 g6
  have p1 : (256 : Int) ^ 1 = 256 := by decide
  have p2 : (256 : Int) ^ 2 = 65536 := by decide
  have p4 : (256 : Int) ^ 4 = 4294967296 := by decide
  rw [p1] at b1 b2
  rw [p2] at b3
  rw [p4] at b4 b5 b6
  rw [hr]
  clear hr
  generalize num (xs.take 1) = k at *
  generalize num ((xs.drop 1).take 1) = z at *
  generalize num ((xs.drop 2).take 2) = n at *
  generalize num ((xs.drop 4).take 4) = a at *
  generalize num ((xs.drop 8).take 4) = o at *
  generalize num ((xs.drop 12).take 4) = q at *
  rw [w64 k (by omega)] at g1 ⊢
  rw [w64 z (by omega)] at g2 ⊢
  rw [w64 n (by omega)] at g3 ⊢
  rw [w64 a (by omega)] at g4 ⊢
  rw [w64 o (by omega)] at g5 ⊢
  rw [w64 q (by omega)] at g6
  rw [if_pos (by omega)] at g2 g3 g4
  by_cases c1 : 1 ≤ k ∧ k ≤ 4
  · rw [if_pos c1] at g1
    by_cases c5 : o ≤ 1024
    · rw [if_pos ⟨b5.1, c5⟩] at g5
      by_cases c6 : q = 0
      · rw [if_pos (by omega)] at g6
        refine .inl ⟨c6, ?_, rfl⟩
        simp only [pD, g1, g2, g3, g4, g5, g6]
      · rw [if_neg (by omega)] at g6
        refine .inr ⟨?_, .inl c6⟩
        simp only [pD, g1, g2, g3, g4, g5, g6]
    · rw [if_neg (by omega)] at g5
      refine .inr ⟨?_, .inr ⟨rfl, fun h => c5 (mayD_in h).2.2.2.2.2⟩⟩
      simp only [pD, g1, g2, g3, g4, g5, gi_none]
  · rw [if_neg c1] at g1
    refine .inr ⟨?_, .inr ⟨rfl, fun h => c1 (mayD_in h).1⟩⟩
    simp only [pD, g1, gi_none]

/-- n deltas: the same; or the program is at fault, and the document's are none, or one of them may not be. -/
theorem some_deltas : ∀ (n : Nat) {xs : List Int}, (∀ x ∈ xs, 0 ≤ x ∧ x ≤ 255) → 16 * n ≤ xs.length →
    (∃ l ys, pDs n (some xs) = (l, some ys) ∧ rDs n (some xs) = some (l, some ys)) ∨
    ((pDs n (some xs)).2 = none ∧ (rDs n (some xs) = none ∨ ∃ l st, rDs n (some xs) = some (l, st) ∧ ∃ d ∈ l, ¬ mayD d))
  | 0, xs, _, _ => .inl ⟨[], xs, rfl, rfl⟩
  | n + 1, xs, h8, hl => by
    have hm : ∀ x ∈ xs.drop 16, 0 ≤ x ∧ x ≤ 255 := fun x hx => h8 x (List.mem_of_mem_drop hx)
    have ih := some_deltas n hm (by simp; omega)
    rcases one_delta h8 (by omega) with ⟨h1, h2, h3⟩ | ⟨h1, h2 | ⟨h2, h3⟩⟩
    · rw [pDs, rDs, if_pos h1, h2, h3]
      dsimp only
      rcases ih with ⟨l, ys, e1, e2⟩ | ⟨e1, e2 | ⟨l, st, e2, d, hd, hn⟩⟩
      · exact .inl ⟨(rD (some xs)).1 :: l, ys, by rw [e1], by rw [e2]; rfl⟩
      · exact .inr ⟨e1, .inl (by rw [e2]; rfl)⟩
      · exact .inr ⟨e1, .inr ⟨_, _, by rw [e2]; rfl, d, List.mem_cons_of_mem _ hd, hn⟩⟩
    · rw [pDs, rDs, if_neg h2, h1]
      exact .inr ⟨pDs_none n, .inl rfl⟩
    · rw [pDs, rDs, h1, h2]
      refine .inr ⟨pDs_none n, ?_⟩
      split
      · cases hx : rDs n (some (xs.drop 16)) with
        | none => exact .inl rfl
        | some p => exact .inr ⟨_, _, rfl, _, List.mem_cons_self, h3⟩
      · exact .inl rfl

theorem hd_some {xs : List Int} (hl : 22 ≤ xs.length) : (hd (some xs)).2 = none ∨ ((hd (some xs)).2 = some (xs.drop 22) ∧ 0 ≤ (hd (some xs)).1.n ∧ (hd (some xs)).1.n ≤ 6) := by
  have g1 := gi_some (n := 1) (a := 0) (b := 1) (xs := xs) (by omega)
  have g2 := gi_some (n := 1) (a := 0) (b := 6) (xs := xs.drop 1) (by simp; omega)
  have g3 := gi_some (n := 4) (a := 1) (b := 2147483648) (xs := xs.drop 2) (by simp; omega)
  have g4 := gi_some (n := 8) (a := 0) (b := 1099511627776) (xs := xs.drop 6) (by simp; omega)
  have g5 := gi_some (n := 8) (a := 0) (b := 1099511627776) (xs := xs.drop 14) (by simp; omega)
  simp only [List.drop_drop, Nat.reduceAdd] at g1 g2 g3 g4 g5
  split at g1
  · split at g2
    · rename_i k2
      split at g3
      · split at g4
        · split at g5
          · refine .inr ?_
            simp only [hd, g1, g2, g3, g4, g5]
            exact ⟨trivial, k2⟩
          · refine .inl ?_
            simp only [hd, g1, g2, g3, g4, g5]
        · refine .inl ?_
          simp only [hd, g1, g2, g3, g4, gi_none]
      · refine .inl ?_
        simp only [hd, g1, g2, g3, gi_none]
    · refine .inl ?_
      simp only [hd, g1, g2, gi_none]
  · refine .inl ?_
    simp only [hd, g1, gi_none]

/-- The program and the document say the same of any 124 bytes. -/
theorem dP_dR {xs : List Int} (h8 : ∀ x ∈ xs, 0 ≤ x ∧ x ≤ 255) (hl : xs.length = 124) : dP xs = dR xs := by
  unfold dP dR
  by_cases hm : marked xs
  · rw [if_pos hm, if_pos hm]
    dsimp only [tk]
    rcases hd_some (xs := xs.drop 2) (by simp; omega) with h0 | ⟨h0, h1, h2⟩
    · rw [h0, pDs_none]
      obtain ⟨l, e⟩ := rDs_none (hd (some (xs.drop 2))).1.n.toNat
      rw [e]
      simp [dn, dy]
    · rw [h0]
      rcases some_deltas (hd (some (xs.drop 2))).1.n.toNat (xs := (xs.drop 2).drop 22) (fun x hx => h8 x (List.mem_of_mem_drop (List.mem_of_mem_drop hx))) (by simp; omega) with ⟨l, ys, e1, e2⟩ | ⟨e1, e2 | ⟨l, st, e2, d, hd, hn⟩⟩
      · rw [e1, e2]
        dsimp only
        have hz := dn_zero (some ys)
        simp only [hz]
      · rw [e1, e2]
        simp [dn]
      · rw [e1, e2]
        dsimp only
        rw [if_neg (by simp [dn]), if_neg (fun h => hn (h.2.2.2 d hd))]
  · rw [if_neg hm, if_neg hm]
end Go.Proofs.YtkkbgbpmpcoffaaDoor.RcM
/- Contract: the head of a batch, by the program. Conditions: its numbers are within their bounds; its spans read as a list; the table of sums is as its text lays it. -/
namespace Go.Proofs.YtkkbgbpmpcoffaaDoor.BtE
open Go.RowKit MSep MSepC MFrame LeA LeW LeR LeX WrB CrcA CrcM CrcE CrcG MSpM BtM BtA Kit

/-- The bytes of a head, ahead of its spans; of one span; of all. -/
def eS (s : Sp) : List Int := low 4 s.1 ++ (low 2 s.2 ++ low 2 0)
def eH (q k sum : Int) (n : Nat) : List Int := [66, 84] ++ (low 1 k ++ (low 1 (n : Int) ++ (low 8 q ++ low 4 sum)))
def eB (q k sum : Int) (l : List Sp) : List Int := eH q k sum l.length ++ l.flatMap eS
theorem eS_len (s : Sp) : (eS s).length = 8 := by simp [eS, low_len]
theorem eH_len (q k sum : Int) (n : Nat) : (eH q k sum n).length = 16 := by simp [eH, low_len]
theorem fl_len (l : List Sp) : (l.flatMap eS).length = 8 * l.length := by
  induction l with
  | nil => rfl
  | cons d l ih => rw [List.flatMap_cons, List.length_append, eS_len, ih, List.length_cons]; omega
theorem eB_len (q k sum : Int) (l : List Sp) : (eB q k sum l).length = 16 + 8 * l.length := by rw [eB, List.length_append, eH_len, fl_len]
theorem eS_u8 (s : Sp) : ∀ x ∈ eS s, 0 ≤ x ∧ x ≤ 255 := by
  intro x hx
  unfold eS at hx
  simp only [List.mem_append] at hx
  rcases hx with hx | hx | hx <;> exact RcM.low_u8 _ _ x hx
theorem eB_u8 (q k sum : Int) (l : List Sp) : ∀ x ∈ eB q k sum l, 0 ≤ x ∧ x ≤ 255 := by
  intro x hx
  unfold eB eH at hx
  simp only [List.mem_append, List.mem_flatMap] at hx
  rcases hx with (hx | hx | hx | hx | hx) | ⟨s, _, hx⟩
  · simp at hx; omega
  · exact RcM.low_u8 _ _ x hx
  · exact RcM.low_u8 _ _ x hx
  · exact RcM.low_u8 _ _ x hx
  · exact RcM.low_u8 _ _ x hx
  · exact eS_u8 s x hx
theorem fl_snoc {xs : List Sp} {k : Nat} {d : Sp} (h : xs[k]? = some d) : (xs.take (k + 1)).flatMap eS = (xs.take k).flatMap eS ++ eS d := by
  rw [BtA.take_snoc h]; simp
theorem u64w (n : Int) (h : 0 ≤ n ∧ n < 18446744073709551616) : IntKind.u64.wrap n = n := by rw [IntKind.wrap_u64]; omega
theorem pad_rest (zs : List Int) (h : zs.length ≤ 124) : seal_ (padded 124 zs) = seal_ zs := by
  have : rest (padded 124 zs) = rest zs := by
    unfold rest padded
    rw [List.length_append, List.length_replicate]
    rw [show 124 - (zs.length + (124 - zs.length)) = 0 by omega]
    simp
  unfold seal_
  rw [this]
theorem pad_u8 (zs : List Int) (h : ∀ x ∈ zs, 0 ≤ x ∧ x ≤ 255) : ∀ x ∈ padded 124 zs, 0 ≤ x ∧ x ≤ 255 := by
  intro x hx
  unfold padded at hx
  rcases List.mem_append.1 hx with hx | hx
  · exact h x hx
  · rw [List.eq_of_mem_replicate hx]; decide
theorem TabAt.pos {w : World} (h : TabAt w) : 0 < w.heap.size := World.block_lt_of_cell? w _ (h 0 _ (by rfl))
theorem rdS_lo {S : Nat → Prop} {w w' : World} {A : Option Addr} {n : Nat} {l : List Sp} (h : RdS w A n l) (hf : Fr S w w') (hS : ∀ k, k < w.heap.size → ¬ S k) : RdS w' A n l := by
  refine ⟨h.1, h.2.1, fun hn => ?_⟩
  obtain ⟨g, o, rfl, hg, hc⟩ := h.2.2 hn
  exact ⟨g, o, rfl, Nat.lt_of_lt_of_le hg hf.size, fun j u hu => hf.cell_some (hc j u hu) (hS g hg)⟩
theorem len6 {a b : List Int} {n m : Nat} (hb : b.length = 8 * n) (hn : n ≤ m) (ha : a.length = 16) : (a ++ b).length ≤ 16 + 8 * m := by
  rw [List.length_append, ha, hb]; omega
/-- What numbers a head has room for. -/
structure Hok (q k sum : Int) (l : List Sp) : Prop where
  q : 0 ≤ q ∧ q < 9223372036854775808
  k : 0 ≤ k ∧ k ≤ 255
  s : 0 ≤ sum ∧ sum < 4294967296
  n : l.length ≤ 8
  l : ∀ s ∈ l, (0 ≤ s.1 ∧ s.1 ≤ 4294967295) ∧ 0 ≤ s.2 ∧ s.2 ≤ 65535
set_option maxRecDepth 100000 in
set_option maxHeartbeats 4000000 in
theorem seal_ok (q k sum : Int) (A : Option Addr) (c : Nat) (xs : List Sp) (w : World) (hx : RdS w A xs.length xs) (hh : Hok q k sum xs) (hT : TabAt w) :
    Calls Tryd.prog 24 #[bv q k A xs.length c, .int .u32 sum] w fun E w' => ∃ g, E = .returned (.tuple #[.slice (some ⟨g, 0, none⟩) 128 128, .int .i64 0]) ∧ Blk w' g 5 (CrcE.cells (seal_ (eB q k sum xs))).toArray ∧ Fr No w w' := by
  have h6 : xs.length ≤ 8 := hh.n
  have HAll := hid hh.l
  obtain ⟨q0, q1⟩ := hh.q
  obtain ⟨k0, k1⟩ := hh.k
  obtain ⟨s0, s1⟩ := hh.s
  have hpos := TabAt.pos hT
  have HF0 := hid ((Fr.refl No w).alloc (.cells (bcs q k A xs.length c) 26))
  have HR0 := hid (BB.new w q k A xs.length c)
  have HT := hid hT
  have HX := hid hx
  clear hT hx hh
  have u1 : IntKind.u64.wrap q = q := u64w q (by omega)
  have u2 : IntKind.u64.wrap k = k := u64w k (by omega)
  have u3 : IntKind.u64.wrap sum = sum := u64w sum (by omega)
  have u4 : IntKind.u64.wrap (xs.length : Int) = (xs.length : Int) := u64w _ (by omega)
  have kcv := fun w C n c => Lib.run_convert_bytes_const (P := Tryd.prog) w 27 5 C n c Tryd.underlying27 Tryd.underlying5
  obtain ⟨w1, hw1⟩ : ∃ w1, w.alloc (.cells (bcs q k A xs.length c) 26) = w1 := ⟨_, rfl⟩
  have HF1 := hid (show Fr No w w1 by rw [← hw1]; exact HF0.out)
  have HR1 := hid (show BB w1 w.heap.size q k A xs.length c by rw [← hw1]; exact HR0.out)
  have HW1 := hid hw1
  clear hw1 HF0 HR0
  go_enter Tryd.func24, Tryd.ntmps24
  go_upto_region 1 with fail
  try rw [HW1.out]
  clear HW1
  go_upto_region 2 with (first | (go_at_call 52; refine (new_wp w.heap.size _ (Blk.lt HR1.out)).mono ?_; rintro e' w2 ⟨rfl, HW, f2⟩; obtain ⟨B, hB⟩ : ∃ B, w1.heap.size = B := ⟨_, rfl⟩; have hGB : w.heap.size < B := (by rw [← hB]; exact Blk.lt HR1.out); rw [hB] at HW ⊢; have HF2 := hid (HF1.out.trans f2); have HR2 := hid (BB.fr HR1.out f2); clear f2 hB) | (go_at_call 53; go_loud (refine (bytes_wp B _ 2 2 [66, 84] B w.heap.size [] _ (by decide) (CrcG.lit_rd w2 [66, 84] (2, 3)) (HW.fr ((Fr.refl No _).alloc _))).mono ?_; rintro e' w3 ⟨rfl, HW, f3⟩; have FW : Hid (Fr (NP B w.heap.size) w w3) := hid (((HF2.out.alloc _).mono fun _ _ h => h.elim).trans f3); have HR3 := hid (Blk.fr (HR2.out.alloc (.cells #[.int .u8 66, .int .u8 84] 5 (2, 3))) f3 (by unfold NP; omega)); clear f3)))
  obtain ⟨r0, r1, r2⟩ := BB.cells HR3.out
  have HW := HW.drew
  have FW := kdN FW
  refine wp_region_noPanic ?_
  refine wp_region_held_drew (S := (fun W' => W'.cell? ⟨w.heap.size, 0, none⟩ = some (.int .i64 q) ∧ W'.cell? ⟨w.heap.size, 1, none⟩ = some (.int .i64 k) ∧ W'.cell? ⟨w.heap.size, 2, none⟩ = some (.slice A xs.length c) ∧ Hid (Fr (NP B w.heap.size) w W'))) (by kernel_rfl) ?_ (fun hHeld => ?_)
  · (try dsimp only); (first | (go_split_ands; exact ⟨kcN f (by assumption), kcN f (by assumption), kcN f (by assumption), by assumption⟩) | (go_split_ands; exact ⟨(by assumption), (by assumption), (by assumption), by assumption⟩) | (go_split_ands; exact ⟨kcN (fr1 _ _) (by assumption), kcN (fr1 _ _) (by assumption), kcN (fr1 _ _) (by assumption), kfaN (by assumption)⟩))
  refine wpAnyH_take (i := 0) (v := ?v1) rfl (by kernel_rfl) (by kernel_rfl) (by kernel_rfl) (fun _ _ _ h => h) (Or.inl ⟨by kernel_rfl, ?y1⟩) (by assumption) ?_
  case y1 => (intro w hSw; (try dsimp only at hSw); go_simp; all_goals with_reducible rfl)
  try simp only [Act.put, List.getElem_toArray, List.getElem_cons_zero, List.setIfInBounds_toArray, List.set_cons_zero, List.set_cons_succ]
  refine wpAnyH_take (i := 1) (v := ?v2) rfl (by kernel_rfl) (by kernel_rfl) (by kernel_rfl) (fun _ _ _ h => h) (Or.inl ⟨by kernel_rfl, ?y2⟩) (by assumption) ?_
  case y2 => (intro w hSw; (try dsimp only at hSw); go_simp; all_goals with_reducible rfl)
  try simp only [Act.put, List.getElem_toArray, List.getElem_cons_succ, List.getElem_cons_zero, List.setIfInBounds_toArray, List.set_cons_zero, List.set_cons_succ]
  refine wpAnyH_take (i := 2) (v := ?v3) rfl (by kernel_rfl) (by kernel_rfl) (by kernel_rfl) (fun _ _ _ h => h) (Or.inl ⟨by kernel_rfl, ?y3⟩) (by assumption) ?_
  case y3 => (intro w hSw; (try dsimp only at hSw); go_simp; all_goals with_reducible rfl)
  try simp only [Act.put, List.getElem_toArray, List.getElem_cons_succ, List.getElem_cons_zero, List.setIfInBounds_toArray, List.set_cons_zero, List.set_cons_succ]
  refine wpAnyH_take (i := 3) (v := ?v4) rfl (by kernel_rfl) (by kernel_rfl) (by kernel_rfl) (fun _ _ _ h => h) (Or.inl ⟨by kernel_rfl, ?y4⟩) (by assumption) ?_
  case y4 => (intro w hSw; (try dsimp only at hSw); go_simp; all_goals with_reducible rfl)
  try simp only [Act.put, List.getElem_toArray, List.getElem_cons_succ, List.getElem_cons_zero, List.setIfInBounds_toArray, List.set_cons_zero, List.set_cons_succ]
  refine wpAnyH_take (i := 5) (v := ?v5) rfl (by kernel_rfl) (by kernel_rfl) (by kernel_rfl) (fun _ _ _ h => h) (Or.inl ⟨by kernel_rfl, ?y5⟩) (by assumption) ?_
  case y5 => (intro w hSw; (try dsimp only at hSw); go_simp; all_goals with_reducible rfl)
  try simp only [Act.put, List.getElem_toArray, List.getElem_cons_succ, List.getElem_cons_zero, List.setIfInBounds_toArray, List.set_cons_zero, List.set_cons_succ]
  refine wpAnyH_take (i := 6) (v := ?v6) rfl (by kernel_rfl) (by kernel_rfl) (by kernel_rfl) (fun _ _ _ h => h) (Or.inl ⟨by kernel_rfl, ?y6⟩) (by assumption) ?_
  case y6 => (intro w hSw; (try dsimp only at hSw); go_simp; all_goals with_reducible rfl)
  try simp only [Act.put, List.getElem_toArray, List.getElem_cons_succ, List.getElem_cons_zero, List.setIfInBounds_toArray, List.set_cons_zero, List.set_cons_succ]
  refine wpAnyH_take (i := 7) (v := ?v7) rfl (by kernel_rfl) (by kernel_rfl) (by kernel_rfl) (fun _ _ _ h => h) (Or.inl ⟨by kernel_rfl, ?y7⟩) (by assumption) ?_
  case y7 => (intro w hSw; (try dsimp only at hSw); go_simp; all_goals with_reducible rfl)
  try simp only [Act.put, List.getElem_toArray, List.getElem_cons_succ, List.getElem_cons_zero, List.setIfInBounds_toArray, List.set_cons_zero, List.set_cons_succ]
  refine wpAnyH_take (i := 8) (v := ?v8) rfl (by kernel_rfl) (by kernel_rfl) (by kernel_rfl) (fun _ _ _ h => h) (Or.inl ⟨by kernel_rfl, ?y8⟩) (by assumption) ?_
  case y8 => (intro w hSw; (try dsimp only at hSw); go_simp; all_goals with_reducible rfl)
  try simp only [Act.put, List.getElem_toArray, List.getElem_cons_succ, List.getElem_cons_zero, List.setIfInBounds_toArray, List.set_cons_zero, List.set_cons_succ]
  refine wpAnyH_take (i := 10) (v := ?v9) rfl (by kernel_rfl) (by kernel_rfl) (by kernel_rfl) (fun _ _ _ h => h) (Or.inl ⟨by kernel_rfl, ?y9⟩) (by assumption) ?_
  case y9 => (intro w hSw; (try dsimp only at hSw); go_simp; all_goals with_reducible rfl)
  try simp only [Act.put, List.getElem_toArray, List.getElem_cons_succ, List.getElem_cons_zero, List.setIfInBounds_toArray, List.set_cons_zero, List.set_cons_succ]
  refine wpAnyH_take (i := 11) (v := ?v10) rfl (by kernel_rfl) (by kernel_rfl) (by kernel_rfl) (fun _ _ _ h => h) (Or.inl ⟨by kernel_rfl, ?y10⟩) (by assumption) ?_
  case y10 => (intro w hSw; (try dsimp only at hSw); go_simp; all_goals with_reducible rfl)
  try simp only [Act.put, List.getElem_toArray, List.getElem_cons_succ, List.getElem_cons_zero, List.setIfInBounds_toArray, List.set_cons_zero, List.set_cons_succ]
  refine wpAnyH_take (i := 12) (v := ?v11) rfl (by kernel_rfl) (by kernel_rfl) (by kernel_rfl) (fun _ _ _ h => h) (Or.inl ⟨by kernel_rfl, ?y11⟩) (by assumption) ?_
  case y11 => (intro w hSw; (try dsimp only at hSw); go_simp; all_goals with_reducible rfl)
  try simp only [Act.put, List.getElem_toArray, List.getElem_cons_succ, List.getElem_cons_zero, List.setIfInBounds_toArray, List.set_cons_zero, List.set_cons_succ]
  refine wpAnyH_take (i := 14) (v := ?v12) rfl (by kernel_rfl) (by kernel_rfl) (by kernel_rfl) (fun _ _ _ h => h) (Or.inl ⟨by kernel_rfl, ?y12⟩) (by assumption) ?_
  case y12 => (intro w hSw; (try dsimp only at hSw); go_simp; all_goals with_reducible rfl)
  try simp only [Act.put, List.getElem_toArray, List.getElem_cons_succ, List.getElem_cons_zero, List.setIfInBounds_toArray, List.set_cons_zero, List.set_cons_succ]
  refine wpAnyH_take (i := 15) (v := ?v13) rfl (by kernel_rfl) (by kernel_rfl) (by kernel_rfl) (fun _ _ _ h => h) (Or.inl ⟨by kernel_rfl, ?y13⟩) (by assumption) ?_
  case y13 => (intro w hSw; (try dsimp only at hSw); go_simp; all_goals with_reducible rfl)
  try simp only [Act.put, List.getElem_toArray, List.getElem_cons_succ, List.getElem_cons_zero, List.setIfInBounds_toArray, List.set_cons_zero, List.set_cons_succ]
  refine wpAnyH_ready (rs := [4]) (by kernel_rfl) (by simp) (AllReadyH.cons rfl (fun K hK => ?_) AllReadyH.nil)
  go_simp
  go_at_call 54
  refine (put_wp B _ _ B w.heap.size _ _ (by decide) (by first | (simp []; done) | (simp [low_len]; omega) | omega) (by first | decide | omega) HW).mono ?_
  rintro e W1 ⟨rfl, HW, f⟩
  have FW := kfN f hHeld.2.2.2
  dsimp only
  refine hK.out _ _ ?_ (fun hHeld => ?_)
  · (try dsimp only); (first | (go_split_ands; exact ⟨kcN f (by assumption), kcN f (by assumption), kcN f (by assumption), by assumption⟩) | (go_split_ands; exact ⟨(by assumption), (by assumption), (by assumption), by assumption⟩) | (go_split_ands; exact ⟨kcN (fr1 _ _) (by assumption), kcN (fr1 _ _) (by assumption), kcN (fr1 _ _) (by assumption), kfaN (by assumption)⟩))
  clear hK K
  try simp only [Act.put, List.getElem_toArray, List.getElem_cons_succ, List.getElem_cons_zero, List.setIfInBounds_toArray, List.set_cons_zero, List.set_cons_succ]
  refine wpAnyH_ready (rs := [9]) (by kernel_rfl) (by simp) (AllReadyH.cons rfl (fun K hK => ?_) AllReadyH.nil)
  go_simp
  go_at_call 54
  refine (put_wp B _ _ B w.heap.size _ _ (by decide) (by first | (simp [low_len]; done) | (simp [low_len]; omega) | omega) (by first | decide | omega) HW).mono ?_
  rintro e W1 ⟨rfl, HW, f⟩
  have FW := kfN f hHeld.2.2.2
  dsimp only
  refine hK.out _ _ ?_ (fun hHeld => ?_)
  · (try dsimp only); (first | (go_split_ands; exact ⟨kcN f (by assumption), kcN f (by assumption), kcN f (by assumption), by assumption⟩) | (go_split_ands; exact ⟨(by assumption), (by assumption), (by assumption), by assumption⟩) | (go_split_ands; exact ⟨kcN (fr1 _ _) (by assumption), kcN (fr1 _ _) (by assumption), kcN (fr1 _ _) (by assumption), kfaN (by assumption)⟩))
  clear hK K
  try simp only [Act.put, List.getElem_toArray, List.getElem_cons_succ, List.getElem_cons_zero, List.setIfInBounds_toArray, List.set_cons_zero, List.set_cons_succ]
  refine wpAnyH_ready (rs := [13]) (by kernel_rfl) (by simp) (AllReadyH.cons rfl (fun K hK => ?_) AllReadyH.nil)
  go_simp
  go_at_call 54
  refine (put_wp B _ _ B w.heap.size _ _ (by decide) (by first | (simp [low_len]; done) | (simp [low_len]; omega) | omega) (by first | decide | omega) HW).mono ?_
  rintro e W1 ⟨rfl, HW, f⟩
  have FW := kfN f hHeld.2.2.2
  dsimp only
  refine hK.out _ _ ?_ (fun hHeld => ?_)
  · (try dsimp only); (first | (go_split_ands; exact ⟨kcN f (by assumption), kcN f (by assumption), kcN f (by assumption), by assumption⟩) | (go_split_ands; exact ⟨(by assumption), (by assumption), (by assumption), by assumption⟩) | (go_split_ands; exact ⟨kcN (fr1 _ _) (by assumption), kcN (fr1 _ _) (by assumption), kcN (fr1 _ _) (by assumption), kfaN (by assumption)⟩))
  clear hK K
  try simp only [Act.put, List.getElem_toArray, List.getElem_cons_succ, List.getElem_cons_zero, List.setIfInBounds_toArray, List.set_cons_zero, List.set_cons_succ]
  refine wpAnyH_ready (rs := [16]) (by kernel_rfl) (by simp) (AllReadyH.cons rfl (fun K hK => ?_) AllReadyH.nil)
  go_simp
  go_at_call 54
  refine (put_wp B _ _ B w.heap.size _ _ (by decide) (by first | (simp [low_len]; done) | (simp [low_len]; omega) | omega) (by first | decide | omega) HW).mono ?_
  rintro e W1 ⟨rfl, HW, f⟩
  have FW := kfN f hHeld.2.2.2
  dsimp only
  refine hK.out _ _ ?_ (fun hHeld => ?_)
  · (try dsimp only); (first | (go_split_ands; exact ⟨kcN f (by assumption), kcN f (by assumption), kcN f (by assumption), by assumption⟩) | (go_split_ands; exact ⟨(by assumption), (by assumption), (by assumption), by assumption⟩) | (go_split_ands; exact ⟨kcN (fr1 _ _) (by assumption), kcN (fr1 _ _) (by assumption), kcN (fr1 _ _) (by assumption), kfaN (by assumption)⟩))
  clear hK K
  try simp only [Act.put, List.getElem_toArray, List.getElem_cons_succ, List.getElem_cons_zero, List.setIfInBounds_toArray, List.set_cons_zero, List.set_cons_succ]
  refine wpAnyH_done (by kernel_rfl) ?_ _
  refine NoPanic.normal ?_
  have FW := hHeld.2.2.2
  obtain ⟨r0, r1, r2, _⟩ := hHeld
  go_wp2_with fail
  go_loopw [35] (fun i wr => ∃ j : Nat, j ≤ xs.length ∧ i = .int .i64 j ∧ WrP wr B w.heap.size B (eH q k sum xs.length ++ (xs.take j).flatMap eS) ∧ Fr (NP B w.heap.size) w wr) (fun i _ => xs.length - (intOf i).toNat)
  case atStart => exact ⟨0, by omega, rfl, by simpa [eH, List.append_assoc] using HW, FW.out⟩
  case round =>
    clear FW HW
    obtain ⟨j, hj, rfl, HW, hf⟩ := hrel
    have HXk := rdS_lo HX.out hf (fun k hk h => by unfold NP at h; omega)
    by_cases hlt : j < xs.length
    · obtain ⟨d, hd⟩ : ∃ d, xs[j]? = some d := ⟨_, List.getElem?_eq_getElem hlt⟩
      obtain ⟨g, o, rfl, hg, hc⟩ := HXk.at_ (by omega)
      obtain ⟨c0, c1⟩ := hc j d hd
      have hmd := HAll.out d (List.mem_of_getElem? hd)
      have hlt3 : (j : Int) < xs.length := by omega
      have h0 : (0 : Int) ≤ j := by omega
      have HD := hid hd
      have HFk := hid hf
      have hle := len6 (fl_len (xs.take j)) (show (xs.take j).length ≤ 7 by rw [List.length_take]; omega) (eH_len q k sum xs.length)
      obtain ⟨X, hX⟩ : ∃ X, eH q k sum xs.length ++ (xs.take j).flatMap eS = X := ⟨_, rfl⟩
      rw [hX] at HW hle
      have HX2 := hid hX
      obtain ⟨da, dn⟩ := d
      simp only [] at c0 c1 hmd
      obtain ⟨m1, m2⟩ := hmd
      have v1 := u64w da (by omega)
      have v2 := u64w dn (by omega)
      clear hX hd hf hc HXk r0 r1 r2 u1 u2 u3 u4
      have HW := HW.box (.cells #[.int .i64 da, .int .i64 dn] 51)
      obtain ⟨T, hT⟩ : ∃ T, wr.heap.size = T := ⟨_, rfl⟩
      have HBk := hid (show Blk (wr.alloc (.cells #[.int .i64 da, .int .i64 dn] 51)) T 51 #[.int .i64 da, .int .i64 dn] by rw [← hT]; exact Blk.new wr _ _)
      have FW : Hid (Fr (NP B w.heap.size) w (wr.alloc (.cells #[.int .i64 da, .int .i64 dn] 51))) := hid (HFk.out.alloc _)
      obtain ⟨W2, hW2⟩ : ∃ W2, wr.alloc (.cells #[.int .i64 da, .int .i64 dn] 51) = W2 := ⟨_, rfl⟩
      rw [hT, hW2] at HW
      rw [hW2] at HBk FW
      have HT2 := hid hT
      have HW2 := hid hW2
      clear hW2 hT
      go_upto_region 6 with fail
      try rw [HW2.out]
      try rw [HT2.out]
      clear HW2 HT2
      obtain ⟨d0, d1⟩ : W2.cell? ⟨T, 0, none⟩ = some (.int .i64 da) ∧ W2.cell? ⟨T, 1, none⟩ = some (.int .i64 dn) := ⟨HBk.out.cell 0, HBk.out.cell 1⟩
      have FK := FW
      have FW : Hid (Fr (NP B T) W2 W2) := hid (Fr.refl _ _)
      clear c0 c1
      have HW := HW.drew
      have FW := kdN FW
      refine wp_region_noPanic ?_
      refine wp_region_held_drew (S := (fun W' => W'.cell? ⟨T, 0, none⟩ = some (.int .i64 da) ∧ W'.cell? ⟨T, 1, none⟩ = some (.int .i64 dn) ∧ Hid (Fr (NP B T) W2 W'))) (by kernel_rfl) ?_ (fun hHeld => ?_)
      · (try dsimp only); (first | (go_split_ands; exact ⟨kcN f (by assumption), kcN f (by assumption), by assumption⟩) | (go_split_ands; exact ⟨(by assumption), (by assumption), by assumption⟩) | (go_split_ands; exact ⟨kcN (fr1 _ _) (by assumption), kcN (fr1 _ _) (by assumption), kfaN (by assumption)⟩))
      refine wpAnyH_take (i := 0) (v := ?v14) rfl (by kernel_rfl) (by kernel_rfl) (by kernel_rfl) (fun _ _ _ h => h) (Or.inl ⟨by kernel_rfl, ?y14⟩) (by assumption) ?_
      case y14 => (intro w hSw; (try dsimp only at hSw); go_simp; all_goals with_reducible rfl)
      try simp only [Act.put, List.getElem_toArray, List.getElem_cons_zero, List.setIfInBounds_toArray, List.set_cons_zero, List.set_cons_succ]
      refine wpAnyH_take (i := 1) (v := ?v15) rfl (by kernel_rfl) (by kernel_rfl) (by kernel_rfl) (fun _ _ _ h => h) (Or.inl ⟨by kernel_rfl, ?y15⟩) (by assumption) ?_
      case y15 => (intro w hSw; (try dsimp only at hSw); go_simp; all_goals with_reducible rfl)
      try simp only [Act.put, List.getElem_toArray, List.getElem_cons_succ, List.getElem_cons_zero, List.setIfInBounds_toArray, List.set_cons_zero, List.set_cons_succ]
      refine wpAnyH_take (i := 2) (v := ?v16) rfl (by kernel_rfl) (by kernel_rfl) (by kernel_rfl) (fun _ _ _ h => h) (Or.inl ⟨by kernel_rfl, ?y16⟩) (by assumption) ?_
      case y16 => (intro w hSw; (try dsimp only at hSw); go_simp; all_goals with_reducible rfl)
      try simp only [Act.put, List.getElem_toArray, List.getElem_cons_succ, List.getElem_cons_zero, List.setIfInBounds_toArray, List.set_cons_zero, List.set_cons_succ]
      refine wpAnyH_take (i := 3) (v := ?v17) rfl (by kernel_rfl) (by kernel_rfl) (by kernel_rfl) (fun _ _ _ h => h) (Or.inl ⟨by kernel_rfl, ?y17⟩) (by assumption) ?_
      case y17 => (intro w hSw; (try dsimp only at hSw); go_simp; all_goals with_reducible rfl)
      try simp only [Act.put, List.getElem_toArray, List.getElem_cons_succ, List.getElem_cons_zero, List.setIfInBounds_toArray, List.set_cons_zero, List.set_cons_succ]
      refine wpAnyH_take (i := 5) (v := ?v18) rfl (by kernel_rfl) (by kernel_rfl) (by kernel_rfl) (fun _ _ _ h => h) (Or.inl ⟨by kernel_rfl, ?y18⟩) (by assumption) ?_
      case y18 => (intro w hSw; (try dsimp only at hSw); go_simp; all_goals with_reducible rfl)
      try simp only [Act.put, List.getElem_toArray, List.getElem_cons_succ, List.getElem_cons_zero, List.setIfInBounds_toArray, List.set_cons_zero, List.set_cons_succ]
      refine wpAnyH_take (i := 6) (v := ?v19) rfl (by kernel_rfl) (by kernel_rfl) (by kernel_rfl) (fun _ _ _ h => h) (Or.inl ⟨by kernel_rfl, ?y19⟩) (by assumption) ?_
      case y19 => (intro w hSw; (try dsimp only at hSw); go_simp; all_goals with_reducible rfl)
      try simp only [Act.put, List.getElem_toArray, List.getElem_cons_succ, List.getElem_cons_zero, List.setIfInBounds_toArray, List.set_cons_zero, List.set_cons_succ]
      refine wpAnyH_take (i := 7) (v := ?v20) rfl (by kernel_rfl) (by kernel_rfl) (by kernel_rfl) (fun _ _ _ h => h) (Or.inl ⟨by kernel_rfl, ?y20⟩) (by assumption) ?_
      case y20 => (intro w hSw; (try dsimp only at hSw); go_simp; all_goals with_reducible rfl)
      try simp only [Act.put, List.getElem_toArray, List.getElem_cons_succ, List.getElem_cons_zero, List.setIfInBounds_toArray, List.set_cons_zero, List.set_cons_succ]
      refine wpAnyH_ready (rs := [4]) (by kernel_rfl) (by simp) (AllReadyH.cons rfl (fun K hK => ?_) AllReadyH.nil)
      go_simp
      go_at_call 54
      refine (put_wp B _ _ B T _ _ (by decide) (by first | (simp [low_len]; done) | (simp [low_len]; omega) | omega) (by first | decide | omega) HW).mono ?_
      rintro e W1 ⟨rfl, HW, f⟩
      have FW := kfN f hHeld.2.2
      dsimp only
      refine hK.out _ _ ?_ (fun hHeld => ?_)
      · (try dsimp only); (first | (go_split_ands; exact ⟨kcN f (by assumption), kcN f (by assumption), by assumption⟩) | (go_split_ands; exact ⟨(by assumption), (by assumption), by assumption⟩) | (go_split_ands; exact ⟨kcN (fr1 _ _) (by assumption), kcN (fr1 _ _) (by assumption), kfaN (by assumption)⟩))
      clear hK K
      try simp only [Act.put, List.getElem_toArray, List.getElem_cons_succ, List.getElem_cons_zero, List.setIfInBounds_toArray, List.set_cons_zero, List.set_cons_succ]
      refine wpAnyH_ready (rs := [8]) (by kernel_rfl) (by simp) (AllReadyH.cons rfl (fun K hK => ?_) AllReadyH.nil)
      go_simp
      go_at_call 54
      refine (put_wp B _ _ B T _ _ (by decide) (by first | (simp [low_len]; done) | (simp [low_len]; omega) | omega) (by first | decide | omega) HW).mono ?_
      rintro e W1 ⟨rfl, HW, f⟩
      have FW := kfN f hHeld.2.2
      dsimp only
      refine hK.out _ _ ?_ (fun hHeld => ?_)
      · (try dsimp only); (first | (go_split_ands; exact ⟨kcN f (by assumption), kcN f (by assumption), by assumption⟩) | (go_split_ands; exact ⟨(by assumption), (by assumption), by assumption⟩) | (go_split_ands; exact ⟨kcN (fr1 _ _) (by assumption), kcN (fr1 _ _) (by assumption), kfaN (by assumption)⟩))
      clear hK K
      try simp only [Act.put, List.getElem_toArray, List.getElem_cons_succ, List.getElem_cons_zero, List.setIfInBounds_toArray, List.set_cons_zero, List.set_cons_succ]
      refine wpAnyH_ready (rs := [9]) (by kernel_rfl) (by simp) (AllReadyH.cons rfl (fun K hK => ?_) AllReadyH.nil)
      go_simp
      go_at_call 54
      refine (put_wp B _ _ B T _ _ (by decide) (by first | (simp [low_len]; done) | (simp [low_len]; omega) | omega) (by first | decide | omega) HW).mono ?_
      rintro e W1 ⟨rfl, HW, f⟩
      have FW := kfN f hHeld.2.2
      dsimp only
      refine hK.out _ _ ?_ (fun hHeld => ?_)
      · (try dsimp only); (first | (go_split_ands; exact ⟨kcN f (by assumption), kcN f (by assumption), by assumption⟩) | (go_split_ands; exact ⟨(by assumption), (by assumption), by assumption⟩) | (go_split_ands; exact ⟨kcN (fr1 _ _) (by assumption), kcN (fr1 _ _) (by assumption), kfaN (by assumption)⟩))
      clear hK K
      try simp only [Act.put, List.getElem_toArray, List.getElem_cons_succ, List.getElem_cons_zero, List.setIfInBounds_toArray, List.set_cons_zero, List.set_cons_succ]
      refine wpAnyH_done (by kernel_rfl) ?_ _
      refine NoPanic.normal ?_
      have FR := hHeld.2.2
      clear hHeld
      go_wp2
      go_roundw
      case rel =>
        refine ⟨j + 1, by omega, by go_num, ?_, FK.out.trans (np_mono hGB FR.out)⟩
        rw [fl_snoc HD.out, ← List.append_assoc, HX2.out]
        have := HW.un hGB
        simpa [eS, List.append_assoc] using this
      case measure => simp [intOf]; omega
    · obtain rfl : j = xs.length := by omega
      rw [List.take_length] at HW
      have HFk := hid hf
      have hlenR := HW.len
      have HTk := hid (HT.out.fr hf (by unfold NP; omega))
      clear hf HXk r0 r1 r2 u1 u2 u3 u4
      go_wp2_with (first | (go_at_call 55; refine (done_wp _ _ _ _ _ HW).mono ?_; rintro e' w4 ⟨A4, rfl, HD4, f4⟩; have HF4 := hid (HFk.out.trans (f4.mono fun _ _ h => h.elim)); have HT4 := hid (HTk.out.fr f4 (fun h => h)); clear f4) | (go_at_call 56; refine (CrcE.seal_ok _ _ _ _ _ (by decide) HD4 (pad_u8 _ (eB_u8 q k sum xs)) HT4.out).mono ?_; rintro e' w5 ⟨rfl, hb5, f5⟩; rw [pad_rest _ hlenR] at hb5; have HB5 := hid hb5; have HF5 := hid (HF4.out.trans (f5.mono fun _ _ h => h.elim)); clear f5 hb5))
      go_ret2
      exact ⟨_, rfl, HB5.out, HF5.out.mono fun k hk h => by unfold NP at h; omega⟩
end Go.Proofs.YtkkbgbpmpcoffaaDoor.BtE
/- Contracts: room for so many bytes; two slices of bytes, one behind the other; a copy of bytes. Condition: no more than some millions of bytes. -/
namespace Go.Proofs.YtkkbgbpmpcoffaaDoor.BtF
open Go.RowKit MSep MFrame CrcA CrcM CrcC CrcE Kit
open SpA (w64)

def OB (B : Nat) (w : World) (v : Value) (l : List Int) : Prop := w.ownsRow B 5 1 v l.length (CrcE.cells l)
theorem OB.nil (B : Nat) (w : World) : OB B w (.slice none 0 0) [] := World.ownsRow_nil w B 5 1
theorem OB.fr {B : Nat} {w w' : World} {v : Value} {l : List Int} (h : OB B w v l) (f : Fr No w w') : OB B w' v l := own_fr h f (fun _ _ h => h)
theorem OB.rd {B : Nat} {w : World} {A : Option Addr} {n c : Nat} {l : List Int} (hn : n = l.length) (h : OB B w (.slice A n c) l) : Rd w A n (l.map (Value.int .u8)) := by
  subst hn
  exact Rd.own h
theorem OB.ge {B : Nat} {w : World} {v : Value} {l : List Int} (h : OB B w v l) (k : Nat) (hk : v.ownBlock = some k) : B ≤ k := by
  rcases h.2 with ⟨rfl, _⟩ | ⟨g, cap, cur, rfl, hb, hh, _⟩
  · simp [Value.ownBlock] at hk
  · simp [Value.ownBlock] at hk
    subst hk
    exact hb
theorem OB.lim {B : Nat} {w : World} {A : Option Addr} {n c : Nat} {l : List Int} (h : OB B w (.slice A n c) l) : l.length ≤ c ∧ c ≤ maxLen := by
  rcases h.2 with ⟨hv, h0⟩ | ⟨g, cap, cur, hv, hb, hg, hnc, hcm, hcs, htake⟩
  · injection hv with h1 h2 h3
    subst h3
    exact ⟨by omega, by simp [maxLen]⟩
  · injection hv with h1 h2 h3
    subst h3
    exact ⟨hnc, hcm⟩
theorem blk_rd {w : World} {g : Nat} {t : TypeId} {xs : List Value} (h : Blk w g t xs.toArray) : Rd w (some ⟨g, 0, none⟩) xs.length xs :=
  ⟨rfl, fun _ => ⟨g, 0, rfl, Blk.lt h, fun j u hu => by rw [Nat.zero_add, Blk.cell h j]; simpa using hu⟩⟩
theorem cells_len (l : List Int) : (CrcE.cells l).length = l.length := by simp [CrcE.cells]
theorem zc_size (z : Array Value) (n : Nat) : (Builtin.zeroCells z n).size = n * z.size := by
  simp [Builtin.zeroCells]
theorem appz_b {w : World} {ops : Array Oper} {rest : List Oper} {o : Oper} {a : Act} {Q : Exit → Act → World → Prop} (hgd : o.guard = none) (s x : Operand)
    (ho : o.op = .call { callee := .builtin .append, args := #[s, x], argTypes := #[27, 3] }) (n : Nat) (hs : a.eval s = .slice none 0 0) (hx : a.eval x = .int .i64 n) (h0 : 0 < n) (hn : n ≤ 1000000000)
    (h : ∀ g c w', OB w.heap.size w' (.slice (some ⟨g, 0, none⟩) 0 c) [] → n ≤ c → c ≤ maxLen → Fr No w w' → wpList Tryd.prog ops Q rest (a.put o.dst (.slice (some ⟨g, 0, none⟩) n c)) w') :
    wpList Tryd.prog ops Q (o :: rest) a w := by
  obtain ⟨i0, hi, hz0, hz1, hz2⟩ := info_parts u8_info
  refine wpList_plain hgd fun K hK => ?_
  have hrun := Lib.run_append_nil_zeros (P := Tryd.prog) w 27 3 o.type 5 i0 (.int .u8 0) .i64 .i64 Tryd.underlying27 Tryd.underlying3 hi hz0 n h0 (by omega) (by omega) (by rw [hz2]; omega)
  unfold Oper.wp execOp
  simp only [ho, resolve, invoke, builtin, Sem.run_bind, Sem.run_pure, Result.andThen_ok, List.map_toArray, List.map_cons, List.map_nil, hs, hx, hrun]
  have hge := grownCap_ge w n 0 5
  have hle := grownCap_le_maxLen w n 0 5 (by simp only [maxLen]; omega)
  refine hK _ _ (h w.heap.size (grownCap w n 0 5) _ ?_ hge hle (((Fr.refl No w).drew).alloc _))
  refine World.ownsRow_made w.drew _ _ (Nat.le_refl _) hle ?_
  simp only [Array.size_append, zc_size]
  simp [Value.cells]
  omega
set_option maxRecDepth 100000 in
theorem grow_ok (n : Nat) (w : World) (hn : n ≤ 1000000000) : Calls Tryd.prog 58 #[.slice none 0 0, .int .i64 n] w fun e w' => ∃ A c, e = .returned (.slice A 0 c) ∧ OB w.heap.size w' (.slice A 0 c) [] ∧ Fr No w w' := by
  have h1 : ¬ (n : Int) < 0 := by omega
  have h2 : wrap64 ((n : Int) - 0) = n := w64 _ (by omega) |>.trans (by omega)
  have h3 : wrap64 (n : Int) = n := w64 _ (by omega)
  rcases Nat.eq_zero_or_pos n with h | h
  · subst h
    go_enter Tryd.func58, Tryd.ntmps58
    go_wp2
    go_ret
    exact ⟨none, 0, rfl, OB.nil _ _, Fr.refl _ _⟩
  · have h4 : (0 : Int) < n := by omega
    go_enter Tryd.func58, Tryd.ntmps58
    go_wp2_with (at_builtin; refine appz_b rfl (.tmp 20) (.tmp 21) rfl n rfl rfl h hn ?_)
    intro g c w1 o1 hc hm f1
    have O1 := hid o1
    have F1 := hid f1
    have hc0 : (0 : Int) ≤ c := by omega
    clear o1 f1 hm
    go_wp2
    go_ret
    exact ⟨_, _, rfl, O1.out, F1.out⟩
theorem app_b {w : World} {ops : Array Oper} {rest : List Oper} {o : Oper} {a : Act} {Q : Exit → Act → World → Prop} (hgd : o.guard = none) (s x : Operand)
    (ho : o.op = .call { callee := .builtin .append, args := #[s, x], argTypes := #[27, 27] })
    (B : Nat) (v : Value) (l : List Int) (hs : a.eval s = v) (hown : OB B w v l)
    (A : Option Addr) (m c : Nat) (news : List Int) (hx : a.eval x = .slice A m c) (hr : Rd w A m (news.map (Value.int .u8)))
    (hlim : l.length + m ≤ 100000000000000) (hbase : B ≤ w.heap.size)
    (h : ∀ A' c' w', OB B w' (.slice A' (l.length + m) c') (l ++ news) → Fr (fun q => v.ownBlock = some q) w w' → wpList Tryd.prog ops Q rest (a.put o.dst (.slice A' (l.length + m) c')) w') :
    wpList Tryd.prog ops Q (o :: rest) a w := by
  obtain ⟨i0, hi, hz0, hz1, hz2⟩ := info_parts u8_info
  have hm : news.length = m := by simpa using hr.1
  refine wpList_app hgd s x 27 ho B 5 i0 (.int .u8 0) 1 Tryd.underlying27 hi hz0 hz1 hz2 rfl v l.length (CrcE.cells l) hs hown A m c (CrcE.cells news) hx hr one_u8s (by simp only [maxLen]; omega) (by omega) hbase ?_
  intro A' c' w' o1 f1 _
  refine h A' c' w' ?_ f1
  have e : (l ++ news).length = l.length + m := by rw [List.length_append, hm]
  unfold OB
  rw [e, show CrcE.cells (l ++ news) = CrcE.cells l ++ CrcE.cells news by simp [CrcE.cells]]
  exact o1
def RetB (w w' : World) (e : Ending) (L : List Int) : Prop := ∃ A' c', e = .returned (.slice A' L.length c') ∧ Rd w' A' L.length (L.map (Value.int .u8)) ∧ (L.length ≤ c' ∧ c' ≤ maxLen) ∧ Fr No w w'
def sumL (n : Nat → Nat) : Nat → Nat
  | 0 => 0
  | k + 1 => sumL n k + n k
def catL (X : Nat → List Int) : Nat → List Int
  | 0 => []
  | k + 1 => catL X k ++ X k
theorem cat_len {n : Nat → Nat} {X : Nat → List Int} (h : ∀ k, k < 2 → (X k).length = n k) : ∀ k, k ≤ 2 → (catL X k).length = sumL n k
  | 0, _ => rfl
  | k + 1, hk => by rw [catL, List.length_append, cat_len h k (by omega), h k (by omega), sumL]
theorem sum_le {n : Nat → Nat} (h : ∀ k, n k ≤ 200000000) : ∀ k, sumL n k ≤ k * 200000000
  | 0 => by simp [sumL]
  | k + 1 => by
    have := sum_le h k
    have := h k
    rw [sumL]
    omega
set_option maxRecDepth 100000 in
set_option maxHeartbeats 2000000 in
theorem concat_ok (g : Nat) (c0 : Nat) (A : Nat → Option Addr) (n c : Nat → Nat) (X : Nat → List Int) (w : World) (hg : ∀ k, k < 2 → w.cell? ⟨g, 0 + k, none⟩ = some (.slice (A k) (n k) (c k))) (hn : ∀ k, n k ≤ 200000000) (hX : ∀ k, k < 2 → Rd w (A k) (n k) ((X k).map (Value.int .u8))) :
    Calls Tryd.prog 26 #[.slice (some ⟨g, 0, none⟩) 2 c0] w fun e w' => RetB w w' e (catL X 2) := by
  have HG := hid hg
  have HX := hid hX
  have HN := hid hn
  have HLX := hid (show ∀ k, k < 2 → (X k).length = n k from fun k hk => by simpa using (hX k hk).1)
  have HL := hid (cat_len (n := n) (X := X) HLX.out)
  have HS := hid (sum_le hn)
  clear hg hX hn
  go_enter Tryd.func26, Tryd.ntmps26
  go_wp2
  go_loopw [3, 11] (fun v i wr => ∃ k : Nat, k ≤ 2 ∧ i = .int .i64 k ∧ v = .int .i64 (sumL n k : Nat) ∧ Fr No w wr) (fun _ i _ => 2 - (intOf i).toNat)
  case atStart => exact ⟨0, by omega, rfl, rfl, Fr.refl _ _⟩
  case round =>
    obtain ⟨k, hk, rfl, rfl, hf⟩ := hrel
    by_cases hlt : k < 2
    · have hlt3 : (k : Int) < 2 := by omega
      have h0k : (0 : Int) ≤ k := by omega
      have hc := kc hf (HG.out k hlt)
      rw [Nat.zero_add] at hc
      have h1 := HS.out (k + 1)
      have e1 : sumL n (k + 1) = sumL n k + n k := rfl
      have hw : wrap64 ((sumL n k : Nat) + (n k : Nat)) = (sumL n (k + 1) : Nat) := by rw [e1]; exact (w64 _ (by omega)).trans (by omega)
      have E := hid hw
      obtain ⟨s, hs⟩ : ∃ s, sumL n (k + 1) = s := ⟨_, rfl⟩
      rw [hs] at hw h1
      have hs0 : ¬ (s : Int) < 0 := by omega
      have HSS := hid hs
      have FW := hid hf
      have HK := hid hlt
      clear hf hs e1 h1 hlt hk
      go_wp2
      go_roundw
      case rel => exact ⟨k + 1, HK.out, by go_num, by rw [E.out], FW.out⟩
      case measure => have := HK.out; simp [intOf]; omega
    · obtain rfl : k = 2 := by omega
      have hge : ¬ ((2 : Nat) : Int) < 2 := by omega
      have FW := hid hf
      have H3 := HS.out 2
      clear hf
      go_wp2_with fail
      refine (grow_ok (sumL n 2) _ (by omega)).mono ?_
      rintro e w1 ⟨Ag, cg, rfl, og, fg⟩
      have HH := hid (show w.heap.size ≤ wr.heap.size from FW.out.size)
      have FW := kf fg FW
      have OG := hid og
      have HZ := hid (show wr.heap.size ≤ w1.heap.size from fg.size)
      clear og fg H3
      obtain ⟨B, hB⟩ : ∃ B, wr.heap.size = B := ⟨_, rfl⟩
      rw [hB] at HH OG HZ
      clear hB
      go_wp2
      go_loopw [6, 27] (fun v i wq => ∃ (k : Nat) (A' : Option Addr) (c' : Nat), k ≤ 2 ∧ i = .int .i64 k ∧ v = .slice A' (catL X k).length c' ∧ OB B wq v (catL X k) ∧ Fr No w wq ∧ B ≤ wq.heap.size) (fun _ i _ => 2 - (intOf i).toNat)
      case atStart => exact ⟨0, Ag, cg, by omega, rfl, rfl, OG.out, FW.out, HZ.out⟩
      case round =>
        obtain ⟨k, A', c', hk, rfl, rfl, ho, hf, hz⟩ := hrel
        by_cases hlt : k < 2
        · have hlt3 : (k : Int) < 2 := by omega
          have h0k : (0 : Int) ≤ k := by omega
          have hc := kc hf (HG.out k hlt)
          rw [Nat.zero_add] at hc
          have HR := hid ((HX.out k hlt).fr hf (fun _ _ _ h => h))
          have hl := HL.out k hk
          have h1 := HS.out k
          have h2 := HN.out k
          have HLIM := hid (show (catL X k).length + n k ≤ 100000000000000 by omega)
          have FQ := hid hf
          have OQ := hid ho
          have HQ := hid hz
          have HK := hid hlt
          clear hf ho hz hl h1 h2 hlt hk
          go_wp2_with (at_builtin; refine app_b rfl (.tmp 31) (.tmp 32) rfl B _ (catL X k) rfl OQ.out _ (n k) _ (X k) rfl HR.out HLIM.out HQ.out ?_)
          intro A4 c4 w4 o4 f4
          have FQ2 := hid (show Fr No w w4 from FQ.out.step f4 (fun i hi h => by have := OQ.out.ge i h; have := HH.out; omega))
          have HQ2 := hid (Nat.le_trans HQ.out f4.size)
          have O4 := hid o4
          have E4 := hid (show (catL X k).length + n k = (catL X (k + 1)).length by rw [catL, List.length_append, HLX.out k HK.out])
          clear o4 f4
          go_wp2
          go_roundw
          case rel => exact ⟨k + 1, A4, c4, HK.out, by go_num, by rw [E4.out], O4.out, FQ2.out, HQ2.out⟩
          case measure => have := HK.out; simp [intOf]; omega
        · obtain rfl : k = 2 := by omega
          have hge : ¬ ((2 : Nat) : Int) < 2 := by omega
          have FQ := hid hf
          have OQ := hid ho
          clear hf ho hz
          go_wp2
          go_ret
          exact ⟨A', c', rfl, OB.rd rfl OQ.out, OQ.out.lim, FQ.out⟩
theorem concat2_ok (g c : Nat) (A0 A1 : Option Addr) (n0 n1 c0 c1 : Nat) (X0 X1 : List Int) (w : World) (h0 : w.cell? ⟨g, 0, none⟩ = some (.slice A0 n0 c0)) (h1 : w.cell? ⟨g, 1, none⟩ = some (.slice A1 n1 c1))
    (b0 : n0 ≤ 200000000) (b1 : n1 ≤ 200000000) (R0 : Rd w A0 n0 (X0.map (Value.int .u8))) (R1 : Rd w A1 n1 (X1.map (Value.int .u8))) :
    Calls Tryd.prog 26 #[.slice (some ⟨g, 0, none⟩) 2 c] w fun e w' => RetB w w' e (X0 ++ X1) := by
  have h := concat_ok g c (fun k => match k with | 0 => A0 | _ => A1) (fun k => match k with | 0 => n0 | _ => n1) (fun k => match k with | 0 => c0 | _ => c1) (fun k => match k with | 0 => X0 | _ => X1) w
    (fun k hk => match k, hk with | 0, _ => h0 | 1, _ => h1)
    (fun k => match k with | 0 => b0 | _ + 1 => b1)
    (fun k hk => match k, hk with | 0, _ => R0 | 1, _ => R1)
  simpa [catL] using h
set_option maxRecDepth 100000 in
theorem clone_ok (A : Option Addr) (n c : Nat) (X : List Int) (w : World) (hn : n ≤ 1000000000000) (hr : Rd w A n (X.map (Value.int .u8))) :
    Calls Tryd.prog 37 #[.slice A n c] w fun e w' => ∃ A' c', e = .returned (.slice A' n c') ∧ n ≤ c' ∧ Rd w' A' n (X.map (Value.int .u8)) ∧ (∀ g o, A' = some ⟨g, o, none⟩ → w.heap.size ≤ g) ∧ Fr No w w' := by
  have hlen : X.length = n := by simpa using hr.1
  cases A with
  | none =>
    have h0 : n = 0 := by
      rcases Nat.eq_zero_or_pos n with h | h
      · exact h
      · obtain ⟨g, o, h, _⟩ := hr.2 h
        cases h
    subst h0
    obtain rfl : X = [] := List.eq_nil_of_length_eq_zero hlen
    have hq : ∀ w, (binOp .eql 27 (.slice none 0 c) (.slice none 0 0)).run Tryd.prog w = .ok (.bool true) w := fun w => by kernel_rfl
    go_enter Tryd.func37, Tryd.ntmps37
    go_wp2
    go_ret
    exact ⟨none, 0, rfl, Nat.le_refl _, Rd.nil _ _, (fun g o h => by cases h), Fr.refl _ _⟩
  | some ad =>
    have hown0 : OB w.heap.size (w.alloc (.cells #[] 5)) (.slice (some ⟨w.heap.size, 0, none⟩) 0 0) [] := World.ownsRow_lit w #[] 0 (Nat.le_refl _) (by simp [maxLen]) rfl
    have HO := hid hown0
    have HA := hid (hr.fr (S := No) ((Fr.refl _ w).alloc (.cells #[] 5)) (fun _ _ _ h => h))
    have hq : ∀ w, (binOp .eql 27 (.slice (some ad) n c) (.slice none 0 0)).run Tryd.prog w = .ok (.bool false) w := fun w => by kernel_rfl
    clear hr hown0
    go_enter Tryd.func37, Tryd.ntmps37
    go_wp2_with (first | (at_builtin; refine app_b rfl (.tmp 5) (.tmp 6) rfl w.heap.size _ [] rfl HO.out (some ad) n c X rfl HA.out (by simp; omega) (by simp) ?_))
    intro A1 c1 w1 own1 f1
    have F1 := hid (show Fr No w w1 from ((Fr.refl No w).alloc (.cells #[] 5)).step f1 (fun i hi h => by simp [Value.ownBlock] at h; omega))
    have hcap : n ≤ c1 := by
      rcases own1.2 with ⟨hv, h0⟩ | ⟨g, cap, cur, hv, hb, hg, hnc, _⟩
      · rw [hlen] at h0
        omega
      · injection hv with h1 h2 h3
        subst h3
        rw [hlen] at hnc
        exact hnc
    have HC := hid hcap
    have O1 := hid (OB.rd hlen.symm own1)
    have OG := hid (show ∀ g o, A1 = some ⟨g, o, none⟩ → w.heap.size ≤ g from fun g o h => OB.ge own1 g (by rw [h]; rfl))
    clear own1 f1 hcap
    go_wp2
    go_ret
    exact ⟨A1, c1, rfl, HC.out, O1.out, OG.out, F1.out⟩
end Go.Proofs.YtkkbgbpmpcoffaaDoor.BtF
/- Contracts: the sectors of a batch, by the program. Conditions: the slices read as spans and as bytes; all numbers are 64 bits; the table of sums is as its text lays it. -/
namespace Go.Proofs.YtkkbgbpmpcoffaaDoor.BtG
open Go.RowKit MSep MSepC MSpM MGeM MFrame Kit BtM BtA CrcA CrcM BtE BtF
open SpA (wf w64)
open GeA (bg BG ld_geom)
open CrcE (seal_)

theorem sumF (A : Option Addr) (l c : Nat) (zs : List Int) (w : World) (hb : IsB w A l c zs) (hT : TabAt w) : Calls Tryd.prog 25 #[.slice A l c] w fun e w' => e = .returned (.int .u32 (onN 0 zs : Nat)) ∧ Fr No w w' :=
  (sum_any A l c zs w hb.1 hb.2.2.2 (by have := hb.2.1; have := hb.2.2.1; omega) hT).mono (by rintro e w' ⟨rfl, rfl⟩; exact ⟨rfl, Fr.refl _ _⟩)
theorem onN_in (s : Nat) (zs : List Int) : 0 ≤ ((onN s zs : Nat) : Int) ∧ ((onN s zs : Nat) : Int) < 4294967296 := by
  have : onN s zs < 4294967296 := nt_lt _
  omega
theorem mayB_Hok {g : Ge} {b : Ba} {sum : Int} (h : mayB g b) (hs : 0 ≤ sum ∧ sum < 4294967296) : Hok b.q b.k sum b.l where
  q := by have := h.2.1; omega
  k := by rcases h.2.2.2 with h | h <;> omega
  s := hs
  n := h.2.2.1.2.1
  l := fun s hs => by
    obtain ⟨hg, hm, h1, h2, h3⟩ := spsOk_may h.2.2.1 s hs
    have := (good hg.1).t2
    unfold may at hm
    omega
set_option maxRecDepth 100000 in
set_option maxHeartbeats 4000000 in
theorem encode_geom (gc gs gn gl gk q k : Int) (A : Option Addr) (c : Nat) (xs : List Sp) (dA : Option Addr) (dl dc : Nat) (w : World) (hs : r64 gs) (hm : ¬ mayG ⟨gc, gs, gn, gl, gk⟩) :
    Calls Tryd.prog 5 #[.agg #[.int .i64 gc, .int .i64 gs, .int .i64 gn, .int .i64 gl, .int .i64 gk], bv q k A xs.length c, .slice dA dl dc] w fun e w' => e = .returned (.tuple #[.slice none 0 0, .int .i64 70]) ∧ Fr No w w' := by
  obtain ⟨G, hG⟩ : ∃ G, w.heap.size = G := ⟨_, rfl⟩
  obtain ⟨w1, hw1⟩ : ∃ w1, (w.alloc (bg gc gs gn gl gk)).alloc (.cells (bcs q k A xs.length c) 26) = w1 := ⟨_, rfl⟩
  have FG := hid (show Fr No w w1 by rw [← hw1]; exact (fr1 _ _).alloc _)
  have P0 := hid (show BG w1 G gc gs gn gl gk by rw [← hw1, ← hG]; exact (BG.new w gc gs gn gl gk : Blk _ _ _ _).alloc _)
  have P1 := hid (show BB w1 (G + 1) q k A xs.length c by
    rw [← hw1, ← hG]
    have := BB.new (w.alloc (bg gc gs gn gl gk)) q k A xs.length c
    rwa [World.size_alloc] at this)
  have HS := hid hs
  have HW1 := hid hw1
  clear hs hw1
  have HM := hid hm
  clear hm
  go_enter Tryd.func5, Tryd.ntmps5
  go_upto_region 1 with fail
  try rw [show (w.alloc (Obj.cells #[.int .i64 gc, .int .i64 gs, .int .i64 gn, .int .i64 gl, .int .i64 gk] 23)).alloc (Obj.cells #[.int .i64 q, .int .i64 k, .slice A xs.length c] 26) = w1 from HW1.out]
  try rw [hG]
  go_wp2_with (first | ((with_reducible refine ld_geom rfl (.tmp 3) rfl G ?_ P0.out ?_); · rfl) | (go_at_call 22; refine (GeC.may_ok gc gs gn gl gk _ HS.out).mono ?_; rintro e w2 ⟨rfl, f2⟩; rw [decide_eq_false HM.out]; replace FG := hid (FG.out.trans f2); clear f2))
  go_ret2
  exact ⟨rfl, FG.out⟩
set_option maxRecDepth 100000 in
set_option maxHeartbeats 4000000 in
theorem encode_no (gc gs gn gl gk q k : Int) (A : Option Addr) (c : Nat) (xs : List Sp) (dA : Option Addr) (dl dc : Nat) (w : World) (hs : r64 gs) (hm : mayG ⟨gc, gs, gn, gl, gk⟩) (hl : xs.length ≤ 140737488355328) (hlc : xs.length ≤ c) (hx : RdS w A xs.length xs) (hw : ∀ s ∈ xs, wf s) (_hd : dl ≤ 140737488355328) (hno : ¬ (mayB ⟨gc, gs, gn, gl, gk⟩ ⟨q, k, xs⟩ ∧ (dl : Int) = size_ k xs * 128)) :
    Calls Tryd.prog 5 #[.agg #[.int .i64 gc, .int .i64 gs, .int .i64 gn, .int .i64 gl, .int .i64 gk], bv q k A xs.length c, .slice dA dl dc] w fun e w' => e = .returned (.tuple #[.slice none 0 0, .int .i64 1]) ∧ Fr No w w' := by
  obtain ⟨G, hG⟩ : ∃ G, w.heap.size = G := ⟨_, rfl⟩
  obtain ⟨w1, hw1⟩ : ∃ w1, (w.alloc (bg gc gs gn gl gk)).alloc (.cells (bcs q k A xs.length c) 26) = w1 := ⟨_, rfl⟩
  have FG := hid (show Fr No w w1 by rw [← hw1]; exact (fr1 _ _).alloc _)
  have P0 := hid (show BG w1 G gc gs gn gl gk by rw [← hw1, ← hG]; exact (BG.new w gc gs gn gl gk : Blk _ _ _ _).alloc _)
  have P1 := hid (show BB w1 (G + 1) q k A xs.length c by
    rw [← hw1, ← hG]
    have := BB.new (w.alloc (bg gc gs gn gl gk)) q k A xs.length c
    rwa [World.size_alloc] at this)
  have HS := hid hs
  have HW1 := hid hw1
  clear hs hw1
  have HM := hid hm
  have HX := hid hx
  have HW := hid hw
  have HL := hid (And.intro hl hlc)
  have HNO := hid hno
  clear hm hx hw hl hlc hno
  go_enter Tryd.func5, Tryd.ntmps5
  go_upto_region 1 with fail
  try rw [show (w.alloc (Obj.cells #[.int .i64 gc, .int .i64 gs, .int .i64 gn, .int .i64 gl, .int .i64 gk] 23)).alloc (Obj.cells #[.int .i64 q, .int .i64 k, .slice A xs.length c] 26) = w1 from HW1.out]
  try rw [hG]
  by_cases hb : mayB ⟨gc, gs, gn, gl, gk⟩ ⟨q, k, xs⟩
  · have HB := hid hb
    have hds := mayB_dsec hb
    dsimp only at hds
    have hdi := dsec_in k xs
    obtain ⟨T, hT⟩ : ∃ T, size_ k xs = T := ⟨_, rfl⟩
    rw [hT] at hds HNO
    rw [hds] at hdi
    have hne : ¬ (dl : Int) = T * 128 := fun h => HNO.out ⟨HB.out, h⟩
    have hwt : wrap64 (T * 128) = T * 128 := w64 _ (by omega)
    have hnb : ((dl : Int) == T * 128) = false := by simpa using hne
    have hnb2 : ((dl : Int) != T * 128) = true := by rw [bne, hnb]; rfl
    have HDS := hid hds
    clear hb hds hT HNO
    go_wp2_with (first | (go_at_call 22; refine (GeC.may_ok gc gs gn gl gk _ HS.out).mono ?_; rintro e w2 ⟨rfl, f2⟩; rw [decide_eq_true HM.out]; replace FG := hid (FG.out.trans f2); replace P0 := hid (P0.out.fr f2); replace P1 := hid (P1.out.fr f2); replace HX := hid (HX.out.fr FG.out); clear f2) | (go_at_call 6; refine (BtD.may_ok gc gs gn gl gk q k A xs.length c xs true _ HS.out HL.out.1 HL.out.2 HX.out HW.out ⟨fun _ => HB.out, fun _ => rfl⟩).mono ?_; rintro e w3 ⟨rfl, f3⟩; replace FG := hid (FG.out.trans f3); replace P1 := hid (P1.out.fr f3); replace HX := hid (HX.out.fr f3); clear f3; obtain ⟨b0, b1, b2⟩ := P1.out.cells) | (go_at_call 23; refine (data_ok q k A xs.length c xs _ HL.out.1 HX.out HW.out).mono ?_; rintro e w4 ⟨rfl, f4⟩; rw [HDS.out]; replace FG := hid (FG.out.trans f4); clear f4) | ((with_reducible refine ld_geom rfl (.tmp 3) rfl G ?_ P0.out ?_); · rfl) | ((with_reducible refine ld_bt rfl (.tmp 4) rfl (G + 1) ?_ P1.out ?_); · rfl))
    go_ret2
    exact ⟨rfl, FG.out⟩
  · have HB := hid hb
    clear hb HNO
    go_wp2_with (first | (go_at_call 22; refine (GeC.may_ok gc gs gn gl gk _ HS.out).mono ?_; rintro e w2 ⟨rfl, f2⟩; rw [decide_eq_true HM.out]; replace FG := hid (FG.out.trans f2); replace P0 := hid (P0.out.fr f2); replace P1 := hid (P1.out.fr f2); replace HX := hid (HX.out.fr FG.out); clear f2) | (go_at_call 6; refine (BtD.may_ok gc gs gn gl gk q k A xs.length c xs false _ HS.out HL.out.1 HL.out.2 HX.out HW.out ⟨(fun h => Bool.noConfusion h), fun h => absurd h HB.out⟩).mono ?_; rintro e w3 ⟨rfl, f3⟩; replace FG := hid (FG.out.trans f3); clear f3) | ((with_reducible refine ld_geom rfl (.tmp 3) rfl G ?_ P0.out ?_); · rfl) | ((with_reducible refine ld_bt rfl (.tmp 4) rfl (G + 1) ?_ P1.out ?_); · rfl))
    go_ret2
    exact ⟨rfl, FG.out⟩
/-- The bytes of a batch. -/
def bts (q k : Int) (l : List Sp) (zs : List Int) : List Int := seal_ (eB q k (onN 0 zs : Nat) l) ++ zs
set_option maxRecDepth 100000 in
set_option maxHeartbeats 4000000 in
theorem encode_yes (gc gs gn gl gk q k : Int) (A : Option Addr) (c : Nat) (xs : List Sp) (dA : Option Addr) (dl dc : Nat) (zs : List Int) (w : World) (hs : r64 gs) (hlc : xs.length ≤ c) (hx : RdS w A xs.length xs) (hw : ∀ s ∈ xs, wf s) (hz : IsB w dA dl dc zs) (hb : mayB ⟨gc, gs, gn, gl, gk⟩ ⟨q, k, xs⟩) (hd : (dl : Int) = size_ k xs * 128) (hT : TabAt w) :
    Calls Tryd.prog 5 #[.agg #[.int .i64 gc, .int .i64 gs, .int .i64 gn, .int .i64 gl, .int .i64 gk], bv q k A xs.length c, .slice dA dl dc] w fun e w' => (∃ A' c', e = .returned (.tuple #[.slice A' (bts q k xs zs).length c', .int .i64 0]) ∧ IsB w' A' (bts q k xs zs).length c' (bts q k xs zs)) ∧ Fr No w w' := by
  obtain ⟨G, hG⟩ : ∃ G, w.heap.size = G := ⟨_, rfl⟩
  obtain ⟨w1, hw1⟩ : ∃ w1, (w.alloc (bg gc gs gn gl gk)).alloc (.cells (bcs q k A xs.length c) 26) = w1 := ⟨_, rfl⟩
  have FG := hid (show Fr No w w1 by rw [← hw1]; exact (fr1 _ _).alloc _)
  have P0 := hid (show BG w1 G gc gs gn gl gk by rw [← hw1, ← hG]; exact (BG.new w gc gs gn gl gk : Blk _ _ _ _).alloc _)
  have P1 := hid (show BB w1 (G + 1) q k A xs.length c by
    rw [← hw1, ← hG]
    have := BB.new (w.alloc (bg gc gs gn gl gk)) q k A xs.length c
    rwa [World.size_alloc] at this)
  have HS := hid hs
  have HW1 := hid hw1
  clear hs hw1
  have HX := hid (hx.fr FG.out)
  have HW := hid hw
  have HL := hid (And.intro (show xs.length ≤ 140737488355328 by have := hb.2.2.1.2.1; dsimp only at this; omega) hlc)
  have HB := hid hb
  have HZ := hid hz
  have HT := hid hT
  have hds := mayB_dsec hb
  dsimp only at hds
  have hdi := dsec_in k xs
  have htn : size_ k xs ≤ 32768 := by
    have := (mayB_tn hb).2.1
    unfold size_
    dsimp only at this
    split <;> omega
  obtain ⟨T, hTT⟩ : ∃ T, size_ k xs = T := ⟨_, rfl⟩
  rw [hTT] at hds hd htn
  rw [hds] at hdi
  have hwt : wrap64 (T * 128) = T * 128 := w64 _ (by omega)
  have hnb : ((dl : Int) == T * 128) = true := by simpa using hd
  have hnb2 : ((dl : Int) != T * 128) = false := by rw [bne, hnb]; rfl
  have HDL := hid (show dl ≤ 4194304 by omega)
  have HDS := hid hds
  have HOK := hid (mayB_Hok (sum := (onN 0 zs : Nat)) hb (onN_in 0 zs))
  dsimp only at HOK
  have HZL := hid (show zs.length = dl by simpa using hz.1.1)
  clear hx hw hlc hb hz hT hds hTT hdi htn hd
  go_enter Tryd.func5, Tryd.ntmps5
  go_upto_region 1 with fail
  try rw [show (w.alloc (Obj.cells #[.int .i64 gc, .int .i64 gs, .int .i64 gn, .int .i64 gl, .int .i64 gk] 23)).alloc (Obj.cells #[.int .i64 q, .int .i64 k, .slice A xs.length c] 26) = w1 from HW1.out]
  try rw [hG]
  go_upto_region 5 with (first | (go_at_call 22; refine (GeC.may_ok gc gs gn gl gk _ HS.out).mono ?_; rintro e w2 ⟨rfl, f2⟩; rw [decide_eq_true HB.out.1]; replace FG := hid (FG.out.trans f2); replace P0 := hid (P0.out.fr f2); replace P1 := hid (P1.out.fr f2); replace HX := hid (HX.out.fr f2); clear f2) | (go_at_call 6; refine (BtD.may_ok gc gs gn gl gk q k A xs.length c xs true _ HS.out HL.out.1 HL.out.2 HX.out HW.out ⟨fun _ => HB.out, fun _ => rfl⟩).mono ?_; rintro e w3 ⟨rfl, f3⟩; replace FG := hid (FG.out.trans f3); replace P1 := hid (P1.out.fr f3); replace HX := hid (HX.out.fr f3); clear f3; obtain ⟨b0, b1, b2⟩ := P1.out.cells) | (go_at_call 23; refine (data_ok q k A xs.length c xs _ HL.out.1 HX.out HW.out).mono ?_; rintro e w4 ⟨rfl, f4⟩; rw [HDS.out]; replace FG := hid (FG.out.trans f4); replace P1 := hid (P1.out.fr f4); replace HX := hid (HX.out.fr f4); clear f4 b0 b1 b2; obtain ⟨b0, b1, b2⟩ := P1.out.cells) | ((with_reducible refine ld_geom rfl (.tmp 3) rfl G ?_ P0.out ?_); · rfl) | ((with_reducible refine ld_bt rfl (.tmp 4) rfl (G + 1) ?_ P1.out ?_); · rfl))
  have FW : Hid (Fr No w4 w4) := hid (Fr.refl No _)
  have HX4 := HX
  have FW := kd FW
  refine wp_region_noPanic ?_
  refine wp_region_held_drew (S := (fun W' => W'.cell? ⟨G + 1, 0, none⟩ = some (.int .i64 q) ∧ W'.cell? ⟨G + 1, 1, none⟩ = some (.int .i64 k) ∧ W'.cell? ⟨G + 1, 2, none⟩ = some (.slice A xs.length c) ∧ Hid (Fr No w4 W'))) (by kernel_rfl) ?_ (fun hHeld => ?_)
  · (try dsimp only); (first | (go_split_ands; exact ⟨kc f (by assumption), kc f (by assumption), kc f (by assumption), by assumption⟩) | (go_split_ands; exact ⟨(by assumption), (by assumption), (by assumption), by assumption⟩) | (go_split_ands; exact ⟨kc (fr1 _ _) (by assumption), kc (fr1 _ _) (by assumption), kc (fr1 _ _) (by assumption), kfa (by assumption)⟩))
  refine wpAnyH_take (i := 0) (v := ?v1) rfl (by kernel_rfl) (by kernel_rfl) (by kernel_rfl) (fun _ _ _ h => h) (Or.inl ⟨by kernel_rfl, ?y1⟩) (by assumption) ?_
  case y1 => (intro w hSw; (try dsimp only at hSw); go_simp; all_goals with_reducible rfl)
  try simp only [Act.put, List.getElem_toArray, List.getElem_cons_zero, List.setIfInBounds_toArray, List.set_cons_zero, List.set_cons_succ]
  refine wpAnyH_take (i := 1) (v := ?v2) rfl (by kernel_rfl) (by kernel_rfl) (by kernel_rfl) (fun _ _ _ h => h) (Or.inl ⟨by kernel_rfl, ?y2⟩) (by assumption) ?_
  case y2 => (intro w hSw; (try dsimp only at hSw); go_simp; all_goals with_reducible rfl)
  try simp only [Act.put, List.getElem_toArray, List.getElem_cons_succ, List.getElem_cons_zero, List.setIfInBounds_toArray, List.set_cons_zero, List.set_cons_succ]
  refine wpAnyH_ready (rs := [2]) (by kernel_rfl) (by simp) (AllReadyH.cons rfl (fun K hK => ?_) AllReadyH.nil)
  go_simp
  go_at_call 25
  refine (sumF dA dl dc zs _ (HZ.out.fr (FG.out.trans FW.out)) (HT.out.fr (FG.out.trans FW.out) (fun h => h))).mono ?_
  rintro e W1 ⟨rfl, f⟩
  have FW := kf f hHeld.2.2.2
  dsimp only
  refine hK.out _ _ ?_ (fun hHeld => ?_)
  · (try dsimp only); (first | (go_split_ands; exact ⟨kc f (by assumption), kc f (by assumption), kc f (by assumption), by assumption⟩) | (go_split_ands; exact ⟨(by assumption), (by assumption), (by assumption), by assumption⟩) | (go_split_ands; exact ⟨kc (fr1 _ _) (by assumption), kc (fr1 _ _) (by assumption), kc (fr1 _ _) (by assumption), kfa (by assumption)⟩))
  clear hK K
  try simp only [Act.put, List.getElem_toArray, List.getElem_cons_succ, List.getElem_cons_zero, List.setIfInBounds_toArray, List.set_cons_zero, List.set_cons_succ]
  refine wpAnyH_ready (rs := [3]) (by kernel_rfl) (by simp) (AllReadyH.cons rfl (fun K hK => ?_) AllReadyH.nil)
  go_simp
  go_at_call 24
  refine (seal_ok q k (onN 0 zs : Nat) A c xs _ (HX.out.fr FW.out) HOK.out (HT.out.fr (FG.out.trans FW.out) (fun h => h))).mono ?_
  rintro e W1 ⟨Gh, rfl, hb, f⟩
  have FW := kf f hHeld.2.2.2
  have HBS := hid hb
  dsimp only
  refine hK.out _ _ ?_ (fun hHeld => ?_)
  · (try dsimp only); (first | (go_split_ands; exact ⟨kc f (by assumption), kc f (by assumption), kc f (by assumption), by assumption⟩) | (go_split_ands; exact ⟨(by assumption), (by assumption), (by assumption), by assumption⟩) | (go_split_ands; exact ⟨kc (fr1 _ _) (by assumption), kc (fr1 _ _) (by assumption), kc (fr1 _ _) (by assumption), kfa (by assumption)⟩))
  clear hK K
  try simp only [Act.put, List.getElem_toArray, List.getElem_cons_succ, List.getElem_cons_zero, List.setIfInBounds_toArray, List.set_cons_zero, List.set_cons_succ]
  refine wpAnyH_take (i := 4) (v := ?v3) rfl (by kernel_rfl) (by kernel_rfl) (by kernel_rfl) (fun _ _ _ h => h) (Or.inl ⟨by kernel_rfl, ?y3⟩) (by assumption) ?_
  case y3 => (intro w hSw; (try dsimp only at hSw); go_simp; all_goals with_reducible rfl)
  try simp only [Act.put, List.getElem_toArray, List.getElem_cons_succ, List.getElem_cons_zero, List.setIfInBounds_toArray, List.set_cons_zero, List.set_cons_succ]
  refine wpAnyH_take (i := 5) (v := ?v4) rfl (by kernel_rfl) (by kernel_rfl) (by kernel_rfl) (fun _ _ _ h => h) (Or.inl ⟨by kernel_rfl, ?y4⟩) (by assumption) ?_
  case y4 => (intro w hSw; (try dsimp only at hSw); go_simp; all_goals with_reducible rfl)
  try simp only [Act.put, List.getElem_toArray, List.getElem_cons_succ, List.getElem_cons_zero, List.setIfInBounds_toArray, List.set_cons_zero, List.set_cons_succ]
  refine wpAnyH_take (i := 6) (v := ?v5) rfl (by kernel_rfl) (by kernel_rfl) (by kernel_rfl) (fun _ _ _ h => h) (Or.inl ⟨by kernel_rfl, ?y5⟩) (by assumption) ?_
  case y5 => (intro w hSw; (try dsimp only at hSw); go_simp; all_goals with_reducible rfl)
  try simp only [Act.put, List.getElem_toArray, List.getElem_cons_succ, List.getElem_cons_zero, List.setIfInBounds_toArray, List.set_cons_zero, List.set_cons_succ]
  refine wpAnyH_take (i := 7) (v := ?v6) rfl (by kernel_rfl) (by kernel_rfl) (by kernel_rfl) (fun _ _ _ h => h) (Or.inl ⟨by kernel_rfl, ?y6⟩) (by assumption) ?_
  case y6 => (intro w hSw; (try dsimp only at hSw); go_simp; all_goals with_reducible rfl)
  try simp only [Act.put, List.getElem_toArray, List.getElem_cons_succ, List.getElem_cons_zero, List.setIfInBounds_toArray, List.set_cons_zero, List.set_cons_succ]
  refine wpAnyH_take (i := 8) (v := ?v7) rfl (by kernel_rfl) (by kernel_rfl) (by kernel_rfl) (fun _ _ _ h => h) (Or.inl ⟨by kernel_rfl, ?y7⟩) (by assumption) ?_
  case y7 => (intro w hSw; (try dsimp only at hSw); go_simp; all_goals with_reducible rfl)
  try simp only [Act.put, List.getElem_toArray, List.getElem_cons_succ, List.getElem_cons_zero, List.setIfInBounds_toArray, List.set_cons_zero, List.set_cons_succ]
  refine wpAnyH_done (by kernel_rfl) ?_ _
  refine NoPanic.normal ?_
  have FA := hid (show Fr No w W1 from FG.out.trans hHeld.2.2.2.out)
  have HZA := hid (HZ.out.fr FA.out)
  clear hHeld b0 b1 b2 FW
  have HRH := hid (blk_rd HBS.out)
  rw [show (CrcE.cells (seal_ (eB q k (onN 0 zs : Nat) xs))).length = 128 by rw [cells_len]; exact CrcE.seal_len (by rw [eB_len]; have := HOK.out.n; omega)] at HRH
  have HC2 := hid (fun (W : World) (hW : W = W1) (h0 : (W.alloc (.cells #[.slice (some ⟨Gh, 0, none⟩) 128 128, .slice dA dl dc] 27)).cell? ⟨W.heap.size, 0, none⟩ = some (.slice (some ⟨Gh, 0, none⟩) 128 128)) (h1 : (W.alloc (.cells #[.slice (some ⟨Gh, 0, none⟩) 128 128, .slice dA dl dc] 27)).cell? ⟨W.heap.size, 1, none⟩ = some (.slice dA dl dc)) => concat2_ok W.heap.size 2 (some ⟨Gh, 0, none⟩) dA 128 dl 128 dc (seal_ (eB q k (onN 0 zs : Nat) xs)) zs _ h0 h1 (by decide) (by have := HDL.out; omega) ((hW ▸ HRH.out : Rd W _ _ _).fr (fr1 _ _) (fun _ _ _ h => h)) ((hW ▸ HZA.out.1 : Rd W _ _ _).fr (fr1 _ _) (fun _ _ _ h => h)))
  go_wp2_with (go_at_call 26; refine (HC2.out W1 rfl (by simp) (by simp)).mono ?_; rintro e w6 ⟨A', c', rfl, hr, hlim, f6⟩; have FZ := hid ((FA.out.alloc (.cells #[.slice (some ⟨Gh, 0, none⟩) 128 128, .slice dA dl dc] 27)).trans f6); have HRR := hid (And.intro hr hlim); clear hr hlim f6)
  go_ret2
  refine ⟨⟨A', c', (by unfold bts; rw [List.length_append]; rfl), HRR.out.1, HRR.out.2.1, HRR.out.2.2, fun x hx => ?_⟩, FZ.out⟩
  rcases List.mem_append.1 hx with hx | hx
  · exact CrcE.seal_u8 (eB_u8 _ _ _ _) x hx
  · exact HZ.out.2.2.2 x hx
end Go.Proofs.YtkkbgbpmpcoffaaDoor.BtG
/- Contract: what any bytes are as the head of a batch, by the program, whatever batch it is. Conditions: they read as bytes; the table of sums is as its text lays it. -/
namespace Go.Proofs.YtkkbgbpmpcoffaaDoor.BtH
open Go.RowKit MSep MSepC MFrame LeW LeR LeX RdA CrcM CrcA CrcE MSpM BtA Kit SpO
open BtM (Ba)
open BtE (rdS_lo)
open SpA (w64)

def by8 (st : Option (List Int)) : Prop := ∀ ys, st = some ys → ∀ x ∈ ys, 0 ≤ x ∧ x ≤ 255
theorem gt_by8 {n : Nat} {st : Option (List Int)} (h : by8 st) : by8 (gt n st).2 := by
  intro ys hy
  cases st with
  | none => cases hy
  | some xs =>
    by_cases hl : xs.length < n
    · rw [gt, if_pos hl] at hy; cases hy
    · rw [gt, if_neg hl] at hy
      cases hy
      exact fun x hx => h _ rfl x (List.mem_of_mem_drop hx)
theorem gi_by8 {n : Nat} {a b : Int} {st : Option (List Int)} (h : by8 st) : by8 (gi n a b st).2 := by
  intro ys hy
  cases st with
  | none => cases hy
  | some xs =>
    by_cases hl : xs.length < n
    · rw [gi, if_pos hl] at hy; cases hy
    · rw [gi, if_neg hl] at hy
      split at hy
      · cases hy
        exact fun x hx => h _ rfl x (List.mem_of_mem_drop hx)
      · cases hy
theorem gt_in {n : Nat} {st : Option (List Int)} (h : by8 st) : 0 ≤ (gt n st).1 ∧ (gt n st).1 < 256 ^ n := by
  have hp : (0 : Int) < 256 ^ n := Int.pow_pos (by decide)
  cases st with
  | none => exact ⟨Int.le_refl 0, hp⟩
  | some xs =>
    by_cases hl : xs.length < n
    · rw [gt, if_pos hl]; exact ⟨Int.le_refl 0, hp⟩
    · rw [gt, if_neg hl]; exact RcM.num_take (h _ rfl) n (by omega)
theorem gi_in (n : Nat) (a b : Int) (st : Option (List Int)) : (gi n a b st).1 = 0 ∨ (a ≤ (gi n a b st).1 ∧ (gi n a b st).1 ≤ b) := by
  cases st with
  | none => exact Or.inl rfl
  | some xs =>
    by_cases hl : xs.length < n
    · rw [gi, if_pos hl]; exact Or.inl rfl
    · by_cases hb : a ≤ wrap64 (num (xs.take n)) ∧ wrap64 (num (xs.take n)) ≤ b
      · rw [gi, if_neg hl, if_pos hb]; exact Or.inr hb
      · rw [gi, if_neg hl, if_neg hb]; exact Or.inl rfl
theorem get_rd (g n : Nat) (B : Nat) (U : Nat → Prop) (st : Option (List Int)) (w : World) (hs : n = 1 ∨ n = 2 ∨ n = 4 ∨ n = 8) (h : RdO w B U g st) :
    Calls Tryd.prog 66 #[.pointer (some ⟨g, 0, none⟩), .int .i64 n] w fun e w' => e = .returned (.int .u64 (gt n st).1) ∧ RdO w' B U g (gt n st).2 ∧ Fr (fun k => k = g) w w' := by
  have hu := h.own
  cases st with
  | none =>
    refine (get_bad g n B true none 0 [] w (.inr (by simp; omega)) h.1).mono ?_
    rintro e w' ⟨rfl, h1, h2⟩
    exact ⟨rfl, ⟨h1, hu⟩, h2⟩
  | some xs =>
    obtain ⟨A, c, h1, h2⟩ := h
    by_cases hl : xs.length < n
    · simp only [gt, if_pos hl]
      refine (get_bad g n B false A c xs w (.inr (by omega)) h1).mono ?_
      rintro e w' ⟨rfl, h3, h4⟩
      exact ⟨rfl, ⟨h3, hu⟩, h4⟩
    · simp only [gt, if_neg hl]
      refine (get_ok g n B false A c xs w hs (by omega) h1).mono ?_
      rintro e w' ⟨rfl, h3, h4⟩
      exact ⟨rfl, ⟨_, _, h3, fun k hk => h2 k (RF.cut hk)⟩, h4⟩

/-- What is got of a head behind its mark, ahead of its spans; of a span; of so many spans. -/
structure Hh where
  k : Int
  q : Int
  s : Int
  n : Nat
  st : Option (List Int)
def hh (st : Option (List Int)) : Hh :=
  let a := gt 1 st
  let b := gi 1 1 8 a.2
  let c := gt 8 b.2
  let d := gt 4 c.2
  ⟨a.1, wrap64 c.1, d.1, b.1.toNat, d.2⟩
def pS (st : Option (List Int)) : Sp × Option (List Int) :=
  let a := gt 4 st
  let b := gt 2 a.2
  ((a.1, b.1), (gi 2 0 0 b.2).2)
def pSs : Nat → Option (List Int) → List Sp × Option (List Int)
  | 0, st => ([], st)
  | n + 1, st => ((pSs n st).1 ++ [(pS (pSs n st).2).1], (pS (pSs n st).2).2)
theorem pSs_len (st : Option (List Int)) : ∀ n, (pSs n st).1.length = n
  | 0 => rfl
  | n + 1 => by rw [pSs, List.length_append, pSs_len st n]; rfl
theorem pS_by8 {st : Option (List Int)} (h : by8 st) : by8 (pS st).2 := gi_by8 (gt_by8 (gt_by8 h))
theorem pSs_by8 {st : Option (List Int)} (h : by8 st) : ∀ n, by8 (pSs n st).2
  | 0 => h
  | n + 1 => pS_by8 (pSs_by8 h n)
def hP1 (h : Hh) : Option (Ba × Int) := if RdA.dn (pSs h.n h.st).2 = 0 ∧ ¬ (h.k = 2 ∧ h.s ≠ 0) then some (⟨h.q, h.k, (pSs h.n h.st).1⟩, h.s) else none
def hP (xs : List Int) : Option (Ba × Int) := if xs.take 2 = [66, 84] then hP1 (hh (some (xs.drop 2))) else none
def secOk (zs : List Int) : Bool := zs.length == 128 && ld zs 4 == onN 0 (zs.drop 4)
/-- What bytes are as a head. -/
def headP (zs : List Int) : Option (Ba × Int) := if secOk zs then hP (zs.drop 4) else none
theorem mark_eq {ys : List Int} (h : ∀ x ∈ ys, 0 ≤ x ∧ x ≤ 255) : ((strOfNums ys).toList == ([66, 84] : List UInt8)) = decide (ys = [66, 84]) := by
  rw [CrcF.str_list]
  by_cases e : ys = [66, 84]
  · subst e; rfl
  · rw [decide_eq_false e, beq_eq_false_iff_ne]
    intro h2
    exact e (CrcF.str_inj h (by decide) (h2.trans rfl))
theorem resH {fn : Func} {p q r : Tmp} (h : fn.results = #[.cell p 26, .tmp q, .tmp r]) (tmps : Array Value) (w : World) (g : Nat) (a b : Int) (A : Option Addr) (l c : Nat) (y z : Value) (hp : tmps.getD p undef = .pointer (some ⟨g, 0, none⟩)) (hq : tmps.getD q undef = y) (hr : tmps.getD r undef = z) (hg : BB w g a b A l c) :
    (results fn tmps).run Tryd.prog w = .ok (.tuple #[bv a b A l c, y, z]) w := by
  have hp' : tmps[p]?.getD undef = .pointer (some ⟨g, 0, none⟩) := by simpa using hp
  have hq' : tmps[q]?.getD undef = y := by simpa using hq
  have hr' : tmps[r]?.getD undef = z := by simpa using hr
  have hl := run_loadVar_row (P := Tryd.prog) w g 26 26 _ (0, 0) _ hg Tryd.underlying26 rfl (by kernel_rfl)
  simp [results, h, hp', hq', hr', asAddr, hl, bv]
theorem st_bt {ops : Array Oper} {rest : List Oper} {o : Oper} {ac : Act} {w : World} {Q : Exit → Act → World → Prop} (hgd : o.guard = none) (p y : Operand) (ho : o.op = .store 26 p y) (g : Nat) (hx : ac.eval p = .pointer (some ⟨g, 0, none⟩)) {a0 a1 a2 : Value}
    (hy : ac.eval y = .agg #[a0, a1, a2]) (h1 : (#[a0, a1, a2] : Array Value).all (·.oneCell') = true) {cs : Array Value} (hg : Blk w g 26 cs) (hsz : cs.size = 3)
    (h : ∀ W', Blk W' g 26 #[a0, a1, a2] → Fr (fun q => q = g) w W' → wpList Tryd.prog ops Q rest (ac.put o.dst undef) W') : wpList Tryd.prog ops Q (o :: rest) ac w :=
  wpList_store_row hgd 26 p y ho g _ hx hy 26 _ hg infoBt (hsz.trans rfl) h1 (h _ (Blk.setRow hg _) (Fr.setRow (S := fun q => q = g) (Fr.refl _ _) (fun _ => rfl) _))
theorem rdS_lo2 {S : Nat → Prop} {w w' : World} {A : Option Addr} {n : Nat} {l : List Sp} (h : RdS w A n l) (hf : Fr S w w') (hS : ∀ g o, A = some ⟨g, o, none⟩ → ¬ S g) : RdS w' A n l := ⟨h.1, h.2.fr hf hS⟩
theorem out_lim {B : Nat} {w : World} {A : Option Addr} {n c : Nat} {l : List Sp} (h : Out B w (.slice A n c) l) : n ≤ c ∧ c ≤ maxLen := by
  rcases h.2 with ⟨hv, h0⟩ | ⟨g, cap, cur, hv, hb, hg, hnc, hcm, hcs, htake⟩
  · injection hv with h1 h2 h3
    subst h2 h3
    exact ⟨Nat.le_refl _, by simp [maxLen]⟩
  · injection hv with h1 h2 h3
    subst h2 h3
    exact ⟨hnc, hcm⟩
def RetH (w w' : World) (E : Ending) (o : Option (Ba × Int)) : Prop := (match o with
  | none => E = .returned (.tuple #[bv 0 0 none 0 0, .int .u32 0, .bool false])
  | some r => ∃ A c, E = .returned (.tuple #[bv r.1.q r.1.k A r.1.l.length c, .int .u32 r.2, .bool true]) ∧ RdS w' A r.1.l.length r.1.l ∧ (r.1.l.length ≤ c ∧ c ≤ maxLen) ∧ ∀ g o, A = some ⟨g, o, none⟩ → w.heap.size ≤ g) ∧ Fr No w w'
/-- What stands in memory while the spans are got. -/
def LI (w : World) (R D B g : Nat) (U : Nat → Prop) (h : Hh) (j : Nat) (wr : World) : Prop := ∃ A c, RdO wr B U g (pSs j h.st).2 ∧ BB wr D h.q h.k A j c ∧ Out (D + 1) wr (.slice A j c) (pSs j h.st).1 ∧ BB wr R 0 0 none 0 0 ∧ Fr No w wr
theorem u32w (n : Int) (h : 0 ≤ n ∧ n < 4294967296) : IntKind.u32.wrap n = n := by rw [IntKind.wrap_u32]; omega
set_option maxRecDepth 100000 in
set_option maxHeartbeats 8000000 in
theorem headOf_ok (A : Option Addr) (l c : Nat) (zs : List Int) (w : World) (hb : IsB w A l c zs) (hT : TabAt w) :
    Calls Tryd.prog 38 #[.slice A l c] w fun E w' => RetH w w' E (headP zs) := by
  have hlen : zs.length = l := by simpa using hb.1.1
  obtain ⟨R, hR⟩ : ∃ R, w.heap.size = R := ⟨_, rfl⟩
  obtain ⟨w1, hw1⟩ : ∃ w1, w.alloc (.cells (bcs 0 0 none 0 0) 26) = w1 := ⟨_, rfl⟩
  have FW := hid (show Fr No w w1 by rw [← hw1]; exact fr1 _ _)
  have HQ : BB w1 R 0 0 none 0 0 := by rw [← hw1, ← hR]; exact BB.new _ _ _ _ _ _
  have hs1 : w1.heap.size = R + 1 := by rw [← hw1, ← hR]; simp
  have HS1 := hid hs1
  have HW1 := hid hw1
  have HI := hid (hb.fr FW.out)
  have HT1 := hid (hT.fr FW.out (fun h => h))
  have HLEN := hid hlen
  have HR := hid hR
  clear hb hT hw1 hs1 hlen hR
  obtain ⟨V, hV⟩ : ∃ V, headP zs = V := ⟨_, rfl⟩
  rw [hV]
  go_enter Tryd.func38, Tryd.ntmps38
  go_upto_region 1 with fail
  try rw [show w.alloc (Obj.cells #[.int .i64 0, .int .i64 0, .slice none 0 0] 26) = w1 from HW1.out]
  try rw [HR.out]
  by_cases hs : secOk zs = true
  case neg =>
    obtain rfl : V = none := by rw [← hV, headP, if_neg hs]
    have HC : Hid ((l == 128 && ld zs 4 == onN 0 (zs.drop 4)) = false) := hid (by rw [← HLEN.out]; simpa [secOk] using hs)
    clear hV hs
    go_wp2_with (first | (go_at_call 63; refine (check_any _ _ _ zs _ HI.out HT1.out).mono ?_; rintro e' w2 ⟨rfl, rfl⟩; rw [HC.out]) | (refine st_bt rfl (.tmp 2) (.tmp 13) rfl R rfl rfl (by simp [Value.oneCell']) HQ rfl ?_; intro w9 HQ9 f9; have HF9 := hid (FW.out.step f9 (fun i hi e => by have := HR.out; omega)); clear f9))
    exact bodyPost_ret (v := .tuple #[bv 0 0 none 0 0, .int .u32 0, .bool false]) (resH rfl _ _ R 0 0 none 0 0 (.int .u32 0) (.bool false) rfl rfl rfl HQ9) rfl ⟨rfl, HF9.out⟩
  have HC : Hid ((l == 128 && ld zs 4 == onN 0 (zs.drop 4)) = true) := hid (by rw [← HLEN.out]; exact hs)
  have hl : l = 128 := by have := HC.out; simp only [Bool.and_eq_true, beq_iff_eq] at this; exact this.1
  subst hl
  have hVd : hP (zs.drop 4) = V := by rw [← hV, headP, if_pos hs]
  have HVD := hid hVd
  clear hV hs hVd
  obtain ⟨ga, oa, rfl, hga, _⟩ := HI.out.1.2 (by omega)
  have hc4 : ¬ c = 4 := by have := HI.out.2.1; omega
  have HR4 : Hid (Rd w1 (some ⟨ga, oa + 4, none⟩) 124 ((zs.drop 4).map (Value.int .u8))) := hid (by
    have := HI.out.1.cut (k := 4) (c := c) (by omega) HI.out.2.1
    unfold cutA at this
    rw [if_neg hc4] at this
    simpa [add_off, List.map_drop] using this)
  have HU8 := hid (show ∀ x ∈ zs.drop 4, 0 ≤ x ∧ x ≤ 255 from fun x hx => HI.out.2.2.2 x (List.mem_of_mem_drop hx))
  have HCC := hid HI.out.2
  have HD4 := hid (show (zs.drop 4).length = 124 by rw [List.length_drop, HLEN.out])
  obtain ⟨X, hX⟩ : ∃ X, zs.drop 4 = X := ⟨_, rfl⟩
  rw [hX] at HR4 HU8 HVD HD4
  clear hX
  have hc4l : (4 : Int) ≤ (128 : Nat) := by decide
  go_upto_region 4 with (first | (go_at_call 63; refine (check_any _ _ _ zs _ HI.out HT1.out).mono ?_; rintro e' w2 ⟨rfl, rfl⟩; rw [HC.out]) | (go_at_call 64; refine (take_rd (some ⟨ga, oa + 4, none⟩) 124 (c - 4) X w1 HR4.out HU8.out (by decide)).mono ?_; rintro e' w3 ⟨g, rfl, HS, f3⟩; rw [HS1.out] at HS; replace FW := hid (FW.out.trans f3); replace HQ := Blk.fr HQ f3 (fun h => h); have HG := hid (HS.own); have HLT := hid (HS.lt); have HB3 := hid (show R + 1 ≤ w3.heap.size by have := f3.size; have := HS1.out; omega); clear f3))
  have hmk := mark_eq (ys := X.take 2) (fun x hx => HU8.out x (List.mem_of_mem_take hx))
  have hUg : ∀ k, R + 1 ≤ k ∧ k < w3.heap.size → R < k ∧ k < w3.heap.size := fun k h => ⟨by omega, h.2⟩
  have HUG := hid hUg
  clear hUg
  by_cases hm : X.take 2 = [66, 84]
  case neg =>
    rw [decide_eq_false hm] at hmk
    obtain rfl : V = none := by rw [← HVD.out, hP, if_neg hm]
    clear hm
    go_wp2_with (first | (go_at_call 65; refine (bytes_rd g 2 (R + 1) _ X _ (by have := HD4.out; omega) HB3.out HS).mono ?_; rintro e' w4 ⟨A4, c4, rfl, hr4, HS, f4⟩; have hcv := run_str (P := Tryd.prog) w4 27 9 5 Tryd.underlying27 Tryd.underlying5 Tryd.underlying9 A4 2 c4 (X.take 2) (by simpa [List.map_take] using hr4); replace FW := hid (FW.out.step f4 (fun i hi h => by have := HUG.out g HG.out; have := HR.out; omega)); replace HQ := Blk.fr HQ f4 (fun h => by have := HUG.out g HG.out; omega); have hsz4 := hid f4.size; clear f4 hr4) | (refine st_bt rfl (.tmp 2) (.tmp 21) rfl R rfl rfl (by simp [Value.oneCell']) HQ rfl ?_; intro w9 HQ9 f9; have HF9 := hid (FW.out.step f9 (fun i hi e => by have := HR.out; omega)); clear f9))
    exact bodyPost_ret (v := .tuple #[bv 0 0 none 0 0, .int .u32 0, .bool false]) (resH rfl _ _ R 0 0 none 0 0 (.int .u32 0) (.bool false) rfl rfl rfl HQ9) rfl ⟨rfl, HF9.out⟩
  rw [decide_eq_true hm] at hmk
  have HVM : Hid (hP1 (hh (some (X.drop 2))) = V) := hid (by rw [← HVD.out, hP, if_pos hm])
  obtain ⟨H, hH⟩ : ∃ H, hh (some (X.drop 2)) = H := ⟨_, rfl⟩
  have h8 : by8 (some (X.drop 2)) := fun ys hy x hx => by cases hy; exact HU8.out x (List.mem_of_mem_drop hx)
  have hN8 : H.n ≤ 8 := by
    rw [← hH]
    have := gi_in 1 1 8 (gt 1 (some (X.drop 2))).2
    show (gi 1 1 8 (gt 1 (some (X.drop 2))).2).1.toNat ≤ 8
    omega
  have hHs : by8 H.st := by rw [← hH]; exact gt_by8 (gt_by8 (gi_by8 (gt_by8 h8)))
  have e1 : H.k = (gt 1 (some (X.drop 2))).1 := by rw [← hH]; rfl
  have e2 : (H.n : Int) = (gi 1 1 8 (gt 1 (some (X.drop 2))).2).1 := by
    rw [← hH]
    have := gi_in 1 1 8 (gt 1 (some (X.drop 2))).2
    show ((gi 1 1 8 (gt 1 (some (X.drop 2))).2).1.toNat : Int) = _
    omega
  have e3 : H.q = wrap64 (gt 8 (gi 1 1 8 (gt 1 (some (X.drop 2))).2).2).1 := by rw [← hH]; rfl
  have e4 : H.s = (gt 4 (gt 8 (gi 1 1 8 (gt 1 (some (X.drop 2))).2).2).2).1 := by rw [← hH]; rfl
  have e5 : H.st = (gt 4 (gt 8 (gi 1 1 8 (gt 1 (some (X.drop 2))).2).2).2).2 := by rw [← hH]; rfl
  have b1 := gt_in (n := 1) h8
  have b4 := gt_in (n := 4) (gt_by8 (n := 8) (gi_by8 (n := 1) (a := 1) (b := 8) (gt_by8 (n := 1) h8)))
  rw [show (256 : Int) ^ 1 = 256 by decide] at b1
  rw [show (256 : Int) ^ 4 = 4294967296 by decide] at b4
  rw [← e1] at b1
  rw [← e4] at b4
  have HH8 := hid (And.intro hN8 hHs)
  rw [hH] at HVM
  obtain ⟨s1, hs1⟩ : ∃ s, (gt 1 (some (X.drop 2))).2 = s := ⟨_, rfl⟩
  rw [hs1] at e2 e3 e4 e5
  obtain ⟨s2, hs2⟩ : ∃ s, (gi 1 1 8 s1).2 = s := ⟨_, rfl⟩
  rw [hs2] at e3 e4 e5
  obtain ⟨s3, hs3⟩ : ∃ s, (gt 8 s2).2 = s := ⟨_, rfl⟩
  rw [hs3] at e4 e5
  obtain ⟨q0, hq0⟩ : ∃ q, (gt 8 s2).1 = q := ⟨_, rfl⟩
  rw [hq0] at e3
  have HE1 := hid (show gt 1 (some (X.drop 2)) = (H.k, s1) from Prod.ext e1.symm hs1)
  have HE2 := hid (show gi 1 1 8 s1 = ((H.n : Int), s2) from Prod.ext e2.symm hs2)
  have HE3 := hid (show gt 8 s2 = (q0, s3) from Prod.ext hq0 hs3)
  have HE4 := hid (show gt 4 s3 = (H.s, H.st) from Prod.ext e4.symm e5.symm)
  obtain ⟨Hk, Hq, Hs, Hn, Hst⟩ := H
  dsimp only at e3 b1 b4 HH8 HE1 HE2 HE4
  have HE5 := hid e3.symm
  have hk64 : wrap64 Hk = Hk := w64 _ (by omega)
  have hs32 : IntKind.u32.wrap Hs = Hs := u32w _ b4
  have hwq : wrap64 q0 = Hq := e3.symm
  clear hs1 hs2 hs3 hq0 e1 e2 e3 e4 e5 hH h8 hN8 hHs hm HVD
  go_upto_region 7 with ((go_at_call 65; refine (bytes_rd g 2 (R + 1) _ X _ (by have := HD4.out; omega) HB3.out HS).mono ?_; rintro e' w4 ⟨A4, c4, rfl, hr4, HS, f4⟩; have hcv := run_str (P := Tryd.prog) w4 27 9 5 Tryd.underlying27 Tryd.underlying5 Tryd.underlying9 A4 2 c4 (X.take 2) (by simpa [List.map_take] using hr4); replace FW := hid (FW.out.step f4 (fun i hi h => by have := HUG.out g HG.out; have := HR.out; omega)); replace HQ := Blk.fr HQ f4 (fun h => by have := HUG.out g HG.out; omega); have hsz4 := hid f4.size; clear f4 hr4))
  obtain ⟨D, hD⟩ : ∃ D, w4.heap.size = D := ⟨_, rfl⟩
  obtain ⟨w5, hw5⟩ : ∃ w5, w4.alloc (.cells (bcs 0 0 none 0 0) 26) = w5 := ⟨_, rfl⟩
  have HD : BB w5 D 0 0 none 0 0 := by rw [← hw5, ← hD]; exact BB.new _ _ _ _ _ _
  have f5 : Fr No w4 w5 := by rw [← hw5]; exact fr1 _ _
  have HSD := hid (show w3.heap.size ≤ D by rw [← hD]; exact hsz4.out)
  replace FW := hid (FW.out.trans f5)
  replace HQ := Blk.fr HQ f5 (fun h => h)
  replace HS := HS.fr f5 (fun _ _ h => h)
  have HS5 := hid (show w5.heap.size = D + 1 by rw [← hw5, ← hD]; simp)
  try rw [show w4.alloc (Obj.cells #[.int .i64 0, .int .i64 0, .slice none 0 0] 26) = w5 from hw5]
  try rw [hD]
  have HGN := hid (show g ≠ R ∧ g ≠ D ∧ g < D by have := HUG.out g HG.out; have := HSD.out; omega)
  have HUD := hid (show ∀ k, (R + 1 ≤ k ∧ k < w3.heap.size) → k ≠ D ∧ k ≠ R from fun k h => by have := HSD.out; omega)
  clear hw5 hD f5 hmk
  have hgd : (fun k => k = g) D → False := fun h => HGN.out.2.1 h.symm
  have hgr : (fun k => k = g) R → False := fun h => HGN.out.1 h.symm
  go_upto_region 8 with (go_at_call 66; go_loud (refine (get_rd g 1 (R + 1) _ _ _ (by decide) HS).mono ?_; rintro e' w6 ⟨rfl, hr6, f6⟩; rw [HE1.out] at hr6 ⊢; dsimp only at hr6 ⊢; have HD6 := hid (Blk.fr HD f6 hgd); have HQ6 := hid (Blk.fr HQ f6 hgr); have HS6 := hid hr6; replace FW := hid (FW.out.step f6 (fun i hi h => by have := HUG.out g HG.out; have := HR.out; omega)); have c1 : w6.cell? ⟨D, 1, none⟩ = some (.int .i64 0) := Blk.cell HD6.out 1; have z1 : w6.frozen? ⟨D, 1, none⟩ = false := Blk.frozen HD6.out 1; clear hr6 f6 HD HQ HS))
  obtain ⟨w7, hw7⟩ : ∃ w7, w6.setCell ⟨D, 1, none⟩ (.int .i64 Hk) = w7 := ⟨_, rfl⟩
  have f7 : Fr (fun k => k = D) w6 w7 := by rw [← hw7]; exact Fr.set1 w6 D 1 _
  have HD7 : BB w7 D 0 Hk none 0 0 := by have := Blk.set_ HD6.out 1 (.int .i64 Hk); rw [hw7] at this; simpa [BB, bcs] using this
  have HQ7 := Blk.fr HQ6.out f7 (fun h => by have := HSD.out; have := HB3.out; omega)
  have HS7 := HS6.out.fr f7 (fun k hk h => (HUD.out k hk).1 h)
  replace FW := hid (FW.out.step f7 (fun i hi h => by have := HSD.out; have := HB3.out; have := HR.out; omega))
  rw [hw7]
  clear c1 z1 hw7 f7 HD6 HQ6 HS6
  go_upto_region 9 with (go_at_call 67; go_loud (refine (int_rd g 1 1 8 (R + 1) _ _ _ (by decide) HS7).mono ?_; rintro e' w8 ⟨rfl, hr8, f8⟩; rw [HE2.out] at hr8 ⊢; dsimp only at hr8 ⊢; have HD8 := hid (Blk.fr HD7 f8 hgd); have HQ8 := hid (Blk.fr HQ7 f8 hgr); have HS8 := hid hr8; replace FW := hid (FW.out.step f8 (fun i hi h => by have := HUG.out g HG.out; have := HR.out; omega)); clear hr8 f8 HD7 HQ7 HS7))
  go_upto_region 10 with (go_at_call 66; go_loud (refine (get_rd g 8 (R + 1) _ _ _ (by decide) HS8.out).mono ?_; rintro e' w9 ⟨rfl, hr9, f9⟩; rw [HE3.out] at hr9 ⊢; dsimp only at hr9 ⊢; have HD9 := hid (Blk.fr HD8.out f9 hgd); have HQ9 := hid (Blk.fr HQ8.out f9 hgr); have HS9 := hid hr9; replace FW := hid (FW.out.step f9 (fun i hi h => by have := HUG.out g HG.out; have := HR.out; omega)); have c0 : w9.cell? ⟨D, 0, none⟩ = some (.int .i64 0) := Blk.cell HD9.out 0; have z0 : w9.frozen? ⟨D, 0, none⟩ = false := Blk.frozen HD9.out 0; clear hr9 f9 HD8 HQ8 HS8))
  obtain ⟨wa, hwa⟩ : ∃ wa, w9.setCell ⟨D, 0, none⟩ (.int .i64 Hq) = wa := ⟨_, rfl⟩
  have fa : Fr (fun k => k = D) w9 wa := by rw [← hwa]; exact Fr.set1 w9 D 0 _
  have HDa : BB wa D Hq Hk none 0 0 := by have := Blk.set_ HD9.out 0 (.int .i64 Hq); rw [hwa] at this; simpa [BB, bcs] using this
  have HQa := Blk.fr HQ9.out fa (fun h => by have := HSD.out; have := HB3.out; omega)
  have HSa := HS9.out.fr fa (fun k hk h => (HUD.out k hk).1 h)
  replace FW := hid (FW.out.step fa (fun i hi h => by have := HSD.out; have := HB3.out; have := HR.out; omega))
  rw [hwa]
  clear c0 z0 hwa fa HD9 HQ9 HS9
  go_upto_region 11 with (go_at_call 66; go_loud (refine (get_rd g 4 (R + 1) _ _ _ (by decide) HSa).mono ?_; rintro e' wb ⟨rfl, hrb, fb⟩; rw [HE4.out] at hrb ⊢; dsimp only at hrb ⊢; have HDb := hid (Blk.fr HDa fb hgd); have HQb := hid (Blk.fr HQa fb hgr); have HSb := hid hrb; replace FW := hid (FW.out.step fb (fun i hi h => by have := HUG.out g HG.out; have := HR.out; omega)); clear hrb fb HDa HQa HSa))
  go_wp2
  clear hk64 hs32 hwq
  have HLW := hid (show Hn ≤ 8 from HH8.out.1)
  go_loopw [36] (fun i wr => ∃ j : Nat, j ≤ Hn ∧ i = .int .i64 j ∧ LI w R D (R + 1) g (fun k => R + 1 ≤ k ∧ k < w3.heap.size) ⟨Hk, Hq, Hs, Hn, Hst⟩ j wr) (fun i _ => Hn - (intOf i).toNat)
  case atStart => exact ⟨0, by omega, rfl, none, 0, HSb.out, HDb.out, Out.nil _ _, HQb.out, FW.out⟩
  case round =>
    clear FW HDb HQb HSb
    obtain ⟨j, hj, rfl, As, cs, hrs, hd, hout, hq, hf⟩ := hrel
    dsimp only at hrs hd hout
    by_cases hlt : j < Hn
    · have hlt3 : (j : Int) < Hn := by omega
      have h0j : (0 : Int) ≤ j := by omega
      have hw1 : wrap64 ((j : Int) + 1) = (j : Int) + 1 := w64 _ (by have := HLW.out; omega)
      have hpl := pSs_len Hst j
      have hb8 := pSs_by8 HH8.out.2 j
      have hE : pSs (j + 1) Hst = ((pSs j Hst).1 ++ [(pS (pSs j Hst).2).1], (pS (pSs j Hst).2).2) := rfl
      obtain ⟨⟨L, st⟩, hL⟩ : ∃ p, pSs j Hst = p := ⟨_, rfl⟩
      rw [hL] at hrs hout hpl hb8 hE
      dsimp only at hrs hout hpl hb8 hE
      obtain ⟨a0, ha0⟩ : ∃ a, (gt 4 st).1 = a := ⟨_, rfl⟩
      obtain ⟨t1, ht1⟩ : ∃ a, (gt 4 st).2 = a := ⟨_, rfl⟩
      obtain ⟨n0, hn0⟩ : ∃ a, (gt 2 t1).1 = a := ⟨_, rfl⟩
      obtain ⟨t2, ht2⟩ : ∃ a, (gt 2 t1).2 = a := ⟨_, rfl⟩
      obtain ⟨t3, ht3⟩ : ∃ a, (gi 2 0 0 t2).2 = a := ⟨_, rfl⟩
      have hpS : pS st = ((a0, n0), t3) := by
        show ((_, _), _) = _
        rw [ht1, ht2, ha0, hn0, ht3]
      rw [hpS] at hE
      have ba := gt_in (n := 4) hb8
      have bn := gt_in (n := 2) (gt_by8 (n := 4) hb8)
      rw [show (256 : Int) ^ 4 = 4294967296 by decide, ha0] at ba
      rw [show (256 : Int) ^ 2 = 65536 by decide, ht1, hn0] at bn
      have G1 := hid (show gt 4 st = (a0, t1) from Prod.ext ha0 ht1)
      have G2 := hid (show gt 2 t1 = (n0, t2) from Prod.ext hn0 ht2)
      have G3 := hid ht3
      have HE := hid hE
      have HPL := hid hpl
      have hwa : wrap64 a0 = a0 := w64 _ (by omega)
      have hwn : wrap64 n0 = n0 := w64 _ (by omega)
      have HDr := hid hd
      have HQr := hid hq
      have HOr := hid hout
      have HSr := hid hrs
      have FR := hid hf
      have HGE := hid (show ∀ q, (Value.slice As j cs).ownBlock = some q → D + 1 ≤ q ∧ q < wr.heap.size from fun q h => hout.ge q h)
      clear hE hpl hb8 ha0 ht1 hn0 ht2 ht3 hpS hd hq hout hrs hf hL
      have hog : ∀ q, (Value.slice As j cs).ownBlock = some q → ¬ (fun k => k = g) q := fun q h e => by have := (HGE.out q h).1; have := HGN.out; have e : q = g := e; omega
      have HOG := hid hog
      clear hog
      go_wp2_with fail
      refine (get_rd g 4 (R + 1) _ _ _ (by decide) HSr.out).mono ?_
      rintro e' x1 ⟨rfl, hr1, k1⟩
      rw [G1.out] at hr1 ⊢
      dsimp only at hr1 ⊢
      replace HDr := hid (Blk.fr HDr.out k1 hgd)
      replace HQr := hid (Blk.fr HQr.out k1 hgr)
      replace HSr := hid hr1
      replace HOr := hid (show Out (D + 1) x1 (.slice As j cs) L from own_fr HOr.out k1 HOG.out)
      replace FR := hid (FR.out.step k1 (fun i hi h => by have := HUG.out g HG.out; have := HR.out; omega))
      have HZ1 := hid k1.size
      clear hr1 k1
      go_wp2_with fail
      refine (get_rd g 2 (R + 1) _ _ _ (by decide) HSr.out).mono ?_
      rintro e' x2 ⟨rfl, hr2, k2⟩
      rw [G2.out] at hr2 ⊢
      dsimp only at hr2 ⊢
      replace HDr := hid (Blk.fr HDr.out k2 hgd)
      replace HQr := hid (Blk.fr HQr.out k2 hgr)
      replace HSr := hid hr2
      replace HOr := hid (show Out (D + 1) x2 (.slice As j cs) L from own_fr HOr.out k2 HOG.out)
      replace FR := hid (FR.out.step k2 (fun i hi h => by have := HUG.out g HG.out; have := HR.out; omega))
      have HZ2 := hid k2.size
      clear hr2 k2
      obtain ⟨x3, hx3⟩ : ∃ x3, x2.alloc (.cells #[.int .i64 a0, .int .i64 n0] 51) = x3 := ⟨_, rfl⟩
      obtain ⟨E, hEE⟩ : ∃ E, x2.heap.size = E := ⟨_, rfl⟩
      have k3 : Fr No x2 x3 := by rw [← hx3]; exact fr1 _ _
      have HDE := hid (show D < E by rw [← hEE]; exact Blk.lt HDr.out)
      have HBE : Blk x3 E 51 #[.int .i64 a0, .int .i64 n0] := by rw [← hx3, ← hEE]; exact Blk.new _ _ _
      replace HDr := hid (Blk.fr HDr.out k3 (fun h => h))
      replace HQr := hid (Blk.fr HQr.out k3 (fun h => h))
      replace HSr := hid (HSr.out.fr k3 (fun _ _ h => h))
      replace HOr := hid (show Out (D + 1) x3 (.slice As j cs) L from own_fr HOr.out k3 (fun _ _ h => h))
      replace FR := hid (FR.out.trans k3)
      have HEW := hid (show wr.heap.size ≤ E by have := HZ1.out; have := HZ2.out; omega)
      have HEG := hid (show E ≠ g ∧ E ≠ D ∧ E ≠ R by have := HDE.out; have := HGN.out; have := HSD.out; have := HB3.out; omega)
      have HX3 := hid hx3
      have HEE := hid hEE
      clear k3 hx3 hEE
      go_upto_region 14 with fail
      try rw [HX3.out]
      try rw [HEE.out]
      have hge : (fun k => k = g) E → False := fun h => HEG.out.1 h
      go_upto_region 15 with (go_at_call 67; go_loud (refine (int_rd g 2 0 0 (R + 1) _ _ _ (by decide) HSr.out).mono ?_; rintro e' x4 ⟨rfl, hr4, k4⟩; rw [G3.out] at hr4; replace HDr := hid (Blk.fr HDr.out k4 hgd); replace HQr := hid (Blk.fr HQr.out k4 hgr); replace HSr := hid hr4; replace HOr := hid (show Out (D + 1) x4 (.slice As j cs) L from own_fr HOr.out k4 HOG.out); replace FR := hid (FR.out.step k4 (fun i hi h => by have := HUG.out g HG.out; have := HR.out; omega)); have HBE4 := hid (Blk.fr HBE k4 hge); clear hr4 k4 HBE))
      have d2 : x4.cell? ⟨D, 2, none⟩ = some (.slice As j cs) := Blk.cell HDr.out 2
      have e0 : x4.cell? ⟨E, 0, none⟩ = some (.int .i64 a0) := HBE4.out.cell 0
      have e1 : x4.cell? ⟨E, 1, none⟩ = some (.int .i64 n0) := HBE4.out.cell 1
      have HLI := hid (lit_rd x4 a0 n0)
      have HOL := hid (show Out (D + 1) (x4.alloc (.cells #[.int .i64 a0, .int .i64 n0] 51)) (.slice As j cs) L from own_fr HOr.out (fr1 _ _) (fun _ _ h => h))
      have HDL := hid (Blk.alloc HDr.out (.cells #[.int .i64 a0, .int .i64 n0] 51))
      have HQL := hid (Blk.alloc HQr.out (.cells #[.int .i64 a0, .int .i64 n0] 51))
      have HSL := hid (HSr.out.fr (fr1 x4 (.cells #[.int .i64 a0, .int .i64 n0] 51)) (fun _ _ h => h))
      have FL := hid (FR.out.alloc (.cells #[.int .i64 a0, .int .i64 n0] 51))
      have HDB := hid (show D + 1 ≤ (x4.alloc (.cells #[.int .i64 a0, .int .i64 n0] 51)).heap.size from Blk.lt HDL.out)
      have HLIM := hid (show L.length + 1 ≤ 4000000000000 by rw [HPL.out]; exact Nat.le_trans (Nat.succ_le_of_lt (Nat.lt_of_lt_of_le hlt HLW.out)) (by decide))
      have hDne : ¬ (fun q => (Value.slice As j cs).ownBlock = some q) D := fun h => absurd (HGE.out D h).1 (Nat.not_succ_le_self D)
      have hRne : ¬ (fun q => (Value.slice As j cs).ownBlock = some q) R := fun h => by have := (HGE.out R h).1; have := HSD.out; have := HB3.out; omega
      have hUne : ∀ k, (R + 1 ≤ k ∧ k < w3.heap.size) → ¬ (fun q => (Value.slice As j cs).ownBlock = some q) k := fun k hk h => by have := (HGE.out k h).1; have := HSD.out; omega
      have hwne : ∀ i, i < w.heap.size → (fun q => (Value.slice As j cs).ownBlock = some q) i → No i := fun i hi h => by have := (HGE.out i h).1; have := HSD.out; have := HB3.out; have := HR.out; omega
      have HNE := hid (And.intro hDne (And.intro hRne (And.intro hUne hwne)))
      clear hDne hRne hUne hwne
      clear HOr HDr HQr HSr FR hwa hwn
      go_wp2_with (first | (at_builtin; go_loud (refine app_sp rfl (.tmp 48) (.tmp 50) rfl (D + 1) (.slice As j cs) L rfl HOL.out (some ⟨x4.heap.size, 0, none⟩) 1 1 [(a0, n0)] rfl HLI.out HLIM.out HDB.out ?_; intro A' c' x5 ho5 k5; rw [HPL.out] at ho5 ⊢; have HO5 := hid ho5; have HD5 := hid (Blk.fr HDL.out k5 HNE.out.1); have HQ5 := hid (Blk.fr HQL.out k5 HNE.out.2.1); have HS5 := hid (HSL.out.fr k5 HNE.out.2.2.1); have F5 := hid (FL.out.step k5 HNE.out.2.2.2); clear ho5 k5 d2 e0 e1; have d2 : x5.cell? ⟨D, 2, none⟩ = some (.slice As j cs) := Blk.cell HD5.out 2; have y2 : x5.frozen? ⟨D, 2, none⟩ = false := Blk.frozen HD5.out 2)))
      go_roundw
      case rel =>
        have HO6 := HO5.out
        have hown : ∀ q, (Value.slice A' (j + 1) c').ownBlock = some q → D + 1 ≤ q := fun q h => (HO6.ge q h).1
        have f6 : Fr (fun k => k = D) x5 (x5.setCell ⟨D, 2, none⟩ (.slice A' (j + 1) c')) := Fr.set1 x5 D 2 _
        refine ⟨j + 1, by omega, by go_num, A', c', ?_, ?_, ?_, ?_, ?_⟩
        · rw [HE.out]; exact HS5.out.fr f6 (fun k hk h => (HUD.out k hk).1 h)
        · have := Blk.set_ HD5.out 2 (.slice A' (j + 1) c'); simpa [BB, bcs] using this
        · rw [HE.out]; exact own_fr HO6 f6 (fun q h e => by have := hown q h; have e : q = D := e; omega)
        · exact Blk.fr HQ5.out f6 (fun h => by have := HSD.out; have := HB3.out; omega)
        · exact F5.out.step f6 (fun i hi h => by have := HSD.out; have := HB3.out; have := HR.out; omega)
      case measure => first | exact next_m _ _ hlt hw1 | (simp [intOf]; omega)
    · obtain rfl : j = Hn := by omega
      have HDr := hid hd
      have HQr := hid hq
      have HOr := hid hout
      have HSr := hid hrs
      have FR := hid hf
      have HVM2 : Hid ((if RdA.dn (pSs j Hst).2 = 0 ∧ ¬ (Hk = 2 ∧ Hs ≠ 0) then some ((⟨Hq, Hk, (pSs j Hst).1⟩ : Ba), Hs) else none) = V) := HVM
      have hpl := pSs_len Hst j
      obtain ⟨⟨L, st⟩, hL⟩ : ∃ p, pSs j Hst = p := ⟨_, rfl⟩
      rw [hL] at HSr HOr HVM2 hpl
      dsimp only at HSr HOr HVM2 hpl
      obtain ⟨d9, hd9⟩ : ∃ d, RdA.dn st = d := ⟨_, rfl⟩
      rw [hd9] at HVM2
      have HD9 := hid hd9
      have HPL := hid hpl
      clear hd9 HVM hd hq hout hrs hf hpl hL
      have HQs := HQr.out
      have dk : wr.cell? ⟨D, 1, none⟩ = some (.int .i64 Hk) := Blk.cell HDr.out 1
      by_cases h0 : d9 = 0
      · subst h0
        by_cases hk2 : Hk = 2
        · subst hk2
          by_cases hs0 : Hs = 0
          · subst hs0
            obtain rfl : V = some ((⟨Hq, 2, L⟩ : Ba), 0) := by rw [← HVM2.out, if_pos ⟨rfl, fun h => h.2 rfl⟩]
            clear HVM2
            go_upto_region 19 with ((go_at_call 68; refine (done_rd g (R + 1) _ st _ HSr.out).mono ?_; rintro e' w7 ⟨rfl, rfl⟩; rw [HD9.out]))
            obtain ⟨b0, b1, b2⟩ := BB.cells HDr.out
            go_wp2_with (refine st_bt rfl (.tmp 2) (.tmp 67) rfl R rfl rfl (by simp [Value.oneCell']) HQs rfl ?_; intro wz HQz fz; have HFz := hid (FR.out.step fz (fun i hi e => by have := HR.out; omega)); have HRz := hid (rdS_lo2 (HOr.out.rd) fz (fun q o h => by have := (HOr.out.ge q (by rw [h]; rfl)).1; have := HSD.out; have := HB3.out; omega)); clear fz)
            exact bodyPost_ret (v := .tuple #[bv Hq 2 As j cs, .int .u32 0, .bool true]) (resH rfl _ _ R Hq 2 As j cs (.int .u32 0) (.bool true) rfl rfl rfl HQz) rfl ⟨⟨As, cs, by dsimp only; rw [HPL.out], by dsimp only; rw [HPL.out]; exact HRz.out, ⟨by dsimp only; rw [HPL.out]; exact (out_lim HOr.out).1, (out_lim HOr.out).2⟩, fun q o h => by have := (HOr.out.ge q (by rw [h]; rfl)).1; have := HSD.out; have := HB3.out; have := HR.out; omega⟩, HFz.out⟩
          · have hsb : (Hs == 0) = false := by simpa using hs0
            have hsb2 : (Hs != 0) = true := by rw [bne, hsb]; rfl
            obtain rfl : V = none := by rw [← HVM2.out, if_neg (fun h => h.2 ⟨rfl, hs0⟩)]
            clear HVM2
            go_wp2_with (first | (go_at_call 68; refine (done_rd g (R + 1) _ st _ HSr.out).mono ?_; rintro e' w7 ⟨rfl, rfl⟩; rw [HD9.out]) | (refine st_bt rfl (.tmp 2) (.tmp 66) rfl R rfl rfl (by simp [Value.oneCell']) HQs rfl ?_; intro w9 HQ9 f9; have HF9 := hid (FR.out.step f9 (fun i hi e => by have := HR.out; omega)); clear f9))
            exact bodyPost_ret (v := .tuple #[bv 0 0 none 0 0, .int .u32 0, .bool false]) (resH rfl _ _ R 0 0 none 0 0 (.int .u32 0) (.bool false) rfl rfl rfl HQ9) rfl ⟨rfl, HF9.out⟩
        · have hkb : (Hk == 2) = false := by simpa using hk2
          obtain rfl : V = some ((⟨Hq, Hk, L⟩ : Ba), Hs) := by rw [← HVM2.out, if_pos ⟨rfl, fun h => hk2 h.1⟩]
          clear HVM2
          go_upto_region 19 with ((go_at_call 68; refine (done_rd g (R + 1) _ st _ HSr.out).mono ?_; rintro e' w7 ⟨rfl, rfl⟩; rw [HD9.out]))
          obtain ⟨b0, b1, b2⟩ := BB.cells HDr.out
          go_wp2_with (refine st_bt rfl (.tmp 2) (.tmp 67) rfl R rfl rfl (by simp [Value.oneCell']) HQs rfl ?_; intro wz HQz fz; have HFz := hid (FR.out.step fz (fun i hi e => by have := HR.out; omega)); have HRz := hid (rdS_lo2 (HOr.out.rd) fz (fun q o h => by have := (HOr.out.ge q (by rw [h]; rfl)).1; have := HSD.out; have := HB3.out; omega)); clear fz)
          exact bodyPost_ret (v := .tuple #[bv Hq Hk As j cs, .int .u32 Hs, .bool true]) (resH rfl _ _ R Hq Hk As j cs (.int .u32 Hs) (.bool true) rfl rfl rfl HQz) rfl ⟨⟨As, cs, by dsimp only; rw [HPL.out], by dsimp only; rw [HPL.out]; exact HRz.out, ⟨by dsimp only; rw [HPL.out]; exact (out_lim HOr.out).1, (out_lim HOr.out).2⟩, fun q o h => by have := (HOr.out.ge q (by rw [h]; rfl)).1; have := HSD.out; have := HB3.out; have := HR.out; omega⟩, HFz.out⟩
      · have h0b : (d9 == 0) = false := by simpa using h0
        have h0b2 : (d9 != 0) = true := by rw [bne, h0b]; rfl
        obtain rfl : V = none := by rw [← HVM2.out, if_neg (fun h => h0 h.1)]
        clear HVM2
        go_wp2_with (first | (go_at_call 68; refine (done_rd g (R + 1) _ st _ HSr.out).mono ?_; rintro e' w7 ⟨rfl, rfl⟩; rw [HD9.out]) | (refine st_bt rfl (.tmp 2) (.tmp 66) rfl R rfl rfl (by simp [Value.oneCell']) HQs rfl ?_; intro w9 HQ9 f9; have HF9 := hid (FR.out.step f9 (fun i hi e => by have := HR.out; omega)); clear f9))
        exact bodyPost_ret (v := .tuple #[bv 0 0 none 0 0, .int .u32 0, .bool false]) (resH rfl _ _ R 0 0 none 0 0 (.int .u32 0) (.bool false) rfl rfl rfl HQ9) rfl ⟨rfl, HF9.out⟩
end Go.Proofs.YtkkbgbpmpcoffaaDoor.BtH
/- Contract: what any bytes are as the head of a batch that may be, by the program. Conditions: they read as bytes; all numbers are 64 bits; the table of sums is as its text lays it. -/
namespace Go.Proofs.YtkkbgbpmpcoffaaDoor.BtK
open Go.RowKit MSep MSepC MSpM MGeM MFrame Kit BtA CrcA BtH
open BtM (Ba mayB)
open SpA (wf w64)
open RdA (gt gi)
open GeA (bg BG ld_geom)

theorem pSs_in {st : Option (List Int)} (h : by8 st) : ∀ n, ∀ s ∈ (pSs n st).1, (0 ≤ s.1 ∧ s.1 < 4294967296) ∧ (0 ≤ s.2 ∧ s.2 < 65536)
  | 0 => by simp [pSs]
  | n + 1 => by
    intro s hs
    rw [pSs, List.mem_append] at hs
    rcases hs with hs | hs
    · exact pSs_in h n s hs
    · simp only [List.mem_singleton] at hs
      subst hs
      have b1 := gt_in (n := 4) (pSs_by8 h n)
      have b2 := gt_in (n := 2) (gt_by8 (n := 4) (pSs_by8 h n))
      rw [show (256 : Int) ^ 4 = 4294967296 by decide] at b1
      rw [show (256 : Int) ^ 2 = 65536 by decide] at b2
      exact ⟨b1, b2⟩
/-- What a head says has room in the program's numbers. -/
structure Fits (r : Ba × Int) : Prop where
  q : r64 r.1.q
  k : 0 ≤ r.1.k ∧ r.1.k ≤ 255
  s : 0 ≤ r.2 ∧ r.2 < 4294967296
  n : r.1.l.length ≤ 8
  l : ∀ s ∈ r.1.l, (0 ≤ s.1 ∧ s.1 < 4294967296) ∧ (0 ≤ s.2 ∧ s.2 < 65536)
theorem w64_r (n : Int) : r64 (wrap64 n) := by unfold r64 wrap64; omega
theorem headP_fits {zs : List Int} {r : Ba × Int} (h8 : ∀ x ∈ zs, 0 ≤ x ∧ x ≤ 255) (h : headP zs = some r) : Fits r := by
  unfold headP at h
  split at h
  case isFalse => cases h
  unfold hP at h
  split at h
  case isFalse => cases h
  have hb : by8 (some ((zs.drop 4).drop 2)) := fun ys hy x hx => by cases hy; exact h8 x (List.mem_of_mem_drop (List.mem_of_mem_drop hx))
  obtain ⟨st, hst⟩ : ∃ st, some ((zs.drop 4).drop 2) = st := ⟨_, rfl⟩
  rw [hst] at h hb
  unfold hP1 at h
  split at h
  case isFalse => cases h
  cases h
  have hs : by8 (hh st).st := gt_by8 (gt_by8 (gi_by8 (gt_by8 hb)))
  have b1 := gt_in (n := 1) hb
  rw [show (256 : Int) ^ 1 = 256 by decide] at b1
  have b4 := gt_in (n := 4) (gt_by8 (n := 8) (gi_by8 (n := 1) (a := 1) (b := 8) (gt_by8 (n := 1) hb)))
  rw [show (256 : Int) ^ 4 = 4294967296 by decide] at b4
  refine ⟨w64_r _, ⟨b1.1, ?_⟩, b4, ?_, pSs_in hs _⟩
  · have h2 : (hh st).k < 256 := b1.2
    show (hh st).k ≤ 255
    omega
  · show (pSs (hh st).n (hh st).st).1.length ≤ 8
    rw [pSs_len]
    have := gi_in 1 1 8 (gt 1 st).2
    show (gi 1 1 8 (gt 1 st).2).1.toNat ≤ 8
    omega
theorem Fits.wf {r : Ba × Int} (h : Fits r) : ∀ s ∈ r.1.l, wf s := fun s hs => by
  have := h.l s hs
  unfold SpA.wf
  omega
open Classical in
noncomputable def headG (g : Ge) (zs : List Int) : Option (Ba × Int) := match headP zs with
  | none => none
  | some r => if mayB g r.1 then some r else none
theorem headG_some {g : Ge} {zs : List Int} {r : Ba × Int} (h : headG g zs = some r) : headP zs = some r ∧ mayB g r.1 := by
  unfold headG at h
  split at h
  · cases h
  · rename_i r' hr
    split at h
    · cases h
      exact ⟨hr, by assumption⟩
    · cases h
def RetG (w w' : World) (E : Ending) (c : Int) (o : Option (Ba × Int)) : Prop := (match o with
  | none => E = .returned (.tuple #[bv 0 0 none 0 0, .int .u32 0, .int .i64 c])
  | some r => ∃ A c, E = .returned (.tuple #[bv r.1.q r.1.k A r.1.l.length c, .int .u32 r.2, .int .i64 0]) ∧ RdS w' A r.1.l.length r.1.l ∧ (r.1.l.length ≤ c ∧ c ≤ maxLen) ∧ ∀ g o, A = some ⟨g, o, none⟩ → w.heap.size ≤ g) ∧ Fr No w w'
set_option maxRecDepth 100000 in
set_option maxHeartbeats 4000000 in
theorem head_geom (gc gs gn gl gk : Int) (A : Option Addr) (l c : Nat) (w : World) (hs : r64 gs) (hm : ¬ mayG ⟨gc, gs, gn, gl, gk⟩) :
    Calls Tryd.prog 14 #[.agg #[.int .i64 gc, .int .i64 gs, .int .i64 gn, .int .i64 gl, .int .i64 gk], .slice A l c] w fun E w' => RetG w w' E 70 none := by
  obtain ⟨G, hG⟩ : ∃ G, w.heap.size = G := ⟨_, rfl⟩
  obtain ⟨w1, hw1⟩ : ∃ w1, (w.alloc (bg gc gs gn gl gk)).alloc (.cells (bcs 0 0 none 0 0) 26) = w1 := ⟨_, rfl⟩
  have FG := hid (show Fr No w w1 by rw [← hw1]; exact (fr1 _ _).alloc _)
  have P0 := hid (show BG w1 G gc gs gn gl gk by rw [← hw1, ← hG]; exact (BG.new w gc gs gn gl gk : Blk _ _ _ _).alloc _)
  have P1 : BB w1 (G + 1) 0 0 none 0 0 := by
    rw [← hw1, ← hG]
    have := BB.new (w.alloc (bg gc gs gn gl gk)) 0 0 none 0 0
    rwa [World.size_alloc] at this
  have HG := hid hG
  have HS := hid hs
  have HW1 := hid hw1
  clear hs hw1
  have HM := hid hm
  clear hm
  go_enter Tryd.func14, Tryd.ntmps14
  go_upto_region 1 with fail
  try rw [show (w.alloc (Obj.cells #[.int .i64 gc, .int .i64 gs, .int .i64 gn, .int .i64 gl, .int .i64 gk] 23)).alloc (Obj.cells #[.int .i64 0, .int .i64 0, .slice none 0 0] 26) = w1 from HW1.out]
  try rw [hG]
  go_wp2_with (first | ((with_reducible refine ld_geom rfl (.tmp 2) rfl G ?_ P0.out ?_); · rfl) | (go_at_call 22; refine (GeC.may_ok gc gs gn gl gk _ HS.out).mono ?_; rintro e w2 ⟨rfl, f2⟩; rw [decide_eq_false HM.out]; replace FG := hid (FG.out.trans f2); replace P1 := Blk.fr P1 f2 (fun h => h); clear f2) | (refine st_bt rfl (.tmp 4) (.tmp 13) rfl (G + 1) rfl rfl (by simp [Value.oneCell']) P1 rfl ?_; intro w9 HQ9 f9; have HF9 := hid (FG.out.step f9 (fun i hi e => by have := HG.out; omega)); clear f9))
  exact bodyPost_ret (v := .tuple #[bv 0 0 none 0 0, .int .u32 0, .int .i64 70]) (resH rfl _ _ (G + 1) 0 0 none 0 0 (.int .u32 0) (.int .i64 70) rfl rfl rfl HQ9) rfl ⟨rfl, HF9.out⟩
set_option maxRecDepth 100000 in
set_option maxHeartbeats 4000000 in
theorem head_ok (gc gs gn gl gk : Int) (A : Option Addr) (l c : Nat) (zs : List Int) (w : World) (hs : r64 gs) (hm : mayG ⟨gc, gs, gn, gl, gk⟩) (hb : IsB w A l c zs) (hT : TabAt w) :
    Calls Tryd.prog 14 #[.agg #[.int .i64 gc, .int .i64 gs, .int .i64 gn, .int .i64 gl, .int .i64 gk], .slice A l c] w fun E w' => RetG w w' E 10 (headG ⟨gc, gs, gn, gl, gk⟩ zs) := by
  obtain ⟨G, hG⟩ : ∃ G, w.heap.size = G := ⟨_, rfl⟩
  obtain ⟨w1, hw1⟩ : ∃ w1, (w.alloc (bg gc gs gn gl gk)).alloc (.cells (bcs 0 0 none 0 0) 26) = w1 := ⟨_, rfl⟩
  have FG := hid (show Fr No w w1 by rw [← hw1]; exact (fr1 _ _).alloc _)
  have P0 := hid (show BG w1 G gc gs gn gl gk by rw [← hw1, ← hG]; exact (BG.new w gc gs gn gl gk : Blk _ _ _ _).alloc _)
  have P1 : BB w1 (G + 1) 0 0 none 0 0 := by
    rw [← hw1, ← hG]
    have := BB.new (w.alloc (bg gc gs gn gl gk)) 0 0 none 0 0
    rwa [World.size_alloc] at this
  have HG := hid hG
  have HS := hid hs
  have HW1 := hid hw1
  clear hs hw1
  have HM := hid hm
  have HI := hid (hb.fr FG.out)
  have HT1 := hid (hT.fr FG.out (fun h => h))
  have HU8 := hid hb.2.2.2
  obtain ⟨V, hV⟩ : ∃ V, headG ⟨gc, gs, gn, gl, gk⟩ zs = V := ⟨_, rfl⟩
  rw [hV]
  have HO := hid (fun W (hi : IsB W A l c zs) (ht : TabAt W) => headOf_ok A l c zs W hi ht)
  clear hm hb hT
  go_enter Tryd.func14, Tryd.ntmps14
  go_upto_region 1 with fail
  try rw [show (w.alloc (Obj.cells #[.int .i64 gc, .int .i64 gs, .int .i64 gn, .int .i64 gl, .int .i64 gk] 23)).alloc (Obj.cells #[.int .i64 0, .int .i64 0, .slice none 0 0] 26) = w1 from HW1.out]
  try rw [hG]
  cases ho : headP zs with
  | none =>
    obtain rfl : V = none := by rw [← hV]; unfold headG; rw [ho]
    clear hV
    go_wp2_with (first | ((with_reducible refine ld_geom rfl (.tmp 2) rfl G ?_ P0.out ?_); · rfl) | (go_at_call 22; refine (GeC.may_ok gc gs gn gl gk _ HS.out).mono ?_; rintro e w2 ⟨rfl, f2⟩; rw [decide_eq_true HM.out]; replace FG := hid (FG.out.trans f2); replace P1 := Blk.fr P1 f2 (fun h => h); replace HI := hid (HI.out.fr f2); replace HT1 := hid (HT1.out.fr f2 (fun h => h)); clear f2) | (go_at_call 38; go_loud (refine (HO.out _ HI.out HT1.out).mono ?_; rintro e w3 ⟨he, f3⟩; rw [ho] at he; obtain rfl := he; replace FG := hid (FG.out.trans f3); have P1' := hid (Blk.alloc (Blk.fr P1 f3 (fun h => h)) (.cells (bcs 0 0 none 0 0) 26)); replace FG := hid (FG.out.alloc (.cells (bcs 0 0 none 0 0) 26)); clear f3)) | (refine st_bt rfl (.tmp 4) (.tmp 28) rfl (G + 1) rfl rfl (by simp [Value.oneCell']) P1'.out rfl ?_; intro w9 HQ9 f9; have HF9 := hid (FG.out.step f9 (fun i hi e => by have := HG.out; omega)); clear f9))
    exact bodyPost_ret (v := .tuple #[bv 0 0 none 0 0, .int .u32 0, .int .i64 10]) (resH rfl _ _ (G + 1) 0 0 none 0 0 (.int .u32 0) (.int .i64 10) rfl rfl rfl HQ9) rfl ⟨rfl, HF9.out⟩
  | some r =>
    have HFT := hid (headP_fits HU8.out ho)
    obtain ⟨⟨q, k, xs⟩, s⟩ := r
    have hVy : mayB ⟨gc, gs, gn, gl, gk⟩ ⟨q, k, xs⟩ → some ((⟨q, k, xs⟩ : Ba), s) = V := fun h => by
      rw [← hV]
      unfold headG
      rw [ho]
      exact (if_pos h).symm
    have hVn : ¬ mayB ⟨gc, gs, gn, gl, gk⟩ ⟨q, k, xs⟩ → none = V := fun h => by
      rw [← hV]
      unfold headG
      rw [ho]
      exact (if_neg h).symm
    have HWF := hid HFT.out.wf
    have HLN := hid HFT.out.n
    dsimp only at HWF HLN
    go_upto_region 4 with (first | ((with_reducible refine ld_geom rfl (.tmp 2) rfl G ?_ P0.out ?_); · rfl) | (go_at_call 22; refine (GeC.may_ok gc gs gn gl gk _ HS.out).mono ?_; rintro e w2 ⟨rfl, f2⟩; rw [decide_eq_true HM.out]; replace FG := hid (FG.out.trans f2); replace P0 := hid (P0.out.fr f2); replace P1 := Blk.fr P1 f2 (fun h => h); replace HI := hid (HI.out.fr f2); replace HT1 := hid (HT1.out.fr f2 (fun h => h)); clear f2) | (go_at_call 38; go_loud (refine (HO.out _ HI.out HT1.out).mono ?_; rintro e w3 ⟨he, f3⟩; rw [ho] at he; obtain ⟨As, cs, rfl, hxs, hlim, hfr⟩ := he; have HFRE := hid (show ∀ g o, As = some ⟨g, o, none⟩ → w.heap.size ≤ g ∧ g ≠ G + 1 from fun g o h => by have h1 := hfr g o h; have h2 := Blk.lt P1; have := HG.out; omega); dsimp only at hxs hlim ⊢; clear hfr)))
    obtain ⟨B, hB⟩ : ∃ B, w3.heap.size = B := ⟨_, rfl⟩
    obtain ⟨w4, hw4⟩ : ∃ w4, w3.alloc (.cells (bcs q k As xs.length cs) 26) = w4 := ⟨_, rfl⟩
    have f4 : Fr No w3 w4 := by rw [← hw4]; exact fr1 _ _
    have HBB := hid (show BB w4 B q k As xs.length cs by rw [← hw4, ← hB]; exact BB.new _ _ _ _ _ _)
    have HXS := hid (hxs.fr f4)
    have HLM := hid hlim
    replace P0 := hid ((P0.out.fr f3).fr f4)
    replace P1 := Blk.fr (Blk.fr P1 f3 (fun h => h)) f4 (fun h => h)
    replace FG := hid (FG.out.trans (f3.trans f4))
    have HW4 := hid hw4
    clear hw4 f3 f4 hxs hlim hV
    rw [show w3.alloc (Obj.cells #[.int .i64 q, .int .i64 k, .slice As xs.length cs] 26) = w4 from HW4.out]
    try rw [hB]
    obtain ⟨g0, g1, g2, g3, g4⟩ := P0.out.cells
    obtain ⟨b0, b1, b2⟩ := HBB.out.cells
    have HP1 := hid P1
    clear P1 HW4
    by_cases hmb : mayB ⟨gc, gs, gn, gl, gk⟩ ⟨q, k, xs⟩
    · obtain rfl := hVy hmb
      clear hVy hVn
      have HMB := hid hmb
      clear hmb
      go_wp2_with (first | (go_at_call 6; go_loud (refine (BtD.may_ok gc gs gn gl gk q k As xs.length cs xs true _ HS.out (by have := HLN.out; omega) HLM.out.1 HXS.out HWF.out ⟨fun _ => HMB.out, fun _ => rfl⟩).mono ?_; rintro e w5 ⟨rfl, f5⟩; replace FG := hid (FG.out.trans f5); replace HBB := hid (BB.fr HBB.out f5); replace HXS := hid (HXS.out.fr f5); replace HP1 := hid (Blk.fr HP1.out f5 (fun h => h)); clear f5 g0 g1 g2 g3 g4 b0 b1 b2)) | ((with_reducible refine ld_bt rfl (.tmp 7) rfl B ?_ HBB.out ?_); · rfl) | (refine st_bt rfl (.tmp 4) (.tmp 29) rfl (G + 1) rfl rfl (by simp [Value.oneCell']) HP1.out rfl ?_; intro w9 HQ9 f9; have HF9 := hid (FG.out.step f9 (fun i hi e => by have := HG.out; omega)); have HX9 := hid (rdS_lo2 HXS.out f9 (fun g o h e => (HFRE.out g o h).2 e)); clear f9))
      exact bodyPost_ret (v := .tuple #[bv q k As xs.length cs, .int .u32 s, .int .i64 0]) (resH rfl _ _ (G + 1) q k As xs.length cs (.int .u32 s) (.int .i64 0) rfl rfl rfl HQ9) rfl ⟨⟨As, cs, rfl, HX9.out, HLM.out, fun g o h => (HFRE.out g o h).1⟩, HF9.out⟩
    · obtain rfl := hVn hmb
      clear hVy hVn
      have HMB := hid hmb
      clear hmb
      go_wp2_with (first | (go_at_call 6; go_loud (refine (BtD.may_ok gc gs gn gl gk q k As xs.length cs xs false _ HS.out (by have := HLN.out; omega) HLM.out.1 HXS.out HWF.out ⟨(fun h => Bool.noConfusion h), fun h => absurd h HMB.out⟩).mono ?_; rintro e w5 ⟨rfl, f5⟩; replace FG := hid (FG.out.trans f5); replace HP1 := hid (Blk.fr HP1.out f5 (fun h => h)); clear f5 g0 g1 g2 g3 g4 b0 b1 b2)) | (refine st_bt rfl (.tmp 4) (.tmp 28) rfl (G + 1) rfl rfl (by simp [Value.oneCell']) HP1.out rfl ?_; intro w9 HQ9 f9; have HF9 := hid (FG.out.step f9 (fun i hi e => by have := HG.out; omega)); clear f9))
      exact bodyPost_ret (v := .tuple #[bv 0 0 none 0 0, .int .u32 0, .int .i64 10]) (resH rfl _ _ (G + 1) 0 0 none 0 0 (.int .u32 0) (.int .i64 10) rfl rfl rfl HQ9) rfl ⟨rfl, HF9.out⟩
end Go.Proofs.YtkkbgbpmpcoffaaDoor.BtK
/- Contract: the batch with which bytes begin, and where its data are, by the program. Conditions: the geometry may be; what comes in reads as bytes; the table of sums is as its text lays it. -/
namespace Go.Proofs.YtkkbgbpmpcoffaaDoor.BtL
open Go.RowKit MSep MSepC MSpM MGeM MFrame Kit BtA CrcA CrcM BtH BtK
open BtM (Ba mayB dsec mayB_dsec mayB_tn size_ tn)
open BtG (sumF)
open SpA (wf w64)
open GeA (bg BG ld_geom)

theorem fr1d (w : World) (A : Obj) : Fr No w (w.alloc A).drew := (fr1 w A).drew
theorem kfae {a b : World} {o : Obj} (h : Hid (Fr No a b.drew)) : Hid (Fr No a (b.alloc o).drew) := hid (h.out.alloc o)
theorem kcs {b c : World} {p : Addr} {v : Value} {g : Nat} (k : Fr (fun q => q = g) b c) (hn : p.block ≠ g) (h : b.cell? p = some v) : c.cell? p = some v := k.cell_some h hn
theorem kfg {a b c : World} {g : Nat} (hg : a.heap.size ≤ g) (h : Hid (Fr No a b)) (k : Fr (fun q => q = g) b c) : Hid (Fr No a c) := hid (h.out.step k (fun i hi e => absurd hi (by omega)))
theorem st_bt_step {ops : Array Oper} {o : Oper} {ac : Act} {w : World} {K : Act → World → Prop} {Q : Exit → Act → World → Prop} {E : Prop} (hgd : o.guard = none) (x y : Operand) (ho : o.op = .store 26 x y) (g : Nat) (hx : ac.eval x = .pointer (some ⟨g, 0, none⟩)) {a0 a1 a2 : Value}
    (hy : ac.eval y = .agg #[a0, a1, a2]) (h1 : (#[a0, a1, a2] : Array Value).all (·.oneCell') = true) {cs : Array Value} (hg : Blk w g 26 cs) (hsz : cs.size = 3)
    (h : ∀ W', Blk W' g 26 #[a0, a1, a2] → Fr (fun q => q = g) w W' → K (ac.put o.dst undef) W') :
    if Region.wanted o (yielded ops ac.tmps) = true then Oper.wp Tryd.prog o ac w K Q else E :=
  step_wanted hgd (wp_store_row 26 x y ho g _ hx hy 26 _ hg infoBt (hsz.trans rfl) h1 (h _ (Blk.setRow hg _) (Fr.setRow (S := fun q => q = g) (Fr.refl _ _) (fun _ => rfl) _)))
theorem isB_lo {S : Nat → Prop} {w w' : World} {A : Option Addr} {l c : Nat} {zs : List Int} (h : IsB w A l c zs) (hf : Fr S w w') (hS : ∀ g o, A = some ⟨g, o, none⟩ → ¬ S g) : IsB w' A l c zs := ⟨h.1.fr hf hS, h.2⟩
theorem isB_take {w : World} {A : Option Addr} {l c n : Nat} {zs : List Int} (h : IsB w A l c zs) (hn : n ≤ l) : IsB w A n c (zs.take n) :=
  ⟨by rw [List.map_take]; exact h.1.take hn, by have := h.2.1; omega, h.2.2.1, fun x hx => h.2.2.2 x (List.mem_of_mem_take hx)⟩
theorem rdS_lo3 {S : Nat → Prop} {w w' : World} {A : Option Addr} {n : Nat} {l : List Sp} (h : RdS w A n l) (hf : Fr S w w') (hS : 0 < n → ∀ g o, A = some ⟨g, o, none⟩ → ¬ S g) : RdS w' A n l := by
  refine ⟨h.1, h.2.1, fun hn => ?_⟩
  obtain ⟨g, o, hA, hg, hc⟩ := h.2.2 hn
  exact ⟨g, o, hA, Nat.lt_of_lt_of_le hg hf.size, fun j u hu => hf.cell_some (hc j u hu) (hS (by omega) g o hA)⟩
/-- Where spans lie: behind B, within the memory. -/
theorem rdS_gx {w : World} {B : Nat} {A : Option Addr} {n : Nat} {l : List Sp} (h : RdS w A n l) (hf : ∀ g o, A = some ⟨g, o, none⟩ → B ≤ g) : 0 < n → ∀ g o, A = some ⟨g, o, none⟩ → B ≤ g ∧ g < w.heap.size := by
  intro hn g o hA
  refine ⟨hf g o hA, ?_⟩
  obtain ⟨g', o', hA', hg, _⟩ := h.at_ hn
  rw [hA] at hA'
  cases hA'
  exact hg
/-- A head's outcome, in numbers. -/
def hq (o : Option (Ba × Int)) : Int := match o with | none => 0 | some r => r.1.q
def hk (o : Option (Ba × Int)) : Int := match o with | none => 0 | some r => r.1.k
def hl (o : Option (Ba × Int)) : List Sp := match o with | none => [] | some r => r.1.l
def hs_ (o : Option (Ba × Int)) : Int := match o with | none => 0 | some r => r.2
def he_ (o : Option (Ba × Int)) : Int := match o with | none => 10 | some _ => 0
theorem head_u (gc gs gn gl gk : Int) (A : Option Addr) (l c : Nat) (zs : List Int) (w : World) (q k : Int) (xs : List Sp) (s e : Int) (hs : r64 gs) (hm : mayG ⟨gc, gs, gn, gl, gk⟩) (hb : IsB w A l c zs) (hT : TabAt w) (hqe : hq (headG ⟨gc, gs, gn, gl, gk⟩ zs) = q) (hke : hk (headG ⟨gc, gs, gn, gl, gk⟩ zs) = k) (hle : hl (headG ⟨gc, gs, gn, gl, gk⟩ zs) = xs) (hse : hs_ (headG ⟨gc, gs, gn, gl, gk⟩ zs) = s) (hee : he_ (headG ⟨gc, gs, gn, gl, gk⟩ zs) = e) :
    Calls Tryd.prog 14 #[.agg #[.int .i64 gc, .int .i64 gs, .int .i64 gn, .int .i64 gl, .int .i64 gk], .slice A l c] w fun E w' => ∃ A' c', E = .returned (.tuple #[bv q k A' xs.length c', .int .u32 s, .int .i64 e]) ∧ RdS w' A' xs.length xs ∧ (xs.length ≤ c' ∧ c' ≤ maxLen) ∧ (∀ g o, A' = some ⟨g, o, none⟩ → w.heap.size ≤ g) ∧ Fr No w w' := by
  refine (head_ok gc gs gn gl gk A l c zs w hs hm hb hT).mono ?_
  rintro E w' ⟨h1, h2⟩
  subst hqe hke hle hse hee
  cases ho : headG ⟨gc, gs, gn, gl, gk⟩ zs with
  | none =>
    rw [ho] at h1
    exact ⟨none, 0, h1, RdS.nil _ _, ⟨Nat.le_refl _, by simp [maxLen]⟩, (fun g o h => by cases h), h2⟩
  | some r =>
    rw [ho] at h1
    obtain ⟨A', c', rfl, h3, h4, h5⟩ := h1
    exact ⟨A', c', rfl, h3, h4, h5, h2⟩
/-- With what batch bytes begin. -/
noncomputable def beginG (g : Ge) (zs : List Int) : Option (Ba × List Int) :=
  if zs.length = 0 ∨ ¬ zs.length % 128 = 0 then none else
    match headG g (zs.take 128) with
    | none => none
    | some r => if zs.length < 128 + (dsec r.1.k r.1.l).toNat * 128 then none else
        if (onN 0 ((zs.drop 128).take ((dsec r.1.k r.1.l).toNat * 128)) : Int) = r.2 then some (r.1, (zs.drop 128).take ((dsec r.1.k r.1.l).toNat * 128)) else none
def RetN (w w' : World) (E : Ending) (o : Option (Ba × List Int)) : Prop := (match o with
  | none => E = .returned (.tuple #[bv 0 0 none 0 0, .slice none 0 0, .bool false])
  | some r => ∃ A c A2 c2, E = .returned (.tuple #[bv r.1.q r.1.k A r.1.l.length c, .slice A2 r.2.length c2, .bool true]) ∧ RdS w' A r.1.l.length r.1.l ∧ (r.1.l.length ≤ c ∧ c ≤ maxLen) ∧ (∀ g o, A = some ⟨g, o, none⟩ → w.heap.size ≤ g) ∧ IsB w' A2 r.2.length c2 r.2) ∧ Fr No w w'
def CutI (w1 : World) (q k : Int) (xs : List Sp) (s e : Value) (p s' e' : Value) (wx : World) : Prop := ∃ M A c, p = .pointer (some ⟨M, 0, none⟩) ∧ s' = s ∧ e' = e ∧ BB wx M q k A xs.length c ∧ w1.heap.size ≤ M ∧ RdS wx A xs.length xs ∧ (xs.length ≤ c ∧ c ≤ maxLen) ∧ (∀ g o, A = some ⟨g, o, none⟩ → w1.heap.size ≤ g) ∧ Fr No w1 wx
set_option maxRecDepth 100000 in
set_option maxHeartbeats 8000000 in
theorem begin_ok (gc gs gn gl gk : Int) (A : Option Addr) (l c : Nat) (zs : List Int) (w : World) (hs : r64 gs) (hm : mayG ⟨gc, gs, gn, gl, gk⟩) (hb : IsB w A l c zs) (hT : TabAt w) :
    Calls Tryd.prog 36 #[.agg #[.int .i64 gc, .int .i64 gs, .int .i64 gn, .int .i64 gl, .int .i64 gk], .slice A l c] w fun E w' => RetN w w' E (beginG ⟨gc, gs, gn, gl, gk⟩ zs) := by
  obtain ⟨G, hG⟩ : ∃ G, w.heap.size = G := ⟨_, rfl⟩
  obtain ⟨w1, hw1⟩ : ∃ w1, (w.alloc (bg gc gs gn gl gk)).alloc (.cells (bcs 0 0 none 0 0) 26) = w1 := ⟨_, rfl⟩
  have FG := hid (show Fr No w w1 by rw [← hw1]; exact (fr1 _ _).alloc _)
  have P0 := hid (show BG w1 G gc gs gn gl gk by rw [← hw1, ← hG]; exact (BG.new w gc gs gn gl gk : Blk _ _ _ _).alloc _)
  have P1 : BB w1 (G + 1) 0 0 none 0 0 := by
    rw [← hw1, ← hG]
    have := BB.new (w.alloc (bg gc gs gn gl gk)) 0 0 none 0 0
    rwa [World.size_alloc] at this
  have HG := hid hG
  have HS := hid hs
  have HW1 := hid hw1
  clear hs hw1
  have hlen : zs.length = l := by simpa using hb.1.1
  have HLEN := hid hlen
  have HM := hid hm
  have HI := hid (hb.fr FG.out)
  have HT1 := hid (hT.fr FG.out (fun h => h))
  have HB0 := hid hb
  obtain ⟨V, hV⟩ : ∃ V, beginG ⟨gc, gs, gn, gl, gk⟩ zs = V := ⟨_, rfl⟩
  rw [hV]
  have hcm : c ≤ 9223372036854775807 := by have := hb.2.2.1; simp only [maxLen] at this; omega
  have hlc := hb.2.1
  have HCM := hid (And.intro hcm hlc)
  have hmod : wrap64 ((l : Int).tmod 128) = ((l % 128 : Nat) : Int) := by
    rw [Int.tmod_eq_emod_of_nonneg (by omega)]
    exact (w64 _ (by omega)).trans (by omega)
  have hmod2 : (l : Int).tmod 128 = ((l % 128 : Nat) : Int) := by
    rw [Int.tmod_eq_emod_of_nonneg (by omega)]; omega
  clear hm hb hT
  go_enter Tryd.func36, Tryd.ntmps36
  go_upto_region 1 with fail
  try rw [show (w.alloc (Obj.cells #[.int .i64 gc, .int .i64 gs, .int .i64 gn, .int .i64 gl, .int .i64 gk] 23)).alloc (Obj.cells #[.int .i64 0, .int .i64 0, .slice none 0 0] 26) = w1 from HW1.out]
  try rw [hG]
  by_cases h0 : l = 0
  · obtain rfl : V = none := by rw [← hV]; unfold beginG; rw [if_pos (Or.inl (by omega))]
    subst h0
    clear hV hmod hmod2
    have P1' := hid P1
    go_wp2_with (refine st_bt rfl (.tmp 4) (.tmp 20) rfl (G + 1) rfl rfl (by simp [Value.oneCell']) P1'.out rfl ?_; intro w9 HQ9 f9; have HF9 := hid (FG.out.step f9 (fun i hi e => by have := HG.out; omega)); clear f9)
    exact bodyPost_ret (v := .tuple #[bv 0 0 none 0 0, .slice none 0 0, .bool false]) (resH rfl _ _ (G + 1) 0 0 none 0 0 (.slice none 0 0) (.bool false) rfl rfl rfl HQ9) rfl ⟨rfl, HF9.out⟩
  have h0b : ((l : Int) == 0) = false := by simp; omega
  by_cases hr : l % 128 = 0
  case neg =>
    obtain rfl : V = none := by rw [← hV]; unfold beginG; rw [if_pos (Or.inr (by rw [HLEN.out]; exact hr))]
    have hrb : (((l % 128 : Nat) : Int) == 0) = false := by simp; omega
    have hrb2 : (((l % 128 : Nat) : Int) != 0) = true := by rw [bne, hrb]; rfl
    clear hV
    have P1' := hid P1
    go_wp2_with (refine st_bt rfl (.tmp 4) (.tmp 20) rfl (G + 1) rfl rfl (by simp [Value.oneCell']) P1'.out rfl ?_; intro w9 HQ9 f9; have HF9 := hid (FG.out.step f9 (fun i hi e => by have := HG.out; omega)); clear f9)
    exact bodyPost_ret (v := .tuple #[bv 0 0 none 0 0, .slice none 0 0, .bool false]) (resH rfl _ _ (G + 1) 0 0 none 0 0 (.slice none 0 0) (.bool false) rfl rfl rfl HQ9) rfl ⟨rfl, HF9.out⟩
  have hrb : (((l % 128 : Nat) : Int) == 0) = true := by rw [hr]; rfl
  have hrb2 : (((l % 128 : Nat) : Int) != 0) = false := by rw [bne, hrb]; rfl
  go_upto_region 3 with fail
  clear hmod hmod2 hrb hrb2 h0b
  have hl128 : 128 ≤ l := by omega
  obtain ⟨q, hqe⟩ : ∃ q, hq (headG ⟨gc, gs, gn, gl, gk⟩ (zs.take 128)) = q := ⟨_, rfl⟩
  obtain ⟨k, hke⟩ : ∃ q, hk (headG ⟨gc, gs, gn, gl, gk⟩ (zs.take 128)) = q := ⟨_, rfl⟩
  obtain ⟨xs, hxe⟩ : ∃ q, hl (headG ⟨gc, gs, gn, gl, gk⟩ (zs.take 128)) = q := ⟨_, rfl⟩
  obtain ⟨s, hse⟩ : ∃ q, hs_ (headG ⟨gc, gs, gn, gl, gk⟩ (zs.take 128)) = q := ⟨_, rfl⟩
  obtain ⟨e, hee⟩ : ∃ q, he_ (headG ⟨gc, gs, gn, gl, gk⟩ (zs.take 128)) = q := ⟨_, rfl⟩
  have HC1 := hid (fun W (hi : IsB W A l c zs) (ht : TabAt W) => head_u gc gs gn gl gk A 128 c (zs.take 128) W q k xs s e HS.out HM.out (isB_take hi hl128) ht hqe hke hxe hse hee)
  have hc128 : (128 : Int) ≤ c := by omega
  obtain ⟨g0, g1, g2, g3, g4⟩ := P0.out.cells
  have HP1 := hid P1
  have HEQ := hid (And.intro hqe (And.intro hke (And.intro hxe (And.intro hse hee))))
  have hGL : G + 1 < w1.heap.size := Blk.lt P1
  clear P1 hqe hke hxe hse hee
  have FW : Hid (Fr No w1 w1) := hid (Fr.refl No _)
  go_cut [7, 8, 9] (fun p s' e' wx => CutI w1 q k xs (.int .u32 s) (.int .i64 e) p s' e' wx)
  case first =>
    have FW := kd FW
    refine wp_region_noPanic ?_
    refine wp_region_held_drew (S := (fun W' => W'.cell? ⟨G, 0, none⟩ = some (.int .i64 gc) ∧ W'.cell? ⟨G, 1, none⟩ = some (.int .i64 gs) ∧ W'.cell? ⟨G, 2, none⟩ = some (.int .i64 gn) ∧ W'.cell? ⟨G, 3, none⟩ = some (.int .i64 gl) ∧ W'.cell? ⟨G, 4, none⟩ = some (.int .i64 gk) ∧ Hid (Fr No w1 W'))) (by kernel_rfl) ?_ (fun hHeld => ?_)
    · (try dsimp only); (first | (go_split_ands; exact ⟨kc f (by assumption), kc f (by assumption), kc f (by assumption), kc f (by assumption), kc f (by assumption), by assumption⟩) | (go_split_ands; exact ⟨(by assumption), (by assumption), (by assumption), (by assumption), (by assumption), by assumption⟩) | (go_split_ands; exact ⟨kc (fr1 _ _) (by assumption), kc (fr1 _ _) (by assumption), kc (fr1 _ _) (by assumption), kc (fr1 _ _) (by assumption), kc (fr1 _ _) (by assumption), kfa (by assumption)⟩) | (go_split_ands; exact ⟨kc (fr1d _ _) (by assumption), kc (fr1d _ _) (by assumption), kc (fr1d _ _) (by assumption), kc (fr1d _ _) (by assumption), kc (fr1d _ _) (by assumption), kfae (by assumption)⟩) | (exact ⟨kcs hf2 (by simp only []; omega) hHeld.1, kcs hf2 (by simp only []; omega) hHeld.2.1, kcs hf2 (by simp only []; omega) hHeld.2.2.1, kcs hf2 (by simp only []; omega) hHeld.2.2.2.1, kcs hf2 (by simp only []; omega) hHeld.2.2.2.2.1, kfg (by omega) FW hf2⟩) | (exact ⟨kcs hf2 (by simp only []; omega) hHeld.1, kcs hf2 (by simp only []; omega) hHeld.2.1, kcs hf2 (by simp only []; omega) hHeld.2.2.1, kcs hf2 (by simp only []; omega) hHeld.2.2.2.1, kcs hf2 (by simp only []; omega) hHeld.2.2.2.2.1, kfg (by omega) hHeld.2.2.2.2.2 hf2⟩) | (go_split_ands; exact ⟨kcs hf2 (by simp only []; omega) (by assumption), kcs hf2 (by simp only []; omega) (by assumption), kcs hf2 (by simp only []; omega) (by assumption), kcs hf2 (by simp only []; omega) (by assumption), kcs hf2 (by simp only []; omega) (by assumption), kfg (by omega) (by assumption) hf2⟩))
    refine wpAnyH_take (i := 0) (v := ?v1) rfl (by kernel_rfl) (by kernel_rfl) (by kernel_rfl) (fun _ _ _ h => h) (Or.inl ⟨by kernel_rfl, ?y1⟩) (by assumption) ?_
    case y1 => (intro w hSw; (try dsimp only at hSw); go_simp; all_goals with_reducible rfl)
    try simp only [Act.put, List.getElem_toArray, List.getElem_cons_zero, List.setIfInBounds_toArray, List.set_cons_zero, List.set_cons_succ]
    refine wpAnyH_take (i := 1) (v := ?v2) rfl (by kernel_rfl) (by kernel_rfl) (by kernel_rfl) (fun _ _ _ h => h) (Or.inl ⟨by kernel_rfl, ?y2⟩) (by assumption) ?_
    case y2 => (intro w hSw; (try dsimp only at hSw); go_simp; all_goals with_reducible rfl)
    try simp only [Act.put, List.getElem_toArray, List.getElem_cons_succ, List.getElem_cons_zero, List.setIfInBounds_toArray, List.set_cons_zero, List.set_cons_succ]
    refine wpAnyH_take (i := 2) (v := ?v3) rfl (by kernel_rfl) (by kernel_rfl) (by kernel_rfl) (fun _ _ _ h => h) (Or.inl ⟨by kernel_rfl, ?y3⟩) (by assumption) ?_
    case y3 => (intro w hSw; (try dsimp only at hSw); go_simp; all_goals with_reducible rfl)
    try simp only [Act.put, List.getElem_toArray, List.getElem_cons_succ, List.getElem_cons_zero, List.setIfInBounds_toArray, List.set_cons_zero, List.set_cons_succ]
    refine wpAnyH_ready (rs := [3, 8]) (by kernel_rfl) (by simp) (AllReadyH.cons rfl (fun K hK => ?_) (AllReadyH.cons rfl (fun K hK => ?_) AllReadyH.nil))
    · go_simp
      go_at_call 14
      refine (HC1.out _ (HI.out.fr hHeld.2.2.2.2.2.out) (HT1.out.fr hHeld.2.2.2.2.2.out (fun h => h))).mono ?_
      rintro e W1 ⟨Ah, ch, rfl, hxs, hlim, hfr, f⟩
      have FW := kf f hHeld.2.2.2.2.2
      have HXS := hid hxs
      have HLM := hid hlim
      have HFQ := hid (fun g o h => Nat.le_trans (show w1.heap.size ≤ _ from by first | exact hszA | exact Nat.le_refl _) (hfr g o h))
      (try have MX := hid (Blk.fr MX.out f (fun h => h)))
      have hsz1 : w1.heap.size ≤ W1.heap.size := (by first | exact f.size | (have q1 := f.size; have q2 := hszA; omega))
      have HGX := hid (rdS_gx HXS.out hfr)
      dsimp only
      refine hK.out _ _ ?_ (fun hHeld => ?_)
      · (try dsimp only); (first | (go_split_ands; exact ⟨kc f (by assumption), kc f (by assumption), kc f (by assumption), kc f (by assumption), kc f (by assumption), by assumption⟩) | (go_split_ands; exact ⟨(by assumption), (by assumption), (by assumption), (by assumption), (by assumption), by assumption⟩) | (go_split_ands; exact ⟨kc (fr1 _ _) (by assumption), kc (fr1 _ _) (by assumption), kc (fr1 _ _) (by assumption), kc (fr1 _ _) (by assumption), kc (fr1 _ _) (by assumption), kfa (by assumption)⟩) | (go_split_ands; exact ⟨kc (fr1d _ _) (by assumption), kc (fr1d _ _) (by assumption), kc (fr1d _ _) (by assumption), kc (fr1d _ _) (by assumption), kc (fr1d _ _) (by assumption), kfae (by assumption)⟩) | (exact ⟨kcs hf2 (by simp only []; omega) hHeld.1, kcs hf2 (by simp only []; omega) hHeld.2.1, kcs hf2 (by simp only []; omega) hHeld.2.2.1, kcs hf2 (by simp only []; omega) hHeld.2.2.2.1, kcs hf2 (by simp only []; omega) hHeld.2.2.2.2.1, kfg (by omega) FW hf2⟩) | (exact ⟨kcs hf2 (by simp only []; omega) hHeld.1, kcs hf2 (by simp only []; omega) hHeld.2.1, kcs hf2 (by simp only []; omega) hHeld.2.2.1, kcs hf2 (by simp only []; omega) hHeld.2.2.2.1, kcs hf2 (by simp only []; omega) hHeld.2.2.2.2.1, kfg (by omega) hHeld.2.2.2.2.2 hf2⟩) | (go_split_ands; exact ⟨kcs hf2 (by simp only []; omega) (by assumption), kcs hf2 (by simp only []; omega) (by assumption), kcs hf2 (by simp only []; omega) (by assumption), kcs hf2 (by simp only []; omega) (by assumption), kcs hf2 (by simp only []; omega) (by assumption), kfg (by omega) (by assumption) hf2⟩))
      clear hK K
      try simp only [Act.put, List.getElem_toArray, List.getElem_cons_succ, List.getElem_cons_zero, List.setIfInBounds_toArray, List.set_cons_zero, List.set_cons_succ]
      refine wpAnyH_take (i := 4) (v := ?v4) rfl (by kernel_rfl) (by kernel_rfl) (by kernel_rfl) (fun _ _ _ h => h) (Or.inl ⟨by kernel_rfl, ?y4⟩) (by assumption) ?_
      case y4 => (intro w hSw; (try dsimp only at hSw); go_simp; all_goals with_reducible rfl)
      try simp only [Act.put, List.getElem_toArray, List.getElem_cons_succ, List.getElem_cons_zero, List.setIfInBounds_toArray, List.set_cons_zero, List.set_cons_succ]
      refine wpAnyH_take (i := 5) (v := ?v5) rfl (by kernel_rfl) (by kernel_rfl) (by kernel_rfl) (fun _ _ _ h => h) (Or.inl ⟨by kernel_rfl, ?y5⟩) (by assumption) ?_
      case y5 => (intro w hSw; (try dsimp only at hSw); go_simp; all_goals with_reducible rfl)
      try simp only [Act.put, List.getElem_toArray, List.getElem_cons_succ, List.getElem_cons_zero, List.setIfInBounds_toArray, List.set_cons_zero, List.set_cons_succ]
      refine wpAnyH_take (i := 6) (v := ?v6) rfl (by kernel_rfl) (by kernel_rfl) (by kernel_rfl) (fun _ _ _ h => h) (Or.inl ⟨by kernel_rfl, ?y6⟩) (by assumption) ?_
      case y6 => (intro w hSw; (try dsimp only at hSw); go_simp; all_goals with_reducible rfl)
      try simp only [Act.put, List.getElem_toArray, List.getElem_cons_succ, List.getElem_cons_zero, List.setIfInBounds_toArray, List.set_cons_zero, List.set_cons_succ]
      refine wpAnyH_take (i := 7) (v := ?v7) rfl (by kernel_rfl) (by kernel_rfl) (by kernel_rfl) (fun _ _ _ h => h) (Or.inl ⟨by kernel_rfl, ?y7⟩) (by assumption) ?_
      case y7 => (intro w hSw; (try dsimp only at hSw); go_simp; all_goals with_reducible rfl)
      try simp only [Act.put, List.getElem_toArray, List.getElem_cons_succ, List.getElem_cons_zero, List.setIfInBounds_toArray, List.set_cons_zero, List.set_cons_succ]
      refine wpAnyH_ready (rs := [8]) (by kernel_rfl) (by simp) (AllReadyH.cons rfl (fun K hK => ?_) AllReadyH.nil)
      go_simp
      refine hK.out _ _ ?_ (fun hHeld => ?_)
      · (try dsimp only); (first | (go_split_ands; exact ⟨kc f (by assumption), kc f (by assumption), kc f (by assumption), kc f (by assumption), kc f (by assumption), by assumption⟩) | (go_split_ands; exact ⟨(by assumption), (by assumption), (by assumption), (by assumption), (by assumption), by assumption⟩) | (go_split_ands; exact ⟨kc (fr1 _ _) (by assumption), kc (fr1 _ _) (by assumption), kc (fr1 _ _) (by assumption), kc (fr1 _ _) (by assumption), kc (fr1 _ _) (by assumption), kfa (by assumption)⟩) | (go_split_ands; exact ⟨kc (fr1d _ _) (by assumption), kc (fr1d _ _) (by assumption), kc (fr1d _ _) (by assumption), kc (fr1d _ _) (by assumption), kc (fr1d _ _) (by assumption), kfae (by assumption)⟩) | (exact ⟨kcs hf2 (by simp only []; omega) hHeld.1, kcs hf2 (by simp only []; omega) hHeld.2.1, kcs hf2 (by simp only []; omega) hHeld.2.2.1, kcs hf2 (by simp only []; omega) hHeld.2.2.2.1, kcs hf2 (by simp only []; omega) hHeld.2.2.2.2.1, kfg (by omega) FW hf2⟩) | (exact ⟨kcs hf2 (by simp only []; omega) hHeld.1, kcs hf2 (by simp only []; omega) hHeld.2.1, kcs hf2 (by simp only []; omega) hHeld.2.2.1, kcs hf2 (by simp only []; omega) hHeld.2.2.2.1, kcs hf2 (by simp only []; omega) hHeld.2.2.2.2.1, kfg (by omega) hHeld.2.2.2.2.2 hf2⟩) | (go_split_ands; exact ⟨kcs hf2 (by simp only []; omega) (by assumption), kcs hf2 (by simp only []; omega) (by assumption), kcs hf2 (by simp only []; omega) (by assumption), kcs hf2 (by simp only []; omega) (by assumption), kcs hf2 (by simp only []; omega) (by assumption), kfg (by omega) (by assumption) hf2⟩))
      clear hK K
      try simp only [Act.put, List.getElem_toArray, List.getElem_cons_succ, List.getElem_cons_zero, List.setIfInBounds_toArray, List.set_cons_zero, List.set_cons_succ]
      have MX := hid (Blk.new W1 26 #[.int .i64 0, .int .i64 0, .slice none 0 0]); have HXS := hid (HXS.out.fr (fr1 W1 (.cells #[.int .i64 0, .int .i64 0, .slice none 0 0] 26)))
      refine wpAnyH_ready (rs := [9]) (by kernel_rfl) (by simp) (AllReadyH.cons rfl (fun K hK => ?_) AllReadyH.nil)
      refine st_bt_step rfl (.tmp 7) (.tmp 26) rfl _ rfl rfl (by simp [Value.oneCell']) MX.out rfl ?_
      intro W2 hb2 hf2
      refine hK.out _ _ ?_ (fun hHeld => ?_)
      · (try dsimp only); (first | (go_split_ands; exact ⟨kc f (by assumption), kc f (by assumption), kc f (by assumption), kc f (by assumption), kc f (by assumption), by assumption⟩) | (go_split_ands; exact ⟨(by assumption), (by assumption), (by assumption), (by assumption), (by assumption), by assumption⟩) | (go_split_ands; exact ⟨kc (fr1 _ _) (by assumption), kc (fr1 _ _) (by assumption), kc (fr1 _ _) (by assumption), kc (fr1 _ _) (by assumption), kc (fr1 _ _) (by assumption), kfa (by assumption)⟩) | (go_split_ands; exact ⟨kc (fr1d _ _) (by assumption), kc (fr1d _ _) (by assumption), kc (fr1d _ _) (by assumption), kc (fr1d _ _) (by assumption), kc (fr1d _ _) (by assumption), kfae (by assumption)⟩) | (exact ⟨kcs hf2 (by simp only []; omega) hHeld.1, kcs hf2 (by simp only []; omega) hHeld.2.1, kcs hf2 (by simp only []; omega) hHeld.2.2.1, kcs hf2 (by simp only []; omega) hHeld.2.2.2.1, kcs hf2 (by simp only []; omega) hHeld.2.2.2.2.1, kfg (by omega) FW hf2⟩) | (exact ⟨kcs hf2 (by simp only []; omega) hHeld.1, kcs hf2 (by simp only []; omega) hHeld.2.1, kcs hf2 (by simp only []; omega) hHeld.2.2.1, kcs hf2 (by simp only []; omega) hHeld.2.2.2.1, kcs hf2 (by simp only []; omega) hHeld.2.2.2.2.1, kfg (by omega) hHeld.2.2.2.2.2 hf2⟩) | (go_split_ands; exact ⟨kcs hf2 (by simp only []; omega) (by assumption), kcs hf2 (by simp only []; omega) (by assumption), kcs hf2 (by simp only []; omega) (by assumption), kcs hf2 (by simp only []; omega) (by assumption), kcs hf2 (by simp only []; omega) (by assumption), kfg (by omega) (by assumption) hf2⟩))
      clear hK K
      try simp only [Act.put, List.getElem_toArray, List.getElem_cons_succ, List.getElem_cons_zero]
      have FW := hHeld.2.2.2.2.2; have MX := hid hb2; have hne : w1.heap.size ≤ W1.heap.size := (by omega); have HX2 := hid (rdS_lo3 HXS.out hf2 (fun h0 g o hA e => by have q1 := HGX.out h0 g o hA; have e : g = W1.heap.size := e; (try rw [World.size_alloc] at q1); omega)); clear hf2 hb2
      refine wpAnyH_take (i := 10) (v := ?v8) rfl (by kernel_rfl) (by kernel_rfl) (by kernel_rfl) (fun _ _ _ h => h) (Or.inl ⟨by kernel_rfl, ?y8⟩) (by assumption) ?_
      case y8 => (intro w hSw; (try dsimp only at hSw); go_simp; all_goals with_reducible rfl)
      try simp only [Act.put, List.getElem_toArray, List.getElem_cons_succ, List.getElem_cons_zero, List.setIfInBounds_toArray, List.set_cons_zero, List.set_cons_succ]
      refine wpAnyH_take (i := 11) (v := ?v9) rfl (by kernel_rfl) (by kernel_rfl) (by kernel_rfl) (fun _ _ _ h => h) (Or.inl ⟨by kernel_rfl, ?y9⟩) (by assumption) ?_
      case y9 => (intro w hSw; (try dsimp only at hSw); go_simp; all_goals with_reducible rfl)
      try simp only [Act.put, List.getElem_toArray, List.getElem_cons_succ, List.getElem_cons_zero, List.setIfInBounds_toArray, List.set_cons_zero, List.set_cons_succ]
      refine wpAnyH_done (by kernel_rfl) ?_ _
      refine NoPanic.normal ?_
      go_wp2_with fail
      go_meet
      case rel => (try refine ⟨_, _, _, ?_, rfl, rfl, rfl⟩); exact ⟨_, _, _, rfl, rfl, rfl, MX.out, hne, HX2.out, HLM.out, HFQ.out, FW.out⟩
    · go_simp
      refine hK.out _ _ ?_ (fun hHeld => ?_)
      · (try dsimp only); (first | (go_split_ands; exact ⟨kc f (by assumption), kc f (by assumption), kc f (by assumption), kc f (by assumption), kc f (by assumption), by assumption⟩) | (go_split_ands; exact ⟨(by assumption), (by assumption), (by assumption), (by assumption), (by assumption), by assumption⟩) | (go_split_ands; exact ⟨kc (fr1 _ _) (by assumption), kc (fr1 _ _) (by assumption), kc (fr1 _ _) (by assumption), kc (fr1 _ _) (by assumption), kc (fr1 _ _) (by assumption), kfa (by assumption)⟩) | (go_split_ands; exact ⟨kc (fr1d _ _) (by assumption), kc (fr1d _ _) (by assumption), kc (fr1d _ _) (by assumption), kc (fr1d _ _) (by assumption), kc (fr1d _ _) (by assumption), kfae (by assumption)⟩) | (exact ⟨kcs hf2 (by simp only []; omega) hHeld.1, kcs hf2 (by simp only []; omega) hHeld.2.1, kcs hf2 (by simp only []; omega) hHeld.2.2.1, kcs hf2 (by simp only []; omega) hHeld.2.2.2.1, kcs hf2 (by simp only []; omega) hHeld.2.2.2.2.1, kfg (by omega) FW hf2⟩) | (exact ⟨kcs hf2 (by simp only []; omega) hHeld.1, kcs hf2 (by simp only []; omega) hHeld.2.1, kcs hf2 (by simp only []; omega) hHeld.2.2.1, kcs hf2 (by simp only []; omega) hHeld.2.2.2.1, kcs hf2 (by simp only []; omega) hHeld.2.2.2.2.1, kfg (by omega) hHeld.2.2.2.2.2 hf2⟩) | (go_split_ands; exact ⟨kcs hf2 (by simp only []; omega) (by assumption), kcs hf2 (by simp only []; omega) (by assumption), kcs hf2 (by simp only []; omega) (by assumption), kcs hf2 (by simp only []; omega) (by assumption), kcs hf2 (by simp only []; omega) (by assumption), kfg (by omega) (by assumption) hf2⟩))
      clear hK K
      try simp only [Act.put, List.getElem_toArray, List.getElem_cons_succ, List.getElem_cons_zero, List.setIfInBounds_toArray, List.set_cons_zero, List.set_cons_succ]
      have MX := hid (show Blk (w1.alloc (.cells #[.int .i64 0, .int .i64 0, .slice none 0 0] 26)).drew w1.heap.size 26 #[.int .i64 0, .int .i64 0, .slice none 0 0] from Blk.new w1 _ _); have hszA : w1.heap.size ≤ (w1.alloc (.cells #[.int .i64 0, .int .i64 0, .slice none 0 0] 26)).drew.heap.size := (by show w1.heap.size ≤ (w1.alloc (.cells #[.int .i64 0, .int .i64 0, .slice none 0 0] 26)).heap.size; rw [World.size_alloc]; omega); have hszA2 : w1.heap.size + 1 ≤ (w1.alloc (.cells #[.int .i64 0, .int .i64 0, .slice none 0 0] 26)).drew.heap.size := (by show w1.heap.size + 1 ≤ (w1.alloc (.cells #[.int .i64 0, .int .i64 0, .slice none 0 0] 26)).heap.size; rw [World.size_alloc]; exact Nat.le_refl _)
      refine wpAnyH_ready (rs := [3]) (by kernel_rfl) (by simp) (AllReadyH.cons rfl (fun K hK => ?_) AllReadyH.nil)
      go_simp
      go_at_call 14
      refine (HC1.out _ (HI.out.fr hHeld.2.2.2.2.2.out) (HT1.out.fr hHeld.2.2.2.2.2.out (fun h => h))).mono ?_
      rintro e W1 ⟨Ah, ch, rfl, hxs, hlim, hfr, f⟩
      have FW := kf f hHeld.2.2.2.2.2
      have HXS := hid hxs
      have HLM := hid hlim
      have HFQ := hid (fun g o h => Nat.le_trans (show w1.heap.size ≤ _ from by first | exact hszA | exact Nat.le_refl _) (hfr g o h))
      (try have MX := hid (Blk.fr MX.out f (fun h => h)))
      have hsz1 : w1.heap.size ≤ W1.heap.size := (by first | exact f.size | (have q1 := f.size; have q2 := hszA; omega))
      have HGX := hid (rdS_gx HXS.out hfr)
      dsimp only
      refine hK.out _ _ ?_ (fun hHeld => ?_)
      · (try dsimp only); (first | (go_split_ands; exact ⟨kc f (by assumption), kc f (by assumption), kc f (by assumption), kc f (by assumption), kc f (by assumption), by assumption⟩) | (go_split_ands; exact ⟨(by assumption), (by assumption), (by assumption), (by assumption), (by assumption), by assumption⟩) | (go_split_ands; exact ⟨kc (fr1 _ _) (by assumption), kc (fr1 _ _) (by assumption), kc (fr1 _ _) (by assumption), kc (fr1 _ _) (by assumption), kc (fr1 _ _) (by assumption), kfa (by assumption)⟩) | (go_split_ands; exact ⟨kc (fr1d _ _) (by assumption), kc (fr1d _ _) (by assumption), kc (fr1d _ _) (by assumption), kc (fr1d _ _) (by assumption), kc (fr1d _ _) (by assumption), kfae (by assumption)⟩) | (exact ⟨kcs hf2 (by simp only []; omega) hHeld.1, kcs hf2 (by simp only []; omega) hHeld.2.1, kcs hf2 (by simp only []; omega) hHeld.2.2.1, kcs hf2 (by simp only []; omega) hHeld.2.2.2.1, kcs hf2 (by simp only []; omega) hHeld.2.2.2.2.1, kfg (by omega) FW hf2⟩) | (exact ⟨kcs hf2 (by simp only []; omega) hHeld.1, kcs hf2 (by simp only []; omega) hHeld.2.1, kcs hf2 (by simp only []; omega) hHeld.2.2.1, kcs hf2 (by simp only []; omega) hHeld.2.2.2.1, kcs hf2 (by simp only []; omega) hHeld.2.2.2.2.1, kfg (by omega) hHeld.2.2.2.2.2 hf2⟩) | (go_split_ands; exact ⟨kcs hf2 (by simp only []; omega) (by assumption), kcs hf2 (by simp only []; omega) (by assumption), kcs hf2 (by simp only []; omega) (by assumption), kcs hf2 (by simp only []; omega) (by assumption), kcs hf2 (by simp only []; omega) (by assumption), kfg (by omega) (by assumption) hf2⟩))
      clear hK K
      try simp only [Act.put, List.getElem_toArray, List.getElem_cons_succ, List.getElem_cons_zero, List.setIfInBounds_toArray, List.set_cons_zero, List.set_cons_succ]
      refine wpAnyH_take (i := 4) (v := ?v10) rfl (by kernel_rfl) (by kernel_rfl) (by kernel_rfl) (fun _ _ _ h => h) (Or.inl ⟨by kernel_rfl, ?y10⟩) (by assumption) ?_
      case y10 => (intro w hSw; (try dsimp only at hSw); go_simp; all_goals with_reducible rfl)
      try simp only [Act.put, List.getElem_toArray, List.getElem_cons_succ, List.getElem_cons_zero, List.setIfInBounds_toArray, List.set_cons_zero, List.set_cons_succ]
      refine wpAnyH_take (i := 5) (v := ?v11) rfl (by kernel_rfl) (by kernel_rfl) (by kernel_rfl) (fun _ _ _ h => h) (Or.inl ⟨by kernel_rfl, ?y11⟩) (by assumption) ?_
      case y11 => (intro w hSw; (try dsimp only at hSw); go_simp; all_goals with_reducible rfl)
      try simp only [Act.put, List.getElem_toArray, List.getElem_cons_succ, List.getElem_cons_zero, List.setIfInBounds_toArray, List.set_cons_zero, List.set_cons_succ]
      refine wpAnyH_take (i := 6) (v := ?v12) rfl (by kernel_rfl) (by kernel_rfl) (by kernel_rfl) (fun _ _ _ h => h) (Or.inl ⟨by kernel_rfl, ?y12⟩) (by assumption) ?_
      case y12 => (intro w hSw; (try dsimp only at hSw); go_simp; all_goals with_reducible rfl)
      try simp only [Act.put, List.getElem_toArray, List.getElem_cons_succ, List.getElem_cons_zero, List.setIfInBounds_toArray, List.set_cons_zero, List.set_cons_succ]
      refine wpAnyH_take (i := 7) (v := ?v13) rfl (by kernel_rfl) (by kernel_rfl) (by kernel_rfl) (fun _ _ _ h => h) (Or.inl ⟨by kernel_rfl, ?y13⟩) (by assumption) ?_
      case y13 => (intro w hSw; (try dsimp only at hSw); go_simp; all_goals with_reducible rfl)
      try simp only [Act.put, List.getElem_toArray, List.getElem_cons_succ, List.getElem_cons_zero, List.setIfInBounds_toArray, List.set_cons_zero, List.set_cons_succ]
      refine wpAnyH_ready (rs := [9]) (by kernel_rfl) (by simp) (AllReadyH.cons rfl (fun K hK => ?_) AllReadyH.nil)
      refine st_bt_step rfl (.tmp 7) (.tmp 26) rfl _ rfl rfl (by simp [Value.oneCell']) MX.out rfl ?_
      intro W2 hb2 hf2
      refine hK.out _ _ ?_ (fun hHeld => ?_)
      · (try dsimp only); (first | (go_split_ands; exact ⟨kc f (by assumption), kc f (by assumption), kc f (by assumption), kc f (by assumption), kc f (by assumption), by assumption⟩) | (go_split_ands; exact ⟨(by assumption), (by assumption), (by assumption), (by assumption), (by assumption), by assumption⟩) | (go_split_ands; exact ⟨kc (fr1 _ _) (by assumption), kc (fr1 _ _) (by assumption), kc (fr1 _ _) (by assumption), kc (fr1 _ _) (by assumption), kc (fr1 _ _) (by assumption), kfa (by assumption)⟩) | (go_split_ands; exact ⟨kc (fr1d _ _) (by assumption), kc (fr1d _ _) (by assumption), kc (fr1d _ _) (by assumption), kc (fr1d _ _) (by assumption), kc (fr1d _ _) (by assumption), kfae (by assumption)⟩) | (exact ⟨kcs hf2 (by simp only []; omega) hHeld.1, kcs hf2 (by simp only []; omega) hHeld.2.1, kcs hf2 (by simp only []; omega) hHeld.2.2.1, kcs hf2 (by simp only []; omega) hHeld.2.2.2.1, kcs hf2 (by simp only []; omega) hHeld.2.2.2.2.1, kfg (by omega) FW hf2⟩) | (exact ⟨kcs hf2 (by simp only []; omega) hHeld.1, kcs hf2 (by simp only []; omega) hHeld.2.1, kcs hf2 (by simp only []; omega) hHeld.2.2.1, kcs hf2 (by simp only []; omega) hHeld.2.2.2.1, kcs hf2 (by simp only []; omega) hHeld.2.2.2.2.1, kfg (by omega) hHeld.2.2.2.2.2 hf2⟩) | (go_split_ands; exact ⟨kcs hf2 (by simp only []; omega) (by assumption), kcs hf2 (by simp only []; omega) (by assumption), kcs hf2 (by simp only []; omega) (by assumption), kcs hf2 (by simp only []; omega) (by assumption), kcs hf2 (by simp only []; omega) (by assumption), kfg (by omega) (by assumption) hf2⟩))
      clear hK K
      try simp only [Act.put, List.getElem_toArray, List.getElem_cons_succ, List.getElem_cons_zero]
      have FW := hHeld.2.2.2.2.2; have MX := hid hb2; have hne : w1.heap.size ≤ w1.heap.size := (by omega); have HX2 := hid (rdS_lo3 HXS.out hf2 (fun h0 g o hA e => by have q1 := HGX.out h0 g o hA; have e : g = w1.heap.size := e; (try rw [World.size_alloc] at q1); omega)); clear hf2 hb2
      refine wpAnyH_take (i := 10) (v := ?v14) rfl (by kernel_rfl) (by kernel_rfl) (by kernel_rfl) (fun _ _ _ h => h) (Or.inl ⟨by kernel_rfl, ?y14⟩) (by assumption) ?_
      case y14 => (intro w hSw; (try dsimp only at hSw); go_simp; all_goals with_reducible rfl)
      try simp only [Act.put, List.getElem_toArray, List.getElem_cons_succ, List.getElem_cons_zero, List.setIfInBounds_toArray, List.set_cons_zero, List.set_cons_succ]
      refine wpAnyH_take (i := 11) (v := ?v15) rfl (by kernel_rfl) (by kernel_rfl) (by kernel_rfl) (fun _ _ _ h => h) (Or.inl ⟨by kernel_rfl, ?y15⟩) (by assumption) ?_
      case y15 => (intro w hSw; (try dsimp only at hSw); go_simp; all_goals with_reducible rfl)
      try simp only [Act.put, List.getElem_toArray, List.getElem_cons_succ, List.getElem_cons_zero, List.setIfInBounds_toArray, List.set_cons_zero, List.set_cons_succ]
      refine wpAnyH_done (by kernel_rfl) ?_ _
      refine NoPanic.normal ?_
      go_wp2_with fail
      go_meet
      case rel => (try refine ⟨_, _, _, ?_, rfl, rfl, rfl⟩); exact ⟨_, _, _, rfl, rfl, rfl, MX.out, hne, HX2.out, HLM.out, HFQ.out, FW.out⟩
  case rest =>
    clear g0 g1 g2 g3 g4
    obtain ⟨M, Ah, ch, rfl, rfl, rfl, hB, hM, hx, hlim, hfr, hf⟩ := hcut
    have P1' := hid (Blk.fr HP1.out hf (fun h => h))
    have FR := hid hf
    replace FG := hid (FG.out.trans hf)
    have HBM := hid hB
    have HXS := hid hx
    have HLM := hid hlim
    have HFR := hid (show ∀ g o, Ah = some ⟨g, o, none⟩ → w.heap.size ≤ g ∧ g ≠ G + 1 from fun g o h => by have q1 := hfr g o h; have := HG.out; omega)
    have HMM := hid hM
    obtain ⟨b0, b1, b2⟩ := BB.cells hB
    clear hf hB hx hlim hfr hM HC1 hGL HP1
    cases ho : headG ⟨gc, gs, gn, gl, gk⟩ (zs.take 128) with
    | none =>
      obtain rfl : e = 10 := by have := HEQ.out.2.2.2.2; rw [ho] at this; exact this.symm
      obtain rfl : V = none := by
        rw [← hV]
        unfold beginG
        rw [if_neg (fun h => by rcases h with h | h; (rw [HLEN.out] at h; omega); exact h (by rw [HLEN.out]; exact hr)), ho]
      clear hV
      go_wp2_with (refine st_bt rfl (.tmp 4) (.tmp 39) rfl (G + 1) rfl rfl (by simp [Value.oneCell']) P1'.out rfl ?_; intro w9 HQ9 f9; have HF9 := hid (FG.out.step f9 (fun i hi e => by have := HG.out; omega)); clear f9)
      exact bodyPost_ret (v := .tuple #[bv 0 0 none 0 0, .slice none 0 0, .bool false]) (resH rfl _ _ (G + 1) 0 0 none 0 0 (.slice none 0 0) (.bool false) rfl rfl rfl HQ9) rfl ⟨rfl, HF9.out⟩
    | some r =>
      obtain ⟨⟨q', k', xs'⟩, s'⟩ := r
      obtain ⟨h1, h2, h3, h4, h5⟩ := HEQ.out
      rw [ho] at h1 h2 h3 h4 h5
      obtain rfl : q' = q := h1
      obtain rfl : k' = k := h2
      obtain rfl : xs' = xs := h3
      obtain rfl : s' = s := h4
      obtain rfl : (0 : Int) = e := h5
      obtain ⟨hop, hmb⟩ := headG_some ho
      have HFT := hid (headP_fits (fun x hx => HI.out.2.2.2 x (List.mem_of_mem_take hx)) hop)
      have HWF := hid HFT.out.wf
      have hds := mayB_dsec hmb
      dsimp only at hds
      have hdt : 0 ≤ dsec k' xs' ∧ dsec k' xs' ≤ 32768 := by
        rw [hds]
        have := mayB_tn hmb
        dsimp only at this
        unfold size_
        split <;> omega
      obtain ⟨N, hN⟩ : ∃ N : Nat, dsec k' xs' = (N : Int) := ⟨(dsec k' xs').toNat, by omega⟩
      have hN2 : N ≤ 32768 := by omega
      have HVV := hid (show V = if l < 128 + N * 128 then none else if (onN 0 ((zs.drop 128).take (N * 128)) : Int) = s' then some ((⟨q', k', xs'⟩ : Ba), (zs.drop 128).take (N * 128)) else none by
        rw [← hV]
        unfold beginG
        rw [if_neg (fun h => by rcases h with h | h; (rw [HLEN.out] at h; omega); exact h (by rw [HLEN.out]; exact hr)), ho]
        dsimp only
        rw [hN, HLEN.out]
        rfl)
      have HSE := hid (show ∀ W, RdS W Ah xs'.length xs' → Calls Tryd.prog 11 #[bv q' k' Ah xs'.length ch] W fun e w' => e = .returned (.int .i64 (1 + (N : Int))) ∧ Fr No W w' from fun W hW => by
        have := sectors_ok q' k' Ah xs'.length ch xs' W (by have := HFT.out.n; dsimp only at this; omega) hW HWF.out
        rwa [hN] at this)
      obtain ⟨Hh, hHh⟩ : ∃ h : Nat, 128 + N * 128 = h := ⟨_, rfl⟩
      have hw1 : wrap64 ((1 + (N : Int)) * 128) = (Hh : Int) := (w64 _ (by omega)).trans (by omega)
      rw [hHh] at HVV
      have HHH := hid hHh
      have HHN := hid hN2
      clear hV hop hmb hds hdt hN hN2 hHh
      by_cases hlt : l < Hh
      · have hlb : decide ((l : Int) < (Hh : Int)) = true := decide_eq_true (by omega)
        obtain rfl : V = none := by rw [HVV.out, if_pos hlt]
        clear HVV
        go_wp2_with (first | (go_at_call 11; refine (HSE.out _ HXS.out).mono ?_; rintro e w5 ⟨rfl, f5⟩; replace FG := hid (FG.out.trans f5); replace P1' := hid (Blk.fr P1'.out f5 (fun h => h)); clear f5 b0 b1 b2) | (refine st_bt rfl (.tmp 4) (.tmp 39) rfl (G + 1) rfl rfl (by simp [Value.oneCell']) P1'.out rfl ?_; intro w9 HQ9 f9; have HF9 := hid (FG.out.step f9 (fun i hi e => by have := HG.out; omega)); clear f9))
        exact bodyPost_ret (v := .tuple #[bv 0 0 none 0 0, .slice none 0 0, .bool false]) (resH rfl _ _ (G + 1) 0 0 none 0 0 (.slice none 0 0) (.bool false) rfl rfl rfl HQ9) rfl ⟨rfl, HF9.out⟩
      have hlb : decide ((l : Int) < (Hh : Int)) = false := decide_eq_false (by omega)
      rw [if_neg hlt] at HVV
      have hH1 : (128 : Int) ≤ Hh := by have := HHH.out; omega
      have hH2 : (Hh : Int) ≤ c := by omega
      have HH3 := hid (show Hh ≤ l by omega)
      have HZD := hid (show zs.length = l from HLEN.out)
      obtain ⟨ga, oa, rfl, hga, _⟩ := HB0.out.1.2 (by omega)
      have HIG := hid hga
      have HRD := hid (HI.out.1.cut (k := 128) (c := c) hl128 HCM.out.2)
      obtain ⟨D, hD⟩ : ∃ D, (zs.drop 128).take (N * 128) = D := ⟨_, rfl⟩
      rw [hD] at HVV
      have HDL := hid (show D.length = Hh - 128 by rw [← hD, List.length_take, List.length_drop, HLEN.out]; have := HHH.out; omega)
      have HIB := hid (show IsB w1 (cutA (some ⟨ga, oa, none⟩) c 128) (Hh - 128) (c - 128) D from ⟨by
        have h1 := HRD.out.take (k := Hh - 128) (by have := HH3.out; omega)
        rw [← hD]
        have e : N * 128 = Hh - 128 := by have := HHH.out; omega
        rw [e, List.map_take, List.map_drop]
        exact h1, by have := HH3.out; have := HCM.out.2; omega, by have := HCM.out.1; simp only [maxLen]; omega, fun x hx => HI.out.2.2.2 x (by rw [← hD] at hx; exact List.mem_of_mem_drop (List.mem_of_mem_take hx))⟩)
      clear hD
      by_cases hc : c = 128
      · subst hc
        rw [cutA, if_pos rfl] at HIB
        have hHc : Hh = 128 := by omega
        subst hHc
        go_upto_region 7 with (first | (go_at_call 11; refine (HSE.out _ HXS.out).mono ?_; rintro e w5 ⟨rfl, f5⟩; replace FG := hid (FG.out.trans f5); replace FR := hid (FR.out.trans f5); replace P1' := hid (Blk.fr P1'.out f5 (fun h => h)); replace HBM := hid (BB.fr HBM.out f5); replace HXS := hid (HXS.out.fr f5); clear f5 b0 b1 b2; obtain ⟨b0, b1, b2⟩ := HBM.out.cells) | ((with_reducible refine ld_bt rfl (.tmp 7) rfl M ?_ HBM.out ?_); · rfl))
        by_cases hsm : ((onN 0 D : Nat) : Int) = s'
        · have hsb : (((onN 0 D : Nat) : Int) == s') = true := by simpa using hsm
          have hsb2 : (((onN 0 D : Nat) : Int) != s') = false := by rw [bne, hsb]; rfl
          obtain rfl : V = some ((⟨q', k', xs'⟩ : Ba), D) := by rw [HVV.out, if_pos hsm]
          clear HVV hsm
          go_wp2_with (first | (go_at_call 25; go_loud (refine (sumF _ _ _ D _ (HIB.out.fr FR.out) (HT1.out.fr FR.out (fun h => h))).mono ?_; rintro e w6 ⟨rfl, f6⟩; replace FG := hid (FG.out.trans f6); replace FR := hid (FR.out.trans f6); replace P1' := hid (Blk.fr P1'.out f6 (fun h => h)); replace HBM := hid (BB.fr HBM.out f6); replace HXS := hid (HXS.out.fr f6); clear f6 b0 b1 b2)) | ((with_reducible refine ld_bt rfl (.tmp 7) rfl M ?_ HBM.out ?_); · rfl) | (refine st_bt rfl (.tmp 4) (.tmp 50) rfl (G + 1) rfl rfl (by simp [Value.oneCell']) P1'.out rfl ?_; intro w9 HQ9 f9; have HF9 := hid (FG.out.step f9 (fun i hi e => by have := HG.out; omega)); have HX9 := hid (rdS_lo2 HXS.out f9 (fun g o h e => (HFR.out g o h).2 e)); have HI9 := hid (isB_lo (HIB.out.fr FR.out) f9 (fun g o h e => by cases h; have h1 := HIG.out; have h2 := HG.out; omega)); clear f9))
          exact bodyPost_ret (v := .tuple #[bv q' k' Ah xs'.length ch, .slice _ (128 - 128) _, .bool true]) (resH rfl _ _ (G + 1) q' k' Ah xs'.length ch _ (.bool true) rfl rfl rfl HQ9) rfl ⟨⟨Ah, ch, _, _, by dsimp only; rw [HDL.out], HX9.out, HLM.out, fun g o h => (HFR.out g o h).1, by dsimp only; rw [HDL.out]; exact HI9.out⟩, HF9.out⟩
        · have hsb : (((onN 0 D : Nat) : Int) == s') = false := by simpa using hsm
          have hsb2 : (((onN 0 D : Nat) : Int) != s') = true := by rw [bne, hsb]; rfl
          obtain rfl : V = none := by rw [HVV.out, if_neg hsm]
          clear HVV hsm
          go_wp2_with (first | (go_at_call 25; go_loud (refine (sumF _ _ _ D _ (HIB.out.fr FR.out) (HT1.out.fr FR.out (fun h => h))).mono ?_; rintro e w6 ⟨rfl, f6⟩; replace FG := hid (FG.out.trans f6); replace FR := hid (FR.out.trans f6); replace P1' := hid (Blk.fr P1'.out f6 (fun h => h)); replace HBM := hid (BB.fr HBM.out f6); replace HXS := hid (HXS.out.fr f6); clear f6 b0 b1 b2)) | (refine st_bt rfl (.tmp 4) (.tmp 49) rfl (G + 1) rfl rfl (by simp [Value.oneCell']) P1'.out rfl ?_; intro w9 HQ9 f9; have HF9 := hid (FG.out.step f9 (fun i hi e => by have := HG.out; omega)); clear f9))
          exact bodyPost_ret (v := .tuple #[bv 0 0 none 0 0, .slice none 0 0, .bool false]) (resH rfl _ _ (G + 1) 0 0 none 0 0 (.slice none 0 0) (.bool false) rfl rfl rfl HQ9) rfl ⟨rfl, HF9.out⟩
      · rw [cutA, if_neg hc] at HIB
        have hA : (Option.map (fun x => Addr.add x 128) (some (⟨ga, oa, none⟩ : Addr))) = some ⟨ga, oa + 128, none⟩ := by simp [add_off]
        rw [hA] at HIB
        clear hA
        go_upto_region 7 with (first | (go_at_call 11; refine (HSE.out _ HXS.out).mono ?_; rintro e w5 ⟨rfl, f5⟩; replace FG := hid (FG.out.trans f5); replace FR := hid (FR.out.trans f5); replace P1' := hid (Blk.fr P1'.out f5 (fun h => h)); replace HBM := hid (BB.fr HBM.out f5); replace HXS := hid (HXS.out.fr f5); clear f5 b0 b1 b2; obtain ⟨b0, b1, b2⟩ := HBM.out.cells) | ((with_reducible refine ld_bt rfl (.tmp 7) rfl M ?_ HBM.out ?_); · rfl))
        by_cases hsm : ((onN 0 D : Nat) : Int) = s'
        · have hsb : (((onN 0 D : Nat) : Int) == s') = true := by simpa using hsm
          have hsb2 : (((onN 0 D : Nat) : Int) != s') = false := by rw [bne, hsb]; rfl
          obtain rfl : V = some ((⟨q', k', xs'⟩ : Ba), D) := by rw [HVV.out, if_pos hsm]
          clear HVV hsm
          go_wp2_with (first | (go_at_call 25; go_loud (refine (sumF _ _ _ D _ (HIB.out.fr FR.out) (HT1.out.fr FR.out (fun h => h))).mono ?_; rintro e w6 ⟨rfl, f6⟩; replace FG := hid (FG.out.trans f6); replace FR := hid (FR.out.trans f6); replace P1' := hid (Blk.fr P1'.out f6 (fun h => h)); replace HBM := hid (BB.fr HBM.out f6); replace HXS := hid (HXS.out.fr f6); clear f6 b0 b1 b2)) | ((with_reducible refine ld_bt rfl (.tmp 7) rfl M ?_ HBM.out ?_); · rfl) | (refine st_bt rfl (.tmp 4) (.tmp 50) rfl (G + 1) rfl rfl (by simp [Value.oneCell']) P1'.out rfl ?_; intro w9 HQ9 f9; have HF9 := hid (FG.out.step f9 (fun i hi e => by have := HG.out; omega)); have HX9 := hid (rdS_lo2 HXS.out f9 (fun g o h e => (HFR.out g o h).2 e)); have HI9 := hid (isB_lo (HIB.out.fr FR.out) f9 (fun g o h e => by cases h; have h1 := HIG.out; have h2 := HG.out; omega)); clear f9))
          exact bodyPost_ret (v := .tuple #[bv q' k' Ah xs'.length ch, .slice _ (Hh - 128) _, .bool true]) (resH rfl _ _ (G + 1) q' k' Ah xs'.length ch _ (.bool true) rfl rfl rfl HQ9) rfl ⟨⟨Ah, ch, _, _, by dsimp only; rw [HDL.out], HX9.out, HLM.out, fun g o h => (HFR.out g o h).1, by dsimp only; rw [HDL.out]; exact HI9.out⟩, HF9.out⟩
        · have hsb : (((onN 0 D : Nat) : Int) == s') = false := by simpa using hsm
          have hsb2 : (((onN 0 D : Nat) : Int) != s') = true := by rw [bne, hsb]; rfl
          obtain rfl : V = none := by rw [HVV.out, if_neg hsm]
          clear HVV hsm
          go_wp2_with (first | (go_at_call 25; go_loud (refine (sumF _ _ _ D _ (HIB.out.fr FR.out) (HT1.out.fr FR.out (fun h => h))).mono ?_; rintro e w6 ⟨rfl, f6⟩; replace FG := hid (FG.out.trans f6); replace FR := hid (FR.out.trans f6); replace P1' := hid (Blk.fr P1'.out f6 (fun h => h)); replace HBM := hid (BB.fr HBM.out f6); replace HXS := hid (HXS.out.fr f6); clear f6 b0 b1 b2)) | (refine st_bt rfl (.tmp 4) (.tmp 49) rfl (G + 1) rfl rfl (by simp [Value.oneCell']) P1'.out rfl ?_; intro w9 HQ9 f9; have HF9 := hid (FG.out.step f9 (fun i hi e => by have := HG.out; omega)); clear f9))
          exact bodyPost_ret (v := .tuple #[bv 0 0 none 0 0, .slice none 0 0, .bool false]) (resH rfl _ _ (G + 1) 0 0 none 0 0 (.slice none 0 0) (.bool false) rfl rfl rfl HQ9) rfl ⟨rfl, HF9.out⟩
end Go.Proofs.YtkkbgbpmpcoffaaDoor.BtL
/- Plain facts: what was encoded is decoded, whatever stands behind; of a batch that was cut off there is nothing. Nothing here walks a program. -/
namespace Go.Proofs.YtkkbgbpmpcoffaaDoor.BtP
open Go.RowKit MSep LeX LeW LeR RcM RdA CrcA CrcM CrcE MSpM MGeM BtE BtG BtH BtK BtL
open BtM (Ba mayB mayB_tn mayB_dsec dsec size_ tn spsOk_may)

theorem take_low (n : Nat) (v : Int) (ys : List Int) : (low n v ++ ys).take n = low n v := by
  have := low_len n v
  rw [List.take_append_of_le_length (by omega), List.take_of_length_le (by omega)]
theorem drop_low (n : Nat) (v : Int) (ys : List Int) : (low n v ++ ys).drop n = ys := by
  have := low_len n v
  rw [List.drop_append_of_le_length (by omega), List.drop_of_length_le (by omega)]
  simp
theorem gt_low {n : Nat} {v : Int} {ys : List Int} (h0 : 0 ≤ v) (h1 : v < 256 ^ n) : gt n (some (low n v ++ ys)) = (v, some ys) := by
  have hn : num (low n v) = v := by rw [num_low]; exact Int.emod_eq_of_lt h0 h1
  rw [gt, if_neg (by rw [List.length_append, low_len]; omega), take_low, drop_low, hn]
theorem gi_low {n : Nat} {a b v : Int} {ys : List Int} (h0 : 0 ≤ v) (h1 : v < 256 ^ n) (h2 : v < 9223372036854775808) (ha : a ≤ v) (hb : v ≤ b) : gi n a b (some (low n v ++ ys)) = (v, some ys) := by
  have hn : num (low n v) = v := by rw [num_low]; exact Int.emod_eq_of_lt h0 h1
  have hw : wrap64 v = v := RcM.w64 v ⟨h0, h2⟩
  rw [gi, if_neg (by rw [List.length_append, low_len]; omega), take_low, drop_low, hn, hw, if_pos ⟨ha, hb⟩]
theorem q1 : (256 : Int) ^ 1 = 256 := by decide
theorem q2 : (256 : Int) ^ 2 = 65536 := by decide
theorem q4 : (256 : Int) ^ 4 = 4294967296 := by decide
theorem q8 : (256 : Int) ^ 8 = 18446744073709551616 := by decide
theorem pS_eS {s : Sp} {ys : List Int} (h1 : 0 ≤ s.1 ∧ s.1 ≤ 4294967295) (h2 : 0 ≤ s.2 ∧ s.2 ≤ 65535) : pS (some (eS s ++ ys)) = (s, some ys) := by
  have e : eS s ++ ys = low 4 s.1 ++ (low 2 s.2 ++ (low 2 0 ++ ys)) := by simp [eS, List.append_assoc]
  rw [e]
  unfold pS
  rw [gt_low h1.1 (by rw [q4]; omega)]
  dsimp only
  rw [gt_low h2.1 (by rw [q2]; omega)]
  dsimp only
  rw [gi_low (by decide) (by rw [q2]; decide) (by decide) (by decide) (by decide)]
theorem pSs_fl (l : List Sp) (ys : List Int) (h : ∀ s ∈ l, (0 ≤ s.1 ∧ s.1 ≤ 4294967295) ∧ 0 ≤ s.2 ∧ s.2 ≤ 65535) : ∀ n, n ≤ l.length → pSs n (some (l.flatMap eS ++ ys)) = (l.take n, some ((l.drop n).flatMap eS ++ ys))
  | 0, _ => by simp [pSs]
  | n + 1, hn => by
    obtain ⟨s, hs⟩ : ∃ s, l[n]? = some s := ⟨_, List.getElem?_eq_getElem (show n < l.length by omega)⟩
    have hd : l.drop n = s :: l.drop (n + 1) := by
      have h1 := (List.getElem?_eq_some_iff.1 hs)
      rw [List.drop_eq_getElem_cons h1.1, h1.2]
    have hm := h s (List.mem_of_getElem? hs)
    rw [pSs, pSs_fl l ys h n (by omega)]
    dsimp only
    rw [hd, List.flatMap_cons, List.append_assoc, pS_eS hm.1 hm.2, List.take_add_one, hs]
    rfl
theorem hh_eB {q k s : Int} {l : List Sp} {ys : List Int} (h : Hok q k s l) (h1 : 1 ≤ l.length) : hh (some ((eB q k s l ++ ys).drop 2)) = ⟨k, q, s, l.length, some (l.flatMap eS ++ ys)⟩ := by
  have e : (eB q k s l ++ ys).drop 2 = low 1 k ++ (low 1 (l.length : Int) ++ (low 8 q ++ (low 4 s ++ (l.flatMap eS ++ ys)))) := by
    simp [eB, BtE.eH, List.append_assoc]
  have hq := h.q
  have hk := h.k
  have hs := h.s
  have hn := h.n
  rw [e]
  unfold hh
  rw [gt_low hk.1 (by rw [q1]; omega)]
  dsimp only
  rw [gi_low (by omega) (by rw [q1]; omega) (by omega) (by omega) (by omega)]
  dsimp only
  rw [gt_low hq.1 (by rw [q8]; omega)]
  dsimp only
  rw [gt_low hs.1 (by rw [q4]; omega)]
  dsimp only
  rw [RcM.w64 q hq]
  simp
theorem headP_eB {q k s : Int} {l : List Sp} (h : Hok q k s l) (h1 : 1 ≤ l.length) (hz : ¬ (k = 2 ∧ s ≠ 0)) : headP (seal_ (eB q k s l)) = some (⟨q, k, l⟩, s) := by
  have hl : (eB q k s l).length ≤ 124 := by rw [BtE.eB_len]; have := h.n; omega
  have hs : BtH.secOk (seal_ (eB q k s l)) = true := by
    unfold BtH.secOk
    rw [seal_len hl, CrcG.ld_seal, CrcG.seal_drop]
    simp
  rw [headP, if_pos hs, CrcG.seal_drop]
  unfold hP
  have hm : (rest (eB q k s l)).take 2 = [66, 84] := by
    unfold rest eB BtE.eH
    rfl
  rw [if_pos hm]
  unfold rest
  rw [hh_eB h h1]
  unfold hP1
  dsimp only
  have hp := pSs_fl l (List.replicate (124 - (eB q k s l).length) 0) h.l l.length (Nat.le_refl _)
  rw [List.take_length, List.drop_length] at hp
  rw [hp]
  dsimp only
  have hd : RdA.dn (some (List.flatMap eS [] ++ List.replicate (124 - (eB q k s l).length) 0)) = 0 := by
    rw [dn_zero]
    simp [dy, allZero]
  rw [if_pos ⟨hd, hz⟩]
theorem bts_len {q k : Int} {l : List Sp} {zs : List Int} (h : l.length ≤ 8) : (bts q k l zs).length = 128 + zs.length := by
  unfold bts
  rw [List.length_append, seal_len (by rw [BtE.eB_len]; omega)]
theorem bts_head {q k : Int} {l : List Sp} {zs ys : List Int} (h : l.length ≤ 8) : (bts q k l zs ++ ys).take 128 = seal_ (eB q k (onN 0 zs : Nat) l) := by
  have hl : (seal_ (eB q k (onN 0 zs : Nat) l)).length = 128 := seal_len (by rw [BtE.eB_len]; omega)
  unfold bts
  rw [List.append_assoc, List.take_append_of_le_length (by omega), List.take_of_length_le (by omega)]
theorem bts_data {q k : Int} {l : List Sp} {zs ys : List Int} (h : l.length ≤ 8) : ((bts q k l zs ++ ys).drop 128).take zs.length = zs := by
  have hl : (seal_ (eB q k (onN 0 zs : Nat) l)).length = 128 := seal_len (by rw [BtE.eB_len]; omega)
  unfold bts
  rw [List.append_assoc, List.drop_append_of_le_length (by omega), List.drop_of_length_le (by omega), List.nil_append, List.take_append_of_le_length (Nat.le_refl _), List.take_length]
theorem onN_nil : onN 0 [] = 0 := by decide +kernel
theorem headG_eB {g : Ge} {b : Ba} {s : Int} (h : mayB g b) (hs : 0 ≤ s ∧ s < 4294967296) (hz : ¬ (b.k = 2 ∧ s ≠ 0)) : headG g (seal_ (eB b.q b.k s b.l)) = some (b, s) := by
  unfold headG
  rw [headP_eB (mayB_Hok h hs) h.2.2.1.1 hz]
  exact if_pos h
theorem hole_sum {g : Ge} {b : Ba} {zs : List Int} (_h : mayB g b) (hl : (zs.length : Int) = size_ b.k b.l * 128) : ¬ (b.k = 2 ∧ ((onN 0 zs : Nat) : Int) ≠ 0) := by
  rintro ⟨h2, h3⟩
  have e : size_ b.k b.l = 0 := by unfold size_; rw [if_neg (by omega)]
  rw [e] at hl
  have : zs = [] := List.eq_nil_of_length_eq_zero (by omega)
  rw [this, onN_nil] at h3
  exact h3 rfl
/-- The head of an encoded batch. -/
theorem headG_bts {g : Ge} {b : Ba} {zs ys : List Int} (h : mayB g b) (hl : (zs.length : Int) = size_ b.k b.l * 128) : headG g ((bts b.q b.k b.l zs ++ ys).take 128) = some (b, ((onN 0 zs : Nat) : Int)) := by
  rw [bts_head h.2.2.1.2.1]
  exact headG_eB h (onN_in 0 zs) (hole_sum h hl)
theorem size_in {g : Ge} {b : Ba} (h : mayB g b) : 0 ≤ size_ b.k b.l := by
  have := mayB_tn h
  unfold size_
  split <;> omega
/-- An encoded batch, whatever whole sectors stand behind. -/
theorem beginG_bts {g : Ge} {b : Ba} {zs ys : List Int} (h : mayB g b) (hl : (zs.length : Int) = size_ b.k b.l * 128) (hy : ys.length % 128 = 0) : beginG g (bts b.q b.k b.l zs ++ ys) = some (b, zs) := by
  have h8 := h.2.2.1.2.1
  have hlen : (bts b.q b.k b.l zs ++ ys).length = 128 + zs.length + ys.length := by rw [List.length_append, bts_len h8]
  have h0 := size_in h
  have hz : zs.length % 128 = 0 := by omega
  unfold beginG
  rw [if_neg (fun q => by rcases q with q | q; (rw [hlen] at q; omega); exact q (by rw [hlen]; omega)), headG_bts h hl]
  dsimp only
  rw [mayB_dsec h]
  have e : (size_ b.k b.l).toNat * 128 = zs.length := by omega
  rw [e, if_neg (by rw [hlen]; omega), bts_data h8, if_pos rfl]
/-- Of one that was cut off nothing is. -/
theorem beginG_cut {g : Ge} {b : Ba} {zs : List Int} (h : mayB g b) (hl : (zs.length : Int) = size_ b.k b.l * 128) : beginG g ((bts b.q b.k b.l zs).take zs.length) = none := by
  have h8 := h.2.2.1.2.1
  have h0 := size_in h
  have hlen : ((bts b.q b.k b.l zs).take zs.length).length = zs.length := by rw [List.length_take, bts_len h8]; omega
  unfold beginG
  by_cases hz : zs.length = 0
  · rw [if_pos (Or.inl (by rw [hlen]; exact hz))]
  · have hge : 128 ≤ zs.length := by omega
    rw [if_neg (fun q => by rcases q with q | q; (rw [hlen] at q; exact hz q); exact q (by rw [hlen]; omega))]
    rw [List.take_take, show min 128 zs.length = 128 by omega]
    have e := headG_bts (ys := []) h hl
    rw [List.append_nil] at e
    rw [e]
    dsimp only
    rw [mayB_dsec h, if_pos (by rw [hlen]; omega)]
end Go.Proofs.YtkkbgbpmpcoffaaDoor.BtP
/- Contracts: the batch with which bytes begin, and its data, by the program. Conditions: what comes in reads as bytes; all numbers are 64 bits; the table of sums is as its text lays it. -/
namespace Go.Proofs.YtkkbgbpmpcoffaaDoor.BtO
open Go.RowKit MSep MSepC MSpM MGeM MFrame Kit BtA BtF CrcA CrcM BtH BtK BtL
open BtM (Ba mayB)
open SpA (wf w64)
open GeA (bg BG ld_geom)

theorem kfS {S : Nat → Prop} {a b c : World} (k : Fr No b c) (h : Hid (Fr S a b)) : Hid (Fr S a c) := hid (h.out.step k (fun _ _ h => h.elim))
theorem kdS {S : Nat → Prop} {a b : World} (h : Hid (Fr S a b)) : Hid (Fr S a b.drew) := hid h.out.drew
theorem kst {a b c : World} {g : Nat} (k : Fr (fun q => q = g) b c) (h : Hid (Fr (fun q => q = g) a b)) : Hid (Fr (fun q => q = g) a c) := hid (h.out.trans k)
def RetC (w w' : World) (E : Ending) (c : Int) (o : Option (Ba × List Int)) : Prop := (match o with
  | none => E = .returned (.tuple #[bv 0 0 none 0 0, .slice none 0 0, .int .i64 c])
  | some r => ∃ A c A2 c2, E = .returned (.tuple #[bv r.1.q r.1.k A r.1.l.length c, .slice A2 r.2.length c2, .int .i64 0]) ∧ RdS w' A r.1.l.length r.1.l ∧ ((r.1.l.length ≤ c ∧ c ≤ maxLen) ∧ ∀ g o, A = some ⟨g, o, none⟩ → w.heap.size ≤ g) ∧ Rd w' A2 r.2.length (r.2.map (Value.int .u8))) ∧ Fr No w w'
theorem beginG_len {g : Ge} {zs : List Int} {r : Ba × List Int} (h : beginG g zs = some r) : r.2.length ≤ 134217728 := by
  unfold beginG at h
  split at h
  · cases h
  · split at h
    · cases h
    · rename_i r' _
      split at h
      · cases h
      · split at h
        · cases h
          dsimp only
          rw [List.length_take]
          have := (dsec_in r'.1.k r'.1.l).2
          omega
        · cases h
set_option maxRecDepth 100000 in
set_option maxHeartbeats 4000000 in
theorem decode_geom (gc gs gn gl gk : Int) (A : Option Addr) (l c : Nat) (w : World) (hs : r64 gs) (hm : ¬ mayG ⟨gc, gs, gn, gl, gk⟩) :
    Calls Tryd.prog 12 #[.agg #[.int .i64 gc, .int .i64 gs, .int .i64 gn, .int .i64 gl, .int .i64 gk], .slice A l c] w fun E w' => RetC w w' E 70 none := by
  obtain ⟨G, hG⟩ : ∃ G, w.heap.size = G := ⟨_, rfl⟩
  obtain ⟨w1, hw1⟩ : ∃ w1, (w.alloc (bg gc gs gn gl gk)).alloc (.cells (bcs 0 0 none 0 0) 26) = w1 := ⟨_, rfl⟩
  have FG := hid (show Fr No w w1 by rw [← hw1]; exact (fr1 _ _).alloc _)
  have P0 := hid (show BG w1 G gc gs gn gl gk by rw [← hw1, ← hG]; exact (BG.new w gc gs gn gl gk : Blk _ _ _ _).alloc _)
  have P1 : BB w1 (G + 1) 0 0 none 0 0 := by
    rw [← hw1, ← hG]
    have := BB.new (w.alloc (bg gc gs gn gl gk)) 0 0 none 0 0
    rwa [World.size_alloc] at this
  have HG := hid hG
  have HS := hid hs
  have HW1 := hid hw1
  clear hs hw1
  have HM := hid hm
  clear hm
  go_enter Tryd.func12, Tryd.ntmps12
  go_upto_region 1 with fail
  try rw [show (w.alloc (Obj.cells #[.int .i64 gc, .int .i64 gs, .int .i64 gn, .int .i64 gl, .int .i64 gk] 23)).alloc (Obj.cells #[.int .i64 0, .int .i64 0, .slice none 0 0] 26) = w1 from HW1.out]
  try rw [hG]
  go_wp2_with (first | ((with_reducible refine ld_geom rfl (.tmp 2) rfl G ?_ P0.out ?_); · rfl) | (go_at_call 22; refine (GeC.may_ok gc gs gn gl gk _ HS.out).mono ?_; rintro e w2 ⟨rfl, f2⟩; rw [decide_eq_false HM.out]; replace FG := hid (FG.out.trans f2); replace P1 := Blk.fr P1 f2 (fun h => h); clear f2) | (refine st_bt rfl (.tmp 4) (.tmp 13) rfl (G + 1) rfl rfl (by simp [Value.oneCell']) P1 rfl ?_; intro w9 HQ9 f9; have HF9 := hid (FG.out.step f9 (fun i hi e => by have := HG.out; omega)); clear f9))
  exact bodyPost_ret (v := .tuple #[bv 0 0 none 0 0, .slice none 0 0, .int .i64 70]) (resH rfl _ _ (G + 1) 0 0 none 0 0 (.slice none 0 0) (.int .i64 70) rfl rfl rfl HQ9) rfl ⟨rfl, HF9.out⟩
set_option maxRecDepth 100000 in
set_option maxHeartbeats 8000000 in
theorem decode_ok (gc gs gn gl gk : Int) (A : Option Addr) (l c : Nat) (zs : List Int) (w : World) (hs : r64 gs) (hm : mayG ⟨gc, gs, gn, gl, gk⟩) (hb : IsB w A l c zs) (hT : TabAt w) :
    Calls Tryd.prog 12 #[.agg #[.int .i64 gc, .int .i64 gs, .int .i64 gn, .int .i64 gl, .int .i64 gk], .slice A l c] w fun E w' => RetC w w' E 10 (beginG ⟨gc, gs, gn, gl, gk⟩ zs) := by
  obtain ⟨G, hG⟩ : ∃ G, w.heap.size = G := ⟨_, rfl⟩
  obtain ⟨w1, hw1⟩ : ∃ w1, (w.alloc (bg gc gs gn gl gk)).alloc (.cells (bcs 0 0 none 0 0) 26) = w1 := ⟨_, rfl⟩
  have FG := hid (show Fr No w w1 by rw [← hw1]; exact (fr1 _ _).alloc _)
  have P0 := hid (show BG w1 G gc gs gn gl gk by rw [← hw1, ← hG]; exact (BG.new w gc gs gn gl gk : Blk _ _ _ _).alloc _)
  have P1 : BB w1 (G + 1) 0 0 none 0 0 := by
    rw [← hw1, ← hG]
    have := BB.new (w.alloc (bg gc gs gn gl gk)) 0 0 none 0 0
    rwa [World.size_alloc] at this
  have HG := hid hG
  have HS := hid hs
  have HW1 := hid hw1
  clear hs hw1
  have HM := hid hm
  have HI := hid (hb.fr FG.out)
  have HT1 := hid (hT.fr FG.out (fun h => h))
  have HBB := hid (fun W (hi : IsB W A l c zs) (ht : TabAt W) => begin_ok gc gs gn gl gk A l c zs W HS.out hm hi ht)
  clear hm hb hT
  obtain ⟨V, ho⟩ : ∃ V, beginG ⟨gc, gs, gn, gl, gk⟩ zs = V := ⟨_, rfl⟩
  rw [ho]
  go_enter Tryd.func12, Tryd.ntmps12
  go_upto_region 1 with fail
  try rw [show (w.alloc (Obj.cells #[.int .i64 gc, .int .i64 gs, .int .i64 gn, .int .i64 gl, .int .i64 gk] 23)).alloc (Obj.cells #[.int .i64 0, .int .i64 0, .slice none 0 0] 26) = w1 from HW1.out]
  try rw [hG]
  cases V with
  | none =>
    go_wp2_with (first | ((with_reducible refine ld_geom rfl (.tmp 2) rfl G ?_ P0.out ?_); · rfl) | (go_at_call 22; refine (GeC.may_ok gc gs gn gl gk _ HS.out).mono ?_; rintro e w2 ⟨rfl, f2⟩; rw [decide_eq_true HM.out]; replace FG := hid (FG.out.trans f2); replace P0 := hid (P0.out.fr f2); replace P1 := Blk.fr P1 f2 (fun h => h); replace HI := hid (HI.out.fr f2); replace HT1 := hid (HT1.out.fr f2 (fun h => h)); clear f2) | (go_at_call 36; go_loud (refine (HBB.out _ HI.out HT1.out).mono ?_; rintro e w3 ⟨he, f3⟩; rw [ho] at he; obtain rfl := he; replace FG := hid (FG.out.trans f3); have P1' := hid (Blk.alloc (Blk.fr P1 f3 (fun h => h)) (.cells (bcs 0 0 none 0 0) 26)); replace FG := hid (FG.out.alloc (.cells (bcs 0 0 none 0 0) 26)); clear f3)) | (refine st_bt rfl (.tmp 4) (.tmp 23) rfl (G + 1) rfl rfl (by simp [Value.oneCell']) P1'.out rfl ?_; intro w9 HQ9 f9; have HF9 := hid (FG.out.step f9 (fun i hi e => by have := HG.out; omega)); clear f9))
    exact bodyPost_ret (v := .tuple #[bv 0 0 none 0 0, .slice none 0 0, .int .i64 10]) (resH rfl _ _ (G + 1) 0 0 none 0 0 (.slice none 0 0) (.int .i64 10) rfl rfl rfl HQ9) rfl ⟨rfl, HF9.out⟩
  | some r =>
    have HDL := hid (beginG_len ho)
    obtain ⟨⟨q, k, xs⟩, D⟩ := r
    dsimp only at HDL
    go_upto_region 4 with (first | ((with_reducible refine ld_geom rfl (.tmp 2) rfl G ?_ P0.out ?_); · rfl) | (go_at_call 22; refine (GeC.may_ok gc gs gn gl gk _ HS.out).mono ?_; rintro e w2 ⟨rfl, f2⟩; rw [decide_eq_true HM.out]; replace FG := hid (FG.out.trans f2); replace P0 := hid (P0.out.fr f2); replace P1 := Blk.fr P1 f2 (fun h => h); replace HI := hid (HI.out.fr f2); replace HT1 := hid (HT1.out.fr f2 (fun h => h)); clear f2) | (go_at_call 36; go_loud (refine (HBB.out _ HI.out HT1.out).mono ?_; rintro e w3 ⟨he, f3⟩; rw [ho] at he; obtain ⟨Ah, ch, A2, c2, rfl, hxs, hlim, hfr, hib⟩ := he; have HFR := hid (show ∀ g o, Ah = some ⟨g, o, none⟩ → g ≠ G + 1 ∧ w.heap.size ≤ g from fun g o h => by have h1 := hfr g o h; have h2 := Blk.lt P1; have := HG.out; omega); dsimp only at hxs hlim hib ⊢; clear hfr)))
    obtain ⟨M, hM⟩ : ∃ M, w3.heap.size = M := ⟨_, rfl⟩
    obtain ⟨w4, hw4⟩ : ∃ w4, w3.alloc (.cells (bcs q k Ah xs.length ch) 26) = w4 := ⟨_, rfl⟩
    have f4 : Fr No w3 w4 := by rw [← hw4]; exact fr1 _ _
    have HBM := hid (show BB w4 M q k Ah xs.length ch by rw [← hw4, ← hM]; exact BB.new _ _ _ _ _ _)
    have HXS := hid (hxs.fr f4)
    have HLM := hid hlim
    have P3 := Blk.fr P1 f3 (fun h => h)
    have hMG : G + 1 < M := by rw [← hM]; exact Blk.lt P3
    have P1' := hid (Blk.fr P3 f4 (fun h => h))
    have HIB := hid (hib.fr f4)
    replace FG := hid (FG.out.trans (f3.trans f4))
    have HW4 := hid hw4
    clear hw4 f3 f4 hxs hlim hib P1 P3
    rw [show w3.alloc (Obj.cells #[.int .i64 q, .int .i64 k, .slice Ah xs.length ch] 26) = w4 from HW4.out]
    try rw [hM]
    obtain ⟨b0, b1, b2⟩ := HBM.out.cells
    clear HW4
    have FW : Hid (Fr (fun q => q = G + 1) w4 w4) := hid (Fr.refl _ _)
    go_upto_region 6 with fail
    have HPX := hid (show Blk w4.drew (G + 1) 26 _ from P1'.out)
    have FW := kdS FW
    refine wp_region_noPanic ?_
    refine wp_region_held_drew (S := (fun W' => W'.cell? ⟨M, 0, none⟩ = some (.int .i64 q) ∧ W'.cell? ⟨M, 1, none⟩ = some (.int .i64 k) ∧ W'.cell? ⟨M, 2, none⟩ = some (.slice Ah xs.length ch) ∧ Hid (Fr (fun q => q = G + 1) w4 W'))) (by kernel_rfl) ?_ (fun hHeld => ?_)
    · (try dsimp only); (first | (go_split_ands; exact ⟨kc f (by assumption), kc f (by assumption), kc f (by assumption), by assumption⟩) | (go_split_ands; exact ⟨(by assumption), (by assumption), (by assumption), by assumption⟩) | (go_split_ands; exact ⟨kc (fr1 _ _) (by assumption), kc (fr1 _ _) (by assumption), kc (fr1 _ _) (by assumption), kfa (by assumption)⟩) | (exact ⟨kcs hf2 (by simp only []; omega) hHeld.1, kcs hf2 (by simp only []; omega) hHeld.2.1, kcs hf2 (by simp only []; omega) hHeld.2.2.1, kst hf2 hHeld.2.2.2⟩))
    refine wpAnyH_take (i := 0) (v := ?v1) rfl (by kernel_rfl) (by kernel_rfl) (by kernel_rfl) (fun _ _ _ h => h) (Or.inl ⟨by kernel_rfl, ?y1⟩) (by assumption) ?_
    case y1 => (intro w hSw; (try dsimp only at hSw); go_simp; all_goals with_reducible rfl)
    try simp only [Act.put, List.getElem_toArray, List.getElem_cons_zero, List.setIfInBounds_toArray, List.set_cons_zero, List.set_cons_succ]
    refine wpAnyH_take (i := 1) (v := ?v2) rfl (by kernel_rfl) (by kernel_rfl) (by kernel_rfl) (fun _ _ _ h => h) (Or.inl ⟨by kernel_rfl, ?y2⟩) (by assumption) ?_
    case y2 => (intro w hSw; (try dsimp only at hSw); go_simp; all_goals with_reducible rfl)
    try simp only [Act.put, List.getElem_toArray, List.getElem_cons_succ, List.getElem_cons_zero, List.setIfInBounds_toArray, List.set_cons_zero, List.set_cons_succ]
    refine wpAnyH_ready (rs := [2]) (by kernel_rfl) (by simp) (AllReadyH.cons rfl (fun K hK => ?_) AllReadyH.nil)
    go_simp
    go_at_call 37
    refine (clone_ok A2 D.length c2 D w4.drew (by have := HDL.out; omega) (show Rd w4.drew _ _ _ from HIB.out.1)).mono ?_
    rintro e W1 ⟨A3, c3, rfl, hn3, hr3, hfr3, f⟩
    have FW := kfS f hHeld.2.2.2
    have HP6 := hid (Blk.fr HPX.out f (fun h => h))
    have HR3 := hid hr3
    have HAF := hid (show ∀ g o, A3 = some ⟨g, o, none⟩ → ¬ (fun q => q = G + 1) g from fun g o h e => by have h1 : w4.heap.size ≤ g := hfr3 g o h; have h2 := Blk.lt HBM.out; have e : g = G + 1 := e; omega)
    dsimp only
    refine hK.out _ _ ?_ (fun hHeld => ?_)
    · (try dsimp only); (first | (go_split_ands; exact ⟨kc f (by assumption), kc f (by assumption), kc f (by assumption), by assumption⟩) | (go_split_ands; exact ⟨(by assumption), (by assumption), (by assumption), by assumption⟩) | (go_split_ands; exact ⟨kc (fr1 _ _) (by assumption), kc (fr1 _ _) (by assumption), kc (fr1 _ _) (by assumption), kfa (by assumption)⟩) | (exact ⟨kcs hf2 (by simp only []; omega) hHeld.1, kcs hf2 (by simp only []; omega) hHeld.2.1, kcs hf2 (by simp only []; omega) hHeld.2.2.1, kst hf2 hHeld.2.2.2⟩))
    clear hK K
    try simp only [Act.put, List.getElem_toArray, List.getElem_cons_succ, List.getElem_cons_zero, List.setIfInBounds_toArray, List.set_cons_zero, List.set_cons_succ]
    refine wpAnyH_ready (rs := [3]) (by kernel_rfl) (by simp) (AllReadyH.cons rfl (fun K hK => ?_) AllReadyH.nil)
    refine st_bt_step rfl (.tmp 4) (.tmp 24) rfl (G + 1) rfl rfl (by simp [Value.oneCell']) HP6.out rfl ?_
    intro W2 hb2 hf2
    refine hK.out _ _ ?_ (fun hHeld => ?_)
    · (try dsimp only); (first | (go_split_ands; exact ⟨kc f (by assumption), kc f (by assumption), kc f (by assumption), by assumption⟩) | (go_split_ands; exact ⟨(by assumption), (by assumption), (by assumption), by assumption⟩) | (go_split_ands; exact ⟨kc (fr1 _ _) (by assumption), kc (fr1 _ _) (by assumption), kc (fr1 _ _) (by assumption), kfa (by assumption)⟩) | (exact ⟨kcs hf2 (by simp only []; omega) hHeld.1, kcs hf2 (by simp only []; omega) hHeld.2.1, kcs hf2 (by simp only []; omega) hHeld.2.2.1, kst hf2 hHeld.2.2.2⟩))
    clear hK K
    try simp only [Act.put, List.getElem_toArray, List.getElem_cons_succ, List.getElem_cons_zero]
    have HQ9 := hid hb2; have HR4 := hid (HR3.out.fr hf2 HAF.out)
    refine wpAnyH_take (i := 4) (v := ?v3) rfl (by kernel_rfl) (by kernel_rfl) (by kernel_rfl) (fun _ _ _ h => h) (Or.inl ⟨by kernel_rfl, ?y3⟩) (by assumption) ?_
    case y3 => (intro w hSw; (try dsimp only at hSw); go_simp; all_goals with_reducible rfl)
    try simp only [Act.put, List.getElem_toArray, List.getElem_cons_succ, List.getElem_cons_zero, List.setIfInBounds_toArray, List.set_cons_zero, List.set_cons_succ]
    refine wpAnyH_take (i := 5) (v := ?v4) rfl (by kernel_rfl) (by kernel_rfl) (by kernel_rfl) (fun _ _ _ h => h) (Or.inl ⟨by kernel_rfl, ?y4⟩) (by assumption) ?_
    case y4 => (intro w hSw; (try dsimp only at hSw); go_simp; all_goals with_reducible rfl)
    try simp only [Act.put, List.getElem_toArray, List.getElem_cons_succ, List.getElem_cons_zero, List.setIfInBounds_toArray, List.set_cons_zero, List.set_cons_succ]
    refine wpAnyH_done (by kernel_rfl) ?_ _
    refine NoPanic.normal ?_
    go_wp2
    exact bodyPost_ret (v := .tuple #[bv q k Ah xs.length ch, .slice A3 D.length c3, .int .i64 0]) (resH rfl _ _ (G + 1) q k Ah xs.length ch _ (.int .i64 0) rfl rfl rfl HQ9.out) rfl ⟨⟨Ah, ch, A3, c3, rfl, rdS_lo2 HXS.out hHeld.2.2.2.out (fun g o h e => (HFR.out g o h).1 e), ⟨HLM.out, fun g o h => (HFR.out g o h).2⟩, HR4.out⟩, FG.out.step hHeld.2.2.2.out (fun i hi e => by have := HG.out; omega)⟩
end Go.Proofs.YtkkbgbpmpcoffaaDoor.BtO
