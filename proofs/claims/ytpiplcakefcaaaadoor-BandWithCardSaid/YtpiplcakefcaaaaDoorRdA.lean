/- Contracts of package le's reader and of the plain reader in one form: what is left, or that it is at fault, as one value. Conditions: the reader's own block is known whole, and what is left reads as bytes. -/
import Derived.Test.YtpiplcakefcaaaaDoorLeY
namespace Go.Proofs.YtpiplcakefcaaaaDoor.RdA
open Go.RowKit MSep LeA LeW LeR LeX LeY

/-- What a number of n bytes is, and what is left. -/
def gt (n : Nat) : Option (List Int) → Int × Option (List Int)
  | none => (0, none)
  | some xs => if xs.length < n then (0, none) else (num (xs.take n), some (xs.drop n))
/-- The same, as a whole number that has to be within bounds. -/
def gi (n : Nat) (a b : Int) : Option (List Int) → Int × Option (List Int)
  | none => (0, none)
  | some xs => if xs.length < n then (0, none) else if a ≤ wrap64 (num (xs.take n)) ∧ wrap64 (num (xs.take n)) ≤ b then (wrap64 (num (xs.take n)), some (xs.drop n)) else (0, none)

/-- A reader at block g: its blocks are among U. -/
def RdO (w : World) (B : Nat) (U : Nat → Prop) (g : Nat) : Option (List Int) → Prop
  | none => ROk w B g true none 0 [] ∧ U g
  | some xs => ∃ A c, ROk w B g false A c xs ∧ ∀ k, RF g A k → U k
/-- The plain reader at block g: its blocks are among U. -/
def YdO (w : World) (U : Nat → Prop) (g : Nat) : Option (List Int) → Prop
  | none => ∃ A c xs, YOk w g true A c xs ∧ ∀ k, YF g A xs k → U k
  | some xs => ∃ A c, YOk w g false A c xs ∧ ∀ k, YF g A xs k → U k

section
variable {w w' : World} {B g : Nat} {U : Nat → Prop} {st : Option (List Int)}
theorem RdO.fr {S : Nat → Prop} (h : RdO w B U g st) (hf : Fr S w w') (hn : ∀ k, U k → ¬ S k) : RdO w' B U g st := by
  cases st with
  | none => exact ⟨h.1.fr hf (fun k hk => by rcases hk with rfl | ⟨a, h0, _⟩; exact hn _ h.2; cases h0), h.2⟩
  | some xs =>
    obtain ⟨A, c, h1, h2⟩ := h
    exact ⟨A, c, h1.fr hf (fun k hk => hn k (h2 k hk)), h2⟩
theorem RdO.drew (h : RdO w B U g st) : RdO w.drew B U g st := h.fr (S := No) ((Fr.refl No w).drew) (fun _ _ h => h)
theorem RdO.own (h : RdO w B U g st) : U g := by
  cases st with
  | none => exact h.2
  | some xs =>
    obtain ⟨A, c, h1, h2⟩ := h
    exact h2 g (.inl rfl)
theorem RdO.hB (h : RdO w B U g st) : B ≤ g := by
  cases st with
  | none => exact h.1.hB
  | some xs =>
    obtain ⟨A, c, h1, h2⟩ := h
    exact h1.hB
theorem RdO.lt (h : RdO w B U g st) : g < w.heap.size := by
  cases st with
  | none => exact h.1.blk.lt
  | some xs =>
    obtain ⟨A, c, h1, h2⟩ := h
    exact h1.blk.lt
theorem YdO.fr {S : Nat → Prop} (h : YdO w U g st) (hf : Fr S w w') (hn : ∀ k, U k → ¬ S k) : YdO w' U g st := by
  cases st with
  | none =>
    obtain ⟨A, c, xs, h1, h2⟩ := h
    exact ⟨A, c, xs, h1.fr hf (fun k hk => hn k (h2 k hk)), h2⟩
  | some xs =>
    obtain ⟨A, c, h1, h2⟩ := h
    exact ⟨A, c, h1.fr hf (fun k hk => hn k (h2 k hk)), h2⟩
theorem YdO.drew (h : YdO w U g st) : YdO w.drew U g st := h.fr (S := No) ((Fr.refl No w).drew) (fun _ _ h => h)
theorem YdO.own (h : YdO w U g st) : U g := by
  cases st with
  | none =>
    obtain ⟨A, c, xs, h1, h2⟩ := h
    exact h2 g (.inl rfl)
  | some xs =>
    obtain ⟨A, c, h1, h2⟩ := h
    exact h2 g (.inl rfl)
theorem YdO.lt (h : YdO w U g st) : g < w.heap.size := by
  cases st with
  | none =>
    obtain ⟨A, c, xs, h1, h2⟩ := h
    exact h1.blk.lt
  | some xs =>
    obtain ⟨A, c, h1, h2⟩ := h
    exact h1.blk.lt
end

/-- The program's Int, whatever the reader. -/
theorem int_rd (g n : Nat) (a b : Int) (B : Nat) (U : Nat → Prop) (st : Option (List Int)) (w : World) (hs : n = 1 ∨ n = 2 ∨ n = 4 ∨ n = 8) (h : RdO w B U g st) :
    Calls Tryd.prog 104 #[.pointer (some ⟨g, 0, none⟩), .int .i64 n, .int .i64 a, .int .i64 b] w fun e w' => e = .returned (.int .i64 (gi n a b st).1) ∧ RdO w' B U g (gi n a b st).2 ∧ Fr (fun k => k = g) w w' := by
  have hu := h.own
  cases st with
  | none =>
    refine (int_bad g n a b B true none 0 [] w (.inr (by simp; omega)) h.1).mono ?_
    rintro e w' ⟨rfl, h1, h2⟩
    exact ⟨rfl, ⟨h1, hu⟩, h2⟩
  | some xs =>
    obtain ⟨A, c, h1, h2⟩ := h
    by_cases hl : xs.length < n
    · simp only [gi, if_pos hl]
      refine (int_bad g n a b B false A c xs w (.inr (by omega)) h1).mono ?_
      rintro e w' ⟨rfl, h3, h4⟩
      exact ⟨rfl, ⟨h3, hu⟩, h4⟩
    · by_cases hr : a ≤ wrap64 (num (xs.take n)) ∧ wrap64 (num (xs.take n)) ≤ b
      · simp only [gi, if_neg hl, if_pos hr]
        refine (int_ok g n a b B A c xs w hs (by omega) h1 hr.1 hr.2).mono ?_
        rintro e w' ⟨rfl, h3, h4⟩
        exact ⟨rfl, ⟨_, _, h3, fun k hk => h2 k (RF.cut hk)⟩, h4⟩
      · simp only [gi, if_neg hl, if_neg hr]
        refine (int_out g n a b B A c xs w hs (by omega) h1 (by omega)).mono ?_
        rintro e w' ⟨rfl, h3, h4⟩
        exact ⟨rfl, ⟨h3, hu⟩, h4⟩
/-- What a reader answers at the end. -/
def dn : Option (List Int) → Int
  | none => 10
  | some xs => endOf xs
theorem done_rd (g : Nat) (B : Nat) (U : Nat → Prop) (st : Option (List Int)) (w : World) (h : RdO w B U g st) :
    Calls Tryd.prog 105 #[.pointer (some ⟨g, 0, none⟩)] w fun e w' => e = .returned (.int .i64 (dn st)) ∧ w = w' := by
  cases st with
  | none => exact done_bad g B none 0 [] w h.1
  | some xs =>
    obtain ⟨A, c, h1, h2⟩ := h
    exact done_ok g B A c xs w h1
theorem take_rd (A : Option Addr) (n c : Nat) (zs : List Int) (w : World) (hr : Rd w A n (zs.map (Value.int .u8))) (hu : ∀ x ∈ zs, 0 ≤ x ∧ x ≤ 255) (hn : n ≤ 140737488355328) :
    Calls Tryd.prog 101 #[.slice A n c] w fun e w' => ∃ g, e = .returned (.pointer (some ⟨g, 0, none⟩)) ∧ RdO w' w.heap.size (fun k => w.heap.size ≤ k ∧ k < w'.heap.size) g (some zs) ∧ Fr No w w' := by
  refine (take_any A n c zs w.heap.size w hr hu hn (Nat.le_refl _)).mono ?_
  rintro e w' ⟨g, A', c', rfl, h1, h2, h3, h4⟩
  exact ⟨g, rfl, ⟨A', c', h1, fun k hk => ⟨h3 k hk, h4 k hk⟩⟩, h2⟩
/-- So many bytes that there are. -/
theorem bytes_rd (g n : Nat) (B : Nat) (U : Nat → Prop) (xs : List Int) (w : World) (hn : n ≤ xs.length) (hB : B ≤ w.heap.size) (h : RdO w B U g (some xs)) :
    Calls Tryd.prog 102 #[.pointer (some ⟨g, 0, none⟩), .int .i64 n] w fun e w' => ∃ A' c', e = .returned (.slice A' n c') ∧ Rd w' A' n ((xs.map (Value.int .u8)).take n) ∧ RdO w' B U g (some (xs.drop n)) ∧ Fr (fun k => k = g) w w' := by
  obtain ⟨A, c, h1, h2⟩ := h
  refine (bytes_ok g n B false A c xs w hn hB h1).mono ?_
  rintro e w' ⟨A', c', rfl, h3, h4, h5, h6⟩
  exact ⟨A', c', rfl, Rd.own h3, ⟨_, _, h4, fun k hk => h2 k (RF.cut hk)⟩, h5⟩

/-- The plain reader's Get, Int, Bytes, Done. -/
theorem get_yd (g n : Nat) (U : Nat → Prop) (st : Option (List Int)) (w : World) (hs : n = 1 ∨ n = 2 ∨ n = 4 ∨ n = 8) (h : YdO w U g st) :
    Calls Tryd.prog 70 #[.pointer (some ⟨g, 0, none⟩), .int .i64 n] w fun e w' => e = .returned (.int .u64 (gt n st).1) ∧ YdO w' U g (gt n st).2 ∧ Fr (fun k => k = g) w w' := by
  cases st with
  | none =>
    obtain ⟨A, c, xs, h1, h2⟩ := h
    refine (yget_bad g n true A c xs w (.inl rfl) h1).mono ?_
    rintro e w' ⟨rfl, h3, h4⟩
    exact ⟨rfl, ⟨_, _, _, h3, h2⟩, h4⟩
  | some xs =>
    obtain ⟨A, c, h1, h2⟩ := h
    by_cases hl : xs.length < n
    · simp only [gt, if_pos hl]
      refine (yget_bad g n false A c xs w (.inr (.inr (by omega))) h1).mono ?_
      rintro e w' ⟨rfl, h3, h4⟩
      exact ⟨rfl, ⟨_, _, _, h3, h2⟩, h4⟩
    · simp only [gt, if_neg hl]
      refine (yget_ok g n A c xs w hs (by omega) h1).mono ?_
      rintro e w' ⟨rfl, h3, h4⟩
      exact ⟨rfl, ⟨_, _, h3, fun k hk => h2 k (YF.cut hk)⟩, h4⟩
theorem int_yd (g n : Nat) (a b : Int) (U : Nat → Prop) (st : Option (List Int)) (w : World) (hs : n = 1 ∨ n = 2 ∨ n = 4 ∨ n = 8) (h : YdO w U g st) :
    Calls Tryd.prog 71 #[.pointer (some ⟨g, 0, none⟩), .int .i64 n, .int .i64 a, .int .i64 b] w fun e w' => e = .returned (.int .i64 (gi n a b st).1) ∧ YdO w' U g (gi n a b st).2 ∧ Fr (fun k => k = g) w w' := by
  cases st with
  | none =>
    obtain ⟨A, c, xs, h1, h2⟩ := h
    refine (yint_bad g n a b true A c xs w (.inl rfl) h1).mono ?_
    rintro e w' ⟨rfl, h3, h4⟩
    exact ⟨rfl, ⟨_, _, _, h3, h2⟩, h4⟩
  | some xs =>
    obtain ⟨A, c, h1, h2⟩ := h
    by_cases hl : xs.length < n
    · simp only [gi, if_pos hl]
      refine (yint_bad g n a b false A c xs w (.inr (.inr (by omega))) h1).mono ?_
      rintro e w' ⟨rfl, h3, h4⟩
      exact ⟨rfl, ⟨_, _, _, h3, h2⟩, h4⟩
    · by_cases hr : a ≤ wrap64 (num (xs.take n)) ∧ wrap64 (num (xs.take n)) ≤ b
      · simp only [gi, if_neg hl, if_pos hr]
        refine (yint_ok g n a b A c xs w hs (by omega) h1 hr.1 hr.2).mono ?_
        rintro e w' ⟨rfl, h3, h4⟩
        exact ⟨rfl, ⟨_, _, h3, fun k hk => h2 k (YF.cut hk)⟩, h4⟩
      · simp only [gi, if_neg hl, if_neg hr]
        refine (yint_out g n a b A c xs w hs (by omega) h1 (by omega)).mono ?_
        rintro e w' ⟨rfl, ⟨A', c', ys, h3, h5⟩, h4⟩
        exact ⟨rfl, ⟨_, _, _, h3, fun k hk => h2 k (h5 k hk)⟩, h4⟩
theorem bytes_yd (g n : Nat) (U : Nat → Prop) (xs : List Int) (w : World) (hn : n ≤ xs.length) (h : YdO w U g (some xs)) :
    Calls Tryd.prog 69 #[.pointer (some ⟨g, 0, none⟩), .int .i64 n] w fun e w' => ∃ A' c', e = .returned (.slice A' n c') ∧ Rd w' A' n ((xs.map (Value.int .u8)).take n) ∧ YdO w' U g (some (xs.drop n)) ∧ Fr (fun k => k = g) w w' := by
  obtain ⟨A, c, h1, h2⟩ := h
  refine (ybytes_ok g n A c xs w hn h1).mono ?_
  rintro e w' ⟨rfl, h3, h4, h5⟩
  exact ⟨A, c, rfl, h4, ⟨_, _, h3, fun k hk => h2 k (YF.cut hk)⟩, h5⟩
/-- Is all got? -/
def dy : Option (List Int) → Bool
  | none => false
  | some xs => allZero xs
theorem done_yd (g : Nat) (U : Nat → Prop) (st : Option (List Int)) (w : World) (h : YdO w U g st) :
    Calls Tryd.prog 72 #[.pointer (some ⟨g, 0, none⟩)] w fun e w' => e = .returned (.bool (dy st)) ∧ w = w' := by
  cases st with
  | none =>
    obtain ⟨A, c, xs, h1, h2⟩ := h
    refine (ydone_any g true A c xs w h1).mono ?_
    rintro e w' ⟨rfl, rfl⟩
    exact ⟨by simp [yend, dy], rfl⟩
  | some xs =>
    obtain ⟨A, c, h1, h2⟩ := h
    refine (ydone_any g false A c xs w h1).mono ?_
    rintro e w' ⟨rfl, rfl⟩
    exact ⟨by simp [yend, dy], rfl⟩
/-- A plain reader that is laid of a row that reads as bytes. -/
theorem YdO.new {w : World} {A : Option Addr} {c : Nat} {xs : List Int} {U : Nat → Prop} {g : Nat} (hb : Blk w g 114 #[.slice A xs.length c, .bool false]) (hr : Rd w A xs.length (xs.map (Value.int .u8))) (hc : xs.length ≤ c) (hu : ∀ x ∈ xs, 0 ≤ x ∧ x ≤ 255) (hl : xs.length ≤ 140737488355328)
    (hA : ∀ a, A = some a → a.block ≠ g ∧ U a.block) (hg : U g) : YdO w U g (some xs) :=
  ⟨A, c, ⟨hb, hr, hc, fun _ a e => (hA a e).1, hu, hl⟩, fun k hk => by
    rcases hk with rfl | ⟨_, a, e, rfl⟩
    · exact hg
    · exact (hA a e).2⟩

theorem dn_zero (st : Option (List Int)) : dn st = 0 ↔ dy st = true := by
  cases st with
  | none => simp [dn, dy]
  | some xs =>
    simp only [dn, dy, endOf]
    split <;> simp_all
end Go.Proofs.YtpiplcakefcaaaaDoor.RdA
