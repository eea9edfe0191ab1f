/- LeGets: the walk. -/
import Derived.Test.YtlcafkjnikiomaaLeY
import Derived.Deep.RegionHeld3
namespace Go.Proofs.Ytlcafkjnikiomaa.LeGets
open Go.RowKit MSep MFrame LeA LeW LeR LeL LeX LeY

/-- Can a number of this size be got? -/
def goodG (bad : Bool) (ys : List Int) (n : Int) : Bool := !bad && (decide (n = 1 ∨ n = 2 ∨ n = 4 ∨ n = 8) && decide (n ≤ ys.length))
/-- The number that is got. -/
def valG (bad : Bool) (ys : List Int) (n : Int) : Int := bif goodG bad ys n then num (ys.take n.toNat) else 0
/-- Can an int be got? -/
def goodI (bad : Bool) (ys : List Int) (n a b : Int) : Bool := goodG bad ys n && (decide (a ≤ wrap64 (num (ys.take n.toNat))) && decide (wrap64 (num (ys.take n.toNat)) ≤ b))
def valI (bad : Bool) (ys : List Int) (n a b : Int) : Int := bif goodI bad ys n a b then wrap64 (num (ys.take n.toNat)) else 0
/-- Can so many bytes be got? -/
def goodB (bad : Bool) (ys : List Int) (n : Int) : Bool := !bad && (decide (0 ≤ n) && decide (n ≤ ys.length))
def valB (bad : Bool) (ys : List Int) (n : Int) : List Int := bif goodB bad ys n then ys.take n.toNat else []
/-- What a reader has left, at fault or not. -/
def rest (bad : Bool) (ys : List Int) : List Int := bif bad then [] else ys

theorem rget (r : Nat) (n : Int) (B : Nat) (bad : Bool) (A : Option Addr) (c : Nat) (ys : List Int) (w : World) (h : ROk w B r bad A c (rest bad ys)) :
    Calls Try.prog 19 #[.pointer (some ⟨r, 0, none⟩), .int .i64 n] w fun e w' => e = .returned (.int .u64 (valG bad ys n)) ∧
      (∃ A' c', ROk w' B r (!goodG bad ys n) A' c' (rest (!goodG bad ys n) (ys.drop n.toNat)) ∧ ∀ k, RF r A' k → RF r A k) ∧ Fr (fun k => k = r) w w' := by
  cases hg : goodG bad ys n with
  | true =>
    have hv : valG bad ys n = num (ys.take n.toNat) := by rw [valG, hg]; rfl
    rw [hv]
    simp [goodG] at hg
    obtain ⟨rfl, hs, hl⟩ := hg
    obtain ⟨m, rfl⟩ := Int.eq_ofNat_of_zero_le (show 0 ≤ n by omega)
    rw [Int.toNat_natCast]
    refine (get_ok r m B false A c ys w (by omega) (by omega) h).mono fun e w' ⟨he, h1, h2⟩ => ⟨he, ⟨_, _, h1, fun _ h => RF.cut h⟩, h2⟩
  | false =>
    have hv : valG bad ys n = 0 := by rw [valG, hg]; rfl
    rw [hv]
    have hn : ¬ (n = 1 ∨ n = 2 ∨ n = 4 ∨ n = 8) ∨ (rest bad ys).length < n := by
      by_cases hs : n = 1 ∨ n = 2 ∨ n = 4 ∨ n = 8
      · cases bad with
        | true => exact .inr (by simp [rest]; omega)
        | false =>
          simp [goodG] at hg
          exact .inr (by simp [rest]; have := hg hs; omega)
      · exact .inl hs
    refine (get_bad r n B bad A c _ w hn h).mono fun e w' ⟨he, h1, h2⟩ => ⟨he, ⟨_, _, h1, fun k hk => ?_⟩, h2⟩
    rcases hk with hk | ⟨a, ha, _⟩
    · exact .inl hk
    · cases ha

theorem yget (g : Nat) (n : Int) (bad : Bool) (A : Option Addr) (c : Nat) (ys : List Int) (w : World) (h : YOk w g bad A c ys) :
    Calls Try.prog 20 #[.pointer (some ⟨g, 0, none⟩), .int .i64 n] w fun e w' => e = .returned (.int .u64 (valG bad ys n)) ∧
      (∃ A' c' ys', YOk w' g (!goodG bad ys n) A' c' ys' ∧ (goodG bad ys n = true → ys' = ys.drop n.toNat) ∧ ∀ k, YF g A' ys' k → YF g A ys k) ∧ Fr (fun k => k = g) w w' := by
  cases hg : goodG bad ys n with
  | true =>
    have hv : valG bad ys n = num (ys.take n.toNat) := by rw [valG, hg]; rfl
    rw [hv]
    simp [goodG] at hg
    obtain ⟨rfl, hs, hl⟩ := hg
    obtain ⟨m, rfl⟩ := Int.eq_ofNat_of_zero_le (show 0 ≤ n by omega)
    rw [Int.toNat_natCast]
    refine (yget_ok g m A c ys w (by omega) (by omega) h).mono fun e w' ⟨he, h1, h2⟩ => ⟨he, ⟨_, _, _, h1, fun _ => rfl, fun _ h => YF.cut h⟩, h2⟩
  | false =>
    have hv : valG bad ys n = 0 := by rw [valG, hg]; rfl
    rw [hv]
    have hn : bad = true ∨ ¬ (n = 1 ∨ n = 2 ∨ n = 4 ∨ n = 8) ∨ ys.length < n := by
      cases bad with
      | true => exact .inl rfl
      | false =>
        by_cases hs : n = 1 ∨ n = 2 ∨ n = 4 ∨ n = 8
        · simp [goodG] at hg
          exact .inr (.inr (by have := hg hs; omega))
        · exact .inr (.inl hs)
    exact (yget_bad g n bad A c ys w hn h).mono fun e w' ⟨he, h1, h2⟩ => ⟨he, ⟨_, _, _, h1, fun h => (by cases h), fun _ h => h⟩, h2⟩

theorem rint (r : Nat) (n a b : Int) (B : Nat) (bad : Bool) (A : Option Addr) (c : Nat) (ys : List Int) (w : World) (h : ROk w B r bad A c (rest bad ys)) :
    Calls Try.prog 21 #[.pointer (some ⟨r, 0, none⟩), .int .i64 n, .int .i64 a, .int .i64 b] w fun e w' => e = .returned (.int .i64 (valI bad ys n a b)) ∧
      (∃ A' c', ROk w' B r (!goodI bad ys n a b) A' c' (rest (!goodI bad ys n a b) (ys.drop n.toNat)) ∧ ∀ k, RF r A' k → RF r A k) ∧ Fr (fun k => k = r) w w' := by
  cases hg : goodG bad ys n with
  | true =>
    have hg' := hg
    simp [goodG] at hg
    obtain ⟨rfl, hs, hl⟩ := hg
    obtain ⟨m, rfl⟩ := Int.eq_ofNat_of_zero_le (show 0 ≤ n by omega)
    cases hi : goodI false ys m a b with
    | true =>
      have hv : valI false ys m a b = wrap64 (num (ys.take m)) := by rw [valI, hi]; rfl
      rw [hv]
      simp [goodI] at hi
      rw [Int.toNat_natCast]
      exact (int_ok r m a b B A c ys w (by omega) (by omega) h hi.2.1 hi.2.2).mono fun e w' ⟨he, h1, h2⟩ => ⟨he, ⟨_, _, h1, fun _ h => RF.cut h⟩, h2⟩
    | false =>
      have hv : valI false ys m a b = 0 := by rw [valI, hi]; rfl
      rw [hv]
      have ho : wrap64 (num (ys.take m)) < a ∨ b < wrap64 (num (ys.take m)) := by
        rw [goodI, hg'] at hi
        simp at hi
        omega
      refine (int_out r m a b B A c ys w (by omega) (by omega) h ho).mono fun e w' ⟨he, h1, h2⟩ => ⟨he, ⟨_, _, h1, fun k hk => ?_⟩, h2⟩
      rcases hk with hk | ⟨a, ha, _⟩
      · exact .inl hk
      · cases ha
  | false =>
    have hi : goodI bad ys n a b = false := by rw [goodI, hg]; rfl
    have hv : valI bad ys n a b = 0 := by rw [valI, hi]; rfl
    rw [hv, hi]
    have hn : ¬ (n = 1 ∨ n = 2 ∨ n = 4 ∨ n = 8) ∨ (rest bad ys).length < n := by
      by_cases hs : n = 1 ∨ n = 2 ∨ n = 4 ∨ n = 8
      · cases bad with
        | true => exact .inr (by simp [rest]; omega)
        | false =>
          simp [goodG] at hg
          exact .inr (by simp [rest]; have := hg hs; omega)
      · exact .inl hs
    refine (int_bad r n a b B bad A c _ w hn h).mono fun e w' ⟨he, h1, h2⟩ => ⟨he, ⟨_, _, h1, fun k hk => ?_⟩, h2⟩
    rcases hk with hk | ⟨a, ha, _⟩
    · exact .inl hk
    · cases ha

theorem yint (g : Nat) (n a b : Int) (bad : Bool) (A : Option Addr) (c : Nat) (ys : List Int) (w : World) (h : YOk w g bad A c ys) :
    Calls Try.prog 22 #[.pointer (some ⟨g, 0, none⟩), .int .i64 n, .int .i64 a, .int .i64 b] w fun e w' => e = .returned (.int .i64 (valI bad ys n a b)) ∧
      (∃ A' c' ys', YOk w' g (!goodI bad ys n a b) A' c' ys' ∧ (goodI bad ys n a b = true → ys' = ys.drop n.toNat) ∧ ∀ k, YF g A' ys' k → YF g A ys k) ∧ Fr (fun k => k = g) w w' := by
  cases hg : goodG bad ys n with
  | true =>
    have hg' := hg
    simp [goodG] at hg
    obtain ⟨rfl, hs, hl⟩ := hg
    obtain ⟨m, rfl⟩ := Int.eq_ofNat_of_zero_le (show 0 ≤ n by omega)
    cases hi : goodI false ys m a b with
    | true =>
      have hv : valI false ys m a b = wrap64 (num (ys.take m)) := by rw [valI, hi]; rfl
      rw [hv]
      simp [goodI] at hi
      rw [Int.toNat_natCast]
      exact (yint_ok g m a b A c ys w (by omega) (by omega) h hi.2.1 hi.2.2).mono fun e w' ⟨he, h1, h2⟩ => ⟨he, ⟨_, _, _, h1, fun _ => rfl, fun _ h => YF.cut h⟩, h2⟩
    | false =>
      have hv : valI false ys m a b = 0 := by rw [valI, hi]; rfl
      rw [hv]
      have ho : wrap64 (num (ys.take m)) < a ∨ b < wrap64 (num (ys.take m)) := by
        rw [goodI, hg'] at hi
        simp at hi
        omega
      exact (yint_out g m a b A c ys w (by omega) (by omega) h ho).mono fun e w' ⟨he, ⟨A', c', ys', h1, h2⟩, h3⟩ => ⟨he, ⟨_, _, _, h1, fun h => (by cases h), h2⟩, h3⟩
  | false =>
    have hi : goodI bad ys n a b = false := by rw [goodI, hg]; rfl
    have hv : valI bad ys n a b = 0 := by rw [valI, hi]; rfl
    rw [hv, hi]
    have hn : bad = true ∨ ¬ (n = 1 ∨ n = 2 ∨ n = 4 ∨ n = 8) ∨ ys.length < n := by
      cases bad with
      | true => exact .inl rfl
      | false =>
        by_cases hs : n = 1 ∨ n = 2 ∨ n = 4 ∨ n = 8
        · simp [goodG] at hg
          exact .inr (.inr (by have := hg hs; omega))
        · exact .inr (.inl hs)
    exact (yint_bad g n a b bad A c ys w hn h).mono fun e w' ⟨he, h1, h2⟩ => ⟨he, ⟨_, _, _, h1, fun h => (by cases h), fun _ h => h⟩, h2⟩

theorem rbytes (r : Nat) (n : Int) (B : Nat) (bad : Bool) (A : Option Addr) (c : Nat) (ys : List Int) (w : World) (hB : B ≤ w.heap.size) (h : ROk w B r bad A c (rest bad ys)) :
    Calls Try.prog 23 #[.pointer (some ⟨r, 0, none⟩), .int .i64 n] w fun e w' => (∃ A2 c2, e = .returned (.slice A2 (valB bad ys n).length c2) ∧ Rd w' A2 (valB bad ys n).length ((valB bad ys n).map (Value.int .u8)) ∧ ∀ g o, A2 = some ⟨g, o, none⟩ → 0 < (valB bad ys n).length → w.heap.size ≤ g) ∧
      (∃ A' c', ROk w' B r (!goodB bad ys n) A' c' (rest (!goodB bad ys n) (ys.drop n.toNat)) ∧ ∀ k, RF r A' k → RF r A k) ∧ Fr (fun k => k = r) w w' := by
  cases hg : goodB bad ys n with
  | true =>
    have hv : valB bad ys n = ys.take n.toNat := by rw [valB, hg]; rfl
    rw [hv]
    simp [goodB] at hg
    obtain ⟨rfl, hs, hl⟩ := hg
    obtain ⟨m, rfl⟩ := Int.eq_ofNat_of_zero_le hs
    rw [Int.toNat_natCast]
    have hlm : (ys.take m).length = m := by simp; omega
    rw [hlm]
    refine (bytes_ok r m B false A c ys w (by omega) hB h).mono fun e w' ⟨A2, c2, he, h1, h2, h3, h4⟩ => ⟨⟨A2, c2, he, ?_, ?_⟩, ⟨_, _, h2, fun _ h => RF.cut h⟩, h3⟩
    · have := Rd.own h1
      rw [List.map_take]
      exact this
    · rintro g o rfl _
      exact h4 g rfl
  | false =>
    have hv : valB bad ys n = [] := by rw [valB, hg]; rfl
    rw [hv]
    have hcase : (n < 0 ∨ (rest bad ys).length < n) ∨ (bad = true ∧ n = 0) := by
      cases bad with
      | true => simp [rest]; omega
      | false =>
        simp [goodB] at hg
        simp [rest]
        omega
    rcases hcase with hn | ⟨rfl, rfl⟩
    · refine (LeR.bytes_bad r n B bad A c _ w hn hB h).mono fun e w' ⟨A2, c2, he, h1, h2⟩ => ⟨⟨A2, c2, he, Rd.nil _ _, fun _ _ _ h => absurd h (by simp)⟩, ⟨_, _, h1, fun k hk => ?_⟩, h2⟩
      rcases hk with hk | ⟨a, ha, _⟩
      · exact .inl hk
      · cases ha
    · refine (bytes_ok r 0 B true A c _ w (Nat.zero_le _) hB h).mono fun e w' ⟨A2, c2, he, h1, h2, h3, h4⟩ => ⟨⟨A2, c2, he, Rd.nil _ _, fun _ _ _ h => absurd h (by simp)⟩, ⟨_, _, h2, fun _ h => RF.cut h⟩, h3⟩

theorem ybytes (g : Nat) (n : Int) (bad : Bool) (A : Option Addr) (c : Nat) (ys : List Int) (w : World) (h : YOk w g bad A c ys) :
    Calls Try.prog 24 #[.pointer (some ⟨g, 0, none⟩), .int .i64 n] w fun e w' => (∃ A2 c2, e = .returned (.slice A2 (valB bad ys n).length c2) ∧ Rd w' A2 (valB bad ys n).length ((valB bad ys n).map (Value.int .u8))) ∧
      (∃ A' c' ys', YOk w' g (!goodB bad ys n) A' c' ys' ∧ (goodB bad ys n = true → ys' = ys.drop n.toNat) ∧ ∀ k, YF g A' ys' k → YF g A ys k) ∧ Fr (fun k => k = g) w w' := by
  cases hg : goodB bad ys n with
  | true =>
    have hv : valB bad ys n = ys.take n.toNat := by rw [valB, hg]; rfl
    rw [hv]
    simp [goodB] at hg
    obtain ⟨rfl, hs, hl⟩ := hg
    obtain ⟨m, rfl⟩ := Int.eq_ofNat_of_zero_le hs
    rw [Int.toNat_natCast]
    have hlm : (ys.take m).length = m := by simp; omega
    rw [hlm, List.map_take]
    exact (ybytes_ok g m A c ys w (by omega) h).mono fun e w' ⟨he, h1, h2, h3⟩ => ⟨⟨_, _, he, h2⟩, ⟨_, _, _, h1, fun _ => rfl, fun _ h => YF.cut h⟩, h3⟩
  | false =>
    have hv : valB bad ys n = [] := by rw [valB, hg]; rfl
    rw [hv]
    have hn : bad = true ∨ n < 0 ∨ ys.length < n := by
      cases bad with
      | true => exact .inl rfl
      | false =>
        simp [goodB] at hg
        omega
    exact (ybytes_bad g n bad A c ys w hn h).mono fun e w' ⟨he, h1, h2⟩ => ⟨⟨_, _, he, Rd.nil _ _⟩, ⟨_, _, _, h1, fun h => (by cases h), fun _ h => h⟩, h2⟩

/-- Both readers, alike. -/
structure Pair (w : World) (B r gy : Nat) (bad : Bool) (A : Option Addr) (c : Nat) (Ay : Option Addr) (cy : Nat) (ys : List Int) : Prop where
  ro : ROk w B r bad A c (rest bad ys)
  yo : YOk w gy bad Ay cy ys
  fr : ∀ k, RF r A k → B ≤ k ∧ k < gy
  fy : ∀ k, YF gy Ay ys k → k = gy ∨ k < B

theorem Pair.fr_ {w w' : World} {B r gy : Nat} {bad : Bool} {A : Option Addr} {c : Nat} {Ay : Option Addr} {cy : Nat} {ys : List Int} (h : Pair w B r gy bad A c Ay cy ys) (hf : Fr No w w') : Pair w' B r gy bad A c Ay cy ys :=
  ⟨h.ro.fr hf (fun _ _ h => h), h.yo.fr hf (fun _ _ h => h), h.fr, h.fy⟩

/-- A step of the one, then of the other. -/
theorem Pair.step {w w1 w2 : World} {B r gy : Nat} {bad bad' : Bool} {A A' : Option Addr} {c c' : Nat} {Ay Ay' : Option Addr} {cy cy' : Nat} {ys ys1 ys' : List Int} (h : Pair w B r gy bad A c Ay cy ys)
    (h1 : ROk w1 B r bad' A' c' (rest bad' ys1)) (s1 : ∀ k, RF r A' k → RF r A k) (h2 : YOk w2 gy bad' Ay' cy' ys') (s2 : ∀ k, YF gy Ay' ys' k → YF gy Ay ys k) (f2 : Fr (fun k => k = gy) w1 w2) (he : bad' = false → ys' = ys1) :
    Pair w2 B r gy bad' A' c' Ay' cy' ys' := by
  have hr : rest bad' ys1 = rest bad' ys' := by
    cases bad' with
    | true => rfl
    | false => rw [he rfl]
  rw [hr] at h1
  exact ⟨h1.fr f2 (fun k hk e => by have := (h.fr k (s1 k hk)).2; omega), h2, fun k hk => h.fr k (s1 k hk), fun k hk => h.fy k (s2 k hk)⟩

theorem Pair.y1 {w w1 : World} {B r gy : Nat} {bad : Bool} {A : Option Addr} {c : Nat} {Ay : Option Addr} {cy : Nat} {ys : List Int} (h : Pair w B r gy bad A c Ay cy ys) (f : Fr (fun k => k = r) w w1) : YOk w1 gy bad Ay cy ys :=
  h.yo.fr f (fun k hk e => by
    subst e
    have h1 := h.fr k (.inl rfl)
    rcases h.fy k hk with h2 | h2 <;> omega)

/-- How much is left. -/
def leftV (bad : Bool) (ys : List Int) : Int := bif bad then 0 else ys.length
theorem rleft (r : Nat) (B : Nat) (bad : Bool) (A : Option Addr) (c : Nat) (ys : List Int) (w : World) (h : ROk w B r bad A c (rest bad ys)) :
    Calls Try.prog 25 #[.pointer (some ⟨r, 0, none⟩)] w fun e w' => e = .returned (.int .i64 (leftV bad ys)) ∧ w = w' := by
  refine (left_any r B bad A c _ w h).mono fun e w' ⟨he, hw⟩ => ⟨?_, hw⟩
  rw [he]
  cases bad <;> rfl

set_option maxRecDepth 100000 in
set_option maxHeartbeats 4000000 in
theorem walk_ (A : Option Addr) (l c : Nat) (zs : List Int) (A1 : Option Addr) (l1 c1 : Nat) (ops : List OpV) (w : World) (hb : IsB w A l c zs) (hc : c ≤ reachBytes) (hops : OpsAt w A1 l1 ops) :
    Calls Try.prog 4 #[.slice A l c, .slice A1 l1 c1] w fun e w' => e = .returned (.bool true) ∧ Below w.heap.size w w' := by
  obtain ⟨i0, hi, hz0, hz1, hz2⟩ := info_parts u8_info
  have hlc := hb.2.1
  have hl1 := hops.2.1
  unfold maxLen at hl1
  unfold reachBytes at hc
  have hlen : zs.length = l := by simpa using hb.1.1
  have HLEN := hid hlen
  have HBB := hid hb
  have HOP := hid hops
  clear hb hops hlen
  have hown0 : (w.alloc (.cells #[] 5)).ownsRow w.heap.size 5 1 (.slice (some ⟨w.heap.size, 0, none⟩) 0 0) 0 [] := World.ownsRow_lit w #[] 0 (Nat.le_refl _) (by simp [maxLen]) rfl
  have hrd1 : Rd (w.alloc (.cells #[] 5)) A l (zs.map (Value.int .u8)) := HBB.out.1.fr (S := No) ((Fr.refl _ _).alloc _) (fun _ _ _ h => h)
  go_enter Try.func4, Try.ntmps4
  go_wp2_with (at_builtin; go_must (refine wpList_app rfl (.tmp 13) (.tmp 14) 27 rfl w.heap.size 5 i0 (.int .u8 0) 1 Try.underlying27 hi hz0 hz1 hz2 rfl _ 0 [] rfl hown0 A _ c _ rfl hrd1 one_u8s (by simp only [maxLen]; omega) (by omega) (by simp) ?_))
  intro A2 c2 w2 hown2 hF2 hO2
  have G2 : Fr No w w2 := ((Fr.refl _ w).alloc _).step hF2 (fun i hi h => by simp [Value.ownBlock] at h; omega)
  have hown3 : w2.ownsRow w.heap.size 5 1 (.slice A2 l c2) l (zs.map (Value.int .u8)) := by simpa using hown2
  have L2 := G2.size
  have HO3 := hid hown3
  clear hown0 hrd1 hown2 hF2 hO2 hown3
  have hu8 := HBB.out.2.2.2
  have HU8 := hid hu8
  clear hu8
  go_wp2_with fail
  refine (take_any _ _ _ zs w.heap.size _ (Rd.own HO3.out) HU8.out (by omega) L2).mono ?_
  rintro e w3 ⟨r, A3, c3, rfl, R3, F3, hr3, hl3⟩
  have G3 := G2.trans F3
  have L3 := F3.size
  have own3 := own_fr HO3.out F3 (fun _ _ h => h)
  have HRG := hid hr3
  have HRL := hid hl3
  have HA2 := hid (fun g (h : (Value.slice A2 l c2).ownBlock = some g) => (HO3.out.lt g h).2)
  have HO3' := hid own3
  clear HO3 own3 F3 hr3 hl3
  go_wp2_with fail
  refine (lives_any _).mono ?_
  rintro e w5 ⟨rfl, F5⟩
  have F35 : Fr No w3 w5 := ((Fr.refl _ w3).alloc _).trans F5
  have G5 := G3.trans F35
  have R5 := R3.fr F35 (fun _ _ h => h)
  have blk5 := (Blk.new w3 47 #[.slice A l c, .bool false]).fr F5 (fun h => h)
  have hbA : ∀ a, A = some a → 0 < l → a.block < w.heap.size := by
    intro a ha h0
    obtain ⟨g, o, e, hg, _⟩ := HBB.out.1.2 h0
    rw [ha] at e
    injection e with e
    subst e
    exact hg
  have own5 := own_fr HO3'.out F35 (fun _ _ h => h)
  have HO5 := hid own5
  have hL := HLEN.out
  have P0 : Pair w5 w.heap.size r w3.heap.size false A3 c3 A c zs := by
    refine ⟨R5, ⟨by rw [hL]; exact blk5, ?_, by omega, fun h0 a ha => ?_, HU8.out, by omega⟩, fun k hk => ⟨?_, HRL.out k hk⟩, ?_⟩
    · rw [hL]
      exact HBB.out.1.fr G5 (fun _ _ _ h => h)
    · have := hbA a ha (by omega)
      omega
    · have := HRG.out k hk
      omega
    · rintro k (rfl | ⟨h0, a, ha, rfl⟩)
      · exact .inl rfl
      · exact .inr (hbA a ha (by omega))
  have HP0 := hid P0
  clear P0 R5 R3 blk5 hbA own5 HO3' F35 F5 hL
  go_wp2_with fail
  go_loopw [8] (fun i wr => ∃ (k : Nat) (bad : Bool) (A' : Option Addr) (c' : Nat) (Ay : Option Addr) (cy : Nat) (ys : List Int), k ≤ l1 ∧ i = .int .i64 k ∧ Pair wr w.heap.size r w3.heap.size bad A' c' Ay cy ys ∧ Fr (fun k => w2.heap.size ≤ k) w5 wr) (fun i _ => l1 - (intOf i).toNat)
  case atStart => exact ⟨0, false, A3, c3, A, c, zs, by omega, rfl, HP0.out, Fr.refl _ _⟩
  case round =>
    obtain ⟨k, bad, A', c', Ay, cy, ys, hk, rfl, hP, hF⟩ := hrel
    have HP := hid hP
    have HF := hid hF
    have hsz := hF.size
    clear hP hF
    by_cases hlt : k < l1
    · have hFN : Fr No w wr := G5.step HF.out (fun i hi h => by omega)
      obtain ⟨v, g, o, rfl, hv, hfit, e0, e1, e2, e3, e4, e5⟩ := HOP.out.at_ hFN hlt
      have PA := HP.out.fr_ (w' := wr.alloc (.cells #[.int .i64 v.kind, .int .i64 v.size, .int .u64 v.n, .slice v.ba v.bl v.bc, .int .i64 v.least, .int .i64 v.most] 32)) ((Fr.refl _ _).alloc _)
      have hbk := Blk.new wr 32 #[.int .i64 v.kind, .int .i64 v.size, .int .u64 v.n, .slice v.ba v.bl v.bc, .int .i64 v.least, .int .i64 v.most]
      have hry : r < wr.heap.size ∧ w3.heap.size < wr.heap.size := ⟨HP.out.ro.blk.lt, HP.out.yo.blk.lt⟩
      cases hk3 : (v.kind == 3) with
      | true =>
        go_wp2_with fail
        refine (rget _ _ _ _ _ _ _ _ PA.ro).mono ?_
        rintro e wP ⟨rfl, ⟨A6, c6, R6, s6⟩, F6⟩
        have bk6 := hbk.fr F6 (fun h => by omega)
        have p1 := bk6.cell 1
        have Y6 := PA.y1 F6
        go_wp2_with fail
        refine (yget _ _ _ _ _ _ _ Y6).mono ?_
        rintro e wY ⟨rfl, ⟨A7, c7, ys7, Y7, hy7, s7⟩, F7⟩
        have PN := PA.step R6 s6 Y7 s7 F7 (fun h => hy7 (by simpa using h))
        have HPN := hid PN
        have HFN : Hid (Fr (fun k => w2.heap.size ≤ k) w5 wY) := ((HF.out.alloc _).step F6 (fun i hi h => by subst h; exact HRG.out i (.inl rfl))).step F7 (fun i hi h => by subst h; exact L3)
        clear PN F6 F7 hy7 s7 Y7 R6 s6 Y6 PA
        obtain ⟨lv, hlv⟩ : ∃ lv, leftV (!goodG bad ys v.size) ys7 = lv := ⟨_, rfl⟩
        have RL := rleft _ _ _ _ _ _ _ HPN.out.ro
        have YL := yleft_any _ _ _ _ _ _ HPN.out.yo
        rw [hlv] at RL
        rw [show (bif (!goodG bad ys v.size) then (0 : Int) else (ys7.length : Int)) = lv from hlv] at YL
        have HRL' := hid RL
        have HYL := hid YL
        clear RL YL hlv
        go_wp2_with (first
          | (go_at_call 25; refine HRL'.out.mono ?_; rintro e w' ⟨rfl, rfl⟩)
          | (go_at_call 26; refine HYL.out.mono ?_; rintro e w' ⟨rfl, rfl⟩))
        go_roundw
        case rel => exact ⟨k + 1, _, _, _, _, _, _, by omega, by go_num, HPN.out, HFN.out⟩
        case measure => simp [intOf]; omega
      | false =>
        cases hk4 : (v.kind == 4) with
        | true =>
          have P := rint r v.size v.least v.most _ _ _ _ _ _ ((PA.fr_ ((Fr.refl _ _).drewN 1)).ro)
          have HPP := hid P
          clear P
          go_wp2_with fail
          have HDD := hid (hbk.drewN 1)
          have HPA := hid (PA.fr_ ((Fr.refl _ _).drewN 1))
          have b1 := hbk.cell 1
          have b4 := hbk.cell 4
          have b5 := hbk.cell 5
          clear PA
          go_region_held3 (fun w' => w'.cell? ⟨wr.heap.size, 1, none⟩ = some (.int .i64 v.size) ∧ w'.cell? ⟨wr.heap.size, 4, none⟩ = some (.int .i64 v.least) ∧ w'.cell? ⟨wr.heap.size, 5, none⟩ = some (.int .i64 v.most)) (go_keep)
            (first | (go_at_call 21; refine HPP.out.mono ?_; rintro e wP ⟨rfl, ⟨A6, c6, R6, s6⟩, F6⟩; have bk6 := HDD.out.fr F6 (fun h => by omega); have p1 := bk6.cell 1; have p4 := bk6.cell 4; have p5 := bk6.cell 5; have Y6 := HPA.out.y1 F6) | (go_at_call 22; refine (yint _ _ _ _ _ _ _ _ _ Y6).mono ?_; rintro e wY ⟨rfl, ⟨A7, c7, ys7, Y7, hy7, s7⟩, F7⟩; have bk7 := bk6.fr F7 (fun h => by omega); have q1 := bk7.cell 1; have q4 := bk7.cell 4; have q5 := bk7.cell 5))
          have PN := HPA.out.step R6 s6 Y7 s7 F7 (fun h => hy7 (by simpa using h))
          clear bk6 bk7 p1 p4 p5 q1 q4 q5
          have HPN := hid PN
          have HFN : Hid (Fr (fun k => w2.heap.size ≤ k) w5 wY) := ((HF.out.alloc _).drew.step F6 (fun i hi h => by subst h; exact HRG.out i (.inl rfl))).step F7 (fun i hi h => by subst h; exact L3)
          clear PN F6 F7 hy7 s7 Y7 R6 s6 Y6
          obtain ⟨lv, hlv⟩ : ∃ lv, leftV (!goodI bad ys v.size v.least v.most) ys7 = lv := ⟨_, rfl⟩
          have RL := rleft _ _ _ _ _ _ _ HPN.out.ro
          have YL := yleft_any _ _ _ _ _ _ HPN.out.yo
          rw [hlv] at RL
          rw [show (bif (!goodI bad ys v.size v.least v.most) then (0 : Int) else (ys7.length : Int)) = lv from hlv] at YL
          have HRL' := hid RL
          have HYL := hid YL
          clear RL YL hlv
          go_wp2_with (first
            | (go_at_call 25; refine HRL'.out.mono ?_; rintro e w' ⟨rfl, rfl⟩)
            | (go_at_call 26; refine HYL.out.mono ?_; rintro e w' ⟨rfl, rfl⟩))
          go_roundw
          case rel => exact ⟨k + 1, _, _, _, _, _, _, by omega, by go_num, HPN.out, HFN.out⟩
          case measure => simp [intOf]; omega
        | false =>
          cases hk5 : (v.kind == 5) with
          | true =>
            have P := rbytes r v.least w.heap.size bad _ _ _ _ (by simp; omega) ((PA.fr_ ((Fr.refl _ _).drewN 1)).ro)
            have HPP := hid P
            clear P
            go_wp2_with fail
            have HDD := hid (hbk.drewN 1)
            have HPA := hid (PA.fr_ ((Fr.refl _ _).drewN 1))
            have b4 := hbk.cell 4
            clear PA
            go_region_with
              (first | (go_at_call 23; refine HPP.out.mono ?_; rintro e wP ⟨⟨B6, d6, rfl, rd6, new6⟩, ⟨A6, c6, R6, s6⟩, F6⟩; have bk6 := HDD.out.fr F6 (fun h => by omega); have p4 := bk6.cell 4; have st6 := run_str (P := Try.prog) wP 27 9 5 Try.underlying27 Try.underlying5 Try.underlying9 _ _ d6 _ rd6; have Y6 := HPA.out.y1 F6; have L6 := F6.size; have NEW := hid new6; clear new6) | (go_at_call 24; refine (ybytes _ _ _ _ _ _ _ Y6).mono ?_; rintro e wY ⟨⟨B7, d7, rfl, rd7⟩, ⟨A7, c7, ys7, Y7, hy7, s7⟩, F7⟩; have bk7 := bk6.fr F7 (fun h => by omega); have q4 := bk7.cell 4; have st7 := run_str (P := Try.prog) wY 27 9 5 Try.underlying27 Try.underlying5 Try.underlying9 _ _ d7 _ rd7; have st8 := run_str (P := Try.prog) wY 27 9 5 Try.underlying27 Try.underlying5 Try.underlying9 _ _ d6 _ (LeY.Rd.fr_pos rd6 F7 (fun h0 g o e h => by have := NEW.out g o e h0; simp at this; omega))))
            all_goals
              have PN := HPA.out.step R6 s6 Y7 s7 F7 (fun h => hy7 (by simpa using h))
              clear bk6 bk7 p4 q4 st6 st7 st8
              have HPN := hid PN
              have HFN : Hid (Fr (fun k => w2.heap.size ≤ k) w5 wY) := ((HF.out.alloc _).drew.step F6 (fun i hi h => by subst h; exact HRG.out i (.inl rfl))).step F7 (fun i hi h => by subst h; exact L3)
              clear PN F6 F7 hy7 s7 Y7 R6 s6 Y6
              obtain ⟨lv, hlv⟩ : ∃ lv, leftV (!goodB bad ys v.least) ys7 = lv := ⟨_, rfl⟩
              have RL := rleft _ _ _ _ _ _ _ HPN.out.ro
              have YL := yleft_any _ _ _ _ _ _ HPN.out.yo
              rw [hlv] at RL
              rw [show (bif (!goodB bad ys v.least) then (0 : Int) else (ys7.length : Int)) = lv from hlv] at YL
              have HRL' := hid RL
              have HYL := hid YL
              clear RL YL hlv
              go_wp2_with (first
                | (go_at_call 25; refine HRL'.out.mono ?_; rintro e w' ⟨rfl, rfl⟩)
                | (go_at_call 26; refine HYL.out.mono ?_; rintro e w' ⟨rfl, rfl⟩))
              go_roundw
              case rel => exact ⟨k + 1, _, _, _, _, _, _, by omega, by go_num, HPN.out, HFN.out⟩
              case measure => simp [intOf]; omega
          | false =>
            have HPN := hid PA
            have HFN : Hid (Fr (fun k => w2.heap.size ≤ k) w5 (wr.alloc (.cells #[.int .i64 v.kind, .int .i64 v.size, .int .u64 v.n, .slice v.ba v.bl v.bc, .int .i64 v.least, .int .i64 v.most] 32))) := (HF.out.alloc _)
            obtain ⟨lv, hlv⟩ : ∃ lv, leftV bad ys = lv := ⟨_, rfl⟩
            have RL := rleft _ _ _ _ _ _ _ PA.ro
            have YL := yleft_any _ _ _ _ _ _ PA.yo
            rw [hlv] at RL
            rw [show (bif bad then (0 : Int) else (ys.length : Int)) = lv from hlv] at YL
            have HRL' := hid RL
            have HYL := hid YL
            clear RL YL hlv PA
            go_wp2_with (first
              | (go_at_call 25; refine HRL'.out.mono ?_; rintro e w' ⟨rfl, rfl⟩)
              | (go_at_call 26; refine HYL.out.mono ?_; rintro e w' ⟨rfl, rfl⟩))
            go_roundw
            case rel => exact ⟨k + 1, _, _, _, _, _, _, by omega, by go_num, HPN.out, HFN.out⟩
            case measure => simp [intOf]; omega
    · have hFN : Fr No w wr := G5.step HF.out (fun i hi h => by omega)
      have HFN := hid hFN
      have ownr : Rd wr A2 l (zs.map (Value.int .u8)) := by
        refine LeY.Rd.fr_pos (Rd.own HO5.out) HF.out (fun h0 g o e h => ?_)
        have h1 := HA2.out g (by rw [e]; rfl)
        omega
      have st1 := run_str (P := Try.prog) wr 27 9 5 Try.underlying27 Try.underlying5 Try.underlying9 _ _ c2 _ ownr
      have st2 := run_str (P := Try.prog) wr 27 9 5 Try.underlying27 Try.underlying5 Try.underlying9 _ _ c _ ((HBB.out.fr hFN).1)
      clear ownr hFN
      obtain rfl : k = l1 := by omega
      cases bad with
      | true =>
        have RD := done_bad _ _ _ _ _ _ HP.out.ro
        have YD := ydone_any _ _ _ _ _ _ HP.out.yo
        rw [show yend true ys = false by simp [yend]] at YD
        have HRD := hid RD
        have HYD := hid YD
        clear RD YD
        go_wp2_with (first
          | (go_at_call 27; refine HRD.out.mono ?_; rintro e w' ⟨rfl, rfl⟩)
          | (go_at_call 28; refine HYD.out.mono ?_; rintro e w' ⟨rfl, rfl⟩))
        go_ret
        exact ⟨by simp, HFN.out.below (Nat.le_refl _) (fun _ h => h.elim)⟩
      | false =>
        have RD := done_ok _ _ _ _ _ _ HP.out.ro
        have YD := ydone_any _ _ _ _ _ _ HP.out.yo
        cases hz : allZero ys with
        | true =>
          rw [show endOf (rest false ys) = 0 by simp [endOf, rest, hz]] at RD
          rw [show yend false ys = true by simp [yend, hz]] at YD
          have HRD := hid RD
          have HYD := hid YD
          clear RD YD hz
          go_wp2_with (first
            | (go_at_call 27; refine HRD.out.mono ?_; rintro e w' ⟨rfl, rfl⟩)
            | (go_at_call 28; refine HYD.out.mono ?_; rintro e w' ⟨rfl, rfl⟩))
          go_ret
          exact ⟨by simp, HFN.out.below (Nat.le_refl _) (fun _ h => h.elim)⟩
        | false =>
          rw [show endOf (rest false ys) = 10 by simp [endOf, rest, hz]] at RD
          rw [show yend false ys = false by simp [yend, hz]] at YD
          have HRD := hid RD
          have HYD := hid YD
          clear RD YD hz
          go_wp2_with (first
            | (go_at_call 27; refine HRD.out.mono ?_; rintro e w' ⟨rfl, rfl⟩)
            | (go_at_call 28; refine HYD.out.mono ?_; rintro e w' ⟨rfl, rfl⟩))
          go_ret
          exact ⟨by simp, HFN.out.below (Nat.le_refl _) (fun _ h => h.elim)⟩
end Go.Proofs.Ytlcafkjnikiomaa.LeGets
