/- Contracts: places at given numbers. -/
import Derived.Test.YthldppgbopiaiaaChecked
import Derived.Test.YthldppgbopiaiaaSep
import Derived.WalkLawsBesides
import Derived.Deep.QuietTactic
import Derived.BigQuiet
import Derived.Laws.FloatArith
import Derived.Laws.ComplexArith
namespace Go.Proofs.Ythldppgbopiaiaa.PoA
open Go.RowKit MSep

theorem isTrack10 (w : World) : Calls Try.prog 69 #[.int .i64 10] w fun e w' => e = .returned (.bool true) ∧ w = w' := by
  go_enter Try.func69, Try.ntmps69
  go_wp2
  go_ret
  exact ⟨rfl, rfl⟩
/-- What the model answers of a whole number that is no less than 0, as a float (its bits: x). -/
structure Whole (x : Nat) : Prop where
  trunc : ∀ w, (callFunc 103 #[.float .f64 x]).run Try.prog w = .ok (.value (.float .f64 x)) w
  bits : ∀ w, (callFunc 102 #[.float .f64 x]).run Try.prog w = .ok (.value (.int .u64 x)) w
  from_ : ∀ w, (callFunc 101 #[.int .u64 x]).run Try.prog w = .ok (.value (.float .f64 x)) w
  sign : Go.bits BinOp.andNot IntKind.u64 (x : Int) 9223372036854775808 = x
  same : FloatKind.f64.format.order x x = some .eq
  small : FloatKind.f64.format.order x 4697254411347427328 = some .lt
set_option maxHeartbeats 1000000 in
set_option maxRecDepth 100000 in
theorem isPart_ok (x : Nat) (h : Whole x) (w : World) : Calls Try.prog 72 #[.float .f64 x] w fun e w' => e = .returned (.bool true) ∧ w = w' := by
  have h1 := h.trunc
  have h2 := h.bits
  have h3 := h.from_
  have h4 := h.sign
  have h5 := h.same
  have h6 := h.small
  clear h
  go_enter Try.func72, Try.ntmps72
  go_wp2
  go_ret
  exact ⟨rfl, rfl⟩
theorem may_ok (x y : Nat) (hx : Whole x) (hy : Whole y) (w : World) : Calls Try.prog 60 #[.complex .f64 x y] w fun e w' => e = .returned (.bool true) ∧ w = w' := by
  have HX := hid (isPart_ok x hx)
  have HY := hid (isPart_ok y hy)
  clear hx hy
  go_enter Try.func60, Try.ntmps60
  go_wp2_with fail
  refine (HX.out _).mono ?_
  rintro e w1 ⟨rfl, rfl⟩
  go_wp2_with fail
  refine (HY.out _).mono ?_
  rintro e w1 ⟨rfl, rfl⟩
  go_wp2_with fail
  go_ret
  exact ⟨rfl, rfl⟩
/-- No less than 0. -/
def NN (x : Nat) : Prop := FloatKind.f64.format.order x 0 = some .gt ∨ FloatKind.f64.format.order x 0 = some .eq
set_option maxHeartbeats 1000000 in
set_option maxRecDepth 100000 in
theorem onPlatter_ok (x y : Nat) (hx : Whole x) (hy : Whole y) (nx : NN x) (ny : NN y) (hl : FloatKind.f64.format.order y (floatOfInt FloatKind.f64 10) = some .lt) (w : World) : Calls Try.prog 66 #[.complex .f64 x y, .int .i64 10] w fun e w' => e = .returned (.bool true) ∧ w = w' := by
  have HM := hid (may_ok x y hx hy)
  clear hx hy
  rcases nx with nx | nx
  all_goals
    rcases ny with ny | ny
    all_goals
      go_enter Try.func66, Try.ntmps66
      go_wp2_with fail
      refine (isTrack10 _).mono ?_
      rintro e w1 ⟨rfl, rfl⟩
      go_wp2_with fail
      refine (HM.out _).mono ?_
      rintro e w1 ⟨rfl, rfl⟩
      go_wp2_with fail
      go_ret
      exact ⟨by first | rfl | simp_all, rfl⟩
/-- As a whole number it is n. -/
def Cv (x : Nat) (n : Int) : Prop := ∀ w, (convert 77 3 (.float .f64 x)).run Try.prog w = .ok (.int .i64 n) w
set_option maxHeartbeats 1000000 in
set_option maxRecDepth 100000 in
theorem sector_ok (x y : Nat) (hx : Whole x) (hy : Whole y) (nx : NN x) (ny : NN y) (hl : FloatKind.f64.format.order y (floatOfInt FloatKind.f64 10) = some .lt) (cx : Cv x 2) (cy : Cv y 5) (w : World) : Calls Try.prog 56 #[.complex .f64 x y, .int .i64 10] w fun e w' => e = .returned (.int .i64 25) ∧ w = w' := by
  have HP := hid (onPlatter_ok x y hx hy nx ny hl)
  unfold Cv at cx cy
  clear hx hy nx ny hl
  go_enter Try.func56, Try.ntmps56
  go_wp2_with fail
  refine (HP.out _).mono ?_
  rintro e w1 ⟨rfl, rfl⟩
  go_wp2_with fail
  go_ret
  exact ⟨rfl, rfl⟩
theorem mod14 (w : World) : Calls Try.prog 70 #[.int .i64 1, .int .i64 4] w fun e w' => e = .returned (.int .i64 1) ∧ w = w' := by
  go_enter Try.func70, Try.ntmps70
  go_wp2
  go_ret
  exact ⟨rfl, rfl⟩
theorem modm11 (w : World) : Calls Try.prog 70 #[.int .i64 (-11), .int .i64 10] w fun e w' => e = .returned (.int .i64 9) ∧ w = w' := by
  go_enter Try.func70, Try.ntmps70
  go_wp2
  go_ret
  exact ⟨rfl, rfl⟩
def TuI (x y x' y' : Nat) (w : World) (z i : Value) (wr : World) : Prop := ((z = .complex .f64 x y ∧ i = .int .i64 0) ∨ (z = .complex .f64 x' y' ∧ i = .int .i64 1)) ∧ w = wr
theorem tu0 {x y x' y' : Nat} {w wr : World} (h : w = wr) : TuI x y x' y' w (.complex .f64 x y) (.int .i64 0) wr := ⟨.inl ⟨rfl, rfl⟩, h⟩
theorem tu1 {x y x' y' : Nat} {w wr : World} (h : w = wr) : TuI x y x' y' w (.complex .f64 x' y') (.int .i64 1) wr := ⟨.inr ⟨rfl, rfl⟩, h⟩
set_option maxHeartbeats 1000000 in
set_option maxRecDepth 100000 in
theorem turn_ok (x y x' y' : Nat) (hx : Whole x) (hy : Whole y) (hm : ∀ w, (binOp .mul 59 (.complex .f64 x y) (.complex .f64 0 4607182418800017408)).run Try.prog w = .ok (.complex .f64 x' y') w) (w : World) : Calls Try.prog 57 #[.complex .f64 x y, .int .i64 1] w fun e w' => e = .returned (.complex .f64 x' y') ∧ w = w' := by
  have HM := hid (may_ok x y hx hy)
  clear hx hy
  go_enter Try.func57, Try.ntmps57
  go_wp2_with fail
  refine (HM.out _).mono ?_
  rintro e w1 ⟨rfl, rfl⟩
  go_wp2_with fail
  refine (mod14 _).mono ?_
  rintro e w1 ⟨rfl, rfl⟩
  go_wp2_with fail
  go_loopw [0, 10] (fun z i wr => TuI x y x' y' w z i wr) (fun _ i _ => 1 - (intOf i).toNat)
  case atStart => exact tu0 rfl
  case round =>
    obtain ⟨⟨rfl, rfl⟩ | ⟨rfl, rfl⟩, rfl⟩ := hrel
    · go_wp2
      go_roundw
      case rel => exact tu1 rfl
      case measure => simp [intOf]
    · go_wp2
      go_ret
      exact ⟨rfl, rfl⟩
set_option maxHeartbeats 1000000 in
set_option maxRecDepth 100000 in
theorem abs_ok (x y : Nat) (hb : ∀ w, (callFunc 102 #[.float .f64 x]).run Try.prog w = .ok (.value (.int .u64 x)) w) (hn : Go.bits BinOp.andNot IntKind.u64 (x : Int) 9223372036854775808 = y) (hf : ∀ w, (callFunc 101 #[.int .u64 y]).run Try.prog w = .ok (.value (.float .f64 y)) w) (w : World) : Calls Try.prog 91 #[.float .f64 x] w fun e w' => e = .returned (.float .f64 y) ∧ w = w' := by
  go_enter Try.func91, Try.ntmps91
  go_wp2
  go_ret
  exact ⟨rfl, rfl⟩
set_option maxHeartbeats 1000000 in
set_option maxRecDepth 100000 in
theorem distance_ok (x y d e0 : Nat) (n : Int) (hs : ∀ w, (binOp .sub 77 (.float .f64 x) (.float .f64 y)).run Try.prog w = .ok (.float .f64 d) w) (ha : ∀ w, Calls Try.prog 91 #[.float .f64 d] w fun e w' => e = .returned (.float .f64 e0) ∧ w = w') (hc : Cv e0 n) (w : World) : Calls Try.prog 71 #[.float .f64 x, .float .f64 y] w fun e w' => e = .returned (.int .i64 n) ∧ w = w' := by
  have HA := hid ha
  unfold Cv at hc
  clear ha
  go_enter Try.func71, Try.ntmps71
  go_wp2_with fail
  refine (HA.out _).mono ?_
  rintro e w1 ⟨rfl, rfl⟩
  go_wp2
  go_ret
  exact ⟨rfl, rfl⟩
set_option maxHeartbeats 1000000 in
set_option maxRecDepth 100000 in
theorem apart_ok (x y u v : Nat) (hx : Whole x) (hy : Whole y) (hu : Whole u) (hv : Whole v) (h1 : ∀ w, Calls Try.prog 71 #[.float .f64 x, .float .f64 u] w fun e w' => e = .returned (.int .i64 1) ∧ w = w') (h2 : ∀ w, Calls Try.prog 71 #[.float .f64 y, .float .f64 v] w fun e w' => e = .returned (.int .i64 4) ∧ w = w') (w : World) : Calls Try.prog 59 #[.complex .f64 x y, .complex .f64 u v] w fun e w' => e = .returned (.int .i64 5) ∧ w = w' := by
  have HA := hid (may_ok x y hx hy)
  have HB := hid (may_ok u v hu hv)
  have H1 := hid h1
  have H2 := hid h2
  clear hx hy hu hv h1 h2
  go_enter Try.func59, Try.ntmps59
  go_wp2_with fail
  refine (HA.out _).mono ?_
  rintro e w1 ⟨rfl, rfl⟩
  go_wp2_with fail
  refine (HB.out _).mono ?_
  rintro e w1 ⟨rfl, rfl⟩
  go_wp2_with fail
  refine (H1.out _).mono ?_
  rintro e w1 ⟨rfl, rfl⟩
  go_wp2_with fail
  refine (H2.out _).mono ?_
  rintro e w1 ⟨rfl, rfl⟩
  go_wp2
  go_ret
  exact ⟨rfl, rfl⟩
set_option maxHeartbeats 1000000 in
set_option maxRecDepth 100000 in
theorem norm_ok (x y p q r : Nat) (hx : Whole x) (hy : Whole y) (h1 : ∀ w, (binOp .mul 77 (.float .f64 x) (.float .f64 x)).run Try.prog w = .ok (.float .f64 p) w) (h2 : ∀ w, (binOp .mul 77 (.float .f64 y) (.float .f64 y)).run Try.prog w = .ok (.float .f64 q) w) (h3 : ∀ w, (binOp .add 77 (.float .f64 p) (.float .f64 q)).run Try.prog w = .ok (.float .f64 r) w) (hc : Cv r 25) (w : World) : Calls Try.prog 58 #[.complex .f64 x y] w fun e w' => e = .returned (.int .i64 25) ∧ w = w' := by
  have HA := hid (may_ok x y hx hy)
  unfold Cv at hc
  clear hx hy
  go_enter Try.func58, Try.ntmps58
  go_wp2_with fail
  refine (HA.out _).mono ?_
  rintro e w1 ⟨rfl, rfl⟩
  go_wp2
  go_ret
  exact ⟨rfl, rfl⟩
set_option maxHeartbeats 1000000 in
set_option maxRecDepth 100000 in
theorem cost_ok (x y u v : Nat) (ha : ∀ w, Calls Try.prog 66 #[.complex .f64 x y, .int .i64 10] w fun e w' => e = .returned (.bool true) ∧ w = w') (hb : ∀ w, Calls Try.prog 66 #[.complex .f64 u v, .int .i64 10] w fun e w' => e = .returned (.bool true) ∧ w = w')
    (hd : ∀ w, Calls Try.prog 71 #[.float .f64 x, .float .f64 u] w fun e w' => e = .returned (.int .i64 2) ∧ w = w') (cy : Cv y 0) (cv : Cv v 5) (w : World) : Calls Try.prog 68 #[.complex .f64 x y, .complex .f64 u v, .int .i64 10] w fun e w' => e = .returned (.int .i64 25) ∧ w = w' := by
  have HA := hid ha
  have HB := hid hb
  have HD := hid hd
  unfold Cv at cy cv
  clear ha hb hd
  go_enter Try.func68, Try.ntmps68
  go_wp2_with fail
  refine (HA.out _).mono ?_
  rintro e w1 ⟨rfl, rfl⟩
  go_wp2_with fail
  refine (HB.out _).mono ?_
  rintro e w1 ⟨rfl, rfl⟩
  go_wp2_with fail
  refine (HD.out _).mono ?_
  rintro e w1 ⟨rfl, rfl⟩
  go_wp2_with fail
  refine (modm11 _).mono ?_
  rintro e w1 ⟨rfl, rfl⟩
  go_wp2
  go_ret
  exact ⟨rfl, rfl⟩
def b0 : Nat := 0
def b1 : Nat := 4607182418800017408
def b2 : Nat := 4611686018427387904
def b3 : Nat := 4613937818241073152
def b4 : Nat := 4616189618054758400
def b5 : Nat := 4617315517961601024
def b8 : Nat := 4620693217682128896
theorem whole0 : Whole b0 := ⟨fun _ => by kernel_rfl, fun _ => by kernel_rfl, fun _ => by kernel_rfl, by kernel_rfl, by kernel_rfl, by kernel_rfl⟩
theorem whole2 : Whole b2 := ⟨fun _ => by kernel_rfl, fun _ => by kernel_rfl, fun _ => by kernel_rfl, by kernel_rfl, by kernel_rfl, by kernel_rfl⟩
theorem whole5 : Whole b5 := ⟨fun _ => by kernel_rfl, fun _ => by kernel_rfl, fun _ => by kernel_rfl, by kernel_rfl, by kernel_rfl, by kernel_rfl⟩
theorem nn0 : NN b0 := .inr (by kernel_rfl)
theorem nn2 : NN b2 := .inl (by kernel_rfl)
theorem lt5 : FloatKind.f64.format.order b5 (floatOfInt FloatKind.f64 10) = some .lt := by kernel_rfl
end Go.Proofs.Ythldppgbopiaiaa.PoA
