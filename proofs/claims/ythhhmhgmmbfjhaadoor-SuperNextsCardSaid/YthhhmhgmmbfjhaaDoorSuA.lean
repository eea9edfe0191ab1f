/- Contracts: a superblock as a block of numbers, and where each number of it stands, by the program. No condition. -/
import Derived.Test.YthhhmhgmmbfjhaaDoorGeC
namespace Go.Proofs.YthhhmhgmmbfjhaaDoor.SuA
open Go.RowKit MSep MGeM GeA

/-- A superblock as a value; as a block behind it: its format and whether it is clean, as numbers. -/
abbrev sv (g c s n l k t e f : Int) (b : Bool) : Value := .agg #[.int .i64 g, .int .i64 c, .int .i64 s, .int .i64 n, .int .i64 l, .int .i64 k, .int .i64 t, .int .i64 e, .int .i64 f, .bool b]
abbrev sbx (g c s n l k t e f : Int) (b : Bool) : Obj := .cells #[.int .i64 g, .int .i64 c, .int .i64 s, .int .i64 n, .int .i64 l, .int .i64 k, .int .i64 t, .int .i64 e, .int .i64 f, .bool b] 25
abbrev sbk (g c s n l k t e f : Int) (b : Bool) (x y : Int) : Obj := .cells #[.int .i64 g, .int .i64 c, .int .i64 s, .int .i64 n, .int .i64 l, .int .i64 k, .int .i64 t, .int .i64 e, .int .i64 f, .bool b, .int .i64 x, .int .i64 y] 98
def BK (w : World) (G : Nat) (g c s n l k t e f : Int) (b : Bool) (x y : Int) : Prop := Blk w G 98 #[.int .i64 g, .int .i64 c, .int .i64 s, .int .i64 n, .int .i64 l, .int .i64 k, .int .i64 t, .int .i64 e, .int .i64 f, .bool b, .int .i64 x, .int .i64 y]
set_option maxRecDepth 100000 in
theorem num1_ok (G : Nat) (w : World) : Calls Tryd.prog 117 #[.pointer (some ⟨G, 0, none⟩)] w fun e w' => e = .returned (.pointer (some ⟨G, 10, none⟩)) ∧ w = w' := by
  go_enter Tryd.func117, Tryd.ntmps117
  go_wp2
  go_ret
  exact ⟨rfl, rfl⟩
set_option maxRecDepth 100000 in
theorem num2_ok (G : Nat) (w : World) : Calls Tryd.prog 118 #[.pointer (some ⟨G, 0, none⟩)] w fun e w' => e = .returned (.pointer (some ⟨G, 0, none⟩)) ∧ w = w' := by
  go_enter Tryd.func118, Tryd.ntmps118
  go_wp2
  go_ret
  exact ⟨rfl, rfl⟩
set_option maxRecDepth 100000 in
theorem num3_ok (G : Nat) (w : World) : Calls Tryd.prog 119 #[.pointer (some ⟨G, 0, none⟩)] w fun e w' => e = .returned (.pointer (some ⟨G, 1, none⟩)) ∧ w = w' := by
  go_enter Tryd.func119, Tryd.ntmps119
  go_wp2
  go_ret
  exact ⟨rfl, rfl⟩
set_option maxRecDepth 100000 in
theorem num4_ok (G : Nat) (w : World) : Calls Tryd.prog 120 #[.pointer (some ⟨G, 0, none⟩)] w fun e w' => e = .returned (.pointer (some ⟨G, 2, none⟩)) ∧ w = w' := by
  go_enter Tryd.func120, Tryd.ntmps120
  go_wp2
  go_ret
  exact ⟨rfl, rfl⟩
set_option maxRecDepth 100000 in
theorem num5_ok (G : Nat) (w : World) : Calls Tryd.prog 121 #[.pointer (some ⟨G, 0, none⟩)] w fun e w' => e = .returned (.pointer (some ⟨G, 3, none⟩)) ∧ w = w' := by
  go_enter Tryd.func121, Tryd.ntmps121
  go_wp2
  go_ret
  exact ⟨rfl, rfl⟩
set_option maxRecDepth 100000 in
theorem num6_ok (G : Nat) (w : World) : Calls Tryd.prog 122 #[.pointer (some ⟨G, 0, none⟩)] w fun e w' => e = .returned (.pointer (some ⟨G, 4, none⟩)) ∧ w = w' := by
  go_enter Tryd.func122, Tryd.ntmps122
  go_wp2
  go_ret
  exact ⟨rfl, rfl⟩
set_option maxRecDepth 100000 in
theorem num7_ok (G : Nat) (w : World) : Calls Tryd.prog 123 #[.pointer (some ⟨G, 0, none⟩)] w fun e w' => e = .returned (.pointer (some ⟨G, 5, none⟩)) ∧ w = w' := by
  go_enter Tryd.func123, Tryd.ntmps123
  go_wp2
  go_ret
  exact ⟨rfl, rfl⟩
set_option maxRecDepth 100000 in
theorem num8_ok (G : Nat) (w : World) : Calls Tryd.prog 124 #[.pointer (some ⟨G, 0, none⟩)] w fun e w' => e = .returned (.pointer (some ⟨G, 6, none⟩)) ∧ w = w' := by
  go_enter Tryd.func124, Tryd.ntmps124
  go_wp2
  go_ret
  exact ⟨rfl, rfl⟩
set_option maxRecDepth 100000 in
theorem num9_ok (G : Nat) (w : World) : Calls Tryd.prog 125 #[.pointer (some ⟨G, 0, none⟩)] w fun e w' => e = .returned (.pointer (some ⟨G, 7, none⟩)) ∧ w = w' := by
  go_enter Tryd.func125, Tryd.ntmps125
  go_wp2
  go_ret
  exact ⟨rfl, rfl⟩
set_option maxRecDepth 100000 in
theorem num10_ok (G : Nat) (w : World) : Calls Tryd.prog 126 #[.pointer (some ⟨G, 0, none⟩)] w fun e w' => e = .returned (.pointer (some ⟨G, 8, none⟩)) ∧ w = w' := by
  go_enter Tryd.func126, Tryd.ntmps126
  go_wp2
  go_ret
  exact ⟨rfl, rfl⟩
set_option maxRecDepth 100000 in
theorem num11_ok (G : Nat) (w : World) : Calls Tryd.prog 127 #[.pointer (some ⟨G, 0, none⟩)] w fun e w' => e = .returned (.pointer (some ⟨G, 11, none⟩)) ∧ w = w' := by
  go_enter Tryd.func127, Tryd.ntmps127
  go_wp2
  go_ret
  exact ⟨rfl, rfl⟩

set_option maxRecDepth 100000 in
set_option maxHeartbeats 1000000 in
theorem blockOf_ok (g c s n l k t e f : Int) (b : Bool) (w : World) : Calls Tryd.prog 45 #[sv g c s n l k t e f b] w fun E w' => ∃ G, E = .returned (.pointer (some ⟨G, 0, none⟩)) ∧ w.heap.size ≤ G ∧ BK w' G g c s n l k t e f b 1 (if b then 1 else 0) ∧ Fr No w w' := by
  have HF := hid (fun o => ((fr1 w (sbx g c s n l k t e f b)).alloc o))
  have HB := hid (fun x y => (Blk.new (w.alloc (sbx g c s n l k t e f b)) 98 #[.int .i64 g, .int .i64 c, .int .i64 s, .int .i64 n, .int .i64 l, .int .i64 k, .int .i64 t, .int .i64 e, .int .i64 f, .bool b, .int .i64 x, .int .i64 y]))
  cases b
  all_goals
    go_enter Tryd.func45, Tryd.ntmps45
    go_wp2
    go_ret
    exact ⟨_, rfl, by simp, by unfold BK; first | (have := HB.out 1 0; simpa using this) | (have := HB.out 1 1; simpa using this), HF.out _⟩

/-- The eleven numbers of a block: size, least, most, which. -/
def NC : List Value := [.int .i64 2, .int .i64 1, .int .i64 1, .func (.func 117) #[] #[], .int .i64 8, .int .i64 1, .int .i64 1099511627776, .func (.func 118) #[] #[], .int .i64 2, .int .i64 0, .int .i64 65535, .func (.func 119) #[] #[], .int .i64 2, .int .i64 0, .int .i64 65535, .func (.func 120) #[] #[], .int .i64 2, .int .i64 0, .int .i64 65535, .func (.func 121) #[] #[], .int .i64 2, .int .i64 0, .int .i64 65535, .func (.func 122) #[] #[], .int .i64 2, .int .i64 0, .int .i64 65535, .func (.func 123) #[] #[], .int .i64 1, .int .i64 0, .int .i64 1, .func (.func 124) #[] #[], .int .i64 4, .int .i64 1, .int .i64 2147483648, .func (.func 125) #[] #[], .int .i64 8, .int .i64 0, .int .i64 1099511627776, .func (.func 126) #[] #[], .int .i64 1, .int .i64 0, .int .i64 1, .func (.func 127) #[] #[]]
theorem infoN : (Tryd.prog.info? 144).map (·.size) = some 44 := by kernel_rfl
theorem st_nums {ops : Array Oper} {rest : List Oper} {o : Oper} {ac : Act} {w : World} {Q : Exit → Act → World → Prop} (hgd : o.guard = none) (p y : Operand) (ho : o.op = .store 144 p y) (g : Nat) (hx : ac.eval p = .pointer (some ⟨g, 0, none⟩))
    (hy : ac.eval y = .agg NC.toArray) {cs : Array Value} (hg : Blk w g 144 cs) (hsz : cs.size = 44)
    (h : ∀ W', Blk W' g 144 NC.toArray → Fr (fun q => q = g) w W' → wpList Tryd.prog ops Q rest (ac.put o.dst undef) W') : wpList Tryd.prog ops Q (o :: rest) ac w :=
  wpList_store_row hgd 144 p y ho g _ hx hy 144 _ hg infoN (hsz.trans rfl) (by simp [NC, Value.oneCell']) (h _ (Blk.setRow hg _) (Fr.setRow (S := fun q => q = g) (Fr.refl _ _) (fun _ => rfl) _))
set_option maxRecDepth 100000 in
set_option maxHeartbeats 1000000 in
theorem numbers_ok (w : World) : Calls Tryd.prog 93 #[] w fun E w' => E = .returned (.agg NC.toArray) ∧ Fr No w w' := by
  have HF := hid (fun o => fr1 w o)
  go_enter Tryd.func93, Tryd.ntmps93
  go_wp2_with (refine st_nums rfl (.tmp 0) (.tmp 12) rfl w.heap.size rfl rfl (Blk.new w _ _) rfl ?_; intro W' hb hf; have HB := hid hb; have HF := hid ((HF.out _).step hf (fun _ hi e => absurd hi (by omega))); clear hb hf)
  exact bodyPost_ret (v := .agg NC.toArray) (results_cell_row rfl _ _ w.heap.size 144 _ (0, 0) _ rfl HB.out Tryd.underlying144 rfl infoN) rfl ⟨rfl, HF.out⟩
end Go.Proofs.YthhhmhgmmbfjhaaDoor.SuA
