/- Contract: what is done with each of a block's numbers, one behind the other. Condition: what is done keeps what is said of it. -/
import Derived.Test.YthhhmhgmmbfjhaaDoorSuA
import Derived.Handy
namespace Go.Proofs.YthhhmhgmmbfjhaaDoor.SuB
open Go.RowKit MSep MGeM GeA SuA

/-- Number i as a value, and where in the block it stands. -/
def nv : Nat → Value
  | 0 => .agg #[.int .i64 2, .int .i64 1, .int .i64 1, .func (.func 117) #[] #[]]
  | 1 => .agg #[.int .i64 8, .int .i64 1, .int .i64 1099511627776, .func (.func 118) #[] #[]]
  | 2 => .agg #[.int .i64 2, .int .i64 0, .int .i64 65535, .func (.func 119) #[] #[]]
  | 3 => .agg #[.int .i64 2, .int .i64 0, .int .i64 65535, .func (.func 120) #[] #[]]
  | 4 => .agg #[.int .i64 2, .int .i64 0, .int .i64 65535, .func (.func 121) #[] #[]]
  | 5 => .agg #[.int .i64 2, .int .i64 0, .int .i64 65535, .func (.func 122) #[] #[]]
  | 6 => .agg #[.int .i64 2, .int .i64 0, .int .i64 65535, .func (.func 123) #[] #[]]
  | 7 => .agg #[.int .i64 1, .int .i64 0, .int .i64 1, .func (.func 124) #[] #[]]
  | 8 => .agg #[.int .i64 4, .int .i64 1, .int .i64 2147483648, .func (.func 125) #[] #[]]
  | 9 => .agg #[.int .i64 8, .int .i64 0, .int .i64 1099511627776, .func (.func 126) #[] #[]]
  | 10 => .agg #[.int .i64 1, .int .i64 0, .int .i64 1, .func (.func 127) #[] #[]]
  | _ => undef
def off : Nat → Nat
  | 0 => 10
  | 1 => 0
  | 2 => 1
  | 3 => 2
  | 4 => 3
  | 5 => 4
  | 6 => 5
  | 7 => 6
  | 8 => 7
  | 9 => 8
  | 10 => 11
  | _ => 0
/-- What is done keeps to Inv: number i is done, and Inv goes from i to i + 1; new memory changes nothing. -/
structure Does (D : Nat) (caps : Array Value) (G : Nat) (Inv : Nat → World → Prop) : Prop where
  go : ∀ i, i < 11 → ∀ w, Inv i w → Calls Tryd.prog D (#[nv i, .pointer (some ⟨G, off i, none⟩)] ++ caps) w fun e w' => e = .returned (.tuple #[]) ∧ Inv (i + 1) w'
  new : ∀ i w w', Fr No w w' → Inv i w → Inv i w'
  enter : ∀ args w, (callFunc D args).run Tryd.prog w = .ok (.enter D args) w
theorem nums0 (w : World) : (Instr.index 144 (.agg NC.toArray) (.int .i64 (0 : Nat))).run Tryd.prog w = .ok (nv 0) w := by kernel_rfl
theorem nums1 (w : World) : (Instr.index 144 (.agg NC.toArray) (.int .i64 (1 : Nat))).run Tryd.prog w = .ok (nv 1) w := by kernel_rfl
theorem nums2 (w : World) : (Instr.index 144 (.agg NC.toArray) (.int .i64 (2 : Nat))).run Tryd.prog w = .ok (nv 2) w := by kernel_rfl
theorem nums3 (w : World) : (Instr.index 144 (.agg NC.toArray) (.int .i64 (3 : Nat))).run Tryd.prog w = .ok (nv 3) w := by kernel_rfl
theorem nums4 (w : World) : (Instr.index 144 (.agg NC.toArray) (.int .i64 (4 : Nat))).run Tryd.prog w = .ok (nv 4) w := by kernel_rfl
theorem nums5 (w : World) : (Instr.index 144 (.agg NC.toArray) (.int .i64 (5 : Nat))).run Tryd.prog w = .ok (nv 5) w := by kernel_rfl
theorem nums6 (w : World) : (Instr.index 144 (.agg NC.toArray) (.int .i64 (6 : Nat))).run Tryd.prog w = .ok (nv 6) w := by kernel_rfl
theorem nums7 (w : World) : (Instr.index 144 (.agg NC.toArray) (.int .i64 (7 : Nat))).run Tryd.prog w = .ok (nv 7) w := by kernel_rfl
theorem nums8 (w : World) : (Instr.index 144 (.agg NC.toArray) (.int .i64 (8 : Nat))).run Tryd.prog w = .ok (nv 8) w := by kernel_rfl
theorem nums9 (w : World) : (Instr.index 144 (.agg NC.toArray) (.int .i64 (9 : Nat))).run Tryd.prog w = .ok (nv 9) w := by kernel_rfl
theorem nums10 (w : World) : (Instr.index 144 (.agg NC.toArray) (.int .i64 (10 : Nat))).run Tryd.prog w = .ok (nv 10) w := by kernel_rfl
theorem nums : ∀ i : Nat, i < 11 → ∀ w : World, (Instr.index 144 (.agg NC.toArray) (.int .i64 i)).run Tryd.prog w = .ok (nv i) w := by
  intro i hi w
  match i, hi with
  | 0, _ => exact nums0 w
  | 1, _ => exact nums1 w
  | 2, _ => exact nums2 w
  | 3, _ => exact nums3 w
  | 4, _ => exact nums4 w
  | 5, _ => exact nums5 w
  | 6, _ => exact nums6 w
  | 7, _ => exact nums7 w
  | 8, _ => exact nums8 w
  | 9, _ => exact nums9 w
  | 10, _ => exact nums10 w

theorem info4 : (Tryd.prog.info? 86).map (·.size) = some 4 := by kernel_rfl
theorem st_num {ops : Array Oper} {rest : List Oper} {o : Oper} {ac : Act} {w : World} {Q : Exit → Act → World → Prop} (hgd : o.guard = none) (p y : Operand) (ho : o.op = .store 86 p y) (g : Nat) (hx : ac.eval p = .pointer (some ⟨g, 0, none⟩)) {a b c d : Value}
    (hy : ac.eval y = .agg #[a, b, c, d]) (h1 : (#[a, b, c, d] : Array Value).all (·.oneCell') = true) {cs : Array Value} (hg : Blk w g 86 cs) (hsz : cs.size = 4)
    (h : ∀ W', Blk W' g 86 #[a, b, c, d] → Fr (fun q => q = g) w W' → wpList Tryd.prog ops Q rest (ac.put o.dst undef) W') : wpList Tryd.prog ops Q (o :: rest) ac w :=
  wpList_store_row hgd 86 p y ho g _ hx hy 86 _ hg info4 (hsz.trans rfl) h1 (h _ (Blk.setRow hg _) (Fr.setRow (S := fun q => q = g) (Fr.refl _ _) (fun _ => rfl) _))
set_option maxRecDepth 100000 in
set_option maxHeartbeats 4000000 in
theorem each_ok (D : Nat) (G : Nat) (cap : Value) (Inv : Nat → World → Prop) (hd : Does D #[cap] G Inv) (w : World) (h0 : Inv 0 w) : Calls Tryd.prog 46 #[.pointer (some ⟨G, 0, none⟩), .func (.func D) #[] #[cap]] w fun e w' => e = .returned (.tuple #[]) ∧ Inv 11 w' := by
  have HD := hid hd
  have hent := hd.enter
  clear hd
  go_enter Tryd.func46, Tryd.ntmps46
  go_wp2_with fail
  refine (numbers_ok _).mono ?_
  rintro e w1 ⟨rfl, f1⟩
  have HI := hid (HD.out.new _ _ _ f1 h0)
  clear f1 h0
  go_wp2
  go_loopw [7] (fun i wr => ∃ j : Nat, j ≤ 11 ∧ i = .int .i64 j ∧ Inv j wr) (fun i _ => 11 - (intOf i).toNat)
  case atStart => exact ⟨0, by omega, rfl, HI.out⟩
  case round =>
    obtain ⟨j, hj, rfl, hi⟩ := hrel
    by_cases hlt : j < 11
    · have HJ := hid hi
      clear hi
      have hc : j = 0 ∨ j = 1 ∨ j = 2 ∨ j = 3 ∨ j = 4 ∨ j = 5 ∨ j = 6 ∨ j = 7 ∨ j = 8 ∨ j = 9 ∨ j = 10 := by omega
      clear hj hlt
      rcases hc with rfl | rfl | rfl | rfl | rfl | rfl | rfl | rfl | rfl | rfl | rfl
      · have hx := nums 0 (by decide)
        dsimp only [nv, Int.cast_ofNat_Int, Int.ofNat_eq_natCast] at hx
        go_wp2_with (refine st_num rfl (.tmp 5) (.tmp 9) rfl wr.heap.size rfl rfl (by simp [Value.oneCell']) (Blk.new wr _ _) rfl ?_; intro W' hb hf; have HB := hid hb; have FW := hid (show Fr No wr W' from (fr1 wr _).step hf (fun _ hi e => absurd hi (by omega))); clear hb hf)
        have HJ := hid (HD.out.new _ _ _ FW.out HJ.out)
        obtain ⟨b0, b1, b2, b3⟩ : W'.cell? ⟨wr.heap.size, 0, none⟩ = some _ ∧ W'.cell? ⟨wr.heap.size, 1, none⟩ = some _ ∧ W'.cell? ⟨wr.heap.size, 2, none⟩ = some _ ∧ W'.cell? ⟨wr.heap.size, 3, none⟩ = some _ := ⟨HB.out.cell 0, HB.out.cell 1, HB.out.cell 2, HB.out.cell 3⟩
        try simp only [List.getElem?_toArray, List.getElem?_cons_zero, List.getElem?_cons_succ] at b0 b1 b2 b3
        go_region_with (first | (go_at_call 117; refine (num1_ok G _).mono ?_; rintro e W2 ⟨rfl, rfl⟩) | (refine (HD.out.go 0 (by decide) _ (HD.out.new _ _ _ (by exact (Fr.refl No W').drew) HJ.out)).mono ?_; rintro e W3 ⟨rfl, h3⟩))
        all_goals (try go_wp2)
        all_goals exact ⟨⟨1, by decide, by first | rfl | simp, h3⟩, by simp [intOf]⟩
      · have hx := nums 1 (by decide)
        dsimp only [nv, Int.cast_ofNat_Int, Int.ofNat_eq_natCast] at hx
        go_wp2_with (refine st_num rfl (.tmp 5) (.tmp 9) rfl wr.heap.size rfl rfl (by simp [Value.oneCell']) (Blk.new wr _ _) rfl ?_; intro W' hb hf; have HB := hid hb; have FW := hid (show Fr No wr W' from (fr1 wr _).step hf (fun _ hi e => absurd hi (by omega))); clear hb hf)
        have HJ := hid (HD.out.new _ _ _ FW.out HJ.out)
        obtain ⟨b0, b1, b2, b3⟩ : W'.cell? ⟨wr.heap.size, 0, none⟩ = some _ ∧ W'.cell? ⟨wr.heap.size, 1, none⟩ = some _ ∧ W'.cell? ⟨wr.heap.size, 2, none⟩ = some _ ∧ W'.cell? ⟨wr.heap.size, 3, none⟩ = some _ := ⟨HB.out.cell 0, HB.out.cell 1, HB.out.cell 2, HB.out.cell 3⟩
        try simp only [List.getElem?_toArray, List.getElem?_cons_zero, List.getElem?_cons_succ] at b0 b1 b2 b3
        go_region_with (first | (go_at_call 118; refine (num2_ok G _).mono ?_; rintro e W2 ⟨rfl, rfl⟩) | (refine (HD.out.go 1 (by decide) _ (HD.out.new _ _ _ (by exact (Fr.refl No W').drew) HJ.out)).mono ?_; rintro e W3 ⟨rfl, h3⟩))
        all_goals (try go_wp2)
        all_goals exact ⟨⟨2, by decide, by first | rfl | simp, h3⟩, by simp [intOf]⟩
      · have hx := nums 2 (by decide)
        dsimp only [nv, Int.cast_ofNat_Int, Int.ofNat_eq_natCast] at hx
        go_wp2_with (refine st_num rfl (.tmp 5) (.tmp 9) rfl wr.heap.size rfl rfl (by simp [Value.oneCell']) (Blk.new wr _ _) rfl ?_; intro W' hb hf; have HB := hid hb; have FW := hid (show Fr No wr W' from (fr1 wr _).step hf (fun _ hi e => absurd hi (by omega))); clear hb hf)
        have HJ := hid (HD.out.new _ _ _ FW.out HJ.out)
        obtain ⟨b0, b1, b2, b3⟩ : W'.cell? ⟨wr.heap.size, 0, none⟩ = some _ ∧ W'.cell? ⟨wr.heap.size, 1, none⟩ = some _ ∧ W'.cell? ⟨wr.heap.size, 2, none⟩ = some _ ∧ W'.cell? ⟨wr.heap.size, 3, none⟩ = some _ := ⟨HB.out.cell 0, HB.out.cell 1, HB.out.cell 2, HB.out.cell 3⟩
        try simp only [List.getElem?_toArray, List.getElem?_cons_zero, List.getElem?_cons_succ] at b0 b1 b2 b3
        go_region_with (first | (go_at_call 119; refine (num3_ok G _).mono ?_; rintro e W2 ⟨rfl, rfl⟩) | (refine (HD.out.go 2 (by decide) _ (HD.out.new _ _ _ (by exact (Fr.refl No W').drew) HJ.out)).mono ?_; rintro e W3 ⟨rfl, h3⟩))
        all_goals (try go_wp2)
        all_goals exact ⟨⟨3, by decide, by first | rfl | simp, h3⟩, by simp [intOf]⟩
      · have hx := nums 3 (by decide)
        dsimp only [nv, Int.cast_ofNat_Int, Int.ofNat_eq_natCast] at hx
        go_wp2_with (refine st_num rfl (.tmp 5) (.tmp 9) rfl wr.heap.size rfl rfl (by simp [Value.oneCell']) (Blk.new wr _ _) rfl ?_; intro W' hb hf; have HB := hid hb; have FW := hid (show Fr No wr W' from (fr1 wr _).step hf (fun _ hi e => absurd hi (by omega))); clear hb hf)
        have HJ := hid (HD.out.new _ _ _ FW.out HJ.out)
        obtain ⟨b0, b1, b2, b3⟩ : W'.cell? ⟨wr.heap.size, 0, none⟩ = some _ ∧ W'.cell? ⟨wr.heap.size, 1, none⟩ = some _ ∧ W'.cell? ⟨wr.heap.size, 2, none⟩ = some _ ∧ W'.cell? ⟨wr.heap.size, 3, none⟩ = some _ := ⟨HB.out.cell 0, HB.out.cell 1, HB.out.cell 2, HB.out.cell 3⟩
        try simp only [List.getElem?_toArray, List.getElem?_cons_zero, List.getElem?_cons_succ] at b0 b1 b2 b3
        go_region_with (first | (go_at_call 120; refine (num4_ok G _).mono ?_; rintro e W2 ⟨rfl, rfl⟩) | (refine (HD.out.go 3 (by decide) _ (HD.out.new _ _ _ (by exact (Fr.refl No W').drew) HJ.out)).mono ?_; rintro e W3 ⟨rfl, h3⟩))
        all_goals (try go_wp2)
        all_goals exact ⟨⟨4, by decide, by first | rfl | simp, h3⟩, by simp [intOf]⟩
      · have hx := nums 4 (by decide)
        dsimp only [nv, Int.cast_ofNat_Int, Int.ofNat_eq_natCast] at hx
        go_wp2_with (refine st_num rfl (.tmp 5) (.tmp 9) rfl wr.heap.size rfl rfl (by simp [Value.oneCell']) (Blk.new wr _ _) rfl ?_; intro W' hb hf; have HB := hid hb; have FW := hid (show Fr No wr W' from (fr1 wr _).step hf (fun _ hi e => absurd hi (by omega))); clear hb hf)
        have HJ := hid (HD.out.new _ _ _ FW.out HJ.out)
        obtain ⟨b0, b1, b2, b3⟩ : W'.cell? ⟨wr.heap.size, 0, none⟩ = some _ ∧ W'.cell? ⟨wr.heap.size, 1, none⟩ = some _ ∧ W'.cell? ⟨wr.heap.size, 2, none⟩ = some _ ∧ W'.cell? ⟨wr.heap.size, 3, none⟩ = some _ := ⟨HB.out.cell 0, HB.out.cell 1, HB.out.cell 2, HB.out.cell 3⟩
        try simp only [List.getElem?_toArray, List.getElem?_cons_zero, List.getElem?_cons_succ] at b0 b1 b2 b3
        go_region_with (first | (go_at_call 121; refine (num5_ok G _).mono ?_; rintro e W2 ⟨rfl, rfl⟩) | (refine (HD.out.go 4 (by decide) _ (HD.out.new _ _ _ (by exact (Fr.refl No W').drew) HJ.out)).mono ?_; rintro e W3 ⟨rfl, h3⟩))
        all_goals (try go_wp2)
        all_goals exact ⟨⟨5, by decide, by first | rfl | simp, h3⟩, by simp [intOf]⟩
      · have hx := nums 5 (by decide)
        dsimp only [nv, Int.cast_ofNat_Int, Int.ofNat_eq_natCast] at hx
        go_wp2_with (refine st_num rfl (.tmp 5) (.tmp 9) rfl wr.heap.size rfl rfl (by simp [Value.oneCell']) (Blk.new wr _ _) rfl ?_; intro W' hb hf; have HB := hid hb; have FW := hid (show Fr No wr W' from (fr1 wr _).step hf (fun _ hi e => absurd hi (by omega))); clear hb hf)
        have HJ := hid (HD.out.new _ _ _ FW.out HJ.out)
        obtain ⟨b0, b1, b2, b3⟩ : W'.cell? ⟨wr.heap.size, 0, none⟩ = some _ ∧ W'.cell? ⟨wr.heap.size, 1, none⟩ = some _ ∧ W'.cell? ⟨wr.heap.size, 2, none⟩ = some _ ∧ W'.cell? ⟨wr.heap.size, 3, none⟩ = some _ := ⟨HB.out.cell 0, HB.out.cell 1, HB.out.cell 2, HB.out.cell 3⟩
        try simp only [List.getElem?_toArray, List.getElem?_cons_zero, List.getElem?_cons_succ] at b0 b1 b2 b3
        go_region_with (first | (go_at_call 122; refine (num6_ok G _).mono ?_; rintro e W2 ⟨rfl, rfl⟩) | (refine (HD.out.go 5 (by decide) _ (HD.out.new _ _ _ (by exact (Fr.refl No W').drew) HJ.out)).mono ?_; rintro e W3 ⟨rfl, h3⟩))
        all_goals (try go_wp2)
        all_goals exact ⟨⟨6, by decide, by first | rfl | simp, h3⟩, by simp [intOf]⟩
      · have hx := nums 6 (by decide)
        dsimp only [nv, Int.cast_ofNat_Int, Int.ofNat_eq_natCast] at hx
        go_wp2_with (refine st_num rfl (.tmp 5) (.tmp 9) rfl wr.heap.size rfl rfl (by simp [Value.oneCell']) (Blk.new wr _ _) rfl ?_; intro W' hb hf; have HB := hid hb; have FW := hid (show Fr No wr W' from (fr1 wr _).step hf (fun _ hi e => absurd hi (by omega))); clear hb hf)
        have HJ := hid (HD.out.new _ _ _ FW.out HJ.out)
        obtain ⟨b0, b1, b2, b3⟩ : W'.cell? ⟨wr.heap.size, 0, none⟩ = some _ ∧ W'.cell? ⟨wr.heap.size, 1, none⟩ = some _ ∧ W'.cell? ⟨wr.heap.size, 2, none⟩ = some _ ∧ W'.cell? ⟨wr.heap.size, 3, none⟩ = some _ := ⟨HB.out.cell 0, HB.out.cell 1, HB.out.cell 2, HB.out.cell 3⟩
        try simp only [List.getElem?_toArray, List.getElem?_cons_zero, List.getElem?_cons_succ] at b0 b1 b2 b3
        go_region_with (first | (go_at_call 123; refine (num7_ok G _).mono ?_; rintro e W2 ⟨rfl, rfl⟩) | (refine (HD.out.go 6 (by decide) _ (HD.out.new _ _ _ (by exact (Fr.refl No W').drew) HJ.out)).mono ?_; rintro e W3 ⟨rfl, h3⟩))
        all_goals (try go_wp2)
        all_goals exact ⟨⟨7, by decide, by first | rfl | simp, h3⟩, by simp [intOf]⟩
      · have hx := nums 7 (by decide)
        dsimp only [nv, Int.cast_ofNat_Int, Int.ofNat_eq_natCast] at hx
        go_wp2_with (refine st_num rfl (.tmp 5) (.tmp 9) rfl wr.heap.size rfl rfl (by simp [Value.oneCell']) (Blk.new wr _ _) rfl ?_; intro W' hb hf; have HB := hid hb; have FW := hid (show Fr No wr W' from (fr1 wr _).step hf (fun _ hi e => absurd hi (by omega))); clear hb hf)
        have HJ := hid (HD.out.new _ _ _ FW.out HJ.out)
        obtain ⟨b0, b1, b2, b3⟩ : W'.cell? ⟨wr.heap.size, 0, none⟩ = some _ ∧ W'.cell? ⟨wr.heap.size, 1, none⟩ = some _ ∧ W'.cell? ⟨wr.heap.size, 2, none⟩ = some _ ∧ W'.cell? ⟨wr.heap.size, 3, none⟩ = some _ := ⟨HB.out.cell 0, HB.out.cell 1, HB.out.cell 2, HB.out.cell 3⟩
        try simp only [List.getElem?_toArray, List.getElem?_cons_zero, List.getElem?_cons_succ] at b0 b1 b2 b3
        go_region_with (first | (go_at_call 124; refine (num8_ok G _).mono ?_; rintro e W2 ⟨rfl, rfl⟩) | (refine (HD.out.go 7 (by decide) _ (HD.out.new _ _ _ (by exact (Fr.refl No W').drew) HJ.out)).mono ?_; rintro e W3 ⟨rfl, h3⟩))
        all_goals (try go_wp2)
        all_goals exact ⟨⟨8, by decide, by first | rfl | simp, h3⟩, by simp [intOf]⟩
      · have hx := nums 8 (by decide)
        dsimp only [nv, Int.cast_ofNat_Int, Int.ofNat_eq_natCast] at hx
        go_wp2_with (refine st_num rfl (.tmp 5) (.tmp 9) rfl wr.heap.size rfl rfl (by simp [Value.oneCell']) (Blk.new wr _ _) rfl ?_; intro W' hb hf; have HB := hid hb; have FW := hid (show Fr No wr W' from (fr1 wr _).step hf (fun _ hi e => absurd hi (by omega))); clear hb hf)
        have HJ := hid (HD.out.new _ _ _ FW.out HJ.out)
        obtain ⟨b0, b1, b2, b3⟩ : W'.cell? ⟨wr.heap.size, 0, none⟩ = some _ ∧ W'.cell? ⟨wr.heap.size, 1, none⟩ = some _ ∧ W'.cell? ⟨wr.heap.size, 2, none⟩ = some _ ∧ W'.cell? ⟨wr.heap.size, 3, none⟩ = some _ := ⟨HB.out.cell 0, HB.out.cell 1, HB.out.cell 2, HB.out.cell 3⟩
        try simp only [List.getElem?_toArray, List.getElem?_cons_zero, List.getElem?_cons_succ] at b0 b1 b2 b3
        go_region_with (first | (go_at_call 125; refine (num9_ok G _).mono ?_; rintro e W2 ⟨rfl, rfl⟩) | (refine (HD.out.go 8 (by decide) _ (HD.out.new _ _ _ (by exact (Fr.refl No W').drew) HJ.out)).mono ?_; rintro e W3 ⟨rfl, h3⟩))
        all_goals (try go_wp2)
        all_goals exact ⟨⟨9, by decide, by first | rfl | simp, h3⟩, by simp [intOf]⟩
      · have hx := nums 9 (by decide)
        dsimp only [nv, Int.cast_ofNat_Int, Int.ofNat_eq_natCast] at hx
        go_wp2_with (refine st_num rfl (.tmp 5) (.tmp 9) rfl wr.heap.size rfl rfl (by simp [Value.oneCell']) (Blk.new wr _ _) rfl ?_; intro W' hb hf; have HB := hid hb; have FW := hid (show Fr No wr W' from (fr1 wr _).step hf (fun _ hi e => absurd hi (by omega))); clear hb hf)
        have HJ := hid (HD.out.new _ _ _ FW.out HJ.out)
        obtain ⟨b0, b1, b2, b3⟩ : W'.cell? ⟨wr.heap.size, 0, none⟩ = some _ ∧ W'.cell? ⟨wr.heap.size, 1, none⟩ = some _ ∧ W'.cell? ⟨wr.heap.size, 2, none⟩ = some _ ∧ W'.cell? ⟨wr.heap.size, 3, none⟩ = some _ := ⟨HB.out.cell 0, HB.out.cell 1, HB.out.cell 2, HB.out.cell 3⟩
        try simp only [List.getElem?_toArray, List.getElem?_cons_zero, List.getElem?_cons_succ] at b0 b1 b2 b3
        go_region_with (first | (go_at_call 126; refine (num10_ok G _).mono ?_; rintro e W2 ⟨rfl, rfl⟩) | (refine (HD.out.go 9 (by decide) _ (HD.out.new _ _ _ (by exact (Fr.refl No W').drew) HJ.out)).mono ?_; rintro e W3 ⟨rfl, h3⟩))
        all_goals (try go_wp2)
        all_goals exact ⟨⟨10, by decide, by first | rfl | simp, h3⟩, by simp [intOf]⟩
      · have hx := nums 10 (by decide)
        dsimp only [nv, Int.cast_ofNat_Int, Int.ofNat_eq_natCast] at hx
        go_wp2_with (refine st_num rfl (.tmp 5) (.tmp 9) rfl wr.heap.size rfl rfl (by simp [Value.oneCell']) (Blk.new wr _ _) rfl ?_; intro W' hb hf; have HB := hid hb; have FW := hid (show Fr No wr W' from (fr1 wr _).step hf (fun _ hi e => absurd hi (by omega))); clear hb hf)
        have HJ := hid (HD.out.new _ _ _ FW.out HJ.out)
        obtain ⟨b0, b1, b2, b3⟩ : W'.cell? ⟨wr.heap.size, 0, none⟩ = some _ ∧ W'.cell? ⟨wr.heap.size, 1, none⟩ = some _ ∧ W'.cell? ⟨wr.heap.size, 2, none⟩ = some _ ∧ W'.cell? ⟨wr.heap.size, 3, none⟩ = some _ := ⟨HB.out.cell 0, HB.out.cell 1, HB.out.cell 2, HB.out.cell 3⟩
        try simp only [List.getElem?_toArray, List.getElem?_cons_zero, List.getElem?_cons_succ] at b0 b1 b2 b3
        go_region_with (first | (go_at_call 127; refine (num11_ok G _).mono ?_; rintro e W2 ⟨rfl, rfl⟩) | (refine (HD.out.go 10 (by decide) _ (HD.out.new _ _ _ (by exact (Fr.refl No W').drew) HJ.out)).mono ?_; rintro e W3 ⟨rfl, h3⟩))
        all_goals (try go_wp2)
        all_goals exact ⟨⟨11, by decide, by first | rfl | simp, h3⟩, by simp [intOf]⟩
    · obtain rfl : j = 11 := by omega
      have HJ := hid hi
      clear hi
      go_wp2
      go_returns
      exact ⟨rfl, HJ.out⟩
end Go.Proofs.YthhhmhgmmbfjhaaDoor.SuB
