/- LePuts: the walk. -/
import Derived.Test.YtlcafkjnikiomaaLeX
namespace Go.Proofs.Ytlcafkjnikiomaa.LePuts
open Go.RowKit MSep MFrame LeA LeW LeL LeX

theorem walk_out (room : Int) (A : Option Addr) (l c : Nat) (w : World) (hr : room < 0 ∨ 65536 < room) :
    Calls Try.prog 3 #[.int .i64 room, .slice A l c] w fun e w' => e = .returned (.bool true) ∧ Below w.heap.size w w' := by
  rcases hr with hr | hr
  · go_enter Try.func3, Try.ntmps3
    go_wp2_with (first
      | (go_at_call 9; refine (new_out _ _ (.inl hr)).mono ?_; rintro e w' ⟨rfl, rfl⟩)
      | (go_at_call 10; refine (lives_any _).mono ?_; rintro e w2 ⟨rfl, F2⟩))
    go_ret
    exact ⟨rfl, F2.below (Nat.le_refl _) (fun _ h => h.elim)⟩
  · have h0 : ¬ room < 0 := by omega
    go_enter Try.func3, Try.ntmps3
    go_wp2_with (first
      | (go_at_call 9; refine (new_out _ _ (.inr hr)).mono ?_; rintro e w' ⟨rfl, rfl⟩)
      | (go_at_call 10; refine (lives_any _).mono ?_; rintro e w2 ⟨rfl, F2⟩))
    go_ret
    exact ⟨rfl, F2.below (Nat.le_refl _) (fun _ h => h.elim)⟩

/-- May a number of this size be put? -/
def goodP (room : Int) (bad : Bool) (xs : List Int) (size : Int) : Bool := !bad && (decide (size = 1 ∨ size = 2 ∨ size = 4 ∨ size = 8) && decide (xs.length + size ≤ room))
/-- May so many bytes be put? -/
def goodB (room : Int) (bad : Bool) (xs : List Int) (n : Nat) : Bool := !bad && decide ((xs.length : Int) + n ≤ room)
/-- What was put behind it. -/
def more (good : Bool) (xs ys : List Int) : List Int := if good then xs ++ ys else xs

theorem put_any (g : Nat) (size n : Int) (B : Nat) (room : Int) (bad : Bool) (sv : Value) (xs : List Int) (w : World) (hn : 0 ≤ n) (hn2 : n < 18446744073709551616) (hB : B ≤ w.heap.size) (h : WOk w B g room bad sv xs) :
    Calls Try.prog 11 #[.pointer (some ⟨g, 0, none⟩), .int .i64 size, .int .u64 n] w fun e w' => e = .returned (.pointer (some ⟨g, 0, none⟩)) ∧
      ∃ sv', WOk w' B g room (!goodP room bad xs size) sv' (more (goodP room bad xs size) xs (low size.toNat n)) ∧ Fr (WF g sv) w w' ∧ ∀ k, sv'.ownBlock = some k → sv.ownBlock = some k ∨ w.heap.size ≤ k := by
  cases hg : goodP room bad xs size with
  | true =>
    simp [goodP] at hg
    obtain ⟨rfl, hs, hf⟩ := hg
    exact put_ok g size n B room sv xs w hs hf hn hn2 hB h
  | false =>
    refine (put_bad g size n B room bad sv xs w ?_ h).mono fun e w' ⟨he, h1, h2⟩ => ⟨he, sv, h1, h2.mono (fun _ _ h => .inl h), fun k hk => .inl hk⟩
    simp [goodP] at hg
    by_cases hb : bad = true
    · exact .inl hb
    · by_cases hs : size = 1 ∨ size = 2 ∨ size = 4 ∨ size = 8
      · exact .inr (.inr (by have := hg (by simpa using hb) hs; omega))
      · exact .inr (.inl hs)

theorem xput_any (g : Nat) (size n : Int) (B : Nat) (room : Int) (bad : Bool) (sv : Value) (xs : List Int) (w : World) (hn : 0 ≤ n) (hn2 : n < 18446744073709551616) (hB : B ≤ w.heap.size) (h : XOk w B g room bad sv xs) :
    Calls Try.prog 12 #[.pointer (some ⟨g, 0, none⟩), .int .i64 size, .int .u64 n] w fun e w' => e = .returned (.tuple #[]) ∧
      ∃ sv', XOk w' B g room (!goodP room bad xs size) sv' (more (goodP room bad xs size) xs (low size.toNat n)) ∧ Fr (WF g sv) w w' ∧ ∀ k, sv'.ownBlock = some k → sv.ownBlock = some k ∨ w.heap.size ≤ k := by
  cases hg : goodP room bad xs size with
  | true =>
    simp [goodP] at hg
    obtain ⟨rfl, hs, hf⟩ := hg
    exact xput_ok g size n B room sv xs w hs hf hn hn2 hB h
  | false =>
    refine (xput_bad g size n B room bad sv xs w ?_ h).mono fun e w' ⟨he, h1, h2⟩ => ⟨he, sv, h1, h2.mono (fun _ _ h => .inl h), fun k hk => .inl hk⟩
    simp [goodP] at hg
    by_cases hb : bad = true
    · exact .inl hb
    · by_cases hs : size = 1 ∨ size = 2 ∨ size = 4 ∨ size = 8
      · exact .inr (.inr (by have := hg (by simpa using hb) hs; omega))
      · exact .inr (.inl hs)

theorem bytes_any (g : Nat) (A : Option Addr) (n c : Nat) (ys : List Int) (B : Nat) (room : Int) (bad : Bool) (sv : Value) (xs : List Int) (w : World) (hr : Rd w A n (ys.map (Value.int .u8))) (hB : B ≤ w.heap.size) (h : WOk w B g room bad sv xs) :
    Calls Try.prog 13 #[.pointer (some ⟨g, 0, none⟩), .slice A n c] w fun e w' => e = .returned (.pointer (some ⟨g, 0, none⟩)) ∧
      ∃ sv', WOk w' B g room (!goodB room bad xs n) sv' (more (goodB room bad xs n) xs ys) ∧ Fr (WF g sv) w w' ∧ ∀ k, sv'.ownBlock = some k → sv.ownBlock = some k ∨ w.heap.size ≤ k := by
  cases hg : goodB room bad xs n with
  | true =>
    simp [goodB] at hg
    obtain ⟨rfl, hf⟩ := hg
    exact bytes_ok g A n c ys B room sv xs w hf hr hB h
  | false =>
    refine (bytes_bad g A n c B room bad sv xs w ?_ h).mono fun e w' ⟨he, h1, h2⟩ => ⟨he, sv, h1, h2.mono (fun _ _ h => .inl h), fun k hk => .inl hk⟩
    simp [goodB] at hg
    by_cases hb : bad = true
    · exact .inl hb
    · exact .inr (by have := hg (by simpa using hb); omega)

theorem xbytes_any (g : Nat) (A : Option Addr) (n c : Nat) (ys : List Int) (B : Nat) (room : Int) (bad : Bool) (sv : Value) (xs : List Int) (w : World) (hn : n ≤ maxLen) (hr : Rd w A n (ys.map (Value.int .u8))) (hB : B ≤ w.heap.size) (h : XOk w B g room bad sv xs) :
    Calls Try.prog 14 #[.pointer (some ⟨g, 0, none⟩), .slice A n c] w fun e w' => e = .returned (.tuple #[]) ∧
      ∃ sv', XOk w' B g room (!goodB room bad xs n) sv' (more (goodB room bad xs n) xs ys) ∧ Fr (WF g sv) w w' ∧ ∀ k, sv'.ownBlock = some k → sv.ownBlock = some k ∨ w.heap.size ≤ k := by
  cases hg : goodB room bad xs n with
  | true =>
    simp [goodB] at hg
    obtain ⟨rfl, hf⟩ := hg
    exact xbytes_ok g A n c ys B room sv xs w hf hr hB h
  | false =>
    refine (xbytes_bad g A n c B room bad sv xs w ?_ hn h).mono fun e w' ⟨he, h1, h2⟩ => ⟨he, sv, h1, h2.mono (fun _ _ h => .inl h), fun k hk => .inl hk⟩
    simp [goodB] at hg
    by_cases hb : bad = true
    · exact .inl hb
    · exact .inr (by have := hg (by simpa using hb); omega)

/-- Both writers, alike. -/
structure Both (w : World) (B g gx : Nat) (room : Int) (bad : Bool) (sv sx : Value) (xs : List Int) : Prop where
  wr : WOk w B g room bad sv xs
  x : XOk w B gx room bad sx xs
  apart : ∀ q, WF g sv q → ¬ WF gx sx q

theorem WOk.ge {w : World} {B g : Nat} {room : Int} {bad : Bool} {sv : Value} {xs : List Int} (h : WOk w B g room bad sv xs) : ∀ k, WF g sv k → B ≤ k := by
  rintro k (rfl | hk)
  · exact h.hB
  · exact (h.own.lt k hk).1
theorem XOk.ge {w : World} {B g : Nat} {room : Int} {bad : Bool} {sv : Value} {xs : List Int} (h : XOk w B g room bad sv xs) : ∀ k, WF g sv k → B ≤ k := by
  rintro k (rfl | hk)
  · exact h.hB
  · exact (h.own.lt k hk).1

theorem both_apart {W wP : World} {B g gx : Nat} {room : Int} {bad bad' : Bool} {sv sx sv' : Value} {xs xs' : List Int} (hB : Both W B g gx room bad sv sx xs) (_hP : WOk wP B g room bad' sv' xs')
    (hO : ∀ k, sv'.ownBlock = some k → sv.ownBlock = some k ∨ W.heap.size ≤ k) : ∀ q, WF g sv' q → ¬ WF gx sx q := by
  rintro q (rfl | hq) hx
  · exact hB.apart q (.inl rfl) hx
  · rcases hO q hq with h | h
    · exact hB.apart q (.inr h) hx
    · have := hB.x.lt q hx
      omega

theorem both_next {W wP wX : World} {B g gx : Nat} {room : Int} {bad bad' : Bool} {sv sx sv' sx' : Value} {xs xs' : List Int} (hB : Both W B g gx room bad sv sx xs) (hP : WOk wP B g room bad' sv' xs')
    (hO : ∀ k, sv'.ownBlock = some k → sv.ownBlock = some k ∨ W.heap.size ≤ k) (hX : XOk wX B gx room bad' sx' xs') (hF : Fr (WF gx sx) wP wX) (hOx : ∀ k, sx'.ownBlock = some k → sx.ownBlock = some k ∨ wP.heap.size ≤ k) :
    Both wX B g gx room bad' sv' sx' xs' := by
  have ha := both_apart hB hP hO
  refine ⟨hP.fr hF (fun q hq h => ha q hq h), hX, ?_⟩
  rintro q hq (rfl | hx)
  · exact ha q hq (.inl rfl)
  · rcases hOx q hx with h | h
    · exact ha q hq (.inr h)
    · have := LeL.WOk.lt hP q hq
      omega

theorem Both.drewN {w : World} {B g gx : Nat} {room : Int} {bad : Bool} {sv sx : Value} {xs : List Int} (h : Both w B g gx room bad sv sx xs) (n : Nat) : Both (w.drewN n) B g gx room bad sv sx xs :=
  ⟨h.wr.fr (S := No) ((Fr.refl _ _).drewN _) (fun _ _ h => h), h.x.fr (S := No) ((Fr.refl _ _).drewN _) (fun _ _ h => h), h.apart⟩

set_option maxHeartbeats 2000000 in
theorem walk_in (room : Int) (A : Option Addr) (l c : Nat) (ops : List OpV) (w : World) (h0 : 0 ≤ room) (h1 : room ≤ 65536) (hops : OpsAt w A l ops) :
    Calls Try.prog 3 #[.int .i64 room, .slice A l c] w fun e w' => e = .returned (.bool true) ∧ Below w.heap.size w w' := by
  have hl : l ≤ maxLen := hops.2.1
  unfold maxLen at hl
  have HOP := hid hops
  clear hops
  have n0 : ¬ room < 0 := by omega
  have n1 : ¬ 65536 < room := by omega
  go_enter Try.func3, Try.ntmps3
  go_wp2_with fail
  refine (new_in _ _ h0 h1).mono ?_
  rintro e w1 ⟨rfl, hw1⟩
  have W1 := WOk.new w room h0 h1
  have F1 : Fr No w w1 := hw1 ▸ (Fr.refl _ _).alloc _
  rw [hw1] at W1
  have s1 : w1.heap.size = w.heap.size + 1 := by rw [← hw1]; simp
  have L1 := F1.size
  have S1 := hid s1
  clear hw1 s1
  go_wp2_with fail
  refine (lives_any _).mono ?_
  rintro e w2 ⟨rfl, F2⟩
  have W2 := W1.fr F2 (fun _ _ h => h)
  have L2 := F2.size
  have G2 := F1.trans F2
  clear W1 F1 F2
  go_wp2_with fail
  go_loopw [5, 7] (fun p i wr => ∃ (k : Nat) (bad : Bool) (sv sx : Value) (xs : List Int), k ≤ l ∧ p = .pointer (some ⟨w.heap.size, 0, none⟩) ∧ i = .int .i64 k ∧ Both wr w.heap.size w.heap.size w2.heap.size room bad sv sx xs ∧ Fr No w wr) (fun _ i _ => l - (intOf i).toNat)
  case atStart =>
    refine ⟨0, false, .slice none 0 0, .slice none 0 0, [], by omega, rfl, rfl, ⟨W2.fr (S := No) ((Fr.refl _ _).alloc _) (fun _ _ h => h), ⟨Blk.new _ _ _, World.ownsRow_nil _ _ _ _, by omega, h0, h1, by simpa using h0⟩, ?_⟩, G2.alloc _⟩
    intro q hq hx
    have := S1.out
    simp [WF, Value.ownBlock] at hq hx
    omega
  case round =>
    obtain ⟨k, bad, sv, sx, xs, hk, rfl, rfl, hB, hF⟩ := hrel
    by_cases hlt : k < l
    · obtain ⟨v, g, o, rfl, hv, hfit, e0, e1, e2, e3, e4, e5⟩ := HOP.out.at_ hF hlt
      have hsz := hF.size
      have hB1 : Both (wr.alloc (.cells #[.int .i64 v.kind, .int .i64 v.size, .int .u64 v.n, .slice v.ba v.bl v.bc, .int .i64 v.least, .int .i64 v.most] 32)) w.heap.size w.heap.size w2.heap.size room bad sv sx xs :=
        ⟨hB.wr.fr (S := No) ((Fr.refl _ _).alloc _) (fun _ _ h => h), hB.x.fr (S := No) ((Fr.refl _ _).alloc _) (fun _ _ h => h), hB.apart⟩
      have hbk := Blk.new wr 32 #[.int .i64 v.kind, .int .i64 v.size, .int .u64 v.n, .slice v.ba v.bl v.bc, .int .i64 v.least, .int .i64 v.most]
      have HLw := hid (LeL.WOk.lt hB.wr)
      have HLx := hid hB.x.lt
      have HH := hid hF
      have hn := hfit.n
      have hbW := hfit.b
      have hbR := hbW.fr hF
      have hbm := hbR.2.2.1
      have hbl := hbR.2.1
      unfold maxLen at hbm
      clear hB
      cases hk1 : (v.kind == 1) with
      | true =>
        obtain ⟨gd, hgd⟩ : ∃ gd, goodP room bad xs v.size = gd := ⟨_, rfl⟩
        obtain ⟨ys, hys⟩ : ∃ ys, more gd xs (low v.size.toNat v.n) = ys := ⟨_, rfl⟩
        have P := put_any w.heap.size v.size v.n w.heap.size room bad sv xs _ hn.1 (by omega) (by simp; omega) hB1.wr
        rw [hgd, hys] at P
        have HP := hid P
        clear P
        go_wp2_with fail
        refine HP.out.mono ?_
        rintro e wP ⟨rfl, sv', WP, FP, OP⟩
        have bkP := hbk.fr FP (fun h => by have := HLw.out _ h; omega)
        have p1 := bkP.cell 1
        have p2 := bkP.cell 2
        have XP := hB1.x.fr FP (fun q hq h => hB1.apart q h hq)
        have LP := FP.size
        have FN : Fr No w wP := ((HH.out).alloc _).step FP (fun i hi h => by have := WOk.ge hB1.wr i h; omega)
        have HOP' := hid OP
        have HB1 := hid hB1
        have HFN := hid FN
        simp only [World.size_alloc] at LP
        have X := xput_any w2.heap.size v.size v.n w.heap.size room bad sx xs wP hn.1 (by omega) (by omega) XP
        rw [hgd, hys] at X
        have HX := hid X
        have HXP := hid XP
        clear OP FP hbk bkP hB1 FN X XP HP
        go_wp2_with fail
        refine HX.out.mono ?_
        rintro e wX ⟨rfl, sx', XX, FX, OX⟩
        have hBn := both_next HB1.out WP HOP'.out XX FX OX
        have hFn : Fr No w wX := HFN.out.step FX (fun i hi h => by have := XOk.ge HXP.out i h; omega)
        have HFn := hid hFn
        have HGD := hid hgd
        have HYS := hid hys
        clear XX FX OX WP p1 p2 HX HXP hFn hgd hys
        obtain ⟨Ax, cx, rfl⟩ := own_form hBn.x.own
        have x1 := hBn.x.blk.cell 1
        have x2 := hBn.x.blk.cell 2
        cases gd with
        | true =>
          go_wp2
          go_quiet ((go_at_call 15; exact Calls.quiet_of_same ((len_ok _ _ _ _ _ _ _ (hBn.wr.fr (S := No) ((Fr.refl _ _).drewN _) (fun _ _ h => h))).mono fun e w' h => ⟨h.1, h.2.symm⟩)))
          go_wp2
          go_roundw
          case rel => exact ⟨k + 1, _, _, _, _, by omega, rfl, by go_num, hBn.drewN _, HFn.out.drewN _⟩
          case measure => simp [intOf]; omega
        | false =>
          go_wp2
          go_quiet (fail)
          go_wp2
          go_roundw
          case rel => exact ⟨k + 1, _, _, _, _, by omega, rfl, by go_num, hBn.drewN _, HFn.out.drewN _⟩
          case measure => simp [intOf]; omega
      | false =>
        obtain ⟨gd, hgd⟩ : ∃ gd, goodB room bad xs v.bl = gd := ⟨_, rfl⟩
        obtain ⟨ys, hys⟩ : ∃ ys, more gd xs v.bz = ys := ⟨_, rfl⟩
        have P := bytes_any w.heap.size v.ba v.bl v.bc v.bz w.heap.size room bad sv xs _ (hbR.1.fr (S := No) ((Fr.refl _ _).alloc _) (fun _ _ _ h => h)) (by simp; omega) hB1.wr
        rw [hgd, hys] at P
        have HP := hid P
        clear P
        go_wp2_with fail
        refine HP.out.mono ?_
        rintro e wP ⟨rfl, sv', WP, FP, OP⟩
        have bkP := hbk.fr FP (fun h => by have := HLw.out _ h; omega)
        have FN : Fr No w wP := ((HH.out).alloc _).step FP (fun i hi h => by have := WOk.ge hB1.wr i h; omega)
        have p1 := bkP.cell 3
        have p2 := (hbW.fr FN).1
        have XP := hB1.x.fr FP (fun q hq h => hB1.apart q h hq)
        have LP := FP.size
        have HOP' := hid OP
        have HB1 := hid hB1
        have HFN := hid FN
        simp only [World.size_alloc] at LP
        have X := xbytes_any w2.heap.size v.ba v.bl v.bc v.bz w.heap.size room bad sx xs wP (Nat.le_trans hbR.2.1 hbR.2.2.1) p2 (by omega) XP
        rw [hgd, hys] at X
        have HX := hid X
        have HXP := hid XP
        clear OP FP hbk bkP hB1 FN X XP HP
        go_wp2_with fail
        refine HX.out.mono ?_
        rintro e wX ⟨rfl, sx', XX, FX, OX⟩
        have hBn := both_next HB1.out WP HOP'.out XX FX OX
        have hFn : Fr No w wX := HFN.out.step FX (fun i hi h => by have := XOk.ge HXP.out i h; omega)
        have HFn := hid hFn
        have HGD := hid hgd
        have HYS := hid hys
        clear XX FX OX WP p1 p2 HX HXP hFn hgd hys
        obtain ⟨Ax, cx, rfl⟩ := own_form hBn.x.own
        have x1 := hBn.x.blk.cell 1
        have x2 := hBn.x.blk.cell 2
        cases gd with
        | true =>
          go_wp2
          go_quiet ((go_at_call 15; exact Calls.quiet_of_same ((len_ok _ _ _ _ _ _ _ (hBn.wr.fr (S := No) ((Fr.refl _ _).drewN _) (fun _ _ h => h))).mono fun e w' h => ⟨h.1, h.2.symm⟩)))
          go_wp2
          go_roundw
          case rel => exact ⟨k + 1, _, _, _, _, by omega, rfl, by go_num, hBn.drewN _, HFn.out.drewN _⟩
          case measure => simp [intOf]; omega
        | false =>
          go_wp2
          go_quiet (fail)
          go_wp2
          go_roundw
          case rel => exact ⟨k + 1, _, _, _, _, by omega, rfl, by go_num, hBn.drewN _, HFn.out.drewN _⟩
          case measure => simp [intOf]; omega
    · obtain rfl : k = l := by omega
      have HF := hid hF
      have HBB := hid hB
      cases bad with
      | true =>
        have x2 := hB.x.blk.cell 2
        go_wp2_with (go_at_call 16; refine (LeW.done_bad _ _ _ _ _ _ hB.wr).mono ?_; rintro e w' ⟨rfl, rfl⟩)
        go_ret
        exact ⟨rfl, HF.out.below (Nat.le_refl _) (fun _ h => h.elim)⟩
      | false =>
        have hsz := hF.size
        clear hB hF
        go_wp2_with fail
        refine (LeW.done_ok _ _ _ _ _ _ (by omega) HBB.out.wr).mono ?_
        rintro e w5 ⟨rfl, own5, F5⟩
        have X5 := HBB.out.x.fr F5 (fun _ _ h => h)
        have G5 := HF.out.trans F5
        have L5 := F5.size
        have x2 := X5.blk.cell 2
        have HX5 := hid X5
        have HG5 := hid G5
        have HOW := hid own5
        clear X5 own5 F5 G5
        have hs5 := run_str (P := Try.prog) w5.drew 27 9 5 Try.underlying27 Try.underlying5 Try.underlying9 _ _ room.toNat _ (by exact Rd.own HOW.out)
        go_wp2_with fail
        go_region_with (go_at_call 17; refine (xdone_ok _ _ _ _ _ _ (by exact Nat.le_trans hsz L5) (by exact HX5.out.fr (S := No) ((Fr.refl _ _).drewN 1) (fun _ _ h => h))).mono ?_; rintro e w6 ⟨A6, c6, rfl, own6, F6⟩; have hs6 := run_str (P := Try.prog) w6 27 9 5 Try.underlying27 Try.underlying5 Try.underlying9 A6 room.toNat c6 _ (Rd.own own6); have hs7 := run_str (P := Try.prog) w6 27 9 5 Try.underlying27 Try.underlying5 Try.underlying9 (some ⟨wr.heap.size, 0, none⟩) room.toNat room.toNat _ (Rd.own (own_fr (w := w5.drew) HOW.out F6 (fun _ _ h => h))); have G6 := HG5.out.drew.trans F6; clear own6)
        all_goals
          go_wp2
          go_ret
          refine ⟨?_, G6.below (Nat.le_refl _) (fun _ h => h.elim)⟩
          first | rfl | simp

theorem walk (room : Int) (A : Option Addr) (l c : Nat) (ops : List OpV) (w : World) (_hb : -9223372036854775808 ≤ room ∧ room ≤ 9223372036854775807) (hops : OpsAt w A l ops) :
    Calls Try.prog 3 #[.int .i64 room, .slice A l c] w fun e w' => e = .returned (.bool true) ∧ Below w.heap.size w w' := by
  by_cases h : 0 ≤ room ∧ room ≤ 65536
  · exact walk_in room A l c ops w h.1 h.2 hops
  · exact walk_out room A l c w (by omega)
end Go.Proofs.Ytlcafkjnikiomaa.LePuts
