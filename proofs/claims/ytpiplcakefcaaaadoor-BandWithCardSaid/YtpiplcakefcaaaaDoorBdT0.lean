/- Contracts at the inputs of what must come of every program, of bands. Conditions: what comes in reads as said; the table of sums is as its text lays it. -/
import Derived.Test.YtpiplcakefcaaaaDoorBdN
import Derived.Test.YtpiplcakefcaaaaDoorBdR
namespace Go.Proofs.YtpiplcakefcaaaaDoor.BdT0
open Go.RowKit MSep MFrame Kit MGeM CrcA CrcM CrcE CrcG BdM BdA BdB BdC BdD BdE BdR BdF BdG BdH BdI BdJ BdN

def g0 : Ge := ⟨2, 6, 16, 3, 2⟩
theorem may0 : mayG g0 := by decide
theorem d0 : (lay g0).d = 15 := by decide
theorem r6 : r64 6 := ⟨by decide, by decide⟩
def Z0 : List Int := List.replicate 1920 0
theorem Z0_len : Z0.length = 1920 := List.length_replicate
def F2 : List Int := fill 1 2
theorem F2_len : F2.length = 256 := fill_len 1 2
theorem F2_u8 : ∀ x ∈ F2, 0 ≤ x ∧ x ≤ 255 := fill_u8 (by decide) 2
def F1 : List Int := fill 1 1
theorem F1_len : F1.length = 128 := fill_len 1 1
def p1 (A : Option Addr) (c : Nat) : Pc := ⟨3, 0, false, A, 256, c, F2⟩
def p2 : Pc := ⟨4, 1, true, none, 0, 0, []⟩
theorem sc1 (A : Option Addr) (c : Nat) : sc (p1 A c) = 2 := by unfold p1; rw [sc_false]; decide
theorem sc2 : sc p2 = 1 := by decide
theorem in1 (A : Option Addr) (c : Nat) : inn 15 (p1 A c) := by unfold inn; rw [sc1]; exact ⟨show (0 : Int) ≤ 3 by decide, by decide, by decide, show (3 : Int) ≤ 15 - 2 by decide⟩
theorem in2 : inn 15 p2 := by unfold inn; rw [sc2]; exact ⟨by unfold p2; decide, by decide, by decide, by unfold p2; decide⟩
def X0 : List Int := put (put Z0 (p1 none 0)) p2
theorem X0_eq (A : Option Addr) (c : Nat) : puts Z0 [p1 A c, p2] = X0 := rfl
theorem Y1_len : (put Z0 (p1 none 0)).length = 1920 := (put_len (d := 15) (in1 none 0) F2_len (by rw [Z0_len]; decide)).trans Z0_len
theorem X0_len : X0.length = 1920 := (put_len (d := 15) in2 rfl (by rw [Y1_len]; decide)).trans Y1_len
theorem Z0_u8 : ∀ x ∈ Z0, 0 ≤ x ∧ x ≤ 255 := by intro x hx; rw [List.eq_of_mem_replicate hx]; decide
theorem with0 (A : Option Addr) (c : Nat) : withF g0 Z0 [p1 A c, p2] = (X0, 0) := by
  unfold withF wth
  rw [if_pos may0, d0, if_pos, X0_eq]
  refine ⟨by rw [Z0_len]; decide, ?_⟩
  intro p hp
  simp only [List.mem_cons, List.not_mem_nil, or_false] at hp
  rcases hp with rfl | rfl
  · exact in1 A c
  · exact in2
theorem blank0 : blankF g0 = Z0 := by
  unfold blankF
  rw [if_pos may0, d0]
  rfl
def Y0 : List Int := F1 ++ z128
theorem Y0_len : Y0.length = 256 := by rw [Y0, List.length_append, F1_len, z128_len]
theorem pb1 (A : Option Addr) (c : Nat) : pb (p1 A c) = F2 := rfl
theorem pb2 : pb p2 = z128 := rfl
theorem X0_cut : (X0.drop 384).take 256 = Y0 := by
  have hy : put Z0 (p1 none 0) = Z0.take 384 ++ F2 ++ Z0.drop 640 := by
    unfold put
    rw [pb1, F2_len]
    rfl
  have hx : X0 = (put Z0 (p1 none 0)).take 512 ++ z128 ++ (put Z0 (p1 none 0)).drop 640 := by
    show put (put Z0 (p1 none 0)) p2 = _
    have hp : ∀ c, put c p2 = c.take 512 ++ z128 ++ c.drop (512 + z128.length) := fun c => by unfold put; rw [pb2, show 128 * p2.a.toNat = 512 from rfl]
    rw [hp, z128_len]
  have hf : F2 = F1 ++ fs 1 1 := rfl
  have h1 : (Z0.take 384).length = 384 := by rw [List.length_take, Z0_len]; omega
  have h2 : (put Z0 (p1 none 0)).take 512 = Z0.take 384 ++ F1 := by
    rw [hy, hf, List.append_assoc, List.append_assoc, ← List.append_assoc]
    rw [List.take_append_of_le_length (by rw [List.length_append, h1, F1_len]; decide), List.take_of_length_le (by rw [List.length_append, h1, F1_len]; decide)]
  rw [hx, h2, List.append_assoc, List.append_assoc, List.drop_append_of_le_length (by rw [h1]; decide), List.drop_of_length_le (by rw [h1]; decide), List.nil_append, ← List.append_assoc]
  rw [List.take_append_of_le_length (by rw [List.length_append, F1_len, z128_len]; decide), List.take_of_length_le (by rw [List.length_append, F1_len, z128_len]; decide)]
  rfl
theorem chunk0 : chunkF g0 X0 3 2 = (Y0, 0) := by
  unfold chunkF
  rw [if_pos may0, d0, if_pos (by rw [X0_len]; decide), if_pos (by decide)]
  exact congrArg (fun z => (z, (0 : Int))) X0_cut
def S0 : Int := (onN 0 X0 : Nat)
theorem S0_in : 0 ≤ S0 ∧ S0 < 4294967296 := onN_in 0 X0
theorem mayS0 : mayLb g0 ⟨2, 7, S0⟩ := ⟨may0, by decide, by decide, S0_in.1, by have := S0_in.2; show S0 ≤ 4294967295; omega⟩
theorem of0 : ofF g0 2 7 X0 = (⟨2, 7, S0⟩, 0) := by
  unfold ofF
  rw [if_pos may0, d0, if_pos ⟨by rw [X0_len]; decide, mayS0⟩]
  rfl
theorem enc0 : encF g0 ⟨2, 7, S0⟩ = (seal_ (eLb ⟨2, 7, S0⟩), 0) := by unfold encF; rw [if_pos may0, if_pos mayS0]
def L0 : List Int := seal_ (eLb ⟨2, 7, S0⟩)
theorem L0_len : L0.length = 128 := seal_len (by rw [eLb_len]; decide)
theorem dec_seal {g : Ge} {t : Lb} (h : mayLb g t) : decF g (seal_ (eLb t)) = (t, 0) := by
  unfold decF
  rw [if_pos h.1, lbP_seal h (mayLb_b h)]
theorem dec0 : decF g0 L0 = (⟨2, 7, S0⟩, 0) := dec_seal mayS0
theorem xor_ne {S : Int} (h : 0 ≤ S ∧ S < 4294967296) : bits BinOp.xor IntKind.i64 S 1 ≠ S := by
  obtain ⟨n, rfl⟩ := Int.eq_ofNat_of_zero_le h.1
  have hn : n < 4294967296 := by omega
  have hlt : n ^^^ 1 < 4294967296 := Nat.xor_lt_two_pow (n := 32) hn (by decide)
  have e : bits BinOp.xor IntKind.i64 (n : Int) 1 = ((n ^^^ 1 : Nat) : Int) := by
    unfold bits
    show IntKind.i64.wrap (((BitVec.ofInt 64 (n : Int) ^^^ BitVec.ofInt 64 1).toNat : Nat) : Int) = _
    have h1 : (BitVec.ofInt 64 (n : Int)).toNat = n := by rw [BitVec.toNat_ofInt]; simp; omega
    have h2 : (BitVec.ofInt 64 1).toNat = 1 := rfl
    rw [BitVec.toNat_xor, h1, h2]
    exact IntWalk.i64_in _ (by omega)
  rw [e]
  intro h2
  have h3 : n ^^^ 1 = n := by omega
  have h4 : n ^^^ (n ^^^ 1) = n ^^^ n := by rw [h3]
  rw [← Nat.xor_assoc, Nat.xor_self] at h4
  exact absurd h4 (by decide)
theorem rightY : rightP g0 2 7 S0 X0 := ⟨by rw [of0], rfl⟩
theorem rightN : ¬ rightP g0 2 7 (bits BinOp.xor IntKind.i64 S0 1) X0 := fun h => xor_ne S0_in h.2
theorem cat0 : strOfNums F1 ++ strOfNums z128 = strOfNums Y0 := by
  apply ByteArray.ext
  apply Array.toList_inj.1
  rw [ByteArray.data_append, Array.toList_append]
  simp [strOfNums, Y0]

theorem blk0 (w : World) : Calls Tryd.prog 39 #[.agg #[.int .i64 2, .int .i64 6, .int .i64 16, .int .i64 3, .int .i64 2]] w fun e w' => (∃ A c, e = .returned (.slice A 1920 c) ∧ IsB w' A 1920 c Z0) ∧ Fr No w w' := by
  refine (blank_ok 2 6 16 3 2 w r6).mono ?_
  rintro e w' ⟨A, c, rfl, hb, f⟩
  rw [show blankF ⟨2, 6, 16, 3, 2⟩ = Z0 from blank0, Z0_len] at hb ⊢
  exact ⟨⟨A, c, rfl, hb⟩, f⟩
theorem fil2 (w : World) : Calls Tryd.prog 23 #[.int .u8 1, .int .i64 2] w fun e w' => (∃ A c, e = .returned (.slice A 256 c) ∧ IsB w' A 256 c F2) ∧ Fr No w w' := by
  refine (fill_ok 1 2 w (by decide) (by decide)).mono ?_
  rintro e w' ⟨A, c, rfl, hb, f⟩
  rw [show fill 1 2 = F2 from rfl, F2_len] at hb ⊢
  exact ⟨⟨A, c, rfl, hb⟩, f⟩
theorem fil1 (w : World) : Calls Tryd.prog 23 #[.int .u8 1, .int .i64 1] w fun e w' => (∃ A c, e = .returned (.slice A 128 c) ∧ IsB w' A 128 c F1) ∧ Fr No w w' := by
  refine (fill_ok 1 1 w (by decide) (by decide)).mono ?_
  rintro e w' ⟨A, c, rfl, hb, f⟩
  rw [show fill 1 1 = F1 from rfl, F1_len] at hb ⊢
  exact ⟨⟨A, c, rfl, hb⟩, f⟩
theorem rdP_two {w : World} {A : Option Addr} {c : Nat} {T : TypeId} (h : IsB w A 256 c F2) : RdP (w.alloc (.cells #[.int .i64 3, .int .i64 0, .bool false, .slice A 256 c, .int .i64 4, .int .i64 1, .bool true, .slice none 0 0] T)) (some ⟨w.heap.size, 0, none⟩) 2 [p1 A c, p2] := by
  refine ⟨rfl, fun _ => ⟨_, 0, rfl, by simp, ?_⟩, ?_⟩
  · have hb := Blk.new w T #[.int .i64 3, .int .i64 0, .bool false, .slice A 256 c, .int .i64 4, .int .i64 1, .bool true, .slice none 0 0]
    intro j p hp
    rcases j with _ | _ | j
    · simp at hp
      subst hp
      exact ⟨hb.cell 0, hb.cell 1, hb.cell 2, hb.cell 3⟩
    · simp at hp
      subst hp
      exact ⟨hb.cell 4, hb.cell 5, hb.cell 6, hb.cell 7⟩
    · simp at hp
  · intro p hp
    simp only [List.mem_cons, List.not_mem_nil, or_false] at hp
    rcases hp with rfl | rfl
    · exact h.fr (fr1 _ _)
    · exact isB_nil _
theorem wit0 (A P : Option Addr) (c A1c : Nat) (A1 : Option Addr) (w : World) (hb : IsB w A 1920 c Z0) (hp : RdP w P 2 [p1 A1 A1c, p2]) : Calls Tryd.prog 37 #[.agg #[.int .i64 2, .int .i64 6, .int .i64 16, .int .i64 3, .int .i64 2], .slice A 1920 c, .slice P 2 2] w fun e w' => (∃ A c, e = .returned (.tuple #[.slice A 1920 c, .int .i64 0]) ∧ IsB w' A 1920 c X0) ∧ Fr No w w' := by
  refine (with_ok 2 6 16 3 2 A 1920 c Z0 P 2 2 _ w r6 hb hp (by decide)).mono ?_
  rintro e w' ⟨A, c, rfl, hb, f⟩
  rw [show withF ⟨2, 6, 16, 3, 2⟩ Z0 [p1 A1 A1c, p2] = (X0, 0) from with0 A1 A1c] at hb ⊢
  dsimp only at hb ⊢
  rw [X0_len] at hb ⊢
  exact ⟨⟨A, c, rfl, hb⟩, f⟩
theorem chu0 (A : Option Addr) (c : Nat) (w : World) (hb : IsB w A 1920 c X0) : Calls Tryd.prog 40 #[.agg #[.int .i64 2, .int .i64 6, .int .i64 16, .int .i64 3, .int .i64 2], .slice A 1920 c, .int .i64 3, .int .i64 2] w fun e w' => (∃ A c, e = .returned (.tuple #[.slice A 256 c, .int .i64 0]) ∧ IsB w' A 256 c Y0) ∧ Fr No w w' := by
  refine (chunk_ok 2 6 16 3 2 A 1920 c X0 3 2 w r6 hb).mono ?_
  rintro e w' ⟨A, c, rfl, hb, f⟩
  rw [show chunkF ⟨2, 6, 16, 3, 2⟩ X0 3 2 = (Y0, 0) from chunk0] at hb ⊢
  dsimp only at hb ⊢
  rw [Y0_len] at hb ⊢
  exact ⟨⟨A, c, rfl, hb⟩, f⟩
theorem off0 (A : Option Addr) (c : Nat) (w : World) (hb : IsB w A 1920 c X0) (hT : TabAt w) : Calls Tryd.prog 48 #[.agg #[.int .i64 2, .int .i64 6, .int .i64 16, .int .i64 3, .int .i64 2], .int .i64 2, .int .i64 7, .slice A 1920 c] w fun e w' => e = .returned (.tuple #[lv 2 7 S0, .int .i64 0]) ∧ Fr No w w' := by
  refine (of_ok 2 6 16 3 2 2 7 A 1920 c X0 w r6 hb hT).mono ?_
  rintro e w' ⟨h, f⟩
  rw [show ofF ⟨2, 6, 16, 3, 2⟩ 2 7 X0 = (⟨2, 7, S0⟩, 0) from of0] at h
  exact ⟨h, f⟩
theorem enn0 (w : World) (hT : TabAt w) : Calls Tryd.prog 42 #[.agg #[.int .i64 2, .int .i64 6, .int .i64 16, .int .i64 3, .int .i64 2], lv 2 7 S0] w fun e w' => (∃ A c, e = .returned (.tuple #[.slice A 128 c, .int .i64 0]) ∧ IsB w' A 128 c L0) ∧ Fr No w w' := by
  refine (enc_ok 2 6 16 3 2 2 7 S0 w r6 hT).mono ?_
  rintro e w' ⟨A, c, rfl, hb, f⟩
  rw [show encF ⟨2, 6, 16, 3, 2⟩ ⟨2, 7, S0⟩ = (L0, 0) from enc0] at hb ⊢
  dsimp only at hb ⊢
  rw [L0_len] at hb ⊢
  exact ⟨⟨A, c, rfl, hb⟩, f⟩
theorem dee0 (A : Option Addr) (c : Nat) (w : World) (hb : IsB w A 128 c L0) (hT : TabAt w) : Calls Tryd.prog 45 #[.agg #[.int .i64 2, .int .i64 6, .int .i64 16, .int .i64 3, .int .i64 2], .slice A 128 c] w fun e w' => e = .returned (.tuple #[lv 2 7 S0, .int .i64 0]) ∧ Fr No w w' := by
  refine (dec_ok 2 6 16 3 2 A 128 c L0 w r6 hb hT).mono ?_
  rintro e w' ⟨h, f⟩
  rw [show decF ⟨2, 6, 16, 3, 2⟩ L0 = (⟨2, 7, S0⟩, 0) from dec0] at h
  exact ⟨h, f⟩
theorem rig1 (A : Option Addr) (c : Nat) (w : World) (hb : IsB w A 1920 c X0) (hT : TabAt w) : Calls Tryd.prog 50 #[.agg #[.int .i64 2, .int .i64 6, .int .i64 16, .int .i64 3, .int .i64 2], lv 2 7 S0, .slice A 1920 c] w fun e w' => e = .returned (.bool true) ∧ Fr No w w' :=
  right_ok 2 6 16 3 2 2 7 S0 A 1920 c X0 true w r6 hb hT ⟨fun _ => rightY, fun _ => rfl⟩
theorem rig2 (A : Option Addr) (c : Nat) (w : World) (hb : IsB w A 1920 c X0) (hT : TabAt w) : Calls Tryd.prog 50 #[.agg #[.int .i64 2, .int .i64 6, .int .i64 16, .int .i64 3, .int .i64 2], lv 2 7 (bits BinOp.xor IntKind.i64 S0 1), .slice A 1920 c] w fun e w' => e = .returned (.bool false) ∧ Fr No w w' :=
  right_ok 2 6 16 3 2 2 7 _ A 1920 c X0 false w r6 hb hT ⟨(fun h => by cases h), fun h => absurd h rightN⟩
theorem may1 (w : World) : Calls Tryd.prog 43 #[.agg #[.int .i64 2, .int .i64 6, .int .i64 16, .int .i64 3, .int .i64 2], lv 2 7 S0] w fun e w' => e = .returned (.bool true) ∧ Fr No w w' :=
  maylb_ok 2 6 16 3 2 2 7 S0 true w r6 ⟨fun _ => mayS0, fun _ => rfl⟩
end Go.Proofs.YtpiplcakefcaaaaDoor.BdT0
