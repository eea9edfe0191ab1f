/- The walks of SuperReads and SuperPicks. Conditions: what comes in reads as bytes, and (Reads) is no longer than the form's reach; the table of sums is as its text lays it. -/
import Derived.Test.YthhhmhgmmbfjhaaDoorSuP
import Derived.Test.YthhhmhgmmbfjhaaDoorSuN
namespace Go.Proofs.YthhhmhgmmbfjhaaDoor.SuQ
open Go.RowKit MSep MFrame SuA SuB SuD SuJ SuK SuL SuM SuN SuP CrcA CrcM CrcE Kit

theorem isB_own {w : World} {base : Nat} {A : Option Addr} {l c : Nat} {zs : List Int} (h : w.ownsRow base 5 1 (.slice A l c) l (zs.map (Value.int .u8))) (hu : ∀ x ∈ zs, 0 ≤ x ∧ x ≤ 255) : IsB w A l c zs := by
  refine ⟨Rd.own h, ?_, ?_, hu⟩
  · rcases h.2 with ⟨hv, h0⟩ | ⟨g, cap, cur, hv, _, _, hn, _⟩
    · omega
    · injection hv with _ _ h3
      omega
  · rcases h.2 with ⟨hv, h0⟩ | ⟨g, cap, cur, hv, _, _, _, hm, _⟩
    · injection hv with _ _ h3
      rw [h3]
      exact Nat.zero_le _
    · injection hv with _ _ h3
      rw [h3]
      exact hm
theorem pick_none (A1 : Option Addr) (l1 c1 : Nat) (za : List Int) (A2 : Option Addr) (l2 c2 : Nat) (zb : List Int) (w : World) (h1 : IsB w A1 l1 c1 za) (h2 : IsB w A2 l2 c2 zb) (hT : TabAt w) (hp : pkP (dec za) (dec zb) = none) :
    Calls Tryd.prog 22 #[.slice A1 l1 c1, .slice A2 l2 c2] w fun E w' => E = .returned (.tuple #[sv 0 0 0 0 0 0 0 0 0 false, .int .i64 80]) ∧ Fr No w w' := by
  refine (pick_ok A1 l1 c1 za A2 l2 c2 zb w h1 h2 hT).mono ?_
  rintro E w' ⟨h, f⟩
  rw [hp] at h
  exact ⟨h, f⟩
theorem pick_some (A1 : Option Addr) (l1 c1 : Nat) (za : List Int) (A2 : Option Addr) (l2 c2 : Nat) (zb : List Int) (w : World) (h1 : IsB w A1 l1 c1 za) (h2 : IsB w A2 l2 c2 zb) (hT : TabAt w) {x0 x1 x2 x3 x4 x5 x6 x7 x8 : Int} {xb : Bool} (hp : pkP (dec za) (dec zb) = some ⟨x0, x1, x2, x3, x4, x5, x6, x7, x8, xb⟩) :
    Calls Tryd.prog 22 #[.slice A1 l1 c1, .slice A2 l2 c2] w fun E w' => E = .returned (.tuple #[sv x0 x1 x2 x3 x4 x5 x6 x7 x8 xb, .int .i64 0]) ∧ Fr No w w' := by
  refine (pick_ok A1 l1 c1 za A2 l2 c2 zb w h1 h2 hT).mono ?_
  rintro E w' ⟨h, f⟩
  rw [hp] at h
  exact ⟨h, f⟩
theorem rpick_none (A1 : Option Addr) (l1 c1 : Nat) (za : List Int) (A2 : Option Addr) (l2 c2 : Nat) (zb : List Int) (w : World) (h1 : IsB w A1 l1 c1 za) (h2 : IsB w A2 l2 c2 zb) (hp : pkP (dec za) (dec zb) = none) :
    Calls Tryd.prog 23 #[.slice A1 l1 c1, .slice A2 l2 c2] w fun E w' => E = .returned (.tuple #[sv 0 0 0 0 0 0 0 0 0 false, .bool false]) ∧ Fr No w w' := by
  refine (rpick_ok A1 l1 c1 za A2 l2 c2 zb w h1 h2).mono ?_
  rintro E w' ⟨h, f⟩
  rw [hp] at h
  exact ⟨h, f⟩
theorem rpick_some (A1 : Option Addr) (l1 c1 : Nat) (za : List Int) (A2 : Option Addr) (l2 c2 : Nat) (zb : List Int) (w : World) (h1 : IsB w A1 l1 c1 za) (h2 : IsB w A2 l2 c2 zb) {x0 x1 x2 x3 x4 x5 x6 x7 x8 : Int} {xb : Bool} (hp : pkP (dec za) (dec zb) = some ⟨x0, x1, x2, x3, x4, x5, x6, x7, x8, xb⟩) :
    Calls Tryd.prog 23 #[.slice A1 l1 c1, .slice A2 l2 c2] w fun E w' => E = .returned (.tuple #[sv x0 x1 x2 x3 x4 x5 x6 x7 x8 xb, .bool true]) ∧ Fr No w w' := by
  refine (rpick_ok A1 l1 c1 za A2 l2 c2 zb w h1 h2).mono ?_
  rintro E w' ⟨h, f⟩
  rw [hp] at h
  exact ⟨h, f⟩
set_option maxRecDepth 100000 in
set_option maxHeartbeats 4000000 in
theorem reads_none (A : Option Addr) (l c : Nat) (zs : List Int) (w : World) (hb : IsB w A l c zs) (hc : c ≤ reachBytes) (hT : TabAt w) (hd : dec zs = none) : Calls Tryd.prog 4 #[.slice A l c] w fun e w' => e = .returned (.bool true) ∧ Fr No w w' := by
  obtain ⟨i0, hi, hz0, hz1, hz2⟩ := info_parts u8_info
  have hl2 := hb.2.1
  unfold reachBytes at hc
  have hown0 : (w.alloc (.cells #[] 5)).ownsRow w.heap.size 5 1 (.slice (some ⟨w.heap.size, 0, none⟩) 0 0) 0 [] := World.ownsRow_lit w #[] 0 (Nat.le_refl _) (by simp [maxLen]) rfl
  have HO := hid hown0
  have HA := hid (hb.1.fr (S := No) ((Fr.refl _ w).alloc (.cells #[] 5)) (fun _ _ _ h => h))
  have HD := hid hd
  have HDR := hid ((dec_decR zs hb.2.2.2).symm.trans hd)
  have HB := hid hb
  have HT := hid hT
  have hl3 : l ≤ 140737488351232 := by omega
  clear hb hT hown0 hc hl2 hd
  go_enter Tryd.func4, Tryd.ntmps4
  go_upto_region 2 with (at_builtin; go_loud (refine wpList_app rfl (.tmp 8) (.tmp 9) 26 rfl w.heap.size 5 i0 (.int .u8 0) 1 Tryd.underlying26 hi hz0 hz1 hz2 rfl (.slice (some ⟨w.heap.size, 0, none⟩) 0 0) 0 [] rfl HO.out A l c (cells zs) rfl HA.out one_u8s (by simp only [maxLen]; omega) (by omega) (by simp) ?_; intro A1 c1 w1 own1 f1 s1; have hf1 : Fr No w w1 := ((Fr.refl No w).alloc (.cells #[] 5)).step f1 (fun i hi h => by (first | (simp [Value.ownBlock] at h; omega) | (injection h with h; omega) | (exact absurd h (by simp [Value.ownBlock]; omega)))); have FW := hid hf1; clear hf1; have HI := hid (isB_own (zs := zs) (by simpa [cells] using own1) HB.out.2.2.2); clear own1 f1 s1))
  go_upto_region 3 with (first | (go_at_call 19; go_loud (refine (decode_none A1 l c1 zs _ HI.out (HT.out.fr FW.out (fun h => h)) HD.out).mono ?_; rintro e' w2 ⟨rfl, f⟩; replace FW := hid (FW.out.trans f); replace HI := hid (HI.out.fr f); clear f)) | (refine st_S rfl (.tmp 4) (.tmp 14) rfl w2.heap.size rfl rfl (by simp [Value.oneCell']) (Blk.new w2 _ _) rfl ?_; intro w3 HD0 f3; have f : Fr No w2 w3 := ((Fr.refl No w2).alloc _).step f3 (fun i hi e => by omega); replace FW := hid (FW.out.trans f); replace HI := hid (HI.out.fr f); have HE4 := hid (show BS w3 w2.heap.size rz from HD0); clear f f3 HD0))
  obtain ⟨D4, hD4⟩ : ∃ D, w2.heap.size = D := ⟨_, rfl⟩
  rw [hD4] at HE4 ⊢
  clear hD4
  go_upto_region 4 with (first | (go_at_call 21; go_loud (refine (rdec_none A l c zs _ (HB.out.fr FW.out) HDR.out).mono ?_; rintro e' w4 ⟨rfl, f⟩; replace FW := hid (FW.out.trans f); replace HI := hid (HI.out.fr f); replace HE4 := hid (BS.fr HE4.out f (fun h => h)); clear f)) | (refine st_S rfl (.tmp 6) (.tmp 19) rfl w4.heap.size rfl rfl (by simp [Value.oneCell']) (Blk.new w4 _ _) rfl ?_; intro w3 HD0 f3; have f : Fr No w4 w3 := ((Fr.refl No w4).alloc _).step f3 (fun i hi e => by omega); replace FW := hid (FW.out.trans f); replace HI := hid (HI.out.fr f); replace HE4 := hid (BS.fr HE4.out f (fun h => h)); have HE6 := hid (show BS w3 w4.heap.size rz from HD0); clear f f3 HD0))
  obtain ⟨D6, hD6⟩ : ∃ D, w4.heap.size = D := ⟨_, rfl⟩
  rw [hD6] at HE6 ⊢
  clear hD6
  obtain ⟨T, hTT⟩ : ∃ T, strOfNums zs = T := ⟨_, rfl⟩
  have HTT := hid hTT
  clear hTT
  go_wp2_with (go_at_call 15; go_loud (refine (lives_ok _ (HT.out.fr FW.out (fun h => h))).mono ?_; rintro e' w6 ⟨rfl, f⟩; replace FW := hid (FW.out.trans f); replace HI := hid (HI.out.fr f); replace HE4 := hid (BS.fr HE4.out f (fun h => h)); replace HE6 := hid (BS.fr HE6.out f (fun h => h)); clear f; have x40 : w6.cell? ⟨D4, 0, none⟩ = some (.int .i64 0) := Blk.cell HE4.out 0; have x41 : w6.cell? ⟨D4, 1, none⟩ = some (.int .i64 0) := Blk.cell HE4.out 1; have x42 : w6.cell? ⟨D4, 2, none⟩ = some (.int .i64 0) := Blk.cell HE4.out 2; have x43 : w6.cell? ⟨D4, 3, none⟩ = some (.int .i64 0) := Blk.cell HE4.out 3; have x44 : w6.cell? ⟨D4, 4, none⟩ = some (.int .i64 0) := Blk.cell HE4.out 4; have x45 : w6.cell? ⟨D4, 5, none⟩ = some (.int .i64 0) := Blk.cell HE4.out 5; have x46 : w6.cell? ⟨D4, 6, none⟩ = some (.int .i64 0) := Blk.cell HE4.out 6; have x47 : w6.cell? ⟨D4, 7, none⟩ = some (.int .i64 0) := Blk.cell HE4.out 7; have x48 : w6.cell? ⟨D4, 8, none⟩ = some (.int .i64 0) := Blk.cell HE4.out 8; have x49 : w6.cell? ⟨D4, 9, none⟩ = some (.bool false) := Blk.cell HE4.out 9; have y60 : w6.cell? ⟨D6, 0, none⟩ = some (.int .i64 0) := Blk.cell HE6.out 0; have y61 : w6.cell? ⟨D6, 1, none⟩ = some (.int .i64 0) := Blk.cell HE6.out 1; have y62 : w6.cell? ⟨D6, 2, none⟩ = some (.int .i64 0) := Blk.cell HE6.out 2; have y63 : w6.cell? ⟨D6, 3, none⟩ = some (.int .i64 0) := Blk.cell HE6.out 3; have y64 : w6.cell? ⟨D6, 4, none⟩ = some (.int .i64 0) := Blk.cell HE6.out 4; have y65 : w6.cell? ⟨D6, 5, none⟩ = some (.int .i64 0) := Blk.cell HE6.out 5; have y66 : w6.cell? ⟨D6, 6, none⟩ = some (.int .i64 0) := Blk.cell HE6.out 6; have y67 : w6.cell? ⟨D6, 7, none⟩ = some (.int .i64 0) := Blk.cell HE6.out 7; have y68 : w6.cell? ⟨D6, 8, none⟩ = some (.int .i64 0) := Blk.cell HE6.out 8; have y69 : w6.cell? ⟨D6, 9, none⟩ = some (.bool false) := Blk.cell HE6.out 9; have s1 := run_str (P := Tryd.prog) w6 26 9 5 Tryd.underlying26 Tryd.underlying5 Tryd.underlying9 A1 l c1 zs HI.out.1; have s2 := run_str (P := Tryd.prog) w6 26 9 5 Tryd.underlying26 Tryd.underlying5 Tryd.underlying9 A l c zs (HB.out.fr FW.out).1; rw [HTT.out] at s1 s2))
  go_ret
  exact ⟨rfl, FW.out⟩
set_option maxRecDepth 100000 in
set_option maxHeartbeats 4000000 in
theorem reads_some (A : Option Addr) (l c : Nat) (zs : List Int) (w : World) (hb : IsB w A l c zs) (hc : c ≤ reachBytes) (hT : TabAt w) {x0 x1 x2 x3 x4 x5 x6 x7 x8 : Int} {xb : Bool} (hd : dec zs = some ⟨x0, x1, x2, x3, x4, x5, x6, x7, x8, xb⟩) : Calls Tryd.prog 4 #[.slice A l c] w fun e w' => e = .returned (.bool true) ∧ Fr No w w' := by
  obtain ⟨i0, hi, hz0, hz1, hz2⟩ := info_parts u8_info
  have hl2 := hb.2.1
  unfold reachBytes at hc
  have hown0 : (w.alloc (.cells #[] 5)).ownsRow w.heap.size 5 1 (.slice (some ⟨w.heap.size, 0, none⟩) 0 0) 0 [] := World.ownsRow_lit w #[] 0 (Nat.le_refl _) (by simp [maxLen]) rfl
  have HO := hid hown0
  have HA := hid (hb.1.fr (S := No) ((Fr.refl _ w).alloc (.cells #[] 5)) (fun _ _ _ h => h))
  have HD := hid hd
  have HDR := hid ((dec_decR zs hb.2.2.2).symm.trans hd)
  have HB := hid hb
  have HT := hid hT
  have hl3 : l ≤ 140737488351232 := by omega
  clear hb hT hown0 hc hl2 hd
  go_enter Tryd.func4, Tryd.ntmps4
  go_upto_region 2 with (at_builtin; go_loud (refine wpList_app rfl (.tmp 8) (.tmp 9) 26 rfl w.heap.size 5 i0 (.int .u8 0) 1 Tryd.underlying26 hi hz0 hz1 hz2 rfl (.slice (some ⟨w.heap.size, 0, none⟩) 0 0) 0 [] rfl HO.out A l c (cells zs) rfl HA.out one_u8s (by simp only [maxLen]; omega) (by omega) (by simp) ?_; intro A1 c1 w1 own1 f1 s1; have hf1 : Fr No w w1 := ((Fr.refl No w).alloc (.cells #[] 5)).step f1 (fun i hi h => by (first | (simp [Value.ownBlock] at h; omega) | (injection h with h; omega) | (exact absurd h (by simp [Value.ownBlock]; omega)))); have FW := hid hf1; clear hf1; have HI := hid (isB_own (zs := zs) (by simpa [cells] using own1) HB.out.2.2.2); clear own1 f1 s1))
  go_upto_region 3 with (first | (go_at_call 19; go_loud (refine (decode_some A1 l c1 zs _ HI.out (HT.out.fr FW.out (fun h => h)) HD.out).mono ?_; rintro e' w2 ⟨rfl, f⟩; replace FW := hid (FW.out.trans f); replace HI := hid (HI.out.fr f); clear f)) | (refine st_S rfl (.tmp 4) (.tmp 14) rfl w2.heap.size rfl rfl (by simp [Value.oneCell']) (Blk.new w2 _ _) rfl ?_; intro w3 HD0 f3; have f : Fr No w2 w3 := ((Fr.refl No w2).alloc _).step f3 (fun i hi e => by omega); replace FW := hid (FW.out.trans f); replace HI := hid (HI.out.fr f); have HE4 := hid (show BS w3 w2.heap.size ⟨x0, x1, x2, x3, x4, x5, x6, x7, x8, xb⟩ from HD0); clear f f3 HD0))
  obtain ⟨D4, hD4⟩ : ∃ D, w2.heap.size = D := ⟨_, rfl⟩
  rw [hD4] at HE4 ⊢
  clear hD4
  go_upto_region 4 with (first | (go_at_call 21; go_loud (refine (rdec_some A l c zs _ (HB.out.fr FW.out) HDR.out).mono ?_; rintro e' w4 ⟨rfl, f⟩; replace FW := hid (FW.out.trans f); replace HI := hid (HI.out.fr f); replace HE4 := hid (BS.fr HE4.out f (fun h => h)); clear f)) | (refine st_S rfl (.tmp 6) (.tmp 19) rfl w4.heap.size rfl rfl (by simp [Value.oneCell']) (Blk.new w4 _ _) rfl ?_; intro w3 HD0 f3; have f : Fr No w4 w3 := ((Fr.refl No w4).alloc _).step f3 (fun i hi e => by omega); replace FW := hid (FW.out.trans f); replace HI := hid (HI.out.fr f); replace HE4 := hid (BS.fr HE4.out f (fun h => h)); have HE6 := hid (show BS w3 w4.heap.size ⟨x0, x1, x2, x3, x4, x5, x6, x7, x8, xb⟩ from HD0); clear f f3 HD0))
  obtain ⟨D6, hD6⟩ : ∃ D, w4.heap.size = D := ⟨_, rfl⟩
  rw [hD6] at HE6 ⊢
  clear hD6
  obtain ⟨T, hTT⟩ : ∃ T, strOfNums zs = T := ⟨_, rfl⟩
  have HTT := hid hTT
  clear hTT
  go_wp2_with (go_at_call 15; go_loud (refine (lives_ok _ (HT.out.fr FW.out (fun h => h))).mono ?_; rintro e' w6 ⟨rfl, f⟩; replace FW := hid (FW.out.trans f); replace HI := hid (HI.out.fr f); replace HE4 := hid (BS.fr HE4.out f (fun h => h)); replace HE6 := hid (BS.fr HE6.out f (fun h => h)); clear f; have x40 : w6.cell? ⟨D4, 0, none⟩ = some (.int .i64 x0) := Blk.cell HE4.out 0; have x41 : w6.cell? ⟨D4, 1, none⟩ = some (.int .i64 x1) := Blk.cell HE4.out 1; have x42 : w6.cell? ⟨D4, 2, none⟩ = some (.int .i64 x2) := Blk.cell HE4.out 2; have x43 : w6.cell? ⟨D4, 3, none⟩ = some (.int .i64 x3) := Blk.cell HE4.out 3; have x44 : w6.cell? ⟨D4, 4, none⟩ = some (.int .i64 x4) := Blk.cell HE4.out 4; have x45 : w6.cell? ⟨D4, 5, none⟩ = some (.int .i64 x5) := Blk.cell HE4.out 5; have x46 : w6.cell? ⟨D4, 6, none⟩ = some (.int .i64 x6) := Blk.cell HE4.out 6; have x47 : w6.cell? ⟨D4, 7, none⟩ = some (.int .i64 x7) := Blk.cell HE4.out 7; have x48 : w6.cell? ⟨D4, 8, none⟩ = some (.int .i64 x8) := Blk.cell HE4.out 8; have x49 : w6.cell? ⟨D4, 9, none⟩ = some (.bool xb) := Blk.cell HE4.out 9; have y60 : w6.cell? ⟨D6, 0, none⟩ = some (.int .i64 x0) := Blk.cell HE6.out 0; have y61 : w6.cell? ⟨D6, 1, none⟩ = some (.int .i64 x1) := Blk.cell HE6.out 1; have y62 : w6.cell? ⟨D6, 2, none⟩ = some (.int .i64 x2) := Blk.cell HE6.out 2; have y63 : w6.cell? ⟨D6, 3, none⟩ = some (.int .i64 x3) := Blk.cell HE6.out 3; have y64 : w6.cell? ⟨D6, 4, none⟩ = some (.int .i64 x4) := Blk.cell HE6.out 4; have y65 : w6.cell? ⟨D6, 5, none⟩ = some (.int .i64 x5) := Blk.cell HE6.out 5; have y66 : w6.cell? ⟨D6, 6, none⟩ = some (.int .i64 x6) := Blk.cell HE6.out 6; have y67 : w6.cell? ⟨D6, 7, none⟩ = some (.int .i64 x7) := Blk.cell HE6.out 7; have y68 : w6.cell? ⟨D6, 8, none⟩ = some (.int .i64 x8) := Blk.cell HE6.out 8; have y69 : w6.cell? ⟨D6, 9, none⟩ = some (.bool xb) := Blk.cell HE6.out 9; have s1 := run_str (P := Tryd.prog) w6 26 9 5 Tryd.underlying26 Tryd.underlying5 Tryd.underlying9 A1 l c1 zs HI.out.1; have s2 := run_str (P := Tryd.prog) w6 26 9 5 Tryd.underlying26 Tryd.underlying5 Tryd.underlying9 A l c zs (HB.out.fr FW.out).1; rw [HTT.out] at s1 s2))
  go_ret
  exact ⟨rfl, FW.out⟩
set_option maxRecDepth 100000 in
set_option maxHeartbeats 4000000 in
theorem picks_none (A1 : Option Addr) (l1 c1 : Nat) (za : List Int) (A2 : Option Addr) (l2 c2 : Nat) (zb : List Int) (w : World) (h1 : IsB w A1 l1 c1 za) (h2 : IsB w A2 l2 c2 zb) (hT : TabAt w) (hd : pkP (dec za) (dec zb) = none) : Calls Tryd.prog 5 #[.slice A1 l1 c1, .slice A2 l2 c2] w fun e w' => e = .returned (.bool true) ∧ Fr No w w' := by
  have HD := hid hd
  have H1 := hid h1
  have H2 := hid h2
  have HT := hid hT
  have FW := hid (Fr.refl No w)
  clear h1 h2 hT hd
  go_enter Tryd.func5, Tryd.ntmps5
  go_upto_region 2 with (first | (go_at_call 22; go_loud (refine (pick_none A1 l1 c1 za A2 l2 c2 zb _ (H1.out.fr FW.out) (H2.out.fr FW.out) (HT.out.fr FW.out (fun h => h)) HD.out).mono ?_; rintro e' w2 ⟨rfl, f⟩; replace FW := hid (FW.out.trans f); clear f)) | (refine st_S rfl (.tmp 5) (.tmp 13) rfl w2.heap.size rfl rfl (by simp [Value.oneCell']) (Blk.new w2 _ _) rfl ?_; intro w3 HD0 f3; have f : Fr No w2 w3 := ((Fr.refl No w2).alloc _).step f3 (fun i hi e => by omega); replace FW := hid (FW.out.trans f); have HE4 := hid (show BS w3 w2.heap.size rz from HD0); clear f f3 HD0))
  obtain ⟨D4, hD4⟩ : ∃ D, w2.heap.size = D := ⟨_, rfl⟩
  rw [hD4] at HE4 ⊢
  clear hD4
  go_upto_region 3 with (first | (go_at_call 23; go_loud (refine (rpick_none A1 l1 c1 za A2 l2 c2 zb _ (H1.out.fr FW.out) (H2.out.fr FW.out) HD.out).mono ?_; rintro e' w4 ⟨rfl, f⟩; replace FW := hid (FW.out.trans f); replace HE4 := hid (BS.fr HE4.out f (fun h => h)); clear f)) | (refine st_S rfl (.tmp 7) (.tmp 19) rfl w4.heap.size rfl rfl (by simp [Value.oneCell']) (Blk.new w4 _ _) rfl ?_; intro w3 HD0 f3; have f : Fr No w4 w3 := ((Fr.refl No w4).alloc _).step f3 (fun i hi e => by omega); replace FW := hid (FW.out.trans f); replace HE4 := hid (BS.fr HE4.out f (fun h => h)); have HE6 := hid (show BS w3 w4.heap.size rz from HD0); clear f f3 HD0))
  obtain ⟨D6, hD6⟩ : ∃ D, w4.heap.size = D := ⟨_, rfl⟩
  rw [hD6] at HE6 ⊢
  clear hD6
  go_wp2_with (go_at_call 15; go_loud (refine (lives_ok _ (HT.out.fr FW.out (fun h => h))).mono ?_; rintro e' w6 ⟨rfl, f⟩; replace FW := hid (FW.out.trans f); replace HE4 := hid (BS.fr HE4.out f (fun h => h)); replace HE6 := hid (BS.fr HE6.out f (fun h => h)); clear f; have x40 : w6.cell? ⟨D4, 0, none⟩ = some (.int .i64 0) := Blk.cell HE4.out 0; have x41 : w6.cell? ⟨D4, 1, none⟩ = some (.int .i64 0) := Blk.cell HE4.out 1; have x42 : w6.cell? ⟨D4, 2, none⟩ = some (.int .i64 0) := Blk.cell HE4.out 2; have x43 : w6.cell? ⟨D4, 3, none⟩ = some (.int .i64 0) := Blk.cell HE4.out 3; have x44 : w6.cell? ⟨D4, 4, none⟩ = some (.int .i64 0) := Blk.cell HE4.out 4; have x45 : w6.cell? ⟨D4, 5, none⟩ = some (.int .i64 0) := Blk.cell HE4.out 5; have x46 : w6.cell? ⟨D4, 6, none⟩ = some (.int .i64 0) := Blk.cell HE4.out 6; have x47 : w6.cell? ⟨D4, 7, none⟩ = some (.int .i64 0) := Blk.cell HE4.out 7; have x48 : w6.cell? ⟨D4, 8, none⟩ = some (.int .i64 0) := Blk.cell HE4.out 8; have x49 : w6.cell? ⟨D4, 9, none⟩ = some (.bool false) := Blk.cell HE4.out 9; have y60 : w6.cell? ⟨D6, 0, none⟩ = some (.int .i64 0) := Blk.cell HE6.out 0; have y61 : w6.cell? ⟨D6, 1, none⟩ = some (.int .i64 0) := Blk.cell HE6.out 1; have y62 : w6.cell? ⟨D6, 2, none⟩ = some (.int .i64 0) := Blk.cell HE6.out 2; have y63 : w6.cell? ⟨D6, 3, none⟩ = some (.int .i64 0) := Blk.cell HE6.out 3; have y64 : w6.cell? ⟨D6, 4, none⟩ = some (.int .i64 0) := Blk.cell HE6.out 4; have y65 : w6.cell? ⟨D6, 5, none⟩ = some (.int .i64 0) := Blk.cell HE6.out 5; have y66 : w6.cell? ⟨D6, 6, none⟩ = some (.int .i64 0) := Blk.cell HE6.out 6; have y67 : w6.cell? ⟨D6, 7, none⟩ = some (.int .i64 0) := Blk.cell HE6.out 7; have y68 : w6.cell? ⟨D6, 8, none⟩ = some (.int .i64 0) := Blk.cell HE6.out 8; have y69 : w6.cell? ⟨D6, 9, none⟩ = some (.bool false) := Blk.cell HE6.out 9))
  go_ret
  exact ⟨rfl, FW.out⟩
set_option maxRecDepth 100000 in
set_option maxHeartbeats 4000000 in
theorem picks_some (A1 : Option Addr) (l1 c1 : Nat) (za : List Int) (A2 : Option Addr) (l2 c2 : Nat) (zb : List Int) (w : World) (h1 : IsB w A1 l1 c1 za) (h2 : IsB w A2 l2 c2 zb) (hT : TabAt w) {x0 x1 x2 x3 x4 x5 x6 x7 x8 : Int} {xb : Bool} (hd : pkP (dec za) (dec zb) = some ⟨x0, x1, x2, x3, x4, x5, x6, x7, x8, xb⟩) : Calls Tryd.prog 5 #[.slice A1 l1 c1, .slice A2 l2 c2] w fun e w' => e = .returned (.bool true) ∧ Fr No w w' := by
  have HD := hid hd
  have H1 := hid h1
  have H2 := hid h2
  have HT := hid hT
  have FW := hid (Fr.refl No w)
  clear h1 h2 hT hd
  go_enter Tryd.func5, Tryd.ntmps5
  go_upto_region 2 with (first | (go_at_call 22; go_loud (refine (pick_some A1 l1 c1 za A2 l2 c2 zb _ (H1.out.fr FW.out) (H2.out.fr FW.out) (HT.out.fr FW.out (fun h => h)) HD.out).mono ?_; rintro e' w2 ⟨rfl, f⟩; replace FW := hid (FW.out.trans f); clear f)) | (refine st_S rfl (.tmp 5) (.tmp 13) rfl w2.heap.size rfl rfl (by simp [Value.oneCell']) (Blk.new w2 _ _) rfl ?_; intro w3 HD0 f3; have f : Fr No w2 w3 := ((Fr.refl No w2).alloc _).step f3 (fun i hi e => by omega); replace FW := hid (FW.out.trans f); have HE4 := hid (show BS w3 w2.heap.size ⟨x0, x1, x2, x3, x4, x5, x6, x7, x8, xb⟩ from HD0); clear f f3 HD0))
  obtain ⟨D4, hD4⟩ : ∃ D, w2.heap.size = D := ⟨_, rfl⟩
  rw [hD4] at HE4 ⊢
  clear hD4
  go_upto_region 3 with (first | (go_at_call 23; go_loud (refine (rpick_some A1 l1 c1 za A2 l2 c2 zb _ (H1.out.fr FW.out) (H2.out.fr FW.out) HD.out).mono ?_; rintro e' w4 ⟨rfl, f⟩; replace FW := hid (FW.out.trans f); replace HE4 := hid (BS.fr HE4.out f (fun h => h)); clear f)) | (refine st_S rfl (.tmp 7) (.tmp 19) rfl w4.heap.size rfl rfl (by simp [Value.oneCell']) (Blk.new w4 _ _) rfl ?_; intro w3 HD0 f3; have f : Fr No w4 w3 := ((Fr.refl No w4).alloc _).step f3 (fun i hi e => by omega); replace FW := hid (FW.out.trans f); replace HE4 := hid (BS.fr HE4.out f (fun h => h)); have HE6 := hid (show BS w3 w4.heap.size ⟨x0, x1, x2, x3, x4, x5, x6, x7, x8, xb⟩ from HD0); clear f f3 HD0))
  obtain ⟨D6, hD6⟩ : ∃ D, w4.heap.size = D := ⟨_, rfl⟩
  rw [hD6] at HE6 ⊢
  clear hD6
  go_wp2_with (go_at_call 15; go_loud (refine (lives_ok _ (HT.out.fr FW.out (fun h => h))).mono ?_; rintro e' w6 ⟨rfl, f⟩; replace FW := hid (FW.out.trans f); replace HE4 := hid (BS.fr HE4.out f (fun h => h)); replace HE6 := hid (BS.fr HE6.out f (fun h => h)); clear f; have x40 : w6.cell? ⟨D4, 0, none⟩ = some (.int .i64 x0) := Blk.cell HE4.out 0; have x41 : w6.cell? ⟨D4, 1, none⟩ = some (.int .i64 x1) := Blk.cell HE4.out 1; have x42 : w6.cell? ⟨D4, 2, none⟩ = some (.int .i64 x2) := Blk.cell HE4.out 2; have x43 : w6.cell? ⟨D4, 3, none⟩ = some (.int .i64 x3) := Blk.cell HE4.out 3; have x44 : w6.cell? ⟨D4, 4, none⟩ = some (.int .i64 x4) := Blk.cell HE4.out 4; have x45 : w6.cell? ⟨D4, 5, none⟩ = some (.int .i64 x5) := Blk.cell HE4.out 5; have x46 : w6.cell? ⟨D4, 6, none⟩ = some (.int .i64 x6) := Blk.cell HE4.out 6; have x47 : w6.cell? ⟨D4, 7, none⟩ = some (.int .i64 x7) := Blk.cell HE4.out 7; have x48 : w6.cell? ⟨D4, 8, none⟩ = some (.int .i64 x8) := Blk.cell HE4.out 8; have x49 : w6.cell? ⟨D4, 9, none⟩ = some (.bool xb) := Blk.cell HE4.out 9; have y60 : w6.cell? ⟨D6, 0, none⟩ = some (.int .i64 x0) := Blk.cell HE6.out 0; have y61 : w6.cell? ⟨D6, 1, none⟩ = some (.int .i64 x1) := Blk.cell HE6.out 1; have y62 : w6.cell? ⟨D6, 2, none⟩ = some (.int .i64 x2) := Blk.cell HE6.out 2; have y63 : w6.cell? ⟨D6, 3, none⟩ = some (.int .i64 x3) := Blk.cell HE6.out 3; have y64 : w6.cell? ⟨D6, 4, none⟩ = some (.int .i64 x4) := Blk.cell HE6.out 4; have y65 : w6.cell? ⟨D6, 5, none⟩ = some (.int .i64 x5) := Blk.cell HE6.out 5; have y66 : w6.cell? ⟨D6, 6, none⟩ = some (.int .i64 x6) := Blk.cell HE6.out 6; have y67 : w6.cell? ⟨D6, 7, none⟩ = some (.int .i64 x7) := Blk.cell HE6.out 7; have y68 : w6.cell? ⟨D6, 8, none⟩ = some (.int .i64 x8) := Blk.cell HE6.out 8; have y69 : w6.cell? ⟨D6, 9, none⟩ = some (.bool xb) := Blk.cell HE6.out 9))
  go_ret
  exact ⟨rfl, FW.out⟩
theorem reads_walk (A : Option Addr) (l c : Nat) (zs : List Int) (w : World) (hb : IsB w A l c zs) (hc : c ≤ reachBytes) (hT : TabAt w) : Calls Tryd.prog 4 #[.slice A l c] w fun e w' => e = .returned (.bool true) ∧ Fr No w w' := by
  cases hd : dec zs with
  | none => exact reads_none A l c zs w hb hc hT hd
  | some r => exact reads_some A l c zs w hb hc hT (x0 := r.g) (x1 := r.c) (x2 := r.s) (x3 := r.n) (x4 := r.l) (x5 := r.k) (x6 := r.t) (x7 := r.e) (x8 := r.f) (xb := r.b) hd
theorem picks_walk (A1 : Option Addr) (l1 c1 : Nat) (za : List Int) (A2 : Option Addr) (l2 c2 : Nat) (zb : List Int) (w : World) (h1 : IsB w A1 l1 c1 za) (h2 : IsB w A2 l2 c2 zb) (hT : TabAt w) : Calls Tryd.prog 5 #[.slice A1 l1 c1, .slice A2 l2 c2] w fun e w' => e = .returned (.bool true) ∧ Fr No w w' := by
  cases hd : pkP (dec za) (dec zb) with
  | none => exact picks_none A1 l1 c1 za A2 l2 c2 zb w h1 h2 hT hd
  | some r => exact picks_some A1 l1 c1 za A2 l2 c2 zb w h1 h2 hT (x0 := r.g) (x1 := r.c) (x2 := r.s) (x3 := r.n) (x4 := r.l) (x5 := r.k) (x6 := r.t) (x7 := r.e) (x8 := r.f) (xb := r.b) hd
end Go.Proofs.YthhhmhgmmbfjhaaDoor.SuQ
