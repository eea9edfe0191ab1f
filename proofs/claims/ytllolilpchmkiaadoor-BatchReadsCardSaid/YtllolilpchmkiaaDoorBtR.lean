/- Contract: pieces of spans as groups, by the program. Conditions: the slice reads as spans that may be, of no more than some thousands of sectors each. -/
import Derived.Test.YtllolilpchmkiaaDoorBtQ
namespace Go.Proofs.YtllolilpchmkiaaDoor.BtR
open Go.RowKit MSep MSepC MSpM Kit BtA SpO BtQ
open SpA (wf w64 wf_may)
open SpU (split_own)

theorem Out.le {B B' : Nat} {w : World} {v : Value} {l : List Sp} (h : Out B' w v l) (hb : B ≤ B') : Out B w v l := by
  refine ⟨h.1, ?_⟩
  rcases h.2 with h | ⟨g, cap, cur, h1, h2, h3⟩
  · exact Or.inl h
  · exact Or.inr ⟨g, cap, cur, h1, Nat.le_trans hb h2, h3⟩
theorem next_p (n N : Nat) (h : n < N) : N - (intOf (Value.int .i64 ((n : Int) + 1))).toNat < N - (intOf (Value.int .i64 (n : Int))).toNat := by
  show N - ((n : Int) + 1).toNat < N - (n : Int).toNat; omega
set_option maxRecDepth 100000 in
set_option maxHeartbeats 8000000 in
theorem groups_ok (A : Option Addr) (l c : Nat) (xs : List Sp) (w : World) (hl : l ≤ 100) (hx : RdS w A l xs) (hok : ∀ s ∈ xs, Okp s) :
    Calls Tryd.prog 50 #[.slice A l c] w fun e w' => RetGG w w' e (gps xs) := by
  have HX := hid hx
  have HL := hid hl
  have HK := hid hok
  have HXL := hid hx.1
  have HPW := hid (pcs_wf hok)
  have HPL := hid (pcs_len hok)
  have HTK := hid (show ∀ k, (∀ p ∈ pcs (xs.take k), 0 ≤ p.1 ∧ 1 ≤ p.2 ∧ p.1 + p.2 ≤ 200000 ∧ p.1 / 4096 = (p.1 + p.2 - 1) / 4096) ∧ (pcs (xs.take k)).length ≤ 51 * k from fun k => by
    have h : ∀ s ∈ xs.take k, Okp s := fun s hs => hok s (List.mem_of_mem_take hs)
    refine ⟨pcs_wf h, ?_⟩
    have := pcs_len h
    rw [List.length_take] at this
    omega)
  clear hx hl hok
  go_enter Tryd.func50, Tryd.ntmps50
  go_wp2
  go_loopw [3, 4, 11] (fun va vg i wr => LO w xs l va vg i wr) (fun _ _ i _ => l - (intOf i).toNat)
  case atStart => exact ⟨0, [], ⟨none, 0, 0⟩, none, 0, by omega, rfl, rfl, ⟨rfl, World.ownsRow_nil w _ _ 1, rfl, (fun i v g h => by simp at h), Out.nil _ _, rfl, (fun v h => by cases h)⟩, Fr.refl _ _⟩
  case round =>
    obtain ⟨wx, hwx⟩ : ∃ wx : World, wx = wr := ⟨_, rfl⟩
    subst hwx
    obtain ⟨k, vs, u, Aa, ca, hk, rfl, rfl, hg, hf⟩ := hrel
    obtain ⟨uA, un, uc⟩ := u
    have hge := hg.eg
    obtain ⟨rfl⟩ : u4 = .slice uA un uc := hge
    have HG := hid hg
    have HF := hid hf
    have HVW := hid (show vs.length ≤ 6000 from by
      have h1 := gfold_len (pcs (xs.take k)) ([], [])
      have h2 := (HTK.out k).2
      have h3 := hg.len
      have h4 := HL.out
      simp only [List.length_nil, Nat.zero_add] at h1
      omega)
    by_cases hlt : k < l
    · obtain ⟨⟨a, n⟩, hxk⟩ : ∃ x, xs[k]? = some x := ⟨_, List.getElem?_eq_getElem (by rw [HXL.out]; exact hlt)⟩
      have hko := HK.out _ (List.mem_of_getElem? hxk)
      obtain ⟨hgd, hk50⟩ := okp_gd hko
      obtain ⟨hcl, hci⟩ := cutp_in hko
      obtain ⟨g, o, rfl, hgg, hc⟩ := (HX.out.fr hf).at_ (by omega)
      obtain ⟨e0, e1⟩ := hc k _ hxk
      simp only [] at e0 e1
      have hlt3 : (k : Int) < l := by omega
      have h0k : (0 : Int) ≤ k := by omega
      have hw1 : wrap64 ((k : Int) + 1) = (k : Int) + 1 := by have := HL.out; exact w64 _ (by omega)
      have HPS := hid (pcs_snoc hxk)
      obtain ⟨D, hD⟩ : ∃ D, wx.heap.size = D := ⟨_, rfl⟩
      obtain ⟨w3, hw3⟩ : ∃ w3, wx.alloc (.cells #[.int .i64 a, .int .i64 n] 57) = w3 := ⟨_, rfl⟩
      have HB3 : Blk w3 D 57 #[.int .i64 a, .int .i64 n] := by rw [← hw3, ← hD]; exact Blk.new _ _ _
      have d0 : w3.cell? ⟨D, 0, none⟩ = some (.int .i64 a) := HB3.cell 0
      have d1 : w3.cell? ⟨D, 1, none⟩ = some (.int .i64 n) := HB3.cell 1
      replace HG := hid (show GI w.heap.size w3 _ _ _ _ _ by rw [← hw3]; exact hg.fr (fr1 _ _))
      replace HF := hid (show Fr No w w3 by rw [← hw3]; exact hf.alloc _)
      have HSP := hid (fun W => split_own a n 4096 (a / 4096) (kk (a, n)) W hgd (by decide) (by omega))
      have HCL := hid hcl
      have HCI := hid (show ∀ p ∈ cutp (a, n), wf p from fun p hp => by
        have h1 := hci p hp
        have h2 := hko.1.1
        have h3 := hko.2.2
        dsimp only at h1 h2 h3
        unfold SpA.wf
        omega)
      have HKK := hid hk50
      have HW3 := hid hw3
      clear hc hgg hxk hw3 hg hf hko hgd hcl hci hk50 HB3
      go_upto_region 6 with fail
      try rw [HW3.out]
      try rw [hD]
      clear e0 e1
      go_upto_region 7 with (go_at_call 76; go_loud (refine (HSP.out _).mono ?_; rintro e w4 ⟨As, cs, rfl, hos, f4⟩))
      obtain ⟨ps, hps⟩ : ∃ ps, cutp (a, n) = ps := ⟨_, rfl⟩
      have hos : Out (w3.heap.size + 1) w4 (.slice As (kk (a, n) + 1) cs) ps := by rw [← hps]; exact hos
      rw [hps] at HCL HCI HPS
      have HCL' := HCL.out
      rw [← HCL'] at hos ⊢
      rw [show ((kk (a, n) : Nat) : Int) + 1 = (ps.length : Int) by rw [HCL.out]; rfl]
      have HPN := hid (show ps.length ≤ 51 by rw [HCL.out]; have := HKK.out; omega)
      have HSZ3 := hid HF.out.size
      have HS4 := hid (Out.le hos (show w.heap.size ≤ w3.heap.size + 1 by have := HSZ3.out; omega))
      have HN4 := hid (show ∀ q, (Value.slice As ps.length cs).ownBlock = some q → (Value.slice uA un uc).ownBlock ≠ some q from fun q h h' => by
        have h1 := (own_at hos q h).1.1
        have h2 := (own_at HG.out.op q h').1.2
        omega)
      replace HG := hid (HG.out.fr f4)
      replace HF := hid (HF.out.trans f4)
      obtain ⟨st, hst⟩ : ∃ st, gfold ([], []) (pcs (xs.take k)) = st := ⟨_, rfl⟩
      rw [hst] at HG
      have HST := hid hst
      have HSI := hid (show (∀ g ∈ st.1, ∀ p ∈ g, wf p) ∧ (∀ p ∈ st.2, wf p) ∧ st.2.length ≤ 8 from by
        rw [← hst]
        exact gfold_in (P := wf) _ _ (fun p hp => wf_of ((HTK.out k).1 p hp)) (by simp) (by simp) (by simp))
      have HSL0 := hid (show st.1.length ≤ 5100 from by
        rw [← hst]
        have h1 := gfold_len (pcs (xs.take k)) ([], [])
        have h2 := (HTK.out k).2
        have h3 := HL.out
        simp only [List.length_nil, Nat.zero_add] at h1
        omega)
      clear hos f4 hps hst HSP d0 d1 HCL'
      go_wp2
      go_loopw [3, 4, 18] (fun va vg i wr => LN w st ps As cs va vg i wr) (fun _ _ i _ => ps.length - (intOf i).toNat)
      case atStart => exact ⟨0, vs, ⟨uA, un, uc⟩, Aa, ca, by omega, rfl, rfl, by simpa [gfold] using HG.out, HS4.out, HN4.out, HF.out⟩
      case round =>
        clear HG HF HS4 HN4 HVW
        obtain ⟨j, vs, u, Aa, ca, hj, rfl, rfl, hg, hos, hsn, hf⟩ := hrel
        obtain ⟨uA, un, uc⟩ := u
        obtain ⟨rfl⟩ : u4 = .slice uA un uc := hg.eg
        have hln : un = (gfold st (ps.take j)).2.length := hg.ln
        have hgi := gfold_in (P := wf) (ps.take j) st (fun p hp => HCI.out p (List.mem_of_mem_take hp)) HSI.out.1 HSI.out.2.1 HSI.out.2.2
        have hgl := gfold_len (ps.take j) st
        rw [List.length_take] at hgl
        have hvl := hg.len
        by_cases hjt : j < ps.length
        · obtain ⟨⟨p0, p1⟩, hpj⟩ : ∃ x, ps[j]? = some x := ⟨_, List.getElem?_eq_getElem hjt⟩
          have HWP := hid (HCI.out _ (List.mem_of_getElem? hpj))
          have HNX := hid (show gfold st (ps.take (j + 1)) = gstep (gfold st (ps.take j)) (p0, p1) by rw [BtA.take_snoc hpj, gfold_snoc])
          obtain ⟨g', o', rfl, hgs, hc⟩ := (Out.rd hos).at_ (by omega)
          obtain ⟨e0, e1⟩ := hc j _ hpj
          simp only [] at e0 e1
          obtain ⟨⟨all, grp⟩, hst2⟩ : ∃ st2, gfold st (ps.take j) = st2 := ⟨_, rfl⟩
          rw [hst2] at hg hln hgi hgl hvl HNX
          dsimp only at hln hgi hgl hvl
          have hjt3 : (j : Int) < ps.length := by omega
          have h0j : (0 : Int) ≤ j := by omega
          have hw2 : wrap64 ((j : Int) + 1) = (j : Int) + 1 := by have := HPN.out; exact w64 _ (by omega)
          obtain ⟨E, hE⟩ : ∃ E, wr.heap.size = E := ⟨_, rfl⟩
          obtain ⟨w5, hw5⟩ : ∃ w5, wr.alloc (Obj.cells #[.int .i64 p0, .int .i64 p1] 57) = w5 := ⟨_, rfl⟩
          have f5 : Fr No wr w5 := by rw [← hw5]; exact fr1 _ _
          have HE5 := hid (show Blk w5 E 57 #[.int .i64 p0, .int .i64 p1] by rw [← hw5, ← hE]; exact Blk.new _ _ _)
          have HGE := hid (show (∀ q, (Value.slice Aa vs.length ca).ownBlock = some q → q < E) ∧ ∀ q, (Value.slice uA un uc).ownBlock = some q → q < E by
            rw [← hE]
            exact ⟨fun q h => (own_at hg.row q h).1.2, fun q h => (own_at hg.op q h).1.2⟩)
          have HG5 := hid (hg.fr f5)
          have HS5 := hid (show Out w.heap.size w5 (.slice (some ⟨g', o', none⟩) ps.length cs) ps from own_fr hos f5 (fun _ _ h => h))
          have HSN := hid hsn
          have HF5 := hid (hf.trans f5)
          have d0 : w5.cell? ⟨E, 0, none⟩ = some (.int .i64 p0) := HE5.out.cell 0
          have d1 : w5.cell? ⟨E, 1, none⟩ = some (.int .i64 p1) := HE5.out.cell 1
          have HLN := hid hln
          have HGI := hid hgi
          have HJT := hid hjt
          have HVL := hid (show vs.length ≤ 6000 from by rw [hvl]; exact Nat.le_trans hgl (Nat.le_trans (Nat.add_le_add HSL0.out (Nat.le_trans (Nat.min_le_right _ _) HPN.out)) (by decide)))
          have HW5 := hid hw5
          have hun8 : un ≤ 8 := by rw [hln]; exact hgi.2.2
          clear hc hgs hpj hw5 hg hos hsn hf f5 hst2 hgi hgl hvl hln
          go_upto_region 9 with fail
          try rw [HW5.out]
          try rw [hE]
          clear e0 e1 HW5
          by_cases h8 : un = 8
          · have h8b : ((un : Int) == 8) = true := by rw [h8]; rfl
            have HST2 := hid (show gstep (all, grp) (p0, p1) = (all ++ [grp], [(p0, p1)]) by unfold gstep; rw [if_pos (Or.inl (by dsimp only; rw [← HLN.out]; exact h8))])
            clear h8
            go_upto_region 10 with fail
            have HR1 := hid (Rd.one w5 (SV.v ⟨uA, un, uc⟩) 24)
            have HGR := hid (HG5.out.fr (fr1 w5 (.cells #[SV.v ⟨uA, un, uc⟩] 24)))
            have HRL := hid HGR.out.row
            have HSR := hid (show Out w.heap.size (w5.alloc (.cells #[SV.v ⟨uA, un, uc⟩] 24)) (.slice (some ⟨g', o', none⟩) ps.length cs) ps from own_fr HS5.out (fr1 w5 _) (fun _ _ h => h))
            have HFR := hid (HF5.out.alloc (.cells #[SV.v ⟨uA, un, uc⟩] 24))
            have HER := hid (Blk.alloc HE5.out (.cells #[SV.v ⟨uA, un, uc⟩] 24))
            go_upto_region 11 with (at_builtin; go_loud (refine app_row rfl (.tmp 30) (.tmp 32) rfl w.heap.size (.slice Aa vs.length ca) vs rfl HRL.out (some ⟨w5.heap.size, 0, none⟩) 1 ⟨uA, un, uc⟩ rfl HR1.out (by have := HVL.out; omega) HFR.out.size ?_; intro A8 c8 w8 hr8 f8; have HG8 := hid (GI.close HGR.out f8 hr8); have HS8 := hid (show Out w.heap.size w8 (.slice (some ⟨g', o', none⟩) ps.length cs) ps from own_fr HSR.out f8 (fun q h h' => own_apart HRL.out HSR.out ne_t q h' h)); have HF8 := hid (HFR.out.step f8 (fun i hi h => by have := (own_at HRL.out i h).1.1; omega)); have HE8 := hid (Blk.fr HER.out f8 (fun h => absurd (HGE.out.1 E h) (Nat.lt_irrefl _))); clear hr8 f8))
            have HN8 := hid (show ∀ q, (Value.slice (some ⟨g', o', none⟩) ps.length cs).ownBlock = some q → (Value.slice none 0 0).ownBlock ≠ some q from fun q _ h => by simp [Value.ownBlock] at h)
            have d0 : w8.cell? ⟨E, 0, none⟩ = some (.int .i64 p0) := HE8.out.cell 0
            have d1 : w8.cell? ⟨E, 1, none⟩ = some (.int .i64 p1) := HE8.out.cell 1
            have HLP := hid (lit_rd w8 p0 p1)
            have HGL := hid (HG8.out.fr (fr1 w8 (.cells #[.int .i64 p0, .int .i64 p1] 57)))
            have HSL := hid (show Out w.heap.size (w8.alloc (.cells #[.int .i64 p0, .int .i64 p1] 57)) (.slice (some ⟨g', o', none⟩) ps.length cs) ps from own_fr HS8.out (fr1 w8 (.cells #[.int .i64 p0, .int .i64 p1] 57)) (fun _ _ h => h))
            have HFL := hid (HF8.out.alloc (.cells #[.int .i64 p0, .int .i64 p1] 57))
            have HLM := hid (show ([] : List Sp).length + 1 ≤ 1000000 by simp)
            go_wp2_with (at_builtin; go_loud (refine app_grp rfl (.tmp 34) (.tmp 36) rfl w.heap.size (.slice none 0 0) ([] : List Sp) rfl HGL.out.op (some ⟨w8.heap.size, 0, none⟩) 1 (p0, p1) rfl HLP.out HLM.out HFL.out.size ?_; intro A7 c7 w7 ho7 f7 n7; have HG7 := hid (GI.app HGL.out f7 (p0, p1) ⟨A7, ([] : List Sp).length + 1, c7⟩ rfl ho7 n7); have HS7 := hid (show Out w.heap.size w7 (.slice (some ⟨g', o', none⟩) ps.length cs) ps from own_fr HSL.out f7 (fun q h => HN8.out q h)); have HN7 := hid (show ∀ q, (Value.slice (some ⟨g', o', none⟩) ps.length cs).ownBlock = some q → (Value.slice A7 (([] : List Sp).length + 1) c7).ownBlock ≠ some q from fun q h h' => by rcases n7 q h' with h1 | h1; exact HN8.out q h h1; (have := (own_at HSL.out q h).1.2; omega)); have HF7 := hid (HFL.out.step f7 (fun i hi h => by have := (own_at HGL.out.op i h).1.1; omega)); clear ho7 f7 n7 d0 d1))
            go_roundw
            case rel => (try refine ⟨_, _, _, ?_, rfl, rfl, rfl⟩); exact ⟨j + 1, (vs ++ [⟨uA, un, uc⟩]), ⟨A7, ([] : List Sp).length + 1, c7⟩, A8, c8, Nat.succ_le_of_lt HJT.out, by go_num, by simp, by rw [HNX.out, HST2.out]; exact HG7.out, HS7.out, HN7.out, HF7.out⟩
            case measure => first | exact next_m _ _ HJT.out hw2 | exact next_p _ _ HJT.out
          · have h8b : ((un : Int) == 8) = false := by simp; omega
            by_cases hh : hit (p0, p1) grp
            · have HST2 := hid (show gstep (all, grp) (p0, p1) = (all ++ [grp], [(p0, p1)]) by unfold gstep; rw [if_pos (Or.inr ((hitB_iff _ _).2 hh))])
              have HHH := hid hh
              clear hh
              go_upto_region 10 with (go_at_call 65; go_loud (refine (meets_ok uA un uc grp p0 p1 true _ (by omega) (Out.rd HG5.out.op) HGI.out.2.1 HWP.out ⟨fun _ => HHH.out, fun _ => rfl⟩).mono ?_; rintro e w6 ⟨rfl, f6⟩; have HG6 := hid (HG5.out.fr f6); have HS6 := hid (show Out w.heap.size w6 (.slice (some ⟨g', o', none⟩) ps.length cs) ps from own_fr HS5.out f6 (fun _ _ h => h)); have HF6 := hid (HF5.out.trans f6); have HE6 := hid (Blk.fr HE5.out f6 (fun h => h)); clear f6 d0 d1))
              have HR1 := hid (Rd.one w6 (SV.v ⟨uA, un, uc⟩) 24)
              have HGR := hid (HG6.out.fr (fr1 w6 (.cells #[SV.v ⟨uA, un, uc⟩] 24)))
              have HRL := hid HGR.out.row
              have HSR := hid (show Out w.heap.size (w6.alloc (.cells #[SV.v ⟨uA, un, uc⟩] 24)) (.slice (some ⟨g', o', none⟩) ps.length cs) ps from own_fr HS6.out (fr1 w6 _) (fun _ _ h => h))
              have HFR := hid (HF6.out.alloc (.cells #[SV.v ⟨uA, un, uc⟩] 24))
              have HER := hid (Blk.alloc HE6.out (.cells #[SV.v ⟨uA, un, uc⟩] 24))
              go_upto_region 11 with (at_builtin; go_loud (refine app_row rfl (.tmp 30) (.tmp 32) rfl w.heap.size (.slice Aa vs.length ca) vs rfl HRL.out (some ⟨w6.heap.size, 0, none⟩) 1 ⟨uA, un, uc⟩ rfl HR1.out (by have := HVL.out; omega) HFR.out.size ?_; intro A8 c8 w8 hr8 f8; have HG8 := hid (GI.close HGR.out f8 hr8); have HS8 := hid (show Out w.heap.size w8 (.slice (some ⟨g', o', none⟩) ps.length cs) ps from own_fr HSR.out f8 (fun q h h' => own_apart HRL.out HSR.out ne_t q h' h)); have HF8 := hid (HFR.out.step f8 (fun i hi h => by have := (own_at HRL.out i h).1.1; omega)); have HE8 := hid (Blk.fr HER.out f8 (fun h => absurd (HGE.out.1 E h) (Nat.lt_irrefl _))); clear hr8 f8))
              have HN8 := hid (show ∀ q, (Value.slice (some ⟨g', o', none⟩) ps.length cs).ownBlock = some q → (Value.slice none 0 0).ownBlock ≠ some q from fun q _ h => by simp [Value.ownBlock] at h)
              have d0 : w8.cell? ⟨E, 0, none⟩ = some (.int .i64 p0) := HE8.out.cell 0
              have d1 : w8.cell? ⟨E, 1, none⟩ = some (.int .i64 p1) := HE8.out.cell 1
              have HLP := hid (lit_rd w8 p0 p1)
              have HGL := hid (HG8.out.fr (fr1 w8 (.cells #[.int .i64 p0, .int .i64 p1] 57)))
              have HSL := hid (show Out w.heap.size (w8.alloc (.cells #[.int .i64 p0, .int .i64 p1] 57)) (.slice (some ⟨g', o', none⟩) ps.length cs) ps from own_fr HS8.out (fr1 w8 (.cells #[.int .i64 p0, .int .i64 p1] 57)) (fun _ _ h => h))
              have HFL := hid (HF8.out.alloc (.cells #[.int .i64 p0, .int .i64 p1] 57))
              have HLM := hid (show ([] : List Sp).length + 1 ≤ 1000000 by simp)
              go_wp2_with (at_builtin; go_loud (refine app_grp rfl (.tmp 34) (.tmp 36) rfl w.heap.size (.slice none 0 0) ([] : List Sp) rfl HGL.out.op (some ⟨w8.heap.size, 0, none⟩) 1 (p0, p1) rfl HLP.out HLM.out HFL.out.size ?_; intro A7 c7 w7 ho7 f7 n7; have HG7 := hid (GI.app HGL.out f7 (p0, p1) ⟨A7, ([] : List Sp).length + 1, c7⟩ rfl ho7 n7); have HS7 := hid (show Out w.heap.size w7 (.slice (some ⟨g', o', none⟩) ps.length cs) ps from own_fr HSL.out f7 (fun q h => HN8.out q h)); have HN7 := hid (show ∀ q, (Value.slice (some ⟨g', o', none⟩) ps.length cs).ownBlock = some q → (Value.slice A7 (([] : List Sp).length + 1) c7).ownBlock ≠ some q from fun q h h' => by rcases n7 q h' with h1 | h1; exact HN8.out q h h1; (have := (own_at HSL.out q h).1.2; omega)); have HF7 := hid (HFL.out.step f7 (fun i hi h => by have := (own_at HGL.out.op i h).1.1; omega)); clear ho7 f7 n7 d0 d1))
              go_roundw
              case rel => (try refine ⟨_, _, _, ?_, rfl, rfl, rfl⟩); exact ⟨j + 1, (vs ++ [⟨uA, un, uc⟩]), ⟨A7, ([] : List Sp).length + 1, c7⟩, A8, c8, Nat.succ_le_of_lt HJT.out, by go_num, by simp, by rw [HNX.out, HST2.out]; exact HG7.out, HS7.out, HN7.out, HF7.out⟩
              case measure => first | exact next_m _ _ HJT.out hw2 | exact next_p _ _ HJT.out
            · have HST2 := hid (show gstep (all, grp) (p0, p1) = (all, grp ++ [(p0, p1)]) by unfold gstep; rw [if_neg (fun h => by rcases h with h | h; (dsimp only at h; rw [← HLN.out] at h; exact h8 h); exact hh ((hitB_iff _ _).1 h))])
              have HHH := hid hh
              clear hh
              go_upto_region 12 with (go_at_call 65; go_loud (refine (meets_ok uA un uc grp p0 p1 false _ (by omega) (Out.rd HG5.out.op) HGI.out.2.1 HWP.out ⟨(fun h => Bool.noConfusion h), fun h => absurd h HHH.out⟩).mono ?_; rintro e w6 ⟨rfl, f6⟩; have HG6 := hid (HG5.out.fr f6); have HS6 := hid (show Out w.heap.size w6 (.slice (some ⟨g', o', none⟩) ps.length cs) ps from own_fr HS5.out f6 (fun _ _ h => h)); have HF6 := hid (HF5.out.trans f6); have HE6 := hid (Blk.fr HE5.out f6 (fun h => h)); clear f6 d0 d1))
              have d0 : w6.cell? ⟨E, 0, none⟩ = some (.int .i64 p0) := HE6.out.cell 0
              have d1 : w6.cell? ⟨E, 1, none⟩ = some (.int .i64 p1) := HE6.out.cell 1
              have HLP := hid (lit_rd w6 p0 p1)
              have HGL := hid (HG6.out.fr (fr1 w6 (.cells #[.int .i64 p0, .int .i64 p1] 57)))
              have HSL := hid (show Out w.heap.size (w6.alloc (.cells #[.int .i64 p0, .int .i64 p1] 57)) (.slice (some ⟨g', o', none⟩) ps.length cs) ps from own_fr HS6.out (fr1 w6 (.cells #[.int .i64 p0, .int .i64 p1] 57)) (fun _ _ h => h))
              have HFL := hid (HF6.out.alloc (.cells #[.int .i64 p0, .int .i64 p1] 57))
              have HLM := hid (show grp.length + 1 ≤ 1000000 by rw [← HLN.out]; omega)
              go_wp2_with (at_builtin; go_loud (refine app_grp rfl (.tmp 34) (.tmp 36) rfl w.heap.size (.slice uA un uc) grp rfl HGL.out.op (some ⟨w6.heap.size, 0, none⟩) 1 (p0, p1) rfl HLP.out HLM.out HFL.out.size ?_; intro A7 c7 w7 ho7 f7 n7; have HG7 := hid (GI.app HGL.out f7 (p0, p1) ⟨A7, grp.length + 1, c7⟩ rfl ho7 n7); have HS7 := hid (show Out w.heap.size w7 (.slice (some ⟨g', o', none⟩) ps.length cs) ps from own_fr HSL.out f7 (fun q h => HSN.out q h)); have HN7 := hid (show ∀ q, (Value.slice (some ⟨g', o', none⟩) ps.length cs).ownBlock = some q → (Value.slice A7 (grp.length + 1) c7).ownBlock ≠ some q from fun q h h' => by rcases n7 q h' with h1 | h1; exact HSN.out q h h1; (have := (own_at HSL.out q h).1.2; omega)); have HF7 := hid (HFL.out.step f7 (fun i hi h => by have := (own_at HGL.out.op i h).1.1; omega)); clear ho7 f7 n7 d0 d1))
              go_roundw
              case rel => (try refine ⟨_, _, _, ?_, rfl, rfl, rfl⟩); exact ⟨j + 1, vs, ⟨A7, grp.length + 1, c7⟩, Aa, ca, Nat.succ_le_of_lt HJT.out, by go_num, rfl, by rw [HNX.out, HST2.out]; exact HG7.out, HS7.out, HN7.out, HF7.out⟩
              case measure => first | exact next_m _ _ HJT.out hw2 | exact next_p _ _ HJT.out
        · obtain rfl : j = ps.length := by omega
          rw [List.take_length] at hg hgl
          have HGZ := hid (show GI w.heap.size wr (gfold ([], []) (pcs (xs.take (k + 1)))) (.slice Aa vs.length ca) (.slice uA un uc) vs ⟨uA, un, uc⟩ by rw [HPS.out, gfold_app, HST.out]; exact hg)
          have HFZ := hid hf
          clear hg hos hsn hf hln hgi hgl hvl
          go_wp2
          go_roundw
          case rel => (try refine ⟨_, _, _, ?_, rfl, rfl, rfl⟩); exact ⟨k + 1, vs, ⟨uA, un, uc⟩, Aa, ca, by omega, by go_num, rfl, HGZ.out, HFZ.out⟩
          case measure => first | exact next_m _ _ hlt hw1 | exact next_p _ _ hlt
    · obtain rfl : k = l := by omega
      have HEQ := hid (show gps xs = gclose (gfold ([], []) (pcs (xs.take k))) by unfold gps; rw [List.take_of_length_le (by rw [HXL.out]; exact Nat.le_refl _)])
      obtain ⟨⟨all, grp⟩, hst2⟩ : ∃ st2, gfold ([], []) (pcs (xs.take k)) = st2 := ⟨_, rfl⟩
      rw [hst2] at HG HEQ
      have hln : un = grp.length := HG.out.ln
      have hvl : vs.length = all.length := HG.out.len
      have HLN := hid (And.intro hln hvl)
      by_cases h0 : un = 0
      · have h0b : decide ((0 : Int) < (un : Int)) = false := decide_eq_false (by omega)
        have hgr : grp = [] := List.eq_nil_of_length_eq_zero (by omega)
        have HE2 := hid (show gps xs = all by rw [HEQ.out]; unfold gclose; rw [if_pos hgr])
        clear hst2 hg hf hln hvl hgr
        subst h0
        go_wp2
        go_ret
        exact ⟨Aa, ca, vs, by rw [HE2.out, HLN.out.2]; rfl, by rw [HE2.out, ← HLN.out.2]; exact Rd.own HG.out.row, by rw [HE2.out]; exact HLN.out.2, by rw [HE2.out]; exact HG.out.cl, HF.out⟩
      · have h0c : (0 : Int) < (un : Int) := by omega
        have h0b : decide ((0 : Int) < (un : Int)) = true := decide_eq_true h0c
        have h0d : 0 < un := by omega
        have hgr : ¬ grp = [] := fun h => by rw [h] at hln; exact h0 hln
        have HE2 := hid (show gps xs = all ++ [grp] by rw [HEQ.out]; unfold gclose; rw [if_neg hgr])
        have HR1 := hid (Rd.one wx (SV.v ⟨uA, un, uc⟩) 24)
        have HGR := hid (HG.out.fr (fr1 wx (.cells #[SV.v ⟨uA, un, uc⟩] 24)))
        have HRL := hid HGR.out.row
        have HFR := hid (HF.out.alloc (.cells #[SV.v ⟨uA, un, uc⟩] 24))
        clear hst2 hg hf hln hvl hgr
        go_wp2_with (at_builtin; go_loud (refine app_row rfl (.tmp 43) (.tmp 45) rfl w.heap.size (.slice Aa vs.length ca) vs rfl HRL.out (some ⟨wx.heap.size, 0, none⟩) 1 ⟨uA, un, uc⟩ rfl HR1.out (by have := HVW.out; omega) HFR.out.size ?_; intro A8 c8 w8 hr8 f8; have HRW := hid hr8; have HG8 := hid (GI.close HGR.out f8 hr8); have HF8 := hid (HFR.out.step f8 (fun i hi h => by have := (own_at HRL.out i h).1.1; omega)); clear hr8 f8))
        go_ret
        have hlen : (vs ++ [(⟨uA, un, uc⟩ : SV)]).length = vs.length + 1 := by simp
        have hall : (all ++ [grp]).length = vs.length + 1 := by rw [List.length_append, HLN.out.2]; rfl
        refine ⟨A8, c8, vs ++ [⟨uA, un, uc⟩], by rw [HE2.out, hall]; rfl, ?_, by rw [HE2.out, hall]; exact hlen, by rw [HE2.out]; exact HG8.out.cl, HF8.out⟩
        rw [HE2.out, hall, ← hlen]
        have hrow := HRW.out
        rw [← hlen] at hrow
        exact Rd.own hrow
end Go.Proofs.YtllolilpchmkiaaDoor.BtR
