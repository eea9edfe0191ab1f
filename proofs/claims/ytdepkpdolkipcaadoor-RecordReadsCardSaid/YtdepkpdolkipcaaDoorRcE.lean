/- Contract: a group of deltas as records, by the program. Conditions: the deltas read as a list, and are no more than 6000. -/
import Derived.Test.YtdepkpdolkipcaaDoorRcD
namespace Go.Proofs.YtdepkpdolkipcaaDoor.RcE
open Go.RowKit MSep MSepC RcM RcA RcB RcC DlO RgF RcD

attribute [local go_sem] Oper.semAt_some

/-- All records of a group. -/
def gRs (xs : List De) (e s u : Int) : List Rc := (List.range (nd xs.length)).map (rcI xs e s u)
theorem gRs_len (xs : List De) (e s u : Int) : (gRs xs e s u).length = nd xs.length := by simp [gRs]
theorem gRs_get (xs : List De) (e s u : Int) {i : Nat} {r : Rc} (h : (gRs xs e s u)[i]? = some r) : r = rcI xs e s u i := by
  unfold gRs at h
  rw [List.getElem?_map, Option.map_eq_some_iff] at h
  obtain ⟨j, hj, rfl⟩ := h
  rw [List.getElem?_range] at hj
  · cases hj; rfl
  · by_cases h : i < nd xs.length
    · exact h
    · rw [List.getElem?_eq_none (by simp; omega)] at hj
      cases hj
def gMay (xs : List De) (e s u : Int) : Prop := ∀ i, i < nd xs.length → mayR (rcI xs e s u i)

theorem blk0 {w : World} {g : Nat} {t : TypeId} {v : Value} (h : Blk w g t #[v]) : w.cell? ⟨g, 0, none⟩ = some v := h.cell 0
/-- What holds between two rounds. -/
structure GI (xs : List De) (e s u : Int) (w : World) (n : Nat) (i : Nat) (W : World) : Prop where
  own : ∃ v vs, Blk W (n + 1 + 1 + 1) 61 #[v] ∧ VOut (n + 10) W v vs ∧ vs.length = i ∧ ∀ (j : Nat) x, vs[j]? = some x → Means W x (rcI xs e s u j) ∧ ∀ g o, x.A = some ⟨g, o, none⟩ → n + 10 ≤ g ∧ ∃ cs, Blk W g 58 cs
  may : ∀ j, j < i → mayR (rcI xs e s u j)
  fr : Fr No w W
  b0 : Blk W n 61 #[.slice none 0 0]
  b1 : Blk W (n + 1) 27 #[.int .i64 0]
  b2 : Blk W (n + 1 + 1) 4 #[.bool false]
/-- What holds where a round has returned. -/
structure GX (xs : List De) (e s u : Int) (w : World) (n : Nat) (W : World) : Prop where
  no : ¬ gMay xs e s u
  fr : Fr No w W
  b0 : Blk W n 61 #[.slice none 0 0]
  b1 : Blk W (n + 1) 27 #[.int .i64 1]
theorem Fr.far {S : Nat → Prop} {w W W' : World} (h : Fr No w W) (f : Fr S W W') (hn : ∀ k, S k → w.heap.size ≤ k) : Fr No w W' := h.step f (fun i hi hs => by have := hn i hs; omega)
theorem GI.step {xs : List De} {e s u : Int} {w : World} {n : Nat} {i : Nat} {W W' : World} (h : GI xs e s u w n i W) (hn : n = w.heap.size) (f : Fr (fun k => k = n + 8 + 1) W W') : GI xs e s u w n i W' := by
  obtain ⟨⟨v, vs, h1, h2, h3, h4⟩, m, h5, h6, h7, h8⟩ := h
  refine ⟨⟨v, vs, h1.fr f (by omega), h2.fr f (fun k hk e => by have := (own_ge h2 k hk).1; omega), h3, fun j x hx => ⟨(h4 j x hx).1.fr f (fun g o hg e => by have := ((h4 j x hx).2 g o hg).1; omega), fun g o hg => ?_⟩⟩, m, Fr.far h5 f (fun k hk => by omega), h6.fr f (by omega), h7.fr f (by omega), h8.fr f (by omega)⟩
  obtain ⟨h9, cs, hb⟩ := (h4 j x hx).2 g o hg
  exact ⟨h9, cs, hb.fr f (by omega)⟩
theorem GX.step {xs : List De} {e s u : Int} {w : World} {n : Nat} {W W' : World} (h : GX xs e s u w n W) (hn : n = w.heap.size) (f : Fr (fun k => k = n + 8 + 1) W W') : GX xs e s u w n W' :=
  ⟨h.no, Fr.far h.fr f (fun k hk => by omega), h.b0.fr f (by omega), h.b1.fr f (by omega)⟩

theorem GI.snoc {xs : List De} {e s u : Int} {w W2 W4 W5 : World} {n k1 k2 : Nat} {A1 A2 : Option Addr} {vs : List RV} {x : RV} (hf : Fr No w W2) (hmy : ∀ j, j < vs.length → mayR (rcI xs e s u j)) (hm : mayR (rcI xs e s u vs.length))
    (h0 : Blk W2 n 61 #[.slice none 0 0]) (h1 : Blk W2 (n + 1) 27 #[.int .i64 0]) (h2 : Blk W2 (n + 1 + 1) 4 #[.bool false]) (hv : VOut (n + 10) W2 (.slice A1 vs.length k1) vs)
    (hms : ∀ (j : Nat) y, vs[j]? = some y → Means W2 y (rcI xs e s u j) ∧ ∀ g o, y.A = some ⟨g, o, none⟩ → n + 10 ≤ g ∧ ∃ cs, Blk W2 g 58 cs)
    (hx : Means W2 x (rcI xs e s u vs.length)) (ha : ∀ g o, x.A = some ⟨g, o, none⟩ → n + 10 ≤ g ∧ ∃ cs, Blk W2 g 58 cs)
    (f4 : Fr No W2 W4) (f5 : Fr (fun q => (Value.slice A1 vs.length k1).ownBlock = some q) W4 W5) (h3 : Blk W5 (n + 1 + 1 + 1) 61 #[.slice A1 vs.length k1]) (ho : VOut (n + 10) W5 (.slice A2 (vs.length + 1) k2) (vs ++ [x])) (hn : n = w.heap.size := by rfl) :
    Fr (fun k => k = n ∨ k = n + 1 ∨ k = n + 1 + 1 + 1 ∨ n + 10 ≤ k) W2 (W5.setCell ⟨n + 1 + 1 + 1, 0, none⟩ (.slice A2 (vs.length + 1) k2)) ∧ GI xs e s u w n (vs.length + 1) (W5.setCell ⟨n + 1 + 1 + 1, 0, none⟩ (.slice A2 (vs.length + 1) k2)) := by
  have fp : Fr (fun q => (Value.slice A1 vs.length k1).ownBlock = some q ∨ q = n + 1 + 1 + 1) W2 (W5.setCell ⟨n + 1 + 1 + 1, 0, none⟩ (.slice A2 (vs.length + 1) k2)) := by
    have q1 : Fr (fun q => (Value.slice A1 vs.length k1).ownBlock = some q ∨ q = n + 1 + 1 + 1) W2 W5 := (f4.mono fun _ _ h => h.elim).trans (f5.mono fun _ _ h => .inl h)
    exact q1.setCell (p := ⟨n + 1 + 1 + 1, 0, none⟩) (fun _ => .inr rfl) _
  have far : ∀ {y : RV}, (∀ g o, y.A = some ⟨g, o, none⟩ → n + 10 ≤ g ∧ ∃ cs, Blk W2 g 58 cs) → ∀ g o, y.A = some ⟨g, o, none⟩ → ¬ ((Value.slice A1 vs.length k1).ownBlock = some g ∨ g = n + 1 + 1 + 1) := by
    intro y hy g o hg h
    obtain ⟨h6, cs, h7⟩ := hy g o hg
    rcases h with h | h
    · obtain ⟨_, cs', h8⟩ := own_blk hv g h
      exact Blk.ne_ h8 h7 (by decide) rfl
    · omega
  refine ⟨fp.mono fun k _ h => ?_, ⟨⟨_, vs ++ [x], by simpa using h3.set_ 0 (.slice A2 (vs.length + 1) k2), ho.fr (Fr.set1 W5 (n + 1 + 1 + 1) 0 _) (fun k hk h => by have := (own_ge ho k hk).1; omega), by simp, fun j y hj => ?_⟩, fun j hj => ?_, hf.step fp (fun i hi h => ?_), h0.fr fp ?_, h1.fr fp ?_, h2.fr fp ?_⟩⟩
  · rcases h with h | h
    · exact .inr (.inr (.inr (own_ge hv k h).1))
    · exact .inr (.inr (.inl h))
  · by_cases hjl : j < vs.length
    · rw [List.getElem?_append_left hjl] at hj
      obtain ⟨h6, h7⟩ := hms j y hj
      exact ⟨h6.fr fp (far h7), fun g o hg => ⟨(h7 g o hg).1, by obtain ⟨_, cs, h8⟩ := h7 g o hg; exact ⟨cs, h8.fr fp (far h7 g o hg)⟩⟩⟩
    · rw [List.getElem?_append_right (by omega)] at hj
      obtain ⟨hj0, rfl⟩ : j = vs.length ∧ x = y := by
        by_cases h : j - vs.length = 0
        · rw [h] at hj
          exact ⟨by omega, by simpa using hj⟩
        · rw [List.getElem?_eq_none (by simp; omega)] at hj
          cases hj
      subst hj0
      exact ⟨hx.fr fp (far ha), fun g o hg => ⟨(ha g o hg).1, by obtain ⟨_, cs, h8⟩ := ha g o hg; exact ⟨cs, h8.fr fp (far ha g o hg)⟩⟩⟩
  · by_cases h : j = vs.length
    · subst h; exact hm
    · exact hmy j (by omega)
  · rcases h with h | h
    · have := (own_ge hv i h).1
      omega
    · omega
  · rintro (h | h)
    · have := (own_ge hv _ h).1
      omega
    · omega
  · rintro (h | h)
    · have := (own_ge hv _ h).1
      omega
    · omega
  · rintro (h | h)
    · have := (own_ge hv _ h).1
      omega
    · omega
set_option maxRecDepth 100000 in
set_option maxHeartbeats 2000000 in
theorem group_ok (A : Option Addr) (l c : Nat) (xs : List De) (e s u : Int) (w : World) (hl : l ≤ 6000) (hc : l ≤ c) (hx : RdD w A l xs) :
    Calls Tryd.prog 35 #[.slice A l c, .int .i64 e, .int .i64 s, .int .i64 u] w fun E w' =>
      ((gMay xs e s u ∧ ∃ A' c', E = .returned (.tuple #[.slice A' (nd xs.length) c', .int .i64 0]) ∧ RdG w' A' (nd xs.length) (gRs xs e s u)) ∨ (¬ gMay xs e s u ∧ E = .returned (.tuple #[.slice none 0 0, .int .i64 1]))) ∧ Fr No w w' := by
  have HL := hid hl
  have hl2 : ¬ (6000 : Int) < l := by omega
  have hlen := hx.1
  subst hlen
  obtain ⟨n, hn⟩ : ∃ n, n = w.heap.size := ⟨_, rfl⟩
  refine (callsIn_wide (n := 3)).1 ?_
  refine callsIn_of_wp_marks Tryd.func35 rfl trivial ?_ rfl
  simp only [Tryd.ntmps35, List.size_toArray, List.length_cons, List.length_nil, Nat.reduceAdd, Nat.reduceSub, Array.replicate_succ, Array.replicate_zero, List.push_toArray, List.append_toArray, List.nil_append, List.cons_append]
  gi_wp2_with (refine ⟨trivial, ?_⟩; gi_at_call 70; refine (callsIn_wide.2 (cut_ok _ _ _ _ _ _ _)).mono ?_; rintro e' w' ⟨rfl, rfl⟩)
  obtain ⟨w0, hw0⟩ : ∃ w0, ((((((((w.alloc (Obj.cells #[Value.slice none 0 0] 61)).alloc (Obj.cells #[Value.int IntKind.i64 0] 27)).alloc (Obj.cells #[Value.bool false] 4)).alloc (Obj.cells #[Value.slice none 0 0] 61)).alloc (Obj.cells #[Value.slice A xs.length c] 46)).alloc (Obj.cells #[Value.int IntKind.i64 e] 3)).alloc (Obj.cells #[Value.int IntKind.i64 s] 3)).alloc (Obj.cells #[Value.int IntKind.i64 u] 3)) = w0 := ⟨_, rfl⟩
  have hF0 : Fr No w w0 := by rw [← hw0]; exact ((((((((Fr.refl No w).alloc _).alloc _).alloc _).alloc _).alloc _).alloc _).alloc _).alloc _
  have hsz : w0.heap.size = n + 8 := by rw [← hw0, hn]; simp
  have q0 : Blk w0 (n) 61 #[.slice none 0 0] := by
    rw [← hw0, hn]
    have := Blk.new w 61 #[.slice none 0 0]
    try simp only [World.size_alloc] at this
    exact ((((((this.alloc _).alloc _).alloc _).alloc _).alloc _).alloc _).alloc _
  have q1 : Blk w0 (n + 1) 27 #[.int .i64 0] := by
    rw [← hw0, hn]
    have := Blk.new (w.alloc (Obj.cells #[Value.slice none 0 0] 61)) 27 #[.int .i64 0]
    try simp only [World.size_alloc] at this
    exact (((((this.alloc _).alloc _).alloc _).alloc _).alloc _).alloc _
  have q2 : Blk w0 (n + 1 + 1) 4 #[.bool false] := by
    rw [← hw0, hn]
    have := Blk.new ((w.alloc (Obj.cells #[Value.slice none 0 0] 61)).alloc (Obj.cells #[Value.int IntKind.i64 0] 27)) 4 #[.bool false]
    try simp only [World.size_alloc] at this
    exact ((((this.alloc _).alloc _).alloc _).alloc _).alloc _
  have q3 : Blk w0 (n + 1 + 1 + 1) 61 #[.slice none 0 0] := by
    rw [← hw0, hn]
    have := Blk.new (((w.alloc (Obj.cells #[Value.slice none 0 0] 61)).alloc (Obj.cells #[Value.int IntKind.i64 0] 27)).alloc (Obj.cells #[Value.bool false] 4)) 61 #[.slice none 0 0]
    try simp only [World.size_alloc] at this
    exact (((this.alloc _).alloc _).alloc _).alloc _
  have q4 : Blk w0 (n + 1 + 1 + 1 + 1) 46 #[.slice A xs.length c] := by
    rw [← hw0, hn]
    have := Blk.new ((((w.alloc (Obj.cells #[Value.slice none 0 0] 61)).alloc (Obj.cells #[Value.int IntKind.i64 0] 27)).alloc (Obj.cells #[Value.bool false] 4)).alloc (Obj.cells #[Value.slice none 0 0] 61)) 46 #[.slice A xs.length c]
    try simp only [World.size_alloc] at this
    exact ((this.alloc _).alloc _).alloc _
  have q5 : Blk w0 (n + 1 + 1 + 1 + 1 + 1) 3 #[.int .i64 e] := by
    rw [← hw0, hn]
    have := Blk.new (((((w.alloc (Obj.cells #[Value.slice none 0 0] 61)).alloc (Obj.cells #[Value.int IntKind.i64 0] 27)).alloc (Obj.cells #[Value.bool false] 4)).alloc (Obj.cells #[Value.slice none 0 0] 61)).alloc (Obj.cells #[Value.slice A xs.length c] 46)) 3 #[.int .i64 e]
    try simp only [World.size_alloc] at this
    exact (this.alloc _).alloc _
  have q6 : Blk w0 (n + 1 + 1 + 1 + 1 + 1 + 1) 3 #[.int .i64 s] := by
    rw [← hw0, hn]
    have := Blk.new ((((((w.alloc (Obj.cells #[Value.slice none 0 0] 61)).alloc (Obj.cells #[Value.int IntKind.i64 0] 27)).alloc (Obj.cells #[Value.bool false] 4)).alloc (Obj.cells #[Value.slice none 0 0] 61)).alloc (Obj.cells #[Value.slice A xs.length c] 46)).alloc (Obj.cells #[Value.int IntKind.i64 e] 3)) 3 #[.int .i64 s]
    try simp only [World.size_alloc] at this
    exact this.alloc _
  have q7 : Blk w0 (n + 1 + 1 + 1 + 1 + 1 + 1 + 1) 3 #[.int .i64 u] := by
    rw [← hw0, hn]
    have := Blk.new (((((((w.alloc (Obj.cells #[Value.slice none 0 0] 61)).alloc (Obj.cells #[Value.int IntKind.i64 0] 27)).alloc (Obj.cells #[Value.bool false] 4)).alloc (Obj.cells #[Value.slice none 0 0] 61)).alloc (Obj.cells #[Value.slice A xs.length c] 46)).alloc (Obj.cells #[Value.int IntKind.i64 e] 3)).alloc (Obj.cells #[Value.int IntKind.i64 s] 3)) 3 #[.int .i64 u]
    try simp only [World.size_alloc] at this
    exact this
  rw [hw0]
  clear hw0
  have hx0 := hx.fr hF0
  subst hn
  refine range_fn (gf := 85) rfl (enters_of Tryd.func85 (by kernel_rfl) rfl) (T := fun k => k = w.heap.size ∨ k = w.heap.size + 1 ∨ k = w.heap.size + 1 + 1 + 1 ∨ w.heap.size + 10 ≤ k) (T' := fun k => (k = w.heap.size ∨ k = w.heap.size + 1 ∨ k = w.heap.size + 1 + 1 + 1 ∨ w.heap.size + 10 ≤ k) ∨ k = w.heap.size + 8 + 1) (fun k h => .inl h) (.inr (by rw [hsz]))
    (cut1_iter A xs.length c xs e s u w0 (w.heap.size + 1 + 1 + 1 + 1) _ hl hc hx0 (q4.cell 0) (q5.cell 0) (q6.cell 0) (q7.cell 0) (fun k h => by omega) (fun h0 g o hg => ?tA)) (fun k h => by rw [hsz]; omega)
    (GI xs e s u w w.heap.size) (GX xs e s u w w.heap.size) (fun i W W' h f => h.step rfl (f.mono fun k _ hk => by rw [hk, hsz])) (fun W W' h f => h.step rfl (f.mono fun k _ hk => by rw [hk, hsz])) ?hXs
    ⟨⟨_, [], q3, VOut.nil _ _, rfl, fun j x h => by simp at h⟩, fun j h => by omega, hF0, q0, q1, q2⟩ ?round ?done ?stop
  case tA =>
    obtain ⟨g', o', h1, h2, _⟩ := hx.at_ h0
    rw [hg] at h1
    cases h1
    omega
  case hXs =>
    rintro i vs W ⟨A', n', c', rfl, h1, h2⟩
    rfl
  case round =>
    rintro L i vs W hi hW hG ⟨A', n', c', rfl, h1, h2⟩
    rw [hsz] at hW h2
    gi_wp2
    have hf1 : Fr No W (W.alloc (rx e (wrap64 (s + i)) (decide (i + 1 = nd xs.length)) u A' n' c')) := (Fr.refl No W).alloc _
    refine ⟨hf1.mono fun _ _ h => h.elim, fun W2 f2 => ?_⟩
    rw [hsz] at f2
    have hW2 := f2.size
    simp only [World.size_alloc] at hW2
    obtain ⟨r0, r1, r2, r3, r4⟩ := RB.cells (RB.fr (show RB (W.alloc (rx e (wrap64 (s + i)) (decide (i + 1 = nd xs.length)) u A' n' c')) W.heap.size e (wrap64 (s + i)) (decide (i + 1 = nd xs.length)) u A' n' c' from Blk.new W _ _) f2 (by omega))
    have hd2 : RdD W2 A' n' (chunk xs i) := ⟨(h1.fr hf1).1, (h1.fr hf1).2.fr f2 (fun g o hg => by have := (h2 g o hg).1; omega)⟩
    have hnd : nd xs.length ≤ 1001 := by have := HL.out; unfold nd need; split <;> (try split) <;> omega
    have hn6 : n' ≤ 6 := by rw [← hd2.1, chunk, List.length_take]; omega
    obtain ⟨⟨v, vs2, g3, gv, glen, gm⟩, gmay, gf, g0, g1, g2⟩ := GI.step (GI.step hG rfl (hf1.mono fun _ _ h => h.elim)) rfl f2
    obtain ⟨A1, k1, rfl⟩ := own_form gv
    have HD := hid hd2
    have HA := hid (show ∀ g o, A' = some ⟨g, o, none⟩ → w.heap.size + 10 ≤ g ∧ ∃ cs, Blk W2 g 58 cs from fun g o hg => by obtain ⟨h3, cs, h4⟩ := h2 g o hg; exact ⟨h3, cs, (h4.fr hf1 (fun h => h)).fr f2 (by omega)⟩)
    have HM := hid gm
    have HV := hid gv
    have H3 := hid g3
    have HP := hid (And.intro hW2 hW)
    have H0 := hid g0
    have H1 := hid g1
    have H2 := hid g2
    have HFw := hid gf
    have HMy := hid gmay
    clear hd2 h1 h2 gm gv g3 hG hf1 f2 hW hW2 g0 g1 g2 gf gmay q0 q1 q2 q3 q4 q5 q6 q7 hF0 hx0
    by_cases hm : mayR (rcI xs e s u i)
    · gi_wp2_with (first | (refine ⟨trivial, ?_⟩; gi_at_call 26; refine (CallsIn.inRound L (callsIn_wide.2 (may_ok _ _ _ _ _ _ _ _ _ (by simp only [maxLen]; omega) HD.out))).mono ?_; rintro e' W3 ⟨rfl, f3⟩; rw [decide_eq_true (p := mayR ⟨e, wrap64 (s + i), decide (i + 1 = nd xs.length), u, chunk xs i⟩) hm]; have HF3 := hid f3; have y0 := f3.cell_some r0 (fun h => h); have y1 := f3.cell_some r1 (fun h => h); have y2 := f3.cell_some r2 (fun h => h); have y3 := f3.cell_some r3 (fun h => h); have y4 := f3.cell_some r4 (fun h => h); have z2 := blk0 (Blk.fr H2.out f3 (fun h => h)); have z3 := blk0 (Blk.fr H3.out f3 (fun h => h)); clear f3) | (gi_at_builtin; refine app_v_in rfl (.tmp 27) (.tmp 29) rfl (w.heap.size + 10) (.slice A1 vs2.length k1) vs2 (by rw [glen]; rfl) ((HV.out.fr HF3.out (fun _ _ h => h)).fr ((Fr.refl No W3).alloc _) (fun _ _ h => h)) (some ⟨W3.heap.size, 0, none⟩) 1 1 [⟨e, wrap64 (s + i), decide (i + 1 = nd xs.length), u, A', n', c'⟩] rfl (lit_v W3 _) (by omega) (by have := HF3.out.size; have := HP.out; simp; omega) ?_; intro A2 k2 W5 hown hf5; have HO5 := hid hown; have HF5 := hid hf5; have hq := Blk.fr ((H3.out.fr HF3.out (fun h => h)).alloc (rx e (wrap64 (s + i)) (decide (i + 1 = nd xs.length)) u A' n' c')) hf5 (fun h => by have := (own_ge HV.out _ h).1; omega); have z5 := blk0 hq; have y5 := hq.frozen 0; have HQ5 := hid hq; clear hown hf5 hq))
      rw [← glen]
      exact GI.snoc HFw.out (by rw [glen]; exact HMy.out) (by rw [glen]; exact hm) H0.out H1.out H2.out HV.out HM.out (by rw [glen]; exact ⟨rfl, rfl, rfl, rfl, by simp only [maxLen]; omega, HD.out⟩) HA.out (HF3.out.alloc _) HF5.out HQ5.out HO5.out
    · gi_wp2_with (refine ⟨trivial, ?_⟩; gi_at_call 26; refine (CallsIn.inRound L (callsIn_wide.2 (may_ok _ _ _ _ _ _ _ _ _ (by simp only [maxLen]; omega) HD.out))).mono ?_; rintro e' W3 ⟨rfl, f3⟩; rw [decide_eq_false (p := mayR ⟨e, wrap64 (s + i), decide (i + 1 = nd xs.length), u, chunk xs i⟩) hm]; have HF3 := hid f3; have p0 := Blk.fr H0.out f3 (fun h => h); have p1 := Blk.fr H1.out f3 (fun h => h); have z0 := blk0 p0; have y0 := p0.frozen 0; have z1 := blk0 p1; have y1 := p1.frozen 0; have P0 := hid p0; have P1 := hid p1; clear f3 p0 p1)
      refine ⟨?_, fun h => hm (h i hi), ?_, ?_, ?_⟩
      · exact ((HF3.out.mono fun _ _ h => h.elim).setCell (p := ⟨w.heap.size, 0, none⟩) (fun _ => .inl rfl) _).setCell (p := ⟨w.heap.size + 1, 0, none⟩) (fun _ => .inr (.inl rfl)) _
      · exact ((HFw.out.trans HF3.out).setCell (p := ⟨w.heap.size, 0, none⟩) (fun h => by simp only [] at h; omega) _).setCell (p := ⟨w.heap.size + 1, 0, none⟩) (fun h => by simp only [] at h; omega) _
      · have := (P0.out.set_ 0 (.slice none 0 0)).far (p := ⟨w.heap.size + 1, 0, none⟩) (by simp only []; omega) (.int .i64 1)
        simpa using this
      · have := (P1.out.far (p := ⟨w.heap.size, 0, none⟩) (by simp only []; omega) (.slice none 0 0)).set_ 0 (.int .i64 1)
        simpa using this
  case done =>
    intro W hG hK
    rw [hsz] at hK
    obtain ⟨⟨v, vs2, g3, gv, glen, gm⟩, gmay, gf, g0, g1, g2⟩ := hG
    obtain ⟨A1, k1, rfl⟩ := own_form gv
    have gv2 : VOut (w.heap.size + 10) W (.slice A1 (nd xs.length) k1) vs2 := by rw [← glen]; exact gv
    have z2 := blk0 g2
    have z3 := blk0 g3
    have z0 := blk0 g0
    have y0 := g0.frozen 0
    have z1 := blk0 g1
    have y1 := g1.frozen 0
    gi_wp2
    obtain ⟨W5, hW5⟩ : ∃ W5, (W.setCell ⟨w.heap.size, 0, none⟩ (.slice A1 (nd xs.length) k1)).setCell ⟨w.heap.size + 1, 0, none⟩ (.int .i64 0) = W5 := ⟨_, rfl⟩
    have f5 : Fr (fun k => k < w.heap.size + 9) W W5 := by
      rw [← hW5]
      exact ((Fr.refl _ W).setCell (p := ⟨w.heap.size, 0, none⟩) (fun _ => by simp only []; omega) _).setCell (p := ⟨w.heap.size + 1, 0, none⟩) (fun _ => by simp only []; omega) _
    have fw5 : Fr No w W5 := by
      rw [← hW5]
      exact (gf.setCell (p := ⟨w.heap.size, 0, none⟩) (fun h => by simp only [] at h; omega) _).setCell (p := ⟨w.heap.size + 1, 0, none⟩) (fun h => by simp only [] at h; omega) _
    have b0 : Blk W5 w.heap.size 61 #[.slice A1 (nd xs.length) k1] := by
      rw [← hW5]
      have := (g0.set_ 0 (.slice A1 (nd xs.length) k1)).far (p := ⟨w.heap.size + 1, 0, none⟩) (by simp only []; omega) (.int .i64 0)
      simpa using this
    have b1 : Blk W5 (w.heap.size + 1) 27 #[.int .i64 0] := by
      rw [← hW5]
      have := (g1.far (p := ⟨w.heap.size, 0, none⟩) (by simp only []; omega) (.slice A1 (nd xs.length) k1)).set_ 0 (.int .i64 0)
      simpa using this
    have hK5 : W5.heap[w0.heap.size]? = some (.deferred (some [])) := by
      rw [← hW5, hsz]
      exact ((Below.heap_setCell _ _ _ _ (by simp only []; omega)).trans (Below.heap_setCell _ _ _ _ (by simp only []; omega))).trans hK
    rw [hW5]
    refine ⟨by simp, .inl ⟨_, _, rfl, run_takeDeferred hK5, ?_⟩⟩
    have f6 : Fr (fun k => k = w.heap.size + 8) W5 (W5.putObj w0.heap.size (.deferred none)) := Fr.putObj (S := fun k => k = w.heap.size + 8) (Fr.refl _ _) (fun _ => hsz) _
    have c0 := blk0 (b0.fr f6 (by omega))
    have c1 := blk0 (b1.fr f6 (by omega))
    have fm : Fr (fun k => k < w.heap.size + 9) W (W5.putObj w0.heap.size (.deferred none)) := f5.trans (f6.mono fun k _ h => by omega)
    refine ⟨.tuple #[.slice A1 (nd xs.length) k1, .int .i64 0], ?_, .inl ⟨gmay, A1, k1, rfl, vs2, (gv2.fr fm (fun k hk h => by have := (own_ge gv2 k hk).1; omega)).rd glen.symm, gRs_len xs e s u, fun j x r hx hr => ?_⟩, fw5.step f6 (fun i hi h => by omega)⟩
    · simp [results, Tryd.f35, go_sem, c0, c1]
    · obtain rfl := gRs_get xs e s u hr
      exact (gm j x hx).1.fr fm (fun g o hg h => by have := ((gm j x hx).2 g o hg).1; omega)
  case stop =>
    intro W hG hK
    rw [hsz] at hK
    obtain ⟨hno, gf, g0, g1⟩ := hG
    gi_wp2
    have hK5 : W.heap[w0.heap.size]? = some (.deferred (some [])) := by rw [hsz]; exact hK
    refine ⟨by simp, .inl ⟨_, _, rfl, run_takeDeferred hK5, ?_⟩⟩
    have f6 : Fr (fun k => k = w.heap.size + 8) W (W.putObj w0.heap.size (.deferred none)) := Fr.putObj (S := fun k => k = w.heap.size + 8) (Fr.refl _ _) (fun _ => hsz) _
    have c0 := blk0 (g0.fr f6 (by omega))
    have c1 := blk0 (g1.fr f6 (by omega))
    refine ⟨.tuple #[.slice none 0 0, .int .i64 1], ?_, .inr ⟨hno, rfl⟩, gf.step f6 (fun i hi h => by omega)⟩
    simp [results, Tryd.f35, go_sem, c0, c1]
end Go.Proofs.YtdepkpdolkipcaaDoor.RcE
