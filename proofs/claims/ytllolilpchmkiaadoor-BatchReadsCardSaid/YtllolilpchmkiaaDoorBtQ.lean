/- Contract: pieces of spans as groups, by the program: none has a sector in common with another of its own group. Conditions: the slice reads as spans that may be, of no more than some thousands of sectors each. -/
import Derived.Test.YtllolilpchmkiaaDoorBtA
import Derived.Test.YtllolilpchmkiaaDoorSpU
namespace Go.Proofs.YtllolilpchmkiaaDoor.BtQ
open Go.RowKit MSep MSepC MSpM Kit BtA SpO
open SpA (wf w64 wf_may)
open SpU (spl Gd split_own spl_len)

def hitB (s : Sp) (l : List Sp) : Bool := l.any fun t => decide (0 < (meet s t).2)
theorem hitB_iff (s : Sp) (l : List Sp) : hitB s l = true ↔ hit s l := by
  unfold hitB hit
  simp
abbrev GS := List (List Sp) × List Sp
def gstep (st : GS) (p : Sp) : GS := if st.2.length = 8 ∨ hitB p st.2 = true then (st.1 ++ [st.2], [p]) else (st.1, st.2 ++ [p])
def gfold (st : GS) (ps : List Sp) : GS := ps.foldl gstep st
/-- How many pieces a span has, less one; the pieces; those of all spans. -/
def kk (s : Sp) : Nat := ((s.1 + s.2 - 1) / 4096 - s.1 / 4096).toNat
def cutp (s : Sp) : List Sp := spl s.1 s.2 4096 (s.1 / 4096) (kk s) (kk s + 1)
def pcs (l : List Sp) : List Sp := l.flatMap cutp
def gclose (st : GS) : List (List Sp) := if st.2 = [] then st.1 else st.1 ++ [st.2]
def gps (l : List Sp) : List (List Sp) := gclose (gfold ([], []) (pcs l))
theorem gfold_snoc (st : GS) (ps : List Sp) (p : Sp) : gfold st (ps ++ [p]) = gstep (gfold st ps) p := by
  unfold gfold
  rw [List.foldl_append]
  rfl
theorem gfold_app (st : GS) (ps qs : List Sp) : gfold st (ps ++ qs) = gfold (gfold st ps) qs := by
  unfold gfold
  rw [List.foldl_append]
theorem pcs_snoc {l : List Sp} {k : Nat} {s : Sp} (h : l[k]? = some s) : pcs (l.take (k + 1)) = pcs (l.take k) ++ cutp s := by
  unfold pcs
  rw [BtA.take_snoc h, List.flatMap_append]
  simp
/-- What a span is that is cut here. -/
def Okp (s : Sp) : Prop := may s ∧ 1 ≤ s.2 ∧ s.1 + s.2 ≤ 200000
theorem okp_gd {s : Sp} (h : Okp s) : Gd s.1 s.2 4096 (s.1 / 4096) (kk s) ∧ kk s ≤ 50 := by
  obtain ⟨h1, h2, h3⟩ := h
  have h0 : 0 ≤ s.1 := h1.1
  have hk : (kk s : Int) = (s.1 + s.2 - 1) / 4096 - s.1 / 4096 := by
    unfold kk
    omega
  refine ⟨⟨h1, by omega, by decide, rfl, by omega⟩, by omega⟩
theorem cutp_in {s : Sp} (h : Okp s) : (cutp s).length = kk s + 1 ∧ ∀ p ∈ cutp s, s.1 ≤ p.1 ∧ 1 ≤ p.2 ∧ p.1 + p.2 ≤ s.1 + s.2 ∧ p.1 / 4096 = (p.1 + p.2 - 1) / 4096 := by
  obtain ⟨hg, _⟩ := okp_gd h
  refine ⟨spl_len _ _ _ _ _ _, fun p hp => ?_⟩
  unfold cutp spl at hp
  obtain ⟨i, hi, rfl⟩ := List.mem_map.1 hp
  have hi : i ≤ kk s := by have := List.mem_range.1 hi; omega
  obtain ⟨e1, e2, e3, e4, e5, e6⟩ := hg.pc_ok hi
  have hf := hg.frm_in hi
  have ht := hg.too_in hi
  rw [e4, e5]
  refine ⟨by rw [e1]; exact hf.1, e2, by rw [e1, e6]; exact ht.2.1, rfl⟩
theorem pcs_wf {l : List Sp} (h : ∀ s ∈ l, Okp s) : ∀ p ∈ pcs l, 0 ≤ p.1 ∧ 1 ≤ p.2 ∧ p.1 + p.2 ≤ 200000 ∧ p.1 / 4096 = (p.1 + p.2 - 1) / 4096 := by
  intro p hp
  unfold pcs at hp
  obtain ⟨s, hs, hp⟩ := List.mem_flatMap.1 hp
  have h1 := h s hs
  obtain ⟨_, h2⟩ := cutp_in h1
  have h3 := h2 p hp
  have := h1.1.1
  have := h1.2.2
  omega
theorem wf_of {p : Sp} (h : 0 ≤ p.1 ∧ 1 ≤ p.2 ∧ p.1 + p.2 ≤ 200000 ∧ p.1 / 4096 = (p.1 + p.2 - 1) / 4096) : wf p := by unfold SpA.wf; omega
theorem gfold_in {P : Sp → Prop} : ∀ (ps : List Sp) (st : GS), (∀ p ∈ ps, P p) → (∀ g ∈ st.1, ∀ p ∈ g, P p) → (∀ p ∈ st.2, P p) → st.2.length ≤ 8 → (∀ g ∈ (gfold st ps).1, ∀ p ∈ g, P p) ∧ (∀ p ∈ (gfold st ps).2, P p) ∧ (gfold st ps).2.length ≤ 8
  | [], st, _, h2, h3, h4 => ⟨h2, h3, h4⟩
  | p :: ps, st, h1, h2, h3, h4 => by
    refine gfold_in ps (gstep st p) (fun q hq => h1 q (by simp [hq])) ?_ ?_ ?_
    · unfold gstep
      split
      · intro g hg q hq
        rcases List.mem_append.1 hg with hg | hg
        · exact h2 g hg q hq
        · simp only [List.mem_singleton] at hg
          subst hg
          exact h3 q hq
      · exact h2
    · unfold gstep
      split
      · intro q hq
        simp only [List.mem_singleton] at hq
        subst hq
        exact h1 q (by simp)
      · intro q hq
        rcases List.mem_append.1 hq with hq | hq
        · exact h3 q hq
        · simp only [List.mem_singleton] at hq
          subst hq
          exact h1 q (by simp)
    · unfold gstep
      split
      · simp
      · rename_i hn
        rw [List.length_append]
        have : ¬ st.2.length = 8 := fun e => hn (Or.inl e)
        simp
        omega
theorem gfold_len : ∀ (ps : List Sp) (st : GS), (gfold st ps).1.length ≤ st.1.length + ps.length
  | [], st => Nat.le_refl _
  | p :: ps, st => by
    have h1 := gfold_len ps (gstep st p)
    have h2 : (gstep st p).1.length ≤ st.1.length + 1 := by
      unfold gstep
      split <;> simp
    show (gfold (gstep st p) ps).1.length ≤ _
    rw [List.length_cons]
    omega
theorem pcs_len {l : List Sp} (h : ∀ s ∈ l, Okp s) : (pcs l).length ≤ 51 * l.length := by
  induction l with
  | nil => simp [pcs]
  | cons s l ih =>
    have h1 := ih (fun t ht => h t (by simp [ht]))
    have h2 := (cutp_in (h s (by simp))).1
    have h3 := (okp_gd (h s (by simp))).2
    have e : pcs (s :: l) = cutp s ++ pcs l := by simp [pcs]
    rw [e, List.length_append, List.length_cons]
    omega

/-- A slice; rows of slices. -/
structure SV where
  A : Option Addr
  n : Nat
  c : Nat
def SV.v (u : SV) : Value := .slice u.A u.n u.c
def Row (B : Nat) (w : World) (va : Value) (vs : List SV) : Prop := w.ownsRow B 24 1 va vs.length (vs.map SV.v)
theorem infoSSa : (Tryd.prog.info? 24).map (fun i => (i.zero, i.size, i.bytes)) = some (some (.slice none 0 0), 1, 24) := by kernel_rfl
theorem infoSS : ∃ i z, Tryd.prog.info? 24 = some i ∧ i.zero = some z ∧ i.size = 1 ∧ i.bytes = 24 ∧ z.cells.size = 1 := by
  have h := infoSSa
  cases hi : Tryd.prog.info? 24 with
  | none => rw [hi] at h; cases h
  | some i =>
    rw [hi] at h
    simp only [Option.map_some, Option.some.injEq, Prod.mk.injEq] at h
    exact ⟨i, _, rfl, h.1, h.2.1, h.2.2, rfl⟩
theorem own_at {B : Nat} {w : World} {e : TypeId} {n m : Nat} {v : Value} {xs : List Value} (h : w.ownsRow B e n v m xs) (k : Nat) (hk : v.ownBlock = some k) : (B ≤ k ∧ k < w.heap.size) ∧ ∃ cs, Blk w k e cs := by
  rcases h.2 with ⟨rfl, _⟩ | ⟨g, cap, cur, rfl, hb, hh, _⟩
  · simp [Value.ownBlock] at hk
  · simp [Value.ownBlock] at hk
    subst hk
    exact ⟨⟨hb, (Array.getElem?_eq_some_iff.1 hh).1⟩, cur, hh⟩
theorem own_apart {B B' : Nat} {w : World} {e e' : TypeId} {n n' m m' : Nat} {v v' : Value} {xs xs' : List Value} (h : w.ownsRow B e n v m xs) (h' : w.ownsRow B' e' n' v' m' xs') (hne : e ≠ e') (k : Nat) (hk : v.ownBlock = some k) : v'.ownBlock ≠ some k := by
  intro hk'
  obtain ⟨_, cs, b1⟩ := own_at h k hk
  obtain ⟨_, cs', b2⟩ := own_at h' k hk'
  exact Blk.ne_ b1 b2 hne rfl
theorem ne_t : (24 : TypeId) ≠ 57 := by decide
/-- The closed groups, and the open one. -/
structure GI (B : Nat) (w : World) (st : GS) (va vg : Value) (vs : List SV) (u : SV) : Prop where
  eg : vg = u.v
  row : Row B w va vs
  len : vs.length = st.1.length
  cl : ∀ (i : Nat) v g, vs[i]? = some v → st.1[i]? = some g → Out B w v.v g ∧ v.n = g.length
  op : Out B w vg st.2
  ln : u.n = st.2.length
  ap : ∀ v ∈ vs, ∀ q, v.v.ownBlock = some q → vg.ownBlock ≠ some q
theorem GI.mem {B : Nat} {w : World} {st : GS} {va vg : Value} {vs : List SV} {u : SV} (h : GI B w st va vg vs u) {i : Nat} {v : SV} (hv : vs[i]? = some v) : ∃ g, st.1[i]? = some g := by
  have hi := (List.getElem?_eq_some_iff.1 hv).1
  exact ⟨_, List.getElem?_eq_getElem (by rw [← h.len]; exact hi)⟩
theorem GI.fr {B : Nat} {w w' : World} {st : GS} {va vg : Value} {vs : List SV} {u : SV} (h : GI B w st va vg vs u) (f : Fr No w w') : GI B w' st va vg vs u :=
  ⟨h.eg, own_fr h.row f (fun _ _ h => h), h.len, fun i v g h1 h2 => ⟨(h.cl i v g h1 h2).1.fr f, (h.cl i v g h1 h2).2⟩, h.op.fr f, h.ln, h.ap⟩
theorem GI.app {B : Nat} {w w' : World} {st : GS} {va vg : Value} {vs : List SV} {u : SV} (h : GI B w st va vg vs u) (f : Fr (fun q => vg.ownBlock = some q) w w') (p : Sp) (u' : SV) (hn : u'.n = st.2.length + 1) (ho : Out B w' u'.v (st.2 ++ [p]))
    (hf : ∀ q, u'.v.ownBlock = some q → vg.ownBlock = some q ∨ w.heap.size ≤ q) : GI B w' (st.1, st.2 ++ [p]) va u'.v vs u' := by
  refine ⟨rfl, own_fr h.row f (fun k hk => own_apart h.row h.op ne_t k hk), h.len, fun i v g h1 h2 => ?_, ho, by rw [hn]; simp, fun v hv q hq => ?_⟩
  · obtain ⟨a, b⟩ := h.cl i v g h1 h2
    exact ⟨own_fr a f (fun k hk => h.ap v (List.mem_of_getElem? h1) k hk), b⟩
  · intro hq'
    rcases hf q hq' with h1 | h1
    · exact h.ap v hv q hq h1
    · obtain ⟨i, hi⟩ := List.mem_iff_getElem?.1 hv
      obtain ⟨g, hg⟩ := h.mem hi
      have := (own_at (h.cl i v g hi hg).1 q hq).1.2
      omega
theorem GI.close {B : Nat} {w w' : World} {st : GS} {va vg va' : Value} {vs : List SV} {u : SV} (h : GI B w st va vg vs u) (f : Fr (fun q => va.ownBlock = some q) w w') (hr : Row B w' va' (vs ++ [u])) : GI B w' (st.1 ++ [st.2], []) va' (.slice none 0 0) (vs ++ [u]) ⟨none, 0, 0⟩ := by
  refine ⟨rfl, hr, by simp [h.len], fun i v g h1 h2 => ?_, Out.nil _ _, rfl, fun v _ q _ hq => by simp [Value.ownBlock] at hq⟩
  by_cases hi : i < vs.length
  · rw [List.getElem?_append_left hi] at h1
    rw [List.getElem?_append_left (by rw [← h.len]; exact hi)] at h2
    obtain ⟨a, b⟩ := h.cl i v g h1 h2
    exact ⟨own_fr a f (fun k hk hk' => own_apart h.row a ne_t k hk' hk), b⟩
  · rw [List.getElem?_append_right (by omega)] at h1
    rw [List.getElem?_append_right (by rw [← h.len]; omega)] at h2
    have hi0 : i - vs.length = 0 := by
      have := (List.getElem?_eq_some_iff.1 h1).1
      simp at this
      omega
    rw [hi0] at h1
    rw [← h.len, hi0] at h2
    simp at h1 h2
    subst h1 h2
    refine ⟨?_, h.ln⟩
    have := h.op
    rw [h.eg] at this
    exact own_fr this f (fun k hk hk' => own_apart h.row this ne_t k hk' hk)
/-- 'all = append(all, group)'. -/
theorem app_row {w : World} {ops : Array Oper} {rest : List Oper} {o : Oper} {a : Act} {Q : Exit → Act → World → Prop} (hgd : o.guard = none) (s x : Operand)
    (ho : o.op = .call { callee := .builtin .append, args := #[s, x], argTypes := #[95, 95] })
    (B : Nat) (v : Value) (vs : List SV) (hs : a.eval s = v) (hown : Row B w v vs)
    (A : Option Addr) (c : Nat) (u : SV) (hx : a.eval x = .slice A 1 c) (hr : Rd w A 1 [u.v])
    (hlim : vs.length + 1 ≤ 1000000) (hbase : B ≤ w.heap.size)
    (h : ∀ A' c' w', Row B w' (.slice A' (vs.length + 1) c') (vs ++ [u]) → Fr (fun q => v.ownBlock = some q) w w' → wpList Tryd.prog ops Q rest (a.put o.dst (.slice A' (vs.length + 1) c')) w') :
    wpList Tryd.prog ops Q (o :: rest) a w := by
  obtain ⟨i0, z0, hi, hz0, hz1, hz2, hz3⟩ := infoSS
  refine wpList_appk 1 (by omega) hgd s x 95 ho B 24 i0 z0 24 Tryd.underlying95 hi hz0 hz1 hz2 hz3 v vs.length (vs.map SV.v) hs hown A 1 c [u.v] hx hr (by intro u hu; simp at hu; subst hu; rfl) (by simp only [maxLen]; omega) (by omega) hbase ?_
  intro A' c' w' o1 f1 _
  refine h A' c' w' ?_ f1
  unfold Row
  rw [List.length_append, List.map_append]
  exact o1
/-- 'group = append(group, piece)', and what becomes of its memory. -/
theorem app_grp {w : World} {ops : Array Oper} {rest : List Oper} {o : Oper} {a : Act} {Q : Exit → Act → World → Prop} (hgd : o.guard = none) (s x : Operand)
    (ho : o.op = .call { callee := .builtin .append, args := #[s, x], argTypes := #[24, 24] })
    (B : Nat) (v : Value) (l : List Sp) (hs : a.eval s = v) (hown : Out B w v l)
    (A : Option Addr) (c : Nat) (p : Sp) (hx : a.eval x = .slice A 1 c) (hr : RdS w A 1 [p])
    (hlim : l.length + 1 ≤ 1000000) (hbase : B ≤ w.heap.size)
    (h : ∀ A' c' w', Out B w' (.slice A' (l.length + 1) c') (l ++ [p]) → Fr (fun q => v.ownBlock = some q) w w' → (∀ q, (Value.slice A' (l.length + 1) c').ownBlock = some q → v.ownBlock = some q ∨ w.heap.size ≤ q) → wpList Tryd.prog ops Q rest (a.put o.dst (.slice A' (l.length + 1) c')) w') :
    wpList Tryd.prog ops Q (o :: rest) a w := by
  obtain ⟨i0, z0, hi, hz0, hz1, hz2, hz3⟩ := info23
  refine wpList_appk 2 (by omega) hgd s x 24 ho B 57 i0 z0 16 Tryd.underlying24 hi hz0 hz1 hz2 hz3 v l.length (cs2 l) hs hown A 1 c (cs2 [p]) hx hr.2 cs2_one (by simp only [maxLen]; omega) (by omega) hbase ?_
  intro A' c' w' o1 f1 n1
  refine h A' c' w' ?_ f1 n1
  unfold Out
  rw [List.length_append, cs2_append]
  exact o1
def RetGG (w w' : World) (e : Ending) (gs : List (List Sp)) : Prop := ∃ (A : Option Addr) (c : Nat) (vs : List SV), e = .returned (.slice A gs.length c) ∧ Rd w' A gs.length (vs.map SV.v) ∧ vs.length = gs.length ∧ (∀ (i : Nat) v g, vs[i]? = some v → gs[i]? = some g → Out w.heap.size w' v.v g ∧ v.n = g.length) ∧ Fr No w w'
/-- The outer loop; the inner one. -/
def LO (w : World) (xs : List Sp) (l : Nat) (va vg i : Value) (wr : World) : Prop := ∃ (k : Nat) (vs : List SV) (u : SV) (Aa : Option Addr) (ca : Nat), k ≤ l ∧ i = .int .i64 k ∧ va = .slice Aa vs.length ca ∧ GI w.heap.size wr (gfold ([], []) (pcs (xs.take k))) va vg vs u ∧ Fr No w wr
def LN (w : World) (st : GS) (ps : List Sp) (As : Option Addr) (cs : Nat) (va vg i : Value) (wr : World) : Prop := ∃ (j : Nat) (vs : List SV) (u : SV) (Aa : Option Addr) (ca : Nat), j ≤ ps.length ∧ i = .int .i64 j ∧ va = .slice Aa vs.length ca ∧ GI w.heap.size wr (gfold st (ps.take j)) va vg vs u ∧ Out w.heap.size wr (.slice As ps.length cs) ps ∧ (∀ q, (Value.slice As ps.length cs).ownBlock = some q → vg.ownBlock ≠ some q) ∧ Fr No w wr
end Go.Proofs.YtllolilpchmkiaaDoor.BtQ
