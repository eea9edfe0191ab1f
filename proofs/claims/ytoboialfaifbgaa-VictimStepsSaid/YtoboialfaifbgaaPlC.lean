/- Contracts: what an iterator over whole numbers hands out, put into a row (slices.Collect); the zones of a pool that have a role. Conditions: the pool lies in memory as PlB says; a role is a number of 64 bits. -/
import Derived.Test.YtoboialfaifbgaaPlB
import Derived.Test.YtoboialfaifbgaaRgF
import Derived.OwnWalkIn
import Derived.TacticsInMore
import Derived.LoopNIn
import Derived.LoopIn
namespace Go.Proofs.Ytoboialfaifbgaa.PlC
open Go.RowKit MSep MSepC MGeM GeA PlM PlA PlB RgF

attribute [local go_sem] Oper.semAt_some

theorem blk0 {w : World} {g : Nat} {t : TypeId} {v : Value} (h : Blk w g t #[v]) : w.cell? ⟨g, 0, none⟩ = some v := h.cell 0
theorem app_i_in {F : Fence} {n : Nat} {w : World} {ops : Array Oper} {rest : List Oper} {o : Oper} {a : Act} {Q : Exit → Act → World → Prop} (hgd : o.guard = none) (s x : Operand)
    (ho : o.op = .call { callee := .builtin .append, args := #[s, x], argTypes := #[47, 47] })
    (B : Nat) (v : Value) (l : List Int) (hs : a.eval s = v) (hown : OutI B w v l)
    (A : Option Addr) (m c : Nat) (news : List Int) (hx : a.eval x = .slice A m c) (hr : RdI w A m news)
    (hlim : l.length + m ≤ 17592186044416) (hbase : B ≤ w.heap.size)
    (h : ∀ A' c' w', OutI B w' (.slice A' (l.length + m) c') (l ++ news) → Fr (fun q => v.ownBlock = some q) w w' → wpListIn F n Try.prog ops Q rest (a.put o.dst (.slice A' (l.length + m) c')) w') :
    wpListIn F n Try.prog ops Q (o :: rest) a w := by
  refine wpListIn_plain hgd fun K hK' => ?_
  obtain ⟨A', c', w', hrun, h2, h3⟩ := run_app_i (ty := o.type) B v l hown A m c news hr hlim hbase
  unfold Oper.wpIn
  refine ⟨by simp [Oper.about, ho, resolve, Target.leads, Sem.run_pure], ?_⟩
  rw [Oper.semAt_plain F _ _ (by rw [ho]; intro c hc'; cases hc')]
  simp [execOp, ho, resolve, invoke, builtin, hs, hx, hrun, Result.andThen]
  exact hK' _ _ (h A' c' w' h2 h3)
theorem next_m (n N : Nat) (h : n < N) (hw : wrap64 ((n : Int) + 1) = (n : Int) + 1) : N - (intOf (Value.int .i64 (wrap64 ((n : Int) + 1)))).toNat < N - (intOf (Value.int .i64 (n : Int))).toNat := by
  rw [hw]
  simp only [intOf]
  omega
theorem own_base {B B' : Nat} {w : World} {v : Value} {l : List Int} (h : OutI B w v l) (hb : B' ≤ B) : OutI B' w v l := by
  refine ⟨h.1, ?_⟩
  rcases h.2 with h0 | ⟨g, cap, cur, rfl, hg, r⟩
  · exact .inl h0
  · exact .inr ⟨g, cap, cur, rfl, by omega, r⟩
/-- What a round is handed: the i-th number. -/
def XI (L : List Int) (i : Nat) (xs : Array Value) (_ : World) : Prop := ∃ x, L[i]? = some x ∧ xs = #[.int .i64 x]
/-- What the loop of AppendSeq keeps. -/
def AI (L : List Int) (w : World) (i : Nat) (W : World) : Prop := ∃ A c, Blk W w.heap.size 47 #[.slice A i c] ∧ OutI (w.heap.size + 3) W (.slice A i c) (L.take i) ∧ Fr No w W
theorem AI.fr {L : List Int} {w : World} {i : Nat} {W W' : World} (h : AI L w i W) (f : Fr (fun k => k = w.heap.size + 2) W W') : AI L w i W' := by
  obtain ⟨A, c, h1, h2, h3⟩ := h
  exact ⟨A, c, h1.fr f (by omega), h2.fr f (fun k hk e => by have := (own_ge h2 k hk).1; omega), h3.step f (fun i hi e => by omega)⟩
theorem Iter.later {P : Program} {gf : Nat} {lb : Array Value} {N : Nat} {X : Nat → Array Value → World → Prop} {T : Nat → Prop} {w w' : World} (h : Iter P gf lb N X T w) (f : Fr No w w') : Iter P gf lb N X T w' :=
  fun l J Jx W h1 h2 h3 h4 h5 => h l J Jx W (f.trans h1) (by have := f.size; omega) h3 h4 h5

set_option maxRecDepth 100000 in
set_option maxHeartbeats 2000000 in
theorem appseq_ok (gf : Nat) (lb : Array Value) (L : List Int) (w : World) (heg : ∀ args w, (callFunc gf args).run Try.prog w = .ok (.enter gf args) w) (hl : L.length ≤ 1000000)
    (hit : Iter Try.prog gf lb L.length (XI L) (fun k => w.heap.size ≤ k) w) :
    Calls Try.prog 87 #[.slice none 0 0, .func (.func gf) #[] lb] w fun e w' => ∃ A c, e = .returned (.slice A L.length c) ∧ OutI w.heap.size w' (.slice A L.length c) L ∧ Fr No w w' := by
  refine (callsIn_wide (n := 3)).1 ?_
  refine callsIn_of_wp_marks Try.func87 rfl trivial ?_ rfl
  simp only [Try.ntmps87, List.size_toArray, List.length_cons, List.length_nil, Nat.reduceAdd, Nat.reduceSub, Array.replicate_succ, Array.replicate_zero, List.push_toArray, List.append_toArray, List.nil_append, List.cons_append]
  gi_wp2
  obtain ⟨w0, hw0⟩ : ∃ w0, w.alloc (Obj.cells #[Value.slice none 0 0] 47) = w0 := ⟨_, rfl⟩
  have hF0 : Fr No w w0 := by rw [← hw0]; exact (Fr.refl No w).alloc _
  have hsz : w0.heap.size = w.heap.size + 1 := by rw [← hw0]; simp
  have q0 : Blk w0 w.heap.size 47 #[.slice none 0 0] := by rw [← hw0]; exact Blk.new w _ _
  rw [hw0]
  clear hw0
  refine range_fn (gf := gf) rfl heg (N := L.length) (X := XI L) (T := fun k => k = w.heap.size ∨ w.heap.size + 3 ≤ k) (T' := fun k => w.heap.size ≤ k) (fun k h => by omega) (by rw [hsz]; omega)
    (Iter.later hit hF0) (fun k h => by rw [hsz]; omega) (AI L w) (fun _ => False) (fun i W W' h f => h.fr (f.mono fun k _ hk => by rw [hk, hsz])) (fun W W' h f => h) ?hXs
    ⟨none, 0, q0, own_none _ _, hF0⟩ ?round ?done (fun W h _ => h.elim)
  case hXs =>
    rintro i vs W ⟨x, hx, rfl⟩
    rfl
  case round =>
    rintro l i vs W hi hW hG ⟨x, hx, rfl⟩
    rw [hsz] at hW
    gi_wp2
    refine ⟨Fr.refl _ _, fun W2 f2 => ?_⟩
    rw [hsz] at f2
    have hW2 := f2.size
    obtain ⟨A, c, h1, h2, h3⟩ := hG.fr f2
    have HB := hid h1
    have HO := hid h2
    have HF := hid h3
    have z0 := blk0 h1
    have HP := hid (And.intro hW hW2)
    have hL : (L.take i).length = i := by rw [List.length_take]; omega
    have HL := hid hL
    have HTK := hid (take_succ_of hx)
    clear h1 h2 h3 hW hW2 hG f2 hL
    gi_wp2_with (gi_at_builtin; refine app_i_in rfl (.tmp 8) (.tmp 10) rfl (w.heap.size + 3) (.slice A i c) (L.take i) (by rfl) (HO.out.fr0 ((Fr.refl No W2).alloc _)) (some ⟨W2.heap.size, 0, none⟩) 1 1 [x] rfl (lit_i W2 x) (by have := HL.out; omega) (by have := HP.out; simp; omega) ?_; intro A2 k2 W5 hown hf5; rw [HL.out] at hown ⊢; rw [← HTK.out] at hown; have HO5 := hid hown; have HF5 := hid hf5; have hq := Blk.fr (HB.out.alloc (.cells #[.int .i64 x] 3)) hf5 (fun h => by have := (own_ge HO.out _ h).1; omega); have z5 := blk0 hq; have y5 := hq.frozen 0; have HQ5 := hid hq; clear hown hf5 hq)
    have f5 : Fr (fun k => k = w.heap.size ∨ w.heap.size + 3 ≤ k) W2 (W5.setCell ⟨w.heap.size, 0, none⟩ (.slice A2 (i + 1) k2)) :=
      (((Fr.refl _ W2).alloc _).step HF5.out (fun q _ h => .inr (own_ge HO.out q h).1)).setCell (p := ⟨w.heap.size, 0, none⟩) (fun _ => .inl rfl) _
    refine ⟨f5, A2, k2, ?_, own_fr HO5.out (Fr.set1 W5 w.heap.size 0 _) (fun k hk e => by have := (own_ge HO5.out k hk).1; omega), HF.out.step f5 (fun i hi h => by omega)⟩
    have := HQ5.out.set_ 0 (.slice A2 (i + 1) k2)
    simpa using this
  case done =>
    intro W hG hK
    rw [hsz] at hK
    obtain ⟨A, c, h1, h2, h3⟩ := hG
    have z0 := blk0 h1
    gi_wp2
    have f6 : Fr (fun k => k = w.heap.size + 1) W (W.putObj w0.heap.size (.deferred none)) := Fr.putObj (S := fun k => k = w.heap.size + 1) (Fr.refl _ _) (fun _ => hsz) _
    rw [List.take_length] at h2
    refine ⟨by simp, .inl ⟨_, _, rfl, run_takeDeferred (by rw [hsz]; exact hK), .slice A L.length c, by simp [results, Try.f87], A, c, rfl, ?_, h3.step f6 (fun i hi h => by omega)⟩⟩
    have h4 : OutI (w.heap.size + 3) (W.putObj w0.heap.size (.deferred none)) (.slice A L.length c) L := own_fr h2 f6 (fun k hk e => by have := (own_ge h2 k hk).1; omega)
    exact own_base h4 (by omega)
set_option maxRecDepth 100000 in
theorem collect_ok (gf : Nat) (lb : Array Value) (L : List Int) (w : World) (heg : ∀ args w, (callFunc gf args).run Try.prog w = .ok (.enter gf args) w) (hl : L.length ≤ 1000000)
    (hit : Iter Try.prog gf lb L.length (XI L) (fun k => w.heap.size ≤ k) w) :
    Calls Try.prog 65 #[.func (.func gf) #[] lb] w fun e w' => ∃ A c, e = .returned (.slice A L.length c) ∧ OutI w.heap.size w' (.slice A L.length c) L ∧ Fr No w w' := by
  have HE := hid heg
  have HI := hid hit
  have HO := hid hl
  clear heg hit hl
  go_enter Try.func65, Try.ntmps65
  go_wp2_with (go_at_call 87; refine (appseq_ok gf lb L _ HE.out HO.out HI.out).mono ?_; rintro e w1 ⟨A, c, rfl, ho, f⟩; have HR := hid (And.intro ho f); clear ho f)
  go_ret
  exact ⟨A, c, rfl, HR.out.1, HR.out.2⟩

end Go.Proofs.Ytoboialfaifbgaa.PlC
