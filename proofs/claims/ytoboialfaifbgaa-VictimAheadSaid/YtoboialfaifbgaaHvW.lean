import Derived.Ground.SlsfProg
import Derived.Shelf.SlSortCmp.InsertionK
import Derived.Test.YtoboialfaifbgaaHvV
/- Contracts: two given choices put in order, and the first of them. No condition. -/
namespace Go.Proofs.Ytoboialfaifbgaa.ViE
open Go.RowKit MSep MSepC MSpM MGeM GeA GeC GeE PgA PgB ViA ViB ViC
open Go.Shelf in
def ins_ren : Go.Shelf.Ren := ⟨fun | 20 => 94 | n => n, fun | 22 => 32 | 24 => 37 | 25 => 77 | n => n, fun | n => n⟩
theorem ins_lays : Go.Proofs.SlLaysF0.n20 Try.prog ins_ren := {
  mixed := by kernel_rfl
  f20 := ⟨Try.f94.name, by decide, Try.func94.trans (congrArg some (by kernel_rfl))⟩
  t0 := Try.underlying0
  a0 := Try.isAgg0
  z0 := Try.sizeOf0
  v0 := Try.zeroValue0
  t3 := Try.underlying3
  a3 := Try.isAgg3
  z3 := Try.sizeOf3
  v3 := Try.zeroValue3
  t4 := Try.underlying4
  a4 := Try.isAgg4
  z4 := Try.sizeOf4
  v4 := Try.zeroValue4
  t22 := Try.underlying32
  a22 := Try.isAgg32
  z22 := Try.sizeOf32
  v22 := Try.zeroValue32
  t25 := Try.underlying77
  a25 := Try.isAgg77
  z25 := Try.sizeOf77
  v25 := Try.zeroValue77 }
def enc (x : Ch) : List Value := [.int .i64 x.z, .int .i64 x.lv, .int .i64 x.bd, .int .i64 x.ag]
instance : Inhabited Ch := ⟨⟨0, 0, 0, 0⟩⟩
def ex (x : Ch) : Ex := ⟨x.z, x.lv, x.bd, x.ag⟩
abbrev L2 : List Ch := [⟨2, 5, 0, 0⟩, ⟨3, 1, 0, 1⟩]
theorem KB2.lt {w : World} {B : Nat} (h : KB2 w B) : B < w.heap.size ∧ ∃ S, S < w.heap.size ∧ Blk w B 109 #[.slice (some ⟨S, 0, none⟩) 3 3] ∧ K2 w S := by
  obtain ⟨S, h1, h2⟩ := h
  exact ⟨h1.lt, S, Blk.lt h2, h1, h2⟩
theorem fr_sort (w : World) (g n : Nat) (d : Array Ch) (os : Array Obj) : Fr (fun q => q = g) w (sortWorldK enc 4 w g 0 n d os) := by
  refine ⟨rfl, rfl, rfl, size_sortWorldK_c enc 4 w g 0 n d os, fun k hk hn => ?_⟩
  unfold sortWorldK Sort.putRowK Sort.putRow Sort.mapBlock Sort.ahead Sort.grow
  have hk' : k < (w.heap.modify g (Sort.onCells (Sort.putCells id 0 (Sort.flatK enc 4 d)))).size := by simpa using hk
  simp only [Array.getElem?_append, hk', if_true, Array.getElem?_modify]
  rw [if_neg (fun e => hn e.symm)]
theorem cmp_lays (g l B : Nat) (w : World) (hk : KB2 w B) (hg : ∀ t cs, (t = 109 ∨ t = 112) → ¬ Blk w g t cs) : CmpLays Try.prog 71 #[.pointer (some ⟨B, 0, none⟩)] enc 4 c2 g 0 l w := by
  intro m os dk _ x y
  have hk2 : KB2 (sortWorldK enc 4 w g 0 m dk os) B := by
    obtain ⟨S, h1, h2⟩ := hk
    have f := fr_sort w g m dk os
    exact ⟨S, h1.fr f (fun e => hg _ _ (.inl rfl) (e ▸ h1)), Blk.fr h2 f (fun e => hg _ _ (.inr rfl) (e ▸ h2))⟩
  refine (Gz.cmp2 x y B _ hk2).mono ?_
  rintro e w' ⟨he, hw⟩
  exact ⟨he, Gx.grown hw⟩
theorem sorted2 : Sort.insertionSort (ltOf c2) L2.toArray 0 2 = #[⟨3, 1, 0, 1⟩, ⟨2, 5, 0, 0⟩] := by kernel_rfl
theorem flat2 : Sort.flatK enc 4 L2.toArray = #[.int .i64 2, .int .i64 5, .int .i64 0, .int .i64 0, .int .i64 3, .int .i64 1, .int .i64 0, .int .i64 1] := by kernel_rfl
theorem flat3 : id (Sort.flatK enc 4 #[⟨3, 1, 0, 1⟩, ⟨2, 5, 0, 0⟩])[0]! = .int .i64 3 := by kernel_rfl
/-- Block N begins with the two choices. -/
def Row2 (w : World) (N : Nat) : Prop := Sort.HoldsK enc 4 w N 0 L2.toArray ∧ ∃ cs, Blk w N 37 cs
theorem Row2.of {w : World} {B c : Nat} {A : Option Addr} (h : w.ownsRow B 37 4 (.slice A 2 c) 2 (cs4 (L2.map ex))) : ∃ N, A = some ⟨N, 0, none⟩ ∧ Row2 w N ∧ B ≤ N := by
  have h' := h
  rcases h.2 with ⟨_, h0⟩ | ⟨g, cap, cur, e, hb, hh, hnc, hr⟩
  · omega
  · injection e with e1 e2 e3
    subst e1
    refine ⟨g, rfl, ⟨?_, cur, hh⟩, hb⟩
    unfold Sort.HoldsK
    rw [flat2]
    intro j hj
    have hj8 : j < 8 := hj
    rw [Nat.zero_add]
    refine ⟨?_, World.ownsRow.frozenAt h' j⟩
    rw [World.ownsRow.cellAt h' j (by omega)]
    match j, hj8 with
    | 0, _ => rfl
    | 1, _ => rfl
    | 2, _ => rfl
    | 3, _ => rfl
    | 4, _ => rfl
    | 5, _ => rfl
    | 6, _ => rfl
    | 7, _ => rfl
    | j + 8, h => omega
theorem ins2 (N c B : Nat) (w : World) (hN : Row2 w N) (hk : KB2 w B) :
    Calls Try.prog 94 #[.slice (some ⟨N, 0, none⟩) 2 c, .int .i64 0, .int .i64 2, .func (.func 71) #[] #[.pointer (some ⟨B, 0, none⟩)]] w fun e w' => e = .returned (.tuple #[]) ∧ w'.cell? ⟨N, 0, none⟩ = some (.int .i64 3) ∧ Fr (fun q => q = N) w w' := by
  obtain ⟨hH, cs0, hN⟩ := hN
  have eg : ∀ args w, (callFunc 71 args).run Try.prog w = .ok (.enter 71 args) w := enters_of Try.func71 (by kernel_rfl) rfl
  have hs := AnyQ.insertionSortCmpFunc ins_lays 4 Try.isAgg37 Try.sizeOf37 enc (fun _ => rfl) (fun x v hv => by
    simp only [enc, List.mem_cons, List.not_mem_nil, or_false] at hv
    rcases hv with rfl | rfl | rfl | rfl <;> rfl) c2 71 #[.pointer (some ⟨B, 0, none⟩)] N 0 c 0 2 L2.toArray w eg (cmp_lays N _ B w hk (fun t cs ht h => Blk.ne_ h hN (by rcases ht with rfl | rfl <;> decide) rfl)) hH hN.lt (by omega) (by simp) (by simp)
  refine hs.mono ?_
  rintro e w' ⟨he, n, os, rfl⟩
  rw [sorted2]
  have hK := holdsK_sortWorldK_c enc 4 w N 0 L2.toArray #[⟨3, 1, 0, 1⟩, ⟨2, 5, 0, 0⟩] n os hH hN.lt rfl
  exact ⟨he, ((hK 0 (by simp [Sort.size_flatK])).1).trans (congrArg some flat3), fr_sort _ _ _ _ _⟩
set_option maxRecDepth 100000 in
set_option maxHeartbeats 1000000 in
theorem stable2 (N c B : Nat) (w : World) (hN : Row2 w N) (hk : KB2 w B) :
    Calls Try.prog 72 #[.slice (some ⟨N, 0, none⟩) 2 c, .int .i64 2, .func (.func 71) #[] #[.pointer (some ⟨B, 0, none⟩)]] w fun e w' => e = .returned (.tuple #[]) ∧ w'.cell? ⟨N, 0, none⟩ = some (.int .i64 3) ∧ Fr (fun q => q = N) w w' := by
  have HI := hid (ins2 N c B w hN hk)
  clear hN hk
  go_enter Try.func72, Try.ntmps72
  go_wp2
  refine wp_loop_rounds 1 ?_
  rw [rounds_succ]
  go_wp2_with (go_at_call 94; refine HI.out.mono ?_; rintro e w2 ⟨rfl, hc, f⟩; have HC := hid hc; have HF := hid f; clear hc f)
  refine wp_loop_rounds 1 ?_
  rw [rounds_succ]
  go_wp2
  go_end0
  exact ⟨rfl, HC.out, HF.out⟩
set_option maxRecDepth 100000 in
set_option maxHeartbeats 1000000 in
theorem sort2 (N c B : Nat) (w : World) (hN : Row2 w N) (hk : KB2 w B) :
    Calls Try.prog 43 #[.slice (some ⟨N, 0, none⟩) 2 c, .func (.func 71) #[] #[.pointer (some ⟨B, 0, none⟩)]] w fun e w' => e = .returned (.tuple #[]) ∧ w'.cell? ⟨N, 0, none⟩ = some (.int .i64 3) ∧ Fr (fun q => q = N) w w' := by
  have HI := hid (stable2 N c B w hN hk)
  clear hN hk
  go_enter Try.func43, Try.ntmps43
  go_wp2_with (go_at_call 72; refine HI.out.mono ?_; rintro e w2 ⟨rfl, hc, f⟩; have HC := hid hc; have HF := hid f; clear hc f)
  go_end0
  exact ⟨rfl, HC.out, HF.out⟩
theorem infoCa : (Try.prog.info? 37).map (fun i => (i.zero, i.size, i.bytes)) = some (some (.agg #[.int .i64 0, .int .i64 0, .int .i64 0, .int .i64 0]), 4, 32) := by kernel_rfl
theorem infoCb : ∃ i z, Try.prog.info? 37 = some i ∧ i.zero = some z ∧ i.size = 4 ∧ i.bytes = 32 ∧ z.cells.size = 4 := by
  have h := infoCa
  cases hi : Try.prog.info? 37 with
  | none => rw [hi] at h; cases h
  | some i =>
    rw [hi] at h
    simp only [Option.map_some, Option.some.injEq, Prod.mk.injEq] at h
    exact ⟨i, _, rfl, h.1, h.2.1, h.2.2, rfl⟩
theorem own0c (w : World) : (w.alloc (.cells #[] 37)).ownsRow w.heap.size 37 4 (.slice (some ⟨w.heap.size, 0, none⟩) 0 0) 0 [] :=
  ⟨rfl, .inr ⟨w.heap.size, 0, #[], rfl, Nat.le_refl _, Blk.new _ _ _, Nat.le_refl _, by simp [maxLen], rfl, rfl⟩⟩
theorem fr_new {w w' : World} {t : TypeId} (f : Fr (fun q => (Value.slice (some ⟨w.heap.size, 0, none⟩) 0 0).ownBlock = some q) (w.alloc (.cells #[] t)) w') : Fr No w w' :=
  (fr1 w _).step f (fun i hi he => by
    have : w.heap.size = i := by simpa [Value.ownBlock] using he
    omega)
/-- 'append([]api.Choice{}, l...)' at the two choices: a block of the call's own that holds them. -/
theorem app_c {w : World} {ops : Array Oper} {rest : List Oper} {o : Oper} {a : Act} {Q : Exit → Act → World → Prop} (hgd : o.guard = none) (s x : Operand)
    (ho : o.op = .call { callee := .builtin .append, args := #[s, x], argTypes := #[32, 32] })
    (hs : a.eval s = .slice (some ⟨w.heap.size, 0, none⟩) 0 0) (A : Option Addr) (c : Nat) (hx : a.eval x = .slice A 2 c) (hr : RdX (w.alloc (.cells #[] 37)) A 2 (L2.map ex))
    (h : ∀ A' c' w', w'.ownsRow w.heap.size 37 4 (.slice A' 2 c') 2 (cs4 (L2.map ex)) → Fr No w w' → wpList Try.prog ops Q rest (a.put o.dst (.slice A' 2 c')) w') :
    wpList Try.prog ops Q (o :: rest) a (w.alloc (.cells #[] 37)) := by
  obtain ⟨i0, z0, hi, hz0, hz1, hz2, hz3⟩ := infoCb
  refine wpList_appk 4 (by omega) hgd s x 32 ho w.heap.size 37 i0 z0 32 Try.underlying32 hi hz0 hz1 hz2 hz3 _ 0 [] hs (own0c w) A 2 c (cs4 (L2.map ex)) hx hr.2 cs4_one (by simp [maxLen]) (by omega) (by simp) ?_
  intro A' c' w' o1 f1 _
  rw [Nat.zero_add, List.nil_append] at o1
  exact h A' c' w' o1 (fr_new f1)
set_option maxRecDepth 100000 in
set_option maxHeartbeats 1000000 in
theorem clone2 (L : Nat) (w : World) (hL : RdX w (some ⟨L, 0, none⟩) 2 (L2.map ex)) : Calls Try.prog 42 #[.slice (some ⟨L, 0, none⟩) 2 2] w fun e w' => (∃ A c, e = .returned (.slice A 2 c) ∧ w'.ownsRow w.heap.size 37 4 (.slice A 2 c) 2 (cs4 (L2.map ex))) ∧ Fr No w w' := by
  have HL := hid hL
  clear hL
  have hn : ∀ w, (binOp .eql 32 (.slice (some ⟨L, 0, none⟩) 2 2) (.slice none 0 0)).run Try.prog w = .ok (.bool false) w := fun w => by kernel_rfl
  go_enter Try.func42, Try.ntmps42
  go_wp2_with (at_builtin; refine app_c rfl (.tmp 5) (.tmp 6) rfl rfl (some ⟨L, 0, none⟩) 2 rfl (PgB.RdX.fr HL.out (fr1 _ _)) ?_; intro A' c' w2 ho f; have HO := hid ho; have HF := hid f; clear ho f)
  go_ret
  exact ⟨⟨_, _, rfl, HO.out⟩, HF.out⟩
set_option maxRecDepth 100000 in
set_option maxHeartbeats 1000000 in
theorem order2 (L : Nat) (w : World) (hL : RdX w (some ⟨L, 0, none⟩) 2 (L2.map ex)) : Calls Try.prog 15 #[.int .i64 2, .slice (some ⟨L, 0, none⟩) 2 2] w fun e w' => (∃ N c, e = .returned (.tuple #[.slice (some ⟨N, 0, none⟩) 2 c, .int .i64 0]) ∧ w'.cell? ⟨N, 0, none⟩ = some (.int .i64 3)) ∧ Fr No w w' := by
  have HL := hid hL
  clear hL
  go_enter Try.func15, Try.ntmps15
  go_upto_region 4 with (go_at_call 41; refine (comparison2 _).mono ?_; rintro e w1 ⟨B, rfl, hk, f⟩; have HF := hid f; have HK := hid hk; clear f hk)
  go_upto_region 5 with (go_at_call 42; refine (clone2 L _ (PgB.RdX.fr HL.out HF.out)).mono ?_; rintro e w2 ⟨⟨A, c, rfl, ho⟩, f⟩; obtain ⟨N, rfl, hr, hb⟩ := Row2.of ho; have HR := hid hr; have HB := hid hb; replace HK := hid (KB2.fr HK.out f); have HF2 := hid (HF.out.trans f); clear ho f hr hb)
  go_wp2_with (go_at_call 43; refine (sort2 N c B _ HR.out HK.out).mono ?_; rintro e w3 ⟨rfl, hc, f⟩; have HC := hid hc; have HF3 := hid f; clear hc f)
  go_ret2
  exact ⟨⟨N, c, rfl, HC.out⟩, HF2.out.step HF3.out (fun k hk e => by have := HB.out; have := HF.out.size; omega)⟩
end Go.Proofs.Ytoboialfaifbgaa.ViE
/- Contracts: the first of two given choices. No condition. -/
namespace Go.Proofs.Ytoboialfaifbgaa.ViF
open Go.RowKit MSep MSepC MSpM MGeM GeA GeC GeE PgA PgB ViA ViB ViC
theorem infoC : (Try.prog.info? 37).map (·.size) = some 4 := by kernel_rfl
theorem st_ch {ops : Array Oper} {rest : List Oper} {o : Oper} {ac : Act} {w : World} {Q : Exit → Act → World → Prop} (hgd : o.guard = none) (p y : Operand) (ho : o.op = .store 37 p y) (g : Nat) (hx : ac.eval p = .pointer (some ⟨g, 0, none⟩)) {x : Ch} (x' : Ch)
    (hy : ac.eval y = chv x') (hg : BC w g x) (h : ∀ W', BC W' g x' → Fr (fun q => q = g) w W' → wpList Try.prog ops Q rest (ac.put o.dst undef) W') : wpList Try.prog ops Q (o :: rest) ac w :=
  wpList_store_row hgd 37 p y ho g _ hx hy 37 _ hg infoC rfl (by simp [Value.oneCell']) (h _ (Blk.setRow hg _) (Fr.setRow (S := fun q => q = g) (Fr.refl _ _) (fun _ => rfl) _))
theorem res1 {fn : Func} {p : Tmp} (h : fn.results = #[.cell p 37]) (tmps : Array Value) (w : World) (g : Nat) (x : Ch) (hp : tmps.getD p undef = .pointer (some ⟨g, 0, none⟩)) (hg : BC w g x) : (results fn tmps).run Try.prog w = .ok (chv x) w :=
  results_cell_row h tmps w g 37 _ (0, 0) _ hp hg Try.underlying37 rfl infoC
theorem res2 {fn : Func} {p q : Tmp} (h : fn.results = #[.cell p 37, .tmp q]) (tmps : Array Value) (w : World) (g : Nat) (x : Ch) (e : Int) (hp : tmps.getD p undef = .pointer (some ⟨g, 0, none⟩)) (hq : tmps.getD q undef = .int .i64 e) (hg : BC w g x) :
    (results fn tmps).run Try.prog w = .ok (.tuple #[chv x, .int .i64 e]) w := by
  have hp' : tmps[p]?.getD undef = .pointer (some ⟨g, 0, none⟩) := by simpa using hp
  have hq' : tmps[q]?.getD undef = .int .i64 e := by simpa using hq
  have hl := run_loadVar_row (P := Try.prog) w g 37 37 _ (0, 0) _ hg Try.underlying37 rfl (by kernel_rfl)
  simp [results, h, hp', hq', asAddr, hl]
/-- Block L holds the two choices. -/
def B2 (w : World) (L : Nat) : Prop := Blk w L 37 #[.int .i64 2, .int .i64 5, .int .i64 0, .int .i64 0, .int .i64 3, .int .i64 1, .int .i64 0, .int .i64 1]
theorem B2.cells {w : World} {L : Nat} (h : B2 w L) : (w.cell? ⟨L, 0, none⟩ = some (.int .i64 2) ∧ w.cell? ⟨L, 1, none⟩ = some (.int .i64 5) ∧ w.cell? ⟨L, 2, none⟩ = some (.int .i64 0) ∧ w.cell? ⟨L, 3, none⟩ = some (.int .i64 0) ∧ w.cell? ⟨L, 4, none⟩ = some (.int .i64 3) ∧ w.cell? ⟨L, 5, none⟩ = some (.int .i64 1) ∧ w.cell? ⟨L, 6, none⟩ = some (.int .i64 0) ∧ w.cell? ⟨L, 7, none⟩ = some (.int .i64 1)) :=
  ⟨Blk.cell h 0, Blk.cell h 1, Blk.cell h 2, Blk.cell h 3, Blk.cell h 4, Blk.cell h 5, Blk.cell h 6, Blk.cell h 7⟩
theorem cval1 : c1 ⟨3, 1, 0, 1⟩ ⟨2, 5, 0, 0⟩ = 1 := by decide
set_option maxRecDepth 100000 in
set_option maxHeartbeats 2000000 in
theorem min1 (L B : Nat) (w : World) (hL : B2 w L) (hk : KB1 w B) : Calls Try.prog 44 #[.slice (some ⟨L, 0, none⟩) 2 2, .func (.func 71) #[] #[.pointer (some ⟨B, 0, none⟩)]] w fun e w' => e = .returned (chv ⟨2, 5, 0, 0⟩) ∧ Fr No w w' := by
  have HL0 := hid hL
  have HK0 := hid hk
  have HC := hid (fun W h => cmp1 ⟨3, 1, 0, 1⟩ ⟨2, 5, 0, 0⟩ B W h)
  rw [cval1] at HC
  obtain ⟨l0, l1, l2, l3, l4, l5, l6, l7⟩ := B2.cells hL
  obtain ⟨w1, hw1⟩ : ∃ w1, (w.alloc (och ⟨0, 0, 0, 0⟩)).alloc (och ⟨2, 5, 0, 0⟩) = w1 := ⟨_, rfl⟩
  have HF := hid (show Fr No w w1 by rw [← hw1]; exact (fr1 _ _).alloc _)
  have PR := hid (show BC w1 w.heap.size ⟨0, 0, 0, 0⟩ by rw [← hw1]; exact Blk.alloc (BC.new w _) _)
  have PM := hid (show BC w1 (w.heap.size + 1) ⟨2, 5, 0, 0⟩ by
    rw [← hw1]
    have := BC.new (w.alloc (och ⟨0, 0, 0, 0⟩)) ⟨2, 5, 0, 0⟩
    rwa [World.size_alloc] at this)
  have HL := hid (show B2 w1 L from Blk.fr hL HF.out (fun h => h))
  have HK := hid (KB1.fr hk HF.out)
  have HW1 := hid hw1
  have q := fun o k v (h : w.cell? ⟨L, k, none⟩ = some v) => (fr1 w o).cell_some h (fun h => h)
  have q0 := fun o => q o _ _ l0
  have q1 := fun o => q o _ _ l1
  have q2 := fun o => q o _ _ l2
  have q3 := fun o => q o _ _ l3
  clear hL hk hw1 q l0 l1 l2 l3 l4 l5 l6 l7
  go_enter Try.func44, Try.ntmps44
  go_upto_region 5 with fail
  try rw [show (w.alloc (Obj.cells #[.int .i64 0, .int .i64 0, .int .i64 0, .int .i64 0] 37)).alloc (Obj.cells #[.int .i64 2, .int .i64 5, .int .i64 0, .int .i64 0] 37) = w1 from HW1.out]
  try simp only [World.size_alloc]
  obtain ⟨R, hR⟩ : ∃ R, w.heap.size = R := ⟨_, rfl⟩
  have HRR := hid hR
  rw [hR] at PR PM
  try rw [hR]
  clear hR q0 q1 q2 q3
  go_loopw [6] (fun t wr => ∃ j : Nat, t = .int .i64 j ∧ ((j = 1 ∧ wr = w1) ∨ (j = 2 ∧ BC wr (R + 1) ⟨2, 5, 0, 0⟩ ∧ Fr (fun q => q = R + 1) w1 wr))) (fun t _ => 2 - (intOf t).toNat)
  case atStart => exact ⟨1, rfl, .inl ⟨rfl, rfl⟩⟩
  case round =>
    obtain ⟨j, rfl, ⟨rfl, hwr⟩ | ⟨rfl, hM, hf⟩⟩ := hrel
    case inr =>
      have PM2 := hid hM
      have PR2 := hid (show BC wr R ⟨0, 0, 0, 0⟩ from Blk.fr PR.out hf (by omega))
      have HF2 := hid (HF.out.step hf (fun k hk e => by have := HRR.out; omega))
      obtain ⟨m0, m1, m2, m3⟩ := BC.cells hM
      clear hM hf
      go_upto_region 9 with fail
      repeat (first | ((with_reducible refine st_ch rfl (.tmp 4) (.tmp 32) rfl R ?_ (x := ⟨0, 0, 0, 0⟩) ⟨2, 5, 0, 0⟩ ?_ PR2.out ?_); (· rfl); (· rfl); intro W' hb hf; have HB := hid hb; have HF3 := hid hf; clear hb hf) | go_values | go_skip | go_guarded | go_step | go_upon)
      try simp only [Exit.inBlock, Exit.then]
      exact bodyPost_ret (v := chv ⟨2, 5, 0, 0⟩) (res1 rfl _ _ R ⟨2, 5, 0, 0⟩ rfl HB.out) rfl ⟨rfl, HF2.out.step HF3.out (fun k hk e => by have := HRR.out; omega)⟩
    subst hwr
    obtain ⟨m0, m1, m2, m3⟩ := BC.cells PM.out
    obtain ⟨l0, l1, l2, l3, l4, l5, l6, l7⟩ := B2.cells HL.out
    go_upto_region 7 with fail
    have FW := hid (Fr.refl No wr)
    have FW := kd FW
    refine wp_region_noPanic ?_
    refine wp_region_held_drew (S := (fun W' => W'.cell? ⟨L, 4, none⟩ = some (.int .i64 3) ∧ W'.cell? ⟨L, 5, none⟩ = some (.int .i64 1) ∧ W'.cell? ⟨L, 6, none⟩ = some (.int .i64 0) ∧ W'.cell? ⟨L, 7, none⟩ = some (.int .i64 1) ∧ W'.cell? ⟨R + 1, 0, none⟩ = some (.int .i64 2) ∧ W'.cell? ⟨R + 1, 1, none⟩ = some (.int .i64 5) ∧ W'.cell? ⟨R + 1, 2, none⟩ = some (.int .i64 0) ∧ W'.cell? ⟨R + 1, 3, none⟩ = some (.int .i64 0) ∧ Hid (Fr No wr W'))) (by kernel_rfl) ?_ (fun hHeld => ?_)
    · (try dsimp only); (first | (go_split_ands; exact ⟨kc f (by assumption), kc f (by assumption), kc f (by assumption), kc f (by assumption), kc f (by assumption), kc f (by assumption), kc f (by assumption), kc f (by assumption), by assumption⟩) | (go_split_ands; exact ⟨(by assumption), (by assumption), (by assumption), (by assumption), (by assumption), (by assumption), (by assumption), (by assumption), by assumption⟩) | (go_split_ands; exact ⟨kc (fr1 _ _) (by assumption), kc (fr1 _ _) (by assumption), kc (fr1 _ _) (by assumption), kc (fr1 _ _) (by assumption), kc (fr1 _ _) (by assumption), kc (fr1 _ _) (by assumption), kc (fr1 _ _) (by assumption), kc (fr1 _ _) (by assumption), kfa (by assumption)⟩) | (go_split_ands; exact ⟨kc (fr1d _ _) (by assumption), kc (fr1d _ _) (by assumption), kc (fr1d _ _) (by assumption), kc (fr1d _ _) (by assumption), kc (fr1d _ _) (by assumption), kc (fr1d _ _) (by assumption), kc (fr1d _ _) (by assumption), kc (fr1d _ _) (by assumption), kfae (by assumption)⟩))
    refine wpAnyH_take (i := 0) (v := ?v1) rfl (by kernel_rfl) (by kernel_rfl) (by kernel_rfl) (fun _ _ _ h => h) (Or.inl ⟨by kernel_rfl, ?y1⟩) (by assumption) ?_
    case y1 => (intro w hSw; (try dsimp only at hSw); go_simp; all_goals with_reducible rfl)
    try simp only [Act.put, List.getElem_toArray, List.getElem_cons_zero, List.setIfInBounds_toArray, List.set_cons_zero, List.set_cons_succ]
    refine wpAnyH_take (i := 1) (v := ?v2) rfl (by kernel_rfl) (by kernel_rfl) (by kernel_rfl) (fun _ _ _ h => h) (Or.inl ⟨by kernel_rfl, ?y2⟩) (by assumption) ?_
    case y2 => (intro w hSw; (try dsimp only at hSw); go_simp; all_goals with_reducible rfl)
    try simp only [Act.put, List.getElem_toArray, List.getElem_cons_succ, List.getElem_cons_zero, List.setIfInBounds_toArray, List.set_cons_zero, List.set_cons_succ]
    refine wpAnyH_take (i := 2) (v := ?v3) rfl (by kernel_rfl) (by kernel_rfl) (by kernel_rfl) (fun _ _ _ h => h) (Or.inl ⟨by kernel_rfl, ?y3⟩) (by assumption) ?_
    case y3 => (intro w hSw; (try dsimp only at hSw); go_simp; all_goals with_reducible rfl)
    try simp only [Act.put, List.getElem_toArray, List.getElem_cons_succ, List.getElem_cons_zero, List.setIfInBounds_toArray, List.set_cons_zero, List.set_cons_succ]
    refine wpAnyH_take (i := 3) (v := ?v4) rfl (by kernel_rfl) (by kernel_rfl) (by kernel_rfl) (fun _ _ _ h => h) (Or.inl ⟨by kernel_rfl, ?y4⟩) (by assumption) ?_
    case y4 => (intro w hSw; (try dsimp only at hSw); go_simp; all_goals with_reducible rfl)
    try simp only [Act.put, List.getElem_toArray, List.getElem_cons_succ, List.getElem_cons_zero, List.setIfInBounds_toArray, List.set_cons_zero, List.set_cons_succ]
    refine wpAnyH_take (i := 4) (v := ?v5) rfl (by kernel_rfl) (by kernel_rfl) (by kernel_rfl) (fun _ _ _ h => h) (Or.inl ⟨by kernel_rfl, ?y5⟩) (by assumption) ?_
    case y5 => (intro w hSw; (try dsimp only at hSw); go_simp; all_goals with_reducible rfl)
    try simp only [Act.put, List.getElem_toArray, List.getElem_cons_succ, List.getElem_cons_zero, List.setIfInBounds_toArray, List.set_cons_zero, List.set_cons_succ]
    refine wpAnyH_take (i := 5) (v := ?v6) rfl (by kernel_rfl) (by kernel_rfl) (by kernel_rfl) (fun _ _ _ h => h) (Or.inl ⟨by kernel_rfl, ?y6⟩) (by assumption) ?_
    case y6 => (intro w hSw; (try dsimp only at hSw); go_simp; all_goals with_reducible rfl)
    try simp only [Act.put, List.getElem_toArray, List.getElem_cons_succ, List.getElem_cons_zero, List.setIfInBounds_toArray, List.set_cons_zero, List.set_cons_succ]
    refine wpAnyH_ready (rs := [6]) (by kernel_rfl) (by simp) (AllReadyH.cons rfl (fun K hK => ?_) AllReadyH.nil)
    go_simp
    go_at_call 71
    refine (HC.out _ (KB1.fr HK.out (hHeld.2.2.2.2.2.2.2.2).out)).mono ?_
    rintro e W1 ⟨rfl, f⟩
    have FW := kf f hHeld.2.2.2.2.2.2.2.2
    dsimp only
    refine hK.out _ _ ?_ (fun hHeld => ?_)
    · (try dsimp only); (first | (go_split_ands; exact ⟨kc f (by assumption), kc f (by assumption), kc f (by assumption), kc f (by assumption), kc f (by assumption), kc f (by assumption), kc f (by assumption), kc f (by assumption), by assumption⟩) | (go_split_ands; exact ⟨(by assumption), (by assumption), (by assumption), (by assumption), (by assumption), (by assumption), (by assumption), (by assumption), by assumption⟩) | (go_split_ands; exact ⟨kc (fr1 _ _) (by assumption), kc (fr1 _ _) (by assumption), kc (fr1 _ _) (by assumption), kc (fr1 _ _) (by assumption), kc (fr1 _ _) (by assumption), kc (fr1 _ _) (by assumption), kc (fr1 _ _) (by assumption), kc (fr1 _ _) (by assumption), kfa (by assumption)⟩) | (go_split_ands; exact ⟨kc (fr1d _ _) (by assumption), kc (fr1d _ _) (by assumption), kc (fr1d _ _) (by assumption), kc (fr1d _ _) (by assumption), kc (fr1d _ _) (by assumption), kc (fr1d _ _) (by assumption), kc (fr1d _ _) (by assumption), kc (fr1d _ _) (by assumption), kfae (by assumption)⟩))
    clear hK K
    try simp only [Act.put, List.getElem_toArray, List.getElem_cons_succ, List.getElem_cons_zero, List.setIfInBounds_toArray, List.set_cons_zero, List.set_cons_succ]
    refine wpAnyH_take (i := 7) (v := ?v7) rfl (by kernel_rfl) (by kernel_rfl) (by kernel_rfl) (fun _ _ _ h => h) (Or.inl ⟨by kernel_rfl, ?y7⟩) (by assumption) ?_
    case y7 => (intro w hSw; (try dsimp only at hSw); go_simp; all_goals with_reducible rfl)
    try simp only [Act.put, List.getElem_toArray, List.getElem_cons_succ, List.getElem_cons_zero, List.setIfInBounds_toArray, List.set_cons_zero, List.set_cons_succ]
    refine wpAnyH_done (by kernel_rfl) ?_ _
    refine NoPanic.normal ?_
    have f := (hHeld.2.2.2.2.2.2.2.2).out
    clear hHeld FW l0 l1 l2 l3 l4 l5 l6 l7 m0 m1 m2 m3
    have HM2 := hid (show BC W1 (R + 1) ⟨2, 5, 0, 0⟩ from Blk.fr PM.out f (fun h => h))
    have HN := hid (f.mono (T := fun q => q = R + 1) fun _ _ h => h.elim)
    clear f
    go_wp2
    go_roundw
    case rel => exact ⟨2, rfl, .inr ⟨rfl, HM2.out, HN.out⟩⟩
    case measure => decide
set_option maxRecDepth 100000 in
set_option maxHeartbeats 1000000 in
theorem pick1 (L : Nat) (w : World) (hL : B2 w L) : Calls Try.prog 16 #[.int .i64 1, .slice (some ⟨L, 0, none⟩) 2 2] w fun e w' => e = .returned (.tuple #[chv ⟨2, 5, 0, 0⟩, .int .i64 0]) ∧ Fr No w w' := by
  have HL := hid hL
  have HF := hid (fr1 w (och ⟨0, 0, 0, 0⟩))
  have PR := hid (BC.new w ⟨0, 0, 0, 0⟩)
  clear hL
  go_enter Try.func16, Try.ntmps16
  go_upto_region 6 with (go_at_call 41; refine (comparison1 _).mono ?_; rintro e w1 ⟨B, rfl, hk, f⟩; replace HF := hid (HF.out.trans f); replace PR := hid (PR.out.fr f); have HK := hid hk; clear f hk)
  repeat (first | (go_at_call 44; refine (min1 L B _ (show B2 _ L from Blk.fr HL.out HF.out (fun h => h)) HK.out).mono ?_; rintro e w2 ⟨rfl, f⟩; replace HF := hid (HF.out.trans f); replace PR := hid (PR.out.fr f); clear f; dsimp only) | ((with_reducible refine st_ch rfl (.tmp 4) (.tmp 23) rfl w.heap.size ?_ (x := ⟨0, 0, 0, 0⟩) ⟨2, 5, 0, 0⟩ ?_ PR.out ?_); (· rfl); (· rfl); intro W' hb hf; have HB := hid hb; have HF3 := hid hf; clear hb hf) | go_values | go_skip | go_guarded | go_step | go_upon)
  try simp only [Exit.inBlock, Exit.then]
  exact bodyPost_ret (v := .tuple #[chv ⟨2, 5, 0, 0⟩, .int .i64 0]) (res2 rfl _ _ w.heap.size ⟨2, 5, 0, 0⟩ 0 rfl rfl HB.out) rfl ⟨rfl, HF.out.step HF3.out (fun k hk e => by omega)⟩
theorem cval2 : c2 ⟨3, 1, 0, 1⟩ ⟨2, 5, 0, 0⟩ = -1 := by decide
set_option maxRecDepth 100000 in
set_option maxHeartbeats 2000000 in
theorem min2 (L B : Nat) (w : World) (hL : B2 w L) (hk : KB2 w B) : Calls Try.prog 44 #[.slice (some ⟨L, 0, none⟩) 2 2, .func (.func 71) #[] #[.pointer (some ⟨B, 0, none⟩)]] w fun e w' => e = .returned (chv ⟨3, 1, 0, 1⟩) ∧ Fr No w w' := by
  have HL0 := hid hL
  have HK0 := hid hk
  have HC := hid (fun W h => cmp2 ⟨3, 1, 0, 1⟩ ⟨2, 5, 0, 0⟩ B W h)
  rw [cval2] at HC
  obtain ⟨l0, l1, l2, l3, l4, l5, l6, l7⟩ := B2.cells hL
  obtain ⟨w1, hw1⟩ : ∃ w1, (w.alloc (och ⟨0, 0, 0, 0⟩)).alloc (och ⟨2, 5, 0, 0⟩) = w1 := ⟨_, rfl⟩
  have HF := hid (show Fr No w w1 by rw [← hw1]; exact (fr1 _ _).alloc _)
  have PR := hid (show BC w1 w.heap.size ⟨0, 0, 0, 0⟩ by rw [← hw1]; exact Blk.alloc (BC.new w _) _)
  have PM := hid (show BC w1 (w.heap.size + 1) ⟨2, 5, 0, 0⟩ by
    rw [← hw1]
    have := BC.new (w.alloc (och ⟨0, 0, 0, 0⟩)) ⟨2, 5, 0, 0⟩
    rwa [World.size_alloc] at this)
  have HL := hid (show B2 w1 L from Blk.fr hL HF.out (fun h => h))
  have HK := hid (KB2.fr hk HF.out)
  have HW1 := hid hw1
  have q := fun o k v (h : w.cell? ⟨L, k, none⟩ = some v) => (fr1 w o).cell_some h (fun h => h)
  have q0 := fun o => q o _ _ l0
  have q1 := fun o => q o _ _ l1
  have q2 := fun o => q o _ _ l2
  have q3 := fun o => q o _ _ l3
  clear hL hk hw1 q l0 l1 l2 l3 l4 l5 l6 l7
  go_enter Try.func44, Try.ntmps44
  go_upto_region 5 with fail
  try rw [show (w.alloc (Obj.cells #[.int .i64 0, .int .i64 0, .int .i64 0, .int .i64 0] 37)).alloc (Obj.cells #[.int .i64 2, .int .i64 5, .int .i64 0, .int .i64 0] 37) = w1 from HW1.out]
  try simp only [World.size_alloc]
  obtain ⟨R, hR⟩ : ∃ R, w.heap.size = R := ⟨_, rfl⟩
  have HRR := hid hR
  rw [hR] at PR PM
  try rw [hR]
  clear hR q0 q1 q2 q3
  go_loopw [6] (fun t wr => ∃ j : Nat, t = .int .i64 j ∧ ((j = 1 ∧ wr = w1) ∨ (j = 2 ∧ BC wr (R + 1) ⟨3, 1, 0, 1⟩ ∧ Fr (fun q => q = R + 1) w1 wr))) (fun t _ => 2 - (intOf t).toNat)
  case atStart => exact ⟨1, rfl, .inl ⟨rfl, rfl⟩⟩
  case round =>
    obtain ⟨j, rfl, ⟨rfl, hwr⟩ | ⟨rfl, hM, hf⟩⟩ := hrel
    case inr =>
      have PM2 := hid hM
      have PR2 := hid (show BC wr R ⟨0, 0, 0, 0⟩ from Blk.fr PR.out hf (by omega))
      have HF2 := hid (HF.out.step hf (fun k hk e => by have := HRR.out; omega))
      obtain ⟨m0, m1, m2, m3⟩ := BC.cells hM
      clear hM hf
      go_upto_region 9 with fail
      repeat (first | ((with_reducible refine st_ch rfl (.tmp 4) (.tmp 32) rfl R ?_ (x := ⟨0, 0, 0, 0⟩) ⟨3, 1, 0, 1⟩ ?_ PR2.out ?_); (· rfl); (· rfl); intro W' hb hf; have HB := hid hb; have HF3 := hid hf; clear hb hf) | go_values | go_skip | go_guarded | go_step | go_upon)
      try simp only [Exit.inBlock, Exit.then]
      exact bodyPost_ret (v := chv ⟨3, 1, 0, 1⟩) (res1 rfl _ _ R ⟨3, 1, 0, 1⟩ rfl HB.out) rfl ⟨rfl, HF2.out.step HF3.out (fun k hk e => by have := HRR.out; omega)⟩
    subst hwr
    obtain ⟨m0, m1, m2, m3⟩ := BC.cells PM.out
    obtain ⟨l0, l1, l2, l3, l4, l5, l6, l7⟩ := B2.cells HL.out
    go_upto_region 7 with fail
    have FW := hid (Fr.refl No wr)
    have FW := kd FW
    refine wp_region_noPanic ?_
    refine wp_region_held_drew (S := (fun W' => W'.cell? ⟨L, 4, none⟩ = some (.int .i64 3) ∧ W'.cell? ⟨L, 5, none⟩ = some (.int .i64 1) ∧ W'.cell? ⟨L, 6, none⟩ = some (.int .i64 0) ∧ W'.cell? ⟨L, 7, none⟩ = some (.int .i64 1) ∧ W'.cell? ⟨R + 1, 0, none⟩ = some (.int .i64 2) ∧ W'.cell? ⟨R + 1, 1, none⟩ = some (.int .i64 5) ∧ W'.cell? ⟨R + 1, 2, none⟩ = some (.int .i64 0) ∧ W'.cell? ⟨R + 1, 3, none⟩ = some (.int .i64 0) ∧ Hid (Fr No wr W'))) (by kernel_rfl) ?_ (fun hHeld => ?_)
    · (try dsimp only); (first | (go_split_ands; exact ⟨kc f (by assumption), kc f (by assumption), kc f (by assumption), kc f (by assumption), kc f (by assumption), kc f (by assumption), kc f (by assumption), kc f (by assumption), by assumption⟩) | (go_split_ands; exact ⟨(by assumption), (by assumption), (by assumption), (by assumption), (by assumption), (by assumption), (by assumption), (by assumption), by assumption⟩) | (go_split_ands; exact ⟨kc (fr1 _ _) (by assumption), kc (fr1 _ _) (by assumption), kc (fr1 _ _) (by assumption), kc (fr1 _ _) (by assumption), kc (fr1 _ _) (by assumption), kc (fr1 _ _) (by assumption), kc (fr1 _ _) (by assumption), kc (fr1 _ _) (by assumption), kfa (by assumption)⟩) | (go_split_ands; exact ⟨kc (fr1d _ _) (by assumption), kc (fr1d _ _) (by assumption), kc (fr1d _ _) (by assumption), kc (fr1d _ _) (by assumption), kc (fr1d _ _) (by assumption), kc (fr1d _ _) (by assumption), kc (fr1d _ _) (by assumption), kc (fr1d _ _) (by assumption), kfae (by assumption)⟩))
    refine wpAnyH_take (i := 0) (v := ?v8) rfl (by kernel_rfl) (by kernel_rfl) (by kernel_rfl) (fun _ _ _ h => h) (Or.inl ⟨by kernel_rfl, ?y8⟩) (by assumption) ?_
    case y8 => (intro w hSw; (try dsimp only at hSw); go_simp; all_goals with_reducible rfl)
    try simp only [Act.put, List.getElem_toArray, List.getElem_cons_zero, List.setIfInBounds_toArray, List.set_cons_zero, List.set_cons_succ]
    refine wpAnyH_take (i := 1) (v := ?v9) rfl (by kernel_rfl) (by kernel_rfl) (by kernel_rfl) (fun _ _ _ h => h) (Or.inl ⟨by kernel_rfl, ?y9⟩) (by assumption) ?_
    case y9 => (intro w hSw; (try dsimp only at hSw); go_simp; all_goals with_reducible rfl)
    try simp only [Act.put, List.getElem_toArray, List.getElem_cons_succ, List.getElem_cons_zero, List.setIfInBounds_toArray, List.set_cons_zero, List.set_cons_succ]
    refine wpAnyH_take (i := 2) (v := ?v10) rfl (by kernel_rfl) (by kernel_rfl) (by kernel_rfl) (fun _ _ _ h => h) (Or.inl ⟨by kernel_rfl, ?y10⟩) (by assumption) ?_
    case y10 => (intro w hSw; (try dsimp only at hSw); go_simp; all_goals with_reducible rfl)
    try simp only [Act.put, List.getElem_toArray, List.getElem_cons_succ, List.getElem_cons_zero, List.setIfInBounds_toArray, List.set_cons_zero, List.set_cons_succ]
    refine wpAnyH_take (i := 3) (v := ?v11) rfl (by kernel_rfl) (by kernel_rfl) (by kernel_rfl) (fun _ _ _ h => h) (Or.inl ⟨by kernel_rfl, ?y11⟩) (by assumption) ?_
    case y11 => (intro w hSw; (try dsimp only at hSw); go_simp; all_goals with_reducible rfl)
    try simp only [Act.put, List.getElem_toArray, List.getElem_cons_succ, List.getElem_cons_zero, List.setIfInBounds_toArray, List.set_cons_zero, List.set_cons_succ]
    refine wpAnyH_take (i := 4) (v := ?v12) rfl (by kernel_rfl) (by kernel_rfl) (by kernel_rfl) (fun _ _ _ h => h) (Or.inl ⟨by kernel_rfl, ?y12⟩) (by assumption) ?_
    case y12 => (intro w hSw; (try dsimp only at hSw); go_simp; all_goals with_reducible rfl)
    try simp only [Act.put, List.getElem_toArray, List.getElem_cons_succ, List.getElem_cons_zero, List.setIfInBounds_toArray, List.set_cons_zero, List.set_cons_succ]
    refine wpAnyH_take (i := 5) (v := ?v13) rfl (by kernel_rfl) (by kernel_rfl) (by kernel_rfl) (fun _ _ _ h => h) (Or.inl ⟨by kernel_rfl, ?y13⟩) (by assumption) ?_
    case y13 => (intro w hSw; (try dsimp only at hSw); go_simp; all_goals with_reducible rfl)
    try simp only [Act.put, List.getElem_toArray, List.getElem_cons_succ, List.getElem_cons_zero, List.setIfInBounds_toArray, List.set_cons_zero, List.set_cons_succ]
    refine wpAnyH_ready (rs := [6]) (by kernel_rfl) (by simp) (AllReadyH.cons rfl (fun K hK => ?_) AllReadyH.nil)
    go_simp
    go_at_call 71
    refine (HC.out _ (KB2.fr HK.out (hHeld.2.2.2.2.2.2.2.2).out)).mono ?_
    rintro e W1 ⟨rfl, f⟩
    have FW := kf f hHeld.2.2.2.2.2.2.2.2
    dsimp only
    refine hK.out _ _ ?_ (fun hHeld => ?_)
    · (try dsimp only); (first | (go_split_ands; exact ⟨kc f (by assumption), kc f (by assumption), kc f (by assumption), kc f (by assumption), kc f (by assumption), kc f (by assumption), kc f (by assumption), kc f (by assumption), by assumption⟩) | (go_split_ands; exact ⟨(by assumption), (by assumption), (by assumption), (by assumption), (by assumption), (by assumption), (by assumption), (by assumption), by assumption⟩) | (go_split_ands; exact ⟨kc (fr1 _ _) (by assumption), kc (fr1 _ _) (by assumption), kc (fr1 _ _) (by assumption), kc (fr1 _ _) (by assumption), kc (fr1 _ _) (by assumption), kc (fr1 _ _) (by assumption), kc (fr1 _ _) (by assumption), kc (fr1 _ _) (by assumption), kfa (by assumption)⟩) | (go_split_ands; exact ⟨kc (fr1d _ _) (by assumption), kc (fr1d _ _) (by assumption), kc (fr1d _ _) (by assumption), kc (fr1d _ _) (by assumption), kc (fr1d _ _) (by assumption), kc (fr1d _ _) (by assumption), kc (fr1d _ _) (by assumption), kc (fr1d _ _) (by assumption), kfae (by assumption)⟩))
    clear hK K
    try simp only [Act.put, List.getElem_toArray, List.getElem_cons_succ, List.getElem_cons_zero, List.setIfInBounds_toArray, List.set_cons_zero, List.set_cons_succ]
    refine wpAnyH_take (i := 7) (v := ?v14) rfl (by kernel_rfl) (by kernel_rfl) (by kernel_rfl) (fun _ _ _ h => h) (Or.inl ⟨by kernel_rfl, ?y14⟩) (by assumption) ?_
    case y14 => (intro w hSw; (try dsimp only at hSw); go_simp; all_goals with_reducible rfl)
    try simp only [Act.put, List.getElem_toArray, List.getElem_cons_succ, List.getElem_cons_zero, List.setIfInBounds_toArray, List.set_cons_zero, List.set_cons_succ]
    refine wpAnyH_done (by kernel_rfl) ?_ _
    refine NoPanic.normal ?_
    have f := (hHeld.2.2.2.2.2.2.2.2).out
    clear hHeld FW l0 l1 l2 l3 l4 l5 l6 l7 m0 m1 m2 m3
    have HM2 := hid (show BC W1 (R + 1) ⟨2, 5, 0, 0⟩ from Blk.fr PM.out f (fun h => h))
    have HN := hid (f.mono (T := fun q => q = R + 1) fun _ _ h => h.elim)
    obtain ⟨l0, l1, l2, l3, l4, l5, l6, l7⟩ := B2.cells (show B2 W1 L from Blk.fr HL.out f (fun h => h))
    clear f
    go_wp2_with ((with_reducible refine st_ch rfl (.tmp 5) (.tmp 31) rfl (R + 1) ?_ (x := ⟨2, 5, 0, 0⟩) ⟨3, 1, 0, 1⟩ ?_ HM2.out ?_); (· rfl); (· rfl); intro W' hb hf; have HB := hid hb; have HF3 := hid hf; clear hb hf)
    go_roundw
    case rel => exact ⟨2, rfl, .inr ⟨rfl, HB.out, HN.out.trans HF3.out⟩⟩
    case measure => decide
set_option maxRecDepth 100000 in
set_option maxHeartbeats 1000000 in
theorem pick2 (L : Nat) (w : World) (hL : B2 w L) : Calls Try.prog 16 #[.int .i64 2, .slice (some ⟨L, 0, none⟩) 2 2] w fun e w' => e = .returned (.tuple #[chv ⟨3, 1, 0, 1⟩, .int .i64 0]) ∧ Fr No w w' := by
  have HL := hid hL
  have HF := hid (fr1 w (och ⟨0, 0, 0, 0⟩))
  have PR := hid (BC.new w ⟨0, 0, 0, 0⟩)
  clear hL
  go_enter Try.func16, Try.ntmps16
  go_upto_region 6 with (go_at_call 41; refine (comparison2 _).mono ?_; rintro e w1 ⟨B, rfl, hk, f⟩; replace HF := hid (HF.out.trans f); replace PR := hid (PR.out.fr f); have HK := hid hk; clear f hk)
  repeat (first | (go_at_call 44; refine (min2 L B _ (show B2 _ L from Blk.fr HL.out HF.out (fun h => h)) HK.out).mono ?_; rintro e w2 ⟨rfl, f⟩; replace HF := hid (HF.out.trans f); replace PR := hid (PR.out.fr f); clear f; dsimp only) | ((with_reducible refine st_ch rfl (.tmp 4) (.tmp 23) rfl w.heap.size ?_ (x := ⟨0, 0, 0, 0⟩) ⟨3, 1, 0, 1⟩ ?_ PR.out ?_); (· rfl); (· rfl); intro W' hb hf; have HB := hid hb; have HF3 := hid hf; clear hb hf) | go_values | go_skip | go_guarded | go_step | go_upon)
  try simp only [Exit.inBlock, Exit.then]
  exact bodyPost_ret (v := .tuple #[chv ⟨3, 1, 0, 1⟩, .int .i64 0]) (res2 rfl _ _ w.heap.size ⟨3, 1, 0, 1⟩ 0 rfl rfl HB.out) rfl ⟨rfl, HF.out.step HF3.out (fun k hk e => by omega)⟩
set_option maxRecDepth 100000 in
set_option maxHeartbeats 1000000 in
theorem pick3 (L : Nat) (w : World) : Calls Try.prog 16 #[.int .i64 3, .slice (some ⟨L, 0, none⟩) 2 2] w fun e w' => e = .returned (.tuple #[chv ⟨0, 0, 0, 0⟩, .int .i64 1]) ∧ Fr No w w' := by
  have HF := hid (fr1 w (och ⟨0, 0, 0, 0⟩))
  have PR := hid (BC.new w ⟨0, 0, 0, 0⟩)
  go_enter Try.func16, Try.ntmps16
  go_upto_region 3 with (go_at_call 41; refine (comparison_no 3 _ (by decide) (by decide)).mono ?_; rintro e w1 ⟨rfl, f⟩; replace HF := hid (HF.out.trans f); replace PR := hid (PR.out.fr f); clear f)
  repeat (first | ((with_reducible refine st_ch rfl (.tmp 4) (.tmp 15) rfl w.heap.size ?_ (x := ⟨0, 0, 0, 0⟩) ⟨0, 0, 0, 0⟩ ?_ PR.out ?_); (· rfl); (· rfl); intro W' hb hf; have HB := hid hb; have HF3 := hid hf; clear hb hf) | go_values | go_skip | go_guarded | go_step | go_upon)
  try simp only [Exit.inBlock, Exit.then]
  exact bodyPost_ret (v := .tuple #[chv ⟨0, 0, 0, 0⟩, .int .i64 1]) (res2 rfl _ _ w.heap.size ⟨0, 0, 0, 0⟩ 1 rfl rfl HB.out) rfl ⟨rfl, HF.out.step HF3.out (fun k hk e => by omega)⟩
end Go.Proofs.Ytoboialfaifbgaa.ViF
