/- Contracts and steps: a copy of bytes, in a block of its own; 'append' onto an empty slice of bytes; 'clear' of a part of a block that is known whole. Conditions: no more than some millions of bytes. -/
import Derived.Test.YtpiplcakefcaaaaDoorBdB
import Derived.Test.YtpiplcakefcaaaaDoorCrcF
import Derived.Lib.SliceRun
namespace Go.Proofs.YtpiplcakefcaaaaDoor.BdF
open Go.RowKit MSep MFrame Kit CrcA CrcM CrcE

def OB (B : Nat) (w : World) (v : Value) (l : List Int) : Prop := w.ownsRow B 5 1 v l.length (CrcE.cells l)
theorem OB.rd {B : Nat} {w : World} {A : Option Addr} {n c : Nat} {l : List Int} (hn : n = l.length) (h : OB B w (.slice A n c) l) : Rd w A n (l.map (Value.int .u8)) := by
  subst hn
  exact Rd.own h
theorem OB.ge {B : Nat} {w : World} {v : Value} {l : List Int} (h : OB B w v l) (k : Nat) (hk : v.ownBlock = some k) : B ≤ k := by
  rcases h.2 with ⟨rfl, _⟩ | ⟨g, cap, cur, rfl, hb, hh, _⟩
  · simp [Value.ownBlock] at hk
  · simp [Value.ownBlock] at hk
    subst hk
    exact hb
theorem OB.lim {B : Nat} {w : World} {A : Option Addr} {n c : Nat} {l : List Int} (h : OB B w (.slice A n c) l) : l.length ≤ c ∧ c ≤ maxLen := by
  rcases h.2 with ⟨hv, h0⟩ | ⟨g, cap, cur, hv, hb, hg, hnc, hcm, hcs, htake⟩
  · injection hv with h1 h2 h3
    subst h3
    exact ⟨by omega, by simp [maxLen]⟩
  · injection hv with h1 h2 h3
    subst h3
    exact ⟨hnc, hcm⟩
theorem app_b {w : World} {ops : Array Oper} {rest : List Oper} {o : Oper} {a : Act} {Q : Exit → Act → World → Prop} (hgd : o.guard = none) (s x : Operand)
    (ho : o.op = .call { callee := .builtin .append, args := #[s, x], argTypes := #[27, 27] })
    (B : Nat) (v : Value) (l : List Int) (hs : a.eval s = v) (hown : OB B w v l)
    (A : Option Addr) (m c : Nat) (news : List Int) (hx : a.eval x = .slice A m c) (hr : Rd w A m (news.map (Value.int .u8)))
    (hlim : l.length + m ≤ 100000000000000) (hbase : B ≤ w.heap.size)
    (h : ∀ A' c' w', OB B w' (.slice A' (l.length + m) c') (l ++ news) → Fr (fun q => v.ownBlock = some q) w w' → wpList Tryd.prog ops Q rest (a.put o.dst (.slice A' (l.length + m) c')) w') :
    wpList Tryd.prog ops Q (o :: rest) a w := by
  obtain ⟨i0, hi, hz0, hz1, hz2⟩ := info_parts u8_info
  have hm : news.length = m := by simpa using hr.1
  refine wpList_app hgd s x 27 ho B 5 i0 (.int .u8 0) 1 Tryd.underlying27 hi hz0 hz1 hz2 rfl v l.length (CrcE.cells l) hs hown A m c (CrcE.cells news) hx hr one_u8s (by simp only [maxLen]; omega) (by omega) hbase ?_
  intro A' c' w' o1 f1 _
  refine h A' c' w' ?_ f1
  have e : (l ++ news).length = l.length + m := by rw [List.length_append, hm]
  unfold OB
  rw [e, show CrcE.cells (l ++ news) = CrcE.cells l ++ CrcE.cells news by simp [CrcE.cells]]
  exact o1
theorem cells_len (l : List Int) : (CrcE.cells l).length = l.length := by simp [CrcE.cells]
/-- Block g is a slice's own: n bytes X, then what has room still. -/
def BK (w : World) (g n c : Nat) (X : List Int) : Prop := X.length = n ∧ n ≤ c ∧ c ≤ maxLen ∧ ∃ E : List Value, Blk w g 5 (CrcE.cells X ++ E).toArray
theorem BK.fr {S : Nat → Prop} {w w' : World} {g n c : Nat} {X : List Int} (h : BK w g n c X) (hf : Fr S w w') (hn : ¬ S g) : BK w' g n c X := by
  obtain ⟨h1, h2, h3, E, h4⟩ := h
  exact ⟨h1, h2, h3, E, Blk.fr h4 hf hn⟩
theorem BK.isB {w : World} {g n c : Nat} {X : List Int} (h : BK w g n c X) (hu : ∀ x ∈ X, 0 ≤ x ∧ x ≤ 255) : IsB w (some ⟨g, 0, none⟩) n c X := by
  obtain ⟨h1, h2, h3, E, h4⟩ := h
  refine ⟨?_, h2, h3, hu⟩
  have := Rd.blk (off := 0) (n := n) h4 (by rw [List.length_append, cells_len]; omega)
  rw [List.drop_zero, List.take_append_of_le_length (by rw [cells_len]; omega), List.take_of_length_le (by rw [cells_len]; omega)] at this
  exact this
theorem BK.lt {w : World} {g n c : Nat} {X : List Int} (h : BK w g n c X) : g < w.heap.size := by
  obtain ⟨_, _, _, E, h4⟩ := h
  exact Blk.lt h4
set_option maxRecDepth 100000 in
theorem cloneS_ok (ad : Addr) (n c : Nat) (X : List Int) (w : World) (h0 : 0 < n) (hn : n ≤ 1000000000000) (hr : Rd w (some ad) n (X.map (Value.int .u8))) :
    Calls Tryd.prog 66 #[.slice (some ad) n c] w fun e w' => ∃ g c', e = .returned (.slice (some ⟨g, 0, none⟩) n c') ∧ w.heap.size ≤ g ∧ BK w' g n c' X ∧ Fr No w w' := by
  have hlen : X.length = n := by simpa using hr.1
  have hown0 : OB w.heap.size (w.alloc (.cells #[] 5)) (.slice (some ⟨w.heap.size, 0, none⟩) 0 0) [] := World.ownsRow_lit w #[] 0 (Nat.le_refl _) (by simp [maxLen]) rfl
  have HO := hid hown0
  have HA := hid (hr.fr (S := No) ((Fr.refl _ w).alloc (.cells #[] 5)) (fun _ _ _ h => h))
  have hq : ∀ w, (binOp .eql 27 (.slice (some ad) n c) (.slice none 0 0)).run Tryd.prog w = .ok (.bool false) w := fun w => by kernel_rfl
  clear hr hown0
  go_enter Tryd.func66, Tryd.ntmps66
  go_wp2_with (first | (at_builtin; refine app_b rfl (.tmp 5) (.tmp 6) rfl w.heap.size _ [] rfl HO.out (some ad) n c X rfl HA.out (by simp; omega) (by simp) ?_))
  intro A1 c1 w1 own1 f1
  have F1 := hid (show Fr No w w1 from ((Fr.refl No w).alloc (.cells #[] 5)).step f1 (fun i hi h => by simp [Value.ownBlock] at h; omega))
  have HP : Hid (∃ g, A1 = some ⟨g, 0, none⟩ ∧ w.heap.size ≤ g ∧ BK w1 g n c1 X) := hid (by
    rcases own1.2 with ⟨hv, hz⟩ | ⟨g, cap, cur, hv, hb, hg, hnc, hcm, hcs, htake⟩
    · rw [hlen] at hz
      omega
    · injection hv with e1 e2 e3
      subst e1 e3
      refine ⟨g, rfl, hb, hlen, ?_, hcm, cur.toList.drop n, ?_⟩
      · rw [hlen] at hnc
        exact hnc
      · have ht : cur.toList.take n = CrcE.cells X := by
          have := htake
          rw [hlen, Nat.mul_one] at this
          exact this
        unfold Blk
        rw [← ht, List.take_append_drop]
        exact hg)
  clear own1 f1
  obtain ⟨g, rfl, hg1, hbk⟩ := HP.out
  have HB := hid hbk
  have HG := hid hg1
  clear hbk hg1 HP
  go_wp2
  go_ret
  exact ⟨g, c1, rfl, HG.out, HB.out, F1.out⟩
theorem blk_setCells {g : Nat} {t : TypeId} : ∀ (xs : List Value) (o : Nat) (w : World) (ys : List Value), Blk w g t ys.toArray → o + xs.length ≤ ys.length → Blk (w.setCells g o xs) g t (ys.take o ++ (xs ++ ys.drop (o + xs.length))).toArray ∧ Fr (fun k => k = g) w (w.setCells g o xs)
  | [], o, w, ys, h, _ => by
    refine ⟨?_, Fr.refl _ _⟩
    simp only [List.length_nil, Nat.add_zero, List.nil_append, List.take_append_drop]
    exact h
  | v :: r, o, w, ys, h, hl => by
    simp only [List.length_cons] at hl
    have h1 : Blk (w.setCell ⟨g, o, none⟩ v) g t (ys.set o v).toArray := by
      have := Blk.set_ h o v
      simpa using this
    obtain ⟨h2, h3⟩ := blk_setCells r (o + 1) _ _ h1 (by rw [List.length_set]; omega)
    refine ⟨?_, (Fr.set1 w g o v).trans h3⟩
    show Blk ((w.setCell ⟨g, o, none⟩ v).setCells g (o + 1) r) g t _
    have e : (ys.set o v).take (o + 1) ++ (r ++ (ys.set o v).drop (o + 1 + r.length)) = ys.take o ++ (v :: r ++ ys.drop (o + (r.length + 1))) := by
      rw [List.set_eq_take_append_cons_drop, if_pos (by omega)]
      have ht : (ys.take o).length = o := by rw [List.length_take]; omega
      rw [List.take_append, List.drop_append, ht]
      rw [List.take_of_length_le (l := ys.take o) (i := o + 1) (by omega), List.drop_of_length_le (l := ys.take o) (i := o + 1 + r.length) (by omega)]
      rw [show o + 1 - o = 1 by omega, show o + 1 + r.length - o = r.length + 1 by omega]
      simp only [List.take_succ_cons, List.take_zero, List.drop_succ_cons, List.drop_drop, List.nil_append]
      simp [Nat.add_assoc, Nat.add_comm 1]
    rw [e] at h2
    exact h2
/-- 'clear' of a part of a block that is known whole. -/
theorem clear_b {w : World} {ops : Array Oper} {rest : List Oper} {o : Oper} {a : Act} {Q : Exit → Act → World → Prop} (hgd : o.guard = none) (x : Operand)
    (ho : o.op = .call { callee := .builtin .clear, args := #[x], argTypes := #[27] }) (g off n c : Nat) (ys : List Value) (hx : a.eval x = .slice (some ⟨g, off, none⟩) n c) (h0 : 0 < n)
    (hb : Blk w g 5 ys.toArray) (hfit : off + n ≤ ys.length)
    (h : ∀ w', Blk w' g 5 (ys.take off ++ (List.replicate n (Value.int .u8 0) ++ ys.drop (off + n))).toArray → Fr (fun k => k = g) w w' → wpList Tryd.prog ops Q rest (a.put o.dst (.tuple #[])) w') :
    wpList Tryd.prog ops Q (o :: rest) a w := by
  refine wpList_plain hgd fun K hK => ?_
  have hrun := Lib.run_clear_slice (P := Tryd.prog) w 27 5 o.type (.int .u8 0) Tryd.underlying27 (fun w => by kernel_rfl) rfl rfl g off n c h0
    (fun j hj => by rw [Blk.cell hb, Array.getElem?_eq_getElem (by simp; omega)]; rfl) (fun j hj => Blk.frozen hb _)
  unfold Oper.wp execOp
  simp only [ho, resolve, invoke, builtin, Sem.run_bind, Sem.run_pure, Result.andThen_ok, List.map_toArray, List.map_cons, List.map_nil, hx, hrun]
  obtain ⟨h1, h2⟩ := blk_setCells (List.replicate n (Value.int .u8 0)) off w ys hb (by rw [List.length_replicate]; exact hfit)
  rw [List.length_replicate] at h1
  exact hK _ _ (h _ h1 h2)
end Go.Proofs.YtpiplcakefcaaaaDoor.BdF
