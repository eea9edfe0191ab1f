/- Plain facts on geometries of devices, of no program: what follows from one, which may be, and what is there of one that may be. -/
namespace Go.Proofs.Ytoboialfaifbgaa.MGeM

/-- A geometry: conventional zones, sequential ones, sectors of each, how many may be open, how many are the cache's. -/
structure Ge where
  c : Int
  s : Int
  n : Int
  l : Int
  k : Int
/-- What follows from it: slot, ring, ring's length, bands, a band's length, sectors, extents, run. -/
structure Ly where
  a : Int
  r : Int
  q : Int
  b : Int
  d : Int
  t : Int
  x : Int
  u : Int
def z8 : Ly := ⟨0, 0, 0, 0, 0, 0, 0, 0⟩
def slt (C : Int) : Int := (C - 2) / 4
def rom (C s k : Int) : Int := slt C * 96 - 40 - (s - k - 1) * 2 - (s + 7) / 8
def ext (C s k : Int) : Int := min (max (rom C s k) 0 / 16) 2048
def lay (g : Ge) : Ly := ⟨slt (g.c * g.n), 2 + 2 * slt (g.c * g.n), g.c * g.n - (2 + 2 * slt (g.c * g.n)), g.s - g.k - 1, g.n - 1, (g.s - g.k - 1) * (g.n - 1), ext (g.c * g.n) g.s g.k, min 8 (g.n - 2)⟩
/-- A disk's shape that may be. -/
def shpB (c s n l : Int) : Prop := (1 ≤ c ∧ c ≤ 16) ∧ (1 ≤ s ∧ s ≤ 128) ∧ (4 ≤ n ∧ n ≤ 1024) ∧ (1 ≤ l ∧ l ≤ s)
instance (c s n l : Int) : Decidable (shpB c s n l) := by unfold shpB; exact inferInstance
def inB (g : Ge) : Prop := (2 ≤ g.c ∧ g.c ≤ 16) ∧ (4 ≤ g.s ∧ g.s ≤ 128) ∧ (8 ≤ g.n ∧ g.n ≤ 1024) ∧ (2 ≤ g.l ∧ g.l ≤ g.s) ∧ (1 ≤ g.k ∧ g.k ≤ g.s - 2)
instance (g : Ge) : Decidable (inB g) := by unfold inB; exact inferInstance
def mayG (g : Ge) : Prop := inB g ∧ 8 ≤ (lay g).q ∧ 8 ≤ (lay g).x
instance (g : Ge) : Decidable (mayG g) := by unfold mayG; exact inferInstance

theorem conv_in {c n : Int} (h1 : 2 ≤ c) (h2 : c ≤ 16) (h3 : 8 ≤ n) (h4 : n ≤ 1024) : 16 ≤ c * n ∧ c * n ≤ 16384 := by
  have a1 := Int.mul_le_mul h1 h3 (by omega) (by omega)
  have a2 := Int.mul_le_mul h2 h4 (by omega) (by omega)
  omega
theorem sect_in {b d : Int} (h1 : 1 ≤ b) (h2 : b ≤ 126) (h3 : 7 ≤ d) (h4 : d ≤ 1023) : 7 ≤ b * d ∧ b * d ≤ 128898 := by
  have a1 := Int.mul_le_mul h1 h3 (by omega) (by omega)
  have a2 := Int.mul_le_mul h2 h4 (by omega) (by omega)
  omega
theorem slt_in {C : Int} (h1 : 16 ≤ C) (h2 : C ≤ 16384) : 3 ≤ slt C ∧ slt C ≤ 4095 ∧ 4 * slt C ≤ C - 2 ∧ C - 2 < 4 * slt C + 4 := by unfold slt; omega
theorem ext_in {C s k : Int} : 0 ≤ ext C s k ∧ ext C s k ≤ 2048 := by unfold ext; omega

/-- What holds of a geometry whose numbers are within their bounds. -/
structure Good (g : Ge) (C : Int) (y : Ly) : Prop where
  hC : g.c * g.n = C
  C0 : 16 ≤ C
  C1 : C ≤ 16384
  a0 : 3 ≤ y.a
  a1 : y.a ≤ 4095
  a2 : 4 * y.a ≤ C - 2
  a3 : C - 2 < 4 * y.a + 4
  r0 : y.r = 2 + 2 * y.a
  q0 : y.q = C - y.r
  b0 : y.b = g.s - g.k - 1
  b1 : 1 ≤ y.b
  b2 : y.b ≤ 126
  d0 : y.d = g.n - 1
  d1 : 7 ≤ y.d
  d2 : y.d ≤ 1023
  t0 : y.t = y.b * y.d
  t1 : 7 ≤ y.t
  t2 : y.t ≤ 128898
  x0 : 0 ≤ y.x
  x1 : y.x ≤ 2048
  u0 : y.u = min 8 (g.n - 2)
  u1 : 6 ≤ y.u
  u2 : y.u ≤ 8
  u3 : y.u < y.d
theorem good {g : Ge} (h : inB g) : Good g (g.c * g.n) (lay g) := by
  obtain ⟨⟨c1, c2⟩, ⟨s1, s2⟩, ⟨n1, n2⟩, ⟨l1, l2⟩, k1, k2⟩ := h
  have hC := conv_in c1 c2 n1 n2
  have hS := slt_in hC.1 hC.2
  have hT := sect_in (b := g.s - g.k - 1) (d := g.n - 1) (by omega) (by omega) (by omega) (by omega)
  have hX := ext_in (C := g.c * g.n) (s := g.s) (k := g.k)
  refine ⟨rfl, hC.1, hC.2, hS.1, hS.2.1, hS.2.2.1, hS.2.2.2, rfl, rfl, rfl, ?_, ?_, rfl, ?_, ?_, rfl, hT.1, hT.2, hX.1, hX.2, rfl, ?_, ?_, ?_⟩ <;> (unfold lay; dsimp only; omega)

def lyo (g : Ge) : Ly × Int := if mayG g then (lay g, 0) else (z8, 70)
def sho (g : Ge) : Int × Int × Int × Int := if mayG g then (g.c, g.s, g.n, g.l) else (0, 0, 0, 0)
def slo (g : Ge) (i : Int) : Int × Int := if mayG g ∧ 0 ≤ i ∧ i < 2 then (2 + i * (lay g).a, (lay g).a) else (0, 0)
def rio (g : Ge) (i : Int) : Int := if mayG g ∧ 0 ≤ i then (lay g).r + i % (lay g).q else -1
def zno (g : Ge) (i : Int) : Int × Int := if mayG g ∧ 0 ≤ i ∧ i < g.c + g.s then (i * g.n, g.n) else (0, 0)
def sqo (g : Ge) (i : Int) : Prop := mayG g ∧ g.c ≤ i ∧ i < g.c + g.s
instance (g : Ge) (i : Int) : Decidable (sqo g i) := by unfold sqo; exact inferInstance
def bno (g : Ge) (i : Int) : Int × Int := if mayG g ∧ 0 ≤ i ∧ i < (lay g).t then (i / (lay g).d, i % (lay g).d) else (-1, -1)
def bso (g : Ge) (i : Int) : Int × Int := if mayG g ∧ 0 ≤ i ∧ i < (lay g).b then (i * (lay g).d, (lay g).d) else (0, 0)
/-- A span that may be. -/
def cko (g : Ge) (a n : Int) : Int := if mayG g then (if (0 ≤ a ∧ 0 ≤ n ∧ a + n ≤ 1099511627776) ∧ n ≠ 0 ∧ a + n ≤ (lay g).t then 0 else 71) else 70
end Go.Proofs.Ytoboialfaifbgaa.MGeM
