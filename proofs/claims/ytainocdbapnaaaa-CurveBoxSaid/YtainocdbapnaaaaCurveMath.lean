/-
  Cubics in whole numbers, plainly, free of any program: middles, cuts, what is flat, what is elevated, points at a place; what layer 11 claims of them.
-/
import Derived.Test.YtainocdbapnaaaaNearD

namespace Go.Proofs.Ytainocdbapnaaaa

/-- The middle of two numbers. -/
def mid (a b : Int) : Int := near (a + b) 2
/-- The nearest number to a third of p and twice q. -/
def third (p q : Int) : Int := near (p + 2 * q) 3
/-- The number at t / 2^16 between two. -/
def betw (a b t : Int) : Int := a + near ((b - a) * t) 65536

theorem mid_eq (a b : Int) : mid a b = (a + b + 1) / 2 := by unfold mid near; omega
theorem mid_comm (a b : Int) : mid a b = mid b a := by rw [mid_eq, mid_eq, Int.add_comm a b]
theorem betw_eq (a b t : Int) : betw a b t = a + ((b - a) * t + 32768) / 65536 := by unfold betw near; omega
theorem betw_half (a b : Int) : betw a b 32768 = mid a b := by rw [betw_eq, mid_eq]; omega
theorem betw_zero (a b : Int) : betw a b 0 = a := by rw [betw_eq]; omega
theorem betw_one (a b : Int) : betw a b 65536 = b := by rw [betw_eq]; omega
theorem mid_in {a b l h : Int} (ha : l ≤ a ∧ a ≤ h) (hb : l ≤ b ∧ b ≤ h) : l ≤ mid a b ∧ mid a b ≤ h := by rw [mid_eq]; omega
theorem betw_in {a b t l h : Int} (h0 : 0 ≤ t) (h1 : t ≤ 65536) (ha : l ≤ a ∧ a ≤ h) (hb : l ≤ b ∧ b ≤ h) : l ≤ betw a b t ∧ betw a b t ≤ h := by
  rw [betw_eq]
  by_cases k : 0 ≤ b - a
  · have e1 : 0 ≤ (b - a) * t := Int.mul_nonneg k h0
    have e2 : (b - a) * t ≤ (b - a) * 65536 := Int.mul_le_mul_of_nonneg_left h1 k
    generalize (b - a) * t = u at *
    omega
  · have e1 : 0 ≤ (a - b) * t := Int.mul_nonneg (by omega) h0
    have e2 : (a - b) * t ≤ (a - b) * 65536 := Int.mul_le_mul_of_nonneg_left h1 (by omega)
    have e3 : (b - a) * t = -((a - b) * t) := by rw [← Int.neg_mul]; congr 1; omega
    rw [e3]
    generalize (a - b) * t = u at *
    omega

/-- A curve. -/
structure Crv where
  px : Int
  py : Int
  qx : Int
  qy : Int
  rx : Int
  ry : Int
  sx : Int
  sy : Int

/-- A number of a curve that is right. -/
def In40 (z : Int) : Prop := -1099511627776 ≤ z ∧ z ≤ 1099511627776
instance (z : Int) : Decidable (In40 z) := by unfold In40; exact inferInstance
theorem mid40 {a b : Int} (ha : In40 a) (hb : In40 b) : In40 (mid a b) := mid_in ha hb
theorem betw40 {a b t : Int} (h0 : 0 ≤ t) (h1 : t ≤ 65536) (ha : In40 a) (hb : In40 b) : In40 (betw a b t) := betw_in h0 h1 ha hb
theorem third40 {a b : Int} (ha : In40 a) (hb : In40 b) : In40 (third a b) := by unfold third near In40 at *; omega
/-- A curve that is right. -/
def Crv.right (c : Crv) : Prop := (In40 c.px ∧ In40 c.py) ∧ (In40 c.qx ∧ In40 c.qy) ∧ (In40 c.rx ∧ In40 c.ry) ∧ (In40 c.sx ∧ In40 c.sy)
instance (c : Crv) : Decidable c.right := by unfold Crv.right; exact inferInstance

/-- Three numbers that lie nearly on a line. -/
def bentF (a b c : Int) : Prop := a - 2 * b + c ≤ 512 ∧ -512 ≤ a - 2 * b + c
instance (a b c : Int) : Decidable (bentF a b c) := by unfold bentF; exact inferInstance
/-- A curve that is flat. -/
def Crv.flat (c : Crv) : Prop := bentF c.px c.qx c.rx ∧ bentF c.py c.qy c.ry ∧ bentF c.qx c.rx c.sx ∧ bentF c.qy c.ry c.sy
instance (c : Crv) : Decidable c.flat := by unfold Crv.flat; exact inferInstance

/-- What a row of four numbers is cut at: the middles of the middles. -/
def m3 (a b c : Int) : Int := mid (mid a b) (mid b c)
def m4 (a b c d : Int) : Int := mid (m3 a b c) (m3 b c d)
/-- The first of the two that a curve is cut into. -/
def Crv.cutA (c : Crv) : Crv := ⟨c.px, c.py, mid c.px c.qx, mid c.py c.qy, m3 c.px c.qx c.rx, m3 c.py c.qy c.ry, m4 c.px c.qx c.rx c.sx, m4 c.py c.qy c.ry c.sy⟩
/-- The second one. -/
def Crv.cutB (c : Crv) : Crv := ⟨m4 c.px c.qx c.rx c.sx, m4 c.py c.qy c.ry c.sy, m3 c.qx c.rx c.sx, m3 c.qy c.ry c.sy, mid c.rx c.sx, mid c.ry c.sy, c.sx, c.sy⟩
def Crv.back (c : Crv) : Crv := ⟨c.sx, c.sy, c.rx, c.ry, c.qx, c.qy, c.px, c.py⟩
/-- The place that counts. -/
def capT (t : Int) : Int := if t < 0 then 0 else if 65536 < t then 65536 else t
theorem capT_in (t : Int) : 0 ≤ capT t ∧ capT t ≤ 65536 := by unfold capT; (repeat' split) <;> omega
def b3 (a b c t : Int) : Int := betw (betw a b t) (betw b c t) t
def b4 (a b c d t : Int) : Int := betw (b3 a b c t) (b3 b c d t) t
/-- The point at a place from 0 to 2^16. -/
def Crv.at (c : Crv) (t : Int) : Int × Int := (b4 c.px c.qx c.rx c.sx t, b4 c.py c.qy c.ry c.sy t)

theorem m3_comm (a b c : Int) : m3 a b c = m3 c b a := by unfold m3; rw [mid_comm a b, mid_comm b c, mid_comm (mid b a)]
theorem m4_comm (a b c d : Int) : m4 a b c d = m4 d c b a := by unfold m4; rw [m3_comm a b c, m3_comm b c d, mid_comm (m3 c b a)]
/-- Cut, and cut backwards. -/
theorem cut_back (c : Crv) : c.back.cutA = c.cutB.back := by
  unfold Crv.back Crv.cutA Crv.cutB
  simp only
  rw [mid_comm c.sx, mid_comm c.sy, m3_comm c.sx, m3_comm c.sy, m4_comm c.sx, m4_comm c.sy]
/-- In the middle the curve is where it is cut. -/
theorem at_half (c : Crv) : c.at 32768 = (c.cutA.sx, c.cutA.sy) := by
  unfold Crv.at b4 b3 Crv.cutA m4 m3
  simp only [betw_half]
theorem at_zero (c : Crv) : c.at 0 = (c.px, c.py) := by
  unfold Crv.at b4 b3
  simp only [betw_zero]
theorem at_one (c : Crv) : c.at 65536 = (c.sx, c.sy) := by
  unfold Crv.at b4 b3
  simp only [betw_one]
theorem m3_in {a b c l h : Int} (ha : l ≤ a ∧ a ≤ h) (hb : l ≤ b ∧ b ≤ h) (hc : l ≤ c ∧ c ≤ h) : l ≤ m3 a b c ∧ m3 a b c ≤ h := mid_in (mid_in ha hb) (mid_in hb hc)
theorem m4_in {a b c d l h : Int} (ha : l ≤ a ∧ a ≤ h) (hb : l ≤ b ∧ b ≤ h) (hc : l ≤ c ∧ c ≤ h) (hd : l ≤ d ∧ d ≤ h) : l ≤ m4 a b c d ∧ m4 a b c d ≤ h := mid_in (m3_in ha hb hc) (m3_in hb hc hd)
theorem b4_in {a b c d t l h : Int} (h0 : 0 ≤ t) (h1 : t ≤ 65536) (ha : l ≤ a ∧ a ≤ h) (hb : l ≤ b ∧ b ≤ h) (hc : l ≤ c ∧ c ≤ h) (hd : l ≤ d ∧ d ≤ h) : l ≤ b4 a b c d t ∧ b4 a b c d t ≤ h :=
  betw_in h0 h1 (betw_in h0 h1 (betw_in h0 h1 ha hb) (betw_in h0 h1 hb hc)) (betw_in h0 h1 (betw_in h0 h1 hb hc) (betw_in h0 h1 hc hd))
theorem right_cutA {c : Crv} (h : c.right) : c.cutA.right := by
  obtain ⟨⟨a, b⟩, ⟨d, e⟩, ⟨f, g⟩, ⟨i, j⟩⟩ := h
  exact ⟨⟨a, b⟩, ⟨mid_in a d, mid_in b e⟩, ⟨m3_in a d f, m3_in b e g⟩, ⟨m4_in a d f i, m4_in b e g j⟩⟩
theorem right_cutB {c : Crv} (h : c.right) : c.cutB.right := by
  obtain ⟨⟨a, b⟩, ⟨d, e⟩, ⟨f, g⟩, ⟨i, j⟩⟩ := h
  exact ⟨⟨m4_in a d f i, m4_in b e g j⟩, ⟨m3_in d f i, m3_in e g j⟩, ⟨mid_in f i, mid_in g j⟩, ⟨i, j⟩⟩
theorem right_back {c : Crv} (h : c.right) : c.back.right := ⟨h.2.2.2, h.2.2.1, h.2.1, h.1⟩
end Go.Proofs.Ytainocdbapnaaaa
