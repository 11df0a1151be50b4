/-
  Joined texts: In32, PtMem, NearD, CurveMath, CrvMem, FlatMath, AffCell, PtTrod, CrvTrod.
-/
import Derived.Test.YtgkjbmejfcijkaaBase
import Derived.RangeFuncBox
import Derived.Lib.SmallJoins
namespace Go.Proofs.Ytgkjbmejfcijkaa

def In32 (z : Int) : Prop := -4294967296 < z ∧ z < 4294967296
instance (z : Int) : Decidable (In32 z) := by unfold In32; infer_instance
theorem in_zero : In32 0 := ⟨by decide, by decide⟩
end Go.Proofs.Ytgkjbmejfcijkaa
namespace Go.Proofs.Ytgkjbmejfcijkaa
open Go.RowKit Go.Shelf

def PBox (n : Nat) (x y : Int) (w : World) : Prop := w.heap[n]? = some (.cells #[.int .i64 x, .int .i64 y] 23)
theorem PBox.new (w : World) (x y : Int) : PBox w.heap.size x y (w.alloc (.cells #[.int .i64 x, .int .i64 y] 23)) := World.alloc_heap_new w _
theorem PBox.c0 {n : Nat} {x y : Int} {w : World} (h : PBox n x y w) : w.cell? ⟨n, 0, none⟩ = some (.int .i64 x) := by unfold PBox at h; simp [World.cell?, h]
theorem PBox.c1 {n : Nat} {x y : Int} {w : World} (h : PBox n x y w) : w.cell? ⟨n, 1, none⟩ = some (.int .i64 y) := by unfold PBox at h; simp [World.cell?, h]
theorem PBox.z {n : Nat} {x y : Int} {w : World} (h : PBox n x y w) (o : Nat) : w.frozen? ⟨n, o, none⟩ = false := by unfold PBox at h; simp [World.frozen?, h]
theorem PBox.lt {n : Nat} {x y : Int} {w : World} (h : PBox n x y w) : n < w.heap.size := (Array.getElem?_eq_some_iff.1 h).1
theorem PBox.next {n : Nat} {x y : Int} {w w' : World} (h : PBox n x y w) (t : Below w.heap.size w w') : PBox n x y w' := by
  have := h.lt
  unfold PBox at *; rw [t.block n this]; exact h
theorem In32.i {x : Int} (h : In32 x) : I64 x := by obtain ⟨h1, h2⟩ := h; exact ⟨by omega, by omega⟩
theorem PBox.set {n : Nat} {x y : Int} {w : World} (h : PBox n x y w) (x' y' : Int) : PBox n x' y' ((w.setCell ⟨n, 0, none⟩ (.int .i64 x')).setCell ⟨n, 1, none⟩ (.int .i64 y')) := by
  unfold PBox at *
  simp only [World.setCell, Array.getElem?_modify, h]
  simp
theorem PBox.other {n q : Nat} {x y : Int} {W : World} (h : PBox n x y W) (hn : n ≠ q) (o : Nat) (v : Value) : PBox n x y (W.setCell ⟨q, o, none⟩ v) := by
  unfold PBox at *; rw [Below.heap_setCell _ _ _ _ (by exact hn)]; exact h
theorem below_pt8 {w w' : World} {n : Nat} (h : Below w.heap.size w w') (hn : w.heap.size ≤ n) (x y : Value) : Below w.heap.size w ((w'.setCell ⟨n, 0, none⟩ x).setCell ⟨n, 1, none⟩ y) :=
  Below.setCell (Below.setCell h (by exact hn) _) (by exact hn) _
end Go.Proofs.Ytgkjbmejfcijkaa
namespace Go.Proofs.Ytgkjbmejfcijkaa

/-- The nearest whole number to v / d; of two that are as near the greater one. -/
def near (v : Int) (d : Nat) : Int := (v + (d : Int) / 2) / (d : Int)
end Go.Proofs.Ytgkjbmejfcijkaa
namespace Go.Proofs.Ytgkjbmejfcijkaa

/-- The middle of two numbers. -/
def mid (a b : Int) : Int := near (a + b) 2
/-- The nearest number to a third of p and twice q. -/
def third (p q : Int) : Int := near (p + 2 * q) 3
/-- The number at t / 2^16 between two. -/
def betw (a b t : Int) : Int := a + near ((b - a) * t) 65536

theorem mid_eq (a b : Int) : mid a b = (a + b + 1) / 2 := by unfold mid near; omega
theorem mid_comm (a b : Int) : mid a b = mid b a := by rw [mid_eq, mid_eq, Int.add_comm a b]
theorem betw_eq (a b t : Int) : betw a b t = a + ((b - a) * t + 32768) / 65536 := by unfold betw near; omega
theorem betw_half (a b : Int) : betw a b 32768 = mid a b := by rw [betw_eq, mid_eq]; omega
theorem betw_zero (a b : Int) : betw a b 0 = a := by rw [betw_eq]; omega
theorem betw_one (a b : Int) : betw a b 65536 = b := by rw [betw_eq]; omega
theorem mid_in {a b l h : Int} (ha : l ≤ a ∧ a ≤ h) (hb : l ≤ b ∧ b ≤ h) : l ≤ mid a b ∧ mid a b ≤ h := by rw [mid_eq]; omega
theorem betw_in {a b t l h : Int} (h0 : 0 ≤ t) (h1 : t ≤ 65536) (ha : l ≤ a ∧ a ≤ h) (hb : l ≤ b ∧ b ≤ h) : l ≤ betw a b t ∧ betw a b t ≤ h := by
  rw [betw_eq]
  by_cases k : 0 ≤ b - a
  · have e1 : 0 ≤ (b - a) * t := Int.mul_nonneg k h0
    have e2 : (b - a) * t ≤ (b - a) * 65536 := Int.mul_le_mul_of_nonneg_left h1 k
    generalize (b - a) * t = u at *
    omega
  · have e1 : 0 ≤ (a - b) * t := Int.mul_nonneg (by omega) h0
    have e2 : (a - b) * t ≤ (a - b) * 65536 := Int.mul_le_mul_of_nonneg_left h1 (by omega)
    have e3 : (b - a) * t = -((a - b) * t) := by rw [← Int.neg_mul]; congr 1; omega
    rw [e3]
    generalize (a - b) * t = u at *
    omega

/-- A curve. -/
structure Crv where
  px : Int
  py : Int
  qx : Int
  qy : Int
  rx : Int
  ry : Int
  sx : Int
  sy : Int

/-- A number of a curve that is right. -/
def In40 (z : Int) : Prop := -1099511627776 ≤ z ∧ z ≤ 1099511627776
instance (z : Int) : Decidable (In40 z) := by unfold In40; exact inferInstance
theorem mid40 {a b : Int} (ha : In40 a) (hb : In40 b) : In40 (mid a b) := mid_in ha hb
theorem betw40 {a b t : Int} (h0 : 0 ≤ t) (h1 : t ≤ 65536) (ha : In40 a) (hb : In40 b) : In40 (betw a b t) := betw_in h0 h1 ha hb
theorem third40 {a b : Int} (ha : In40 a) (hb : In40 b) : In40 (third a b) := by unfold third near In40 at *; omega
/-- A curve that is right. -/
def Crv.right (c : Crv) : Prop := (In40 c.px ∧ In40 c.py) ∧ (In40 c.qx ∧ In40 c.qy) ∧ (In40 c.rx ∧ In40 c.ry) ∧ (In40 c.sx ∧ In40 c.sy)
instance (c : Crv) : Decidable c.right := by unfold Crv.right; exact inferInstance

/-- Three numbers that lie nearly on a line. -/
def bentF (a b c : Int) : Prop := a - 2 * b + c ≤ 512 ∧ -512 ≤ a - 2 * b + c
instance (a b c : Int) : Decidable (bentF a b c) := by unfold bentF; exact inferInstance
/-- A curve that is flat. -/
def Crv.flat (c : Crv) : Prop := bentF c.px c.qx c.rx ∧ bentF c.py c.qy c.ry ∧ bentF c.qx c.rx c.sx ∧ bentF c.qy c.ry c.sy
instance (c : Crv) : Decidable c.flat := by unfold Crv.flat; exact inferInstance

/-- What a row of four numbers is cut at: the middles of the middles. -/
def m3 (a b c : Int) : Int := mid (mid a b) (mid b c)
def m4 (a b c d : Int) : Int := mid (m3 a b c) (m3 b c d)
/-- The first of the two that a curve is cut into. -/
def Crv.cutA (c : Crv) : Crv := ⟨c.px, c.py, mid c.px c.qx, mid c.py c.qy, m3 c.px c.qx c.rx, m3 c.py c.qy c.ry, m4 c.px c.qx c.rx c.sx, m4 c.py c.qy c.ry c.sy⟩
/-- The second one. -/
def Crv.cutB (c : Crv) : Crv := ⟨m4 c.px c.qx c.rx c.sx, m4 c.py c.qy c.ry c.sy, m3 c.qx c.rx c.sx, m3 c.qy c.ry c.sy, mid c.rx c.sx, mid c.ry c.sy, c.sx, c.sy⟩
def Crv.back (c : Crv) : Crv := ⟨c.sx, c.sy, c.rx, c.ry, c.qx, c.qy, c.px, c.py⟩
/-- The place that counts. -/
def capT (t : Int) : Int := if t < 0 then 0 else if 65536 < t then 65536 else t
theorem capT_in (t : Int) : 0 ≤ capT t ∧ capT t ≤ 65536 := by unfold capT; (repeat' split) <;> omega
def b3 (a b c t : Int) : Int := betw (betw a b t) (betw b c t) t
def b4 (a b c d t : Int) : Int := betw (b3 a b c t) (b3 b c d t) t
/-- The point at a place from 0 to 2^16. -/
def Crv.at (c : Crv) (t : Int) : Int × Int := (b4 c.px c.qx c.rx c.sx t, b4 c.py c.qy c.ry c.sy t)

theorem m3_comm (a b c : Int) : m3 a b c = m3 c b a := by unfold m3; rw [mid_comm a b, mid_comm b c, mid_comm (mid b a)]
theorem m4_comm (a b c d : Int) : m4 a b c d = m4 d c b a := by unfold m4; rw [m3_comm a b c, m3_comm b c d, mid_comm (m3 c b a)]
/-- Cut, and cut backwards. -/
theorem cut_back (c : Crv) : c.back.cutA = c.cutB.back := by
  unfold Crv.back Crv.cutA Crv.cutB
  simp only
  rw [mid_comm c.sx, mid_comm c.sy, m3_comm c.sx, m3_comm c.sy, m4_comm c.sx, m4_comm c.sy]
/-- In the middle the curve is where it is cut. -/
theorem at_half (c : Crv) : c.at 32768 = (c.cutA.sx, c.cutA.sy) := by
  unfold Crv.at b4 b3 Crv.cutA m4 m3
  simp only [betw_half]
theorem at_zero (c : Crv) : c.at 0 = (c.px, c.py) := by
  unfold Crv.at b4 b3
  simp only [betw_zero]
theorem at_one (c : Crv) : c.at 65536 = (c.sx, c.sy) := by
  unfold Crv.at b4 b3
  simp only [betw_one]
theorem m3_in {a b c l h : Int} (ha : l ≤ a ∧ a ≤ h) (hb : l ≤ b ∧ b ≤ h) (hc : l ≤ c ∧ c ≤ h) : l ≤ m3 a b c ∧ m3 a b c ≤ h := mid_in (mid_in ha hb) (mid_in hb hc)
theorem m4_in {a b c d l h : Int} (ha : l ≤ a ∧ a ≤ h) (hb : l ≤ b ∧ b ≤ h) (hc : l ≤ c ∧ c ≤ h) (hd : l ≤ d ∧ d ≤ h) : l ≤ m4 a b c d ∧ m4 a b c d ≤ h := mid_in (m3_in ha hb hc) (m3_in hb hc hd)
theorem b4_in {a b c d t l h : Int} (h0 : 0 ≤ t) (h1 : t ≤ 65536) (ha : l ≤ a ∧ a ≤ h) (hb : l ≤ b ∧ b ≤ h) (hc : l ≤ c ∧ c ≤ h) (hd : l ≤ d ∧ d ≤ h) : l ≤ b4 a b c d t ∧ b4 a b c d t ≤ h :=
  betw_in h0 h1 (betw_in h0 h1 (betw_in h0 h1 ha hb) (betw_in h0 h1 hb hc)) (betw_in h0 h1 (betw_in h0 h1 hb hc) (betw_in h0 h1 hc hd))
theorem right_cutA {c : Crv} (h : c.right) : c.cutA.right := by
  obtain ⟨⟨a, b⟩, ⟨d, e⟩, ⟨f, g⟩, ⟨i, j⟩⟩ := h
  exact ⟨⟨a, b⟩, ⟨mid_in a d, mid_in b e⟩, ⟨m3_in a d f, m3_in b e g⟩, ⟨m4_in a d f i, m4_in b e g j⟩⟩
theorem right_cutB {c : Crv} (h : c.right) : c.cutB.right := by
  obtain ⟨⟨a, b⟩, ⟨d, e⟩, ⟨f, g⟩, ⟨i, j⟩⟩ := h
  exact ⟨⟨m4_in a d f i, m4_in b e g j⟩, ⟨m3_in d f i, m3_in e g j⟩, ⟨mid_in f i, mid_in g j⟩, ⟨i, j⟩⟩
theorem right_back {c : Crv} (h : c.right) : c.back.right := ⟨h.2.2.2, h.2.2.1, h.2.1, h.1⟩
end Go.Proofs.Ytgkjbmejfcijkaa
namespace Go.Proofs.Ytgkjbmejfcijkaa
open Go.RowKit Go.Shelf

/-- A box with these cells. -/
def CBox (n : Nat) (t : TypeId) (cs : Array Value) (w : World) : Prop := w.heap[n]? = some (.cells cs t)
theorem CBox.new (w : World) (t : TypeId) (cs : Array Value) : CBox w.heap.size t cs (w.alloc (.cells cs t)) := World.alloc_heap_new w _
theorem CBox.c {n : Nat} {t : TypeId} {cs : Array Value} {w : World} (h : CBox n t cs w) (i : Nat) {v : Value} (hi : cs[i]? = some v) : w.cell? ⟨n, i, none⟩ = some v := by
  unfold CBox at h; simp [World.cell?, h, hi]
theorem CBox.z {n : Nat} {t : TypeId} {cs : Array Value} {w : World} (h : CBox n t cs w) (o : Nat) : w.frozen? ⟨n, o, none⟩ = false := by unfold CBox at h; simp [World.frozen?, h]
theorem CBox.lt {n : Nat} {t : TypeId} {cs : Array Value} {w : World} (h : CBox n t cs w) : n < w.heap.size := (Array.getElem?_eq_some_iff.1 h).1
theorem CBox.next {n : Nat} {t : TypeId} {cs : Array Value} {w w' : World} (h : CBox n t cs w) (b : Below w.heap.size w w') : CBox n t cs w' := by
  have := h.lt
  unfold CBox at *; rw [b.block n this]; exact h
theorem CBox.below {n B : Nat} {t : TypeId} {cs : Array Value} {w w' : World} (h : CBox n t cs w) (b : Below B w w') (hn : n < B) : CBox n t cs w' := by
  unfold CBox at *; rw [b.block n hn]; exact h
theorem CBox.set {n : Nat} {t : TypeId} {cs : Array Value} {w : World} (h : CBox n t cs w) (o : Nat) (v : Value) (ho : o < cs.size) : CBox n t (cs.set o v ho) (w.setCell ⟨n, o, none⟩ v) := by
  unfold CBox at *
  simp only [World.setCell, Array.getElem?_modify, h]
  simp [Array.setIfInBounds, ho]
theorem CBox.other {n q : Nat} {t : TypeId} {cs : Array Value} {W : World} (h : CBox n t cs W) (hn : n ≠ q) (o : Nat) (v : Value) : CBox n t cs (W.setCell ⟨q, o, none⟩ v) := by
  unfold CBox at *; rw [Below.heap_setCell _ _ _ _ (by exact hn)]; exact h

theorem boxes_two (w : World) (a b : Array Value) (s t : TypeId) : CBox w.heap.size s a ((w.alloc (.cells a s)).alloc (.cells b t)) ∧ CBox (w.heap.size + 1) t b ((w.alloc (.cells a s)).alloc (.cells b t)) ∧ Below w.heap.size w ((w.alloc (.cells a s)).alloc (.cells b t)) := by
  have b1 := (Below.refl w.heap.size w).alloc (Nat.le_refl _) (.cells a s)
  have p1 := CBox.new w s a
  generalize hA : w.alloc (.cells a s) = A at *
  have sA : A.heap.size = w.heap.size + 1 := by rw [← hA]; simp
  have b2 := (Below.refl A.heap.size A).alloc (Nat.le_refl _) (.cells b t)
  have p2 := CBox.new A t b
  rw [sA] at p2
  exact ⟨p1.next b2, p2, b1.trans (b2.mono b1.size)⟩
theorem boxes_three (w : World) (a b c : Array Value) (s t u : TypeId) : CBox w.heap.size s a (((w.alloc (.cells a s)).alloc (.cells b t)).alloc (.cells c u)) ∧ CBox (w.heap.size + 1) t b (((w.alloc (.cells a s)).alloc (.cells b t)).alloc (.cells c u)) ∧
    CBox (w.heap.size + 1 + 1) u c (((w.alloc (.cells a s)).alloc (.cells b t)).alloc (.cells c u)) ∧ Below w.heap.size w (((w.alloc (.cells a s)).alloc (.cells b t)).alloc (.cells c u)) := by
  obtain ⟨p1, p2, b1⟩ := boxes_two w a b s t
  generalize hA : (w.alloc (.cells a s)).alloc (.cells b t) = A at *
  have sA : A.heap.size = w.heap.size + 1 + 1 := by rw [← hA]; simp
  have b2 := (Below.refl A.heap.size A).alloc (Nat.le_refl _) (.cells c u)
  have p3 := CBox.new A u c
  rw [sA] at p3
  exact ⟨p1.next b2, p2.next b2, p3, b1.trans (b2.mono b1.size)⟩

/-- A curve's cells. -/
def Crv.arr (c : Crv) : Array Value := #[.int .i64 c.px, .int .i64 c.py, .int .i64 c.qx, .int .i64 c.qy, .int .i64 c.rx, .int .i64 c.ry, .int .i64 c.sx, .int .i64 c.sy]
def Crv.val (c : Crv) : Value := .agg c.arr
end Go.Proofs.Ytgkjbmejfcijkaa
namespace Go.Proofs.Ytgkjbmejfcijkaa

/-- The pieces of a curve that may be cut n times more. -/
def pieces12 : Nat → Crv → List Crv
  | 0, c => [c]
  | n + 1, c => if c.flat then [c] else pieces12 n c.cutA ++ pieces12 n c.cutB
theorem pieces12_flat {c : Crv} (h : c.flat) (n : Nat) : pieces12 n c = [c] := by
  cases n with
  | zero => rfl
  | succ n => unfold pieces12; rw [if_pos h]
theorem pieces12_cut {c : Crv} (h : ¬ c.flat) (n : Nat) : pieces12 (n + 1) c = pieces12 n c.cutA ++ pieces12 n c.cutB := by
  rw [pieces12, if_neg h]
theorem pieces12_pos : ∀ (n : Nat) (c : Crv), 1 ≤ (pieces12 n c).length
  | 0, c => by simp [pieces12]
  | n + 1, c => by
    unfold pieces12
    split
    · simp
    · have := pieces12_pos n c.cutA
      simp only [List.length_append]; omega
theorem pieces12_le : ∀ (n : Nat) (c : Crv), (pieces12 n c).length ≤ 2 ^ n
  | 0, c => by simp [pieces12]
  | n + 1, c => by
    unfold pieces12
    split
    · have := Nat.two_pow_pos (n + 1); simp only [List.length_cons, List.length_nil]; omega
    · have h1 := pieces12_le n c.cutA
      have h2 := pieces12_le n c.cutB
      simp only [List.length_append, Nat.pow_succ]; omega
/-- What holds of a curve and of both that it is cut into holds of its pieces. -/
theorem pieces12_all {p : Crv → Prop} (ha : ∀ c, p c → p c.cutA) (hb : ∀ c, p c → p c.cutB) : ∀ (n : Nat) (c : Crv), p c → ∀ x ∈ pieces12 n c, p x
  | 0, c, h, x, hx => by
    simp only [pieces12, List.mem_singleton] at hx; subst hx; exact h
  | n + 1, c, h, x, hx => by
    unfold pieces12 at hx
    split at hx
    · simp only [List.mem_singleton] at hx; subst hx; exact h
    · rcases List.mem_append.1 hx with hx | hx
      · exact pieces12_all ha hb n _ (ha c h) x hx
      · exact pieces12_all ha hb n _ (hb c h) x hx
theorem pieces12_right (n : Nat) {c : Crv} (h : c.right) : ∀ x ∈ pieces12 n c, x.right := pieces12_all (fun _ h => right_cutA h) (fun _ h => right_cutB h) n c h

/-- From one point through these curves to the other one. -/
def chain (p : Int × Int) : List Crv → Int × Int → Prop
  | [], q => p = q
  | c :: l, q => (c.px, c.py) = p ∧ chain (c.sx, c.sy) l q
theorem chain_append : ∀ (l m : List Crv) (p q r : Int × Int), chain p l q → chain q m r → chain p (l ++ m) r
  | [], m, p, q, r, h, k => by
    have e : p = q := h
    rw [e]; exact k
  | c :: l, m, p, q, r, h, k => ⟨h.1, chain_append l m _ _ _ h.2 k⟩
theorem pieces12_chain : ∀ (n : Nat) (c : Crv), chain (c.px, c.py) (pieces12 n c) (c.sx, c.sy)
  | 0, c => ⟨rfl, rfl⟩
  | n + 1, c => by
    unfold pieces12
    split
    · exact ⟨rfl, rfl⟩
    · exact chain_append _ _ _ _ _ (pieces12_chain n c.cutA) (pieces12_chain n c.cutB)

/-- How far four numbers in a row bend. -/
def bd4 (D a b c d : Int) : Prop := (-D ≤ a - 2 * b + c ∧ a - 2 * b + c ≤ D) ∧ (-D ≤ b - 2 * c + d ∧ b - 2 * c + d ≤ D)
def Crv.bd (c : Crv) (D : Int) : Prop := bd4 D c.px c.qx c.rx c.sx ∧ bd4 D c.py c.qy c.ry c.sy
theorem bd4_cutA {D a b c d : Int} (h : bd4 D a b c d) : bd4 (D / 4 + 4) a (mid a b) (m3 a b c) (m4 a b c d) := by
  unfold bd4 m4 m3 at *
  simp only [mid_eq] at *
  omega
theorem bd4_cutB {D a b c d : Int} (h : bd4 D a b c d) : bd4 (D / 4 + 4) (m4 a b c d) (m3 b c d) (mid c d) d := by
  unfold bd4 m4 m3 at *
  simp only [mid_eq] at *
  omega
theorem bd_cutA {c : Crv} {D : Int} (h : c.bd D) : c.cutA.bd (D / 4 + 4) := ⟨bd4_cutA h.1, bd4_cutA h.2⟩
theorem bd_cutB {c : Crv} {D : Int} (h : c.bd D) : c.cutB.bd (D / 4 + 4) := ⟨bd4_cutB h.1, bd4_cutB h.2⟩
theorem bd_flat {c : Crv} {D : Int} (h : c.bd D) (hD : D ≤ 512) : c.flat := by
  obtain ⟨⟨h1, h2⟩, h3, h4⟩ := h
  unfold Crv.flat bentF
  omega
def bdN : Nat → Int → Int
  | 0, D => D
  | n + 1, D => bdN n (D / 4 + 4)
theorem pieces12_allflat : ∀ (n : Nat) (D : Int) (c : Crv), bdN n D ≤ 512 → c.bd D → ∀ x ∈ pieces12 n c, x.flat
  | 0, D, c, hD, h, x, hx => by
    simp only [pieces12, List.mem_singleton] at hx; subst hx; exact bd_flat h hD
  | n + 1, D, c, hD, h, x, hx => by
    unfold pieces12 at hx
    split at hx
    · rename_i hf
      simp only [List.mem_singleton] at hx; subst hx; exact hf
    · rcases List.mem_append.1 hx with hx | hx
      · exact pieces12_allflat n _ _ hD (bd_cutA h) x hx
      · exact pieces12_allflat n _ _ hD (bd_cutB h) x hx
theorem bdN_33 : bdN 20 34359738368 ≤ 512 := by decide
/-- All eight numbers within B, either way. -/
def Crv.inB (c : Crv) (B : Int) : Prop := ((-B ≤ c.px ∧ c.px ≤ B) ∧ (-B ≤ c.py ∧ c.py ≤ B)) ∧ ((-B ≤ c.qx ∧ c.qx ≤ B) ∧ (-B ≤ c.qy ∧ c.qy ≤ B)) ∧ ((-B ≤ c.rx ∧ c.rx ≤ B) ∧ (-B ≤ c.ry ∧ c.ry ≤ B)) ∧ ((-B ≤ c.sx ∧ c.sx ≤ B) ∧ (-B ≤ c.sy ∧ c.sy ≤ B))
theorem inB_cutA {c : Crv} {B : Int} (h : c.inB B) : c.cutA.inB B := by
  obtain ⟨⟨a, b⟩, ⟨d, e⟩, ⟨f, g⟩, ⟨i, j⟩⟩ := h
  exact ⟨⟨a, b⟩, ⟨mid_in a d, mid_in b e⟩, ⟨m3_in a d f, m3_in b e g⟩, ⟨m4_in a d f i, m4_in b e g j⟩⟩
theorem inB_cutB {c : Crv} {B : Int} (h : c.inB B) : c.cutB.inB B := by
  obtain ⟨⟨a, b⟩, ⟨d, e⟩, ⟨f, g⟩, ⟨i, j⟩⟩ := h
  exact ⟨⟨m4_in a d f i, m4_in b e g j⟩, ⟨m3_in d f i, m3_in e g j⟩, ⟨mid_in f i, mid_in g j⟩, ⟨i, j⟩⟩
theorem inB_right {c : Crv} {B : Int} (h : c.inB B) (hB : B ≤ 1099511627776) : c.right := by
  obtain ⟨⟨a, b⟩, ⟨d, e⟩, ⟨f, g⟩, ⟨i, j⟩⟩ := h
  unfold Crv.right In40
  omega
theorem inB_bd {c : Crv} {B : Int} (h : c.inB B) : c.bd (4 * B) := by
  obtain ⟨⟨a, b⟩, ⟨d, e⟩, ⟨f, g⟩, ⟨i, j⟩⟩ := h
  unfold Crv.bd bd4
  omega
/-- P12.3: a curve of a picture has flat pieces. -/
theorem pieces12_inB {c : Crv} (h : c.inB 8589934592) : ∀ x ∈ pieces12 20 c, x.flat := pieces12_allflat 20 34359738368 c bdN_33 (inB_bd h)
theorem bd_mono {c : Crv} {D E : Int} (h : c.bd D) (hD : D ≤ E) : c.bd E := by
  obtain ⟨⟨h1, h2⟩, h3, h4⟩ := h
  unfold Crv.bd bd4
  omega

/-- The box of four numbers' points. -/
def Crv.box (c : Crv) (l h lo hi : Int) : Prop := ((l ≤ c.px ∧ c.px ≤ h) ∧ (lo ≤ c.py ∧ c.py ≤ hi)) ∧ ((l ≤ c.qx ∧ c.qx ≤ h) ∧ (lo ≤ c.qy ∧ c.qy ≤ hi)) ∧ ((l ≤ c.rx ∧ c.rx ≤ h) ∧ (lo ≤ c.ry ∧ c.ry ≤ hi)) ∧ ((l ≤ c.sx ∧ c.sx ≤ h) ∧ (lo ≤ c.sy ∧ c.sy ≤ hi))
theorem box_cutA {c : Crv} {l h lo hi : Int} (k : c.box l h lo hi) : c.cutA.box l h lo hi := by
  obtain ⟨⟨a, b⟩, ⟨d, e⟩, ⟨f, g⟩, ⟨i, j⟩⟩ := k
  exact ⟨⟨a, b⟩, ⟨mid_in a d, mid_in b e⟩, ⟨m3_in a d f, m3_in b e g⟩, ⟨m4_in a d f i, m4_in b e g j⟩⟩
theorem box_cutB {c : Crv} {l h lo hi : Int} (k : c.box l h lo hi) : c.cutB.box l h lo hi := by
  obtain ⟨⟨a, b⟩, ⟨d, e⟩, ⟨f, g⟩, ⟨i, j⟩⟩ := k
  exact ⟨⟨m4_in a d f i, m4_in b e g j⟩, ⟨m3_in d f i, m3_in e g j⟩, ⟨mid_in f i, mid_in g j⟩, ⟨i, j⟩⟩
theorem pieces12_box (n : Nat) {c : Crv} {l h lo hi : Int} (k : c.box l h lo hi) : ∀ x ∈ pieces12 n c, x.box l h lo hi := pieces12_all (p := fun x => x.box l h lo hi) (fun _ j => box_cutA j) (fun _ j => box_cutB j) n c k

/-- The document's pieces, up to so many: cut by cut. -/
theorem take_pieces {c : Crv} (h : ¬ c.flat) (n m : Nat) : ((pieces12 n c.cutA).take m) ++ (pieces12 n c.cutB).take (m - ((pieces12 n c.cutA).take m).length) = (pieces12 (n + 1) c).take m := by
  rw [pieces12_cut h, List.take_append, List.length_take]
  congr 2
  omega
end Go.Proofs.Ytgkjbmejfcijkaa
namespace Go.Proofs.Ytgkjbmejfcijkaa
open Go.RowKit Go.Shelf

theorem cell_alloc {W : World} {o : Obj} {n i : Nat} {v : Value} (h : W.cell? ⟨n, i, none⟩ = some v) : (W.alloc o).cell? ⟨n, i, none⟩ = some v :=
  (World.cell?_alloc_some W _ o (by rw [h]; rfl)).trans h
theorem cell_alloc_drew {W : World} {o : Obj} {n i : Nat} {v : Value} (h : W.cell? ⟨n, i, none⟩ = some v) : (W.alloc o).drew.cell? ⟨n, i, none⟩ = some v := cell_alloc h
theorem cell_far {W : World} {n q i o : Nat} {v u : Value} (h : W.cell? ⟨n, i, none⟩ = some v) (hn : n < q) : (W.setCell ⟨q, o, none⟩ u).cell? ⟨n, i, none⟩ = some v :=
  (World.cell?_setCell_far W ⟨q, o, none⟩ ⟨n, i, none⟩ u (by exact Nat.ne_of_gt hn)).trans h
end Go.Proofs.Ytgkjbmejfcijkaa
namespace Go.Proofs.Ytgkjbmejfcijkaa
open Go.ChangeShapes Go.WideShapes Go.ChangeAt Go.RowKit Go.Shelf Go.Joins Go.Deep

theorem i64_of_wf {a : Int} (h : (Lit.int .i64 a).wf = true) : I64 a := by
  unfold I64
  simpa [Lit.wf, IntKind.min, IntKind.max, IntKind.signed, IntKind.bits] using h
theorem num_cell {P : Program} {H : Type} {enc : TypeId × Value → H} {W : World} {base n : Nat} {t : TypeId} {v : Value} {y : DataW H × List MemPlace} (ht : P.underlying t = some (.int .i64)) (h : DataW.trod enc P W base (fun _ => true) true n t [v] = some y) :
    ∃ a : Int, v = .int .i64 a ∧ I64 a := by
  obtain ⟨a, ea, _, wa⟩ := DataW.trod_int ht h
  exact ⟨a, by simpa using ea, i64_of_wf wa⟩
theorem pt_of_trod {P : Program} {H : Type} {enc : TypeId × Value → H} {W : World} {base : Nat} {v : Value} {d : DataW H} {p : List MemPlace} {t : TypeId} {g0 g1 : Field} (hs : P.underlying t = some (.struct #[g0, g1])) (hone : oneCellFields P #[g0, g1] = true) (hC : P.cellsOf t = 2)
    (h0 : P.underlying g0.type = some (.int .i64)) (h1 : P.underlying g1.type = some (.int .i64)) (hok : Value.okWide P W .any base t v) (h : DataW.Trod enc P W 0 (fun _ => true) true t v d p) :
    ∃ x y : Int, v = .agg #[.int .i64 x, .int .i64 y] ∧ I64 x ∧ I64 y := by
  obtain ⟨v0, v1, y0, y1, n, rfl, _, _, f0, f1⟩ := open_agg2 hs hone hC hok h
  obtain ⟨x, rfl, hx⟩ := num_cell h0 f0
  obtain ⟨y, rfl, hy⟩ := num_cell h1 f1
  exact ⟨x, y, rfl, hx, hy⟩
end Go.Proofs.Ytgkjbmejfcijkaa
namespace Go.Proofs.Ytgkjbmejfcijkaa
open Go.ChangeShapes Go.WideShapes Go.ChangeAt Go.RowKit Go.Shelf Go.Joins Go.Deep

theorem trod_struct2 {P : Program} {H : Type} {enc : TypeId × Value → H} {w : World} {base : Nat} {spare : Nat → Bool} {held : Bool} {t : TypeId} {f0 f1 : Field} {fuel : Nat} {cs : List Value} {x : DataW H × List MemPlace} (ht : P.underlying t = some (.struct #[f0, f1])) (h : DataW.trod enc P w base spare held fuel t cs = some x) :
    ∃ y0 y1 n, DataW.trod enc P w base spare held n f0.type ((cs.drop f0.offset).take (P.cellsOf f0.type)) = some y0 ∧ DataW.trod enc P w base spare held n f1.type ((cs.drop f1.offset).take (P.cellsOf f1.type)) = some y1 := by
  cases fuel with
  | zero => simp [DataW.trod] at h
  | succ n =>
    unfold DataW.trod at h
    rw [ht] at h
    simp at h
    obtain ⟨_, h⟩ := h
    cases h0 : DataW.trod enc P w base spare held n f0.type ((cs.drop f0.offset).take (P.cellsOf f0.type)) with
    | none => simp [h0] at h
    | some y0 =>
    cases h1 : DataW.trod enc P w base spare held n f1.type ((cs.drop f1.offset).take (P.cellsOf f1.type)) with
    | none => simp [h0, h1] at h
    | some y1 => exact ⟨y0, y1, n, h0, h1⟩
theorem trod_struct4 {P : Program} {H : Type} {enc : TypeId × Value → H} {w : World} {base : Nat} {spare : Nat → Bool} {held : Bool} {t : TypeId} {f0 f1 f2 f3 : Field} {fuel : Nat} {cs : List Value} {x : DataW H × List MemPlace} (ht : P.underlying t = some (.struct #[f0, f1, f2, f3])) (h : DataW.trod enc P w base spare held fuel t cs = some x) :
    ∃ y0 y1 y2 y3 n, DataW.trod enc P w base spare held n f0.type ((cs.drop f0.offset).take (P.cellsOf f0.type)) = some y0 ∧ DataW.trod enc P w base spare held n f1.type ((cs.drop f1.offset).take (P.cellsOf f1.type)) = some y1 ∧ DataW.trod enc P w base spare held n f2.type ((cs.drop f2.offset).take (P.cellsOf f2.type)) = some y2 ∧ DataW.trod enc P w base spare held n f3.type ((cs.drop f3.offset).take (P.cellsOf f3.type)) = some y3 := by
  cases fuel with
  | zero => simp [DataW.trod] at h
  | succ n =>
    unfold DataW.trod at h
    rw [ht] at h
    simp at h
    obtain ⟨_, h⟩ := h
    cases h0 : DataW.trod enc P w base spare held n f0.type ((cs.drop f0.offset).take (P.cellsOf f0.type)) with
    | none => simp [h0] at h
    | some y0 =>
    cases h1 : DataW.trod enc P w base spare held n f1.type ((cs.drop f1.offset).take (P.cellsOf f1.type)) with
    | none => simp [h0, h1] at h
    | some y1 =>
    cases h2 : DataW.trod enc P w base spare held n f2.type ((cs.drop f2.offset).take (P.cellsOf f2.type)) with
    | none => simp [h0, h1, h2] at h
    | some y2 =>
    cases h3 : DataW.trod enc P w base spare held n f3.type ((cs.drop f3.offset).take (P.cellsOf f3.type)) with
    | none => simp [h0, h1, h2, h3] at h
    | some y3 => exact ⟨y0, y1, y2, y3, n, h0, h1, h2, h3⟩
theorem two_cells {P : Program} {H : Type} {enc : TypeId × Value → H} {W : World} {base n : Nat} {t : TypeId} {f0 f1 : Field} {v0 v1 : Value} {y : DataW H × List MemPlace} (hs : P.underlying t = some (.struct #[f0, f1])) (o0 : f0.offset = 0) (o1 : f1.offset = 1) (k0 : P.cellsOf f0.type = 1) (k1 : P.cellsOf f1.type = 1)
    (h0 : P.underlying f0.type = some (.int .i64)) (h1 : P.underlying f1.type = some (.int .i64)) (h : DataW.trod enc P W base (fun _ => true) true n t [v0, v1] = some y) :
    ∃ a b : Int, v0 = .int .i64 a ∧ v1 = .int .i64 b ∧ I64 a ∧ I64 b := by
  obtain ⟨y0, y1, m, e0, e1⟩ := trod_struct2 hs h
  obtain ⟨a, rfl, ha⟩ := num_cell h0 (by simpa [o0, k0] using e0)
  obtain ⟨b, rfl, hb⟩ := num_cell h1 (by simpa [o1, k1] using e1)
  exact ⟨a, b, rfl, rfl, ha, hb⟩
theorem list8 {α : Type} {l : List α} (h : l.length = 8) : ∃ a b c d e f g i, l = [a, b, c, d, e, f, g, i] := by
  match l, h with
  | [a, b, c, d, e, f, g, i], _ => exact ⟨a, b, c, d, e, f, g, i, rfl⟩
theorem crv_of_trod {P : Program} {H : Type} {enc : TypeId × Value → H} {W : World} {base : Nat} {v : Value} {d : DataW H} {p : List MemPlace} {t : TypeId} {g0 g1 g2 g3 f0 f1 : Field} (hs : P.underlying t = some (.struct #[g0, g1, g2, g3])) (hC : P.cellsOf t = 8)
    (q0 : g0.offset = 0) (q1 : g1.offset = 2) (q2 : g2.offset = 4) (q3 : g3.offset = 6) (hp : P.underlying g0.type = some (.struct #[f0, f1])) (hp2 : P.cellsOf g0.type = 2) (t1 : g1.type = g0.type) (t2 : g2.type = g0.type) (t3 : g3.type = g0.type)
    (o0 : f0.offset = 0) (o1 : f1.offset = 1) (k0 : P.cellsOf f0.type = 1) (k1 : P.cellsOf f1.type = 1) (h0 : P.underlying f0.type = some (.int .i64)) (h1 : P.underlying f1.type = some (.int .i64))
    (hok : Value.okWide P W .any base t v) (h : DataW.Trod enc P W 0 (fun _ => true) true t v d p) :
    ∃ c : Crv, v = c.val ∧ (I64 c.px ∧ I64 c.py) ∧ (I64 c.qx ∧ I64 c.qy) ∧ (I64 c.rx ∧ I64 c.ry) ∧ (I64 c.sx ∧ I64 c.sy) := by
  obtain ⟨cs, rfl, hsz⟩ := okWide_struct hs hok
  obtain ⟨c0, c1, c2, c3, c4, c5, c6, c7, hl⟩ := list8 (l := cs.toList) (by simpa using hsz.trans hC)
  obtain rfl : cs = #[c0, c1, c2, c3, c4, c5, c6, c7] := by rw [← Array.toList_inj]; exact hl
  obtain ⟨fuel, hf⟩ := h
  obtain ⟨y0, y1, y2, y3, n, e0, e1, e2, e3⟩ := trod_struct4 hs hf
  obtain ⟨a0, b0, rfl, rfl, ha0, hb0⟩ := two_cells (v0 := c0) (v1 := c1) hp o0 o1 k0 k1 h0 h1 (by simpa [Value.cells, q0, hp2] using e0)
  obtain ⟨a1, b1, rfl, rfl, ha1, hb1⟩ := two_cells (v0 := c2) (v1 := c3) hp o0 o1 k0 k1 h0 h1 (by simpa [Value.cells, q1, t1, hp2] using e1)
  obtain ⟨a2, b2, rfl, rfl, ha2, hb2⟩ := two_cells (v0 := c4) (v1 := c5) hp o0 o1 k0 k1 h0 h1 (by simpa [Value.cells, q2, t2, hp2] using e2)
  obtain ⟨a3, b3, rfl, rfl, ha3, hb3⟩ := two_cells (v0 := c6) (v1 := c7) hp o0 o1 k0 k1 h0 h1 (by simpa [Value.cells, q3, t3, hp2] using e3)
  exact ⟨⟨a0, b0, a1, b1, a2, b2, a3, b3⟩, rfl, ⟨ha0, hb0⟩, ⟨ha1, hb1⟩, ⟨ha2, hb2⟩, ha3, hb3⟩
end Go.Proofs.Ytgkjbmejfcijkaa
