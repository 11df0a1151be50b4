/-
  FlatBox, whatever tells the pieces, and counts them. (Typed by a program: wip/gen_box12.py.)
-/
import Derived.Test.YtgkjbmejfcijkaaFlatJoinsW
import Derived.Test.YtgkjbmejfcijkaaRegRound
import Derived.Lib.MinMax
namespace Go.Proofs.Ytgkjbmejfcijkaa
open Go.RowKit Go.Shelf
attribute [local go_sem] Oper.semAt_some

def mn4 (a b c d : Int) : Int := min a (min b (min c d))
def mx4 (a b c d : Int) : Int := max a (max b (max c d))
/-- Within the box of four numbers. -/
theorem box4 (a b c d : Int) : (mn4 a b c d ≤ a ∧ a ≤ mx4 a b c d) ∧ (mn4 a b c d ≤ b ∧ b ≤ mx4 a b c d) ∧ (mn4 a b c d ≤ c ∧ c ≤ mx4 a b c d) ∧ (mn4 a b c d ≤ d ∧ d ≤ mx4 a b c d) := by unfold mn4 mx4; omega
theorem run_min_ints4 {P : Program} (w : World) (ts : Array TypeId) (t : TypeId) (k : IntKind) (x y z u : Int) :
    (Builtin.min_ ts t #[.int k x, .int k y, .int k z, .int k u]).run P w = .ok (.int k (mn4 x y z u)) w := by
  have e : ∀ x y : Int, (if y < x then y else x) = min x y := fun x y => by rw [Int.min_def]; split <;> split <;> omega
  simp [Builtin.min_, Builtin.min2, e, mn4, Int.min_assoc]
theorem run_max_ints4 {P : Program} (w : World) (ts : Array TypeId) (t : TypeId) (k : IntKind) (x y z u : Int) :
    (Builtin.max_ ts t #[.int k x, .int k y, .int k z, .int k u]).run P w = .ok (.int k (mx4 x y z u)) w := by
  have e : ∀ x y : Int, (if y > x then y else x) = max x y := fun x y => by rw [Int.max_def]; split <;> split <;> omega
  simp [Builtin.max_, Builtin.max2, e, mx4, Int.max_assoc]
attribute [local go_sem] run_min_ints4 run_max_ints4
theorem onlyN_normal {Q : Exit → Act → World → Prop} (a : Act) (w : World) : onlyN Q .normal a w = Q .normal a w := rfl
/-- Two numbers' boxes that a region has made and written. -/
def Two12 (W wc : World) (p1 p2 : Value) (l h : Int) : Prop := ∃ q1 q2, p1 = .pointer (some ⟨q1, 0, none⟩) ∧ p2 = .pointer (some ⟨q2, 0, none⟩) ∧ CBox q1 2 #[.int .i64 l] wc ∧ CBox q2 2 #[.int .i64 h] wc ∧ Below W.heap.size W wc ∧ W.heap.size ≤ q1 ∧ W.heap.size ≤ q2
theorem ends_box {c : Crv} (n : Nat) : ∀ p ∈ (pieces12 n c).map endP, (mn4 c.px c.qx c.rx c.sx ≤ p.1 ∧ p.1 ≤ mx4 c.px c.qx c.rx c.sx) ∧ (mn4 c.py c.qy c.ry c.sy ≤ p.2 ∧ p.2 ≤ mx4 c.py c.qy c.ry c.sy) := by
  intro p hp
  obtain ⟨x, hx, rfl⟩ := List.mem_map.1 hp
  obtain ⟨a1, a2, a3, a4⟩ := box4 c.px c.qx c.rx c.sx
  obtain ⟨b1, b2, b3, b4⟩ := box4 c.py c.qy c.ry c.sy
  exact (pieces12_box n (c := c) ⟨⟨a1, b1⟩, ⟨a2, b2⟩, ⟨a3, b3⟩, ⟨a4, b4⟩⟩ x hx).2.2.2
theorem nil_neqP (gf : Nat) (lb : Array Value) (W : World) : Sem.run Try.prog (binOp BinOp.neq 32 (Value.func (.func gf) #[] lb) Value.nilFunc) W = .ok (.bool true) W := by kernel_rfl
def fbx5Op0 : Oper := { dst := some 15, op := Go.Op.fieldAddr 25 (Go.Operand.tmp 1) 0, type := 0, pos := "law.go:148", after := #[], guard := none }
def fbx5Op1 : Oper := { dst := some 16, op := Go.Op.fieldAddr 23 (Go.Operand.tmp 15) 0, type := 0, pos := "law.go:148", after := #[{ on := 0, ground := Go.Ground.data }], guard := none }
def fbx5Op2 : Oper := { dst := some 17, op := Go.Op.load 2 (Go.Operand.tmp 16), type := 2, pos := "law.go:148", after := #[{ on := 1, ground := Go.Ground.data }], guard := none }
def fbx5Op3 : Oper := { dst := some 18, op := Go.Op.fieldAddr 25 (Go.Operand.tmp 1) 1, type := 0, pos := "law.go:148", after := #[], guard := none }
def fbx5Op4 : Oper := { dst := some 19, op := Go.Op.fieldAddr 23 (Go.Operand.tmp 18) 0, type := 0, pos := "law.go:148", after := #[{ on := 3, ground := Go.Ground.data }], guard := none }
def fbx5Op5 : Oper := { dst := some 20, op := Go.Op.load 2 (Go.Operand.tmp 19), type := 2, pos := "law.go:148", after := #[{ on := 4, ground := Go.Ground.data }], guard := none }
def fbx5Op6 : Oper := { dst := some 21, op := Go.Op.fieldAddr 25 (Go.Operand.tmp 1) 2, type := 0, pos := "law.go:148", after := #[], guard := none }
def fbx5Op7 : Oper := { dst := some 22, op := Go.Op.fieldAddr 23 (Go.Operand.tmp 21) 0, type := 0, pos := "law.go:148", after := #[{ on := 6, ground := Go.Ground.data }], guard := none }
def fbx5Op8 : Oper := { dst := some 23, op := Go.Op.load 2 (Go.Operand.tmp 22), type := 2, pos := "law.go:148", after := #[{ on := 7, ground := Go.Ground.data }], guard := none }
def fbx5Op9 : Oper := { dst := some 24, op := Go.Op.fieldAddr 25 (Go.Operand.tmp 1) 3, type := 0, pos := "law.go:148", after := #[], guard := none }
def fbx5Op10 : Oper := { dst := some 25, op := Go.Op.fieldAddr 23 (Go.Operand.tmp 24) 0, type := 0, pos := "law.go:148", after := #[{ on := 9, ground := Go.Ground.data }], guard := none }
def fbx5Op11 : Oper := { dst := some 26, op := Go.Op.load 2 (Go.Operand.tmp 25), type := 2, pos := "law.go:148", after := #[{ on := 10, ground := Go.Ground.data }], guard := none }
def fbx5Op12 : Oper := { dst := some 27, op := Go.Op.call { callee := Go.Callee.builtin Go.Builtin.min, args := #[Go.Operand.tmp 17, Go.Operand.tmp 20, Go.Operand.tmp 23, Go.Operand.tmp 26], argTypes := #[2, 2, 2, 2] }, type := 2, pos := "law.go:148", after := #[{ on := 2, ground := Go.Ground.data }, { on := 5, ground := Go.Ground.data }, { on := 8, ground := Go.Ground.data }, { on := 11, ground := Go.Ground.data }], guard := none }
def fbx5Op13 : Oper := { dst := some 28, op := Go.Op.fieldAddr 25 (Go.Operand.tmp 1) 0, type := 0, pos := "law.go:148", after := #[], guard := none }
def fbx5Op14 : Oper := { dst := some 29, op := Go.Op.fieldAddr 23 (Go.Operand.tmp 28) 0, type := 0, pos := "law.go:148", after := #[{ on := 13, ground := Go.Ground.data }], guard := none }
def fbx5Op15 : Oper := { dst := some 30, op := Go.Op.load 2 (Go.Operand.tmp 29), type := 2, pos := "law.go:148", after := #[{ on := 14, ground := Go.Ground.data }], guard := none }
def fbx5Op16 : Oper := { dst := some 31, op := Go.Op.fieldAddr 25 (Go.Operand.tmp 1) 1, type := 0, pos := "law.go:148", after := #[], guard := none }
def fbx5Op17 : Oper := { dst := some 32, op := Go.Op.fieldAddr 23 (Go.Operand.tmp 31) 0, type := 0, pos := "law.go:148", after := #[{ on := 16, ground := Go.Ground.data }], guard := none }
def fbx5Op18 : Oper := { dst := some 33, op := Go.Op.load 2 (Go.Operand.tmp 32), type := 2, pos := "law.go:148", after := #[{ on := 17, ground := Go.Ground.data }], guard := none }
def fbx5Op19 : Oper := { dst := some 34, op := Go.Op.fieldAddr 25 (Go.Operand.tmp 1) 2, type := 0, pos := "law.go:148", after := #[], guard := none }
def fbx5Op20 : Oper := { dst := some 35, op := Go.Op.fieldAddr 23 (Go.Operand.tmp 34) 0, type := 0, pos := "law.go:148", after := #[{ on := 19, ground := Go.Ground.data }], guard := none }
def fbx5Op21 : Oper := { dst := some 36, op := Go.Op.load 2 (Go.Operand.tmp 35), type := 2, pos := "law.go:148", after := #[{ on := 20, ground := Go.Ground.data }], guard := none }
def fbx5Op22 : Oper := { dst := some 37, op := Go.Op.fieldAddr 25 (Go.Operand.tmp 1) 3, type := 0, pos := "law.go:148", after := #[], guard := none }
def fbx5Op23 : Oper := { dst := some 38, op := Go.Op.fieldAddr 23 (Go.Operand.tmp 37) 0, type := 0, pos := "law.go:148", after := #[{ on := 22, ground := Go.Ground.data }], guard := none }
def fbx5Op24 : Oper := { dst := some 39, op := Go.Op.load 2 (Go.Operand.tmp 38), type := 2, pos := "law.go:148", after := #[{ on := 23, ground := Go.Ground.data }], guard := none }
def fbx5Op25 : Oper := { dst := some 40, op := Go.Op.call { callee := Go.Callee.builtin Go.Builtin.max, args := #[Go.Operand.tmp 30, Go.Operand.tmp 33, Go.Operand.tmp 36, Go.Operand.tmp 39], argTypes := #[2, 2, 2, 2] }, type := 2, pos := "law.go:148", after := #[{ on := 15, ground := Go.Ground.data }, { on := 18, ground := Go.Ground.data }, { on := 21, ground := Go.Ground.data }, { on := 24, ground := Go.Ground.data }], guard := none }
def fbx5Op26 : Oper := { dst := some 3, op := Go.Op.alloc 2, type := 0, pos := "law.go:148", after := #[], guard := none }
def fbx5Op27 : Oper := { dst := some 4, op := Go.Op.alloc 2, type := 0, pos := "law.go:148", after := #[], guard := none }
def fbx5Op28 : Oper := { dst := none, op := Go.Op.store 2 (Go.Operand.tmp 3) (Go.Operand.tmp 27), type := 0, pos := "law.go:148", after := #[{ on := 26, ground := Go.Ground.data }, { on := 12, ground := Go.Ground.data }, { on := 0, ground := Go.Ground.phase }, { on := 1, ground := Go.Ground.phase }, { on := 2, ground := Go.Ground.phase }, { on := 3, ground := Go.Ground.phase }, { on := 4, ground := Go.Ground.phase }, { on := 5, ground := Go.Ground.phase }, { on := 6, ground := Go.Ground.phase }, { on := 7, ground := Go.Ground.phase }, { on := 8, ground := Go.Ground.phase }, { on := 9, ground := Go.Ground.phase }, { on := 10, ground := Go.Ground.phase }, { on := 11, ground := Go.Ground.phase }, { on := 12, ground := Go.Ground.phase }, { on := 13, ground := Go.Ground.textOnly Go.Departure.lateStores }, { on := 14, ground := Go.Ground.textOnly Go.Departure.lateStores }, { on := 15, ground := Go.Ground.textOnly Go.Departure.lateStores }, { on := 16, ground := Go.Ground.textOnly Go.Departure.lateStores }, { on := 17, ground := Go.Ground.textOnly Go.Departure.lateStores }, { on := 18, ground := Go.Ground.textOnly Go.Departure.lateStores }, { on := 19, ground := Go.Ground.textOnly Go.Departure.lateStores }, { on := 20, ground := Go.Ground.textOnly Go.Departure.lateStores }, { on := 21, ground := Go.Ground.textOnly Go.Departure.lateStores }, { on := 22, ground := Go.Ground.textOnly Go.Departure.lateStores }, { on := 23, ground := Go.Ground.textOnly Go.Departure.lateStores }, { on := 24, ground := Go.Ground.textOnly Go.Departure.lateStores }, { on := 25, ground := Go.Ground.textOnly Go.Departure.lateStoresUnsure }, { on := 26, ground := Go.Ground.phase }, { on := 27, ground := Go.Ground.phase }], guard := none }
def fbx5Op29 : Oper := { dst := none, op := Go.Op.store 2 (Go.Operand.tmp 4) (Go.Operand.tmp 40), type := 0, pos := "law.go:148", after := #[{ on := 27, ground := Go.Ground.data }, { on := 25, ground := Go.Ground.data }, { on := 28, ground := Go.Ground.chain }, { on := 0, ground := Go.Ground.phase }, { on := 1, ground := Go.Ground.phase }, { on := 2, ground := Go.Ground.phase }, { on := 3, ground := Go.Ground.phase }, { on := 4, ground := Go.Ground.phase }, { on := 5, ground := Go.Ground.phase }, { on := 6, ground := Go.Ground.phase }, { on := 7, ground := Go.Ground.phase }, { on := 8, ground := Go.Ground.phase }, { on := 9, ground := Go.Ground.phase }, { on := 10, ground := Go.Ground.phase }, { on := 11, ground := Go.Ground.phase }, { on := 12, ground := Go.Ground.phase }, { on := 13, ground := Go.Ground.phase }, { on := 14, ground := Go.Ground.phase }, { on := 15, ground := Go.Ground.phase }, { on := 16, ground := Go.Ground.phase }, { on := 17, ground := Go.Ground.phase }, { on := 18, ground := Go.Ground.phase }, { on := 19, ground := Go.Ground.phase }, { on := 20, ground := Go.Ground.phase }, { on := 21, ground := Go.Ground.phase }, { on := 22, ground := Go.Ground.phase }, { on := 23, ground := Go.Ground.phase }, { on := 24, ground := Go.Ground.phase }, { on := 25, ground := Go.Ground.phase }, { on := 26, ground := Go.Ground.phase }, { on := 27, ground := Go.Ground.phase }, { on := 28, ground := Go.Ground.phase }], guard := none }
def fbx6Op0 : Oper := { dst := some 41, op := Go.Op.fieldAddr 25 (Go.Operand.tmp 1) 0, type := 0, pos := "law.go:149", after := #[], guard := none }
def fbx6Op1 : Oper := { dst := some 42, op := Go.Op.fieldAddr 23 (Go.Operand.tmp 41) 1, type := 0, pos := "law.go:149", after := #[{ on := 0, ground := Go.Ground.data }], guard := none }
def fbx6Op2 : Oper := { dst := some 43, op := Go.Op.load 2 (Go.Operand.tmp 42), type := 2, pos := "law.go:149", after := #[{ on := 1, ground := Go.Ground.data }], guard := none }
def fbx6Op3 : Oper := { dst := some 44, op := Go.Op.fieldAddr 25 (Go.Operand.tmp 1) 1, type := 0, pos := "law.go:149", after := #[], guard := none }
def fbx6Op4 : Oper := { dst := some 45, op := Go.Op.fieldAddr 23 (Go.Operand.tmp 44) 1, type := 0, pos := "law.go:149", after := #[{ on := 3, ground := Go.Ground.data }], guard := none }
def fbx6Op5 : Oper := { dst := some 46, op := Go.Op.load 2 (Go.Operand.tmp 45), type := 2, pos := "law.go:149", after := #[{ on := 4, ground := Go.Ground.data }], guard := none }
def fbx6Op6 : Oper := { dst := some 47, op := Go.Op.fieldAddr 25 (Go.Operand.tmp 1) 2, type := 0, pos := "law.go:149", after := #[], guard := none }
def fbx6Op7 : Oper := { dst := some 48, op := Go.Op.fieldAddr 23 (Go.Operand.tmp 47) 1, type := 0, pos := "law.go:149", after := #[{ on := 6, ground := Go.Ground.data }], guard := none }
def fbx6Op8 : Oper := { dst := some 49, op := Go.Op.load 2 (Go.Operand.tmp 48), type := 2, pos := "law.go:149", after := #[{ on := 7, ground := Go.Ground.data }], guard := none }
def fbx6Op9 : Oper := { dst := some 50, op := Go.Op.fieldAddr 25 (Go.Operand.tmp 1) 3, type := 0, pos := "law.go:149", after := #[], guard := none }
def fbx6Op10 : Oper := { dst := some 51, op := Go.Op.fieldAddr 23 (Go.Operand.tmp 50) 1, type := 0, pos := "law.go:149", after := #[{ on := 9, ground := Go.Ground.data }], guard := none }
def fbx6Op11 : Oper := { dst := some 52, op := Go.Op.load 2 (Go.Operand.tmp 51), type := 2, pos := "law.go:149", after := #[{ on := 10, ground := Go.Ground.data }], guard := none }
def fbx6Op12 : Oper := { dst := some 53, op := Go.Op.call { callee := Go.Callee.builtin Go.Builtin.min, args := #[Go.Operand.tmp 43, Go.Operand.tmp 46, Go.Operand.tmp 49, Go.Operand.tmp 52], argTypes := #[2, 2, 2, 2] }, type := 2, pos := "law.go:149", after := #[{ on := 2, ground := Go.Ground.data }, { on := 5, ground := Go.Ground.data }, { on := 8, ground := Go.Ground.data }, { on := 11, ground := Go.Ground.data }], guard := none }
def fbx6Op13 : Oper := { dst := some 54, op := Go.Op.fieldAddr 25 (Go.Operand.tmp 1) 0, type := 0, pos := "law.go:149", after := #[], guard := none }
def fbx6Op14 : Oper := { dst := some 55, op := Go.Op.fieldAddr 23 (Go.Operand.tmp 54) 1, type := 0, pos := "law.go:149", after := #[{ on := 13, ground := Go.Ground.data }], guard := none }
def fbx6Op15 : Oper := { dst := some 56, op := Go.Op.load 2 (Go.Operand.tmp 55), type := 2, pos := "law.go:149", after := #[{ on := 14, ground := Go.Ground.data }], guard := none }
def fbx6Op16 : Oper := { dst := some 57, op := Go.Op.fieldAddr 25 (Go.Operand.tmp 1) 1, type := 0, pos := "law.go:149", after := #[], guard := none }
def fbx6Op17 : Oper := { dst := some 58, op := Go.Op.fieldAddr 23 (Go.Operand.tmp 57) 1, type := 0, pos := "law.go:149", after := #[{ on := 16, ground := Go.Ground.data }], guard := none }
def fbx6Op18 : Oper := { dst := some 59, op := Go.Op.load 2 (Go.Operand.tmp 58), type := 2, pos := "law.go:149", after := #[{ on := 17, ground := Go.Ground.data }], guard := none }
def fbx6Op19 : Oper := { dst := some 60, op := Go.Op.fieldAddr 25 (Go.Operand.tmp 1) 2, type := 0, pos := "law.go:149", after := #[], guard := none }
def fbx6Op20 : Oper := { dst := some 61, op := Go.Op.fieldAddr 23 (Go.Operand.tmp 60) 1, type := 0, pos := "law.go:149", after := #[{ on := 19, ground := Go.Ground.data }], guard := none }
def fbx6Op21 : Oper := { dst := some 62, op := Go.Op.load 2 (Go.Operand.tmp 61), type := 2, pos := "law.go:149", after := #[{ on := 20, ground := Go.Ground.data }], guard := none }
def fbx6Op22 : Oper := { dst := some 63, op := Go.Op.fieldAddr 25 (Go.Operand.tmp 1) 3, type := 0, pos := "law.go:149", after := #[], guard := none }
def fbx6Op23 : Oper := { dst := some 64, op := Go.Op.fieldAddr 23 (Go.Operand.tmp 63) 1, type := 0, pos := "law.go:149", after := #[{ on := 22, ground := Go.Ground.data }], guard := none }
def fbx6Op24 : Oper := { dst := some 65, op := Go.Op.load 2 (Go.Operand.tmp 64), type := 2, pos := "law.go:149", after := #[{ on := 23, ground := Go.Ground.data }], guard := none }
def fbx6Op25 : Oper := { dst := some 66, op := Go.Op.call { callee := Go.Callee.builtin Go.Builtin.max, args := #[Go.Operand.tmp 56, Go.Operand.tmp 59, Go.Operand.tmp 62, Go.Operand.tmp 65], argTypes := #[2, 2, 2, 2] }, type := 2, pos := "law.go:149", after := #[{ on := 15, ground := Go.Ground.data }, { on := 18, ground := Go.Ground.data }, { on := 21, ground := Go.Ground.data }, { on := 24, ground := Go.Ground.data }], guard := none }
def fbx6Op26 : Oper := { dst := some 5, op := Go.Op.alloc 2, type := 0, pos := "law.go:149", after := #[], guard := none }
def fbx6Op27 : Oper := { dst := some 6, op := Go.Op.alloc 2, type := 0, pos := "law.go:149", after := #[], guard := none }
def fbx6Op28 : Oper := { dst := none, op := Go.Op.store 2 (Go.Operand.tmp 5) (Go.Operand.tmp 53), type := 0, pos := "law.go:149", after := #[{ on := 26, ground := Go.Ground.data }, { on := 12, ground := Go.Ground.data }, { on := 0, ground := Go.Ground.phase }, { on := 1, ground := Go.Ground.phase }, { on := 2, ground := Go.Ground.phase }, { on := 3, ground := Go.Ground.phase }, { on := 4, ground := Go.Ground.phase }, { on := 5, ground := Go.Ground.phase }, { on := 6, ground := Go.Ground.phase }, { on := 7, ground := Go.Ground.phase }, { on := 8, ground := Go.Ground.phase }, { on := 9, ground := Go.Ground.phase }, { on := 10, ground := Go.Ground.phase }, { on := 11, ground := Go.Ground.phase }, { on := 12, ground := Go.Ground.phase }, { on := 13, ground := Go.Ground.textOnly Go.Departure.lateStores }, { on := 14, ground := Go.Ground.textOnly Go.Departure.lateStores }, { on := 15, ground := Go.Ground.textOnly Go.Departure.lateStores }, { on := 16, ground := Go.Ground.textOnly Go.Departure.lateStores }, { on := 17, ground := Go.Ground.textOnly Go.Departure.lateStores }, { on := 18, ground := Go.Ground.textOnly Go.Departure.lateStores }, { on := 19, ground := Go.Ground.textOnly Go.Departure.lateStores }, { on := 20, ground := Go.Ground.textOnly Go.Departure.lateStores }, { on := 21, ground := Go.Ground.textOnly Go.Departure.lateStores }, { on := 22, ground := Go.Ground.textOnly Go.Departure.lateStores }, { on := 23, ground := Go.Ground.textOnly Go.Departure.lateStores }, { on := 24, ground := Go.Ground.textOnly Go.Departure.lateStores }, { on := 25, ground := Go.Ground.textOnly Go.Departure.lateStoresUnsure }, { on := 26, ground := Go.Ground.phase }, { on := 27, ground := Go.Ground.phase }], guard := none }
def fbx6Op29 : Oper := { dst := none, op := Go.Op.store 2 (Go.Operand.tmp 6) (Go.Operand.tmp 66), type := 0, pos := "law.go:149", after := #[{ on := 27, ground := Go.Ground.data }, { on := 25, ground := Go.Ground.data }, { on := 28, ground := Go.Ground.chain }, { on := 0, ground := Go.Ground.phase }, { on := 1, ground := Go.Ground.phase }, { on := 2, ground := Go.Ground.phase }, { on := 3, ground := Go.Ground.phase }, { on := 4, ground := Go.Ground.phase }, { on := 5, ground := Go.Ground.phase }, { on := 6, ground := Go.Ground.phase }, { on := 7, ground := Go.Ground.phase }, { on := 8, ground := Go.Ground.phase }, { on := 9, ground := Go.Ground.phase }, { on := 10, ground := Go.Ground.phase }, { on := 11, ground := Go.Ground.phase }, { on := 12, ground := Go.Ground.phase }, { on := 13, ground := Go.Ground.phase }, { on := 14, ground := Go.Ground.phase }, { on := 15, ground := Go.Ground.phase }, { on := 16, ground := Go.Ground.phase }, { on := 17, ground := Go.Ground.phase }, { on := 18, ground := Go.Ground.phase }, { on := 19, ground := Go.Ground.phase }, { on := 20, ground := Go.Ground.phase }, { on := 21, ground := Go.Ground.phase }, { on := 22, ground := Go.Ground.phase }, { on := 23, ground := Go.Ground.phase }, { on := 24, ground := Go.Ground.phase }, { on := 25, ground := Go.Ground.phase }, { on := 26, ground := Go.Ground.phase }, { on := 27, ground := Go.Ground.phase }, { on := 28, ground := Go.Ground.phase }], guard := none }
theorem fbx5S {W : World} {nC : Nat} {tC : TypeId} {c0 c1 c2 c3 c4 c5 c6 c7 : Value} (hC : CBox nC tC #[c0, c1, c2, c3, c4, c5, c6, c7] W) : W.cell? ⟨nC, 0, none⟩ = some c0 ∧ W.cell? ⟨nC, 1, none⟩ = some c1 ∧ W.cell? ⟨nC, 2, none⟩ = some c2 ∧ W.cell? ⟨nC, 3, none⟩ = some c3 ∧ W.cell? ⟨nC, 4, none⟩ = some c4 ∧ W.cell? ⟨nC, 5, none⟩ = some c5 ∧ W.cell? ⟨nC, 6, none⟩ = some c6 ∧ W.cell? ⟨nC, 7, none⟩ = some c7 := ⟨hC.c 0 rfl, hC.c 1 rfl, hC.c 2 rfl, hC.c 3 rfl, hC.c 4 rfl, hC.c 5 rfl, hC.c 6 rfl, hC.c 7 rfl⟩
theorem fbx6S {W : World} {nC : Nat} {tC : TypeId} {c0 c1 c2 c3 c4 c5 c6 c7 : Value} (hC : CBox nC tC #[c0, c1, c2, c3, c4, c5, c6, c7] W) : W.cell? ⟨nC, 0, none⟩ = some c0 ∧ W.cell? ⟨nC, 1, none⟩ = some c1 ∧ W.cell? ⟨nC, 2, none⟩ = some c2 ∧ W.cell? ⟨nC, 3, none⟩ = some c3 ∧ W.cell? ⟨nC, 4, none⟩ = some c4 ∧ W.cell? ⟨nC, 5, none⟩ = some c5 ∧ W.cell? ⟨nC, 6, none⟩ = some c6 ∧ W.cell? ⟨nC, 7, none⟩ = some c7 := ⟨hC.c 0 rfl, hC.c 1 rfl, hC.c 2 rfl, hC.c 3 rfl, hC.c 4 rfl, hC.c 5 rfl, hC.c 6 rfl, hC.c 7 rfl⟩
set_option maxHeartbeats 8000000 in
set_option maxRecDepth 100000 in
theorem box12_walk (PI : PiecesOk) (CO : CountOk) (c : Crv) (w : World) : Calls Try.prog 7 #[c.val] w fun e w' => e = .returned (.bool true) ∧ Below w.heap.size w w' := by
  refine (callsIn_wide (n := 6)).1 ?_
  have K := Lib.hid (fun w => wakes12 PI CO w)
  have RR := Lib.hid (fun w => rright11 c w)
  by_cases hr : c.right
  · rw [decide_eq_true hr] at RR
    have PC := Lib.hid (fun w => points_any PI c w hr)
    have hin := ends_box (c := c) 20
    have hpos := pieces12_pos 20 c
    have hpos2 : 1 ≤ ((pieces12 20 c).map endP).length := by rw [List.length_map]; exact hpos
    clear hpos
    generalize (pieces12 20 c).map endP = RES at *
    clear hr PI CO
    obtain ⟨px, py, qx, qy, rx, ry, sx, sy⟩ := c
    unfold Crv.val Crv.arr at *
    dsimp only at *
    obtain ⟨l, hl⟩ : ∃ z, z = mn4 px qx rx sx := ⟨_, rfl⟩
    rw [← hl] at hin
    obtain ⟨h, hh⟩ : ∃ z, z = mx4 px qx rx sx := ⟨_, rfl⟩
    rw [← hh] at hin
    obtain ⟨lo, hlo⟩ : ∃ z, z = mn4 py qy ry sy := ⟨_, rfl⟩
    rw [← hlo] at hin
    obtain ⟨hi, hhi⟩ : ∃ z, z = mx4 py qy ry sy := ⟨_, rfl⟩
    rw [← hhi] at hin
    replace hl := hl.symm; replace hh := hh.symm; replace hlo := hlo.symm; replace hhi := hhi.symm
    obtain ⟨k1, k2, k3⟩ := boxes_two w #[.int .i64 px, .int .i64 py, .int .i64 qx, .int .i64 qy, .int .i64 rx, .int .i64 ry, .int .i64 sx, .int .i64 sy] #[.bool false] 25 4
    have HC0 := Lib.hid k1; have HZ0 := Lib.hid k2; have HB0 := Lib.hid k3
    clear k1 k2 k3
    refine callsIn_of_wp_marks Try.func7 rfl trivial ?_ rfl
    simp only [Try.ntmps7, List.size_toArray, List.length_cons, List.length_nil, Nat.reduceAdd, Nat.reduceSub, Array.replicate_succ, Array.replicate_zero, List.push_toArray, List.append_toArray, List.nil_append, List.cons_append]
    refine wpIn_wide.2 ?_
    go_upto_region 1 with fail
    generalize ((w.alloc (.cells #[.int .i64 px, .int .i64 py, .int .i64 qx, .int .i64 qy, .int .i64 rx, .int .i64 ry, .int .i64 sx, .int .i64 sy] 25)).alloc (.cells #[.bool false] 4)) = w1 at *
    go_wp2_with fail
    refine (K.out _).mono ?_
    rintro e w2 ⟨rfl, b1⟩
    have HZ1 := Lib.hid (HZ0.out.next b1)
    have HB1 := Lib.hid (HB0.out.trans (b1.mono HB0.out.size))
    have HC1 := Lib.hid (HC0.out.next b1)
    clear b1
    go_upto_region 3 with fail
    have xC0 : w2.cell? ⟨w.heap.size, 0, none⟩ = some (.int .i64 px) := HC1.out.c 0 rfl
    have xC1 : w2.cell? ⟨w.heap.size, 1, none⟩ = some (.int .i64 py) := HC1.out.c 1 rfl
    have xC2 : w2.cell? ⟨w.heap.size, 2, none⟩ = some (.int .i64 qx) := HC1.out.c 2 rfl
    have xC3 : w2.cell? ⟨w.heap.size, 3, none⟩ = some (.int .i64 qy) := HC1.out.c 3 rfl
    have xC4 : w2.cell? ⟨w.heap.size, 4, none⟩ = some (.int .i64 rx) := HC1.out.c 4 rfl
    have xC5 : w2.cell? ⟨w.heap.size, 5, none⟩ = some (.int .i64 ry) := HC1.out.c 5 rfl
    have xC6 : w2.cell? ⟨w.heap.size, 6, none⟩ = some (.int .i64 sx) := HC1.out.c 6 rfl
    have xC7 : w2.cell? ⟨w.heap.size, 7, none⟩ = some (.int .i64 sy) := HC1.out.c 7 rfl
    go_wp2_with fail
    refine (RR.out _).mono ?_
    rintro e w3 ⟨rfl, b2⟩
    clear xC0 xC1 xC2 xC3 xC4 xC5 xC6 xC7
    have HZ2 := Lib.hid (HZ1.out.next b2)
    have HB2 := Lib.hid (HB1.out.trans (b2.mono HB1.out.size))
    have HC2 := Lib.hid (HC1.out.next b2)
    clear b2
    go_upto_region 5 with fail
    go_cut [3, 4] from 15 to 40 (fun s1 s2 wc => Two12 w3 wc s1 s2 l h)
    case first =>
      refine (wpIn_wide (n := 6)).1 (wpIn_normal (wpIn_wide.2 ?_))
      have Hl := Lib.hid hl; have Hh := Lib.hid hh
      have hs_ := fbx5S HC2.out
      refine wp_region_held_drew (S := (fun w' => w'.cell? ⟨w.heap.size, 0, none⟩ = some (.int .i64 px) ∧ w'.cell? ⟨w.heap.size, 1, none⟩ = some (.int .i64 py) ∧ w'.cell? ⟨w.heap.size, 2, none⟩ = some (.int .i64 qx) ∧ w'.cell? ⟨w.heap.size, 3, none⟩ = some (.int .i64 qy) ∧ w'.cell? ⟨w.heap.size, 4, none⟩ = some (.int .i64 rx) ∧ w'.cell? ⟨w.heap.size, 5, none⟩ = some (.int .i64 ry) ∧ w'.cell? ⟨w.heap.size, 6, none⟩ = some (.int .i64 sx) ∧ w'.cell? ⟨w.heap.size, 7, none⟩ = some (.int .i64 sy))) (by kernel_rfl) ?_ (fun hHeld => ?_)
      · (try dsimp only); first | exact hs_ | (simp [go_sem, *]; done)
      clear hs_
      have HBk1 : Hid (Below w3.heap.size w3 w3.drew) := Lib.hid (Below.refl w3.heap.size w3).drew
      have HCk1 : Hid (CBox (w.heap.size) 25 #[.int .i64 px, .int .i64 py, .int .i64 qx, .int .i64 qy, .int .i64 rx, .int .i64 ry, .int .i64 sx, .int .i64 sy] w3.drew) := Lib.hid HC2.out
      generalize w3.drew = dk1 at *
      have hs_ := fbx5S HCk1.out
      refine wpAnyH_take (i := 0) (oi := fbx5Op0) (v := ?_) rfl (by kernel_rfl) (by kernel_rfl) (by kernel_rfl) (fun _ _ _ h => h) (Or.inl ⟨by rfl, ?_⟩) (by assumption) ?_
      rotate_left
      · ((try unfold fbx5Op0); intro w hSw; (try dsimp only at hSw); go_simp; (first | done | with_reducible rfl))
      (try unfold fbx5Op0)
      (try simp only [Act.put, List.setIfInBounds_toArray, List.set_cons_zero, List.set_cons_succ])
      refine wpAnyH_take (i := 1) (oi := fbx5Op1) (v := ?_) rfl (by kernel_rfl) (by kernel_rfl) (by kernel_rfl) (fun _ _ _ h => h) (Or.inl ⟨by rfl, ?_⟩) (by assumption) ?_
      rotate_left
      · ((try unfold fbx5Op1); intro w hSw; (try dsimp only at hSw); go_simp; (first | done | with_reducible rfl))
      (try unfold fbx5Op1)
      (try simp only [Act.put, List.setIfInBounds_toArray, List.set_cons_zero, List.set_cons_succ])
      refine wpAnyH_take (i := 2) (oi := fbx5Op2) (v := ?_) rfl (by kernel_rfl) (by kernel_rfl) (by kernel_rfl) (fun _ _ _ h => h) (Or.inl ⟨by rfl, ?_⟩) (by assumption) ?_
      rotate_left
      · ((try unfold fbx5Op2); intro w hSw; (try dsimp only at hSw); go_simp; (first | done | with_reducible rfl))
      (try unfold fbx5Op2)
      (try simp only [Act.put, List.setIfInBounds_toArray, List.set_cons_zero, List.set_cons_succ])
      refine wpAnyH_take (i := 3) (oi := fbx5Op3) (v := ?_) rfl (by kernel_rfl) (by kernel_rfl) (by kernel_rfl) (fun _ _ _ h => h) (Or.inl ⟨by rfl, ?_⟩) (by assumption) ?_
      rotate_left
      · ((try unfold fbx5Op3); intro w hSw; (try dsimp only at hSw); go_simp; (first | done | with_reducible rfl))
      (try unfold fbx5Op3)
      (try simp only [Act.put, List.setIfInBounds_toArray, List.set_cons_zero, List.set_cons_succ])
      refine wpAnyH_take (i := 4) (oi := fbx5Op4) (v := ?_) rfl (by kernel_rfl) (by kernel_rfl) (by kernel_rfl) (fun _ _ _ h => h) (Or.inl ⟨by rfl, ?_⟩) (by assumption) ?_
      rotate_left
      · ((try unfold fbx5Op4); intro w hSw; (try dsimp only at hSw); go_simp; (first | done | with_reducible rfl))
      (try unfold fbx5Op4)
      (try simp only [Act.put, List.setIfInBounds_toArray, List.set_cons_zero, List.set_cons_succ])
      refine wpAnyH_take (i := 5) (oi := fbx5Op5) (v := ?_) rfl (by kernel_rfl) (by kernel_rfl) (by kernel_rfl) (fun _ _ _ h => h) (Or.inl ⟨by rfl, ?_⟩) (by assumption) ?_
      rotate_left
      · ((try unfold fbx5Op5); intro w hSw; (try dsimp only at hSw); go_simp; (first | done | with_reducible rfl))
      (try unfold fbx5Op5)
      (try simp only [Act.put, List.setIfInBounds_toArray, List.set_cons_zero, List.set_cons_succ])
      refine wpAnyH_take (i := 6) (oi := fbx5Op6) (v := ?_) rfl (by kernel_rfl) (by kernel_rfl) (by kernel_rfl) (fun _ _ _ h => h) (Or.inl ⟨by rfl, ?_⟩) (by assumption) ?_
      rotate_left
      · ((try unfold fbx5Op6); intro w hSw; (try dsimp only at hSw); go_simp; (first | done | with_reducible rfl))
      (try unfold fbx5Op6)
      (try simp only [Act.put, List.setIfInBounds_toArray, List.set_cons_zero, List.set_cons_succ])
      refine wpAnyH_take (i := 7) (oi := fbx5Op7) (v := ?_) rfl (by kernel_rfl) (by kernel_rfl) (by kernel_rfl) (fun _ _ _ h => h) (Or.inl ⟨by rfl, ?_⟩) (by assumption) ?_
      rotate_left
      · ((try unfold fbx5Op7); intro w hSw; (try dsimp only at hSw); go_simp; (first | done | with_reducible rfl))
      (try unfold fbx5Op7)
      (try simp only [Act.put, List.setIfInBounds_toArray, List.set_cons_zero, List.set_cons_succ])
      refine wpAnyH_take (i := 8) (oi := fbx5Op8) (v := ?_) rfl (by kernel_rfl) (by kernel_rfl) (by kernel_rfl) (fun _ _ _ h => h) (Or.inl ⟨by rfl, ?_⟩) (by assumption) ?_
      rotate_left
      · ((try unfold fbx5Op8); intro w hSw; (try dsimp only at hSw); go_simp; (first | done | with_reducible rfl))
      (try unfold fbx5Op8)
      (try simp only [Act.put, List.setIfInBounds_toArray, List.set_cons_zero, List.set_cons_succ])
      refine wpAnyH_take (i := 9) (oi := fbx5Op9) (v := ?_) rfl (by kernel_rfl) (by kernel_rfl) (by kernel_rfl) (fun _ _ _ h => h) (Or.inl ⟨by rfl, ?_⟩) (by assumption) ?_
      rotate_left
      · ((try unfold fbx5Op9); intro w hSw; (try dsimp only at hSw); go_simp; (first | done | with_reducible rfl))
      (try unfold fbx5Op9)
      (try simp only [Act.put, List.setIfInBounds_toArray, List.set_cons_zero, List.set_cons_succ])
      refine wpAnyH_take (i := 10) (oi := fbx5Op10) (v := ?_) rfl (by kernel_rfl) (by kernel_rfl) (by kernel_rfl) (fun _ _ _ h => h) (Or.inl ⟨by rfl, ?_⟩) (by assumption) ?_
      rotate_left
      · ((try unfold fbx5Op10); intro w hSw; (try dsimp only at hSw); go_simp; (first | done | with_reducible rfl))
      (try unfold fbx5Op10)
      (try simp only [Act.put, List.setIfInBounds_toArray, List.set_cons_zero, List.set_cons_succ])
      refine wpAnyH_take (i := 11) (oi := fbx5Op11) (v := ?_) rfl (by kernel_rfl) (by kernel_rfl) (by kernel_rfl) (fun _ _ _ h => h) (Or.inl ⟨by rfl, ?_⟩) (by assumption) ?_
      rotate_left
      · ((try unfold fbx5Op11); intro w hSw; (try dsimp only at hSw); go_simp; (first | done | with_reducible rfl))
      (try unfold fbx5Op11)
      (try simp only [Act.put, List.setIfInBounds_toArray, List.set_cons_zero, List.set_cons_succ])
      refine wpAnyH_take (i := 12) (oi := fbx5Op12) (v := ?_) rfl (by kernel_rfl) (by kernel_rfl) (by kernel_rfl) (fun _ _ _ h => h) (Or.inl ⟨by rfl, ?_⟩) (by assumption) ?_
      rotate_left
      · ((try unfold fbx5Op12); intro w hSw; (try dsimp only at hSw); go_simp; (first | done | with_reducible rfl))
      (try unfold fbx5Op12)
      (try simp only [Act.put, List.setIfInBounds_toArray, List.set_cons_zero, List.set_cons_succ])
      refine wpAnyH_take (i := 13) (oi := fbx5Op13) (v := ?_) rfl (by kernel_rfl) (by kernel_rfl) (by kernel_rfl) (fun _ _ _ h => h) (Or.inl ⟨by rfl, ?_⟩) (by assumption) ?_
      rotate_left
      · ((try unfold fbx5Op13); intro w hSw; (try dsimp only at hSw); go_simp; (first | done | with_reducible rfl))
      (try unfold fbx5Op13)
      (try simp only [Act.put, List.setIfInBounds_toArray, List.set_cons_zero, List.set_cons_succ])
      refine wpAnyH_take (i := 14) (oi := fbx5Op14) (v := ?_) rfl (by kernel_rfl) (by kernel_rfl) (by kernel_rfl) (fun _ _ _ h => h) (Or.inl ⟨by rfl, ?_⟩) (by assumption) ?_
      rotate_left
      · ((try unfold fbx5Op14); intro w hSw; (try dsimp only at hSw); go_simp; (first | done | with_reducible rfl))
      (try unfold fbx5Op14)
      (try simp only [Act.put, List.setIfInBounds_toArray, List.set_cons_zero, List.set_cons_succ])
      refine wpAnyH_take (i := 15) (oi := fbx5Op15) (v := ?_) rfl (by kernel_rfl) (by kernel_rfl) (by kernel_rfl) (fun _ _ _ h => h) (Or.inl ⟨by rfl, ?_⟩) (by assumption) ?_
      rotate_left
      · ((try unfold fbx5Op15); intro w hSw; (try dsimp only at hSw); go_simp; (first | done | with_reducible rfl))
      (try unfold fbx5Op15)
      (try simp only [Act.put, List.setIfInBounds_toArray, List.set_cons_zero, List.set_cons_succ])
      refine wpAnyH_take (i := 16) (oi := fbx5Op16) (v := ?_) rfl (by kernel_rfl) (by kernel_rfl) (by kernel_rfl) (fun _ _ _ h => h) (Or.inl ⟨by rfl, ?_⟩) (by assumption) ?_
      rotate_left
      · ((try unfold fbx5Op16); intro w hSw; (try dsimp only at hSw); go_simp; (first | done | with_reducible rfl))
      (try unfold fbx5Op16)
      (try simp only [Act.put, List.setIfInBounds_toArray, List.set_cons_zero, List.set_cons_succ])
      refine wpAnyH_take (i := 17) (oi := fbx5Op17) (v := ?_) rfl (by kernel_rfl) (by kernel_rfl) (by kernel_rfl) (fun _ _ _ h => h) (Or.inl ⟨by rfl, ?_⟩) (by assumption) ?_
      rotate_left
      · ((try unfold fbx5Op17); intro w hSw; (try dsimp only at hSw); go_simp; (first | done | with_reducible rfl))
      (try unfold fbx5Op17)
      (try simp only [Act.put, List.setIfInBounds_toArray, List.set_cons_zero, List.set_cons_succ])
      refine wpAnyH_take (i := 18) (oi := fbx5Op18) (v := ?_) rfl (by kernel_rfl) (by kernel_rfl) (by kernel_rfl) (fun _ _ _ h => h) (Or.inl ⟨by rfl, ?_⟩) (by assumption) ?_
      rotate_left
      · ((try unfold fbx5Op18); intro w hSw; (try dsimp only at hSw); go_simp; (first | done | with_reducible rfl))
      (try unfold fbx5Op18)
      (try simp only [Act.put, List.setIfInBounds_toArray, List.set_cons_zero, List.set_cons_succ])
      refine wpAnyH_take (i := 19) (oi := fbx5Op19) (v := ?_) rfl (by kernel_rfl) (by kernel_rfl) (by kernel_rfl) (fun _ _ _ h => h) (Or.inl ⟨by rfl, ?_⟩) (by assumption) ?_
      rotate_left
      · ((try unfold fbx5Op19); intro w hSw; (try dsimp only at hSw); go_simp; (first | done | with_reducible rfl))
      (try unfold fbx5Op19)
      (try simp only [Act.put, List.setIfInBounds_toArray, List.set_cons_zero, List.set_cons_succ])
      refine wpAnyH_take (i := 20) (oi := fbx5Op20) (v := ?_) rfl (by kernel_rfl) (by kernel_rfl) (by kernel_rfl) (fun _ _ _ h => h) (Or.inl ⟨by rfl, ?_⟩) (by assumption) ?_
      rotate_left
      · ((try unfold fbx5Op20); intro w hSw; (try dsimp only at hSw); go_simp; (first | done | with_reducible rfl))
      (try unfold fbx5Op20)
      (try simp only [Act.put, List.setIfInBounds_toArray, List.set_cons_zero, List.set_cons_succ])
      refine wpAnyH_take (i := 21) (oi := fbx5Op21) (v := ?_) rfl (by kernel_rfl) (by kernel_rfl) (by kernel_rfl) (fun _ _ _ h => h) (Or.inl ⟨by rfl, ?_⟩) (by assumption) ?_
      rotate_left
      · ((try unfold fbx5Op21); intro w hSw; (try dsimp only at hSw); go_simp; (first | done | with_reducible rfl))
      (try unfold fbx5Op21)
      (try simp only [Act.put, List.setIfInBounds_toArray, List.set_cons_zero, List.set_cons_succ])
      refine wpAnyH_take (i := 22) (oi := fbx5Op22) (v := ?_) rfl (by kernel_rfl) (by kernel_rfl) (by kernel_rfl) (fun _ _ _ h => h) (Or.inl ⟨by rfl, ?_⟩) (by assumption) ?_
      rotate_left
      · ((try unfold fbx5Op22); intro w hSw; (try dsimp only at hSw); go_simp; (first | done | with_reducible rfl))
      (try unfold fbx5Op22)
      (try simp only [Act.put, List.setIfInBounds_toArray, List.set_cons_zero, List.set_cons_succ])
      refine wpAnyH_take (i := 23) (oi := fbx5Op23) (v := ?_) rfl (by kernel_rfl) (by kernel_rfl) (by kernel_rfl) (fun _ _ _ h => h) (Or.inl ⟨by rfl, ?_⟩) (by assumption) ?_
      rotate_left
      · ((try unfold fbx5Op23); intro w hSw; (try dsimp only at hSw); go_simp; (first | done | with_reducible rfl))
      (try unfold fbx5Op23)
      (try simp only [Act.put, List.setIfInBounds_toArray, List.set_cons_zero, List.set_cons_succ])
      refine wpAnyH_take (i := 24) (oi := fbx5Op24) (v := ?_) rfl (by kernel_rfl) (by kernel_rfl) (by kernel_rfl) (fun _ _ _ h => h) (Or.inl ⟨by rfl, ?_⟩) (by assumption) ?_
      rotate_left
      · ((try unfold fbx5Op24); intro w hSw; (try dsimp only at hSw); go_simp; (first | done | with_reducible rfl))
      (try unfold fbx5Op24)
      (try simp only [Act.put, List.setIfInBounds_toArray, List.set_cons_zero, List.set_cons_succ])
      refine wpAnyH_take (i := 25) (oi := fbx5Op25) (v := ?_) rfl (by kernel_rfl) (by kernel_rfl) (by kernel_rfl) (fun _ _ _ h => h) (Or.inl ⟨by rfl, ?_⟩) (by assumption) ?_
      rotate_left
      · ((try unfold fbx5Op25); intro w hSw; (try dsimp only at hSw); go_simp; (first | done | with_reducible rfl))
      (try unfold fbx5Op25)
      (try simp only [Act.put, List.setIfInBounds_toArray, List.set_cons_zero, List.set_cons_succ])
      refine wpAnyH_ready (rs := [26, 27]) (by kernel_rfl) (by simp) ?_
      refine AllReadyH.cons (o := fbx5Op26) rfl (fun K hK => ?_) (AllReadyH.cons (o := fbx5Op27) rfl (fun K hK => ?_) AllReadyH.nil)
      ·
        (try unfold fbx5Op26)
        go_simp
        have bq := (Below.refl dk1.heap.size (dk1)).alloc (Nat.le_refl _) (.cells #[.int .i64 0] 2)
        have HBk2 := Lib.hid (HBk1.out.trans (bq.mono HBk1.out.size))
        have HCk2 := Lib.hid (HCk1.out.next bq)
        have HLk2 := Lib.hid (CBox.new (dk1) 2 #[.int .i64 0])
        have gL := HBk1.out.size
        have ne_C_L := Nat.ne_of_lt HCk1.out.lt
        have en_C_L := Nat.ne_of_gt HCk1.out.lt
        clear bq
        clear hs_
        clear HBk1 HCk1
        generalize (dk1.alloc (.cells #[.int .i64 0] 2)) = vk2 at *
        generalize (dk1).heap.size = qLk2 at *
        have hs_ := fbx5S HCk2.out
        refine hK.out _ _ (by exact hs_) (fun hHeld => ?_)
        clear hK K; (try simp only [Act.put, List.setIfInBounds_toArray, List.set_cons_zero, List.set_cons_succ])
        refine wpAnyH_ready (rs := [27]) (by kernel_rfl) (by simp) ?_
        refine AllReadyH.cons (o := fbx5Op27) rfl (fun K hK => ?_) AllReadyH.nil
        (try unfold fbx5Op27)
        go_simp
        have bq := (Below.refl vk2.heap.size (vk2)).alloc (Nat.le_refl _) (.cells #[.int .i64 0] 2)
        have HBk3 := Lib.hid (HBk2.out.trans (bq.mono HBk2.out.size))
        have HCk3 := Lib.hid (HCk2.out.next bq)
        have HLk3 := Lib.hid (HLk2.out.next bq)
        have HUk3 := Lib.hid (CBox.new (vk2) 2 #[.int .i64 0])
        have gU := HBk2.out.size
        have ne_C_U := Nat.ne_of_lt HCk2.out.lt
        have en_C_U := Nat.ne_of_gt HCk2.out.lt
        have ne_L_U := Nat.ne_of_lt HLk2.out.lt
        have en_L_U := Nat.ne_of_gt HLk2.out.lt
        clear bq
        clear hs_
        clear HBk2 HCk2 HLk2
        generalize (vk2.alloc (.cells #[.int .i64 0] 2)) = vk3 at *
        generalize (vk2).heap.size = qUk3 at *
        have hs_ := fbx5S HCk3.out
        refine hK.out _ _ (by exact hs_) (fun hHeld => ?_)
        clear hK K; (try simp only [Act.put, List.setIfInBounds_toArray, List.set_cons_zero, List.set_cons_succ])
        refine wpAnyH_ready (rs := [28]) (by kernel_rfl) (by simp) ?_
        refine AllReadyH.cons (o := fbx5Op28) rfl (fun K hK => ?_) AllReadyH.nil
        (try unfold fbx5Op28)
        have u0_ : vk3.cell? ⟨qLk2, 0, none⟩ = some (.int .i64 0) := HLk3.out.c 0 rfl
        have r0_ := HLk3.out.z 0
        go_simp
        clear u0_ r0_
        have HBk4 : Hid (Below w3.heap.size w3 (vk3.setCell ⟨qLk2, 0, none⟩ (.int .i64 l))) := Lib.hid (Below.setCell HBk3.out gL (.int .i64 l))
        have HCk4 := Lib.hid (CBox.other HCk3.out (by first | exact ne_C_L | exact en_L_C) 0 (.int .i64 l))
        have HLk4 : Hid (CBox (qLk2) 2 #[.int .i64 l] (vk3.setCell ⟨qLk2, 0, none⟩ (.int .i64 l))) := Lib.hid (CBox.set HLk3.out 0 (.int .i64 l) (show (0 : Nat) < 1 by decide))
        have HUk4 := Lib.hid (CBox.other HUk3.out (by first | exact ne_U_L | exact en_L_U) 0 (.int .i64 l))
        clear hs_
        generalize (vk3.setCell ⟨qLk2, 0, none⟩ (.int .i64 l)) = vk4 at *
        have hs_ := fbx5S HCk4.out
        refine hK.out _ _ (by exact hs_) (fun hHeld => ?_)
        clear hK K; (try simp only [Act.put, List.setIfInBounds_toArray, List.set_cons_zero, List.set_cons_succ])
        refine wpAnyH_ready (rs := [29]) (by kernel_rfl) (by simp) ?_
        refine AllReadyH.cons (o := fbx5Op29) rfl (fun K hK => ?_) AllReadyH.nil
        (try unfold fbx5Op29)
        have u0_ : vk4.cell? ⟨qUk3, 0, none⟩ = some (.int .i64 0) := HUk4.out.c 0 rfl
        have r0_ := HUk4.out.z 0
        go_simp
        clear u0_ r0_
        have HBk5 : Hid (Below w3.heap.size w3 (vk4.setCell ⟨qUk3, 0, none⟩ (.int .i64 h))) := Lib.hid (Below.setCell HBk4.out gU (.int .i64 h))
        have HCk5 := Lib.hid (CBox.other HCk4.out (by first | exact ne_C_U | exact en_U_C) 0 (.int .i64 h))
        have HLk5 := Lib.hid (CBox.other HLk4.out (by first | exact ne_L_U | exact en_U_L) 0 (.int .i64 h))
        have HUk5 : Hid (CBox (qUk3) 2 #[.int .i64 h] (vk4.setCell ⟨qUk3, 0, none⟩ (.int .i64 h))) := Lib.hid (CBox.set HUk4.out 0 (.int .i64 h) (show (0 : Nat) < 1 by decide))
        clear hs_
        generalize (vk4.setCell ⟨qUk3, 0, none⟩ (.int .i64 h)) = vk5 at *
        have hs_ := fbx5S HCk5.out
        refine hK.out _ _ (by exact hs_) (fun hHeld => ?_)
        clear hK K; (try simp only [Act.put, List.setIfInBounds_toArray, List.set_cons_zero, List.set_cons_succ])
        refine wpAnyH_done (by kernel_rfl) ?_ _
        clear hs_
        rw [onlyN_normal]
        go_wp2_with fail
        go_meet
        exact ⟨_, _, rfl, rfl, HLk5.out, HUk5.out, HBk5.out, gL, gU⟩
      ·
        (try unfold fbx5Op27)
        go_simp
        have bq := (Below.refl dk1.heap.size (dk1)).alloc (Nat.le_refl _) (.cells #[.int .i64 0] 2)
        have HBk6 := Lib.hid (HBk1.out.trans (bq.mono HBk1.out.size))
        have HCk6 := Lib.hid (HCk1.out.next bq)
        have HUk6 := Lib.hid (CBox.new (dk1) 2 #[.int .i64 0])
        have gU := HBk1.out.size
        have ne_C_U := Nat.ne_of_lt HCk1.out.lt
        have en_C_U := Nat.ne_of_gt HCk1.out.lt
        clear bq
        clear hs_
        clear HBk1 HCk1
        generalize (dk1.alloc (.cells #[.int .i64 0] 2)) = vk6 at *
        generalize (dk1).heap.size = qUk6 at *
        have hs_ := fbx5S HCk6.out
        refine hK.out _ _ (by exact hs_) (fun hHeld => ?_)
        clear hK K; (try simp only [Act.put, List.setIfInBounds_toArray, List.set_cons_zero, List.set_cons_succ])
        refine wpAnyH_ready (rs := [26]) (by kernel_rfl) (by simp) ?_
        refine AllReadyH.cons (o := fbx5Op26) rfl (fun K hK => ?_) AllReadyH.nil
        (try unfold fbx5Op26)
        go_simp
        have bq := (Below.refl vk6.heap.size (vk6)).alloc (Nat.le_refl _) (.cells #[.int .i64 0] 2)
        have HBk7 := Lib.hid (HBk6.out.trans (bq.mono HBk6.out.size))
        have HCk7 := Lib.hid (HCk6.out.next bq)
        have HUk7 := Lib.hid (HUk6.out.next bq)
        have HLk7 := Lib.hid (CBox.new (vk6) 2 #[.int .i64 0])
        have gL := HBk6.out.size
        have ne_C_L := Nat.ne_of_lt HCk6.out.lt
        have en_C_L := Nat.ne_of_gt HCk6.out.lt
        have ne_U_L := Nat.ne_of_lt HUk6.out.lt
        have en_U_L := Nat.ne_of_gt HUk6.out.lt
        clear bq
        clear hs_
        clear HBk6 HCk6 HUk6
        generalize (vk6.alloc (.cells #[.int .i64 0] 2)) = vk7 at *
        generalize (vk6).heap.size = qLk7 at *
        have hs_ := fbx5S HCk7.out
        refine hK.out _ _ (by exact hs_) (fun hHeld => ?_)
        clear hK K; (try simp only [Act.put, List.setIfInBounds_toArray, List.set_cons_zero, List.set_cons_succ])
        refine wpAnyH_ready (rs := [28]) (by kernel_rfl) (by simp) ?_
        refine AllReadyH.cons (o := fbx5Op28) rfl (fun K hK => ?_) AllReadyH.nil
        (try unfold fbx5Op28)
        have u0_ : vk7.cell? ⟨qLk7, 0, none⟩ = some (.int .i64 0) := HLk7.out.c 0 rfl
        have r0_ := HLk7.out.z 0
        go_simp
        clear u0_ r0_
        have HBk8 : Hid (Below w3.heap.size w3 (vk7.setCell ⟨qLk7, 0, none⟩ (.int .i64 l))) := Lib.hid (Below.setCell HBk7.out gL (.int .i64 l))
        have HCk8 := Lib.hid (CBox.other HCk7.out (by first | exact ne_C_L | exact en_L_C) 0 (.int .i64 l))
        have HUk8 := Lib.hid (CBox.other HUk7.out (by first | exact ne_U_L | exact en_L_U) 0 (.int .i64 l))
        have HLk8 : Hid (CBox (qLk7) 2 #[.int .i64 l] (vk7.setCell ⟨qLk7, 0, none⟩ (.int .i64 l))) := Lib.hid (CBox.set HLk7.out 0 (.int .i64 l) (show (0 : Nat) < 1 by decide))
        clear hs_
        generalize (vk7.setCell ⟨qLk7, 0, none⟩ (.int .i64 l)) = vk8 at *
        have hs_ := fbx5S HCk8.out
        refine hK.out _ _ (by exact hs_) (fun hHeld => ?_)
        clear hK K; (try simp only [Act.put, List.setIfInBounds_toArray, List.set_cons_zero, List.set_cons_succ])
        refine wpAnyH_ready (rs := [29]) (by kernel_rfl) (by simp) ?_
        refine AllReadyH.cons (o := fbx5Op29) rfl (fun K hK => ?_) AllReadyH.nil
        (try unfold fbx5Op29)
        have u0_ : vk8.cell? ⟨qUk6, 0, none⟩ = some (.int .i64 0) := HUk8.out.c 0 rfl
        have r0_ := HUk8.out.z 0
        go_simp
        clear u0_ r0_
        have HBk9 : Hid (Below w3.heap.size w3 (vk8.setCell ⟨qUk6, 0, none⟩ (.int .i64 h))) := Lib.hid (Below.setCell HBk8.out gU (.int .i64 h))
        have HCk9 := Lib.hid (CBox.other HCk8.out (by first | exact ne_C_U | exact en_U_C) 0 (.int .i64 h))
        have HUk9 : Hid (CBox (qUk6) 2 #[.int .i64 h] (vk8.setCell ⟨qUk6, 0, none⟩ (.int .i64 h))) := Lib.hid (CBox.set HUk8.out 0 (.int .i64 h) (show (0 : Nat) < 1 by decide))
        have HLk9 := Lib.hid (CBox.other HLk8.out (by first | exact ne_L_U | exact en_U_L) 0 (.int .i64 h))
        clear hs_
        generalize (vk8.setCell ⟨qUk6, 0, none⟩ (.int .i64 h)) = vk9 at *
        have hs_ := fbx5S HCk9.out
        refine hK.out _ _ (by exact hs_) (fun hHeld => ?_)
        clear hK K; (try simp only [Act.put, List.setIfInBounds_toArray, List.set_cons_zero, List.set_cons_succ])
        refine wpAnyH_done (by kernel_rfl) ?_ _
        clear hs_
        rw [onlyN_normal]
        go_wp2_with fail
        go_meet
        exact ⟨_, _, rfl, rfl, HLk9.out, HUk9.out, HBk9.out, gL, gU⟩
    case rest =>
      obtain ⟨qL, qU, rfl, rfl, k1, k2, b3, gL, gU⟩ := hcut
      have HZ3 := Lib.hid (HZ2.out.next b3)
      have HB3 := Lib.hid (HB2.out.trans (b3.mono HB2.out.size))
      have HC3 := Lib.hid (HC2.out.next b3)
      clear b3
      have HL3 := Lib.hid k1; have HU3 := Lib.hid k2
      clear k1 k2
      generalize wc = w4 at *
      go_upto_region 6 with fail
      go_cut [5, 6] from 41 to 66 (fun s1 s2 wc => Two12 w4 wc s1 s2 lo hi)
      case first =>
        refine (wpIn_wide (n := 6)).1 (wpIn_normal (wpIn_wide.2 ?_))
        have Hlo := Lib.hid hlo; have Hhi := Lib.hid hhi
        have hs_ := fbx6S HC3.out
        refine wp_region_held_drew (S := (fun w' => w'.cell? ⟨w.heap.size, 0, none⟩ = some (.int .i64 px) ∧ w'.cell? ⟨w.heap.size, 1, none⟩ = some (.int .i64 py) ∧ w'.cell? ⟨w.heap.size, 2, none⟩ = some (.int .i64 qx) ∧ w'.cell? ⟨w.heap.size, 3, none⟩ = some (.int .i64 qy) ∧ w'.cell? ⟨w.heap.size, 4, none⟩ = some (.int .i64 rx) ∧ w'.cell? ⟨w.heap.size, 5, none⟩ = some (.int .i64 ry) ∧ w'.cell? ⟨w.heap.size, 6, none⟩ = some (.int .i64 sx) ∧ w'.cell? ⟨w.heap.size, 7, none⟩ = some (.int .i64 sy))) (by kernel_rfl) ?_ (fun hHeld => ?_)
        · (try dsimp only); first | exact hs_ | (simp [go_sem, *]; done)
        clear hs_
        have HBk10 : Hid (Below w4.heap.size w4 w4.drew) := Lib.hid (Below.refl w4.heap.size w4).drew
        have HCk10 : Hid (CBox (w.heap.size) 25 #[.int .i64 px, .int .i64 py, .int .i64 qx, .int .i64 qy, .int .i64 rx, .int .i64 ry, .int .i64 sx, .int .i64 sy] w4.drew) := Lib.hid HC3.out
        generalize w4.drew = dk10 at *
        have hs_ := fbx6S HCk10.out
        refine wpAnyH_take (i := 0) (oi := fbx6Op0) (v := ?_) rfl (by kernel_rfl) (by kernel_rfl) (by kernel_rfl) (fun _ _ _ h => h) (Or.inl ⟨by rfl, ?_⟩) (by assumption) ?_
        rotate_left
        · ((try unfold fbx6Op0); intro w hSw; (try dsimp only at hSw); go_simp; (first | done | with_reducible rfl))
        (try unfold fbx6Op0)
        (try simp only [Act.put, List.setIfInBounds_toArray, List.set_cons_zero, List.set_cons_succ])
        refine wpAnyH_take (i := 1) (oi := fbx6Op1) (v := ?_) rfl (by kernel_rfl) (by kernel_rfl) (by kernel_rfl) (fun _ _ _ h => h) (Or.inl ⟨by rfl, ?_⟩) (by assumption) ?_
        rotate_left
        · ((try unfold fbx6Op1); intro w hSw; (try dsimp only at hSw); go_simp; (first | done | with_reducible rfl))
        (try unfold fbx6Op1)
        (try simp only [Act.put, List.setIfInBounds_toArray, List.set_cons_zero, List.set_cons_succ])
        refine wpAnyH_take (i := 2) (oi := fbx6Op2) (v := ?_) rfl (by kernel_rfl) (by kernel_rfl) (by kernel_rfl) (fun _ _ _ h => h) (Or.inl ⟨by rfl, ?_⟩) (by assumption) ?_
        rotate_left
        · ((try unfold fbx6Op2); intro w hSw; (try dsimp only at hSw); go_simp; (first | done | with_reducible rfl))
        (try unfold fbx6Op2)
        (try simp only [Act.put, List.setIfInBounds_toArray, List.set_cons_zero, List.set_cons_succ])
        refine wpAnyH_take (i := 3) (oi := fbx6Op3) (v := ?_) rfl (by kernel_rfl) (by kernel_rfl) (by kernel_rfl) (fun _ _ _ h => h) (Or.inl ⟨by rfl, ?_⟩) (by assumption) ?_
        rotate_left
        · ((try unfold fbx6Op3); intro w hSw; (try dsimp only at hSw); go_simp; (first | done | with_reducible rfl))
        (try unfold fbx6Op3)
        (try simp only [Act.put, List.setIfInBounds_toArray, List.set_cons_zero, List.set_cons_succ])
        refine wpAnyH_take (i := 4) (oi := fbx6Op4) (v := ?_) rfl (by kernel_rfl) (by kernel_rfl) (by kernel_rfl) (fun _ _ _ h => h) (Or.inl ⟨by rfl, ?_⟩) (by assumption) ?_
        rotate_left
        · ((try unfold fbx6Op4); intro w hSw; (try dsimp only at hSw); go_simp; (first | done | with_reducible rfl))
        (try unfold fbx6Op4)
        (try simp only [Act.put, List.setIfInBounds_toArray, List.set_cons_zero, List.set_cons_succ])
        refine wpAnyH_take (i := 5) (oi := fbx6Op5) (v := ?_) rfl (by kernel_rfl) (by kernel_rfl) (by kernel_rfl) (fun _ _ _ h => h) (Or.inl ⟨by rfl, ?_⟩) (by assumption) ?_
        rotate_left
        · ((try unfold fbx6Op5); intro w hSw; (try dsimp only at hSw); go_simp; (first | done | with_reducible rfl))
        (try unfold fbx6Op5)
        (try simp only [Act.put, List.setIfInBounds_toArray, List.set_cons_zero, List.set_cons_succ])
        refine wpAnyH_take (i := 6) (oi := fbx6Op6) (v := ?_) rfl (by kernel_rfl) (by kernel_rfl) (by kernel_rfl) (fun _ _ _ h => h) (Or.inl ⟨by rfl, ?_⟩) (by assumption) ?_
        rotate_left
        · ((try unfold fbx6Op6); intro w hSw; (try dsimp only at hSw); go_simp; (first | done | with_reducible rfl))
        (try unfold fbx6Op6)
        (try simp only [Act.put, List.setIfInBounds_toArray, List.set_cons_zero, List.set_cons_succ])
        refine wpAnyH_take (i := 7) (oi := fbx6Op7) (v := ?_) rfl (by kernel_rfl) (by kernel_rfl) (by kernel_rfl) (fun _ _ _ h => h) (Or.inl ⟨by rfl, ?_⟩) (by assumption) ?_
        rotate_left
        · ((try unfold fbx6Op7); intro w hSw; (try dsimp only at hSw); go_simp; (first | done | with_reducible rfl))
        (try unfold fbx6Op7)
        (try simp only [Act.put, List.setIfInBounds_toArray, List.set_cons_zero, List.set_cons_succ])
        refine wpAnyH_take (i := 8) (oi := fbx6Op8) (v := ?_) rfl (by kernel_rfl) (by kernel_rfl) (by kernel_rfl) (fun _ _ _ h => h) (Or.inl ⟨by rfl, ?_⟩) (by assumption) ?_
        rotate_left
        · ((try unfold fbx6Op8); intro w hSw; (try dsimp only at hSw); go_simp; (first | done | with_reducible rfl))
        (try unfold fbx6Op8)
        (try simp only [Act.put, List.setIfInBounds_toArray, List.set_cons_zero, List.set_cons_succ])
        refine wpAnyH_take (i := 9) (oi := fbx6Op9) (v := ?_) rfl (by kernel_rfl) (by kernel_rfl) (by kernel_rfl) (fun _ _ _ h => h) (Or.inl ⟨by rfl, ?_⟩) (by assumption) ?_
        rotate_left
        · ((try unfold fbx6Op9); intro w hSw; (try dsimp only at hSw); go_simp; (first | done | with_reducible rfl))
        (try unfold fbx6Op9)
        (try simp only [Act.put, List.setIfInBounds_toArray, List.set_cons_zero, List.set_cons_succ])
        refine wpAnyH_take (i := 10) (oi := fbx6Op10) (v := ?_) rfl (by kernel_rfl) (by kernel_rfl) (by kernel_rfl) (fun _ _ _ h => h) (Or.inl ⟨by rfl, ?_⟩) (by assumption) ?_
        rotate_left
        · ((try unfold fbx6Op10); intro w hSw; (try dsimp only at hSw); go_simp; (first | done | with_reducible rfl))
        (try unfold fbx6Op10)
        (try simp only [Act.put, List.setIfInBounds_toArray, List.set_cons_zero, List.set_cons_succ])
        refine wpAnyH_take (i := 11) (oi := fbx6Op11) (v := ?_) rfl (by kernel_rfl) (by kernel_rfl) (by kernel_rfl) (fun _ _ _ h => h) (Or.inl ⟨by rfl, ?_⟩) (by assumption) ?_
        rotate_left
        · ((try unfold fbx6Op11); intro w hSw; (try dsimp only at hSw); go_simp; (first | done | with_reducible rfl))
        (try unfold fbx6Op11)
        (try simp only [Act.put, List.setIfInBounds_toArray, List.set_cons_zero, List.set_cons_succ])
        refine wpAnyH_take (i := 12) (oi := fbx6Op12) (v := ?_) rfl (by kernel_rfl) (by kernel_rfl) (by kernel_rfl) (fun _ _ _ h => h) (Or.inl ⟨by rfl, ?_⟩) (by assumption) ?_
        rotate_left
        · ((try unfold fbx6Op12); intro w hSw; (try dsimp only at hSw); go_simp; (first | done | with_reducible rfl))
        (try unfold fbx6Op12)
        (try simp only [Act.put, List.setIfInBounds_toArray, List.set_cons_zero, List.set_cons_succ])
        refine wpAnyH_take (i := 13) (oi := fbx6Op13) (v := ?_) rfl (by kernel_rfl) (by kernel_rfl) (by kernel_rfl) (fun _ _ _ h => h) (Or.inl ⟨by rfl, ?_⟩) (by assumption) ?_
        rotate_left
        · ((try unfold fbx6Op13); intro w hSw; (try dsimp only at hSw); go_simp; (first | done | with_reducible rfl))
        (try unfold fbx6Op13)
        (try simp only [Act.put, List.setIfInBounds_toArray, List.set_cons_zero, List.set_cons_succ])
        refine wpAnyH_take (i := 14) (oi := fbx6Op14) (v := ?_) rfl (by kernel_rfl) (by kernel_rfl) (by kernel_rfl) (fun _ _ _ h => h) (Or.inl ⟨by rfl, ?_⟩) (by assumption) ?_
        rotate_left
        · ((try unfold fbx6Op14); intro w hSw; (try dsimp only at hSw); go_simp; (first | done | with_reducible rfl))
        (try unfold fbx6Op14)
        (try simp only [Act.put, List.setIfInBounds_toArray, List.set_cons_zero, List.set_cons_succ])
        refine wpAnyH_take (i := 15) (oi := fbx6Op15) (v := ?_) rfl (by kernel_rfl) (by kernel_rfl) (by kernel_rfl) (fun _ _ _ h => h) (Or.inl ⟨by rfl, ?_⟩) (by assumption) ?_
        rotate_left
        · ((try unfold fbx6Op15); intro w hSw; (try dsimp only at hSw); go_simp; (first | done | with_reducible rfl))
        (try unfold fbx6Op15)
        (try simp only [Act.put, List.setIfInBounds_toArray, List.set_cons_zero, List.set_cons_succ])
        refine wpAnyH_take (i := 16) (oi := fbx6Op16) (v := ?_) rfl (by kernel_rfl) (by kernel_rfl) (by kernel_rfl) (fun _ _ _ h => h) (Or.inl ⟨by rfl, ?_⟩) (by assumption) ?_
        rotate_left
        · ((try unfold fbx6Op16); intro w hSw; (try dsimp only at hSw); go_simp; (first | done | with_reducible rfl))
        (try unfold fbx6Op16)
        (try simp only [Act.put, List.setIfInBounds_toArray, List.set_cons_zero, List.set_cons_succ])
        refine wpAnyH_take (i := 17) (oi := fbx6Op17) (v := ?_) rfl (by kernel_rfl) (by kernel_rfl) (by kernel_rfl) (fun _ _ _ h => h) (Or.inl ⟨by rfl, ?_⟩) (by assumption) ?_
        rotate_left
        · ((try unfold fbx6Op17); intro w hSw; (try dsimp only at hSw); go_simp; (first | done | with_reducible rfl))
        (try unfold fbx6Op17)
        (try simp only [Act.put, List.setIfInBounds_toArray, List.set_cons_zero, List.set_cons_succ])
        refine wpAnyH_take (i := 18) (oi := fbx6Op18) (v := ?_) rfl (by kernel_rfl) (by kernel_rfl) (by kernel_rfl) (fun _ _ _ h => h) (Or.inl ⟨by rfl, ?_⟩) (by assumption) ?_
        rotate_left
        · ((try unfold fbx6Op18); intro w hSw; (try dsimp only at hSw); go_simp; (first | done | with_reducible rfl))
        (try unfold fbx6Op18)
        (try simp only [Act.put, List.setIfInBounds_toArray, List.set_cons_zero, List.set_cons_succ])
        refine wpAnyH_take (i := 19) (oi := fbx6Op19) (v := ?_) rfl (by kernel_rfl) (by kernel_rfl) (by kernel_rfl) (fun _ _ _ h => h) (Or.inl ⟨by rfl, ?_⟩) (by assumption) ?_
        rotate_left
        · ((try unfold fbx6Op19); intro w hSw; (try dsimp only at hSw); go_simp; (first | done | with_reducible rfl))
        (try unfold fbx6Op19)
        (try simp only [Act.put, List.setIfInBounds_toArray, List.set_cons_zero, List.set_cons_succ])
        refine wpAnyH_take (i := 20) (oi := fbx6Op20) (v := ?_) rfl (by kernel_rfl) (by kernel_rfl) (by kernel_rfl) (fun _ _ _ h => h) (Or.inl ⟨by rfl, ?_⟩) (by assumption) ?_
        rotate_left
        · ((try unfold fbx6Op20); intro w hSw; (try dsimp only at hSw); go_simp; (first | done | with_reducible rfl))
        (try unfold fbx6Op20)
        (try simp only [Act.put, List.setIfInBounds_toArray, List.set_cons_zero, List.set_cons_succ])
        refine wpAnyH_take (i := 21) (oi := fbx6Op21) (v := ?_) rfl (by kernel_rfl) (by kernel_rfl) (by kernel_rfl) (fun _ _ _ h => h) (Or.inl ⟨by rfl, ?_⟩) (by assumption) ?_
        rotate_left
        · ((try unfold fbx6Op21); intro w hSw; (try dsimp only at hSw); go_simp; (first | done | with_reducible rfl))
        (try unfold fbx6Op21)
        (try simp only [Act.put, List.setIfInBounds_toArray, List.set_cons_zero, List.set_cons_succ])
        refine wpAnyH_take (i := 22) (oi := fbx6Op22) (v := ?_) rfl (by kernel_rfl) (by kernel_rfl) (by kernel_rfl) (fun _ _ _ h => h) (Or.inl ⟨by rfl, ?_⟩) (by assumption) ?_
        rotate_left
        · ((try unfold fbx6Op22); intro w hSw; (try dsimp only at hSw); go_simp; (first | done | with_reducible rfl))
        (try unfold fbx6Op22)
        (try simp only [Act.put, List.setIfInBounds_toArray, List.set_cons_zero, List.set_cons_succ])
        refine wpAnyH_take (i := 23) (oi := fbx6Op23) (v := ?_) rfl (by kernel_rfl) (by kernel_rfl) (by kernel_rfl) (fun _ _ _ h => h) (Or.inl ⟨by rfl, ?_⟩) (by assumption) ?_
        rotate_left
        · ((try unfold fbx6Op23); intro w hSw; (try dsimp only at hSw); go_simp; (first | done | with_reducible rfl))
        (try unfold fbx6Op23)
        (try simp only [Act.put, List.setIfInBounds_toArray, List.set_cons_zero, List.set_cons_succ])
        refine wpAnyH_take (i := 24) (oi := fbx6Op24) (v := ?_) rfl (by kernel_rfl) (by kernel_rfl) (by kernel_rfl) (fun _ _ _ h => h) (Or.inl ⟨by rfl, ?_⟩) (by assumption) ?_
        rotate_left
        · ((try unfold fbx6Op24); intro w hSw; (try dsimp only at hSw); go_simp; (first | done | with_reducible rfl))
        (try unfold fbx6Op24)
        (try simp only [Act.put, List.setIfInBounds_toArray, List.set_cons_zero, List.set_cons_succ])
        refine wpAnyH_take (i := 25) (oi := fbx6Op25) (v := ?_) rfl (by kernel_rfl) (by kernel_rfl) (by kernel_rfl) (fun _ _ _ h => h) (Or.inl ⟨by rfl, ?_⟩) (by assumption) ?_
        rotate_left
        · ((try unfold fbx6Op25); intro w hSw; (try dsimp only at hSw); go_simp; (first | done | with_reducible rfl))
        (try unfold fbx6Op25)
        (try simp only [Act.put, List.setIfInBounds_toArray, List.set_cons_zero, List.set_cons_succ])
        refine wpAnyH_ready (rs := [26, 27]) (by kernel_rfl) (by simp) ?_
        refine AllReadyH.cons (o := fbx6Op26) rfl (fun K hK => ?_) (AllReadyH.cons (o := fbx6Op27) rfl (fun K hK => ?_) AllReadyH.nil)
        ·
          (try unfold fbx6Op26)
          go_simp
          have bq := (Below.refl dk10.heap.size (dk10)).alloc (Nat.le_refl _) (.cells #[.int .i64 0] 2)
          have HBk11 := Lib.hid (HBk10.out.trans (bq.mono HBk10.out.size))
          have HCk11 := Lib.hid (HCk10.out.next bq)
          have HLk11 := Lib.hid (CBox.new (dk10) 2 #[.int .i64 0])
          have gL := HBk10.out.size
          have ne_C_L := Nat.ne_of_lt HCk10.out.lt
          have en_C_L := Nat.ne_of_gt HCk10.out.lt
          clear bq
          clear hs_
          clear HBk10 HCk10
          generalize (dk10.alloc (.cells #[.int .i64 0] 2)) = vk11 at *
          generalize (dk10).heap.size = qLk11 at *
          have hs_ := fbx6S HCk11.out
          refine hK.out _ _ (by exact hs_) (fun hHeld => ?_)
          clear hK K; (try simp only [Act.put, List.setIfInBounds_toArray, List.set_cons_zero, List.set_cons_succ])
          refine wpAnyH_ready (rs := [27]) (by kernel_rfl) (by simp) ?_
          refine AllReadyH.cons (o := fbx6Op27) rfl (fun K hK => ?_) AllReadyH.nil
          (try unfold fbx6Op27)
          go_simp
          have bq := (Below.refl vk11.heap.size (vk11)).alloc (Nat.le_refl _) (.cells #[.int .i64 0] 2)
          have HBk12 := Lib.hid (HBk11.out.trans (bq.mono HBk11.out.size))
          have HCk12 := Lib.hid (HCk11.out.next bq)
          have HLk12 := Lib.hid (HLk11.out.next bq)
          have HUk12 := Lib.hid (CBox.new (vk11) 2 #[.int .i64 0])
          have gU := HBk11.out.size
          have ne_C_U := Nat.ne_of_lt HCk11.out.lt
          have en_C_U := Nat.ne_of_gt HCk11.out.lt
          have ne_L_U := Nat.ne_of_lt HLk11.out.lt
          have en_L_U := Nat.ne_of_gt HLk11.out.lt
          clear bq
          clear hs_
          clear HBk11 HCk11 HLk11
          generalize (vk11.alloc (.cells #[.int .i64 0] 2)) = vk12 at *
          generalize (vk11).heap.size = qUk12 at *
          have hs_ := fbx6S HCk12.out
          refine hK.out _ _ (by exact hs_) (fun hHeld => ?_)
          clear hK K; (try simp only [Act.put, List.setIfInBounds_toArray, List.set_cons_zero, List.set_cons_succ])
          refine wpAnyH_ready (rs := [28]) (by kernel_rfl) (by simp) ?_
          refine AllReadyH.cons (o := fbx6Op28) rfl (fun K hK => ?_) AllReadyH.nil
          (try unfold fbx6Op28)
          have u0_ : vk12.cell? ⟨qLk11, 0, none⟩ = some (.int .i64 0) := HLk12.out.c 0 rfl
          have r0_ := HLk12.out.z 0
          go_simp
          clear u0_ r0_
          have HBk13 : Hid (Below w4.heap.size w4 (vk12.setCell ⟨qLk11, 0, none⟩ (.int .i64 lo))) := Lib.hid (Below.setCell HBk12.out gL (.int .i64 lo))
          have HCk13 := Lib.hid (CBox.other HCk12.out (by first | exact ne_C_L | exact en_L_C) 0 (.int .i64 lo))
          have HLk13 : Hid (CBox (qLk11) 2 #[.int .i64 lo] (vk12.setCell ⟨qLk11, 0, none⟩ (.int .i64 lo))) := Lib.hid (CBox.set HLk12.out 0 (.int .i64 lo) (show (0 : Nat) < 1 by decide))
          have HUk13 := Lib.hid (CBox.other HUk12.out (by first | exact ne_U_L | exact en_L_U) 0 (.int .i64 lo))
          clear hs_
          generalize (vk12.setCell ⟨qLk11, 0, none⟩ (.int .i64 lo)) = vk13 at *
          have hs_ := fbx6S HCk13.out
          refine hK.out _ _ (by exact hs_) (fun hHeld => ?_)
          clear hK K; (try simp only [Act.put, List.setIfInBounds_toArray, List.set_cons_zero, List.set_cons_succ])
          refine wpAnyH_ready (rs := [29]) (by kernel_rfl) (by simp) ?_
          refine AllReadyH.cons (o := fbx6Op29) rfl (fun K hK => ?_) AllReadyH.nil
          (try unfold fbx6Op29)
          have u0_ : vk13.cell? ⟨qUk12, 0, none⟩ = some (.int .i64 0) := HUk13.out.c 0 rfl
          have r0_ := HUk13.out.z 0
          go_simp
          clear u0_ r0_
          have HBk14 : Hid (Below w4.heap.size w4 (vk13.setCell ⟨qUk12, 0, none⟩ (.int .i64 hi))) := Lib.hid (Below.setCell HBk13.out gU (.int .i64 hi))
          have HCk14 := Lib.hid (CBox.other HCk13.out (by first | exact ne_C_U | exact en_U_C) 0 (.int .i64 hi))
          have HLk14 := Lib.hid (CBox.other HLk13.out (by first | exact ne_L_U | exact en_U_L) 0 (.int .i64 hi))
          have HUk14 : Hid (CBox (qUk12) 2 #[.int .i64 hi] (vk13.setCell ⟨qUk12, 0, none⟩ (.int .i64 hi))) := Lib.hid (CBox.set HUk13.out 0 (.int .i64 hi) (show (0 : Nat) < 1 by decide))
          clear hs_
          generalize (vk13.setCell ⟨qUk12, 0, none⟩ (.int .i64 hi)) = vk14 at *
          have hs_ := fbx6S HCk14.out
          refine hK.out _ _ (by exact hs_) (fun hHeld => ?_)
          clear hK K; (try simp only [Act.put, List.setIfInBounds_toArray, List.set_cons_zero, List.set_cons_succ])
          refine wpAnyH_done (by kernel_rfl) ?_ _
          clear hs_
          rw [onlyN_normal]
          go_wp2_with fail
          go_meet
          exact ⟨_, _, rfl, rfl, HLk14.out, HUk14.out, HBk14.out, gL, gU⟩
        ·
          (try unfold fbx6Op27)
          go_simp
          have bq := (Below.refl dk10.heap.size (dk10)).alloc (Nat.le_refl _) (.cells #[.int .i64 0] 2)
          have HBk15 := Lib.hid (HBk10.out.trans (bq.mono HBk10.out.size))
          have HCk15 := Lib.hid (HCk10.out.next bq)
          have HUk15 := Lib.hid (CBox.new (dk10) 2 #[.int .i64 0])
          have gU := HBk10.out.size
          have ne_C_U := Nat.ne_of_lt HCk10.out.lt
          have en_C_U := Nat.ne_of_gt HCk10.out.lt
          clear bq
          clear hs_
          clear HBk10 HCk10
          generalize (dk10.alloc (.cells #[.int .i64 0] 2)) = vk15 at *
          generalize (dk10).heap.size = qUk15 at *
          have hs_ := fbx6S HCk15.out
          refine hK.out _ _ (by exact hs_) (fun hHeld => ?_)
          clear hK K; (try simp only [Act.put, List.setIfInBounds_toArray, List.set_cons_zero, List.set_cons_succ])
          refine wpAnyH_ready (rs := [26]) (by kernel_rfl) (by simp) ?_
          refine AllReadyH.cons (o := fbx6Op26) rfl (fun K hK => ?_) AllReadyH.nil
          (try unfold fbx6Op26)
          go_simp
          have bq := (Below.refl vk15.heap.size (vk15)).alloc (Nat.le_refl _) (.cells #[.int .i64 0] 2)
          have HBk16 := Lib.hid (HBk15.out.trans (bq.mono HBk15.out.size))
          have HCk16 := Lib.hid (HCk15.out.next bq)
          have HUk16 := Lib.hid (HUk15.out.next bq)
          have HLk16 := Lib.hid (CBox.new (vk15) 2 #[.int .i64 0])
          have gL := HBk15.out.size
          have ne_C_L := Nat.ne_of_lt HCk15.out.lt
          have en_C_L := Nat.ne_of_gt HCk15.out.lt
          have ne_U_L := Nat.ne_of_lt HUk15.out.lt
          have en_U_L := Nat.ne_of_gt HUk15.out.lt
          clear bq
          clear hs_
          clear HBk15 HCk15 HUk15
          generalize (vk15.alloc (.cells #[.int .i64 0] 2)) = vk16 at *
          generalize (vk15).heap.size = qLk16 at *
          have hs_ := fbx6S HCk16.out
          refine hK.out _ _ (by exact hs_) (fun hHeld => ?_)
          clear hK K; (try simp only [Act.put, List.setIfInBounds_toArray, List.set_cons_zero, List.set_cons_succ])
          refine wpAnyH_ready (rs := [28]) (by kernel_rfl) (by simp) ?_
          refine AllReadyH.cons (o := fbx6Op28) rfl (fun K hK => ?_) AllReadyH.nil
          (try unfold fbx6Op28)
          have u0_ : vk16.cell? ⟨qLk16, 0, none⟩ = some (.int .i64 0) := HLk16.out.c 0 rfl
          have r0_ := HLk16.out.z 0
          go_simp
          clear u0_ r0_
          have HBk17 : Hid (Below w4.heap.size w4 (vk16.setCell ⟨qLk16, 0, none⟩ (.int .i64 lo))) := Lib.hid (Below.setCell HBk16.out gL (.int .i64 lo))
          have HCk17 := Lib.hid (CBox.other HCk16.out (by first | exact ne_C_L | exact en_L_C) 0 (.int .i64 lo))
          have HUk17 := Lib.hid (CBox.other HUk16.out (by first | exact ne_U_L | exact en_L_U) 0 (.int .i64 lo))
          have HLk17 : Hid (CBox (qLk16) 2 #[.int .i64 lo] (vk16.setCell ⟨qLk16, 0, none⟩ (.int .i64 lo))) := Lib.hid (CBox.set HLk16.out 0 (.int .i64 lo) (show (0 : Nat) < 1 by decide))
          clear hs_
          generalize (vk16.setCell ⟨qLk16, 0, none⟩ (.int .i64 lo)) = vk17 at *
          have hs_ := fbx6S HCk17.out
          refine hK.out _ _ (by exact hs_) (fun hHeld => ?_)
          clear hK K; (try simp only [Act.put, List.setIfInBounds_toArray, List.set_cons_zero, List.set_cons_succ])
          refine wpAnyH_ready (rs := [29]) (by kernel_rfl) (by simp) ?_
          refine AllReadyH.cons (o := fbx6Op29) rfl (fun K hK => ?_) AllReadyH.nil
          (try unfold fbx6Op29)
          have u0_ : vk17.cell? ⟨qUk15, 0, none⟩ = some (.int .i64 0) := HUk17.out.c 0 rfl
          have r0_ := HUk17.out.z 0
          go_simp
          clear u0_ r0_
          have HBk18 : Hid (Below w4.heap.size w4 (vk17.setCell ⟨qUk15, 0, none⟩ (.int .i64 hi))) := Lib.hid (Below.setCell HBk17.out gU (.int .i64 hi))
          have HCk18 := Lib.hid (CBox.other HCk17.out (by first | exact ne_C_U | exact en_U_C) 0 (.int .i64 hi))
          have HUk18 : Hid (CBox (qUk15) 2 #[.int .i64 hi] (vk17.setCell ⟨qUk15, 0, none⟩ (.int .i64 hi))) := Lib.hid (CBox.set HUk17.out 0 (.int .i64 hi) (show (0 : Nat) < 1 by decide))
          have HLk18 := Lib.hid (CBox.other HLk17.out (by first | exact ne_L_U | exact en_U_L) 0 (.int .i64 hi))
          clear hs_
          generalize (vk17.setCell ⟨qUk15, 0, none⟩ (.int .i64 hi)) = vk18 at *
          have hs_ := fbx6S HCk18.out
          refine hK.out _ _ (by exact hs_) (fun hHeld => ?_)
          clear hK K; (try simp only [Act.put, List.setIfInBounds_toArray, List.set_cons_zero, List.set_cons_succ])
          refine wpAnyH_done (by kernel_rfl) ?_ _
          clear hs_
          rw [onlyN_normal]
          go_wp2_with fail
          go_meet
          exact ⟨_, _, rfl, rfl, HLk18.out, HUk18.out, HBk18.out, gL, gU⟩
      case rest =>
        obtain ⟨qM, qN, rfl, rfl, k1, k2, b4, gM, gN⟩ := hcut
        have HZ4 := Lib.hid (HZ3.out.next b4)
        have HB4 := Lib.hid (HB3.out.trans (b4.mono HB3.out.size))
        have HC4 := Lib.hid (HC3.out.next b4)
        have HL4 := Lib.hid (HL3.out.next b4)
        have HU4 := Lib.hid (HU3.out.next b4)
        clear b4
        have HM4 := Lib.hid k1; have HN4 := Lib.hid k2
        clear k1 k2
        generalize wc = w5 at *
        have k1 := CBox.new w5 3 #[.int .i64 0]
        have b5 := (Below.refl w5.heap.size w5).alloc (Nat.le_refl _) (.cells #[.int .i64 0] 3)
        have HZ5 := Lib.hid (HZ4.out.next b5)
        have HB5 := Lib.hid (HB4.out.trans (b5.mono HB4.out.size))
        have HC5 := Lib.hid (HC4.out.next b5)
        have HL5 := Lib.hid (HL4.out.next b5)
        have HU5 := Lib.hid (HU4.out.next b5)
        have HM5 := Lib.hid (HM4.out.next b5)
        have HN5 := Lib.hid (HN4.out.next b5)
        clear b5
        have HN_ := Lib.hid k1
        clear k1
        go_upto_region 8 with fail
        generalize (w5.alloc (.cells #[.int .i64 0] 3)) = w6 at *
        have lL := HL4.out.lt
        have lU := HU4.out.lt
        have lM := HM4.out.lt
        have lN := HN4.out.lt
        have gz := HZ4.out.lt
        clear HB0 HZ0 HC0 HB1 HZ1 HC1 HB2 HZ2 HC2 HB3 HZ3 HC3 HB4 HZ4 HC4 HL3 HU3 HL4 HU4 HM4 HN4 K RR
        generalize w5.heap.size = qn at *
        have xC0 : w6.cell? ⟨w.heap.size, 0, none⟩ = some (.int .i64 px) := HC5.out.c 0 rfl
        have xC1 : w6.cell? ⟨w.heap.size, 1, none⟩ = some (.int .i64 py) := HC5.out.c 1 rfl
        have xC2 : w6.cell? ⟨w.heap.size, 2, none⟩ = some (.int .i64 qx) := HC5.out.c 2 rfl
        have xC3 : w6.cell? ⟨w.heap.size, 3, none⟩ = some (.int .i64 qy) := HC5.out.c 3 rfl
        have xC4 : w6.cell? ⟨w.heap.size, 4, none⟩ = some (.int .i64 rx) := HC5.out.c 4 rfl
        have xC5 : w6.cell? ⟨w.heap.size, 5, none⟩ = some (.int .i64 ry) := HC5.out.c 5 rfl
        have xC6 : w6.cell? ⟨w.heap.size, 6, none⟩ = some (.int .i64 sx) := HC5.out.c 6 rfl
        have xC7 : w6.cell? ⟨w.heap.size, 7, none⟩ = some (.int .i64 sy) := HC5.out.c 7 rfl
        go_wp2_with fail
        refine (PC.out _).mono ?_
        clear xC0 xC1 xC2 xC3 xC4 xC5 xC6 xC7
        rintro o W0 ⟨gf, lb, a, b, rfl, eg, b2, ha, hb, hca, hfe⟩
        have HL := Lib.hid (HL5.out.next b2); have HU := Lib.hid (HU5.out.next b2); have HM := Lib.hid (HM5.out.next b2); have HN := Lib.hid (HN5.out.next b2); have HQ := Lib.hid (HN_.out.next b2); have HB := Lib.hid (HB5.out.trans (b2.mono HB5.out.size)); have HZ := Lib.hid (HZ5.out.next b2)
        have hlt : qn < W0.heap.size := HQ.out.lt
        have hqa : qn < a := Nat.lt_of_lt_of_le HN_.out.lt ha
        have hfe5 := FeedsO.wideAny (n := 5) hfe
        have hrun := nil_neqP gf lb W0
        clear hfe PC HL5 HU5 HM5 HN5 HB5 HZ5 HC5 HN_ b2
        go_wp2
        refine (wpIn_wide (n := 6)).1 ?_
        have AB : AbideO T12p W0.heap.size (fun (pre : List (Int × Int)) X => (CBox (w.heap.size + 1) 4 #[.bool false] X ∧ CBox qn 3 #[.int .i64 (pre.length : Int)] X) ∧ (CBox qL 2 #[.int .i64 l] X ∧ CBox qU 2 #[.int .i64 h] X ∧ CBox qM 2 #[.int .i64 lo] X ∧ CBox qN 2 #[.int .i64 hi] X) ∧ (Below w.heap.size w X ∧ W0.heap.size ≤ X.heap.size) ∧ pre.length < 3000) := ((abideO_box (by omega)).and (abideO_boxP (by omega) (fun pre => #[.int .i64 (pre.length : Int)]))).and (((abideO_box (by omega)).and ((abideO_box (by omega)).and ((abideO_box (by omega)).and (abideO_box (by omega))))).and ((abideO_below (by omega)).and (abideO_pre (fun pre => pre.length < 3000))))
        have HAB := Lib.hid AB
        refine wpIn_feedsO (T := T12p) (ca := a) (cb := b) (enc := encQ) (RES := RES) rfl (by decide) (gf := gf) (lb := lb) rfl trivial eg
          hfe5 (Mid.refl _ _ _) hb (fun _ => rfl) (fun pre X => (CBox (w.heap.size + 1) 4 #[.bool false] X ∧ CBox qn 3 #[.int .i64 (pre.length : Int)] X) ∧ (CBox qL 2 #[.int .i64 l] X ∧ CBox qU 2 #[.int .i64 h] X ∧ CBox qM 2 #[.int .i64 lo] X ∧ CBox qN 2 #[.int .i64 hi] X) ∧ (Below w.heap.size w X ∧ W0.heap.size ≤ X.heap.size) ∧ pre.length < 3000) (fun c _ X => c = .exit 0 ∧ (CBox (w.heap.size + 1) 4 #[.bool false] X ∧ CBox qn 3 #[.int .i64 3000] X) ∧ Below w.heap.size w X ∧ W0.heap.size ≤ X.heap.size)
          AB (fun c => (abideO_pre (fun _ => c = .exit 0)).and (((abideO_box (by omega)).and (abideO_box (by omega))).and (abideO_below (by omega)))) ⟨⟨HZ.out, HQ.out⟩, ⟨HL.out, HU.out, HM.out, HN.out⟩, ⟨HB.out, Nat.le_refl _⟩, by decide⟩
          (fun x a' X => ∃ Bx, W0.heap.size ≤ Bx ∧ CBox Bx 23 #[.int .i64 x.1, .int .i64 x.2] X ∧ a' = { tmps := #[.agg #[.int .i64 px, .int .i64 py, .int .i64 qx, .int .i64 qy, .int .i64 rx, .int .i64 ry, .int .i64 sx, .int .i64 sy], .pointer (some ⟨w.heap.size, 0, none⟩), .pointer (some ⟨w.heap.size + 1, 0, none⟩), .pointer (some ⟨qL, 0, none⟩), .pointer (some ⟨qU, 0, none⟩), .pointer (some ⟨qM, 0, none⟩), .pointer (some ⟨qN, 0, none⟩), .pointer (some ⟨qn, 0, none⟩), .func (.func gf) #[] lb, .pointer (some ⟨Bx, 0, none⟩), .bool true, .bool false, .agg #[.int .i64 px, .int .i64 py, .int .i64 qx, .int .i64 qy, .int .i64 rx, .int .i64 ry, .int .i64 sx, .int .i64 sy], .bool true, .bool false, u15, u16, u17, u18, u19, u20, u21, u22, u23, u24, u25, u26, u27, u28, u29, u30, u31, u32, u33, u34, u35, u36, u37, u38, u39, u40, u41, u42, u43, u44, u45, u46, u47, u48, u49, u50, u51, u52, u53, u54, u55, u56, u57, u58, u59, u60, u61, u62, u63, u64, u65, u66, .agg #[.int .i64 px, .int .i64 py, .int .i64 qx, .int .i64 qy, .int .i64 rx, .int .i64 ry, .int .i64 sx, .int .i64 sy], .func (.func gf) #[] lb, .func (.func gf) #[] lb, .bool true, .func (.func gf) #[] lb, .agg #[.int .i64 x.1, .int .i64 x.2], undef, undef, undef, undef, undef, undef, undef, undef, undef, undef, undef, undef, undef, undef, undef, undef, undef, undef, undef, undef, undef, undef, undef, undef, undef, undef, undef, undef], defers := [] }) ?own ?assign ?body ?done ?stop
        case own =>
          rintro x a' _ X X' row ⟨Bx, h0, h1, h3⟩ hg hr
          exact ⟨Bx, h0, h1.free hg (fun r e => (hr r e).2), h3⟩
        case assign =>
          rintro l' pre x X K hj hws hpx hK
          have z2 := (Below.refl X.heap.size X).alloc (Nat.le_refl _) (.cells #[.int .i64 x.1, .int .i64 x.2] 23)
          have hj' := HAB.out.abide.new _ _ _ hj z2
          have HJ3 := Lib.hid hj'
          have HZ1 := Lib.hid (CBox.new X 23 #[.int .i64 x.1, .int .i64 x.2]); have HZ2 := Lib.hid z2; have HK := Lib.hid hK
          clear z2 hj hK hj' AB
          unfold encQ
          obtain ⟨ax, ay⟩ := x
          dsimp only at *
          gi_wp2
          exact HK.out _ _ ((KeepsOthers.alloc _ _).from _) (KeepsT.below HZ2.out (by omega)) HJ3.out ⟨_, hws, HZ1.out, rfl⟩
        case done =>
          rintro D X hD ⟨⟨hz, hn⟩, _, ⟨hbe, hsz⟩, hl5⟩ hK
          have hl0 : (0 : Int) < (RES.length : Int) := by omega
          have HZD := Lib.hid hz; have HBD := Lib.hid hbe; have HKD := Lib.hid hK
          have n0 : X.cell? ⟨qn, 0, none⟩ = some (.int .i64 (RES.length : Int)) := hn.c 0 rfl
          have r0 : X.cell? ⟨w.heap.size + 1, 0, none⟩ = some (.bool false) := hz.c 0 rfl; have q0 := hz.z 0
          clear hz hn hbe hK HAB AB hin
          go_wp2_with fail
          exact boxM_done Try.results7 (HZD.out.set 0 (.bool (decide (0 < RES.length))) (show (0 : Nat) < 1 by decide)) (Below.setCell HBD.out (by exact Nat.le_succ _) _) rfl (congrArg Value.bool (decide_eq_true (by omega))) ((Below.heap_setCell _ _ _ _ (by exact fun e => by have e2 : D = w.heap.size + 1 := e; omega)).trans HKD.out) (by omega)
        case stop =>
          rintro D c pre X hD hpre ⟨rfl, ⟨hz, hn⟩, hbe, hsz⟩ hK
          have HZD := Lib.hid hz; have HBD := Lib.hid hbe; have HKD := Lib.hid hK
          have n0 : X.cell? ⟨qn, 0, none⟩ = some (.int .i64 3000) := hn.c 0 rfl
          have r0 : X.cell? ⟨w.heap.size + 1, 0, none⟩ = some (.bool false) := hz.c 0 rfl; have q0 := hz.z 0
          clear hz hn hbe hK HAB AB hin
          gi_wp2_with fail
          (try go_wp2_with fail)
          exact boxM_done Try.results7 (HZD.out.set 0 (.bool true) (show (0 : Nat) < 1 by decide)) (Below.setCell HBD.out (by exact Nat.le_succ _) _) rfl rfl ((Below.heap_setCell _ _ _ _ (by exact fun e => by have e2 : D = w.heap.size + 1 := e; omega)).trans HKD.out) (by omega)
        case body =>
          rintro l' pre x a' X ⟨⟨hz, hn⟩, ⟨fl, fu, fm, fn⟩, ⟨hbe, hsz⟩, hl5⟩ ⟨Bx, hBx, hbx, rfl⟩ hws hpx
          obtain ⟨rr, hpr⟩ := hpx
          have hx : x ∈ RES := by rw [← hpr]; simp
          obtain ⟨⟨i1, i2⟩, i3, i4⟩ := hin x hx
          have HLN := Lib.hid (show ((pre ++ [x]).length : Int) = (pre.length : Int) + 1 by simp)
          have HLM := Lib.hid (show (pre ++ [x]).length = pre.length + 1 by simp)
          clear hx hpr hin HAB AB
          obtain ⟨ax, ay⟩ := x
          dsimp only at *
          have HZ0 := Lib.hid hz; have HN0 := Lib.hid hn; have HB0 := Lib.hid hbe; have HBX := Lib.hid hbx
          have HFL := Lib.hid fl; have HFU := Lib.hid fu; have HFM := Lib.hid fm; have HFN := Lib.hid fn
          have b0 : X.cell? ⟨Bx, 0, none⟩ = some (.int .i64 ax) := hbx.c 0 rfl; have b1 : X.cell? ⟨Bx, 1, none⟩ = some (.int .i64 ay) := hbx.c 1 rfl
          have c0 : X.cell? ⟨qL, 0, none⟩ = some (.int .i64 l) := fl.c 0 rfl; have c1 : X.cell? ⟨qU, 0, none⟩ = some (.int .i64 h) := fu.c 0 rfl
          have c2 : X.cell? ⟨qM, 0, none⟩ = some (.int .i64 lo) := fm.c 0 rfl; have c3 : X.cell? ⟨qN, 0, none⟩ = some (.int .i64 hi) := fn.c 0 rfl
          have n0 : X.cell? ⟨qn, 0, none⟩ = some (.int .i64 (pre.length : Int)) := hn.c 0 rfl; have n1 := hn.z 0
          clear hz hn hbe hbx fl fu fm fn
          have hm1 := Lib.hid (show qn ∈ [qn] by simp)
          have he12 := Lib.hid (show ∀ k ∈ [qn], k < W0.heap.size ∧ (k < a ∨ b ≤ k) by
            intro k hk
            simp only [List.mem_cons, List.not_mem_nil, or_false] at hk
            omega)
          have SM := Lib.hid ((Small12.refl W0.heap.size [qn] X).set (o := 0) hm1.out (.int .i64 ((pre.length : Int) + 1)))
          have BE := Lib.hid (Below.setCell HB0.out (p := ⟨qn, 0, none⟩) (show w.heap.size ≤ qn by omega) (.int .i64 ((pre.length : Int) + 1)))
          have ZZ := Lib.hid (HZ0.out.other (show w.heap.size + 1 ≠ qn by omega) 0 (.int .i64 ((pre.length : Int) + 1)))
          have NN := Lib.hid (HN0.out.set 0 (.int .i64 ((pre.length : Int) + 1)) (show (0 : Nat) < 1 by decide))
          have F1 := Lib.hid (HFL.out.other (show qL ≠ qn by omega) 0 (.int .i64 ((pre.length : Int) + 1)))
          have F2 := Lib.hid (HFU.out.other (show qU ≠ qn by omega) 0 (.int .i64 ((pre.length : Int) + 1)))
          have F3 := Lib.hid (HFM.out.other (show qM ≠ qn by omega) 0 (.int .i64 ((pre.length : Int) + 1)))
          have F4 := Lib.hid (HFN.out.other (show qN ≠ qn by omega) 0 (.int .i64 ((pre.length : Int) + 1)))
          have j1 : ¬ ax < l := by omega
          have j2 : ¬ h < ax := by omega
          have j3 : ¬ ay < lo := by omega
          have j4 : ¬ hi < ay := by omega
          clear i1 i2 i3 i4
          by_cases h5 : ((pre.length : Int) + 1 == 3000) = true
          · have h6 := Lib.hid (show (pre.length : Int) + 1 = 3000 by simpa using h5)
            gi_wp2_with fail
            have hk := SM.out.keeps (T := T12p) hsz hb he12.out
            have NM := NN.out
            exact ⟨hk.1, rfl, ⟨ZZ.out, by rw [h6.out] at NM ⊢; exact NM⟩, BE.out, Nat.le_trans hsz SM.out.size⟩
          · have h6 : ((pre.length : Int) + 1 == 3000) = false := by simpa using h5
            have h7 := Lib.hid (show (pre.length : Int) + 1 ≠ 3000 by simpa using h5)
            gi_wp2_with fail
            have hk := SM.out.keeps (T := T12p) hsz hb he12.out
            exact ⟨hk.1, hk.2, ⟨ZZ.out, by rw [HLN.out]; exact NN.out⟩, ⟨F1.out, F2.out, F3.out, F4.out⟩, ⟨BE.out, Nat.le_trans hsz SM.out.size⟩, by rw [HLM.out]; have := h7.out; omega⟩
  · rw [decide_eq_false hr] at RR
    clear hr PI CO
    obtain ⟨px, py, qx, qy, rx, ry, sx, sy⟩ := c
    unfold Crv.val Crv.arr at *
    dsimp only at *
    obtain ⟨k1, k2, k3⟩ := boxes_two w #[.int .i64 px, .int .i64 py, .int .i64 qx, .int .i64 qy, .int .i64 rx, .int .i64 ry, .int .i64 sx, .int .i64 sy] #[.bool false] 25 4
    have HC0 := Lib.hid k1; have HZ0 := Lib.hid k2; have HB0 := Lib.hid k3
    clear k1 k2 k3
    refine callsIn_of_wp_marks Try.func7 rfl trivial ?_ rfl
    simp only [Try.ntmps7, List.size_toArray, List.length_cons, List.length_nil, Nat.reduceAdd, Nat.reduceSub, Array.replicate_succ, Array.replicate_zero, List.push_toArray, List.append_toArray, List.nil_append, List.cons_append]
    refine wpIn_wide.2 ?_
    go_upto_region 1 with fail
    generalize ((w.alloc (.cells #[.int .i64 px, .int .i64 py, .int .i64 qx, .int .i64 qy, .int .i64 rx, .int .i64 ry, .int .i64 sx, .int .i64 sy] 25)).alloc (.cells #[.bool false] 4)) = w1 at *
    go_wp2_with fail
    refine (K.out _).mono ?_
    rintro e w2 ⟨rfl, b1⟩
    have HZ1 := Lib.hid (HZ0.out.next b1)
    have HB1 := Lib.hid (HB0.out.trans (b1.mono HB0.out.size))
    have HC1 := Lib.hid (HC0.out.next b1)
    clear b1
    go_upto_region 3 with fail
    have xC0 : w2.cell? ⟨w.heap.size, 0, none⟩ = some (.int .i64 px) := HC1.out.c 0 rfl
    have xC1 : w2.cell? ⟨w.heap.size, 1, none⟩ = some (.int .i64 py) := HC1.out.c 1 rfl
    have xC2 : w2.cell? ⟨w.heap.size, 2, none⟩ = some (.int .i64 qx) := HC1.out.c 2 rfl
    have xC3 : w2.cell? ⟨w.heap.size, 3, none⟩ = some (.int .i64 qy) := HC1.out.c 3 rfl
    have xC4 : w2.cell? ⟨w.heap.size, 4, none⟩ = some (.int .i64 rx) := HC1.out.c 4 rfl
    have xC5 : w2.cell? ⟨w.heap.size, 5, none⟩ = some (.int .i64 ry) := HC1.out.c 5 rfl
    have xC6 : w2.cell? ⟨w.heap.size, 6, none⟩ = some (.int .i64 sx) := HC1.out.c 6 rfl
    have xC7 : w2.cell? ⟨w.heap.size, 7, none⟩ = some (.int .i64 sy) := HC1.out.c 7 rfl
    go_wp2_with fail
    refine (RR.out _).mono ?_
    rintro e w3 ⟨rfl, b2⟩
    clear xC0 xC1 xC2 xC3 xC4 xC5 xC6 xC7
    have HZ2 := Lib.hid (HZ1.out.next b2)
    have HB2 := Lib.hid (HB1.out.trans (b2.mono HB1.out.size))
    have HC2 := Lib.hid (HC1.out.next b2)
    clear b2
    have r0 : w3.cell? ⟨w.heap.size + 1, 0, none⟩ = some (.bool false) := HZ2.out.c 0 rfl; have q0 := HZ2.out.z 0
    go_wp2_with fail
    exact boxM_ret Try.results7 (HZ2.out.set 0 (.bool true) (show (0 : Nat) < 1 by decide)) (Below.setCell HB2.out (by exact Nat.le_succ _) _) rfl rfl
end Go.Proofs.Ytgkjbmejfcijkaa
