/-
  Edges snapped, plainly: those that go nowhere are left out.
-/
import Derived.Test.YtejhegoegmoemaaSnapMath
import Derived.Test.YtejhegoegmoemaaEdgMem
namespace Go.Proofs.Ytejhegoegmoemaa

def snapE (g : Edg) : Edg := ⟨snapN g.px, snapN g.py, snapN g.qx, snapN g.qy⟩
def Goes14 (g : Edg) : Prop := ¬ snapN g.py = snapN g.qy
instance decGoes14 (g : Edg) : Decidable (Goes14 g) := by unfold Goes14; infer_instance
def snapL : List Edg → List Edg
  | [] => []
  | g :: t => if Goes14 g then snapE g :: snapL t else snapL t
theorem snapL_append : ∀ a b : List Edg, snapL (a ++ b) = snapL a ++ snapL b
  | [], b => rfl
  | g :: t, b => by
    simp only [List.cons_append, snapL]
    split <;> simp [snapL_append t b]
theorem snapL_len : ∀ l : List Edg, (snapL l).length ≤ l.length
  | [] => Nat.le_refl _
  | g :: t => by
    have := snapL_len t
    simp only [snapL]
    split <;> simp <;> omega
theorem snapL_take {l : List Edg} {i : Nat} {g : Edg} (h : l[i]? = some g) : snapL (l.take (i + 1)) = snapL (l.take i) ++ (if Goes14 g then [snapE g] else []) := by
  rw [List.take_add_one, h, snapL_append]
  congr 1
/-- An edge turned about. -/
def backE (g : Edg) : Edg := ⟨g.qx, g.qy, g.px, g.py⟩
theorem goes_back (g : Edg) : Goes14 (backE g) ↔ Goes14 g := by
  unfold Goes14 backE
  exact ⟨fun h e => h e.symm, fun h e => h e.symm⟩
theorem snap_back (g : Edg) : snapE (backE g) = backE (snapE g) := rfl
end Go.Proofs.Ytejhegoegmoemaa
