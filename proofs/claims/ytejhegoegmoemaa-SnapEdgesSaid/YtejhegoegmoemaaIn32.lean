/-
  The bound of the whole: more than -2^32 and less than 2^32.
-/
namespace Go.Proofs.Ytejhegoegmoemaa

def In32 (z : Int) : Prop := -4294967296 < z ∧ z < 4294967296
instance (z : Int) : Decidable (In32 z) := by unfold In32; infer_instance
theorem in_zero : In32 0 := ⟨by decide, by decide⟩
end Go.Proofs.Ytejhegoegmoemaa
