/-
  The nearest whole number to a fraction.
-/
namespace Go.Proofs.Ytainocdbapnaaaa

/-- The nearest whole number to v / d; of two that are as near the greater one. -/
def near (v : Int) (d : Nat) : Int := (v + (d : Int) / 2) / (d : Int)
end Go.Proofs.Ytainocdbapnaaaa
