/-
  From a row's list of variables to what the walks ask: the sentinels, the table of times. Of each row of this seat. No condition of ours.
-/
import Derived.Test.YtnlcjbobfhmnmabDoorErrs
namespace Go.Proofs.YtnlcjbobfhmnmabDoor
open Go.RowKit

theorem laidMet_dropWhile {P : Program} {w : World} {p : String × DataW Unit → Bool} : ∀ {l : List (String × DataW Unit)}, laidMet P l w → laidMet P (l.dropWhile p) w
  | [], h => h
  | x :: r, h => by
    rw [List.dropWhile_cons]
    split
    · exact laidMet_dropWhile h.tail
    · exact h
theorem plain_of {l : List (String × DataW Unit)} {w : World} (h : laidMetH Tryd.prog l w) (hp : (l.all fun x => x.2.handleName?.isNone) = true) : laidMet Tryd.prog l w := by
  unfold laidMetH at h
  have e : l.filter (fun x => x.2.handleName?.isSome) = [] := by
    rw [List.filter_eq_nil_iff]
    intro x hx
    have := List.all_eq_true.1 hp x hx
    cases hh : x.2.handleName? <;> simp [hh] at this ⊢
  rw [e] at h
  exact h
/-- From the variable of this name on. -/
abbrev fromOn (n : String) (l : List (String × DataW Unit)) : List (String × DataW Unit) := l.dropWhile fun x => x.1 != n
theorem errEnv_of_row {l : List (String × DataW Unit)} {w : World} (h : laidMetH Tryd.prog l w) (hp : (l.all fun x => x.2.handleName?.isNone) = true)
    (he : fromOn "loop.example/g01301/impl.errInvalid" l = errNames.map (fun x => (x.1, DataW.iface "*errors.errorString" (.ptr (.agg [.lit (.string x.2)])))) ++ (fromOn "loop.example/g01301/impl.errInvalid" l).drop errNames.length) : ∃ s, ErrEnv s w :=
  errEnv_of_laid (by rw [← he]; exact laidMet_dropWhile (plain_of h hp))

end Go.Proofs.YtnlcjbobfhmnmabDoor
