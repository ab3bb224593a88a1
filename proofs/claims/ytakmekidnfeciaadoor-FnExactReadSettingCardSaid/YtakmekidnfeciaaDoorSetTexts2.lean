/-
  The text of a setting: what the program's function returns. Condition: its tables of names hold what its text lays.
-/
import Derived.Test.YtakmekidnfeciaaDoorSetTexts
import Derived.Test.YtakmekidnfeciaaDoorWSets
namespace Go.Proofs.YtakmekidnfeciaaDoor
open Go.RowKit

theorem StrTab.drewN {g : Nat} {zs : List (List UInt8)} {w : World} (h : StrTab g zs w) (n : Nat) : StrTab g zs (w.drewN n) := fun i hi => h i hi
theorem quiet_same1 {P : Program} {f : FuncId} {args : Array Value} {w : World} {n : Nat} {v : Value}
    (h : Calls P f args (w.drewN n) fun e w' => e = .returned v ∧ w.drewN n = w') : Calls P f args (w.drewN n) fun e w'' => e = .returned v ∧ ∃ m, w'' = w.drewN m :=
  h.mono fun _ _ ⟨he, hm⟩ => ⟨he, n, hm.symm⟩
theorem quiet_more {P : Program} {f : FuncId} {args : Array Value} {w : World} {n : Nat} {v : Value}
    (h : Calls P f args (w.drewN n) fun e w' => e = .returned v ∧ ∃ m, w' = (w.drewN n).drewN m) : Calls P f args (w.drewN n) fun e w'' => e = .returned v ∧ ∃ m, w'' = w.drewN m :=
  h.mono fun _ _ ⟨he, m, hm⟩ => ⟨he, n + m, by rw [hm, World.drewN_drewN]⟩

end Go.Proofs.YtakmekidnfeciaaDoor
