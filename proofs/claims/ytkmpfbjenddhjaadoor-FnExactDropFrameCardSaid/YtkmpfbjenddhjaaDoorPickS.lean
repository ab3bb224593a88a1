/-
  Frames picked, by the reference. Condition: at most 1048576 frames of int16 numbers, at most 1048576 indices.
-/
import Derived.Test.YtkmpfbjenddhjaaDoorSwapS
import Derived.Test.YtkmpfbjenddhjaaDoorLitPr
namespace Go.Proofs.YtkmpfbjenddhjaaDoor
open Go.RowKit

/-- The code of a sheet and a list of frames. -/
def picC (X : Int) (n : Nat) (g : Nat → Nat → Int) (m : Nat) (xs : Nat → Int) : Int := if frmC X n g m xs = 0 then (if 12 < m then 3 else 0) else frmC X n g m xs
/-- The frames that were asked. -/
def picG (g : Nat → Nat → Int) (xs : Nat → Int) : Nat → Nat → Int := fun j => g (xs j).toNat
theorem frmC_no {X : Int} {n m j : Nat} {g : Nat → Nat → Int} {xs : Nat → Int} (h : shtB X n g = true) (hj : j < m) (hx : inB (xs j) 0 ((n : Int) - 1) = false) : frmC X n g m xs = 2 := by
  have hno : ¬ ((List.range m).all fun j => inB (xs j) 0 ((n : Int) - 1)) = true := fun h => by
    have := List.all_eq_true.1 h j (List.mem_range.2 hj)
    rw [hx] at this; cases this
  simp only [frmC, h, if_true, if_neg hno]
theorem frmC_yes {X : Int} {n m : Nat} {g : Nat → Nat → Int} {xs : Nat → Int} (h : shtB X n g = true) (ha : ∀ i, i < m → inB (xs i) 0 ((n : Int) - 1) = true) : frmC X n g m xs = 0 := by
  have hyes : ((List.range m).all fun k => inB (xs k) 0 ((n : Int) - 1)) = true := List.all_eq_true.2 fun k hk => ha k (List.mem_range.1 hk)
  simp only [frmC, h, if_true, if_pos hyes]
theorem picC_no {X : Int} {n m : Nat} {g : Nat → Nat → Int} {xs : Nat → Int} {c : Int} (h : frmC X n g m xs = c) (hc : c ≠ 0) : picC X n g m xs = c := by
  unfold picC; rw [h, if_neg hc]
theorem picC_lim {X : Int} {n m : Nat} {g : Nat → Nat → Int} {xs : Nat → Int} (h : frmC X n g m xs = 0) (hm : 12 < m) : picC X n g m xs = 3 := by
  unfold picC; rw [h, if_pos rfl, if_pos hm]
theorem picC_ok {X : Int} {n m : Nat} {g : Nat → Nat → Int} {xs : Nat → Int} (h : frmC X n g m xs = 0) (hm : ¬ 12 < m) : picC X n g m xs = 0 := by
  unfold picC; rw [h, if_pos rfl, if_neg hm]
/-- What picking hands back. -/
def PicOut (L : Nat) (X : Int) (n : Nat) (g : Nat → Nat → Int) (m : Nat) (xs : Nat → Int) (w : World) (e : Ending) (w' : World) : Prop :=
  ShtOut L (if picC X n g m xs = 0 then X else 0) (if picC X n g m xs = 0 then m else 0) (picG g xs) (picC X n g m xs) w e w'
theorem PicOut.of_ok {L : Nat} {X : Int} {n : Nat} {g : Nat → Nat → Int} {m : Nat} {xs : Nat → Int} {w : World} {e : Ending} {w' : World} (hc : picC X n g m xs = 0) (h : ShtOut L X m (picG g xs) 0 w e w') : PicOut L X n g m xs w e w' := by
  unfold PicOut; rw [hc]; exact h
theorem PicOut.of_no {L : Nat} {X : Int} {n : Nat} {g : Nat → Nat → Int} {m : Nat} {xs : Nat → Int} {w : World} {e : Ending} {w' : World} {c : Int} (hc : picC X n g m xs = c) (h0 : c ≠ 0) (h : ShtOut L 0 0 (picG g xs) c w e w') : PicOut L X n g m xs w e w' := by
  unfold PicOut; rw [hc, if_neg h0, if_neg h0]; exact h
theorem prL_snoc (G : Nat → Nat → Int) (h : Nat → Nat → Int) (j : Nat) (e : h 0 = G j) : prL (appF G h j) (j + 1) = prL G (j + 1) :=
  prL_congr fun i hi k _ => by
    unfold appF
    by_cases h1 : i < j
    · rw [if_pos h1]
    · rw [if_neg h1, show i - j = 0 by omega, e, show i = j by omega]

theorem yields_load_part {P : Program} {ops : Array Oper} {S : World → Prop} {op : Oper} {a : Act} {b o : Nat} {κ : IntKind} {n m : Nat} {f : Nat → Int} {V : Array Value} {e : TypeId} (h : ∀ W, S W → PartA W b o κ n f) (hV : arrV κ n f = V) (ty : TypeId) (x : Operand)
    (hgd : op.guard = none) (ho : op.op = .load ty x) (hx : a.eval x = .pointer (some ⟨b, o, none⟩)) (hu : P.underlying ty = some (.array m e)) (hi : (P.info? ty).map (·.size) = some n) : YieldsIf P ops S op (.agg V) a :=
  .inl ⟨by simp [Region.wanted, hgd], fun W hW => by subst hV; exact run_load_part (h W hW) ty x ho hx hu hi⟩

end Go.Proofs.YtkmpfbjenddhjaaDoor
