/-
  The steps that a print wants: the least light of each cell, the cells of each light, the list of steps: plain. No condition.
-/
import Derived.Test.YtnlcjbobfhmnmaaDoorPrnX
import Derived.Test.YtnlcjbobfhmnmaaDoorPlainBath
import Derived.Test.YtnlcjbobfhmnmaaDoorMaskT
import Derived.Test.YtnlcjbobfhmnmaaDoorOwnStepS
import Derived.Test.YtnlcjbobfhmnmaaDoorMirX
import Derived.Maps.AppendAt
namespace Go.Proofs.YtnlcjbobfhmnmaaDoor
open Go.RowKit

/-- The density of cell c by light L. -/
def sfD (f : Nat → Int) (n : Nat) (xs ys : Nat → Int) (c L : Nat) : Int := dens n xs ys (plc (L : Int) (f c))
/-- The least light for cell c, 37 if there is none. -/
def sfT (f : Nat → Int) (n : Nat) (xs ys : Nat → Int) (g : Nat → Int) (c : Nat) : Nat := least (fun L => decide (g c ≤ sfD f n xs ys c L)) 37
/-- The cells that want light L, among the first k; those that want less. -/
def sfM (T : Nat → Nat) (L k : Nat) : Nat := maskN (fun c => decide (T c = L)) k
def sfU (T : Nat → Nat) (L : Nat) : Nat := maskN (fun c => decide (T c < L)) 64
/-- The steps of the lights below L. -/
def sfL (T : Nat → Nat) : Nat → List (Int × Int)
  | 0 => []
  | L + 1 => if sfM T L 64 = 0 then sfL T L else sfL T L ++ [(((sfM T L 64 : Nat) : Int), (L : Int))]
theorem sfL_no {T : Nat → Nat} {L : Nat} (h : sfM T L 64 = 0) : sfL T (L + 1) = sfL T L := if_pos h
theorem sfL_yes {T : Nat → Nat} {L : Nat} (h : sfM T L 64 ≠ 0) : sfL T (L + 1) = sfL T L ++ [(((sfM T L 64 : Nat) : Int), (L : Int))] := if_neg h
theorem sfL_len (T : Nat → Nat) : ∀ L, (sfL T L).length ≤ L
  | 0 => Nat.le_refl _
  | L + 1 => by
    have := sfL_len T L
    unfold sfL
    split <;> simp <;> omega
theorem sfM_lt (T : Nat → Nat) (L k : Nat) (hk : k ≤ 64) : sfM T L k < 18446744073709551616 := maskN_lt _ k hk
theorem sfU_lt (T : Nat → Nat) (L : Nat) : sfU T L < 18446744073709551616 := maskN_lt _ 64 (Nat.le_refl _)
theorem sfM_0 (T : Nat → Nat) (L : Nat) : sfM T L 0 = 0 := rfl
theorem sfU_0 (T : Nat → Nat) : sfU T 0 = 0 := by
  apply Nat.eq_of_testBit_eq
  intro j
  unfold sfU
  rw [maskN_bit]
  simp
theorem sfU_step (T : Nat → Nat) (L : Nat) : sfU T L ||| sfM T L 64 = sfU T (L + 1) := by
  apply Nat.eq_of_testBit_eq
  intro j
  unfold sfU sfM
  rw [Nat.testBit_or, maskN_bit, maskN_bit, maskN_bit]
  by_cases h : j < 64
  · simp only [h, decide_true, Bool.true_and]
    rw [Bool.eq_iff_iff]
    simp
    omega
  · simp [h]
theorem sfM_more (T : Nat → Nat) (L k : Nat) : sfM T L (k + 1) = if T k = L then sfM T L k ||| 2 ^ k else sfM T L k := by
  unfold sfM
  split
  · rename_i h; exact maskN_yes (by simpa using h)
  · rename_i h; exact maskN_no (by simpa using h)
/-- All cells have a light if none is left. -/
theorem sfU_all (T : Nat → Nat) : sfU T 37 = 18446744073709551615 ↔ ∀ c, c < 64 → T c < 37 := by
  constructor
  · intro h c hc
    have hb : (sfU T 37).testBit c = true := by
      rw [h]
      rw [show (18446744073709551615 : Nat) = 2 ^ 64 - 1 from rfl, Nat.testBit_two_pow_sub_one]
      simpa using hc
    unfold sfU at hb
    rw [maskN_bit] at hb
    simpa [hc] using hb
  · intro h
    apply Nat.eq_of_testBit_eq
    intro j
    unfold sfU
    rw [maskN_bit, show (18446744073709551615 : Nat) = 2 ^ 64 - 1 from rfl, Nat.testBit_two_pow_sub_one]
    by_cases hj : j < 64
    · simp [hj, h j hj]
    · simp [hj]
/-- The cells of steps. -/
def celT (l : List (Int × Int)) : List Value := l.flatMap fun p => [.int .u64 p.1, .int .i8 p.2]
theorem celT_app (l r : List (Int × Int)) : celT (l ++ r) = celT l ++ celT r := by simp [celT]
theorem celT_one (x y : Int) : celT [(x, y)] = [.int .u64 x, .int .i8 y] := rfl
theorem celT_take (l : List (Int × Int)) : ∀ k, k ≤ l.length → celT (l.take k) = listSt (fun j => (l.getD j (0, 0)).1) (fun j => (l.getD j (0, 0)).2) k
  | 0, _ => rfl
  | k + 1, h => by
    have ih := celT_take l k (by omega)
    have e : l.take (k + 1) = l.take k ++ [l.getD k (0, 0)] := by
      rw [List.take_add_one, List.getD_eq_getElem?_getD, List.getElem?_eq_getElem (by omega)]; rfl
    rw [e, celT_app, ih]; rfl
theorem celT_list (l : List (Int × Int)) : celT l = listSt (fun j => (l.getD j (0, 0)).1) (fun j => (l.getD j (0, 0)).2) l.length := by
  have h := celT_take l l.length (Nat.le_refl _)
  rwa [List.take_length] at h
/-- What the functions return. -/
def sfB (f : Nat → Int) (n : Nat) (xs ys : Nat → Int) (g : Nat → Int) : Bool := dnsB f && validC n xs ys && dnsB g
def sfA (T : Nat → Nat) : Bool := (List.range 64).all fun c => decide (T c < 37)
theorem sfA_iff {T : Nat → Nat} : sfA T = true ↔ ∀ c, c < 64 → T c < 37 := by simp [sfA]
def sfC (f : Nat → Int) (n : Nat) (xs ys : Nat → Int) (g : Nat → Int) : Int := if sfB f n xs ys g = true then (if sfA (sfT f n xs ys g) = true then 0 else 6) else 1
/-- A new list of steps with a code, with an error. -/
def SfOut (T : Nat → Nat) (C : Int) (w : World) (e : Ending) (w' : World) : Prop :=
  ∃ v, e = .returned (.tuple #[v, .int .i64 C]) ∧ Mine w' w.heap.size w'.heap.size 60 2 v (if C = 0 then (sfL T 37).length else 0) (cellStepS (fun j => ((sfL T 37).getD j (0, 0)).1) (fun j => ((sfL T 37).getD j (0, 0)).2)) ∧ Below w.heap.size w w'
def SfErr (s : Ers) (T : Nat → Nat) (C : Int) (w : World) (e : Ending) (w' : World) : Prop :=
  ∃ v ev, e = .returned (.tuple #[v, ev]) ∧ IsCode s ev C ∧ Mine w' w.heap.size w'.heap.size 60 2 v (if C = 0 then (sfL T 37).length else 0) (cellStepS (fun j => ((sfL T 37).getD j (0, 0)).1) (fun j => ((sfL T 37).getD j (0, 0)).2)) ∧ Below w.heap.size w w'
theorem sfT_spec (f : Nat → Int) (n : Nat) (xs ys : Nat → Int) (g : Nat → Int) (c : Nat) : sfT f n xs ys g c ≤ 37 ∧ (∀ L, L < sfT f n xs ys g c → sfD f n xs ys c L < g c) ∧ (sfT f n xs ys g c < 37 → g c ≤ sfD f n xs ys c (sfT f n xs ys g c)) := by
  have h := least_spec (n := 37) (q := fun L => decide (g c ≤ sfD f n xs ys c L))
  refine ⟨h.1, fun L hL => ?_, fun h2 => of_decide_eq_true (h.2.2 h2)⟩
  have := of_decide_eq_false (h.2.1 L hL)
  omega
/-- The cells that are dense enough by light L and were not by less. -/
theorem sfM_of (f : Nat → Int) (n : Nat) (xs ys : Nat → Int) (g : Nat → Int) (L : Nat) (hL : L < 37) : ∀ j, ((maskN (fun c => decide (g c ≤ sfD f n xs ys c L)) 64).testBit j && !(sfU (sfT f n xs ys g) L).testBit j) = (sfM (sfT f n xs ys g) L 64).testBit j := by
  intro j
  unfold sfU sfM
  rw [maskN_bit, maskN_bit, maskN_bit]
  by_cases hj : j < 64
  · obtain ⟨h1, h2, h3⟩ := sfT_spec f n xs ys g j
    simp only [hj, decide_true, Bool.true_and]
    rw [Bool.eq_iff_iff]
    simp only [Bool.and_eq_true, Bool.not_eq_true', decide_eq_true_eq, decide_eq_false_iff_not]
    constructor
    · rintro ⟨ha, hb⟩
      rcases Nat.lt_trichotomy (sfT f n xs ys g j) L with h | h | h
      · exact absurd h hb
      · exact h
      · have := h2 L h; omega
    · intro h
      subst h
      exact ⟨h3 hL, by omega⟩
  · simp [hj]
end Go.Proofs.YtnlcjbobfhmnmaaDoor
