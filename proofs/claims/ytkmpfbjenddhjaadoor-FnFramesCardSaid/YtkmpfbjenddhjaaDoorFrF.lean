/-
  What the law on sheets asks of plain numbers: rows, places, frames that are exchanged, left out and picked; a list of numbers that grows. No condition of ours.
-/
import Derived.Test.YtkmpfbjenddhjaaDoorShtD
import Derived.Test.YtkmpfbjenddhjaaDoorSame
import Derived.Test.YtkmpfbjenddhjaaDoorFat
import Derived.Test.YtkmpfbjenddhjaaDoorDrkI
import Derived.Test.YtkmpfbjenddhjaaDoorSwapX
import Derived.Test.YtkmpfbjenddhjaaDoorDropX
import Derived.Test.YtkmpfbjenddhjaaDoorOwnInts
namespace Go.Proofs.YtkmpfbjenddhjaaDoor
open Go.RowKit

/-! ### A list of numbers of a call's own -/
def i64L (xs : Nat → Int) (n : Nat) : List Value := (List.range n).map fun j => .int .i64 (xs j)
theorem i64L_len (xs : Nat → Int) (n : Nat) : (i64L xs n).length = n := by simp [i64L]
theorem i64L_snoc (xs : Nat → Int) (n : Nat) : i64L xs (n + 1) = i64L xs n ++ [.int .i64 (xs n)] := by simp [i64L, List.range_succ]
section
variable {ops : Array Oper} {rest : List Oper} {o : Oper} {a : Act} {Q : Exit → Act → World → Prop} {w : World}
theorem grownBy_allocF {w w' : World} {o : Obj} {row : Option Nat} (h : (w.alloc o).grownBy w' row) : w.grownBy w' row :=
  ⟨h.os, h.tape, h.output, by have := h.size; simp at this; omega, fun k hk hne => (h.block k (by simp; omega) hne).trans (Below.heap_alloc w o k hk)⟩
theorem wpList_append_i64 (hgd : o.guard = none) (s x : Operand) (ho : o.op = .call { callee := .builtin .append, args := #[s, x], argTypes := #[49, 49] })
    {L n : Nat} {v : Value} {xs : Nat → Int} {y : Int} (hs : a.eval s = v) (hown : w.ownsRow L 2 1 v n (i64L xs n)) (hx : a.eval x = .slice (some ⟨w.heap.size, 0, none⟩) 1 1) (hy : xs n = y) (hn : n ≤ 1000000) (hL : L ≤ w.heap.size)
    (h : ∀ v' w', w'.ownsRow L 2 1 v' (n + 1) (i64L xs (n + 1)) → Below L w w' → wpList Tryd.prog ops Q rest (a.put o.dst v') w') :
    wpList Tryd.prog ops Q (o :: rest) a (w.alloc (.cells #[.int .i64 y] 2)) := by
  obtain ⟨i0, hi, hz0, hz1, hz2⟩ := info_parts i64Info
  refine wpList_append_own_at _ hgd s x 49 ho L 2 i0 (.int .i64 0) 1 8 Tryd.underlying49 hi hz0 hz1 hz2 rfl (by decide) v n (i64L xs n) hs (hown.alloc _) ⟨w.heap.size, 0, none⟩ 1 1 [.int .i64 y] hx rfl (cell_one_new _ _ _) (by simp [Value.oneCell']) (by unfold maxLen; omega) (by omega) (by simp; omega) ?_
  intro v' w' h1 h2 _ _
  subst hy
  refine h v' w' ?_ ?_
  · rw [i64L_snoc]; exact h1
  · exact Below.grown (Below.refl _ _) (grownBy_allocF h2) hL (fun k hk => (hown.lt k hk).1)
theorem ints_own {L n : Nat} {v : Value} {xs : Nat → Int} (h : w.ownsRow L 2 1 v n (i64L xs n)) : ∃ A c, v = .slice A n c ∧ IntsIn w A n xs := by
  obtain ⟨hl, h⟩ := h
  rcases h with ⟨rfl, h0⟩ | ⟨b, cap, cur, rfl, hb, hh, hn', hm, hs, ht⟩
  · subst h0
    exact ⟨none, 0, rfl, .inl rfl⟩
  · refine ⟨_, cap, rfl, .inr ⟨b, 0, rfl, (Array.getElem?_eq_some_iff.1 hh).1, fun j hj => ?_⟩⟩
    have hr : w.rowIs b 2 (cap * 1) (fun j => cur[j]?.getD undef) := ⟨cur, hh, hs, fun i hi => by
      have h0 : i < cur.size := by omega
      simp [h0]⟩
    rw [Nat.zero_add, hr.cell (by omega)]
    have h1 : (i64L xs n)[j]? = some (.int .i64 (xs j)) := by simp [i64L, hj]
    rw [← ht, List.getElem?_take, if_pos (by omega)] at h1
    have h2 : cur[j]? = some (.int .i64 (xs j)) := by simpa using h1
    show some (cur[j]?.getD undef) = _
    rw [h2]; rfl
end

/-! ### All numbers but one -/
def skF (i : Nat) : Nat → Int := fun j => if j < i then (j : Int) else (j : Int) + 1
def skN (i j : Nat) : Nat := if j ≤ i then j else j - 1
theorem skN_no {i j : Nat} (h : j ≠ i) : skN i (j + 1) = skN i j + 1 ∧ skF i (skN i j) = (j : Int) := by
  unfold skN skF
  by_cases h1 : j < i
  · rw [if_pos (by omega), if_pos (by omega), if_pos h1]; exact ⟨rfl, rfl⟩
  · rw [if_neg (by omega), if_neg (by omega), if_neg (by omega)]; omega
theorem skN_yes (i : Nat) : skN i (i + 1) = skN i i := by unfold skN; rw [if_neg (by omega), if_pos (by omega)]; omega
theorem skN_le (i j : Nat) : skN i j ≤ j := by unfold skN; split <;> omega
theorem skN_end {i n : Nat} (h : i < n) : skN i n = n - 1 := by unfold skN; rw [if_neg (by omega)]
theorem skN_0 (i : Nat) : skN i 0 = 0 := by unfold skN; rw [if_pos (by omega)]

/-! ### What the calls answer of a sheet that is valid -/
section
variable {X : Int} {n : Nat} {g : Nat → Nat → Int}
theorem fr_valid (h1 : 1 ≤ X) (h2 : X ≤ 5) (hn : n ≤ 5) (hg : ∀ i, i < n → Dn 64 (g i)) : shtB X n g = true :=
  shtB_iff.2 ⟨⟨h1, by omega⟩, by omega, prsB_iff.2 fun i hi => (hg i hi).dns⟩
theorem fr_s16 (hg : ∀ i, i < n → Dn 64 (g i)) : ∀ i, i < n → S16 (g i) := fun i hi k hk => by have := hg i hi k hk; omega
theorem fr_rows (hv : shtB X n g = true) (h1 : 1 ≤ X) (h2 : X ≤ 5) (hn : n ≤ 5) : ∃ R P Q : Int, rowsT X n g = #[.int .i64 R, .int .i64 0] ∧ R * X = P ∧ (R - 1) * X = Q ∧ (0 ≤ R ∧ R ≤ 12) ∧ ((n : Int) ≤ P ∧ P ≤ 100) ∧ (-100 ≤ Q ∧ Q < n) ∧ (n = 0 → R = 0) ∧
    ∀ V : Int, X * V < n → V < R := by
  obtain ⟨a, b, c⟩ := rows_bd (X := X) (n := n) h1 (by omega)
  have d : ((n : Int) + X - 1).tdiv X * X ≤ (n : Int) + X - 1 := by
    rw [Int.tdiv_eq_ediv_of_nonneg (by omega)]
    exact Int.ediv_mul_le _ (by omega)
  have e0 : n = 0 → ((n : Int) + X - 1).tdiv X = 0 := fun h => by
    subst h
    rw [Int.tdiv_eq_ediv_of_nonneg (by omega)]
    exact Int.ediv_eq_zero_of_lt (by omega) (by omega)
  refine ⟨((n : Int) + X - 1).tdiv X, _, _, by unfold rowsT; rw [if_pos hv], rfl, rfl, ⟨a, b⟩, ?_, ?_, e0, ?_⟩
  · generalize ((n : Int) + X - 1).tdiv X = R at *
    rw [Int.mul_comm] at c
    exact ⟨c, by omega⟩
  · generalize ((n : Int) + X - 1).tdiv X = R at *
    rw [Int.sub_mul, Int.one_mul]
    rw [Int.mul_comm] at c
    exact ⟨by omega, by omega⟩
  · generalize ((n : Int) + X - 1).tdiv X = R at *
    intro V hV
    rcases Int.lt_or_le V R with h | h
    · exact h
    · have := Int.mul_le_mul_of_nonneg_left h (show 0 ≤ X by omega)
      omega
theorem fr_dark (hv : shtB X n g = true) : ∃ D E F : Int, darT X n g = #[.int .i64 D, .int .i64 E, .int .i64 F] ∧ ((0 < n ∧ F = 0) ∨ (n = 0 ∧ F = 6)) := by
  by_cases h : n = 0
  · subst h
    exact ⟨_, _, _, darT_none hv, .inr ⟨rfl, rfl⟩⟩
  · exact ⟨_, _, _, darT_ok hv h, .inl ⟨by omega, rfl⟩⟩
theorem fr_ask (hv : shtB X n g = true) {i : Nat} (hi : i < n) : askC X n g i = 0 := askC_ok hv (inB_true.2 ⟨by omega, by omega⟩)
theorem fr_place (hv : shtB X n g = true) (h1 : 1 ≤ X) (h2 : X ≤ 5) (hn : n ≤ 5) {i : Nat} (hi : i < n) : ∃ C V : Int, plaT X n g i = #[.int .i64 C, .int .i64 V, .int .i64 0] ∧ (0 ≤ C ∧ C < X) ∧ (0 ≤ V ∧ V ≤ 12) ∧ X * V < n ∧ fatT X n g C V = #[.int .i64 (i : Int), .int .i64 0] := by
  have a := Int.emod_nonneg (i : Int) (show X ≠ 0 by omega)
  have b := Int.emod_lt_of_pos (i : Int) (show 0 < X by omega)
  have c := Int.ediv_nonneg (show 0 ≤ (i : Int) by omega) (show 0 ≤ X by omega)
  have d := Int.ediv_le_self (a := (i : Int)) X (by omega)
  have e := Int.emod_add_mul_ediv (i : Int) X
  refine ⟨(i : Int) % X, (i : Int).tdiv X, by unfold plaT; rw [if_pos (fr_ask hv hi)], ⟨a, b⟩, ?_⟩
  rw [Int.tdiv_eq_ediv_of_nonneg (by omega)]
  generalize (i : Int) % X = C at *
  generalize (i : Int) / X = V at *
  have hf : fatB X n C V = true := by
    unfold fatB
    rw [inB_true.2 ⟨a, by omega⟩, inB_true.2 ⟨c, by omega⟩, e]
    simp; omega
  refine ⟨⟨c, by omega⟩, by omega, ?_⟩
  unfold fatT
  rw [if_pos hv, if_pos hf, e]
theorem swpF_swpF (i k : Nat) : swpF (swpF g i k) i k = g := by
  funext j
  unfold swpF
  by_cases h1 : j = k
  · subst h1
    by_cases h2 : i = j
    · subst h2; simp
    · simp [h2]
  · by_cases h2 : j = i
    · subst h2; simp [h1]
    · simp [h1, h2]
theorem swpF_dn (hg : ∀ i, i < n → Dn 64 (g i)) {i k : Nat} (hi : i < n) (hk : k < n) : ∀ j, j < n → Dn 64 (swpF g i k j) := fun j hj => by
  unfold swpF
  split
  · exact hg i hi
  · split
    · exact hg k hk
    · exact hg j hj
theorem pic_drp (i : Nat) : picG g (skF i) = drpF g i := by
  funext j
  unfold picG skF drpF appF
  by_cases h : j < i
  · rw [if_pos h, if_pos h, Int.toNat_natCast]
  · rw [if_neg h, if_neg h]
    show g ((j : Int) + 1).toNat = g (i + 1 + (j - i))
    rw [show ((j : Int) + 1).toNat = i + 1 + (j - i) by omega]
theorem fr_pic (hv : shtB X n g = true) (hn : n ≤ 5) {i : Nat} (hi : i < n) : picC X n g (n - 1) (skF i) = 0 := by
  refine picC_ok ?_ (by omega)
  unfold frmC
  rw [if_pos hv, if_pos]
  refine List.all_eq_true.2 fun j hj => inB_true.2 ?_
  have hj' := List.mem_range.1 hj
  unfold skF
  split <;> omega
theorem samB_self (m : Nat) (h : Nat → Nat → Int) : samB X X m m h h = true := by
  unfold samB
  simp [samL_iff.2 fun i _ => eqN_self (h i) 64]
theorem ShtOut.inn {L : Nat} {c : Int} {w w' : World} {e : Ending} (h : ShtOut L X n g c w e w') : ∃ A cc, e = .returned (.tuple #[.agg #[.int .i8 X, .slice A n cc], .int .i64 c]) ∧ PrsIn w' A n g ∧ Below w.heap.size w w' := by
  obtain ⟨v, he, hM, hb⟩ := h
  obtain ⟨A, cc, rfl, hP⟩ := hM.prs
  exact ⟨A, cc, he, hP, hb⟩
theorem swp_in {L : Nat} {w w' : World} {e : Ending} {i k : Nat} (hv : shtB X n g = true) (hi : i < n) (hk : k < n) (h : SwpOut L X n g i k w e w') : ∃ A cc, e = .returned (.tuple #[.agg #[.int .i8 X, .slice A n cc], .int .i64 0]) ∧ PrsIn w' A n (swpF g i k) ∧ Below w.heap.size w w' := by
  unfold SwpOut at h
  rw [show swpC X n g i k = 0 by unfold swpC; rw [if_pos (fr_ask hv hi), fr_ask hv hk], if_pos rfl, if_pos rfl, Int.toNat_natCast, Int.toNat_natCast] at h
  exact h.inn
theorem drp_in {L : Nat} {w w' : World} {e : Ending} {i : Nat} (hv : shtB X n g = true) (hi : i < n) (h : DrpOut L X n g i w e w') : ∃ A cc, e = .returned (.tuple #[.agg #[.int .i8 X, .slice A (n - 1) cc], .int .i64 0]) ∧ PrsIn w' A (n - 1) (drpF g i) ∧ Below w.heap.size w w' := by
  unfold DrpOut at h
  rw [fr_ask hv hi, if_pos rfl, if_pos rfl, Int.toNat_natCast] at h
  exact h.inn
theorem pic_in {L : Nat} {w w' : World} {e : Ending} {i : Nat} (hv : shtB X n g = true) (hn : n ≤ 5) (hi : i < n) (h : PicOut L X n g (n - 1) (skF i) w e w') : ∃ A cc, e = .returned (.tuple #[.agg #[.int .i8 X, .slice A (n - 1) cc], .int .i64 0]) ∧ PrsIn w' A (n - 1) (drpF g i) ∧ Below w.heap.size w w' := by
  unfold PicOut at h
  rw [fr_pic hv hn hi, if_pos rfl, if_pos rfl, pic_drp] at h
  exact h.inn
theorem same_spec (m : Nat) (h : Nat → Nat → Int) (A A' : Option Addr) (c c' : Nat) (hm : m ≤ 1048576) (W : World) (h1 : PrsIn W A m h) (h2 : PrsIn W A' m h) :
    Calls Tryd.prog 25 #[.agg #[.int .i8 X, .slice A m c], .agg #[.int .i8 X, .slice A' m c']] W fun e w' => e = .returned (.bool true) ∧ Below W.heap.size W w' := by
  have q := specSameSheet_any X X A A' m m c c' h h hm hm W h1 h2
  rw [samB_self] at q
  exact q
theorem same_impl (m : Nat) (h : Nat → Nat → Int) (A A' : Option Addr) (c c' : Nat) (hm : m ≤ 1048576) (W : World) (h1 : PrsIn W A m h) (h2 : PrsIn W A' m h) :
    Calls Tryd.prog 26 #[.agg #[.int .i8 X, .slice A m c], .agg #[.int .i8 X, .slice A' m c']] W fun e w' => e = .returned (.bool true) ∧ Below W.heap.size W w' := by
  have q := SameSheet_any X X A A' m m c c' h h hm hm W h1 h2
  rw [samB_self] at q
  exact q
theorem pick_nat {m : Nat} {r : Int} (h : Picked m r) (hm : 0 < m) : ∃ i : Nat, r = i ∧ i < m := by
  by_cases h1 : (m : Int) ≤ 1
  · exact ⟨0, h.1 h1, hm⟩
  · have := h.2 (by omega)
    exact ⟨r.toNat, by omega, by omega⟩
end
end Go.Proofs.YtkmpfbjenddhjaaDoor
