/-
  Sheets that are left: what the reference and the program return. Condition of the program's: its errors, and its table of times.
-/
import Derived.Test.YtapbbonobhebpaaDoorSearch
import Derived.Test.YtapbbonobhebpaaDoorOwn
namespace Go.Proofs.YtapbbonobhebpaaDoor
open Go.RowKit Go.Shelf

/-! ### PLAIN -/
def allA (xs : Nat → Int) : Nat → Bool
  | 0 => true
  | n + 1 => allA xs n && inB (xs n) 1 5000
theorem allA_iff {xs : Nat → Int} : ∀ {n : Nat}, allA xs n = true ↔ ∀ j, j < n → inB (xs j) 1 5000 = true
  | 0 => by simp [allA]
  | n + 1 => by
    simp only [allA, Bool.and_eq_true, allA_iff (n := n)]
    constructor
    · rintro ⟨h1, h2⟩ j hj
      rcases Nat.lt_or_ge j n with h | h
      · exact h1 j h
      · obtain rfl : j = n := by omega
        exact h2
    · intro h
      exact ⟨fun j hj => h j (by omega), h n (by omega)⟩
theorem allA_no {xs : Nat → Int} {k n : Nat} (hk : k < n) (h : inB (xs k) 1 5000 = false) : allA xs n = false := by
  rcases h2 : allA xs n with _ | _
  · rfl
  · rw [allA_iff.1 h2 k hk] at h; cases h
/-- The code of a bath and areas. -/
def arC (ok : Bool) (n : Nat) (xs : Nat → Int) (sl : Int) : Int := if ok = true then (if n ≤ 60 then (if (allA xs n && inB sl 0 36) = true then 0 else 2) else 3) else 1

def room (p v u s : Int) : Nat := ((v * p - 1000 * u) / (1000 * s)).toNat
/-- Is it too slow behind so many sheets? -/
def shQ (p k v u a s sl : Int) (n : Nat) : Bool := decide (sl < slw (strn p k v (u + n * s) a))
def readyB (p k b t v u a s sl : Int) : Bool := decide (slw (strn p k v u a) ≤ sl) && sheetB p k b t v u a s
def shC (p k b t v u a s sl : Int) : Int := if bathOk p k b t v u a = true then (if inB s 1 5000 = true then (if inB sl 0 36 = true then 0 else 2) else 2) else 1
def shN (p k v u a s sl : Int) : Nat := least (shQ p k v u a s sl) (room p v u s)
def shR (p k b t v u a s sl : Int) : Int := ifC (shC p k b t v u a s sl) (shN p k v u a s sl)

section
variable {p k b t v u a s sl : Int}
theorem room_mul (h : BOk p k b t v u a) (hs : 1 ≤ s) {n : Nat} : n ≤ room p v u s ↔ 1000 * (u + n * s) ≤ v * p := by
  have hr := h.room
  have h0 : 0 ≤ (v * p - 1000 * u) / (1000 * s) := Int.ediv_nonneg (by omega) (by omega)
  have h1 := Int.le_ediv_iff_mul_le (a := (n : Int)) (b := v * p - 1000 * u) (c := 1000 * s) (by omega)
  have e : (n : Int) * (1000 * s) = 1000 * (n * s) := by rw [Int.mul_left_comm]
  unfold room
  constructor
  · intro h2
    have h3 := h1.1 (by omega)
    omega
  · intro h2
    have h3 := h1.2 (by omega)
    omega
theorem room_bd (h : BOk p k b t v u a) (hs : 1 ≤ s) : room p v u s ≤ 2000000 := by
  have h1 := (room_mul h hs (n := room p v u s)).1 (Nat.le_refl _)
  have hc := h.cap
  have hu := h.u0
  have h2 : (room p v u s : Int) * 1 ≤ room p v u s * s := Int.mul_le_mul_of_nonneg_left hs (by omega)
  omega
theorem sheets_ok (h : BOk p k b t v u a) (hs : 1 ≤ s) {n : Nat} (hn : n ≤ room p v u s) : BOk p k b t v (u + n * s) a := by
  have h1 := (room_mul h hs (n := n)).1 hn
  have hc := h.cap
  have hu := h.u0
  have h2 : 0 ≤ (n : Int) * s := Int.mul_nonneg (by omega) (by omega)
  exact { h with u0 := by omega, u1 := by omega, room := h1 }
theorem succ_mul' (n : Nat) : u + n * s + s = u + ((n + 1 : Nat) : Int) * s := by
  have : ((n + 1 : Nat) : Int) * s = n * s + s := by rw [Int.natCast_add, Int.add_mul]; simp
  omega
theorem ready_iff (h : BOk p k b t v u a) (hs : 1 ≤ s) (hsl : sl ≤ 36) {n : Nat} (hn : n ≤ shN p k v u a s sl) : readyB p k b t v (u + n * s) a s sl = decide (n < shN p k v u a s sl) := by
  have hls := least_spec (n := room p v u s) (q := shQ p k v u a s sl)
  have hN : shN p k v u a s sl = least (shQ p k v u a s sl) (room p v u s) := rfl
  rw [← hN] at hls
  rcases Nat.lt_or_ge n (room p v u s) with hlt | hge
  · have hok := sheets_ok h hs (n := n + 1) hlt
    rw [← succ_mul'] at hok
    have hb : bathOk p k b t v (u + n * s + s) a = true := bathOk_true.2 hok
    have hq : shQ p k v u a s sl n = decide (sl < slw (strn p k v (u + n * s) a)) := rfl
    unfold readyB sheetB
    rw [hb, Bool.and_true]
    generalize slw (strn p k v (u + n * s) a) = K at *
    rcases Nat.lt_or_ge n (shN p k v u a s sl) with h2 | h2
    · have h3 := hls.2.1 n h2
      rw [hq] at h3
      have h4 : ¬ sl < K := of_decide_eq_false h3
      rw [decide_eq_true (show K ≤ sl by omega), decide_eq_true (show K ≠ 37 by omega), decide_eq_true h2]
      rfl
    · have e : n = shN p k v u a s sl := by omega
      have h3 := hls.2.2 (by omega)
      rw [← e, hq] at h3
      have h4 : sl < K := of_decide_eq_true h3
      rw [decide_eq_false (show ¬ K ≤ sl by omega), decide_eq_false (show ¬ n < shN p k v u a s sl by omega)]
      rfl
  · have h2 : ¬ n < shN p k v u a s sl := by omega
    have hno : bathOk p k b t v (u + n * s + s) a = false := by
      rcases hh : bathOk p k b t v (u + n * s + s) a with _ | _
      · rfl
      · have h3 := (bathOk_true.1 hh).room
        rw [succ_mul'] at h3
        have h4 := (room_mul h hs (n := n + 1)).2 h3
        omega
    unfold readyB sheetB
    rw [hno, Bool.and_false, Bool.and_false, decide_eq_false h2]
theorem shQ_mono (h : BOk p k b t v u a) (hs : 1 ≤ s) : ∀ x y : Nat, x ≤ y → y < room p v u s → shQ p k v u a s sl x = true → shQ p k v u a s sl y = true := fun x y hxy hy hx => by
  have hy' := sheets_ok h hs (n := y) (by omega)
  have hu := h.u0
  have h2 : (x : Int) * s ≤ y * s := Int.mul_le_mul_of_nonneg_right (by omega) (by omega)
  have h3 : 0 ≤ (x : Int) * s := Int.mul_nonneg (by omega) (by omega)
  have h4 := strn_mono hy' (u' := u + x * s) (a' := a) (by omega) (by omega) (Int.le_refl _) h.a0
  have h5 := slw_mono hy'.strn_bd.1 h4
  simp only [shQ, decide_eq_true_eq] at hx ⊢
  omega
end

section
variable {p k b t v u a : Int}

end
end Go.Proofs.YtapbbonobhebpaaDoor
