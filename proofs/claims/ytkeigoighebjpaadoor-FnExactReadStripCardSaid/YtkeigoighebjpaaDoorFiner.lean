/-
  A finer strip, with its code: by the program and by the reference, for every strip and number. Condition of the program's: its variables hold their own errors.
-/
import Derived.Test.YtkeigoighebjpaaDoorStrip
import Derived.Test.YtkeigoighebjpaaDoorNum
import Derived.Test.YtkeigoighebjpaaDoorCurA
import Derived.Test.YtkeigoighebjpaaDoorQuietTail
import Derived.Lib.MinMax
import Derived.Deep.RegionWith
namespace Go.Proofs.YtkeigoighebjpaaDoor
open Go.RowKit

/-- Where a finer strip begins, how many bands it has, the code, and the strip. -/
def finF (a b k : Int) : Int := max 0 (a + b * k - (b - 1))
def finB (c F : Int) : Int := min c (36 - F + 1)
def finC (a b c k : Int) : Int := if okT a b c = true then (if inB k 0 (c - 1) = true then 0 else 2) else 1
def finV (a b c k : Int) : Value := if finC a b c k = 0 then stV (finF a b k) 1 (finB c (finF a b k)) else stV 0 0 0
theorem fin_1 {a b c k : Int} (h : okT a b c = false) : finC a b c k = 1 ∧ finV a b c k = stV 0 0 0 := by
  have h1 : finC a b c k = 1 := by simp [finC, h]
  exact ⟨h1, by simp [finV, h1]⟩
theorem fin_2 {a b c k : Int} (h : okT a b c = true) (h2 : inB k 0 (c - 1) = false) : finC a b c k = 2 ∧ finV a b c k = stV 0 0 0 := by
  have h1 : finC a b c k = 2 := by simp [finC, h, h2]
  exact ⟨h1, by simp [finV, h1]⟩
theorem fin_0 {a b c k : Int} (h : okT a b c = true) (h2 : inB k 0 (c - 1) = true) : finC a b c k = 0 ∧ finV a b c k = stV (finF a b k) 1 (finB c (finF a b k)) := by
  have h1 : finC a b c k = 0 := by simp [finC, h, h2]
  exact ⟨h1, by simp [finV, h1]⟩
theorem finV_set (a b c k : Int) : ∃ x y z, finV a b c k = stV x y z := by
  unfold finV
  split
  · exact ⟨_, _, _, rfl⟩
  · exact ⟨_, _, _, rfl⟩
theorem fin_bd {a b c k : Int} (h : StOk a b c) (h0 : 0 ≤ k) (h1 : k ≤ c - 1) : (0 ≤ finF a b k ∧ finF a b k ≤ 36) ∧ 1 ≤ finB c (finF a b k) ∧ finB c (finF a b k) ≤ 20 := by
  have h2 := h.light h0 (by omega)
  have h3 := h.c0; have h4 := h.c1; have h5 := h.b0
  unfold finB finF
  omega

/-- A block that holds a strip, and may be written. -/
structure ResAt (w : World) (g : Nat) (a b c : Int) : Prop where
  at' : StAt w g a b c
  fz : ∀ o, w.frozen? ⟨g, o, none⟩ = false
theorem ResAt.below {w w' : World} {g : Nat} {a b c : Int} {B : Nat} (h : ResAt w g a b c) (hb : Below B w w') (hB : g < B) : ResAt w' g a b c :=
  ⟨h.at'.below hb hB, fun o => (hb.frozen (p := ⟨g, o, none⟩) hB).trans (h.fz o)⟩
theorem ResAt.new (w : World) (t : TypeId) (a b c : Int) : ResAt (w.alloc (.cells #[.int .i8 a, .int .i8 b, .int .i8 c] t)) w.heap.size a b c :=
  ⟨StAt.new w t a b c, fun o => by simp⟩

set_option maxHeartbeats 1000000 in
theorem codedStrip_any {s : Ers} {v : Value} {c : Int} (h : IsCode s v c) (x y z : Int) (w : World) (hE : ErrEnv s w) :
    Calls Tryd.prog 54 #[stV x y z, v] w fun e w' => e = .returned (.tuple #[stV x y z, .int .i64 c]) ∧ Below w.heap.size w w' := by
  go_enter Tryd.func54, Tryd.ntmps54
  have hk : ∀ W, Below w.heap.size w W → Calls Tryd.prog 36 #[v] W fun e w' => e = .returned (.int .i64 c) ∧ W = w' := fun W hb => codeOf_any h W (hE.below hb (Nat.le_refl _))
  have Hk := Lib.hid hk; clear hk
  go_wp2_with fail
  go_region_with (go_at_call 36; refine (Hk.out _ ?_).mono ?_; (repeat (first | exact Below.refl _ _ | apply Below.drew | (refine Below.alloc ?_ (by simp) _) | (refine Below.setCell ?_ (by simp) _))); rintro e w' ⟨rfl, rfl⟩)
  all_goals
    go_wp2
    refine bodyPost_ret (v := .tuple #[stV x y z, .int .i64 c]) (by simp [results, Tryd.results54, go_sem]) rfl ⟨rfl, ?_⟩
    repeat (first | exact Below.refl _ _ | apply Below.drew | (refine Below.alloc ?_ (by simp) _) | (refine Below.setCell ?_ (by simp) _))

end Go.Proofs.YtkeigoighebjpaaDoor
