/-
  What strconv.Itoa returns, for every number of 64 bits. Condition: the library's table of powers holds what the row lists.
-/
import Derived.Test.YtalpgamhiofeeaaDoorPlainCT
import Derived.Stop.LaidErr
import Derived.Lib.LaidTab
import Derived.Test.YtalpgamhiofeeaaDoorShelfA
namespace Go.Proofs.YtalpgamhiofeeaaDoor
open Go.RowKit

theorem laidMet_dropC {P : Program} {w : World} {p : String × DataW Unit → Bool} : ∀ {l : List (String × DataW Unit)}, laidMet P l w → laidMet P (l.dropWhile p) w
  | [], h => h
  | x :: r, h => by
    rw [List.dropWhile_cons]
    split
    · exact laidMet_dropC h.tail
    · exact h
theorem plain_ofC {l : List (String × DataW Unit)} {w : World} (h : laidMetH Tryd.prog l w) (hp : (l.all fun x => x.2.handleName?.isNone) = true) : laidMet Tryd.prog l w := by
  unfold laidMetH at h
  have e : l.filter (fun x => x.2.handleName?.isSome) = [] := by
    rw [List.filter_eq_nil_iff]
    intro x hx
    have := List.all_eq_true.1 hp x hx
    cases hh : x.2.handleName? <;> simp [hh] at this ⊢
  rw [e] at h
  exact h
abbrev fromOnC (n : String) (l : List (String × DataW Unit)) : List (String × DataW Unit) := l.dropWhile fun x => x.1 != n
/-- The library's table of powers. -/
def Tab10 (w : World) : Prop := Lib.TabIs Tryd.prog w "internal/strconv.uint64pow10" .u64 Lib.pow10Tab
theorem tab10_of_row {l : List (String × DataW Unit)} {w : World} (h : laidMetH Tryd.prog l w) (hp : (l.all fun x => x.2.handleName?.isNone) = true)
    (he : fromOnC "internal/strconv.uint64pow10" l = ("internal/strconv.uint64pow10", Lib.tabData .u64 Lib.pow10Tab) :: (fromOnC "internal/strconv.uint64pow10" l).drop 1) : Tab10 w := by
  have hm : laidMet Tryd.prog (fromOnC "internal/strconv.uint64pow10" l) w := laidMet_dropC (plain_ofC h hp)
  rw [he] at hm
  exact Lib.tabIs_of_head (g := 0) (by kernel_rfl) (by kernel_rfl) Tryd.underlying77 Tryd.underlying65 (by kernel_rfl) (by kernel_rfl) hm
theorem Tab10.below {w w' : World} {B : Nat} (h : Tab10 w) (hb : Below B w w') (hB : w.heap.size ≤ B) : Tab10 w' := by
  have hg : Tryd.prog.globalNamed "internal/strconv.uint64pow10" = some 0 := by kernel_rfl
  unfold Tab10 Lib.TabIs World.var? at h ⊢
  rw [hg] at h ⊢
  simp only [Option.bind_some] at h ⊢
  have hlt : 0 < w.heap.size := by
    rcases Nat.lt_or_ge 0 w.heap.size with h' | h'
    · exact h'
    · rw [Array.getElem?_eq_none h'] at h; cases h
  rw [hb.block 0 (by omega)]
  exact h
theorem below_grow (w : World) (k : Nat) (os : Array Obj) : Below w.heap.size w (Go.Sort.grow (w.drewN k) os) :=
  ⟨rfl, rfl, rfl, by simp [Go.Sort.grow], fun j hj => by simp [Go.Sort.grow, Array.getElem?_append, hj]⟩
theorem itoaC_any (x : Int) (h0 : -9223372036854775808 ≤ x) (h1 : x ≤ 9223372036854775807) (w : World) (hT : Tab10 w) :
    Calls Tryd.prog 13 #[.int .i64 x] w fun e w' => e = .returned (strV (sgT x)) ∧ Below w.heap.size w w' := by
  refine (shStrconv_Itoa x h0 h1 w hT).mono ?_
  rintro e w' ⟨he, k, os, rfl⟩
  exact ⟨by rw [he, itoa_sgT], below_grow w k os⟩
end Go.Proofs.YtalpgamhiofeeaaDoor
