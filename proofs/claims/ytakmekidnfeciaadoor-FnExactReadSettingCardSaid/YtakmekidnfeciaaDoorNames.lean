/-
  The names of codes, shutters and apertures: what the program's and the reference's functions return, for every number. Condition of the program's: its tables of names hold what its text lays.
-/
import Derived.Test.YtakmekidnfeciaaDoorNum
import Derived.Test.YtakmekidnfeciaaDoorFrame
namespace Go.Proofs.YtakmekidnfeciaaDoor
open Go.RowKit

/-- A text as a value. -/
abbrev strV (l : List UInt8) : Value := .string ⟨l.toArray⟩
/-- Variable g holds these texts. -/
def StrTab (g : Nat) (zs : List (List UInt8)) (w : World) : Prop := ∀ i, i < zs.length → w.cell? ⟨g, i, none⟩ = some (strV (zs.getD i []))
theorem StrTab.below {g : Nat} {zs : List (List UInt8)} {w w' : World} {B : Nat} (h : StrTab g zs w) (hb : Below B w w') (hB : w.heap.size ≤ B) : StrTab g zs w' :=
  fun i hi => by
    have h' := h i hi
    have hlt : g < w.heap.size := by
      rcases Nat.lt_or_ge g w.heap.size with h2 | h2
      · exact h2
      · simp [World.cell?, Array.getElem?_eq_none h2] at h'
    rw [hb.cell (p := ⟨g, i, none⟩) (by show g < B; omega)]; exact h'

def marksL : List (List UInt8) := [[], [43, 49], [43, 50]]
def shuttersL : List (List UInt8) := [[49, 47, 49, 48, 48, 48], [49, 47, 53, 48, 48], [49, 47, 50, 53, 48], [49, 47, 49, 50, 53], [49, 47, 54, 48], [49, 47, 51, 48], [49, 47, 49, 53], [49, 47, 56], [49, 47, 52], [49, 47, 50], [49], [50], [52], [56], [49, 53], [51, 48]]
def aperturesL : List (List UInt8) := [[102, 47, 49], [102, 47, 49, 46, 52], [102, 47, 50], [102, 47, 50, 46, 56], [102, 47, 52], [102, 47, 53, 46, 54], [102, 47, 56], [102, 47, 49, 49], [102, 47, 49, 54], [102, 47, 50, 50], [102, 47, 51, 50]]
def codesL : List (List UInt8) := [[111, 107], [105, 110, 118, 97, 108, 105, 100], [114, 97, 110, 103, 101], [108, 105, 109, 105, 116], [115, 116, 97, 116, 101], [115, 121, 110, 116, 97, 120], [110, 111, 116, 102, 111, 117, 110, 100], [98, 117, 100, 103, 101, 116], [112, 114, 111, 111, 102]]

theorem below_drewN' {B : Nat} {a w : World} (h : Below B a w) (n : Nat) : Below B a (w.drewN n) := ⟨h.os, h.tape, h.output, h.size, h.block⟩
/-- The name of a number of thirds. -/
def nameOf (zs : List (List UInt8)) (n : Int) : List UInt8 := zs.getD (n / 3).toNat [] ++ marksL.getD (n % 3).toNat []
def shutN (n : Int) : List UInt8 := if inB n 0 45 = true then nameOf shuttersL n else []
def aperN (n : Int) : List UInt8 := if inB n 0 30 = true then nameOf aperturesL n else []
def codeN (n : Int) : List UInt8 := if inB n 0 8 = true then codesL.getD n.toNat [] else []
theorem getD_le (zs : List (List UInt8)) (m : Nat) (h : ∀ z ∈ zs, z.length ≤ m) (i : Nat) : (zs.getD i []).length ≤ m := by
  rw [List.getD_eq_getElem?_getD]
  cases hz : zs[i]? with
  | none => simp
  | some z => exact h z (List.mem_of_getElem? hz)
theorem shutters_le (i : Nat) : (shuttersL.getD i []).length ≤ 8 := getD_le _ _ (by decide) i
theorem apertures_le (i : Nat) : (aperturesL.getD i []).length ≤ 8 := getD_le _ _ (by decide) i
theorem marks_le (i : Nat) : (marksL.getD i []).length ≤ 8 := getD_le _ _ (by decide) i

set_option maxHeartbeats 400000 in
theorem ShutterName_any (n : Int) (w : World) (hN : StrTab 4 shuttersL w) (hM : StrTab 5 marksL w) :
    Calls Tryd.prog 73 #[.int .i64 n] w fun e w' => e = .returned (strV (shutN n)) ∧ ∃ m, w' = w.drewN m := by
  rcases h1 : inB n 0 45 with _ | _
  · have hR : shutN n = [] := by simp [shutN, h1]
    rw [hR]; clear hR
    go_enter Tryd.func73, Tryd.ntmps73
    go_wp2_with fail
    refine (inRange_any _ _ _ _).mono ?_; rintro e w' ⟨rfl, rfl⟩
    go_wp2
    go_ret
    exact ⟨rfl, 0, rfl⟩
  · have hb := inB_true.1 h1
    have hR : shutN n = shuttersL.getD (n / 3).toNat [] ++ marksL.getD (n % 3).toNat [] := by simp [shutN, nameOf, h1]
    rw [hR]; clear hR
    have c1 := hN (n / 3).toNat (by show _ < 16; omega)
    have c2 := hM (n % 3).toNat (by show _ < 3; omega)
    have l1 := shutters_le (n / 3).toNat
    have l2 := marks_le (n % 3).toNat
    generalize shuttersL.getD (n / 3).toNat [] = x at c1 l1 ⊢
    generalize marksL.getD (n % 3).toNat [] = y at c2 l2 ⊢
    have hadd := fun W => run_string_add_lists (P := Tryd.prog) W x y (by omega) (by omega)
    have d0 : 0 ≤ n / 3 := by omega
    have d1 : n / 3 < 16 := by omega
    have m0 : 0 ≤ n % 3 := by omega
    have m1 : n % 3 < 3 := by omega
    have e1 : IntKind.i64.wrap (n.tdiv 3) = n / 3 := by rw [Int.tdiv_eq_ediv_of_nonneg hb.1]; exact IntWalk.i64_in _ (by omega)
    have e2 : n.tmod 3 = n % 3 := Int.tmod_eq_emod_of_nonneg hb.1
    go_enter Tryd.func73, Tryd.ntmps73
    go_wp2_with fail
    refine (inRange_any _ _ _ _).mono ?_; rintro e w' ⟨rfl, rfl⟩
    go_wp2_with fail
    go_quiet (fail)
    go_wp2
    go_ret
    exact ⟨rfl, _, rfl⟩

set_option maxHeartbeats 400000 in
theorem ApertureName_any (n : Int) (w : World) (hN : StrTab 6 aperturesL w) (hM : StrTab 5 marksL w) :
    Calls Tryd.prog 74 #[.int .i64 n] w fun e w' => e = .returned (strV (aperN n)) ∧ ∃ m, w' = w.drewN m := by
  rcases h1 : inB n 0 30 with _ | _
  · have hR : aperN n = [] := by simp [aperN, h1]
    rw [hR]; clear hR
    go_enter Tryd.func74, Tryd.ntmps74
    go_wp2_with fail
    refine (inRange_any _ _ _ _).mono ?_; rintro e w' ⟨rfl, rfl⟩
    go_wp2
    go_ret
    exact ⟨rfl, 0, rfl⟩
  · have hb := inB_true.1 h1
    have hR : aperN n = aperturesL.getD (n / 3).toNat [] ++ marksL.getD (n % 3).toNat [] := by simp [aperN, nameOf, h1]
    rw [hR]; clear hR
    have c1 := hN (n / 3).toNat (by show _ < 11; omega)
    have c2 := hM (n % 3).toNat (by show _ < 3; omega)
    have l1 := apertures_le (n / 3).toNat
    have l2 := marks_le (n % 3).toNat
    generalize aperturesL.getD (n / 3).toNat [] = x at c1 l1 ⊢
    generalize marksL.getD (n % 3).toNat [] = y at c2 l2 ⊢
    have hadd := fun W => run_string_add_lists (P := Tryd.prog) W x y (by omega) (by omega)
    have d0 : 0 ≤ n / 3 := by omega
    have d1 : n / 3 < 11 := by omega
    have m0 : 0 ≤ n % 3 := by omega
    have m1 : n % 3 < 3 := by omega
    have e1 : IntKind.i64.wrap (n.tdiv 3) = n / 3 := by rw [Int.tdiv_eq_ediv_of_nonneg hb.1]; exact IntWalk.i64_in _ (by omega)
    have e2 : n.tmod 3 = n % 3 := Int.tmod_eq_emod_of_nonneg hb.1
    go_enter Tryd.func74, Tryd.ntmps74
    go_wp2_with fail
    refine (inRange_any _ _ _ _).mono ?_; rintro e w' ⟨rfl, rfl⟩
    go_wp2_with fail
    go_quiet (fail)
    go_wp2
    go_ret
    exact ⟨rfl, _, rfl⟩

/-! ### THE REFERENCE -/
theorem strTab_new (w : World) (zs : List (List UInt8)) (t : TypeId) : StrTab w.heap.size zs (w.alloc (.cells (zs.map strV).toArray t)) := by
  intro i hi
  have h : (w.alloc (.cells (zs.map strV).toArray t)).cell? ⟨w.heap.size, i, none⟩ = (zs.map strV).toArray[i]? := cell_of_row _ _ _ _ t (0, 0) (heap_alloc_new w _)
  rw [h]
  simp [hi]

set_option maxRecDepth 100000 in
theorem l01Shutters_any (w : World) :
    Calls Tryd.prog 78 #[] w fun e w' => e = .returned (.slice (some ⟨w.heap.size, 0, none⟩) 16 16) ∧ w.alloc (.cells (shuttersL.map strV).toArray 9) = w' := by
  go_enter Tryd.func78, Tryd.ntmps78
  go_wp2
  go_ret
  exact ⟨rfl, rfl⟩

set_option maxRecDepth 100000 in
theorem l01Apertures_any (w : World) :
    Calls Tryd.prog 79 #[] w fun e w' => e = .returned (.slice (some ⟨w.heap.size, 0, none⟩) 11 11) ∧ w.alloc (.cells (aperturesL.map strV).toArray 9) = w' := by
  go_enter Tryd.func79, Tryd.ntmps79
  go_wp2
  go_ret
  exact ⟨rfl, rfl⟩

/-- One byte as a text. -/
theorem conv_one (b : UInt8) (d : Int) (hd : d = b.toNat) (w : World) : (convert 53 9 (.slice (some ⟨w.heap.size, 0, none⟩) 1 1)).run Tryd.prog (w.alloc (.cells #[.int .u8 d] 5)) = .ok (strV [b]) (w.alloc (.cells #[.int .u8 d] 5)) := by
  subst hd
  refine run_convert_bytes_back (P := Tryd.prog) (w.alloc (.cells #[.int .u8 b.toNat] 5)) 53 9 5 ⟨w.heap.size, 0, none⟩ 1 [b] Tryd.underlying53 Tryd.underlying5 Tryd.underlying9 ?_
  intro j hj
  have hj0 : j = 0 := by simp at hj; omega
  subst hj0
  have h := cell_of_row (w.alloc (.cells #[.int .u8 b.toNat] 5)) w.heap.size 0 #[.int .u8 b.toNat] 5 (0, 0) (heap_alloc_new w _)
  simp [Addr.add, h]

set_option maxRecDepth 100000 in
theorem decimal_small (n : Nat) (h : n < 10) (w : World) : Calls Tryd.prog 101 #[.int .i64 n] w fun e w' => e = .returned (strV [UInt8.ofNat (48 + n)]) ∧ Below w.heap.size w w' := by
  have hbn : (48 + (n : Int)) = (UInt8.ofNat (48 + n)).toNat := by simp; omega
  generalize UInt8.ofNat (48 + n) = b at hbn ⊢
  have hconv := fun W => conv_one b (48 + (n : Int)) hbn W
  clear hbn
  have e1 : (n : Int) % 10 = n := by omega
  go_enter Tryd.func101, Tryd.ntmps101
  go_wp2_with fail
  go_ret
  refine ⟨rfl, ?_⟩
  repeat (first | exact Below.refl _ _ | assumption | apply Below.drew | apply below_drewN' | (refine Below.alloc ?_ (by first | omega | (simp; done) | (simp; omega)) _) | (refine Below.setCell ?_ (by first | omega | (simp; done) | (simp; omega)) _))

set_option maxHeartbeats 400000 in
theorem l01Name_any (b len : Nat) (zs : List (List UInt8)) (n : Int) (h0 : 0 ≤ n) (h1 : n < 3 * len) (hl : len = zs.length) (hm : len ≤ 100) (hle : ∀ z ∈ zs, z.length ≤ 8) (w : World) (hz : StrTab b zs w) :
    Calls Tryd.prog 100 #[.slice (some ⟨b, 0, none⟩) len len, .int .i64 n] w fun e w' => e = .returned (strV (nameOf zs n)) ∧ Below w.heap.size w w' := by
  have c1 := hz (n / 3).toNat (by omega)
  have l1 := getD_le zs 8 hle (n / 3).toNat
  have h3 : n % 3 = 0 ∨ n % 3 = 1 ∨ n % 3 = 2 := by omega
  unfold nameOf
  generalize zs.getD (n / 3).toNat [] = x at c1 l1 ⊢
  have d0 : 0 ≤ n / 3 := by omega
  have d1 : n / 3 < len := by omega
  have Hl := Lib.hid hl; clear hl
  rcases h3 with h3 | h3 | h3
  · rw [h3]
    go_enter Tryd.func100, Tryd.ntmps100
    go_wp2_with fail
    go_ret
    exact ⟨by simp [marksL], Below.refl _ _⟩
  · rw [h3]
    go_enter Tryd.func100, Tryd.ntmps100
    go_wp2_with fail
    refine (decimal_small 1 (by omega) _).mono ?_; rintro e w1 ⟨rfl, hb1⟩
    go_wp2_with fail
    go_ret
    exact ⟨by simp [marksL]; apply ByteArray.ext; simp [ByteArray.data_append], hb1⟩
  · rw [h3]
    go_enter Tryd.func100, Tryd.ntmps100
    go_wp2_with fail
    refine (decimal_small 2 (by omega) _).mono ?_; rintro e w1 ⟨rfl, hb1⟩
    go_wp2_with fail
    go_ret
    exact ⟨by simp [marksL]; apply ByteArray.ext; simp [ByteArray.data_append], hb1⟩

end Go.Proofs.YtakmekidnfeciaaDoor
