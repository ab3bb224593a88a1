/-
  errors.Is over the program's own sentinels; codeOf: the code of each of them, and 0 of nil. Condition: each variable holds its own error, as its text lays it ('ErrEnv'); the row's list gives just that.
-/
import Derived.Test.YtnlcjbobfhmnmabGreatDoorBase
import Derived.Test.YtnlcjbobfhmnmabGreatDoorFrame
import Derived.LaidEql
import Derived.Stop.Asserts
import Derived.RowKitTokens
import Derived.Deep.DeepMust
namespace Go.Proofs.YtnlcjbobfhmnmabGreatDoor
open Go.RowKit Go.Extern.Stop Go.Stop Go.Extern

/-! ### CLOSED FACTS -/
theorem isTypeOf (v : Value) (w : World) : (Extern.ReflectliteType.typeOf #[.iface 170 v]).run Tryz.prog w = .ok (.iface 134 (.agg #[.pointer (some ⟨13, 170, none⟩)])) w := by kernel_rfl
def compE : Array Value → Sem Value := Extern.ReflectliteType.method fun t => do Extern.Rtype.noPackHeld "Comparable" t; pure (.bool (← typeInfo t).comparable)
theorem isComparable (w : World) : (compE #[.agg #[.pointer (some ⟨13, 170, none⟩)]]).run Tryz.prog w = .ok (.bool true) w := by kernel_rfl
theorem isMethodComparable (v : Value) (w : World) : (Go.method 309 134 v "Comparable").run Tryz.prog w = .ok (160, v) w := by kernel_rfl
theorem isComp : (Tryz.prog.info? 170).map (·.comparable) = some true := by kernel_rfl
theorem isSize : (Tryz.prog.info? 172).map (·.size) = some 1 := by kernel_rfl
theorem noIsE (v : Value) (xT : TypeId) (w : World) : (Instr.typeAssert (.iface 170 v) xT 136 true).run Tryz.prog w = .ok (.tuple #[.nilIface, .bool false]) w := run_typeAssert_lacksB Tryz.underlying136 (by kernel_rfl) (by kernel_rfl) v xT w
theorem noUnwrapE (v : Value) (xT : TypeId) (w : World) : (Instr.typeAssert (.iface 170 v) xT 139 true).run Tryz.prog w = .ok (.tuple #[.nilIface, .bool false]) w := run_typeAssert_lacksB Tryz.underlying139 (by kernel_rfl) (by kernel_rfl) v xT w
theorem noUnwrapsE (v : Value) (xT : TypeId) (w : World) : (Instr.typeAssert (.iface 170 v) xT 141 true).run Tryz.prog w = .ok (.tuple #[.nilIface, .bool false]) w := run_typeAssert_lacksB Tryz.underlying141 (by kernel_rfl) (by kernel_rfl) v xT w

/-- An error of the program's own: a pointer to what errors.New made. -/
abbrev errV (a : Addr) : Value := .iface 170 (.pointer (some a))

theorem is_same (a : Addr) (w : World) :
    Calls Tryz.prog 79 #[errV a, errV a] w fun e w' => e = .returned (.bool true) ∧ w = w' := by
  obtain ⟨i, hi, hcmp⟩ := Option.map_eq_some_iff.1 isComp
  obtain ⟨j, hj, hjs⟩ := Option.map_eq_some_iff.1 isSize
  have h8 := @run_callFunc_extern Tryz.prog 94 _ Extern.ReflectliteType.typeOf Tryz.func94 (by kernel_rfl) (by kernel_rfl) (by kernel_rfl) (by kernel_rfl)
  have h32 := @run_callFunc_extern Tryz.prog 160 _ compE Tryz.func160 (by kernel_rfl) (by kernel_rfl) (by kernel_rfl) (by kernel_rfl)
  have tT := isTypeOf
  have cT := isComparable
  have mR := isMethodComparable
  have heq := run_eql_iface_ptr_same (P := Tryz.prog) w a Tryz.underlying55 Tryz.underlying170 hi hcmp hj
  go_enter Tryz.func79, Tryz.ntmps79
  go_wp2
  refine wp_loop_rounds 1 ?_
  rw [rounds_succ]
  go_wp2
  go_ret
  exact ⟨rfl, rfl⟩

theorem is_nil (b : Addr) (w : World) :
    Calls Tryz.prog 79 #[.nilIface, errV b] w fun e w' => e = .returned (.bool false) ∧ w = w' := by
  have hn := run_eql_iface_nil_left (P := Tryz.prog) w 170 (.pointer (some b)) Tryz.underlying55
  go_enter Tryz.func79, Tryz.ntmps79
  go_wp2
  go_ret
  exact ⟨rfl, rfl⟩

theorem is_other (a b : Addr) (w : World) (hne : a ≠ b) (ha : ∃ c t, w.heap[a.block]? = some (.cells c t (0, 0))) (hb : ∃ c t, w.heap[b.block]? = some (.cells c t (0, 0))) :
    Calls Tryz.prog 79 #[errV a, errV b] w fun e w' => e = .returned (.bool false) ∧ w = w' := by
  obtain ⟨ca, ta, ha⟩ := ha
  obtain ⟨cb, tb, hb⟩ := hb
  obtain ⟨i, hi, hcmp⟩ := Option.map_eq_some_iff.1 isComp
  obtain ⟨j, hj, hjs⟩ := Option.map_eq_some_iff.1 isSize
  have h8 := @run_callFunc_extern Tryz.prog 94 _ Extern.ReflectliteType.typeOf Tryz.func94 (by kernel_rfl) (by kernel_rfl) (by kernel_rfl) (by kernel_rfl)
  have h32 := @run_callFunc_extern Tryz.prog 160 _ compE Tryz.func160 (by kernel_rfl) (by kernel_rfl) (by kernel_rfl) (by kernel_rfl)
  have tT := isTypeOf
  have cT := isComparable
  have mR := isMethodComparable
  have nE := noIsE
  have uE := noUnwrapE
  have vE := noUnwrapsE
  have heq := run_eql_iface_ptr_other (P := Tryz.prog) w Tryz.underlying55 Tryz.underlying170 hi hcmp hj (by rw [hjs]; decide) hne ha hb
  go_enter Tryz.func79, Tryz.ntmps79
  go_wp2
  refine wp_loop_rounds 1 ?_
  rw [rounds_succ]
  go_wp2
  go_ret
  exact ⟨rfl, rfl⟩

/-! ### THE PROGRAM's SENTINELS -/
/-- Where each of them lies. -/
structure Ers where
  einvalid : Addr
  erange : Addr
  elimit : Addr
  estate : Addr
  esyntax : Addr
  enotfound : Addr
/-- Each variable holds its own error; they are different; each lies in a row without marks. -/
structure ErrEnv (s : Ers) (w : World) : Prop where
  c_einvalid : w.cell? ⟨1, 0, none⟩ = some (errV s.einvalid)
  c_erange : w.cell? ⟨2, 0, none⟩ = some (errV s.erange)
  c_elimit : w.cell? ⟨3, 0, none⟩ = some (errV s.elimit)
  c_estate : w.cell? ⟨4, 0, none⟩ = some (errV s.estate)
  c_esyntax : w.cell? ⟨0, 0, none⟩ = some (errV s.esyntax)
  c_enotfound : w.cell? ⟨5, 0, none⟩ = some (errV s.enotfound)
  r_einvalid : ∃ c t, w.heap[s.einvalid.block]? = some (.cells c t (0, 0))
  r_erange : ∃ c t, w.heap[s.erange.block]? = some (.cells c t (0, 0))
  r_elimit : ∃ c t, w.heap[s.elimit.block]? = some (.cells c t (0, 0))
  r_estate : ∃ c t, w.heap[s.estate.block]? = some (.cells c t (0, 0))
  r_esyntax : ∃ c t, w.heap[s.esyntax.block]? = some (.cells c t (0, 0))
  r_enotfound : ∃ c t, w.heap[s.enotfound.block]? = some (.cells c t (0, 0))
  n_einvalid_erange : s.einvalid ≠ s.erange
  n_einvalid_elimit : s.einvalid ≠ s.elimit
  n_einvalid_estate : s.einvalid ≠ s.estate
  n_einvalid_esyntax : s.einvalid ≠ s.esyntax
  n_einvalid_enotfound : s.einvalid ≠ s.enotfound
  n_erange_einvalid : s.erange ≠ s.einvalid
  n_erange_elimit : s.erange ≠ s.elimit
  n_erange_estate : s.erange ≠ s.estate
  n_erange_esyntax : s.erange ≠ s.esyntax
  n_erange_enotfound : s.erange ≠ s.enotfound
  n_elimit_einvalid : s.elimit ≠ s.einvalid
  n_elimit_erange : s.elimit ≠ s.erange
  n_elimit_estate : s.elimit ≠ s.estate
  n_elimit_esyntax : s.elimit ≠ s.esyntax
  n_elimit_enotfound : s.elimit ≠ s.enotfound
  n_estate_einvalid : s.estate ≠ s.einvalid
  n_estate_erange : s.estate ≠ s.erange
  n_estate_elimit : s.estate ≠ s.elimit
  n_estate_esyntax : s.estate ≠ s.esyntax
  n_estate_enotfound : s.estate ≠ s.enotfound
  n_esyntax_einvalid : s.esyntax ≠ s.einvalid
  n_esyntax_erange : s.esyntax ≠ s.erange
  n_esyntax_elimit : s.esyntax ≠ s.elimit
  n_esyntax_estate : s.esyntax ≠ s.estate
  n_esyntax_enotfound : s.esyntax ≠ s.enotfound
  n_enotfound_einvalid : s.enotfound ≠ s.einvalid
  n_enotfound_erange : s.enotfound ≠ s.erange
  n_enotfound_elimit : s.enotfound ≠ s.elimit
  n_enotfound_estate : s.enotfound ≠ s.estate
  n_enotfound_esyntax : s.enotfound ≠ s.esyntax

theorem row_lt {w : World} {b : Nat} {o : Obj} (h : w.heap[b]? = some o) : b < w.heap.size := (Array.getElem?_eq_some_iff.1 h).1
theorem row_below {w w' : World} {B b : Nat} (hb : Below B w w') (hB : w.heap.size ≤ B) (h : ∃ c t, w.heap[b]? = some (.cells c t (0, 0))) : ∃ c t, w'.heap[b]? = some (.cells c t (0, 0)) := by
  obtain ⟨c, t, h⟩ := h
  exact ⟨c, t, by rw [hb.block b (by have := row_lt h; omega)]; exact h⟩

theorem ErrEnv.below {s : Ers} {w w' : World} {B : Nat} (h : ErrEnv s w) (hb : Below B w w') (hB : w.heap.size ≤ B) : ErrEnv s w' :=
  ⟨below_cellOf hb h.c_einvalid hB, below_cellOf hb h.c_erange hB, below_cellOf hb h.c_elimit hB, below_cellOf hb h.c_estate hB, below_cellOf hb h.c_esyntax hB, below_cellOf hb h.c_enotfound hB, row_below hb hB h.r_einvalid, row_below hb hB h.r_erange, row_below hb hB h.r_elimit, row_below hb hB h.r_estate, row_below hb hB h.r_esyntax, row_below hb hB h.r_enotfound, h.n_einvalid_erange, h.n_einvalid_elimit, h.n_einvalid_estate, h.n_einvalid_esyntax, h.n_einvalid_enotfound, h.n_erange_einvalid, h.n_erange_elimit, h.n_erange_estate, h.n_erange_esyntax, h.n_erange_enotfound, h.n_elimit_einvalid, h.n_elimit_erange, h.n_elimit_estate, h.n_elimit_esyntax, h.n_elimit_enotfound, h.n_estate_einvalid, h.n_estate_erange, h.n_estate_elimit, h.n_estate_esyntax, h.n_estate_enotfound, h.n_esyntax_einvalid, h.n_esyntax_erange, h.n_esyntax_elimit, h.n_esyntax_estate, h.n_esyntax_enotfound, h.n_enotfound_einvalid, h.n_enotfound_erange, h.n_enotfound_elimit, h.n_enotfound_estate, h.n_enotfound_esyntax⟩
theorem ErrEnv.alloc {s : Ers} {w : World} (h : ErrEnv s w) (o : Obj) : ErrEnv s (w.alloc o) := h.below ((Below.refl _ _).alloc (Nat.le_refl _) o) (Nat.le_refl _)
theorem ErrEnv.drewN {s : Ers} {w : World} (h : ErrEnv s w) (n : Nat) : ErrEnv s (w.drewN n) := h.below (B := w.heap.size) ⟨rfl, rfl, rfl, Nat.le_refl _, fun _ _ => rfl⟩ (Nat.le_refl _)
theorem below_drewN {B : Nat} {a w : World} (h : Below B a w) (n : Nat) : Below B a (w.drewN n) := ⟨h.os, h.tape, h.output, h.size, h.block⟩

set_option maxHeartbeats 400000 in
theorem codeOf_nil (s : Ers) (w : World) (hE : ErrEnv s w) :
    Calls Tryz.prog 47 #[.nilIface] w fun e w' => e = .returned (.int .i64 0) ∧ w = w' := by
  have c_einvalid := hE.c_einvalid
  have c_erange := hE.c_erange
  have c_elimit := hE.c_elimit
  have c_estate := hE.c_estate
  have c_esyntax := hE.c_esyntax
  have c_enotfound := hE.c_enotfound
  go_enter Tryz.func47, Tryz.ntmps47
  go_wp2_with fail
  refine (is_nil _ _).mono ?_; rintro e w1 ⟨rfl, rfl⟩
  go_wp2_with fail
  refine (is_nil _ _).mono ?_; rintro e w1 ⟨rfl, rfl⟩
  go_wp2_with fail
  refine (is_nil _ _).mono ?_; rintro e w1 ⟨rfl, rfl⟩
  go_wp2_with fail
  refine (is_nil _ _).mono ?_; rintro e w1 ⟨rfl, rfl⟩
  go_wp2_with fail
  refine (is_nil _ _).mono ?_; rintro e w1 ⟨rfl, rfl⟩
  go_wp2_with fail
  refine (is_nil _ _).mono ?_; rintro e w1 ⟨rfl, rfl⟩
  go_wp2_with fail
  go_ret
  exact ⟨rfl, rfl⟩

set_option maxHeartbeats 400000 in
theorem codeOf_einvalid (s : Ers) (w : World) (hE : ErrEnv s w) :
    Calls Tryz.prog 47 #[errV s.einvalid] w fun e w' => e = .returned (.int .i64 1) ∧ w = w' := by
  have c_einvalid := hE.c_einvalid
  go_enter Tryz.func47, Tryz.ntmps47
  go_wp2_with fail
  refine (is_same _ _).mono ?_; rintro e w1 ⟨rfl, rfl⟩
  go_wp2_with fail
  go_ret
  exact ⟨rfl, rfl⟩

set_option maxHeartbeats 400000 in
theorem codeOf_erange (s : Ers) (w : World) (hE : ErrEnv s w) :
    Calls Tryz.prog 47 #[errV s.erange] w fun e w' => e = .returned (.int .i64 2) ∧ w = w' := by
  have c_einvalid := hE.c_einvalid
  have c_erange := hE.c_erange
  go_enter Tryz.func47, Tryz.ntmps47
  go_wp2_with fail
  refine (is_other _ _ _ hE.n_erange_einvalid hE.r_erange hE.r_einvalid).mono ?_; rintro e w1 ⟨rfl, rfl⟩
  go_wp2_with fail
  refine (is_same _ _).mono ?_; rintro e w1 ⟨rfl, rfl⟩
  go_wp2_with fail
  go_ret
  exact ⟨rfl, rfl⟩

set_option maxHeartbeats 400000 in
theorem codeOf_elimit (s : Ers) (w : World) (hE : ErrEnv s w) :
    Calls Tryz.prog 47 #[errV s.elimit] w fun e w' => e = .returned (.int .i64 3) ∧ w = w' := by
  have c_einvalid := hE.c_einvalid
  have c_erange := hE.c_erange
  have c_elimit := hE.c_elimit
  go_enter Tryz.func47, Tryz.ntmps47
  go_wp2_with fail
  refine (is_other _ _ _ hE.n_elimit_einvalid hE.r_elimit hE.r_einvalid).mono ?_; rintro e w1 ⟨rfl, rfl⟩
  go_wp2_with fail
  refine (is_other _ _ _ hE.n_elimit_erange hE.r_elimit hE.r_erange).mono ?_; rintro e w1 ⟨rfl, rfl⟩
  go_wp2_with fail
  refine (is_same _ _).mono ?_; rintro e w1 ⟨rfl, rfl⟩
  go_wp2_with fail
  go_ret
  exact ⟨rfl, rfl⟩

set_option maxHeartbeats 400000 in
theorem codeOf_estate (s : Ers) (w : World) (hE : ErrEnv s w) :
    Calls Tryz.prog 47 #[errV s.estate] w fun e w' => e = .returned (.int .i64 4) ∧ w = w' := by
  have c_einvalid := hE.c_einvalid
  have c_erange := hE.c_erange
  have c_elimit := hE.c_elimit
  have c_estate := hE.c_estate
  go_enter Tryz.func47, Tryz.ntmps47
  go_wp2_with fail
  refine (is_other _ _ _ hE.n_estate_einvalid hE.r_estate hE.r_einvalid).mono ?_; rintro e w1 ⟨rfl, rfl⟩
  go_wp2_with fail
  refine (is_other _ _ _ hE.n_estate_erange hE.r_estate hE.r_erange).mono ?_; rintro e w1 ⟨rfl, rfl⟩
  go_wp2_with fail
  refine (is_other _ _ _ hE.n_estate_elimit hE.r_estate hE.r_elimit).mono ?_; rintro e w1 ⟨rfl, rfl⟩
  go_wp2_with fail
  refine (is_same _ _).mono ?_; rintro e w1 ⟨rfl, rfl⟩
  go_wp2_with fail
  go_ret
  exact ⟨rfl, rfl⟩

set_option maxHeartbeats 400000 in
theorem codeOf_esyntax (s : Ers) (w : World) (hE : ErrEnv s w) :
    Calls Tryz.prog 47 #[errV s.esyntax] w fun e w' => e = .returned (.int .i64 5) ∧ w = w' := by
  have c_einvalid := hE.c_einvalid
  have c_erange := hE.c_erange
  have c_elimit := hE.c_elimit
  have c_estate := hE.c_estate
  have c_esyntax := hE.c_esyntax
  go_enter Tryz.func47, Tryz.ntmps47
  go_wp2_with fail
  refine (is_other _ _ _ hE.n_esyntax_einvalid hE.r_esyntax hE.r_einvalid).mono ?_; rintro e w1 ⟨rfl, rfl⟩
  go_wp2_with fail
  refine (is_other _ _ _ hE.n_esyntax_erange hE.r_esyntax hE.r_erange).mono ?_; rintro e w1 ⟨rfl, rfl⟩
  go_wp2_with fail
  refine (is_other _ _ _ hE.n_esyntax_elimit hE.r_esyntax hE.r_elimit).mono ?_; rintro e w1 ⟨rfl, rfl⟩
  go_wp2_with fail
  refine (is_other _ _ _ hE.n_esyntax_estate hE.r_esyntax hE.r_estate).mono ?_; rintro e w1 ⟨rfl, rfl⟩
  go_wp2_with fail
  refine (is_same _ _).mono ?_; rintro e w1 ⟨rfl, rfl⟩
  go_wp2_with fail
  go_ret
  exact ⟨rfl, rfl⟩

set_option maxHeartbeats 400000 in
theorem codeOf_enotfound (s : Ers) (w : World) (hE : ErrEnv s w) :
    Calls Tryz.prog 47 #[errV s.enotfound] w fun e w' => e = .returned (.int .i64 6) ∧ w = w' := by
  have c_einvalid := hE.c_einvalid
  have c_erange := hE.c_erange
  have c_elimit := hE.c_elimit
  have c_estate := hE.c_estate
  have c_esyntax := hE.c_esyntax
  have c_enotfound := hE.c_enotfound
  go_enter Tryz.func47, Tryz.ntmps47
  go_wp2_with fail
  refine (is_other _ _ _ hE.n_enotfound_einvalid hE.r_enotfound hE.r_einvalid).mono ?_; rintro e w1 ⟨rfl, rfl⟩
  go_wp2_with fail
  refine (is_other _ _ _ hE.n_enotfound_erange hE.r_enotfound hE.r_erange).mono ?_; rintro e w1 ⟨rfl, rfl⟩
  go_wp2_with fail
  refine (is_other _ _ _ hE.n_enotfound_elimit hE.r_enotfound hE.r_elimit).mono ?_; rintro e w1 ⟨rfl, rfl⟩
  go_wp2_with fail
  refine (is_other _ _ _ hE.n_enotfound_estate hE.r_enotfound hE.r_estate).mono ?_; rintro e w1 ⟨rfl, rfl⟩
  go_wp2_with fail
  refine (is_other _ _ _ hE.n_enotfound_esyntax hE.r_enotfound hE.r_esyntax).mono ?_; rintro e w1 ⟨rfl, rfl⟩
  go_wp2_with fail
  refine (is_same _ _).mono ?_; rintro e w1 ⟨rfl, rfl⟩
  go_wp2_with fail
  go_ret
  exact ⟨rfl, rfl⟩

/-- WHAT AN ERROR STANDS FOR: 0 where there is none. -/
inductive IsCode (s : Ers) : Value → Int → Prop
  | ok : IsCode s .nilIface 0
  | einvalid : IsCode s (errV s.einvalid) 1
  | erange : IsCode s (errV s.erange) 2
  | elimit : IsCode s (errV s.elimit) 3
  | estate : IsCode s (errV s.estate) 4
  | esyntax : IsCode s (errV s.esyntax) 5
  | enotfound : IsCode s (errV s.enotfound) 6
theorem codeOf_any {s : Ers} {v : Value} {c : Int} (h : IsCode s v c) (w : World) (hE : ErrEnv s w) :
    Calls Tryz.prog 47 #[v] w fun e w' => e = .returned (.int .i64 c) ∧ w = w' := by
  cases h
  · exact codeOf_nil s w hE
  · exact codeOf_einvalid s w hE
  · exact codeOf_erange s w hE
  · exact codeOf_elimit s w hE
  · exact codeOf_estate s w hE
  · exact codeOf_esyntax s w hE
  · exact codeOf_enotfound s w hE

theorem codedInt_any {s : Ers} {v : Value} {c : Int} (h : IsCode s v c) (x : Int) (w : World) (hE : ErrEnv s w) :
    Calls Tryz.prog 50 #[.int .i64 x, v] w fun e w' => e = .returned (.tuple #[.int .i64 x, .int .i64 c]) ∧ w = w' := by
  go_enter Tryz.func50, Tryz.ntmps50
  go_wp2_with fail
  refine (codeOf_any h _ hE).mono ?_; rintro e w1 ⟨rfl, rfl⟩
  go_wp2_with fail
  go_ret2
  exact ⟨rfl, rfl⟩

/-! ### FROM A ROW's LIST -/
theorem errRow : ∀ u, Tryz.prog.typeName? 3 u = some "*errors.errorString" → u = 170 := typeName_ptr_named (nm := "errors.errorString") (by kernel_rfl) (by kernel_rfl) (by decide)
theorem errCells : Tryz.prog.cellsOf 172 = 1 := by kernel_rfl
theorem strCells : Tryz.prog.cellsOf 9 = 1 := by kernel_rfl
def errNames : List (String × List UInt8) := [("loop.example/g01301/impl.errInvalid", [105, 110, 118, 97, 108, 105, 100]), ("loop.example/g01301/impl.errRange", [114, 97, 110, 103, 101]), ("loop.example/g01301/impl.errLimit", [108, 105, 109, 105, 116]), ("loop.example/g01301/impl.errState", [115, 116, 97, 116, 101]), ("loop.example/g01301/impl.errSyntax", [115, 121, 110, 116, 97, 120]), ("loop.example/g01301/impl.errNotFound", [110, 111, 116, 102, 111, 117, 110, 100])]
theorem errEnv_of_laid {r : List (String × DataW Unit)} {W : World} (h : laidMet Tryz.prog (errNames.map (fun x => (x.1, DataW.iface "*errors.errorString" (.ptr (.agg [.lit (.string x.2)])))) ++ r) W) : ∃ s, ErrEnv s W := by
  obtain ⟨sa, hlen, hnd, hrows, _, hvar⟩ := laid_sentinels (P := Tryz.prog) Tryz.underlying55 errRow Tryz.underlying170 Tryz.underlying172 rfl rfl Tryz.underlying9 errCells strCells errNames
    (by intro x hx; simp only [errNames, List.mem_cons, List.not_mem_nil, or_false] at hx; rcases hx with rfl | rfl | rfl | rfl | rfl | rfl
        · exact ⟨1, by kernel_rfl, by kernel_rfl⟩
        · exact ⟨2, by kernel_rfl, by kernel_rfl⟩
        · exact ⟨3, by kernel_rfl, by kernel_rfl⟩
        · exact ⟨4, by kernel_rfl, by kernel_rfl⟩
        · exact ⟨0, by kernel_rfl, by kernel_rfl⟩
        · exact ⟨5, by kernel_rfl, by kernel_rfl⟩) h
  obtain ⟨a_einvalid, sa0, rfl, hlen0⟩ := len_cons hlen
  obtain ⟨a_erange, sa1, rfl, hlen1⟩ := len_cons hlen0
  obtain ⟨a_elimit, sa2, rfl, hlen2⟩ := len_cons hlen1
  obtain ⟨a_estate, sa3, rfl, hlen3⟩ := len_cons hlen2
  obtain ⟨a_esyntax, sa4, rfl, hlen4⟩ := len_cons hlen3
  obtain ⟨a_enotfound, sa5, rfl, hlen5⟩ := len_cons hlen4
  obtain rfl := List.length_eq_zero_iff.1 hlen5
  refine ⟨⟨a_einvalid, a_erange, a_elimit, a_estate, a_esyntax, a_enotfound⟩, ?_, ?_, ?_, ?_, ?_, ?_, ?_, ?_, ?_, ?_, ?_, ?_, ?_, ?_, ?_, ?_, ?_, ?_, ?_, ?_, ?_, ?_, ?_, ?_, ?_, ?_, ?_, ?_, ?_, ?_, ?_, ?_, ?_, ?_, ?_, ?_, ?_, ?_, ?_, ?_, ?_, ?_⟩
  · simpa using World.var?_cell (show Tryz.prog.globalNamed "loop.example/g01301/impl.errInvalid" = some 1 by kernel_rfl) (hvar 0 _ a_einvalid rfl rfl) 0
  · simpa using World.var?_cell (show Tryz.prog.globalNamed "loop.example/g01301/impl.errRange" = some 2 by kernel_rfl) (hvar 1 _ a_erange rfl rfl) 0
  · simpa using World.var?_cell (show Tryz.prog.globalNamed "loop.example/g01301/impl.errLimit" = some 3 by kernel_rfl) (hvar 2 _ a_elimit rfl rfl) 0
  · simpa using World.var?_cell (show Tryz.prog.globalNamed "loop.example/g01301/impl.errState" = some 4 by kernel_rfl) (hvar 3 _ a_estate rfl rfl) 0
  · simpa using World.var?_cell (show Tryz.prog.globalNamed "loop.example/g01301/impl.errSyntax" = some 0 by kernel_rfl) (hvar 4 _ a_esyntax rfl rfl) 0
  · simpa using World.var?_cell (show Tryz.prog.globalNamed "loop.example/g01301/impl.errNotFound" = some 5 by kernel_rfl) (hvar 5 _ a_enotfound rfl rfl) 0
  · exact hrows _ (by simp)
  · exact hrows _ (by simp)
  · exact hrows _ (by simp)
  · exact hrows _ (by simp)
  · exact hrows _ (by simp)
  · exact hrows _ (by simp)
  · intro h; have h : a_einvalid = a_erange := h; subst h; simp at hnd
  · intro h; have h : a_einvalid = a_elimit := h; subst h; simp at hnd
  · intro h; have h : a_einvalid = a_estate := h; subst h; simp at hnd
  · intro h; have h : a_einvalid = a_esyntax := h; subst h; simp at hnd
  · intro h; have h : a_einvalid = a_enotfound := h; subst h; simp at hnd
  · intro h; have h : a_erange = a_einvalid := h; subst h; simp at hnd
  · intro h; have h : a_erange = a_elimit := h; subst h; simp at hnd
  · intro h; have h : a_erange = a_estate := h; subst h; simp at hnd
  · intro h; have h : a_erange = a_esyntax := h; subst h; simp at hnd
  · intro h; have h : a_erange = a_enotfound := h; subst h; simp at hnd
  · intro h; have h : a_elimit = a_einvalid := h; subst h; simp at hnd
  · intro h; have h : a_elimit = a_erange := h; subst h; simp at hnd
  · intro h; have h : a_elimit = a_estate := h; subst h; simp at hnd
  · intro h; have h : a_elimit = a_esyntax := h; subst h; simp at hnd
  · intro h; have h : a_elimit = a_enotfound := h; subst h; simp at hnd
  · intro h; have h : a_estate = a_einvalid := h; subst h; simp at hnd
  · intro h; have h : a_estate = a_erange := h; subst h; simp at hnd
  · intro h; have h : a_estate = a_elimit := h; subst h; simp at hnd
  · intro h; have h : a_estate = a_esyntax := h; subst h; simp at hnd
  · intro h; have h : a_estate = a_enotfound := h; subst h; simp at hnd
  · intro h; have h : a_esyntax = a_einvalid := h; subst h; simp at hnd
  · intro h; have h : a_esyntax = a_erange := h; subst h; simp at hnd
  · intro h; have h : a_esyntax = a_elimit := h; subst h; simp at hnd
  · intro h; have h : a_esyntax = a_estate := h; subst h; simp at hnd
  · intro h; have h : a_esyntax = a_enotfound := h; subst h; simp at hnd
  · intro h; have h : a_enotfound = a_einvalid := h; subst h; simp at hnd
  · intro h; have h : a_enotfound = a_erange := h; subst h; simp at hnd
  · intro h; have h : a_enotfound = a_elimit := h; subst h; simp at hnd
  · intro h; have h : a_enotfound = a_estate := h; subst h; simp at hnd
  · intro h; have h : a_enotfound = a_esyntax := h; subst h; simp at hnd
end Go.Proofs.YtnlcjbobfhmnmabGreatDoor
