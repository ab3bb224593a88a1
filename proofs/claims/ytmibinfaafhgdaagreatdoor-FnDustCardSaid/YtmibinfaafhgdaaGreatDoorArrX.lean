/-
  Arrays of numbers in memory, by value: cells, loads, stores, copies, comparison. Of whatever program; each theorem names its own condition.
-/
import Derived.Test.YtmibinfaafhgdaaGreatDoorBase
import Derived.Deep.WholeRow
import Derived.ChangeKeysEq
import Derived.Lib.MinMax
namespace Go.Proofs.YtmibinfaafhgdaaGreatDoor
open Go.RowKit

/-- The cells of an array of numbers of one kind. -/
def arrV (κ : IntKind) (n : Nat) (f : Nat → Int) : Array Value := Array.ofFn (n := n) fun i => .int κ (f i)
theorem arrV_size (κ : IntKind) (n : Nat) (f : Nat → Int) : (arrV κ n f).size = n := by simp [arrV]
theorem arrV_get {κ : IntKind} {n : Nat} {f : Nat → Int} {k : Nat} (h : k < n) : (arrV κ n f)[k]? = some (.int κ (f k)) := by simp [arrV, h]
theorem arrV_ext {κ : IntKind} {n : Nat} {f : Nat → Int} {cs : Array Value} (hs : cs.size = n) (h : ∀ k, k < n → cs[k]? = some (.int κ (f k))) : cs = arrV κ n f := by
  apply Array.ext_getElem?
  intro i
  by_cases hi : i < n
  · rw [h i hi, arrV_get hi]
  · rw [Array.getElem?_eq_none (by omega), Array.getElem?_eq_none (by rw [arrV_size]; omega)]
theorem arrV_congr {κ : IntKind} {n : Nat} {f g : Nat → Int} (h : ∀ k, k < n → f k = g k) : arrV κ n f = arrV κ n g :=
  arrV_ext (arrV_size _ _ _) fun k hk => by rw [arrV_get hk, h k hk]
theorem arrV_inj {κ : IntKind} {n : Nat} {f g : Nat → Int} (h : arrV κ n f = arrV κ n g) : ∀ k, k < n → f k = g k := fun k hk => by
  have := arrV_get (κ := κ) (f := f) hk
  rw [h, arrV_get hk] at this
  simpa using this.symm
/-- Numbers with one of them turned. -/
def upd (f : Nat → Int) (k : Nat) (v : Int) : Nat → Int := fun j => if j = k then v else f j
theorem upd_same (f : Nat → Int) (k : Nat) (v : Int) : upd f k v k = v := by simp [upd]
theorem upd_other {f : Nat → Int} {k : Nat} {v : Int} {j : Nat} (h : j ≠ k) : upd f k v j = f j := by simp [upd, h]
theorem arrV_set (κ : IntKind) (n : Nat) (f : Nat → Int) (k : Nat) (v : Int) : (arrV κ n f).setIfInBounds k (.int κ v) = arrV κ n (upd f k v) := by
  refine arrV_ext (by simp [arrV_size]) fun j hj => ?_
  by_cases e : j = k
  · subst e
    rw [upd_same, Array.getElem?_setIfInBounds_self_of_lt (by rw [arrV_size]; exact hj)]
  · rw [upd_other e, Array.getElem?_setIfInBounds_ne (fun h => e h.symm), arrV_get hj]
theorem arrV_one (κ : IntKind) (n : Nat) (f : Nat → Int) : (arrV κ n f).all (·.oneCell') = true := by
  rw [Array.all_eq_true]
  intro i hi
  have h := arrV_get (κ := κ) (f := f) (show i < n by rw [arrV_size] at hi; exact hi)
  rw [Array.getElem?_eq_getElem hi] at h
  rw [Option.some.inj h]; rfl

/-- A block that is an array of numbers. -/
def HasArr (w : World) (b : Nat) (T : TypeId) (κ : IntKind) (n : Nat) (f : Nat → Int) : Prop := w.heap[b]? = some (.cells (arrV κ n f) T (0, 0))
section
variable {P : Program} {w w' : World} {b : Nat} {T : TypeId} {κ : IntKind} {n : Nat} {f g : Nat → Int}
theorem HasArr.lt (h : HasArr w b T κ n f) : b < w.heap.size := (Array.getElem?_eq_some_iff.1 h).1
theorem HasArr.cell (h : HasArr w b T κ n f) {k : Nat} (hk : k < n) : w.cell? ⟨b, k, none⟩ = some (.int κ (f k)) := by
  rw [cell_of_row w b k _ T (0, 0) h]; exact arrV_get hk
theorem HasArr.free (h : HasArr w b T κ n f) (k : Nat) : w.frozen? ⟨b, k, none⟩ = false := frozen_of_row w b k _ T h
theorem HasArr.below {B : Nat} (h : HasArr w b T κ n f) (hb : Below B w w') (hB : b < B) : HasArr w' b T κ n f := (hb.block b hB).trans h
theorem HasArr.alloc (h : HasArr w b T κ n f) (o : Obj) : HasArr (w.alloc o) b T κ n f := (Below.heap_alloc w o b h.lt).trans h
theorem HasArr.new (w : World) (T : TypeId) (κ : IntKind) (n : Nat) (f : Nat → Int) : HasArr (w.alloc (.cells (arrV κ n f) T)) w.heap.size T κ n f := heap_alloc_last w _
theorem HasArr.other (h : HasArr w b T κ n f) {a : Addr} (hne : b ≠ a.block) (v : Value) : HasArr (w.setCell a v) b T κ n f := (Below.heap_setCell w a v b hne).trans h
theorem HasArr.set (h : HasArr w b T κ n f) (k : Nat) (v : Int) : HasArr (w.setCell ⟨b, k, none⟩ (.int κ v)) b T κ n (upd f k v) := by
  unfold HasArr
  rw [heap_setCell_same w b k _ T _ h, arrV_set]
theorem HasArr.congr (h : HasArr w b T κ n f) (hfg : ∀ k, k < n → f k = g k) : HasArr w b T κ n g := by unfold HasArr; rw [← arrV_congr hfg]; exact h
theorem HasArr.setRow (h : HasArr w b T κ n f) (κ' : IntKind) (g : Nat → Int) : HasArr (w.setRow b (arrV κ' n g)) b T κ' n g := setRow_heap w b _ _ T _ h
theorem HasArr.rowOther (h : HasArr w b T κ n f) {b' : Nat} (hne : b ≠ b') (cs : Array Value) : HasArr (w.setRow b' cs) b T κ n f := (setRow_other w b' b cs hne).trans h
theorem below_setRow {B b : Nat} {a w : World} (h : Below B a w) (hb : B ≤ b) (cs : Array Value) : Below B a (w.setRow b cs) :=
  h.trans ⟨rfl, rfl, rfl, by simp, fun k hk => setRow_other w b k cs (by omega)⟩
theorem HasArr.loadV (h : HasArr w b T κ n f) (ty : TypeId) {m : Nat} {e : TypeId} (hu : P.underlying ty = some (.array m e)) (hi : (P.info? ty).map (·.size) = some n) :
    (loadVar ty ⟨b, 0, none⟩).run P w = .ok (.agg (arrV κ n f)) w :=
  run_loadVar_row w b T ty _ (0, 0) _ h hu rfl (by rw [arrV_size]; exact hi)
theorem HasArr.load (h : HasArr w b T κ n f) (ty : TypeId) {m : Nat} {e : TypeId} (hu : P.underlying ty = some (.array m e)) (hi : (P.info? ty).map (·.size) = some n) :
    (Instr.loadAt ty (.pointer (some ⟨b, 0, none⟩))).run P w = .ok (.agg (arrV κ n f)) w := by
  simp only [Instr.loadAt, Instr.sureAddr, Sem.run_bind, Sem.run_pure, Result.andThen]
  exact h.loadV ty hu hi
theorem HasArr.storeV (h : HasArr w b T κ n f) (ty : TypeId) (κ' : IntKind) (g : Nat → Int) (hi : (P.info? ty).map (·.size) = some n) :
    (storeVar ty ⟨b, 0, none⟩ (.agg (arrV κ' n g))).run P w = .ok () (w.setRow b (arrV κ' n g)) :=
  run_storeVar_row w b T ty _ _ h (by rw [arrV_size]; exact hi) (by rw [arrV_size, arrV_size]) (arrV_one _ _ _)
theorem HasArr.store (h : HasArr w b T κ n f) (ty : TypeId) (κ' : IntKind) (g : Nat → Int) (hi : (P.info? ty).map (·.size) = some n) :
    (Instr.storeAt ty (.pointer (some ⟨b, 0, none⟩)) (.agg (arrV κ' n g))).run P w = .ok () (w.setRow b (arrV κ' n g)) := by
  simp only [Instr.storeAt, Instr.sureAddr, Sem.run_bind, Sem.run_pure, Result.andThen]
  exact h.storeV ty κ' g hi
end

/-! ### COMPARISON -/
/-- Are the first n numbers the same? -/
def eqN (f g : Nat → Int) (n : Nat) : Bool := (List.range n).all fun k => decide (f k = g k)
theorem eqN_iff {f g : Nat → Int} {n : Nat} : eqN f g n = true ↔ ∀ k, k < n → f k = g k := by simp [eqN]
theorem eqN_self (f : Nat → Int) (n : Nat) : eqN f f n = true := eqN_iff.2 fun _ _ => rfl
theorem eqN_no {f g : Nat → Int} {n k : Nat} (hk : k < n) (h : f k ≠ g k) : eqN f g n = false := by
  rcases h' : eqN f g n with _ | _
  · rfl
  · exact absurd (eqN_iff.1 h' k hk) h
section
variable {P : Program}
theorem run_part_arr (w : World) {e : TypeId} {κ : IntKind} {n k : Nat} {f : Nat → Int} (he : P.underlying e = some (.int κ)) (hk : k < n) : (part e (arrV κ n f) k).run P w = .ok (.int κ (f k)) w := by
  have hagg : (isAgg e).run P w = .ok false w := by
    unfold isAgg
    rw [Sem.run_bind, run_underlying he w]
    simp
  simp [part, Sem.run_bind, hagg, arrV_get hk]
theorem run_eqItems_arr (w : World) (d : Nat) {e : TypeId} {κ : IntKind} {n : Nat} {f g : Nat → Int} (he : P.underlying e = some (.int κ)) : ∀ (is : List Nat), (∀ k ∈ is, k < n) →
    (Op.eqItems (d + 1) e 1 (arrV κ n f) (arrV κ n g) is).run P w = .ok (is.all fun k => decide (f k = g k)) w
  | [], _ => by simp [Op.eqItems]
  | i :: is, h => by
    have h1 := h i List.mem_cons_self
    simp only [Op.eqItems, Nat.mul_one, Sem.run_bind, run_part_arr w he h1, Result.andThen_ok, run_equalIn_int w d e κ κ (f i) (g i) he, List.all_cons]
    by_cases hc : f i = g i
    · simp only [hc, beq_self_eq_true, Bool.not_true, Bool.false_eq_true, if_false, decide_true, Bool.true_and]
      exact run_eqItems_arr w d he is fun k hk => h k (List.mem_cons_of_mem _ hk)
    · have hb : (f i == g i) = false := by simpa using hc
      simp [hb, hc]
theorem run_equal_arr (w : World) {t e : TypeId} {κ : IntKind} {n : Nat} {i : TypeInfo} (f g : Nat → Int) (hu : P.underlying t = some (.array n e)) (he : P.underlying e = some (.int κ)) (hi : P.info? e = some i) (hc : P.cellsOf e = 1) :
    (Op.equalIn 10000 t (.agg (arrV κ n f)) (.agg (arrV κ n g))).run P w = .ok (eqN f g n) w := by
  rw [run_equalIn_array w 9999 _ _ hu hi, hc]
  exact run_eqItems_arr w 9998 he _ fun k hk => List.mem_range.1 hk
/-! THE OPERATIONS OF A WALK -/
theorem wpList_load_arr {ops : Array Oper} {rest : List Oper} {o : Oper} {a : Act} {w : World} {Q : Exit → Act → World → Prop} {b : Nat} {T : TypeId} {κ : IntKind} {n : Nat} {f : Nat → Int} {m : Nat} {e : TypeId}
    (h : HasArr w b T κ n f) (ty : TypeId) (x : Operand) (hgd : o.guard = none) (ho : o.op = .load ty x) (hx : a.eval x = .pointer (some ⟨b, 0, none⟩)) (hu : P.underlying ty = some (.array m e)) (hi : (P.info? ty).map (·.size) = some n)
    (hK : wpList P ops Q rest (a.put o.dst (.agg (arrV κ n f))) w) : wpList P ops Q (o :: rest) a w :=
  wpList_load_row hgd ty x ho b hx T _ (0, 0) _ h hu rfl (by rw [arrV_size]; exact hi) hK
theorem wpList_store_arr {ops : Array Oper} {rest : List Oper} {o : Oper} {a : Act} {w : World} {Q : Exit → Act → World → Prop} {b : Nat} {T : TypeId} {κ κ' : IntKind} {n : Nat} {f g : Nat → Int}
    (h : HasArr w b T κ n f) (ty : TypeId) (x y : Operand) (hgd : o.guard = none) (ho : o.op = .store ty x y) (hx : a.eval x = .pointer (some ⟨b, 0, none⟩)) (hy : a.eval y = .agg (arrV κ' n g)) (hi : (P.info? ty).map (·.size) = some n)
    (hK : wpList P ops Q rest (a.put o.dst undef) (w.setRow b (arrV κ' n g))) : wpList P ops Q (o :: rest) a w :=
  wpList_store_row hgd ty x y ho b _ hx hy T _ h (by rw [arrV_size]; exact hi) (by rw [arrV_size, arrV_size]) (arrV_one _ _ _) hK
end
/-! ### THE TYPES OF THIS PROGRAM -/
theorem zeroArr16 : #[.int .i16 0, .int .i16 0, .int .i16 0, .int .i16 0, .int .i16 0, .int .i16 0, .int .i16 0, .int .i16 0, .int .i16 0, .int .i16 0, .int .i16 0, .int .i16 0, .int .i16 0, .int .i16 0, .int .i16 0, .int .i16 0, .int .i16 0, .int .i16 0, .int .i16 0, .int .i16 0, .int .i16 0, .int .i16 0, .int .i16 0, .int .i16 0, .int .i16 0, .int .i16 0, .int .i16 0, .int .i16 0, .int .i16 0, .int .i16 0, .int .i16 0, .int .i16 0, .int .i16 0, .int .i16 0, .int .i16 0, .int .i16 0, .int .i16 0, .int .i16 0, .int .i16 0, .int .i16 0, .int .i16 0, .int .i16 0, .int .i16 0, .int .i16 0, .int .i16 0, .int .i16 0, .int .i16 0, .int .i16 0, .int .i16 0, .int .i16 0, .int .i16 0, .int .i16 0, .int .i16 0, .int .i16 0, .int .i16 0, .int .i16 0, .int .i16 0, .int .i16 0, .int .i16 0, .int .i16 0, .int .i16 0, .int .i16 0, .int .i16 0, .int .i16 0] = arrV .i16 64 fun _ => 0 := by kernel_rfl

theorem sizeA64 : (Tryz.prog.info? 28).map (·.size) = some 64 := by kernel_rfl

theorem sizePrint : (Tryz.prog.info? 29).map (·.size) = some 64 := by kernel_rfl

theorem sizeCells : (Tryz.prog.info? 129).map (·.size) = some 64 := by kernel_rfl

theorem HasArr.zero (w : World) (T : TypeId) {b : Nat} (hb : b = w.heap.size) : HasArr (w.alloc (.cells #[.int .i16 0, .int .i16 0, .int .i16 0, .int .i16 0, .int .i16 0, .int .i16 0, .int .i16 0, .int .i16 0, .int .i16 0, .int .i16 0, .int .i16 0, .int .i16 0, .int .i16 0, .int .i16 0, .int .i16 0, .int .i16 0, .int .i16 0, .int .i16 0, .int .i16 0, .int .i16 0, .int .i16 0, .int .i16 0, .int .i16 0, .int .i16 0, .int .i16 0, .int .i16 0, .int .i16 0, .int .i16 0, .int .i16 0, .int .i16 0, .int .i16 0, .int .i16 0, .int .i16 0, .int .i16 0, .int .i16 0, .int .i16 0, .int .i16 0, .int .i16 0, .int .i16 0, .int .i16 0, .int .i16 0, .int .i16 0, .int .i16 0, .int .i16 0, .int .i16 0, .int .i16 0, .int .i16 0, .int .i16 0, .int .i16 0, .int .i16 0, .int .i16 0, .int .i16 0, .int .i16 0, .int .i16 0, .int .i16 0, .int .i16 0, .int .i16 0, .int .i16 0, .int .i16 0, .int .i16 0, .int .i16 0, .int .i16 0, .int .i16 0, .int .i16 0] T)) b T .i16 64 fun _ => 0 := by
  subst hb; rw [zeroArr16]; exact HasArr.new w T _ _ _
/-- The first k numbers are f's, the others 0. -/
def mixN (f : Nat → Int) (k : Nat) : Nat → Int := fun j => if j < k then f j else 0
theorem mixN_step (f : Nat → Int) (k j : Nat) : upd (mixN f k) k (f k) j = mixN f (k + 1) j := by
  unfold upd mixN
  split
  · rename_i h; subst h; simp
  · rename_i h
    have : j < k ↔ j < k + 1 := by omega
    simp [this]

end Go.Proofs.YtmibinfaafhgdaaGreatDoor


namespace Go.Proofs.YtmibinfaafhgdaaGreatDoor
open Go.RowKit

/-- Are 64 numbers densities? -/
def dnsB (f : Nat → Int) : Bool := (List.range 64).all fun k => inB (f k) 0 400
theorem dnsB_iff {f : Nat → Int} : dnsB f = true ↔ ∀ k, k < 64 → inB (f k) 0 400 = true := by simp [dnsB]
theorem dnsB_no {f : Nat → Int} {k : Nat} (hk : k < 64) (h : inB (f k) 0 400 = false) : dnsB f = false := by
  rcases h' : dnsB f with _ | _
  · rfl
  · rw [dnsB_iff.1 h' k hk] at h; cases h
theorem dnsB_bd {f : Nat → Int} (h : dnsB f = true) {k : Nat} (hk : k < 64) : 0 ≤ f k ∧ f k ≤ 400 := inB_true.1 (dnsB_iff.1 h k hk)
/-- What is put back onto the scale. -/
def clampF (f : Nat → Int) : Nat → Int := fun k => min (max (f k) 0) 400
theorem eqN_clamp (f : Nat → Int) : eqN (clampF f) f 64 = dnsB f := by
  rw [Bool.eq_iff_iff, eqN_iff, dnsB_iff]
  constructor
  · intro h k hk
    have := h k hk
    unfold clampF at this
    exact inB_true.2 ⟨by omega, by omega⟩
  · intro h k hk
    have := inB_true.1 (h k hk)
    show min (max (f k) 0) 400 = f k
    omega
/-- The first k numbers are g's, the others f's. -/
def mixFN (g f : Nat → Int) (k : Nat) : Nat → Int := fun j => if j < k then g j else f j
theorem mixFN_step (g f : Nat → Int) (k j : Nat) : upd (mixFN g f k) k (g k) j = mixFN g f (k + 1) j := by
  unfold upd mixFN
  split
  · rename_i h; subst h; simp
  · rename_i h
    have : j < k ↔ j < k + 1 := by omega
    simp [this]
theorem mixFN_0 (g f : Nat → Int) (j : Nat) : f j = mixFN g f 0 j := by simp [mixFN]
theorem mixFN_n (g f : Nat → Int) {n j : Nat} (h : j < n) : mixFN g f n j = g j := by simp [mixFN, h]

section
variable {P : Program}
theorem run_index_arr {t e : TypeId} {κ κ' : IntKind} {n k : Nat} (f : Nat → Int) (hu : P.underlying t = some (.array n e)) (he : P.underlying e = some (.int κ)) (hi : (P.info? e).map (·.size) = some 1) (hk : k < n) (w : World) :
    (Instr.index t (.agg (arrV κ n f)) (.int κ' (k : Int))).run P w = .ok (.int κ (f k)) w := by
  cases hq : P.info? e with
  | none => simp [hq] at hi
  | some i =>
    have hs : i.size = 1 := by simpa [hq] using hi
    have hp := run_part_arr (P := P) w (e := e) (κ := κ) (f := f) he hk
    have h1 : ¬ n ≤ k := by omega
    simp [Instr.index, run_underlying hu, asIntOf, hk, h1, sizeOf, typeInfo, hq, hs, hp]
theorem run_eql_arr {t e : TypeId} {κ : IntKind} {n : Nat} {i : TypeInfo} (f g : Nat → Int) (hu : P.underlying t = some (.array n e)) (he : P.underlying e = some (.int κ)) (hi : P.info? e = some i) (hc : P.cellsOf e = 1) (w : World) :
    (binOp .eql t (.agg (arrV κ n f)) (.agg (arrV κ n g))).run P w = .ok (.bool (eqN f g n)) w := by
  simp only [binOp]
  simp [Op.equal, Op.maxDepth, run_equal_arr w f g hu he hi hc]
theorem run_neq_arr {t e : TypeId} {κ : IntKind} {n : Nat} {i : TypeInfo} (f g : Nat → Int) (hu : P.underlying t = some (.array n e)) (he : P.underlying e = some (.int κ)) (hi : P.info? e = some i) (hc : P.cellsOf e = 1) (w : World) :
    (binOp .neq t (.agg (arrV κ n f)) (.agg (arrV κ n g))).run P w = .ok (.bool !(eqN f g n)) w := by
  simp only [binOp]
  simp [Op.equal, Op.maxDepth, run_equal_arr w f g hu he hi hc]
end

theorem size16 : (Tryz.prog.info? 27).map (·.size) = some 1 := by kernel_rfl

theorem info16 : ∃ i, Tryz.prog.info? 27 = some i := by
  have h := size16
  cases hq : Tryz.prog.info? 27 with
  | none => simp [hq] at h
  | some i => exact ⟨i, rfl⟩

theorem l02Density_16 (x : Int) (w : World) : Calls Tryz.prog 48 #[.int .i64 x] w fun e w' => e = .returned (.bool (inB x 0 400)) ∧ w = w' := by
  go_enter Tryz.func48, Tryz.ntmps48
  go_wp2_with (go_at_call 47; refine (l00In_any _ _ _ _).mono ?_; rintro e w' ⟨rfl, rfl⟩)
  go_ret
  exact ⟨rfl, rfl⟩

set_option maxHeartbeats 1000000 in
theorem l03Dense_any (b : Nat) (T : TypeId) (f : Nat → Int) (hf : ∀ k, k < 64 → -32768 ≤ f k ∧ f k ≤ 32767) (w : World) (h : HasArr w b T .i16 64 f) :
    Calls Tryz.prog 70 #[.pointer (some ⟨b, 0, none⟩)] w fun e w' => e = .returned (.bool (dnsB f)) ∧ w = w' := by
  go_enter Tryz.func70, Tryz.ntmps70
  go_wp2_with fail
  go_loop [3] (fun i => ∃ k : Nat, k ≤ 64 ∧ i = .int .i64 k ∧ ∀ j, j < k → inB (f j) 0 400 = true) (fun i => 64 - (intOf i).toNat)
  case atStart => exact ⟨0, by omega, rfl, fun j hj => by omega⟩
  case round =>
    obtain ⟨k, hk, rfl, hj⟩ := hrel
    have HJ := Lib.hid hj; clear hj
    by_cases hkn : k < 64
    · have c1 := h.cell hkn
      have b1 := (hf k hkn).1
      have b2 := (hf k hkn).2
      have hd := l02Density_16 (f k)
      rcases hv : inB (f k) 0 400 with _ | _
      · have hz := dnsB_no hkn hv
        rw [hv] at hd
        have Hd := Lib.hid hd; clear hd
        have Hz := Lib.hid hz; clear hz hv
        generalize f k = X at *
        go_wp2_with fail
        refine (Hd.out _).mono ?_; rintro e w1 ⟨rfl, rfl⟩
        go_wp2_with fail
        go_ret
        exact ⟨ret_bool Hz.out.symm, rfl⟩
      · rw [hv] at hd
        have Hd := Lib.hid hd; clear hd
        have HV := Lib.hid hv; clear hv
        generalize hX : f k = X at *
        have HX := Lib.hid hX; clear hX
        go_wp2_with fail
        refine (Hd.out _).mono ?_; rintro e w1 ⟨rfl, rfl⟩
        go_wp2_with fail
        go_round
        case rel => exact ⟨k + 1, by omega, by go_num, fun j hj => by
          by_cases e : j = k
          · subst e; rw [HX.out]; exact HV.out
          · exact HJ.out j (by omega)⟩
        case measure => simp [intOf]; omega
    · obtain rfl : k = 64 := by omega
      have hz : dnsB f = true := dnsB_iff.2 HJ.out
      have Hz := Lib.hid hz; clear hz
      go_wp2_with fail
      go_ret
      exact ⟨ret_bool Hz.out.symm, rfl⟩

set_option maxRecDepth 100000 in
set_option maxHeartbeats 1000000 in
theorem areOnScale_any (f : Nat → Int) (w : World) :
    Calls Tryz.prog 84 #[.agg (arrV .i16 64 f)] w fun e w' => e = .returned (.bool (dnsB f)) ∧ Below w.heap.size w w' := by
  obtain ⟨i0, hi0⟩ := info16
  have hcl : Tryz.prog.cellsOf 27 = 1 := by kernel_rfl
  have heq := fun W => run_equal_arr (P := Tryz.prog) W (clampF f) f Tryz.underlying129 Tryz.underlying27 hi0 hcl
  rw [eqN_clamp] at heq
  have Heq := Lib.hid heq; clear heq
  have hix := fun k (hk : k < 64) W => run_index_arr (P := Tryz.prog) (κ' := .i64) f Tryz.underlying129 Tryz.underlying27 size16 hk W
  have Hix := Lib.hid hix; clear hix
  have a1 := HasArr.new w 129 .i16 64 f
  have a2 := HasArr.zero (w.alloc (.cells (arrV .i16 64 f) 129)) 129 (b := w.heap.size + 1) (by simp)
  have a3 := (a1.alloc (.cells #[.int .i16 0, .int .i16 0, .int .i16 0, .int .i16 0, .int .i16 0, .int .i16 0, .int .i16 0, .int .i16 0, .int .i16 0, .int .i16 0, .int .i16 0, .int .i16 0, .int .i16 0, .int .i16 0, .int .i16 0, .int .i16 0, .int .i16 0, .int .i16 0, .int .i16 0, .int .i16 0, .int .i16 0, .int .i16 0, .int .i16 0, .int .i16 0, .int .i16 0, .int .i16 0, .int .i16 0, .int .i16 0, .int .i16 0, .int .i16 0, .int .i16 0, .int .i16 0, .int .i16 0, .int .i16 0, .int .i16 0, .int .i16 0, .int .i16 0, .int .i16 0, .int .i16 0, .int .i16 0, .int .i16 0, .int .i16 0, .int .i16 0, .int .i16 0, .int .i16 0, .int .i16 0, .int .i16 0, .int .i16 0, .int .i16 0, .int .i16 0, .int .i16 0, .int .i16 0, .int .i16 0, .int .i16 0, .int .i16 0, .int .i16 0, .int .i16 0, .int .i16 0, .int .i16 0, .int .i16 0, .int .i16 0, .int .i16 0, .int .i16 0, .int .i16 0] 129)).rowOther (b' := w.heap.size + 1) (by omega) (arrV .i16 64 f)
  have a4 := a2.setRow .i16 f
  have kB := below_setRow (((Below.refl w.heap.size w).alloc (Nat.le_refl _) (.cells (arrV .i16 64 f) 129)).alloc (by simp) (.cells #[.int .i16 0, .int .i16 0, .int .i16 0, .int .i16 0, .int .i16 0, .int .i16 0, .int .i16 0, .int .i16 0, .int .i16 0, .int .i16 0, .int .i16 0, .int .i16 0, .int .i16 0, .int .i16 0, .int .i16 0, .int .i16 0, .int .i16 0, .int .i16 0, .int .i16 0, .int .i16 0, .int .i16 0, .int .i16 0, .int .i16 0, .int .i16 0, .int .i16 0, .int .i16 0, .int .i16 0, .int .i16 0, .int .i16 0, .int .i16 0, .int .i16 0, .int .i16 0, .int .i16 0, .int .i16 0, .int .i16 0, .int .i16 0, .int .i16 0, .int .i16 0, .int .i16 0, .int .i16 0, .int .i16 0, .int .i16 0, .int .i16 0, .int .i16 0, .int .i16 0, .int .i16 0, .int .i16 0, .int .i16 0, .int .i16 0, .int .i16 0, .int .i16 0, .int .i16 0, .int .i16 0, .int .i16 0, .int .i16 0, .int .i16 0, .int .i16 0, .int .i16 0, .int .i16 0, .int .i16 0, .int .i16 0, .int .i16 0, .int .i16 0, .int .i16 0] 129)) (b := w.heap.size + 1) (by omega) (arrV .i16 64 f)
  have K0 := Lib.hid (And.intro a3 (And.intro (a4.congr (fun j _ => mixFN_0 (clampF f) f j)) kB))
  clear a4 kB
  go_enter Tryz.func84, Tryz.ntmps84
  go_wp2_with (first | (refine wpList_load_arr a1 _ _ rfl rfl rfl Tryz.underlying129 sizeCells ?_) | (refine wpList_store_arr a2 _ _ _ rfl rfl rfl rfl sizeCells ?_) | (refine wpList_load_arr a3 _ _ rfl rfl rfl Tryz.underlying129 sizeCells ?_))
  clear a1 a2 a3
  go_loopw [8] (fun i wr => ∃ k : Nat, k ≤ 64 ∧ i = .int .i64 k ∧ HasArr wr w.heap.size 129 .i16 64 f ∧ HasArr wr (w.heap.size + 1) 129 .i16 64 (mixFN (clampF f) f k) ∧ Below w.heap.size w wr) (fun i _ => 64 - (intOf i).toNat)
  case atStart => exact ⟨0, by omega, rfl, K0.out⟩
  case round =>
    obtain ⟨k, hk, rfl, h1, h2, hB⟩ := hrel
    by_cases hkn : k < 64
    · have ix := Hix.out k hkn wr
      have c2 := h2.cell hkn
      have f2 := h2.free k
      have k2 := (h2.set k (clampF f k)).congr (fun j _ => mixFN_step (clampF f) f k j)
      have k1 := h1.other (a := ⟨w.heap.size + 1, k, none⟩) (by simp) (.int .i16 (clampF f k))
      have kB := hB.setCell (p := ⟨w.heap.size + 1, k, none⟩) (by simp) (.int .i16 (clampF f k))
      have K := Lib.hid (And.intro k1 (And.intro k2 kB))
      clear k1 k2 kB h1 h2 hB
      go_wp2
      go_roundw
      case rel => exact ⟨k + 1, by omega, by go_num, K.out⟩
      case measure => simp [intOf]; omega
    · obtain rfl : k = 64 := by omega
      have h2 := h2.congr (g := clampF f) (fun j hj => mixFN_n _ _ hj)
      have q := Heq.out wr
      go_wp2_with (first | (refine wpList_load_arr h2 _ _ rfl rfl rfl Tryz.underlying129 sizeCells ?_) | (refine wpList_load_arr h1 _ _ rfl rfl rfl Tryz.underlying129 sizeCells ?_))
      go_ret
      exact ⟨rfl, hB⟩
end Go.Proofs.YtmibinfaafhgdaaGreatDoor

namespace Go.Proofs.YtmibinfaafhgdaaGreatDoor
open Go.RowKit

/-- Numbers of int16. -/
def S16 (f : Nat → Int) : Prop := ∀ k, k < 64 → -32768 ≤ f k ∧ f k ≤ 32767
theorem dnsB_S16 {f : Nat → Int} (h : dnsB f = true) : S16 f := fun k hk => by have := dnsB_bd h hk; omega

set_option maxRecDepth 100000 in
set_option maxHeartbeats 1000000 in
theorem l03Print_any (b : Nat) (T : TypeId) (f : Nat → Int) (hf : S16 f) (w : World) (h : HasArr w b T .i16 64 f) :
    Calls Tryz.prog 43 #[.pointer (some ⟨b, 0, none⟩)] w fun e w' => e = .returned (.bool (dnsB f)) ∧ Below w.heap.size w w' := by
  have a2 := HasArr.zero w 28 (b := w.heap.size) rfl
  have a3 := a2.setRow .i16 f
  have kB := below_setRow ((Below.refl w.heap.size w).alloc (Nat.le_refl _) (.cells #[.int .i16 0, .int .i16 0, .int .i16 0, .int .i16 0, .int .i16 0, .int .i16 0, .int .i16 0, .int .i16 0, .int .i16 0, .int .i16 0, .int .i16 0, .int .i16 0, .int .i16 0, .int .i16 0, .int .i16 0, .int .i16 0, .int .i16 0, .int .i16 0, .int .i16 0, .int .i16 0, .int .i16 0, .int .i16 0, .int .i16 0, .int .i16 0, .int .i16 0, .int .i16 0, .int .i16 0, .int .i16 0, .int .i16 0, .int .i16 0, .int .i16 0, .int .i16 0, .int .i16 0, .int .i16 0, .int .i16 0, .int .i16 0, .int .i16 0, .int .i16 0, .int .i16 0, .int .i16 0, .int .i16 0, .int .i16 0, .int .i16 0, .int .i16 0, .int .i16 0, .int .i16 0, .int .i16 0, .int .i16 0, .int .i16 0, .int .i16 0, .int .i16 0, .int .i16 0, .int .i16 0, .int .i16 0, .int .i16 0, .int .i16 0, .int .i16 0, .int .i16 0, .int .i16 0, .int .i16 0, .int .i16 0, .int .i16 0, .int .i16 0, .int .i16 0] 28)) (b := w.heap.size) (by omega) (arrV .i16 64 f)
  have hd := l03Dense_any w.heap.size 28 f hf _ a3
  have Hd := Lib.hid hd; clear hd
  have KB := Lib.hid kB; clear kB
  clear a3 hf
  go_enter Tryz.func43, Tryz.ntmps43
  go_wp2_with (first | (refine wpList_load_arr h _ _ rfl rfl rfl Tryz.underlying29 sizePrint ?_) | (refine wpList_store_arr a2 _ _ _ rfl rfl rfl rfl sizeA64 ?_) | (go_at_call 70; refine Hd.out.mono ?_; rintro e w' ⟨rfl, rfl⟩))
  go_ret
  exact ⟨rfl, KB.out⟩

set_option maxRecDepth 100000 in
set_option maxHeartbeats 1000000 in
theorem ValidPrint_any (f : Nat → Int) (w : World) :
    Calls Tryz.prog 63 #[.agg (arrV .i16 64 f)] w fun e w' => e = .returned (.bool (dnsB f)) ∧ Below w.heap.size w w' := by
  have a1 := HasArr.new w 29 .i16 64 f
  have kB := (Below.refl w.heap.size w).alloc (Nat.le_refl _) (.cells (arrV .i16 64 f) 29)
  have KB := Lib.hid kB; clear kB
  go_enter Tryz.func63, Tryz.ntmps63
  go_wp2_with (first | (refine wpList_load_arr a1 _ _ rfl rfl rfl Tryz.underlying29 sizePrint ?_) | (go_at_call 84; refine (areOnScale_any _ _).mono ?_; rintro e w1 ⟨rfl, hb1⟩))
  go_ret
  exact ⟨rfl, KB.out.trans (hb1.mono KB.out.size)⟩
end Go.Proofs.YtmibinfaafhgdaaGreatDoor
