/-
  Arrays of numbers in memory, by value: cells, loads, stores, copies, comparison. Of whatever program; each theorem names its own condition.
-/
import Derived.Test.YtnlcjbobfhmnmabGreatDoorBase
import Derived.Deep.WholeRow
import Derived.ChangeKeysEq
namespace Go.Proofs.YtnlcjbobfhmnmabGreatDoor
open Go.RowKit

/-- The cells of an array of numbers of one kind. -/
def arrV (κ : IntKind) (n : Nat) (f : Nat → Int) : Array Value := Array.ofFn (n := n) fun i => .int κ (f i)
theorem arrV_size (κ : IntKind) (n : Nat) (f : Nat → Int) : (arrV κ n f).size = n := by simp [arrV]
theorem arrV_get {κ : IntKind} {n : Nat} {f : Nat → Int} {k : Nat} (h : k < n) : (arrV κ n f)[k]? = some (.int κ (f k)) := by simp [arrV, h]
theorem arrV_ext {κ : IntKind} {n : Nat} {f : Nat → Int} {cs : Array Value} (hs : cs.size = n) (h : ∀ k, k < n → cs[k]? = some (.int κ (f k))) : cs = arrV κ n f := by
  apply Array.ext_getElem?
  intro i
  by_cases hi : i < n
  · rw [h i hi, arrV_get hi]
  · rw [Array.getElem?_eq_none (by omega), Array.getElem?_eq_none (by rw [arrV_size]; omega)]
theorem arrV_congr {κ : IntKind} {n : Nat} {f g : Nat → Int} (h : ∀ k, k < n → f k = g k) : arrV κ n f = arrV κ n g :=
  arrV_ext (arrV_size _ _ _) fun k hk => by rw [arrV_get hk, h k hk]
theorem arrV_inj {κ : IntKind} {n : Nat} {f g : Nat → Int} (h : arrV κ n f = arrV κ n g) : ∀ k, k < n → f k = g k := fun k hk => by
  have := arrV_get (κ := κ) (f := f) hk
  rw [h, arrV_get hk] at this
  simpa using this.symm
/-- Numbers with one of them turned. -/
def upd (f : Nat → Int) (k : Nat) (v : Int) : Nat → Int := fun j => if j = k then v else f j
theorem upd_same (f : Nat → Int) (k : Nat) (v : Int) : upd f k v k = v := by simp [upd]
theorem upd_other {f : Nat → Int} {k : Nat} {v : Int} {j : Nat} (h : j ≠ k) : upd f k v j = f j := by simp [upd, h]
theorem arrV_set (κ : IntKind) (n : Nat) (f : Nat → Int) (k : Nat) (v : Int) : (arrV κ n f).setIfInBounds k (.int κ v) = arrV κ n (upd f k v) := by
  refine arrV_ext (by simp [arrV_size]) fun j hj => ?_
  by_cases e : j = k
  · subst e
    rw [upd_same, Array.getElem?_setIfInBounds_self_of_lt (by rw [arrV_size]; exact hj)]
  · rw [upd_other e, Array.getElem?_setIfInBounds_ne (fun h => e h.symm), arrV_get hj]
theorem arrV_one (κ : IntKind) (n : Nat) (f : Nat → Int) : (arrV κ n f).all (·.oneCell') = true := by
  rw [Array.all_eq_true]
  intro i hi
  have h := arrV_get (κ := κ) (f := f) (show i < n by rw [arrV_size] at hi; exact hi)
  rw [Array.getElem?_eq_getElem hi] at h
  rw [Option.some.inj h]; rfl

/-- A block that is an array of numbers. -/
def HasArr (w : World) (b : Nat) (T : TypeId) (κ : IntKind) (n : Nat) (f : Nat → Int) : Prop := w.heap[b]? = some (.cells (arrV κ n f) T (0, 0))
section
variable {P : Program} {w w' : World} {b : Nat} {T : TypeId} {κ : IntKind} {n : Nat} {f g : Nat → Int}
theorem HasArr.lt (h : HasArr w b T κ n f) : b < w.heap.size := (Array.getElem?_eq_some_iff.1 h).1
theorem HasArr.cell (h : HasArr w b T κ n f) {k : Nat} (hk : k < n) : w.cell? ⟨b, k, none⟩ = some (.int κ (f k)) := by
  rw [cell_of_row w b k _ T (0, 0) h]; exact arrV_get hk
theorem HasArr.free (h : HasArr w b T κ n f) (k : Nat) : w.frozen? ⟨b, k, none⟩ = false := frozen_of_row w b k _ T h
theorem HasArr.below {B : Nat} (h : HasArr w b T κ n f) (hb : Below B w w') (hB : b < B) : HasArr w' b T κ n f := (hb.block b hB).trans h
theorem HasArr.alloc (h : HasArr w b T κ n f) (o : Obj) : HasArr (w.alloc o) b T κ n f := (Below.heap_alloc w o b h.lt).trans h
theorem HasArr.new (w : World) (T : TypeId) (κ : IntKind) (n : Nat) (f : Nat → Int) : HasArr (w.alloc (.cells (arrV κ n f) T)) w.heap.size T κ n f := heap_alloc_last w _
theorem HasArr.other (h : HasArr w b T κ n f) {a : Addr} (hne : b ≠ a.block) (v : Value) : HasArr (w.setCell a v) b T κ n f := (Below.heap_setCell w a v b hne).trans h
theorem HasArr.set (h : HasArr w b T κ n f) (k : Nat) (v : Int) : HasArr (w.setCell ⟨b, k, none⟩ (.int κ v)) b T κ n (upd f k v) := by
  unfold HasArr
  rw [heap_setCell_same w b k _ T _ h, arrV_set]
theorem HasArr.congr (h : HasArr w b T κ n f) (hfg : ∀ k, k < n → f k = g k) : HasArr w b T κ n g := by unfold HasArr; rw [← arrV_congr hfg]; exact h
theorem HasArr.setRow (h : HasArr w b T κ n f) (κ' : IntKind) (g : Nat → Int) : HasArr (w.setRow b (arrV κ' n g)) b T κ' n g := setRow_heap w b _ _ T _ h
theorem HasArr.rowOther (h : HasArr w b T κ n f) {b' : Nat} (hne : b ≠ b') (cs : Array Value) : HasArr (w.setRow b' cs) b T κ n f := (setRow_other w b' b cs hne).trans h
theorem below_setRow {B b : Nat} {a w : World} (h : Below B a w) (hb : B ≤ b) (cs : Array Value) : Below B a (w.setRow b cs) :=
  h.trans ⟨rfl, rfl, rfl, by simp, fun k hk => setRow_other w b k cs (by omega)⟩
theorem HasArr.loadV (h : HasArr w b T κ n f) (ty : TypeId) {m : Nat} {e : TypeId} (hu : P.underlying ty = some (.array m e)) (hi : (P.info? ty).map (·.size) = some n) :
    (loadVar ty ⟨b, 0, none⟩).run P w = .ok (.agg (arrV κ n f)) w :=
  run_loadVar_row w b T ty _ (0, 0) _ h hu rfl (by rw [arrV_size]; exact hi)
theorem HasArr.load (h : HasArr w b T κ n f) (ty : TypeId) {m : Nat} {e : TypeId} (hu : P.underlying ty = some (.array m e)) (hi : (P.info? ty).map (·.size) = some n) :
    (Instr.loadAt ty (.pointer (some ⟨b, 0, none⟩))).run P w = .ok (.agg (arrV κ n f)) w := by
  simp only [Instr.loadAt, Instr.sureAddr, Sem.run_bind, Sem.run_pure, Result.andThen]
  exact h.loadV ty hu hi
theorem HasArr.storeV (h : HasArr w b T κ n f) (ty : TypeId) (κ' : IntKind) (g : Nat → Int) (hi : (P.info? ty).map (·.size) = some n) :
    (storeVar ty ⟨b, 0, none⟩ (.agg (arrV κ' n g))).run P w = .ok () (w.setRow b (arrV κ' n g)) :=
  run_storeVar_row w b T ty _ _ h (by rw [arrV_size]; exact hi) (by rw [arrV_size, arrV_size]) (arrV_one _ _ _)
theorem HasArr.store (h : HasArr w b T κ n f) (ty : TypeId) (κ' : IntKind) (g : Nat → Int) (hi : (P.info? ty).map (·.size) = some n) :
    (Instr.storeAt ty (.pointer (some ⟨b, 0, none⟩)) (.agg (arrV κ' n g))).run P w = .ok () (w.setRow b (arrV κ' n g)) := by
  simp only [Instr.storeAt, Instr.sureAddr, Sem.run_bind, Sem.run_pure, Result.andThen]
  exact h.storeV ty κ' g hi
end

/-! ### COMPARISON -/
/-- Are the first n numbers the same? -/
def eqN (f g : Nat → Int) (n : Nat) : Bool := (List.range n).all fun k => decide (f k = g k)
theorem eqN_iff {f g : Nat → Int} {n : Nat} : eqN f g n = true ↔ ∀ k, k < n → f k = g k := by simp [eqN]
theorem eqN_self (f : Nat → Int) (n : Nat) : eqN f f n = true := eqN_iff.2 fun _ _ => rfl
theorem eqN_no {f g : Nat → Int} {n k : Nat} (hk : k < n) (h : f k ≠ g k) : eqN f g n = false := by
  rcases h' : eqN f g n with _ | _
  · rfl
  · exact absurd (eqN_iff.1 h' k hk) h
section
variable {P : Program}
theorem run_part_arr (w : World) {e : TypeId} {κ : IntKind} {n k : Nat} {f : Nat → Int} (he : P.underlying e = some (.int κ)) (hk : k < n) : (part e (arrV κ n f) k).run P w = .ok (.int κ (f k)) w := by
  have hagg : (isAgg e).run P w = .ok false w := by
    unfold isAgg
    rw [Sem.run_bind, run_underlying he w]
    simp
  simp [part, Sem.run_bind, hagg, arrV_get hk]
theorem run_eqItems_arr (w : World) (d : Nat) {e : TypeId} {κ : IntKind} {n : Nat} {f g : Nat → Int} (he : P.underlying e = some (.int κ)) : ∀ (is : List Nat), (∀ k ∈ is, k < n) →
    (Op.eqItems (d + 1) e 1 (arrV κ n f) (arrV κ n g) is).run P w = .ok (is.all fun k => decide (f k = g k)) w
  | [], _ => by simp [Op.eqItems]
  | i :: is, h => by
    have h1 := h i List.mem_cons_self
    simp only [Op.eqItems, Nat.mul_one, Sem.run_bind, run_part_arr w he h1, Result.andThen_ok, run_equalIn_int w d e κ κ (f i) (g i) he, List.all_cons]
    by_cases hc : f i = g i
    · simp only [hc, beq_self_eq_true, Bool.not_true, Bool.false_eq_true, if_false, decide_true, Bool.true_and]
      exact run_eqItems_arr w d he is fun k hk => h k (List.mem_cons_of_mem _ hk)
    · have hb : (f i == g i) = false := by simpa using hc
      simp [hb, hc]
theorem run_equal_arr (w : World) {t e : TypeId} {κ : IntKind} {n : Nat} {i : TypeInfo} (f g : Nat → Int) (hu : P.underlying t = some (.array n e)) (he : P.underlying e = some (.int κ)) (hi : P.info? e = some i) (hc : P.cellsOf e = 1) :
    (Op.equalIn 10000 t (.agg (arrV κ n f)) (.agg (arrV κ n g))).run P w = .ok (eqN f g n) w := by
  rw [run_equalIn_array w 9999 _ _ hu hi, hc]
  exact run_eqItems_arr w 9998 he _ fun k hk => List.mem_range.1 hk
/-! THE OPERATIONS OF A WALK -/
theorem wpList_load_arr {ops : Array Oper} {rest : List Oper} {o : Oper} {a : Act} {w : World} {Q : Exit → Act → World → Prop} {b : Nat} {T : TypeId} {κ : IntKind} {n : Nat} {f : Nat → Int} {m : Nat} {e : TypeId}
    (h : HasArr w b T κ n f) (ty : TypeId) (x : Operand) (hgd : o.guard = none) (ho : o.op = .load ty x) (hx : a.eval x = .pointer (some ⟨b, 0, none⟩)) (hu : P.underlying ty = some (.array m e)) (hi : (P.info? ty).map (·.size) = some n)
    (hK : wpList P ops Q rest (a.put o.dst (.agg (arrV κ n f))) w) : wpList P ops Q (o :: rest) a w :=
  wpList_load_row hgd ty x ho b hx T _ (0, 0) _ h hu rfl (by rw [arrV_size]; exact hi) hK
theorem wpList_store_arr {ops : Array Oper} {rest : List Oper} {o : Oper} {a : Act} {w : World} {Q : Exit → Act → World → Prop} {b : Nat} {T : TypeId} {κ κ' : IntKind} {n : Nat} {f g : Nat → Int}
    (h : HasArr w b T κ n f) (ty : TypeId) (x y : Operand) (hgd : o.guard = none) (ho : o.op = .store ty x y) (hx : a.eval x = .pointer (some ⟨b, 0, none⟩)) (hy : a.eval y = .agg (arrV κ' n g)) (hi : (P.info? ty).map (·.size) = some n)
    (hK : wpList P ops Q rest (a.put o.dst undef) (w.setRow b (arrV κ' n g))) : wpList P ops Q (o :: rest) a w :=
  wpList_store_row hgd ty x y ho b _ hx hy T _ h (by rw [arrV_size]; exact hi) (by rw [arrV_size, arrV_size]) (arrV_one _ _ _) hK
end
/-! ### THE TYPES OF THIS PROGRAM -/
theorem zeroArr16 : #[.int .i16 0, .int .i16 0, .int .i16 0, .int .i16 0, .int .i16 0, .int .i16 0, .int .i16 0, .int .i16 0, .int .i16 0, .int .i16 0, .int .i16 0, .int .i16 0, .int .i16 0, .int .i16 0, .int .i16 0, .int .i16 0, .int .i16 0, .int .i16 0, .int .i16 0, .int .i16 0, .int .i16 0, .int .i16 0, .int .i16 0, .int .i16 0, .int .i16 0, .int .i16 0, .int .i16 0, .int .i16 0, .int .i16 0, .int .i16 0, .int .i16 0, .int .i16 0, .int .i16 0, .int .i16 0, .int .i16 0, .int .i16 0, .int .i16 0, .int .i16 0, .int .i16 0, .int .i16 0, .int .i16 0, .int .i16 0, .int .i16 0, .int .i16 0, .int .i16 0, .int .i16 0, .int .i16 0, .int .i16 0, .int .i16 0, .int .i16 0, .int .i16 0, .int .i16 0, .int .i16 0, .int .i16 0, .int .i16 0, .int .i16 0, .int .i16 0, .int .i16 0, .int .i16 0, .int .i16 0, .int .i16 0, .int .i16 0, .int .i16 0, .int .i16 0] = arrV .i16 64 fun _ => 0 := by kernel_rfl

theorem HasArr.zero (w : World) (T : TypeId) {b : Nat} (hb : b = w.heap.size) : HasArr (w.alloc (.cells #[.int .i16 0, .int .i16 0, .int .i16 0, .int .i16 0, .int .i16 0, .int .i16 0, .int .i16 0, .int .i16 0, .int .i16 0, .int .i16 0, .int .i16 0, .int .i16 0, .int .i16 0, .int .i16 0, .int .i16 0, .int .i16 0, .int .i16 0, .int .i16 0, .int .i16 0, .int .i16 0, .int .i16 0, .int .i16 0, .int .i16 0, .int .i16 0, .int .i16 0, .int .i16 0, .int .i16 0, .int .i16 0, .int .i16 0, .int .i16 0, .int .i16 0, .int .i16 0, .int .i16 0, .int .i16 0, .int .i16 0, .int .i16 0, .int .i16 0, .int .i16 0, .int .i16 0, .int .i16 0, .int .i16 0, .int .i16 0, .int .i16 0, .int .i16 0, .int .i16 0, .int .i16 0, .int .i16 0, .int .i16 0, .int .i16 0, .int .i16 0, .int .i16 0, .int .i16 0, .int .i16 0, .int .i16 0, .int .i16 0, .int .i16 0, .int .i16 0, .int .i16 0, .int .i16 0, .int .i16 0, .int .i16 0, .int .i16 0, .int .i16 0, .int .i16 0] T)) b T .i16 64 fun _ => 0 := by
  subst hb; rw [zeroArr16]; exact HasArr.new w T _ _ _
/-- The first k numbers are f's, the others 0. -/
def mixN (f : Nat → Int) (k : Nat) : Nat → Int := fun j => if j < k then f j else 0
theorem mixN_step (f : Nat → Int) (k j : Nat) : upd (mixN f k) k (f k) j = mixN f (k + 1) j := by
  unfold upd mixN
  split
  · rename_i h; subst h; simp
  · rename_i h
    have : j < k ↔ j < k + 1 := by omega
    simp [this]

end Go.Proofs.YtnlcjbobfhmnmabGreatDoor
