/-
  Lists of prints: arrays that lie in a row; the laws' own copying and comparing of such lists. Condition: at most 1048576 entries.
-/
import Derived.Test.YtmibinfaafhgdaaDoorArrTools
import Derived.Test.YtmibinfaafhgdaaDoorEqNeg
import Derived.Deep.OwnRows
import Derived.Deep.Slices
import Derived.Deep.Fields
import Derived.Deep.MidRow
import Derived.Lib.LazyBuf
import Derived.ProofKit
import Derived.OpenShut
import Derived.Deep.RegionWith
namespace Go.Proofs.YtmibinfaafhgdaaDoor
open Go.RowKit Go.ChangeShapes Go.WideShapes Go.Deep

/-- From cell o of block b on lie the numbers of an array. -/
def PartA (w : World) (b o : Nat) (κ : IntKind) (n : Nat) (f : Nat → Int) : Prop := ∀ k, k < n → w.cell? ⟨b, o + k, none⟩ = some (.int κ (f k))
section
variable {P : Program} {w w' : World} {b o : Nat} {κ : IntKind} {n : Nat} {f g : Nat → Int}
theorem PartA.range (h : PartA w b o κ n f) : w.rangeAt b o (arrV κ n f).toList := fun j v hv => by
  have hj : j < n := by
    have := (List.getElem?_eq_some_iff.1 hv).1
    simpa [arrV_size] using this
  rw [h j hj]
  rw [Array.getElem?_toList, arrV_get hj] at hv
  exact hv
theorem PartA.below {B : Nat} (h : PartA w b o κ n f) (hb : Below B w w') (hB : b < B) : PartA w' b o κ n f := fun k hk => by
  rw [hb.cell (p := ⟨b, o + k, none⟩) hB]; exact h k hk
theorem PartA.of_arr {T : TypeId} (h : HasArr w b T κ n f) : PartA w b 0 κ n f := fun k hk => by
  rw [Nat.zero_add]; exact h.cell hk
theorem PartA.congr (h : PartA w b o κ n f) (e : ∀ k, k < n → f k = g k) : PartA w b o κ n g := fun k hk => by rw [h k hk, e k hk]
theorem wpList_load_part {ops : Array Oper} {rest : List Oper} {op : Oper} {a : Act} {Q : Exit → Act → World → Prop} {m : Nat} {e : TypeId}
    (h : PartA w b o κ n f) (ty : TypeId) (x : Operand) (hgd : op.guard = none) (ho : op.op = .load ty x) (hx : a.eval x = .pointer (some ⟨b, o, none⟩)) (hu : P.underlying ty = some (.array m e)) (hi : (P.info? ty).map (·.size) = some n)
    (hK : wpList P ops Q rest (a.put op.dst (.agg (arrV κ n f))) w) : wpList P ops Q (op :: rest) a w :=
  wpList_load_mid hgd ty x ho b o hx (arrV κ n f).toList _ h.range hu rfl (by simpa [arrV_size] using hi) (by simpa using hK)
theorem run_load_part {op : Oper} {ρ : Operand → Value} {m : Nat} {e : TypeId}
    (h : PartA w b o κ n f) (ty : TypeId) (x : Operand) (ho : op.op = .load ty x) (hx : ρ x = .pointer (some ⟨b, o, none⟩)) (hu : P.underlying ty = some (.array m e)) (hi : (P.info? ty).map (·.size) = some n) :
    (execOp ρ op).run P w = .ok (.value (.agg (arrV κ n f))) w := by
  have hl := run_loadVar_mid (P := P) w b o ty (arrV κ n f).toList _ h.range hu rfl (by simpa [arrV_size] using hi)
  simp only [Array.toArray_toList] at hl
  unfold execOp
  simp only [ho, hx, Instr.loadAt, Instr.sureAddr, Sem.run_bind, Sem.run_pure, Result.andThen_ok, hl]
theorem wpQuiet_load_part {ops : Array Oper} {C : World → Prop} {Q : Act → Prop} {a : Act} {op : Oper} {rest : List Oper} {m : Nat} {e : TypeId}
    (h : ∀ W, C W → PartA W b o κ n f) (ty : TypeId) (x : Operand) (hgd : op.guard = none) (ho : op.op = .load ty x) (hx : a.eval x = .pointer (some ⟨b, o, none⟩)) (hu : P.underlying ty = some (.array m e)) (hi : (P.info? ty).map (·.size) = some n)
    (hK : wpQuiet P ops C Q rest (a.put op.dst (.agg (arrV κ n f)))) : wpQuiet P ops C Q (op :: rest) a :=
  BigFrame.wpQuiet_want (by simp [Region.wanted, hgd]) fun _ hK' => ⟨_, fun W hW => by unfold Oper.quietAt; rw [run_load_part (h W hW) ty x ho hx hu hi]; exact ⟨rfl, rfl⟩, hK' _ hK⟩
/-- An array has been stored into the middle of block b. -/
structure StoredP (w w' : World) (b o n : Nat) (κ : IntKind) (f : Nat → Int) : Prop where
  os : w'.os = w.os
  tape : w'.tape = w.tape
  output : w'.output = w.output
  size : w'.heap.size = w.heap.size
  other : ∀ b', b' ≠ b → w'.heap[b']? = w.heap[b']?
  row : ∀ T m h, w.rowIs b T m h → w'.rowIs b T m (fun j => if o ≤ j ∧ j < o + n then .int κ (f (j - o)) else h j)
theorem size_setCellsP (b : Nat) : ∀ (vs : List Value) (o : Nat) (w : World), (w.setCells b o vs).heap.size = w.heap.size
  | [], _, _ => rfl
  | v :: r, o, w => by rw [World.setCells, size_setCellsP b r]; simp [World.setCell]
theorem other_setCellsP (b b' : Nat) (hne : b' ≠ b) : ∀ (vs : List Value) (o : Nat) (w : World), (w.setCells b o vs).heap[b']? = w.heap[b']?
  | [], _, _ => rfl
  | v :: r, o, w => by rw [World.setCells, other_setCellsP b b' hne r]; exact Below.heap_setCell _ _ _ _ hne
theorem storedP (w : World) (b o n : Nat) (κ : IntKind) (f : Nat → Int) : StoredP w (w.setCells b o (arrV κ n f).toList) b o n κ f :=
  have k := below_setCells (B := 0) (Nat.zero_le b) (arrV κ n f).toList o w (Below.refl 0 w)
  ⟨k.os, k.tape, k.output, size_setCellsP _ _ _ _, fun b' h => other_setCellsP b b' h _ _ _, fun T m h hr => (rowIs_setCells _ _ _ _ hr).congr fun j _ => by
    simp only [Array.length_toList, arrV_size]
    by_cases h1 : o ≤ j ∧ j < o + n
    · rw [if_pos h1, if_pos h1, Array.getElem?_toList, arrV_get (by omega)]; rfl
    · rw [if_neg h1, if_neg h1]⟩
theorem StoredP.below {B : Nat} {a : World} (s : StoredP w w' b o n κ f) (h : Below B a w) (hB : B ≤ b) : Below B a w' :=
  h.trans ⟨s.os, s.tape, s.output, by rw [s.size]; exact Nat.le_refl _, fun k hk => s.other k (by omega)⟩
/-- A whole array into the middle of a row. -/
theorem wpList_store_part {ops : Array Oper} {rest : List Oper} {op : Oper} {a : Act} {Q : Exit → Act → World → Prop} {T : TypeId} {m : Nat} {h : Nat → Value}
    (hr : w.rowIs b T m h) (hm : o + n ≤ m) (ty : TypeId) (x y : Operand) (hgd : op.guard = none) (ho : op.op = .store ty x y) (hx : a.eval x = .pointer (some ⟨b, o, none⟩)) (hy : a.eval y = .agg (arrV κ n f)) (hi : (P.info? ty).map (·.size) = some n)
    (hK : ∀ w', StoredP w w' b o n κ f → wpList P ops Q rest (a.put op.dst undef) w') : wpList P ops Q (op :: rest) a w :=
  wpList_store_mid hgd ty x y ho b o _ hx hy (fun j hj => by
    rw [arrV_size] at hj
    exact ⟨by rw [hr.cell (by omega)]; rfl, hr.frozen _⟩) (by rw [arrV_size]; exact hi) (arrV_one _ _ _) (hK _ (storedP _ _ _ _ _ _))
end

/-! ### LISTS OF PRINTS -/
/-- The cells of a list of prints. -/
def prF (g : Nat → Nat → Int) (j : Nat) : Value := .int .i16 (g (j / 64) (j % 64))
theorem prF_at (g : Nat → Nat → Int) (i : Nat) {k : Nat} (hk : k < 64) : prF g (i * 64 + k) = .int .i16 (g i k) := by
  unfold prF
  rw [show (i * 64 + k) / 64 = i by omega, show (i * 64 + k) % 64 = k by omega]
/-- Block b begins with these n prints. -/
def PrRow (w : World) (b n : Nat) (g : Nat → Nat → Int) : Prop := ∃ m h, n * 64 ≤ m ∧ w.rowIs b 37 m h ∧ ∀ j, j < n * 64 → h j = prF g j
/-- A list of prints as it came: nil or not. -/
def PrsIn (w : World) (A : Option Addr) (n : Nat) (g : Nat → Nat → Int) : Prop :=
  n = 0 ∨ ∃ b o, A = some ⟨b, o, none⟩ ∧ b < w.heap.size ∧ ∀ i, i < n → PartA w b (o + i * 64) .i16 64 (g i)
section
variable {w w' : World} {b n : Nat} {g : Nat → Nat → Int} {A : Option Addr}
theorem PrRow.part (h : PrRow w b n g) {i : Nat} (hi : i < n) : PartA w b (i * 64) .i16 64 (g i) := fun k hk => by
  obtain ⟨m, f, hm, hr, he⟩ := h
  rw [hr.cell (by omega), he _ (by omega), prF_at g i hk]
theorem PrRow.lt (h : PrRow w b n g) : b < w.heap.size := by
  obtain ⟨_, _, _, hr, _⟩ := h
  exact hr.lt
theorem PrRow.below {B : Nat} (h : PrRow w b n g) (hb : Below B w w') (hB : b < B) : PrRow w' b n g := by
  obtain ⟨m, f, hm, hr, he⟩ := h
  exact ⟨m, f, hm, hr.of_block (hb.block b hB), he⟩
theorem PrsIn.below {B : Nat} (h : PrsIn w A n g) (hb : Below B w w') (hB : w.heap.size ≤ B) : PrsIn w' A n g := by
  rcases h with h | ⟨b, o, e, hlt, hc⟩
  · exact .inl h
  · exact .inr ⟨b, o, e, by have := hb.size; omega, fun i hi => (hc i hi).below hb (by omega)⟩
theorem PrRow.prs (h : PrRow w b n g) : PrsIn w (some ⟨b, 0, none⟩) n g := .inr ⟨b, 0, rfl, h.lt, fun i hi => by rw [Nat.zero_add]; exact h.part hi⟩
theorem PrRow.other (h : PrRow w b n g) {a : Addr} (hne : b ≠ a.block) (v : Value) : PrRow (w.setCell a v) b n g := by
  obtain ⟨m, f, hm, hr, he⟩ := h
  exact ⟨m, f, hm, hr.setOther hne v, he⟩
theorem PrsIn.congr {g' : Nat → Nat → Int} (h : PrsIn w A n g) (e : ∀ i, i < n → ∀ k, k < 64 → g i k = g' i k) : PrsIn w A n g' := by
  rcases h with h | ⟨b, o, e', hlt, hc⟩
  · exact .inl h
  · exact .inr ⟨b, o, e', hlt, fun i hi => (hc i hi).congr (e i hi)⟩
end

theorem prMade (w : World) (n : Nat) (t : TypeId) : (w.alloc (.cells (madeCells (arrV .i16 64 fun _ => 0) (n * 64)) t)).rowIs w.heap.size t (n * 64) (fun _ => .int .i16 0) := by
  have h := World.rowIs_alloc w (madeCells (arrV .i16 64 fun _ => 0) (n * 64)) t (fun _ => .int .i16 0) (fun i hi => by
    rw [size_madeCells] at hi
    have h2 : (arrV .i16 64 fun _ => 0)[i % 64]? = some (.int .i16 0) := arrV_get (by omega)
    simp [madeCells, hi, arrV_size, getElem!_def, h2])
  rw [size_madeCells] at h
  exact h
theorem run_make_rowPr {P : Program} (t e : TypeId) (i : TypeInfo) (z : Value) (ht : P.underlying t = some (.slice e)) (hi : P.info? e = some i) (hz : i.zero = some z)
    (kl kc : IntKind) (n c : Nat) (hnc : n ≤ c) (hbytes : i.bytes * c ≤ 281474976710656) (h63 : c ≤ 9223372036854775807) (w : World) :
    (Instr.makeSlice t (.int kl (n : Int)) (.int kc (c : Int))).run P w = .ok (.slice (some ⟨w.heap.size, 0, none⟩) n c) (w.alloc (.cells (madeCells z.cells (c * i.size)) e)) := by
  have hb : (i.bytes : Int) * (c : Int) ≤ 281474976710656 := by
    have h : ((i.bytes * c : Nat) : Int) ≤ 281474976710656 := by omega
    rwa [Int.natCast_mul] at h
  have hr := run_make (P := P) w t e i z ht hi hz kl kc n c (by omega) (by omega) hb (by omega)
  simp only [Int.toNat_natCast] at hr
  exact hr
theorem row_storePr {w w' : World} {b : Nat} {t : TypeId} {m k : Nat} {g : Nat → Nat → Int} {h0 : Nat → Value} (s : StoredP w w' b (k * 64) 64 .i16 (g k)) (h : w.rowIs b t m (fun j => if j < k * 64 then prF g j else h0 j)) :
    w'.rowIs b t m (fun j => if j < (k + 1) * 64 then prF g j else h0 j) :=
  (s.row _ _ _ h).congr fun j _ => by
    by_cases h1 : k * 64 ≤ j ∧ j < k * 64 + 64
    · rw [if_pos h1, if_pos (by omega)]
      have := prF_at g k (k := j - k * 64) (by omega)
      rw [show k * 64 + (j - k * 64) = j by omega] at this
      rw [this]
    · rw [if_neg h1]
      by_cases h2 : j < k * 64
      · rw [if_pos h2, if_pos (by omega)]
      · rw [if_neg h2, if_neg (by omega)]

theorem prInfo : (Tryd.prog.info? 37).map (fun i => (i.zero, i.size, i.bytes)) = some (some (.agg #[.int .i16 0, .int .i16 0, .int .i16 0, .int .i16 0, .int .i16 0, .int .i16 0, .int .i16 0, .int .i16 0, .int .i16 0, .int .i16 0, .int .i16 0, .int .i16 0, .int .i16 0, .int .i16 0, .int .i16 0, .int .i16 0, .int .i16 0, .int .i16 0, .int .i16 0, .int .i16 0, .int .i16 0, .int .i16 0, .int .i16 0, .int .i16 0, .int .i16 0, .int .i16 0, .int .i16 0, .int .i16 0, .int .i16 0, .int .i16 0, .int .i16 0, .int .i16 0, .int .i16 0, .int .i16 0, .int .i16 0, .int .i16 0, .int .i16 0, .int .i16 0, .int .i16 0, .int .i16 0, .int .i16 0, .int .i16 0, .int .i16 0, .int .i16 0, .int .i16 0, .int .i16 0, .int .i16 0, .int .i16 0, .int .i16 0, .int .i16 0, .int .i16 0, .int .i16 0, .int .i16 0, .int .i16 0, .int .i16 0, .int .i16 0, .int .i16 0, .int .i16 0, .int .i16 0, .int .i16 0, .int .i16 0, .int .i16 0, .int .i16 0, .int .i16 0]), 64, 128) := by kernel_rfl

set_option maxRecDepth 100000 in
set_option maxHeartbeats 1000000 in
theorem toPrintS_any (A : Option Addr) (n cap : Nat) (g : Nat → Nat → Int) (hn : n ≤ 1048576) (w : World) (hr : PrsIn w A n g) :
    Calls Tryd.prog 6 #[.slice A n cap] w fun e w' => e = .returned (.slice (some ⟨w.heap.size, 0, none⟩) n n) ∧ PrRow w' w.heap.size n g ∧ Below w.heap.size w w' := by
  obtain ⟨i0, hi, hz0, hz1, hz2⟩ := info_parts prInfo
  have hmk := fun W => run_make_rowPr (P := Tryd.prog) 27 37 i0 _ Tryd.underlying27 hi hz0 .i64 .i64 n n (Nat.le_refl _) (by rw [hz2]; omega) (by omega) W
  rw [hz1] at hmk
  simp only [Value.cells] at hmk
  rw [zeroArr16] at hmk
  clear hi hz0 hz1 hz2
  have hrow := prMade w n 37
  have hB0 : Below w.heap.size w (w.alloc (.cells (madeCells (arrV .i16 64 fun _ => 0) (n * 64)) 37)) := (Below.refl _ _).alloc (Nat.le_refl _) _
  have hs0 : w.heap.size < (w.alloc (.cells (madeCells (arrV .i16 64 fun _ => 0) (n * 64)) 37)).heap.size := by simp
  generalize madeCells (arrV .i16 64 fun _ => 0) (n * 64) = Z at *
  go_enter Tryd.func6, Tryd.ntmps6
  go_wp2
  go_loopw [4] (fun i wr => ∃ k : Nat, k ≤ n ∧ i = .int .i64 k ∧ wr.rowIs w.heap.size 37 (n * 64) (fun j => if j < k * 64 then prF g j else .int .i16 0) ∧ Below w.heap.size w wr ∧ w.heap.size < wr.heap.size) (fun i _ => n - (intOf i).toNat)
  case atStart => exact ⟨0, Nat.zero_le _, rfl, hrow.congr (fun j _ => by simp), hB0, hs0⟩
  case round =>
    clear hrow hB0 hs0 hmk
    obtain ⟨k, hk, rfl, hR, hB, hs⟩ := hrel
    by_cases hkn : k < n
    · rcases hr with h0 | ⟨b, o, rfl, hlt, hc⟩
      · exfalso; omega
      have c0 := (hc k hkn).below hB hlt
      go_wp2_with (refine wpList_load_part c0 _ _ rfl rfl rfl Tryd.underlying36 sizeA64 ?_)
      refine (toPrint_16 _ _).mono ?_; rintro e w2 ⟨rfl, hb2⟩
      have hR2 := hR.of_block (hb2.block w.heap.size hs)
      have hB2 := hB.trans (hb2.mono hB.size)
      have hs2 := Nat.lt_of_lt_of_le hs hb2.size
      have hm : k * 64 + 64 ≤ n * 64 := by omega
      have K := Lib.hid (And.intro hR2 (And.intro hB2 hs2))
      clear c0 hb2 hR hB hs hB2 hs2
      go_wp2_with (refine wpList_store_part hR2 hm _ _ _ rfl rfl rfl rfl sizePrint ?_; intro w4 S4)
      go_roundw
      case rel => exact ⟨k + 1, by omega, by go_num, row_storePr S4 K.out.1, S4.below K.out.2.1 (Nat.le_refl _), by rw [S4.size]; exact K.out.2.2⟩
      case measure => simp [intOf]; omega
    · go_wp2
      go_ret
      have e : k = n := by omega
      subst e
      exact ⟨rfl, ⟨_, _, Nat.le_refl _, hR, fun j hj => if_pos hj⟩, hB⟩

theorem szPrintS_any (A : Option Addr) (n cap : Nat) (L : Int) (hL : 0 ≤ L) (hL' : L ≤ 1048576) (hn : n ≤ 9223372036854775807) (w : World) :
    Calls Tryd.prog 4 #[.slice A n cap, .int .i64 L] w fun e w' => e = .returned (.int .i64 (if (n : Int) ≤ L then L - n else -1)) ∧ w = w' := by
  by_cases h : (n : Int) ≤ L
  · rw [if_pos h]
    go_enter Tryd.func4, Tryd.ntmps4
    go_wp2
    all_goals
      first
      | (exfalso; omega)
      | (go_ret; exact ⟨rfl, rfl⟩)
  · rw [if_neg h]
    go_enter Tryd.func4, Tryd.ntmps4
    go_wp2
    all_goals
      first
      | (exfalso; omega)
      | (go_ret; exact ⟨rfl, rfl⟩)

set_option maxRecDepth 100000 in
set_option maxHeartbeats 1000000 in
theorem eqPrintS_same (A A' : Option Addr) (n cap cap' : Nat) (g : Nat → Nat → Int) (hn : n ≤ 1048576) (w : World) (h1 : PrsIn w A n g) (h2 : PrsIn w A' n g) :
    Calls Tryd.prog 9 #[.slice A n cap, .slice A' n cap'] w fun e w' => e = .returned (.bool true) ∧ Below w.heap.size w w' := by
  go_enter Tryd.func9, Tryd.ntmps9
  go_wp2
  go_loopw [5] (fun i wr => ∃ k : Nat, k ≤ n ∧ i = .int .i64 k ∧ Below w.heap.size w wr) (fun i _ => n - (intOf i).toNat)
  case atStart => exact ⟨0, Nat.zero_le _, rfl, Below.refl _ _⟩
  case round =>
    obtain ⟨k, hk, rfl, hB⟩ := hrel
    by_cases hkn : k < n
    · rcases h1 with h0 | ⟨b, o, rfl, hlt, hc⟩
      · exfalso; omega
      rcases h2 with h0 | ⟨b', o', rfl, hlt', hc'⟩
      · exfalso; omega
      have c0 := (hc k hkn).below hB hlt
      have d0 := (hc' k hkn).below hB hlt'
      have hbs := hB.size
      have C0 := Lib.hid c0; clear c0
      have D0 := Lib.hid d0; clear d0
      have HB := Lib.hid hB; clear hB
      clear hc hc'
      go_wp2_with fail
      refine wp_region_quietD (Below wr.heap.size wr) (by kernel_rfl) (by kernel_rfl) (below_drew1 _) ?_
      have n0 := below_nonempty wr
      quiet_step (fail)
      quiet_step (fail)
      quiet_step (fail)
      refine wpQuiet_load_part (fun W hW => by obtain ⟨x, rfl⟩ := hW; exact C0.out.below x.ok (by omega)) 37 (.tmp 19) rfl rfl rfl Tryd.underlying37 sizePrint ?_
      quiet_step (fail)
      quiet_step (fail)
      quiet_step (fail)
      refine wpQuiet_load_part (fun W hW => by obtain ⟨x, rfl⟩ := hW; exact D0.out.below x.ok (by omega)) 37 (.tmp 23) rfl rfl rfl Tryd.underlying37 sizePrint ?_
      quiet_step ((go_at_call 20; exact inCall _ (eqPrint_same _ _)))
      quiet_step (fail)
      refine wpQuiet_nil ?_
      rintro w2 ⟨⟨w3, hb2⟩, rfl⟩
      have hB2 := HB.out.trans (Below.mono hb2 HB.out.size)
      go_wp2_with fail
      go_roundw
      case rel => exact ⟨k + 1, by omega, by go_num, hB2⟩
      case measure => simp [intOf]; omega
    · go_wp2
      go_ret
      exact ⟨rfl, hB⟩
end Go.Proofs.YtmibinfaafhgdaaDoor
