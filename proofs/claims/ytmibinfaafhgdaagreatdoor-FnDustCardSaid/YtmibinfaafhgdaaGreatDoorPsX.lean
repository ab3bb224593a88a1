/-
  Lists of prints: arrays that lie in a row; the laws' own copying and comparing of such lists. Condition: at most 1048576 entries.
-/
import Derived.Test.YtmibinfaafhgdaaGreatDoorArrTools
import Derived.Test.YtmibinfaafhgdaaGreatDoorEqNeg
import Derived.Deep.OwnRows
import Derived.Deep.Slices
import Derived.Deep.Fields
import Derived.Deep.MidRow
import Derived.Lib.LazyBuf
import Derived.ProofKit
import Derived.OpenShut
import Derived.Deep.RegionWith
namespace Go.Proofs.YtmibinfaafhgdaaGreatDoor
open Go.RowKit Go.ChangeShapes Go.WideShapes Go.Deep

/-- From cell o of block b on lie the numbers of an array. -/
def PartA (w : World) (b o : Nat) (κ : IntKind) (n : Nat) (f : Nat → Int) : Prop := ∀ k, k < n → w.cell? ⟨b, o + k, none⟩ = some (.int κ (f k))
section
variable {P : Program} {w w' : World} {b o : Nat} {κ : IntKind} {n : Nat} {f g : Nat → Int}
theorem PartA.range (h : PartA w b o κ n f) : w.rangeAt b o (arrV κ n f).toList := fun j v hv => by
  have hj : j < n := by
    have := (List.getElem?_eq_some_iff.1 hv).1
    simpa [arrV_size] using this
  rw [h j hj]
  rw [Array.getElem?_toList, arrV_get hj] at hv
  exact hv
theorem PartA.below {B : Nat} (h : PartA w b o κ n f) (hb : Below B w w') (hB : b < B) : PartA w' b o κ n f := fun k hk => by
  rw [hb.cell (p := ⟨b, o + k, none⟩) hB]; exact h k hk
theorem PartA.of_arr {T : TypeId} (h : HasArr w b T κ n f) : PartA w b 0 κ n f := fun k hk => by
  rw [Nat.zero_add]; exact h.cell hk
theorem PartA.congr (h : PartA w b o κ n f) (e : ∀ k, k < n → f k = g k) : PartA w b o κ n g := fun k hk => by rw [h k hk, e k hk]
theorem wpList_load_part {ops : Array Oper} {rest : List Oper} {op : Oper} {a : Act} {Q : Exit → Act → World → Prop} {m : Nat} {e : TypeId}
    (h : PartA w b o κ n f) (ty : TypeId) (x : Operand) (hgd : op.guard = none) (ho : op.op = .load ty x) (hx : a.eval x = .pointer (some ⟨b, o, none⟩)) (hu : P.underlying ty = some (.array m e)) (hi : (P.info? ty).map (·.size) = some n)
    (hK : wpList P ops Q rest (a.put op.dst (.agg (arrV κ n f))) w) : wpList P ops Q (op :: rest) a w :=
  wpList_load_mid hgd ty x ho b o hx (arrV κ n f).toList _ h.range hu rfl (by simpa [arrV_size] using hi) (by simpa using hK)
theorem run_load_part {op : Oper} {ρ : Operand → Value} {m : Nat} {e : TypeId}
    (h : PartA w b o κ n f) (ty : TypeId) (x : Operand) (ho : op.op = .load ty x) (hx : ρ x = .pointer (some ⟨b, o, none⟩)) (hu : P.underlying ty = some (.array m e)) (hi : (P.info? ty).map (·.size) = some n) :
    (execOp ρ op).run P w = .ok (.value (.agg (arrV κ n f))) w := by
  have hl := run_loadVar_mid (P := P) w b o ty (arrV κ n f).toList _ h.range hu rfl (by simpa [arrV_size] using hi)
  simp only [Array.toArray_toList] at hl
  unfold execOp
  simp only [ho, hx, Instr.loadAt, Instr.sureAddr, Sem.run_bind, Sem.run_pure, Result.andThen_ok, hl]
theorem wpQuiet_load_part {ops : Array Oper} {C : World → Prop} {Q : Act → Prop} {a : Act} {op : Oper} {rest : List Oper} {m : Nat} {e : TypeId}
    (h : ∀ W, C W → PartA W b o κ n f) (ty : TypeId) (x : Operand) (hgd : op.guard = none) (ho : op.op = .load ty x) (hx : a.eval x = .pointer (some ⟨b, o, none⟩)) (hu : P.underlying ty = some (.array m e)) (hi : (P.info? ty).map (·.size) = some n)
    (hK : wpQuiet P ops C Q rest (a.put op.dst (.agg (arrV κ n f)))) : wpQuiet P ops C Q (op :: rest) a :=
  BigFrame.wpQuiet_want (by simp [Region.wanted, hgd]) fun _ hK' => ⟨_, fun W hW => by unfold Oper.quietAt; rw [run_load_part (h W hW) ty x ho hx hu hi]; exact ⟨rfl, rfl⟩, hK' _ hK⟩
/-- An array has been stored into the middle of block b. -/
structure StoredP (w w' : World) (b o n : Nat) (κ : IntKind) (f : Nat → Int) : Prop where
  os : w'.os = w.os
  tape : w'.tape = w.tape
  output : w'.output = w.output
  size : w'.heap.size = w.heap.size
  other : ∀ b', b' ≠ b → w'.heap[b']? = w.heap[b']?
  row : ∀ T m h, w.rowIs b T m h → w'.rowIs b T m (fun j => if o ≤ j ∧ j < o + n then .int κ (f (j - o)) else h j)
theorem size_setCellsP (b : Nat) : ∀ (vs : List Value) (o : Nat) (w : World), (w.setCells b o vs).heap.size = w.heap.size
  | [], _, _ => rfl
  | v :: r, o, w => by rw [World.setCells, size_setCellsP b r]; simp [World.setCell]
theorem other_setCellsP (b b' : Nat) (hne : b' ≠ b) : ∀ (vs : List Value) (o : Nat) (w : World), (w.setCells b o vs).heap[b']? = w.heap[b']?
  | [], _, _ => rfl
  | v :: r, o, w => by rw [World.setCells, other_setCellsP b b' hne r]; exact Below.heap_setCell _ _ _ _ hne
theorem storedP (w : World) (b o n : Nat) (κ : IntKind) (f : Nat → Int) : StoredP w (w.setCells b o (arrV κ n f).toList) b o n κ f :=
  have k := below_setCells (B := 0) (Nat.zero_le b) (arrV κ n f).toList o w (Below.refl 0 w)
  ⟨k.os, k.tape, k.output, size_setCellsP _ _ _ _, fun b' h => other_setCellsP b b' h _ _ _, fun T m h hr => (rowIs_setCells _ _ _ _ hr).congr fun j _ => by
    simp only [Array.length_toList, arrV_size]
    by_cases h1 : o ≤ j ∧ j < o + n
    · rw [if_pos h1, if_pos h1, Array.getElem?_toList, arrV_get (by omega)]; rfl
    · rw [if_neg h1, if_neg h1]⟩
theorem StoredP.below {B : Nat} {a : World} (s : StoredP w w' b o n κ f) (h : Below B a w) (hB : B ≤ b) : Below B a w' :=
  h.trans ⟨s.os, s.tape, s.output, by rw [s.size]; exact Nat.le_refl _, fun k hk => s.other k (by omega)⟩
/-- A whole array into the middle of a row. -/
theorem wpList_store_part {ops : Array Oper} {rest : List Oper} {op : Oper} {a : Act} {Q : Exit → Act → World → Prop} {T : TypeId} {m : Nat} {h : Nat → Value}
    (hr : w.rowIs b T m h) (hm : o + n ≤ m) (ty : TypeId) (x y : Operand) (hgd : op.guard = none) (ho : op.op = .store ty x y) (hx : a.eval x = .pointer (some ⟨b, o, none⟩)) (hy : a.eval y = .agg (arrV κ n f)) (hi : (P.info? ty).map (·.size) = some n)
    (hK : ∀ w', StoredP w w' b o n κ f → wpList P ops Q rest (a.put op.dst undef) w') : wpList P ops Q (op :: rest) a w :=
  wpList_store_mid hgd ty x y ho b o _ hx hy (fun j hj => by
    rw [arrV_size] at hj
    exact ⟨by rw [hr.cell (by omega)]; rfl, hr.frozen _⟩) (by rw [arrV_size]; exact hi) (arrV_one _ _ _) (hK _ (storedP _ _ _ _ _ _))
end

/-! ### LISTS OF PRINTS -/
/-- The cells of a list of prints. -/
def prF (g : Nat → Nat → Int) (j : Nat) : Value := .int .i16 (g (j / 64) (j % 64))
theorem prF_at (g : Nat → Nat → Int) (i : Nat) {k : Nat} (hk : k < 64) : prF g (i * 64 + k) = .int .i16 (g i k) := by
  unfold prF
  rw [show (i * 64 + k) / 64 = i by omega, show (i * 64 + k) % 64 = k by omega]
/-- Block b begins with these n prints. -/
def PrRow (w : World) (b n : Nat) (g : Nat → Nat → Int) : Prop := ∃ m h, n * 64 ≤ m ∧ w.rowIs b 29 m h ∧ ∀ j, j < n * 64 → h j = prF g j
/-- A list of prints as it came: nil or not. -/
def PrsIn (w : World) (A : Option Addr) (n : Nat) (g : Nat → Nat → Int) : Prop :=
  n = 0 ∨ ∃ b o, A = some ⟨b, o, none⟩ ∧ b < w.heap.size ∧ ∀ i, i < n → PartA w b (o + i * 64) .i16 64 (g i)
section
variable {w w' : World} {b n : Nat} {g : Nat → Nat → Int} {A : Option Addr}
theorem PrRow.part (h : PrRow w b n g) {i : Nat} (hi : i < n) : PartA w b (i * 64) .i16 64 (g i) := fun k hk => by
  obtain ⟨m, f, hm, hr, he⟩ := h
  rw [hr.cell (by omega), he _ (by omega), prF_at g i hk]
theorem PrRow.lt (h : PrRow w b n g) : b < w.heap.size := by
  obtain ⟨_, _, _, hr, _⟩ := h
  exact hr.lt
theorem PrRow.below {B : Nat} (h : PrRow w b n g) (hb : Below B w w') (hB : b < B) : PrRow w' b n g := by
  obtain ⟨m, f, hm, hr, he⟩ := h
  exact ⟨m, f, hm, hr.of_block (hb.block b hB), he⟩
theorem PrsIn.below {B : Nat} (h : PrsIn w A n g) (hb : Below B w w') (hB : w.heap.size ≤ B) : PrsIn w' A n g := by
  rcases h with h | ⟨b, o, e, hlt, hc⟩
  · exact .inl h
  · exact .inr ⟨b, o, e, by have := hb.size; omega, fun i hi => (hc i hi).below hb (by omega)⟩
theorem PrRow.prs (h : PrRow w b n g) : PrsIn w (some ⟨b, 0, none⟩) n g := .inr ⟨b, 0, rfl, h.lt, fun i hi => by rw [Nat.zero_add]; exact h.part hi⟩
theorem PrRow.other (h : PrRow w b n g) {a : Addr} (hne : b ≠ a.block) (v : Value) : PrRow (w.setCell a v) b n g := by
  obtain ⟨m, f, hm, hr, he⟩ := h
  exact ⟨m, f, hm, hr.setOther hne v, he⟩
theorem PrsIn.congr {g' : Nat → Nat → Int} (h : PrsIn w A n g) (e : ∀ i, i < n → ∀ k, k < 64 → g i k = g' i k) : PrsIn w A n g' := by
  rcases h with h | ⟨b, o, e', hlt, hc⟩
  · exact .inl h
  · exact .inr ⟨b, o, e', hlt, fun i hi => (hc i hi).congr (e i hi)⟩
end

theorem prMade (w : World) (n : Nat) (t : TypeId) : (w.alloc (.cells (madeCells (arrV .i16 64 fun _ => 0) (n * 64)) t)).rowIs w.heap.size t (n * 64) (fun _ => .int .i16 0) := by
  have h := World.rowIs_alloc w (madeCells (arrV .i16 64 fun _ => 0) (n * 64)) t (fun _ => .int .i16 0) (fun i hi => by
    rw [size_madeCells] at hi
    have h2 : (arrV .i16 64 fun _ => 0)[i % 64]? = some (.int .i16 0) := arrV_get (by omega)
    simp [madeCells, hi, arrV_size, getElem!_def, h2])
  rw [size_madeCells] at h
  exact h
theorem run_make_rowPr {P : Program} (t e : TypeId) (i : TypeInfo) (z : Value) (ht : P.underlying t = some (.slice e)) (hi : P.info? e = some i) (hz : i.zero = some z)
    (kl kc : IntKind) (n c : Nat) (hnc : n ≤ c) (hbytes : i.bytes * c ≤ 281474976710656) (h63 : c ≤ 9223372036854775807) (w : World) :
    (Instr.makeSlice t (.int kl (n : Int)) (.int kc (c : Int))).run P w = .ok (.slice (some ⟨w.heap.size, 0, none⟩) n c) (w.alloc (.cells (madeCells z.cells (c * i.size)) e)) := by
  have hb : (i.bytes : Int) * (c : Int) ≤ 281474976710656 := by
    have h : ((i.bytes * c : Nat) : Int) ≤ 281474976710656 := by omega
    rwa [Int.natCast_mul] at h
  have hr := run_make (P := P) w t e i z ht hi hz kl kc n c (by omega) (by omega) hb (by omega)
  simp only [Int.toNat_natCast] at hr
  exact hr
theorem row_storePr {w w' : World} {b : Nat} {t : TypeId} {m k : Nat} {g : Nat → Nat → Int} {h0 : Nat → Value} (s : StoredP w w' b (k * 64) 64 .i16 (g k)) (h : w.rowIs b t m (fun j => if j < k * 64 then prF g j else h0 j)) :
    w'.rowIs b t m (fun j => if j < (k + 1) * 64 then prF g j else h0 j) :=
  (s.row _ _ _ h).congr fun j _ => by
    by_cases h1 : k * 64 ≤ j ∧ j < k * 64 + 64
    · rw [if_pos h1, if_pos (by omega)]
      have := prF_at g k (k := j - k * 64) (by omega)
      rw [show k * 64 + (j - k * 64) = j by omega] at this
      rw [this]
    · rw [if_neg h1]
      by_cases h2 : j < k * 64
      · rw [if_pos h2, if_pos (by omega)]
      · rw [if_neg h2, if_neg (by omega)]

theorem prInfo : (Tryz.prog.info? 29).map (fun i => (i.zero, i.size, i.bytes)) = some (some (.agg #[.int .i16 0, .int .i16 0, .int .i16 0, .int .i16 0, .int .i16 0, .int .i16 0, .int .i16 0, .int .i16 0, .int .i16 0, .int .i16 0, .int .i16 0, .int .i16 0, .int .i16 0, .int .i16 0, .int .i16 0, .int .i16 0, .int .i16 0, .int .i16 0, .int .i16 0, .int .i16 0, .int .i16 0, .int .i16 0, .int .i16 0, .int .i16 0, .int .i16 0, .int .i16 0, .int .i16 0, .int .i16 0, .int .i16 0, .int .i16 0, .int .i16 0, .int .i16 0, .int .i16 0, .int .i16 0, .int .i16 0, .int .i16 0, .int .i16 0, .int .i16 0, .int .i16 0, .int .i16 0, .int .i16 0, .int .i16 0, .int .i16 0, .int .i16 0, .int .i16 0, .int .i16 0, .int .i16 0, .int .i16 0, .int .i16 0, .int .i16 0, .int .i16 0, .int .i16 0, .int .i16 0, .int .i16 0, .int .i16 0, .int .i16 0, .int .i16 0, .int .i16 0, .int .i16 0, .int .i16 0, .int .i16 0, .int .i16 0, .int .i16 0, .int .i16 0]), 64, 128) := by kernel_rfl

end Go.Proofs.YtmibinfaafhgdaaGreatDoor


namespace Go.Proofs.YtmibinfaafhgdaaGreatDoor
open Go.RowKit

/-- Are the first n of these arrays prints? -/
def prsB (g : Nat → Nat → Int) (n : Nat) : Bool := (List.range n).all fun i => dnsB (g i)
theorem prsB_iff {g : Nat → Nat → Int} {n : Nat} : prsB g n = true ↔ ∀ i, i < n → dnsB (g i) = true := by simp [prsB]
theorem prsB_no {g : Nat → Nat → Int} {n i : Nat} (hi : i < n) (h : dnsB (g i) = false) : prsB g n = false := by
  rcases h' : prsB g n with _ | _
  · rfl
  · rw [prsB_iff.1 h' i hi] at h; cases h
/-- Is a sheet valid? -/
def shtB (X : Int) (n : Nat) (g : Nat → Nat → Int) : Bool := inB X 1 12 && (decide (n ≤ 12) && prsB g n)
theorem shtB_iff {X : Int} {n : Nat} {g : Nat → Nat → Int} : shtB X n g = true ↔ (1 ≤ X ∧ X ≤ 12) ∧ n ≤ 12 ∧ prsB g n = true := by simp [shtB, inB_true]

set_option maxRecDepth 100000 in
set_option maxHeartbeats 1000000 in
theorem l03PrintAt_any (b o : Nat) (f : Nat → Int) (hf : S16 f) (w : World) (h : PartA w b o .i16 64 f) :
    Calls Tryz.prog 43 #[.pointer (some ⟨b, o, none⟩)] w fun e w' => e = .returned (.bool (dnsB f)) ∧ Below w.heap.size w w' := by
  have a2 := HasArr.zero w 28 (b := w.heap.size) rfl
  have a3 := a2.setRow .i16 f
  have kB := below_setRow ((Below.refl w.heap.size w).alloc (Nat.le_refl _) (.cells #[.int .i16 0, .int .i16 0, .int .i16 0, .int .i16 0, .int .i16 0, .int .i16 0, .int .i16 0, .int .i16 0, .int .i16 0, .int .i16 0, .int .i16 0, .int .i16 0, .int .i16 0, .int .i16 0, .int .i16 0, .int .i16 0, .int .i16 0, .int .i16 0, .int .i16 0, .int .i16 0, .int .i16 0, .int .i16 0, .int .i16 0, .int .i16 0, .int .i16 0, .int .i16 0, .int .i16 0, .int .i16 0, .int .i16 0, .int .i16 0, .int .i16 0, .int .i16 0, .int .i16 0, .int .i16 0, .int .i16 0, .int .i16 0, .int .i16 0, .int .i16 0, .int .i16 0, .int .i16 0, .int .i16 0, .int .i16 0, .int .i16 0, .int .i16 0, .int .i16 0, .int .i16 0, .int .i16 0, .int .i16 0, .int .i16 0, .int .i16 0, .int .i16 0, .int .i16 0, .int .i16 0, .int .i16 0, .int .i16 0, .int .i16 0, .int .i16 0, .int .i16 0, .int .i16 0, .int .i16 0, .int .i16 0, .int .i16 0, .int .i16 0, .int .i16 0] 28)) (b := w.heap.size) (by omega) (arrV .i16 64 f)
  have hd := l03Dense_any w.heap.size 28 f hf _ a3
  have Hd := Lib.hid hd; clear hd
  have KB := Lib.hid kB; clear kB
  clear a3 hf
  go_enter Tryz.func43, Tryz.ntmps43
  go_wp2_with (first | (refine wpList_load_part h _ _ rfl rfl rfl Tryz.underlying29 sizePrint ?_) | (refine wpList_store_arr a2 _ _ _ rfl rfl rfl rfl sizeA64 ?_) | (go_at_call 70; refine Hd.out.mono ?_; rintro e w' ⟨rfl, rfl⟩))
  go_ret
  exact ⟨rfl, KB.out⟩

set_option maxRecDepth 100000 in
set_option maxHeartbeats 1000000 in
theorem arePrints_any (A : Option Addr) (n cap : Nat) (g : Nat → Nat → Int) (hn : n ≤ 1048576) (w : World) (hr : PrsIn w A n g) :
    Calls Tryz.prog 71 #[.slice A n cap] w fun e w' => e = .returned (.bool (prsB g n)) ∧ Below w.heap.size w w' := by
  go_enter Tryz.func71, Tryz.ntmps71
  go_wp2_with fail
  go_loopw [7] (fun i wr => ∃ k : Nat, k ≤ n ∧ i = .int .i64 k ∧ (∀ j, j < k → dnsB (g j) = true) ∧ Below w.heap.size w wr) (fun i _ => n - (intOf i).toNat)
  case atStart => exact ⟨0, Nat.zero_le _, rfl, fun j hj => by omega, Below.refl _ _⟩
  case round =>
    obtain ⟨k, hk, rfl, hj, hB⟩ := hrel
    have HJ := Lib.hid hj; clear hj
    by_cases hkn : k < n
    · rcases hr with h0 | ⟨b', o, rfl, hlt, hc⟩
      · exfalso; omega
      have q0 := (hc k hkn).below hB hlt
      clear hc
      have a2 := HasArr.zero wr 29 (b := wr.heap.size) rfl
      have a3 := a2.setRow .i16 (g k)
      have hd := fun W => ValidPrint_any (g k) W
      have kB := below_setRow (hB.alloc hB.size (.cells #[.int .i16 0, .int .i16 0, .int .i16 0, .int .i16 0, .int .i16 0, .int .i16 0, .int .i16 0, .int .i16 0, .int .i16 0, .int .i16 0, .int .i16 0, .int .i16 0, .int .i16 0, .int .i16 0, .int .i16 0, .int .i16 0, .int .i16 0, .int .i16 0, .int .i16 0, .int .i16 0, .int .i16 0, .int .i16 0, .int .i16 0, .int .i16 0, .int .i16 0, .int .i16 0, .int .i16 0, .int .i16 0, .int .i16 0, .int .i16 0, .int .i16 0, .int .i16 0, .int .i16 0, .int .i16 0, .int .i16 0, .int .i16 0, .int .i16 0, .int .i16 0, .int .i16 0, .int .i16 0, .int .i16 0, .int .i16 0, .int .i16 0, .int .i16 0, .int .i16 0, .int .i16 0, .int .i16 0, .int .i16 0, .int .i16 0, .int .i16 0, .int .i16 0, .int .i16 0, .int .i16 0, .int .i16 0, .int .i16 0, .int .i16 0, .int .i16 0, .int .i16 0, .int .i16 0, .int .i16 0, .int .i16 0, .int .i16 0, .int .i16 0, .int .i16 0] 29)) (b := wr.heap.size) hB.size (arrV .i16 64 (g k))
      have KB := Lib.hid kB; clear kB hB
      rcases hv : dnsB (g k) with _ | _
      · have hz := prsB_no hkn hv
        rw [hv] at hd
        have Hd := Lib.hid hd; clear hd
        have Hz := Lib.hid hz; clear hz hv
        go_wp2_with (first | (refine wpList_load_part q0 _ _ rfl rfl rfl Tryz.underlying29 sizePrint ?_) | (refine wpList_store_arr a2 _ _ _ rfl rfl rfl rfl sizePrint ?_) | (refine wpList_load_arr a3 _ _ rfl rfl rfl Tryz.underlying29 sizePrint ?_))
        refine (Hd.out _).mono ?_; rintro e w2 ⟨rfl, hb2⟩
        have hB2 := KB.out.trans (hb2.mono KB.out.size)
        clear hb2 a2 a3 q0
        go_wp2_with fail
        go_ret
        exact ⟨ret_bool Hz.out.symm, hB2⟩
      · rw [hv] at hd
        have Hd := Lib.hid hd; clear hd
        have HV := Lib.hid hv; clear hv
        go_wp2_with (first | (refine wpList_load_part q0 _ _ rfl rfl rfl Tryz.underlying29 sizePrint ?_) | (refine wpList_store_arr a2 _ _ _ rfl rfl rfl rfl sizePrint ?_) | (refine wpList_load_arr a3 _ _ rfl rfl rfl Tryz.underlying29 sizePrint ?_))
        refine (Hd.out _).mono ?_; rintro e w2 ⟨rfl, hb2⟩
        have hB2 := KB.out.trans (hb2.mono KB.out.size)
        clear hb2 a2 a3 q0
        go_wp2_with fail
        go_roundw
        case rel => exact ⟨k + 1, by omega, by go_num, fun j hj => by
          by_cases e : j = k
          · subst e; exact HV.out
          · exact HJ.out j (by omega), hB2⟩
        case measure => simp [intOf]; omega
    · obtain rfl : k = n := by omega
      have hz : prsB g k = true := prsB_iff.2 HJ.out
      have Hz := Lib.hid hz; clear hz
      go_wp2_with fail
      go_ret
      exact ⟨ret_bool Hz.out.symm, hB⟩

end Go.Proofs.YtmibinfaafhgdaaGreatDoor
