/-
  A map from prints to masks: made, filled, asked; the dust of copies beside their median. Condition: prints of 16-bit numbers.
-/
import Derived.Test.YtmibinfaafhgdaaGreatDoorMedX
import Derived.Maps.OwnOps
import Derived.Maps.OwnSet
import Derived.DeepKeys4
namespace Go.Proofs.YtmibinfaafhgdaaGreatDoor
open Go.RowKit Go.ChangeMaps Go.MapKept

/-! ### PRINTS AS KEYS -/
theorem laidOutP : laidOutB Tryz.prog = true := by kernel_rfl
theorem rowPrint : 29 < Tryz.prog.types.size := of_decide_eq_true (by kernel_rfl)
theorem prtKeyed : Maps.Keyed Tryz.prog 29 := Maps.Keyed.of_law (deep_law_laid laidOutP (m := 2) (by omega) rowPrint (by kernel_rfl) (by kernel_rfl))
theorem mapM_all {α β : Type} {F : α → Option β} {G : α → β} : ∀ l : List α, (∀ x ∈ l, F x = some (G x)) → l.mapM F = some (l.map G)
  | [], _ => rfl
  | x :: r, h => by
    rw [List.mapM_cons, h x (by simp), mapM_all r (fun y hy => h y (by simp [hy]))]
    rfl
/-- A print as a value. -/
def prV (f : Nat → Int) : Value := .agg (arrV .i16 64 f)
theorem prV_eq {f g : Nat → Int} (h : prV f = prV g) {k : Nat} (hk : k < 64) : f k = g k := by
  have h0 : (arrV .i16 64 f)[k]? = (arrV .i16 64 g)[k]? := by rw [Value.agg.inj h]
  rw [arrV_get hk, arrV_get hk] at h0
  exact (Value.int.inj (Option.some.inj h0)).2
theorem cellsOf16 : Tryz.prog.cellsOf 27 = 1 := by kernel_rfl
theorem cellsOfPr : Tryz.prog.cellsOf 29 = 64 := by kernel_rfl
theorem keyTyPr : Tryz.prog.keyType 29 = true := by kernel_rfl
theorem typesSz : ∃ m, Tryz.prog.types.size = m + 1 := ⟨Tryz.prog.types.size - 1, by have := rowPrint; omega⟩
theorem prtKey {f : Nat → Int} (hf : S16 f) : ∃ l, keyOf Tryz.prog 29 (prV f) = some l := by
  obtain ⟨m, hm⟩ := typesSz
  have hu := Tryz.underlying29
  have hu2 := Tryz.underlying27
  refine ⟨.string (keyBytes (((List.range 64).map fun i => [Lit.int .i16 (f i)]).flatten)), ?_⟩
  unfold keyOf prV
  simp only [hu]
  rw [if_pos (by simp [keyTyPr, Value.formed, hu, cellsOfPr, arrV_size]), hm]
  unfold Program.keyLits
  simp only [hu, Value.cells]
  rw [if_pos (by rw [cellsOfPr]; simp [arrV_size])]
  rw [mapM_all (G := fun i => [Lit.int .i16 (f i)]) (List.range 64) (fun i hi => by
    have hi' := List.mem_range.1 hi
    rw [cellsOf16, Nat.mul_one]
    have e : ((arrV .i16 64 f).toList.drop i).take 1 = [.int .i16 (f i)] := by
      have hg := arrV_get (κ := .i16) (f := f) hi'
      have hl : i < (arrV .i16 64 f).toList.length := by simp [arrV_size]; exact hi'
      rw [List.drop_eq_getElem_cons hl]
      have : (arrV .i16 64 f).toList[i] = .int .i16 (f i) := by
        have h2 := Array.getElem?_eq_some_iff.1 hg
        obtain ⟨_, h3⟩ := h2
        simpa using h3
      rw [this]; rfl
    rw [e]
    unfold Program.keyLits
    simp only [hu2]
    simp only [true_and]
    rw [if_pos (WalkArith.wf_i16 (hf i hi'))])]
  rfl

/-! ### A MAP FROM PRINTS TO MASKS -/
/-- An element reads as itself. -/
def heldD (v : Value) : Option (DataW Value × List MemPlace) := some (.held v, [])
theorem zeroSet (w : World) : (zeroValue 59).run Tryz.prog w = .ok (.int .u64 0) w := by kernel_rfl
/-- Block b is a map that holds F i for each of the first k prints. -/
def DMap (w : World) (b n : Nat) (g : Nat → Nat → Int) (F : Nat → Int) (k : Nat) : Prop :=
  ∃ D : DataW Value, w.ownsMap Tryz.prog 29 heldD b n D ∧ ∀ i, i < k → ∀ l, keyOf Tryz.prog 29 (prV (g i)) = some l → ∀ z, D.atKey l z = .held (.int .u64 (F i))
section
variable {w w' : World} {b n k : Nat} {g : Nat → Nat → Int} {F : Nat → Int}
theorem DMap.made (w : World) (g : Nat → Nat → Int) (F : Nat → Int) : DMap (w.alloc (.map #[] 0)) w.heap.size 0 g F 0 := ⟨_, World.ownsMap_made _ _ _ _, fun i h => by omega⟩
theorem DMap.lt (h : DMap w b n g F k) : b < w.heap.size := by
  obtain ⟨D, h, _⟩ := h
  exact h.lt
theorem DMap.block {W : World} (h : DMap w b n g F k) (e : W.heap[b]? = w.heap[b]?) : DMap W b n g F k := by
  obtain ⟨D, h, hS⟩ := h
  obtain ⟨es, clock, hh, r⟩ := h
  exact ⟨D, ⟨es, clock, e.trans hh, r⟩, hS⟩
theorem DMap.below {B : Nat} (h : DMap w b n g F k) (hb : Below B w w') (hB : b < B) : DMap w' b n g F k := h.block (hb.block b hB)
theorem DMap.look (h : DMap w b n g F k) {i : Nat} (hi : i < k) (hf : S16 (g i)) : (Instr.lookup 88 (.map (some b)) (prV (g i)) false).run Tryz.prog w = .ok (.int .u64 (F i)) w := by
  obtain ⟨D, h, hS⟩ := h
  obtain ⟨l, hl⟩ := prtKey hf
  obtain ⟨v, ps, hr, hv⟩ := h.lookup (t := 88) (e := 59) prtKeyed Tryz.underlying88 (zeroSet w) (zd := .held (.int .u64 0)) (zp := []) rfl hl
  rw [hS i hi l hl] at hv
  unfold heldD at hv
  simp only [Option.some.injEq, Prod.mk.injEq, DataW.held.injEq] at hv
  rw [hv.1] at hr
  exact hr
theorem DMap.put (h : DMap w b n g F k) (hn : n < 100) (hf : S16 (g k)) (hF : ∀ i, i < k → prV (g i) = prV (g k) → F i = F k) : ∃ w', (Instr.mapUpdate 88 (.map (some b)) (prV (g k)) (.int .u64 (F k))).run Tryz.prog w = .ok () w' ∧ (∃ n', n' ≤ n + 1 ∧ DMap w' b n' g F (k + 1)) ∧ w.grownBy w' (some b) := by
  obtain ⟨D, h, hS⟩ := h
  have hM := h.isMap
  obtain ⟨l, hl⟩ := prtKey hf
  obtain ⟨w', hr, h2, hg⟩ := h.update (t := 88) (e := 59) prtKeyed Tryz.underlying88 (by unfold maxLen; omega) (d := .held (.int .u64 (F k))) (ps := []) hl rfl
  refine ⟨w', hr, ⟨n + 1, Nat.le_refl _, _, h2, fun i hi l2 hl2 z => ?_⟩, hg⟩
  by_cases e : l2 = l
  · subst e
    have he : prV (g i) = prV (g k) := prtKeyed.inj hl2 hl
    rw [Maps.atKey_put_same hM (prtKeyed.key hl) _ _]
    by_cases e2 : i = k
    · subst e2; rfl
    · rw [hF i (by omega) he]
  · rw [Maps.atKey_put_other e]
    have : i ≠ k := fun e2 => e (by subst e2; exact Option.some.inj (hl2.symm.trans hl))
    exact hS i (by omega) l2 hl2 z
end
section
variable {ops : Array Oper} {rest : List Oper} {o : Oper} {a : Act} {Q : Exit → Act → World → Prop} {w : World} {b n k : Nat} {g : Nat → Nat → Int} {F : Nat → Int}
theorem wpList_lookup_dm (h : DMap w b n g F k) {i : Nat} (hi : i < k) (hf : S16 (g i)) (hgd : o.guard = none) (m x : Operand) (ho : o.op = .lookup 88 m x false) (hm : a.eval m = .map (some b)) (hx : a.eval x = .agg (arrV .i16 64 (g i)))
    (hK : wpList Tryz.prog ops Q rest (a.put o.dst (.int .u64 (F i))) w) : wpList Tryz.prog ops Q (o :: rest) a w := by
  refine wpList_plain hgd fun K' hK' => ?_
  have hrun := h.look hi hf
  unfold prV at hrun
  unfold Oper.wp
  simp [execOp, ho, hm, hx, hrun, Result.andThen]
  exact hK' _ _ hK
theorem wpList_mapUpdate_dm (h : DMap w b n g F k) (hn : n < 100) (hf : S16 (g k)) (hF : ∀ i, i < k → prV (g i) = prV (g k) → F i = F k) (hgd : o.guard = none) (m x v : Operand) (ho : o.op = .mapUpdate 88 m x v) (hm : a.eval m = .map (some b)) (hx : a.eval x = .agg (arrV .i16 64 (g k))) (hv : a.eval v = .int .u64 (F k))
    (hK : ∀ w' n', n' ≤ n + 1 → DMap w' b n' g F (k + 1) → w.grownBy w' (some b) → wpList Tryz.prog ops Q rest (a.put o.dst undef) w') : wpList Tryz.prog ops Q (o :: rest) a w := by
  refine wpList_plain hgd fun K' hK' => ?_
  obtain ⟨w', hrun, ⟨n', hn', r1⟩, r2⟩ := h.put hn hf hF
  unfold prV at hrun
  unfold Oper.wp
  simp [execOp, ho, hm, hx, hv, hrun, Result.andThen]
  exact hK' _ _ (hK w' n' hn' r1 r2)
theorem wpQuiet_lookup_dm {C : World → Prop} {Q : Act → Prop} (h : ∀ W, C W → DMap W b n g F k) {i : Nat} (hi : i < k) (hf : S16 (g i)) (hgd : o.guard = none) (m x : Operand) (ho : o.op = .lookup 88 m x false) (hm : a.eval m = .map (some b)) (hx : a.eval x = .agg (arrV .i16 64 (g i)))
    (hK : wpQuiet Tryz.prog ops C Q rest (a.put o.dst (.int .u64 (F i)))) : wpQuiet Tryz.prog ops C Q (o :: rest) a :=
  BigFrame.wpQuiet_want (by simp [Region.wanted, hgd]) fun _ hK' => ⟨_, fun W hW => by
    have hrun := (h W hW).look hi hf
    unfold prV at hrun
    have e : (execOp a.eval o).run Tryz.prog W = .ok (.value (.int .u64 (F i))) W := by simp [execOp, ho, hm, hx, hrun, Result.andThen]
    unfold Oper.quietAt; rw [e]; exact ⟨rfl, rfl⟩, hK' _ hK⟩
theorem wpQuiet_val {P : Program} {C : World → Prop} {Q : Act → Prop} {v : Value} (hgd : o.guard = none) (hr : ∀ W, (execOp a.eval o).run P W = .ok (.value v) W) (hK : wpQuiet P ops C Q rest (a.put o.dst v)) : wpQuiet P ops C Q (o :: rest) a :=
  BigFrame.wpQuiet_want (by simp [Region.wanted, hgd]) fun _ hK' => ⟨_, fun W _ => by unfold Oper.quietAt; rw [hr W]; exact ⟨rfl, rfl⟩, hK' _ hK⟩
end

/-! ### THE MEDIAN WITH THE DUST -/
/-- The cells of a median and a map. -/
def dsV (m : Nat → Int) (b : Nat) : Array Value := (arrV .i16 64 m).push (.map (some b))
theorem dsV_size (m : Nat → Int) (b : Nat) : (dsV m b).size = 65 := by simp [dsV, arrV_size]
theorem dsV_get {m : Nat → Int} {b k : Nat} (h : k < 64) : (dsV m b)[k]? = some (.int .i16 (m k)) := by
  unfold dsV
  rw [Array.getElem?_push]
  rw [if_neg (by rw [arrV_size]; omega)]
  exact arrV_get h
theorem dsV_last (m : Nat → Int) (b : Nat) : (dsV m b)[64]? = some (.map (some b)) := by
  unfold dsV
  rw [Array.getElem?_push, if_pos (by rw [arrV_size])]
theorem dsV_one (m : Nat → Int) (b : Nat) : (dsV m b).all (·.oneCell') = true := by
  unfold dsV
  rw [Array.all_push, arrV_one]; rfl
theorem built_ds (m : Nat → Int) (b : Nat) : Tryz.prog.built 90 [(0, .agg (arrV .i16 64 m)), (1, .map (some b))] = some (dsV m b) := by kernel_rfl
theorem sizeDs : (Tryz.prog.info? 90).map (·.size) = some 65 := by kernel_rfl
/-- Block q holds this median and this map. -/
def HasDs (w : World) (q : Nat) (m : Nat → Int) (b : Nat) : Prop := w.heap[q]? = some (.cells (dsV m b) 90 (0, 0))
section
variable {w w' : World} {q b : Nat} {m : Nat → Int}
theorem HasDs.lt (h : HasDs w q m b) : q < w.heap.size := (Array.getElem?_eq_some_iff.1 h).1
theorem HasDs.below {B : Nat} (h : HasDs w q m b) (hb : Below B w w') (hB : q < B) : HasDs w' q m b := (hb.block q hB).trans h
theorem HasDs.part (h : HasDs w q m b) : PartA w q 0 .i16 64 m := fun k hk => by rw [Nat.zero_add, cell_of_row w q k _ _ _ h]; exact dsV_get hk
theorem HasDs.map (h : HasDs w q m b) : w.cell? ⟨q, 64, none⟩ = some (.map (some b)) := by rw [cell_of_row w q 64 _ _ _ h]; exact dsV_last m b
end
section
variable {ops : Array Oper} {rest : List Oper} {o : Oper} {a : Act} {Q : Exit → Act → World → Prop} {w : World} {q b : Nat} {m : Nat → Int}
theorem wpList_build_ds (hg : o.guard = none) (x y : Operand) (ho : o.op = .build 90 #[(0, x), (1, y)]) (hx : a.eval x = .agg (arrV .i16 64 m)) (hy : a.eval y = .map (some b))
    (h : wpList Tryz.prog ops Q rest (a.put o.dst (.agg (dsV m b))) w) : wpList Tryz.prog ops Q (o :: rest) a w := by
  have hp : ((#[(0, x), (1, y)] : Array (Nat × Operand)).map fun (i, x) => (i, a.eval x)).toList = [(0, .agg (arrV .i16 64 m)), (1, .map (some b))] := by simp [hx, hy]
  exact wpList_build hg 90 #[(0, x), (1, y)] ho (by rw [hp, built_ds]; rfl) (by rw [hp, built_ds]; exact h)
theorem wpList_store_ds {cs : Array Value} {T : TypeId} (h0 : w.heap[q]? = some (.cells cs T (0, 0))) (hcs : cs.size = 65) (hg : o.guard = none) (x y : Operand) (ho : o.op = .store 90 x y) (hx : a.eval x = .pointer (some ⟨q, 0, none⟩)) (hy : a.eval y = .agg (dsV m b))
    (hK : wpList Tryz.prog ops Q rest (a.put o.dst undef) (w.setRow q (dsV m b))) : wpList Tryz.prog ops Q (o :: rest) a w :=
  wpList_store_row hg 90 x y ho q _ hx hy T _ h0 (by rw [dsV_size]; exact sizeDs) (by rw [dsV_size]; exact hcs) (dsV_one m b) hK
theorem wpList_load_ds (h : HasDs w q m b) (hg : o.guard = none) (x : Operand) (ho : o.op = .load 90 x) (hx : a.eval x = .pointer (some ⟨q, 0, none⟩))
    (hK : wpList Tryz.prog ops Q rest (a.put o.dst (.agg (dsV m b))) w) : wpList Tryz.prog ops Q (o :: rest) a w :=
  wpList_load_row hg 90 x ho q hx _ _ (0, 0) _ h Tryz.underlying90 rfl (by rw [dsV_size]; exact sizeDs) hK
end
end Go.Proofs.YtmibinfaafhgdaaGreatDoor
