/-
  A print in the making: its value, its block, what a cell's density becomes by some light. Condition: densities, a curve, that are valid.
-/
import Derived.Test.YtnlcjbobfhmnmaaDoorPlace
import Derived.Test.YtnlcjbobfhmnmaaDoorNegs
import Derived.Test.YtnlcjbobfhmnmaaDoorAt
import Derived.Test.YtnlcjbobfhmnmaaDoorArrTools
import Derived.Deep.MidRow
namespace Go.Proofs.YtnlcjbobfhmnmaaDoor
open Go.RowKit

/-- The cells of a negative, and the paper below. -/
def prnW (f : Nat → Int) (b n cap : Nat) : Array Value := arrV .i16 64 f ++ #[.slice (some ⟨b, 0, none⟩) n cap]
theorem prnW_size (f : Nat → Int) (b n cap : Nat) : (prnW f b n cap).size = 65 := by simp [prnW, arrV_size]
theorem prnW_last (f : Nat → Int) (b n cap : Nat) : (prnW f b n cap)[64]? = some (.slice (some ⟨b, 0, none⟩) n cap) := by
  unfold prnW
  rw [Array.getElem?_append_right (by rw [arrV_size]; exact Nat.le_refl _), arrV_size]
  rfl
theorem prnW_get (f : Nat → Int) (b n cap : Nat) {k : Nat} (h : k < 64) : (prnW f b n cap)[k]? = some (.int .i16 (f k)) := by
  unfold prnW
  rw [Array.getElem?_append_left (by rw [arrV_size]; exact h), arrV_get h]
theorem prnW_one (f : Nat → Int) (b n cap : Nat) : (prnW f b n cap).all (·.oneCell') = true := by
  unfold prnW
  rw [Array.all_append, arrV_one]
  simp [Value.oneCell']
/-- Block g is such a variable. -/
def PrnAt (W : World) (g : Nat) (f : Nat → Int) (b n cap : Nat) : Prop := W.heap[g]? = some (.cells (prnW f b n cap) 88 (0, 0))
section
variable {W W' : World} {g : Nat} {f : Nat → Int} {b n cap : Nat}
theorem PrnAt.lt (h : PrnAt W g f b n cap) : g < W.heap.size := (Array.getElem?_eq_some_iff.1 h).1
theorem PrnAt.below {B : Nat} (h : PrnAt W g f b n cap) (hb : Below B W W') (hB : g < B) : PrnAt W' g f b n cap := (hb.block g hB).trans h
theorem PrnAt.alloc (h : PrnAt W g f b n cap) (o : Obj) : PrnAt (W.alloc o) g f b n cap := (Below.heap_alloc W o g h.lt).trans h
theorem PrnAt.other (h : PrnAt W g f b n cap) {a : Addr} (hne : g ≠ a.block) (v : Value) : PrnAt (W.setCell a v) g f b n cap := (Below.heap_setCell W a v g hne).trans h
theorem PrnAt.rowOther (h : PrnAt W g f b n cap) {b' : Nat} (hne : g ≠ b') (cs : Array Value) : PrnAt (W.setRow b' cs) g f b n cap := (setRow_other W b' g cs hne).trans h
theorem PrnAt.new (W : World) (f : Nat → Int) (b n cap : Nat) : PrnAt (W.alloc (.cells (prnW f b n cap) 88)) W.heap.size f b n cap := heap_alloc_last W _
theorem PrnAt.paper (h : PrnAt W g f b n cap) : W.cell? ⟨g, 64, none⟩ = some (.slice (some ⟨b, 0, none⟩) n cap) := by
  rw [cell_of_row W g 64 _ _ (0, 0) h]; exact prnW_last f b n cap
theorem PrnAt.cells (h : PrnAt W g f b n cap) : W.rangeAt g 0 (arrV .i16 64 f).toList := fun j v hv => by
  have hj : j < 64 := by
    have := (List.getElem?_eq_some_iff.1 hv).1
    simpa [arrV_size] using this
  rw [Nat.zero_add, cell_of_row W g j _ _ (0, 0) h, prnW_get f b n cap hj, ← arrV_get (κ := .i16) (f := f) hj]
  simpa using hv
theorem PrnAt.all (h : PrnAt W g f b n cap) : W.rangeAt g 0 (prnW f b n cap).toList := fun j v hv => by
  rw [Nat.zero_add, cell_of_row W g j _ _ (0, 0) h]
  simpa using hv
end
theorem sizePrn : (Tryd.prog.info? 88).map (·.size) = some 65 := by kernel_rfl
theorem built_prn (f : Nat → Int) (b n cap : Nat) (w : World) : (Instr.build 88 #[(0, .agg (arrV .i16 64 f)), (1, .slice (some ⟨b, 0, none⟩) n cap)]).run Tryd.prog w = .ok (.agg (prnW f b n cap)) w := by kernel_rfl

theorem wpQuiet_load_mid {P : Program} {ops : Array Oper} {C : World → Prop} {Q : Act → Prop} {a : Act} {op : Oper} {rest : List Oper} {b o : Nat} {cs : Array Value} {d : TypeDesc}
    (h : ∀ W, C W → W.rangeAt b o cs.toList) (ty : TypeId) (x : Operand) (hgd : op.guard = none) (ho : op.op = .load ty x) (hx : a.eval x = .pointer (some ⟨b, o, none⟩)) (hu : P.underlying ty = some d) (hd : d.isRow = true) (hi : (P.info? ty).map (·.size) = some cs.size)
    (hK : wpQuiet P ops C Q rest (a.put op.dst (.agg cs))) : wpQuiet P ops C Q (op :: rest) a :=
  BigFrame.wpQuiet_want (by simp [Region.wanted, hgd]) fun _ hK' => ⟨_, fun W hW => by
    unfold Oper.quietAt execOp
    simp only [ho, hx, Instr.loadAt, Instr.sureAddr, Sem.run_bind, Sem.run_pure, Result.andThen_ok, run_loadVar_mid W b o ty cs.toList d (h W hW) hu hd (by simpa using hi)]
    exact ⟨rfl, rfl⟩, hK' _ hK⟩

set_option maxRecDepth 100000 in
set_option maxHeartbeats 1000000 in
theorem densityOf_any (f : Nat → Int) (k : Nat) (hk : k < 64) (bf : 0 ≤ f k ∧ f k ≤ 400) (w : World) :
    Calls Tryd.prog 73 #[.agg (arrV .i16 64 f), .int .i64 (k : Int)] w fun e w' => e = .returned (.int .i64 (f k)) ∧ Below w.heap.size w w' := by
  have c1 := (HasArr.new w 86 .i16 64 f).cell hk
  generalize f k = X at *
  go_enter Tryd.func73, Tryd.ntmps73
  go_wp2
  go_ret
  exact ⟨rfl, (Below.refl _ _).alloc (Nat.le_refl _) _⟩

set_option maxRecDepth 100000 in
set_option maxHeartbeats 1000000 in
theorem densityBy_any (f : Nat → Int) (b n cap : Nat) (xs ys : Nat → Int) (hn : n ≤ 1048576) (cv : Crv n xs ys) (c : Nat) (hc : c < 64) (bf : 0 ≤ f c ∧ f c ≤ 400) (L : Int) (hL : -1 ≤ L) (hL2 : L ≤ 36) (w : World) (hr : PtRow w b n xs ys) :
    Calls Tryd.prog 60 #[.agg (prnW f b n cap), .int .i64 (c : Int), .int .i64 L] w fun e w' => e = .returned (.int .i64 (dens n xs ys (plc L (f c)))) ∧ Below w.heap.size w w' := by
  have hp0 := PrnAt.new w f b n cap
  have k0 := (Below.refl w.heap.size w).alloc (Nat.le_refl _) (.cells (prnW f b n cap) 88)
  have hr0 := hr.below k0 hr.lt
  have hde := fun W => densityOf_any f c hc bf W
  have hpl := fun W => placeOf_any L (f c) hL hL2 bf.1 bf.2 W
  have hpb : -1000000 ≤ plc L (f c) ∧ plc L (f c) ≤ 1000000 := by unfold plc; split <;> omega
  have hat := fun W h => at_any b n cap xs ys hn cv (plc L (f c)) hpb.1 hpb.2 W h
  generalize dens n xs ys (plc L (f c)) = V at *
  generalize plc L (f c) = PL at *
  have c64 := hp0.paper
  have cal := hp0.cells
  have hpl0 := hp0.lt
  have hrl0 := hr0.lt
  generalize f c = D at *
  generalize hAV : arrV .i16 64 f = AV at *
  have hAs : AV.size = 64 := by rw [← hAV]; exact arrV_size _ _ _
  clear hAV hp0
  generalize prnW f b n cap = PV at *
  have Hde := Lib.hid hde; clear hde
  have Hpl := Lib.hid hpl; clear hpl
  have Hat := Lib.hid hat; clear hat
  have Hca := Lib.hid cal; clear cal
  have Hrr := Lib.hid hr0; clear hr0 cv
  clear bf hpb
  go_enter Tryd.func60, Tryd.ntmps60
  go_wp2_with fail
  generalize hW : w.alloc (.cells PV 88) = W0 at *
  have hWz : W0.heap.size = w.heap.size + 1 := by rw [← hW]; simp
  clear hW
  refine wp_region_quietD (Below W0.heap.size W0) (by kernel_rfl) (by kernel_rfl) (below_drew1 _) ?_
  have n0 := below_nonempty W0
  have f64 := inCell c64
  refine wpQuiet_yield (.pointer (some ⟨w.heap.size, 64, none⟩)) rfl (fun _ => by kernel_rfl) ?_
  go_frame
  quiet_step (fail)
  refine wpQuiet_yield (.int .i64 L) rfl (fun _ => rfl) ?_
  go_frame
  refine wpQuiet_yield (.pointer (some ⟨w.heap.size, 0, none⟩)) rfl (fun _ => by kernel_rfl) ?_
  go_frame
  refine wpQuiet_load_mid (cs := AV) (b := w.heap.size) (o := 0) (fun W hW => by obtain ⟨x, rfl⟩ := hW; exact fun j v hv => by rw [x.ok.cell (p := ⟨w.heap.size, 0 + j, none⟩) (by show w.heap.size < W0.heap.size; omega)]; exact Hca.out j v hv) 86 (.tmp 10) rfl rfl rfl Tryd.underlying86 rfl (by rw [hAs]; exact sizeCells) ?_
  go_frame
  refine wpQuiet_yield (.int .i64 (c : Int)) rfl (fun _ => rfl) ?_
  go_frame
  quiet_step ((go_at_call 73; exact inCall _ (Hde.out _)))
  quiet_step ((go_at_call 72; exact inCall _ (Hpl.out _)))
  quiet_step ((go_at_call 71; exact inCall _ (Hat.out _ (Hrr.out.below (WIn.ok _) hrl0))))
  refine wpQuiet_yield (.int .i64 V) rfl (fun _ => rfl) ?_
  refine wpQuiet_nil ?_
  rintro _ ⟨x, rfl⟩
  go_wp2
  go_ret
  exact ⟨rfl, k0.trans (x.ok.mono (by omega))⟩

theorem wpList_store_zA {P : Program} {ops : Array Oper} {rest : List Oper} {o : Oper} {a : Act} {w : World} {Q : Exit → Act → World → Prop} {b : Nat} {T : TypeId} {κ : IntKind} {f : Nat → Int}
    (h : HasArr w b T κ 64 f) (ty : TypeId) (x y : Operand) (hgd : o.guard = none) (ho : o.op = .store ty x y) (hx : a.eval x = .pointer (some ⟨b, 0, none⟩)) (hy : a.eval y = .agg #[.int .i16 0, .int .i16 0, .int .i16 0, .int .i16 0, .int .i16 0, .int .i16 0, .int .i16 0, .int .i16 0, .int .i16 0, .int .i16 0, .int .i16 0, .int .i16 0, .int .i16 0, .int .i16 0, .int .i16 0, .int .i16 0, .int .i16 0, .int .i16 0, .int .i16 0, .int .i16 0, .int .i16 0, .int .i16 0, .int .i16 0, .int .i16 0, .int .i16 0, .int .i16 0, .int .i16 0, .int .i16 0, .int .i16 0, .int .i16 0, .int .i16 0, .int .i16 0, .int .i16 0, .int .i16 0, .int .i16 0, .int .i16 0, .int .i16 0, .int .i16 0, .int .i16 0, .int .i16 0, .int .i16 0, .int .i16 0, .int .i16 0, .int .i16 0, .int .i16 0, .int .i16 0, .int .i16 0, .int .i16 0, .int .i16 0, .int .i16 0, .int .i16 0, .int .i16 0, .int .i16 0, .int .i16 0, .int .i16 0, .int .i16 0, .int .i16 0, .int .i16 0, .int .i16 0, .int .i16 0, .int .i16 0, .int .i16 0, .int .i16 0, .int .i16 0]) (hi : (P.info? ty).map (·.size) = some 64)
    (hK : wpList P ops Q rest (a.put o.dst undef) (w.setRow b (arrV .i16 64 fun _ => 0))) : wpList P ops Q (o :: rest) a w :=
  wpList_store_arr h ty x y hgd ho hx (hy.trans (by rw [zeroArr16])) hi hK

end Go.Proofs.YtnlcjbobfhmnmaaDoor
