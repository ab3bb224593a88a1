/-
  The best of all copies in the program. Condition: its variables hold their own errors, the library's table of de Bruijn what its text lays; at most 1048576 copies of 16-bit numbers.
-/
import Derived.Test.YtmibinfaafhgdaaGreatDoorBst
import Derived.Test.YtmibinfaafhgdaaGreatDoorEchX
namespace Go.Proofs.YtmibinfaafhgdaaGreatDoor
open Go.RowKit Go.Shelf

attribute [local go_sem] Oper.semAt_some

/-! ### WHAT A LOOP's INVARIANT SPEAKS OF -/
theorem ownB_size {β : Type} (B N : Nat) : OwnFrom B (fun (_ : β) W => N < W.heap.size) := fun _ _ _ _ hs hg _ => Nat.lt_of_lt_of_le hs hg.size
theorem keepsB_below {B : Nat} {W W' : World} (h : Below W.heap.size W W') : KeepsFrom B W W' := ⟨h.size, fun k o _ hk _ => (h.block k (Array.getElem?_eq_some_iff.1 hk).1).trans hk⟩
theorem arrB_own {β : Type} (B : Nat) (T : TypeId) (κ : IntKind) (n : Nat) (F : β → Nat → Int) : Own (fun s W => HasArr W B T κ n (F s)) := fun s X Y row hs hg hrow =>
  (hg.block B hs.lt (fun e' => by
    obtain ⟨o, ho, hc⟩ := hrow B e'.symm
    rw [show X.heap[B]? = _ from hs] at ho; cases ho; cases hc)).trans hs
/-- Blocks ahead of B lie as they lay in w0, but for block q. -/
def KeptBut (w0 : World) (B q : Nat) (W : World) : Prop := ∀ k, k < B → k ≠ q → W.heap[k]? = w0.heap[k]?
theorem keptBut_own {β : Type} {w0 : World} {B q : Nat} (hB : B ≤ w0.heap.size) : OwnFrom B (fun (_ : β) W => w0.heap.size ≤ W.heap.size ∧ KeptBut w0 B q W) := fun _ X Y row hs hg hr =>
  ⟨Nat.le_trans hs.1 hg.size, fun k hk hq => (hg.block k (by have := hs.1; omega) (fun e => by have := (hr k e.symm).1; omega)).trans (hs.2 k hk hq)⟩

section
variable {F : Fence} {n : Nat} {P : Program} {ops : Array Oper} {Q : Exit → Act → World → Prop} {a : Act} {w : World} {o : Oper} {rest : List Oper}
/-- One operation that is no call, by what it does. -/
theorem wpListIn_val {v : Value} {w' : World} (hab : ∀ f, o.about P w a.eval = some f → F.fn f) (hnd : ∀ c, o.op ≠ .defer c) (hgd : o.guard = none) (hr : (execOp a.eval o).run P w = .ok (.value v) w')
    (hK : wpListIn F n P ops Q rest (a.put o.dst v) w') : wpListIn F n P ops Q (o :: rest) a w := by
  have hw : Region.wanted o (yielded ops a.tmps) = true := by simp [Region.wanted, hgd]
  unfold wpListIn
  rw [if_pos hw]
  unfold Oper.wpIn
  refine ⟨hab, ?_⟩
  rw [Oper.semAt_eq _ _ _ hnd, hr]
  exact hK
theorem wpListIn_skp {w' : World} (hab : ∀ f, o.about P w a.eval = some f → F.fn f) (hnd : ∀ c, o.op ≠ .defer c) (hgd : o.guard = none) (hr : (execOp a.eval o).run P w = .ok .skip w')
    (hK : wpListIn F n P ops Q rest (a.put o.dst undef) w') : wpListIn F n P ops Q (o :: rest) a w := by
  have hw : Region.wanted o (yielded ops a.tmps) = true := by simp [Region.wanted, hgd]
  unfold wpListIn
  rw [if_pos hw]
  unfold Oper.wpIn
  refine ⟨hab, ?_⟩
  rw [Oper.semAt_eq _ _ _ hnd, hr]
  exact hK
theorem wpListIn_load_part {b oo : Nat} {κ : IntKind} {m : Nat} {f : Nat → Int} {k : Nat} {e : TypeId}
    (h : PartA w b oo κ k f) (ty : TypeId) (x : Operand) (hgd : o.guard = none) (ho : o.op = .load ty x) (hx : a.eval x = .pointer (some ⟨b, oo, none⟩)) (hu : P.underlying ty = some (.array m e)) (hi : (P.info? ty).map (·.size) = some k)
    (hK : wpListIn F n P ops Q rest (a.put o.dst (.agg (arrV κ k f))) w) : wpListIn F n P ops Q (o :: rest) a w :=
  wpListIn_val (fun f hf => by unfold Oper.about at hf; rw [ho] at hf; cases hf) (by rw [ho]; exact fun _ h => nomatch h) hgd (run_load_part h ty x ho hx hu hi) hK
theorem wpListIn_andNot {T T2 : TypeId} {x y : Operand} {A B : BitVec 64} (hgd : o.guard = none) (ho : o.op = .binOp .andNot T x y T2) (hx : a.eval x = .int .u64 (bvI A)) (hy : a.eval y = .int .u64 (bvI B))
    (hK : wpListIn F n P ops Q rest (a.put o.dst (.int .u64 (bvI (A &&& ~~~B)))) w) : wpListIn F n P ops Q (o :: rest) a w :=
  wpListIn_val (fun f hf => by unfold Oper.about at hf; rw [ho] at hf; cases hf) (by rw [ho]; exact fun _ h => nomatch h) hgd (run_andNot_bv ho hx hy) hK
end
section
variable {F : Fence} {n : Nat} {ops : Array Oper} {Q : Exit → Act → World → Prop} {a : Act} {w : World} {o : Oper} {rest : List Oper} {b N k q : Nat} {g : Nat → Nat → Int} {G : Nat → Int} {m : Nat → Int}
theorem wpListIn_lookup_dm (h : DMap w b N g G k) {i : Nat} (hi : i < k) (hf : S16 (g i)) (hgd : o.guard = none) (mm x : Operand) (ho : o.op = .lookup 88 mm x false) (hm : a.eval mm = .map (some b)) (hx : a.eval x = .agg (arrV .i16 64 (g i)))
    (hK : wpListIn F n Tryz.prog ops Q rest (a.put o.dst (.int .u64 (G i))) w) : wpListIn F n Tryz.prog ops Q (o :: rest) a w := by
  have hrun := h.look hi hf
  unfold prV at hrun
  exact wpListIn_val (fun f hf => by unfold Oper.about at hf; rw [ho] at hf; cases hf) (by rw [ho]; exact fun _ h => nomatch h) hgd (v := .int .u64 (G i)) (w' := w) (by simp [execOp, ho, hm, hx, hrun, Result.andThen]) hK
theorem wpListIn_store_ds {cs : Array Value} {T : TypeId} (h0 : w.heap[q]? = some (.cells cs T (0, 0))) (hcs : cs.size = 65) (hg : o.guard = none) (x y : Operand) (ho : o.op = .store 90 x y) (hx : a.eval x = .pointer (some ⟨q, 0, none⟩)) (hy : a.eval y = .agg (dsV m b))
    (hK : wpListIn F n Tryz.prog ops Q rest (a.put o.dst undef) (w.setRow q (dsV m b))) : wpListIn F n Tryz.prog ops Q (o :: rest) a w := by
  have e := run_storeVar_row (P := Tryz.prog) w q T 90 cs (dsV m b) h0 (by rw [dsV_size]; exact sizeDs) (by rw [dsV_size]; exact hcs) (dsV_one m b)
  exact wpListIn_skp (fun f hf => by unfold Oper.about at hf; rw [ho] at hf; cases hf) (by rw [ho]; exact fun _ h => nomatch h) hg (w' := w.setRow q (dsV m b)) (by simp [execOp, ho, hx, hy, Instr.storeAt, Instr.sureAddr, e, Result.andThen]) hK
end

/-- Cells laid over others as far as a loop has come. -/
def xpF (f h : Nat → Int) {m : BitVec 64} (pre : List (CellOf m)) (c : Nat) : Int := if c ∈ pre.map (·.1) then h c else f c
theorem xpF_nil (f h : Nat → Int) (m : BitVec 64) : xpF f h ([] : List (CellOf m)) = f := by funext c; simp [xpF]
theorem xpF_snoc (f h : Nat → Int) {m : BitVec 64} (pre : List (CellOf m)) (x : CellOf m) (j : Nat) : upd (xpF f h pre) x.1 (h x.1) j = xpF f h (pre ++ [x]) j := by
  unfold upd xpF
  by_cases e : j = x.1
  · subst e; simp
  · simp [e]
theorem xpF_all (f h : Nat → Int) {m : BitVec 64} {xs : List (CellOf m)} (e : xs.map (·.1) = bitsL m 64) {j : Nat} (hj : j < 64) : xpF f h xs j = if m.getLsbD j = true then h j else f j := by
  unfold xpF
  rw [e]
  simp only [mem_bitsL, hj, true_and]
/-- The marks of ranges over functions. -/
def marksB (Ds : List Nat) : List Deferred := Ds.map fun D => { target := .collected D, args := #[] }
theorem leaves_marks {F : Fence} {n : Nat} {P : Program} {fn : Func} {tmps : Array Value} {R : Ending → World → Prop} : ∀ (Ds : List Nat) (W : World), Ds.Nodup → (∀ D ∈ Ds, W.heap[D]? = some (.deferred (some []))) →
    (∀ W' : World, W'.os = W.os → W'.tape = W.tape → W'.output = W.output → W.heap.size ≤ W'.heap.size → (∀ k, k ∉ Ds → W'.heap[k]? = W.heap[k]?) → ∃ v, (results fn tmps).run P W' = .ok v W' ∧ R (.returned v) W') →
    LeavesInM F n P fn tmps R (marksB Ds) .returning W
  | [], W, _, _, h => by
    obtain ⟨v, h1, h2⟩ := h W rfl rfl rfl (Nat.le_refl _) (fun _ _ => rfl)
    exact ⟨v, h1, h2⟩
  | D :: r, W, hd, hm, h => by
    have hD := hm D (by simp)
    obtain ⟨hn, hd2⟩ := List.nodup_cons.1 hd
    refine ⟨by simp, .inl ⟨D, _, rfl, run_takeDeferred hD, ?_⟩⟩
    refine leaves_marks r _ hd2 (fun E hE => ?_) (fun W' e1 e2 e3 e4 e5 => h W' e1 e2 e3 (by simpa [World.putObj] using e4) (fun k hk => ?_))
    · rw [World.putObj_heap_other (fun e => hn (by rw [← e]; exact hE))]
      exact hm E (by simp [hE])
    · have hk2 : k ≠ D ∧ k ∉ r := by simpa using hk
      rw [e5 k hk2.2, World.putObj_heap_other hk2.1]

set_option maxRecDepth 100000 in
set_option maxHeartbeats 8000000 in
theorem bestOfCopies_ok (s : Ers) (A : Option Addr) (n cap : Nat) (g : Nat → Nat → Int) (x : Int) (hn : n ≤ 1048576) (hs : ∀ i, i < n → S16 (g i)) (hc : copC n g x = 0) (w : World) (hr : PrsIn w A n g) (hE : ErrEnv s w) (hT : DbEnv w) :
    Calls Tryz.prog 29 #[.slice A n cap, .int .i64 x] w fun e w' => e = .returned (.tuple #[.agg (arrV .i16 64 (bsF (medF g n) g (dBs g n x) n)), .int .u64 (bvI (lfB (dBs g n x) n)), .nilIface]) ∧ Below w.heap.size w w' := by
  have hgl := hT.lt
  have a1 := HasArr.zero w 29 (b := w.heap.size) rfl
  have k0 := (Below.refl w.heap.size w).alloc (Nat.le_refl _) (.cells #[.int .i16 0, .int .i16 0, .int .i16 0, .int .i16 0, .int .i16 0, .int .i16 0, .int .i16 0, .int .i16 0, .int .i16 0, .int .i16 0, .int .i16 0, .int .i16 0, .int .i16 0, .int .i16 0, .int .i16 0, .int .i16 0, .int .i16 0, .int .i16 0, .int .i16 0, .int .i16 0, .int .i16 0, .int .i16 0, .int .i16 0, .int .i16 0, .int .i16 0, .int .i16 0, .int .i16 0, .int .i16 0, .int .i16 0, .int .i16 0, .int .i16 0, .int .i16 0, .int .i16 0, .int .i16 0, .int .i16 0, .int .i16 0, .int .i16 0, .int .i16 0, .int .i16 0, .int .i16 0, .int .i16 0, .int .i16 0, .int .i16 0, .int .i16 0, .int .i16 0, .int .i16 0, .int .i16 0, .int .i16 0, .int .i16 0, .int .i16 0, .int .i16 0, .int .i16 0, .int .i16 0, .int .i16 0, .int .i16 0, .int .i16 0, .int .i16 0, .int .i16 0, .int .i16 0, .int .i16 0, .int .i16 0, .int .i16 0, .int .i16 0, .int .i16 0] 29)
  have h8 := copC_pos hc
  have Hq := Lib.hid (dustOf_ok s A n cap g x hn hs hc _ (hr.below k0 (Nat.le_refl _)) (hE.below k0 (Nat.le_refl _)))
  have HRw := Lib.hid hr
  have HS := Lib.hid hs
  have hdF : Hid (∀ i, dF g n x i = bvI (dBs g n x i)) := Lib.hid fun i => rfl
  clear hc hr hE hs
  generalize dBs g n x = D at *
  generalize dF g n x = G at *
  generalize medF g n = M at *
  refine (callsIn_wide (n := 10)).1 ?_
  refine callsIn_of_wp_marks Tryz.func29 rfl trivial ?_ rfl
  simp only [Tryz.ntmps29, List.size_toArray, List.length_cons, List.length_nil, Nat.reduceAdd, Nat.reduceSub, Array.replicate_succ, Array.replicate_zero, List.push_toArray, List.append_toArray, List.nil_append, List.cons_append]
  gi_wp2
  refine ⟨trivial, ?_⟩
  refine (callsIn_wide.2 Hq.out).mono ?_; rintro e w2 ⟨b, N, hN, rfl, hwb, hdm, hb2⟩
  have a2 := a1.below hb2 a1.lt
  have k2 := k0.trans (hb2.mono k0.size)
  clear hb2 a1 k0 Hq
  have z2 : (w2.alloc (.cells Tryz.zeroCells90 90)).heap[w2.heap.size]? = some (.cells Tryz.zeroCells90 90 (0, 0)) := heap_alloc_last w2 _
  have kk := below_setRow ((Below.refl w2.heap.size w2).alloc (Nat.le_refl _) (.cells Tryz.zeroCells90 90)) (b := w2.heap.size) (Nat.le_refl _) (dsV M b)
  have ds : HasDs ((w2.alloc (.cells Tryz.zeroCells90 90)).setRow w2.heap.size (dsV M b)) w2.heap.size M b := setRow_heap _ _ _ _ _ _ z2
  have dm := hdm.below kk hdm.lt
  have a3 := a2.below kk a2.lt
  have k3 := k2.trans (kk.mono k2.size)
  have hsz : ((w2.alloc (.cells Tryz.zeroCells90 90)).setRow w2.heap.size (dsV M b)).heap.size = w2.heap.size + 1 := by simp
  have y0 := HasArr.zero ((w2.alloc (.cells Tryz.zeroCells90 90)).setRow w2.heap.size (dsV M b)) 29 (b := w2.heap.size + 1) hsz.symm
  gi_wp2_with (first
    | (refine wpListIn_store_ds z2 dzSize rfl (.tmp 7) (.tmp 19) rfl rfl rfl ?_)
    | (refine wpListIn_load_part ds.part 29 (.tmp 25) rfl rfl rfl Tryz.underlying29 sizePrint ?_)
    | (refine wpListIn_store_arr y0 29 (.tmp 9) (.tmp 26) rfl rfl rfl rfl sizePrint ?_))
  have y1 := y0.setRow .i16 M
  have ds2 : HasDs ((((w2.alloc (.cells Tryz.zeroCells90 90)).setRow w2.heap.size (dsV M b)).alloc (.cells #[.int .i16 0, .int .i16 0, .int .i16 0, .int .i16 0, .int .i16 0, .int .i16 0, .int .i16 0, .int .i16 0, .int .i16 0, .int .i16 0, .int .i16 0, .int .i16 0, .int .i16 0, .int .i16 0, .int .i16 0, .int .i16 0, .int .i16 0, .int .i16 0, .int .i16 0, .int .i16 0, .int .i16 0, .int .i16 0, .int .i16 0, .int .i16 0, .int .i16 0, .int .i16 0, .int .i16 0, .int .i16 0, .int .i16 0, .int .i16 0, .int .i16 0, .int .i16 0, .int .i16 0, .int .i16 0, .int .i16 0, .int .i16 0, .int .i16 0, .int .i16 0, .int .i16 0, .int .i16 0, .int .i16 0, .int .i16 0, .int .i16 0, .int .i16 0, .int .i16 0, .int .i16 0, .int .i16 0, .int .i16 0, .int .i16 0, .int .i16 0, .int .i16 0, .int .i16 0, .int .i16 0, .int .i16 0, .int .i16 0, .int .i16 0, .int .i16 0, .int .i16 0, .int .i16 0, .int .i16 0, .int .i16 0, .int .i16 0, .int .i16 0, .int .i16 0] 29)).setRow (w2.heap.size + 1) (arrV .i16 64 M)) w2.heap.size M b :=
    (setRow_other _ _ _ _ (by omega)).trans ((Below.heap_alloc _ _ _ ds.lt).trans ds)
  have dm2 := dm.block ((setRow_other _ (w2.heap.size + 1) b (arrV .i16 64 M) (by have := hdm.lt; omega)).trans (Below.heap_alloc _ (.cells #[.int .i16 0, .int .i16 0, .int .i16 0, .int .i16 0, .int .i16 0, .int .i16 0, .int .i16 0, .int .i16 0, .int .i16 0, .int .i16 0, .int .i16 0, .int .i16 0, .int .i16 0, .int .i16 0, .int .i16 0, .int .i16 0, .int .i16 0, .int .i16 0, .int .i16 0, .int .i16 0, .int .i16 0, .int .i16 0, .int .i16 0, .int .i16 0, .int .i16 0, .int .i16 0, .int .i16 0, .int .i16 0, .int .i16 0, .int .i16 0, .int .i16 0, .int .i16 0, .int .i16 0, .int .i16 0, .int .i16 0, .int .i16 0, .int .i16 0, .int .i16 0, .int .i16 0, .int .i16 0, .int .i16 0, .int .i16 0, .int .i16 0, .int .i16 0, .int .i16 0, .int .i16 0, .int .i16 0, .int .i16 0, .int .i16 0, .int .i16 0, .int .i16 0, .int .i16 0, .int .i16 0, .int .i16 0, .int .i16 0, .int .i16 0, .int .i16 0, .int .i16 0, .int .i16 0, .int .i16 0, .int .i16 0, .int .i16 0, .int .i16 0, .int .i16 0] 29) _ dm.lt))
  have a5 := (a3.alloc (.cells #[.int .i16 0, .int .i16 0, .int .i16 0, .int .i16 0, .int .i16 0, .int .i16 0, .int .i16 0, .int .i16 0, .int .i16 0, .int .i16 0, .int .i16 0, .int .i16 0, .int .i16 0, .int .i16 0, .int .i16 0, .int .i16 0, .int .i16 0, .int .i16 0, .int .i16 0, .int .i16 0, .int .i16 0, .int .i16 0, .int .i16 0, .int .i16 0, .int .i16 0, .int .i16 0, .int .i16 0, .int .i16 0, .int .i16 0, .int .i16 0, .int .i16 0, .int .i16 0, .int .i16 0, .int .i16 0, .int .i16 0, .int .i16 0, .int .i16 0, .int .i16 0, .int .i16 0, .int .i16 0, .int .i16 0, .int .i16 0, .int .i16 0, .int .i16 0, .int .i16 0, .int .i16 0, .int .i16 0, .int .i16 0, .int .i16 0, .int .i16 0, .int .i16 0, .int .i16 0, .int .i16 0, .int .i16 0, .int .i16 0, .int .i16 0, .int .i16 0, .int .i16 0, .int .i16 0, .int .i16 0, .int .i16 0, .int .i16 0, .int .i16 0, .int .i16 0] 29)).rowOther (b' := w2.heap.size + 1) (by have := a2.lt; omega) (arrV .i16 64 M)
  have k5 := below_setRow (k3.alloc k3.size (.cells #[.int .i16 0, .int .i16 0, .int .i16 0, .int .i16 0, .int .i16 0, .int .i16 0, .int .i16 0, .int .i16 0, .int .i16 0, .int .i16 0, .int .i16 0, .int .i16 0, .int .i16 0, .int .i16 0, .int .i16 0, .int .i16 0, .int .i16 0, .int .i16 0, .int .i16 0, .int .i16 0, .int .i16 0, .int .i16 0, .int .i16 0, .int .i16 0, .int .i16 0, .int .i16 0, .int .i16 0, .int .i16 0, .int .i16 0, .int .i16 0, .int .i16 0, .int .i16 0, .int .i16 0, .int .i16 0, .int .i16 0, .int .i16 0, .int .i16 0, .int .i16 0, .int .i16 0, .int .i16 0, .int .i16 0, .int .i16 0, .int .i16 0, .int .i16 0, .int .i16 0, .int .i16 0, .int .i16 0, .int .i16 0, .int .i16 0, .int .i16 0, .int .i16 0, .int .i16 0, .int .i16 0, .int .i16 0, .int .i16 0, .int .i16 0, .int .i16 0, .int .i16 0, .int .i16 0, .int .i16 0, .int .i16 0, .int .i16 0, .int .i16 0, .int .i16 0] 29)) (b := w2.heap.size + 1) (by have := k2.size; omega) (arrV .i16 64 M)
  have hq2 := k2.size
  have hq3 := a2.lt
  have hbq := hdm.lt
  clear z2 kk ds dm a3 k3 hsz y0 hdm a2 k2
  generalize ((((w2.alloc (.cells Tryz.zeroCells90 90)).setRow w2.heap.size (dsV M b)).alloc (.cells #[.int .i16 0, .int .i16 0, .int .i16 0, .int .i16 0, .int .i16 0, .int .i16 0, .int .i16 0, .int .i16 0, .int .i16 0, .int .i16 0, .int .i16 0, .int .i16 0, .int .i16 0, .int .i16 0, .int .i16 0, .int .i16 0, .int .i16 0, .int .i16 0, .int .i16 0, .int .i16 0, .int .i16 0, .int .i16 0, .int .i16 0, .int .i16 0, .int .i16 0, .int .i16 0, .int .i16 0, .int .i16 0, .int .i16 0, .int .i16 0, .int .i16 0, .int .i16 0, .int .i16 0, .int .i16 0, .int .i16 0, .int .i16 0, .int .i16 0, .int .i16 0, .int .i16 0, .int .i16 0, .int .i16 0, .int .i16 0, .int .i16 0, .int .i16 0, .int .i16 0, .int .i16 0, .int .i16 0, .int .i16 0, .int .i16 0, .int .i16 0, .int .i16 0, .int .i16 0, .int .i16 0, .int .i16 0, .int .i16 0, .int .i16 0, .int .i16 0, .int .i16 0, .int .i16 0, .int .i16 0, .int .i16 0, .int .i16 0, .int .i16 0, .int .i16 0] 29)).setRow (w2.heap.size + 1) (arrV .i16 64 M)) = W5 at *
  obtain ⟨q, hqe⟩ : ∃ q, q = w2.heap.size := ⟨_, rfl⟩
  rw [← hqe] at y1 ds2 hq2 hq3 hbq ⊢
  clear hqe
  have h00 : (18446744073709551615 : Int) = bvI (lfB D 0) := rfl
  rw [h00]
  clear h00
  refine wpIn_loop (fun a' W => ∃ (Ds : List Nat) (i : Nat) (u12 u13 u30 u31 u32 u33 u34 u35 u36 u37 u38 u39 u40 u47 u48 u49 u50 : Value), (i ≤ n ∧ Ds.Nodup ∧ (∀ E ∈ Ds, w.heap.size ≤ E ∧ W.heap[E]? = some (.deferred (some []))) ∧ HasDs W q M b ∧ DMap W b N g G n ∧ HasArr W (q + 1) 29 .i16 64 (bsF M g D i) ∧ HasArr W w.heap.size 29 .i16 64 (fun _ => 0) ∧ Below w.heap.size w W) ∧ a' = { tmps := #[.slice A n cap, .int .i64 x, undef, undef, .pointer (some ⟨w.heap.size, 0, none⟩), .int .u64 0, .nilIface, .pointer (some ⟨q, 0, none⟩), .nilIface, .pointer (some ⟨q + 1, 0, none⟩), .int .u64 (bvI (lfB D i)), undef, u12, u13, undef, .tuple #[.agg (dsV M b), .nilIface], .slice A n cap, .int .i64 x, .tuple #[.agg (dsV M b), .nilIface], .agg (dsV M b), .nilIface, .nilIface, .bool false, undef, undef, .pointer (some ⟨q, 0, none⟩), .agg (arrV .i16 64 M), .slice A n cap, .int .i64 (n : Int), .int .i64 (i : Int), u30, u31, u32, u33, u34, u35, u36, u37, u38, u39, u40, undef, undef, undef, undef, undef, undef, u47, u48, u49, u50, undef, undef], defers := marksB Ds }) (fun a' _ => n - (intOf (a'.tmps.getD 29 undef)).toNat) ?_ ?_
  · refine ⟨[], 0, ?_⟩
    (repeat apply Exists.intro)
    exact ⟨⟨by omega, List.nodup_nil, fun E hE => absurd hE (by simp), ds2, dm2, y1, a5, k5⟩, rfl⟩
  clear ds2 dm2 y1 a5 k5
  rintro _ wr ⟨Ds, i, u12, u13, u30, u31, u32, u33, u34, u35, u36, u37, u38, u39, u40, u47, u48, u49, u50, ⟨hin, hnd, hmk, hds, hdm, hy, ha, hB⟩, rfl⟩
  by_cases hlt : i < n
  rotate_left
  · obtain rfl : i = n := by omega
    have KB := Lib.hid hB; have HMK := Lib.hid hmk; have HND := Lib.hid hnd; clear hB hmk hnd
    gi_wp2_with (first | (refine wpListIn_load_arr hy 29 (.tmp 9) rfl rfl rfl Tryz.underlying29 sizePrint ?_) | (refine wpListIn_store_arr ha 29 (.tmp 4) (.tmp 51) rfl rfl rfl rfl sizePrint ?_))
    have hHn : w.heap.size ∉ Ds := fun hE => by
      have h1 := (HMK.out _ hE).2
      rw [show wr.heap[w.heap.size]? = _ from ha] at h1
      cases h1
    have kB2 := below_setRow KB.out (b := w.heap.size) (by omega) (arrV .i16 64 (bsF M g D i))
    refine leaves_marks Ds _ HND.out (fun E hE => (setRow_other _ _ _ _ (fun e => hHn (by rw [← e]; exact hE))).trans (HMK.out E hE).2) (fun W' e1 e2 e3 e4 e5 => ?_)
    refine ⟨.tuple #[.agg (arrV .i16 64 (bsF M g D i)), .int .u64 (bvI (lfB D i)), .nilIface], ?_, rfl, ⟨e1.trans kB2.os, e2.trans kB2.tape, e3.trans kB2.output, Nat.le_trans kB2.size e4, fun k hk => (e5 k (fun hE => by have := (HMK.out k hE).1; omega)).trans (kB2.block k hk)⟩⟩
    exact resultsRowTmp2B rfl _ _ _ _ _ _ _ rfl ((e5 _ hHn).trans (ha.setRow .i16 (bsF M g D i))) Tryz.underlying29 rfl (by rw [arrV_size]; exact sizePrint) _ _ rfl rfl
  have hlt' : (i : Int) < n := by omega
  rcases HRw.out.below hB (Nat.le_refl _) with h0 | ⟨b2, o, rfl, hlb, hcc⟩
  · exfalso; omega
  have p0 := hcc i hlt
  clear hcc
  have hyl := hy.lt
  have z0 := HasArr.zero wr 29 (b := wr.heap.size) rfl
  have z1 := z0.setRow .i16 (g i)
  have kA := below_setRow ((Below.refl wr.heap.size wr).alloc (Nat.le_refl _) (.cells #[.int .i16 0, .int .i16 0, .int .i16 0, .int .i16 0, .int .i16 0, .int .i16 0, .int .i16 0, .int .i16 0, .int .i16 0, .int .i16 0, .int .i16 0, .int .i16 0, .int .i16 0, .int .i16 0, .int .i16 0, .int .i16 0, .int .i16 0, .int .i16 0, .int .i16 0, .int .i16 0, .int .i16 0, .int .i16 0, .int .i16 0, .int .i16 0, .int .i16 0, .int .i16 0, .int .i16 0, .int .i16 0, .int .i16 0, .int .i16 0, .int .i16 0, .int .i16 0, .int .i16 0, .int .i16 0, .int .i16 0, .int .i16 0, .int .i16 0, .int .i16 0, .int .i16 0, .int .i16 0, .int .i16 0, .int .i16 0, .int .i16 0, .int .i16 0, .int .i16 0, .int .i16 0, .int .i16 0, .int .i16 0, .int .i16 0, .int .i16 0, .int .i16 0, .int .i16 0, .int .i16 0, .int .i16 0, .int .i16 0, .int .i16 0, .int .i16 0, .int .i16 0, .int .i16 0, .int .i16 0, .int .i16 0, .int .i16 0, .int .i16 0, .int .i16 0] 29)) (b := wr.heap.size) (Nat.le_refl _) (arrV .i16 64 (g i))
  have ds6 := hds.below kA hds.lt
  have dm6 := hdm.below kA hdm.lt
  have y6 := hy.below kA hy.lt
  have a6 := ha.below kA ha.lt
  have k6 := hB.trans (kA.mono hB.size)
  have mk6 := Lib.hid (fun E hE => show w.heap.size ≤ E ∧ ((wr.alloc (.cells #[.int .i16 0, .int .i16 0, .int .i16 0, .int .i16 0, .int .i16 0, .int .i16 0, .int .i16 0, .int .i16 0, .int .i16 0, .int .i16 0, .int .i16 0, .int .i16 0, .int .i16 0, .int .i16 0, .int .i16 0, .int .i16 0, .int .i16 0, .int .i16 0, .int .i16 0, .int .i16 0, .int .i16 0, .int .i16 0, .int .i16 0, .int .i16 0, .int .i16 0, .int .i16 0, .int .i16 0, .int .i16 0, .int .i16 0, .int .i16 0, .int .i16 0, .int .i16 0, .int .i16 0, .int .i16 0, .int .i16 0, .int .i16 0, .int .i16 0, .int .i16 0, .int .i16 0, .int .i16 0, .int .i16 0, .int .i16 0, .int .i16 0, .int .i16 0, .int .i16 0, .int .i16 0, .int .i16 0, .int .i16 0, .int .i16 0, .int .i16 0, .int .i16 0, .int .i16 0, .int .i16 0, .int .i16 0, .int .i16 0, .int .i16 0, .int .i16 0, .int .i16 0, .int .i16 0, .int .i16 0, .int .i16 0, .int .i16 0, .int .i16 0, .int .i16 0] 29)).setRow wr.heap.size (arrV .i16 64 (g i))).heap[E]? = some (.deferred (some [])) from ⟨(hmk E hE).1, (kA.block E (Array.getElem?_eq_some_iff.1 (hmk E hE).2).1).trans (hmk E hE).2⟩)
  have hs6 : ((wr.alloc (.cells #[.int .i16 0, .int .i16 0, .int .i16 0, .int .i16 0, .int .i16 0, .int .i16 0, .int .i16 0, .int .i16 0, .int .i16 0, .int .i16 0, .int .i16 0, .int .i16 0, .int .i16 0, .int .i16 0, .int .i16 0, .int .i16 0, .int .i16 0, .int .i16 0, .int .i16 0, .int .i16 0, .int .i16 0, .int .i16 0, .int .i16 0, .int .i16 0, .int .i16 0, .int .i16 0, .int .i16 0, .int .i16 0, .int .i16 0, .int .i16 0, .int .i16 0, .int .i16 0, .int .i16 0, .int .i16 0, .int .i16 0, .int .i16 0, .int .i16 0, .int .i16 0, .int .i16 0, .int .i16 0, .int .i16 0, .int .i16 0, .int .i16 0, .int .i16 0, .int .i16 0, .int .i16 0, .int .i16 0, .int .i16 0, .int .i16 0, .int .i16 0, .int .i16 0, .int .i16 0, .int .i16 0, .int .i16 0, .int .i16 0, .int .i16 0, .int .i16 0, .int .i16 0, .int .i16 0, .int .i16 0, .int .i16 0, .int .i16 0, .int .i16 0, .int .i16 0] 29)).setRow wr.heap.size (arrV .i16 64 (g i))).heap.size = wr.heap.size + 1 := by simp
  have cm := ds6.map
  have hcl : Hid (lfB D i &&& ~~~D i = clB D i) := Lib.hid rfl
  have hlf : Hid (lfB D i &&& ~~~clB D i = lfB D (i + 1)) := Lib.hid rfl
  have hfin : Hid (∀ j, (if (clB D i).getLsbD j = true then g i j else bsF M g D i j) = bsF M g D (i + 1) j) := Lib.hid fun j => rfl
  have HND := Lib.hid hnd
  clear kA hds hdm hy ha hB hmk hnd
  generalize hLF : lfB D i = LF at *
  generalize hCL : clB D i = CL at *
  generalize hBS : bsF M g D i = BS at *
  gi_wp2_with (first
    | (refine wpListIn_load_part p0 29 (.tmp 31) rfl rfl rfl Tryz.underlying29 sizePrint ?_)
    | (refine wpListIn_store_arr z0 29 (.tmp 12) (.tmp 32) rfl rfl rfl rfl sizePrint ?_)
    | (refine wpListIn_load_arr z1 29 (.tmp 12) rfl rfl rfl Tryz.underlying29 sizePrint ?_)
    | (refine wpListIn_lookup_dm dm6 hlt (HS.out i hlt) rfl (.tmp 35) (.tmp 36) rfl rfl rfl ?_; rw [hdF.out])
    | (refine wpListIn_andNot (A := LF) (B := D i) rfl rfl rfl rfl ?_; rw [hcl.out]))
  clear z0 p0
  generalize ((wr.alloc (.cells #[.int .i16 0, .int .i16 0, .int .i16 0, .int .i16 0, .int .i16 0, .int .i16 0, .int .i16 0, .int .i16 0, .int .i16 0, .int .i16 0, .int .i16 0, .int .i16 0, .int .i16 0, .int .i16 0, .int .i16 0, .int .i16 0, .int .i16 0, .int .i16 0, .int .i16 0, .int .i16 0, .int .i16 0, .int .i16 0, .int .i16 0, .int .i16 0, .int .i16 0, .int .i16 0, .int .i16 0, .int .i16 0, .int .i16 0, .int .i16 0, .int .i16 0, .int .i16 0, .int .i16 0, .int .i16 0, .int .i16 0, .int .i16 0, .int .i16 0, .int .i16 0, .int .i16 0, .int .i16 0, .int .i16 0, .int .i16 0, .int .i16 0, .int .i16 0, .int .i16 0, .int .i16 0, .int .i16 0, .int .i16 0, .int .i16 0, .int .i16 0, .int .i16 0, .int .i16 0, .int .i16 0, .int .i16 0, .int .i16 0, .int .i16 0, .int .i16 0, .int .i16 0, .int .i16 0, .int .i16 0, .int .i16 0, .int .i16 0, .int .i16 0, .int .i16 0] 29)).setRow wr.heap.size (arrV .i16 64 (g i))) = W6 at *
  obtain ⟨Z, hZ⟩ : ∃ Z, Z = wr.heap.size := ⟨_, rfl⟩
  rw [← hZ] at z1 hs6 hyl ⊢
  clear hZ
  refine ⟨trivial, ?_⟩
  refine (each_in 9 CL _).mono ?_; rintro e w' ⟨rfl, rfl⟩
  rw [hs6]
  gi_wp2
  have bM := Boxed.new W6 59 (.int .u64 (bvI CL))
  rw [hs6] at bM
  have kA := (Below.refl W6.heap.size W6).alloc (Nat.le_refl _) (.cells #[.int .u64 (bvI CL)] 59)
  have z7 := z1.below kA z1.lt
  have ds7 := ds6.below kA ds6.lt
  have dm7 := dm6.below kA dm6.lt
  have y7 := y6.below kA y6.lt
  have a7 := a6.below kA a6.lt
  have k7 := k6.trans (kA.mono k6.size)
  have mk7 := Lib.hid (fun E hE => show w.heap.size ≤ E ∧ (W6.alloc (.cells #[.int .u64 (bvI CL)] 59)).heap[E]? = some (.deferred (some [])) from ⟨(mk6.out E hE).1, (kA.block E (Array.getElem?_eq_some_iff.1 (mk6.out E hE).2).1).trans (mk6.out E hE).2⟩)
  have hs7 : (W6.alloc (.cells #[.int .u64 (bvI CL)] 59)).heap.size = Z + 2 := by simp [hs6]
  clear kA z1 ds6 dm6 y6 a6 k6 mk6 cm
  generalize W6.alloc (.cells #[.int .u64 (bvI CL)] 59) = W7 at *
  have hT7 := hT.below k7
  have hyl2 := y7.lt
  have hal7 := a7.lt
  have hbl7 := dm7.lt
  refine wpIn_rangeFunc_ownH rfl (by omega) (gf := 73) (lb := #[.pointer (some ⟨Z + 1, 0, none⟩)]) rfl trivial (enters_of Tryz.func73 (by kernel_rfl) rfl)
    (each_stops CL 9 (by omega) (Z + 1) W7 bM hT7) keepsT_t (keepsT_b (by omega)) (Below.refl _ _) (fun _ => rfl)
    (fun pre W => HasArr W (q + 1) 29 .i16 64 (xpF BS (g i) pre) ∧ (W7.heap.size ≤ W.heap.size ∧ KeptBut W7 W7.heap.size (q + 1) W) ∧ Below w.heap.size w W)
    (fun _ _ _ => False)
    (OwnFrom.and (Own.from (arrB_own _ _ _ _ (fun pre => xpF BS (g i) pre)) _) (OwnFrom.and (keptBut_own (Nat.le_refl _)) (ownFrom_below (Nat.le_refl _) k7.size)))
    (fun _ => ownFrom_pure _ _)
    ⟨by rw [xpF_nil]; exact y7, ⟨Nat.le_refl _, fun _ _ _ => rfl⟩, k7⟩
    (fun y a' W => a' = { tmps := #[.slice (some ⟨b2, o, none⟩) n cap, .int .i64 x, undef, undef, .pointer (some ⟨w.heap.size, 0, none⟩), .int .u64 0, .nilIface, .pointer (some ⟨q, 0, none⟩), .nilIface, .pointer (some ⟨q + 1, 0, none⟩), .int .u64 (bvI LF), undef, .pointer (some ⟨Z, 0, none⟩), .int .u64 (bvI CL), .int .i64 ((y.1 : Nat) : Int), .tuple #[.agg (dsV M b), .nilIface], .slice (some ⟨b2, o, none⟩) n cap, .int .i64 x, .tuple #[.agg (dsV M b), .nilIface], .agg (dsV M b), .nilIface, .nilIface, .bool false, undef, undef, .pointer (some ⟨q, 0, none⟩), .agg (arrV .i16 64 M), .slice (some ⟨b2, o, none⟩) n cap, .int .i64 (n : Int), .int .i64 (i : Int), .bool true, .pointer (some ⟨b2, o + i * 64, none⟩), .agg (arrV .i16 64 (g i)), .int .u64 (bvI LF), .pointer (some ⟨q, 64, none⟩), .map (some b), .agg (arrV .i16 64 (g i)), .int .u64 (bvI (D i)), .int .u64 (bvI CL), .int .u64 (bvI CL), .func (.func 73) #[] #[.pointer (some ⟨Z + 1, 0, none⟩)], .int .i64 ((y.1 : Nat) : Int), undef, undef, undef, undef, undef, u47, u48, u49, u50, undef, undef], defers := [] })
    (fun y a' => ownFrom_pure _ _)
    ?assign ?body ?done ?stop
  case assign =>
    rintro l pre y W K hI hK
    unfold cellE
    gi_wp2
    exact hK _ _ (KeepsFrom.refl _ _) rfl hI rfl
  case body =>
    rintro l pre y a' W hl - ⟨hyA, ⟨hsz, hkb⟩, hBW⟩ rfl hlt2
    have hy64 := y.2.1
    have hy64' : ((y.1 : Nat) : Int) < 64 := by omega
    have hzW : HasArr W Z 29 .i16 64 (g i) := (hkb Z (by omega) (by omega)).trans z7
    have c1 := hzW.cell hy64
    have c2 := hyA.cell hy64
    have f2 := hyA.free y.1
    have HY := Lib.hid ((hyA.set y.1 (g i y.1)).congr fun j _ => xpF_snoc BS (g i) pre y j)
    have HK := Lib.hid (show KeptBut W7 W7.heap.size (q + 1) (W.setCell ⟨q + 1, y.1, none⟩ (.int .i16 (g i y.1))) from fun k hk hq => (Below.heap_setCell W ⟨q + 1, y.1, none⟩ _ k hq).trans (hkb k hk hq))
    clear hyA hzW hkb
    generalize g i y.1 = V at *
    gi_wp2
    refine ⟨(KeepsOthers.setCell _ _ _).from _, Below.heap_setCell W ⟨q + 1, y.1, none⟩ _ _ (by show _ ≠ q + 1; omega), HY.out, ⟨by simpa using hsz, HK.out⟩, hBW.setCell (p := ⟨q + 1, y.1, none⟩) (by show _ ≤ q + 1; omega) _⟩
  case done =>
    rintro D0 l W hD0 hxs ⟨hyA, ⟨hsz, hkb⟩, hBW⟩ hK
    have hD0' : D0 ∉ Ds := fun hE => by
      have := (Array.getElem?_eq_some_iff.1 (mk7.out D0 hE).2).1
      omega
    have ds8 := Lib.hid (show HasDs W q M b from (hkb q ds7.lt (by omega)).trans ds7)
    have dm8 := Lib.hid (dm7.block (hkb b hbl7 (by omega)))
    have a8 := Lib.hid (show HasArr W w.heap.size 29 .i16 64 (fun _ => 0) from (hkb _ hal7 (by omega)).trans a7)
    have mk8 := Lib.hid (fun E hE => show w.heap.size ≤ E ∧ W.heap[E]? = some (.deferred (some [])) from ⟨(mk7.out E hE).1, (hkb E (Array.getElem?_eq_some_iff.1 (mk7.out E hE).2).1 (fun e => by
      have h2 := (mk7.out E hE).2
      rw [e, show W7.heap[q + 1]? = _ from y7] at h2
      cases h2)).trans (mk7.out E hE).2⟩)
    have y8 := Lib.hid (hyA.congr (g := bsF M g D (i + 1)) fun j hj => by
      rw [← hfin.out j]
      exact xpF_all BS (g i) hxs hj)
    have k8 := Lib.hid hBW
    have hZw := k7.size
    clear hyA hkb hBW
    gi_wp2_with (refine wpListIn_andNot (A := LF) (B := CL) rfl rfl rfl rfl ?_; rw [hlf.out])
    refine ⟨⟨D0 :: Ds, i + 1, ?_⟩, ?measure⟩
    · (repeat apply Exists.intro)
      refine ⟨⟨by omega, List.nodup_cons.2 ⟨hD0', HND.out⟩, fun E hE => ?_, ds8.out, dm8.out, y8.out, a8.out, k8.out⟩, rfl⟩
      · rcases List.mem_cons.1 hE with rfl | hE
        · exact ⟨by omega, hK⟩
        · exact mk8.out E hE
    case measure => simp [intOf]; omega
  case stop =>
    rintro D0 c pre W hD0 - hI hK
    exact hI.elim
end Go.Proofs.YtmibinfaafhgdaaGreatDoor

namespace Go.Proofs.YtmibinfaafhgdaaGreatDoor
open Go.RowKit

theorem step_load_arrJ {P : Program} {ops : Array Oper} {o : Oper} {a : Act} {w : World} {K : Act → World → Prop} {Q : Exit → Act → World → Prop} {E : Prop} {b : Nat} {T : TypeId} {κ : IntKind} {n : Nat} {f : Nat → Int} {m : Nat} {e : TypeId}
    (h : HasArr w b T κ n f) (hg : o.guard = none) (ty : TypeId) (x : Operand) (ho : o.op = .load ty x) (hx : a.eval x = .pointer (some ⟨b, 0, none⟩)) (hu : P.underlying ty = some (.array m e)) (hi : (P.info? ty).map (·.size) = some n)
    (hK : K (a.put o.dst (.agg (arrV κ n f))) w) : if Region.wanted o (yielded ops a.tmps) = true then Oper.wp P o a w K Q else E := by
  have hw : Region.wanted o (yielded ops a.tmps) = true := by simp [Region.wanted, hg]
  rw [if_pos hw]
  exact wp_load_row ty x ho b hx T _ (0, 0) _ h hu rfl (by rw [arrV_size]; exact hi) hK

set_option maxRecDepth 100000 in
set_option maxHeartbeats 2000000 in
theorem bestOfCopies_bad (s : Ers) (A : Option Addr) (n cap : Nat) (g : Nat → Nat → Int) (x : Int) (hn : n ≤ 1048576) (hc : copC n g x ≠ 0) (w : World) (hr : PrsIn w A n g) (hE : ErrEnv s w) :
    Calls Tryz.prog 29 #[.slice A n cap, .int .i64 x] w fun e w' => e = .returned (.tuple #[.agg (arrV .i16 64 fun _ => 0), .int .u64 0, copE s (copC n g x)]) ∧ Below w.heap.size w w' := by
  have a1 := HasArr.zero w 29 (b := w.heap.size) rfl
  have k0 := (Below.refl w.heap.size w).alloc (Nat.le_refl _) (.cells #[.int .i16 0, .int .i16 0, .int .i16 0, .int .i16 0, .int .i16 0, .int .i16 0, .int .i16 0, .int .i16 0, .int .i16 0, .int .i16 0, .int .i16 0, .int .i16 0, .int .i16 0, .int .i16 0, .int .i16 0, .int .i16 0, .int .i16 0, .int .i16 0, .int .i16 0, .int .i16 0, .int .i16 0, .int .i16 0, .int .i16 0, .int .i16 0, .int .i16 0, .int .i16 0, .int .i16 0, .int .i16 0, .int .i16 0, .int .i16 0, .int .i16 0, .int .i16 0, .int .i16 0, .int .i16 0, .int .i16 0, .int .i16 0, .int .i16 0, .int .i16 0, .int .i16 0, .int .i16 0, .int .i16 0, .int .i16 0, .int .i16 0, .int .i16 0, .int .i16 0, .int .i16 0, .int .i16 0, .int .i16 0, .int .i16 0, .int .i16 0, .int .i16 0, .int .i16 0, .int .i16 0, .int .i16 0, .int .i16 0, .int .i16 0, .int .i16 0, .int .i16 0, .int .i16 0, .int .i16 0, .int .i16 0, .int .i16 0, .int .i16 0, .int .i16 0] 29)
  have hq := dustOf_bad s A n cap g x hn hc _ (hr.below k0 (Nat.le_refl _)) (hE.below k0 (Nat.le_refl _))
  obtain ⟨a, ha⟩ := copE_ne s hc
  rw [ha] at hq ⊢
  have Hq := Lib.hid hq; clear hq hc ha hr hE
  go_enter Tryz.func29, Tryz.ntmps29
  go_wp2_with fail
  refine Hq.out.mono ?_; rintro e w2 ⟨rfl, hb2⟩
  have k2 := k0.trans (hb2.mono k0.size)
  have b2 := a1.below hb2 a1.lt
  have a2 : (w2.alloc (.cells Tryz.zeroCells90 90)).heap[w2.heap.size]? = some (.cells Tryz.zeroCells90 90 (0, 0)) := heap_alloc_last w2 _
  have kk := below_setRow ((Below.refl w2.heap.size w2).alloc (Nat.le_refl _) (.cells Tryz.zeroCells90 90)) (b := w2.heap.size) (Nat.le_refl _) Tryz.zeroCells90
  have k3 := k2.trans (kk.mono k2.size)
  have b3 := b2.below kk b2.lt
  clear hb2 k2 b2 a1 k0 kk
  go_wp2_with (first
    | (refine wpList_store_dz a2 dzSize rfl (.tmp 7) (.tmp 19) rfl rfl rfl ?_)
    | (refine wpList_store_arr (g := fun _ => 0) b3 29 (.tmp 4) (.tmp 23) rfl rfl rfl (by rw [zeroArr16]; rfl) sizePrint ?_))
  refine bodyPost_ret (v := .tuple #[.agg (arrV .i16 64 fun _ => 0), .int .u64 0, errV a]) ?_ rfl ⟨rfl, below_setRow k3 (b := w.heap.size) (by omega) _⟩
  exact resultsRowTmp2B rfl _ _ _ _ _ _ _ rfl (b3.setRow .i16 fun _ => 0) Tryz.underlying29 rfl (by rw [arrV_size]; exact sizePrint) _ _ rfl rfl

set_option maxRecDepth 100000 in
set_option maxHeartbeats 2000000 in
theorem BestOfCopies_ex (s : Ers) (A : Option Addr) (n cap : Nat) (x : Int) (G : Nat → Int) (R c : Int) (v : Value) (hv : IsCode s v c) (w : World) (hE : ErrEnv s w)
    (h : ∀ W, Below w.heap.size w W → Calls Tryz.prog 29 #[.slice A n cap, .int .i64 x] W fun e w' => e = .returned (.tuple #[.agg (arrV .i16 64 G), .int .u64 R, v]) ∧ Below W.heap.size W w') :
    Calls Tryz.prog 9 #[.slice A n cap, .int .i64 x] w fun e w' => e = .returned (.tuple #[.agg (arrV .i16 64 G), .int .u64 R, .int .i64 c]) ∧ Below w.heap.size w w' := by
  have a2 := HasArr.zero w 29 (b := w.heap.size) rfl
  have k0 := (Below.refl w.heap.size w).alloc (Nat.le_refl _) (.cells #[.int .i16 0, .int .i16 0, .int .i16 0, .int .i16 0, .int .i16 0, .int .i16 0, .int .i16 0, .int .i16 0, .int .i16 0, .int .i16 0, .int .i16 0, .int .i16 0, .int .i16 0, .int .i16 0, .int .i16 0, .int .i16 0, .int .i16 0, .int .i16 0, .int .i16 0, .int .i16 0, .int .i16 0, .int .i16 0, .int .i16 0, .int .i16 0, .int .i16 0, .int .i16 0, .int .i16 0, .int .i16 0, .int .i16 0, .int .i16 0, .int .i16 0, .int .i16 0, .int .i16 0, .int .i16 0, .int .i16 0, .int .i16 0, .int .i16 0, .int .i16 0, .int .i16 0, .int .i16 0, .int .i16 0, .int .i16 0, .int .i16 0, .int .i16 0, .int .i16 0, .int .i16 0, .int .i16 0, .int .i16 0, .int .i16 0, .int .i16 0, .int .i16 0, .int .i16 0, .int .i16 0, .int .i16 0, .int .i16 0, .int .i16 0, .int .i16 0, .int .i16 0, .int .i16 0, .int .i16 0, .int .i16 0, .int .i16 0, .int .i16 0, .int .i16 0] 29)
  have H := Lib.hid (h _ k0); clear h
  go_enter Tryz.func9, Tryz.ntmps9
  go_wp2_with fail
  refine H.out.mono ?_; rintro e w2 ⟨rfl, hb2⟩
  have b2 := a2.below hb2 a2.lt
  have k2 := k0.trans (hb2.mono k0.size)
  have hl2 := b2.lt
  clear a2 hb2 H k0
  have z9 := HasArr.zero w2 29 (b := w2.heap.size) rfl
  have b3 := b2.alloc (.cells #[.int .i16 0, .int .i16 0, .int .i16 0, .int .i16 0, .int .i16 0, .int .i16 0, .int .i16 0, .int .i16 0, .int .i16 0, .int .i16 0, .int .i16 0, .int .i16 0, .int .i16 0, .int .i16 0, .int .i16 0, .int .i16 0, .int .i16 0, .int .i16 0, .int .i16 0, .int .i16 0, .int .i16 0, .int .i16 0, .int .i16 0, .int .i16 0, .int .i16 0, .int .i16 0, .int .i16 0, .int .i16 0, .int .i16 0, .int .i16 0, .int .i16 0, .int .i16 0, .int .i16 0, .int .i16 0, .int .i16 0, .int .i16 0, .int .i16 0, .int .i16 0, .int .i16 0, .int .i16 0, .int .i16 0, .int .i16 0, .int .i16 0, .int .i16 0, .int .i16 0, .int .i16 0, .int .i16 0, .int .i16 0, .int .i16 0, .int .i16 0, .int .i16 0, .int .i16 0, .int .i16 0, .int .i16 0, .int .i16 0, .int .i16 0, .int .i16 0, .int .i16 0, .int .i16 0, .int .i16 0, .int .i16 0, .int .i16 0, .int .i16 0, .int .i16 0] 29)
  have k3 := k2.alloc k2.size (.cells #[.int .i16 0, .int .i16 0, .int .i16 0, .int .i16 0, .int .i16 0, .int .i16 0, .int .i16 0, .int .i16 0, .int .i16 0, .int .i16 0, .int .i16 0, .int .i16 0, .int .i16 0, .int .i16 0, .int .i16 0, .int .i16 0, .int .i16 0, .int .i16 0, .int .i16 0, .int .i16 0, .int .i16 0, .int .i16 0, .int .i16 0, .int .i16 0, .int .i16 0, .int .i16 0, .int .i16 0, .int .i16 0, .int .i16 0, .int .i16 0, .int .i16 0, .int .i16 0, .int .i16 0, .int .i16 0, .int .i16 0, .int .i16 0, .int .i16 0, .int .i16 0, .int .i16 0, .int .i16 0, .int .i16 0, .int .i16 0, .int .i16 0, .int .i16 0, .int .i16 0, .int .i16 0, .int .i16 0, .int .i16 0, .int .i16 0, .int .i16 0, .int .i16 0, .int .i16 0, .int .i16 0, .int .i16 0, .int .i16 0, .int .i16 0, .int .i16 0, .int .i16 0, .int .i16 0, .int .i16 0, .int .i16 0, .int .i16 0, .int .i16 0, .int .i16 0] 29)
  go_wp2_with (refine wpList_store_arr z9 29 (.tmp 7) (.tmp 14) rfl rfl rfl rfl sizePrint ?_)
  have z8 := z9.setRow .i16 G
  have b8 := b3.rowOther (b' := w2.heap.size) (by omega) (arrV .i16 64 G)
  have k4 := below_setRow k3 (b := w2.heap.size) k2.size (arrV .i16 64 G)
  clear z9 b3 k3
  generalize ((w2.alloc (.cells #[.int .i16 0, .int .i16 0, .int .i16 0, .int .i16 0, .int .i16 0, .int .i16 0, .int .i16 0, .int .i16 0, .int .i16 0, .int .i16 0, .int .i16 0, .int .i16 0, .int .i16 0, .int .i16 0, .int .i16 0, .int .i16 0, .int .i16 0, .int .i16 0, .int .i16 0, .int .i16 0, .int .i16 0, .int .i16 0, .int .i16 0, .int .i16 0, .int .i16 0, .int .i16 0, .int .i16 0, .int .i16 0, .int .i16 0, .int .i16 0, .int .i16 0, .int .i16 0, .int .i16 0, .int .i16 0, .int .i16 0, .int .i16 0, .int .i16 0, .int .i16 0, .int .i16 0, .int .i16 0, .int .i16 0, .int .i16 0, .int .i16 0, .int .i16 0, .int .i16 0, .int .i16 0, .int .i16 0, .int .i16 0, .int .i16 0, .int .i16 0, .int .i16 0, .int .i16 0, .int .i16 0, .int .i16 0, .int .i16 0, .int .i16 0, .int .i16 0, .int .i16 0, .int .i16 0, .int .i16 0, .int .i16 0, .int .i16 0, .int .i16 0, .int .i16 0] 29)).setRow w2.heap.size (arrV .i16 64 G)) = W3 at *
  have HE := hE.below k4 (Nat.le_refl _)
  have HED : ErrEnv s W3.drew := HE.below ((Below.refl _ W3).drew) (Nat.le_refl _)
  refine wp_region_any (by kernel_rfl) ?_
  change wpAny _ _ _ _ _ _ _ (World.drew _)
  refine wpAny_take (i := 1) (v := .int .u64 R) rfl (by kernel_rfl) (by kernel_rfl) (by kernel_rfl) (fun _ _ _ h => h) (Or.inl ⟨by rfl, by intro w; go_simp⟩) ?_
  refine wpAny_take (i := 2) (v := v) rfl (by kernel_rfl) (by kernel_rfl) (by kernel_rfl) (fun _ _ _ h => h) (Or.inl ⟨by rfl, by intro w; go_simp⟩) ?_
  refine wpAny_ready (rs := [0, 3]) (by kernel_rfl) (by simp) ?_
  refine AllReady.cons rfl (fun K hK => ?_) (AllReady.cons rfl (fun K hK => ?_) AllReady.nil)
  · refine step_load_arrJ (w := W3.drew) z8.drew rfl 29 (.tmp 7) rfl rfl Tryz.underlying29 sizePrint ?_
    refine hK _ _ ?_; clear hK K
    refine wpAny_ready (rs := [3]) (by kernel_rfl) (by simp) ?_
    refine AllReady.cons rfl (fun K hK => ?_) AllReady.nil
    go_simp
    refine (codeOf_any hv _ HED).mono ?_; rintro e w' ⟨rfl, rfl⟩
    refine hK _ _ ?_; clear hK K
    try go_frame
    refine wpAny_of_seq _ 4 _ _ _ (fun j => match j with | 0 => rfl | 1 => rfl | 2 => rfl | _ + 3 => by simp; omega) (by kernel_rfl) ?_
    go_wp2_with (refine wpList_store_arr (b8.drew) 29 (.tmp 4) (.tmp 17) rfl rfl rfl rfl sizePrint ?_)
    refine bodyPost_ret (v := .tuple #[.agg (arrV .i16 64 G), .int .u64 R, .int .i64 c]) ?_ rfl ⟨rfl, below_setRow k4.drew (b := w.heap.size) (by omega) _⟩
    exact resultsRowTmp2B rfl _ _ _ _ _ _ _ rfl (b8.drew.setRow .i16 G) Tryz.underlying29 rfl (by rw [arrV_size]; exact sizePrint) _ _ rfl rfl
  · go_simp
    refine (codeOf_any hv _ HED).mono ?_; rintro e w' ⟨rfl, rfl⟩
    refine hK _ _ ?_; clear hK K
    refine wpAny_ready (rs := [0]) (by kernel_rfl) (by simp) ?_
    refine AllReady.cons rfl (fun K hK => ?_) AllReady.nil
    refine step_load_arrJ (w := W3.drew) z8.drew rfl 29 (.tmp 7) rfl rfl Tryz.underlying29 sizePrint ?_
    refine hK _ _ ?_; clear hK K
    try go_frame
    refine wpAny_of_seq _ 4 _ _ _ (fun j => match j with | 0 => rfl | 1 => rfl | 2 => rfl | _ + 3 => by simp; omega) (by kernel_rfl) ?_
    go_wp2_with (refine wpList_store_arr (b8.drew) 29 (.tmp 4) (.tmp 17) rfl rfl rfl rfl sizePrint ?_)
    refine bodyPost_ret (v := .tuple #[.agg (arrV .i16 64 G), .int .u64 R, .int .i64 c]) ?_ rfl ⟨rfl, below_setRow k4.drew (b := w.heap.size) (by omega) _⟩
    exact resultsRowTmp2B rfl _ _ _ _ _ _ _ rfl (b8.drew.setRow .i16 G) Tryz.underlying29 rfl (by rw [arrV_size]; exact sizePrint) _ _ rfl rfl

theorem BestOfCopies_any (s : Ers) (A : Option Addr) (n cap : Nat) (g : Nat → Nat → Int) (x : Int) (hn : n ≤ 1048576) (hs : ∀ i, i < n → S16 (g i)) (w : World) (hr : PrsIn w A n g) (hE : ErrEnv s w) (hT : DbEnv w) :
    Calls Tryz.prog 9 #[.slice A n cap, .int .i64 x] w fun e w' => e = .returned (.tuple #[.agg (arrV .i16 64 (bcF g n x)), .int .u64 (bcL g n x), .int .i64 (copC n g x)]) ∧ Below w.heap.size w w' := by
  by_cases hc : copC n g x = 0
  · rw [bcF_ok hc, bcL_ok hc, hc]
    exact BestOfCopies_ex s A n cap x _ _ 0 _ .ok w hE fun W hW => bestOfCopies_ok s A n cap g x hn hs hc W (hr.below hW (Nat.le_refl _)) (hE.below hW (Nat.le_refl _)) (hT.below hW)
  · rw [bcF_no hc, bcL_no hc]
    exact BestOfCopies_ex s A n cap x _ 0 _ _ (copE_code s n g x) w hE fun W hW => bestOfCopies_bad s A n cap g x hn hc W (hr.below hW (Nat.le_refl _)) (hE.below hW (Nat.le_refl _))
end Go.Proofs.YtmibinfaafhgdaaGreatDoor
