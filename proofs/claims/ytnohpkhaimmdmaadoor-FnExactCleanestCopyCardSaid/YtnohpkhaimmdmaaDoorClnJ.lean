/-
  The cleanest copy in the program, with its code. Condition: its variables hold their own errors; at most 1048576 copies of 16-bit numbers.
-/
import Derived.Test.YtnohpkhaimmdmaaDoorClnI
namespace Go.Proofs.YtnohpkhaimmdmaaDoor
open Go.RowKit

/-- Block q is a variable that holds an index and an amount. -/
def CcBox (W : World) (q : Nat) (a b : Int) : Prop := W.heap[q]? = some (.cells #[.int .i64 a, .int .i64 b] 53 (0, 0))
theorem CcBox.lt {W : World} {q : Nat} {a b : Int} (h : CcBox W q a b) : q < W.heap.size := (Array.getElem?_eq_some_iff.1 h).1
theorem CcBox.cell0 {W : World} {q : Nat} {a b : Int} (h : CcBox W q a b) : W.cell? ⟨q, 0, none⟩ = some (.int .i64 a) := by rw [cell_of_row W q 0 _ _ _ h]; rfl
theorem CcBox.cell1 {W : World} {q : Nat} {a b : Int} (h : CcBox W q a b) : W.cell? ⟨q, 1, none⟩ = some (.int .i64 b) := by rw [cell_of_row W q 1 _ _ _ h]; rfl
theorem CcBox.free {W : World} {q : Nat} {a b : Int} (h : CcBox W q a b) (k : Nat) : W.frozen? ⟨q, k, none⟩ = false := frozen_of_row W q k _ _ h
theorem CcBox.new (W : World) (a b : Int) : CcBox (W.alloc (.cells #[.int .i64 a, .int .i64 b] 53)) W.heap.size a b := heap_alloc_last W _
theorem CcBox.below {W W' : World} {B q : Nat} {a b : Int} (h : CcBox W q a b) (hb : Below B W W') (hB : q < B) : CcBox W' q a b := (hb.block q hB).trans h
theorem CcBox.set {W : World} {q : Nat} {a b : Int} (h : CcBox W q a b) (a' b' : Int) : CcBox ((W.setCell ⟨q, 0, none⟩ (.int .i64 a')).setCell ⟨q, 1, none⟩ (.int .i64 b')) q a' b' :=
  heap_setCell_same _ q 1 _ _ _ (heap_setCell_same _ q 0 _ _ _ h)
theorem wpQuiet_load_ds {ops : Array Oper} {C : World → Prop} {Q : Act → Prop} {a : Act} {o : Oper} {rest : List Oper} {q b : Nat} {m : Nat → Int}
    (h : ∀ W, C W → HasDs W q m b) (x : Operand) (hgd : o.guard = none) (ho : o.op = .load 67 x) (hx : a.eval x = .pointer (some ⟨q, 0, none⟩))
    (hK : wpQuiet Tryd.prog ops C Q rest (a.put o.dst (.agg (dsV m b)))) : wpQuiet Tryd.prog ops C Q (o :: rest) a :=
  BigFrame.wpQuiet_want (by simp [Region.wanted, hgd]) fun _ hK' => ⟨_, fun W hW => by
    have e := run_loadVar_row (P := Tryd.prog) W q _ 67 _ (0, 0) _ (h W hW) Tryd.underlying67 rfl (by rw [dsV_size]; exact sizeDs)
    have e2 : (execOp a.eval o).run Tryd.prog W = .ok (.value (.agg (dsV m b))) W := by simp [execOp, ho, hx, Instr.loadAt, Instr.sureAddr, e, Result.andThen]
    unfold Oper.quietAt; rw [e2]; exact ⟨rfl, rfl⟩, hK' _ hK⟩

set_option maxRecDepth 100000 in
set_option maxHeartbeats 4000000 in
theorem cleanestCopy_bad (s : Ers) (A : Option Addr) (n cap : Nat) (g : Nat → Nat → Int) (x : Int) (hn : n ≤ 1048576) (hc : copC n g x ≠ 0) (w : World) (hr : PrsIn w A n g) (hE : ErrEnv s w) :
    Calls Tryd.prog 24 #[.slice A n cap, .int .i64 x] w fun e w' => e = .returned (.tuple #[.agg #[.int .i64 0, .int .i64 0], copE s (copC n g x)]) ∧ Below w.heap.size w w' := by
  have k0 := (Below.refl w.heap.size w).alloc (Nat.le_refl _) (.cells #[.int .i64 0, .int .i64 0] 53)
  have b0 := CcBox.new w 0 0
  have hq := dustOf_bad s A n cap g x hn hc _ (hr.below k0 (Nat.le_refl _)) (hE.below k0 (Nat.le_refl _))
  obtain ⟨a, ha⟩ := copE_ne s hc
  rw [ha] at hq ⊢
  have Hq := Lib.hid hq; clear hq hc ha hr hE
  go_enter Tryd.func24, Tryd.ntmps24
  go_wp2_with fail
  refine Hq.out.mono ?_; rintro e w2 ⟨rfl, hb2⟩
  have k2 := k0.trans (hb2.mono k0.size)
  have b2 := b0.below hb2 b0.lt
  have a2 : (w2.alloc (.cells Tryd.zeroCells67 67)).heap[w2.heap.size]? = some (.cells Tryd.zeroCells67 67 (0, 0)) := heap_alloc_last w2 _
  have kk := below_setRow ((Below.refl w2.heap.size w2).alloc (Nat.le_refl _) (.cells Tryd.zeroCells67 67)) (b := w2.heap.size) (Nat.le_refl _) Tryd.zeroCells67
  have k3 := k2.trans (kk.mono k2.size)
  have b3 := b2.below kk b2.lt
  have c0 := b3.cell0
  have c1 := b3.cell1
  have f0 := b3.free 0
  have f1 := b3.free 1
  clear hb2 k2 b2 b0 k0 kk
  go_wp2_with (refine wpList_store_dz a2 dzSize rfl (.tmp 6) (.tmp 13) rfl rfl rfl ?_)
  have b4 := b3.set 0 0
  refine bodyPost_ret (v := .tuple #[.agg #[.int .i64 0, .int .i64 0], errV a]) (by simp [results, Tryd.results24, go_sem, b4.cell0, b4.cell1]) rfl ⟨rfl, (k3.setCell (by simp) _).setCell (by simp) _⟩

set_option maxRecDepth 100000 in
set_option maxHeartbeats 4000000 in
theorem cleanestCopy_ok (s : Ers) (A : Option Addr) (n cap : Nat) (g : Nat → Nat → Int) (x : Int) (hn : n ≤ 1048576) (hs : ∀ i, i < n → S16 (g i)) (hc : copC n g x = 0) (w : World) (hr : PrsIn w A n g) (hE : ErrEnv s w) :
    Calls Tryd.prog 24 #[.slice A n cap, .int .i64 x] w fun e w' => e = .returned (.tuple #[.agg #[.int .i64 (nrI (dC g n x) n : Nat), .int .i64 (dC g n x (nrI (dC g n x) n) : Nat)], .nilIface]) ∧ Below w.heap.size w w' := by
  have k0 := (Below.refl w.heap.size w).alloc (Nat.le_refl _) (.cells #[.int .i64 0, .int .i64 0] 53)
  have b0 := CcBox.new w 0 0
  have h8 := copC_pos hc
  have Hq := Lib.hid (dustOf_ok s A n cap g x hn hs hc _ (hr.below k0 (Nat.le_refl _)) (hE.below k0 (Nat.le_refl _)))
  have HRw := Lib.hid hr
  have Hnr := Lib.hid (fun M b N W h1 h2 => nearestPr_any A n cap M b N g (dF g n x) (dC g n x) (fun i => dusB (g i) (medF g n) x) (fun i => rfl) (fun i => rfl) h8.1 hn hs W h1 h2)
  have hfl := nrI_lt (dC g n x) h8.1 n (Nat.le_refl _)
  have Hdc := Lib.hid (fun M b N i (hi : i < n) W hW => show Calls Tryd.prog 33 #[.agg (dsV M b), .agg (arrV .i16 64 (g i))] W fun e w' => e = .returned (.int .i64 (dC g n x i : Nat)) ∧ Below W.heap.size W w' from dustCount_any M b N n g (dF g n x) i hi (hs i hi) (dusB (g i) (medF g n) x) rfl W hW)
  clear hc hr hE hs
  generalize dC g n x = c at *
  generalize dF g n x = F at *
  generalize medF g n = M at *
  generalize hNI : nrI c n = NI at *
  have hNIL := Lib.hid hNI; clear hNI
  have hfl' : (NI : Int) < n := by omega
  go_enter Tryd.func24, Tryd.ntmps24
  go_wp2_with fail
  refine Hq.out.mono ?_; rintro e w2 ⟨b, N, hN, rfl, hwb, hdm, hb2⟩
  have k2 := k0.trans (hb2.mono k0.size)
  have b2 := b0.below hb2 b0.lt
  have a2 : (w2.alloc (.cells Tryd.zeroCells67 67)).heap[w2.heap.size]? = some (.cells Tryd.zeroCells67 67 (0, 0)) := heap_alloc_last w2 _
  have kk := below_setRow ((Below.refl w2.heap.size w2).alloc (Nat.le_refl _) (.cells Tryd.zeroCells67 67)) (b := w2.heap.size) (Nat.le_refl _) (dsV M b)
  have k3 := k2.trans (kk.mono k2.size)
  have b3 := b2.below kk b2.lt
  have ds : HasDs ((w2.alloc (.cells Tryd.zeroCells67 67)).setRow w2.heap.size (dsV M b)) w2.heap.size M b := setRow_heap _ _ _ _ _ _ a2
  have dm := hdm.below kk hdm.lt
  clear hb2 k2 b2 b0 k0 kk hdm Hq
  go_wp2_with (first | (refine wpList_store_ds a2 dzSize rfl (.tmp 6) (.tmp 13) rfl rfl rfl ?_) | (refine wpList_load_ds ds rfl (.tmp 6) rfl rfl ?_))
  clear a2
  generalize ((w2.alloc (.cells Tryd.zeroCells67 67)).setRow w2.heap.size (dsV M b)) = W3 at *
  obtain ⟨Z, hZ⟩ : ∃ Z, Z = w2.heap.size := ⟨_, rfl⟩
  rw [← hZ] at ds ⊢
  clear hZ
  refine (Hnr.out M b N W3 (HRw.out.below k3 (Nat.le_refl _)) dm).mono ?_; rintro e w4 ⟨rfl, hb4⟩
  have k4 := k3.trans (hb4.mono k3.size)
  have ds4 := Lib.hid (ds.below hb4 ds.lt)
  have dm4 := Lib.hid (dm.below hb4 dm.lt)
  have b4 := b3.below hb4 b3.lt
  clear k3 b3 ds dm hb4
  go_wp2_with fail
  rcases HRw.out.below k4 (Nat.le_refl _) with h0 | ⟨b', o, rfl, hlb, hcc⟩
  · exfalso; omega
  have P0 := Lib.hid (hcc NI hfl); clear hcc
  have n0 := below_nonempty w4
  have hdc := Lib.hid (fun (y : WIn (Below w4.heap.size w4)) => Hdc.out M b N NI hfl y.w (dm4.out.below y.ok dm4.out.lt))
  refine wp_region_quiet_tail 8 (fun w' => ∃ x : WIn (Below w4.heap.size w4), w' = x.w) (by kernel_rfl) (by kernel_rfl) ⟨⟨_, below_drew1 _⟩, rfl⟩ ?_
  simp only [List.take_succ_cons, List.take_zero, List.drop_succ_cons, List.drop_zero]
  go_big_quiet_step (fail)
  refine wpQuiet_load_ds (fun W hW => by obtain ⟨y, rfl⟩ := hW; exact ds4.out.below y.ok ds4.out.lt) (.tmp 6) rfl rfl rfl ?_
  go_frame
  go_big_quiet_step (fail)
  go_big_quiet_step (fail)
  go_big_quiet_step (fail)
  refine wpQuiet_load_part (fun W hW => by obtain ⟨y, rfl⟩ := hW; exact P0.out.below y.ok hlb) 36 (.tmp 27) rfl rfl rfl Tryd.underlying36 sizePrint ?_
  go_frame
  go_big_quiet_step ((go_at_call 33; exact inCall _ (hdc.out _)))
  go_big_quiet_step (fail)
  refine wpQuiet_nil ?_
  rintro _ ⟨y, rfl⟩
  have b5 := b4.below y.ok b4.lt
  have k5 := k4.trans (y.ok.mono k4.size)
  have c0 := b5.cell0
  have c1 := b5.cell1
  have f0 := b5.free 0
  have f1 := b5.free 1
  have b6 := b5.set (NI : Int) (c NI : Nat)
  go_wp2_with fail
  refine bodyPost_ret (v := .tuple #[.agg #[.int .i64 (NI : Int), .int .i64 (c NI : Nat)], .nilIface]) (by simp [results, Tryd.results24, go_sem, b6.cell0, b6.cell1]) rfl ⟨rfl, (k5.setCell (by simp) _).setCell (by simp) _⟩

set_option maxRecDepth 100000 in
set_option maxHeartbeats 2000000 in
theorem CleanestCopy_ex (s : Ers) (A : Option Addr) (n cap : Nat) (x a b c : Int) (v : Value) (hv : IsCode s v c) (w : World) (hE : ErrEnv s w)
    (h : Calls Tryd.prog 24 #[.slice A n cap, .int .i64 x] w fun e w' => e = .returned (.tuple #[.agg #[.int .i64 a, .int .i64 b], v]) ∧ Below w.heap.size w w') :
    Calls Tryd.prog 12 #[.slice A n cap, .int .i64 x] w fun e w' => e = .returned (.tuple #[.int .i64 a, .int .i64 b, .int .i64 c]) ∧ Below w.heap.size w w' := by
  have H := Lib.hid h; clear h
  go_enter Tryd.func12, Tryd.ntmps12
  go_wp2_with fail
  refine H.out.mono ?_; rintro e w2 ⟨rfl, hb2⟩
  have q0 := CcBox.new w2 a b
  have k3 := hb2.alloc hb2.size (.cells #[.int .i64 a, .int .i64 b] 53)
  clear hb2 H
  go_wp2_with fail
  generalize w2.alloc (.cells #[.int .i64 a, .int .i64 b] 53) = W3 at *
  have HE := hE.below k3 (Nat.le_refl _)
  have cc0 := inCell q0.cell0
  have cc1 := inCell q0.cell1
  have hcd := Lib.hid (fun (x : WIn (Below W3.heap.size W3)) => codeOf_any hv x.w (HE.below x.ok (Nat.le_refl _)))
  refine wp_region_quietD (Below W3.heap.size W3) (by kernel_rfl) (by kernel_rfl) (below_drew1 _) ?_
  have n0 := below_nonempty W3
  repeat (go_big_quiet_step ((go_at_call 25; exact inCallS _ (hcd.out _))))
  refine wpQuiet_nil ?_
  rintro _ ⟨x, rfl⟩
  have k4 := k3.trans (x.ok.mono k3.size)
  go_wp2_with fail
  go_ret3
  exact ⟨rfl, k4⟩

theorem CleanestCopy_any (s : Ers) (A : Option Addr) (n cap : Nat) (g : Nat → Nat → Int) (x : Int) (hn : n ≤ 1048576) (hs : ∀ i, i < n → S16 (g i)) (w : World) (hr : PrsIn w A n g) (hE : ErrEnv s w) :
    Calls Tryd.prog 12 #[.slice A n cap, .int .i64 x] w fun e w' => e = .returned (.tuple (cleT n g x)) ∧ Below w.heap.size w w' := by
  unfold cleT
  by_cases hc : copC n g x = 0
  · rw [if_pos hc]
    exact CleanestCopy_ex s A n cap x _ _ 0 _ .ok w hE (cleanestCopy_ok s A n cap g x hn hs hc w hr hE)
  · rw [if_neg hc]
    exact CleanestCopy_ex s A n cap x 0 0 _ _ (copE_code s n g x) w hE (cleanestCopy_bad s A n cap g x hn hc w hr hE)
end Go.Proofs.YtnohpkhaimmdmaaDoor
