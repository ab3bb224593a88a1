/-
  The best of all copies: plain, and by the reference. Condition: at most 1048576 copies of 16-bit numbers.
-/
import Derived.Test.YtmibinfaafhgdaaGreatDoorDsX
import Derived.Test.YtmibinfaafhgdaaGreatDoorRsX
namespace Go.Proofs.YtmibinfaafhgdaaGreatDoor
open Go.RowKit

/-! ### PLAIN -/
/-- The cells that are left behind i copies. -/
def lfB (D : Nat → BitVec 64) : Nat → BitVec 64
  | 0 => 18446744073709551615#64
  | i + 1 => lfB D i &&& ~~~(lfB D i &&& ~~~D i)
/-- The cells that copy i gives. -/
def clB (D : Nat → BitVec 64) (i : Nat) : BitVec 64 := lfB D i &&& ~~~D i
/-- The best of the first i copies. -/
def bsF (m : Nat → Int) (g : Nat → Nat → Int) (D : Nat → BitVec 64) : Nat → Nat → Int
  | 0 => m
  | i + 1 => fun c => if (clB D i).getLsbD c = true then g i c else bsF m g D i c
/-- Cells of a mask laid over others, as far as k. -/
def pbF (f h : Nat → Int) (c : BitVec 64) (k j : Nat) : Int := if j < k ∧ c.getLsbD j = true then h j else f j
theorem pbF_0 (f h : Nat → Int) (c : BitVec 64) (j : Nat) : f j = pbF f h c 0 j := by simp [pbF]
theorem pbF_yes {f h : Nat → Int} {c : BitVec 64} {k : Nat} (hc : c.getLsbD k = true) (j : Nat) : upd (pbF f h c k) k (h k) j = pbF f h c (k + 1) j := by
  unfold upd pbF
  by_cases e : j = k
  · subst e; simp [hc]
  · have : (j < k + 1) = (j < k) := by simp; omega
    rw [if_neg e]; simp only [this]
theorem pbF_no {f h : Nat → Int} {c : BitVec 64} {k : Nat} (hc : c.getLsbD k = false) (j : Nat) : pbF f h c k j = pbF f h c (k + 1) j := by
  unfold pbF
  by_cases e : j = k
  · subst e; simp [hc]
  · have : (j < k + 1) = (j < k) := by simp; omega
    simp only [this]
theorem pbF_64 (m : Nat → Int) (g : Nat → Nat → Int) (D : Nat → BitVec 64) (i j : Nat) (hj : j < 64) : pbF (bsF m g D i) (g i) (clB D i) 64 j = bsF m g D (i + 1) j := by
  unfold pbF
  show _ = if (clB D i).getLsbD j = true then g i j else bsF m g D i j
  simp [hj]
/-- The dust of the copies. -/
def dBs (g : Nat → Nat → Int) (n : Nat) (x : Int) (i : Nat) : BitVec 64 := dusB (g i) (medF g n) x
/-- The cells, the mask that BestOfCopies returns. -/
def bcF (g : Nat → Nat → Int) (n : Nat) (x : Int) (k : Nat) : Int := if copC n g x = 0 then bsF (medF g n) g (dBs g n x) n k else 0
def bcL (g : Nat → Nat → Int) (n : Nat) (x : Int) : Int := if copC n g x = 0 then bvI (lfB (dBs g n x) n) else 0
theorem bcF_ok {g : Nat → Nat → Int} {n : Nat} {x : Int} (h : copC n g x = 0) : bcF g n x = bsF (medF g n) g (dBs g n x) n := by funext k; simp [bcF, h]
theorem bcF_no {g : Nat → Nat → Int} {n : Nat} {x : Int} (h : copC n g x ≠ 0) : bcF g n x = fun _ => 0 := by funext k; simp [bcF, h]
theorem bcL_ok {g : Nat → Nat → Int} {n : Nat} {x : Int} (h : copC n g x = 0) : bcL g n x = bvI (lfB (dBs g n x) n) := by simp [bcL, h]
theorem bcL_no {g : Nat → Nat → Int} {n : Nat} {x : Int} (h : copC n g x ≠ 0) : bcL g n x = 0 := by simp [bcL, h]
theorem resultsRowTmp2B {P : Program} {fn : Func} {p q q2 : Tmp} {ty : TypeId} (h : fn.results = #[.cell p ty, .tmp q, .tmp q2]) (tmps : Array Value) (w : World) (g : Nat) (t : TypeId) (cs : Array Value) (fr : Nat × Nat) (d : TypeDesc)
    (hp : tmps.getD p undef = .pointer (some ⟨g, 0, none⟩)) (hg : w.heap[g]? = some (.cells cs t fr))
    (hu : P.underlying ty = some d) (hd : (match d with | .struct _ | .array _ _ => true | _ => false) = true) (hi : (P.info? ty).map (·.size) = some cs.size) (v v2 : Value) (hq : tmps.getD q undef = v) (hq2 : tmps.getD q2 undef = v2) :
    (results fn tmps).run P w = .ok (.tuple #[.agg cs, v, v2]) w := by
  have hp' : tmps[p]?.getD undef = .pointer (some ⟨g, 0, none⟩) := by simpa using hp
  have hq' : tmps[q]?.getD undef = v := by simpa using hq
  have hq2' : tmps[q2]?.getD undef = v2 := by simpa using hq2
  simp [results, h, hp', hq', hq2', asAddr, run_loadVar_row w g t ty cs fr d hg hu hd hi]

/-! ### THE REFERENCE -/
set_option maxRecDepth 100000 in
set_option maxHeartbeats 8000000 in
theorem specBestOfCopies_any (A : Option Addr) (n cap : Nat) (g : Nat → Nat → Int) (x : Int) (hn : n ≤ 1048576) (hs : ∀ i, i < n → S16 (g i)) (w : World) (hr : PrsIn w A n g) :
    Calls Tryz.prog 10 #[.slice A n cap, .int .i64 x] w fun e w' => e = .returned (.tuple #[.agg (arrV .i16 64 (bcF g n x)), .int .u64 (bcL g n x), .int .i64 (copC n g x)]) ∧ Below w.heap.size w w' := by
  have a1 := HasArr.zero w 29 (b := w.heap.size) rfl
  have k0 := (Below.refl w.heap.size w).alloc (Nat.le_refl _) (.cells #[.int .i16 0, .int .i16 0, .int .i16 0, .int .i16 0, .int .i16 0, .int .i16 0, .int .i16 0, .int .i16 0, .int .i16 0, .int .i16 0, .int .i16 0, .int .i16 0, .int .i16 0, .int .i16 0, .int .i16 0, .int .i16 0, .int .i16 0, .int .i16 0, .int .i16 0, .int .i16 0, .int .i16 0, .int .i16 0, .int .i16 0, .int .i16 0, .int .i16 0, .int .i16 0, .int .i16 0, .int .i16 0, .int .i16 0, .int .i16 0, .int .i16 0, .int .i16 0, .int .i16 0, .int .i16 0, .int .i16 0, .int .i16 0, .int .i16 0, .int .i16 0, .int .i16 0, .int .i16 0, .int .i16 0, .int .i16 0, .int .i16 0, .int .i16 0, .int .i16 0, .int .i16 0, .int .i16 0, .int .i16 0, .int .i16 0, .int .i16 0, .int .i16 0, .int .i16 0, .int .i16 0, .int .i16 0, .int .i16 0, .int .i16 0, .int .i16 0, .int .i16 0, .int .i16 0, .int .i16 0, .int .i16 0, .int .i16 0, .int .i16 0, .int .i16 0] 29)
  have hq := l07Copies_any A n cap g x hn hs _ (hr.below k0 (Nat.le_refl _))
  have HRw := Lib.hid hr; clear hr
  by_cases hc : copC n g x = 0
  rotate_left
  · rw [bcF_no hc, bcL_no hc]
    have Hq := Lib.hid hq; clear hq hs
    generalize copC n g x = C at *
    go_enter Tryz.func10, Tryz.ntmps10
    go_wp2_with fail
    refine Hq.out.mono ?_; rintro e w2 ⟨rfl, hb2⟩
    have a2 := a1.below hb2 a1.lt
    have k2 := k0.trans (hb2.mono k0.size)
    clear hb2 a1 k0 Hq
    go_wp2_with (refine wpList_store_arr (g := fun _ => 0) a2 29 (.tmp 4) (.tmp 19) rfl rfl rfl (by rw [zeroArr16]; rfl) sizePrint ?_)
    refine bodyPost_ret (v := .tuple #[.agg (arrV .i16 64 fun _ => 0), .int .u64 0, .int .i64 C]) ?_ rfl ⟨rfl, below_setRow k2 (b := w.heap.size) (by omega) _⟩
    exact resultsRowTmp2B rfl _ _ _ _ _ _ _ rfl (a2.setRow .i16 fun _ => 0) Tryz.underlying29 rfl (by rw [arrV_size]; exact sizePrint) _ _ rfl rfl
  rw [bcF_ok hc, bcL_ok hc]
  rw [hc] at hq ⊢
  have h8 := copC_pos hc
  have hms := medF_s h8.1 hs
  have Hm := Lib.hid (fun W h => l07Median_any A n cap g h8.1 h8.2 hs W h)
  have Hd := Lib.hid (fun j (hj : j < n) b o q W h1 h2 => show Calls Tryz.prog 31 #[.pointer (some ⟨b, o, none⟩), .pointer (some ⟨q, 0, none⟩), .int .i64 x] W fun e w' => e = .returned (.int .u64 (bvI (dBs g n x j))) ∧ Below W.heap.size W w' from l07Dust_any b o q 0 (g j) (medF g n) x (hs j hj) hms W h1 h2)
  have Hq := Lib.hid hq; clear hq hs hc hms
  generalize dBs g n x = D at *
  generalize hMe : medF g n = M at *
  clear hMe
  go_enter Tryz.func10, Tryz.ntmps10
  go_wp2_with fail
  refine Hq.out.mono ?_; rintro e w2 ⟨rfl, hb2⟩
  have a2 := a1.below hb2 a1.lt
  have k2 := k0.trans (hb2.mono k0.size)
  have HR2 := Lib.hid (HRw.out.below k2 (Nat.le_refl _))
  clear hb2 a1 k0 Hq
  go_wp2_with fail
  refine (Hm.out _ HR2.out).mono ?_; rintro e w3 ⟨rfl, hb3⟩
  have a3 := a2.below hb3 a2.lt
  have k3 := k2.trans (hb3.mono k2.size)
  clear hb3 a2 k2 HR2
  have hlt3 := a3.lt
  have z0 := HasArr.zero w3 29 (b := w3.heap.size) rfl
  have z1 := z0.setRow .i16 M
  have kA := below_setRow ((Below.refl w3.heap.size w3).alloc (Nat.le_refl _) (.cells #[.int .i16 0, .int .i16 0, .int .i16 0, .int .i16 0, .int .i16 0, .int .i16 0, .int .i16 0, .int .i16 0, .int .i16 0, .int .i16 0, .int .i16 0, .int .i16 0, .int .i16 0, .int .i16 0, .int .i16 0, .int .i16 0, .int .i16 0, .int .i16 0, .int .i16 0, .int .i16 0, .int .i16 0, .int .i16 0, .int .i16 0, .int .i16 0, .int .i16 0, .int .i16 0, .int .i16 0, .int .i16 0, .int .i16 0, .int .i16 0, .int .i16 0, .int .i16 0, .int .i16 0, .int .i16 0, .int .i16 0, .int .i16 0, .int .i16 0, .int .i16 0, .int .i16 0, .int .i16 0, .int .i16 0, .int .i16 0, .int .i16 0, .int .i16 0, .int .i16 0, .int .i16 0, .int .i16 0, .int .i16 0, .int .i16 0, .int .i16 0, .int .i16 0, .int .i16 0, .int .i16 0, .int .i16 0, .int .i16 0, .int .i16 0, .int .i16 0, .int .i16 0, .int .i16 0, .int .i16 0, .int .i16 0, .int .i16 0, .int .i16 0, .int .i16 0] 29)) (b := w3.heap.size) (Nat.le_refl _) (arrV .i16 64 M)
  have a4 := a3.below kA a3.lt
  have k4 := k3.trans (kA.mono k3.size)
  have s4 : ((w3.alloc (.cells #[.int .i16 0, .int .i16 0, .int .i16 0, .int .i16 0, .int .i16 0, .int .i16 0, .int .i16 0, .int .i16 0, .int .i16 0, .int .i16 0, .int .i16 0, .int .i16 0, .int .i16 0, .int .i16 0, .int .i16 0, .int .i16 0, .int .i16 0, .int .i16 0, .int .i16 0, .int .i16 0, .int .i16 0, .int .i16 0, .int .i16 0, .int .i16 0, .int .i16 0, .int .i16 0, .int .i16 0, .int .i16 0, .int .i16 0, .int .i16 0, .int .i16 0, .int .i16 0, .int .i16 0, .int .i16 0, .int .i16 0, .int .i16 0, .int .i16 0, .int .i16 0, .int .i16 0, .int .i16 0, .int .i16 0, .int .i16 0, .int .i16 0, .int .i16 0, .int .i16 0, .int .i16 0, .int .i16 0, .int .i16 0, .int .i16 0, .int .i16 0, .int .i16 0, .int .i16 0, .int .i16 0, .int .i16 0, .int .i16 0, .int .i16 0, .int .i16 0, .int .i16 0, .int .i16 0, .int .i16 0, .int .i16 0, .int .i16 0, .int .i16 0, .int .i16 0] 29)).setRow w3.heap.size (arrV .i16 64 M)).heap.size = w3.heap.size + 1 := by simp
  have y0 := HasArr.zero ((w3.alloc (.cells #[.int .i16 0, .int .i16 0, .int .i16 0, .int .i16 0, .int .i16 0, .int .i16 0, .int .i16 0, .int .i16 0, .int .i16 0, .int .i16 0, .int .i16 0, .int .i16 0, .int .i16 0, .int .i16 0, .int .i16 0, .int .i16 0, .int .i16 0, .int .i16 0, .int .i16 0, .int .i16 0, .int .i16 0, .int .i16 0, .int .i16 0, .int .i16 0, .int .i16 0, .int .i16 0, .int .i16 0, .int .i16 0, .int .i16 0, .int .i16 0, .int .i16 0, .int .i16 0, .int .i16 0, .int .i16 0, .int .i16 0, .int .i16 0, .int .i16 0, .int .i16 0, .int .i16 0, .int .i16 0, .int .i16 0, .int .i16 0, .int .i16 0, .int .i16 0, .int .i16 0, .int .i16 0, .int .i16 0, .int .i16 0, .int .i16 0, .int .i16 0, .int .i16 0, .int .i16 0, .int .i16 0, .int .i16 0, .int .i16 0, .int .i16 0, .int .i16 0, .int .i16 0, .int .i16 0, .int .i16 0, .int .i16 0, .int .i16 0, .int .i16 0, .int .i16 0] 29)).setRow w3.heap.size (arrV .i16 64 M)) 29 (b := w3.heap.size + 1) s4.symm
  go_wp2_with (first | (refine wpList_store_arr z0 29 (.tmp 8) (.tmp 22) rfl rfl rfl rfl sizePrint ?_) | (refine wpList_load_arr z1 29 (.tmp 8) rfl rfl rfl Tryz.underlying29 sizePrint ?_) | (refine wpList_store_arr y0 29 (.tmp 9) (.tmp 23) rfl rfl rfl rfl sizePrint ?_))
  have y1 := y0.setRow .i16 M
  have z2 := (z1.alloc (.cells #[.int .i16 0, .int .i16 0, .int .i16 0, .int .i16 0, .int .i16 0, .int .i16 0, .int .i16 0, .int .i16 0, .int .i16 0, .int .i16 0, .int .i16 0, .int .i16 0, .int .i16 0, .int .i16 0, .int .i16 0, .int .i16 0, .int .i16 0, .int .i16 0, .int .i16 0, .int .i16 0, .int .i16 0, .int .i16 0, .int .i16 0, .int .i16 0, .int .i16 0, .int .i16 0, .int .i16 0, .int .i16 0, .int .i16 0, .int .i16 0, .int .i16 0, .int .i16 0, .int .i16 0, .int .i16 0, .int .i16 0, .int .i16 0, .int .i16 0, .int .i16 0, .int .i16 0, .int .i16 0, .int .i16 0, .int .i16 0, .int .i16 0, .int .i16 0, .int .i16 0, .int .i16 0, .int .i16 0, .int .i16 0, .int .i16 0, .int .i16 0, .int .i16 0, .int .i16 0, .int .i16 0, .int .i16 0, .int .i16 0, .int .i16 0, .int .i16 0, .int .i16 0, .int .i16 0, .int .i16 0, .int .i16 0, .int .i16 0, .int .i16 0, .int .i16 0] 29)).rowOther (b' := w3.heap.size + 1) (by omega) (arrV .i16 64 M)
  have a5 := (a4.alloc (.cells #[.int .i16 0, .int .i16 0, .int .i16 0, .int .i16 0, .int .i16 0, .int .i16 0, .int .i16 0, .int .i16 0, .int .i16 0, .int .i16 0, .int .i16 0, .int .i16 0, .int .i16 0, .int .i16 0, .int .i16 0, .int .i16 0, .int .i16 0, .int .i16 0, .int .i16 0, .int .i16 0, .int .i16 0, .int .i16 0, .int .i16 0, .int .i16 0, .int .i16 0, .int .i16 0, .int .i16 0, .int .i16 0, .int .i16 0, .int .i16 0, .int .i16 0, .int .i16 0, .int .i16 0, .int .i16 0, .int .i16 0, .int .i16 0, .int .i16 0, .int .i16 0, .int .i16 0, .int .i16 0, .int .i16 0, .int .i16 0, .int .i16 0, .int .i16 0, .int .i16 0, .int .i16 0, .int .i16 0, .int .i16 0, .int .i16 0, .int .i16 0, .int .i16 0, .int .i16 0, .int .i16 0, .int .i16 0, .int .i16 0, .int .i16 0, .int .i16 0, .int .i16 0, .int .i16 0, .int .i16 0, .int .i16 0, .int .i16 0, .int .i16 0, .int .i16 0] 29)).rowOther (b' := w3.heap.size + 1) (by omega) (arrV .i16 64 M)
  have k5 := below_setRow (k4.alloc k4.size (.cells #[.int .i16 0, .int .i16 0, .int .i16 0, .int .i16 0, .int .i16 0, .int .i16 0, .int .i16 0, .int .i16 0, .int .i16 0, .int .i16 0, .int .i16 0, .int .i16 0, .int .i16 0, .int .i16 0, .int .i16 0, .int .i16 0, .int .i16 0, .int .i16 0, .int .i16 0, .int .i16 0, .int .i16 0, .int .i16 0, .int .i16 0, .int .i16 0, .int .i16 0, .int .i16 0, .int .i16 0, .int .i16 0, .int .i16 0, .int .i16 0, .int .i16 0, .int .i16 0, .int .i16 0, .int .i16 0, .int .i16 0, .int .i16 0, .int .i16 0, .int .i16 0, .int .i16 0, .int .i16 0, .int .i16 0, .int .i16 0, .int .i16 0, .int .i16 0, .int .i16 0, .int .i16 0, .int .i16 0, .int .i16 0, .int .i16 0, .int .i16 0, .int .i16 0, .int .i16 0, .int .i16 0, .int .i16 0, .int .i16 0, .int .i16 0, .int .i16 0, .int .i16 0, .int .i16 0, .int .i16 0, .int .i16 0, .int .i16 0, .int .i16 0, .int .i16 0] 29)) (b := w3.heap.size + 1) (by have := k3.size; omega) (arrV .i16 64 M)
  clear z0 z1 kA a4 k4 s4 y0 a3
  have hk3 := k3.size
  generalize ((((w3.alloc (.cells #[.int .i16 0, .int .i16 0, .int .i16 0, .int .i16 0, .int .i16 0, .int .i16 0, .int .i16 0, .int .i16 0, .int .i16 0, .int .i16 0, .int .i16 0, .int .i16 0, .int .i16 0, .int .i16 0, .int .i16 0, .int .i16 0, .int .i16 0, .int .i16 0, .int .i16 0, .int .i16 0, .int .i16 0, .int .i16 0, .int .i16 0, .int .i16 0, .int .i16 0, .int .i16 0, .int .i16 0, .int .i16 0, .int .i16 0, .int .i16 0, .int .i16 0, .int .i16 0, .int .i16 0, .int .i16 0, .int .i16 0, .int .i16 0, .int .i16 0, .int .i16 0, .int .i16 0, .int .i16 0, .int .i16 0, .int .i16 0, .int .i16 0, .int .i16 0, .int .i16 0, .int .i16 0, .int .i16 0, .int .i16 0, .int .i16 0, .int .i16 0, .int .i16 0, .int .i16 0, .int .i16 0, .int .i16 0, .int .i16 0, .int .i16 0, .int .i16 0, .int .i16 0, .int .i16 0, .int .i16 0, .int .i16 0, .int .i16 0, .int .i16 0, .int .i16 0] 29)).setRow w3.heap.size (arrV .i16 64 M)).alloc (.cells #[.int .i16 0, .int .i16 0, .int .i16 0, .int .i16 0, .int .i16 0, .int .i16 0, .int .i16 0, .int .i16 0, .int .i16 0, .int .i16 0, .int .i16 0, .int .i16 0, .int .i16 0, .int .i16 0, .int .i16 0, .int .i16 0, .int .i16 0, .int .i16 0, .int .i16 0, .int .i16 0, .int .i16 0, .int .i16 0, .int .i16 0, .int .i16 0, .int .i16 0, .int .i16 0, .int .i16 0, .int .i16 0, .int .i16 0, .int .i16 0, .int .i16 0, .int .i16 0, .int .i16 0, .int .i16 0, .int .i16 0, .int .i16 0, .int .i16 0, .int .i16 0, .int .i16 0, .int .i16 0, .int .i16 0, .int .i16 0, .int .i16 0, .int .i16 0, .int .i16 0, .int .i16 0, .int .i16 0, .int .i16 0, .int .i16 0, .int .i16 0, .int .i16 0, .int .i16 0, .int .i16 0, .int .i16 0, .int .i16 0, .int .i16 0, .int .i16 0, .int .i16 0, .int .i16 0, .int .i16 0, .int .i16 0, .int .i16 0, .int .i16 0, .int .i16 0] 29)).setRow (w3.heap.size + 1) (arrV .i16 64 M)) = W5 at *
  obtain ⟨B, hB⟩ : ∃ B, B = w3.heap.size := ⟨_, rfl⟩
  rw [← hB] at y1 z2 hlt3 hk3 ⊢
  clear hB k3
  have h00 := zero_bv
  have h11 : bvI 1#64 = 1 := rfl
  go_loopw [10, 11] (fun lv iv wr => ∃ i : Nat, i ≤ n ∧ iv = .int .i64 (i : Int) ∧ lv = .int .u64 (bvI (lfB D i)) ∧ HasArr wr B 29 .i16 64 M ∧ HasArr wr (B + 1) 29 .i16 64 (bsF M g D i) ∧ HasArr wr w.heap.size 29 .i16 64 (fun _ => 0) ∧ Below w.heap.size w wr) (fun _ iv _ => n - (intOf iv).toNat)
  case atStart => exact ⟨0, by omega, rfl, rfl, z2, y1, a5, k5⟩
  case round =>
    clear z2 y1 a5 k5
    obtain ⟨i, hin, rfl, rfl, hz, hy, ha, hB⟩ := hrel
    by_cases hlt : i < n
    rotate_left
    · obtain rfl : i = n := by omega
      have KB := Lib.hid hB; clear hB
      go_wp2_with (first | (refine wpList_load_arr hy 29 (.tmp 9) rfl rfl rfl Tryz.underlying29 sizePrint ?_) | (refine wpList_store_arr ha 29 (.tmp 4) (.tmp 58) rfl rfl rfl rfl sizePrint ?_))
      refine bodyPost_ret (v := .tuple #[.agg (arrV .i16 64 (bsF M g D i)), .int .u64 (bvI (lfB D i)), .int .i64 0]) ?_ rfl ⟨rfl, below_setRow KB.out (b := w.heap.size) (by omega) _⟩
      exact resultsRowTmp2B rfl _ _ _ _ _ _ _ rfl (ha.setRow .i16 (bsF M g D i)) Tryz.underlying29 rfl (by rw [arrV_size]; exact sizePrint) _ _ rfl rfl
    have hlt' : (i : Int) < n := by omega
    rcases HRw.out.below hB (Nat.le_refl _) with h0 | ⟨b, o, rfl, hlb, hcc⟩
    · exfalso; omega
    have p0 := hcc i hlt
    have hd := Lib.hid (Hd.out i hlt b (o + i * 64) B wr p0 (PartA.of_arr hz))
    have hbw : b < w.heap.size := by
      rcases HRw.out with h0 | ⟨b2, o2, e2, hl2, _⟩
      · exfalso; omega
      · injection e2 with e2; injection e2 with e2; omega
    have P0 := Lib.hid p0; clear hcc p0
    have HZ := Lib.hid hz; have HY := Lib.hid hy; have HA := Lib.hid ha; have HB := Lib.hid hB; clear hz hy ha hB
    have hcl : Hid (lfB D i &&& ~~~D i = clB D i) := Lib.hid rfl
    have hlf : Hid (lfB D i &&& ~~~clB D i = lfB D (i + 1)) := Lib.hid rfl
    have hp64 := Lib.hid (fun j hj => pbF_64 M g D i j hj)
    generalize hLF : lfB D i = LF at *
    generalize hCL : clB D i = CL at *
    generalize hBS : bsF M g D i = BS at *
    go_wp2_with fail
    refine hd.out.mono ?_; rintro e w6 ⟨rfl, hb6⟩
    have z6 := HZ.out.below hb6 HZ.out.lt
    have y6 := (HY.out.below hb6 HY.out.lt).congr (g := pbF BS (g i) CL 0) fun j _ => pbF_0 _ _ _ j
    have a6 := HA.out.below hb6 HA.out.lt
    have k6 := HB.out.trans (hb6.mono HB.out.size)
    have p6 := P0.out.below hb6 hlb
    clear hb6 hd HZ HY HA HB P0
    go_wp2_with (refine wpList_yield rfl (run_andNot_bv (a := LF) (b := D i) rfl rfl rfl) ?_; rw [hcl.out])
    go_loopw [13] (fun kv wr => ∃ k : Nat, k ≤ 64 ∧ kv = .int .i64 (k : Int) ∧ HasArr wr B 29 .i16 64 M ∧ HasArr wr (B + 1) 29 .i16 64 (pbF BS (g i) CL k) ∧ HasArr wr w.heap.size 29 .i16 64 (fun _ => 0) ∧ PartA wr b (o + i * 64) .i16 64 (g i) ∧ Below w.heap.size w wr) (fun kv _ => 64 - (intOf kv).toNat)
    case atStart => exact ⟨0, by omega, rfl, z6, y6, a6, p6, k6⟩
    case round =>
      clear z6 y6 a6 p6 k6
      obtain ⟨k, hk, rfl, hz, hy, ha, hp, hB⟩ := hrel
      by_cases hk64 : k < 64
      rotate_left
      · obtain rfl : k = 64 := by omega
        have hy2 := Lib.hid (hy.congr fun j hj => hp64.out j hj)
        have HZ := Lib.hid hz; have HA := Lib.hid ha; have HB := Lib.hid hB; clear hz hy ha hB hp
        go_wp2_with (refine wpList_yield rfl (run_andNot_bv (a := LF) (b := CL) rfl rfl rfl) ?_; rw [hlf.out])
        go_roundw
        case rel => exact ⟨i + 1, by omega, by go_num, rfl, HZ.out, hy2.out, HA.out, HB.out⟩
        case measure => simp [intOf]; omega
      have hk64' : (k : Int) < 64 := by omega
      have hwi : IntKind.u64.wrap (k : Int) = (k : Int) := by rw [IntKind.wrap_u64]; omega
      have hlow := low_bit (CL >>> k)
      rw [BitVec.getLsbD_ushiftRight, Nat.add_zero] at hlow
      have cp := hp k hk64
      have cy := hy.cell hk64
      have fy := hy.free k
      rcases hbi : CL.getLsbD k with _ | _
      · rw [hbi] at hlow
        simp only [Bool.false_eq_true, if_false] at hlow
        have hy2 := Lib.hid (hy.congr fun j _ => pbF_no (h := g i) hbi j)
        have HZ := Lib.hid hz; have HA := Lib.hid ha; have HB := Lib.hid hB; have HP := Lib.hid hp; clear hz hy ha hB hp cp cy fy
        go_wp2_with (first
          | (refine wpList_yield rfl (run_shr_bv (κ := .u64) (a := CL) (k := k) rfl rfl rfl hk64) ?_)
          | (refine wpList_yield rfl (run_and_bv (a := CL >>> k) (b := 1#64) rfl rfl rfl) ?_; rw [hlow]))
        go_roundw
        case rel => exact ⟨k + 1, by omega, by go_num, HZ.out, hy2.out, HA.out, HP.out, HB.out⟩
        case measure => simp [intOf]; omega
      · rw [hbi] at hlow
        simp only [if_true] at hlow
        have hy2 := Lib.hid ((hy.set k (g i k)).congr fun j _ => pbF_yes (f := BS) (h := g i) hbi j)
        have hz2 := Lib.hid (hz.other (a := ⟨B + 1, k, none⟩) (by simp) (.int .i16 (g i k)))
        have ha2 := Lib.hid (ha.other (a := ⟨B + 1, k, none⟩) (by show w.heap.size ≠ B + 1; omega) (.int .i16 (g i k)))
        have hB2 := Lib.hid (hB.setCell (p := ⟨B + 1, k, none⟩) (by show _ ≤ B + 1; omega) (.int .i16 (g i k)))
        have hp2 := Lib.hid (hp.below ((Below.refl (b + 1) wr).setCell (p := ⟨B + 1, k, none⟩) (by show _ ≤ B + 1; omega) (.int .i16 (g i k))) (Nat.lt_succ_self b))
        clear hz hy ha hB hp
        generalize g i k = GV at *
        go_wp2_with (first
          | (refine wpList_yield rfl (run_shr_bv (κ := .u64) (a := CL) (k := k) rfl rfl rfl hk64) ?_)
          | (refine wpList_yield rfl (run_and_bv (a := CL >>> k) (b := 1#64) rfl rfl rfl) ?_; rw [hlow]))
        go_roundw
        case rel => exact ⟨k + 1, by omega, by go_num, hz2.out, hy2.out, ha2.out, hp2.out, hB2.out⟩
        case measure => simp [intOf]; omega
end Go.Proofs.YtmibinfaafhgdaaGreatDoor
