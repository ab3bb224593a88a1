/-
  Frames picked, by the reference. Condition: at most 1048576 frames of int16 numbers, at most 1048576 indices.
-/
import Derived.Test.YtkmpfbjenddhjaaDoorSwapS
import Derived.Test.YtkmpfbjenddhjaaDoorLitPr
import Derived.Test.YtkmpfbjenddhjaaDoorMkPr
namespace Go.Proofs.YtkmpfbjenddhjaaDoor
open Go.RowKit

/-- The code of a sheet and a list of frames. -/
def picC (X : Int) (n : Nat) (g : Nat → Nat → Int) (m : Nat) (xs : Nat → Int) : Int := if frmC X n g m xs = 0 then (if 12 < m then 3 else 0) else frmC X n g m xs
/-- The frames that were asked. -/
def picG (g : Nat → Nat → Int) (xs : Nat → Int) : Nat → Nat → Int := fun j => g (xs j).toNat
theorem frmC_no {X : Int} {n m j : Nat} {g : Nat → Nat → Int} {xs : Nat → Int} (h : shtB X n g = true) (hj : j < m) (hx : inB (xs j) 0 ((n : Int) - 1) = false) : frmC X n g m xs = 2 := by
  have hno : ¬ ((List.range m).all fun j => inB (xs j) 0 ((n : Int) - 1)) = true := fun h => by
    have := List.all_eq_true.1 h j (List.mem_range.2 hj)
    rw [hx] at this; cases this
  simp only [frmC, h, if_true, if_neg hno]
theorem frmC_yes {X : Int} {n m : Nat} {g : Nat → Nat → Int} {xs : Nat → Int} (h : shtB X n g = true) (ha : ∀ i, i < m → inB (xs i) 0 ((n : Int) - 1) = true) : frmC X n g m xs = 0 := by
  have hyes : ((List.range m).all fun k => inB (xs k) 0 ((n : Int) - 1)) = true := List.all_eq_true.2 fun k hk => ha k (List.mem_range.1 hk)
  simp only [frmC, h, if_true, if_pos hyes]
theorem picC_no {X : Int} {n m : Nat} {g : Nat → Nat → Int} {xs : Nat → Int} {c : Int} (h : frmC X n g m xs = c) (hc : c ≠ 0) : picC X n g m xs = c := by
  unfold picC; rw [h, if_neg hc]
theorem picC_lim {X : Int} {n m : Nat} {g : Nat → Nat → Int} {xs : Nat → Int} (h : frmC X n g m xs = 0) (hm : 12 < m) : picC X n g m xs = 3 := by
  unfold picC; rw [h, if_pos rfl, if_pos hm]
theorem picC_ok {X : Int} {n m : Nat} {g : Nat → Nat → Int} {xs : Nat → Int} (h : frmC X n g m xs = 0) (hm : ¬ 12 < m) : picC X n g m xs = 0 := by
  unfold picC; rw [h, if_pos rfl, if_neg hm]
/-- What picking hands back. -/
def PicOut (L : Nat) (X : Int) (n : Nat) (g : Nat → Nat → Int) (m : Nat) (xs : Nat → Int) (w : World) (e : Ending) (w' : World) : Prop :=
  ShtOut L (if picC X n g m xs = 0 then X else 0) (if picC X n g m xs = 0 then m else 0) (picG g xs) (picC X n g m xs) w e w'
theorem PicOut.of_ok {L : Nat} {X : Int} {n : Nat} {g : Nat → Nat → Int} {m : Nat} {xs : Nat → Int} {w : World} {e : Ending} {w' : World} (hc : picC X n g m xs = 0) (h : ShtOut L X m (picG g xs) 0 w e w') : PicOut L X n g m xs w e w' := by
  unfold PicOut; rw [hc]; exact h
theorem PicOut.of_no {L : Nat} {X : Int} {n : Nat} {g : Nat → Nat → Int} {m : Nat} {xs : Nat → Int} {w : World} {e : Ending} {w' : World} {c : Int} (hc : picC X n g m xs = c) (h0 : c ≠ 0) (h : ShtOut L 0 0 (picG g xs) c w e w') : PicOut L X n g m xs w e w' := by
  unfold PicOut; rw [hc, if_neg h0, if_neg h0]; exact h
theorem prL_snoc (G : Nat → Nat → Int) (h : Nat → Nat → Int) (j : Nat) (e : h 0 = G j) : prL (appF G h j) (j + 1) = prL G (j + 1) :=
  prL_congr fun i hi k _ => by
    unfold appF
    by_cases h1 : i < j
    · rw [if_pos h1]
    · rw [if_neg h1, show i - j = 0 by omega, e, show i = j by omega]

theorem yields_load_part {P : Program} {ops : Array Oper} {S : World → Prop} {op : Oper} {a : Act} {b o : Nat} {κ : IntKind} {n m : Nat} {f : Nat → Int} {V : Array Value} {e : TypeId} (h : ∀ W, S W → PartA W b o κ n f) (hV : arrV κ n f = V) (ty : TypeId) (x : Operand)
    (hgd : op.guard = none) (ho : op.op = .load ty x) (hx : a.eval x = .pointer (some ⟨b, o, none⟩)) (hu : P.underlying ty = some (.array m e)) (hi : (P.info? ty).map (·.size) = some n) : YieldsIf P ops S op (.agg V) a :=
  .inl ⟨by simp [Region.wanted, hgd], fun W hW => by subst hV; exact run_load_part (h W hW) ty x ho hx hu hi⟩

end Go.Proofs.YtkmpfbjenddhjaaDoor


namespace Go.Proofs.YtkmpfbjenddhjaaDoor
open Go.RowKit

set_option maxRecDepth 100000 in
set_option maxHeartbeats 2000000 in
theorem codedSheet_any {s : Ers} {v : Value} {c : Int} (X : Int) (A : Option Addr) (n cap : Nat) (h : IsCode s v c) (w : World) (hE : ErrEnv s w) :
    Calls Tryd.prog 31 #[.agg #[.int .i8 X, .slice A n cap], v] w fun e w' => e = .returned (.tuple #[.agg #[.int .i8 X, .slice A n cap], .int .i64 c]) ∧ Below w.heap.size w w' := by
  have k0 := ((Below.refl w.heap.size w).alloc (Nat.le_refl _) (.cells #[.int .i8 X, .slice A n cap] 29)).alloc (by simp) (.cells #[.int .i8 0, .slice none 0 0] 29)
  have HE := Lib.hid hE; clear hE
  go_enter Tryd.func31, Tryd.ntmps31
  go_wp2_with fail
  go_region_with (go_at_call 41; refine (codeOf_any h _ (HE.out.below (B := w.heap.size) (by (repeat (first | exact Below.refl _ _ | assumption | apply Below.drew | apply below_drewL | apply below_drewP | (refine Below.alloc ?_ (by first | omega | (simp; done) | (simp; omega)) _) | (refine Below.setCell ?_ (by first | omega | (simp; done) | (simp; omega)) _)))) (Nat.le_refl _))).mono ?_; rintro e w9 ⟨rfl, rfl⟩)
  all_goals
    go_wp2_with fail
    refine bodyPost_ret (v := .tuple #[.agg #[.int .i8 X, .slice A n cap], .int .i64 c]) (by simp [results, Tryd.results31, go_sem]) rfl ⟨rfl, ?_⟩
    (repeat (first | exact Below.refl _ _ | assumption | apply Below.drew | apply below_drewL | apply below_drewP | (refine Below.alloc ?_ (by first | omega | (simp; done) | (simp; omega)) _) | (refine Below.setCell ?_ (by first | omega | (simp; done) | (simp; omega)) _)))

set_option maxRecDepth 100000 in
set_option maxHeartbeats 2000000 in
theorem withFrames_any (X : Int) (A A' : Option Addr) (n cap n' cap' : Nat) (w : World) :
    Calls Tryd.prog 53 #[.agg #[.int .i8 X, .slice A n cap], .slice A' n' cap'] w fun e w' => e = .returned (.agg #[.int .i8 X, .slice A' n' cap']) ∧ Below w.heap.size w w' := by
  go_enter Tryd.func53, Tryd.ntmps53
  go_wp2_with fail
  refine bodyPost_ret (v := .agg #[.int .i8 X, .slice A' n' cap']) (by simp [results, Tryd.results53, go_sem]) rfl ⟨rfl, ?_⟩
  (repeat (first | exact Below.refl _ _ | assumption | apply Below.drew | apply below_drewL | apply below_drewP | (refine Below.alloc ?_ (by first | omega | (simp; done) | (simp; omega)) _) | (refine Below.setCell ?_ (by first | omega | (simp; done) | (simp; omega)) _)))

set_option maxRecDepth 100000 in
set_option maxHeartbeats 4000000 in
theorem picked_any (A : Option Addr) (n cap : Nat) (g : Nat → Nat → Int) (B : Option Addr) (m c : Nat) (xs : Nat → Int) (hm : m ≤ 12) (w : World) (hr : PrsIn w A n g) (hi : IntsIn w B m xs) (ha : ∀ i, i < m → inB (xs i) 0 ((n : Int) - 1) = true) :
    Calls Tryd.prog 64 #[.slice A n cap, .slice B m c] w fun e w' => ∃ q cq, e = .returned (.slice (some ⟨q, 0, none⟩) m cq) ∧ w.heap.size ≤ q ∧ PrRow w' q m (picG g xs) ∧ Below w.heap.size w w' := by
  obtain ⟨i0, hi0, hz0, hz1, hz2⟩ := info_parts prInfo
  have hmk := fun W => run_make_rowPr (P := Tryd.prog) 80 58 i0 _ Tryd.underlying80 hi0 hz0 .i64 .i64 0 m (Nat.zero_le _) (by rw [hz2]; omega) (by omega) W
  rw [hz1] at hmk
  simp only [Value.cells] at hmk
  rw [zeroArr16] at hmk
  clear hi0 hz0 hz1 hz2
  have o0 := World.ownsRow_made (base := w.heap.size) (e := 58) (size := 64) w (madeCells (arrV .i16 64 fun _ => 0) (m * 64)) m (Nat.le_refl _) (by unfold maxLen; omega) (size_madeCells _ _)
  have hB0 := (Below.refl w.heap.size w).alloc (Nat.le_refl _) (.cells (madeCells (arrV .i16 64 fun _ => 0) (m * 64)) 58)
  generalize madeCells (arrV .i16 64 fun _ => 0) (m * 64) = Z at *
  have hmk : ∀ W : World, (Instr.makeSlice 80 (.int .i64 0) (.int .i64 (m : Int))).run Tryd.prog W = .ok (.slice (some ⟨W.heap.size, 0, none⟩) 0 m) (W.alloc (.cells Z 58)) := hmk
  have O0 := Lib.hid (And.intro o0 hB0); clear o0 hB0
  have HA := Lib.hid ha; clear ha
  go_enter Tryd.func64, Tryd.ntmps64
  go_wp2_with fail
  go_loopw [5, 13] (fun lv jv wr => ∃ (k q cq : Nat), k ≤ m ∧ jv = .int .i64 (k : Int) ∧ lv = .slice (some ⟨q, 0, none⟩) k cq ∧ wr.ownsRow w.heap.size 58 64 (.slice (some ⟨q, 0, none⟩) k cq) k (prL (picG g xs) k) ∧ Below w.heap.size w wr) (fun _ jv _ => m - (intOf jv).toNat)
  case atStart => exact ⟨0, _, _, Nat.zero_le _, rfl, rfl, by simpa [prL_nil] using O0.out.1, O0.out.2⟩
  case round =>
    clear O0 hmk
    obtain ⟨k, q, cq, hk, rfl, rfl, ho, hB2⟩ := hrel
    by_cases hkm : k < m
    · rcases hi.below hB2 (Nat.le_refl _) with h0 | ⟨b, o, rfl, hlt, hc⟩
      · exfalso; omega
      rcases hr.below hB2 (Nat.le_refl _) with h0 | ⟨bp, op, rfl, hltp, hcp⟩
      · have := inB_true.1 (HA.out k hkm); exfalso; omega
      have cj := hc k hkm
      have hin := inB_true.1 (HA.out k hkm)
      obtain ⟨p, hp⟩ : ∃ p : Nat, xs k = (p : Int) := ⟨(xs k).toNat, by omega⟩
      have hpn : p < n := by omega
      have hpn' : (p : Int) < n := by omega
      have hG : Hid (picG g xs k = g p) := Lib.hid (by unfold picG; rw [hp, Int.toNat_natCast])
      rw [hp] at cj
      have pk := hcp p hpn
      have hk' : (k : Int) < m := by omega
      have ho5 := Lib.hid (ho.alloc (.cells (arrV .i16 64 (g p)) 58))
      have hx5 := Lib.hid (lit_at wr (g p))
      have hS5 := Lib.hid (hB2.alloc hB2.size (.cells (arrV .i16 64 (g p)) 58))
      have hn5 : Hid (k + 1 ≤ 2097152) := Lib.hid (by omega)
      clear hc hcp hp hin ho hB2 hi hr
      go_wp2_with (first | (refine wpList_load_part pk 58 (.tmp 20) rfl rfl rfl Tryd.underlying58 sizePrint ?_) | (refine wpList_lit_pr (.tmp 21) rfl rfl Tryd.underlying80 rfl rfl ?_) | (at_builtin; refine wpList_append_prs (c := 1) rfl (.tmp 17) (.tmp 22) rfl Tryd.underlying80 rfl ho5.out (.inr (by omega)) rfl hx5.out hn5.out hS5.out.size ?_; intro gg cq6 w6 hown6 hbl6 hgr6))
      have hS6 := hS5.out.trans hbl6
      rw [prL_snoc _ _ _ hG.out.symm] at hown6
      clear hbl6 hgr6
      go_roundw
      case rel => exact ⟨k + 1, gg, cq6, by omega, by go_num, rfl, hown6, hS6⟩
      case measure => simp [intOf]; omega
    · obtain rfl : k = m := by omega
      have hown := own_row ho
      clear ho
      go_wp2_with fail
      go_ret
      exact ⟨_, _, rfl, hown.1, hown.2, hB2⟩
end Go.Proofs.YtkmpfbjenddhjaaDoor

namespace Go.Proofs.YtkmpfbjenddhjaaDoor
open Go.RowKit

theorem frmC_cases (X : Int) (n m : Nat) (g : Nat → Nat → Int) (xs : Nat → Int) : (frmC X n g m xs = 0 ∧ shtB X n g = true ∧ ∀ i, i < m → inB (xs i) 0 ((n : Int) - 1) = true) ∨ frmC X n g m xs = 1 ∨ frmC X n g m xs = 2 := by
  rcases h : shtB X n g with _ | _
  · exact .inr (.inl (frmC_bad h))
  · by_cases ha : ((List.range m).all fun j => inB (xs j) 0 ((n : Int) - 1)) = true
    · exact .inl ⟨by simp only [frmC, h, if_true, if_pos ha], rfl, fun i hi => List.all_eq_true.1 ha i (List.mem_range.2 hi)⟩
    · exact .inr (.inr (by simp only [frmC, h, if_true, if_neg ha]))
/-- A sheet of a call's own, with an error. -/
def ShtErr (s : Ers) (L : Nat) (X : Int) (n : Nat) (g : Nat → Nat → Int) (c : Int) (w : World) (e : Ending) (w' : World) : Prop :=
  ∃ A cap v, e = .returned (.tuple #[.agg #[.int .i8 X, .slice A n cap], v]) ∧ IsCode s v c ∧ Mine w' L w'.heap.size 58 64 (.slice A n cap) n (prF g) ∧ Below w.heap.size w w'

set_option maxRecDepth 100000 in
set_option maxHeartbeats 4000000 in
theorem pickFrames_bad (s : Ers) (X : Int) (A : Option Addr) (n cap : Nat) (g : Nat → Nat → Int) (B : Option Addr) (m c : Nat) (xs : Nat → Int) (hn : n ≤ 1048576) (hm : m ≤ 1048576) (hX : -128 ≤ X ∧ X ≤ 127) (w : World) (hr : PrsIn w A n g) (hi : IntsIn w B m xs) (hE : ErrEnv s w)
    (E : Addr) (cc : Int) (hF : frmC X n g m xs = cc) (hR : frmR s A n cap cc = #[.slice none 0 0, errV E]) (hI : IsCode s (errV E) cc) :
    Calls Tryd.prog 49 #[.agg #[.int .i8 X, .slice A n cap], .slice B m c] w (ShtErr s w.heap.size 0 0 (picG g xs) cc w) := by
  have k0 := ((Below.refl w.heap.size w).alloc (Nat.le_refl _) (.cells #[.int .i8 X, .slice A n cap] 29)).alloc (by simp) (.cells #[.int .i8 0, .slice none 0 0] 29)
  have r0 : ((w.alloc (.cells #[.int .i8 X, .slice A n cap] 29)).alloc (.cells #[.int .i8 0, .slice none 0 0] 29)).cell? ⟨w.heap.size + 1, 0, none⟩ = some (.int .i8 0) := by simp
  have r1 : ((w.alloc (.cells #[.int .i8 X, .slice A n cap] 29)).alloc (.cells #[.int .i8 0, .slice none 0 0] 29)).cell? ⟨w.heap.size + 1, 1, none⟩ = some (.slice none 0 0) := by simp
  have f0 : ((w.alloc (.cells #[.int .i8 X, .slice A n cap] 29)).alloc (.cells #[.int .i8 0, .slice none 0 0] 29)).frozen? ⟨w.heap.size + 1, 0, none⟩ = false := by simp
  have f1 : ((w.alloc (.cells #[.int .i8 X, .slice A n cap] 29)).alloc (.cells #[.int .i8 0, .slice none 0 0] 29)).frozen? ⟨w.heap.size + 1, 1, none⟩ = false := by simp
  have hsz : w.heap.size + 1 < ((w.alloc (.cells #[.int .i8 X, .slice A n cap] 29)).alloc (.cells #[.int .i8 0, .slice none 0 0] 29)).heap.size := by simp
  have hq := framesOf_any s X A n cap g hn hX B m c xs hm _ (hr.below k0 (Nat.le_refl _)) (hi.below k0 (Nat.le_refl _)) (hE.below k0 (Nat.le_refl _))
  rw [hF, hR] at hq
  have Hq := Lib.hid hq; clear hq hr hi hE hF hR
  have G4 := Lib.hid (And.intro r0 (And.intro r1 (And.intro f0 (And.intro f1 hsz)))); clear r0 r1 f0 f1 hsz
  go_enter Tryd.func49, Tryd.ntmps49
  go_wp2_with fail
  generalize ((w.alloc (.cells #[.int .i8 X, .slice A n cap] 29)).alloc (.cells #[.int .i8 0, .slice none 0 0] 29)) = W0 at *
  refine Hq.out.mono ?_; rintro e w1 ⟨rfl, hb1⟩
  have s0 := below_cellOf hb1 G4.out.1 (Nat.le_refl _)
  have s1 := below_cellOf hb1 G4.out.2.1 (Nat.le_refl _)
  have u0 := (hb1.frozen (p := ⟨w.heap.size + 1, 0, none⟩) G4.out.2.2.2.2).trans G4.out.2.2.1
  have u1 := (hb1.frozen (p := ⟨w.heap.size + 1, 1, none⟩) G4.out.2.2.2.2).trans G4.out.2.2.2.1
  have KE := Lib.hid (k0.trans (hb1.mono k0.size))
  clear hb1 G4 k0 Hq
  go_wp2_with fail
  refine bodyPost_ret (v := .tuple #[.agg #[.int .i8 0, .slice none 0 0], errV E]) (by simp [results, Tryd.results49, go_sem, s0, s1]) rfl ⟨_, _, _, rfl, hI, .nil _ _ _ _ _ _ _ _, ?_⟩
  exact (KE.out.setCell (by show _ ≤ w.heap.size + 1; omega) _).setCell (by show _ ≤ w.heap.size + 1; omega) _

set_option maxRecDepth 100000 in
set_option maxHeartbeats 4000000 in
theorem pickFrames_ok (s : Ers) (X : Int) (A : Option Addr) (n cap : Nat) (g : Nat → Nat → Int) (B : Option Addr) (m c : Nat) (xs : Nat → Int) (hn : n ≤ 1048576) (hm : m ≤ 1048576) (hX : -128 ≤ X ∧ X ≤ 127) (w : World) (hr : PrsIn w A n g) (hi : IntsIn w B m xs) (hE : ErrEnv s w)
    (hF : frmC X n g m xs = 0) (ha : ∀ i, i < m → inB (xs i) 0 ((n : Int) - 1) = true) :
    Calls Tryd.prog 49 #[.agg #[.int .i8 X, .slice A n cap], .slice B m c] w (if 12 < m then ShtErr s w.heap.size 0 0 (picG g xs) 3 w else ShtErr s w.heap.size X m (picG g xs) 0 w) := by
  have k0 := ((Below.refl w.heap.size w).alloc (Nat.le_refl _) (.cells #[.int .i8 X, .slice A n cap] 29)).alloc (by simp) (.cells #[.int .i8 0, .slice none 0 0] 29)
  have d0 : ((w.alloc (.cells #[.int .i8 X, .slice A n cap] 29)).alloc (.cells #[.int .i8 0, .slice none 0 0] 29)).cell? ⟨w.heap.size, 0, none⟩ = some (.int .i8 X) := by simp
  have d1 : ((w.alloc (.cells #[.int .i8 X, .slice A n cap] 29)).alloc (.cells #[.int .i8 0, .slice none 0 0] 29)).cell? ⟨w.heap.size, 1, none⟩ = some (.slice A n cap) := by simp
  have r0 : ((w.alloc (.cells #[.int .i8 X, .slice A n cap] 29)).alloc (.cells #[.int .i8 0, .slice none 0 0] 29)).cell? ⟨w.heap.size + 1, 0, none⟩ = some (.int .i8 0) := by simp
  have r1 : ((w.alloc (.cells #[.int .i8 X, .slice A n cap] 29)).alloc (.cells #[.int .i8 0, .slice none 0 0] 29)).cell? ⟨w.heap.size + 1, 1, none⟩ = some (.slice none 0 0) := by simp
  have f0 : ((w.alloc (.cells #[.int .i8 X, .slice A n cap] 29)).alloc (.cells #[.int .i8 0, .slice none 0 0] 29)).frozen? ⟨w.heap.size + 1, 0, none⟩ = false := by simp
  have f1 : ((w.alloc (.cells #[.int .i8 X, .slice A n cap] 29)).alloc (.cells #[.int .i8 0, .slice none 0 0] 29)).frozen? ⟨w.heap.size + 1, 1, none⟩ = false := by simp
  have hsz : w.heap.size + 1 < ((w.alloc (.cells #[.int .i8 X, .slice A n cap] 29)).alloc (.cells #[.int .i8 0, .slice none 0 0] 29)).heap.size := by simp
  have hq := framesOf_any s X A n cap g hn hX B m c xs hm _ (hr.below k0 (Nat.le_refl _)) (hi.below k0 (Nat.le_refl _)) (hE.below k0 (Nat.le_refl _))
  rw [hF, frmR_0] at hq
  have hg0 : 3 < w.heap.size := World.block_lt_of_cell? w _ hE.c_elimit
  have Hq := Lib.hid hq; clear hq hF
  have HA := Lib.hid ha; clear ha
  have HP := Lib.hid (hr.below k0 (Nat.le_refl _))
  have HI := Lib.hid (hi.below k0 (Nat.le_refl _))
  have HE := Lib.hid (hE.below k0 (Nat.le_refl _))
  have G4 := Lib.hid (And.intro r0 (And.intro r1 (And.intro f0 (And.intro f1 hsz)))); clear r0 r1 f0 f1 hsz hr hi hE
  have D0 := Lib.hid d0; have D1 := Lib.hid d1; clear d0 d1
  by_cases h12 : 12 < m
  · rw [if_pos h12]
    go_enter Tryd.func49, Tryd.ntmps49
    go_wp2_with fail
    generalize ((w.alloc (.cells #[.int .i8 X, .slice A n cap] 29)).alloc (.cells #[.int .i8 0, .slice none 0 0] 29)) = W0 at *
    refine Hq.out.mono ?_; rintro e w1 ⟨rfl, hb1⟩
    have s0 := below_cellOf hb1 G4.out.1 (Nat.le_refl _)
    have s1 := below_cellOf hb1 G4.out.2.1 (Nat.le_refl _)
    have u0 := (hb1.frozen (p := ⟨w.heap.size + 1, 0, none⟩) G4.out.2.2.2.2).trans G4.out.2.2.1
    have u1 := (hb1.frozen (p := ⟨w.heap.size + 1, 1, none⟩) G4.out.2.2.2.2).trans G4.out.2.2.2.1
    have KE := Lib.hid (k0.trans (hb1.mono k0.size))
    have R1 := Lib.hid hb1
    clear hb1 k0 Hq
    have h12' : (12 : Int) < m := by omega
    have ce := (HE.out.below R1.out (Nat.le_refl _)).c_elimit
    have hg1 : ¬ w.heap.size + 1 = 3 := by omega
    have hg2 : ¬ 3 = w.heap.size + 1 := by omega
    go_wp2_with fail
    go_region
    all_goals
      go_wp2_with fail
      refine bodyPost_ret (v := .tuple #[.agg #[.int .i8 0, .slice none 0 0], errV s.elimit]) (by simp [results, Tryd.results49, go_sem, s0, s1]) rfl ⟨_, _, _, rfl, .elimit, .nil _ _ _ _ _ _ _ _, ?_⟩
      exact (KE.out.drew.setCell (by show _ ≤ w.heap.size + 1; omega) _).setCell (by show _ ≤ w.heap.size + 1; omega) _
  · rw [if_neg h12]
    go_enter Tryd.func49, Tryd.ntmps49
    go_wp2_with fail
    generalize ((w.alloc (.cells #[.int .i8 X, .slice A n cap] 29)).alloc (.cells #[.int .i8 0, .slice none 0 0] 29)) = W0 at *
    refine Hq.out.mono ?_; rintro e w1 ⟨rfl, hb1⟩
    have s0 := below_cellOf hb1 G4.out.1 (Nat.le_refl _)
    have s1 := below_cellOf hb1 G4.out.2.1 (Nat.le_refl _)
    have u0 := (hb1.frozen (p := ⟨w.heap.size + 1, 0, none⟩) G4.out.2.2.2.2).trans G4.out.2.2.1
    have u1 := (hb1.frozen (p := ⟨w.heap.size + 1, 1, none⟩) G4.out.2.2.2.2).trans G4.out.2.2.2.1
    have KE := Lib.hid (k0.trans (hb1.mono k0.size))
    have R1 := Lib.hid hb1
    clear hb1 k0 Hq
    have h12' : ¬ (12 : Int) < m := by omega
    have e0 := below_cellOf R1.out D0.out (Nat.le_refl _)
    have e1 := below_cellOf R1.out D1.out (Nat.le_refl _)
    have hp := Lib.hid (fun (W : World) (h : Below w1.heap.size w1 W) => picked_any A n cap g B m c xs (by omega) W ((HP.out.below R1.out (Nat.le_refl _)).below h (Nat.le_refl _)) ((HI.out.below R1.out (Nat.le_refl _)).below h (Nat.le_refl _)) HA.out)
    have hz := G4.out.2.2.2.2
    have hz1 := R1.out.size
    go_wp2_with fail
    go_region_with (first | (go_at_call 64; refine (hp.out _ (below_drew1 w1)).mono ?_; rintro e w5 ⟨q, cq, rfl, hq5, hR5, hb5⟩; have t0 := below_cellOf hb5 (show w1.drew.cell? _ = _ from e0) (Nat.le_refl _); have t1 := below_cellOf hb5 (show w1.drew.cell? _ = _ from e1) (Nat.le_refl _)) | (go_at_call 53; refine (withFrames_any X A _ n cap m _ _).mono ?_; rintro e w6 ⟨rfl, hb6⟩; have R6 := Below.trans ((below_drew1 w1).trans hb5) (hb6.mono (Nat.le_trans (below_drew1 w1).size hb5.size)); have v0 := below_cellOf R6 s0 (Nat.le_refl _); have v1 := below_cellOf R6 s1 (Nat.le_refl _); have x0 := (R6.frozen (p := ⟨w.heap.size + 1, 0, none⟩) (by show w.heap.size + 1 < w1.heap.size; omega)).trans u0; have x1 := (R6.frozen (p := ⟨w.heap.size + 1, 1, none⟩) (by show w.heap.size + 1 < w1.heap.size; omega)).trans u1))
    all_goals
      have hq6 : w1.heap.size ≤ q := hq5
      have hR6 := hR5.below hb6 hR5.lt
      go_wp2_with fail
      refine bodyPost_ret (v := .tuple #[.agg #[.int .i8 X, .slice (some ⟨q, 0, none⟩) m cq], .nilIface]) (by simp [results, Tryd.results49, go_sem, v0, v1]) rfl ⟨_, _, _, rfl, .ok, ?_, ?_⟩
      · exact ((hR6.other (by show q ≠ w.heap.size + 1; omega) _).other (by show q ≠ w.heap.size + 1; omega) _).mineL cq (by omega)
      · exact ((KE.out.trans (R6.mono KE.out.size)).setCell (by show _ ≤ w.heap.size + 1; omega) _).setCell (by show _ ≤ w.heap.size + 1; omega) _

theorem pickFrames_any (s : Ers) (X : Int) (A : Option Addr) (n cap : Nat) (g : Nat → Nat → Int) (B : Option Addr) (m c : Nat) (xs : Nat → Int) (hn : n ≤ 1048576) (hm : m ≤ 1048576) (hX : -128 ≤ X ∧ X ≤ 127) (w : World) (hr : PrsIn w A n g) (hi : IntsIn w B m xs) (hE : ErrEnv s w) :
    Calls Tryd.prog 49 #[.agg #[.int .i8 X, .slice A n cap], .slice B m c] w (ShtErr s w.heap.size (if picC X n g m xs = 0 then X else 0) (if picC X n g m xs = 0 then m else 0) (picG g xs) (picC X n g m xs) w) := by
  rcases frmC_cases X n m g xs with ⟨h, _, ha⟩ | h | h
  · have hh := pickFrames_ok s X A n cap g B m c xs hn hm hX w hr hi hE h ha
    by_cases h12 : 12 < m
    · rw [if_pos h12] at hh
      rw [picC_lim h h12]
      exact hh
    · rw [if_neg h12] at hh
      rw [picC_ok h h12]
      exact hh
  · rw [picC_no h (by decide)]
    exact pickFrames_bad s X A n cap g B m c xs hn hm hX w hr hi hE s.einvalid 1 h rfl .einvalid
  · rw [picC_no h (by decide)]
    exact pickFrames_bad s X A n cap g B m c xs hn hm hX w hr hi hE s.erange 2 h rfl .erange

set_option maxRecDepth 100000 in
set_option maxHeartbeats 4000000 in
theorem PickFrames_any (s : Ers) (X : Int) (A : Option Addr) (n cap : Nat) (g : Nat → Nat → Int) (B : Option Addr) (m c : Nat) (xs : Nat → Int) (hn : n ≤ 1048576) (hm : m ≤ 1048576) (hX : -128 ≤ X ∧ X ≤ 127) (w : World) (hr : PrsIn w A n g) (hi : IntsIn w B m xs) (hE : ErrEnv s w) :
    Calls Tryd.prog 24 #[.agg #[.int .i8 X, .slice A n cap], .slice B m c] w (PicOut w.heap.size X n g m xs w) := by
  have k0 := ((Below.refl w.heap.size w).alloc (Nat.le_refl _) (.cells #[.int .i8 X, .slice A n cap] 29)).alloc (by simp) (.cells #[.int .i8 0, .slice none 0 0] 29)
  have r0 : ((w.alloc (.cells #[.int .i8 X, .slice A n cap] 29)).alloc (.cells #[.int .i8 0, .slice none 0 0] 29)).cell? ⟨w.heap.size + 1, 0, none⟩ = some (.int .i8 0) := by simp
  have r1 : ((w.alloc (.cells #[.int .i8 X, .slice A n cap] 29)).alloc (.cells #[.int .i8 0, .slice none 0 0] 29)).cell? ⟨w.heap.size + 1, 1, none⟩ = some (.slice none 0 0) := by simp
  have f0 : ((w.alloc (.cells #[.int .i8 X, .slice A n cap] 29)).alloc (.cells #[.int .i8 0, .slice none 0 0] 29)).frozen? ⟨w.heap.size + 1, 0, none⟩ = false := by simp
  have f1 : ((w.alloc (.cells #[.int .i8 X, .slice A n cap] 29)).alloc (.cells #[.int .i8 0, .slice none 0 0] 29)).frozen? ⟨w.heap.size + 1, 1, none⟩ = false := by simp
  have hsz : w.heap.size + 1 < ((w.alloc (.cells #[.int .i8 X, .slice A n cap] 29)).alloc (.cells #[.int .i8 0, .slice none 0 0] 29)).heap.size := by simp
  have hq := pickFrames_any s X A n cap g B m c xs hn hm hX _ (hr.below k0 (Nat.le_refl _)) (hi.below k0 (Nat.le_refl _)) (hE.below k0 (Nat.le_refl _))
  have HE := Lib.hid (hE.below k0 (Nat.le_refl _))
  unfold PicOut
  generalize (if picC X n g m xs = 0 then X else 0) = RX at *
  generalize (if picC X n g m xs = 0 then m else 0) = RN at *
  generalize picC X n g m xs = C at *
  generalize picG g xs = G at *
  have Hq := Lib.hid hq; clear hq hr hi hE
  have G4 := Lib.hid (And.intro r0 (And.intro r1 (And.intro f0 (And.intro f1 hsz)))); clear r0 r1 f0 f1
  have d0 : ((w.alloc (.cells #[.int .i8 X, .slice A n cap] 29)).alloc (.cells #[.int .i8 0, .slice none 0 0] 29)).cell? ⟨w.heap.size, 0, none⟩ = some (.int .i8 X) := by simp
  have d1 : ((w.alloc (.cells #[.int .i8 X, .slice A n cap] 29)).alloc (.cells #[.int .i8 0, .slice none 0 0] 29)).cell? ⟨w.heap.size, 1, none⟩ = some (.slice A n cap) := by simp
  go_enter Tryd.func24, Tryd.ntmps24
  go_wp2_with fail
  generalize ((w.alloc (.cells #[.int .i8 X, .slice A n cap] 29)).alloc (.cells #[.int .i8 0, .slice none 0 0] 29)) = W0 at *
  refine Hq.out.mono ?_; rintro e w1 ⟨A1, c1, v1, rfl, hI, hM, hb1⟩
  have R1 := Lib.hid hb1
  clear hb1 Hq d0 d1
  go_wp2_with fail
  refine (codedSheet_any RX A1 RN c1 hI _ (HE.out.below R1.out (Nat.le_refl _))).mono ?_; rintro e w2 ⟨rfl, hb2⟩
  have R2 := R1.out.trans (hb2.mono R1.out.size)
  have hM2 := hM.below hb2 (Nat.le_refl _)
  have s0 := below_cellOf R2 G4.out.1 (Nat.le_refl _)
  have s1 := below_cellOf R2 G4.out.2.1 (Nat.le_refl _)
  have u0 := (R2.frozen (p := ⟨w.heap.size + 1, 0, none⟩) G4.out.2.2.2.2).trans G4.out.2.2.1
  have u1 := (R2.frozen (p := ⟨w.heap.size + 1, 1, none⟩) G4.out.2.2.2.2).trans G4.out.2.2.2.1
  have KE := Lib.hid (k0.trans (R2.mono k0.size))
  have hz1 := hb2.size
  clear R2 hb2 hM
  go_wp2_with fail
  refine bodyPost_ret (v := .tuple #[.agg #[.int .i8 RX, .slice A1 RN c1], .int .i64 C]) (by simp [results, Tryd.results24, go_sem, s0, s1]) rfl ⟨_, rfl, ?_, ?_⟩
  · refine (hM2.keep (fun b h1 h2 h3 => ?_)).mono (by omega) (by simpa [World.setCell] using hz1)
    rw [Below.heap_setCell _ _ _ _ (by show b ≠ w.heap.size + 1; omega), Below.heap_setCell _ _ _ _ (by show b ≠ w.heap.size + 1; omega)]
  · exact (KE.out.setCell (by show _ ≤ w.heap.size + 1; omega) _).setCell (by show _ ≤ w.heap.size + 1; omega) _
end Go.Proofs.YtkmpfbjenddhjaaDoor
