/-
  The densities of a paper for each light, as an array; what is read from it: by the program; the least light, by the reference. Condition: the points are a curve's.
-/
import Derived.Test.YtkeigoighebjpaaDoorPrnB
import Derived.Test.YtkeigoighebjpaaDoorArr
import Derived.Test.YtkeigoighebjpaaDoorTabE
import Derived.Test.YtkeigoighebjpaaDoorPlainNear
namespace Go.Proofs.YtkeigoighebjpaaDoor
open Go.RowKit

theorem zeroArr37 : #[.int .i64 0, .int .i64 0, .int .i64 0, .int .i64 0, .int .i64 0, .int .i64 0, .int .i64 0, .int .i64 0, .int .i64 0, .int .i64 0, .int .i64 0, .int .i64 0, .int .i64 0, .int .i64 0, .int .i64 0, .int .i64 0, .int .i64 0, .int .i64 0, .int .i64 0, .int .i64 0, .int .i64 0, .int .i64 0, .int .i64 0, .int .i64 0, .int .i64 0, .int .i64 0, .int .i64 0, .int .i64 0, .int .i64 0, .int .i64 0, .int .i64 0, .int .i64 0, .int .i64 0, .int .i64 0, .int .i64 0, .int .i64 0, .int .i64 0] = arrV .i64 37 fun _ => 0 := by kernel_rfl
theorem sizeShades : (Tryd.prog.info? 104).map (·.size) = some 37 := by kernel_rfl
theorem sizeI64S : (Tryd.prog.info? 2).map (·.size) = some 1 := by kernel_rfl
theorem HasArr.zero37 (w : World) (T : TypeId) {b : Nat} (hb : b = w.heap.size) : HasArr (w.alloc (.cells #[.int .i64 0, .int .i64 0, .int .i64 0, .int .i64 0, .int .i64 0, .int .i64 0, .int .i64 0, .int .i64 0, .int .i64 0, .int .i64 0, .int .i64 0, .int .i64 0, .int .i64 0, .int .i64 0, .int .i64 0, .int .i64 0, .int .i64 0, .int .i64 0, .int .i64 0, .int .i64 0, .int .i64 0, .int .i64 0, .int .i64 0, .int .i64 0, .int .i64 0, .int .i64 0, .int .i64 0, .int .i64 0, .int .i64 0, .int .i64 0, .int .i64 0, .int .i64 0, .int .i64 0, .int .i64 0, .int .i64 0, .int .i64 0, .int .i64 0] T)) b T .i64 37 fun _ => 0 := by
  subst hb; rw [zeroArr37]; exact HasArr.new w T _ _ _
theorem HasArr.farS {w w' : World} {b : Nat} {T : TypeId} {κ : IntKind} {n : Nat} {f : Nat → Int} {row : Option Nat} (h : HasArr w b T κ n f) (hg : w.grownBy w' row) (hne : some b ≠ row) : HasArr w' b T κ n f := (hg.block b h.lt hne).trans h
theorem wpList_store_z37 {P : Program} {ops : Array Oper} {rest : List Oper} {o : Oper} {a : Act} {w : World} {Q : Exit → Act → World → Prop} {b : Nat} {T : TypeId} {κ : IntKind} {f : Nat → Int}
    (h : HasArr w b T κ 37 f) (ty : TypeId) (x y : Operand) (hgd : o.guard = none) (ho : o.op = .store ty x y) (hx : a.eval x = .pointer (some ⟨b, 0, none⟩)) (hy : a.eval y = .agg #[.int .i64 0, .int .i64 0, .int .i64 0, .int .i64 0, .int .i64 0, .int .i64 0, .int .i64 0, .int .i64 0, .int .i64 0, .int .i64 0, .int .i64 0, .int .i64 0, .int .i64 0, .int .i64 0, .int .i64 0, .int .i64 0, .int .i64 0, .int .i64 0, .int .i64 0, .int .i64 0, .int .i64 0, .int .i64 0, .int .i64 0, .int .i64 0, .int .i64 0, .int .i64 0, .int .i64 0, .int .i64 0, .int .i64 0, .int .i64 0, .int .i64 0, .int .i64 0, .int .i64 0, .int .i64 0, .int .i64 0, .int .i64 0, .int .i64 0]) (hi : (P.info? ty).map (·.size) = some 37)
    (hK : wpList P ops Q rest (a.put o.dst undef) (w.setRow b (arrV .i64 37 fun _ => 0))) : wpList P ops Q (o :: rest) a w :=
  wpList_store_arr (g := fun _ => 0) h ty x y hgd ho hx (hy.trans (by rw [zeroArr37])) hi hK
theorem run_index_arrS {P : Program} {t e : TypeId} {κ κ' : IntKind} {n k : Nat} (f : Nat → Int) (hu : P.underlying t = some (.array n e)) (he : P.underlying e = some (.int κ)) (hi : (P.info? e).map (·.size) = some 1) (hk : k < n) (w : World) :
    (Instr.index t (.agg (arrV κ n f)) (.int κ' (k : Int))).run P w = .ok (.int κ (f k)) w := by
  cases hq : P.info? e with
  | none => simp [hq] at hi
  | some i =>
    have hs : i.size = 1 := by simpa [hq] using hi
    have hp := run_part_arr (P := P) w (e := e) (κ := κ) (f := f) he hk
    simp [Instr.index, run_underlying hu, asIntOf, hk, sizeOf, typeInfo, hq, hs, hp]
theorem PaperB.low {p q : Nat} {P : Value} {H : Int} {w w' : World} {B : Nat} (h : PaperB p q P H w) (hb : Below B w w') (hp : p < B) (hq : q < B) : PaperB p q P H w' :=
  ⟨(hb.cell (p := ⟨p, 0, none⟩) hp).trans h.1, (hb.cell (p := ⟨q, 0, none⟩) hq).trans h.2⟩

/-- The densities for each light. -/
def shdF (n : Nat) (xs ys : Nat → Int) (d : Int) (k : Nat) : Int := darkV n xs ys d (k : Int)
theorem shdF_bd {n : Nat} {xs ys : Nat → Int} (c : Crv n xs ys) (d : Int) (k : Nat) : 0 ≤ shdF n xs ys d k ∧ shdF n xs ys d k ≤ 400 := darkV_bd c d _

set_option maxRecDepth 100000 in
set_option maxHeartbeats 4000000 in
theorem shadesOf_any (b n cap : Nat) (xs ys : Nat → Int) (d : Int) (hn : n ≤ 1048576) (c : Crv n xs ys) (h : 0 ≤ d) (h' : d ≤ 400) (w : World) (hr : PtRow w b n xs ys) :
    Calls Tryd.prog 85 #[.slice (some ⟨b, 0, none⟩) n cap, .int .i64 d] w fun e w' => e = .returned (.agg (arrV .i64 37 (shdF n xs ys d))) ∧ Below w.heap.size w w' := by
  have hlt := hr.lt
  have a0 := HasArr.zero37 w 104 rfl
  have k0 := (Below.refl w.heap.size w).alloc (Nat.le_refl _) (.cells #[.int .i64 0, .int .i64 0, .int .i64 0, .int .i64 0, .int .i64 0, .int .i64 0, .int .i64 0, .int .i64 0, .int .i64 0, .int .i64 0, .int .i64 0, .int .i64 0, .int .i64 0, .int .i64 0, .int .i64 0, .int .i64 0, .int .i64 0, .int .i64 0, .int .i64 0, .int .i64 0, .int .i64 0, .int .i64 0, .int .i64 0, .int .i64 0, .int .i64 0, .int .i64 0, .int .i64 0, .int .i64 0, .int .i64 0, .int .i64 0, .int .i64 0, .int .i64 0, .int .i64 0, .int .i64 0, .int .i64 0, .int .i64 0, .int .i64 0] 104)
  have hpb := fun W => printBehind_any b n cap d h h' W
  have hh := heldH_bd h h'
  have hp1 := fun p q (k : Nat) (hk : k < 37) W hW hP => printBehind1_any p q b n cap xs ys (heldH d) (k : Int) hn c hh.1 hh.2 (by omega) (by omega) W hW hP
  have hF : ∀ k : Nat, dens n xs ys ((k : Int) - heldH d) = shdF n xs ys d k := fun k => rfl
  have hp2 : ∀ p q (k : Nat) (hk : k < 37) W (hW : PtRow W b n xs ys) (hP : PaperB p q (.slice (some ⟨b, 0, none⟩) n cap) (heldH d) W), Calls Tryd.prog 121 #[.int .i64 (k : Int), .pointer (some ⟨p, 0, none⟩), .pointer (some ⟨q, 0, none⟩)] W fun e w' => e = .returned (.int .i64 (shdF n xs ys d k)) ∧ Below W.heap.size W w' := fun p q k hk W hW hP => by
    rw [← hF k]; exact hp1 p q k hk W hW hP
  clear hp1 hF
  generalize shdF n xs ys d = F at *
  generalize heldH d = H at *
  have Hpb := Lib.hid hpb; clear hpb
  have Hp2 := Lib.hid hp2; clear hp2
  have Hr := Lib.hid hr; clear hr
  go_enter Tryd.func85, Tryd.ntmps85
  go_wp2_with fail
  refine (Hpb.out _).mono ?_; rintro e w1 ⟨p, q, rfl, hP1, hb1⟩
  have k1 := k0.trans (hb1.mono k0.size)
  have b0 := a0.below hb1 a0.lt
  have z1 : w.heap.size < w1.heap.size := b0.lt
  have hpl : p < w1.heap.size := World.block_lt_of_cell? w1 _ hP1.1
  have hql : q < w1.heap.size := World.block_lt_of_cell? w1 _ hP1.2
  have a1 := HasArr.zero37 w1 104 (b := w1.heap.size) rfl
  have b1 := (a1.setRow .i64 (fun _ => 0)).congr (g := mixN F 0) (fun j _ => by simp [mixN])
  have b2 := (b0.alloc (.cells #[.int .i64 0, .int .i64 0, .int .i64 0, .int .i64 0, .int .i64 0, .int .i64 0, .int .i64 0, .int .i64 0, .int .i64 0, .int .i64 0, .int .i64 0, .int .i64 0, .int .i64 0, .int .i64 0, .int .i64 0, .int .i64 0, .int .i64 0, .int .i64 0, .int .i64 0, .int .i64 0, .int .i64 0, .int .i64 0, .int .i64 0, .int .i64 0, .int .i64 0, .int .i64 0, .int .i64 0, .int .i64 0, .int .i64 0, .int .i64 0, .int .i64 0, .int .i64 0, .int .i64 0, .int .i64 0, .int .i64 0, .int .i64 0, .int .i64 0] 104)).rowOther (b' := w1.heap.size) (by omega) (arrV .i64 37 fun _ => 0)
  have k2 := below_setRow (k1.alloc k1.size (.cells #[.int .i64 0, .int .i64 0, .int .i64 0, .int .i64 0, .int .i64 0, .int .i64 0, .int .i64 0, .int .i64 0, .int .i64 0, .int .i64 0, .int .i64 0, .int .i64 0, .int .i64 0, .int .i64 0, .int .i64 0, .int .i64 0, .int .i64 0, .int .i64 0, .int .i64 0, .int .i64 0, .int .i64 0, .int .i64 0, .int .i64 0, .int .i64 0, .int .i64 0, .int .i64 0, .int .i64 0, .int .i64 0, .int .i64 0, .int .i64 0, .int .i64 0, .int .i64 0, .int .i64 0, .int .i64 0, .int .i64 0, .int .i64 0, .int .i64 0] 104)) (b := w1.heap.size) k1.size (arrV .i64 37 fun _ => 0)
  have kp := below_setRow ((Below.refl w1.heap.size w1).alloc (Nat.le_refl _) (.cells #[.int .i64 0, .int .i64 0, .int .i64 0, .int .i64 0, .int .i64 0, .int .i64 0, .int .i64 0, .int .i64 0, .int .i64 0, .int .i64 0, .int .i64 0, .int .i64 0, .int .i64 0, .int .i64 0, .int .i64 0, .int .i64 0, .int .i64 0, .int .i64 0, .int .i64 0, .int .i64 0, .int .i64 0, .int .i64 0, .int .i64 0, .int .i64 0, .int .i64 0, .int .i64 0, .int .i64 0, .int .i64 0, .int .i64 0, .int .i64 0, .int .i64 0, .int .i64 0, .int .i64 0, .int .i64 0, .int .i64 0, .int .i64 0, .int .i64 0] 104)) (b := w1.heap.size) (Nat.le_refl _) (arrV .i64 37 fun _ => 0)
  have P2 := hP1.below kp (Nat.le_refl _)
  have K0 := Lib.hid (And.intro b2 (And.intro b1 (And.intro P2 k2)))
  clear a0 k0 hb1 b0 k1 b1 b2 k2 kp P2 hP1
  go_wp2_with (refine wpList_store_z37 a1 _ _ _ rfl rfl rfl rfl sizeShades ?_)
  clear a1
  go_loopw [12] (fun i wr => ∃ k : Nat, k ≤ 37 ∧ i = .int .i64 (k : Int) ∧ HasArr wr w.heap.size 104 .i64 37 (fun _ => 0) ∧ HasArr wr w1.heap.size 104 .i64 37 (mixN F k) ∧ PaperB p q (.slice (some ⟨b, 0, none⟩) n cap) H wr ∧ Below w.heap.size w wr) (fun i _ => 37 - (intOf i).toNat)
  case atStart => exact ⟨0, by omega, rfl, K0.out⟩
  case round =>
    obtain ⟨k, hk, rfl, h0, h1, hP, hB⟩ := hrel
    clear K0
    by_cases hkn : k < 37
    · have w4 : (k : Int) < 37 := by omega
      have hst := fun (W : World) (h : HasArr W w1.heap.size 104 .i64 37 (mixN F k)) => (h.set k (F k)).congr (fun j _ => mixN_step F k j)
      have hc := Hp2.out p q k hkn wr (Hr.out.below hB hlt) hP
      generalize F k = X at *
      have Hst := Lib.hid hst; clear hst
      have Hc := Lib.hid hc; clear hc
      have HR0 := Lib.hid h0; clear h0
      have HR1 := Lib.hid h1; clear h1
      have HB := Lib.hid hB; clear hB
      have HP := Lib.hid hP; clear hP
      go_wp2_with fail
      refine Hc.out.mono ?_; rintro e w2 ⟨rfl, hb2⟩
      have g0 := HR0.out.below hb2 HR0.out.lt
      have g1 := HR1.out.below hb2 HR1.out.lt
      have gP := HP.out.below hb2 (Nat.le_refl _)
      have gB := HB.out.trans (hb2.mono HB.out.size)
      have d0 := g1.cell hkn
      have e0 := g1.free k
      have K := Lib.hid (And.intro (g0.other (a := ⟨w1.heap.size, k, none⟩) (by simp; omega) (.int .i64 X)) (And.intro (Hst.out _ g1) (And.intro (gP.low (((Below.refl w1.heap.size w2)).setCell (p := ⟨w1.heap.size, k, none⟩) (Nat.le_refl _) (.int .i64 X)) hpl hql) (gB.setCell (p := ⟨w1.heap.size, k, none⟩) (by simp; omega) (.int .i64 X)))))
      clear g0 g1 gB gP hb2
      go_wp2_with fail
      go_roundw
      case rel => exact ⟨k + 1, by omega, by go_num, K.out⟩
      case measure => simp [intOf]; omega
    · obtain rfl : k = 37 := by omega
      have h1 := h1.congr (g := F) (fun j hj => by simp [mixN, hj])
      have h2' := h0.setRow .i64 F
      have hB' := below_setRow hB (b := w.heap.size) (by omega) (arrV .i64 37 F)
      go_wp2_with (first | (refine wpList_load_arr h1 _ _ rfl rfl rfl Tryd.underlying104 sizeShades ?_) | (refine wpList_store_arr h0 _ _ _ rfl rfl rfl rfl sizeShades ?_))
      refine bodyPost_ret (v := .agg (arrV .i64 37 F)) ?_ rfl ⟨rfl, hB'⟩
      exact results_cell_row rfl _ _ _ _ _ _ _ rfl h2' Tryd.underlying104 rfl (by rw [arrV_size]; exact sizeShades)

set_option maxRecDepth 100000 in
set_option maxHeartbeats 1000000 in
theorem shAt_any (f : Nat → Int) (k : Nat) (hk : k < 37) (w : World) :
    Calls Tryd.prog 66 #[.agg (arrV .i64 37 f), .int .i64 (k : Int)] w fun e w' => e = .returned (.int .i64 (f k)) ∧ Below w.heap.size w w' := by
  have a0 := HasArr.new w 104 .i64 37 f
  have c0 := a0.cell hk
  have w4 : (k : Int) < 37 := by omega
  have kB := (Below.refl w.heap.size w).alloc (Nat.le_refl _) (.cells (arrV .i64 37 f) 104)
  generalize f k = X at *
  go_enter Tryd.func66, Tryd.ntmps66
  go_wp2_with fail
  go_ret
  exact ⟨rfl, kB⟩

/-- The least light whose density is at least y, and the code. -/
def leaK (f : Nat → Int) (y : Int) : Nat := firstK (fun k => decide (y ≤ f k)) 37
def leaC (f : Nat → Int) (y : Int) : Int := if leaK f y = 37 then 6 else 0
theorem leaK_le (f : Nat → Int) (y : Int) : leaK f y ≤ 37 := firstK_spec.1
theorem leaC_6 {f : Nat → Int} {y : Int} (h : leaK f y = 37) : leaC f y = 6 := by simp [leaC, h]
theorem leaC_0 {f : Nat → Int} {y : Int} (h : leaK f y < 37) : leaC f y = 0 := by simp [leaC]; omega
/-- The least light, -1 if there is none. -/
def leaR (f : Nat → Int) (y : Int) : Int := if leaK f y = 37 then -1 else (leaK f y : Nat)
theorem leaR_no {f : Nat → Int} {y : Int} (h : leaK f y = 37) : leaR f y = -1 := by simp [leaR, h]
theorem leaR_yes {f : Nat → Int} {y : Int} {k : Nat} (h : leaK f y = k) (hk : k < 37) : leaR f y = k := by unfold leaR; rw [h, if_neg (by omega)]
/-- No light ahead of k has it. -/
def NoneYet (f : Nat → Int) (y : Int) (k : Nat) : Prop := ∀ j, j < k → f j < y
theorem NoneYet.next {f : Nat → Int} {y : Int} {k : Nat} (h : NoneYet f y k) (hk : ¬ y ≤ f k) : NoneYet f y (k + 1) := fun j hj => by
  rcases Nat.lt_or_ge j k with h1 | h1
  · exact h j h1
  · obtain rfl : j = k := by omega
    omega
theorem NoneYet.found {f : Nat → Int} {y : Int} {k : Nat} (h : NoneYet f y k) (h37 : k < 37) (hk : y ≤ f k) : leaK f y = k :=
  firstK_eq (by omega) (fun j hj => by have := h j hj; simp; omega) (fun _ => by simpa using hk)
theorem NoneYet.none {f : Nat → Int} {y : Int} (h : NoneYet f y 37) : leaK f y = 37 :=
  firstK_eq (by omega) (fun j hj => by have := h j hj; simp; omega) (fun h => by omega)

set_option maxRecDepth 100000 in
set_option maxHeartbeats 2000000 in
theorem leastLight_any (s : Ers) (f : Nat → Int) (y : Int) (w : World) (hE : ErrEnv s w) :
    Calls Tryd.prog 65 #[.agg (arrV .i64 37 f), .int .i64 y] w (CodedX s (.int .i64 (ifOk (leaC f y) (leaK f y : Nat))) (leaC f y) w.heap.size w) := by
  have a0 := HasArr.new w 104 .i64 37 f
  have kB := (Below.refl w.heap.size w).alloc (Nat.le_refl _) (.cells (arrV .i64 37 f) 104)
  have ce := (hE.below kB (Nat.le_refl _)).c_enotfound
  have hix := fun k (hk : k < 37) W => run_index_arrS (P := Tryd.prog) (κ' := .i64) (κ := .i64) f Tryd.underlying104 Tryd.underlying2 sizeI64S hk W
  have Hix := Lib.hid hix; clear hix
  have KB := Lib.hid kB; clear kB
  have CE := Lib.hid ce; clear ce hE
  go_enter Tryd.func65, Tryd.ntmps65
  go_wp2_with (refine wpList_load_arr a0 _ _ rfl rfl rfl Tryd.underlying104 sizeShades ?_)
  generalize w.alloc (.cells (arrV .i64 37 f) 104) = W at *
  go_loopw [9] (fun i wr => ∃ k : Nat, k ≤ 37 ∧ i = .int .i64 (k : Int) ∧ NoneYet f y k ∧ wr = W) (fun i _ => 37 - (intOf i).toNat)
  case atStart => exact ⟨0, by omega, rfl, fun j hj => by omega, rfl⟩
  case round =>
    obtain ⟨k, hk, rfl, hno, rfl⟩ := hrel
    have HN := Lib.hid hno; clear hno
    by_cases hkn : k < 37
    · have w4 : (k : Int) < 37 := by omega
      have ix := Hix.out k hkn wr
      by_cases hy : y ≤ f k
      · have hf := HN.out.found hkn hy
        have hc := leaC_0 (f := f) (y := y) (by omega)
        have HF := Lib.hid (And.intro hf hc); clear hf hc
        generalize f k = X at *
        clear CE
        go_wp2_with fail
        go_ret2
        rw [HF.out.2, HF.out.1, ifOk_0]
        exact ⟨_, .ok, rfl, KB.out⟩
      · have hnx := HN.out.next hy
        have HX := Lib.hid hnx; clear hnx
        generalize f k = X at *
        have hd : decide (y ≤ X) = false := decide_eq_false hy
        go_wp2_with fail
        go_roundw
        case rel => exact ⟨k + 1, by omega, by go_num, HX.out, trivial⟩
        case measure => simp [intOf]; omega
    · obtain rfl : k = 37 := by omega
      have hf := HN.out.none
      have hc := leaC_6 hf
      have HC := Lib.hid hc; clear hc hf
      have ce := CE.out
      go_wp2_with fail
      go_quiet (fail)
      go_wp2
      go_ret2
      rw [HC.out, ifOk_6]
      exact ⟨_, .enotfound, rfl, below_drewL KB.out _⟩

set_option maxRecDepth 100000 in
set_option maxHeartbeats 1000000 in
theorem l05Least_any (b n cap : Nat) (xs ys : Nat → Int) (d y : Int) (hn : n ≤ 1048576) (c : Crv n xs ys) (h : 0 ≤ d) (h' : d ≤ 400) (w : World) (hr : PtRow w b n xs ys) :
    Calls Tryd.prog 32 #[.slice (some ⟨b, 0, none⟩) n cap, .int .i64 d, .int .i64 y] w fun e w' => e = .returned (.int .i64 (leaR (shdF n xs ys d) y)) ∧ Below w.heap.size w w' := by
  have hlt := hr.lt
  have hdk := fun (k : Nat) (hk : k < 37) W hW => l05Dark_any b n cap xs ys d (k : Int) hn c h h' (by omega) (by omega) W hW
  have hF : ∀ k : Nat, darkV n xs ys d (k : Int) = shdF n xs ys d k := fun k => rfl
  have hd2 : ∀ (k : Nat) (hk : k < 37) W (hW : PtRow W b n xs ys), Calls Tryd.prog 33 #[.slice (some ⟨b, 0, none⟩) n cap, .int .i64 d, .int .i64 (k : Int)] W fun e w' => e = .returned (.int .i64 (shdF n xs ys d k)) ∧ Below W.heap.size W w' := fun k hk W hW => by rw [← hF k]; exact hdk k hk W hW
  clear hdk hF
  generalize shdF n xs ys d = f at *
  have Hd := Lib.hid hd2; clear hd2
  have Hr := Lib.hid hr; clear hr
  go_enter Tryd.func32, Tryd.ntmps32
  go_wp2_with fail
  go_loopw [7] (fun i wr => ∃ k : Nat, k ≤ 37 ∧ i = .int .i64 (k : Int) ∧ NoneYet f y k ∧ Below w.heap.size w wr) (fun i _ => 37 - (intOf i).toNat)
  case atStart => exact ⟨0, by omega, rfl, fun j hj => by omega, Below.refl _ _⟩
  case round =>
    obtain ⟨k, hk, rfl, hno, hB⟩ := hrel
    have HN := Lib.hid hno; clear hno
    by_cases hkn : k < 37
    · have w4 : (k : Int) ≤ 36 := by omega
      have hc := Hd.out k hkn wr (Hr.out.below hB hlt)
      by_cases hy : y ≤ f k
      · have hf := HN.out.found hkn hy
        have HF := Lib.hid hf; clear hf
        generalize f k = X at *
        have Hc := Lib.hid hc; clear hc
        go_wp2_with fail
        refine Hc.out.mono ?_; rintro e w2 ⟨rfl, hb2⟩
        go_wp2_with fail
        go_ret
        rw [leaR_yes HF.out hkn]
        exact ⟨rfl, hB.trans (hb2.mono hB.size)⟩
      · have hnx := HN.out.next hy
        have HX := Lib.hid hnx; clear hnx
        generalize f k = X at *
        have hd : decide (y ≤ X) = false := decide_eq_false hy
        have Hc := Lib.hid hc; clear hc
        go_wp2_with fail
        refine Hc.out.mono ?_; rintro e w2 ⟨rfl, hb2⟩
        go_wp2_with fail
        go_roundw
        case rel => exact ⟨k + 1, by omega, by go_num, HX.out, hB.trans (hb2.mono hB.size)⟩
        case measure => simp [intOf]; omega
    · obtain rfl : k = 37 := by omega
      have hf := HN.out.none
      have HF := Lib.hid hf; clear hf
      go_wp2_with fail
      go_ret
      rw [leaR_no HF.out]
      exact ⟨rfl, hB⟩

end Go.Proofs.YtkeigoighebjpaaDoor


