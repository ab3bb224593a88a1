/-
  The densities of a paper for each light, as an array; what is read from it: by the program; the least light, by the reference. Condition: the points are a curve's.
-/
import Derived.Test.YtnlcjbobfhmnmabGreatDoorPrnX
import Derived.Test.YtnlcjbobfhmnmabGreatDoorArr
import Derived.Test.YtnlcjbobfhmnmabGreatDoorTabE
import Derived.Test.YtnlcjbobfhmnmabGreatDoorPlainNear
namespace Go.Proofs.YtnlcjbobfhmnmabGreatDoor
open Go.RowKit

theorem zeroArr37 : #[.int .i64 0, .int .i64 0, .int .i64 0, .int .i64 0, .int .i64 0, .int .i64 0, .int .i64 0, .int .i64 0, .int .i64 0, .int .i64 0, .int .i64 0, .int .i64 0, .int .i64 0, .int .i64 0, .int .i64 0, .int .i64 0, .int .i64 0, .int .i64 0, .int .i64 0, .int .i64 0, .int .i64 0, .int .i64 0, .int .i64 0, .int .i64 0, .int .i64 0, .int .i64 0, .int .i64 0, .int .i64 0, .int .i64 0, .int .i64 0, .int .i64 0, .int .i64 0, .int .i64 0, .int .i64 0, .int .i64 0, .int .i64 0, .int .i64 0] = arrV .i64 37 fun _ => 0 := by kernel_rfl
theorem sizeShades : (Tryz.prog.info? 98).map (·.size) = some 37 := by kernel_rfl
theorem sizeI64S : (Tryz.prog.info? 2).map (·.size) = some 1 := by kernel_rfl
theorem HasArr.zero37 (w : World) (T : TypeId) {b : Nat} (hb : b = w.heap.size) : HasArr (w.alloc (.cells #[.int .i64 0, .int .i64 0, .int .i64 0, .int .i64 0, .int .i64 0, .int .i64 0, .int .i64 0, .int .i64 0, .int .i64 0, .int .i64 0, .int .i64 0, .int .i64 0, .int .i64 0, .int .i64 0, .int .i64 0, .int .i64 0, .int .i64 0, .int .i64 0, .int .i64 0, .int .i64 0, .int .i64 0, .int .i64 0, .int .i64 0, .int .i64 0, .int .i64 0, .int .i64 0, .int .i64 0, .int .i64 0, .int .i64 0, .int .i64 0, .int .i64 0, .int .i64 0, .int .i64 0, .int .i64 0, .int .i64 0, .int .i64 0, .int .i64 0] T)) b T .i64 37 fun _ => 0 := by
  subst hb; rw [zeroArr37]; exact HasArr.new w T _ _ _
theorem HasArr.farS {w w' : World} {b : Nat} {T : TypeId} {κ : IntKind} {n : Nat} {f : Nat → Int} {row : Option Nat} (h : HasArr w b T κ n f) (hg : w.grownBy w' row) (hne : some b ≠ row) : HasArr w' b T κ n f := (hg.block b h.lt hne).trans h
theorem wpList_store_z37 {P : Program} {ops : Array Oper} {rest : List Oper} {o : Oper} {a : Act} {w : World} {Q : Exit → Act → World → Prop} {b : Nat} {T : TypeId} {κ : IntKind} {f : Nat → Int}
    (h : HasArr w b T κ 37 f) (ty : TypeId) (x y : Operand) (hgd : o.guard = none) (ho : o.op = .store ty x y) (hx : a.eval x = .pointer (some ⟨b, 0, none⟩)) (hy : a.eval y = .agg #[.int .i64 0, .int .i64 0, .int .i64 0, .int .i64 0, .int .i64 0, .int .i64 0, .int .i64 0, .int .i64 0, .int .i64 0, .int .i64 0, .int .i64 0, .int .i64 0, .int .i64 0, .int .i64 0, .int .i64 0, .int .i64 0, .int .i64 0, .int .i64 0, .int .i64 0, .int .i64 0, .int .i64 0, .int .i64 0, .int .i64 0, .int .i64 0, .int .i64 0, .int .i64 0, .int .i64 0, .int .i64 0, .int .i64 0, .int .i64 0, .int .i64 0, .int .i64 0, .int .i64 0, .int .i64 0, .int .i64 0, .int .i64 0, .int .i64 0]) (hi : (P.info? ty).map (·.size) = some 37)
    (hK : wpList P ops Q rest (a.put o.dst undef) (w.setRow b (arrV .i64 37 fun _ => 0))) : wpList P ops Q (o :: rest) a w :=
  wpList_store_arr (g := fun _ => 0) h ty x y hgd ho hx (hy.trans (by rw [zeroArr37])) hi hK
theorem run_index_arrS {P : Program} {t e : TypeId} {κ κ' : IntKind} {n k : Nat} (f : Nat → Int) (hu : P.underlying t = some (.array n e)) (he : P.underlying e = some (.int κ)) (hi : (P.info? e).map (·.size) = some 1) (hk : k < n) (w : World) :
    (Instr.index t (.agg (arrV κ n f)) (.int κ' (k : Int))).run P w = .ok (.int κ (f k)) w := by
  cases hq : P.info? e with
  | none => simp [hq] at hi
  | some i =>
    have hs : i.size = 1 := by simpa [hq] using hi
    have hp := run_part_arr (P := P) w (e := e) (κ := κ) (f := f) he hk
    simp [Instr.index, run_underlying hu, asIntOf, hk, sizeOf, typeInfo, hq, hs, hp]
theorem PaperB.low {p q : Nat} {P : Value} {H : Int} {w w' : World} {B : Nat} (h : PaperB p q P H w) (hb : Below B w w') (hp : p < B) (hq : q < B) : PaperB p q P H w' :=
  ⟨(hb.cell (p := ⟨p, 0, none⟩) hp).trans h.1, (hb.cell (p := ⟨q, 0, none⟩) hq).trans h.2⟩

/-- The densities for each light. -/
def shdF (n : Nat) (xs ys : Nat → Int) (d : Int) (k : Nat) : Int := darkV n xs ys d (k : Int)
theorem shdF_bd {n : Nat} {xs ys : Nat → Int} (c : Crv n xs ys) (d : Int) (k : Nat) : 0 ≤ shdF n xs ys d k ∧ shdF n xs ys d k ≤ 400 := darkV_bd c d _

set_option maxRecDepth 100000 in
set_option maxHeartbeats 4000000 in
theorem shadesOf_any (b n cap : Nat) (xs ys : Nat → Int) (d : Int) (hn : n ≤ 1048576) (c : Crv n xs ys) (h : 0 ≤ d) (h' : d ≤ 400) (w : World) (hr : PtRow w b n xs ys) :
    Calls Tryz.prog 72 #[.slice (some ⟨b, 0, none⟩) n cap, .int .i64 d] w fun e w' => e = .returned (.agg (arrV .i64 37 (shdF n xs ys d))) ∧ Below w.heap.size w w' := by
  have hlt := hr.lt
  have a0 := HasArr.zero37 w 98 rfl
  have k0 := (Below.refl w.heap.size w).alloc (Nat.le_refl _) (.cells #[.int .i64 0, .int .i64 0, .int .i64 0, .int .i64 0, .int .i64 0, .int .i64 0, .int .i64 0, .int .i64 0, .int .i64 0, .int .i64 0, .int .i64 0, .int .i64 0, .int .i64 0, .int .i64 0, .int .i64 0, .int .i64 0, .int .i64 0, .int .i64 0, .int .i64 0, .int .i64 0, .int .i64 0, .int .i64 0, .int .i64 0, .int .i64 0, .int .i64 0, .int .i64 0, .int .i64 0, .int .i64 0, .int .i64 0, .int .i64 0, .int .i64 0, .int .i64 0, .int .i64 0, .int .i64 0, .int .i64 0, .int .i64 0, .int .i64 0] 98)
  have hpb := fun W => printBehind_any b n cap d h h' W
  have hh := heldH_bd h h'
  have hp1 := fun p q (k : Nat) (hk : k < 37) W hW hP => printBehind1_any p q b n cap xs ys (heldH d) (k : Int) hn c hh.1 hh.2 (by omega) (by omega) W hW hP
  have hF : ∀ k : Nat, dens n xs ys ((k : Int) - heldH d) = shdF n xs ys d k := fun k => rfl
  have hp2 : ∀ p q (k : Nat) (hk : k < 37) W (hW : PtRow W b n xs ys) (hP : PaperB p q (.slice (some ⟨b, 0, none⟩) n cap) (heldH d) W), Calls Tryz.prog 111 #[.int .i64 (k : Int), .pointer (some ⟨p, 0, none⟩), .pointer (some ⟨q, 0, none⟩)] W fun e w' => e = .returned (.int .i64 (shdF n xs ys d k)) ∧ Below W.heap.size W w' := fun p q k hk W hW hP => by
    rw [← hF k]; exact hp1 p q k hk W hW hP
  clear hp1 hF
  generalize shdF n xs ys d = F at *
  generalize heldH d = H at *
  have Hpb := Lib.hid hpb; clear hpb
  have Hp2 := Lib.hid hp2; clear hp2
  have Hr := Lib.hid hr; clear hr
  go_enter Tryz.func72, Tryz.ntmps72
  go_wp2_with fail
  refine (Hpb.out _).mono ?_; rintro e w1 ⟨p, q, rfl, hP1, hb1⟩
  have k1 := k0.trans (hb1.mono k0.size)
  have b0 := a0.below hb1 a0.lt
  have z1 : w.heap.size < w1.heap.size := b0.lt
  have hpl : p < w1.heap.size := World.block_lt_of_cell? w1 _ hP1.1
  have hql : q < w1.heap.size := World.block_lt_of_cell? w1 _ hP1.2
  have a1 := HasArr.zero37 w1 98 (b := w1.heap.size) rfl
  have b1 := (a1.setRow .i64 (fun _ => 0)).congr (g := mixN F 0) (fun j _ => by simp [mixN])
  have b2 := (b0.alloc (.cells #[.int .i64 0, .int .i64 0, .int .i64 0, .int .i64 0, .int .i64 0, .int .i64 0, .int .i64 0, .int .i64 0, .int .i64 0, .int .i64 0, .int .i64 0, .int .i64 0, .int .i64 0, .int .i64 0, .int .i64 0, .int .i64 0, .int .i64 0, .int .i64 0, .int .i64 0, .int .i64 0, .int .i64 0, .int .i64 0, .int .i64 0, .int .i64 0, .int .i64 0, .int .i64 0, .int .i64 0, .int .i64 0, .int .i64 0, .int .i64 0, .int .i64 0, .int .i64 0, .int .i64 0, .int .i64 0, .int .i64 0, .int .i64 0, .int .i64 0] 98)).rowOther (b' := w1.heap.size) (by omega) (arrV .i64 37 fun _ => 0)
  have k2 := below_setRow (k1.alloc k1.size (.cells #[.int .i64 0, .int .i64 0, .int .i64 0, .int .i64 0, .int .i64 0, .int .i64 0, .int .i64 0, .int .i64 0, .int .i64 0, .int .i64 0, .int .i64 0, .int .i64 0, .int .i64 0, .int .i64 0, .int .i64 0, .int .i64 0, .int .i64 0, .int .i64 0, .int .i64 0, .int .i64 0, .int .i64 0, .int .i64 0, .int .i64 0, .int .i64 0, .int .i64 0, .int .i64 0, .int .i64 0, .int .i64 0, .int .i64 0, .int .i64 0, .int .i64 0, .int .i64 0, .int .i64 0, .int .i64 0, .int .i64 0, .int .i64 0, .int .i64 0] 98)) (b := w1.heap.size) k1.size (arrV .i64 37 fun _ => 0)
  have kp := below_setRow ((Below.refl w1.heap.size w1).alloc (Nat.le_refl _) (.cells #[.int .i64 0, .int .i64 0, .int .i64 0, .int .i64 0, .int .i64 0, .int .i64 0, .int .i64 0, .int .i64 0, .int .i64 0, .int .i64 0, .int .i64 0, .int .i64 0, .int .i64 0, .int .i64 0, .int .i64 0, .int .i64 0, .int .i64 0, .int .i64 0, .int .i64 0, .int .i64 0, .int .i64 0, .int .i64 0, .int .i64 0, .int .i64 0, .int .i64 0, .int .i64 0, .int .i64 0, .int .i64 0, .int .i64 0, .int .i64 0, .int .i64 0, .int .i64 0, .int .i64 0, .int .i64 0, .int .i64 0, .int .i64 0, .int .i64 0] 98)) (b := w1.heap.size) (Nat.le_refl _) (arrV .i64 37 fun _ => 0)
  have P2 := hP1.below kp (Nat.le_refl _)
  have K0 := Lib.hid (And.intro b2 (And.intro b1 (And.intro P2 k2)))
  clear a0 k0 hb1 b0 k1 b1 b2 k2 kp P2 hP1
  go_wp2_with (refine wpList_store_z37 a1 _ _ _ rfl rfl rfl rfl sizeShades ?_)
  clear a1
  go_loopw [12] (fun i wr => ∃ k : Nat, k ≤ 37 ∧ i = .int .i64 (k : Int) ∧ HasArr wr w.heap.size 98 .i64 37 (fun _ => 0) ∧ HasArr wr w1.heap.size 98 .i64 37 (mixN F k) ∧ PaperB p q (.slice (some ⟨b, 0, none⟩) n cap) H wr ∧ Below w.heap.size w wr) (fun i _ => 37 - (intOf i).toNat)
  case atStart => exact ⟨0, by omega, rfl, K0.out⟩
  case round =>
    obtain ⟨k, hk, rfl, h0, h1, hP, hB⟩ := hrel
    clear K0
    by_cases hkn : k < 37
    · have w4 : (k : Int) < 37 := by omega
      have hst := fun (W : World) (h : HasArr W w1.heap.size 98 .i64 37 (mixN F k)) => (h.set k (F k)).congr (fun j _ => mixN_step F k j)
      have hc := Hp2.out p q k hkn wr (Hr.out.below hB hlt) hP
      generalize F k = X at *
      have Hst := Lib.hid hst; clear hst
      have Hc := Lib.hid hc; clear hc
      have HR0 := Lib.hid h0; clear h0
      have HR1 := Lib.hid h1; clear h1
      have HB := Lib.hid hB; clear hB
      have HP := Lib.hid hP; clear hP
      go_wp2_with fail
      refine Hc.out.mono ?_; rintro e w2 ⟨rfl, hb2⟩
      have g0 := HR0.out.below hb2 HR0.out.lt
      have g1 := HR1.out.below hb2 HR1.out.lt
      have gP := HP.out.below hb2 (Nat.le_refl _)
      have gB := HB.out.trans (hb2.mono HB.out.size)
      have d0 := g1.cell hkn
      have e0 := g1.free k
      have K := Lib.hid (And.intro (g0.other (a := ⟨w1.heap.size, k, none⟩) (by simp; omega) (.int .i64 X)) (And.intro (Hst.out _ g1) (And.intro (gP.low (((Below.refl w1.heap.size w2)).setCell (p := ⟨w1.heap.size, k, none⟩) (Nat.le_refl _) (.int .i64 X)) hpl hql) (gB.setCell (p := ⟨w1.heap.size, k, none⟩) (by simp; omega) (.int .i64 X)))))
      clear g0 g1 gB gP hb2
      go_wp2_with fail
      go_roundw
      case rel => exact ⟨k + 1, by omega, by go_num, K.out⟩
      case measure => simp [intOf]; omega
    · obtain rfl : k = 37 := by omega
      have h1 := h1.congr (g := F) (fun j hj => by simp [mixN, hj])
      have h2' := h0.setRow .i64 F
      have hB' := below_setRow hB (b := w.heap.size) (by omega) (arrV .i64 37 F)
      go_wp2_with (first | (refine wpList_load_arr h1 _ _ rfl rfl rfl Tryz.underlying98 sizeShades ?_) | (refine wpList_store_arr h0 _ _ _ rfl rfl rfl rfl sizeShades ?_))
      refine bodyPost_ret (v := .agg (arrV .i64 37 F)) ?_ rfl ⟨rfl, hB'⟩
      exact results_cell_row rfl _ _ _ _ _ _ _ rfl h2' Tryz.underlying98 rfl (by rw [arrV_size]; exact sizeShades)

set_option maxRecDepth 100000 in
set_option maxHeartbeats 1000000 in
theorem shAt_any (f : Nat → Int) (k : Nat) (hk : k < 37) (w : World) :
    Calls Tryz.prog 91 #[.agg (arrV .i64 37 f), .int .i64 (k : Int)] w fun e w' => e = .returned (.int .i64 (f k)) ∧ Below w.heap.size w w' := by
  have a0 := HasArr.new w 98 .i64 37 f
  have c0 := a0.cell hk
  have w4 : (k : Int) < 37 := by omega
  have kB := (Below.refl w.heap.size w).alloc (Nat.le_refl _) (.cells (arrV .i64 37 f) 98)
  generalize f k = X at *
  go_enter Tryz.func91, Tryz.ntmps91
  go_wp2_with fail
  go_ret
  exact ⟨rfl, kB⟩

/-- The least light whose density is at least y, and the code. -/
def leaK (f : Nat → Int) (y : Int) : Nat := firstK (fun k => decide (y ≤ f k)) 37
def leaC (f : Nat → Int) (y : Int) : Int := if leaK f y = 37 then 6 else 0
theorem leaK_le (f : Nat → Int) (y : Int) : leaK f y ≤ 37 := firstK_spec.1
theorem leaC_6 {f : Nat → Int} {y : Int} (h : leaK f y = 37) : leaC f y = 6 := by simp [leaC, h]
theorem leaC_0 {f : Nat → Int} {y : Int} (h : leaK f y < 37) : leaC f y = 0 := by simp [leaC]; omega
/-- The least light, -1 if there is none. -/
def leaR (f : Nat → Int) (y : Int) : Int := if leaK f y = 37 then -1 else (leaK f y : Nat)
theorem leaR_no {f : Nat → Int} {y : Int} (h : leaK f y = 37) : leaR f y = -1 := by simp [leaR, h]
theorem leaR_yes {f : Nat → Int} {y : Int} {k : Nat} (h : leaK f y = k) (hk : k < 37) : leaR f y = k := by unfold leaR; rw [h, if_neg (by omega)]
/-- No light ahead of k has it. -/
def NoneYet (f : Nat → Int) (y : Int) (k : Nat) : Prop := ∀ j, j < k → f j < y
theorem NoneYet.next {f : Nat → Int} {y : Int} {k : Nat} (h : NoneYet f y k) (hk : ¬ y ≤ f k) : NoneYet f y (k + 1) := fun j hj => by
  rcases Nat.lt_or_ge j k with h1 | h1
  · exact h j h1
  · obtain rfl : j = k := by omega
    omega
theorem NoneYet.found {f : Nat → Int} {y : Int} {k : Nat} (h : NoneYet f y k) (h37 : k < 37) (hk : y ≤ f k) : leaK f y = k :=
  firstK_eq (by omega) (fun j hj => by have := h j hj; simp; omega) (fun _ => by simpa using hk)
theorem NoneYet.none {f : Nat → Int} {y : Int} (h : NoneYet f y 37) : leaK f y = 37 :=
  firstK_eq (by omega) (fun j hj => by have := h j hj; simp; omega) (fun h => by omega)

set_option maxRecDepth 100000 in
set_option maxHeartbeats 1000000 in
theorem l05Least_any (b n cap : Nat) (xs ys : Nat → Int) (d y : Int) (hn : n ≤ 1048576) (c : Crv n xs ys) (h : 0 ≤ d) (h' : d ≤ 400) (w : World) (hr : PtRow w b n xs ys) :
    Calls Tryz.prog 55 #[.slice (some ⟨b, 0, none⟩) n cap, .int .i64 d, .int .i64 y] w fun e w' => e = .returned (.int .i64 (leaR (shdF n xs ys d) y)) ∧ Below w.heap.size w w' := by
  have hlt := hr.lt
  have hdk := fun (k : Nat) (hk : k < 37) W hW => l05Dark_any b n cap xs ys d (k : Int) hn c h h' (by omega) (by omega) W hW
  have hF : ∀ k : Nat, darkV n xs ys d (k : Int) = shdF n xs ys d k := fun k => rfl
  have hd2 : ∀ (k : Nat) (hk : k < 37) W (hW : PtRow W b n xs ys), Calls Tryz.prog 74 #[.slice (some ⟨b, 0, none⟩) n cap, .int .i64 d, .int .i64 (k : Int)] W fun e w' => e = .returned (.int .i64 (shdF n xs ys d k)) ∧ Below W.heap.size W w' := fun k hk W hW => by rw [← hF k]; exact hdk k hk W hW
  clear hdk hF
  generalize shdF n xs ys d = f at *
  have Hd := Lib.hid hd2; clear hd2
  have Hr := Lib.hid hr; clear hr
  go_enter Tryz.func55, Tryz.ntmps55
  go_wp2_with fail
  go_loopw [7] (fun i wr => ∃ k : Nat, k ≤ 37 ∧ i = .int .i64 (k : Int) ∧ NoneYet f y k ∧ Below w.heap.size w wr) (fun i _ => 37 - (intOf i).toNat)
  case atStart => exact ⟨0, by omega, rfl, fun j hj => by omega, Below.refl _ _⟩
  case round =>
    obtain ⟨k, hk, rfl, hno, hB⟩ := hrel
    have HN := Lib.hid hno; clear hno
    by_cases hkn : k < 37
    · have w4 : (k : Int) ≤ 36 := by omega
      have hc := Hd.out k hkn wr (Hr.out.below hB hlt)
      by_cases hy : y ≤ f k
      · have hf := HN.out.found hkn hy
        have HF := Lib.hid hf; clear hf
        generalize f k = X at *
        have Hc := Lib.hid hc; clear hc
        go_wp2_with fail
        refine Hc.out.mono ?_; rintro e w2 ⟨rfl, hb2⟩
        go_wp2_with fail
        go_ret
        rw [leaR_yes HF.out hkn]
        exact ⟨rfl, hB.trans (hb2.mono hB.size)⟩
      · have hnx := HN.out.next hy
        have HX := Lib.hid hnx; clear hnx
        generalize f k = X at *
        have hd : decide (y ≤ X) = false := decide_eq_false hy
        have Hc := Lib.hid hc; clear hc
        go_wp2_with fail
        refine Hc.out.mono ?_; rintro e w2 ⟨rfl, hb2⟩
        go_wp2_with fail
        go_roundw
        case rel => exact ⟨k + 1, by omega, by go_num, HX.out, hB.trans (hb2.mono hB.size)⟩
        case measure => simp [intOf]; omega
    · obtain rfl : k = 37 := by omega
      have hf := HN.out.none
      have HF := Lib.hid hf; clear hf
      go_wp2_with fail
      go_ret
      rw [leaR_no HF.out]
      exact ⟨rfl, hB⟩

set_option maxRecDepth 100000 in
set_option maxHeartbeats 4000000 in
theorem bandsAt_any (f : Nat → Int) (g n cap : Nat) (xs : Nat → Int) (hn0 : 0 < n) (hn : n ≤ 100) (hx : ∀ j, j < n → 0 ≤ xs j ∧ xs j ≤ 36) (w : World) (hr : IRow w g n xs) :
    Calls Tryz.prog 73 #[.agg (arrV .i64 37 f), .slice (some ⟨g, 0, none⟩) n cap] w (MadeN n (fun j => f (xs j).toNat) w) := by
  have hlt := hr.lt
  have a0 := HasArr.new w 98 .i64 37 f
  have k0 := (Below.refl w.heap.size w).alloc (Nat.le_refl _) (.cells (arrV .i64 37 f) 98)
  have o1 := World.ownsRow_lit (size := 1) (e := 2) (base := w.heap.size + 1) (w.alloc (.cells (arrV .i64 37 f) 98)) #[] 0 (by simp) (Nat.zero_le _) rfl
  simp only [World.size_alloc] at o1
  have a1 := a0.alloc (.cells #[] 2)
  have k1 := k0.alloc k0.size (.cells #[] 2)
  have hat := fun k hk W => shAt_any f k hk W
  have hG : ∀ j, (fun j => f (xs j).toNat) j = f (xs j).toNat := fun _ => rfl
  generalize (fun j => f (xs j).toNat) = G at *
  have Hat := Lib.hid hat; clear hat
  have HG := Lib.hid hG; clear hG
  have Hx := Lib.hid hx; clear hx
  go_enter Tryz.func73, Tryz.ntmps73
  go_wp2_with fail
  go_loopw [5, 11] (fun lv iv wr => ∃ k : Nat, iv = .int .i64 k ∧ k ≤ n ∧ wr.ownsRow (w.heap.size + 1) 2 1 lv k (tabV G k) ∧ HasArr wr w.heap.size 98 .i64 37 f ∧ Below w.heap.size w wr) (fun _ iv _ => n - (intOf iv).toNat)
  case atStart => exact ⟨0, rfl, by omega, o1, a1, k1⟩
  case round =>
    clear o1 a0 a1 k0 k1
    obtain ⟨k, rfl, hk, hown, hA, k2⟩ := hrel
    by_cases hkn : k < n
    rotate_left
    · obtain rfl : k = n := by omega
      obtain ⟨g', cap', rfl, hg', hrow'⟩ := irow_own hown (by omega)
      go_wp2_with fail
      go_ret
      exact ⟨g', cap', rfl, by omega, hrow', k2⟩
    have kn : (k : Int) < (n : Int) := by omega
    have c1 := (hr.below k2 hlt).cell hkn
    have hxk := Hx.out k hkn
    have hgk := HG.out k
    obtain ⟨m, hm⟩ : ∃ m : Nat, xs k = (m : Int) := ⟨(xs k).toNat, by omega⟩
    rw [hm] at c1 hxk hgk
    clear hm
    have hm37 : m < 37 := by omega
    have htn : ((m : Int)).toNat = m := by omega
    rw [htn] at hgk
    clear htn
    have hv := Hat.out m hm37
    generalize f m = V at hv hgk
    have HV := Lib.hid hgk; clear hgk
    have Hv := Lib.hid hv; clear hv
    have z2 := k2.size
    have hAl := hA.lt
    have hfar := fun jj hjj => hown.lt jj hjj
    go_wp2_with (refine wpList_load_arr hA _ _ rfl rfl rfl Tryz.underlying98 sizeShades ?_)
    refine (Hv.out _).mono ?_; rintro x w3 ⟨rfl, hb3⟩
    have k3 := k2.trans (hb3.mono k2.size)
    have own3 := own_belowT hown hb3
    have A3 := hA.below hb3 hA.lt
    have z3 := hb3.size
    clear hb3 k2 hown hA c1
    go_wp2_with (at_builtin; refine wpList_append1 rfl _ _ rfl rfl own3 rfl (by omega) (by omega) HV.out ?_)
    intro v' w5 hown5 hg2 hat
    have A5 := A3.farS hg2 (fun e => by have := (hfar _ e.symm).1; omega)
    have k5 : Below w.heap.size w w5 := k3.grown hg2 k3.size (fun jj hjj => by have := (hfar jj hjj).1; omega)
    clear hg2 k3 own3 A3 hat
    go_wp2_with fail
    go_roundw
    case rel => exact ⟨k + 1, by go_num, by omega, hown5, A5, k5⟩
    case measure => simp [intOf]; omega
end Go.Proofs.YtnlcjbobfhmnmabGreatDoor

