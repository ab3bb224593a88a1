/-
  A strip read from its text: by the program and by the reference, for every text of at most 1048576 bytes. Condition of the program's: its variables hold their own errors, and the library's two theirs.
-/
import Derived.Test.YtnlcjbobfhmnmabGreatDoorLibEnv
import Derived.Test.YtnlcjbobfhmnmabGreatDoorFiner
import Derived.Test.YtnlcjbobfhmnmabGreatDoorCut
import Derived.Deep.RegionWith
import Derived.Deep.RegionHeld3
namespace Go.Proofs.YtnlcjbobfhmnmabGreatDoor
open Go.RowKit

/-- What comes back: a strip, and a code. -/
def StpOut (v : Value) (c : Int) (w : World) (e : Ending) (w' : World) : Prop := e = .returned (.tuple #[v, .int .i64 c]) ∧ Below w.heap.size w w'

/-- What three words say. -/
theorem rs_cases {l : List UInt8} (h3 : (splitL 32 l).length = 3) :
    (numOk (rsX l) = false ∧ rsC l = 5 ∧ rsV l = stV 0 0 0) ∨ (numOk (rsX l) = true ∧ numOk (rsY l) = false ∧ rsC l = 5 ∧ rsV l = stV 0 0 0) ∨ (numOk (rsX l) = true ∧ numOk (rsY l) = true ∧ numOk (rsZ l) = false ∧ rsC l = 5 ∧ rsV l = stV 0 0 0)
    ∨ ((numOk (rsX l) = true ∧ numOk (rsY l) = true ∧ numOk (rsZ l) = true) ∧
      ((100 < numR (rsX l) ∧ rsC l = 5 ∧ rsV l = stV 0 0 0) ∨ (¬ 100 < numR (rsX l) ∧ 100 < numR (rsY l) ∧ rsC l = 5 ∧ rsV l = stV 0 0 0) ∨ (¬ 100 < numR (rsX l) ∧ ¬ 100 < numR (rsY l) ∧ 100 < numR (rsZ l) ∧ rsC l = 5 ∧ rsV l = stV 0 0 0)
      ∨ ((¬ 100 < numR (rsX l) ∧ ¬ 100 < numR (rsY l) ∧ ¬ 100 < numR (rsZ l)) ∧ ((okT (numR (rsX l)) (numR (rsY l)) (numR (rsZ l)) = false ∧ rsC l = 5 ∧ rsV l = stV 0 0 0) ∨ (okT (numR (rsX l)) (numR (rsY l)) (numR (rsZ l)) = true ∧ rsC l = 0 ∧ rsV l = stV (numR (rsX l)) (numR (rsY l)) (numR (rsZ l))))))) := by
  rcases hx : numOk (rsX l) with _ | _
  · exact .inl ⟨rfl, rs_no (by simp [rsGood, hx])⟩
  rcases hy : numOk (rsY l) with _ | _
  · exact .inr (.inl ⟨rfl, rfl, rs_no (by simp [rsGood, hy])⟩)
  rcases hz : numOk (rsZ l) with _ | _
  · exact .inr (.inr (.inl ⟨rfl, rfl, rfl, rs_no (by simp [rsGood, hz])⟩))
  refine .inr (.inr (.inr ⟨⟨rfl, rfl, rfl⟩, ?_⟩))
  have ex : numR (rsX l) = numVal (rsX l) := by simp [numR, hx]
  have ey : numR (rsY l) = numVal (rsY l) := by simp [numR, hy]
  have ez : numR (rsZ l) = numVal (rsZ l) := by simp [numR, hz]
  have hg : rsGood l = okT (numR (rsX l)) (numR (rsY l)) (numR (rsZ l)) := by rw [ex, ey, ez]; simp [rsGood, h3, hx, hy, hz]
  have hyes : rsGood l = true → rsV l = stV (numR (rsX l)) (numR (rsY l)) (numR (rsZ l)) := fun h => by rw [(rs_yes h).2, ex, ey, ez]
  have hno : ∀ (P : Prop), (rsGood l = true → ¬ P) → P → rsC l = 5 ∧ rsV l = stV 0 0 0 := fun P h hP => by
    rcases hh : rsGood l with _ | _
    · exact rs_no hh
    · exact absurd hP (h hh)
  have hb : rsGood l = true → StOk (numR (rsX l)) (numR (rsY l)) (numR (rsZ l)) := fun h => okT_ok (hg ▸ h)
  by_cases p1 : 100 < numR (rsX l)
  · exact .inl ⟨p1, hno _ (fun h => by have := (hb h).a1; omega) p1⟩
  by_cases p2 : 100 < numR (rsY l)
  · exact .inr (.inl ⟨p1, p2, hno _ (fun h => by have := (hb h).b1; omega) p2⟩)
  by_cases p3 : 100 < numR (rsZ l)
  · exact .inr (.inr (.inl ⟨p1, p2, p3, hno _ (fun h => by have := (hb h).c1; omega) p3⟩))
  refine .inr (.inr (.inr ⟨⟨p1, p2, p3⟩, ?_⟩))
  rcases hk : okT (numR (rsX l)) (numR (rsY l)) (numR (rsZ l)) with _ | _
  · exact .inl ⟨rfl, rs_no (hg.trans hk)⟩
  · exact .inr ⟨rfl, (rs_yes (hg.trans hk)).1, hyes (hg.trans hk)⟩

end Go.Proofs.YtnlcjbobfhmnmabGreatDoor


namespace Go.Proofs.YtnlcjbobfhmnmabGreatDoor
open Go.RowKit

theorem scR_same {W : World} {q : Addr} {x y : Value} (h : W.cell? q = some y) : (W.setCell q x).cell? q = some x := World.cell?_setCell_same W q x h
theorem scR_other {W : World} {q r : Addr} {x y : Value} (h : W.cell? q = some y) (ne : r.off ≠ q.off) : (W.setCell r x).cell? q = some y := (World.cell?_setCell_other W r q x (fun e => ne (by rw [e]))).trans h
theorem frR_set {w : World} {q r : Addr} {x : Value} (h : w.frozen? q = false) : (w.setCell r x).frozen? q = false := by
  first | (simp; exact h) | (simpa using h)
theorem ResAt.drewN {w : World} {g : Nat} {a b c : Int} (h : ResAt w g a b c) (n : Nat) : ResAt (w.drewN n) g a b c := ⟨⟨h.at'.c0, h.at'.c1, h.at'.c2⟩, h.fz⟩
theorem ResAt.put0 {w : World} {g : Nat} {a b c : Int} (h : ResAt w g a b c) (v : Int) : ResAt (w.setCell ⟨g, 0, none⟩ (.int .i8 v)) g v b c := ⟨⟨scR_same h.at'.c0, scR_other h.at'.c1 (by simp), scR_other h.at'.c2 (by simp)⟩, fun o => frR_set (h.fz o)⟩
theorem ResAt.put1 {w : World} {g : Nat} {a b c : Int} (h : ResAt w g a b c) (v : Int) : ResAt (w.setCell ⟨g, 1, none⟩ (.int .i8 v)) g a v c := ⟨⟨scR_other h.at'.c0 (by simp), scR_same h.at'.c1, scR_other h.at'.c2 (by simp)⟩, fun o => frR_set (h.fz o)⟩
theorem ResAt.put2 {w : World} {g : Nat} {a b c : Int} (h : ResAt w g a b c) (v : Int) : ResAt (w.setCell ⟨g, 2, none⟩ (.int .i8 v)) g a b v := ⟨⟨scR_other h.at'.c0 (by simp), scR_other h.at'.c1 (by simp), scR_same h.at'.c2⟩, fun o => frR_set (h.fz o)⟩
theorem ResAt.other {w : World} {g : Nat} {a b c : Int} (h : ResAt w g a b c) (g' o' : Nat) (v : Value) (hne : g' ≠ g) : ResAt (w.setCell ⟨g', o', none⟩ v) g a b c :=
  ⟨⟨(World.cell?_setCell_far w ⟨g', o', none⟩ ⟨g, 0, none⟩ v hne).trans h.at'.c0, (World.cell?_setCell_far w ⟨g', o', none⟩ ⟨g, 1, none⟩ v hne).trans h.at'.c1, (World.cell?_setCell_far w ⟨g', o', none⟩ ⟨g, 2, none⟩ v hne).trans h.at'.c2⟩, fun o => frR_set (h.fz o)⟩

/-- How far the words are read. -/
def RdAt (X Y Z : List UInt8) (iv : Value) (a b c : Int) : Prop :=
  iv = .int .i64 0 ∨ (iv = .int .i64 1 ∧ p8 X = some a) ∨ (iv = .int .i64 2 ∧ p8 X = some a ∧ p8 Y = some b) ∨ (iv = .int .i64 3 ∧ p8 X = some a ∧ p8 Y = some b ∧ p8 Z = some c)

set_option maxRecDepth 100000 in
set_option maxHeartbeats 8000000 in
theorem readStrip_any (s : Ers) (q1 q2 : Addr) (l : List UInt8) (hl : l.length ≤ 1048576) (w : World) (hE : ErrEnv s w) (hL : LibEnv q1 q2 w) :
    Calls Tryz.prog 32 #[strV l] w (CodedX s (rsV l) (rsC l) w.heap.size w) := by
  have k0 : Below w.heap.size w (w.alloc (.cells #[.int .i8 0, .int .i8 0, .int .i8 0] 26)) := (Below.refl _ _).alloc (Nat.le_refl _) _
  have R0 := ResAt.new w 26 0 0 0
  have hrl := rs_len l
  have c1 := Cut_any l hl
  have c2 := Cut_any (cutL 32 l).2 (by have := (cutB_len 32 l).2; omega)
  have hf := fun h => rs_fail (l := l) h
  have hr := fun a b c h1 h2 h3 => rs_read (l := l) (a := a) (b := b) (c := c) h1 h2 h3
  have x1 := fun W hW => parse8_any (rsX l) (by omega) q1 q2 W hW
  have x2 := fun W hW => parse8_any (rsY l) (by omega) q1 q2 W hW
  have x3 := fun W hW => parse8_any (rsZ l) (by omega) q1 q2 W hW
  have eX : (cutL 32 l).1 = rsX l := rfl
  have eY : (cutL 32 (cutL 32 l).2).1 = rsY l := rfl
  have eZ : (cutL 32 (cutL 32 l).2).2 = rsZ l := rfl
  unfold CutOut at c1 c2
  rw [eX] at c1
  rw [eY, eZ] at c2
  clear eX eY eZ hrl
  have hgs := World.block_lt_of_cell? w _ hE.c_esyntax
  have hg1 : 0 ≠ w.heap.size := by
    have h : 0 < w.heap.size := hgs
    omega
  have hg2 : w.heap.size ≠ 0 := fun e => hg1 e.symm
  clear hgs
  generalize rsV l = V at *
  generalize rsC l = C at *
  generalize rsX l = X at *
  generalize rsY l = Y at *
  generalize rsZ l = Z at *
  generalize (cutL 32 l).2 = R at c1 c2
  have C1 := Lib.hid c1; clear c1
  have C2 := Lib.hid c2; clear c2
  have HX := Lib.hid x1; clear x1
  have HY := Lib.hid x2; clear x2
  have HZ := Lib.hid x3; clear x3
  have Hf := Lib.hid hf; clear hf
  have Hr := Lib.hid hr; clear hr
  have HE := Lib.hid hE; clear hE
  have HL := Lib.hid hL; clear hL
  unfold P8Out at HX HY HZ
  go_enter Tryz.func32, Tryz.ntmps32
  go_wp2_with fail
  refine (C1.out _).mono ?_; rintro e w1 ⟨fd1, rfl, m1, rfl⟩
  go_wp2_with fail
  refine (C2.out _).mono ?_; rintro e w2 ⟨fd2, rfl, m2, rfl⟩
  have kd := below_drewL k0 (m1 + m2)
  have hzd : ((w.alloc (.cells #[.int .i8 0, .int .i8 0, .int .i8 0] 26)).drewN (m1 + m2)).heap.size = w.heap.size + 1 := by simp
  have Rd : ResAt ((w.alloc (.cells #[.int .i8 0, .int .i8 0, .int .i8 0] 26)).drewN (m1 + m2)) w.heap.size 0 0 0 := R0.drewN _
  have N1 := ResAt.new ((w.alloc (.cells #[.int .i8 0, .int .i8 0, .int .i8 0] 26)).drewN (m1 + m2)) 94 0 0 0
  rw [hzd] at N1
  have k1 := kd.alloc (by rw [hzd]; omega) (.cells #[.int .i8 0, .int .i8 0, .int .i8 0] 94)
  have R1 := Rd.below ((Below.refl (w.heap.size + 1) _).alloc (by rw [hzd]; omega) (.cells #[.int .i8 0, .int .i8 0, .int .i8 0] 94)) (by omega)
  clear R0 Rd k0 kd hzd
  have ix0 : ∀ W, (Instr.index 95 (.agg #[strV X, strV Y, strV Z]) (.int .i64 0)).run Tryz.prog W = .ok (strV X) W := fun _ => by kernel_rfl
  have ix1 : ∀ W, (Instr.index 95 (.agg #[strV X, strV Y, strV Z]) (.int .i64 1)).run Tryz.prog W = .ok (strV Y) W := fun _ => by kernel_rfl
  have ix2 : ∀ W, (Instr.index 95 (.agg #[strV X, strV Y, strV Z]) (.int .i64 2)).run Tryz.prog W = .ok (strV Z) W := fun _ => by kernel_rfl
  go_wp2_with fail
  go_loopw [33] (fun iv wr => ∃ a b c : Int, RdAt X Y Z iv a b c ∧ ResAt wr (w.heap.size + 1) a b c ∧ ResAt wr w.heap.size 0 0 0 ∧ Below w.heap.size w wr) (fun iv _ => (3 - intOf iv).toNat)
  case atStart => exact ⟨0, 0, 0, .inl rfl, N1, R1, k1⟩
  case round =>
    clear N1 R1 k1
    obtain ⟨a, b, c, hrd, N1, R1, k1⟩ := hrel
    rcases hrd with rfl | ⟨rfl, p0⟩ | ⟨rfl, p0, p1⟩ | ⟨rfl, p0, p1, p2⟩
    · go_wp2_with fail
      refine (HX.out _ (HL.out.below k1 (Nat.le_refl _))).mono ?_; rintro e w2 ⟨hp, hb2⟩
      have k2 := k1.trans (hb2.mono k1.size)
      have N2 := N1.below hb2 N1.at'.lt
      have R2 := R1.below hb2 R1.at'.lt
      clear N1 R1 k1 hb2
      rcases hp with ⟨v, h8, rfl⟩ | ⟨h8, n, t, N, rfl⟩
      · have hv := p8_bd h8
        have i1 : IntKind.i8.wrap v = v := IntWalk.i8_in _ (by omega)
        have Np := N2.put0 v
        have kp := k2.setCell (p := ⟨w.heap.size + 1, 0, none⟩) (by simp) (.int .i8 v)
        have Rp := R2.other (w.heap.size + 1) 0 (.int .i8 v) (by omega)
        have hlt := N2.at'.lt
        obtain ⟨⟨s0, s1, s2⟩, fz⟩ := N2
        have z0 := fz 0; have z1 := fz 1; have z2 := fz 2
        clear fz R2 k2
        go_wp2_with fail
        go_roundw
        case rel => exact ⟨v, b, c, .inr (.inl ⟨rfl, h8⟩), Np, Rp, kp⟩
        case measure => simp [intOf]
      · obtain ⟨rfl, rfl⟩ := Hf.out (.inl h8)
        have ce := (HE.out.below k2 (Nat.le_refl _)).c_esyntax
        have hlt := R2.at'.lt
        obtain ⟨⟨r0, r1, r2⟩, fz⟩ := R2
        have z0 := fz 0; have z1 := fz 1; have z2 := fz 2
        clear fz N2
        go_wp2_with fail
        go_region
        go_wp2_with fail
        exact bodyPost_ret (v := .tuple #[stV 0 0 0, errV s.esyntax]) (by simp [results, Tryz.results32, go_sem, r0, r1, r2]) rfl ⟨_, .esyntax, rfl, by (repeat (first | exact Below.refl _ _ | assumption | apply Below.drew | apply below_drewL | apply below_drewP | (refine Below.alloc ?_ (by first | omega | (simp; done) | (simp; omega)) _) | (refine Below.setCell ?_ (by first | omega | (simp; done) | (simp; omega)) _)))⟩
    · go_wp2_with fail
      refine (HY.out _ (HL.out.below k1 (Nat.le_refl _))).mono ?_; rintro e w2 ⟨hp, hb2⟩
      have k2 := k1.trans (hb2.mono k1.size)
      have N2 := N1.below hb2 N1.at'.lt
      have R2 := R1.below hb2 R1.at'.lt
      clear N1 R1 k1 hb2
      rcases hp with ⟨v, h8, rfl⟩ | ⟨h8, n, t, N, rfl⟩
      · have hv := p8_bd h8
        have i1 : IntKind.i8.wrap v = v := IntWalk.i8_in _ (by omega)
        have Np := N2.put1 v
        have kp := k2.setCell (p := ⟨w.heap.size + 1, 1, none⟩) (by simp) (.int .i8 v)
        have Rp := R2.other (w.heap.size + 1) 1 (.int .i8 v) (by omega)
        have hlt := N2.at'.lt
        obtain ⟨⟨s0, s1, s2⟩, fz⟩ := N2
        have z0 := fz 0; have z1 := fz 1; have z2 := fz 2
        clear fz R2 k2
        go_wp2_with fail
        go_roundw
        case rel => exact ⟨a, v, c, .inr (.inr (.inl ⟨rfl, p0, h8⟩)), Np, Rp, kp⟩
        case measure => simp [intOf]
      · obtain ⟨rfl, rfl⟩ := Hf.out (.inr (.inl h8))
        have ce := (HE.out.below k2 (Nat.le_refl _)).c_esyntax
        have hlt := R2.at'.lt
        obtain ⟨⟨r0, r1, r2⟩, fz⟩ := R2
        have z0 := fz 0; have z1 := fz 1; have z2 := fz 2
        clear fz N2
        go_wp2_with fail
        go_region
        go_wp2_with fail
        exact bodyPost_ret (v := .tuple #[stV 0 0 0, errV s.esyntax]) (by simp [results, Tryz.results32, go_sem, r0, r1, r2]) rfl ⟨_, .esyntax, rfl, by (repeat (first | exact Below.refl _ _ | assumption | apply Below.drew | apply below_drewL | apply below_drewP | (refine Below.alloc ?_ (by first | omega | (simp; done) | (simp; omega)) _) | (refine Below.setCell ?_ (by first | omega | (simp; done) | (simp; omega)) _)))⟩
    · go_wp2_with fail
      refine (HZ.out _ (HL.out.below k1 (Nat.le_refl _))).mono ?_; rintro e w2 ⟨hp, hb2⟩
      have k2 := k1.trans (hb2.mono k1.size)
      have N2 := N1.below hb2 N1.at'.lt
      have R2 := R1.below hb2 R1.at'.lt
      clear N1 R1 k1 hb2
      rcases hp with ⟨v, h8, rfl⟩ | ⟨h8, n, t, N, rfl⟩
      · have hv := p8_bd h8
        have i1 : IntKind.i8.wrap v = v := IntWalk.i8_in _ (by omega)
        have Np := N2.put2 v
        have kp := k2.setCell (p := ⟨w.heap.size + 1, 2, none⟩) (by simp) (.int .i8 v)
        have Rp := R2.other (w.heap.size + 1) 2 (.int .i8 v) (by omega)
        have hlt := N2.at'.lt
        obtain ⟨⟨s0, s1, s2⟩, fz⟩ := N2
        have z0 := fz 0; have z1 := fz 1; have z2 := fz 2
        clear fz R2 k2
        go_wp2_with fail
        go_roundw
        case rel => exact ⟨a, b, v, .inr (.inr (.inr ⟨rfl, p0, p1, h8⟩)), Np, Rp, kp⟩
        case measure => simp [intOf]
      · obtain ⟨rfl, rfl⟩ := Hf.out (.inr (.inr h8))
        have ce := (HE.out.below k2 (Nat.le_refl _)).c_esyntax
        have hlt := R2.at'.lt
        obtain ⟨⟨r0, r1, r2⟩, fz⟩ := R2
        have z0 := fz 0; have z1 := fz 1; have z2 := fz 2
        clear fz N2
        go_wp2_with fail
        go_region
        go_wp2_with fail
        exact bodyPost_ret (v := .tuple #[stV 0 0 0, errV s.esyntax]) (by simp [results, Tryz.results32, go_sem, r0, r1, r2]) rfl ⟨_, .esyntax, rfl, by (repeat (first | exact Below.refl _ _ | assumption | apply Below.drew | apply below_drewL | apply below_drewP | (refine Below.alloc ?_ (by first | omega | (simp; done) | (simp; omega)) _) | (refine Below.setCell ?_ (by first | omega | (simp; done) | (simp; omega)) _)))⟩
    · have ha := p8_bd p0
      have hb := p8_bd p1
      have hc := p8_bd p2
      have hcase := Hr.out a b c p0 p1 p2
      have ht := fun W => StripText_any a b c ha.1 ha.2 hb.1 hb.2 hc.1 hc.2 W
      generalize stripTx a b c = x at hcase ht
      have Ht := Lib.hid ht; clear ht p0 p1 p2
      have kq := (Below.refl wr.heap.size wr).alloc (Nat.le_refl _) (.cells #[.int .i8 a, .int .i8 b, .int .i8 c] 26)
      have S2 := StAt.new wr 26 a b c
      have k2 := k1.trans (kq.mono k1.size)
      have R2 := R1.below kq R1.at'.lt
      obtain ⟨⟨n0, n1, n2⟩, fn⟩ := N1
      clear R1 k1
      go_wp2_with fail
      generalize wr.alloc (.cells #[.int .i8 a, .int .i8 b, .int .i8 c] 26) = W at *
      refine (Ht.out _).mono ?_; rintro e w3 ⟨rfl, hb3⟩
      have k3 := k2.trans (hb3.mono k2.size)
      have R3 := R2.below hb3 R2.at'.lt
      have hlt := R3.at'.lt
      obtain ⟨s0, s1, s2⟩ := S2.below hb3 S2.lt
      obtain ⟨⟨r0, r1, r2⟩, fz⟩ := R3
      have z0 := fz 0; have z1 := fz 1; have z2 := fz 2
      have ce := (HE.out.below k3 (Nat.le_refl _)).c_esyntax
      clear fz R2 hb3 k2 kq fn n0 n1 n2
      rcases hcase with ⟨rfl, rfl, rfl⟩ | ⟨hne, rfl, rfl⟩
      · go_wp2_with fail
        exact bodyPost_ret (v := .tuple #[stV a b c, .nilIface]) (by simp [results, Tryz.results32, go_sem, r0, r1, r2]) rfl ⟨_, .ok, rfl, by (repeat (first | exact Below.refl _ _ | assumption | apply Below.drew | apply below_drewL | apply below_drewP | (refine Below.alloc ?_ (by first | omega | (simp; done) | (simp; omega)) _) | (refine Below.setCell ?_ (by first | omega | (simp; done) | (simp; omega)) _)))⟩
      · have hne1 : (x == l) = false := by simpa using hne
        have hne2 : (x != l) = true := by simpa using hne
        go_wp2_with fail
        go_region
        go_wp2_with fail
        exact bodyPost_ret (v := .tuple #[stV 0 0 0, errV s.esyntax]) (by simp [results, Tryz.results32, go_sem, r0, r1, r2]) rfl ⟨_, .esyntax, rfl, by (repeat (first | exact Below.refl _ _ | assumption | apply Below.drew | apply below_drewL | apply below_drewP | (refine Below.alloc ?_ (by first | omega | (simp; done) | (simp; omega)) _) | (refine Below.setCell ?_ (by first | omega | (simp; done) | (simp; omega)) _)))⟩

set_option maxHeartbeats 1000000 in
theorem ReadStrip_any (s : Ers) (q1 q2 : Addr) (l : List UInt8) (hl : l.length ≤ 1048576) (w : World) (hE : ErrEnv s w) (hL : LibEnv q1 q2 w) :
    Calls Tryz.prog 8 #[strV l] w (StpOut (rsV l) (rsC l) w) := by
  have hf := fun W hE hL => readStrip_any s q1 q2 l hl W hE hL
  obtain ⟨x, y, z, hV⟩ := rsV_set l
  rw [hV] at hf ⊢
  generalize rsC l = C at *
  have Hf := Lib.hid hf; clear hf hV
  have k0 : Below w.heap.size w (w.alloc (.cells #[.int .i8 0, .int .i8 0, .int .i8 0] 26)) := (Below.refl _ _).alloc (Nat.le_refl _) _
  have R0 := ResAt.new w 26 0 0 0
  go_enter Tryz.func8, Tryz.ntmps8
  go_wp2_with fail
  refine (Hf.out _ (hE.below k0 (Nat.le_refl _)) (hL.below k0 (Nat.le_refl _))).mono ?_; rintro e w1 ⟨v, hv, rfl, hb1⟩
  have k1 := k0.trans (hb1.mono k0.size)
  have R1 := R0.below hb1 R0.at'.lt
  go_wp2_with fail
  refine (codedStrip_any hv x y z _ (hE.below k1 (Nat.le_refl _))).mono ?_; rintro e w2 ⟨rfl, hb2⟩
  have k2 := k1.trans (hb2.mono k1.size)
  have R2 := R1.below hb2 R1.at'.lt
  have hlt2 := R2.at'.lt
  obtain ⟨⟨r0, r1, r2⟩, fz⟩ := R2
  have z0 := fz 0; have z1 := fz 1; have z2 := fz 2
  clear fz R1 R0 hb1 hb2 k0 k1
  go_wp2_with fail
  exact bodyPost_ret (v := .tuple #[stV x y z, .int .i64 C]) (by simp [results, Tryz.results8, go_sem, r0, r1, r2]) rfl ⟨rfl, by (repeat (first | exact Below.refl _ _ | assumption | apply Below.drew | apply below_drewL | apply below_drewP | (refine Below.alloc ?_ (by first | omega | (simp; done) | (simp; omega)) _) | (refine Below.setCell ?_ (by first | omega | (simp; done) | (simp; omega)) _)))⟩
end Go.Proofs.YtnlcjbobfhmnmabGreatDoor
