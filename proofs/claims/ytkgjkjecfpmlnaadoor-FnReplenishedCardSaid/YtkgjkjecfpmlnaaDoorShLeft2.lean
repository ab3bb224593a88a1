/-
  Sheets that are left: what the program returns. Condition: its errors, and its table of times.
-/
import Derived.Test.YtkgjkjecfpmlnaaDoorShLeft
namespace Go.Proofs.YtkgjkjecfpmlnaaDoor
open Go.RowKit Go.Shelf

section
variable {p k b t v u a s sl : Int}
theorem arC_one (ok : Bool) (s sl : Int) : arC ok 1 (fun _ => s) sl = if ok = true then (if inB s 1 5000 = true then (if inB sl 0 36 = true then 0 else 2) else 2) else 1 := by
  unfold arC
  cases ok <;> simp [allA]
  cases inB s 1 5000 <;> simp

theorem row_one (w : World) (g : Nat) (hg : g = w.heap.size) (T : TypeId) (x : Int) : (w.alloc (.cells #[.int .i64 x] T)).rowIs g T 1 (fun _ => .int .i64 x) := by
  subst hg
  refine ⟨#[.int .i64 x], heap_alloc_new w _, rfl, fun i hi => ?_⟩
  obtain rfl : i = 0 := by omega
  rfl

set_option maxRecDepth 100000 in
set_option maxHeartbeats 2000000 in
theorem shl1_any (z : Ers) (n i j l : Nat) (hu : 0 ≤ u) (hs : 0 ≤ s) (h0 : 0 ≤ sl) (h1 : sl ≤ 36) (h : BOk p k b t v (u + n * s) a) (w : World) (hTr : TrAt w i p k b t v u a) (hj : w.cell? ⟨j, 0, none⟩ = some (.int .i64 s)) (hl : w.cell? ⟨l, 0, none⟩ = some (.int .i64 sl)) (hT : TimEnv w) (hE : ErrEnv z w) :
    Calls Tryd.prog 55 #[.int .i64 n, .pointer (some ⟨i, 0, none⟩), .pointer (some ⟨j, 0, none⟩), .pointer (some ⟨l, 0, none⟩)] w fun e w' => e = .returned (.bool (shQ p k v u a s sl n)) ∧ Below w.heap.size w w' := by
  have hm0 : 0 ≤ (n : Int) * s := Int.mul_nonneg (by omega) hs
  have hm1 := h.u1
  have hst := fun W hT hE => isSlowerThan_any z sl h0 h1 h W hT hE
  have hli := hTr.lt
  have hlj := cell_ltB hj
  have hll := cell_ltB hl
  have k1 : Below w.heap.size w (w.alloc (.cells #[.int .i64 p, .int .i64 k, .int .i8 b, .int .i8 t, .int .i64 v, .int .i64 (u + n * s), .int .i64 a] 82)) := (Below.refl _ _).alloc (Nat.le_refl _) _
  obtain ⟨c0, c1, c2, c3, c4, c5, c6, _⟩ := hTr
  unfold shQ
  clear h
  generalize slw (strn p k v (u + n * s) a) = K at *
  generalize hM : (n : Int) * s = M at *
  have Hst := Lib.hid hst; clear hst
  go_enter Tryd.func55, Tryd.ntmps55
  go_wp2_with fail
  refine (Hst.out _ (hT.below k1 (Nat.le_refl _)) (hE.below k1 (Nat.le_refl _))).mono ?_; rintro e w1 ⟨rfl, hb1⟩
  go_wp2_with fail
  go_ret
  exact ⟨rfl, k1.trans (hb1.mono k1.size)⟩

theorem enter_s1 (args : Array Value) (w : World) : (callFunc 55 args).run Tryd.prog w = .ok (.enter 55 args) w := by kernel_rfl

set_option maxRecDepth 100000 in
set_option maxHeartbeats 2000000 in
theorem sheetsLeft_any (z : Ers) (s sl : Int) (hb : -128 ≤ b) (hb' : b ≤ 127) (ht : -128 ≤ t) (ht' : t ≤ 127) (w : World) (hT : TimEnv w) (hE : ErrEnv z w) :
    Calls Tryd.prog 34 #[devV p k b t, batV v u a, .int .i64 s, .int .i64 sl] w (Coded z (.int .i64 (shR p k b t v u a s sl)) (shC p k b t v u a s sl) w.heap.size w) := by
  have kk : Below w.heap.size w ((((w.alloc (.cells #[.int .i64 p, .int .i64 k, .int .i8 b, .int .i8 t] 26)).alloc (.cells #[.int .i64 v, .int .i64 u, .int .i64 a] 28)).alloc (.cells #[.int .i64 s] 2)).alloc (.cells #[.int .i64 sl] 2)) := by
    repeat (first | exact Below.refl _ _ | (refine Below.alloc ?_ (by first | omega | (simp; done) | (simp; omega)) _))
  have kk5 := kk.alloc kk.size (.cells #[.int .i64 s] 2)
  have sc : ((((w.alloc (.cells #[.int .i64 p, .int .i64 k, .int .i8 b, .int .i8 t] 26)).alloc (.cells #[.int .i64 v, .int .i64 u, .int .i64 a] 28)).alloc (.cells #[.int .i64 s] 2)).alloc (.cells #[.int .i64 sl] 2)).cell? ⟨w.heap.size + 1 + 1, 0, none⟩ = some (.int .i64 s) := below_cellOf ((Below.refl _ _).alloc (Nat.le_refl _) _) (boxAt _ (w.heap.size + 1 + 1) (by simp) _ _) (Nat.le_refl _)
  have lc : ((((w.alloc (.cells #[.int .i64 p, .int .i64 k, .int .i8 b, .int .i8 t] 26)).alloc (.cells #[.int .i64 v, .int .i64 u, .int .i64 a] 28)).alloc (.cells #[.int .i64 s] 2)).alloc (.cells #[.int .i64 sl] 2)).cell? ⟨w.heap.size + 1 + 1 + 1, 0, none⟩ = some (.int .i64 sl) := boxAt _ _ (by simp) _ _
  have ne := errNeB
  have nn := nilNeB
  have htf := trayFor_any (p := p) (k := k) (b := b) (t := t) (v := v) (u := u) (a := a) z (w.heap.size + 1 + 1 + 1 + 1) 1 1 (fun _ => s) sl (by omega) hb hb' ht ht' (((((w.alloc (.cells #[.int .i64 p, .int .i64 k, .int .i8 b, .int .i8 t] 26)).alloc (.cells #[.int .i64 v, .int .i64 u, .int .i64 a] 28)).alloc (.cells #[.int .i64 s] 2)).alloc (.cells #[.int .i64 sl] 2)).alloc (.cells #[.int .i64 s] 2))
    (.of (row_one _ _ (by simp) 2 s)) (hE.below kk5 (Nat.le_refl _))
  rw [arC_one] at htf
  have hCdef : shC p k b t v u a s sl = if bathOk p k b t v u a = true then (if inB s 1 5000 = true then (if inB sl 0 36 = true then 0 else 2) else 2) else 1 := rfl
  rw [← hCdef] at htf
  unfold shR AfterOut at *
  by_cases hC0 : shC p k b t v u a s sl = 0
  rotate_left
  · have hC0' := Lib.hid hC0
    generalize shC p k b t v u a s sl = C at *
    generalize ifC C p = P at htf
    generalize ifC C k = K at htf
    generalize ifC C b = B at htf
    generalize ifC C t = T at htf
    generalize ifC C v = V at htf
    generalize ifC C u = U at htf
    generalize ifC C a = X at htf
    have hR : ifC C (shN p k v u a s sl) = 0 := by unfold ifC; rw [if_neg hC0]
    rw [hR]
    have Htf := Lib.hid htf; clear htf hC0 hR hCdef nn
    go_enter Tryd.func34, Tryd.ntmps34
    go_wp2_with fail
    refine Htf.out.mono ?_; rintro e w1 ⟨ev, rfl, hev, hb1⟩
    obtain ⟨ad, rfl⟩ := isCode_err hev hC0'.out
    have k1 := kk5.trans (hb1.mono kk5.size)
    go_wp2_with fail
    go_ret2
    exact ⟨_, hev, rfl, k1.alloc k1.size _⟩
  rw [hC0] at htf ⊢
  simp only [ifC_0] at htf ⊢
  have hall : bathOk p k b t v u a = true ∧ inB s 1 5000 = true ∧ inB sl 0 36 = true := by
    rw [hC0] at hCdef
    rcases h1 : bathOk p k b t v u a with _ | _
    · rw [h1] at hCdef; simp at hCdef
    · rcases h2 : inB s 1 5000 with _ | _
      · rw [h1, h2] at hCdef; simp at hCdef
      · rcases h3 : inB sl 0 36 with _ | _
        · rw [h1, h2, h3] at hCdef; simp at hCdef
        · exact ⟨rfl, rfl, rfl⟩
  have h := bathOk_true.1 hall.1
  have s01 := inB_true.1 hall.2.1
  have sl01 := inB_true.1 hall.2.2
  clear hall hCdef hC0
  obtain ⟨hc0, hc1⟩ := h.cap
  have hroom0 := h.room
  have hu0 := h.u0
  have hu1 := h.u1
  have hrb := room_bd h s01.1
  have hrm := fun W => roomIn_any p k b t v u a (by omega) hc1 hu0 hu1 W
  have hq0 : 0 ≤ (v * p - 1000 * u) / (1000 * s) := Int.ediv_nonneg (by omega) (by omega)
  have hre : (v * p - 1000 * u) / (1000 * s) = ((room p v u s : Nat) : Int) := by unfold room; omega
  have Htf := Lib.hid htf; clear htf ne
  have Hrm := Lib.hid hrm; clear hrm
  go_enter Tryd.func34, Tryd.ntmps34
  go_wp2_with fail
  refine Htf.out.mono ?_; rintro e w1 ⟨ev, rfl, hev, hb1⟩
  obtain rfl := isCode_zero hev rfl
  have hb15 := ((Below.refl _ _).alloc (Nat.le_refl _) (.cells #[.int .i64 s] 2)).trans (hb1.mono (by simp))
  have k1 := kk.trans (hb15.mono kk.size)
  have sc1 := below_cellOf hb15 sc (Nat.le_refl _)
  have lc1 := below_cellOf hb15 lc (Nat.le_refl _)
  have T1 := TrAt.new w1 82 p k b t v u a
  have kA : Below w1.heap.size w1 (w1.alloc (.cells #[.int .i64 p, .int .i64 k, .int .i8 b, .int .i8 t, .int .i64 v, .int .i64 u, .int .i64 a] 82)) := (Below.refl _ _).alloc (Nat.le_refl _) _
  have sc2 := below_cellOf kA sc1 (Nat.le_refl _)
  have lc2 := below_cellOf kA lc1 (Nat.le_refl _)
  have k2 := k1.trans (kA.mono k1.size)
  clear hb1 hb15 k1 sc lc kk kk5 Htf hev kA sc1 lc1
  go_wp2_with fail
  generalize hj : w1.heap.size = j at *
  generalize w1.alloc (.cells #[.int .i64 p, .int .i64 k, .int .i8 b, .int .i8 t, .int .i64 v, .int .i64 u, .int .i64 a] 82) = W at *
  have T9 := T1
  obtain ⟨c0, c1, c2, c3, c4, c5, c6, _⟩ := T9
  refine wp_region_quietD (Below W.heap.size W) (by kernel_rfl) (by kernel_rfl) (below_drew1 _) ?_
  have n0 := below_nonempty W
  have f0 := inCell c0
  have f1 := inCell c1
  have f2 := inCell c2
  have f3 := inCell c3
  have f4 := inCell c4
  have f5 := inCell c5
  have f6 := inCell c6
  have f7 := inCell sc2
  repeat (go_big_quiet_step (first | (go_at_call 53; exact inCall _ (Hrm.out _))))
  refine wpQuiet_nil ?_
  rintro _ ⟨y, rfl⟩
  have hY := y.ok
  generalize y.w = Y at *
  have k3 := k2.trans (hY.mono k2.size)
  have T3 := T1.below hY (Nat.le_refl _)
  have sc3 := below_cellOf hY sc2 (Nat.le_refl _)
  have lc3 := below_cellOf hY lc2 (Nat.le_refl _)
  have hse := search_any 55 #[.pointer (some ⟨j, 0, none⟩), .pointer (some ⟨w.heap.size + 1 + 1, 0, none⟩), .pointer (some ⟨w.heap.size + 1 + 1 + 1, 0, none⟩)] (room p v u s) (shQ p k v u a s sl) Y (by omega) enter_s1
    (fun n V hV hn => shl1_any z n j (w.heap.size + 1 + 1) (w.heap.size + 1 + 1 + 1) hu0 (by omega) sl01.1 sl01.2 (sheets_ok h s01.1 (by omega)) V (T3.below hV (Nat.le_refl _)) (below_cellOf hV sc3 (Nat.le_refl _)) (below_cellOf hV lc3 (Nat.le_refl _)) (hT.below (k3.trans (hV.mono k3.size)) (Nat.le_refl _)) (hE.below (k3.trans (hV.mono k3.size)) (Nat.le_refl _)))
    (fun x y hxy hy => shQ_mono h s01.1 x y hxy hy)
  have hN : shN p k v u a s sl = least (shQ p k v u a s sl) (room p v u s) := rfl
  rw [← hN] at hse
  rw [← hre] at hse
  generalize shN p k v u a s sl = M at *
  have Hse := Lib.hid hse; clear hse h hN hre
  clear f0 f1 f2 f3 f4 f5 f6 f7 n0 c0 c1 c2 c3 c4 c5 c6 T3 sc3 lc3 T1 sc2 lc2
  go_wp2_with fail
  refine Hse.out.mono ?_; rintro e w5 ⟨rfl, hb5⟩
  go_wp2_with fail
  go_ret2
  exact ⟨_, .ok, rfl, k3.trans (hb5.mono k3.size)⟩

set_option maxHeartbeats 400000 in
theorem SheetsLeft_any (z : Ers) (s sl : Int) (hb : -128 ≤ b) (hb' : b ≤ 127) (ht : -128 ≤ t) (ht' : t ≤ 127) (w : World) (hT : TimEnv w) (hE : ErrEnv z w) :
    Calls Tryd.prog 11 #[devV p k b t, batV v u a, .int .i64 s, .int .i64 sl] w fun e w' => e = .returned (.tuple #[.int .i64 (shR p k b t v u a s sl), .int .i64 (shC p k b t v u a s sl)]) ∧ Below w.heap.size w w' := by
  have hB0 := below_2 w (.cells #[.int .i64 p, .int .i64 k, .int .i8 b, .int .i8 t] 26) (.cells #[.int .i64 v, .int .i64 u, .int .i64 a] 28)
  have hst := sheetsLeft_any (p := p) (k := k) (b := b) (t := t) (v := v) (u := u) (a := a) z s sl hb hb' ht ht' _ (hT.below hB0 (Nat.le_refl _)) (hE.below hB0 (Nat.le_refl _))
  generalize shR p k b t v u a s sl = R at *
  generalize shC p k b t v u a s sl = C at *
  have Hst := Lib.hid hst; clear hst
  go_enter Tryd.func11, Tryd.ntmps11
  go_wp2_with fail
  refine Hst.out.mono ?_; rintro e w1 ⟨x, hx, rfl, hb1⟩
  have k1 := hB0.trans (hb1.mono hB0.size)
  go_wp2_with fail
  refine (codedInt_any hx _ _ (hE.below k1 (Nat.le_refl _))).mono ?_; rintro e w2 ⟨rfl, rfl⟩
  go_wp2_with fail
  go_ret2
  exact ⟨rfl, k1⟩

end
end Go.Proofs.YtkgjkjecfpmlnaaDoor
