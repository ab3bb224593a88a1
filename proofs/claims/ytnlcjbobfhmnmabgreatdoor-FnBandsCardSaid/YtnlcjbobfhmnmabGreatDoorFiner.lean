/-
  A finer strip, with its code: by the program and by the reference, for every strip and number. Condition of the program's: its variables hold their own errors.
-/
import Derived.Test.YtnlcjbobfhmnmabGreatDoorStrip
import Derived.Test.YtnlcjbobfhmnmabGreatDoorNum
import Derived.Test.YtnlcjbobfhmnmabGreatDoorCurA
import Derived.Test.YtnlcjbobfhmnmabGreatDoorQX
import Derived.Lib.MinMax
import Derived.Deep.RegionWith
namespace Go.Proofs.YtnlcjbobfhmnmabGreatDoor
open Go.RowKit

/-- Where a finer strip begins, how many bands it has, the code, and the strip. -/
def finF (a b k : Int) : Int := max 0 (a + b * k - (b - 1))
def finB (c F : Int) : Int := min c (36 - F + 1)
def finC (a b c k : Int) : Int := if okT a b c = true then (if inB k 0 (c - 1) = true then 0 else 2) else 1
def finV (a b c k : Int) : Value := if finC a b c k = 0 then stV (finF a b k) 1 (finB c (finF a b k)) else stV 0 0 0
theorem fin_1 {a b c k : Int} (h : okT a b c = false) : finC a b c k = 1 ∧ finV a b c k = stV 0 0 0 := by
  have h1 : finC a b c k = 1 := by simp [finC, h]
  exact ⟨h1, by simp [finV, h1]⟩
theorem fin_2 {a b c k : Int} (h : okT a b c = true) (h2 : inB k 0 (c - 1) = false) : finC a b c k = 2 ∧ finV a b c k = stV 0 0 0 := by
  have h1 : finC a b c k = 2 := by simp [finC, h, h2]
  exact ⟨h1, by simp [finV, h1]⟩
theorem fin_0 {a b c k : Int} (h : okT a b c = true) (h2 : inB k 0 (c - 1) = true) : finC a b c k = 0 ∧ finV a b c k = stV (finF a b k) 1 (finB c (finF a b k)) := by
  have h1 : finC a b c k = 0 := by simp [finC, h, h2]
  exact ⟨h1, by simp [finV, h1]⟩
theorem finV_set (a b c k : Int) : ∃ x y z, finV a b c k = stV x y z := by
  unfold finV
  split
  · exact ⟨_, _, _, rfl⟩
  · exact ⟨_, _, _, rfl⟩
theorem fin_bd {a b c k : Int} (h : StOk a b c) (h0 : 0 ≤ k) (h1 : k ≤ c - 1) : (0 ≤ finF a b k ∧ finF a b k ≤ 36) ∧ 1 ≤ finB c (finF a b k) ∧ finB c (finF a b k) ≤ 20 := by
  have h2 := h.light h0 (by omega)
  have h3 := h.c0; have h4 := h.c1; have h5 := h.b0
  unfold finB finF
  omega

/-- A block that holds a strip, and may be written. -/
structure ResAt (w : World) (g : Nat) (a b c : Int) : Prop where
  at' : StAt w g a b c
  fz : ∀ o, w.frozen? ⟨g, o, none⟩ = false
theorem ResAt.below {w w' : World} {g : Nat} {a b c : Int} {B : Nat} (h : ResAt w g a b c) (hb : Below B w w') (hB : g < B) : ResAt w' g a b c :=
  ⟨h.at'.below hb hB, fun o => (hb.frozen (p := ⟨g, o, none⟩) hB).trans (h.fz o)⟩
theorem ResAt.new (w : World) (t : TypeId) (a b c : Int) : ResAt (w.alloc (.cells #[.int .i8 a, .int .i8 b, .int .i8 c] t)) w.heap.size a b c :=
  ⟨StAt.new w t a b c, fun o => by simp⟩

set_option maxHeartbeats 1000000 in
theorem codedStrip_any {s : Ers} {v : Value} {c : Int} (h : IsCode s v c) (x y z : Int) (w : World) (hE : ErrEnv s w) :
    Calls Tryz.prog 31 #[stV x y z, v] w fun e w' => e = .returned (.tuple #[stV x y z, .int .i64 c]) ∧ Below w.heap.size w w' := by
  go_enter Tryz.func31, Tryz.ntmps31
  have hk : ∀ W, Below w.heap.size w W → Calls Tryz.prog 47 #[v] W fun e w' => e = .returned (.int .i64 c) ∧ W = w' := fun W hb => codeOf_any h W (hE.below hb (Nat.le_refl _))
  have Hk := Lib.hid hk; clear hk
  go_wp2_with fail
  go_region_with (go_at_call 47; refine (Hk.out _ ?_).mono ?_; (repeat (first | exact Below.refl _ _ | apply Below.drew | (refine Below.alloc ?_ (by simp) _) | (refine Below.setCell ?_ (by simp) _))); rintro e w' ⟨rfl, rfl⟩)
  all_goals
    go_wp2
    refine bodyPost_ret (v := .tuple #[stV x y z, .int .i64 c]) (by simp [results, Tryz.results31, go_sem]) rfl ⟨rfl, ?_⟩
    repeat (first | exact Below.refl _ _ | apply Below.drew | (refine Below.alloc ?_ (by simp) _) | (refine Below.setCell ?_ (by simp) _))

set_option maxHeartbeats 1000000 in
theorem fineStrip_any (F B : Int) (h0 : 0 ≤ F) (h1 : F ≤ 36) (hB : 1 ≤ B) (hB' : B ≤ 20) (w : World) :
    Calls Tryz.prog 82 #[.int .i64 F, .int .i64 B] w fun e w' => e = .returned (stV F 1 (finB B F)) ∧ Below w.heap.size w w' := by
  have hb : finB B F = min B (36 - F + 1) := rfl
  have hbd : 1 ≤ finB B F ∧ finB B F ≤ 20 := by unfold finB; omega
  generalize finB B F = M at *
  have hb2 := hb.symm
  have i1 : IntKind.i8.wrap F = F := IntWalk.i8_in _ (by omega)
  have i2 : IntKind.i8.wrap M = M := IntWalk.i8_in _ (by omega)
  clear hb
  go_enter Tryz.func82, Tryz.ntmps82
  go_wp2
  refine bodyPost_ret (v := stV F 1 M) (by simp [results, Tryz.results82, go_sem]) rfl ⟨rfl, ?_⟩
  (repeat (first | exact Below.refl _ _ | assumption | apply Below.drew | apply below_drewL | apply below_drewP | (refine Below.alloc ?_ (by first | omega | (simp; done) | (simp; omega)) _) | (refine Below.setCell ?_ (by first | omega | (simp; done) | (simp; omega)) _)))

set_option maxHeartbeats 2000000 in
theorem specFinerStrip_any (a b c k : Int) (ha : -128 ≤ a) (ha' : a ≤ 127) (hb : -128 ≤ b) (hb' : b ≤ 127) (hc : -128 ≤ c) (hc' : c ≤ 127) (w : World) :
    Calls Tryz.prog 26 #[stV a b c, .int .i64 k] w fun e w' => e = .returned (.tuple #[finV a b c k, .int .i64 (finC a b c k)]) ∧ Below w.heap.size w w' := by
  have hv := fun W => l05Ok_any a b c ha ha' hb hb' hc hc' W
  rcases h : okT a b c with _ | _
  · obtain ⟨e1, e2⟩ := fin_1 (k := k) h
    rw [e1, e2]
    rw [h] at hv
    have Hv := Lib.hid hv; clear hv h e1 e2
    go_enter Tryz.func26, Tryz.ntmps26
    go_wp2_with fail
    refine (Hv.out _).mono ?_; rintro e w1 ⟨rfl, hb1⟩
    obtain ⟨hc1, hf1⟩ := bcell hb1
    have hz1 : w.heap.size + 1 < w1.heap.size := by have := hb1.size; simp at this; omega
    have k1 : Below w.heap.size w w1 := (((Below.refl _ w).alloc (Nat.le_refl _) _).alloc (by simp) _).trans (hb1.mono (by simp; omega))
    go_wp2_with fail
    refine bodyPost_ret (v := .tuple #[stV 0 0 0, .int .i64 1]) (by simp [results, Tryz.results26, go_sem, hc1]) rfl ⟨rfl, ?_⟩
    (repeat (first | exact Below.refl _ _ | assumption | apply Below.drew | apply below_drewL | apply below_drewP | (refine Below.alloc ?_ (by first | omega | (simp; done) | (simp; omega)) _) | (refine Below.setCell ?_ (by first | omega | (simp; done) | (simp; omega)) _)))
  rw [h] at hv
  have Hv := Lib.hid hv; clear hv
  rcases h2 : inB k 0 (c - 1) with _ | _
  · obtain ⟨e1, e2⟩ := fin_2 h h2
    rw [e1, e2]
    clear h e1 e2
    go_enter Tryz.func26, Tryz.ntmps26
    go_wp2_with fail
    refine (Hv.out _).mono ?_; rintro e w1 ⟨rfl, hb1⟩
    obtain ⟨hc1, hf1⟩ := bcell hb1
    have hz1 : w.heap.size + 1 < w1.heap.size := by have := hb1.size; simp at this; omega
    have k1 : Below w.heap.size w w1 := (((Below.refl _ w).alloc (Nat.le_refl _) _).alloc (by simp) _).trans (hb1.mono (by simp; omega))
    go_wp2_with fail
    refine (l00In_any _ _ _ _).mono ?_; rintro e w2 ⟨rfl, rfl⟩
    go_wp2_with fail
    refine bodyPost_ret (v := .tuple #[stV 0 0 0, .int .i64 2]) (by simp [results, Tryz.results26, go_sem, hc1]) rfl ⟨rfl, ?_⟩
    (repeat (first | exact Below.refl _ _ | assumption | apply Below.drew | apply below_drewL | apply below_drewP | (refine Below.alloc ?_ (by first | omega | (simp; done) | (simp; omega)) _) | (refine Below.setCell ?_ (by first | omega | (simp; done) | (simp; omega)) _)))
  obtain ⟨e1, e2⟩ := fin_0 h h2
  rw [e1, e2]
  have hk := inB_true.1 h2
  have hok := okT_ok h
  have hl := hok.light hk.1 (by omega)
  obtain ⟨hF, hB⟩ := fin_bd hok hk.1 hk.2
  have b0 := hok.b0; have b1 := hok.b1; have a0 := hok.a0; have a1 := hok.a1; have c0 := hok.c0; have c1 := hok.c1
  have eF : finF a b k = max 0 (a + k * b - (b - 1)) := by unfold finF; rw [Int.mul_comm b]
  have eB : finB c (finF a b k) = min c (36 - finF a b k + 1) := rfl
  rw [Int.mul_comm b] at hl
  clear h e1 e2 hok
  generalize hQ : k * b = Q at *
  generalize finB c (finF a b k) = M at *
  generalize finF a b k = F at *
  have HF := Lib.hid eF.symm; clear eF
  have HB := Lib.hid eB.symm; clear eB
  have i1 : IntKind.i8.wrap F = F := IntWalk.i8_in _ (by omega)
  have i2 : IntKind.i8.wrap M = M := IntWalk.i8_in _ (by omega)
  have i3 : IntKind.i64.wrap Q = Q := IntWalk.i64_in _ (by omega)
  have i4 : IntKind.i64.wrap (a + Q) = a + Q := IntWalk.i64_in _ (by omega)
  go_enter Tryz.func26, Tryz.ntmps26
  go_wp2_with fail
  refine (Hv.out _).mono ?_; rintro e w1 ⟨rfl, hb1⟩
  obtain ⟨hc1, hf1⟩ := bcell hb1
  have hz1 : w.heap.size + 1 < w1.heap.size := by have := hb1.size; simp at this; omega
  have k1 : Below w.heap.size w w1 := (((Below.refl _ w).alloc (Nat.le_refl _) _).alloc (by simp) _).trans (hb1.mono (by simp; omega))
  go_wp2_with fail
  refine (l00In_any _ _ _ _).mono ?_; rintro e w2 ⟨rfl, rfl⟩
  go_wp2_with fail
  refine (maxI_any _ _ _).mono ?_; rintro e w2 ⟨rfl, rfl⟩
  rw [HF.out]
  go_wp2_with fail
  refine (minI_any _ _ _).mono ?_; rintro e w2 ⟨rfl, rfl⟩
  rw [HB.out]
  go_wp2_with fail
  refine bodyPost_ret (v := .tuple #[stV F 1 M, .int .i64 0]) (by simp [results, Tryz.results26, go_sem, hc1]) rfl ⟨rfl, ?_⟩
  (repeat (first | exact Below.refl _ _ | assumption | apply Below.drew | apply below_drewL | apply below_drewP | (refine Below.alloc ?_ (by first | omega | (simp; done) | (simp; omega)) _) | (refine Below.setCell ?_ (by first | omega | (simp; done) | (simp; omega)) _)))

set_option maxRecDepth 100000 in
set_option maxHeartbeats 4000000 in
theorem finerStrip_any (s : Ers) (a b c k : Int) (ha : -128 ≤ a) (ha' : a ≤ 127) (hb : -128 ≤ b) (hb' : b ≤ 127) (hc : -128 ≤ c) (hc' : c ≤ 127) (w : World) (hE : ErrEnv s w) :
    Calls Tryz.prog 56 #[stV a b c, .int .i64 k] w (CodedX s (finV a b c k) (finC a b c k) w.heap.size w) := by
  have hv := fun W => ValidStrip_any a b c ha ha' hb hb' hc hc' W
  have k0 : Below w.heap.size w ((w.alloc (.cells #[.int .i8 a, .int .i8 b, .int .i8 c] 26)).alloc (.cells #[.int .i8 0, .int .i8 0, .int .i8 0] 26)) := ((Below.refl _ _).alloc (Nat.le_refl _) _).alloc (by simp) _
  have S0 := (StAt.new w 26 a b c).alloc (.cells #[.int .i8 0, .int .i8 0, .int .i8 0] 26)
  have R0 := ResAt.new (w.alloc (.cells #[.int .i8 a, .int .i8 b, .int .i8 c] 26)) 26 0 0 0
  rw [show (w.alloc (.cells #[.int .i8 a, .int .i8 b, .int .i8 c] 26)).heap.size = w.heap.size + 1 by simp] at R0
  have hgi := World.block_lt_of_cell? w _ hE.c_einvalid
  have hgr := World.block_lt_of_cell? w _ hE.c_erange
  have hg1 : 1 ≠ w.heap.size + 1 := by
    have h : 1 < w.heap.size := hgi
    omega
  have hg2 : w.heap.size + 1 ≠ 1 := fun e => hg1 e.symm
  have hg3 : 2 ≠ w.heap.size + 1 := by
    have h : 2 < w.heap.size := hgr
    omega
  have hg4 : w.heap.size + 1 ≠ 2 := fun e => hg3 e.symm
  clear hgi hgr
  rcases h : okT a b c with _ | _
  · obtain ⟨e1, e2⟩ := fin_1 (k := k) h
    rw [e1, e2]
    rw [h] at hv
    have Hv := Lib.hid hv; clear hv h e1 e2
    go_enter Tryz.func56, Tryz.ntmps56
    go_wp2_with fail
    refine (Hv.out _).mono ?_; rintro e w1 ⟨rfl, hb1⟩
    have k1 := k0.trans (hb1.mono k0.size)
    have R1 := R0.below hb1 R0.at'.lt
    have hlt := R1.at'.lt
    obtain ⟨⟨r0, r1, r2⟩, fz⟩ := R1
    have z0 := fz 0; have z1 := fz 1; have z2 := fz 2
    have ce := (hE.below k1 (Nat.le_refl _)).c_einvalid
    clear fz R0 S0 hb1 k0
    go_wp2_with fail
    go_region
    go_wp2_with fail
    exact bodyPost_ret (v := .tuple #[stV 0 0 0, errV s.einvalid]) (by simp [results, Tryz.results56, go_sem, r0, r1, r2]) rfl ⟨_, .einvalid, rfl, by (repeat (first | exact Below.refl _ _ | assumption | apply Below.drew | apply below_drewL | apply below_drewP | (refine Below.alloc ?_ (by first | omega | (simp; done) | (simp; omega)) _) | (refine Below.setCell ?_ (by first | omega | (simp; done) | (simp; omega)) _)))⟩
  rw [h] at hv
  have Hv := Lib.hid hv; clear hv
  rcases h2 : inB k 0 (c - 1) with _ | _
  · obtain ⟨e1, e2⟩ := fin_2 h h2
    rw [e1, e2]
    clear h e1 e2
    go_enter Tryz.func56, Tryz.ntmps56
    go_wp2_with fail
    refine (Hv.out _).mono ?_; rintro e w1 ⟨rfl, hb1⟩
    have k1 := k0.trans (hb1.mono k0.size)
    have R1 := R0.below hb1 R0.at'.lt
    have S1 := S0.below hb1 S0.lt
    have hlt := R1.at'.lt
    obtain ⟨⟨r0, r1, r2⟩, fz⟩ := R1
    obtain ⟨s0, s1, s2⟩ := S1
    have z0 := fz 0; have z1 := fz 1; have z2 := fz 2
    have ce := (hE.below k1 (Nat.le_refl _)).c_erange
    clear fz R0 S0 hb1 k0
    go_wp2_with fail
    refine (inRange_any _ _ _ _).mono ?_; rintro e w2 ⟨rfl, rfl⟩
    go_wp2_with fail
    go_region
    go_wp2_with fail
    exact bodyPost_ret (v := .tuple #[stV 0 0 0, errV s.erange]) (by simp [results, Tryz.results56, go_sem, r0, r1, r2]) rfl ⟨_, .erange, rfl, by (repeat (first | exact Below.refl _ _ | assumption | apply Below.drew | apply below_drewL | apply below_drewP | (refine Below.alloc ?_ (by first | omega | (simp; done) | (simp; omega)) _) | (refine Below.setCell ?_ (by first | omega | (simp; done) | (simp; omega)) _)))⟩
  obtain ⟨e1, e2⟩ := fin_0 h h2
  rw [e1, e2]
  have hk := inB_true.1 h2
  have hok := okT_ok h
  have hl := hok.light hk.1 (by omega)
  obtain ⟨hF, hB⟩ := fin_bd hok hk.1 hk.2
  have b0 := hok.b0; have b1 := hok.b1; have a0 := hok.a0; have a1 := hok.a1; have c0 := hok.c0; have c1 := hok.c1
  have eF : max (a + b * k - (b - 1)) 0 = finF a b k := by unfold finF; omega
  have hli := fun W => stLight_any a b c k ha ha' hb hb' (by omega) (by omega) W
  have hfi := fun W => fineStrip_any (finF a b k) c hF.1 hF.2 c0 c1 W
  clear h e1 e2 hok
  generalize a + b * k = L at *
  generalize finB c (finF a b k) = M at *
  generalize finF a b k = F at *
  have Hli := Lib.hid hli; clear hli
  have Hfi := Lib.hid hfi; clear hfi
  go_enter Tryz.func56, Tryz.ntmps56
  go_wp2_with fail
  refine (Hv.out _).mono ?_; rintro e w1 ⟨rfl, hb1⟩
  have k1 := k0.trans (hb1.mono k0.size)
  have R1 := R0.below hb1 R0.at'.lt
  have S1 := S0.below hb1 S0.lt
  have hlt := R1.at'.lt
  obtain ⟨s0, s1, s2⟩ := S1
  clear R0 S0 hb1 k0
  go_wp2_with fail
  refine (inRange_any _ _ _ _).mono ?_; rintro e w2 ⟨rfl, rfl⟩
  go_wp2_with fail
  refine wp_region_quiet_tail 10 (fun w' => ∃ x : WIn (Below w1.heap.size w1), w' = x.w) (by kernel_rfl) (by kernel_rfl) ⟨⟨_, below_drew1 _⟩, rfl⟩ ?_
  simp only [List.take_succ_cons, List.take_zero, List.drop_succ_cons, List.drop_zero]
  have n0 := below_nonempty w1
  have f0 := inCell s0
  have f1 := inCell s1
  have f2 := inCell s2
  repeat (go_big_quiet_step (first | (go_at_call 44; exact inCall _ (Hli.out _)) | (go_at_call 82; exact inCall _ (Hfi.out _))))
  refine wpQuiet_nil ?_
  rintro _ ⟨y, rfl⟩
  have R2 := R1.below y.ok hlt
  have k2 := k1.trans (y.ok.mono k1.size)
  have hlt2 := R2.at'.lt
  obtain ⟨⟨r0, r1, r2⟩, fz⟩ := R2
  have z0 := fz 0; have z1 := fz 1; have z2 := fz 2
  clear fz f0 f1 f2 n0 s0 s1 s2 R1
  go_wp2
  exact bodyPost_ret (v := .tuple #[stV F 1 M, .nilIface]) (by simp [results, Tryz.results56, go_sem, r0, r1, r2]) rfl ⟨_, .ok, rfl, by (repeat (first | exact Below.refl _ _ | assumption | apply Below.drew | apply below_drewL | apply below_drewP | (refine Below.alloc ?_ (by first | omega | (simp; done) | (simp; omega)) _) | (refine Below.setCell ?_ (by first | omega | (simp; done) | (simp; omega)) _)))⟩

set_option maxHeartbeats 1000000 in
theorem FinerStrip_any (s : Ers) (a b c k : Int) (ha : -128 ≤ a) (ha' : a ≤ 127) (hb : -128 ≤ b) (hb' : b ≤ 127) (hc : -128 ≤ c) (hc' : c ≤ 127) (w : World) (hE : ErrEnv s w) :
    Calls Tryz.prog 25 #[stV a b c, .int .i64 k] w fun e w' => e = .returned (.tuple #[finV a b c k, .int .i64 (finC a b c k)]) ∧ Below w.heap.size w w' := by
  have hf := fun W hE => finerStrip_any s a b c k ha ha' hb hb' hc hc' W hE
  obtain ⟨x, y, z, hV⟩ := finV_set a b c k
  rw [hV] at hf ⊢
  generalize finC a b c k = C at *
  have Hf := Lib.hid hf; clear hf hV
  have k0 : Below w.heap.size w (w.alloc (.cells #[.int .i8 a, .int .i8 b, .int .i8 c] 26)) := (Below.refl _ _).alloc (Nat.le_refl _) _
  have kz : Below w.heap.size w ((w.alloc (.cells #[.int .i8 a, .int .i8 b, .int .i8 c] 26)).alloc (.cells #[.int .i8 0, .int .i8 0, .int .i8 0] 26)) := k0.alloc k0.size _
  have R0 := ResAt.new (w.alloc (.cells #[.int .i8 a, .int .i8 b, .int .i8 c] 26)) 26 0 0 0
  rw [show (w.alloc (.cells #[.int .i8 a, .int .i8 b, .int .i8 c] 26)).heap.size = w.heap.size + 1 by simp] at R0
  go_enter Tryz.func25, Tryz.ntmps25
  go_wp2_with fail
  refine (Hf.out _ (hE.below kz (Nat.le_refl _))).mono ?_; rintro e w1 ⟨v, hv, rfl, hb1⟩
  have k1 := kz.trans (hb1.mono kz.size)
  have R1 := R0.below hb1 R0.at'.lt
  go_wp2_with fail
  refine (codedStrip_any hv x y z _ (hE.below k1 (Nat.le_refl _))).mono ?_; rintro e w2 ⟨rfl, hb2⟩
  have k2 := k1.trans (hb2.mono k1.size)
  have R2 := R1.below hb2 R1.at'.lt
  have hlt2 := R2.at'.lt
  obtain ⟨⟨r0, r1, r2⟩, fz⟩ := R2
  have z0 := fz 0; have z1 := fz 1; have z2 := fz 2
  clear fz R1 R0 hb1 hb2 k0 kz k1
  go_wp2_with fail
  exact bodyPost_ret (v := .tuple #[stV x y z, .int .i64 C]) (by simp [results, Tryz.results25, go_sem, r0, r1, r2]) rfl ⟨rfl, by (repeat (first | exact Below.refl _ _ | assumption | apply Below.drew | apply below_drewL | apply below_drewP | (refine Below.alloc ?_ (by first | omega | (simp; done) | (simp; omega)) _) | (refine Below.setCell ?_ (by first | omega | (simp; done) | (simp; omega)) _)))⟩
end Go.Proofs.YtnlcjbobfhmnmabGreatDoor
