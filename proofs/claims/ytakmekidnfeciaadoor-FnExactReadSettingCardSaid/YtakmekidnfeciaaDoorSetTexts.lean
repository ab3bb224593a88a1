/-
  The texts of settings: what the program's and the reference's functions return. Condition of the program's: its tables of names hold what its text lays.
-/
import Derived.Test.YtakmekidnfeciaaDoorTexts
import Derived.Test.YtakmekidnfeciaaDoorSets
import Derived.Deep.RegionHeld3
namespace Go.Proofs.YtakmekidnfeciaaDoor
open Go.RowKit

theorem l01NameS_any (b : Nat) (n : Int) (h0 : 0 ≤ n) (h1 : n ≤ 45) (w : World) (hz : StrTab b shuttersL w) :
    Calls Tryd.prog 100 #[.slice (some ⟨b, 0, none⟩) 16 16, .int .i64 n] w fun e w' => e = .returned (strV (nameOf shuttersL n)) ∧ Below w.heap.size w w' :=
  l01Name_any b 16 shuttersL n h0 (by omega) rfl (by omega) (by decide) w hz
theorem l01NameA_any (b : Nat) (n : Int) (h0 : 0 ≤ n) (h1 : n ≤ 30) (w : World) (hz : StrTab b aperturesL w) :
    Calls Tryd.prog 100 #[.slice (some ⟨b, 0, none⟩) 11 11, .int .i64 n] w fun e w' => e = .returned (strV (nameOf aperturesL n)) ∧ Below w.heap.size w w' :=
  l01Name_any b 11 aperturesL n h0 (by omega) rfl (by omega) (by decide) w hz
theorem decimalI_any (n : Int) (h0 : 0 ≤ n) (h1 : n < 9223372036854775808) (w : World) :
    Calls Tryd.prog 101 #[.int .i64 n] w fun e w' => e = .returned (strV (decI n)) ∧ Below w.heap.size w w' := by
  obtain ⟨m, rfl⟩ := Int.eq_ofNat_of_zero_le h0
  exact decimal_any m (by omega) w

/-- Three cells, kept. -/
theorem keep3 {B : Nat} {W W' : World} (hb : Below B W W') {g : Nat} {x y z : Option Value} (h : W.cell? ⟨g, 0, none⟩ = x ∧ W.cell? ⟨g, 1, none⟩ = y ∧ W.cell? ⟨g, 2, none⟩ = z) (hg : g < B) :
    W'.cell? ⟨g, 0, none⟩ = x ∧ W'.cell? ⟨g, 1, none⟩ = y ∧ W'.cell? ⟨g, 2, none⟩ = z :=
  ⟨(hb.cell (p := ⟨g, 0, none⟩) hg).trans h.1, (hb.cell (p := ⟨g, 1, none⟩) hg).trans h.2.1, (hb.cell (p := ⟨g, 2, none⟩) hg).trans h.2.2⟩
def setT (a b c : Int) : List UInt8 := nameOf shuttersL a ++ 32 :: (nameOf aperturesL b ++ 32 :: decI c)
theorem nameOf_le {zs : List (List UInt8)} (h : ∀ z ∈ zs, z.length ≤ 8) (n : Int) : (nameOf zs n).length ≤ 16 := by
  have h1 := getD_le zs 8 h (n / 3).toNat
  have h2 := marks_le (n % 3).toNat
  simp [nameOf] at *
  omega

set_option maxRecDepth 100000 in
set_option maxHeartbeats 1000000 in
theorem l01Text_any (a b c : Int) (ha : 0 ≤ a) (ha' : a ≤ 45) (hb : 0 ≤ b) (hb' : b ≤ 30) (hc : 0 ≤ c) (hc' : c ≤ 21) (w : World) :
    Calls Tryd.prog 71 #[setV a b c] w fun e w' => e = .returned (strV (setT a b c)) ∧ Below w.heap.size w w' := by
  have la := nameOf_le (zs := shuttersL) (by decide) a
  have lb := nameOf_le (zs := aperturesL) (by decide) b
  have lc : (decI c).length ≤ 19 := decN_le _ (by omega)
  have e1 : IntKind.i64.wrap a = a := IntWalk.i64_in _ (by omega)
  have e2 : IntKind.i64.wrap b = b := IntWalk.i64_in _ (by omega)
  have e3 : IntKind.i64.wrap c = c := IntWalk.i64_in _ (by omega)
  have hz1 : StrTab (w.heap.size + 1) shuttersL (((w.alloc (.cells #[.int .i8 a, .int .i8 b, .int .i8 c] 46)).alloc (.cells (shuttersL.map strV).toArray 9)).drew) := by
    have h := strTab_new (w.alloc (.cells #[.int .i8 a, .int .i8 b, .int .i8 c] 46)) shuttersL 9
    rw [World.size_alloc] at h
    exact h
  unfold setT
  generalize hx : nameOf shuttersL a = x at la ⊢
  generalize hy : nameOf aperturesL b = y at lb ⊢
  generalize hu : decI c = u at lc ⊢
  have k1 := fun W h => l01NameS_any (w.heap.size + 1) a ha ha' W h
  have k2 := fun g W h => l01NameA_any g b hb hb' W h
  have k3 := fun W => decimalI_any c hc (by omega) W
  rw [hx] at k1; rw [hy] at k2; rw [hu] at k3
  have K1 := Lib.hid k1; clear k1
  have K2 := Lib.hid k2; clear k2
  have K3 := Lib.hid k3; clear k3
  have Hz1 := Lib.hid hz1; clear hz1 hx hy hu
  have ad1 := fun W => run_string_add_lists (P := Tryd.prog) W x [32] (by omega) (by simp)
  have ad2 := fun W => run_string_add_lists (P := Tryd.prog) W (x ++ [32]) y (by simp; omega) (by omega)
  have ad3 := fun W => run_string_add_lists (P := Tryd.prog) W (x ++ 32 :: y) [32] (by simp; omega) (by simp)
  have ad4 := fun W => run_string_add_lists (P := Tryd.prog) W (x ++ 32 :: (y ++ [32])) u (by simp; omega) (by omega)
  go_enter Tryd.func71, Tryd.ntmps71
  go_wp2_with fail
  go_region_held3 (fun w' => w'.cell? ⟨w.heap.size, 0, none⟩ = some (.int .i8 a) ∧ w'.cell? ⟨w.heap.size, 1, none⟩ = some (.int .i8 b) ∧ w'.cell? ⟨w.heap.size, 2, none⟩ = some (.int .i8 c)) (first | go_keep | assumption)
    (first
      | (go_at_call 78; refine (l01Shutters_any _).mono ?_; rintro e w1 ⟨rfl, rfl⟩)
      | (go_at_call 79; refine (l01Apertures_any _).mono ?_; rintro e w2 ⟨rfl, rfl⟩)
      | (go_at_call 101; refine (K3.out _).mono ?_; rintro e w4 ⟨rfl, hb4⟩; have s4 := keep3 hb4 (by assumption) (show w.heap.size < w3.heap.size by omega))
      | (go_at_call 100; ((with_reducible refine (K1.out _ Hz1.out).mono ?_); rintro e w1 ⟨rfl, hb1⟩; have s1 := keep3 hb1 (by assumption) (by first | (simp; done) | (simp; omega)); have hz := hb1.size; simp at hz))
      | (go_at_call 100; ((with_reducible refine (K2.out _ _ (strTab_new _ _ _)).mono ?_); rintro e w3 ⟨rfl, hb3⟩; have s3 := keep3 hb3 (by assumption) (by first | (simp; done) | (simp; omega)); have hz3 := hb3.size; simp at hz3)))
  go_wp2_with fail
  go_ret
  refine ⟨rfl, ?_⟩
  repeat (first | exact Below.refl _ _ | apply Below.drew | (refine Below.trans ?_ (Below.mono hb4 (by first | omega | (simp; done) | (simp; omega)))) | (refine Below.trans ?_ (Below.mono hb3 (by first | omega | (simp; done) | (simp; omega)))) | (refine Below.trans ?_ (Below.mono hb1 (by first | omega | (simp; done) | (simp; omega)))) | (refine Below.alloc ?_ (by first | omega | (simp; done) | (simp; omega)) _))

/-- The text of a setting; none if it is not valid. -/
def setTx (a b c : Int) : List UInt8 := if okS a b c = true then setT a b c else []

set_option maxHeartbeats 1000000 in
theorem specSettingText_any (a b c : Int) (ha : -128 ≤ a) (ha' : a ≤ 127) (hb : -128 ≤ b) (hb' : b ≤ 127) (hc : -128 ≤ c) (hc' : c ≤ 127) (w : World) :
    Calls Tryd.prog 33 #[setV a b c] w fun e w' => e = .returned (strV (setTx a b c)) ∧ Below w.heap.size w w' := by
  have hk := l01Ok_any a b c ha ha' hb hb' hc hc'
  rcases h1 : okS a b c with _ | _
  · have e : setTx a b c = [] := by simp [setTx, h1]
    rw [e]; clear e
    rw [h1] at hk
    have Hk := Lib.hid hk; clear hk h1
    go_enter Tryd.func33, Tryd.ntmps33
    go_wp2_with fail
    refine (Hk.out _).mono ?_; rintro e w1 ⟨rfl, hb1⟩
    go_wp2_with fail
    go_ret
    exact ⟨rfl, ((Below.refl _ _).alloc (Nat.le_refl _) _).trans (hb1.mono (by simp))⟩
  · have e : setTx a b c = setT a b c := by simp [setTx, h1]
    rw [e]; clear e
    have hin := okS_true.1 h1
    have ht := l01Text_any a b c hin.1.1 hin.1.2 hin.2.1.1 hin.2.1.2 hin.2.2.1 hin.2.2.2
    rw [h1] at hk
    generalize setT a b c = x at ht ⊢
    have Hk := Lib.hid hk; clear hk h1
    have Ht := Lib.hid ht; clear ht
    go_enter Tryd.func33, Tryd.ntmps33
    go_wp2_with fail
    refine (Hk.out _).mono ?_; rintro e w1 ⟨rfl, hb1⟩
    obtain ⟨hc1, hf1⟩ := bcell hb1
    have hz1 := hb1.size
    simp at hz1
    go_wp2_with fail
    refine (Ht.out _).mono ?_; rintro e w2 ⟨rfl, hb2⟩
    go_wp2_with fail
    go_ret
    exact ⟨rfl, (((Below.refl _ _).alloc (Nat.le_refl _) _).trans (hb1.mono (by simp))).trans (hb2.mono (by omega))⟩

theorem dec_0 : decI 0 = [48] := by show decN 0 = _; rw [decN_lo (by omega)]; rfl
theorem dec_1 : decI 1 = [49] := by show decN 1 = _; rw [decN_lo (by omega)]; rfl
theorem dec_2 : decI 2 = [50] := by show decN 2 = _; rw [decN_lo (by omega)]; rfl
theorem dec_3 : decI 3 = [51] := by show decN 3 = _; rw [decN_lo (by omega)]; rfl
theorem dec_4 : decI 4 = [52] := by show decN 4 = _; rw [decN_lo (by omega)]; rfl
theorem dec_5 : decI 5 = [53] := by show decN 5 = _; rw [decN_lo (by omega)]; rfl
theorem dec_6 : decI 6 = [54] := by show decN 6 = _; rw [decN_lo (by omega)]; rfl
theorem dec_7 : decI 7 = [55] := by show decN 7 = _; rw [decN_lo (by omega)]; rfl
theorem dec_8 : decI 8 = [56] := by show decN 8 = _; rw [decN_lo (by omega)]; rfl
theorem dec_9 : decI 9 = [57] := by show decN 9 = _; rw [decN_lo (by omega)]; rfl
theorem dec_10 : decI 10 = [49, 48] := by show decN 10 = _; rw [decN_hi (by omega), show 10 / 10 = 1 from rfl, decN_lo (by omega)]; rfl
theorem dec_11 : decI 11 = [49, 49] := by show decN 11 = _; rw [decN_hi (by omega), show 11 / 10 = 1 from rfl, decN_lo (by omega)]; rfl
theorem dec_12 : decI 12 = [49, 50] := by show decN 12 = _; rw [decN_hi (by omega), show 12 / 10 = 1 from rfl, decN_lo (by omega)]; rfl
theorem dec_13 : decI 13 = [49, 51] := by show decN 13 = _; rw [decN_hi (by omega), show 13 / 10 = 1 from rfl, decN_lo (by omega)]; rfl
theorem dec_14 : decI 14 = [49, 52] := by show decN 14 = _; rw [decN_hi (by omega), show 14 / 10 = 1 from rfl, decN_lo (by omega)]; rfl
theorem dec_15 : decI 15 = [49, 53] := by show decN 15 = _; rw [decN_hi (by omega), show 15 / 10 = 1 from rfl, decN_lo (by omega)]; rfl
theorem dec_16 : decI 16 = [49, 54] := by show decN 16 = _; rw [decN_hi (by omega), show 16 / 10 = 1 from rfl, decN_lo (by omega)]; rfl
theorem dec_17 : decI 17 = [49, 55] := by show decN 17 = _; rw [decN_hi (by omega), show 17 / 10 = 1 from rfl, decN_lo (by omega)]; rfl
theorem dec_18 : decI 18 = [49, 56] := by show decN 18 = _; rw [decN_hi (by omega), show 18 / 10 = 1 from rfl, decN_lo (by omega)]; rfl
theorem dec_19 : decI 19 = [49, 57] := by show decN 19 = _; rw [decN_hi (by omega), show 19 / 10 = 1 from rfl, decN_lo (by omega)]; rfl
theorem dec_20 : decI 20 = [50, 48] := by show decN 20 = _; rw [decN_hi (by omega), show 20 / 10 = 2 from rfl, decN_lo (by omega)]; rfl
theorem dec_21 : decI 21 = [50, 49] := by show decN 21 = _; rw [decN_hi (by omega), show 21 / 10 = 2 from rfl, decN_lo (by omega)]; rfl

set_option maxRecDepth 100000 in
theorem speed_0 (w : World) : Calls Tryd.prog 75 #[.int .i64 0] w fun e w' => e = .returned (strV (decI 0)) ∧ w = w' := by
  rw [dec_0]
  go_enter Tryd.func75, Tryd.ntmps75
  go_wp2
  go_ret
  exact ⟨congrArg Ending.returned (by kernel_rfl), rfl⟩

set_option maxRecDepth 100000 in
theorem speed_1 (w : World) : Calls Tryd.prog 75 #[.int .i64 1] w fun e w' => e = .returned (strV (decI 1)) ∧ w = w' := by
  rw [dec_1]
  go_enter Tryd.func75, Tryd.ntmps75
  go_wp2
  go_ret
  exact ⟨congrArg Ending.returned (by kernel_rfl), rfl⟩

set_option maxRecDepth 100000 in
theorem speed_2 (w : World) : Calls Tryd.prog 75 #[.int .i64 2] w fun e w' => e = .returned (strV (decI 2)) ∧ w = w' := by
  rw [dec_2]
  go_enter Tryd.func75, Tryd.ntmps75
  go_wp2
  go_ret
  exact ⟨congrArg Ending.returned (by kernel_rfl), rfl⟩

set_option maxRecDepth 100000 in
theorem speed_3 (w : World) : Calls Tryd.prog 75 #[.int .i64 3] w fun e w' => e = .returned (strV (decI 3)) ∧ w = w' := by
  rw [dec_3]
  go_enter Tryd.func75, Tryd.ntmps75
  go_wp2
  go_ret
  exact ⟨congrArg Ending.returned (by kernel_rfl), rfl⟩

set_option maxRecDepth 100000 in
theorem speed_4 (w : World) : Calls Tryd.prog 75 #[.int .i64 4] w fun e w' => e = .returned (strV (decI 4)) ∧ w = w' := by
  rw [dec_4]
  go_enter Tryd.func75, Tryd.ntmps75
  go_wp2
  go_ret
  exact ⟨congrArg Ending.returned (by kernel_rfl), rfl⟩

set_option maxRecDepth 100000 in
theorem speed_5 (w : World) : Calls Tryd.prog 75 #[.int .i64 5] w fun e w' => e = .returned (strV (decI 5)) ∧ w = w' := by
  rw [dec_5]
  go_enter Tryd.func75, Tryd.ntmps75
  go_wp2
  go_ret
  exact ⟨congrArg Ending.returned (by kernel_rfl), rfl⟩

set_option maxRecDepth 100000 in
theorem speed_6 (w : World) : Calls Tryd.prog 75 #[.int .i64 6] w fun e w' => e = .returned (strV (decI 6)) ∧ w = w' := by
  rw [dec_6]
  go_enter Tryd.func75, Tryd.ntmps75
  go_wp2
  go_ret
  exact ⟨congrArg Ending.returned (by kernel_rfl), rfl⟩

set_option maxRecDepth 100000 in
theorem speed_7 (w : World) : Calls Tryd.prog 75 #[.int .i64 7] w fun e w' => e = .returned (strV (decI 7)) ∧ w = w' := by
  rw [dec_7]
  go_enter Tryd.func75, Tryd.ntmps75
  go_wp2
  go_ret
  exact ⟨congrArg Ending.returned (by kernel_rfl), rfl⟩

set_option maxRecDepth 100000 in
theorem speed_8 (w : World) : Calls Tryd.prog 75 #[.int .i64 8] w fun e w' => e = .returned (strV (decI 8)) ∧ w = w' := by
  rw [dec_8]
  go_enter Tryd.func75, Tryd.ntmps75
  go_wp2
  go_ret
  exact ⟨congrArg Ending.returned (by kernel_rfl), rfl⟩

set_option maxRecDepth 100000 in
theorem speed_9 (w : World) : Calls Tryd.prog 75 #[.int .i64 9] w fun e w' => e = .returned (strV (decI 9)) ∧ w = w' := by
  rw [dec_9]
  go_enter Tryd.func75, Tryd.ntmps75
  go_wp2
  go_ret
  exact ⟨congrArg Ending.returned (by kernel_rfl), rfl⟩

set_option maxRecDepth 100000 in
theorem speed_10 (w : World) : Calls Tryd.prog 75 #[.int .i64 10] w fun e w' => e = .returned (strV (decI 10)) ∧ w = w' := by
  rw [dec_10]
  go_enter Tryd.func75, Tryd.ntmps75
  go_wp2
  go_ret
  exact ⟨congrArg Ending.returned (by kernel_rfl), rfl⟩

set_option maxRecDepth 100000 in
theorem speed_11 (w : World) : Calls Tryd.prog 75 #[.int .i64 11] w fun e w' => e = .returned (strV (decI 11)) ∧ w = w' := by
  rw [dec_11]
  go_enter Tryd.func75, Tryd.ntmps75
  go_wp2
  go_ret
  exact ⟨congrArg Ending.returned (by kernel_rfl), rfl⟩

set_option maxRecDepth 100000 in
theorem speed_12 (w : World) : Calls Tryd.prog 75 #[.int .i64 12] w fun e w' => e = .returned (strV (decI 12)) ∧ w = w' := by
  rw [dec_12]
  go_enter Tryd.func75, Tryd.ntmps75
  go_wp2
  go_ret
  exact ⟨congrArg Ending.returned (by kernel_rfl), rfl⟩

set_option maxRecDepth 100000 in
theorem speed_13 (w : World) : Calls Tryd.prog 75 #[.int .i64 13] w fun e w' => e = .returned (strV (decI 13)) ∧ w = w' := by
  rw [dec_13]
  go_enter Tryd.func75, Tryd.ntmps75
  go_wp2
  go_ret
  exact ⟨congrArg Ending.returned (by kernel_rfl), rfl⟩

set_option maxRecDepth 100000 in
theorem speed_14 (w : World) : Calls Tryd.prog 75 #[.int .i64 14] w fun e w' => e = .returned (strV (decI 14)) ∧ w = w' := by
  rw [dec_14]
  go_enter Tryd.func75, Tryd.ntmps75
  go_wp2
  go_ret
  exact ⟨congrArg Ending.returned (by kernel_rfl), rfl⟩

set_option maxRecDepth 100000 in
theorem speed_15 (w : World) : Calls Tryd.prog 75 #[.int .i64 15] w fun e w' => e = .returned (strV (decI 15)) ∧ w = w' := by
  rw [dec_15]
  go_enter Tryd.func75, Tryd.ntmps75
  go_wp2
  go_ret
  exact ⟨congrArg Ending.returned (by kernel_rfl), rfl⟩

set_option maxRecDepth 100000 in
theorem speed_16 (w : World) : Calls Tryd.prog 75 #[.int .i64 16] w fun e w' => e = .returned (strV (decI 16)) ∧ w = w' := by
  rw [dec_16]
  go_enter Tryd.func75, Tryd.ntmps75
  go_wp2
  go_ret
  exact ⟨congrArg Ending.returned (by kernel_rfl), rfl⟩

set_option maxRecDepth 100000 in
theorem speed_17 (w : World) : Calls Tryd.prog 75 #[.int .i64 17] w fun e w' => e = .returned (strV (decI 17)) ∧ w = w' := by
  rw [dec_17]
  go_enter Tryd.func75, Tryd.ntmps75
  go_wp2
  go_ret
  exact ⟨congrArg Ending.returned (by kernel_rfl), rfl⟩

set_option maxRecDepth 100000 in
theorem speed_18 (w : World) : Calls Tryd.prog 75 #[.int .i64 18] w fun e w' => e = .returned (strV (decI 18)) ∧ w = w' := by
  rw [dec_18]
  go_enter Tryd.func75, Tryd.ntmps75
  go_wp2
  go_ret
  exact ⟨congrArg Ending.returned (by kernel_rfl), rfl⟩

set_option maxRecDepth 100000 in
theorem speed_19 (w : World) : Calls Tryd.prog 75 #[.int .i64 19] w fun e w' => e = .returned (strV (decI 19)) ∧ w = w' := by
  rw [dec_19]
  go_enter Tryd.func75, Tryd.ntmps75
  go_wp2
  go_ret
  exact ⟨congrArg Ending.returned (by kernel_rfl), rfl⟩

set_option maxRecDepth 100000 in
theorem speed_20 (w : World) : Calls Tryd.prog 75 #[.int .i64 20] w fun e w' => e = .returned (strV (decI 20)) ∧ w = w' := by
  rw [dec_20]
  go_enter Tryd.func75, Tryd.ntmps75
  go_wp2
  go_ret
  exact ⟨congrArg Ending.returned (by kernel_rfl), rfl⟩

set_option maxRecDepth 100000 in
theorem speed_21 (w : World) : Calls Tryd.prog 75 #[.int .i64 21] w fun e w' => e = .returned (strV (decI 21)) ∧ w = w' := by
  rw [dec_21]
  go_enter Tryd.func75, Tryd.ntmps75
  go_wp2
  go_ret
  exact ⟨congrArg Ending.returned (by kernel_rfl), rfl⟩

theorem speedName_any (n : Int) (h0 : 0 ≤ n) (h1 : n ≤ 21) (w : World) :
    Calls Tryd.prog 75 #[.int .i64 n] w fun e w' => e = .returned (strV (decI n)) ∧ w = w' := by
  have hn : n = 0 ∨ n = 1 ∨ n = 2 ∨ n = 3 ∨ n = 4 ∨ n = 5 ∨ n = 6 ∨ n = 7 ∨ n = 8 ∨ n = 9 ∨ n = 10 ∨ n = 11 ∨ n = 12 ∨ n = 13 ∨ n = 14 ∨ n = 15 ∨ n = 16 ∨ n = 17 ∨ n = 18 ∨ n = 19 ∨ n = 20 ∨ n = 21 := by omega
  rcases hn with rfl | rfl | rfl | rfl | rfl | rfl | rfl | rfl | rfl | rfl | rfl | rfl | rfl | rfl | rfl | rfl | rfl | rfl | rfl | rfl | rfl | rfl
  · exact speed_0 w
  · exact speed_1 w
  · exact speed_2 w
  · exact speed_3 w
  · exact speed_4 w
  · exact speed_5 w
  · exact speed_6 w
  · exact speed_7 w
  · exact speed_8 w
  · exact speed_9 w
  · exact speed_10 w
  · exact speed_11 w
  · exact speed_12 w
  · exact speed_13 w
  · exact speed_14 w
  · exact speed_15 w
  · exact speed_16 w
  · exact speed_17 w
  · exact speed_18 w
  · exact speed_19 w
  · exact speed_20 w
  · exact speed_21 w
end Go.Proofs.YtakmekidnfeciaaDoor
