/-
  A setting read from its text: what the program's function returns, for every text of at most 1048576 bytes. Condition: its tables of names hold what its text lays, its variables their own errors.
-/
import Derived.Test.YtakmekidnfeciaaDoorCut
import Derived.Test.YtakmekidnfeciaaDoorReadSpec
import Derived.Test.YtakmekidnfeciaaDoorSetTexts2
import Derived.Test.YtakmekidnfeciaaDoorMore2
namespace Go.Proofs.YtakmekidnfeciaaDoor
open Go.RowKit

theorem drewN_of {w w1 w2 : World} {m : Nat} (h1 : w1 = w.drewN m) (h2 : ∃ k, w2 = w1.drewN k) : ∃ k, w2 = w.drewN k := by
  obtain ⟨k, rfl⟩ := h2
  exact ⟨m + k, by rw [h1, World.drewN_drewN]⟩
/-- The number with a name. -/
def NamedOut (r : Int) (w : World) (e : Ending) (w' : World) : Prop := e = .returned (.tuple #[.int .i64 (if r = -1 then 0 else r), .bool (decide (r ≠ -1))]) ∧ ∃ m, w' = w.drewN m
theorem named_yes {r n : Int} {w w' : World} (h : r = n) (h0 : 0 ≤ n) (hw : ∃ m, w' = w.drewN m) : NamedOut r w (.returned (.tuple #[.int .i64 n, .bool true])) w' := by
  subst h
  have h1 : ¬ r = -1 := by omega
  simp [NamedOut, h1, hw]
theorem named_no {r : Int} {w w' : World} (h : r = -1) (hw : ∃ m, w' = w.drewN m) : NamedOut r w (.returned (.tuple #[.int .i64 0, .bool false])) w' := by
  subst h
  simp [NamedOut, hw]

set_option maxRecDepth 100000 in
set_option maxHeartbeats 1000000 in
theorem namedS_any (z : List UInt8) (w : World) (hN : StrTab 4 shuttersL w) (hM : StrTab 5 marksL w) :
    Calls Tryd.prog 104 #[strV z, .int .i64 45, .func (.func 73) #[] #[]] w (NamedOut (findI shutN z 46) w) := by
  have hm := fun (k m : Nat) (hk : k < 46) => (show Calls Tryd.prog 73 #[.int .i64 k] (w.drewN m) fun e w' => e = .returned (strV (shutN k)) ∧ ∃ q, w' = (w.drewN m).drewN q from ShutterName_any k (w.drewN m) (hN.drewN _) (hM.drewN _))
  have Hm := Lib.hid hm; clear hm
  go_enter Tryd.func104, Tryd.ntmps104
  go_wp2_with fail
  go_loopw [8] (fun i wr => ∃ k : Nat, k ≤ 46 ∧ i = .int .i64 k ∧ findI shutN z k = -1 ∧ ∃ m, wr = w.drewN m) (fun i _ => 46 - (intOf i).toNat)
  case atStart => exact ⟨0, Nat.zero_le _, rfl, rfl, 0, rfl⟩
  case round =>
    obtain ⟨k, hk, rfl, hf, m, rfl⟩ := hrel
    by_cases hkn : k < 46
    · by_cases he : shutN k = z
      · have hr : findI shutN z 46 = k := by
          have h1 : findI shutN z (k + 1) = k := by rw [findI, if_pos hf, if_pos he]
          have h2 := findI_keep shutN z (k := k + 1) (by rw [h1]; omega) (46 - (k + 1))
          rw [show k + 1 + (46 - (k + 1)) = 46 by omega] at h2
          rw [h2, h1]
        have Hr := Lib.hid hr; clear hr
        have hc := Hm.out k m hkn
        rw [he] at hc
        have Hc := Lib.hid hc; clear hc
        clear hf he
        go_wp2_with fail
        refine Hc.out.mono ?_; rintro e w2 ⟨rfl, q, rfl⟩
        go_wp2_with fail
        go_ret2
        exact named_yes Hr.out (by omega) ⟨m + q, rfl⟩
      · have hne : (shutN (k : Int) == z) = false := by simpa using he
        have hr : findI shutN z (k + 1) = -1 := by rw [findI, if_pos hf, if_neg he]
        have Hr := Lib.hid hr; clear hr hf he
        have hc := Hm.out k m hkn
        have Hc := Lib.hid hc; clear hc
        go_wp2_with fail
        refine Hc.out.mono ?_; rintro e w2 ⟨rfl, q, rfl⟩
        go_wp2_with fail
        go_roundw
        case rel => exact ⟨k + 1, by omega, by go_num, Hr.out, m + q, rfl⟩
        case measure => simp [intOf]; omega
    · have e : k = 46 := by omega
      subst e
      have Hf := Lib.hid hf; clear hf
      go_wp2_with fail
      go_ret2
      exact named_no Hf.out ⟨m, rfl⟩

set_option maxRecDepth 100000 in
set_option maxHeartbeats 1000000 in
theorem namedA_any (z : List UInt8) (w : World) (hN : StrTab 6 aperturesL w) (hM : StrTab 5 marksL w) :
    Calls Tryd.prog 104 #[strV z, .int .i64 30, .func (.func 74) #[] #[]] w (NamedOut (findI aperN z 31) w) := by
  have hm := fun (k m : Nat) (hk : k < 31) => (show Calls Tryd.prog 74 #[.int .i64 k] (w.drewN m) fun e w' => e = .returned (strV (aperN k)) ∧ ∃ q, w' = (w.drewN m).drewN q from ApertureName_any k (w.drewN m) (hN.drewN _) (hM.drewN _))
  have Hm := Lib.hid hm; clear hm
  go_enter Tryd.func104, Tryd.ntmps104
  go_wp2_with fail
  go_loopw [8] (fun i wr => ∃ k : Nat, k ≤ 31 ∧ i = .int .i64 k ∧ findI aperN z k = -1 ∧ ∃ m, wr = w.drewN m) (fun i _ => 31 - (intOf i).toNat)
  case atStart => exact ⟨0, Nat.zero_le _, rfl, rfl, 0, rfl⟩
  case round =>
    obtain ⟨k, hk, rfl, hf, m, rfl⟩ := hrel
    by_cases hkn : k < 31
    · by_cases he : aperN k = z
      · have hr : findI aperN z 31 = k := by
          have h1 : findI aperN z (k + 1) = k := by rw [findI, if_pos hf, if_pos he]
          have h2 := findI_keep aperN z (k := k + 1) (by rw [h1]; omega) (31 - (k + 1))
          rw [show k + 1 + (31 - (k + 1)) = 31 by omega] at h2
          rw [h2, h1]
        have Hr := Lib.hid hr; clear hr
        have hc := Hm.out k m hkn
        rw [he] at hc
        have Hc := Lib.hid hc; clear hc
        clear hf he
        go_wp2_with fail
        refine Hc.out.mono ?_; rintro e w2 ⟨rfl, q, rfl⟩
        go_wp2_with fail
        go_ret2
        exact named_yes Hr.out (by omega) ⟨m + q, rfl⟩
      · have hne : (aperN (k : Int) == z) = false := by simpa using he
        have hr : findI aperN z (k + 1) = -1 := by rw [findI, if_pos hf, if_neg he]
        have Hr := Lib.hid hr; clear hr hf he
        have hc := Hm.out k m hkn
        have Hc := Lib.hid hc; clear hc
        go_wp2_with fail
        refine Hc.out.mono ?_; rintro e w2 ⟨rfl, q, rfl⟩
        go_wp2_with fail
        go_roundw
        case rel => exact ⟨k + 1, by omega, by go_num, Hr.out, m + q, rfl⟩
        case measure => simp [intOf]; omega
    · have e : k = 31 := by omega
      subst e
      have Hf := Lib.hid hf; clear hf
      go_wp2_with fail
      go_ret2
      exact named_no Hf.out ⟨m, rfl⟩

set_option maxRecDepth 100000 in
set_option maxHeartbeats 1000000 in
theorem namedD_any (z : List UInt8) (w : World)  :
    Calls Tryd.prog 104 #[strV z, .int .i64 21, .func (.func 75) #[] #[]] w (NamedOut (findI decI z 22) w) := by
  have hm := fun (k m : Nat) (hk : k < 22) => (show Calls Tryd.prog 75 #[.int .i64 k] (w.drewN m) fun e w' => e = .returned (strV (decI k)) ∧ ∃ q, w' = (w.drewN m).drewN q from (speedName_any k (by omega) (by omega) (w.drewN m)).mono (fun _ _ h => ⟨h.1, 0, h.2.symm⟩))
  have Hm := Lib.hid hm; clear hm
  go_enter Tryd.func104, Tryd.ntmps104
  go_wp2_with fail
  go_loopw [8] (fun i wr => ∃ k : Nat, k ≤ 22 ∧ i = .int .i64 k ∧ findI decI z k = -1 ∧ ∃ m, wr = w.drewN m) (fun i _ => 22 - (intOf i).toNat)
  case atStart => exact ⟨0, Nat.zero_le _, rfl, rfl, 0, rfl⟩
  case round =>
    obtain ⟨k, hk, rfl, hf, m, rfl⟩ := hrel
    by_cases hkn : k < 22
    · by_cases he : decI k = z
      · have hr : findI decI z 22 = k := by
          have h1 : findI decI z (k + 1) = k := by rw [findI, if_pos hf, if_pos he]
          have h2 := findI_keep decI z (k := k + 1) (by rw [h1]; omega) (22 - (k + 1))
          rw [show k + 1 + (22 - (k + 1)) = 22 by omega] at h2
          rw [h2, h1]
        have Hr := Lib.hid hr; clear hr
        have hc := Hm.out k m hkn
        rw [he] at hc
        have Hc := Lib.hid hc; clear hc
        clear hf he
        go_wp2_with fail
        refine Hc.out.mono ?_; rintro e w2 ⟨rfl, q, rfl⟩
        go_wp2_with fail
        go_ret2
        exact named_yes Hr.out (by omega) ⟨m + q, rfl⟩
      · have hne : (decI (k : Int) == z) = false := by simpa using he
        have hr : findI decI z (k + 1) = -1 := by rw [findI, if_pos hf, if_neg he]
        have Hr := Lib.hid hr; clear hr hf he
        have hc := Hm.out k m hkn
        have Hc := Lib.hid hc; clear hc
        go_wp2_with fail
        refine Hc.out.mono ?_; rintro e w2 ⟨rfl, q, rfl⟩
        go_wp2_with fail
        go_roundw
        case rel => exact ⟨k + 1, by omega, by go_num, Hr.out, m + q, rfl⟩
        case measure => simp [intOf]; omega
    · have e : k = 22 := by omega
      subst e
      have Hf := Lib.hid hf; clear hf
      go_wp2_with fail
      go_ret2
      exact named_no Hf.out ⟨m, rfl⟩

theorem findI_congr {f g : Int → List UInt8} (z : List UInt8) : ∀ k : Nat, (∀ j : Nat, j < k → f j = g j) → findI f z k = findI g z k
  | 0, _ => rfl
  | k + 1, h => by
    rw [findI, findI, findI_congr z k (fun j hj => h j (by omega)), h k (by omega)]
theorem find_shut (z : List UInt8) : findI shutN z 46 = findI (nameOf shuttersL) z 46 := findI_congr z 46 fun j hj => by
  simp [shutN, inB_true.2 (show 0 ≤ (j : Int) ∧ (j : Int) ≤ 45 by omega)]
theorem find_aper (z : List UInt8) : findI aperN z 31 = findI (nameOf aperturesL) z 31 := findI_congr z 31 fun j hj => by
  simp [aperN, inB_true.2 (show 0 ≤ (j : Int) ∧ (j : Int) ≤ 30 by omega)]

set_option maxHeartbeats 1000000 in
theorem settingOf_any (a b c : Int) (ha : -128 ≤ a) (ha' : a ≤ 127) (hb : -128 ≤ b) (hb' : b ≤ 127) (hc : -128 ≤ c) (hc' : c ≤ 127) (w : World) :
    Calls Tryd.prog 105 #[.int .i64 a, .int .i64 b, .int .i64 c] w fun e w' => e = .returned (setV a b c) ∧ Below w.heap.size w w' := by
  have i1 : IntKind.i8.wrap a = a := IntWalk.i8_in _ (by omega)
  have i2 : IntKind.i8.wrap b = b := IntWalk.i8_in _ (by omega)
  have i3 : IntKind.i8.wrap c = c := IntWalk.i8_in _ (by omega)
  have k0 : Below w.heap.size w (w.alloc (.cells #[.int .i8 0, .int .i8 0, .int .i8 0] 46)) := (Below.refl _ _).alloc (Nat.le_refl _) _
  go_enter Tryd.func105, Tryd.ntmps105
  go_wp2
  refine bodyPost_ret (v := setV a b c) (by simp [results, Tryd.results105, go_sem]) rfl ⟨rfl, ?_⟩
  first
  | exact ((k0.setCell (p := ⟨w.heap.size, 0, none⟩) (Nat.le_refl _) _).setCell (p := ⟨w.heap.size, 1, none⟩) (Nat.le_refl _) _).setCell (p := ⟨w.heap.size, 2, none⟩) (Nat.le_refl _) _
  | exact (Below.refl _ _).alloc (Nat.le_refl _) _

set_option maxRecDepth 100000 in
set_option maxHeartbeats 2000000 in
theorem readSetting_any (s : Ers) (l : List UInt8) (hl : l.length ≤ 1048576) (w : World) (hE : ErrEnv s w)
    (hN : StrTab 4 shuttersL w) (hP : StrTab 6 aperturesL w) (hM : StrTab 5 marksL w) :
    Calls Tryd.prog 82 #[strV l] w (CodedV s (rdV l) (rdC l) w.heap.size w) := by
  have k0 : Below w.heap.size w (w.alloc (.cells #[.int .i8 0, .int .i8 0, .int .i8 0] 46)) := (Below.refl _ _).alloc (Nat.le_refl _) _
  have hN := hN.below k0 (Nat.le_refl _)
  have hP := hP.below k0 (Nat.le_refl _)
  have hM := hM.below k0 (Nat.le_refl _)
  have ce := And.intro hE.c_esyntax (cell_lt hE.c_esyntax)
  have hrl := rd_len l
  have c1 := Cut_any l hl
  have c2 := Cut_any (cutL 32 l).2 (by have := (cut_len 32 l).2; omega)
  have hcase : ((rdA l = -1 ∨ rdB l = -1 ∨ rdN l = -1) ∧ rdV l = setV 0 0 0 ∧ rdC l = 5) ∨ (rdA l ≠ -1 ∧ rdB l ≠ -1 ∧ rdN l ≠ -1 ∧ rdV l = setV (rdA l) (rdB l) (rdN l) ∧ rdC l = 0) := by
    rcases hg : rdGood l with _ | _
    · refine .inl ⟨?_, (rd_no hg).2, (rd_no hg).1⟩
      by_cases g1 : rdA l = -1
      · exact .inl g1
      · by_cases g2 : rdB l = -1
        · exact .inr (.inl g2)
        · exact .inr (.inr (by simpa [rdGood, g1, g2] using hg))
    · have hg' := hg
      simp only [rdGood, Bool.and_eq_true, decide_eq_true_eq] at hg'
      exact .inr ⟨hg'.1.1, hg'.1.2, hg'.2, (rd_yes hg).2, (rd_yes hg).1⟩
  have bA := findI_bd (nameOf shuttersL) (rdX l) 46
  have bB := findI_bd (nameOf aperturesL) (rdY l) 31
  have bN := findI_bd decI (rdZ l) 22
  have n1 := fun m => namedS_any (rdX l) ((w.alloc (.cells #[.int .i8 0, .int .i8 0, .int .i8 0] 46)).drewN m) (hN.drewN m) (hM.drewN m)
  have n2 := fun m => namedA_any (rdY l) ((w.alloc (.cells #[.int .i8 0, .int .i8 0, .int .i8 0] 46)).drewN m) (hP.drewN m) (hM.drewN m)
  have n3 := fun m => namedD_any (rdZ l) ((w.alloc (.cells #[.int .i8 0, .int .i8 0, .int .i8 0] 46)).drewN m)
  rw [find_shut] at n1
  rw [find_aper] at n2
  have eA : findI (nameOf shuttersL) (rdX l) 46 = rdA l := rfl
  have eB : findI (nameOf aperturesL) (rdY l) 31 = rdB l := rfl
  have eN : findI decI (rdZ l) 22 = rdN l := rfl
  rw [eA] at n1 bA
  rw [eB] at n2 bB
  rw [eN] at n3 bN
  clear eA eB eN hrl
  have eX : (cutL 32 l).1 = rdX l := rfl
  have eY : (cutL 32 (cutL 32 l).2).1 = rdY l := rfl
  have eZ : (cutL 32 (cutL 32 l).2).2 = rdZ l := rfl
  unfold CutOut at c1 c2
  rw [eX] at c1
  rw [eY, eZ] at c2
  clear eX eY eZ
  generalize rdX l = X at c1 n1
  generalize rdY l = Y at c2 n2
  generalize rdZ l = Z at c2 n3
  generalize (cutL 32 l).2 = R at c1 c2
  generalize rdA l = A at hcase n1 bA
  generalize rdB l = B at hcase n2 bB
  generalize rdN l = N at hcase n3 bN
  generalize rdV l = V at hcase ⊢
  generalize rdC l = C at hcase ⊢
  unfold NamedOut at n1 n2 n3
  have C1 := Lib.hid c1; clear c1
  have C2 := Lib.hid c2; clear c2
  have N1 := Lib.hid n1; clear n1
  have N2 := Lib.hid n2; clear n2
  have N3 := Lib.hid n3; clear n3
  have Hcase := Lib.hid hcase; clear hcase
  have Ce := Lib.hid ce; clear ce hE hN hP hM
  obtain ⟨bA0, bA1⟩ := bA
  obtain ⟨bB0, bB1⟩ := bB
  obtain ⟨bN0, bN1⟩ := bN
  go_enter Tryd.func82, Tryd.ntmps82
  go_wp2_with fail
  refine (C1.out _).mono ?_; rintro e w1 ⟨fd1, rfl, m1, rfl⟩
  go_wp2_with fail
  refine (C2.out _).mono ?_; rintro e w2 ⟨fd2, rfl, m2, rfl⟩
  go_wp2_with fail
  by_cases nA : A = -1
  · have q1 := N1.out (m1 + m2)
    rw [if_pos nA, decide_eq_false (by simp [nA])] at q1
    have hb : V = setV 0 0 0 ∧ C = 5 := by
      rcases Hcase.out with h | h
      · exact h.2
      · exact absurd nA h.1
    obtain ⟨rfl, rfl⟩ := hb
    have Q1 := Lib.hid q1; clear q1 nA
    obtain ⟨ce, clt⟩ := Ce.out
    refine Q1.out.mono ?_; rintro e w3 ⟨rfl, m3, rfl⟩
    go_wp2_with fail
    go_region
    all_goals
      go_wp2
      refine bodyPost_ret (v := .tuple #[setV 0 0 0, errV s.esyntax]) (by simp [results, Tryd.results82, go_sem]) rfl ⟨_, .esyntax, rfl, ?_⟩
      exact (((below_drewN k0 _).setCell (p := ⟨w.heap.size, 0, none⟩) (Nat.le_refl _) _).setCell (p := ⟨w.heap.size, 1, none⟩) (Nat.le_refl _) _).setCell (p := ⟨w.heap.size, 2, none⟩) (Nat.le_refl _) _
  · have q1 := N1.out (m1 + m2)
    rw [if_neg nA, decide_eq_true nA] at q1
    have Q1 := Lib.hid q1; clear q1
    refine Q1.out.mono ?_; rintro e w3 ⟨rfl, m3, rfl⟩
    go_wp2_with fail
    by_cases nB : B = -1
    · have q2 := N2.out (m1 + m2 + m3)
      rw [if_pos nB, decide_eq_false (by simp [nB])] at q2
      have hb : V = setV 0 0 0 ∧ C = 5 := by
        rcases Hcase.out with h | h
        · exact h.2
        · exact absurd nB h.2.1
      obtain ⟨rfl, rfl⟩ := hb
      have Q2 := Lib.hid q2; clear q2 nB nA
      obtain ⟨ce, clt⟩ := Ce.out
      refine Q2.out.mono ?_; rintro e w4 ⟨rfl, m4, rfl⟩
      go_wp2_with fail
      go_region
      all_goals
        go_wp2
        refine bodyPost_ret (v := .tuple #[setV 0 0 0, errV s.esyntax]) (by simp [results, Tryd.results82, go_sem]) rfl ⟨_, .esyntax, rfl, ?_⟩
        exact (((below_drewN k0 _).setCell (p := ⟨w.heap.size, 0, none⟩) (Nat.le_refl _) _).setCell (p := ⟨w.heap.size, 1, none⟩) (Nat.le_refl _) _).setCell (p := ⟨w.heap.size, 2, none⟩) (Nat.le_refl _) _
    · have q2 := N2.out (m1 + m2 + m3)
      rw [if_neg nB, decide_eq_true nB] at q2
      have Q2 := Lib.hid q2; clear q2
      refine Q2.out.mono ?_; rintro e w4 ⟨rfl, m4, rfl⟩
      go_wp2_with fail
      by_cases nN : N = -1
      · have q3 := N3.out (m1 + m2 + m3 + m4)
        rw [if_pos nN, decide_eq_false (by simp [nN])] at q3
        have hb : V = setV 0 0 0 ∧ C = 5 := by
          rcases Hcase.out with h | h
          · exact h.2
          · exact absurd nN h.2.2.1
        obtain ⟨rfl, rfl⟩ := hb
        have Q3 := Lib.hid q3; clear q3 nB nA nN
        obtain ⟨ce, clt⟩ := Ce.out
        refine Q3.out.mono ?_; rintro e w5 ⟨rfl, m5, rfl⟩
        go_wp2_with fail
        go_region
        all_goals
          go_wp2
          refine bodyPost_ret (v := .tuple #[setV 0 0 0, errV s.esyntax]) (by simp [results, Tryd.results82, go_sem]) rfl ⟨_, .esyntax, rfl, ?_⟩
          exact (((below_drewN k0 _).setCell (p := ⟨w.heap.size, 0, none⟩) (Nat.le_refl _) _).setCell (p := ⟨w.heap.size, 1, none⟩) (Nat.le_refl _) _).setCell (p := ⟨w.heap.size, 2, none⟩) (Nat.le_refl _) _
      · have q3 := N3.out (m1 + m2 + m3 + m4)
        rw [if_neg nN, decide_eq_true nN] at q3
        have hb : V = setV A B N ∧ C = 0 := by
          rcases Hcase.out with h | h
          · rcases h.1 with h1 | h1 | h1
            · exact absurd h1 nA
            · exact absurd h1 nB
            · exact absurd h1 nN
          · exact h.2.2.2
        obtain ⟨rfl, rfl⟩ := hb
        have i1 : IntKind.i8.wrap A = A := IntWalk.i8_in _ (by omega)
        have i2 : IntKind.i8.wrap B = B := IntWalk.i8_in _ (by omega)
        have i3 : IntKind.i8.wrap N = N := IntWalk.i8_in _ (by omega)
        have Q3 := Lib.hid q3; clear q3 nB nA nN
        refine Q3.out.mono ?_; rintro e w5 ⟨rfl, m5, rfl⟩
        go_wp2_with fail
        refine (settingOf_any A B N (by omega) (by omega) (by omega) (by omega) (by omega) (by omega) _).mono ?_; rintro e w6 ⟨rfl, hb6⟩
        have r6 := keep3R hb6 (g := w.heap.size) (x := some (.int .i8 0)) (y := some (.int .i8 0)) (z := some (.int .i8 0)) (by simp) (by simp)
        have z6 := keepF hb6 (g := w.heap.size) (fun o => by simp) (by simp)
        have k6 := (below_drewN k0 (m1 + m2 + m3 + m4 + m5)).trans (hb6.mono (by simp))
        obtain ⟨r60, r61, r62⟩ := r6
        have z60 := z6 0
        have z61 := z6 1
        have z62 := z6 2
        clear z6 hb6
        go_wp2_with fail
        refine bodyPost_ret (v := .tuple #[setV A B N, .nilIface]) (by simp [results, Tryd.results82, go_sem, r60, r61, r62]) rfl ⟨_, .ok, rfl, ?_⟩
        exact ((k6.setCell (p := ⟨w.heap.size, 0, none⟩) (Nat.le_refl _) _).setCell (p := ⟨w.heap.size, 1, none⟩) (Nat.le_refl _) _).setCell (p := ⟨w.heap.size, 2, none⟩) (Nat.le_refl _) _

theorem rdV_set (l : List UInt8) : ∃ x y z, rdV l = setV x y z := by
  unfold rdV
  split
  · exact ⟨_, _, _, rfl⟩
  · exact ⟨_, _, _, rfl⟩

set_option maxRecDepth 100000 in
set_option maxHeartbeats 2000000 in
theorem ReadSetting_any (s : Ers) (l : List UInt8) (hl : l.length ≤ 1048576) (w : World) (hE : ErrEnv s w)
    (hN : StrTab 4 shuttersL w) (hP : StrTab 6 aperturesL w) (hM : StrTab 5 marksL w) :
    Calls Tryd.prog 37 #[strV l] w (SetOut (rdV l) (rdC l) w) := by
  have k0 : Below w.heap.size w (w.alloc (.cells #[.int .i8 0, .int .i8 0, .int .i8 0] 46)) := (Below.refl _ _).alloc (Nat.le_refl _) _
  have hm := readSetting_any s l hl _ (hE.below k0 (Nat.le_refl _)) (hN.below k0 (Nat.le_refl _)) (hP.below k0 (Nat.le_refl _)) (hM.below k0 (Nat.le_refl _))
  obtain ⟨x, y, z, hv⟩ := rdV_set l
  rw [hv] at hm ⊢
  generalize rdC l = C at hm ⊢
  have Hm := Lib.hid hm; clear hm hv
  have HE := Lib.hid hE; clear hE hN hP hM
  go_enter Tryd.func37, Tryd.ntmps37
  go_wp2_with fail
  refine Hm.out.mono ?_; rintro e w1 ⟨v, hv, rfl, hb1⟩
  have k1 := k0.trans (hb1.mono (by simp))
  have r1 := keep3R hb1 (g := w.heap.size) (x := some (.int .i8 0)) (y := some (.int .i8 0)) (z := some (.int .i8 0)) (by simp) (by simp)
  have z1 := keepF hb1 (g := w.heap.size) (fun o => by simp) (by simp)
  have y1 : w.heap.size < w1.heap.size := by have := hb1.size; simp at this; omega
  go_wp2_with fail
  refine (codedSet_any hv x y z _ (HE.out.below k1 (Nat.le_refl _))).mono ?_; rintro e w2 ⟨rfl, hb2⟩
  have k2 := k1.trans (hb2.mono k1.size)
  obtain ⟨r20, r21, r22⟩ := keep3R hb2 r1 y1
  have z2 := keepF hb2 z1 y1
  have z20 := z2 0
  have z21 := z2 1
  have z22 := z2 2
  clear z1 z2 hb1 hb2 r1
  go_wp2_with fail
  refine bodyPost_ret (v := .tuple #[setV x y z, .int .i64 C]) (by simp [results, Tryd.results37, go_sem, r20, r21, r22]) rfl ⟨rfl, ?_⟩
  exact ((k2.setCell (p := ⟨w.heap.size, 0, none⟩) (Nat.le_refl _) _).setCell (p := ⟨w.heap.size, 1, none⟩) (Nat.le_refl _) _).setCell (p := ⟨w.heap.size, 2, none⟩) (Nat.le_refl _) _
end Go.Proofs.YtakmekidnfeciaaDoor
