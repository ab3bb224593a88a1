/-
  A setting read from its text: what the reference's function returns, for every text of at most 1048576 bytes. No other condition.
-/
import Derived.Test.YtakmekidnfeciaaDoorNumber
import Derived.Test.YtakmekidnfeciaaDoorSets
import Derived.Deep.RegionHeld3
namespace Go.Proofs.YtakmekidnfeciaaDoor
open Go.RowKit

theorem cut_len (c0 : UInt8) : ∀ l : List UInt8, (cutL c0 l).1.length ≤ l.length ∧ (cutL c0 l).2.length ≤ l.length
  | [] => by simp [cutL]
  | c :: r => by
    have h := cut_len c0 r
    unfold cutL
    split
    · simp
    · simp; omega
def rdX (l : List UInt8) : List UInt8 := (cutL 32 l).1
def rdY (l : List UInt8) : List UInt8 := (cutL 32 (cutL 32 l).2).1
def rdZ (l : List UInt8) : List UInt8 := (cutL 32 (cutL 32 l).2).2
theorem rd_len (l : List UInt8) : (rdX l).length ≤ l.length ∧ (rdY l).length ≤ l.length ∧ (rdZ l).length ≤ l.length := by
  have h1 := cut_len 32 l
  have h2 := cut_len 32 (cutL 32 l).2
  unfold rdX rdY rdZ
  omega
def rdA (l : List UInt8) : Int := findI (nameOf shuttersL) (rdX l) 46
def rdB (l : List UInt8) : Int := findI (nameOf aperturesL) (rdY l) 31
def rdN (l : List UInt8) : Int := findI decI (rdZ l) 22
def rdGood (l : List UInt8) : Bool := decide (rdA l ≠ -1) && decide (rdB l ≠ -1) && decide (rdN l ≠ -1)
def rdC (l : List UInt8) : Int := if rdGood l = true then 0 else 5
def rdV (l : List UInt8) : Value := if rdGood l = true then setV (rdA l) (rdB l) (rdN l) else setV 0 0 0
theorem rd_no {l : List UInt8} (h : rdGood l = false) : rdC l = 5 ∧ rdV l = setV 0 0 0 := by simp [rdC, rdV, h]
theorem rd_yes {l : List UInt8} (h : rdGood l = true) : rdC l = 0 ∧ rdV l = setV (rdA l) (rdB l) (rdN l) := by simp [rdC, rdV, h]
theorem rdN_no3 {l : List UInt8} (h : (splitL 32 l).length ≠ 3) : rdN l = -1 := by
  have key := cut3_none (l := l) (P := fun z => findI decI z 22 ≠ -1) (by simp [findI_dec [] 22 (by omega), numOk]) (fun z hz => by
    rw [findI_dec z 22 (by omega)] at hz
    by_cases hc : numOk z = true ∧ numVal z < 22
    · rw [← dec_numOk hc.1]
      exact dec_blank _ rfl
    · rw [if_neg hc] at hz; exact absurd rfl hz) h
  exact Classical.byContradiction key
theorem rd_bad3 {l : List UInt8} (h : (splitL 32 l).length ≠ 3) : rdGood l = false := by simp [rdGood, rdN_no3 h]

theorem strTab_newD (w : World) (zs : List (List UInt8)) (t : TypeId) : StrTab w.heap.size zs ((w.alloc (.cells (zs.map strV).toArray t)).drew) := strTab_new w zs t
/-- What comes back: a setting, and a code. -/
def SetOut (v : Value) (c : Int) (w : World) (e : Ending) (w' : World) : Prop := e = .returned (.tuple #[v, .int .i64 c]) ∧ Below w.heap.size w w'

theorem strs3 {w : World} {L U : Nat} {v : Value} {l : List (List UInt8)} (h : Mine w L U 9 1 v l.length (fun j => strV (l.getD j []))) {a b c : List UInt8} (hl : l = [a, b, c]) :
    ∃ g cap, v = .slice (some ⟨g, 0, none⟩) 3 cap ∧ L ≤ g ∧ g < U ∧ w.cell? ⟨g, 0, none⟩ = some (strV a) ∧ w.cell? ⟨g, 1, none⟩ = some (strV b) ∧ w.cell? ⟨g, 2, none⟩ = some (strV c) := by
  subst hl
  obtain ⟨A, cap, rfl, h⟩ := h
  rcases h with h | ⟨g, m, h, rfl, h1, h2, h3, h4, h5⟩
  · cases h
  · have h3' : 3 ≤ m := by simpa using h3
    refine ⟨g, cap, rfl, h1, h2, ?_, ?_, ?_⟩
    · rw [h4.cell (by omega), h5 0 (by simp)]; rfl
    · rw [h4.cell (by omega), h5 1 (by simp)]; rfl
    · rw [h4.cell (by omega), h5 2 (by simp)]; rfl
theorem three_of {l : List (List UInt8)} (h : l.length = 3) : ∃ a b c, l = [a, b, c] := by
  match l, h with
  | [a, b, c], _ => exact ⟨a, b, c, rfl⟩
theorem keep3R {B : Nat} {W W' : World} (hb : Below B W W') {g : Nat} {x y z : Option Value} (h : W.cell? ⟨g, 0, none⟩ = x ∧ W.cell? ⟨g, 1, none⟩ = y ∧ W.cell? ⟨g, 2, none⟩ = z) (hg : g < B) :
    W'.cell? ⟨g, 0, none⟩ = x ∧ W'.cell? ⟨g, 1, none⟩ = y ∧ W'.cell? ⟨g, 2, none⟩ = z :=
  ⟨(hb.cell (p := ⟨g, 0, none⟩) hg).trans h.1, (hb.cell (p := ⟨g, 1, none⟩) hg).trans h.2.1, (hb.cell (p := ⟨g, 2, none⟩) hg).trans h.2.2⟩

theorem keepF {B : Nat} {W W' : World} (hb : Below B W W') {g : Nat} (h : ∀ o, W.frozen? ⟨g, o, none⟩ = false) (hg : g < B) : ∀ o, W'.frozen? ⟨g, o, none⟩ = false :=
  fun o => (hb.frozen (p := ⟨g, o, none⟩) hg).trans (h o)

set_option maxRecDepth 100000 in
set_option maxHeartbeats 2000000 in
theorem specReadSetting_any (s : ByteArray) (hs : s.size ≤ 1048576) (w : World) :
    Calls Tryd.prog 36 #[.string s] w (SetOut (rdV s.data.toList) (rdC s.data.toList) w) := by
  have hsp := l01Split_any s hs
  have k0 : Below w.heap.size w (w.alloc (.cells #[.int .i8 0, .int .i8 0, .int .i8 0] 46)) := (Below.refl _ _).alloc (Nat.le_refl _) _
  have hlen : s.data.toList.length = s.size := by simp
  generalize s.data.toList = l at hsp hlen ⊢
  by_cases h3 : (splitL 32 l).length = 3
  · obtain ⟨w0, w1, w2, hw⟩ := three_of h3
    obtain ⟨c0, c1, c2⟩ := cut3_words hw
    have hrl := rd_len l
    have hx : rdX l = w0 := c0
    have hy : rdY l = w1 := c1
    have hz : rdZ l = w2 := c2
    rw [hz] at hrl
    have hcase : ((rdA l < 0 ∨ rdB l < 0 ∨ numOk w2 = false ∨ 21 < numR w2) ∧ rdV l = setV 0 0 0 ∧ rdC l = 5) ∨ (0 ≤ rdA l ∧ 0 ≤ rdB l ∧ numOk w2 = true ∧ numR w2 ≤ 21 ∧ rdV l = setV (rdA l) (rdB l) (numR w2) ∧ rdC l = 0) := by
      have bA := findI_bd (nameOf shuttersL) (rdX l) 46
      have bB := findI_bd (nameOf aperturesL) (rdY l) 31
      have hN : rdN l = if numOk w2 = true ∧ numVal w2 < 22 then (numVal w2 : Int) else -1 := by unfold rdN; rw [hz]; exact findI_dec w2 22 (by omega)
      have hA : rdA l = findI (nameOf shuttersL) (rdX l) 46 := rfl
      have hB : rdB l = findI (nameOf aperturesL) (rdY l) 31 := rfl
      rcases hg : rdGood l with _ | _
      · refine .inl ⟨?_, (rd_no hg).2, (rd_no hg).1⟩
        by_cases g1 : rdA l < 0
        · exact .inl g1
        · by_cases g2 : rdB l < 0
          · exact .inr (.inl g2)
          · have g3 : rdN l = -1 := by
              have n1 : rdA l ≠ -1 := by omega
              have n2 : rdB l ≠ -1 := by omega
              simpa [rdGood, n1, n2] using hg
            rw [hN] at g3
            rcases ho : numOk w2 with _ | _
            · exact .inr (.inr (.inl rfl))
            · refine .inr (.inr (.inr ?_))
              unfold numR
              rw [if_pos ho]
              by_cases hv : numVal w2 < 22
              · rw [if_pos ⟨ho, hv⟩] at g3; omega
              · omega
      · have hg' := hg
        simp only [rdGood, Bool.and_eq_true, decide_eq_true_eq] at hg'
        obtain ⟨⟨g1, g2⟩, g3⟩ := hg'
        rw [hN] at g3
        by_cases hv : numOk w2 = true ∧ numVal w2 < 22
        · have e : rdN l = numR w2 := by rw [hN, if_pos hv]; unfold numR; rw [if_pos hv.1]
          refine .inr ⟨by omega, by omega, hv.1, by unfold numR; rw [if_pos hv.1]; omega, by rw [(rd_yes hg).2, e], (rd_yes hg).1⟩
        · rw [if_neg hv] at g3; exact absurd rfl g3
    have bA := findI_bd (nameOf shuttersL) (rdX l) 46
    have bB := findI_bd (nameOf aperturesL) (rdY l) 31
    have bN : 0 ≤ numR w2 ∧ numR w2 < 1000000000 := by
      unfold numR
      split
      · have := numVal_bd (l := w2) (by assumption); omega
      · omega
    have hA : rdA l = findI (nameOf shuttersL) w0 46 := by rw [← hx]; rfl
    have hB : rdB l = findI (nameOf aperturesL) w1 31 := by rw [← hy]; rfl
    rw [hx] at bA
    rw [hy] at bB
    rw [hA, hB] at hcase
    have fA := fun b W h => l01FindS_any b w0 W h
    have fB := fun b W h => l01FindA_any b w1 W h
    have fN := fun W => l01Number_any ⟨w2.toArray⟩ (show w2.length ≤ 1048576 by omega) W
    generalize findI (nameOf shuttersL) w0 46 = A at hcase fA bA
    generalize findI (nameOf aperturesL) w1 31 = B at hcase fB bB
    generalize rdV l = V at hcase ⊢
    generalize rdC l = C at hcase ⊢
    generalize splitL 32 l = ws at hsp hw
    unfold NumOut at fN
    have fN' : ∀ W, Calls Tryd.prog 80 #[strV w2] W fun e w' => e = .returned (.tuple #[.int .i64 (numR w2), .bool (numOk w2)]) ∧ W = w' := fun W => fN W
    generalize numR w2 = n at hcase fN' bN
    generalize numOk w2 = ok at hcase fN'
    have FA := Lib.hid fA; clear fA
    have FB := Lib.hid fB; clear fB
    have FN := Lib.hid fN'; clear fN fN'
    have Hcase := Lib.hid hcase; clear hcase
    have Hw := Lib.hid hw; clear hw
    have Hsp := Lib.hid hsp; clear hsp
    clear h3 hA hB hx hy hz c0 c1 c2 hrl hlen
    obtain ⟨bA0, bA1⟩ := bA
    obtain ⟨bB0, bB1⟩ := bB
    obtain ⟨bN0, bN1⟩ := bN
    go_enter Tryd.func36, Tryd.ntmps36
    go_wp2_with fail
    refine (Hsp.out _).mono ?_; rintro e v1 ⟨v, rfl, hm, hb1⟩
    obtain ⟨g, cap, rfl, hg1, hg2, hs3⟩ := strs3 hm Hw.out
    have z1 : w.heap.size < v1.heap.size := by have := hb1.size; simp at this; omega
    have k1 := k0.trans (hb1.mono k0.size)
    have r1 := keep3R hb1 (g := w.heap.size) (x := some (.int .i8 0)) (y := some (.int .i8 0)) (z := some (.int .i8 0)) (by simp) (by simp)
    have z0 := keepF hb1 (g := w.heap.size) (fun o => by simp) (by simp)
    clear hm hb1
    obtain ⟨t0, t1, t2⟩ := hs3
    go_wp2_with fail
    go_region_held3 (fun w' => w'.cell? ⟨g, 0, none⟩ = some (strV w0) ∧ w'.cell? ⟨g, 1, none⟩ = some (strV w1) ∧ w'.cell? ⟨g, 2, none⟩ = some (strV w2)) (first | go_keep | assumption)
      (first
        | (go_at_call 78; refine (l01Shutters_any _).mono ?_; rintro e v2a ⟨rfl, rfl⟩)
        | (go_at_call 77; ((first | with_reducible refine (FA.out _ _ (strTab_new _ _ _)).mono ?_ | with_reducible refine (FA.out _ _ (strTab_newD _ _ _)).mono ?_); rintro e v2 ⟨rfl, hb2⟩; have s2 := keep3R hb2 (by assumption) (by first | (simp; done) | (simp; omega)))))
    have kk2 : Below v1.heap.size v1 v2 := by
      repeat (first | exact Below.refl _ _ | apply Below.drew | (refine Below.trans ?_ (Below.mono hb2 (by first | omega | (simp; done) | (simp; omega)))) | (refine Below.alloc ?_ (by first | omega | (simp; done) | (simp; omega)) _))
    have k2 := k1.trans (kk2.mono k1.size)
    have r2 := keep3R kk2 r1 z1
    have z0 := keepF kk2 z0 z1
    have z2 : v1.heap.size ≤ v2.heap.size := kk2.size
    obtain ⟨t0, t1, t2⟩ := keep3R kk2 ⟨t0, t1, t2⟩ hg2
    clear hb2 s2 r1
    go_wp2_with fail
    go_region_held3 (fun w' => w'.cell? ⟨g, 0, none⟩ = some (strV w0) ∧ w'.cell? ⟨g, 1, none⟩ = some (strV w1) ∧ w'.cell? ⟨g, 2, none⟩ = some (strV w2)) (first | go_keep | assumption)
      (first
        | (go_at_call 79; refine (l01Apertures_any _).mono ?_; rintro e v3a ⟨rfl, rfl⟩)
        | (go_at_call 77; ((first | with_reducible refine (FB.out _ _ (strTab_new _ _ _)).mono ?_ | with_reducible refine (FB.out _ _ (strTab_newD _ _ _)).mono ?_); rintro e v3 ⟨rfl, hb3⟩; have s3 := keep3R hb3 (by assumption) (by first | (simp; done) | (simp; omega)))))
    have kk3 : Below v2.heap.size v2 v3 := by
      repeat (first | exact Below.refl _ _ | apply Below.drew | (refine Below.trans ?_ (Below.mono hb3 (by first | omega | (simp; done) | (simp; omega)))) | (refine Below.alloc ?_ (by first | omega | (simp; done) | (simp; omega)) _))
    have k3 := k2.trans (kk3.mono k2.size)
    obtain ⟨r30, r31, r32⟩ := keep3R kk3 r2 (by omega)
    have z3 : v2.heap.size ≤ v3.heap.size := kk3.size
    have z4 : w.heap.size < v3.heap.size := by omega
    have z0 := keepF kk3 z0 (by omega)
    have z00 := z0 0
    have z01 := z0 1
    have z02 := z0 2
    clear z0
    obtain ⟨t0, t1, t2⟩ := keep3R kk3 ⟨t0, t1, t2⟩ (by omega)
    clear hb3 s3 r2 kk2 kk3
    go_wp2_with fail
    refine (FN.out _).mono ?_; rintro e v4 ⟨rfl, rfl⟩
    clear t0 t1 t2
    rcases Hcase.out with ⟨hbad, rfl, rfl⟩ | ⟨p0, p1, rfl, p2, rfl, rfl⟩
    · have hbad' : A < 0 ∨ (¬ A < 0 ∧ B < 0) ∨ (¬ A < 0 ∧ ¬ B < 0 ∧ ok = false) ∨ (¬ A < 0 ∧ ¬ B < 0 ∧ ok = true ∧ 21 < n) := by
        by_cases e1 : A < 0
        · exact .inl e1
        · by_cases e2 : B < 0
          · exact .inr (.inl ⟨e1, e2⟩)
          · cases ok
            · exact .inr (.inr (.inl ⟨e1, e2, rfl⟩))
            · refine .inr (.inr (.inr ⟨e1, e2, rfl, ?_⟩))
              rcases hbad with h | h | h | h
              · omega
              · omega
              · cases h
              · exact h
      clear hbad
      rcases hbad' with e1 | ⟨e1, e2⟩ | ⟨e1, e2, rfl⟩ | ⟨e1, e2, rfl, e3⟩
      all_goals
        go_wp2_with fail
        refine bodyPost_ret (v := .tuple #[setV 0 0 0, .int .i64 5]) (by simp [results, Tryd.results36, go_sem, r30, r31, r32]) rfl ⟨rfl, ?_⟩
        exact ((k3.setCell (p := ⟨w.heap.size, 0, none⟩) (Nat.le_refl _) _).setCell (p := ⟨w.heap.size, 1, none⟩) (Nat.le_refl _) _).setCell (p := ⟨w.heap.size, 2, none⟩) (Nat.le_refl _) _
    · have i1 : IntKind.i8.wrap A = A := IntWalk.i8_in _ (by omega)
      have i2 : IntKind.i8.wrap B = B := IntWalk.i8_in _ (by omega)
      have i3 : IntKind.i8.wrap n = n := IntWalk.i8_in _ (by omega)
      go_wp2_with fail
      refine bodyPost_ret (v := .tuple #[setV A B n, .int .i64 0]) (by simp [results, Tryd.results36, go_sem, r30, r31, r32]) rfl ⟨rfl, ?_⟩
      exact ((k3.setCell (p := ⟨w.heap.size, 0, none⟩) (Nat.le_refl _) _).setCell (p := ⟨w.heap.size, 1, none⟩) (Nat.le_refl _) _).setCell (p := ⟨w.heap.size, 2, none⟩) (Nat.le_refl _) _
  · rw [(rd_no (rd_bad3 h3)).1, (rd_no (rd_bad3 h3)).2]
    have h3b : (((splitL 32 l).length : Int) != 3) = true := by simp; omega
    generalize splitL 32 l = ws at hsp h3b
    have Hsp := Lib.hid hsp; clear hsp h3
    go_enter Tryd.func36, Tryd.ntmps36
    go_wp2_with fail
    refine (Hsp.out _).mono ?_; rintro e w1 ⟨v, rfl, hm, hb1⟩
    obtain ⟨A, cap, rfl, hm⟩ := hm
    obtain ⟨q1, f1⟩ := bcell hb1
    have z1 : w.heap.size < w1.heap.size := by have := hb1.size; simp at this; omega
    have k1 := k0.trans (hb1.mono k0.size)
    go_wp2_with fail
    refine bodyPost_ret (v := .tuple #[setV 0 0 0, .int .i64 5]) (by simp [results, Tryd.results36, go_sem, q1]) rfl ⟨rfl, ?_⟩
    exact ((k1.setCell (p := ⟨w.heap.size, 0, none⟩) (Nat.le_refl _) _).setCell (p := ⟨w.heap.size, 1, none⟩) (Nat.le_refl _) _).setCell (p := ⟨w.heap.size, 2, none⟩) (Nat.le_refl _) _
end Go.Proofs.YtakmekidnfeciaaDoor
