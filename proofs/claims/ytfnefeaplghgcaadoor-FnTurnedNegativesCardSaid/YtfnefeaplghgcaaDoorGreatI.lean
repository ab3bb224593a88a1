/-
  Where two prints differ most: the program's own function. Condition: int16 numbers.
-/
import Derived.Test.YtfnefeaplghgcaaDoorGreat
namespace Go.Proofs.YtfnefeaplghgcaaDoor
open Go.RowKit

/-- What is handed out. -/
def grtT (f g : Nat → Int) : Array Value := if (dnsB f && dnsB g) = true then #[.int .i64 (bestN (difN f g) 63 : Nat), .int .i64 (difN f g (bestN (difN f g) 63)), .int .i64 0] else #[.int .i64 0, .int .i64 0, .int .i64 1]

set_option maxRecDepth 100000 in
set_option maxHeartbeats 2000000 in
theorem GreatestDifference_any (f g : Nat → Int) (hf : S16 f) (hg : S16 g) (w : World) :
    Calls Tryd.prog 14 #[.agg (arrV .i16 64 f), .agg (arrV .i16 64 g)] w fun e w' => e = .returned (.tuple (grtT f g)) ∧ Below w.heap.size w w' := by
  have a1 := (HasArr.new w 37 .i16 64 f).alloc (.cells (arrV .i16 64 g) 37)
  have a2 : HasArr ((w.alloc (.cells (arrV .i16 64 f) 37)).alloc (.cells (arrV .i16 64 g) 37)) (w.heap.size + 1) 37 .i16 64 g := by
    have h := HasArr.new (w.alloc (.cells (arrV .i16 64 f) 37)) 37 .i16 64 g
    simpa using h
  have k0 := ((Below.refl w.heap.size w).alloc (Nat.le_refl _) (.cells (arrV .i16 64 f) 37)).alloc (by simp) (.cells (arrV .i16 64 g) 37)
  have hd := fun W => ValidPrint_any f W
  have he := fun W => ValidPrint_any g W
  have hn := fun W => greatest_any f g hf hg W
  rw [grtN_best] at hn
  clear hf hg
  unfold grtT
  rcases hv : dnsB f with _ | _
  · rw [hv] at hd
    simp only [Bool.false_and, Bool.false_eq_true, if_false]
    have Hd := Lib.hid hd; clear hd hv hn he
    go_enter Tryd.func14, Tryd.ntmps14
    go_wp2_with (refine wpList_load_arr a1 _ _ rfl rfl rfl Tryd.underlying37 sizePrint ?_)
    refine (Hd.out _).mono ?_; rintro e w1 ⟨rfl, hb1⟩
    have k1 := k0.trans (hb1.mono k0.size)
    clear a1 hb1 k0 Hd
    go_wp2_with fail
    go_ret3
    exact ⟨rfl, k1⟩
  rcases hv2 : dnsB g with _ | _
  · rw [hv] at hd
    rw [hv2] at he
    simp only [Bool.and_false, Bool.false_eq_true, if_false]
    have Hd := Lib.hid hd; clear hd hv
    have He := Lib.hid he; clear he hv2 hn
    go_enter Tryd.func14, Tryd.ntmps14
    go_wp2_with (refine wpList_load_arr a1 _ _ rfl rfl rfl Tryd.underlying37 sizePrint ?_)
    refine (Hd.out _).mono ?_; rintro e w1 ⟨rfl, hb1⟩
    have k1 := k0.trans (hb1.mono k0.size)
    have b2 := a2.below hb1 a2.lt
    clear a1 hb1 k0 Hd
    go_wp2_with (refine wpList_load_arrG b2 _ _ rfl rfl rfl Tryd.underlying37 sizePrint ?_)
    refine (He.out _).mono ?_; rintro e w2 ⟨rfl, hb2⟩
    have k2 := k1.trans (hb2.mono k1.size)
    clear b2 hb2 k1 He
    go_wp2_with fail
    go_ret3
    exact ⟨rfl, k2⟩
  · rw [hv] at hd
    rw [hv2] at he
    simp only [Bool.and_self, if_true]
    generalize difN f g (bestN (difN f g) 63) = Y at *
    generalize ((bestN (difN f g) 63 : Nat) : Int) = X at *
    have Hd := Lib.hid hd; clear hd hv
    have He := Lib.hid he; clear he hv2
    have Hn := Lib.hid hn; clear hn
    go_enter Tryd.func14, Tryd.ntmps14
    go_wp2_with (refine wpList_load_arr a1 _ _ rfl rfl rfl Tryd.underlying37 sizePrint ?_)
    refine (Hd.out _).mono ?_; rintro e w1 ⟨rfl, hb1⟩
    have k1 := k0.trans (hb1.mono k0.size)
    have b1 := a1.below hb1 a1.lt
    have b2 := a2.below hb1 a2.lt
    clear a1 a2 hb1 k0 Hd
    go_wp2_with (refine wpList_load_arrG b2 _ _ rfl rfl rfl Tryd.underlying37 sizePrint ?_)
    refine (He.out _).mono ?_; rintro e w2 ⟨rfl, hb2⟩
    have k2 := k1.trans (hb2.mono k1.size)
    have c1 := b1.below hb2 b1.lt
    have c2 := b2.below hb2 b2.lt
    clear b1 b2 hb2 k1 He
    go_wp2_with (first | (refine wpList_load_arr c1 _ _ rfl rfl rfl Tryd.underlying37 sizePrint ?_) | (refine wpList_load_arr c2 _ _ rfl rfl rfl Tryd.underlying37 sizePrint ?_))
    refine (Hn.out _).mono ?_; rintro e w3 ⟨rfl, hb3⟩
    have k3 := k2.trans (hb3.mono k2.size)
    clear c1 c2 hb3 k2 Hn
    go_wp2_with fail
    go_quiet (fail)
    go_wp2
    go_ret3
    refine ⟨rfl, ?_⟩
    repeat (first | exact Below.refl _ _ | assumption | apply Below.drew | apply below_drewA | (refine Below.alloc ?_ (by first | exact k3.size | omega | (simp; done) | (simp; omega)) _) | (refine Below.setCell ?_ (by first | exact k3.size | omega | (simp; done) | (simp; omega)) _))
end Go.Proofs.YtfnefeaplghgcaaDoor
