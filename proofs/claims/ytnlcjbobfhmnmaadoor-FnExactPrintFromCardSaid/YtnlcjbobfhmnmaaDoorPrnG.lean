/-
  The print of a negative: the program's functions in one statement each. Condition: at most 1048576 points and steps, numbers of int16 and int8; its variables hold their own errors and its table of times.
-/
import Derived.Test.YtnlcjbobfhmnmaaDoorPrnE
namespace Go.Proofs.YtnlcjbobfhmnmaaDoor
open Go.RowKit

theorem printFrom_any (s : Ers) (f : Nat → Int) (hf : S16 f) (b n cap : Nat) (xs ys : Nat → Int) (hn : n ≤ 1048576) (hs : SmallP n xs ys) (b' m cap' : Nat) (fs es : Nat → Int) (hm : m ≤ 1048576) (hs' : SmallS m fs es)
    (w : World) (hr : PtRow w b n xs ys) (hr' : StRow w b' m fs es) (hE : ErrEnv s w) (hT : TimEnv w) :
    Calls Tryd.prog 28 #[.agg (arrV .i16 64 f), .slice (some ⟨b, 0, none⟩) n cap, .slice (some ⟨b', 0, none⟩) m cap'] w (ErrPrn s w (prtG f n xs ys m fs es) (prtC f n xs ys m es)) := by
  rcases hp : prtB f n xs ys m es with _ | _
  · exact printFrom_err s f hf b n cap xs ys hn hs b' m cap' fs es hm hs' w hr hr' hE hT (by rw [hp]; simp)
  · have h := hp
    simp only [prtB, Bool.and_eq_true] at h
    exact printFrom_ok s f b n cap xs ys hn hs b' m cap' fs es hm hs' w hr hr' hE hT h.1.1 h.1.2 h.2

set_option maxRecDepth 100000 in
set_option maxHeartbeats 2000000 in
theorem PrintFrom_any (s : Ers) (f : Nat → Int) (hf : S16 f) (b n cap : Nat) (xs ys : Nat → Int) (hn : n ≤ 1048576) (hs : SmallP n xs ys) (b' m cap' : Nat) (fs es : Nat → Int) (hm : m ≤ 1048576) (hs' : SmallS m fs es)
    (w : World) (hr : PtRow w b n xs ys) (hr' : StRow w b' m fs es) (hE : ErrEnv s w) (hT : TimEnv w) :
    Calls Tryd.prog 11 #[.agg (arrV .i16 64 f), .slice (some ⟨b, 0, none⟩) n cap, .slice (some ⟨b', 0, none⟩) m cap'] w fun e w' => e = .returned (.tuple #[.agg (arrV .i16 64 (prtG f n xs ys m fs es)), .int .i64 (prtC f n xs ys m es)]) ∧ Below w.heap.size w w' := by
  have a1 := (HasArr.new w 31 .i16 64 f).alloc (.cells #[.int .i16 0, .int .i16 0, .int .i16 0, .int .i16 0, .int .i16 0, .int .i16 0, .int .i16 0, .int .i16 0, .int .i16 0, .int .i16 0, .int .i16 0, .int .i16 0, .int .i16 0, .int .i16 0, .int .i16 0, .int .i16 0, .int .i16 0, .int .i16 0, .int .i16 0, .int .i16 0, .int .i16 0, .int .i16 0, .int .i16 0, .int .i16 0, .int .i16 0, .int .i16 0, .int .i16 0, .int .i16 0, .int .i16 0, .int .i16 0, .int .i16 0, .int .i16 0, .int .i16 0, .int .i16 0, .int .i16 0, .int .i16 0, .int .i16 0, .int .i16 0, .int .i16 0, .int .i16 0, .int .i16 0, .int .i16 0, .int .i16 0, .int .i16 0, .int .i16 0, .int .i16 0, .int .i16 0, .int .i16 0, .int .i16 0, .int .i16 0, .int .i16 0, .int .i16 0, .int .i16 0, .int .i16 0, .int .i16 0, .int .i16 0, .int .i16 0, .int .i16 0, .int .i16 0, .int .i16 0, .int .i16 0, .int .i16 0, .int .i16 0, .int .i16 0] 28)
  have a2 := HasArr.zero (w.alloc (.cells (arrV .i16 64 f) 31)) 28 (b := w.heap.size + 1) (by simp)
  have k0 := ((Below.refl w.heap.size w).alloc (Nat.le_refl _) (.cells (arrV .i16 64 f) 31)).alloc (by simp) (.cells #[.int .i16 0, .int .i16 0, .int .i16 0, .int .i16 0, .int .i16 0, .int .i16 0, .int .i16 0, .int .i16 0, .int .i16 0, .int .i16 0, .int .i16 0, .int .i16 0, .int .i16 0, .int .i16 0, .int .i16 0, .int .i16 0, .int .i16 0, .int .i16 0, .int .i16 0, .int .i16 0, .int .i16 0, .int .i16 0, .int .i16 0, .int .i16 0, .int .i16 0, .int .i16 0, .int .i16 0, .int .i16 0, .int .i16 0, .int .i16 0, .int .i16 0, .int .i16 0, .int .i16 0, .int .i16 0, .int .i16 0, .int .i16 0, .int .i16 0, .int .i16 0, .int .i16 0, .int .i16 0, .int .i16 0, .int .i16 0, .int .i16 0, .int .i16 0, .int .i16 0, .int .i16 0, .int .i16 0, .int .i16 0, .int .i16 0, .int .i16 0, .int .i16 0, .int .i16 0, .int .i16 0, .int .i16 0, .int .i16 0, .int .i16 0, .int .i16 0, .int .i16 0, .int .i16 0, .int .i16 0, .int .i16 0, .int .i16 0, .int .i16 0, .int .i16 0] 28)
  have Hq := Lib.hid (printFrom_any s f hf b n cap xs ys hn hs b' m cap' fs es hm hs' _ (hr.below k0 hr.lt) (hr'.below k0 hr'.lt) (hE.below k0 (Nat.le_refl _)) (hT.below k0 (Nat.le_refl _)))
  have HE := Lib.hid hE; clear hE hr hs hr' hs' hT
  generalize prtC f n xs ys m es = C at *
  generalize prtG f n xs ys m fs es = G at *
  go_enter Tryd.func11, Tryd.ntmps11
  go_wp2_with (refine wpList_load_arr a1 31 (.tmp 3) rfl rfl rfl Tryd.underlying31 sizeNeg ?_)
  refine Hq.out.mono ?_; rintro e w2 ⟨v, hv, rfl, hb2⟩
  have a3 := a2.below hb2 a2.lt
  have k2 := k0.trans (hb2.mono k0.size)
  have Hcd := Lib.hid (codedPrt_any hv G _ (HE.out.below k2 (Nat.le_refl _)))
  clear hb2 a1 a2 k0 Hq
  go_wp2_with fail
  refine Hcd.out.mono ?_; rintro e w3 ⟨rfl, hb3⟩
  have a4 := a3.below hb3 a3.lt
  have k3 := k2.trans (hb3.mono k2.size)
  clear hb3 a3 k2
  go_wp2_with (refine wpList_store_arr a4 28 (.tmp 6) (.tmp 15) rfl rfl rfl rfl sizePrint ?_)
  refine bodyPost_ret (v := .tuple #[.agg (arrV .i16 64 G), .int .i64 C]) ?_ rfl ⟨rfl, below_setRow k3 (b := w.heap.size + 1) (by omega) _⟩
  exact resultsRowTmpP rfl _ _ _ _ _ _ _ rfl (a4.setRow .i16 G) Tryd.underlying28 rfl (by rw [arrV_size]; exact sizePrint) _ rfl
end Go.Proofs.YtnlcjbobfhmnmaaDoor
