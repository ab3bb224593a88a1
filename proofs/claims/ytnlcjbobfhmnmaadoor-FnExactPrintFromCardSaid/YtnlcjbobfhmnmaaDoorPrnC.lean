/-
  The print of a negative with its code: the reference's function. Condition: at most 1048576 points and steps, numbers of int16 and int8.
-/
import Derived.Test.YtnlcjbobfhmnmaaDoorPrnF
namespace Go.Proofs.YtnlcjbobfhmnmaaDoor
open Go.RowKit

def prtB (f : Nat → Int) (n : Nat) (xs ys : Nat → Int) (m : Nat) (es : Nat → Int) : Bool := dnsB f && validC n xs ys && stpB m es
def prtC (f : Nat → Int) (n : Nat) (xs ys : Nat → Int) (m : Nat) (es : Nat → Int) : Int := if prtB f n xs ys m es = true then 0 else 1
def prtG (f : Nat → Int) (n : Nat) (xs ys : Nat → Int) (m : Nat) (fs es : Nat → Int) : Nat → Int := if prtB f n xs ys m es = true then (fun c => dens n xs ys (plc (thin (addT fs es m c)) (f c))) else fun _ => 0
theorem prt_no {f : Nat → Int} {n : Nat} {xs ys : Nat → Int} {m : Nat} {fs es : Nat → Int} (h : prtB f n xs ys m es = false) : prtC f n xs ys m es = 1 ∧ prtG f n xs ys m fs es = fun _ => 0 := by simp [prtC, prtG, h]
theorem prt_yes {f : Nat → Int} {n : Nat} {xs ys : Nat → Int} {m : Nat} {fs es : Nat → Int} (h : prtB f n xs ys m es = true) : prtC f n xs ys m es = 0 ∧ prtG f n xs ys m fs es = fun c => dens n xs ys (plc (thin (addT fs es m c)) (f c)) := by simp [prtC, prtG, h]

theorem resultsRowTmpP {P : Program} {fn : Func} {p q : Tmp} {ty : TypeId} (h : fn.results = #[.cell p ty, .tmp q]) (tmps : Array Value) (w : World) (g : Nat) (t : TypeId) (cs : Array Value) (fr : Nat × Nat) (d : TypeDesc)
    (hp : tmps.getD p undef = .pointer (some ⟨g, 0, none⟩)) (hg : w.heap[g]? = some (.cells cs t fr))
    (hu : P.underlying ty = some d) (hd : (match d with | .struct _ | .array _ _ => true | _ => false) = true) (hi : (P.info? ty).map (·.size) = some cs.size) (v : Value) (hq : tmps.getD q undef = v) :
    (results fn tmps).run P w = .ok (.tuple #[.agg cs, v]) w := results_row_tmp h tmps w g t cs fr d hp hg hu hd hi v hq

set_option maxRecDepth 100000 in
set_option maxHeartbeats 2000000 in
theorem specPrintFrom_any (f : Nat → Int) (hf : S16 f) (b n cap : Nat) (xs ys : Nat → Int) (hn : n ≤ 1048576) (hs : SmallP n xs ys) (b' m cap' : Nat) (fs es : Nat → Int) (hm : m ≤ 1048576) (hs' : SmallS m fs es)
    (w : World) (hr : PtRow w b n xs ys) (hr' : StRow w b' m fs es) :
    Calls Tryd.prog 7 #[.agg (arrV .i16 64 f), .slice (some ⟨b, 0, none⟩) n cap, .slice (some ⟨b', 0, none⟩) m cap'] w fun e w' => e = .returned (.tuple #[.agg (arrV .i16 64 (prtG f n xs ys m fs es)), .int .i64 (prtC f n xs ys m es)]) ∧ Below w.heap.size w w' := by
  have a1 := (HasArr.new w 31 .i16 64 f).alloc (.cells #[.int .i16 0, .int .i16 0, .int .i16 0, .int .i16 0, .int .i16 0, .int .i16 0, .int .i16 0, .int .i16 0, .int .i16 0, .int .i16 0, .int .i16 0, .int .i16 0, .int .i16 0, .int .i16 0, .int .i16 0, .int .i16 0, .int .i16 0, .int .i16 0, .int .i16 0, .int .i16 0, .int .i16 0, .int .i16 0, .int .i16 0, .int .i16 0, .int .i16 0, .int .i16 0, .int .i16 0, .int .i16 0, .int .i16 0, .int .i16 0, .int .i16 0, .int .i16 0, .int .i16 0, .int .i16 0, .int .i16 0, .int .i16 0, .int .i16 0, .int .i16 0, .int .i16 0, .int .i16 0, .int .i16 0, .int .i16 0, .int .i16 0, .int .i16 0, .int .i16 0, .int .i16 0, .int .i16 0, .int .i16 0, .int .i16 0, .int .i16 0, .int .i16 0, .int .i16 0, .int .i16 0, .int .i16 0, .int .i16 0, .int .i16 0, .int .i16 0, .int .i16 0, .int .i16 0, .int .i16 0, .int .i16 0, .int .i16 0, .int .i16 0, .int .i16 0] 28)
  have a2 := HasArr.zero (w.alloc (.cells (arrV .i16 64 f) 31)) 28 (b := w.heap.size + 1) (by simp)
  have k0 := ((Below.refl w.heap.size w).alloc (Nat.le_refl _) (.cells (arrV .i16 64 f) 31)).alloc (by simp) (.cells #[.int .i16 0, .int .i16 0, .int .i16 0, .int .i16 0, .int .i16 0, .int .i16 0, .int .i16 0, .int .i16 0, .int .i16 0, .int .i16 0, .int .i16 0, .int .i16 0, .int .i16 0, .int .i16 0, .int .i16 0, .int .i16 0, .int .i16 0, .int .i16 0, .int .i16 0, .int .i16 0, .int .i16 0, .int .i16 0, .int .i16 0, .int .i16 0, .int .i16 0, .int .i16 0, .int .i16 0, .int .i16 0, .int .i16 0, .int .i16 0, .int .i16 0, .int .i16 0, .int .i16 0, .int .i16 0, .int .i16 0, .int .i16 0, .int .i16 0, .int .i16 0, .int .i16 0, .int .i16 0, .int .i16 0, .int .i16 0, .int .i16 0, .int .i16 0, .int .i16 0, .int .i16 0, .int .i16 0, .int .i16 0, .int .i16 0, .int .i16 0, .int .i16 0, .int .i16 0, .int .i16 0, .int .i16 0, .int .i16 0, .int .i16 0, .int .i16 0, .int .i16 0, .int .i16 0, .int .i16 0, .int .i16 0, .int .i16 0, .int .i16 0, .int .i16 0] 28)
  have r1 := hr.below k0 hr.lt
  have r2 := hr'.below k0 hr'.lt
  have hd := fun W h => l03Negative_any w.heap.size 31 f hf W h
  have hv := fun W h => l02Ok_any b n cap xs ys hn hs W h
  have ht := fun W h => l03Ok_any b' m cap' fs es hm hs' W h
  rcases h1 : dnsB f with _ | _
  · obtain ⟨e1, e2⟩ := prt_no (f := f) (n := n) (xs := xs) (ys := ys) (m := m) (fs := fs) (es := es) (by simp [prtB, h1])
    rw [e1, e2]
    rw [h1] at hd
    have Hd := Lib.hid hd; clear hd hv ht h1 e1 e2
    go_enter Tryd.func7, Tryd.ntmps7
    go_wp2_with fail
    refine (Hd.out _ a1).mono ?_; rintro e w1 ⟨rfl, hb1⟩
    have b2 := a2.below hb1 a2.lt
    have k1 := k0.trans (hb1.mono k0.size)
    clear a1 a2 k0 hb1 r1 r2
    go_wp2_with (refine wpList_store_zS b2 _ _ _ rfl rfl rfl rfl sizePrint ?_)
    refine bodyPost_ret (v := .tuple #[.agg (arrV .i16 64 fun _ => 0), .int .i64 1]) ?_ rfl ⟨rfl, below_setRow k1 (b := w.heap.size + 1) (by omega) _⟩
    exact resultsRowTmpP rfl _ _ _ _ _ _ _ rfl (b2.setRow .i16 fun _ => 0) Tryd.underlying28 rfl (by rw [arrV_size]; exact sizePrint) _ rfl
  rw [h1] at hd
  have Hd := Lib.hid hd; clear hd
  rcases h2 : validC n xs ys with _ | _
  · obtain ⟨e1, e2⟩ := prt_no (f := f) (n := n) (xs := xs) (ys := ys) (m := m) (fs := fs) (es := es) (by simp [prtB, h2])
    rw [e1, e2]
    rw [h2] at hv
    have Hv := Lib.hid hv; clear hv ht h1 h2 e1 e2
    go_enter Tryd.func7, Tryd.ntmps7
    go_wp2_with fail
    refine (Hd.out _ a1).mono ?_; rintro e w1 ⟨rfl, hb1⟩
    have b2 := a2.below hb1 a2.lt
    have k1 := k0.trans (hb1.mono k0.size)
    have s1 := r1.below hb1 r1.lt
    clear a1 a2 k0 hb1 r1 r2
    go_wp2_with fail
    refine (Hv.out _ s1).mono ?_; rintro e w2 ⟨rfl, hb2⟩
    have b3 := b2.below hb2 b2.lt
    have k2 := k1.trans (hb2.mono k1.size)
    clear b2 k1 hb2 s1
    go_wp2_with (refine wpList_store_zS b3 _ _ _ rfl rfl rfl rfl sizePrint ?_)
    refine bodyPost_ret (v := .tuple #[.agg (arrV .i16 64 fun _ => 0), .int .i64 1]) ?_ rfl ⟨rfl, below_setRow k2 (b := w.heap.size + 1) (by omega) _⟩
    exact resultsRowTmpP rfl _ _ _ _ _ _ _ rfl (b3.setRow .i16 fun _ => 0) Tryd.underlying28 rfl (by rw [arrV_size]; exact sizePrint) _ rfl
  rw [h2] at hv
  have Hv := Lib.hid hv; clear hv
  rcases h3 : stpB m es with _ | _
  · obtain ⟨e1, e2⟩ := prt_no (f := f) (n := n) (xs := xs) (ys := ys) (m := m) (fs := fs) (es := es) (by simp [prtB, h3])
    rw [e1, e2]
    rw [h3] at ht
    have Ht := Lib.hid ht; clear ht h1 h2 h3 e1 e2
    go_enter Tryd.func7, Tryd.ntmps7
    go_wp2_with fail
    refine (Hd.out _ a1).mono ?_; rintro e w1 ⟨rfl, hb1⟩
    have b2 := a2.below hb1 a2.lt
    have k1 := k0.trans (hb1.mono k0.size)
    have s1 := r1.below hb1 r1.lt
    have s2 := r2.below hb1 r2.lt
    clear a1 a2 k0 hb1 r1 r2
    go_wp2_with fail
    refine (Hv.out _ s1).mono ?_; rintro e w2 ⟨rfl, hb2⟩
    have b3 := b2.below hb2 b2.lt
    have k2 := k1.trans (hb2.mono k1.size)
    have t2 := s2.below hb2 s2.lt
    clear b2 k1 hb2 s1 s2
    go_wp2_with fail
    refine (Ht.out _ t2).mono ?_; rintro e w3 ⟨rfl, rfl⟩
    go_wp2_with (refine wpList_store_zS b3 _ _ _ rfl rfl rfl rfl sizePrint ?_)
    refine bodyPost_ret (v := .tuple #[.agg (arrV .i16 64 fun _ => 0), .int .i64 1]) ?_ rfl ⟨rfl, below_setRow k2 (b := w.heap.size + 1) (by omega) _⟩
    exact resultsRowTmpP rfl _ _ _ _ _ _ _ rfl (b3.setRow .i16 fun _ => 0) Tryd.underlying28 rfl (by rw [arrV_size]; exact sizePrint) _ rfl
  rw [h3] at ht
  have Ht := Lib.hid ht; clear ht
  obtain ⟨e1, e2⟩ := prt_yes (f := f) (n := n) (xs := xs) (ys := ys) (m := m) (fs := fs) (es := es) (by simp [prtB, h1, h2, h3])
  rw [e1, e2]
  have hl := fun W ha hr hr' => l03From_any w.heap.size 31 f (fun k hk => dnsB_bd h1 hk) b n cap xs ys hn (validC_crv h2).1 b' m cap' fs es hm hs' (stpB_lit h3) W ha hr hr'
  have Hl := Lib.hid hl; clear hl h1 h2 h3 e1 e2
  generalize (fun c => dens n xs ys (plc (thin (addT fs es m c)) (f c))) = G at *
  go_enter Tryd.func7, Tryd.ntmps7
  go_wp2_with fail
  refine (Hd.out _ a1).mono ?_; rintro e w1 ⟨rfl, hb1⟩
  have b1 := a1.below hb1 a1.lt
  have b2 := a2.below hb1 a2.lt
  have k1 := k0.trans (hb1.mono k0.size)
  have s1 := r1.below hb1 r1.lt
  have s2 := r2.below hb1 r2.lt
  clear a1 a2 k0 hb1 r1 r2
  go_wp2_with fail
  refine (Hv.out _ s1).mono ?_; rintro e w2 ⟨rfl, hb2⟩
  have c1 := b1.below hb2 b1.lt
  have b3 := b2.below hb2 b2.lt
  have k2 := k1.trans (hb2.mono k1.size)
  have t1 := s1.below hb2 s1.lt
  have t2 := s2.below hb2 s2.lt
  clear b1 b2 k1 hb2 s1 s2
  go_wp2_with fail
  refine (Ht.out _ t2).mono ?_; rintro e w3 ⟨rfl, rfl⟩
  go_wp2_with fail
  refine (Hl.out _ c1 t1 t2).mono ?_; rintro e w4 ⟨rfl, hb4⟩
  have b4 := b3.below hb4 b3.lt
  have k4 := k2.trans (hb4.mono k2.size)
  clear b3 k2 hb4 c1 t1 t2
  go_wp2_with (refine wpList_store_arr b4 _ _ _ rfl rfl rfl rfl sizePrint ?_)
  refine bodyPost_ret (v := .tuple #[.agg (arrV .i16 64 G), .int .i64 0]) ?_ rfl ⟨rfl, below_setRow k4 (b := w.heap.size + 1) (by omega) _⟩
  exact resultsRowTmpP rfl _ _ _ _ _ _ _ rfl (b4.setRow .i16 G) Tryd.underlying28 rfl (by rw [arrV_size]; exact sizePrint) _ rfl
end Go.Proofs.YtnlcjbobfhmnmaaDoor
