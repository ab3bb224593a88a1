/-
  The best of all copies in the program, with its code. Condition: its variables hold their own errors, the library's table of de Bruijn what its text lays; at most 1048576 copies of 16-bit numbers.
-/
import Derived.Test.YtnohpkhaimmdmaaDoorBstI
namespace Go.Proofs.YtnohpkhaimmdmaaDoor
open Go.RowKit

theorem step_load_arrJ {P : Program} {ops : Array Oper} {o : Oper} {a : Act} {w : World} {K : Act → World → Prop} {Q : Exit → Act → World → Prop} {E : Prop} {b : Nat} {T : TypeId} {κ : IntKind} {n : Nat} {f : Nat → Int} {m : Nat} {e : TypeId}
    (h : HasArr w b T κ n f) (hg : o.guard = none) (ty : TypeId) (x : Operand) (ho : o.op = .load ty x) (hx : a.eval x = .pointer (some ⟨b, 0, none⟩)) (hu : P.underlying ty = some (.array m e)) (hi : (P.info? ty).map (·.size) = some n)
    (hK : K (a.put o.dst (.agg (arrV κ n f))) w) : if Region.wanted o (yielded ops a.tmps) = true then Oper.wp P o a w K Q else E := by
  have hw : Region.wanted o (yielded ops a.tmps) = true := by simp [Region.wanted, hg]
  rw [if_pos hw]
  exact wp_load_row ty x ho b hx T _ (0, 0) _ h hu rfl (by rw [arrV_size]; exact hi) hK

set_option maxRecDepth 100000 in
set_option maxHeartbeats 2000000 in
theorem bestOfCopies_bad (s : Ers) (A : Option Addr) (n cap : Nat) (g : Nat → Nat → Int) (x : Int) (hn : n ≤ 1048576) (hc : copC n g x ≠ 0) (w : World) (hr : PrsIn w A n g) (hE : ErrEnv s w) :
    Calls Tryd.prog 26 #[.slice A n cap, .int .i64 x] w fun e w' => e = .returned (.tuple #[.agg (arrV .i16 64 fun _ => 0), .int .u64 0, copE s (copC n g x)]) ∧ Below w.heap.size w w' := by
  have a1 := HasArr.zero w 36 (b := w.heap.size) rfl
  have k0 := (Below.refl w.heap.size w).alloc (Nat.le_refl _) (.cells #[.int .i16 0, .int .i16 0, .int .i16 0, .int .i16 0, .int .i16 0, .int .i16 0, .int .i16 0, .int .i16 0, .int .i16 0, .int .i16 0, .int .i16 0, .int .i16 0, .int .i16 0, .int .i16 0, .int .i16 0, .int .i16 0, .int .i16 0, .int .i16 0, .int .i16 0, .int .i16 0, .int .i16 0, .int .i16 0, .int .i16 0, .int .i16 0, .int .i16 0, .int .i16 0, .int .i16 0, .int .i16 0, .int .i16 0, .int .i16 0, .int .i16 0, .int .i16 0, .int .i16 0, .int .i16 0, .int .i16 0, .int .i16 0, .int .i16 0, .int .i16 0, .int .i16 0, .int .i16 0, .int .i16 0, .int .i16 0, .int .i16 0, .int .i16 0, .int .i16 0, .int .i16 0, .int .i16 0, .int .i16 0, .int .i16 0, .int .i16 0, .int .i16 0, .int .i16 0, .int .i16 0, .int .i16 0, .int .i16 0, .int .i16 0, .int .i16 0, .int .i16 0, .int .i16 0, .int .i16 0, .int .i16 0, .int .i16 0, .int .i16 0, .int .i16 0] 36)
  have hq := dustOf_bad s A n cap g x hn hc _ (hr.below k0 (Nat.le_refl _)) (hE.below k0 (Nat.le_refl _))
  obtain ⟨a, ha⟩ := copE_ne s hc
  rw [ha] at hq ⊢
  have Hq := Lib.hid hq; clear hq hc ha hr hE
  go_enter Tryd.func26, Tryd.ntmps26
  go_wp2_with fail
  refine Hq.out.mono ?_; rintro e w2 ⟨rfl, hb2⟩
  have k2 := k0.trans (hb2.mono k0.size)
  have b2 := a1.below hb2 a1.lt
  have a2 : (w2.alloc (.cells Tryd.zeroCells67 67)).heap[w2.heap.size]? = some (.cells Tryd.zeroCells67 67 (0, 0)) := heap_alloc_last w2 _
  have kk := below_setRow ((Below.refl w2.heap.size w2).alloc (Nat.le_refl _) (.cells Tryd.zeroCells67 67)) (b := w2.heap.size) (Nat.le_refl _) Tryd.zeroCells67
  have k3 := k2.trans (kk.mono k2.size)
  have b3 := b2.below kk b2.lt
  clear hb2 k2 b2 a1 k0 kk
  go_wp2_with (first
    | (refine wpList_store_dz a2 dzSize rfl (.tmp 7) (.tmp 19) rfl rfl rfl ?_)
    | (refine wpList_store_arr (g := fun _ => 0) b3 36 (.tmp 4) (.tmp 23) rfl rfl rfl (by rw [zeroArr16]; rfl) sizePrint ?_))
  refine bodyPost_ret (v := .tuple #[.agg (arrV .i16 64 fun _ => 0), .int .u64 0, errV a]) ?_ rfl ⟨rfl, below_setRow k3 (b := w.heap.size) (by omega) _⟩
  exact resultsRowTmp2B rfl _ _ _ _ _ _ _ rfl (b3.setRow .i16 fun _ => 0) Tryd.underlying36 rfl (by rw [arrV_size]; exact sizePrint) _ _ rfl rfl

set_option maxRecDepth 100000 in
set_option maxHeartbeats 2000000 in
theorem BestOfCopies_ex (s : Ers) (A : Option Addr) (n cap : Nat) (x : Int) (G : Nat → Int) (R c : Int) (v : Value) (hv : IsCode s v c) (w : World) (hE : ErrEnv s w)
    (h : ∀ W, Below w.heap.size w W → Calls Tryd.prog 26 #[.slice A n cap, .int .i64 x] W fun e w' => e = .returned (.tuple #[.agg (arrV .i16 64 G), .int .u64 R, v]) ∧ Below W.heap.size W w') :
    Calls Tryd.prog 14 #[.slice A n cap, .int .i64 x] w fun e w' => e = .returned (.tuple #[.agg (arrV .i16 64 G), .int .u64 R, .int .i64 c]) ∧ Below w.heap.size w w' := by
  have a2 := HasArr.zero w 36 (b := w.heap.size) rfl
  have k0 := (Below.refl w.heap.size w).alloc (Nat.le_refl _) (.cells #[.int .i16 0, .int .i16 0, .int .i16 0, .int .i16 0, .int .i16 0, .int .i16 0, .int .i16 0, .int .i16 0, .int .i16 0, .int .i16 0, .int .i16 0, .int .i16 0, .int .i16 0, .int .i16 0, .int .i16 0, .int .i16 0, .int .i16 0, .int .i16 0, .int .i16 0, .int .i16 0, .int .i16 0, .int .i16 0, .int .i16 0, .int .i16 0, .int .i16 0, .int .i16 0, .int .i16 0, .int .i16 0, .int .i16 0, .int .i16 0, .int .i16 0, .int .i16 0, .int .i16 0, .int .i16 0, .int .i16 0, .int .i16 0, .int .i16 0, .int .i16 0, .int .i16 0, .int .i16 0, .int .i16 0, .int .i16 0, .int .i16 0, .int .i16 0, .int .i16 0, .int .i16 0, .int .i16 0, .int .i16 0, .int .i16 0, .int .i16 0, .int .i16 0, .int .i16 0, .int .i16 0, .int .i16 0, .int .i16 0, .int .i16 0, .int .i16 0, .int .i16 0, .int .i16 0, .int .i16 0, .int .i16 0, .int .i16 0, .int .i16 0, .int .i16 0] 36)
  have H := Lib.hid (h _ k0); clear h
  go_enter Tryd.func14, Tryd.ntmps14
  go_wp2_with fail
  refine H.out.mono ?_; rintro e w2 ⟨rfl, hb2⟩
  have b2 := a2.below hb2 a2.lt
  have k2 := k0.trans (hb2.mono k0.size)
  have hl2 := b2.lt
  clear a2 hb2 H k0
  have z9 := HasArr.zero w2 36 (b := w2.heap.size) rfl
  have b3 := b2.alloc (.cells #[.int .i16 0, .int .i16 0, .int .i16 0, .int .i16 0, .int .i16 0, .int .i16 0, .int .i16 0, .int .i16 0, .int .i16 0, .int .i16 0, .int .i16 0, .int .i16 0, .int .i16 0, .int .i16 0, .int .i16 0, .int .i16 0, .int .i16 0, .int .i16 0, .int .i16 0, .int .i16 0, .int .i16 0, .int .i16 0, .int .i16 0, .int .i16 0, .int .i16 0, .int .i16 0, .int .i16 0, .int .i16 0, .int .i16 0, .int .i16 0, .int .i16 0, .int .i16 0, .int .i16 0, .int .i16 0, .int .i16 0, .int .i16 0, .int .i16 0, .int .i16 0, .int .i16 0, .int .i16 0, .int .i16 0, .int .i16 0, .int .i16 0, .int .i16 0, .int .i16 0, .int .i16 0, .int .i16 0, .int .i16 0, .int .i16 0, .int .i16 0, .int .i16 0, .int .i16 0, .int .i16 0, .int .i16 0, .int .i16 0, .int .i16 0, .int .i16 0, .int .i16 0, .int .i16 0, .int .i16 0, .int .i16 0, .int .i16 0, .int .i16 0, .int .i16 0] 36)
  have k3 := k2.alloc k2.size (.cells #[.int .i16 0, .int .i16 0, .int .i16 0, .int .i16 0, .int .i16 0, .int .i16 0, .int .i16 0, .int .i16 0, .int .i16 0, .int .i16 0, .int .i16 0, .int .i16 0, .int .i16 0, .int .i16 0, .int .i16 0, .int .i16 0, .int .i16 0, .int .i16 0, .int .i16 0, .int .i16 0, .int .i16 0, .int .i16 0, .int .i16 0, .int .i16 0, .int .i16 0, .int .i16 0, .int .i16 0, .int .i16 0, .int .i16 0, .int .i16 0, .int .i16 0, .int .i16 0, .int .i16 0, .int .i16 0, .int .i16 0, .int .i16 0, .int .i16 0, .int .i16 0, .int .i16 0, .int .i16 0, .int .i16 0, .int .i16 0, .int .i16 0, .int .i16 0, .int .i16 0, .int .i16 0, .int .i16 0, .int .i16 0, .int .i16 0, .int .i16 0, .int .i16 0, .int .i16 0, .int .i16 0, .int .i16 0, .int .i16 0, .int .i16 0, .int .i16 0, .int .i16 0, .int .i16 0, .int .i16 0, .int .i16 0, .int .i16 0, .int .i16 0, .int .i16 0] 36)
  go_wp2_with (refine wpList_store_arr z9 36 (.tmp 7) (.tmp 14) rfl rfl rfl rfl sizePrint ?_)
  have z8 := z9.setRow .i16 G
  have b8 := b3.rowOther (b' := w2.heap.size) (by omega) (arrV .i16 64 G)
  have k4 := below_setRow k3 (b := w2.heap.size) k2.size (arrV .i16 64 G)
  clear z9 b3 k3
  generalize ((w2.alloc (.cells #[.int .i16 0, .int .i16 0, .int .i16 0, .int .i16 0, .int .i16 0, .int .i16 0, .int .i16 0, .int .i16 0, .int .i16 0, .int .i16 0, .int .i16 0, .int .i16 0, .int .i16 0, .int .i16 0, .int .i16 0, .int .i16 0, .int .i16 0, .int .i16 0, .int .i16 0, .int .i16 0, .int .i16 0, .int .i16 0, .int .i16 0, .int .i16 0, .int .i16 0, .int .i16 0, .int .i16 0, .int .i16 0, .int .i16 0, .int .i16 0, .int .i16 0, .int .i16 0, .int .i16 0, .int .i16 0, .int .i16 0, .int .i16 0, .int .i16 0, .int .i16 0, .int .i16 0, .int .i16 0, .int .i16 0, .int .i16 0, .int .i16 0, .int .i16 0, .int .i16 0, .int .i16 0, .int .i16 0, .int .i16 0, .int .i16 0, .int .i16 0, .int .i16 0, .int .i16 0, .int .i16 0, .int .i16 0, .int .i16 0, .int .i16 0, .int .i16 0, .int .i16 0, .int .i16 0, .int .i16 0, .int .i16 0, .int .i16 0, .int .i16 0, .int .i16 0] 36)).setRow w2.heap.size (arrV .i16 64 G)) = W3 at *
  have HE := hE.below k4 (Nat.le_refl _)
  have HED : ErrEnv s W3.drew := HE.below ((Below.refl _ W3).drew) (Nat.le_refl _)
  refine wp_region_any (by kernel_rfl) ?_
  change wpAny _ _ _ _ _ _ _ (World.drew _)
  refine wpAny_take (i := 1) (v := .int .u64 R) rfl (by kernel_rfl) (by kernel_rfl) (by kernel_rfl) (fun _ _ _ h => h) (Or.inl ⟨by rfl, by intro w; go_simp⟩) ?_
  refine wpAny_take (i := 2) (v := v) rfl (by kernel_rfl) (by kernel_rfl) (by kernel_rfl) (fun _ _ _ h => h) (Or.inl ⟨by rfl, by intro w; go_simp⟩) ?_
  refine wpAny_ready (rs := [0, 3]) (by kernel_rfl) (by simp) ?_
  refine AllReady.cons rfl (fun K hK => ?_) (AllReady.cons rfl (fun K hK => ?_) AllReady.nil)
  · refine step_load_arrJ (w := W3.drew) z8.drew rfl 36 (.tmp 7) rfl rfl Tryd.underlying36 sizePrint ?_
    refine hK _ _ ?_; clear hK K
    refine wpAny_ready (rs := [3]) (by kernel_rfl) (by simp) ?_
    refine AllReady.cons rfl (fun K hK => ?_) AllReady.nil
    go_simp
    refine (codeOf_any hv _ HED).mono ?_; rintro e w' ⟨rfl, rfl⟩
    refine hK _ _ ?_; clear hK K
    try go_frame
    refine wpAny_of_seq _ 4 _ _ _ (fun j => match j with | 0 => rfl | 1 => rfl | 2 => rfl | _ + 3 => by simp; omega) (by kernel_rfl) ?_
    go_wp2_with (refine wpList_store_arr (b8.drew) 36 (.tmp 4) (.tmp 17) rfl rfl rfl rfl sizePrint ?_)
    refine bodyPost_ret (v := .tuple #[.agg (arrV .i16 64 G), .int .u64 R, .int .i64 c]) ?_ rfl ⟨rfl, below_setRow k4.drew (b := w.heap.size) (by omega) _⟩
    exact resultsRowTmp2B rfl _ _ _ _ _ _ _ rfl (b8.drew.setRow .i16 G) Tryd.underlying36 rfl (by rw [arrV_size]; exact sizePrint) _ _ rfl rfl
  · go_simp
    refine (codeOf_any hv _ HED).mono ?_; rintro e w' ⟨rfl, rfl⟩
    refine hK _ _ ?_; clear hK K
    refine wpAny_ready (rs := [0]) (by kernel_rfl) (by simp) ?_
    refine AllReady.cons rfl (fun K hK => ?_) AllReady.nil
    refine step_load_arrJ (w := W3.drew) z8.drew rfl 36 (.tmp 7) rfl rfl Tryd.underlying36 sizePrint ?_
    refine hK _ _ ?_; clear hK K
    try go_frame
    refine wpAny_of_seq _ 4 _ _ _ (fun j => match j with | 0 => rfl | 1 => rfl | 2 => rfl | _ + 3 => by simp; omega) (by kernel_rfl) ?_
    go_wp2_with (refine wpList_store_arr (b8.drew) 36 (.tmp 4) (.tmp 17) rfl rfl rfl rfl sizePrint ?_)
    refine bodyPost_ret (v := .tuple #[.agg (arrV .i16 64 G), .int .u64 R, .int .i64 c]) ?_ rfl ⟨rfl, below_setRow k4.drew (b := w.heap.size) (by omega) _⟩
    exact resultsRowTmp2B rfl _ _ _ _ _ _ _ rfl (b8.drew.setRow .i16 G) Tryd.underlying36 rfl (by rw [arrV_size]; exact sizePrint) _ _ rfl rfl

theorem BestOfCopies_any (s : Ers) (A : Option Addr) (n cap : Nat) (g : Nat → Nat → Int) (x : Int) (hn : n ≤ 1048576) (hs : ∀ i, i < n → S16 (g i)) (w : World) (hr : PrsIn w A n g) (hE : ErrEnv s w) (hT : DbEnv w) :
    Calls Tryd.prog 14 #[.slice A n cap, .int .i64 x] w fun e w' => e = .returned (.tuple #[.agg (arrV .i16 64 (bcF g n x)), .int .u64 (bcL g n x), .int .i64 (copC n g x)]) ∧ Below w.heap.size w w' := by
  by_cases hc : copC n g x = 0
  · rw [bcF_ok hc, bcL_ok hc, hc]
    exact BestOfCopies_ex s A n cap x _ _ 0 _ .ok w hE fun W hW => bestOfCopies_ok s A n cap g x hn hs hc W (hr.below hW (Nat.le_refl _)) (hE.below hW (Nat.le_refl _)) (hT.below hW)
  · rw [bcF_no hc, bcL_no hc]
    exact BestOfCopies_ex s A n cap x _ 0 _ _ (copE_code s n g x) w hE fun W hW => bestOfCopies_bad s A n cap g x hn hc W (hr.below hW (Nat.le_refl _)) (hE.below hW (Nat.le_refl _))
end Go.Proofs.YtnohpkhaimmdmaaDoor
