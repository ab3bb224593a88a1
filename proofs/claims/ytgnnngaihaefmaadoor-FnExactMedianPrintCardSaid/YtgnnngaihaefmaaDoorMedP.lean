/-
  MedianPrint: what both sides' functions return. Condition of the program's: its variables hold their own errors.
-/
import Derived.Test.YtgnnngaihaefmaaDoorMedS
import Derived.Test.YtgnnngaihaefmaaDoorCop
namespace Go.Proofs.YtgnnngaihaefmaaDoor
open Go.RowKit

/-- The cells that are handed back. -/
def mdF (g : Nat → Nat → Int) (n : Nat) (k : Nat) : Int := if copC n g 0 = 0 then medF g n k else 0
theorem mdF_ok {g : Nat → Nat → Int} {n : Nat} (h : copC n g 0 = 0) : mdF g n = medF g n := by funext k; simp [mdF, h]
theorem mdF_no {g : Nat → Nat → Int} {n : Nat} (h : copC n g 0 ≠ 0) : mdF g n = fun _ => 0 := by funext k; simp [mdF, h]
theorem resultsRowTmp1 {P : Program} {fn : Func} {p q : Tmp} {ty : TypeId} (h : fn.results = #[.cell p ty, .tmp q]) (tmps : Array Value) (w : World) (g : Nat) (t : TypeId) (cs : Array Value) (fr : Nat × Nat) (d : TypeDesc)
    (hp : tmps.getD p undef = .pointer (some ⟨g, 0, none⟩)) (hg : w.heap[g]? = some (.cells cs t fr))
    (hu : P.underlying ty = some d) (hd : (match d with | .struct _ | .array _ _ => true | _ => false) = true) (hi : (P.info? ty).map (·.size) = some cs.size) (v : Value) (hq : tmps.getD q undef = v) :
    (results fn tmps).run P w = .ok (.tuple #[.agg cs, v]) w := by
  have hp' : tmps[p]?.getD undef = .pointer (some ⟨g, 0, none⟩) := by simpa using hp
  have hq' : tmps[q]?.getD undef = v := by simpa using hq
  simp [results, h, hp', hq', asAddr, run_loadVar_row w g t ty cs fr d hg hu hd hi]
theorem copC_pos {n : Nat} {g : Nat → Nat → Int} {x : Int} (h : copC n g x = 0) : 1 ≤ n ∧ n ≤ 8 := by
  rcases copC_cases n g x with h1 | h1 | h1
  · exact h1.2.2.1
  · rw [h1] at h; cases h
  · rw [h1] at h; cases h
theorem copE_ne (s : Ers) {n : Nat} {g : Nat → Nat → Int} {x : Int} (hc : copC n g x ≠ 0) : ∃ a, copE s (copC n g x) = errV a := by
  rcases copC_cases n g x with h | h | h
  · exact absurd h.1 hc
  · exact ⟨s.einvalid, by rw [h]; rfl⟩
  · exact ⟨s.erange, by rw [h]; rfl⟩

set_option maxRecDepth 100000 in
set_option maxHeartbeats 2000000 in
theorem specMedianPrint_any (A : Option Addr) (n cap : Nat) (g : Nat → Nat → Int) (hn : n ≤ 1048576) (hs : ∀ i, i < n → S16 (g i)) (w : World) (hr : PrsIn w A n g) :
    Calls Tryd.prog 16 #[.slice A n cap] w fun e w' => e = .returned (.tuple #[.agg (arrV .i16 64 (mdF g n)), .int .i64 (copC n g 0)]) ∧ Below w.heap.size w w' := by
  have a1 := HasArr.zero w 25 (b := w.heap.size) rfl
  have k0 := (Below.refl w.heap.size w).alloc (Nat.le_refl _) (.cells #[.int .i16 0, .int .i16 0, .int .i16 0, .int .i16 0, .int .i16 0, .int .i16 0, .int .i16 0, .int .i16 0, .int .i16 0, .int .i16 0, .int .i16 0, .int .i16 0, .int .i16 0, .int .i16 0, .int .i16 0, .int .i16 0, .int .i16 0, .int .i16 0, .int .i16 0, .int .i16 0, .int .i16 0, .int .i16 0, .int .i16 0, .int .i16 0, .int .i16 0, .int .i16 0, .int .i16 0, .int .i16 0, .int .i16 0, .int .i16 0, .int .i16 0, .int .i16 0, .int .i16 0, .int .i16 0, .int .i16 0, .int .i16 0, .int .i16 0, .int .i16 0, .int .i16 0, .int .i16 0, .int .i16 0, .int .i16 0, .int .i16 0, .int .i16 0, .int .i16 0, .int .i16 0, .int .i16 0, .int .i16 0, .int .i16 0, .int .i16 0, .int .i16 0, .int .i16 0, .int .i16 0, .int .i16 0, .int .i16 0, .int .i16 0, .int .i16 0, .int .i16 0, .int .i16 0, .int .i16 0, .int .i16 0, .int .i16 0, .int .i16 0, .int .i16 0] 25)
  have hq := l07Copies_any A n cap g 0 hn hs _ (hr.below k0 (Nat.le_refl _))
  have HR := Lib.hid (hr.below k0 (Nat.le_refl _)); clear hr
  by_cases hc : copC n g 0 = 0
  · rw [mdF_ok hc]
    have h8 := copC_pos hc
    have Hm := Lib.hid (fun W h => l07Median_any A n cap g h8.1 h8.2 hs W h)
    rw [hc] at hq ⊢
    have Hq := Lib.hid hq; clear hq hs hc h8
    go_enter Tryd.func16, Tryd.ntmps16
    go_wp2_with fail
    refine Hq.out.mono ?_; rintro e w2 ⟨rfl, hb2⟩
    have a2 := a1.below hb2 a1.lt
    have k2 := k0.trans (hb2.mono k0.size)
    have HR2 := Lib.hid (HR.out.below hb2 (Nat.le_refl _))
    clear hb2 a1 k0 HR Hq
    go_wp2_with fail
    refine (Hm.out _ HR2.out).mono ?_; rintro e w3 ⟨rfl, hb3⟩
    have a3 := a2.below hb3 a2.lt
    have k3 := k2.trans (hb3.mono k2.size)
    clear hb3 a2 k2
    go_wp2_with (refine wpList_store_arr a3 25 (.tmp 2) (.tmp 12) rfl rfl rfl rfl sizePrint ?_)
    refine bodyPost_ret (v := .tuple #[.agg (arrV .i16 64 (medF g n)), .int .i64 0]) ?_ rfl ⟨rfl, below_setRow k3 (b := w.heap.size) (by omega) _⟩
    exact resultsRowTmp1 rfl _ _ _ _ _ _ _ rfl (a3.setRow .i16 (medF g n)) Tryd.underlying25 rfl (by rw [arrV_size]; exact sizePrint) _ rfl
  · rw [mdF_no hc]
    have Hq := Lib.hid hq; clear hq hs
    generalize copC n g 0 = C at *
    go_enter Tryd.func16, Tryd.ntmps16
    go_wp2_with fail
    refine Hq.out.mono ?_; rintro e w2 ⟨rfl, hb2⟩
    have a2 := a1.below hb2 a1.lt
    have k2 := k0.trans (hb2.mono k0.size)
    clear hb2 a1 k0 HR Hq
    go_wp2_with (refine wpList_store_arr (g := fun _ => 0) a2 25 (.tmp 2) (.tmp 9) rfl rfl rfl (by rw [zeroArr16]; rfl) sizePrint ?_)
    refine bodyPost_ret (v := .tuple #[.agg (arrV .i16 64 fun _ => 0), .int .i64 C]) ?_ rfl ⟨rfl, below_setRow k2 (b := w.heap.size) (by omega) _⟩
    exact resultsRowTmp1 rfl _ _ _ _ _ _ _ rfl (a2.setRow .i16 fun _ => 0) Tryd.underlying25 rfl (by rw [arrV_size]; exact sizePrint) _ rfl

set_option maxRecDepth 100000 in
set_option maxHeartbeats 2000000 in
theorem medianPrint_any (s : Ers) (A : Option Addr) (n cap : Nat) (g : Nat → Nat → Int) (hn : n ≤ 1048576) (hs : ∀ i, i < n → S16 (g i)) (w : World) (hr : PrsIn w A n g) (hE : ErrEnv s w) :
    Calls Tryd.prog 29 #[.slice A n cap] w fun e w' => e = .returned (.tuple #[.agg (arrV .i16 64 (mdF g n)), copE s (copC n g 0)]) ∧ Below w.heap.size w w' := by
  have a1 := HasArr.zero w 25 (b := w.heap.size) rfl
  have k0 := (Below.refl w.heap.size w).alloc (Nat.le_refl _) (.cells #[.int .i16 0, .int .i16 0, .int .i16 0, .int .i16 0, .int .i16 0, .int .i16 0, .int .i16 0, .int .i16 0, .int .i16 0, .int .i16 0, .int .i16 0, .int .i16 0, .int .i16 0, .int .i16 0, .int .i16 0, .int .i16 0, .int .i16 0, .int .i16 0, .int .i16 0, .int .i16 0, .int .i16 0, .int .i16 0, .int .i16 0, .int .i16 0, .int .i16 0, .int .i16 0, .int .i16 0, .int .i16 0, .int .i16 0, .int .i16 0, .int .i16 0, .int .i16 0, .int .i16 0, .int .i16 0, .int .i16 0, .int .i16 0, .int .i16 0, .int .i16 0, .int .i16 0, .int .i16 0, .int .i16 0, .int .i16 0, .int .i16 0, .int .i16 0, .int .i16 0, .int .i16 0, .int .i16 0, .int .i16 0, .int .i16 0, .int .i16 0, .int .i16 0, .int .i16 0, .int .i16 0, .int .i16 0, .int .i16 0, .int .i16 0, .int .i16 0, .int .i16 0, .int .i16 0, .int .i16 0, .int .i16 0, .int .i16 0, .int .i16 0, .int .i16 0] 25)
  have hq := checkCopies_any s A n cap g hn _ (hr.below k0 (Nat.le_refl _)) (hE.below k0 (Nat.le_refl _))
  have HR := Lib.hid (hr.below k0 (Nat.le_refl _)); clear hr hE
  by_cases hc : copC n g 0 = 0
  · rw [mdF_ok hc]
    have h8 := copC_pos hc
    have Hm := Lib.hid (fun W h => medianOf_any A n cap g h8.1 h8.2 hs W h)
    rw [hc] at hq ⊢
    have hq' : Calls Tryd.prog 41 #[.slice A n cap] (w.alloc (.cells #[.int .i16 0, .int .i16 0, .int .i16 0, .int .i16 0, .int .i16 0, .int .i16 0, .int .i16 0, .int .i16 0, .int .i16 0, .int .i16 0, .int .i16 0, .int .i16 0, .int .i16 0, .int .i16 0, .int .i16 0, .int .i16 0, .int .i16 0, .int .i16 0, .int .i16 0, .int .i16 0, .int .i16 0, .int .i16 0, .int .i16 0, .int .i16 0, .int .i16 0, .int .i16 0, .int .i16 0, .int .i16 0, .int .i16 0, .int .i16 0, .int .i16 0, .int .i16 0, .int .i16 0, .int .i16 0, .int .i16 0, .int .i16 0, .int .i16 0, .int .i16 0, .int .i16 0, .int .i16 0, .int .i16 0, .int .i16 0, .int .i16 0, .int .i16 0, .int .i16 0, .int .i16 0, .int .i16 0, .int .i16 0, .int .i16 0, .int .i16 0, .int .i16 0, .int .i16 0, .int .i16 0, .int .i16 0, .int .i16 0, .int .i16 0, .int .i16 0, .int .i16 0, .int .i16 0, .int .i16 0, .int .i16 0, .int .i16 0, .int .i16 0, .int .i16 0] 25)) fun e w' => e = .returned .nilIface ∧ Below (w.alloc (.cells #[.int .i16 0, .int .i16 0, .int .i16 0, .int .i16 0, .int .i16 0, .int .i16 0, .int .i16 0, .int .i16 0, .int .i16 0, .int .i16 0, .int .i16 0, .int .i16 0, .int .i16 0, .int .i16 0, .int .i16 0, .int .i16 0, .int .i16 0, .int .i16 0, .int .i16 0, .int .i16 0, .int .i16 0, .int .i16 0, .int .i16 0, .int .i16 0, .int .i16 0, .int .i16 0, .int .i16 0, .int .i16 0, .int .i16 0, .int .i16 0, .int .i16 0, .int .i16 0, .int .i16 0, .int .i16 0, .int .i16 0, .int .i16 0, .int .i16 0, .int .i16 0, .int .i16 0, .int .i16 0, .int .i16 0, .int .i16 0, .int .i16 0, .int .i16 0, .int .i16 0, .int .i16 0, .int .i16 0, .int .i16 0, .int .i16 0, .int .i16 0, .int .i16 0, .int .i16 0, .int .i16 0, .int .i16 0, .int .i16 0, .int .i16 0, .int .i16 0, .int .i16 0, .int .i16 0, .int .i16 0, .int .i16 0, .int .i16 0, .int .i16 0, .int .i16 0] 25)).heap.size (w.alloc (.cells #[.int .i16 0, .int .i16 0, .int .i16 0, .int .i16 0, .int .i16 0, .int .i16 0, .int .i16 0, .int .i16 0, .int .i16 0, .int .i16 0, .int .i16 0, .int .i16 0, .int .i16 0, .int .i16 0, .int .i16 0, .int .i16 0, .int .i16 0, .int .i16 0, .int .i16 0, .int .i16 0, .int .i16 0, .int .i16 0, .int .i16 0, .int .i16 0, .int .i16 0, .int .i16 0, .int .i16 0, .int .i16 0, .int .i16 0, .int .i16 0, .int .i16 0, .int .i16 0, .int .i16 0, .int .i16 0, .int .i16 0, .int .i16 0, .int .i16 0, .int .i16 0, .int .i16 0, .int .i16 0, .int .i16 0, .int .i16 0, .int .i16 0, .int .i16 0, .int .i16 0, .int .i16 0, .int .i16 0, .int .i16 0, .int .i16 0, .int .i16 0, .int .i16 0, .int .i16 0, .int .i16 0, .int .i16 0, .int .i16 0, .int .i16 0, .int .i16 0, .int .i16 0, .int .i16 0, .int .i16 0, .int .i16 0, .int .i16 0, .int .i16 0, .int .i16 0] 25)) w' := hq
    show Calls _ _ _ _ fun e w' => e = .returned (.tuple #[.agg (arrV .i16 64 (medF g n)), .nilIface]) ∧ _
    have Hq := Lib.hid hq'; clear hq hq' hs hc h8
    go_enter Tryd.func29, Tryd.ntmps29
    go_wp2_with fail
    refine Hq.out.mono ?_; rintro e w2 ⟨rfl, hb2⟩
    have a2 := a1.below hb2 a1.lt
    have k2 := k0.trans (hb2.mono k0.size)
    have HR2 := Lib.hid (HR.out.below hb2 (Nat.le_refl _))
    clear hb2 a1 k0 HR Hq
    go_wp2_with fail
    refine (Hm.out _ HR2.out).mono ?_; rintro e w3 ⟨rfl, hb3⟩
    have a3 := a2.below hb3 a2.lt
    have k3 := k2.trans (hb3.mono k2.size)
    clear hb3 a2 k2
    go_wp2_with (refine wpList_store_arr a3 25 (.tmp 2) (.tmp 12) rfl rfl rfl rfl sizePrint ?_)
    refine bodyPost_ret (v := .tuple #[.agg (arrV .i16 64 (medF g n)), .nilIface]) ?_ rfl ⟨rfl, below_setRow k3 (b := w.heap.size) (by omega) _⟩
    exact resultsRowTmp1 rfl _ _ _ _ _ _ _ rfl (a3.setRow .i16 (medF g n)) Tryd.underlying25 rfl (by rw [arrV_size]; exact sizePrint) _ rfl
  · rw [mdF_no hc]
    obtain ⟨a, ha⟩ := copE_ne s hc
    rw [ha] at hq ⊢
    have Hq := Lib.hid hq; clear hq hs ha hc
    go_enter Tryd.func29, Tryd.ntmps29
    go_wp2_with fail
    refine Hq.out.mono ?_; rintro e w2 ⟨rfl, hb2⟩
    have a2 := a1.below hb2 a1.lt
    have k2 := k0.trans (hb2.mono k0.size)
    clear hb2 a1 k0 HR Hq
    go_wp2_with (refine wpList_store_arr (g := fun _ => 0) a2 25 (.tmp 2) (.tmp 9) rfl rfl rfl (by rw [zeroArr16]; rfl) sizePrint ?_)
    refine bodyPost_ret (v := .tuple #[.agg (arrV .i16 64 fun _ => 0), errV a]) ?_ rfl ⟨rfl, below_setRow k2 (b := w.heap.size) (by omega) _⟩
    exact resultsRowTmp1 rfl _ _ _ _ _ _ _ rfl (a2.setRow .i16 fun _ => 0) Tryd.underlying25 rfl (by rw [arrV_size]; exact sizePrint) _ rfl

set_option maxRecDepth 100000 in
set_option maxHeartbeats 1000000 in
theorem codedPrint_any {s : Ers} {v : Value} {c : Int} (h : IsCode s v c) (f : Nat → Int) (w : World) (hE : ErrEnv s w) :
    Calls Tryd.prog 28 #[.agg (arrV .i16 64 f), v] w fun e w' => e = .returned (.tuple #[.agg (arrV .i16 64 f), .int .i64 c]) ∧ Below w.heap.size w w' := by
  have a1 := (HasArr.new w 25 .i16 64 f).alloc (.cells #[.int .i16 0, .int .i16 0, .int .i16 0, .int .i16 0, .int .i16 0, .int .i16 0, .int .i16 0, .int .i16 0, .int .i16 0, .int .i16 0, .int .i16 0, .int .i16 0, .int .i16 0, .int .i16 0, .int .i16 0, .int .i16 0, .int .i16 0, .int .i16 0, .int .i16 0, .int .i16 0, .int .i16 0, .int .i16 0, .int .i16 0, .int .i16 0, .int .i16 0, .int .i16 0, .int .i16 0, .int .i16 0, .int .i16 0, .int .i16 0, .int .i16 0, .int .i16 0, .int .i16 0, .int .i16 0, .int .i16 0, .int .i16 0, .int .i16 0, .int .i16 0, .int .i16 0, .int .i16 0, .int .i16 0, .int .i16 0, .int .i16 0, .int .i16 0, .int .i16 0, .int .i16 0, .int .i16 0, .int .i16 0, .int .i16 0, .int .i16 0, .int .i16 0, .int .i16 0, .int .i16 0, .int .i16 0, .int .i16 0, .int .i16 0, .int .i16 0, .int .i16 0, .int .i16 0, .int .i16 0, .int .i16 0, .int .i16 0, .int .i16 0, .int .i16 0] 25)
  have a2 := HasArr.zero (w.alloc (.cells (arrV .i16 64 f) 25)) 25 (b := w.heap.size + 1) (by simp)
  have k0 := ((Below.refl w.heap.size w).alloc (Nat.le_refl _) (.cells (arrV .i16 64 f) 25)).alloc (by simp) (.cells #[.int .i16 0, .int .i16 0, .int .i16 0, .int .i16 0, .int .i16 0, .int .i16 0, .int .i16 0, .int .i16 0, .int .i16 0, .int .i16 0, .int .i16 0, .int .i16 0, .int .i16 0, .int .i16 0, .int .i16 0, .int .i16 0, .int .i16 0, .int .i16 0, .int .i16 0, .int .i16 0, .int .i16 0, .int .i16 0, .int .i16 0, .int .i16 0, .int .i16 0, .int .i16 0, .int .i16 0, .int .i16 0, .int .i16 0, .int .i16 0, .int .i16 0, .int .i16 0, .int .i16 0, .int .i16 0, .int .i16 0, .int .i16 0, .int .i16 0, .int .i16 0, .int .i16 0, .int .i16 0, .int .i16 0, .int .i16 0, .int .i16 0, .int .i16 0, .int .i16 0, .int .i16 0, .int .i16 0, .int .i16 0, .int .i16 0, .int .i16 0, .int .i16 0, .int .i16 0, .int .i16 0, .int .i16 0, .int .i16 0, .int .i16 0, .int .i16 0, .int .i16 0, .int .i16 0, .int .i16 0, .int .i16 0, .int .i16 0, .int .i16 0, .int .i16 0] 25)
  go_enter Tryd.func28, Tryd.ntmps28
  go_wp2_with fail
  refine wp_region_quiet_tail 3 (fun w' => ∃ q, w' = ((w.alloc (.cells (arrV .i16 64 f) 25)).alloc (.cells #[.int .i16 0, .int .i16 0, .int .i16 0, .int .i16 0, .int .i16 0, .int .i16 0, .int .i16 0, .int .i16 0, .int .i16 0, .int .i16 0, .int .i16 0, .int .i16 0, .int .i16 0, .int .i16 0, .int .i16 0, .int .i16 0, .int .i16 0, .int .i16 0, .int .i16 0, .int .i16 0, .int .i16 0, .int .i16 0, .int .i16 0, .int .i16 0, .int .i16 0, .int .i16 0, .int .i16 0, .int .i16 0, .int .i16 0, .int .i16 0, .int .i16 0, .int .i16 0, .int .i16 0, .int .i16 0, .int .i16 0, .int .i16 0, .int .i16 0, .int .i16 0, .int .i16 0, .int .i16 0, .int .i16 0, .int .i16 0, .int .i16 0, .int .i16 0, .int .i16 0, .int .i16 0, .int .i16 0, .int .i16 0, .int .i16 0, .int .i16 0, .int .i16 0, .int .i16 0, .int .i16 0, .int .i16 0, .int .i16 0, .int .i16 0, .int .i16 0, .int .i16 0, .int .i16 0, .int .i16 0, .int .i16 0, .int .i16 0, .int .i16 0, .int .i16 0] 25)).drewN q) (by kernel_rfl) (by kernel_rfl) ⟨1, rfl⟩ ?_
  simp only [List.take_succ_cons, List.take_zero, List.drop_succ_cons, List.drop_zero]
  refine wpQuiet_load_arr (fun W hW => by obtain ⟨q, rfl⟩ := hW; exact a1.drewN q) 25 (.tmp 2) rfl rfl rfl Tryd.underlying25 sizePrint ?_
  quiet_step (fail)
  refine BigFrame.wpQuiet_want (by rfl) fun K hK => ⟨.int .i64 c, fun W hW => ?_, hK _ ?_⟩
  · obtain ⟨q, rfl⟩ := hW
    go_simp
    exact (codeOf_any h _ (((hE.alloc _).alloc _).drewN q)).mono fun e w' ⟨he, hw⟩ => ⟨he, q, hw.symm⟩
  refine wpQuiet_nil ?_
  rintro _ ⟨q, rfl⟩
  go_wp2_with (refine wpList_store_arr (a2.drewN q) _ _ _ rfl rfl rfl rfl sizePrint ?_)
  refine bodyPost_ret (v := .tuple #[.agg (arrV .i16 64 f), .int .i64 c]) ?_ rfl ⟨rfl, below_setRow (below_drewA k0 q) (by omega) _⟩
  exact resultsRowTmp1 rfl _ _ _ _ _ _ _ rfl ((a2.drewN q).setRow .i16 f) Tryd.underlying25 rfl (by rw [arrV_size]; exact sizePrint) _ rfl

set_option maxRecDepth 100000 in
set_option maxHeartbeats 2000000 in
theorem MedianPrint_any (s : Ers) (A : Option Addr) (n cap : Nat) (g : Nat → Nat → Int) (hn : n ≤ 1048576) (hs : ∀ i, i < n → S16 (g i)) (w : World) (hr : PrsIn w A n g) (hE : ErrEnv s w) :
    Calls Tryd.prog 18 #[.slice A n cap] w fun e w' => e = .returned (.tuple #[.agg (arrV .i16 64 (mdF g n)), .int .i64 (copC n g 0)]) ∧ Below w.heap.size w w' := by
  have a1 := HasArr.zero w 25 (b := w.heap.size) rfl
  have k0 := (Below.refl w.heap.size w).alloc (Nat.le_refl _) (.cells #[.int .i16 0, .int .i16 0, .int .i16 0, .int .i16 0, .int .i16 0, .int .i16 0, .int .i16 0, .int .i16 0, .int .i16 0, .int .i16 0, .int .i16 0, .int .i16 0, .int .i16 0, .int .i16 0, .int .i16 0, .int .i16 0, .int .i16 0, .int .i16 0, .int .i16 0, .int .i16 0, .int .i16 0, .int .i16 0, .int .i16 0, .int .i16 0, .int .i16 0, .int .i16 0, .int .i16 0, .int .i16 0, .int .i16 0, .int .i16 0, .int .i16 0, .int .i16 0, .int .i16 0, .int .i16 0, .int .i16 0, .int .i16 0, .int .i16 0, .int .i16 0, .int .i16 0, .int .i16 0, .int .i16 0, .int .i16 0, .int .i16 0, .int .i16 0, .int .i16 0, .int .i16 0, .int .i16 0, .int .i16 0, .int .i16 0, .int .i16 0, .int .i16 0, .int .i16 0, .int .i16 0, .int .i16 0, .int .i16 0, .int .i16 0, .int .i16 0, .int .i16 0, .int .i16 0, .int .i16 0, .int .i16 0, .int .i16 0, .int .i16 0, .int .i16 0] 25)
  have Hq := Lib.hid (medianPrint_any s A n cap g hn hs _ (hr.below k0 (Nat.le_refl _)) (hE.below k0 (Nat.le_refl _)))
  have hcode := copE_code s n g 0
  have HE := Lib.hid hE; clear hE hr hs
  generalize copE s (copC n g 0) = V at *
  generalize copC n g 0 = C at *
  generalize mdF g n = G at *
  go_enter Tryd.func18, Tryd.ntmps18
  go_wp2_with fail
  refine Hq.out.mono ?_; rintro e w2 ⟨rfl, hb2⟩
  have a2 := a1.below hb2 a1.lt
  have k2 := k0.trans (hb2.mono k0.size)
  have Hcd := Lib.hid (codedPrint_any hcode G _ (HE.out.below k2 (Nat.le_refl _)))
  clear hb2 a1 k0 Hq
  go_wp2_with fail
  refine Hcd.out.mono ?_; rintro e w3 ⟨rfl, hb3⟩
  have a3 := a2.below hb3 a2.lt
  have k3 := k2.trans (hb3.mono k2.size)
  clear hb3 a2 k2
  go_wp2_with (refine wpList_store_arr a3 25 (.tmp 2) (.tmp 9) rfl rfl rfl rfl sizePrint ?_)
  refine bodyPost_ret (v := .tuple #[.agg (arrV .i16 64 G), .int .i64 C]) ?_ rfl ⟨rfl, below_setRow k3 (b := w.heap.size) (by omega) _⟩
  exact resultsRowTmp1 rfl _ _ _ _ _ _ _ rfl (a3.setRow .i16 G) Tryd.underlying25 rfl (by rw [arrV_size]; exact sizePrint) _ rfl
end Go.Proofs.YtgnnngaihaefmaaDoor
