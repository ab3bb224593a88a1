/-
  The dust in a copy in the program. Condition: its variables hold their own errors; at most 1048576 copies of 16-bit numbers.
-/
import Derived.Test.YtnohpkhaimmdmaaDoorDsS
import Derived.Test.YtnohpkhaimmdmaaDoorDsZ
namespace Go.Proofs.YtnohpkhaimmdmaaDoor
open Go.RowKit

/-- What dustIn returns. -/
def dsiR (s : Ers) (n : Nat) (g : Nat → Nat → Int) (i x : Int) : Array Value := if copC n g x = 0 then (if inB i 0 ((n : Int) - 1) = true then #[.int .u64 (dF g n x i.toNat), .nilIface] else #[.int .u64 0, errV s.erange]) else #[.int .u64 0, copE s (copC n g x)]

set_option maxRecDepth 100000 in
set_option maxHeartbeats 4000000 in
theorem dustIn_any (s : Ers) (A : Option Addr) (n cap : Nat) (g : Nat → Nat → Int) (i x : Int) (hn : n ≤ 1048576) (hs : ∀ i, i < n → S16 (g i)) (w : World) (hr : PrsIn w A n g) (hE : ErrEnv s w) :
    Calls Tryd.prog 22 #[.slice A n cap, .int .i64 i, .int .i64 x] w fun e w' => e = .returned (.tuple (dsiR s n g i x)) ∧ Below w.heap.size w w' := by
  have hl := fun W => inRange_any i 0 ((n : Int) - 1) W
  have HR := Lib.hid hr
  have HE := Lib.hid hE
  unfold dsiR
  by_cases hc : copC n g x = 0
  rotate_left
  · rw [if_neg hc]
    have hq := dustOf_bad s A n cap g x hn hc w hr hE
    obtain ⟨a, ha⟩ := copE_ne s hc
    rw [ha] at hq ⊢
    have Hq := Lib.hid hq; clear hq hs hl hc ha hr hE
    go_enter Tryd.func22, Tryd.ntmps22
    go_wp2_with fail
    refine Hq.out.mono ?_; rintro e w2 ⟨rfl, hb2⟩
    have a2 : (w2.alloc (.cells Tryd.zeroCells67 67)).heap[w2.heap.size]? = some (.cells Tryd.zeroCells67 67 (0, 0)) := heap_alloc_last w2 _
    have k3 := below_setRow (hb2.alloc hb2.size (.cells Tryd.zeroCells67 67)) (b := w2.heap.size) hb2.size Tryd.zeroCells67
    go_wp2_with (refine wpList_store_dz a2 dzSize rfl (.tmp 8) (.tmp 14) rfl rfl rfl ?_)
    go_ret2
    exact ⟨rfl, k3⟩
  rw [if_pos hc]
  have h8 := copC_pos hc
  have Hq := Lib.hid (dustOf_ok s A n cap g x hn hs hc w hr hE)
  clear hr hE hc
  rcases hin : inB i 0 ((n : Int) - 1) with _ | _
  · rw [if_neg (by decide)]
    rw [hin] at hl
    have Hl := Lib.hid hl; clear hl hs hin
    go_enter Tryd.func22, Tryd.ntmps22
    go_wp2_with fail
    refine Hq.out.mono ?_; rintro e w2 ⟨b, N, hN, rfl, hwb, hdm, hb2⟩
    have a2 : (w2.alloc (.cells Tryd.zeroCells67 67)).heap[w2.heap.size]? = some (.cells Tryd.zeroCells67 67 (0, 0)) := heap_alloc_last w2 _
    have k3 := below_setRow (hb2.alloc hb2.size (.cells Tryd.zeroCells67 67)) (b := w2.heap.size) hb2.size (dsV (medF g n) b)
    have ce := (HE.out.below k3 (Nat.le_refl _)).c_erange
    clear hdm hb2 Hq
    go_wp2_with (first | (refine wpList_store_ds a2 dzSize rfl (.tmp 8) (.tmp 14) rfl rfl rfl ?_) | (go_at_call 31; refine (Hl.out _).mono ?_; rintro e w' ⟨rfl, rfl⟩))
    clear a2
    generalize ((w2.alloc (.cells Tryd.zeroCells67 67)).setRow w2.heap.size (dsV (medF g n) b)) = W3 at *
    go_quiet (fail)
    go_wp2
    go_ret2
    exact ⟨rfl, below_drewA k3 nq⟩
  · rw [if_pos rfl]
    rw [hin] at hl
    have hii := inB_true.1 hin
    obtain ⟨j, rfl⟩ : ∃ j : Nat, i = (j : Int) := ⟨i.toNat, by omega⟩
    have hj : j < n := by omega
    have hj' : (j : Int) < n := by omega
    rw [Int.toNat_natCast]
    have hsj := hs j hj
    have Hl := Lib.hid hl; clear hl hs hin
    go_enter Tryd.func22, Tryd.ntmps22
    go_wp2_with fail
    refine Hq.out.mono ?_; rintro e w2 ⟨b, N, hN, rfl, hwb, hdm, hb2⟩
    have a2 : (w2.alloc (.cells Tryd.zeroCells67 67)).heap[w2.heap.size]? = some (.cells Tryd.zeroCells67 67 (0, 0)) := heap_alloc_last w2 _
    have kk := below_setRow ((Below.refl w2.heap.size w2).alloc (Nat.le_refl _) (.cells Tryd.zeroCells67 67)) (b := w2.heap.size) (Nat.le_refl _) (dsV (medF g n) b)
    have k3 := hb2.trans (kk.mono hb2.size)
    have ds : HasDs ((w2.alloc (.cells Tryd.zeroCells67 67)).setRow w2.heap.size (dsV (medF g n) b)) w2.heap.size (medF g n) b := setRow_heap _ _ _ _ _ _ a2
    have dm := hdm.below kk hdm.lt
    have hr3 := HR.out.below k3 (Nat.le_refl _)
    clear hdm hb2 Hq kk
    go_wp2_with (first | (refine wpList_store_ds a2 dzSize rfl (.tmp 8) (.tmp 14) rfl rfl rfl ?_) | (go_at_call 31; refine (Hl.out _).mono ?_; rintro e w' ⟨rfl, rfl⟩))
    clear a2
    generalize ((w2.alloc (.cells Tryd.zeroCells67 67)).setRow w2.heap.size (dsV (medF g n) b)) = W3 at *
    rcases hr3 with h0 | ⟨b', o, rfl, hlb, hcc⟩
    · exfalso; omega
    have p0 := Lib.hid (hcc j hj); clear hcc
    have cM := inCell ds.map
    have n0 := below_nonempty W3
    have DM := Lib.hid dm; clear dm
    refine wp_region_quietD (Below W3.heap.size W3) (by kernel_rfl) (by kernel_rfl) (below_drew1 _) ?_
    go_big_quiet_step (fail)
    go_big_quiet_step (fail)
    go_big_quiet_step (fail)
    go_big_quiet_step (fail)
    go_big_quiet_step (fail)
    refine wpQuiet_load_part (fun W hW => by obtain ⟨y, rfl⟩ := hW; exact p0.out.below y.ok hlb) 36 (.tmp 30) rfl rfl rfl Tryd.underlying36 sizePrint ?_
    go_frame
    refine wpQuiet_lookup_dm (fun W hW => by obtain ⟨y, rfl⟩ := hW; exact DM.out.below y.ok DM.out.lt) hj hsj rfl (.tmp 27) (.tmp 31) rfl rfl rfl ?_
    go_frame
    go_big_quiet_step (fail)
    go_big_quiet_step (fail)
    refine wpQuiet_nil ?_
    rintro _ ⟨y, rfl⟩
    have k4 := k3.trans (y.ok.mono k3.size)
    go_wp2_with fail
    go_ret2
    exact ⟨rfl, k4⟩

theorem codedU64D_any {s : Ers} {v : Value} {c : Int} (h : IsCode s v c) (x : Int) (w : World) (hE : ErrEnv s w) :
    Calls Tryd.prog 21 #[.int .u64 x, v] w fun e w' => e = .returned (.tuple #[.int .u64 x, .int .i64 c]) ∧ w = w' := by
  go_enter Tryd.func21, Tryd.ntmps21
  go_wp2_with fail
  refine (codeOf_any h _ hE).mono ?_; rintro e w1 ⟨rfl, rfl⟩
  go_wp2_with fail
  go_ret2
  exact ⟨rfl, rfl⟩

/-- There is a mask, an error and a code that both return. -/
theorem dsi_code (s : Ers) (n : Nat) (g : Nat → Nat → Int) (i x : Int) : ∃ (R : Int) (v : Value) (c : Int), IsCode s v c ∧ dsiR s n g i x = #[.int .u64 R, v] ∧ dsiT n g i x = #[.int .u64 R, .int .i64 c] := by
  unfold dsiR dsiT
  by_cases hc : copC n g x = 0
  · rw [if_pos hc, if_pos hc]
    by_cases hi : inB i 0 ((n : Int) - 1) = true
    · rw [if_pos hi, if_pos hi]; exact ⟨_, _, _, .ok, rfl, rfl⟩
    · rw [if_neg hi, if_neg hi]; exact ⟨_, _, _, .erange, rfl, rfl⟩
  · rw [if_neg hc, if_neg hc]; exact ⟨_, _, _, copE_code s n g x, rfl, rfl⟩

set_option maxRecDepth 100000 in
set_option maxHeartbeats 2000000 in
theorem DustIn_any (s : Ers) (A : Option Addr) (n cap : Nat) (g : Nat → Nat → Int) (i x : Int) (hn : n ≤ 1048576) (hs : ∀ i, i < n → S16 (g i)) (w : World) (hr : PrsIn w A n g) (hE : ErrEnv s w) :
    Calls Tryd.prog 9 #[.slice A n cap, .int .i64 i, .int .i64 x] w fun e w' => e = .returned (.tuple (dsiT n g i x)) ∧ Below w.heap.size w w' := by
  have Hq := Lib.hid (dustIn_any s A n cap g i x hn hs w hr hE)
  obtain ⟨R, v, c, hv, h1, h2⟩ := dsi_code s n g i x
  rw [h1] at Hq
  rw [h2]
  clear h1 h2 hs hr
  have HE := Lib.hid hE; clear hE
  go_enter Tryd.func9, Tryd.ntmps9
  go_wp2_with fail
  refine Hq.out.mono ?_; rintro e w2 ⟨rfl, hb2⟩
  have Hcd := Lib.hid (codedU64D_any hv R _ (HE.out.below hb2 (Nat.le_refl _)))
  go_wp2_with fail
  refine Hcd.out.mono ?_; rintro e w3 ⟨rfl, rfl⟩
  go_wp2_with fail
  go_ret2
  exact ⟨rfl, hb2⟩
end Go.Proofs.YtnohpkhaimmdmaaDoor
