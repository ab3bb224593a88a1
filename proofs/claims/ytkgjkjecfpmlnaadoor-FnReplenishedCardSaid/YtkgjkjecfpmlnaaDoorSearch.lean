/-
  sort.Search: the least number at which a test that stays true is true; the least millilitres in a tray. Condition: the test's own contract.
-/
import Derived.Test.YtkgjkjecfpmlnaaDoorBathI
import Derived.Shelf.Abstract
namespace Go.Proofs.YtkgjkjecfpmlnaaDoor
open Go.RowKit Go.Shelf

set_option maxRecDepth 100000 in
set_option maxHeartbeats 2000000 in
theorem search_any (g : FuncId) (cb : Array Value) (n : Nat) (q : Nat → Bool) (w : World) (hn : n < 4611686018427387904) (eg : ∀ args w, (callFunc g args).run Tryd.prog w = .ok (.enter g args) w)
    (hf : ∀ (i : Nat) (W : World), Below w.heap.size w W → i < n → Calls Tryd.prog g (#[.int .i64 i] ++ cb) W fun e w' => e = .returned (.bool (q i)) ∧ Below W.heap.size W w')
    (hmono : ∀ a b, a ≤ b → b < n → q a = true → q b = true) :
    Calls Tryd.prog 54 #[.int .i64 n, .func (.func g) #[] cb] w fun e w' => e = .returned (.int .i64 (least q n)) ∧ Below w.heap.size w w' := by
  have HF := Lib.hid hf; clear hf
  have HM := Lib.hid hmono; clear hmono
  go_enter Tryd.func54, Tryd.ntmps54
  go_wp2
  go_loopw [5, 6] (fun s5 s6 wr => ∃ (lo hi : Nat), s5 = .int .i64 lo ∧ s6 = .int .i64 hi ∧ lo ≤ hi ∧ hi ≤ n ∧ Hid ((∀ t, t < lo → q t = false) ∧ (∀ t, hi ≤ t → t < n → q t = true)) ∧ Below w.heap.size w wr) (fun s5 s6 _ => (intOf s6).toNat - (intOf s5).toNat)
  case atStart => exact ⟨0, n, rfl, rfl, Nat.zero_le _, Nat.le_refl _, Lib.hid ⟨fun t ht => absurd ht (Nat.not_lt_zero _), fun t h1 h2 => by omega⟩, Below.refl _ _⟩
  case round =>
    obtain ⟨lo, hi, rfl, rfl, hlh, hin, I, hB⟩ := hrel
    by_cases hlt : lo < hi
    · have hc := HF.out ((lo + hi) / 2) wr hB (by omega)
      rw [show (((lo + hi) / 2 : Nat) : Int) = ((lo : Int) + (hi : Int)) / 2 by omega] at hc
      cases hp : q ((lo + hi) / 2) <;> rw [hp] at hc
      · have HP := Lib.hid hp
        clear hp
        go_wp2_with (go_at_fn g; refine hc.mono ?_; rintro e w' ⟨rfl, hb1⟩)
        go_roundw
        case rel =>
          exact ⟨(lo + hi) / 2 + 1, hi, by go_num, rfl, by omega, hin, Lib.hid ⟨fun t ht => (by
            cases h : q t with
            | false => rfl
            | true => have := HM.out t ((lo + hi) / 2) (by omega) (by omega) h; rw [HP.out] at this; cases this), I.out.2⟩, hB.trans (hb1.mono hB.size)⟩
        case measure => simp [intOf]; omega
      · have HP := Lib.hid hp
        clear hp
        go_wp2_with (go_at_fn g; refine hc.mono ?_; rintro e w' ⟨rfl, hb1⟩)
        go_roundw
        case rel =>
          exact ⟨lo, (lo + hi) / 2, rfl, by go_num, by omega, by omega, Lib.hid ⟨I.out.1, fun t ht htn => HM.out ((lo + hi) / 2) t ht htn HP.out⟩, hB.trans (hb1.mono hB.size)⟩
        case measure => simp [intOf]; omega
    · obtain rfl : hi = lo := by omega
      have ecnt : least q n = hi := least_eq hin I.out.1 (fun h => I.out.2 hi (Nat.le_refl _) h)
      have He := Lib.hid ecnt; clear ecnt
      go_wp2
      go_ret
      exact ⟨ret_int (congrArg (fun x : Nat => (x : Int)) He.out.symm), hB⟩

theorem boxAt (w : World) (i : Nat) (hi : i = w.heap.size) (T : TypeId) (x : Value) : (w.alloc (.cells #[x] T)).cell? ⟨i, 0, none⟩ = some x := by
  subst hi; simp

theorem enter_m1 (args : Array Value) (w : World) : (callFunc 66 args).run Tryd.prog w = .ok (.enter 66 args) w := by kernel_rfl

section
variable {p k b t v u a : Int}

set_option maxRecDepth 100000 in
set_option maxHeartbeats 2000000 in
/-- The closure that is searched: what is replenished, and the caller's test of it. -/
theorem least1_any (g : FuncId) (cb : Array Value) (q : Nat → Bool) (m : Nat) (i j : Nat) (h : BOk p k b t v u a) (hm : (m : Int) ≤ v) (w : World) (hT : TrAt w i p k b t v u a) (hj : w.cell? ⟨j, 0, none⟩ = some (.func (.func g) #[] cb))
    (hf : ∀ W, Below w.heap.size w W → Calls Tryd.prog g (#[trayV p k b t v (left u v m) (left a v m)] ++ cb) W fun e w' => e = .returned (.bool (q m)) ∧ Below W.heap.size W w') (eg : ∀ args w, (callFunc g args).run Tryd.prog w = .ok (.enter g args) w) :
    Calls Tryd.prog 66 #[.int .i64 m, .pointer (some ⟨j, 0, none⟩), .pointer (some ⟨i, 0, none⟩)] w fun e w' => e = .returned (.bool (q m)) ∧ Below w.heap.size w w' := by
  have hrp := fun W => replenished_any (m : Int) h (by omega) hm W
  have hix := fun (x : WIn (Below w.heap.size w)) => hf x.w x.ok
  have Hrp := Lib.hid hrp; clear hrp
  have Hix := Lib.hid hix; clear hix hf
  obtain ⟨c0, c1, c2, c3, c4, c5, c6, _⟩ := hT
  go_enter Tryd.func66, Tryd.ntmps66
  go_wp2_with fail
  refine wp_region_quietD (Below w.heap.size w) (by kernel_rfl) (by kernel_rfl) (below_drew1 _) ?_
  have n0 := below_nonempty w
  have f0 := inCell c0
  have f1 := inCell c1
  have f2 := inCell c2
  have f3 := inCell c3
  have f4 := inCell c4
  have f5 := inCell c5
  have f6 := inCell c6
  have f7 := inCell hj
  repeat (go_big_quiet_step (first | (go_at_call 62; exact inCall _ (Hrp.out _)) | (go_at_fn g; exact inCall _ (Hix.out _))))
  refine wpQuiet_nil ?_
  rintro _ ⟨y, rfl⟩
  go_wp2
  go_ret
  exact ⟨rfl, y.ok⟩

set_option maxRecDepth 100000 in
set_option maxHeartbeats 2000000 in
theorem leastMillilitres_any (z : Ers) (g : FuncId) (cb : Array Value) (q : Nat → Bool) (h : BOk p k b t v u a) (hmono : ∀ x y : Nat, x ≤ y → (y : Int) ≤ v → q x = true → q y = true) (w : World) (hE : ErrEnv z w)
    (hf : ∀ (m : Nat) (W : World), Below w.heap.size w W → (m : Int) ≤ v → Calls Tryd.prog g (#[trayV p k b t v (left u v m) (left a v m)] ++ cb) W fun e w' => e = .returned (.bool (q m)) ∧ Below W.heap.size W w') (eg : ∀ args w, (callFunc g args).run Tryd.prog w = .ok (.enter g args) w) :
    Calls Tryd.prog 47 #[trayV p k b t v u a, .func (.func g) #[] cb] w (Coded z (.int .i64 (if (least q (v.toNat + 1) : Int) ≤ v then (least q (v.toNat + 1) : Int) else 0)) (if (least q (v.toNat + 1) : Int) ≤ v then 0 else 6) w.heap.size w) := by
  have hv0 := h.v0
  have hv1 := h.v1
  have cn := hE.c_enotfound
  have hls := least_spec (n := v.toNat + 1) (q := q)
  have D0 := (TrAt.newAt w w.heap.size rfl 82 p k b t v u a).alloc (.cells #[.func (.func g) #[] cb] 87)
  have q0 : ((w.alloc (.cells #[.int .i64 p, .int .i64 k, .int .i8 b, .int .i8 t, .int .i64 v, .int .i64 u, .int .i64 a] 82)).alloc (.cells #[.func (.func g) #[] cb] 87)).cell? ⟨w.heap.size + 1, 0, none⟩ = some (.func (.func g) #[] cb) := by simp
  have k0 := below_2 w (.cells #[.int .i64 p, .int .i64 k, .int .i8 b, .int .i8 t, .int .i64 v, .int .i64 u, .int .i64 a] 82) (.cells #[.func (.func g) #[] cb] 87)
  have hse := search_any 66 #[.pointer (some ⟨w.heap.size + 1, 0, none⟩), .pointer (some ⟨w.heap.size, 0, none⟩)] (v.toNat + 1) q _ (by omega) enter_m1
    (fun m W hW hm => least1_any g cb q m w.heap.size (w.heap.size + 1) h (by omega) W (D0.below hW (Nat.le_refl _)) (below_cellOf hW q0 (Nat.le_refl _)) (fun W' hW' => hf m W' (k0.trans ((hW.trans (hW'.mono hW.size)).mono k0.size)) (by omega)) eg)
    (fun x y hxy hy => hmono x y hxy (by omega))
  rw [show ((v.toNat + 1 : Nat) : Int) = v + 1 by omega] at hse
  clear h hf hmono
  generalize least q (v.toNat + 1) = N at *
  have Hse := Lib.hid hse; clear hse
  have hN := hls.1
  clear hls
  by_cases hle : (N : Int) ≤ v
  · rw [if_pos hle, if_pos hle]
    clear cn
    go_enter Tryd.func47, Tryd.ntmps47
    go_wp2_with fail
    refine Hse.out.mono ?_; rintro e w1 ⟨rfl, hb1⟩
    obtain ⟨c0, c1, c2, c3, c4, c5, c6, _⟩ := D0.below hb1 (Nat.le_refl _)
    go_wp2_with fail
    go_ret2
    exact ⟨_, .ok, rfl, k0.trans (hb1.mono k0.size)⟩
  · rw [if_neg hle, if_neg hle]
    go_enter Tryd.func47, Tryd.ntmps47
    go_wp2_with fail
    refine Hse.out.mono ?_; rintro e w1 ⟨rfl, hb1⟩
    have k1 := k0.trans (hb1.mono k0.size)
    have cn1 := below_cellOf k1 cn (Nat.le_refl _)
    obtain ⟨c0, c1, c2, c3, c4, c5, c6, _⟩ := D0.below hb1 (Nat.le_refl _)
    go_wp2_with fail
    go_quiet (fail)
    go_wp2
    go_ret2
    exact ⟨_, .enotfound, rfl, below_drewN k1 _⟩

/-! ### FOR A STRENGTH -/
/-- The least number of millilitres behind which the strength is as told, and the code. -/
def forQ (p k v u a s : Int) (m : Nat) : Bool := decide (s ≤ strn p k v (left u v m) (left a v m))
def forC (p k b t v u a s : Int) : Int := if bathOk p k b t v u a = true then (if inB s 0 1000 = true then 0 else 2) else 1
def forR (p k b t v u a s : Int) : Int := ifC (forC p k b t v u a s) (least (forQ p k v u a s) (v.toNat + 1))
theorem for_mono {s : Int} (h : BOk p k b t v u a) : ∀ x y : Nat, x ≤ y → (y : Int) ≤ v → forQ p k v u a s x = true → forQ p k v u a s y = true := fun x y hxy hy hx => by
  have := fill_mono h (m := x) (m' := y) (by omega) (by omega) hy
  simp only [forQ, decide_eq_true_eq] at hx ⊢
  omega
theorem for_le {s : Int} (h : BOk p k b t v u a) (hs : s ≤ 1000) : (least (forQ p k v u a s) (v.toNat + 1) : Int) ≤ v := by
  have hv := h.v0
  have hsp := least_spec (n := v.toNat + 1) (q := forQ p k v u a s)
  have hall := fill_all h
  have hq : forQ p k v u a s v.toNat = true := by
    simp only [forQ, decide_eq_true_eq]
    rw [show ((v.toNat : Nat) : Int) = v by omega, hall]
    exact hs
  rcases Nat.lt_or_ge v.toNat (least (forQ p k v u a s) (v.toNat + 1)) with hlt | hge
  · rw [hsp.2.1 _ hlt] at hq; cases hq
  · omega

set_option maxRecDepth 100000 in
set_option maxHeartbeats 1000000 in
theorem for1_any (s : Int) (h : BOk p k b t v u a) (i : Nat) (w : World) (hi : w.cell? ⟨i, 0, none⟩ = some (.int .i64 s)) :
    Calls Tryd.prog 48 #[trayV p k b t v u a, .pointer (some ⟨i, 0, none⟩)] w fun e w' => e = .returned (.bool (decide (s ≤ strn p k v u a))) ∧ Below w.heap.size w w' := by
  have hst := fun W => strength_any h W
  have k0 : Below w.heap.size w (w.alloc (.cells #[.int .i64 p, .int .i64 k, .int .i8 b, .int .i8 t, .int .i64 v, .int .i64 u, .int .i64 a] 82)) := (Below.refl _ _).alloc (Nat.le_refl _) _
  have hi := below_cellOf k0 hi (Nat.le_refl _)
  have D0 := TrAt.new w 82 p k b t v u a
  clear h
  generalize strn p k v u a = S at *
  have Hst := Lib.hid hst; clear hst
  go_enter Tryd.func48, Tryd.ntmps48
  go_wp2_with fail
  generalize (w.alloc (.cells #[.int .i64 p, .int .i64 k, .int .i8 b, .int .i8 t, .int .i64 v, .int .i64 u, .int .i64 a] 82)) = W at *
  obtain ⟨c0, c1, c2, c3, c4, c5, c6, _⟩ := D0
  refine wp_region_quietD (Below W.heap.size W) (by kernel_rfl) (by kernel_rfl) (below_drew1 _) ?_
  have n0 := below_nonempty W
  have f0 := inCell c0
  have f1 := inCell c1
  have f2 := inCell c2
  have f3 := inCell c3
  have f4 := inCell c4
  have f5 := inCell c5
  have f6 := inCell c6
  have f7 := inCell hi
  repeat (go_big_quiet_step (first | (go_at_call 49; exact inCall _ (Hst.out _))))
  refine wpQuiet_nil ?_
  rintro _ ⟨y, rfl⟩
  go_wp2
  go_ret
  exact ⟨rfl, k0.trans (y.ok.mono k0.size)⟩

theorem enter_f1 (args : Array Value) (w : World) : (callFunc 48 args).run Tryd.prog w = .ok (.enter 48 args) w := by kernel_rfl

set_option maxRecDepth 100000 in
set_option maxHeartbeats 2000000 in
theorem replenishFor_any (z : Ers) (s : Int) (hb : -128 ≤ b) (hb' : b ≤ 127) (ht : -128 ≤ t) (ht' : t ≤ 127) (w : World) (hE : ErrEnv z w) :
    Calls Tryd.prog 26 #[devV p k b t, batV v u a, .int .i64 s] w (Coded z (.int .i64 (forR p k b t v u a s)) (forC p k b t v u a s) w.heap.size w) := by
  have kk := below_2 w (.cells #[.int .i64 p, .int .i64 k, .int .i8 b, .int .i8 t] 26) (.cells #[.int .i64 v, .int .i64 u, .int .i64 a] 28)
  have kk := kk.alloc kk.size (.cells #[.int .i64 s] 2)
  have sc : (((w.alloc (.cells #[.int .i64 p, .int .i64 k, .int .i8 b, .int .i8 t] 26)).alloc (.cells #[.int .i64 v, .int .i64 u, .int .i64 a] 28)).alloc (.cells #[.int .i64 s] 2)).cell? ⟨w.heap.size + 1 + 1, 0, none⟩ = some (.int .i64 s) := boxAt _ _ (by simp) _ _
  have ne := errNeB
  have nn := nilNeB
  unfold forR forC
  rcases h1 : bathOk p k b t v u a with _ | _
  · simp only [Bool.false_eq_true, if_false, ifC_1]
    have hto := trayOf_no z hb hb' ht ht' h1 _ (hE.below kk (Nat.le_refl _))
    have Hto := Lib.hid hto; clear hto h1 nn
    go_enter Tryd.func26, Tryd.ntmps26
    go_wp2_with fail
    refine Hto.out.mono ?_; rintro e w1 ⟨rfl, hb1⟩
    have k1 := kk.trans (hb1.mono kk.size)
    go_wp2_with fail
    go_ret2
    exact ⟨_, .einvalid, rfl, k1.alloc k1.size _⟩
  · have h := bathOk_true.1 h1
    have hto := fun W => trayOf_yes h W
    have Hto := Lib.hid hto; clear hto h1 ne
    rcases h2 : inB s 0 1000 with _ | _
    · simp only [Bool.false_eq_true, if_false, if_true, ifC_2]
      have cr := hE.c_erange
      clear h
      go_enter Tryd.func26, Tryd.ntmps26
      go_wp2_with fail
      refine (Hto.out _).mono ?_; rintro e w1 ⟨rfl, hb1⟩
      have k1 := kk.trans (hb1.mono kk.size)
      have sc1 := below_cellOf hb1 sc (Nat.le_refl _)
      have hlt := cell_ltB sc1
      have cr1 := below_cellOf k1 cr (Nat.le_refl _)
      have cr2 := cell_ltB cr1
      have k2 := k1.alloc k1.size (.cells #[.int .i64 p, .int .i64 k, .int .i8 b, .int .i8 t, .int .i64 v, .int .i64 u, .int .i64 a] 82)
      go_wp2_with fail
      refine (inRange_any _ _ _ _).mono ?_; rintro e w2 ⟨rfl, rfl⟩
      go_wp2_with fail
      go_quiet (fail)
      go_wp2
      go_ret2
      exact ⟨_, .erange, rfl, below_drewN k2 _⟩
    · simp only [if_true, ifC_0]
      have hs := inB_true.1 h2
      have hle := for_le (s := s) h hs.2
      have hm := for_mono (s := s) h
      go_enter Tryd.func26, Tryd.ntmps26
      go_wp2_with fail
      refine (Hto.out _).mono ?_; rintro e w1 ⟨rfl, hb1⟩
      have k1 := kk.trans (hb1.mono kk.size)
      have sc1 := below_cellOf hb1 sc (Nat.le_refl _)
      have hlt := cell_ltB sc1
      have k2 := k1.alloc k1.size (.cells #[.int .i64 p, .int .i64 k, .int .i8 b, .int .i8 t, .int .i64 v, .int .i64 u, .int .i64 a] 82)
      have sc2 := below_cellOf ((Below.refl w1.heap.size w1).alloc (Nat.le_refl _) (.cells #[.int .i64 p, .int .i64 k, .int .i8 b, .int .i8 t, .int .i64 v, .int .i64 u, .int .i64 a] 82)) sc1 (Nat.le_refl _)
      have hlm := leastMillilitres_any z 48 #[.pointer (some ⟨w.heap.size + 1 + 1, 0, none⟩)] (forQ p k v u a s) h hm _ (hE.below k2 (Nat.le_refl _))
        (fun m W hW hmv => for1_any s (h.fill (by omega) hmv) (w.heap.size + 1 + 1) W (below_cellOf hW sc2 (Nat.le_refl _))) enter_f1
      rw [if_pos hle, if_pos hle] at hlm
      have Hlm := Lib.hid hlm; clear hlm hm hle h sc
      generalize least (forQ p k v u a s) (v.toNat + 1) = N at *
      go_wp2_with fail
      refine (inRange_any _ _ _ _).mono ?_; rintro e w2 ⟨rfl, rfl⟩
      go_wp2_with fail
      refine Hlm.out.mono ?_; rintro e w3 ⟨ev, hev, rfl, hb3⟩
      go_wp2_with fail
      go_ret2
      exact ⟨_, hev, rfl, k2.trans (hb3.mono k2.size)⟩

set_option maxHeartbeats 400000 in
theorem ReplenishFor_any (z : Ers) (s : Int) (hb : -128 ≤ b) (hb' : b ≤ 127) (ht : -128 ≤ t) (ht' : t ≤ 127) (w : World) (hE : ErrEnv z w) :
    Calls Tryd.prog 7 #[devV p k b t, batV v u a, .int .i64 s] w fun e w' => e = .returned (.tuple #[.int .i64 (forR p k b t v u a s), .int .i64 (forC p k b t v u a s)]) ∧ Below w.heap.size w w' := by
  have hB0 := below_2 w (.cells #[.int .i64 p, .int .i64 k, .int .i8 b, .int .i8 t] 26) (.cells #[.int .i64 v, .int .i64 u, .int .i64 a] 28)
  have hst := replenishFor_any (p := p) (k := k) (b := b) (t := t) (v := v) (u := u) (a := a) z s hb hb' ht ht' _ (hE.below hB0 (Nat.le_refl _))
  have Hst := Lib.hid hst; clear hst
  go_enter Tryd.func7, Tryd.ntmps7
  go_wp2_with fail
  refine Hst.out.mono ?_; rintro e w1 ⟨x, hx, rfl, hb1⟩
  have k1 := hB0.trans (hb1.mono hB0.size)
  go_wp2_with fail
  refine (codedInt_any hx _ _ (hE.below k1 (Nat.le_refl _))).mono ?_; rintro e w2 ⟨rfl, rfl⟩
  go_wp2_with fail
  go_ret2
  exact ⟨rfl, k1⟩

set_option maxRecDepth 100000 in
set_option maxHeartbeats 2000000 in
theorem specReplenishFor_any (s : Int) (hb : -128 ≤ b) (hb' : b ≤ 127) (ht : -128 ≤ t) (ht' : t ≤ 127) (w : World) :
    Calls Tryd.prog 8 #[devV p k b t, batV v u a, .int .i64 s] w fun e w' => e = .returned (.tuple #[.int .i64 (forR p k b t v u a s), .int .i64 (forC p k b t v u a s)]) ∧ Below w.heap.size w w' := by
  have hok := fun W => l04Ok_any (p := p) (k := k) (b := b) (t := t) (v := v) (u := u) (a := a) hb hb' ht ht' W
  have hB0 := below_2 w (.cells #[.int .i64 p, .int .i64 k, .int .i8 b, .int .i8 t] 26) (.cells #[.int .i64 v, .int .i64 u, .int .i64 a] 28)
  have D0 := DBAt.new w 26 28 p k b t v u a
  unfold forR forC
  rcases h1 : bathOk p k b t v u a with _ | _
  · simp only [Bool.false_eq_true, if_false, ifC_1]
    rw [h1] at hok
    have Hok := Lib.hid hok; clear hok h1 D0
    go_enter Tryd.func8, Tryd.ntmps8
    go_wp2_with fail
    refine (Hok.out _).mono ?_; rintro e w1 ⟨rfl, hb1⟩
    go_wp2_with fail
    go_ret2
    exact ⟨rfl, hB0.trans (hb1.mono hB0.size)⟩
  · rw [h1] at hok
    have Hok := Lib.hid hok; clear hok
    have h := bathOk_true.1 h1
    clear h1
    rcases h2 : inB s 0 1000 with _ | _
    · simp only [Bool.false_eq_true, if_false, if_true, ifC_2]
      clear D0 h
      go_enter Tryd.func8, Tryd.ntmps8
      go_wp2_with fail
      refine (Hok.out _).mono ?_; rintro e w1 ⟨rfl, hb1⟩
      go_wp2_with fail
      refine (l00In_any _ _ _ _).mono ?_; rintro e w2 ⟨rfl, rfl⟩
      go_wp2_with fail
      go_ret2
      exact ⟨rfl, hB0.trans (hb1.mono hB0.size)⟩
    · simp only [if_true, ifC_0]
      have hs := inB_true.1 h2
      have hle := for_le (s := s) h hs.2
      have hls := least_spec (n := v.toNat + 1) (q := forQ p k v u a s)
      have hv0 := h.v0
      have hv1 := h.v1
      go_enter Tryd.func8, Tryd.ntmps8
      go_wp2_with fail
      refine (Hok.out _).mono ?_; rintro e w1 ⟨rfl, hb1⟩
      have k1 := hB0.trans (hb1.mono hB0.size)
      have D1 := D0.below hb1 (Nat.le_refl _)
      clear D0 hB0 hb1
      go_wp2_with fail
      refine (l00In_any _ _ _ _).mono ?_; rintro e w2 ⟨rfl, rfl⟩
      have HLS := Lib.hid hls; clear hls
      have HLE := Lib.hid hle; clear hle
      go_wp2_with fail
      go_loopw [8] (fun i wr => ∃ m : Nat, i = .int .i64 m ∧ (m : Int) ≤ v ∧ m ≤ least (forQ p k v u a s) (v.toNat + 1) ∧ Below w1.heap.size w1 wr) (fun i _ => (v - intOf i).toNat)
      case atStart => exact ⟨0, rfl, by omega, Nat.zero_le _, Below.refl _ _⟩
      case round =>
        obtain ⟨m, rfl, hmv, hml, hB⟩ := hrel
        have E1 := D1.below hB (Nat.le_refl _)
        obtain ⟨c0, c1, c2, c3, c4, c5, c6⟩ := E1
        have hfl := fun W => l04Fill_any (m : Int) h (by omega) hmv W
        have hst := fun W => l04Strength_any (h.fill (m := m) (by omega) hmv) W
        have hqm : forQ p k v u a s m = decide (s ≤ strn p k v (left u v m) (left a v m)) := rfl
        generalize strn p k v (left u v m) (left a v m) = S at *
        generalize left u v m = U at *
        generalize left a v m = X at *
        have Hfl := Lib.hid hfl; clear hfl
        have Hst := Lib.hid hst; clear hst
        have Hqm := Lib.hid hqm; clear hqm
        by_cases hlt : S < s
        · have hm2 : (m : Int) + 1 ≤ v ∧ m + 1 ≤ least (forQ p k v u a s) (v.toNat + 1) := by
            have h5 : forQ p k v u a s m = false := by rw [Hqm.out]; exact decide_eq_false (by omega)
            rcases Nat.lt_or_ge m (least (forQ p k v u a s) (v.toNat + 1)) with h6 | h6
            · have := HLE.out
              exact ⟨by omega, h6⟩
            · have e : m = least (forQ p k v u a s) (v.toNat + 1) := by omega
              have := HLS.out.2.2 (by omega)
              rw [← e, h5] at this; cases this
          obtain ⟨hm3, hm4⟩ := hm2
          have Hm4 := Lib.hid hm4; clear hm4 hml
          go_wp2_with fail
          refine wp_region_quietD (Below wr.heap.size wr) (by kernel_rfl) (by kernel_rfl) (below_drew1 _) ?_
          have n0 := below_nonempty wr
          have f0 := inCell c0
          have f1 := inCell c1
          have f2 := inCell c2
          have f3 := inCell c3
          have f4 := inCell c4
          have f5 := inCell c5
          have f6 := inCell c6
          repeat (go_big_quiet_step (first | (go_at_call 30; exact inCall _ (Hfl.out _)) | (go_at_call 29; exact inCall _ (Hst.out _))))
          refine wpQuiet_nil ?_
          rintro _ ⟨y, rfl⟩
          go_wp2_with fail
          go_roundw
          case rel => exact ⟨m + 1, by go_num, by omega, Hm4.out, hB.trans (y.ok.mono hB.size)⟩
          case measure => simp [intOf]; omega
        · have he : m = least (forQ p k v u a s) (v.toNat + 1) := by
            have h5 : forQ p k v u a s m = true := by rw [Hqm.out]; exact decide_eq_true (by omega)
            rcases Nat.lt_or_ge m (least (forQ p k v u a s) (v.toNat + 1)) with h6 | h6
            · rw [HLS.out.2.1 m h6] at h5; cases h5
            · omega
          have He := Lib.hid he; clear he hml
          go_wp2_with fail
          refine wp_region_quietD (Below wr.heap.size wr) (by kernel_rfl) (by kernel_rfl) (below_drew1 _) ?_
          have n0 := below_nonempty wr
          have f0 := inCell c0
          have f1 := inCell c1
          have f2 := inCell c2
          have f3 := inCell c3
          have f4 := inCell c4
          have f5 := inCell c5
          have f6 := inCell c6
          repeat (go_big_quiet_step (first | (go_at_call 30; exact inCall _ (Hfl.out _)) | (go_at_call 29; exact inCall _ (Hst.out _))))
          refine wpQuiet_nil ?_
          rintro _ ⟨y, rfl⟩
          go_wp2_with fail
          go_ret2
          refine ⟨?_, k1.trans ((hB.trans (y.ok.mono hB.size)).mono k1.size)⟩
          show Ending.returned (.tuple #[.int .i64 (m : Int), .int .i64 0]) = _
          rw [← He.out]

end
end Go.Proofs.YtkgjkjecfpmlnaaDoor
