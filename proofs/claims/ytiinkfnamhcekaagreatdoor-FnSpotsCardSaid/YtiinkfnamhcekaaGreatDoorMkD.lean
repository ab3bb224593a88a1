/-
  A mask that is drawn: some mask, whatever the bytes. Condition: at most 1048576 bytes.
-/
import Derived.Test.YtiinkfnamhcekaaGreatDoorCells
import Derived.Test.YtiinkfnamhcekaaGreatDoorMaskS
import Derived.Test.YtiinkfnamhcekaaGreatDoorBv
namespace Go.Proofs.YtiinkfnamhcekaaGreatDoor
open Go.RowKit

theorem run_xor_bv {P : Program} {ρ : Operand → Value} {o : Oper} {w : World} {T T2 : TypeId} {x y : Operand} {a b : BitVec 64} (ho : o.op = .binOp .xor T x y T2) (hx : ρ x = .int .u64 (bvI a)) (hy : ρ y = .int .u64 (bvI b)) :
    (execOp ρ o).run P w = .ok (.value (.int .u64 (bvI (a ^^^ b)))) w := by
  have hw := wrap_bv (a ^^^ b)
  unfold bvI at *
  unfold execOp
  simp [ho, hx, hy, binOp, Op.intBits, IntKind.bits, eqGuard, -BitVec.toNat_and, -BitVec.toNat_or, -BitVec.toNat_not, -BitVec.toNat_xor]
  exact hw
theorem rct_bv (W N E S : Int) : ∃ m : BitVec 64, rctV W N E S = bvI m := by
  refine bvI_of ?_ ?_
  · unfold rctV; split <;> omega
  · have := maskN_lt (rctP W N E S) 64 (Nat.le_refl _)
    unfold rctV; split <;> omega
theorem Only.ofThen {L U : Nat} {a b c : World} (h : Only L U a b) (h' : Below b.heap.size b c) : Only L U a c := h.trans (Only.ofBelow h')
/-- A mask that was drawn from a source. -/
def MkDr (w : World) (b : Nat) (A : Option Addr) (n cap p : Nat) (e : Ending) (w' : World) : Prop :=
  ∃ (m : BitVec 64) (q : Nat), e = .returned (.int .u64 (bvI m)) ∧ q ≤ p + 20 ∧ SrcAt w' b A n cap q ∧ Only b (b + 1) w w'

set_option maxRecDepth 100000 in
set_option maxHeartbeats 4000000 in
theorem l03Mask_any (b : Nat) (A : Option Addr) (n cap p : Nat) (bs : Nat → Int) (hn : n ≤ 1048576) (hp : p ≤ 1000) (hbs : ∀ j, j < n → 0 ≤ bs j ∧ bs j ≤ 255) (w : World) (hS0 : SrcAt w b A n cap p) (hB : BytesIn w A n bs) (hA : 0 < n → ∀ a, A = some a → a.block < b) :
    Calls Tryz.prog 38 #[.pointer (some ⟨b, 0, none⟩)] w (MkDr w b A n cap p) := by
  have hblt : b < w.heap.size := by obtain ⟨_, _, _, _, _, h⟩ := hS0.cells; exact h
  have hBB : ∀ W, Below b w W → BytesIn W A n bs := fun W h => by
    rcases hB with h0 | ⟨b', o, e, hlt, hc⟩
    · exact .inl h0
    · rcases Nat.eq_zero_or_pos n with h0 | h0
      · exact .inl h0
      have h1 : b' < b := hA h0 _ e
      exact .inr ⟨b', o, e, by have := h.size; omega, fun j hj => by rw [h.cell (p := ⟨b', o + j, none⟩) h1]; exact hc j hj⟩
  have hpk := fun (W : World) (m : Int) (p : Nat) (h0 : 0 ≤ m) (h1 : m ≤ 2000000000) (hp : p ≤ 2000) (hS : SrcAt W b A n cap p) (hb : Only b (b + 1) w W) =>
    srcPick_any b n cap p A bs m h0 h1 hn (by omega) hbs W hS (hBB W (hb.below (Nat.le_of_lt hblt))) hA
  have Hpk := Lib.hid hpk; clear hpk hbs hBB hB hA
  go_enter Tryz.func38, Tryz.ntmps38
  go_wp2_with fail
  refine (Hpk.out _ 4 p (by omega) (by omega) (by omega) hS0 (Only.refl _ _ _)).mono ?_; rintro e w1 ⟨r, q1, rfl, hr, _, hq1, s1, o1⟩
  have hr := hr.lt (by omega)
  clear hS0
  rcases (show r = 0 ∨ r = 1 ∨ r = 2 ∨ r = 3 by omega) with rfl | rfl | rfl | rfl
  · clear Hpk
    have K := Lib.hid (And.intro s1 o1); clear s1 o1
    go_wp2_with fail
    go_ret
    exact ⟨18446744073709551615#64, q1, rfl, by omega, K.out⟩
  · go_wp2_with fail
    refine (Hpk.out _ 8 q1 (by omega) (by omega) (by omega) s1 o1).mono ?_; rintro e w2 ⟨x, q2, rfl, hx, _, hq2, s2, o2⟩
    have hx := hx.lt (by omega)
    have p2 := o1.trans o2
    clear s1 o1 o2
    go_wp2_with fail
    refine (Hpk.out _ 8 q2 (by omega) (by omega) (by omega) s2 p2).mono ?_; rintro e w3 ⟨y, q3, rfl, hy, _, hq3, s3, o3⟩
    have hy := hy.lt (by omega)
    have p3 := p2.trans o3
    clear s2 p2 o3
    go_wp2_with fail
    refine (Hpk.out _ (8 - x) q3 (by omega) (by omega) (by omega) s3 p3).mono ?_; rintro e w4 ⟨u, q4, rfl, hu, _, hq4, s4, o4⟩
    have hu : 0 ≤ u ∧ u ≤ 8 := by
      by_cases h : 8 - x ≤ 1
      · have := hu.1 h; omega
      · have := hu.2 (by omega); omega
    have p4 := p3.trans o4
    clear s3 p3 o4
    go_wp2_with fail
    refine (Hpk.out _ (8 - y) q4 (by omega) (by omega) (by omega) s4 p4).mono ?_; rintro e w5 ⟨v, q5, rfl, hv, _, hq5, s5, o5⟩
    have hv : 0 ≤ v ∧ v ≤ 8 := by
      by_cases h : 8 - y ≤ 1
      · have := hv.1 h; omega
      · have := hv.2 (by omega); omega
    have p5 := p4.trans o5
    clear s4 p4 o5 Hpk
    obtain ⟨m, hm⟩ := rct_bv x y (x + u) (y + v)
    have hma := specMaskOf_any x y (x + u) (y + v) w5
    rw [hm] at hma
    generalize rctC x y (x + u) (y + v) = C at *
    have K := Lib.hid (And.intro s5 p5)
    have Hma := Lib.hid hma
    clear s5 p5 hma hm
    go_wp2_with fail
    refine Hma.out.mono ?_; rintro e w6 ⟨rfl, rfl⟩
    clear Hma
    go_wp2_with fail
    go_ret
    exact ⟨m, q5, rfl, by omega, K.out⟩
  · go_wp2_with fail
    refine (Hpk.out _ 64 q1 (by omega) (by omega) (by omega) s1 o1).mono ?_; rintro e w2 ⟨x, q2, rfl, hx, _, hq2, s2, o2⟩
    have hx := hx.lt (by omega)
    have K := Lib.hid (And.intro s2 (o1.trans o2))
    clear s1 o1 o2 s2 Hpk
    obtain ⟨k, rfl⟩ : ∃ k : Nat, x = (k : Int) := ⟨x.toNat, by omega⟩
    have hk : k < 64 := by omega
    have h2 := two_pow_lt64 hk
    obtain ⟨T, hT⟩ : ∃ T, 2 ^ k = T := ⟨_, rfl⟩
    rw [hT] at h2
    obtain ⟨m, hm⟩ := bvI_of (x := ((T : Nat) : Int)) (by omega) (by omega)
    go_wp2_with (refine wpList_shl1 (κ := .u64) (k := k) _ _ rfl rfl rfl rfl hk ?_; rw [hT, hm])
    go_ret
    exact ⟨m, q2, rfl, by omega, K.out⟩
  · go_wp2_with fail
    refine (Hpk.out _ 1073741824 q1 (by omega) (by omega) (by omega) s1 o1).mono ?_; rintro e w2 ⟨x, q2, rfl, hx, _, hq2, s2, o2⟩
    have hx := hx.lt (by omega)
    have p2 := o1.trans o2
    clear s1 o1 o2
    obtain ⟨H, rfl⟩ := bvI_of (x := x) (by omega) (by omega)
    have hH := Lib.hid hx
    have hwr : IntKind.u64.wrap (bvI H) = bvI H := wrap_bv H
    go_wp2_with (refine wpList_yield rfl (run_shl_bv (κ := .u64) (a := H) (k := 34) rfl rfl rfl (by decide)) ?_)
    refine (Hpk.out _ 1073741824 q2 (by omega) (by omega) (by omega) s2 p2).mono ?_; rintro e w3 ⟨y, q3, rfl, hy, _, hq3, s3, o3⟩
    have hy := hy.lt (by omega)
    have K := Lib.hid (And.intro s3 (p2.trans o3))
    clear s2 p2 o3 s3 Hpk
    obtain ⟨G, rfl⟩ := bvI_of (x := y) (by omega) (by omega)
    have hwr2 : IntKind.u64.wrap (bvI G) = bvI G := wrap_bv G
    go_wp2_with (refine wpList_yield rfl (run_or_bv (a := H <<< 34) (b := G) rfl rfl rfl) ?_)
    go_ret
    exact ⟨_, q3, rfl, by omega, K.out⟩

set_option maxRecDepth 100000 in
set_option maxHeartbeats 4000000 in
theorem l07Masked_any (b : Nat) (A : Option Addr) (n cap : Nat) (bs : Nat → Int) (hn : n ≤ 1048576) (hbs : ∀ j, j < n → 0 ≤ bs j ∧ bs j ≤ 255) (w : World) (hS0 : SrcAt w b A n cap 0) (hB : BytesIn w A n bs) (hA : 0 < n → ∀ a, A = some a → a.block < b) :
    Calls Tryz.prog 19 #[.pointer (some ⟨b, 0, none⟩)] w fun e w' => ∃ m : BitVec 64, e = .returned (.int .u64 (bvI m)) ∧ Only b (b + 1) w w' := by
  have hblt : b < w.heap.size := by obtain ⟨_, _, _, _, _, h⟩ := hS0.cells; exact h
  have hBB : ∀ W, Below b w W → BytesIn W A n bs := fun W h => by
    rcases hB with h0 | ⟨b', o, e, hlt, hc⟩
    · exact .inl h0
    · rcases Nat.eq_zero_or_pos n with h0 | h0
      · exact .inl h0
      have h1 : b' < b := hA h0 _ e
      exact .inr ⟨b', o, e, by have := h.size; omega, fun j hj => by rw [h.cell (p := ⟨b', o + j, none⟩) h1]; exact hc j hj⟩
  have hpk := fun (W : World) (m : Int) (p : Nat) (h0 : 0 ≤ m) (h1 : m ≤ 2000000000) (hp : p ≤ 2000) (hS : SrcAt W b A n cap p) (hb : Only b (b + 1) w W) =>
    srcPick_any b n cap p A bs m h0 h1 hn (by omega) hbs W hS (hBB W (hb.below (Nat.le_of_lt hblt))) hA
  have hmk := fun (W : World) (p : Nat) (hp : p ≤ 1000) (hS : SrcAt W b A n cap p) (hb : Only b (b + 1) w W) =>
    l03Mask_any b A n cap p bs hn hp hbs W hS (hBB W (hb.below (Nat.le_of_lt hblt))) hA
  have Hpk := Lib.hid hpk; have Hmk := Lib.hid hmk; clear hpk hmk hbs hBB hB hA
  go_enter Tryz.func19, Tryz.ntmps19
  go_wp2_with fail
  refine (Hmk.out _ 0 (by omega) hS0 (Only.refl _ _ _)).mono ?_; rintro e w1 ⟨m, q1, rfl, hq1, s1, o1⟩
  clear hS0
  go_wp2_with fail
  refine (Hpk.out _ 4 q1 (by omega) (by omega) (by omega) s1 o1).mono ?_; rintro e w2 ⟨K, q2, rfl, hK, _, hq2, s2, o2⟩
  have hK := hK.lt (by omega)
  have P2 := Lib.hid (And.intro s2 (o1.trans o2))
  clear s1 o1 o2 s2
  go_wp2_with fail
  go_loopw [3, 4] (fun mv kv wr => ∃ (j : Nat) (m : BitVec 64) (q : Nat), (j : Int) ≤ K ∧ kv = .int .i64 (K - j) ∧ mv = .int .u64 (bvI m) ∧ q ≤ 30 + 20 * j ∧ SrcAt wr b A n cap q ∧ Only b (b + 1) w wr) (fun _ kv _ => (intOf kv).toNat)
  case atStart => exact ⟨0, m, q2, by omega, by simp, rfl, by omega, P2.out⟩
  case round =>
    clear P2
    obtain ⟨j, m, q, hj, rfl, rfl, hq, hS, hO⟩ := hrel
    by_cases hc : (0 : Int) < K - j
    · go_wp2_with fail
      refine (Hmk.out _ q (by omega) hS hO).mono ?_; rintro e w3 ⟨m3, q3, rfl, hq3, s3, o3⟩
      have P3 := Lib.hid (And.intro s3 (hO.trans o3))
      clear hS hO s3 o3
      go_wp2_with (refine wpList_yield rfl (run_xor_bv (a := m) (b := m3) rfl rfl rfl) ?_)
      go_roundw
      case rel => exact ⟨j + 1, m ^^^ m3, q3, by omega, congrArg (Value.int .i64) (by omega), rfl, by omega, P3.out⟩
      case measure => simp [intOf]; omega
    · have hO2 := Lib.hid hO
      clear hS hO
      go_wp2_with fail
      go_ret
      exact ⟨⟨m, rfl⟩, hO2.out⟩

set_option maxRecDepth 100000 in
set_option maxHeartbeats 1000000 in
theorem P6Mask_any (A : Option Addr) (n cap : Nat) (bs : Nat → Int) (hn : n ≤ 1048576) (hbs : ∀ j, j < n → 0 ≤ bs j ∧ bs j ≤ 255) (w : World) (hB : BytesIn w A n bs) :
    Calls Tryz.prog 5 #[.slice A n cap] w fun e w' => ∃ m : BitVec 64, e = .returned (.int .u64 (bvI m)) ∧ Below w.heap.size w w' := by
  have k0 := (Below.refl w.heap.size w).alloc (Nat.le_refl _) (.cells #[.slice A n cap, .int .i64 0, .int .u64 0] 71)
  have hd := l07Masked_any w.heap.size A n cap bs hn hbs _ (srcAt_new w A n cap) (hB.below k0 (Nat.le_refl _)) hB.lt
  have Hd := Lib.hid hd; clear hd hbs
  go_enter Tryz.func5, Tryz.ntmps5
  go_wp2_with fail
  refine (l00From_any _ _ _ _).mono ?_; rintro e w1 ⟨rfl, rfl⟩
  go_wp2_with fail
  refine Hd.out.mono ?_; rintro e w2 ⟨m, rfl, ho⟩
  go_wp2_with fail
  go_ret
  exact ⟨m, rfl, k0.trans (ho.below (by simp))⟩
end Go.Proofs.YtiinkfnamhcekaaGreatDoor
