/-
  The reference's source of choices: what it picks lies within its bounds, whatever the bytes. Condition: at most 1048576 bytes.
-/
import Derived.Test.YtnlcjbobfhmnmabGreatDoorOwn
import Derived.ProofKit
import Derived.OpenShut
import Derived.Laws.BitsAllLaws
namespace Go.Proofs.YtnlcjbobfhmnmabGreatDoor
open Go.RowKit Go.ChangeShapes Go.WideShapes

/-- A list of bytes as it came: nil or not. -/
def BytesIn (w : World) (A : Option Addr) (n : Nat) (bs : Nat → Int) : Prop :=
  n = 0 ∨ ∃ b o, A = some ⟨b, o, none⟩ ∧ b < w.heap.size ∧ ∀ j, j < n → w.cell? ⟨b, o + j, none⟩ = some (.int .u8 (bs j))
theorem BytesIn.below {w w' : World} {A : Option Addr} {n : Nat} {bs : Nat → Int} {B : Nat} (h : BytesIn w A n bs) (hb : Below B w w') (hB : w.heap.size ≤ B) : BytesIn w' A n bs := by
  rcases h with h | ⟨b, o, e, hlt, hc⟩
  · exact .inl h
  · exact .inr ⟨b, o, e, by have := hb.size; omega, fun j hj => by rw [hb.cell (p := ⟨b, o + j, none⟩) (by show b < B; omega)]; exact hc j hj⟩

/-- A list of bytes, opened: nil or not. -/
theorem bytes_open {H : Type} {enc : TypeId × Value → H} {P : Program} {w : World} {t e : TypeId} {v : Value} {d : DataW H} {p : List MemPlace} {r : Reach} {b0 : Nat} (ht : P.underlying t = some (.slice e)) (he : P.underlying e = some (.int .u8)) (hc : P.cellsOf e = 1)
    (hv : Value.okWide P w r b0 t v) (h : DataW.Trod enc P w 0 (fun _ => true) true t v d p) :
    ∃ A n cap bs, v = .slice A n cap ∧ BytesIn w A n bs ∧ n ≤ maxLen ∧ ∀ j, j < n → (Lit.int .u8 (bs j)).wf = true := by
  obtain ⟨a0, len, cap, rfl⟩ := okWide_slice ht hv
  obtain ⟨fuel, hf⟩ := h
  rcases open_ints ht he hc hf with ⟨hcs, _⟩ | ⟨a, len', cap', zs, hcs, _, hl, hm, hz, _, hcell, hw⟩
  · simp only [Value.cells] at hcs
    have e1 : (Value.slice a0 len cap) = .slice none 0 0 := by simpa using hcs
    injection e1 with e1 e2 e3
    subst e1; subst e2
    exact ⟨none, 0, cap, fun _ => 0, rfl, .inl rfl, Nat.zero_le _, fun j hj => by omega⟩
  · simp only [Value.cells] at hcs
    have e1 : (Value.slice a0 len cap) = .slice (some a) len' cap' := by simpa using hcs
    injection e1 with e1 e2 e3
    subst e1; subst e2; subst e3
    simp only [if_true] at hz
    have hmx : len ≤ maxLen := Nat.le_trans hl hm
    by_cases h0 : len = 0
    · subst h0
      exact ⟨some a, 0, cap, fun _ => 0, rfl, .inl rfl, Nat.zero_le _, fun j hj => by omega⟩
    · obtain ⟨b, off, rfl, hc'⟩ := ints_at hcell (by omega)
      have hb : b < w.heap.size := by
        rcases Nat.lt_or_ge b w.heap.size with h2 | h2
        · exact h2
        · have := hc' 0 (by omega)
          simp [World.cell?, Array.getElem?_eq_none h2] at this
      refine ⟨some ⟨b, off, none⟩, len, cap, fun j => zs.getD j 0, rfl, .inr ⟨b, off, rfl, hb, fun j hj => hc' j (by omega)⟩, hmx, fun j hj => ?_⟩
      have hj' : j < zs.length := by omega
      simp only [List.getD_eq_getElem?_getD, List.getElem?_eq_getElem hj', Option.getD_some]
      exact hw _ (List.getElem_mem hj')

/-- Block b is a source over the bytes of A, which stands at the number p. -/
def SrcAt (w : World) (b : Nat) (A : Option Addr) (n cap p : Nat) : Prop := ∃ sd, w.heap[b]? = some (.cells #[.slice A n cap, .int .i64 p, .int .u64 sd] 87 (0, 0))
theorem SrcAt.cells {w : World} {b n cap p : Nat} {A : Option Addr} (h : SrcAt w b A n cap p) :
    ∃ sd, w.cell? ⟨b, 0, none⟩ = some (.slice A n cap) ∧ w.cell? ⟨b, 1, none⟩ = some (.int .i64 p) ∧ w.cell? ⟨b, 2, none⟩ = some (.int .u64 sd) ∧ (∀ o, w.frozen? ⟨b, o, none⟩ = false) ∧ b < w.heap.size := by
  obtain ⟨sd, h⟩ := h
  refine ⟨sd, by rw [cell_of_row _ _ _ _ _ _ h]; rfl, by rw [cell_of_row _ _ _ _ _ _ h]; rfl, by rw [cell_of_row _ _ _ _ _ _ h]; rfl, fun o => frozen_of_row _ _ _ _ _ h, ?_⟩
  obtain ⟨hlt, _⟩ := Array.getElem?_eq_some_iff.1 h
  exact hlt
theorem SrcAt.next {w : World} {b n cap p : Nat} {A : Option Addr} (h : SrcAt w b A n cap p) (q : Nat) (sd : Int) : SrcAt ((w.setCell ⟨b, 1, none⟩ (.int .i64 q)).setCell ⟨b, 2, none⟩ (.int .u64 sd)) b A n cap q := by
  obtain ⟨s0, h⟩ := h
  refine ⟨sd, ?_⟩
  simp [World.setCell, Array.getElem?_modify, h]
theorem SrcAt.below {w w' : World} {b n cap p B : Nat} {A : Option Addr} (h : SrcAt w b A n cap p) (hb : Below B w w') (hB : b < B) : SrcAt w' b A n cap p := by
  obtain ⟨sd, h⟩ := h
  exact ⟨sd, (hb.block b hB).trans h⟩
theorem SrcAt.only {w w' : World} {b n cap p L U : Nat} {A : Option Addr} (h : SrcAt w b A n cap p) (ho : Only L U w w') (hB : b < L ∨ U ≤ b) : SrcAt w' b A n cap p := by
  obtain ⟨_, _, _, _, _, hlt⟩ := h.cells
  obtain ⟨sd, h⟩ := h
  exact ⟨sd, (ho.block b hlt hB).trans h⟩
theorem BytesIn.lt {w : World} {A : Option Addr} {n : Nat} {bs : Nat → Int} (h : BytesIn w A n bs) : 0 < n → ∀ a, A = some a → a.block < w.heap.size := by
  intro h0 a ha
  rcases h with h | ⟨b, o, e, hlt, _⟩
  · omega
  · rw [e] at ha
    injection ha with ha
    subst ha
    exact hlt
theorem BytesIn.only {w w' : World} {A : Option Addr} {n : Nat} {bs : Nat → Int} {L U B : Nat} (h : BytesIn w A n bs) (hA : 0 < n → ∀ a, A = some a → a.block < B) (ho : Only L U w w') (hB : B ≤ L) : BytesIn w' A n bs := by
  rcases h with h | ⟨b, o, e, hlt, hc⟩
  · exact .inl h
  · rcases Nat.eq_zero_or_pos n with h0 | h0
    · exact .inl h0
    have h1 : b < B := hA h0 _ e
    have hh := ho.block b hlt (.inl (by omega))
    exact .inr ⟨b, o, e, by have := ho.size; omega, fun j hj => by rw [World.cell?_of_block (a := ⟨b, o + j, none⟩) hh]; exact hc j hj⟩

theorem and255 (x : Int) : 0 ≤ bits .and .u64 x 255 ∧ bits .and .u64 x 255 ≤ 255 := by
  have h : bits .and .u64 x 255 = IntKind.u64.wrap ((BitVec.ofInt 64 x &&& BitVec.ofInt 64 255).toNat : Int) := rfl
  have h2 : (BitVec.ofInt 64 x &&& BitVec.ofInt 64 255).toNat ≤ 255 := by rw [BitVec.toNat_and]; exact Nat.le_trans Nat.and_le_right (by decide)
  generalize (BitVec.ofInt 64 x &&& BitVec.ofInt 64 255).toNat = m at h h2
  rw [h, IntKind.wrap_u64]
  omega

theorem src_done {w : World} {b n cap p : Nat} {A : Option Addr} (h : SrcAt w b A n cap p) (m m' : Nat) (q sd : Int) (hq : q = (p : Int) + 1) :
    SrcAt ((((w.drewN m).setCell ⟨b, 1, none⟩ (.int .i64 q)).setCell ⟨b, 2, none⟩ (.int .u64 sd)).drewN m') b A n cap (p + 1) ∧
      Only b (b + 1) w ((((w.drewN m).setCell ⟨b, 1, none⟩ (.int .i64 q)).setCell ⟨b, 2, none⟩ (.int .u64 sd)).drewN m') := by
  subst hq
  refine ⟨SrcAt.next (w := w.drewN m) h (p + 1) sd, ?_⟩
  exact ((((Only.refl b (b + 1) w).drewN m).setCell (p := ⟨b, 1, none⟩) (Nat.le_refl b) (Nat.lt_succ_self b) _).setCell (p := ⟨b, 2, none⟩) (Nat.le_refl b) (Nat.lt_succ_self b) _).drewN m'

/-- One choice: a byte; the source stands one further; nothing else has turned. -/
def OneByte (w : World) (b : Nat) (A : Option Addr) (n cap p : Nat) (e : Ending) (w' : World) : Prop := ∃ x : Int, e = .returned (.int .i64 x) ∧ 0 ≤ x ∧ x ≤ 255 ∧ SrcAt w' b A n cap (p + 1) ∧ Only b (b + 1) w w'

theorem and255w (x : Int) : 0 ≤ wrap64 (bits .and .u64 x 255) ∧ wrap64 (bits .and .u64 x 255) ≤ 255 := by
  have h := and255 x
  rw [IntWalk.wrap64_in _ ⟨by omega, by omega⟩]
  exact h

set_option maxRecDepth 100000 in
set_option maxHeartbeats 1000000 in
theorem srcNext_any (b n cap p : Nat) (A : Option Addr) (bs : Nat → Int) (hn : n ≤ 1048576) (hp : p ≤ 1000000000) (hbs : ∀ j, j < n → 0 ≤ bs j ∧ bs j ≤ 255) (w : World) (hs : SrcAt w b A n cap p) (hB : BytesIn w A n bs) (hA : 0 < n → ∀ a, A = some a → a.block < b) :
    Calls Tryz.prog 60 #[.pointer (some ⟨b, 0, none⟩)] w (OneByte w b A n cap p) := by
  obtain ⟨sd, c0, c1, c2, fz, hlt⟩ := hs.cells
  have f1 := fz 1
  have f2 := fz 2
  clear fz
  have Hs := Lib.hid hs; clear hs
  by_cases hpn : p < n
  · rcases hB with h0 | ⟨b', o, rfl, hb', hc⟩
    · omega
    have hne : b' < b := hA (by omega) _ rfl
    have d0 := hc p hpn
    have hx := hbs p hpn
    clear hA hbs hc
    generalize bs p = x at d0 hx
    go_enter Tryz.func60, Tryz.ntmps60
    go_wp2_with fail
    go_quiet (fail)
    go_wp2_with fail
    go_quiet (fail)
    go_wp2_with fail
    go_quiet (fail)
    go_wp2_with fail
    go_ret
    exact ⟨x, rfl, hx.1, hx.2, (src_done Hs.out _ _ _ _ rfl).1, (src_done Hs.out _ _ _ _ rfl).2⟩
  · clear hbs hA hB
    go_enter Tryz.func60, Tryz.ntmps60
    go_wp2_with fail
    go_quiet (fail)
    go_wp2_with fail
    go_quiet (fail)
    go_wp2_with fail
    go_ret
    exact ⟨_, rfl, (and255w _).1, (and255w _).2, (src_done Hs.out _ _ _ _ rfl).1, (src_done Hs.out _ _ _ _ rfl).2⟩

/-- A number is one of those that may be picked. -/
def Picked (m r : Int) : Prop := (m ≤ 1 → r = 0) ∧ (1 < m → 0 ≤ r ∧ r < m)
theorem Picked.lt {m r : Int} (h : Picked m r) (hm : 1 < m) : 0 ≤ r ∧ r < m := h.2 hm
theorem Picked.mod {m x : Int} (hm : 1 < m) : Picked m (x % m) := ⟨fun h => by omega, fun _ => ⟨Int.emod_nonneg _ (by omega), Int.emod_lt_of_pos _ (by omega)⟩⟩
def PickQ (w : World) (b : Nat) (A : Option Addr) (n cap p : Nat) (m : Int) (e : Ending) (w' : World) : Prop := ∃ (r : Int) (q : Nat), e = .returned (.int .i64 r) ∧ Picked m r ∧ p ≤ q ∧ q ≤ p + 2 ∧ SrcAt w' b A n cap q ∧ Only b (b + 1) w w'
theorem Only.trans {L U : Nat} {a b c : World} (h1 : Only L U a b) (h2 : Only L U b c) : Only L U a c :=
  ⟨h2.os.trans h1.os, h2.tape.trans h1.tape, h2.output.trans h1.output, Nat.le_trans h1.size h2.size, fun k hk hkk => (h2.block k (Nat.lt_of_lt_of_le hk h1.size) hkk).trans (h1.block k hk hkk)⟩

set_option maxHeartbeats 1000000 in
theorem srcPick_any (b n cap p : Nat) (A : Option Addr) (bs : Nat → Int) (m : Int) (hm0 : 0 ≤ m) (hm1 : m ≤ 2000000000) (hn : n ≤ 1048576) (hp : p ≤ 999999990) (hbs : ∀ j, j < n → 0 ≤ bs j ∧ bs j ≤ 255) (w : World) (hs : SrcAt w b A n cap p) (hB : BytesIn w A n bs) (hA : 0 < n → ∀ a, A = some a → a.block < b) :
    Calls Tryz.prog 30 #[.pointer (some ⟨b, 0, none⟩), .int .i64 m] w (PickQ w b A n cap p m) := by
  have HA := Lib.hid hA; clear hA
  have Hbs := Lib.hid hbs; clear hbs
  by_cases h1 : m ≤ 1
  · go_enter Tryz.func30, Tryz.ntmps30
    go_wp2_with fail
    go_ret
    exact ⟨0, p, rfl, ⟨fun _ => rfl, fun h => by omega⟩, Nat.le_refl _, by omega, hs, .refl _ _ _⟩
  · by_cases h2 : m ≤ 200
    · go_enter Tryz.func30, Tryz.ntmps30
      go_wp2_with fail
      refine (srcNext_any b n cap p A bs hn (by omega) Hbs.out w hs hB HA.out).mono ?_; rintro e w1 ⟨x, rfl, x0, x1, hs1, ho1⟩
      go_wp2_with fail
      go_ret
      exact ⟨_, p + 1, rfl, Picked.mod (by omega), by omega, by omega, hs1, ho1⟩
    · have hn1 : ∀ W, Only b (b + 1) w W → SrcAt W b A n cap (p + 1) → Calls Tryz.prog 60 #[.pointer (some ⟨b, 0, none⟩)] W (OneByte W b A n cap (p + 1)) :=
        fun W ho hS => srcNext_any b n cap (p + 1) A bs hn (by omega) Hbs.out W hS (hB.only HA.out ho (Nat.le_refl _)) HA.out
      have Hn := Lib.hid hn1; clear hn1
      go_enter Tryz.func30, Tryz.ntmps30
      go_wp2_with fail
      refine (srcNext_any b n cap p A bs hn (by omega) Hbs.out w hs hB HA.out).mono ?_; rintro e w1 ⟨x, rfl, x0, x1, hs1, ho1⟩
      go_wp2_with fail
      refine (Hn.out _ ho1 hs1).mono ?_; rintro e w2 ⟨y, rfl, y0, y1, hs2, ho2⟩
      go_wp2_with fail
      go_ret
      exact ⟨_, p + 2, rfl, Picked.mod (by omega), by omega, by omega, hs2, ho1.trans ho2⟩

set_option maxHeartbeats 400000 in
theorem l00From_any (A : Option Addr) (n cap : Nat) (w : World) :
    Calls Tryz.prog 28 #[.slice A n cap] w fun e w' => e = .returned (.pointer (some ⟨w.heap.size, 0, none⟩)) ∧ w' = w.alloc (.cells #[.slice A n cap, .int .i64 0, .int .u64 0] 87) := by
  go_enter Tryz.func28, Tryz.ntmps28
  go_wp2
  go_ret
  exact ⟨rfl, rfl⟩
theorem srcAt_new (w : World) (A : Option Addr) (n cap : Nat) : SrcAt (w.alloc (.cells #[.slice A n cap, .int .i64 0, .int .u64 0] 87)) w.heap.size A n cap 0 := ⟨0, heap_alloc_new w _⟩

/-- A number that is picked; what lay there lies as it did. -/
def PickB (w : World) (m : Int) (e : Ending) (w' : World) : Prop := ∃ r : Int, e = .returned (.int .i64 r) ∧ Picked m r ∧ Below w.heap.size w w'
set_option maxHeartbeats 400000 in
theorem P6Pick_any (A : Option Addr) (n cap : Nat) (bs : Nat → Int) (m : Int) (hm0 : 0 ≤ m) (hm1 : m ≤ 1000000000) (hn : n ≤ 1048576) (hbs : ∀ j, j < n → 0 ≤ bs j ∧ bs j ≤ 255) (w : World) (hB : BytesIn w A n bs) :
    Calls Tryz.prog 7 #[.slice A n cap, .int .i64 m] w (PickB w m) := by
  have Hbs := Lib.hid hbs; clear hbs
  go_enter Tryz.func7, Tryz.ntmps7
  go_wp2_with fail
  refine (l00From_any _ _ _ _).mono ?_; rintro e w1 ⟨rfl, rfl⟩
  have k0 : Below w.heap.size w (w.alloc (.cells #[.slice A n cap, .int .i64 0, .int .u64 0] 87)) := (Below.refl _ _).alloc (Nat.le_refl _) _
  have hs := srcAt_new w A n cap
  have hB1 := hB.below k0 (Nat.le_refl _)
  go_wp2_with fail
  refine (srcPick_any _ n cap 0 A bs m hm0 (by omega) hn (by omega) Hbs.out _ hs hB1 hB.lt).mono ?_; rintro e w2 ⟨r, q, rfl, hr, _, _, _, ho⟩
  go_wp2_with fail
  go_ret
  exact ⟨r, rfl, hr, k0.trans (ho.below (by simp))⟩

theorem f6big_any (A : Option Addr) (n cap : Nat) (w : World) (hn : n ≤ 9223372036854775807) :
    Calls Tryz.prog 4 #[.slice A n cap] w fun e w' => e = .returned (.bool (decide (4096 < n))) ∧ w = w' := by
  by_cases h : 4096 < n
  all_goals
    go_enter Tryz.func4, Tryz.ntmps4
    go_wp2
    go_ret
    exact ⟨ret_bool (by simp [h]; omega), rfl⟩
end Go.Proofs.YtnlcjbobfhmnmabGreatDoor
