/-
  Cells that are drawn: they are densities, whatever the bytes. Condition: at most 1048576 bytes.
-/
import Derived.Test.YtmibinfaafhgdaaGreatDoorSrc
import Derived.Test.YtmibinfaafhgdaaGreatDoorArrTools
namespace Go.Proofs.YtmibinfaafhgdaaGreatDoor
open Go.RowKit

theorem HasArr.only {w w' : World} {b : Nat} {T : TypeId} {κ : IntKind} {n : Nat} {f : Nat → Int} {L U : Nat} (h : HasArr w b T κ n f) (ho : Only L U w w') (hB : b < L ∨ U ≤ b) : HasArr w' b T κ n f := (ho.block b h.lt hB).trans h
theorem zeroArr4 : #[.int .i16 0, .int .i16 0, .int .i16 0, .int .i16 0] = arrV .i16 4 fun _ => 0 := by kernel_rfl
theorem sizeA4 : (Tryz.prog.info? 82).map (·.size) = some 4 := by kernel_rfl
theorem HasArr.zero4 (w : World) (T : TypeId) {b : Nat} (hb : b = w.heap.size) : HasArr (w.alloc (.cells #[.int .i16 0, .int .i16 0, .int .i16 0, .int .i16 0] T)) b T .i16 4 fun _ => 0 := by
  subst hb; rw [zeroArr4]; exact HasArr.new w T _ _ _
theorem wpList_store_z4 {P : Program} {ops : Array Oper} {rest : List Oper} {o : Oper} {a : Act} {w : World} {Q : Exit → Act → World → Prop} {b : Nat} {T : TypeId} {κ : IntKind} {f : Nat → Int}
    (h : HasArr w b T κ 4 f) (ty : TypeId) (x y : Operand) (hgd : o.guard = none) (ho : o.op = .store ty x y) (hx : a.eval x = .pointer (some ⟨b, 0, none⟩)) (hy : a.eval y = .agg #[.int .i16 0, .int .i16 0, .int .i16 0, .int .i16 0]) (hi : (P.info? ty).map (·.size) = some 4)
    (hK : wpList P ops Q rest (a.put o.dst undef) (w.setRow b (arrV .i16 4 fun _ => 0))) : wpList P ops Q (o :: rest) a w :=
  wpList_store_arr h ty x y hgd ho hx (hy.trans (by rw [zeroArr4])) hi hK
theorem wpList_store_z64 {P : Program} {ops : Array Oper} {rest : List Oper} {o : Oper} {a : Act} {w : World} {Q : Exit → Act → World → Prop} {b : Nat} {T : TypeId} {κ : IntKind} {f : Nat → Int}
    (h : HasArr w b T κ 64 f) (ty : TypeId) (x y : Operand) (hgd : o.guard = none) (ho : o.op = .store ty x y) (hx : a.eval x = .pointer (some ⟨b, 0, none⟩)) (hy : a.eval y = .agg #[.int .i16 0, .int .i16 0, .int .i16 0, .int .i16 0, .int .i16 0, .int .i16 0, .int .i16 0, .int .i16 0, .int .i16 0, .int .i16 0, .int .i16 0, .int .i16 0, .int .i16 0, .int .i16 0, .int .i16 0, .int .i16 0, .int .i16 0, .int .i16 0, .int .i16 0, .int .i16 0, .int .i16 0, .int .i16 0, .int .i16 0, .int .i16 0, .int .i16 0, .int .i16 0, .int .i16 0, .int .i16 0, .int .i16 0, .int .i16 0, .int .i16 0, .int .i16 0, .int .i16 0, .int .i16 0, .int .i16 0, .int .i16 0, .int .i16 0, .int .i16 0, .int .i16 0, .int .i16 0, .int .i16 0, .int .i16 0, .int .i16 0, .int .i16 0, .int .i16 0, .int .i16 0, .int .i16 0, .int .i16 0, .int .i16 0, .int .i16 0, .int .i16 0, .int .i16 0, .int .i16 0, .int .i16 0, .int .i16 0, .int .i16 0, .int .i16 0, .int .i16 0, .int .i16 0, .int .i16 0, .int .i16 0, .int .i16 0, .int .i16 0, .int .i16 0]) (hi : (P.info? ty).map (·.size) = some 64)
    (hK : wpList P ops Q rest (a.put o.dst undef) (w.setRow b (arrV .i16 64 fun _ => 0))) : wpList P ops Q (o :: rest) a w :=
  wpList_store_arr h ty x y hgd ho hx (hy.trans (by rw [zeroArr16])) hi hK
section
variable {L U : Nat} {w w' : World}
theorem Only.ofBelow (h : Below w.heap.size w w') : Only L U w w' := ⟨h.os, h.tape, h.output, h.size, fun k hk _ => h.block k hk⟩
theorem Only.alloc (h : Only L U w w') (o : Obj) : Only L U w (w'.alloc o) := h.trans (Only.ofBelow ((Below.refl _ _).alloc (Nat.le_refl _) o))
theorem Only.setNew (h : Only L U w w') {p : Addr} (hp : w.heap.size ≤ p.block) (u : Value) : Only L U w (w'.setCell p u) :=
  ⟨h.os, h.tape, h.output, by simp; exact h.size, fun k hk hkk => (Below.heap_setCell w' p u k (by omega)).trans (h.block k hk hkk)⟩
theorem Only.setRowNew (h : Only L U w w') {b : Nat} (hb : w.heap.size ≤ b) (cs : Array Value) : Only L U w (w'.setRow b cs) :=
  ⟨h.os, h.tape, h.output, by simp; exact h.size, fun k hk hkk => (setRow_other w' b k cs (by omega)).trans (h.block k hk hkk)⟩
end
/-- The first n numbers are densities. -/
def Dn (n : Nat) (f : Nat → Int) : Prop := ∀ j, j < n → 0 ≤ f j ∧ f j ≤ 400
theorem Dn.upd {n : Nat} {f : Nat → Int} (h : Dn n f) (k : Nat) {x : Int} (h0 : 0 ≤ x) (h1 : x ≤ 400) : Dn n (upd f k x) := fun j hj => by
  unfold Go.Proofs.YtmibinfaafhgdaaGreatDoor.upd
  split
  · exact ⟨h0, h1⟩
  · exact h j hj
theorem Dn.dns {f : Nat → Int} (h : Dn 64 f) : dnsB f = true := dnsB_iff.2 fun k hk => inB_true.2 (h k hk)
theorem Dn.zero (n : Nat) : Dn n fun _ => 0 := fun _ _ => ⟨by show (0 : Int) ≤ 0; omega, by show (0 : Int) ≤ 400; omega⟩

/-- Cells that are drawn from a source. -/
def CellsOut (w : World) (b : Nat) (A : Option Addr) (n cap p : Nat) (e : Ending) (w' : World) : Prop :=
  ∃ f q, e = .returned (.agg (arrV .i16 64 f)) ∧ Dn 64 f ∧ q ≤ p + 40 ∧ SrcAt w' b A n cap q ∧ Only b (b + 1) w w'

set_option maxRecDepth 100000 in
set_option maxHeartbeats 4000000 in
theorem l03Cells_any (b : Nat) (A : Option Addr) (n cap p : Nat) (bs : Nat → Int) (hn : n ≤ 1048576) (hp : p ≤ 1000) (hbs : ∀ j, j < n → 0 ≤ bs j ∧ bs j ≤ 255) (w : World) (hS0 : SrcAt w b A n cap p) (hB : BytesIn w A n bs) (hA : 0 < n → ∀ a, A = some a → a.block < b) :
    Calls Tryz.prog 23 #[.pointer (some ⟨b, 0, none⟩)] w (CellsOut w b A n cap p) := by
  have hblt : b < w.heap.size := by obtain ⟨_, _, _, _, _, h⟩ := hS0.cells; exact h
  have hBB : ∀ W, Below b w W → BytesIn W A n bs := fun W h => by
    rcases hB with h0 | ⟨b', o, e, hlt, hc⟩
    · exact .inl h0
    · rcases Nat.eq_zero_or_pos n with h0 | h0
      · exact .inl h0
      have h1 : b' < b := hA h0 _ e
      exact .inr ⟨b', o, e, by have := h.size; omega, fun j hj => by rw [h.cell (p := ⟨b', o + j, none⟩) h1]; exact hc j hj⟩
  have hpk := fun (W : World) (m : Int) (p : Nat) (h0 : 0 ≤ m) (h1 : m ≤ 1000) (hp : p ≤ 2000) (hS : SrcAt W b A n cap p) (hb : Only b (b + 1) w W) =>
    srcPick_any b n cap p A bs m h0 (by omega) hn (by omega) hbs W hS (hBB W (hb.below (Nat.le_of_lt hblt))) hA
  have Hpk := Lib.hid hpk; clear hpk hbs hBB
  have a1 := HasArr.zero w 28 (b := w.heap.size) rfl
  have a2 := HasArr.zero (w.alloc (.cells #[.int .i16 0, .int .i16 0, .int .i16 0, .int .i16 0, .int .i16 0, .int .i16 0, .int .i16 0, .int .i16 0, .int .i16 0, .int .i16 0, .int .i16 0, .int .i16 0, .int .i16 0, .int .i16 0, .int .i16 0, .int .i16 0, .int .i16 0, .int .i16 0, .int .i16 0, .int .i16 0, .int .i16 0, .int .i16 0, .int .i16 0, .int .i16 0, .int .i16 0, .int .i16 0, .int .i16 0, .int .i16 0, .int .i16 0, .int .i16 0, .int .i16 0, .int .i16 0, .int .i16 0, .int .i16 0, .int .i16 0, .int .i16 0, .int .i16 0, .int .i16 0, .int .i16 0, .int .i16 0, .int .i16 0, .int .i16 0, .int .i16 0, .int .i16 0, .int .i16 0, .int .i16 0, .int .i16 0, .int .i16 0, .int .i16 0, .int .i16 0, .int .i16 0, .int .i16 0, .int .i16 0, .int .i16 0, .int .i16 0, .int .i16 0, .int .i16 0, .int .i16 0, .int .i16 0, .int .i16 0, .int .i16 0, .int .i16 0, .int .i16 0, .int .i16 0] 28)) 28 (b := w.heap.size + 1) (by simp)
  have k2 : Only b (b + 1) w ((w.alloc (.cells #[.int .i16 0, .int .i16 0, .int .i16 0, .int .i16 0, .int .i16 0, .int .i16 0, .int .i16 0, .int .i16 0, .int .i16 0, .int .i16 0, .int .i16 0, .int .i16 0, .int .i16 0, .int .i16 0, .int .i16 0, .int .i16 0, .int .i16 0, .int .i16 0, .int .i16 0, .int .i16 0, .int .i16 0, .int .i16 0, .int .i16 0, .int .i16 0, .int .i16 0, .int .i16 0, .int .i16 0, .int .i16 0, .int .i16 0, .int .i16 0, .int .i16 0, .int .i16 0, .int .i16 0, .int .i16 0, .int .i16 0, .int .i16 0, .int .i16 0, .int .i16 0, .int .i16 0, .int .i16 0, .int .i16 0, .int .i16 0, .int .i16 0, .int .i16 0, .int .i16 0, .int .i16 0, .int .i16 0, .int .i16 0, .int .i16 0, .int .i16 0, .int .i16 0, .int .i16 0, .int .i16 0, .int .i16 0, .int .i16 0, .int .i16 0, .int .i16 0, .int .i16 0, .int .i16 0, .int .i16 0, .int .i16 0, .int .i16 0, .int .i16 0, .int .i16 0] 28)).alloc (.cells #[.int .i16 0, .int .i16 0, .int .i16 0, .int .i16 0, .int .i16 0, .int .i16 0, .int .i16 0, .int .i16 0, .int .i16 0, .int .i16 0, .int .i16 0, .int .i16 0, .int .i16 0, .int .i16 0, .int .i16 0, .int .i16 0, .int .i16 0, .int .i16 0, .int .i16 0, .int .i16 0, .int .i16 0, .int .i16 0, .int .i16 0, .int .i16 0, .int .i16 0, .int .i16 0, .int .i16 0, .int .i16 0, .int .i16 0, .int .i16 0, .int .i16 0, .int .i16 0, .int .i16 0, .int .i16 0, .int .i16 0, .int .i16 0, .int .i16 0, .int .i16 0, .int .i16 0, .int .i16 0, .int .i16 0, .int .i16 0, .int .i16 0, .int .i16 0, .int .i16 0, .int .i16 0, .int .i16 0, .int .i16 0, .int .i16 0, .int .i16 0, .int .i16 0, .int .i16 0, .int .i16 0, .int .i16 0, .int .i16 0, .int .i16 0, .int .i16 0, .int .i16 0, .int .i16 0, .int .i16 0, .int .i16 0, .int .i16 0, .int .i16 0, .int .i16 0] 28)) := ((Only.refl _ _ _).alloc _).alloc _
  have s2 := (hS0.below (((Below.refl w.heap.size w).alloc (Nat.le_refl _) (.cells #[.int .i16 0, .int .i16 0, .int .i16 0, .int .i16 0, .int .i16 0, .int .i16 0, .int .i16 0, .int .i16 0, .int .i16 0, .int .i16 0, .int .i16 0, .int .i16 0, .int .i16 0, .int .i16 0, .int .i16 0, .int .i16 0, .int .i16 0, .int .i16 0, .int .i16 0, .int .i16 0, .int .i16 0, .int .i16 0, .int .i16 0, .int .i16 0, .int .i16 0, .int .i16 0, .int .i16 0, .int .i16 0, .int .i16 0, .int .i16 0, .int .i16 0, .int .i16 0, .int .i16 0, .int .i16 0, .int .i16 0, .int .i16 0, .int .i16 0, .int .i16 0, .int .i16 0, .int .i16 0, .int .i16 0, .int .i16 0, .int .i16 0, .int .i16 0, .int .i16 0, .int .i16 0, .int .i16 0, .int .i16 0, .int .i16 0, .int .i16 0, .int .i16 0, .int .i16 0, .int .i16 0, .int .i16 0, .int .i16 0, .int .i16 0, .int .i16 0, .int .i16 0, .int .i16 0, .int .i16 0, .int .i16 0, .int .i16 0, .int .i16 0, .int .i16 0] 28)).alloc (by simp) (.cells #[.int .i16 0, .int .i16 0, .int .i16 0, .int .i16 0, .int .i16 0, .int .i16 0, .int .i16 0, .int .i16 0, .int .i16 0, .int .i16 0, .int .i16 0, .int .i16 0, .int .i16 0, .int .i16 0, .int .i16 0, .int .i16 0, .int .i16 0, .int .i16 0, .int .i16 0, .int .i16 0, .int .i16 0, .int .i16 0, .int .i16 0, .int .i16 0, .int .i16 0, .int .i16 0, .int .i16 0, .int .i16 0, .int .i16 0, .int .i16 0, .int .i16 0, .int .i16 0, .int .i16 0, .int .i16 0, .int .i16 0, .int .i16 0, .int .i16 0, .int .i16 0, .int .i16 0, .int .i16 0, .int .i16 0, .int .i16 0, .int .i16 0, .int .i16 0, .int .i16 0, .int .i16 0, .int .i16 0, .int .i16 0, .int .i16 0, .int .i16 0, .int .i16 0, .int .i16 0, .int .i16 0, .int .i16 0, .int .i16 0, .int .i16 0, .int .i16 0, .int .i16 0, .int .i16 0, .int .i16 0, .int .i16 0, .int .i16 0, .int .i16 0, .int .i16 0] 28)) hblt)
  -- behind the first store
  have b1 := (a1.alloc (.cells #[.int .i16 0, .int .i16 0, .int .i16 0, .int .i16 0, .int .i16 0, .int .i16 0, .int .i16 0, .int .i16 0, .int .i16 0, .int .i16 0, .int .i16 0, .int .i16 0, .int .i16 0, .int .i16 0, .int .i16 0, .int .i16 0, .int .i16 0, .int .i16 0, .int .i16 0, .int .i16 0, .int .i16 0, .int .i16 0, .int .i16 0, .int .i16 0, .int .i16 0, .int .i16 0, .int .i16 0, .int .i16 0, .int .i16 0, .int .i16 0, .int .i16 0, .int .i16 0, .int .i16 0, .int .i16 0, .int .i16 0, .int .i16 0, .int .i16 0, .int .i16 0, .int .i16 0, .int .i16 0, .int .i16 0, .int .i16 0, .int .i16 0, .int .i16 0, .int .i16 0, .int .i16 0, .int .i16 0, .int .i16 0, .int .i16 0, .int .i16 0, .int .i16 0, .int .i16 0, .int .i16 0, .int .i16 0, .int .i16 0, .int .i16 0, .int .i16 0, .int .i16 0, .int .i16 0, .int .i16 0, .int .i16 0, .int .i16 0, .int .i16 0, .int .i16 0] 28)).rowOther (b' := w.heap.size + 1) (by omega) (arrV .i16 64 fun _ => 0)
  have b2 := a2.setRow .i16 fun _ => 0
  have kB := k2.setRowNew (b := w.heap.size + 1) (by omega) (arrV .i16 64 fun _ => 0)
  have sB := s2.below (below_setRow (Below.refl (w.heap.size + 1) _) (b := w.heap.size + 1) (Nat.le_refl _) (arrV .i16 64 fun _ => 0)) (by omega)
  have hz1 : (((w.alloc (.cells #[.int .i16 0, .int .i16 0, .int .i16 0, .int .i16 0, .int .i16 0, .int .i16 0, .int .i16 0, .int .i16 0, .int .i16 0, .int .i16 0, .int .i16 0, .int .i16 0, .int .i16 0, .int .i16 0, .int .i16 0, .int .i16 0, .int .i16 0, .int .i16 0, .int .i16 0, .int .i16 0, .int .i16 0, .int .i16 0, .int .i16 0, .int .i16 0, .int .i16 0, .int .i16 0, .int .i16 0, .int .i16 0, .int .i16 0, .int .i16 0, .int .i16 0, .int .i16 0, .int .i16 0, .int .i16 0, .int .i16 0, .int .i16 0, .int .i16 0, .int .i16 0, .int .i16 0, .int .i16 0, .int .i16 0, .int .i16 0, .int .i16 0, .int .i16 0, .int .i16 0, .int .i16 0, .int .i16 0, .int .i16 0, .int .i16 0, .int .i16 0, .int .i16 0, .int .i16 0, .int .i16 0, .int .i16 0, .int .i16 0, .int .i16 0, .int .i16 0, .int .i16 0, .int .i16 0, .int .i16 0, .int .i16 0, .int .i16 0, .int .i16 0, .int .i16 0] 28)).alloc (.cells #[.int .i16 0, .int .i16 0, .int .i16 0, .int .i16 0, .int .i16 0, .int .i16 0, .int .i16 0, .int .i16 0, .int .i16 0, .int .i16 0, .int .i16 0, .int .i16 0, .int .i16 0, .int .i16 0, .int .i16 0, .int .i16 0, .int .i16 0, .int .i16 0, .int .i16 0, .int .i16 0, .int .i16 0, .int .i16 0, .int .i16 0, .int .i16 0, .int .i16 0, .int .i16 0, .int .i16 0, .int .i16 0, .int .i16 0, .int .i16 0, .int .i16 0, .int .i16 0, .int .i16 0, .int .i16 0, .int .i16 0, .int .i16 0, .int .i16 0, .int .i16 0, .int .i16 0, .int .i16 0, .int .i16 0, .int .i16 0, .int .i16 0, .int .i16 0, .int .i16 0, .int .i16 0, .int .i16 0, .int .i16 0, .int .i16 0, .int .i16 0, .int .i16 0, .int .i16 0, .int .i16 0, .int .i16 0, .int .i16 0, .int .i16 0, .int .i16 0, .int .i16 0, .int .i16 0, .int .i16 0, .int .i16 0, .int .i16 0, .int .i16 0, .int .i16 0] 28)).setRow (w.heap.size + 1) (arrV .i16 64 fun _ => 0)).heap.size = w.heap.size + 1 + 1 := by simp
  have a3 := HasArr.zero4 (((w.alloc (.cells #[.int .i16 0, .int .i16 0, .int .i16 0, .int .i16 0, .int .i16 0, .int .i16 0, .int .i16 0, .int .i16 0, .int .i16 0, .int .i16 0, .int .i16 0, .int .i16 0, .int .i16 0, .int .i16 0, .int .i16 0, .int .i16 0, .int .i16 0, .int .i16 0, .int .i16 0, .int .i16 0, .int .i16 0, .int .i16 0, .int .i16 0, .int .i16 0, .int .i16 0, .int .i16 0, .int .i16 0, .int .i16 0, .int .i16 0, .int .i16 0, .int .i16 0, .int .i16 0, .int .i16 0, .int .i16 0, .int .i16 0, .int .i16 0, .int .i16 0, .int .i16 0, .int .i16 0, .int .i16 0, .int .i16 0, .int .i16 0, .int .i16 0, .int .i16 0, .int .i16 0, .int .i16 0, .int .i16 0, .int .i16 0, .int .i16 0, .int .i16 0, .int .i16 0, .int .i16 0, .int .i16 0, .int .i16 0, .int .i16 0, .int .i16 0, .int .i16 0, .int .i16 0, .int .i16 0, .int .i16 0, .int .i16 0, .int .i16 0, .int .i16 0, .int .i16 0] 28)).alloc (.cells #[.int .i16 0, .int .i16 0, .int .i16 0, .int .i16 0, .int .i16 0, .int .i16 0, .int .i16 0, .int .i16 0, .int .i16 0, .int .i16 0, .int .i16 0, .int .i16 0, .int .i16 0, .int .i16 0, .int .i16 0, .int .i16 0, .int .i16 0, .int .i16 0, .int .i16 0, .int .i16 0, .int .i16 0, .int .i16 0, .int .i16 0, .int .i16 0, .int .i16 0, .int .i16 0, .int .i16 0, .int .i16 0, .int .i16 0, .int .i16 0, .int .i16 0, .int .i16 0, .int .i16 0, .int .i16 0, .int .i16 0, .int .i16 0, .int .i16 0, .int .i16 0, .int .i16 0, .int .i16 0, .int .i16 0, .int .i16 0, .int .i16 0, .int .i16 0, .int .i16 0, .int .i16 0, .int .i16 0, .int .i16 0, .int .i16 0, .int .i16 0, .int .i16 0, .int .i16 0, .int .i16 0, .int .i16 0, .int .i16 0, .int .i16 0, .int .i16 0, .int .i16 0, .int .i16 0, .int .i16 0, .int .i16 0, .int .i16 0, .int .i16 0, .int .i16 0] 28)).setRow (w.heap.size + 1) (arrV .i16 64 fun _ => 0)) 82 (b := w.heap.size + 1 + 1) hz1.symm
  have c1 := (b1.alloc (.cells #[.int .i16 0, .int .i16 0, .int .i16 0, .int .i16 0] 82)).rowOther (b' := w.heap.size + 1 + 1) (by omega) (arrV .i16 4 fun _ => 0)
  have c2 := (b2.alloc (.cells #[.int .i16 0, .int .i16 0, .int .i16 0, .int .i16 0] 82)).rowOther (b' := w.heap.size + 1 + 1) (by omega) (arrV .i16 4 fun _ => 0)
  have c3 := a3.setRow .i16 fun _ => 0
  have kC := (kB.alloc (.cells #[.int .i16 0, .int .i16 0, .int .i16 0, .int .i16 0] 82)).setRowNew (b := w.heap.size + 1 + 1) (by omega) (arrV .i16 4 fun _ => 0)
  have sC := sB.below (below_setRow ((Below.refl (b + 1) (((w.alloc (.cells #[.int .i16 0, .int .i16 0, .int .i16 0, .int .i16 0, .int .i16 0, .int .i16 0, .int .i16 0, .int .i16 0, .int .i16 0, .int .i16 0, .int .i16 0, .int .i16 0, .int .i16 0, .int .i16 0, .int .i16 0, .int .i16 0, .int .i16 0, .int .i16 0, .int .i16 0, .int .i16 0, .int .i16 0, .int .i16 0, .int .i16 0, .int .i16 0, .int .i16 0, .int .i16 0, .int .i16 0, .int .i16 0, .int .i16 0, .int .i16 0, .int .i16 0, .int .i16 0, .int .i16 0, .int .i16 0, .int .i16 0, .int .i16 0, .int .i16 0, .int .i16 0, .int .i16 0, .int .i16 0, .int .i16 0, .int .i16 0, .int .i16 0, .int .i16 0, .int .i16 0, .int .i16 0, .int .i16 0, .int .i16 0, .int .i16 0, .int .i16 0, .int .i16 0, .int .i16 0, .int .i16 0, .int .i16 0, .int .i16 0, .int .i16 0, .int .i16 0, .int .i16 0, .int .i16 0, .int .i16 0, .int .i16 0, .int .i16 0, .int .i16 0, .int .i16 0] 28)).alloc (.cells #[.int .i16 0, .int .i16 0, .int .i16 0, .int .i16 0, .int .i16 0, .int .i16 0, .int .i16 0, .int .i16 0, .int .i16 0, .int .i16 0, .int .i16 0, .int .i16 0, .int .i16 0, .int .i16 0, .int .i16 0, .int .i16 0, .int .i16 0, .int .i16 0, .int .i16 0, .int .i16 0, .int .i16 0, .int .i16 0, .int .i16 0, .int .i16 0, .int .i16 0, .int .i16 0, .int .i16 0, .int .i16 0, .int .i16 0, .int .i16 0, .int .i16 0, .int .i16 0, .int .i16 0, .int .i16 0, .int .i16 0, .int .i16 0, .int .i16 0, .int .i16 0, .int .i16 0, .int .i16 0, .int .i16 0, .int .i16 0, .int .i16 0, .int .i16 0, .int .i16 0, .int .i16 0, .int .i16 0, .int .i16 0, .int .i16 0, .int .i16 0, .int .i16 0, .int .i16 0, .int .i16 0, .int .i16 0, .int .i16 0, .int .i16 0, .int .i16 0, .int .i16 0, .int .i16 0, .int .i16 0, .int .i16 0, .int .i16 0, .int .i16 0, .int .i16 0] 28)).setRow (w.heap.size + 1) (arrV .i16 64 fun _ => 0))).alloc (by omega) (.cells #[.int .i16 0, .int .i16 0, .int .i16 0, .int .i16 0] 82)) (b := w.heap.size + 1 + 1) (by omega) (arrV .i16 4 fun _ => 0)) (by omega)
  have K0 := Lib.hid (And.intro c1 (And.intro c2 (And.intro c3 (And.intro sC kC))))
  clear b1 b2 kB sB c1 c2 c3 kC sC k2 s2 a1 hS0 hB
  clear hz1
  go_enter Tryz.func23, Tryz.ntmps23
  go_wp2_with (first | (refine wpList_store_z64 a2 _ _ _ rfl rfl rfl rfl sizeA64 ?_) | (refine wpList_store_z4 a3 _ _ _ rfl rfl rfl rfl sizeA4 ?_))
  clear a2 a3
  go_loopw [5] (fun i wr => ∃ (k : Nat) (pf : Nat → Int) (q : Nat), k ≤ 4 ∧ i = .int .i64 (k : Int) ∧ Dn 4 pf ∧ q ≤ p + 2 * k ∧ HasArr wr w.heap.size 28 .i16 64 (fun _ => 0) ∧ HasArr wr (w.heap.size + 1) 28 .i16 64 (fun _ => 0) ∧ HasArr wr (w.heap.size + 1 + 1) 82 .i16 4 pf ∧ SrcAt wr b A n cap q ∧ Only b (b + 1) w wr) (fun i _ => 4 - (intOf i).toNat)
  case atStart => exact ⟨0, fun _ => 0, p, by omega, rfl, Dn.zero 4, by omega, K0.out⟩
  case round =>
    obtain ⟨k, pf, q, hk, rfl, hpf, hq, h1, h2, h3, hS, hBw⟩ := hrel
    clear K0
    have Hpf := Lib.hid hpf; clear hpf
    by_cases hkn : k < 4
    · go_wp2_with fail
      refine (Hpk.out _ 256 q (by omega) (by omega) (by omega) hS hBw).mono ?_; rintro e w2 ⟨r, q2, rfl, hr, _, hq2, s2, ho2⟩
      have hr := hr.lt (by omega)
      have kB := hBw.trans ho2
      have g1 := h1.only ho2 (by omega)
      have g2 := h2.only ho2 (by omega)
      have g3 := h3.only ho2 (by omega)
      clear h1 h2 h3 hS hBw ho2
      have c3 := g3.cell hkn
      have f3 := g3.free k
      have i1 : IntKind.i16.wrap r = r := IntWalk.i16_in _ (by omega)
      have e1 := g1.other (a := ⟨w.heap.size + 1 + 1, k, none⟩) (by first | (simp; done) | (simp; omega)) (.int .i16 r)
      have e2 := g2.other (a := ⟨w.heap.size + 1 + 1, k, none⟩) (by first | (simp; done) | (simp; omega)) (.int .i16 r)
      have e3 := g3.set k r
      have es := s2.below ((Below.refl (b + 1) w2).setCell (p := ⟨w.heap.size + 1 + 1, k, none⟩) (by first | (simp; done) | (simp; omega)) (.int .i16 r)) (by omega)
      have eB := kB.setNew (p := ⟨w.heap.size + 1 + 1, k, none⟩) (by first | (simp; done) | (simp; omega)) (.int .i16 r)
      have K := Lib.hid (And.intro e1 (And.intro e2 (And.intro e3 (And.intro es eB))))
      clear e1 e2 e3 es eB g1 g2 g3 s2 kB
      go_wp2_with fail
      go_roundw
      case rel => exact ⟨k + 1, upd pf k r, q2, by omega, by go_num, Hpf.out.upd k (by omega) (by omega), by omega, K.out⟩
      case measure => simp [intOf]; omega
    obtain rfl : k = 4 := by omega
    have K1 := Lib.hid (And.intro h1 (And.intro h2 (And.intro h3 (And.intro hS hBw))))
    clear h1 h2 h3 hS hBw
    go_wp2_with fail
    go_loopw [6] (fun i wr => ∃ (k : Nat) (g : Nat → Int), k ≤ 64 ∧ i = .int .i64 (k : Int) ∧ Dn 64 g ∧ HasArr wr w.heap.size 28 .i16 64 (fun _ => 0) ∧ HasArr wr (w.heap.size + 1) 28 .i16 64 g ∧ HasArr wr (w.heap.size + 1 + 1) 82 .i16 4 pf ∧ SrcAt wr b A n cap q ∧ Only b (b + 1) w wr) (fun i _ => 64 - (intOf i).toNat)
    case atStart => exact ⟨0, fun _ => 0, by omega, rfl, Dn.zero 64, K1.out⟩
    case round =>
      obtain ⟨k, g, hk, rfl, hg, h1, h2, h3, hS, hBw⟩ := hrel
      clear K1
      have Hg := Lib.hid hg; clear hg
      by_cases hkn : k < 64
      · have hlt : k % 8 / 4 + k / 32 * 2 < 4 := by omega
        have c3 := h3.cell hlt
        have c2 := h2.cell hkn
        have f2 := h2.free k
        have hb := Hpf.out _ hlt
        generalize pf (k % 8 / 4 + k / 32 * 2) = r at *
        have e1 := h1.other (a := ⟨w.heap.size + 1, k, none⟩) (by first | (simp; done) | (simp; omega)) (.int .i16 r)
        have e3 := h3.other (a := ⟨w.heap.size + 1, k, none⟩) (by first | (simp; done) | (simp; omega)) (.int .i16 r)
        have e2 := h2.set k r
        have es := hS.below ((Below.refl (b + 1) wr).setCell (p := ⟨w.heap.size + 1, k, none⟩) (by first | (simp; done) | (simp; omega)) (.int .i16 r)) (by omega)
        have eB := hBw.setNew (p := ⟨w.heap.size + 1, k, none⟩) (by first | (simp; done) | (simp; omega)) (.int .i16 r)
        have K := Lib.hid (And.intro e1 (And.intro e2 (And.intro e3 (And.intro es eB))))
        clear e1 e2 e3 es eB h1 h2 h3 hS hBw
        go_wp2_with fail
        go_roundw
        case rel => exact ⟨k + 1, upd g k r, by omega, by go_num, Hg.out.upd k (by omega) (by omega), K.out⟩
        case measure => simp [intOf]; omega
      obtain rfl : k = 64 := by omega
      clear h3
      go_wp2_with fail
      refine (Hpk.out _ 4 q (by omega) (by omega) (by omega) hS hBw).mono ?_; rintro e w2 ⟨K, q2, rfl, hK, _, hq2, s2, ho2⟩
      have hK := hK.lt (by omega)
      have kB := hBw.trans ho2
      have K2 := Lib.hid (And.intro (h1.only ho2 (by omega)) (And.intro (h2.only ho2 (by omega)) (And.intro s2 kB)))
      clear h1 h2 hS hBw ho2 s2 kB
      go_wp2_with fail
      go_loopw [7] (fun kk wr => ∃ (j : Nat) (g : Nat → Int) (q : Nat), (j : Int) ≤ K ∧ kk = .int .i64 (K - j) ∧ Dn 64 g ∧ q ≤ p + 12 + 4 * j ∧ HasArr wr w.heap.size 28 .i16 64 (fun _ => 0) ∧ HasArr wr (w.heap.size + 1) 28 .i16 64 g ∧ SrcAt wr b A n cap q ∧ Only b (b + 1) w wr) (fun kk _ => (intOf kk).toNat)
      case atStart => exact ⟨0, g, q2, by omega, by simp, Hg.out, by omega, K2.out⟩
      case round =>
        clear Hg K2
        obtain ⟨j, g, q, hj, rfl, hg, hq, h1, h2, hS, hBw⟩ := hrel
        have Hg := Lib.hid hg; clear hg
        by_cases hc : (0 : Int) < K - j
        · go_wp2_with fail
          refine (Hpk.out _ 64 q (by omega) (by omega) (by omega) hS hBw).mono ?_; rintro e w3 ⟨i, q3, rfl, hi, _, hq3, s3, ho3⟩
          have hi := hi.lt (by omega)
          obtain ⟨I, rfl⟩ : ∃ I : Nat, i = (I : Int) := ⟨i.toNat, by omega⟩
          have k3 := hBw.trans ho3
          have g1 := h1.only ho3 (by omega)
          have g2 := h2.only ho3 (by omega)
          clear h1 h2 hS hBw ho3
          go_wp2_with fail
          refine (Hpk.out _ 401 q3 (by omega) (by omega) (by omega) s3 k3).mono ?_; rintro e w4 ⟨r, q4, rfl, hr, _, hq4, s4, ho4⟩
          have hr := hr.lt (by omega)
          have k4 := k3.trans ho4
          have j1 := g1.only ho4 (by omega)
          have j2 := g2.only ho4 (by omega)
          clear g1 g2 s3 k3 ho4
          have hI : I < 64 := by omega
          have c2 := j2.cell hI
          have f2 := j2.free I
          have i1 : IntKind.i16.wrap r = r := IntWalk.i16_in _ (by omega)
          have e1 := j1.other (a := ⟨w.heap.size + 1, I, none⟩) (by first | (simp; done) | (simp; omega)) (.int .i16 r)
          have e2 := j2.set I r
          have es := s4.below ((Below.refl (b + 1) w4).setCell (p := ⟨w.heap.size + 1, I, none⟩) (by first | (simp; done) | (simp; omega)) (.int .i16 r)) (by omega)
          have eB := k4.setNew (p := ⟨w.heap.size + 1, I, none⟩) (by first | (simp; done) | (simp; omega)) (.int .i16 r)
          have KK := Lib.hid (And.intro e1 (And.intro e2 (And.intro es eB)))
          clear e1 e2 es eB j1 j2 s4 k4
          go_wp2_with fail
          go_roundw
          case rel => exact ⟨j + 1, upd g I r, q4, by omega, congrArg (Value.int .i64) (by omega), Hg.out.upd I (by omega) (by omega), by omega, KK.out⟩
          case measure => simp [intOf]; omega
        · have h1' := h1.setRow .i16 g
          have hB' := hBw.setRowNew (b := w.heap.size) (by omega) (arrV .i16 64 g)
          have hS' := hS.below (below_setRow (Below.refl (b + 1) wr) (b := w.heap.size) (by omega) (arrV .i16 64 g)) (by omega)
          go_wp2_with (first | (refine wpList_load_arr h2 _ _ rfl rfl rfl Tryz.underlying28 sizeA64 ?_) | (refine wpList_store_arr h1 _ _ _ rfl rfl rfl rfl sizeA64 ?_))
          refine bodyPost_ret (v := .agg (arrV .i16 64 g)) ?_ rfl ⟨g, q, rfl, Hg.out, by omega, hS', hB'⟩
          exact results_cell_row rfl _ _ _ _ _ _ _ rfl h1' Tryz.underlying28 rfl (by rw [arrV_size]; exact sizeA64)

/-- A negative that is drawn. -/
def NegDrawn (w : World) (e : Ending) (w' : World) : Prop := ∃ f, e = .returned (.agg (arrV .i16 64 f)) ∧ Dn 64 f ∧ Below w.heap.size w w'

end Go.Proofs.YtmibinfaafhgdaaGreatDoor


namespace Go.Proofs.YtmibinfaafhgdaaGreatDoor
open Go.RowKit

theorem foldl_set_get : ∀ (l : List Value) (k : Nat) (B : Array Value) (j : Nat), j < B.size → ((l.zipIdx k).foldl (fun a x => a.setIfInBounds x.2 x.1) B)[j]? = if k ≤ j ∧ j < k + l.length then l[j - k]? else B[j]?
  | [], k, B, j, hj => by
    rw [if_neg (by first | (simp; done) | (simp; omega))]; rfl
  | v :: l, k, B, j, hj => by
    rw [List.zipIdx_cons, List.foldl_cons, foldl_set_get l (k + 1) _ j (by simpa using hj)]
    by_cases h : k = j
    · subst h
      have h1 : ¬ (k + 1 ≤ k ∧ k < k + 1 + l.length) := by omega
      have h2 : k ≤ k ∧ k < k + (v :: l).length := by simp
      rw [if_neg h1, if_pos h2]
      simp [hj]
    · by_cases h1 : k + 1 ≤ j ∧ j < k + 1 + l.length
      · have h2 : k ≤ j ∧ j < k + (v :: l).length := by simp; omega
        rw [if_pos h1, if_pos h2]
        obtain ⟨d, rfl⟩ : ∃ d, j = k + 1 + d := ⟨j - (k + 1), by omega⟩
        rw [show k + 1 + d - (k + 1) = d by omega, show k + 1 + d - k = d + 1 by omega, List.getElem?_cons_succ]
      · have h2 : ¬ (k ≤ j ∧ j < k + (v :: l).length) := by simp; omega
        rw [if_neg h1, if_neg h2, Array.getElem?_setIfInBounds_ne h]
theorem foldl_set_size : ∀ (l : List (Value × Nat)) (B : Array Value), (l.foldl (fun a x => a.setIfInBounds x.2 x.1) B).size = B.size
  | [], B => rfl
  | x :: l, B => by rw [List.foldl_cons, foldl_set_size l]; simp
theorem foldl_set_all (cs B : Array Value) (h : B.size = cs.size) : cs.zipIdx.foldl (fun a x => a.setIfInBounds x.2 x.1) B = cs := by
  have e : cs.zipIdx.foldl (fun a x => a.setIfInBounds x.2 x.1) B = (cs.toList.zipIdx 0).foldl (fun a x => a.setIfInBounds x.2 x.1) B := by
    rw [← Array.foldl_toList, Array.toList_zipIdx]
  rw [e]
  apply Array.ext_getElem?
  intro j
  by_cases hj : j < B.size
  · rw [foldl_set_get _ 0 B j hj, if_pos ⟨Nat.zero_le _, by simp; omega⟩]
    simp
  · rw [Array.getElem?_eq_none (by rw [foldl_set_size]; omega), Array.getElem?_eq_none (by omega)]
theorem foldl_set_upto (cs B : Array Value) (n : Nat) (hn : cs.size = n) (h : B.size = n) : cs.zipIdx.foldl (fun a x => a.setIfInBounds x.2 x.1) B 0 n = cs := by
  have h1 := foldl_set_all cs B (h.trans hn.symm)
  have e : cs.zipIdx.size = n := by simp [hn]
  rw [e] at h1
  exact h1
theorem run_buildSlice_arr {P : Program} {t e : TypeId} {n : Nat} {i : TypeInfo} {z : Value} (ht : P.underlying t = some (.slice e)) (hi : P.info? e = some i) (hs : i.size = n) (hz : i.zero = some z) (hn : 0 < n) (hn2 : n ≤ 16777216) (κ : IntKind) (f : Nat → Int) (w : World) :
    (Instr.buildSlice t 1 #[(0, .agg (arrV κ n f))]).run P w = .ok (.slice (some ⟨w.heap.size, 0, none⟩) 1 1) (w.alloc (.cells (arrV κ n f) e)) := by
  have h1 : ¬ 16777216 < n := by omega
  have h2 : ¬ n = 0 := by omega
  have h3 := foldl_set_upto (arrV κ n f) (Array.map (fun x => z.cells[x % z.cells.size]!) (Array.range n)) n (arrV_size _ _ _) (by simp)
  have h4 : Instr.fill (fun i => some (i * n, n)) (Array.map (fun x => z.cells[x % z.cells.size]!) (Array.range n)) [(0, Value.agg (arrV κ n f))] = some (arrV κ n f) := by
    simp [Instr.fill, Value.cells, arrV_size]
    exact h3
  simp [Instr.buildSlice, run_underlying ht, sizeOf, typeInfo, hi, hs, hz, zeroValue, h1, h2, newRow, h4]

theorem arrV_oneL (κ : IntKind) (n : Nat) (f : Nat → Int) (u : Value) (hu : u ∈ (arrV κ n f).toList) : u.oneCell' = true := by
  obtain ⟨k, hk, e⟩ := List.mem_iff_getElem.1 hu
  have hk' : k < n := by simpa [arrV_size] using hk
  have h2 := arrV_get (κ := κ) (f := f) hk'
  rw [Array.getElem?_eq_getElem (by rw [arrV_size]; exact hk')] at h2
  rw [← e, Array.getElem_toList, Option.some.inj h2]
  rfl
theorem wpList_buildSlice_arr {P : Program} {ops : Array Oper} {rest : List Oper} {o : Oper} {a : Act} {w : World} {Q : Exit → Act → World → Prop} {t e : TypeId} {n : Nat} {i : TypeInfo} {z : Value} {κ : IntKind} {f : Nat → Int} (x : Operand) (hgd : o.guard = none) (ho : o.op = .buildSlice t 1 #[(0, x)]) (hx : a.eval x = .agg (arrV κ n f))
    (ht : P.underlying t = some (.slice e)) (hi : P.info? e = some i) (hs : i.size = n) (hz : i.zero = some z) (hn : 0 < n) (hn2 : n ≤ 16777216)
    (hK : wpList P ops Q rest (a.put o.dst (.slice (some ⟨w.heap.size, 0, none⟩) 1 1)) (w.alloc (.cells (arrV κ n f) e))) : wpList P ops Q (o :: rest) a w :=
  wpList_plain hgd fun K hK' => by
    have h : (execOp a.eval o).run P w = .ok (.value (.slice (some ⟨w.heap.size, 0, none⟩) 1 1)) (w.alloc (.cells (arrV κ n f) e)) := by
      unfold execOp
      simp only [ho, List.map_toArray, List.map_cons, List.map_nil, hx, Sem.run_bind, run_buildSlice_arr ht hi hs hz hn hn2 κ f w, Result.andThen_ok, Sem.run_pure]
    unfold Oper.wp
    rw [h]
    exact hK' _ _ hK
theorem infoPrint : (Tryz.prog.info? 29).map (fun i => (i.zero, i.size, i.bytes)) = some (some (.agg #[.int .i16 0, .int .i16 0, .int .i16 0, .int .i16 0, .int .i16 0, .int .i16 0, .int .i16 0, .int .i16 0, .int .i16 0, .int .i16 0, .int .i16 0, .int .i16 0, .int .i16 0, .int .i16 0, .int .i16 0, .int .i16 0, .int .i16 0, .int .i16 0, .int .i16 0, .int .i16 0, .int .i16 0, .int .i16 0, .int .i16 0, .int .i16 0, .int .i16 0, .int .i16 0, .int .i16 0, .int .i16 0, .int .i16 0, .int .i16 0, .int .i16 0, .int .i16 0, .int .i16 0, .int .i16 0, .int .i16 0, .int .i16 0, .int .i16 0, .int .i16 0, .int .i16 0, .int .i16 0, .int .i16 0, .int .i16 0, .int .i16 0, .int .i16 0, .int .i16 0, .int .i16 0, .int .i16 0, .int .i16 0, .int .i16 0, .int .i16 0, .int .i16 0, .int .i16 0, .int .i16 0, .int .i16 0, .int .i16 0, .int .i16 0, .int .i16 0, .int .i16 0, .int .i16 0, .int .i16 0, .int .i16 0, .int .i16 0, .int .i16 0, .int .i16 0]), 64, 128) := by kernel_rfl
/-- All of these are densities. -/
def DnL (l : List Value) : Prop := ∀ u ∈ l, ∃ x : Int, u = .int .i16 x ∧ 0 ≤ x ∧ x ≤ 400
theorem DnL.nil : DnL [] := fun u h => by cases h
theorem DnL.app {l m : List Value} (h : DnL l) (h' : DnL m) : DnL (l ++ m) := fun u hu => (List.mem_append.1 hu).elim (h u) (h' u)
theorem DnL.arr {f : Nat → Int} (h : Dn 64 f) : DnL (arrV .i16 64 f).toList := fun u hu => by
  obtain ⟨k, hk, e⟩ := List.mem_iff_getElem.1 hu
  have hk' : k < 64 := by simpa [arrV_size] using hk
  have h2 := arrV_get (κ := .i16) (f := f) hk'
  have h3 : (arrV .i16 64 f)[k]? = some u := by
    rw [Array.getElem?_eq_getElem (by rw [arrV_size]; exact hk'), ← e, Array.getElem_toList]
  rw [h2] at h3
  exact ⟨f k, (Option.some.inj h3).symm, h k hk'⟩
/-- Block g begins with n cells that are densities. -/
def DnRow (w : World) (g n : Nat) : Prop := g < w.heap.size ∧ ∃ f, Dn n f ∧ ∀ j, j < n → w.cell? ⟨g, j, none⟩ = some (.int .i16 (f j))
theorem own_dn {w : World} {L k : Nat} {v : Value} {xs : List Value} (h : w.ownsRow L 29 64 v k xs) (hd : DnL xs) (hk : 0 < k) :
    ∃ g cap, v = .slice (some ⟨g, 0, none⟩) k cap ∧ L ≤ g ∧ DnRow w g (64 * k) := by
  obtain ⟨hl, h⟩ := h
  rcases h with ⟨_, h0⟩ | ⟨b, cap, cur, rfl, hb, hh, hn', hm, hs, ht⟩
  · subst h0; simp at hl; omega
  · have hr : w.rowIs b 29 (cap * 64) (fun j => cur[j]?.getD undef) := ⟨cur, hh, hs, fun i hi => by simp [hs, hi]⟩
    have key : ∀ j, j < 64 * k → ∃ x : Int, cur[j]?.getD undef = .int .i16 x ∧ 0 ≤ x ∧ x ≤ 400 := fun j hj => by
      have hx : xs[j]? = some (xs[j]'(by omega)) := List.getElem?_eq_getElem (by omega)
      obtain ⟨x, e, h0, h1⟩ := hd _ (List.getElem_mem (by omega : j < xs.length))
      rw [e, ← ht, List.getElem?_take, if_pos (by omega)] at hx
      refine ⟨x, ?_, h0, h1⟩
      rw [show cur[j]?.getD undef = cur.toList[j]?.getD undef by simp, hx]; rfl
    refine ⟨b, cap, rfl, hb, hr.lt, fun j => match cur[j]?.getD undef with | .int _ x => x | _ => 0, fun j hj => ?_, fun j hj => ?_⟩
    · obtain ⟨x, e, h0, h1⟩ := key j hj
      simp only [e]; exact ⟨h0, h1⟩
    · obtain ⟨x, e, h0, h1⟩ := key j hj
      rw [hr.cell (by have := Nat.mul_le_mul_right 64 hn'; omega), e]
      simp only [e]

/-- The copies. -/
def CopiesOut (w : World) (e : Ending) (w' : World) : Prop := ∃ g k cap, e = .returned (.slice (some ⟨g, 0, none⟩) k cap) ∧ 1 ≤ k ∧ k ≤ 5 ∧ w.heap.size ≤ g ∧ DnRow w' g (64 * k) ∧ Below w.heap.size w w'
theorem own_keepP {w w' : World} {L k : Nat} {v : Value} {xs : List Value} (h : w.ownsRow L 29 64 v k xs) (hb : ∀ g, L ≤ g → g < w.heap.size → w'.heap[g]? = w.heap[g]?) : w'.ownsRow L 29 64 v k xs := by
  obtain ⟨hl, h⟩ := h
  refine ⟨hl, ?_⟩
  rcases h with h | ⟨b, cap, cur, e, hbL, hh, hr⟩
  · exact .inl h
  · exact .inr ⟨b, cap, cur, e, hbL, (hb b hbL (Array.getElem?_eq_some_iff.1 hh).1).trans hh, hr⟩
theorem own_onlyP {w w' : World} {L k : Nat} {v : Value} {xs : List Value} {b : Nat} (h : w.ownsRow L 29 64 v k xs) (ho : Only b (b + 1) w w') (hb : b < L) : w'.ownsRow L 29 64 v k xs :=
  own_keepP h fun g hg hl => ho.block g hl (.inr (by omega))

set_option maxRecDepth 100000 in
set_option maxHeartbeats 4000000 in
theorem P6Copies_any (A : Option Addr) (n cap : Nat) (bs : Nat → Int) (hn : n ≤ 1048576) (hbs : ∀ j, j < n → 0 ≤ bs j ∧ bs j ≤ 255) (w : World) (hB : BytesIn w A n bs) :
    Calls Tryz.prog 5 #[.slice A n cap] w (CopiesOut w) := by
  obtain ⟨i0, hi, hz0, hz1, hz2⟩ := info_parts infoPrint
  have HZ := Lib.hid (And.intro hi (And.intro hz0 (And.intro hz1 hz2)))
  clear hi hz0 hz1 hz2
  have hA := hB.lt
  have hBB : ∀ W, Below w.heap.size w W → BytesIn W A n bs := fun W h => hB.below h (Nat.le_refl _)
  have hpk := fun (W : World) (m : Int) (p : Nat) (h0 : 0 ≤ m) (h1 : m ≤ 1000) (hp : p ≤ 2000) (hS : SrcAt W w.heap.size A n cap p) (hb : Below w.heap.size w W) =>
    srcPick_any w.heap.size n cap p A bs m h0 (by omega) hn (by omega) hbs W hS (hBB W hb) hA
  have hce := fun (W : World) (hS : SrcAt W w.heap.size A n cap 0) (hb : Below w.heap.size w W) =>
    l03Cells_any w.heap.size A n cap 0 bs hn (by omega) hbs W hS (hBB W hb) hA
  have Hpk := Lib.hid hpk; clear hpk
  have Hce := Lib.hid hce; clear hce hbs hBB hB hA
  go_enter Tryz.func5, Tryz.ntmps5
  go_wp2_with fail
  refine (l00From_any _ _ _ _).mono ?_; rintro e w1 ⟨rfl, rfl⟩
  have hs := srcAt_new w A n cap
  have k1 := (Below.refl w.heap.size w).alloc (Nat.le_refl _) (.cells #[.slice A n cap, .int .i64 0, .int .u64 0] 81)
  go_wp2_with fail
  refine (Hce.out _ hs k1).mono ?_; rintro e w2 ⟨f, q0, rfl, hf, hq0, s2, ho2⟩
  have k2 := k1.trans (ho2.below (by simp))
  have z2 : w.heap.size + 1 ≤ w2.heap.size := by have := ho2.size; simp at this; omega
  have a2 := HasArr.zero w2 29 (b := w2.heap.size) rfl
  have b2 := (a2.setRow .i16 f).alloc (.cells #[] 29)
  have k3 := (below_setRow (k2.alloc k2.size (.cells #[.int .i16 0, .int .i16 0, .int .i16 0, .int .i16 0, .int .i16 0, .int .i16 0, .int .i16 0, .int .i16 0, .int .i16 0, .int .i16 0, .int .i16 0, .int .i16 0, .int .i16 0, .int .i16 0, .int .i16 0, .int .i16 0, .int .i16 0, .int .i16 0, .int .i16 0, .int .i16 0, .int .i16 0, .int .i16 0, .int .i16 0, .int .i16 0, .int .i16 0, .int .i16 0, .int .i16 0, .int .i16 0, .int .i16 0, .int .i16 0, .int .i16 0, .int .i16 0, .int .i16 0, .int .i16 0, .int .i16 0, .int .i16 0, .int .i16 0, .int .i16 0, .int .i16 0, .int .i16 0, .int .i16 0, .int .i16 0, .int .i16 0, .int .i16 0, .int .i16 0, .int .i16 0, .int .i16 0, .int .i16 0, .int .i16 0, .int .i16 0, .int .i16 0, .int .i16 0, .int .i16 0, .int .i16 0, .int .i16 0, .int .i16 0, .int .i16 0, .int .i16 0, .int .i16 0, .int .i16 0, .int .i16 0, .int .i16 0, .int .i16 0, .int .i16 0] 29)) (b := w2.heap.size) k2.size (arrV .i16 64 f)).alloc (by simp; omega) (.cells #[] 29)
  have s3 := s2.below (((below_setRow ((Below.refl (w.heap.size + 1) w2).alloc z2 (.cells #[.int .i16 0, .int .i16 0, .int .i16 0, .int .i16 0, .int .i16 0, .int .i16 0, .int .i16 0, .int .i16 0, .int .i16 0, .int .i16 0, .int .i16 0, .int .i16 0, .int .i16 0, .int .i16 0, .int .i16 0, .int .i16 0, .int .i16 0, .int .i16 0, .int .i16 0, .int .i16 0, .int .i16 0, .int .i16 0, .int .i16 0, .int .i16 0, .int .i16 0, .int .i16 0, .int .i16 0, .int .i16 0, .int .i16 0, .int .i16 0, .int .i16 0, .int .i16 0, .int .i16 0, .int .i16 0, .int .i16 0, .int .i16 0, .int .i16 0, .int .i16 0, .int .i16 0, .int .i16 0, .int .i16 0, .int .i16 0, .int .i16 0, .int .i16 0, .int .i16 0, .int .i16 0, .int .i16 0, .int .i16 0, .int .i16 0, .int .i16 0, .int .i16 0, .int .i16 0, .int .i16 0, .int .i16 0, .int .i16 0, .int .i16 0, .int .i16 0, .int .i16 0, .int .i16 0, .int .i16 0, .int .i16 0, .int .i16 0, .int .i16 0, .int .i16 0] 29)) (b := w2.heap.size) z2 (arrV .i16 64 f))).alloc (by simp; omega) (.cells #[] 29)) (by omega)
  have o3 := World.ownsRow_lit (base := w2.heap.size + 1) (e := 29) (size := 64) (((w2.alloc (.cells #[.int .i16 0, .int .i16 0, .int .i16 0, .int .i16 0, .int .i16 0, .int .i16 0, .int .i16 0, .int .i16 0, .int .i16 0, .int .i16 0, .int .i16 0, .int .i16 0, .int .i16 0, .int .i16 0, .int .i16 0, .int .i16 0, .int .i16 0, .int .i16 0, .int .i16 0, .int .i16 0, .int .i16 0, .int .i16 0, .int .i16 0, .int .i16 0, .int .i16 0, .int .i16 0, .int .i16 0, .int .i16 0, .int .i16 0, .int .i16 0, .int .i16 0, .int .i16 0, .int .i16 0, .int .i16 0, .int .i16 0, .int .i16 0, .int .i16 0, .int .i16 0, .int .i16 0, .int .i16 0, .int .i16 0, .int .i16 0, .int .i16 0, .int .i16 0, .int .i16 0, .int .i16 0, .int .i16 0, .int .i16 0, .int .i16 0, .int .i16 0, .int .i16 0, .int .i16 0, .int .i16 0, .int .i16 0, .int .i16 0, .int .i16 0, .int .i16 0, .int .i16 0, .int .i16 0, .int .i16 0, .int .i16 0, .int .i16 0, .int .i16 0, .int .i16 0] 29)).setRow w2.heap.size (arrV .i16 64 f))) #[] 0 (by simp) (Nat.zero_le _) rfl
  clear hs k1 ho2 k2 s2 Hce
  go_wp2_with (refine wpList_store_arr a2 _ _ _ rfl rfl rfl rfl sizePrint ?_)
  refine (Hpk.out _ 5 q0 (by omega) (by omega) (by omega) s3 k3).mono ?_; rintro e w4 ⟨K, q4, rfl, hK, _, hq4, s4, ho4⟩
  have hK := hK.lt (by omega)
  have k4 := k3.trans (ho4.below (by have := k3.size; omega))
  have b4 := b2.only ho4 (by omega)
  have o4 := own_onlyP o3 ho4 (by omega)
  have z4 : w2.heap.size + 1 ≤ w4.heap.size := by have := ho4.size; simp at this; omega
  have ob4 : w4.ownsRow (w2.heap.size + 1) 29 64 (.slice (some ⟨w2.heap.size + 1, 0, none⟩) 0 0) 0 [] := by
    have h := o4
    simp at h
    exact h
  have K4 := Lib.hid (And.intro ob4 (And.intro b4 (And.intro s4 k4)))
  clear o3 o4 ob4 b4 s4 k4 ho4 k3 s3 b2 a2
  go_wp2_with fail
  go_loopw [5, 6] (fun v kk wr => ∃ (j : Nat) (xs : List Value) (q : Nat), (j : Int) ≤ K + 1 ∧ kk = .int .i64 (1 + K - j) ∧ DnL xs ∧ q ≤ 50 + 30 * j ∧ w2.heap.size + 1 ≤ wr.heap.size ∧ wr.ownsRow (w2.heap.size + 1) 29 64 v j xs ∧ HasArr wr w2.heap.size 29 .i16 64 f ∧ SrcAt wr w.heap.size A n cap q ∧ Below w.heap.size w wr) (fun _ kk _ => (intOf kk).toNat)
  case atStart => exact ⟨0, [], q4, by omega, by simp, DnL.nil, by omega, z4, K4.out⟩
  case round =>
    clear K4 z4
    obtain ⟨j, xs, q, hj, rfl, hxs, hq, zr, hown, hP, hS, hBw⟩ := hrel
    obtain ⟨wo, rfl⟩ : ∃ wo : World, wo = wr := ⟨_, rfl⟩
    have Hxs := Lib.hid hxs; clear hxs
    by_cases hc : (0 : Int) < 1 + K - j
    rotate_left
    · have ej : (j : Int) = K + 1 := by omega
      obtain ⟨g, cp, rfl, hg, hd⟩ := own_dn hown Hxs.out (by omega)
      go_wp2_with fail
      go_ret
      exact ⟨g, j, cp, rfl, by omega, by omega, by omega, hd, hBw⟩
    have z1 := HasArr.zero wo 29 (b := wo.heap.size) rfl
    have z2' := z1.setRow .i16 f
    have ho5 : Only w.heap.size (w.heap.size + 1) wo ((wo.alloc (.cells #[.int .i16 0, .int .i16 0, .int .i16 0, .int .i16 0, .int .i16 0, .int .i16 0, .int .i16 0, .int .i16 0, .int .i16 0, .int .i16 0, .int .i16 0, .int .i16 0, .int .i16 0, .int .i16 0, .int .i16 0, .int .i16 0, .int .i16 0, .int .i16 0, .int .i16 0, .int .i16 0, .int .i16 0, .int .i16 0, .int .i16 0, .int .i16 0, .int .i16 0, .int .i16 0, .int .i16 0, .int .i16 0, .int .i16 0, .int .i16 0, .int .i16 0, .int .i16 0, .int .i16 0, .int .i16 0, .int .i16 0, .int .i16 0, .int .i16 0, .int .i16 0, .int .i16 0, .int .i16 0, .int .i16 0, .int .i16 0, .int .i16 0, .int .i16 0, .int .i16 0, .int .i16 0, .int .i16 0, .int .i16 0, .int .i16 0, .int .i16 0, .int .i16 0, .int .i16 0, .int .i16 0, .int .i16 0, .int .i16 0, .int .i16 0, .int .i16 0, .int .i16 0, .int .i16 0, .int .i16 0, .int .i16 0, .int .i16 0, .int .i16 0, .int .i16 0] 29)).setRow wo.heap.size (arrV .i16 64 f)) := ((Only.refl _ _ _).alloc _).setRowNew (Nat.le_refl _) _
    have s5 := hS.below (below_setRow ((Below.refl wo.heap.size wo).alloc (Nat.le_refl _) (.cells #[.int .i16 0, .int .i16 0, .int .i16 0, .int .i16 0, .int .i16 0, .int .i16 0, .int .i16 0, .int .i16 0, .int .i16 0, .int .i16 0, .int .i16 0, .int .i16 0, .int .i16 0, .int .i16 0, .int .i16 0, .int .i16 0, .int .i16 0, .int .i16 0, .int .i16 0, .int .i16 0, .int .i16 0, .int .i16 0, .int .i16 0, .int .i16 0, .int .i16 0, .int .i16 0, .int .i16 0, .int .i16 0, .int .i16 0, .int .i16 0, .int .i16 0, .int .i16 0, .int .i16 0, .int .i16 0, .int .i16 0, .int .i16 0, .int .i16 0, .int .i16 0, .int .i16 0, .int .i16 0, .int .i16 0, .int .i16 0, .int .i16 0, .int .i16 0, .int .i16 0, .int .i16 0, .int .i16 0, .int .i16 0, .int .i16 0, .int .i16 0, .int .i16 0, .int .i16 0, .int .i16 0, .int .i16 0, .int .i16 0, .int .i16 0, .int .i16 0, .int .i16 0, .int .i16 0, .int .i16 0, .int .i16 0, .int .i16 0, .int .i16 0, .int .i16 0] 29)) (b := wo.heap.size) (Nat.le_refl _) (arrV .i16 64 f)) (by omega)
    have k5 := below_setRow (hBw.alloc hBw.size (.cells #[.int .i16 0, .int .i16 0, .int .i16 0, .int .i16 0, .int .i16 0, .int .i16 0, .int .i16 0, .int .i16 0, .int .i16 0, .int .i16 0, .int .i16 0, .int .i16 0, .int .i16 0, .int .i16 0, .int .i16 0, .int .i16 0, .int .i16 0, .int .i16 0, .int .i16 0, .int .i16 0, .int .i16 0, .int .i16 0, .int .i16 0, .int .i16 0, .int .i16 0, .int .i16 0, .int .i16 0, .int .i16 0, .int .i16 0, .int .i16 0, .int .i16 0, .int .i16 0, .int .i16 0, .int .i16 0, .int .i16 0, .int .i16 0, .int .i16 0, .int .i16 0, .int .i16 0, .int .i16 0, .int .i16 0, .int .i16 0, .int .i16 0, .int .i16 0, .int .i16 0, .int .i16 0, .int .i16 0, .int .i16 0, .int .i16 0, .int .i16 0, .int .i16 0, .int .i16 0, .int .i16 0, .int .i16 0, .int .i16 0, .int .i16 0, .int .i16 0, .int .i16 0, .int .i16 0, .int .i16 0, .int .i16 0, .int .i16 0, .int .i16 0, .int .i16 0] 29)) (b := wo.heap.size) hBw.size (arrV .i16 64 f)
    have Ho5 := Lib.hid (And.intro ho5 (And.intro hown hP)); clear ho5 hown
    go_wp2_with (first | (refine wpList_load_arr hP _ _ rfl rfl rfl Tryz.underlying29 sizePrint ?_) | (refine wpList_store_arr z1 _ _ _ rfl rfl rfl rfl sizePrint ?_))
    refine (Hpk.out _ 6 q (by omega) (by omega) (by omega) s5 k5).mono ?_; rintro e w6 ⟨N, q6, rfl, hN, _, hq6, s6, ho6⟩
    have hN := hN.lt (by omega)
    have g6 := z2'.only ho6 (by omega)
    have hO6 := Ho5.out.1.trans ho6
    have k6 := k5.trans (ho6.below (by have := k5.size; omega))
    have K6 := Lib.hid (And.intro g6 (And.intro s6 (And.intro hO6 k6)))
    clear z1 z2' s5 k5 ho6 g6 s6 hO6 k6 hS hBw hP
    go_wp2_with fail
    go_loopw [8] (fun nn wi => ∃ (m : Nat) (g : Nat → Int) (q' : Nat), (m : Int) ≤ N ∧ nn = .int .i64 (N - m) ∧ Dn 64 g ∧ q' ≤ q + 2 + 4 * m ∧ HasArr wi wo.heap.size 29 .i16 64 g ∧ SrcAt wi w.heap.size A n cap q' ∧ Only w.heap.size (w.heap.size + 1) wo wi ∧ Below w.heap.size w wi) (fun nn _ => (intOf nn).toNat)
    case atStart => exact ⟨0, f, q6, by omega, by simp, hf, by omega, K6.out⟩
    case round =>
      clear K6
      obtain ⟨m, g, q', hm, rfl, hg, hq', hG, hS, hO, hBw⟩ := hrel
      have Hg := Lib.hid hg; clear hg
      by_cases hc2 : (0 : Int) < N - m
      · go_wp2_with fail
        refine (Hpk.out _ 64 q' (by omega) (by omega) (by omega) hS hBw).mono ?_; rintro e w7 ⟨i, q7, rfl, hI, _, hq7, s7, ho7⟩
        have hI := hI.lt (by omega)
        obtain ⟨I, rfl⟩ : ∃ I : Nat, i = (I : Int) := ⟨i.toNat, by omega⟩
        have g7 := hG.only ho7 (by omega)
        have hO7 := hO.trans ho7
        have k7 := hBw.trans (ho7.below (by have := hBw.size; omega))
        clear hG hS hO hBw ho7
        go_wp2_with fail
        refine (Hpk.out _ 401 q7 (by omega) (by omega) (by omega) s7 k7).mono ?_; rintro e w8 ⟨r, q8, rfl, hr, _, hq8, s8, ho8⟩
        have hr := hr.lt (by omega)
        have g8 := g7.only ho8 (by omega)
        have hO8 := hO7.trans ho8
        have k8 := k7.trans (ho8.below (by have := k7.size; omega))
        clear g7 s7 hO7 k7 ho8
        have hI64 : I < 64 := by omega
        have c8 := g8.cell hI64
        have f8 := g8.free I
        have i1 : IntKind.i16.wrap r = r := IntWalk.i16_in _ (by omega)
        have e1 := g8.set I r
        have e2 := s8.below ((Below.refl (w.heap.size + 1) w8).setCell (p := ⟨wo.heap.size, I, none⟩) (by first | (simp; done) | (simp; omega)) (.int .i16 r)) (by omega)
        have e3 := hO8.setNew (p := ⟨wo.heap.size, I, none⟩) (by first | (simp; done) | (simp; omega)) (.int .i16 r)
        have e4 := k8.setCell (p := ⟨wo.heap.size, I, none⟩) (by first | (simp; done) | (simp; omega)) (.int .i16 r)
        have KK := Lib.hid (And.intro e1 (And.intro e2 (And.intro e3 e4)))
        clear e1 e2 e3 e4 g8 s8 hO8 k8
        go_wp2_with fail
        go_roundw
        case rel => exact ⟨m + 1, upd g I r, q8, by omega, congrArg (Value.int .i64) (by omega), Hg.out.upd I (by omega) (by omega), by omega, KK.out⟩
        case measure => simp [intOf]; omega
      · have ownI := own_onlyP Ho5.out.2.1 hO (by omega)
        have hPi := Ho5.out.2.2.only hO (by omega)
        have hzi : w2.heap.size + 1 ≤ wo.heap.size := zr
        have hsz := hO.size
        clear Ho5
        have HG := Lib.hid (And.intro hPi (And.intro hS hBw))
        clear hPi hS hBw
        go_wp2_with (first | ((with_reducible refine wpList_load_arr hG 29 (.tmp 7) ?_ ?_ ?_ Tryz.underlying29 sizePrint ?_); rfl; rfl; rfl) | ((with_reducible refine wpList_buildSlice_arr (κ := .i16) (n := 64) (f := g) (.tmp 37) ?_ ?_ ?_ Tryz.underlying24 HZ.out.1 HZ.out.2.2.1 HZ.out.2.1 (by decide) (by decide) ?_); rfl; rfl; rfl) | (at_builtin; (with_reducible refine wpList_append_own _ ?a0 (.tmp 36) (.tmp 38) 24 ?a1 (w2.heap.size + 1) 29 i0 _ 64 128 Tryz.underlying24 HZ.out.1 HZ.out.2.1 HZ.out.2.2.1 HZ.out.2.2.2 ?a2 (by decide) _ _ _ ?a3 (ownI.alloc _) ⟨wr.heap.size, 0, none⟩ 1 1 (arrV .i16 64 g).toList ?a4 ?c0 ?c1 ?c2 ?c3 ?c4 ?c5 ?_); (case a0 => rfl); (case a1 => rfl); (case a2 => rfl); (case a3 => rfl); (case a4 => rfl)))
        case c0 => simp [arrV_size]
        case c2 => exact fun u hu => arrV_oneL .i16 64 g u (Array.mem_toList_iff.2 hu)
        case c3 => unfold maxLen; omega
        case c4 => omega
        case c5 => first | omega | (simp; omega)
        intro v' w9 own9 hg9 _
        have hkeep : Below (w2.heap.size + 1) wr w9 := (((Below.refl (w2.heap.size + 1) wr).alloc (by omega) _).grown hg9 (by simp; omega) (fun x hx => (ownI.lt x hx).1))
        have P9 := HG.out.1.below hkeep (by omega)
        have S9 := HG.out.2.1.below hkeep (by omega)
        have k9 := HG.out.2.2.trans (hkeep.mono (by omega))
        have hz9 : w2.heap.size + 1 ≤ w9.heap.size := by have := hkeep.size; omega
        have KK := Lib.hid (And.intro hz9 (And.intro own9 (And.intro P9 (And.intro S9 k9))))
        clear hz9 own9 P9 S9 k9 hkeep hg9 HG ownI hG hO
        go_wp2_with fail
        go_roundw
        case rel => exact ⟨j + 1, xs ++ (arrV .i16 64 g).toList, q', by omega, congrArg (Value.int .i64) (by omega), Hxs.out.app (DnL.arr Hg.out), by omega, KK.out⟩
        case measure => simp [intOf]; omega
end Go.Proofs.YtmibinfaafhgdaaGreatDoor
