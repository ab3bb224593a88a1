/-
  Cells that are drawn: they are densities, whatever the bytes. Condition: at most 1048576 bytes.
-/
import Derived.Test.YtiinkfnamhcekaaGreatDoorSrc
import Derived.Test.YtiinkfnamhcekaaGreatDoorArrTools
namespace Go.Proofs.YtiinkfnamhcekaaGreatDoor
open Go.RowKit

theorem HasArr.only {w w' : World} {b : Nat} {T : TypeId} {κ : IntKind} {n : Nat} {f : Nat → Int} {L U : Nat} (h : HasArr w b T κ n f) (ho : Only L U w w') (hB : b < L ∨ U ≤ b) : HasArr w' b T κ n f := (ho.block b h.lt hB).trans h
theorem zeroArr4 : #[.int .i16 0, .int .i16 0, .int .i16 0, .int .i16 0] = arrV .i16 4 fun _ => 0 := by kernel_rfl
theorem sizeA4 : (Tryz.prog.info? 83).map (·.size) = some 4 := by kernel_rfl
theorem HasArr.zero4 (w : World) (T : TypeId) {b : Nat} (hb : b = w.heap.size) : HasArr (w.alloc (.cells #[.int .i16 0, .int .i16 0, .int .i16 0, .int .i16 0] T)) b T .i16 4 fun _ => 0 := by
  subst hb; rw [zeroArr4]; exact HasArr.new w T _ _ _
theorem wpList_store_z4 {P : Program} {ops : Array Oper} {rest : List Oper} {o : Oper} {a : Act} {w : World} {Q : Exit → Act → World → Prop} {b : Nat} {T : TypeId} {κ : IntKind} {f : Nat → Int}
    (h : HasArr w b T κ 4 f) (ty : TypeId) (x y : Operand) (hgd : o.guard = none) (ho : o.op = .store ty x y) (hx : a.eval x = .pointer (some ⟨b, 0, none⟩)) (hy : a.eval y = .agg #[.int .i16 0, .int .i16 0, .int .i16 0, .int .i16 0]) (hi : (P.info? ty).map (·.size) = some 4)
    (hK : wpList P ops Q rest (a.put o.dst undef) (w.setRow b (arrV .i16 4 fun _ => 0))) : wpList P ops Q (o :: rest) a w :=
  wpList_store_arr h ty x y hgd ho hx (hy.trans (by rw [zeroArr4])) hi hK
theorem wpList_store_z64 {P : Program} {ops : Array Oper} {rest : List Oper} {o : Oper} {a : Act} {w : World} {Q : Exit → Act → World → Prop} {b : Nat} {T : TypeId} {κ : IntKind} {f : Nat → Int}
    (h : HasArr w b T κ 64 f) (ty : TypeId) (x y : Operand) (hgd : o.guard = none) (ho : o.op = .store ty x y) (hx : a.eval x = .pointer (some ⟨b, 0, none⟩)) (hy : a.eval y = .agg #[.int .i16 0, .int .i16 0, .int .i16 0, .int .i16 0, .int .i16 0, .int .i16 0, .int .i16 0, .int .i16 0, .int .i16 0, .int .i16 0, .int .i16 0, .int .i16 0, .int .i16 0, .int .i16 0, .int .i16 0, .int .i16 0, .int .i16 0, .int .i16 0, .int .i16 0, .int .i16 0, .int .i16 0, .int .i16 0, .int .i16 0, .int .i16 0, .int .i16 0, .int .i16 0, .int .i16 0, .int .i16 0, .int .i16 0, .int .i16 0, .int .i16 0, .int .i16 0, .int .i16 0, .int .i16 0, .int .i16 0, .int .i16 0, .int .i16 0, .int .i16 0, .int .i16 0, .int .i16 0, .int .i16 0, .int .i16 0, .int .i16 0, .int .i16 0, .int .i16 0, .int .i16 0, .int .i16 0, .int .i16 0, .int .i16 0, .int .i16 0, .int .i16 0, .int .i16 0, .int .i16 0, .int .i16 0, .int .i16 0, .int .i16 0, .int .i16 0, .int .i16 0, .int .i16 0, .int .i16 0, .int .i16 0, .int .i16 0, .int .i16 0, .int .i16 0]) (hi : (P.info? ty).map (·.size) = some 64)
    (hK : wpList P ops Q rest (a.put o.dst undef) (w.setRow b (arrV .i16 64 fun _ => 0))) : wpList P ops Q (o :: rest) a w :=
  wpList_store_arr h ty x y hgd ho hx (hy.trans (by rw [zeroArr16])) hi hK
section
variable {L U : Nat} {w w' : World}
theorem Only.ofBelow (h : Below w.heap.size w w') : Only L U w w' := ⟨h.os, h.tape, h.output, h.size, fun k hk _ => h.block k hk⟩
theorem Only.alloc (h : Only L U w w') (o : Obj) : Only L U w (w'.alloc o) := h.trans (Only.ofBelow ((Below.refl _ _).alloc (Nat.le_refl _) o))
theorem Only.setNew (h : Only L U w w') {p : Addr} (hp : w.heap.size ≤ p.block) (u : Value) : Only L U w (w'.setCell p u) :=
  ⟨h.os, h.tape, h.output, by simp; exact h.size, fun k hk hkk => (Below.heap_setCell w' p u k (by omega)).trans (h.block k hk hkk)⟩
theorem Only.setRowNew (h : Only L U w w') {b : Nat} (hb : w.heap.size ≤ b) (cs : Array Value) : Only L U w (w'.setRow b cs) :=
  ⟨h.os, h.tape, h.output, by simp; exact h.size, fun k hk hkk => (setRow_other w' b k cs (by omega)).trans (h.block k hk hkk)⟩
end
/-- The first n numbers are densities. -/
def Dn (n : Nat) (f : Nat → Int) : Prop := ∀ j, j < n → 0 ≤ f j ∧ f j ≤ 400
theorem Dn.upd {n : Nat} {f : Nat → Int} (h : Dn n f) (k : Nat) {x : Int} (h0 : 0 ≤ x) (h1 : x ≤ 400) : Dn n (upd f k x) := fun j hj => by
  unfold Go.Proofs.YtiinkfnamhcekaaGreatDoor.upd
  split
  · exact ⟨h0, h1⟩
  · exact h j hj
theorem Dn.dns {f : Nat → Int} (h : Dn 64 f) : dnsB f = true := dnsB_iff.2 fun k hk => inB_true.2 (h k hk)
theorem Dn.zero (n : Nat) : Dn n fun _ => 0 := fun _ _ => ⟨by show (0 : Int) ≤ 0; omega, by show (0 : Int) ≤ 400; omega⟩

/-- Cells that are drawn from a source. -/
def CellsOut (w : World) (b : Nat) (A : Option Addr) (n cap p : Nat) (e : Ending) (w' : World) : Prop :=
  ∃ f q, e = .returned (.agg (arrV .i16 64 f)) ∧ Dn 64 f ∧ q ≤ p + 40 ∧ SrcAt w' b A n cap q ∧ Only b (b + 1) w w'

set_option maxRecDepth 100000 in
set_option maxHeartbeats 4000000 in
theorem l03Cells_any (b : Nat) (A : Option Addr) (n cap p : Nat) (bs : Nat → Int) (hn : n ≤ 1048576) (hp : p ≤ 1000) (hbs : ∀ j, j < n → 0 ≤ bs j ∧ bs j ≤ 255) (w : World) (hS0 : SrcAt w b A n cap p) (hB : BytesIn w A n bs) (hA : 0 < n → ∀ a, A = some a → a.block < b) :
    Calls Tryz.prog 30 #[.pointer (some ⟨b, 0, none⟩)] w (CellsOut w b A n cap p) := by
  have hblt : b < w.heap.size := by obtain ⟨_, _, _, _, _, h⟩ := hS0.cells; exact h
  have hBB : ∀ W, Below b w W → BytesIn W A n bs := fun W h => by
    rcases hB with h0 | ⟨b', o, e, hlt, hc⟩
    · exact .inl h0
    · rcases Nat.eq_zero_or_pos n with h0 | h0
      · exact .inl h0
      have h1 : b' < b := hA h0 _ e
      exact .inr ⟨b', o, e, by have := h.size; omega, fun j hj => by rw [h.cell (p := ⟨b', o + j, none⟩) h1]; exact hc j hj⟩
  have hpk := fun (W : World) (m : Int) (p : Nat) (h0 : 0 ≤ m) (h1 : m ≤ 1000) (hp : p ≤ 2000) (hS : SrcAt W b A n cap p) (hb : Only b (b + 1) w W) =>
    srcPick_any b n cap p A bs m h0 (by omega) hn (by omega) hbs W hS (hBB W (hb.below (Nat.le_of_lt hblt))) hA
  have Hpk := Lib.hid hpk; clear hpk hbs hBB
  have a1 := HasArr.zero w 36 (b := w.heap.size) rfl
  have a2 := HasArr.zero (w.alloc (.cells #[.int .i16 0, .int .i16 0, .int .i16 0, .int .i16 0, .int .i16 0, .int .i16 0, .int .i16 0, .int .i16 0, .int .i16 0, .int .i16 0, .int .i16 0, .int .i16 0, .int .i16 0, .int .i16 0, .int .i16 0, .int .i16 0, .int .i16 0, .int .i16 0, .int .i16 0, .int .i16 0, .int .i16 0, .int .i16 0, .int .i16 0, .int .i16 0, .int .i16 0, .int .i16 0, .int .i16 0, .int .i16 0, .int .i16 0, .int .i16 0, .int .i16 0, .int .i16 0, .int .i16 0, .int .i16 0, .int .i16 0, .int .i16 0, .int .i16 0, .int .i16 0, .int .i16 0, .int .i16 0, .int .i16 0, .int .i16 0, .int .i16 0, .int .i16 0, .int .i16 0, .int .i16 0, .int .i16 0, .int .i16 0, .int .i16 0, .int .i16 0, .int .i16 0, .int .i16 0, .int .i16 0, .int .i16 0, .int .i16 0, .int .i16 0, .int .i16 0, .int .i16 0, .int .i16 0, .int .i16 0, .int .i16 0, .int .i16 0, .int .i16 0, .int .i16 0] 36)) 36 (b := w.heap.size + 1) (by simp)
  have k2 : Only b (b + 1) w ((w.alloc (.cells #[.int .i16 0, .int .i16 0, .int .i16 0, .int .i16 0, .int .i16 0, .int .i16 0, .int .i16 0, .int .i16 0, .int .i16 0, .int .i16 0, .int .i16 0, .int .i16 0, .int .i16 0, .int .i16 0, .int .i16 0, .int .i16 0, .int .i16 0, .int .i16 0, .int .i16 0, .int .i16 0, .int .i16 0, .int .i16 0, .int .i16 0, .int .i16 0, .int .i16 0, .int .i16 0, .int .i16 0, .int .i16 0, .int .i16 0, .int .i16 0, .int .i16 0, .int .i16 0, .int .i16 0, .int .i16 0, .int .i16 0, .int .i16 0, .int .i16 0, .int .i16 0, .int .i16 0, .int .i16 0, .int .i16 0, .int .i16 0, .int .i16 0, .int .i16 0, .int .i16 0, .int .i16 0, .int .i16 0, .int .i16 0, .int .i16 0, .int .i16 0, .int .i16 0, .int .i16 0, .int .i16 0, .int .i16 0, .int .i16 0, .int .i16 0, .int .i16 0, .int .i16 0, .int .i16 0, .int .i16 0, .int .i16 0, .int .i16 0, .int .i16 0, .int .i16 0] 36)).alloc (.cells #[.int .i16 0, .int .i16 0, .int .i16 0, .int .i16 0, .int .i16 0, .int .i16 0, .int .i16 0, .int .i16 0, .int .i16 0, .int .i16 0, .int .i16 0, .int .i16 0, .int .i16 0, .int .i16 0, .int .i16 0, .int .i16 0, .int .i16 0, .int .i16 0, .int .i16 0, .int .i16 0, .int .i16 0, .int .i16 0, .int .i16 0, .int .i16 0, .int .i16 0, .int .i16 0, .int .i16 0, .int .i16 0, .int .i16 0, .int .i16 0, .int .i16 0, .int .i16 0, .int .i16 0, .int .i16 0, .int .i16 0, .int .i16 0, .int .i16 0, .int .i16 0, .int .i16 0, .int .i16 0, .int .i16 0, .int .i16 0, .int .i16 0, .int .i16 0, .int .i16 0, .int .i16 0, .int .i16 0, .int .i16 0, .int .i16 0, .int .i16 0, .int .i16 0, .int .i16 0, .int .i16 0, .int .i16 0, .int .i16 0, .int .i16 0, .int .i16 0, .int .i16 0, .int .i16 0, .int .i16 0, .int .i16 0, .int .i16 0, .int .i16 0, .int .i16 0] 36)) := ((Only.refl _ _ _).alloc _).alloc _
  have s2 := (hS0.below (((Below.refl w.heap.size w).alloc (Nat.le_refl _) (.cells #[.int .i16 0, .int .i16 0, .int .i16 0, .int .i16 0, .int .i16 0, .int .i16 0, .int .i16 0, .int .i16 0, .int .i16 0, .int .i16 0, .int .i16 0, .int .i16 0, .int .i16 0, .int .i16 0, .int .i16 0, .int .i16 0, .int .i16 0, .int .i16 0, .int .i16 0, .int .i16 0, .int .i16 0, .int .i16 0, .int .i16 0, .int .i16 0, .int .i16 0, .int .i16 0, .int .i16 0, .int .i16 0, .int .i16 0, .int .i16 0, .int .i16 0, .int .i16 0, .int .i16 0, .int .i16 0, .int .i16 0, .int .i16 0, .int .i16 0, .int .i16 0, .int .i16 0, .int .i16 0, .int .i16 0, .int .i16 0, .int .i16 0, .int .i16 0, .int .i16 0, .int .i16 0, .int .i16 0, .int .i16 0, .int .i16 0, .int .i16 0, .int .i16 0, .int .i16 0, .int .i16 0, .int .i16 0, .int .i16 0, .int .i16 0, .int .i16 0, .int .i16 0, .int .i16 0, .int .i16 0, .int .i16 0, .int .i16 0, .int .i16 0, .int .i16 0] 36)).alloc (by simp) (.cells #[.int .i16 0, .int .i16 0, .int .i16 0, .int .i16 0, .int .i16 0, .int .i16 0, .int .i16 0, .int .i16 0, .int .i16 0, .int .i16 0, .int .i16 0, .int .i16 0, .int .i16 0, .int .i16 0, .int .i16 0, .int .i16 0, .int .i16 0, .int .i16 0, .int .i16 0, .int .i16 0, .int .i16 0, .int .i16 0, .int .i16 0, .int .i16 0, .int .i16 0, .int .i16 0, .int .i16 0, .int .i16 0, .int .i16 0, .int .i16 0, .int .i16 0, .int .i16 0, .int .i16 0, .int .i16 0, .int .i16 0, .int .i16 0, .int .i16 0, .int .i16 0, .int .i16 0, .int .i16 0, .int .i16 0, .int .i16 0, .int .i16 0, .int .i16 0, .int .i16 0, .int .i16 0, .int .i16 0, .int .i16 0, .int .i16 0, .int .i16 0, .int .i16 0, .int .i16 0, .int .i16 0, .int .i16 0, .int .i16 0, .int .i16 0, .int .i16 0, .int .i16 0, .int .i16 0, .int .i16 0, .int .i16 0, .int .i16 0, .int .i16 0, .int .i16 0] 36)) hblt)
  -- behind the first store
  have b1 := (a1.alloc (.cells #[.int .i16 0, .int .i16 0, .int .i16 0, .int .i16 0, .int .i16 0, .int .i16 0, .int .i16 0, .int .i16 0, .int .i16 0, .int .i16 0, .int .i16 0, .int .i16 0, .int .i16 0, .int .i16 0, .int .i16 0, .int .i16 0, .int .i16 0, .int .i16 0, .int .i16 0, .int .i16 0, .int .i16 0, .int .i16 0, .int .i16 0, .int .i16 0, .int .i16 0, .int .i16 0, .int .i16 0, .int .i16 0, .int .i16 0, .int .i16 0, .int .i16 0, .int .i16 0, .int .i16 0, .int .i16 0, .int .i16 0, .int .i16 0, .int .i16 0, .int .i16 0, .int .i16 0, .int .i16 0, .int .i16 0, .int .i16 0, .int .i16 0, .int .i16 0, .int .i16 0, .int .i16 0, .int .i16 0, .int .i16 0, .int .i16 0, .int .i16 0, .int .i16 0, .int .i16 0, .int .i16 0, .int .i16 0, .int .i16 0, .int .i16 0, .int .i16 0, .int .i16 0, .int .i16 0, .int .i16 0, .int .i16 0, .int .i16 0, .int .i16 0, .int .i16 0] 36)).rowOther (b' := w.heap.size + 1) (by omega) (arrV .i16 64 fun _ => 0)
  have b2 := a2.setRow .i16 fun _ => 0
  have kB := k2.setRowNew (b := w.heap.size + 1) (by omega) (arrV .i16 64 fun _ => 0)
  have sB := s2.below (below_setRow (Below.refl (w.heap.size + 1) _) (b := w.heap.size + 1) (Nat.le_refl _) (arrV .i16 64 fun _ => 0)) (by omega)
  have hz1 : (((w.alloc (.cells #[.int .i16 0, .int .i16 0, .int .i16 0, .int .i16 0, .int .i16 0, .int .i16 0, .int .i16 0, .int .i16 0, .int .i16 0, .int .i16 0, .int .i16 0, .int .i16 0, .int .i16 0, .int .i16 0, .int .i16 0, .int .i16 0, .int .i16 0, .int .i16 0, .int .i16 0, .int .i16 0, .int .i16 0, .int .i16 0, .int .i16 0, .int .i16 0, .int .i16 0, .int .i16 0, .int .i16 0, .int .i16 0, .int .i16 0, .int .i16 0, .int .i16 0, .int .i16 0, .int .i16 0, .int .i16 0, .int .i16 0, .int .i16 0, .int .i16 0, .int .i16 0, .int .i16 0, .int .i16 0, .int .i16 0, .int .i16 0, .int .i16 0, .int .i16 0, .int .i16 0, .int .i16 0, .int .i16 0, .int .i16 0, .int .i16 0, .int .i16 0, .int .i16 0, .int .i16 0, .int .i16 0, .int .i16 0, .int .i16 0, .int .i16 0, .int .i16 0, .int .i16 0, .int .i16 0, .int .i16 0, .int .i16 0, .int .i16 0, .int .i16 0, .int .i16 0] 36)).alloc (.cells #[.int .i16 0, .int .i16 0, .int .i16 0, .int .i16 0, .int .i16 0, .int .i16 0, .int .i16 0, .int .i16 0, .int .i16 0, .int .i16 0, .int .i16 0, .int .i16 0, .int .i16 0, .int .i16 0, .int .i16 0, .int .i16 0, .int .i16 0, .int .i16 0, .int .i16 0, .int .i16 0, .int .i16 0, .int .i16 0, .int .i16 0, .int .i16 0, .int .i16 0, .int .i16 0, .int .i16 0, .int .i16 0, .int .i16 0, .int .i16 0, .int .i16 0, .int .i16 0, .int .i16 0, .int .i16 0, .int .i16 0, .int .i16 0, .int .i16 0, .int .i16 0, .int .i16 0, .int .i16 0, .int .i16 0, .int .i16 0, .int .i16 0, .int .i16 0, .int .i16 0, .int .i16 0, .int .i16 0, .int .i16 0, .int .i16 0, .int .i16 0, .int .i16 0, .int .i16 0, .int .i16 0, .int .i16 0, .int .i16 0, .int .i16 0, .int .i16 0, .int .i16 0, .int .i16 0, .int .i16 0, .int .i16 0, .int .i16 0, .int .i16 0, .int .i16 0] 36)).setRow (w.heap.size + 1) (arrV .i16 64 fun _ => 0)).heap.size = w.heap.size + 1 + 1 := by simp
  have a3 := HasArr.zero4 (((w.alloc (.cells #[.int .i16 0, .int .i16 0, .int .i16 0, .int .i16 0, .int .i16 0, .int .i16 0, .int .i16 0, .int .i16 0, .int .i16 0, .int .i16 0, .int .i16 0, .int .i16 0, .int .i16 0, .int .i16 0, .int .i16 0, .int .i16 0, .int .i16 0, .int .i16 0, .int .i16 0, .int .i16 0, .int .i16 0, .int .i16 0, .int .i16 0, .int .i16 0, .int .i16 0, .int .i16 0, .int .i16 0, .int .i16 0, .int .i16 0, .int .i16 0, .int .i16 0, .int .i16 0, .int .i16 0, .int .i16 0, .int .i16 0, .int .i16 0, .int .i16 0, .int .i16 0, .int .i16 0, .int .i16 0, .int .i16 0, .int .i16 0, .int .i16 0, .int .i16 0, .int .i16 0, .int .i16 0, .int .i16 0, .int .i16 0, .int .i16 0, .int .i16 0, .int .i16 0, .int .i16 0, .int .i16 0, .int .i16 0, .int .i16 0, .int .i16 0, .int .i16 0, .int .i16 0, .int .i16 0, .int .i16 0, .int .i16 0, .int .i16 0, .int .i16 0, .int .i16 0] 36)).alloc (.cells #[.int .i16 0, .int .i16 0, .int .i16 0, .int .i16 0, .int .i16 0, .int .i16 0, .int .i16 0, .int .i16 0, .int .i16 0, .int .i16 0, .int .i16 0, .int .i16 0, .int .i16 0, .int .i16 0, .int .i16 0, .int .i16 0, .int .i16 0, .int .i16 0, .int .i16 0, .int .i16 0, .int .i16 0, .int .i16 0, .int .i16 0, .int .i16 0, .int .i16 0, .int .i16 0, .int .i16 0, .int .i16 0, .int .i16 0, .int .i16 0, .int .i16 0, .int .i16 0, .int .i16 0, .int .i16 0, .int .i16 0, .int .i16 0, .int .i16 0, .int .i16 0, .int .i16 0, .int .i16 0, .int .i16 0, .int .i16 0, .int .i16 0, .int .i16 0, .int .i16 0, .int .i16 0, .int .i16 0, .int .i16 0, .int .i16 0, .int .i16 0, .int .i16 0, .int .i16 0, .int .i16 0, .int .i16 0, .int .i16 0, .int .i16 0, .int .i16 0, .int .i16 0, .int .i16 0, .int .i16 0, .int .i16 0, .int .i16 0, .int .i16 0, .int .i16 0] 36)).setRow (w.heap.size + 1) (arrV .i16 64 fun _ => 0)) 83 (b := w.heap.size + 1 + 1) hz1.symm
  have c1 := (b1.alloc (.cells #[.int .i16 0, .int .i16 0, .int .i16 0, .int .i16 0] 83)).rowOther (b' := w.heap.size + 1 + 1) (by omega) (arrV .i16 4 fun _ => 0)
  have c2 := (b2.alloc (.cells #[.int .i16 0, .int .i16 0, .int .i16 0, .int .i16 0] 83)).rowOther (b' := w.heap.size + 1 + 1) (by omega) (arrV .i16 4 fun _ => 0)
  have c3 := a3.setRow .i16 fun _ => 0
  have kC := (kB.alloc (.cells #[.int .i16 0, .int .i16 0, .int .i16 0, .int .i16 0] 83)).setRowNew (b := w.heap.size + 1 + 1) (by omega) (arrV .i16 4 fun _ => 0)
  have sC := sB.below (below_setRow ((Below.refl (b + 1) (((w.alloc (.cells #[.int .i16 0, .int .i16 0, .int .i16 0, .int .i16 0, .int .i16 0, .int .i16 0, .int .i16 0, .int .i16 0, .int .i16 0, .int .i16 0, .int .i16 0, .int .i16 0, .int .i16 0, .int .i16 0, .int .i16 0, .int .i16 0, .int .i16 0, .int .i16 0, .int .i16 0, .int .i16 0, .int .i16 0, .int .i16 0, .int .i16 0, .int .i16 0, .int .i16 0, .int .i16 0, .int .i16 0, .int .i16 0, .int .i16 0, .int .i16 0, .int .i16 0, .int .i16 0, .int .i16 0, .int .i16 0, .int .i16 0, .int .i16 0, .int .i16 0, .int .i16 0, .int .i16 0, .int .i16 0, .int .i16 0, .int .i16 0, .int .i16 0, .int .i16 0, .int .i16 0, .int .i16 0, .int .i16 0, .int .i16 0, .int .i16 0, .int .i16 0, .int .i16 0, .int .i16 0, .int .i16 0, .int .i16 0, .int .i16 0, .int .i16 0, .int .i16 0, .int .i16 0, .int .i16 0, .int .i16 0, .int .i16 0, .int .i16 0, .int .i16 0, .int .i16 0] 36)).alloc (.cells #[.int .i16 0, .int .i16 0, .int .i16 0, .int .i16 0, .int .i16 0, .int .i16 0, .int .i16 0, .int .i16 0, .int .i16 0, .int .i16 0, .int .i16 0, .int .i16 0, .int .i16 0, .int .i16 0, .int .i16 0, .int .i16 0, .int .i16 0, .int .i16 0, .int .i16 0, .int .i16 0, .int .i16 0, .int .i16 0, .int .i16 0, .int .i16 0, .int .i16 0, .int .i16 0, .int .i16 0, .int .i16 0, .int .i16 0, .int .i16 0, .int .i16 0, .int .i16 0, .int .i16 0, .int .i16 0, .int .i16 0, .int .i16 0, .int .i16 0, .int .i16 0, .int .i16 0, .int .i16 0, .int .i16 0, .int .i16 0, .int .i16 0, .int .i16 0, .int .i16 0, .int .i16 0, .int .i16 0, .int .i16 0, .int .i16 0, .int .i16 0, .int .i16 0, .int .i16 0, .int .i16 0, .int .i16 0, .int .i16 0, .int .i16 0, .int .i16 0, .int .i16 0, .int .i16 0, .int .i16 0, .int .i16 0, .int .i16 0, .int .i16 0, .int .i16 0] 36)).setRow (w.heap.size + 1) (arrV .i16 64 fun _ => 0))).alloc (by omega) (.cells #[.int .i16 0, .int .i16 0, .int .i16 0, .int .i16 0] 83)) (b := w.heap.size + 1 + 1) (by omega) (arrV .i16 4 fun _ => 0)) (by omega)
  have K0 := Lib.hid (And.intro c1 (And.intro c2 (And.intro c3 (And.intro sC kC))))
  clear b1 b2 kB sB c1 c2 c3 kC sC k2 s2 a1 hS0 hB
  clear hz1
  go_enter Tryz.func30, Tryz.ntmps30
  go_wp2_with (first | (refine wpList_store_z64 a2 _ _ _ rfl rfl rfl rfl sizeA64 ?_) | (refine wpList_store_z4 a3 _ _ _ rfl rfl rfl rfl sizeA4 ?_))
  clear a2 a3
  go_loopw [5] (fun i wr => ∃ (k : Nat) (pf : Nat → Int) (q : Nat), k ≤ 4 ∧ i = .int .i64 (k : Int) ∧ Dn 4 pf ∧ q ≤ p + 2 * k ∧ HasArr wr w.heap.size 36 .i16 64 (fun _ => 0) ∧ HasArr wr (w.heap.size + 1) 36 .i16 64 (fun _ => 0) ∧ HasArr wr (w.heap.size + 1 + 1) 83 .i16 4 pf ∧ SrcAt wr b A n cap q ∧ Only b (b + 1) w wr) (fun i _ => 4 - (intOf i).toNat)
  case atStart => exact ⟨0, fun _ => 0, p, by omega, rfl, Dn.zero 4, by omega, K0.out⟩
  case round =>
    obtain ⟨k, pf, q, hk, rfl, hpf, hq, h1, h2, h3, hS, hBw⟩ := hrel
    clear K0
    have Hpf := Lib.hid hpf; clear hpf
    by_cases hkn : k < 4
    · go_wp2_with fail
      refine (Hpk.out _ 256 q (by omega) (by omega) (by omega) hS hBw).mono ?_; rintro e w2 ⟨r, q2, rfl, hr, _, hq2, s2, ho2⟩
      have hr := hr.lt (by omega)
      have kB := hBw.trans ho2
      have g1 := h1.only ho2 (by omega)
      have g2 := h2.only ho2 (by omega)
      have g3 := h3.only ho2 (by omega)
      clear h1 h2 h3 hS hBw ho2
      have c3 := g3.cell hkn
      have f3 := g3.free k
      have i1 : IntKind.i16.wrap r = r := IntWalk.i16_in _ (by omega)
      have e1 := g1.other (a := ⟨w.heap.size + 1 + 1, k, none⟩) (by first | (simp; done) | (simp; omega)) (.int .i16 r)
      have e2 := g2.other (a := ⟨w.heap.size + 1 + 1, k, none⟩) (by first | (simp; done) | (simp; omega)) (.int .i16 r)
      have e3 := g3.set k r
      have es := s2.below ((Below.refl (b + 1) w2).setCell (p := ⟨w.heap.size + 1 + 1, k, none⟩) (by first | (simp; done) | (simp; omega)) (.int .i16 r)) (by omega)
      have eB := kB.setNew (p := ⟨w.heap.size + 1 + 1, k, none⟩) (by first | (simp; done) | (simp; omega)) (.int .i16 r)
      have K := Lib.hid (And.intro e1 (And.intro e2 (And.intro e3 (And.intro es eB))))
      clear e1 e2 e3 es eB g1 g2 g3 s2 kB
      go_wp2_with fail
      go_roundw
      case rel => exact ⟨k + 1, upd pf k r, q2, by omega, by go_num, Hpf.out.upd k (by omega) (by omega), by omega, K.out⟩
      case measure => simp [intOf]; omega
    obtain rfl : k = 4 := by omega
    have K1 := Lib.hid (And.intro h1 (And.intro h2 (And.intro h3 (And.intro hS hBw))))
    clear h1 h2 h3 hS hBw
    go_wp2_with fail
    go_loopw [6] (fun i wr => ∃ (k : Nat) (g : Nat → Int), k ≤ 64 ∧ i = .int .i64 (k : Int) ∧ Dn 64 g ∧ HasArr wr w.heap.size 36 .i16 64 (fun _ => 0) ∧ HasArr wr (w.heap.size + 1) 36 .i16 64 g ∧ HasArr wr (w.heap.size + 1 + 1) 83 .i16 4 pf ∧ SrcAt wr b A n cap q ∧ Only b (b + 1) w wr) (fun i _ => 64 - (intOf i).toNat)
    case atStart => exact ⟨0, fun _ => 0, by omega, rfl, Dn.zero 64, K1.out⟩
    case round =>
      obtain ⟨k, g, hk, rfl, hg, h1, h2, h3, hS, hBw⟩ := hrel
      clear K1
      have Hg := Lib.hid hg; clear hg
      by_cases hkn : k < 64
      · have hlt : k % 8 / 4 + k / 32 * 2 < 4 := by omega
        have c3 := h3.cell hlt
        have c2 := h2.cell hkn
        have f2 := h2.free k
        have hb := Hpf.out _ hlt
        generalize pf (k % 8 / 4 + k / 32 * 2) = r at *
        have e1 := h1.other (a := ⟨w.heap.size + 1, k, none⟩) (by first | (simp; done) | (simp; omega)) (.int .i16 r)
        have e3 := h3.other (a := ⟨w.heap.size + 1, k, none⟩) (by first | (simp; done) | (simp; omega)) (.int .i16 r)
        have e2 := h2.set k r
        have es := hS.below ((Below.refl (b + 1) wr).setCell (p := ⟨w.heap.size + 1, k, none⟩) (by first | (simp; done) | (simp; omega)) (.int .i16 r)) (by omega)
        have eB := hBw.setNew (p := ⟨w.heap.size + 1, k, none⟩) (by first | (simp; done) | (simp; omega)) (.int .i16 r)
        have K := Lib.hid (And.intro e1 (And.intro e2 (And.intro e3 (And.intro es eB))))
        clear e1 e2 e3 es eB h1 h2 h3 hS hBw
        go_wp2_with fail
        go_roundw
        case rel => exact ⟨k + 1, upd g k r, by omega, by go_num, Hg.out.upd k (by omega) (by omega), K.out⟩
        case measure => simp [intOf]; omega
      obtain rfl : k = 64 := by omega
      clear h3
      go_wp2_with fail
      refine (Hpk.out _ 4 q (by omega) (by omega) (by omega) hS hBw).mono ?_; rintro e w2 ⟨K, q2, rfl, hK, _, hq2, s2, ho2⟩
      have hK := hK.lt (by omega)
      have kB := hBw.trans ho2
      have K2 := Lib.hid (And.intro (h1.only ho2 (by omega)) (And.intro (h2.only ho2 (by omega)) (And.intro s2 kB)))
      clear h1 h2 hS hBw ho2 s2 kB
      go_wp2_with fail
      go_loopw [7] (fun kk wr => ∃ (j : Nat) (g : Nat → Int) (q : Nat), (j : Int) ≤ K ∧ kk = .int .i64 (K - j) ∧ Dn 64 g ∧ q ≤ p + 12 + 4 * j ∧ HasArr wr w.heap.size 36 .i16 64 (fun _ => 0) ∧ HasArr wr (w.heap.size + 1) 36 .i16 64 g ∧ SrcAt wr b A n cap q ∧ Only b (b + 1) w wr) (fun kk _ => (intOf kk).toNat)
      case atStart => exact ⟨0, g, q2, by omega, by simp, Hg.out, by omega, K2.out⟩
      case round =>
        clear Hg K2
        obtain ⟨j, g, q, hj, rfl, hg, hq, h1, h2, hS, hBw⟩ := hrel
        have Hg := Lib.hid hg; clear hg
        by_cases hc : (0 : Int) < K - j
        · go_wp2_with fail
          refine (Hpk.out _ 64 q (by omega) (by omega) (by omega) hS hBw).mono ?_; rintro e w3 ⟨i, q3, rfl, hi, _, hq3, s3, ho3⟩
          have hi := hi.lt (by omega)
          obtain ⟨I, rfl⟩ : ∃ I : Nat, i = (I : Int) := ⟨i.toNat, by omega⟩
          have k3 := hBw.trans ho3
          have g1 := h1.only ho3 (by omega)
          have g2 := h2.only ho3 (by omega)
          clear h1 h2 hS hBw ho3
          go_wp2_with fail
          refine (Hpk.out _ 401 q3 (by omega) (by omega) (by omega) s3 k3).mono ?_; rintro e w4 ⟨r, q4, rfl, hr, _, hq4, s4, ho4⟩
          have hr := hr.lt (by omega)
          have k4 := k3.trans ho4
          have j1 := g1.only ho4 (by omega)
          have j2 := g2.only ho4 (by omega)
          clear g1 g2 s3 k3 ho4
          have hI : I < 64 := by omega
          have c2 := j2.cell hI
          have f2 := j2.free I
          have i1 : IntKind.i16.wrap r = r := IntWalk.i16_in _ (by omega)
          have e1 := j1.other (a := ⟨w.heap.size + 1, I, none⟩) (by first | (simp; done) | (simp; omega)) (.int .i16 r)
          have e2 := j2.set I r
          have es := s4.below ((Below.refl (b + 1) w4).setCell (p := ⟨w.heap.size + 1, I, none⟩) (by first | (simp; done) | (simp; omega)) (.int .i16 r)) (by omega)
          have eB := k4.setNew (p := ⟨w.heap.size + 1, I, none⟩) (by first | (simp; done) | (simp; omega)) (.int .i16 r)
          have KK := Lib.hid (And.intro e1 (And.intro e2 (And.intro es eB)))
          clear e1 e2 es eB j1 j2 s4 k4
          go_wp2_with fail
          go_roundw
          case rel => exact ⟨j + 1, upd g I r, q4, by omega, congrArg (Value.int .i64) (by omega), Hg.out.upd I (by omega) (by omega), by omega, KK.out⟩
          case measure => simp [intOf]; omega
        · have h1' := h1.setRow .i16 g
          have hB' := hBw.setRowNew (b := w.heap.size) (by omega) (arrV .i16 64 g)
          have hS' := hS.below (below_setRow (Below.refl (b + 1) wr) (b := w.heap.size) (by omega) (arrV .i16 64 g)) (by omega)
          go_wp2_with (first | (refine wpList_load_arr h2 _ _ rfl rfl rfl Tryz.underlying36 sizeA64 ?_) | (refine wpList_store_arr h1 _ _ _ rfl rfl rfl rfl sizeA64 ?_))
          refine bodyPost_ret (v := .agg (arrV .i16 64 g)) ?_ rfl ⟨g, q, rfl, Hg.out, by omega, hS', hB'⟩
          exact results_cell_row rfl _ _ _ _ _ _ _ rfl h1' Tryz.underlying36 rfl (by rw [arrV_size]; exact sizeA64)

/-- A negative that is drawn. -/
def NegDrawn (w : World) (e : Ending) (w' : World) : Prop := ∃ f, e = .returned (.agg (arrV .i16 64 f)) ∧ Dn 64 f ∧ Below w.heap.size w w'

end Go.Proofs.YtiinkfnamhcekaaGreatDoor
