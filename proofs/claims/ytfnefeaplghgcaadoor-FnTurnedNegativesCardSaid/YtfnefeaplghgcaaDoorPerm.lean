/-
  Where the cells of a changed negative come from: the reference's three changes. Condition: int16 numbers.
-/
import Derived.Test.YtfnefeaplghgcaaDoorNegs
import Derived.BigQuiet
namespace Go.Proofs.YtfnefeaplghgcaaDoor
open Go.RowKit

def mirP (k : Nat) : Nat := k / 8 * 8 + 7 - k % 8
def turP (k : Nat) : Nat := k / 8 + 8 * (7 - k % 8)
def enlP (x y k : Nat) : Nat := x + k % 8 / 2 + 8 * (y + k / 8 / 2)
theorem mirP_lt {k : Nat} (h : k < 64) : mirP k < 64 := by unfold mirP; omega
theorem turP_lt {k : Nat} (h : k < 64) : turP k < 64 := by unfold turP; omega
theorem enlP_lt {x y k : Nat} (hx : x ≤ 4) (hy : y ≤ 4) (h : k < 64) : enlP x y k < 64 := by unfold enlP; omega
/-- The changed negative: nothing where it is not valid. -/
def ngV (ok : Bool) (f : Nat → Int) (p : Nat → Nat) : Nat → Int := if ok = true then fun k => f (p k) else fun _ => 0
theorem ngV_yes (f : Nat → Int) (p : Nat → Nat) : ngV true f p = fun k => f (p k) := rfl
theorem ngV_no (f : Nat → Int) (p : Nat → Nat) : ngV false f p = fun _ => 0 := rfl
def ngC (ok : Bool) : Int := if ok = true then 0 else 1

theorem wpList_store_z {P : Program} {ops : Array Oper} {rest : List Oper} {o : Oper} {a : Act} {w : World} {Q : Exit → Act → World → Prop} {b : Nat} {T : TypeId} {κ : IntKind} {f : Nat → Int}
    (h : HasArr w b T κ 64 f) (ty : TypeId) (x y : Operand) (hgd : o.guard = none) (ho : o.op = .store ty x y) (hx : a.eval x = .pointer (some ⟨b, 0, none⟩)) (hy : a.eval y = .agg #[.int .i16 0, .int .i16 0, .int .i16 0, .int .i16 0, .int .i16 0, .int .i16 0, .int .i16 0, .int .i16 0, .int .i16 0, .int .i16 0, .int .i16 0, .int .i16 0, .int .i16 0, .int .i16 0, .int .i16 0, .int .i16 0, .int .i16 0, .int .i16 0, .int .i16 0, .int .i16 0, .int .i16 0, .int .i16 0, .int .i16 0, .int .i16 0, .int .i16 0, .int .i16 0, .int .i16 0, .int .i16 0, .int .i16 0, .int .i16 0, .int .i16 0, .int .i16 0, .int .i16 0, .int .i16 0, .int .i16 0, .int .i16 0, .int .i16 0, .int .i16 0, .int .i16 0, .int .i16 0, .int .i16 0, .int .i16 0, .int .i16 0, .int .i16 0, .int .i16 0, .int .i16 0, .int .i16 0, .int .i16 0, .int .i16 0, .int .i16 0, .int .i16 0, .int .i16 0, .int .i16 0, .int .i16 0, .int .i16 0, .int .i16 0, .int .i16 0, .int .i16 0, .int .i16 0, .int .i16 0, .int .i16 0, .int .i16 0, .int .i16 0, .int .i16 0]) (hi : (P.info? ty).map (·.size) = some 64)
    (hK : wpList P ops Q rest (a.put o.dst undef) (w.setRow b (arrV .i16 64 fun _ => 0))) : wpList P ops Q (o :: rest) a w :=
  wpList_store_arr h ty x y hgd ho hx (hy.trans (by rw [zeroArr16])) hi hK

theorem results_row_tmp {P : Program} {fn : Func} {p q : Tmp} {ty : TypeId} (h : fn.results = #[.cell p ty, .tmp q]) (tmps : Array Value) (w : World) (g : Nat) (t : TypeId) (cs : Array Value) (fr : Nat × Nat) (d : TypeDesc)
    (hp : tmps.getD p undef = .pointer (some ⟨g, 0, none⟩)) (hg : w.heap[g]? = some (.cells cs t fr))
    (hu : P.underlying ty = some d) (hd : (match d with | .struct _ | .array _ _ => true | _ => false) = true) (hi : (P.info? ty).map (·.size) = some cs.size) (v : Value) (hq : tmps.getD q undef = v) :
    (results fn tmps).run P w = .ok (.tuple #[.agg cs, v]) w := by
  have hp' : tmps[p]?.getD undef = .pointer (some ⟨g, 0, none⟩) := by simpa using hp
  have hq' : tmps[q]?.getD undef = v := by simpa using hq
  simp [results, h, hp', hq', asAddr, run_loadVar_row w g t ty cs fr d hg hu hd hi]

set_option maxRecDepth 100000 in
set_option maxHeartbeats 2000000 in
theorem specMirrorNegative_any (f : Nat → Int) (hf : S16 f) (w : World) :
    Calls Tryd.prog 7 #[.agg (arrV .i16 64 f)] w fun e w' => e = .returned (.tuple #[.agg (arrV .i16 64 (ngV (dnsB f) f mirP)), .int .i64 (ngC (dnsB f))]) ∧ Below w.heap.size w w' := by
  have a1 := (HasArr.new w 26 .i16 64 f).alloc (.cells #[.int .i16 0, .int .i16 0, .int .i16 0, .int .i16 0, .int .i16 0, .int .i16 0, .int .i16 0, .int .i16 0, .int .i16 0, .int .i16 0, .int .i16 0, .int .i16 0, .int .i16 0, .int .i16 0, .int .i16 0, .int .i16 0, .int .i16 0, .int .i16 0, .int .i16 0, .int .i16 0, .int .i16 0, .int .i16 0, .int .i16 0, .int .i16 0, .int .i16 0, .int .i16 0, .int .i16 0, .int .i16 0, .int .i16 0, .int .i16 0, .int .i16 0, .int .i16 0, .int .i16 0, .int .i16 0, .int .i16 0, .int .i16 0, .int .i16 0, .int .i16 0, .int .i16 0, .int .i16 0, .int .i16 0, .int .i16 0, .int .i16 0, .int .i16 0, .int .i16 0, .int .i16 0, .int .i16 0, .int .i16 0, .int .i16 0, .int .i16 0, .int .i16 0, .int .i16 0, .int .i16 0, .int .i16 0, .int .i16 0, .int .i16 0, .int .i16 0, .int .i16 0, .int .i16 0, .int .i16 0, .int .i16 0, .int .i16 0, .int .i16 0, .int .i16 0] 26)
  have a2 := HasArr.zero (w.alloc (.cells (arrV .i16 64 f) 26)) 26 (b := w.heap.size + 1) (by simp)
  have k0 := ((Below.refl w.heap.size w).alloc (Nat.le_refl _) (.cells (arrV .i16 64 f) 26)).alloc (by simp) (.cells #[.int .i16 0, .int .i16 0, .int .i16 0, .int .i16 0, .int .i16 0, .int .i16 0, .int .i16 0, .int .i16 0, .int .i16 0, .int .i16 0, .int .i16 0, .int .i16 0, .int .i16 0, .int .i16 0, .int .i16 0, .int .i16 0, .int .i16 0, .int .i16 0, .int .i16 0, .int .i16 0, .int .i16 0, .int .i16 0, .int .i16 0, .int .i16 0, .int .i16 0, .int .i16 0, .int .i16 0, .int .i16 0, .int .i16 0, .int .i16 0, .int .i16 0, .int .i16 0, .int .i16 0, .int .i16 0, .int .i16 0, .int .i16 0, .int .i16 0, .int .i16 0, .int .i16 0, .int .i16 0, .int .i16 0, .int .i16 0, .int .i16 0, .int .i16 0, .int .i16 0, .int .i16 0, .int .i16 0, .int .i16 0, .int .i16 0, .int .i16 0, .int .i16 0, .int .i16 0, .int .i16 0, .int .i16 0, .int .i16 0, .int .i16 0, .int .i16 0, .int .i16 0, .int .i16 0, .int .i16 0, .int .i16 0, .int .i16 0, .int .i16 0, .int .i16 0] 26)
  have hd := l03Negative_any w.heap.size 26 f hf _ a1
  clear hf
  rcases hv : dnsB f with _ | _
  · rw [hv] at hd
    have Hd := Lib.hid hd; clear hd hv
    rw [ngV_no]
    go_enter Tryd.func7, Tryd.ntmps7
    go_wp2_with fail
    refine Hd.out.mono ?_; rintro e w1 ⟨rfl, hb1⟩
    clear Hd
    have a3 := a2.below hb1 a2.lt
    have k1 := k0.trans (hb1.mono k0.size)
    clear a1 a2 k0
    go_wp2_with (refine wpList_store_z a3 _ _ _ rfl rfl rfl rfl sizeNeg ?_)
    refine bodyPost_ret (v := .tuple #[.agg (arrV .i16 64 (fun _ => 0)), .int .i64 1]) ?_ rfl ⟨rfl, below_setRow k1 (by omega) _⟩
    exact results_row_tmp rfl _ _ _ _ _ _ _ rfl (a3.setRow .i16 fun _ => 0) Tryd.underlying26 rfl (by rw [arrV_size]; exact sizeNeg) _ rfl
  · rw [hv] at hd
    have Hd := Lib.hid hd; clear hd hv
    rw [ngV_yes]
    go_enter Tryd.func7, Tryd.ntmps7
    go_wp2_with fail
    refine Hd.out.mono ?_; rintro e w1 ⟨rfl, hb1⟩
    clear Hd
    have b1 := (a1.below hb1 a1.lt).alloc (.cells #[.int .i16 0, .int .i16 0, .int .i16 0, .int .i16 0, .int .i16 0, .int .i16 0, .int .i16 0, .int .i16 0, .int .i16 0, .int .i16 0, .int .i16 0, .int .i16 0, .int .i16 0, .int .i16 0, .int .i16 0, .int .i16 0, .int .i16 0, .int .i16 0, .int .i16 0, .int .i16 0, .int .i16 0, .int .i16 0, .int .i16 0, .int .i16 0, .int .i16 0, .int .i16 0, .int .i16 0, .int .i16 0, .int .i16 0, .int .i16 0, .int .i16 0, .int .i16 0, .int .i16 0, .int .i16 0, .int .i16 0, .int .i16 0, .int .i16 0, .int .i16 0, .int .i16 0, .int .i16 0, .int .i16 0, .int .i16 0, .int .i16 0, .int .i16 0, .int .i16 0, .int .i16 0, .int .i16 0, .int .i16 0, .int .i16 0, .int .i16 0, .int .i16 0, .int .i16 0, .int .i16 0, .int .i16 0, .int .i16 0, .int .i16 0, .int .i16 0, .int .i16 0, .int .i16 0, .int .i16 0, .int .i16 0, .int .i16 0, .int .i16 0, .int .i16 0] 26)
    have b2 := (a2.below hb1 a2.lt).alloc (.cells #[.int .i16 0, .int .i16 0, .int .i16 0, .int .i16 0, .int .i16 0, .int .i16 0, .int .i16 0, .int .i16 0, .int .i16 0, .int .i16 0, .int .i16 0, .int .i16 0, .int .i16 0, .int .i16 0, .int .i16 0, .int .i16 0, .int .i16 0, .int .i16 0, .int .i16 0, .int .i16 0, .int .i16 0, .int .i16 0, .int .i16 0, .int .i16 0, .int .i16 0, .int .i16 0, .int .i16 0, .int .i16 0, .int .i16 0, .int .i16 0, .int .i16 0, .int .i16 0, .int .i16 0, .int .i16 0, .int .i16 0, .int .i16 0, .int .i16 0, .int .i16 0, .int .i16 0, .int .i16 0, .int .i16 0, .int .i16 0, .int .i16 0, .int .i16 0, .int .i16 0, .int .i16 0, .int .i16 0, .int .i16 0, .int .i16 0, .int .i16 0, .int .i16 0, .int .i16 0, .int .i16 0, .int .i16 0, .int .i16 0, .int .i16 0, .int .i16 0, .int .i16 0, .int .i16 0, .int .i16 0, .int .i16 0, .int .i16 0, .int .i16 0, .int .i16 0] 26)
    have hsz := hb1.size
    have hs2 := a2.lt
    have b3 := HasArr.zero w1 26 (b := w1.heap.size) rfl
    have k1 := (k0.trans (hb1.mono k0.size)).alloc (by have := k0.size; omega) (.cells #[.int .i16 0, .int .i16 0, .int .i16 0, .int .i16 0, .int .i16 0, .int .i16 0, .int .i16 0, .int .i16 0, .int .i16 0, .int .i16 0, .int .i16 0, .int .i16 0, .int .i16 0, .int .i16 0, .int .i16 0, .int .i16 0, .int .i16 0, .int .i16 0, .int .i16 0, .int .i16 0, .int .i16 0, .int .i16 0, .int .i16 0, .int .i16 0, .int .i16 0, .int .i16 0, .int .i16 0, .int .i16 0, .int .i16 0, .int .i16 0, .int .i16 0, .int .i16 0, .int .i16 0, .int .i16 0, .int .i16 0, .int .i16 0, .int .i16 0, .int .i16 0, .int .i16 0, .int .i16 0, .int .i16 0, .int .i16 0, .int .i16 0, .int .i16 0, .int .i16 0, .int .i16 0, .int .i16 0, .int .i16 0, .int .i16 0, .int .i16 0, .int .i16 0, .int .i16 0, .int .i16 0, .int .i16 0, .int .i16 0, .int .i16 0, .int .i16 0, .int .i16 0, .int .i16 0, .int .i16 0, .int .i16 0, .int .i16 0, .int .i16 0, .int .i16 0] 26)
    clear a1 a2 k0 hb1
    have hlt : w.heap.size + 1 < w1.heap.size := by simp at hsz hs2; omega
    have c1 := b1.rowOther (b' := w1.heap.size) (by omega) (arrV .i16 64 fun _ => 0)
    have c2 := b2.rowOther (b' := w1.heap.size) (by omega) (arrV .i16 64 fun _ => 0)
    have c3 := (b3.setRow .i16 fun _ => 0).congr (fun j _ => mixFN_0 (fun k => f (mirP k)) (fun _ => 0) j)
    have k2 := below_setRow k1 (b := w1.heap.size) (by omega) (arrV .i16 64 fun _ => 0)
    have K0 := Lib.hid (And.intro c1 (And.intro c2 (And.intro c3 k2)))
    clear b1 b2 k1 c1 c2 c3 k2 hsz hs2
    go_wp2_with (refine wpList_store_z b3 _ _ _ rfl rfl rfl rfl sizeNeg ?_)
    clear b3
    go_loopw [5] (fun i wr => ∃ k : Nat, k ≤ 64 ∧ i = .int .i64 k ∧ HasArr wr w.heap.size 26 .i16 64 f ∧ HasArr wr (w.heap.size + 1) 26 .i16 64 (fun _ => 0) ∧ HasArr wr w1.heap.size 26 .i16 64 (mixFN (fun k => f (mirP k)) (fun _ => 0) k) ∧ Below w.heap.size w wr) (fun i _ => 64 - (intOf i).toNat)
    case atStart => exact ⟨0, by omega, rfl, K0.out⟩
    case round =>
      obtain ⟨k, hk, rfl, h1, h2, h3, hB⟩ := hrel
      by_cases hkn : k < 64
      · have c1 : wr.cell? ⟨w.heap.size, k / 8 * 8 + 7 - k % 8, none⟩ = some (.int .i16 (f (mirP k))) := h1.cell (mirP_lt hkn)
        have c3 := h3.cell hkn
        have f3 := h3.free k
        have k3 := (h3.set k (f (mirP k))).congr (fun j _ => mixFN_step (fun k => f (mirP k)) (fun _ => 0) k j)
        have k2 := h2.other (a := ⟨w1.heap.size, k, none⟩) (by simp; omega) (.int .i16 (f (mirP k)))
        have k1 := h1.other (a := ⟨w1.heap.size, k, none⟩) (by simp; omega) (.int .i16 (f (mirP k)))
        have kB := hB.setCell (p := ⟨w1.heap.size, k, none⟩) (by simp; omega) (.int .i16 (f (mirP k)))
        have K := Lib.hid (And.intro k1 (And.intro k2 (And.intro k3 kB)))
        clear k1 k2 k3 kB h1 h2 h3 hB
        go_wp2
        go_roundw
        case rel => exact ⟨k + 1, by omega, by go_num, K.out⟩
        case measure => simp [intOf]; omega
      · obtain rfl : k = 64 := by omega
        have h3 := h3.congr (g := fun k => f (mirP k)) (fun j hj => mixFN_n _ _ hj)
        have h2' := h2.setRow .i16 (fun k => f (mirP k))
        have hB' := below_setRow hB (b := w.heap.size + 1) (by omega) (arrV .i16 64 fun k => f (mirP k))
        go_wp2_with (first | (refine wpList_load_arr h3 _ _ rfl rfl rfl Tryd.underlying26 sizeNeg ?_) | (refine wpList_store_arr h2 _ _ _ rfl rfl rfl rfl sizeNeg ?_))
        refine bodyPost_ret (v := .tuple #[.agg (arrV .i16 64 (fun k => f (mirP k))), .int .i64 0]) ?_ rfl ⟨rfl, hB'⟩
        exact results_row_tmp rfl _ _ _ _ _ _ _ rfl h2' Tryd.underlying26 rfl (by rw [arrV_size]; exact sizeNeg) _ rfl

set_option maxRecDepth 100000 in
set_option maxHeartbeats 2000000 in
theorem specTurnNegative_any (f : Nat → Int) (hf : S16 f) (w : World) :
    Calls Tryd.prog 9 #[.agg (arrV .i16 64 f)] w fun e w' => e = .returned (.tuple #[.agg (arrV .i16 64 (ngV (dnsB f) f turP)), .int .i64 (ngC (dnsB f))]) ∧ Below w.heap.size w w' := by
  have a1 := (HasArr.new w 26 .i16 64 f).alloc (.cells #[.int .i16 0, .int .i16 0, .int .i16 0, .int .i16 0, .int .i16 0, .int .i16 0, .int .i16 0, .int .i16 0, .int .i16 0, .int .i16 0, .int .i16 0, .int .i16 0, .int .i16 0, .int .i16 0, .int .i16 0, .int .i16 0, .int .i16 0, .int .i16 0, .int .i16 0, .int .i16 0, .int .i16 0, .int .i16 0, .int .i16 0, .int .i16 0, .int .i16 0, .int .i16 0, .int .i16 0, .int .i16 0, .int .i16 0, .int .i16 0, .int .i16 0, .int .i16 0, .int .i16 0, .int .i16 0, .int .i16 0, .int .i16 0, .int .i16 0, .int .i16 0, .int .i16 0, .int .i16 0, .int .i16 0, .int .i16 0, .int .i16 0, .int .i16 0, .int .i16 0, .int .i16 0, .int .i16 0, .int .i16 0, .int .i16 0, .int .i16 0, .int .i16 0, .int .i16 0, .int .i16 0, .int .i16 0, .int .i16 0, .int .i16 0, .int .i16 0, .int .i16 0, .int .i16 0, .int .i16 0, .int .i16 0, .int .i16 0, .int .i16 0, .int .i16 0] 26)
  have a2 := HasArr.zero (w.alloc (.cells (arrV .i16 64 f) 26)) 26 (b := w.heap.size + 1) (by simp)
  have k0 := ((Below.refl w.heap.size w).alloc (Nat.le_refl _) (.cells (arrV .i16 64 f) 26)).alloc (by simp) (.cells #[.int .i16 0, .int .i16 0, .int .i16 0, .int .i16 0, .int .i16 0, .int .i16 0, .int .i16 0, .int .i16 0, .int .i16 0, .int .i16 0, .int .i16 0, .int .i16 0, .int .i16 0, .int .i16 0, .int .i16 0, .int .i16 0, .int .i16 0, .int .i16 0, .int .i16 0, .int .i16 0, .int .i16 0, .int .i16 0, .int .i16 0, .int .i16 0, .int .i16 0, .int .i16 0, .int .i16 0, .int .i16 0, .int .i16 0, .int .i16 0, .int .i16 0, .int .i16 0, .int .i16 0, .int .i16 0, .int .i16 0, .int .i16 0, .int .i16 0, .int .i16 0, .int .i16 0, .int .i16 0, .int .i16 0, .int .i16 0, .int .i16 0, .int .i16 0, .int .i16 0, .int .i16 0, .int .i16 0, .int .i16 0, .int .i16 0, .int .i16 0, .int .i16 0, .int .i16 0, .int .i16 0, .int .i16 0, .int .i16 0, .int .i16 0, .int .i16 0, .int .i16 0, .int .i16 0, .int .i16 0, .int .i16 0, .int .i16 0, .int .i16 0, .int .i16 0] 26)
  have hd := l03Negative_any w.heap.size 26 f hf _ a1
  clear hf
  rcases hv : dnsB f with _ | _
  · rw [hv] at hd
    have Hd := Lib.hid hd; clear hd hv
    rw [ngV_no]
    go_enter Tryd.func9, Tryd.ntmps9
    go_wp2_with fail
    refine Hd.out.mono ?_; rintro e w1 ⟨rfl, hb1⟩
    clear Hd
    have a3 := a2.below hb1 a2.lt
    have k1 := k0.trans (hb1.mono k0.size)
    clear a1 a2 k0
    go_wp2_with (refine wpList_store_z a3 _ _ _ rfl rfl rfl rfl sizeNeg ?_)
    refine bodyPost_ret (v := .tuple #[.agg (arrV .i16 64 (fun _ => 0)), .int .i64 1]) ?_ rfl ⟨rfl, below_setRow k1 (by omega) _⟩
    exact results_row_tmp rfl _ _ _ _ _ _ _ rfl (a3.setRow .i16 fun _ => 0) Tryd.underlying26 rfl (by rw [arrV_size]; exact sizeNeg) _ rfl
  · rw [hv] at hd
    have Hd := Lib.hid hd; clear hd hv
    rw [ngV_yes]
    go_enter Tryd.func9, Tryd.ntmps9
    go_wp2_with fail
    refine Hd.out.mono ?_; rintro e w1 ⟨rfl, hb1⟩
    clear Hd
    have b1 := (a1.below hb1 a1.lt).alloc (.cells #[.int .i16 0, .int .i16 0, .int .i16 0, .int .i16 0, .int .i16 0, .int .i16 0, .int .i16 0, .int .i16 0, .int .i16 0, .int .i16 0, .int .i16 0, .int .i16 0, .int .i16 0, .int .i16 0, .int .i16 0, .int .i16 0, .int .i16 0, .int .i16 0, .int .i16 0, .int .i16 0, .int .i16 0, .int .i16 0, .int .i16 0, .int .i16 0, .int .i16 0, .int .i16 0, .int .i16 0, .int .i16 0, .int .i16 0, .int .i16 0, .int .i16 0, .int .i16 0, .int .i16 0, .int .i16 0, .int .i16 0, .int .i16 0, .int .i16 0, .int .i16 0, .int .i16 0, .int .i16 0, .int .i16 0, .int .i16 0, .int .i16 0, .int .i16 0, .int .i16 0, .int .i16 0, .int .i16 0, .int .i16 0, .int .i16 0, .int .i16 0, .int .i16 0, .int .i16 0, .int .i16 0, .int .i16 0, .int .i16 0, .int .i16 0, .int .i16 0, .int .i16 0, .int .i16 0, .int .i16 0, .int .i16 0, .int .i16 0, .int .i16 0, .int .i16 0] 26)
    have b2 := (a2.below hb1 a2.lt).alloc (.cells #[.int .i16 0, .int .i16 0, .int .i16 0, .int .i16 0, .int .i16 0, .int .i16 0, .int .i16 0, .int .i16 0, .int .i16 0, .int .i16 0, .int .i16 0, .int .i16 0, .int .i16 0, .int .i16 0, .int .i16 0, .int .i16 0, .int .i16 0, .int .i16 0, .int .i16 0, .int .i16 0, .int .i16 0, .int .i16 0, .int .i16 0, .int .i16 0, .int .i16 0, .int .i16 0, .int .i16 0, .int .i16 0, .int .i16 0, .int .i16 0, .int .i16 0, .int .i16 0, .int .i16 0, .int .i16 0, .int .i16 0, .int .i16 0, .int .i16 0, .int .i16 0, .int .i16 0, .int .i16 0, .int .i16 0, .int .i16 0, .int .i16 0, .int .i16 0, .int .i16 0, .int .i16 0, .int .i16 0, .int .i16 0, .int .i16 0, .int .i16 0, .int .i16 0, .int .i16 0, .int .i16 0, .int .i16 0, .int .i16 0, .int .i16 0, .int .i16 0, .int .i16 0, .int .i16 0, .int .i16 0, .int .i16 0, .int .i16 0, .int .i16 0, .int .i16 0] 26)
    have hsz := hb1.size
    have hs2 := a2.lt
    have b3 := HasArr.zero w1 26 (b := w1.heap.size) rfl
    have k1 := (k0.trans (hb1.mono k0.size)).alloc (by have := k0.size; omega) (.cells #[.int .i16 0, .int .i16 0, .int .i16 0, .int .i16 0, .int .i16 0, .int .i16 0, .int .i16 0, .int .i16 0, .int .i16 0, .int .i16 0, .int .i16 0, .int .i16 0, .int .i16 0, .int .i16 0, .int .i16 0, .int .i16 0, .int .i16 0, .int .i16 0, .int .i16 0, .int .i16 0, .int .i16 0, .int .i16 0, .int .i16 0, .int .i16 0, .int .i16 0, .int .i16 0, .int .i16 0, .int .i16 0, .int .i16 0, .int .i16 0, .int .i16 0, .int .i16 0, .int .i16 0, .int .i16 0, .int .i16 0, .int .i16 0, .int .i16 0, .int .i16 0, .int .i16 0, .int .i16 0, .int .i16 0, .int .i16 0, .int .i16 0, .int .i16 0, .int .i16 0, .int .i16 0, .int .i16 0, .int .i16 0, .int .i16 0, .int .i16 0, .int .i16 0, .int .i16 0, .int .i16 0, .int .i16 0, .int .i16 0, .int .i16 0, .int .i16 0, .int .i16 0, .int .i16 0, .int .i16 0, .int .i16 0, .int .i16 0, .int .i16 0, .int .i16 0] 26)
    clear a1 a2 k0 hb1
    have hlt : w.heap.size + 1 < w1.heap.size := by simp at hsz hs2; omega
    have c1 := b1.rowOther (b' := w1.heap.size) (by omega) (arrV .i16 64 fun _ => 0)
    have c2 := b2.rowOther (b' := w1.heap.size) (by omega) (arrV .i16 64 fun _ => 0)
    have c3 := (b3.setRow .i16 fun _ => 0).congr (fun j _ => mixFN_0 (fun k => f (turP k)) (fun _ => 0) j)
    have k2 := below_setRow k1 (b := w1.heap.size) (by omega) (arrV .i16 64 fun _ => 0)
    have K0 := Lib.hid (And.intro c1 (And.intro c2 (And.intro c3 k2)))
    clear b1 b2 k1 c1 c2 c3 k2 hsz hs2
    go_wp2_with (refine wpList_store_z b3 _ _ _ rfl rfl rfl rfl sizeNeg ?_)
    clear b3
    go_loopw [5] (fun i wr => ∃ k : Nat, k ≤ 64 ∧ i = .int .i64 k ∧ HasArr wr w.heap.size 26 .i16 64 f ∧ HasArr wr (w.heap.size + 1) 26 .i16 64 (fun _ => 0) ∧ HasArr wr w1.heap.size 26 .i16 64 (mixFN (fun k => f (turP k)) (fun _ => 0) k) ∧ Below w.heap.size w wr) (fun i _ => 64 - (intOf i).toNat)
    case atStart => exact ⟨0, by omega, rfl, K0.out⟩
    case round =>
      obtain ⟨k, hk, rfl, h1, h2, h3, hB⟩ := hrel
      by_cases hkn : k < 64
      · have c1 : wr.cell? ⟨w.heap.size, k / 8 + 8 * (7 - k % 8), none⟩ = some (.int .i16 (f (turP k))) := h1.cell (turP_lt hkn)
        have c3 := h3.cell hkn
        have f3 := h3.free k
        have k3 := (h3.set k (f (turP k))).congr (fun j _ => mixFN_step (fun k => f (turP k)) (fun _ => 0) k j)
        have k2 := h2.other (a := ⟨w1.heap.size, k, none⟩) (by simp; omega) (.int .i16 (f (turP k)))
        have k1 := h1.other (a := ⟨w1.heap.size, k, none⟩) (by simp; omega) (.int .i16 (f (turP k)))
        have kB := hB.setCell (p := ⟨w1.heap.size, k, none⟩) (by simp; omega) (.int .i16 (f (turP k)))
        have K := Lib.hid (And.intro k1 (And.intro k2 (And.intro k3 kB)))
        clear k1 k2 k3 kB h1 h2 h3 hB
        go_wp2
        go_roundw
        case rel => exact ⟨k + 1, by omega, by go_num, K.out⟩
        case measure => simp [intOf]; omega
      · obtain rfl : k = 64 := by omega
        have h3 := h3.congr (g := fun k => f (turP k)) (fun j hj => mixFN_n _ _ hj)
        have h2' := h2.setRow .i16 (fun k => f (turP k))
        have hB' := below_setRow hB (b := w.heap.size + 1) (by omega) (arrV .i16 64 fun k => f (turP k))
        go_wp2_with (first | (refine wpList_load_arr h3 _ _ rfl rfl rfl Tryd.underlying26 sizeNeg ?_) | (refine wpList_store_arr h2 _ _ _ rfl rfl rfl rfl sizeNeg ?_))
        refine bodyPost_ret (v := .tuple #[.agg (arrV .i16 64 (fun k => f (turP k))), .int .i64 0]) ?_ rfl ⟨rfl, hB'⟩
        exact results_row_tmp rfl _ _ _ _ _ _ _ rfl h2' Tryd.underlying26 rfl (by rw [arrV_size]; exact sizeNeg) _ rfl

/-- The code of an enlarged part. -/
def enC (v i j : Bool) : Int := if v = true then (if (i && j) = true then 0 else 2) else 1

end Go.Proofs.YtfnefeaplghgcaaDoor
