/-
  A map from densities of a negative to the densities of a paper for each light behind them: made, filled, asked. Condition: the points are a curve's.
-/
import Derived.Test.YtkeigoighebjpaaDoorShade
import Derived.Test.YtkeigoighebjpaaDoorQuietTail
import Derived.Maps.OwnOps
import Derived.Maps.OwnSet
namespace Go.Proofs.YtkeigoighebjpaaDoor
open Go.RowKit Go.ChangeMaps Go.MapKept

/-- An element reads as itself. -/
def heldR (v : Value) : Option (DataW Value × List MemPlace) := some (.held v, [])
theorem intKeyed : Maps.Keyed Tryd.prog 2 := Maps.int_keyed Tryd.underlying2
theorem keyI {k : Int} (h : -9223372036854775808 ≤ k) (h' : k ≤ 9223372036854775807) : keyOf Tryd.prog 2 (.int .i64 k) = some (.int .i64 k) := Maps.keyOf_int_mk Tryd.underlying2 (WalkArith.wf_i64 ⟨h, h'⟩)
theorem zeroShades (w : World) : (zeroValue 104).run Tryd.prog w = .ok (.agg #[.int .i64 0, .int .i64 0, .int .i64 0, .int .i64 0, .int .i64 0, .int .i64 0, .int .i64 0, .int .i64 0, .int .i64 0, .int .i64 0, .int .i64 0, .int .i64 0, .int .i64 0, .int .i64 0, .int .i64 0, .int .i64 0, .int .i64 0, .int .i64 0, .int .i64 0, .int .i64 0, .int .i64 0, .int .i64 0, .int .i64 0, .int .i64 0, .int .i64 0, .int .i64 0, .int .i64 0, .int .i64 0, .int .i64 0, .int .i64 0, .int .i64 0, .int .i64 0, .int .i64 0, .int .i64 0, .int .i64 0, .int .i64 0, .int .i64 0]) w := by kernel_rfl
/-- Block b is a map that holds F k's array for each k of S. -/
def ShMap (w : World) (b n : Nat) (F : Int → Nat → Int) (S : Int → Prop) : Prop :=
  ∃ D : DataW Value, w.ownsMap Tryd.prog 2 heldR b n D ∧ ∀ k, S k → ∀ z, D.atKey (.int .i64 k) z = .held (.agg (arrV .i64 37 (F k)))
section
variable {w w' : World} {b n : Nat} {F : Int → Nat → Int} {S : Int → Prop}
theorem ShMap.made (w : World) (F : Int → Nat → Int) : ShMap (w.alloc (.map #[] 0)) w.heap.size 0 F (fun _ => False) := ⟨_, World.ownsMap_made _ _ _ _, fun _ h => h.elim⟩
theorem ShMap.lt (h : ShMap w b n F S) : b < w.heap.size := by
  obtain ⟨D, h, _⟩ := h
  exact h.lt
theorem ShMap.below {B : Nat} (h : ShMap w b n F S) (hb : Below B w w') (hB : b < B) : ShMap w' b n F S := by
  have hl := h.lt
  obtain ⟨D, h, hS⟩ := h
  obtain ⟨es, clock, hh, r⟩ := h
  exact ⟨D, ⟨es, clock, (hb.block b hB).trans hh, r⟩, hS⟩
theorem ShMap.congr {S' : Int → Prop} (h : ShMap w b n F S) (e : ∀ k, S' k → S k) : ShMap w b n F S' := by
  obtain ⟨D, h, hS⟩ := h
  exact ⟨D, h, fun k hk => hS k (e k hk)⟩
theorem ShMap.look (h : ShMap w b n F S) {k : Int} (hk : S k) (h0 : -9223372036854775808 ≤ k) (h1 : k ≤ 9223372036854775807) : (Instr.lookup 101 (.map (some b)) (.int .i64 k) false).run Tryd.prog w = .ok (.agg (arrV .i64 37 (F k))) w := by
  obtain ⟨D, h, hS⟩ := h
  obtain ⟨v, ps, hr, hv⟩ := h.lookup (t := 101) (e := 104) intKeyed Tryd.underlying101 (zeroShades w) (zd := .held (.agg #[.int .i64 0, .int .i64 0, .int .i64 0, .int .i64 0, .int .i64 0, .int .i64 0, .int .i64 0, .int .i64 0, .int .i64 0, .int .i64 0, .int .i64 0, .int .i64 0, .int .i64 0, .int .i64 0, .int .i64 0, .int .i64 0, .int .i64 0, .int .i64 0, .int .i64 0, .int .i64 0, .int .i64 0, .int .i64 0, .int .i64 0, .int .i64 0, .int .i64 0, .int .i64 0, .int .i64 0, .int .i64 0, .int .i64 0, .int .i64 0, .int .i64 0, .int .i64 0, .int .i64 0, .int .i64 0, .int .i64 0, .int .i64 0, .int .i64 0])) (zp := []) rfl (keyI h0 h1)
  rw [hS k hk] at hv
  unfold heldR at hv
  simp only [Option.some.injEq, Prod.mk.injEq, DataW.held.injEq] at hv
  rw [hv.1] at hr
  exact hr
theorem ShMap.put (h : ShMap w b n F S) (hn : n < 100) {k : Int} (h0 : -9223372036854775808 ≤ k) (h1 : k ≤ 9223372036854775807) : ∃ w', (Instr.mapUpdate 101 (.map (some b)) (.int .i64 k) (.agg (arrV .i64 37 (F k)))).run Tryd.prog w = .ok () w' ∧ ShMap w' b (n + 1) F (fun x => S x ∨ x = k) ∧ w.grownBy w' (some b) := by
  obtain ⟨D, h, hS⟩ := h
  have hM := h.isMap
  obtain ⟨w', hr, h2, hg⟩ := h.update (t := 101) (e := 104) intKeyed Tryd.underlying101 (by unfold maxLen; omega) (d := .held (.agg (arrV .i64 37 (F k)))) (ps := []) (keyI h0 h1) rfl
  refine ⟨w', hr, ⟨_, h2, fun x hx z => ?_⟩, hg⟩
  by_cases e : x = k
  · subst e
    exact Maps.atKey_put_same hM (by unfold WideAt.IsKeyLit; trivial) _ _
  · rw [Maps.atKey_put_other (fun h => e (by injection h))]
    rcases hx with hx | hx
    · exact hS x hx z
    · exact absurd hx e
end
section
variable {ops : Array Oper} {rest : List Oper} {o : Oper} {a : Act} {Q : Exit → Act → World → Prop} {w : World} {b n : Nat} {F : Int → Nat → Int} {S : Int → Prop} {k : Int}
theorem wpList_lookup_sh (h : ShMap w b n F S) (hk : S k) (h0 : -9223372036854775808 ≤ k) (h1 : k ≤ 9223372036854775807) (hgd : o.guard = none) (m x : Operand) (ho : o.op = .lookup 101 m x false) (hm : a.eval m = .map (some b)) (hx : a.eval x = .int .i64 k)
    (hK : wpList Tryd.prog ops Q rest (a.put o.dst (.agg (arrV .i64 37 (F k)))) w) : wpList Tryd.prog ops Q (o :: rest) a w := by
  refine wpList_plain hgd fun K' hK' => ?_
  have hrun := h.look hk h0 h1
  unfold Oper.wp
  simp [execOp, ho, hm, hx, hrun, Result.andThen]
  exact hK' _ _ hK
theorem wpList_mapUpdate_sh (h : ShMap w b n F S) (hn : n < 100) (h0 : -9223372036854775808 ≤ k) (h1 : k ≤ 9223372036854775807) (hgd : o.guard = none) (m x v : Operand) (ho : o.op = .mapUpdate 101 m x v) (hm : a.eval m = .map (some b)) (hx : a.eval x = .int .i64 k) (hv : a.eval v = .agg (arrV .i64 37 (F k)))
    (hK : ∀ w', ShMap w' b (n + 1) F (fun x => S x ∨ x = k) → w.grownBy w' (some b) → wpList Tryd.prog ops Q rest (a.put o.dst undef) w') : wpList Tryd.prog ops Q (o :: rest) a w := by
  refine wpList_plain hgd fun K' hK' => ?_
  obtain ⟨w', hrun, r1, r2⟩ := h.put hn h0 h1
  unfold Oper.wp
  simp [execOp, ho, hm, hx, hv, hrun, Result.andThen]
  exact hK' _ _ (hK w' r1 r2)
theorem wpQuiet_lookup_sh {C : World → Prop} {Q : Act → Prop} (h : ∀ W, C W → ShMap W b n F S) (hk : S k) (h0 : -9223372036854775808 ≤ k) (h1 : k ≤ 9223372036854775807) (hgd : o.guard = none) (m x : Operand) (ho : o.op = .lookup 101 m x false) (hm : a.eval m = .map (some b)) (hx : a.eval x = .int .i64 k)
    (hK : wpQuiet Tryd.prog ops C Q rest (a.put o.dst (.agg (arrV .i64 37 (F k))))) : wpQuiet Tryd.prog ops C Q (o :: rest) a :=
  BigFrame.wpQuiet_want (by simp [Region.wanted, hgd]) fun _ hK' => ⟨_, fun W hW => by
    have hrun := (h W hW).look hk h0 h1
    have e : (execOp a.eval o).run Tryd.prog W = .ok (.value (.agg (arrV .i64 37 (F k)))) W := by simp [execOp, ho, hm, hx, hrun, Result.andThen]
    unfold Oper.quietAt; rw [e]; exact ⟨rfl, rfl⟩, hK' _ hK⟩
end

set_option maxRecDepth 100000 in
set_option maxHeartbeats 4000000 in
theorem shadesBehind_any (g n cap : Nat) (xs ys : Nat → Int) (hn : n ≤ 1048576) (c : Crv n xs ys) (g2 m2 cap2 : Nat) (ds : Nat → Int) (hm2 : m2 ≤ 10) (hd : ∀ j, j < m2 → 0 ≤ ds j ∧ ds j ≤ 400) (w : World) (hr : PtRow w g n xs ys) (hr2 : IRow w g2 m2 ds) :
    Calls Tryd.prog 64 #[.slice (some ⟨g, 0, none⟩) n cap, .slice (some ⟨g2, 0, none⟩) m2 cap2] w fun e w' => ∃ b, e = .returned (.map (some b)) ∧ w.heap.size ≤ b ∧ ShMap w' b m2 (shdF n xs ys) (fun x => ∃ j, j < m2 ∧ x = ds j) ∧ Below w.heap.size w w' := by
  have hlt := hr.lt
  have hlt2 := hr2.lt
  have hsh := fun (d : Int) h h' W hW => shadesOf_any g n cap xs ys d hn c h h' W hW
  generalize shdF n xs ys = F at *
  have Hsh := Lib.hid hsh; clear hsh
  have Hd := Lib.hid hd; clear hd
  have Hr := Lib.hid hr; clear hr
  have M0 := ShMap.made w F
  have k0 := (Below.refl w.heap.size w).alloc (Nat.le_refl _) (.map #[] 0)
  have hmm := @run_makeMap Tryd.prog
  go_enter Tryd.func64, Tryd.ntmps64
  go_wp2_with fail
  generalize w.alloc (.map #[] 0) = W at *
  go_loopw [11] (fun iv wr => ∃ k : Nat, iv = .int .i64 k ∧ k ≤ m2 ∧ ShMap wr w.heap.size k F (fun x => ∃ j, j < k ∧ x = ds j) ∧ Below w.heap.size w wr) (fun iv _ => m2 - (intOf iv).toNat)
  case atStart => exact ⟨0, rfl, by omega, M0.congr (fun k hk => by obtain ⟨j, hj, _⟩ := hk; omega), k0⟩
  case round =>
    clear M0 k0 hmm
    obtain ⟨k, rfl, hk, hM, hB⟩ := hrel
    by_cases hkn : k < m2
    rotate_left
    · obtain rfl : k = m2 := by omega
      go_wp2_with fail
      go_ret
      exact ⟨_, rfl, Nat.le_refl _, hM, hB⟩
    have c1 := (hr2.below hB hlt2).cell hkn
    have hdk := Hd.out k hkn
    have hstep : ∀ x, (∃ j, j < k + 1 ∧ x = ds j) → (∃ j, j < k ∧ x = ds j) ∨ x = ds k := fun x hx => by
      obtain ⟨j, hj, rfl⟩ := hx
      rcases Nat.lt_or_ge j k with h | h
      · exact .inl ⟨j, h, rfl⟩
      · obtain rfl : j = k := by omega
        exact .inr rfl
    have Hstep := Lib.hid hstep; clear hstep
    generalize ds k = Y at *
    have hs := Lib.hid (Hsh.out Y hdk.1 hdk.2)
    go_wp2_with fail
    refine (hs.out _ (Hr.out.below hB hlt)).mono ?_; rintro e w2 ⟨rfl, hb2⟩
    have k2 := hB.trans (hb2.mono hB.size)
    have M2 := hM.below hb2 hM.lt
    clear hb2 hM hB c1
    have z2 := k2.size
    go_wp2_with (at_mapUpdate; refine wpList_mapUpdate_sh M2 (by omega) (by omega) (by omega) rfl _ _ _ rfl rfl rfl rfl ?_)
    intro w3 M3 hg3
    have k3 : Below w.heap.size w w3 := k2.grown hg3 z2 (fun jj e => by injection e with e; omega)
    have M4 := M3.congr Hstep.out
    clear M3 M2 k2 hg3
    go_wp2_with fail
    go_roundw
    case rel => exact ⟨k + 1, by go_num, by omega, M4, k3⟩
    case measure => simp [intOf]; omega

/-- What an error is that stands for 0 or 6. -/
def errN (s : Ers) (c : Int) : Value := if c = 0 then .nilIface else errV s.enotfound
theorem errN_0 (s : Ers) : errN s 0 = .nilIface := rfl
theorem errN_6 (s : Ers) : errN s 6 = errV s.enotfound := by unfold errN; rw [if_neg (by decide)]
theorem leaC_or (f : Nat → Int) (y : Int) : leaC f y = 0 ∨ leaC f y = 6 := by unfold leaC; split <;> omega
theorem errN_code {s : Ers} {f : Nat → Int} {y : Int} : IsCode s (errN s (leaC f y)) (leaC f y) := by
  rcases leaC_or f y with h | h
  · rw [h, errN_0]; exact .ok
  · rw [h, errN_6]; exact .enotfound
theorem leastLight_v (s : Ers) (f : Nat → Int) (y : Int) (w : World) (hE : ErrEnv s w) :
    Calls Tryd.prog 65 #[.agg (arrV .i64 37 f), .int .i64 y] w fun e w' => e = .returned (.tuple #[.int .i64 (ifOk (leaC f y) (leaK f y : Nat)), errN s (leaC f y)]) ∧ Below w.heap.size w w' :=
  (leastLight_any s f y w hE).mono fun e w' ⟨v, hv, he, hb⟩ => by
    refine ⟨?_, hb⟩
    rw [he]
    rcases leaC_or f y with h | h
    · rw [h] at hv ⊢
      cases hv
      rfl
    · rw [h] at hv ⊢
      cases hv
      rw [errN_6]
end Go.Proofs.YtkeigoighebjpaaDoor

