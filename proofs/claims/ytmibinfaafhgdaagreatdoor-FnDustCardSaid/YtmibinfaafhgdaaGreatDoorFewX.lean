/-
  The least of some choices, by slices.MinFunc with the program's order. Condition: at least one list, at most 1048576 of at most 1048576 numbers.
-/
import Derived.Test.YtmibinfaafhgdaaGreatDoorFewU
import Derived.Lib.AppendZerosOnto
import Derived.Laws.Slices
import Derived.Maps.AppendAt
import Derived.Deep.Upon
import Derived.Lib.SliceRun
namespace Go.Proofs.YtmibinfaafhgdaaGreatDoor
open Go.RowKit

/-- Numbers in lists in a list. -/
def LLIn (w : World) (L U : Nat) (A : Option Addr) (n : Nat) (ls : Nat → List Int) : Prop :=
  n = 0 ∨ ∃ b o, A = some ⟨b, o, none⟩ ∧ b < w.heap.size ∧ ∀ j, j < n → ∃ v, w.cell? ⟨b, o + j, none⟩ = some v ∧ OwnL w L U v (ls j)
theorem LLIn.below {w w' : World} {L U n B : Nat} {A : Option Addr} {ls : Nat → List Int} (h : LLIn w L U A n ls) (hb : Below B w w') (hB : w.heap.size ≤ B) (hU : U ≤ B) : LLIn w' L U A n ls := by
  rcases h with h | ⟨b, o, e, hlt, hc⟩
  · exact .inl h
  · refine .inr ⟨b, o, e, Nat.lt_of_lt_of_le hlt hb.size, fun j hj => ?_⟩
    obtain ⟨v, h1, h2⟩ := hc j hj
    exact ⟨v, below_cellOf hb h1 hB, h2.below hb hU⟩
/-- The least of the first k lists. -/
def minL (ls : Nat → List Int) : Nat → List Int
  | 0 => ls 0
  | k + 1 => if beatL (ls k) (minL ls k) = true then ls k else minL ls k
theorem lexL_self : ∀ l : List Int, lexL l l = false
  | [] => rfl
  | a :: l => by show (if a = a then lexL l l else decide (a < a)) = false; rw [if_pos rfl]; exact lexL_self l
theorem minL_1 (ls : Nat → List Int) : minL ls 1 = ls 0 := by
  show (if beatL (ls 0) (ls 0) = true then ls 0 else ls 0) = ls 0
  split <;> rfl
theorem minL_yes {ls : Nat → List Int} {k : Nat} (h : beatL (ls k) (minL ls k) = true) : minL ls (k + 1) = ls k := if_pos h
theorem minL_no {ls : Nat → List Int} {k : Nat} (h : ¬ beatL (ls k) (minL ls k) = true) : minL ls (k + 1) = minL ls k := if_neg h
theorem minL_len {ls : Nat → List Int} {c n : Nat} (h : ∀ j, j < n → (ls j).length ≤ c) (h1 : 1 ≤ n) : ∀ k, k ≤ n → (minL ls k).length ≤ c
  | 0, _ => h 0 h1
  | k + 1, hk => by
    unfold minL
    split
    · exact h k (by omega)
    · exact minL_len h h1 k (by omega)

set_option maxRecDepth 100000 in
set_option maxHeartbeats 4000000 in
theorem MinFunc_any (L U : Nat) (A : Option Addr) (n cap : Nat) (ls : Nat → List Int) (h1 : 1 ≤ n) (hn : n ≤ 1048576) (hl : ∀ j, j < n → (ls j).length ≤ 1048576) (w : World) (hU : U ≤ w.heap.size) (h : LLIn w L U A n ls) :
    Calls Tryz.prog 60 #[.slice A n cap, .func (.func 61) #[] #[]] w fun e w' => ∃ v, e = .returned v ∧ OwnL w' L U v (minL ls n) ∧ Below w.heap.size w w' := by
  have hml := minL_len hl h1
  have H := Lib.hid h; have HL := Lib.hid hl; have HML := Lib.hid hml; clear h hl hml
  have hnz : ¬ (n : Int) < 1 := by omega
  rcases H.out with h0 | ⟨b, o, rfl, hlb, hcc⟩
  · exfalso; omega
  obtain ⟨v0, c0, ov⟩ := hcc 0 h1
  rw [← minL_1 ls] at ov
  have c0 : w.cell? ⟨b, o, none⟩ = some v0 := c0
  have n0 : (0 : Int) < n := by omega
  have OV := Lib.hid ov; clear ov hcc
  go_enter Tryz.func60, Tryz.ntmps60
  go_wp2_with fail
  go_loopw [5, 6] (fun mv iv wr => ∃ k : Nat, 1 ≤ k ∧ k ≤ n ∧ iv = .int .i64 (k : Int) ∧ OwnL wr L U mv (minL ls k) ∧ Below w.heap.size w wr) (fun _ iv _ => n - (intOf iv).toNat)
  case atStart => exact ⟨1, Nat.le_refl _, h1, rfl, OV.out, Below.refl _ _⟩
  case round =>
    clear c0 OV
    obtain ⟨k, hk1, hk, rfl, hm, hB⟩ := hrel
    by_cases hkn : k < n
    · have hkn' : (k : Int) < n := by omega
      rcases H.out.below hB (Nat.le_refl _) hU with h0 | ⟨b', o', e0, hlb', hcc⟩
      · exfalso; omega
      injection e0 with e0
      injection e0 with e1 e2
      subst e1 e2
      obtain ⟨v, cv, ov⟩ := hcc k hkn
      obtain ⟨A1, c1, rfl, i1⟩ := ov.ints
      obtain ⟨A2, c2, rfl, i2⟩ := hm.ints
      have hcmp := compareChoices_any A1 A2 (ls k) (minL ls k) c1 c2 wr i1 i2 (HL.out k hkn) (HML.out k hk)
      have HC := Lib.hid hcmp; have HM := Lib.hid hm; have HV := Lib.hid ov; have HB := Lib.hid hB
      have HY := Lib.hid (fun h => minL_yes (ls := ls) (k := k) h); have HN := Lib.hid (fun h => minL_no (ls := ls) (k := k) h)
      have HCC := Lib.hid hcc
      clear hcmp hm ov hB hcc i1 i2 hlb'
      have cv3 := Lib.hid (fun W (hb : Below wr.heap.size wr W) => below_cellOf hb cv (Nat.le_refl _))
      generalize hML : minL ls k = ml at *
      generalize hLS : ls k = lk at *
      have e9 := Lib.hid (And.intro hML hLS); clear hML hLS
      go_wp2_with fail
      refine HC.out.mono ?_; rintro e w2 ⟨⟨z, rfl, hz⟩, hb2⟩
      have cv4 := cv3.out w2 hb2
      have HB2 := Lib.hid (HB.out.trans (hb2.mono HB.out.size))
      have HM2 := Lib.hid (HM.out.below hb2 (Nat.le_trans hU HB.out.size))
      have HV2 := Lib.hid (HV.out.below hb2 (Nat.le_trans hU HB.out.size))
      clear hb2 HB HM HV cv3 HC cv
      by_cases hzn : z < 0
      · have HR := Lib.hid (HY.out (hz.1 hzn)); clear HY HN hz
        go_wp2_with fail
        go_roundw
        case rel => exact ⟨k + 1, by omega, by omega, by go_num, by rw [HR.out]; exact HV2.out, HB2.out⟩
        case measure => simp [intOf]; omega
      · have HR := Lib.hid (HN.out (fun h => hzn (hz.2 h))); clear HY HN hz
        go_wp2_with fail
        go_roundw
        case rel => exact ⟨k + 1, by omega, by omega, by go_num, by rw [HR.out]; exact HM2.out, HB2.out⟩
        case measure => simp [intOf]; omega
    · obtain rfl : n = k := by omega
      go_wp2_with fail
      go_ret
      exact ⟨_, rfl, hm, hB⟩
end Go.Proofs.YtmibinfaafhgdaaGreatDoor

namespace Go.Proofs.YtmibinfaafhgdaaGreatDoor
open Go.RowKit

/-- A set with one more, larger member. -/
theorem subI_add {t i : Nat} (ht : t < 2 ^ i) : ∀ n, i < n → subI (2 ^ i + t) n = subI t n ++ [(i : Int)]
  | 0, h => by omega
  | n + 1, h => by
    by_cases e : i = n
    · subst e
      have h1 : (2 ^ i + t).testBit i = true := by rw [Nat.testBit_two_pow_add_eq, Nat.testBit_lt_two_pow ht]; rfl
      rw [subI_yes h1, subI_no (Nat.testBit_lt_two_pow ht)]
      congr 1
      have : ∀ m, m ≤ i → subI (2 ^ i + t) m = subI t m := by
        intro m
        induction m with
        | zero => intro _; rfl
        | succ m ih =>
          intro hm
          have hb : (2 ^ i + t).testBit m = t.testBit m := Nat.testBit_two_pow_add_gt (by omega) t
          rcases hc : t.testBit m with _ | _
          · rw [subI_no hc, subI_no (hb.trans hc), ih (by omega)]
          · rw [subI_yes hc, subI_yes (hb.trans hc), ih (by omega)]
      exact this i (Nat.le_refl _)
    · have hin : i < n := by omega
      have hp : 2 ^ (i + 1) ≤ 2 ^ n := Nat.pow_le_pow_right (by omega) (by omega)
      have h2 : 2 ^ i + t < 2 ^ n := by rw [Nat.pow_succ] at hp; omega
      rw [subI_no (Nat.testBit_lt_two_pow h2), subI_no (Nat.testBit_lt_two_pow (by omega : t < 2 ^ n)), subI_add ht n hin]
/-- The good sets from 1 to k, in order. -/
def gdL (n : Nat) (ok : Nat → Bool) : Nat → List (List Int)
  | 0 => []
  | k + 1 => if ok (k + 1) = true then gdL n ok k ++ [subI (k + 1) n] else gdL n ok k
theorem minL_congr {ls rs : Nat → List Int} : ∀ {k : Nat}, 1 ≤ k → (∀ j, j < k → ls j = rs j) → minL ls k = minL rs k
  | 0, h, _ => by omega
  | k + 1, _, h => by
    by_cases e : k = 0
    · subst e
      rw [minL_1, minL_1, h 0 (by omega)]
    · have ih := minL_congr (k := k) (by omega) (fun j hj => h j (by omega))
      show (if beatL (ls k) (minL ls k) = true then ls k else minL ls k) = if beatL (rs k) (minL rs k) = true then rs k else minL rs k
      rw [ih, h k (by omega)]
theorem fewB_min (n : Nat) (ok : Nat → Bool) : ∀ k, fewB n ok k = if gdL n ok k = [] then none else some (minL (fun j => (gdL n ok k).getD j []) (gdL n ok k).length)
  | 0 => rfl
  | k + 1 => by
    have ih := fewB_min n ok k
    rcases hk : ok (k + 1) with _ | _
    · have e : gdL n ok (k + 1) = gdL n ok k := if_neg (by rw [hk]; decide)
      rw [fewB_no hk, ih, e]
    · have e : gdL n ok (k + 1) = gdL n ok k ++ [subI (k + 1) n] := if_pos hk
      have hlast : (gdL n ok (k + 1)).getD (gdL n ok k).length [] = subI (k + 1) n := by
        rw [e, List.getD_eq_getElem?_getD, List.getElem?_append_right (Nat.le_refl _)]; simp
      have hlen : (gdL n ok (k + 1)).length = (gdL n ok k).length + 1 := by rw [e]; simp
      rw [if_neg (by rw [e]; simp), hlen]
      by_cases h0 : gdL n ok k = []
      · rw [if_pos h0] at ih
        rw [fewB_first hk ih]
        rw [h0] at hlast ⊢
        rw [show ([] : List (List Int)).length + 1 = 1 from rfl, minL_1]
        exact congrArg some hlast.symm
      · rw [if_neg h0] at ih
        have hpos : 1 ≤ (gdL n ok k).length := by
          cases h : gdL n ok k with
          | nil => exact absurd h h0
          | cons a l => simp
        have hpre : minL (fun j => (gdL n ok (k + 1)).getD j []) (gdL n ok k).length = minL (fun j => (gdL n ok k).getD j []) (gdL n ok k).length :=
          minL_congr hpos fun j hj => by
            show (gdL n ok (k + 1)).getD j [] = (gdL n ok k).getD j []
            rw [e, List.getD_eq_getElem?_getD, List.getElem?_append_left hj, ← List.getD_eq_getElem?_getD]
        have hstep : minL (fun j => (gdL n ok (k + 1)).getD j []) ((gdL n ok k).length + 1) = if beatL (subI (k + 1) n) (minL (fun j => (gdL n ok k).getD j []) (gdL n ok k).length) = true then subI (k + 1) n else minL (fun j => (gdL n ok k).getD j []) (gdL n ok k).length := by
          show (if beatL ((gdL n ok (k + 1)).getD (gdL n ok k).length []) (minL (fun j => (gdL n ok (k + 1)).getD j []) (gdL n ok k).length) = true then (gdL n ok (k + 1)).getD (gdL n ok k).length [] else minL (fun j => (gdL n ok (k + 1)).getD j []) (gdL n ok k).length) = _
          rw [hlast, hpre]
        rw [hstep]
        by_cases hb : beatL (subI (k + 1) n) (minL (fun j => (gdL n ok k).getD j []) (gdL n ok k).length) = true
        · rw [fewB_beat hk ih hb, if_pos hb]
        · rw [fewB_keep hk ih (by simpa using hb), if_neg hb]
end Go.Proofs.YtmibinfaafhgdaaGreatDoor

namespace Go.Proofs.YtmibinfaafhgdaaGreatDoor
open Go.RowKit

/-- Numbers in a row of cells, from an offset on. -/
structure IPart (w : World) (b o : Nat) (l : List Int) : Prop where
  lt : b < w.heap.size
  cells : ∀ j, j < l.length → w.cell? ⟨b, o + j, none⟩ = some (.int .i64 (l.getD j 0))
theorem IPart.below {w w' : World} {b o : Nat} {l : List Int} (h : IPart w b o l) {B : Nat} (hb : Below B w w') (hB : b < B) : IPart w' b o l :=
  ⟨Nat.lt_of_lt_of_le h.lt hb.size, fun j hj => (hb.cell (p := ⟨b, o + j, none⟩) hB).trans (h.cells j hj)⟩
theorem IPart.news {w : World} {b o : Nat} {l : List Int} (h : IPart w b o l) : ∀ j u, (l.map (Value.int .i64))[j]? = some u → w.cell? ((⟨b, o, none⟩ : Addr).add j) = some u := fun j u hj => by
  have hl : j < l.length := by simpa using (List.getElem?_eq_some_iff.1 hj).1
  rw [show (⟨b, o, none⟩ : Addr).add j = ⟨b, o + j, none⟩ by simp [Addr.add], h.cells j hl, ← hj]
  simp [hl]
theorem ints_one (l : List Int) : ∀ u ∈ l.map (Value.int .i64), u.oneCell' = true := fun u h => by
  obtain ⟨x, _, rfl⟩ := List.mem_map.1 h
  rfl
theorem below_drew1G (w : World) : Below w.heap.size w w.drew := (Below.refl _ _).drew
theorem zerosG_size (z : Array Value) (n : Nat) : (Builtin.zeroCells z n).size = n * z.size := by simp [Builtin.zeroCells]
set_option maxRecDepth 100000 in
set_option maxHeartbeats 1000000 in
theorem GrowI_any (N : Nat) (hN : N ≤ 2097152) (w : World) :
    Calls Tryz.prog 89 #[.slice none 0 0, .int .i64 N] w fun e w' => ∃ v, e = .returned v ∧ w'.ownsRow w.heap.size 2 1 v 0 [] ∧ Below w.heap.size w w' := by
  obtain ⟨i0, hi, hz0, hz1, hz2⟩ := info_parts i64Info
  rcases Nat.eq_zero_or_pos N with rfl | hpos
  · go_enter Tryz.func89, Tryz.ntmps89
    go_wp2
    go_ret
    exact ⟨_, rfl, ⟨rfl, .inl ⟨rfl, rfl⟩⟩, Below.refl _ _⟩
  · have hrz := fun ty => Lib.run_append_grow_zeros w 37 3 ty 2 i0 _ .i64 .i64 Tryz.underlying37 Tryz.underlying3 hi hz0 none 0 0 [] (run_firstCells_none w.drew i0.size 0 0 0) N hpos (by rw [hz1]; decide) (by omega) (by omega) (by rw [hz2]; omega) (by rw [Nat.zero_add]; exact growslice_fits hpos (by rw [hz2]; omega))
    rw [Nat.zero_add] at hrz
    have hG0 : N ≤ grownCap w N 0 2 := grownCap_ge w _ _ _
    have hGm := grownCap_le_maxLen w N 0 2 (by unfold maxLen; omega)
    generalize grownCap w N 0 2 = G at hrz hG0 hGm
    have h4 : (N : Int) > 0 := by omega
    have hown : (w.drew.alloc (.cells (([] : List Value).toArray ++ Builtin.zeroCells (Value.int .i64 0).cells N ++ Builtin.zeroCells (Value.int .i64 0).cells (G - N)) 2)).ownsRow w.heap.size 2 1 (.slice (some ⟨w.heap.size, 0, none⟩) 0 G) 0 [] := by
      refine ⟨rfl, .inr ⟨w.heap.size, G, _, rfl, Nat.le_refl _, heap_alloc_new w.drew _, Nat.zero_le _, hGm, ?_, by simp⟩⟩
      simp only [Array.size_append, zerosG_size, Value.cells]
      simp; omega
    have hB : Below w.heap.size w (w.drew.alloc (.cells (([] : List Value).toArray ++ Builtin.zeroCells (Value.int .i64 0).cells N ++ Builtin.zeroCells (Value.int .i64 0).cells (G - N)) 2)) := (below_drew1G w).alloc (Nat.le_refl _) _
    generalize w.drew.alloc (.cells (([] : List Value).toArray ++ Builtin.zeroCells (Value.int .i64 0).cells N ++ Builtin.zeroCells (Value.int .i64 0).cells (G - N)) 2) = W at hrz hown hB
    have hG63 : G ≤ 9223372036854775807 := by unfold maxLen at hGm; omega
    go_enter Tryz.func89, Tryz.ntmps89
    go_wp2_with (at_builtin; refine Lib.wpList_append_run _ rfl _ _ _ _ rfl _ _ rfl rfl _ _ (hrz _) ?_)
    all_goals (go_ret; exact ⟨_, rfl, hown, hB⟩)

set_option maxRecDepth 100000 in
set_option maxHeartbeats 2000000 in
theorem ConcatI_any (b o m c : Nat) (l : List Int) (hlm : l.length = m) (b' o' m' c' : Nat) (r : List Int) (hrm : r.length = m') (g : Nat) (hm : m ≤ 1048576) (hm' : m' ≤ 1048576) (w : World) (hp : IPart w b o l) (hp' : IPart w b' o' r)
    (h0 : w.cell? ⟨g, 0, none⟩ = some (.slice (some ⟨b, o, none⟩) m c)) (h1 : w.cell? ⟨g, 1, none⟩ = some (.slice (some ⟨b', o', none⟩) m' c')) :
    Calls Tryz.prog 80 #[.slice (some ⟨g, 0, none⟩) 2 2] w fun e w' => ∃ v, e = .returned v ∧ w'.ownsRow w.heap.size 2 1 v (m + m') ((l ++ r).map (Value.int .i64)) ∧ Below w.heap.size w w' := by
  obtain ⟨i0, hi, hz0, hz1, hz2⟩ := info_parts i64Info
  have hg : g < w.heap.size := World.block_lt_of_cell? w _ h0
  have hgr := GrowI_any (m + m') (by omega) w
  have e0 : (m : Int) + (m' : Int) = ((m + m' : Nat) : Int) := by omega
  have E0 := Lib.hid e0; clear e0
  have n0 : decide ((m : Int) < 0) = false := decide_eq_false (by omega)
  have n1 : decide ((m : Int) + (m' : Int) < 0) = false := decide_eq_false (by omega)
  have Hgr := Lib.hid hgr; clear hgr
  go_enter Tryz.func80, Tryz.ntmps80
  go_wp2_with fail
  refine wp_loop_rounds 3 ?_
  rw [rounds_succ]
  go_wp2_with fail
  rw [rounds_succ]
  go_wp2_with fail
  rw [rounds_succ]
  go_wp2_with fail
  rw [E0.out]
  refine Hgr.out.mono ?_; rintro e w1 ⟨v, rfl, o1, hb1⟩
  have h0' := below_cellOf hb1 h0 (Nat.le_refl _)
  have h1' := below_cellOf hb1 h1 (Nat.le_refl _)
  have p1 := (hp.below hb1 hp.lt).news
  have p2 := hp'.below hb1 hp'.lt
  have z1 := hb1.size
  clear h0 h1
  go_wp2_with fail
  refine wp_loop_rounds 3 ?_
  rw [rounds_succ]
  go_wp2_with (at_builtin; refine wpList_append_own _ rfl _ _ 37 rfl w.heap.size 2 i0 (.int .i64 0) 1 8 Tryz.underlying37 hi hz0 hz1 hz2 rfl (by decide) _ _ _ rfl o1 ⟨b, o, none⟩ m c (l.map (Value.int .i64)) rfl (by simp [hlm]) p1 (ints_one l) ?c3 ?c4 ?c5 ?_)
  case c3 => unfold maxLen; omega
  case c4 => omega
  case c5 => exact hb1.size
  intro v2 w2 o2 hg2 _
  have hb2 : Below w.heap.size w w2 := hb1.grown hg2 (by omega) (fun x hx => (o1.lt x hx).1)
  have k2 : Below w.heap.size w1 w2 := (Below.refl _ _).grown hg2 (by omega) (fun x hx => (o1.lt x hx).1)
  have h1'' : w2.cell? ⟨g, 1, none⟩ = _ := (k2.cell (p := ⟨g, 1, none⟩) hg).trans h1'
  have p3 := (p2.below k2 hp'.lt).news
  clear h0' h1' p1 p2 hg2 o1
  go_wp2_with fail
  rw [rounds_succ]
  go_wp2_with (at_builtin; refine wpList_append_own _ rfl _ _ 37 rfl w.heap.size 2 i0 (.int .i64 0) 1 8 Tryz.underlying37 hi hz0 hz1 hz2 rfl (by decide) _ _ _ rfl o2 ⟨b', o', none⟩ m' c' (r.map (Value.int .i64)) rfl (by simp [hrm]) p3 (ints_one r) ?d3 ?d4 ?d5 ?_)
  case d3 => unfold maxLen; omega
  case d4 => omega
  case d5 => exact hb2.size
  intro v3 w3 o3 hg3 _
  have hb3 : Below w.heap.size w w3 := hb2.grown hg3 hb2.size (fun x hx => (o2.lt x hx).1)
  clear p3 hg3 o2 h1''
  go_wp2_with fail
  rw [rounds_succ]
  go_wp2_with fail
  go_ret
  refine ⟨_, rfl, ?_, hb3⟩
  rw [show m + m' = 0 + m + m' by omega]
  simpa using o3
end Go.Proofs.YtmibinfaafhgdaaGreatDoor

namespace Go.Proofs.YtmibinfaafhgdaaGreatDoor
open Go.RowKit

theorem slInfo : (Tryz.prog.info? 37).map (fun i => (i.zero, i.size, i.bytes)) = some (some (.slice none 0 0), 1, 24) := by kernel_rfl
/-- Value v is a list of these numbers, in a block from L on. -/
def IL (w : World) (L : Nat) (v : Value) (l : List Int) : Prop :=
  ∃ b c cur, v = .slice (some ⟨b, 0, none⟩) l.length c ∧ L ≤ b ∧ w.heap[b]? = some (.cells cur 2 (0, 0)) ∧ ∀ j, j < l.length → cur[j]? = some (.int .i64 (l.getD j 0))
/-- Every block of numbers is as it was. -/
def KI (w w' : World) : Prop := ∀ (b : Nat) (cur : Array Value), w.heap[b]? = some (.cells cur 2 (0, 0)) → w'.heap[b]? = w.heap[b]?
theorem KI.refl (w : World) : KI w w := fun _ _ _ => rfl
theorem KI.trans {a b c : World} (h : KI a b) (h' : KI b c) : KI a c := fun k cur hk => by
  have h1 := h k cur hk
  have h2 := h' k cur (h1.trans hk)
  exact h2.trans h1
theorem KI.below {a b : World} (h : Below a.heap.size a b) : KI a b := fun k cur hk => h.block k (Array.getElem?_eq_some_iff.1 hk).1
theorem KI.but {a b : World} {g : Nat} {cur : Array Value} (hg : a.heap[g]? = some (.cells cur 37 (0, 0))) (h : ∀ k, k < a.heap.size → k ≠ g → b.heap[k]? = a.heap[k]?) : KI a b := fun k c hk => by
  refine h k (Array.getElem?_eq_some_iff.1 hk).1 ?_
  rintro rfl
  rw [hg] at hk
  injection hk with e
  injection e with _ e2
  exact absurd e2 (by decide)
theorem IL.keep {w w' : World} {L : Nat} {v : Value} {l : List Int} (h : IL w L v l) (k : KI w w') : IL w' L v l := by
  obtain ⟨b, c, cur, rfl, hL, hb, hc⟩ := h
  exact ⟨b, c, cur, rfl, hL, (k b cur hb).trans hb, hc⟩
theorem IL.part {w : World} {L : Nat} {v : Value} {l : List Int} (h : IL w L v l) : ∃ b c, v = .slice (some ⟨b, 0, none⟩) l.length c ∧ IPart w b 0 l := by
  obtain ⟨b, c, cur, rfl, _, hb, hc⟩ := h
  refine ⟨b, c, rfl, (Array.getElem?_eq_some_iff.1 hb).1, fun j hj => ?_⟩
  rw [Nat.zero_add, cell_of_row w b j cur _ _ hb]
  exact hc j hj
theorem IL.ints {w : World} {L : Nat} {v : Value} {l : List Int} (h : IL w L v l) : ∃ A c, v = .slice A l.length c ∧ IntsIn w A l.length (fun j => l.getD j 0) := by
  obtain ⟨b, c, rfl, hp⟩ := h.part
  exact ⟨_, c, rfl, .inr ⟨b, 0, rfl, hp.lt, fun j hj => hp.cells j hj⟩⟩
theorem IL.own {w : World} {L : Nat} {v : Value} {l : List Int} (h : IL w L v l) : OwnL w L w.heap.size v l := by
  obtain ⟨b, c, cur, rfl, hL, hb, hc⟩ := h
  refine ⟨_, c, rfl, ?_⟩
  rcases Nat.eq_zero_or_pos l.length with h0 | h0
  · exact .inl h0
  · have hr : w.rowIs b 2 cur.size (fun j => cur[j]?.getD undef) := ⟨cur, hb, rfl, fun i hi => by simp [hi]⟩
    have hs : l.length ≤ cur.size := by
      have := (Array.getElem?_eq_some_iff.1 (hc (l.length - 1) (by omega))).1
      omega
    refine .inr ⟨b, cur.size, _, rfl, hL, hr.lt, by omega, hr, fun j hj => ?_⟩
    show cur[j]?.getD undef = _
    rw [hc j (by omega)]; rfl
theorem IL.of_own {w : World} {L n : Nat} {v : Value} {l : List Int} (h : w.ownsRow L 2 1 v n (l.map (Value.int .i64))) (hn : 1 ≤ n) : IL w L v l := by
  have hl : l.length = n := by have := h.1; simpa using this
  subst hl
  obtain ⟨_, h⟩ := h
  rcases h with ⟨_, h0⟩ | ⟨b, cap, cur, rfl, hb, hh, hn', hm, hs, ht⟩
  · omega
  · refine ⟨b, cap, cur, rfl, hb, hh, fun j hj => ?_⟩
    have h1 : (l.map (Value.int .i64))[j]? = some (.int .i64 (l.getD j 0)) := by simp [hj]
    rw [← ht, Nat.mul_one, List.getElem?_take, if_pos hj] at h1
    simpa using h1
/-- The first n cells of block g are these lists. -/
def RL (w : World) (L g n : Nat) (ls : Nat → List Int) : Prop := ∃ cur, w.heap[g]? = some (.cells cur 37 (0, 0)) ∧ ∀ j, j < n → ∃ u, cur[j]? = some u ∧ IL w L u (ls j)
theorem RL.lt {w : World} {L g n : Nat} {ls : Nat → List Int} (h : RL w L g n ls) : g < w.heap.size := by obtain ⟨cur, h, _⟩ := h; exact (Array.getElem?_eq_some_iff.1 h).1
theorem RL.cell {w : World} {L g n : Nat} {ls : Nat → List Int} (h : RL w L g n ls) {j : Nat} (hj : j < n) : ∃ u, w.cell? ⟨g, j, none⟩ = some u ∧ IL w L u (ls j) := by
  obtain ⟨cur, h, hc⟩ := h
  obtain ⟨u, h1, h2⟩ := hc j hj
  exact ⟨u, (cell_of_row w g j cur _ _ h).trans h1, h2⟩
theorem RL.less {w : World} {L g n m : Nat} {ls : Nat → List Int} (h : RL w L g n ls) (hm : m ≤ n) : RL w L g m ls := by
  obtain ⟨cur, h, hc⟩ := h
  exact ⟨cur, h, fun j hj => hc j (by omega)⟩
theorem RL.keep {w w' : World} {L g n : Nat} {ls : Nat → List Int} (h : RL w L g n ls) (hg : w'.heap[g]? = w.heap[g]?) (hk : KI w w') : RL w' L g n ls := by
  obtain ⟨cur, h, hc⟩ := h
  refine ⟨cur, hg.trans h, fun j hj => ?_⟩
  obtain ⟨u, h1, h2⟩ := hc j hj
  exact ⟨u, h1, h2.keep hk⟩
theorem RL.below {w w' : World} {L g n : Nat} {ls : Nat → List Int} (h : RL w L g n ls) (hb : Below w.heap.size w w') : RL w' L g n ls := h.keep (hb.block g h.lt) (.below hb)
/-- An own row of capacity cap whose first n cells are these lists. -/
def RO (w : World) (L g cap n : Nat) (ls : Nat → List Int) : Prop :=
  L ≤ g ∧ n ≤ cap ∧ cap ≤ maxLen ∧ ∃ cur, w.heap[g]? = some (.cells cur 37 (0, 0)) ∧ cur.size = cap ∧ ∀ j, j < n → ∃ u, cur[j]? = some u ∧ IL w L u (ls j)
theorem RO.rl {w : World} {L g cap n : Nat} {ls : Nat → List Int} (h : RO w L g cap n ls) : RL w L g n ls := by
  obtain ⟨_, _, _, cur, h, _, hc⟩ := h
  exact ⟨cur, h, hc⟩
theorem RO.below {w w' : World} {L g cap n : Nat} {ls : Nat → List Int} (h : RO w L g cap n ls) (hb : Below w.heap.size w w') : RO w' L g cap n ls := by
  obtain ⟨h1, h2, h3, cur, h, h4, hc⟩ := h
  refine ⟨h1, h2, h3, cur, (hb.block g (Array.getElem?_eq_some_iff.1 h).1).trans h, h4, fun j hj => ?_⟩
  obtain ⟨u, h5, h6⟩ := hc j hj
  exact ⟨u, h5, h6.keep (.below hb)⟩

section
variable {ops : Array Oper} {rest : List Oper} {o : Oper} {a : Act} {Q : Exit → Act → World → Prop} {w : World}
set_option maxHeartbeats 1000000 in
theorem wpList_append_RL (hgd : o.guard = none) (s x : Operand) (ho : o.op = .call { callee := .builtin .append, args := #[s, x], argTypes := #[101, 101] })
    {L g n cap : Nat} {ls : Nat → List Int} {u : Value} (hs : a.eval s = .slice (some ⟨g, 0, none⟩) n cap) (hro : RO w L g cap n ls) (hx : a.eval x = .slice (some ⟨w.heap.size, 0, none⟩) 1 1) (hu : IL w L u (ls n)) (hn : n ≤ 1000) (hL : L ≤ w.heap.size)
    (h : ∀ g' cap' w', RO w' L g' cap' (n + 1) ls → Below L w w' → (∀ g0 m, m ≤ n → RL w L g0 m ls → RL w' L g0 m ls) → wpList Tryz.prog ops Q rest (a.put o.dst (.slice (some ⟨g', 0, none⟩) (n + 1) cap')) w') :
    wpList Tryz.prog ops Q (o :: rest) a (w.alloc (.cells #[u] 37)) := by
  obtain ⟨i0, hi, hz0, hz1, hz2⟩ := info_parts slInfo
  obtain ⟨hLg, hnc, hcm, cur, hg, hcs, hc⟩ := hro
  have hgl : g < w.heap.size := (Array.getElem?_eq_some_iff.1 hg).1
  have hu1 : u.oneCell' = true := by obtain ⟨b, c, _, rfl, _⟩ := hu; rfl
  have hW : (w.alloc (.cells #[u] 37)).heap[g]? = some (.cells cur 37 (0, 0)) := (heap_alloc_old w _ hgl).trans hg
  have kw : Below w.heap.size w (w.alloc (.cells #[u] 37)) := (Below.refl _ _).alloc (Nat.le_refl _) _
  have hnews : ∀ j v, [u][j]? = some v → (w.alloc (.cells #[u] 37)).cell? ((⟨w.heap.size, 0, none⟩ : Addr).add j) = some v := cell_one_new w u 37
  have hsz : (w.alloc (.cells #[u] 37)).heap.size = w.heap.size + 1 := by simp
  generalize w.alloc (.cells #[u] 37) = W at *
  refine wpList_plain hgd fun K hK => ?_
  by_cases hroom : n + 1 ≤ cap
  · have hr := run_append_room (P := Tryz.prog) W 101 o.type 37 i0 Tryz.underlying101 hi g n cap cur hW ⟨w.heap.size, 0, none⟩ 1 1 [u] (by simp [hz1]) hnews (by simpa using hu1) hroom (by rw [hz1, hcs]; simpa using hroom)
    have hh := setRow_heap W g cur (cur.toList.take (n * i0.size) ++ [u] ++ cur.toList.drop (n * i0.size + [u].length)).toArray 37 (0, 0) hW
    have hcur : ∀ j, j < n → (cur.toList.take (n * i0.size) ++ [u] ++ cur.toList.drop (n * i0.size + [u].length)).toArray[j]? = cur[j]? := fun j hj => by
      have h1 : min n cur.size = n := by omega
      simp [hz1, hj, List.getElem?_append, h1]
    have hnew : (cur.toList.take (n * i0.size) ++ [u] ++ cur.toList.drop (n * i0.size + [u].length)).toArray[n]? = some u := by
      have h1 : min n cur.size = n := by omega
      simp [hz1, List.getElem?_append, h1]
    have hsz2 : (cur.toList.take (n * i0.size) ++ [u] ++ cur.toList.drop (n * i0.size + [u].length)).toArray.size = cap := by
      simp [hz1]; omega
    generalize (cur.toList.take (n * i0.size) ++ [u] ++ cur.toList.drop (n * i0.size + [u].length)).toArray = cur' at *
    have hki : KI W (W.setRow g cur') := KI.but hW fun k hk hkg => setRow_other W g k cur' hkg
    have hki2 : KI w (W.setRow g cur') := (KI.below kw).trans hki
    have hB : Below L w (W.setRow g cur') := below_setRow (kw.mono hL) hLg cur'
    unfold Oper.wp execOp
    simp only [ho, resolve, invoke, builtin, Sem.run_bind, Sem.run_pure, Result.andThen_ok, List.map_toArray, List.map_cons, List.map_nil, hs, hx, hr]
    refine hK _ _ (h g cap _ ⟨hLg, hroom, hcm, cur', hh, hsz2, fun j hj => ?_⟩ hB fun g0 m hm hr0 => ?_)
    · by_cases e : j < n
      · obtain ⟨v, h1, h2⟩ := hc j e
        exact ⟨v, (hcur j e).trans h1, h2.keep hki2⟩
      · obtain rfl : j = n := by omega
        exact ⟨u, hnew, hu.keep hki2⟩
    · by_cases e : g0 = g
      · subst e
        obtain ⟨cur2, h3, h4⟩ := hr0
        rw [hg] at h3
        injection h3 with h3
        injection h3 with h3 _
        subst h3
        refine ⟨cur', hh, fun j hj => ?_⟩
        obtain ⟨v, h1, h2⟩ := h4 j hj
        exact ⟨v, (hcur j (by omega)).trans h1, h2.keep hki2⟩
      · exact hr0.keep ((setRow_other W g g0 cur' e).trans (kw.block g0 hr0.lt)) hki2
  · have holds : ∀ j v, (cur.toList.take n)[j]? = some v → W.cell? ((⟨g, 0, none⟩ : Addr).add j) = some v := fun j v hv => by
      rw [show (⟨g, 0, none⟩ : Addr).add j = ⟨g, j, none⟩ by simp [Addr.add]; intro h; exact h.symm, cell_of_row W g j cur _ _ hW]
      rw [List.getElem?_take] at hv
      split at hv
      · simpa using hv
      · cases hv
    have hlo : (cur.toList.take n).length = n * i0.size := by rw [hz1]; simp; omega
    have hr := run_append_grow (P := Tryz.prog) W 101 o.type 37 i0 (.slice none 0 0) Tryz.underlying101 hi hz0 ⟨g, 0, none⟩ n cap (cur.toList.take n) hlo holds ⟨w.heap.size, 0, none⟩ 1 1 [u] (by simp [hz1]) hnews (by omega) (by omega) (growslice_fits (by omega) (by rw [hz2]; omega))
    have hge := grownCap_ge W (n + 1) cap 37
    have hcm2 : grownCap W (n + 1) cap 37 ≤ maxLen := grownCap_le_maxLen W (n + 1) cap 37 (by unfold maxLen; omega)
    generalize grownCap W (n + 1) cap 37 = G at *
    have hcur : ∀ j, j < n → ((cur.toList.take n).toArray ++ [u].toArray ++ Builtin.zeroCells (Value.slice none 0 0).cells (G - (n + 1)))[j]? = cur[j]? := fun j hj => by
      have h1 : min n cur.size = n := by omega
      simp [hj, Array.getElem?_append, h1]
      rw [if_pos (by omega), List.getElem?_append_left (by simp; omega), List.getElem?_take, if_pos hj]
      simp
    have hnew : ((cur.toList.take n).toArray ++ [u].toArray ++ Builtin.zeroCells (Value.slice none 0 0).cells (G - (n + 1)))[n]? = some u := by
      have h1 : min n cur.size = n := by omega
      simp [Array.getElem?_append, h1]
    have hsz2 : ((cur.toList.take n).toArray ++ [u].toArray ++ Builtin.zeroCells (Value.slice none 0 0).cells (G - (n + 1))).size = G := by
      simp only [Array.size_append, zerosG_size, Value.cells]
      simp; omega
    generalize ((cur.toList.take n).toArray ++ [u].toArray ++ Builtin.zeroCells (Value.slice none 0 0).cells (G - (n + 1))) = cur' at *
    have kW : Below W.heap.size W (W.drew.alloc (.cells cur' 37)) := (below_drew1G W).alloc (Nat.le_refl _) _
    have hh : (W.drew.alloc (.cells cur' 37)).heap[W.heap.size]? = some (.cells cur' 37 (0, 0)) := heap_alloc_new W.drew _
    have hB : Below w.heap.size w (W.drew.alloc (.cells cur' 37)) := kw.trans (kW.mono kw.size)
    have hki2 : KI w (W.drew.alloc (.cells cur' 37)) := KI.below hB
    unfold Oper.wp execOp
    simp only [ho, resolve, invoke, builtin, Sem.run_bind, Sem.run_pure, Result.andThen_ok, List.map_toArray, List.map_cons, List.map_nil, hs, hx, hr]
    refine hK _ _ (h W.heap.size G _ ⟨by omega, hge, hcm2, cur', hh, hsz2, fun j hj => ?_⟩ (hB.mono hL) fun g0 m hm hr0 => hr0.below hB)
    by_cases e : j < n
    · obtain ⟨v, h1, h2⟩ := hc j e
      exact ⟨v, (hcur j e).trans h1, h2.keep hki2⟩
    · obtain rfl : j = n := by omega
      exact ⟨u, hnew, hu.keep hki2⟩
end
end Go.Proofs.YtmibinfaafhgdaaGreatDoor

namespace Go.Proofs.YtmibinfaafhgdaaGreatDoor
open Go.RowKit

theorem subI_zero : ∀ n, subI 0 n = []
  | 0 => rfl
  | n + 1 => by rw [subI_no (Nat.zero_testBit n), subI_zero n]
theorem IL.mono {w : World} {L L' : Nat} {v : Value} {l : List Int} (h : IL w L v l) (hL : L' ≤ L) : IL w L' v l := by
  obtain ⟨b, c, cur, rfl, h1, hb, hc⟩ := h
  exact ⟨b, c, cur, rfl, by omega, hb, hc⟩
theorem lit_part (w : World) (x : Int) (o : Obj) : IPart ((w.alloc (.cells #[.int .i64 x] 2)).alloc o) w.heap.size 0 [x] := by
  refine ⟨by simp; omega, fun j hj => ?_⟩
  obtain rfl : j = 0 := by simpa using hj
  simp
theorem start_RO (w : World) (n : Nat) : RO ((w.alloc (.cells #[] 2)).alloc (.cells #[.slice (some ⟨w.heap.size, 0, none⟩) 0 0] 37)) w.heap.size (w.heap.size + 1) 1 1 (fun t => subI t n) := by
  have h0 := heap_alloc_new (w.alloc (.cells #[] 2)) (.cells #[.slice (some ⟨w.heap.size, 0, none⟩) 0 0] 37)
  rw [show (w.alloc (.cells #[] 2)).heap.size = w.heap.size + 1 by simp] at h0
  refine ⟨by omega, by omega, by unfold maxLen; omega, _, h0, rfl, fun j hj => ?_⟩
  obtain rfl : j = 0 := by omega
  refine ⟨_, rfl, ?_⟩
  show IL _ _ _ (subI 0 n)
  rw [subI_zero]
  refine ⟨w.heap.size, 0, #[], rfl, Nat.le_refl _, ?_, fun j hj => by simp at hj⟩
  have h1 : (w.alloc (.cells #[] 2)).heap[w.heap.size]? = some (.cells #[] 2 (0, 0)) := heap_alloc_new w _
  exact (heap_alloc_old (w.alloc (.cells #[] 2)) _ (by simp)).trans h1

set_option maxRecDepth 100000 in
set_option maxHeartbeats 4000000 in
theorem choicesOf_any (n : Nat) (hn : n ≤ 8) (w : World) :
    Calls Tryz.prog 57 #[.int .i64 (n : Int)] w fun e w' => ∃ g cap, e = .returned (.slice (some ⟨g, 0, none⟩) (2 ^ n) cap) ∧ RO w' w.heap.size g cap (2 ^ n) (fun t => subI t n) ∧ Below w.heap.size w w' := by
  have r0 := start_RO w n
  have k0 := ((Below.refl w.heap.size w).alloc (Nat.le_refl _) (.cells #[] 2)).alloc (by simp) (.cells #[.slice (some ⟨w.heap.size, 0, none⟩) 0 0] 37)
  have H0 := Lib.hid (And.intro r0 k0); clear r0 k0
  obtain ⟨L, hL⟩ : ∃ L, L = w.heap.size := ⟨_, rfl⟩
  go_enter Tryz.func57, Tryz.ntmps57
  go_wp2_with fail
  rw [← hL] at H0 ⊢
  have HLE := Lib.hid hL; clear hL
  generalize ((w.alloc (.cells #[] 2)).alloc (.cells #[.slice (some ⟨L, 0, none⟩) 0 0] 37)) = W1 at *
  go_loopw [3, 10] (fun cv iv wr => ∃ (i T g cap : Nat), 2 ^ i = T ∧ i ≤ n ∧ iv = .int .i64 (i : Int) ∧ cv = .slice (some ⟨g, 0, none⟩) T cap ∧ RO wr L g cap T (fun t => subI t n) ∧ Below L w wr) (fun _ iv _ => n - (intOf iv).toNat)
  case atStart => exact ⟨0, 1, L + 1, 1, rfl, Nat.zero_le _, rfl, rfl, H0.out.1, H0.out.2⟩
  case round =>
    clear H0
    obtain ⟨i, T, g, cap, hT, hi, rfl, rfl, ho, hB⟩ := hrel
    by_cases hin : i < n
    rotate_left
    · obtain rfl : i = n := by omega
      go_wp2_with fail
      go_ret
      rw [hT, ← HLE.out]
      exact ⟨_, _, rfl, ho, hB⟩
    have hin' : (i : Int) < n := by omega
    have hT8 : 1 ≤ T ∧ T ≤ 128 := by
      have : i = 0 ∨ i = 1 ∨ i = 2 ∨ i = 3 ∨ i = 4 ∨ i = 5 ∨ i = 6 ∨ i = 7 := by omega
      rcases this with rfl | rfl | rfl | rfl | rfl | rfl | rfl | rfl <;> (subst hT; decide)
    have r1 := ho.rl
    have HL := Lib.hid (fun t (ht : t < T) => subI_add (t := t) (i := i) (by rw [hT]; exact ht) n hin)
    rw [hT] at HL
    have HT := Lib.hid hT; clear hT
    go_wp2_with fail
    go_loopw [3, 15] (fun cv jv wr => ∃ (j g' cap' : Nat), j ≤ T ∧ jv = .int .i64 (j : Int) ∧ cv = .slice (some ⟨g', 0, none⟩) (T + j) cap' ∧ RO wr L g' cap' (T + j) (fun t => subI t n) ∧ RL wr L g T (fun t => subI t n) ∧ Below L w wr) (fun _ jv _ => T - (intOf jv).toNat)
    case atStart => exact ⟨0, g, cap, Nat.zero_le _, rfl, rfl, ho, r1, hB⟩
    case round =>
      clear ho r1 hB
      obtain ⟨j, g', cap', hj, rfl, rfl, ho, hr, hB⟩ := hrel
      by_cases hjT : j < T
      rotate_left
      · obtain rfl : j = T := by omega
        go_wp2_with fail
        go_roundw
        case rel => exact ⟨i + 1, j + j, g', cap', by rw [Nat.pow_succ, HT.out]; omega, by omega, by go_num, rfl, ho, hB⟩
        case measure => simp [intOf]; omega
      have hjT' : (j : Int) < T := by omega
      obtain ⟨u, cu, iu⟩ := hr.cell hjT
      obtain ⟨b, c, rfl, pu⟩ := iu.part
      have hlen := subI_len j n
      have hsz : L ≤ wr.heap.size := by have h1 := hB.size; have h2 := HLE.out; omega
      have HS := Lib.hid (HL.out j hjT)
      obtain ⟨l, hl⟩ : ∃ l, l = subI j n := ⟨_, rfl⟩
      rw [← hl] at HS cu pu hlen
      have Hl := Lib.hid hl; clear hl iu
      obtain ⟨m, hm⟩ : ∃ m, l.length = m := ⟨_, rfl⟩
      rw [hm] at cu hlen
      have W1 := (Below.refl wr.heap.size wr).alloc (Nat.le_refl _) (.cells #[.int .i64 (i : Int)] 2)
      have W2 := W1.alloc (by simp) (.cells #[.slice (some ⟨b, 0, none⟩) m c, .slice (some ⟨wr.heap.size, 0, none⟩) 1 1] 37)
      have hcon := ConcatI_any b 0 m c l hm wr.heap.size 0 1 1 [(i : Int)] rfl (wr.heap.size + 1) (by omega) (by omega) ((wr.alloc (.cells #[.int .i64 (i : Int)] 2)).alloc (.cells #[.slice (some ⟨b, 0, none⟩) m c, .slice (some ⟨wr.heap.size, 0, none⟩) 1 1] 37))
        (pu.below W2 pu.lt) (lit_part wr i _) (by simp) (by simp)
      have HC := Lib.hid hcon; clear hcon
      have HR := Lib.hid hr; have HB := Lib.hid hB; have HO := Lib.hid ho
      have HW := Lib.hid W2
      clear hr hB ho W1 W2 pu
      go_wp2_with fail
      refine HC.out.mono ?_; rintro e w2 ⟨v, rfl, ov, hb2⟩
      have kb := HW.out.trans (hb2.mono HW.out.size)
      have iv := (IL.of_own ov (by omega)).mono (L' := L) (Nat.le_trans hsz HW.out.size)
      rw [← HS.out] at iv
      have HB2 := Lib.hid (HB.out.trans (kb.mono hsz))
      have HO2 := Lib.hid (HO.out.below kb)
      have HR2 := Lib.hid (HR.out.below kb)
      clear hb2 HC HB HO HR ov kb HW cu
      obtain ⟨bv, cv, ev, _⟩ := iv.part
      subst ev
      generalize (subI (T + j) n).length = mv at *
      have HI2 := Lib.hid iv; clear iv
      go_wp2_with (at_builtin; refine wpList_append_RL (ls := fun t => subI t n) (L := L) (g := g') (n := T + j) (cap := cap') (u := .slice (some ⟨bv, 0, none⟩) mv cv) rfl _ _ rfl rfl HO2.out rfl HI2.out (by omega) (by have h1 := HB2.out.size; have h2 := HLE.out; omega) ?_)
      intro g3 cap3 w3 o3 hb3 hk3
      have HB3 := Lib.hid (HB2.out.trans hb3)
      have HR3 := Lib.hid (hk3 g T (by omega) HR2.out)
      have HO3 := Lib.hid o3
      clear o3 hb3 hk3 HB2 HR2 HO2 HI2
      go_wp2_with fail
      go_roundw
      case rel => exact ⟨j + 1, g3, cap3, by omega, by go_num, rfl, HO3.out, HR3.out, HB3.out⟩
      case measure => simp [intOf]; omega
end Go.Proofs.YtmibinfaafhgdaaGreatDoor

namespace Go.Proofs.YtmibinfaafhgdaaGreatDoor
open Go.RowKit

set_option maxRecDepth 100000 in
set_option maxHeartbeats 2000000 in
theorem IndexFunc_first (b o n cap : Nat) (v0 p1 p2 p3 : Value) (h1 : 1 ≤ n) (w : World) (h0 : w.cell? ⟨b, o, none⟩ = some v0)
    (hcl : ∀ W, Below w.heap.size w W → Calls Tryz.prog 58 #[v0, p1, p2, p3] W fun e w' => e = .returned (.bool true) ∧ Below W.heap.size W w') :
    Calls Tryz.prog 79 #[.slice (some ⟨b, o, none⟩) n cap, .func (.func 58) #[] #[p1, p2, p3]] w fun e w' => e = .returned (.int .i64 0) ∧ Below w.heap.size w w' := by
  have hn : (0 : Int) < n := by omega
  have HC := Lib.hid hcl; clear hcl
  go_enter Tryz.func79, Tryz.ntmps79
  go_wp2_with fail
  refine wp_loop_rounds 2 ?_
  rw [rounds_succ]
  go_wp2_with fail
  refine (HC.out _ (Below.refl _ _)).mono ?_; rintro e w2 ⟨rfl, hb2⟩
  go_wp2_with fail
  go_ret
  exact ⟨rfl, hb2⟩
end Go.Proofs.YtmibinfaafhgdaaGreatDoor

namespace Go.Proofs.YtmibinfaafhgdaaGreatDoor
open Go.RowKit

/-- The lists of the first k that stay. -/
def kpL (ls : Nat → List Int) (del : Nat → Bool) : Nat → List (List Int)
  | 0 => []
  | k + 1 => if del k = true then kpL ls del k else kpL ls del k ++ [ls k]
theorem kpL_yes {ls : Nat → List Int} {del : Nat → Bool} {k : Nat} (h : del k = true) : kpL ls del (k + 1) = kpL ls del k := if_pos h
theorem kpL_no {ls : Nat → List Int} {del : Nat → Bool} {k : Nat} (h : del k = false) : kpL ls del (k + 1) = kpL ls del k ++ [ls k] := if_neg (by rw [h]; decide)
theorem kpL_gdL {n : Nat} {ok del : Nat → Bool} (h0 : del 0 = true) (h : ∀ k, del (k + 1) = !ok (k + 1)) : ∀ k, kpL (fun t => subI t n) del (k + 1) = gdL n ok k
  | 0 => kpL_yes h0
  | k + 1 => by
    have ih := kpL_gdL (n := n) h0 h k
    rcases hk : ok (k + 1) with _ | _
    · rw [kpL_yes (by rw [h k, hk]; rfl), ih]
      exact (if_neg (by rw [hk]; decide)).symm
    · rw [kpL_no (by rw [h k, hk]; rfl), ih]
      exact (if_pos hk).symm
/-- The row while it is gone through: the first i cells hold what stays of the first j lists, from j on the lists are as they were. -/
def RD (w : World) (L g cap N i j : Nat) (ks : List (List Int)) (ls : Nat → List Int) : Prop :=
  ∃ cur, w.heap[g]? = some (.cells cur 37 (0, 0)) ∧ cur.size = cap ∧ (∀ t, t < i → ∃ u, cur[t]? = some u ∧ IL w L u (ks.getD t [])) ∧ (∀ t, j ≤ t → t < N → ∃ u, cur[t]? = some u ∧ IL w L u (ls t))
section
variable {w w' : World} {L g cap N i j : Nat} {ks : List (List Int)} {ls : Nat → List Int}
theorem RD.lt (h : RD w L g cap N i j ks ls) : g < w.heap.size := by obtain ⟨cur, h, _⟩ := h; exact (Array.getElem?_eq_some_iff.1 h).1
theorem RD.below (h : RD w L g cap N i j ks ls) (hb : Below w.heap.size w w') : RD w' L g cap N i j ks ls := by
  obtain ⟨cur, h, h4, h5, h6⟩ := h
  refine ⟨cur, (hb.block g (Array.getElem?_eq_some_iff.1 h).1).trans h, h4, fun t ht => ?_, fun t h1 h2 => ?_⟩
  · obtain ⟨u, h7, h8⟩ := h5 t ht
    exact ⟨u, h7, h8.keep (.below hb)⟩
  · obtain ⟨u, h7, h8⟩ := h6 t h1 h2
    exact ⟨u, h7, h8.keep (.below hb)⟩
theorem RD.skip (h : RD w L g cap N i j ks ls) : RD w L g cap N i (j + 1) ks ls := by
  obtain ⟨cur, h, h4, h5, h6⟩ := h
  exact ⟨cur, h, h4, h5, fun t h1 h2 => h6 t (by omega) h2⟩
theorem RD.cell (h : RD w L g cap N i j ks ls) (hj : j < N) : ∃ u, w.cell? ⟨g, j, none⟩ = some u ∧ IL w L u (ls j) := by
  obtain ⟨cur, h, h4, h5, h6⟩ := h
  obtain ⟨u, h1, h2⟩ := h6 j (Nat.le_refl _) hj
  exact ⟨u, (cell_of_row w g j cur _ _ h).trans h1, h2⟩
theorem RD.there (h : RD w L g cap N i j ks ls) {k : Nat} (hk : k < cap) : ∃ u, w.cell? ⟨g, k, none⟩ = some u := by
  obtain ⟨cur, h, h4, _⟩ := h
  rw [cell_of_row w g k cur _ _ h]
  exact ⟨_, Array.getElem?_eq_getElem (by omega)⟩
theorem RD.free (h : RD w L g cap N i j ks ls) (k : Nat) : w.frozen? ⟨g, k, none⟩ = false := by obtain ⟨cur, h, _⟩ := h; exact frozen_of_row w g k cur _ h
theorem RD.put (h : RD w L g cap N i j ks ls) (hi : ks.length = i) (hij : i < j) (hjN : j < N) (hN : N ≤ cap) {u : Value} (hu : IL w L u (ls j)) : RD (w.setCell ⟨g, i, none⟩ u) L g cap N (i + 1) (j + 1) (ks ++ [ls j]) ls := by
  obtain ⟨cur, h, h4, h5, h6⟩ := h
  have hk : KI w (w.setCell ⟨g, i, none⟩ u) := KI.but h fun k _ hkg => Below.heap_setCell _ _ _ _ hkg
  refine ⟨_, heap_setCell_same w g i cur _ _ h, by simpa using h4, fun t ht => ?_, fun t h1 h2 => ?_⟩
  · by_cases e : t = i
    · subst e
      refine ⟨u, by rw [Array.getElem?_setIfInBounds, if_pos rfl, if_pos (by omega)], ?_⟩
      rw [List.getD_eq_getElem?_getD, List.getElem?_append_right (by omega), hi]
      simpa using hu.keep hk
    · obtain ⟨v, h7, h8⟩ := h5 t (by omega)
      refine ⟨v, by rw [Array.getElem?_setIfInBounds, if_neg (fun h => e h.symm)]; exact h7, ?_⟩
      rw [List.getD_eq_getElem?_getD, List.getElem?_append_left (by omega), ← List.getD_eq_getElem?_getD]
      exact h8.keep hk
  · obtain ⟨v, h7, h8⟩ := h6 t (by omega) h2
    exact ⟨v, by rw [Array.getElem?_setIfInBounds, if_neg (by omega)]; exact h7, h8.keep hk⟩
theorem RO.rd (h : RO w L g cap N ls) : RD w L g cap N 0 1 [] ls := by
  obtain ⟨_, _, _, cur, h, h4, hc⟩ := h
  exact ⟨cur, h, h4, fun t ht => by omega, fun t _ h2 => hc t h2⟩
theorem below_setCellsF {B b : Nat} {a : World} (hb : B ≤ b) : ∀ (vs : List Value) (o : Nat) (w : World), Below B a w → Below B a (w.setCells b o vs)
  | [], _, _, h => h
  | v :: r, o, w, h => below_setCellsF hb r (o + 1) _ (h.setCell (by exact hb) v)
theorem RD.clear (h : RD w L g cap N i j ks ls) (vs : List Value) : g < (w.setCells g i vs).heap.size ∧ ∀ t, t < i → ∃ u, (w.setCells g i vs).cell? ⟨g, t, none⟩ = some u ∧ IL (w.setCells g i vs) L u (ks.getD t []) := by
  have hl := h.lt
  have hs := (below_setCellsF (Nat.zero_le g) vs i w (Below.refl _ _)).size
  obtain ⟨cur, h, h4, h5, h6⟩ := h
  have hk : KI w (w.setCells g i vs) := KI.but h fun k hk hkg => World.heap_setCells_other w g i vs hk hkg
  refine ⟨by omega, fun t ht => ?_⟩
  obtain ⟨u, h1, h2⟩ := h5 t ht
  refine ⟨u, ?_, h2.keep hk⟩
  rw [World.cell?_setCells_out g vs i w ⟨g, t, none⟩ (fun _ _ => .inl ht)]
  exact (cell_of_row w g t cur _ _ h).trans h1
end
section
variable {ops : Array Oper} {rest : List Oper} {o : Oper} {a : Act} {Q : Exit → Act → World → Prop} {w : World}
theorem zeroSl (W : World) : (zeroValue 37).run Tryz.prog W = .ok (.slice none 0 0) W := by kernel_rfl
theorem wpList_clearF (hgd : o.guard = none) (x : Operand) (ho : o.op = .call { callee := .builtin .clear, args := #[x], argTypes := #[101] })
    {b i n c : Nat} (hx : a.eval x = .slice (some ⟨b, i, none⟩) n c) (hn : 0 < n) (hc : ∀ j, j < n → (w.cell? ⟨b, i + j, none⟩).isSome = true) (hf : ∀ j, j < n → w.frozen? ⟨b, i + j, none⟩ = false)
    (h : wpList Tryz.prog ops Q rest (a.put o.dst (.tuple #[])) (w.setCells b i (List.replicate n (.slice none 0 0)))) : wpList Tryz.prog ops Q (o :: rest) a w := by
  refine wpList_plain hgd fun K hK => ?_
  have hr := Lib.run_clear_slice (P := Tryz.prog) w 101 37 o.type (.slice none 0 0) Tryz.underlying101 zeroSl rfl rfl b i n c hn hc hf
  unfold Oper.wp execOp
  simp only [ho, resolve, invoke, builtin, Sem.run_bind, Sem.run_pure, Result.andThen_ok, List.map_toArray, List.map_cons, List.map_nil, hx, hr]
  exact hK _ _ h
end

set_option maxRecDepth 100000 in
set_option maxHeartbeats 4000000 in
theorem DeleteFunc_any (L g N cap : Nat) (ls : Nat → List Int) (del : Nat → Bool) (p1 p2 p3 : Value) (wB w : World) (h1 : 1 ≤ N) (hN : N ≤ 1000) (hro : RO w L g cap N ls) (hd0 : del 0 = true) (hB : Below wB.heap.size wB w) (hLB : wB.heap.size ≤ L)
    (hcl : ∀ j, j < N → ∀ W u, Below wB.heap.size wB W → IL W L u (ls j) → Calls Tryz.prog 58 #[u, p1, p2, p3] W fun e w' => e = .returned (.bool (del j)) ∧ Below W.heap.size W w') :
    Calls Tryz.prog 56 #[.slice (some ⟨g, 0, none⟩) N cap, .func (.func 58) #[] #[p1, p2, p3]] w fun e w' =>
      e = .returned (.slice (some ⟨g, 0, none⟩) (kpL ls del N).length cap) ∧ LLIn w' L w'.heap.size (some ⟨g, 0, none⟩) (kpL ls del N).length (fun t => (kpL ls del N).getD t []) ∧ Below wB.heap.size wB w' := by
  have hNc := hro.2.1
  have hcm := hro.2.2.1
  have hLg := hro.1
  unfold maxLen at hcm
  obtain ⟨v0, c0, i0⟩ := hro.rl.cell (j := 0) h1
  have hix := IndexFunc_first g 0 N cap v0 p1 p2 p3 h1 w c0 (fun W hb => by
    have h := hcl 0 h1 W v0 (hB.trans (hb.mono hB.size)) (i0.keep (.below hb))
    rw [hd0] at h
    exact h)
  have HIX := Lib.hid hix; have HCL := Lib.hid hcl; have HRD := Lib.hid hro.rd; have HB := Lib.hid hB
  have HD0 := Lib.hid hd0
  clear hix hcl hro hB hd0 c0 i0
  go_enter Tryz.func56, Tryz.ntmps56
  go_wp2_with fail
  refine HIX.out.mono ?_; rintro e w1 ⟨rfl, hb1⟩
  have HRD1 := Lib.hid (HRD.out.below hb1)
  have HB1 := Lib.hid (HB.out.trans (hb1.mono HB.out.size))
  clear HIX HRD HB hb1
  go_wp2_with fail
  go_loopw [5, 6] (fun iv jv wr => ∃ (i j : Nat), (kpL ls del j).length = i ∧ 1 ≤ j ∧ j ≤ N ∧ i + 1 ≤ j ∧ iv = .int .i64 (i : Int) ∧ jv = .int .i64 (j : Int) ∧ RD wr L g cap N i j (kpL ls del j) ls ∧ Below wB.heap.size wB wr) (fun _ jv _ => N - (intOf jv).toNat)
  case atStart =>
    have e1 : kpL ls del 1 = [] := kpL_yes HD0.out
    exact ⟨0, 1, by rw [e1]; rfl, by omega, h1, by omega, rfl, rfl, by rw [e1]; exact HRD1.out, HB1.out⟩
  case round =>
    clear HRD1 HB1
    obtain ⟨i, j, hlen, hj1, hj, hij, rfl, rfl, hrd, hB⟩ := hrel
    by_cases hjN : j < N
    · have hjN' : (j : Int) < N := by omega
      obtain ⟨u, cu, iu⟩ := hrd.cell hjN
      have hcl := HCL.out j hjN wr u hB iu
      have HC := Lib.hid hcl; have HR := Lib.hid hrd; have HB := Lib.hid hB; have HI := Lib.hid iu
      obtain ⟨ks, hks⟩ : ∃ ks, ks = kpL ls del j := ⟨_, rfl⟩
      rw [← hks] at hlen HR
      have HKS := Lib.hid hks; have HLen := Lib.hid hlen
      obtain ⟨bu, cu2, eu, _⟩ := iu.part
      clear hcl hrd hB iu hks hlen
      generalize (ls j).length = mu at *
      subst eu
      rcases hd : del j with _ | _
      · rw [hd] at HC
        have hk2 := Lib.hid (kpL_no (ls := ls) hd)
        rw [← HKS.out] at hk2
        go_wp2_with fail
        refine HC.out.mono ?_; rintro e w2 ⟨rfl, hb2⟩
        have HR2 := Lib.hid (HR.out.below hb2)
        have HI2 := Lib.hid (HI.out.keep (.below hb2))
        have HB2 := Lib.hid (HB.out.trans (hb2.mono HB.out.size))
        obtain ⟨x, ci⟩ := HR2.out.there (k := i) (by omega)
        have fi := HR2.out.free i
        clear hb2 HC HR HB HI cu
        have hiN : (i : Int) < N := by omega
        go_wp2_with fail
        go_roundw
        case rel => exact ⟨i + 1, j + 1, by rw [hk2.out, List.length_append, HLen.out]; rfl, by omega, by omega, by omega, by go_num, by go_num, by rw [hk2.out]; exact HR2.out.put HLen.out (by omega) hjN hNc HI2.out, HB2.out.setCell (by show _ ≤ g; omega) _⟩
        case measure => simp [intOf]; omega
      · rw [hd] at HC
        have hk2 := Lib.hid (kpL_yes (ls := ls) hd)
        rw [← HKS.out] at hk2
        go_wp2_with fail
        refine HC.out.mono ?_; rintro e w2 ⟨rfl, hb2⟩
        have HR2 := Lib.hid (HR.out.below hb2)
        have HB2 := Lib.hid (HB.out.trans (hb2.mono HB.out.size))
        clear hb2 HC HR HB HI cu
        go_wp2_with fail
        go_roundw
        case rel => exact ⟨i, j + 1, by rw [hk2.out, HLen.out], by omega, by omega, by omega, rfl, by go_num, by rw [hk2.out]; exact HR2.out.skip, HB2.out⟩
        case measure => simp [intOf]; omega
    · obtain rfl : N = j := by omega
      have HR := Lib.hid hrd; have HB := Lib.hid hB; have HLen := Lib.hid hlen
      clear hrd hB hlen
      have hc := Lib.hid (fun k (hk : k < N - i) => show (wr.cell? ⟨g, i + k, none⟩).isSome = true by obtain ⟨x, hx⟩ := HR.out.there (k := i + k) (by omega); rw [hx]; rfl)
      have hf := Lib.hid (fun k (_ : k < N - i) => HR.out.free (i + k))
      have hcl := HR.out.clear (List.replicate (N - i) (.slice none 0 0))
      have hb2 := below_setCellsF (B := wB.heap.size) (b := g) (by omega) (List.replicate (N - i) (.slice none 0 0)) i wr HB.out
      have H2 := Lib.hid (And.intro hcl hb2)
      clear hcl hb2
      have hpos : 0 < N - i := by omega
      go_wp2_with (refine wpList_clearF (b := g) (i := i) (n := N - i) (c := cap - i) rfl (.tmp 38) rfl rfl hpos hc.out hf.out ?_)
      generalize wr.setCells g i (List.replicate (N - i) (.slice none 0 0)) = W2 at *
      go_wp2_with fail
      go_ret
      refine ⟨by rw [HLen.out]; rfl, .inr ⟨g, 0, rfl, H2.out.1.1, fun k hk => ?_⟩, H2.out.2⟩
      rw [HLen.out] at hk
      obtain ⟨u, h1, h2⟩ := H2.out.1.2 k hk
      exact ⟨u, by rw [Nat.zero_add]; exact h1, h2.own⟩
end Go.Proofs.YtmibinfaafhgdaaGreatDoor
