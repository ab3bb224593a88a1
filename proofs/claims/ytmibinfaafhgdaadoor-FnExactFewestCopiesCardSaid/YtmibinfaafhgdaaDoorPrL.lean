/-
  Lists of prints of a call's own: appended, stored into, marked and asked by the laws. Condition: at most 1048576 entries.
-/
import Derived.Test.YtmibinfaafhgdaaDoorSht
import Derived.Test.YtmibinfaafhgdaaDoorOwn
import Derived.Maps.AppendAt
import Derived.Deep.AppendLies
import Derived.Deep.RegionHeld3
import Derived.Deep.Cut
namespace Go.Proofs.YtmibinfaafhgdaaDoor
open Go.RowKit

/-- The cells of n prints. -/
def prL (g : Nat → Nat → Int) (n : Nat) : List Value := (List.range (n * 64)).map (prF g)
theorem prL_len (g : Nat → Nat → Int) (n : Nat) : (prL g n).length = n * 64 := by simp [prL]
theorem prL_get {g : Nat → Nat → Int} {n j : Nat} (h : j < n * 64) : (prL g n)[j]? = some (prF g j) := by simp [prL, h]
theorem prL_one (g : Nat → Nat → Int) (n : Nat) : ∀ u ∈ prL g n, u.oneCell' = true := by
  intro u hu
  obtain ⟨j, _, rfl⟩ := List.mem_map.1 hu
  rfl
theorem prL_congr {g g' : Nat → Nat → Int} {n : Nat} (e : ∀ i, i < n → ∀ k, k < 64 → g i k = g' i k) : prL g n = prL g' n := by
  refine List.map_congr_left fun j hj => ?_
  have hj' := List.mem_range.1 hj
  unfold prF
  rw [e (j / 64) (by omega) (j % 64) (by omega)]
/-- The prints behind others. -/
def appF (g h : Nat → Nat → Int) (n : Nat) : Nat → Nat → Int := fun i => if i < n then g i else h (i - n)
theorem prL_append (g h : Nat → Nat → Int) (n m : Nat) : prL g n ++ prL h m = prL (appF g h n) (n + m) := by
  apply List.ext_getElem?
  intro j
  by_cases h1 : j < n * 64
  · rw [List.getElem?_append_left (by rw [prL_len]; exact h1), prL_get h1, prL_get (by omega)]
    unfold prF appF
    rw [if_pos (by omega)]
  · rw [List.getElem?_append_right (by rw [prL_len]; omega), prL_len]
    by_cases h2 : j < (n + m) * 64
    · rw [prL_get (by omega), prL_get h2]
      unfold prF appF
      rw [if_neg (by omega), show (j - n * 64) / 64 = j / 64 - n by omega, show (j - n * 64) % 64 = j % 64 by omega]
    · rw [List.getElem?_eq_none (by rw [prL_len]; omega), List.getElem?_eq_none (by rw [prL_len]; omega)]
theorem prL_nil (g : Nat → Nat → Int) : prL g 0 = [] := rfl

/-- From cell o of block b on lie n prints. -/
def PrsAt (w : World) (b o n : Nat) (g : Nat → Nat → Int) : Prop := ∀ i, i < n → PartA w b (o + i * 64) .i16 64 (g i)
section
variable {w w' : World} {b o n L U : Nat} {g : Nat → Nat → Int} {v : Value}
theorem PrsAt.cell (h : PrsAt w b o n g) {j : Nat} (hj : j < n * 64) : w.cell? ⟨b, o + j, none⟩ = some (prF g j) := by
  have := h (j / 64) (by omega) (j % 64) (by omega)
  rw [show o + j / 64 * 64 + j % 64 = o + j by omega] at this
  exact this
theorem PrsAt.news (h : PrsAt w b o n g) : ∀ j u, (prL g n)[j]? = some u → w.cell? ((⟨b, o, none⟩ : Addr).add j) = some u := fun j u hu => by
  have hj : j < n * 64 := by
    have := (List.getElem?_eq_some_iff.1 hu).1
    rwa [prL_len] at this
  rw [prL_get hj] at hu
  have e : (⟨b, o, none⟩ : Addr).add j = ⟨b, o + j, none⟩ := Addr.add_mid b o j
  rw [e, h.cell hj, hu]
theorem PrsAt.below {B : Nat} (h : PrsAt w b o n g) (hb : Below B w w') (hB : b < B) : PrsAt w' b o n g := fun i hi => (h i hi).below hb hB
theorem PrRow.at0 (h : PrRow w b n g) : PrsAt w b 0 n g := fun i hi => by rw [Nat.zero_add]; exact h.part hi
theorem PrsAt.prs (h : PrsAt w b o n g) (hb : b < w.heap.size) : PrsIn w (some ⟨b, o, none⟩) n g := .inr ⟨b, o, rfl, hb, h⟩
theorem mine_prs (h : w.ownsRow L 37 64 v n (prL g n)) : Mine w L w.heap.size 37 64 v n (prF g) :=
  (Mine.of_own h).congr fun j hj => by rw [prL_get hj]; rfl
theorem Mine.prs (h : Mine w L U 37 64 v n (prF g)) : ∃ A cap, v = .slice A n cap ∧ PrsIn w A n g := by
  obtain ⟨A, cap, rfl, h⟩ := h
  refine ⟨A, cap, rfl, ?_⟩
  rcases h with h | ⟨b, m, f, rfl, _, _, hm, hr, he⟩
  · exact .inl h
  · exact (show PrRow w b n g from ⟨m, f, hm, hr, he⟩).prs
theorem PrRow.mine (h : PrRow w b n g) (cap : Nat) : Mine w b (b + 1) 37 64 (.slice (some ⟨b, 0, none⟩) n cap) n (prF g) := by
  obtain ⟨m, f, hm, hr, he⟩ := h
  exact ⟨_, cap, rfl, .inr ⟨b, m, f, rfl, Nat.le_refl _, by omega, hm, hr, he⟩⟩
/-- A list that is not nil, and what lies in it. -/
theorem own_row {cap : Nat} (h : w.ownsRow L 37 64 (.slice (some ⟨b, 0, none⟩) n cap) n (prL g n)) : L ≤ b ∧ PrRow w b n g := by
  obtain ⟨_, h⟩ := h
  rcases h with ⟨h0, _⟩ | ⟨g', cap', cur, e, hb, hh, hn', hm, hs, ht⟩
  · cases h0
  · injection e with e1 e2 e3
    injection e1 with e1
    injection e1 with e1 e4
    subst e1
    refine ⟨hb, cap' * 64, fun j => cur[j]?.getD undef, Nat.mul_le_mul_right _ hn', ⟨cur, hh, hs, fun i hi => ?_⟩, fun j hj => ?_⟩
    · have : i < cur.size := by omega
      simp [this]
    · have h1 := prL_get (g := g) hj
      rw [← ht, List.getElem?_take, if_pos hj] at h1
      have h2 : cur[j]? = some (prF g j) := by simpa using h1
      show cur[j]?.getD undef = _
      rw [h2]; rfl
/-- One print is stored. -/
theorem PrRow.store {f : Nat → Int} {i : Nat} (h : PrRow w b n g) (s : StoredP w w' b (i * 64) 64 .i16 f) : PrRow w' b n (fun j => if j = i then f else g j) := by
  obtain ⟨m, hf, hm, hr, he⟩ := h
  refine ⟨m, _, hm, s.row _ _ _ hr, fun j hj => ?_⟩
  show _ = Value.int .i16 ((if j / 64 = i then f else g (j / 64)) (j % 64))
  by_cases h1 : i * 64 ≤ j ∧ j < i * 64 + 64
  · rw [if_pos h1, if_pos (by omega), show j % 64 = j - i * 64 by omega]
  · rw [if_neg h1, if_neg (by omega), he j hj]; rfl
end
section
variable {ops : Array Oper} {rest : List Oper} {o : Oper} {a : Act} {Q : Exit → Act → World → Prop} {w : World} {L n m c b' o' : Nat} {v : Value} {f h : Nat → Nat → Int} {t : TypeId}
/-- 'append(s, x...)' of prints onto an own list that is not nil: what it gives. -/
theorem append_prs (ht : Tryd.prog.underlying t = some (.slice 37)) (ty : TypeId) (hown : w.ownsRow L 37 64 v n (prL f n)) (hv : v ≠ .slice none 0 0 ∨ 0 < m) (hx : PrsAt w b' o' m h) (hnm : n + m ≤ 2097152) (hL : L ≤ w.heap.size) :
    ∃ g cap w', (Builtin.append_ #[t, t] ty #[v, .slice (some ⟨b', o', none⟩) m c]).run Tryd.prog w = .ok (.slice (some ⟨g, 0, none⟩) (n + m) cap) w' ∧ w'.ownsRow L 37 64 (.slice (some ⟨g, 0, none⟩) (n + m) cap) (n + m) (prL (appF f h n) (n + m)) ∧ Below L w w' ∧ w.grownBy w' v.ownBlock := by
  obtain ⟨i0, hi, hz0, hz1, hz2⟩ := info_parts prInfo
  obtain ⟨v', w', hr, h2, h3, h4, h5⟩ := run_append_own_at (P := Tryd.prog) w L t ty 37 i0 (.agg #[.int .i16 0, .int .i16 0, .int .i16 0, .int .i16 0, .int .i16 0, .int .i16 0, .int .i16 0, .int .i16 0, .int .i16 0, .int .i16 0, .int .i16 0, .int .i16 0, .int .i16 0, .int .i16 0, .int .i16 0, .int .i16 0, .int .i16 0, .int .i16 0, .int .i16 0, .int .i16 0, .int .i16 0, .int .i16 0, .int .i16 0, .int .i16 0, .int .i16 0, .int .i16 0, .int .i16 0, .int .i16 0, .int .i16 0, .int .i16 0, .int .i16 0, .int .i16 0, .int .i16 0, .int .i16 0, .int .i16 0, .int .i16 0, .int .i16 0, .int .i16 0, .int .i16 0, .int .i16 0, .int .i16 0, .int .i16 0, .int .i16 0, .int .i16 0, .int .i16 0, .int .i16 0, .int .i16 0, .int .i16 0, .int .i16 0, .int .i16 0, .int .i16 0, .int .i16 0, .int .i16 0, .int .i16 0, .int .i16 0, .int .i16 0, .int .i16 0, .int .i16 0, .int .i16 0, .int .i16 0, .int .i16 0, .int .i16 0, .int .i16 0, .int .i16 0]) 64 128 ht hi hz0 hz1 hz2 rfl (by decide) v n (prL f n) hown ⟨b', o', none⟩ m c (prL h m) (prL_len _ _) hx.news (prL_one _ _) (by unfold maxLen; omega) (by omega) hL
  have hne : v' ≠ .slice none 0 0 := fun e => by
    have := h4.1 e
    rcases hv with hv | hv
    · exact hv this.1
    · omega
  rw [prL_append] at h2
  obtain ⟨g, cap, rfl⟩ : ∃ g cap, v' = .slice (some ⟨g, 0, none⟩) (n + m) cap := by
    rcases h2.2 with ⟨e, _⟩ | ⟨g, cap, _, e, _⟩
    · exact absurd e hne
    · exact ⟨g, cap, e⟩
  exact ⟨g, cap, w', hr, h2, Below.grown (Below.refl _ _) h3 hL (fun k hk => (hown.lt k hk).1), h3⟩
theorem wpList_append_prs (hgd : o.guard = none) (s x : Operand) (ho : o.op = .call { callee := .builtin .append, args := #[s, x], argTypes := #[t, t] }) (ht : Tryd.prog.underlying t = some (.slice 37))
    (hs : a.eval s = v) (hown : w.ownsRow L 37 64 v n (prL f n)) (hv : v ≠ .slice none 0 0 ∨ 0 < m) (hxv : a.eval x = .slice (some ⟨b', o', none⟩) m c) (hx : PrsAt w b' o' m h) (hnm : n + m ≤ 2097152) (hL : L ≤ w.heap.size)
    (hK : ∀ g cap w', w'.ownsRow L 37 64 (.slice (some ⟨g, 0, none⟩) (n + m) cap) (n + m) (prL (appF f h n) (n + m)) → Below L w w' → w.grownBy w' v.ownBlock → wpList Tryd.prog ops Q rest (a.put o.dst (.slice (some ⟨g, 0, none⟩) (n + m) cap)) w') :
    wpList Tryd.prog ops Q (o :: rest) a w := by
  refine wpList_plain hgd fun K hK' => ?_
  obtain ⟨g, cap, w', hr, h2, h3, h4⟩ := append_prs (c := c) ht o.type hown hv hx hnm hL
  unfold Oper.wp execOp
  simp only [ho, resolve, invoke, builtin, Sem.run_bind, Sem.run_pure, Result.andThen_ok, List.map_toArray, List.map_cons, List.map_nil, hs, hxv, hr]
  exact hK' _ _ (hK g cap w' h2 h3 h4)
theorem step_append_prs {K : Act → World → Prop} {E : Prop} (hgd : o.guard = none) (s x : Operand) (ho : o.op = .call { callee := .builtin .append, args := #[s, x], argTypes := #[t, t] }) (ht : Tryd.prog.underlying t = some (.slice 37))
    (hs : a.eval s = v) (hown : w.ownsRow L 37 64 v n (prL f n)) (hv : v ≠ .slice none 0 0 ∨ 0 < m) (hxv : a.eval x = .slice (some ⟨b', o', none⟩) m c) (hx : PrsAt w b' o' m h) (hnm : n + m ≤ 2097152) (hL : L ≤ w.heap.size)
    (hK : ∀ g cap w', w'.ownsRow L 37 64 (.slice (some ⟨g, 0, none⟩) (n + m) cap) (n + m) (prL (appF f h n) (n + m)) → Below L w w' → w.grownBy w' v.ownBlock → K (a.put o.dst (.slice (some ⟨g, 0, none⟩) (n + m) cap)) w') :
    if Region.wanted o (yielded ops a.tmps) = true then Oper.wp Tryd.prog o a w K Q else E := by
  have hw : Region.wanted o (yielded ops a.tmps) = true := by simp [Region.wanted, hgd]
  rw [if_pos hw]
  obtain ⟨g, cap, w', hr, h2, h3, h4⟩ := append_prs (c := c) ht o.type hown hv hx hnm hL
  unfold Oper.wp execOp
  simp only [ho, resolve, invoke, builtin, Sem.run_bind, Sem.run_pure, Result.andThen_ok, List.map_toArray, List.map_cons, List.map_nil, hs, hxv, hr]
  exact hK g cap w' h2 h3 h4
end
end Go.Proofs.YtmibinfaafhgdaaDoor
