/-
  Lists of prints of a call's own: appended, stored into, marked and asked by the laws. Condition: at most 1048576 entries.
-/
import Derived.Test.YtmibinfaafhgdaaGreatDoorPsX
import Derived.Test.YtmibinfaafhgdaaGreatDoorOwn
import Derived.Maps.AppendAt
import Derived.Deep.AppendLies
import Derived.Deep.RegionHeld3
import Derived.Deep.Cut
import Derived.Deep.RegionHeld
import Derived.RegionTactic
import Derived.OrdersHeld
namespace Go.Proofs.YtmibinfaafhgdaaGreatDoor
open Go.RowKit

/-- The cells of n prints. -/
def prL (g : Nat → Nat → Int) (n : Nat) : List Value := (List.range (n * 64)).map (prF g)
theorem prL_len (g : Nat → Nat → Int) (n : Nat) : (prL g n).length = n * 64 := by simp [prL]
theorem prL_get {g : Nat → Nat → Int} {n j : Nat} (h : j < n * 64) : (prL g n)[j]? = some (prF g j) := by simp [prL, h]
theorem prL_one (g : Nat → Nat → Int) (n : Nat) : ∀ u ∈ prL g n, u.oneCell' = true := by
  intro u hu
  obtain ⟨j, _, rfl⟩ := List.mem_map.1 hu
  rfl
theorem prL_congr {g g' : Nat → Nat → Int} {n : Nat} (e : ∀ i, i < n → ∀ k, k < 64 → g i k = g' i k) : prL g n = prL g' n := by
  refine List.map_congr_left fun j hj => ?_
  have hj' := List.mem_range.1 hj
  unfold prF
  rw [e (j / 64) (by omega) (j % 64) (by omega)]
/-- The prints behind others. -/
def appF (g h : Nat → Nat → Int) (n : Nat) : Nat → Nat → Int := fun i => if i < n then g i else h (i - n)
theorem prL_append (g h : Nat → Nat → Int) (n m : Nat) : prL g n ++ prL h m = prL (appF g h n) (n + m) := by
  apply List.ext_getElem?
  intro j
  by_cases h1 : j < n * 64
  · rw [List.getElem?_append_left (by rw [prL_len]; exact h1), prL_get h1, prL_get (by omega)]
    unfold prF appF
    rw [if_pos (by omega)]
  · rw [List.getElem?_append_right (by rw [prL_len]; omega), prL_len]
    by_cases h2 : j < (n + m) * 64
    · rw [prL_get (by omega), prL_get h2]
      unfold prF appF
      rw [if_neg (by omega), show (j - n * 64) / 64 = j / 64 - n by omega, show (j - n * 64) % 64 = j % 64 by omega]
    · rw [List.getElem?_eq_none (by rw [prL_len]; omega), List.getElem?_eq_none (by rw [prL_len]; omega)]
theorem prL_nil (g : Nat → Nat → Int) : prL g 0 = [] := rfl

/-- From cell o of block b on lie n prints. -/
def PrsAt (w : World) (b o n : Nat) (g : Nat → Nat → Int) : Prop := ∀ i, i < n → PartA w b (o + i * 64) .i16 64 (g i)
section
variable {w w' : World} {b o n L U : Nat} {g : Nat → Nat → Int} {v : Value}
theorem PrsAt.cell (h : PrsAt w b o n g) {j : Nat} (hj : j < n * 64) : w.cell? ⟨b, o + j, none⟩ = some (prF g j) := by
  have := h (j / 64) (by omega) (j % 64) (by omega)
  rw [show o + j / 64 * 64 + j % 64 = o + j by omega] at this
  exact this
theorem PrsAt.news (h : PrsAt w b o n g) : ∀ j u, (prL g n)[j]? = some u → w.cell? ((⟨b, o, none⟩ : Addr).add j) = some u := fun j u hu => by
  have hj : j < n * 64 := by
    have := (List.getElem?_eq_some_iff.1 hu).1
    rwa [prL_len] at this
  rw [prL_get hj] at hu
  have e : (⟨b, o, none⟩ : Addr).add j = ⟨b, o + j, none⟩ := Addr.add_mid b o j
  rw [e, h.cell hj, hu]
theorem PrsAt.below {B : Nat} (h : PrsAt w b o n g) (hb : Below B w w') (hB : b < B) : PrsAt w' b o n g := fun i hi => (h i hi).below hb hB
theorem PrRow.at0 (h : PrRow w b n g) : PrsAt w b 0 n g := fun i hi => by rw [Nat.zero_add]; exact h.part hi
theorem PrsAt.prs (h : PrsAt w b o n g) (hb : b < w.heap.size) : PrsIn w (some ⟨b, o, none⟩) n g := .inr ⟨b, o, rfl, hb, h⟩
theorem mine_prs (h : w.ownsRow L 29 64 v n (prL g n)) : Mine w L w.heap.size 29 64 v n (prF g) :=
  (Mine.of_own h).congr fun j hj => by rw [prL_get hj]; rfl
theorem Mine.prs (h : Mine w L U 29 64 v n (prF g)) : ∃ A cap, v = .slice A n cap ∧ PrsIn w A n g := by
  obtain ⟨A, cap, rfl, h⟩ := h
  refine ⟨A, cap, rfl, ?_⟩
  rcases h with h | ⟨b, m, f, rfl, _, _, hm, hr, he⟩
  · exact .inl h
  · exact (show PrRow w b n g from ⟨m, f, hm, hr, he⟩).prs
theorem PrRow.mine (h : PrRow w b n g) (cap : Nat) : Mine w b (b + 1) 29 64 (.slice (some ⟨b, 0, none⟩) n cap) n (prF g) := by
  obtain ⟨m, f, hm, hr, he⟩ := h
  exact ⟨_, cap, rfl, .inr ⟨b, m, f, rfl, Nat.le_refl _, by omega, hm, hr, he⟩⟩
/-- A list that is not nil, and what lies in it. -/
theorem own_row {cap : Nat} (h : w.ownsRow L 29 64 (.slice (some ⟨b, 0, none⟩) n cap) n (prL g n)) : L ≤ b ∧ PrRow w b n g := by
  obtain ⟨_, h⟩ := h
  rcases h with ⟨h0, _⟩ | ⟨g', cap', cur, e, hb, hh, hn', hm, hs, ht⟩
  · cases h0
  · injection e with e1 e2 e3
    injection e1 with e1
    injection e1 with e1 e4
    subst e1
    refine ⟨hb, cap' * 64, fun j => cur[j]?.getD undef, Nat.mul_le_mul_right _ hn', ⟨cur, hh, hs, fun i hi => ?_⟩, fun j hj => ?_⟩
    · have : i < cur.size := by omega
      simp [this]
    · have h1 := prL_get (g := g) hj
      rw [← ht, List.getElem?_take, if_pos hj] at h1
      have h2 : cur[j]? = some (prF g j) := by simpa using h1
      show cur[j]?.getD undef = _
      rw [h2]; rfl
/-- One print is stored. -/
theorem PrRow.store {f : Nat → Int} {i : Nat} (h : PrRow w b n g) (s : StoredP w w' b (i * 64) 64 .i16 f) : PrRow w' b n (fun j => if j = i then f else g j) := by
  obtain ⟨m, hf, hm, hr, he⟩ := h
  refine ⟨m, _, hm, s.row _ _ _ hr, fun j hj => ?_⟩
  show _ = Value.int .i16 ((if j / 64 = i then f else g (j / 64)) (j % 64))
  by_cases h1 : i * 64 ≤ j ∧ j < i * 64 + 64
  · rw [if_pos h1, if_pos (by omega), show j % 64 = j - i * 64 by omega]
  · rw [if_neg h1, if_neg (by omega), he j hj]; rfl
end
section
variable {ops : Array Oper} {rest : List Oper} {o : Oper} {a : Act} {Q : Exit → Act → World → Prop} {w : World} {L n m c b' o' : Nat} {v : Value} {f h : Nat → Nat → Int} {t : TypeId}
/-- 'append(s, x...)' of prints onto an own list that is not nil: what it gives. -/
theorem append_prs (ht : Tryz.prog.underlying t = some (.slice 29)) (ty : TypeId) (hown : w.ownsRow L 29 64 v n (prL f n)) (hv : v ≠ .slice none 0 0 ∨ 0 < m) (hx : PrsAt w b' o' m h) (hnm : n + m ≤ 2097152) (hL : L ≤ w.heap.size) :
    ∃ g cap w', (Builtin.append_ #[t, t] ty #[v, .slice (some ⟨b', o', none⟩) m c]).run Tryz.prog w = .ok (.slice (some ⟨g, 0, none⟩) (n + m) cap) w' ∧ w'.ownsRow L 29 64 (.slice (some ⟨g, 0, none⟩) (n + m) cap) (n + m) (prL (appF f h n) (n + m)) ∧ Below L w w' ∧ w.grownBy w' v.ownBlock := by
  obtain ⟨i0, hi, hz0, hz1, hz2⟩ := info_parts prInfo
  obtain ⟨v', w', hr, h2, h3, h4, h5⟩ := run_append_own_at (P := Tryz.prog) w L t ty 29 i0 (.agg #[.int .i16 0, .int .i16 0, .int .i16 0, .int .i16 0, .int .i16 0, .int .i16 0, .int .i16 0, .int .i16 0, .int .i16 0, .int .i16 0, .int .i16 0, .int .i16 0, .int .i16 0, .int .i16 0, .int .i16 0, .int .i16 0, .int .i16 0, .int .i16 0, .int .i16 0, .int .i16 0, .int .i16 0, .int .i16 0, .int .i16 0, .int .i16 0, .int .i16 0, .int .i16 0, .int .i16 0, .int .i16 0, .int .i16 0, .int .i16 0, .int .i16 0, .int .i16 0, .int .i16 0, .int .i16 0, .int .i16 0, .int .i16 0, .int .i16 0, .int .i16 0, .int .i16 0, .int .i16 0, .int .i16 0, .int .i16 0, .int .i16 0, .int .i16 0, .int .i16 0, .int .i16 0, .int .i16 0, .int .i16 0, .int .i16 0, .int .i16 0, .int .i16 0, .int .i16 0, .int .i16 0, .int .i16 0, .int .i16 0, .int .i16 0, .int .i16 0, .int .i16 0, .int .i16 0, .int .i16 0, .int .i16 0, .int .i16 0, .int .i16 0, .int .i16 0]) 64 128 ht hi hz0 hz1 hz2 rfl (by decide) v n (prL f n) hown ⟨b', o', none⟩ m c (prL h m) (prL_len _ _) hx.news (prL_one _ _) (by unfold maxLen; omega) (by omega) hL
  have hne : v' ≠ .slice none 0 0 := fun e => by
    have := h4.1 e
    rcases hv with hv | hv
    · exact hv this.1
    · omega
  rw [prL_append] at h2
  obtain ⟨g, cap, rfl⟩ : ∃ g cap, v' = .slice (some ⟨g, 0, none⟩) (n + m) cap := by
    rcases h2.2 with ⟨e, _⟩ | ⟨g, cap, _, e, _⟩
    · exact absurd e hne
    · exact ⟨g, cap, e⟩
  exact ⟨g, cap, w', hr, h2, Below.grown (Below.refl _ _) h3 hL (fun k hk => (hown.lt k hk).1), h3⟩
theorem wpList_append_prs (hgd : o.guard = none) (s x : Operand) (ho : o.op = .call { callee := .builtin .append, args := #[s, x], argTypes := #[t, t] }) (ht : Tryz.prog.underlying t = some (.slice 29))
    (hs : a.eval s = v) (hown : w.ownsRow L 29 64 v n (prL f n)) (hv : v ≠ .slice none 0 0 ∨ 0 < m) (hxv : a.eval x = .slice (some ⟨b', o', none⟩) m c) (hx : PrsAt w b' o' m h) (hnm : n + m ≤ 2097152) (hL : L ≤ w.heap.size)
    (hK : ∀ g cap w', w'.ownsRow L 29 64 (.slice (some ⟨g, 0, none⟩) (n + m) cap) (n + m) (prL (appF f h n) (n + m)) → Below L w w' → w.grownBy w' v.ownBlock → wpList Tryz.prog ops Q rest (a.put o.dst (.slice (some ⟨g, 0, none⟩) (n + m) cap)) w') :
    wpList Tryz.prog ops Q (o :: rest) a w := by
  refine wpList_plain hgd fun K hK' => ?_
  obtain ⟨g, cap, w', hr, h2, h3, h4⟩ := append_prs (c := c) ht o.type hown hv hx hnm hL
  unfold Oper.wp execOp
  simp only [ho, resolve, invoke, builtin, Sem.run_bind, Sem.run_pure, Result.andThen_ok, List.map_toArray, List.map_cons, List.map_nil, hs, hxv, hr]
  exact hK' _ _ (hK g cap w' h2 h3 h4)
theorem step_append_prs {K : Act → World → Prop} {E : Prop} (hgd : o.guard = none) (s x : Operand) (ho : o.op = .call { callee := .builtin .append, args := #[s, x], argTypes := #[t, t] }) (ht : Tryz.prog.underlying t = some (.slice 29))
    (hs : a.eval s = v) (hown : w.ownsRow L 29 64 v n (prL f n)) (hv : v ≠ .slice none 0 0 ∨ 0 < m) (hxv : a.eval x = .slice (some ⟨b', o', none⟩) m c) (hx : PrsAt w b' o' m h) (hnm : n + m ≤ 2097152) (hL : L ≤ w.heap.size)
    (hK : ∀ g cap w', w'.ownsRow L 29 64 (.slice (some ⟨g, 0, none⟩) (n + m) cap) (n + m) (prL (appF f h n) (n + m)) → Below L w w' → w.grownBy w' v.ownBlock → K (a.put o.dst (.slice (some ⟨g, 0, none⟩) (n + m) cap)) w') :
    if Region.wanted o (yielded ops a.tmps) = true then Oper.wp Tryz.prog o a w K Q else E := by
  have hw : Region.wanted o (yielded ops a.tmps) = true := by simp [Region.wanted, hgd]
  rw [if_pos hw]
  obtain ⟨g, cap, w', hr, h2, h3, h4⟩ := append_prs (c := c) ht o.type hown hv hx hnm hL
  unfold Oper.wp execOp
  simp only [ho, resolve, invoke, builtin, Sem.run_bind, Sem.run_pure, Result.andThen_ok, List.map_toArray, List.map_cons, List.map_nil, hs, hxv, hr]
  exact hK g cap w' h2 h3 h4
end
end Go.Proofs.YtmibinfaafhgdaaGreatDoor

namespace Go.Proofs.YtmibinfaafhgdaaGreatDoor
open Go.RowKit

/-- The cells behind the marking. -/
def markPrF (k0 : Int) (j : Nat) : Value := .int .i16 (IntKind.i16.wrap (k0 + (j : Int)))
theorem markPrF_at (k0 : Int) (k l : Nat) : markPrF k0 (k * 64 + l) = .int .i16 (IntKind.i16.wrap (k0 + 64 * k + l)) := by
  unfold markPrF
  rw [show k0 + ((k * 64 + l : Nat) : Int) = k0 + 64 * k + l by omega]
theorem row_stepMk {w : World} {b : Nat} {t : TypeId} {n k : Nat} {f g : Nat → Value} (h : w.rowIs b t n (fun j => if j < k then f j else g j)) :
    (w.setCell ⟨b, k, none⟩ (f k)).rowIs b t n (fun j => if j < k + 1 then f j else g j) :=
  (h.set k (f k)).congr (fun j _ => by
    by_cases h1 : j = k
    · subst h1; simp
    · by_cases h2 : j < k
      · have h3 : j < k + 1 := by omega
        simp [h1, h2, h3]
      · have h3 : ¬ j < k + 1 := by omega
        simp [h1, h2, h3])
theorem Only.transM {L U : Nat} {a b c : World} (h : Only L U a b) (h' : Only L U b c) : Only L U a c :=
  ⟨h'.os.trans h.os, h'.tape.trans h.tape, h'.output.trans h.output, Nat.le_trans h.size h'.size, fun k hk hkk => (h'.block k (Nat.lt_of_lt_of_le hk h.size) hkk).trans (h.block k hk hkk)⟩
theorem Only.allocM (L U : Nat) (w : World) (c : Obj) : Only L U w (w.alloc c) := by
  have h := (Below.refl w.heap.size w).alloc (Nat.le_refl _) c
  exact ⟨h.os, h.tape, h.output, h.size, fun b hb _ => h.block b hb⟩
theorem Only.cellOf {L U : Nat} {w w' : World} (h : Only L U w w') {p : Addr} {v : Value} (hc : w.cell? p = some v) (hb : p.block < L ∨ U ≤ p.block) : w'.cell? p = some v := by
  have := World.block_lt_of_cell? w _ hc
  rw [World.cell?_of_block (w := w) (h.block p.block this hb), hc]
theorem PrRow.only {L U : Nat} {w w' : World} {b n : Nat} {g : Nat → Nat → Int} (h : PrRow w b n g) (ho : Only L U w w') (hb : b < L ∨ U ≤ b) : PrRow w' b n g := by
  obtain ⟨m, f, hm, hr, he⟩ := h
  exact ⟨m, f, hm, hr.of_block (ho.block b hr.lt hb), he⟩

end Go.Proofs.YtmibinfaafhgdaaGreatDoor


namespace Go.Proofs.YtmibinfaafhgdaaGreatDoor
open Go.RowKit

theorem foldl_set_getP : ∀ (l : List Value) (k : Nat) (B : Array Value) (j : Nat), j < B.size → ((l.zipIdx k).foldl (fun a x => a.setIfInBounds x.2 x.1) B)[j]? = if k ≤ j ∧ j < k + l.length then l[j - k]? else B[j]?
  | [], k, B, j, hj => by
    rw [if_neg (by first | (simp; done) | (simp; omega))]; rfl
  | v :: l, k, B, j, hj => by
    rw [List.zipIdx_cons, List.foldl_cons, foldl_set_getP l (k + 1) _ j (by simpa using hj)]
    by_cases h : k = j
    · subst h
      have h1 : ¬ (k + 1 ≤ k ∧ k < k + 1 + l.length) := by omega
      have h2 : k ≤ k ∧ k < k + (v :: l).length := by simp
      rw [if_neg h1, if_pos h2]
      simp [hj]
    · by_cases h1 : k + 1 ≤ j ∧ j < k + 1 + l.length
      · have h2 : k ≤ j ∧ j < k + (v :: l).length := by simp; omega
        rw [if_pos h1, if_pos h2]
        obtain ⟨d, rfl⟩ : ∃ d, j = k + 1 + d := ⟨j - (k + 1), by omega⟩
        rw [show k + 1 + d - (k + 1) = d by omega, show k + 1 + d - k = d + 1 by omega, List.getElem?_cons_succ]
      · have h2 : ¬ (k ≤ j ∧ j < k + (v :: l).length) := by simp; omega
        rw [if_neg h1, if_neg h2, Array.getElem?_setIfInBounds_ne h]
theorem foldl_set_sizeP : ∀ (l : List (Value × Nat)) (B : Array Value), (l.foldl (fun a x => a.setIfInBounds x.2 x.1) B).size = B.size
  | [], B => rfl
  | x :: l, B => by rw [List.foldl_cons, foldl_set_sizeP l]; simp
theorem foldl_set_allP (cs B : Array Value) (h : B.size = cs.size) : cs.zipIdx.foldl (fun a x => a.setIfInBounds x.2 x.1) B = cs := by
  have e : cs.zipIdx.foldl (fun a x => a.setIfInBounds x.2 x.1) B = (cs.toList.zipIdx 0).foldl (fun a x => a.setIfInBounds x.2 x.1) B := by
    rw [← Array.foldl_toList, Array.toList_zipIdx]
  rw [e]
  apply Array.ext_getElem?
  intro j
  by_cases hj : j < B.size
  · rw [foldl_set_getP _ 0 B j hj, if_pos ⟨Nat.zero_le _, by simp; omega⟩]
    simp
  · rw [Array.getElem?_eq_none (by rw [foldl_set_sizeP]; omega), Array.getElem?_eq_none (by omega)]
theorem foldl_set_uptoP (cs B : Array Value) (n : Nat) (hn : cs.size = n) (h : B.size = n) : cs.zipIdx.foldl (fun a x => a.setIfInBounds x.2 x.1) B 0 n = cs := by
  have h1 := foldl_set_allP cs B (h.trans hn.symm)
  have e : cs.zipIdx.size = n := by simp [hn]
  rw [e] at h1
  exact h1
theorem run_buildSlice_arrP {P : Program} {t e : TypeId} {n : Nat} {i : TypeInfo} {z : Value} (ht : P.underlying t = some (.slice e)) (hi : P.info? e = some i) (hs : i.size = n) (hz : i.zero = some z) (hn : 0 < n) (hn2 : n ≤ 16777216) (κ : IntKind) (f : Nat → Int) (w : World) :
    (Instr.buildSlice t 1 #[(0, .agg (arrV κ n f))]).run P w = .ok (.slice (some ⟨w.heap.size, 0, none⟩) 1 1) (w.alloc (.cells (arrV κ n f) e)) := by
  have h1 : ¬ 16777216 < n := by omega
  have h2 : ¬ n = 0 := by omega
  have h3 := foldl_set_uptoP (arrV κ n f) (Array.map (fun x => z.cells[x % z.cells.size]!) (Array.range n)) n (arrV_size _ _ _) (by simp)
  have h4 : Instr.fill (fun i => some (i * n, n)) (Array.map (fun x => z.cells[x % z.cells.size]!) (Array.range n)) [(0, Value.agg (arrV κ n f))] = some (arrV κ n f) := by
    simp [Instr.fill, Value.cells, arrV_size]
    exact h3
  simp [Instr.buildSlice, run_underlying ht, sizeOf, typeInfo, hi, hs, hz, zeroValue, h1, h2, newRow, h4]

theorem arrV_oneLP (κ : IntKind) (n : Nat) (f : Nat → Int) (u : Value) (hu : u ∈ (arrV κ n f).toList) : u.oneCell' = true := by
  obtain ⟨k, hk, e⟩ := List.mem_iff_getElem.1 hu
  have hk' : k < n := by simpa [arrV_size] using hk
  have h2 := arrV_get (κ := κ) (f := f) hk'
  rw [Array.getElem?_eq_getElem (by rw [arrV_size]; exact hk')] at h2
  rw [← e, Array.getElem_toList, Option.some.inj h2]
  rfl
theorem wpList_buildSlice_arrP {P : Program} {ops : Array Oper} {rest : List Oper} {o : Oper} {a : Act} {w : World} {Q : Exit → Act → World → Prop} {t e : TypeId} {n : Nat} {i : TypeInfo} {z : Value} {κ : IntKind} {f : Nat → Int} (x : Operand) (hgd : o.guard = none) (ho : o.op = .buildSlice t 1 #[(0, x)]) (hx : a.eval x = .agg (arrV κ n f))
    (ht : P.underlying t = some (.slice e)) (hi : P.info? e = some i) (hs : i.size = n) (hz : i.zero = some z) (hn : 0 < n) (hn2 : n ≤ 16777216)
    (hK : wpList P ops Q rest (a.put o.dst (.slice (some ⟨w.heap.size, 0, none⟩) 1 1)) (w.alloc (.cells (arrV κ n f) e))) : wpList P ops Q (o :: rest) a w :=
  wpList_plain hgd fun K hK' => by
    have h : (execOp a.eval o).run P w = .ok (.value (.slice (some ⟨w.heap.size, 0, none⟩) 1 1)) (w.alloc (.cells (arrV κ n f) e)) := by
      unfold execOp
      simp only [ho, List.map_toArray, List.map_cons, List.map_nil, hx, Sem.run_bind, run_buildSlice_arrP ht hi hs hz hn hn2 κ f w, Result.andThen_ok, Sem.run_pure]
    unfold Oper.wp
    rw [h]
    exact hK' _ _ hK

/-- The block of the literal. -/
theorem lit_at (w : World) (f : Nat → Int) : PrsAt (w.alloc (.cells (arrV .i16 64 f) 29)) w.heap.size 0 1 (fun _ => f) := by
  have h := World.rowIs_alloc w (arrV .i16 64 f) 29 (fun j => .int .i16 (f j)) (fun i hi => by
    rw [arrV_size] at hi
    have h2 := arrV_get (κ := .i16) (f := f) hi
    simp [getElem!_def, h2])
  intro i hi k hk
  rw [arrV_size] at h
  rw [h.cell (by omega), show 0 + i * 64 + k = k by omega]
section
variable {ops : Array Oper} {rest : List Oper} {o : Oper} {a : Act} {Q : Exit → Act → World → Prop} {w : World} {V : Array Value} {f : Nat → Int} {t : TypeId}
theorem step_lit_pr {K : Act → World → Prop} {E : Prop} (x : Operand) (hgd : o.guard = none) (ho : o.op = .buildSlice t 1 #[(0, x)]) (ht : Tryz.prog.underlying t = some (.slice 29)) (hx : a.eval x = .agg V) (hV : arrV .i16 64 f = V)
    (hK : K (a.put o.dst (.slice (some ⟨w.heap.size, 0, none⟩) 1 1)) (w.alloc (.cells (arrV .i16 64 f) 29))) :
    if Region.wanted o (yielded ops a.tmps) = true then Oper.wp Tryz.prog o a w K Q else E := by
  have hw : Region.wanted o (yielded ops a.tmps) = true := by simp [Region.wanted, hgd]
  rw [if_pos hw]
  obtain ⟨i0, hi, hz0, hz1, hz2⟩ := info_parts prInfo
  subst hV
  have h : (execOp a.eval o).run Tryz.prog w = .ok (.value (.slice (some ⟨w.heap.size, 0, none⟩) 1 1)) (w.alloc (.cells (arrV .i16 64 f) 29)) := by
    unfold execOp
    simp only [ho, List.map_toArray, List.map_cons, List.map_nil, hx, Sem.run_bind, run_buildSlice_arrP ht hi hz1 hz0 (by decide) (by decide) .i16 f w, Result.andThen_ok, Sem.run_pure]
  unfold Oper.wp
  rw [h]
  exact hK
theorem wpList_lit_pr (x : Operand) (hgd : o.guard = none) (ho : o.op = .buildSlice t 1 #[(0, x)]) (ht : Tryz.prog.underlying t = some (.slice 29)) (hx : a.eval x = .agg V) (hV : arrV .i16 64 f = V)
    (hK : wpList Tryz.prog ops Q rest (a.put o.dst (.slice (some ⟨w.heap.size, 0, none⟩) 1 1)) (w.alloc (.cells (arrV .i16 64 f) 29))) : wpList Tryz.prog ops Q (o :: rest) a w := by
  obtain ⟨i0, hi, hz0, hz1, hz2⟩ := info_parts prInfo
  subst hV
  exact wpList_buildSlice_arrP x hgd ho hx ht hi hz1 hz0 (by decide) (by decide) hK
end
end Go.Proofs.YtmibinfaafhgdaaGreatDoor
