/-
  The text of a scene, by the program, for every scene. No condition.
-/
import Derived.Test.YtmphmpddlgcofaaDoorChunk
import Derived.Test.YtmphmpddlgcofaaDoorQuietD
import Derived.Deep.AppendLies
namespace Go.Proofs.YtmphmpddlgcofaaDoor
open Go.RowKit Go.Shelf

attribute [local go_sem] Oper.semAt_some

theorem wpListIn_load_arr {F : Fence} {N : Nat} {P : Program} {ops : Array Oper} {rest : List Oper} {o : Oper} {a : Act} {w : World} {Q : Exit → Act → World → Prop} {b : Nat} {T : TypeId} {κ : IntKind} {n : Nat} {f : Nat → Int} {m : Nat} {e : TypeId}
    (h : HasArr w b T κ n f) (ty : TypeId) (x : Operand) (hgd : o.guard = none) (ho : o.op = .load ty x) (hx : a.eval x = .pointer (some ⟨b, 0, none⟩)) (hu : P.underlying ty = some (.array m e)) (hi : (P.info? ty).map (·.size) = some n)
    (hK : wpListIn F N P ops Q rest (a.put o.dst (.agg (arrV κ n f))) w) : wpListIn F N P ops Q (o :: rest) a w := by
  refine wpListIn_plain hgd fun K hK' => ?_
  unfold Oper.wpIn
  refine ⟨?_, ?_⟩
  · simp [Oper.about, ho]
  · rw [Oper.semAt_plain F _ _ (by rw [ho]; intro c hc'; cases hc'), run_load_arr h ty x ho hx hu hi]
    exact hK' _ _ hK

theorem wpIn_append_lies {F : Fence} {N : Nat} {P : Program} (w : World) {o : Oper} {a : Act} {K : Act → World → Prop} {Q : Exit → Act → World → Prop} (s x : Operand) (t : TypeId)
    (ho : o.op = .call { callee := .builtin .append, args := #[s, x], argTypes := #[t, t] })
    (base : Nat) (e : TypeId) (i : TypeInfo) (z : Value) (size bytes : Nat) (ht : P.underlying t = some (.slice e)) (hi : P.info? e = some i) (hz : i.zero = some z)
    (hsize : i.size = size) (hby : i.bytes = bytes) (hzs : z.cells.size = size) (hsz : 0 < size)
    (v : Value) (n : Nat) (xs : List Value) (hs : a.eval s = v) (hown : w.ownsRow base e size v n xs)
    (ad : Addr) (m c : Nat) (news : List Value) (hx : a.eval x = .slice (some ad) m c) (hl : news.length = m * size) (hnews : ∀ j u, news[j]? = some u → w.cell? (ad.add j) = some u) (h1 : ∀ u ∈ news, u.oneCell' = true)
    (hm : 0 < m) (h63 : n + m ≤ maxLen) (hbytes : (n + m) * bytes ≤ 140737488355328) (hbase : base ≤ w.heap.size)
    (h : ∀ g cap w', w'.ownsRow base e size (.slice (some ⟨g, 0, none⟩) (n + m) cap) (n + m) (xs ++ news) → w.grownBy w' v.ownBlock → K (a.put o.dst (.slice (some ⟨g, 0, none⟩) (n + m) cap)) w') : Oper.wpIn F N P o a w K Q := by
  obtain ⟨g, cap, w', hr, h2, h3, h4, h5⟩ := run_append_lies (P := P) w t o.type base e i z size bytes ht hi hz hsize hby hzs hsz v n xs hown ad m c news hl hnews h1 hm h63 hbytes hbase _ rfl
  unfold Oper.wpIn
  refine ⟨?_, ?_⟩
  · simp [Oper.about, ho, resolve, Target.leads, Sem.run_pure]
  · rw [Oper.semAt_plain F _ _ (by rw [ho]; intro c hc'; cases hc')]
    simp [execOp, ho, resolve, invoke, builtin, hs, hx, hr, Result.andThen]
    exact h g cap w' h2 h3

section
variable {W W' : World} {base size k : Nat} {e : TypeId} {v : Value} {xs : List Value}
theorem ownsRow_neT (h : W.ownsRow base e size v k xs) {j : Nat} {o : Obj} (hj : W.heap[j]? = some o) (hno : ∀ cur, o ≠ .cells cur e (0, 0)) : some j ≠ v.ownBlock := by
  rcases h.2 with ⟨rfl, _⟩ | ⟨g, cap, cur, rfl, _, hgb, _⟩
  · simp [Value.ownBlock]
  · intro e'
    have : j = g := by simpa [Value.ownBlock] using e'
    subst this; rw [hgb] at hj; cases hj; exact hno cur rfl
theorem boxT {B : Nat} {v : Value} {t : TypeId} (h : W.heap[B]? = some (.cells #[v] t (0, 0))) : W.cell? ⟨B, 0, none⟩ = some v ∧ W.frozen? ⟨B, 0, none⟩ = false ∧ B < W.heap.size :=
  ⟨by simp [World.cell?, h], by simp [World.frozen?, h], (Array.getElem?_eq_some_iff.1 h).1⟩
theorem boxT_set {B : Nat} {v : Value} {t : TypeId} (v' : Value) (h : W.heap[B]? = some (.cells #[v] t (0, 0))) : (W.setCell ⟨B, 0, none⟩ v').heap[B]? = some (.cells #[v'] t (0, 0)) := by
  obtain ⟨hlt, hk⟩ := Array.getElem?_eq_some_iff.1 h
  show (W.heap.modify B _)[B]? = _
  rw [Array.getElem?_eq_getElem (by rw [Array.size_modify]; exact hlt), Array.getElem_modify_self, hk]
  rfl
theorem setT_grown (W : World) (b : Nat) (v : Value) : W.grownBy (W.setCell ⟨b, 0, none⟩ v) (some b) :=
  ⟨rfl, rfl, rfl, by simp [World.setCell], fun k _ hk => Below.heap_setCell _ _ _ k (fun e => hk (by rw [e]))⟩
end

/-- Between two rounds: the list that has come so far, the iterator's variables, the scene. -/
structure RowsAt (w0 : World) (b0 R Bs Bn : Nat) (f : Nat → Int) (pre : List (Fin 4)) (W : World) : Prop where
  box : ∃ v, W.heap[R]? = some (.cells #[v] 95 (0, 0)) ∧ W.ownsRow w0.heap.size 9 1 v pre.length (pre.map fun x => strV (rowW (wdS f) x.1))
  s : W.heap[Bs]? = some (.cells #[.slice (some ⟨b0, 0, none⟩) 24 24] 99 (0, 0))
  n : W.heap[Bn]? = some (.cells #[.int .i64 6] 3 (0, 0))
  arr : HasArr W b0 28 .i8 24 f
  below : Below w0.heap.size w0 W
theorem rowsAt_from (w0 : World) (b0 R Bs Bn B : Nat) (f : Nat → Int) (hB : w0.heap.size ≤ B) : OwnFrom B (RowsAt w0 b0 R Bs Bn f) := fun s W W' row h hg hr => by
  have hc : ∀ (k : Nat) (o : Obj), W.heap[k]? = some o → o.isCells = true → W'.heap[k]? = some o := fun k o hk ho => by
    rw [hg.block k (Array.getElem?_eq_some_iff.1 hk).1 (fun e => by
      obtain ⟨_, o', ho', hn⟩ := hr k e.symm
      rw [hk] at ho'; cases ho'; rw [ho] at hn; cases hn)]
    exact hk
  obtain ⟨v, hv, hown⟩ := h.box
  refine ⟨⟨v, hc _ _ hv rfl, hown.kept hg ?_⟩, hc _ _ h.s rfl, hc _ _ h.n rfl, hc _ _ h.arr rfl, h.below.grown hg h.below.size (fun k e => Nat.le_trans hB (hr k e).1)⟩
  rcases hown.2 with ⟨rfl, _⟩ | ⟨g, cap, cur, rfl, _, hgb, _⟩
  · exact .inl rfl
  · refine .inr fun e' => ?_
    obtain ⟨_, o', ho', hn⟩ := hr g (by simpa [Value.ownBlock] using e'.symm)
    rw [hgb] at ho'; cases ho'; cases hn

/-- One more row: what an append and a store leave. -/
theorem rowsAt_next {w0 : World} {b0 R Bs Bn : Nat} {f : Nat → Int} {pre : List (Fin 4)} {x : Fin 4} {W w1 w3 : World} {v : Value} {g cap B : Nat} (h : RowsAt w0 b0 R Bs Bn f pre W) (h0R : w0.heap.size ≤ R)
    (hv : W.heap[R]? = some (.cells #[v] 95 (0, 0))) (hown : W.ownsRow w0.heap.size 9 1 v pre.length (pre.map fun x => strV (rowW (wdS f) x.1)))
    (hne : R ≠ b0 ∧ R ≠ Bs ∧ R ≠ Bn) (hb : Below W.heap.size W w1) (hg : w1.grownBy w3 v.ownBlock) (hown3 : w3.ownsRow w0.heap.size 9 1 (.slice (some ⟨g, 0, none⟩) (pre.length + 1) cap) (pre.length + 1) ((pre.map fun x => strV (rowW (wdS f) x.1)) ++ [strV (rowW (wdS f) x.1)])) :
    KeepsFrom B W (w3.setCell ⟨R, 0, none⟩ (.slice (some ⟨g, 0, none⟩) (pre.length + 1) cap)) ∧ Keeps2 Bs Bn W (w3.setCell ⟨R, 0, none⟩ (.slice (some ⟨g, 0, none⟩) (pre.length + 1) cap)) ∧ RowsAt w0 b0 R Bs Bn f (pre ++ [x]) (w3.setCell ⟨R, 0, none⟩ (.slice (some ⟨g, 0, none⟩) (pre.length + 1) cap)) := by
  have stay3 : ∀ (k : Nat) (o : Obj), W.heap[k]? = some o → some k ≠ v.ownBlock → w3.heap[k]? = some o := fun k o hk hn => by
    have hk1 : k < W.heap.size := (Array.getElem?_eq_some_iff.1 hk).1
    rw [hg.block k (Nat.lt_of_lt_of_le hk1 hb.size) hn, hb.block k hk1]; exact hk
  have stay : ∀ (k : Nat) (o : Obj), W.heap[k]? = some o → k ≠ R → some k ≠ v.ownBlock → (w3.setCell ⟨R, 0, none⟩ (.slice (some ⟨g, 0, none⟩) (pre.length + 1) cap)).heap[k]? = some o := fun k o hk hn hn' => by
    rw [Below.heap_setCell w3 ⟨R, 0, none⟩ _ k hn]; exact stay3 k o hk hn'
  have hv3 := stay3 R _ hv (ownsRow_neT hown hv (fun cur e => absurd (Obj.cells.inj e).2.1 (by decide)))
  have hs := stay Bs _ h.s hne.2.1.symm (ownsRow_neT hown h.s (fun cur e => absurd (Obj.cells.inj e).2.1 (by decide)))
  have hn := stay Bn _ h.n hne.2.2.symm (ownsRow_neT hown h.n (fun cur e => absurd (Obj.cells.inj e).2.1 (by decide)))
  have ha := stay b0 _ h.arr hne.1.symm (ownsRow_neT hown h.arr (fun cur e => absurd (Obj.cells.inj e).2.1 (by decide)))
  have hB1 : Below w0.heap.size w0 w1 := h.below.trans (hb.mono h.below.size)
  have hB3 : Below w0.heap.size w0 w3 := hB1.grown hg hB1.size (fun k e => (hown.lt k e).1)
  refine ⟨⟨by have := hb.size; have := hg.size; simp [World.setCell]; omega, fun k o' _ hk hno => stay k o' hk (fun e => by subst e; rw [hv] at hk; cases hk; cases hno) (fun e => ?_)⟩, ⟨hs.trans h.s.symm, hn.trans h.n.symm⟩, ⟨⟨_, boxT_set _ hv3, ?_⟩, hs, hn, ha, hB3.setCell h0R _⟩⟩
  · rcases hown.2 with ⟨rfl, _⟩ | ⟨g', cap', cur, rfl, _, hgb, _⟩
    · simp [Value.ownBlock] at e
    · have : k = g' := by simpa [Value.ownBlock] using e
      subst this; rw [hgb] at hk; cases hk; cases hno
  · have := hown3.kept (setT_grown w3 R (.slice (some ⟨g, 0, none⟩) (pre.length + 1) cap)) (.inr (fun e => ownsRow_neT hown3 hv3 (fun cur e => absurd (Obj.cells.inj e).2.1 (by decide)) e.symm))
    simpa using this

theorem rows_new (w1 : World) (c0 : Obj) (v s n : Value) (T1 T2 T3 : TypeId) :
    ((((w1.alloc c0).alloc (.cells #[v] T1)).alloc (.cells #[s] T2)).alloc (.cells #[n] T3)).heap[w1.heap.size + 1]? = some (.cells #[v] T1 (0, 0)) ∧
    ((((w1.alloc c0).alloc (.cells #[v] T1)).alloc (.cells #[s] T2)).alloc (.cells #[n] T3)).heap[w1.heap.size + 1 + 1]? = some (.cells #[s] T2 (0, 0)) ∧
    ((((w1.alloc c0).alloc (.cells #[v] T1)).alloc (.cells #[s] T2)).alloc (.cells #[n] T3)).heap[w1.heap.size + 1 + 1 + 1]? = some (.cells #[n] T3 (0, 0)) ∧
    ((((w1.alloc c0).alloc (.cells #[v] T1)).alloc (.cells #[s] T2)).alloc (.cells #[n] T3)).heap.size = w1.heap.size + 4 ∧
    Below w1.heap.size w1 ((((w1.alloc c0).alloc (.cells #[v] T1)).alloc (.cells #[s] T2)).alloc (.cells #[n] T3)) := by
  have z1 : (w1.alloc c0).heap.size = w1.heap.size + 1 := by simp
  have z2 : ((w1.alloc c0).alloc (.cells #[v] T1)).heap.size = w1.heap.size + 1 + 1 := by simp
  have z3 : (((w1.alloc c0).alloc (.cells #[v] T1)).alloc (.cells #[s] T2)).heap.size = w1.heap.size + 1 + 1 + 1 := by simp
  have n1 := World.alloc_heap_new (w1.alloc c0) (.cells #[v] T1)
  have n2 := World.alloc_heap_new ((w1.alloc c0).alloc (.cells #[v] T1)) (.cells #[s] T2)
  have n3 := World.alloc_heap_new (((w1.alloc c0).alloc (.cells #[v] T1)).alloc (.cells #[s] T2)) (.cells #[n] T3)
  rw [z1] at n1
  rw [z2] at n2
  rw [z3] at n3
  refine ⟨?_, ?_, n3, by simp, (((( Below.refl _ _).alloc (Nat.le_refl _) _).alloc (by simp) _).alloc (by simp; omega) _).alloc (by simp; omega) _⟩
  · exact (Below.heap_alloc _ _ _ (by omega)).trans ((Below.heap_alloc _ _ _ (by omega)).trans n1)
  · exact (Below.heap_alloc _ _ _ (by omega)).trans n2

set_option maxRecDepth 100000 in
set_option maxHeartbeats 4000000 in
theorem SceneText_any (f : Nat → Int) (w : World) :
    Calls Tryd.prog 20 #[.agg (arrV .i8 24 f)] w fun e w' => e = .returned (strV (scT f)) ∧ Below w.heap.size w w' := by
  have a1 := HasArr.new w 28 .i8 24 f
  have k0 := (Below.refl w.heap.size w).alloc (Nat.le_refl _) (.cells (arrV .i8 24 f) 28)
  have hok := fun W => ValidScene_any f W
  rcases hv : scnB f with _ | _
  · rw [scT_no hv]
    rw [hv] at hok
    have Hok := Lib.hid hok; clear hok hv
    go_enter Tryd.func20, Tryd.ntmps20
    go_wp2_with (refine wpList_load_arr a1 _ _ rfl rfl rfl Tryd.underlying28 sizeScn ?_)
    refine (Hok.out _).mono ?_; rintro e w1 ⟨rfl, hb1⟩
    go_wp2_with fail
    go_ret
    exact ⟨rfl, k0.trans (hb1.mono k0.size)⟩
  rw [scT_yes hv]
  rw [hv] at hok
  have hbd := fun j (hj : j < 24) => scnB_bd hv hj
  have htx := rows_txS (wdS f)
  have hlen := txS_len (wdS_len hv) 24 (Nat.le_refl _)
  generalize txS (wdS f) 24 = R0 at *
  have Hok := Lib.hid hok; clear hok hv
  have Hbd := Lib.hid hbd; clear hbd
  have Htx := Lib.hid htx; clear htx
  obtain ⟨i0, hi, hz0, hz1, hz2⟩ := info_parts strInfoT
  have hmk : ∀ W, (Instr.makeSlice 95 (.int .i64 0) (.int .i64 4)).run Tryd.prog W = .ok (.slice (some ⟨W.heap.size, 0, none⟩) 0 4) (W.alloc (.cells (madeCells #[.string ⟨#[]⟩] 4) 9)) := fun W => by
    have h := run_make_rowN (P := Tryd.prog) 95 9 i0 (.string ⟨#[]⟩) Tryd.underlying95 hi hz0 .i64 .i64 0 4 (Nat.zero_le _) (by rw [hz2]; omega) (by omega) W
    rw [hz1, Nat.mul_one] at h
    exact h
  refine (callsIn_wide (n := 10)).1 ?_
  refine callsIn_of_wp_marks Tryd.func20 rfl trivial ?_ rfl
  simp only [Tryd.ntmps20, List.size_toArray, List.length_cons, List.length_nil, Nat.reduceAdd, Nat.reduceSub, Array.replicate_succ, Array.replicate_zero, List.push_toArray, List.append_toArray, List.nil_append, List.cons_append]
  gi_wp2_with (refine wpListIn_load_arr a1 _ _ rfl rfl rfl Tryd.underlying28 sizeScn ?_)
  refine ⟨trivial, ?_⟩
  refine (callsIn_wide.2 (Hok.out _)).mono ?_; rintro e w1 ⟨rfl, hb1⟩
  have k1 := k0.trans (hb1.mono k0.size)
  have a2 := a1.below hb1 a1.lt
  gi_wp2
  refine ⟨trivial, ?_⟩
  refine (chunk_in Fence.wide 9 trivial rfl _ _ _ _).mono ?_; rintro e w' ⟨rfl, rfl⟩
  gi_wp2
  have o1 := World.ownsRow_made (e := 9) (size := 1) (base := w.heap.size) w1 (madeCells #[.string ⟨#[]⟩] 4) 4 k1.size (by unfold maxLen; omega) (by rw [size_madeCells, Nat.mul_one])
  have o4 := ((o1.alloc (.cells #[.slice (some ⟨w1.heap.size, 0, none⟩) 0 4] 95)).alloc (.cells #[.slice (some ⟨w.heap.size, 0, none⟩) 24 24] 99)).alloc (.cells #[.int .i64 6] 3)
  have a4 := ((((a2.alloc (.cells (madeCells #[.string ⟨#[]⟩] 4) 9)).alloc (.cells #[.slice (some ⟨w1.heap.size, 0, none⟩) 0 4] 95)).alloc (.cells #[.slice (some ⟨w.heap.size, 0, none⟩) 24 24] 99)).alloc (.cells #[.int .i64 6] 3))
  obtain ⟨hR, hS, hN, hZ, hB4⟩ := rows_new w1 (.cells (madeCells #[.string ⟨#[]⟩] 4) 9) (.slice (some ⟨w1.heap.size, 0, none⟩) 0 4) (.slice (some ⟨w.heap.size, 0, none⟩) 24 24) (.int .i64 6) 95 99 3
  have k4 := k1.trans (hB4.mono k1.size)
  have hws := k1.size
  have hwl := a1.lt
  have hwl1 : w.heap.size < w1.heap.size := a2.lt
  clear hmk
  generalize (((w1.alloc (.cells (madeCells #[.string ⟨#[]⟩] 4) 9)).alloc (.cells #[.slice (some ⟨w1.heap.size, 0, none⟩) 0 4] 95)).alloc (.cells #[.slice (some ⟨w.heap.size, 0, none⟩) 24 24] 99)).alloc (.cells #[.int .i64 6] 3) = W0 at *
  have hI0 : RowsAt w w.heap.size (w1.heap.size + 1) (w1.heap.size + 1 + 1) (w1.heap.size + 1 + 1 + 1) f [] W0 := ⟨⟨_, hR, o4⟩, hS, hN, a4, k4⟩
  refine wpIn_rangeFunc_ownH rfl (by omega) (gf := 104) (lb := #[.pointer (some ⟨w1.heap.size + 1 + 1, 0, none⟩), .pointer (some ⟨w1.heap.size + 1 + 1 + 1, 0, none⟩)]) rfl trivial (enters_of Tryd.func104 (by kernel_rfl) rfl)
    (chunk_stops Fence.wide 9 trivial rfl (by omega) (w1.heap.size + 1 + 1) (w1.heap.size + 1 + 1 + 1) w.heap.size W0 (by omega) (by omega) (boxT hS).1 (boxT hN).1) keeps2_t (keeps2_b (by omega) (by omega)) (Below.refl _ _) (fun _ => rfl)
    (RowsAt w w.heap.size (w1.heap.size + 1) (w1.heap.size + 1 + 1) (w1.heap.size + 1 + 1 + 1) f) (fun _ _ _ => False) (rowsAt_from _ _ _ _ _ _ _ (by omega)) (fun _ _ _ _ _ h _ _ => h) hI0
    (fun x a' _ => a' = { tmps := #[.agg (arrV .i8 24 f), .pointer (some ⟨w.heap.size, 0, none⟩), .string ⟨#[]⟩, .pointer (some ⟨w1.heap.size + 1, 0, none⟩), .slice (some ⟨w.heap.size, 6 * x.1, none⟩) 6 6, .agg (arrV .i8 24 f), .bool true, .bool false, .slice (some ⟨w1.heap.size, 0, none⟩) 0 4, .slice (some ⟨w.heap.size, 0, none⟩) 24 24, .func (.func 104) #[] #[.pointer (some ⟨w1.heap.size + 1 + 1, 0, none⟩), .pointer (some ⟨w1.heap.size + 1 + 1 + 1, 0, none⟩)], .slice (some ⟨w.heap.size, 6 * x.1, none⟩) 6 6, undef, undef, undef, undef, undef, undef, undef], defers := [] })
    (fun x a' s X Y row hs hg hr => hs)
    ?assign ?body ?done ?stop
  case assign =>
    rintro l pre x W K hI hK
    unfold piE
    gi_wp2
    exact hK _ _ ⟨Nat.le_refl _, fun _ _ _ h _ => h⟩ ⟨rfl, rfl⟩ hI rfl
  case stop => rintro D c pre W hD hp h hK; exact h.elim
  case done =>
    rintro D xs W hD rfl hI hK
    obtain ⟨v, hv, hown⟩ := hI.box
    obtain ⟨hc, hf, hRl⟩ := boxT hv
    have hown4 : W.ownsRow w.heap.size 9 1 v 4 ((List.range 4).map fun j => strV (rowW (wdS f) j)) := hown
    obtain ⟨G, cp, rfl, hG, hcp, hcl⟩ := cells_ownT hown4 (by omega)
    have hj := fun V (hV : Below W.heap.size W V) => joinT_any G cp 4 (rowW (wdS f)) 47 V (fun j hj => (hV.cell (p := ⟨G, j, none⟩) hG).trans (hcl j hj)) (by have := hV.size; omega) (by omega) hcp (by rw [Htx.out]; omega)
    rw [Htx.out] at hj
    have Hj := Lib.hid hj; clear hj hown hown4 hcl
    have hBI := hI.below
    gi_wp2
    refine ⟨trivial, ?_⟩
    refine (callsIn_wide.2 (Hj.out _ (Below.refl _ _))).mono ?_; rintro e w2 ⟨rfl, hb2⟩
    have hDl : D < W.heap.size := (Array.getElem?_eq_some_iff.1 hK).1
    have hK2 : w2.heap[D]? = some (.deferred (some [])) := (hb2.block D hDl).trans hK
    gi_wp2
    refine ⟨by simp, .inl ⟨_, _, rfl, run_takeDeferred hK2, ?_⟩⟩
    exact ⟨_, results_tmp rfl _ _ _, rfl, (hBI.trans (hb2.mono hBI.size)).trans (belowK_b (w := w) (Nat.le_refl _) w2 D _ _ (by omega) hK2 rfl rfl)⟩
  case body =>
    rintro l pre x a' W hl - hI rfl hlt2
    obtain ⟨v, hv, hown⟩ := hI.box
    obtain ⟨hc, hf, hRl⟩ := boxT hv
    have hx := x.2
    have hr1 : ∀ V (hV : Below W.heap.size W V), Calls Tryd.prog 61 #[.slice (some ⟨w.heap.size, 6 * x.1, none⟩) 6 6] V fun e w' => e = .returned (strV (rowW (wdS f) x.1)) ∧ Below V.heap.size V w' := fun V hV =>
      rowText_any w.heap.size (6 * x.1) 6 (fun j => f (6 * x.1 + j)) (fun j hj => Hbd.out _ (by omega)) V (fun j hj => (hI.arr.below hV hI.arr.lt).cell (by omega)) (hI.arr.below hV hI.arr.lt).lt
    have Hr1 := Lib.hid hr1; clear hr1
    gi_wp2
    refine wpIn_region_any (by kernel_rfl) ?_
    try (change wpAnyIn _ _ _ _ _ _ _ _ _ (World.drew _))
    refine wpAnyIn_ready (rs := [0, 1]) (by kernel_rfl) (by simp) ?_
    refine AllReadyIn.cons rfl (fun K hK => ?_) ?_
    · skip
      go_simp
      refine hK _ _ ?_
      clear hK K
      refine wpAnyIn_ready (rs := [1]) (by kernel_rfl) (by simp) ?_
      refine AllReadyIn.cons rfl (fun K hK => ?_) ?_
      · skip
        go_simp
        refine hK _ _ ?_
        clear hK K
        refine wpAnyIn_ready (rs := [2]) (by kernel_rfl) (by simp) ?_
        refine AllReadyIn.cons rfl (fun K hK => ?_) ?_
        · skip
          go_simp
          gi_wp2
          refine ⟨trivial, ?_⟩
          refine (CallsIn.inRound l (callsIn_wide.2 (Hr1.out _ (below_drew1 _)))).mono ?_; rintro e V ⟨rfl, hb⟩
          have hbV : Below W.heap.size W V := (below_drew1 W).trans (hb.mono (Nat.le_refl _))
          have hvV : V.heap[w1.heap.size + 1]? = some (.cells #[v] 95 (0, 0)) := (hbV.block _ hRl).trans hv
          obtain ⟨hcV, hfV, hlV⟩ := boxT hvV
          have hownV := (hown.kept (row := none) ⟨hbV.os, hbV.tape, hbV.output, hbV.size, fun i hi _ => hbV.block i hi⟩ (by cases v.ownBlock <;> simp)).alloc (.cells #[strV (rowW (wdS f) x.1)] 9)
          have kV := hbV.alloc hbV.size (.cells #[strV (rowW (wdS f) x.1)] 9)
          obtain ⟨hcA, hfA, hlA⟩ := boxT ((Below.heap_alloc V (.cells #[strV (rowW (wdS f) x.1)] 9) _ hlV).trans hvV)
          clear hb
          gi_wp2
          refine wpAnyIn_ready (rs := [3]) (by kernel_rfl) (by simp) ?_
          refine AllReadyIn.cons rfl (fun K hK => ?_) ?_
          · skip
            go_simp
            refine hK _ _ ?_
            clear hK K
            refine wpAnyIn_ready (rs := [4]) (by kernel_rfl) (by simp) ?_
            refine BigFrame.allReadyIn_want rfl (by kernel_rfl) (fun K hK => ?_) ?_
            · skip
              refine wpIn_append_lies _ _ _ 95 rfl w.heap.size 9 i0 (.string ⟨#[]⟩) 1 16 Tryd.underlying95 hi hz0 hz1 hz2 rfl (by decide) v pre.length (pre.map fun x => strV (rowW (wdS f) x.1)) rfl hownV ⟨V.heap.size, 0, none⟩ 1 1 [strV (rowW (wdS f) x.1)] rfl rfl ?c1 ?c2 (by omega) (by unfold maxLen; omega) (by omega) (by have := hI.below.size; have := kV.size; omega) fun g cap w3 hown3 hg3 => ?_
              case c1 =>
                intro j u hj
                match j, hj with
                | 0, hj => simp at hj; subst hj; simp [Addr.add, go_sem]
              case c2 => intro u hu; simp at hu; subst hu; rfl
              have hv3 : w3.heap[w1.heap.size + 1]? = some (.cells #[v] 95 (0, 0)) := (hg3.block _ hlA (ownsRow_neT hownV ((Below.heap_alloc V _ _ hlV).trans hvV) (fun cur e => absurd (Obj.cells.inj e).2.1 (by decide)))).trans ((Below.heap_alloc V _ _ hlV).trans hvV)
              obtain ⟨hc3, hf3, hl3⟩ := boxT hv3
              refine hK _ _ ?_
              clear hK K
              simp [Act.put]
              refine wpAnyIn_ready (rs := [5]) (by kernel_rfl) (by simp) ?_
              refine AllReadyIn.cons rfl (fun K hK => ?_) ?_
              · skip
                go_simp
                refine hK _ _ ?_
                clear hK K
                refine wpAnyIn_done (by kernel_rfl) ?_ _
                exact rowsAt_next hI (by omega) hv hown ⟨by omega, by omega, by omega⟩ kV hg3 hown3
              exact AllReadyIn.nil
            exact AllReadyIn.nil
          exact AllReadyIn.nil
        exact AllReadyIn.nil
      exact AllReadyIn.nil
    refine AllReadyIn.cons rfl (fun K hK => ?_) ?_
    · skip
      go_simp
      refine hK _ _ ?_
      clear hK K
      refine wpAnyIn_ready (rs := [0, 2]) (by kernel_rfl) (by simp) ?_
      refine AllReadyIn.cons rfl (fun K hK => ?_) ?_
      · skip
        go_simp
        refine hK _ _ ?_
        clear hK K
        refine wpAnyIn_ready (rs := [2]) (by kernel_rfl) (by simp) ?_
        refine AllReadyIn.cons rfl (fun K hK => ?_) ?_
        · skip
          go_simp
          gi_wp2
          refine ⟨trivial, ?_⟩
          refine (CallsIn.inRound l (callsIn_wide.2 (Hr1.out _ (below_drew1 _)))).mono ?_; rintro e V ⟨rfl, hb⟩
          have hbV : Below W.heap.size W V := (below_drew1 W).trans (hb.mono (Nat.le_refl _))
          have hvV : V.heap[w1.heap.size + 1]? = some (.cells #[v] 95 (0, 0)) := (hbV.block _ hRl).trans hv
          obtain ⟨hcV, hfV, hlV⟩ := boxT hvV
          have hownV := (hown.kept (row := none) ⟨hbV.os, hbV.tape, hbV.output, hbV.size, fun i hi _ => hbV.block i hi⟩ (by cases v.ownBlock <;> simp)).alloc (.cells #[strV (rowW (wdS f) x.1)] 9)
          have kV := hbV.alloc hbV.size (.cells #[strV (rowW (wdS f) x.1)] 9)
          obtain ⟨hcA, hfA, hlA⟩ := boxT ((Below.heap_alloc V (.cells #[strV (rowW (wdS f) x.1)] 9) _ hlV).trans hvV)
          clear hb
          gi_wp2
          refine wpAnyIn_ready (rs := [3]) (by kernel_rfl) (by simp) ?_
          refine AllReadyIn.cons rfl (fun K hK => ?_) ?_
          · skip
            go_simp
            refine hK _ _ ?_
            clear hK K
            refine wpAnyIn_ready (rs := [4]) (by kernel_rfl) (by simp) ?_
            refine BigFrame.allReadyIn_want rfl (by kernel_rfl) (fun K hK => ?_) ?_
            · skip
              refine wpIn_append_lies _ _ _ 95 rfl w.heap.size 9 i0 (.string ⟨#[]⟩) 1 16 Tryd.underlying95 hi hz0 hz1 hz2 rfl (by decide) v pre.length (pre.map fun x => strV (rowW (wdS f) x.1)) rfl hownV ⟨V.heap.size, 0, none⟩ 1 1 [strV (rowW (wdS f) x.1)] rfl rfl ?c1 ?c2 (by omega) (by unfold maxLen; omega) (by omega) (by have := hI.below.size; have := kV.size; omega) fun g cap w3 hown3 hg3 => ?_
              case c1 =>
                intro j u hj
                match j, hj with
                | 0, hj => simp at hj; subst hj; simp [Addr.add, go_sem]
              case c2 => intro u hu; simp at hu; subst hu; rfl
              have hv3 : w3.heap[w1.heap.size + 1]? = some (.cells #[v] 95 (0, 0)) := (hg3.block _ hlA (ownsRow_neT hownV ((Below.heap_alloc V _ _ hlV).trans hvV) (fun cur e => absurd (Obj.cells.inj e).2.1 (by decide)))).trans ((Below.heap_alloc V _ _ hlV).trans hvV)
              obtain ⟨hc3, hf3, hl3⟩ := boxT hv3
              refine hK _ _ ?_
              clear hK K
              simp [Act.put]
              refine wpAnyIn_ready (rs := [5]) (by kernel_rfl) (by simp) ?_
              refine AllReadyIn.cons rfl (fun K hK => ?_) ?_
              · skip
                go_simp
                refine hK _ _ ?_
                clear hK K
                refine wpAnyIn_done (by kernel_rfl) ?_ _
                exact rowsAt_next hI (by omega) hv hown ⟨by omega, by omega, by omega⟩ kV hg3 hown3
              exact AllReadyIn.nil
            exact AllReadyIn.nil
          exact AllReadyIn.nil
        exact AllReadyIn.nil
      refine AllReadyIn.cons rfl (fun K hK => ?_) ?_
      · skip
        go_simp
        gi_wp2
        refine ⟨trivial, ?_⟩
        refine (CallsIn.inRound l (callsIn_wide.2 (Hr1.out _ (below_drew1 _)))).mono ?_; rintro e V ⟨rfl, hb⟩
        have hbV : Below W.heap.size W V := (below_drew1 W).trans (hb.mono (Nat.le_refl _))
        have hvV : V.heap[w1.heap.size + 1]? = some (.cells #[v] 95 (0, 0)) := (hbV.block _ hRl).trans hv
        obtain ⟨hcV, hfV, hlV⟩ := boxT hvV
        have hownV := (hown.kept (row := none) ⟨hbV.os, hbV.tape, hbV.output, hbV.size, fun i hi _ => hbV.block i hi⟩ (by cases v.ownBlock <;> simp)).alloc (.cells #[strV (rowW (wdS f) x.1)] 9)
        have kV := hbV.alloc hbV.size (.cells #[strV (rowW (wdS f) x.1)] 9)
        obtain ⟨hcA, hfA, hlA⟩ := boxT ((Below.heap_alloc V (.cells #[strV (rowW (wdS f) x.1)] 9) _ hlV).trans hvV)
        clear hb
        gi_wp2
        refine wpAnyIn_ready (rs := [0, 3]) (by kernel_rfl) (by simp) ?_
        refine AllReadyIn.cons rfl (fun K hK => ?_) ?_
        · skip
          go_simp
          refine hK _ _ ?_
          clear hK K
          refine wpAnyIn_ready (rs := [3]) (by kernel_rfl) (by simp) ?_
          refine AllReadyIn.cons rfl (fun K hK => ?_) ?_
          · skip
            go_simp
            refine hK _ _ ?_
            clear hK K
            refine wpAnyIn_ready (rs := [4]) (by kernel_rfl) (by simp) ?_
            refine BigFrame.allReadyIn_want rfl (by kernel_rfl) (fun K hK => ?_) ?_
            · skip
              refine wpIn_append_lies _ _ _ 95 rfl w.heap.size 9 i0 (.string ⟨#[]⟩) 1 16 Tryd.underlying95 hi hz0 hz1 hz2 rfl (by decide) v pre.length (pre.map fun x => strV (rowW (wdS f) x.1)) rfl hownV ⟨V.heap.size, 0, none⟩ 1 1 [strV (rowW (wdS f) x.1)] rfl rfl ?c1 ?c2 (by omega) (by unfold maxLen; omega) (by omega) (by have := hI.below.size; have := kV.size; omega) fun g cap w3 hown3 hg3 => ?_
              case c1 =>
                intro j u hj
                match j, hj with
                | 0, hj => simp at hj; subst hj; simp [Addr.add, go_sem]
              case c2 => intro u hu; simp at hu; subst hu; rfl
              have hv3 : w3.heap[w1.heap.size + 1]? = some (.cells #[v] 95 (0, 0)) := (hg3.block _ hlA (ownsRow_neT hownV ((Below.heap_alloc V _ _ hlV).trans hvV) (fun cur e => absurd (Obj.cells.inj e).2.1 (by decide)))).trans ((Below.heap_alloc V _ _ hlV).trans hvV)
              obtain ⟨hc3, hf3, hl3⟩ := boxT hv3
              refine hK _ _ ?_
              clear hK K
              simp [Act.put]
              refine wpAnyIn_ready (rs := [5]) (by kernel_rfl) (by simp) ?_
              refine AllReadyIn.cons rfl (fun K hK => ?_) ?_
              · skip
                go_simp
                refine hK _ _ ?_
                clear hK K
                refine wpAnyIn_done (by kernel_rfl) ?_ _
                exact rowsAt_next hI (by omega) hv hown ⟨by omega, by omega, by omega⟩ kV hg3 hown3
              exact AllReadyIn.nil
            exact AllReadyIn.nil
          exact AllReadyIn.nil
        refine AllReadyIn.cons rfl (fun K hK => ?_) ?_
        · skip
          go_simp
          refine hK _ _ ?_
          clear hK K
          refine wpAnyIn_ready (rs := [0]) (by kernel_rfl) (by simp) ?_
          refine AllReadyIn.cons rfl (fun K hK => ?_) ?_
          · skip
            go_simp
            refine hK _ _ ?_
            clear hK K
            refine wpAnyIn_ready (rs := [4]) (by kernel_rfl) (by simp) ?_
            refine BigFrame.allReadyIn_want rfl (by kernel_rfl) (fun K hK => ?_) ?_
            · skip
              refine wpIn_append_lies _ _ _ 95 rfl w.heap.size 9 i0 (.string ⟨#[]⟩) 1 16 Tryd.underlying95 hi hz0 hz1 hz2 rfl (by decide) v pre.length (pre.map fun x => strV (rowW (wdS f) x.1)) rfl hownV ⟨V.heap.size, 0, none⟩ 1 1 [strV (rowW (wdS f) x.1)] rfl rfl ?c1 ?c2 (by omega) (by unfold maxLen; omega) (by omega) (by have := hI.below.size; have := kV.size; omega) fun g cap w3 hown3 hg3 => ?_
              case c1 =>
                intro j u hj
                match j, hj with
                | 0, hj => simp at hj; subst hj; simp [Addr.add, go_sem]
              case c2 => intro u hu; simp at hu; subst hu; rfl
              have hv3 : w3.heap[w1.heap.size + 1]? = some (.cells #[v] 95 (0, 0)) := (hg3.block _ hlA (ownsRow_neT hownV ((Below.heap_alloc V _ _ hlV).trans hvV) (fun cur e => absurd (Obj.cells.inj e).2.1 (by decide)))).trans ((Below.heap_alloc V _ _ hlV).trans hvV)
              obtain ⟨hc3, hf3, hl3⟩ := boxT hv3
              refine hK _ _ ?_
              clear hK K
              simp [Act.put]
              refine wpAnyIn_ready (rs := [5]) (by kernel_rfl) (by simp) ?_
              refine AllReadyIn.cons rfl (fun K hK => ?_) ?_
              · skip
                go_simp
                refine hK _ _ ?_
                clear hK K
                refine wpAnyIn_done (by kernel_rfl) ?_ _
                exact rowsAt_next hI (by omega) hv hown ⟨by omega, by omega, by omega⟩ kV hg3 hown3
              exact AllReadyIn.nil
            exact AllReadyIn.nil
          exact AllReadyIn.nil
        exact AllReadyIn.nil
      exact AllReadyIn.nil
    exact AllReadyIn.nil
end Go.Proofs.YtmphmpddlgcofaaDoor
