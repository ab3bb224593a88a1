/-
  What the reference's source of choices draws: a table that is valid, a setting that is valid. Condition: at most 1048576 bytes.
-/
import Derived.Test.YtakmekidnfeciaaDoorSrc
import Derived.Test.YtakmekidnfeciaaDoorOwnLongS
import Derived.Test.YtakmekidnfeciaaDoorExtra
import Derived.Test.YtakmekidnfeciaaDoorSets
import Derived.Maps.AppendAt
namespace Go.Proofs.YtakmekidnfeciaaDoor
open Go.RowKit

theorem grown_of_only {a w : World} {b : Nat} (h : Only b (b + 1) a w) : a.grownBy w (some b) := ⟨h.os, h.tape, h.output, h.size, fun i hi hne => h.block i hi (by
  have : i ≠ b := fun e => hne (by rw [e])
  omega)⟩
theorem own_only {w w' : World} {base size n b : Nat} {e : TypeId} {v : Value} {xs : List Value} (h : w.ownsRow base e size v n xs) (ho : Only b (b + 1) w w') (hb : b < base) : w'.ownsRow base e size v n xs :=
  h.kept (row := some b) (grown_of_only ho) (by
    rcases hv : v.ownBlock with _ | j
    · simp
    · have := (h.lt j hv).1
      simp; omega)
theorem tabOk_congr {fs es fs' es' : Nat → Int} : ∀ k : Nat, (∀ i, i < k → fs i = fs' i ∧ es i = es' i) → tabOk fs es k = tabOk fs' es' k
  | 0, _ => rfl
  | k + 1, h => by
    have h1 := tabOk_congr k (fun i hi => h i (by omega))
    have h2 : prevF fs k = prevF fs' k := by
      cases k with
      | zero => rfl
      | succ m => exact (h m (by omega)).1
    have h3 : prevE es k = prevE es' k := by
      cases k with
      | zero => rfl
      | succ m => exact (h m (by omega)).2
    simp only [tabOk, stepOk, h1, h2, h3, (h k (by omega)).1, (h k (by omega)).2]
theorem list_congr {fs es fs' es' : Nat → Int} : ∀ k : Nat, (∀ i, i < k → fs i = fs' i ∧ es i = es' i) → listLongS fs es k = listLongS fs' es' k
  | 0, _ => rfl
  | k + 1, h => by
    simp only [listLongS, list_congr k (fun i hi => h i (by omega)), (h k (by omega)).1, (h k (by omega)).2]
def putAt (f : Nat → Int) (k : Nat) (x : Int) : Nat → Int := fun i => if i = k then x else f i
theorem putAt_same (f : Nat → Int) (k : Nat) (x : Int) : putAt f k x k = x := by simp [putAt]
theorem putAt_lt (f : Nat → Int) {i k : Nat} (x : Int) (h : i < k) : putAt f k x i = f i := by
  have : ¬ i = k := by omega
  simp [putAt, this]
/-- One entry more. -/
theorem tab_more {fs es : Nat → Int} {k : Nat} {f e : Int} (h : tabOk fs es k = true) (h1 : prevF fs k < f) (h2 : f ≤ 45) (h3 : prevE es k ≤ e) (h4 : e ≤ 30) :
    tabOk (putAt fs k f) (putAt es k e) (k + 1) = true ∧ listLongS (putAt fs k f) (putAt es k e) (k + 1) = listLongS fs es k ++ [.int .i8 f, .int .i8 e] := by
  have hc : ∀ i, i < k → fs i = putAt fs k f i ∧ es i = putAt es k e i := fun i hi => ⟨(putAt_lt fs f hi).symm, (putAt_lt es e hi).symm⟩
  have p1 : prevF (putAt fs k f) k = prevF fs k := by
    cases k with
    | zero => rfl
    | succ m => exact putAt_lt fs f (by omega)
  have p2 : prevE (putAt es k e) k = prevE es k := by
    cases k with
    | zero => rfl
    | succ m => exact putAt_lt es e (by omega)
  constructor
  · simp only [tabOk, ← tabOk_congr k hc, h, stepOk, p1, p2, putAt_same, Bool.true_and, Bool.and_eq_true]
    exact ⟨inB_true.2 ⟨by omega, h2⟩, inB_true.2 ⟨h3, h4⟩⟩
  · simp only [listLongS, ← list_congr k hc, putAt_same]
theorem own_long {w : World} {L n : Nat} {v : Value} {fs es : Nat → Int} (h : w.ownsRow L 68 2 v n (listLongS fs es n)) (hv : v ≠ .slice none 0 0) :
    ∃ g cap, v = .slice (some ⟨g, 0, none⟩) n cap ∧ L ≤ g ∧ LongRow w g n fs es := by
  obtain ⟨hl, h⟩ := h
  rcases h with ⟨rfl, _⟩ | ⟨b, cap, cur, rfl, hb, hh, hn, hm, hs, ht⟩
  · exact absurd rfl hv
  · have hr : w.rowIs b 68 (cap * 2) (fun j => cur[j]?.getD undef) := ⟨cur, hh, hs, fun i hi => by simp [hs, hi]⟩
    refine ⟨b, cap, rfl, hb, cap * 2, _, Nat.mul_le_mul_right _ hn, hr, fun j hj => ?_⟩
    have hg := listLongS_get fs es n j hj
    rw [← ht, List.getElem?_take, if_pos hj] at hg
    rw [show cur[j]?.getD undef = cur.toList[j]?.getD undef by simp, hg]
    unfold cellLongS longF
    rfl

/-- A table that is drawn: it is valid, and lies in memory of the call's own. -/
def TableOut (w : World) (e : Ending) (w' : World) : Prop :=
  ∃ g n cap fs es, e = .returned (.slice (some ⟨g, 0, none⟩) n cap) ∧ n ≤ 4 ∧ validT n fs es = true ∧ LongRow w' g n fs es ∧ w.heap.size ≤ g ∧ Below w.heap.size w w'

set_option maxRecDepth 100000 in
set_option maxHeartbeats 2000000 in
theorem P6Table_any (A : Option Addr) (n cap : Nat) (bs : Nat → Int) (hn : n ≤ 1048576) (hbs : ∀ j, j < n → 0 ≤ bs j ∧ bs j ≤ 255) (w : World) (hB : BytesIn w A n bs) :
    Calls Tryd.prog 40 #[.slice A n cap] w (TableOut w) := by
  obtain ⟨i0, hi, hz0, hz1, hz2⟩ := info_parts infoLongS
  have k0 : Below w.heap.size w (w.alloc (.cells #[.slice A n cap, .int .i64 0, .int .u64 0] 115)) := (Below.refl _ _).alloc (Nat.le_refl _) _
  have hs0 := srcAt_new w A n cap
  have hpk := fun (W : World) (m : Int) (p : Nat) (h0 : 0 ≤ m) (h1 : m ≤ 1000) (hp : p ≤ 1000) (hS : SrcAt W w.heap.size A n cap p) (hb : Below w.heap.size w W) =>
    srcPick_any w.heap.size n cap p A bs m h0 (by omega) hn (by omega) hbs W hS (hB.below hb (Nat.le_refl _)) hB.lt
  have Hpk := Lib.hid hpk; clear hpk hbs
  go_enter Tryd.func40, Tryd.ntmps40
  go_wp2_with fail
  refine (l00From_any _ _ _ _).mono ?_; rintro e w1 ⟨rfl, rfl⟩
  have k1 := k0.alloc (show w.heap.size ≤ _ by simp) (.cells #[] 68)
  have s1 := hs0.below ((Below.refl _ (w.alloc (.cells #[.slice A n cap, .int .i64 0, .int .u64 0] 115))).alloc (Nat.le_refl _) (.cells #[] 68)) (by simp)
  have o1 := World.ownsRow_lit (base := w.heap.size + 1) (e := 68) (size := 2) (w.alloc (.cells #[.slice A n cap, .int .i64 0, .int .u64 0] 115)) #[] 0 (by simp) (Nat.zero_le _) rfl
  rw [World.size_alloc] at o1
  go_wp2_with fail
  refine (Hpk.out _ 30 0 (by omega) (by omega) (by omega) s1 k1).mono ?_; rintro e w2 ⟨f0, q1, rfl, hf0, _, hq1, s2, ho2⟩
  have k2 := k1.trans (ho2.below (by have := k1.size; omega))
  have o2 := own_only o1 ho2 (by omega)
  have hf0 := hf0.lt (by omega)
  clear ho2 o1 s1 k1
  go_wp2_with fail
  refine (Hpk.out _ 5 q1 (by omega) (by omega) (by omega) s2 k2).mono ?_; rintro e w3 ⟨K, q2, rfl, hK, _, hq2, s3, ho3⟩
  have k3 := k2.trans (ho3.below (by have := k2.size; omega))
  have o3 := own_only o2 ho3 (by omega)
  have hK := hK.lt (by omega)
  clear ho3 o2 s2 k2
  go_wp2_with fail
  go_loopw [4, 5, 6, 7] (fun v f e kk wr => ∃ (j : Nat) (fs es : Nat → Int) (F E : Int) (q : Nat), (j : Int) ≤ K ∧ kk = .int .i64 (K - j) ∧ f = .int .i64 F ∧ e = .int .i64 E ∧ tabOk fs es j = true ∧ prevF fs j < F ∧ 0 ≤ F ∧ F ≤ 60 ∧ prevE es j = E ∧ 0 ≤ E ∧ E ≤ 5 * j ∧ q ≤ 10 + 5 * j ∧ v ≠ .slice none 0 0 ∧ wr.ownsRow (w.heap.size + 1) 68 2 v j (listLongS fs es j) ∧ SrcAt wr w.heap.size A n cap q ∧ Below w.heap.size w wr ∧ w.heap.size < wr.heap.size) (fun _ _ _ kk _ => (intOf kk).toNat)
  case atStart => exact ⟨0, fun _ => 0, fun _ => 0, f0, 0, q2, by omega, by simp, rfl, rfl, rfl, by show -1 < f0; omega, hf0.1, by omega, rfl, by omega, by omega, by omega, by simp, o3, s3, k3, by obtain ⟨_, _, _, _, _, h⟩ := s3.cells; exact h⟩
  case round =>
    obtain ⟨j, fs, es, F, E, q, hjK, rfl, rfl, rfl, htab, hpf, hF0, hF1, hpe, hE0, hE1, hq, hv, hown, hS, hBw, hlt⟩ := hrel
    by_cases hc1 : (0 : Int) < K - j
    · by_cases hc2 : F ≤ 45
      · have Htab := Lib.hid htab; clear htab
        have Hpe := Lib.hid hpe; clear hpe
        have Hpf := Lib.hid hpf; clear hpf
        have Hv := Lib.hid hv; clear hv
        go_wp2_with fail
        refine (Hpk.out _ 5 q (by omega) (by omega) (by omega) hS hBw).mono ?_; rintro e v2 ⟨r, q3, rfl, hr, hqa, hqb, hS2, ho2⟩
        have hr := hr.lt (by omega)
        have hB2 := hBw.trans (ho2.below (by omega))
        have hlt2 : w.heap.size < v2.heap.size := by have := ho2.size; omega
        have hown2 := own_only hown ho2 (by omega)
        have i1 : IntKind.i8.wrap F = F := IntWalk.i8_in _ (by omega)
        have i2 : IntKind.i8.wrap (E + r) = E + r := IntWalk.i8_in _ (by omega)
        clear hown hBw hS ho2
        go_wp2_with (at_builtin; refine wpList_append_own _ rfl _ _ 27 rfl (w.heap.size + 1) 68 i0 (.agg #[.int .i8 0, .int .i8 0]) 2 2 Tryd.underlying27 hi hz0 hz1 hz2 rfl (by decide) _ _ _ rfl (hown2.alloc _) ⟨v2.heap.size, 0, none⟩ 1 1 [.int .i8 F, .int .i8 (E + r)] rfl rfl ?c1 ?c2 ?c3 ?c4 ?c5 ?_)
        case c1 =>
          intro j u hj
          match j, hj with
          | 0, hj => simp at hj; subst hj; simp [Addr.add, go_sem]
          | 1, hj => simp at hj; subst hj; simp [Addr.add, go_sem]
          | j + 2, hj => simp at hj
        case c2 => intro u hu; simp at hu; rcases hu with rfl | rfl <;> rfl
        case c3 => unfold maxLen; omega
        case c4 => omega
        case c5 => simp; omega
        intro v' v3 hown3 hg3 hnil
        have hkeep : Below (w.heap.size + 1) v2 v3 := (((Below.refl (w.heap.size + 1) v2).alloc (by omega) _).grown hg3 (by simp; omega) (fun x hx => (hown2.lt x hx).1))
        have hB3 := hB2.trans (hkeep.mono (by omega))
        have hS3 := hS2.below hkeep (by omega)
        have hlt3 : w.heap.size < v3.heap.size := by have := hkeep.size; omega
        have hv' : v' ≠ .slice none 0 0 := hnil
        obtain ⟨m1, m2⟩ := tab_more (f := F) (e := E + r) Htab.out Hpf.out hc2 (by rw [Hpe.out]; omega) (by omega)
        rw [← m2] at hown3
        have Hm1 := Lib.hid m1
        have Hv' := Lib.hid hv'
        clear m1 m2 hown2 hg3 hnil hB2 hS2 hkeep hv'
        go_wp2_with fail
        refine (Hpk.out _ 8 q3 (by omega) (by omega) (by omega) hS3 hB3).mono ?_; rintro e v4 ⟨r2, q4, rfl, hr2, hqc, hqd, hS4, ho4⟩
        have hr2 := hr2.lt (by omega)
        have hB4 := hB3.trans (ho4.below (by omega))
        have hlt4 : w.heap.size < v4.heap.size := by have := ho4.size; omega
        have hown4 := own_only hown3 ho4 (by omega)
        clear hown3 hB3 hS3 ho4
        go_wp2_with fail
        go_roundw
        case rel => exact ⟨j + 1, putAt fs j F, putAt es j (E + r), F + (1 + r2), E + r, q4, by omega, congrArg (Value.int .i64) (by omega), rfl, rfl, Hm1.out, by show putAt fs j F j < _; rw [putAt_same]; omega, by omega, by omega, by show putAt es j (E + r) j = _; rw [putAt_same], by omega, by omega, by omega, Hv'.out, hown4, hS4, hB4, hlt4⟩
        case measure => simp [intOf]; omega
      · have Htab := Lib.hid htab; clear htab
        have Hpe := Lib.hid hpe; clear hpe
        go_wp2_with fail
        go_ret
        obtain ⟨g, cap', rfl, hg, hrow⟩ := own_long hown hv
        exact ⟨g, j, cap', fs, es, rfl, by omega, by simp [validT, Htab.out]; omega, hrow, by omega, hBw⟩
    · have Htab := Lib.hid htab; clear htab
      have Hpe := Lib.hid hpe; clear hpe
      go_wp2_with fail
      go_ret
      obtain ⟨g, cap', rfl, hg, hrow⟩ := own_long hown hv
      exact ⟨g, j, cap', fs, es, rfl, by omega, by simp [validT, Htab.out]; omega, hrow, by omega, hBw⟩

theorem only_cell {w w' : World} {b c o : Nat} {v : Value} (ho : Only b (b + 1) w w') (h : w.cell? ⟨c, o, none⟩ = some v) (hne : c ≠ b) : w'.cell? ⟨c, o, none⟩ = some v := by
  have hlt : c < w.heap.size := World.block_lt_of_cell? w _ h
  rw [World.cell?_of_block (a := ⟨c, o, none⟩) (ho.block c hlt (by omega))]; exact h
theorem only_frozen {w w' : World} {b c o : Nat} (ho : Only b (b + 1) w w') (hlt : c < w.heap.size) (h : w.frozen? ⟨c, o, none⟩ = false) (hne : c ≠ b) : w'.frozen? ⟨c, o, none⟩ = false := by
  have hb := ho.block c hlt (by omega)
  simp only [World.frozen?] at h ⊢
  rw [hb]; exact h

/-- A setting that is drawn: it is valid. -/
def DrawnOut (b : Nat) (w : World) (e : Ending) (w' : World) : Prop := ∃ x y z, e = .returned (setV x y z) ∧ okS x y z = true ∧ Below b w w'

set_option maxRecDepth 100000 in
set_option maxHeartbeats 2000000 in
theorem l01Drawn_any (b n cap : Nat) (A : Option Addr) (bs : Nat → Int) (hn : n ≤ 1048576) (hbs : ∀ j, j < n → 0 ≤ bs j ∧ bs j ≤ 255) (w : World) (hs : SrcAt w b A n cap 0) (hB : BytesIn w A n bs) (hA : 0 < n → ∀ a, A = some a → a.block < b) :
    Calls Tryd.prog 85 #[.pointer (some ⟨b, 0, none⟩)] w (DrawnOut b w) := by
  have hblt : b < w.heap.size := by obtain ⟨_, _, _, _, _, h⟩ := hs.cells; exact h
  have k0 : Below w.heap.size w (w.alloc (.cells #[.int .i8 0, .int .i8 0, .int .i8 0] 46)) := (Below.refl _ _).alloc (Nat.le_refl _) _
  have hpk := fun (W : World) (m : Int) (p : Nat) (h0 : 0 ≤ m) (h1 : m ≤ 1000) (hp : p ≤ 1000) (hS : SrcAt W b A n cap p) (hb : Below b w W) =>
    srcPick_any b n cap p A bs m h0 (by omega) hn (by omega) hbs W hS (by
      rcases Nat.eq_zero_or_pos n with h | h
      · exact .inl h
      · rcases hB with h' | ⟨b', o, e, hlt, hc⟩
        · exact .inl h'
        · have hb1 : b' < b := hA h _ e
          exact .inr ⟨b', o, e, by have := hb.size; omega, fun j hj => by rw [hb.cell (p := ⟨b', o + j, none⟩) hb1]; exact hc j hj⟩) hA
  have Hpk := Lib.hid hpk; clear hpk hbs hB hA
  have b0 : Below b w (w.alloc (.cells #[.int .i8 0, .int .i8 0, .int .i8 0] 46)) := k0.mono (by omega)
  have s0 := hs.below k0 hblt
  go_enter Tryd.func85, Tryd.ntmps85
  go_wp2_with fail
  refine (Hpk.out _ 46 0 (by omega) (by omega) (by omega) s0 b0).mono ?_; rintro e w1 ⟨x, q1, rfl, hx, _, hq1, s1, ho1⟩
  have hx := hx.lt (by omega)
  have z1 : w.heap.size < w1.heap.size := by have := ho1.size; simp at this; omega
  have b1 := b0.trans (ho1.below (by simp; omega))
  have c10 := only_cell (c := w.heap.size) (o := 0) (v := .int .i8 0) ho1 (by simp) (by omega)
  have c11 := only_cell (c := w.heap.size) (o := 1) (v := .int .i8 0) ho1 (by simp) (by omega)
  have c12 := only_cell (c := w.heap.size) (o := 2) (v := .int .i8 0) ho1 (by simp) (by omega)
  have f10 := only_frozen (c := w.heap.size) (o := 0) ho1 (by simp) (by simp) (by omega)
  have f11 := only_frozen (c := w.heap.size) (o := 1) ho1 (by simp) (by simp) (by omega)
  have f12 := only_frozen (c := w.heap.size) (o := 2) ho1 (by simp) (by simp) (by omega)
  clear ho1 s0 b0
  go_wp2_with fail
  refine (Hpk.out _ 31 q1 (by omega) (by omega) (by omega) s1 b1).mono ?_; rintro e w2 ⟨y, q2, rfl, hy, _, hq2, s2, ho2⟩
  have hy := hy.lt (by omega)
  have z2 : w.heap.size < w2.heap.size := by have := ho2.size; omega
  have b2 := b1.trans (ho2.below (by omega))
  have c20 := only_cell ho2 c10 (by omega)
  have c21 := only_cell ho2 c11 (by omega)
  have c22 := only_cell ho2 c12 (by omega)
  have f20 := only_frozen ho2 z1 f10 (by omega)
  have f21 := only_frozen ho2 z1 f11 (by omega)
  have f22 := only_frozen ho2 z1 f12 (by omega)
  have i1 : IntKind.i8.wrap x = x := IntWalk.i8_in _ (by omega)
  have i2 : IntKind.i8.wrap y = y := IntWalk.i8_in _ (by omega)
  clear ho2 s1 b1 c10 c11 c12 f10 f11 f12
  go_wp2_with fail
  have kk : Below w2.heap.size w2 (w2.alloc (.cells #[.int .i8 x, .int .i8 y, .int .i8 0] 46)) := (Below.refl _ _).alloc (Nat.le_refl _) _
  have s3 := s2.below kk (by omega)
  have b3 := b2.trans (kk.mono (by omega))
  have c30 := below_cellOf kk c20 (Nat.le_refl _)
  have c31 := below_cellOf kk c21 (Nat.le_refl _)
  have c32 := below_cellOf kk c22 (Nat.le_refl _)
  have f30 := (kk.frozen (p := ⟨w.heap.size, 0, none⟩) z2).trans f20
  have f31 := (kk.frozen (p := ⟨w.heap.size, 1, none⟩) z2).trans f21
  have f32 := (kk.frozen (p := ⟨w.heap.size, 2, none⟩) z2).trans f22
  refine (Hpk.out _ 22 q2 (by omega) (by omega) (by omega) s3 b3).mono ?_; rintro e w4 ⟨z, q3, rfl, hz, _, hq3, s4, ho4⟩
  have hz := hz.lt (by omega)
  have z4 : w2.heap.size < w4.heap.size := by have := ho4.size; simp at this; omega
  have b4 := b3.trans (ho4.below (by simp; omega))
  have c40 := only_cell ho4 c30 (by omega)
  have c41 := only_cell ho4 c31 (by omega)
  have c42 := only_cell ho4 c32 (by omega)
  have f40 := only_frozen ho4 (by simp; omega) f30 (by omega)
  have f41 := only_frozen ho4 (by simp; omega) f31 (by omega)
  have f42 := only_frozen ho4 (by simp; omega) f32 (by omega)
  have d40 := only_cell (c := w2.heap.size) (o := 0) (v := .int .i8 x) ho4 (by simp) (by omega)
  have d41 := only_cell (c := w2.heap.size) (o := 1) (v := .int .i8 y) ho4 (by simp) (by omega)
  have d42 := only_cell (c := w2.heap.size) (o := 2) (v := .int .i8 0) ho4 (by simp) (by omega)
  have g40 := only_frozen (c := w2.heap.size) (o := 0) ho4 (by simp) (by simp) (by omega)
  have g41 := only_frozen (c := w2.heap.size) (o := 1) ho4 (by simp) (by simp) (by omega)
  have g42 := only_frozen (c := w2.heap.size) (o := 2) ho4 (by simp) (by simp) (by omega)
  have i3 : IntKind.i8.wrap z = z := IntWalk.i8_in _ (by omega)
  have ne1 : w2.heap.size ≠ w.heap.size := by omega
  have ne2 : w.heap.size ≠ w2.heap.size := by omega
  clear ho4 s3 s4 b3 c20 c21 c22 f20 f21 f22 c30 c31 c32 f30 f31 f32 kk
  go_wp2_with fail
  refine bodyPost_ret (v := setV x y z) (by simp [results, Tryd.results85, go_sem, c40, c41, c42]) rfl ⟨x, y, z, rfl, okS_true.2 ⟨⟨by omega, by omega⟩, ⟨by omega, by omega⟩, by omega, by omega⟩, ?_⟩
  exact (((b4.setCell (p := ⟨w2.heap.size, 2, none⟩) (show b ≤ w2.heap.size by omega) _).setCell (p := ⟨w.heap.size, 0, none⟩) (show b ≤ w.heap.size by omega) _).setCell (p := ⟨w.heap.size, 1, none⟩) (show b ≤ w.heap.size by omega) _).setCell (p := ⟨w.heap.size, 2, none⟩) (show b ≤ w.heap.size by omega) _

/-- A setting that is drawn: it is valid. -/
def DrawnB (w : World) (e : Ending) (w' : World) : Prop := ∃ x y z, e = .returned (setV x y z) ∧ okS x y z = true ∧ Below w.heap.size w w'

set_option maxRecDepth 100000 in
set_option maxHeartbeats 1000000 in
theorem P6Setting_any (A : Option Addr) (n cap : Nat) (bs : Nat → Int) (hn : n ≤ 1048576) (hbs : ∀ j, j < n → 0 ≤ bs j ∧ bs j ≤ 255) (w : World) (hB : BytesIn w A n bs) :
    Calls Tryd.prog 41 #[.slice A n cap] w (DrawnB w) := by
  have k0 : Below w.heap.size w (w.alloc (.cells #[.int .i8 0, .int .i8 0, .int .i8 0] 46)) := (Below.refl _ _).alloc (Nat.le_refl _) _
  have k1 := k0.alloc (show w.heap.size ≤ _ by simp) (.cells #[.slice A n cap, .int .i64 0, .int .u64 0] 115)
  have hs := srcAt_new (w.alloc (.cells #[.int .i8 0, .int .i8 0, .int .i8 0] 46)) A n cap
  rw [World.size_alloc] at hs
  have hd := l01Drawn_any (w.heap.size + 1) n cap A bs hn hbs _ hs (hB.below k1 (Nat.le_refl _)) (fun h a e => by have := hB.lt h a e; omega)
  have Hd := Lib.hid hd; clear hd hs hbs hB
  go_enter Tryd.func41, Tryd.ntmps41
  go_wp2_with fail
  refine (l00From_any _ _ _ _).mono ?_; rintro e w1 ⟨rfl, rfl⟩
  go_wp2_with fail
  refine Hd.out.mono ?_; rintro e w2 ⟨x, y, z, rfl, hok, hb2⟩
  have k2 := k1.trans (hb2.mono (by omega))
  have z2 : w.heap.size < w2.heap.size := by have := hb2.size; simp at this; omega
  have c0 : w2.cell? ⟨w.heap.size, 0, none⟩ = some (.int .i8 0) := by rw [hb2.cell (p := ⟨w.heap.size, 0, none⟩) (by show w.heap.size < _; omega)]; simp
  have c1 : w2.cell? ⟨w.heap.size, 1, none⟩ = some (.int .i8 0) := by rw [hb2.cell (p := ⟨w.heap.size, 1, none⟩) (by show w.heap.size < _; omega)]; simp
  have c2 : w2.cell? ⟨w.heap.size, 2, none⟩ = some (.int .i8 0) := by rw [hb2.cell (p := ⟨w.heap.size, 2, none⟩) (by show w.heap.size < _; omega)]; simp
  have f0 : w2.frozen? ⟨w.heap.size, 0, none⟩ = false := by rw [hb2.frozen (p := ⟨w.heap.size, 0, none⟩) (by show w.heap.size < _; omega)]; simp
  have f1 : w2.frozen? ⟨w.heap.size, 1, none⟩ = false := by rw [hb2.frozen (p := ⟨w.heap.size, 1, none⟩) (by show w.heap.size < _; omega)]; simp
  have f2 : w2.frozen? ⟨w.heap.size, 2, none⟩ = false := by rw [hb2.frozen (p := ⟨w.heap.size, 2, none⟩) (by show w.heap.size < _; omega)]; simp
  clear hb2
  go_wp2_with fail
  refine bodyPost_ret (v := setV x y z) (by simp [results, Tryd.results41, go_sem, c0, c1, c2]) rfl ⟨x, y, z, rfl, hok, ?_⟩
  exact ((k2.setCell (p := ⟨w.heap.size, 0, none⟩) (Nat.le_refl _) _).setCell (p := ⟨w.heap.size, 1, none⟩) (Nat.le_refl _) _).setCell (p := ⟨w.heap.size, 2, none⟩) (Nat.le_refl _) _
end Go.Proofs.YtakmekidnfeciaaDoor
