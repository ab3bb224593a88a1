/-
  Fewer steps that light the same: plain recursion; what the reference returns. Condition: at most 1048576 steps.
-/
import Derived.Test.YtnnefgaemnkafaaDoorMirrorL
namespace Go.Proofs.YtnnefgaemnkafaaDoor
open Go.RowKit

/-- Entry k changed. -/
def putI (f : Nat → Int) (k : Nat) (x : Int) (j : Nat) : Int := if j = k then x else f j
/-- Can a step join the i-th? -/
def jnB (F0 F1 : Nat → Int) (m t : Int) (i : Nat) : Bool := (F1 i == t) && (bits BinOp.and IntKind.u64 (F0 i) m == 0)
/-- The first of the first q that p holds of, else q. -/
def fstJ (p : Nat → Bool) : Nat → Nat
  | 0 => 0
  | q + 1 => if fstJ p q < q then fstJ p q else if p q = true then q else q + 1
theorem fstJ_no {p : Nat → Bool} : ∀ {q : Nat}, (∀ i, i < q → p i = false) → fstJ p q = q
  | 0, _ => rfl
  | q + 1, h => by
    have h1 := fstJ_no (q := q) fun i hi => h i (by omega)
    have h2 := h q (by omega)
    simp [fstJ, h1, h2]
theorem fstJ_at {p : Nat → Bool} {k : Nat} (hp : p k = true) (h : ∀ i, i < k → p i = false) : ∀ {q : Nat}, k < q → fstJ p q = k
  | 0, hk => by omega
  | q + 1, hk => by
    by_cases h1 : k < q
    · have h2 := fstJ_at hp h h1
      simp [fstJ, h2, h1]
    · obtain rfl : k = q := by omega
      have h2 := fstJ_no h
      simp [fstJ, h2, hp]
/-- One step more. -/
def jnS (s : Nat × (Nat → Int) × (Nat → Int)) (m t : Int) : Nat × (Nat → Int) × (Nat → Int) :=
  if m = 0 then s else if fstJ (jnB s.2.1 s.2.2 m t) s.1 < s.1 then (s.1, putI s.2.1 (fstJ (jnB s.2.1 s.2.2 m t) s.1) (bits BinOp.or IntKind.u64 (s.2.1 (fstJ (jnB s.2.1 s.2.2 m t) s.1)) m), s.2.2) else (s.1 + 1, putI s.2.1 s.1 m, putI s.2.2 s.1 t)
theorem jnS_z (s : Nat × (Nat → Int) × (Nat → Int)) (t : Int) : jnS s 0 t = s := by simp [jnS]
theorem jnS_at {Q : Nat} {F0 F1 : Nat → Int} {m t : Int} (hm : m ≠ 0) {j : Nat} (hj : j < Q) (hp : jnB F0 F1 m t j = true) (h : ∀ i, i < j → jnB F0 F1 m t i = false) : jnS (Q, F0, F1) m t = (Q, putI F0 j (bits BinOp.or IntKind.u64 (F0 j) m), F1) := by
  have e := fstJ_at hp h hj
  simp [jnS, hm, e, hj]
theorem jnS_no {Q : Nat} {F0 F1 : Nat → Int} {m t : Int} (hm : m ≠ 0) (h : ∀ i, i < Q → jnB F0 F1 m t i = false) : jnS (Q, F0, F1) m t = (Q + 1, putI F0 Q m, putI F1 Q t) := by
  have e := fstJ_no h
  simp [jnS, hm, e]
/-- The first k steps, made fewer. -/
def shS (fs es : Nat → Int) : Nat → Nat × (Nat → Int) × (Nat → Int)
  | 0 => (0, fun _ => 0, fun _ => 0)
  | k + 1 => jnS (shS fs es k) (fs k) (es k)
theorem jnS_le (s : Nat × (Nat → Int) × (Nat → Int)) (m t : Int) : (jnS s m t).1 ≤ s.1 + 1 := by
  unfold jnS
  split
  · omega
  · split
    · show s.1 ≤ s.1 + 1; omega
    · show s.1 + 1 ≤ s.1 + 1; omega
theorem shS_le (fs es : Nat → Int) : ∀ k, (shS fs es k).1 ≤ k
  | 0 => Nat.le_refl _
  | k + 1 => by
    have h1 := shS_le fs es k
    have h2 := jnS_le (shS fs es k) (fs k) (es k)
    show (jnS (shS fs es k) (fs k) (es k)).1 ≤ k + 1
    omega
theorem jnB_no1 {F0 F1 : Nat → Int} {m t : Int} {i : Nat} (h : (F1 i == t) = false) : jnB F0 F1 m t i = false := by simp only [jnB, h, Bool.false_and]
theorem jnB_no2 {F0 F1 : Nat → Int} {m t : Int} {i : Nat} (h : (bits BinOp.and IntKind.u64 (F0 i) m == 0) = false) : jnB F0 F1 m t i = false := by simp only [jnB, h, Bool.and_false]
theorem jnB_yes {F0 F1 : Nat → Int} {m t : Int} {i : Nat} (h1 : (F1 i == t) = true) (h : (bits BinOp.and IntKind.u64 (F0 i) m == 0) = true) : jnB F0 F1 m t i = true := by simp only [jnB, h, h1, Bool.and_self]

theorem listSt_get? (F0 F1 : Nat → Int) {k j : Nat} (h : j < k * 2) : (listSt F0 F1 k)[j]? = some (cellStepS F0 F1 j) := by
  have h1 : j < (listSt F0 F1 k).length := by rw [listSt_len]; exact h
  have h2 := listSt_get F0 F1 k j h
  rw [List.getElem?_eq_getElem h1] at h2 ⊢
  exact congrArg some h2
/-- A list of ours, in a row. -/
structure RowS (w : World) (L g cap n : Nat) (F0 F1 : Nat → Int) : Prop where
  base : L ≤ g
  room : n ≤ cap
  most : cap ≤ maxLen
  row : ∃ hh, w.rowIs g 60 (cap * 2) hh ∧ ∀ j, j < n * 2 → hh j = cellStepS F0 F1 j
theorem RowS.own {w : World} {L g cap n : Nat} {F0 F1 : Nat → Int} (h : RowS w L g cap n F0 F1) : w.ownsRow L 60 2 (.slice (some ⟨g, 0, none⟩) n cap) n (listSt F0 F1 n) := by
  obtain ⟨hh, ⟨cur, hb, hs, hi⟩, he⟩ := h.row
  refine ⟨listSt_len F0 F1 n, .inr ⟨g, cap, cur, rfl, h.base, hb, h.room, h.most, hs, ?_⟩⟩
  have hrm := h.room
  refine List.ext_getElem? fun j => ?_
  by_cases hj : j < n * 2
  · rw [List.getElem?_take, if_pos hj, listSt_get? F0 F1 hj, ← he j hj]
    simpa using hi j (by omega)
  · rw [List.getElem?_take, if_neg hj, List.getElem?_eq_none (by rw [listSt_len]; omega)]
theorem RowS.of {w : World} {L g cap n : Nat} {F0 F1 : Nat → Int} (h : w.ownsRow L 60 2 (.slice (some ⟨g, 0, none⟩) n cap) n (listSt F0 F1 n)) : RowS w L g cap n F0 F1 := by
  obtain ⟨hl, h⟩ := h
  rcases h with ⟨h0, _⟩ | ⟨b, cap', cur, e, hb, hh, hn', hm, hs, ht⟩
  · cases h0
  · injection e with e1 e2 e3
    injection e1 with e1
    injection e1 with e1
    subst e1; subst e3
    refine ⟨hb, hn', hm, fun j => cur[j]?.getD undef, ⟨cur, hh, hs, fun i hi => by simp [hs, hi]⟩, fun j hj => ?_⟩
    have hg := listSt_get F0 F1 n j hj
    rw [← ht, List.getElem?_take, if_pos hj] at hg
    rw [← hg]
    simp
theorem RowS.cell0 {w : World} {L g cap n : Nat} {F0 F1 : Nat → Int} (h : RowS w L g cap n F0 F1) {k : Nat} (hk : k < n) : w.cell? ⟨g, k * 2, none⟩ = some (.int .u64 (F0 k)) := by
  obtain ⟨hh, hr, he⟩ := h.row
  have := h.room
  rw [hr.cell (by omega), he _ (by omega), cellStepS_0]
theorem RowS.cell1 {w : World} {L g cap n : Nat} {F0 F1 : Nat → Int} (h : RowS w L g cap n F0 F1) {k : Nat} (hk : k < n) : w.cell? ⟨g, k * 2 + 1, none⟩ = some (.int .i8 (F1 k)) := by
  obtain ⟨hh, hr, he⟩ := h.row
  have := h.room
  rw [hr.cell (by omega), he _ (by omega), cellStepS_1]
theorem RowS.frozen {w : World} {L g cap n : Nat} {F0 F1 : Nat → Int} (h : RowS w L g cap n F0 F1) (k : Nat) : w.frozen? ⟨g, k, none⟩ = false := by
  obtain ⟨hh, hr, he⟩ := h.row
  exact hr.frozen k
theorem RowS.lt {w : World} {L g cap n : Nat} {F0 F1 : Nat → Int} (h : RowS w L g cap n F0 F1) : g < w.heap.size := by
  obtain ⟨hh, hr, he⟩ := h.row
  exact hr.lt
theorem RowS.below {w w' : World} {L g cap n : Nat} {F0 F1 : Nat → Int} (h : RowS w L g cap n F0 F1) (hb : Below w.heap.size w w') : RowS w' L g cap n F0 F1 := by
  have hl := h.lt
  obtain ⟨hh, hr, he⟩ := h.row
  exact ⟨h.base, h.room, h.most, hh, hr.of_block (hb.block g hl), he⟩
theorem RowS.setM {w : World} {L g cap n : Nat} {F0 F1 : Nat → Int} (h : RowS w L g cap n F0 F1) (k : Nat) (x : Int) : RowS (w.setCell ⟨g, k * 2, none⟩ (.int .u64 x)) L g cap n (putI F0 k x) F1 := by
  obtain ⟨hh, hr, he⟩ := h.row
  refine ⟨h.base, h.room, h.most, _, hr.set (k * 2) (.int .u64 x), fun j hj => ?_⟩
  obtain ⟨i, rfl | rfl⟩ : ∃ i, j = i * 2 ∨ j = i * 2 + 1 := ⟨j / 2, by omega⟩
  · rw [cellStepS_0]
    by_cases e : i = k
    · subst e; simp [putI]
    · have e2 : ¬ i * 2 = k * 2 := by omega
      simp only [e2, if_false, putI, e]
      rw [he _ hj, cellStepS_0]
  · rw [cellStepS_1]
    have e2 : ¬ i * 2 + 1 = k * 2 := by omega
    simp only [e2, if_false]
    rw [he _ hj, cellStepS_1]
theorem RowS.mine {w : World} {L g cap n : Nat} {F0 F1 : Nat → Int} (h : RowS w L g cap n F0 F1) : Mine w L w.heap.size 60 2 (.slice (some ⟨g, 0, none⟩) n cap) n (cellStepS F0 F1) := Mine.of_listSt h.own
theorem listSt_congr {F0 F1 G0 G1 : Nat → Int} : ∀ n, (∀ j, j < n → F0 j = G0 j ∧ F1 j = G1 j) → listSt F0 F1 n = listSt G0 G1 n
  | 0, _ => rfl
  | n + 1, h => by
    rw [listSt, listSt, listSt_congr n fun j hj => h j (by omega), (h n (by omega)).1, (h n (by omega)).2]
theorem listSt_put (F0 F1 : Nat → Int) (n : Nat) (m t : Int) : listSt F0 F1 n ++ [.int .u64 m, .int .i8 t] = listSt (putI F0 n m) (putI F1 n t) (n + 1) := by
  have h := listSt_congr (F0 := F0) (F1 := F1) (G0 := putI F0 n m) (G1 := putI F1 n t) n fun j hj => by
    have e : ¬ j = n := by omega
    simp [putI, e]
  rw [listSt, ← h]
  simp [putI]

theorem row_drew {w : World} {L g cap n : Nat} {F0 F1 : Nat → Int} {p : Addr} {x : Value} {k : Nat} (h : RowS (w.setCell p x) L g cap n F0 F1) : RowS ((w.drewN k).setCell p x) L g cap n F0 F1 := ⟨h.base, h.room, h.most, h.row⟩

set_option maxRecDepth 100000 in
set_option maxHeartbeats 4000000 in
theorem specShorterSteps_any (b n cap : Nat) (fs es : Nat → Int) (hn : n ≤ 1048576) (hs : SmallS n fs es) (w : World) (hr : StRow w b n fs es) :
    Calls Tryd.prog 18 #[.slice (some ⟨b, 0, none⟩) n cap] w (StpCode (mirC n es) (shS fs es n).2.1 (shS fs es n).2.2 (shS fs es n).1 w) := by
  have hk := fun W => l03Ok_any b n cap fs es hn hs W
  obtain ⟨i0, hi, hz0, hz1, hz2⟩ := info_parts stInfo
  rcases h1 : stpB n es with _ | _
  · rw [mir_1 h1]
    rw [h1] at hk
    have Hk := Lib.hid hk; clear hk h1
    go_enter Tryd.func18, Tryd.ntmps18
    go_wp2_with fail
    refine (Hk.out _ hr).mono ?_; rintro e w1 ⟨rfl, rfl⟩
    go_wp2_with fail
    go_ret2
    exact ⟨_, rfl, mineSt_no (by decide), (Below.refl _ _).alloc (Nat.le_refl _) _⟩
  · rw [mir_0 h1]
    rw [h1] at hk
    have Hk := Lib.hid hk; clear hk h1 hs
    go_enter Tryd.func18, Tryd.ntmps18
    go_wp2_with fail
    refine (Hk.out _ hr).mono ?_; rintro e w1 ⟨rfl, rfl⟩
    clear Hk
    have o1 : RowS (w.alloc (.cells #[] 60)) w.heap.size w.heap.size 0 0 (fun _ => 0) (fun _ => 0) := RowS.of (World.ownsRow_lit (base := w.heap.size) (e := 60) (size := 2) w #[] 0 (Nat.le_refl _) (Nat.zero_le _) rfl)
    have k1 := (Below.refl w.heap.size w).alloc (Nat.le_refl _) (.cells #[] 60)
    go_wp2_with fail
    go_loopw [4, 5] (fun v i wr => ∃ k g cp : Nat, k ≤ n ∧ i = .int .i64 k ∧ v = .slice (some ⟨g, 0, none⟩) (shS fs es k).1 cp ∧ RowS wr w.heap.size g cp (shS fs es k).1 (shS fs es k).2.1 (shS fs es k).2.2 ∧ Below w.heap.size w wr) (fun _ i _ => n - (intOf i).toNat)
    case atStart => exact ⟨0, w.heap.size, 0, Nat.zero_le _, rfl, rfl, o1, k1⟩
    case round =>
      obtain ⟨k, g, cp, hk, rfl, rfl, hR, hB⟩ := hrel
      obtain ⟨wo, rfl⟩ : ∃ wo : World, wo = wr := ⟨_, rfl⟩
      clear o1 k1
      by_cases hkn : k < n
      · have hrk := hr.below hB hr.lt
        have c0 := hrk.cell0 hkn
        have c1 := hrk.cell1 hkn
        clear hrk
        have hle := shS_le fs es k
        have hnext : shS fs es (k + 1) = jnS (shS fs es k) (fs k) (es k) := rfl
        rcases hS : shS fs es k with ⟨Q, F0, F1⟩
        rw [hS] at hR hle hnext
        simp only at hR hle ⊢
        clear hS
        generalize fs k = m at *
        generalize es k = t at *
        have hka := (Below.refl wo.heap.size wo).alloc (Nat.le_refl _) (.cells #[.int .u64 m, .int .i8 t] 60)
        have hR1 := hR.below hka
        have hB1 := hB.alloc hB.size (.cells #[.int .u64 m, .int .i8 t] 60)
        have w3 : (k : Int) < n := by omega
        by_cases hm : m = 0
        · subst hm
          rw [jnS_z] at hnext
          have Hn := Lib.hid hnext; clear hnext
          have HR1 := Lib.hid hR1; clear hR1
          have HB1 := Lib.hid hB1; clear hB1 hka hR hB
          go_wp2_with fail
          go_roundw
          case rel => exact ⟨k + 1, g, cp, by omega, by go_num, by rw [Hn.out], by rw [Hn.out]; exact HR1.out, HB1.out⟩
          case measure => simp [intOf]; omega
        · have hat := fun j hj hp h => (hnext.trans (jnS_at (Q := Q) (F0 := F0) (F1 := F1) (t := t) hm (j := j) hj hp h))
          have hno := fun h => (hnext.trans (jnS_no (Q := Q) (F0 := F0) (F1 := F1) (t := t) hm h))
          have Hat := Lib.hid hat; clear hat
          have Hno := Lib.hid hno; clear hno hnext
          have hx0 : (wo.alloc (.cells #[.int .u64 m, .int .i8 t] 60)).cell? ⟨wo.heap.size, 0, none⟩ = some (.int .u64 m) := by rw [cell_of_row _ _ 0 _ _ _ (heap_alloc_new wo _)]; rfl
          have hx1 : (wo.alloc (.cells #[.int .u64 m, .int .i8 t] 60)).cell? ⟨wo.heap.size, 1, none⟩ = some (.int .i8 t) := by rw [cell_of_row _ _ 1 _ _ _ (heap_alloc_new wo _)]; rfl
          have hsz : (wo.alloc (.cells #[.int .u64 m, .int .i8 t] 60)).heap.size = wo.heap.size + 1 := by simp
          have Hx := Lib.hid (And.intro hx0 hx1); clear hx0 hx1
          clear hka hR hB
          obtain ⟨w1, hw1⟩ : ∃ x : World, x = wo.alloc (.cells #[.int .u64 m, .int .i8 t] 60) := ⟨_, rfl⟩
          rw [← hw1] at hR1 hB1 Hx hsz
          have HR1 := Lib.hid hR1; clear hR1
          have HB1 := Lib.hid hB1; clear hB1
          have Hsz := Lib.hid hsz; clear hsz
          have Hw := Lib.hid hw1; clear hw1
          go_wp2_with fail
          rw [← Hw.out]
          clear c0 c1
          go_loopw [7, 8] (fun J i wr => ∃ j : Nat, j ≤ Q ∧ i = .int .i64 (j : Int) ∧ Below w1.heap.size w1 wr ∧ ((J = .int .i64 (-1) ∧ ∀ i', i' < j → jnB F0 F1 m t i' = false) ∨ ∃ j0 : Nat, j0 < Q ∧ J = .int .i64 (j0 : Int) ∧ jnB F0 F1 m t j0 = true ∧ ∀ i', i' < j0 → jnB F0 F1 m t i' = false)) (fun _ i _ => Q - (intOf i).toNat)
          case atStart => exact ⟨0, Nat.zero_le _, rfl, Below.refl _ _, .inl ⟨rfl, fun i' hi' => by omega⟩⟩
          case round =>
            obtain ⟨j, hjq, rfl, hBi, hJ⟩ := hrel
            have hRi := HR1.out.below hBi
            have hzi := hBi.size
            have e0 : wr.cell? ⟨wo.heap.size, 0, none⟩ = some (.int .u64 m) := by rw [hBi.cell (p := ⟨wo.heap.size, 0, none⟩) (by show wo.heap.size < w1.heap.size; rw [Hsz.out]; omega)]; exact Hx.out.1
            have e1 : wr.cell? ⟨wo.heap.size, 1, none⟩ = some (.int .i8 t) := by rw [hBi.cell (p := ⟨wo.heap.size, 1, none⟩) (by show wo.heap.size < w1.heap.size; rw [Hsz.out]; omega)]; exact Hx.out.2
            rcases hJ with ⟨rfl, hpj⟩ | ⟨j0, hj0, rfl, hp, hpj⟩
            · have HP := Lib.hid hpj; clear hpj
              by_cases hjn : j < Q
              · have d0 := hRi.cell0 hjn
                have d1 := hRi.cell1 hjn
                have w4 : (j : Int) < Q := by omega
                have HY := Lib.hid (fun a b => jnB_yes (F0 := F0) (F1 := F1) (m := m) (t := t) (i := j) a b)
                have HN1 := Lib.hid (fun a => jnB_no1 (F0 := F0) (F1 := F1) (m := m) (t := t) (i := j) a)
                have HN2 := Lib.hid (fun a => jnB_no2 (F0 := F0) (F1 := F1) (m := m) (t := t) (i := j) a)
                have HRi := Lib.hid hRi; clear hRi
                generalize hX : F0 j = X at *
                generalize hY : F1 j = Y at *
                clear hX hY
                rcases q1 : (Y == t) with _ | _
                · have hnb := HN1.out q1
                  have Hnb := Lib.hid hnb; clear hnb
                  have q1' : decide (Y = t) = false := by simpa using q1
                  go_wp2_with fail
                  go_quiet (fail)
                  go_wp2
                  go_roundw
                  case rel => exact ⟨j + 1, by omega, by go_num, below_drewS hBi _, .inl ⟨rfl, fun i' hi' => by
                    by_cases e : i' = j
                    · subst e; exact Hnb.out
                    · exact HP.out i' (by omega)⟩⟩
                  case measure => simp [intOf]; omega
                · have q1' : decide (Y = t) = true := by simpa using q1
                  rcases q2 : (bits BinOp.and IntKind.u64 X m == 0) with _ | _
                  · have hnb := HN2.out q2
                    have Hnb := Lib.hid hnb; clear hnb
                    have q2' : decide (bits BinOp.and IntKind.u64 X m = 0) = false := by simpa using q2
                    go_wp2_with fail
                    go_quiet (fail)
                    go_wp2
                    go_roundw
                    case rel => exact ⟨j + 1, by omega, by go_num, below_drewS hBi _, .inl ⟨rfl, fun i' hi' => by
                      by_cases e : i' = j
                      · subst e; exact Hnb.out
                      · exact HP.out i' (by omega)⟩⟩
                    case measure => simp [intOf]; omega
                  · have hnb := HY.out q1 q2
                    have Hnb := Lib.hid hnb; clear hnb
                    have q2' : decide (bits BinOp.and IntKind.u64 X m = 0) = true := by simpa using q2
                    go_wp2_with fail
                    go_quiet (fail)
                    go_wp2
                    go_roundw
                    case rel => exact ⟨j + 1, by omega, by go_num, below_drewS hBi _, .inr ⟨j, hjn, rfl, Hnb.out, HP.out⟩⟩
                    case measure => simp [intOf]; omega
              · obtain rfl : j = Q := by omega
                have hnx := Hno.out HP.out
                have Hnx := Lib.hid hnx; clear hnx
                have hown := hRi.own
                have hzr : w.heap.size ≤ wr.heap.size := Nat.le_trans HB1.out.size hzi
                have hBw : Below w.heap.size w wr := HB1.out.trans (hBi.mono HB1.out.size)
                have hmx : j + 1 ≤ maxLen := by unfold maxLen; omega
                have hbt : (j + 1) * 16 ≤ 140737488355328 := by omega
                clear hRi
                go_wp2_with ((at_builtin; refine wpList_append_lies _ rfl _ _ _ rfl w.heap.size 60 i0 _ 2 16 Tryd.underlying23 hi hz0 hz1 hz2 rfl (by omega) _ j (listSt F0 F1 j) rfl (hown.alloc _) ⟨wr.heap.size, 0, none⟩ 1 1 [.int .u64 m, .int .i8 t] rfl rfl (World.news_of_block (cs := #[.int .u64 m, .int .i8 t]) (t := 60) (fr := (0, 0)) (heap_alloc_new wr _)) (by simp [Value.oneCell']) (by omega) hmx hbt (by simp; omega) (wr.heap.size + 1) (by simp) ?_; intro gg cq w5 hown2 hgrow hat hlt))
                have hB5 : Below w.heap.size w w5 := (hBw.alloc hzr _).grown hgrow (by simp; omega) (fun x hx => (hown.lt x hx).1)
                have hR5 : RowS w5 w.heap.size gg cq (j + 1) (putI F0 j m) (putI F1 j t) := RowS.of (by rw [← listSt_put]; exact hown2)
                clear hown hown2 hgrow hat e0 e1 hBi
                go_wp2_with fail
                go_roundw
                case rel => exact ⟨k + 1, gg, cq, by omega, by go_num, by rw [Hnx.out], by rw [Hnx.out]; exact hR5, hB5⟩
                case measure => simp [intOf]; omega
            · have hnx := Hat.out j0 hj0 hp hpj
              have Hnx := Lib.hid hnx; clear hnx hp hpj
              have d0 := hRi.cell0 hj0
              have d1 := hRi.cell1 hj0
              have g0 := hRi.frozen (j0 * 2)
              have w5 : (j0 : Int) < Q := by omega
              have w6 : ¬ (j0 : Int) < 0 := by omega
              have hBw : Below w.heap.size w wr := HB1.out.trans (hBi.mono HB1.out.size)
              have hst := hRi.setM j0 (bits BinOp.or IntKind.u64 (F0 j0) m)
              have hgb := hRi.base
              have hgl := hRi.lt
              have HB6 := Lib.hid hBw; clear hBw
              have Hst := Lib.hid hst; clear hst
              have HRi := Lib.hid hRi; clear hRi
              generalize hX : F0 j0 = X at *
              clear hX
              generalize hX : bits BinOp.or IntKind.u64 X m = X2 at *
              by_cases hjn : j < Q
              · have w4 : (j : Int) < Q := by omega
                go_wp2_with fail
                go_region
                all_goals
                  go_wp2
                  go_roundw
                  case rel => exact ⟨k + 1, g, cp, by omega, by go_num, by rw [Hnx.out], by rw [Hnx.out]; exact row_drew Hst.out, (below_drewS HB6.out _).setCell hgb _⟩
                  case measure => simp [intOf]; omega
              · have w4 : ¬ (j : Int) < Q := by omega
                go_wp2_with fail
                go_region
                all_goals
                  go_wp2
                  go_roundw
                  case rel => exact ⟨k + 1, g, cp, by omega, by go_num, by rw [Hnx.out], by rw [Hnx.out]; exact row_drew Hst.out, (below_drewS HB6.out _).setCell hgb _⟩
                  case measure => simp [intOf]; omega
      · obtain rfl : k = n := by omega
        go_wp2_with fail
        go_ret2
        exact ⟨_, rfl, by rw [if_pos rfl]; exact hR.mine, hB⟩
end Go.Proofs.YtnnefgaemnkafaaDoor
