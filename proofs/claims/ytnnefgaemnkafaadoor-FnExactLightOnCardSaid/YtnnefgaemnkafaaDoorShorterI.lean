/-
  Fewer steps that light the same: what the program's functions return. Condition: at most 1048576 steps; its variables hold their own errors.
-/
import Derived.Test.YtnnefgaemnkafaaDoorShorterS
namespace Go.Proofs.YtnnefgaemnkafaaDoor
open Go.RowKit

/-- What a step is taken as. -/
def expV (m t : Int) : Value := if m = 0 then .iface 100 (.agg #[]) else .iface 102 (.agg #[.int .u64 m, .int .i8 t])
theorem zeroIdle : (Tryd.prog.info? 100).map (·.zero) = some (some (.agg #[])) := by kernel_rfl
theorem ta_ii (v : Value) (x : TypeId) (w : World) : (Instr.typeAssert (.iface 100 v) x 100 true).run Tryd.prog w = .ok (.tuple #[v, .bool true]) w := by
  simp [Instr.typeAssert, run_underlying Tryd.underlying100]
theorem ta_ee (v : Value) (x : TypeId) (w : World) : (Instr.typeAssert (.iface 102 v) x 102 true).run Tryd.prog w = .ok (.tuple #[v, .bool true]) w := by
  simp [Instr.typeAssert, run_underlying Tryd.underlying102]
theorem ta_ei (v : Value) (x : TypeId) (w : World) : (Instr.typeAssert (.iface 102 v) x 100 true).run Tryd.prog w = .ok (.tuple #[.agg #[], .bool false]) w := by
  obtain ⟨j, hj, hz⟩ := Option.map_eq_some_iff.1 zeroIdle
  simp [Instr.typeAssert, run_underlying Tryd.underlying100, zeroValue, typeInfo, hj, hz]

set_option maxHeartbeats 1000000 in
theorem exposureOf_any (m t : Int) (w : World) : Calls Tryd.prog 65 #[.agg #[.int .u64 m, .int .i8 t]] w fun e w' => e = .returned (expV m t) ∧ Below w.heap.size w w' := by
  unfold expV
  by_cases h : m = 0
  · subst h
    rw [if_pos rfl]
    go_enter Tryd.func65, Tryd.ntmps65
    go_wp2_with fail
    go_ret
    exact ⟨rfl, (Below.refl _ _).alloc (Nat.le_refl _) _⟩
  · rw [if_neg h]
    go_enter Tryd.func65, Tryd.ntmps65
    go_wp2_with fail
    go_ret
    exact ⟨rfl, (Below.refl _ _).alloc (Nat.le_refl _) _⟩

theorem rowS_alloc {w : World} {L g cap n : Nat} {F0 F1 : Nat → Int} (h : RowS w L g cap n F0 F1) (o : Obj) : RowS (w.alloc o) L g cap n F0 F1 := h.below ((Below.refl _ _).alloc (Nat.le_refl _) o)
theorem rowS_drew {w : World} {L g cap n : Nat} {F0 F1 : Nat → Int} (h : RowS w L g cap n F0 F1) : RowS w.drew L g cap n F0 F1 := ⟨h.base, h.room, h.most, h.row⟩
theorem below_drewJ {B : Nat} {a w : World} (h : Below B a w) : Below B a w.drew := ⟨h.os, h.tape, h.output, h.size, h.block⟩
theorem below_setAlloc {B : Nat} {a w : World} (h : Below B a w) {p : Addr} (hp : B ≤ p.block) (hB : B ≤ w.heap.size) (v : Value) (o : Obj) : Below B a ((w.setCell p v).alloc o) := (h.setCell hp v).alloc (by simp; exact hB) o

set_option maxRecDepth 100000 in
set_option maxHeartbeats 4000000 in
theorem joinedTo_any (g cp Q L : Nat) (F0 F1 : Nat → Int) (m t : Int) (hm : m ≠ 0) (hq : Q ≤ 1048575) (w : World) (hL : L ≤ w.heap.size) (hR0 : RowS w L g cp Q F0 F1) :
    Calls Tryd.prog 66 #[.agg #[.int .u64 m, .int .i8 t], .slice (some ⟨g, 0, none⟩) Q cp] w fun e w' => ∃ g' cp', e = .returned (.slice (some ⟨g', 0, none⟩) (jnS (Q, F0, F1) m t).1 cp') ∧ RowS w' L g' cp' (jnS (Q, F0, F1) m t).1 (jnS (Q, F0, F1) m t).2.1 (jnS (Q, F0, F1) m t).2.2 ∧ Below L w w' := by
  obtain ⟨i0, hi, hz0, hz1, hz2⟩ := info_parts stInfo
  have hat := fun j hj hp h => (jnS_at (Q := Q) (F0 := F0) (F1 := F1) (t := t) hm (j := j) hj hp h)
  have hno := fun h => (jnS_no (Q := Q) (F0 := F0) (F1 := F1) (t := t) hm h)
  have Hat := Lib.hid hat; clear hat
  have Hno := Lib.hid hno; clear hno hm
  have hx0 : (w.alloc (.cells #[.int .u64 m, .int .i8 t] 102)).cell? ⟨w.heap.size, 0, none⟩ = some (.int .u64 m) := by rw [cell_of_row _ _ 0 _ _ _ (heap_alloc_new w _)]; rfl
  have hx1 : (w.alloc (.cells #[.int .u64 m, .int .i8 t] 102)).cell? ⟨w.heap.size, 1, none⟩ = some (.int .i8 t) := by rw [cell_of_row _ _ 1 _ _ _ (heap_alloc_new w _)]; rfl
  have hka := (Below.refl w.heap.size w).alloc (Nat.le_refl _) (.cells #[.int .u64 m, .int .i8 t] 102)
  have hR1 := hR0.below hka
  have hsz : (w.alloc (.cells #[.int .u64 m, .int .i8 t] 102)).heap.size = w.heap.size + 1 := by simp
  have Hx := Lib.hid (And.intro hx0 hx1); clear hx0 hx1 hR0
  go_enter Tryd.func66, Tryd.ntmps66
  go_wp2_with fail
  obtain ⟨w1, hw1⟩ : ∃ x : World, x = w.alloc (.cells #[.int .u64 m, .int .i8 t] 102) := ⟨_, rfl⟩
  rw [← hw1] at hR1 Hx hsz hka ⊢
  clear hw1
  have HR1 := Lib.hid hR1; clear hR1
  have Hka := Lib.hid hka; clear hka
  have Hsz := Lib.hid hsz; clear hsz
  go_loopw [9] (fun i wr => ∃ j : Nat, j ≤ Q ∧ i = .int .i64 (j : Int) ∧ Below w1.heap.size w1 wr ∧ ∀ i', i' < j → jnB F0 F1 m t i' = false) (fun i _ => Q - (intOf i).toNat)
  case atStart => exact ⟨0, Nat.zero_le _, rfl, Below.refl _ _, fun i' hi' => by omega⟩
  case round =>
    obtain ⟨j, hjq, rfl, hBi, hpj⟩ := hrel
    have HP := Lib.hid hpj; clear hpj
    have hRi := HR1.out.below hBi
    have hzi := hBi.size
    have e0 : wr.cell? ⟨w.heap.size, 0, none⟩ = some (.int .u64 m) := by rw [hBi.cell (p := ⟨w.heap.size, 0, none⟩) (by show w.heap.size < w1.heap.size; rw [Hsz.out]; omega)]; exact Hx.out.1
    have e1 : wr.cell? ⟨w.heap.size, 1, none⟩ = some (.int .i8 t) := by rw [hBi.cell (p := ⟨w.heap.size, 1, none⟩) (by show w.heap.size < w1.heap.size; rw [Hsz.out]; omega)]; exact Hx.out.2
    have hwl : w.heap.size < wr.heap.size := by have := Hsz.out; omega
    have hLr : L ≤ wr.heap.size := by omega
    have hBw : Below L w wr := (Hka.out.mono hL).trans (hBi.mono (by have := Hsz.out; omega))
    have HBw := Lib.hid hBw; clear hBw
    by_cases hjn : j < Q
    · have d0 := hRi.cell0 hjn
      have d1 := hRi.cell1 hjn
      have g0 := hRi.frozen (j * 2)
      have w4 : (j : Int) < Q := by omega
      have HY := Lib.hid (fun a b => jnB_yes (F0 := F0) (F1 := F1) (m := m) (t := t) (i := j) a b)
      have HN1 := Lib.hid (fun a => jnB_no1 (F0 := F0) (F1 := F1) (m := m) (t := t) (i := j) a)
      have HN2 := Lib.hid (fun a => jnB_no2 (F0 := F0) (F1 := F1) (m := m) (t := t) (i := j) a)
      have hst := rowS_alloc (hRi.setM j (bits BinOp.or IntKind.u64 (F0 j) m)) (.cells #[.int .u64 (F0 j), .int .i8 (F1 j)] 60)
      have hgb := hRi.base
      have hgl := hRi.lt
      have Hst := Lib.hid hst; clear hst
      have HRi := Lib.hid hRi; clear hRi
      have Hat2 := Lib.hid (Hat.out j hjn); clear Hat
      have HA := Lib.hid (HBw.out.alloc hLr (.cells #[.int .u64 (F0 j), .int .i8 (F1 j)] 60))
      have HAi := Lib.hid (hBi.alloc hzi (.cells #[.int .u64 (F0 j), .int .i8 (F1 j)] 60))
      generalize hX : F0 j = X at *
      generalize hY : F1 j = Y at *
      clear hX hY
      rcases q1 : (Y == t) with _ | _
      · have hnb := HN1.out q1
        have Hnb := Lib.hid hnb; clear hnb
        have q1' : decide (Y = t) = false := by simpa using q1
        go_wp2_with fail
        go_roundw
        case rel => exact ⟨j + 1, by omega, by go_num, HAi.out, fun i' hi' => by
          by_cases e : i' = j
          · subst e; exact Hnb.out
          · exact HP.out i' (by omega)⟩
        case measure => simp [intOf]; omega
      · have q1' : decide (Y = t) = true := by simpa using q1
        rcases q2 : (bits BinOp.and IntKind.u64 X m == 0) with _ | _
        · have hnb := HN2.out q2
          have Hnb := Lib.hid hnb; clear hnb
          have q2' : decide (bits BinOp.and IntKind.u64 X m = 0) = false := by simpa using q2
          go_wp2_with fail
          go_roundw
          case rel => exact ⟨j + 1, by omega, by go_num, HAi.out, fun i' hi' => by
            by_cases e : i' = j
            · subst e; exact Hnb.out
            · exact HP.out i' (by omega)⟩
          case measure => simp [intOf]; omega
        · have hnx := Hat2.out (HY.out q1 q2) HP.out
          have Hnx := Lib.hid hnx; clear hnx Hat2 HY HN1 HN2
          have q2' : decide (bits BinOp.and IntKind.u64 X m = 0) = true := by simpa using q2
          generalize hX : bits BinOp.or IntKind.u64 X m = X2 at *
          go_wp2_with fail
          go_region
          all_goals
            go_wp2
            go_ret
            exact ⟨g, cp, by rw [Hnx.out]; rfl, by rw [Hnx.out]; exact rowS_drew Hst.out, below_drewJ (below_setAlloc HBw.out hgb hLr _ _)⟩
    · obtain rfl : j = Q := by omega
      have hnx := Hno.out HP.out
      have Hnx := Lib.hid hnx; clear hnx
      have hown := hRi.own
      have hmx : j + 1 ≤ maxLen := by unfold maxLen; omega
      have hbt : (j + 1) * 16 ≤ 140737488355328 := by omega
      clear hRi
      go_wp2_with ((at_builtin; refine wpList_append_lies _ rfl _ _ _ rfl L 60 i0 _ 2 16 Tryd.underlying23 hi hz0 hz1 hz2 rfl (by omega) _ j (listSt F0 F1 j) rfl (hown.alloc _) ⟨wr.heap.size, 0, none⟩ 1 1 [.int .u64 m, .int .i8 t] rfl rfl (World.news_of_block (cs := #[.int .u64 m, .int .i8 t]) (t := 60) (fr := (0, 0)) (heap_alloc_new wr _)) (by simp [Value.oneCell']) (by omega) hmx hbt (by simp; omega) (wr.heap.size + 1) (by simp) ?_; intro gg cq w5 hown2 hgrow hat hlt))
      have hB5 : Below L w w5 := (HBw.out.alloc hLr _).grown hgrow (by simp; omega) (fun x hx => (hown.lt x hx).1)
      have hR5 : RowS w5 L gg cq (j + 1) (putI F0 j m) (putI F1 j t) := RowS.of (by rw [← listSt_put]; exact hown2)
      clear hown hown2 hgrow hat e0 e1 hBi
      go_wp2_with fail
      go_ret
      exact ⟨gg, cq, by rw [Hnx.out]; rfl, by rw [Hnx.out]; exact hR5, hB5⟩

set_option maxRecDepth 100000 in
set_option maxHeartbeats 4000000 in
theorem shorterSteps_any (s : Ers) (b n cap : Nat) (fs es : Nat → Int) (hn : n ≤ 1048576) (hs : SmallS n fs es) (w : World) (hr : StRow w b n fs es) (hE : ErrEnv s w) :
    Calls Tryd.prog 44 #[.slice (some ⟨b, 0, none⟩) n cap] w (StpErr s (mirC n es) (shS fs es n).2.1 (shS fs es n).2.2 (shS fs es n).1 w) := by
  have hk := fun W => ValidSteps_any b n cap fs es hn hs W
  rcases h1 : stpB n es with _ | _
  · rw [mir_1 h1]
    rw [h1] at hk
    have Hk := Lib.hid hk; clear hk h1
    have HE := Lib.hid hE; clear hE
    go_enter Tryd.func44, Tryd.ntmps44
    go_wp2_with fail
    refine (Hk.out _ hr).mono ?_; rintro e w1 ⟨rfl, hb1⟩
    have ce := (HE.out.below hb1 (Nat.le_refl _)).c_einvalid
    go_wp2_with fail
    go_quiet (fail)
    go_wp2
    go_ret2
    exact ⟨_, _, rfl, .einvalid, mineSt_no (by decide), below_drewS hb1 _⟩
  · rw [mir_0 h1]
    rw [h1] at hk
    have Hk := Lib.hid hk; clear hk h1 hs hE
    have hex := fun m t W => exposureOf_any m t W
    have Hex := Lib.hid hex; clear hex
    go_enter Tryd.func44, Tryd.ntmps44
    go_wp2_with fail
    refine (Hk.out _ hr).mono ?_; rintro e w1 ⟨rfl, hb1⟩
    clear Hk
    have hz1 := hb1.size
    have o1 : RowS (w1.alloc (.cells #[] 60)) w.heap.size w1.heap.size 0 0 (fun _ => 0) (fun _ => 0) := RowS.of (World.ownsRow_lit (base := w.heap.size) (e := 60) (size := 2) w1 #[] 0 hz1 (Nat.zero_le _) rfl)
    have k1 := hb1.alloc hz1 (.cells #[] 60)
    clear hb1
    go_wp2_with fail
    go_loopw [4, 16] (fun v i wr => ∃ k g cp : Nat, k ≤ n ∧ i = .int .i64 k ∧ v = .slice (some ⟨g, 0, none⟩) (shS fs es k).1 cp ∧ RowS wr w.heap.size g cp (shS fs es k).1 (shS fs es k).2.1 (shS fs es k).2.2 ∧ Below w.heap.size w wr) (fun _ i _ => n - (intOf i).toNat)
    case atStart => exact ⟨0, w1.heap.size, 0, Nat.zero_le _, rfl, rfl, o1, k1⟩
    case round =>
      obtain ⟨k, g, cp, hk, rfl, rfl, hR, hB⟩ := hrel
      clear o1 k1
      by_cases hkn : k < n
      · have hrk := hr.below hB hr.lt
        have c0 := hrk.cell0 hkn
        have c1 := hrk.cell1 hkn
        clear hrk
        have hle := shS_le fs es k
        have hnext : shS fs es (k + 1) = jnS (shS fs es k) (fs k) (es k) := rfl
        rcases hS : shS fs es k with ⟨Q, F0, F1⟩
        rw [hS] at hR hle hnext
        simp only at hR hle ⊢
        clear hS
        generalize fs k = m at *
        generalize es k = t at *
        have hka := (Below.refl wr.heap.size wr).alloc (Nat.le_refl _) (.cells #[.int .u64 m, .int .i8 t] 60)
        have hR1 := hR.below hka
        have hB1 := hB.alloc hB.size (.cells #[.int .u64 m, .int .i8 t] 60)
        have w3 : (k : Int) < n := by omega
        have hx := Hex.out m t
        clear hR
        have HR1 := Lib.hid hR1; clear hR1
        have HB1 := Lib.hid hB1; clear hB1 hka
        have Hx := Lib.hid hx; clear hx
        by_cases hm : m = 0
        · subst hm
          rw [jnS_z] at hnext
          have Hn := Lib.hid hnext; clear hnext
          go_wp2_with fail
          refine (Hx.out _).mono ?_; rintro e w2 ⟨rfl, hb2⟩
          have hR2 := HR1.out.below hb2
          have hB2 := HB1.out.trans (hb2.mono HB1.out.size)
          unfold expV
          rw [if_pos rfl]
          clear c0 c1 hB hb2
          have t1 := fun W => ta_ii (.agg #[]) 97 W
          go_wp2_with fail
          go_roundw
          case rel => exact ⟨k + 1, g, cp, by omega, by go_num, by rw [Hn.out], by rw [Hn.out]; exact hR2.below ((Below.refl _ _).alloc (Nat.le_refl _) _), hB2.alloc hB2.size _⟩
          case measure => simp [intOf]; omega
        · have Hn := Lib.hid hnext; clear hnext
          go_wp2_with fail
          refine (Hx.out _).mono ?_; rintro e w2 ⟨rfl, hb2⟩
          have hR2 := HR1.out.below hb2
          have hB2 := HB1.out.trans (hb2.mono HB1.out.size)
          unfold expV
          rw [if_neg hm]
          clear c0 c1 hB hb2
          have t1 := fun W => ta_ei (.agg #[.int .u64 m, .int .i8 t]) 97 W
          have t2 := fun W => ta_ee (.agg #[.int .u64 m, .int .i8 t]) 97 W
          have HR2 := Lib.hid hR2; clear hR2
          have HB2 := Lib.hid hB2; clear hB2
          have hj := fun V hL hV => joinedTo_any g cp Q w.heap.size F0 F1 m t hm (by omega) V hL hV
          have Hj := Lib.hid hj; clear hj
          have hzz := HB2.out.size
          go_wp2_with fail
          refine (Hj.out _ (by simp; omega) (rowS_alloc HR2.out _)).mono ?_; rintro e w3 ⟨g', cp', rfl, hR3, hb3⟩
          have hB3 := (HB2.out.alloc hzz (.cells #[.int .u64 m, .int .i8 t] 102)).trans hb3
          clear hb3
          go_wp2_with fail
          go_roundw
          case rel => exact ⟨k + 1, g', cp', by omega, by go_num, by rw [Hn.out], by rw [Hn.out]; exact hR3, hB3⟩
          case measure => simp [intOf]; omega
      · obtain rfl : k = n := by omega
        go_wp2_with fail
        go_ret2
        exact ⟨_, _, rfl, .ok, by rw [if_pos rfl]; exact hR.mine, hB⟩

theorem ShorterSteps_any (s : Ers) (b n cap : Nat) (fs es : Nat → Int) (hn : n ≤ 1048576) (hs : SmallS n fs es) (w : World) (hr : StRow w b n fs es) (hE : ErrEnv s w) :
    Calls Tryd.prog 20 #[.slice (some ⟨b, 0, none⟩) n cap] w (StpCode (mirC n es) (shS fs es n).2.1 (shS fs es n).2.2 (shS fs es n).1 w) := by
  have hm := fun V h1 h2 => shorterSteps_any s b n cap fs es hn hs V h1 h2
  generalize mirC n es = C at *
  generalize shS fs es n = S at *
  have Hm := Lib.hid hm; clear hm
  go_enter Tryd.func20, Tryd.ntmps20
  go_wp2_with fail
  refine (Hm.out _ hr hE).mono ?_; rintro e w1 ⟨v, ev, rfl, hv, hM, hb1⟩
  go_wp2_with fail
  refine (codedStp_any hv _ _ (hE.below hb1 (Nat.le_refl _))).mono ?_; rintro e w2 ⟨rfl, rfl⟩
  go_wp2_with fail
  go_ret2
  exact ⟨v, rfl, hM, hb1⟩
end Go.Proofs.YtnnefgaemnkafaaDoor
