/-
  Steps turned around: what both sides' functions return. Condition: at most 1048576 steps; of the program's: its variables hold their own errors.
-/
import Derived.Test.YtnnefgaemnkafaaDoorDodge
import Derived.Test.YtnnefgaemnkafaaDoorMirror
import Derived.Maps.AppendAt
import Derived.Deep.RegionHeld3
import Derived.Deep.AppendLies
import Derived.Laws.OwnMore
import Derived.Lib.SliceRun
namespace Go.Proofs.YtnnefgaemnkafaaDoor
open Go.RowKit

/-- The cells, one behind the other. -/
def listSt (F0 F1 : Nat → Int) : Nat → List Value
  | 0 => []
  | k + 1 => listSt F0 F1 k ++ [.int .u64 (F0 k), .int .i8 (F1 k)]
theorem listSt_len (F0 F1 : Nat → Int) : ∀ k, (listSt F0 F1 k).length = k * 2
  | 0 => rfl
  | k + 1 => by simp only [listSt, List.length_append, listSt_len F0 F1 k]; simp; omega
theorem listSt_get (F0 F1 : Nat → Int) : ∀ (k j : Nat), j < k * 2 → (listSt F0 F1 k)[j]?.getD undef = cellStepS F0 F1 j
  | 0, j, h => by omega
  | k + 1, j, h => by
    have hl := listSt_len F0 F1 k
    by_cases hj : j < k * 2
    · rw [listSt, List.getElem?_append_left (by omega)]
      exact listSt_get F0 F1 k j hj
    · rw [listSt, List.getElem?_append_right (by omega), hl]
      have : j = k * 2 ∨ j = k * 2 + 1 := by omega
      rcases this with rfl | rfl
      · rw [cellStepS_0, show k * 2 - k * 2 = 0 by omega]; rfl
      · rw [cellStepS_1, show k * 2 + 1 - k * 2 = 1 by omega]; rfl
theorem Mine.of_listSt {F0 F1 : Nat → Int} {w : World} {L n : Nat} {v : Value} (h : w.ownsRow L 60 2 v n (listSt F0 F1 n)) : Mine w L w.heap.size 60 2 v n (cellStepS F0 F1) :=
  (Mine.of_own h).congr fun j hj => listSt_get F0 F1 n j hj
theorem listSt_one (us vs : Nat → Int) : ∀ m, ∀ u ∈ listSt us vs m, u.oneCell' = true
  | 0, u, h => by simp [listSt] at h
  | m + 1, u, h => by
    simp only [listSt, List.mem_append, List.mem_cons, List.not_mem_nil, or_false] at h
    rcases h with h | rfl | rfl
    · exact listSt_one us vs m u h
    · rfl
    · rfl
theorem StRow.news {w : World} {b n : Nat} {us vs : Nat → Int} (h : StRow w b n us vs) : ∀ j u, (listSt us vs n)[j]? = some u → w.cell? ((⟨b, 0, none⟩ : Addr).add j) = some u := fun j u hj => by
  have hl : j < (listSt us vs n).length := (List.getElem?_eq_some_iff.1 hj).1
  rw [listSt_len] at hl
  have hg := listSt_get us vs n j hl
  rw [hj] at hg
  have hu : u = cellStepS us vs j := hg
  subst hu
  have ha : ∀ o : Nat, ((⟨b, o, none⟩ : Addr).add j) = ⟨b, o + j, none⟩ := fun o => by simp [Addr.add]
  rw [ha 0, Nat.zero_add]
  obtain ⟨k, rfl | rfl⟩ : ∃ k, j = k * 2 ∨ j = k * 2 + 1 := ⟨j / 2, by omega⟩
  · rw [cellStepS_0]; exact h.cell0 (by omega)
  · rw [cellStepS_1]; exact h.cell1 (by omega)
theorem own_neS {w : World} {base size n b : Nat} {e : TypeId} {v : Value} {xs : List Value} (h : w.ownsRow base e size v n xs) (hb : b < base) : v.ownBlock ≠ some b := fun e => by
  have := (h.lt b e).1
  omega

/-- The masks, turned around. -/
def mirF (fs : Nat → Int) (j : Nat) : Int := ((mirN (fs j).toNat : Nat) : Int)
/-- Its code. -/
def mirC (n : Nat) (es : Nat → Int) : Int := if stpB n es = true then 0 else 1
theorem mir_0 {n : Nat} {es : Nat → Int} (h : stpB n es = true) : mirC n es = 0 := by simp [mirC, h]
theorem mir_1 {n : Nat} {es : Nat → Int} (h : stpB n es = false) : mirC n es = 1 := by simp [mirC, h]

set_option maxRecDepth 100000 in
set_option maxHeartbeats 2000000 in
theorem specMirrorSteps_any (b n cap : Nat) (fs es : Nat → Int) (hn : n ≤ 1048576) (hs : SmallS n fs es) (w : World) (hr : StRow w b n fs es) :
    Calls Tryd.prog 21 #[.slice (some ⟨b, 0, none⟩) n cap] w (StpCode (mirC n es) (mirF fs) es n w) := by
  have hk := fun W => l03Ok_any b n cap fs es hn hs W
  obtain ⟨i0, hi, hz0, hz1, hz2⟩ := info_parts stInfo
  rcases h1 : stpB n es with _ | _
  · rw [mir_1 h1]
    rw [h1] at hk
    have Hk := Lib.hid hk; clear hk h1
    go_enter Tryd.func21, Tryd.ntmps21
    go_wp2_with fail
    refine (Hk.out _ hr).mono ?_; rintro e w1 ⟨rfl, rfl⟩
    go_wp2_with fail
    go_ret2
    exact ⟨_, rfl, mineSt_no (by decide), (Below.refl _ _).alloc (Nat.le_refl _) _⟩
  · rw [mir_0 h1]
    rw [h1] at hk
    have Hk := Lib.hid hk; clear hk h1
    have hm := fun M (h : M < 18446744073709551616) W => l03Mirror_any M h W
    have Hm := Lib.hid hm; clear hm
    have Hs := Lib.hid hs; clear hs
    go_enter Tryd.func21, Tryd.ntmps21
    go_wp2_with fail
    refine (Hk.out _ hr).mono ?_; rintro e w1 ⟨rfl, rfl⟩
    have o1 := World.ownsRow_lit (base := w.heap.size) (e := 60) (size := 2) w #[] 0 (Nat.le_refl _) (Nat.zero_le _) rfl
    have k1 := (Below.refl w.heap.size w).alloc (Nat.le_refl _) (.cells #[] 60)
    go_wp2_with fail
    go_loopw [4, 5] (fun v i wr => ∃ k : Nat, k ≤ n ∧ i = .int .i64 k ∧ wr.ownsRow w.heap.size 60 2 v k (listSt (mirF fs) es k) ∧ Below w.heap.size w wr) (fun _ i _ => n - (intOf i).toNat)
    case atStart => exact ⟨0, Nat.zero_le _, rfl, o1, k1⟩
    case round =>
      obtain ⟨k, hk, rfl, hown, hB⟩ := hrel
      clear o1 k1
      by_cases hkn : k < n
      · have hrk := hr.below hB hr.lt
        have c0 := hrk.cell0 hkn
        have c1 := hrk.cell1 hkn
        have hsm := Hs.out k hkn
        have hl2 : listSt (mirF fs) es (k + 1) = listSt (mirF fs) es k ++ [.int .u64 ((mirN (fs k).toNat : Nat) : Int), .int .i8 (es k)] := rfl
        have hfm : fs k = (((fs k).toNat : Nat) : Int) := by omega
        have hml : (fs k).toNat < 18446744073709551616 := by omega
        rw [hfm] at c0
        have hcall := fun W => Hm.out (fs k).toNat hml W
        generalize (fs k).toNat = M at *
        clear hfm hsm
        generalize es k = Y at *
        generalize mirN M = R at *
        have Hl2 := Lib.hid hl2; clear hl2
        have Hcall := Lib.hid hcall; clear hcall
        have w3 : (k : Int) < n := by omega
        have hzr := hB.size
        have hrl := hrk.lt
        have ag := own_neS hown (show b < w.heap.size from hr.lt)
        have hmx : k + 1 ≤ maxLen := by unfold maxLen; omega
        have hbt : (k + 1) * 16 ≤ 140737488355328 := by omega
        go_wp2_with fail
        go_region_held3 (fun w' => w'.cell? ⟨b, k * 2, none⟩ = some (.int .u64 (M : Int)) ∧ w'.cell? ⟨b, k * 2 + 1, none⟩ = some (.int .i8 Y))
          (first
            | go_keep
            | (go_split_ands
               refine ⟨?_, ?_⟩
               · (rw [hgrow.cell_far _ (by simp; omega) (Ne.symm ag)]; assumption)
               · (rw [hgrow.cell_far _ (by simp; omega) (Ne.symm ag)]; assumption)))
          (first
            | (go_at_call 45; refine (Hcall.out _).mono ?_; rintro e w' ⟨rfl, rfl⟩)
            | (refine step_append_lies _ (by rfl) _ _ _ (by rfl) w.heap.size 60 i0 _ 2 16 Tryd.underlying23 hi hz0 hz1 hz2 rfl (by omega) _ k (listSt (mirF fs) es k) (by rfl) ((hown.alloc _).drew)
                ⟨wr.heap.size, 0, none⟩ 1 1 [.int .u64 (R : Int), .int .i8 Y] (by rfl) (by rfl) (World.news_of_block (cs := #[.int .u64 (R : Int), .int .i8 Y]) (t := 60) (fr := (0, 0)) (heap_alloc_new wr _)) (by simp [Value.oneCell'])
                (by omega) hmx hbt (by simp; omega) (wr.heap.size + 1) (by simp) ?_; intro gg cq w5 hown2 hgrow hat hlt))
        have hB5 : Below w.heap.size w w5 := (hB.alloc hB.size _).drew.grown hgrow (by simp; omega) (fun x hx => (hown.lt x hx).1)
        have hown5 : w5.ownsRow w.heap.size 60 2 (.slice (some ⟨gg, 0, none⟩) (k + 1) cq) (k + 1) (listSt (mirF fs) es (k + 1)) := by rw [Hl2.out]; exact hown2
        clear hown hown2 hgrow hB hrk hat
        go_wp2_with fail
        go_roundw
        case rel => exact ⟨k + 1, by omega, by go_num, hown5, hB5⟩
        case measure => simp [intOf]; omega
      · obtain rfl : k = n := by omega
        go_wp2_with fail
        go_ret2
        exact ⟨_, rfl, by rw [if_pos rfl]; exact Mine.of_listSt hown, hB⟩

theorem run_slnil {P : Program} {ρ : Operand → Value} {o : Oper} {w : World} {T T2 e : TypeId} {x y : Operand} {a : Addr} {n c : Nat} (ho : o.op = .binOp .eql T x y T2) (hx : ρ x = .slice (some a) n c) (hy : ρ y = .slice none 0 0) (ht : P.underlying T = some (.slice e)) :
    (execOp ρ o).run P w = .ok (.value (.bool false)) w := by
  have h := Lib.run_eql_slice_nil (P := P) w T e (some a) n c 0 0 ht
  unfold execOp
  simp [ho, hx, hy, h, eqGuard]

set_option maxRecDepth 100000 in
set_option maxHeartbeats 1000000 in
theorem CloneSt_any (b n cap : Nat) (fs es : Nat → Int) (hn : n ≤ 1048576) (w : World) (hr : StRow w b n fs es) :
    Calls Tryd.prog 67 #[.slice (some ⟨b, 0, none⟩) n cap] w fun e w' => ∃ v, e = .returned v ∧ Mine w' w.heap.size w'.heap.size 60 2 v n (cellStepS fs es) ∧ Below w.heap.size w w' := by
  obtain ⟨i0, hi, hz0, hz1, hz2⟩ := info_parts stInfo
  have hb1 := (Below.refl w.heap.size w).alloc (Nat.le_refl _) (.cells #[] 60)
  have o1 := World.ownsRow_lit (base := w.heap.size) (e := 60) (size := 2) w #[] 0 (Nat.le_refl _) (Nat.zero_le _) rfl
  have p1 := (hr.below hb1 hr.lt).news
  go_enter Tryd.func67, Tryd.ntmps67
  go_wp2_with (first | (refine wpList_yield rfl (run_slnil rfl rfl rfl Tryd.underlying23) ?_) | (at_builtin; refine wpList_append_own _ rfl _ _ 23 rfl w.heap.size 60 i0 (.agg #[.int .u64 0, .int .i8 0]) 2 16 Tryd.underlying23 hi hz0 hz1 hz2 rfl (by decide) _ _ _ rfl o1 ⟨b, 0, none⟩ n cap (listSt fs es n) rfl (listSt_len fs es n) p1 (listSt_one fs es n) ?c3 ?c4 ?c5 ?_))
  case c3 => unfold maxLen; omega
  case c4 => omega
  intro v2 w2 o2 hg2 _
  have hb2 : Below w.heap.size w w2 := hb1.grown hg2 hb1.size (fun x hx => (o1.lt x hx).1)
  clear p1 hg2 o1 hb1
  go_wp2_with fail
  go_ret
  exact ⟨_, rfl, Mine.of_listSt o2, hb2⟩

set_option maxRecDepth 100000 in
set_option maxHeartbeats 2000000 in
theorem mirrorSteps_any (s : Ers) (b n cap : Nat) (fs es : Nat → Int) (hn : n ≤ 1048576) (hs : SmallS n fs es) (w : World) (hr : StRow w b n fs es) (hE : ErrEnv s w) :
    Calls Tryd.prog 46 #[.slice (some ⟨b, 0, none⟩) n cap] w (StpErr s (mirC n es) (mirF fs) es n w) := by
  have hk := fun W => ValidSteps_any b n cap fs es hn hs W
  rcases h1 : stpB n es with _ | _
  · rw [mir_1 h1]
    rw [h1] at hk
    have Hk := Lib.hid hk; clear hk h1
    have HE := Lib.hid hE; clear hE
    go_enter Tryd.func46, Tryd.ntmps46
    go_wp2_with fail
    refine (Hk.out _ hr).mono ?_; rintro e w1 ⟨rfl, hb1⟩
    have ce := (HE.out.below hb1 (Nat.le_refl _)).c_einvalid
    go_wp2_with fail
    go_quiet (fail)
    go_wp2
    go_ret2
    exact ⟨_, _, rfl, .einvalid, mineSt_no (by decide), below_drewS hb1 _⟩
  · rw [mir_0 h1]
    rw [h1] at hk
    have Hk := Lib.hid hk; clear hk h1
    have hm := fun M (h : M < 18446744073709551616) W => mirrorMask_any M h W
    have Hm := Lib.hid hm; clear hm
    have Hs := Lib.hid hs; clear hs
    have hc := fun W => CloneSt_any b n cap fs es hn W
    have Hc := Lib.hid hc; clear hc
    clear hE
    go_enter Tryd.func46, Tryd.ntmps46
    go_wp2_with fail
    refine (Hk.out _ hr).mono ?_; rintro e w1 ⟨rfl, hb1⟩
    go_wp2_with fail
    refine (Hc.out _ (hr.below hb1 hr.lt)).mono ?_; rintro e w2 ⟨v, rfl, ⟨A, cp, rfl, hM⟩, hb2⟩
    have k2 := hb1.trans (hb2.mono hb1.size)
    have z1 := hb1.size
    clear hb1 hb2
    rcases hM with h0 | ⟨g, m, hh, rfl, hL, hU, hmm, hR0, he⟩
    · subst h0
      go_wp2_with fail
      refine wp_loop_rounds 1 ?_
      rw [rounds_succ]
      go_wp2_with fail
      go_ret2
      exact ⟨_, _, rfl, .ok, Mine.nil _ _ _ _ _ _ _ _, k2⟩
    · have gl : w.heap.size ≤ g := by omega
      go_wp2_with fail
      go_loopw [15] (fun i wr => ∃ k : Nat, k ≤ n ∧ i = .int .i64 (k : Int) ∧ wr.rowIs g 60 m (fun j => if j < k * 2 then cellStepS (mirF fs) es j else hh j) ∧ Below w.heap.size w wr) (fun i _ => n - (intOf i).toNat)
      case atStart => exact ⟨0, Nat.zero_le _, rfl, hR0.congr (fun j _ => by simp), k2⟩
      case round =>
        obtain ⟨k, hk, rfl, hR, hB⟩ := hrel
        clear k2 hR0
        by_cases hkn : k < n
        · have hrk := hr.below hB hr.lt
          have c0 := hrk.cell0 hkn
          have c1 := hrk.cell1 hkn
          clear hrk
          have hsm := Hs.out k hkn
          have w3 : (k : Int) < n := by omega
          have hF : mirF fs k = ((mirN (fs k).toNat : Nat) : Int) := rfl
          have hfm : fs k = (((fs k).toNat : Nat) : Int) := by omega
          have hml : (fs k).toNat < 18446744073709551616 := by omega
          rw [hfm] at c0
          have hcall := fun W => Hm.out (fs k).toNat hml W
          have e0 : hh (k * 2 + 1) = cellStepS (mirF fs) es (k * 2 + 1) := by rw [he _ (by omega), cellStepS_1, cellStepS_1]
          have E0 := Lib.hid e0; clear e0
          generalize (fs k).toNat = M at *
          clear hfm hsm hml
          generalize es k = Y at *
          generalize mirN M = R at *
          have Hcall := Lib.hid hcall; clear hcall
          have HF := Lib.hid hF; clear hF
          have hRl := hR.lt
          have kB := hB.alloc hB.size (.cells #[.int .u64 (M : Int), .int .i8 Y] 60)
          have hRa := rowIs_belowSt hR ((Below.refl wr.heap.size wr).alloc (Nat.le_refl _) (.cells #[.int .u64 (M : Int), .int .i8 Y] 60)) hRl
          have HRa := Lib.hid hRa; clear hRa
          have HkB := Lib.hid kB; clear kB
          go_wp2_with fail
          refine (Hcall.out _).mono ?_; rintro e w5 ⟨rfl, hw⟩
          have hR5 := HRa.out
          have kB := HkB.out
          rw [hw] at hR5 kB
          clear hw
          have d0 := hR5.cell (i := k * 2) (by omega)
          have g0 := hR5.frozen (k * 2)
          have hst : (w5.setCell ⟨g, k * 2, none⟩ (.int .u64 (R : Int))).rowIs g 60 m (fun j => if j < (k + 1) * 2 then cellStepS (mirF fs) es j else hh j) :=
            (hR5.set (k * 2) (.int .u64 (R : Int))).congr fun j hj => by
              by_cases e1 : j = k * 2
              · subst e1
                have e2 : k * 2 < (k + 1) * 2 := by omega
                simp [e2, cellStepS_0, HF.out]
              · by_cases e3 : j = k * 2 + 1
                · subst e3
                  have e2 : k * 2 + 1 < (k + 1) * 2 := by omega
                  have e4 : ¬ k * 2 + 1 < k * 2 := by omega
                  simp only [e2, e4, if_true, if_false, E0.out]
                  simp
                · by_cases e5 : j < k * 2
                  · have e2 : j < (k + 1) * 2 := by omega
                    simp [e1, e2, e5]
                  · have e2 : ¬ j < (k + 1) * 2 := by omega
                    simp [e1, e2, e5]
          have kS := kB.setCell (p := ⟨g, k * 2, none⟩) gl (.int .u64 (R : Int))
          go_wp2_with fail
          go_roundw
          case rel => exact ⟨k + 1, by omega, by go_num, hst, kS⟩
          case measure => simp [intOf]; omega
        · obtain rfl : k = n := by omega
          have hz : g < wr.heap.size := hR.lt
          go_wp2_with fail
          go_ret2
          exact ⟨_, _, rfl, .ok, by rw [if_pos rfl]; exact ⟨_, cp, rfl, .inr ⟨g, m, _, rfl, gl, hz, hmm, hR, fun j hj => if_pos hj⟩⟩, hB⟩

theorem MirrorSteps_any (s : Ers) (b n cap : Nat) (fs es : Nat → Int) (hn : n ≤ 1048576) (hs : SmallS n fs es) (w : World) (hr : StRow w b n fs es) (hE : ErrEnv s w) :
    Calls Tryd.prog 22 #[.slice (some ⟨b, 0, none⟩) n cap] w (StpCode (mirC n es) (mirF fs) es n w) := by
  have hm := fun V h1 h2 => mirrorSteps_any s b n cap fs es hn hs V h1 h2
  generalize mirC n es = C at *
  generalize mirF fs = F0 at *
  have Hm := Lib.hid hm; clear hm
  go_enter Tryd.func22, Tryd.ntmps22
  go_wp2_with fail
  refine (Hm.out _ hr hE).mono ?_; rintro e w1 ⟨v, ev, rfl, hv, hM, hb1⟩
  go_wp2_with fail
  refine (codedStp_any hv _ _ (hE.below hb1 (Nat.le_refl _))).mono ?_; rintro e w2 ⟨rfl, rfl⟩
  go_wp2_with fail
  go_ret2
  exact ⟨v, rfl, hM, hb1⟩
end Go.Proofs.YtnnefgaemnkafaaDoor
