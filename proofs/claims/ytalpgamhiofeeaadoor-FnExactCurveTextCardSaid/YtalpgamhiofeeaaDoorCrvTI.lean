/-
  The text of a curve, by the program, for every list of at most 1048576 points. Condition: the library's table of powers holds what the row lists.
-/
import Derived.Test.YtalpgamhiofeeaaDoorItoaC
import Derived.Test.YtalpgamhiofeeaaDoorCrvTS
import Derived.Test.YtalpgamhiofeeaaDoorValidC
import Derived.Test.YtalpgamhiofeeaaDoorSplit
import Derived.Test.YtalpgamhiofeeaaDoorShelfC
import Derived.Test.YtalpgamhiofeeaaDoorInts
import Derived.Maps.AppendAt
import Derived.Deep.RegionHeld3
import Derived.Deep.AppendLies
namespace Go.Proofs.YtalpgamhiofeeaaDoor
open Go.RowKit

theorem own_belowC {w w' : World} {base size n : Nat} {e : TypeId} {v : Value} {l : List Value} (h : w.ownsRow base e size v n l) (hb : Below w.heap.size w w') : w'.ownsRow base e size v n l :=
  h.kept (row := none) ⟨hb.os, hb.tape, hb.output, hb.size, fun i hi _ => hb.block i hi⟩ (by cases v.ownBlock <;> simp)
theorem own_neC {w : World} {base size n b : Nat} {e : TypeId} {v : Value} {xs : List Value} (h : w.ownsRow base e size v n xs) (hb : w.heap.size ≤ b) : v.ownBlock ≠ some b := fun e => by
  have := (h.lt b e).2
  omega
theorem keep2C {B : Nat} {W W' : World} (hb : Below B W W') {g : Nat} {x y : Option Value} (h : W.cell? ⟨g, 0, none⟩ = x ∧ W.cell? ⟨g, 1, none⟩ = y) (hg : g < B) :
    W'.cell? ⟨g, 0, none⟩ = x ∧ W'.cell? ⟨g, 1, none⟩ = y :=
  ⟨(hb.cell (p := ⟨g, 0, none⟩) hg).trans h.1, (hb.cell (p := ⟨g, 1, none⟩) hg).trans h.2⟩
/-- The words, joined by the library. -/
theorem joinC_any (bk c n : Nat) (xs ys : Nat → Int) (w : World) (hcells : ∀ j, j < n → w.cell? ⟨bk, j, none⟩ = some (strV (cwT xs ys j))) (hbk : bk < w.heap.size) (hn : n ≤ 1000) (hcap : n ≤ c) (hlen : (ctxT xs ys n).length ≤ 1000000) :
    Calls Tryd.prog 14 #[.slice (some ⟨bk, 0, none⟩) n c, .string ⟨#[32]⟩] w fun e w' => e = .returned (strV (ctxT xs ys n)) ∧ Below w.heap.size w w' := by
  have hl : ((cwsT xs ys n).map (fun l => (⟨l.toArray⟩ : ByteArray))).length = n := by rw [List.length_map, cwsT_len]
  have hd : ((cwsT xs ys n).map (fun l => (⟨l.toArray⟩ : ByteArray))).map (·.data.toList) = cwsT xs ys n := by
    rw [List.map_map]
    exact (List.map_congr_left fun _ _ => rfl).trans (List.map_id _)
  have hj := join_ctx xs ys n
  have h := shStrings_Join bk 0 c ((cwsT xs ys n).map (fun l => (⟨l.toArray⟩ : ByteArray))) ⟨#[32]⟩ w (fun j x hx => by
    rw [List.getElem?_map] at hx
    cases hc : (cwsT xs ys n)[j]? with
    | none => rw [hc] at hx; simp at hx
    | some u =>
      rw [hc] at hx
      have hjn : j < n := by
        have := (List.getElem?_eq_some_iff.1 hc).1
        rw [cwsT_len] at this; exact this
      have hu : u = cwT xs ys j := by
        unfold cwsT at hc
        rw [List.getElem?_map, List.getElem?_range hjn] at hc
        injection hc with hc
        exact hc.symm
      simp only [Option.map_some, Option.some.injEq] at hx
      rw [Nat.zero_add, hcells j hjn, ← hx, hu]) hbk (by rw [hl]; omega) (by rw [hl]; exact hcap) (by
        rw [hd]
        show (Lib.join (cwsT xs ys n) [32]).length ≤ _
        rw [hj]; omega)
  rw [hl, hd] at h
  refine h.mono ?_
  rintro e w' ⟨he, hb⟩
  refine ⟨?_, hb⟩
  rw [he]
  show Ending.returned (strV (Lib.join (cwsT xs ys n) [32])) = _
  rw [hj]
/-- The cells of a list of texts that is owned. -/
theorem cells_ownC {w : World} {L n : Nat} {v : Value} {xs ys : Nat → Int} (h : w.ownsRow L 9 1 v n ((cwsT xs ys n).map strV)) (hn : 0 < n) :
    ∃ g cap, v = .slice (some ⟨g, 0, none⟩) n cap ∧ g < w.heap.size ∧ n ≤ cap ∧ ∀ j, j < n → w.cell? ⟨g, j, none⟩ = some (strV (cwT xs ys j)) := by
  have hw := h
  obtain ⟨hl, h⟩ := h
  rcases h with ⟨_, h0⟩ | ⟨b, cap, cur, rfl, hb, hh, hn', hm, hs, ht⟩
  · omega
  · have hr : w.rowIs b 9 (cap * 1) (fun j => cur[j]?.getD undef) := ⟨cur, hh, hs, fun i hi => by simp only [Array.getElem?_eq_getElem (show i < cur.size by omega), Option.getD_some]⟩
    refine ⟨b, cap, rfl, (hw.lt b rfl).2, hn', fun j hj => ?_⟩
    rw [hr.cell (by omega)]
    have hg : ((cwsT xs ys n).map strV)[j]? = some (strV (cwT xs ys j)) := by
      unfold cwsT
      rw [List.getElem?_map, List.getElem?_map, List.getElem?_range hj]; rfl
    rw [← ht, List.getElem?_take, if_pos (by omega)] at hg
    rw [show cur[j]?.getD undef = cur.toList[j]?.getD undef by simp, hg]
    rfl

section
variable (b n cap : Nat) (xs ys : Nat → Int)
set_option maxRecDepth 100000 in
set_option maxHeartbeats 4000000 in
theorem CurveText_any (hn : n ≤ 1048576) (hs : SmallP n xs ys) (w : World) (hr : PtRow w b n xs ys) (hT : Tab10 w) :
    Calls Tryd.prog 7 #[.slice (some ⟨b, 0, none⟩) n cap] w fun e w' => e = .returned (strV (crvT n xs ys)) ∧ Below w.heap.size w w' := by
  have hlt := hr.lt
  have hk := fun W hW => ValidCurve_any b n cap xs ys hn hs W hW
  rcases h : validC n xs ys with _ | _
  · rw [crvT_no h]
    rw [h] at hk
    have Hk := Lib.hid hk; clear hk h
    go_enter Tryd.func7, Tryd.ntmps7
    go_wp2_with fail
    refine (Hk.out _ hr).mono ?_; rintro e w1 ⟨rfl, hb1⟩
    go_wp2_with fail
    go_ret
    exact ⟨rfl, hb1⟩
  rw [crvT_yes h]
  rw [h] at hk
  obtain ⟨c, hn12⟩ := validC_crv h
  have hpos := c.pos
  obtain ⟨i0, hi, hz0, hz1, hz2⟩ := info_parts strInfo
  have hmk : ∀ W, (Instr.makeSlice 36 (.int .i64 0) (.int .i64 (n : Int))).run Tryd.prog W = .ok (.slice (some ⟨W.heap.size, 0, none⟩) 0 n) (W.alloc (.cells (madeCells #[.string ⟨#[]⟩] n) 9)) := fun W => by
    have h := run_make_rowN (P := Tryd.prog) 36 9 i0 (.string ⟨#[]⟩) Tryd.underlying36 hi hz0 .i64 .i64 0 n (Nat.zero_le _) (by rw [hz2]; omega) (by omega) W
    rw [hz1, Nat.mul_one] at h
    exact h
  have hjn := fun bk cp W h1 h2 h3 => joinC_any bk cp n xs ys W h1 h2 (by omega) h3 (by have := ctxT_len c n (Nat.le_refl _); omega)
  have Hj := Lib.hid hjn; clear hjn
  have Hk := Lib.hid hk; clear hk h
  have Hc := Lib.hid c; clear c
  have HT := Lib.hid hT; clear hT
  go_enter Tryd.func7, Tryd.ntmps7
  go_wp2_with fail
  refine (Hk.out _ hr).mono ?_; rintro e w1 ⟨rfl, hb1⟩
  have o1 := World.ownsRow_made (e := 9) (size := 1) (base := w.heap.size) w1 (madeCells #[.string ⟨#[]⟩] n) n hb1.size (by unfold maxLen; omega) (by rw [size_madeCells, Nat.mul_one])
  have k1 := hb1.alloc hb1.size (.cells (madeCells #[.string ⟨#[]⟩] n) 9)
  go_wp2_with fail
  generalize w1.alloc (.cells (madeCells #[.string ⟨#[]⟩] n) 9) = W1 at *
  go_loopw [3, 14] (fun v i wr => ∃ k : Nat, k ≤ n ∧ i = .int .i64 k ∧ wr.ownsRow w.heap.size 9 1 v k ((cwsT xs ys k).map strV) ∧ Below w.heap.size w wr) (fun _ i _ => n - (intOf i).toNat)
  case atStart => exact ⟨0, Nat.zero_le _, rfl, o1, k1⟩
  case round =>
    clear o1 k1 hmk
    obtain ⟨k, hk, rfl, hown, hB⟩ := hrel
    by_cases hkn : k < n
    rotate_left
    · obtain rfl : k = n := by omega
      obtain ⟨g, cp, rfl, hg, hcp, hcl⟩ := cells_ownC hown hpos
      go_wp2_with fail
      refine (Hj.out _ _ _ hcl hg hcp).mono ?_; rintro e w2 ⟨rfl, hb2⟩
      go_wp2_with fail
      go_ret
      exact ⟨rfl, hB.trans (hb2.mono hB.size)⟩
    have hrk := hr.below hB hlt
    have c0 := hrk.cell0 hkn
    have c1 := hrk.cell1 hkn
    have hsc := Hc.out.scale k hkn
    have l1 := sgT_len (x := xs k) (by omega) (by omega)
    have l2 := sgT_len (x := ys k) (by omega) (by omega)
    have hcw : (cwsT xs ys (k + 1)).map strV = (cwsT xs ys k).map strV ++ [strV (sgT (xs k) ++ 58 :: sgT (ys k))] := by
      rw [cwsT_succ, List.map_append, sgT_pos (x := ys k) (by omega)]; rfl
    have q1 := fun W (hW : Below wr.heap.size wr W) => itoaC_any (xs k) (by omega) (by omega) W (HT.out.below (hB.trans (hW.mono hB.size)) (Nat.le_refl _))
    have q2 := fun W (hW : Below wr.heap.size wr W) => itoaC_any (ys k) (by omega) (by omega) W (HT.out.below (hB.trans (hW.mono hB.size)) (Nat.le_refl _))
    generalize sgT (xs k) = u1 at *
    generalize sgT (ys k) = u2 at *
    have e1 : IntKind.i64.wrap (xs k) = xs k := IntWalk.i64_in _ (by omega)
    have e2 : IntKind.i64.wrap (ys k) = ys k := IntWalk.i64_in _ (by omega)
    generalize hX : xs k = X at *
    generalize hY : ys k = Y at *
    clear hX hY
    have Q1 := Lib.hid q1; clear q1
    have Q2 := Lib.hid q2; clear q2
    have Hcw := Lib.hid hcw; clear hcw
    have w3 : (k : Int) < n := by omega
    have a1 := fun W => run_string_add_lists (P := Tryd.prog) W u1 [58] (by omega) (by simp)
    have a2 := fun W => run_string_add_lists (P := Tryd.prog) W (u1 ++ [58]) u2 (by simp; omega) (by omega)
    have hzr := hB.size
    have ag := own_neC hown (Nat.le_refl wr.heap.size)
    have hownV := hown.alloc (.cells #[.int .i16 X, .int .i16 Y] 33)
    have kV := (Below.refl wr.heap.size wr).alloc (Nat.le_refl _) (.cells #[.int .i16 X, .int .i16 Y] 33)
    have p0 : (wr.alloc (.cells #[.int .i16 X, .int .i16 Y] 33)).cell? ⟨wr.heap.size, 0, none⟩ = some (.int .i16 X) := by simp
    have p1 : (wr.alloc (.cells #[.int .i16 X, .int .i16 Y] 33)).cell? ⟨wr.heap.size, 1, none⟩ = some (.int .i16 Y) := by simp
    have zV : (wr.alloc (.cells #[.int .i16 X, .int .i16 Y] 33)).heap.size = wr.heap.size + 1 := by simp
    have hmx : k + 1 ≤ maxLen := by unfold maxLen; omega
    have hbt : (k + 1) * 16 ≤ 140737488355328 := by omega
    go_wp2_with fail
    go_region_held3 (fun w' => w'.cell? ⟨wr.heap.size, 0, none⟩ = some (.int .i16 X) ∧ w'.cell? ⟨wr.heap.size, 1, none⟩ = some (.int .i16 Y))
      (first
        | go_keep
        | assumption
        | (go_split_ands
           refine ⟨?_, ?_⟩
           · (rw [hgrow.cell_far _ (by have := kk2.size; simp; omega) (Ne.symm ag)]; assumption)
           · (rw [hgrow.cell_far _ (by have := kk2.size; simp; omega) (Ne.symm ag)]; assumption)))
      (first
        | (go_at_call 13; ((with_reducible refine (Q1.out _ ?_).mono ?_); (exact kV.drew); rintro e v1 ⟨rfl, hb1'⟩; have kk1 := kV.drew.trans (hb1'.mono (by simp)); have s1 := keep2C hb1' (by assumption) (by simp)))
        | (go_at_call 13; ((with_reducible refine (Q2.out _ ?_).mono ?_); (exact kk1); rintro e v2 ⟨rfl, hb2'⟩; have kk2 := kk1.trans (hb2'.mono kk1.size); have s2 := keep2C hb2' (by assumption) (by have := hb1'.size; simp at this; omega)))
        | (refine step_append_lies _ (by rfl) _ _ _ (by rfl) w.heap.size 9 i0 _ 1 16 Tryd.underlying36 hi hz0 hz1 hz2 rfl (by decide) _ k ((cwsT xs ys k).map strV) (by rfl) ((own_belowC hown kk2).alloc _)
              ⟨v2.heap.size, 0, none⟩ 1 1 [strV (u1 ++ 58 :: u2)] (by rfl) (by rfl) (World.news_of_block (cs := #[strV (u1 ++ 58 :: u2)]) (t := 9) (fr := (0, 0)) (heap_alloc_new v2 _)) (by simp [Value.oneCell'])
              (by omega) hmx hbt (by have := kk2.size; simp; omega) (v2.heap.size + 1) (by simp) ?_; intro gg cq w5 hown2 hgrow hat hlt5))
    have hB2 := hB.trans (kk2.mono hzr)
    have hB5 : Below w.heap.size w w5 := (hB2.alloc hB2.size _).grown hgrow (by have := hB2.size; simp; omega) (fun x hx => (hown.lt x hx).1)
    have hown5 : w5.ownsRow w.heap.size 9 1 (.slice (some ⟨gg, 0, none⟩) (k + 1) cq) (k + 1) ((cwsT xs ys (k + 1)).map strV) := by rw [Hcw.out]; exact hown2
    clear hown hown2 hgrow hB hrk hat
    go_wp2_with fail
    go_roundw
    case rel => exact ⟨k + 1, by omega, by go_num, hown5, hB5⟩
    case measure => simp [intOf]; omega

theorem specCurveText_ex (b0 n0 c0 : Nat) (xs ys : Nat → Int) (hn : n0 ≤ 1048576) (hs : SmallP n0 xs ys) (w : World) (hr : PtRow w b0 n0 xs ys) :
    Calls Tryd.prog 5 #[.slice (some ⟨b0, 0, none⟩) n0 c0] w fun e w' => e = .returned (strV (crvT n0 xs ys)) ∧ Below w.heap.size w w' := specCurveText_any b0 n0 c0 xs ys hn hs w hr
theorem CurveText_ex (b0 n0 c0 : Nat) (xs ys : Nat → Int) (hn : n0 ≤ 1048576) (hs : SmallP n0 xs ys) (w : World) (hr : PtRow w b0 n0 xs ys) (hT : Tab10 w) :
    Calls Tryd.prog 7 #[.slice (some ⟨b0, 0, none⟩) n0 c0] w fun e w' => e = .returned (strV (crvT n0 xs ys)) ∧ Below w.heap.size w w' := CurveText_any b0 n0 c0 xs ys hn hs w hr hT
end
end Go.Proofs.YtalpgamhiofeeaaDoor
