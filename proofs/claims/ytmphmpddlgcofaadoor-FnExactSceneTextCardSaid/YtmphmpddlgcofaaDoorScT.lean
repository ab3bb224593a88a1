/-
  The text of a scene: plain, by the reference, and a row of it by the program. No condition.
-/
import Derived.Test.YtmphmpddlgcofaaDoorTexts
import Derived.Test.YtmphmpddlgcofaaDoorScn
import Derived.Test.YtmphmpddlgcofaaDoorOwn
import Derived.Test.YtmphmpddlgcofaaDoorShelfD
import Derived.Maps.AppendAt
import Derived.Lib.Join
import Derived.Test.YtmphmpddlgcofaaDoorInts
namespace Go.Proofs.YtmphmpddlgcofaaDoor
open Go.RowKit

/-! ### PLAIN -/
theorem decN_decT (n : Nat) : Lib.decDigits n = decN n := by
  induction n using Nat.strongRecOn with
  | _ n ih =>
    by_cases h : n < 10
    · rw [decN_lo h, Lib.decDigits, dif_pos h]
    · rw [decN_hi (by omega), Lib.decDigits, dif_neg h, ih (n / 10) (by omega)]
theorem join_snocT (sep : List UInt8) (l : List (List UInt8)) (x : List UInt8) (h : l ≠ []) : Lib.join (l ++ [x]) sep = Lib.join l sep ++ sep ++ x := by
  cases l with
  | nil => exact absurd rfl h
  | cons a r =>
    rw [List.cons_append, Lib.join_cons, Lib.join_cons]
    simp [Lib.joinTail, List.append_assoc]
/-- The first k words, joined. -/
def joT (W : Nat → List UInt8) (s : UInt8) (k : Nat) : List UInt8 := Lib.join ((List.range k).map W) [s]
theorem joT_zero (W : Nat → List UInt8) (s : UInt8) : joT W s 0 = [] := rfl
theorem joT_one (W : Nat → List UInt8) (s : UInt8) : joT W s 1 = W 0 := by
  unfold joT
  rw [List.range_succ]
  simp [Lib.join_one]
theorem joT_succ (W : Nat → List UInt8) (s : UInt8) {k : Nat} (h : 0 < k) : joT W s (k + 1) = joT W s k ++ s :: W k := by
  unfold joT
  rw [List.range_succ, List.map_append, List.map_cons, List.map_nil, join_snocT _ _ _ (fun e => by have := congrArg List.length e; simp at this; omega)]
  simp
theorem joT_len {W : Nat → List UInt8} {s : UInt8} {m N : Nat} (hW : ∀ j, j < N → (W j).length ≤ m) : ∀ k, k ≤ N → (joT W s k).length ≤ (m + 1) * k
  | 0, _ => by simp [joT_zero]
  | k + 1, hk => by
    have h1 := hW k (by omega)
    have h2 := joT_len (s := s) hW k (by omega)
    rw [Nat.mul_succ]
    by_cases h : k = 0
    · subst h; rw [joT_one]; omega
    · rw [joT_succ _ _ (by omega)]; simp; omega
/-- The text of the first k cells of a scene. -/
def txS (W : Nat → List UInt8) : Nat → List UInt8
  | 0 => []
  | k + 1 => if k = 0 then W 0 else if k % 6 = 0 then txS W k ++ 47 :: W k else txS W k ++ 32 :: W k
theorem txS_len {W : Nat → List UInt8} (hW : ∀ j, j < 24 → (W j).length ≤ 19) : ∀ k, k ≤ 24 → (txS W k).length ≤ 20 * k
  | 0, _ => by simp [txS]
  | k + 1, hk => by
    have h1 := hW k (by omega)
    have h2 := txS_len hW k (by omega)
    rw [txS]
    split
    · subst_vars; omega
    · split
      · simp; omega
      · simp; omega
def rowW (W : Nat → List UInt8) (r : Nat) : List UInt8 := joT (fun j => W (6 * r + j)) 32 6
theorem rows_txS (W : Nat → List UInt8) : joT (rowW W) 47 4 = txS W 24 := by
  have e6 : ∀ r, rowW W r = W (6 * r) ++ 32 :: (W (6 * r + 1) ++ 32 :: (W (6 * r + 2) ++ 32 :: (W (6 * r + 3) ++ 32 :: (W (6 * r + 4) ++ 32 :: W (6 * r + 5))))) := fun r => by
    unfold rowW
    rw [joT_succ _ _ (by omega), joT_succ _ _ (by omega), joT_succ _ _ (by omega), joT_succ _ _ (by omega), joT_succ _ _ (by omega), joT_one]
    simp
  rw [joT_succ _ _ (by omega), joT_succ _ _ (by omega), joT_succ _ _ (by omega), joT_one, e6, e6, e6, e6]
  simp [txS]
def wdS (f : Nat → Int) (k : Nat) : List UInt8 := decI (f k)
theorem wdS_len {f : Nat → Int} (h : scnB f = true) : ∀ j, j < 24 → (wdS f j).length ≤ 19 := fun j hj => by
  have := scnB_bd h hj
  exact decN_le _ (by omega)
/-- The text of a scene; none if it is not valid. -/
def scT (f : Nat → Int) : List UInt8 := if scnB f = true then txS (wdS f) 24 else []
theorem scT_no {f : Nat → Int} (h : scnB f = false) : scT f = [] := by simp [scT, h]
theorem scT_yes {f : Nat → Int} (h : scnB f = true) : scT f = txS (wdS f) 24 := by simp [scT, h]

/-! ### THE REFERENCE -/
theorem decT_any (n : Int) (h0 : 0 ≤ n) (h1 : n < 9223372036854775808) (w : World) :
    Calls Tryd.prog 103 #[.int .i64 n] w fun e w' => e = .returned (strV (decI n)) ∧ Below w.heap.size w w' := by
  obtain ⟨m, rfl⟩ := Int.eq_ofNat_of_zero_le h0
  exact decimal_any m (by omega) w

set_option maxRecDepth 100000 in
set_option maxHeartbeats 2000000 in
theorem l06Text_any (b : Nat) (T : TypeId) (f : Nat → Int) (hv : scnB f = true) (w : World) (h : HasArr w b T .i8 24 f) :
    Calls Tryd.prog 58 #[.pointer (some ⟨b, 0, none⟩)] w fun e w' => e = .returned (strV (txS (wdS f) 24)) ∧ Below w.heap.size w w' := by
  have hl := txS_len (wdS_len hv)
  have hw := wdS_len hv
  have HL := Lib.hid hl; clear hl
  have HW := Lib.hid hw; clear hw
  have HV := Lib.hid hv; clear hv
  go_enter Tryd.func58, Tryd.ntmps58
  go_wp2_with fail
  go_loopw [3, 4] (fun tv iv wr => ∃ k : Nat, k ≤ 24 ∧ iv = .int .i64 k ∧ tv = strV (txS (wdS f) k) ∧ Below w.heap.size w wr) (fun _ iv _ => 24 - (intOf iv).toNat)
  case atStart => exact ⟨0, Nat.zero_le _, rfl, rfl, Below.refl _ _⟩
  case round =>
    obtain ⟨k, hk, rfl, rfl, hB⟩ := hrel
    by_cases hkn : k < 24
    rotate_left
    · obtain rfl : k = 24 := by omega
      go_wp2_with fail
      go_ret
      exact ⟨rfl, hB⟩
    have c0 := (h.below hB h.lt).cell hkn
    have hbd := scnB_bd HV.out hkn
    have l1 := HL.out k hk
    have l2 := HW.out k hkn
    have hd := fun W => decT_any (f k) (by omega) (by omega) W
    have hnx : txS (wdS f) (k + 1) = (if k = 0 then wdS f 0 else if k % 6 = 0 then txS (wdS f) k ++ 47 :: wdS f k else txS (wdS f) k ++ 32 :: wdS f k) := rfl
    have hwd : wdS f k = decI (f k) := rfl
    rw [← hwd] at hd
    have e1 : IntKind.i64.wrap (f k) = f k := IntWalk.i64_in _ (by omega)
    have hone : k = 0 → txS (wdS f) (k + 1) = txS (wdS f) k ++ wdS f k := fun e => by subst e; rfl
    have hrow : k ≠ 0 → k % 6 = 0 → txS (wdS f) (k + 1) = txS (wdS f) k ++ 47 :: wdS f k := fun e e' => by rw [hnx, if_neg e, if_pos e']
    have hcel : k ≠ 0 → k % 6 ≠ 0 → txS (wdS f) (k + 1) = txS (wdS f) k ++ 32 :: wdS f k := fun e e' => by rw [hnx, if_neg e, if_neg e']
    clear hnx hwd
    generalize txS (wdS f) k = t at *
    generalize wdS f k = u at *
    generalize f k = X at *
    have Hd := Lib.hid hd; clear hd
    have a0 := fun W => run_string_add_lists (P := Tryd.prog) W t [47] (by omega) (by simp)
    have a1 := fun W => run_string_add_lists (P := Tryd.prog) W t [32] (by omega) (by simp)
    have a2 := fun W => run_string_add_lists (P := Tryd.prog) W t u (by omega) (by omega)
    have a3 := fun W => run_string_add_lists (P := Tryd.prog) W (t ++ [47]) u (by simp; omega) (by omega)
    have a4 := fun W => run_string_add_lists (P := Tryd.prog) W (t ++ [32]) u (by simp; omega) (by omega)
    have hm : Int.tmod (k : Int) 6 = ((k % 6 : Nat) : Int) := by rw [Int.tmod_eq_emod_of_nonneg (by omega)]; omega
    by_cases h0 : k = 0
    · have hx := hone h0
      have Hx := Lib.hid hx; clear hx hone hrow hcel hm a0 a1 a3 a4
      subst h0
      go_wp2_with fail
      refine (Hd.out _).mono ?_; rintro e w2 ⟨rfl, hb2⟩
      have k2 := hB.trans (hb2.mono hB.size)
      go_wp2_with fail
      go_roundw
      case rel => exact ⟨0 + 1, by omega, by go_num, by rw [Hx.out], k2⟩
      case measure => simp [intOf]
    · have hk0 : 0 < (k : Int) := by omega
      by_cases h6 : k % 6 = 0
      · have hx := hrow h0 h6
        rw [h6] at hm
        have Hx := Lib.hid hx; clear hx hone hrow hcel a1 a2 a4
        clear h0 h6
        go_wp2_with fail
        refine (Hd.out _).mono ?_; rintro e w2 ⟨rfl, hb2⟩
        have k2 := hB.trans (hb2.mono hB.size)
        go_wp2_with fail
        go_roundw
        case rel => exact ⟨k + 1, by omega, by go_num, by rw [Hx.out], k2⟩
        case measure => simp [intOf]; omega
      · have hx := hcel h0 h6
        have Hx := Lib.hid hx; clear hx hone hrow hcel a0 a2 a3
        have hr6 : 0 < ((k % 6 : Nat) : Int) := by omega
        generalize ((k % 6 : Nat) : Int) = r6 at *
        clear h0 h6
        go_wp2_with fail
        refine (Hd.out _).mono ?_; rintro e w2 ⟨rfl, hb2⟩
        have k2 := hB.trans (hb2.mono hB.size)
        go_wp2_with fail
        go_roundw
        case rel => exact ⟨k + 1, by omega, by go_num, by rw [Hx.out], k2⟩
        case measure => simp [intOf]; omega

set_option maxHeartbeats 1000000 in
theorem specSceneText_any (f : Nat → Int) (hf : S8 f) (w : World) :
    Calls Tryd.prog 19 #[.agg (arrV .i8 24 f)] w fun e w' => e = .returned (strV (scT f)) ∧ Below w.heap.size w w' := by
  have a1 := HasArr.new w 28 .i8 24 f
  have k0 := (Below.refl w.heap.size w).alloc (Nat.le_refl _) (.cells (arrV .i8 24 f) 28)
  have hok := l06Ok_any w.heap.size 28 f hf _ a1
  rcases hv : scnB f with _ | _
  · rw [scT_no hv]
    rw [hv] at hok
    have Hok := Lib.hid hok; clear hok hv
    go_enter Tryd.func19, Tryd.ntmps19
    go_wp2_with fail
    refine Hok.out.mono ?_; rintro e w1 ⟨rfl, rfl⟩
    go_wp2_with fail
    go_ret
    exact ⟨rfl, k0⟩
  · rw [scT_yes hv]
    rw [hv] at hok
    have ht := l06Text_any w.heap.size 28 f hv _ a1
    generalize txS (wdS f) 24 = t at *
    have Hok := Lib.hid hok; clear hok hv
    have Ht := Lib.hid ht; clear ht
    go_enter Tryd.func19, Tryd.ntmps19
    go_wp2_with fail
    refine Hok.out.mono ?_; rintro e w1 ⟨rfl, rfl⟩
    go_wp2_with fail
    refine Ht.out.mono ?_; rintro e w1 ⟨rfl, hb1⟩
    go_wp2_with fail
    go_ret
    exact ⟨rfl, k0.trans (hb1.mono k0.size)⟩

/-! ### THE PROGRAM -/
theorem decimalI_any (x : Int) (h0 : 0 ≤ x) (h1 : x ≤ 60) (w : World) :
    Calls Tryd.prog 105 #[.int .i64 x] w fun e w' => e = .returned (strV (decI x)) ∧ w = w' := by
  obtain ⟨m, rfl⟩ := Int.eq_ofNat_of_zero_le h0
  have hk := shStrconv_FormatInt_10_small m (by omega)
  rw [decN_decT] at hk
  have hd : decI (m : Int) = decN m := rfl
  rw [hd]
  generalize decN m = u at *
  have Hk := Lib.hid hk; clear hk hd
  go_enter Tryd.func105, Tryd.ntmps105
  go_wp2_with fail
  refine (Hk.out _).mono ?_; rintro e w1 ⟨rfl, rfl⟩
  go_wp2_with fail
  go_ret
  exact ⟨rfl, rfl⟩
theorem strInfoT : (Tryd.prog.info? 9).map (fun i => (i.zero, i.size, i.bytes)) = some (some (.string ⟨#[]⟩), 1, 16) := by kernel_rfl
/-- Words, joined by the library. -/
theorem joinT_any (bk c n : Nat) (W : Nat → List UInt8) (s : UInt8) (w : World) (hcells : ∀ j, j < n → w.cell? ⟨bk, j, none⟩ = some (strV (W j))) (hbk : bk < w.heap.size) (hn : n ≤ 1000) (hcap : n ≤ c) (hlen : (joT W s n).length ≤ 1000000) :
    Calls Tryd.prog 62 #[.slice (some ⟨bk, 0, none⟩) n c, .string ⟨#[s]⟩] w fun e w' => e = .returned (strV (joT W s n)) ∧ Below w.heap.size w w' := by
  have hl : (((List.range n).map W).map (fun l => (⟨l.toArray⟩ : ByteArray))).length = n := by simp
  have hd : (((List.range n).map W).map (fun l => (⟨l.toArray⟩ : ByteArray))).map (·.data.toList) = (List.range n).map W := by
    rw [List.map_map]
    exact (List.map_congr_left fun _ _ => rfl).trans (List.map_id _)
  have h := shStrings_Join bk 0 c (((List.range n).map W).map (fun l => (⟨l.toArray⟩ : ByteArray))) ⟨#[s]⟩ w (fun j x hx => by
    rw [List.getElem?_map, List.getElem?_map] at hx
    by_cases hjn : j < n
    · rw [List.getElem?_range hjn] at hx
      simp only [Option.map_some, Option.some.injEq] at hx
      rw [Nat.zero_add, hcells j hjn, ← hx]
    · rw [List.getElem?_eq_none (by simp; omega)] at hx
      simp at hx) hbk (by rw [hl]; omega) (by rw [hl]; exact hcap) (by
        rw [hd]
        show (joT W s n).length ≤ _
        omega)
  rw [hl, hd] at h
  exact h
/-- The cells of a list of texts that is owned. -/
theorem cells_ownT {w : World} {L n : Nat} {v : Value} {W : Nat → List UInt8} (h : w.ownsRow L 9 1 v n ((List.range n).map fun j => strV (W j))) (hn : 0 < n) :
    ∃ g cap, v = .slice (some ⟨g, 0, none⟩) n cap ∧ g < w.heap.size ∧ n ≤ cap ∧ ∀ j, j < n → w.cell? ⟨g, j, none⟩ = some (strV (W j)) := by
  have hw := h
  obtain ⟨hl, h⟩ := h
  rcases h with ⟨_, h0⟩ | ⟨b, cap, cur, rfl, hb, hh, hn', hm, hs, ht⟩
  · omega
  · have hr : w.rowIs b 9 (cap * 1) (fun j => cur[j]?.getD undef) := ⟨cur, hh, hs, fun i hi => by simp only [Array.getElem?_eq_getElem (show i < cur.size by omega), Option.getD_some]⟩
    refine ⟨b, cap, rfl, (hw.lt b rfl).2, hn', fun j hj => ?_⟩
    rw [hr.cell (by omega)]
    have hg : ((List.range n).map fun j => strV (W j))[j]? = some (strV (W j)) := by
      rw [List.getElem?_map, List.getElem?_range hj]; rfl
    rw [← ht, List.getElem?_take, if_pos (by omega)] at hg
    rw [show cur[j]?.getD undef = cur.toList[j]?.getD undef by simp, hg]
    rfl

set_option maxRecDepth 100000 in
set_option maxHeartbeats 2000000 in
theorem rowText_any (bk o c : Nat) (g : Nat → Int) (hg : ∀ j, j < 6 → 0 ≤ g j ∧ g j ≤ 60) (w : World) (hc : ∀ j, j < 6 → w.cell? ⟨bk, o + j, none⟩ = some (.int .i8 (g j))) (hlt : bk < w.heap.size) :
    Calls Tryd.prog 61 #[.slice (some ⟨bk, o, none⟩) 6 c] w fun e w' => e = .returned (strV (joT (fun j => decI (g j)) 32 6)) ∧ Below w.heap.size w w' := by
  obtain ⟨i0, hi, hz0, hz1, hz2⟩ := info_parts strInfoT
  have hlen : (joT (fun j => decI (g j)) 32 6).length ≤ 1000000 := by
    have := joT_len (W := fun j => decI (g j)) (s := 32) (m := 19) (N := 6) (fun j hj => by have := hg j hj; exact decN_le _ (by omega)) 6 (Nat.le_refl _)
    omega
  have hjn := fun bk cp W h1 h2 h3 => joinT_any bk cp 6 (fun j => decI (g j)) 32 W h1 h2 (by omega) h3 hlen
  generalize joT (fun j => decI (g j)) 32 6 = R at *
  have Hj := Lib.hid hjn; clear hjn hlen
  have hmk : ∀ W, (Instr.makeSlice 95 (.int .i64 0) (.int .i64 6)).run Tryd.prog W = .ok (.slice (some ⟨W.heap.size, 0, none⟩) 0 6) (W.alloc (.cells (madeCells #[.string ⟨#[]⟩] 6) 9)) := fun W => by
    have h := run_make_rowN (P := Tryd.prog) 95 9 i0 (.string ⟨#[]⟩) Tryd.underlying95 hi hz0 .i64 .i64 0 6 (Nat.zero_le _) (by rw [hz2]; omega) (by omega) W
    rw [hz1, Nat.mul_one] at h
    exact h
  have o1 := World.ownsRow_made (e := 9) (size := 1) (base := w.heap.size) w (madeCells #[.string ⟨#[]⟩] 6) 6 (Nat.le_refl _) (by unfold maxLen; omega) (by rw [size_madeCells, Nat.mul_one])
  have k1 := (Below.refl w.heap.size w).alloc (Nat.le_refl _) (.cells (madeCells #[.string ⟨#[]⟩] 6) 9)
  have Hc := Lib.hid hc; clear hc
  have Hg := Lib.hid hg; clear hg
  go_enter Tryd.func61, Tryd.ntmps61
  go_wp2_with fail
  generalize w.alloc (.cells (madeCells #[.string ⟨#[]⟩] 6) 9) = W1 at *
  go_loopw [3, 11] (fun v i wr => ∃ k : Nat, k ≤ 6 ∧ i = .int .i64 k ∧ wr.ownsRow w.heap.size 9 1 v k ((List.range k).map fun j => strV (decI (g j))) ∧ Below w.heap.size w wr) (fun _ i _ => 6 - (intOf i).toNat)
  case atStart => exact ⟨0, Nat.zero_le _, rfl, o1, k1⟩
  case round =>
    clear o1 k1 hmk
    obtain ⟨k, hk, rfl, hown, hB⟩ := hrel
    by_cases hkn : k < 6
    rotate_left
    · obtain rfl : k = 6 := by omega
      obtain ⟨G, cp, rfl, hG, hcp, hcl⟩ := cells_ownT hown (by omega)
      go_wp2_with fail
      refine (Hj.out _ _ _ hcl hG hcp).mono ?_; rintro e w2 ⟨rfl, hb2⟩
      go_wp2_with fail
      go_ret
      exact ⟨rfl, hB.trans (hb2.mono hB.size)⟩
    have c0 : wr.cell? ⟨bk, o + k, none⟩ = some (.int .i8 (g k)) := by rw [hB.cell (p := ⟨bk, o + k, none⟩) hlt]; exact Hc.out k hkn
    have hgk := Hg.out k hkn
    have hd := fun W => decimalI_any (g k) hgk.1 hgk.2 W
    have hsn : (List.range (k + 1)).map (fun j => strV (decI (g j))) = (List.range k).map (fun j => strV (decI (g j))) ++ [strV (decI (g k))] := by
      rw [List.range_succ, List.map_append]; rfl
    have e1 : IntKind.i64.wrap (g k) = g k := IntWalk.i64_in _ (by omega)
    have hsz := hB.size
    generalize decI (g k) = u at *
    generalize g k = X at *
    have Hd := Lib.hid hd; clear hd
    have Hsn := Lib.hid hsn; clear hsn
    have w3 : (k : Int) < 6 := by omega
    go_wp2_with fail
    refine (Hd.out _).mono ?_; rintro e w1 ⟨rfl, rfl⟩
    go_wp2_with (at_builtin; refine wpList_append_own _ rfl _ _ 95 rfl w.heap.size 9 i0 (.string ⟨#[]⟩) 1 16 Tryd.underlying95 hi hz0 hz1 hz2 rfl (by decide) _ _ _ rfl (hown.alloc _) ⟨wr.heap.size, 0, none⟩ 1 1 [strV u] rfl rfl ?c1 ?c2 ?c3 ?c4 ?c5 ?_)
    case c1 =>
      intro j x hj
      match j, hj with
      | 0, hj => simp at hj; subst hj; simp [Addr.add, go_sem]
    case c2 => intro x hx; simp at hx; subst hx; rfl
    case c3 => unfold maxLen; omega
    case c4 => omega
    case c5 => simp; omega
    intro v' w2 hown2 hg2 _
    have hB2 : Below w.heap.size w w2 := (hB.alloc hsz _).grown hg2 (by simp; omega) (fun j hj => (hown.lt j hj).1)
    have hown3 : w2.ownsRow w.heap.size 9 1 v' (k + 1) ((List.range (k + 1)).map fun j => strV (decI (g j))) := by rw [Hsn.out]; exact hown2
    clear hown hown2 hg2 hB
    go_wp2
    go_roundw
    case rel => exact ⟨k + 1, by omega, by go_num, hown3, hB2⟩
    case measure => simp [intOf]; omega
end Go.Proofs.YtmphmpddlgcofaaDoor
