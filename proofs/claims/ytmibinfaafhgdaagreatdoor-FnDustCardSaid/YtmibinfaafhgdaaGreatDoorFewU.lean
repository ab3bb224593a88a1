/-
  The fewest copies that are enough, in plain numbers: sets by their number, what is clean in one of a set, the first of the shortest; the reference's comparing of two lists. No condition of ours.
-/
import Derived.Test.YtmibinfaafhgdaaGreatDoorBst
import Derived.Test.YtmibinfaafhgdaaGreatDoorSpotS
import Derived.Test.YtmibinfaafhgdaaGreatDoorIntX
namespace Go.Proofs.YtmibinfaafhgdaaGreatDoor
open Go.RowKit

/-! ### PLAIN -/
/-- The members below i of the t-th set. -/
def subI (t : Nat) : Nat → List Int
  | 0 => []
  | i + 1 => if t.testBit i = true then subI t i ++ [(i : Int)] else subI t i
theorem subI_yes {t i : Nat} (h : t.testBit i = true) : subI t (i + 1) = subI t i ++ [(i : Int)] := if_pos h
theorem subI_no {t i : Nat} (h : t.testBit i = false) : subI t (i + 1) = subI t i := if_neg (by rw [h]; decide)
theorem subI_len (t : Nat) : ∀ i, (subI t i).length ≤ i
  | 0 => Nat.le_refl _
  | i + 1 => by
    have := subI_len t i
    unfold subI
    split <;> simp <;> omega
def unS (c : Nat → BitVec 64) (t : Nat) : Nat → BitVec 64
  | 0 => 0#64
  | i + 1 => if t.testBit i = true then unS c t i ||| c i else unS c t i
theorem unS_yes {c : Nat → BitVec 64} {t i : Nat} (h : t.testBit i = true) : unS c t (i + 1) = unS c t i ||| c i := if_pos h
theorem unS_no {c : Nat → BitVec 64} {t i : Nat} (h : t.testBit i = false) : unS c t (i + 1) = unS c t i := if_neg (by rw [h]; decide)
def unA (c : Nat → BitVec 64) : Nat → BitVec 64
  | 0 => 0#64
  | i + 1 => unA c i ||| c i
def clL (c : Nat → BitVec 64) : Nat → List (BitVec 64)
  | 0 => []
  | i + 1 => clL c i ++ [c i]
theorem clL_len (c : Nat → BitVec 64) : ∀ i, (clL c i).length = i
  | 0 => rfl
  | i + 1 => by unfold clL; rw [List.length_append, clL_len c i]; rfl
theorem clL_get (c : Nat → BitVec 64) : ∀ i j, j < i → (clL c i).getD j 0#64 = c j
  | 0, j, h => by omega
  | i + 1, j, h => by
    unfold clL
    rw [List.getD_eq_getElem?_getD]
    by_cases e : j < i
    · rw [List.getElem?_append_left (by rw [clL_len]; exact e), ← List.getD_eq_getElem?_getD]; exact clL_get c i j e
    · obtain rfl : j = i := by omega
      rw [List.getElem?_append_right (by rw [clL_len]; omega), clL_len]; simp
/-- The first number in which two lists differ decides. -/
def lexL : List Int → List Int → Bool
  | a :: l, b :: r => if a = b then lexL l r else decide (a < b)
  | _, _ => false
def lexF (xs ys : Nat → Int) : Nat → Nat → Bool
  | 0, _ => false
  | d + 1, k => if xs k = ys k then lexF xs ys d (k + 1) else decide (xs k < ys k)
theorem lexL_F : ∀ (a b : List Int), a.length = b.length → ∀ (xs ys : Nat → Int) (k : Nat), (∀ j, j < a.length → xs (k + j) = a.getD j 0) → (∀ j, j < b.length → ys (k + j) = b.getD j 0) → lexF xs ys a.length k = lexL a b
  | [], [], _, _, _, _, _, _ => rfl
  | [], b :: r, h, _, _, _, _, _ => by cases h
  | a :: l, [], h, _, _, _, _, _ => by cases h
  | a :: l, b :: r, h, xs, ys, k, h1, h2 => by
    have e1 : xs k = a := h1 0 (by simp)
    have e2 : ys k = b := h2 0 (by simp)
    show (if xs k = ys k then lexF xs ys l.length (k + 1) else decide (xs k < ys k)) = if a = b then lexL l r else decide (a < b)
    rw [e1, e2, lexL_F l r (by simpa using h) xs ys (k + 1) (fun j hj => by
      have := h1 (j + 1) (by simpa using hj)
      rw [show k + 1 + j = k + (j + 1) by omega, this]; simp) (fun j hj => by
      have := h2 (j + 1) (by simpa using hj)
      rw [show k + 1 + j = k + (j + 1) by omega, this]; simp)]
/-- A shorter list, or one as long that comes first. -/
def beatL (a b : List Int) : Bool := decide (a.length < b.length) || (decide (a.length = b.length) && lexL a b)
theorem beatL_lt {a b : List Int} (h : a.length < b.length) : beatL a b = true := by simp [beatL, h]
theorem beatL_gt {a b : List Int} (h : b.length < a.length) : beatL a b = false := by
  have h1 : ¬ a.length < b.length := by omega
  have h2 : ¬ a.length = b.length := by omega
  simp [beatL, h1, h2]
theorem beatL_eq {a b : List Int} (h : a.length = b.length) : beatL a b = lexL a b := by
  have h1 : ¬ a.length < b.length := by omega
  simp [beatL, h]
/-- The best of the good sets from 1 to k. -/
def fewB (n : Nat) (ok : Nat → Bool) : Nat → Option (List Int)
  | 0 => none
  | k + 1 => if ok (k + 1) = true then (match fewB n ok k with
      | none => some (subI (k + 1) n)
      | some b => if beatL (subI (k + 1) n) b = true then some (subI (k + 1) n) else some b) else fewB n ok k
theorem fewB_no {n k : Nat} {ok : Nat → Bool} (h : ok (k + 1) = false) : fewB n ok (k + 1) = fewB n ok k := if_neg (by rw [h]; decide)
theorem fewB_first {n k : Nat} {ok : Nat → Bool} (h : ok (k + 1) = true) (h0 : fewB n ok k = none) : fewB n ok (k + 1) = some (subI (k + 1) n) := by
  show (if _ then _ else _) = _
  rw [if_pos h, h0]
theorem fewB_beat {n k : Nat} {ok : Nat → Bool} {b : List Int} (h : ok (k + 1) = true) (h0 : fewB n ok k = some b) (hb : beatL (subI (k + 1) n) b = true) : fewB n ok (k + 1) = some (subI (k + 1) n) := by
  show (if _ then _ else _) = _
  rw [if_pos h, h0]
  exact if_pos hb
theorem fewB_keep {n k : Nat} {ok : Nat → Bool} {b : List Int} (h : ok (k + 1) = true) (h0 : fewB n ok k = some b) (hb : beatL (subI (k + 1) n) b = false) : fewB n ok (k + 1) = some b := by
  show (if _ then _ else _) = _
  rw [if_pos h, h0]
  exact if_neg (by rw [hb]; decide)
theorem fewB_len {n : Nat} {ok : Nat → Bool} : ∀ {k : Nat} {b : List Int}, fewB n ok k = some b → b.length ≤ n
  | 0, b, h => by cases h
  | k + 1, b, h => by
    unfold fewB at h
    have hs := subI_len (k + 1) n
    split at h
    · cases h0 : fewB n ok k with
      | none => rw [h0] at h; cases h; exact hs
      | some b0 =>
        rw [h0] at h
        simp only at h
        split at h
        · cases h; exact hs
        · cases h; exact fewB_len h0
    · exact fewB_len h
/-- A set is good when all that is clean in a copy is clean in one of its. -/
def okB (c : Nat → BitVec 64) (n t : Nat) : Bool := decide (unS c t n = unA c n)
def cB (g : Nat → Nat → Int) (n : Nat) (x : Int) (i : Nat) : BitVec 64 := ~~~dBs g n x i
/-- What FewestCopies returns. -/
def fewL (n : Nat) (g : Nat → Nat → Int) (x : Int) : List Int := if copC n g x = 0 then (fewB n (okB (cB g n x) n) (2 ^ n - 1)).getD [] else []
theorem fewL_ok {n : Nat} {g : Nat → Nat → Int} {x : Int} (h : copC n g x = 0) : fewL n g x = (fewB n (okB (cB g n x) n) (2 ^ n - 1)).getD [] := if_pos h
theorem fewL_no {n : Nat} {g : Nat → Nat → Int} {x : Int} (h : copC n g x ≠ 0) : fewL n g x = [] := if_neg h

/-! ### OPERATIONS -/
section
variable {P : Program} {ρ : Operand → Value} {o : Oper} {w : World} {T T2 : TypeId} {x y : Operand} {κ : IntKind} {m k : Nat}
theorem run_shrI {t : Nat} (ho : o.op = .binOp .shr T x y T2) (hx : ρ x = .int .i64 (m : Int)) (hy : ρ y = .int κ (k : Int)) (hk : k < 64) (ht : m / 2 ^ k = t) :
    (execOp ρ o).run P w = .ok (.value (.int .i64 (t : Int))) w := by
  subst ht
  have h1 : ¬ (k : Int) < 0 := by omega
  have h2 : min k 64 = k := by omega
  unfold execOp
  simp [ho, hx, hy, binOp, Op.shift, h1, h2, IntKind.bits, eqGuard]
theorem run_shlI {t : Nat} (ho : o.op = .binOp .shl T x y T2) (hx : ρ x = .int .i64 1) (hy : ρ y = .int κ (k : Int)) (hk : k ≤ 8) (ht : 2 ^ k = t) :
    (execOp ρ o).run P w = .ok (.value (.int .i64 (t : Int))) w := by
  have h1 : ¬ (k : Int) < 0 := by omega
  have h2 : min k 64 = k := by omega
  have h3 : IntKind.i64.wrap ((2 : Int) ^ k) = (t : Int) := by
    have : k = 0 ∨ k = 1 ∨ k = 2 ∨ k = 3 ∨ k = 4 ∨ k = 5 ∨ k = 6 ∨ k = 7 ∨ k = 8 := by omega
    subst ht
    rcases this with rfl | rfl | rfl | rfl | rfl | rfl | rfl | rfl | rfl <;> rfl
  unfold execOp
  simp [ho, hx, hy, binOp, Op.shift, h1, h2, IntKind.bits, eqGuard, h3]
theorem and1_tab : (List.range 256).all (fun m => bits .and .i64 (m : Int) 1 == ((m % 2 : Nat) : Int)) = true := by kernel_rfl
theorem and1 {m : Nat} (h : m < 256) : bits .and .i64 (m : Int) 1 = ((m % 2 : Nat) : Int) := by
  have := List.all_eq_true.1 and1_tab m (List.mem_range.2 h)
  simpa using this
end
theorem notU_bvF (a : BitVec 64) : bits .xor .u64 IntKind.u64.max (bvI a) = bvI (~~~a) := by
  have h1 : BitVec.ofInt 64 IntKind.u64.max = BitVec.allOnes 64 := by decide
  have h2 : BitVec.ofInt 64 (bvI a) = a := by unfold bvI; rw [BitVec.ofInt_natCast]; simp
  have h3 : BitVec.allOnes 64 ^^^ a = ~~~a := BitVec.eq_of_getLsbD_eq fun i hi => by rw [BitVec.getLsbD_xor, BitVec.getLsbD_not, BitVec.getLsbD_allOnes]; simp [hi]
  show IntKind.u64.wrap ((BitVec.ofInt 64 IntKind.u64.max ^^^ BitVec.ofInt 64 (bvI a)).toNat : Int) = _
  rw [h1, h2, h3]
  exact wrap_bv (~~~a)
theorem bit_div (t i : Nat) : t.testBit i = decide (t / 2 ^ i % 2 = 1) := Nat.testBit_eq_decide_div_mod_eq

/-! ### LISTS -/
section
variable {ops : Array Oper} {rest : List Oper} {o : Oper} {a : Act} {Q : Exit → Act → World → Prop} {w : World}
theorem wpList_append_i64L (hgd : o.guard = none) (s x : Operand) (ho : o.op = .call { callee := .builtin .append, args := #[s, x], argTypes := #[37, 37] })
    {L n : Nat} {v : Value} {l : List Int} {y : Int} (hs : a.eval s = v) (hown : w.ownsRow L 2 1 v n (l.map (Value.int .i64))) (hx : a.eval x = .slice (some ⟨w.heap.size, 0, none⟩) 1 1) (hn : n ≤ 1000000) (hL : L ≤ w.heap.size)
    (h : ∀ v' w', w'.ownsRow L 2 1 v' (n + 1) ((l ++ [y]).map (Value.int .i64)) → Below L w w' → wpList Tryz.prog ops Q rest (a.put o.dst v') w') :
    wpList Tryz.prog ops Q (o :: rest) a (w.alloc (.cells #[.int .i64 y] 2)) := by
  obtain ⟨i0, hi, hz0, hz1, hz2⟩ := info_parts i64Info
  refine wpList_append_own_at _ hgd s x 37 ho L 2 i0 (.int .i64 0) 1 8 Tryz.underlying37 hi hz0 hz1 hz2 rfl (by decide) v n (l.map (Value.int .i64)) hs (hown.alloc _) ⟨w.heap.size, 0, none⟩ 1 1 [.int .i64 y] hx rfl (cell_one_new _ _ _) (by simp [Value.oneCell']) (by unfold maxLen; omega) (by omega) (by simp; omega) ?_
  intro v' w' h1 h2 _ _
  refine h v' w' ?_ ?_
  · rw [List.map_append]; exact h1
  · exact Below.grown (Below.refl _ _) (grownBy_allocS h2) hL (fun k hk => (hown.lt k hk).1)
end
theorem mask_cells {w : World} {L n : Nat} {v : Value} {l : List (BitVec 64)} (h : w.ownsRow L 32 1 v n (u64L l)) (hn : l.length = n) : ∃ A cap, v = .slice A n cap ∧ (n = 0 ∨ ∃ g, A = some ⟨g, 0, none⟩ ∧ g < w.heap.size ∧ ∀ j, j < n → w.cell? ⟨g, j, none⟩ = some (.int .u64 (bvI (l.getD j 0#64)))) := by
  obtain ⟨_, h⟩ := h
  rcases h with ⟨rfl, rfl⟩ | ⟨g, cap, cur, rfl, hb, hh, hn', hm, hs, ht⟩
  · exact ⟨none, 0, rfl, .inl rfl⟩
  · refine ⟨_, cap, rfl, .inr ⟨g, rfl, (Array.getElem?_eq_some_iff.1 hh).1, fun j hj => ?_⟩⟩
    rw [cell_of_row w g j cur 32 (0, 0) hh]
    have h1 : (u64L l)[j]? = some (.int .u64 (bvI (l.getD j 0#64))) := by
      have : j < l.length := by omega
      simp [u64L, this]
    rw [← ht, Nat.mul_one, List.getElem?_take, if_pos hj] at h1
    simpa using h1
/-- Value v is an own list of these numbers. -/
def OwnL (w : World) (L U : Nat) (v : Value) (l : List Int) : Prop := Mine w L U 2 1 v l.length (fun j => .int .i64 (l.getD j 0))
theorem OwnL.ints {w : World} {L U : Nat} {v : Value} {l : List Int} (h : OwnL w L U v l) : ∃ A c, v = .slice A l.length c ∧ IntsIn w A l.length (fun j => l.getD j 0) := by
  obtain ⟨A, c, rfl, h⟩ := h
  rcases h with h | ⟨b, m, f, rfl, h1, h2, h3, h4, h5⟩
  · exact ⟨A, c, rfl, .inl h⟩
  · refine ⟨_, c, rfl, .inr ⟨b, 0, rfl, h4.lt, fun j hj => ?_⟩⟩
    rw [Nat.zero_add, h4.cell (by omega), h5 j (by omega)]
theorem OwnL.of {w : World} {L n : Nat} {v : Value} {l : List Int} (h : w.ownsRow L 2 1 v n (l.map (Value.int .i64))) : OwnL w L w.heap.size v l := by
  have hl : l.length = n := by have := h.1; simpa using this
  subst hl
  exact Mine.of_ints h
theorem OwnL.nil (w : World) (L U : Nat) (A : Option Addr) (cap : Nat) : OwnL w L U (.slice A 0 cap) [] := Mine.nil _ _ _ _ _ _ _ _

set_option maxRecDepth 100000 in
set_option maxHeartbeats 2000000 in
theorem l07Before_any (A B : Option Addr) (m c c' : Nat) (xs ys : Nat → Int) (w : World) (h1 : IntsIn w A m xs) (h2 : IntsIn w B m ys) (hm : m ≤ 1048576) :
    Calls Tryz.prog 36 #[.slice A m c, .slice B m c'] w fun e w' => e = .returned (.bool (lexF xs ys m 0)) ∧ Below w.heap.size w w' := by
  have H1 := Lib.hid h1; have H2 := Lib.hid h2; clear h1 h2
  go_enter Tryz.func36, Tryz.ntmps36
  go_wp2_with fail
  go_loopw [5] (fun kv wr => ∃ k : Nat, k ≤ m ∧ kv = .int .i64 (k : Int) ∧ lexF xs ys m 0 = lexF xs ys (m - k) k ∧ Below w.heap.size w wr) (fun kv _ => m - (intOf kv).toNat)
  case atStart => exact ⟨0, Nat.zero_le _, rfl, rfl, Below.refl _ _⟩
  case round =>
    obtain ⟨k, hk, rfl, he, hB⟩ := hrel
    by_cases hkm : k < m
    · rcases H1.out.below hB (Nat.le_refl _) with h0 | ⟨b, o, rfl, hlt, hc⟩
      · exfalso; omega
      rcases H2.out.below hB (Nat.le_refl _) with h0 | ⟨b2, o2, rfl, hlt2, hc2⟩
      · exfalso; omega
      have ck := hc k hkm
      have ck2 := hc2 k hkm
      have hkm' : (k : Int) < m := by omega
      obtain ⟨d, hd⟩ : ∃ d, m - k = d + 1 := ⟨m - k - 1, by omega⟩
      rw [hd] at he
      have hx : lexF xs ys (d + 1) k = if xs k = ys k then lexF xs ys d (k + 1) else decide (xs k < ys k) := rfl
      rw [hx] at he
      have HB := Lib.hid hB; clear hx hB hc hc2
      by_cases hxy : xs k = ys k
      · rw [if_pos hxy] at he
        have HE2 := Lib.hid he; clear he
        rw [hxy] at ck
        clear hxy
        generalize ys k = Y at *
        have fD := fun (x : WIn (Below wr.heap.size wr)) => inCell ck x
        have fE := fun (x : WIn (Below wr.heap.size wr)) => inCell ck2 x
        have n0 := below_nonempty wr
        go_wp2_with fail
        refine wp_region_quietD (Below wr.heap.size wr) (by kernel_rfl) (by kernel_rfl) (below_drew1 _) ?_
        repeat (go_big_quiet_step (fail))
        refine wpQuiet_nil ?_
        rintro _ ⟨y1, rfl⟩
        have hy := Lib.hid (HB.out.trans (y1.ok.mono HB.out.size))
        generalize y1.w = w40 at *
        clear n0 fD fE
        go_wp2_with fail
        go_roundw
        case rel => exact ⟨k + 1, by omega, by go_num, by rw [HE2.out, show m - (k + 1) = d by omega], hy.out⟩
        case measure => simp [intOf]; omega
      · rw [if_neg hxy] at he
        have HE2 := Lib.hid he; clear he
        generalize xs k = X at *
        generalize ys k = Y at *
        have hxb : (X == Y) = false := beq_eq_false_iff_ne.2 hxy
        have fD := fun (x : WIn (Below wr.heap.size wr)) => inCell ck x
        have fE := fun (x : WIn (Below wr.heap.size wr)) => inCell ck2 x
        have n0 := below_nonempty wr
        go_wp2_with fail
        refine wp_region_quietD (Below wr.heap.size wr) (by kernel_rfl) (by kernel_rfl) (below_drew1 _) ?_
        repeat (go_big_quiet_step (fail))
        refine wpQuiet_nil ?_
        rintro _ ⟨y1, rfl⟩
        have hy := Lib.hid (HB.out.trans (y1.ok.mono HB.out.size))
        have ck3 := fD y1
        have ck4 := fE y1
        generalize y1.w = w40 at *
        clear n0 fD fE ck ck2
        have fD := fun (x : WIn (Below w40.heap.size w40)) => inCell ck3 x
        have fE := fun (x : WIn (Below w40.heap.size w40)) => inCell ck4 x
        have n0 := below_nonempty w40
        go_wp2_with fail
        refine wp_region_quiet_tail 9 (fun w' => ∃ x : WIn (Below w40.heap.size w40), w' = x.w) (by kernel_rfl) (by kernel_rfl) ⟨⟨_, below_drew1 _⟩, rfl⟩ ?_
        simp only [List.take_succ_cons, List.take_zero, List.drop_succ_cons, List.drop_zero]
        repeat (go_big_quiet_step (fail))
        refine wpQuiet_nil ?_
        rintro _ ⟨y2, rfl⟩
        have hy2 := Lib.hid (hy.out.trans (y2.ok.mono hy.out.size))
        generalize y2.w = w41 at *
        clear n0 fD fE
        go_wp2_with fail
        go_ret
        exact ⟨by rw [HE2.out]; rfl, hy2.out⟩
    · obtain rfl : k = m := by omega
      have he2 : lexF xs ys k 0 = false := by rw [he, Nat.sub_self]; rfl
      clear he
      go_wp2_with fail
      go_ret
      exact ⟨by rw [he2]; rfl, hB⟩
end Go.Proofs.YtmibinfaafhgdaaGreatDoor

namespace Go.Proofs.YtmibinfaafhgdaaGreatDoor
open Go.RowKit

/-! ### PLAIN -/
def cmpI (x y : Int) : Int := if x < y then -1 else if y < x then 1 else 0
theorem cmpI_lt {x y : Int} (h : x < y) : cmpI x y = -1 := if_pos h
theorem cmpI_gt {x y : Int} (h : y < x) : cmpI x y = 1 := by unfold cmpI; rw [if_neg (by omega), if_pos h]
theorem cmpI_eq (x : Int) : cmpI x x = 0 := by unfold cmpI; rw [if_neg (by omega), if_neg (by omega)]
/-- What slices.Compare returns of d further numbers behind k. -/
def cmpF (xs ys : Nat → Int) (m' : Nat) : Nat → Nat → Int
  | 0, k => if k < m' then -1 else 0
  | d + 1, k => if k < m' then (if xs k = ys k then cmpF xs ys m' d (k + 1) else cmpI (xs k) (ys k)) else 1
theorem cmpF_lex (xs ys : Nat → Int) (m' : Nat) : ∀ d k, k + d = m' → (cmpF xs ys m' d k < 0 ↔ lexF xs ys d k = true)
  | 0, k, h => by
    unfold cmpF lexF
    rw [if_neg (by omega)]; simp
  | d + 1, k, h => by
    unfold cmpF lexF
    rw [if_pos (by omega)]
    by_cases e : xs k = ys k
    · rw [if_pos e, if_pos e]; exact cmpF_lex xs ys m' d (k + 1) (by omega)
    · rw [if_neg e, if_neg e]
      by_cases l : xs k < ys k
      · rw [cmpI_lt l]; simp [l]
      · rw [cmpI_gt (by omega)]; simp [l]

/-! ### THE LIBRARY'S -/
set_option maxRecDepth 100000 in
theorem isNaNi_any (x : Int) (w : World) : Calls Tryz.prog 90 #[.int .i64 x] w fun e w' => e = .returned (.bool false) ∧ w = w' := by
  go_enter Tryz.func90, Tryz.ntmps90
  go_wp2_with fail
  go_ret
  exact ⟨rfl, rfl⟩
set_option maxRecDepth 100000 in
theorem isNaNl_any (x : Int) (w : World) : Calls Tryz.prog 94 #[.int .i64 x] w fun e w' => e = .returned (.bool false) ∧ w = w' := by
  go_enter Tryz.func94, Tryz.ntmps94
  go_wp2_with fail
  go_ret
  exact ⟨rfl, rfl⟩
set_option maxRecDepth 100000 in
theorem cmpInt_any (x y : Int) (w : World) : Calls Tryz.prog 82 #[.int .i64 x, .int .i64 y] w fun e w' => e = .returned (.int .i64 (cmpI x y)) ∧ w = w' := by
  rcases Int.lt_trichotomy x y with h | h | h
  · rw [cmpI_lt h]
    go_enter Tryz.func82, Tryz.ntmps82
    go_wp2_with fail
    refine (isNaNi_any x w).mono ?_; rintro e w' ⟨rfl, rfl⟩
    go_wp2_with fail
    refine (isNaNi_any y w).mono ?_; rintro e w' ⟨rfl, rfl⟩
    go_wp2_with fail
    go_ret
    exact ⟨rfl, rfl⟩
  · subst h
    rw [cmpI_eq]
    have h1 : ¬ x < x := by omega
    go_enter Tryz.func82, Tryz.ntmps82
    go_wp2_with fail
    refine (isNaNi_any x w).mono ?_; rintro e w' ⟨rfl, rfl⟩
    go_wp2_with fail
    refine (isNaNi_any x w).mono ?_; rintro e w' ⟨rfl, rfl⟩
    go_wp2_with fail
    go_ret
    exact ⟨rfl, rfl⟩
  · rw [cmpI_gt h]
    have h1 : ¬ x < y := by omega
    go_enter Tryz.func82, Tryz.ntmps82
    go_wp2_with fail
    refine (isNaNi_any x w).mono ?_; rintro e w' ⟨rfl, rfl⟩
    go_wp2_with fail
    refine (isNaNi_any y w).mono ?_; rintro e w' ⟨rfl, rfl⟩
    go_wp2_with fail
    go_ret
    exact ⟨rfl, rfl⟩
set_option maxRecDepth 100000 in
theorem cmpI64_any (x y : Int) (w : World) : Calls Tryz.prog 91 #[.int .i64 x, .int .i64 y] w fun e w' => e = .returned (.int .i64 (cmpI x y)) ∧ w = w' := by
  rcases Int.lt_trichotomy x y with h | h | h
  · rw [cmpI_lt h]
    go_enter Tryz.func91, Tryz.ntmps91
    go_wp2_with fail
    refine (isNaNl_any x w).mono ?_; rintro e w' ⟨rfl, rfl⟩
    go_wp2_with fail
    refine (isNaNl_any y w).mono ?_; rintro e w' ⟨rfl, rfl⟩
    go_wp2_with fail
    go_ret
    exact ⟨rfl, rfl⟩
  · subst h
    rw [cmpI_eq]
    have h1 : ¬ x < x := by omega
    go_enter Tryz.func91, Tryz.ntmps91
    go_wp2_with fail
    refine (isNaNl_any x w).mono ?_; rintro e w' ⟨rfl, rfl⟩
    go_wp2_with fail
    refine (isNaNl_any x w).mono ?_; rintro e w' ⟨rfl, rfl⟩
    go_wp2_with fail
    go_ret
    exact ⟨rfl, rfl⟩
  · rw [cmpI_gt h]
    have h1 : ¬ x < y := by omega
    go_enter Tryz.func91, Tryz.ntmps91
    go_wp2_with fail
    refine (isNaNl_any x w).mono ?_; rintro e w' ⟨rfl, rfl⟩
    go_wp2_with fail
    refine (isNaNl_any y w).mono ?_; rintro e w' ⟨rfl, rfl⟩
    go_wp2_with fail
    go_ret
    exact ⟨rfl, rfl⟩

set_option maxRecDepth 100000 in
set_option maxHeartbeats 2000000 in
theorem cmpOr_any (g : Nat) (a b : Int) (w : World) (h0 : w.cell? ⟨g, 0, none⟩ = some (.int .i64 a)) (h1 : w.cell? ⟨g, 1, none⟩ = some (.int .i64 b)) :
    Calls Tryz.prog 81 #[.slice (some ⟨g, 0, none⟩) 2 2] w fun e w' => e = .returned (.int .i64 (if a = 0 then b else a)) ∧ w = w' := by
  have hg : g < w.heap.size := World.block_lt_of_cell? w _ h0
  by_cases ha : a = 0
  · subst ha
    rw [if_pos rfl]
    by_cases hb : b = 0
    · subst hb
      go_enter Tryz.func81, Tryz.ntmps81
      go_wp2_with fail
      refine wp_loop_rounds 3 ?_
      rw [rounds_succ]
      go_wp2_with fail
      rw [rounds_succ]
      go_wp2_with fail
      rw [rounds_succ]
      go_wp2_with fail
      go_ret
      exact ⟨rfl, rfl⟩
    · go_enter Tryz.func81, Tryz.ntmps81
      go_wp2_with fail
      refine wp_loop_rounds 3 ?_
      rw [rounds_succ]
      go_wp2_with fail
      rw [rounds_succ]
      go_wp2_with fail
      go_ret
      exact ⟨rfl, rfl⟩
  · rw [if_neg ha]
    go_enter Tryz.func81, Tryz.ntmps81
    go_wp2_with fail
    refine wp_loop_rounds 3 ?_
    rw [rounds_succ]
    go_wp2_with fail
    go_ret
    exact ⟨rfl, rfl⟩

set_option maxRecDepth 100000 in
set_option maxHeartbeats 2000000 in
theorem sCompare_any (A B : Option Addr) (m m' c c' : Nat) (xs ys : Nat → Int) (w : World) (h1 : IntsIn w A m xs) (h2 : IntsIn w B m' ys) (hm : m ≤ 1048576) (hm' : m' ≤ 1048576) :
    Calls Tryz.prog 83 #[.slice A m c, .slice B m' c'] w fun e w' => e = .returned (.int .i64 (cmpF xs ys m' m 0)) ∧ w = w' := by
  have H1 := Lib.hid h1; have H2 := Lib.hid h2; clear h1 h2
  go_enter Tryz.func83, Tryz.ntmps83
  go_wp2_with fail
  go_loop [11] (fun kv => ∃ k : Nat, k ≤ m ∧ kv = .int .i64 (k : Int) ∧ cmpF xs ys m' m 0 = cmpF xs ys m' (m - k) k) (fun kv => m - (intOf kv).toNat)
  case atStart => exact ⟨0, Nat.zero_le _, rfl, rfl⟩
  case round =>
    obtain ⟨k, hk, rfl, he⟩ := hrel
    by_cases hkm : k < m
    · rcases H1.out with h0 | ⟨b, o, rfl, hlt, hc⟩
      · exfalso; omega
      have ck := hc k hkm
      have hkm' : (k : Int) < m := by omega
      obtain ⟨d, hd⟩ : ∃ d, m - k = d + 1 := ⟨m - k - 1, by omega⟩
      rw [hd] at he
      have hx : cmpF xs ys m' (d + 1) k = if k < m' then (if xs k = ys k then cmpF xs ys m' d (k + 1) else cmpI (xs k) (ys k)) else 1 := rfl
      rw [hx] at he
      clear hx hc
      by_cases hk2 : k < m'
      · rw [if_pos hk2] at he
        rcases H2.out with h0 | ⟨b2, o2, rfl, hlt2, hc2⟩
        · exfalso; omega
        have ck2 := hc2 k hk2
        have hk2' : (k : Int) < m' := by omega
        have hk2n : ¬ (m' : Int) ≤ k := by omega
        clear hc2
        have hcm := fun W => cmpI64_any (xs k) (ys k) W
        by_cases hxy : xs k = ys k
        · rw [if_pos hxy] at he
          rw [hxy, cmpI_eq] at hcm
          rw [hxy] at ck
          have HE := Lib.hid he; have Hcm := Lib.hid hcm; clear he hcm hxy
          generalize ys k = Y at *
          go_wp2_with fail
          refine (Hcm.out _).mono ?_; rintro e w' ⟨rfl, rfl⟩
          go_wp2_with fail
          go_round
          case rel => exact ⟨k + 1, by omega, by go_num, by rw [HE.out, show m - (k + 1) = d by omega]⟩
          case measure => simp [intOf]; omega
        · rw [if_neg hxy] at he
          have hz : ¬ cmpI (xs k) (ys k) = 0 := by unfold cmpI; split <;> (try split) <;> omega
          have hz2 : (cmpI (xs k) (ys k) == 0) = false := beq_eq_false_iff_ne.2 hz
          have HE := Lib.hid he; have Hcm := Lib.hid hcm; clear he hcm hxy
          generalize cmpI (xs k) (ys k) = Z at *
          generalize xs k = X at *
          generalize ys k = Y at *
          go_wp2_with fail
          refine (Hcm.out _).mono ?_; rintro e w' ⟨rfl, rfl⟩
          go_wp2_with fail
          go_ret
          exact ⟨by rw [HE.out]; rfl, rfl⟩
      · rw [if_neg hk2] at he
        have hk2' : ¬ (k : Int) < m' := by omega
        have hk2n : (m' : Int) ≤ k := by omega
        have HE := Lib.hid he; clear he
        generalize xs k = X at *
        go_wp2_with fail
        go_ret
        exact ⟨by rw [HE.out]; rfl, rfl⟩
    · obtain rfl : m = k := by omega
      have he2 : cmpF xs ys m' m 0 = if m < m' then -1 else 0 := by rw [he, Nat.sub_self]; rfl
      clear he
      by_cases hk2 : m < m'
      · rw [if_pos hk2] at he2
        have hk2' : (m : Int) < m' := by omega
        go_wp2_with fail
        go_ret
        exact ⟨rfl, rfl⟩
      · rw [if_neg hk2] at he2
        have hk2' : ¬ (m : Int) < m' := by omega
        go_wp2_with fail
        go_ret
        exact ⟨rfl, rfl⟩

set_option maxRecDepth 100000 in
set_option maxHeartbeats 2000000 in
theorem compareChoices_any (A B : Option Addr) (l r : List Int) (c c' : Nat) (w : World) (h1 : IntsIn w A l.length (fun j => l.getD j 0)) (h2 : IntsIn w B r.length (fun j => r.getD j 0)) (hm : l.length ≤ 1048576) (hm' : r.length ≤ 1048576) :
    Calls Tryz.prog 61 #[.slice A l.length c, .slice B r.length c'] w fun e w' => (∃ z, e = .returned (.int .i64 z) ∧ (z < 0 ↔ beatL l r = true)) ∧ Below w.heap.size w w' := by
  have hs := sCompare_any A B l.length r.length c c' _ _ w h1 h2 hm hm'
  have hlex : l.length = r.length → (cmpF (fun j => l.getD j 0) (fun j => r.getD j 0) r.length l.length 0 < 0 ↔ lexL l r = true) := fun e => by
    rw [cmpF_lex _ _ _ _ 0 (by omega), lexL_F l r e _ _ 0 (fun j _ => by show l.getD (0 + j) 0 = _; rw [Nat.zero_add]) (fun j _ => by show r.getD (0 + j) 0 = _; rw [Nat.zero_add])]
  have hz : ((if cmpI (l.length : Int) r.length = 0 then cmpF (fun j => l.getD j 0) (fun j => r.getD j 0) r.length l.length 0 else cmpI (l.length : Int) r.length) < 0 ↔ beatL l r = true) := by
    rcases Nat.lt_trichotomy l.length r.length with h | h | h
    · rw [cmpI_lt (by omega), beatL_lt h]; simp
    · rw [h, cmpI_eq, if_pos rfl, beatL_eq h, ← hlex h, h]
    · rw [cmpI_gt (by omega), beatL_gt h]; simp
  have hc := cmpInt_any (l.length : Int) r.length w
  have Hz := Lib.hid hz; have Hs := Lib.hid hs; have Hc := Lib.hid hc
  clear hz hs hc hlex h1 h2
  generalize cmpF (fun j => l.getD j 0) (fun j => r.getD j 0) r.length l.length 0 = Z at *
  generalize cmpI (l.length : Int) r.length = Y at *
  have ho := cmpOr_any w.heap.size Y Z (w.alloc (.cells #[.int .i64 Y, .int .i64 Z] 3)) (by rw [cell_of_row _ _ 0 _ _ _ (heap_alloc_last w _)]; rfl) (by rw [cell_of_row _ _ 1 _ _ _ (heap_alloc_last w _)]; rfl)
  have Ho := Lib.hid ho; clear ho
  generalize (if Y = 0 then Z else Y) = V at *
  go_enter Tryz.func61, Tryz.ntmps61
  go_wp2_with fail
  refine Hc.out.mono ?_; rintro e w' ⟨rfl, rfl⟩
  go_wp2_with fail
  refine Hs.out.mono ?_; rintro e w' ⟨rfl, rfl⟩
  go_wp2_with fail
  refine Ho.out.mono ?_; rintro e w' ⟨rfl, rfl⟩
  go_wp2_with fail
  go_ret
  exact ⟨⟨_, rfl, Hz.out⟩, (Below.refl _ _).alloc (Nat.le_refl _) _⟩
end Go.Proofs.YtmibinfaafhgdaaGreatDoor
