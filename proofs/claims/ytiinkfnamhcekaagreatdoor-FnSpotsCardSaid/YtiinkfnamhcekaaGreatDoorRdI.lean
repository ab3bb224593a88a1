/-
  A mask read from its text by the program. Condition: its variables hold their own errors, the library's bound is some number; at most 1048576 bytes.
-/
import Derived.Test.YtiinkfnamhcekaaGreatDoorRdS
import Derived.Test.YtiinkfnamhcekaaGreatDoorShelfE
import Derived.Test.YtiinkfnamhcekaaGreatDoorEnv
import Derived.Shelf.Vars
import Derived.Lib.SmallJoins
namespace Go.Proofs.YtiinkfnamhcekaaGreatDoor
open Go.RowKit

theorem maxLen_cell {W : World} (hsh : W.ShapedOpen Tryz.prog) : ∃ m, W.cell? ⟨7, 0, none⟩ = some (.int .i64 m) :=
  Go.Proofs.cell_of_shapedOpen_int (zero := #[.int .i64 0]) (t := 3) hsh (of_decide_eq_true (by kernel_rfl)) (by kernel_rfl) rfl (by kernel_rfl) (by kernel_rfl) Tryz.underlying3
theorem piece_one (S : ByteArray) (k : Nat) (h : k < S.size) : S.extract k (k + 1) = ⟨#[S[k]]⟩ := by
  apply ByteArray.ext
  apply Array.ext'
  rw [Lib.extract_data]
  have h1 : k < S.data.size := h
  apply List.ext_getElem?
  intro j
  cases j with
  | zero =>
    simp
    exact Array.getElem?_eq_getElem h1
  | succ j =>
    simp
    omega
theorem below_drewR {B : Nat} {w w' : World} (h : Below B w w') (n : Nat) : Below B w (w'.drewN n) := ⟨h.os, h.tape, h.output, h.size, h.block⟩
theorem getD_B (S : ByteArray) (k : Nat) (h : k < S.size) : bitsF S.data.toList k = (S[k] == 35) := by
  unfold bitsF
  rw [List.getD_eq_getElem?_getD, at_B S k h]
  rfl

set_option maxHeartbeats 1000000 in
theorem readMask1_any (S : ByteArray) (h64 : S.size = 64) (b k : Nat) (hk : k < 64) (W : World) (c : W.cell? ⟨b, 0, none⟩ = some (.string S)) :
    Calls Tryz.prog 41 #[.int .i64 (k : Int), .pointer (some ⟨b, 0, none⟩)] W fun e w' => e = .returned (.bool (bitsF S.data.toList k)) ∧ Below W.heap.size W w' := by
  have hks : k < S.size := by omega
  have hk1 : (k : Int) + 1 ≤ S.size := by omega
  have hk' : (k : Int) < 64 := by omega
  have hx := piece_one S k hks
  have HB := Lib.hid (getD_B S k hks)
  by_cases h35 : S[k] = 35
  · rw [h35] at hx
    have HR := Lib.hid (show bitsF S.data.toList k = true by rw [HB.out, h35]; rfl)
    clear HB h35
    go_enter Tryz.func41, Tryz.ntmps41
    go_wp2_with fail
    go_ret
    exact ⟨ret_bool (by rw [HR.out]), Below.refl _ _⟩
  · have HR := Lib.hid (show bitsF S.data.toList k = false by rw [HB.out]; simpa using h35)
    generalize S[k] = x at *
    clear HB
    go_enter Tryz.func41, Tryz.ntmps41
    go_wp2_with fail
    go_ret
    exact ⟨ret_bool (by rw [HR.out]; simp [h35]), Below.refl _ _⟩

theorem bitOfR_any (k : Nat) (hk : k < 64) (w : World) : Calls Tryz.prog 57 #[.int .i64 (k : Int)] w fun e w' => e = .returned (.int .u64 ((2 ^ k : Nat) : Int)) ∧ w = w' := by
  go_enter Tryz.func57, Tryz.ntmps57
  go_wp2_with (refine wpList_shl1 (κ := .i64) (k := k) _ _ rfl rfl rfl rfl hk ?_)
  go_ret
  exact ⟨rfl, rfl⟩

set_option maxRecDepth 100000 in
set_option maxHeartbeats 1000000 in
theorem maskWhere_read (p : Nat → Bool) (q1 : Nat) (w : World)
    (hcl : ∀ k : Nat, k < 64 → ∀ W, Below w.heap.size w W → Calls Tryz.prog 41 #[.int .i64 (k : Int), .pointer (some ⟨q1, 0, none⟩)] W fun e w' => e = .returned (.bool (p k)) ∧ Below W.heap.size W w') :
    Calls Tryz.prog 40 #[.func (.func 41) #[] #[.pointer (some ⟨q1, 0, none⟩)]] w fun e w' => e = .returned (.int .u64 ((maskN p 64 : Nat) : Int)) ∧ Below w.heap.size w w' := by
  have Hcl := Lib.hid hcl; clear hcl
  have hb := fun k (hk : k < 64) => bitOfR_any k hk
  have Hb := Lib.hid hb; clear hb
  go_enter Tryz.func40, Tryz.ntmps40
  go_wp2_with fail
  go_loopw [3, 5] (fun m i wr => ∃ k : Nat, k ≤ 64 ∧ i = .int .i64 (k : Int) ∧ m = .int .u64 ((maskN p k : Nat) : Int) ∧ Below w.heap.size w wr) (fun _ i _ => 64 - (intOf i).toNat)
  case atStart => exact ⟨0, by omega, rfl, rfl, Below.refl _ _⟩
  case round =>
    obtain ⟨k, hk, rfl, rfl, hB⟩ := hrel
    by_cases hkn : k < 64
    · have hq := Hcl.out k hkn wr hB
      have hlt := maskN_lt p k hk
      have hyes := maskN_yes (p := p) (k := k)
      have hno := maskN_no (p := p) (k := k)
      have h2 := two_pow_lt64 hkn
      have bk := fun W => Hb.out k hkn W
      rcases hv : p k with _ | _
      · rw [hv] at hq
        have HN := Lib.hid (hno hv)
        clear hno hyes hv h2
        generalize maskN p k = m at *
        have Hq := Lib.hid hq; clear hq
        have HL := Lib.hid hlt; clear hlt
        go_wp2_with fail
        refine Hq.out.mono ?_; rintro e w1 ⟨rfl, hb1⟩
        have hB1 := hB.trans (hb1.mono hB.size)
        clear hb1 hB
        go_wp2_with fail
        go_roundw
        case rel => exact ⟨k + 1, by omega, by go_num, by rw [HN.out], hB1⟩
        case measure => simp [intOf]; omega
      · rw [hv] at hq
        have HY := Lib.hid (hyes hv)
        clear hno hyes hv
        generalize maskN p k = m at *
        have Hq := Lib.hid hq; clear hq
        have HL := Lib.hid hlt; clear hlt
        have H2 := Lib.hid h2; clear h2
        have Bk := Lib.hid bk; clear bk
        go_wp2_with fail
        refine Hq.out.mono ?_; rintro e w1 ⟨rfl, hb1⟩
        have hB1 := hB.trans (hb1.mono hB.size)
        clear hb1 hB
        go_wp2_with fail
        refine (Bk.out _).mono ?_; rintro e w2 ⟨rfl, rfl⟩
        go_wp2_with (refine wpList_or _ _ rfl rfl rfl rfl HL.out H2.out ?_)
        go_roundw
        case rel => exact ⟨k + 1, by omega, by go_num, by rw [HY.out], hB1⟩
        case measure => simp [intOf]; omega
    · obtain rfl : k = 64 := by omega
      go_wp2_with fail
      go_ret
      exact ⟨rfl, hB⟩

theorem codedMaskR_any {s : Ers} {v : Value} {c : Int} (h : IsCode s v c) (x : Int) (w : World) (hE : ErrEnv s w) :
    Calls Tryz.prog 21 #[.int .u64 x, v] w fun e w' => e = .returned (.tuple #[.int .u64 x, .int .i64 c]) ∧ w = w' := by
  go_enter Tryz.func21, Tryz.ntmps21
  go_wp2_with fail
  refine (codeOf_any h _ hE).mono ?_; rintro e w1 ⟨rfl, rfl⟩
  go_wp2_with fail
  go_ret2
  exact ⟨rfl, rfl⟩

/-- A mask with an error. -/
def RdOut (s : Ers) (x c : Int) (w : World) (e : Ending) (w' : World) : Prop := ∃ v, e = .returned (.tuple #[.int .u64 x, v]) ∧ IsCode s v c ∧ Below w.heap.size w w'

set_option maxRecDepth 100000 in
set_option maxHeartbeats 2000000 in
theorem readMask_any (r : Ers) (s : ByteArray) (hs : s.size ≤ 1048576) (m0 : Int) (w : World) (hE : ErrEnv r w) (hm0 : w.cell? ⟨7, 0, none⟩ = some (.int .i64 m0)) :
    Calls Tryz.prog 22 #[.string s] w (RdOut r (rdX s.data.toList) (rdC s.data.toList) w) := by
  have hrp := shStrings_ReplaceAll s ⟨#[10]⟩ ⟨#[]⟩ m0 w (by omega) hm0 (by decide) (by show s.size + _ * 0 ≤ _; omega)
  rw [show (Lib.replaceAll s.data.toList (⟨#[10]⟩ : ByteArray).data.toList (⟨#[]⟩ : ByteArray).data.toList) = s.data.toList.filter (· != 10) from replaceAll_del s.data.toList] at hrp
  have hF := rdF_len (l := s.data.toList)
  have hN := rdF_no (l := s.data.toList)
  have HY := Lib.hid (fun m => rd_yes (l := s.data.toList) (m := m))
  have HE := Lib.hid hE; clear hE hm0
  generalize s.data.toList.filter (· != 10) = F at *
  generalize rdX s.data.toList = X at *
  generalize rdC s.data.toList = C at *
  obtain ⟨S, hS⟩ : ∃ S : ByteArray, S = ⟨F.toArray⟩ := ⟨_, rfl⟩
  have hSl : S.data.toList = F := by rw [hS]
  have hSz : S.size = F.length := by rw [hS]; rfl
  rw [← hS] at hrp
  have Hrp := Lib.hid hrp; clear hrp hS
  by_cases h64 : F.length = 64
  rotate_left
  · obtain ⟨rfl, rfl⟩ := hF h64
    have hne : ¬ (S.size : Int) = 64 := by omega
    clear hF hN HY h64 hSl hSz
    go_enter Tryz.func22, Tryz.ntmps22
    go_wp2_with fail
    refine Hrp.out.mono ?_; rintro e w1 ⟨rfl, hb1⟩
    have k1 := hb1.alloc hb1.size (.cells #[.string S] 9)
    have ce := (HE.out.below k1 (Nat.le_refl _)).c_esyntax
    clear hb1 Hrp
    go_wp2_with fail
    go_quiet (fail)
    go_wp2_with fail
    go_ret2
    exact ⟨_, rfl, .esyntax, below_drewR k1 nq⟩
  clear hF
  have hS64 : S.size = 64 := by omega
  have hS64' : (S.size : Int) = 64 := by omega
  have hcl := Lib.hid (fun (b : Nat) (W0 : World) (hc : W0.cell? ⟨b, 0, none⟩ = some (.string S)) => maskWhere_read (bitsF F) b W0 (fun k hk W hW => by
    have := readMask1_any S hS64 b k hk W (below_cellOf hW hc (Nat.le_refl _))
    rw [hSl] at this
    exact this))
  have hmt := Lib.hid (fun W => MaskText_any (mkR (bitsF F)) W)
  rw [← mkR_bvI] at hcl
  have HN := Lib.hid hN
  clear hN hSl hSz hS64 h64
  generalize mkR (bitsF F) = M at *
  by_cases hl : s.data.toList = mtx M 64
  · obtain ⟨rfl, rfl⟩ := HY.out M hl
    have e : (⟨(mtx M 64).toArray⟩ : ByteArray) = s := by rw [← hl]
    rw [e] at hmt
    clear HN HY hl e
    go_enter Tryz.func22, Tryz.ntmps22
    go_wp2_with fail
    refine Hrp.out.mono ?_; rintro e w1 ⟨rfl, hb1⟩
    have k1 := hb1.alloc hb1.size (.cells #[.string S] 9)
    have c1 : (w1.alloc (.cells #[.string S] 9)).cell? ⟨w1.heap.size, 0, none⟩ = some (.string S) := by simp
    clear hb1 Hrp
    go_wp2_with fail
    refine (hcl.out _ _ c1).mono ?_; rintro e w2 ⟨rfl, hb2⟩
    have k2 := k1.trans (hb2.mono k1.size)
    clear hb2 k1 c1 hcl
    go_wp2_with fail
    refine (hmt.out _).mono ?_; rintro e w3 ⟨rfl, rfl⟩
    go_wp2_with fail
    go_ret2
    exact ⟨_, rfl, .ok, k2⟩
  · obtain ⟨rfl, rfl⟩ := HN.out hl
    have hne : ¬ (⟨(mtx M 64).toArray⟩ : ByteArray) = s := fun e => hl (by rw [← e])
    generalize (⟨(mtx M 64).toArray⟩ : ByteArray) = T at *
    have hnb : (T.toList == s.toList) = false := by
      rw [Lib.toList_data, Lib.toList_data]
      simpa using fun e => hne (ByteArray.ext (Array.ext' e))
    clear HN HY hl
    go_enter Tryz.func22, Tryz.ntmps22
    go_wp2_with fail
    refine Hrp.out.mono ?_; rintro e w1 ⟨rfl, hb1⟩
    have k1 := hb1.alloc hb1.size (.cells #[.string S] 9)
    have c1 : (w1.alloc (.cells #[.string S] 9)).cell? ⟨w1.heap.size, 0, none⟩ = some (.string S) := by simp
    clear hb1 Hrp
    go_wp2_with fail
    refine (hcl.out _ _ c1).mono ?_; rintro e w2 ⟨rfl, hb2⟩
    have k2 := k1.trans (hb2.mono k1.size)
    have ce := (HE.out.below k2 (Nat.le_refl _)).c_esyntax
    clear hb2 k1 c1 hcl
    go_wp2_with fail
    refine (hmt.out _).mono ?_; rintro e w3 ⟨rfl, rfl⟩
    go_wp2_with fail
    go_quiet (fail)
    go_wp2_with fail
    go_ret2
    exact ⟨_, rfl, .esyntax, below_drewR k2 nq⟩

set_option maxRecDepth 100000 in
set_option maxHeartbeats 2000000 in
theorem ReadMask_any (r : Ers) (s : ByteArray) (hs : s.size ≤ 1048576) (m0 : Int) (w : World) (hE : ErrEnv r w) (hm0 : w.cell? ⟨7, 0, none⟩ = some (.int .i64 m0)) :
    Calls Tryz.prog 6 #[.string s] w fun e w' => e = .returned (.tuple #[.int .u64 (rdX s.data.toList), .int .i64 (rdC s.data.toList)]) ∧ Below w.heap.size w w' := by
  have h := Lib.hid (readMask_any r s hs m0 w hE hm0)
  have HE := Lib.hid hE; clear hE hm0
  generalize rdX s.data.toList = X at *
  generalize rdC s.data.toList = C at *
  go_enter Tryz.func6, Tryz.ntmps6
  go_wp2_with fail
  refine h.out.mono ?_; rintro e w1 ⟨v, rfl, hv, hb1⟩
  have HE1 := Lib.hid (HE.out.below hb1 (Nat.le_refl _))
  go_wp2_with fail
  refine (codedMaskR_any hv X _ HE1.out).mono ?_; rintro e w2 ⟨rfl, rfl⟩
  go_wp2_with fail
  go_ret2
  exact ⟨rfl, hb1⟩
end Go.Proofs.YtiinkfnamhcekaaGreatDoor
