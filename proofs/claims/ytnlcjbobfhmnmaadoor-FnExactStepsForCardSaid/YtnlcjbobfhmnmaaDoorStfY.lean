/-
  The least light of a cell, by the program. Condition: densities and a curve that are valid; its variables hold their own errors.
-/
import Derived.Test.YtnlcjbobfhmnmaaDoorStfP
import Derived.Test.YtnlcjbobfhmnmaaDoorPrnY
import Derived.Test.YtnlcjbobfhmnmaaDoorMasks
import Derived.Test.YtnlcjbobfhmnmaaDoorDodge
namespace Go.Proofs.YtnlcjbobfhmnmaaDoor
open Go.RowKit

set_option maxRecDepth 100000 in
set_option maxHeartbeats 1000000 in
theorem thirdsFor_C (s : Ers) (C R : Int) (f : Nat → Int) (b n cap : Nat) (xs ys : Nat → Int) (hn : n ≤ 1048576) (cv : Crv n xs ys) (c : Nat) (hc : c < 64) (bf : 0 ≤ f c ∧ f c ≤ 400) (D : Int) (T : Nat) (hT : T ≤ 37)
    (hlo : ∀ L, L < T → sfD f n xs ys c L < D) (hhi : T < 37 → D ≤ sfD f n xs ys c T) (hok : T < 37 → C = 0 ∧ R = (T : Int)) (hno : T = 37 → C = 6 ∧ R = 0) (w : World) (hr : PtRow w b n xs ys) (hE : ErrEnv s w) :
    Calls Tryd.prog 47 #[.agg (prnW f b n cap), .int .i64 (c : Int), .int .i64 D] w fun e w' => ∃ v, IsCode s v C ∧ e = .returned (.tuple #[.int .i64 R, v]) ∧ Below w.heap.size w w' := by
  have Hok := Lib.hid hok; clear hok
  have Hno := Lib.hid hno; clear hno
  have p0 := PrnAt.new w f b n cap
  have k0 := (Below.refl w.heap.size w).alloc (Nat.le_refl _) (.cells (prnW f b n cap) 88)
  have hPs := prnW_size f b n cap
  have hde := fun (L : Nat) (hL : L ≤ 36) W h => densityBy_any f b n cap xs ys hn cv c hc bf (L : Int) (by omega) (by omega) W h
  have Hde := Lib.hid hde; clear hde
  have Hlo := Lib.hid hlo; clear hlo
  have Hhi := Lib.hid hhi; clear hhi
  have HE := Lib.hid hE; clear hE cv
  have P0 := Lib.hid p0; clear p0
  go_enter Tryd.func47, Tryd.ntmps47
  go_wp2_with fail
  go_loopw [8] (fun i wr => ∃ L : Nat, L ≤ T ∧ i = .int .i64 (L : Int) ∧ PrnAt wr w.heap.size f b n cap ∧ Below w.heap.size w wr) (fun i _ => 40 - (intOf i).toNat)
  case atStart => exact ⟨0, by omega, rfl, P0.out, k0⟩
  case round =>
    obtain ⟨L, hL, rfl, h0, hB⟩ := hrel
    by_cases hL37 : L < 37
    · have w4 : (L : Int) ≤ 36 := by omega
      have hcl := Hde.out L (by omega) wr (hr.below hB hr.lt)
      have hfd : dens n xs ys (plc (L : Int) (f c)) = sfD f n xs ys c L := rfl
      rw [hfd] at hcl
      clear hfd
      have hd1 := Hlo.out L
      by_cases hLT : L < T
      · have hlt := hd1 hLT
        generalize sfD f n xs ys c L = V at *
        have hdd : decide (D ≤ V) = false := decide_eq_false (by omega)
        have Hcl := Lib.hid hcl; clear hcl hd1
        clear hlt
        have H0 := Lib.hid h0
        have h0' : wr.heap[w.heap.size]? = some (.cells (prnW f b n cap) 88 (0, 0)) := h0
        go_wp2_with (refine wpList_load_row rfl 88 (.tmp 3) rfl w.heap.size rfl 88 (prnW f b n cap) (0, 0) _ h0' Tryd.underlying88 rfl (by rw [hPs]; exact sizePrn) ?_)
        refine Hcl.out.mono ?_; rintro e w2 ⟨rfl, hb2⟩
        have g0 := H0.out.below hb2 H0.out.lt
        have gB := hB.trans (hb2.mono hB.size)
        clear h0' H0 hB hb2 h0
        have G0 := Lib.hid g0; clear g0
        go_wp2_with fail
        go_roundw
        case rel => exact ⟨L + 1, by omega, by go_num, G0.out, gB⟩
        case measure => simp [intOf]; omega
      · have eLT : L = T := by omega
        subst eLT
        have hge := Hhi.out hL37
        generalize sfD f n xs ys c L = V at *
        obtain ⟨rfl, rfl⟩ := Hok.out hL37
        have hdd : decide (D ≤ V) = true := decide_eq_true hge
        clear hge
        have Hcl := Lib.hid hcl; clear hcl hd1
        have H0 := Lib.hid h0
        have h0' : wr.heap[w.heap.size]? = some (.cells (prnW f b n cap) 88 (0, 0)) := h0
        go_wp2_with (refine wpList_load_row rfl 88 (.tmp 3) rfl w.heap.size rfl 88 (prnW f b n cap) (0, 0) _ h0' Tryd.underlying88 rfl (by rw [hPs]; exact sizePrn) ?_)
        refine Hcl.out.mono ?_; rintro e w2 ⟨rfl, hb2⟩
        have gB := hB.trans (hb2.mono hB.size)
        clear h0' H0 hB hb2 h0
        go_wp2_with fail
        go_ret2
        exact ⟨_, .ok, rfl, gB⟩
    · obtain rfl : L = 37 := by omega
      obtain rfl : T = 37 := by omega
      obtain ⟨rfl, rfl⟩ := Hno.out rfl
      have hcc : ¬ (((37 : Nat) : Int) ≤ 36) := by omega
      have ce := (HE.out.below hB (Nat.le_refl _)).c_enotfound
      have H0 := Lib.hid h0; clear h0
      go_wp2_with fail
      go_quiet (fail)
      go_wp2
      go_ret2
      exact ⟨_, .enotfound, rfl, below_drewL hB _⟩

theorem thirdsFor_any (s : Ers) (f : Nat → Int) (b n cap : Nat) (xs ys : Nat → Int) (hn : n ≤ 1048576) (cv : Crv n xs ys) (g : Nat → Int) (c : Nat) (hc : c < 64) (bf : 0 ≤ f c ∧ f c ≤ 400) (w : World) (hr : PtRow w b n xs ys) (hE : ErrEnv s w) :
    Calls Tryd.prog 47 #[.agg (prnW f b n cap), .int .i64 (c : Int), .int .i64 (g c)] w fun e w' => ∃ v, IsCode s v (if sfT f n xs ys g c < 37 then 0 else 6) ∧ e = .returned (.tuple #[.int .i64 (if sfT f n xs ys g c < 37 then (sfT f n xs ys g c : Int) else 0), v]) ∧ Below w.heap.size w w' := by
  obtain ⟨h1, h2, h3⟩ := sfT_spec f n xs ys g c
  exact thirdsFor_C s _ _ f b n cap xs ys hn cv c hc bf (g c) (sfT f n xs ys g c) h1 h2 h3 (fun h => by rw [if_pos h, if_pos h]; exact ⟨rfl, rfl⟩) (fun h => by rw [if_neg (by omega), if_neg (by omega)]; exact ⟨rfl, rfl⟩) w hr hE
end Go.Proofs.YtnlcjbobfhmnmaaDoor

namespace Go.Proofs.YtnlcjbobfhmnmaaDoor
open Go.RowKit

theorem sizeM37 : (Tryd.prog.info? 93).map (·.size) = some 37 := by kernel_rfl
theorem zeroM37 : #[.int .u64 0, .int .u64 0, .int .u64 0, .int .u64 0, .int .u64 0, .int .u64 0, .int .u64 0, .int .u64 0, .int .u64 0, .int .u64 0, .int .u64 0, .int .u64 0, .int .u64 0, .int .u64 0, .int .u64 0, .int .u64 0, .int .u64 0, .int .u64 0, .int .u64 0, .int .u64 0, .int .u64 0, .int .u64 0, .int .u64 0, .int .u64 0, .int .u64 0, .int .u64 0, .int .u64 0, .int .u64 0, .int .u64 0, .int .u64 0, .int .u64 0, .int .u64 0, .int .u64 0, .int .u64 0, .int .u64 0, .int .u64 0, .int .u64 0] = arrV .u64 37 fun _ => 0 := by kernel_rfl
theorem HasArr.zeroM (w : World) {b : Nat} (hb : b = w.heap.size) : HasArr (w.alloc (.cells #[.int .u64 0, .int .u64 0, .int .u64 0, .int .u64 0, .int .u64 0, .int .u64 0, .int .u64 0, .int .u64 0, .int .u64 0, .int .u64 0, .int .u64 0, .int .u64 0, .int .u64 0, .int .u64 0, .int .u64 0, .int .u64 0, .int .u64 0, .int .u64 0, .int .u64 0, .int .u64 0, .int .u64 0, .int .u64 0, .int .u64 0, .int .u64 0, .int .u64 0, .int .u64 0, .int .u64 0, .int .u64 0, .int .u64 0, .int .u64 0, .int .u64 0, .int .u64 0, .int .u64 0, .int .u64 0, .int .u64 0, .int .u64 0, .int .u64 0] 93)) b 93 .u64 37 fun _ => 0 := by
  subst hb; rw [zeroM37]; exact HasArr.new w 93 _ _ _
theorem wpList_store_zM {P : Program} {ops : Array Oper} {rest : List Oper} {o : Oper} {a : Act} {w : World} {Q : Exit → Act → World → Prop} {b : Nat} {T : TypeId} {κ : IntKind} {f : Nat → Int}
    (h : HasArr w b T κ 37 f) (ty : TypeId) (x y : Operand) (hgd : o.guard = none) (ho : o.op = .store ty x y) (hx : a.eval x = .pointer (some ⟨b, 0, none⟩)) (hy : a.eval y = .agg #[.int .u64 0, .int .u64 0, .int .u64 0, .int .u64 0, .int .u64 0, .int .u64 0, .int .u64 0, .int .u64 0, .int .u64 0, .int .u64 0, .int .u64 0, .int .u64 0, .int .u64 0, .int .u64 0, .int .u64 0, .int .u64 0, .int .u64 0, .int .u64 0, .int .u64 0, .int .u64 0, .int .u64 0, .int .u64 0, .int .u64 0, .int .u64 0, .int .u64 0, .int .u64 0, .int .u64 0, .int .u64 0, .int .u64 0, .int .u64 0, .int .u64 0, .int .u64 0, .int .u64 0, .int .u64 0, .int .u64 0, .int .u64 0, .int .u64 0]) (hi : (P.info? ty).map (·.size) = some 37)
    (hK : wpList P ops Q rest (a.put o.dst undef) (w.setRow b (arrV .u64 37 fun _ => 0))) : wpList P ops Q (o :: rest) a w :=
  wpList_store_arr h ty x y hgd ho hx (hy.trans (by rw [zeroM37])) hi hK
/-- The masks after k cells. -/
def sfR (T : Nat → Nat) (k : Nat) : Nat → Int := fun L => ((sfM T L k : Nat) : Int)
theorem sfR_step (T : Nat → Nat) (k : Nat) : ∀ L, upd (sfR T k) (T k) (((sfM T (T k) k ||| 2 ^ k : Nat) : Nat) : Int) L = sfR T (k + 1) L := by
  intro L
  unfold upd sfR
  rw [sfM_more]
  by_cases h : L = T k
  · subst h; simp
  · rw [if_neg h, if_neg (fun e => h e.symm)]

set_option maxRecDepth 100000 in
set_option maxHeartbeats 2000000 in
theorem stepsFor_bad (s : Ers) (f : Nat → Int) (b n cap : Nat) (xs ys : Nat → Int) (hn : n ≤ 1048576) (hs : SmallP n xs ys) (g : Nat → Int) (w : World) (hr : PtRow w b n xs ys) (hE : ErrEnv s w) (hb : sfB f n xs ys g = false) (T : Nat → Nat) :
    Calls Tryd.prog 34 #[.agg (arrV .i16 64 f), .slice (some ⟨b, 0, none⟩) n cap, .agg (arrV .i16 64 g)] w (SfErr s T 1 w) := by
  have a1 := (HasArr.new w 31 .i16 64 f).alloc (.cells (arrV .i16 64 g) 28)
  have a2 : HasArr ((w.alloc (.cells (arrV .i16 64 f) 31)).alloc (.cells (arrV .i16 64 g) 28)) (w.heap.size + 1) 28 .i16 64 g := by
    have h := HasArr.new (w.alloc (.cells (arrV .i16 64 f) 31)) 28 .i16 64 g
    simpa using h
  have k0 := ((Below.refl w.heap.size w).alloc (Nat.le_refl _) (.cells (arrV .i16 64 f) 31)).alloc (by simp) (.cells (arrV .i16 64 g) 28)
  have r1 := hr.below k0 hr.lt
  have hd := fun W => ValidNegative_any f W
  have hv := fun W h => ValidCurve_any b n cap xs ys hn hs W h
  have hp := fun W => ValidPrint_any g W
  have HE := Lib.hid hE; clear hE
  rcases h1 : dnsB f with _ | _
  · rw [h1] at hd
    have Hd := Lib.hid hd; clear hd hv hp hb h1
    go_enter Tryd.func34, Tryd.ntmps34
    go_wp2_with (refine wpList_load_arr a1 31 (.tmp 3) rfl rfl rfl Tryd.underlying31 sizeNeg ?_)
    refine (Hd.out _).mono ?_; rintro e w1 ⟨rfl, hb1⟩
    have k1 := k0.trans (hb1.mono k0.size)
    have ce := (HE.out.below k1 (Nat.le_refl _)).c_einvalid
    clear a1 a2 k0 hb1 r1 Hd
    go_wp2_with fail
    go_quiet (fail)
    go_wp2
    go_ret2
    exact ⟨_, _, rfl, .einvalid, by rw [if_neg (by decide)]; exact Mine.nil _ _ _ _ _ _ _ _, below_drewL k1 _⟩
  rw [h1] at hd
  have Hd := Lib.hid hd; clear hd
  rcases h2 : validC n xs ys with _ | _
  · rw [h2] at hv
    have Hv := Lib.hid hv; clear hv hp hb h1 h2
    go_enter Tryd.func34, Tryd.ntmps34
    go_wp2_with (refine wpList_load_arr a1 31 (.tmp 3) rfl rfl rfl Tryd.underlying31 sizeNeg ?_)
    refine (Hd.out _).mono ?_; rintro e w0 ⟨rfl, hb0⟩
    have k9 := k0.trans (hb0.mono k0.size)
    have s1 := r1.below hb0 r1.lt
    clear a1 a2 k0 hb0 r1 Hd
    go_wp2_with fail
    refine (Hv.out _ s1).mono ?_; rintro e w1 ⟨rfl, hb1⟩
    have k1 := k9.trans (hb1.mono k9.size)
    have ce := (HE.out.below k1 (Nat.le_refl _)).c_einvalid
    clear k9 hb1 s1 Hv
    go_wp2_with fail
    go_quiet (fail)
    go_wp2
    go_ret2
    exact ⟨_, _, rfl, .einvalid, by rw [if_neg (by decide)]; exact Mine.nil _ _ _ _ _ _ _ _, below_drewL k1 _⟩
  rw [h2] at hv
  have Hv := Lib.hid hv; clear hv
  rcases h3 : dnsB g with _ | _
  · rw [h3] at hp
    have Hp := Lib.hid hp; clear hp hb h1 h2 h3
    go_enter Tryd.func34, Tryd.ntmps34
    go_wp2_with (refine wpList_load_arr a1 31 (.tmp 3) rfl rfl rfl Tryd.underlying31 sizeNeg ?_)
    refine (Hd.out _).mono ?_; rintro e w0 ⟨rfl, hb0⟩
    have k9 := k0.trans (hb0.mono k0.size)
    have s1 := r1.below hb0 r1.lt
    have b2 := a2.below hb0 a2.lt
    clear a1 a2 k0 hb0 r1 Hd
    go_wp2_with fail
    refine (Hv.out _ s1).mono ?_; rintro e w1 ⟨rfl, hb1⟩
    have k1 := k9.trans (hb1.mono k9.size)
    have b3 := b2.below hb1 b2.lt
    clear k9 hb1 s1 Hv b2
    go_wp2_with (refine wpList_load_arrG b3 28 (.tmp 5) (by rfl) rfl rfl Tryd.underlying28 sizePrint ?_)
    refine (Hp.out _).mono ?_; rintro e w2 ⟨rfl, hb2⟩
    have k2 := k1.trans (hb2.mono k1.size)
    have ce := (HE.out.below k2 (Nat.le_refl _)).c_einvalid
    clear k1 hb2 Hp b3
    go_wp2_with fail
    go_quiet (fail)
    go_wp2
    go_ret2
    exact ⟨_, _, rfl, .einvalid, by rw [if_neg (by decide)]; exact Mine.nil _ _ _ _ _ _ _ _, below_drewL k2 _⟩
  · exfalso
    simp [sfB, h1, h2, h3] at hb
end Go.Proofs.YtnlcjbobfhmnmaaDoor

namespace Go.Proofs.YtnlcjbobfhmnmaaDoor
open Go.RowKit

theorem wpList_indexT {P : Program} {ops : Array Oper} {rest : List Oper} {o : Oper} {a : Act} {w : World} {Q : Exit → Act → World → Prop} {v X Y : Value} (t : TypeId) (x y : Operand) (h : (Instr.index t X Y).run P w = .ok v w) (hgd : o.guard = none) (ho : o.op = .index t x y) (hx : a.eval x = X) (hy : a.eval y = Y)
    (hK : wpList P ops Q rest (a.put o.dst v) w) : wpList P ops Q (o :: rest) a w := by
  refine wpList_yield hgd ?_ hK
  unfold execOp
  simp [ho, hx, hy, h]
theorem stopAtF {P : Program} {ops : Array Oper} {rest : List Oper} {o : Oper} {a : Act} {w : World} {Q : Exit → Act → World → Prop} (n : Nat) (h : o.dst = some n) (hK : wpList P ops Q (o :: rest) a w) : wpList P ops Q (o :: rest) a w := hK
theorem own_belowT {w w' : World} {base size n : Nat} {e : TypeId} {v : Value} {l : List Value} (h : w.ownsRow base e size v n l) (hb : Below w.heap.size w w') : w'.ownsRow base e size v n l :=
  h.kept (row := none) ⟨hb.os, hb.tape, hb.output, hb.size, fun i hi _ => hb.block i hi⟩ (by cases v.ownBlock <;> simp)

set_option maxRecDepth 100000 in
set_option maxHeartbeats 2000000 in
theorem stepsFor_ok (s : Ers) (f : Nat → Int) (b n cap : Nat) (xs ys : Nat → Int) (hn : n ≤ 1048576) (hs : SmallP n xs ys) (g : Nat → Int) (w : World) (hr : PtRow w b n xs ys) (hE : ErrEnv s w) (h1 : dnsB f = true) (h2 : validC n xs ys = true) (h3 : dnsB g = true)
    (C : Int) (hok : sfA (sfT f n xs ys g) = true → C = 0) (hno : sfA (sfT f n xs ys g) ≠ true → C = 6) :
    Calls Tryd.prog 34 #[.agg (arrV .i16 64 f), .slice (some ⟨b, 0, none⟩) n cap, .agg (arrV .i16 64 g)] w (SfErr s (sfT f n xs ys g) C w) := by
  have a1 := (HasArr.new w 31 .i16 64 f).alloc (.cells (arrV .i16 64 g) 28)
  have a2 : HasArr ((w.alloc (.cells (arrV .i16 64 f) 31)).alloc (.cells (arrV .i16 64 g) 28)) (w.heap.size + 1) 28 .i16 64 g := by
    have h := HasArr.new (w.alloc (.cells (arrV .i16 64 f) 31)) 28 .i16 64 g
    simpa using h
  have k0 := ((Below.refl w.heap.size w).alloc (Nat.le_refl _) (.cells (arrV .i16 64 f) 31)).alloc (by simp) (.cells (arrV .i16 64 g) 28)
  have r1 := hr.below k0 hr.lt
  have hd := fun W => ValidNegative_any f W
  have hv := fun W h => ValidCurve_any b n cap xs ys hn hs W h
  have hp := fun W => ValidPrint_any g W
  have hcv := (validC_crv h2).1
  have hth := fun (c : Nat) (hc : c < 64) W h hE => thirdsFor_any s f b n cap xs ys hn hcv g c hc (dnsB_bd h1 hc) W h hE
  have hgb := fun (c : Nat) (hc : c < 64) => dnsB_bd h3 hc
  have hTs := fun c => (sfT_spec f n xs ys g c).1
  generalize sfT f n xs ys g = T at *
  rw [h1] at hd
  rw [h2] at hv
  rw [h3] at hp
  have Hok := Lib.hid (fun (h : ∀ c, c < 64 → T c < 37) => hok (sfA_iff.2 h)); clear hok
  have Hno := Lib.hid (fun (c : Nat) (hc : c < 64) (h : ¬ T c < 37) => hno (fun h' => h (sfA_iff.1 h' c hc))); clear hno
  have HE := Lib.hid hE; clear hE
  have Hd := Lib.hid hd; clear hd
  have Hv := Lib.hid hv; clear hv
  have Hp := Lib.hid hp; clear hp
  have Hth := Lib.hid hth; clear hth
  have Hgb := Lib.hid hgb; clear hgb
  have HTs := Lib.hid hTs; clear hTs
  clear h1 h2 h3 hcv hs
  have hrlt := hr.lt
  have hPs := prnW_size f b n cap
  have hP1 := prnW_one f b n cap
  obtain ⟨i0, hi, hz0, hz1, hz2⟩ := info_parts infoStepS
  go_enter Tryd.func34, Tryd.ntmps34
  go_wp2_with (refine wpList_load_arr a1 31 (.tmp 3) rfl rfl rfl Tryd.underlying31 sizeNeg ?_)
  refine (Hd.out _).mono ?_; rintro e w0 ⟨rfl, hb0⟩
  have k9 := k0.trans (hb0.mono k0.size)
  have c1 := a1.below hb0 a1.lt
  have b2 := a2.below hb0 a2.lt
  have s1 := r1.below hb0 r1.lt
  clear a1 a2 k0 hb0 r1 Hd
  go_wp2_with fail
  refine (Hv.out _ s1).mono ?_; rintro e w1 ⟨rfl, hb1⟩
  have k1 := k9.trans (hb1.mono k9.size)
  have c2 := c1.below hb1 c1.lt
  have b3 := b2.below hb1 b2.lt
  have s2 := s1.below hb1 s1.lt
  clear k9 hb1 s1 Hv b2 c1
  go_wp2_with (refine wpList_load_arrG b3 28 (.tmp 5) (by rfl) rfl rfl Tryd.underlying28 sizePrint ?_)
  refine (Hp.out _).mono ?_; rintro e w2 ⟨rfl, hb2⟩
  have k2 := k1.trans (hb2.mono k1.size)
  have c3 := c2.below hb2 c2.lt
  have b4 := b3.below hb2 b3.lt
  have s3 := s2.below hb2 s2.lt
  clear k1 hb2 s2 Hp b3 c2
  have l3 := c3.lt
  have l4 := b4.lt
  have z2 := k2.size
  have n0 : (w2.alloc (.cells Tryd.zeroCells88 88)).heap[w2.heap.size]? = some (.cells Tryd.zeroCells88 88 (0, 0)) := heap_alloc_last w2 _
  have n1 : PrnAt ((w2.alloc (.cells Tryd.zeroCells88 88)).setRow w2.heap.size (prnW f b n cap)) w2.heap.size f b n cap := setRow_heap (w2.alloc (.cells Tryd.zeroCells88 88)) w2.heap.size Tryd.zeroCells88 (prnW f b n cap) 88 (0, 0) n0
  have b5 := (b4.alloc (.cells Tryd.zeroCells88 88)).rowOther (b' := w2.heap.size) (by omega) (prnW f b n cap)
  have kB := below_setRow ((Below.refl w2.heap.size w2).alloc (Nat.le_refl _) (.cells Tryd.zeroCells88 88)) (b := w2.heap.size) (Nat.le_refl _) (prnW f b n cap)
  have k5 := k2.trans (kB.mono k2.size)
  have u5 := s3.below kB s3.lt
  obtain ⟨W5, hW5⟩ : ∃ x : World, x = (w2.alloc (.cells Tryd.zeroCells88 88)).setRow w2.heap.size (prnW f b n cap) := ⟨_, rfl⟩
  rw [← hW5] at n1 b5 k5 u5
  have hz5 : W5.heap.size = w2.heap.size + 1 := by rw [hW5]; simp
  clear kB k2 b4 s3
  have m0 := HasArr.zeroM W5 (b := W5.heap.size) rfl
  rw [hz5] at m0
  have n2 := (n1.alloc (.cells #[.int .u64 0, .int .u64 0, .int .u64 0, .int .u64 0, .int .u64 0, .int .u64 0, .int .u64 0, .int .u64 0, .int .u64 0, .int .u64 0, .int .u64 0, .int .u64 0, .int .u64 0, .int .u64 0, .int .u64 0, .int .u64 0, .int .u64 0, .int .u64 0, .int .u64 0, .int .u64 0, .int .u64 0, .int .u64 0, .int .u64 0, .int .u64 0, .int .u64 0, .int .u64 0, .int .u64 0, .int .u64 0, .int .u64 0, .int .u64 0, .int .u64 0, .int .u64 0, .int .u64 0, .int .u64 0, .int .u64 0, .int .u64 0, .int .u64 0] 93)).rowOther (b' := w2.heap.size + 1) (by omega) (arrV .u64 37 fun _ => 0)
  have b6 := (b5.alloc (.cells #[.int .u64 0, .int .u64 0, .int .u64 0, .int .u64 0, .int .u64 0, .int .u64 0, .int .u64 0, .int .u64 0, .int .u64 0, .int .u64 0, .int .u64 0, .int .u64 0, .int .u64 0, .int .u64 0, .int .u64 0, .int .u64 0, .int .u64 0, .int .u64 0, .int .u64 0, .int .u64 0, .int .u64 0, .int .u64 0, .int .u64 0, .int .u64 0, .int .u64 0, .int .u64 0, .int .u64 0, .int .u64 0, .int .u64 0, .int .u64 0, .int .u64 0, .int .u64 0, .int .u64 0, .int .u64 0, .int .u64 0, .int .u64 0, .int .u64 0] 93)).rowOther (b' := w2.heap.size + 1) (by omega) (arrV .u64 37 fun _ => 0)
  have m1 := (m0.setRow .u64 fun _ => 0).congr (g := sfR T 0) (fun L _ => by unfold sfR; rw [sfM_0]; rfl)
  have k6 := below_setRow (k5.alloc k5.size (.cells #[.int .u64 0, .int .u64 0, .int .u64 0, .int .u64 0, .int .u64 0, .int .u64 0, .int .u64 0, .int .u64 0, .int .u64 0, .int .u64 0, .int .u64 0, .int .u64 0, .int .u64 0, .int .u64 0, .int .u64 0, .int .u64 0, .int .u64 0, .int .u64 0, .int .u64 0, .int .u64 0, .int .u64 0, .int .u64 0, .int .u64 0, .int .u64 0, .int .u64 0, .int .u64 0, .int .u64 0, .int .u64 0, .int .u64 0, .int .u64 0, .int .u64 0, .int .u64 0, .int .u64 0, .int .u64 0, .int .u64 0, .int .u64 0, .int .u64 0] 93)) (b := w2.heap.size + 1) (by omega) (arrV .u64 37 fun _ => 0)
  have u6 := u5.below (below_setRow ((Below.refl W5.heap.size W5).alloc (Nat.le_refl _) (.cells #[.int .u64 0, .int .u64 0, .int .u64 0, .int .u64 0, .int .u64 0, .int .u64 0, .int .u64 0, .int .u64 0, .int .u64 0, .int .u64 0, .int .u64 0, .int .u64 0, .int .u64 0, .int .u64 0, .int .u64 0, .int .u64 0, .int .u64 0, .int .u64 0, .int .u64 0, .int .u64 0, .int .u64 0, .int .u64 0, .int .u64 0, .int .u64 0, .int .u64 0, .int .u64 0, .int .u64 0, .int .u64 0, .int .u64 0, .int .u64 0, .int .u64 0, .int .u64 0, .int .u64 0, .int .u64 0, .int .u64 0, .int .u64 0, .int .u64 0] 93)) (b := w2.heap.size + 1) (by omega) (arrV .u64 37 fun _ => 0)) u5.lt
  obtain ⟨W6, hW6⟩ : ∃ x : World, x = (W5.alloc (.cells #[.int .u64 0, .int .u64 0, .int .u64 0, .int .u64 0, .int .u64 0, .int .u64 0, .int .u64 0, .int .u64 0, .int .u64 0, .int .u64 0, .int .u64 0, .int .u64 0, .int .u64 0, .int .u64 0, .int .u64 0, .int .u64 0, .int .u64 0, .int .u64 0, .int .u64 0, .int .u64 0, .int .u64 0, .int .u64 0, .int .u64 0, .int .u64 0, .int .u64 0, .int .u64 0, .int .u64 0, .int .u64 0, .int .u64 0, .int .u64 0, .int .u64 0, .int .u64 0, .int .u64 0, .int .u64 0, .int .u64 0, .int .u64 0, .int .u64 0] 93)).setRow (w2.heap.size + 1) (arrV .u64 37 fun _ => 0) := ⟨_, rfl⟩
  rw [← hW6] at n2 b6 m1 k6 u6
  clear n1 b5 k5 u5
  have K0 := Lib.hid (And.intro n2 (And.intro m1 (And.intro k6 u6)))
  clear n2 m1 k6 u6
  go_wp2_with (first | (refine wpList_load_arr c3 31 (.tmp 3) rfl rfl rfl Tryd.underlying31 sizeNeg ?_) | (refine wpList_build_prn (f := f) (b := b) (n := n) (cap := cap) (.tmp 31) (.tmp 32) rfl rfl rfl rfl ?_) | (refine wpList_store_row rfl 88 (.tmp 8) (.tmp 33) rfl w2.heap.size (prnW f b n cap) rfl rfl 88 Tryd.zeroCells88 n0 (by rw [hPs]; exact sizePrn) (by rw [hPs]; rfl) hP1 ?_; rw [← hW5]; clear hW5 n0) | (refine wpList_store_zM m0 93 (.tmp 9) (.tmp 34) rfl rfl rfl rfl sizeM37 ?_; rw [← hW6]; clear hW6 m0) | (refine wpList_load_arr b6 28 (.tmp 5) rfl rfl rfl Tryd.underlying28 sizePrint ?_))
  clear c3 b6
  have hix := fun k (hk : k < 64) W => run_index_arr (P := Tryd.prog) (κ' := .i64) g Tryd.underlying28 Tryd.underlying22 size16 hk W
  have Hix := Lib.hid hix; clear hix
  go_loopw [36] (fun i wr => ∃ c : Nat, c ≤ 64 ∧ i = .int .i64 (c : Int) ∧ (∀ j, j < c → T j < 37) ∧ PrnAt wr w2.heap.size f b n cap ∧ HasArr wr (w2.heap.size + 1) 93 .u64 37 (sfR T c) ∧ Below w.heap.size w wr ∧ PtRow wr b n xs ys) (fun i _ => 64 - (intOf i).toNat)
  case atStart => exact ⟨0, by omega, rfl, fun j hj => by omega, K0.out⟩
  case round =>
    obtain ⟨c, hc, rfl, hlt, h0, h1, hB, hR⟩ := hrel
    have HL := Lib.hid hlt; clear hlt
    clear K0
    by_cases hcn : c < 64
    · have w4 : (c : Int) < 64 := by omega
      have ix := Hix.out c hcn wr
      have hg1 := Hgb.out c hcn
      have hth := Hth.out c hcn wr hR (HE.out.below hB (Nat.le_refl _))
      have ht37 := HTs.out c
      have hno := Hno.out c hcn
      have hstep := fun (W : World) (h : HasArr W (w2.heap.size + 1) 93 .u64 37 (sfR T c)) => (h.set (T c) (((sfM T (T c) c ||| 2 ^ c : Nat) : Nat) : Int)).congr (fun j _ => sfR_step T c j)
      have hml := sfM_lt T (T c) c (by omega)
      have hmv : sfR T c (T c) = ((sfM T (T c) c : Nat) : Int) := rfl
      have hcell := fun (h : T c < 37) => h1.cell (k := T c) h
      rw [hmv] at hcell
      have HN := Lib.hid (fun (h : T c < 37) => show ∀ j, j < c + 1 → T j < 37 from fun j hj => by
        rcases Nat.lt_or_ge j c with h2 | h2
        · exact HL.out j h2
        · obtain rfl : j = c := by omega
          exact h)
      have hbt := fun W => bitOf_any c hcn W
      have h2l := two_pow_lt64 hcn
      generalize sfM T (T c) c = m at *
      generalize g c = D at *
      generalize T c = t at *
      clear hmv
      have Hbt := Lib.hid hbt; clear hbt
      have H0 := Lib.hid h0
      have H1 := Lib.hid h1; clear h1
      have HB := Lib.hid hB; clear hB
      have HR := Lib.hid hR; clear hR
      have Hst := Lib.hid hstep; clear hstep
      have h0' : wr.heap[w2.heap.size]? = some (.cells (prnW f b n cap) 88 (0, 0)) := h0
      clear h0
      by_cases ht : t < 37
      · rw [if_pos ht, if_pos ht] at hth
        have Hth1 := Lib.hid hth; clear hth hno
        have cm := hcell ht
        have hN := Lib.hid (HN.out ht)
        clear hcell
        go_wp2_with (refine wpList_load_row rfl 88 (.tmp 8) rfl w2.heap.size rfl 88 (prnW f b n cap) (0, 0) _ h0' Tryd.underlying88 rfl (by rw [hPs]; exact sizePrn) ?_)
        refine Hth1.out.mono ?_; rintro e w3 ⟨v, hv, rfl, hb3⟩
        cases hv
        have H0b := Lib.hid (H0.out.below hb3 H0.out.lt)
        have H1b := Lib.hid (H1.out.below hb3 H1.out.lt)
        have HBb := Lib.hid (HB.out.trans (hb3.mono HB.out.size))
        have HRb := Lib.hid (HR.out.below hb3 HR.out.lt)
        have cm3 := below_cellOf hb3 cm (Nat.le_refl _)
        have wt : (t : Int) < 37 := by omega
        have wt0 : (0 : Int) ≤ t := by omega
        clear H0 H1 HB HR cm h0' hb3 Hth1
        go_wp2_with fail
        refine wp_region_quiet_tail 7 (fun w' => ∃ x : WIn (Below w3.heap.size w3), w' = x.w) (by kernel_rfl) (by kernel_rfl) ⟨⟨_, below_drew1 _⟩, rfl⟩ ?_
        simp only [List.take_succ_cons, List.take_zero, List.drop_succ_cons, List.drop_zero]
        have nn := below_nonempty w3
        have f1 := inCell cm3
        refine wpQuiet_yield (.int .i64 (t : Int)) rfl (fun _ => rfl) ?_
        go_frame
        quiet_step (fail)
        quiet_step (fail)
        refine wpQuiet_yield (.int .i64 (c : Int)) rfl (fun _ => rfl) ?_
        go_frame
        quiet_step ((go_at_call 48; exact inCallS _ (Hbt.out _)))
        refine wpQuiet_yield (.int .u64 (((m ||| 2 ^ c : Nat) : Nat) : Int)) rfl (fun _ => run_or64 (m := m) (n := 2 ^ c) rfl rfl rfl hml h2l) ?_
        go_frame
        quiet_step (fail)
        refine wpQuiet_nil ?_
        rintro w4 ⟨⟨w5, hb5⟩, rfl⟩
        have g0 := H0b.out.below hb5 H0b.out.lt
        have g1 := H1b.out.below hb5 H1b.out.lt
        have gB := HBb.out.trans (hb5.mono HBb.out.size)
        have gR := HRb.out.below hb5 HRb.out.lt
        have d0 := g1.cell ht
        have e0 := g1.free t
        have K := Lib.hid (And.intro (g0.other (a := ⟨w2.heap.size + 1, t, none⟩) (by simp) (.int .u64 (((m ||| 2 ^ c : Nat) : Nat) : Int))) (And.intro (Hst.out _ g1) (And.intro (gB.setCell (p := ⟨w2.heap.size + 1, t, none⟩) (by simp; omega) (.int .u64 (((m ||| 2 ^ c : Nat) : Nat) : Int))) (gR.below ((Below.refl (w2.heap.size + 1) _).setCell (p := ⟨w2.heap.size + 1, t, none⟩) (Nat.le_refl _) (.int .u64 (((m ||| 2 ^ c : Nat) : Nat) : Int))) (by omega)))))
        clear g0 g1 gB gR f1 nn cm3
        go_wp2_with fail
        go_roundw
        case rel => exact ⟨c + 1, by omega, by go_num, hN.out, K.out⟩
        case measure => simp [intOf]; omega
      · obtain rfl := hno ht
        rw [if_neg ht, if_neg ht] at hth
        have Hth1 := Lib.hid hth; clear hth hno hcell
        go_wp2_with (refine wpList_load_row rfl 88 (.tmp 8) rfl w2.heap.size rfl 88 (prnW f b n cap) (0, 0) _ h0' Tryd.underlying88 rfl (by rw [hPs]; exact sizePrn) ?_)
        refine Hth1.out.mono ?_; rintro e w3 ⟨v, hv, rfl, hb3⟩
        cases hv
        have kk := HB.out.trans (hb3.mono HB.out.size)
        clear h0' hb3 Hth1
        go_wp2_with fail
        go_ret2
        exact ⟨_, _, rfl, .enotfound, by rw [if_neg (by decide)]; exact Mine.nil _ _ _ _ _ _ _ _, kk⟩
    · obtain rfl : c = 64 := by omega
      obtain rfl := Hok.out (fun j hj => HL.out j hj)
      have hsu : (Tryd.prog.info? 57).map (·.size) = some 1 := by kernel_rfl
      have hixm := fun k (hk : k < 37) W => run_index_arr (P := Tryd.prog) (κ' := .i64) (κ := .u64) (sfR T 64) Tryd.underlying93 Tryd.underlying57 hsu hk W
      have Hixm := Lib.hid hixm; clear hixm hsu Hix Hth Hno Hok HTs
      obtain ⟨R, hR64⟩ : ∃ R : Nat → Int, R = sfR T 64 := ⟨_, rfl⟩
      rw [← hR64] at h1 Hixm
      have HRL := Lib.hid (fun (L : Nat) => show R L = ((sfM T L 64 : Nat) : Int) by rw [hR64]; rfl)
      clear hR64
      have o1 := World.ownsRow_lit (base := w.heap.size) (e := 60) (size := 2) wr #[] 0 hB.size (Nat.zero_le _) rfl
      have k7 := hB.alloc hB.size (.cells #[] 60)
      have m7 := h1.alloc (.cells #[] 60)
      clear h0 h1 hR
      go_wp2_with (refine wpList_load_arr m7 93 (.tmp 9) rfl rfl rfl Tryd.underlying93 sizeM37 ?_)
      clear m7
      generalize wr.alloc (.cells #[] 60) = W7 at *
      go_loopw [14, 61] (fun lv iv wq => ∃ L : Nat, L ≤ 37 ∧ iv = .int .i64 (L : Int) ∧ wq.ownsRow w.heap.size 60 2 lv (sfL T L).length (celT (sfL T L)) ∧ Below w.heap.size w wq) (fun _ iv _ => 64 - (intOf iv).toNat)
      case atStart => exact ⟨0, by omega, rfl, o1, k7⟩
      case round =>
        clear o1 k7
        obtain ⟨L, hL, rfl, ho, hBq⟩ := hrel
        have HO := Lib.hid ho
        have HBq := Lib.hid hBq
        by_cases hLn : L < 37
        · have w5' : (L : Int) < 37 := by omega
          have ix2 := Hixm.out L hLn wr
          have hlen := sfL_len T L
          have hst2 := fun W => stepOf_any (sfM T L 64 : Nat) (L : Int) (by omega) (by omega) W
          have e0 := HRL.out L
          rw [e0] at ix2
          clear e0 ho hBq
          by_cases hz : sfM T L 64 = 0
          · have HY := Lib.hid (sfL_no hz)
            rw [hz] at ix2
            clear hst2 hlen hz
            go_wp2_with fail
            go_roundw
            case rel => exact ⟨L + 1, by omega, by go_num, by rw [HY.out]; exact HO.out, HBq.out⟩
            case measure => simp [intOf]; omega
          · have HY := Lib.hid (sfL_yes hz)
            have hM0 : (((sfM T L 64 : Nat) : Int) != 0) = true := by rw [bne_iff_ne]; omega
            clear hz
            have hst3 : ∀ W, Calls Tryd.prog 49 #[.int .u64 ((sfM T L 64 : Nat) : Int), .int .i64 (L : Int)] W fun e w' => e = .returned (.agg #[.int .u64 ((sfM T L 64 : Nat) : Int), .int .i8 (L : Int)]) ∧ Below W.heap.size W w' := hst2
            clear hst2
            generalize ((sfM T L 64 : Nat) : Int) = M at *
            have Hst2 := Lib.hid hst3; clear hst3
            generalize sfL T L = l at *
            have HLEN := Lib.hid hlen; clear hlen
            go_wp2_with fail
            refine (Hst2.out _).mono ?_; rintro e w8 ⟨rfl, hb8⟩
            have HO8 := Lib.hid (own_belowT HO.out hb8)
            have HB8 := Lib.hid (HBq.out.trans (hb8.mono HBq.out.size))
            have hz8 := HB8.out.size
            clear hb8 HO HBq Hst2
            go_wp2_with (at_builtin; refine wpList_append_own_at _ rfl _ _ 36 rfl w.heap.size 60 i0 (.agg #[.int .u64 0, .int .i8 0]) 2 16 Tryd.underlying36 hi hz0 hz1 hz2 rfl (by decide) _ l.length (celT l) rfl (HO8.out.alloc _) ⟨w8.heap.size, 0, none⟩ 1 1 [.int .u64 M, .int .i8 (L : Int)] rfl rfl ?c1 ?c2 ?c3 ?c4 ?c5 ?_)
            case c1 =>
              intro jj u hj
              match jj, hj with
              | 0, hj => simp at hj; subst hj; simp [Addr.add, go_sem]
              | 1, hj => simp at hj; subst hj; simp [Addr.add, go_sem]
              | jj + 2, hj => simp at hj
            case c2 => intro u hu; simp at hu; rcases hu with rfl | rfl <;> rfl
            case c3 => have hlen := HLEN.out; unfold maxLen; omega
            case c4 => have hlen := HLEN.out; omega
            case c5 => have hlen := HLEN.out; simp; omega
            intro v3 w9 hown3 hg3 hnil _
            have hkeep : Below w.heap.size w8 w9 := (((Below.refl w.heap.size w8).alloc (by omega) _).grown hg3 (by simp; omega) (fun x hx => (HO8.out.lt x hx).1))
            have HB9 := Lib.hid (HB8.out.trans hkeep)
            have HO9 := Lib.hid hown3
            clear hkeep hown3 hg3 hnil HO8 HB8
            go_wp2_with fail
            go_roundw
            case rel => exact ⟨L + 1, by omega, by go_num, by rw [HY.out, celT_app, celT_one, List.length_append]; exact HO9.out, HB9.out⟩
            case measure => simp [intOf]; omega
        · obtain rfl : L = 37 := by omega
          rw [celT_list] at ho
          have hm := Mine.of_listSt ho
          have HM := Lib.hid hm; clear hm ho hBq HO
          go_wp2_with fail
          go_ret2
          exact ⟨_, _, rfl, .ok, by rw [if_pos rfl]; exact HM.out, HBq.out⟩
end Go.Proofs.YtnlcjbobfhmnmaaDoor

namespace Go.Proofs.YtnlcjbobfhmnmaaDoor
open Go.RowKit

theorem stepsFor_any (s : Ers) (f : Nat → Int) (b n cap : Nat) (xs ys : Nat → Int) (hn : n ≤ 1048576) (hs : SmallP n xs ys) (g : Nat → Int) (w : World) (hr : PtRow w b n xs ys) (hE : ErrEnv s w) :
    Calls Tryd.prog 34 #[.agg (arrV .i16 64 f), .slice (some ⟨b, 0, none⟩) n cap, .agg (arrV .i16 64 g)] w (SfErr s (sfT f n xs ys g) (sfC f n xs ys g) w) := by
  rcases hp : sfB f n xs ys g with _ | _
  · have e : sfC f n xs ys g = 1 := by simp [sfC, hp]
    rw [e]
    exact stepsFor_bad s f b n cap xs ys hn hs g w hr hE hp _
  · have h := hp
    simp only [sfB, Bool.and_eq_true] at h
    exact stepsFor_ok s f b n cap xs ys hn hs g w hr hE h.1.1 h.1.2 h.2 _ (fun h => by simp [sfC, hp, h]) (fun h => by simp [sfC, hp, h])

set_option maxRecDepth 100000 in
set_option maxHeartbeats 2000000 in
theorem StepsFor_any (s : Ers) (f : Nat → Int) (b n cap : Nat) (xs ys : Nat → Int) (hn : n ≤ 1048576) (hs : SmallP n xs ys) (g : Nat → Int) (w : World) (hr : PtRow w b n xs ys) (hE : ErrEnv s w) :
    Calls Tryd.prog 17 #[.agg (arrV .i16 64 f), .slice (some ⟨b, 0, none⟩) n cap, .agg (arrV .i16 64 g)] w (SfOut (sfT f n xs ys g) (sfC f n xs ys g) w) := by
  have a1 := (HasArr.new w 31 .i16 64 f).alloc (.cells (arrV .i16 64 g) 28)
  have a2 : HasArr ((w.alloc (.cells (arrV .i16 64 f) 31)).alloc (.cells (arrV .i16 64 g) 28)) (w.heap.size + 1) 28 .i16 64 g := by
    have h := HasArr.new (w.alloc (.cells (arrV .i16 64 f) 31)) 28 .i16 64 g
    simpa using h
  have k0 := ((Below.refl w.heap.size w).alloc (Nat.le_refl _) (.cells (arrV .i16 64 f) 31)).alloc (by simp) (.cells (arrV .i16 64 g) 28)
  have Hq := Lib.hid (stepsFor_any s f b n cap xs ys hn hs g _ (hr.below k0 hr.lt) (hE.below k0 (Nat.le_refl _)))
  have HE := Lib.hid hE; clear hE hr hs
  generalize sfC f n xs ys g = C at *
  generalize sfT f n xs ys g = T at *
  go_enter Tryd.func17, Tryd.ntmps17
  go_wp2_with (first | (refine wpList_load_arr a1 31 (.tmp 3) rfl rfl rfl Tryd.underlying31 sizeNeg ?_) | (refine wpList_load_arr a2 28 (.tmp 5) rfl rfl rfl Tryd.underlying28 sizePrint ?_))
  refine Hq.out.mono ?_; rintro e w2 ⟨v, ev, rfl, hv, hM, hb2⟩
  have k2 := k0.trans (hb2.mono k0.size)
  have hM2 := hM.mono (L' := w.heap.size) k0.size (Nat.le_refl _)
  have HM := Lib.hid hM2
  have Hcd := Lib.hid (codedStp_any hv v _ (HE.out.below k2 (Nat.le_refl _)))
  clear hb2 a1 a2 k0 Hq hM hM2
  go_wp2_with fail
  refine Hcd.out.mono ?_; rintro e w3 ⟨rfl, rfl⟩
  go_wp2_with fail
  go_ret2
  exact ⟨_, rfl, HM.out, k2⟩
end Go.Proofs.YtnlcjbobfhmnmaaDoor
