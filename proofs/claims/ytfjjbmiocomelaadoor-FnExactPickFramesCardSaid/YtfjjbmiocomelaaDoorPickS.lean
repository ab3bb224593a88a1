/-
  Frames picked, by the reference. Condition: at most 1048576 frames of int16 numbers, at most 1048576 indices.
-/
import Derived.Test.YtfjjbmiocomelaaDoorSwapS
import Derived.Test.YtfjjbmiocomelaaDoorLitPr
namespace Go.Proofs.YtfjjbmiocomelaaDoor
open Go.RowKit

/-- The code of a sheet and a list of frames. -/
def picC (X : Int) (n : Nat) (g : Nat → Nat → Int) (m : Nat) (xs : Nat → Int) : Int := if frmC X n g m xs = 0 then (if 12 < m then 3 else 0) else frmC X n g m xs
/-- The frames that were asked. -/
def picG (g : Nat → Nat → Int) (xs : Nat → Int) : Nat → Nat → Int := fun j => g (xs j).toNat
theorem frmC_no {X : Int} {n m j : Nat} {g : Nat → Nat → Int} {xs : Nat → Int} (h : shtB X n g = true) (hj : j < m) (hx : inB (xs j) 0 ((n : Int) - 1) = false) : frmC X n g m xs = 2 := by
  have hno : ¬ ((List.range m).all fun j => inB (xs j) 0 ((n : Int) - 1)) = true := fun h => by
    have := List.all_eq_true.1 h j (List.mem_range.2 hj)
    rw [hx] at this; cases this
  simp only [frmC, h, if_true, if_neg hno]
theorem frmC_yes {X : Int} {n m : Nat} {g : Nat → Nat → Int} {xs : Nat → Int} (h : shtB X n g = true) (ha : ∀ i, i < m → inB (xs i) 0 ((n : Int) - 1) = true) : frmC X n g m xs = 0 := by
  have hyes : ((List.range m).all fun k => inB (xs k) 0 ((n : Int) - 1)) = true := List.all_eq_true.2 fun k hk => ha k (List.mem_range.1 hk)
  simp only [frmC, h, if_true, if_pos hyes]
theorem picC_no {X : Int} {n m : Nat} {g : Nat → Nat → Int} {xs : Nat → Int} {c : Int} (h : frmC X n g m xs = c) (hc : c ≠ 0) : picC X n g m xs = c := by
  unfold picC; rw [h, if_neg hc]
theorem picC_lim {X : Int} {n m : Nat} {g : Nat → Nat → Int} {xs : Nat → Int} (h : frmC X n g m xs = 0) (hm : 12 < m) : picC X n g m xs = 3 := by
  unfold picC; rw [h, if_pos rfl, if_pos hm]
theorem picC_ok {X : Int} {n m : Nat} {g : Nat → Nat → Int} {xs : Nat → Int} (h : frmC X n g m xs = 0) (hm : ¬ 12 < m) : picC X n g m xs = 0 := by
  unfold picC; rw [h, if_pos rfl, if_neg hm]
/-- What picking hands back. -/
def PicOut (L : Nat) (X : Int) (n : Nat) (g : Nat → Nat → Int) (m : Nat) (xs : Nat → Int) (w : World) (e : Ending) (w' : World) : Prop :=
  ShtOut L (if picC X n g m xs = 0 then X else 0) (if picC X n g m xs = 0 then m else 0) (picG g xs) (picC X n g m xs) w e w'
theorem PicOut.of_ok {L : Nat} {X : Int} {n : Nat} {g : Nat → Nat → Int} {m : Nat} {xs : Nat → Int} {w : World} {e : Ending} {w' : World} (hc : picC X n g m xs = 0) (h : ShtOut L X m (picG g xs) 0 w e w') : PicOut L X n g m xs w e w' := by
  unfold PicOut; rw [hc]; exact h
theorem PicOut.of_no {L : Nat} {X : Int} {n : Nat} {g : Nat → Nat → Int} {m : Nat} {xs : Nat → Int} {w : World} {e : Ending} {w' : World} {c : Int} (hc : picC X n g m xs = c) (h0 : c ≠ 0) (h : ShtOut L 0 0 (picG g xs) c w e w') : PicOut L X n g m xs w e w' := by
  unfold PicOut; rw [hc, if_neg h0, if_neg h0]; exact h
theorem prL_snoc (G : Nat → Nat → Int) (h : Nat → Nat → Int) (j : Nat) (e : h 0 = G j) : prL (appF G h j) (j + 1) = prL G (j + 1) :=
  prL_congr fun i hi k _ => by
    unfold appF
    by_cases h1 : i < j
    · rw [if_pos h1]
    · rw [if_neg h1, show i - j = 0 by omega, e, show i = j by omega]

theorem yields_load_part {P : Program} {ops : Array Oper} {S : World → Prop} {op : Oper} {a : Act} {b o : Nat} {κ : IntKind} {n m : Nat} {f : Nat → Int} {V : Array Value} {e : TypeId} (h : ∀ W, S W → PartA W b o κ n f) (hV : arrV κ n f = V) (ty : TypeId) (x : Operand)
    (hgd : op.guard = none) (ho : op.op = .load ty x) (hx : a.eval x = .pointer (some ⟨b, o, none⟩)) (hu : P.underlying ty = some (.array m e)) (hi : (P.info? ty).map (·.size) = some n) : YieldsIf P ops S op (.agg V) a :=
  .inl ⟨by simp [Region.wanted, hgd], fun W hW => by subst hV; exact run_load_part (h W hW) ty x ho hx hu hi⟩

set_option maxRecDepth 100000 in
set_option maxHeartbeats 8000000 in
theorem specPick_any (X : Int) (A : Option Addr) (n cap : Nat) (g : Nat → Nat → Int) (B : Option Addr) (m c : Nat) (xs : Nat → Int) (hn : n ≤ 1048576) (hm : m ≤ 1048576) (hX : -128 ≤ X ∧ X ≤ 127) (hs : ∀ i, i < n → S16 (g i)) (w : World) (hr : PrsIn w A n g) (hi : IntsIn w B m xs) :
    Calls Tryd.prog 15 #[.agg #[.int .i8 X, .slice A n cap], .slice B m c] w (PicOut w.heap.size X n g m xs w) := by
  have k0 := ((Below.refl w.heap.size w).alloc (Nat.le_refl _) (.cells #[.int .i8 X, .slice A n cap] 29)).alloc (by simp) (.cells #[.int .i8 0, .slice none 0 0] 29)
  have d0 : ((w.alloc (.cells #[.int .i8 X, .slice A n cap] 29)).alloc (.cells #[.int .i8 0, .slice none 0 0] 29)).cell? ⟨w.heap.size, 0, none⟩ = some (.int .i8 X) := by simp
  have d1 : ((w.alloc (.cells #[.int .i8 X, .slice A n cap] 29)).alloc (.cells #[.int .i8 0, .slice none 0 0] 29)).cell? ⟨w.heap.size, 1, none⟩ = some (.slice A n cap) := by simp
  have r0 : ((w.alloc (.cells #[.int .i8 X, .slice A n cap] 29)).alloc (.cells #[.int .i8 0, .slice none 0 0] 29)).cell? ⟨w.heap.size + 1, 0, none⟩ = some (.int .i8 0) := by simp
  have r1 : ((w.alloc (.cells #[.int .i8 X, .slice A n cap] 29)).alloc (.cells #[.int .i8 0, .slice none 0 0] 29)).cell? ⟨w.heap.size + 1, 1, none⟩ = some (.slice none 0 0) := by simp
  have f0 : ((w.alloc (.cells #[.int .i8 X, .slice A n cap] 29)).alloc (.cells #[.int .i8 0, .slice none 0 0] 29)).frozen? ⟨w.heap.size + 1, 0, none⟩ = false := by simp
  have f1 : ((w.alloc (.cells #[.int .i8 X, .slice A n cap] 29)).alloc (.cells #[.int .i8 0, .slice none 0 0] 29)).frozen? ⟨w.heap.size + 1, 1, none⟩ = false := by simp
  have hsz : w.heap.size + 1 < ((w.alloc (.cells #[.int .i8 X, .slice A n cap] 29)).alloc (.cells #[.int .i8 0, .slice none 0 0] 29)).heap.size := by simp
  have hq := l07Ok_any w.heap.size X A n cap g hn hX hs _ d0 d1 (hr.below k0 (Nat.le_refl _))
  have HP := Lib.hid (hr.below k0 (Nat.le_refl _))
  have HI := Lib.hid (hi.below k0 (Nat.le_refl _))
  have G4 := Lib.hid (And.intro r0 (And.intro r1 (And.intro f0 (And.intro f1 hsz))))
  have K0 := Lib.hid k0
  clear hr hi hs r0 r1 f0 f1 hsz k0
  rcases hv : shtB X n g with _ | _
  · have HC := Lib.hid (picC_no (X := X) (n := n) (g := g) (m := m) (xs := xs) (frmC_bad hv) (by decide))
    rw [hv] at hq
    have Hq := Lib.hid hq; clear hq hv HI HP
    go_enter Tryd.func15, Tryd.ntmps15
    go_wp2_with fail
    generalize ((w.alloc (.cells #[.int .i8 X, .slice A n cap] 29)).alloc (.cells #[.int .i8 0, .slice none 0 0] 29)) = W0 at *
    refine Hq.out.mono ?_; rintro e w1 ⟨rfl, hb1⟩
    have s0 := below_cellOf hb1 G4.out.1 (Nat.le_refl _)
    have s1 := below_cellOf hb1 G4.out.2.1 (Nat.le_refl _)
    have u0 := (hb1.frozen (p := ⟨w.heap.size + 1, 0, none⟩) G4.out.2.2.2.2).trans G4.out.2.2.1
    have u1 := (hb1.frozen (p := ⟨w.heap.size + 1, 1, none⟩) G4.out.2.2.2.2).trans G4.out.2.2.2.1
    have KE := Lib.hid (K0.out.trans (hb1.mono K0.out.size))
    clear hb1 d0 d1 G4 K0 Hq
    go_wp2_with fail
    refine bodyPost_ret (v := .tuple #[.agg #[.int .i8 0, .slice none 0 0], .int .i64 1]) (by simp [results, Tryd.results15, go_sem, s0, s1]) rfl (PicOut.of_no HC.out (by decide) ⟨_, rfl, .nil _ _ _ _ _ _ _ _, ?_⟩)
    exact (KE.out.setCell (by show _ ≤ w.heap.size + 1; omega) _).setCell (by show _ ≤ w.heap.size + 1; omega) _
  · rw [hv] at hq
    have Hq := Lib.hid hq; clear hq
    have HV := Lib.hid hv; clear hv
    have D0 := Lib.hid d0; have D1 := Lib.hid d1; clear d0 d1
    go_enter Tryd.func15, Tryd.ntmps15
    go_wp2_with fail
    generalize ((w.alloc (.cells #[.int .i8 X, .slice A n cap] 29)).alloc (.cells #[.int .i8 0, .slice none 0 0] 29)) = W0 at *
    refine Hq.out.mono ?_; rintro e w1 ⟨rfl, hb1⟩
    have R1 := Lib.hid hb1
    clear hb1 Hq
    go_wp2_with fail
    go_loopw [6] (fun jv wr => ∃ j : Nat, j ≤ m ∧ jv = .int .i64 (j : Int) ∧ (∀ i, i < j → inB (xs i) 0 ((n : Int) - 1) = true) ∧ Below W0.heap.size W0 wr) (fun jv _ => m - (intOf jv).toNat)
    case atStart => exact ⟨0, Nat.zero_le _, rfl, fun j hj => by omega, R1.out⟩
    case round =>
      clear R1
      obtain ⟨j, hj, rfl, hall, hB⟩ := hrel
      have HA := Lib.hid hall; clear hall
      have HB := Lib.hid hB; clear hB
      by_cases hjm : j < m
      · rcases HI.out.below HB.out (Nat.le_refl _) with h0 | ⟨b, o, rfl, hlt, hc⟩
        · exfalso; omega
        have cj := hc j hjm
        clear hc
        have hj' : (j : Int) < m := by omega
        have e1 := below_cellOf HB.out D1.out (Nat.le_refl _)
        have hin := fun W => l00In_any (xs j) 0 ((n : Int) - 1) W
        rcases hx : inB (xs j) 0 ((n : Int) - 1) with _ | _
        · have HC := Lib.hid (picC_no (X := X) (n := n) (g := g) (m := m) (xs := xs) (frmC_no HV.out hjm hx) (by decide))
          rw [hx] at hin
          have Hin := Lib.hid hin; clear hin hx
          generalize xs j = x at *
          go_wp2_with fail
          refine wp_region_quietD (Below wr.heap.size wr) (by kernel_rfl) (by kernel_rfl) (below_drew1 _) ?_
          have n0 := below_nonempty wr
          have fc := fun (x : WIn (Below wr.heap.size wr)) => inCell cj x
          have f1 := fun (x : WIn (Below wr.heap.size wr)) => inCell e1 x
          repeat (go_big_quiet_step ((go_at_call 31; exact inCallS _ (Hin.out _))))
          refine wpQuiet_nil ?_
          rintro w2 ⟨⟨w3, hb2⟩, rfl⟩
          have R3 := HB.out.trans (hb2.mono HB.out.size)
          have s0 := below_cellOf R3 G4.out.1 (Nat.le_refl _)
          have s1 := below_cellOf R3 G4.out.2.1 (Nat.le_refl _)
          have u0 := (R3.frozen (p := ⟨w.heap.size + 1, 0, none⟩) G4.out.2.2.2.2).trans G4.out.2.2.1
          have u1 := (R3.frozen (p := ⟨w.heap.size + 1, 1, none⟩) G4.out.2.2.2.2).trans G4.out.2.2.2.1
          have KE := Lib.hid (K0.out.trans (R3.mono K0.out.size))
          clear R3 hb2 cj e1 fc f1 n0
          go_wp2_with fail
          refine bodyPost_ret (v := .tuple #[.agg #[.int .i8 0, .slice none 0 0], .int .i64 2]) (by simp [results, Tryd.results15, go_sem, s0, s1]) rfl (PicOut.of_no HC.out (by decide) ⟨_, rfl, .nil _ _ _ _ _ _ _ _, ?_⟩)
          exact (KE.out.setCell (by show _ ≤ w.heap.size + 1; omega) _).setCell (by show _ ≤ w.heap.size + 1; omega) _
        · rw [hx] at hin
          have Hin := Lib.hid hin; clear hin
          have HX := Lib.hid hx; clear hx
          generalize hxe : xs j = x at *
          have HXE := Lib.hid hxe; clear hxe
          go_wp2_with fail
          refine wp_region_quietD (Below wr.heap.size wr) (by kernel_rfl) (by kernel_rfl) (below_drew1 _) ?_
          have n0 := below_nonempty wr
          have fc := fun (x : WIn (Below wr.heap.size wr)) => inCell cj x
          have f1 := fun (x : WIn (Below wr.heap.size wr)) => inCell e1 x
          repeat (go_big_quiet_step ((go_at_call 31; exact inCallS _ (Hin.out _))))
          refine wpQuiet_nil ?_
          rintro w2 ⟨⟨w3, hb2⟩, rfl⟩
          have R3 := Lib.hid (HB.out.trans (hb2.mono HB.out.size))
          clear hb2 cj e1 fc f1 n0
          go_wp2_with fail
          go_roundw
          case rel => exact ⟨j + 1, by omega, by go_num, fun i hi => by
            by_cases e : i = j
            · subst e; rw [HXE.out]; exact HX.out
            · exact HA.out i (by omega), R3.out⟩
          case measure => simp [intOf]; omega
      · obtain rfl : j = m := by omega
        have hF := Lib.hid (frmC_yes (X := X) (n := n) (g := g) HV.out HA.out)
        by_cases h12 : 12 < j
        · have HC := Lib.hid (picC_lim (X := X) (n := n) (g := g) hF.out h12)
          have h12' : (12 : Int) < j := by omega
          have s0 := below_cellOf HB.out G4.out.1 (Nat.le_refl _)
          have s1 := below_cellOf HB.out G4.out.2.1 (Nat.le_refl _)
          have u0 := (HB.out.frozen (p := ⟨w.heap.size + 1, 0, none⟩) G4.out.2.2.2.2).trans G4.out.2.2.1
          have u1 := (HB.out.frozen (p := ⟨w.heap.size + 1, 1, none⟩) G4.out.2.2.2.2).trans G4.out.2.2.2.1
          have KE := Lib.hid (K0.out.trans (HB.out.mono K0.out.size))
          go_wp2_with fail
          refine bodyPost_ret (v := .tuple #[.agg #[.int .i8 0, .slice none 0 0], .int .i64 3]) (by simp [results, Tryd.results15, go_sem, s0, s1]) rfl (PicOut.of_no HC.out (by decide) ⟨_, rfl, .nil _ _ _ _ _ _ _ _, ?_⟩)
          exact (KE.out.setCell (by show _ ≤ w.heap.size + 1; omega) _).setCell (by show _ ≤ w.heap.size + 1; omega) _
        · have HC := Lib.hid (picC_ok (X := X) (n := n) (g := g) hF.out h12)
          have h12' : ¬ (12 : Int) < j := by omega
          have o0 := World.ownsRow_lit (base := wr.heap.size) (e := 50) (size := 64) wr #[] 0 (by simp) (Nat.zero_le _) rfl
          have hb0 := (Below.refl wr.heap.size wr).alloc (Nat.le_refl _) (.cells #[] 50)
          have O0 := Lib.hid (And.intro o0 hb0); clear o0 hb0
          obtain ⟨wo, hwo⟩ : ∃ wo : World, wo = wr := ⟨_, rfl⟩
          rw [← hwo] at HB O0 ⊢
          clear hwo
          go_wp2_with fail
          go_loopw [7, 8] (fun lv jv wr => ∃ (k q cq : Nat), k ≤ j ∧ jv = .int .i64 (k : Int) ∧ lv = .slice (some ⟨q, 0, none⟩) k cq ∧ wr.ownsRow wo.heap.size 50 64 (.slice (some ⟨q, 0, none⟩) k cq) k (prL (picG g xs) k) ∧ Below wo.heap.size wo wr) (fun _ jv _ => j - (intOf jv).toNat)
          case atStart => exact ⟨0, _, _, Nat.zero_le _, rfl, rfl, by simpa [prL_nil] using O0.out.1, O0.out.2⟩
          case round =>
            clear O0
            obtain ⟨k, q, cq, hk, rfl, rfl, ho, hB2⟩ := hrel
            have R2 := Lib.hid (HB.out.trans (hB2.mono HB.out.size))
            have HB2 := Lib.hid hB2; clear hB2
            by_cases hkj : k < j
            · rcases HI.out.below HB.out (Nat.le_refl _) with h0 | ⟨b, o, rfl, hlt, hc⟩
              · exfalso; omega
              rcases HP.out.below HB.out (Nat.le_refl _) with h0 | ⟨bp, op, rfl, hltp, hcp⟩
              · have := inB_true.1 (HA.out k hkj); exfalso; omega
              have cj := hc k hkj
              have hin := inB_true.1 (HA.out k hkj)
              obtain ⟨p, hp⟩ : ∃ p : Nat, xs k = (p : Int) := ⟨(xs k).toNat, by omega⟩
              have hpn : p < n := by omega
              have hpn' : (p : Int) < n := by omega
              have hG : Hid (picG g xs k = g p) := Lib.hid (by unfold picG; rw [hp, Int.toNat_natCast])
              rw [hp] at cj
              have pk := Lib.hid (hcp p hpn)
              have hk' : (k : Int) < j := by omega
              have e1 := Lib.hid (below_cellOf HB.out D1.out (Nat.le_refl _))
              have cj := Lib.hid cj
              have HO := Lib.hid ho
              clear hc hcp hp hin ho
              go_wp2_with fail
              obtain ⟨VK, hVK⟩ : ∃ VK, arrV .i16 64 (g p) = VK := ⟨_, rfl⟩
              have HVK := Lib.hid hVK; clear hVK
              have hS0 : Below wo.heap.size wo wr.drew := HB2.out.drew
              have HO := Lib.hid HO.out.drew
              refine wp_region_held (S := fun W => Below wo.heap.size wo W) (by kernel_rfl) ?_
              show wpAnyH _ _ _ _ _ _ _ _ wr.drew
              generalize wr.drew = Wd at *
              simp only [List.size_toArray, List.length_cons, List.length_nil]
              refine wpAnyH_take (i := 0) (v := .slice (some ⟨q, 0, none⟩) k cq) rfl (by kernel_rfl) (by kernel_rfl) (by kernel_rfl) (fun _ _ _ h => h) (.inl ⟨by rfl, fun W _ => by go_simp⟩) hS0 ?_
              go_frame
              refine wpAnyH_take (i := 1) (v := .pointer (some ⟨w.heap.size, 1, none⟩)) rfl (by kernel_rfl) (by kernel_rfl) (by kernel_rfl) (fun _ _ _ h => h) (.inl ⟨by rfl, fun W _ => by go_simp⟩) hS0 ?_
              go_frame
              refine wpAnyH_take (i := 2) (v := .slice (some ⟨bp, op, none⟩) n cap) rfl (by kernel_rfl) (by kernel_rfl) (by kernel_rfl) (fun _ _ _ h => h) (.inl ⟨by rfl, fun W hW => by have h := below_cellOf hW e1.out (Nat.le_refl _); go_simp⟩) hS0 ?_
              go_frame
              refine wpAnyH_take (i := 3) (v := .slice (some ⟨b, o, none⟩) j c) rfl (by kernel_rfl) (by kernel_rfl) (by kernel_rfl) (fun _ _ _ h => h) (.inl ⟨by rfl, fun W _ => by go_simp⟩) hS0 ?_
              go_frame
              refine wpAnyH_take (i := 4) (v := .int .i64 (k : Int)) rfl (by kernel_rfl) (by kernel_rfl) (by kernel_rfl) (fun _ _ _ h => h) (.inl ⟨by rfl, fun W _ => by go_simp⟩) hS0 ?_
              go_frame
              refine wpAnyH_take (i := 5) (v := .pointer (some ⟨b, o + k, none⟩)) rfl (by kernel_rfl) (by kernel_rfl) (by kernel_rfl) (fun _ _ _ h => h) (.inl ⟨by rfl, fun W _ => by go_simp⟩) hS0 ?_
              go_frame
              refine wpAnyH_take (i := 6) (v := .int .i64 (p : Int)) rfl (by kernel_rfl) (by kernel_rfl) (by kernel_rfl) (fun _ _ _ h => h) (.inl ⟨by rfl, fun W hW => by have h := below_cellOf hW cj.out (Nat.le_refl _); go_simp⟩) hS0 ?_
              go_frame
              refine wpAnyH_take (i := 7) (v := .pointer (some ⟨bp, op + p * 64, none⟩)) rfl (by kernel_rfl) (by kernel_rfl) (by kernel_rfl) (fun _ _ _ h => h) (.inl ⟨by rfl, fun W _ => by go_simp⟩) hS0 ?_
              go_frame
              refine wpAnyH_take (i := 8) (v := .agg VK) rfl (by kernel_rfl) (by kernel_rfl) (by kernel_rfl) (fun _ _ _ h => h) (yields_load_part (fun W hW => pk.out.below hW hltp) HVK.out 50 (.tmp 47) rfl rfl (by go_simp) Tryd.underlying50 sizePrint) hS0 ?_
              go_frame
              refine wpAnyH_ready (rs := [9]) (by kernel_rfl) (by decide) ?_
              refine AllReadyH.cons rfl ?_ AllReadyH.nil
              intro K5 hK5
              refine step_lit_pr (.tmp 48) (by rfl) (by rfl) Tryd.underlying27 (by go_simp) HVK.out ?_
              have hS5 : Below wo.heap.size wo (Wd.alloc (.cells (arrV .i16 64 (g p)) 50)) := hS0.alloc hS0.size _
              have hx5 := Lib.hid (lit_at Wd (g p))
              have ho5 := Lib.hid (HO.out.alloc (.cells (arrV .i16 64 (g p)) 50))
              clear HVK
              generalize (Wd.alloc (.cells (arrV .i16 64 (g p)) 50)) = W5 at *
              refine hK5.out _ _ hS5 (fun _ => ?_)
              clear hK5 K5
              try go_frame
              refine wpAnyH_ready (rs := [10]) (by kernel_rfl) (by decide) ?_
              refine AllReadyH.cons rfl ?_ AllReadyH.nil
              intro K6 hK6
              refine step_append_prs (c := 1) (by rfl) (.tmp 40) (.tmp 49) (by rfl) Tryd.underlying27 (by go_simp) ho5.out (.inr (by omega)) (by go_simp) hx5.out (by omega) hS5.size ?_
              intro gg cq6 w6 hown6 hbl6 hgr6
              have hS6 := hS5.trans hbl6
              rw [prL_snoc _ _ _ hG.out.symm] at hown6
              have O6 := Lib.hid hown6
              clear hown6 hbl6 hgr6
              refine hK6.out _ _ hS6 (fun _ => ?_)
              clear hK6 K6
              try go_frame
              refine wpAnyH_take (i := 11) (v := .slice (some ⟨gg, 0, none⟩) (k + 1) cq6) rfl (by kernel_rfl) (by kernel_rfl) (by kernel_rfl) (fun _ _ _ h => h) (.inl ⟨by rfl, fun W _ => by go_simp⟩) hS6 ?_
              go_frame
              refine wpAnyH_done (by kernel_rfl) ?_ _
              go_wp2_with fail
              go_roundw
              case rel => exact ⟨k + 1, gg, cq6, by omega, by go_num, rfl, O6.out, hS6⟩
              case measure => simp [intOf]; omega
            · obtain rfl : k = j := by omega
              have hown := own_row ho
              have hR := hown.2
              have e0 := below_cellOf R2.out D0.out (Nat.le_refl _)
              have z0 := G4.out.2.2.2.2
              have z1 := R2.out.size
              clear ho
              go_wp2_with fail
              refine (l07With_any w.heap.size X q 0 k cq (picG g xs) (by omega) _ e0 hR.at0 hR.lt).mono ?_; rintro e w5 ⟨q5, c5, rfl, hq5, hR5, hb5⟩
              have R5 := R2.out.trans (hb5.mono R2.out.size)
              have s0 := below_cellOf R5 G4.out.1 (Nat.le_refl _)
              have s1 := below_cellOf R5 G4.out.2.1 (Nat.le_refl _)
              have u0 := (R5.frozen (p := ⟨w.heap.size + 1, 0, none⟩) G4.out.2.2.2.2).trans G4.out.2.2.1
              have u1 := (R5.frozen (p := ⟨w.heap.size + 1, 1, none⟩) G4.out.2.2.2.2).trans G4.out.2.2.2.1
              have KE := Lib.hid (K0.out.trans (R5.mono K0.out.size))
              clear R5 hb5 hR hown e0
              go_wp2_with fail
              refine bodyPost_ret (v := .tuple #[.agg #[.int .i8 X, .slice (some ⟨q5, 0, none⟩) k c5], .int .i64 0]) (by simp [results, Tryd.results15, go_sem, s0, s1]) rfl (PicOut.of_ok HC.out ⟨_, rfl, ?_, ?_⟩)
              · exact ((hR5.other (by show q5 ≠ w.heap.size + 1; omega) _).other (by show q5 ≠ w.heap.size + 1; omega) _).mineL c5 (by omega)
              · exact (KE.out.setCell (by show _ ≤ w.heap.size + 1; omega) _).setCell (by show _ ≤ w.heap.size + 1; omega) _
end Go.Proofs.YtfjjbmiocomelaaDoor
