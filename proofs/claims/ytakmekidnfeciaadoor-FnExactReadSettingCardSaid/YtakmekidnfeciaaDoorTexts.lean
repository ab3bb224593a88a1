/-
  Texts of numbers: what the reference's function returns, for every number that is at least 0. No condition.
-/
import Derived.Test.YtakmekidnfeciaaDoorNames
import Derived.Test.YtakmekidnfeciaaDoorPlainText
import Derived.Deep.RegionWith
namespace Go.Proofs.YtakmekidnfeciaaDoor
open Go.RowKit

/-- One byte as a text, wherever it lies. -/
theorem conv_at (b : UInt8) (d : Int) (hd : d = b.toNat) (g : Nat) (w : World) (hc : w.cell? ⟨g, 0, none⟩ = some (.int .u8 d)) : (convert 53 9 (.slice (some ⟨g, 0, none⟩) 1 1)).run Tryd.prog w = .ok (strV [b]) w := by
  subst hd
  refine run_convert_bytes_back (P := Tryd.prog) w 53 9 5 ⟨g, 0, none⟩ 1 [b] Tryd.underlying53 Tryd.underlying5 Tryd.underlying9 ?_
  intro j hj
  have hj0 : j = 0 := by simp at hj; omega
  subst hj0
  simpa [Addr.add] using hc

set_option maxRecDepth 100000 in
set_option maxHeartbeats 400000 in
theorem decimal_any (n : Nat) : n < 9223372036854775808 → ∀ w : World, Calls Tryd.prog 101 #[.int .i64 n] w fun e w' => e = .returned (strV (decN n)) ∧ Below w.heap.size w w' := by
  induction n using Nat.strongRecOn with
  | _ n ih =>
    intro hn w
    by_cases h : n < 10
    · rw [decN_lo h]
      exact decimal_small n h w
    · have hi := ih (n / 10) (by omega) (by omega)
      have hl := decN_le (n / 10) (by omega)
      have hbn : (48 + ((n : Int) % 10)) = (UInt8.ofNat (48 + n % 10)).toNat := by simp; omega
      rw [decN_hi (by omega)]
      generalize UInt8.ofNat (48 + n % 10) = b at hbn ⊢
      generalize decN (n / 10) = x at hi hl ⊢
      rw [show ((n / 10 : Nat) : Int) = (n : Int) / 10 by omega] at hi
      have hadd := fun W => run_string_add_lists (P := Tryd.prog) W x [b] (by omega) (by simp)
      have hconv := fun W => conv_one b (48 + (n : Int) % 10) hbn W
      have hconv2 := conv_at b (48 + (n : Int) % 10) hbn
      have m0 : 0 ≤ (n : Int) % 10 := by omega
      have m1 : (n : Int) % 10 < 10 := by omega
      have d0 : 0 ≤ (n : Int) / 10 := by omega
      have e1 : IntKind.i64.wrap ((n : Int) / 10) = (n : Int) / 10 := IntWalk.i64_in _ (by omega)
      have e2 : (n : Int).tmod 10 = (n : Int) % 10 := Int.tmod_eq_emod_of_nonneg (by omega)
      have e3 : IntKind.i64.wrap (48 + (n : Int) % 10) = 48 + (n : Int) % 10 := IntWalk.i64_in _ (by omega)
      have e4 : IntKind.u8.wrap (48 + (n : Int) % 10) = 48 + (n : Int) % 10 := by rw [IntKind.wrap_u8]; omega
      have Hi := Lib.hid hi; clear hi ih hbn
      go_enter Tryd.func101, Tryd.ntmps101
      go_wp2_with fail
      go_region_with (go_at_call 101; refine (Hi.out _).mono ?_; rintro e w1 ⟨rfl, hb1⟩; obtain ⟨hc1, hf1⟩ := bcell hb1)
      all_goals
        have hz1 := hb1.size
        simp at hz1
        go_wp2
        go_ret
        refine ⟨rfl, ?_⟩
        repeat (first | exact Below.refl _ _ | apply Below.drew | apply below_drewN' | (refine Below.trans ?_ (Below.mono hb1 (by simp))) | (refine Below.alloc ?_ (by first | omega | (simp; done) | (simp; omega)) _))
end Go.Proofs.YtakmekidnfeciaaDoor
