/-
  What every law of this seat shares: if a call of it returns true and nothing below the old end of memory has turned, then its row's post holds; and what the listed variables hold, cell by cell. Of whatever program; no condition of ours.
-/
import Derived.Test.YtnlcjbobfhmnmabGreatDoorRows
import Derived.WalkKit
import Derived.ProofKit
import Derived.OpenShut
import Derived.OpenVars
import Derived.LaidMore
import Derived.SevenTiedAt
import Derived.Deep.DeepHandedRow
import Derived.Deep.DeepWitnessRowRef
import Derived.Stop.LaidTwo
import Derived.Lib.LaidTab
import Derived.Lib.Hide
namespace Go.Proofs.YtnlcjbobfhmnmabGreatDoor
open Go.ChangeShapes Go.WideShapes Go.ChangeAt Go.RowKit

section
variable {H : Type} {enc : TypeId × Value → H} {P : Program}

/-- One closed fact: each type of the list can be read and is a row of the table. -/
def typesRowed (P : Program) (ts : List TypeId) : Bool := ts.all fun t => P.readableRec t && decide (t < P.types.size)

theorem below_trodAll (hl : laidOutB P = true) {W W' : World} (hb : Below W.heap.size W W') :
    ∀ {ts : List TypeId} {vs : List Value} {ds : List (DataW H)} {ps : List MemPlace}, typesRowed P ts = true → (∀ x ∈ ps, x.block < W.heap.size) →
      DataW.TrodAll enc P W 0 (fun _ => true) true ts vs ds ps → DataW.TrodAll enc P W' 0 (fun b => decide (b < W.heap.size)) true ts vs ds ps
  | [], _, _, _, _, _, h => by
    obtain ⟨rfl, rfl, rfl⟩ := trodAll_nil h
    exact trodAll_mk0
  | t :: ts, _, _, _, hr, hlt, h => by
    obtain ⟨v, vs', d, ds', p, q, rfl, rfl, rfl, h1, h2⟩ := trodAll_cons h
    simp only [typesRowed, List.all_cons, Bool.and_eq_true, decide_eq_true_eq] at hr
    exact trodAll_cons_mk (Below.trod hl hr.1.1 hr.1.2 h1 hb fun x hx => hlt x (List.mem_append_left _ hx))
      (below_trodAll hl hb (by simpa [typesRowed] using hr.2) (fun x hx => hlt x (List.mem_append_right _ hx)) h2)

theorem len_cons {α : Type} {l : List α} {n : Nat} (h : l.length = n + 1) : ∃ x r, l = x :: r ∧ r.length = n := by
  cases l with
  | nil => cases h
  | cons x r => exact ⟨x, r, rfl, by simpa using h⟩

theorem trodVars_length {w : World} {sp : Nat → Bool} : ∀ {ns : List String} {gs : List (DataW H)} {ps : List MemPlace}, DataW.TrodVars enc P w sp ns gs ps → gs.length = ns.length
  | [], [], _, _ => rfl
  | [], _ :: _, _, h => h.elim
  | _ :: _, [], _, h => h.elim
  | n :: ns, d :: ds, _, h => by
    obtain ⟨_, _, _, _, _, _, _, _, _, _, hs, _⟩ := h
    simp [trodVars_length hs]

theorem trodAll_length {w : World} {b : Nat} {sp : Nat → Bool} {hd : Bool} : ∀ {ts : List TypeId} {vs : List Value} {ds : List (DataW H)} {ps : List MemPlace}, DataW.TrodAll enc P w b sp hd ts vs ds ps → ds.length = ts.length
  | [], _, _, _, h => by obtain ⟨rfl, rfl, rfl⟩ := trodAll_nil h; rfl
  | t :: ts, _, _, _, h => by
    obtain ⟨v, vs', d, ds', p, q, rfl, rfl, rfl, h1, h2⟩ := trodAll_cons h
    simp [trodAll_length h2]

/-- THE POST OF A LAW: it returned true, and below the old end of memory nothing has turned. -/
theorem law_post {f : Func} {s : ChangeSpec} {W W' : World} {args : Array Value} {ds gs : List (DataW H)} {before : List MemPlace} {tb : TypeId}
    (hl : laidOutB P = true) (hp : typesRowed P f.params.toList = true) (hv : varsRowed P s.vars = true) (hr : f.resultTypes = #[tb]) (htb : P.underlying tb = some .bool)
    (hW : DataW.Whole enc P f.params.toList s.vars false W args.toList ds gs before)
    (hs : s.fn H (ds ++ gs) = { results := [.lit (.bool true)], args := ds, vars := gs }) (hb : Below W.heap.size W W') :
    s.post enc P f false true false false W args (.bool true) W' := by
  have hlt : ∀ p ∈ before, p.block < W.heap.size := fun p hp => hW.lt p hp
  have hW' := hW
  obtain ⟨p, q, hA, hV, rfl, _, _⟩ := hW
  refine ⟨ds, gs, p ++ q, [], p, q, hW', ?_, ?_, ?_, World.keptBut_mono (fun x hx => ⟨hx, ?_⟩) (hb.frame (· ∈ p ++ q)), fun h => by cases h⟩
  · rw [hs, hr]
    exact trodAll_mk1 (shut_bool htb _)
  · rw [hs]
    exact below_trodAll hl hb hp (fun x hx => hlt x (List.mem_append_left _ hx)) hA
  · rw [hs]
    exact Below.trodVars hl hb hv hV
  · rcases List.mem_append.1 hx with h | h
    · exact .inr (.inl h)
    · exact .inr (.inr h)
end

/-! ### WHAT A LISTED VARIABLE HOLDS -/

theorem laidMet_at {P : Program} {W : World} {n : String} {d : DataW Unit} : ∀ {l : List (String × DataW Unit)}, laidMet P l W → (n, d) ∈ l →
    ∃ g t cs fuel p, P.globalNamed n = some g ∧ (P.globals[g]?).map (·.type) = some t ∧ W.var? P n = some cs ∧ DataW.trod (H := Unit) (fun _ => ()) P W 0 (fun _ => true) false fuel t cs.toList = some (d, p)
  | [], _, hm => by cases hm
  | x :: r, h, hm => by
    rcases List.mem_cons.1 hm with rfl | hm
    · obtain ⟨ps, ⟨g, t, cs, fuel, p, q, h1, h2, h3, h4, _, _⟩, _, _⟩ := h
      exact ⟨g, t, cs, fuel, p, h1, h2, h3, h4⟩
    · exact laidMet_at h.tail hm

/-- An array of strings that reads as a table holds the table's strings, cell for cell. -/
theorem cells_of_strtab {H : Type} {enc : TypeId × Value → H} {P : Program} {w : World} {base : Nat} {sp : Nat → Bool} {held : Bool} {fuel : Nat} {t e : TypeId} {n : Nat} {cs : List Value} {zs : List (List UInt8)} {p : List MemPlace}
    (ht : P.underlying t = some (.array n e)) (he : P.underlying e = some .string) (hce : P.cellsOf e = 1) (hct : P.cellsOf t = n)
    (h : DataW.trod enc P w base sp held fuel t cs = some (.agg (zs.map fun z => .lit (.string z)), p)) : cs = zs.map fun z => Value.string ⟨z.toArray⟩ := by
  obtain ⟨xs, m, _, hx, hl, hn, hel⟩ := DataW.trod_array ht h
  rw [hce] at hel
  simp only [Prod.mk.injEq, DataW.agg.injEq] at hx
  have hzl : zs.length = n := by
    have := congrArg List.length hx.1
    simp at this
    omega
  apply List.ext_getElem?
  intro i
  by_cases hi : i < n
  · have h1 := hel i hi
    rw [Nat.mul_one] at h1
    have hxi : xs[i]? = some (xs[i]'(by omega)) := List.getElem?_eq_getElem (by omega)
    rw [hxi] at h1
    obtain ⟨s, hc, hs, _⟩ := DataW.trod_string he h1
    have h2 : cs[i]? = some (.string s) := by
      have := congrArg (·[0]?) hc
      simpa [List.getElem?_take, List.getElem?_drop] using this
    have h3 : (zs.map fun z => (DataW.lit (.string z) : DataW H))[i]? = (xs.map (·.1))[i]? := by rw [hx.1]
    rw [List.getElem?_map, List.getElem?_map, hxi, hs] at h3
    have hzi : zs[i]? = some (zs[i]'(by omega)) := List.getElem?_eq_getElem (by omega)
    rw [hzi] at h3
    simp only [Option.map_some, Option.some.injEq, DataW.lit.injEq, Lit.string.injEq] at h3
    rw [h2, List.getElem?_map, hzi, Option.map_some, h3]
  · rw [List.getElem?_eq_none (by omega), List.getElem?_eq_none (by simp; omega)]

/-- THE SENTINELS OF A LIST: different addresses, each variable's cell, each pointee's row with the range that '==' wants. -/
theorem laid_sentinels {P : Program} {nm : String} {r : List (String × DataW Unit)} {W : World} {ti tp te ts : TypeId} {ms : Array (String × TypeId)} {f : Field}
    (hi : P.underlying ti = some (.interface ms)) (hrow : ∀ u, P.typeName? 3 u = some nm → u = tp)
    (hp : P.underlying tp = some (.pointer te)) (he : P.underlying te = some (.struct #[f])) (hft : f.type = ts) (hfo : f.offset = 0) (hs : P.underlying ts = some .string) (hc : P.cellsOf te = 1) (hcs : P.cellsOf ts = 1) :
    ∀ (ns : List (String × List UInt8)), (∀ x ∈ ns, ∃ g, P.globalNamed x.1 = some g ∧ (P.globals[g]?).map (·.type) = some ti) →
      laidMet P (ns.map (fun x => (x.1, DataW.iface nm (.ptr (.agg [.lit (.string x.2)])))) ++ r) W →
      ∃ sa : List Addr, sa.length = ns.length ∧ (sa.map fun a => MemPlace.cell a.block a.off).Nodup ∧ (∀ a ∈ sa, ∃ c t, W.heap[a.block]? = some (.cells c t (0, 0))) ∧
        (∀ ps, DataW.LaidVars P W (ns.map (fun x => (x.1, DataW.iface nm (.ptr (.agg [.lit (.string x.2)])))) ++ r) ps → ∀ a ∈ sa, MemPlace.cell a.block a.off ∈ ps) ∧
        ∀ (i : Nat) (x : String × List UInt8) (a : Addr), ns[i]? = some x → sa[i]? = some a → W.var? P x.1 = some #[.iface tp (.pointer (some a))]
  | [], _, _ => ⟨[], rfl, by simp, by simp, by simp, by simp⟩
  | (n, text) :: ns, hg, h => by
    obtain ⟨sa, hlen, hnd, hrows, hin, hvar⟩ := laid_sentinels hi hrow hp he hft hfo hs hc hcs ns (fun x hx => hg x (List.mem_cons_of_mem _ hx)) h.tail
    obtain ⟨ps, ⟨g, t, cs, fl, p, q, h1, h2, h3, h4, hq, e⟩, hnps, hr⟩ := h
    obtain ⟨g', hg1, hg2⟩ := hg (n, text) List.mem_cons_self
    obtain rfl := Option.some.inj (hg1.symm.trans h1)
    obtain rfl := Option.some.inj (hg2.symm.trans h2)
    obtain ⟨l⟩ := cs
    have ok : ∀ u v, l = [.iface u v] → Value.okWide P W .any 0 u v := fun u v el => by
      subst el
      exact (hr g' 0 (by subst e; simp [MemPlace.row])).2 u v (by simpa using World.var?_cell h1 h3 0)
    obtain ⟨a, s, rfl, hca, hsa, hza, rfl⟩ := errorString_of_trod hi hrow hp he hft hfo hs hc hcs h4 ok
    have ha : MemPlace.cell a.block a.off ∈ ps := by subst e; simp [MemPlace.row]
    refine ⟨a :: sa, by simp [hlen], ?_, ?_, ?_, ?_⟩
    · simp only [List.map_cons, List.nodup_cons]
      refine ⟨fun hm => ?_, hnd⟩
      obtain ⟨b, hb, eb⟩ := List.mem_map.1 hm
      have hbq := hin q hq b hb
      rw [eb] at hbq
      subst e
      have hd := (List.nodup_append.1 hnps).2.2
      exact hd (MemPlace.cell a.block a.off) (by simp [MemPlace.row]) (MemPlace.cell a.block a.off) hbq rfl
    · intro b hb
      rcases List.mem_cons.1 hb with rfl | hb
      · exact (hr b.block b.off ha).1
      · exact hrows b hb
    · intro ps' hps' b hb
      obtain ⟨g2, t2, cs2, fl2, p2, q2, k1, k2, k3, k4, kq, e2⟩ := hps'
      subst e2
      rcases List.mem_cons.1 hb with rfl | hb
      · obtain rfl := Option.some.inj (h1.symm.trans k1)
        obtain rfl := Option.some.inj (h2.symm.trans k2)
        obtain rfl := Option.some.inj (h3.symm.trans k3)
        obtain ⟨a', s', e3, _, _, _, rfl⟩ := errorString_of_trod hi hrow hp he hft hfo hs hc hcs k4 ok
        have : b = a' := by simpa using e3
        subst this
        simp [MemPlace.row]
      · exact List.mem_append_right _ (hin q2 kq b hb)
    · intro i x b hx hb
      cases i with
      | zero =>
        simp only [List.getElem?_cons_zero, Option.some.injEq] at hx hb
        subst hx; subst hb
        exact h3
      | succ i => exact hvar i x b (by simpa using hx) (by simpa using hb)
end Go.Proofs.YtnlcjbobfhmnmabGreatDoor
