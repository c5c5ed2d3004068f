/-
  The program's map of a link's calls.
-/
import Derived.Test.YtnkoapccnlgijaaStLink
import Derived.Test.YtnkoapccnlgijaaCallMap
import Derived.Test.YtnkoapccnlgijaaReg
import Derived.Test.YtnkoapccnlgijaaBasic
import Derived.Maps.OwnSet
import Derived.MapKept
set_option linter.unusedSimpArgs false
namespace Go.Proofs.Ytnkoapccnlgijaa
open Go.RowKit Go.Maps
set_option linter.unusedVariables false

theorem int_key : Keyed Try.prog 3 := int_keyed Try.underlying3
def trips (l : List Fares.Call) : List (Int × Int × Int) := l.map fun c => (c.t, c.a, c.s)
theorem trips_snoc {l : List Fares.Call} {k : Nat} {x : Fares.Call} (h : l[k]? = some x) : trips (l.take (k + 1)) = trips (l.take k) ++ [(x.t, x.a, x.s)] := by
  rw [take_next h]; simp [trips]
theorem run_makeMap_hint {P : Program} {t k e : TypeId} (hu : P.underlying t = some (.map k e)) (n : Nat) (w : World) : (Instr.makeMap t (some (.int .i64 (n : Int)))).run P w = .ok (.map (some w.heap.size)) (w.alloc (.map #[] 0)) := by
  simp [Instr.makeMap, run_underlying hu, asInt, asIntOf, Result.andThen]

set_option maxRecDepth 100000 in
set_option maxHeartbeats 2000000 in
theorem byTrace_any {H : Type} (nx : Int) (A : Option Addr) (c : Nat) (xs : List Fares.Call) (w : World) (hx : CallRows w w.heap.size A xs) (hs : ∀ x ∈ xs, (Lit.int .i64 x.t).wf = true) (hl : xs.length ≤ 1000000000) :
    Calls Try.prog 46 #[.agg #[.int .i64 nx, .slice A xs.length c]] w fun e w' => ∃ b, e = .returned (.map (some b)) ∧ w.heap.size ≤ b ∧ w'.ownsMap Try.prog 3 (tripleElem (H := H)) b xs.length (tripleMap (trips xs)) ∧ Below w.heap.size w w' := by
  have hmm := fun (n : Nat) (w : World) => run_makeMap_hint (P := Try.prog) Try.underlying54 n w
  go_enter Try.func46, Try.ntmps46
  go_wp2
  go_loopw [13] (fun i wr => ∃ k : Nat, k ≤ xs.length ∧ i = .int .i64 k ∧ wr.ownsMap Try.prog 3 (tripleElem (H := H)) (w.heap.size + 1) k (tripleMap (trips (xs.take k))) ∧ Below w.heap.size w wr) (fun i _ => xs.length - (intOf i).toNat)
  case atStart => exact ⟨0, Nat.zero_le _, rfl, by have h := World.ownsMap_made (w.alloc (.cells #[.int .i64 nx, .slice A xs.length c] 29 (0, 0))) Try.prog 3 (tripleElem (H := H)); simpa [trips, tripleMap] using h, by have h := bA (bA (Below.refl w.heap.size w) (.cells #[.int .i64 nx, .slice A xs.length c] 29 (0, 0))) (.map #[] 0); simpa using h⟩
  case round =>
    obtain ⟨k, hk, rfl, hown, hb⟩ := hrel
    by_cases hlt : k < xs.length
    · obtain ⟨x, hxk⟩ : ∃ x, xs[k]? = some x := ⟨xs[k], List.getElem?_eq_getElem hlt⟩
      obtain ⟨b1, o1, rfl, hb1, hr1⟩ := hx.row (by omega)
      obtain ⟨p0, p1, p2⟩ := (hr1 k x hxk).below hb hb1
      have hkey : keyOf Try.prog 3 (.int .i64 x.t) = some (.int .i64 x.t) := keyOf_int_mk Try.underlying3 (hs x (List.mem_of_getElem? hxk))
      have Hx := Lib.hid hxk; clear hxk hx hs
      have i0 : (0 : Int) ≤ (k : Int) := by omega
      have i1 : (k : Int) < (xs.length : Int) := by omega
      go_wp2_with (first
        | (at_mapUpdate; refine wpList_mapUpdate_own _ rfl _ _ _ 54 rfl 3 49 int_key Try.underlying54 _ (w.heap.size + 1) k _ rfl (hown.alloc _) (by unfold maxLen; omega) _ _ _ rfl rfl hkey _ [] (tripleElem_mk _ _ _) ?_; intro w1 hown1 hgrow1)
        | go_in)
      go_roundw
      case rel => exact ⟨k + 1, by omega, by go_num, by rw [trips_snoc Hx.out, tripleMap_snoc]; exact hown1, (bA hb _).grown hgrow1 (bA hb _).size (fun j hj => by cases hj; omega)⟩
      case measure => simp [intOf]; omega
    · have hke : k = xs.length := by omega
      clear hx hs
      have i0 : ¬ (k : Int) < (xs.length : Int) := by omega
      go_wp2
      go_ret
      subst hke
      rw [List.take_length] at hown
      exact ⟨_, rfl, by omega, hown, hb⟩
theorem validTrace_any (n : Int) (w : World) : Calls Try.prog 44 #[.int .i64 n] w fun e w' => e = .returned (.bool (decide (1 ≤ n ∧ n ≤ 12))) ∧ w = w' := by
  go_enter Try.func44, Try.ntmps44
  go_wp2
  all_goals (go_ret; exact ⟨ret_bool (by rw [Bool.eq_iff_iff]; simp only [ge_iff_le, decide_eq_true_eq, decide_eq_false_iff_not, Bool.and_eq_true, Bool.or_eq_true, Bool.false_eq_true, Bool.true_eq_false, Bool.not_eq_true', true_iff, iff_true, false_iff, iff_false, Bool.not_eq_true, Bool.not_eq_false, Bool.and_eq_false_imp] at *; omega), rfl⟩)
theorem validAmount_any (n : Int) (w : World) : Calls Try.prog 49 #[.int .i64 n] w fun e w' => e = .returned (.bool (decide (1 ≤ n ∧ n ≤ 100000))) ∧ w = w' := by
  go_enter Try.func49, Try.ntmps49
  go_wp2
  all_goals (go_ret; exact ⟨ret_bool (by rw [Bool.eq_iff_iff]; simp only [ge_iff_le, decide_eq_true_eq, decide_eq_false_iff_not, Bool.and_eq_true, Bool.or_eq_true, Bool.false_eq_true, Bool.true_eq_false, Bool.not_eq_true', true_iff, iff_true, false_iff, iff_false, Bool.not_eq_true, Bool.not_eq_false, Bool.and_eq_false_imp] at *; omega), rfl⟩)
def Fares.callOk (c : Fares.Call) : Bool := decide (1 ≤ c.t ∧ c.t ≤ 12 ∧ 1 ≤ c.a ∧ c.a ≤ 100000) && Fares.minuteOk c.s
set_option maxHeartbeats 400000 in
theorem implCallvalid_any (c : Fares.Call) (w : World) :
    Calls Try.prog 45 #[callV c] w fun e w' => e = .returned (.bool (Fares.callOk c)) ∧ Below w.heap.size w w' := by
  unfold callV
  go_enter Try.func45, Try.ntmps45
  go_wp2_with (first | (go_at_call 44; refine (validTrace_any _ _).mono ?_; rintro e w' ⟨rfl, rfl⟩) | (go_at_call 49; refine (validAmount_any _ _).mono ?_; rintro e w' ⟨rfl, rfl⟩) | (go_at_call 50; refine (momentValid_any _ _).mono ?_; rintro e w' ⟨rfl, rfl⟩))
  all_goals (go_ret; exact ⟨ret_bool (by rw [Bool.eq_iff_iff]; simp only [Fares.callOk, Fares.minuteOk, decide_eq_true_eq, decide_eq_false_iff_not, Bool.and_eq_true, Bool.or_eq_true, Bool.false_eq_true, Bool.true_eq_false, Bool.not_eq_true', true_iff, iff_true, false_iff, iff_false, Bool.not_eq_true, Bool.not_eq_false, Bool.and_eq_false_imp] at *; omega), (by repeat (first | exact Below.refl _ _ | refine bA ?_ _ | refine bD ?_ _ | refine bD1 ?_ | refine bS ?_ (by simp) _))⟩)
end Go.Proofs.Ytnkoapccnlgijaa
