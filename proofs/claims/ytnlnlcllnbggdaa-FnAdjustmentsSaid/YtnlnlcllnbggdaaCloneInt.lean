/-
  slices.Clone of numbers.
-/
import Derived.Test.YtnlnlcllnbggdaaDrawSpoil
import Derived.Test.YtnlnlcllnbggdaaTouch
import Derived.Test.YtnlnlcllnbggdaaReg
import Derived.Deep.AppendLies
import Derived.Lib.SliceRun
set_option linter.unusedSimpArgs false
namespace Go.Proofs.Ytnlnlcllnbggdaa
open Go.RowKit Go.Deep
set_option linter.unusedVariables false

set_option maxRecDepth 100000 in
set_option maxHeartbeats 1000000 in
theorem cloneInts_any (A : Option Addr) (n c : Nat) (xs : List Int) (w : World) (hx : Reads w w.heap.size A (xs.flatMap intCells)) (hn : xs.length = n) (hA : NilOk A n c) (hl : n ≤ 1000000) :
    Calls Try.prog 32 #[.slice A n c] w fun e w' => ∃ v, e = .returned v ∧ OwnInts w' w.heap.size v xs ∧ Below w.heap.size w w' := by
  subst hn
  obtain ⟨ti, hi0, hz0, hz1, hz2⟩ := info_parts info_intS
  have HIInt := Lib.hid hi0; clear hi0
  have HZ0Int := Lib.hid hz0; clear hz0
  have HZ1Int := Lib.hid hz1; clear hz1
  have HZ2Int := Lib.hid hz2; clear hz2
  cases A with
  | none =>
    have qe := fun (w : World) => Lib.run_eql_slice_nil w _ _ none 0 0 0 0 Try.underlying23
    obtain ⟨h1, h2⟩ := hA rfl
    have e0 : xs = [] := List.eq_nil_of_length_eq_zero h1
    subst e0
    subst h2
    go_enter Try.func32, Try.ntmps32
    go_wp2
    go_ret
    exact ⟨_, rfl, World.ownsRow_nil _ _ _ _, Below.refl _ _⟩
  | some ad =>
    have qe := fun (w : World) => Lib.run_eql_slice_nil w _ _ (some ad) xs.length c 0 0 Try.underlying23
    have HA := Lib.hid (show (some ad : Option Addr) = none → xs.length = 0 ∧ c = 0 from fun e => by cases e)
    have Hx := Lib.hid hx; clear hx
    have HB := Lib.hid (Below.refl w.heap.size w)
    clear hA
    have Hnew := Lib.hid (World.ownsRow_lit (base := w.heap.size) (e := 3) (size := 1) w #[] 0 (Nat.le_refl _) (by unfold maxLen; omega) rfl)
    go_enter Try.func32, Try.ntmps32
    have hsz1 := (HB.out).size
    go_wp2_with (at_builtin; refine append_src rfl (.tmp 5) (.tmp 6) _ rfl (w.heap.size) 3 ti _ 1 8 Try.underlying23 HIInt.out HZ0Int.out HZ1Int.out HZ2Int.out rfl (by omega) _ 0 _ rfl Hnew.out ((some ad)) (xs.length) (c) _ (xs.flatMap intCells) rfl HA.out (by rw [flat_length intCells 1 (fun _ => rfl)]) (readsOver Hx.out (bA HB.out _)) (one_flat intCells (by intro x u hu; simp only [intCells, List.mem_cons, List.not_mem_nil, or_false] at hu; subst hu; rfl) _) (by unfold maxLen; omega) (by omega) (by first | omega | (simp; omega) | simp) ?_)
    intro v1 w1 hown1 hgrow1 hat1
    have HBo1 := Lib.hid (Below.grown (bA HB.out _) hgrow1 (Below.size (bA HB.out _)) (fun r hr => (World.ownsRow.lt Hnew.out r hr).1))
    clear HB
    have HX1 := Lib.hid hown1; clear hown1 hgrow1 hat1 Hnew
    go_wp2
    go_ret
    exact ⟨_, rfl, by unfold OwnInts; have h := HX1.out; simpa using h, HBo1.out⟩
end Go.Proofs.Ytnlnlcllnbggdaa
