/-
  Chapter 4: the program's rides as an iterator that may be stopped.
-/
import Derived.Test.YtllhjgheffemnaaRidesIn
set_option linter.unusedSimpArgs false
namespace Go.Proofs.Ytllhjgheffemnaa
open Go.RowKit Go.Shelf
set_option linter.unusedVariables false
theorem rides_stops (n : Nat) (hn : 2 ≤ n) (Bn lo hi b0 o0 c : Nat) (xs : List Fares.Tap) (hl : xs.length ≤ 1000) (hm : ∀ t ∈ xs, -100000 ≤ t.m ∧ t.m ≤ 100000) (w : World)
    (hBl : lo ≤ Bn) (hBh : Bn < hi) (hbl : lo ≤ b0) (hbh : b0 < hi) (hhi : hi ≤ w.heap.size) (hBn : w.cell? ⟨Bn, 0, none⟩ = some (.slice (some ⟨b0, o0, none⟩) xs.length c)) (hx : ∀ k x, xs[k]? = some x → TapAt w b0 (o0 + k * 6) x) :
    SeqStopsK Fence.wide n Try.prog 40 #[.pointer (some ⟨Bn, 0, none⟩)] rideEnc (Mid lo hi) (fun ys => ys = Fares.ridesOf xs) (fun _ => True) xs.length w := fun l J Jx W hW hJ _ hY h0 =>
  rides1_in n hn l Bn lo hi b0 o0 xs.length c xs rfl hl hm J Jx hY W hJ hBl hBh hbl hbh (Nat.le_trans hhi hW.size) ((hW.cell (p := ⟨Bn, 0, none⟩) (Nat.lt_of_lt_of_le hBh hhi)).trans hBn)
    (fun k x h => (hx k x h).below hW (Nat.lt_of_lt_of_le hbh hhi)) h0
set_option maxHeartbeats 1000000 in
theorem rides_in (F : Fence) (n : Nat) (hf : F.fn 25) (hro : F.round = none) (A : Option Addr) (len c : Nat) (w : World) :
    CallsIn F n Try.prog 25 #[.slice A len c] w fun e w' => e = .returned (.func (.func 40) #[] #[.pointer (some ⟨w.heap.size, 0, none⟩)]) ∧ w' = w.alloc (.cells #[.slice A len c] 23) := by
  refine callsIn_of_wp Try.func25 rfl hf ?_ hro
  simp only [Try.ntmps25, List.size_toArray, List.length_cons, List.length_nil, Nat.reduceAdd, Nat.reduceSub, Array.replicate_succ, Array.replicate_zero, List.push_toArray, List.append_toArray, List.nil_append, List.cons_append]
  gi_wp2
  go_ret
  exact ⟨rfl, rfl⟩
end Go.Proofs.Ytllhjgheffemnaa
