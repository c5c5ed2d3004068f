/-
  The arguments of ChargesOf, drawn.
-/
import Derived.Test.YtnahdclmfegmeaaDrawJours
import Derived.Test.YtnahdclmfegmeaaDrawSpoil
import Derived.Test.YtnahdclmfegmeaaLiftBytes
namespace Go.Proofs.Ytnahdclmfegmeaa
open Go.RowKit Go.Deep
set_option linter.unusedVariables false

def DrawsChargesOf (w : World) (e : Ending) (w' : World) : Prop :=
  ∃ (v : Value) (ys : List Fares.Journey) (A : Option Addr) (n c : Nat) (am : List Int), e = .returned (.tuple #[v, .slice A n c]) ∧ OwnJourneys w' w.heap.size v ys ∧ ys.length ≤ 25 ∧ (∀ j ∈ ys, jourSmall j) ∧ Ints w' w'.heap.size A am ∧ am.length = n ∧ n ≤ 26 ∧ Below w.heap.size w w'
set_option maxRecDepth 100000 in
set_option maxHeartbeats 2000000 in
theorem drawChargesOf_any (A : Option Addr) (n c : Nat) (w : World) (h : Bytes w w.heap.size A n c) : Calls Try.prog 57 #[.slice A n c] w (DrawsChargesOf w) := by
  obtain ⟨ti, hi0, hz0, hz1, hz2⟩ := info_parts info_intS
  have HIInt := Lib.hid hi0; clear hi0
  have HZ0Int := Lib.hid hz0; clear hz0
  have HZ1Int := Lib.hid hz1; clear hz1
  have HZ2Int := Lib.hid hz2; clear hz2
  go_enter Try.func57, Try.ntmps57
  go_wp2_with fail
  refine (newReader_any A n c w h).mono ?_
  rintro e w1 ⟨rfl, hr1, hb1, hz1⟩
  have HZ := Lib.hid hz1; clear hz1
  have hs1 : w.heap.size < w1.heap.size := hr1.lt
  have Hr1 := Lib.hid hr1; clear hr1
  have HB1 := Lib.hid hb1; clear hb1
  go_wp2_with fail
  refine (anyJourneys_any w.heap.size 0 10 _ Hr1.out (by omega) (by omega) (by omega)).mono ?_
  rintro e w2 ⟨v, ys, q, rfl, hown2, hlen, hsm, hq, hr2, hg2⟩
  have Hsm := Lib.hid hsm; clear hsm
  have Hown2 := Lib.hid (ownBase hown2 (Nat.le_of_lt hs1))
  have hap : v.ownBlock = none ∨ v.ownBlock ≠ some w.heap.size := apart_of (fun j hj e => by have := (World.ownsRow.lt hown2 j hj).1; injection e with e; omega)
  have Hap := Lib.hid hap; clear hap hown2
  have HB2 := Lib.hid (Below.trans HB1.out (below_of_grown hg2 (Below.size HB1.out) (by omega)))
  clear HB1
  clear hg2
  clear Hr1
  have Hrd2 := Lib.hid hr2; clear hr2
  have hgl2 : w.heap.size < w2.heap.size := (Hrd2.out).lt
  have HG2 := Lib.hid (grown_refl w2 (some w.heap.size))
  obtain ⟨Av, cv, rfl, hcv1, hcv2, hrs⟩ := OwnJourneys.form Hown2.out
  unfold maxLen at hcv2
  clear hrs
  skip
  have Hnew := Lib.hid (World.ownsRow_lit (base := w2.heap.size) (e := 3) (size := 1) w2 #[] 0 (Nat.le_refl _) (by unfold maxLen; omega) rfl)
  go_wp2
  go_loopw [7, 6] (fun i v wr => ∃ (k : Nat) (am : List Int), k ≤ ys.length ∧ i = .int .i64 k ∧ OwnInts wr w2.heap.size v am ∧ am.length = k ∧ (∀ x ∈ am, -1 ≤ x ∧ x ≤ 4001) ∧ Rd wr w.heap.size (q + k) ∧ w2.grownBy wr (some w.heap.size)) (fun i _ _ => ys.length - (intOf i).toNat)
  case atStart => exact ⟨0, [], Nat.zero_le _, rfl, Hnew.out, rfl, (fun x hx => by cases hx), (Rd.alloc Hrd2.out _), (grown_alloc HG2.out _)⟩
  case round =>
    obtain ⟨k, am, hk, rfl, hown, hal, hsm', hrd, hg⟩ := hrel
    have Hsa := Lib.hid hsm'; clear hsm'
    have hal1 : am.length ≤ k := by omega
    have hal2 : k ≤ am.length := by omega
    clear hal
    have hglr := hrd.lt
    have Hr := Lib.hid hrd; clear hrd
    clear HG2
    have HG2 := Lib.hid hg; clear hg
    have hszr := HG2.out.size
    obtain ⟨Aa, ca, rfl, hca1, hca2, hrs⟩ := OwnInts.form hown
    unfold maxLen at hca2
    clear hrs
    have Hown := Lib.hid hown; clear hown
    by_cases hlt : k < ys.length
    · have i0 : (0 : Int) ≤ (k : Int) := by omega
      have i1 : (k : Int) < (ys.length : Int) := by omega
      go_wp2_with fail
      refine (one_in w.heap.size ((q + k)) _ [200, 0, 350, 4000] (0) 4000 4 4 _ _ (Rd.alloc Hr.out _) (by omega) (Blk.new' (by simp)) (by have := (Hr.out).lt; (try simp); omega) rfl rfl (by omega) (by omega) (by decide)).mono ?_
      rintro e w6 ⟨x, rfl, x0, x1, hr6, hg6⟩
      have HG6 := Lib.hid (grown_trans (grown_alloc HG2.out _) hg6)
      clear HG2
      have Ham6 := Lib.hid (World.ownsRow.kept (World.ownsRow.alloc Hown.out _) hg6 (apart_of (fun j hj e => by have := (World.ownsRow.lt Hown.out j hj).1; injection e with e; omega)))
      clear Hown
      clear hg6
      clear Hr
      have Hrd6 := Lib.hid hr6; clear hr6
      have hgl6 : w.heap.size < w6.heap.size := (Hrd6.out).lt
      have hsz7 := (HG6.out).size
      go_wp2_with (at_builtin; refine wpList_append_lies _ rfl (.tmp 19) (.tmp 23) _ rfl (w2.heap.size) 3 ti _ 1 8 Try.underlying39 HIInt.out HZ0Int.out HZ1Int.out HZ2Int.out rfl (by omega) _ _ _ rfl (World.ownsRow.alloc Ham6.out _) ⟨w6.heap.size, 0, none⟩ 1 1 (intCells x) rfl rfl ?c1 ?c2 (by omega) ?c3 ?c4 ?c5 _ rfl ?_)
      case c1 => exact World.news_of_block (Blk.new' (t := 3) (cs := #[.int .i64 x]) (by simp))
      case c2 => simp [intCells, Value.oneCell']
      case c3 => unfold maxLen; omega
      case c4 => omega
      case c5 => first | omega | (simp; omega) | simp
      intro gb7 cap7 w7 hown7 hgrow7 hat7 hlt7
      have HX7 := Lib.hid (OwnInts.snoc hown7); clear hown7 hat7
      have Hrd7 := Lib.hid (Rd.grown_new (Rd.alloc Hrd6.out _) hgrow7 (fun r hr => by have := (World.ownsRow.lt Ham6.out r hr).1; omega))
      clear Hrd6
      have HG7 := Lib.hid (grown_new (grown_alloc HG6.out _) hgrow7 (fun r hr => (World.ownsRow.lt Ham6.out r hr).1))
      clear HG6
      clear hgrow7
      clear Ham6
      go_wp2
      go_roundw
      case rel => exact ⟨k + 1, am ++ [x], by omega, by go_num, HX7.out, by simp; omega, (fun y h => by
          rcases List.mem_append.1 h with h | h
          · exact Hsa.out y h
          · simp at h; subst h; omega), (show Rd _ _ (q + (k + 1)) from Hrd7.out), HG7.out⟩
      case measure => simp [intOf]; omega
    · have hke : k = ys.length := by omega
      have Hke := Lib.hid hke; clear hke
      obtain ⟨A', c', e', _, _, hrs⟩ := OwnInts.form Hown.out
      injection e' with e1 e2 e3
      subst e1 e3
      have Hrs := Lib.hid hrs; clear hrs e2
      go_wp2_with fail
      refine (spoil_any w.heap.size ((q + k)) Aa am.length ca am 4001 (-1) 4001 _ Hr.out (by omega) Hrs.out rfl (own_nil Hown.out) (by omega) Hsa.out (by omega) (by omega) (by omega) (by omega)).mono ?_
      rintro e w6 ⟨As, ns, cs, bs, qs, rfl, hia, _, _, hna, _, _, hla, _, hqs, hr6, hg6⟩
      have Hia := Lib.hid hia; clear hia
      have HG6 := Lib.hid (grown_trans HG2.out hg6)
      clear HG2
      clear hg6
      clear Hr
      have Hrd6 := Lib.hid hr6; clear hr6
      have hgl6 : w.heap.size < w6.heap.size := (Hrd6.out).lt
      go_wp2
      go_ret2
      exact ⟨_, ys, As, ns, cs, bs, rfl, (World.ownsRow.kept Hown2.out HG6.out Hap.out), hlen, Hsm.out, Hia.out, hna, by omega, (HB2.out).trans (below_of_grown HG6.out (HB2.out).size (Nat.le_refl _))⟩
end Go.Proofs.Ytnahdclmfegmeaa
