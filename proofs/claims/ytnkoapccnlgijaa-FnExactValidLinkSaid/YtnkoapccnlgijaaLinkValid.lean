/-
  Chapter 12: a valid link: plain facts; the model's validLink.
-/
import Derived.Test.YtnkoapccnlgijaaLinkImpl
set_option linter.unusedSimpArgs false
namespace Go.Proofs.Ytnkoapccnlgijaa
open Go.RowKit Go.Maps
set_option linter.unusedVariables false

namespace Fares
def freshCalls (xs : List Call) : Bool := decide (xs.Pairwise (fun x y => x.t ≠ y.t))
def validLink (k : Link) : Bool := k.opn.all callOk && freshCalls k.opn && (decide (1 ≤ k.nxt ∧ k.nxt ≤ 12) && decide (k.opn.length ≤ 6))
theorem link_bad {k : Link} {i : Nat} {x : Call} (h : k.opn[i]? = some x) (hx : callOk x = false) : validLink k = false := by
  unfold validLink
  have : k.opn.all callOk = false := by
    rw [List.all_eq_false]
    exact ⟨x, List.mem_of_getElem? h, by simp [hx]⟩
  rw [this]; rfl
theorem link_same {k : Link} {i j : Nat} {x y : Call} (h : k.opn[i]? = some x) (hy : k.opn[j]? = some y) (hji : j < i) (e : y.t = x.t) : validLink k = false := by
  unfold validLink
  have : freshCalls k.opn = false := by
    unfold freshCalls
    rw [decide_eq_false_iff_not]
    intro hp
    obtain ⟨hi, ei⟩ := List.getElem?_eq_some_iff.1 h
    obtain ⟨hj, ej⟩ := List.getElem?_eq_some_iff.1 hy
    have := List.pairwise_iff_getElem.1 hp j i hj hi hji
    rw [ei, ej] at this
    exact this e
  rw [this, Bool.and_false, Bool.false_and]
theorem link_rest {k : Link} (h : ∀ x ∈ k.opn, callOk x = true) (hf : ∀ (i j : Nat) (x y : Call), k.opn[i]? = some x → k.opn[j]? = some y → j < i → ¬ y.t = x.t) : validLink k = (decide (1 ≤ k.nxt ∧ k.nxt ≤ 12) && decide (k.opn.length ≤ 6)) := by
  unfold validLink
  have h1 : k.opn.all callOk = true := List.all_eq_true.2 h
  have h2 : freshCalls k.opn = true := by
    unfold freshCalls
    rw [decide_eq_true_eq]
    exact List.pairwise_iff_getElem.2 fun a b ha hb hab => hf b a _ _ (List.getElem?_eq_getElem hb) (List.getElem?_eq_getElem ha) hab
  rw [h1, h2]; rfl
theorem link_no {k : Link} (h : (decide (1 ≤ k.nxt ∧ k.nxt ≤ 12) && decide (k.opn.length ≤ 6)) = false) : validLink k = false := by unfold validLink; rw [h, Bool.and_false]
theorem callOk_iff {c : Call} : callOk c = true ↔ (1 ≤ c.t ∧ c.t ≤ 12) ∧ (1 ≤ c.a ∧ c.a ≤ 100000) ∧ 0 ≤ c.s ∧ c.s ≤ 40319 := by
  unfold callOk minuteOk
  rw [Bool.and_eq_true, decide_eq_true_eq, decide_eq_true_eq]
  constructor
  · rintro ⟨⟨a, b, c, d⟩, e⟩; exact ⟨⟨a, b⟩, ⟨c, d⟩, e⟩
  · rintro ⟨⟨a, b⟩, ⟨c, d⟩, e⟩; exact ⟨⟨a, b, c, d⟩, e⟩
end Fares
set_option maxRecDepth 100000 in
set_option maxHeartbeats 4000000 in
theorem specvalidLink_any (v : LinkR) (w : World) (hi : LinkIn w w.heap.size v) (hs : LinkSmall v) :
    Calls Try.prog 42 #[linkV v] w fun e w' => e = .returned (.bool (Fares.validLink v.of)) ∧ Below w.heap.size w w' := by
  have hl : v.opn.length ≤ 1048576 := hs
  unfold linkV
  go_enter Try.func42, Try.ntmps42
  go_wp2
  generalize hW : World.alloc _ _ = w0
  have hc := linkCells (show Blk w0 w.heap.size 29 v.cells by rw [← hW]; exact Blk.new w _ _)
  have hIn : LinkIn w0 w0.heap.size v := by rw [← hW]; exact hi.up _
  have hb0 : Below w.heap.size w w0 := by rw [← hW]; exact bA (Below.refl _ _) _
  have hz0 : w0.heap.size = w.heap.size + 1 := by rw [← hW, World.size_alloc]
  clear hW
  have HIN := Lib.hid hIn.1; clear hIn
  obtain ⟨n0, n1⟩ := hc
  go_loopw [3] (fun i wr => ∃ k : Nat, k ≤ v.opn.length ∧ i = .int .i64 k ∧ (∀ (a : Nat) (x : Fares.Call), a < k → v.opn[a]? = some x → Fares.callOk x = true) ∧ (∀ (a b : Nat) (x y : Fares.Call), a < k → v.opn[a]? = some x → v.opn[b]? = some y → b < a → ¬ y.t = x.t) ∧ Below w0.heap.size w0 wr) (fun i _ => v.opn.length - (intOf i).toNat)
  case atStart => exact ⟨0, by omega, rfl, fun _ _ h => by omega, fun _ _ _ _ h => by omega, Below.refl _ _⟩
  case round =>
    obtain ⟨k, hk, rfl, hok, hfr, hb⟩ := hrel
    have HOK := Lib.hid hok; clear hok
    have HFR := Lib.hid hfr; clear hfr
    have m0 := (hb.cell (p := ⟨w.heap.size, 0, none⟩) (show w.heap.size < w0.heap.size by omega)).trans n0
    have m1 := (hb.cell (p := ⟨w.heap.size, 1, none⟩) (show w.heap.size < w0.heap.size by omega)).trans n1
    have hbw : Below w.heap.size w wr := bT hb0 hb
    have hbz := hb.size
    by_cases hlt : k < v.opn.length
    · obtain ⟨x, hx⟩ : ∃ x, v.opn[k]? = some x := ⟨_, List.getElem?_eq_getElem hlt⟩
      obtain ⟨b1, o1, eA, hbb, hr1⟩ := CallRows.row (show CallRows w0 w0.heap.size v.opnA v.opn from HIN.out) (by omega)
      rw [eA] at m1 ⊢
      obtain ⟨p0, p1, p2⟩ := (hr1 k x hx).below hb hbb
      have HR1 := Lib.hid hr1; clear hr1
      have HX := Lib.hid hx; clear hx
      have i0 : (0 : Int) ≤ (k : Int) := by omega
      have i1 : (k : Int) < (v.opn.length : Int) := by omega
      have hzk := hb.size
      have hbc : Below w.heap.size w (wr.alloc (.cells #[.int .i64 x.t, .int .i64 x.a, .int .i64 x.s] 49)) := bA hbw _
      have BAD : Fares.callOk x = false → Fares.validLink v.of = false := fun h => Fares.link_bad (k := v.of) HX.out h
      have HBAD := Lib.hid BAD; clear BAD
      by_cases ht : 1 ≤ x.t ∧ x.t ≤ 12
      · by_cases ha : 1 ≤ x.a ∧ x.a ≤ 100000
        · by_cases hm : 0 ≤ x.s ∧ x.s ≤ 40319
          · have HG := Lib.hid (Fares.callOk_iff.2 ⟨ht, ha, hm⟩)
            have SAME : ∀ (j : Nat) (y : Fares.Call), v.opn[j]? = some y → j < k → y.t = x.t → Fares.validLink v.of = false := fun j y h1 h2 h3 => Fares.link_same (k := v.of) HX.out h1 h2 h3
            have HSAME := Lib.hid SAME; clear SAME
            go_wp2_with fail
            refine (inRange_yes _ _ _ _ ht.1 ht.2).mono ?_
            rintro e w' ⟨rfl, rfl⟩
            go_wp2_with fail
            refine (inRange_yes _ _ _ _ ha.1 ha.2).mono ?_
            rintro e w' ⟨rfl, rfl⟩
            go_wp2_with fail
            refine (inRange_yes _ _ _ _ hm.1 hm.2).mono ?_
            rintro e w' ⟨rfl, rfl⟩
            obtain ⟨lx, c0, c1, c2⟩ := CallBox.new wr x 49
            have bw1 : Below w0.heap.size w0 (wr.alloc (.cells #[.int .i64 x.t, .int .i64 x.a, .int .i64 x.s] 49)) := bA hb _
            go_wp2
            generalize hW : World.alloc _ _ = w1 at c0 bw1 hbc ⊢
            clear hW p0 p1 p2 m0 m1 c1 c2
            obtain ⟨B3, hB3⟩ : ∃ B3, wr.heap.size = B3 := ⟨_, rfl⟩
            rw [hB3] at c0 lx ⊢
            go_loopw [5] (fun j wr => ∃ j' q : Nat, j' ≤ k ∧ j = .int .i64 j' ∧ (∀ (b : Nat) (y : Fares.Call), b < j' → v.opn[b]? = some y → ¬ y.t = x.t) ∧ wr = w1.drewN q) (fun j _ => k - (intOf j).toNat)
            case atStart => exact ⟨0, 0, by omega, rfl, fun _ _ h => by omega, rfl⟩
            case round =>
              obtain ⟨j, q, hj, rfl, hne, rfl⟩ := hrel
              have HNE := Lib.hid hne; clear hne
              have m1 := (bw1.cell (p := ⟨w.heap.size, 1, none⟩) (show w.heap.size < w0.heap.size by omega)).trans n1
              have hbf : Below w.heap.size w (w1.drewN q) := bD hbc q
              by_cases hjk : j < k
              · obtain ⟨y, hy⟩ : ∃ y, v.opn[j]? = some y := ⟨_, List.getElem?_eq_getElem (by omega)⟩
                obtain ⟨p0, p1, p2⟩ := (HR1.out j y hy).below bw1 hbb
                clear p1 p2
                rw [eA] at m1
                have HYJ := Lib.hid hy; clear hy
                have j0 : (0 : Int) ≤ (j : Int) := by omega
                have j1 : (j : Int) < (v.opn.length : Int) := by omega
                have j2 : (j : Int) < (k : Int) := by omega
                by_cases he : y.t = x.t
                · have HF := Lib.hid (HSAME.out j y HYJ.out hjk he)
                  have ee : (y.t == x.t) = true := by simpa using he
                  clear he
                  go_wp2
                  go_quiet (fail)
                  go_wp2
                  go_ret
                  exact ⟨ret_bool HF.out.symm, bD (bD hbc _) _⟩
                · have ee : (y.t == x.t) = false := by simpa using he
                  have HE := Lib.hid he; clear he
                  go_wp2
                  go_quiet (fail)
                  go_wp2
                  go_roundw
                  case rel => exact ⟨j + 1, _, by omega, by go_num, fun b z h1 h2 => by
                    rcases Nat.lt_or_ge b j with h | h
                    · exact HNE.out b z h h2
                    · obtain rfl : b = j := by omega
                      obtain rfl := Option.some.inj (HYJ.out.symm.trans h2)
                      exact HE.out, rfl⟩
                  case measure => simp [intOf]; omega
              · obtain rfl : j = k := by omega
                have j2 : ¬ ((j : Int) < (j : Int)) := by omega
                go_wp2
                go_roundw
                case rel => exact ⟨j + 1, by omega, by go_num, fun a z h1 h2 => by
                  rcases Nat.lt_or_ge a j with h | h
                  · exact HOK.out a z h h2
                  · obtain rfl : a = j := by omega
                    obtain rfl := Option.some.inj (HX.out.symm.trans h2)
                    exact HG.out, fun a b z y h1 h2 h3 h4 => by
                  rcases Nat.lt_or_ge a j with h | h
                  · exact HFR.out a b z y h h2 h3 h4
                  · obtain rfl : a = j := by omega
                    obtain rfl := Option.some.inj (HX.out.symm.trans h2)
                    exact HNE.out b y h4 h3, bD bw1 _⟩
                case measure => simp [intOf]; omega
          · have HF := Lib.hid (HBAD.out (by cases h : Fares.callOk x with | false => rfl | true => exact absurd (Fares.callOk_iff.1 h).2.2 hm))
            go_wp2_with fail
            refine (inRange_yes _ _ _ _ ht.1 ht.2).mono ?_
            rintro e w' ⟨rfl, rfl⟩
            go_wp2_with fail
            refine (inRange_yes _ _ _ _ ha.1 ha.2).mono ?_
            rintro e w' ⟨rfl, rfl⟩
            go_wp2_with fail
            refine (inRange_no _ _ _ _ (by omega)).mono ?_
            rintro e w' ⟨rfl, rfl⟩
            go_wp2
            go_ret
            exact ⟨ret_bool HF.out.symm, hbc⟩
        · have HF := Lib.hid (HBAD.out (by cases h : Fares.callOk x with | false => rfl | true => exact absurd (Fares.callOk_iff.1 h).2.1 ha))
          go_wp2_with fail
          refine (inRange_yes _ _ _ _ ht.1 ht.2).mono ?_
          rintro e w' ⟨rfl, rfl⟩
          go_wp2_with fail
          refine (inRange_no _ _ _ _ (by omega)).mono ?_
          rintro e w' ⟨rfl, rfl⟩
          go_wp2
          go_ret
          exact ⟨ret_bool HF.out.symm, hbc⟩
      · have HF := Lib.hid (HBAD.out (by cases h : Fares.callOk x with | false => rfl | true => exact absurd (Fares.callOk_iff.1 h).1 ht))
        go_wp2_with fail
        refine (inRange_no _ _ _ _ (by omega)).mono ?_
        rintro e w' ⟨rfl, rfl⟩
        go_wp2
        go_ret
        exact ⟨ret_bool HF.out.symm, hbc⟩
    · obtain rfl : k = v.opn.length := by omega
      have hr := Fares.link_rest (k := v.of) (fun x hx => by obtain ⟨a, ha⟩ := List.getElem?_of_mem hx; exact HOK.out a x (List.getElem?_eq_some_iff.1 ha).1 ha) (fun i j x y h1 h2 h3 => HFR.out i j x y (List.getElem?_eq_some_iff.1 h1).1 h1 h2 h3)
      have HRR := Lib.hid (show Fares.validLink v.of = (decide (1 ≤ v.nxt ∧ v.nxt ≤ 12) && decide (v.opn.length ≤ 6)) from hr); clear hr
      by_cases hn : 1 ≤ v.nxt ∧ v.nxt ≤ 12
      · go_wp2_with fail
        refine (inRange_yes _ _ _ _ hn.1 hn.2).mono ?_
        rintro e w' ⟨rfl, rfl⟩
        have HRR2 := Lib.hid (show Fares.validLink v.of = decide (v.opn.length ≤ 6) by rw [HRR.out, decide_eq_true hn, Bool.true_and])
        go_wp2
        all_goals (go_ret; exact ⟨ret_bool (by rw [HRR2.out]; first | rfl | (rw [decide_eq_decide]; omega) | (symm; rw [decide_eq_true_eq]; omega) | (symm; rw [decide_eq_false_iff_not]; omega)), hbw⟩)
      · go_wp2_with fail
        refine (inRange_no _ _ _ _ (by omega)).mono ?_
        rintro e w' ⟨rfl, rfl⟩
        have HRR2 := Lib.hid (show Fares.validLink v.of = false by rw [HRR.out, decide_eq_false hn, Bool.false_and])
        go_wp2
        all_goals (go_ret; exact ⟨ret_bool (by rw [HRR2.out]), hbw⟩)
end Go.Proofs.Ytnkoapccnlgijaa
