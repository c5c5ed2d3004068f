/-
  At every link, ValidLink of the program answers as its model, and leaves its argument as it was: the law FnExactValidLink returns true. No conditions.
-/
import Derived.Test.YtnkoapccnlgijaaOpen
import Derived.Test.YtnkoapccnlgijaaLinkValidI
import Derived.Test.YtnkoapccnlgijaaOpLink
import Derived.Test.YtnkoapccnlgijaaOpLink
import Derived.Test.YtnkoapccnlgijaaReg
set_option linter.unusedSimpArgs false
namespace Go.Proofs.Ytnkoapccnlgijaa.fnExactValidLink
open Go.ChangeShapes Go.WideShapes Go.ChangeAt Go.RowKit Go.Deep
set_option linter.unusedVariables false

set_option maxRecDepth 100000 in
set_option maxHeartbeats 2000000 in
theorem walk (w : World) (a0 : LinkR) (i0 : LinkIn w w.heap.size a0) (f0 : linkFits a0) : Calls Try.prog 3 #[linkV a0] w (TrueBelow w) := by
  have Hi := Lib.hid i0; clear i0
  unfold linkV
  go_enter Try.func3, Try.ntmps3
  go_wp2_with fail
  generalize hW : World.alloc _ _ = w1
  have hbx1 : Blk w1 w.heap.size 24 (LinkR.cells a0) := by rw [← hW]; exact Blk.new w _ _
  have HB1 : Hid (Below w.heap.size w w1) := Lib.hid (by rw [← hW]; exact bA (Below.refl _ _) _)
  have hz1 : w.heap.size < w1.heap.size := by rw [← hW]; simp
  clear hW
  have Hbx1 := Lib.hid hbx1; clear hbx1
  refine (szLink_any a0 1048576 _ (Hi.out.over HB1.out) (by omega) (by omega)).mono ?_
  rintro e w2 ⟨⟨r, rfl, ra, rb, rc⟩, hb2⟩
  have hz2 : w1.heap.size ≤ w2.heap.size := by have := hb2.size; (try simp at this); omega
  have HB2 := Lib.hid (bT HB1.out hb2)
  clear HB1
  have HP2 := Lib.hid (Blk.belowAll Hbx1.out hb2)
  clear Hbx1
  clear hb2
  rcases rc with rc | ⟨rc, hs⟩
  · have hd : decide (r < 0) = true := by rw [decide_eq_true_eq]; omega
    go_wp2
    go_ret
    exact ⟨rfl, HB2.out⟩
  · have hd : decide (r < 0) = false := by rw [decide_eq_false_iff_not]; omega
    have Hs := Lib.hid hs; clear hs
    obtain ⟨cP2_0, cP2_1⟩ := linkCells (t := 24) (v := a0) HP2.out
    go_wp2_with fail
    refine (toLink_any a0 _ (Hi.out.over HB2.out) Hs.out).mono ?_
    rintro e w3 ⟨⟨uA, rfl, hofA, hownA, hsmA⟩, hb3⟩
    clear cP2_0 cP2_1
    have hz3 : w2.heap.size ≤ w3.heap.size := by have := hb3.size; (try simp at this); omega
    have HB3 := Lib.hid (bT HB2.out hb3)
    clear HB2
    have HP3 := Lib.hid (Blk.belowAll HP2.out hb3)
    clear HP2
    clear hb3
    have HofA := Lib.hid hofA; clear hofA
    have HsmA := Lib.hid hsmA; clear hsmA
    have LTA := Lib.hid (fun k hk => (LinkOwn.lt hownA k hk).1)
    have UPA := Lib.hid (fun k hk => (LinkOwn.lt hownA k hk).2)
    have HoA := Lib.hid hownA; clear hownA
    unfold linkV
    go_wp2_with fail
    refine (specValidLink_any uA _ (LinkOwn.in_ HoA.out) HsmA.out).mono ?_
    rintro e w4 ⟨rfl, hb4⟩
    rw [HofA.out]
    have hz4 : w3.heap.size ≤ w4.heap.size := by have := hb4.size; (try simp at this); omega
    have HB4 := Lib.hid (bT HB3.out hb4)
    clear HB3
    have HP4 := Lib.hid (Blk.belowAll HP3.out hb4)
    clear HP3
    have HA4 := Lib.hid (LinkOwn.below HoA.out hb4)
    clear HoA
    clear hb4
    obtain ⟨cP4_0, cP4_1⟩ := linkCells (t := 24) (v := a0) HP4.out
    go_wp2_with fail
    refine (toLink_any a0 _ (Hi.out.over HB4.out) Hs.out).mono ?_
    rintro e w5 ⟨⟨uX, rfl, hofX, hownX, hsmX⟩, hb5⟩
    clear cP4_0 cP4_1
    have hz5 : w4.heap.size ≤ w5.heap.size := by have := hb5.size; (try simp at this); omega
    have HB5 := Lib.hid (bT HB4.out hb5)
    clear HB4
    have HP5 := Lib.hid (Blk.belowAll HP4.out hb5)
    clear HP4
    clear hb5
    have HofX := Lib.hid hofX; clear hofX
    have HsmX := Lib.hid hsmX; clear hsmX
    have LTX := Lib.hid (fun k hk => (LinkOwn.lt hownX k hk).1)
    have UPX := Lib.hid (fun k hk => (LinkOwn.lt hownX k hk).2)
    have HoX := Lib.hid hownX; clear hownX
    unfold linkV
    go_wp2_with fail
    generalize hW : World.alloc _ _ = w6
    have hbx6 : Blk w6 w5.heap.size 29 (LinkR.cells uX) := by rw [← hW]; exact Blk.new w5 _ _
    have hb6 : Below w5.heap.size w5 w6 := by rw [← hW]; exact bA (Below.refl _ _) _
    have hy6 : w5.heap.size < w6.heap.size := by rw [← hW]; simp
    clear hW
    have hz6 : w5.heap.size ≤ w6.heap.size := by have := hb6.size; (try simp at this); omega
    have HB6 := Lib.hid (bT HB5.out hb6)
    clear HB5
    have HP6 := Lib.hid (Blk.belowAll HP5.out hb6)
    clear HP5
    have HX6 := Lib.hid (LinkOwn.below HoX.out hb6)
    clear HoX
    clear hb6
    have Hbx6 := Lib.hid hbx6; clear hbx6
    refine (implValidLink_any uX _ (LinkOwn.in_ HX6.out) HsmX.out).mono ?_
    rintro e w7 ⟨rfl, hb7⟩
    rw [HofX.out]
    have hz7 : w6.heap.size ≤ w7.heap.size := by have := hb7.size; (try simp at this); omega
    have HB7 := Lib.hid (bT HB6.out hb7)
    clear HB6
    have HP7 := Lib.hid (Blk.belowAll HP6.out hb7)
    clear HP6
    have HX7 := Lib.hid (LinkOwn.below HX6.out hb7)
    clear HX6
    have HbX7 := Lib.hid (Blk.belowAll Hbx6.out hb7)
    clear Hbx6
    clear hb7
    obtain ⟨cP7_0, cP7_1⟩ := linkCells (t := 24) (v := a0) HP7.out
    obtain ⟨cbX7_0, cbX7_1⟩ := linkCells (t := 29) (v := uX) HbX7.out
    go_wp2
    refine wp_region_held_drew (S := fun w' => (w'.cell? ⟨w5.heap.size, 0, none⟩ = some (.int .i64 uX.nxt) ∧ w'.cell? ⟨w5.heap.size, 1, none⟩ = some (.slice uX.opnA uX.opn.length uX.opnc)) ∧ (w'.cell? ⟨w.heap.size, 0, none⟩ = some (.int .i64 a0.nxt) ∧ w'.cell? ⟨w.heap.size, 1, none⟩ = some (.slice a0.opnA a0.opn.length a0.opnc))) (by kernel_rfl) (by exact ⟨linkCells (t := 29) (v := uX) HbX7.out, linkCells (t := 24) (v := a0) HP7.out⟩) (fun hS => ?_)
    refine take_at 0 22 (v := ?_) rfl rfl (by kernel_rfl) (by kernel_rfl) (by kernel_rfl) (fun _ _ _ h => h) (by rfl) ?_ hS ?_
    rotate_left 1
    · (intro w hSw; (try dsimp only at hSw); (try go_split_ands); go_simp; try with_reducible rfl)
    simp only [List.setIfInBounds_toArray, List.set_cons_zero, List.set_cons_succ]
    refine take_at 1 23 (v := ?_) rfl rfl (by kernel_rfl) (by kernel_rfl) (by kernel_rfl) (fun _ _ _ h => h) (by rfl) ?_ hS ?_
    rotate_left 1
    · (intro w hSw; (try dsimp only at hSw); (try go_split_ands); go_simp; try with_reducible rfl)
    simp only [List.setIfInBounds_toArray, List.set_cons_zero, List.set_cons_succ]
    refine wpAnyH_ready (rs := [2]) (by kernel_rfl) (by simp) ?_
    refine AllReadyH.cons rfl (fun K hK => ?_) (AllReadyH.nil)
    go_simp
    go_wp2_with fail
    refine (toLink_any a0 _ (Hi.out.over (bD1 HB7.out)) Hs.out).mono ?_
    rintro e w8 ⟨⟨uC, rfl, hofC, hownC, hsmC⟩, hb8⟩
    have hz8 : w7.heap.size ≤ w8.heap.size := by have := hb8.size; (try simp at this); omega
    have HB8 := Lib.hid (bT (bD1 HB7.out) hb8)
    clear HB7
    have HP8 := Lib.hid (Blk.belowAll (blkDrew HP7.out) hb8)
    clear HP7
    have HX8 := Lib.hid (LinkOwn.below (LinkOwn.drew HX7.out) hb8)
    clear HX7
    have HbX8 := Lib.hid (Blk.belowAll (blkDrew HbX7.out) hb8)
    clear HbX7
    clear hb8
    have HofC := Lib.hid hofC; clear hofC
    have HsmC := Lib.hid hsmC; clear hsmC
    have LTC := Lib.hid (fun k hk => (LinkOwn.lt hownC k hk).1)
    have UPC := Lib.hid (fun k hk => (LinkOwn.lt hownC k hk).2)
    have HoC := Lib.hid hownC; clear hownC
    unfold linkV
    go_simp
    refine hK.out _ _ (by exact ⟨linkCells (t := 29) (v := uX) HbX8.out, linkCells (t := 24) (v := a0) HP8.out⟩) (fun hS => ?_)
    clear hK K
    refine wpAnyH_ready (rs := [3]) (by kernel_rfl) (by simp) ?_
    refine AllReadyH.cons rfl (fun K hK => ?_) (AllReadyH.nil)
    go_simp
    go_wp2_with fail
    refine (eqLink_same uX uC _ (LinkOwn.in_ HX8.out) (LinkOwn.in_ HoC.out) HsmX.out HsmC.out (HofX.out.trans HofC.out.symm)).mono ?_
    rintro e w9 ⟨rfl, hb9⟩
    have hz9 : w8.heap.size ≤ w9.heap.size := by have := hb9.size; (try simp at this); omega
    have HB9 := Lib.hid (bT HB8.out hb9)
    clear HB8
    have HP9 := Lib.hid (Blk.belowAll HP8.out hb9)
    clear HP8
    have HX9 := Lib.hid (LinkOwn.below HX8.out hb9)
    clear HX8
    have HbX9 := Lib.hid (Blk.belowAll HbX8.out hb9)
    clear HbX8
    clear hb9
    go_simp
    refine hK.out _ _ (by exact ⟨linkCells (t := 29) (v := uX) HbX9.out, linkCells (t := 24) (v := a0) HP9.out⟩) (fun hS => ?_)
    clear hK K
    refine take_at 4 26 (v := ?_) rfl rfl (by kernel_rfl) (by kernel_rfl) (by kernel_rfl) (fun _ _ _ h => h) (by rfl) ?_ hS ?_
    rotate_left 1
    · (intro w hSw; (try dsimp only at hSw); (try go_split_ands); go_simp; try with_reducible rfl)
    simp only [List.setIfInBounds_toArray, List.set_cons_zero, List.set_cons_succ]
    refine wpAnyH_done (by kernel_rfl) ?_ _
    clear hS
    go_wp2
    go_ret
    exact ⟨rfl, HB9.out⟩

set_option maxRecDepth 100000 in
theorem lifted (os : Os) (started : os.Started) (H : Type) (enc : TypeId × Value → H) :
    ReturnsInHanded {} Try.checked os 3 .any (Rows.fnExactValidLinkSpec.pre6 enc Try.prog Try.f3 Rows.fnExactValidLinkRow.domain false) (Rows.fnExactValidLinkSpec.post enc Try.prog Try.f3 false true false false) := by
  refine returnsInHanded_of_change (C := Try.checked) Cells.own started (by kernel_rfl) Try.func3
    (ChangeSpec.witness6 (enc := enc) (C := Try.checked) false ⟨#[], #[.agg #[.int .i64 0, .slice none 0 0]], []⟩ 8 (by kernel_rfl) (by kernel_rfl) (by kernel_rfl) (by kernel_rfl)) ?_
  intro W base args ds gs before hval0 hW _ _
  have hval : ∀ (j : Nat) t v, Try.f3.params[j]? = some t → args[j]? = some v → Value.okWide Try.prog W .any base t v := hval0
  have hW' := hW
  obtain ⟨p, q, hA0, hV, rfl, _, _⟩ := hW
  have hA : DataW.TrodAll enc Try.prog W 0 (fun _ => true) true Try.f3.params.toList args.toList ds p := hA0
  rw [Try.params3] at hA hval
  obtain ⟨v0, vs0, d0, ds0, p0, q0, hargs, rfl, rfl, h0, r0⟩ := trodAll_cons hA
  obtain ⟨rfl, rfl, rfl⟩ := trodAll_nil r0
  obtain rfl : args = #[v0] := by cases args; simp_all
  obtain ⟨rfl, rfl⟩ := trodVars_none hV
  clear hA0 hval0
  have hlt : ∀ x ∈ (p0 ++ []), x.block < W.heap.size := fun x hx => hW'.lt x (by simpa using hx)
  have k0 := fun (W' : World) (hn : Below W.heap.size W W') => Below.trod Cells.laidOut (by kernel_rfl) (of_decide_eq_true (by kernel_rfl)) h0 hn (fun x hx => hlt x (by simp [hx]))
  obtain ⟨a0, rfl, i0, f0⟩ := link_open (hval 0 24 v0 rfl rfl) h0
  refine (walk W a0 i0 f0).mono fun e W' ⟨he, hnx⟩ => ?_
  subst he
  refine ⟨_, rfl, _, _, _, [], (p0 ++ []), [], hW', trodAll_mk1 (shut_bool Try.underlying4 _), (trodAll_cons_mk (k0 _ hnx) trodAll_mk0), rfl, hnx.frame _, fun h => by cases h⟩

theorem closed : joinedFacts Try.prog 3 Try.f3 Rows.fnExactValidLinkSpec Rows.fnExactValidLinkRow = true := by
  unfold joinedFacts
  rw [Cells.laidOut, Cells.mapsRowed_, Cells.stops, Cells.stopKnobs, Cells.plainKeys, Cells.stopsHeard, Cells.mayEnter, Cells.liftsFinal, Cells.make]
  kernel_rfl

theorem over : Rows.fnExactValidLinkRow.holds Try.pinned (OpenSpec.ofChange Rows.fnExactValidLinkSpec) :=
  OpenClaim.holds_of_wide 3 Try.f3 rfl rfl rfl rfl rfl rfl rfl ⟨rfl, rfl, rfl, rfl, rfl⟩ rfl rfl rfl rfl rfl (by kernel_rfl) Try.func3 closed
    (of_decide_eq_true (by kernel_rfl)) (by unfold Func.isWrapper; first | (rw [if_pos (by decide +kernel)]; kernel_rfl) | (rw [if_neg (by decide +kernel)]; exact ⟨rfl, rfl⟩))
    (fun os started H enc _ => lifted os started H enc)

/-- THE STATEMENT -/
theorem proved : Rows.FnExactValidLinkSaid := over
#print axioms proved
end Go.Proofs.Ytnkoapccnlgijaa.fnExactValidLink
