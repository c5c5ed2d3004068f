/-
  Chapter 12: the program's ValidLink.
-/
import Derived.Test.YtnkoapccnlgijaaLinkValid
set_option linter.unusedSimpArgs false
namespace Go.Proofs.Ytnkoapccnlgijaa
open Go.RowKit Go.Maps
set_option linter.unusedVariables false

theorem step_len_own {P : Program} {H : Type} {w : World} {ops : Array Oper} {o : Oper} {a : Act} {K : Act → World → Prop} {Q : Exit → Act → World → Prop} {E : Prop} (hg : o.guard = none) (m : Operand) (t : TypeId) (hop : o.op = Op.call { callee := Callee.builtin Builtin.len, args := #[m], argTypes := #[t] })
    (k e : TypeId) (ht : P.underlying t = some (.map k e)) (R : Value → Option (DataW H × List MemPlace)) (b n : Nat) (D : DataW H) (hm : a.eval m = .map (some b)) (hown : w.ownsMap P k R b n D)
    (hK : K (a.put o.dst (.int .i64 (Maps.size D))) w) : if Region.wanted o (yielded ops a.tmps) = true then Oper.wp P o a w K Q else E := by
  have hw : Region.wanted o (yielded ops a.tmps) = true := by simp [Region.wanted, hg]
  rw [if_pos hw]
  unfold Oper.wp
  simp [execOp, hop, resolve, invoke, builtin, hm, hown.len ht o.type, Result.andThen]
  exact hK
theorem Fares.link_size {k : Fares.Link} (h : ∀ x ∈ k.opn, Fares.callOk x = true) (hn : 1 ≤ k.nxt ∧ k.nxt ≤ 12) (h6 : k.opn.length ≤ 6) : (((Maps.size (tripleMap (H := Unit) (trips k.opn)) : Nat) : Int) == (k.opn.length : Int)) = Fares.validLink k := by
  obtain ⟨h1, h2⟩ := tripleMap_size (H := Unit) (trips k.opn)
  have hl : (trips k.opn).length = k.opn.length := by unfold trips; rw [List.length_map]
  have hp : (trips k.opn).Pairwise (fun x y => x.1 ≠ y.1) ↔ k.opn.Pairwise (fun x y => x.t ≠ y.t) := by unfold trips; rw [List.pairwise_map]
  rw [hl] at h1 h2
  rw [hp] at h2
  have hv : Fares.validLink k = Fares.freshCalls k.opn := by
    unfold Fares.validLink
    rw [List.all_eq_true.2 h, decide_eq_true hn, decide_eq_true h6]
    simp
  rw [hv]
  unfold Fares.freshCalls
  by_cases hd : k.opn.Pairwise (fun x y => x.t ≠ y.t)
  · rw [decide_eq_true hd, h2.2 hd]; simp
  · rw [decide_eq_false hd]
    have : Maps.size (tripleMap (H := Unit) (trips k.opn)) ≠ k.opn.length := fun e => hd (h2.1 e)
    rw [beq_eq_false_iff_ne]
    omega
set_option maxRecDepth 100000 in
set_option maxHeartbeats 4000000 in
theorem implValidLink_any (v : LinkR) (w : World) (hi : LinkIn w w.heap.size v) (hs : LinkSmall v) :
    Calls Try.prog 19 #[linkV v] w fun e w' => e = .returned (.bool (Fares.validLink v.of)) ∧ Below w.heap.size w w' := by
  have hl : v.opn.length ≤ 1048576 := hs
  by_cases hn : 1 ≤ v.nxt ∧ v.nxt ≤ 12
  · by_cases h6 : v.opn.length ≤ 6
    · unfold linkV
      go_enter Try.func19, Try.ntmps19
      go_wp2_with fail
      generalize hW : World.alloc _ _ = w0
      have hc := linkCells (show Blk w0 w.heap.size 29 v.cells by rw [← hW]; exact Blk.new w _ _)
      have hIn : LinkIn w0 w0.heap.size v := by rw [← hW]; exact hi.up _
      have hb0 : Below w.heap.size w w0 := by rw [← hW]; exact bA (Below.refl _ _) _
      have hz0 : w0.heap.size = w.heap.size + 1 := by rw [← hW, World.size_alloc]
      clear hW
      have HIN := Lib.hid (show CallRows w0 w0.heap.size v.opnA v.opn from hIn.1); clear hIn
      obtain ⟨n0, n1⟩ := hc
      refine (validTrace_any _ _).mono ?_
      rw [decide_eq_true hn]
      rintro e w' ⟨rfl, rfl⟩
      go_wp2
      go_loopw [18] (fun i wr => ∃ k : Nat, k ≤ v.opn.length ∧ i = .int .i64 k ∧ (∀ (a : Nat) (x : Fares.Call), a < k → v.opn[a]? = some x → Fares.callOk x = true) ∧ Below w0.heap.size w0 wr) (fun i _ => v.opn.length - (intOf i).toNat)
      case atStart => exact ⟨0, by omega, rfl, fun _ _ h => by omega, Below.refl _ _⟩
      case round =>
        obtain ⟨k, hk, rfl, hok, hb⟩ := hrel
        have HOK := Lib.hid hok; clear hok
        by_cases hlt : k < v.opn.length
        · obtain ⟨x, hx⟩ : ∃ x, v.opn[k]? = some x := ⟨_, List.getElem?_eq_getElem hlt⟩
          obtain ⟨b1, o1, eA, hbb, hr1⟩ := CallRows.row HIN.out (by omega)
          rw [eA]
          obtain ⟨p0, p1, p2⟩ := (hr1 k x hx).below hb hbb
          have HX := Lib.hid hx; clear hx
          have i0 : (0 : Int) ≤ (k : Int) := by omega
          have i1 : (k : Int) < (v.opn.length : Int) := by omega
          obtain ⟨lx, c0, c1, c2⟩ := CallBox.new wr x 49
          have hba : Below w0.heap.size w0 (wr.alloc (.cells #[.int .i64 x.t, .int .i64 x.a, .int .i64 x.s] 49)) := bA hb _
          obtain ⟨ok, hok⟩ : ∃ ok, Fares.callOk x = ok := ⟨_, rfl⟩
          have HO := Lib.hid hok; clear hok
          go_wp2_with fail
          refine (implCallvalid_any x _).mono ?_
          rw [HO.out]
          rintro e w9 ⟨rfl, hb9⟩
          have hbc := bT hba hb9
          clear p0 p1 p2 c0 c1 c2
          cases ok
          · have HF := Lib.hid (Fares.link_bad (k := v.of) HX.out HO.out)
            go_wp2
            go_ret
            exact ⟨ret_bool HF.out.symm, bT hb0 hbc⟩
          · go_wp2
            go_roundw
            case rel => exact ⟨k + 1, by omega, by go_num, fun a z h1 h2 => by
              rcases Nat.lt_or_ge a k with h | h
              · exact HOK.out a z h h2
              · obtain rfl : a = k := by omega
                obtain rfl := Option.some.inj (HX.out.symm.trans h2)
                exact HO.out, hbc⟩
            case measure => simp [intOf]; omega
        · obtain rfl : k = v.opn.length := by omega
          have hall : ∀ x ∈ v.opn, Fares.callOk x = true := fun x hx => by obtain ⟨a, ha⟩ := List.getElem?_of_mem hx; exact HOK.out a x (List.getElem?_eq_some_iff.1 ha).1 ha
          have HWF := Lib.hid (fun x hx => by
            obtain ⟨⟨t0, t1⟩, _⟩ := Fares.callOk_iff.1 (hall x hx)
            show (decide ((-9223372036854775808 : Int) ≤ x.t) && decide (x.t ≤ 9223372036854775807)) = true
            rw [Bool.and_eq_true, decide_eq_true_eq, decide_eq_true_eq]; omega : ∀ x ∈ v.opn, (Lit.int .i64 x.t).wf = true)
          have HFIN := Lib.hid (Fares.link_size (k := v.of) hall hn h6)
          clear hall
          have hbd : Below w0.heap.size w0 wr.drew := bD1 hb
          have m0 := (hb.cell (p := ⟨w.heap.size, 0, none⟩) (show w.heap.size < w0.heap.size by omega)).trans n0
          have m1 := (hb.cell (p := ⟨w.heap.size, 1, none⟩) (show w.heap.size < w0.heap.size by omega)).trans n1
          go_wp2
          refine wp_region_any (by kernel_rfl) ?_
          change wpAny _ _ _ _ _ _ _ (World.drew _)
          refine wpAny_ready (rs := [0, 3]) (by kernel_rfl) (by simp) ?_
          refine AllReady.cons rfl (fun K hK => ?_) (AllReady.cons rfl (fun K hK => ?_) (AllReady.nil))
          · go_simp
            refine hK _ _ ?_
            clear hK K
            refine wpAny_ready (rs := [1, 3]) (by kernel_rfl) (by simp) ?_
            refine AllReady.cons rfl (fun K hK => ?_) (AllReady.cons rfl (fun K hK => ?_) (AllReady.nil))
            · go_simp
              go_wp2_with fail
              refine (byTrace_any (H := Unit) v.nxt v.opnA v.opnc v.opn wr.drew (readsOver HIN.out hbd) HWF.out (by omega)).mono ?_
              rintro e w9 ⟨b9, rfl, hbb9, hown9, hb9⟩
              have hb09 : Below w0.heap.size w0 w9 := bT hbd hb9
              have m1 := (hb09.cell (p := ⟨w.heap.size, 1, none⟩) (show w.heap.size < w0.heap.size by omega)).trans n1
              refine hK _ _ ?_
              clear hK K
              refine wpAny_ready (rs := [2, 3]) (by kernel_rfl) (by simp) ?_
              refine AllReady.cons rfl (fun K hK => ?_) (AllReady.cons rfl (fun K hK => ?_) (AllReady.nil))
              · refine step_len_own rfl (.tmp 27) 54 rfl 3 49 Try.underlying54 (tripleElem (H := Unit)) b9 v.opn.length (tripleMap (trips v.opn)) rfl hown9 ?_
                refine hK _ _ ?_
                clear hK K
                refine wpAny_ready (rs := [3]) (by kernel_rfl) (by simp) ?_
                refine AllReady.cons rfl (fun K hK => ?_) (AllReady.nil)
                · go_simp
                  refine hK _ _ ?_
                  clear hK K
                  refine wpAny_ready (rs := [4]) (by kernel_rfl) (by simp) ?_
                  refine AllReady.cons rfl (fun K hK => ?_) (AllReady.nil)
                  · go_simp
                    refine hK _ _ ?_
                    clear hK K
                    refine wpAny_ready (rs := [5]) (by kernel_rfl) (by simp) ?_
                    refine AllReady.cons rfl (fun K hK => ?_) (AllReady.nil)
                    · go_simp
                      refine hK _ _ ?_
                      clear hK K
                      refine wpAny_ready (rs := [6]) (by kernel_rfl) (by simp) ?_
                      refine AllReady.cons rfl (fun K hK => ?_) (AllReady.nil)
                      · go_simp
                        refine hK _ _ ?_
                        clear hK K
                        refine wpAny_ready (rs := [7]) (by kernel_rfl) (by simp) ?_
                        refine AllReady.cons rfl (fun K hK => ?_) (AllReady.nil)
                        · go_simp
                          refine hK _ _ ?_
                          clear hK K
                          refine wpAny_done (by kernel_rfl) ?_ _
                          go_wp2
                          go_ret
                          exact ⟨ret_bool HFIN.out, bT hb0 hb09⟩
              · go_simp
                refine hK _ _ ?_
                clear hK K
                refine wpAny_ready (rs := [2, 4]) (by kernel_rfl) (by simp) ?_
                refine AllReady.cons rfl (fun K hK => ?_) (AllReady.cons rfl (fun K hK => ?_) (AllReady.nil))
                · refine step_len_own rfl (.tmp 27) 54 rfl 3 49 Try.underlying54 (tripleElem (H := Unit)) b9 v.opn.length (tripleMap (trips v.opn)) rfl hown9 ?_
                  refine hK _ _ ?_
                  clear hK K
                  refine wpAny_ready (rs := [4]) (by kernel_rfl) (by simp) ?_
                  refine AllReady.cons rfl (fun K hK => ?_) (AllReady.nil)
                  · go_simp
                    refine hK _ _ ?_
                    clear hK K
                    refine wpAny_ready (rs := [5]) (by kernel_rfl) (by simp) ?_
                    refine AllReady.cons rfl (fun K hK => ?_) (AllReady.nil)
                    · go_simp
                      refine hK _ _ ?_
                      clear hK K
                      refine wpAny_ready (rs := [6]) (by kernel_rfl) (by simp) ?_
                      refine AllReady.cons rfl (fun K hK => ?_) (AllReady.nil)
                      · go_simp
                        refine hK _ _ ?_
                        clear hK K
                        refine wpAny_ready (rs := [7]) (by kernel_rfl) (by simp) ?_
                        refine AllReady.cons rfl (fun K hK => ?_) (AllReady.nil)
                        · go_simp
                          refine hK _ _ ?_
                          clear hK K
                          refine wpAny_done (by kernel_rfl) ?_ _
                          go_wp2
                          go_ret
                          exact ⟨ret_bool HFIN.out, bT hb0 hb09⟩
                · go_simp
                  refine hK _ _ ?_
                  clear hK K
                  refine wpAny_ready (rs := [2, 5]) (by kernel_rfl) (by simp) ?_
                  refine AllReady.cons rfl (fun K hK => ?_) (AllReady.cons rfl (fun K hK => ?_) (AllReady.nil))
                  · refine step_len_own rfl (.tmp 27) 54 rfl 3 49 Try.underlying54 (tripleElem (H := Unit)) b9 v.opn.length (tripleMap (trips v.opn)) rfl hown9 ?_
                    refine hK _ _ ?_
                    clear hK K
                    refine wpAny_ready (rs := [5]) (by kernel_rfl) (by simp) ?_
                    refine AllReady.cons rfl (fun K hK => ?_) (AllReady.nil)
                    · go_simp
                      refine hK _ _ ?_
                      clear hK K
                      refine wpAny_ready (rs := [6]) (by kernel_rfl) (by simp) ?_
                      refine AllReady.cons rfl (fun K hK => ?_) (AllReady.nil)
                      · go_simp
                        refine hK _ _ ?_
                        clear hK K
                        refine wpAny_ready (rs := [7]) (by kernel_rfl) (by simp) ?_
                        refine AllReady.cons rfl (fun K hK => ?_) (AllReady.nil)
                        · go_simp
                          refine hK _ _ ?_
                          clear hK K
                          refine wpAny_done (by kernel_rfl) ?_ _
                          go_wp2
                          go_ret
                          exact ⟨ret_bool HFIN.out, bT hb0 hb09⟩
                  · go_simp
                    refine hK _ _ ?_
                    clear hK K
                    refine wpAny_ready (rs := [2]) (by kernel_rfl) (by simp) ?_
                    refine AllReady.cons rfl (fun K hK => ?_) (AllReady.nil)
                    · refine step_len_own rfl (.tmp 27) 54 rfl 3 49 Try.underlying54 (tripleElem (H := Unit)) b9 v.opn.length (tripleMap (trips v.opn)) rfl hown9 ?_
                      refine hK _ _ ?_
                      clear hK K
                      refine wpAny_ready (rs := [6]) (by kernel_rfl) (by simp) ?_
                      refine AllReady.cons rfl (fun K hK => ?_) (AllReady.nil)
                      · go_simp
                        refine hK _ _ ?_
                        clear hK K
                        refine wpAny_ready (rs := [7]) (by kernel_rfl) (by simp) ?_
                        refine AllReady.cons rfl (fun K hK => ?_) (AllReady.nil)
                        · go_simp
                          refine hK _ _ ?_
                          clear hK K
                          refine wpAny_done (by kernel_rfl) ?_ _
                          go_wp2
                          go_ret
                          exact ⟨ret_bool HFIN.out, bT hb0 hb09⟩
            · go_simp
              refine hK _ _ ?_
              clear hK K
              refine wpAny_ready (rs := [1, 4]) (by kernel_rfl) (by simp) ?_
              refine AllReady.cons rfl (fun K hK => ?_) (AllReady.cons rfl (fun K hK => ?_) (AllReady.nil))
              · go_simp
                go_wp2_with fail
                refine (byTrace_any (H := Unit) v.nxt v.opnA v.opnc v.opn wr.drew (readsOver HIN.out hbd) HWF.out (by omega)).mono ?_
                rintro e w9 ⟨b9, rfl, hbb9, hown9, hb9⟩
                have hb09 : Below w0.heap.size w0 w9 := bT hbd hb9
                have m1 := (hb09.cell (p := ⟨w.heap.size, 1, none⟩) (show w.heap.size < w0.heap.size by omega)).trans n1
                refine hK _ _ ?_
                clear hK K
                refine wpAny_ready (rs := [2, 4]) (by kernel_rfl) (by simp) ?_
                refine AllReady.cons rfl (fun K hK => ?_) (AllReady.cons rfl (fun K hK => ?_) (AllReady.nil))
                · refine step_len_own rfl (.tmp 27) 54 rfl 3 49 Try.underlying54 (tripleElem (H := Unit)) b9 v.opn.length (tripleMap (trips v.opn)) rfl hown9 ?_
                  refine hK _ _ ?_
                  clear hK K
                  refine wpAny_ready (rs := [4]) (by kernel_rfl) (by simp) ?_
                  refine AllReady.cons rfl (fun K hK => ?_) (AllReady.nil)
                  · go_simp
                    refine hK _ _ ?_
                    clear hK K
                    refine wpAny_ready (rs := [5]) (by kernel_rfl) (by simp) ?_
                    refine AllReady.cons rfl (fun K hK => ?_) (AllReady.nil)
                    · go_simp
                      refine hK _ _ ?_
                      clear hK K
                      refine wpAny_ready (rs := [6]) (by kernel_rfl) (by simp) ?_
                      refine AllReady.cons rfl (fun K hK => ?_) (AllReady.nil)
                      · go_simp
                        refine hK _ _ ?_
                        clear hK K
                        refine wpAny_ready (rs := [7]) (by kernel_rfl) (by simp) ?_
                        refine AllReady.cons rfl (fun K hK => ?_) (AllReady.nil)
                        · go_simp
                          refine hK _ _ ?_
                          clear hK K
                          refine wpAny_done (by kernel_rfl) ?_ _
                          go_wp2
                          go_ret
                          exact ⟨ret_bool HFIN.out, bT hb0 hb09⟩
                · go_simp
                  refine hK _ _ ?_
                  clear hK K
                  refine wpAny_ready (rs := [2, 5]) (by kernel_rfl) (by simp) ?_
                  refine AllReady.cons rfl (fun K hK => ?_) (AllReady.cons rfl (fun K hK => ?_) (AllReady.nil))
                  · refine step_len_own rfl (.tmp 27) 54 rfl 3 49 Try.underlying54 (tripleElem (H := Unit)) b9 v.opn.length (tripleMap (trips v.opn)) rfl hown9 ?_
                    refine hK _ _ ?_
                    clear hK K
                    refine wpAny_ready (rs := [5]) (by kernel_rfl) (by simp) ?_
                    refine AllReady.cons rfl (fun K hK => ?_) (AllReady.nil)
                    · go_simp
                      refine hK _ _ ?_
                      clear hK K
                      refine wpAny_ready (rs := [6]) (by kernel_rfl) (by simp) ?_
                      refine AllReady.cons rfl (fun K hK => ?_) (AllReady.nil)
                      · go_simp
                        refine hK _ _ ?_
                        clear hK K
                        refine wpAny_ready (rs := [7]) (by kernel_rfl) (by simp) ?_
                        refine AllReady.cons rfl (fun K hK => ?_) (AllReady.nil)
                        · go_simp
                          refine hK _ _ ?_
                          clear hK K
                          refine wpAny_done (by kernel_rfl) ?_ _
                          go_wp2
                          go_ret
                          exact ⟨ret_bool HFIN.out, bT hb0 hb09⟩
                  · go_simp
                    refine hK _ _ ?_
                    clear hK K
                    refine wpAny_ready (rs := [2]) (by kernel_rfl) (by simp) ?_
                    refine AllReady.cons rfl (fun K hK => ?_) (AllReady.nil)
                    · refine step_len_own rfl (.tmp 27) 54 rfl 3 49 Try.underlying54 (tripleElem (H := Unit)) b9 v.opn.length (tripleMap (trips v.opn)) rfl hown9 ?_
                      refine hK _ _ ?_
                      clear hK K
                      refine wpAny_ready (rs := [6]) (by kernel_rfl) (by simp) ?_
                      refine AllReady.cons rfl (fun K hK => ?_) (AllReady.nil)
                      · go_simp
                        refine hK _ _ ?_
                        clear hK K
                        refine wpAny_ready (rs := [7]) (by kernel_rfl) (by simp) ?_
                        refine AllReady.cons rfl (fun K hK => ?_) (AllReady.nil)
                        · go_simp
                          refine hK _ _ ?_
                          clear hK K
                          refine wpAny_done (by kernel_rfl) ?_ _
                          go_wp2
                          go_ret
                          exact ⟨ret_bool HFIN.out, bT hb0 hb09⟩
              · go_simp
                refine hK _ _ ?_
                clear hK K
                refine wpAny_ready (rs := [1, 5]) (by kernel_rfl) (by simp) ?_
                refine AllReady.cons rfl (fun K hK => ?_) (AllReady.cons rfl (fun K hK => ?_) (AllReady.nil))
                · go_simp
                  go_wp2_with fail
                  refine (byTrace_any (H := Unit) v.nxt v.opnA v.opnc v.opn wr.drew (readsOver HIN.out hbd) HWF.out (by omega)).mono ?_
                  rintro e w9 ⟨b9, rfl, hbb9, hown9, hb9⟩
                  have hb09 : Below w0.heap.size w0 w9 := bT hbd hb9
                  have m1 := (hb09.cell (p := ⟨w.heap.size, 1, none⟩) (show w.heap.size < w0.heap.size by omega)).trans n1
                  refine hK _ _ ?_
                  clear hK K
                  refine wpAny_ready (rs := [2, 5]) (by kernel_rfl) (by simp) ?_
                  refine AllReady.cons rfl (fun K hK => ?_) (AllReady.cons rfl (fun K hK => ?_) (AllReady.nil))
                  · refine step_len_own rfl (.tmp 27) 54 rfl 3 49 Try.underlying54 (tripleElem (H := Unit)) b9 v.opn.length (tripleMap (trips v.opn)) rfl hown9 ?_
                    refine hK _ _ ?_
                    clear hK K
                    refine wpAny_ready (rs := [5]) (by kernel_rfl) (by simp) ?_
                    refine AllReady.cons rfl (fun K hK => ?_) (AllReady.nil)
                    · go_simp
                      refine hK _ _ ?_
                      clear hK K
                      refine wpAny_ready (rs := [6]) (by kernel_rfl) (by simp) ?_
                      refine AllReady.cons rfl (fun K hK => ?_) (AllReady.nil)
                      · go_simp
                        refine hK _ _ ?_
                        clear hK K
                        refine wpAny_ready (rs := [7]) (by kernel_rfl) (by simp) ?_
                        refine AllReady.cons rfl (fun K hK => ?_) (AllReady.nil)
                        · go_simp
                          refine hK _ _ ?_
                          clear hK K
                          refine wpAny_done (by kernel_rfl) ?_ _
                          go_wp2
                          go_ret
                          exact ⟨ret_bool HFIN.out, bT hb0 hb09⟩
                  · go_simp
                    refine hK _ _ ?_
                    clear hK K
                    refine wpAny_ready (rs := [2]) (by kernel_rfl) (by simp) ?_
                    refine AllReady.cons rfl (fun K hK => ?_) (AllReady.nil)
                    · refine step_len_own rfl (.tmp 27) 54 rfl 3 49 Try.underlying54 (tripleElem (H := Unit)) b9 v.opn.length (tripleMap (trips v.opn)) rfl hown9 ?_
                      refine hK _ _ ?_
                      clear hK K
                      refine wpAny_ready (rs := [6]) (by kernel_rfl) (by simp) ?_
                      refine AllReady.cons rfl (fun K hK => ?_) (AllReady.nil)
                      · go_simp
                        refine hK _ _ ?_
                        clear hK K
                        refine wpAny_ready (rs := [7]) (by kernel_rfl) (by simp) ?_
                        refine AllReady.cons rfl (fun K hK => ?_) (AllReady.nil)
                        · go_simp
                          refine hK _ _ ?_
                          clear hK K
                          refine wpAny_done (by kernel_rfl) ?_ _
                          go_wp2
                          go_ret
                          exact ⟨ret_bool HFIN.out, bT hb0 hb09⟩
                · go_simp
                  refine hK _ _ ?_
                  clear hK K
                  refine wpAny_ready (rs := [1]) (by kernel_rfl) (by simp) ?_
                  refine AllReady.cons rfl (fun K hK => ?_) (AllReady.nil)
                  · go_simp
                    go_wp2_with fail
                    refine (byTrace_any (H := Unit) v.nxt v.opnA v.opnc v.opn wr.drew (readsOver HIN.out hbd) HWF.out (by omega)).mono ?_
                    rintro e w9 ⟨b9, rfl, hbb9, hown9, hb9⟩
                    have hb09 : Below w0.heap.size w0 w9 := bT hbd hb9
                    have m1 := (hb09.cell (p := ⟨w.heap.size, 1, none⟩) (show w.heap.size < w0.heap.size by omega)).trans n1
                    refine hK _ _ ?_
                    clear hK K
                    refine wpAny_ready (rs := [2]) (by kernel_rfl) (by simp) ?_
                    refine AllReady.cons rfl (fun K hK => ?_) (AllReady.nil)
                    · refine step_len_own rfl (.tmp 27) 54 rfl 3 49 Try.underlying54 (tripleElem (H := Unit)) b9 v.opn.length (tripleMap (trips v.opn)) rfl hown9 ?_
                      refine hK _ _ ?_
                      clear hK K
                      refine wpAny_ready (rs := [6]) (by kernel_rfl) (by simp) ?_
                      refine AllReady.cons rfl (fun K hK => ?_) (AllReady.nil)
                      · go_simp
                        refine hK _ _ ?_
                        clear hK K
                        refine wpAny_ready (rs := [7]) (by kernel_rfl) (by simp) ?_
                        refine AllReady.cons rfl (fun K hK => ?_) (AllReady.nil)
                        · go_simp
                          refine hK _ _ ?_
                          clear hK K
                          refine wpAny_done (by kernel_rfl) ?_ _
                          go_wp2
                          go_ret
                          exact ⟨ret_bool HFIN.out, bT hb0 hb09⟩
          · go_simp
            refine hK _ _ ?_
            clear hK K
            refine wpAny_ready (rs := [0, 4]) (by kernel_rfl) (by simp) ?_
            refine AllReady.cons rfl (fun K hK => ?_) (AllReady.cons rfl (fun K hK => ?_) (AllReady.nil))
            · go_simp
              refine hK _ _ ?_
              clear hK K
              refine wpAny_ready (rs := [1, 4]) (by kernel_rfl) (by simp) ?_
              refine AllReady.cons rfl (fun K hK => ?_) (AllReady.cons rfl (fun K hK => ?_) (AllReady.nil))
              · go_simp
                go_wp2_with fail
                refine (byTrace_any (H := Unit) v.nxt v.opnA v.opnc v.opn wr.drew (readsOver HIN.out hbd) HWF.out (by omega)).mono ?_
                rintro e w9 ⟨b9, rfl, hbb9, hown9, hb9⟩
                have hb09 : Below w0.heap.size w0 w9 := bT hbd hb9
                have m1 := (hb09.cell (p := ⟨w.heap.size, 1, none⟩) (show w.heap.size < w0.heap.size by omega)).trans n1
                refine hK _ _ ?_
                clear hK K
                refine wpAny_ready (rs := [2, 4]) (by kernel_rfl) (by simp) ?_
                refine AllReady.cons rfl (fun K hK => ?_) (AllReady.cons rfl (fun K hK => ?_) (AllReady.nil))
                · refine step_len_own rfl (.tmp 27) 54 rfl 3 49 Try.underlying54 (tripleElem (H := Unit)) b9 v.opn.length (tripleMap (trips v.opn)) rfl hown9 ?_
                  refine hK _ _ ?_
                  clear hK K
                  refine wpAny_ready (rs := [4]) (by kernel_rfl) (by simp) ?_
                  refine AllReady.cons rfl (fun K hK => ?_) (AllReady.nil)
                  · go_simp
                    refine hK _ _ ?_
                    clear hK K
                    refine wpAny_ready (rs := [5]) (by kernel_rfl) (by simp) ?_
                    refine AllReady.cons rfl (fun K hK => ?_) (AllReady.nil)
                    · go_simp
                      refine hK _ _ ?_
                      clear hK K
                      refine wpAny_ready (rs := [6]) (by kernel_rfl) (by simp) ?_
                      refine AllReady.cons rfl (fun K hK => ?_) (AllReady.nil)
                      · go_simp
                        refine hK _ _ ?_
                        clear hK K
                        refine wpAny_ready (rs := [7]) (by kernel_rfl) (by simp) ?_
                        refine AllReady.cons rfl (fun K hK => ?_) (AllReady.nil)
                        · go_simp
                          refine hK _ _ ?_
                          clear hK K
                          refine wpAny_done (by kernel_rfl) ?_ _
                          go_wp2
                          go_ret
                          exact ⟨ret_bool HFIN.out, bT hb0 hb09⟩
                · go_simp
                  refine hK _ _ ?_
                  clear hK K
                  refine wpAny_ready (rs := [2, 5]) (by kernel_rfl) (by simp) ?_
                  refine AllReady.cons rfl (fun K hK => ?_) (AllReady.cons rfl (fun K hK => ?_) (AllReady.nil))
                  · refine step_len_own rfl (.tmp 27) 54 rfl 3 49 Try.underlying54 (tripleElem (H := Unit)) b9 v.opn.length (tripleMap (trips v.opn)) rfl hown9 ?_
                    refine hK _ _ ?_
                    clear hK K
                    refine wpAny_ready (rs := [5]) (by kernel_rfl) (by simp) ?_
                    refine AllReady.cons rfl (fun K hK => ?_) (AllReady.nil)
                    · go_simp
                      refine hK _ _ ?_
                      clear hK K
                      refine wpAny_ready (rs := [6]) (by kernel_rfl) (by simp) ?_
                      refine AllReady.cons rfl (fun K hK => ?_) (AllReady.nil)
                      · go_simp
                        refine hK _ _ ?_
                        clear hK K
                        refine wpAny_ready (rs := [7]) (by kernel_rfl) (by simp) ?_
                        refine AllReady.cons rfl (fun K hK => ?_) (AllReady.nil)
                        · go_simp
                          refine hK _ _ ?_
                          clear hK K
                          refine wpAny_done (by kernel_rfl) ?_ _
                          go_wp2
                          go_ret
                          exact ⟨ret_bool HFIN.out, bT hb0 hb09⟩
                  · go_simp
                    refine hK _ _ ?_
                    clear hK K
                    refine wpAny_ready (rs := [2]) (by kernel_rfl) (by simp) ?_
                    refine AllReady.cons rfl (fun K hK => ?_) (AllReady.nil)
                    · refine step_len_own rfl (.tmp 27) 54 rfl 3 49 Try.underlying54 (tripleElem (H := Unit)) b9 v.opn.length (tripleMap (trips v.opn)) rfl hown9 ?_
                      refine hK _ _ ?_
                      clear hK K
                      refine wpAny_ready (rs := [6]) (by kernel_rfl) (by simp) ?_
                      refine AllReady.cons rfl (fun K hK => ?_) (AllReady.nil)
                      · go_simp
                        refine hK _ _ ?_
                        clear hK K
                        refine wpAny_ready (rs := [7]) (by kernel_rfl) (by simp) ?_
                        refine AllReady.cons rfl (fun K hK => ?_) (AllReady.nil)
                        · go_simp
                          refine hK _ _ ?_
                          clear hK K
                          refine wpAny_done (by kernel_rfl) ?_ _
                          go_wp2
                          go_ret
                          exact ⟨ret_bool HFIN.out, bT hb0 hb09⟩
              · go_simp
                refine hK _ _ ?_
                clear hK K
                refine wpAny_ready (rs := [1, 5]) (by kernel_rfl) (by simp) ?_
                refine AllReady.cons rfl (fun K hK => ?_) (AllReady.cons rfl (fun K hK => ?_) (AllReady.nil))
                · go_simp
                  go_wp2_with fail
                  refine (byTrace_any (H := Unit) v.nxt v.opnA v.opnc v.opn wr.drew (readsOver HIN.out hbd) HWF.out (by omega)).mono ?_
                  rintro e w9 ⟨b9, rfl, hbb9, hown9, hb9⟩
                  have hb09 : Below w0.heap.size w0 w9 := bT hbd hb9
                  have m1 := (hb09.cell (p := ⟨w.heap.size, 1, none⟩) (show w.heap.size < w0.heap.size by omega)).trans n1
                  refine hK _ _ ?_
                  clear hK K
                  refine wpAny_ready (rs := [2, 5]) (by kernel_rfl) (by simp) ?_
                  refine AllReady.cons rfl (fun K hK => ?_) (AllReady.cons rfl (fun K hK => ?_) (AllReady.nil))
                  · refine step_len_own rfl (.tmp 27) 54 rfl 3 49 Try.underlying54 (tripleElem (H := Unit)) b9 v.opn.length (tripleMap (trips v.opn)) rfl hown9 ?_
                    refine hK _ _ ?_
                    clear hK K
                    refine wpAny_ready (rs := [5]) (by kernel_rfl) (by simp) ?_
                    refine AllReady.cons rfl (fun K hK => ?_) (AllReady.nil)
                    · go_simp
                      refine hK _ _ ?_
                      clear hK K
                      refine wpAny_ready (rs := [6]) (by kernel_rfl) (by simp) ?_
                      refine AllReady.cons rfl (fun K hK => ?_) (AllReady.nil)
                      · go_simp
                        refine hK _ _ ?_
                        clear hK K
                        refine wpAny_ready (rs := [7]) (by kernel_rfl) (by simp) ?_
                        refine AllReady.cons rfl (fun K hK => ?_) (AllReady.nil)
                        · go_simp
                          refine hK _ _ ?_
                          clear hK K
                          refine wpAny_done (by kernel_rfl) ?_ _
                          go_wp2
                          go_ret
                          exact ⟨ret_bool HFIN.out, bT hb0 hb09⟩
                  · go_simp
                    refine hK _ _ ?_
                    clear hK K
                    refine wpAny_ready (rs := [2]) (by kernel_rfl) (by simp) ?_
                    refine AllReady.cons rfl (fun K hK => ?_) (AllReady.nil)
                    · refine step_len_own rfl (.tmp 27) 54 rfl 3 49 Try.underlying54 (tripleElem (H := Unit)) b9 v.opn.length (tripleMap (trips v.opn)) rfl hown9 ?_
                      refine hK _ _ ?_
                      clear hK K
                      refine wpAny_ready (rs := [6]) (by kernel_rfl) (by simp) ?_
                      refine AllReady.cons rfl (fun K hK => ?_) (AllReady.nil)
                      · go_simp
                        refine hK _ _ ?_
                        clear hK K
                        refine wpAny_ready (rs := [7]) (by kernel_rfl) (by simp) ?_
                        refine AllReady.cons rfl (fun K hK => ?_) (AllReady.nil)
                        · go_simp
                          refine hK _ _ ?_
                          clear hK K
                          refine wpAny_done (by kernel_rfl) ?_ _
                          go_wp2
                          go_ret
                          exact ⟨ret_bool HFIN.out, bT hb0 hb09⟩
                · go_simp
                  refine hK _ _ ?_
                  clear hK K
                  refine wpAny_ready (rs := [1]) (by kernel_rfl) (by simp) ?_
                  refine AllReady.cons rfl (fun K hK => ?_) (AllReady.nil)
                  · go_simp
                    go_wp2_with fail
                    refine (byTrace_any (H := Unit) v.nxt v.opnA v.opnc v.opn wr.drew (readsOver HIN.out hbd) HWF.out (by omega)).mono ?_
                    rintro e w9 ⟨b9, rfl, hbb9, hown9, hb9⟩
                    have hb09 : Below w0.heap.size w0 w9 := bT hbd hb9
                    have m1 := (hb09.cell (p := ⟨w.heap.size, 1, none⟩) (show w.heap.size < w0.heap.size by omega)).trans n1
                    refine hK _ _ ?_
                    clear hK K
                    refine wpAny_ready (rs := [2]) (by kernel_rfl) (by simp) ?_
                    refine AllReady.cons rfl (fun K hK => ?_) (AllReady.nil)
                    · refine step_len_own rfl (.tmp 27) 54 rfl 3 49 Try.underlying54 (tripleElem (H := Unit)) b9 v.opn.length (tripleMap (trips v.opn)) rfl hown9 ?_
                      refine hK _ _ ?_
                      clear hK K
                      refine wpAny_ready (rs := [6]) (by kernel_rfl) (by simp) ?_
                      refine AllReady.cons rfl (fun K hK => ?_) (AllReady.nil)
                      · go_simp
                        refine hK _ _ ?_
                        clear hK K
                        refine wpAny_ready (rs := [7]) (by kernel_rfl) (by simp) ?_
                        refine AllReady.cons rfl (fun K hK => ?_) (AllReady.nil)
                        · go_simp
                          refine hK _ _ ?_
                          clear hK K
                          refine wpAny_done (by kernel_rfl) ?_ _
                          go_wp2
                          go_ret
                          exact ⟨ret_bool HFIN.out, bT hb0 hb09⟩
            · go_simp
              refine hK _ _ ?_
              clear hK K
              refine wpAny_ready (rs := [0, 5]) (by kernel_rfl) (by simp) ?_
              refine AllReady.cons rfl (fun K hK => ?_) (AllReady.cons rfl (fun K hK => ?_) (AllReady.nil))
              · go_simp
                refine hK _ _ ?_
                clear hK K
                refine wpAny_ready (rs := [1, 5]) (by kernel_rfl) (by simp) ?_
                refine AllReady.cons rfl (fun K hK => ?_) (AllReady.cons rfl (fun K hK => ?_) (AllReady.nil))
                · go_simp
                  go_wp2_with fail
                  refine (byTrace_any (H := Unit) v.nxt v.opnA v.opnc v.opn wr.drew (readsOver HIN.out hbd) HWF.out (by omega)).mono ?_
                  rintro e w9 ⟨b9, rfl, hbb9, hown9, hb9⟩
                  have hb09 : Below w0.heap.size w0 w9 := bT hbd hb9
                  have m1 := (hb09.cell (p := ⟨w.heap.size, 1, none⟩) (show w.heap.size < w0.heap.size by omega)).trans n1
                  refine hK _ _ ?_
                  clear hK K
                  refine wpAny_ready (rs := [2, 5]) (by kernel_rfl) (by simp) ?_
                  refine AllReady.cons rfl (fun K hK => ?_) (AllReady.cons rfl (fun K hK => ?_) (AllReady.nil))
                  · refine step_len_own rfl (.tmp 27) 54 rfl 3 49 Try.underlying54 (tripleElem (H := Unit)) b9 v.opn.length (tripleMap (trips v.opn)) rfl hown9 ?_
                    refine hK _ _ ?_
                    clear hK K
                    refine wpAny_ready (rs := [5]) (by kernel_rfl) (by simp) ?_
                    refine AllReady.cons rfl (fun K hK => ?_) (AllReady.nil)
                    · go_simp
                      refine hK _ _ ?_
                      clear hK K
                      refine wpAny_ready (rs := [6]) (by kernel_rfl) (by simp) ?_
                      refine AllReady.cons rfl (fun K hK => ?_) (AllReady.nil)
                      · go_simp
                        refine hK _ _ ?_
                        clear hK K
                        refine wpAny_ready (rs := [7]) (by kernel_rfl) (by simp) ?_
                        refine AllReady.cons rfl (fun K hK => ?_) (AllReady.nil)
                        · go_simp
                          refine hK _ _ ?_
                          clear hK K
                          refine wpAny_done (by kernel_rfl) ?_ _
                          go_wp2
                          go_ret
                          exact ⟨ret_bool HFIN.out, bT hb0 hb09⟩
                  · go_simp
                    refine hK _ _ ?_
                    clear hK K
                    refine wpAny_ready (rs := [2]) (by kernel_rfl) (by simp) ?_
                    refine AllReady.cons rfl (fun K hK => ?_) (AllReady.nil)
                    · refine step_len_own rfl (.tmp 27) 54 rfl 3 49 Try.underlying54 (tripleElem (H := Unit)) b9 v.opn.length (tripleMap (trips v.opn)) rfl hown9 ?_
                      refine hK _ _ ?_
                      clear hK K
                      refine wpAny_ready (rs := [6]) (by kernel_rfl) (by simp) ?_
                      refine AllReady.cons rfl (fun K hK => ?_) (AllReady.nil)
                      · go_simp
                        refine hK _ _ ?_
                        clear hK K
                        refine wpAny_ready (rs := [7]) (by kernel_rfl) (by simp) ?_
                        refine AllReady.cons rfl (fun K hK => ?_) (AllReady.nil)
                        · go_simp
                          refine hK _ _ ?_
                          clear hK K
                          refine wpAny_done (by kernel_rfl) ?_ _
                          go_wp2
                          go_ret
                          exact ⟨ret_bool HFIN.out, bT hb0 hb09⟩
                · go_simp
                  refine hK _ _ ?_
                  clear hK K
                  refine wpAny_ready (rs := [1]) (by kernel_rfl) (by simp) ?_
                  refine AllReady.cons rfl (fun K hK => ?_) (AllReady.nil)
                  · go_simp
                    go_wp2_with fail
                    refine (byTrace_any (H := Unit) v.nxt v.opnA v.opnc v.opn wr.drew (readsOver HIN.out hbd) HWF.out (by omega)).mono ?_
                    rintro e w9 ⟨b9, rfl, hbb9, hown9, hb9⟩
                    have hb09 : Below w0.heap.size w0 w9 := bT hbd hb9
                    have m1 := (hb09.cell (p := ⟨w.heap.size, 1, none⟩) (show w.heap.size < w0.heap.size by omega)).trans n1
                    refine hK _ _ ?_
                    clear hK K
                    refine wpAny_ready (rs := [2]) (by kernel_rfl) (by simp) ?_
                    refine AllReady.cons rfl (fun K hK => ?_) (AllReady.nil)
                    · refine step_len_own rfl (.tmp 27) 54 rfl 3 49 Try.underlying54 (tripleElem (H := Unit)) b9 v.opn.length (tripleMap (trips v.opn)) rfl hown9 ?_
                      refine hK _ _ ?_
                      clear hK K
                      refine wpAny_ready (rs := [6]) (by kernel_rfl) (by simp) ?_
                      refine AllReady.cons rfl (fun K hK => ?_) (AllReady.nil)
                      · go_simp
                        refine hK _ _ ?_
                        clear hK K
                        refine wpAny_ready (rs := [7]) (by kernel_rfl) (by simp) ?_
                        refine AllReady.cons rfl (fun K hK => ?_) (AllReady.nil)
                        · go_simp
                          refine hK _ _ ?_
                          clear hK K
                          refine wpAny_done (by kernel_rfl) ?_ _
                          go_wp2
                          go_ret
                          exact ⟨ret_bool HFIN.out, bT hb0 hb09⟩
              · go_simp
                refine hK _ _ ?_
                clear hK K
                refine wpAny_ready (rs := [0]) (by kernel_rfl) (by simp) ?_
                refine AllReady.cons rfl (fun K hK => ?_) (AllReady.nil)
                · go_simp
                  refine hK _ _ ?_
                  clear hK K
                  refine wpAny_ready (rs := [1]) (by kernel_rfl) (by simp) ?_
                  refine AllReady.cons rfl (fun K hK => ?_) (AllReady.nil)
                  · go_simp
                    go_wp2_with fail
                    refine (byTrace_any (H := Unit) v.nxt v.opnA v.opnc v.opn wr.drew (readsOver HIN.out hbd) HWF.out (by omega)).mono ?_
                    rintro e w9 ⟨b9, rfl, hbb9, hown9, hb9⟩
                    have hb09 : Below w0.heap.size w0 w9 := bT hbd hb9
                    have m1 := (hb09.cell (p := ⟨w.heap.size, 1, none⟩) (show w.heap.size < w0.heap.size by omega)).trans n1
                    refine hK _ _ ?_
                    clear hK K
                    refine wpAny_ready (rs := [2]) (by kernel_rfl) (by simp) ?_
                    refine AllReady.cons rfl (fun K hK => ?_) (AllReady.nil)
                    · refine step_len_own rfl (.tmp 27) 54 rfl 3 49 Try.underlying54 (tripleElem (H := Unit)) b9 v.opn.length (tripleMap (trips v.opn)) rfl hown9 ?_
                      refine hK _ _ ?_
                      clear hK K
                      refine wpAny_ready (rs := [6]) (by kernel_rfl) (by simp) ?_
                      refine AllReady.cons rfl (fun K hK => ?_) (AllReady.nil)
                      · go_simp
                        refine hK _ _ ?_
                        clear hK K
                        refine wpAny_ready (rs := [7]) (by kernel_rfl) (by simp) ?_
                        refine AllReady.cons rfl (fun K hK => ?_) (AllReady.nil)
                        · go_simp
                          refine hK _ _ ?_
                          clear hK K
                          refine wpAny_done (by kernel_rfl) ?_ _
                          go_wp2
                          go_ret
                          exact ⟨ret_bool HFIN.out, bT hb0 hb09⟩
    · have hno : Fares.validLink v.of = false := Fares.link_no (by rw [decide_eq_false (show ¬ v.of.opn.length ≤ 6 from h6), Bool.and_false])
      have HNO := Lib.hid hno; clear hno
      unfold linkV
      go_enter Try.func19, Try.ntmps19
      go_wp2_with fail
      refine (validTrace_any _ _).mono ?_
      rw [decide_eq_true hn]
      rintro e w' ⟨rfl, rfl⟩
      go_wp2
      go_ret
      exact ⟨ret_bool HNO.out.symm, bA (Below.refl _ _) _⟩
  · have hno : Fares.validLink v.of = false := Fares.link_no (by rw [decide_eq_false (show ¬ (1 ≤ v.of.nxt ∧ v.of.nxt ≤ 12) from hn), Bool.false_and])
    have HNO := Lib.hid hno; clear hno
    unfold linkV
    go_enter Try.func19, Try.ntmps19
    go_wp2_with fail
    refine (validTrace_any _ _).mono ?_
    rw [decide_eq_false hn]
    rintro e w' ⟨rfl, rfl⟩
    go_wp2
    go_ret
    exact ⟨ret_bool HNO.out.symm, bA (Below.refl _ _) _⟩
set_option maxHeartbeats 1000000 in
theorem specValidLink_any (v : LinkR) (w : World) (hi : LinkIn w w.heap.size v) (hs : LinkSmall v) :
    Calls Try.prog 17 #[linkV v] w fun e w' => e = .returned (.bool (Fares.validLink v.of)) ∧ Below w.heap.size w w' := by
  have Hi := Lib.hid hi; clear hi
  unfold linkV
  go_enter Try.func17, Try.ntmps17
  go_wp2_with fail
  refine (specvalidLink_any v _ (Hi.out.up _) hs).mono ?_
  rintro e w' ⟨rfl, hb⟩
  have hc := bT (bA (Below.refl _ _) _) hb
  go_wp2
  go_ret
  exact ⟨rfl, hc⟩
end Go.Proofs.Ytnkoapccnlgijaa
