/-
  Chapter 4: the program's JourneysOf: a loop over its iterator that collects.
-/
import Derived.Test.YtllhjgheffemnaaRidesStop
import Derived.Test.YtllhjgheffemnaaJoursFact
set_option linter.unusedSimpArgs false
namespace Go.Proofs.Ytllhjgheffemnaa
open Go.RowKit Go.Shelf
set_option linter.unusedVariables false
attribute [local go_sem] Oper.semAt_some

theorem TapBox.own {W W' : World} {row : Option Nat} {B : Nat} {x : Fares.Tap} (h : TapBox W B x) (hg : W.grownBy W' row) (hr : ∀ r, row = some r → ∃ o : Obj, W.heap[r]? = some o ∧ o.isCells = false) : TapBox W' B x := by
  obtain ⟨hl, h0, h1, h2, h3, h4, h5⟩ := h
  have hne : some B ≠ row := fun e => by
    obtain ⟨o, ho, hc⟩ := hr B e.symm
    unfold World.cell? at h0
    rw [ho] at h0
    cases o <;> simp [Obj.isCells] at hc h0
  have hb := hg.block B hl hne
  exact ⟨Nat.lt_of_lt_of_le hl hg.size, (World.cell?_of_block hb).trans h0, (World.cell?_of_block hb).trans h1, (World.cell?_of_block hb).trans h2, (World.cell?_of_block hb).trans h3, (World.cell?_of_block hb).trans h4, (World.cell?_of_block hb).trans h5⟩
theorem midK_b {lo hi : Nat} {w : World} (hh : hi ≤ w.heap.size) (W : World) (l : Nat) (o o' : Obj) (hl : w.heap.size ≤ l) (h : W.heap[l]? = some o) (_ : o.isCells = false) (_ : o.isWalk = false) : Mid lo hi W (W.putObj l o') :=
  ⟨fun b _ h2 => (grownBy_putObj' W l o').block b (by have := (Array.getElem?_eq_some_iff.1 h).1; omega) (fun e => by injection e with e; omega), (grownBy_putObj' W l o').size⟩
set_option maxHeartbeats 1000000 in
theorem rides1_nil (n : Nat) (l Bn lo hi : Nat) (A : Option Addr) (c : Nat) (J Jx : List (Fares.Tap × Fares.Tap) → World → Prop) (W : World) (hBn : W.cell? ⟨Bn, 0, none⟩ = some (.slice A 0 c)) (h0 : J [] W) :
    CallsIn Fence.wide n Try.prog 40 #[.func (.yield l) #[] #[], .pointer (some ⟨Bn, 0, none⟩)] W fun e W' => (∃ v, e = .returned v) ∧
      ((∃ ys, ys = Fares.ridesOf [] ∧ J ys W') ∨ (∃ pre, True ∧ Jx pre W')) := by
  refine callsIn_of_wp Try.func40 rfl trivial ?_ rfl
  simp only [Try.ntmps40, List.size_toArray, List.length_cons, List.length_nil, Nat.reduceAdd, Nat.reduceSub, Array.replicate_succ, Array.replicate_zero, List.push_toArray, List.append_toArray, List.nil_append, List.cons_append]
  gi_wp2
  gi_loopw [3] (fun i wr => i = .int .i64 0 ∧ wr = W) (fun i _ => 0)
  case atStart => exact ⟨rfl, rfl⟩
  case round =>
    obtain ⟨rfl, rfl⟩ := hrel
    gi_wp2
    refine bodyPost_end (results_none rfl _ _ _) rfl ?_
    exact ⟨⟨_, rfl⟩, .inl ⟨[], rfl, h0⟩⟩
theorem rides_stops' (n : Nat) (hn : 2 ≤ n) (Bn lo hi : Nat) (A : Option Addr) (c : Nat) (xs : List Fares.Tap) (hl : xs.length ≤ 1000) (hm : ∀ t ∈ xs, -100000 ≤ t.m ∧ t.m ≤ 100000) (w : World)
    (hBl : lo ≤ Bn) (hBh : Bn < hi) (hhi : hi ≤ w.heap.size) (hBn : w.cell? ⟨Bn, 0, none⟩ = some (.slice A xs.length c)) (hx : 0 < xs.length → ∃ b0 o0, A = some ⟨b0, o0, none⟩ ∧ lo ≤ b0 ∧ b0 < hi ∧ ∀ k x, xs[k]? = some x → TapAt w b0 (o0 + k * 6) x) :
    SeqStopsK Fence.wide n Try.prog 40 #[.pointer (some ⟨Bn, 0, none⟩)] rideEnc (Mid lo hi) (fun ys => ys = Fares.ridesOf xs) (fun _ => True) xs.length w := by
  by_cases h : 0 < xs.length
  · obtain ⟨b0, o0, rfl, h1, h2, h3⟩ := hx h
    exact rides_stops n hn Bn lo hi b0 o0 c xs hl hm w hBl hBh h1 h2 hhi hBn h3
  · obtain rfl : xs = [] := List.eq_nil_of_length_eq_zero (by omega)
    exact fun l J Jx W hW hJ _ hY h0 => rides1_nil n l Bn lo hi A c J Jx W ((hW.cell (p := ⟨Bn, 0, none⟩) (Nat.lt_of_lt_of_le hBh hhi)).trans hBn) h0
theorem stepIn_append_own {F : Fence} {n : Nat} {P : Program} (w : World) {ops : Array Oper} {o : Oper} {a : Act} {K : Act → World → Prop} {Q : Exit → Act → World → Prop} {E : Prop}
    (hg : o.guard = none) (s x : Operand) (t : TypeId) (hop : o.op = Op.call { callee := Callee.builtin Builtin.append, args := #[s, x], argTypes := #[t, t] })
    (base : Nat) (e : TypeId) (i : TypeInfo) (z : Value) (size bytes : Nat) (h1 : P.underlying t = some (.slice e)) (h2 : P.info? e = some i) (h3 : i.zero = some z) (h4 : i.size = size) (h5 : i.bytes = bytes) (h6 : z.cells.size = size) (h7 : 0 < size)
    (v : Value) (k : Nat) (xs : List Value) (hs : a.eval s = v) (hown : w.ownsRow base e size v k xs) (ad : Addr) (m c : Nat) (news : List Value) (hx : a.eval x = .slice (some ad) m c) (hn : news.length = m * size)
    (hc : ∀ j u, news[j]? = some u → w.cell? (ad.add j) = some u) (h1c : ∀ u ∈ news, u.oneCell' = true) (b1 : k + m ≤ maxLen) (b2 : (k + m) * bytes ≤ 140737488355328) (b3 : base ≤ w.heap.size)
    (hK : ∀ v' w', w'.ownsRow base e size v' (k + m) (xs ++ news) → w.grownBy w' v.ownBlock → K (a.put o.dst v') w') :
    if Region.wanted o (yielded ops a.tmps) = true then Oper.wpIn F n P o a w K Q else E := by
  have hw : Region.wanted o (yielded ops a.tmps) = true := by simp [Region.wanted, hg]
  rw [if_pos hw]
  obtain ⟨v', w', hrun, r1, r2, r3⟩ := run_append_own (P := P) w base t o.type e i z size bytes h1 h2 h3 h4 h5 h6 h7 v k xs hown ad m c news hn hc h1c b1 b2 b3
  unfold Oper.wpIn
  refine ⟨?_, ?_⟩
  · simp [Oper.about, hop, resolve, Target.leads, Sem.run_pure]
  · rw [Oper.semAt_plain F _ _ (by rw [hop]; intro c hc'; cases hc')]
    simp [execOp, hop, resolve, invoke, builtin, hs, hx, hrun, Result.andThen]
    exact hK _ _ r1 r2
theorem info_jourI : (Try.prog.info? 31).map (fun i => (i.zero, i.size, i.bytes)) = some (some (.agg #[.int .i64 0, .int .i64 0, .int .i64 0, .int .i64 0, .bool false]), 5, 40) := by kernel_rfl
set_option maxRecDepth 100000 in
set_option maxHeartbeats 4000000 in
theorem implJourneysOf_any (A : Option Addr) (n c : Nat) (xs : List Fares.Tap) (card : Int) (w : World) (hx : Taps w w.heap.size A xs) (hn : xs.length = n) (hc : n ≤ c) (hl : c ≤ 9223372036854775807) :
    Calls Try.prog 10 #[.slice A n c, .int .i64 card] w fun e w' => ∃ v, e = .returned v ∧ OwnJourneys w' w.heap.size v (Fares.journeysOf (Fares.cardTaps xs card)) ∧ Below w.heap.size w w' := by
  subst hn
  have hcl := Fares.cardTaps_length xs card
  have hci := Fares.cardTaps_in xs card
  have HJ := Lib.hid (Fares.journeysOf_rides (Fares.cardTaps xs card))
  obtain ⟨ti, hi0, hj0, hj1, hj2⟩ := info_parts info_jourI
  refine (callsIn_wide (n := 4)).1 ?_
  refine callsIn_of_wp_marks Try.func10 rfl trivial ?_ rfl
  simp only [Try.ntmps10, List.size_toArray, List.length_cons, List.length_nil, Nat.reduceAdd, Nat.reduceSub, Array.replicate_succ, Array.replicate_zero, List.push_toArray, List.append_toArray, List.nil_append, List.cons_append]
  gi_wp2_with fail
  refine ⟨trivial, ?_⟩
  gi_at_call 14
  refine (callsIn_wide.2 (implCardTaps_any A xs.length c xs card (w.alloc (.cells #[.slice none 0 0] 26)) ((hx.below (bA (Below.refl w.heap.size w) (.cells #[.slice none 0 0] 26)) (Nat.le_refl _)).more (by simp)) rfl hc hl)).mono ?_
  rintro e w1 ⟨vt, rfl, hot, hb1⟩
  obtain ⟨A2, c2, rfl, hc1, hc2, hr2⟩ := OwnTaps.form hot
  have hrow : 0 < (Fares.cardTaps xs card).length → ∃ b0 o0, A2 = some ⟨b0, o0, none⟩ ∧ w.heap.size + 1 ≤ b0 ∧ b0 < w1.heap.size ∧ ∀ k x, (Fares.cardTaps xs card)[k]? = some x → TapAt w1 b0 (o0 + k * 6) x := fun h0 => by
    obtain ⟨b0, o0, rfl, h1, h2⟩ := hr2.row h0
    exact ⟨b0, o0, rfl, by have := (World.ownsRow.lt hot b0 rfl).1; simpa using this, h1, h2⟩
  clear hot
  have hz1 := hb1.size
  rw [World.size_alloc] at hz1
  have hbx1 := (Boxed.new w 26 (.slice none 0 0)).kept (grown_of_below hb1 none) (by simp)
  have hB1 : Below w.heap.size w w1 := bT (bA (Below.refl _ _) _) hb1
  clear hb1
  obtain ⟨ys, hys⟩ : ∃ ys, Fares.cardTaps xs card = ys := ⟨_, rfl⟩
  rw [hys] at hcl hci HJ hc1 hr2 hrow ⊢
  have HYS := Lib.hid hys
  clear hys hx
  unfold maxLen at hc2
  gi_wp2_with fail
  refine ⟨trivial, ?_⟩
  gi_at_call 25
  refine (rides_in Fence.wide 3 trivial rfl A2 ys.length c2 w1).mono ?_
  rintro e w2 ⟨rfl, hw2⟩
  have hbox2 : Boxed w2 w1.heap.size 23 (.slice A2 ys.length c2) := by rw [hw2]; exact Boxed.new w1 _ _
  have hbx2 : Boxed w2 w.heap.size 26 (.slice none 0 0) := by rw [hw2]; exact hbx1.alloc _
  have hB2 : Below w.heap.size w w2 := by rw [hw2]; exact bA hB1 _
  have hz2 : w2.heap.size = w1.heap.size + 1 := by rw [hw2, World.size_alloc]
  have hrow2 : 0 < ys.length → ∃ b0 o0, A2 = some ⟨b0, o0, none⟩ ∧ w.heap.size + 1 ≤ b0 ∧ b0 < w2.heap.size ∧ ∀ k x, ys[k]? = some x → TapAt w2 b0 (o0 + k * 6) x := fun h0 => by
    obtain ⟨b0, o0, h1, h2, h3, h4⟩ := hrow h0
    exact ⟨b0, o0, h1, h2, by omega, fun k x h => by rw [hw2]; exact (h4 k x h).below (bA (Below.refl _ w1) _) h3⟩
  clear hw2 hrow hbx1 hr2 hB1
  have HX := Lib.hid hrow2; clear hrow2
  have HCI := Lib.hid hci; clear hci
  gi_wp2_with fail
  have sZ : w.heap.size + 2 ≤ w2.heap.size := by omega
  refine wpIn_rangeFunc_ownH rfl (by omega) (gf := 40) (lb := #[.pointer (some ⟨w1.heap.size, 0, none⟩)]) rfl trivial (enters_of Try.func40 (by kernel_rfl) rfl)
    (rides_stops' 3 (by omega) w1.heap.size (w.heap.size + 1) w2.heap.size A2 c2 ys (by omega) HCI.out w2 hz1 (by omega) (Nat.le_refl _) hbox2.cell HX.out) Mid.trans (midK_b (Nat.le_refl _)) (Below.refl _ _) (fun _ => rfl)
    (fun pre W => ((∃ v, Boxed W w.heap.size 26 v ∧ W.ownsRow w2.heap.size 31 5 v pre.length ((pre.map (fun p => Fares.between p.1 p.2)).flatMap journeyCells) ∧ True) ∧ w2.heap.size ≤ W.heap.size) ∧ Below w.heap.size w W)
    (fun _ _ _ => False)
    (OwnFrom.and (OwnFrom.and (Own.from (holdsRow_own w2.heap.size w.heap.size 26 31 5 (fun pre : List (Fares.Tap × Fares.Tap) => pre.length) (fun pre => (pre.map (fun p => Fares.between p.1 p.2)).flatMap journeyCells) (fun _ _ => True)) _) (fun s A B row hs hg hr => Nat.le_trans hs hg.size)) (ownFrom_below (Nat.le_refl _) (by omega)))
    (fun _ _ _ _ _ hs _ _ => hs)
    ⟨⟨⟨_, hbx2, World.ownsRow_nil _ _ _ _, trivial⟩, Nat.le_refl _⟩, hB2⟩
    (fun p a' W => ∃ B1 B2, w2.heap.size ≤ B1 ∧ w2.heap.size ≤ B2 ∧ TapBox W B1 p.1 ∧ TapBox W B2 p.2 ∧ a' = { tmps := #[.slice A xs.length c, .int .i64 card, undef, undef, .slice none 0 0, .pointer (some ⟨w.heap.size, 0, none⟩), .pointer (some ⟨B1, 0, none⟩), .pointer (some ⟨B2, 0, none⟩), .slice A xs.length c, .int .i64 card, .slice A2 ys.length c2, .func (.func 40) #[] #[.pointer (some ⟨w1.heap.size, 0, none⟩)], tapV p.1, tapV p.2, undef, undef, undef, undef, undef, undef, undef], defers := [] })
    (fun p a' _ X Y row hs hg hr => by obtain ⟨B1, B2, h1, h2, h3, h4, h5⟩ := hs; exact ⟨B1, B2, h1, h2, h3.own hg (fun r e => (hr r e).2), h4.own hg (fun r e => (hr r e).2), h5⟩)
    ?assign ?body ?done ?stop
  case assign =>
    rintro l pre ⟨x, y⟩ W K ⟨⟨⟨v, hv, hrw, _⟩, hz⟩, hB⟩ hK
    dsimp only [rideEnc, tapV]
    gi_wp2
    have t1 := TapBox.new W x 36
    have t2 := TapBox.new (W.alloc (.cells #[.int .i64 x.v, .int .i64 x.n, .int .i64 x.c, .int .i64 x.m, .int .i64 x.s, .bool x.o] 36)) y 36
    simp only [World.size_alloc] at t2
    exact hK _ _ (((KeepsOthers.alloc _ _).trans (KeepsOthers.alloc _ _)).from _) (Mid.of_below (bA (bA (Below.refl _ W) _) _) hz) ⟨⟨⟨v, (hv.alloc _).alloc _, (hrw.alloc _).alloc _, trivial⟩, by simp only [World.size_alloc]; omega⟩, bA (bA hB _) _⟩
      ⟨W.heap.size, W.heap.size + 1, hz, by omega, t1.below (bA (Below.refl _ _) _) t1.1, t2, rfl⟩
  case body =>
    rintro l pre ⟨x, y⟩ a' W hl0 ⟨r, hr⟩ ⟨⟨⟨v, hv, hrw, _⟩, hz⟩, hB⟩ ⟨B1, B2, hB1, hB2', ⟨l1, p0, p1, p2, p3, p4, p5⟩, ⟨l2, q0, q1, q2, q3, q4, q5⟩, rfl⟩ hlt
    dsimp only [tapV]
    have c1 := hv.cell
    gi_wp2_with fail
    refine wpIn_region_any (by kernel_rfl) ?_
    change wpAnyIn _ _ _ _ _ _ _ _ _ (World.drew _)
    --WAYS
    refine wpAnyIn_ready (rs := [0, 1, 2]) (by kernel_rfl) (by simp) ?_
    refine AllReadyIn.cons rfl (fun K hK => ?_) (AllReadyIn.cons rfl (fun K hK => ?_) (AllReadyIn.cons rfl (fun K hK => ?_) (AllReadyIn.nil)))
    · go_simp
      refine hK _ _ ?_
      clear hK K
      refine wpAnyIn_ready (rs := [1, 2]) (by kernel_rfl) (by simp) ?_
      refine AllReadyIn.cons rfl (fun K hK => ?_) (AllReadyIn.cons rfl (fun K hK => ?_) (AllReadyIn.nil))
      · go_simp
        refine hK _ _ ?_
        clear hK K
        refine wpAnyIn_ready (rs := [2]) (by kernel_rfl) (by simp) ?_
        refine AllReadyIn.cons rfl (fun K hK => ?_) (AllReadyIn.nil)
        · go_simp
          refine hK _ _ ?_
          clear hK K
          refine wpAnyIn_ready (rs := [3]) (by kernel_rfl) (by simp) ?_
          refine AllReadyIn.cons rfl (fun K hK => ?_) (AllReadyIn.nil)
          · go_simp
            refine ⟨trivial, ?_⟩
            refine (CallsIn.inRound l (callsIn_wide.2 (journeyBetween_any x y W.drew))).mono ?_
            rintro e w9 ⟨rfl, hb9⟩
            dsimp only [journeyV, Fares.between]
            have hv9 := Boxed.kept (W := W.drew) hv (grown_of_below hb9 none) (by simp)
            have hrw9 := own_below (w := W.drew) hrw hb9
            have hz9 : W.heap.size ≤ w9.heap.size := hb9.size
            have c1 := hv9.cell
            refine hK _ _ ?_
            clear hK K
            refine wpAnyIn_ready (rs := [4]) (by kernel_rfl) (by simp) ?_
            refine AllReadyIn.cons rfl (fun K hK => ?_) (AllReadyIn.nil)
            · go_simp
              have c1 := (hv9.alloc (.cells #[.int .i64 x.s, .int .i64 y.s, .int .i64 x.m, .int .i64 y.m, .bool (x.o != y.o)] 31)).cell
              refine hK _ _ ?_
              clear hK K
              refine wpAnyIn_ready (rs := [5]) (by kernel_rfl) (by simp) ?_
              refine AllReadyIn.cons rfl (fun K hK => ?_) (AllReadyIn.nil)
              · refine stepIn_append_own _ rfl (.tmp 14) (.tmp 18) 26 rfl w2.heap.size 31 ti _ 5 40 Try.underlying26 hi0 hj0 hj1 hj2 rfl (by decide) _ _ _ rfl (World.ownsRow.alloc hrw9 _) ⟨w9.heap.size, 0, none⟩ 1 1 (journeyCells (Fares.between x y)) rfl rfl (World.news_of_block (World.alloc_heap_new w9 _)) (by simp [journeyCells, Value.oneCell']) (by unfold maxLen; omega) (by omega) (by simp only [World.size_alloc]; omega) ?_
                intro v' w10 hown' hgrow'
                obtain ⟨g', cap', rfl⟩ := ownsRow_succ hown'
                obtain ⟨hv1, hv3, _, hk3, hb3⟩ := hv9.appended (by decide) (ownBase hrw9 (show w.heap.size ≤ w2.heap.size by omega)) (show w.heap.size ≤ w9.heap.size by omega) (Nat.le_refl _) (ownBase hown' (show w.heap.size ≤ w2.heap.size by omega)) hgrow'
                have hrow3 := hown'.kept (grownBy_setCell' w10 w.heap.size (.slice (some ⟨g', 0, none⟩) (pre.length + 1) cap')) (.inr (hv1.not_row (by decide) hown').symm)
                have c2 := hv1.cell
                have f2 := hv1.frozen
                refine hK _ _ ?_
                clear hK K
                refine wpAnyIn_ready (rs := [6]) (by kernel_rfl) (by simp) ?_
                refine AllReadyIn.cons rfl (fun K hK => ?_) (AllReadyIn.nil)
                · go_simp
                  refine hK _ _ ?_
                  clear hK K
                  refine wpAnyIn_done (by kernel_rfl) ?_ _
                  refine ⟨?_, ?_, ⟨⟨⟨_, hv3, ?_, trivial⟩, ?_⟩, ?_⟩⟩
                  · exact (KeepsOthers.trans ⟨hz9, fun k o h _ => (hb9.block k (Array.getElem?_eq_some_iff.1 h).1).trans h⟩ hk3).from _
                  · refine ⟨fun b h1 h2 => ?_, Nat.le_trans hz9 hb3.size⟩
                    refine (Below.heap_setCell _ _ _ b (show b ≠ w.heap.size by omega)).trans ((hgrow'.block b (by simp only [World.size_alloc]; omega) (fun e => ?_)).trans ((Below.heap_alloc w9 _ b (by omega)).trans (hb9.block b (show b < W.heap.size by omega))))
                    have := (World.ownsRow.lt hrw9 b e.symm).1
                    omega
                  · rw [List.length_append, List.map_append, List.flatMap_append]
                    simpa using hrow3
                  · have := hb3.size; omega
                  · exact (bT (bD1 hB) hb9).trans hb3
      · go_simp
        refine hK _ _ ?_
        clear hK K
        refine wpAnyIn_ready (rs := [1]) (by kernel_rfl) (by simp) ?_
        refine AllReadyIn.cons rfl (fun K hK => ?_) (AllReadyIn.nil)
        · go_simp
          refine hK _ _ ?_
          clear hK K
          refine wpAnyIn_ready (rs := [3]) (by kernel_rfl) (by simp) ?_
          refine AllReadyIn.cons rfl (fun K hK => ?_) (AllReadyIn.nil)
          · go_simp
            refine ⟨trivial, ?_⟩
            refine (CallsIn.inRound l (callsIn_wide.2 (journeyBetween_any x y W.drew))).mono ?_
            rintro e w9 ⟨rfl, hb9⟩
            dsimp only [journeyV, Fares.between]
            have hv9 := Boxed.kept (W := W.drew) hv (grown_of_below hb9 none) (by simp)
            have hrw9 := own_below (w := W.drew) hrw hb9
            have hz9 : W.heap.size ≤ w9.heap.size := hb9.size
            have c1 := hv9.cell
            refine hK _ _ ?_
            clear hK K
            refine wpAnyIn_ready (rs := [4]) (by kernel_rfl) (by simp) ?_
            refine AllReadyIn.cons rfl (fun K hK => ?_) (AllReadyIn.nil)
            · go_simp
              have c1 := (hv9.alloc (.cells #[.int .i64 x.s, .int .i64 y.s, .int .i64 x.m, .int .i64 y.m, .bool (x.o != y.o)] 31)).cell
              refine hK _ _ ?_
              clear hK K
              refine wpAnyIn_ready (rs := [5]) (by kernel_rfl) (by simp) ?_
              refine AllReadyIn.cons rfl (fun K hK => ?_) (AllReadyIn.nil)
              · refine stepIn_append_own _ rfl (.tmp 14) (.tmp 18) 26 rfl w2.heap.size 31 ti _ 5 40 Try.underlying26 hi0 hj0 hj1 hj2 rfl (by decide) _ _ _ rfl (World.ownsRow.alloc hrw9 _) ⟨w9.heap.size, 0, none⟩ 1 1 (journeyCells (Fares.between x y)) rfl rfl (World.news_of_block (World.alloc_heap_new w9 _)) (by simp [journeyCells, Value.oneCell']) (by unfold maxLen; omega) (by omega) (by simp only [World.size_alloc]; omega) ?_
                intro v' w10 hown' hgrow'
                obtain ⟨g', cap', rfl⟩ := ownsRow_succ hown'
                obtain ⟨hv1, hv3, _, hk3, hb3⟩ := hv9.appended (by decide) (ownBase hrw9 (show w.heap.size ≤ w2.heap.size by omega)) (show w.heap.size ≤ w9.heap.size by omega) (Nat.le_refl _) (ownBase hown' (show w.heap.size ≤ w2.heap.size by omega)) hgrow'
                have hrow3 := hown'.kept (grownBy_setCell' w10 w.heap.size (.slice (some ⟨g', 0, none⟩) (pre.length + 1) cap')) (.inr (hv1.not_row (by decide) hown').symm)
                have c2 := hv1.cell
                have f2 := hv1.frozen
                refine hK _ _ ?_
                clear hK K
                refine wpAnyIn_ready (rs := [6]) (by kernel_rfl) (by simp) ?_
                refine AllReadyIn.cons rfl (fun K hK => ?_) (AllReadyIn.nil)
                · go_simp
                  refine hK _ _ ?_
                  clear hK K
                  refine wpAnyIn_done (by kernel_rfl) ?_ _
                  refine ⟨?_, ?_, ⟨⟨⟨_, hv3, ?_, trivial⟩, ?_⟩, ?_⟩⟩
                  · exact (KeepsOthers.trans ⟨hz9, fun k o h _ => (hb9.block k (Array.getElem?_eq_some_iff.1 h).1).trans h⟩ hk3).from _
                  · refine ⟨fun b h1 h2 => ?_, Nat.le_trans hz9 hb3.size⟩
                    refine (Below.heap_setCell _ _ _ b (show b ≠ w.heap.size by omega)).trans ((hgrow'.block b (by simp only [World.size_alloc]; omega) (fun e => ?_)).trans ((Below.heap_alloc w9 _ b (by omega)).trans (hb9.block b (show b < W.heap.size by omega))))
                    have := (World.ownsRow.lt hrw9 b e.symm).1
                    omega
                  · rw [List.length_append, List.map_append, List.flatMap_append]
                    simpa using hrow3
                  · have := hb3.size; omega
                  · exact (bT (bD1 hB) hb9).trans hb3
    · go_simp
      refine hK _ _ ?_
      clear hK K
      refine wpAnyIn_ready (rs := [0, 2]) (by kernel_rfl) (by simp) ?_
      refine AllReadyIn.cons rfl (fun K hK => ?_) (AllReadyIn.cons rfl (fun K hK => ?_) (AllReadyIn.nil))
      · go_simp
        refine hK _ _ ?_
        clear hK K
        refine wpAnyIn_ready (rs := [2]) (by kernel_rfl) (by simp) ?_
        refine AllReadyIn.cons rfl (fun K hK => ?_) (AllReadyIn.nil)
        · go_simp
          refine hK _ _ ?_
          clear hK K
          refine wpAnyIn_ready (rs := [3]) (by kernel_rfl) (by simp) ?_
          refine AllReadyIn.cons rfl (fun K hK => ?_) (AllReadyIn.nil)
          · go_simp
            refine ⟨trivial, ?_⟩
            refine (CallsIn.inRound l (callsIn_wide.2 (journeyBetween_any x y W.drew))).mono ?_
            rintro e w9 ⟨rfl, hb9⟩
            dsimp only [journeyV, Fares.between]
            have hv9 := Boxed.kept (W := W.drew) hv (grown_of_below hb9 none) (by simp)
            have hrw9 := own_below (w := W.drew) hrw hb9
            have hz9 : W.heap.size ≤ w9.heap.size := hb9.size
            have c1 := hv9.cell
            refine hK _ _ ?_
            clear hK K
            refine wpAnyIn_ready (rs := [4]) (by kernel_rfl) (by simp) ?_
            refine AllReadyIn.cons rfl (fun K hK => ?_) (AllReadyIn.nil)
            · go_simp
              have c1 := (hv9.alloc (.cells #[.int .i64 x.s, .int .i64 y.s, .int .i64 x.m, .int .i64 y.m, .bool (x.o != y.o)] 31)).cell
              refine hK _ _ ?_
              clear hK K
              refine wpAnyIn_ready (rs := [5]) (by kernel_rfl) (by simp) ?_
              refine AllReadyIn.cons rfl (fun K hK => ?_) (AllReadyIn.nil)
              · refine stepIn_append_own _ rfl (.tmp 14) (.tmp 18) 26 rfl w2.heap.size 31 ti _ 5 40 Try.underlying26 hi0 hj0 hj1 hj2 rfl (by decide) _ _ _ rfl (World.ownsRow.alloc hrw9 _) ⟨w9.heap.size, 0, none⟩ 1 1 (journeyCells (Fares.between x y)) rfl rfl (World.news_of_block (World.alloc_heap_new w9 _)) (by simp [journeyCells, Value.oneCell']) (by unfold maxLen; omega) (by omega) (by simp only [World.size_alloc]; omega) ?_
                intro v' w10 hown' hgrow'
                obtain ⟨g', cap', rfl⟩ := ownsRow_succ hown'
                obtain ⟨hv1, hv3, _, hk3, hb3⟩ := hv9.appended (by decide) (ownBase hrw9 (show w.heap.size ≤ w2.heap.size by omega)) (show w.heap.size ≤ w9.heap.size by omega) (Nat.le_refl _) (ownBase hown' (show w.heap.size ≤ w2.heap.size by omega)) hgrow'
                have hrow3 := hown'.kept (grownBy_setCell' w10 w.heap.size (.slice (some ⟨g', 0, none⟩) (pre.length + 1) cap')) (.inr (hv1.not_row (by decide) hown').symm)
                have c2 := hv1.cell
                have f2 := hv1.frozen
                refine hK _ _ ?_
                clear hK K
                refine wpAnyIn_ready (rs := [6]) (by kernel_rfl) (by simp) ?_
                refine AllReadyIn.cons rfl (fun K hK => ?_) (AllReadyIn.nil)
                · go_simp
                  refine hK _ _ ?_
                  clear hK K
                  refine wpAnyIn_done (by kernel_rfl) ?_ _
                  refine ⟨?_, ?_, ⟨⟨⟨_, hv3, ?_, trivial⟩, ?_⟩, ?_⟩⟩
                  · exact (KeepsOthers.trans ⟨hz9, fun k o h _ => (hb9.block k (Array.getElem?_eq_some_iff.1 h).1).trans h⟩ hk3).from _
                  · refine ⟨fun b h1 h2 => ?_, Nat.le_trans hz9 hb3.size⟩
                    refine (Below.heap_setCell _ _ _ b (show b ≠ w.heap.size by omega)).trans ((hgrow'.block b (by simp only [World.size_alloc]; omega) (fun e => ?_)).trans ((Below.heap_alloc w9 _ b (by omega)).trans (hb9.block b (show b < W.heap.size by omega))))
                    have := (World.ownsRow.lt hrw9 b e.symm).1
                    omega
                  · rw [List.length_append, List.map_append, List.flatMap_append]
                    simpa using hrow3
                  · have := hb3.size; omega
                  · exact (bT (bD1 hB) hb9).trans hb3
      · go_simp
        refine hK _ _ ?_
        clear hK K
        refine wpAnyIn_ready (rs := [0, 3]) (by kernel_rfl) (by simp) ?_
        refine AllReadyIn.cons rfl (fun K hK => ?_) (AllReadyIn.cons rfl (fun K hK => ?_) (AllReadyIn.nil))
        · go_simp
          refine hK _ _ ?_
          clear hK K
          refine wpAnyIn_ready (rs := [3]) (by kernel_rfl) (by simp) ?_
          refine AllReadyIn.cons rfl (fun K hK => ?_) (AllReadyIn.nil)
          · go_simp
            refine ⟨trivial, ?_⟩
            refine (CallsIn.inRound l (callsIn_wide.2 (journeyBetween_any x y W.drew))).mono ?_
            rintro e w9 ⟨rfl, hb9⟩
            dsimp only [journeyV, Fares.between]
            have hv9 := Boxed.kept (W := W.drew) hv (grown_of_below hb9 none) (by simp)
            have hrw9 := own_below (w := W.drew) hrw hb9
            have hz9 : W.heap.size ≤ w9.heap.size := hb9.size
            have c1 := hv9.cell
            refine hK _ _ ?_
            clear hK K
            refine wpAnyIn_ready (rs := [4]) (by kernel_rfl) (by simp) ?_
            refine AllReadyIn.cons rfl (fun K hK => ?_) (AllReadyIn.nil)
            · go_simp
              have c1 := (hv9.alloc (.cells #[.int .i64 x.s, .int .i64 y.s, .int .i64 x.m, .int .i64 y.m, .bool (x.o != y.o)] 31)).cell
              refine hK _ _ ?_
              clear hK K
              refine wpAnyIn_ready (rs := [5]) (by kernel_rfl) (by simp) ?_
              refine AllReadyIn.cons rfl (fun K hK => ?_) (AllReadyIn.nil)
              · refine stepIn_append_own _ rfl (.tmp 14) (.tmp 18) 26 rfl w2.heap.size 31 ti _ 5 40 Try.underlying26 hi0 hj0 hj1 hj2 rfl (by decide) _ _ _ rfl (World.ownsRow.alloc hrw9 _) ⟨w9.heap.size, 0, none⟩ 1 1 (journeyCells (Fares.between x y)) rfl rfl (World.news_of_block (World.alloc_heap_new w9 _)) (by simp [journeyCells, Value.oneCell']) (by unfold maxLen; omega) (by omega) (by simp only [World.size_alloc]; omega) ?_
                intro v' w10 hown' hgrow'
                obtain ⟨g', cap', rfl⟩ := ownsRow_succ hown'
                obtain ⟨hv1, hv3, _, hk3, hb3⟩ := hv9.appended (by decide) (ownBase hrw9 (show w.heap.size ≤ w2.heap.size by omega)) (show w.heap.size ≤ w9.heap.size by omega) (Nat.le_refl _) (ownBase hown' (show w.heap.size ≤ w2.heap.size by omega)) hgrow'
                have hrow3 := hown'.kept (grownBy_setCell' w10 w.heap.size (.slice (some ⟨g', 0, none⟩) (pre.length + 1) cap')) (.inr (hv1.not_row (by decide) hown').symm)
                have c2 := hv1.cell
                have f2 := hv1.frozen
                refine hK _ _ ?_
                clear hK K
                refine wpAnyIn_ready (rs := [6]) (by kernel_rfl) (by simp) ?_
                refine AllReadyIn.cons rfl (fun K hK => ?_) (AllReadyIn.nil)
                · go_simp
                  refine hK _ _ ?_
                  clear hK K
                  refine wpAnyIn_done (by kernel_rfl) ?_ _
                  refine ⟨?_, ?_, ⟨⟨⟨_, hv3, ?_, trivial⟩, ?_⟩, ?_⟩⟩
                  · exact (KeepsOthers.trans ⟨hz9, fun k o h _ => (hb9.block k (Array.getElem?_eq_some_iff.1 h).1).trans h⟩ hk3).from _
                  · refine ⟨fun b h1 h2 => ?_, Nat.le_trans hz9 hb3.size⟩
                    refine (Below.heap_setCell _ _ _ b (show b ≠ w.heap.size by omega)).trans ((hgrow'.block b (by simp only [World.size_alloc]; omega) (fun e => ?_)).trans ((Below.heap_alloc w9 _ b (by omega)).trans (hb9.block b (show b < W.heap.size by omega))))
                    have := (World.ownsRow.lt hrw9 b e.symm).1
                    omega
                  · rw [List.length_append, List.map_append, List.flatMap_append]
                    simpa using hrow3
                  · have := hb3.size; omega
                  · exact (bT (bD1 hB) hb9).trans hb3
        · go_simp
          refine ⟨trivial, ?_⟩
          refine (CallsIn.inRound l (callsIn_wide.2 (journeyBetween_any x y W.drew))).mono ?_
          rintro e w9 ⟨rfl, hb9⟩
          dsimp only [journeyV, Fares.between]
          have hv9 := Boxed.kept (W := W.drew) hv (grown_of_below hb9 none) (by simp)
          have hrw9 := own_below (w := W.drew) hrw hb9
          have hz9 : W.heap.size ≤ w9.heap.size := hb9.size
          have c1 := hv9.cell
          refine hK _ _ ?_
          clear hK K
          refine wpAnyIn_ready (rs := [0, 4]) (by kernel_rfl) (by simp) ?_
          refine AllReadyIn.cons rfl (fun K hK => ?_) (AllReadyIn.cons rfl (fun K hK => ?_) (AllReadyIn.nil))
          · go_simp
            refine hK _ _ ?_
            clear hK K
            refine wpAnyIn_ready (rs := [4]) (by kernel_rfl) (by simp) ?_
            refine AllReadyIn.cons rfl (fun K hK => ?_) (AllReadyIn.nil)
            · go_simp
              have c1 := (hv9.alloc (.cells #[.int .i64 x.s, .int .i64 y.s, .int .i64 x.m, .int .i64 y.m, .bool (x.o != y.o)] 31)).cell
              refine hK _ _ ?_
              clear hK K
              refine wpAnyIn_ready (rs := [5]) (by kernel_rfl) (by simp) ?_
              refine AllReadyIn.cons rfl (fun K hK => ?_) (AllReadyIn.nil)
              · refine stepIn_append_own _ rfl (.tmp 14) (.tmp 18) 26 rfl w2.heap.size 31 ti _ 5 40 Try.underlying26 hi0 hj0 hj1 hj2 rfl (by decide) _ _ _ rfl (World.ownsRow.alloc hrw9 _) ⟨w9.heap.size, 0, none⟩ 1 1 (journeyCells (Fares.between x y)) rfl rfl (World.news_of_block (World.alloc_heap_new w9 _)) (by simp [journeyCells, Value.oneCell']) (by unfold maxLen; omega) (by omega) (by simp only [World.size_alloc]; omega) ?_
                intro v' w10 hown' hgrow'
                obtain ⟨g', cap', rfl⟩ := ownsRow_succ hown'
                obtain ⟨hv1, hv3, _, hk3, hb3⟩ := hv9.appended (by decide) (ownBase hrw9 (show w.heap.size ≤ w2.heap.size by omega)) (show w.heap.size ≤ w9.heap.size by omega) (Nat.le_refl _) (ownBase hown' (show w.heap.size ≤ w2.heap.size by omega)) hgrow'
                have hrow3 := hown'.kept (grownBy_setCell' w10 w.heap.size (.slice (some ⟨g', 0, none⟩) (pre.length + 1) cap')) (.inr (hv1.not_row (by decide) hown').symm)
                have c2 := hv1.cell
                have f2 := hv1.frozen
                refine hK _ _ ?_
                clear hK K
                refine wpAnyIn_ready (rs := [6]) (by kernel_rfl) (by simp) ?_
                refine AllReadyIn.cons rfl (fun K hK => ?_) (AllReadyIn.nil)
                · go_simp
                  refine hK _ _ ?_
                  clear hK K
                  refine wpAnyIn_done (by kernel_rfl) ?_ _
                  refine ⟨?_, ?_, ⟨⟨⟨_, hv3, ?_, trivial⟩, ?_⟩, ?_⟩⟩
                  · exact (KeepsOthers.trans ⟨hz9, fun k o h _ => (hb9.block k (Array.getElem?_eq_some_iff.1 h).1).trans h⟩ hk3).from _
                  · refine ⟨fun b h1 h2 => ?_, Nat.le_trans hz9 hb3.size⟩
                    refine (Below.heap_setCell _ _ _ b (show b ≠ w.heap.size by omega)).trans ((hgrow'.block b (by simp only [World.size_alloc]; omega) (fun e => ?_)).trans ((Below.heap_alloc w9 _ b (by omega)).trans (hb9.block b (show b < W.heap.size by omega))))
                    have := (World.ownsRow.lt hrw9 b e.symm).1
                    omega
                  · rw [List.length_append, List.map_append, List.flatMap_append]
                    simpa using hrow3
                  · have := hb3.size; omega
                  · exact (bT (bD1 hB) hb9).trans hb3
          · go_simp
            have c1 := (hv9.alloc (.cells #[.int .i64 x.s, .int .i64 y.s, .int .i64 x.m, .int .i64 y.m, .bool (x.o != y.o)] 31)).cell
            refine hK _ _ ?_
            clear hK K
            refine wpAnyIn_ready (rs := [0]) (by kernel_rfl) (by simp) ?_
            refine AllReadyIn.cons rfl (fun K hK => ?_) (AllReadyIn.nil)
            · go_simp
              refine hK _ _ ?_
              clear hK K
              refine wpAnyIn_ready (rs := [5]) (by kernel_rfl) (by simp) ?_
              refine AllReadyIn.cons rfl (fun K hK => ?_) (AllReadyIn.nil)
              · refine stepIn_append_own _ rfl (.tmp 14) (.tmp 18) 26 rfl w2.heap.size 31 ti _ 5 40 Try.underlying26 hi0 hj0 hj1 hj2 rfl (by decide) _ _ _ rfl (World.ownsRow.alloc hrw9 _) ⟨w9.heap.size, 0, none⟩ 1 1 (journeyCells (Fares.between x y)) rfl rfl (World.news_of_block (World.alloc_heap_new w9 _)) (by simp [journeyCells, Value.oneCell']) (by unfold maxLen; omega) (by omega) (by simp only [World.size_alloc]; omega) ?_
                intro v' w10 hown' hgrow'
                obtain ⟨g', cap', rfl⟩ := ownsRow_succ hown'
                obtain ⟨hv1, hv3, _, hk3, hb3⟩ := hv9.appended (by decide) (ownBase hrw9 (show w.heap.size ≤ w2.heap.size by omega)) (show w.heap.size ≤ w9.heap.size by omega) (Nat.le_refl _) (ownBase hown' (show w.heap.size ≤ w2.heap.size by omega)) hgrow'
                have hrow3 := hown'.kept (grownBy_setCell' w10 w.heap.size (.slice (some ⟨g', 0, none⟩) (pre.length + 1) cap')) (.inr (hv1.not_row (by decide) hown').symm)
                have c2 := hv1.cell
                have f2 := hv1.frozen
                refine hK _ _ ?_
                clear hK K
                refine wpAnyIn_ready (rs := [6]) (by kernel_rfl) (by simp) ?_
                refine AllReadyIn.cons rfl (fun K hK => ?_) (AllReadyIn.nil)
                · go_simp
                  refine hK _ _ ?_
                  clear hK K
                  refine wpAnyIn_done (by kernel_rfl) ?_ _
                  refine ⟨?_, ?_, ⟨⟨⟨_, hv3, ?_, trivial⟩, ?_⟩, ?_⟩⟩
                  · exact (KeepsOthers.trans ⟨hz9, fun k o h _ => (hb9.block k (Array.getElem?_eq_some_iff.1 h).1).trans h⟩ hk3).from _
                  · refine ⟨fun b h1 h2 => ?_, Nat.le_trans hz9 hb3.size⟩
                    refine (Below.heap_setCell _ _ _ b (show b ≠ w.heap.size by omega)).trans ((hgrow'.block b (by simp only [World.size_alloc]; omega) (fun e => ?_)).trans ((Below.heap_alloc w9 _ b (by omega)).trans (hb9.block b (show b < W.heap.size by omega))))
                    have := (World.ownsRow.lt hrw9 b e.symm).1
                    omega
                  · rw [List.length_append, List.map_append, List.flatMap_append]
                    simpa using hrow3
                  · have := hb3.size; omega
                  · exact (bT (bD1 hB) hb9).trans hb3
    · go_simp
      refine hK _ _ ?_
      clear hK K
      refine wpAnyIn_ready (rs := [0, 1]) (by kernel_rfl) (by simp) ?_
      refine AllReadyIn.cons rfl (fun K hK => ?_) (AllReadyIn.cons rfl (fun K hK => ?_) (AllReadyIn.nil))
      · go_simp
        refine hK _ _ ?_
        clear hK K
        refine wpAnyIn_ready (rs := [1]) (by kernel_rfl) (by simp) ?_
        refine AllReadyIn.cons rfl (fun K hK => ?_) (AllReadyIn.nil)
        · go_simp
          refine hK _ _ ?_
          clear hK K
          refine wpAnyIn_ready (rs := [3]) (by kernel_rfl) (by simp) ?_
          refine AllReadyIn.cons rfl (fun K hK => ?_) (AllReadyIn.nil)
          · go_simp
            refine ⟨trivial, ?_⟩
            refine (CallsIn.inRound l (callsIn_wide.2 (journeyBetween_any x y W.drew))).mono ?_
            rintro e w9 ⟨rfl, hb9⟩
            dsimp only [journeyV, Fares.between]
            have hv9 := Boxed.kept (W := W.drew) hv (grown_of_below hb9 none) (by simp)
            have hrw9 := own_below (w := W.drew) hrw hb9
            have hz9 : W.heap.size ≤ w9.heap.size := hb9.size
            have c1 := hv9.cell
            refine hK _ _ ?_
            clear hK K
            refine wpAnyIn_ready (rs := [4]) (by kernel_rfl) (by simp) ?_
            refine AllReadyIn.cons rfl (fun K hK => ?_) (AllReadyIn.nil)
            · go_simp
              have c1 := (hv9.alloc (.cells #[.int .i64 x.s, .int .i64 y.s, .int .i64 x.m, .int .i64 y.m, .bool (x.o != y.o)] 31)).cell
              refine hK _ _ ?_
              clear hK K
              refine wpAnyIn_ready (rs := [5]) (by kernel_rfl) (by simp) ?_
              refine AllReadyIn.cons rfl (fun K hK => ?_) (AllReadyIn.nil)
              · refine stepIn_append_own _ rfl (.tmp 14) (.tmp 18) 26 rfl w2.heap.size 31 ti _ 5 40 Try.underlying26 hi0 hj0 hj1 hj2 rfl (by decide) _ _ _ rfl (World.ownsRow.alloc hrw9 _) ⟨w9.heap.size, 0, none⟩ 1 1 (journeyCells (Fares.between x y)) rfl rfl (World.news_of_block (World.alloc_heap_new w9 _)) (by simp [journeyCells, Value.oneCell']) (by unfold maxLen; omega) (by omega) (by simp only [World.size_alloc]; omega) ?_
                intro v' w10 hown' hgrow'
                obtain ⟨g', cap', rfl⟩ := ownsRow_succ hown'
                obtain ⟨hv1, hv3, _, hk3, hb3⟩ := hv9.appended (by decide) (ownBase hrw9 (show w.heap.size ≤ w2.heap.size by omega)) (show w.heap.size ≤ w9.heap.size by omega) (Nat.le_refl _) (ownBase hown' (show w.heap.size ≤ w2.heap.size by omega)) hgrow'
                have hrow3 := hown'.kept (grownBy_setCell' w10 w.heap.size (.slice (some ⟨g', 0, none⟩) (pre.length + 1) cap')) (.inr (hv1.not_row (by decide) hown').symm)
                have c2 := hv1.cell
                have f2 := hv1.frozen
                refine hK _ _ ?_
                clear hK K
                refine wpAnyIn_ready (rs := [6]) (by kernel_rfl) (by simp) ?_
                refine AllReadyIn.cons rfl (fun K hK => ?_) (AllReadyIn.nil)
                · go_simp
                  refine hK _ _ ?_
                  clear hK K
                  refine wpAnyIn_done (by kernel_rfl) ?_ _
                  refine ⟨?_, ?_, ⟨⟨⟨_, hv3, ?_, trivial⟩, ?_⟩, ?_⟩⟩
                  · exact (KeepsOthers.trans ⟨hz9, fun k o h _ => (hb9.block k (Array.getElem?_eq_some_iff.1 h).1).trans h⟩ hk3).from _
                  · refine ⟨fun b h1 h2 => ?_, Nat.le_trans hz9 hb3.size⟩
                    refine (Below.heap_setCell _ _ _ b (show b ≠ w.heap.size by omega)).trans ((hgrow'.block b (by simp only [World.size_alloc]; omega) (fun e => ?_)).trans ((Below.heap_alloc w9 _ b (by omega)).trans (hb9.block b (show b < W.heap.size by omega))))
                    have := (World.ownsRow.lt hrw9 b e.symm).1
                    omega
                  · rw [List.length_append, List.map_append, List.flatMap_append]
                    simpa using hrow3
                  · have := hb3.size; omega
                  · exact (bT (bD1 hB) hb9).trans hb3
      · go_simp
        refine hK _ _ ?_
        clear hK K
        refine wpAnyIn_ready (rs := [0, 3]) (by kernel_rfl) (by simp) ?_
        refine AllReadyIn.cons rfl (fun K hK => ?_) (AllReadyIn.cons rfl (fun K hK => ?_) (AllReadyIn.nil))
        · go_simp
          refine hK _ _ ?_
          clear hK K
          refine wpAnyIn_ready (rs := [3]) (by kernel_rfl) (by simp) ?_
          refine AllReadyIn.cons rfl (fun K hK => ?_) (AllReadyIn.nil)
          · go_simp
            refine ⟨trivial, ?_⟩
            refine (CallsIn.inRound l (callsIn_wide.2 (journeyBetween_any x y W.drew))).mono ?_
            rintro e w9 ⟨rfl, hb9⟩
            dsimp only [journeyV, Fares.between]
            have hv9 := Boxed.kept (W := W.drew) hv (grown_of_below hb9 none) (by simp)
            have hrw9 := own_below (w := W.drew) hrw hb9
            have hz9 : W.heap.size ≤ w9.heap.size := hb9.size
            have c1 := hv9.cell
            refine hK _ _ ?_
            clear hK K
            refine wpAnyIn_ready (rs := [4]) (by kernel_rfl) (by simp) ?_
            refine AllReadyIn.cons rfl (fun K hK => ?_) (AllReadyIn.nil)
            · go_simp
              have c1 := (hv9.alloc (.cells #[.int .i64 x.s, .int .i64 y.s, .int .i64 x.m, .int .i64 y.m, .bool (x.o != y.o)] 31)).cell
              refine hK _ _ ?_
              clear hK K
              refine wpAnyIn_ready (rs := [5]) (by kernel_rfl) (by simp) ?_
              refine AllReadyIn.cons rfl (fun K hK => ?_) (AllReadyIn.nil)
              · refine stepIn_append_own _ rfl (.tmp 14) (.tmp 18) 26 rfl w2.heap.size 31 ti _ 5 40 Try.underlying26 hi0 hj0 hj1 hj2 rfl (by decide) _ _ _ rfl (World.ownsRow.alloc hrw9 _) ⟨w9.heap.size, 0, none⟩ 1 1 (journeyCells (Fares.between x y)) rfl rfl (World.news_of_block (World.alloc_heap_new w9 _)) (by simp [journeyCells, Value.oneCell']) (by unfold maxLen; omega) (by omega) (by simp only [World.size_alloc]; omega) ?_
                intro v' w10 hown' hgrow'
                obtain ⟨g', cap', rfl⟩ := ownsRow_succ hown'
                obtain ⟨hv1, hv3, _, hk3, hb3⟩ := hv9.appended (by decide) (ownBase hrw9 (show w.heap.size ≤ w2.heap.size by omega)) (show w.heap.size ≤ w9.heap.size by omega) (Nat.le_refl _) (ownBase hown' (show w.heap.size ≤ w2.heap.size by omega)) hgrow'
                have hrow3 := hown'.kept (grownBy_setCell' w10 w.heap.size (.slice (some ⟨g', 0, none⟩) (pre.length + 1) cap')) (.inr (hv1.not_row (by decide) hown').symm)
                have c2 := hv1.cell
                have f2 := hv1.frozen
                refine hK _ _ ?_
                clear hK K
                refine wpAnyIn_ready (rs := [6]) (by kernel_rfl) (by simp) ?_
                refine AllReadyIn.cons rfl (fun K hK => ?_) (AllReadyIn.nil)
                · go_simp
                  refine hK _ _ ?_
                  clear hK K
                  refine wpAnyIn_done (by kernel_rfl) ?_ _
                  refine ⟨?_, ?_, ⟨⟨⟨_, hv3, ?_, trivial⟩, ?_⟩, ?_⟩⟩
                  · exact (KeepsOthers.trans ⟨hz9, fun k o h _ => (hb9.block k (Array.getElem?_eq_some_iff.1 h).1).trans h⟩ hk3).from _
                  · refine ⟨fun b h1 h2 => ?_, Nat.le_trans hz9 hb3.size⟩
                    refine (Below.heap_setCell _ _ _ b (show b ≠ w.heap.size by omega)).trans ((hgrow'.block b (by simp only [World.size_alloc]; omega) (fun e => ?_)).trans ((Below.heap_alloc w9 _ b (by omega)).trans (hb9.block b (show b < W.heap.size by omega))))
                    have := (World.ownsRow.lt hrw9 b e.symm).1
                    omega
                  · rw [List.length_append, List.map_append, List.flatMap_append]
                    simpa using hrow3
                  · have := hb3.size; omega
                  · exact (bT (bD1 hB) hb9).trans hb3
        · go_simp
          refine ⟨trivial, ?_⟩
          refine (CallsIn.inRound l (callsIn_wide.2 (journeyBetween_any x y W.drew))).mono ?_
          rintro e w9 ⟨rfl, hb9⟩
          dsimp only [journeyV, Fares.between]
          have hv9 := Boxed.kept (W := W.drew) hv (grown_of_below hb9 none) (by simp)
          have hrw9 := own_below (w := W.drew) hrw hb9
          have hz9 : W.heap.size ≤ w9.heap.size := hb9.size
          have c1 := hv9.cell
          refine hK _ _ ?_
          clear hK K
          refine wpAnyIn_ready (rs := [0, 4]) (by kernel_rfl) (by simp) ?_
          refine AllReadyIn.cons rfl (fun K hK => ?_) (AllReadyIn.cons rfl (fun K hK => ?_) (AllReadyIn.nil))
          · go_simp
            refine hK _ _ ?_
            clear hK K
            refine wpAnyIn_ready (rs := [4]) (by kernel_rfl) (by simp) ?_
            refine AllReadyIn.cons rfl (fun K hK => ?_) (AllReadyIn.nil)
            · go_simp
              have c1 := (hv9.alloc (.cells #[.int .i64 x.s, .int .i64 y.s, .int .i64 x.m, .int .i64 y.m, .bool (x.o != y.o)] 31)).cell
              refine hK _ _ ?_
              clear hK K
              refine wpAnyIn_ready (rs := [5]) (by kernel_rfl) (by simp) ?_
              refine AllReadyIn.cons rfl (fun K hK => ?_) (AllReadyIn.nil)
              · refine stepIn_append_own _ rfl (.tmp 14) (.tmp 18) 26 rfl w2.heap.size 31 ti _ 5 40 Try.underlying26 hi0 hj0 hj1 hj2 rfl (by decide) _ _ _ rfl (World.ownsRow.alloc hrw9 _) ⟨w9.heap.size, 0, none⟩ 1 1 (journeyCells (Fares.between x y)) rfl rfl (World.news_of_block (World.alloc_heap_new w9 _)) (by simp [journeyCells, Value.oneCell']) (by unfold maxLen; omega) (by omega) (by simp only [World.size_alloc]; omega) ?_
                intro v' w10 hown' hgrow'
                obtain ⟨g', cap', rfl⟩ := ownsRow_succ hown'
                obtain ⟨hv1, hv3, _, hk3, hb3⟩ := hv9.appended (by decide) (ownBase hrw9 (show w.heap.size ≤ w2.heap.size by omega)) (show w.heap.size ≤ w9.heap.size by omega) (Nat.le_refl _) (ownBase hown' (show w.heap.size ≤ w2.heap.size by omega)) hgrow'
                have hrow3 := hown'.kept (grownBy_setCell' w10 w.heap.size (.slice (some ⟨g', 0, none⟩) (pre.length + 1) cap')) (.inr (hv1.not_row (by decide) hown').symm)
                have c2 := hv1.cell
                have f2 := hv1.frozen
                refine hK _ _ ?_
                clear hK K
                refine wpAnyIn_ready (rs := [6]) (by kernel_rfl) (by simp) ?_
                refine AllReadyIn.cons rfl (fun K hK => ?_) (AllReadyIn.nil)
                · go_simp
                  refine hK _ _ ?_
                  clear hK K
                  refine wpAnyIn_done (by kernel_rfl) ?_ _
                  refine ⟨?_, ?_, ⟨⟨⟨_, hv3, ?_, trivial⟩, ?_⟩, ?_⟩⟩
                  · exact (KeepsOthers.trans ⟨hz9, fun k o h _ => (hb9.block k (Array.getElem?_eq_some_iff.1 h).1).trans h⟩ hk3).from _
                  · refine ⟨fun b h1 h2 => ?_, Nat.le_trans hz9 hb3.size⟩
                    refine (Below.heap_setCell _ _ _ b (show b ≠ w.heap.size by omega)).trans ((hgrow'.block b (by simp only [World.size_alloc]; omega) (fun e => ?_)).trans ((Below.heap_alloc w9 _ b (by omega)).trans (hb9.block b (show b < W.heap.size by omega))))
                    have := (World.ownsRow.lt hrw9 b e.symm).1
                    omega
                  · rw [List.length_append, List.map_append, List.flatMap_append]
                    simpa using hrow3
                  · have := hb3.size; omega
                  · exact (bT (bD1 hB) hb9).trans hb3
          · go_simp
            have c1 := (hv9.alloc (.cells #[.int .i64 x.s, .int .i64 y.s, .int .i64 x.m, .int .i64 y.m, .bool (x.o != y.o)] 31)).cell
            refine hK _ _ ?_
            clear hK K
            refine wpAnyIn_ready (rs := [0]) (by kernel_rfl) (by simp) ?_
            refine AllReadyIn.cons rfl (fun K hK => ?_) (AllReadyIn.nil)
            · go_simp
              refine hK _ _ ?_
              clear hK K
              refine wpAnyIn_ready (rs := [5]) (by kernel_rfl) (by simp) ?_
              refine AllReadyIn.cons rfl (fun K hK => ?_) (AllReadyIn.nil)
              · refine stepIn_append_own _ rfl (.tmp 14) (.tmp 18) 26 rfl w2.heap.size 31 ti _ 5 40 Try.underlying26 hi0 hj0 hj1 hj2 rfl (by decide) _ _ _ rfl (World.ownsRow.alloc hrw9 _) ⟨w9.heap.size, 0, none⟩ 1 1 (journeyCells (Fares.between x y)) rfl rfl (World.news_of_block (World.alloc_heap_new w9 _)) (by simp [journeyCells, Value.oneCell']) (by unfold maxLen; omega) (by omega) (by simp only [World.size_alloc]; omega) ?_
                intro v' w10 hown' hgrow'
                obtain ⟨g', cap', rfl⟩ := ownsRow_succ hown'
                obtain ⟨hv1, hv3, _, hk3, hb3⟩ := hv9.appended (by decide) (ownBase hrw9 (show w.heap.size ≤ w2.heap.size by omega)) (show w.heap.size ≤ w9.heap.size by omega) (Nat.le_refl _) (ownBase hown' (show w.heap.size ≤ w2.heap.size by omega)) hgrow'
                have hrow3 := hown'.kept (grownBy_setCell' w10 w.heap.size (.slice (some ⟨g', 0, none⟩) (pre.length + 1) cap')) (.inr (hv1.not_row (by decide) hown').symm)
                have c2 := hv1.cell
                have f2 := hv1.frozen
                refine hK _ _ ?_
                clear hK K
                refine wpAnyIn_ready (rs := [6]) (by kernel_rfl) (by simp) ?_
                refine AllReadyIn.cons rfl (fun K hK => ?_) (AllReadyIn.nil)
                · go_simp
                  refine hK _ _ ?_
                  clear hK K
                  refine wpAnyIn_done (by kernel_rfl) ?_ _
                  refine ⟨?_, ?_, ⟨⟨⟨_, hv3, ?_, trivial⟩, ?_⟩, ?_⟩⟩
                  · exact (KeepsOthers.trans ⟨hz9, fun k o h _ => (hb9.block k (Array.getElem?_eq_some_iff.1 h).1).trans h⟩ hk3).from _
                  · refine ⟨fun b h1 h2 => ?_, Nat.le_trans hz9 hb3.size⟩
                    refine (Below.heap_setCell _ _ _ b (show b ≠ w.heap.size by omega)).trans ((hgrow'.block b (by simp only [World.size_alloc]; omega) (fun e => ?_)).trans ((Below.heap_alloc w9 _ b (by omega)).trans (hb9.block b (show b < W.heap.size by omega))))
                    have := (World.ownsRow.lt hrw9 b e.symm).1
                    omega
                  · rw [List.length_append, List.map_append, List.flatMap_append]
                    simpa using hrow3
                  · have := hb3.size; omega
                  · exact (bT (bD1 hB) hb9).trans hb3
    --END
  case done =>
    rintro D ks W hD rfl ⟨⟨⟨v, hv, hrw, _⟩, hz⟩, hB⟩ hK
    have hc := hv.cell
    gi_wp2
    refine ⟨by simp, .inl ⟨_, _, rfl, run_takeDeferred hK, ?_⟩⟩
    refine ⟨_, results_tmp rfl _ _ _, v, rfl, ?_, hB.trans (belowK_b (w := w) (Nat.le_refl _) W D _ _ (by omega) hK rfl rfl)⟩
    rw [HYS.out, HJ.out]
    unfold OwnJourneys
    rw [List.length_map]
    exact ownBase (ownsRow_putObj hrw _ hK rfl) (by omega)
  case stop =>
    rintro D c pre W _ _ h _
    exact h.elim
end Go.Proofs.Ytllhjgheffemnaa
