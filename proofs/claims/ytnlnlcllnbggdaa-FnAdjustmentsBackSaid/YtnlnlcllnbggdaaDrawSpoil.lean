/-
  A drawn list of numbers that may be spoilt.
-/
import Derived.Test.YtnlnlcllnbggdaaStInt
import Derived.Test.YtnlnlcllnbggdaaCarry
import Derived.Test.YtnlnlcllnbggdaaOver2
import Derived.Test.YtnlnlcllnbggdaaAppendSrc
import Derived.Deep.AppendLies
set_option linter.unusedSimpArgs false
namespace Go.Proofs.Ytnlnlcllnbggdaa
open Go.RowKit Go.Deep
set_option linter.unusedVariables false

theorem info_intS : (Try.prog.info? 3).map (fun i => (i.zero, i.size, i.bytes)) = some (some (.int .i64 0), 1, 8) := by kernel_rfl
set_option maxRecDepth 100000 in
set_option maxHeartbeats 1000000 in
theorem copyInts_any (A : Option Addr) (n c : Nat) (xs : List Int) (w : World) (hx : Ints w w.heap.size A xs) (hn : xs.length = n) (hA : A = none → n = 0 ∧ c = 0) (hl : n ≤ 1000000) :
    Calls Try.prog 36 #[.slice A n c] w fun e w' => ∃ v, e = .returned v ∧ OwnInts w' w.heap.size v xs ∧ Below w.heap.size w w' := by
  subst hn
  obtain ⟨ti, hi0, hz0, hz1, hz2⟩ := info_parts info_intS
  have HIInt := Lib.hid hi0; clear hi0
  have HZ0Int := Lib.hid hz0; clear hz0
  have HZ1Int := Lib.hid hz1; clear hz1
  have HZ2Int := Lib.hid hz2; clear hz2
  have HA := Lib.hid hA; clear hA
  have Hx := Lib.hid hx; clear hx
  have HB := Lib.hid (Below.refl w.heap.size w)
  have Hnew := Lib.hid (World.ownsRow_lit (base := w.heap.size) (e := 3) (size := 1) w #[] 0 (Nat.le_refl _) (by unfold maxLen; omega) rfl)
  go_enter Try.func36, Try.ntmps36
  have hsz1 := (HB.out).size
  go_wp2_with (at_builtin; refine append_src rfl (.tmp 3) (.tmp 4) _ rfl (w.heap.size) 3 ti _ 1 8 Try.underlying23 HIInt.out HZ0Int.out HZ1Int.out HZ2Int.out rfl (by omega) _ 0 _ rfl Hnew.out (A) (xs.length) (c) _ (xs.flatMap intCells) rfl HA.out (by rw [flat_length intCells 1 (fun _ => rfl)]) (readsOver Hx.out (bA HB.out _)) (one_flat intCells (by intro x u hu; simp only [intCells, List.mem_cons, List.not_mem_nil, or_false] at hu; subst hu; rfl) _) (by unfold maxLen; omega) (by omega) (by first | omega | (simp; omega) | simp) ?_)
  intro v1 w1 hown1 hgrow1 hat1
  have HBo1 := Lib.hid (Below.grown (bA HB.out _) hgrow1 (Below.size (bA HB.out _)) (fun r hr => (World.ownsRow.lt Hnew.out r hr).1))
  clear HB
  have HX1 := Lib.hid hown1; clear hown1 hgrow1 hat1 Hnew
  go_wp2
  go_ret
  exact ⟨_, rfl, by unfold OwnInts; have h := HX1.out; simpa using h, HBo1.out⟩

theorem own_nil {w : World} {base size n : Nat} {t : TypeId} {A : Option Addr} {m c : Nat} {xs : List Value} (h : w.ownsRow base t size (.slice A m c) n xs) : A = none → m = 0 ∧ c = 0 := by
  intro hA
  rcases h.2 with ⟨hv, _⟩ | ⟨g', cap, cur, hv, _⟩
  · injection hv with e1 e2 e3; exact ⟨e2, e3⟩
  · injection hv with e1 e2 e3; rw [hA] at e1; cases e1
/-- Numbers that were drawn: where they lie is new, and not the reader. -/
def SpoilInts (M : Nat) (lo hi : Int) (g p : Nat) (w : World) (e : Ending) (w' : World) : Prop :=
  ∃ (A : Option Addr) (n c : Nat) (ys : List Int) (q : Nat), e = .returned (.slice A n c) ∧ Ints w' w'.heap.size A ys ∧ (∀ a, A = some a → w.heap.size ≤ a.block) ∧ (A = none → n = 0 ∧ c = 0) ∧ ys.length = n ∧ n ≤ c ∧ c ≤ maxLen ∧ ys.length ≤ M ∧ (∀ x ∈ ys, lo ≤ x ∧ x ≤ hi) ∧ q ≤ p + 3 ∧ Rd w' g q ∧ w.grownBy w' (some g)
theorem OwnInts.spoil {M : Nat} {lo hi : Int} {g p q : Nat} {w w' : World} {v : Value} {ys : List Int} (h : OwnInts w' w.heap.size v ys) (hl : ys.length ≤ M) (hb : ∀ x ∈ ys, lo ≤ x ∧ x ≤ hi) (hq : q ≤ p + 3) (hr : Rd w' g q) (hg : w.grownBy w' (some g)) : SpoilInts M lo hi g p w (.returned v) w' := by
  rcases Nat.eq_zero_or_pos ys.length with h0 | h0
  · obtain ⟨A, c, rfl, h1, h2, h3⟩ := OwnInts.form h
    refine ⟨A, _, c, ys, q, rfl, h3, fun a ha => ?_, fun hA => ?_, rfl, h1, h2, hl, hb, hq, hr, hg⟩
    · subst ha
      exact (World.ownsRow.lt h a.block (by obtain ⟨b, o, s⟩ := a; rfl)).1
    · rcases h.2 with ⟨hv, _⟩ | ⟨g', cap, cur, hv, _⟩
      · injection hv with e1 e2 e3; exact ⟨e2, e3⟩
      · injection hv with e1 e2 e3; rw [hA] at e1; cases e1
  · obtain ⟨gb, cap, rfl, h1, h2, h3, h4, _, _, _⟩ := own_at intCells 1 (fun _ => rfl) h h0
    obtain ⟨A, c, e, _, _, hrs⟩ := OwnInts.form h
    injection e with e1 e2 e3
    subst e1 e3
    exact ⟨_, _, _, ys, q, rfl, hrs, (fun a ha => by injection ha with ha; subst ha; exact h1), (fun hA => by cases hA), rfl, h3, h4, hl, hb, hq, hr, hg⟩
set_option maxRecDepth 100000 in
set_option maxHeartbeats 2000000 in
theorem spoil_any (g p : Nat) (A : Option Addr) (n c : Nat) (xs : List Int) (m lo hi : Int) (w : World) (hr : Rd w g p) (hp : p ≤ 50000) (hx : Ints w w.heap.size A xs) (hn : xs.length = n) (hA : A = none → n = 0 ∧ c = 0) (hl : n ≤ 1000)
    (hb : ∀ x ∈ xs, lo ≤ x ∧ x ≤ hi) (hlo : lo ≤ -1) (hhi : 1 ≤ hi) (hm0 : lo ≤ m) (hm1 : m ≤ hi) :
    Calls Try.prog 40 #[.pointer (some ⟨g, 0, none⟩), .slice A n c, .int .i64 m] w (SpoilInts (n + 1) lo hi g p w) := by
  subst hn
  obtain ⟨ti, hi0, hz0, hz1, hz2⟩ := info_parts info_intS
  have HIInt := Lib.hid hi0; clear hi0
  have HZ0Int := Lib.hid hz0; clear hz0
  have HZ1Int := Lib.hid hz1; clear hz1
  have HZ2Int := Lib.hid hz2; clear hz2
  have hgw := hr.lt
  have Hr0 := Lib.hid hr; clear hr
  have HG0 := Lib.hid (grown_refl w (some g))
  have Hb := Lib.hid hb; clear hb
  go_enter Try.func40, Try.ntmps40
  go_wp2_with fail
  refine (copyInts_any A _ c xs _ hx rfl hA (by omega)).mono ?_
  rintro e w1 ⟨v, rfl, hown1, hb1⟩
  have Hown1 := Lib.hid hown1; clear hown1 hx hA
  have Hrd1 := Lib.hid (Rd.belowAll Hr0.out hb1)
  clear Hr0
  have HG1 := Lib.hid (grown_trans HG0.out (grown_of_below hb1 _))
  clear HG0
  clear hb1
  have hgl1 : g < w1.heap.size := (Hrd1.out).lt
  obtain ⟨Av, cv, rfl, hcv1, hcv2, hrs⟩ := OwnInts.form Hown1.out
  unfold maxLen at hcv2
  clear hrs
  go_wp2_with fail
  refine (pick_any g (p) (20) _ Hrd1.out (by omega)).mono ?_
  rintro e w2 ⟨k, rfl, k0, k1, hr2, hg2⟩
  have k2 := k1 (by omega)
  clear k1
  have HG2 := Lib.hid (grown_trans HG1.out hg2)
  clear HG1
  have Hown2 := Lib.hid (World.ownsRow.kept Hown1.out hg2 (apart_of (fun j hj e => by have := (World.ownsRow.lt Hown1.out j hj).1; injection e with e; omega)))
  clear Hown1
  clear hg2
  clear Hrd1
  have Hrd2 := Lib.hid hr2; clear hr2
  have hgl2 : g < w2.heap.size := (Hrd2.out).lt
  by_cases hk0 : k = 0
  · subst hk0
    have hsz3 := (HG2.out).size
    go_wp2_with (at_builtin; refine wpList_append_lies _ rfl (.tmp 14) (.tmp 16) _ rfl (w.heap.size) 3 ti _ 1 8 Try.underlying23 HIInt.out HZ0Int.out HZ1Int.out HZ2Int.out rfl (by omega) _ _ _ rfl (World.ownsRow.alloc Hown2.out _) ⟨w2.heap.size, 0, none⟩ 1 1 (intCells m) rfl rfl ?c1 ?c2 (by omega) ?c3 ?c4 ?c5 _ rfl ?_)
    case c1 => exact World.news_of_block (Blk.new' (t := 3) (cs := #[.int .i64 m]) (by simp))
    case c2 => simp [intCells, Value.oneCell']
    case c3 => unfold maxLen; omega
    case c4 => omega
    case c5 => first | omega | (simp; omega) | simp
    intro gb3 cap3 w3 hown3 hgrow3 hat3 hlt3
    have HX3 := Lib.hid (OwnInts.snoc hown3); clear hown3 hat3
    have Hrd3 := Lib.hid (Rd.grown_new (Rd.alloc Hrd2.out _) hgrow3 (fun r hr => by have := (World.ownsRow.lt Hown2.out r hr).1; omega))
    clear Hrd2
    have HG3 := Lib.hid (grown_new (grown_alloc HG2.out _) hgrow3 (fun r hr => (World.ownsRow.lt Hown2.out r hr).1))
    clear HG2
    clear hgrow3
    clear Hown2
    go_wp2
    go_ret
    exact OwnInts.spoil (ys := xs ++ [m]) HX3.out (by simp) (fun x h => by
        rcases List.mem_append.1 h with h | h
        · exact Hb.out x h
        · simp at h; subst h; exact ⟨hm0, hm1⟩) (by omega) Hrd3.out HG3.out
  · have hk0' : (k == 0) = false := by simpa using hk0
    by_cases hk1 : k = 1
    · subst hk1
      by_cases hl1 : 0 < xs.length
      · have hl2 : (0 : Int) < (xs.length : Int) := by omega
        obtain ⟨gb, cgb, evgb, hbgb, hltgb, hlegb, hmxgb, hcellgb, hfreegb, htheregb⟩ := own_at intCells 1 (fun _ => rfl) Hown2.out (show 0 < xs.length by omega)
        have Hcellgb := Lib.hid hcellgb; clear hcellgb
        have Hfreegb := Lib.hid hfreegb; clear hfreegb
        have Htheregb := Lib.hid htheregb; clear htheregb
        injection evgb with e1 e2 e3
        subst e1 e3
        clear e2 Hcellgb Hfreegb Htheregb hmxgb
        obtain ⟨A2, hA2⟩ : ∃ A2, A2 = (if cv = 1 then some (⟨gb, 0, none⟩ : Addr) else some ⟨gb, 1, none⟩) := ⟨_, rfl⟩
        have HA2 := Lib.hid hA2.symm
        have hA2b : ∀ a, A2 = some a → w.heap.size ≤ a.block := by rw [hA2]; intro a ha; split at ha <;> (injection ha with ha; subst ha; exact hbgb)
        have hA2n : A2 ≠ none := by rw [hA2]; split <;> simp
        have HA2b := Lib.hid hA2b; clear hA2b
        have HA2n := Lib.hid hA2n; clear hA2n hA2
        have e5 := HA2.out
        have i1 : (1 : Int) ≤ (xs.length : Int) := by omega
        have i2 : (1 : Int) ≤ (cv : Int) := by omega
        obtain ⟨A', c', e', _, _, hrs⟩ := OwnInts.form Hown2.out
        injection e' with e1 e2 e3
        subst e1 e3
        have Hrs := Lib.hid hrs; clear hrs e2
        go_wp2
        go_ret
        refine ⟨A2, xs.length - 1, cv - 1, xs.drop 1, _, rfl, ?_, HA2b.out, fun h => absurd h HA2n.out, by rw [List.length_drop], by omega, by unfold maxLen; omega, by rw [List.length_drop]; omega, fun x h => Hb.out x (List.mem_of_mem_drop h), by omega, Hrd2.out, HG2.out⟩
        exact reads_from_if (k := 1) intCells 1 (fun _ => rfl) Hrs.out (by omega) hcv1 HA2.out
      · have hl2 : decide ((0 : Int) < (xs.length : Int)) = false := by rw [decide_eq_false_iff_not]; omega
        go_wp2
        go_ret
        exact OwnInts.spoil (ys := xs) Hown2.out (by omega) Hb.out (by omega) Hrd2.out HG2.out
    · have hk1' : (k == 1) = false := by simpa using hk1
      by_cases hk2 : k = 2
      · subst hk2
        by_cases hl1 : 0 < xs.length
        · have hl2 : (0 : Int) < (xs.length : Int) := by omega
          go_wp2_with fail
          refine (pick_any g (p + 1) ((xs.length : Int)) _ Hrd2.out (by omega)).mono ?_
          rintro e w3 ⟨j, rfl, j0, j1, hr3, hg3⟩
          have j2 := j1 (by omega)
          clear j1
          have HG3 := Lib.hid (grown_trans HG2.out hg3)
          clear HG2
          have Hown3 := Lib.hid (World.ownsRow.kept Hown2.out hg3 (apart_of (fun j hj e => by have := (World.ownsRow.lt Hown2.out j hj).1; injection e with e; omega)))
          clear Hown2
          clear hg3
          clear Hrd2
          have Hrd3 := Lib.hid hr3; clear hr3
          have hgl3 : g < w3.heap.size := (Hrd3.out).lt
          go_wp2_with fail
          refine (one_in g (p + 1 + 1) _ [-1, m, 0, 1] lo hi 4 4 _ _ (Rd.alloc Hrd3.out _) (by omega) (Blk.new' (by simp)) (by omega) rfl rfl (by omega) (by omega) (by intro y hy; simp at hy; omega)).mono ?_
          rintro e w4 ⟨x, rfl, x0, x1, hr4, hg4⟩
          have HG4 := Lib.hid (grown_trans (grown_alloc HG3.out _) hg4)
          clear HG3
          have Hown4 := Lib.hid (World.ownsRow.kept (World.ownsRow.alloc Hown3.out _) hg4 (apart_of (fun j hj e => by have := (World.ownsRow.lt Hown3.out j hj).1; injection e with e; omega)))
          clear Hown3
          clear hg4
          clear Hrd3
          have Hrd4 := Lib.hid hr4; clear hr4
          have hgl4 : g < w4.heap.size := (Hrd4.out).lt
          obtain ⟨ji, rfl⟩ := Int.eq_ofNat_of_zero_le j0
          have hji : ji < xs.length := by omega
          have j3 : (0 : Int) ≤ (ji : Int) := by omega
          obtain ⟨gb, cgb, evgb, hbgb, hltgb, hlegb, hmxgb, hcellgb, hfreegb, htheregb⟩ := own_at intCells 1 (fun _ => rfl) Hown4.out (show 0 < xs.length by omega)
          have Hcellgb := Lib.hid hcellgb; clear hcellgb
          have Hfreegb := Lib.hid hfreegb; clear hfreegb
          have Htheregb := Lib.hid htheregb; clear htheregb
          injection evgb with e1 e2 e3
          subst e1 e3
          obtain ⟨u0, p0⟩ : ∃ u, w4.cell? ⟨gb, ji, none⟩ = some u := Htheregb.out _ (by omega)
          have f0 : w4.frozen? ⟨gb, ji, none⟩ = false := Hfreegb.out _
          clear e2 Hcellgb Hfreegb Htheregb hmxgb
          have h1 : OwnInts (w4.setCells gb ji [.int .i64 x]) w.heap.size (.slice (some ⟨gb, 0, none⟩) (xs.set ji x).length cv) (xs.set ji x) := by
            unfold OwnInts
            rw [List.length_set]
            have h := own_store intCells 1 (fun _ => rfl) (by omega) (x := x) (i := ji) Hown4.out hji
            rwa [Nat.mul_one] at h
          rw [List.length_set] at h1
          have h3 : Rd (w4.setCells gb ji [.int .i64 x]) g (p + 1 + 1 + 1) := Rd.setCells Hrd4.out (show g < gb by omega) _ _
          have h4 : w.grownBy (w4.setCells gb ji [.int .i64 x]) (some g) := grown_cells (show w.heap.size ≤ gb by omega) _ _ _ HG4.out
          have H1 := Lib.hid h1; clear h1
          have H3 := Lib.hid h3; clear h3
          have H4 := Lib.hid h4; clear h4
          go_wp2
          go_ret
          exact OwnInts.spoil (ys := xs.set ji x) H1.out (by rw [List.length_set]; omega) (fun y h => by
                  rcases List.mem_or_eq_of_mem_set h with h | h
                  · exact Hb.out y h
                  · subst h; exact ⟨x0, x1⟩) (by omega) H3.out H4.out
        · have hl2 : decide ((0 : Int) < (xs.length : Int)) = false := by rw [decide_eq_false_iff_not]; omega
          go_wp2
          go_ret
          exact OwnInts.spoil (ys := xs) Hown2.out (by omega) Hb.out (by omega) Hrd2.out HG2.out
      · have hk2' : (k == 2) = false := by simpa using hk2
        go_wp2
        go_ret
        exact OwnInts.spoil (ys := xs) Hown2.out (by omega) Hb.out (by omega) Hrd2.out HG2.out
end Go.Proofs.Ytnlnlcllnbggdaa
