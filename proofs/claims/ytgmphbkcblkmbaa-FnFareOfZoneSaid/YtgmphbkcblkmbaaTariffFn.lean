/-
  Valid tariffs: the program's check and its model.
-/
import Derived.Test.YtgmphbkcblkmbaaWithin
import Derived.Test.YtgmphbkcblkmbaaStTariff
import Derived.Test.YtgmphbkcblkmbaaBandFn
set_option linter.unusedSimpArgs false
namespace Go.Proofs.Ytgmphbkcblkmbaa
open Go.RowKit Go.Deep
set_option linter.unusedVariables false

theorem zones_of (v : TariffR) : Fares.zonesOk v.of.z v.of.p.length = Fares.zonesOk v.z v.L.length := by
  show Fares.zonesOk v.z (rowsOf v.L).length = _
  rw [rowsOf_length]
set_option maxRecDepth 100000 in
set_option maxHeartbeats 1000000 in
theorem implvalidPrices_any (A : Option Addr) (n c : Nat) (L : List RowR) (w : World) (hx : Table w w.heap.size A L) (hn : L.length = n) (hl : n ≤ 1048576) (hs : ∀ x ∈ L, x.xs.length ≤ 1048576) :
    Calls Try.prog 66 #[.slice A n c] w fun e w' => e = .returned (.bool (Fares.pricesOk (rowsOf L))) ∧ w = w' := by
  subst hn
  have Hs := Lib.hid hs; clear hs
  by_cases h0 : L.length < 1
  · go_enter Try.func66, Try.ntmps66
    go_wp2
    go_ret
    exact ⟨ret_bool (Fares.pricesOk_few (by rw [rowsOf_length]; omega)).symm, rfl⟩
  · by_cases h5 : 5 < L.length
    · go_enter Try.func66, Try.ntmps66
      go_wp2
      go_ret
      exact ⟨ret_bool (Fares.pricesOk_few (by rw [rowsOf_length]; omega)).symm, rfl⟩
    · go_enter Try.func66, Try.ntmps66
      go_wp2
      go_loop [15] (fun i => ∃ k : Nat, k ≤ L.length ∧ i = .int .i64 k ∧ ∀ (a : Nat) (r : List Int), a < k → (rowsOf L)[a]? = some r → Fares.rowOk (rowsOf L).length r = true) (fun i => L.length - (intOf i).toNat)
      case atStart => exact ⟨0, Nat.zero_le _, rfl, fun a r ha => absurd ha (by omega)⟩
      case round =>
        obtain ⟨k, hk, rfl, he⟩ := hrel
        have He := Lib.hid he; clear he
        by_cases hlt : k < L.length
        · obtain ⟨x, hxk⟩ : ∃ x, L[k]? = some x := ⟨L[k], List.getElem?_eq_getElem hlt⟩
          have Hin := Lib.hid (hx.rowIn hxk).1
          have Hsm := Lib.hid (Hs.out x (List.mem_of_getElem? hxk))
          obtain ⟨b1, o1, rfl, hb1, hrw⟩ := hx.row (by omega)
          have p0 := hrw k x hxk
          have Hg := Lib.hid (rowsOf_get hxk); clear hxk hrw hx
          have i0 : (0 : Int) ≤ (k : Int) := by omega
          have i1 : (k : Int) < (L.length : Int) := by omega
          by_cases hne : x.xs.length = L.length
          · have hb : ((x.xs.length : Int) != (L.length : Int)) = false := by simp [hne]
            have Hne := Lib.hid hne; clear hne
            by_cases hwi : Fares.within x.xs 2000 = true
            · have Hwi := Lib.hid hwi; clear hwi
              go_wp2_with fail
              refine (implallWithin_gen 2000 x.A x.xs.length x.c x.xs _ Hin.out rfl (by have := Hsm.out; omega)).mono ?_
              rintro e w' ⟨rfl, rfl⟩
              rw [Hwi.out]
              go_wp2
              go_round
              case rel => exact ⟨k + 1, by omega, by go_num, fun a r ha hr => by
                rcases Nat.lt_or_ge a k with h | h
                · exact He.out a r h hr
                · have e : a = k := by omega
                  rw [e, Hg.out] at hr
                  injection hr with hr
                  subst hr
                  rw [Fares.rowOk_eq (by rw [rowsOf_length]; exact Hne.out)]
                  exact Hwi.out⟩
              case measure => simp [intOf]; omega
            · rw [Bool.not_eq_true] at hwi
              have Hwi := Lib.hid hwi; clear hwi
              go_wp2_with fail
              refine (implallWithin_gen 2000 x.A x.xs.length x.c x.xs _ Hin.out rfl (by have := Hsm.out; omega)).mono ?_
              rintro e w' ⟨rfl, rfl⟩
              rw [Hwi.out]
              go_wp2
              go_ret
              exact ⟨ret_bool (Fares.pricesOk_no Hg.out (by rw [Fares.rowOk_eq (by rw [rowsOf_length]; exact Hne.out)]; exact Hwi.out)).symm, rfl⟩
          · have hb : ((x.xs.length : Int) != (L.length : Int)) = true := by rw [bne_iff_ne]; omega
            have Hne := Lib.hid hne; clear hne
            go_wp2
            go_ret
            exact ⟨ret_bool (Fares.pricesOk_no Hg.out (Fares.rowOk_ne (by rw [rowsOf_length]; exact Hne.out))).symm, rfl⟩
        · go_wp2
          go_ret
          exact ⟨ret_bool (Fares.pricesOk_yes (by rw [rowsOf_length]; omega) (fun a r h => He.out a r (by have := (List.getElem?_eq_some_iff.1 h).1; rw [rowsOf_length] at this; omega) h)).symm, rfl⟩
set_option maxRecDepth 100000 in
set_option maxHeartbeats 1000000 in
theorem implvalidZones_any (A : Option Addr) (n c m : Nat) (z : List Int) (w : World) (hx : Ints w w.heap.size A z) (hn : z.length = n) (hl : n ≤ 1000000000) (hm : m ≤ 1000000000) :
    Calls Try.prog 67 #[.slice A n c, .int .i64 m] w fun e w' => e = .returned (.bool (Fares.zonesOk z m)) ∧ w = w' := by
  subst hn
  by_cases h1 : z.length < 1
  · have d : decide ((1 : Int) ≤ (z.length : Int)) = false := by rw [decide_eq_false_iff_not]; omega
    go_enter Try.func67, Try.ntmps67
    go_wp2
    go_ret
    exact ⟨ret_bool (Fares.zonesOk_len (by omega)).symm, rfl⟩
  · have d : decide ((1 : Int) ≤ (z.length : Int)) = true := by rw [decide_eq_true_eq]; omega
    by_cases h10 : 10 < z.length
    · have d2 : decide ((z.length : Int) ≤ 10) = false := by rw [decide_eq_false_iff_not]; omega
      go_enter Try.func67, Try.ntmps67
      go_wp2
      go_ret
      exact ⟨ret_bool (Fares.zonesOk_len (by omega)).symm, rfl⟩
    · have d2 : decide ((z.length : Int) ≤ 10) = true := by rw [decide_eq_true_eq]; omega
      go_enter Try.func67, Try.ntmps67
      go_wp2_with fail
      refine (implallWithin_gen ((m : Int) - 1) A z.length c z _ hx rfl hl).mono ?_
      rintro e w' ⟨rfl, rfl⟩
      go_wp2
      go_ret
      exact ⟨ret_bool (Fares.zonesOk_eq (by omega)).symm, rfl⟩
set_option maxRecDepth 100000 in
set_option maxHeartbeats 2000000 in
theorem implValidTariff_any (v : TariffR) (w : World) (hi : TariffIn w w.heap.size v) (hs : TariffSmall v) :
    Calls Try.prog 25 #[tariffV v] w fun e w' => e = .returned (.bool (Fares.validTariff v.of)) ∧ Below w.heap.size w w' := by
  obtain ⟨ht, hz, hk, l1, l2, l3, l4, l5, l6⟩ := hi
  obtain ⟨s1, s2, s3, s4⟩ := hs
  have Ht := Lib.hid ht; clear ht
  have Hz := Lib.hid hz; clear hz
  have Hk := Lib.hid hk; clear hk
  have Hs2 := Lib.hid s2; clear s2
  have E1 := Lib.hid (fun h => Fares.validTariff_prices (t := v.of) h)
  have E2 := Lib.hid (fun (h : Fares.zonesOk v.z v.L.length = false) => Fares.validTariff_zones (t := v.of) (by rw [zones_of]; exact h))
  have E3 := Lib.hid (fun h => Fares.validTariff_bands (t := v.of) h)
  have E4 := Lib.hid (fun (h : ¬ (0 ≤ v.e ∧ v.e ≤ 100)) => Fares.validTariff_extra (t := v.of) h)
  have E5 := Lib.hid (fun (h : ¬ (0 ≤ v.t ∧ v.t ≤ 4000)) => Fares.validTariff_top (t := v.of) h)
  have E6 := Lib.hid (fun h1 (h2 : Fares.zonesOk v.z v.L.length = true) h3 h4 h5 => Fares.validTariff_yes (t := v.of) h1 (by rw [zones_of]; exact h2) h3 h4 h5)
  unfold tariffV
  go_enter Try.func25, Try.ntmps25
  go_wp2_with fail
  refine (implvalidPrices_any v.pA v.L.length v.pc v.L _ (Ht.out.up _) rfl s1 Hs2.out).mono ?_
  rintro e w1 ⟨rfl, rfl⟩
  cases hp : Fares.pricesOk (rowsOf v.L)
  · have Hp := Lib.hid hp; clear hp
    go_wp2
    go_ret
    exact ⟨ret_bool (E1.out Hp.out).symm, (by repeat (first | exact Below.refl _ _ | refine bA ?_ _ | refine bD ?_ _ | refine bD1 ?_ | refine bS ?_ (by simp) _))⟩
  · have Hp := Lib.hid hp; clear hp
    go_wp2_with fail
    refine (implvalidZones_any v.zA v.z.length v.zc v.L.length v.z _ (readsUp Hz.out _) rfl (by omega) (by omega)).mono ?_
    rintro e w1 ⟨rfl, rfl⟩
    cases hq : Fares.zonesOk v.z v.L.length
    · have Hq := Lib.hid hq; clear hq
      go_wp2
      go_ret
      exact ⟨ret_bool (E2.out Hq.out).symm, (by repeat (first | exact Below.refl _ _ | refine bA ?_ _ | refine bD ?_ _ | refine bD1 ?_ | refine bS ?_ (by simp) _))⟩
    · have Hq := Lib.hid hq; clear hq
      go_wp2_with fail
      refine (implvalidBands_any v.kA v.k.length v.kc v.k _ (readsUp Hk.out _) rfl (by omega)).mono ?_
      rintro e w1 ⟨rfl, hb1⟩
      have hc1 : Below w.heap.size w w1 := bT (bA (Below.refl _ _) _) hb1
      cases hr : Fares.validBands v.k
      · have Hr := Lib.hid hr; clear hr
        go_wp2
        go_ret
        exact ⟨ret_bool (E3.out Hr.out).symm, hc1⟩
      · have Hr := Lib.hid hr; clear hr
        obtain ⟨t0, t1, t2, t3, t4⟩ := tariffCells (Blk.belowAll (TariffBox.new w v) hb1)
        by_cases a1 : 0 ≤ v.e
        · by_cases a2 : v.e ≤ 100
          · by_cases a3 : 0 ≤ v.t
            · by_cases a4 : v.t ≤ 4000
              · go_wp2
                go_ret
                exact ⟨ret_bool (E6.out Hp.out Hq.out Hr.out ⟨a1, a2⟩ ⟨a3, a4⟩).symm, hc1⟩
              · have d4 : decide (v.t ≤ 4000) = false := by rw [decide_eq_false_iff_not]; exact a4
                have Ha := Lib.hid a4; clear a4
                go_wp2
                go_ret
                exact ⟨ret_bool (E5.out (by have := Ha.out; omega)).symm, hc1⟩
            · go_wp2
              go_ret
              exact ⟨ret_bool (E5.out (by omega)).symm, hc1⟩
          · go_wp2
            go_ret
            exact ⟨ret_bool (E4.out (by omega)).symm, hc1⟩
        · go_wp2
          go_ret
          exact ⟨ret_bool (E4.out (by omega)).symm, hc1⟩
set_option maxRecDepth 100000 in
set_option maxHeartbeats 2000000 in
theorem specvalidTariff_any (v : TariffR) (w : World) (hi : TariffIn w w.heap.size v) (hs : TariffSmall v) :
    Calls Try.prog 69 #[tariffV v] w fun e w' => e = .returned (.bool (Fares.validTariff v.of)) ∧ Below w.heap.size w w' := by
  obtain ⟨ht, hz, hk, l1, l2, l3, l4, l5, l6⟩ := hi
  obtain ⟨s1, s2, s3, s4⟩ := hs
  have Ht := Lib.hid ht; clear ht
  have Hz := Lib.hid hz; clear hz
  have Hk := Lib.hid hk; clear hk
  have Hs2 := Lib.hid s2; clear s2
  have E1 := Lib.hid (fun h => Fares.validTariff_prices (t := v.of) h)
  have E2 := Lib.hid (fun (h : Fares.zonesOk v.z v.L.length = false) => Fares.validTariff_zones (t := v.of) (by rw [zones_of]; exact h))
  have E3 := Lib.hid (fun h => Fares.validTariff_bands (t := v.of) h)
  have E4 := Lib.hid (fun (h : ¬ (0 ≤ v.e ∧ v.e ≤ 100)) => Fares.validTariff_extra (t := v.of) h)
  have E5 := Lib.hid (fun (h : ¬ (0 ≤ v.t ∧ v.t ≤ 4000)) => Fares.validTariff_top (t := v.of) h)
  have E6 := Lib.hid (fun h1 (h2 : Fares.zonesOk v.z v.L.length = true) h3 (h4 : 0 ≤ v.e ∧ v.e ≤ 100) (h5 : 0 ≤ v.t ∧ v.t ≤ 4000) => Fares.validTariff_yes (t := v.of) h1 (by rw [zones_of]; exact h2) h3 h4 h5)
  unfold tariffV
  go_enter Try.func69, Try.ntmps69
  go_wp2
  generalize hW : World.alloc _ _ = W0
  have hP : Blk W0 w.heap.size 27 v.cells := by rw [← hW]; exact Blk.new w _ _
  have hc0 : Below w.heap.size w W0 := by rw [← hW]; exact bA (Below.refl _ _) _
  clear hW
  have HT := Lib.hid (Ht.out.over hc0)
  have HZ : Hid (Ints W0 W0.heap.size v.zA v.z) := Lib.hid (readsOver Hz.out hc0)
  have HK : Hid (Bands W0 W0.heap.size v.kA v.k) := Lib.hid (readsOver Hk.out hc0)
  have HP := Lib.hid hP
  clear Ht Hz Hk
  obtain ⟨t0, t1, t2, t3, t4⟩ := tariffCells hP
  clear hP
  go_loop [4] (fun i => ∃ k : Nat, k ≤ v.L.length ∧ i = .int .i64 k ∧ ∀ (a : Nat) (r : List Int), a < k → (rowsOf v.L)[a]? = some r → Fares.rowOk (rowsOf v.L).length r = true) (fun i => v.L.length - (intOf i).toNat)
  case atStart => exact ⟨0, Nat.zero_le _, rfl, fun a r ha => absurd ha (by omega)⟩
  case round =>
    obtain ⟨k, hk, rfl, he⟩ := hrel
    have He := Lib.hid he; clear he
    by_cases hlt : k < v.L.length
    · obtain ⟨x, hxk⟩ : ∃ x, v.L[k]? = some x := ⟨v.L[k], List.getElem?_eq_getElem hlt⟩
      have Hin := Lib.hid (HT.out.rowIn hxk).1
      have Hsm := Lib.hid (Hs2.out x (List.mem_of_getElem? hxk))
      obtain ⟨b1, o1, hA1, hb1, hrw⟩ := HT.out.row (by omega)
      have p0 := hrw k x hxk
      rw [hA1] at t0
      have Hg := Lib.hid (rowsOf_get hxk); clear hxk hrw
      have HA1 := Lib.hid hA1; clear hA1
      have i0 : (0 : Int) ≤ (k : Int) := by omega
      have i1 : (k : Int) < (v.L.length : Int) := by omega
      by_cases hne : x.xs.length = v.L.length
      · have hb : ((x.xs.length : Int) != (v.L.length : Int)) = false := by simp [hne]
        have Hne := Lib.hid hne; clear hne
        by_cases hwi : Fares.within x.xs 2000 = true
        · have Hwi := Lib.hid hwi; clear hwi
          go_wp2_with fail
          refine (specallIn_gen 2000 x.A x.xs.length x.c x.xs _ Hin.out rfl (by have := Hsm.out; omega)).mono ?_
          rintro e w' ⟨rfl, rfl⟩
          rw [Hwi.out]
          go_wp2
          go_round
          case rel => exact ⟨k + 1, by omega, by go_num, fun a r ha hr => by
            rcases Nat.lt_or_ge a k with h | h
            · exact He.out a r h hr
            · have e : a = k := by omega
              rw [e, Hg.out] at hr
              injection hr with hr
              subst hr
              rw [Fares.rowOk_eq (by rw [rowsOf_length]; exact Hne.out)]
              exact Hwi.out⟩
          case measure => simp [intOf]; omega
        · rw [Bool.not_eq_true] at hwi
          have Hwi := Lib.hid hwi; clear hwi
          go_wp2_with fail
          refine (specallIn_gen 2000 x.A x.xs.length x.c x.xs _ Hin.out rfl (by have := Hsm.out; omega)).mono ?_
          rintro e w' ⟨rfl, rfl⟩
          rw [Hwi.out]
          go_wp2
          go_ret
          exact ⟨ret_bool (E1.out (Fares.pricesOk_no Hg.out (by rw [Fares.rowOk_eq (by rw [show v.of.p.length = v.L.length from rowsOf_length v.L]; exact Hne.out)]; exact Hwi.out))).symm, hc0⟩
      · have hb : ((x.xs.length : Int) != (v.L.length : Int)) = true := by rw [bne_iff_ne]; omega
        have Hne := Lib.hid hne; clear hne
        go_wp2
        go_ret
        exact ⟨ret_bool (E1.out (Fares.pricesOk_no Hg.out (Fares.rowOk_ne (by rw [show v.of.p.length = v.L.length from rowsOf_length v.L]; exact Hne.out)))).symm, hc0⟩
    · have Hrows := Lib.hid (fun (a : Nat) (r : List Int) (h : (rowsOf v.L)[a]? = some r) => He.out a r (by have := (List.getElem?_eq_some_iff.1 h).1; rw [rowsOf_length] at this; omega) h)
      clear He
      have hkn : k = v.L.length := by omega
      have d : decide ((k : Int) < (v.L.length : Int)) = false := by rw [decide_eq_false_iff_not]; omega
      go_wp2
      go_loop [5] (fun i => ∃ j : Nat, j ≤ v.z.length ∧ i = .int .i64 j ∧ ∀ (a : Nat) (x : Int), a < j → v.z[a]? = some x → 0 ≤ x ∧ x ≤ (v.L.length : Int) - 1) (fun i => v.z.length - (intOf i).toNat)
      case atStart => exact ⟨0, Nat.zero_le _, rfl, fun a r ha => absurd ha (by omega)⟩
      case round =>
        obtain ⟨j, hj, rfl, hz⟩ := hrel
        have Hzz := Lib.hid hz; clear hz
        by_cases hlt2 : j < v.z.length
        · obtain ⟨x, hxk⟩ : ∃ x, v.z[j]? = some x := ⟨v.z[j], List.getElem?_eq_getElem hlt2⟩
          obtain ⟨b1, o1, hA1, hb1, hrw⟩ := HZ.out.row (by omega)
          have p0 := hrw j x hxk
          rw [hA1] at t1
          have Hx := Lib.hid hxk; clear hxk hrw
          have HA1 := Lib.hid hA1; clear hA1
          have i0 : (0 : Int) ≤ (j : Int) := by omega
          have i1 : (j : Int) < (v.z.length : Int) := by omega
          by_cases hok : 0 ≤ x ∧ x ≤ (v.L.length : Int) - 1
          · obtain ⟨x0, x1⟩ := hok
            go_wp2_with fail
            refine (inRange_yes _ _ _ _ x0 x1).mono ?_
            rintro e w' ⟨rfl, rfl⟩
            go_wp2
            go_round
            case rel => exact ⟨j + 1, by omega, by go_num, fun a y ha hy => by
              rcases Nat.lt_or_ge a j with h | h
              · exact Hzz.out a y h hy
              · have e : a = j := by omega
                rw [e, Hx.out] at hy
                injection hy with hy
                subst hy
                exact ⟨x0, x1⟩⟩
            case measure => simp [intOf]; omega
          · have Hno := Lib.hid hok
            go_wp2_with fail
            refine (inRange_no _ _ _ _ (by have := Hno.out; omega)).mono ?_
            rintro e w' ⟨rfl, rfl⟩
            go_wp2
            go_ret
            exact ⟨ret_bool (E2.out (by
              by_cases h : 1 ≤ v.z.length ∧ v.z.length ≤ 10
              · rw [Fares.zonesOk_eq h]; exact Fares.within_false Hx.out Hno.out
              · exact Fares.zonesOk_len h)).symm, hc0⟩
        · have Hall := Lib.hid (fun (a : Nat) (x : Int) (h : v.z[a]? = some x) => Hzz.out a x (by have := (List.getElem?_eq_some_iff.1 h).1; omega) h)
          clear Hzz
          have d2 : decide ((j : Int) < (v.z.length : Int)) = false := by rw [decide_eq_false_iff_not]; omega
          go_wp2_with fail
          by_cases h1 : 1 ≤ v.L.length ∧ v.L.length ≤ 5
          · have Hp := Lib.hid (Fares.pricesOk_yes (by rw [rowsOf_length]; exact h1) Hrows.out)
            refine (inRange_yes _ _ _ _ (by omega) (by omega)).mono ?_
            rintro e w' ⟨rfl, rfl⟩
            go_wp2_with fail
            by_cases h2 : 1 ≤ v.z.length ∧ v.z.length ≤ 10
            · have Hq := Lib.hid (show Fares.zonesOk v.z v.L.length = true by rw [Fares.zonesOk_eq h2]; exact Fares.within_true Hall.out)
              refine (inRange_yes _ _ _ _ (by omega) (by omega)).mono ?_
              rintro e w' ⟨rfl, rfl⟩
              go_wp2_with fail
              refine (specvalidBands_any v.kA v.k.length v.kc v.k _ HK.out rfl (by omega)).mono ?_
              rintro e w1 ⟨rfl, hb1⟩
              have hc1 : Below w.heap.size w w1 := bT hc0 hb1
              have hP1 := HP.out.belowAll hb1
              clear t0 t1 t2 t3 t4 hb1 hc0
              obtain ⟨t0, t1, t2, t3, t4⟩ := tariffCells hP1
              clear hP1
              cases hr : Fares.validBands v.k
              · have Hr := Lib.hid hr; clear hr
                go_wp2
                go_ret
                exact ⟨ret_bool (E3.out Hr.out).symm, hc1⟩
              · have Hr := Lib.hid hr; clear hr
                go_wp2_with fail
                by_cases h4 : 0 ≤ v.e ∧ v.e ≤ 100
                · have H4 := Lib.hid h4
                  refine (inRange_yes _ _ _ _ h4.1 h4.2).mono ?_
                  rintro e w' ⟨rfl, rfl⟩
                  go_wp2_with fail
                  by_cases h5 : 0 ≤ v.t ∧ v.t ≤ 4000
                  · have H5 := Lib.hid h5
                    refine (inRange_yes _ _ _ _ h5.1 h5.2).mono ?_
                    rintro e w' ⟨rfl, rfl⟩
                    go_wp2
                    go_ret
                    exact ⟨ret_bool (E6.out Hp.out Hq.out Hr.out H4.out H5.out).symm, hc1⟩
                  · have H5 := Lib.hid h5
                    refine (inRange_no _ _ _ _ (by omega)).mono ?_
                    rintro e w' ⟨rfl, rfl⟩
                    go_wp2
                    go_ret
                    exact ⟨ret_bool (E5.out H5.out).symm, hc1⟩
                · have H4 := Lib.hid h4
                  refine (inRange_no _ _ _ _ (by omega)).mono ?_
                  rintro e w' ⟨rfl, rfl⟩
                  go_wp2
                  go_ret
                  exact ⟨ret_bool (E4.out H4.out).symm, hc1⟩
            · have H2 := Lib.hid h2
              refine (inRange_no _ _ _ _ (by omega)).mono ?_
              rintro e w' ⟨rfl, rfl⟩
              go_wp2
              go_ret
              exact ⟨ret_bool (E2.out (Fares.zonesOk_len H2.out)).symm, hc0⟩
          · have H1 := Lib.hid h1
            refine (inRange_no _ _ _ _ (by omega)).mono ?_
            rintro e w' ⟨rfl, rfl⟩
            go_wp2
            go_ret
            exact ⟨ret_bool (E1.out (Fares.pricesOk_few (by rw [show v.of.p.length = v.L.length from rowsOf_length v.L]; exact H1.out))).symm, hc0⟩
set_option maxRecDepth 100000 in
set_option maxHeartbeats 2000000 in
theorem specValidTariff_any (v : TariffR) (w : World) (hi : TariffIn w w.heap.size v) (hs : TariffSmall v) :
    Calls Try.prog 26 #[tariffV v] w fun e w' => e = .returned (.bool (Fares.validTariff v.of)) ∧ Below w.heap.size w w' := by
  unfold tariffV
  go_enter Try.func26, Try.ntmps26
  go_wp2_with fail
  refine (specvalidTariff_any v _ (hi.up _) hs).mono ?_
  rintro e w1 ⟨rfl, hb1⟩
  go_wp2
  go_ret
  exact ⟨rfl, bT (bA (Below.refl _ _) _) hb1⟩
end Go.Proofs.Ytgmphbkcblkmbaa
