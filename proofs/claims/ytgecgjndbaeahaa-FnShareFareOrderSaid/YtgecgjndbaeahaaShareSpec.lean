/-
  Chapter 18: the model's shares of an amount.
-/
import Derived.Test.YtgecgjndbaeahaaLensOf
import Derived.Test.YtgecgjndbaeahaaDrawSpoil
import Derived.BigQuiet
set_option linter.unusedSimpArgs false
namespace Go.Proofs.Ytgecgjndbaeahaa
open Go.RowKit Go.Deep
set_option linter.unusedVariables false

theorem OwnInts.len {w : World} {base g n cap : Nat} {ys : List Int} (h : OwnInts w base (.slice (some ⟨g, 0, none⟩) n cap) ys) : ys.length = n ∧ n ≤ cap ∧ cap ≤ maxLen := by
  rcases h.2 with ⟨e, _⟩ | ⟨g', cap', cur, e, _, _, h1, h2, _⟩
  · cases e
  · injection e with e1 e2 e3
    subst e2 e3
    exact ⟨rfl, h1, h2⟩
theorem Fares.lens_at {xs : List Fares.Leg} {k : Nat} (h : k < 4) : (Fares.lens xs)[k]? = some (Fares.legSum k xs) := by
  match k, h with
  | 0, _ | 1, _ | 2, _ | 3, _ => rfl
theorem Fares.bases_at {xs : List Fares.Leg} {m : Int} {k : Nat} (h : k < 4) : (Fares.bases xs m)[k]? = some (Fares.base xs m k) := by
  match k, h with
  | 0, _ | 1, _ | 2, _ | 3, _ => rfl
theorem Fares.rests_at {xs : List Fares.Leg} {m : Int} {k : Nat} (h : k < 4) : (Fares.rests xs m)[k]? = some (Fares.rest xs m k) := by
  match k, h with
  | 0, _ | 1, _ | 2, _ | 3, _ => rfl
def Fares.leftAfter (xs : List Fares.Leg) (m : Int) : Nat → Int
  | 0 => m
  | k + 1 => Fares.leftAfter xs m k - Fares.base xs m k
theorem Fares.leftAfter_in {xs : List Fares.Leg} {m : Int} (h : Fares.Shared xs m) : ∀ k : Nat, m - 100000 * (k : Int) ≤ Fares.leftAfter xs m k ∧ Fares.leftAfter xs m k ≤ m
  | 0 => by simp [Fares.leftAfter]
  | k + 1 => by
    have h1 := Fares.leftAfter_in h k
    have h2 := h.base k
    show m - 100000 * ((k + 1 : Nat) : Int) ≤ Fares.leftAfter xs m k - Fares.base xs m k ∧ _
    refine ⟨by push_cast; omega, ?_⟩
    show Fares.leftAfter xs m k - Fares.base xs m k ≤ m
    omega
theorem bT' {a b c : World} (h : Below a.heap.size a b) (k : Below b.heap.size b c) : Below a.heap.size a c := bT h k
set_option maxRecDepth 100000 in
set_option maxHeartbeats 4000000 in
theorem specShareFare_any (A : Option Addr) (n c : Nat) (xs : List Fares.Leg) (m : Int) (w : World) (hx : Legs w w.heap.size A xs) (hn : xs.length = n) (hl : n ≤ 1000000000) :
    Calls Try.prog 15 #[.slice A n c, .int .i64 m] w fun e w' => ∃ v, e = .returned v ∧ OwnInts w' w.heap.size v (Fares.shareFare xs m) ∧ Below w.heap.size w w' := by
  subst hn
  by_cases hv : Fares.validLegs xs = true
  · by_cases hm : 0 ≤ m ∧ m ≤ 100000
    · have hk := Fares.shareOk_iff.2 ⟨hv, hm⟩
      have S := Fares.shared_of hk
      have HS := Lib.hid S; clear S
      have HT := Lib.hid (show Fares.shareFare xs m = (Fares.pick (Fares.leftOf xs m).toNat (Fares.bases xs m, Fares.rests xs m)).1 by unfold Fares.shareFare; rw [if_pos hk])
      have Hsum := Lib.hid (Fares.lens_sum (xs := xs) (fun g hg => by have := (Fares.validLegs_iff.1 hv).2 g hg; omega))
      obtain ⟨m0, m1⟩ := hm
      have a0 := HS.out.a0
      have a1 := HS.out.a1
      obtain ⟨al, hal⟩ : ∃ al, Fares.legAll xs = al := ⟨_, rfl⟩
      rw [hal] at a0 a1 Hsum
      have Hal := Lib.hid hal; clear hal
      obtain ⟨ti, hi0, hz0, hz1, hz2⟩ := info_parts info_intS
      have HIInt := Lib.hid hi0; clear hi0
      have HZ0Int := Lib.hid hz0; clear hz0
      have HZ1Int := Lib.hid hz1; clear hz1
      have HZ2Int := Lib.hid hz2; clear hz2
      go_enter Try.func15, Try.ntmps15
      go_wp2_with fail
      refine (specvalidLegs_any A _ c xs _ hx rfl (by omega)).mono ?_
      rw [hv]
      rintro e w' ⟨rfl, rfl⟩
      go_wp2_with fail
      refine (inRange_yes _ _ _ _ m0 m1).mono ?_
      rintro e w' ⟨rfl, rfl⟩
      go_wp2_with fail
      refine (lengthsOf_any A _ c xs _ hx rfl (by omega) hv).mono ?_
      rintro e w2 ⟨gl, rfl, hol, hb2⟩
      obtain ⟨_, _, ev, _, _, hrl⟩ := hol.form
      injection ev with ev1 ev2 ev3
      subst ev1 ev3
      have Hln := Lib.hid (show Ints w2 w2.heap.size (some ⟨gl, 0, none⟩) (Fares.lens xs) from hrl); clear hrl hol ev2
      go_wp2_with fail
      refine (specsum_any (some ⟨gl, 0, none⟩) 4 4 (Fares.lens xs) 4000 _ Hln.out rfl (by omega) (by omega) (fun x hx => by
        have h0 := HS.out.len 0
        have h1 := HS.out.len 1
        have h2 := HS.out.len 2
        have h3 := HS.out.len 3
        have hA := Hal.out
        simp only [Fares.lens, List.mem_cons, List.not_mem_nil, or_false] at hx
        rcases hx with rfl | rfl | rfl | rfl <;> omega)).mono ?_
      rw [Hsum.out]
      rintro e w' ⟨rfl, rfl⟩
      have Ho0 := Lib.hid (show OwnInts (w2.alloc (.cells #[] 3)) w2.heap.size (.slice (some ⟨w2.heap.size, 0, none⟩) 0 0) [] from World.ownsRow_lit (base := w2.heap.size) w2 #[] 0 (Nat.le_refl _) (by unfold maxLen; omega) rfl)
      have Hr0 := Lib.hid (show OwnInts ((w2.alloc (.cells #[] 3)).alloc (.cells #[] 3)) w2.heap.size (.slice (some ⟨w2.heap.size + 1, 0, none⟩) 0 0) [] from by unfold OwnInts; have h := World.ownsRow_lit (base := w2.heap.size) (e := 3) (size := 1) (w2.alloc (.cells #[] 3)) #[] 0 (by simp) (by unfold maxLen; omega) rfl; simpa using h)
      have Ho1 := Lib.hid (OwnInts.below Ho0.out (bA (Below.refl _ _) (.cells #[] 3)))
      have hb3 : Below w2.heap.size w2 ((w2.alloc (.cells #[] 3)).alloc (.cells #[] 3)) := bA (bA (Below.refl _ _) _) _
      go_wp2
      go_loopw [10, 7, 8, 9] (fun i vo vr lf wr => ∃ (k go co gr cr : Nat), k ≤ 4 ∧ i = .int .i64 k ∧ vo = .slice (some ⟨go, 0, none⟩) k co ∧ vr = .slice (some ⟨gr, 0, none⟩) k cr ∧ lf = .int .i64 (Fares.leftAfter xs m k) ∧ OwnInts wr w2.heap.size (.slice (some ⟨go, 0, none⟩) k co) ((Fares.bases xs m).take k) ∧ OwnInts wr w2.heap.size (.slice (some ⟨gr, 0, none⟩) k cr) ((Fares.rests xs m).take k) ∧ go ≠ gr ∧ go < wr.heap.size ∧ gr < wr.heap.size ∧ Below w2.heap.size w2 wr) (fun i _ _ _ _ => 4 - (intOf i).toNat)
      case atStart => exact ⟨0, w2.heap.size, 0, w2.heap.size + 1, 0, by omega, rfl, rfl, rfl, rfl, Ho1.out, Hr0.out, by omega, by simp only [World.size_alloc]; omega, by simp only [World.size_alloc]; omega, hb3⟩
      case round =>
        obtain ⟨k, go, co, gr, cr, hk4, rfl, rfl, rfl, rfl, hoo, hor, hne, hgo, hgr, hb⟩ := hrel
        obtain ⟨hol1, hol2, hol3⟩ := OwnInts.len hoo
        obtain ⟨hor1, hor2, hor3⟩ := OwnInts.len hor
        unfold maxLen at hol3 hor3
        have Hol1 := Lib.hid hol1; clear hol1
        have Hor1 := Lib.hid hor1; clear hor1
        have Hoo := Lib.hid hoo; clear hoo
        have Hor := Lib.hid hor; clear hor
        have hlf := Fares.leftAfter_in HS.out k
        have hbz := hb.size
        by_cases hlt : k < 4
        · have hls := HS.out.len k
          have hpr := HS.out.prod k
          have hba := HS.out.base k
          have hre := HS.out.rest k
          have hla := Fares.lens_at (xs := xs) hlt
          have hbt := Fares.bases_at (xs := xs) (m := m) hlt
          have hrt := Fares.rests_at (xs := xs) (m := m) hlt
          have hnf : Fares.leftAfter xs m (k + 1) = Fares.leftAfter xs m k - Fares.base xs m k := rfl
          obtain ⟨L, hL⟩ : ∃ L, Fares.legSum k xs = L := ⟨_, rfl⟩
          obtain ⟨b, hb1⟩ : ∃ b, Fares.base xs m k = b := ⟨_, rfl⟩
          obtain ⟨r, hr1⟩ : ∃ r, Fares.rest xs m k = r := ⟨_, rfl⟩
          have e1 : m * L / al = b := by rw [← hL, ← Hal.out, ← hb1]; rfl
          have e2 : m * L % al = r := by rw [← hL, ← Hal.out, ← hr1]; rfl
          rw [hL] at hls hpr hla
          rw [hb1] at hba hbt hnf
          rw [hr1] at hrt
          rw [hr1, Hal.out] at hre
          rw [Hal.out] at hls
          have Hb := Lib.hid (take_next hbt); clear hbt
          have Hr := Lib.hid (take_next hrt); clear hrt
          have Hnf := Lib.hid hnf; clear hnf
          obtain ⟨lf, hlfe⟩ : ∃ lf, Fares.leftAfter xs m k = lf := ⟨_, rfl⟩
          rw [hlfe] at hlf Hnf
          rw [hlfe]
          clear hL hb1 hr1 hlfe
          obtain ⟨b1, o1, eA, hbb, hr1⟩ := Ints.row Hln.out (by simp [Fares.lens])
          injection eA with eA
          injection eA with eA1 eA2
          subst eA1 eA2
          have HP0 := Lib.hid (show w2.cell? ⟨gl, k, none⟩ = some (.int .i64 L) by have h := hr1 k L hla; rwa [Nat.zero_add] at h)
          have p0 := (hb.cell (p := ⟨gl, k, none⟩) hbb).trans HP0.out
          clear hr1 hla
          obtain ⟨p, hp⟩ : ∃ p, m * L = p := ⟨_, rfl⟩
          rw [hp] at hpr e1 e2
          have e3 : p.tdiv al = b := by rw [Int.tdiv_eq_ediv_of_nonneg hpr.1]; exact e1
          have e4 : p.tmod al = r := by rw [Int.tmod_eq_emod_of_nonneg hpr.1]; exact e2
          obtain ⟨p1, p2⟩ := hpr
          obtain ⟨b0, b1⟩ := hba
          obtain ⟨r0, r1⟩ := hre
          obtain ⟨l0, l1⟩ := hls
          have nz : ¬ al = 0 := by omega
          have nzb : (al == 0) = false := by simpa using nz
          have i3 : (k : Int) < 4 := by omega
          have i0 : (0 : Int) ≤ (k : Int) := by omega
          go_wp2_with (at_builtin; refine wpList_append_lies _ rfl (.tmp 43) (.tmp 45) _ rfl (w2.heap.size) 3 ti _ 1 8 Try.underlying26 HIInt.out HZ0Int.out HZ1Int.out HZ2Int.out rfl (by omega) _ _ _ rfl (World.ownsRow.alloc (show wr.ownsRow w2.heap.size 3 1 (.slice (some ⟨go, 0, none⟩) k co) k (((Fares.bases xs m).take k).flatMap intCells) by have h := Hoo.out; unfold OwnInts at h; rwa [Hol1.out] at h) _) ⟨wr.heap.size, 0, none⟩ 1 1 (intCells b) rfl rfl ?c1 ?c2 (by omega) ?c3 ?c4 ?c5 _ rfl ?_)
          case c1 => first | exact fun _ _ h => h | exact World.news_of_block (heap_alloc_new wr (.cells #[.int .i64 b] 3))
          case c2 => simp [intCells, Value.oneCell']
          case c3 => unfold maxLen; omega
          case c4 => omega
          case c5 => first | omega | (simp; omega) | simp
          intro gb9 cap9 w9 hown9 hgrow9 hat9 hlt9
          have hgrow9 : (wr.alloc (.cells #[.int .i64 b] 3)).grownBy w9 (some go) := hgrow9
          have hat9 : some go = some gb9 ∨ gb9 = wr.heap.size + 1 := hat9
          have Ho9 := Lib.hid (show OwnInts w9 w2.heap.size (.slice (some ⟨gb9, 0, none⟩) (k + 1) cap9) ((Fares.bases xs m).take (k + 1)) by
            unfold OwnInts
            rw [Hb.out, List.length_append, Hol1.out, List.flatMap_append, List.flatMap_singleton]
            exact hown9)
          have Hor9 := Lib.hid (OwnInts.kept (OwnInts.below Hor.out (bA (Below.refl _ _) (.cells #[.int .i64 b] 3))) hgrow9 (apart_of (fun j hj e => by simp [Value.ownBlock] at hj; injection e with e; omega)))
          have hb9 : Below w2.heap.size w2 w9 := Below.grown (bA hb _) hgrow9 (by simp; omega) (fun r hr => by injection hr with hr; have := (World.ownsRow.lt Hoo.out go rfl).1; omega)
          have hz9 := hgrow9.size
          simp only [World.size_alloc] at hz9
          have hne9 : gb9 ≠ gr := by
            rcases hat9 with h | h
            · injection h with h; omega
            · omega
          have p0 := (hb9.cell (p := ⟨gl, k, none⟩) hbb).trans HP0.out
          clear hown9 hgrow9 hat9
          go_wp2_with (at_builtin; refine wpList_append_lies _ rfl (.tmp 47) (.tmp 56) _ rfl (w2.heap.size) 3 ti _ 1 8 Try.underlying26 HIInt.out HZ0Int.out HZ1Int.out HZ2Int.out rfl (by omega) _ _ _ rfl (World.ownsRow.alloc (show w9.ownsRow w2.heap.size 3 1 (.slice (some ⟨gr, 0, none⟩) k cr) k (((Fares.rests xs m).take k).flatMap intCells) by have h := Hor9.out; unfold OwnInts at h; rwa [Hor1.out] at h) _) ⟨w9.heap.size, 0, none⟩ 1 1 (intCells r) rfl rfl ?c1 ?c2 (by omega) ?c3 ?c4 ?c5 _ rfl ?_)
          case c1 => first | exact fun _ _ h => h | exact World.news_of_block (heap_alloc_new w9 (.cells #[.int .i64 r] 3))
          case c2 => simp [intCells, Value.oneCell']
          case c3 => unfold maxLen; omega
          case c4 => omega
          case c5 => first | omega | (simp; omega) | simp
          intro gb8 cap8 w8 hown8 hgrow8 hat8 hlt8
          have hgrow8 : (w9.alloc (.cells #[.int .i64 r] 3)).grownBy w8 (some gr) := hgrow8
          have hat8 : some gr = some gb8 ∨ gb8 = w9.heap.size + 1 := hat8
          have Hr8 := Lib.hid (show OwnInts w8 w2.heap.size (.slice (some ⟨gb8, 0, none⟩) (k + 1) cap8) ((Fares.rests xs m).take (k + 1)) by
            unfold OwnInts
            rw [Hr.out, List.length_append, Hor1.out, List.flatMap_append, List.flatMap_singleton]
            exact hown8)
          have Ho8 := Lib.hid (OwnInts.kept (OwnInts.below Ho9.out (bA (Below.refl _ _) (.cells #[.int .i64 r] 3))) hgrow8 (apart_of (fun j hj e => by simp [Value.ownBlock] at hj; injection e with e; omega)))
          have hb8 : Below w2.heap.size w2 w8 := Below.grown (bA hb9 _) hgrow8 (by simp; omega) (fun r hr => by injection hr with hr; have := (World.ownsRow.lt Hor9.out gr rfl).1; omega)
          have hz8 := hgrow8.size
          simp only [World.size_alloc] at hz8
          have hne8 : gb9 ≠ gb8 := by
            rcases hat8 with h | h
            · injection h with h; omega
            · omega
          clear hown8 hgrow8 hat8
          go_wp2
          go_roundw
          case rel => exact ⟨k + 1, gb9, cap9, gb8, cap8, by omega, by go_num, rfl, rfl, by rw [Hnf.out], Ho8.out, Hr8.out, hne8, by omega, hlt8, hb8⟩
          case measure => simp [intOf]; omega
        · obtain rfl : k = 4 := by omega
          have eb : (Fares.bases xs m).take 4 = Fares.bases xs m := rfl
          have er : (Fares.rests xs m).take 4 = Fares.rests xs m := rfl
          have el : Fares.leftAfter xs m 4 = Fares.leftOf xs m := rfl
          rw [eb] at Hoo
          rw [er] at Hor
          rw [el]
          clear eb er el hlf Hol1 Hor1
          have l0 := HS.out.left0
          have l3 := HS.out.left3
          obtain ⟨lf, hlfe⟩ : ∃ lf, Fares.leftOf xs m = lf := ⟨_, rfl⟩
          rw [hlfe] at l0 l3 HT
          rw [hlfe]
          clear hlfe
          obtain ⟨ln, rfl⟩ := Int.eq_ofNat_of_zero_le l0
          rw [Int.toNat_natCast] at HT
          have hln : ln ≤ 3 := by omega
          have Hpin := Lib.hid (fun t => Fares.pick_in t (Fares.bases xs m, Fares.rests xs m) 100000 (fun v hv => by simp only [Fares.bases, List.mem_cons, List.not_mem_nil, or_false] at hv; rcases hv with rfl | rfl | rfl | rfl <;> exact HS.out.base _) (by omega) (fun v hv => by
            have h0 := HS.out.rest 0
            have h1 := HS.out.rest 1
            have h2 := HS.out.rest 2
            have h3 := HS.out.rest 3
            have hA := Hal.out
            simp only [Fares.rests, List.mem_cons, List.not_mem_nil, or_false] at hv
            rcases hv with rfl | rfl | rfl | rfl <;> omega))
          have hgo2 : w2.heap.size ≤ go := (World.ownsRow.lt Hoo.out go rfl).1
          have hgr2 : w2.heap.size ≤ gr := (World.ownsRow.lt Hor.out gr rfl).1
          have hwz := hb2.size
          go_wp2
          obtain ⟨wo, hwo⟩ : ∃ wo, wo = wr := ⟨_, rfl⟩
          subst hwo
          go_loopw [9] (fun lf wr => ∃ t : Nat, t ≤ ln ∧ lf = .int .i64 ((ln - t : Nat) : Int) ∧ OwnInts wr w2.heap.size (.slice (some ⟨go, 0, none⟩) 4 co) (Fares.pick t (Fares.bases xs m, Fares.rests xs m)).1 ∧ OwnInts wr w2.heap.size (.slice (some ⟨gr, 0, none⟩) 4 cr) (Fares.pick t (Fares.bases xs m, Fares.rests xs m)).2 ∧ Below w2.heap.size w2 wr) (fun lf _ => (intOf lf).toNat)
          case atStart => exact ⟨0, by omega, rfl, Hoo.out, Hor.out, hb⟩
          case round =>
            obtain ⟨t, htl, rfl, hoo, hor, hb⟩ := hrel
            have hpn := Fares.pick_next t (Fares.bases xs m, Fares.rests xs m)
            have hpl := Fares.pick_len t (Fares.bases xs m, Fares.rests xs m)
            have hpi := Hpin.out t
            obtain ⟨os, rs, hp⟩ : ∃ os rs, Fares.pick t (Fares.bases xs m, Fares.rests xs m) = (os, rs) := ⟨_, _, rfl⟩
            rw [hp] at hpn hpl hpi hoo hor
            dsimp only at hoo hor hpl hpi
            have Hp := Lib.hid hp; clear hp
            have Hpn := Lib.hid hpn; clear hpn
            have hosl : os.length = 4 := hpl.1
            have hrsl : rs.length = 4 := hpl.2
            have Hosl := Lib.hid hosl; clear hosl
            have Hrsl := Lib.hid hrsl; clear hrsl hpl
            have Hpi := Lib.hid hpi; clear hpi
            have Hoo := Lib.hid hoo; clear hoo
            have Hor := Lib.hid hor; clear hor
            by_cases hlt : t < ln
            · have i0 : (0 : Int) < ((ln - t : Nat) : Int) := by omega
              obtain ⟨g', cap', ev, _, hlr, _, _, hcellr, hfreer, _⟩ := own_at intCells 1 (fun _ => rfl) Hor.out (by have := Hrsl.out; omega)
              injection ev with ev1 ev2 ev3
              injection ev1 with ev1
              injection ev1 with ev1
              subst ev1
              clear ev2 ev3
              have Hcellr := Lib.hid (show ∀ k v, rs[k]? = some v → wr.cell? ⟨gr, k, none⟩ = some (.int .i64 v) from fun k v h => by have h9 := hcellr k v 0 _ h rfl; simpa using h9)
              have Hfreer := Lib.hid hfreer
              clear hcellr hfreer
              go_wp2
              obtain ⟨wi, hwi⟩ : ∃ wi, wi = wr := ⟨_, rfl⟩
              subst hwi
              go_loopw [12, 13] (fun va vi wr => ∃ j : Nat, j ≤ 3 ∧ va = .int .i64 (Fares.maxAt rs j : Nat) ∧ vi = .int .i64 ((j : Int) + 1) ∧ ∃ q, wr = wi.drewN q) (fun _ vi _ => 4 - (intOf vi).toNat)
              case atStart => exact ⟨0, by omega, rfl, rfl, 0, rfl⟩
              case round =>
                obtain ⟨j, hj3, rfl, rfl, q, rfl⟩ := hrel
                have hml := Fares.maxAt_le rs j
                obtain ⟨a, ha⟩ : ∃ a, rs[Fares.maxAt rs j]? = some a := ⟨_, List.getElem?_eq_getElem (by have := Hrsl.out; omega)⟩
                by_cases hj : j < 3
                · obtain ⟨b, hb'⟩ : ∃ b, rs[j + 1]? = some b := ⟨_, List.getElem?_eq_getElem (by have := Hrsl.out; omega)⟩
                  have p0 := Hcellr.out _ _ ha
                  have p1 := Hcellr.out _ _ hb'
                  have HY := Lib.hid (fun h => Fares.maxAt_yes ha hb' h)
                  have HN := Lib.hid (fun h => Fares.maxAt_no ha hb' h)
                  obtain ⟨ma, hma⟩ : ∃ ma, Fares.maxAt rs j = ma := ⟨_, rfl⟩
                  rw [hma] at p0 hml HN
                  rw [hma]
                  clear ha hb' hma
                  have j0 : (j : Int) + 1 < 4 := by omega
                  have j1 : (0 : Int) ≤ (j : Int) + 1 := by omega
                  have j2 : ((j : Int) + 1).toNat = j + 1 := by omega
                  have j3 : (ma : Int) < 4 := by omega
                  by_cases hab : a < b
                  · have d0 : decide (a < b) = true := decide_eq_true hab
                    have HM := Lib.hid (HY.out hab)
                    clear hab
                    go_wp2
                    go_quiet (fail)
                    go_wp2
                    go_roundw
                    case rel => exact ⟨j + 1, by omega, by rw [HM.out]; first | rfl | (push_cast; rfl), by go_num, _, rfl⟩
                    case measure => simp [intOf]; omega
                  · have d0 : decide (a < b) = false := decide_eq_false hab
                    have HM := Lib.hid (HN.out hab)
                    clear hab
                    go_wp2
                    go_quiet (fail)
                    go_wp2
                    go_roundw
                    case rel => exact ⟨j + 1, by omega, by rw [HM.out], by go_num, _, rfl⟩
                    case measure => simp [intOf]; omega
                · obtain rfl : j = 3 := by omega
                  have j0 : ¬ ((3 : Int) + 1 < 4) := by omega
                  obtain ⟨o, ho⟩ : ∃ o, os[Fares.maxAt rs 3]? = some o := ⟨_, List.getElem?_eq_getElem (by have := Hosl.out; omega)⟩
                  obtain ⟨o0, o1⟩ := Hpi.out.1 o (List.mem_of_getElem? ho)
                  have hone : Fares.pickOne (os, rs) = (os.set (Fares.maxAt rs 3) (o + 1), rs.set (Fares.maxAt rs 3) (-1)) := by
                    unfold Fares.pickOne
                    dsimp only
                    rw [List.getD_eq_getElem?_getD, ho]
                    rfl
                  have p0 := Hcellr.out _ _ ha
                  have f0 := Hfreer.out (Fares.maxAt rs 3)
                  obtain ⟨g', cap', ev, _, hlo, _, _, hcello, hfreeo, _⟩ := own_at intCells 1 (fun _ => rfl) Hoo.out (by have := Hosl.out; omega)
                  injection ev with ev1 ev2 ev3
                  injection ev1 with ev1
                  injection ev1 with ev1
                  subst ev1
                  clear ev2 ev3
                  have q0 := hcello _ _ 0 _ ho rfl
                  simp only [Nat.mul_one, Nat.add_zero] at q0
                  have g0 := hfreeo (Fares.maxAt rs 3)
                  have Hone := Lib.hid (Hpn.out.trans hone); clear hone
                  obtain ⟨ma, hma⟩ : ∃ ma, Fares.maxAt rs 3 = ma := ⟨_, rfl⟩
                  rw [hma] at p0 f0 q0 g0 hml Hone
                  rw [hma]
                  clear ha ho hma hcello hfreeo
                  have j3 : (ma : Int) < 4 := by omega
                  have j4 : (0 : Int) ≤ (ma : Int) := by omega
                  have W0 : World := wi
                  have HO1 := Lib.hid (OwnInts.put (w := wi.drewN q) (x := o + 1) (d := ma) Hoo.out Hosl.out (by have := Hosl.out; omega))
                  have HR1 := Lib.hid (World.ownsRow.kept (w := wi.drewN q) Hor.out (grown_setCell (grown_refl _ (some go)) (p := ⟨go, ma, none⟩) (.inl rfl) (.int .i64 (o + 1))) (apart_of (fun j hj e => by simp [Value.ownBlock] at hj; injection e with e; omega)))
                  have HR2 := Lib.hid (OwnInts.put (x := -1) (d := ma) HR1.out Hrsl.out (by have := Hrsl.out; omega))
                  have HO2 := Lib.hid (World.ownsRow.kept HO1.out (grown_setCell (grown_refl _ (some gr)) (p := ⟨gr, ma, none⟩) (.inl rfl) (.int .i64 (-1))) (apart_of (fun j hj e => by simp [Value.ownBlock] at hj; injection e with e; omega)))
                  have HB := Lib.hid ((bD hb q).setCell (p := ⟨go, ma, none⟩) hgo2 (.int .i64 (o + 1)) |>.setCell (p := ⟨gr, ma, none⟩) hgr2 (.int .i64 (-1)))
                  clear HR1 HO1
                  go_wp2
                  go_roundw
                  case rel => exact ⟨t + 1, by omega, by first | rfl | (congr 1; omega), by rw [Hone.out]; exact HO2.out, by rw [Hone.out]; exact HR2.out, HB.out⟩
                  case measure => simp [intOf]; omega
            · have hte : t = ln := by omega
              have HF := Lib.hid (show Fares.shareFare xs m = os by rw [HT.out, ← hte, Hp.out])
              have i0 : ((ln - t : Nat) : Int) = 0 := by omega
              rw [i0]
              go_wp2
              go_ret
              exact ⟨_, rfl, by rw [HF.out]; exact ownBase Hoo.out hwz, bT' hb2 hb⟩
    · have hno : Fares.shareFare xs m = [] := Fares.share_no (by unfold Fares.shareOk; rw [decide_eq_false hm, Bool.and_false])
      have HNO := Lib.hid hno; clear hno
      go_enter Try.func15, Try.ntmps15
      go_wp2_with fail
      refine (specvalidLegs_any A _ c xs _ hx rfl (by omega)).mono ?_
      rw [hv]
      rintro e w' ⟨rfl, rfl⟩
      go_wp2_with fail
      refine (inRange_no _ _ _ _ (by omega)).mono ?_
      rintro e w' ⟨rfl, rfl⟩
      go_wp2
      go_ret
      exact ⟨_, rfl, by rw [HNO.out]; exact OwnInts.none_ _ _, Below.refl _ _⟩
  · have hv' : Fares.validLegs xs = false := by simpa using hv
    have hno : Fares.shareFare xs m = [] := Fares.share_no (by unfold Fares.shareOk; rw [hv', Bool.false_and])
    have HNO := Lib.hid hno; clear hno
    go_enter Try.func15, Try.ntmps15
    go_wp2_with fail
    refine (specvalidLegs_any A _ c xs _ hx rfl (by omega)).mono ?_
    rw [hv']
    rintro e w' ⟨rfl, rfl⟩
    go_wp2
    go_ret
    exact ⟨_, rfl, by rw [HNO.out]; exact OwnInts.none_ _ _, Below.refl _ _⟩
end Go.Proofs.Ytgecgjndbaeahaa
