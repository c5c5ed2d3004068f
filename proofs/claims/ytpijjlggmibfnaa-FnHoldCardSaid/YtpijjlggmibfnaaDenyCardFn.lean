/-
  The model's DenyCard.
-/
import Derived.Test.YtpijjlggmibfnaaDenyCardMath
import Derived.Test.YtpijjlggmibfnaaDenyFn
import Derived.Test.YtpijjlggmibfnaaDrawSpoil
import Derived.Test.YtpijjlggmibfnaaReg
import Derived.IntWalk
set_option linter.unusedSimpArgs false
namespace Go.Proofs.Ytpijjlggmibfnaa
open Go.RowKit Go.Deep
set_option linter.unusedVariables false

set_option maxRecDepth 100000 in
set_option maxHeartbeats 1000000 in
theorem specisIn_any (A : Option Addr) (n c : Nat) (am : List Int) (q : Int) (w : World) (hx : Ints w w.heap.size A am) (hn : am.length = n) (hl : n ≤ 1000000000) :
    Calls Try.prog 79 #[.slice A n c, .int .i64 q] w fun e w' => e = .returned (.bool (Fares.isIn am q)) ∧ w = w' := by
  subst hn
  go_enter Try.func79, Try.ntmps79
  go_wp2
  go_loop [5] (fun i => ∃ k : Nat, k ≤ am.length ∧ i = .int .i64 k ∧ Hid (∀ (j : Nat) (a : Int), j < k → am[j]? = some a → a ≠ q)) (fun i => am.length - (intOf i).toNat)
  case atStart => exact ⟨0, Nat.zero_le _, rfl, Lib.hid (fun j a hj => by omega)⟩
  case round =>
    obtain ⟨k, hk, rfl, He⟩ := hrel
    by_cases hlt : k < am.length
    · obtain ⟨a, hak⟩ : ∃ a, am[k]? = some a := ⟨am[k], List.getElem?_eq_getElem hlt⟩
      obtain ⟨b1, o1, rfl, hb1, hr1⟩ := hx.row (by omega)
      have p0 := hr1 k a hak
      have Hak := Lib.hid hak; clear hak hr1
      have i0 : (0 : Int) ≤ (k : Int) := by omega
      have i1 : (k : Int) < (am.length : Int) := by omega
      by_cases ha : a = q
      · have ha' : (a == q) = true := by simpa using ha
        have Hf := Lib.hid (Fares.isIn_take Hak.out ha)
        clear ha
        go_wp2
        go_ret
        exact ⟨ret_bool Hf.out.symm, rfl⟩
      · have ha' : (a == q) = false := by simpa using ha
        have Ha := Lib.hid ha; clear ha
        go_wp2
        go_round
        case rel => exact ⟨k + 1, by omega, by go_num, Lib.hid (fun j b hj hb => by
          rcases Nat.lt_or_ge j k with h | h
          · exact He.out j b h hb
          · have e : j = k := by omega
            rw [e, Hak.out] at hb
            injection hb with hb
            rw [← hb]; exact Ha.out)⟩
        case measure => simp [intOf]; omega
    · go_wp2
      go_ret
      exact ⟨ret_bool (Fares.isIn_none (fun j a h => He.out j a (by have := (List.getElem?_eq_some_iff.1 h).1; omega) h)).symm, rfl⟩
set_option maxRecDepth 100000 in
set_option maxHeartbeats 1000000 in
theorem lawisIn_any (A : Option Addr) (n c : Nat) (am : List Int) (q : Int) (w : World) (hx : Ints w w.heap.size A am) (hn : am.length = n) (hl : n ≤ 1000000000) :
    Calls Try.prog 41 #[.slice A n c, .int .i64 q] w fun e w' => e = .returned (.bool (Fares.isIn am q)) ∧ w = w' := by
  subst hn
  go_enter Try.func41, Try.ntmps41
  go_wp2
  go_loop [5] (fun i => ∃ k : Nat, k ≤ am.length ∧ i = .int .i64 k ∧ Hid (∀ (j : Nat) (a : Int), j < k → am[j]? = some a → a ≠ q)) (fun i => am.length - (intOf i).toNat)
  case atStart => exact ⟨0, Nat.zero_le _, rfl, Lib.hid (fun j a hj => by omega)⟩
  case round =>
    obtain ⟨k, hk, rfl, He⟩ := hrel
    by_cases hlt : k < am.length
    · obtain ⟨a, hak⟩ : ∃ a, am[k]? = some a := ⟨am[k], List.getElem?_eq_getElem hlt⟩
      obtain ⟨b1, o1, rfl, hb1, hr1⟩ := hx.row (by omega)
      have p0 := hr1 k a hak
      have Hak := Lib.hid hak; clear hak hr1
      have i0 : (0 : Int) ≤ (k : Int) := by omega
      have i1 : (k : Int) < (am.length : Int) := by omega
      by_cases ha : a = q
      · have ha' : (a == q) = true := by simpa using ha
        have Hf := Lib.hid (Fares.isIn_take Hak.out ha)
        clear ha
        go_wp2
        go_ret
        exact ⟨ret_bool Hf.out.symm, rfl⟩
      · have ha' : (a == q) = false := by simpa using ha
        have Ha := Lib.hid ha; clear ha
        go_wp2
        go_round
        case rel => exact ⟨k + 1, by omega, by go_num, Lib.hid (fun j b hj hb => by
          rcases Nat.lt_or_ge j k with h | h
          · exact He.out j b h hb
          · have e : j = k := by omega
            rw [e, Hak.out] at hb
            injection hb with hb
            rw [← hb]; exact Ha.out)⟩
        case measure => simp [intOf]; omega
    · go_wp2
      go_ret
      exact ⟨ret_bool (Fares.isIn_none (fun j a h => He.out j a (by have := (List.getElem?_eq_some_iff.1 h).1; omega) h)).symm, rfl⟩
set_option maxRecDepth 100000 in
set_option maxHeartbeats 4000000 in
theorem changed_any (A : Option Addr) (n c : Nat) (am : List Int) (q : Int) (b : Bool) (w : World) (hx : Ints w w.heap.size A am) (hn : am.length = n) (hl : n ≤ 1000) :
    Calls Try.prog 114 #[.slice A n c, .int .i64 q, .bool b] w fun e w' => ∃ v, e = .returned v ∧ OwnInts w' w.heap.size v (Fares.changed am q b) ∧ Below w.heap.size w w' := by
  subst hn
  obtain ⟨ti, hi0, hz0, hz1, hz2⟩ := info_parts info_intS
  have HIInt := Lib.hid hi0; clear hi0
  have HZ0Int := Lib.hid hz0; clear hz0
  have HZ1Int := Lib.hid hz1; clear hz1
  have HZ2Int := Lib.hid hz2; clear hz2
  have Hx := Lib.hid hx; clear hx
  have Hnew := Lib.hid (World.ownsRow_lit (base := w.heap.size) (e := 3) (size := 1) w #[] 0 (Nat.le_refl _) (by unfold maxLen; omega) rfl)
  go_enter Try.func114, Try.ntmps114
  go_wp2
  go_loopw [7, 8] (fun o i wr => ∃ k : Nat, k ≤ am.length ∧ i = .int .i64 k ∧ OwnInts wr w.heap.size o (((am.take k).filter (fun x => decide (x < q)))) ∧ Below w.heap.size w wr) (fun o i _ => am.length - (intOf i).toNat)
  case atStart => exact ⟨0, Nat.zero_le _, rfl, by have h := Hnew.out; simpa [OwnInts] using h, bA (Below.refl _ _) _⟩
  case round =>
    obtain ⟨k, hk, rfl, hown, hb⟩ := hrel
    have Hown := Lib.hid hown; clear hown
    have HB := Lib.hid hb; clear hb
    have hly : (((am.take k).filter (fun x => decide (x < q)))).length ≤ 4000 := by
          have := List.length_filter_le (fun x => decide (x < q)) (am.take k)
          rw [List.length_take] at this; omega
    obtain ⟨ys, hys⟩ : ∃ ys, ys = ((am.take k).filter (fun x => decide (x < q))) := ⟨_, rfl⟩
    rw [← hys] at Hown hly
    have Hys := Lib.hid hys; clear hys
    by_cases hlt : k < am.length
    · obtain ⟨a, hak⟩ : ∃ a, am[k]? = some a := ⟨am[k], List.getElem?_eq_getElem hlt⟩
      obtain ⟨b1, o1, eA, hb1, hr1⟩ := Ints.row (readsOver Hx.out HB.out) (by omega)
      have p0 := hr1 k a hak
      have Hak := Lib.hid hak; clear hak hr1
      have i0 : (0 : Int) ≤ (k : Int) := by omega
      have i1 : (k : Int) < (am.length : Int) := by omega
      subst eA
      by_cases ha : a < q
      · have ha' : decide (a < q) = true := by simpa using ha
        have Hn := Lib.hid (Fares.filter_take_succ (fun x => decide (x < q)) Hak.out)
        have Ha := Lib.hid ha; clear ha
        have hsz1 := (HB.out).size
        go_wp2_with (at_builtin; refine wpList_append_lies _ rfl (.tmp 23) (.tmp 28) _ rfl (w.heap.size) 3 ti _ 1 8 Try.underlying28 HIInt.out HZ0Int.out HZ1Int.out HZ2Int.out rfl (by omega) _ _ _ rfl (World.ownsRow.alloc Hown.out _) ⟨wr.heap.size, 0, none⟩ 1 1 (intCells a) rfl rfl ?c1 ?c2 (by omega) ?c3 ?c4 ?c5 _ rfl ?_)
        case c1 => exact World.news_of_block (Blk.new' (t := 3) (cs := #[.int .i64 a]) (by simp))
        case c2 => simp [intCells, Value.oneCell']
        case c3 => unfold maxLen; omega
        case c4 => omega
        case c5 => first | omega | (simp; omega) | simp
        intro gb1 cap1 w1 hown1 hgrow1 hat1 hlt1
        have HX1 := Lib.hid (OwnInts.snoc hown1); clear hown1 hat1
        have HB1 := Lib.hid (Below.grown (bA HB.out _) hgrow1 (Below.size (bA HB.out _)) (fun r hr => (World.ownsRow.lt Hown.out r hr).1))
        clear HB
        clear hgrow1
        clear Hown
        go_wp2
        go_roundw
        case rel => exact ⟨k + 1, by omega, by go_num, by rw [Hn.out, if_pos (by simpa using Ha.out), ← Hys.out]; exact HX1.out, HB1.out⟩
        case measure => simp [intOf]; omega
      · have ha' : decide (a < q) = false := by simpa using ha
        have Hn := Lib.hid (Fares.filter_take_succ (fun x => decide (x < q)) Hak.out)
        have Ha := Lib.hid ha; clear ha
        go_wp2
        go_roundw
        case rel => exact ⟨k + 1, by omega, by go_num, by rw [Hn.out, if_neg (by simpa using Ha.out), List.append_nil, ← Hys.out]; exact Hown.out, HB.out⟩
        case measure => simp [intOf]; omega
    · have htk : am.take k = am := List.take_of_length_le (by omega)
      rw [htk] at Hys
      clear htk
      cases b with
      | false =>
        go_wp2
        go_loopw [7, 9] (fun o i wr => ∃ k : Nat, k ≤ am.length ∧ i = .int .i64 k ∧ OwnInts wr w.heap.size o (ys ++ (am.take k).filter (fun x => decide (q < x))) ∧ Below w.heap.size w wr) (fun o i _ => am.length - (intOf i).toNat)
        case atStart => exact ⟨0, Nat.zero_le _, rfl, by simp only [List.take_zero, List.filter_nil, List.append_nil]; exact Hown.out, HB.out⟩
        case round =>
          obtain ⟨k, hk, rfl, hown, hb⟩ := hrel
          have Hown := Lib.hid hown; clear hown
          have HB := Lib.hid hb; clear hb
          have hly : (ys ++ (am.take k).filter (fun x => decide (q < x))).length ≤ 9000 := by
                    have h1 := List.length_filter_le (fun x => decide (q < x)) (am.take k)
                    rw [List.length_take] at h1
                    rw [List.length_append]; (try rw [List.length_append, List.length_singleton]); omega
          obtain ⟨zs, hys⟩ : ∃ zs, zs = ys ++ (am.take k).filter (fun x => decide (q < x)) := ⟨_, rfl⟩
          rw [← hys] at Hown hly
          have Hys2 := Lib.hid hys; clear hys
          by_cases hlt : k < am.length
          · obtain ⟨a, hak⟩ : ∃ a, am[k]? = some a := ⟨am[k], List.getElem?_eq_getElem hlt⟩
            obtain ⟨b1, o1, eA, hb1, hr1⟩ := Ints.row (readsOver Hx.out HB.out) (by omega)
            have p0 := hr1 k a hak
            have Hak := Lib.hid hak; clear hak hr1
            have i0 : (0 : Int) ≤ (k : Int) := by omega
            have i1 : (k : Int) < (am.length : Int) := by omega
            subst eA
            by_cases ha : q < a
            · have ha' : decide (q < a) = true := by simpa using ha
              have Hn := Lib.hid (Fares.filter_take_succ (fun x => decide (q < x)) Hak.out)
              have Ha := Lib.hid ha; clear ha
              have hsz1 := (HB.out).size
              go_wp2_with (at_builtin; refine wpList_append_lies _ rfl (.tmp 47) (.tmp 52) _ rfl (w.heap.size) 3 ti _ 1 8 Try.underlying28 HIInt.out HZ0Int.out HZ1Int.out HZ2Int.out rfl (by omega) _ _ _ rfl (World.ownsRow.alloc Hown.out _) ⟨wr.heap.size, 0, none⟩ 1 1 (intCells a) rfl rfl ?c1 ?c2 (by omega) ?c3 ?c4 ?c5 _ rfl ?_)
              case c1 => exact World.news_of_block (Blk.new' (t := 3) (cs := #[.int .i64 a]) (by simp))
              case c2 => simp [intCells, Value.oneCell']
              case c3 => unfold maxLen; omega
              case c4 => omega
              case c5 => first | omega | (simp; omega) | simp
              intro gb1 cap1 w1 hown1 hgrow1 hat1 hlt1
              have HX1 := Lib.hid (OwnInts.snoc hown1); clear hown1 hat1
              have HB1 := Lib.hid (Below.grown (bA HB.out _) hgrow1 (Below.size (bA HB.out _)) (fun r hr => (World.ownsRow.lt Hown.out r hr).1))
              clear HB
              clear hgrow1
              clear Hown
              go_wp2
              go_roundw
              case rel => exact ⟨k + 1, by omega, by go_num, by rw [Hn.out, if_pos (by simpa using Ha.out), ← List.append_assoc, ← Hys2.out]; exact HX1.out, HB1.out⟩
              case measure => simp [intOf]; omega
            · have ha' : decide (q < a) = false := by simpa using ha
              have Hn := Lib.hid (Fares.filter_take_succ (fun x => decide (q < x)) Hak.out)
              have Ha := Lib.hid ha; clear ha
              go_wp2
              go_roundw
              case rel => exact ⟨k + 1, by omega, by go_num, by rw [Hn.out, if_neg (by simpa using Ha.out), List.append_nil, ← Hys2.out]; exact Hown.out, HB.out⟩
              case measure => simp [intOf]; omega
          · have htk : am.take k = am := List.take_of_length_le (by omega)
            rw [htk] at Hys2
            clear htk
            go_wp2
            go_ret
            refine ⟨_, rfl, ?_, HB.out⟩
            skip
            refine Eq.mp (congrArg (OwnInts _ _ _) (show _ = Fares.changed am q _ from by rw [Hys2.out, Hys.out]; simp [Fares.changed])) Hown.out
      | true =>
        have hsz1 := (HB.out).size
        go_wp2_with (at_builtin; refine wpList_append_lies _ rfl (.tmp 31) (.tmp 33) _ rfl (w.heap.size) 3 ti _ 1 8 Try.underlying28 HIInt.out HZ0Int.out HZ1Int.out HZ2Int.out rfl (by omega) _ _ _ rfl (World.ownsRow.alloc Hown.out _) ⟨wr.heap.size, 0, none⟩ 1 1 (intCells q) rfl rfl ?c1 ?c2 (by omega) ?c3 ?c4 ?c5 _ rfl ?_)
        case c1 => exact World.news_of_block (Blk.new' (t := 3) (cs := #[.int .i64 q]) (by simp))
        case c2 => simp [intCells, Value.oneCell']
        case c3 => unfold maxLen; omega
        case c4 => omega
        case c5 => first | omega | (simp; omega) | simp
        intro gb1 cap1 w1 hown1 hgrow1 hat1 hlt1
        have HX1 := Lib.hid (OwnInts.snoc hown1); clear hown1 hat1
        have HB1 := Lib.hid (Below.grown (bA HB.out _) hgrow1 (Below.size (bA HB.out _)) (fun r hr => (World.ownsRow.lt Hown.out r hr).1))
        clear HB
        clear hgrow1
        clear Hown
        go_wp2
        go_loopw [7, 9] (fun o i wr => ∃ k : Nat, k ≤ am.length ∧ i = .int .i64 k ∧ OwnInts wr w.heap.size o ((ys ++ [q]) ++ (am.take k).filter (fun x => decide (q < x))) ∧ Below w.heap.size w wr) (fun o i _ => am.length - (intOf i).toNat)
        case atStart => exact ⟨0, Nat.zero_le _, rfl, by simp only [List.take_zero, List.filter_nil, List.append_nil]; exact HX1.out, HB1.out⟩
        case round =>
          obtain ⟨k, hk, rfl, hown, hb⟩ := hrel
          have Hown := Lib.hid hown; clear hown
          have HB := Lib.hid hb; clear hb
          have hly : ((ys ++ [q]) ++ (am.take k).filter (fun x => decide (q < x))).length ≤ 9000 := by
                    have h1 := List.length_filter_le (fun x => decide (q < x)) (am.take k)
                    rw [List.length_take] at h1
                    rw [List.length_append]; (try rw [List.length_append, List.length_singleton]); omega
          obtain ⟨zs, hys⟩ : ∃ zs, zs = (ys ++ [q]) ++ (am.take k).filter (fun x => decide (q < x)) := ⟨_, rfl⟩
          rw [← hys] at Hown hly
          have Hys2 := Lib.hid hys; clear hys
          by_cases hlt : k < am.length
          · obtain ⟨a, hak⟩ : ∃ a, am[k]? = some a := ⟨am[k], List.getElem?_eq_getElem hlt⟩
            obtain ⟨b1, o1, eA, hb1, hr1⟩ := Ints.row (readsOver Hx.out HB.out) (by omega)
            have p0 := hr1 k a hak
            have Hak := Lib.hid hak; clear hak hr1
            have i0 : (0 : Int) ≤ (k : Int) := by omega
            have i1 : (k : Int) < (am.length : Int) := by omega
            subst eA
            by_cases ha : q < a
            · have ha' : decide (q < a) = true := by simpa using ha
              have Hn := Lib.hid (Fares.filter_take_succ (fun x => decide (q < x)) Hak.out)
              have Ha := Lib.hid ha; clear ha
              have hsz1 := (HB.out).size
              go_wp2_with (at_builtin; refine wpList_append_lies _ rfl (.tmp 47) (.tmp 52) _ rfl (w.heap.size) 3 ti _ 1 8 Try.underlying28 HIInt.out HZ0Int.out HZ1Int.out HZ2Int.out rfl (by omega) _ _ _ rfl (World.ownsRow.alloc Hown.out _) ⟨wr.heap.size, 0, none⟩ 1 1 (intCells a) rfl rfl ?c1 ?c2 (by omega) ?c3 ?c4 ?c5 _ rfl ?_)
              case c1 => exact World.news_of_block (Blk.new' (t := 3) (cs := #[.int .i64 a]) (by simp))
              case c2 => simp [intCells, Value.oneCell']
              case c3 => unfold maxLen; omega
              case c4 => omega
              case c5 => first | omega | (simp; omega) | simp
              intro gb1 cap1 w1 hown1 hgrow1 hat1 hlt1
              have HX1 := Lib.hid (OwnInts.snoc hown1); clear hown1 hat1
              have HB1 := Lib.hid (Below.grown (bA HB.out _) hgrow1 (Below.size (bA HB.out _)) (fun r hr => (World.ownsRow.lt Hown.out r hr).1))
              clear HB
              clear hgrow1
              clear Hown
              go_wp2
              go_roundw
              case rel => exact ⟨k + 1, by omega, by go_num, by rw [Hn.out, if_pos (by simpa using Ha.out), ← List.append_assoc, ← Hys2.out]; exact HX1.out, HB1.out⟩
              case measure => simp [intOf]; omega
            · have ha' : decide (q < a) = false := by simpa using ha
              have Hn := Lib.hid (Fares.filter_take_succ (fun x => decide (q < x)) Hak.out)
              have Ha := Lib.hid ha; clear ha
              go_wp2
              go_roundw
              case rel => exact ⟨k + 1, by omega, by go_num, by rw [Hn.out, if_neg (by simpa using Ha.out), List.append_nil, ← Hys2.out]; exact Hown.out, HB.out⟩
              case measure => simp [intOf]; omega
          · have htk : am.take k = am := List.take_of_length_le (by omega)
            rw [htk] at Hys2
            clear htk
            go_wp2
            go_ret
            refine ⟨_, rfl, ?_, HB.out⟩
            skip
            refine Eq.mp (congrArg (OwnInts _ _ _) (show _ = Fares.changed am q _ from by rw [Hys2.out, Hys.out]; simp [Fares.changed])) Hown.out
set_option maxRecDepth 100000 in
set_option maxHeartbeats 4000000 in
theorem specDenyCard_any (v : DenyR) (c : Int) (b : Bool) (w : World) (hi : DenyIn w w.heap.size v) (hs : DenySmall v) :
    Calls Try.prog 105 #[denyV v, .int .i64 c, .bool b] w fun e w' => (∃ u : DenyR, e = .returned (.tuple #[denyV u, .bool (Fares.denyCard v.of c b).2]) ∧ u.of = (Fares.denyCard v.of c b).1 ∧ DenyOwn w' w.heap.size u ∧ DenySmall u) ∧ Below w.heap.size w w' := by
  have hl : v.cards.length ≤ 1048576 := hs
  have Hi := Lib.hid hi; clear hi
  unfold denyV
  go_enter Try.func105, Try.ntmps105
  go_wp2_with fail
  generalize hW : World.alloc _ _ = w1
  have hp1 : Blk w1 w.heap.size 30 v.cells := by rw [← hW]; exact (Blk.new w _ _).alloc _
  have hr1 : Blk w1 (w.heap.size + 1) 30 (DenyR.cells (⟨0, none, 0, []⟩ : DenyR)) := by rw [← hW]; exact Blk.new' (by simp)
  have HB1 : Hid (Below w.heap.size w w1) := Lib.hid (by rw [← hW]; exact bA (bA (Below.refl _ _) _) _)
  have hz1 : w.heap.size + 1 < w1.heap.size := by rw [← hW]; simp
  clear hW
  have Hp1 := Lib.hid hp1; clear hp1
  have Hr1 := Lib.hid hr1; clear hr1
  refine (specvalidDeny_any v _ (Hi.out.over HB1.out) hs).mono ?_
  rintro e w2 ⟨rfl, hb2⟩
  have hz2 : w1.heap.size ≤ w2.heap.size := by have := hb2.size; (try simp at this); omega
  have HB2 := Lib.hid (bT HB1.out hb2)
  clear HB1
  have HP2 := Lib.hid (Blk.belowAll Hp1.out hb2)
  clear Hp1
  have HR2 := Lib.hid (Blk.belowAll Hr1.out hb2)
  clear Hr1
  clear hb2
  obtain ⟨cP2_0, cP2_1⟩ := denyCells (t := 30) (v := v) HP2.out
  obtain ⟨cR2_0, cR2_1⟩ := denyCells (t := 30) (v := (⟨0, none, 0, []⟩ : DenyR)) HR2.out
  have f20 := (HR2.out).free 0
  have f21 := (HR2.out).free 1
  cases hv : Fares.validDeny v.of
  · go_wp2
    generalize hW : World.setCell _ _ _ = w3
    have ht3 : Touch (fun i => i = w.heap.size + 1) w2 w3 := by rw [← hW]; exact (Touch.far (K := fun i => i = w.heap.size + 1) (Touch.far (K := fun i => i = w.heap.size + 1) (Touch.refl _ _) (p := ⟨w.heap.size + 1, 0, none⟩) rfl _) (p := ⟨w.heap.size + 1, 1, none⟩) rfl _)
    have hbx3 : Blk w3 (w.heap.size + 1) 30 (DenyR.cells (⟨0, none, 0, []⟩ : DenyR)) := by rw [← hW]; exact (Blk.put (Blk.put HR2.out 0 (.int .i64 0)) 1 (.slice none 0 0))
    clear hW
    clear cP2_0 cP2_1 cR2_0 cR2_1
    have hz3 : w2.heap.size ≤ w3.heap.size := by have := ht3.size; (try simp at this); omega
    have HB3 := Lib.hid (Touch.below HB2.out ht3 (fun i hi => by omega))
    clear HB2
    have HP3 := Lib.hid (Blk.touch HP2.out ht3 (show ¬ (w.heap.size = w.heap.size + 1) by omega))
    clear HP2
    clear ht3 HR2
    have Hbx3 := Lib.hid hbx3; clear hbx3
    have hE : Fares.denyCard v.of c b = (⟨0, []⟩, false) := by unfold Fares.denyCard; rw [if_neg (by rw [hv]; simp)]
    have hz := denyCells (t := 30) (v := (⟨0, none, 0, []⟩ : DenyR)) Hbx3.out
    obtain ⟨z0, z1⟩ := hz
    exact bodyPost_ret (v := .tuple #[denyV (⟨0, none, 0, []⟩ : DenyR), .bool false]) (by simp [results, Try.results105, go_sem, denyV, z0, z1]) rfl ⟨⟨(⟨0, none, 0, []⟩ : DenyR), by rw [hE]; rfl, by rw [hE]; rfl, ⟨World.ownsRow_nil _ _ _ _, trivial⟩, Nat.zero_le _⟩, HB3.out⟩
  · have hlen : v.cards.length ≤ 12 := by unfold Fares.validDeny at hv; rw [Bool.and_eq_true, decide_eq_true_eq] at hv; exact hv.1.2.2
    have hver : 0 ≤ v.ver ∧ v.ver ≤ 999 := by unfold Fares.validDeny at hv; rw [Bool.and_eq_true, decide_eq_true_eq] at hv; exact ⟨hv.1.1, hv.1.2.1⟩
    have Hv := Lib.hid hv; clear hv
    by_cases hc : 0 ≤ c ∧ c ≤ 99
    · go_wp2_with (go_at_call 58; first | (refine (inRange_yes _ _ _ _ (by omega) (by omega)).mono ?_; rintro e w' ⟨rfl, rfl⟩) | (refine (inRange_no _ _ _ _ (by omega)).mono ?_; rintro e w' ⟨rfl, rfl⟩))
      refine (specisIn_any v.cardsA v.cards.length v.cardsc v.cards c _ (Hi.out.over HB2.out).1 rfl (by omega)).mono ?_
      rintro e w' ⟨rfl, rfl⟩
      cases hq : (Fares.isIn v.cards c == b)
      · have Hq := Lib.hid hq
        have hcl := Fares.changed_length v.cards c b
        go_wp2
        have hwr : IntKind.i64.wrap (v.ver + 1) = v.ver + 1 := IntWalk.i64_in _ (by omega)
        clear cP2_0 cP2_1 cR2_0 cR2_1 f20 f21
        refine wp_region_held_drew (S := fun w' => w'.cell? ⟨w.heap.size, 0, none⟩ = some (.int .i64 v.ver) ∧ w'.cell? ⟨w.heap.size, 1, none⟩ = some (.slice v.cardsA v.cards.length v.cardsc)) (by kernel_rfl) (by exact denyCells (t := 30) (v := v) HP2.out) (fun hS => ?_)
        refine take_at 0 26 (v := ?_) rfl rfl (by kernel_rfl) (by kernel_rfl) (by kernel_rfl) (fun _ _ _ h => h) (by rfl) ?_ hS ?_
        rotate_left 1
        · (intro w hSw; (try dsimp only at hSw); (try go_split_ands); go_simp; try with_reducible rfl)
        simp only [List.setIfInBounds_toArray, List.set_cons_zero, List.set_cons_succ]
        refine take_at 1 27 (v := ?_) rfl rfl (by kernel_rfl) (by kernel_rfl) (by kernel_rfl) (fun _ _ _ h => h) (by rfl) ?_ hS ?_
        rotate_left 1
        · (intro w hSw; (try dsimp only at hSw); (try go_split_ands); go_simp; try with_reducible rfl)
        simp only [List.setIfInBounds_toArray, List.set_cons_zero, List.set_cons_succ]
        refine take_at 2 28 (v := ?_) rfl rfl (by kernel_rfl) (by kernel_rfl) (by kernel_rfl) (fun _ _ _ h => h) (by rfl) ?_ hS ?_
        rotate_left 1
        · (intro w hSw; (try dsimp only at hSw); (try go_split_ands); go_simp; try with_reducible rfl)
        simp only [List.setIfInBounds_toArray, List.set_cons_zero, List.set_cons_succ]
        refine take_at 3 29 (v := ?_) rfl rfl (by kernel_rfl) (by kernel_rfl) (by kernel_rfl) (fun _ _ _ h => h) (by rfl) ?_ hS ?_
        rotate_left 1
        · (intro w hSw; (try dsimp only at hSw); (try go_split_ands); go_simp; try with_reducible rfl)
        simp only [List.setIfInBounds_toArray, List.set_cons_zero, List.set_cons_succ]
        refine take_at 4 30 (v := ?_) rfl rfl (by kernel_rfl) (by kernel_rfl) (by kernel_rfl) (fun _ _ _ h => h) (by rfl) ?_ hS ?_
        rotate_left 1
        · (intro w hSw; (try dsimp only at hSw); (try go_split_ands); go_simp; try with_reducible rfl)
        simp only [List.setIfInBounds_toArray, List.set_cons_zero, List.set_cons_succ]
        refine take_at 5 31 (v := ?_) rfl rfl (by kernel_rfl) (by kernel_rfl) (by kernel_rfl) (fun _ _ _ h => h) (by rfl) ?_ hS ?_
        rotate_left 1
        · (intro w hSw; (try dsimp only at hSw); (try go_split_ands); go_simp; try with_reducible rfl)
        simp only [List.setIfInBounds_toArray, List.set_cons_zero, List.set_cons_succ]
        refine take_at 6 32 (v := ?_) rfl rfl (by kernel_rfl) (by kernel_rfl) (by kernel_rfl) (fun _ _ _ h => h) (by rfl) ?_ hS ?_
        rotate_left 1
        · (intro w hSw; (try dsimp only at hSw); (try go_split_ands); go_simp; try with_reducible rfl)
        simp only [List.setIfInBounds_toArray, List.set_cons_zero, List.set_cons_succ]
        refine wpAnyH_ready (rs := [7, 9]) (by kernel_rfl) (by simp) ?_
        refine AllReadyH.cons rfl (fun K hK => ?_) (AllReadyH.cons rfl (fun K hK => ?_) (AllReadyH.nil))
        · go_simp
          go_wp2_with fail
          refine (changed_any v.cardsA v.cards.length v.cardsc v.cards c b _ (Hi.out.over (bD1 HB2.out)).1 rfl (by omega)).mono ?_
          rintro e w3 ⟨vc, rfl, hownc, hb3⟩
          obtain ⟨Ac, cc, rfl, _, _, _⟩ := OwnInts.form hownc
          have hz3 : w2.heap.size ≤ w3.heap.size := by have := hb3.size; (try simp at this); omega
          have HB3 := Lib.hid (bT (bD1 HB2.out) hb3)
          clear HB2
          have HP3 := Lib.hid (Blk.belowAll (blkDrew HP2.out) hb3)
          clear HP2
          have HR3 := Lib.hid (Blk.belowAll (blkDrew HR2.out) hb3)
          clear HR2
          clear hb3
          have hownc' : World.ownsRow w3 (w2.heap.size) 3 1 (.slice Ac (Fares.changed v.cards c b).length cc) (Fares.changed v.cards c b).length ((Fares.changed v.cards c b).flatMap intCells) := hownc
          clear hownc
          have LTC := Lib.hid (fun k hk => (World.ownsRow.lt hownc' k hk).1)
          have UPC := Lib.hid (fun k hk => (World.ownsRow.lt hownc' k hk).2)
          have HoC := Lib.hid hownc'; clear hownc'
          go_simp
          refine hK.out _ _ (by exact denyCells (t := 30) (v := v) HP3.out) (fun hS => ?_)
          clear hK K
          refine take_at 8 34 (v := ?_) rfl rfl (by kernel_rfl) (by kernel_rfl) (by kernel_rfl) (fun _ _ _ h => h) (by rfl) ?_ hS ?_
          rotate_left 1
          · (intro w hSw; (try dsimp only at hSw); (try go_split_ands); go_simp; try with_reducible rfl)
          simp only [List.setIfInBounds_toArray, List.set_cons_zero, List.set_cons_succ]
          refine wpAnyH_ready (rs := [9]) (by kernel_rfl) (by simp) ?_
          refine AllReadyH.cons rfl (fun K hK => ?_) (AllReadyH.nil)
          go_simp
          generalize hW : World.alloc _ _ = w4
          have hbx4 : Blk w4 w3.heap.size 30 (DenyR.cells (⟨0, none, 0, []⟩ : DenyR)) := by rw [← hW]; exact Blk.new' (by simp)
          have hb4 : Below w3.heap.size w3 w4 := by rw [← hW]; exact bA (Below.refl _ _) _
          have hy4 : w3.heap.size < w4.heap.size := by rw [← hW]; simp
          clear hW
          have hz4 : w3.heap.size ≤ w4.heap.size := by have := hb4.size; (try simp at this); omega
          have HB4 := Lib.hid (bT HB3.out hb4)
          clear HB3
          have HP4 := Lib.hid (Blk.belowAll HP3.out hb4)
          clear HP3
          have HR4 := Lib.hid (Blk.belowAll HR3.out hb4)
          clear HR3
          have HC4 := Lib.hid (own_below HoC.out hb4)
          clear HoC
          clear hb4
          have Hbx4 := Lib.hid hbx4; clear hbx4
          obtain ⟨cN4_0, cN4_1⟩ := denyCells (t := 30) (v := (⟨0, none, 0, []⟩ : DenyR)) Hbx4.out
          have fn40 := (Hbx4.out).free 0
          have fn41 := (Hbx4.out).free 1
          refine hK.out _ _ (by exact denyCells (t := 30) (v := v) HP4.out) (fun hS => ?_)
          clear hK K
          refine wpAnyH_ready (rs := [10]) (by kernel_rfl) (by simp) ?_
          refine AllReadyH.cons rfl (fun K hK => ?_) (AllReadyH.nil)
          go_simp
          generalize hW : World.setCell _ _ _ = w5
          have ht5 : Touch (fun i => i = w3.heap.size) w4 w5 := by rw [← hW]; exact (Touch.far (K := fun i => i = w3.heap.size) (Touch.far (K := fun i => i = w3.heap.size) (Touch.refl _ _) (p := ⟨w3.heap.size, 0, none⟩) rfl _) (p := ⟨w3.heap.size, 1, none⟩) rfl _)
          have hbx5 : Blk w5 (w3.heap.size) 30 (DenyR.cells (⟨v.ver + 1, Ac, cc, Fares.changed v.cards c b⟩ : DenyR)) := by rw [← hW]; exact (Blk.put (Blk.put Hbx4.out 0 (.int .i64 (v.ver + 1))) 1 (.slice Ac (Fares.changed v.cards c b).length cc))
          clear hW
          clear cN4_0 cN4_1 fn40 fn41
          have hz5 : w4.heap.size ≤ w5.heap.size := by have := ht5.size; (try simp at this); omega
          have HB5 := Lib.hid (Touch.below HB4.out ht5 (fun i hi => by omega))
          clear HB4
          have HP5 := Lib.hid (Blk.touch HP4.out ht5 (show ¬ (w.heap.size = w3.heap.size) by omega))
          clear HP4
          have HR5 := Lib.hid (Blk.touch HR4.out ht5 (show ¬ (w.heap.size + 1 = w3.heap.size) by omega))
          clear HR4
          have HC5 := Lib.hid (ownTouch HC4.out ht5 (fun i hi e0 => by have a1 := LTC.out _ hi; have a2 := UPC.out _ hi; omega))
          clear HC4
          clear ht5 Hbx4
          have Hbx5 := Lib.hid hbx5; clear hbx5
          refine hK.out _ _ (by exact denyCells (t := 30) (v := v) HP5.out) (fun hS => ?_)
          clear hK K
          refine wpAnyH_done (by kernel_rfl) ?_ _
          clear hS
          obtain ⟨cN5_0, cN5_1⟩ := denyCells (t := 30) (v := (⟨v.ver + 1, Ac, cc, Fares.changed v.cards c b⟩ : DenyR)) Hbx5.out
          have hin : DenyIn w5 w5.heap.size (⟨v.ver + 1, Ac, cc, Fares.changed v.cards c b⟩ : DenyR) := ⟨OwnInts.reads'Deny HC5.out, (own_le HC5.out rfl).1, (own_le HC5.out rfl).2, own_nil_ HC5.out⟩
          have Hin := Lib.hid hin; clear hin
          go_wp2_with fail
          refine (specvalidDeny_any (⟨v.ver + 1, Ac, cc, Fares.changed v.cards c b⟩ : DenyR) _ Hin.out (show _ ≤ 1048576 by dsimp only; omega)).mono ?_
          rintro e w6 ⟨rfl, hb6⟩
          clear cN5_0 cN5_1
          have hz6 : w5.heap.size ≤ w6.heap.size := by have := hb6.size; (try simp at this); omega
          have HB6 := Lib.hid (bT HB5.out hb6)
          clear HB5
          have HP6 := Lib.hid (Blk.belowAll HP5.out hb6)
          clear HP5
          have HR6 := Lib.hid (Blk.belowAll HR5.out hb6)
          clear HR5
          have HC6 := Lib.hid (own_below HC5.out hb6)
          clear HC5
          have HN6 := Lib.hid (Blk.belowAll Hbx5.out hb6)
          clear Hbx5
          clear hb6
          obtain ⟨cN6_0, cN6_1⟩ := denyCells (t := 30) (v := (⟨v.ver + 1, Ac, cc, Fares.changed v.cards c b⟩ : DenyR)) HN6.out
          obtain ⟨cR6_0, cR6_1⟩ := denyCells (t := 30) (v := (⟨0, none, 0, []⟩ : DenyR)) HR6.out
          have f60 := (HR6.out).free 0
          have f61 := (HR6.out).free 1
          cases hw : Fares.validDeny (DenyR.of (⟨v.ver + 1, Ac, cc, Fares.changed v.cards c b⟩ : DenyR))
          · have hw' : Fares.validDeny ⟨v.ver + 1, Fares.changed v.cards c b⟩ = false := hw
            go_wp2
            generalize hW : World.setCell _ _ _ = w7
            have ht7 : Touch (fun i => i = w.heap.size + 1) w6 w7 := by rw [← hW]; exact (Touch.far (K := fun i => i = w.heap.size + 1) (Touch.far (K := fun i => i = w.heap.size + 1) (Touch.refl _ _) (p := ⟨w.heap.size + 1, 0, none⟩) rfl _) (p := ⟨w.heap.size + 1, 1, none⟩) rfl _)
            have hbx7 : Blk w7 (w.heap.size + 1) 30 (DenyR.cells (⟨0, none, 0, []⟩ : DenyR)) := by rw [← hW]; exact (Blk.put (Blk.put HR6.out 0 (.int .i64 0)) 1 (.slice none 0 0))
            clear hW
            clear cN6_0 cN6_1 cR6_0 cR6_1
            have hz7 : w6.heap.size ≤ w7.heap.size := by have := ht7.size; (try simp at this); omega
            have HB7 := Lib.hid (Touch.below HB6.out ht7 (fun i hi => by omega))
            clear HB6
            have HP7 := Lib.hid (Blk.touch HP6.out ht7 (show ¬ (w.heap.size = w.heap.size + 1) by omega))
            clear HP6
            have HC7 := Lib.hid (ownTouch HC6.out ht7 (fun i hi e0 => by have a1 := LTC.out _ hi; have a2 := UPC.out _ hi; omega))
            clear HC6
            have HN7 := Lib.hid (Blk.touch HN6.out ht7 (show ¬ (w3.heap.size = w.heap.size + 1) by omega))
            clear HN6
            clear ht7 HR6
            have Hbx7 := Lib.hid hbx7; clear hbx7
            have hE : Fares.denyCard v.of c b = (⟨0, []⟩, false) := by unfold Fares.denyCard; rw [if_neg (by show ¬ (_ && _ && _ && Fares.validDeny ⟨v.ver + 1, Fares.changed v.cards c b⟩) = true; rw [hw']; simp)]
            have hz := denyCells (t := 30) (v := (⟨0, none, 0, []⟩ : DenyR)) Hbx7.out
            obtain ⟨z0, z1⟩ := hz
            exact bodyPost_ret (v := .tuple #[denyV (⟨0, none, 0, []⟩ : DenyR), .bool false]) (by simp [results, Try.results105, go_sem, denyV, z0, z1]) rfl ⟨⟨(⟨0, none, 0, []⟩ : DenyR), by rw [hE]; rfl, by rw [hE]; rfl, ⟨World.ownsRow_nil _ _ _ _, trivial⟩, Nat.zero_le _⟩, HB7.out⟩
          · go_wp2
            generalize hW : World.setCell _ _ _ = w7
            have ht7 : Touch (fun i => i = w.heap.size + 1) w6 w7 := by rw [← hW]; exact (Touch.far (K := fun i => i = w.heap.size + 1) (Touch.far (K := fun i => i = w.heap.size + 1) (Touch.refl _ _) (p := ⟨w.heap.size + 1, 0, none⟩) rfl _) (p := ⟨w.heap.size + 1, 1, none⟩) rfl _)
            have hbx7 : Blk w7 (w.heap.size + 1) 30 (DenyR.cells (⟨v.ver + 1, Ac, cc, Fares.changed v.cards c b⟩ : DenyR)) := by rw [← hW]; exact (Blk.put (Blk.put HR6.out 0 (.int .i64 (v.ver + 1))) 1 (.slice Ac (Fares.changed v.cards c b).length cc))
            clear hW
            clear cN6_0 cN6_1 cR6_0 cR6_1
            have hz7 : w6.heap.size ≤ w7.heap.size := by have := ht7.size; (try simp at this); omega
            have HB7 := Lib.hid (Touch.below HB6.out ht7 (fun i hi => by omega))
            clear HB6
            have HP7 := Lib.hid (Blk.touch HP6.out ht7 (show ¬ (w.heap.size = w.heap.size + 1) by omega))
            clear HP6
            have HC7 := Lib.hid (ownTouch HC6.out ht7 (fun i hi e0 => by have a1 := LTC.out _ hi; have a2 := UPC.out _ hi; omega))
            clear HC6
            have HN7 := Lib.hid (Blk.touch HN6.out ht7 (show ¬ (w3.heap.size = w.heap.size + 1) by omega))
            clear HN6
            clear ht7 HR6
            have Hbx7 := Lib.hid hbx7; clear hbx7
            have hE : Fares.denyCard v.of c b = (⟨v.ver + 1, Fares.changed v.cards c b⟩, true) := by unfold Fares.denyCard; exact if_pos (show (Fares.validDeny v.of && decide (0 ≤ c ∧ c ≤ 99) && !(Fares.isIn v.cards c == b) && Fares.validDeny ⟨v.ver + 1, Fares.changed v.cards c b⟩) = true by rw [Hv.out, decide_eq_true hc, Hq.out, show Fares.validDeny ⟨v.ver + 1, Fares.changed v.cards c b⟩ = true from hw]; rfl)
            have hz := denyCells (t := 30) (v := (⟨v.ver + 1, Ac, cc, Fares.changed v.cards c b⟩ : DenyR)) Hbx7.out
            obtain ⟨z0, z1⟩ := hz
            exact bodyPost_ret (v := .tuple #[denyV (⟨v.ver + 1, Ac, cc, Fares.changed v.cards c b⟩ : DenyR), .bool true]) (by simp [results, Try.results105, go_sem, denyV, z0, z1]) rfl ⟨⟨(⟨v.ver + 1, Ac, cc, Fares.changed v.cards c b⟩ : DenyR), by rw [hE]; rfl, by rw [hE]; rfl, ⟨ownBase HC7.out (by omega), trivial⟩, show _ ≤ 1048576 by dsimp only; omega⟩, HB7.out⟩
        · go_simp
          generalize hW : World.alloc _ _ = w3
          have hbx3 : Blk w3 w2.heap.size 30 (DenyR.cells (⟨0, none, 0, []⟩ : DenyR)) := by rw [← hW]; exact Blk.new' (by simp)
          have hb3 : Below w2.heap.size w2 w3 := by rw [← hW]; exact bA (Below.refl _ _) _
          have hy3 : w2.heap.size < w3.heap.size := by rw [← hW]; simp
          clear hW
          have hz3 : w2.heap.size ≤ w3.heap.size := by have := hb3.size; (try simp at this); omega
          have HB3 := Lib.hid (bT HB2.out hb3)
          clear HB2
          have HP3 := Lib.hid (Blk.belowAll HP2.out hb3)
          clear HP2
          have HR3 := Lib.hid (Blk.belowAll HR2.out hb3)
          clear HR2
          clear hb3
          have Hbx3 := Lib.hid hbx3; clear hbx3
          obtain ⟨cN3_0, cN3_1⟩ := denyCells (t := 30) (v := (⟨0, none, 0, []⟩ : DenyR)) (blkDrew Hbx3.out)
          have fn30 := ((blkDrew Hbx3.out)).free 0
          have fn31 := ((blkDrew Hbx3.out)).free 1
          refine hK.out _ _ (by exact denyCells (t := 30) (v := v) (blkDrew HP3.out)) (fun hS => ?_)
          clear hK K
          refine wpAnyH_ready (rs := [7]) (by kernel_rfl) (by simp) ?_
          refine AllReadyH.cons rfl (fun K hK => ?_) (AllReadyH.nil)
          go_simp
          go_wp2_with fail
          refine (changed_any v.cardsA v.cards.length v.cardsc v.cards c b _ (Hi.out.over (bD1 HB3.out)).1 rfl (by omega)).mono ?_
          rintro e w4 ⟨vc, rfl, hownc, hb4⟩
          obtain ⟨Ac, cc, rfl, _, _, _⟩ := OwnInts.form hownc
          clear cN3_0 cN3_1 fn30 fn31
          have hz4 : w3.heap.size ≤ w4.heap.size := by have := hb4.size; (try simp at this); omega
          have HB4 := Lib.hid (bT (bD1 HB3.out) hb4)
          clear HB3
          have HP4 := Lib.hid (Blk.belowAll (blkDrew HP3.out) hb4)
          clear HP3
          have HR4 := Lib.hid (Blk.belowAll (blkDrew HR3.out) hb4)
          clear HR3
          have HN4 := Lib.hid (Blk.belowAll (blkDrew Hbx3.out) hb4)
          clear Hbx3
          clear hb4
          have hownc' : World.ownsRow w4 (w3.heap.size) 3 1 (.slice Ac (Fares.changed v.cards c b).length cc) (Fares.changed v.cards c b).length ((Fares.changed v.cards c b).flatMap intCells) := hownc
          clear hownc
          have LTC := Lib.hid (fun k hk => (World.ownsRow.lt hownc' k hk).1)
          have UPC := Lib.hid (fun k hk => (World.ownsRow.lt hownc' k hk).2)
          have HoC := Lib.hid hownc'; clear hownc'
          obtain ⟨cN4_0, cN4_1⟩ := denyCells (t := 30) (v := (⟨0, none, 0, []⟩ : DenyR)) HN4.out
          have fn40 := (HN4.out).free 0
          have fn41 := (HN4.out).free 1
          go_simp
          refine hK.out _ _ (by exact denyCells (t := 30) (v := v) HP4.out) (fun hS => ?_)
          clear hK K
          refine take_at 8 34 (v := ?_) rfl rfl (by kernel_rfl) (by kernel_rfl) (by kernel_rfl) (fun _ _ _ h => h) (by rfl) ?_ hS ?_
          rotate_left 1
          · (intro w hSw; (try dsimp only at hSw); (try go_split_ands); go_simp; try with_reducible rfl)
          simp only [List.setIfInBounds_toArray, List.set_cons_zero, List.set_cons_succ]
          refine wpAnyH_ready (rs := [10]) (by kernel_rfl) (by simp) ?_
          refine AllReadyH.cons rfl (fun K hK => ?_) (AllReadyH.nil)
          go_simp
          generalize hW : World.setCell _ _ _ = w5
          have ht5 : Touch (fun i => i = w2.heap.size) w4 w5 := by rw [← hW]; exact (Touch.far (K := fun i => i = w2.heap.size) (Touch.far (K := fun i => i = w2.heap.size) (Touch.refl _ _) (p := ⟨w2.heap.size, 0, none⟩) rfl _) (p := ⟨w2.heap.size, 1, none⟩) rfl _)
          have hbx5 : Blk w5 (w2.heap.size) 30 (DenyR.cells (⟨v.ver + 1, Ac, cc, Fares.changed v.cards c b⟩ : DenyR)) := by rw [← hW]; exact (Blk.put (Blk.put HN4.out 0 (.int .i64 (v.ver + 1))) 1 (.slice Ac (Fares.changed v.cards c b).length cc))
          clear hW
          clear cN4_0 cN4_1 fn40 fn41
          have hz5 : w4.heap.size ≤ w5.heap.size := by have := ht5.size; (try simp at this); omega
          have HB5 := Lib.hid (Touch.below HB4.out ht5 (fun i hi => by omega))
          clear HB4
          have HP5 := Lib.hid (Blk.touch HP4.out ht5 (show ¬ (w.heap.size = w2.heap.size) by omega))
          clear HP4
          have HR5 := Lib.hid (Blk.touch HR4.out ht5 (show ¬ (w.heap.size + 1 = w2.heap.size) by omega))
          clear HR4
          have HC5 := Lib.hid (ownTouch HoC.out ht5 (fun i hi e0 => by have a1 := LTC.out _ hi; have a2 := UPC.out _ hi; omega))
          clear HoC
          clear ht5 HN4
          have Hbx5 := Lib.hid hbx5; clear hbx5
          refine hK.out _ _ (by exact denyCells (t := 30) (v := v) HP5.out) (fun hS => ?_)
          clear hK K
          refine wpAnyH_done (by kernel_rfl) ?_ _
          clear hS
          obtain ⟨cN5_0, cN5_1⟩ := denyCells (t := 30) (v := (⟨v.ver + 1, Ac, cc, Fares.changed v.cards c b⟩ : DenyR)) Hbx5.out
          have hin : DenyIn w5 w5.heap.size (⟨v.ver + 1, Ac, cc, Fares.changed v.cards c b⟩ : DenyR) := ⟨OwnInts.reads'Deny HC5.out, (own_le HC5.out rfl).1, (own_le HC5.out rfl).2, own_nil_ HC5.out⟩
          have Hin := Lib.hid hin; clear hin
          go_wp2_with fail
          refine (specvalidDeny_any (⟨v.ver + 1, Ac, cc, Fares.changed v.cards c b⟩ : DenyR) _ Hin.out (show _ ≤ 1048576 by dsimp only; omega)).mono ?_
          rintro e w6 ⟨rfl, hb6⟩
          clear cN5_0 cN5_1
          have hz6 : w5.heap.size ≤ w6.heap.size := by have := hb6.size; (try simp at this); omega
          have HB6 := Lib.hid (bT HB5.out hb6)
          clear HB5
          have HP6 := Lib.hid (Blk.belowAll HP5.out hb6)
          clear HP5
          have HR6 := Lib.hid (Blk.belowAll HR5.out hb6)
          clear HR5
          have HC6 := Lib.hid (own_below HC5.out hb6)
          clear HC5
          have HN6 := Lib.hid (Blk.belowAll Hbx5.out hb6)
          clear Hbx5
          clear hb6
          obtain ⟨cN6_0, cN6_1⟩ := denyCells (t := 30) (v := (⟨v.ver + 1, Ac, cc, Fares.changed v.cards c b⟩ : DenyR)) HN6.out
          obtain ⟨cR6_0, cR6_1⟩ := denyCells (t := 30) (v := (⟨0, none, 0, []⟩ : DenyR)) HR6.out
          have f60 := (HR6.out).free 0
          have f61 := (HR6.out).free 1
          cases hw : Fares.validDeny (DenyR.of (⟨v.ver + 1, Ac, cc, Fares.changed v.cards c b⟩ : DenyR))
          · have hw' : Fares.validDeny ⟨v.ver + 1, Fares.changed v.cards c b⟩ = false := hw
            go_wp2
            generalize hW : World.setCell _ _ _ = w7
            have ht7 : Touch (fun i => i = w.heap.size + 1) w6 w7 := by rw [← hW]; exact (Touch.far (K := fun i => i = w.heap.size + 1) (Touch.far (K := fun i => i = w.heap.size + 1) (Touch.refl _ _) (p := ⟨w.heap.size + 1, 0, none⟩) rfl _) (p := ⟨w.heap.size + 1, 1, none⟩) rfl _)
            have hbx7 : Blk w7 (w.heap.size + 1) 30 (DenyR.cells (⟨0, none, 0, []⟩ : DenyR)) := by rw [← hW]; exact (Blk.put (Blk.put HR6.out 0 (.int .i64 0)) 1 (.slice none 0 0))
            clear hW
            clear cN6_0 cN6_1 cR6_0 cR6_1
            have hz7 : w6.heap.size ≤ w7.heap.size := by have := ht7.size; (try simp at this); omega
            have HB7 := Lib.hid (Touch.below HB6.out ht7 (fun i hi => by omega))
            clear HB6
            have HP7 := Lib.hid (Blk.touch HP6.out ht7 (show ¬ (w.heap.size = w.heap.size + 1) by omega))
            clear HP6
            have HC7 := Lib.hid (ownTouch HC6.out ht7 (fun i hi e0 => by have a1 := LTC.out _ hi; have a2 := UPC.out _ hi; omega))
            clear HC6
            have HN7 := Lib.hid (Blk.touch HN6.out ht7 (show ¬ (w2.heap.size = w.heap.size + 1) by omega))
            clear HN6
            clear ht7 HR6
            have Hbx7 := Lib.hid hbx7; clear hbx7
            have hE : Fares.denyCard v.of c b = (⟨0, []⟩, false) := by unfold Fares.denyCard; rw [if_neg (by show ¬ (_ && _ && _ && Fares.validDeny ⟨v.ver + 1, Fares.changed v.cards c b⟩) = true; rw [hw']; simp)]
            have hz := denyCells (t := 30) (v := (⟨0, none, 0, []⟩ : DenyR)) Hbx7.out
            obtain ⟨z0, z1⟩ := hz
            exact bodyPost_ret (v := .tuple #[denyV (⟨0, none, 0, []⟩ : DenyR), .bool false]) (by simp [results, Try.results105, go_sem, denyV, z0, z1]) rfl ⟨⟨(⟨0, none, 0, []⟩ : DenyR), by rw [hE]; rfl, by rw [hE]; rfl, ⟨World.ownsRow_nil _ _ _ _, trivial⟩, Nat.zero_le _⟩, HB7.out⟩
          · go_wp2
            generalize hW : World.setCell _ _ _ = w7
            have ht7 : Touch (fun i => i = w.heap.size + 1) w6 w7 := by rw [← hW]; exact (Touch.far (K := fun i => i = w.heap.size + 1) (Touch.far (K := fun i => i = w.heap.size + 1) (Touch.refl _ _) (p := ⟨w.heap.size + 1, 0, none⟩) rfl _) (p := ⟨w.heap.size + 1, 1, none⟩) rfl _)
            have hbx7 : Blk w7 (w.heap.size + 1) 30 (DenyR.cells (⟨v.ver + 1, Ac, cc, Fares.changed v.cards c b⟩ : DenyR)) := by rw [← hW]; exact (Blk.put (Blk.put HR6.out 0 (.int .i64 (v.ver + 1))) 1 (.slice Ac (Fares.changed v.cards c b).length cc))
            clear hW
            clear cN6_0 cN6_1 cR6_0 cR6_1
            have hz7 : w6.heap.size ≤ w7.heap.size := by have := ht7.size; (try simp at this); omega
            have HB7 := Lib.hid (Touch.below HB6.out ht7 (fun i hi => by omega))
            clear HB6
            have HP7 := Lib.hid (Blk.touch HP6.out ht7 (show ¬ (w.heap.size = w.heap.size + 1) by omega))
            clear HP6
            have HC7 := Lib.hid (ownTouch HC6.out ht7 (fun i hi e0 => by have a1 := LTC.out _ hi; have a2 := UPC.out _ hi; omega))
            clear HC6
            have HN7 := Lib.hid (Blk.touch HN6.out ht7 (show ¬ (w2.heap.size = w.heap.size + 1) by omega))
            clear HN6
            clear ht7 HR6
            have Hbx7 := Lib.hid hbx7; clear hbx7
            have hE : Fares.denyCard v.of c b = (⟨v.ver + 1, Fares.changed v.cards c b⟩, true) := by unfold Fares.denyCard; exact if_pos (show (Fares.validDeny v.of && decide (0 ≤ c ∧ c ≤ 99) && !(Fares.isIn v.cards c == b) && Fares.validDeny ⟨v.ver + 1, Fares.changed v.cards c b⟩) = true by rw [Hv.out, decide_eq_true hc, Hq.out, show Fares.validDeny ⟨v.ver + 1, Fares.changed v.cards c b⟩ = true from hw]; rfl)
            have hz := denyCells (t := 30) (v := (⟨v.ver + 1, Ac, cc, Fares.changed v.cards c b⟩ : DenyR)) Hbx7.out
            obtain ⟨z0, z1⟩ := hz
            exact bodyPost_ret (v := .tuple #[denyV (⟨v.ver + 1, Ac, cc, Fares.changed v.cards c b⟩ : DenyR), .bool true]) (by simp [results, Try.results105, go_sem, denyV, z0, z1]) rfl ⟨⟨(⟨v.ver + 1, Ac, cc, Fares.changed v.cards c b⟩ : DenyR), by rw [hE]; rfl, by rw [hE]; rfl, ⟨ownBase HC7.out (by omega), trivial⟩, show _ ≤ 1048576 by dsimp only; omega⟩, HB7.out⟩
      · have Hq := Lib.hid hq
        go_wp2
        generalize hW : World.setCell _ _ _ = w3
        have ht3 : Touch (fun i => i = w.heap.size + 1) w2 w3 := by rw [← hW]; exact (Touch.far (K := fun i => i = w.heap.size + 1) (Touch.far (K := fun i => i = w.heap.size + 1) (Touch.refl _ _) (p := ⟨w.heap.size + 1, 0, none⟩) rfl _) (p := ⟨w.heap.size + 1, 1, none⟩) rfl _)
        have hbx3 : Blk w3 (w.heap.size + 1) 30 (DenyR.cells (⟨0, none, 0, []⟩ : DenyR)) := by rw [← hW]; exact (Blk.put (Blk.put HR2.out 0 (.int .i64 0)) 1 (.slice none 0 0))
        clear hW
        clear cP2_0 cP2_1 cR2_0 cR2_1
        have hz3 : w2.heap.size ≤ w3.heap.size := by have := ht3.size; (try simp at this); omega
        have HB3 := Lib.hid (Touch.below HB2.out ht3 (fun i hi => by omega))
        clear HB2
        have HP3 := Lib.hid (Blk.touch HP2.out ht3 (show ¬ (w.heap.size = w.heap.size + 1) by omega))
        clear HP2
        clear ht3 HR2
        have Hbx3 := Lib.hid hbx3; clear hbx3
        have hE : Fares.denyCard v.of c b = (⟨0, []⟩, false) := by unfold Fares.denyCard; rw [if_neg (by show ¬ (_ && _ && !(Fares.isIn v.cards c == b) && _) = true; rw [Hq.out]; simp)]
        have hz := denyCells (t := 30) (v := (⟨0, none, 0, []⟩ : DenyR)) Hbx3.out
        obtain ⟨z0, z1⟩ := hz
        exact bodyPost_ret (v := .tuple #[denyV (⟨0, none, 0, []⟩ : DenyR), .bool false]) (by simp [results, Try.results105, go_sem, denyV, z0, z1]) rfl ⟨⟨(⟨0, none, 0, []⟩ : DenyR), by rw [hE]; rfl, by rw [hE]; rfl, ⟨World.ownsRow_nil _ _ _ _, trivial⟩, Nat.zero_le _⟩, HB3.out⟩
    · go_wp2_with (go_at_call 58; first | (refine (inRange_yes _ _ _ _ (by omega) (by omega)).mono ?_; rintro e w' ⟨rfl, rfl⟩) | (refine (inRange_no _ _ _ _ (by omega)).mono ?_; rintro e w' ⟨rfl, rfl⟩))
      generalize hW : World.setCell _ _ _ = w3
      have ht3 : Touch (fun i => i = w.heap.size + 1) w2 w3 := by rw [← hW]; exact (Touch.far (K := fun i => i = w.heap.size + 1) (Touch.far (K := fun i => i = w.heap.size + 1) (Touch.refl _ _) (p := ⟨w.heap.size + 1, 0, none⟩) rfl _) (p := ⟨w.heap.size + 1, 1, none⟩) rfl _)
      have hbx3 : Blk w3 (w.heap.size + 1) 30 (DenyR.cells (⟨0, none, 0, []⟩ : DenyR)) := by rw [← hW]; exact (Blk.put (Blk.put HR2.out 0 (.int .i64 0)) 1 (.slice none 0 0))
      clear hW
      clear cP2_0 cP2_1 cR2_0 cR2_1
      have hz3 : w2.heap.size ≤ w3.heap.size := by have := ht3.size; (try simp at this); omega
      have HB3 := Lib.hid (Touch.below HB2.out ht3 (fun i hi => by omega))
      clear HB2
      have HP3 := Lib.hid (Blk.touch HP2.out ht3 (show ¬ (w.heap.size = w.heap.size + 1) by omega))
      clear HP2
      clear ht3 HR2
      have Hbx3 := Lib.hid hbx3; clear hbx3
      have hE : Fares.denyCard v.of c b = (⟨0, []⟩, false) := by unfold Fares.denyCard; rw [if_neg (by rw [decide_eq_false hc]; simp)]
      have hz := denyCells (t := 30) (v := (⟨0, none, 0, []⟩ : DenyR)) Hbx3.out
      obtain ⟨z0, z1⟩ := hz
      exact bodyPost_ret (v := .tuple #[denyV (⟨0, none, 0, []⟩ : DenyR), .bool false]) (by simp [results, Try.results105, go_sem, denyV, z0, z1]) rfl ⟨⟨(⟨0, none, 0, []⟩ : DenyR), by rw [hE]; rfl, by rw [hE]; rfl, ⟨World.ownsRow_nil _ _ _ _, trivial⟩, Nat.zero_le _⟩, HB3.out⟩
end Go.Proofs.Ytpijjlggmibfnaa
