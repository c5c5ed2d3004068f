/-
  Drawn arguments of PackDigits and UnpackDigits.
-/
import Derived.Test.YtieodacfkcfjeaaStByte
import Derived.Test.YtieodacfkcfjeaaDrawKit
import Derived.Test.YtieodacfkcfjeaaLiftBytes
import Derived.Test.YtieodacfkcfjeaaReg
import Derived.Deep.AppendLies
set_option linter.unusedSimpArgs false
namespace Go.Proofs.Ytieodacfkcfjeaa
open Go.RowKit Go.Deep
set_option linter.unusedVariables false

/-- A slice of at most M bytes in new memory. -/
def DrawnBytes (M : Nat) (w : World) (e : Ending) (w' : World) : Prop :=
  ∃ (A : Option Addr) (c : Nat) (ys : List Int), e = .returned (.slice A ys.length c) ∧ ys.length ≤ c ∧ c ≤ maxLen ∧ ys.length ≤ M ∧ (∀ b ∈ ys, 0 ≤ b ∧ b < 256) ∧ ByteL w' w'.heap.size A ys ∧ Below w.heap.size w w'
set_option maxRecDepth 100000 in
set_option maxHeartbeats 2000000 in
theorem drawUnpackDigits_any (A : Option Addr) (n c : Nat) (w : World) (h : Bytes w w.heap.size A n c) :
    Calls Try.prog 9 #[.slice A n c] w (DrawnBytes 5 w) := by
  obtain ⟨ti, hi0, hz0, hz1, hz2⟩ := info_parts info_byte
  have HI := Lib.hid hi0; clear hi0
  have HZ0 := Lib.hid hz0; clear hz0
  have HZ1 := Lib.hid hz1; clear hz1
  have HZ2 := Lib.hid hz2; clear hz2
  go_enter Try.func9, Try.ntmps9
  go_wp2_with fail
  refine (newReader_any A n c w h).mono ?_
  rintro e w1 ⟨rfl, hr1, hb1, hz⟩
  have HZS := Lib.hid hz; clear hz
  obtain ⟨g, hg⟩ : ∃ g, g = w.heap.size := ⟨_, rfl⟩
  rw [← hg] at hr1
  rw [← hg]
  have HG := Lib.hid hg; clear hg
  have Hb1 := Lib.hid hb1; clear hb1
  have hrlt := hr1.lt
  go_wp2_with fail
  refine (one_in g 0 (w1.heap.size + 1) [1, 2, 4, 3, 0, 5] 0 5 6 6 _ _ ((hr1.alloc _).alloc _) (by omega) (by have := Blk.new (w1.alloc (.cells #[] 5)) 3 #[.int .i64 1, .int .i64 2, .int .i64 4, .int .i64 3, .int .i64 0, .int .i64 5]; simpa using this) (by have := hr1.lt; omega) rfl rfl (by omega) (by omega) (by decide)).mono ?_
  rintro e w2 ⟨m, rfl, m0, m1, hr2, hg2⟩
  have Hown2 := Lib.hid (World.ownsRow.kept (World.ownsRow.alloc (World.ownsRow_lit (base := w1.heap.size) (e := 5) (size := 1) w1 #[] 0 (Nat.le_refl _) (by unfold maxLen; omega) rfl) _) hg2 (apart_of (fun j hj e => by simp [Value.ownBlock] at hj; injection e with e; omega)))
  have Hg2 := Lib.hid (grown_trans (grown_alloc (grown_alloc (grown_refl w1 (some g)) _) _) hg2)
  clear hg2
  obtain ⟨kn, rfl⟩ := Int.eq_ofNat_of_zero_le m0
  go_wp2
  go_loopw [4, 5] (fun v m wr => ∃ (ys : List Int) (k q : Nat), OwnBytes wr w1.heap.size v ys ∧ ys.length + k ≤ 5 ∧ m = .int .i64 k ∧ (∀ b ∈ ys, 0 ≤ b ∧ b < 256) ∧ q ≤ 1 + 4 * ys.length ∧ Rd wr g q ∧ w1.grownBy wr (some g)) (fun _ m _ => (intOf m).toNat)
  case atStart => exact ⟨[], kn, 1, Hown2.out, by simp; omega, rfl, (fun b hb => by cases hb), by simp, hr2, Hg2.out⟩
  case round =>
    obtain ⟨ys, k, q, hown, hk, rfl, hsm, hq, hrd, hg⟩ := hrel
    have Hsm := Lib.hid hsm; clear hsm
    have Hown := Lib.hid hown; clear hown
    have Hg := Lib.hid hg; clear hg
    by_cases hk0 : 0 < k
    · have hk1 : (0 : Int) < (k : Int) := by omega
      obtain ⟨k', rfl⟩ : ∃ k', k = k' + 1 := ⟨k - 1, by omega⟩
      go_wp2_with fail
      refine (pick_any g q 10 _ hrd (by omega)).mono ?_
      rintro e w3 ⟨a1, rfl, a10, a11, hr3, hg3⟩
      have a12 := a11 (by omega)
      clear a11 hrd
      have Hown3 := Lib.hid (OwnBytes.kept Hown.out hg3 (apart_of (fun j hj e => by have := (World.ownsRow.lt Hown.out j hj).1; injection e with e; omega)))
      have Hg3 := Lib.hid (grown_trans Hg.out hg3)
      clear hg3
      go_wp2_with fail
      refine (pick_any g (q + 1) 10 _ hr3 (by omega)).mono ?_
      rintro e w4 ⟨a2, rfl, a20, a21, hr4, hg4⟩
      have a22 := a21 (by omega)
      clear a21 hr3
      have Hown4 := Lib.hid (OwnBytes.kept Hown3.out hg4 (apart_of (fun j hj e => by have := (World.ownsRow.lt Hown3.out j hj).1; injection e with e; omega)))
      have Hg4 := Lib.hid (grown_trans Hg3.out hg4)
      clear hg4
      go_wp2_with fail
      refine (pick_any g (q + 1 + 1) 12 _ hr4 (by omega)).mono ?_
      rintro e w5 ⟨a3, rfl, a30, a31, hr5, hg5⟩
      have a32 := a31 (by omega)
      clear a31 hr4
      have Hown5 := Lib.hid (OwnBytes.kept Hown4.out hg5 (apart_of (fun j hj e => by have := (World.ownsRow.lt Hown4.out j hj).1; injection e with e; omega)))
      have Hg5 := Lib.hid (grown_trans Hg4.out hg5)
      clear hg5
      by_cases h0 : a3 = 0
      · subst h0
        go_wp2_with fail
        refine (pick_any g (q + 1 + 1 + 1) 256 _ hr5 (by omega)).mono ?_
        rintro e w6 ⟨a4, rfl, a40, a41, hr6, hg6⟩
        have a42 := a41 (by omega)
        clear a41 hr5
        have Hown6 := Lib.hid (OwnBytes.kept Hown5.out hg6 (apart_of (fun j hj e => by have := (World.ownsRow.lt Hown5.out j hj).1; injection e with e; omega)))
        have Hg6 := Lib.hid (grown_trans Hg5.out hg6)
        clear hg6
        go_wp2_with (at_builtin; refine wpList_append_lies _ rfl (.tmp 28) (.tmp 31) _ rfl w1.heap.size 5 ti _ 1 1 Try.underlying22 HI.out HZ0.out HZ1.out HZ2.out rfl (by omega) _ _ _ rfl (World.ownsRow.alloc Hown6.out _) ⟨w6.heap.size, 0, none⟩ 1 1 (byteCells a4) rfl rfl ?c1 ?c2 (by omega) ?c3 ?c4 ?c5 _ rfl ?_)
        case c1 => exact World.news_of_block (heap_alloc_new w6 (.cells #[.int .u8 a4] 5))
        case c2 => simp [byteCells, Value.oneCell']
        case c3 => unfold maxLen; omega
        case c4 => omega
        case c5 => have := Hg6.out.size; simp; omega
        intro gb cap w7 hown7 hgrow hat hlt4
        have Hown7 := Lib.hid (OwnBytes.snoc hown7)
        have hr7 : Rd w7 g (q + 1 + 1 + 1 + 1) := (hr6.alloc _).grown_new hgrow (fun r hr => by have := (World.ownsRow.lt Hown6.out r hr).1; omega)
        have Hg7 := Lib.hid (grown_new (grown_alloc Hg6.out _) hgrow (fun r hr => (World.ownsRow.lt Hown6.out r hr).1))
        clear hown7 hgrow hat hr6
        go_wp2
        go_roundw
        case rel => exact ⟨ys ++ [a4], k', q + 1 + 1 + 1 + 1, Hown7.out, by simp; omega, by go_num, (fun b hb => by
          rcases List.mem_append.1 hb with h | h
          · exact Hsm.out b h
          · simp at h; subst h; omega), by simp; omega, hr7, Hg7.out⟩
        case measure => simp [intOf]
      · go_wp2_with (at_builtin; refine wpList_append_lies _ rfl (.tmp 28) (.tmp 31) _ rfl w1.heap.size 5 ti _ 1 1 Try.underlying22 HI.out HZ0.out HZ1.out HZ2.out rfl (by omega) _ _ _ rfl (World.ownsRow.alloc Hown5.out _) ⟨w5.heap.size, 0, none⟩ 1 1 (byteCells (16 * a1 + a2)) rfl rfl ?c1 ?c2 (by omega) ?c3 ?c4 ?c5 _ rfl ?_)
        case c1 => exact World.news_of_block (heap_alloc_new w5 (.cells #[.int .u8 (16 * a1 + a2)] 5))
        case c2 => simp [byteCells, Value.oneCell']
        case c3 => unfold maxLen; omega
        case c4 => omega
        case c5 => have := Hg5.out.size; simp; omega
        intro gb cap w7 hown7 hgrow hat hlt4
        have Hown7 := Lib.hid (OwnBytes.snoc hown7)
        have hr7 : Rd w7 g (q + 1 + 1 + 1) := (hr5.alloc _).grown_new hgrow (fun r hr => by have := (World.ownsRow.lt Hown5.out r hr).1; omega)
        have Hg7 := Lib.hid (grown_new (grown_alloc Hg5.out _) hgrow (fun r hr => (World.ownsRow.lt Hown5.out r hr).1))
        clear hown7 hgrow hat hr5
        go_wp2
        go_roundw
        case rel => exact ⟨ys ++ [16 * a1 + a2], k', q + 1 + 1 + 1, Hown7.out, by simp; omega, by go_num, (fun b hb => by
          rcases List.mem_append.1 hb with h | h
          · exact Hsm.out b h
          · simp at h; subst h; omega), by simp; omega, hr7, Hg7.out⟩
        case measure => simp [intOf]
    · have hk1 : decide ((0 : Int) < (k : Int)) = false := decide_eq_false (by omega)
      obtain ⟨A2, c2, rfl, hc1, hc2, hrs⟩ := Hown.out.form
      have hf : Below w.heap.size w wr := by
        rw [← HG.out]
        have h1 := Hb1.out
        rw [← HG.out] at h1
        exact h1.trans (below_of_grown Hg.out (by have := HZS.out; rw [← HG.out] at this; omega) (Nat.le_refl _))
      have Hf := Lib.hid hf; clear hf
      have Hrs := Lib.hid hrs; clear hrs
      go_wp2
      go_ret
      exact ⟨A2, c2, ys, rfl, hc1, hc2, by omega, Hsm.out, Hrs.out, Hf.out⟩
end Go.Proofs.Ytieodacfkcfjeaa
