/-
  One number of an owned row is stored anew.
-/
import Derived.Test.YtgecgjndbaeahaaStInt
import Derived.Test.YtgecgjndbaeahaaOwnCell
set_option linter.unusedSimpArgs false
namespace Go.Proofs.Ytgecgjndbaeahaa
open Go.RowKit Go.Deep
set_option linter.unusedVariables false

theorem OwnInts.put {w : World} {base g n cap d : Nat} {x : Int} {ys : List Int} (h : OwnInts w base (.slice (some ⟨g, 0, none⟩) n cap) ys) (hn : ys.length = n) (hd : d < ys.length) :
    OwnInts (w.setCell ⟨g, d, none⟩ (.int .i64 x)) base (.slice (some ⟨g, 0, none⟩) n cap) (ys.set d x) := by
  subst hn
  unfold OwnInts at h ⊢
  rw [List.length_set]
  have h1 := own_setCell (.int .i64 x) h (i := d) (by rw [flat_ints, List.length_map]; exact hd)
  rw [flat_ints] at h1 ⊢
  rwa [List.map_set]
end Go.Proofs.Ytgecgjndbaeahaa
