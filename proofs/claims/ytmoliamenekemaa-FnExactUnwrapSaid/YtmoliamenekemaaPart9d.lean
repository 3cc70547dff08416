/- the model's l4Copy -/
import Derived.Test.YtmoliamenekemaaPart9b
import Derived.Test.YtmoliamenekemaaPart9c
namespace Go.Proofs.Ytmoliamenekemaa
open Go.RowKit
theorem l4Copy_any (v : Value) (x : PartD) (w : World) (hx : ValAt rPart 0 w v x) (hs : SmallP x) :
    Calls Try.prog 48 #[v] w fun e w' => GivesV rPart x w e w' := by
  by_cases h0 : x.fLayers.length = 0
  · obtain ⟨cs, hv, v3, v5, hcs, h3, h5⟩ := hx
    obtain ⟨sa, sc, hsv, _⟩ := sliceAt_len h5
    have hl : ∀ cs' a n c, v = .agg cs' → cs'.toList.getLast? = some (.slice a n c) → a = sa := fun cs' a n c h1 h2 => by
      rw [hv] at h1
      injection h1 with h1
      subst h1
      rw [hcs, hsv] at h2
      simp at h2
      exact h2.1.symm
    cases sa with
    | none => exact l4Copy_none v x w ⟨cs, hv, v3, v5, hcs, h3, h5⟩ hs h0 hl
    | some b => exact l4Copy_some v x w ⟨cs, hv, v3, v5, hcs, h3, h5⟩ hs h0 (fun cs' a n c h1 h2 => ⟨b, hl cs' a n c h1 h2⟩)
  · exact l4Copy_cons v x w hx hs h0
end Go.Proofs.Ytmoliamenekemaa
