/- Arguments opened: slices of offers. -/
import Derived.Test.YtbofplofpggdlaaOpenOffer
import Derived.Test.YtbofplofpggdlaaOpenDeep
import Derived.Test.YtbofplofpggdlaaDOffer
namespace Go.Proofs.Ytbofplofpggdlaa
set_option linter.unusedVariables false
open Go.ChangeShapes Go.WideShapes Go.ChangeAt Go.RowKit Go.WideMaps Go.WideElems
open Go.Deep
theorem belOfferS {w w' : World} {v : Value} {l : List OfferD} {F B : Nat} (h : SliceAt rOffer 2 F w v l) (hb : Below B w w') (hB : w.heap.size ≤ B) : SliceAt rOffer 2 F w' v l := h.below goodOffer hb hB
theorem zeroOfferS {w : World} {v : Value} {l : List OfferD} {F : Nat} (h : SliceAt rOffer 2 F w v l) : SliceAt rOffer 2 0 w v l := h.mono goodOffer (Nat.zero_le _)
section
variable {H : Type} {enc : TypeId × Value → H} {W : World}
theorem openR_Offer {n : Nat} {cs : List Value} {x : DataW H × List MemPlace} (h : DataW.trod enc Try.prog W 0 (fun _ => true) true n 24 cs = some x) : ∃ d : OfferD, rOffer 0 W cs d ∧ okOffer d := by
  obtain ⟨d, cv, h1, h2, h3⟩ := open_Offer h
  exact ⟨d, ⟨cv, h1, sliceAt_of_flat cVersion_len h2⟩, h3⟩
set_option maxRecDepth 100000 in
theorem argS_Offer {base : Nat} {v : Value} {d : DataW H} {p : List MemPlace} (hval : Value.okWide Try.prog W .any base 39 v) (h : DataW.Trod enc Try.prog W 0 (fun _ => true) true 39 v d p) : ∃ l : List OfferD, SliceAt rOffer 2 0 W v l ∧ ∀ d ∈ l, okOffer d := by
  obtain ⟨a1, len, cap, rfl⟩ := okWide_slice Try.underlying39 hval
  obtain ⟨fuel, hf⟩ := h
  haveI : Inhabited OfferD := ⟨⟨[], 0⟩⟩
  exact open_deep goodOffer (by decide) Try.underlying39 (by kernel_rfl) (fun _ _ _ h => openR_Offer h) hf
end
end Go.Proofs.Ytbofplofpggdlaa
