/-
  What is proved here: how a paragraph that is handed in looks.
-/
import Derived.Test.YtkhnfmdhdfpdhaaOpenM
namespace Go.Proofs.Ytkhnfmdhdfpdhaa
open Go.ChangeShapes Go.WideShapes Go.ChangeAt Go.RowKit

theorem str_at {H : Type} {enc : TypeId × Value → H} {W : World} {spare : Nat → Bool} {n : Nat} {cs : List Value} {x : DataW H × List MemPlace}
    (ht : DataW.trod enc Try.prog W 0 spare true n 9 cs = some x) : ∃ q : ByteArray, cs = [.string q] := by
  obtain ⟨q, e, _, _⟩ := DataW.trod_string Try.underlying9 ht
  exact ⟨q, e⟩
theorem strs_of_rec {W : World} {v : Value} {qs : List ByteArray} (h : RecAt 1 (fun t => [Value.string t]) W v qs) : StrsAt W v qs := by
  obtain ⟨a, cap, rfl, h2⟩ := h.ex
  refine ⟨⟨a, cap, rfl, ?_⟩, h.le⟩
  rcases h2 with h2 | ⟨b, o, rfl, hb, hc⟩
  · exact .inl h2
  · refine .inr ⟨b, o, rfl, hb, fun i hi => ?_⟩
    have := hc i hi 0 _ rfl
    simpa using this

end Go.Proofs.Ytkhnfmdhdfpdhaa
