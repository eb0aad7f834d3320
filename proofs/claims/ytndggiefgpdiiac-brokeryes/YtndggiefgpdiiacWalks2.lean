/- The contracts of Hold and End, and of the document's Held and Ended. -/
import Derived.Test.YtndggiefgpdiiacWalks1
namespace Go.Proofs.Ytndggiefgpdiiac
open Go.RowKit

/-- Hold's code, and what it answers. -/
def hC (v o i n : Int) : Int := if both v o i n = 0 then (if n < 0 then (if v < o - n then 5 else 0) else (if 100 < v + (i + n) then 6 else 0)) else both v o i n
def hV (v o i n : Int) : Int := if hC v o i n = 0 then v else 0
def hO (v o i n : Int) : Int := if hC v o i n = 0 then (if n < 0 then o - n else o) else 0
def hI (v o i n : Int) : Int := if hC v o i n = 0 then (if n < 0 then i else i + n) else 0

/-- End's code, and what it answers. -/
def eC (v o i n : Int) : Int := if both v o i n = 0 then (if n < 0 then (if o + n < 0 then 7 else 0) else (if i - n < 0 then 7 else 0)) else both v o i n
def eV (v o i n : Int) (d : Bool) : Int := if eC v o i n = 0 then (if d = true then v + n else v) else 0
def eO (v o i n : Int) : Int := if eC v o i n = 0 then (if n < 0 then o + n else o) else 0
def eI (v o i n : Int) : Int := if eC v o i n = 0 then (if n < 0 then i else i - n) else 0

theorem both_ok {v o i n : Int} (h : both v o i n = 0) : chk v o i = 0 ∧ dlt n = 0 := by
  unfold both at h
  split at h
  · exact ⟨‹_›, h⟩
  · exact absurd h ‹_›

end Go.Proofs.Ytndggiefgpdiiac
