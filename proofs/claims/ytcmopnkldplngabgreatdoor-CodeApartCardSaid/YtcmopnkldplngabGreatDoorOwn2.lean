/- A byte of a slice of the call's own,read and stored. And what is got of what was put,as plain laws. -/
import Derived.Test.YtcmopnkldplngabGreatDoorBs
namespace Go.Proofs.YtcmopnkldplngabGreatDoor
open Go.RowKit
theorem of_drew {w w':World} (h:Below w.drew.heap.size w.drew w'):Below w.heap.size w w':=⟨h.os,h.tape,h.output,h.size,h.block⟩
theorem below_drewN {B:Nat} {a w:World} (h:Below B a w) (k:Nat):Below B a (w.drewN k):=⟨h.os,h.tape,h.output,h.size,h.block⟩
end Go.Proofs.YtcmopnkldplngabGreatDoor
