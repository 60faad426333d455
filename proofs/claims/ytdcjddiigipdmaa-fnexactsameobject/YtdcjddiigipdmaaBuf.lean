/- Byte slices that the call itself made, as lists of bytes: any program. -/
import Derived.WalkKit
import Derived.Deep.AppendLies
import Derived.Laws.IdiomStrings
namespace Go.Proofs.Ytdcjddiigipdmaa
open Go.RowKit

def byteVals (l : List UInt8) : List Value := l.map fun c => .int .u8 (c.toNat : Int)
/-- v is a slice of the call's own, its elements are the bytes l. -/
def Buf (w : World) (B : Nat) (E : TypeId) (v : Value) (l : List UInt8) : Prop := w.ownsRow B E 1 v l.length (byteVals l)

theorem Buf.put {w : World} {B : Nat} {E : TypeId} {v : Value} {l m : List UInt8} {n : Nat} (hn : n = m.length) (h : w.ownsRow B E 1 v (l.length + n) (byteVals l ++ byteVals m)) : Buf w B E v (l ++ m) := by
  subst hn
  unfold Buf byteVals
  rw [List.length_append, List.map_append]
  exact h

theorem Buf.below {w wr wx w1 : World} {B : Nat} {E : TypeId} {v : Value} {l : List UInt8} (h : Buf wr B E v l) (hb : Below B w wx) (hg : wx.grownBy w1 v.ownBlock) (hB : B ≤ wx.heap.size) : Below B w w1 :=
  hb.grown hg hB (fun k hk => (h.lt k hk).1)

theorem Buf.string {P : Program} {w : World} {B : Nat} {E : TypeId} {v : Value} {l : List UInt8} {src dst : TypeId} (hs : P.underlying src = some (.slice E)) (he : P.underlying E = some (.int .u8)) (hd : P.underlying dst = some .string)
    (h : Buf w B E v l) : (convert src dst v).run P w = .ok (.string ⟨l.toArray⟩) w := by
  rcases h.2 with ⟨hv, hn⟩ | ⟨g, cap, cur, hv, _⟩
  · obtain rfl : l = [] := List.length_eq_zero_iff.1 hn
    rw [hv]
    show (convert src dst (.slice none 0 0)).run P w = .ok (.string ⟨#[]⟩) w
    rw [run_convert_bytes_string w src dst E none 0 0 hs he hd]
    simp [Conv.bytesToString]
    rfl
  · have h' := h
    unfold Buf at h'
    rw [hv] at h' ⊢
    refine run_convert_bytes_back w src dst E _ cap l hs he hd fun j hj => ?_
    have := h'.cells (g := g) rfl j _ (List.getElem?_eq_getElem (by simpa [byteVals] using hj))
    rw [this]
    simp [byteVals]
end Go.Proofs.Ytdcjddiigipdmaa
