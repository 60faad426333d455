/- Contracts of both BytesOf at every text. -/
import Derived.Test.YtogdaiilhiidgaaUnhexI
namespace Go.Proofs.Ytogdaiilhiidgaa
open Go.RowKit
set_option linter.unusedVariables false

/-- What both BytesOf answer: bytes and a code. -/
def unO (s : ByteArray) : List UInt8 := if 65536 < s.size then [] else resO s
def unC (s : ByteArray) : Int := if 65536 < s.size then 2 else resC s
theorem un_long {s : ByteArray} (h : 65536 < s.size) : unO s = [] ∧ unC s = 2 := by simp [unO, unC, h]
theorem un_short {s : ByteArray} (h : ¬ 65536 < s.size) : unO s = resO s ∧ unC s = resC s := by simp only [unO, unC, if_neg h, and_self]

theorem implBytesT (s : ByteArray) (w : World) (hs : s.size ≤ maxLen) :
    Calls Try.prog 14 #[.string s] w fun e w' => e = .returned (.tuple #[.string ⟨(unO s).toArray⟩, .int .i64 (unC s)]) ∧ Below w.heap.size w w' := by
  unfold maxLen at hs
  by_cases h : 65536 < s.size
  · rw [(un_long h).1, (un_long h).2]
    go_enter Try.func14, Try.ntmps14
    go_wp2
    go_ret2
    exact ⟨rfl, Below.refl _ _⟩
  · rw [(un_short h).1, (un_short h).2]
    exact implBytes0 s w (by omega)

theorem specBytesT (s : ByteArray) (w : World) (hs : s.size ≤ maxLen) :
    Calls Try.prog 18 #[.string s] w fun e w' => e = .returned (.tuple #[.string ⟨(unO s).toArray⟩, .int .i64 (unC s)]) ∧ Below w.heap.size w w' := by
  unfold maxLen at hs
  by_cases h : 65536 < s.size
  · rw [(un_long h).1, (un_long h).2]
    go_enter Try.func18, Try.ntmps18
    go_wp2
    go_ret2
    exact ⟨rfl, Below.refl _ _⟩
  · rw [(un_short h).1, (un_short h).2]
    have hc0 : resK s = true → resC s = 0 := fun e => by unfold resK at e; simp [resC, e]
    have hc1 : resK s = false → resC s = 3 ∧ resO s = [] := fun e => by
      unfold resK at e
      have : resB s = none := by simpa using e
      exact ⟨resC_none this, (resO_none this).1⟩
    go_enter Try.func18, Try.ntmps18
    go_wp2_with fail
    refine (specBytes0 _ _ (by omega)).mono ?_
    rintro e w' ⟨rfl, hb⟩
    cases hk : resK s with
    | true =>
      have e0 := hc0 hk
      clear hc0 hc1
      go_wp2
      go_ret2
      exact ⟨ret_code rfl e0.symm, hb⟩
    | false =>
      have e0 := hc1 hk
      clear hc0 hc1
      go_wp2
      go_ret2
      exact ⟨(ret_code e0.2 e0.1).symm, hb⟩
end Go.Proofs.Ytogdaiilhiidgaa
