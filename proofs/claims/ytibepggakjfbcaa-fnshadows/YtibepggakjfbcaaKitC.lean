/- maps.Keys over a map of struct keys: its iterator gives each key once, in some order. -/
import Derived.Test.YtibepggakjfbcaaKmpP
import Derived.RangeFuncGives
import Derived.RangeFuncStops
import Derived.Shelf.AbstractIn
import Derived.RangeFuncSeq
import Derived.Sort.MapsRangeIn
import Derived.Sort.KeysCollected
import Derived.WalkKit
import Derived.OwnWalkIn
import Derived.TacticsInMore
import Derived.RegionIn
import Derived.LoopNIn
import Derived.LoopIn
namespace Go.Proofs.Ytibepggakjfbcaa
open Go Go.RowKit Go.Maps
set_option linter.unusedVariables false
attribute [local go_sem] Oper.semAt_some

/-- The keys met so far: none twice; those that the map has and that are no longer to come. -/
def CollK {H : Type} (D0 : DataW H) (left : Lit → Bool) (ss : List (Int × Int)) : Prop := ss.Nodup ∧ (∀ x ∈ ss, wfK x) ∧ ∀ x, wfK x → (x ∈ ss ↔ (has D0 (klK x) = true ∧ left (klK x) = false))
/-- All of them. -/
def AllK {H : Type} (D0 : DataW H) (ss : List (Int × Int)) : Prop := ss.Nodup ∧ (∀ x ∈ ss, wfK x) ∧ ∀ x, wfK x → (x ∈ ss ↔ has D0 (klK x) = true)
section
variable {H : Type} {D0 : DataW H} {left : Lit → Bool} {ss : List (Int × Int)}
theorem CollK.start (D0 : DataW H) : CollK D0 (has D0) [] := ⟨List.nodup_nil, by simp, fun x _ => by cases has D0 (klK x) <;> simp⟩
theorem sameKey_klK {x y : Int × Int} (hx : wfK x) (hy : wfK y) : (klK y).sameKey (klK x) = decide (y = x) := by
  by_cases e : y = x
  · subst e
    rw [decide_eq_true rfl]
    simp [klK, Lit.sameKey]
  · rw [decide_eq_false e]
    have h : klK y ≠ klK x := fun h => e (klK_inj hy hx h)
    unfold klK at h ⊢
    simp only [Lit.sameKey]
    rw [beq_eq_false_iff_ne]
    intro h'
    exact h (by rw [h'])
theorem CollK.step (h : CollK D0 left ss) {x : Int × Int} {y : DataW H} (hx : wfK x) (hlk : left (klK x) = true) (hat : ∀ zd, D0.atKey (klK x) zd = y) : CollK D0 (fun z => left z && !z.sameKey (klK x)) (ss ++ [x]) := by
  have hhas : has D0 (klK x) = true := has_true_of_atKey hat
  have hnew : x ∉ ss := fun hm => by have := ((h.2.2 x hx).1 hm).2; rw [hlk] at this; cases this
  refine ⟨List.nodup_append.2 ⟨h.1, by simp, fun a ha b hb => by simp at hb; subst hb; exact fun e => hnew (e ▸ ha)⟩, fun y hy => ?_, fun y hy => ?_⟩
  · rcases List.mem_append.1 hy with h' | h'
    · exact h.2.1 y h'
    · simp at h'; subst h'; exact hx
  · show _ ↔ _ ∧ (left (klK y) && !(klK y).sameKey (klK x)) = false
    rw [sameKey_klK hx hy]
    by_cases e : y = x
    · subst e; simp [hhas]
    · simp [h.2.2 y hy, e]
theorem CollK.all (h : CollK D0 left ss) (hl : ∀ kl, left kl = false) : AllK D0 ss := ⟨h.1, h.2.1, fun x hx => by rw [h.2.2 x hx, hl]; simp⟩
end

set_option maxRecDepth 100000 in
set_option maxHeartbeats 2000000 in
theorem keys1K {H : Type} (F : Fence) (n : Nat) (h10 : F.fn 55) (hro : F.round = none) (hn : 1 ≤ n) (l Bm b nn : Nat) (D0 : DataW H) {R : Value → Option (DataW H × List MemPlace)} (J : List (Int × Int) → World → Prop)
    (hY : ∀ pre x W, J pre W → pre.length < Maps.size D0 → YieldAt F (n - 1) Try.prog l #[kA x] W fun e W' => e = .returned (.bool true) ∧ J (pre ++ [x]) W' ∧ KeepsWalks W W')
    (W : World) (hJ : AbidesFrom W.heap.size J) (hm : W.cell? ⟨Bm, 0, none⟩ = some (.map (some b))) (hown : W.ownsMap Try.prog 51 R b nn D0) (h0 : J [] W) :
    CallsIn F n Try.prog 55 #[.func (.yield l) #[] #[], .pointer (some ⟨Bm, 0, none⟩)] W fun e W' => (∃ v, e = .returned v) ∧ ∃ ss : List (Int × Int), AllK D0 ss ∧ J ss W' := by
  refine callsIn_of_wp Try.func55 rfl h10 ?_ hro
  simp only [Try.ntmps55, List.size_toArray, List.length_cons, List.length_nil, Nat.reduceAdd, Nat.reduceSub, Array.replicate_succ, Array.replicate_zero, List.push_toArray, List.append_toArray, List.nil_append, List.cons_append]
  have HY : Hid (∀ pre x W, J pre W → _) := hY
  clear hY
  gi_wp2_with (first
    | (gi_at_range; refine wpListIn_range_own _ rfl _ 46 rfl 51 3 keyLawK Try.underlying46 _ b nn _ rfl hown ?_; intro w0 hrg0 hg0 hs0)
    | gi_in)
  go_frame
  gi_loopw [3] (fun _ wr => ∃ (left : Lit → Bool) (cnt : Nat) (ss : List (Int × Int)), wr.ranges Try.prog 51 R b W.heap.size nn D0 left cnt ∧ ss.length + cnt ≤ Maps.size D0 ∧ CollK D0 left ss ∧ J ss wr)
    (fun _ wr => wr.rangeLeft b W.heap.size)
  case atStart =>
    exact ⟨_, _, [], hrg0, by simp, CollK.start D0, hJ [] W w0 none h0 hg0 (fun r e => by cases e)⟩
  case round =>
    obtain ⟨left, cnt, ss, hrg, hcs, hC, hJs⟩ := hrel
    gi_wp2_with (first
      | (gi_at_next; refine wpListIn_next_ranges _ rfl _ rfl 51 keyLawK R kA id (fun key kl hk => by obtain ⟨x, hx, _⟩ := keyK_inv hk; exact ⟨x, hx⟩) (fun v _ _ => ⟨v, rfl⟩) b W.heap.size nn _ _ _ rfl hrg ?_ ?_)
      | gi_in)
    · intro hc0 hl0
      gi_wp2
      go_end0
      exact ⟨⟨_, rfl⟩, ss, hC.all hl0, hJs⟩
    · intro xa xb c kl yd yp w2 cnt2 hkey hlk hv hat hrg2 hlt hg2 hs2 hen
      obtain ⟨x, ex, rfl, hwx⟩ := keyK_inv hkey
      obtain ⟨rfl, rfl⟩ : xa = x.1 ∧ xb = x.2 := by simpa using ex
      have hJ2 : J ss w2 := hJ ss wr w2 (some W.heap.size) hJs hg2 (fun r e => by cases e; exact ⟨Nat.le_refl _, hrg.iter_walk⟩)
      obtain ⟨w3, hw3⟩ : ∃ w3, w2.alloc (.cells #[.int .i64 x.1, .int .i64 x.2] 51) = w3 := ⟨_, rfl⟩
      have f0 : w3.cell? ⟨w2.heap.size, 0, none⟩ = some (.int .i64 x.1) := by rw [← hw3]; simp
      have f1 : w3.cell? ⟨w2.heap.size, 1, none⟩ = some (.int .i64 x.2) := by rw [← hw3]; simp
      have hg3 : w2.grownBy w3 none := by rw [← hw3]; exact World.grownBy_alloc _ _ _
      have hJ3 : J ss w3 := hJ ss w2 w3 none hJ2 hg3 (fun r e => by cases e)
      have hrg3 := hrg2.kept hg3 (by simp) (by simp)
      obtain ⟨fn, tmps, assign, body, hy, hR⟩ := HY.out ss x w3 hJ3 (by omega)
      clear hs2
      gi_wp2
      refine hR.mono ?_
      rintro e W3 ⟨rfl, hJ4, hk3⟩
      gi_wp2
      have hrg4 := hrg3.of_walks hk3
      go_roundw
      case rel => exact ⟨_, cnt2, ss ++ [x], hrg4, by simp; omega, hC.step hwx hlk hat, hJ4⟩
      case measure => rw [hrg4.left_eq, hrg.left_eq]; exact hlt

/-- maps.Keys(m) hands back an iterator over m's keys. -/
theorem keysGive {H : Type} (F : Fence) (n : Nat) (h10 : F.fn 55) (hro : F.round = none) (hn : 1 ≤ n) (Bm b nn : Nat) (D0 : DataW H) {R : Value → Option (DataW H × List MemPlace)} (w : World) (hBm : Bm < w.heap.size)
    (hm : w.cell? ⟨Bm, 0, none⟩ = some (.map (some b))) (hown : w.ownsMap Try.prog 51 R b nn D0) :
    SeqGives F n Try.prog 55 #[.pointer (some ⟨Bm, 0, none⟩)] kA (AllK D0) (Maps.size D0) w := fun l J W hW hJ hY h0 => by
  have hown' : W.ownsMap Try.prog 51 R b nn D0 := by
    have hbl := hown.lt
    obtain ⟨es, clock, hb, Ft, hs, hD⟩ := hown
    exact ⟨es, clock, (hW.block b hbl).trans hb, Ft, hs, hD⟩
  exact keys1K F n h10 hro hn l Bm b nn D0 J hY W hJ ((hW.cell (p := ⟨Bm, 0, none⟩) hBm).trans hm) hown' h0
set_option maxHeartbeats 1000000 in
/-- maps.Keys(m): the map is boxed; the function value captures the box. -/
theorem keysMk (mb : Option Nat) (w : World) :
    Calls Try.prog 42 #[.map mb] w fun e w' => e = .returned (.func (.func 55) #[] #[.pointer (some ⟨w.heap.size, 0, none⟩)]) ∧ w' = w.alloc (.cells #[.map mb] 46) := by
  go_enter Try.func42, Try.ntmps42
  go_wp2
  go_ret
  exact ⟨rfl, rfl⟩
end Go.Proofs.Ytibepggakjfbcaa
