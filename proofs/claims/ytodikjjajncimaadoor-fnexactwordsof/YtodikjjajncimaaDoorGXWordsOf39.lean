/- A list of instructions that came in, copied: toInstrS. A struct of five ints, by value, that comes in: opened and shut. A list of structs of five ints that comes in: opened. -/
import Derived.Test.YtodikjjajncimaaDoorGXWordsOf26
import Derived.Test.YtodikjjajncimaaDoorGXWordsOf37
import Derived.Test.YtodikjjajncimaaDoorGXWordsOf38
import Derived.ChangeArms
import Derived.Deep.Slices
import Derived.Deep.Fields
import Derived.ChangeSame
import Derived.WideShapes
import Derived.OpenShut
import Derived.WalkKit
namespace Go.Proofs.YtodikjjajncimaaDoor
open Go Go.RowKit
set_option linter.unusedVariables false
theorem Tryd.info_ins : (Tryd.prog.info? 24).map (fun i => (i.zero, i.size, i.bytes)) = some (some (.agg #[.int .i64 0, .int .i64 0, .int .i64 0, .int .i64 0, .int .i64 0]), 5, 40) := by kernel_rfl

theorem put5 {cur : Array Value} {R : Nat → Int} {n k : Nat} (hs : cur.size = n * 5) (hk : k < n) (hc : ∀ i, i < k * 5 → cur[i]? = some (.int .i64 (R i))) :
    (cur.toList.take (k * 5) ++ [Value.int .i64 (R (k * 5)), .int .i64 (R (k * 5 + 1)), .int .i64 (R (k * 5 + 2)), .int .i64 (R (k * 5 + 3)), .int .i64 (R (k * 5 + 4))] ++ cur.toList.drop (k * 5 + 5)).toArray.size = n * 5 ∧
    ∀ i, i < (k + 1) * 5 → (cur.toList.take (k * 5) ++ [Value.int .i64 (R (k * 5)), .int .i64 (R (k * 5 + 1)), .int .i64 (R (k * 5 + 2)), .int .i64 (R (k * 5 + 3)), .int .i64 (R (k * 5 + 4))] ++ cur.toList.drop (k * 5 + 5)).toArray[i]? = some (.int .i64 (R i)) := by
  have hl : cur.toList.length = n * 5 := by simpa using hs
  refine ⟨by simp; omega, fun i hi => ?_⟩
  rw [List.getElem?_toArray, List.append_assoc]
  by_cases h : i < k * 5
  · rw [List.getElem?_append_left (by rw [List.length_take]; omega), List.getElem?_take, if_pos h]
    have := hc i h
    rw [Array.getElem?_toList]
    exact this
  · rw [List.getElem?_append_right (by rw [List.length_take]; omega), List.length_take, Nat.min_eq_left (by omega)]
    have : i = k * 5 ∨ i = k * 5 + 1 ∨ i = k * 5 + 2 ∨ i = k * 5 + 3 ∨ i = k * 5 + 4 := by omega
    rcases this with rfl | rfl | rfl | rfl | rfl
    · rw [Nat.sub_self]; rfl
    · rw [Nat.add_sub_cancel_left]; rfl
    · rw [Nat.add_sub_cancel_left]; rfl
    · rw [Nat.add_sub_cancel_left]; rfl
    · rw [Nat.add_sub_cancel_left]; rfl

set_option maxRecDepth 100000 in
set_option maxHeartbeats 2000000 in
theorem toList (p : Option Addr) (n c : Nat) (R : Nat → Int) (w : World) (hn : n ≤ 1048576) (hp : ListAt w p n R) :
    Calls Tryd.prog 19 #[.slice p n c] w fun e w' => ∃ g, e = .returned (.slice (some ⟨g, 0, none⟩) n n) ∧ Below w.heap.size w w' ∧ w.heap.size ≤ g ∧ g < w'.heap.size ∧ Flat w' g 0 (n * 5) R := by
  obtain ⟨i0, hi, hz0, hz1, hz2⟩ := info_parts Tryd.info_ins
  go_enter Tryd.func19, Tryd.ntmps19
  go_wp2_with (at_make; refine wpList_make_full _ rfl _ _ 39 rfl w.heap.size 24 i0 _ 5 Tryd.underlying39 hi hz0 hz1 .i64 .i64 _ _ n rfl rfl (by omega) (by omega) (by rw [hz2]; omega) (by unfold maxLen; omega) (Nat.le_refl _) ?_; intro wm hm hgm)
  go_loopw [4] (fun i wr => ∃ k : Nat, k ≤ n ∧ i = .int .i64 k ∧ Below w.heap.size w wr ∧ ∃ cur, Lies wr w.heap.size 24 cur ∧ cur.size = n * 5 ∧ ∀ i, i < k * 5 → cur[i]? = some (.int .i64 (R i))) (fun i _ => n - (intOf i).toNat)
  case atStart =>
    rcases hm.2 with ⟨hv, _⟩ | ⟨g, cap, cur, hv, _, hg, _, _, hcs, _⟩
    · cases hv
    · obtain ⟨rfl, rfl⟩ : w.heap.size = g ∧ n = cap := by simpa using hv
      exact ⟨0, Nat.zero_le _, rfl, (Below.refl _ _).grown hgm (Nat.le_refl _) (fun _ h => by cases h), cur, hg, hcs, fun i hi => absurd hi (by omega)⟩
  case round =>
    obtain ⟨k, hk, rfl, hB, cur, hl, hs, hc⟩ := hrel
    by_cases hlt : k < n
    · rcases hp with hp | ⟨b, o, rfl, hb, hp⟩
      · omega
      have hx := hp.below hB hb
      have x0 := hx.at5 hlt 0 (by omega)
      have x1 := hx.at5 hlt 1 (by omega)
      have x2 := hx.at5 hlt 2 (by omega)
      have x3 := hx.at5 hlt 3 (by omega)
      have x4 := hx.at5 hlt 4 (by omega)
      simp only [Nat.add_zero] at x0
      have hput := put5 (R := R) hs hlt hc
      obtain ⟨new, hnew⟩ : ∃ new, (cur.toList.take (k * 5) ++ [Value.int .i64 (R (k * 5)), .int .i64 (R (k * 5 + 1)), .int .i64 (R (k * 5 + 2)), .int .i64 (R (k * 5 + 3)), .int .i64 (R (k * 5 + 4))] ++ cur.toList.drop (k * 5 + 5)).toArray = new := ⟨_, rfl⟩
      rw [hnew] at hput
      have HN : Hid (_ = new) := hnew
      clear hnew
      clear hp hx
      go_wp2_with fail
      refine (toInstrC _ _ _ _ _ _).mono ?_
      rintro e w1 ⟨rfl, hb1⟩
      have l1 := hl.below hb1 hl.lt
      have B1 := hB.trans (hb1.mono hB.size)
      have s1 := hB.size
      clear hb1 hl x0 x1 x2 x3 x4 hB
      have hi' : (Tryd.prog.info? 24).map (·.size) = some (#[Value.int .i64 (R (k * 5)), .int .i64 (R (k * 5 + 1)), .int .i64 (R (k * 5 + 2)), .int .i64 (R (k * 5 + 3)), .int .i64 (R (k * 5 + 4))] : Array Value).size := by rw [hi]; simp [hz1]
      go_wp2_with (refine wpList_store_part rfl 24 (.tmp 21) (.tmp 20) rfl w.heap.size (k * 5) #[.int .i64 (R (k * 5)), .int .i64 (R (k * 5 + 1)), .int .i64 (R (k * 5 + 2)), .int .i64 (R (k * 5 + 3)), .int .i64 (R (k * 5 + 4))] rfl rfl _ _ l1 hi' (by simp; omega) (by simp [Value.oneCell']) new HN.out ?_)
      have l2 := l1.set new
      go_roundw
      case rel => exact ⟨k + 1, by omega, by go_num, below_setRow B1 (Nat.le_refl _) _, _, l2, hput.1, hput.2⟩
      case measure => simp [intOf]; omega
    · obtain rfl : k = n := by omega
      have hlt := hl.lt
      go_wp2
      go_ret
      exact ⟨_, rfl, hB, Nat.le_refl _, hlt, fun i hi => ⟨by rw [Nat.zero_add]; exact hl.cell (hc i hi), hl.fro _⟩⟩

theorem szNo (p : Option Addr) (n c : Nat) (w : World) (hn : 1048576 < n) (hm : n ≤ 9223372036854775807) :
    Calls Tryd.prog 17 #[.slice p n c, .int .i64 1048576] w fun e w' => e = .returned (.int .i64 (-1)) ∧ w' = w := by
  go_enter Tryd.func17, Tryd.ntmps17
  go_wp2
  go_ret
  exact ⟨rfl, rfl⟩
theorem szYes (p : Option Addr) (n c : Nat) (w : World) (hn : n ≤ 1048576) :
    Calls Tryd.prog 17 #[.slice p n c, .int .i64 1048576] w fun e w' => e = .returned (.int .i64 (1048576 - n)) ∧ w' = w := by
  go_enter Tryd.func17, Tryd.ntmps17
  go_wp2
  go_ret
  exact ⟨rfl, rfl⟩
end Go.Proofs.YtodikjjajncimaaDoor

namespace Go.Proofs.YtodikjjajncimaaDoor
open Go Go.RowKit Go.ChangeShapes Go.WideShapes Go.Deep
set_option linter.unusedVariables false
section
variable {H : Type} {enc : TypeId × Value → H} {P : Program} {w : World} {base : Nat} {spare : Nat → Bool} {held : Bool}

theorem array5 {α : Type} {cs : Array α} (h : cs.size = 5) : ∃ c0 c1 c2 c3 c4, cs = #[c0, c1, c2, c3, c4] := by
  obtain ⟨l⟩ := cs
  match l, h with
  | [c0, c1, c2, c3, c4], _ => exact ⟨c0, c1, c2, c3, c4, rfl⟩

theorem trod_five {t : TypeId} {f0 f1 f2 f3 f4 : Field} {fuel : Nat} {cs : List Value} {x : DataW H × List MemPlace} (ht : P.underlying t = some (.struct #[f0, f1, f2, f3, f4])) (h : DataW.trod enc P w base spare held fuel t cs = some x) :
    ∃ y0 y1 y2 y3 y4 n, x = (.agg [y0.1, y1.1, y2.1, y3.1, y4.1], y0.2 ++ (y1.2 ++ (y2.2 ++ (y3.2 ++ y4.2)))) ∧ cs.length = P.cellsOf t ∧ DataW.trod enc P w base spare held n f0.type ((cs.drop f0.offset).take (P.cellsOf f0.type)) = some y0 ∧
      DataW.trod enc P w base spare held n f1.type ((cs.drop f1.offset).take (P.cellsOf f1.type)) = some y1 ∧ DataW.trod enc P w base spare held n f2.type ((cs.drop f2.offset).take (P.cellsOf f2.type)) = some y2 ∧
      DataW.trod enc P w base spare held n f3.type ((cs.drop f3.offset).take (P.cellsOf f3.type)) = some y3 ∧ DataW.trod enc P w base spare held n f4.type ((cs.drop f4.offset).take (P.cellsOf f4.type)) = some y4 := by
  obtain ⟨xs, n, _, rfl, hl, hlen, hf⟩ := DataW.trod_struct ht h
  match xs, hlen with
  | [y0, y1, y2, y3, y4], _ => exact ⟨y0, y1, y2, y3, y4, n, by simp, hl, by simpa using hf 0 f0 rfl, by simpa using hf 1 f1 rfl, by simpa using hf 2 f2 rfl, by simpa using hf 3 f3 rfl, by simpa using hf 4 f4 rfl⟩

theorem open_five {r : Reach} {b0 : Nat} {t : TypeId} {f0 f1 f2 f3 f4 : Field} {v : Value} {d : DataW H} {p : List MemPlace} (hs : P.underlying t = some (.struct #[f0, f1, f2, f3, f4])) (hone : oneCellFields P #[f0, f1, f2, f3, f4] = true) (hC : P.cellsOf t = 5)
    (u0 : P.underlying f0.type = some (.int .i64)) (u1 : P.underlying f1.type = some (.int .i64)) (u2 : P.underlying f2.type = some (.int .i64)) (u3 : P.underlying f3.type = some (.int .i64)) (u4 : P.underlying f4.type = some (.int .i64))
    (hv : Value.okWide P w r b0 t v) (h : DataW.Trod enc P w base spare held t v d p) :
    ∃ a0 a1 a2 a3 a4 : Int, v = .agg #[.int .i64 a0, .int .i64 a1, .int .i64 a2, .int .i64 a3, .int .i64 a4] ∧ d = .agg [.lit (.int .i64 a0), .lit (.int .i64 a1), .lit (.int .i64 a2), .lit (.int .i64 a3), .lit (.int .i64 a4)] ∧ p = [] ∧
      (Lit.int .i64 a0).wf = true ∧ (Lit.int .i64 a1).wf = true ∧ (Lit.int .i64 a2).wf = true ∧ (Lit.int .i64 a3).wf = true ∧ (Lit.int .i64 a4).wf = true := by
  obtain ⟨cs, rfl, hsz⟩ := okWide_struct hs hv
  obtain ⟨c0, c1, c2, c3, c4, rfl⟩ := array5 (hsz.trans hC)
  obtain ⟨fuel, hf⟩ := h
  obtain ⟨y0, y1, y2, y3, y4, n, hx, _, h0, h1, h2, h3, h4⟩ := trod_five hs hf
  obtain ⟨o0, k0⟩ := hone_of hone 0 f0 rfl
  obtain ⟨o1, k1⟩ := hone_of hone 1 f1 rfl
  obtain ⟨o2, k2⟩ := hone_of hone 2 f2 rfl
  obtain ⟨o3, k3⟩ := hone_of hone 3 f3 rfl
  obtain ⟨o4, k4⟩ := hone_of hone 4 f4 rfl
  simp only [Prod.mk.injEq] at hx
  have g0 : DataW.trod enc P w base spare held n f0.type [c0] = some y0 := by simpa [Value.cells, o0, k0] using h0
  have g1 : DataW.trod enc P w base spare held n f1.type [c1] = some y1 := by simpa [Value.cells, o1, k1] using h1
  have g2 : DataW.trod enc P w base spare held n f2.type [c2] = some y2 := by simpa [Value.cells, o2, k2] using h2
  have g3 : DataW.trod enc P w base spare held n f3.type [c3] = some y3 := by simpa [Value.cells, o3, k3] using h3
  have g4 : DataW.trod enc P w base spare held n f4.type [c4] = some y4 := by simpa [Value.cells, o4, k4] using h4
  obtain ⟨a0, e0, rfl, w0⟩ := DataW.trod_int u0 g0
  obtain ⟨a1, e1, rfl, w1⟩ := DataW.trod_int u1 g1
  obtain ⟨a2, e2, rfl, w2⟩ := DataW.trod_int u2 g2
  obtain ⟨a3, e3, rfl, w3⟩ := DataW.trod_int u3 g3
  obtain ⟨a4, e4, rfl, w4⟩ := DataW.trod_int u4 g4
  simp only [List.cons.injEq, and_true] at e0 e1 e2 e3 e4
  subst e0 e1 e2 e3 e4
  exact ⟨a0, a1, a2, a3, a4, rfl, hx.1, by simpa using hx.2, w0, w1, w2, w3, w4⟩

theorem shut_five {t : TypeId} {f0 f1 f2 f3 f4 : Field} {a0 a1 a2 a3 a4 : Int} (hs : P.underlying t = some (.struct #[f0, f1, f2, f3, f4])) (hone : oneCellFields P #[f0, f1, f2, f3, f4] = true) (hC : P.cellsOf t = 5)
    (u0 : P.underlying f0.type = some (.int .i64)) (u1 : P.underlying f1.type = some (.int .i64)) (u2 : P.underlying f2.type = some (.int .i64)) (u3 : P.underlying f3.type = some (.int .i64)) (u4 : P.underlying f4.type = some (.int .i64))
    (w0 : (Lit.int .i64 a0).wf = true) (w1 : (Lit.int .i64 a1).wf = true) (w2 : (Lit.int .i64 a2).wf = true) (w3 : (Lit.int .i64 a3).wf = true) (w4 : (Lit.int .i64 a4).wf = true) :
    DataW.Trod enc P w base spare held t (.agg #[.int .i64 a0, .int .i64 a1, .int .i64 a2, .int .i64 a3, .int .i64 a4]) (.agg [.lit (.int .i64 a0), .lit (.int .i64 a1), .lit (.int .i64 a2), .lit (.int .i64 a3), .lit (.int .i64 a4)]) [] := by
  obtain ⟨o0, k0⟩ := hone_of hone 0 f0 rfl
  obtain ⟨o1, k1⟩ := hone_of hone 1 f1 rfl
  obtain ⟨o2, k2⟩ := hone_of hone 2 f2 rfl
  obtain ⟨o3, k3⟩ := hone_of hone 3 f3 rfl
  obtain ⟨o4, k4⟩ := hone_of hone 4 f4 rfl
  have t0 := trod_int_mk (enc := enc) (w := w) (base := base) (spare := spare) (held := held) 0 u0 w0
  have t1 := trod_int_mk (enc := enc) (w := w) (base := base) (spare := spare) (held := held) 0 u1 w1
  have t2 := trod_int_mk (enc := enc) (w := w) (base := base) (spare := spare) (held := held) 0 u2 w2
  have t3 := trod_int_mk (enc := enc) (w := w) (base := base) (spare := spare) (held := held) 0 u3 w3
  have t4 := trod_int_mk (enc := enc) (w := w) (base := base) (spare := spare) (held := held) 0 u4 w4
  have ts := trod_struct_mk (enc := enc) (w := w) (base := base) (spare := spare) (held := held) (n := 1) (cs := [.int .i64 a0, .int .i64 a1, .int .i64 a2, .int .i64 a3, .int .i64 a4]) (xs := [(.lit (.int .i64 a0), []), (.lit (.int .i64 a1), []), (.lit (.int .i64 a2), []), (.lit (.int .i64 a3), []), (.lit (.int .i64 a4), [])]) hs (by simp [hC])
    (by simp [o0, o1, o2, o3, o4, k0, k1, k2, k3, k4, t0, t1, t2, t3, t4])
  exact ⟨_, by simpa [Value.cells] using ts⟩
end
end Go.Proofs.YtodikjjajncimaaDoor

namespace Go.Proofs.YtodikjjajncimaaDoor
open Go Go.RowKit Go.ChangeShapes Go.WideShapes Go.Deep
set_option linter.unusedVariables false

/-- What the walk is told of a list of instructions that came in. -/
def IsFives (w : World) (a : Option Addr) (len cap : Nat) : Prop :=
  (a = none ∧ len = 0 ∧ cap = 0) ∨ ∃ (x : Addr) (R : Nat → Int), a = some x ∧ len ≤ cap ∧ cap ≤ maxLen ∧ (∀ i j, i < len → j < 5 → w.cell? ((x.add (i * 5)).add j) = some (.int .i64 (R (i * 5 + j)))) ∧ ∀ i, i < len * 5 → (Lit.int .i64 (R i)).wf = true

section
variable {H : Type} {enc : TypeId × Value → H} {P : Program} {w : World} {base : Nat} {spare : Nat → Bool} {held : Bool}
theorem open_fives {t e : TypeId} {f0 f1 f2 f3 f4 : Field} {fuel : Nat} {a : Option Addr} {len cap : Nat} {x : DataW H × List MemPlace} (ht : P.underlying t = some (.slice e)) (hs : P.underlying e = some (.struct #[f0, f1, f2, f3, f4])) (hone : oneCellFields P #[f0, f1, f2, f3, f4] = true) (hC : P.cellsOf e = 5)
    (u0 : P.underlying f0.type = some (.int .i64)) (u1 : P.underlying f1.type = some (.int .i64)) (u2 : P.underlying f2.type = some (.int .i64)) (u3 : P.underlying f3.type = some (.int .i64)) (u4 : P.underlying f4.type = some (.int .i64))
    (h : DataW.trod enc P w base spare held fuel t [.slice a len cap] = some x) : IsFives w a len cap := by
  rcases open_slice ht h with ⟨hcs, _⟩ | ⟨ad, l, c, m, n, D, Pl, hcs, hb, hl, hm, hmm, rfl, hx⟩
  · simp at hcs
    exact .inl hcs
  · simp at hcs
    obtain ⟨rfl, rfl, rfl⟩ := hcs
    have hlm : len ≤ m := by rw [hmm]; split <;> omega
    obtain ⟨o0, k0⟩ := hone_of hone 0 f0 rfl
    obtain ⟨o1, k1⟩ := hone_of hone 1 f1 rfl
    obtain ⟨o2, k2⟩ := hone_of hone 2 f2 rfl
    obtain ⟨o3, k3⟩ := hone_of hone 3 f3 rfl
    obtain ⟨o4, k4⟩ := hone_of hone 4 f4 rfl
    have each : ∀ i, i < len → ∃ q : Nat → Int, ∀ j, j < 5 → w.cell? ((ad.add (i * 5)).add j) = some (.int .i64 (q j)) ∧ (Lit.int .i64 (q j)).wf = true := by
      intro i hi
      obtain ⟨cs', h1, h2⟩ := hx i (by omega)
      rw [hC] at h1
      obtain ⟨_, hlen, hcell⟩ := World.cells?_some h1
      obtain ⟨y0, y1, y2, y3, y4, n', _, _, h0, h1', h2', h3, h4⟩ := trod_five hs h2
      match cs', hlen with
      | [c0, c1, c2, c3, c4], _ =>
        have g0 : DataW.trod enc P w base spare held n' f0.type [c0] = some y0 := by simpa [o0, k0] using h0
        have g1 : DataW.trod enc P w base spare held n' f1.type [c1] = some y1 := by simpa [o1, k1] using h1'
        have g2 : DataW.trod enc P w base spare held n' f2.type [c2] = some y2 := by simpa [o2, k2] using h2'
        have g3 : DataW.trod enc P w base spare held n' f3.type [c3] = some y3 := by simpa [o3, k3] using h3
        have g4 : DataW.trod enc P w base spare held n' f4.type [c4] = some y4 := by simpa [o4, k4] using h4
        obtain ⟨a0, e0, _, w0⟩ := DataW.trod_int u0 g0
        obtain ⟨a1, e1, _, w1⟩ := DataW.trod_int u1 g1
        obtain ⟨a2, e2, _, w2⟩ := DataW.trod_int u2 g2
        obtain ⟨a3, e3, _, w3⟩ := DataW.trod_int u3 g3
        obtain ⟨a4, e4, _, w4⟩ := DataW.trod_int u4 g4
        simp only [List.cons.injEq, and_true] at e0 e1 e2 e3 e4
        subst e0 e1 e2 e3 e4
        refine ⟨fun j => [a0, a1, a2, a3, a4].getD j 0, fun j hj => ?_⟩
        have hj' : j = 0 ∨ j = 1 ∨ j = 2 ∨ j = 3 ∨ j = 4 := by omega
        have hc := hcell j (by simpa using hj)
        rcases hj' with rfl | rfl | rfl | rfl | rfl
        · exact ⟨by simpa using hc, w0⟩
        · exact ⟨by simpa using hc, w1⟩
        · exact ⟨by simpa using hc, w2⟩
        · exact ⟨by simpa using hc, w3⟩
        · exact ⟨by simpa using hc, w4⟩
    obtain ⟨Q, hQ⟩ := choose_lt each
    refine .inr ⟨ad, fun i => Q (i / 5) (i % 5), rfl, hl, hm, fun i j hi hj => ?_, fun i hi => ?_⟩
    · have e1 : (i * 5 + j) / 5 = i := by omega
      have e2 : (i * 5 + j) % 5 = j := by omega
      show _ = some (Value.int .i64 (Q ((i * 5 + j) / 5) ((i * 5 + j) % 5)))
      rw [e1, e2]
      exact (hQ i hi j hj).1
    · exact (hQ (i / 5) (by omega) (i % 5) (by omega)).2
end

theorem list_of_fives {w : World} {a : Option Addr} {len cap : Nat} (h : IsFives w a len cap) : ∃ R : Nat → Int, ListAt w a len R ∧ (∀ i, i < len * 5 → (Lit.int .i64 (R i)).wf = true) ∧ len ≤ maxLen := by
  rcases h with ⟨rfl, rfl, rfl⟩ | ⟨x, R, rfl, hl, hm, hc, hw⟩
  · exact ⟨fun _ => 0, .inl rfl, fun i hi => absurd hi (by omega), Nat.zero_le _⟩
  · refine ⟨R, ?_, hw, by omega⟩
    by_cases h0 : len = 0
    · exact .inl h0
    · obtain ⟨b, off, spot⟩ := x
      have hspot : spot = none := by
        have h0 := hc 0 0 (by omega) (by omega)
        simpa [Addr.add] using World.cell?_spot h0
      subst hspot
      have hcell : ∀ i, i < len * 5 → w.cell? ⟨b, off + i, none⟩ = some (.int .i64 (R i)) := by
        intro i hi
        have := hc (i / 5) (i % 5) (by omega) (by omega)
        rw [show i / 5 * 5 + i % 5 = i from by omega, add_add, show i / 5 * 5 + i % 5 = i from by omega] at this
        rw [← this, add_plain]
      exact .inr ⟨b, off, rfl, World.block_lt_of_cell? w _ (hcell 0 (by omega)), hcell⟩
end Go.Proofs.YtodikjjajncimaaDoor
