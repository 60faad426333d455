/- Lists of Shadow (gen_rec.py). -/
import Derived.Test.YtibepggakjfbcaaRecB
import Derived.Test.YtibepggakjfbcaaMrkT
namespace Go.Proofs.Ytibepggakjfbcaa
open Go Go.RowKit Go.ChangeShapes Go.WideShapes Go.Deep
set_option linter.unusedVariables false

structure ShwD where
  ob : Int
  ix : Int
  va : Int
instance : Inhabited ShwD := ⟨⟨0, 0, 0⟩⟩
def ShwD.wf (d : ShwD) : Prop := (Lit.int .i64 d.ob).wf = true ∧ (Lit.int .i64 d.ix).wf = true ∧ (Lit.int .i64 d.va).wf = true
def shwV (S : Nat → ShwD) (i : Nat) : Value :=
  if i % 3 = 0 then .int .i64 (S (i / 3)).ob else if i % 3 = 1 then .int .i64 (S (i / 3)).ix else .int .i64 (S (i / 3)).va
theorem shwV0 (S : Nat → ShwD) (k : Nat) : shwV S (k * 3) = .int .i64 (S k).ob := by unfold shwV; rw [if_pos (by omega), show (k * 3) / 3 = k from by omega]
theorem shwV1 (S : Nat → ShwD) (k : Nat) : shwV S (k * 3 + 1) = .int .i64 (S k).ix := by unfold shwV; rw [if_neg (by omega), if_pos (by omega), show (k * 3 + 1) / 3 = k from by omega]
theorem shwV2 (S : Nat → ShwD) (k : Nat) : shwV S (k * 3 + 2) = .int .i64 (S k).va := by unfold shwV; rw [if_neg (by omega), if_neg (by omega), show (k * 3 + 2) / 3 = k from by omega]
theorem VRow.shw {w : World} {b o n : Nat} {S : Nat → ShwD} (h : VRow w b o (n * 3) (shwV S)) {k : Nat} (hk : k < n) :
    w.cell? ⟨b, o + k * 3, none⟩ = some (.int .i64 (S k).ob) ∧ w.cell? ⟨b, o + k * 3 + 1, none⟩ = some (.int .i64 (S k).ix) ∧ w.cell? ⟨b, o + k * 3 + 2, none⟩ = some (.int .i64 (S k).va) := by
  have k0 := h.nth hk (j := 0) (by omega)
  rw [Nat.add_zero, Nat.add_zero, shwV0] at k0
  have k1 := h.nth hk (j := 1) (by omega)
  rw [shwV1] at k1
  have k2 := h.nth hk (j := 2) (by omega)
  rw [shwV2] at k2
  exact ⟨k0, k1, k2⟩
abbrev ShwsAt (w : World) (p : Option Addr) (n : Nat) (S : Nat → ShwD) : Prop := RowsAt w p n 3 (shwV S)

section
variable {H : Type} {enc : TypeId × Value → H} {P : Program} {w : World} {base : Nat} {spare : Nat → Bool} {held : Bool}
theorem open_shws {t e : TypeId} {f0 f1 f2 : Field} {fuel : Nat} {a : Option Addr} {len cap : Nat} {x : DataW H × List MemPlace} (ht : P.underlying t = some (.slice e)) (he : P.underlying e = some (.struct #[f0, f1, f2])) (hone : oneCellFields P #[f0, f1, f2] = true) (hC : P.cellsOf e = 3)
    (u0 : P.underlying f0.type = some (.int .i64)) (u1 : P.underlying f1.type = some (.int .i64)) (u2 : P.underlying f2.type = some (.int .i64))
    (h : DataW.trod enc P w base spare held fuel t [.slice a len cap] = some x) : ∃ S, ShwsAt w a len S ∧ (∀ i, i < len → (S i).wf) ∧ len ≤ cap ∧ cap ≤ maxLen := by
  rcases open_rows ht he hone hC h with ⟨rfl, rfl, rfl⟩ | ⟨ad, rfl, hl, hm, hx⟩
  · exact ⟨fun _ => default, .inl rfl, fun i hi => absurd hi (Nat.not_lt_zero _), Nat.le_refl _, Nat.zero_le _⟩
  have each : ∀ i, i < len → ∃ d : ShwD, d.wf ∧ ∀ j, j < 3 → w.cell? ((ad.add (i * 3)).add j) = some (shwV (fun _ => d) j) := by
    intro i hi
    obtain ⟨n, hf⟩ := hx i hi
    obtain ⟨v0, y0, c0, g0⟩ := hf 0 f0 rfl
    obtain ⟨v1, y1, c1, g1⟩ := hf 1 f1 rfl
    obtain ⟨v2, y2, c2, g2⟩ := hf 2 f2 rfl
    obtain ⟨a0, e0, _, w0⟩ := DataW.trod_int u0 g0
    obtain ⟨a1, e1, _, w1⟩ := DataW.trod_int u1 g1
    obtain ⟨a2, e2, _, w2⟩ := DataW.trod_int u2 g2
    simp only [List.cons.injEq, and_true] at e0 e1 e2
    subst e0 e1 e2
    refine ⟨⟨a0, a1, a2⟩, ⟨w0, w1, w2⟩, fun j hj => ?_⟩
    have hj' : j = 0 ∨ j = 1 ∨ j = 2 := by omega
    rcases hj' with rfl | rfl | rfl
    · exact c0
    · exact c1
    · exact c2
  obtain ⟨S, hS⟩ := choose_lt each
  refine ⟨S, ?_, fun i hi => (hS i hi).1, hl, hm⟩
  by_cases h0 : len = 0
  · exact .inl h0
  · obtain ⟨b, o, rfl, hb, hv⟩ := vrow_of (w := w) (ad := ad) (k := 3) (n := len) (V := shwV S) (by decide) (by omega) (fun i hi j hj => by
      rw [(hS i hi).2 j hj]
      have e1 : (i * 3 + j) / 3 = i := by omega
      have e2 : (i * 3 + j) % 3 = j := by omega
      have e3 : j % 3 = j := by omega
      unfold shwV
      rw [e1, e2, e3])
    exact .inr ⟨b, o, rfl, hb, hv⟩
end
theorem Try.info_shw : (Try.prog.info? 34).map (fun i => (i.zero, i.size, i.bytes)) = some (some (.agg #[.int .i64 0, .int .i64 0, .int .i64 0]), 3, 24) := by kernel_rfl
def mkShw (s i : Nat) : ShwD := ⟨((s + 3 * i : Nat) : Int), ((s + 3 * i : Nat) : Int) + 1, ((s + 3 * i : Nat) : Int) + 1 + 1⟩
def mixShw (s : Nat) (S : Nat → ShwD) (k i : Nat) : ShwD := if i < k then mkShw s i else S i
theorem mixShw_step (s k : Nat) (S : Nat → ShwD) (i : Nat) : (if i = k * 3 + 2 then Value.int .i64 (mkShw s k).va else if i = k * 3 + 1 then .int .i64 (mkShw s k).ix else if i = k * 3 then .int .i64 (mkShw s k).ob else shwV (mixShw s S k) i) = shwV (mixShw s S (k + 1)) i := by
  have hk : mixShw s S (k + 1) k = mkShw s k := by unfold mixShw; rw [if_pos (Nat.lt_succ_self k)]
  by_cases e2 : i = k * 3 + 2
  · rw [if_pos e2, e2, shwV2, hk]
  by_cases e1 : i = k * 3 + 1
  · rw [if_neg e2, if_pos e1, e1, shwV1, hk]
  by_cases e0 : i = k * 3
  · rw [if_neg e2, if_neg e1, if_pos e0, e0, shwV0, hk]
  · rw [if_neg e2, if_neg e1, if_neg e0]
    have hq : i / 3 ≠ k := by omega
    have hmx : mixShw s S k (i / 3) = mixShw s S (k + 1) (i / 3) := by
      unfold mixShw
      by_cases h : i / 3 < k
      · rw [if_pos h, if_pos (by omega)]
      · rw [if_neg h, if_neg (by omega)]
    unfold shwV
    rw [hmx]

end Go.Proofs.Ytibepggakjfbcaa
