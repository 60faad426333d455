/- Lists of Shadow (gen_rec.py). -/
import Derived.Test.YtmbkkcdcccopiaaRecB
import Derived.Test.YtmbkkcdcccopiaaMrkT
namespace Go.Proofs.Ytmbkkcdcccopiaa
open Go Go.RowKit Go.ChangeShapes Go.WideShapes Go.Deep
set_option linter.unusedVariables false

structure ShwD where
  ob : Int
  ix : Int
  va : Int
instance : Inhabited ShwD := ⟨⟨0, 0, 0⟩⟩
def ShwD.wf (d : ShwD) : Prop := (Lit.int .i64 d.ob).wf = true ∧ (Lit.int .i64 d.ix).wf = true ∧ (Lit.int .i64 d.va).wf = true
def shwV (S : Nat → ShwD) (i : Nat) : Value :=
  if i % 3 = 0 then .int .i64 (S (i / 3)).ob else if i % 3 = 1 then .int .i64 (S (i / 3)).ix else .int .i64 (S (i / 3)).va
theorem shwV0 (S : Nat → ShwD) (k : Nat) : shwV S (k * 3) = .int .i64 (S k).ob := by unfold shwV; rw [if_pos (by omega), show (k * 3) / 3 = k from by omega]
theorem shwV1 (S : Nat → ShwD) (k : Nat) : shwV S (k * 3 + 1) = .int .i64 (S k).ix := by unfold shwV; rw [if_neg (by omega), if_pos (by omega), show (k * 3 + 1) / 3 = k from by omega]
theorem shwV2 (S : Nat → ShwD) (k : Nat) : shwV S (k * 3 + 2) = .int .i64 (S k).va := by unfold shwV; rw [if_neg (by omega), if_neg (by omega), show (k * 3 + 2) / 3 = k from by omega]
theorem VRow.shw {w : World} {b o n : Nat} {S : Nat → ShwD} (h : VRow w b o (n * 3) (shwV S)) {k : Nat} (hk : k < n) :
    w.cell? ⟨b, o + k * 3, none⟩ = some (.int .i64 (S k).ob) ∧ w.cell? ⟨b, o + k * 3 + 1, none⟩ = some (.int .i64 (S k).ix) ∧ w.cell? ⟨b, o + k * 3 + 2, none⟩ = some (.int .i64 (S k).va) := by
  have k0 := h.nth hk (j := 0) (by omega)
  rw [Nat.add_zero, Nat.add_zero, shwV0] at k0
  have k1 := h.nth hk (j := 1) (by omega)
  rw [shwV1] at k1
  have k2 := h.nth hk (j := 2) (by omega)
  rw [shwV2] at k2
  exact ⟨k0, k1, k2⟩
abbrev ShwsAt (w : World) (p : Option Addr) (n : Nat) (S : Nat → ShwD) : Prop := RowsAt w p n 3 (shwV S)

section
variable {H : Type} {enc : TypeId × Value → H} {P : Program} {w : World} {base : Nat} {spare : Nat → Bool} {held : Bool}
theorem open_shws {t e : TypeId} {f0 f1 f2 : Field} {fuel : Nat} {a : Option Addr} {len cap : Nat} {x : DataW H × List MemPlace} (ht : P.underlying t = some (.slice e)) (he : P.underlying e = some (.struct #[f0, f1, f2])) (hone : oneCellFields P #[f0, f1, f2] = true) (hC : P.cellsOf e = 3)
    (u0 : P.underlying f0.type = some (.int .i64)) (u1 : P.underlying f1.type = some (.int .i64)) (u2 : P.underlying f2.type = some (.int .i64))
    (h : DataW.trod enc P w base spare held fuel t [.slice a len cap] = some x) : ∃ S, ShwsAt w a len S ∧ (∀ i, i < len → (S i).wf) ∧ len ≤ cap ∧ cap ≤ maxLen := by
  rcases open_rows ht he hone hC h with ⟨rfl, rfl, rfl⟩ | ⟨ad, rfl, hl, hm, hx⟩
  · exact ⟨fun _ => default, .inl rfl, fun i hi => absurd hi (Nat.not_lt_zero _), Nat.le_refl _, Nat.zero_le _⟩
  have each : ∀ i, i < len → ∃ d : ShwD, d.wf ∧ ∀ j, j < 3 → w.cell? ((ad.add (i * 3)).add j) = some (shwV (fun _ => d) j) := by
    intro i hi
    obtain ⟨n, hf⟩ := hx i hi
    obtain ⟨v0, y0, c0, g0⟩ := hf 0 f0 rfl
    obtain ⟨v1, y1, c1, g1⟩ := hf 1 f1 rfl
    obtain ⟨v2, y2, c2, g2⟩ := hf 2 f2 rfl
    obtain ⟨a0, e0, _, w0⟩ := DataW.trod_int u0 g0
    obtain ⟨a1, e1, _, w1⟩ := DataW.trod_int u1 g1
    obtain ⟨a2, e2, _, w2⟩ := DataW.trod_int u2 g2
    simp only [List.cons.injEq, and_true] at e0 e1 e2
    subst e0 e1 e2
    refine ⟨⟨a0, a1, a2⟩, ⟨w0, w1, w2⟩, fun j hj => ?_⟩
    have hj' : j = 0 ∨ j = 1 ∨ j = 2 := by omega
    rcases hj' with rfl | rfl | rfl
    · exact c0
    · exact c1
    · exact c2
  obtain ⟨S, hS⟩ := choose_lt each
  refine ⟨S, ?_, fun i hi => (hS i hi).1, hl, hm⟩
  by_cases h0 : len = 0
  · exact .inl h0
  · obtain ⟨b, o, rfl, hb, hv⟩ := vrow_of (w := w) (ad := ad) (k := 3) (n := len) (V := shwV S) (by decide) (by omega) (fun i hi j hj => by
      rw [(hS i hi).2 j hj]
      have e1 : (i * 3 + j) / 3 = i := by omega
      have e2 : (i * 3 + j) % 3 = j := by omega
      have e3 : j % 3 = j := by omega
      unfold shwV
      rw [e1, e2, e3])
    exact .inr ⟨b, o, rfl, hb, hv⟩
end
theorem Try.info_shw : (Try.prog.info? 44).map (fun i => (i.zero, i.size, i.bytes)) = some (some (.agg #[.int .i64 0, .int .i64 0, .int .i64 0]), 3, 24) := by kernel_rfl
theorem toShwC (a0 : Int) (a1 : Int) (a2 : Int) (w : World) :
    Calls Try.prog 34 #[.agg #[.int .i64 a0, .int .i64 a1, .int .i64 a2]] w fun e w' => e = .returned (.agg #[.int .i64 a0, .int .i64 a1, .int .i64 a2]) ∧ Below w.heap.size w w' := by
  go_enter Try.func34, Try.ntmps34
  go_wp2
  refine bodyPost_ret (v := .agg #[.int .i64 a0, .int .i64 a1, .int .i64 a2]) (by simp [results, Try.results34, go_sem]) rfl ⟨rfl, ?_⟩
  exact (((Below.refl _ _).alloc (Nat.le_refl _) _).alloc (by simp) _).alloc (by simp; omega) _

set_option maxRecDepth 100000 in
set_option maxHeartbeats 2000000 in
theorem toShws (p : Option Addr) (n c : Nat) (S : Nat → ShwD) (w : World) (hn : n ≤ 1048576) (hp : ShwsAt w p n S) :
    Calls Try.prog 13 #[.slice p n c] w fun e w' => ∃ g, e = .returned (.slice (some ⟨g, 0, none⟩) n n) ∧ Below w.heap.size w w' ∧ w.heap.size ≤ g ∧ g < w'.heap.size ∧ FRow w' g 0 (n * 3) (shwV S) := by
  obtain ⟨i0, hi, hz0, hz1, hz2⟩ := info_parts Try.info_shw
  go_enter Try.func13, Try.ntmps13
  go_wp2_with (at_make; refine wpList_make_full _ rfl _ _ 25 rfl w.heap.size 44 i0 _ 3 Try.underlying25 hi hz0 hz1 .i64 .i64 _ _ n rfl rfl (by omega) (by omega) (by rw [hz2]; omega) (by unfold maxLen; omega) (Nat.le_refl _) ?_; intro wm hm hgm)
  go_loopw [4] (fun i wr => ∃ k : Nat, k ≤ n ∧ i = .int .i64 k ∧ Below w.heap.size w wr ∧ ∃ cur, Lies wr w.heap.size 44 cur ∧ cur.size = n * 3 ∧ ∀ i, i < k * 3 → cur[i]? = some (shwV S i)) (fun i _ => n - (intOf i).toNat)
  case atStart =>
    rcases hm.2 with ⟨hv, _⟩ | ⟨g, cap, cur, hv, _, hg, _, _, hcs, _⟩
    · cases hv
    · obtain ⟨rfl, rfl⟩ : w.heap.size = g ∧ n = cap := by simpa using hv
      exact ⟨0, Nat.zero_le _, rfl, (Below.refl _ _).grown hgm (Nat.le_refl _) (fun _ h => by cases h), cur, hg, hcs, fun i hi => absurd hi (by omega)⟩
  case round =>
    obtain ⟨k, hk, rfl, hB, cur, hl, hs, hc⟩ := hrel
    by_cases hlt : k < n
    · rcases hp with hp | ⟨b, o, rfl, hb, hp⟩
      · omega
      obtain ⟨x0, x1, x2⟩ := (hp.below hB hb).shw hlt
      have hput := putRow (V := shwV S) (m := 3) [.int .i64 (S k).ob, .int .i64 (S k).ix, .int .i64 (S k).va] rfl (fun j hj => by
        have hj' : j = 0 ∨ j = 1 ∨ j = 2 := by omega
        rcases hj' with rfl | rfl | rfl
        · rw [Nat.add_zero, shwV0]; rfl
        · rw [shwV1]; rfl
        · rw [shwV2]; rfl) hs hlt hc
      obtain ⟨a0, e0⟩ : ∃ s, (S k).ob = s := ⟨_, rfl⟩
      obtain ⟨a1, e1⟩ : ∃ s, (S k).ix = s := ⟨_, rfl⟩
      obtain ⟨a2, e2⟩ : ∃ s, (S k).va = s := ⟨_, rfl⟩
      rw [e0] at x0
      rw [e1] at x1
      rw [e2] at x2
      rw [e0, e1, e2] at hput
      obtain ⟨new, hnew⟩ : ∃ new, (cur.toList.take (k * 3) ++ [Value.int .i64 a0, .int .i64 a1, .int .i64 a2] ++ cur.toList.drop (k * 3 + 3)).toArray = new := ⟨_, rfl⟩
      rw [hnew] at hput
      have HN : Hid (_ = new) := hnew
      clear hnew hp e0 e1 e2
      go_wp2_with fail
      refine (toShwC _ _ _ _).mono ?_
      rintro e w1 ⟨rfl, hb1⟩
      have l1 := hl.below hb1 hl.lt
      have B1 := hB.trans (hb1.mono hB.size)
      have s1 := hB.size
      clear hb1 hl x0 x1 x2 hB
      have hi' : (Try.prog.info? 44).map (·.size) = some (#[Value.int .i64 a0, .int .i64 a1, .int .i64 a2] : Array Value).size := by rw [hi]; simp [hz1]
      go_wp2_with (refine wpList_store_part rfl 44 (.tmp 21) (.tmp 20) rfl w.heap.size (k * 3) #[Value.int .i64 a0, .int .i64 a1, .int .i64 a2] rfl rfl _ _ l1 hi' (by simp; omega) (by simp [Value.oneCell']) new HN.out ?_)
      have l2 := l1.set new
      go_roundw
      case rel => exact ⟨k + 1, by omega, by go_num, below_setRow B1 (Nat.le_refl _) _, _, l2, hput.1, hput.2⟩
      case measure => simp [intOf]; omega
    · obtain rfl : k = n := by omega
      have hlt := hl.lt
      go_wp2
      go_ret
      exact ⟨_, rfl, hB, Nat.le_refl _, hlt, fun i hi => by rw [Nat.zero_add]; exact hl.cell (hc i hi), fun i hi => hl.fro _⟩

theorem szShws (p : Option Addr) (n c : Nat) (L : Int) (w : World) (h0 : 0 ≤ L) (h1 : L ≤ 1048576) (hn : n ≤ maxLen) :
    Calls Try.prog 11 #[.slice p n c, .int .i64 L] w fun e w' => (∃ r : Int, e = .returned (.int .i64 r) ∧ (r = -1 ∨ (0 ≤ r ∧ r ≤ L ∧ (n : Int) ≤ L))) ∧ Below w.heap.size w w' := by
  unfold maxLen at hn
  by_cases hL : L < n
  · go_enter Try.func11, Try.ntmps11
    go_wp2
    go_ret
    exact ⟨⟨_, rfl, .inl rfl⟩, Below.refl _ _⟩
  · go_enter Try.func11, Try.ntmps11
    go_wp2
    go_ret
    refine ⟨⟨_, rfl, .inr ?_⟩, Below.refl _ _⟩
    first | omega | (refine ⟨?_, ?_⟩ <;> omega)
theorem eqShwC (a0 : Int) (a1 : Int) (a2 : Int) (w : World) :
    Calls Try.prog 38 #[.agg #[.int .i64 a0, .int .i64 a1, .int .i64 a2], .agg #[.int .i64 a0, .int .i64 a1, .int .i64 a2]] w fun e w' => e = .returned (.bool true) ∧ Below w.heap.size w w' := by
  go_enter Try.func38, Try.ntmps38
  go_wp2
  go_ret
  exact ⟨rfl, ((Below.refl _ _).alloc (Nat.le_refl _) _).alloc (by simp) _⟩
set_option maxHeartbeats 2000000 in
theorem eqShws (p q : Option Addr) (n c d : Nat) (S : Nat → ShwD) (w : World) (hn : n ≤ 2000000) (hp : ShwsAt w p n S) (hq : ShwsAt w q n S) :
    Calls Try.prog 15 #[.slice p n c, .slice q n d] w fun e w' => e = .returned (.bool true) ∧ Below w.heap.size w w' := by
  go_enter Try.func15, Try.ntmps15
  go_wp2
  go_loopw [5] (fun i wr => ∃ k : Nat, k ≤ n ∧ i = .int .i64 k ∧ Below w.heap.size w wr) (fun i _ => n - (intOf i).toNat)
  case atStart => exact ⟨0, Nat.zero_le _, rfl, Below.refl _ _⟩
  case round =>
    obtain ⟨k, hk, rfl, hB⟩ := hrel
    by_cases hlt : k < n
    · rcases hp with hp | ⟨b, o, rfl, hb, hp⟩
      · omega
      rcases hq with hq | ⟨b', o', rfl, hb', hq⟩
      · omega
      obtain ⟨x0, x1, x2⟩ := (hp.below hB hb).shw hlt
      obtain ⟨y0, y1, y2⟩ := (hq.below hB hb').shw hlt
      clear hp hq
      go_wp2
      go_region_with ((go_at_call 38; refine (eqShwC _ _ _ _).mono ?_; rintro e w1 ⟨rfl, hb1⟩))
      all_goals
        have hbw : Below w.heap.size w w1 := by
          first
            | exact hB.trans (hb1.mono (by have := hB.size; simp; omega))
            | exact hB.drew.trans (hb1.mono (by have := hB.size; simp; omega))
        go_wp2
        go_roundw
        case rel => exact ⟨k + 1, by omega, by go_num, hbw⟩
        case measure => simp [intOf]; omega
    · go_wp2
      go_ret
      exact ⟨rfl, hB⟩
def mkShw (s i : Nat) : ShwD := ⟨((s + 3 * i : Nat) : Int), ((s + 3 * i : Nat) : Int) + 1, ((s + 3 * i : Nat) : Int) + 1 + 1⟩
def mixShw (s : Nat) (S : Nat → ShwD) (k i : Nat) : ShwD := if i < k then mkShw s i else S i
theorem mixShw_step (s k : Nat) (S : Nat → ShwD) (i : Nat) : (if i = k * 3 + 2 then Value.int .i64 (mkShw s k).va else if i = k * 3 + 1 then .int .i64 (mkShw s k).ix else if i = k * 3 then .int .i64 (mkShw s k).ob else shwV (mixShw s S k) i) = shwV (mixShw s S (k + 1)) i := by
  have hk : mixShw s S (k + 1) k = mkShw s k := by unfold mixShw; rw [if_pos (Nat.lt_succ_self k)]
  by_cases e2 : i = k * 3 + 2
  · rw [if_pos e2, e2, shwV2, hk]
  by_cases e1 : i = k * 3 + 1
  · rw [if_neg e2, if_pos e1, e1, shwV1, hk]
  by_cases e0 : i = k * 3
  · rw [if_neg e2, if_neg e1, if_pos e0, e0, shwV0, hk]
  · rw [if_neg e2, if_neg e1, if_neg e0]
    have hq : i / 3 ≠ k := by omega
    have hmx : mixShw s S k (i / 3) = mixShw s S (k + 1) (i / 3) := by
      unfold mixShw
      by_cases h : i / 3 < k
      · rw [if_pos h, if_pos (by omega)]
      · rw [if_neg h, if_neg (by omega)]
    unfold shwV
    rw [hmx]

set_option maxRecDepth 100000 in
set_option maxHeartbeats 4000000 in
theorem markShws (B : Nat) (p : Option Addr) (n c s : Nat) (S : Nat → ShwD) (w : World) (hn : n ≤ 1048576) (hs : s ≤ 40000000) (hs0 : 0 < s) (hBw : B ≤ w.heap.size) (ho : OwnR w B p n 3 (shwV S)) :
    Calls Try.prog 20 #[.slice p n c, .int .i64 s] w fun e w' => e = .returned (.int .i64 ((s + 3 * n : Nat) : Int)) ∧ ButO (qn p n) w w' ∧ OwnR w' B p n 3 (shwV (mkShw s)) := by
  go_enter Try.func20, Try.ntmps20
  go_wp2
  go_loopw [1, 5] (fun m i wr => ∃ k : Nat, k ≤ n ∧ i = .int .i64 k ∧ m = .int .i64 ((s + 3 * k : Nat) : Int) ∧ ButO (qn p n) w wr ∧ OwnR wr B p n 3 (shwV (mixShw s S k))) (fun _ i _ => n - (intOf i).toNat)
  case atStart => exact ⟨0, Nat.zero_le _, rfl, by simp, ButO.refl _ _, ho⟩
  case round =>
    obtain ⟨k, hk, rfl, rfl, hB, hf⟩ := hrel
    by_cases hlt : k < n
    · rcases hf with h0 | ⟨g, rfl, hg, hgl, hf⟩
      · omega
      have hqn : qn (some ⟨g, 0, none⟩) n = some ⟨g, 0, none⟩ := if_neg (by omega)
      rw [hqn] at hB
      have HQN : Hid (qn (some ⟨g, 0, none⟩) n = some ⟨g, 0, none⟩) := hqn
      clear hqn
      have hms : mkShw s k = ⟨((s + 3 * k : Nat) : Int), ((s + 3 * k : Nat) : Int) + 1, ((s + 3 * k : Nat) : Int) + 1 + 1⟩ := rfl
      have hnx : s + 3 * (k + 1) = s + 3 * k + 3 := by omega
      have hu1 : s + 3 * k ≤ 50000000 := by omega
      have hu0 : 0 < s + 3 * k := by omega
      obtain ⟨u, hu⟩ : ∃ u, s + 3 * k = u := ⟨_, rfl⟩
      rw [hu] at hms hnx hu1 hu0 ⊢
      have hstep := mixShw_step s k S
      rw [hms] at hstep
      have HST : Hid (∀ i, _) := hstep
      have HNX : Hid (s + 3 * (k + 1) = u + 3) := hnx
      clear hms hstep hnx hu ho
      have hfw : FRow wr g 0 (n * 3) (shwV (mixShw s S k)) := hf
      have hkm : k * 3 + 3 ≤ n * 3 := by omega
      clear hfw hBw
      have hB0 := hB
      have hf0 := hf
      have hg0 := hgl
      clear hf hB hgl
      obtain ⟨v0, x0⟩ : ∃ v, wr.cell? ⟨g, k * 3, none⟩ = some v := ⟨_, by have := hf0.1 (k * 3) (by omega); rwa [Nat.zero_add] at this⟩
      have f0 := hf0.2 (k * 3) (by omega)
      rw [Nat.zero_add] at f0
      obtain ⟨v1, x1⟩ : ∃ v, wr.cell? ⟨g, k * 3 + 1, none⟩ = some v := ⟨_, by have := hf0.1 (k * 3 + 1) (by omega); rwa [Nat.zero_add] at this⟩
      have f1 := hf0.2 (k * 3 + 1) (by omega)
      rw [Nat.zero_add] at f1
      obtain ⟨v2, x2⟩ : ∃ v, wr.cell? ⟨g, k * 3 + 2, none⟩ = some v := ⟨_, by have := hf0.1 (k * 3 + 2) (by omega); rwa [Nat.zero_add] at this⟩
      have f2 := hf0.2 (k * 3 + 2) (by omega)
      rw [Nat.zero_add] at f2
      have HF1 : Hid (FRow _ g 0 (n * 3) _) := (((hf0.put (k * 3) (by omega) (.int .i64 ((u : Int)))).put (k * 3 + 1) (by omega) (.int .i64 ((u : Int) + 1))).put (k * 3 + 2) (by omega) (.int .i64 ((u : Int) + 1 + 1)))
      have HB1 : Hid (ButO (some ⟨g, 0, none⟩) w _) := (((hB0.set (j := k * 3) (.int .i64 ((u : Int)))).set (j := k * 3 + 1) (.int .i64 ((u : Int) + 1))).set (j := k * 3 + 2) (.int .i64 ((u : Int) + 1 + 1)))
      have HG1 : Hid (g < ((((wr).setCell ⟨g, k * 3, none⟩ (.int .i64 ((u : Int)))).setCell ⟨g, k * 3 + 1, none⟩ (.int .i64 ((u : Int) + 1))).setCell ⟨g, k * 3 + 2, none⟩ (.int .i64 ((u : Int) + 1 + 1))).heap.size) := by show g < ((((wr).setCell ⟨g, k * 3, none⟩ (.int .i64 ((u : Int)))).setCell ⟨g, k * 3 + 1, none⟩ (.int .i64 ((u : Int) + 1))).setCell ⟨g, k * 3 + 2, none⟩ (.int .i64 ((u : Int) + 1 + 1))).heap.size; simpa using hg0
      clear hf0 hB0 hg0
      go_wp2_with fail
      go_roundw
      case rel =>
        refine ⟨k + 1, by omega, by go_num, ?_, by rw [HQN.out]; exact HB1.out, .inr ⟨g, rfl, hg, HG1.out, HF1.out.congr (fun i _ => HST.out i)⟩⟩
        rw [HNX.out]
        first | rfl | (congr 1; omega) | go_num
      case measure => simp [intOf]; omega
    · obtain rfl : k = n := by omega
      go_wp2
      go_ret
      refine ⟨rfl, hB, ?_⟩
      rcases hf with h0 | ⟨g, h1, h2, h3, hf⟩
      · exact .inl h0
      · refine .inr ⟨g, h1, h2, h3, hf.congr (fun i hi => ?_)⟩
        unfold shwV mixShw
        have : i / 3 < k := by omega
        simp only [if_pos this]

set_option maxRecDepth 100000 in
set_option maxHeartbeats 4000000 in
/-- They still stand. -/
theorem heldShws (p : Option Addr) (n c s : Nat) (w : World) (hn : n ≤ 1048576) (hs : s ≤ 40000000) (hs0 : 0 < s) (ho : ShwsAt w p n (mkShw s)) :
    Calls Try.prog 21 #[.slice p n c, .int .i64 s] w fun e w' => e = .returned (.int .i64 ((s + 3 * n : Nat) : Int)) ∧ Below w.heap.size w w' := by
  go_enter Try.func21, Try.ntmps21
  go_wp2
  go_loopw [1, 5] (fun m i wr => ∃ k : Nat, k ≤ n ∧ i = .int .i64 k ∧ m = .int .i64 ((s + 3 * k : Nat) : Int) ∧ Below w.heap.size w wr) (fun _ i _ => n - (intOf i).toNat)
  case atStart => exact ⟨0, Nat.zero_le _, rfl, by simp, Below.refl _ _⟩
  case round =>
    obtain ⟨k, hk, rfl, rfl, hB⟩ := hrel
    by_cases hlt : k < n
    · rcases ho with h0 | ⟨g, oo, rfl, hgl, hf⟩
      · omega
      have hnx : s + 3 * (k + 1) = s + 3 * k + 3 := by omega
      have hu1 : s + 3 * k ≤ 50000000 := by omega
      have hu0 : 0 < s + 3 * k := by omega
      have hglr := Nat.lt_of_lt_of_le hgl hB.size
      obtain ⟨x0, x1, x2⟩ := (hf.below hB hgl).shw hlt
      have e0 : (mkShw s k).ob = ((s + 3 * k : Nat) : Int) := rfl
      have e1 : (mkShw s k).ix = ((s + 3 * k : Nat) : Int) + 1 := rfl
      have e2 : (mkShw s k).va = ((s + 3 * k : Nat) : Int) + 1 + 1 := rfl
      obtain ⟨u, hu⟩ : ∃ u, s + 3 * k = u := ⟨_, rfl⟩
      rw [hu] at hnx hu1 hu0 e0 e1 e2 ⊢
      rw [e0] at x0
      rw [e1] at x1
      rw [e2] at x2
      have HNX : Hid (s + 3 * (k + 1) = u + 3) := hnx
      have HB : Hid (Below w.heap.size w wr) := hB
      clear hf hu e0 e1 e2 hnx
      go_wp2
      go_roundw
      case rel =>
        refine ⟨k + 1, by omega, by go_num, ?_, HB.out⟩
        rw [HNX.out]
        first | rfl | (congr 1; omega) | go_num
      case measure => simp [intOf]; omega
    · obtain rfl : k = n := by omega
      go_wp2
      go_ret
      exact ⟨rfl, hB⟩
end Go.Proofs.Ytmbkkcdcccopiaa
