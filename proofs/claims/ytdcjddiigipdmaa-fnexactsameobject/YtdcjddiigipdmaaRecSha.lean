/- Lists of ShadowDecl (gen_rec.py). -/
import Derived.Test.YtdcjddiigipdmaaRecB
import Derived.Test.YtdcjddiigipdmaaMrkT
namespace Go.Proofs.Ytdcjddiigipdmaa
open Go Go.RowKit Go.ChangeShapes Go.WideShapes Go.Deep
set_option linter.unusedVariables false

structure ShaD where
  id : Int
  fe : Bool
instance : Inhabited ShaD := ⟨⟨0, false⟩⟩
def ShaD.wf (d : ShaD) : Prop := (Lit.int .i64 d.id).wf = true
def shaV (S : Nat → ShaD) (i : Nat) : Value :=
  if i % 2 = 0 then .int .i64 (S (i / 2)).id else .bool (S (i / 2)).fe
theorem shaV0 (S : Nat → ShaD) (k : Nat) : shaV S (k * 2) = .int .i64 (S k).id := by unfold shaV; rw [if_pos (by omega), show (k * 2) / 2 = k from by omega]
theorem shaV1 (S : Nat → ShaD) (k : Nat) : shaV S (k * 2 + 1) = .bool (S k).fe := by unfold shaV; rw [if_neg (by omega), show (k * 2 + 1) / 2 = k from by omega]
theorem VRow.sha {w : World} {b o n : Nat} {S : Nat → ShaD} (h : VRow w b o (n * 2) (shaV S)) {k : Nat} (hk : k < n) :
    w.cell? ⟨b, o + k * 2, none⟩ = some (.int .i64 (S k).id) ∧ w.cell? ⟨b, o + k * 2 + 1, none⟩ = some (.bool (S k).fe) := by
  have k0 := h.nth hk (j := 0) (by omega)
  rw [Nat.add_zero, Nat.add_zero, shaV0] at k0
  have k1 := h.nth hk (j := 1) (by omega)
  rw [shaV1] at k1
  exact ⟨k0, k1⟩
abbrev ShasAt (w : World) (p : Option Addr) (n : Nat) (S : Nat → ShaD) : Prop := RowsAt w p n 2 (shaV S)

section
variable {H : Type} {enc : TypeId × Value → H} {P : Program} {w : World} {base : Nat} {spare : Nat → Bool} {held : Bool}
theorem open_shas {t e : TypeId} {f0 f1 : Field} {fuel : Nat} {a : Option Addr} {len cap : Nat} {x : DataW H × List MemPlace} (ht : P.underlying t = some (.slice e)) (he : P.underlying e = some (.struct #[f0, f1])) (hone : oneCellFields P #[f0, f1] = true) (hC : P.cellsOf e = 2)
    (u0 : P.underlying f0.type = some (.int .i64)) (u1 : P.underlying f1.type = some .bool)
    (h : DataW.trod enc P w base spare held fuel t [.slice a len cap] = some x) : ∃ S, ShasAt w a len S ∧ (∀ i, i < len → (S i).wf) ∧ len ≤ cap ∧ cap ≤ maxLen := by
  rcases open_rows ht he hone hC h with ⟨rfl, rfl, rfl⟩ | ⟨ad, rfl, hl, hm, hx⟩
  · exact ⟨fun _ => default, .inl rfl, fun i hi => absurd hi (Nat.not_lt_zero _), Nat.le_refl _, Nat.zero_le _⟩
  have each : ∀ i, i < len → ∃ d : ShaD, d.wf ∧ ∀ j, j < 2 → w.cell? ((ad.add (i * 2)).add j) = some (shaV (fun _ => d) j) := by
    intro i hi
    obtain ⟨n, hf⟩ := hx i hi
    obtain ⟨v0, y0, c0, g0⟩ := hf 0 f0 rfl
    obtain ⟨v1, y1, c1, g1⟩ := hf 1 f1 rfl
    obtain ⟨a0, e0, _, w0⟩ := DataW.trod_int u0 g0
    obtain ⟨a1, e1, _⟩ := DataW.trod_bool u1 g1
    simp only [List.cons.injEq, and_true] at e0 e1
    subst e0 e1
    refine ⟨⟨a0, a1⟩, w0, fun j hj => ?_⟩
    have hj' : j = 0 ∨ j = 1 := by omega
    rcases hj' with rfl | rfl
    · exact c0
    · exact c1
  obtain ⟨S, hS⟩ := choose_lt each
  refine ⟨S, ?_, fun i hi => (hS i hi).1, hl, hm⟩
  by_cases h0 : len = 0
  · exact .inl h0
  · obtain ⟨b, o, rfl, hb, hv⟩ := vrow_of (w := w) (ad := ad) (k := 2) (n := len) (V := shaV S) (by decide) (by omega) (fun i hi j hj => by
      rw [(hS i hi).2 j hj]
      have e1 : (i * 2 + j) / 2 = i := by omega
      have e2 : (i * 2 + j) % 2 = j := by omega
      have e3 : j % 2 = j := by omega
      unfold shaV
      rw [e1, e2, e3])
    exact .inr ⟨b, o, rfl, hb, hv⟩
end
theorem Try.info_sha : (Try.prog.info? 98).map (fun i => (i.zero, i.size, i.bytes)) = some (some (.agg #[.int .i64 0, .bool false]), 2, 16) := by kernel_rfl
theorem toShaC (a0 : Int) (a1 : Bool) (w : World) :
    Calls Try.prog 80 #[.agg #[.int .i64 a0, .bool a1]] w fun e w' => e = .returned (.agg #[.int .i64 a0, .bool a1]) ∧ Below w.heap.size w w' := by
  go_enter Try.func80, Try.ntmps80
  go_wp2
  refine bodyPost_ret (v := .agg #[.int .i64 a0, .bool a1]) (by simp [results, Try.results80, go_sem]) rfl ⟨rfl, ?_⟩
  exact (((Below.refl _ _).alloc (Nat.le_refl _) _).alloc (by simp) _).alloc (by simp; omega) _

set_option maxRecDepth 100000 in
set_option maxHeartbeats 2000000 in
theorem toShas (p : Option Addr) (n c : Nat) (S : Nat → ShaD) (w : World) (hn : n ≤ 1048576) (hp : ShasAt w p n S) :
    Calls Try.prog 39 #[.slice p n c] w fun e w' => ∃ g, e = .returned (.slice (some ⟨g, 0, none⟩) n n) ∧ Below w.heap.size w w' ∧ w.heap.size ≤ g ∧ g < w'.heap.size ∧ FRow w' g 0 (n * 2) (shaV S) := by
  obtain ⟨i0, hi, hz0, hz1, hz2⟩ := info_parts Try.info_sha
  go_enter Try.func39, Try.ntmps39
  go_wp2_with (at_make; refine wpList_make_full _ rfl _ _ 34 rfl w.heap.size 98 i0 _ 2 Try.underlying34 hi hz0 hz1 .i64 .i64 _ _ n rfl rfl (by omega) (by omega) (by rw [hz2]; omega) (by unfold maxLen; omega) (Nat.le_refl _) ?_; intro wm hm hgm)
  go_loopw [4] (fun i wr => ∃ k : Nat, k ≤ n ∧ i = .int .i64 k ∧ Below w.heap.size w wr ∧ ∃ cur, Lies wr w.heap.size 98 cur ∧ cur.size = n * 2 ∧ ∀ i, i < k * 2 → cur[i]? = some (shaV S i)) (fun i _ => n - (intOf i).toNat)
  case atStart =>
    rcases hm.2 with ⟨hv, _⟩ | ⟨g, cap, cur, hv, _, hg, _, _, hcs, _⟩
    · cases hv
    · obtain ⟨rfl, rfl⟩ : w.heap.size = g ∧ n = cap := by simpa using hv
      exact ⟨0, Nat.zero_le _, rfl, (Below.refl _ _).grown hgm (Nat.le_refl _) (fun _ h => by cases h), cur, hg, hcs, fun i hi => absurd hi (by omega)⟩
  case round =>
    obtain ⟨k, hk, rfl, hB, cur, hl, hs, hc⟩ := hrel
    by_cases hlt : k < n
    · rcases hp with hp | ⟨b, o, rfl, hb, hp⟩
      · omega
      obtain ⟨x0, x1⟩ := (hp.below hB hb).sha hlt
      have hput := putRow (V := shaV S) (m := 2) [.int .i64 (S k).id, .bool (S k).fe] rfl (fun j hj => by
        have hj' : j = 0 ∨ j = 1 := by omega
        rcases hj' with rfl | rfl
        · rw [Nat.add_zero, shaV0]; rfl
        · rw [shaV1]; rfl) hs hlt hc
      obtain ⟨a0, e0⟩ : ∃ s, (S k).id = s := ⟨_, rfl⟩
      obtain ⟨a1, e1⟩ : ∃ s, (S k).fe = s := ⟨_, rfl⟩
      rw [e0] at x0
      rw [e1] at x1
      rw [e0, e1] at hput
      obtain ⟨new, hnew⟩ : ∃ new, (cur.toList.take (k * 2) ++ [Value.int .i64 a0, .bool a1] ++ cur.toList.drop (k * 2 + 2)).toArray = new := ⟨_, rfl⟩
      rw [hnew] at hput
      have HN : Hid (_ = new) := hnew
      clear hnew hp e0 e1
      go_wp2_with fail
      refine (toShaC _ _ _).mono ?_
      rintro e w1 ⟨rfl, hb1⟩
      have l1 := hl.below hb1 hl.lt
      have B1 := hB.trans (hb1.mono hB.size)
      have s1 := hB.size
      clear hb1 hl x0 x1 hB
      have hi' : (Try.prog.info? 98).map (·.size) = some (#[Value.int .i64 a0, .bool a1] : Array Value).size := by rw [hi]; simp [hz1]
      go_wp2_with (refine wpList_store_part rfl 98 (.tmp 21) (.tmp 20) rfl w.heap.size (k * 2) #[Value.int .i64 a0, .bool a1] rfl rfl _ _ l1 hi' (by simp; omega) (by simp [Value.oneCell']) new HN.out ?_)
      have l2 := l1.set new
      go_roundw
      case rel => exact ⟨k + 1, by omega, by go_num, below_setRow B1 (Nat.le_refl _) _, _, l2, hput.1, hput.2⟩
      case measure => simp [intOf]; omega
    · obtain rfl : k = n := by omega
      have hlt := hl.lt
      go_wp2
      go_ret
      exact ⟨_, rfl, hB, Nat.le_refl _, hlt, fun i hi => by rw [Nat.zero_add]; exact hl.cell (hc i hi), fun i hi => hl.fro _⟩

theorem szShas (p : Option Addr) (n c : Nat) (L : Int) (w : World) (h0 : 0 ≤ L) (h1 : L ≤ 1048576) (hn : n ≤ maxLen) :
    Calls Try.prog 34 #[.slice p n c, .int .i64 L] w fun e w' => (∃ r : Int, e = .returned (.int .i64 r) ∧ (r = -1 ∨ (0 ≤ r ∧ r ≤ L ∧ (n : Int) ≤ L))) ∧ Below w.heap.size w w' := by
  unfold maxLen at hn
  by_cases hL : L < n
  · go_enter Try.func34, Try.ntmps34
    go_wp2
    go_ret
    exact ⟨⟨_, rfl, .inl rfl⟩, Below.refl _ _⟩
  · go_enter Try.func34, Try.ntmps34
    go_wp2
    go_ret
    refine ⟨⟨_, rfl, .inr ?_⟩, Below.refl _ _⟩
    first | omega | (refine ⟨?_, ?_⟩ <;> omega)
theorem eqShaC (a0 : Int) (a1 : Bool) (w : World) :
    Calls Try.prog 91 #[.agg #[.int .i64 a0, .bool a1], .agg #[.int .i64 a0, .bool a1]] w fun e w' => e = .returned (.bool true) ∧ Below w.heap.size w w' := by
  go_enter Try.func91, Try.ntmps91
  go_wp2
  go_ret
  exact ⟨rfl, ((Below.refl _ _).alloc (Nat.le_refl _) _).alloc (by simp) _⟩
set_option maxHeartbeats 2000000 in
theorem eqShas (p q : Option Addr) (n c d : Nat) (S : Nat → ShaD) (w : World) (hn : n ≤ 2000000) (hp : ShasAt w p n S) (hq : ShasAt w q n S) :
    Calls Try.prog 49 #[.slice p n c, .slice q n d] w fun e w' => e = .returned (.bool true) ∧ Below w.heap.size w w' := by
  go_enter Try.func49, Try.ntmps49
  go_wp2
  go_loopw [5] (fun i wr => ∃ k : Nat, k ≤ n ∧ i = .int .i64 k ∧ Below w.heap.size w wr) (fun i _ => n - (intOf i).toNat)
  case atStart => exact ⟨0, Nat.zero_le _, rfl, Below.refl _ _⟩
  case round =>
    obtain ⟨k, hk, rfl, hB⟩ := hrel
    by_cases hlt : k < n
    · rcases hp with hp | ⟨b, o, rfl, hb, hp⟩
      · omega
      rcases hq with hq | ⟨b', o', rfl, hb', hq⟩
      · omega
      obtain ⟨x0, x1⟩ := (hp.below hB hb).sha hlt
      obtain ⟨y0, y1⟩ := (hq.below hB hb').sha hlt
      clear hp hq
      go_wp2
      go_region_with ((go_at_call 91; refine (eqShaC _ _ _).mono ?_; rintro e w1 ⟨rfl, hb1⟩))
      all_goals
        have hbw : Below w.heap.size w w1 := by
          first
            | exact hB.trans (hb1.mono (by have := hB.size; simp; omega))
            | exact hB.drew.trans (hb1.mono (by have := hB.size; simp; omega))
        go_wp2
        go_roundw
        case rel => exact ⟨k + 1, by omega, by go_num, hbw⟩
        case measure => simp [intOf]; omega
    · go_wp2
      go_ret
      exact ⟨rfl, hB⟩
def mkSha (s i : Nat) : ShaD := ⟨((s + 2 * i : Nat) : Int), ((((s + 2 * i : Nat) : Int) + 1).tmod 3 == 0)⟩
def mixSha (s : Nat) (S : Nat → ShaD) (k i : Nat) : ShaD := if i < k then mkSha s i else S i
theorem mixSha_step (s k : Nat) (S : Nat → ShaD) (i : Nat) : (if i = k * 2 + 1 then Value.bool (mkSha s k).fe else if i = k * 2 then .int .i64 (mkSha s k).id else shaV (mixSha s S k) i) = shaV (mixSha s S (k + 1)) i := by
  have hk : mixSha s S (k + 1) k = mkSha s k := by unfold mixSha; rw [if_pos (Nat.lt_succ_self k)]
  by_cases e1 : i = k * 2 + 1
  · rw [if_pos e1, e1, shaV1, hk]
  by_cases e0 : i = k * 2
  · rw [if_neg e1, if_pos e0, e0, shaV0, hk]
  · rw [if_neg e1, if_neg e0]
    have hq : i / 2 ≠ k := by omega
    have hmx : mixSha s S k (i / 2) = mixSha s S (k + 1) (i / 2) := by
      unfold mixSha
      by_cases h : i / 2 < k
      · rw [if_pos h, if_pos (by omega)]
      · rw [if_neg h, if_neg (by omega)]
    unfold shaV
    rw [hmx]

set_option maxRecDepth 100000 in
set_option maxHeartbeats 4000000 in
theorem markShas (B : Nat) (p : Option Addr) (n c s : Nat) (S : Nat → ShaD) (w : World) (hn : n ≤ 1048576) (hs : s ≤ 40000000) (hs0 : 0 < s) (hBw : B ≤ w.heap.size) (ho : OwnR w B p n 2 (shaV S)) :
    Calls Try.prog 62 #[.slice p n c, .int .i64 s] w fun e w' => e = .returned (.int .i64 ((s + 2 * n : Nat) : Int)) ∧ ButO (qn p n) w w' ∧ OwnR w' B p n 2 (shaV (mkSha s)) := by
  go_enter Try.func62, Try.ntmps62
  go_wp2
  go_loopw [1, 5] (fun m i wr => ∃ k : Nat, k ≤ n ∧ i = .int .i64 k ∧ m = .int .i64 ((s + 2 * k : Nat) : Int) ∧ ButO (qn p n) w wr ∧ OwnR wr B p n 2 (shaV (mixSha s S k))) (fun _ i _ => n - (intOf i).toNat)
  case atStart => exact ⟨0, Nat.zero_le _, rfl, by simp, ButO.refl _ _, ho⟩
  case round =>
    obtain ⟨k, hk, rfl, rfl, hB, hf⟩ := hrel
    by_cases hlt : k < n
    · rcases hf with h0 | ⟨g, rfl, hg, hgl, hf⟩
      · omega
      have hqn : qn (some ⟨g, 0, none⟩) n = some ⟨g, 0, none⟩ := if_neg (by omega)
      rw [hqn] at hB
      have HQN : Hid (qn (some ⟨g, 0, none⟩) n = some ⟨g, 0, none⟩) := hqn
      clear hqn
      have hms : mkSha s k = ⟨((s + 2 * k : Nat) : Int), ((((s + 2 * k : Nat) : Int) + 1).tmod 3 == 0)⟩ := rfl
      have hnx : s + 2 * (k + 1) = s + 2 * k + 2 := by omega
      have hu1 : s + 2 * k ≤ 50000000 := by omega
      have hu0 : 0 < s + 2 * k := by omega
      obtain ⟨u, hu⟩ : ∃ u, s + 2 * k = u := ⟨_, rfl⟩
      rw [hu] at hms hnx hu1 hu0 ⊢
      have hstep := mixSha_step s k S
      rw [hms] at hstep
      have HST : Hid (∀ i, _) := hstep
      have HNX : Hid (s + 2 * (k + 1) = u + 2) := hnx
      clear hms hstep hnx hu ho
      have hfw : FRow wr g 0 (n * 2) (shaV (mixSha s S k)) := hf
      have hkm : k * 2 + 2 ≤ n * 2 := by omega
      clear hfw hBw
      have hB0 := hB
      have hf0 := hf
      have hg0 := hgl
      clear hf hB hgl
      obtain ⟨v0, x0⟩ : ∃ v, wr.cell? ⟨g, k * 2, none⟩ = some v := ⟨_, by have := hf0.1 (k * 2) (by omega); rwa [Nat.zero_add] at this⟩
      have f0 := hf0.2 (k * 2) (by omega)
      rw [Nat.zero_add] at f0
      obtain ⟨v1, x1⟩ : ∃ v, wr.cell? ⟨g, k * 2 + 1, none⟩ = some v := ⟨_, by have := hf0.1 (k * 2 + 1) (by omega); rwa [Nat.zero_add] at this⟩
      have f1 := hf0.2 (k * 2 + 1) (by omega)
      rw [Nat.zero_add] at f1
      have HF1 : Hid (FRow _ g 0 (n * 2) _) := ((hf0.put (k * 2) (by omega) (.int .i64 ((u : Int)))).put (k * 2 + 1) (by omega) (.bool ((((u : Int) + 1).tmod 3) == 0)))
      have HB1 : Hid (ButO (some ⟨g, 0, none⟩) w _) := ((hB0.set (j := k * 2) (.int .i64 ((u : Int)))).set (j := k * 2 + 1) (.bool ((((u : Int) + 1).tmod 3) == 0)))
      have HG1 : Hid (g < (((wr).setCell ⟨g, k * 2, none⟩ (.int .i64 ((u : Int)))).setCell ⟨g, k * 2 + 1, none⟩ (.bool ((((u : Int) + 1).tmod 3) == 0))).heap.size) := by show g < (((wr).setCell ⟨g, k * 2, none⟩ (.int .i64 ((u : Int)))).setCell ⟨g, k * 2 + 1, none⟩ (.bool ((((u : Int) + 1).tmod 3) == 0))).heap.size; simpa using hg0
      clear hf0 hB0 hg0
      go_wp2_with fail
      go_roundw
      case rel =>
        refine ⟨k + 1, by omega, by go_num, ?_, by rw [HQN.out]; exact HB1.out, .inr ⟨g, rfl, hg, HG1.out, HF1.out.congr (fun i _ => HST.out i)⟩⟩
        rw [HNX.out]
        first | rfl | (congr 1; omega) | go_num
      case measure => simp [intOf]; omega
    · obtain rfl : k = n := by omega
      go_wp2
      go_ret
      refine ⟨rfl, hB, ?_⟩
      rcases hf with h0 | ⟨g, h1, h2, h3, hf⟩
      · exact .inl h0
      · refine .inr ⟨g, h1, h2, h3, hf.congr (fun i hi => ?_)⟩
        unfold shaV mixSha
        have : i / 2 < k := by omega
        simp only [if_pos this]
end Go.Proofs.Ytdcjddiigipdmaa
