/- Lists of Reloc (gen_rec.py). -/
import Derived.Test.YtdcjddiigipdmaaRecB
import Derived.Test.YtdcjddiigipdmaaMrkT
namespace Go.Proofs.Ytdcjddiigipdmaa
open Go Go.RowKit Go.ChangeShapes Go.WideShapes Go.Deep
set_option linter.unusedVariables false

structure RelD where
  un : Int
  pl : Int
  kd : Int
  sy : ByteArray
  ad : Int
instance : Inhabited RelD := ⟨⟨0, 0, 0, ByteArray.empty, 0⟩⟩
def RelD.wf (d : RelD) : Prop := (Lit.int .i64 d.un).wf = true ∧ (Lit.int .i64 d.pl).wf = true ∧ (Lit.int .i64 d.kd).wf = true ∧ d.sy.size ≤ maxLen ∧ (Lit.int .i64 d.ad).wf = true
def relV (S : Nat → RelD) (i : Nat) : Value :=
  if i % 5 = 0 then .int .i64 (S (i / 5)).un else if i % 5 = 1 then .int .i64 (S (i / 5)).pl else if i % 5 = 2 then .int .i64 (S (i / 5)).kd else if i % 5 = 3 then .string (S (i / 5)).sy else .int .i64 (S (i / 5)).ad
theorem relV0 (S : Nat → RelD) (k : Nat) : relV S (k * 5) = .int .i64 (S k).un := by unfold relV; rw [if_pos (by omega), show (k * 5) / 5 = k from by omega]
theorem relV1 (S : Nat → RelD) (k : Nat) : relV S (k * 5 + 1) = .int .i64 (S k).pl := by unfold relV; rw [if_neg (by omega), if_pos (by omega), show (k * 5 + 1) / 5 = k from by omega]
theorem relV2 (S : Nat → RelD) (k : Nat) : relV S (k * 5 + 2) = .int .i64 (S k).kd := by unfold relV; rw [if_neg (by omega), if_neg (by omega), if_pos (by omega), show (k * 5 + 2) / 5 = k from by omega]
theorem relV3 (S : Nat → RelD) (k : Nat) : relV S (k * 5 + 3) = .string (S k).sy := by unfold relV; rw [if_neg (by omega), if_neg (by omega), if_neg (by omega), if_pos (by omega), show (k * 5 + 3) / 5 = k from by omega]
theorem relV4 (S : Nat → RelD) (k : Nat) : relV S (k * 5 + 4) = .int .i64 (S k).ad := by unfold relV; rw [if_neg (by omega), if_neg (by omega), if_neg (by omega), if_neg (by omega), show (k * 5 + 4) / 5 = k from by omega]
theorem VRow.rel {w : World} {b o n : Nat} {S : Nat → RelD} (h : VRow w b o (n * 5) (relV S)) {k : Nat} (hk : k < n) :
    w.cell? ⟨b, o + k * 5, none⟩ = some (.int .i64 (S k).un) ∧ w.cell? ⟨b, o + k * 5 + 1, none⟩ = some (.int .i64 (S k).pl) ∧ w.cell? ⟨b, o + k * 5 + 2, none⟩ = some (.int .i64 (S k).kd) ∧ w.cell? ⟨b, o + k * 5 + 3, none⟩ = some (.string (S k).sy) ∧ w.cell? ⟨b, o + k * 5 + 4, none⟩ = some (.int .i64 (S k).ad) := by
  have k0 := h.nth hk (j := 0) (by omega)
  rw [Nat.add_zero, Nat.add_zero, relV0] at k0
  have k1 := h.nth hk (j := 1) (by omega)
  rw [relV1] at k1
  have k2 := h.nth hk (j := 2) (by omega)
  rw [relV2] at k2
  have k3 := h.nth hk (j := 3) (by omega)
  rw [relV3] at k3
  have k4 := h.nth hk (j := 4) (by omega)
  rw [relV4] at k4
  exact ⟨k0, k1, k2, k3, k4⟩
abbrev RelsAt (w : World) (p : Option Addr) (n : Nat) (S : Nat → RelD) : Prop := RowsAt w p n 5 (relV S)

section
variable {H : Type} {enc : TypeId × Value → H} {P : Program} {w : World} {base : Nat} {spare : Nat → Bool} {held : Bool}
theorem open_rels {t e : TypeId} {f0 f1 f2 f3 f4 : Field} {fuel : Nat} {a : Option Addr} {len cap : Nat} {x : DataW H × List MemPlace} (ht : P.underlying t = some (.slice e)) (he : P.underlying e = some (.struct #[f0, f1, f2, f3, f4])) (hone : oneCellFields P #[f0, f1, f2, f3, f4] = true) (hC : P.cellsOf e = 5)
    (u0 : P.underlying f0.type = some (.int .i64)) (u1 : P.underlying f1.type = some (.int .i64)) (u2 : P.underlying f2.type = some (.int .i64)) (u3 : P.underlying f3.type = some .string) (u4 : P.underlying f4.type = some (.int .i64))
    (h : DataW.trod enc P w base spare held fuel t [.slice a len cap] = some x) : ∃ S, RelsAt w a len S ∧ (∀ i, i < len → (S i).wf) ∧ len ≤ cap ∧ cap ≤ maxLen := by
  rcases open_rows ht he hone hC h with ⟨rfl, rfl, rfl⟩ | ⟨ad, rfl, hl, hm, hx⟩
  · exact ⟨fun _ => default, .inl rfl, fun i hi => absurd hi (Nat.not_lt_zero _), Nat.le_refl _, Nat.zero_le _⟩
  have each : ∀ i, i < len → ∃ d : RelD, d.wf ∧ ∀ j, j < 5 → w.cell? ((ad.add (i * 5)).add j) = some (relV (fun _ => d) j) := by
    intro i hi
    obtain ⟨n, hf⟩ := hx i hi
    obtain ⟨v0, y0, c0, g0⟩ := hf 0 f0 rfl
    obtain ⟨v1, y1, c1, g1⟩ := hf 1 f1 rfl
    obtain ⟨v2, y2, c2, g2⟩ := hf 2 f2 rfl
    obtain ⟨v3, y3, c3, g3⟩ := hf 3 f3 rfl
    obtain ⟨v4, y4, c4, g4⟩ := hf 4 f4 rfl
    obtain ⟨a0, e0, _, w0⟩ := DataW.trod_int u0 g0
    obtain ⟨a1, e1, _, w1⟩ := DataW.trod_int u1 g1
    obtain ⟨a2, e2, _, w2⟩ := DataW.trod_int u2 g2
    obtain ⟨a3, e3, _, w3⟩ := DataW.trod_string u3 g3
    obtain ⟨a4, e4, _, w4⟩ := DataW.trod_int u4 g4
    simp only [List.cons.injEq, and_true] at e0 e1 e2 e3 e4
    subst e0 e1 e2 e3 e4
    refine ⟨⟨a0, a1, a2, a3, a4⟩, ⟨w0, w1, w2, w3, w4⟩, fun j hj => ?_⟩
    have hj' : j = 0 ∨ j = 1 ∨ j = 2 ∨ j = 3 ∨ j = 4 := by omega
    rcases hj' with rfl | rfl | rfl | rfl | rfl
    · exact c0
    · exact c1
    · exact c2
    · exact c3
    · exact c4
  obtain ⟨S, hS⟩ := choose_lt each
  refine ⟨S, ?_, fun i hi => (hS i hi).1, hl, hm⟩
  by_cases h0 : len = 0
  · exact .inl h0
  · obtain ⟨b, o, rfl, hb, hv⟩ := vrow_of (w := w) (ad := ad) (k := 5) (n := len) (V := relV S) (by decide) (by omega) (fun i hi j hj => by
      rw [(hS i hi).2 j hj]
      have e1 : (i * 5 + j) / 5 = i := by omega
      have e2 : (i * 5 + j) % 5 = j := by omega
      have e3 : j % 5 = j := by omega
      unfold relV
      rw [e1, e2, e3])
    exact .inr ⟨b, o, rfl, hb, hv⟩
end
theorem Try.info_rel : (Try.prog.info? 96).map (fun i => (i.zero, i.size, i.bytes)) = some (some (.agg #[.int .i64 0, .int .i64 0, .int .i64 0, .string ByteArray.empty, .int .i64 0]), 5, 48) := by kernel_rfl
theorem toRelC (a0 : Int) (a1 : Int) (a2 : Int) (a3 : ByteArray) (a4 : Int) (w : World) :
    Calls Try.prog 79 #[.agg #[.int .i64 a0, .int .i64 a1, .int .i64 a2, .string a3, .int .i64 a4]] w fun e w' => e = .returned (.agg #[.int .i64 a0, .int .i64 a1, .int .i64 a2, .string a3, .int .i64 a4]) ∧ Below w.heap.size w w' := by
  go_enter Try.func79, Try.ntmps79
  go_wp2
  refine bodyPost_ret (v := .agg #[.int .i64 a0, .int .i64 a1, .int .i64 a2, .string a3, .int .i64 a4]) (by simp [results, Try.results79, go_sem]) rfl ⟨rfl, ?_⟩
  exact (((Below.refl _ _).alloc (Nat.le_refl _) _).alloc (by simp) _).alloc (by simp; omega) _

set_option maxRecDepth 100000 in
set_option maxHeartbeats 2000000 in
theorem toRels (p : Option Addr) (n c : Nat) (S : Nat → RelD) (w : World) (hn : n ≤ 1048576) (hp : RelsAt w p n S) :
    Calls Try.prog 38 #[.slice p n c] w fun e w' => ∃ g, e = .returned (.slice (some ⟨g, 0, none⟩) n n) ∧ Below w.heap.size w w' ∧ w.heap.size ≤ g ∧ g < w'.heap.size ∧ FRow w' g 0 (n * 5) (relV S) := by
  obtain ⟨i0, hi, hz0, hz1, hz2⟩ := info_parts Try.info_rel
  go_enter Try.func38, Try.ntmps38
  go_wp2_with (at_make; refine wpList_make_full _ rfl _ _ 33 rfl w.heap.size 96 i0 _ 5 Try.underlying33 hi hz0 hz1 .i64 .i64 _ _ n rfl rfl (by omega) (by omega) (by rw [hz2]; omega) (by unfold maxLen; omega) (Nat.le_refl _) ?_; intro wm hm hgm)
  go_loopw [4] (fun i wr => ∃ k : Nat, k ≤ n ∧ i = .int .i64 k ∧ Below w.heap.size w wr ∧ ∃ cur, Lies wr w.heap.size 96 cur ∧ cur.size = n * 5 ∧ ∀ i, i < k * 5 → cur[i]? = some (relV S i)) (fun i _ => n - (intOf i).toNat)
  case atStart =>
    rcases hm.2 with ⟨hv, _⟩ | ⟨g, cap, cur, hv, _, hg, _, _, hcs, _⟩
    · cases hv
    · obtain ⟨rfl, rfl⟩ : w.heap.size = g ∧ n = cap := by simpa using hv
      exact ⟨0, Nat.zero_le _, rfl, (Below.refl _ _).grown hgm (Nat.le_refl _) (fun _ h => by cases h), cur, hg, hcs, fun i hi => absurd hi (by omega)⟩
  case round =>
    obtain ⟨k, hk, rfl, hB, cur, hl, hs, hc⟩ := hrel
    by_cases hlt : k < n
    · rcases hp with hp | ⟨b, o, rfl, hb, hp⟩
      · omega
      obtain ⟨x0, x1, x2, x3, x4⟩ := (hp.below hB hb).rel hlt
      have hput := putRow (V := relV S) (m := 5) [.int .i64 (S k).un, .int .i64 (S k).pl, .int .i64 (S k).kd, .string (S k).sy, .int .i64 (S k).ad] rfl (fun j hj => by
        have hj' : j = 0 ∨ j = 1 ∨ j = 2 ∨ j = 3 ∨ j = 4 := by omega
        rcases hj' with rfl | rfl | rfl | rfl | rfl
        · rw [Nat.add_zero, relV0]; rfl
        · rw [relV1]; rfl
        · rw [relV2]; rfl
        · rw [relV3]; rfl
        · rw [relV4]; rfl) hs hlt hc
      obtain ⟨a0, e0⟩ : ∃ s, (S k).un = s := ⟨_, rfl⟩
      obtain ⟨a1, e1⟩ : ∃ s, (S k).pl = s := ⟨_, rfl⟩
      obtain ⟨a2, e2⟩ : ∃ s, (S k).kd = s := ⟨_, rfl⟩
      obtain ⟨a3, e3⟩ : ∃ s, (S k).sy = s := ⟨_, rfl⟩
      obtain ⟨a4, e4⟩ : ∃ s, (S k).ad = s := ⟨_, rfl⟩
      rw [e0] at x0
      rw [e1] at x1
      rw [e2] at x2
      rw [e3] at x3
      rw [e4] at x4
      rw [e0, e1, e2, e3, e4] at hput
      obtain ⟨new, hnew⟩ : ∃ new, (cur.toList.take (k * 5) ++ [Value.int .i64 a0, .int .i64 a1, .int .i64 a2, .string a3, .int .i64 a4] ++ cur.toList.drop (k * 5 + 5)).toArray = new := ⟨_, rfl⟩
      rw [hnew] at hput
      have HN : Hid (_ = new) := hnew
      clear hnew hp e0 e1 e2 e3 e4
      go_wp2_with fail
      refine (toRelC _ _ _ _ _ _).mono ?_
      rintro e w1 ⟨rfl, hb1⟩
      have l1 := hl.below hb1 hl.lt
      have B1 := hB.trans (hb1.mono hB.size)
      have s1 := hB.size
      clear hb1 hl x0 x1 x2 x3 x4 hB
      have hi' : (Try.prog.info? 96).map (·.size) = some (#[Value.int .i64 a0, .int .i64 a1, .int .i64 a2, .string a3, .int .i64 a4] : Array Value).size := by rw [hi]; simp [hz1]
      go_wp2_with (refine wpList_store_part rfl 96 (.tmp 21) (.tmp 20) rfl w.heap.size (k * 5) #[Value.int .i64 a0, .int .i64 a1, .int .i64 a2, .string a3, .int .i64 a4] rfl rfl _ _ l1 hi' (by simp; omega) (by simp [Value.oneCell']) new HN.out ?_)
      have l2 := l1.set new
      go_roundw
      case rel => exact ⟨k + 1, by omega, by go_num, below_setRow B1 (Nat.le_refl _) _, _, l2, hput.1, hput.2⟩
      case measure => simp [intOf]; omega
    · obtain rfl : k = n := by omega
      have hlt := hl.lt
      go_wp2
      go_ret
      exact ⟨_, rfl, hB, Nat.le_refl _, hlt, fun i hi => by rw [Nat.zero_add]; exact hl.cell (hc i hi), fun i hi => hl.fro _⟩

theorem szRelC (a0 : Int) (a1 : Int) (a2 : Int) (a3 : ByteArray) (a4 : Int) (l : Int) (w : World) (hs3 : a3.size ≤ maxLen) (h0 : 0 ≤ l) (h1 : l ≤ 1048576) :
    Calls Try.prog 70 #[.agg #[.int .i64 a0, .int .i64 a1, .int .i64 a2, .string a3, .int .i64 a4], .int .i64 l] w fun e w' => e = .returned (.int .i64 (if l < (a3.size : Int) then -1 else l - ((a3.size : Int)))) ∧ Below w.heap.size w w' := by
  unfold maxLen at hs3
  by_cases h : l < a3.size
  · rw [if_pos (by omega)]
    go_enter Try.func70, Try.ntmps70
    go_wp2
    go_ret
    exact ⟨rfl, grown1' _ _⟩
  · rw [if_neg (by omega)]
    go_enter Try.func70, Try.ntmps70
    go_wp2
    go_ret
    exact ⟨rfl, grown1' _ _⟩
set_option maxHeartbeats 2000000 in
theorem szRels (p : Option Addr) (n c : Nat) (S : Nat → RelD) (L : Int) (w : World) (h0 : 0 ≤ L) (h1 : L ≤ 1048576) (hn : n ≤ maxLen) (hw : ∀ i, i < n → (S i).sy.size ≤ maxLen) (hp : RelsAt w p n S) :
    Calls Try.prog 33 #[.slice p n c, .int .i64 L] w fun e w' => (∃ r : Int, e = .returned (.int .i64 r) ∧ (r = -1 ∨ (0 ≤ r ∧ r ≤ L ∧ (n : Int) ≤ L ∧ ∀ i, i < n → ((S i).sy.size : Int) ≤ L))) ∧ Below w.heap.size w w' := by
  unfold maxLen at hn
  by_cases hL : L < n
  · go_enter Try.func33, Try.ntmps33
    go_wp2
    go_ret
    exact ⟨⟨_, rfl, .inl rfl⟩, Below.refl _ _⟩
  · go_enter Try.func33, Try.ntmps33
    go_wp2_with fail
    go_loopw [1, 5] (fun m i wr => ∃ (k : Nat) (l : Int), k ≤ n ∧ i = .int .i64 k ∧ m = .int .i64 l ∧ 0 ≤ l ∧ l ≤ L ∧ (∀ j, j < k → ((S j).sy.size : Int) ≤ L) ∧ Below w.heap.size w wr) (fun _ i _ => n - (intOf i).toNat)
    case atStart => exact ⟨0, L - n, Nat.zero_le _, rfl, rfl, by omega, by omega, fun j hj => absurd hj (Nat.not_lt_zero _), Below.refl _ _⟩
    case round =>
      obtain ⟨k, l, hk, rfl, rfl, hl0, hl1, hall, hB⟩ := hrel
      by_cases hlt : k < n
      · rcases hp with hp | ⟨b, o, rfl, hb, hp⟩
        · omega
        obtain ⟨x0, x1, x2, x3, x4⟩ := (hp.below hB hb).rel hlt
        have hwk := hw k hlt
        obtain ⟨a0, e0⟩ : ∃ s, (S k).un = s := ⟨_, rfl⟩
        obtain ⟨a1, e1⟩ : ∃ s, (S k).pl = s := ⟨_, rfl⟩
        obtain ⟨a2, e2⟩ : ∃ s, (S k).kd = s := ⟨_, rfl⟩
        obtain ⟨a3, e3⟩ : ∃ s, (S k).sy = s := ⟨_, rfl⟩
        obtain ⟨a4, e4⟩ : ∃ s, (S k).ad = s := ⟨_, rfl⟩
        rw [e0] at x0
        rw [e1] at x1
        rw [e2] at x2
        rw [e3] at x3
        rw [e4] at x4
        rw [e3] at hwk
        have HE3 : Hid ((S k).sy = a3) := e3
        have hsz := hB.size
        clear hp e0 e1 e2 e3 e4
        have cz := fun w' => szRelC a0 a1 a2 a3 a4 l w' hwk hl0 (by omega)
        by_cases h : l < (a3.size : Int)
        · simp only [if_pos h] at cz
          have HC : Hid (∀ w' : World, _) := cz
          clear cz
          go_wp2_with fail
          refine (HC.out _).mono ?_
          rintro e w2 ⟨rfl, hb2⟩
          have B2 := hB.trans (hb2.mono hsz)
          clear hb2 hB x0 x1 x2 x3 x4
          go_wp2_with fail
          go_ret
          exact ⟨⟨_, rfl, .inl rfl⟩, B2⟩
        · simp only [if_neg h] at cz
          have HC : Hid (∀ w' : World, _) := cz
          clear cz
          obtain ⟨l2, hl2⟩ : ∃ l2, l - ((a3.size : Int)) = l2 := ⟨_, rfl⟩
          rw [hl2] at HC
          have hl3 : ¬ l2 < 0 := by omega
          go_wp2_with fail
          refine (HC.out _).mono ?_
          rintro e w2 ⟨rfl, hb2⟩
          have B2 := hB.trans (hb2.mono hsz)
          clear hb2 hB x0 x1 x2 x3 x4
          go_wp2_with fail
          go_roundw
          case rel => exact ⟨k + 1, l2, by omega, by go_num, rfl, by omega, by omega, fun j hj => by
            rcases Nat.lt_succ_iff_lt_or_eq.1 hj with h' | rfl
            · exact hall j h'
            · rw [HE3.out]; first | omega | exact ⟨by omega, by omega⟩, B2⟩
          case measure => simp [intOf]; omega
      · obtain rfl : k = n := by omega
        go_wp2
        go_ret
        exact ⟨⟨_, rfl, .inr ⟨hl0, by omega, by omega, hall⟩⟩, hB⟩
theorem eqRelC (a0 : Int) (a1 : Int) (a2 : Int) (a3 : ByteArray) (a4 : Int) (w : World) :
    Calls Try.prog 90 #[.agg #[.int .i64 a0, .int .i64 a1, .int .i64 a2, .string a3, .int .i64 a4], .agg #[.int .i64 a0, .int .i64 a1, .int .i64 a2, .string a3, .int .i64 a4]] w fun e w' => e = .returned (.bool true) ∧ Below w.heap.size w w' := by
  go_enter Try.func90, Try.ntmps90
  go_wp2
  go_ret
  exact ⟨rfl, ((Below.refl _ _).alloc (Nat.le_refl _) _).alloc (by simp) _⟩
set_option maxHeartbeats 2000000 in
theorem eqRels (p q : Option Addr) (n c d : Nat) (S : Nat → RelD) (w : World) (hn : n ≤ 2000000) (hp : RelsAt w p n S) (hq : RelsAt w q n S) :
    Calls Try.prog 48 #[.slice p n c, .slice q n d] w fun e w' => e = .returned (.bool true) ∧ Below w.heap.size w w' := by
  go_enter Try.func48, Try.ntmps48
  go_wp2
  go_loopw [5] (fun i wr => ∃ k : Nat, k ≤ n ∧ i = .int .i64 k ∧ Below w.heap.size w wr) (fun i _ => n - (intOf i).toNat)
  case atStart => exact ⟨0, Nat.zero_le _, rfl, Below.refl _ _⟩
  case round =>
    obtain ⟨k, hk, rfl, hB⟩ := hrel
    by_cases hlt : k < n
    · rcases hp with hp | ⟨b, o, rfl, hb, hp⟩
      · omega
      rcases hq with hq | ⟨b', o', rfl, hb', hq⟩
      · omega
      obtain ⟨x0, x1, x2, x3, x4⟩ := (hp.below hB hb).rel hlt
      obtain ⟨y0, y1, y2, y3, y4⟩ := (hq.below hB hb').rel hlt
      clear hp hq
      go_wp2
      go_region_with ((go_at_call 90; refine (eqRelC _ _ _ _ _ _).mono ?_; rintro e w1 ⟨rfl, hb1⟩))
      all_goals
        have hbw : Below w.heap.size w w1 := by
          first
            | exact hB.trans (hb1.mono (by have := hB.size; simp; omega))
            | exact hB.drew.trans (hb1.mono (by have := hB.size; simp; omega))
        go_wp2
        go_roundw
        case rel => exact ⟨k + 1, by omega, by go_num, hbw⟩
        case measure => simp [intOf]; omega
    · go_wp2
      go_ret
      exact ⟨rfl, hB⟩
def mkRel (s i : Nat) : RelD := ⟨((s + 5 * i : Nat) : Int), ((s + 5 * i : Nat) : Int) + 1, ((s + 5 * i : Nat) : Int) + 1 + 1, mtS (s + 5 * i + 3), ((s + 5 * i : Nat) : Int) + 1 + 1 + 1 + 1⟩
def mixRel (s : Nat) (S : Nat → RelD) (k i : Nat) : RelD := if i < k then mkRel s i else S i
theorem mixRel_step (s k : Nat) (S : Nat → RelD) (i : Nat) : (if i = k * 5 + 4 then Value.int .i64 (mkRel s k).ad else if i = k * 5 + 3 then .string (mkRel s k).sy else if i = k * 5 + 2 then .int .i64 (mkRel s k).kd else if i = k * 5 + 1 then .int .i64 (mkRel s k).pl else if i = k * 5 then .int .i64 (mkRel s k).un else relV (mixRel s S k) i) = relV (mixRel s S (k + 1)) i := by
  have hk : mixRel s S (k + 1) k = mkRel s k := by unfold mixRel; rw [if_pos (Nat.lt_succ_self k)]
  by_cases e4 : i = k * 5 + 4
  · rw [if_pos e4, e4, relV4, hk]
  by_cases e3 : i = k * 5 + 3
  · rw [if_neg e4, if_pos e3, e3, relV3, hk]
  by_cases e2 : i = k * 5 + 2
  · rw [if_neg e4, if_neg e3, if_pos e2, e2, relV2, hk]
  by_cases e1 : i = k * 5 + 1
  · rw [if_neg e4, if_neg e3, if_neg e2, if_pos e1, e1, relV1, hk]
  by_cases e0 : i = k * 5
  · rw [if_neg e4, if_neg e3, if_neg e2, if_neg e1, if_pos e0, e0, relV0, hk]
  · rw [if_neg e4, if_neg e3, if_neg e2, if_neg e1, if_neg e0]
    have hq : i / 5 ≠ k := by omega
    have hmx : mixRel s S k (i / 5) = mixRel s S (k + 1) (i / 5) := by
      unfold mixRel
      by_cases h : i / 5 < k
      · rw [if_pos h, if_pos (by omega)]
      · rw [if_neg h, if_neg (by omega)]
    unfold relV
    rw [hmx]

set_option maxRecDepth 100000 in
set_option maxHeartbeats 4000000 in
theorem markRels (B : Nat) (p : Option Addr) (n c s : Nat) (S : Nat → RelD) (w : World) (hn : n ≤ 1048576) (hs : s ≤ 40000000) (hs0 : 0 < s) (hBw : B ≤ w.heap.size) (ho : OwnR w B p n 5 (relV S)) :
    Calls Try.prog 61 #[.slice p n c, .int .i64 s] w fun e w' => e = .returned (.int .i64 ((s + 5 * n : Nat) : Int)) ∧ ButO (qn p n) w w' ∧ OwnR w' B p n 5 (relV (mkRel s)) := by
  go_enter Try.func61, Try.ntmps61
  go_wp2
  go_loopw [1, 5] (fun m i wr => ∃ k : Nat, k ≤ n ∧ i = .int .i64 k ∧ m = .int .i64 ((s + 5 * k : Nat) : Int) ∧ ButO (qn p n) w wr ∧ OwnR wr B p n 5 (relV (mixRel s S k))) (fun _ i _ => n - (intOf i).toNat)
  case atStart => exact ⟨0, Nat.zero_le _, rfl, by simp, ButO.refl _ _, ho⟩
  case round =>
    obtain ⟨k, hk, rfl, rfl, hB, hf⟩ := hrel
    by_cases hlt : k < n
    · rcases hf with h0 | ⟨g, rfl, hg, hgl, hf⟩
      · omega
      have hqn : qn (some ⟨g, 0, none⟩) n = some ⟨g, 0, none⟩ := if_neg (by omega)
      rw [hqn] at hB
      have HQN : Hid (qn (some ⟨g, 0, none⟩) n = some ⟨g, 0, none⟩) := hqn
      clear hqn
      have hms : mkRel s k = ⟨((s + 5 * k : Nat) : Int), ((s + 5 * k : Nat) : Int) + 1, ((s + 5 * k : Nat) : Int) + 1 + 1, mtS (s + 5 * k + 3), ((s + 5 * k : Nat) : Int) + 1 + 1 + 1 + 1⟩ := rfl
      have hnx : s + 5 * (k + 1) = s + 5 * k + 5 := by omega
      have hu1 : s + 5 * k ≤ 50000000 := by omega
      have hu0 : 0 < s + 5 * k := by omega
      obtain ⟨u, hu⟩ : ∃ u, s + 5 * k = u := ⟨_, rfl⟩
      rw [hu] at hms hnx hu1 hu0 ⊢
      have hstep := mixRel_step s k S
      rw [hms] at hstep
      have HST : Hid (∀ i, _) := hstep
      have HNX : Hid (s + 5 * (k + 1) = u + 5) := hnx
      clear hms hstep hnx hu ho
      have hfw : FRow wr g 0 (n * 5) (relV (mixRel s S k)) := hf
      have hkm : k * 5 + 5 ≤ n * 5 := by omega
      clear hfw hBw
      have hB0 := hB
      have hf0 := hf
      have hg0 := hgl
      clear hf hB hgl
      obtain ⟨v0, x0⟩ : ∃ v, wr.cell? ⟨g, k * 5, none⟩ = some v := ⟨_, by have := hf0.1 (k * 5) (by omega); rwa [Nat.zero_add] at this⟩
      have f0 := hf0.2 (k * 5) (by omega)
      rw [Nat.zero_add] at f0
      obtain ⟨v1, x1⟩ : ∃ v, wr.cell? ⟨g, k * 5 + 1, none⟩ = some v := ⟨_, by have := hf0.1 (k * 5 + 1) (by omega); rwa [Nat.zero_add] at this⟩
      have f1 := hf0.2 (k * 5 + 1) (by omega)
      rw [Nat.zero_add] at f1
      obtain ⟨v2, x2⟩ : ∃ v, wr.cell? ⟨g, k * 5 + 2, none⟩ = some v := ⟨_, by have := hf0.1 (k * 5 + 2) (by omega); rwa [Nat.zero_add] at this⟩
      have f2 := hf0.2 (k * 5 + 2) (by omega)
      rw [Nat.zero_add] at f2
      have HF1 : Hid (FRow _ g 0 (n * 5) _) := (((hf0.put (k * 5) (by omega) (.int .i64 ((u : Int)))).put (k * 5 + 1) (by omega) (.int .i64 ((u : Int) + 1))).put (k * 5 + 2) (by omega) (.int .i64 ((u : Int) + 1 + 1)))
      have HB1 : Hid (ButO (some ⟨g, 0, none⟩) w _) := (((hB0.set (j := k * 5) (.int .i64 ((u : Int)))).set (j := k * 5 + 1) (.int .i64 ((u : Int) + 1))).set (j := k * 5 + 2) (.int .i64 ((u : Int) + 1 + 1)))
      have HG1 : Hid (g < ((((wr).setCell ⟨g, k * 5, none⟩ (.int .i64 ((u : Int)))).setCell ⟨g, k * 5 + 1, none⟩ (.int .i64 ((u : Int) + 1))).setCell ⟨g, k * 5 + 2, none⟩ (.int .i64 ((u : Int) + 1 + 1))).heap.size) := by show g < ((((wr).setCell ⟨g, k * 5, none⟩ (.int .i64 ((u : Int)))).setCell ⟨g, k * 5 + 1, none⟩ (.int .i64 ((u : Int) + 1))).setCell ⟨g, k * 5 + 2, none⟩ (.int .i64 ((u : Int) + 1 + 1))).heap.size; simpa using hg0
      clear hf0 hB0 hg0
      go_wp2_with fail
      rw [show (u : Int) + 1 + 1 + 1 = ((u + 3 : Nat) : Int) from by omega]
      refine (markTextC (u + 3) _ (by omega) (by omega)).mono ?_
      rintro e W1 ⟨rfl, hb1⟩
      have hB1 := HB1.out.trans (ButO.of_below hb1)
      have hf1 := HF1.out.below hb1 HG1.out
      have hg1 := Nat.lt_of_lt_of_le HG1.out hb1.size
      clear HF1 HB1 HG1 hb1 v0 x0 f0 v1 x1 f1 v2 x2 f2
      obtain ⟨v3, x3⟩ : ∃ v, W1.cell? ⟨g, k * 5 + 3, none⟩ = some v := ⟨_, by have := hf1.1 (k * 5 + 3) (by omega); rwa [Nat.zero_add] at this⟩
      have f3 := hf1.2 (k * 5 + 3) (by omega)
      rw [Nat.zero_add] at f3
      obtain ⟨v4, x4⟩ : ∃ v, W1.cell? ⟨g, k * 5 + 4, none⟩ = some v := ⟨_, by have := hf1.1 (k * 5 + 4) (by omega); rwa [Nat.zero_add] at this⟩
      have f4 := hf1.2 (k * 5 + 4) (by omega)
      rw [Nat.zero_add] at f4
      have HF2 : Hid (FRow _ g 0 (n * 5) _) := ((hf1.put (k * 5 + 3) (by omega) (.string (mtS (u + 3)))).put (k * 5 + 4) (by omega) (.int .i64 ((u : Int) + 1 + 1 + 1 + 1)))
      have HB2 : Hid (ButO (some ⟨g, 0, none⟩) w _) := ((hB1.set (j := k * 5 + 3) (.string (mtS (u + 3)))).set (j := k * 5 + 4) (.int .i64 ((u : Int) + 1 + 1 + 1 + 1)))
      have HG2 : Hid (g < (((W1).setCell ⟨g, k * 5 + 3, none⟩ (.string (mtS (u + 3)))).setCell ⟨g, k * 5 + 4, none⟩ (.int .i64 ((u : Int) + 1 + 1 + 1 + 1))).heap.size) := by show g < (((W1).setCell ⟨g, k * 5 + 3, none⟩ (.string (mtS (u + 3)))).setCell ⟨g, k * 5 + 4, none⟩ (.int .i64 ((u : Int) + 1 + 1 + 1 + 1))).heap.size; simpa using hg1
      clear hf1 hB1 hg1
      go_wp2_with fail
      go_roundw
      case rel =>
        refine ⟨k + 1, by omega, by go_num, ?_, by rw [HQN.out]; exact HB2.out, .inr ⟨g, rfl, hg, HG2.out, HF2.out.congr (fun i _ => HST.out i)⟩⟩
        rw [HNX.out]
        first | rfl | (congr 1; omega) | go_num
      case measure => simp [intOf]; omega
    · obtain rfl : k = n := by omega
      go_wp2
      go_ret
      refine ⟨rfl, hB, ?_⟩
      rcases hf with h0 | ⟨g, h1, h2, h3, hf⟩
      · exact .inl h0
      · refine .inr ⟨g, h1, h2, h3, hf.congr (fun i hi => ?_)⟩
        unfold relV mixRel
        have : i / 5 < k := by omega
        simp only [if_pos this]
end Go.Proofs.Ytdcjddiigipdmaa
