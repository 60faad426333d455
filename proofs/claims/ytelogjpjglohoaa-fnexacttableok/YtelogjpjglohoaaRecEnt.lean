/- Lists of Entry (gen_rec.py). -/
import Derived.Test.YtelogjpjglohoaaRecB
import Derived.Test.YtelogjpjglohoaaMrkT
namespace Go.Proofs.Ytelogjpjglohoaa
open Go Go.RowKit Go.ChangeShapes Go.WideShapes Go.Deep
set_option linter.unusedVariables false

structure EntD where
  nm : ByteArray
  kd : Int
  pl : Int
  sz : Int
  fr : Int
  ow : Int
instance : Inhabited EntD := ⟨⟨ByteArray.empty, 0, 0, 0, 0, 0⟩⟩
def EntD.wf (d : EntD) : Prop := d.nm.size ≤ maxLen ∧ (Lit.int .i64 d.kd).wf = true ∧ (Lit.int .i64 d.pl).wf = true ∧ (Lit.int .i64 d.sz).wf = true ∧ (Lit.int .i64 d.fr).wf = true ∧ (Lit.int .i64 d.ow).wf = true
def entV (S : Nat → EntD) (i : Nat) : Value :=
  if i % 6 = 0 then .string (S (i / 6)).nm else if i % 6 = 1 then .int .i64 (S (i / 6)).kd else if i % 6 = 2 then .int .i64 (S (i / 6)).pl else if i % 6 = 3 then .int .i64 (S (i / 6)).sz else if i % 6 = 4 then .int .i64 (S (i / 6)).fr else .int .i64 (S (i / 6)).ow
theorem entV0 (S : Nat → EntD) (k : Nat) : entV S (k * 6) = .string (S k).nm := by unfold entV; rw [if_pos (by omega), show (k * 6) / 6 = k from by omega]
theorem entV1 (S : Nat → EntD) (k : Nat) : entV S (k * 6 + 1) = .int .i64 (S k).kd := by unfold entV; rw [if_neg (by omega), if_pos (by omega), show (k * 6 + 1) / 6 = k from by omega]
theorem entV2 (S : Nat → EntD) (k : Nat) : entV S (k * 6 + 2) = .int .i64 (S k).pl := by unfold entV; rw [if_neg (by omega), if_neg (by omega), if_pos (by omega), show (k * 6 + 2) / 6 = k from by omega]
theorem entV3 (S : Nat → EntD) (k : Nat) : entV S (k * 6 + 3) = .int .i64 (S k).sz := by unfold entV; rw [if_neg (by omega), if_neg (by omega), if_neg (by omega), if_pos (by omega), show (k * 6 + 3) / 6 = k from by omega]
theorem entV4 (S : Nat → EntD) (k : Nat) : entV S (k * 6 + 4) = .int .i64 (S k).fr := by unfold entV; rw [if_neg (by omega), if_neg (by omega), if_neg (by omega), if_neg (by omega), if_pos (by omega), show (k * 6 + 4) / 6 = k from by omega]
theorem entV5 (S : Nat → EntD) (k : Nat) : entV S (k * 6 + 5) = .int .i64 (S k).ow := by unfold entV; rw [if_neg (by omega), if_neg (by omega), if_neg (by omega), if_neg (by omega), if_neg (by omega), show (k * 6 + 5) / 6 = k from by omega]
theorem VRow.ent {w : World} {b o n : Nat} {S : Nat → EntD} (h : VRow w b o (n * 6) (entV S)) {k : Nat} (hk : k < n) :
    w.cell? ⟨b, o + k * 6, none⟩ = some (.string (S k).nm) ∧ w.cell? ⟨b, o + k * 6 + 1, none⟩ = some (.int .i64 (S k).kd) ∧ w.cell? ⟨b, o + k * 6 + 2, none⟩ = some (.int .i64 (S k).pl) ∧ w.cell? ⟨b, o + k * 6 + 3, none⟩ = some (.int .i64 (S k).sz) ∧ w.cell? ⟨b, o + k * 6 + 4, none⟩ = some (.int .i64 (S k).fr) ∧ w.cell? ⟨b, o + k * 6 + 5, none⟩ = some (.int .i64 (S k).ow) := by
  have k0 := h.nth hk (j := 0) (by omega)
  rw [Nat.add_zero, Nat.add_zero, entV0] at k0
  have k1 := h.nth hk (j := 1) (by omega)
  rw [entV1] at k1
  have k2 := h.nth hk (j := 2) (by omega)
  rw [entV2] at k2
  have k3 := h.nth hk (j := 3) (by omega)
  rw [entV3] at k3
  have k4 := h.nth hk (j := 4) (by omega)
  rw [entV4] at k4
  have k5 := h.nth hk (j := 5) (by omega)
  rw [entV5] at k5
  exact ⟨k0, k1, k2, k3, k4, k5⟩
abbrev EntsAt (w : World) (p : Option Addr) (n : Nat) (S : Nat → EntD) : Prop := RowsAt w p n 6 (entV S)

section
variable {H : Type} {enc : TypeId × Value → H} {P : Program} {w : World} {base : Nat} {spare : Nat → Bool} {held : Bool}
theorem open_ents {t e : TypeId} {f0 f1 f2 f3 f4 f5 : Field} {fuel : Nat} {a : Option Addr} {len cap : Nat} {x : DataW H × List MemPlace} (ht : P.underlying t = some (.slice e)) (he : P.underlying e = some (.struct #[f0, f1, f2, f3, f4, f5])) (hone : oneCellFields P #[f0, f1, f2, f3, f4, f5] = true) (hC : P.cellsOf e = 6)
    (u0 : P.underlying f0.type = some .string) (u1 : P.underlying f1.type = some (.int .i64)) (u2 : P.underlying f2.type = some (.int .i64)) (u3 : P.underlying f3.type = some (.int .i64)) (u4 : P.underlying f4.type = some (.int .i64)) (u5 : P.underlying f5.type = some (.int .i64))
    (h : DataW.trod enc P w base spare held fuel t [.slice a len cap] = some x) : ∃ S, EntsAt w a len S ∧ (∀ i, i < len → (S i).wf) ∧ len ≤ cap ∧ cap ≤ maxLen := by
  rcases open_rows ht he hone hC h with ⟨rfl, rfl, rfl⟩ | ⟨ad, rfl, hl, hm, hx⟩
  · exact ⟨fun _ => default, .inl rfl, fun i hi => absurd hi (Nat.not_lt_zero _), Nat.le_refl _, Nat.zero_le _⟩
  have each : ∀ i, i < len → ∃ d : EntD, d.wf ∧ ∀ j, j < 6 → w.cell? ((ad.add (i * 6)).add j) = some (entV (fun _ => d) j) := by
    intro i hi
    obtain ⟨n, hf⟩ := hx i hi
    obtain ⟨v0, y0, c0, g0⟩ := hf 0 f0 rfl
    obtain ⟨v1, y1, c1, g1⟩ := hf 1 f1 rfl
    obtain ⟨v2, y2, c2, g2⟩ := hf 2 f2 rfl
    obtain ⟨v3, y3, c3, g3⟩ := hf 3 f3 rfl
    obtain ⟨v4, y4, c4, g4⟩ := hf 4 f4 rfl
    obtain ⟨v5, y5, c5, g5⟩ := hf 5 f5 rfl
    obtain ⟨a0, e0, _, w0⟩ := DataW.trod_string u0 g0
    obtain ⟨a1, e1, _, w1⟩ := DataW.trod_int u1 g1
    obtain ⟨a2, e2, _, w2⟩ := DataW.trod_int u2 g2
    obtain ⟨a3, e3, _, w3⟩ := DataW.trod_int u3 g3
    obtain ⟨a4, e4, _, w4⟩ := DataW.trod_int u4 g4
    obtain ⟨a5, e5, _, w5⟩ := DataW.trod_int u5 g5
    simp only [List.cons.injEq, and_true] at e0 e1 e2 e3 e4 e5
    subst e0 e1 e2 e3 e4 e5
    refine ⟨⟨a0, a1, a2, a3, a4, a5⟩, ⟨w0, w1, w2, w3, w4, w5⟩, fun j hj => ?_⟩
    have hj' : j = 0 ∨ j = 1 ∨ j = 2 ∨ j = 3 ∨ j = 4 ∨ j = 5 := by omega
    rcases hj' with rfl | rfl | rfl | rfl | rfl | rfl
    · exact c0
    · exact c1
    · exact c2
    · exact c3
    · exact c4
    · exact c5
  obtain ⟨S, hS⟩ := choose_lt each
  refine ⟨S, ?_, fun i hi => (hS i hi).1, hl, hm⟩
  by_cases h0 : len = 0
  · exact .inl h0
  · obtain ⟨b, o, rfl, hb, hv⟩ := vrow_of (w := w) (ad := ad) (k := 6) (n := len) (V := entV S) (by decide) (by omega) (fun i hi j hj => by
      rw [(hS i hi).2 j hj]
      have e1 : (i * 6 + j) / 6 = i := by omega
      have e2 : (i * 6 + j) % 6 = j := by omega
      have e3 : j % 6 = j := by omega
      unfold entV
      rw [e1, e2, e3])
    exact .inr ⟨b, o, rfl, hb, hv⟩
end
theorem Try.info_ent : (Try.prog.info? 55).map (fun i => (i.zero, i.size, i.bytes)) = some (some (.agg #[.string ByteArray.empty, .int .i64 0, .int .i64 0, .int .i64 0, .int .i64 0, .int .i64 0]), 6, 56) := by kernel_rfl
theorem toEntC (a0 : ByteArray) (a1 : Int) (a2 : Int) (a3 : Int) (a4 : Int) (a5 : Int) (w : World) :
    Calls Try.prog 30 #[.agg #[.string a0, .int .i64 a1, .int .i64 a2, .int .i64 a3, .int .i64 a4, .int .i64 a5]] w fun e w' => e = .returned (.agg #[.string a0, .int .i64 a1, .int .i64 a2, .int .i64 a3, .int .i64 a4, .int .i64 a5]) ∧ Below w.heap.size w w' := by
  go_enter Try.func30, Try.ntmps30
  go_wp2
  refine bodyPost_ret (v := .agg #[.string a0, .int .i64 a1, .int .i64 a2, .int .i64 a3, .int .i64 a4, .int .i64 a5]) (by simp [results, Try.results30, go_sem]) rfl ⟨rfl, ?_⟩
  exact (((Below.refl _ _).alloc (Nat.le_refl _) _).alloc (by simp) _).alloc (by simp; omega) _

set_option maxRecDepth 100000 in
set_option maxHeartbeats 2000000 in
theorem toEnts (p : Option Addr) (n c : Nat) (S : Nat → EntD) (w : World) (hn : n ≤ 1048576) (hp : EntsAt w p n S) :
    Calls Try.prog 13 #[.slice p n c] w fun e w' => ∃ g, e = .returned (.slice (some ⟨g, 0, none⟩) n n) ∧ Below w.heap.size w w' ∧ w.heap.size ≤ g ∧ g < w'.heap.size ∧ FRow w' g 0 (n * 6) (entV S) := by
  obtain ⟨i0, hi, hz0, hz1, hz2⟩ := info_parts Try.info_ent
  go_enter Try.func13, Try.ntmps13
  go_wp2_with (at_make; refine wpList_make_full _ rfl _ _ 31 rfl w.heap.size 55 i0 _ 6 Try.underlying31 hi hz0 hz1 .i64 .i64 _ _ n rfl rfl (by omega) (by omega) (by rw [hz2]; omega) (by unfold maxLen; omega) (Nat.le_refl _) ?_; intro wm hm hgm)
  go_loopw [4] (fun i wr => ∃ k : Nat, k ≤ n ∧ i = .int .i64 k ∧ Below w.heap.size w wr ∧ ∃ cur, Lies wr w.heap.size 55 cur ∧ cur.size = n * 6 ∧ ∀ i, i < k * 6 → cur[i]? = some (entV S i)) (fun i _ => n - (intOf i).toNat)
  case atStart =>
    rcases hm.2 with ⟨hv, _⟩ | ⟨g, cap, cur, hv, _, hg, _, _, hcs, _⟩
    · cases hv
    · obtain ⟨rfl, rfl⟩ : w.heap.size = g ∧ n = cap := by simpa using hv
      exact ⟨0, Nat.zero_le _, rfl, (Below.refl _ _).grown hgm (Nat.le_refl _) (fun _ h => by cases h), cur, hg, hcs, fun i hi => absurd hi (by omega)⟩
  case round =>
    obtain ⟨k, hk, rfl, hB, cur, hl, hs, hc⟩ := hrel
    by_cases hlt : k < n
    · rcases hp with hp | ⟨b, o, rfl, hb, hp⟩
      · omega
      obtain ⟨x0, x1, x2, x3, x4, x5⟩ := (hp.below hB hb).ent hlt
      have hput := putRow (V := entV S) (m := 6) [.string (S k).nm, .int .i64 (S k).kd, .int .i64 (S k).pl, .int .i64 (S k).sz, .int .i64 (S k).fr, .int .i64 (S k).ow] rfl (fun j hj => by
        have hj' : j = 0 ∨ j = 1 ∨ j = 2 ∨ j = 3 ∨ j = 4 ∨ j = 5 := by omega
        rcases hj' with rfl | rfl | rfl | rfl | rfl | rfl
        · rw [Nat.add_zero, entV0]; rfl
        · rw [entV1]; rfl
        · rw [entV2]; rfl
        · rw [entV3]; rfl
        · rw [entV4]; rfl
        · rw [entV5]; rfl) hs hlt hc
      obtain ⟨a0, e0⟩ : ∃ s, (S k).nm = s := ⟨_, rfl⟩
      obtain ⟨a1, e1⟩ : ∃ s, (S k).kd = s := ⟨_, rfl⟩
      obtain ⟨a2, e2⟩ : ∃ s, (S k).pl = s := ⟨_, rfl⟩
      obtain ⟨a3, e3⟩ : ∃ s, (S k).sz = s := ⟨_, rfl⟩
      obtain ⟨a4, e4⟩ : ∃ s, (S k).fr = s := ⟨_, rfl⟩
      obtain ⟨a5, e5⟩ : ∃ s, (S k).ow = s := ⟨_, rfl⟩
      rw [e0] at x0
      rw [e1] at x1
      rw [e2] at x2
      rw [e3] at x3
      rw [e4] at x4
      rw [e5] at x5
      rw [e0, e1, e2, e3, e4, e5] at hput
      obtain ⟨new, hnew⟩ : ∃ new, (cur.toList.take (k * 6) ++ [Value.string a0, .int .i64 a1, .int .i64 a2, .int .i64 a3, .int .i64 a4, .int .i64 a5] ++ cur.toList.drop (k * 6 + 6)).toArray = new := ⟨_, rfl⟩
      rw [hnew] at hput
      have HN : Hid (_ = new) := hnew
      clear hnew hp e0 e1 e2 e3 e4 e5
      go_wp2_with fail
      refine (toEntC _ _ _ _ _ _ _).mono ?_
      rintro e w1 ⟨rfl, hb1⟩
      have l1 := hl.below hb1 hl.lt
      have B1 := hB.trans (hb1.mono hB.size)
      have s1 := hB.size
      clear hb1 hl x0 x1 x2 x3 x4 x5 hB
      have hi' : (Try.prog.info? 55).map (·.size) = some (#[Value.string a0, .int .i64 a1, .int .i64 a2, .int .i64 a3, .int .i64 a4, .int .i64 a5] : Array Value).size := by rw [hi]; simp [hz1]
      go_wp2_with (refine wpList_store_part rfl 55 (.tmp 21) (.tmp 20) rfl w.heap.size (k * 6) #[Value.string a0, .int .i64 a1, .int .i64 a2, .int .i64 a3, .int .i64 a4, .int .i64 a5] rfl rfl _ _ l1 hi' (by simp; omega) (by simp [Value.oneCell']) new HN.out ?_)
      have l2 := l1.set new
      go_roundw
      case rel => exact ⟨k + 1, by omega, by go_num, below_setRow B1 (Nat.le_refl _) _, _, l2, hput.1, hput.2⟩
      case measure => simp [intOf]; omega
    · obtain rfl : k = n := by omega
      have hlt := hl.lt
      go_wp2
      go_ret
      exact ⟨_, rfl, hB, Nat.le_refl _, hlt, fun i hi => by rw [Nat.zero_add]; exact hl.cell (hc i hi), fun i hi => hl.fro _⟩

theorem szEntC (a0 : ByteArray) (a1 : Int) (a2 : Int) (a3 : Int) (a4 : Int) (a5 : Int) (l : Int) (w : World) (hs0 : a0.size ≤ maxLen) (h0 : 0 ≤ l) (h1 : l ≤ 1048576) :
    Calls Try.prog 27 #[.agg #[.string a0, .int .i64 a1, .int .i64 a2, .int .i64 a3, .int .i64 a4, .int .i64 a5], .int .i64 l] w fun e w' => e = .returned (.int .i64 (if l < (a0.size : Int) then -1 else l - ((a0.size : Int)))) ∧ Below w.heap.size w w' := by
  unfold maxLen at hs0
  by_cases h : l < a0.size
  · rw [if_pos (by omega)]
    go_enter Try.func27, Try.ntmps27
    go_wp2
    go_ret
    exact ⟨rfl, grown1' _ _⟩
  · rw [if_neg (by omega)]
    go_enter Try.func27, Try.ntmps27
    go_wp2
    go_ret
    exact ⟨rfl, grown1' _ _⟩
set_option maxHeartbeats 2000000 in
theorem szEnts (p : Option Addr) (n c : Nat) (S : Nat → EntD) (L : Int) (w : World) (h0 : 0 ≤ L) (h1 : L ≤ 1048576) (hn : n ≤ maxLen) (hw : ∀ i, i < n → (S i).nm.size ≤ maxLen) (hp : EntsAt w p n S) :
    Calls Try.prog 11 #[.slice p n c, .int .i64 L] w fun e w' => (∃ r : Int, e = .returned (.int .i64 r) ∧ (r = -1 ∨ (0 ≤ r ∧ r ≤ L ∧ (n : Int) ≤ L ∧ ∀ i, i < n → ((S i).nm.size : Int) ≤ L))) ∧ Below w.heap.size w w' := by
  unfold maxLen at hn
  by_cases hL : L < n
  · go_enter Try.func11, Try.ntmps11
    go_wp2
    go_ret
    exact ⟨⟨_, rfl, .inl rfl⟩, Below.refl _ _⟩
  · go_enter Try.func11, Try.ntmps11
    go_wp2_with fail
    go_loopw [1, 5] (fun m i wr => ∃ (k : Nat) (l : Int), k ≤ n ∧ i = .int .i64 k ∧ m = .int .i64 l ∧ 0 ≤ l ∧ l ≤ L ∧ (∀ j, j < k → ((S j).nm.size : Int) ≤ L) ∧ Below w.heap.size w wr) (fun _ i _ => n - (intOf i).toNat)
    case atStart => exact ⟨0, L - n, Nat.zero_le _, rfl, rfl, by omega, by omega, fun j hj => absurd hj (Nat.not_lt_zero _), Below.refl _ _⟩
    case round =>
      obtain ⟨k, l, hk, rfl, rfl, hl0, hl1, hall, hB⟩ := hrel
      by_cases hlt : k < n
      · rcases hp with hp | ⟨b, o, rfl, hb, hp⟩
        · omega
        obtain ⟨x0, x1, x2, x3, x4, x5⟩ := (hp.below hB hb).ent hlt
        have hwk := hw k hlt
        obtain ⟨a0, e0⟩ : ∃ s, (S k).nm = s := ⟨_, rfl⟩
        obtain ⟨a1, e1⟩ : ∃ s, (S k).kd = s := ⟨_, rfl⟩
        obtain ⟨a2, e2⟩ : ∃ s, (S k).pl = s := ⟨_, rfl⟩
        obtain ⟨a3, e3⟩ : ∃ s, (S k).sz = s := ⟨_, rfl⟩
        obtain ⟨a4, e4⟩ : ∃ s, (S k).fr = s := ⟨_, rfl⟩
        obtain ⟨a5, e5⟩ : ∃ s, (S k).ow = s := ⟨_, rfl⟩
        rw [e0] at x0
        rw [e1] at x1
        rw [e2] at x2
        rw [e3] at x3
        rw [e4] at x4
        rw [e5] at x5
        rw [e0] at hwk
        have HE0 : Hid ((S k).nm = a0) := e0
        have hsz := hB.size
        clear hp e0 e1 e2 e3 e4 e5
        have cz := fun w' => szEntC a0 a1 a2 a3 a4 a5 l w' hwk hl0 (by omega)
        by_cases h : l < (a0.size : Int)
        · simp only [if_pos h] at cz
          have HC : Hid (∀ w' : World, _) := cz
          clear cz
          go_wp2_with fail
          refine (HC.out _).mono ?_
          rintro e w2 ⟨rfl, hb2⟩
          have B2 := hB.trans (hb2.mono hsz)
          clear hb2 hB x0 x1 x2 x3 x4 x5
          go_wp2_with fail
          go_ret
          exact ⟨⟨_, rfl, .inl rfl⟩, B2⟩
        · simp only [if_neg h] at cz
          have HC : Hid (∀ w' : World, _) := cz
          clear cz
          obtain ⟨l2, hl2⟩ : ∃ l2, l - ((a0.size : Int)) = l2 := ⟨_, rfl⟩
          rw [hl2] at HC
          have hl3 : ¬ l2 < 0 := by omega
          go_wp2_with fail
          refine (HC.out _).mono ?_
          rintro e w2 ⟨rfl, hb2⟩
          have B2 := hB.trans (hb2.mono hsz)
          clear hb2 hB x0 x1 x2 x3 x4 x5
          go_wp2_with fail
          go_roundw
          case rel => exact ⟨k + 1, l2, by omega, by go_num, rfl, by omega, by omega, fun j hj => by
            rcases Nat.lt_succ_iff_lt_or_eq.1 hj with h' | rfl
            · exact hall j h'
            · rw [HE0.out]; first | omega | exact ⟨by omega, by omega⟩, B2⟩
          case measure => simp [intOf]; omega
      · obtain rfl : k = n := by omega
        go_wp2
        go_ret
        exact ⟨⟨_, rfl, .inr ⟨hl0, by omega, by omega, hall⟩⟩, hB⟩
theorem eqEntC (a0 : ByteArray) (a1 : Int) (a2 : Int) (a3 : Int) (a4 : Int) (a5 : Int) (w : World) :
    Calls Try.prog 34 #[.agg #[.string a0, .int .i64 a1, .int .i64 a2, .int .i64 a3, .int .i64 a4, .int .i64 a5], .agg #[.string a0, .int .i64 a1, .int .i64 a2, .int .i64 a3, .int .i64 a4, .int .i64 a5]] w fun e w' => e = .returned (.bool true) ∧ Below w.heap.size w w' := by
  go_enter Try.func34, Try.ntmps34
  go_wp2
  go_ret
  exact ⟨rfl, ((Below.refl _ _).alloc (Nat.le_refl _) _).alloc (by simp) _⟩
set_option maxHeartbeats 2000000 in
theorem eqEnts (p q : Option Addr) (n c d : Nat) (S : Nat → EntD) (w : World) (hn : n ≤ 2000000) (hp : EntsAt w p n S) (hq : EntsAt w q n S) :
    Calls Try.prog 15 #[.slice p n c, .slice q n d] w fun e w' => e = .returned (.bool true) ∧ Below w.heap.size w w' := by
  go_enter Try.func15, Try.ntmps15
  go_wp2
  go_loopw [5] (fun i wr => ∃ k : Nat, k ≤ n ∧ i = .int .i64 k ∧ Below w.heap.size w wr) (fun i _ => n - (intOf i).toNat)
  case atStart => exact ⟨0, Nat.zero_le _, rfl, Below.refl _ _⟩
  case round =>
    obtain ⟨k, hk, rfl, hB⟩ := hrel
    by_cases hlt : k < n
    · rcases hp with hp | ⟨b, o, rfl, hb, hp⟩
      · omega
      rcases hq with hq | ⟨b', o', rfl, hb', hq⟩
      · omega
      obtain ⟨x0, x1, x2, x3, x4, x5⟩ := (hp.below hB hb).ent hlt
      obtain ⟨y0, y1, y2, y3, y4, y5⟩ := (hq.below hB hb').ent hlt
      clear hp hq
      go_wp2
      go_region_with ((go_at_call 34; refine (eqEntC _ _ _ _ _ _ _).mono ?_; rintro e w1 ⟨rfl, hb1⟩))
      all_goals
        have hbw : Below w.heap.size w w1 := by
          first
            | exact hB.trans (hb1.mono (by have := hB.size; simp; omega))
            | exact hB.drew.trans (hb1.mono (by have := hB.size; simp; omega))
        go_wp2
        go_roundw
        case rel => exact ⟨k + 1, by omega, by go_num, hbw⟩
        case measure => simp [intOf]; omega
    · go_wp2
      go_ret
      exact ⟨rfl, hB⟩
def mkEnt (s i : Nat) : EntD := ⟨mtS (s + 6 * i), ((s + 6 * i : Nat) : Int) + 1, ((s + 6 * i : Nat) : Int) + 1 + 1, ((s + 6 * i : Nat) : Int) + 1 + 1 + 1, ((s + 6 * i : Nat) : Int) + 1 + 1 + 1 + 1, ((s + 6 * i : Nat) : Int) + 1 + 1 + 1 + 1 + 1⟩
def mixEnt (s : Nat) (S : Nat → EntD) (k i : Nat) : EntD := if i < k then mkEnt s i else S i
theorem mixEnt_step (s k : Nat) (S : Nat → EntD) (i : Nat) : (if i = k * 6 + 5 then Value.int .i64 (mkEnt s k).ow else if i = k * 6 + 4 then .int .i64 (mkEnt s k).fr else if i = k * 6 + 3 then .int .i64 (mkEnt s k).sz else if i = k * 6 + 2 then .int .i64 (mkEnt s k).pl else if i = k * 6 + 1 then .int .i64 (mkEnt s k).kd else if i = k * 6 then .string (mkEnt s k).nm else entV (mixEnt s S k) i) = entV (mixEnt s S (k + 1)) i := by
  have hk : mixEnt s S (k + 1) k = mkEnt s k := by unfold mixEnt; rw [if_pos (Nat.lt_succ_self k)]
  by_cases e5 : i = k * 6 + 5
  · rw [if_pos e5, e5, entV5, hk]
  by_cases e4 : i = k * 6 + 4
  · rw [if_neg e5, if_pos e4, e4, entV4, hk]
  by_cases e3 : i = k * 6 + 3
  · rw [if_neg e5, if_neg e4, if_pos e3, e3, entV3, hk]
  by_cases e2 : i = k * 6 + 2
  · rw [if_neg e5, if_neg e4, if_neg e3, if_pos e2, e2, entV2, hk]
  by_cases e1 : i = k * 6 + 1
  · rw [if_neg e5, if_neg e4, if_neg e3, if_neg e2, if_pos e1, e1, entV1, hk]
  by_cases e0 : i = k * 6
  · rw [if_neg e5, if_neg e4, if_neg e3, if_neg e2, if_neg e1, if_pos e0, e0, entV0, hk]
  · rw [if_neg e5, if_neg e4, if_neg e3, if_neg e2, if_neg e1, if_neg e0]
    have hq : i / 6 ≠ k := by omega
    have hmx : mixEnt s S k (i / 6) = mixEnt s S (k + 1) (i / 6) := by
      unfold mixEnt
      by_cases h : i / 6 < k
      · rw [if_pos h, if_pos (by omega)]
      · rw [if_neg h, if_neg (by omega)]
    unfold entV
    rw [hmx]

end Go.Proofs.Ytelogjpjglohoaa
