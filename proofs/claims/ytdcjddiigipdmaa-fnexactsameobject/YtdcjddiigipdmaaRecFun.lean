/- Lists of PatchFunc (gen_rec.py). -/
import Derived.Test.YtdcjddiigipdmaaRecB
import Derived.Test.YtdcjddiigipdmaaMrkT
namespace Go.Proofs.Ytdcjddiigipdmaa
open Go Go.RowKit Go.ChangeShapes Go.WideShapes Go.Deep
set_option linter.unusedVariables false

structure FunD where
  nm : ByteArray
  rp : Bool
  fr : Int
  cd : ByteArray
instance : Inhabited FunD := ⟨⟨ByteArray.empty, false, 0, ByteArray.empty⟩⟩
def FunD.wf (d : FunD) : Prop := d.nm.size ≤ maxLen ∧ (Lit.int .i64 d.fr).wf = true ∧ d.cd.size ≤ maxLen
def funV (S : Nat → FunD) (i : Nat) : Value :=
  if i % 4 = 0 then .string (S (i / 4)).nm else if i % 4 = 1 then .bool (S (i / 4)).rp else if i % 4 = 2 then .int .i64 (S (i / 4)).fr else .string (S (i / 4)).cd
theorem funV0 (S : Nat → FunD) (k : Nat) : funV S (k * 4) = .string (S k).nm := by unfold funV; rw [if_pos (by omega), show (k * 4) / 4 = k from by omega]
theorem funV1 (S : Nat → FunD) (k : Nat) : funV S (k * 4 + 1) = .bool (S k).rp := by unfold funV; rw [if_neg (by omega), if_pos (by omega), show (k * 4 + 1) / 4 = k from by omega]
theorem funV2 (S : Nat → FunD) (k : Nat) : funV S (k * 4 + 2) = .int .i64 (S k).fr := by unfold funV; rw [if_neg (by omega), if_neg (by omega), if_pos (by omega), show (k * 4 + 2) / 4 = k from by omega]
theorem funV3 (S : Nat → FunD) (k : Nat) : funV S (k * 4 + 3) = .string (S k).cd := by unfold funV; rw [if_neg (by omega), if_neg (by omega), if_neg (by omega), show (k * 4 + 3) / 4 = k from by omega]
theorem VRow.fun {w : World} {b o n : Nat} {S : Nat → FunD} (h : VRow w b o (n * 4) (funV S)) {k : Nat} (hk : k < n) :
    w.cell? ⟨b, o + k * 4, none⟩ = some (.string (S k).nm) ∧ w.cell? ⟨b, o + k * 4 + 1, none⟩ = some (.bool (S k).rp) ∧ w.cell? ⟨b, o + k * 4 + 2, none⟩ = some (.int .i64 (S k).fr) ∧ w.cell? ⟨b, o + k * 4 + 3, none⟩ = some (.string (S k).cd) := by
  have k0 := h.nth hk (j := 0) (by omega)
  rw [Nat.add_zero, Nat.add_zero, funV0] at k0
  have k1 := h.nth hk (j := 1) (by omega)
  rw [funV1] at k1
  have k2 := h.nth hk (j := 2) (by omega)
  rw [funV2] at k2
  have k3 := h.nth hk (j := 3) (by omega)
  rw [funV3] at k3
  exact ⟨k0, k1, k2, k3⟩
abbrev FunsAt (w : World) (p : Option Addr) (n : Nat) (S : Nat → FunD) : Prop := RowsAt w p n 4 (funV S)

section
variable {H : Type} {enc : TypeId × Value → H} {P : Program} {w : World} {base : Nat} {spare : Nat → Bool} {held : Bool}
theorem open_funs {t e : TypeId} {f0 f1 f2 f3 : Field} {fuel : Nat} {a : Option Addr} {len cap : Nat} {x : DataW H × List MemPlace} (ht : P.underlying t = some (.slice e)) (he : P.underlying e = some (.struct #[f0, f1, f2, f3])) (hone : oneCellFields P #[f0, f1, f2, f3] = true) (hC : P.cellsOf e = 4)
    (u0 : P.underlying f0.type = some .string) (u1 : P.underlying f1.type = some .bool) (u2 : P.underlying f2.type = some (.int .i64)) (u3 : P.underlying f3.type = some .string)
    (h : DataW.trod enc P w base spare held fuel t [.slice a len cap] = some x) : ∃ S, FunsAt w a len S ∧ (∀ i, i < len → (S i).wf) ∧ len ≤ cap ∧ cap ≤ maxLen := by
  rcases open_rows ht he hone hC h with ⟨rfl, rfl, rfl⟩ | ⟨ad, rfl, hl, hm, hx⟩
  · exact ⟨fun _ => default, .inl rfl, fun i hi => absurd hi (Nat.not_lt_zero _), Nat.le_refl _, Nat.zero_le _⟩
  have each : ∀ i, i < len → ∃ d : FunD, d.wf ∧ ∀ j, j < 4 → w.cell? ((ad.add (i * 4)).add j) = some (funV (fun _ => d) j) := by
    intro i hi
    obtain ⟨n, hf⟩ := hx i hi
    obtain ⟨v0, y0, c0, g0⟩ := hf 0 f0 rfl
    obtain ⟨v1, y1, c1, g1⟩ := hf 1 f1 rfl
    obtain ⟨v2, y2, c2, g2⟩ := hf 2 f2 rfl
    obtain ⟨v3, y3, c3, g3⟩ := hf 3 f3 rfl
    obtain ⟨a0, e0, _, w0⟩ := DataW.trod_string u0 g0
    obtain ⟨a1, e1, _⟩ := DataW.trod_bool u1 g1
    obtain ⟨a2, e2, _, w2⟩ := DataW.trod_int u2 g2
    obtain ⟨a3, e3, _, w3⟩ := DataW.trod_string u3 g3
    simp only [List.cons.injEq, and_true] at e0 e1 e2 e3
    subst e0 e1 e2 e3
    refine ⟨⟨a0, a1, a2, a3⟩, ⟨w0, w2, w3⟩, fun j hj => ?_⟩
    have hj' : j = 0 ∨ j = 1 ∨ j = 2 ∨ j = 3 := by omega
    rcases hj' with rfl | rfl | rfl | rfl
    · exact c0
    · exact c1
    · exact c2
    · exact c3
  obtain ⟨S, hS⟩ := choose_lt each
  refine ⟨S, ?_, fun i hi => (hS i hi).1, hl, hm⟩
  by_cases h0 : len = 0
  · exact .inl h0
  · obtain ⟨b, o, rfl, hb, hv⟩ := vrow_of (w := w) (ad := ad) (k := 4) (n := len) (V := funV S) (by decide) (by omega) (fun i hi j hj => by
      rw [(hS i hi).2 j hj]
      have e1 : (i * 4 + j) / 4 = i := by omega
      have e2 : (i * 4 + j) % 4 = j := by omega
      have e3 : j % 4 = j := by omega
      unfold funV
      rw [e1, e2, e3])
    exact .inr ⟨b, o, rfl, hb, hv⟩
end
theorem Try.info_fun : (Try.prog.info? 85).map (fun i => (i.zero, i.size, i.bytes)) = some (some (.agg #[.string ByteArray.empty, .bool false, .int .i64 0, .string ByteArray.empty]), 4, 48) := by kernel_rfl
theorem toFunC (a0 : ByteArray) (a1 : Bool) (a2 : Int) (a3 : ByteArray) (w : World) :
    Calls Try.prog 77 #[.agg #[.string a0, .bool a1, .int .i64 a2, .string a3]] w fun e w' => e = .returned (.agg #[.string a0, .bool a1, .int .i64 a2, .string a3]) ∧ Below w.heap.size w w' := by
  go_enter Try.func77, Try.ntmps77
  go_wp2
  refine bodyPost_ret (v := .agg #[.string a0, .bool a1, .int .i64 a2, .string a3]) (by simp [results, Try.results77, go_sem]) rfl ⟨rfl, ?_⟩
  exact (((Below.refl _ _).alloc (Nat.le_refl _) _).alloc (by simp) _).alloc (by simp; omega) _

set_option maxRecDepth 100000 in
set_option maxHeartbeats 2000000 in
theorem toFuns (p : Option Addr) (n c : Nat) (S : Nat → FunD) (w : World) (hn : n ≤ 1048576) (hp : FunsAt w p n S) :
    Calls Try.prog 36 #[.slice p n c] w fun e w' => ∃ g, e = .returned (.slice (some ⟨g, 0, none⟩) n n) ∧ Below w.heap.size w w' ∧ w.heap.size ≤ g ∧ g < w'.heap.size ∧ FRow w' g 0 (n * 4) (funV S) := by
  obtain ⟨i0, hi, hz0, hz1, hz2⟩ := info_parts Try.info_fun
  go_enter Try.func36, Try.ntmps36
  go_wp2_with (at_make; refine wpList_make_full _ rfl _ _ 31 rfl w.heap.size 85 i0 _ 4 Try.underlying31 hi hz0 hz1 .i64 .i64 _ _ n rfl rfl (by omega) (by omega) (by rw [hz2]; omega) (by unfold maxLen; omega) (Nat.le_refl _) ?_; intro wm hm hgm)
  go_loopw [4] (fun i wr => ∃ k : Nat, k ≤ n ∧ i = .int .i64 k ∧ Below w.heap.size w wr ∧ ∃ cur, Lies wr w.heap.size 85 cur ∧ cur.size = n * 4 ∧ ∀ i, i < k * 4 → cur[i]? = some (funV S i)) (fun i _ => n - (intOf i).toNat)
  case atStart =>
    rcases hm.2 with ⟨hv, _⟩ | ⟨g, cap, cur, hv, _, hg, _, _, hcs, _⟩
    · cases hv
    · obtain ⟨rfl, rfl⟩ : w.heap.size = g ∧ n = cap := by simpa using hv
      exact ⟨0, Nat.zero_le _, rfl, (Below.refl _ _).grown hgm (Nat.le_refl _) (fun _ h => by cases h), cur, hg, hcs, fun i hi => absurd hi (by omega)⟩
  case round =>
    obtain ⟨k, hk, rfl, hB, cur, hl, hs, hc⟩ := hrel
    by_cases hlt : k < n
    · rcases hp with hp | ⟨b, o, rfl, hb, hp⟩
      · omega
      obtain ⟨x0, x1, x2, x3⟩ := (hp.below hB hb).fun hlt
      have hput := putRow (V := funV S) (m := 4) [.string (S k).nm, .bool (S k).rp, .int .i64 (S k).fr, .string (S k).cd] rfl (fun j hj => by
        have hj' : j = 0 ∨ j = 1 ∨ j = 2 ∨ j = 3 := by omega
        rcases hj' with rfl | rfl | rfl | rfl
        · rw [Nat.add_zero, funV0]; rfl
        · rw [funV1]; rfl
        · rw [funV2]; rfl
        · rw [funV3]; rfl) hs hlt hc
      obtain ⟨a0, e0⟩ : ∃ s, (S k).nm = s := ⟨_, rfl⟩
      obtain ⟨a1, e1⟩ : ∃ s, (S k).rp = s := ⟨_, rfl⟩
      obtain ⟨a2, e2⟩ : ∃ s, (S k).fr = s := ⟨_, rfl⟩
      obtain ⟨a3, e3⟩ : ∃ s, (S k).cd = s := ⟨_, rfl⟩
      rw [e0] at x0
      rw [e1] at x1
      rw [e2] at x2
      rw [e3] at x3
      rw [e0, e1, e2, e3] at hput
      obtain ⟨new, hnew⟩ : ∃ new, (cur.toList.take (k * 4) ++ [Value.string a0, .bool a1, .int .i64 a2, .string a3] ++ cur.toList.drop (k * 4 + 4)).toArray = new := ⟨_, rfl⟩
      rw [hnew] at hput
      have HN : Hid (_ = new) := hnew
      clear hnew hp e0 e1 e2 e3
      go_wp2_with fail
      refine (toFunC _ _ _ _ _).mono ?_
      rintro e w1 ⟨rfl, hb1⟩
      have l1 := hl.below hb1 hl.lt
      have B1 := hB.trans (hb1.mono hB.size)
      have s1 := hB.size
      clear hb1 hl x0 x1 x2 x3 hB
      have hi' : (Try.prog.info? 85).map (·.size) = some (#[Value.string a0, .bool a1, .int .i64 a2, .string a3] : Array Value).size := by rw [hi]; simp [hz1]
      go_wp2_with (refine wpList_store_part rfl 85 (.tmp 21) (.tmp 20) rfl w.heap.size (k * 4) #[Value.string a0, .bool a1, .int .i64 a2, .string a3] rfl rfl _ _ l1 hi' (by simp; omega) (by simp [Value.oneCell']) new HN.out ?_)
      have l2 := l1.set new
      go_roundw
      case rel => exact ⟨k + 1, by omega, by go_num, below_setRow B1 (Nat.le_refl _) _, _, l2, hput.1, hput.2⟩
      case measure => simp [intOf]; omega
    · obtain rfl : k = n := by omega
      have hlt := hl.lt
      go_wp2
      go_ret
      exact ⟨_, rfl, hB, Nat.le_refl _, hlt, fun i hi => by rw [Nat.zero_add]; exact hl.cell (hc i hi), fun i hi => hl.fro _⟩

theorem szFunC (a0 : ByteArray) (a1 : Bool) (a2 : Int) (a3 : ByteArray) (l : Int) (w : World) (hs0 : a0.size ≤ maxLen) (hs3 : a3.size ≤ maxLen) (h0 : 0 ≤ l) (h1 : l ≤ 1048576) :
    Calls Try.prog 68 #[.agg #[.string a0, .bool a1, .int .i64 a2, .string a3], .int .i64 l] w fun e w' => e = .returned (.int .i64 (if l < (a0.size : Int) + (a3.size : Int) then -1 else l - ((a0.size : Int) + (a3.size : Int)))) ∧ Below w.heap.size w w' := by
  unfold maxLen at hs0 hs3
  by_cases h : l < a0.size
  · rw [if_pos (by omega)]
    go_enter Try.func68, Try.ntmps68
    go_wp2
    go_ret
    exact ⟨rfl, grown1' _ _⟩
  by_cases h' : l - (a0.size : Int) < a3.size
  · rw [if_pos (by omega)]
    go_enter Try.func68, Try.ntmps68
    go_wp2
    go_ret
    exact ⟨rfl, grown1' _ _⟩
  · rw [if_neg (by omega), show l - ((a0.size : Int) + (a3.size : Int)) = l - (a0.size : Int) - (a3.size : Int) from by omega]
    go_enter Try.func68, Try.ntmps68
    go_wp2
    go_ret
    exact ⟨rfl, grown1' _ _⟩
set_option maxHeartbeats 2000000 in
theorem szFuns (p : Option Addr) (n c : Nat) (S : Nat → FunD) (L : Int) (w : World) (h0 : 0 ≤ L) (h1 : L ≤ 1048576) (hn : n ≤ maxLen) (hw : ∀ i, i < n → (S i).nm.size ≤ maxLen ∧ (S i).cd.size ≤ maxLen) (hp : FunsAt w p n S) :
    Calls Try.prog 31 #[.slice p n c, .int .i64 L] w fun e w' => (∃ r : Int, e = .returned (.int .i64 r) ∧ (r = -1 ∨ (0 ≤ r ∧ r ≤ L ∧ (n : Int) ≤ L ∧ ∀ i, i < n → ((S i).nm.size : Int) ≤ L ∧ ((S i).cd.size : Int) ≤ L))) ∧ Below w.heap.size w w' := by
  unfold maxLen at hn
  by_cases hL : L < n
  · go_enter Try.func31, Try.ntmps31
    go_wp2
    go_ret
    exact ⟨⟨_, rfl, .inl rfl⟩, Below.refl _ _⟩
  · go_enter Try.func31, Try.ntmps31
    go_wp2_with fail
    go_loopw [1, 5] (fun m i wr => ∃ (k : Nat) (l : Int), k ≤ n ∧ i = .int .i64 k ∧ m = .int .i64 l ∧ 0 ≤ l ∧ l ≤ L ∧ (∀ j, j < k → ((S j).nm.size : Int) ≤ L ∧ ((S j).cd.size : Int) ≤ L) ∧ Below w.heap.size w wr) (fun _ i _ => n - (intOf i).toNat)
    case atStart => exact ⟨0, L - n, Nat.zero_le _, rfl, rfl, by omega, by omega, fun j hj => absurd hj (Nat.not_lt_zero _), Below.refl _ _⟩
    case round =>
      obtain ⟨k, l, hk, rfl, rfl, hl0, hl1, hall, hB⟩ := hrel
      by_cases hlt : k < n
      · rcases hp with hp | ⟨b, o, rfl, hb, hp⟩
        · omega
        obtain ⟨x0, x1, x2, x3⟩ := (hp.below hB hb).fun hlt
        have hwk := hw k hlt
        obtain ⟨a0, e0⟩ : ∃ s, (S k).nm = s := ⟨_, rfl⟩
        obtain ⟨a1, e1⟩ : ∃ s, (S k).rp = s := ⟨_, rfl⟩
        obtain ⟨a2, e2⟩ : ∃ s, (S k).fr = s := ⟨_, rfl⟩
        obtain ⟨a3, e3⟩ : ∃ s, (S k).cd = s := ⟨_, rfl⟩
        rw [e0] at x0
        rw [e1] at x1
        rw [e2] at x2
        rw [e3] at x3
        rw [e0] at hwk
        have HE0 : Hid ((S k).nm = a0) := e0
        rw [e3] at hwk
        have HE3 : Hid ((S k).cd = a3) := e3
        have hsz := hB.size
        clear hp e0 e1 e2 e3
        have cz := fun w' => szFunC a0 a1 a2 a3 l w' hwk.1 hwk.2 hl0 (by omega)
        by_cases h : l < (a0.size : Int) + (a3.size : Int)
        · simp only [if_pos h] at cz
          have HC : Hid (∀ w' : World, _) := cz
          clear cz
          go_wp2_with fail
          refine (HC.out _).mono ?_
          rintro e w2 ⟨rfl, hb2⟩
          have B2 := hB.trans (hb2.mono hsz)
          clear hb2 hB x0 x1 x2 x3
          go_wp2_with fail
          go_ret
          exact ⟨⟨_, rfl, .inl rfl⟩, B2⟩
        · simp only [if_neg h] at cz
          have HC : Hid (∀ w' : World, _) := cz
          clear cz
          obtain ⟨l2, hl2⟩ : ∃ l2, l - ((a0.size : Int) + (a3.size : Int)) = l2 := ⟨_, rfl⟩
          rw [hl2] at HC
          have hl3 : ¬ l2 < 0 := by omega
          go_wp2_with fail
          refine (HC.out _).mono ?_
          rintro e w2 ⟨rfl, hb2⟩
          have B2 := hB.trans (hb2.mono hsz)
          clear hb2 hB x0 x1 x2 x3
          go_wp2_with fail
          go_roundw
          case rel => exact ⟨k + 1, l2, by omega, by go_num, rfl, by omega, by omega, fun j hj => by
            rcases Nat.lt_succ_iff_lt_or_eq.1 hj with h' | rfl
            · exact hall j h'
            · rw [HE0.out, HE3.out]; first | omega | exact ⟨by omega, by omega⟩, B2⟩
          case measure => simp [intOf]; omega
      · obtain rfl : k = n := by omega
        go_wp2
        go_ret
        exact ⟨⟨_, rfl, .inr ⟨hl0, by omega, by omega, hall⟩⟩, hB⟩
theorem eqFunC (a0 : ByteArray) (a1 : Bool) (a2 : Int) (a3 : ByteArray) (w : World) :
    Calls Try.prog 88 #[.agg #[.string a0, .bool a1, .int .i64 a2, .string a3], .agg #[.string a0, .bool a1, .int .i64 a2, .string a3]] w fun e w' => e = .returned (.bool true) ∧ Below w.heap.size w w' := by
  go_enter Try.func88, Try.ntmps88
  go_wp2
  go_ret
  exact ⟨rfl, ((Below.refl _ _).alloc (Nat.le_refl _) _).alloc (by simp) _⟩
set_option maxHeartbeats 2000000 in
theorem eqFuns (p q : Option Addr) (n c d : Nat) (S : Nat → FunD) (w : World) (hn : n ≤ 2000000) (hp : FunsAt w p n S) (hq : FunsAt w q n S) :
    Calls Try.prog 46 #[.slice p n c, .slice q n d] w fun e w' => e = .returned (.bool true) ∧ Below w.heap.size w w' := by
  go_enter Try.func46, Try.ntmps46
  go_wp2
  go_loopw [5] (fun i wr => ∃ k : Nat, k ≤ n ∧ i = .int .i64 k ∧ Below w.heap.size w wr) (fun i _ => n - (intOf i).toNat)
  case atStart => exact ⟨0, Nat.zero_le _, rfl, Below.refl _ _⟩
  case round =>
    obtain ⟨k, hk, rfl, hB⟩ := hrel
    by_cases hlt : k < n
    · rcases hp with hp | ⟨b, o, rfl, hb, hp⟩
      · omega
      rcases hq with hq | ⟨b', o', rfl, hb', hq⟩
      · omega
      obtain ⟨x0, x1, x2, x3⟩ := (hp.below hB hb).fun hlt
      obtain ⟨y0, y1, y2, y3⟩ := (hq.below hB hb').fun hlt
      clear hp hq
      go_wp2
      go_region_with ((go_at_call 88; refine (eqFunC _ _ _ _ _).mono ?_; rintro e w1 ⟨rfl, hb1⟩))
      all_goals
        have hbw : Below w.heap.size w w1 := by
          first
            | exact hB.trans (hb1.mono (by have := hB.size; simp; omega))
            | exact hB.drew.trans (hb1.mono (by have := hB.size; simp; omega))
        go_wp2
        go_roundw
        case rel => exact ⟨k + 1, by omega, by go_num, hbw⟩
        case measure => simp [intOf]; omega
    · go_wp2
      go_ret
      exact ⟨rfl, hB⟩
def mkFun (s i : Nat) : FunD := ⟨mtS (s + 4 * i), ((((s + 4 * i : Nat) : Int) + 1).tmod 3 == 0), ((s + 4 * i : Nat) : Int) + 1 + 1, mtS (s + 4 * i + 3)⟩
def mixFun (s : Nat) (S : Nat → FunD) (k i : Nat) : FunD := if i < k then mkFun s i else S i
theorem mixFun_step (s k : Nat) (S : Nat → FunD) (i : Nat) : (if i = k * 4 + 3 then Value.string (mkFun s k).cd else if i = k * 4 + 2 then .int .i64 (mkFun s k).fr else if i = k * 4 + 1 then .bool (mkFun s k).rp else if i = k * 4 then .string (mkFun s k).nm else funV (mixFun s S k) i) = funV (mixFun s S (k + 1)) i := by
  have hk : mixFun s S (k + 1) k = mkFun s k := by unfold mixFun; rw [if_pos (Nat.lt_succ_self k)]
  by_cases e3 : i = k * 4 + 3
  · rw [if_pos e3, e3, funV3, hk]
  by_cases e2 : i = k * 4 + 2
  · rw [if_neg e3, if_pos e2, e2, funV2, hk]
  by_cases e1 : i = k * 4 + 1
  · rw [if_neg e3, if_neg e2, if_pos e1, e1, funV1, hk]
  by_cases e0 : i = k * 4
  · rw [if_neg e3, if_neg e2, if_neg e1, if_pos e0, e0, funV0, hk]
  · rw [if_neg e3, if_neg e2, if_neg e1, if_neg e0]
    have hq : i / 4 ≠ k := by omega
    have hmx : mixFun s S k (i / 4) = mixFun s S (k + 1) (i / 4) := by
      unfold mixFun
      by_cases h : i / 4 < k
      · rw [if_pos h, if_pos (by omega)]
      · rw [if_neg h, if_neg (by omega)]
    unfold funV
    rw [hmx]

set_option maxRecDepth 100000 in
set_option maxHeartbeats 4000000 in
theorem markFuns (B : Nat) (p : Option Addr) (n c s : Nat) (S : Nat → FunD) (w : World) (hn : n ≤ 1048576) (hs : s ≤ 40000000) (hs0 : 0 < s) (hBw : B ≤ w.heap.size) (ho : OwnR w B p n 4 (funV S)) :
    Calls Try.prog 59 #[.slice p n c, .int .i64 s] w fun e w' => e = .returned (.int .i64 ((s + 4 * n : Nat) : Int)) ∧ ButO (qn p n) w w' ∧ OwnR w' B p n 4 (funV (mkFun s)) := by
  go_enter Try.func59, Try.ntmps59
  go_wp2
  go_loopw [1, 5] (fun m i wr => ∃ k : Nat, k ≤ n ∧ i = .int .i64 k ∧ m = .int .i64 ((s + 4 * k : Nat) : Int) ∧ ButO (qn p n) w wr ∧ OwnR wr B p n 4 (funV (mixFun s S k))) (fun _ i _ => n - (intOf i).toNat)
  case atStart => exact ⟨0, Nat.zero_le _, rfl, by simp, ButO.refl _ _, ho⟩
  case round =>
    obtain ⟨k, hk, rfl, rfl, hB, hf⟩ := hrel
    by_cases hlt : k < n
    · rcases hf with h0 | ⟨g, rfl, hg, hgl, hf⟩
      · omega
      have hqn : qn (some ⟨g, 0, none⟩) n = some ⟨g, 0, none⟩ := if_neg (by omega)
      rw [hqn] at hB
      have HQN : Hid (qn (some ⟨g, 0, none⟩) n = some ⟨g, 0, none⟩) := hqn
      clear hqn
      have hms : mkFun s k = ⟨mtS (s + 4 * k), ((((s + 4 * k : Nat) : Int) + 1).tmod 3 == 0), ((s + 4 * k : Nat) : Int) + 1 + 1, mtS (s + 4 * k + 3)⟩ := rfl
      have hnx : s + 4 * (k + 1) = s + 4 * k + 4 := by omega
      have hu1 : s + 4 * k ≤ 50000000 := by omega
      have hu0 : 0 < s + 4 * k := by omega
      obtain ⟨u, hu⟩ : ∃ u, s + 4 * k = u := ⟨_, rfl⟩
      rw [hu] at hms hnx hu1 hu0 ⊢
      have hstep := mixFun_step s k S
      rw [hms] at hstep
      have HST : Hid (∀ i, _) := hstep
      have HNX : Hid (s + 4 * (k + 1) = u + 4) := hnx
      clear hms hstep hnx hu ho
      have hfw : FRow wr g 0 (n * 4) (funV (mixFun s S k)) := hf
      have hkm : k * 4 + 4 ≤ n * 4 := by omega
      clear hfw hBw
      go_wp2_with fail
      refine (markTextC (u) _ (by omega) (by omega)).mono ?_
      rintro e W0 ⟨rfl, hb0⟩
      have hB0 := hB.trans (ButO.of_below hb0)
      have hf0 := hf.below hb0 hgl
      have hg0 := Nat.lt_of_lt_of_le hgl hb0.size
      clear hf hB hgl hb0
      obtain ⟨v0, x0⟩ : ∃ v, W0.cell? ⟨g, k * 4, none⟩ = some v := ⟨_, by have := hf0.1 (k * 4) (by omega); rwa [Nat.zero_add] at this⟩
      have f0 := hf0.2 (k * 4) (by omega)
      rw [Nat.zero_add] at f0
      obtain ⟨v1, x1⟩ : ∃ v, W0.cell? ⟨g, k * 4 + 1, none⟩ = some v := ⟨_, by have := hf0.1 (k * 4 + 1) (by omega); rwa [Nat.zero_add] at this⟩
      have f1 := hf0.2 (k * 4 + 1) (by omega)
      rw [Nat.zero_add] at f1
      obtain ⟨v2, x2⟩ : ∃ v, W0.cell? ⟨g, k * 4 + 2, none⟩ = some v := ⟨_, by have := hf0.1 (k * 4 + 2) (by omega); rwa [Nat.zero_add] at this⟩
      have f2 := hf0.2 (k * 4 + 2) (by omega)
      rw [Nat.zero_add] at f2
      have HF1 : Hid (FRow _ g 0 (n * 4) _) := (((hf0.put (k * 4) (by omega) (.string (mtS (u)))).put (k * 4 + 1) (by omega) (.bool ((((u : Int) + 1).tmod 3) == 0))).put (k * 4 + 2) (by omega) (.int .i64 ((u : Int) + 1 + 1)))
      have HB1 : Hid (ButO (some ⟨g, 0, none⟩) w _) := (((hB0.set (j := k * 4) (.string (mtS (u)))).set (j := k * 4 + 1) (.bool ((((u : Int) + 1).tmod 3) == 0))).set (j := k * 4 + 2) (.int .i64 ((u : Int) + 1 + 1)))
      have HG1 : Hid (g < ((((W0).setCell ⟨g, k * 4, none⟩ (.string (mtS (u)))).setCell ⟨g, k * 4 + 1, none⟩ (.bool ((((u : Int) + 1).tmod 3) == 0))).setCell ⟨g, k * 4 + 2, none⟩ (.int .i64 ((u : Int) + 1 + 1))).heap.size) := by show g < ((((W0).setCell ⟨g, k * 4, none⟩ (.string (mtS (u)))).setCell ⟨g, k * 4 + 1, none⟩ (.bool ((((u : Int) + 1).tmod 3) == 0))).setCell ⟨g, k * 4 + 2, none⟩ (.int .i64 ((u : Int) + 1 + 1))).heap.size; simpa using hg0
      clear hf0 hB0 hg0
      go_wp2_with fail
      rw [show (u : Int) + 1 + 1 + 1 = ((u + 3 : Nat) : Int) from by omega]
      refine (markTextC (u + 3) _ (by omega) (by omega)).mono ?_
      rintro e W1 ⟨rfl, hb1⟩
      have hB1 := HB1.out.trans (ButO.of_below hb1)
      have hf1 := HF1.out.below hb1 HG1.out
      have hg1 := Nat.lt_of_lt_of_le HG1.out hb1.size
      clear HF1 HB1 HG1 hb1 v0 x0 f0 v1 x1 f1 v2 x2 f2
      obtain ⟨v3, x3⟩ : ∃ v, W1.cell? ⟨g, k * 4 + 3, none⟩ = some v := ⟨_, by have := hf1.1 (k * 4 + 3) (by omega); rwa [Nat.zero_add] at this⟩
      have f3 := hf1.2 (k * 4 + 3) (by omega)
      rw [Nat.zero_add] at f3
      have HF2 : Hid (FRow _ g 0 (n * 4) _) := (hf1.put (k * 4 + 3) (by omega) (.string (mtS (u + 3))))
      have HB2 : Hid (ButO (some ⟨g, 0, none⟩) w _) := (hB1.set (j := k * 4 + 3) (.string (mtS (u + 3))))
      have HG2 : Hid (g < ((W1).setCell ⟨g, k * 4 + 3, none⟩ (.string (mtS (u + 3)))).heap.size) := by show g < ((W1).setCell ⟨g, k * 4 + 3, none⟩ (.string (mtS (u + 3)))).heap.size; simpa using hg1
      clear hf1 hB1 hg1
      go_wp2_with fail
      go_roundw
      case rel =>
        refine ⟨k + 1, by omega, by go_num, ?_, by rw [HQN.out]; exact HB2.out, .inr ⟨g, rfl, hg, HG2.out, HF2.out.congr (fun i _ => HST.out i)⟩⟩
        rw [HNX.out]
        first | rfl | (congr 1; omega) | go_num
      case measure => simp [intOf]; omega
    · obtain rfl : k = n := by omega
      go_wp2
      go_ret
      refine ⟨rfl, hB, ?_⟩
      rcases hf with h0 | ⟨g, h1, h2, h3, hf⟩
      · exact .inl h0
      · refine .inr ⟨g, h1, h2, h3, hf.congr (fun i hi => ?_)⟩
        unfold funV mixFun
        have : i / 4 < k := by omega
        simp only [if_pos this]
end Go.Proofs.Ytdcjddiigipdmaa
