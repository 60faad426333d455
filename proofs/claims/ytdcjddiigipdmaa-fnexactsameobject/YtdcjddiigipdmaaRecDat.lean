/- Lists of PatchData (gen_rec.py). -/
import Derived.Test.YtdcjddiigipdmaaRecB
import Derived.Test.YtdcjddiigipdmaaMrkT
namespace Go.Proofs.Ytdcjddiigipdmaa
open Go Go.RowKit Go.ChangeShapes Go.WideShapes Go.Deep
set_option linter.unusedVariables false

structure DatD where
  nm : ByteArray
  bs : ByteArray
instance : Inhabited DatD := ⟨⟨ByteArray.empty, ByteArray.empty⟩⟩
def DatD.wf (d : DatD) : Prop := d.nm.size ≤ maxLen ∧ d.bs.size ≤ maxLen
def datV (S : Nat → DatD) (i : Nat) : Value :=
  if i % 2 = 0 then .string (S (i / 2)).nm else .string (S (i / 2)).bs
theorem datV0 (S : Nat → DatD) (k : Nat) : datV S (k * 2) = .string (S k).nm := by unfold datV; rw [if_pos (by omega), show (k * 2) / 2 = k from by omega]
theorem datV1 (S : Nat → DatD) (k : Nat) : datV S (k * 2 + 1) = .string (S k).bs := by unfold datV; rw [if_neg (by omega), show (k * 2 + 1) / 2 = k from by omega]
theorem VRow.dat {w : World} {b o n : Nat} {S : Nat → DatD} (h : VRow w b o (n * 2) (datV S)) {k : Nat} (hk : k < n) :
    w.cell? ⟨b, o + k * 2, none⟩ = some (.string (S k).nm) ∧ w.cell? ⟨b, o + k * 2 + 1, none⟩ = some (.string (S k).bs) := by
  have k0 := h.nth hk (j := 0) (by omega)
  rw [Nat.add_zero, Nat.add_zero, datV0] at k0
  have k1 := h.nth hk (j := 1) (by omega)
  rw [datV1] at k1
  exact ⟨k0, k1⟩
abbrev DatsAt (w : World) (p : Option Addr) (n : Nat) (S : Nat → DatD) : Prop := RowsAt w p n 2 (datV S)

section
variable {H : Type} {enc : TypeId × Value → H} {P : Program} {w : World} {base : Nat} {spare : Nat → Bool} {held : Bool}
theorem open_dats {t e : TypeId} {f0 f1 : Field} {fuel : Nat} {a : Option Addr} {len cap : Nat} {x : DataW H × List MemPlace} (ht : P.underlying t = some (.slice e)) (he : P.underlying e = some (.struct #[f0, f1])) (hone : oneCellFields P #[f0, f1] = true) (hC : P.cellsOf e = 2)
    (u0 : P.underlying f0.type = some .string) (u1 : P.underlying f1.type = some .string)
    (h : DataW.trod enc P w base spare held fuel t [.slice a len cap] = some x) : ∃ S, DatsAt w a len S ∧ (∀ i, i < len → (S i).wf) ∧ len ≤ cap ∧ cap ≤ maxLen := by
  rcases open_rows ht he hone hC h with ⟨rfl, rfl, rfl⟩ | ⟨ad, rfl, hl, hm, hx⟩
  · exact ⟨fun _ => default, .inl rfl, fun i hi => absurd hi (Nat.not_lt_zero _), Nat.le_refl _, Nat.zero_le _⟩
  have each : ∀ i, i < len → ∃ d : DatD, d.wf ∧ ∀ j, j < 2 → w.cell? ((ad.add (i * 2)).add j) = some (datV (fun _ => d) j) := by
    intro i hi
    obtain ⟨n, hf⟩ := hx i hi
    obtain ⟨v0, y0, c0, g0⟩ := hf 0 f0 rfl
    obtain ⟨v1, y1, c1, g1⟩ := hf 1 f1 rfl
    obtain ⟨a0, e0, _, w0⟩ := DataW.trod_string u0 g0
    obtain ⟨a1, e1, _, w1⟩ := DataW.trod_string u1 g1
    simp only [List.cons.injEq, and_true] at e0 e1
    subst e0 e1
    refine ⟨⟨a0, a1⟩, ⟨w0, w1⟩, fun j hj => ?_⟩
    have hj' : j = 0 ∨ j = 1 := by omega
    rcases hj' with rfl | rfl
    · exact c0
    · exact c1
  obtain ⟨S, hS⟩ := choose_lt each
  refine ⟨S, ?_, fun i hi => (hS i hi).1, hl, hm⟩
  by_cases h0 : len = 0
  · exact .inl h0
  · obtain ⟨b, o, rfl, hb, hv⟩ := vrow_of (w := w) (ad := ad) (k := 2) (n := len) (V := datV S) (by decide) (by omega) (fun i hi j hj => by
      rw [(hS i hi).2 j hj]
      have e1 : (i * 2 + j) / 2 = i := by omega
      have e2 : (i * 2 + j) % 2 = j := by omega
      have e3 : j % 2 = j := by omega
      unfold datV
      rw [e1, e2, e3])
    exact .inr ⟨b, o, rfl, hb, hv⟩
end
theorem Try.info_dat : (Try.prog.info? 87).map (fun i => (i.zero, i.size, i.bytes)) = some (some (.agg #[.string ByteArray.empty, .string ByteArray.empty]), 2, 32) := by kernel_rfl
theorem toDatC (a0 : ByteArray) (a1 : ByteArray) (w : World) :
    Calls Try.prog 78 #[.agg #[.string a0, .string a1]] w fun e w' => e = .returned (.agg #[.string a0, .string a1]) ∧ Below w.heap.size w w' := by
  go_enter Try.func78, Try.ntmps78
  go_wp2
  refine bodyPost_ret (v := .agg #[.string a0, .string a1]) (by simp [results, Try.results78, go_sem]) rfl ⟨rfl, ?_⟩
  exact (((Below.refl _ _).alloc (Nat.le_refl _) _).alloc (by simp) _).alloc (by simp; omega) _

set_option maxRecDepth 100000 in
set_option maxHeartbeats 2000000 in
theorem toDats (p : Option Addr) (n c : Nat) (S : Nat → DatD) (w : World) (hn : n ≤ 1048576) (hp : DatsAt w p n S) :
    Calls Try.prog 37 #[.slice p n c] w fun e w' => ∃ g, e = .returned (.slice (some ⟨g, 0, none⟩) n n) ∧ Below w.heap.size w w' ∧ w.heap.size ≤ g ∧ g < w'.heap.size ∧ FRow w' g 0 (n * 2) (datV S) := by
  obtain ⟨i0, hi, hz0, hz1, hz2⟩ := info_parts Try.info_dat
  go_enter Try.func37, Try.ntmps37
  go_wp2_with (at_make; refine wpList_make_full _ rfl _ _ 32 rfl w.heap.size 87 i0 _ 2 Try.underlying32 hi hz0 hz1 .i64 .i64 _ _ n rfl rfl (by omega) (by omega) (by rw [hz2]; omega) (by unfold maxLen; omega) (Nat.le_refl _) ?_; intro wm hm hgm)
  go_loopw [4] (fun i wr => ∃ k : Nat, k ≤ n ∧ i = .int .i64 k ∧ Below w.heap.size w wr ∧ ∃ cur, Lies wr w.heap.size 87 cur ∧ cur.size = n * 2 ∧ ∀ i, i < k * 2 → cur[i]? = some (datV S i)) (fun i _ => n - (intOf i).toNat)
  case atStart =>
    rcases hm.2 with ⟨hv, _⟩ | ⟨g, cap, cur, hv, _, hg, _, _, hcs, _⟩
    · cases hv
    · obtain ⟨rfl, rfl⟩ : w.heap.size = g ∧ n = cap := by simpa using hv
      exact ⟨0, Nat.zero_le _, rfl, (Below.refl _ _).grown hgm (Nat.le_refl _) (fun _ h => by cases h), cur, hg, hcs, fun i hi => absurd hi (by omega)⟩
  case round =>
    obtain ⟨k, hk, rfl, hB, cur, hl, hs, hc⟩ := hrel
    by_cases hlt : k < n
    · rcases hp with hp | ⟨b, o, rfl, hb, hp⟩
      · omega
      obtain ⟨x0, x1⟩ := (hp.below hB hb).dat hlt
      have hput := putRow (V := datV S) (m := 2) [.string (S k).nm, .string (S k).bs] rfl (fun j hj => by
        have hj' : j = 0 ∨ j = 1 := by omega
        rcases hj' with rfl | rfl
        · rw [Nat.add_zero, datV0]; rfl
        · rw [datV1]; rfl) hs hlt hc
      obtain ⟨a0, e0⟩ : ∃ s, (S k).nm = s := ⟨_, rfl⟩
      obtain ⟨a1, e1⟩ : ∃ s, (S k).bs = s := ⟨_, rfl⟩
      rw [e0] at x0
      rw [e1] at x1
      rw [e0, e1] at hput
      obtain ⟨new, hnew⟩ : ∃ new, (cur.toList.take (k * 2) ++ [Value.string a0, .string a1] ++ cur.toList.drop (k * 2 + 2)).toArray = new := ⟨_, rfl⟩
      rw [hnew] at hput
      have HN : Hid (_ = new) := hnew
      clear hnew hp e0 e1
      go_wp2_with fail
      refine (toDatC _ _ _).mono ?_
      rintro e w1 ⟨rfl, hb1⟩
      have l1 := hl.below hb1 hl.lt
      have B1 := hB.trans (hb1.mono hB.size)
      have s1 := hB.size
      clear hb1 hl x0 x1 hB
      have hi' : (Try.prog.info? 87).map (·.size) = some (#[Value.string a0, .string a1] : Array Value).size := by rw [hi]; simp [hz1]
      go_wp2_with (refine wpList_store_part rfl 87 (.tmp 21) (.tmp 20) rfl w.heap.size (k * 2) #[Value.string a0, .string a1] rfl rfl _ _ l1 hi' (by simp; omega) (by simp [Value.oneCell']) new HN.out ?_)
      have l2 := l1.set new
      go_roundw
      case rel => exact ⟨k + 1, by omega, by go_num, below_setRow B1 (Nat.le_refl _) _, _, l2, hput.1, hput.2⟩
      case measure => simp [intOf]; omega
    · obtain rfl : k = n := by omega
      have hlt := hl.lt
      go_wp2
      go_ret
      exact ⟨_, rfl, hB, Nat.le_refl _, hlt, fun i hi => by rw [Nat.zero_add]; exact hl.cell (hc i hi), fun i hi => hl.fro _⟩

theorem szDatC (a0 : ByteArray) (a1 : ByteArray) (l : Int) (w : World) (hs0 : a0.size ≤ maxLen) (hs1 : a1.size ≤ maxLen) (h0 : 0 ≤ l) (h1 : l ≤ 1048576) :
    Calls Try.prog 69 #[.agg #[.string a0, .string a1], .int .i64 l] w fun e w' => e = .returned (.int .i64 (if l < (a0.size : Int) + (a1.size : Int) then -1 else l - ((a0.size : Int) + (a1.size : Int)))) ∧ Below w.heap.size w w' := by
  unfold maxLen at hs0 hs1
  by_cases h : l < a0.size
  · rw [if_pos (by omega)]
    go_enter Try.func69, Try.ntmps69
    go_wp2
    go_ret
    exact ⟨rfl, grown1' _ _⟩
  by_cases h' : l - (a0.size : Int) < a1.size
  · rw [if_pos (by omega)]
    go_enter Try.func69, Try.ntmps69
    go_wp2
    go_ret
    exact ⟨rfl, grown1' _ _⟩
  · rw [if_neg (by omega), show l - ((a0.size : Int) + (a1.size : Int)) = l - (a0.size : Int) - (a1.size : Int) from by omega]
    go_enter Try.func69, Try.ntmps69
    go_wp2
    go_ret
    exact ⟨rfl, grown1' _ _⟩
set_option maxHeartbeats 2000000 in
theorem szDats (p : Option Addr) (n c : Nat) (S : Nat → DatD) (L : Int) (w : World) (h0 : 0 ≤ L) (h1 : L ≤ 1048576) (hn : n ≤ maxLen) (hw : ∀ i, i < n → (S i).nm.size ≤ maxLen ∧ (S i).bs.size ≤ maxLen) (hp : DatsAt w p n S) :
    Calls Try.prog 32 #[.slice p n c, .int .i64 L] w fun e w' => (∃ r : Int, e = .returned (.int .i64 r) ∧ (r = -1 ∨ (0 ≤ r ∧ r ≤ L ∧ (n : Int) ≤ L ∧ ∀ i, i < n → ((S i).nm.size : Int) ≤ L ∧ ((S i).bs.size : Int) ≤ L))) ∧ Below w.heap.size w w' := by
  unfold maxLen at hn
  by_cases hL : L < n
  · go_enter Try.func32, Try.ntmps32
    go_wp2
    go_ret
    exact ⟨⟨_, rfl, .inl rfl⟩, Below.refl _ _⟩
  · go_enter Try.func32, Try.ntmps32
    go_wp2_with fail
    go_loopw [1, 5] (fun m i wr => ∃ (k : Nat) (l : Int), k ≤ n ∧ i = .int .i64 k ∧ m = .int .i64 l ∧ 0 ≤ l ∧ l ≤ L ∧ (∀ j, j < k → ((S j).nm.size : Int) ≤ L ∧ ((S j).bs.size : Int) ≤ L) ∧ Below w.heap.size w wr) (fun _ i _ => n - (intOf i).toNat)
    case atStart => exact ⟨0, L - n, Nat.zero_le _, rfl, rfl, by omega, by omega, fun j hj => absurd hj (Nat.not_lt_zero _), Below.refl _ _⟩
    case round =>
      obtain ⟨k, l, hk, rfl, rfl, hl0, hl1, hall, hB⟩ := hrel
      by_cases hlt : k < n
      · rcases hp with hp | ⟨b, o, rfl, hb, hp⟩
        · omega
        obtain ⟨x0, x1⟩ := (hp.below hB hb).dat hlt
        have hwk := hw k hlt
        obtain ⟨a0, e0⟩ : ∃ s, (S k).nm = s := ⟨_, rfl⟩
        obtain ⟨a1, e1⟩ : ∃ s, (S k).bs = s := ⟨_, rfl⟩
        rw [e0] at x0
        rw [e1] at x1
        rw [e0] at hwk
        have HE0 : Hid ((S k).nm = a0) := e0
        rw [e1] at hwk
        have HE1 : Hid ((S k).bs = a1) := e1
        have hsz := hB.size
        clear hp e0 e1
        have cz := fun w' => szDatC a0 a1 l w' hwk.1 hwk.2 hl0 (by omega)
        by_cases h : l < (a0.size : Int) + (a1.size : Int)
        · simp only [if_pos h] at cz
          have HC : Hid (∀ w' : World, _) := cz
          clear cz
          go_wp2_with fail
          refine (HC.out _).mono ?_
          rintro e w2 ⟨rfl, hb2⟩
          have B2 := hB.trans (hb2.mono hsz)
          clear hb2 hB x0 x1
          go_wp2_with fail
          go_ret
          exact ⟨⟨_, rfl, .inl rfl⟩, B2⟩
        · simp only [if_neg h] at cz
          have HC : Hid (∀ w' : World, _) := cz
          clear cz
          obtain ⟨l2, hl2⟩ : ∃ l2, l - ((a0.size : Int) + (a1.size : Int)) = l2 := ⟨_, rfl⟩
          rw [hl2] at HC
          have hl3 : ¬ l2 < 0 := by omega
          go_wp2_with fail
          refine (HC.out _).mono ?_
          rintro e w2 ⟨rfl, hb2⟩
          have B2 := hB.trans (hb2.mono hsz)
          clear hb2 hB x0 x1
          go_wp2_with fail
          go_roundw
          case rel => exact ⟨k + 1, l2, by omega, by go_num, rfl, by omega, by omega, fun j hj => by
            rcases Nat.lt_succ_iff_lt_or_eq.1 hj with h' | rfl
            · exact hall j h'
            · rw [HE0.out, HE1.out]; first | omega | exact ⟨by omega, by omega⟩, B2⟩
          case measure => simp [intOf]; omega
      · obtain rfl : k = n := by omega
        go_wp2
        go_ret
        exact ⟨⟨_, rfl, .inr ⟨hl0, by omega, by omega, hall⟩⟩, hB⟩
theorem eqDatC (a0 : ByteArray) (a1 : ByteArray) (w : World) :
    Calls Try.prog 89 #[.agg #[.string a0, .string a1], .agg #[.string a0, .string a1]] w fun e w' => e = .returned (.bool true) ∧ Below w.heap.size w w' := by
  go_enter Try.func89, Try.ntmps89
  go_wp2
  go_ret
  exact ⟨rfl, ((Below.refl _ _).alloc (Nat.le_refl _) _).alloc (by simp) _⟩
set_option maxHeartbeats 2000000 in
theorem eqDats (p q : Option Addr) (n c d : Nat) (S : Nat → DatD) (w : World) (hn : n ≤ 2000000) (hp : DatsAt w p n S) (hq : DatsAt w q n S) :
    Calls Try.prog 47 #[.slice p n c, .slice q n d] w fun e w' => e = .returned (.bool true) ∧ Below w.heap.size w w' := by
  go_enter Try.func47, Try.ntmps47
  go_wp2
  go_loopw [5] (fun i wr => ∃ k : Nat, k ≤ n ∧ i = .int .i64 k ∧ Below w.heap.size w wr) (fun i _ => n - (intOf i).toNat)
  case atStart => exact ⟨0, Nat.zero_le _, rfl, Below.refl _ _⟩
  case round =>
    obtain ⟨k, hk, rfl, hB⟩ := hrel
    by_cases hlt : k < n
    · rcases hp with hp | ⟨b, o, rfl, hb, hp⟩
      · omega
      rcases hq with hq | ⟨b', o', rfl, hb', hq⟩
      · omega
      obtain ⟨x0, x1⟩ := (hp.below hB hb).dat hlt
      obtain ⟨y0, y1⟩ := (hq.below hB hb').dat hlt
      clear hp hq
      go_wp2
      go_region_with ((go_at_call 89; refine (eqDatC _ _ _).mono ?_; rintro e w1 ⟨rfl, hb1⟩))
      all_goals
        have hbw : Below w.heap.size w w1 := by
          first
            | exact hB.trans (hb1.mono (by have := hB.size; simp; omega))
            | exact hB.drew.trans (hb1.mono (by have := hB.size; simp; omega))
        go_wp2
        go_roundw
        case rel => exact ⟨k + 1, by omega, by go_num, hbw⟩
        case measure => simp [intOf]; omega
    · go_wp2
      go_ret
      exact ⟨rfl, hB⟩
def mkDat (s i : Nat) : DatD := ⟨mtS (s + 2 * i), mtS (s + 2 * i + 1)⟩
def mixDat (s : Nat) (S : Nat → DatD) (k i : Nat) : DatD := if i < k then mkDat s i else S i
theorem mixDat_step (s k : Nat) (S : Nat → DatD) (i : Nat) : (if i = k * 2 + 1 then Value.string (mkDat s k).bs else if i = k * 2 then .string (mkDat s k).nm else datV (mixDat s S k) i) = datV (mixDat s S (k + 1)) i := by
  have hk : mixDat s S (k + 1) k = mkDat s k := by unfold mixDat; rw [if_pos (Nat.lt_succ_self k)]
  by_cases e1 : i = k * 2 + 1
  · rw [if_pos e1, e1, datV1, hk]
  by_cases e0 : i = k * 2
  · rw [if_neg e1, if_pos e0, e0, datV0, hk]
  · rw [if_neg e1, if_neg e0]
    have hq : i / 2 ≠ k := by omega
    have hmx : mixDat s S k (i / 2) = mixDat s S (k + 1) (i / 2) := by
      unfold mixDat
      by_cases h : i / 2 < k
      · rw [if_pos h, if_pos (by omega)]
      · rw [if_neg h, if_neg (by omega)]
    unfold datV
    rw [hmx]

set_option maxRecDepth 100000 in
set_option maxHeartbeats 4000000 in
theorem markDats (B : Nat) (p : Option Addr) (n c s : Nat) (S : Nat → DatD) (w : World) (hn : n ≤ 1048576) (hs : s ≤ 40000000) (hs0 : 0 < s) (hBw : B ≤ w.heap.size) (ho : OwnR w B p n 2 (datV S)) :
    Calls Try.prog 60 #[.slice p n c, .int .i64 s] w fun e w' => e = .returned (.int .i64 ((s + 2 * n : Nat) : Int)) ∧ ButO (qn p n) w w' ∧ OwnR w' B p n 2 (datV (mkDat s)) := by
  go_enter Try.func60, Try.ntmps60
  go_wp2
  go_loopw [1, 5] (fun m i wr => ∃ k : Nat, k ≤ n ∧ i = .int .i64 k ∧ m = .int .i64 ((s + 2 * k : Nat) : Int) ∧ ButO (qn p n) w wr ∧ OwnR wr B p n 2 (datV (mixDat s S k))) (fun _ i _ => n - (intOf i).toNat)
  case atStart => exact ⟨0, Nat.zero_le _, rfl, by simp, ButO.refl _ _, ho⟩
  case round =>
    obtain ⟨k, hk, rfl, rfl, hB, hf⟩ := hrel
    by_cases hlt : k < n
    · rcases hf with h0 | ⟨g, rfl, hg, hgl, hf⟩
      · omega
      have hqn : qn (some ⟨g, 0, none⟩) n = some ⟨g, 0, none⟩ := if_neg (by omega)
      rw [hqn] at hB
      have HQN : Hid (qn (some ⟨g, 0, none⟩) n = some ⟨g, 0, none⟩) := hqn
      clear hqn
      have hms : mkDat s k = ⟨mtS (s + 2 * k), mtS (s + 2 * k + 1)⟩ := rfl
      have hnx : s + 2 * (k + 1) = s + 2 * k + 2 := by omega
      have hu1 : s + 2 * k ≤ 50000000 := by omega
      have hu0 : 0 < s + 2 * k := by omega
      obtain ⟨u, hu⟩ : ∃ u, s + 2 * k = u := ⟨_, rfl⟩
      rw [hu] at hms hnx hu1 hu0 ⊢
      have hstep := mixDat_step s k S
      rw [hms] at hstep
      have HST : Hid (∀ i, _) := hstep
      have HNX : Hid (s + 2 * (k + 1) = u + 2) := hnx
      clear hms hstep hnx hu ho
      have hfw : FRow wr g 0 (n * 2) (datV (mixDat s S k)) := hf
      have hkm : k * 2 + 2 ≤ n * 2 := by omega
      clear hfw hBw
      go_wp2_with fail
      refine (markTextC (u) _ (by omega) (by omega)).mono ?_
      rintro e W0 ⟨rfl, hb0⟩
      have hB0 := hB.trans (ButO.of_below hb0)
      have hf0 := hf.below hb0 hgl
      have hg0 := Nat.lt_of_lt_of_le hgl hb0.size
      clear hf hB hgl hb0
      obtain ⟨v0, x0⟩ : ∃ v, W0.cell? ⟨g, k * 2, none⟩ = some v := ⟨_, by have := hf0.1 (k * 2) (by omega); rwa [Nat.zero_add] at this⟩
      have f0 := hf0.2 (k * 2) (by omega)
      rw [Nat.zero_add] at f0
      have HF1 : Hid (FRow _ g 0 (n * 2) _) := (hf0.put (k * 2) (by omega) (.string (mtS (u))))
      have HB1 : Hid (ButO (some ⟨g, 0, none⟩) w _) := (hB0.set (j := k * 2) (.string (mtS (u))))
      have HG1 : Hid (g < ((W0).setCell ⟨g, k * 2, none⟩ (.string (mtS (u)))).heap.size) := by show g < ((W0).setCell ⟨g, k * 2, none⟩ (.string (mtS (u)))).heap.size; simpa using hg0
      clear hf0 hB0 hg0
      go_wp2_with fail
      rw [show (u : Int) + 1 = ((u + 1 : Nat) : Int) from by omega]
      refine (markTextC (u + 1) _ (by omega) (by omega)).mono ?_
      rintro e W1 ⟨rfl, hb1⟩
      have hB1 := HB1.out.trans (ButO.of_below hb1)
      have hf1 := HF1.out.below hb1 HG1.out
      have hg1 := Nat.lt_of_lt_of_le HG1.out hb1.size
      clear HF1 HB1 HG1 hb1 v0 x0 f0
      obtain ⟨v1, x1⟩ : ∃ v, W1.cell? ⟨g, k * 2 + 1, none⟩ = some v := ⟨_, by have := hf1.1 (k * 2 + 1) (by omega); rwa [Nat.zero_add] at this⟩
      have f1 := hf1.2 (k * 2 + 1) (by omega)
      rw [Nat.zero_add] at f1
      have HF2 : Hid (FRow _ g 0 (n * 2) _) := (hf1.put (k * 2 + 1) (by omega) (.string (mtS (u + 1))))
      have HB2 : Hid (ButO (some ⟨g, 0, none⟩) w _) := (hB1.set (j := k * 2 + 1) (.string (mtS (u + 1))))
      have HG2 : Hid (g < ((W1).setCell ⟨g, k * 2 + 1, none⟩ (.string (mtS (u + 1)))).heap.size) := by show g < ((W1).setCell ⟨g, k * 2 + 1, none⟩ (.string (mtS (u + 1)))).heap.size; simpa using hg1
      clear hf1 hB1 hg1
      go_wp2_with fail
      go_roundw
      case rel =>
        refine ⟨k + 1, by omega, by go_num, ?_, by rw [HQN.out]; exact HB2.out, .inr ⟨g, rfl, hg, HG2.out, HF2.out.congr (fun i _ => HST.out i)⟩⟩
        rw [HNX.out]
        first | rfl | (congr 1; omega) | go_num
      case measure => simp [intOf]; omega
    · obtain rfl : k = n := by omega
      go_wp2
      go_ret
      refine ⟨rfl, hB, ?_⟩
      rcases hf with h0 | ⟨g, h1, h2, h3, hf⟩
      · exact .inl h0
      · refine .inr ⟨g, h1, h2, h3, hf.congr (fun i hi => ?_)⟩
        unfold datV mixDat
        have : i / 2 < k := by omega
        simp only [if_pos this]
end Go.Proofs.Ytdcjddiigipdmaa
