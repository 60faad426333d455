/- Words of instructions: contracts of both WordsOf. A block that is known whole: what is loaded out of a part of it, and stored into a part of it. -/
import Derived.Test.YtodikjjajncimaaDoorGXWordsOf36
import Derived.Test.YtodikjjajncimaaDoorGXWordsOf37
import Derived.Lib.AppendStr
import Derived.Test.YtodikjjajncimaaDoorRows
import Derived.WalkKit
import Derived.WalkSpells
import Derived.ProofKit
import Derived.Below
import Derived.Laws.Rows
import Derived.Laws.CopyRow
import Derived.Laws.CopyOwn
import Derived.Deep.MidRow
namespace Go.Proofs.YtodikjjajncimaaDoor
open Go Go.RowKit
set_option linter.unusedVariables false

def wdT (R : Nat → Int) (i : Nat) : Int := encT (R (i * 5)) (R (i * 5 + 1)) (R (i * 5 + 2)) (R (i * 5 + 3)) (R (i * 5 + 4))
def rtB (R : Nat → Int) (i : Nat) : Bool := rightB (R (i * 5)) (R (i * 5 + 1)) (R (i * 5 + 2)) (R (i * 5 + 3)) (R (i * 5 + 4))
/-- The bytes of the first n words. -/
def wL (R : Nat → Int) (n : Nat) : List UInt8 := (List.range n).flatMap fun i => leL (u64 (wdT R i)) 4
theorem wL_succ (R : Nat → Int) (n : Nat) : wL R (n + 1) = wL R n ++ leL (u64 (wdT R n)) 4 := by simp [wL, List.range_succ]
theorem wL_len (R : Nat → Int) (n : Nat) : (wL R n).length = 4 * n := by
  induction n with
  | zero => rfl
  | succ n ih => rw [wL_succ, List.length_append, ih, leL_len]; omega

theorem specEnc0 (op rd r1 r2 im : Int) (w : World) (hr : rightB op rd r1 r2 im = true) :
    Calls Tryd.prog 43 #[.agg #[.int .i64 op, .int .i64 rd, .int .i64 r1, .int .i64 r2, .int .i64 im]] w fun e w' => e = .returned (.int .i64 (encT op rd r1 r2 im)) ∧ Below w.heap.size w w' := by
  unfold encT
  rw [if_pos hr]
  exact specEncYes op rd r1 r2 im _ _ _ _ w hr rfl

set_option maxHeartbeats 2000000 in
theorem specWords0 (p : Option Addr) (n c : Nat) (R : Nat → Int) (w : World) (hn : n ≤ 64) (hp : ListAt w p n R) (hr : ∀ i, i < n → rtB R i = true) :
    Calls Tryd.prog 55 #[.slice p n c] w fun e w' => e = .returned (.string ⟨(wL R n).toArray⟩) ∧ Below w.heap.size w w' := by
  go_enter Tryd.func55, Tryd.ntmps55
  go_wp2
  go_loopw [3, 4] (fun s i wr => ∃ k : Nat, k ≤ n ∧ i = .int .i64 k ∧ s = .string ⟨(wL R k).toArray⟩ ∧ Below w.heap.size w wr) (fun _ i _ => n - (intOf i).toNat)
  case atStart => exact ⟨0, Nat.zero_le _, rfl, rfl, Below.refl _ _⟩
  case round =>
    obtain ⟨k, hk, rfl, rfl, hB⟩ := hrel
    by_cases hlt : k < n
    · rcases hp with hp | ⟨b, o, rfl, hb, hp⟩
      · omega
      obtain ⟨x0, x1, x2, x3, x4⟩ := (hp.below hB hb).five hlt
      have hrk := hr k hlt
      unfold rtB at hrk
      have HS : Hid (wL R (k + 1) = wL R k ++ leL (u64 (wdT R k)) 4) := wL_succ R k
      clear hp hr
      go_wp2_with fail
      refine (specEnc0 _ _ _ _ _ _ hrk).mono ?_
      rintro e w1 ⟨rfl, hb1⟩
      have B1 := hB.trans (hb1.mono hB.size)
      clear hb1 x0 x1 x2 x3 x4
      go_wp2_with fail
      refine (specLittle0 _ 4 _ (by omega)).mono ?_
      rintro e w2 ⟨rfl, hb2⟩
      have B2 := B1.trans (hb2.mono B1.size)
      have l1 := wL_len R k
      have l2 := fun u => leL_len u 4
      clear hb2 B1
      go_wp2
      go_roundw
      case rel => exact ⟨k + 1, by omega, by go_num, by rw [HS.out, ByteArray.mk_append_mk]; rfl, B2⟩
      case measure => simp [intOf]; omega
    · go_wp2
      obtain rfl : k = n := by omega
      go_ret
      exact ⟨rfl, hB⟩

theorem own_below {W W' : World} {B e size n : Nat} {v : Value} {xs : List Value} (h : W.ownsRow B e size v n xs) (hb : Below W.heap.size W W') : W'.ownsRow B e size v n xs := by
  refine ⟨h.1, ?_⟩
  rcases h.2 with hv | ⟨g, cap, cur, h1, h2, h3, h4⟩
  · exact .inl hv
  · exact .inr ⟨g, cap, cur, h1, h2, (hb.block g (Array.getElem?_eq_some_iff.1 h3).1).trans h3, h4⟩

/-- Where all instructions are right. -/
theorem specWords (p : Option Addr) (n c : Nat) (R : Nat → Int) (w : World) (hn : n ≤ 64) (hp : ListAt w p n R) (hr : ∀ i, i < n → rtB R i = true) :
    Calls Tryd.prog 18 #[.slice p n c] w fun e w' => e = .returned (.tuple #[.string ⟨(wL R n).toArray⟩, .int .i64 0]) ∧ Below w.heap.size w w' := by
  go_enter Tryd.func18, Tryd.ntmps18
  go_wp2
  go_loopw [4] (fun i wr => ∃ k : Nat, k ≤ n ∧ i = .int .i64 k ∧ Below w.heap.size w wr) (fun i _ => n - (intOf i).toNat)
  case atStart => exact ⟨0, Nat.zero_le _, rfl, Below.refl _ _⟩
  case round =>
    obtain ⟨k, hk, rfl, hB⟩ := hrel
    by_cases hlt : k < n
    · rcases hp with hp | ⟨b, o, rfl, hb, hp⟩
      · omega
      obtain ⟨x0, x1, x2, x3, x4⟩ := (hp.below hB hb).five hlt
      have hrk := hr k hlt
      unfold rtB at hrk
      clear hp hr
      go_wp2_with fail
      refine (rightC _ _ _ _ _ _).mono ?_
      rintro e w1 ⟨rfl, hb1⟩
      rw [hrk]
      have B1 := hB.trans (hb1.mono hB.size)
      clear hb1 x0 x1 x2 x3 x4
      go_wp2
      go_roundw
      case rel => exact ⟨k + 1, by omega, by go_num, B1⟩
      case measure => simp [intOf]; omega
    · obtain rfl : k = n := by omega
      have hpr : ListAt wr p k R := by
        rcases hp with hp | ⟨b, o, e, hb, hp⟩
        · exact .inl hp
        · exact .inr ⟨b, o, e, Nat.lt_of_lt_of_le hb hB.size, hp.below hB hb⟩
      go_wp2_with (go_at_call 55; refine (specWords0 p k c R _ hn hpr hr).mono ?_; rintro e w1 ⟨rfl, hb1⟩)
      go_ret2
      exact ⟨rfl, hB.trans (hb1.mono hB.size)⟩

theorem specWordsBad (p : Option Addr) (n c : Nat) (R : Nat → Int) (w : World) (hn : n ≤ 64) (hp : ListAt w p n R) (j : Nat) (hj : j < n) (hbad : rtB R j = false) (hr : ∀ i, i < j → rtB R i = true) :
    Calls Tryd.prog 18 #[.slice p n c] w fun e w' => e = .returned (.tuple #[.string ⟨#[]⟩, .int .i64 1]) ∧ Below w.heap.size w w' := by
  rcases hp with hp | ⟨b, o, rfl, hb, hp⟩
  · omega
  go_enter Tryd.func18, Tryd.ntmps18
  go_wp2
  go_loopw [4] (fun i wr => ∃ k : Nat, k ≤ j ∧ i = .int .i64 k ∧ Below w.heap.size w wr) (fun i _ => n - (intOf i).toNat)
  case atStart => exact ⟨0, Nat.zero_le _, rfl, Below.refl _ _⟩
  case round =>
    obtain ⟨k, hk, rfl, hB⟩ := hrel
    have hlt : k < n := by omega
    obtain ⟨x0, x1, x2, x3, x4⟩ := (hp.below hB hb).five hlt
    by_cases hkj : k < j
    · have hrk := hr k hkj
      unfold rtB at hrk
      clear hp hr
      go_wp2_with fail
      refine (rightC _ _ _ _ _ _).mono ?_
      rintro e w1 ⟨rfl, hb1⟩
      rw [hrk]
      have B1 := hB.trans (hb1.mono hB.size)
      clear hb1 x0 x1 x2 x3 x4
      go_wp2
      go_roundw
      case rel => exact ⟨k + 1, by omega, by go_num, B1⟩
      case measure => simp [intOf]; omega
    · obtain rfl : k = j := by omega
      unfold rtB at hbad
      clear hp hr
      go_wp2_with fail
      refine (rightC _ _ _ _ _ _).mono ?_
      rintro e w1 ⟨rfl, hb1⟩
      rw [hbad]
      have B1 := hB.trans (hb1.mono hB.size)
      clear hb1 x0 x1 x2 x3 x4
      go_wp2
      go_ret2
      exact ⟨rfl, B1⟩
theorem specWordsMany (p : Option Addr) (n c : Nat) (w : World) (hn : 64 < n) (hN : n ≤ 1048576) :
    Calls Tryd.prog 18 #[.slice p n c] w fun e w' => e = .returned (.tuple #[.string ⟨#[]⟩, .int .i64 (if 4096 < n then 2 else 6)]) ∧ w' = w := by
  by_cases h : 4096 < n
  · rw [if_pos h]
    go_enter Tryd.func18, Tryd.ntmps18
    go_wp2
    go_ret2
    exact ⟨rfl, rfl⟩
  · rw [if_neg h]
    go_enter Tryd.func18, Tryd.ntmps18
    go_wp2
    go_ret2
    exact ⟨rfl, rfl⟩
theorem implWordsMany (p : Option Addr) (n c : Nat) (w : World) (hn : 64 < n) (hN : n ≤ 1048576) :
    Calls Tryd.prog 20 #[.slice p n c] w fun e w' => e = .returned (.tuple #[.string ⟨#[]⟩, .int .i64 (if 4096 < n then 2 else 6)]) ∧ w' = w := by
  by_cases h : 4096 < n
  · rw [if_pos h]
    go_enter Tryd.func20, Tryd.ntmps20
    go_wp2
    go_ret2
    exact ⟨rfl, rfl⟩
  · rw [if_neg h]
    go_enter Tryd.func20, Tryd.ntmps20
    go_wp2
    go_ret2
    exact ⟨rfl, rfl⟩

set_option maxRecDepth 100000 in
set_option maxHeartbeats 2000000 in
theorem implWords (p : Option Addr) (n c : Nat) (R : Nat → Int) (w : World) (hL : Laid w) (hn : n ≤ 64) (hp : ListAt w p n R) (hr : ∀ i, i < n → rtB R i = true) :
    Calls Tryd.prog 20 #[.slice p n c] w fun e w' => e = .returned (.tuple #[.string ⟨(wL R n).toArray⟩, .int .i64 0]) ∧ Below w.heap.size w w' := by
  obtain ⟨i0, hi, hz0, hz1, hz2⟩ := info_parts Tryd.info_u8
  go_enter Tryd.func20, Tryd.ntmps20
  go_wp2_with (at_make; refine wpList_make_own _ rfl _ _ 22 rfl w.heap.size 5 i0 _ 1 Tryd.underlying22 hi hz0 hz1 .i64 .i64 _ (4 * n) rfl rfl (by omega) (by rw [hz2]; omega) (by unfold maxLen; omega) (Nat.le_refl _) ?_; intro wm hm hgm)
  go_loopw [4, 23] (fun v i wr => ∃ k : Nat, k ≤ n ∧ i = .int .i64 k ∧ wr.ownsRow w.heap.size 5 1 v (4 * k) (byteVals (wL R k)) ∧ Below w.heap.size w wr) (fun _ i _ => n - (intOf i).toNat)
  case atStart => exact ⟨0, Nat.zero_le _, rfl, hm, (Below.refl _ _).grown hgm (Nat.le_refl _) (fun _ h => by cases h)⟩
  case round =>
    obtain ⟨k, hk, rfl, hown, hB⟩ := hrel
    by_cases hlt : k < n
    · rcases hp with hp | ⟨b, o, rfl, hb, hp⟩
      · omega
      obtain ⟨x0, x1, x2, x3, x4⟩ := (hp.below hB hb).five hlt
      have hrk := hr k hlt
      unfold rtB at hrk
      have HS : Hid (wL R (k + 1) = wL R k ++ leL (u64 (wdT R k)) 4) := wL_succ R k
      clear hp hr
      have hLr := laid_below hL hB
      go_wp2_with fail
      refine (implEnc _ _ _ _ _ _ (laid_below hLr ((Below.refl _ _).alloc (Nat.le_refl _) _))).mono ?_
      rintro e w1 ⟨rfl, hb1⟩
      have hb1' : Below wr.heap.size wr w1 := ((Below.refl _ _).alloc (Nat.le_refl _) _).trans (hb1.mono (by simp))
      have B1 := hB.trans (hb1'.mono hB.size)
      have own1 := own_below hown hb1'
      have he : encE (R (k * 5)) (R (k * 5 + 1)) (R (k * 5 + 2)) (R (k * 5 + 3)) (R (k * 5 + 4)) = 0 := by unfold encE; rw [if_pos hrk]
      rw [he]
      have hwu := wrap_u32 (wdT R k)
      have hlw : u64 (wdT R k) % 4294967296 < 4294967296 := Nat.mod_lt _ (by omega)
      have hwd : encT (R (k * 5)) (R (k * 5 + 1)) (R (k * 5 + 2)) (R (k * 5 + 3)) (R (k * 5 + 4)) = wdT R k := rfl
      rw [hwd]
      obtain ⟨V, hV⟩ : ∃ V, V = wdT R k := ⟨_, rfl⟩
      obtain ⟨U, hU⟩ : ∃ U, U = u64 (wdT R k) % 4294967296 := ⟨_, rfl⟩
      rw [← hU, ← hV] at hwu
      rw [← hU] at hlw
      have HU : Hid (leL U 4 = leL (u64 (wdT R k)) 4) := by rw [hU]; exact leL_4 _
      rw [← hV]
      clear hb1 hb1' hown x0 x1 x2 x3 x4 he hwd hV hU hLr hrk
      go_wp2_with fail
      refine (spread_u32 U 4 _ (by omega) hlw).mono ?_
      rintro e w2 ⟨rfl, hb2⟩
      have own2 := own_below own1 hb2
      have B2 := B1.trans (hb2.mono B1.size)
      have s2 := B2.size
      clear hb2 own1 B1
      have hls : (ByteArray.mk (leL U 4).toArray).size = 4 := by show (leL U 4).toArray.size = 4; rw [List.size_toArray, leL_len]
      go_wp2_with (at_builtin; refine Go.Lib.wpList_append_own_string _ rfl _ _ 22 9 rfl w.heap.size 5 i0 Tryd.underlying22 Tryd.underlying9 hi hz0 hz1 hz2 _ (4 * k) _ rfl own2 _ rfl (by unfold maxLen; omega) (by omega) s2 ?_; intro v' w3 hown3 hg3 _)
      go_roundw
      case rel =>
        refine ⟨k + 1, by omega, by go_num, ?_, B2.grown hg3 s2 (fun i e => (own2.lt i e).1)⟩
        rw [HS.out, ← HU.out]
        rw [hls] at hown3
        have e : byteVals (wL R k ++ leL U 4) = byteVals (wL R k) ++ Go.Lib.strCells (ByteArray.mk (leL U 4).toArray) := by simp [byteVals, Go.Lib.strCells]
        rw [e, show 4 * (k + 1) = 4 * k + 4 from by omega]
        exact hown3
      case measure => simp [intOf]; omega
    · obtain rfl : k = n := by omega
      have hbuf : Buf wr w.heap.size 5 u4 (wL R k) := by
        unfold Buf
        rw [wL_len]
        exact hown
      have hconv := Buf.string Tryd.underlying22 Tryd.underlying5 Tryd.underlying9 hbuf
      go_wp2
      go_ret2
      exact ⟨rfl, hB⟩

set_option maxRecDepth 100000 in
set_option maxHeartbeats 2000000 in
theorem implWordsBad (p : Option Addr) (n c : Nat) (R : Nat → Int) (w : World) (hL : Laid w) (hn : n ≤ 64) (hp : ListAt w p n R) (j : Nat) (hj : j < n) (hbad : rtB R j = false) (hr : ∀ i, i < j → rtB R i = true) :
    Calls Tryd.prog 20 #[.slice p n c] w fun e w' => e = .returned (.tuple #[.string ⟨#[]⟩, .int .i64 1]) ∧ Below w.heap.size w w' := by
  obtain ⟨i0, hi, hz0, hz1, hz2⟩ := info_parts Tryd.info_u8
  rcases hp with hp | ⟨b, o, rfl, hb, hp⟩
  · omega
  go_enter Tryd.func20, Tryd.ntmps20
  go_wp2_with (at_make; refine wpList_make_own _ rfl _ _ 22 rfl w.heap.size 5 i0 _ 1 Tryd.underlying22 hi hz0 hz1 .i64 .i64 _ (4 * n) rfl rfl (by omega) (by rw [hz2]; omega) (by unfold maxLen; omega) (Nat.le_refl _) ?_; intro wm hm hgm)
  go_loopw [4, 23] (fun v i wr => ∃ k : Nat, k ≤ j ∧ i = .int .i64 k ∧ wr.ownsRow w.heap.size 5 1 v (4 * k) (byteVals (wL R k)) ∧ Below w.heap.size w wr) (fun _ i _ => n - (intOf i).toNat)
  case atStart => exact ⟨0, Nat.zero_le _, rfl, hm, (Below.refl _ _).grown hgm (Nat.le_refl _) (fun _ h => by cases h)⟩
  case round =>
    obtain ⟨k, hk, rfl, hown, hB⟩ := hrel
    have hlt : k < n := by omega
    obtain ⟨x0, x1, x2, x3, x4⟩ := (hp.below hB hb).five hlt
    have hLr := laid_below hL hB
    clear hp
    by_cases hkj : k < j
    · have hrk := hr k hkj
      unfold rtB at hrk
      have HS : Hid (wL R (k + 1) = wL R k ++ leL (u64 (wdT R k)) 4) := wL_succ R k
      clear hr
      go_wp2_with fail
      refine (implEnc _ _ _ _ _ _ (laid_below hLr ((Below.refl _ _).alloc (Nat.le_refl _) _))).mono ?_
      rintro e w1 ⟨rfl, hb1⟩
      have hb1' : Below wr.heap.size wr w1 := ((Below.refl _ _).alloc (Nat.le_refl _) _).trans (hb1.mono (by simp))
      have B1 := hB.trans (hb1'.mono hB.size)
      have own1 := own_below hown hb1'
      have he : encE (R (k * 5)) (R (k * 5 + 1)) (R (k * 5 + 2)) (R (k * 5 + 3)) (R (k * 5 + 4)) = 0 := by unfold encE; rw [if_pos hrk]
      rw [he]
      have hwu := wrap_u32 (wdT R k)
      have hlw : u64 (wdT R k) % 4294967296 < 4294967296 := Nat.mod_lt _ (by omega)
      have hwd : encT (R (k * 5)) (R (k * 5 + 1)) (R (k * 5 + 2)) (R (k * 5 + 3)) (R (k * 5 + 4)) = wdT R k := rfl
      rw [hwd]
      obtain ⟨V, hV⟩ : ∃ V, V = wdT R k := ⟨_, rfl⟩
      obtain ⟨U, hU⟩ : ∃ U, U = u64 (wdT R k) % 4294967296 := ⟨_, rfl⟩
      rw [← hU, ← hV] at hwu
      rw [← hU] at hlw
      have HU : Hid (leL U 4 = leL (u64 (wdT R k)) 4) := by rw [hU]; exact leL_4 _
      rw [← hV]
      clear hb1 hb1' hown x0 x1 x2 x3 x4 he hwd hV hU hLr hrk
      go_wp2_with fail
      refine (spread_u32 U 4 _ (by omega) hlw).mono ?_
      rintro e w2 ⟨rfl, hb2⟩
      have own2 := own_below own1 hb2
      have B2 := B1.trans (hb2.mono B1.size)
      have s2 := B2.size
      clear hb2 own1 B1
      have hls : (ByteArray.mk (leL U 4).toArray).size = 4 := by show (leL U 4).toArray.size = 4; rw [List.size_toArray, leL_len]
      go_wp2_with (at_builtin; refine Go.Lib.wpList_append_own_string _ rfl _ _ 22 9 rfl w.heap.size 5 i0 Tryd.underlying22 Tryd.underlying9 hi hz0 hz1 hz2 _ (4 * k) _ rfl own2 _ rfl (by unfold maxLen; omega) (by omega) s2 ?_; intro v' w3 hown3 hg3 _)
      go_roundw
      case rel =>
        refine ⟨k + 1, by omega, by go_num, ?_, B2.grown hg3 s2 (fun i e => (own2.lt i e).1)⟩
        rw [HS.out, ← HU.out]
        rw [hls] at hown3
        have e : byteVals (wL R k ++ leL U 4) = byteVals (wL R k) ++ Go.Lib.strCells (ByteArray.mk (leL U 4).toArray) := by simp [byteVals, Go.Lib.strCells]
        rw [e, show 4 * (k + 1) = 4 * k + 4 from by omega]
        exact hown3
      case measure => simp [intOf]; omega
    · obtain rfl : k = j := by omega
      unfold rtB at hbad
      clear hr
      go_wp2_with fail
      refine (implEnc _ _ _ _ _ _ (laid_below hLr ((Below.refl _ _).alloc (Nat.le_refl _) _))).mono ?_
      rintro e w1 ⟨rfl, hb1⟩
      have hb1' : Below wr.heap.size wr w1 := ((Below.refl _ _).alloc (Nat.le_refl _) _).trans (hb1.mono (by simp))
      have B1 := hB.trans (hb1'.mono hB.size)
      have he : encE (R (k * 5)) (R (k * 5 + 1)) (R (k * 5 + 2)) (R (k * 5 + 3)) (R (k * 5 + 4)) = 1 := by unfold encE; rw [hbad]; rfl
      rw [he]
      clear hb1 hb1' hown x0 x1 x2 x3 x4 he hLr hbad
      go_wp2
      go_ret2
      exact ⟨rfl, B1⟩

theorem first_bad (R : Nat → Int) (n : Nat) : (∀ i, i < n → rtB R i = true) ∨ ∃ j, j < n ∧ rtB R j = false ∧ ∀ i, i < j → rtB R i = true := by
  induction n with
  | zero => exact .inl (fun i hi => absurd hi (Nat.not_lt_zero _))
  | succ n ih =>
    rcases ih with h | ⟨j, hj, hb, hr⟩
    · cases e : rtB R n with
      | true => exact .inl (fun i hi => by
          rcases Nat.lt_succ_iff_lt_or_eq.1 hi with h' | rfl
          · exact h i h'
          · exact e)
      | false => exact .inr ⟨n, Nat.lt_succ_self _, e, h⟩
    · exact .inr ⟨j, Nat.lt_succ_of_lt hj, hb, hr⟩

/-- Both answer the same of whatever list. -/
theorem wordsBoth (n : Nat) (hN : n ≤ 1048576) (R : Nat → Int) : ∃ (t : ByteArray) (co : Int),
    (∀ (p : Option Addr) (c : Nat) (w : World), ListAt w p n R → Calls Tryd.prog 18 #[.slice p n c] w fun e w' => e = .returned (.tuple #[.string t, .int .i64 co]) ∧ Below w.heap.size w w') ∧
    (∀ (p : Option Addr) (c : Nat) (w : World), Laid w → ListAt w p n R → Calls Tryd.prog 20 #[.slice p n c] w fun e w' => e = .returned (.tuple #[.string t, .int .i64 co]) ∧ Below w.heap.size w w') := by
  by_cases hn : n ≤ 64
  · rcases first_bad R n with h | ⟨j, hj, hb, hr⟩
    · exact ⟨_, _, fun p c w hp => specWords p n c R w hn hp h, fun p c w hL hp => implWords p n c R w hL hn hp h⟩
    · exact ⟨_, _, fun p c w hp => specWordsBad p n c R w hn hp j hj hb hr, fun p c w hL hp => implWordsBad p n c R w hL hn hp j hj hb hr⟩
  · exact ⟨_, _, fun p c w hp => (specWordsMany p n c w (by omega) hN).mono fun e w' ⟨h1, h2⟩ => ⟨h1, h2 ▸ Below.refl _ _⟩, fun p c w hL hp => (implWordsMany p n c w (by omega) hN).mono fun e w' ⟨h1, h2⟩ => ⟨h1, h2 ▸ Below.refl _ _⟩⟩
end Go.Proofs.YtodikjjajncimaaDoor

namespace Go.Proofs.YtodikjjajncimaaDoor
open Go.RowKit
set_option linter.unusedVariables false
section
variable {P : Program}

/-- The block's cells. -/
def Lies (w : World) (g : Nat) (t : TypeId) (cs : Array Value) : Prop := w.heap[g]? = some (.cells cs t (0, 0))
theorem Lies.lt {w : World} {g : Nat} {t : TypeId} {cs : Array Value} (h : Lies w g t cs) : g < w.heap.size := (Array.getElem?_eq_some_iff.1 h).1
theorem Lies.cell {w : World} {g : Nat} {t : TypeId} {cs : Array Value} (h : Lies w g t cs) {j : Nat} {v : Value} (hv : cs[j]? = some v) : w.cell? ⟨g, j, none⟩ = some v := by
  rw [cell_of_row w g j cs t (0, 0) h]; exact hv
theorem Lies.fro {w : World} {g : Nat} {t : TypeId} {cs : Array Value} (h : Lies w g t cs) (j : Nat) : w.frozen? ⟨g, j, none⟩ = false := frozen_of_row w g j cs t h
theorem Lies.new (w : World) (cs : Array Value) (t : TypeId) : Lies (w.alloc (.cells cs t)) w.heap.size t cs := heap_alloc_new w _
theorem Lies.newAt (w : World) (cs : Array Value) (t : TypeId) {g : Nat} (hg : g = w.heap.size) : Lies (w.alloc (.cells cs t)) g t cs := by subst hg; exact heap_alloc_new w _
theorem Lies.alloc {w : World} {g : Nat} {t : TypeId} {cs : Array Value} (h : Lies w g t cs) (o : Obj) : Lies (w.alloc o) g t cs := by
  unfold Lies; rw [Below.heap_alloc w o g h.lt]; exact h
theorem Lies.drew {w : World} {g : Nat} {t : TypeId} {cs : Array Value} (h : Lies w g t cs) : Lies w.drew g t cs := h
theorem Lies.below {w w' : World} {g B : Nat} {t : TypeId} {cs : Array Value} (h : Lies w g t cs) (hb : Below B w w') (hg : g < B) : Lies w' g t cs := by
  unfold Lies; rw [hb.block g hg]; exact h
theorem Lies.set {w : World} {g : Nat} {t : TypeId} {cs : Array Value} (h : Lies w g t cs) (new : Array Value) : Lies (w.setRow g new) g t new := setRow_heap w g cs new t (0, 0) h
theorem Lies.other {w : World} {g : Nat} {t : TypeId} {cs : Array Value} (h : Lies w g t cs) {k : Nat} (hk : g ≠ k) (new : Array Value) : Lies (w.setRow k new) g t cs := by
  unfold Lies; rw [setRow_other w k g new hk]; exact h
theorem Lies.put {w : World} {g : Nat} {t : TypeId} {cs : Array Value} (h : Lies w g t cs) (j : Nat) (v : Value) : Lies (w.setCell ⟨g, j, none⟩ v) g t (cs.setIfInBounds j v) := by
  rw [setCell_eq_setRow w g j cs t (0, 0) v h]; exact h.set _
theorem Lies.putOther {w : World} {g : Nat} {t : TypeId} {cs : Array Value} (h : Lies w g t cs) {a : Addr} (hk : g ≠ a.block) (v : Value) : Lies (w.setCell a v) g t cs := by
  unfold Lies; rw [Below.heap_setCell w a v g hk]; exact h

/-- A part of a block is loaded. -/
theorem wpList_load_part {ops : Array Oper} {rest : List Oper} {op : Oper} {a : Act} {w : World} {Q : Exit → Act → World → Prop} (hgd : op.guard = none) (ty : TypeId) (x : Operand) (ho : op.op = .load ty x)
    (g o n : Nat) (hx : a.eval x = .pointer (some ⟨g, o, none⟩)) (t : TypeId) (cur : Array Value) (hb : Lies w g t cur) (d : TypeDesc)
    (hu : P.underlying ty = some d) (hd : d.isRow = true) (hi : (P.info? ty).map (·.size) = some n) (hn : o + n ≤ cur.size) (out : Array Value) (hout : cur.extract o (o + n) = out)
    (h : wpList P ops Q rest (a.put op.dst (.agg out)) w) : wpList P ops Q (op :: rest) a w := by
  subst hout
  have hl : (cur.extract o (o + n)).toList.length = n := by simp; omega
  have := wpList_load_mid (P := P) (ops := ops) (rest := rest) (op := op) (a := a) (w := w) (Q := Q) hgd ty x ho g o hx (cur.extract o (o + n)).toList d (World.rangeAt_of_block hb o n) hu hd (by rw [hl]; exact hi) (by rw [Array.toArray_toList]; exact h)
  exact this

/-- A value of many cells goes into a part of a block. -/
theorem run_storeVar_part (w : World) (g o : Nat) (t ty : TypeId) (cur vs : Array Value) (hb : Lies w g t cur) (hi : (P.info? ty).map (·.size) = some vs.size) (hn : o + vs.size ≤ cur.size) (h1 : vs.all (·.oneCell') = true) :
    (storeVar ty ⟨g, o, none⟩ (.agg vs)).run P w = .ok () (w.setRow g (cur.toList.take o ++ vs.toList ++ cur.toList.drop (o + vs.size)).toArray) := by
  have := run_storeCells_at (P := P) g o t vs.toList 0 cur w hb (by simpa using hn) (fun v hv => (Array.all_eq_true_iff_forall_mem.1 h1) v (by simpa using hv))
  cases hq : P.info? ty with
  | none => simp [hq] at hi
  | some i =>
    have hs : vs.size = i.size := by simp [hq] at hi; omega
    simp only [Nat.add_zero, Array.length_toList] at this
    simp [storeVar, sizeOf, typeInfo, hq, Value.cells, hs, this]

theorem wpList_store_part {ops : Array Oper} {rest : List Oper} {op : Oper} {a : Act} {w : World} {Q : Exit → Act → World → Prop} (hgd : op.guard = none) (ty : TypeId) (x y : Operand) (ho : op.op = .store ty x y)
    (g o : Nat) (vs : Array Value) (hx : a.eval x = .pointer (some ⟨g, o, none⟩)) (hy : a.eval y = .agg vs) (t : TypeId) (cur : Array Value) (hb : Lies w g t cur)
    (hi : (P.info? ty).map (·.size) = some vs.size) (hn : o + vs.size ≤ cur.size) (h1 : vs.all (·.oneCell') = true) (new : Array Value) (hnew : (cur.toList.take o ++ vs.toList ++ cur.toList.drop (o + vs.size)).toArray = new)
    (h : wpList P ops Q rest (a.put op.dst undef) (w.setRow g new)) : wpList P ops Q (op :: rest) a w := by
  subst hnew
  refine wpList_plain hgd fun _ hK => ?_
  unfold Oper.wp execOp
  simp only [ho, hx, hy, Instr.storeAt, Instr.sureAddr, Sem.run_bind, Sem.run_pure, Result.andThen_ok, run_storeVar_part w g o t ty cur vs hb hi hn h1]
  exact hK _ _ h

theorem wpList_store_all {ops : Array Oper} {rest : List Oper} {op : Oper} {a : Act} {w : World} {Q : Exit → Act → World → Prop} (hgd : op.guard = none) (ty : TypeId) (x y : Operand) (ho : op.op = .store ty x y)
    (g : Nat) (vs : Array Value) (hx : a.eval x = .pointer (some ⟨g, 0, none⟩)) (hy : a.eval y = .agg vs) (t : TypeId) (cur : Array Value) (hb : Lies w g t cur)
    (hi : (P.info? ty).map (·.size) = some vs.size) (hn : cur.size = vs.size) (h1 : vs.all (·.oneCell') = true)
    (h : wpList P ops Q rest (a.put op.dst undef) (w.setRow g vs)) : wpList P ops Q (op :: rest) a w :=
  wpList_store_row hgd ty x y ho g vs hx hy t cur hb hi hn h1 h

/-- A struct, or a row, that is the result. -/
theorem results_lies {fn : Func} {p : Tmp} {ty : TypeId} (h : fn.results = #[.cell p ty]) (tmps : Array Value) (w : World) (g : Nat) (t : TypeId) (cs : Array Value) (d : TypeDesc)
    (hp : tmps.getD p undef = .pointer (some ⟨g, 0, none⟩)) (hb : Lies w g t cs) (hu : P.underlying ty = some d) (hd : d.isRow = true) (hi : (P.info? ty).map (·.size) = some cs.size) :
    (results fn tmps).run P w = .ok (.agg cs) w :=
  results_cell_row h tmps w g t cs (0, 0) d hp hb hu (by cases d <;> simp_all) hi
end
end Go.Proofs.YtodikjjajncimaaDoor
