/- Words of instructions: contracts of both WordsOf. A block that is known whole: what is loaded out of a part of it, and stored into a part of it. A list of instructions that came in, copied: toInstrS. A struct of five ints, by value, that comes in: opened and shut. A list of structs of five ints that comes in: opened. -/
import Derived.Test.YtbfoopfmjiilcaaDoorGXWordsOf35
import Derived.Lib.AppendStr
import Derived.Test.YtbfoopfmjiilcaaDoorRows
import Derived.WalkKit
import Derived.WalkSpells
import Derived.ProofKit
import Derived.Below
import Derived.Laws.Rows
import Derived.Laws.CopyRow
import Derived.Laws.CopyOwn
import Derived.Deep.MidRow
import Derived.Test.YtbfoopfmjiilcaaDoorGXWordsOf27
import Derived.ChangeArms
import Derived.Deep.Slices
import Derived.Deep.Fields
import Derived.ChangeSame
import Derived.WideShapes
import Derived.OpenShut
namespace Go.Proofs.YtbfoopfmjiilcaaDoor
open Go Go.RowKit
set_option linter.unusedVariables false

def wdT (R : Nat → Int) (i : Nat) : Int := encT (R (i * 5)) (R (i * 5 + 1)) (R (i * 5 + 2)) (R (i * 5 + 3)) (R (i * 5 + 4))
def rtB (R : Nat → Int) (i : Nat) : Bool := rightB (R (i * 5)) (R (i * 5 + 1)) (R (i * 5 + 2)) (R (i * 5 + 3)) (R (i * 5 + 4))
/-- The bytes of the first n words. -/
def wL (R : Nat → Int) (n : Nat) : List UInt8 := (List.range n).flatMap fun i => leL (u64 (wdT R i)) 4
theorem wL_succ (R : Nat → Int) (n : Nat) : wL R (n + 1) = wL R n ++ leL (u64 (wdT R n)) 4 := by simp [wL, List.range_succ]
theorem wL_len (R : Nat → Int) (n : Nat) : (wL R n).length = 4 * n := by
  induction n with
  | zero => rfl
  | succ n ih => rw [wL_succ, List.length_append, ih, leL_len]; omega

theorem specEnc0 (op rd r1 r2 im : Int) (w : World) (hr : rightB op rd r1 r2 im = true) :
    Calls Tryd.prog 54 #[.agg #[.int .i64 op, .int .i64 rd, .int .i64 r1, .int .i64 r2, .int .i64 im]] w fun e w' => e = .returned (.int .i64 (encT op rd r1 r2 im)) ∧ Below w.heap.size w w' := by
  unfold encT
  rw [if_pos hr]
  exact specEncYes op rd r1 r2 im _ _ _ _ w hr rfl

set_option maxHeartbeats 2000000 in
theorem specWords0 (p : Option Addr) (n c : Nat) (R : Nat → Int) (w : World) (hn : n ≤ 64) (hp : ListAt w p n R) (hr : ∀ i, i < n → rtB R i = true) :
    Calls Tryd.prog 28 #[.slice p n c] w fun e w' => e = .returned (.string ⟨(wL R n).toArray⟩) ∧ Below w.heap.size w w' := by
  go_enter Tryd.func28, Tryd.ntmps28
  go_wp2
  go_loopw [3, 4] (fun s i wr => ∃ k : Nat, k ≤ n ∧ i = .int .i64 k ∧ s = .string ⟨(wL R k).toArray⟩ ∧ Below w.heap.size w wr) (fun _ i _ => n - (intOf i).toNat)
  case atStart => exact ⟨0, Nat.zero_le _, rfl, rfl, Below.refl _ _⟩
  case round =>
    obtain ⟨k, hk, rfl, rfl, hB⟩ := hrel
    by_cases hlt : k < n
    · rcases hp with hp | ⟨b, o, rfl, hb, hp⟩
      · omega
      obtain ⟨x0, x1, x2, x3, x4⟩ := (hp.below hB hb).five hlt
      have hrk := hr k hlt
      unfold rtB at hrk
      have HS : Hid (wL R (k + 1) = wL R k ++ leL (u64 (wdT R k)) 4) := wL_succ R k
      clear hp hr
      go_wp2_with fail
      refine (specEnc0 _ _ _ _ _ _ hrk).mono ?_
      rintro e w1 ⟨rfl, hb1⟩
      have B1 := hB.trans (hb1.mono hB.size)
      clear hb1 x0 x1 x2 x3 x4
      go_wp2_with fail
      refine (specLittle0 _ 4 _ (by omega)).mono ?_
      rintro e w2 ⟨rfl, hb2⟩
      have B2 := B1.trans (hb2.mono B1.size)
      have l1 := wL_len R k
      have l2 := fun u => leL_len u 4
      clear hb2 B1
      go_wp2
      go_roundw
      case rel => exact ⟨k + 1, by omega, by go_num, by rw [HS.out, ByteArray.mk_append_mk]; rfl, B2⟩
      case measure => simp [intOf]; omega
    · go_wp2
      obtain rfl : k = n := by omega
      go_ret
      exact ⟨rfl, hB⟩

theorem own_below {W W' : World} {B e size n : Nat} {v : Value} {xs : List Value} (h : W.ownsRow B e size v n xs) (hb : Below W.heap.size W W') : W'.ownsRow B e size v n xs := by
  refine ⟨h.1, ?_⟩
  rcases h.2 with hv | ⟨g, cap, cur, h1, h2, h3, h4⟩
  · exact .inl hv
  · exact .inr ⟨g, cap, cur, h1, h2, (hb.block g (Array.getElem?_eq_some_iff.1 h3).1).trans h3, h4⟩

/-- Where all instructions are right. -/
theorem specWords (p : Option Addr) (n c : Nat) (R : Nat → Int) (w : World) (hn : n ≤ 64) (hp : ListAt w p n R) (hr : ∀ i, i < n → rtB R i = true) :
    Calls Tryd.prog 9 #[.slice p n c] w fun e w' => e = .returned (.tuple #[.string ⟨(wL R n).toArray⟩, .int .i64 0]) ∧ Below w.heap.size w w' := by
  go_enter Tryd.func9, Tryd.ntmps9
  go_wp2
  go_loopw [4] (fun i wr => ∃ k : Nat, k ≤ n ∧ i = .int .i64 k ∧ Below w.heap.size w wr) (fun i _ => n - (intOf i).toNat)
  case atStart => exact ⟨0, Nat.zero_le _, rfl, Below.refl _ _⟩
  case round =>
    obtain ⟨k, hk, rfl, hB⟩ := hrel
    by_cases hlt : k < n
    · rcases hp with hp | ⟨b, o, rfl, hb, hp⟩
      · omega
      obtain ⟨x0, x1, x2, x3, x4⟩ := (hp.below hB hb).five hlt
      have hrk := hr k hlt
      unfold rtB at hrk
      clear hp hr
      go_wp2_with fail
      refine (rightC _ _ _ _ _ _).mono ?_
      rintro e w1 ⟨rfl, hb1⟩
      rw [hrk]
      have B1 := hB.trans (hb1.mono hB.size)
      clear hb1 x0 x1 x2 x3 x4
      go_wp2
      go_roundw
      case rel => exact ⟨k + 1, by omega, by go_num, B1⟩
      case measure => simp [intOf]; omega
    · obtain rfl : k = n := by omega
      have hpr : ListAt wr p k R := by
        rcases hp with hp | ⟨b, o, e, hb, hp⟩
        · exact .inl hp
        · exact .inr ⟨b, o, e, Nat.lt_of_lt_of_le hb hB.size, hp.below hB hb⟩
      go_wp2_with (go_at_call 28; refine (specWords0 p k c R _ hn hpr hr).mono ?_; rintro e w1 ⟨rfl, hb1⟩)
      go_ret2
      exact ⟨rfl, hB.trans (hb1.mono hB.size)⟩

theorem specWordsBad (p : Option Addr) (n c : Nat) (R : Nat → Int) (w : World) (hn : n ≤ 64) (hp : ListAt w p n R) (j : Nat) (hj : j < n) (hbad : rtB R j = false) (hr : ∀ i, i < j → rtB R i = true) :
    Calls Tryd.prog 9 #[.slice p n c] w fun e w' => e = .returned (.tuple #[.string ⟨#[]⟩, .int .i64 1]) ∧ Below w.heap.size w w' := by
  rcases hp with hp | ⟨b, o, rfl, hb, hp⟩
  · omega
  go_enter Tryd.func9, Tryd.ntmps9
  go_wp2
  go_loopw [4] (fun i wr => ∃ k : Nat, k ≤ j ∧ i = .int .i64 k ∧ Below w.heap.size w wr) (fun i _ => n - (intOf i).toNat)
  case atStart => exact ⟨0, Nat.zero_le _, rfl, Below.refl _ _⟩
  case round =>
    obtain ⟨k, hk, rfl, hB⟩ := hrel
    have hlt : k < n := by omega
    obtain ⟨x0, x1, x2, x3, x4⟩ := (hp.below hB hb).five hlt
    by_cases hkj : k < j
    · have hrk := hr k hkj
      unfold rtB at hrk
      clear hp hr
      go_wp2_with fail
      refine (rightC _ _ _ _ _ _).mono ?_
      rintro e w1 ⟨rfl, hb1⟩
      rw [hrk]
      have B1 := hB.trans (hb1.mono hB.size)
      clear hb1 x0 x1 x2 x3 x4
      go_wp2
      go_roundw
      case rel => exact ⟨k + 1, by omega, by go_num, B1⟩
      case measure => simp [intOf]; omega
    · obtain rfl : k = j := by omega
      unfold rtB at hbad
      clear hp hr
      go_wp2_with fail
      refine (rightC _ _ _ _ _ _).mono ?_
      rintro e w1 ⟨rfl, hb1⟩
      rw [hbad]
      have B1 := hB.trans (hb1.mono hB.size)
      clear hb1 x0 x1 x2 x3 x4
      go_wp2
      go_ret2
      exact ⟨rfl, B1⟩
theorem specWordsMany (p : Option Addr) (n c : Nat) (w : World) (hn : 64 < n) (hN : n ≤ 1048576) :
    Calls Tryd.prog 9 #[.slice p n c] w fun e w' => e = .returned (.tuple #[.string ⟨#[]⟩, .int .i64 (if 4096 < n then 2 else 6)]) ∧ w' = w := by
  by_cases h : 4096 < n
  · rw [if_pos h]
    go_enter Tryd.func9, Tryd.ntmps9
    go_wp2
    go_ret2
    exact ⟨rfl, rfl⟩
  · rw [if_neg h]
    go_enter Tryd.func9, Tryd.ntmps9
    go_wp2
    go_ret2
    exact ⟨rfl, rfl⟩
theorem implWordsMany (p : Option Addr) (n c : Nat) (w : World) (hn : 64 < n) (hN : n ≤ 1048576) :
    Calls Tryd.prog 11 #[.slice p n c] w fun e w' => e = .returned (.tuple #[.string ⟨#[]⟩, .int .i64 (if 4096 < n then 2 else 6)]) ∧ w' = w := by
  by_cases h : 4096 < n
  · rw [if_pos h]
    go_enter Tryd.func11, Tryd.ntmps11
    go_wp2
    go_ret2
    exact ⟨rfl, rfl⟩
  · rw [if_neg h]
    go_enter Tryd.func11, Tryd.ntmps11
    go_wp2
    go_ret2
    exact ⟨rfl, rfl⟩

set_option maxRecDepth 100000 in
set_option maxHeartbeats 2000000 in
theorem implWords (p : Option Addr) (n c : Nat) (R : Nat → Int) (w : World) (hL : Laid w) (hn : n ≤ 64) (hp : ListAt w p n R) (hr : ∀ i, i < n → rtB R i = true) :
    Calls Tryd.prog 11 #[.slice p n c] w fun e w' => e = .returned (.tuple #[.string ⟨(wL R n).toArray⟩, .int .i64 0]) ∧ Below w.heap.size w w' := by
  obtain ⟨i0, hi, hz0, hz1, hz2⟩ := info_parts Tryd.info_u8
  go_enter Tryd.func11, Tryd.ntmps11
  go_wp2_with (at_make; refine wpList_make_own _ rfl _ _ 51 rfl w.heap.size 5 i0 _ 1 Tryd.underlying51 hi hz0 hz1 .i64 .i64 _ (4 * n) rfl rfl (by omega) (by rw [hz2]; omega) (by unfold maxLen; omega) (Nat.le_refl _) ?_; intro wm hm hgm)
  go_loopw [4, 23] (fun v i wr => ∃ k : Nat, k ≤ n ∧ i = .int .i64 k ∧ wr.ownsRow w.heap.size 5 1 v (4 * k) (byteVals (wL R k)) ∧ Below w.heap.size w wr) (fun _ i _ => n - (intOf i).toNat)
  case atStart => exact ⟨0, Nat.zero_le _, rfl, hm, (Below.refl _ _).grown hgm (Nat.le_refl _) (fun _ h => by cases h)⟩
  case round =>
    obtain ⟨k, hk, rfl, hown, hB⟩ := hrel
    by_cases hlt : k < n
    · rcases hp with hp | ⟨b, o, rfl, hb, hp⟩
      · omega
      obtain ⟨x0, x1, x2, x3, x4⟩ := (hp.below hB hb).five hlt
      have hrk := hr k hlt
      unfold rtB at hrk
      have HS : Hid (wL R (k + 1) = wL R k ++ leL (u64 (wdT R k)) 4) := wL_succ R k
      clear hp hr
      have hLr := laid_below hL hB
      go_wp2_with fail
      refine (implEnc _ _ _ _ _ _ (laid_below hLr ((Below.refl _ _).alloc (Nat.le_refl _) _))).mono ?_
      rintro e w1 ⟨rfl, hb1⟩
      have hb1' : Below wr.heap.size wr w1 := ((Below.refl _ _).alloc (Nat.le_refl _) _).trans (hb1.mono (by simp))
      have B1 := hB.trans (hb1'.mono hB.size)
      have own1 := own_below hown hb1'
      have he : encE (R (k * 5)) (R (k * 5 + 1)) (R (k * 5 + 2)) (R (k * 5 + 3)) (R (k * 5 + 4)) = 0 := by unfold encE; rw [if_pos hrk]
      rw [he]
      have hwu := wrap_u32 (wdT R k)
      have hlw : u64 (wdT R k) % 4294967296 < 4294967296 := Nat.mod_lt _ (by omega)
      have hwd : encT (R (k * 5)) (R (k * 5 + 1)) (R (k * 5 + 2)) (R (k * 5 + 3)) (R (k * 5 + 4)) = wdT R k := rfl
      rw [hwd]
      obtain ⟨V, hV⟩ : ∃ V, V = wdT R k := ⟨_, rfl⟩
      obtain ⟨U, hU⟩ : ∃ U, U = u64 (wdT R k) % 4294967296 := ⟨_, rfl⟩
      rw [← hU, ← hV] at hwu
      rw [← hU] at hlw
      have HU : Hid (leL U 4 = leL (u64 (wdT R k)) 4) := by rw [hU]; exact leL_4 _
      rw [← hV]
      clear hb1 hb1' hown x0 x1 x2 x3 x4 he hwd hV hU hLr hrk
      go_wp2_with fail
      refine (spread_u32 U 4 _ (by omega) hlw).mono ?_
      rintro e w2 ⟨rfl, hb2⟩
      have own2 := own_below own1 hb2
      have B2 := B1.trans (hb2.mono B1.size)
      have s2 := B2.size
      clear hb2 own1 B1
      have hls : (ByteArray.mk (leL U 4).toArray).size = 4 := by show (leL U 4).toArray.size = 4; rw [List.size_toArray, leL_len]
      go_wp2_with (at_builtin; refine Go.Lib.wpList_append_own_string _ rfl _ _ 51 9 rfl w.heap.size 5 i0 Tryd.underlying51 Tryd.underlying9 hi hz0 hz1 hz2 _ (4 * k) _ rfl own2 _ rfl (by unfold maxLen; omega) (by omega) s2 ?_; intro v' w3 hown3 hg3 _)
      go_roundw
      case rel =>
        refine ⟨k + 1, by omega, by go_num, ?_, B2.grown hg3 s2 (fun i e => (own2.lt i e).1)⟩
        rw [HS.out, ← HU.out]
        rw [hls] at hown3
        have e : byteVals (wL R k ++ leL U 4) = byteVals (wL R k) ++ Go.Lib.strCells (ByteArray.mk (leL U 4).toArray) := by simp [byteVals, Go.Lib.strCells]
        rw [e, show 4 * (k + 1) = 4 * k + 4 from by omega]
        exact hown3
      case measure => simp [intOf]; omega
    · obtain rfl : k = n := by omega
      have hbuf : Buf wr w.heap.size 5 u4 (wL R k) := by
        unfold Buf
        rw [wL_len]
        exact hown
      have hconv := Buf.string Tryd.underlying51 Tryd.underlying5 Tryd.underlying9 hbuf
      go_wp2
      go_ret2
      exact ⟨rfl, hB⟩

set_option maxRecDepth 100000 in
set_option maxHeartbeats 2000000 in
theorem implWordsBad (p : Option Addr) (n c : Nat) (R : Nat → Int) (w : World) (hL : Laid w) (hn : n ≤ 64) (hp : ListAt w p n R) (j : Nat) (hj : j < n) (hbad : rtB R j = false) (hr : ∀ i, i < j → rtB R i = true) :
    Calls Tryd.prog 11 #[.slice p n c] w fun e w' => e = .returned (.tuple #[.string ⟨#[]⟩, .int .i64 1]) ∧ Below w.heap.size w w' := by
  obtain ⟨i0, hi, hz0, hz1, hz2⟩ := info_parts Tryd.info_u8
  rcases hp with hp | ⟨b, o, rfl, hb, hp⟩
  · omega
  go_enter Tryd.func11, Tryd.ntmps11
  go_wp2_with (at_make; refine wpList_make_own _ rfl _ _ 51 rfl w.heap.size 5 i0 _ 1 Tryd.underlying51 hi hz0 hz1 .i64 .i64 _ (4 * n) rfl rfl (by omega) (by rw [hz2]; omega) (by unfold maxLen; omega) (Nat.le_refl _) ?_; intro wm hm hgm)
  go_loopw [4, 23] (fun v i wr => ∃ k : Nat, k ≤ j ∧ i = .int .i64 k ∧ wr.ownsRow w.heap.size 5 1 v (4 * k) (byteVals (wL R k)) ∧ Below w.heap.size w wr) (fun _ i _ => n - (intOf i).toNat)
  case atStart => exact ⟨0, Nat.zero_le _, rfl, hm, (Below.refl _ _).grown hgm (Nat.le_refl _) (fun _ h => by cases h)⟩
  case round =>
    obtain ⟨k, hk, rfl, hown, hB⟩ := hrel
    have hlt : k < n := by omega
    obtain ⟨x0, x1, x2, x3, x4⟩ := (hp.below hB hb).five hlt
    have hLr := laid_below hL hB
    clear hp
    by_cases hkj : k < j
    · have hrk := hr k hkj
      unfold rtB at hrk
      have HS : Hid (wL R (k + 1) = wL R k ++ leL (u64 (wdT R k)) 4) := wL_succ R k
      clear hr
      go_wp2_with fail
      refine (implEnc _ _ _ _ _ _ (laid_below hLr ((Below.refl _ _).alloc (Nat.le_refl _) _))).mono ?_
      rintro e w1 ⟨rfl, hb1⟩
      have hb1' : Below wr.heap.size wr w1 := ((Below.refl _ _).alloc (Nat.le_refl _) _).trans (hb1.mono (by simp))
      have B1 := hB.trans (hb1'.mono hB.size)
      have own1 := own_below hown hb1'
      have he : encE (R (k * 5)) (R (k * 5 + 1)) (R (k * 5 + 2)) (R (k * 5 + 3)) (R (k * 5 + 4)) = 0 := by unfold encE; rw [if_pos hrk]
      rw [he]
      have hwu := wrap_u32 (wdT R k)
      have hlw : u64 (wdT R k) % 4294967296 < 4294967296 := Nat.mod_lt _ (by omega)
      have hwd : encT (R (k * 5)) (R (k * 5 + 1)) (R (k * 5 + 2)) (R (k * 5 + 3)) (R (k * 5 + 4)) = wdT R k := rfl
      rw [hwd]
      obtain ⟨V, hV⟩ : ∃ V, V = wdT R k := ⟨_, rfl⟩
      obtain ⟨U, hU⟩ : ∃ U, U = u64 (wdT R k) % 4294967296 := ⟨_, rfl⟩
      rw [← hU, ← hV] at hwu
      rw [← hU] at hlw
      have HU : Hid (leL U 4 = leL (u64 (wdT R k)) 4) := by rw [hU]; exact leL_4 _
      rw [← hV]
      clear hb1 hb1' hown x0 x1 x2 x3 x4 he hwd hV hU hLr hrk
      go_wp2_with fail
      refine (spread_u32 U 4 _ (by omega) hlw).mono ?_
      rintro e w2 ⟨rfl, hb2⟩
      have own2 := own_below own1 hb2
      have B2 := B1.trans (hb2.mono B1.size)
      have s2 := B2.size
      clear hb2 own1 B1
      have hls : (ByteArray.mk (leL U 4).toArray).size = 4 := by show (leL U 4).toArray.size = 4; rw [List.size_toArray, leL_len]
      go_wp2_with (at_builtin; refine Go.Lib.wpList_append_own_string _ rfl _ _ 51 9 rfl w.heap.size 5 i0 Tryd.underlying51 Tryd.underlying9 hi hz0 hz1 hz2 _ (4 * k) _ rfl own2 _ rfl (by unfold maxLen; omega) (by omega) s2 ?_; intro v' w3 hown3 hg3 _)
      go_roundw
      case rel =>
        refine ⟨k + 1, by omega, by go_num, ?_, B2.grown hg3 s2 (fun i e => (own2.lt i e).1)⟩
        rw [HS.out, ← HU.out]
        rw [hls] at hown3
        have e : byteVals (wL R k ++ leL U 4) = byteVals (wL R k) ++ Go.Lib.strCells (ByteArray.mk (leL U 4).toArray) := by simp [byteVals, Go.Lib.strCells]
        rw [e, show 4 * (k + 1) = 4 * k + 4 from by omega]
        exact hown3
      case measure => simp [intOf]; omega
    · obtain rfl : k = j := by omega
      unfold rtB at hbad
      clear hr
      go_wp2_with fail
      refine (implEnc _ _ _ _ _ _ (laid_below hLr ((Below.refl _ _).alloc (Nat.le_refl _) _))).mono ?_
      rintro e w1 ⟨rfl, hb1⟩
      have hb1' : Below wr.heap.size wr w1 := ((Below.refl _ _).alloc (Nat.le_refl _) _).trans (hb1.mono (by simp))
      have B1 := hB.trans (hb1'.mono hB.size)
      have he : encE (R (k * 5)) (R (k * 5 + 1)) (R (k * 5 + 2)) (R (k * 5 + 3)) (R (k * 5 + 4)) = 1 := by unfold encE; rw [hbad]; rfl
      rw [he]
      clear hb1 hb1' hown x0 x1 x2 x3 x4 he hLr hbad
      go_wp2
      go_ret2
      exact ⟨rfl, B1⟩

theorem first_bad (R : Nat → Int) (n : Nat) : (∀ i, i < n → rtB R i = true) ∨ ∃ j, j < n ∧ rtB R j = false ∧ ∀ i, i < j → rtB R i = true := by
  induction n with
  | zero => exact .inl (fun i hi => absurd hi (Nat.not_lt_zero _))
  | succ n ih =>
    rcases ih with h | ⟨j, hj, hb, hr⟩
    · cases e : rtB R n with
      | true => exact .inl (fun i hi => by
          rcases Nat.lt_succ_iff_lt_or_eq.1 hi with h' | rfl
          · exact h i h'
          · exact e)
      | false => exact .inr ⟨n, Nat.lt_succ_self _, e, h⟩
    · exact .inr ⟨j, Nat.lt_succ_of_lt hj, hb, hr⟩

/-- Both answer the same of whatever list. -/
theorem wordsBoth (n : Nat) (hN : n ≤ 1048576) (R : Nat → Int) : ∃ (t : ByteArray) (co : Int),
    (∀ (p : Option Addr) (c : Nat) (w : World), ListAt w p n R → Calls Tryd.prog 9 #[.slice p n c] w fun e w' => e = .returned (.tuple #[.string t, .int .i64 co]) ∧ Below w.heap.size w w') ∧
    (∀ (p : Option Addr) (c : Nat) (w : World), Laid w → ListAt w p n R → Calls Tryd.prog 11 #[.slice p n c] w fun e w' => e = .returned (.tuple #[.string t, .int .i64 co]) ∧ Below w.heap.size w w') := by
  by_cases hn : n ≤ 64
  · rcases first_bad R n with h | ⟨j, hj, hb, hr⟩
    · exact ⟨_, _, fun p c w hp => specWords p n c R w hn hp h, fun p c w hL hp => implWords p n c R w hL hn hp h⟩
    · exact ⟨_, _, fun p c w hp => specWordsBad p n c R w hn hp j hj hb hr, fun p c w hL hp => implWordsBad p n c R w hL hn hp j hj hb hr⟩
  · exact ⟨_, _, fun p c w hp => (specWordsMany p n c w (by omega) hN).mono fun e w' ⟨h1, h2⟩ => ⟨h1, h2 ▸ Below.refl _ _⟩, fun p c w hL hp => (implWordsMany p n c w (by omega) hN).mono fun e w' ⟨h1, h2⟩ => ⟨h1, h2 ▸ Below.refl _ _⟩⟩
end Go.Proofs.YtbfoopfmjiilcaaDoor

namespace Go.Proofs.YtbfoopfmjiilcaaDoor
open Go.RowKit
set_option linter.unusedVariables false
section
variable {P : Program}

/-- The block's cells. -/
def Lies (w : World) (g : Nat) (t : TypeId) (cs : Array Value) : Prop := w.heap[g]? = some (.cells cs t (0, 0))
theorem Lies.lt {w : World} {g : Nat} {t : TypeId} {cs : Array Value} (h : Lies w g t cs) : g < w.heap.size := (Array.getElem?_eq_some_iff.1 h).1
theorem Lies.cell {w : World} {g : Nat} {t : TypeId} {cs : Array Value} (h : Lies w g t cs) {j : Nat} {v : Value} (hv : cs[j]? = some v) : w.cell? ⟨g, j, none⟩ = some v := by
  rw [cell_of_row w g j cs t (0, 0) h]; exact hv
theorem Lies.fro {w : World} {g : Nat} {t : TypeId} {cs : Array Value} (h : Lies w g t cs) (j : Nat) : w.frozen? ⟨g, j, none⟩ = false := frozen_of_row w g j cs t h
theorem Lies.new (w : World) (cs : Array Value) (t : TypeId) : Lies (w.alloc (.cells cs t)) w.heap.size t cs := heap_alloc_new w _
theorem Lies.newAt (w : World) (cs : Array Value) (t : TypeId) {g : Nat} (hg : g = w.heap.size) : Lies (w.alloc (.cells cs t)) g t cs := by subst hg; exact heap_alloc_new w _
theorem Lies.alloc {w : World} {g : Nat} {t : TypeId} {cs : Array Value} (h : Lies w g t cs) (o : Obj) : Lies (w.alloc o) g t cs := by
  unfold Lies; rw [Below.heap_alloc w o g h.lt]; exact h
theorem Lies.drew {w : World} {g : Nat} {t : TypeId} {cs : Array Value} (h : Lies w g t cs) : Lies w.drew g t cs := h
theorem Lies.below {w w' : World} {g B : Nat} {t : TypeId} {cs : Array Value} (h : Lies w g t cs) (hb : Below B w w') (hg : g < B) : Lies w' g t cs := by
  unfold Lies; rw [hb.block g hg]; exact h
theorem Lies.set {w : World} {g : Nat} {t : TypeId} {cs : Array Value} (h : Lies w g t cs) (new : Array Value) : Lies (w.setRow g new) g t new := setRow_heap w g cs new t (0, 0) h
theorem Lies.other {w : World} {g : Nat} {t : TypeId} {cs : Array Value} (h : Lies w g t cs) {k : Nat} (hk : g ≠ k) (new : Array Value) : Lies (w.setRow k new) g t cs := by
  unfold Lies; rw [setRow_other w k g new hk]; exact h
theorem Lies.put {w : World} {g : Nat} {t : TypeId} {cs : Array Value} (h : Lies w g t cs) (j : Nat) (v : Value) : Lies (w.setCell ⟨g, j, none⟩ v) g t (cs.setIfInBounds j v) := by
  rw [setCell_eq_setRow w g j cs t (0, 0) v h]; exact h.set _
theorem Lies.putOther {w : World} {g : Nat} {t : TypeId} {cs : Array Value} (h : Lies w g t cs) {a : Addr} (hk : g ≠ a.block) (v : Value) : Lies (w.setCell a v) g t cs := by
  unfold Lies; rw [Below.heap_setCell w a v g hk]; exact h

/-- A part of a block is loaded. -/
theorem wpList_load_part {ops : Array Oper} {rest : List Oper} {op : Oper} {a : Act} {w : World} {Q : Exit → Act → World → Prop} (hgd : op.guard = none) (ty : TypeId) (x : Operand) (ho : op.op = .load ty x)
    (g o n : Nat) (hx : a.eval x = .pointer (some ⟨g, o, none⟩)) (t : TypeId) (cur : Array Value) (hb : Lies w g t cur) (d : TypeDesc)
    (hu : P.underlying ty = some d) (hd : d.isRow = true) (hi : (P.info? ty).map (·.size) = some n) (hn : o + n ≤ cur.size) (out : Array Value) (hout : cur.extract o (o + n) = out)
    (h : wpList P ops Q rest (a.put op.dst (.agg out)) w) : wpList P ops Q (op :: rest) a w := by
  subst hout
  have hl : (cur.extract o (o + n)).toList.length = n := by simp; omega
  have := wpList_load_mid (P := P) (ops := ops) (rest := rest) (op := op) (a := a) (w := w) (Q := Q) hgd ty x ho g o hx (cur.extract o (o + n)).toList d (World.rangeAt_of_block hb o n) hu hd (by rw [hl]; exact hi) (by rw [Array.toArray_toList]; exact h)
  exact this

/-- A value of many cells goes into a part of a block. -/
theorem run_storeVar_part (w : World) (g o : Nat) (t ty : TypeId) (cur vs : Array Value) (hb : Lies w g t cur) (hi : (P.info? ty).map (·.size) = some vs.size) (hn : o + vs.size ≤ cur.size) (h1 : vs.all (·.oneCell') = true) :
    (storeVar ty ⟨g, o, none⟩ (.agg vs)).run P w = .ok () (w.setRow g (cur.toList.take o ++ vs.toList ++ cur.toList.drop (o + vs.size)).toArray) := by
  have := run_storeCells_at (P := P) g o t vs.toList 0 cur w hb (by simpa using hn) (fun v hv => (Array.all_eq_true_iff_forall_mem.1 h1) v (by simpa using hv))
  cases hq : P.info? ty with
  | none => simp [hq] at hi
  | some i =>
    have hs : vs.size = i.size := by simp [hq] at hi; omega
    simp only [Nat.add_zero, Array.length_toList] at this
    simp [storeVar, sizeOf, typeInfo, hq, Value.cells, hs, this]

theorem wpList_store_part {ops : Array Oper} {rest : List Oper} {op : Oper} {a : Act} {w : World} {Q : Exit → Act → World → Prop} (hgd : op.guard = none) (ty : TypeId) (x y : Operand) (ho : op.op = .store ty x y)
    (g o : Nat) (vs : Array Value) (hx : a.eval x = .pointer (some ⟨g, o, none⟩)) (hy : a.eval y = .agg vs) (t : TypeId) (cur : Array Value) (hb : Lies w g t cur)
    (hi : (P.info? ty).map (·.size) = some vs.size) (hn : o + vs.size ≤ cur.size) (h1 : vs.all (·.oneCell') = true) (new : Array Value) (hnew : (cur.toList.take o ++ vs.toList ++ cur.toList.drop (o + vs.size)).toArray = new)
    (h : wpList P ops Q rest (a.put op.dst undef) (w.setRow g new)) : wpList P ops Q (op :: rest) a w := by
  subst hnew
  refine wpList_plain hgd fun _ hK => ?_
  unfold Oper.wp execOp
  simp only [ho, hx, hy, Instr.storeAt, Instr.sureAddr, Sem.run_bind, Sem.run_pure, Result.andThen_ok, run_storeVar_part w g o t ty cur vs hb hi hn h1]
  exact hK _ _ h

theorem wpList_store_all {ops : Array Oper} {rest : List Oper} {op : Oper} {a : Act} {w : World} {Q : Exit → Act → World → Prop} (hgd : op.guard = none) (ty : TypeId) (x y : Operand) (ho : op.op = .store ty x y)
    (g : Nat) (vs : Array Value) (hx : a.eval x = .pointer (some ⟨g, 0, none⟩)) (hy : a.eval y = .agg vs) (t : TypeId) (cur : Array Value) (hb : Lies w g t cur)
    (hi : (P.info? ty).map (·.size) = some vs.size) (hn : cur.size = vs.size) (h1 : vs.all (·.oneCell') = true)
    (h : wpList P ops Q rest (a.put op.dst undef) (w.setRow g vs)) : wpList P ops Q (op :: rest) a w :=
  wpList_store_row hgd ty x y ho g vs hx hy t cur hb hi hn h1 h

/-- A struct, or a row, that is the result. -/
theorem results_lies {fn : Func} {p : Tmp} {ty : TypeId} (h : fn.results = #[.cell p ty]) (tmps : Array Value) (w : World) (g : Nat) (t : TypeId) (cs : Array Value) (d : TypeDesc)
    (hp : tmps.getD p undef = .pointer (some ⟨g, 0, none⟩)) (hb : Lies w g t cs) (hu : P.underlying ty = some d) (hd : d.isRow = true) (hi : (P.info? ty).map (·.size) = some cs.size) :
    (results fn tmps).run P w = .ok (.agg cs) w :=
  results_cell_row h tmps w g t cs (0, 0) d hp hb hu (by cases d <;> simp_all) hi
end
end Go.Proofs.YtbfoopfmjiilcaaDoor

namespace Go.Proofs.YtbfoopfmjiilcaaDoor
open Go Go.RowKit
set_option linter.unusedVariables false
theorem Tryd.info_ins : (Tryd.prog.info? 47).map (fun i => (i.zero, i.size, i.bytes)) = some (some (.agg #[.int .i64 0, .int .i64 0, .int .i64 0, .int .i64 0, .int .i64 0]), 5, 40) := by kernel_rfl

theorem put5 {cur : Array Value} {R : Nat → Int} {n k : Nat} (hs : cur.size = n * 5) (hk : k < n) (hc : ∀ i, i < k * 5 → cur[i]? = some (.int .i64 (R i))) :
    (cur.toList.take (k * 5) ++ [Value.int .i64 (R (k * 5)), .int .i64 (R (k * 5 + 1)), .int .i64 (R (k * 5 + 2)), .int .i64 (R (k * 5 + 3)), .int .i64 (R (k * 5 + 4))] ++ cur.toList.drop (k * 5 + 5)).toArray.size = n * 5 ∧
    ∀ i, i < (k + 1) * 5 → (cur.toList.take (k * 5) ++ [Value.int .i64 (R (k * 5)), .int .i64 (R (k * 5 + 1)), .int .i64 (R (k * 5 + 2)), .int .i64 (R (k * 5 + 3)), .int .i64 (R (k * 5 + 4))] ++ cur.toList.drop (k * 5 + 5)).toArray[i]? = some (.int .i64 (R i)) := by
  have hl : cur.toList.length = n * 5 := by simpa using hs
  refine ⟨by simp; omega, fun i hi => ?_⟩
  rw [List.getElem?_toArray, List.append_assoc]
  by_cases h : i < k * 5
  · rw [List.getElem?_append_left (by rw [List.length_take]; omega), List.getElem?_take, if_pos h]
    have := hc i h
    rw [Array.getElem?_toList]
    exact this
  · rw [List.getElem?_append_right (by rw [List.length_take]; omega), List.length_take, Nat.min_eq_left (by omega)]
    have : i = k * 5 ∨ i = k * 5 + 1 ∨ i = k * 5 + 2 ∨ i = k * 5 + 3 ∨ i = k * 5 + 4 := by omega
    rcases this with rfl | rfl | rfl | rfl | rfl
    · rw [Nat.sub_self]; rfl
    · rw [Nat.add_sub_cancel_left]; rfl
    · rw [Nat.add_sub_cancel_left]; rfl
    · rw [Nat.add_sub_cancel_left]; rfl
    · rw [Nat.add_sub_cancel_left]; rfl

set_option maxRecDepth 100000 in
set_option maxHeartbeats 2000000 in
theorem toList (p : Option Addr) (n c : Nat) (R : Nat → Int) (w : World) (hn : n ≤ 1048576) (hp : ListAt w p n R) :
    Calls Tryd.prog 10 #[.slice p n c] w fun e w' => ∃ g, e = .returned (.slice (some ⟨g, 0, none⟩) n n) ∧ Below w.heap.size w w' ∧ w.heap.size ≤ g ∧ g < w'.heap.size ∧ Flat w' g 0 (n * 5) R := by
  obtain ⟨i0, hi, hz0, hz1, hz2⟩ := info_parts Tryd.info_ins
  go_enter Tryd.func10, Tryd.ntmps10
  go_wp2_with (at_make; refine wpList_make_full _ rfl _ _ 26 rfl w.heap.size 47 i0 _ 5 Tryd.underlying26 hi hz0 hz1 .i64 .i64 _ _ n rfl rfl (by omega) (by omega) (by rw [hz2]; omega) (by unfold maxLen; omega) (Nat.le_refl _) ?_; intro wm hm hgm)
  go_loopw [4] (fun i wr => ∃ k : Nat, k ≤ n ∧ i = .int .i64 k ∧ Below w.heap.size w wr ∧ ∃ cur, Lies wr w.heap.size 47 cur ∧ cur.size = n * 5 ∧ ∀ i, i < k * 5 → cur[i]? = some (.int .i64 (R i))) (fun i _ => n - (intOf i).toNat)
  case atStart =>
    rcases hm.2 with ⟨hv, _⟩ | ⟨g, cap, cur, hv, _, hg, _, _, hcs, _⟩
    · cases hv
    · obtain ⟨rfl, rfl⟩ : w.heap.size = g ∧ n = cap := by simpa using hv
      exact ⟨0, Nat.zero_le _, rfl, (Below.refl _ _).grown hgm (Nat.le_refl _) (fun _ h => by cases h), cur, hg, hcs, fun i hi => absurd hi (by omega)⟩
  case round =>
    obtain ⟨k, hk, rfl, hB, cur, hl, hs, hc⟩ := hrel
    by_cases hlt : k < n
    · rcases hp with hp | ⟨b, o, rfl, hb, hp⟩
      · omega
      have hx := hp.below hB hb
      have x0 := hx.at5 hlt 0 (by omega)
      have x1 := hx.at5 hlt 1 (by omega)
      have x2 := hx.at5 hlt 2 (by omega)
      have x3 := hx.at5 hlt 3 (by omega)
      have x4 := hx.at5 hlt 4 (by omega)
      simp only [Nat.add_zero] at x0
      have hput := put5 (R := R) hs hlt hc
      obtain ⟨new, hnew⟩ : ∃ new, (cur.toList.take (k * 5) ++ [Value.int .i64 (R (k * 5)), .int .i64 (R (k * 5 + 1)), .int .i64 (R (k * 5 + 2)), .int .i64 (R (k * 5 + 3)), .int .i64 (R (k * 5 + 4))] ++ cur.toList.drop (k * 5 + 5)).toArray = new := ⟨_, rfl⟩
      rw [hnew] at hput
      have HN : Hid (_ = new) := hnew
      clear hnew
      clear hp hx
      go_wp2_with fail
      refine (toInstrC _ _ _ _ _ _).mono ?_
      rintro e w1 ⟨rfl, hb1⟩
      have l1 := hl.below hb1 hl.lt
      have B1 := hB.trans (hb1.mono hB.size)
      have s1 := hB.size
      clear hb1 hl x0 x1 x2 x3 x4 hB
      have hi' : (Tryd.prog.info? 47).map (·.size) = some (#[Value.int .i64 (R (k * 5)), .int .i64 (R (k * 5 + 1)), .int .i64 (R (k * 5 + 2)), .int .i64 (R (k * 5 + 3)), .int .i64 (R (k * 5 + 4))] : Array Value).size := by rw [hi]; simp [hz1]
      go_wp2_with (refine wpList_store_part rfl 47 (.tmp 21) (.tmp 20) rfl w.heap.size (k * 5) #[.int .i64 (R (k * 5)), .int .i64 (R (k * 5 + 1)), .int .i64 (R (k * 5 + 2)), .int .i64 (R (k * 5 + 3)), .int .i64 (R (k * 5 + 4))] rfl rfl _ _ l1 hi' (by simp; omega) (by simp [Value.oneCell']) new HN.out ?_)
      have l2 := l1.set new
      go_roundw
      case rel => exact ⟨k + 1, by omega, by go_num, below_setRow B1 (Nat.le_refl _) _, _, l2, hput.1, hput.2⟩
      case measure => simp [intOf]; omega
    · obtain rfl : k = n := by omega
      have hlt := hl.lt
      go_wp2
      go_ret
      exact ⟨_, rfl, hB, Nat.le_refl _, hlt, fun i hi => ⟨by rw [Nat.zero_add]; exact hl.cell (hc i hi), hl.fro _⟩⟩

theorem szNo (p : Option Addr) (n c : Nat) (w : World) (hn : 1048576 < n) (hm : n ≤ 9223372036854775807) :
    Calls Tryd.prog 8 #[.slice p n c, .int .i64 1048576] w fun e w' => e = .returned (.int .i64 (-1)) ∧ w' = w := by
  go_enter Tryd.func8, Tryd.ntmps8
  go_wp2
  go_ret
  exact ⟨rfl, rfl⟩
theorem szYes (p : Option Addr) (n c : Nat) (w : World) (hn : n ≤ 1048576) :
    Calls Tryd.prog 8 #[.slice p n c, .int .i64 1048576] w fun e w' => e = .returned (.int .i64 (1048576 - n)) ∧ w' = w := by
  go_enter Tryd.func8, Tryd.ntmps8
  go_wp2
  go_ret
  exact ⟨rfl, rfl⟩
end Go.Proofs.YtbfoopfmjiilcaaDoor

namespace Go.Proofs.YtbfoopfmjiilcaaDoor
open Go Go.RowKit Go.ChangeShapes Go.WideShapes Go.Deep
set_option linter.unusedVariables false
section
variable {H : Type} {enc : TypeId × Value → H} {P : Program} {w : World} {base : Nat} {spare : Nat → Bool} {held : Bool}

theorem array5 {α : Type} {cs : Array α} (h : cs.size = 5) : ∃ c0 c1 c2 c3 c4, cs = #[c0, c1, c2, c3, c4] := by
  obtain ⟨l⟩ := cs
  match l, h with
  | [c0, c1, c2, c3, c4], _ => exact ⟨c0, c1, c2, c3, c4, rfl⟩

theorem trod_five {t : TypeId} {f0 f1 f2 f3 f4 : Field} {fuel : Nat} {cs : List Value} {x : DataW H × List MemPlace} (ht : P.underlying t = some (.struct #[f0, f1, f2, f3, f4])) (h : DataW.trod enc P w base spare held fuel t cs = some x) :
    ∃ y0 y1 y2 y3 y4 n, x = (.agg [y0.1, y1.1, y2.1, y3.1, y4.1], y0.2 ++ (y1.2 ++ (y2.2 ++ (y3.2 ++ y4.2)))) ∧ cs.length = P.cellsOf t ∧ DataW.trod enc P w base spare held n f0.type ((cs.drop f0.offset).take (P.cellsOf f0.type)) = some y0 ∧
      DataW.trod enc P w base spare held n f1.type ((cs.drop f1.offset).take (P.cellsOf f1.type)) = some y1 ∧ DataW.trod enc P w base spare held n f2.type ((cs.drop f2.offset).take (P.cellsOf f2.type)) = some y2 ∧
      DataW.trod enc P w base spare held n f3.type ((cs.drop f3.offset).take (P.cellsOf f3.type)) = some y3 ∧ DataW.trod enc P w base spare held n f4.type ((cs.drop f4.offset).take (P.cellsOf f4.type)) = some y4 := by
  obtain ⟨xs, n, _, rfl, hl, hlen, hf⟩ := DataW.trod_struct ht h
  match xs, hlen with
  | [y0, y1, y2, y3, y4], _ => exact ⟨y0, y1, y2, y3, y4, n, by simp, hl, by simpa using hf 0 f0 rfl, by simpa using hf 1 f1 rfl, by simpa using hf 2 f2 rfl, by simpa using hf 3 f3 rfl, by simpa using hf 4 f4 rfl⟩

theorem open_five {r : Reach} {b0 : Nat} {t : TypeId} {f0 f1 f2 f3 f4 : Field} {v : Value} {d : DataW H} {p : List MemPlace} (hs : P.underlying t = some (.struct #[f0, f1, f2, f3, f4])) (hone : oneCellFields P #[f0, f1, f2, f3, f4] = true) (hC : P.cellsOf t = 5)
    (u0 : P.underlying f0.type = some (.int .i64)) (u1 : P.underlying f1.type = some (.int .i64)) (u2 : P.underlying f2.type = some (.int .i64)) (u3 : P.underlying f3.type = some (.int .i64)) (u4 : P.underlying f4.type = some (.int .i64))
    (hv : Value.okWide P w r b0 t v) (h : DataW.Trod enc P w base spare held t v d p) :
    ∃ a0 a1 a2 a3 a4 : Int, v = .agg #[.int .i64 a0, .int .i64 a1, .int .i64 a2, .int .i64 a3, .int .i64 a4] ∧ d = .agg [.lit (.int .i64 a0), .lit (.int .i64 a1), .lit (.int .i64 a2), .lit (.int .i64 a3), .lit (.int .i64 a4)] ∧ p = [] ∧
      (Lit.int .i64 a0).wf = true ∧ (Lit.int .i64 a1).wf = true ∧ (Lit.int .i64 a2).wf = true ∧ (Lit.int .i64 a3).wf = true ∧ (Lit.int .i64 a4).wf = true := by
  obtain ⟨cs, rfl, hsz⟩ := okWide_struct hs hv
  obtain ⟨c0, c1, c2, c3, c4, rfl⟩ := array5 (hsz.trans hC)
  obtain ⟨fuel, hf⟩ := h
  obtain ⟨y0, y1, y2, y3, y4, n, hx, _, h0, h1, h2, h3, h4⟩ := trod_five hs hf
  obtain ⟨o0, k0⟩ := hone_of hone 0 f0 rfl
  obtain ⟨o1, k1⟩ := hone_of hone 1 f1 rfl
  obtain ⟨o2, k2⟩ := hone_of hone 2 f2 rfl
  obtain ⟨o3, k3⟩ := hone_of hone 3 f3 rfl
  obtain ⟨o4, k4⟩ := hone_of hone 4 f4 rfl
  simp only [Prod.mk.injEq] at hx
  have g0 : DataW.trod enc P w base spare held n f0.type [c0] = some y0 := by simpa [Value.cells, o0, k0] using h0
  have g1 : DataW.trod enc P w base spare held n f1.type [c1] = some y1 := by simpa [Value.cells, o1, k1] using h1
  have g2 : DataW.trod enc P w base spare held n f2.type [c2] = some y2 := by simpa [Value.cells, o2, k2] using h2
  have g3 : DataW.trod enc P w base spare held n f3.type [c3] = some y3 := by simpa [Value.cells, o3, k3] using h3
  have g4 : DataW.trod enc P w base spare held n f4.type [c4] = some y4 := by simpa [Value.cells, o4, k4] using h4
  obtain ⟨a0, e0, rfl, w0⟩ := DataW.trod_int u0 g0
  obtain ⟨a1, e1, rfl, w1⟩ := DataW.trod_int u1 g1
  obtain ⟨a2, e2, rfl, w2⟩ := DataW.trod_int u2 g2
  obtain ⟨a3, e3, rfl, w3⟩ := DataW.trod_int u3 g3
  obtain ⟨a4, e4, rfl, w4⟩ := DataW.trod_int u4 g4
  simp only [List.cons.injEq, and_true] at e0 e1 e2 e3 e4
  subst e0 e1 e2 e3 e4
  exact ⟨a0, a1, a2, a3, a4, rfl, hx.1, by simpa using hx.2, w0, w1, w2, w3, w4⟩

theorem shut_five {t : TypeId} {f0 f1 f2 f3 f4 : Field} {a0 a1 a2 a3 a4 : Int} (hs : P.underlying t = some (.struct #[f0, f1, f2, f3, f4])) (hone : oneCellFields P #[f0, f1, f2, f3, f4] = true) (hC : P.cellsOf t = 5)
    (u0 : P.underlying f0.type = some (.int .i64)) (u1 : P.underlying f1.type = some (.int .i64)) (u2 : P.underlying f2.type = some (.int .i64)) (u3 : P.underlying f3.type = some (.int .i64)) (u4 : P.underlying f4.type = some (.int .i64))
    (w0 : (Lit.int .i64 a0).wf = true) (w1 : (Lit.int .i64 a1).wf = true) (w2 : (Lit.int .i64 a2).wf = true) (w3 : (Lit.int .i64 a3).wf = true) (w4 : (Lit.int .i64 a4).wf = true) :
    DataW.Trod enc P w base spare held t (.agg #[.int .i64 a0, .int .i64 a1, .int .i64 a2, .int .i64 a3, .int .i64 a4]) (.agg [.lit (.int .i64 a0), .lit (.int .i64 a1), .lit (.int .i64 a2), .lit (.int .i64 a3), .lit (.int .i64 a4)]) [] := by
  obtain ⟨o0, k0⟩ := hone_of hone 0 f0 rfl
  obtain ⟨o1, k1⟩ := hone_of hone 1 f1 rfl
  obtain ⟨o2, k2⟩ := hone_of hone 2 f2 rfl
  obtain ⟨o3, k3⟩ := hone_of hone 3 f3 rfl
  obtain ⟨o4, k4⟩ := hone_of hone 4 f4 rfl
  have t0 := trod_int_mk (enc := enc) (w := w) (base := base) (spare := spare) (held := held) 0 u0 w0
  have t1 := trod_int_mk (enc := enc) (w := w) (base := base) (spare := spare) (held := held) 0 u1 w1
  have t2 := trod_int_mk (enc := enc) (w := w) (base := base) (spare := spare) (held := held) 0 u2 w2
  have t3 := trod_int_mk (enc := enc) (w := w) (base := base) (spare := spare) (held := held) 0 u3 w3
  have t4 := trod_int_mk (enc := enc) (w := w) (base := base) (spare := spare) (held := held) 0 u4 w4
  have ts := trod_struct_mk (enc := enc) (w := w) (base := base) (spare := spare) (held := held) (n := 1) (cs := [.int .i64 a0, .int .i64 a1, .int .i64 a2, .int .i64 a3, .int .i64 a4]) (xs := [(.lit (.int .i64 a0), []), (.lit (.int .i64 a1), []), (.lit (.int .i64 a2), []), (.lit (.int .i64 a3), []), (.lit (.int .i64 a4), [])]) hs (by simp [hC])
    (by simp [o0, o1, o2, o3, o4, k0, k1, k2, k3, k4, t0, t1, t2, t3, t4])
  exact ⟨_, by simpa [Value.cells] using ts⟩
end
end Go.Proofs.YtbfoopfmjiilcaaDoor

namespace Go.Proofs.YtbfoopfmjiilcaaDoor
open Go Go.RowKit Go.ChangeShapes Go.WideShapes Go.Deep
set_option linter.unusedVariables false

/-- What the walk is told of a list of instructions that came in. -/
def IsFives (w : World) (a : Option Addr) (len cap : Nat) : Prop :=
  (a = none ∧ len = 0 ∧ cap = 0) ∨ ∃ (x : Addr) (R : Nat → Int), a = some x ∧ len ≤ cap ∧ cap ≤ maxLen ∧ (∀ i j, i < len → j < 5 → w.cell? ((x.add (i * 5)).add j) = some (.int .i64 (R (i * 5 + j)))) ∧ ∀ i, i < len * 5 → (Lit.int .i64 (R i)).wf = true

section
variable {H : Type} {enc : TypeId × Value → H} {P : Program} {w : World} {base : Nat} {spare : Nat → Bool} {held : Bool}
theorem open_fives {t e : TypeId} {f0 f1 f2 f3 f4 : Field} {fuel : Nat} {a : Option Addr} {len cap : Nat} {x : DataW H × List MemPlace} (ht : P.underlying t = some (.slice e)) (hs : P.underlying e = some (.struct #[f0, f1, f2, f3, f4])) (hone : oneCellFields P #[f0, f1, f2, f3, f4] = true) (hC : P.cellsOf e = 5)
    (u0 : P.underlying f0.type = some (.int .i64)) (u1 : P.underlying f1.type = some (.int .i64)) (u2 : P.underlying f2.type = some (.int .i64)) (u3 : P.underlying f3.type = some (.int .i64)) (u4 : P.underlying f4.type = some (.int .i64))
    (h : DataW.trod enc P w base spare held fuel t [.slice a len cap] = some x) : IsFives w a len cap := by
  rcases open_slice ht h with ⟨hcs, _⟩ | ⟨ad, l, c, m, n, D, Pl, hcs, hb, hl, hm, hmm, rfl, hx⟩
  · simp at hcs
    exact .inl hcs
  · simp at hcs
    obtain ⟨rfl, rfl, rfl⟩ := hcs
    have hlm : len ≤ m := by rw [hmm]; split <;> omega
    obtain ⟨o0, k0⟩ := hone_of hone 0 f0 rfl
    obtain ⟨o1, k1⟩ := hone_of hone 1 f1 rfl
    obtain ⟨o2, k2⟩ := hone_of hone 2 f2 rfl
    obtain ⟨o3, k3⟩ := hone_of hone 3 f3 rfl
    obtain ⟨o4, k4⟩ := hone_of hone 4 f4 rfl
    have each : ∀ i, i < len → ∃ q : Nat → Int, ∀ j, j < 5 → w.cell? ((ad.add (i * 5)).add j) = some (.int .i64 (q j)) ∧ (Lit.int .i64 (q j)).wf = true := by
      intro i hi
      obtain ⟨cs', h1, h2⟩ := hx i (by omega)
      rw [hC] at h1
      obtain ⟨_, hlen, hcell⟩ := World.cells?_some h1
      obtain ⟨y0, y1, y2, y3, y4, n', _, _, h0, h1', h2', h3, h4⟩ := trod_five hs h2
      match cs', hlen with
      | [c0, c1, c2, c3, c4], _ =>
        have g0 : DataW.trod enc P w base spare held n' f0.type [c0] = some y0 := by simpa [o0, k0] using h0
        have g1 : DataW.trod enc P w base spare held n' f1.type [c1] = some y1 := by simpa [o1, k1] using h1'
        have g2 : DataW.trod enc P w base spare held n' f2.type [c2] = some y2 := by simpa [o2, k2] using h2'
        have g3 : DataW.trod enc P w base spare held n' f3.type [c3] = some y3 := by simpa [o3, k3] using h3
        have g4 : DataW.trod enc P w base spare held n' f4.type [c4] = some y4 := by simpa [o4, k4] using h4
        obtain ⟨a0, e0, _, w0⟩ := DataW.trod_int u0 g0
        obtain ⟨a1, e1, _, w1⟩ := DataW.trod_int u1 g1
        obtain ⟨a2, e2, _, w2⟩ := DataW.trod_int u2 g2
        obtain ⟨a3, e3, _, w3⟩ := DataW.trod_int u3 g3
        obtain ⟨a4, e4, _, w4⟩ := DataW.trod_int u4 g4
        simp only [List.cons.injEq, and_true] at e0 e1 e2 e3 e4
        subst e0 e1 e2 e3 e4
        refine ⟨fun j => [a0, a1, a2, a3, a4].getD j 0, fun j hj => ?_⟩
        have hj' : j = 0 ∨ j = 1 ∨ j = 2 ∨ j = 3 ∨ j = 4 := by omega
        have hc := hcell j (by simpa using hj)
        rcases hj' with rfl | rfl | rfl | rfl | rfl
        · exact ⟨by simpa using hc, w0⟩
        · exact ⟨by simpa using hc, w1⟩
        · exact ⟨by simpa using hc, w2⟩
        · exact ⟨by simpa using hc, w3⟩
        · exact ⟨by simpa using hc, w4⟩
    obtain ⟨Q, hQ⟩ := choose_lt each
    refine .inr ⟨ad, fun i => Q (i / 5) (i % 5), rfl, hl, hm, fun i j hi hj => ?_, fun i hi => ?_⟩
    · have e1 : (i * 5 + j) / 5 = i := by omega
      have e2 : (i * 5 + j) % 5 = j := by omega
      show _ = some (Value.int .i64 (Q ((i * 5 + j) / 5) ((i * 5 + j) % 5)))
      rw [e1, e2]
      exact (hQ i hi j hj).1
    · exact (hQ (i / 5) (by omega) (i % 5) (by omega)).2
end

theorem list_of_fives {w : World} {a : Option Addr} {len cap : Nat} (h : IsFives w a len cap) : ∃ R : Nat → Int, ListAt w a len R ∧ (∀ i, i < len * 5 → (Lit.int .i64 (R i)).wf = true) ∧ len ≤ maxLen := by
  rcases h with ⟨rfl, rfl, rfl⟩ | ⟨x, R, rfl, hl, hm, hc, hw⟩
  · exact ⟨fun _ => 0, .inl rfl, fun i hi => absurd hi (by omega), Nat.zero_le _⟩
  · refine ⟨R, ?_, hw, by omega⟩
    by_cases h0 : len = 0
    · exact .inl h0
    · obtain ⟨b, off, spot⟩ := x
      have hspot : spot = none := by
        have h0 := hc 0 0 (by omega) (by omega)
        simpa [Addr.add] using World.cell?_spot h0
      subst hspot
      have hcell : ∀ i, i < len * 5 → w.cell? ⟨b, off + i, none⟩ = some (.int .i64 (R i)) := by
        intro i hi
        have := hc (i / 5) (i % 5) (by omega) (by omega)
        rw [show i / 5 * 5 + i % 5 = i from by omega, add_add, show i / 5 * 5 + i % 5 = i from by omega] at this
        rw [← this, add_plain]
      exact .inr ⟨b, off, rfl, World.block_lt_of_cell? w _ (hcell 0 (by omega)), hcell⟩
end Go.Proofs.YtbfoopfmjiilcaaDoor
