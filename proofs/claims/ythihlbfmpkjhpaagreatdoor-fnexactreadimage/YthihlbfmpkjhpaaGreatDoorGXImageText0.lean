/- A strings.Builder that is the first field of a struct of its own block (the writer): what is written, what it holds. An image's text, plain. Contracts of both SumOf: they come to the same sum. The program's writer: what its methods put. The program's text of an image. -/
import Derived.Test.YthihlbfmpkjhpaaGreatDoorRows
import Derived.WalkKit
import Derived.WalkSpells
import Derived.ProofKit
import Derived.Below
import Derived.Shelf.RegionOpenPlain
import Derived.Lib.Strings
import Derived.Lib.Slices
import Derived.Lib.Walk
import Derived.Lib.Builder
import Derived.Lib.AppendStr
import Derived.Lib.UnsafeStr
import Derived.Lib.MakeNoZero
import Derived.Laws.Externs
import Derived.Laws.IdiomCopy
import Derived.Laws.BitsLemmas
import Derived.Test.YthihlbfmpkjhpaaGreatDoorGXLintImage0
import Derived.Test.YthihlbfmpkjhpaaGreatDoorGXLintImage5
import Derived.Test.YthihlbfmpkjhpaaGreatDoorGXLintImage1
import Derived.Test.YthihlbfmpkjhpaaGreatDoorGXLintImage35
import Derived.Deep.RegionHeld3
import Derived.Test.YthihlbfmpkjhpaaGreatDoorGXLintImage38
namespace Go.Proofs.YthihlbfmpkjhpaaGreatDoor
open Go Go.RowKit
set_option linter.unusedVariables false

/-- Only block b and rows of bytes may have changed. -/
def KeepT (b : Nat) (w w' : World) : Prop := ∀ (k : Nat) (cs : Array Value) (t : TypeId) (fr : Nat × Nat), k ≠ b → t ≠ 5 → w.heap[k]? = some (.cells cs t fr) → w'.heap[k]? = some (.cells cs t fr)
theorem KeepT.refl (b : Nat) (w : World) : KeepT b w w := fun _ _ _ _ _ _ h => h
theorem KeepT.trans {b : Nat} {x y z : World} (h : KeepT b x y) (k : KeepT b y z) : KeepT b x z := fun i cs t fr h1 h2 h3 => k i cs t fr h1 h2 (h i cs t fr h1 h2 h3)
theorem KeepT.of_below {b : Nat} {w w' : World} (h : Below w.heap.size w w') : KeepT b w w' := fun k cs t fr _ _ h3 => (h.block k (Array.getElem?_eq_some_iff.1 h3).1).trans h3
theorem KeepT.setCell {b j : Nat} (w : World) (v : Value) : KeepT b w (w.setCell ⟨b, j, none⟩ v) := fun k cs t fr h1 _ h3 => (Below.heap_setCell w ⟨b, j, none⟩ v k h1).trans h3
theorem Lies.keep {w w' : World} {b g : Nat} {t : TypeId} {cs : Array Value} (h : Lies w g t cs) (hk : KeepT b w w') (hb : g ≠ b) (ht : t ≠ 5) : Lies w' g t cs := hk g cs t (0, 0) hb ht h

theorem rowBelowW {W W' : World} {B e size n : Nat} {v : Value} {xs : List Value} (h : W.ownsRow B e size v n xs) (hb : Below W.heap.size W W') : W'.ownsRow B e size v n xs := by
  refine ⟨h.1, ?_⟩
  rcases h.2 with hv | ⟨g, cap, cur, h1, h2, h3, h4⟩
  · exact .inl hv
  · exact .inr ⟨g, cap, cur, h1, h2, (hb.block g (Array.getElem?_eq_some_iff.1 h3).1).trans h3, h4⟩
theorem bldSize : (Tryz.prog.info? 61).map (·.size) = some 2 := by kernel_rfl
theorem bldLies : liesAt Tryz.prog Tryz.prog.depth 63 (2 / Tryz.prog.cellsOf 63) 0 61 1 = true := by kernel_rfl
theorem bldByte : (Tryz.prog.info? 5).map (fun i => (i.zero, i.size, i.bytes)) = some (some (.int .u8 0), 1, 1) := by kernel_rfl

set_option maxHeartbeats 1000000 in
set_option maxRecDepth 100000 in
theorem copyUsed (b : Nat) (w : World) (h0 : w.cell? ⟨b, 0, none⟩ = some (.pointer (some ⟨b, 0, none⟩))) :
    Calls Tryz.prog 66 #[.pointer (some ⟨b, 0, none⟩)] w fun e w' => e = .returned (.tuple #[]) ∧ w' = w := by
  obtain ⟨j, hj, _⟩ := Option.map_eq_some_iff.1 bldSize
  go_enter Tryz.func66, Tryz.ntmps66
  go_wp2
  rw [Lib.run_neq_ptr_same w _ Tryz.underlying58 hj]
  go_wp2
  go_end0
  exact ⟨rfl, rfl⟩

set_option maxHeartbeats 1000000 in
set_option maxRecDepth 100000 in
theorem copyFresh (b : Nat) (w : World) (h0 : w.cell? ⟨b, 0, none⟩ = some (.pointer none)) (hsh : w.shape? b = some (63, 2)) (hfz : w.frozen? ⟨b, 0, none⟩ = false) :
    Calls Tryz.prog 66 #[.pointer (some ⟨b, 0, none⟩)] w fun e w' => e = .returned (.tuple #[]) ∧ w' = w.setCell ⟨b, 0, none⟩ (.pointer (some ⟨b, 0, none⟩)) := by
  obtain ⟨j, hj, hjs⟩ := Option.map_eq_some_iff.1 bldSize
  go_enter Tryz.func66, Tryz.ntmps66
  go_wp2
  rw [Lib.run_to_unsafe w ⟨b, 0, none⟩ Tryz.underlying58 Tryz.underlying136 hj (by rw [hjs]; decide) hsh (Nat.zero_lt_succ 1)]
  simp only [Result.andThen]
  rw [Oper.upon_value]
  go_wp2
  rw [run_callFunc_extern Tryz.func97 (by kernel_rfl) (by kernel_rfl) (by kernel_rfl) (e := Extern.AbiNoEscape.same) (by kernel_rfl)]
  rw [Lib.run_noEscape]
  simp only [Result.andThen]
  rw [Oper.upon_value]
  go_wp2
  rw [Lib.run_from_unsafe w ⟨b, 0, none⟩ Tryz.underlying136 Tryz.underlying58 hj hsh bldLies]
  simp only [Result.andThen]
  rw [Oper.upon_value]
  go_wp2
  go_end0
  exact ⟨rfl, rfl⟩

theorem copyW (B b : Nat) (bs : List Value) (w : World) (h : Lib.IsBuilder 63 5 B b bs w) :
    Calls Tryz.prog 66 #[.pointer (some ⟨b, 0, none⟩)] w fun e w' => e = .returned (.tuple #[]) ∧ (Lib.BuilderAt 63 5 B b (.pointer (some ⟨b, 0, none⟩)) bs w' ∧ Below B w w' ∧ KeepT b w w') := by
  rcases h with h | h
  · refine (copyFresh b w h.cell0 h.shape h.frozen0).mono ?_
    rintro e w' ⟨rfl, rfl⟩
    exact ⟨rfl, h.used _, (Below.refl B w).setCell (p := ⟨b, 0, none⟩) h.1 _, KeepT.setCell w _⟩
  · refine (copyUsed b w h.cell0).mono ?_
    rintro e w' ⟨rfl, rfl⟩
    exact ⟨rfl, h, Below.refl B _, KeepT.refl b _⟩

set_option maxHeartbeats 2000000 in
set_option maxRecDepth 100000 in
theorem writeW (B b : Nat) (bs : List Value) (s : ByteArray) (w : World) (h : Lib.IsBuilder 63 5 B b bs w) (hlen : bs.length + s.size ≤ 140737488355328) (hBw : B ≤ w.heap.size) :
    Calls Tryz.prog 38 #[.pointer (some ⟨b, 0, none⟩), .string s] w fun e w' => e = .returned (.tuple #[.int .i64 s.size, .nilIface]) ∧ (Lib.BuilderAt 63 5 B b (.pointer (some ⟨b, 0, none⟩)) (bs ++ Lib.strCells s) w' ∧ Below B w w' ∧ KeepT b w w') := by
  obtain ⟨i0, hi, hz0, hz1, hz2⟩ := info_parts bldByte
  go_enter Tryz.func38, Tryz.ntmps38
  go_wp2_with (go_at_call 66; refine (copyW B b bs _ h).mono ?_)
  rintro e w1 ⟨rfl, h1, hb1, hk1⟩
  obtain ⟨hB, v, hbk, hown, hne⟩ := h1
  have c0 : w1.cell? ⟨b, 0, none⟩ = some (.pointer (some ⟨b, 0, none⟩)) := by rw [Lib.cell_of_heap hbk]; rfl
  have c1 : w1.cell? ⟨b, 1, none⟩ = some v := by rw [Lib.cell_of_heap hbk]; rfl
  go_wp2_with (at_builtin; refine Lib.wpList_append_own_string _ rfl _ _ 59 9 rfl B 5 i0 Tryz.underlying59 Tryz.underlying9 hi hz0 hz1 hz2 _ _ _ rfl hown s rfl ?c3 ?c4 ?c5 ?_)
  case c3 => unfold maxLen; omega
  case c4 => omega
  case c5 => have := hb1.size; omega
  intro v' w2 hown' hgrow _
  have hlt : b < w1.heap.size := by
    rcases Nat.lt_or_ge b w1.heap.size with h' | h'
    · exact h'
    · simp [Array.getElem?_eq_none h'] at hbk
  have hb2 : w2.heap[b]? = some (.cells #[.pointer (some ⟨b, 0, none⟩), v] 63 (0, 0)) := by
    rw [hgrow.block b hlt (fun e => hne e.symm)]
    exact hbk
  have hk2 : KeepT b w1 w2 := fun k cs t fr h1 h2 h3 => by
    rw [hgrow.block k (Array.getElem?_eq_some_iff.1 h3).1 (fun e => ?_)]
    · exact h3
    · rcases hown.2 with ⟨hv, _⟩ | ⟨g, cap, cur, hv, _, hg, _⟩
      · rw [hv] at e; simp [Value.ownBlock] at e
      · rw [hv] at e
        simp only [Value.ownBlock, Option.some.injEq] at e
        obtain rfl : g = k := by omega
        rw [h3] at hg
        simp only [Option.some.injEq, Obj.cells.injEq] at hg
        exact h2 hg.2.1
  have HK : Hid (KeepT b w w2) := hk1.trans hk2
  clear hk1 hk2
  have d0 : w2.cell? ⟨b, 0, none⟩ = some (.pointer (some ⟨b, 0, none⟩)) := by rw [Lib.cell_of_heap hb2]; rfl
  have d1 : w2.cell? ⟨b, 1, none⟩ = some v := by rw [Lib.cell_of_heap hb2]; rfl
  have f1 : w2.frozen? ⟨b, 1, none⟩ = false := Lib.frozen_of_heap hb2 1
  obtain ⟨ao, n', cap, rfl⟩ : ∃ ao n' cap, v' = .slice ao n' cap := by
    rcases hown'.2 with ⟨hv, _⟩ | ⟨g, cap, cur, hv, _⟩
    · exact ⟨_, _, _, hv⟩
    · exact ⟨_, _, _, hv⟩
  go_wp2
  go_ret2
  refine ⟨rfl, ?_, ?_, ?_⟩
  · exact Lib.BuilderAt.put (T := 63) (e := 5) hB hb2 (bs' := bs ++ Lib.strCells s) (by simpa [Lib.strCells_length] using hown') (by decide)
  · exact (hb1.grown hgrow (by have := hb1.size; omega) (fun k hk => (hown.lt k hk).1)).setCell (p := ⟨b, 1, none⟩) hB _
  · exact HK.out.trans (KeepT.setCell w2 _)

set_option maxHeartbeats 2000000 in
set_option maxRecDepth 100000 in
theorem stringW (B b : Nat) (l : List UInt8) (w : World) (h : Lib.IsBuilder 63 5 B b (Lib.byteCells l) w) (h0 : l ≠ []) :
    Calls Tryz.prog 70 #[.pointer (some ⟨b, 0, none⟩)] w fun e w' => e = .returned (.string ⟨l.toArray⟩) ∧ Below B w w' := by
  obtain ⟨p, hB, v, hbk, hown, hne⟩ : ∃ p, Lib.BuilderAt 63 5 B b p (Lib.byteCells l) w := by
    rcases h with h | h
    · exact ⟨_, h⟩
    · exact ⟨_, h⟩
  have hl0 : l.length ≠ 0 := by simpa using h0
  rw [Lib.byteCells_length] at hown
  obtain ⟨g, cap, cur, rfl, hbg, hg, hnc, hcm, hcs, htake⟩ : ∃ g cap cur, v = .slice (some ⟨g, 0, none⟩) l.length cap ∧ B ≤ g ∧ w.heap[g]? = some (.cells cur 5 (0, 0)) ∧ l.length ≤ cap ∧ cap ≤ maxLen ∧ cur.size = cap * 1 ∧ cur.toList.take (l.length * 1) = Lib.byteCells l := by
    rcases hown.2 with ⟨_, hz⟩ | ⟨g, cap, cur, hv, r⟩
    · exact absurd hz hl0
    · exact ⟨g, cap, cur, hv, r⟩
  have c1 : w.drew.cell? ⟨b, 1, none⟩ = some (.slice (some ⟨g, 0, none⟩) l.length cap) := by
    have : w.drew.heap[b]? = some (.cells #[p, .slice (some ⟨g, 0, none⟩) l.length cap] 63 (0, 0)) := hbk
    rw [Lib.cell_of_heap this]; rfl
  have hSD : (Builtin.unsafeSliceData_ #[59] 139 #[.slice (some ⟨g, 0, none⟩) l.length cap]).run Tryz.prog w.drew = .ok (.pointer (some ⟨g, 0, none⟩)) w.drew :=
    Lib.run_unsafeSliceData_row _ _ _ _ _ _ (by omega)
  have hUS : (Builtin.unsafeString_ #[139, 3] 9 #[.pointer (some ⟨g, 0, none⟩), .int .i64 l.length]).run Tryz.prog w.drew = .ok (.string ⟨l.toArray⟩) (w.drew.freeze ⟨g, 0, none⟩ l.length) := by
    refine Lib.run_unsafeString_row w.drew 139 3 9 5 Tryz.underlying139 (by kernel_rfl) g cur.size (by have hg' : w.drew.heap[g]? = some (.cells cur 5 (0, 0)) := hg; simp [World.shape?, hg']) l h0 (by omega) (by unfold maxLen at hcm; omega) ?_
    intro j x hx
    have := hown.cells (g := g) rfl j (.int .u8 x.toNat) (by simp [Lib.byteCells, hx])
    exact this
  have mixed : Tryz.prog.follows Departure.mixedOrders = true := by kernel_rfl
  go_enter Tryz.func70, Tryz.ntmps70
  go_wp2
  go_region_o
  all_goals (go_wp2; go_ret; exact ⟨rfl, Lib.below_freeze (Below.drew (Below.refl B w)) (p := ⟨g, 0, none⟩) hbg _⟩)
end Go.Proofs.YthihlbfmpkjhpaaGreatDoor

namespace Go.Proofs.YthihlbfmpkjhpaaGreatDoor
open Go Go.RowKit
set_option linter.unusedVariables false

/-- A number of n bytes, as a text. -/
def leT (v : Int) (n : Nat) : ByteArray := ⟨(leL (u64 v) n).toArray⟩
theorem leT_size (v : Int) (n : Nat) : (leT v n).size = n := by
  show (leL (u64 v) n).toArray.size = n
  rw [List.size_toArray, leL_len]
theorem leT_data (v : Int) (n : Nat) : (leT v n).data.toList = leL (u64 v) n := rfl
/-- A symbol's bytes. -/
def symL (d : SymD) : List UInt8 := leL (u64 d.nm.size) 1 ++ d.nm.data.toList ++ leL (u64 d.kd) 1 ++ leL (u64 d.pl) 2 ++ leL (u64 d.sz) 2 ++ leL (u64 d.fr) 1
theorem symL_len (d : SymD) : (symL d).length = d.nm.size + 7 := by
  unfold symL
  simp only [List.length_append, leL_len]
  rw [len_toList]
  omega
def symsL (S : Nat → SymD) : Nat → List UInt8
  | 0 => []
  | m + 1 => symsL S m ++ symL (S m)
theorem symsL_len {S : Nat → SymD} : ∀ {m : Nat}, (∀ i, i < m → (S i).nm.size ≤ 20) → (symsL S m).length ≤ 27 * m
  | 0, _ => Nat.le_refl _
  | m + 1, h => by
    have h1 := symsL_len (S := S) (m := m) (fun i hi => h i (by omega))
    have h2 := h m (by omega)
    show (symsL S m ++ symL (S m)).length ≤ _
    rw [List.length_append, symL_len]
    omega
/-- What stands ahead of the symbols. -/
def headL (c s : ByteArray) (n : Nat) : List UInt8 := [80, 73, 77, 49] ++ leL (u64 c.size) 2 ++ c.data.toList ++ leL (u64 s.size) 2 ++ s.data.toList ++ leL (u64 n) 1
theorem headL_len (c s : ByteArray) (n : Nat) : (headL c s n).length = c.size + s.size + 9 := by
  unfold headL
  simp only [List.length_append, leL_len]
  rw [len_toList, len_toList]
  simp only [List.length_cons, List.length_nil]
  omega
def bodyL (c s : ByteArray) (n : Nat) (S : Nat → SymD) : List UInt8 := headL c s n ++ symsL S n
def sealL (l : List UInt8) : List UInt8 := l ++ leL (u64 (sumL l)) 4
/-- An image that is not great. -/
structure Small (c s : ByteArray) (n : Nat) (S : Nat → SymD) : Prop where
  n16 : n ≤ 16
  c1 : c.size ≤ 1024
  s1 : s.size ≤ 256
  nm : ∀ i, i < n → (S i).nm.size ≤ 20
theorem Small.len {c s : ByteArray} {n : Nat} {S : Nat → SymD} (h : Small c s n S) {m : Nat} (hm : m ≤ n) : (headL c s n ++ symsL S m).length ≤ 2000 := by
  have h1 := symsL_len (S := S) (m := m) (fun i hi => h.nm i (by omega))
  have := h.n16
  have := h.c1
  have := h.s1
  rw [List.length_append, headL_len]
  omega
theorem bytes_eq {a b : ByteArray} (h : a.data.toList = b.data.toList) : a = b := by
  cases a with
  | mk x =>
    cases b with
    | mk y => simp at h; rw [show x = y from h]
theorem app_data (a b : ByteArray) : (a ++ b).data.toList = a.data.toList ++ b.data.toList := by
  rw [ByteArray.data_append, Array.toList_append]
end Go.Proofs.YthihlbfmpkjhpaaGreatDoor

namespace Go.Proofs.YthihlbfmpkjhpaaGreatDoor
open Go.RowKit

theorem ret_i64 {a b : Int} (h : a = b) : Ending.returned (.int .i64 a) = .returned (.int .i64 b) := by rw [h]

set_option maxHeartbeats 400000 in
theorem implSum_any (s : ByteArray) (w : World) (hs : s.size ≤ 65536) :
    Calls Tryz.prog 72 #[.string s] w fun e w' => e = .returned (.int .i64 (sumL s.data.toList)) ∧ w' = w := by
  go_enter Tryz.func72, Tryz.ntmps72
  go_wp2
  go_loop [3, 10] (fun n t => ∃ k : Nat, k ≤ s.size ∧ t = .int .i64 k ∧ n = .int .i64 (sumL (s.data.toList.take k))) (fun _ t => s.size - (intOf t).toNat)
  case atStart => exact ⟨0, Nat.zero_le _, rfl, rfl⟩
  case round =>
    obtain ⟨k, hk, rfl, rfl⟩ := hrel
    have hb := sumL_bd (s.data.toList.take k)
    by_cases hlt : k < s.size
    · have hsn := sumL_snoc (s.data.toList.take k) s[k]
      rw [← take_snoc s k hlt] at hsn
      have HS : Hid (sumL (s.data.toList.take (k + 1)) = (31 * sumL (s.data.toList.take k) + (s[k].toNat : Int)) % 65521) := hsn
      clear hsn
      have hc : (s[k].toNat : Int) < 256 := by have := s[k].toNat_lt; omega
      go_wp2
      go_round
      case rel => exact ⟨k + 1, by omega, by go_num, by rw [HS.out]⟩
      case measure => simp [intOf]; omega
    · go_wp2
      go_ret
      obtain rfl : k = s.size := by omega
      exact ⟨ret_i64 (by rw [take_all]), rfl⟩

set_option maxHeartbeats 400000 in
theorem specSum0_any (s : ByteArray) (w : World) (hs : s.size ≤ 65536) :
    Calls Tryz.prog 65 #[.string s] w fun e w' => e = .returned (.int .i64 (sumL s.data.toList)) ∧ w' = w := by
  go_enter Tryz.func65, Tryz.ntmps65
  go_wp2
  go_loop [3, 4] (fun n t => ∃ k : Nat, k ≤ s.size ∧ t = .int .i64 k ∧ n = .int .i64 (sumL (s.data.toList.take k))) (fun _ t => s.size - (intOf t).toNat)
  case atStart => exact ⟨0, Nat.zero_le _, rfl, rfl⟩
  case round =>
    obtain ⟨k, hk, rfl, rfl⟩ := hrel
    have hb := sumL_bd (s.data.toList.take k)
    by_cases hlt : k < s.size
    · have hsn := sumL_snoc (s.data.toList.take k) s[k]
      rw [← take_snoc s k hlt] at hsn
      have HS : Hid (sumL (s.data.toList.take (k + 1)) = (31 * sumL (s.data.toList.take k) + (s[k].toNat : Int)) % 65521) := hsn
      clear hsn
      have hc : (s[k].toNat : Int) < 256 := by have := s[k].toNat_lt; omega
      go_wp2
      go_round
      case rel => exact ⟨k + 1, by omega, by go_num, by rw [HS.out]⟩
      case measure => simp [intOf]; omega
    · go_wp2
      go_ret
      obtain rfl : k = s.size := by omega
      exact ⟨ret_i64 (by rw [take_all]), rfl⟩

/-- The sum as both SumOf tell it, of any text. -/
def sumT (s : ByteArray) : Int := if 65536 < s.size then 0 else sumL s.data.toList

theorem sumT_bd (s : ByteArray) : 0 ≤ sumT s ∧ sumT s < 65521 := by
  unfold sumT
  have := sumL_bd s.data.toList
  split <;> omega
theorem sumT_of (s : ByteArray) (h : s.size ≤ 65536) : sumT s = sumL s.data.toList := by
  unfold sumT; rw [if_neg (by omega)]
theorem sumT_empty : sumT { data := #[] } = 1 := by decide

theorem implSumT (s : ByteArray) (w : World) (hs : s.size ≤ maxLen) :
    Calls Tryz.prog 72 #[.string s] w fun e w' => e = .returned (.int .i64 (sumT s)) ∧ w' = w := by
  unfold maxLen at hs
  by_cases h : 65536 < s.size
  · go_enter Tryz.func72, Tryz.ntmps72
    go_wp2
    go_ret
    exact ⟨ret_i64 (by unfold sumT; rw [if_pos h]), rfl⟩
  · rw [show sumT s = sumL s.data.toList from by unfold sumT; rw [if_neg h]]
    exact implSum_any s w (by omega)

end Go.Proofs.YthihlbfmpkjhpaaGreatDoor

namespace Go.Proofs.YthihlbfmpkjhpaaGreatDoor
open Go Go.RowKit
set_option linter.unusedVariables false

/-- The writer at block b holds l; what it owns lies from B on. -/
def Wr (w : World) (B b : Nat) (l : List UInt8) : Prop := Lib.IsBuilder 63 5 B b (Lib.byteCells l) w
theorem Wr.lt {w : World} {B b : Nat} {l : List UInt8} (h : Wr w B b l) : b < w.heap.size := by
  rcases h with h | h
  · exact h.lt
  · exact h.lt
theorem Wr.below {w w' : World} {B b : Nat} {l : List UInt8} (h : Wr w B b l) (hb : Below w.heap.size w w') : Wr w' B b l := by
  have hlt := h.lt
  rcases h with ⟨h0, v, h1, h2, h3⟩ | ⟨h0, v, h1, h2, h3⟩
  · exact .inl ⟨h0, v, (hb.block b hlt).trans h1, rowBelowW h2 hb, h3⟩
  · exact .inr ⟨h0, v, (hb.block b hlt).trans h1, rowBelowW h2 hb, h3⟩
/-- What a method of the writer leaves. -/
def WrAns (v : Value) (B b : Nat) (l : List UInt8) (w : World) (e : Ending) (w' : World) : Prop := e = .returned v ∧ Wr w' B b l ∧ Below B w w' ∧ KeepT b w w'

theorem putText (B b : Nat) (l : List UInt8) (s : ByteArray) (w : World) (h : Wr w B b l) (hB : B ≤ w.heap.size) (hl : l.length ≤ 1000000) (hs : s.size ≤ 1000000) :
    Calls Tryz.prog 38 #[.pointer (some ⟨b, 0, none⟩), .string s] w fun e w' => WrAns (.tuple #[.int .i64 s.size, .nilIface]) B b (l ++ s.data.toList) w e w' := by
  refine (writeW B b (Lib.byteCells l) s w h (by rw [Lib.byteCells_length]; omega) hB).mono ?_
  rintro e w' ⟨h1, h2, h3, h4⟩
  rw [Lib.strCells_eq, ← Lib.byteCells_append] at h2
  exact ⟨h1, .inr h2, h3, h4⟩

set_option maxRecDepth 100000 in
set_option maxHeartbeats 2000000 in
theorem putNum (B b : Nat) (l : List UInt8) (v : Int) (n : Nat) (w : World) (h : Wr w B b l) (hB : B ≤ w.heap.size) (hl : l.length ≤ 1000000) (hn : n ≤ 8) :
    Calls Tryz.prog 68 #[.pointer (some ⟨b, 0, none⟩), .int .i64 v, .int .i64 n] w fun e w' => WrAns (.tuple #[]) B b (l ++ leL (u64 v) n) w e w' := by
  have hwu := wrap_u64 v
  have hult := u64_lt v
  have H : Hid (Wr w B b l) := h
  have bq := leT_size v n
  have bd := leT_data v n
  have sp : ∀ w' : World, Calls Tryz.prog 98 #[.int .u64 (u64 v), .int .i64 n] w' fun e w'' => e = .returned (.string (leT v n)) ∧ Below w'.heap.size w' w'' := fun w' => spread_u64 (u64 v) n w' hn hult
  obtain ⟨t, ht⟩ : ∃ t, leT v n = t := ⟨_, rfl⟩
  obtain ⟨u, hu⟩ : ∃ u, u64 v = u := ⟨_, rfl⟩
  obtain ⟨r, hr⟩ : ∃ r, leL u n = r := ⟨_, rfl⟩
  rw [ht] at bq bd sp
  rw [hu] at hwu bd sp ⊢
  rw [hr] at bd ⊢
  have BD : Hid (t.data.toList = r) := bd
  have hlt := h.lt
  clear h ht hu hr bd hult
  go_enter Tryz.func68, Tryz.ntmps68
  go_wp2_with fail
  go_region_held3 (fun w' => True) (trivial) (first | (go_at_call 98; refine (sp _).mono ?_; rintro e w1 ⟨rfl, hb1⟩; have b1 : Below w.heap.size w w1 := (by first | exact hb1 | exact (Below.refl w.heap.size w).drew.trans hb1)) | (go_at_call 38; refine (putText B b l t _ (H.out.below b1) (Nat.le_trans hB b1.size) hl (by omega)).mono ?_; rintro e w2 ⟨rfl, hw2, hb2, hk2⟩; have HW2 : Hid (Wr w2 B b (l ++ t.data.toList)) := hw2; have HB2 : Hid (Below B w w2) := (b1.mono hB).trans hb2; have HK2 : Hid (KeepT b w w2) := (KeepT.of_below b1).trans hk2; clear hw2 hb2 hk2))
  all_goals
    go_end0
    exact ⟨rfl, by rw [← BD.out]; exact HW2.out, HB2.out, HK2.out⟩

theorem putCounted (B b : Nat) (l : List UInt8) (t : ByteArray) (n : Nat) (w : World) (h : Wr w B b l) (hB : B ≤ w.heap.size) (hl : l.length ≤ 900000) (hn : n ≤ 8) (ht : t.size ≤ 1000000) :
    Calls Tryz.prog 67 #[.pointer (some ⟨b, 0, none⟩), .string t, .int .i64 n] w fun e w' => WrAns (.tuple #[]) B b (l ++ leL (u64 t.size) n ++ t.data.toList) w e w' := by
  have hz := leL_len (u64 t.size) n
  have H : Hid (Wr w B b l) := h
  clear h
  go_enter Tryz.func67, Tryz.ntmps67
  go_wp2_with fail
  refine (putNum B b l t.size n _ H.out hB (by omega) hn).mono ?_
  rintro e w1 ⟨rfl, hw1, hb1, hk1⟩
  have s1 := hb1.size
  have K1 : Hid (KeepT b w w1) := hk1
  have H1 : Hid (Wr w1 B b (l ++ leL (u64 t.size) n)) := hw1
  have B1 : Hid (Below B w w1) := hb1
  clear hw1 hb1 hk1
  go_wp2_with fail
  refine (putText B b _ t _ H1.out (by omega) (by rw [List.length_append, hz]; omega) ht).mono ?_
  rintro e w2 ⟨rfl, hw2, hb2, hk2⟩
  have K2 : Hid (KeepT b w w2) := K1.out.trans hk2
  have H2 : Hid (Wr w2 B b (l ++ leL (u64 t.size) n ++ t.data.toList)) := hw2
  have B2 : Hid (Below B w w2) := B1.out.trans hb2
  clear hw2 hb2 hk2
  go_wp2_with fail
  go_end0
  exact ⟨rfl, H2.out, B2.out, K2.out⟩

set_option maxHeartbeats 4000000 in
theorem putSym (B b : Nat) (l : List UInt8) (nm : ByteArray) (kd pl sz fr : Int) (w : World) (h : Wr w B b l) (hB : B ≤ w.heap.size) (hl : l.length ≤ 800000) (hn : nm.size ≤ 1000) :
    Calls Tryz.prog 69 #[.pointer (some ⟨b, 0, none⟩), .agg #[.string nm, .int .i64 kd, .int .i64 pl, .int .i64 sz, .int .i64 fr]] w fun e w' => WrAns (.tuple #[]) B b (l ++ symL ⟨nm, kd, pl, sz, fr⟩) w e w' := by
  have hlt := h.lt
  have bX := grown1' w (.cells #[.string nm, .int .i64 kd, .int .i64 pl, .int .i64 sz, .int .i64 fr] 76)
  have h1 := h.below bX
  have lie := Lies.new w #[.string nm, .int .i64 kd, .int .i64 pl, .int .i64 sz, .int .i64 fr] 76
  obtain ⟨w0, hW⟩ : ∃ W, (w.alloc (.cells #[.string nm, .int .i64 kd, .int .i64 pl, .int .i64 sz, .int .i64 fr] 76)) = W := ⟨_, rfl⟩
  obtain ⟨Y, hY⟩ : ∃ Y, w.heap.size = Y := ⟨_, rfl⟩
  rw [hW] at bX h1 lie
  have HB0 : Hid (Below B w w0) := bX.mono hB
  have HK0 : Hid (KeepT b w w0) := KeepT.of_below bX
  rw [hY] at lie
  have hne : Y ≠ b := by omega
  have n1 := leL_len (u64 nm.size) 1
  have n2 := leL_len (u64 kd) 1
  have n3 := leL_len (u64 pl) 2
  have n4 := leL_len (u64 sz) 2
  have n5 := leL_len (u64 fr) 1
  have n0 := len_toList nm
  have hs0 : B ≤ w0.heap.size := Nat.le_trans hB bX.size
  have H0 : Hid (Wr w0 B b l) := h1
  have L0 : Hid (Lies w0 Y 76 #[.string nm, .int .i64 kd, .int .i64 pl, .int .i64 sz, .int .i64 fr]) := lie
  have N : Hid ((leL (u64 nm.size) 1).length = 1 ∧ (leL (u64 kd) 1).length = 1 ∧ (leL (u64 pl) 2).length = 2 ∧ (leL (u64 sz) 2).length = 2 ∧ nm.data.toList.length = nm.size) := ⟨n1, n2, n3, n4, n0⟩
  have z0 := lie.cell (j := 0) rfl
  clear h h1 lie bX n0 n1 n2 n3 n4 n5 hlt
  go_enter Tryz.func69, Tryz.ntmps69
  go_wp2_with fail
  try rw [hW]
  clear hW hY z0
  refine (putCounted B b _ nm 1 _ H0.out hs0 (by omega) (by omega) (by omega)).mono ?_
  rintro e w1 ⟨rfl, hw, hb, hk⟩
  have hs1 : B ≤ w1.heap.size := Nat.le_trans hs0 hb.size
  have H1 : Hid (Wr w1 B b (l ++ leL (u64 nm.size) 1 ++ nm.data.toList)) := hw
  have HB1 : Hid (Below B w w1) := HB0.out.trans hb
  have HK1 : Hid (KeepT b w w1) := HK0.out.trans hk
  have lie := L0.out.keep hk hne (by decide)
  have L1 : Hid (Lies w1 Y 76 #[.string nm, .int .i64 kd, .int .i64 pl, .int .i64 sz, .int .i64 fr]) := lie
  have z1 := lie.cell (j := 1) rfl
  clear hw hb hk lie H0
  go_wp2_with fail
  refine (putNum B b _ kd 1 _ H1.out hs1 (by have := N.out; simp only [List.length_append]; omega) (by omega)).mono ?_
  rintro e w2 ⟨rfl, hw, hb, hk⟩
  have hs2 : B ≤ w2.heap.size := Nat.le_trans hs1 hb.size
  have H2 : Hid (Wr w2 B b (l ++ leL (u64 nm.size) 1 ++ nm.data.toList ++ leL (u64 kd) 1)) := hw
  have HB2 : Hid (Below B w w2) := HB1.out.trans hb
  have HK2 : Hid (KeepT b w w2) := HK1.out.trans hk
  have lie := L1.out.keep hk hne (by decide)
  have L2 : Hid (Lies w2 Y 76 #[.string nm, .int .i64 kd, .int .i64 pl, .int .i64 sz, .int .i64 fr]) := lie
  have z2 := lie.cell (j := 2) rfl
  clear hw hb hk lie H1
  go_wp2_with fail
  refine (putNum B b _ pl 2 _ H2.out hs2 (by have := N.out; simp only [List.length_append]; omega) (by omega)).mono ?_
  rintro e w3 ⟨rfl, hw, hb, hk⟩
  have hs3 : B ≤ w3.heap.size := Nat.le_trans hs2 hb.size
  have H3 : Hid (Wr w3 B b (l ++ leL (u64 nm.size) 1 ++ nm.data.toList ++ leL (u64 kd) 1 ++ leL (u64 pl) 2)) := hw
  have HB3 : Hid (Below B w w3) := HB2.out.trans hb
  have HK3 : Hid (KeepT b w w3) := HK2.out.trans hk
  have lie := L2.out.keep hk hne (by decide)
  have L3 : Hid (Lies w3 Y 76 #[.string nm, .int .i64 kd, .int .i64 pl, .int .i64 sz, .int .i64 fr]) := lie
  have z3 := lie.cell (j := 3) rfl
  clear hw hb hk lie H2
  go_wp2_with fail
  refine (putNum B b _ sz 2 _ H3.out hs3 (by have := N.out; simp only [List.length_append]; omega) (by omega)).mono ?_
  rintro e w4 ⟨rfl, hw, hb, hk⟩
  have hs4 : B ≤ w4.heap.size := Nat.le_trans hs3 hb.size
  have H4 : Hid (Wr w4 B b (l ++ leL (u64 nm.size) 1 ++ nm.data.toList ++ leL (u64 kd) 1 ++ leL (u64 pl) 2 ++ leL (u64 sz) 2)) := hw
  have HB4 : Hid (Below B w w4) := HB3.out.trans hb
  have HK4 : Hid (KeepT b w w4) := HK3.out.trans hk
  have lie := L3.out.keep hk hne (by decide)
  have L4 : Hid (Lies w4 Y 76 #[.string nm, .int .i64 kd, .int .i64 pl, .int .i64 sz, .int .i64 fr]) := lie
  have z4 := lie.cell (j := 4) rfl
  clear hw hb hk lie H3
  go_wp2_with fail
  refine (putNum B b _ fr 1 _ H4.out hs4 (by have := N.out; simp only [List.length_append]; omega) (by omega)).mono ?_
  rintro e w5 ⟨rfl, hw, hb, hk⟩
  have hs5 : B ≤ w5.heap.size := Nat.le_trans hs4 hb.size
  have H5 : Hid (Wr w5 B b (l ++ leL (u64 nm.size) 1 ++ nm.data.toList ++ leL (u64 kd) 1 ++ leL (u64 pl) 2 ++ leL (u64 sz) 2 ++ leL (u64 fr) 1)) := hw
  have HB5 : Hid (Below B w w5) := HB4.out.trans hb
  have HK5 : Hid (KeepT b w w5) := HK4.out.trans hk
  clear hw hb hk H4
  go_wp2_with fail
  go_end0
  have e5 : l ++ leL (u64 nm.size) 1 ++ nm.data.toList ++ leL (u64 kd) 1 ++ leL (u64 pl) 2 ++ leL (u64 sz) 2 ++ leL (u64 fr) 1 = l ++ symL ⟨nm, kd, pl, sz, fr⟩ := by unfold symL; simp only [List.append_assoc]
  exact ⟨rfl, by rw [← e5]; exact H5.out, HB5.out, HK5.out⟩
end Go.Proofs.YthihlbfmpkjhpaaGreatDoor

namespace Go.Proofs.YthihlbfmpkjhpaaGreatDoor
open Go Go.RowKit
set_option linter.unusedVariables false

set_option maxHeartbeats 4000000 in
theorem putImg (B b : Nat) (c s : ByteArray) (p : Option Addr) (n kk : Nat) (S : Nat → SymD) (w : World) (h : Wr w B b [80, 73, 77, 49]) (hB : B ≤ w.heap.size) (sm : Small c s n S) (hp : SymsLow w B p n S) :
    Calls Tryz.prog 39 #[.pointer (some ⟨b, 0, none⟩), .agg #[.string c, .string s, .slice p n kk]] w fun e w' => WrAns (.tuple #[]) B b (bodyL c s n S) w e w' := by
  have hlt := h.lt
  have bX := grown1' w (.cells #[.string c, .string s, .slice p n kk] 30)
  have h1 := h.below bX
  have lie := Lies.new w #[.string c, .string s, .slice p n kk] 30
  obtain ⟨w0, hW⟩ : ∃ W, (w.alloc (.cells #[.string c, .string s, .slice p n kk] 30)) = W := ⟨_, rfl⟩
  obtain ⟨Y, hY⟩ : ∃ Y, w.heap.size = Y := ⟨_, rfl⟩
  rw [hW] at bX h1 lie
  have HB0 : Hid (Below B w w0) := bX.mono hB
  have HK0 : Hid (KeepT b w w0) := KeepT.of_below bX
  rw [hY] at lie
  have hne : Y ≠ b := by omega
  have q1 := sm.n16
  have q2 := sm.c1
  have q3 := sm.s1
  have n0 := len_toList c
  have n1 := len_toList s
  have l1 := leL_len (u64 c.size) 2
  have l2 := leL_len (u64 s.size) 2
  have N : Hid ((leL (u64 c.size) 2).length = 2 ∧ (leL (u64 s.size) 2).length = 2 ∧ c.data.toList.length = c.size ∧ s.data.toList.length = s.size) := ⟨l1, l2, n0, n1⟩
  have hs0 : B ≤ w0.heap.size := Nat.le_trans hB bX.size
  have H0 : Hid (Wr w0 B b [80, 73, 77, 49]) := h1
  have L0 : Hid (Lies w0 Y 30 #[.string c, .string s, .slice p n kk]) := lie
  have z0 := lie.cell (j := 0) rfl
  have SM : Hid (Small c s n S) := sm
  have HP : Hid (SymsLow w B p n S) := hp
  clear h h1 lie bX hlt n0 n1 l1 l2 sm hp
  go_enter Tryz.func39, Tryz.ntmps39
  go_wp2_with fail
  try rw [hW]
  clear hW hY z0
  refine (putCounted B b _ c 2 _ H0.out hs0 (by simp) (by omega) (by omega)).mono ?_
  rintro e w1 ⟨rfl, hw, hb, hk⟩
  have hs1 : B ≤ w1.heap.size := Nat.le_trans hs0 hb.size
  have H1 : Hid (Wr w1 B b ([80, 73, 77, 49] ++ leL (u64 c.size) 2 ++ c.data.toList)) := hw
  have HB1 : Hid (Below B w w1) := HB0.out.trans hb
  have HK1 : Hid (KeepT b w w1) := HK0.out.trans hk
  have lie := L0.out.keep hk hne (by decide)
  have L1 : Hid (Lies w1 Y 30 #[.string c, .string s, .slice p n kk]) := lie
  have z1 := lie.cell (j := 1) rfl
  clear hw hb hk lie H0
  go_wp2_with fail
  refine (putCounted B b _ s 2 _ H1.out hs1 (by have := N.out; simp only [List.length_append, List.length_cons, List.length_nil]; omega) (by omega) (by omega)).mono ?_
  rintro e w2 ⟨rfl, hw, hb, hk⟩
  have hs2 : B ≤ w2.heap.size := Nat.le_trans hs1 hb.size
  have H2 : Hid (Wr w2 B b ([80, 73, 77, 49] ++ leL (u64 c.size) 2 ++ c.data.toList ++ leL (u64 s.size) 2 ++ s.data.toList)) := hw
  have HB2 : Hid (Below B w w2) := HB1.out.trans hb
  have HK2 : Hid (KeepT b w w2) := HK1.out.trans hk
  have lie := L1.out.keep hk hne (by decide)
  have L2 : Hid (Lies w2 Y 30 #[.string c, .string s, .slice p n kk]) := lie
  have z2 := lie.cell (j := 2) rfl
  clear hw hb hk lie H1 z1
  go_wp2_with fail
  refine (putNum B b _ n 1 _ H2.out hs2 (by have := N.out; simp only [List.length_append, List.length_cons, List.length_nil]; omega) (by omega)).mono ?_
  rintro e w3 ⟨rfl, hw, hb, hk⟩
  have hs3 : B ≤ w3.heap.size := Nat.le_trans hs2 hb.size
  have H3 : Hid (Wr w3 B b (headL c s n)) := hw
  have HB3 : Hid (Below B w w3) := HB2.out.trans hb
  have HK3 : Hid (KeepT b w w3) := HK2.out.trans hk
  have lie := L2.out.keep hk hne (by decide)
  have z3 := lie.cell (j := 2) rfl
  clear hw hb hk lie H2 z2
  go_wp2_with fail
  go_loopw [22] (fun i wr => ∃ m : Nat, m ≤ n ∧ i = .int .i64 m ∧ Hid (Wr wr B b (headL c s n ++ symsL S m)) ∧ Hid (Below B w wr) ∧ Hid (KeepT b w wr)) (fun i _ => n - (intOf i).toNat)
  case atStart => exact ⟨0, Nat.zero_le _, rfl, by rw [show symsL S 0 = [] from rfl, List.append_nil]; exact H3, HB3, HK3⟩
  case round =>
    obtain ⟨m, hm, rfl, HW, HB, HK⟩ := hrel
    clear z3
    have hsr : B ≤ wr.heap.size := Nat.le_trans hB HB.out.size
    by_cases hlt : m < n
    · have hp := HP.out.below HB.out
      rcases hp with hp | ⟨bb, o, rfl, hbb, hp⟩
      · omega
      obtain ⟨x0, x1, x2, x3, x4⟩ := hp.sym hlt
      have hnm := SM.out.nm m hlt
      have hll := SM.out.len hm
      have eS : symsL S (m + 1) = symsL S m ++ symL ⟨(S m).nm, (S m).kd, (S m).pl, (S m).sz, (S m).fr⟩ := rfl
      obtain ⟨nm, e0⟩ : ∃ y, (S m).nm = y := ⟨_, rfl⟩
      obtain ⟨kd, e1⟩ : ∃ y, (S m).kd = y := ⟨_, rfl⟩
      obtain ⟨pl, e2⟩ : ∃ y, (S m).pl = y := ⟨_, rfl⟩
      obtain ⟨sz, e3⟩ : ∃ y, (S m).sz = y := ⟨_, rfl⟩
      obtain ⟨fr, e4⟩ : ∃ y, (S m).fr = y := ⟨_, rfl⟩
      rw [e0] at x0 eS hnm
      rw [e1] at x1 eS
      rw [e2] at x2 eS
      rw [e3] at x3 eS
      rw [e4] at x4 eS
      have ES : Hid (symsL S (m + 1) = symsL S m ++ symL ⟨nm, kd, pl, sz, fr⟩) := eS
      have bY := grown1' wr (.cells #[.string nm, .int .i64 kd, .int .i64 pl, .int .i64 sz, .int .i64 fr] 76)
      have HWY : Hid (Wr (wr.alloc (.cells #[.string nm, .int .i64 kd, .int .i64 pl, .int .i64 sz, .int .i64 fr] 76)) B b (headL c s n ++ symsL S m)) := HW.out.below bY
      have HBY : Hid (Below B w (wr.alloc (.cells #[.string nm, .int .i64 kd, .int .i64 pl, .int .i64 sz, .int .i64 fr] 76))) := HB.out.trans (bY.mono hsr)
      have HKY : Hid (KeepT b w (wr.alloc (.cells #[.string nm, .int .i64 kd, .int .i64 pl, .int .i64 sz, .int .i64 fr] 76))) := HK.out.trans (KeepT.of_below bY)
      have hsY : B ≤ (wr.alloc (.cells #[.string nm, .int .i64 kd, .int .i64 pl, .int .i64 sz, .int .i64 fr] 76)).heap.size := Nat.le_trans hsr bY.size
      clear e0 e1 e2 e3 e4 eS hp bY
      go_wp2_with fail
      refine (putSym B b _ nm kd pl sz fr _ HWY.out hsY (by omega) (by omega)).mono ?_
      rintro e w5 ⟨rfl, hw, hb, hk⟩
      have H5 : Hid (Wr w5 B b (headL c s n ++ symsL S (m + 1))) := by rw [ES.out, ← List.append_assoc]; exact hw
      have HB5 : Hid (Below B w w5) := HBY.out.trans hb
      have HK5 : Hid (KeepT b w w5) := HKY.out.trans hk
      clear hw hb hk x0 x1 x2 x3 x4
      go_wp2_with fail
      go_roundw
      case rel => exact ⟨m + 1, by omega, by go_num, H5, HB5, HK5⟩
      case measure => simp [intOf]; omega
    · obtain rfl : m = n := by omega
      go_wp2_with fail
      go_end0
      exact ⟨rfl, HW.out, HB.out, HK.out⟩

theorem sumNat (l : List UInt8) : ∃ x : Nat, sumL l = (x : Int) ∧ x < 65521 := by
  obtain ⟨h0, h1⟩ := sumL_bd l
  exact ⟨(sumL l).toNat, by omega, by omega⟩
set_option maxHeartbeats 2000000 in
theorem sealedC (B b : Nat) (l : List UInt8) (w : World) (h : Wr w B b l) (hB : B ≤ w.heap.size) (h0 : l ≠ []) (hl : l.length ≤ 2000) :
    Calls Tryz.prog 40 #[.pointer (some ⟨b, 0, none⟩)] w fun e w' => e = .returned (.string ⟨(sealL l).toArray⟩) ∧ Below B w w' := by
  obtain ⟨x, hx, hx1⟩ := sumNat l
  have hux : u64 (x : Int) = x := by unfold u64; omega
  have e9 : sealL l = l ++ leL x 4 := by unfold sealL; rw [hx, hux]
  have H : Hid (Wr w B b l) := h
  have sm := fun w' => implSum_any ⟨l.toArray⟩ w' (show l.toArray.size ≤ 65536 by rw [List.size_toArray]; omega)
  have sp := fun w' => spread_u32 x 4 w' (by omega) (by omega)
  obtain ⟨T, hT⟩ : ∃ T : ByteArray, (⟨l.toArray⟩ : ByteArray) = T := ⟨_, rfl⟩
  obtain ⟨Z, hZ⟩ : ∃ Z : ByteArray, (⟨(leL x 4).toArray⟩ : ByteArray) = Z := ⟨_, rfl⟩
  have hTs : T.size ≤ 2000 := by rw [← hT]; show l.toArray.size ≤ 2000; rw [List.size_toArray]; omega
  have hZs : Z.size ≤ 4 := by rw [← hZ]; show (leL x 4).toArray.size ≤ 4; rw [List.size_toArray, leL_len]; omega
  have eTl : T.data.toList = l := by rw [← hT]
  have e8 : T ++ Z = ⟨(sealL l).toArray⟩ := bytes_eq (by rw [app_data, ← hT, ← hZ, e9])
  have E8 : Hid (T ++ Z = ⟨(sealL l).toArray⟩) := e8
  have st := stringW B b l w h h0
  rw [hT] at sm st
  rw [hZ] at sp
  rw [eTl, hx] at sm
  have hxu : IntKind.u32.wrap (x : Int) = (x : Int) := by show (x : Int) % 4294967296 = _; omega
  clear h hx hux e9 hT hZ e8 eTl h0 hl
  go_enter Tryz.func40, Tryz.ntmps40
  go_wp2_with fail
  refine st.mono ?_
  rintro e w1 ⟨rfl, hb1⟩
  have B1 : Hid (Below B w w1) := hb1
  have s1 := hb1.size
  clear hb1 st
  go_wp2_with fail
  refine (sm _).mono ?_
  rintro e w2 ⟨rfl, rfl⟩
  go_wp2_with fail
  refine (sp _).mono ?_
  rintro e w3 ⟨rfl, hb3⟩
  have B3 : Hid (Below B w w3) := B1.out.trans (hb3.mono (by omega))
  clear hb3 sm sp
  go_wp2_with fail
  go_ret
  exact ⟨by show Ending.returned (.string (T ++ Z)) = _; rw [E8.out], B3.out⟩
end Go.Proofs.YthihlbfmpkjhpaaGreatDoor
