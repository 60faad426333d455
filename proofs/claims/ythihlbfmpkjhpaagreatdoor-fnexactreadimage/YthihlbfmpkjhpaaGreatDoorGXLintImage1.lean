/- Lists of instructions in memory: what they hold; held against each other, marked, held against their marks. Symbols and images of the laws: copied, measured, held against each other. Contracts of the functions that tell a name's letters and digits, over the translation of this seat. Contracts of both NameOK: they tell the same of each text. The model's look at an image's symbols. -/
import Derived.Test.YthihlbfmpkjhpaaGreatDoorRows
import Derived.WalkKit
import Derived.WalkSpells
import Derived.ProofKit
import Derived.Below
import Derived.LoopTactic
import Derived.Deep.RegionHeld3
import Derived.Deep.RegionWith
import Derived.Test.YthihlbfmpkjhpaaGreatDoorGXLintImage0
import Derived.ChangeArms
import Derived.Deep.Slices
import Derived.WalkLawsBesides
import Derived.Outline
namespace Go.Proofs.YthihlbfmpkjhpaaGreatDoor
open Go Go.RowKit
set_option linter.unusedVariables false

/-- A row of m ints from cell o of block b on: R i at o + i. -/
def Flat (w : World) (b o m : Nat) (R : Nat → Int) : Prop := ∀ i, i < m → w.cell? ⟨b, o + i, none⟩ = some (.int .i64 (R i)) ∧ w.frozen? ⟨b, o + i, none⟩ = false
theorem Flat.below {w w' : World} {b o m B : Nat} {R : Nat → Int} (h : Flat w b o m R) (hb : Below B w w') (hlt : b < B) : Flat w' b o m R :=
  fun i hi => ⟨(hb.cell (p := ⟨b, o + i, none⟩) hlt).trans (h i hi).1, (hb.frozen (p := ⟨b, o + i, none⟩) hlt).trans (h i hi).2⟩
theorem Flat.drew {w : World} {b o m : Nat} {R : Nat → Int} (h : Flat w b o m R) : Flat w.drew b o m R := h
theorem Flat.alloc {w : World} {b o m : Nat} {R : Nat → Int} (h : Flat w b o m R) (hb : b < w.heap.size) (x : Obj) : Flat (w.alloc x) b o m R := h.below ((Below.refl w.heap.size w).alloc (Nat.le_refl _) x) hb
theorem Flat.congr {w : World} {b o m : Nat} {R S : Nat → Int} (h : Flat w b o m R) (e : ∀ i, i < m → R i = S i) : Flat w b o m S := fun i hi => by rw [← e i hi]; exact h i hi
theorem Flat.take {w : World} {b o m n : Nat} {R : Nat → Int} (h : Flat w b o m R) (hn : n ≤ m) : Flat w b o n R := fun i hi => h i (by omega)
/-- Cell j of the k-th five. -/
theorem Flat.at5 {w : World} {b o n : Nat} {R : Nat → Int} (h : Flat w b o (n * 5) R) {k : Nat} (hk : k < n) (j : Nat) (hj : j < 5) : w.cell? ⟨b, o + k * 5 + j, none⟩ = some (.int .i64 (R (k * 5 + j))) := by
  have := (h (k * 5 + j) (by omega)).1
  rwa [← Nat.add_assoc] at this
theorem Flat.fr5 {w : World} {b o n : Nat} {R : Nat → Int} (h : Flat w b o (n * 5) R) {k : Nat} (hk : k < n) (j : Nat) (hj : j < 5) : w.frozen? ⟨b, o + k * 5 + j, none⟩ = false := by
  have := (h (k * 5 + j) (by omega)).2
  rwa [← Nat.add_assoc] at this

/-- A store into one cell of it. -/
theorem Flat.set {w : World} {b o m : Nat} {R : Nat → Int} (h : Flat w b o m R) (t : Nat) (ht : t < m) {a : Nat} (ha : a = o + t) (x : Int) : Flat (w.setCell ⟨b, a, none⟩ (.int .i64 x)) b o m (fun i => if i = t then x else R i) := by
  subst ha
  intro i hi
  refine ⟨?_, by rw [World.frozen?_setCell]; exact (h i hi).2⟩
  show _ = some (Value.int .i64 (if i = t then x else R i))
  by_cases e : i = t
  · subst e
    rw [if_pos rfl]
    exact World.cell?_setCell_same' _ _ _ (by rw [(h i hi).1]; rfl)
  · rw [if_neg e, World.cell?_setCell_other _ _ _ _ (by intro c; have := congrArg Addr.off c; simp at this; omega)]
    exact (h i hi).1

/-- A row of m ints that is read alone. -/
def Rdb (w : World) (b o m : Nat) (R : Nat → Int) : Prop := ∀ i, i < m → w.cell? ⟨b, o + i, none⟩ = some (.int .i64 (R i))
theorem Flat.rd {w : World} {b o m : Nat} {R : Nat → Int} (h : Flat w b o m R) : Rdb w b o m R := fun i hi => (h i hi).1
theorem Rdb.below {w w' : World} {b o m B : Nat} {R : Nat → Int} (h : Rdb w b o m R) (hb : Below B w w') (hlt : b < B) : Rdb w' b o m R := fun i hi => (hb.cell (p := ⟨b, o + i, none⟩) hlt).trans (h i hi)
theorem Rdb.drew {w : World} {b o m : Nat} {R : Nat → Int} (h : Rdb w b o m R) : Rdb w.drew b o m R := h
theorem Rdb.at5 {w : World} {b o n : Nat} {R : Nat → Int} (h : Rdb w b o (n * 5) R) {k : Nat} (hk : k < n) (j : Nat) (hj : j < 5) : w.cell? ⟨b, o + k * 5 + j, none⟩ = some (.int .i64 (R (k * 5 + j))) := by
  have := h (k * 5 + j) (by omega)
  rwa [← Nat.add_assoc] at this
theorem Rdb.five {w : World} {b o n : Nat} {R : Nat → Int} (h : Rdb w b o (n * 5) R) {k : Nat} (hk : k < n) :
    w.cell? ⟨b, o + k * 5, none⟩ = some (.int .i64 (R (k * 5))) ∧ w.cell? ⟨b, o + k * 5 + 1, none⟩ = some (.int .i64 (R (k * 5 + 1))) ∧ w.cell? ⟨b, o + k * 5 + 2, none⟩ = some (.int .i64 (R (k * 5 + 2))) ∧
      w.cell? ⟨b, o + k * 5 + 3, none⟩ = some (.int .i64 (R (k * 5 + 3))) ∧ w.cell? ⟨b, o + k * 5 + 4, none⟩ = some (.int .i64 (R (k * 5 + 4))) :=
  ⟨h.at5 hk 0 (by omega), h.at5 hk 1 (by omega), h.at5 hk 2 (by omega), h.at5 hk 3 (by omega), h.at5 hk 4 (by omega)⟩

/-- A list of n instructions: where it is not empty its cells lie in a block. -/
def ListAt (w : World) (p : Option Addr) (n : Nat) (R : Nat → Int) : Prop := n = 0 ∨ ∃ b o, p = some ⟨b, o, none⟩ ∧ b < w.heap.size ∧ Rdb w b o (n * 5) R
theorem ListAt.below {w w' : World} {p : Option Addr} {n : Nat} {R : Nat → Int} (h : ListAt w p n R) (hb : Below w.heap.size w w') : ListAt w' p n R := by
  rcases h with h | ⟨b, o, e, hlt, hf⟩
  · exact .inl h
  · exact .inr ⟨b, o, e, Nat.lt_of_lt_of_le hlt hb.size, hf.below hb hlt⟩

end Go.Proofs.YthihlbfmpkjhpaaGreatDoor

namespace Go.Proofs.YthihlbfmpkjhpaaGreatDoor
open Go Go.RowKit
set_option linter.unusedVariables false
theorem Tryz.info_sym : (Tryz.prog.info? 76).map (fun i => (i.zero, i.size, i.bytes)) = some (some (.agg #[.string ByteArray.empty, .int .i64 0, .int .i64 0, .int .i64 0, .int .i64 0]), 5, 48) := by kernel_rfl

theorem grown1' (w : World) (o : Obj) : Below w.heap.size w (w.alloc o) := (Below.refl _ _).alloc (Nat.le_refl _) _
theorem toSymC (s : ByteArray) (a b c d : Int) (w : World) :
    Calls Tryz.prog 58 #[.agg #[.string s, .int .i64 a, .int .i64 b, .int .i64 c, .int .i64 d]] w fun e w' => e = .returned (.agg #[.string s, .int .i64 a, .int .i64 b, .int .i64 c, .int .i64 d]) ∧ Below w.heap.size w w' := by
  go_enter Tryz.func58, Tryz.ntmps58
  go_wp2
  refine bodyPost_ret (v := .agg #[.string s, .int .i64 a, .int .i64 b, .int .i64 c, .int .i64 d]) (by simp [results, Tryz.results58, go_sem]) rfl ⟨rfl, ?_⟩
  exact (((Below.refl _ _).alloc (Nat.le_refl _) _).alloc (by simp) _).alloc (by simp; omega) _

/-- Five cells put into a row of them. -/
theorem put5v {cur : Array Value} {V : Nat → Value} {n k : Nat} (hs : cur.size = n * 5) (hk : k < n) (hc : ∀ i, i < k * 5 → cur[i]? = some (V i)) :
    (cur.toList.take (k * 5) ++ [V (k * 5), V (k * 5 + 1), V (k * 5 + 2), V (k * 5 + 3), V (k * 5 + 4)] ++ cur.toList.drop (k * 5 + 5)).toArray.size = n * 5 ∧
    ∀ i, i < (k + 1) * 5 → (cur.toList.take (k * 5) ++ [V (k * 5), V (k * 5 + 1), V (k * 5 + 2), V (k * 5 + 3), V (k * 5 + 4)] ++ cur.toList.drop (k * 5 + 5)).toArray[i]? = some (V i) := by
  have hl : cur.toList.length = n * 5 := by simpa using hs
  refine ⟨by simp; omega, fun i hi => ?_⟩
  rw [List.getElem?_toArray, List.append_assoc]
  by_cases h : i < k * 5
  · rw [List.getElem?_append_left (by rw [List.length_take]; omega), List.getElem?_take, if_pos h]
    have := hc i h
    rw [Array.getElem?_toList]
    exact this
  · rw [List.getElem?_append_right (by rw [List.length_take]; omega), List.length_take, Nat.min_eq_left (by omega)]
    have : i = k * 5 ∨ i = k * 5 + 1 ∨ i = k * 5 + 2 ∨ i = k * 5 + 3 ∨ i = k * 5 + 4 := by omega
    rcases this with rfl | rfl | rfl | rfl | rfl
    · rw [Nat.sub_self]; rfl
    · rw [Nat.add_sub_cancel_left]; rfl
    · rw [Nat.add_sub_cancel_left]; rfl
    · rw [Nat.add_sub_cancel_left]; rfl
    · rw [Nat.add_sub_cancel_left]; rfl

/-- A row of m cells that may be written. -/
def FRow (w : World) (b o m : Nat) (V : Nat → Value) : Prop := VRow w b o m V ∧ ∀ i, i < m → w.frozen? ⟨b, o + i, none⟩ = false
theorem FRow.below {w w' : World} {b o m B : Nat} {V : Nat → Value} (h : FRow w b o m V) (hb : Below B w w') (hlt : b < B) : FRow w' b o m V := ⟨h.1.below hb hlt, fun i hi => (hb.frozen (p := ⟨b, o + i, none⟩) hlt).trans (h.2 i hi)⟩

theorem FRow.other {w : World} {g m X : Nat} {V : Nat → Value} (h : FRow w g 0 m V) (hX : g ≠ X) (o : Nat) (v : Value) : FRow (w.setCell ⟨X, o, none⟩ v) g 0 m V :=
  ⟨fun i hi => by rw [World.cell?_setCell_other _ _ _ _ (fun c => hX (by have := congrArg Addr.block c; simp at this; exact this.symm))]; exact h.1 i hi, fun i hi => by rw [World.frozen?_setCell]; exact h.2 i hi⟩
theorem FRow.syms {w : World} {g n : Nat} {S : Nat → SymD} (h : FRow w g 0 (n * 5) (symV S)) (hg : g < w.heap.size) : SymsAt w (some ⟨g, 0, none⟩) n S := .inr ⟨g, 0, rfl, hg, h.1⟩

set_option maxRecDepth 100000 in
set_option maxHeartbeats 2000000 in
theorem toSyms (p : Option Addr) (n c : Nat) (S : Nat → SymD) (w : World) (hn : n ≤ 1048576) (hp : SymsAt w p n S) :
    Calls Tryz.prog 31 #[.slice p n c] w fun e w' => ∃ g, e = .returned (.slice (some ⟨g, 0, none⟩) n n) ∧ Below w.heap.size w w' ∧ w.heap.size ≤ g ∧ g < w'.heap.size ∧ FRow w' g 0 (n * 5) (symV S) := by
  obtain ⟨i0, hi, hz0, hz1, hz2⟩ := info_parts Tryz.info_sym
  go_enter Tryz.func31, Tryz.ntmps31
  go_wp2_with (at_make; refine wpList_make_full _ rfl _ _ 28 rfl w.heap.size 76 i0 _ 5 Tryz.underlying28 hi hz0 hz1 .i64 .i64 _ _ n rfl rfl (by omega) (by omega) (by rw [hz2]; omega) (by unfold maxLen; omega) (Nat.le_refl _) ?_; intro wm hm hgm)
  go_loopw [4] (fun i wr => ∃ k : Nat, k ≤ n ∧ i = .int .i64 k ∧ Below w.heap.size w wr ∧ ∃ cur, Lies wr w.heap.size 76 cur ∧ cur.size = n * 5 ∧ ∀ i, i < k * 5 → cur[i]? = some (symV S i)) (fun i _ => n - (intOf i).toNat)
  case atStart =>
    rcases hm.2 with ⟨hv, _⟩ | ⟨g, cap, cur, hv, _, hg, _, _, hcs, _⟩
    · cases hv
    · obtain ⟨rfl, rfl⟩ : w.heap.size = g ∧ n = cap := by simpa using hv
      exact ⟨0, Nat.zero_le _, rfl, (Below.refl _ _).grown hgm (Nat.le_refl _) (fun _ h => by cases h), cur, hg, hcs, fun i hi => absurd hi (by omega)⟩
  case round =>
    obtain ⟨k, hk, rfl, hB, cur, hl, hs, hc⟩ := hrel
    by_cases hlt : k < n
    · rcases hp with hp | ⟨b, o, rfl, hb, hp⟩
      · omega
      obtain ⟨x0, x1, x2, x3, x4⟩ := (hp.below hB hb).sym hlt
      have hput := put5v (V := symV S) hs hlt hc
      rw [symV0, symV1, symV2, symV3, symV4] at hput
      obtain ⟨s, e0⟩ : ∃ s, (S k).nm = s := ⟨_, rfl⟩
      obtain ⟨a, e1⟩ : ∃ s, (S k).kd = s := ⟨_, rfl⟩
      obtain ⟨b2, e2⟩ : ∃ s, (S k).pl = s := ⟨_, rfl⟩
      obtain ⟨c3, e3⟩ : ∃ s, (S k).sz = s := ⟨_, rfl⟩
      obtain ⟨d, e4⟩ : ∃ s, (S k).fr = s := ⟨_, rfl⟩
      rw [e0] at x0
      rw [e1] at x1
      rw [e2] at x2
      rw [e3] at x3
      rw [e4] at x4
      rw [e0, e1, e2, e3, e4] at hput
      obtain ⟨new, hnew⟩ : ∃ new, (cur.toList.take (k * 5) ++ [Value.string s, .int .i64 a, .int .i64 b2, .int .i64 c3, .int .i64 d] ++ cur.toList.drop (k * 5 + 5)).toArray = new := ⟨_, rfl⟩
      rw [hnew] at hput
      have HN : Hid (_ = new) := hnew
      clear hnew hp e0 e1 e2 e3 e4
      go_wp2_with fail
      refine (toSymC _ _ _ _ _ _).mono ?_
      rintro e w1 ⟨rfl, hb1⟩
      have l1 := hl.below hb1 hl.lt
      have B1 := hB.trans (hb1.mono hB.size)
      have s1 := hB.size
      clear hb1 hl x0 x1 x2 x3 x4 hB
      have hi' : (Tryz.prog.info? 76).map (·.size) = some (#[Value.string s, .int .i64 a, .int .i64 b2, .int .i64 c3, .int .i64 d] : Array Value).size := by rw [hi]; simp [hz1]
      go_wp2_with (refine wpList_store_part rfl 76 (.tmp 21) (.tmp 20) rfl w.heap.size (k * 5) #[.string s, .int .i64 a, .int .i64 b2, .int .i64 c3, .int .i64 d] rfl rfl _ _ l1 hi' (by simp; omega) (by simp [Value.oneCell']) new HN.out ?_)
      have l2 := l1.set new
      go_roundw
      case rel => exact ⟨k + 1, by omega, by go_num, below_setRow B1 (Nat.le_refl _) _, _, l2, hput.1, hput.2⟩
      case measure => simp [intOf]; omega
    · obtain rfl : k = n := by omega
      have hlt := hl.lt
      go_wp2
      go_ret
      exact ⟨_, rfl, hB, Nat.le_refl _, hlt, fun i hi => by rw [Nat.zero_add]; exact hl.cell (hc i hi), fun i hi => hl.fro _⟩

set_option maxHeartbeats 2000000 in
theorem toImg (c s : ByteArray) (p : Option Addr) (n k : Nat) (S : Nat → SymD) (w : World) (hn : n ≤ 1048576) (hp : SymsAt w p n S) :
    Calls Tryz.prog 12 #[.agg #[.string c, .string s, .slice p n k]] w fun e w' => ∃ g, e = .returned (.agg #[.string c, .string s, .slice (some ⟨g, 0, none⟩) n n]) ∧ Below w.heap.size w w' ∧ w.heap.size ≤ g ∧ g < w'.heap.size ∧ FRow w' g 0 (n * 5) (symV S) := by
  go_enter Tryz.func12, Tryz.ntmps12
  go_wp2_with fail
  have B3 : Below w.heap.size w (((w.alloc (.cells #[.string c, .string s, .slice p n k] 24)).alloc (.cells #[.string ByteArray.empty, .string ByteArray.empty, .slice none 0 0] 30)).alloc (.cells #[.string c, .string s, .slice none 0 0] 30)) := (((Below.refl _ _).alloc (Nat.le_refl _) _).alloc (by simp) _).alloc (by simp; omega) _
  have l2 := (Lies.newAt (w.alloc (.cells #[.string c, .string s, .slice p n k] 24)) #[.string ByteArray.empty, .string ByteArray.empty, .slice none 0 0] 30 (g := w.heap.size + 1) (by simp)).alloc (.cells #[.string c, .string s, .slice none 0 0] 30)
  have l3 := Lies.newAt ((w.alloc (.cells #[.string c, .string s, .slice p n k] 24)).alloc (.cells #[.string ByteArray.empty, .string ByteArray.empty, .slice none 0 0] 30)) #[.string c, .string s, .slice none 0 0] 30 (g := w.heap.size + 1 + 1) (by simp)
  have hp3 := hp.below B3
  obtain ⟨W3, hW3⟩ : ∃ W3, (((w.alloc (.cells #[.string c, .string s, .slice p n k] 24)).alloc (.cells #[.string ByteArray.empty, .string ByteArray.empty, .slice none 0 0] 30)).alloc (.cells #[.string c, .string s, .slice none 0 0] 30)) = W3 := ⟨_, rfl⟩
  have hs3 : W3.heap.size = w.heap.size + 1 + 1 + 1 := by rw [← hW3]; simp
  rw [hW3] at B3 l2 l3 hp3
  rw [show ({ data := #[] } : ByteArray) = ByteArray.empty from rfl, hW3]
  clear hW3 hp
  refine (toSyms p n k S W3 hn hp3).mono ?_
  rintro e w1 ⟨g, rfl, hb, hg, hlt, hf⟩
  have m2 := l2.below hb (by omega)
  have m3 := l3.below hb (by omega)
  have c0 := m3.cell (j := 0) rfl
  have c1 := m3.cell (j := 1) rfl
  have c2 := m3.cell (j := 2) rfl
  have f2 := m3.fro 2
  have r0 := m2.cell (j := 0) rfl
  have r1 := m2.cell (j := 1) rfl
  have r2 := m2.cell (j := 2) rfl
  have q0 := m2.fro 0
  have q1 := m2.fro 1
  have q2 := m2.fro 2
  have HB : Hid (Below w.heap.size w w1) := B3.trans (hb.mono B3.size)
  have HF : Hid (FRow w1 g 0 (n * 5) (symV S)) := hf
  have ne2 : g ≠ w.heap.size + 1 := by omega
  have ne3 : g ≠ w.heap.size + 1 + 1 := by omega
  have HM : Hid (Lies w1 (w.heap.size + 1) 30 #[.string ByteArray.empty, .string ByteArray.empty, .slice none 0 0]) := m2
  clear hb hf l2 l3 m2 m3 hp3 B3
  go_wp2_with fail
  have n1 := ((((HM.out.putOther (a := ⟨w.heap.size + 1 + 1, 2, none⟩) (by show w.heap.size + 1 ≠ w.heap.size + 1 + 1; omega) (.slice (some ⟨g, 0, none⟩) n n)).put 0 (.string c)).put 1 (.string s)).put 2 (.slice (some ⟨g, 0, none⟩) n n))
  have bel := (((HB.out.setCell (p := ⟨w.heap.size + 1 + 1, 2, none⟩) (by show w.heap.size ≤ w.heap.size + 1 + 1; omega) (.slice (some ⟨g, 0, none⟩) n n)).setCell (p := ⟨w.heap.size + 1, 0, none⟩) (by show w.heap.size ≤ w.heap.size + 1; omega) (.string c)).setCell (p := ⟨w.heap.size + 1, 1, none⟩) (by show w.heap.size ≤ w.heap.size + 1; omega) (.string s)).setCell (p := ⟨w.heap.size + 1, 2, none⟩) (by show w.heap.size ≤ w.heap.size + 1; omega) (.slice (some ⟨g, 0, none⟩) n n)
  have fr := (((HF.out.other (X := w.heap.size + 1 + 1) ne3 2 (.slice (some ⟨g, 0, none⟩) n n)).other (X := w.heap.size + 1) ne2 0 (.string c)).other (X := w.heap.size + 1) ne2 1 (.string s)).other (X := w.heap.size + 1) ne2 2 (.slice (some ⟨g, 0, none⟩) n n)
  have hi3 : (Tryz.prog.info? 30).map (·.size) = some (#[Value.string c, .string s, .slice (some ⟨g, 0, none⟩) n n] : Array Value).size := by kernel_rfl
  refine bodyPost_ret (results_lies rfl _ _ _ _ _ _ rfl n1 Tryz.underlying30 rfl hi3) rfl ⟨g, rfl, bel, by omega, by simpa using hlt, fr⟩

theorem szSymC (s : ByteArray) (a b c d l : Int) (w : World) (hs : s.size ≤ maxLen) (h0 : 0 ≤ l) (h1 : l ≤ 1048576) :
    Calls Tryz.prog 54 #[.agg #[.string s, .int .i64 a, .int .i64 b, .int .i64 c, .int .i64 d], .int .i64 l] w fun e w' => e = .returned (.int .i64 (if l < s.size then -1 else l - s.size)) ∧ Below w.heap.size w w' := by
  unfold maxLen at hs
  by_cases h : l < s.size
  · rw [if_pos h]
    go_enter Tryz.func54, Tryz.ntmps54
    go_wp2
    go_ret
    exact ⟨rfl, grown1' _ _⟩
  · rw [if_neg h]
    go_enter Tryz.func54, Tryz.ntmps54
    go_wp2
    go_ret
    exact ⟨rfl, grown1' _ _⟩
set_option maxHeartbeats 2000000 in
theorem szSyms (p : Option Addr) (n c : Nat) (S : Nat → SymD) (L : Int) (w : World) (h0 : 0 ≤ L) (h1 : L ≤ 1048576) (hn : n ≤ maxLen) (hw : ∀ i, i < n → (S i).nm.size ≤ maxLen) (hp : SymsAt w p n S) :
    Calls Tryz.prog 29 #[.slice p n c, .int .i64 L] w fun e w' => (∃ r : Int, e = .returned (.int .i64 r) ∧ (r = -1 ∨ (0 ≤ r ∧ r ≤ 1048576 ∧ (n : Int) ≤ L ∧ ∀ i, i < n → ((S i).nm.size : Int) ≤ L))) ∧ Below w.heap.size w w' := by
  unfold maxLen at hn
  by_cases hL : L < n
  · go_enter Tryz.func29, Tryz.ntmps29
    go_wp2
    go_ret
    exact ⟨⟨_, rfl, .inl rfl⟩, Below.refl _ _⟩
  · go_enter Tryz.func29, Tryz.ntmps29
    go_wp2_with fail
    go_loopw [1, 5] (fun m i wr => ∃ (k : Nat) (l : Int), k ≤ n ∧ i = .int .i64 k ∧ m = .int .i64 l ∧ 0 ≤ l ∧ l ≤ L ∧ (∀ j, j < k → ((S j).nm.size : Int) ≤ L) ∧ Below w.heap.size w wr) (fun _ i _ => n - (intOf i).toNat)
    case atStart => exact ⟨0, L - n, Nat.zero_le _, rfl, rfl, by omega, by omega, fun j hj => absurd hj (Nat.not_lt_zero _), Below.refl _ _⟩
    case round =>
      obtain ⟨k, l, hk, rfl, rfl, hl0, hl1, hall, hB⟩ := hrel
      by_cases hlt : k < n
      · rcases hp with hp | ⟨b, o, rfl, hb, hp⟩
        · omega
        obtain ⟨x0, x1, x2, x3, x4⟩ := (hp.below hB hb).sym hlt
        have hwk := hw k hlt
        obtain ⟨s, e0⟩ : ∃ s, (S k).nm = s := ⟨_, rfl⟩
        obtain ⟨a1, e1⟩ : ∃ s, (S k).kd = s := ⟨_, rfl⟩
        obtain ⟨a2, e2⟩ : ∃ s, (S k).pl = s := ⟨_, rfl⟩
        obtain ⟨a3, e3⟩ : ∃ s, (S k).sz = s := ⟨_, rfl⟩
        obtain ⟨a4, e4⟩ : ∃ s, (S k).fr = s := ⟨_, rfl⟩
        rw [e0] at x0 hwk
        rw [e1] at x1
        rw [e2] at x2
        rw [e3] at x3
        rw [e4] at x4
        have HE : Hid ((S k).nm = s) := e0
        have hsz := hB.size
        clear hp e0 e1 e2 e3 e4
        have cz := fun w' => szSymC s a1 a2 a3 a4 l w' hwk hl0 (by omega)
        by_cases h : l < s.size
        · simp only [if_pos h] at cz
          have HC : Hid (∀ w' : World, _) := cz
          clear cz
          go_wp2_with fail
          refine (HC.out _).mono ?_
          rintro e w2 ⟨rfl, hb2⟩
          have B2 := hB.trans (hb2.mono hsz)
          clear hb2 hB x0 x1 x2 x3 x4
          go_wp2_with fail
          go_ret
          exact ⟨⟨_, rfl, .inl rfl⟩, B2⟩
        · simp only [if_neg h] at cz
          have HC : Hid (∀ w' : World, _) := cz
          clear cz
          go_wp2_with fail
          refine (HC.out _).mono ?_
          rintro e w2 ⟨rfl, hb2⟩
          have B2 := hB.trans (hb2.mono hsz)
          clear hb2 hB x0 x1 x2 x3 x4
          go_wp2_with fail
          go_roundw
          case rel => exact ⟨k + 1, l - s.size, by omega, by go_num, rfl, by omega, by omega, fun j hj => by
            rcases Nat.lt_succ_iff_lt_or_eq.1 hj with h' | rfl
            · exact hall j h'
            · rw [HE.out]; omega, B2⟩
          case measure => simp [intOf]; omega
      · obtain rfl : k = n := by omega
        go_wp2
        go_ret
        exact ⟨⟨_, rfl, .inr ⟨hl0, by omega, by omega, hall⟩⟩, hB⟩
theorem szImg (c s : ByteArray) (p : Option Addr) (n k : Nat) (S : Nat → SymD) (w : World) (hc : c.size ≤ maxLen) (hs : s.size ≤ maxLen) (hn : n ≤ maxLen) (hw : ∀ i, i < n → (S i).nm.size ≤ maxLen) (hp : SymsAt w p n S) :
    Calls Tryz.prog 10 #[.agg #[.string c, .string s, .slice p n k], .int .i64 1048576] w fun e w' => (∃ r : Int, e = .returned (.int .i64 r) ∧ (r = -1 ∨ (0 ≤ r ∧ r ≤ 1048576 ∧ c.size ≤ 1048576 ∧ s.size ≤ 1048576 ∧ n ≤ 1048576 ∧ ∀ i, i < n → (S i).nm.size ≤ 1048576))) ∧ Below w.heap.size w w' := by
  have hc' := hc
  have hs' := hs
  unfold maxLen at hc hs
  have bA := grown1' w (.cells #[.string c, .string s, .slice p n k] 24)
  by_cases h1 : 1048576 < c.size
  · go_enter Tryz.func10, Tryz.ntmps10
    go_wp2_with fail
    go_ret
    exact ⟨⟨_, rfl, .inl rfl⟩, bA⟩
  by_cases h2 : 1048576 - (c.size : Int) < s.size
  · go_enter Tryz.func10, Tryz.ntmps10
    go_wp2_with fail
    go_ret
    exact ⟨⟨_, rfl, .inl rfl⟩, bA⟩
  go_enter Tryz.func10, Tryz.ntmps10
  go_wp2_with fail
  refine (szSyms p n k S _ _ (by omega) (by omega) hn hw (hp.below bA)).mono ?_
  rintro e w2 ⟨⟨r, rfl, hr⟩, hb2⟩
  have B2 := bA.trans (hb2.mono bA.size)
  clear hb2 bA hp
  rcases hr with rfl | ⟨r0, r1, r2, r3⟩
  · go_wp2_with fail
    go_ret
    exact ⟨⟨_, rfl, .inl rfl⟩, B2⟩
  · have HR : Hid (∀ i, i < n → (S i).nm.size ≤ 1048576) := fun i hi => by have := r3 i hi; omega
    clear r3 hw
    go_wp2_with fail
    go_ret
    exact ⟨⟨_, rfl, .inr ⟨r0, r1, by omega, by omega, by omega, HR.out⟩⟩, B2⟩

theorem eqSymC (s : ByteArray) (a b c d : Int) (w : World) :
    Calls Tryz.prog 62 #[.agg #[.string s, .int .i64 a, .int .i64 b, .int .i64 c, .int .i64 d], .agg #[.string s, .int .i64 a, .int .i64 b, .int .i64 c, .int .i64 d]] w fun e w' => e = .returned (.bool true) ∧ Below w.heap.size w w' := by
  go_enter Tryz.func62, Tryz.ntmps62
  go_wp2
  go_ret
  exact ⟨rfl, ((Below.refl _ _).alloc (Nat.le_refl _) _).alloc (by simp) _⟩
set_option maxHeartbeats 2000000 in
theorem eqSyms (p q : Option Addr) (n c d : Nat) (S : Nat → SymD) (w : World) (hn : n ≤ 2000000) (hp : SymsAt w p n S) (hq : SymsAt w q n S) :
    Calls Tryz.prog 36 #[.slice p n c, .slice q n d] w fun e w' => e = .returned (.bool true) ∧ Below w.heap.size w w' := by
  go_enter Tryz.func36, Tryz.ntmps36
  go_wp2
  go_loopw [5] (fun i wr => ∃ k : Nat, k ≤ n ∧ i = .int .i64 k ∧ Below w.heap.size w wr) (fun i _ => n - (intOf i).toNat)
  case atStart => exact ⟨0, Nat.zero_le _, rfl, Below.refl _ _⟩
  case round =>
    obtain ⟨k, hk, rfl, hB⟩ := hrel
    by_cases hlt : k < n
    · rcases hp with hp | ⟨b, o, rfl, hb, hp⟩
      · omega
      rcases hq with hq | ⟨b', o', rfl, hb', hq⟩
      · omega
      obtain ⟨x0, x1, x2, x3, x4⟩ := (hp.below hB hb).sym hlt
      obtain ⟨y0, y1, y2, y3, y4⟩ := (hq.below hB hb').sym hlt
      clear hp hq
      go_wp2
      go_region_with ((go_at_call 62; refine (eqSymC _ _ _ _ _ _).mono ?_; rintro e w1 ⟨rfl, hb1⟩))
      all_goals
        have hbw : Below w.heap.size w w1 := by
          first
            | exact hB.trans (hb1.mono (by have := hB.size; simp; omega))
            | exact hB.drew.trans (hb1.mono (by have := hB.size; simp; omega))
        go_wp2
        go_roundw
        case rel => exact ⟨k + 1, by omega, by go_num, hbw⟩
        case measure => simp [intOf]; omega
    · go_wp2
      go_ret
      exact ⟨rfl, hB⟩
theorem eqImg (a s : ByteArray) (p q : Option Addr) (n c d : Nat) (S : Nat → SymD) (w : World) (hn : n ≤ 2000000) (hp : SymsAt w p n S) (hq : SymsAt w q n S) :
    Calls Tryz.prog 14 #[.agg #[.string a, .string s, .slice p n c], .agg #[.string a, .string s, .slice q n d]] w fun e w' => e = .returned (.bool true) ∧ Below w.heap.size w w' := by
  have bA : Below w.heap.size w ((w.alloc (.cells #[.string a, .string s, .slice p n c] 30)).alloc (.cells #[.string a, .string s, .slice q n d] 30)) := ((Below.refl _ _).alloc (Nat.le_refl _) _).alloc (by simp) _
  have hp2 := hp.below bA
  have hq2 := hq.below bA
  have HB : Hid (Below w.heap.size w ((w.alloc (.cells #[.string a, .string s, .slice p n c] 30)).alloc (.cells #[.string a, .string s, .slice q n d] 30))) := bA
  clear hp hq bA
  go_enter Tryz.func14, Tryz.ntmps14
  go_wp2_with fail
  refine (eqSyms p q n c d S _ hn hp2 hq2).mono ?_
  rintro e w2 ⟨rfl, hb2⟩
  have B2 := HB.out.trans (hb2.mono HB.out.size)
  clear hb2 hp2 hq2
  go_wp2_with fail
  go_ret
  exact ⟨rfl, B2⟩
end Go.Proofs.YthihlbfmpkjhpaaGreatDoor

namespace Go.Proofs.YthihlbfmpkjhpaaGreatDoor
open Go.RowKit

theorem ret_bool {a b : Bool} (h : a = b) : Ending.returned (.bool a) = .returned (.bool b) := by rw [h]

theorem isDigit_any (c : Int) (w : World) :
    Calls Tryz.prog 112 #[.int .u8 c] w fun e w' => e = .returned (.bool (digitB c)) ∧ w' = w := by
  by_cases h1 : 48 ≤ c <;> by_cases h2 : c ≤ 57
  all_goals
    go_enter Tryz.func112, Tryz.ntmps112
    go_wp2
    go_ret
    exact ⟨ret_bool (by rw [Bool.eq_iff_iff]; simp [digitB]; omega), rfl⟩

theorem l00Digit_any (c : Int) (w : World) :
    Calls Tryz.prog 105 #[.int .u8 c] w fun e w' => e = .returned (.bool (digitB c)) ∧ w' = w := by
  by_cases h1 : 48 ≤ c <;> by_cases h2 : c ≤ 57
  all_goals
    go_enter Tryz.func105, Tryz.ntmps105
    go_wp2
    go_ret
    exact ⟨ret_bool (by rw [Bool.eq_iff_iff]; simp [digitB]; omega), rfl⟩

theorem isLetter_any (c : Int) (w : World) :
    Calls Tryz.prog 113 #[.int .u8 c] w fun e w' => e = .returned (.bool (letterB c)) ∧ w' = w := by
  by_cases h1 : 97 ≤ c <;> by_cases h2 : c ≤ 122 <;> by_cases h3 : 65 ≤ c <;> by_cases h4 : c ≤ 90
  all_goals first
    | omega
    | (go_enter Tryz.func113, Tryz.ntmps113
       go_wp2
       go_ret
       exact ⟨ret_bool (by rw [Bool.eq_iff_iff]; simp [letterB]; omega), rfl⟩)

theorem l00Letter_any (c : Int) (w : World) :
    Calls Tryz.prog 104 #[.int .u8 c] w fun e w' => e = .returned (.bool (letterB c)) ∧ w' = w := by
  by_cases h1 : 97 ≤ c <;> by_cases h2 : c ≤ 122 <;> by_cases h3 : 65 ≤ c <;> by_cases h4 : c ≤ 90
  all_goals first
    | omega
    | (go_enter Tryz.func104, Tryz.ntmps104
       go_wp2
       go_ret
       exact ⟨ret_bool (by rw [Bool.eq_iff_iff]; simp [letterB]; omega), rfl⟩)
end Go.Proofs.YthihlbfmpkjhpaaGreatDoor

namespace Go.Proofs.YthihlbfmpkjhpaaGreatDoor
open Go.RowKit

set_option maxHeartbeats 400000 in
theorem implName_any (s : ByteArray) (w : World) (hs : s.size ≤ maxLen) :
    Calls Tryz.prog 90 #[.string s] w fun e w' => e = .returned (.bool (nameB s)) ∧ w' = w := by
  unfold maxLen at hs
  by_cases h1 : s.size < 1
  · go_enter Tryz.func90, Tryz.ntmps90
    go_wp2
    go_ret
    exact ⟨ret_bool (nameB_short s (by omega)).symm, rfl⟩
  by_cases h2 : 20 < s.size
  · go_enter Tryz.func90, Tryz.ntmps90
    go_wp2
    go_ret
    exact ⟨ret_bool (nameB_long s (by omega)).symm, rfl⟩
  have h0 : 0 < s.size := by omega
  by_cases hd : digitB s[0].toNat = true
  · have hl : letterB s[0].toNat = false := by
      rw [Bool.eq_false_iff]; intro h
      rw [letter_not_digit _ h] at hd; simp at hd
    have HN : Hid (nameB s = false) := nameB_head s h0 hl
    clear hl
    go_enter Tryz.func90, Tryz.ntmps90
    go_wp2_with (go_at_call 112; refine (isDigit_any _ _).mono ?_; rintro e w' ⟨rfl, rfl⟩)
    go_ret
    exact ⟨ret_bool HN.out.symm, rfl⟩
  have hd' : digitB s[0].toNat = false := by simpa using hd
  clear hd
  go_enter Tryz.func90, Tryz.ntmps90
  go_wp2_with (go_at_call 112; refine (isDigit_any _ _).mono ?_; rintro e w' ⟨rfl, rfl⟩)
  go_loop [19] (fun t => ∃ k : Nat, k ≤ s.size ∧ t = .int .i64 k ∧ Hid (∀ j (h : j < s.size), j < k → signB s[j].toNat = true)) (fun t => s.size - (intOf t).toNat)
  case atStart => exact ⟨0, Nat.zero_le _, rfl, fun j _ h => absurd h (by omega)⟩
  case round =>
    obtain ⟨k, hk, rfl, hall⟩ := hrel
    by_cases hlt : k < s.size
    · by_cases hb : signB s[k].toNat = true
      · cases hl : letterB s[k].toNat <;> cases hg : digitB s[k].toNat
        all_goals try (simp [signB, hl, hg] at hb; done)
        all_goals
          go_wp2_with (first
            | (go_at_call 112; refine (isDigit_any _ _).mono ?_; rintro e w' ⟨rfl, rfl⟩)
            | (go_at_call 113; refine (isLetter_any _ _).mono ?_; rintro e w' ⟨rfl, rfl⟩))
          go_round
          case rel => exact ⟨k + 1, by omega, by go_num, fun j hj hjk => by
            by_cases e : j = k
            · subst e; exact hb
            · exact hall.out j hj (by omega)⟩
          case measure => simp [intOf]; omega
      · have hb' : signB s[k].toNat = false := by simpa using hb
        have HN : Hid (nameB s = false) := nameB_at s k hlt hb'
        have hl : letterB s[k].toNat = false := by simp [signB] at hb'; exact hb'.1
        have hg : digitB s[k].toNat = false := by simp [signB] at hb'; exact hb'.2
        clear hb hb'
        go_wp2_with (first
          | (go_at_call 112; refine (isDigit_any _ _).mono ?_; rintro e w' ⟨rfl, rfl⟩)
          | (go_at_call 113; refine (isLetter_any _ _).mono ?_; rintro e w' ⟨rfl, rfl⟩))
        go_ret
        exact ⟨ret_bool HN.out.symm, rfl⟩
    · go_wp2
      go_ret
      have ha : ∀ j (h : j < s.size), signB s[j].toNat = true := fun j hj => hall.out j hj (by omega)
      have hl : letterB s[0].toNat = true := by
        have := ha 0 h0
        simpa [signB, hd'] using this
      exact ⟨ret_bool (nameB_yes s (by omega) (by omega) hl ha).symm, rfl⟩

set_option maxHeartbeats 400000 in
theorem specWord_any (s : ByteArray) (w : World) (hs : s.size ≤ maxLen) :
    Calls Tryz.prog 83 #[.string s] w fun e w' => e = .returned (.bool (nameB s)) ∧ w' = w := by
  unfold maxLen at hs
  by_cases h1 : s.size < 1
  · go_enter Tryz.func83, Tryz.ntmps83
    go_wp2
    go_ret
    exact ⟨ret_bool (nameB_short s (by omega)).symm, rfl⟩
  by_cases h2 : 20 < s.size
  · go_enter Tryz.func83, Tryz.ntmps83
    go_wp2
    go_ret
    exact ⟨ret_bool (nameB_long s (by omega)).symm, rfl⟩
  have h0 : 0 < s.size := by omega
  by_cases hd : letterB s[0].toNat = true
  · go_enter Tryz.func83, Tryz.ntmps83
    go_wp2_with (go_at_call 104; refine (l00Letter_any _ _).mono ?_; rintro e w' ⟨rfl, rfl⟩)
    go_loop [3] (fun t => ∃ k : Nat, 1 ≤ k ∧ k ≤ s.size ∧ t = .int .i64 k ∧ Hid (∀ j (h : j < s.size), j < k → signB s[j].toNat = true)) (fun t => s.size - (intOf t).toNat)
    case atStart => exact ⟨1, Nat.le_refl _, by omega, rfl, fun j _ h => by
      obtain rfl : j = 0 := by omega
      simp [signB, hd]⟩
    case round =>
      obtain ⟨k, hk1, hk, rfl, hall⟩ := hrel
      by_cases hlt : k < s.size
      · by_cases hb : signB s[k].toNat = true
        · cases hl : letterB s[k].toNat <;> cases hg : digitB s[k].toNat
          all_goals try (simp [signB, hl, hg] at hb; done)
          all_goals
            go_wp2_with (first
              | (go_at_call 104; refine (l00Letter_any _ _).mono ?_; rintro e w' ⟨rfl, rfl⟩)
              | (go_at_call 105; refine (l00Digit_any _ _).mono ?_; rintro e w' ⟨rfl, rfl⟩))
            go_round
            case rel => exact ⟨k + 1, by omega, by omega, by go_num, fun j hj hjk => by
              by_cases e : j = k
              · subst e; exact hb
              · exact hall.out j hj (by omega)⟩
            case measure => simp [intOf]; omega
        · have hb' : signB s[k].toNat = false := by simpa using hb
          have HN : Hid (nameB s = false) := nameB_at s k hlt hb'
          have hl : letterB s[k].toNat = false := by simp [signB] at hb'; exact hb'.1
          have hg : digitB s[k].toNat = false := by simp [signB] at hb'; exact hb'.2
          clear hb hb'
          go_wp2_with (first
            | (go_at_call 104; refine (l00Letter_any _ _).mono ?_; rintro e w' ⟨rfl, rfl⟩)
            | (go_at_call 105; refine (l00Digit_any _ _).mono ?_; rintro e w' ⟨rfl, rfl⟩))
          go_ret
          exact ⟨ret_bool HN.out.symm, rfl⟩
      · go_wp2
        go_ret
        have ha : ∀ j (h : j < s.size), signB s[j].toNat = true := fun j hj => hall.out j hj (by omega)
        exact ⟨ret_bool (nameB_yes s (by omega) (by omega) hd ha).symm, rfl⟩
  · have hl : letterB s[0].toNat = false := by simpa using hd
    have HN : Hid (nameB s = false) := nameB_head s h0 hl
    clear hd
    go_enter Tryz.func83, Tryz.ntmps83
    go_wp2_with (go_at_call 104; refine (l00Letter_any _ _).mono ?_; rintro e w' ⟨rfl, rfl⟩)
    go_ret
    exact ⟨ret_bool HN.out.symm, rfl⟩

end Go.Proofs.YthihlbfmpkjhpaaGreatDoor

namespace Go.Proofs.YthihlbfmpkjhpaaGreatDoor
open Go Go.RowKit
set_option linter.unusedVariables false

theorem flt_k1 {C D : Int} {S : Nat → SymD} {i : Nat} (h1 : nameB (S i).nm = true) (h2 : clashB S i = false) (h3 : (S i).kd = 1) : fltI C D S i = if (S i).pl = cdU S i ∧ 1 ≤ (S i).sz ∧ (S i).sz ≤ C - cdU S i then 0 else 4 := by
  unfold fltI; rw [h1, h2, if_neg (by simp), if_neg (by simp), if_pos h3]
theorem flt_k2 {C D : Int} {S : Nat → SymD} {i : Nat} (h1 : nameB (S i).nm = true) (h2 : clashB S i = false) (h3 : (S i).kd = 2) : fltI C D S i = if dtU S i ≤ (S i).pl ∧ (S i).pl ≤ D ∧ 1 ≤ (S i).sz ∧ (S i).sz ≤ D - (S i).pl ∧ (S i).pl % 8 = 0 ∧ (S i).sz % 8 = 0 then (if (S i).fr = 0 then 0 else 17) else 4 := by
  unfold fltI; rw [h1, h2, if_neg (by simp), if_neg (by simp), if_neg (by omega), if_pos h3]
theorem flt_k0 {C D : Int} {S : Nat → SymD} {i : Nat} (h1 : nameB (S i).nm = true) (h2 : clashB S i = false) (h3 : (S i).kd ≠ 1) (h4 : (S i).kd ≠ 2) : fltI C D S i = 26 := by
  unfold fltI; rw [h1, h2, if_neg (by simp), if_neg (by simp), if_neg h3, if_neg h4]
theorem flt_nm {C D : Int} {S : Nat → SymD} {i : Nat} (h1 : nameB (S i).nm = false) : fltI C D S i = 3 := by unfold fltI; rw [if_pos h1]
theorem flt_cl {C D : Int} {S : Nat → SymD} {i : Nat} (h1 : nameB (S i).nm = true) (h2 : clashB S i = true) : fltI C D S i = 24 := by unfold fltI; rw [h1, if_neg (by simp), if_pos h2]

theorem SymsIs.at {n : Nat} {C D : Int} {S : Nat → SymD} {x y : Int} (h : SymsIs n C D S x y) {k : Nat} (hk : k < n) (h0 : ∀ j, j < k → fltI C D S j = 0) (hn : fltI C D S k ≠ 0) : x = ((k : Nat) : Int) ∧ y = fltI C D S k := by
  cases h with
  | flt j hj a b =>
    by_cases h1 : j < k
    · exact absurd (h0 j h1) b
    · by_cases h2 : k < j
      · exact absurd (a k h2) hn
      · obtain rfl : j = k := by omega
        exact ⟨rfl, rfl⟩
  | nosym a => exact absurd (a k hk) hn
  | short a => exact absurd (a k hk) hn
  | ok a => exact absurd (a k hk) hn

set_option maxRecDepth 100000 in
set_option maxHeartbeats 16000000 in
theorem specSyms (c s : ByteArray) (p : Option Addr) (n kk : Nat) (S : Nat → SymD) (w : World) (hn : n ≤ 16) (hc : c.size ≤ 1024) (hs : s.size ≤ 256) (hw : ∀ i, i < n → (S i).wf) (hp : SymsAt w p n S) (x y : Int) (hl : SymsIs n c.size s.size S x y) :
    Calls Tryz.prog 55 #[.agg #[.string c, .string s, .slice p n kk]] w fun e w' => e = .returned (.tuple #[.int .i64 x, .int .i64 y]) ∧ Below w.heap.size w w' := by
  have bA := grown1' w (.cells #[.string c, .string s, .slice p n kk] 30)
  have i0 : (w.alloc (.cells #[.string c, .string s, .slice p n kk] 30)).cell? ⟨w.heap.size, 0, none⟩ = some (.string c) := by simp
  have i1 : (w.alloc (.cells #[.string c, .string s, .slice p n kk] 30)).cell? ⟨w.heap.size, 1, none⟩ = some (.string s) := by simp
  have i2 : (w.alloc (.cells #[.string c, .string s, .slice p n kk] 30)).cell? ⟨w.heap.size, 2, none⟩ = some (.slice p n kk) := by simp
  have hlt0 : w.heap.size < (w.alloc (.cells #[.string c, .string s, .slice p n kk] 30)).heap.size := by simp
  have hp1 := hp.below bA
  go_enter Tryz.func55, Tryz.ntmps55
  go_wp2_with fail
  obtain ⟨W0, hW0⟩ : ∃ W0, w.alloc (.cells #[.string c, .string s, .slice p n kk] 30) = W0 := ⟨_, rfl⟩
  rw [hW0] at bA i0 i1 i2 hlt0 hp1 ⊢
  have HA : Hid (Below w.heap.size w W0) := bA
  clear hW0 hp bA
  go_loopw [4, 5, 6] (fun cd dt i wr => ∃ m : Nat, m ≤ n ∧ i = .int .i64 m ∧ cd = .int .i64 (cdU S m) ∧ dt = .int .i64 (dtU S m) ∧ (∀ j, j < m → fltI c.size s.size S j = 0) ∧ Below W0.heap.size W0 wr) (fun _ _ i _ => n - (intOf i).toNat)
  case atStart => exact ⟨0, Nat.zero_le _, rfl, rfl, rfl, fun j hj => absurd hj (Nat.not_lt_zero _), Below.refl _ _⟩
  case round =>
    obtain ⟨m, hm, rfl, rfl, rfl, hok, hB⟩ := hrel
    have j0 := (hB.cell (p := ⟨w.heap.size, 0, none⟩) hlt0).trans i0
    have j1 := (hB.cell (p := ⟨w.heap.size, 1, none⟩) hlt0).trans i1
    have j2 := (hB.cell (p := ⟨w.heap.size, 2, none⟩) hlt0).trans i2
    obtain ⟨hcd, hdt⟩ := cdU_bd (C := c.size) (D := s.size) m (by omega) (by omega) hok
    by_cases hlt : m < n
    · rcases hp1 with hp1 | ⟨b, o, rfl, hb, hp1⟩
      · omega
      have hrow := hp1.below hB hb
      obtain ⟨x0, x1, x2, x3, x4⟩ := hrow.sym hlt
      obtain ⟨hnw, _, _, w3, _⟩ := hw m hlt
      have hat := fun hne => hl.at hlt hok hne
      have HAT : Hid (fltI c.size s.size S m ≠ 0 → x = ((m : Nat) : Int) ∧ y = fltI c.size s.size S m) := hat
      have HOK : Hid (∀ j, j < m → fltI c.size s.size S j = 0) := hok
      have HL : Hid (SymsIs n c.size s.size S x y) := hl
      have HR : Hid (VRow wr b o (n * 5) (symV S)) := hrow
      obtain ⟨nm, e0⟩ : ∃ s, (S m).nm = s := ⟨_, rfl⟩
      obtain ⟨kd, e1⟩ : ∃ s, (S m).kd = s := ⟨_, rfl⟩
      obtain ⟨pl, e2⟩ : ∃ s, (S m).pl = s := ⟨_, rfl⟩
      obtain ⟨sz, e3⟩ : ∃ s, (S m).sz = s := ⟨_, rfl⟩
      obtain ⟨fr, e4⟩ : ∃ s, (S m).fr = s := ⟨_, rfl⟩
      obtain ⟨cd, e5⟩ : ∃ s, cdU S m = s := ⟨_, rfl⟩
      obtain ⟨dt, e6⟩ : ∃ s, dtU S m = s := ⟨_, rfl⟩
      rw [e0] at x0 hnw
      rw [e1] at x1
      rw [e2] at x2
      rw [e3] at x3 w3
      rw [e4] at x4
      rw [e5, e6]
      rw [e5] at hcd
      rw [e6] at hdt
      have E0 : Hid (_ = nm) := e0
      have E1 : Hid (_ = kd) := e1
      have E2 : Hid (_ = pl) := e2
      have E3 : Hid (_ = sz) := e3
      have E4 : Hid (_ = fr) := e4
      have E5 : Hid (_ = cd) := e5
      have E6 : Hid (_ = dt) := e6
      have hsz := hB.size
      have bX := grown1' wr (.cells #[.string nm, .int .i64 kd, .int .i64 pl, .int .i64 sz, .int .i64 fr] 76)
      have hB1 := hB.trans (bX.mono hsz)
      have z0 : (wr.alloc (.cells #[.string nm, .int .i64 kd, .int .i64 pl, .int .i64 sz, .int .i64 fr] 76)).cell? ⟨wr.heap.size, 0, none⟩ = some (.string nm) := by simp
      have z1 : (wr.alloc (.cells #[.string nm, .int .i64 kd, .int .i64 pl, .int .i64 sz, .int .i64 fr] 76)).cell? ⟨wr.heap.size, 1, none⟩ = some (.int .i64 kd) := by simp
      have z2 : (wr.alloc (.cells #[.string nm, .int .i64 kd, .int .i64 pl, .int .i64 sz, .int .i64 fr] 76)).cell? ⟨wr.heap.size, 2, none⟩ = some (.int .i64 pl) := by simp
      have z3 : (wr.alloc (.cells #[.string nm, .int .i64 kd, .int .i64 pl, .int .i64 sz, .int .i64 fr] 76)).cell? ⟨wr.heap.size, 3, none⟩ = some (.int .i64 sz) := by simp
      have z4 : (wr.alloc (.cells #[.string nm, .int .i64 kd, .int .i64 pl, .int .i64 sz, .int .i64 fr] 76)).cell? ⟨wr.heap.size, 4, none⟩ = some (.int .i64 fr) := by simp
      have zl : wr.heap.size < (wr.alloc (.cells #[.string nm, .int .i64 kd, .int .i64 pl, .int .i64 sz, .int .i64 fr] 76)).heap.size := by simp
      have hrow1 := hrow.below bX (Nat.lt_of_lt_of_le hb hsz)
      have k0 := (hB1.cell (p := ⟨w.heap.size, 0, none⟩) hlt0).trans i0
      have k1 := (hB1.cell (p := ⟨w.heap.size, 1, none⟩) hlt0).trans i1
      have k2 := (hB1.cell (p := ⟨w.heap.size, 2, none⟩) hlt0).trans i2
      clear e0 e1 e2 e3 e4 e5 e6 hat hok hl hrow hp1 hw bX
      by_cases hname : nameB nm = false
      · have hf := flt_nm (C := c.size) (D := s.size) (S := S) (i := m) (by rw [E0.out]; exact hname)
        obtain ⟨rfl, hy⟩ := HAT.out (by rw [hf]; decide)
        rw [hf] at hy
        subst hy
        clear hf
        go_wp2_with fail
        refine (specWord_any nm _ hnw).mono ?_
        rintro e w2 ⟨rfl, rfl⟩
        rw [hname]
        go_wp2_with fail
        go_ret2
        exact ⟨rfl, HA.out.trans (hB1.mono HA.out.size)⟩
      have hname' : nameB nm = true := by cases e : nameB nm <;> simp_all
      clear hname
      have HB1 : Hid (Below W0.heap.size W0 (wr.alloc (.cells #[.string nm, .int .i64 kd, .int .i64 pl, .int .i64 sz, .int .i64 fr] 76))) := hB1
      go_wp2_with fail
      refine (specWord_any nm _ hnw).mono ?_
      rintro e w2 ⟨rfl, rfl⟩
      rw [hname']
      obtain ⟨W1, hW1⟩ : ∃ W1, (wr.alloc (.cells #[.string nm, .int .i64 kd, .int .i64 pl, .int .i64 sz, .int .i64 fr] 76)) = W1 := ⟨_, rfl⟩
      obtain ⟨X, hX⟩ : ∃ X, wr.heap.size = X := ⟨_, rfl⟩
      rw [hW1] at HB1 z0 z1 z2 z3 z4 zl hrow1 k0 k1 k2 ⊢
      rw [hX] at z0 z1 z2 z3 z4 zl ⊢
      have hl1 := HB1.out.size
      clear hB1 hW1 hX hB HR j0 j1 j2 x0 x1 x2 x3 x4 i0 i1 i2 hsz
      go_wp2_with fail
      go_loopw [8] (fun i wq => ∃ q : Nat, q ≤ m ∧ i = .int .i64 q ∧ (∀ j, j < q → ((S j).nm.toList == nm.toList) = false) ∧ Below W1.heap.size W1 wq) (fun i _ => m - (intOf i).toNat)
      case atStart => exact ⟨0, Nat.zero_le _, rfl, fun j hj => absurd hj (Nat.not_lt_zero _), Below.refl _ _⟩
      case round =>
        obtain ⟨q, hq, rfl, hdif, hB2⟩ := hrel
        obtain ⟨W2, rfl⟩ : ∃ W2, W2 = wr := ⟨_, rfl⟩
        have m0 := (hB2.cell (p := ⟨X, 0, none⟩) zl).trans z0
        have m1 := (hB2.cell (p := ⟨X, 1, none⟩) zl).trans z1
        have m2 := (hB2.cell (p := ⟨X, 2, none⟩) zl).trans z2
        have m3 := (hB2.cell (p := ⟨X, 3, none⟩) zl).trans z3
        have m4 := (hB2.cell (p := ⟨X, 4, none⟩) zl).trans z4
        have n0 := (hB2.cell (p := ⟨w.heap.size, 0, none⟩) (Nat.lt_of_lt_of_le hlt0 hl1)).trans k0
        have n1 := (hB2.cell (p := ⟨w.heap.size, 1, none⟩) (Nat.lt_of_lt_of_le hlt0 hl1)).trans k1
        have n2 := (hB2.cell (p := ⟨w.heap.size, 2, none⟩) (Nat.lt_of_lt_of_le hlt0 hl1)).trans k2
        have bel : Hid (Below w.heap.size w W2) := HA.out.trans ((HB1.out.trans (hB2.mono hl1)).mono HA.out.size)
        by_cases hqm : q < m
        · have v0 := ((hrow1.below hB2 (Nat.lt_of_lt_of_le hb hl1)).sym (k := q) (by omega)).1
          obtain ⟨nq, eq⟩ : ∃ s, (S q).nm = s := ⟨_, rfl⟩
          rw [eq] at v0
          by_cases he : (nq.toList == nm.toList) = true
          · have hf := flt_cl (C := c.size) (D := s.size) (S := S) (i := m) (by rw [E0.out]; exact hname') (clashB_iff.2 ⟨q, hqm, by rw [eq, E0.out]; exact he⟩)
            obtain ⟨rfl, hy⟩ := HAT.out (by rw [hf]; decide)
            rw [hf] at hy
            subst hy
            have bd := bel.out.drew
            have hqn : q < n := by omega
            clear hf eq
            go_wp2_with fail
            go_region
            all_goals
              go_wp2_with fail
              go_ret2
              exact ⟨rfl, bd⟩
          · have he' : (nq.toList == nm.toList) = false := by cases e : (nq.toList == nm.toList) <;> simp_all
            have EQ : Hid (_ = nq) := eq
            have hB3 := hB2.drew
            have hqn : q < n := by omega
            clear he eq
            go_wp2_with fail
            go_region
            all_goals
              go_wp2_with fail
              go_roundw
              case rel => exact ⟨q + 1, by omega, by go_num, fun j hj => by
                rcases Nat.lt_succ_iff_lt_or_eq.1 hj with h' | rfl
                · exact hdif j h'
                · rw [EQ.out]; exact he', hB3⟩
              case measure => simp [intOf]; omega
        · obtain rfl : q = m := by omega
          have hcl : clashB S q = false := clashB_no (fun j hj => by rw [E0.out]; exact hdif j hj)
          have HB2 : Hid (Below W0.heap.size W0 W2) := HB1.out.trans (hB2.mono hl1)
          clear hdif hrow1
          by_cases h1 : kd = 1
          · have hf := flt_k1 (C := c.size) (D := s.size) (S := S) (i := q) (by rw [E0.out]; exact hname') hcl (by rw [E1.out]; exact h1)
            rw [E2.out, E3.out, E5.out] at hf
            subst h1
            by_cases hg : pl = cd ∧ 1 ≤ sz ∧ sz ≤ c.size - cd
            · rw [if_pos hg] at hf
              obtain ⟨rfl, g1, g2⟩ := hg
              have hcu : cdU S (q + 1) = pl + sz := by
                show (if (S q).kd = 1 then cdU S q + (S q).sz else cdU S q) = _
                rw [E1.out, if_pos rfl, E5.out, E3.out]
              have hdu : dtU S (q + 1) = dt := by
                show (if (S q).kd = 2 then (S q).pl + (S q).sz else dtU S q) = _
                rw [E1.out, if_neg (by decide), E6.out]
              have hall : ∀ j, j < q + 1 → fltI c.size s.size S j = 0 := fun j hj => by
                rcases Nat.lt_succ_iff_lt_or_eq.1 hj with h' | rfl
                · exact HOK.out j h'
                · exact hf
              have HALL : Hid (∀ j, j < q + 1 → fltI c.size s.size S j = 0) := hall
              clear hall hf hcl
              go_wp2_with fail
              go_roundw
              case rel => exact ⟨q + 1, by omega, by go_num, by rw [hcu], by rw [hdu], HALL.out, HB2.out⟩
              case measure => simp [intOf]; omega
            · rw [if_neg hg] at hf
              obtain ⟨rfl, hy⟩ := HAT.out (by rw [hf]; decide)
              rw [hf] at hy
              subst hy
              have key : ¬ pl = cd ∨ (pl = cd ∧ sz < 1) ∨ (pl = cd ∧ 1 ≤ sz ∧ c.size - cd < sz) := by omega
              clear hf hg hcl
              rcases key with k | ⟨rfl, k⟩ | ⟨rfl, k, l⟩
              all_goals
                go_wp2_with fail
                go_ret2
                exact ⟨rfl, bel.out⟩
          by_cases h2 : kd = 2
          · have hf := flt_k2 (C := c.size) (D := s.size) (S := S) (i := q) (by rw [E0.out]; exact hname') hcl (by rw [E1.out]; exact h2)
            rw [E2.out, E3.out, E4.out, E6.out] at hf
            subst h2
            by_cases hg : dt ≤ pl ∧ pl ≤ s.size ∧ 1 ≤ sz ∧ sz ≤ s.size - pl ∧ pl % 8 = 0 ∧ sz % 8 = 0
            · rw [if_pos hg] at hf
              obtain ⟨g1, g2, g3, g4, g5, g6⟩ := hg
              have t1 : pl.tmod 8 = 0 := by rw [Int.tmod_eq_emod_of_nonneg (by omega)]; exact g5
              have t2 : sz.tmod 8 = 0 := by rw [Int.tmod_eq_emod_of_nonneg (by omega)]; exact g6
              by_cases hfr : fr = 0
              · rw [if_pos hfr] at hf
                subst hfr
                have hcu : cdU S (q + 1) = cd := by
                  show (if (S q).kd = 1 then cdU S q + (S q).sz else cdU S q) = _
                  rw [E1.out, if_neg (by decide), E5.out]
                have hdu : dtU S (q + 1) = pl + sz := by
                  show (if (S q).kd = 2 then (S q).pl + (S q).sz else dtU S q) = _
                  rw [E1.out, if_pos rfl, E2.out, E3.out]
                have hall : ∀ j, j < q + 1 → fltI c.size s.size S j = 0 := fun j hj => by
                  rcases Nat.lt_succ_iff_lt_or_eq.1 hj with h' | rfl
                  · exact HOK.out j h'
                  · exact hf
                have HALL : Hid (∀ j, j < q + 1 → fltI c.size s.size S j = 0) := hall
                clear hall hf hcl
                go_wp2_with fail
                go_roundw
                case rel => exact ⟨q + 1, by omega, by go_num, by rw [hcu], by rw [hdu], HALL.out, HB2.out⟩
                case measure => simp [intOf]; omega
              · rw [if_neg hfr] at hf
                obtain ⟨rfl, hy⟩ := HAT.out (by rw [hf]; decide)
                rw [hf] at hy
                subst hy
                have hfb : (fr == 0) = false := by simpa using hfr
                clear hf hcl
                go_wp2_with fail
                go_ret2
                exact ⟨rfl, bel.out⟩
            · rw [if_neg hg] at hf
              obtain ⟨rfl, hy⟩ := HAT.out (by rw [hf]; decide)
              rw [hf] at hy
              subst hy
              have key : pl < dt ∨ (dt ≤ pl ∧ s.size < pl) ∨ (dt ≤ pl ∧ pl ≤ s.size ∧ sz < 1) ∨ (dt ≤ pl ∧ pl ≤ s.size ∧ 1 ≤ sz ∧ s.size - pl < sz) ∨ (dt ≤ pl ∧ pl ≤ s.size ∧ 1 ≤ sz ∧ sz ≤ s.size - pl ∧ ¬ pl % 8 = 0) ∨ (dt ≤ pl ∧ pl ≤ s.size ∧ 1 ≤ sz ∧ sz ≤ s.size - pl ∧ pl % 8 = 0 ∧ ¬ sz % 8 = 0) := by omega
              clear hf hg hcl
              rcases key with k | ⟨k, l⟩ | ⟨k, l, m5⟩ | ⟨k, l, m5, m6⟩ | ⟨k, l, m5, m6, m7⟩ | ⟨k, l, m5, m6, m7, m8⟩
              · go_wp2_with fail
                go_ret2
                exact ⟨rfl, bel.out⟩
              · go_wp2_with fail
                go_ret2
                exact ⟨rfl, bel.out⟩
              · go_wp2_with fail
                go_ret2
                exact ⟨rfl, bel.out⟩
              · go_wp2_with fail
                go_ret2
                exact ⟨rfl, bel.out⟩
              · have t1 : ¬ pl.tmod 8 = 0 := by rw [Int.tmod_eq_emod_of_nonneg (by omega)]; exact m7
                go_wp2_with fail
                go_ret2
                exact ⟨rfl, bel.out⟩
              · have t1 : pl.tmod 8 = 0 := by rw [Int.tmod_eq_emod_of_nonneg (by omega)]; exact m7
                have t2 : ¬ sz.tmod 8 = 0 := by rw [Int.tmod_eq_emod_of_nonneg (by omega)]; exact m8
                have t3 : (sz % 8 != 0) = true := by simpa using m8
                go_wp2_with fail
                go_ret2
                exact ⟨rfl, bel.out⟩
          · have hf := flt_k0 (C := c.size) (D := s.size) (S := S) (i := q) (by rw [E0.out]; exact hname') hcl (by rw [E1.out]; exact h1) (by rw [E1.out]; exact h2)
            obtain ⟨rfl, hy⟩ := HAT.out (by rw [hf]; decide)
            rw [hf] at hy
            subst hy
            have hb1 : (kd == 1) = false := by simpa using h1
            have hb2 : (kd == 2) = false := by simpa using h2
            clear hf hcl
            go_wp2_with fail
            go_ret2
            exact ⟨rfl, bel.out⟩
    · obtain rfl : m = n := by omega
      have HB2 : Hid (Below w.heap.size w wr) := HA.out.trans (hB.mono HA.out.size)
      have HP : Hid (SymsAt wr p m S) := hp1.below hB
      clear hp1 hw
      by_cases h0 : m = 0
      · obtain ⟨rfl, rfl⟩ : x = 0 ∧ y = 23 := by
          cases hl with
          | flt k hk => omega
          | nosym => exact ⟨rfl, rfl⟩
          | short a b => omega
          | ok a b => omega
        subst h0
        clear hl hok
        go_wp2_with fail
        go_ret2
        exact ⟨rfl, HB2.out⟩
      rcases HP.out with hP | ⟨b, o, rfl, hb, hP⟩
      · exact absurd hP h0
      have x1 := (hP.sym (k := 0) (by omega)).2.1
      simp only [Nat.zero_mul, Nat.add_zero] at x1
      obtain ⟨kd, e1⟩ : ∃ s, (S 0).kd = s := ⟨_, rfl⟩
      obtain ⟨cd, e5⟩ : ∃ s, cdU S m = s := ⟨_, rfl⟩
      obtain ⟨dt, e6⟩ : ∃ s, dtU S m = s := ⟨_, rfl⟩
      rw [e1] at x1
      rw [e5, e6]
      rw [e5] at hcd
      have hm0 : 0 < m := by omega
      by_cases h1 : kd = 1
      · by_cases h2 : cd = c.size
        · obtain ⟨rfl, rfl⟩ : x = 0 ∧ y = 0 := by
            cases hl with
            | flt k hk a b => exact absurd (hok k hk) b
            | nosym a b => rcases b with b | b <;> omega
            | short a b c' d => omega
            | ok => exact ⟨rfl, rfl⟩
          subst h1 h2
          clear hl hok e1 e5 e6 hP HP
          go_wp2_with fail
          go_ret2
          exact ⟨rfl, HB2.out⟩
        · obtain ⟨rfl, rfl⟩ : x = 0 ∧ y = 22 := by
            cases hl with
            | flt k hk a b => exact absurd (hok k hk) b
            | nosym a b => rcases b with b | b <;> omega
            | short => exact ⟨rfl, rfl⟩
            | ok a b c' d => omega
          subst h1
          have hcb : (cd == (c.size : Int)) = false := by simpa using h2
          clear hl hok e1 e5 e6 hP HP
          go_wp2_with fail
          go_ret2
          exact ⟨rfl, HB2.out⟩
      · obtain ⟨rfl, rfl⟩ : x = 0 ∧ y = 23 := by
          cases hl with
          | flt k hk a b => exact absurd (hok k hk) b
          | nosym => exact ⟨rfl, rfl⟩
          | short a b c' d => omega
          | ok a b c' d => omega
        have hkb : (kd == 1) = false := by simpa using h1
        have hkc : (kd != 1) = true := by simpa using h1
        clear hl hok e1 e5 e6 hP HP
        go_wp2_with fail
        go_ret2
        exact ⟨rfl, HB2.out⟩
end Go.Proofs.YthihlbfmpkjhpaaGreatDoor
