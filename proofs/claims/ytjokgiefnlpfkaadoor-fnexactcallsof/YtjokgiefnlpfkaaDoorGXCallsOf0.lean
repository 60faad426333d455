/- What is called, plain: rising lists of numbers; sorted and made compact; put in their place one by one. Contracts of the library's functions, proved once by the kit, laid at this seat's dump. Lists of ints of the call's own: sorted, made compact. The program's CallsOf. The model's CallsOf; both. Both CallsOf. -/
import Derived.Lib.SlicesCompact
import Derived.Shelf.Small.Bits
import Derived.Shelf.Small.Wraps
import Derived.Shelf.Strconv.Itoa0
import Derived.Shelf.Sort.Plain
import Derived.Ground.Names2Prog
import Derived.Shelf.Slices.CompactI
import Derived.Shelf.Slices.SearchI
import Derived.Shelf.Slices.In.SortNone
import Derived.Test.YtjokgiefnlpfkaaDoorProg
import Derived.Test.YtjokgiefnlpfkaaDoorGXLintFunction39
import Derived.Lib.RowBridge
import Derived.Deep.AppendLies
import Derived.Maps.AppendAt
import Derived.Test.YtjokgiefnlpfkaaDoorGXLintFunction7
namespace Go.Proofs.YtjokgiefnlpfkaaDoor
open Go.Lib

/-- Rising. -/
def Asc (l : List Int) : Prop := l.Pairwise (· < ·)
theorem asc_ext : ∀ {l m : List Int}, Asc l → Asc m → (∀ x, x ∈ l ↔ x ∈ m) → l = m
  | [], [], _, _, _ => rfl
  | [], y :: m, _, _, h => absurd ((h y).2 (List.mem_cons_self ..)) (List.not_mem_nil)
  | x :: l, [], _, _, h => absurd ((h x).1 (List.mem_cons_self ..)) (List.not_mem_nil)
  | x :: l, y :: m, hl, hm, h => by
    obtain ⟨hx, hl'⟩ := List.pairwise_cons.1 hl
    obtain ⟨hy, hm'⟩ := List.pairwise_cons.1 hm
    have e : x = y := by
      rcases List.mem_cons.1 ((h x).1 (List.mem_cons_self ..)) with e | e
      · exact e
      · rcases List.mem_cons.1 ((h y).2 (List.mem_cons_self ..)) with e' | e'
        · exact e'.symm
        · have := hx y e'; have := hy x e; omega
    subst e
    rw [asc_ext hl' hm' (fun z => ?_)]
    constructor
    · intro hz
      rcases List.mem_cons.1 ((h z).1 (List.mem_cons_of_mem _ hz)) with e | e
      · have := hx z hz; omega
      · exact e
    · intro hz
      rcases List.mem_cons.1 ((h z).2 (List.mem_cons_of_mem _ hz)) with e | e
      · have := hy z hz; omega
      · exact e

/-- Made compact, a sorted row rises, with the same elements. -/
theorem compactUpTo_asc (d : Array Int) (hs : ∀ i j, i ≤ j → j < d.size → d[i]! ≤ d[j]!) : ∀ m, m ≤ d.size → Asc (compactUpTo d m) ∧ ∀ x, x ∈ compactUpTo d m ↔ ∃ j, j < m ∧ d[j]! = x
  | 0, _ => ⟨by simp [compactUpTo, Asc], fun x => by simp [compactUpTo]⟩
  | m + 1, hm => by
    obtain ⟨h1, h2⟩ := compactUpTo_asc d hs m (by omega)
    rw [compactUpTo_succ]
    by_cases hk : keeps d m = true
    · rw [if_pos hk]
      constructor
      · unfold Asc
        rw [List.pairwise_append]
        refine ⟨h1, List.pairwise_singleton _ _, fun x hx y hy => ?_⟩
        obtain ⟨j, hj, rfl⟩ := (h2 x).1 hx
        obtain rfl : y = d[m]! := by simpa using hy
        have hne : d[m]! ≠ d[m - 1]! := by
          rcases of_decide_eq_true hk with h | h
          · omega
          · exact h
        have a := hs j (m - 1) (by omega) (by omega)
        have b := hs (m - 1) m (by omega) (by omega)
        omega
      · intro x
        rw [List.mem_append, h2]
        constructor
        · rintro (⟨j, hj, e⟩ | e)
          · exact ⟨j, by omega, e⟩
          · exact ⟨m, by omega, (List.mem_singleton.1 e).symm⟩
        · rintro ⟨j, hj, e⟩
          by_cases hjm : j = m
          · subst hjm; exact .inr (by simp [e])
          · exact .inl ⟨j, by omega, e⟩
    · rw [if_neg hk, List.append_nil]
      refine ⟨h1, fun x => ?_⟩
      have hk' : ¬ (m = 0 ∨ d[m]! ≠ d[m - 1]!) := fun h => hk (decide_eq_true h)
      have h0 : 0 < m := by omega
      have he : d[m]! = d[m - 1]! := by
        by_cases e : d[m]! = d[m - 1]!
        · exact e
        · exact absurd (.inr e) hk'
      rw [h2]
      constructor
      · rintro ⟨j, hj, e⟩; exact ⟨j, by omega, e⟩
      · rintro ⟨j, hj, e⟩
        by_cases hjm : j = m
        · exact ⟨m - 1, by omega, by rw [← he, ← hjm]; exact e⟩
        · exact ⟨j, by omega, e⟩
/-- Sorted and made compact. -/
def sortC (zs : List Int) : List Int := compact (zs.mergeSort fun x y => decide (x ≤ y))
theorem sortC_asc (zs : List Int) : Asc (sortC zs) ∧ ∀ x, x ∈ sortC zs ↔ x ∈ zs := by
  obtain ⟨l, hl⟩ : ∃ l, (zs.mergeSort fun x y => decide (x ≤ y)) = l := ⟨_, rfl⟩
  have hp : l.Pairwise (fun x y => decide (x ≤ y) = true) := by
    rw [← hl]
    exact List.pairwise_mergeSort (fun a b c h1 h2 => by simp only [decide_eq_true_eq] at *; omega) (fun a b => by simp only [Bool.or_eq_true, decide_eq_true_eq]; omega) zs
  have hm : ∀ x, x ∈ l ↔ x ∈ zs := fun x => by rw [← hl]; exact List.mem_mergeSort
  unfold sortC compact
  rw [hl]
  have hs : ∀ i j, i ≤ j → j < l.toArray.size → l.toArray[i]! ≤ l.toArray[j]! := by
    intro i j hij hj
    have hj' : j < l.length := by simpa using hj
    have hi' : i < l.length := by omega
    rw [getElem!_pos l.toArray i (by simpa using hi'), getElem!_pos l.toArray j (by simpa using hj')]
    by_cases e : i = j
    · subst e; exact Int.le_refl _
    · have := List.pairwise_iff_getElem.1 hp i j hi' hj' (by omega)
      simpa using this
  obtain ⟨h1, h2⟩ := compactUpTo_asc l.toArray hs l.length (by simp)
  refine ⟨h1, fun x => ?_⟩
  rw [h2, ← hm]
  constructor
  · rintro ⟨j, hj, e⟩
    rw [getElem!_pos l.toArray j (by simpa using hj)] at e
    rw [← e]
    simp
  · intro hx
    obtain ⟨j, hj, e⟩ := List.mem_iff_getElem.1 hx
    exact ⟨j, hj, by rw [getElem!_pos l.toArray j (by simpa using hj)]; simpa using e⟩

/-- Put in its place. -/
theorem asc_put {l : List Int} {t : Int} (k : Nat) (h : Asc l) (h1 : ∀ j (hj : j < l.length), j < k → l[j] < t) (h2 : ∀ j (hj : j < l.length), k ≤ j → t < l[j]) :
    Asc (l.take k ++ t :: l.drop k) ∧ ∀ x, x ∈ (l.take k ++ t :: l.drop k) ↔ x = t ∨ x ∈ l := by
  have a1 : ∀ x, x ∈ l.take k → x < t := fun x hx => by
    obtain ⟨j, hj, e⟩ := List.mem_iff_getElem.1 hx
    rw [List.length_take] at hj
    rw [← e, List.getElem_take]
    exact h1 j (by omega) (by omega)
  have a2 : ∀ x, x ∈ l.drop k → t < x := fun x hx => by
    obtain ⟨j, hj, e⟩ := List.mem_iff_getElem.1 hx
    rw [List.length_drop] at hj
    rw [← e, List.getElem_drop]
    exact h2 (k + j) (by omega) (by omega)
  constructor
  · unfold Asc
    rw [List.pairwise_append, List.pairwise_cons]
    refine ⟨h.sublist (List.take_sublist _ _), ⟨a2, h.sublist (List.drop_sublist _ _)⟩, fun x hx y hy => ?_⟩
    rcases List.mem_cons.1 hy with rfl | hy
    · exact a1 x hx
    · have := a1 x hx; have := a2 y hy; omega
  · intro x
    rw [List.mem_append, List.mem_cons]
    constructor
    · rintro (hx | rfl | hx)
      · exact .inr (List.mem_of_mem_take hx)
      · exact .inl rfl
      · exact .inr (List.mem_of_mem_drop hx)
    · rintro (rfl | hx)
      · exact .inr (.inl rfl)
      · rw [← List.take_append_drop k l, List.mem_append] at hx
        rcases hx with hx | hx
        · exact .inl hx
        · exact .inr (.inr hx)
theorem asc_after {l : List Int} {t : Int} (h : Asc l) (hn : t ∉ l) (k : Nat) (hk : k ≤ l.length) (hst : ∀ hk : k < l.length, ¬ l[k] < t) : ∀ j (hj : j < l.length), k ≤ j → t < l[j] := by
  intro j hj hkj
  have hne : ∀ i (hi : i < l.length), l[i] ≠ t := fun i hi e => hn (e ▸ List.getElem_mem hi)
  have a := hst (by omega)
  have b := hne k (by omega)
  by_cases e : k = j
  · subst e; omega
  · have := List.pairwise_iff_getElem.1 h k j (by omega) hj (by omega)
    omega
end Go.Proofs.YtjokgiefnlpfkaaDoor

namespace Go.Proofs.YtjokgiefnlpfkaaDoor
open Go.Shelf
def Tryd.lays189_ren : Go.Shelf.Ren := ⟨fun | 189 => 46 | 125 => 73 | 257 => 72 | 128 => 106 | 129 => 107 | 294 => 97 | 295 => 98 | 296 => 99 | 297 => 100 | 298 => 101 | 299 => 102 | 216 => 103 | 300 => 104 | 301 => 105 | 328 => 119 | 329 => 120 | 330 => 121 | 331 => 122 | 332 => 123 | 215 => 124 | 343 => 130 | n => n, fun | 28 => 34 | 3 => 3 | 46 => 76 | 0 => 0 | 51 => 54 | 53 => 97 | 4 => 4 | 183 => 118 | 182 => 117 | 131 => 111 | 5 => 5 | 9 => 9 | 218 => 135 | 222 => 103 | 228 => 144 | 229 => 35 | n => n, fun | n => n⟩
theorem Tryd.lays189 : Go.Proofs.Lays.n189 Tryd.prog Tryd.lays189_ren := {
  mixed := by kernel_rfl
  f125 := Tryd.func73.trans (congrArg some (by kernel_rfl))
  f128 := Tryd.func106.trans (congrArg some (by kernel_rfl))
  f129 := Tryd.func107.trans (congrArg some (by kernel_rfl))
  f189 := Tryd.func46.trans (congrArg some (by kernel_rfl))
  f215 := Tryd.func124.trans (congrArg some (by kernel_rfl))
  f216 := Tryd.func103.trans (congrArg some (by kernel_rfl))
  f257 := Tryd.func72.trans (congrArg some (by kernel_rfl))
  f294 := Tryd.func97.trans (congrArg some (by kernel_rfl))
  f295 := Tryd.func98.trans (congrArg some (by kernel_rfl))
  f296 := Tryd.func99.trans (congrArg some (by kernel_rfl))
  f297 := Tryd.func100.trans (congrArg some (by kernel_rfl))
  f298 := Tryd.func101.trans (congrArg some (by kernel_rfl))
  f299 := Tryd.func102.trans (congrArg some (by kernel_rfl))
  f300 := Tryd.func104.trans (congrArg some (by kernel_rfl))
  f301 := Tryd.func105.trans (congrArg some (by kernel_rfl))
  f328 := Tryd.func119.trans (congrArg some (by kernel_rfl))
  f329 := Tryd.func120.trans (congrArg some (by kernel_rfl))
  f330 := Tryd.func121.trans (congrArg some (by kernel_rfl))
  f331 := Tryd.func122.trans (congrArg some (by kernel_rfl))
  f332 := Tryd.func123.trans (congrArg some (by kernel_rfl))
  f343 := Tryd.func130.trans (congrArg some (by kernel_rfl))
  t0 := Tryd.underlying0
  a0 := Tryd.isAgg0
  z0 := Tryd.sizeOf0
  v0 := Tryd.zeroValue0
  t3 := Tryd.underlying3
  a3 := Tryd.isAgg3
  z3 := Tryd.sizeOf3
  v3 := Tryd.zeroValue3
  t4 := Tryd.underlying4
  a4 := Tryd.isAgg4
  z4 := Tryd.sizeOf4
  v4 := Tryd.zeroValue4
  t5 := Tryd.underlying5
  a5 := Tryd.isAgg5
  z5 := Tryd.sizeOf5
  v5 := Tryd.zeroValue5
  t9 := Tryd.underlying9
  a9 := Tryd.isAgg9
  z9 := Tryd.sizeOf9
  v9 := Tryd.zeroValue9
  t28 := Tryd.underlying34
  a28 := Tryd.isAgg34
  z28 := Tryd.sizeOf34
  v28 := Tryd.zeroValue34
  t46 := Tryd.underlying76
  a46 := Tryd.isAgg76
  z46 := Tryd.sizeOf76
  v46 := Tryd.zeroValue76
  t51 := Tryd.underlying54
  a51 := Tryd.isAgg54
  z51 := Tryd.sizeOf54
  v51 := Tryd.zeroValue54
  t53 := Tryd.underlying97
  a53 := Tryd.isAgg97
  z53 := Tryd.sizeOf97
  v53 := Tryd.zeroValue97
  t131 := Tryd.underlying111
  a131 := Tryd.isAgg111
  z131 := Tryd.sizeOf111
  v131 := Tryd.zeroValue111
  t182 := Tryd.underlying117
  a182 := Tryd.isAgg117
  z182 := Tryd.sizeOf117
  v182 := Tryd.zeroValue117
  t183 := Tryd.underlying118
  a183 := Tryd.isAgg118
  z183 := Tryd.sizeOf118
  v183 := Tryd.zeroValue118
  t218 := Tryd.underlying135
  a218 := Tryd.isAgg135
  z218 := Tryd.sizeOf135
  v218 := Tryd.zeroValue135
  t222 := Tryd.underlying103
  a222 := Tryd.isAgg103
  z222 := Tryd.sizeOf103
  v222 := Tryd.zeroValue103
  t228 := Tryd.underlying144
  a228 := Tryd.isAgg144
  z228 := Tryd.sizeOf144
  v228 := Tryd.zeroValue144
  t229 := Tryd.underlying35
  a229 := Tryd.isAgg35
  z229 := Tryd.sizeOf35
  v229 := Tryd.zeroValue35 }
open Go.Sort Go.RowKit in
theorem Tryd.slices_Sort_int (blk off cap : Nat) (zs : List Int) (w : World) (hH : Holds (Value.int .i64) w blk off zs.toArray) (hblk : blk < w.heap.size) (hsz : zs.length < 4611686018427387904) :
    Calls Tryd.prog 46 #[.slice (some ⟨blk, off, none⟩) zs.length cap] w fun e w' =>
      e = .returned (.tuple #[]) ∧ ∃ n os, w' = grow (putRow (Value.int .i64) (Sort.ahead w n) blk off (zs.mergeSort fun x y => decide (x ≤ y)).toArray) os := Any.slices_Sort_int Tryd.lays189 blk off cap zs w hH hblk hsz
def Tryd.laysNm220_ren : Go.Shelf.Ren := ⟨fun | 20 => 47 | n => n, fun | 22 => 34 | 3 => 3 | 4 => 4 | 0 => 0 | n => n, fun | n => n⟩
theorem Tryd.laysNm220 : Go.Proofs.Lays2.n20 Tryd.prog Tryd.laysNm220_ren := {
  mixed := by kernel_rfl
  f20 := Tryd.func47.trans (congrArg some (by kernel_rfl))
  t0 := Tryd.underlying0
  a0 := Tryd.isAgg0
  z0 := Tryd.sizeOf0
  v0 := Tryd.zeroValue0
  t3 := Tryd.underlying3
  a3 := Tryd.isAgg3
  z3 := Tryd.sizeOf3
  v3 := Tryd.zeroValue3
  t4 := Tryd.underlying4
  a4 := Tryd.isAgg4
  z4 := Tryd.sizeOf4
  v4 := Tryd.zeroValue4
  t22 := Tryd.underlying34
  a22 := Tryd.isAgg34
  z22 := Tryd.sizeOf34
  v22 := Tryd.zeroValue34
  i3 := by kernel_rfl }
open Go.RowKit Go.Lib Go.Sort in
theorem Tryd.slices_Compact_int (blk off cap : Nat) (zs : List Int) (w : World) (hH : Holds (Value.int .i64) w blk off zs.toArray) (hsz : zs.length ≤ 9223372036854775807) (hcap : zs.length ≤ cap) :
    Calls Tryd.prog 47 #[.slice (some ⟨blk, off, none⟩) zs.length cap] w fun e w' => e = .returned (.slice (some ⟨blk, off, none⟩) (Lib.compact zs).length cap) ∧ ∃ q, w' = putRow (Value.int .i64) (Sort.ahead w q) blk off (Lib.compact zs ++ List.replicate (zs.length - (Lib.compact zs).length) 0).toArray := Any.slices_Compact_int Tryd.laysNm220 blk off cap zs w hH hsz hcap
open Go.RowKit Go.Lib Go.Sort in
theorem Tryd.slices_Compact_int_empty (a : Option Addr) (cap : Nat) (w : World) :
    Calls Tryd.prog 47 #[.slice a 0 cap] w fun e w' => e = .returned (.slice a 0 cap) ∧ w' = w := Any.slices_Compact_int_empty Tryd.laysNm220 a cap w
open Go.RowKit Go.Sort in
theorem Tryd.slices_Sort_int_none (p : Option Addr) (cap : Nat) (w : World) :
    Calls Tryd.prog 46 #[.slice p 0 cap] w fun e w' => e = .returned (.tuple #[]) ∧ w' = w := Any.slices_Sort_int_none Tryd.lays189 p cap w
end Go.Proofs.YtjokgiefnlpfkaaDoor

namespace Go.Proofs.YtjokgiefnlpfkaaDoor
open Go Go.RowKit Go.Sort
set_option linter.unusedVariables false

/-- A list of n ints of the call's own. -/
def OwnI (w : World) (B : Nat) (p : Option Addr) (n : Nat) (R : Nat → Int) : Prop := n = 0 ∨ ∃ g, p = some ⟨g, 0, none⟩ ∧ B ≤ g ∧ g < w.heap.size ∧ Flat w g 0 n R
theorem OwnI.below {w w' : World} {B : Nat} {p : Option Addr} {n : Nat} {R : Nat → Int} (h : OwnI w B p n R) (hb : Below w.heap.size w w') : OwnI w' B p n R := by
  rcases h with h | ⟨g, h1, h2, h3, h4⟩
  · exact .inl h
  · exact .inr ⟨g, h1, h2, Nat.lt_of_lt_of_le h3 hb.size, h4.below hb h3⟩
theorem OwnI.row {w : World} {B : Nat} {p : Option Addr} {n : Nat} {R : Nat → Int} (h : OwnI w B p n R) : RowAt w p n R := by
  rcases h with h | ⟨g, h1, h2, h3, h4⟩
  · exact .inl h
  · exact .inr ⟨g, 0, h1, h3, h4.rd⟩
theorem ownI_of_row {w : World} {B e : Nat} {v : Value} {zs : List Int} (h : w.ownsRow B e 1 v zs.length (zs.map (Value.int .i64))) : ∃ p c, v = .slice p zs.length c ∧ zs.length ≤ c ∧ OwnI w B p zs.length (fun i => zs.getD i 0) := by
  rcases h.2 with ⟨rfl, h0⟩ | ⟨g, cap, cur, rfl, h1, h2, h3, h4, h5, h6⟩
  · exact ⟨none, 0, by rw [h0], by omega, .inl h0⟩
  · refine ⟨_, cap, rfl, h3, .inr ⟨g, rfl, h1, (Array.getElem?_eq_some_iff.1 h2).1, fun i hi => ?_⟩⟩
    rw [Nat.zero_add, cell_of_row w g i cur e (0, 0) h2]
    refine ⟨?_, frozen_of_row w g i cur e h2⟩
    have h7 : (cur.toList.take (zs.length * 1))[i]? = (zs.map (Value.int .i64))[i]? := by rw [h6]
    rw [List.getElem?_take, if_pos (by omega), Array.getElem?_toList] at h7
    rw [h7]
    simp [hi]
theorem holds_of_flat {w : World} {g : Nat} {zs : List Int} (h : Flat w g 0 zs.length (fun i => zs.getD i 0)) : Holds (Value.int .i64) w g 0 zs.toArray := by
  intro j hj
  have hj' : j < zs.length := by simpa using hj
  have := h j hj'
  rw [getElem!_pos zs.toArray j hj]
  simpa [hj'] using this
theorem flat_of_holds {w : World} {g n : Nat} {zs : List Int} (h : Holds (Value.int .i64) w g 0 zs.toArray) (hn : n ≤ zs.length) : Flat w g 0 n (fun i => zs.getD i 0) := by
  intro j hj
  have hj' : j < zs.length := by omega
  have := h j (by simpa using hj')
  rw [getElem!_pos zs.toArray j (by simpa using hj')] at this
  simpa [hj'] using this
theorem put_below (w : World) (q g : Nat) (d : Array Int) (hg : g < w.heap.size) : Below g w (putRow (Value.int .i64) (Sort.ahead w q) g 0 d) := by
  refine ⟨rfl, rfl, rfl, by rw [size_putRow]; exact Nat.le_refl _, fun k hk => ?_⟩
  show (w.heap.modify g _)[k]? = w.heap[k]?
  rw [Array.getElem?_modify, if_neg (by omega)]
theorem grow_below' {w w' : World} {B : Nat} (os : Array Obj) (h : Below B w w') (hB : B ≤ w'.heap.size) : Below B w (grow w' os) := by
  refine ⟨h.os, h.tape, h.output, by show _ ≤ (w'.heap ++ os).size; rw [Array.size_append]; have := h.size; omega, fun k hk => ?_⟩
  show (w'.heap ++ os)[k]? = _
  rw [Array.getElem?_append_left (by omega)]
  exact h.block k hk
theorem holds_grow {w : World} {os : Array Obj} {g : Nat} {d : Array Int} (hg : g < w.heap.size) (h : Holds (Value.int .i64) w g 0 d) : Holds (Value.int .i64) (grow w os) g 0 d := by
  intro j hj
  have := h j hj
  have hb : (grow w os).heap[g]? = w.heap[g]? := heap_grow_old w os hg
  refine ⟨(World.cell?_of_block hb).trans this.1, (World.frozen?_of_block hb).trans this.2⟩

theorem sortedC (p : Option Addr) (c : Nat) (zs : List Int) (B : Nat) (w : World) (h : OwnI w B p zs.length (fun i => zs.getD i 0)) (hl : zs.length ≤ 1000) :
    Calls Tryd.prog 46 #[.slice p zs.length c] w fun e w' => e = .returned (.tuple #[]) ∧ Below B w w' ∧ OwnI w' B p zs.length (fun i => (zs.mergeSort fun x y => decide (x ≤ y)).getD i 0) := by
  by_cases h0 : zs.length = 0
  · rw [h0]
    refine (Tryd.slices_Sort_int_none p c w).mono ?_
    rintro e w' ⟨rfl, rfl⟩
    exact ⟨rfl, Below.refl _ _, .inl rfl⟩
  rcases h with h | ⟨g, rfl, hB, hg, hf⟩
  · exact absurd h h0
  have hH := holds_of_flat hf
  refine (Tryd.slices_Sort_int g 0 c zs w hH hg (by omega)).mono ?_
  rintro e w' ⟨rfl, q, os, rfl⟩
  have hb := put_below w q g (zs.mergeSort fun x y => decide (x ≤ y)).toArray hg
  have hs : g < (putRow (Value.int .i64) (Sort.ahead w q) g 0 (zs.mergeSort fun x y => decide (x ≤ y)).toArray).heap.size := by rw [size_putRow]; exact hg
  have h1 := holds_putRow (Value.int .i64) (Sort.ahead w q) g 0 zs.toArray (zs.mergeSort fun x y => decide (x ≤ y)).toArray hH (by simp)
  refine ⟨rfl, (grow_below' os hb (Nat.le_of_lt hs)).mono hB, .inr ⟨g, rfl, hB, ?_, flat_of_holds (holds_grow hs h1) (by simp)⟩⟩
  show g < (_ ++ os).size
  rw [Array.size_append]
  omega

theorem compactC (p : Option Addr) (c : Nat) (zs : List Int) (B : Nat) (w : World) (hc : zs.length ≤ c) (h : OwnI w B p zs.length (fun i => zs.getD i 0)) (hl : zs.length ≤ 1000) :
    Calls Tryd.prog 47 #[.slice p zs.length c] w fun e w' => e = .returned (.slice p (Lib.compact zs).length c) ∧ Below B w w' ∧ OwnI w' B p (Lib.compact zs).length (fun i => (Lib.compact zs).getD i 0) := by
  have hle := Lib.compact_length_le zs
  by_cases h0 : zs.length = 0
  · have e0 : (Lib.compact zs).length = 0 := by omega
    rw [h0, e0]
    refine (Tryd.slices_Compact_int_empty p c w).mono ?_
    rintro e w' ⟨rfl, rfl⟩
    exact ⟨rfl, Below.refl _ _, .inl rfl⟩
  rcases h with h | ⟨g, rfl, hB, hg, hf⟩
  · exact absurd h h0
  have hH := holds_of_flat hf
  refine (Tryd.slices_Compact_int g 0 c zs w hH (by omega) hc).mono ?_
  rintro e w' ⟨rfl, q, rfl⟩
  have h1 := holds_putRow (Value.int .i64) (Sort.ahead w q) g 0 zs.toArray (Lib.compact zs ++ List.replicate (zs.length - (Lib.compact zs).length) 0).toArray hH (by simp; omega)
  have h2 := flat_of_holds (n := (Lib.compact zs).length) h1 (by simp)
  refine ⟨rfl, (put_below w q g _ hg).mono hB, .inr ⟨g, rfl, hB, by rw [size_putRow]; exact hg, h2.congr fun i hi => ?_⟩⟩
  show (Lib.compact zs ++ List.replicate (zs.length - (Lib.compact zs).length) 0).getD i 0 = _
  simp [List.getD, List.getElem?_append, hi]

/-- What is called, of the first m instructions, in their order. -/
def isCl (R : Nat → Int) (i : Nat) : Bool := decide (R (i * 5) = 3 ∧ R (i * 5 + 1) = 1)
def clT (R : Nat → Int) (a : Int) (i : Nat) : Int := a + 4 * (i : Int) + R (i * 5 + 4)
def clU (R : Nat → Int) (a : Int) (m : Nat) : List Int := ((List.range m).filter (isCl R)).map (clT R a)
theorem clU_succ (R : Nat → Int) (a : Int) (m : Nat) : clU R a (m + 1) = clU R a m ++ (if isCl R m = true then [clT R a m] else []) := by
  unfold clU
  rw [List.range_succ, List.filter_append, List.map_append]
  congr 1
  by_cases h : isCl R m = true <;> simp [h]
theorem clU_len (R : Nat → Int) (a : Int) (m : Nat) : (clU R a m).length ≤ m := by
  unfold clU
  rw [List.length_map]
  exact Nat.le_trans (List.length_filter_le _ _) (by simp)

/-- An answer of a list of ints and a code. -/
def RowAns (B : Nat) (zs : List Int) (y : Int) (w : World) (e : Ending) (w' : World) : Prop := (∃ p c, e = .returned (.tuple #[.slice p zs.length c, .int .i64 y]) ∧ OwnI w' B p zs.length (fun i => zs.getD i 0)) ∧ Below w.heap.size w w'
end Go.Proofs.YtjokgiefnlpfkaaDoor

namespace Go.Proofs.YtjokgiefnlpfkaaDoor
open Go Go.RowKit Go.Sort
set_option linter.unusedVariables false

theorem callsImplLong (s : ByteArray) (a : Int) (w : World) (hs : s.size ≤ maxLen) (h : 65536 < s.size) :
    Calls Tryd.prog 22 #[.string s, .int .i64 a] w fun e w' => RowAns w.heap.size [] 2 w e w' := by
  unfold maxLen at hs
  go_enter Tryd.func22, Tryd.ntmps22
  go_wp2
  go_ret2
  exact ⟨⟨_, _, rfl, .inl rfl⟩, Below.refl _ _⟩
theorem callsImplPlace (s : ByteArray) (a : Int) (w : World) (hs : s.size ≤ 65536) (ha : (Lit.int .i64 a).wf = true) (h : plB a = false) :
    Calls Tryd.prog 22 #[.string s, .int .i64 a] w fun e w' => RowAns w.heap.size [] 4 w e w' := by
  go_enter Tryd.func22, Tryd.ntmps22
  go_wp2_with (go_at_call 43; refine (placeC a _ ha).mono ?_; rintro e w' ⟨rfl, rfl⟩; rw [h])
  go_ret2
  exact ⟨⟨_, _, rfl, .inl rfl⟩, Below.refl _ _⟩
theorem callsImplNo (s : ByteArray) (a : Int) (n : Nat) (x y : Int) (R : Nat → Int) (w : World) (hs : s.size ≤ 65536) (ha : (Lit.int .i64 a).wf = true) (h : plB a = true) (hy : y ≠ 0) (hi : Calls Tryd.prog 14 #[.string s] w fun e w' => ListAns w.heap.size n x y R w e w') :
    Calls Tryd.prog 22 #[.string s, .int .i64 a] w fun e w' => RowAns w.heap.size [] y w e w' := by
  have hb : (y == 0) = false := by simpa using hy
  go_enter Tryd.func22, Tryd.ntmps22
  go_wp2_with (first | (go_at_call 43; refine (placeC a _ ha).mono ?_; rintro e w' ⟨rfl, rfl⟩; rw [h]) | (go_at_call 14; refine hi.mono ?_; rintro e w' ⟨⟨p, c, rfl, ho⟩, hb1⟩))
  go_ret2
  exact ⟨⟨_, _, rfl, .inl rfl⟩, hb1⟩

theorem sortC_of {zs ys us : List Int} (hys : (zs.mergeSort fun x y => decide (x ≤ y)) = ys) (h : sortC zs = us) : Lib.compact ys = us := by
  unfold sortC at h
  rw [hys] at h
  exact h
theorem isCl_yes {R : Nat → Int} {i : Nat} (h : isCl R i = true) : R (i * 5) = 3 ∧ R (i * 5 + 1) = 1 := of_decide_eq_true h
set_option maxRecDepth 100000 in
set_option maxHeartbeats 8000000 in
theorem callsImplYes (s : ByteArray) (a : Int) (N : Nat) (R : Nat → Int) (w : World) (hs : s.size ≤ 65536) (ha : (Lit.int .i64 a).wf = true) (h : plB a = true) (hN : N ≤ 64) (hsm : ∀ i, i < N → Small5 R i) (hi : Calls Tryd.prog 14 #[.string s] w fun e w' => ListAns w.heap.size N 0 0 R w e w') :
    Calls Tryd.prog 22 #[.string s, .int .i64 a] w fun e w' => RowAns w.heap.size (sortC (clU R a N)) 0 w e w' := by
  obtain ⟨i0, hi0, hz0, hz1, hz2⟩ := info_parts Tryd.info_int5
  have a01 : 0 ≤ a ∧ a ≤ 1048575 := by simp [plB] at h; omega
  obtain ⟨a0, a1⟩ := a01
  obtain ⟨us, hus⟩ : ∃ us, sortC (clU R a N) = us := ⟨_, rfl⟩
  rw [hus]
  have HU : Hid (sortC (clU R a N) = us) := hus
  clear hus
  go_enter Tryd.func22, Tryd.ntmps22
  go_wp2_with (first | (go_at_call 43; refine (placeC a _ ha).mono ?_; rintro e w' ⟨rfl, rfl⟩; rw [h]) | (go_at_call 14; refine hi.mono ?_; rintro e w1 ⟨⟨p, c, rfl, ho⟩, hb1⟩))
  have hL := ho.list
  have HB : Hid (Below w'.heap.size w' w1) := hb1
  clear ho hb1 hi
  go_loopw [9, 31] (fun v i wr => ∃ k : Nat, k ≤ N ∧ i = .int .i64 k ∧ wr.ownsRow w1.heap.size 3 1 v (clU R a k).length ((clU R a k).map (Value.int .i64)) ∧ Below w1.heap.size w1 wr) (fun _ i _ => N - (intOf i).toNat)
  case atStart => exact ⟨0, Nat.zero_le _, rfl, World.ownsRow_nil _ _ _ _, Below.refl _ _⟩
  case round =>
    obtain ⟨k, hk, rfl, hown, hB⟩ := hrel
    by_cases hlt : k < N
    · rcases hL with hL | ⟨b, o, rfl, hb, hL⟩
      · omega
      have hs5 := hsm k hlt
      have hx := hL.below hB hb
      obtain ⟨x0, x1, x2, x3, x4⟩ := hx.five hlt
      obtain ⟨r0, e0⟩ : ∃ r, R (k * 5) = r := ⟨_, rfl⟩
      obtain ⟨r1, e1⟩ : ∃ r, R (k * 5 + 1) = r := ⟨_, rfl⟩
      obtain ⟨r2, e2⟩ : ∃ r, R (k * 5 + 2) = r := ⟨_, rfl⟩
      obtain ⟨r3, e3⟩ : ∃ r, R (k * 5 + 3) = r := ⟨_, rfl⟩
      obtain ⟨r4, e4⟩ : ∃ r, R (k * 5 + 4) = r := ⟨_, rfl⟩
      have j0 := hs5.i0
      have j1 := hs5.i1
      rw [e0] at x0
      rw [e1] at x1
      rw [e2] at x2
      rw [e3] at x3
      rw [e4] at x4 j0 j1
      have hsz := hB.size
      have bA : Below wr.heap.size wr (wr.alloc (.cells #[.int .i64 r0, .int .i64 r1, .int .i64 r2, .int .i64 r3, .int .i64 r4] 47)) := grown1 _ _
      have hown1 := row_below hown bA
      have hB1 := hB.trans (bA.mono hsz)
      have y0 : (wr.alloc (.cells #[.int .i64 r0, .int .i64 r1, .int .i64 r2, .int .i64 r3, .int .i64 r4] 47)).cell? ⟨wr.heap.size, 0, none⟩ = some (.int .i64 r0) := by simp
      have y1 : (wr.alloc (.cells #[.int .i64 r0, .int .i64 r1, .int .i64 r2, .int .i64 r3, .int .i64 r4] 47)).cell? ⟨wr.heap.size, 1, none⟩ = some (.int .i64 r1) := by simp
      have y2 : (wr.alloc (.cells #[.int .i64 r0, .int .i64 r1, .int .i64 r2, .int .i64 r3, .int .i64 r4] 47)).cell? ⟨wr.heap.size, 2, none⟩ = some (.int .i64 r2) := by simp
      have y3 : (wr.alloc (.cells #[.int .i64 r0, .int .i64 r1, .int .i64 r2, .int .i64 r3, .int .i64 r4] 47)).cell? ⟨wr.heap.size, 3, none⟩ = some (.int .i64 r3) := by simp
      have y4 : (wr.alloc (.cells #[.int .i64 r0, .int .i64 r1, .int .i64 r2, .int .i64 r3, .int .i64 r4] 47)).cell? ⟨wr.heap.size, 4, none⟩ = some (.int .i64 r4) := by simp
      have ly : wr.heap.size < (wr.alloc (.cells #[.int .i64 r0, .int .i64 r1, .int .i64 r2, .int .i64 r3, .int .i64 r4] 47)).heap.size := by simp
      clear hL hx hown hB
      by_cases hc : isCl R k = true
      · obtain ⟨rfl, rfl⟩ : r0 = 3 ∧ r1 = 1 := by rw [← e0, ← e1]; exact isCl_yes hc
        have eT : clT R a k = a + 4 * (k : Int) + r4 := by unfold clT; rw [e4]
        have eU : clU R a (k + 1) = clU R a k ++ [a + 4 * (k : Int) + r4] := by rw [clU_succ, if_pos hc, eT]
        have hlen := clU_len R a k
        clear e0 e1 e2 e3 e4
        go_wp2_with fail
        refine (isCallYes _ _ _ _ _ _ ⟨rfl, rfl⟩).mono ?_
        rintro e w2 ⟨rfl, hb2⟩
        have hown2 := row_below hown1 hb2
        have hB2 := hB1.trans (hb2.mono (by simp; omega))
        have z0 := (hb2.cell (p := ⟨wr.heap.size, 0, none⟩) ly).trans y0
        have z1 := (hb2.cell (p := ⟨wr.heap.size, 1, none⟩) ly).trans y1
        have z2 := (hb2.cell (p := ⟨wr.heap.size, 2, none⟩) ly).trans y2
        have z3 := (hb2.cell (p := ⟨wr.heap.size, 3, none⟩) ly).trans y3
        have z4 := (hb2.cell (p := ⟨wr.heap.size, 4, none⟩) ly).trans y4
        have lz := Nat.lt_of_lt_of_le ly hb2.size
        clear hown1 hB1 hb2 y0 y1 y2 y3 y4
        go_wp2_with fail
        refine (targetC a k _ _ _ _ _ _ a0 a1 (by omega) j0 j1).mono ?_
        rintro e w3 ⟨rfl, hb3⟩
        have hown3 := row_below hown2 hb3
        have hB3 := hB2.trans (hb3.mono (by have := hB2.size; omega))
        have s3 := hB3.size
        clear hown2 hB2 hb3 z0 z1 z2 z3 z4
        go_wp2_with (at_builtin; refine wpList_append_own_at _ rfl _ _ 34 rfl w1.heap.size 3 i0 _ 1 8 Tryd.underlying34 hi0 hz0 hz1 hz2 rfl (by decide) _ _ _ rfl (hown3.alloc _) ⟨w3.heap.size, 0, none⟩ 1 1 [.int .i64 (a + 4 * (k : Int) + r4)] rfl rfl (World.news_of_block (cs := #[.int .i64 (a + 4 * (k : Int) + r4)]) (t := 3) (fr := (0, 0)) (heap_alloc_new w3 _)) (by simp [Value.oneCell']) (by unfold maxLen; omega) (by omega) (by simp; omega) ?_; intro v' w4 hown4 hg4 hn4 hat4)
        go_roundw
        case rel =>
          refine ⟨k + 1, by omega, by go_num, ?_, (hB3.alloc s3 _).grown hg4 (by simp; omega) (fun i e => (hown3.lt i e).1)⟩
          rw [eU, List.length_append, List.map_append]
          exact hown4
        case measure => simp [intOf]; omega
      · have hcn : ¬ (r0 = 3 ∧ r1 = 1) := by rw [← e0, ← e1]; exact fun hh => hc (decide_eq_true hh)
        have eU : clU R a (k + 1) = clU R a k := by rw [clU_succ, if_neg hc, List.append_nil]
        clear e0 e1 e2 e3 e4
        go_wp2_with fail
        refine (isCallNo _ _ _ _ _ _ hcn).mono ?_
        rintro e w2 ⟨rfl, hb2⟩
        have hown2 := row_below hown1 hb2
        have hB2 := hB1.trans (hb2.mono (by simp; omega))
        clear hown1 hB1 hb2 y0 y1 y2 y3 y4
        go_wp2_with fail
        go_roundw
        case rel => exact ⟨k + 1, by omega, by go_num, by rw [eU]; exact hown2, hB2⟩
        case measure => simp [intOf]; omega
    · obtain rfl : k = N := by omega
      have hlen := clU_len R a k
      have hsz := hB.size
      obtain ⟨p9, c9, rfl, hc9, ho⟩ := ownI_of_row hown
      obtain ⟨zs, hzs⟩ : ∃ zs, clU R a k = zs := ⟨_, rfl⟩
      rw [hzs] at ho hc9 hlen ⊢
      clear hown
      have srt := fun w' (h : OwnI w' w1.heap.size p9 zs.length (fun i => zs.getD i 0)) => sortedC p9 c9 zs w1.heap.size w' h (by omega)
      obtain ⟨ys, hys⟩ : ∃ ys, (zs.mergeSort fun x y => decide (x ≤ y)) = ys := ⟨_, rfl⟩
      have hl : zs.length = ys.length := by rw [← hys, List.length_mergeSort]
      rw [hys] at srt
      have cmp := fun w' (h : OwnI w' w1.heap.size p9 ys.length (fun i => ys.getD i 0)) => compactC p9 c9 ys w1.heap.size w' (by omega) h (by omega)
      rw [← hl] at cmp
      have hus : Lib.compact ys = us := sortC_of hys (by rw [← hzs]; exact HU.out)
      rw [hus] at cmp
      obtain ⟨n, hn⟩ : ∃ n, zs.length = n := ⟨_, rfl⟩
      rw [hn] at srt cmp ho hc9 ⊢
      clear hys hus hl hzs hlen HU hn hL hsm hsz hk hN h hi0 hz0 hz1 hz2
      have HS : Hid (_) := srt
      have HC : Hid (_) := cmp
      clear srt cmp
      go_wp2_with fail
      refine (HS.out _ ho).mono ?_
      rintro e w2 ⟨rfl, hb2, ho2⟩
      have HB2 := hB.trans hb2
      clear ho hb2 HS
      go_wp2_with fail
      refine (HC.out _ ho2).mono ?_
      rintro e w3 ⟨rfl, hb3, ho3⟩
      have HB3 := HB2.trans hb3
      clear ho2 hb3 HC HB2
      go_wp2_with fail
      go_ret2
      refine ⟨⟨_, _, rfl, ?_⟩, HB.out.trans (HB3.mono HB.out.size)⟩
      rcases ho3 with e | ⟨g, e1, e2, e3, e4⟩
      · exact .inl e
      · exact .inr ⟨g, e1, Nat.le_trans HB.out.size e2, e3, e4⟩
end Go.Proofs.YtjokgiefnlpfkaaDoor

namespace Go.Proofs.YtjokgiefnlpfkaaDoor
open Go Go.RowKit Go.Sort
set_option linter.unusedVariables false

theorem row_cut {w : World} {B e g n k cap : Nat} {xs : List Value} (h : w.ownsRow B e 1 (.slice (some ⟨g, 0, none⟩) n cap) n xs) (hk : k ≤ n) : w.ownsRow B e 1 (.slice (some ⟨g, 0, none⟩) k cap) k (xs.take k) := by
  have hl := h.1
  rcases h.2 with ⟨hv, _⟩ | ⟨g', cap', cur, hv, h1, h2, h3, h4, h5, h6⟩
  · cases hv
  · obtain ⟨rfl, rfl⟩ : g = g' ∧ cap = cap' := by simpa using hv
    refine ⟨by rw [List.length_take]; omega, .inr ⟨g, cap, cur, rfl, h1, h2, by omega, h4, h5, ?_⟩⟩
    rw [← h6, List.take_take]
    congr 1
    omega
theorem row_form {w : World} {B e n : Nat} {v : Value} {xs : List Value} (h : w.ownsRow B e 1 v n xs) (hv : v ≠ .slice none 0 0) : ∃ g cap, v = .slice (some ⟨g, 0, none⟩) n cap ∧ n ≤ cap ∧ g < w.heap.size := by
  rcases h.2 with ⟨hv', _⟩ | ⟨g, cap, cur, hv', h1, h2, h3, h4⟩
  · exact absurd hv' hv
  · exact ⟨g, cap, hv', h3, (Array.getElem?_eq_some_iff.1 h2).1⟩

theorem news_drop {w : World} {B e g n cap m : Nat} {xs : List Value} (h : w.ownsRow B e 1 (.slice (some ⟨g, 0, none⟩) n cap) n xs) : ∀ j u, (xs.drop m)[j]? = some u → w.cell? ((⟨g, m, none⟩ : Addr).add j) = some u := by
  intro j u hu
  have hadd : (⟨g, m, none⟩ : Addr).add j = ⟨g, m + j, none⟩ := by unfold Addr.add; split <;> simp_all
  have hadd0 : (⟨g, 0, none⟩ : Addr).add (m + j) = ⟨g, m + j, none⟩ := by unfold Addr.add; split <;> simp_all
  rw [List.getElem?_drop] at hu
  rw [hadd, ← hadd0]
  exact h.cells (g := g) rfl _ _ hu
theorem one_cells (l : List Int) : ∀ u ∈ l.map (Value.int .i64), u.oneCell' = true := by
  intro u hu
  obtain ⟨x, _, rfl⟩ := List.mem_map.1 hu
  rfl

set_option maxRecDepth 100000 in
set_option maxHeartbeats 8000000 in
theorem specCallsL (p : Option Addr) (N c : Nat) (a : Int) (R : Nat → Int) (w : World) (hN : N ≤ 64) (a0 : 0 ≤ a) (a1 : a ≤ 1048575) (hsm : ∀ i, i < N → Small5 R i) (hL : ListAt w p N R) :
    Calls Tryd.prog 42 #[.slice p N c, .int .i64 a] w fun e w' => (∃ q d, e = .returned (.slice q (sortC (clU R a N)).length d) ∧ OwnI w' w.heap.size q (sortC (clU R a N)).length (fun i => (sortC (clU R a N)).getD i 0)) ∧ Below w.heap.size w w' := by
  obtain ⟨i0, hi0, hz0, hz1, hz2⟩ := info_parts Tryd.info_int5
  obtain ⟨us, hus⟩ : ∃ us, sortC (clU R a N) = us := ⟨_, rfl⟩
  rw [hus]
  have HU : Hid (sortC (clU R a N) = us) := hus
  clear hus
  go_enter Tryd.func42, Tryd.ntmps42
  go_wp2_with fail
  go_loopw [5, 6] (fun v i wr => ∃ k : Nat, k ≤ N ∧ i = .int .i64 k ∧ (∃ (L : List Int) (g cap : Nat), v = .slice (some ⟨g, 0, none⟩) L.length cap ∧ wr.ownsRow w.heap.size 3 1 (.slice (some ⟨g, 0, none⟩) L.length cap) L.length (L.map (Value.int .i64)) ∧ Asc L ∧ (∀ x, x ∈ L ↔ x ∈ clU R a k) ∧ L.length ≤ k) ∧ Below w.heap.size w wr) (fun _ i _ => N - (intOf i).toNat)
  case atStart => exact ⟨0, Nat.zero_le _, rfl, ⟨[], w.heap.size, 0, rfl, World.ownsRow_made w #[] 0 (Nat.le_refl _) (Nat.zero_le _) rfl, List.Pairwise.nil, fun x => by simp [clU], Nat.le_refl _⟩, (Below.refl _ _).alloc (Nat.le_refl _) _⟩
  case round =>
    obtain ⟨k, hk, rfl, ⟨L, g, cap, rfl, hown, hasc, hmem, hlen⟩, hB⟩ := hrel
    by_cases hlt : k < N
    · rcases hL with hL | ⟨b, o, rfl, hb, hL⟩
      · omega
      have hs5 := hsm k hlt
      have hx := hL.below hB hb
      obtain ⟨x0, x1, x2, x3, x4⟩ := hx.five hlt
      obtain ⟨r0, e0⟩ : ∃ r, R (k * 5) = r := ⟨_, rfl⟩
      obtain ⟨r1, e1⟩ : ∃ r, R (k * 5 + 1) = r := ⟨_, rfl⟩
      obtain ⟨r4, e4⟩ : ∃ r, R (k * 5 + 4) = r := ⟨_, rfl⟩
      have j0 := hs5.i0
      have j1 := hs5.i1
      rw [e0] at x0
      rw [e1] at x1
      rw [e4] at x4 j0 j1
      have hsz := hB.size
      clear hL hx x2 x3
      by_cases hc : isCl R k = true
      · obtain ⟨rfl, rfl⟩ : r0 = 3 ∧ r1 = 1 := by rw [← e0, ← e1]; exact isCl_yes hc
        obtain ⟨t, ht⟩ : ∃ t, a + 4 * (k : Int) + r4 = t := ⟨_, rfl⟩
        have eT : clT R a k = t := by unfold clT; rw [e4]; exact ht
        have eU : ∀ x, x ∈ clU R a (k + 1) ↔ x ∈ L ∨ x = t := fun x => by rw [clU_succ, if_pos hc, eT, List.mem_append, hmem]; simp
        have tb : -3000000000 ≤ t ∧ t ≤ 3000000000 := by omega
        obtain ⟨p9, c9, hv9, hc9, ho9⟩ := ownI_of_row hown
        obtain ⟨rfl, rfl⟩ : p9 = some ⟨g, 0, none⟩ ∧ cap = c9 := by simpa [eq_comm] using hv9
        have hia : IntsAt _ (some ⟨g, 0, none⟩) L := ho9.row
        have hcap : cap ≤ maxLen := by
          rcases hown.2 with ⟨hv, _⟩ | ⟨g', cap', cur, hv, h1, h2, h3, h4, h5, h6⟩
          · cases hv
          · obtain ⟨rfl, rfl⟩ : g = g' ∧ cap = cap' := by simpa using hv
            exact h4
        have has := fun w' h => hasIntC (some ⟨g, 0, none⟩) cap L t w' (by omega) h
        obtain ⟨n, hn⟩ : ∃ n, L.length = n := ⟨_, rfl⟩
        clear e0 e1 e4 hv9 hc hmem hsm
        by_cases hin : t ∈ L
        · have hbt : hasB L t = true := by unfold hasB; simpa using hin
          rw [hbt] at has
          rw [hn] at has hown hc9 hlen ⊢
          go_wp2_with fail
          refine (has _ hia).mono ?_
          rintro e w2 ⟨rfl, rfl⟩
          go_wp2_with fail
          go_roundw
          case rel => exact ⟨k + 1, by omega, by go_num, ⟨L, g, cap, by rw [hn], by rw [hn]; exact hown, hasc, fun x => by
            rw [eU]
            constructor
            · exact .inl
            · rintro (h | rfl)
              · exact h
              · exact hin, by omega⟩, hB⟩
          case measure => simp [intOf]; omega
        · have hbt : hasB L t = false := by
            unfold hasB
            simpa using hin
          rw [hbt] at has
          rw [hn] at has hown hc9 hlen ⊢
          go_wp2_with fail
          refine (has _ hia).mono ?_
          rintro e w2 ⟨rfl, rfl⟩
          clear has hbt
          go_wp2_with fail
          obtain ⟨W1, rfl⟩ : ∃ W1, W1 = w2 := ⟨_, rfl⟩
          go_loop [8] (fun i => ∃ m : Nat, m ≤ n ∧ i = .int .i64 m ∧ ∀ j (hj : j < L.length), j < m → L[j] < t) (fun i => n - (intOf i).toNat)
          case atStart => exact ⟨0, Nat.zero_le _, rfl, fun j hj h => by omega⟩
          case round =>
            obtain ⟨m, hm, rfl, hbef⟩ := hrel
            by_cases hgo : ∃ hmn : m < L.length, L[m] < t
            · obtain ⟨hmn, hlt2⟩ := hgo
              have hmn' : m < n := by omega
              have z0 : W1.cell? ⟨g, m, none⟩ = some (.int .i64 L[m]) := by
                rcases hia with h | ⟨b', o', h1, h2, h3⟩
                · omega
                · obtain ⟨rfl, rfl⟩ : g = b' ∧ o' = 0 := by simpa [eq_comm] using h1
                  have := h3 m hmn
                  simpa [hmn] using this
              obtain ⟨z, hz⟩ : ∃ z, L[m] = z := ⟨_, rfl⟩
              rw [hz] at z0 hlt2
              have HZ : Hid (_ = z) := hz
              clear hz
              go_wp2_with fail
              go_roundw
              case rel => exact ⟨m + 1, by omega, by go_num, fun j hj h => by
                rcases Nat.lt_succ_iff_lt_or_eq.1 h with h' | rfl
                · exact hbef j hj h'
                · rw [HZ.out]; exact hlt2⟩
              case measure => simp [intOf]; omega
            · have haft := asc_after hasc hin m (by omega) (fun h1 h2 => hgo ⟨h1, h2⟩)
              obtain ⟨pA, pM⟩ := asc_put m hasc hbef haft
              have key : (m < n ∧ ∃ z, W1.cell? ⟨g, m, none⟩ = some (.int .i64 z) ∧ t ≤ z) ∨ n ≤ m := by
                by_cases hmn : m < n
                · have hmn' : m < L.length := by omega
                  refine .inl ⟨hmn, L[m], ?_, by have := haft m hmn' (Nat.le_refl _); omega⟩
                  rcases hia with h | ⟨b', o', h1, h2, h3⟩
                  · omega
                  · obtain ⟨rfl, rfl⟩ : g = b' ∧ o' = 0 := by simpa [eq_comm] using h1
                    have := h3 m hmn'
                    simpa [hmn'] using this
                · exact .inr (by omega)
              clear hgo haft hbef
              have hgl : g < W1.heap.size := (hown.lt g rfl).2
              have hnw := news_drop (m := m) (hown.alloc (.cells #[] 3))
              rw [← List.map_drop] at hnw
              have hn0 : n ≤ 64 := by omega
              have hD : Hid (∃ (q : Nat) (D : List Int), n - m = q ∧ L.drop m = D ∧ D.length = q) := ⟨n - m, L.drop m, rfl, rfl, by rw [List.length_drop, hn]⟩
              have nx : ∀ (wc : World) (v2 : Value) (w2 : World) (q : Nat) (D : List Int), D.length = q → True := fun _ _ _ _ _ _ => trivial
              clear nx
              rcases key with ⟨hmn, z, z0, hz⟩ | hmn
              rotate_left
              · obtain rfl : n = m := by omega
                have hd0 : L.drop n = [] := List.drop_eq_nil_of_le (by omega)
                have ht0 : L.take n = L := List.take_of_length_le (by omega)
                rw [hd0, ht0] at pA pM
                clear hnw hD
                have hownA := (hown.alloc (.cells #[] 3)).alloc (.cells #[.int .i64 t] 3)
                have hnews := cell_one_new (W1.alloc (.cells #[] 3)) (.int .i64 t) 3
                rw [World.size_alloc] at hnews
                by_cases hcm : cap = n
                · subst hcm
                  go_wp2_with (at_builtin; refine wpList_append_own_at _ rfl (.tmp 65) (.tmp 67) 34 rfl w.heap.size 3 i0 _ 1 8 Tryd.underlying34 hi0 hz0 hz1 hz2 rfl (by decide) (.slice (some ⟨g, 0, none⟩) cap cap) cap (L.map (Value.int .i64)) rfl hownA ⟨W1.heap.size + 1, 0, none⟩ 1 1 ([t].map (Value.int .i64)) rfl rfl hnews (one_cells _) (by unfold maxLen; omega) (by omega) (by simp; omega) ?_; intro v3 w3 hown3 hg3 hn3 hat3; obtain ⟨g3, cap3, rfl, hc3, hl3⟩ := row_form hown3 (fun e => by have := hn3.1 e; simp at this))
                  go_roundw
                  case rel => exact ⟨k + 1, by omega, by go_num, ⟨L ++ [t], g3, cap3, by rw [List.length_append, hn]; rfl, by rw [List.length_append, List.map_append, hn]; exact hown3, pA, fun x => by rw [pM, eU]; constructor <;> (rintro (h | h) <;> simp [h]), by rw [List.length_append, hn]; simp; omega⟩, ((hB.alloc hsz _).alloc (by simp; omega) _).grown hg3 (by simp; omega) (fun i e => (hown.lt i e).1)⟩
                  case measure => simp [intOf]; omega
                · skip
                  go_wp2_with (at_builtin; refine wpList_append_own_at _ rfl (.tmp 65) (.tmp 67) 34 rfl w.heap.size 3 i0 _ 1 8 Tryd.underlying34 hi0 hz0 hz1 hz2 rfl (by decide) (.slice (some ⟨g, 0, none⟩) n cap) n (L.map (Value.int .i64)) rfl hownA ⟨W1.heap.size + 1, 0, none⟩ 1 1 ([t].map (Value.int .i64)) rfl rfl hnews (one_cells _) (by unfold maxLen; omega) (by omega) (by simp; omega) ?_; intro v3 w3 hown3 hg3 hn3 hat3; obtain ⟨g3, cap3, rfl, hc3, hl3⟩ := row_form hown3 (fun e => by have := hn3.1 e; simp at this))
                  go_roundw
                  case rel => exact ⟨k + 1, by omega, by go_num, ⟨L ++ [t], g3, cap3, by rw [List.length_append, hn]; rfl, by rw [List.length_append, List.map_append, hn]; exact hown3, pA, fun x => by rw [pM, eU]; constructor <;> (rintro (h | h) <;> simp [h]), by rw [List.length_append, hn]; simp; omega⟩, ((hB.alloc hsz _).alloc (by simp; omega) _).grown hg3 (by simp; omega) (fun i e => (hown.lt i e).1)⟩
                  case measure => simp [intOf]; omega
              · clear hD
                go_wp2_with (first
                  | (at_builtin; refine wpList_append_own_at _ rfl (.tmp 58) (.tmp 61) 34 rfl w.heap.size 3 i0 _ 1 8 Tryd.underlying34 hi0 hz0 hz1 hz2 rfl (by decide) (.slice (some ⟨W1.heap.size, 0, none⟩) 0 0) 0 [] rfl (World.ownsRow_made W1 #[] 0 hsz (Nat.zero_le _) rfl) ⟨g, m, none⟩ (n - m) _ ((L.drop m).map (Value.int .i64)) rfl (by simp; omega) hnw (one_cells _) (by unfold maxLen; omega) (by omega) (by simp; omega) ?_; intro v2 w2 hown2 hg2 hn2 hat2; obtain ⟨g2, cap2, rfl, hc2, hl2⟩ := row_form hown2 (fun e => by have := hn2.1 e; simp at this); simp only [Nat.zero_add, List.nil_append] at hown2 hc2 ⊢; have hne2 : g2 ≠ g := (by rcases hat2 with h | h <;> simp [Value.ownBlock] at h <;> omega); have hownB := ((hown.alloc (.cells #[] 3)).kept hg2 (.inr (by simp [Value.ownBlock]; omega))); have B2 := (hB.alloc hsz (.cells #[] 3)).grown hg2 (by simp; omega) (fun i e => by have : i = W1.heap.size := (by simpa [Value.ownBlock, eq_comm] using e); omega); have s2 := B2.size; have hcut := (row_cut hownB (Nat.le_of_lt hmn)).alloc (.cells #[.int .i64 t] 3); have hsrc := hown2.alloc (.cells #[.int .i64 t] 3); have hnews := cell_one_new w2 (.int .i64 t) 3)
                  | (at_builtin; refine wpList_append_own_at _ rfl (.tmp 65) (.tmp 67) 34 rfl w.heap.size 3 i0 _ 1 8 Tryd.underlying34 hi0 hz0 hz1 hz2 rfl (by decide) (.slice (some ⟨g, 0, none⟩) m cap) m ((L.map (Value.int .i64)).take m) rfl hcut ⟨w2.heap.size, 0, none⟩ 1 1 ([t].map (Value.int .i64)) rfl rfl hnews (one_cells _) (by unfold maxLen; omega) (by omega) (by simp; omega) ?_; intro v3 w3 hown3 hg3 hn3 hat3; obtain ⟨g3, cap3, rfl, hc3, hl3⟩ := row_form hown3 (fun e => by have := hn3.1 e; simp at this); have hsrc3 := hsrc.kept hg3 (.inr (by simp [Value.ownBlock]; omega)); have B3 := (B2.alloc s2 (.cells #[.int .i64 t] 3)).grown hg3 (by simp; omega) (fun i e => (hown.lt i e).1); have s3 := B3.size)
                  | (at_builtin; refine wpList_append_own_at _ rfl (.tmp 68) (.tmp 69) 34 rfl w.heap.size 3 i0 _ 1 8 Tryd.underlying34 hi0 hz0 hz1 hz2 rfl (by decide) (.slice (some ⟨g3, 0, none⟩) (m + 1) cap3) (m + 1) _ rfl hown3 ⟨g2, 0, none⟩ (n - m) _ ((L.drop m).map (Value.int .i64)) rfl (by simp; omega) (hsrc3.cells (g := g2) rfl) (one_cells _) (by unfold maxLen; omega) (by omega) (by omega) ?_; intro v4 w4 hown4 hg4 hn4 hat4; obtain ⟨g4, cap4, rfl, hc4, hl4⟩ := row_form hown4 (fun e => by have := hn4.1 e; simp at this)))
                have hlen4 : (L.take m ++ t :: L.drop m).length = m + 1 + (n - m) := by
                  rw [List.length_append, List.length_cons, List.length_take, List.length_drop, hn]; omega
                have hown5 : w4.ownsRow w.heap.size 3 1 (.slice (some ⟨g4, 0, none⟩) (m + 1 + (n - m)) cap4) (m + 1 + (n - m)) ((L.take m ++ t :: L.drop m).map (Value.int .i64)) := by
                  have e : (L.take m ++ t :: L.drop m).map (Value.int .i64) = List.take m (List.map (Value.int IntKind.i64) L) ++ List.map (Value.int IntKind.i64) [t] ++ List.map (Value.int IntKind.i64) (List.drop m L) := by
                    rw [List.map_append, List.map_take]; simp
                  rw [e]; exact hown4
                have B4 := B3.grown hg4 (by omega) (fun i e => by
                  have h3 : g3 = i := by simpa [Value.ownBlock] using e
                  exact h3 ▸ (hown3.lt g3 rfl).1)
                refine ⟨⟨k + 1, by omega, by go_num, ⟨L.take m ++ t :: L.drop m, g4, cap4, by rw [hlen4], by rw [hlen4]; exact hown5, pA, fun x => by rw [pM, eU]; constructor <;> (rintro (h | h) <;> simp [h]), by rw [hlen4]; omega⟩, B4⟩, by simp [intOf]; omega⟩
      · have hcn : ¬ (r0 = 3 ∧ r1 = 1) := by rw [← e0, ← e1]; exact fun hh => hc (decide_eq_true hh)
        have eU : clU R a (k + 1) = clU R a k := by rw [clU_succ, if_neg hc, List.append_nil]
        clear e0 e1 e4 hc hsm
        by_cases h3 : r0 = 3
        · have h1 : (r1 == 1) = false := by simp; omega
          subst h3
          go_wp2_with fail
          go_roundw
          case rel => exact ⟨k + 1, by omega, by go_num, ⟨L, g, cap, rfl, hown, hasc, fun x => by rw [eU]; exact hmem x, by omega⟩, hB⟩
          case measure => simp [intOf]; omega
        · have h3b : (r0 == 3) = false := by simpa using h3
          go_wp2_with fail
          go_roundw
          case rel => exact ⟨k + 1, by omega, by go_num, ⟨L, g, cap, rfl, hown, hasc, fun x => by rw [eU]; exact hmem x, by omega⟩, hB⟩
          case measure => simp [intOf]; omega
    · obtain rfl : k = N := by omega
      have hLu : L = us := by
        rw [← HU.out]
        obtain ⟨s1, s2⟩ := sortC_asc (clU R a k)
        exact asc_ext hasc s1 (fun x => (hmem x).trans (s2 x).symm)
      subst hLu
      obtain ⟨p9, c9, hv9, hc9, ho9⟩ := ownI_of_row hown
      obtain ⟨n, hn⟩ : ∃ n, L.length = n := ⟨_, rfl⟩
      have HO : Hid (OwnI _ _ p9 L.length _) := ho9
      have HV : Hid (_ = Value.slice p9 L.length c9) := hv9
      clear ho9 hv9 hown hmem hasc hsm hc9
      rw [hn]
      go_wp2_with fail
      go_ret
      refine ⟨⟨p9, c9, ?_, HO.out⟩, hB⟩
      rw [← HV.out, hn]
      rfl
end Go.Proofs.YtjokgiefnlpfkaaDoor

namespace Go.Proofs.YtjokgiefnlpfkaaDoor
open Go Go.RowKit Go.Sort
set_option linter.unusedVariables false

theorem callsSpecLong (s : ByteArray) (a : Int) (w : World) (hs : s.size ≤ maxLen) (h : 65536 < s.size) :
    Calls Tryd.prog 21 #[.string s, .int .i64 a] w fun e w' => RowAns w.heap.size [] 2 w e w' := by
  unfold maxLen at hs
  go_enter Tryd.func21, Tryd.ntmps21
  go_wp2
  go_ret2
  exact ⟨⟨_, _, rfl, .inl rfl⟩, (Below.refl _ _).alloc (Nat.le_refl _) _⟩
theorem callsSpecPlace (s : ByteArray) (a : Int) (w : World) (hs : s.size ≤ 65536) (ha : (Lit.int .i64 a).wf = true) (h : plB a = false) :
    Calls Tryd.prog 21 #[.string s, .int .i64 a] w fun e w' => RowAns w.heap.size [] 4 w e w' := by
  by_cases h0 : 0 ≤ a ∧ a ≤ 1048575
  · have h1 : ¬ a.tmod 4 = 0 := by
      rw [Int.tmod_eq_emod_of_nonneg h0.1]
      intro e
      simp [plB, h0.1, h0.2, e] at h
    have h2 : ¬ a % 4 = 0 := by
      intro e
      simp [plB, h0.1, h0.2, e] at h
    go_enter Tryd.func21, Tryd.ntmps21
    go_wp2_with (go_at_call 41; refine (spIn _ _ _ _ true (.inl ⟨rfl, h0.1, h0.2⟩)).mono ?_; rintro e w' ⟨rfl, rfl⟩)
    go_ret2
    exact ⟨⟨_, _, rfl, .inl rfl⟩, (Below.refl _ _).alloc (Nat.le_refl _) _⟩
  · go_enter Tryd.func21, Tryd.ntmps21
    go_wp2_with (go_at_call 41; refine (spIn _ _ _ _ false (.inr ⟨rfl, by omega⟩)).mono ?_; rintro e w' ⟨rfl, rfl⟩)
    go_ret2
    exact ⟨⟨_, _, rfl, .inl rfl⟩, (Below.refl _ _).alloc (Nat.le_refl _) _⟩
theorem callsSpecSize (s : ByteArray) (a : Int) (w : World) (hs : s.size ≤ 65536) (ha : plB a = true) (h : ¬ (s.size % 4 = 0 ∧ s.size ≤ 256)) :
    Calls Tryd.prog 21 #[.string s, .int .i64 a] w fun e w' => RowAns w.heap.size [] 8 w e w' := by
  obtain ⟨a0, a1, a2⟩ := plB_yes ha
  have hs' : s.size ≤ maxLen := by unfold maxLen; omega
  have e : decide (s.size % 4 = 0 ∧ s.size ≤ 256) = false := by rw [decide_eq_false_iff_not]; exact h
  go_enter Tryd.func21, Tryd.ntmps21
  go_wp2_with (first | (go_at_call 41; refine (spIn _ _ _ _ true (.inl ⟨rfl, a0, a1⟩)).mono ?_; rintro e w' ⟨rfl, rfl⟩) | (go_at_call 33; refine (szRun s _ hs').mono ?_; rintro e' w' ⟨rfl, rfl⟩; rw [e]))
  go_ret2
  exact ⟨⟨_, _, rfl, .inl rfl⟩, (Below.refl _ _).alloc (Nat.le_refl _) _⟩
theorem callsSpecWrong (s : ByteArray) (a : Int) (N j : Nat) (R : Nat → Int) (w : World) (hs : s.size ≤ 65536) (ha : plB a = true) (h : s.size % 4 = 0 ∧ s.size ≤ 256) (hr : Run s N R j) (hj : j < N) :
    Calls Tryd.prog 21 #[.string s, .int .i64 a] w fun e w' => RowAns w.heap.size [] 10 w e w' := by
  obtain ⟨a0, a1, a2⟩ := plB_yes ha
  have hs' : s.size ≤ maxLen := by unfold maxLen; omega
  have e : decide (s.size % 4 = 0 ∧ s.size ≤ 256) = true := by rw [decide_eq_true_eq]; exact h
  go_enter Tryd.func21, Tryd.ntmps21
  go_wp2_with (first | (go_at_call 41; refine (spIn _ _ _ _ true (.inl ⟨rfl, a0, a1⟩)).mono ?_; rintro e w' ⟨rfl, rfl⟩) | (go_at_call 33; refine (szRun s _ hs').mono ?_; rintro e' w' ⟨rfl, rfl⟩; rw [e]))
  refine (hr.model _).mono ?_
  rintro e2 w2 ⟨⟨p, n, c, x, rfl, ⟨hj', rfl, rfl⟩ | ⟨hj', rfl, rfl⟩, ho⟩, hb⟩
  · exact absurd hj (by omega)
  · have hj0 : (0 : Int) ≤ j := by omega
    go_wp2
    go_ret2
    exact ⟨⟨_, _, rfl, .inl rfl⟩, hb.alloc hb.size _⟩
theorem callsSpecYes (s : ByteArray) (a : Int) (N : Nat) (R : Nat → Int) (w : World) (hs : s.size ≤ 65536) (ha : plB a = true) (h : s.size % 4 = 0 ∧ s.size ≤ 256) (hN : N ≤ 64) (hr : Run s N R N) :
    Calls Tryd.prog 21 #[.string s, .int .i64 a] w fun e w' => RowAns w.heap.size (sortC (clU R a N)) 0 w e w' := by
  obtain ⟨a0, a1, a2⟩ := plB_yes ha
  have hs' : s.size ≤ maxLen := by unfold maxLen; omega
  have e : decide (s.size % 4 = 0 ∧ s.size ≤ 256) = true := by rw [decide_eq_true_eq]; exact h
  have hsm : ∀ i, i < N → Small5 R i := fun i hi => small_of (hr.right i hi)
  have hl := fun p c w hL => specCallsL p N c a R w hN a0 a1 hsm hL
  obtain ⟨us, hus⟩ : ∃ us, sortC (clU R a N) = us := ⟨_, rfl⟩
  rw [hus] at hl ⊢
  clear hus hsm
  go_enter Tryd.func21, Tryd.ntmps21
  go_wp2_with (first | (go_at_call 41; refine (spIn _ _ _ _ true (.inl ⟨rfl, a0, a1⟩)).mono ?_; rintro e w' ⟨rfl, rfl⟩) | (go_at_call 33; refine (szRun s _ hs').mono ?_; rintro e' w' ⟨rfl, rfl⟩; rw [e]))
  refine (hr.model _).mono ?_
  rintro e2 w2 ⟨⟨p, n, c, x, rfl, ⟨hj', rfl, rfl⟩ | ⟨hj', rfl, rfl⟩, ho⟩, hb⟩
  · have hL := ho.list
    clear ho hr
    go_wp2_with fail
    refine (hl _ _ _ hL).mono ?_
    rintro e3 w3 ⟨⟨q, d, rfl, ho⟩, hb3⟩
    have B3 := hb.trans (hb3.mono hb.size)
    clear hL hl
    go_wp2_with fail
    go_ret2
    refine ⟨⟨_, _, rfl, ?_⟩, B3⟩
    rcases ho with h | ⟨g, h1, h2, h3, h4⟩
    · exact .inl h
    · exact .inr ⟨g, h1, Nat.le_trans hb.size h2, h3, h4⟩
  · exact absurd hj' (by omega)

/-- Both answer the same. -/
theorem callsBoth (s : ByteArray) (a : Int) (hs : s.size ≤ maxLen) (ha : (Lit.int .i64 a).wf = true) : ∃ (zs : List Int) (y : Int), zs.length ≤ 1000 ∧
    (∀ w, Calls Tryd.prog 21 #[.string s, .int .i64 a] w fun e w' => RowAns w.heap.size zs y w e w') ∧
    (∀ w, Laid w → Calls Tryd.prog 22 #[.string s, .int .i64 a] w fun e w' => RowAns w.heap.size zs y w e w') := by
  by_cases h0 : 65536 < s.size
  · exact ⟨[], 2, by simp, fun w => callsSpecLong s a w hs h0, fun w _ => callsImplLong s a w hs h0⟩
  have hs1 : s.size ≤ 65536 := by omega
  by_cases h1 : plB a = false
  · exact ⟨[], 4, by simp, fun w => callsSpecPlace s a w hs1 ha h1, fun w _ => callsImplPlace s a w hs1 ha h1⟩
  have h1' : plB a = true := by cases e : plB a <;> simp_all
  rcases crC_cases s.size with ⟨h, hc⟩ | ⟨h, h', hc⟩ | ⟨h, h', hc⟩
  · exact absurd h h0
  · exact ⟨[], 8, by simp, fun w => callsSpecSize s a w hs1 h1' h', fun w _ => callsImplNo s a 0 0 8 (fun _ => 0) w hs1 ha h1' (by decide) (instrsImplNo s w hs 8 hc (by decide))⟩
  · obtain ⟨R, j, hr⟩ := run_of s (s.size / 4) (by omega) (by omega)
    by_cases e : j = s.size / 4
    · subst e
      obtain ⟨N, hN⟩ : ∃ N, s.size / 4 = N := ⟨_, rfl⟩
      rw [hN] at hr
      have hl : (sortC (clU R a N)).length ≤ 1000 := by
        have h1 := Lib.compact_length_le ((clU R a N).mergeSort fun x y => decide (x ≤ y))
        rw [List.length_mergeSort] at h1
        have h2 := clU_len R a N
        unfold sortC
        omega
      exact ⟨_, 0, hl, fun w => callsSpecYes s a N R w hs1 h1' ⟨h, h'⟩ (by omega) hr, fun w hL => callsImplYes s a N R w hs1 ha h1' (by omega) (fun i hi => small_of (hr.right i hi)) (instrsImplYes s N N R w hL hr rfl ⟨h, h'⟩ hc)⟩
    · have hj : j < s.size / 4 := by have := hr.le; omega
      exact ⟨[], 10, by simp, fun w => callsSpecWrong s a _ j R w hs1 h1' ⟨h, h'⟩ hr hj, fun w hL => callsImplNo s a 0 j 10 R w hs1 ha h1' (by decide) (instrsImplWrong s _ j R w hL hr hj ⟨h, h'⟩ hc)⟩
end Go.Proofs.YtjokgiefnlpfkaaDoor
