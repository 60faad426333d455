/- slices.SortedFunc over the keys of a map: all of them, in their order. -/
import Derived.Test.YtibepggakjfbcaaAppC
import Derived.Test.YtibepggakjfbcaaShwC
import Derived.Test.YtibepggakjfbcaaShwS
import Derived.Shelf.SlSortCmp.NoneTotal
import Derived.RangeFuncBound
namespace Go.Proofs.Ytibepggakjfbcaa
open Go Go.RowKit Go.Maps Go.Sort
set_option linter.unusedVariables false

theorem ltOf_cmp2 (x y : Int × Int) : ltOf cmp2 x y = decide (ltK x y) := by
  unfold ltOf
  exact decide_eq_decide.2 cmp2_neg
theorem swoK : SWO (ltOf cmp2) where
  irrefl x := by rw [ltOf_cmp2]; simp [ltK_irrefl]
  trans x y z h1 h2 := by
    rw [ltOf_cmp2] at *
    simp at *
    exact ltK_trans h1 h2
  ntrans x y z h1 h2 := by
    rw [ltOf_cmp2] at *
    simp at *
    unfold ltK at *
    omega
theorem parts2 (x y : Int × Int) (h : ltOf cmp2 x y = false) (k : ltOf cmp2 y x = false) : x = y := by
  rw [ltOf_cmp2] at h k
  simp at h k
  rcases ltK_tri x y with h' | h' | h'
  · exact absurd h' h
  · exact h'
  · exact absurd h' k
/-- The keys in their order. -/
def srtK (ss : List (Int × Int)) : List (Int × Int) := ss.mergeSort fun x y => !(ltOf cmp2) y x
theorem srtK_perm (ss : List (Int × Int)) : (srtK ss).Perm ss := List.mergeSort_perm _ _
theorem srtK_sorted (ss : List (Int × Int)) (hn : ss.Nodup) : (srtK ss).Pairwise ltK := by
  have h1 : (srtK ss).Pairwise (fun a b => (!(ltOf cmp2) b a) = true) := by
    refine List.pairwise_mergeSort (fun a b c h k => ?_) (fun a b => ?_) ss
    · rw [ltOf_cmp2] at *
      simp at *
      unfold ltK at *
      omega
    · rw [ltOf_cmp2, ltOf_cmp2]
      simp
      unfold ltK
      omega
  have h2 : (srtK ss).Pairwise (· ≠ ·) := (srtK_perm ss).nodup_iff.2 hn
  refine (h1.and h2).imp ?_
  rintro a b ⟨h, hne⟩
  rw [ltOf_cmp2] at h
  simp at h
  rcases ltK_tri a b with h' | h' | h'
  · exact h'
  · exact absurd h' hne
  · exact absurd h' h
theorem cellsKs_get : ∀ (ss : List (Int × Int)) (j : Nat), j < ss.length * 2 → (cellsKs ss)[j]? = some ((kL (ss.toArray[j / 2]!))[j % 2]!)
  | [], j, h => by simp at h
  | x :: r, 0, h => by simp [cellsKs]
  | x :: r, 1, h => by simp [cellsKs]
  | x :: r, j + 2, h => by
    have ih := cellsKs_get r j (by simp at h; omega)
    have e1 : (j + 2) / 2 = j / 2 + 1 := by omega
    have e2 : (j + 2) % 2 = j % 2 := by omega
    rw [e1, e2]
    have e3 : cellsKs (x :: r) = .int .i64 x.1 :: .int .i64 x.2 :: cellsKs r := by simp [cellsKs]
    rw [e3]
    simp only [List.getElem?_cons_succ]
    rw [ih]
    simp
/-- A list of keys, as it lies. -/
def KeysAt (w : World) (p : Option Addr) (ts : List (Int × Int)) : Prop := ts.length = 0 ∨ ∃ g, p = some ⟨g, 0, none⟩ ∧ g < w.heap.size ∧ ∀ i, i < ts.length → w.cell? ⟨g, 0 + i * 2, none⟩ = some (.int .i64 (ts.toArray[i]!).1) ∧ w.cell? ⟨g, 0 + i * 2 + 1, none⟩ = some (.int .i64 (ts.toArray[i]!).2)
theorem KeysAt.below {w w' : World} {p : Option Addr} {ts : List (Int × Int)} (h : KeysAt w p ts) (hb : Below w.heap.size w w') : KeysAt w' p ts := by
  rcases h with h | ⟨g, h1, h2, h3⟩
  · exact .inl h
  · exact .inr ⟨g, h1, Nat.lt_of_lt_of_le h2 hb.size, fun i hi => ⟨(hb.cell (p := ⟨g, 0 + i * 2, none⟩) h2).trans (h3 i hi).1, (hb.cell (p := ⟨g, 0 + i * 2 + 1, none⟩) h2).trans (h3 i hi).2⟩⟩
theorem holdsK_of_row {w : World} {g : Nat} {cur : Array Value} {e : TypeId} {ss : List (Int × Int)} (hb : w.heap[g]? = some (.cells cur e (0, 0))) (ht : cur.toList.take (ss.length * 2) = cellsKs ss) : HoldsK kL 2 w g 0 ss.toArray := by
  intro j hj
  have hj' : j < ss.length * 2 := by simpa using hj
  rw [get_flatK _ _ _ _ (by simpa using hj')]
  refine ⟨?_, by simp [World.frozen?, hb]⟩
  have h1 : (cur.toList.take (ss.length * 2))[j]? = (cellsKs ss)[j]? := by rw [ht]
  rw [List.getElem?_take_of_lt hj', cellsKs_get ss j hj'] at h1
  simp only [World.cell?, hb, Nat.zero_add]
  simp only [Option.isSome_none, Bool.false_eq_true, if_false]
  rw [← Array.getElem?_toList, h1]
  rfl

theorem sortWorldK_below {w : World} {n B : Nat} {g : Nat} {d : Array (Int × Int)} {os : Array Obj} (hB : B ≤ g) (hw : B ≤ w.heap.size) : Below B w (sortWorldK kL 2 w g 0 n d os) := by
  refine ⟨rfl, rfl, rfl, ?_, fun k hk => ?_⟩
  · exact size_sortWorldK_c kL 2 w g 0 n d os
  · unfold sortWorldK
    rw [heap_grow_old _ _ (by simp [putRowK, Go.Sort.putRow, Go.Sort.mapBlock, Go.Sort.ahead]; omega)]
    have : g ≠ k := by omega
    simp [putRowK, Go.Sort.putRow, Go.Sort.mapBlock, Go.Sort.ahead, Array.getElem?_modify, this]

set_option maxRecDepth 100000 in
set_option maxHeartbeats 4000000 in
theorem sortedC {H : Type} (Bm b nn : Nat) (D0 : DataW H) {R : Value → Option (DataW H × List MemPlace)} (w : World) (hsz : Maps.size D0 ≤ 1048576) (hBm : Bm < w.heap.size) (hm : w.cell? ⟨Bm, 0, none⟩ = some (.map (some b))) (hown : w.ownsMap Try.prog 51 R b nn D0) :
    Calls Try.prog 41 #[.func (.func 55) #[] #[.pointer (some ⟨Bm, 0, none⟩)], .func (.func 35) #[] #[]] w fun e w' =>
      ∃ (p : Option Addr) (c : Nat) (ts : List (Int × Int)), e = .returned (.slice p ts.length c) ∧ AllK D0 ts ∧ ts.Pairwise ltK ∧ ts.length ≤ Maps.size D0 ∧ KeysAt w' p ts ∧ Below w.heap.size w w' := by
  have eg : ∀ args w, (callFunc 35 args).run Try.prog w = .ok (.enter 35 args) w := enters_of Try.func35 (by kernel_rfl) rfl
  have ek : ∀ args w, (callFunc 55 args).run Try.prog w = .ok (.enter 55 args) w := enters_of Try.func55 (by kernel_rfl) rfl
  have C := colC 55 #[.pointer (some ⟨Bm, 0, none⟩)] ek _ (Maps.size D0) hsz w ((keysGive Fence.wide 8 trivial rfl (by omega) Bm b nn D0 w hBm hm hown).bounded)
  clear hown hm
  go_enter Try.func41, Try.ntmps41
  go_wp2_with fail
  refine C.mono ?_
  rintro e W ⟨v, ss, rfl, ⟨hS, hlen⟩, hrow, hnil, hb⟩
  clear C
  rcases hrow.2 with ⟨rfl, hz⟩ | ⟨gb, cap, cur, rfl, hbase, hgb, r1, r2, r3, r4⟩
  · have hss : ss = [] := List.eq_nil_of_length_eq_zero hz
    subst hss
    have hcon := fun W' => AnyF.slices_SortFunc_none Try.laySort none 0 (.func (.func 35) #[] #[]) W'
    change ∀ W', Calls Try.prog 54 _ _ _ at hcon
    go_wp2_with fail
    refine (hcon _).mono ?_
    rintro e w' ⟨rfl, rfl⟩
    go_wp2_with fail
    go_ret
    exact ⟨none, 0, [], rfl, hS, List.Pairwise.nil, by simp, .inl rfl, hb⟩
  · have hH := holdsK_of_row hgb r4
    have hgl : gb < W.heap.size := (Array.getElem?_eq_some_iff.1 hgb).1
    have hcon := AnyQ.slices_SortFunc_total Try.laySort 2 Try.isAgg51 Try.sizeOf51 kL (fun _ => rfl) (fun x v hv => by simp [kL] at hv; rcases hv with rfl | rfl <;> rfl) cmp2 swoK 35 #[] gb 0 cap ss.toArray W eg (fun _ _ _ _ x y => cmpKC x y _) hH hgl (by simp; omega) parts2
    change Calls Try.prog 54 _ _ _ at hcon
    have hsz2 : ss.toArray.size = ss.length := by simp
    rw [hsz2] at hcon
    have HC : Hid (Calls _ _ _ _ _) := hcon
    clear hcon
    go_wp2_with fail
    refine HC.out.mono ?_
    rintro e w' ⟨rfl, n, os, hw'⟩
    have hp := srtK_perm ss
    have hK : HoldsK kL 2 w' gb 0 (srtK ss).toArray := by
      rw [hw']
      exact holdsK_sortWorldK_c kL 2 W gb 0 ss.toArray (srtK ss).toArray n os hH hgl (by simp [hp.length_eq])
    have hB : Below w.heap.size w w' := by
      rw [hw']
      exact hb.trans (sortWorldK_below hbase hb.size)
    have hgl' : gb < w'.heap.size := by
      rw [hw']
      exact Nat.lt_of_lt_of_le hgl (size_sortWorldK_c kL 2 W gb 0 n _ os)
    clear hw' HC hH
    go_wp2_with fail
    go_ret
    refine ⟨some ⟨gb, 0, none⟩, cap, srtK ss, by rw [hp.length_eq]; rfl, ⟨hp.nodup_iff.2 hS.1, fun x hx => hS.2.1 x (hp.mem_iff.1 hx), fun x hx => by rw [hp.mem_iff]; exact hS.2.2 x hx⟩, srtK_sorted ss hS.1, by rw [hp.length_eq]; exact hlen, .inr ⟨gb, rfl, hgl', fun i hi => ⟨?_, ?_⟩⟩, hB⟩
    · exact (hK.cell (c := 0) (by simpa using hi) (by omega)).1
    · exact (hK.cell (c := 1) (by simpa using hi) (by omega)).1
end Go.Proofs.Ytibepggakjfbcaa
