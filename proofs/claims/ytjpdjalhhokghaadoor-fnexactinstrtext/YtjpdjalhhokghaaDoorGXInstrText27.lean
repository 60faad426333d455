/- InstrText of the program: the walk. -/
import Derived.Test.YtjpdjalhhokghaaDoorGXInstrText26
import Derived.Laws.OwnMore
import Derived.OwnWalk
namespace Go.Proofs.YtjpdjalhhokghaaDoor.Tx
open Go.RowKit
set_option linter.unusedVariables false

theorem own_below {W W' : World} {B e size n : Nat} {v : Value} {xs : List Value} (h : W.ownsRow B e size v n xs) (hb : Below W.heap.size W W') : W'.ownsRow B e size v n xs := by
  refine ⟨h.1, ?_⟩
  rcases h.2 with hv | ⟨g, cap, cur, h1, h2, h3, h4⟩
  · exact .inl hv
  · exact .inr ⟨g, cap, cur, h1, h2, (hb.block g (Array.getElem?_eq_some_iff.1 h3).1).trans h3, h4⟩

theorem insNoT (op rd r1 r2 im : Int) (w : World) (hl : Go.Proofs.YtjpdjalhhokghaaDoor.Laid w) (hr : rightB op rd r1 r2 im = false) :
    Calls Tryd.prog 35 #[.agg #[.int .i64 op, .int .i64 rd, .int .i64 r1, .int .i64 r2, .int .i64 im]] w fun e w' => e = .returned (.tuple #[.string { data := #[] }, .int .i64 1]) ∧ Below w.heap.size w w' := by
  go_enter Tryd.func35, Tryd.ntmps35
  go_wp2_with fail
  refine (insC op rd r1 r2 im _ (Go.Proofs.YtjpdjalhhokghaaDoor.laid_below hl ((Below.refl _ _).alloc (Nat.le_refl _) _))).mono ?_
  rintro e w1 ⟨rfl, hb1⟩
  have HB1 : Hid (Below w.heap.size w w1) := ((Below.refl _ _).alloc (Nat.le_refl _) _).trans (hb1.mono (by simp))
  clear hb1 hl
  go_wp2
  go_ret2
  exact ⟨rfl, HB1.out⟩

theorem shapeCs (op f c g h : Int) (w : World) (hs : shT op = (f, c, g, h)) :
    Calls Tryd.prog 64 #[.int .i64 op] w fun e w' => e = .returned (.agg #[.int .i64 f, .int .i64 c, .int .i64 g, .int .i64 h]) ∧ Below w.heap.size w w' := by
  have := shapeC op w
  rw [hs] at this
  exact this

theorem in64_val (l : UInt8) (hl : letterOK l) {rd r1 r2 im : Int} (h1 : In64 rd) (h2 : In64 r1) (h3 : In64 r2) (h4 : In64 im) : In64 (valL l rd r1 r2 im) := by
  rcases hl with rfl | rfl | rfl | rfl
  · exact h1
  · exact h2
  · exact h3
  · exact h4
theorem take_snoc (told : ByteArray) (k : Nat) (h : k < told.size) : told.data.toList.take (k + 1) = told.data.toList.take k ++ [told[k]] := by
  rw [List.take_add_one, List.getElem?_eq_getElem (by simpa using h)]
  rfl
theorem vals_step (n : List UInt8) (told : ByteArray) (k : Nat) (h : k < told.size) (rd r1 r2 im : Int) :
    (vals (n :: fieldsL (told.data.toList.take k) rd r1 r2 im)) ++ vals [wordF told[k] (valL told[k] rd r1 r2 im)] = vals (n :: fieldsL (told.data.toList.take (k + 1)) rd r1 r2 im) := by
  rw [take_snoc told k h, ← vals_snoc]
  simp [fieldsL]

set_option maxRecDepth 100000 in
set_option maxHeartbeats 8000000 in
theorem insYesT (i : Nat) (n : List UInt8) (f c g h rd r1 r2 im : Int) (told : ByteArray) (hi0 : 1 ≤ i) (hi : i < 65) (hn : Op.wordAt i = txt n) (hnl : n.length ≤ 100) (hs : Hid (shT (i : Int) = (f, c, g, h))) (ht : Told f told)
    (hr : rightB (i : Int) rd r1 r2 im = true) (hrd : In64 rd) (hr1 : In64 r1) (hr2 : In64 r2) (him : In64 im) (w : World) (hl : Laid w) :
    Calls Tryd.prog 35 #[.agg #[.int .i64 (i : Int), .int .i64 rd, .int .i64 r1, .int .i64 r2, .int .i64 im]] w fun e w' => e = .returned (.tuple #[.string (txt (textL f n rd r1 r2 im)), .int .i64 0]) ∧ Below w.heap.size w w' := by
  obtain ⟨i0, hinfo, hz0, hz1, hz2⟩ := info_parts Tryd.info_str
  obtain ⟨tcall, tok, tfew, ttext⟩ := ht
  have tcall : Hid (∀ w, Calls Tryd.prog 66 #[.int .i64 f] w fun e w' => e = .returned (.string told) ∧ w' = w) := tcall
  have htext : Hid (Lib.join (n :: fieldsL told.data.toList rd r1 r2 im) [32] = textL f n rd r1 r2 im) := ttext n rd r1 r2 im
  have hlen : Hid ((textL f n rd r1 r2 im).length ≤ 200) := textL_len f n rd r1 r2 im hnl hrd hr1 hr2 him
  have hI0 : (0 : Int) ≤ (i : Int) := by omega
  have hI1 : (i : Int) < 65 := by omega
  clear ttext
  go_enter Tryd.func35, Tryd.ntmps35
  go_wp2_with fail
  refine (insC (i : Int) rd r1 r2 im _ (Go.Proofs.YtjpdjalhhokghaaDoor.laid_below hl.e ((Below.refl _ _).alloc (Nat.le_refl _) _))).mono ?_
  rintro e w1 ⟨rfl, hb1⟩
  have F1 : Five w1 w.heap.size (i : Int) rd r1 r2 im := Five.below (by constructor <;> simp) hb1 (by simp <;> omega)
  have B1 : Below w.heap.size w w1 := ((Below.refl _ _).alloc (Nat.le_refl _) _).trans (hb1.mono (by simp))
  have z1 : w.heap.size < w1.heap.size := by have := hb1.size; simp at this; omega
  have hl1 : Laid w1 := laid_below hl B1
  have hname : w1.cell? ⟨0, i, none⟩ = some (.string (txt n)) := by rw [hl1.o i hi, hn]
  have hp1 : Pow w1 := hl1.p
  have hlp : Pow w := hl.p
  clear hb1 hl hl1
  obtain ⟨c0, c1, c2, c3, c4, f0, f1, f2, f3, f4⟩ := F1
  have F1 : Hid (Five w1 w.heap.size (i : Int) rd r1 r2 im) := ⟨c0, c1, c2, c3, c4, f0, f1, f2, f3, f4⟩
  go_wp2_with fail
  have B1a : Below w.heap.size w (w1.alloc (.cells #[.string (txt n)] 9)) := B1.alloc B1.size _
  have O1 : (w1.alloc (.cells #[.string (txt n)] 9)).ownsRow (w.heap.size + 1) 9 1 (.slice (some ⟨w1.heap.size, 0, none⟩) 1 1) 1 (vals [n]) :=
    ⟨rfl, .inr ⟨w1.heap.size, 1, #[.string (txt n)], rfl, by omega, heap_alloc_new w1 _, by omega, by decide, rfl, rfl⟩⟩
  have F1a : Five (w1.alloc (.cells #[.string (txt n)] 9)) w.heap.size (i : Int) rd r1 r2 im := F1.out.below ((Below.refl _ _).alloc (Nat.le_refl _) _) z1
  have P1a : Pow (w1.alloc (.cells #[.string (txt n)] 9)) := pow_below hp1 ((Below.refl _ _).alloc (Nat.le_refl _) _)
  refine (shapeCs (i : Int) f c g h _ hs.out).mono ?_
  rintro e w2 ⟨rfl, hb2⟩
  have F2 : Hid (Five w2 w.heap.size (i : Int) rd r1 r2 im) := F1a.below hb2 (by simp; omega)
  have B2 : Below w.heap.size w w2 := B1a.trans (hb2.mono B1a.size)
  have z2 : w.heap.size < w2.heap.size := by have := hb2.size; simp at this; omega
  have O2 : w2.ownsRow (w.heap.size + 1) 9 1 (.slice (some ⟨w1.heap.size, 0, none⟩) 1 1) 1 (vals [n]) := own_below O1 hb2
  have P2 : Pow w2 := pow_below P1a hb2
  clear hb2 F1a P1a O1 B1a F1 B1 z1 hp1 hname c0 c1 c2 c3 c4 f0 f1 f2 f3 f4 hs hr hI0 hI1
  have hfd := shField0 f c g h
  go_wp2_with fail
  refine (tcall.out _).mono ?_
  rintro e w3 ⟨rfl, rfl⟩
  clear tcall
  go_wp2
  go_loopw [4, 22] (fun v t wr => ∃ k : Nat, k ≤ told.size ∧ t = .int .i64 k ∧ Below w.heap.size w wr ∧ w.heap.size < wr.heap.size ∧ Hid (Five wr w.heap.size (i : Int) rd r1 r2 im) ∧ Pow wr ∧ wr.ownsRow (w.heap.size + 1) 9 1 v (k + 1) (vals (n :: fieldsL (told.data.toList.take k) rd r1 r2 im))) (fun _ t _ => told.size - (intOf t).toNat)
  case atStart => exact ⟨0, Nat.zero_le _, rfl, B2, z2, F2, P2, O2⟩
  case round =>
    obtain ⟨k, hk, rfl, hbel, hz, hF, hP, hown⟩ := hrel
    by_cases hlt : k < told.size
    · have hmem : told[k] ∈ told.data.toList := by
        rw [show told[k] = told.data.toList[k]'(by simpa using hlt) from by simp; rfl]
        exact List.getElem_mem _
      have hl := tok _ hmem
      have hc := five_at hF.out told[k] hl
      have hk0 : (0 : Int) ≤ (k : Int) := by omega
      have hk1 : (k : Int) < (told.size : Int) := by omega
      have hv : In64 (valL told[k] rd r1 r2 im) := in64_val _ hl hrd hr1 hr2 him
      have hx : (vals (n :: fieldsL (told.data.toList.take k) rd r1 r2 im)) ++ vals [wordF told[k] (valL told[k] rd r1 r2 im)] = vals (n :: fieldsL (told.data.toList.take (k + 1)) rd r1 r2 im) := vals_step n told k hlt rd r1 r2 im
      have hx : Hid (_ = _) := hx
      obtain ⟨l, hl0⟩ : ∃ l, told[k] = l := ⟨_, rfl⟩
      rw [hl0] at hmem hl hc hv hx
      obtain ⟨V, hV⟩ : ∃ V, V = valL l rd r1 r2 im := ⟨_, rfl⟩
      rw [← hV] at hc hv hx
      clear hV
      go_wp2_with fail
      go_region_held3 (fun wx => wx.cell? ⟨w.heap.size, offL l, none⟩ = some (.int .i64 V)) (go_keep) (first | (go_at_call 67; refine (fldAny l hl _ _).mono ?_; rintro e wa ⟨rfl, rfl⟩) | (go_at_call 78; refine (fldTxt l hl _ hv _ (by first | exact hP | exact pow_below hP (Below.refl _ _).drew)).mono ?_; rintro e wb ⟨rfl, hbb⟩; have qb := (hbb.cell (p := ⟨w.heap.size, offL l, none⟩) hz).trans hc; have ob := (by first | exact own_below hown hbb | exact own_below hown.drew hbb : wb.ownsRow (w.heap.size + 1) 9 1 _ (k + 1) (vals (n :: fieldsL (told.data.toList.take k) rd r1 r2 im))); have hzb : w.heap.size < wb.heap.size := Nat.lt_of_lt_of_le hz hbb.size) | (refine step_append_lies _ (by rfl) _ _ _ (by rfl) (w.heap.size + 1) 9 i0 _ 1 16 Tryd.underlying107 hinfo hz0 hz1 hz2 rfl (by omega) _ _ _ (by rfl) (ob.alloc _) ⟨wb.heap.size, 0, none⟩ 1 1 (vals [wordF l V]) (by rfl) (by rfl) (World.news_of_block (cs := #[.string (txt (wordF l V))]) (t := 9) (fr := (0, 0)) (heap_alloc_new wb _)) (by simp [vals, Value.oneCell']) (by omega) (by unfold maxLen; omega) (by omega) (by simp; omega) (wb.heap.size + 1) (by simp) ?_; intro gg cap wc hown1 hgrow hat hlt1; have Bc : Below (w.heap.size + 1) wb wc := ((Below.refl (w.heap.size + 1) wb).alloc hzb _).grown hgrow (Nat.le_of_lt (Nat.lt_of_le_of_lt hzb (by simp))) (fun k hk => (ob.lt k hk).1); have qc := (Bc.cell (p := ⟨w.heap.size, offL l, none⟩) (Nat.lt_succ_self _)).trans qb))
      all_goals
        have HB : Below w.heap.size w wc := (hbel.drew.trans (hbb.mono (Nat.le_of_lt hz))).trans (Bc.mono (Nat.le_succ _))
        have HF : Hid (Five wc w.heap.size (i : Int) rd r1 r2 im) := (hF.out.drew.below hbb hz).below Bc (Nat.lt_succ_self _)
        have hzc : w.heap.size < wc.heap.size := Nat.lt_of_lt_of_le hzb Bc.size
        go_wp2
        go_roundw
        case rel => exact ⟨k + 1, by omega, by go_num, HB, hzc, HF, pow_below hlp HB, by rw [← hx.out]; exact hown1⟩
        case measure => simp [intOf]; omega
    · obtain rfl : k = told.size := by omega
      have htk : told.data.toList.take told.size = told.data.toList := by
        apply List.take_of_length_le
        simp
      rw [htk] at hown
      obtain ⟨xs, hxs⟩ : ∃ xs, xs = (n :: fieldsL told.data.toList rd r1 r2 im).map txt := ⟨_, rfl⟩
      have hxl : xs.length = told.size + 1 := by
        rw [hxs]
        simp [fieldsL]
      rcases hown.2 with ⟨_, h0⟩ | ⟨gg, cap, cur, rfl, hbg, hh, hnc, hcm, _, _⟩
      · omega
      have hcells : ∀ (j : Nat) x, xs[j]? = some x → wr.cell? ⟨gg, 0 + j, none⟩ = some (.string x) := fun j x hj => by
        have hjl : j < xs.length := (List.getElem?_eq_some_iff.1 hj).1
        rw [Nat.zero_add, hown.cellAt j (by omega)]
        have : (vals (n :: fieldsL told.data.toList rd r1 r2 im))[j]? = (xs.map Value.string)[j]? := by
          rw [hxs, vals, List.map_map]
          rfl
        rw [this, List.getElem?_map, hj]
        rfl
      have hjoin : Lib.join (xs.map (·.data.toList)) (ByteArray.data ⟨#[32]⟩).toList = textL f n rd r1 r2 im := by
        rw [← htext.out, hxs, List.map_map]
        congr 1
        apply List.map_id''
        intro x
        simp [txt]
      have J := Tryd.strings_Join gg 0 cap xs ⟨#[32]⟩ wr hcells (Array.getElem?_eq_some_iff.1 hh).1 (by omega) (by omega) (by rw [hjoin]; have := hlen.out; omega)
      rw [hxl, hjoin] at J
      clear hcells hjoin hxl hxs htk hown hh
      go_wp2_with fail
      refine J.mono ?_
      rintro e w4 ⟨rfl, hb4⟩
      have HB : Hid (Below w.heap.size w w4) := hbel.trans (hb4.mono (Nat.le_of_lt hz))
      clear hb4 hbel
      go_wp2
      go_ret2
      exact ⟨rfl, HB.out⟩
end Go.Proofs.YtjpdjalhhokghaaDoor.Tx
