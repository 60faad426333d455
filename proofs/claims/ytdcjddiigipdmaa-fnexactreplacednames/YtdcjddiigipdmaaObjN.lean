/- Objects: the names that are added, and those that are replaced. -/
import Derived.Test.YtdcjddiigipdmaaObjB
import Derived.Test.YtdcjddiigipdmaaRecStr
import Derived.Test.YtdcjddiigipdmaaShelf
namespace Go.Proofs.Ytdcjddiigipdmaa
open Go Go.RowKit
set_option linter.unusedVariables false

theorem cloneO (s : ByteArray) (w : World) (hs : s.size ≤ 1000000) :
    Calls Try.prog 58 #[.string s] w fun e w' => e = .returned (.string s) ∧ Below w.heap.size w w' := by
  go_enter Try.func58, Try.ntmps58
  go_wp2_with fail
  refine (Try.stringslite_Clone s _ (by omega)).mono ?_
  rintro e w1 ⟨rfl, hb⟩
  go_wp2_with fail
  go_ret
  exact ⟨rfl, hb⟩

/-- The names of the functions that replace one (b), or of those that do not, among the first k. -/
def fnNm (o : ObjD) (b : Bool) : Nat → List ByteArray
  | 0 => []
  | k + 1 => if (o.F k).rp = b then fnNm o b k ++ [(o.F k).nm] else fnNm o b k
def dtNm (o : ObjD) (L : List ByteArray) : Nat → List ByteArray
  | 0 => L
  | k + 1 => dtNm o L k ++ [(o.D k).nm]
theorem fnNm_len (o : ObjD) (b : Bool) : ∀ k, (fnNm o b k).length ≤ k
  | 0 => Nat.le_refl _
  | k + 1 => by
    have := fnNm_len o b k
    unfold fnNm
    split
    · rw [List.length_append]; simp; omega
    · omega
theorem dtNm_len (o : ObjD) (L : List ByteArray) : ∀ k, (dtNm o L k).length = L.length + k
  | 0 => rfl
  | k + 1 => by
    unfold dtNm
    rw [List.length_append, dtNm_len o L k]
    simp; omega
theorem own_row_low {W : World} {B B' e size n : Nat} {v : Value} {xs : List Value} (h : W.ownsRow B e size v n xs) (hB : B' ≤ B) : W.ownsRow B' e size v n xs := by
  refine ⟨h.1, ?_⟩
  rcases h.2 with hv | ⟨g, cap, cur, h1, h2, h3, h4⟩
  · exact .inl hv
  · exact .inr ⟨g, cap, cur, h1, Nat.le_trans hB h2, h3, h4⟩
theorem nameB_size {s : ByteArray} (h : nameB s = true) : s.size ≤ 1000000 := by
  by_cases hl : 20 < s.size
  · rw [nameB_long s hl] at h; cases h
  · omega
/-- What AddedNames and ReplacedNames answer. -/
def addO (o : ObjD) : List ByteArray × Int := if (lintO o).2 ≠ 0 then ([], 1) else (dtNm o (fnNm o false o.nf) o.nd, 0)
def repO (o : ObjD) : List ByteArray × Int := if (lintO o).2 ≠ 0 then ([], 1) else (fnNm o true o.nf, 0)
theorem own_nil (w : World) (B : Nat) (p : Option Addr) (V : Nat → Value) : OwnR w B p 0 1 V := .inl rfl
/-- A list of names and a code, the list the call's own. -/
def NmAns (B : Nat) (L : List ByteArray) (y : Int) (w : World) (e : Ending) (w' : World) : Prop :=
  ∃ p c, e = .returned (.tuple #[.slice p L.length c, .int .i64 y]) ∧ OwnR w' B p L.length 1 (strV (lst L)) ∧ Below B w w'

set_option maxRecDepth 100000 in
set_option maxHeartbeats 4000000 in
theorem fnNamesI (q : ObjPt) (o : ObjD) (b : Bool) (w : World) (hf : o.nf ≤ 4) (hs : ∀ i, i < o.nf → (o.F i).nm.size ≤ 1000000) (hp : ObjAt w q o) :
    Calls Try.prog 57 #[.agg (objC o q), .bool b] w fun e w' => ∃ v, e = .returned v ∧ w'.ownsRow w.heap.size 9 1 v (fnNm o b o.nf).length ((fnNm o b o.nf).map Value.string) ∧ Below w.heap.size w w' := by
  obtain ⟨i0, hi0, hz0, hz1, hz2⟩ := info_parts Try.info_strO
  have bA := grown1' w (.cells (objC o q) 36)
  have lA := Lies.new w (objC o q) 36
  have hp1 := (hp.below bA).f
  go_enter Try.func57, Try.ntmps57
  go_wp2_with fail
  obtain ⟨W0, hW0⟩ : ∃ W0, w.alloc (.cells #[.string o.nm, .int .i64 o.dp, .slice q.pf o.nf q.kf, .slice q.pd o.nd q.kd, .slice q.pr o.nr q.kr, .slice q.ps o.ns q.ks] 36) = W0 := ⟨_, rfl⟩
  rw [hW0] at bA lA hp1 ⊢
  have HA : Hid (Below w.heap.size w W0) := bA
  have hzA := bA.size
  clear hW0 hp bA lA
  go_loopw [5, 11] (fun v i wr => ∃ k : Nat, k ≤ o.nf ∧ i = .int .i64 k ∧ wr.ownsRow W0.heap.size 9 1 v (fnNm o b k).length ((fnNm o b k).map Value.string) ∧ Below W0.heap.size W0 wr) (fun _ i _ => o.nf - (intOf i).toNat)
  case atStart => exact ⟨0, Nat.zero_le _, rfl, World.ownsRow_nil _ _ _ _, Below.refl _ _⟩
  case round =>
    obtain ⟨k, hk, rfl, hown, hB⟩ := hrel
    by_cases hlt : k < o.nf
    · rcases hp1 with hp1 | ⟨bb, oo, hpf, hb, hp1⟩
      · omega
      obtain ⟨x0, x1, x2, x3⟩ := (hp1.below hB hb).fun hlt
      have hsk := hs k hlt
      have hlen := fnNm_len o b k
      have hstep : fnNm o b (k + 1) = if (o.F k).rp = b then fnNm o b k ++ [(o.F k).nm] else fnNm o b k := rfl
      obtain ⟨nm, e0⟩ : ∃ s, (o.F k).nm = s := ⟨_, rfl⟩
      obtain ⟨rp, e1⟩ : ∃ s, (o.F k).rp = s := ⟨_, rfl⟩
      obtain ⟨fr, e2⟩ : ∃ s, (o.F k).fr = s := ⟨_, rfl⟩
      obtain ⟨cod, e3⟩ : ∃ s, (o.F k).cd = s := ⟨_, rfl⟩
      rw [e0] at x0 hsk hstep
      rw [e1] at x1 hstep
      rw [e2] at x2
      rw [e3] at x3
      have HST : Hid (fnNm o b (k + 1) = _) := hstep
      have hsz := hB.size
      have bX := grown1' wr (.cells #[.string nm, .bool rp, .int .i64 fr, .string cod] 85)
      have hB1 := hB.trans (bX.mono hsz)
      have hownX := own_row_below hown bX
      have HB1 : Hid (Below W0.heap.size W0 _) := hB1
      have HOX : Hid (World.ownsRow _ W0.heap.size 9 1 _ _ _) := hownX
      clear e0 e1 e2 e3 hp1 hB bX hstep hown hs hB1 hownX
      try rw [hpf] at *
      by_cases hr : rp = b
      · subst hr
        have hst2 := HST.out
        rw [if_pos rfl] at hst2
        have HS2 : Hid (fnNm o rp (k + 1) = _) := hst2
        clear hst2 HST
        go_wp2_with fail
        refine (cloneO nm _ hsk).mono ?_
        rintro e w2 ⟨rfl, hb2⟩
        have hown2 := own_row_below HOX.out hb2
        have hB2 := HB1.out.trans (hb2.mono HB1.out.size)
        have s2 := hB2.size
        clear HOX HB1 hb2 x0 x1 x2 x3
        go_wp2_with (at_builtin; refine wpList_append_own_at _ rfl _ _ 45 rfl W0.heap.size 9 i0 _ 1 16 Try.underlying45 hi0 hz0 hz1 hz2 rfl (by decide) _ _ _ rfl (hown2.alloc _) ⟨w2.heap.size, 0, none⟩ 1 1 [.string nm] rfl rfl (World.news_of_block (cs := #[.string nm]) (t := 9) (fr := (0, 0)) (heap_alloc_new w2 _)) (by simp [Value.oneCell']) (by unfold maxLen; omega) (by omega) (by simp; omega) ?_; intro v' w4 hown4 hg4 hn4 hat4)
        go_roundw
        case rel =>
          refine ⟨k + 1, by omega, by go_num, ?_, (hB2.alloc s2 _).grown hg4 (by simp; omega) (fun i e => (hown2.lt i e).1)⟩
          rw [HS2.out, List.length_append, List.map_append]
          exact hown4
        case measure => simp [intOf]; omega
      · have hrb : (rp == b) = false := by cases rp <;> cases b <;> simp_all
        have hst2 := HST.out
        rw [if_neg hr] at hst2
        have HS2 : Hid (fnNm o b (k + 1) = _) := hst2
        clear hst2 HST
        go_wp2_with fail
        go_roundw
        case rel => exact ⟨k + 1, by omega, by go_num, by rw [HS2.out]; exact HOX.out, HB1.out⟩
        case measure => simp [intOf]; omega
    · obtain rfl : k = o.nf := by omega
      have HB : Hid (Below w.heap.size w wr) := HA.out.trans (hB.mono HA.out.size)
      have HO : Hid (wr.ownsRow w.heap.size 9 1 _ _ _) := own_row_low hown hzA
      clear hown hB hp1
      go_wp2_with fail
      go_ret
      exact ⟨_, rfl, HO.out, HB.out⟩

set_option maxRecDepth 100000 in
set_option maxHeartbeats 8000000 in
theorem progReplaced (q : ObjPt) (o : ObjD) (w : World) (hz : o.fits) (hw : o.wf) (hp : ObjAt w q o) (L : List ByteArray) (y : Int) (hl : repO o = (L, y)) :
    Calls Try.prog 28 #[.agg (objC o q)] w fun e w' => NmAns w.heap.size L y w e w' := by
  obtain ⟨i0, hi0, hz0, hz1, hz2⟩ := info_parts Try.info_strO
  have bA := grown1' w (.cells (objC o q) 36)
  have lA := Lies.new w (objC o q) 36
  have hpA := hp.below bA
  have HA : Hid (Below w.heap.size w _) := bA
  have HL : Hid (Lies _ w.heap.size 36 (objC o q)) := lA
  have OK := progObjectOK q o _ hz hw hpA
  have HPA : Hid (ObjAt _ q o) := hpA
  obtain ⟨ok, hok⟩ : ∃ b, ((lintO o).2 == 0) = b := ⟨_, rfl⟩
  rw [hok] at OK
  have HOK : Hid (_ = ok) := hok
  have HUS : Hid (repO o = (L, y)) := hl
  have HW : Hid o.wf := hw
  have hlt := lA.lt
  clear bA lA hp hpA hw hok hl
  go_enter Try.func28, Try.ntmps28
  go_wp2_with fail
  refine OK.mono ?_
  rintro e w1 ⟨rfl, hb⟩
  have B := HA.out.trans (hb.mono HA.out.size)
  have Lq := HL.out.below hb hlt
  have hO := HPA.out.below hb
  clear OK hb HA HL HPA
  have HA : Hid (Below w.heap.size w w1) := B
  have HO : Hid (ObjAt w1 q o) := hO
  have HL : Hid (Lies w1 w.heap.size 36 (objC o q)) := Lq
  have hlt1 := Lq.lt
  have i0' := obj0 Lq
  have i1 := obj1 Lq
  have i2 := obj2 Lq
  have i3 := obj3 Lq
  have i4 := obj4 Lq
  have i5 := obj5 Lq
  clear B Lq hO
  have e := HUS.out
  unfold repO at e
  cases ok with
  | false =>
    rw [if_pos (by have := HOK.out; simpa using this)] at e
    obtain ⟨rfl, rfl⟩ : [] = L ∧ 1 = y := by simpa using e
    clear e HUS
    go_wp2_with fail
    go_ret2
    exact ⟨none, 0, rfl, own_nil _ _ _ _, HA.out⟩
  | true =>
    rw [if_neg (by have := HOK.out; simpa using this)] at e
    have hok := lintO_ok (o := o) (by have := HOK.out; simpa using this)
    obtain ⟨_, _, hnf0, hnf, hnd, _, _⟩ := wholeO_ok hok.1
    have hsF : ∀ i, i < o.nf → (o.F i).nm.size ≤ 1000000 := fun i hi => nameB_size (fltF_ok (hok.2.1 i hi)).1
    have hsD : ∀ i, i < o.nd → (o.D i).nm.size ≤ 1000000 := fun i hi => nameB_size (fltD_ok (hok.2.2.1 i hi)).1
    clear hok HUS
    have he : fnNm o true o.nf = L ∧ (0 : Int) = y := by simpa using e
    obtain ⟨rfl, rfl⟩ := he
    have FN := fnNamesI q o true w1 hnf hsF HO.out
    clear e hsF hsD
    go_wp2_with fail
    refine FN.mono ?_
    rintro e w2 ⟨v, rfl, hown, hb⟩
    obtain ⟨p9, c9, rfl, hc9, ho⟩ := ownT_of_row hown
    have B := HA.out.trans (hb.mono HA.out.size)
    clear FN hown hb
    go_wp2_with fail
    go_ret2
    exact ⟨_, _, rfl, ho.low HA.out.size, B⟩

set_option maxRecDepth 100000 in
set_option maxHeartbeats 8000000 in
theorem specReplaced (q : ObjPt) (o : ObjD) (w : World) (hz : o.fits) (hw : o.wf) (hp : ObjAt w q o) (L : List ByteArray) (y : Int) (hl : repO o = (L, y)) :
    Calls Try.prog 27 #[.agg (objC o q)] w fun e w' => NmAns w.heap.size L y w e w' := by
  obtain ⟨i0, hi0, hz0, hz1, hz2⟩ := info_parts Try.info_strO
  have bA := grown1' w (.cells (objC o q) 36)
  have lA := Lies.new w (objC o q) 36
  have hpA := hp.below bA
  have HA : Hid (Below w.heap.size w _) := bA
  have HL : Hid (Lies _ w.heap.size 36 (objC o q)) := lA
  have OK := specObjectOK q o _ hz hw hpA
  have HPA : Hid (ObjAt _ q o) := hpA
  obtain ⟨ok, hok⟩ : ∃ b, ((lintO o).2 == 0) = b := ⟨_, rfl⟩
  rw [hok] at OK
  have HOK : Hid (_ = ok) := hok
  have HUS : Hid (repO o = (L, y)) := hl
  have HW : Hid o.wf := hw
  have hlt := lA.lt
  clear bA lA hp hpA hw hok hl
  go_enter Try.func27, Try.ntmps27
  go_wp2_with fail
  refine OK.mono ?_
  rintro e w1 ⟨rfl, hb⟩
  have B := HA.out.trans (hb.mono HA.out.size)
  have Lq := HL.out.below hb hlt
  have hO := HPA.out.below hb
  clear OK hb HA HL HPA
  have HA : Hid (Below w.heap.size w w1) := B
  have HO : Hid (ObjAt w1 q o) := hO
  have HL : Hid (Lies w1 w.heap.size 36 (objC o q)) := Lq
  have hlt1 := Lq.lt
  have i0' := obj0 Lq
  have i1 := obj1 Lq
  have i2 := obj2 Lq
  have i3 := obj3 Lq
  have i4 := obj4 Lq
  have i5 := obj5 Lq
  clear B Lq hO
  have e := HUS.out
  unfold repO at e
  cases ok with
  | false =>
    rw [if_pos (by have := HOK.out; simpa using this)] at e
    obtain ⟨rfl, rfl⟩ : [] = L ∧ 1 = y := by simpa using e
    clear e HUS
    go_wp2_with fail
    go_ret2
    exact ⟨_, _, rfl, own_nil _ _ _ _, by first | exact HA.out.alloc HA.out.size _ | exact HA.out⟩
  | true =>
    rw [if_neg (by have := HOK.out; simpa using this)] at e
    have hok := lintO_ok (o := o) (by have := HOK.out; simpa using this)
    obtain ⟨_, _, hnf0, hnf, hnd, _, _⟩ := wholeO_ok hok.1
    have hsF : ∀ i, i < o.nf → (o.F i).nm.size ≤ 1000000 := fun i hi => nameB_size (fltF_ok (hok.2.1 i hi)).1
    have hsD : ∀ i, i < o.nd → (o.D i).nm.size ≤ 1000000 := fun i hi => nameB_size (fltD_ok (hok.2.2.1 i hi)).1
    clear hok HUS
    have he : fnNm o true o.nf = L ∧ (0 : Int) = y := by simpa using e
    obtain ⟨rfl, rfl⟩ := he
    clear e hsD
    go_wp2_with fail
    go_loopw [4, 5] (fun v i wr => ∃ k : Nat, k ≤ o.nf ∧ i = .int .i64 k ∧ wr.ownsRow w1.heap.size 9 1 v (fnNm o true k).length ((fnNm o true k).map Value.string) ∧ Below w1.heap.size w1 wr) (fun _ i _ => o.nf - (intOf i).toNat)
    case atStart => exact ⟨0, Nat.zero_le _, rfl, World.ownsRow_made w1 #[] 0 (Nat.le_refl _) (Nat.zero_le _) rfl, (Below.refl _ _).alloc (Nat.le_refl _) _⟩
    case round =>
      obtain ⟨k, hk, rfl, hown, hB⟩ := hrel
      have j2 := obj2 (HL.out.below hB hlt1)
      have hzw := hB.size
      by_cases hlt : k < o.nf
      · rcases (HO.out.below hB).f with hp1 | ⟨bb, oo, hpf, hbb, hp1⟩
        · omega
        obtain ⟨x0, x1, x2, x3⟩ := hp1.fun hlt
        have hsk := hsF k hlt
        have hlen := fnNm_len o true k
        have hstep : fnNm o true (k + 1) = if (o.F k).rp = true then fnNm o true k ++ [(o.F k).nm] else fnNm o true k := rfl
        obtain ⟨nm, e0⟩ : ∃ s, (o.F k).nm = s := ⟨_, rfl⟩
        obtain ⟨rp, e1⟩ : ∃ s, (o.F k).rp = s := ⟨_, rfl⟩
        rw [e0] at x0 hsk hstep
        rw [e1] at x1 hstep
        rw [hpf] at j2
        have HST : Hid (fnNm o true (k + 1) = _) := hstep
        have HB : Hid (Below w1.heap.size w1 wr) := hB
        have hown2 := hown
        have HOX : Hid (World.ownsRow wr w1.heap.size 9 1 _ _ _) := hown
        clear e0 e1 hp1 hB hstep hown x2 x3 hown2 hpf
        by_cases hr : rp = true
        · subst hr
          have hst2 := HST.out
          rw [if_pos rfl] at hst2
          have HS2 : Hid (fnNm o true (k + 1) = _) := hst2
          have hown2 := HOX.out
          clear hst2 HST HOX
          go_wp2_with (at_builtin; refine wpList_append_own_at _ rfl _ _ 45 rfl w1.heap.size 9 i0 _ 1 16 Try.underlying45 hi0 hz0 hz1 hz2 rfl (by decide) _ _ _ rfl (hown2.alloc _) ⟨wr.heap.size, 0, none⟩ 1 1 [.string nm] rfl rfl (World.news_of_block (cs := #[.string nm]) (t := 9) (fr := (0, 0)) (heap_alloc_new wr _)) (by simp [Value.oneCell']) (by unfold maxLen; omega) (by omega) (by simp; omega) ?_; intro v' w4 hown4 hg4 hn4 hat4)
          go_roundw
          case rel =>
            refine ⟨k + 1, by omega, by go_num, ?_, (HB.out.alloc hzw _).grown hg4 (by simp; omega) (fun i e => (hown2.lt i e).1)⟩
            rw [HS2.out, List.length_append, List.map_append]
            exact hown4
          case measure => simp [intOf]; omega
        · have hrb : rp = !true := by cases rp <;> simp_all
          subst hrb
          have hst2 := HST.out
          rw [if_neg hr] at hst2
          have HS2 : Hid (fnNm o true (k + 1) = _) := hst2
          clear hst2 HST hr
          go_wp2_with fail
          go_roundw
          case rel => exact ⟨k + 1, by omega, by go_num, by rw [HS2.out]; exact HOX.out, HB.out⟩
          case measure => simp [intOf]; omega
      · obtain rfl : k = o.nf := by omega
        obtain ⟨p9, c9, rfl, hc9, ho⟩ := ownT_of_row hown
        have B := HA.out.trans (hB.mono HA.out.size)
        have HOO : Hid (OwnR wr w.heap.size p9 _ 1 _) := ho.low HA.out.size
        clear hown hB
        go_wp2_with fail
        go_ret2
        exact ⟨_, _, rfl, HOO.out, B⟩

set_option maxRecDepth 100000 in
set_option maxHeartbeats 8000000 in
theorem specAdded (q : ObjPt) (o : ObjD) (w : World) (hz : o.fits) (hw : o.wf) (hp : ObjAt w q o) (L : List ByteArray) (y : Int) (hl : addO o = (L, y)) :
    Calls Try.prog 21 #[.agg (objC o q)] w fun e w' => NmAns w.heap.size L y w e w' := by
  obtain ⟨i0, hi0, hz0, hz1, hz2⟩ := info_parts Try.info_strO
  have bA := grown1' w (.cells (objC o q) 36)
  have lA := Lies.new w (objC o q) 36
  have hpA := hp.below bA
  have HA : Hid (Below w.heap.size w _) := bA
  have HL : Hid (Lies _ w.heap.size 36 (objC o q)) := lA
  have OK := specObjectOK q o _ hz hw hpA
  have HPA : Hid (ObjAt _ q o) := hpA
  obtain ⟨ok, hok⟩ : ∃ b, ((lintO o).2 == 0) = b := ⟨_, rfl⟩
  rw [hok] at OK
  have HOK : Hid (_ = ok) := hok
  have HUS : Hid (addO o = (L, y)) := hl
  have HW : Hid o.wf := hw
  have hlt := lA.lt
  clear bA lA hp hpA hw hok hl
  go_enter Try.func21, Try.ntmps21
  go_wp2_with fail
  refine OK.mono ?_
  rintro e w1 ⟨rfl, hb⟩
  have B := HA.out.trans (hb.mono HA.out.size)
  have Lq := HL.out.below hb hlt
  have hO := HPA.out.below hb
  clear OK hb HA HL HPA
  have HA : Hid (Below w.heap.size w w1) := B
  have HO : Hid (ObjAt w1 q o) := hO
  have HL : Hid (Lies w1 w.heap.size 36 (objC o q)) := Lq
  have hlt1 := Lq.lt
  have i0' := obj0 Lq
  have i1 := obj1 Lq
  have i2 := obj2 Lq
  have i3 := obj3 Lq
  have i4 := obj4 Lq
  have i5 := obj5 Lq
  clear B Lq hO
  have e := HUS.out
  unfold addO at e
  cases ok with
  | false =>
    rw [if_pos (by have := HOK.out; simpa using this)] at e
    obtain ⟨rfl, rfl⟩ : [] = L ∧ 1 = y := by simpa using e
    clear e HUS
    go_wp2_with fail
    go_ret2
    exact ⟨_, _, rfl, own_nil _ _ _ _, by first | exact HA.out.alloc HA.out.size _ | exact HA.out⟩
  | true =>
    rw [if_neg (by have := HOK.out; simpa using this)] at e
    have hok := lintO_ok (o := o) (by have := HOK.out; simpa using this)
    obtain ⟨_, _, hnf0, hnf, hnd, _, _⟩ := wholeO_ok hok.1
    have hsF : ∀ i, i < o.nf → (o.F i).nm.size ≤ 1000000 := fun i hi => nameB_size (fltF_ok (hok.2.1 i hi)).1
    have hsD : ∀ i, i < o.nd → (o.D i).nm.size ≤ 1000000 := fun i hi => nameB_size (fltD_ok (hok.2.2.1 i hi)).1
    clear hok HUS
    have he : dtNm o (fnNm o false o.nf) o.nd = L ∧ (0 : Int) = y := by simpa using e
    obtain ⟨rfl, rfl⟩ := he
    clear e
    go_wp2_with fail
    go_loopw [4, 5] (fun v i wr => ∃ k : Nat, k ≤ o.nf ∧ i = .int .i64 k ∧ wr.ownsRow w1.heap.size 9 1 v (fnNm o false k).length ((fnNm o false k).map Value.string) ∧ Below w1.heap.size w1 wr) (fun _ i _ => o.nf - (intOf i).toNat)
    case atStart => exact ⟨0, Nat.zero_le _, rfl, World.ownsRow_made w1 #[] 0 (Nat.le_refl _) (Nat.zero_le _) rfl, (Below.refl _ _).alloc (Nat.le_refl _) _⟩
    case round =>
      obtain ⟨k, hk, rfl, hown, hB⟩ := hrel
      have j2 := obj2 (HL.out.below hB hlt1)
      have hzw := hB.size
      by_cases hlt : k < o.nf
      · rcases (HO.out.below hB).f with hp1 | ⟨bb, oo, hpf, hbb, hp1⟩
        · omega
        obtain ⟨x0, x1, x2, x3⟩ := hp1.fun hlt
        have hsk := hsF k hlt
        have hlen := fnNm_len o false k
        have hstep : fnNm o false (k + 1) = if (o.F k).rp = false then fnNm o false k ++ [(o.F k).nm] else fnNm o false k := rfl
        obtain ⟨nm, e0⟩ : ∃ s, (o.F k).nm = s := ⟨_, rfl⟩
        obtain ⟨rp, e1⟩ : ∃ s, (o.F k).rp = s := ⟨_, rfl⟩
        rw [e0] at x0 hsk hstep
        rw [e1] at x1 hstep
        rw [hpf] at j2
        have HST : Hid (fnNm o false (k + 1) = _) := hstep
        have HB : Hid (Below w1.heap.size w1 wr) := hB
        have hown2 := hown
        have HOX : Hid (World.ownsRow wr w1.heap.size 9 1 _ _ _) := hown
        clear e0 e1 hp1 hB hstep hown x2 x3 hown2 hpf
        by_cases hr : rp = false
        · subst hr
          have hst2 := HST.out
          rw [if_pos rfl] at hst2
          have HS2 : Hid (fnNm o false (k + 1) = _) := hst2
          have hown2 := HOX.out
          clear hst2 HST HOX
          go_wp2_with (at_builtin; refine wpList_append_own_at _ rfl _ _ 45 rfl w1.heap.size 9 i0 _ 1 16 Try.underlying45 hi0 hz0 hz1 hz2 rfl (by decide) _ _ _ rfl (hown2.alloc _) ⟨wr.heap.size, 0, none⟩ 1 1 [.string nm] rfl rfl (World.news_of_block (cs := #[.string nm]) (t := 9) (fr := (0, 0)) (heap_alloc_new wr _)) (by simp [Value.oneCell']) (by unfold maxLen; omega) (by omega) (by simp; omega) ?_; intro v' w4 hown4 hg4 hn4 hat4)
          go_roundw
          case rel =>
            refine ⟨k + 1, by omega, by go_num, ?_, (HB.out.alloc hzw _).grown hg4 (by simp; omega) (fun i e => (hown2.lt i e).1)⟩
            rw [HS2.out, List.length_append, List.map_append]
            exact hown4
          case measure => simp [intOf]; omega
        · have hrb : rp = !false := by cases rp <;> simp_all
          subst hrb
          have hst2 := HST.out
          rw [if_neg hr] at hst2
          have HS2 : Hid (fnNm o false (k + 1) = _) := hst2
          clear hst2 HST hr
          go_wp2_with fail
          go_roundw
          case rel => exact ⟨k + 1, by omega, by go_num, by rw [HS2.out]; exact HOX.out, HB.out⟩
          case measure => simp [intOf]; omega
      · obtain rfl : k = o.nf := by omega
        have HOWN0 : Hid (wr.ownsRow w1.heap.size 9 1 _ _ _) := hown
        have HB0 : Hid (Below w1.heap.size w1 wr) := hB
        obtain ⟨W9, rfl⟩ : ∃ W, W = wr := ⟨_, rfl⟩
        clear hown hB
        go_wp2_with fail
        go_loopw [4, 6] (fun v i wr => ∃ k : Nat, k ≤ o.nd ∧ i = .int .i64 k ∧ wr.ownsRow w1.heap.size 9 1 v (dtNm o (fnNm o false o.nf) k).length ((dtNm o (fnNm o false o.nf) k).map Value.string) ∧ Below w1.heap.size w1 wr) (fun _ i _ => o.nd - (intOf i).toNat)
        case atStart => exact ⟨0, Nat.zero_le _, rfl, HOWN0.out, HB0.out⟩
        case round =>
          obtain ⟨k, hk, rfl, hown, hB⟩ := hrel
          have j3 := obj3 (HL.out.below hB hlt1)
          have hzw := hB.size
          by_cases hlt : k < o.nd
          · rcases (HO.out.below hB).d with hp1 | ⟨bb, oo, hpf, hbb, hp1⟩
            · omega
            obtain ⟨x0, x1⟩ := hp1.dat hlt
            have hsk := hsD k hlt
            have hlen := dtNm_len o (fnNm o false o.nf) k
            have hlen0 := fnNm_len o false o.nf
            have hstep : dtNm o (fnNm o false o.nf) (k + 1) = dtNm o (fnNm o false o.nf) k ++ [(o.D k).nm] := rfl
            obtain ⟨nm, e0⟩ : ∃ s, (o.D k).nm = s := ⟨_, rfl⟩
            obtain ⟨bs, e1⟩ : ∃ s, (o.D k).bs = s := ⟨_, rfl⟩
            rw [e0] at x0 hsk hstep
            rw [e1] at x1
            rw [hpf] at j3
            have HST : Hid (dtNm o (fnNm o false o.nf) (k + 1) = _) := hstep
            have hll : (dtNm o (fnNm o false o.nf) k).length ≤ 8 := by omega
            have HB : Hid (Below w1.heap.size w1 wr) := hB
            have HOX : Hid (World.ownsRow wr w1.heap.size 9 1 _ _ _) := hown
            clear hp1 e0 e1 hstep hB hlen hlen0 hown hpf
            have hown2 := HOX.out
            have hB2 := HB.out
            have s2 := hzw
            have HB2 : Hid (Below w1.heap.size w1 wr) := hB2
            clear HOX HB hB2
            go_wp2_with (at_builtin; refine wpList_append_own_at _ rfl _ _ 45 rfl w1.heap.size 9 i0 _ 1 16 Try.underlying45 hi0 hz0 hz1 hz2 rfl (by decide) _ _ _ rfl (hown2.alloc _) ⟨wr.heap.size, 0, none⟩ 1 1 [.string nm] rfl rfl (World.news_of_block (cs := #[.string nm]) (t := 9) (fr := (0, 0)) (heap_alloc_new wr _)) (by simp [Value.oneCell']) (by unfold maxLen; omega) (by omega) (by simp; omega) ?_; intro v' w4 hown4 hg4 hn4 hat4)
            go_roundw
            case rel =>
              refine ⟨k + 1, by omega, by go_num, ?_, (HB2.out.alloc s2 _).grown hg4 (by simp; omega) (fun i e => (hown2.lt i e).1)⟩
              rw [HST.out, List.length_append, List.map_append]
              exact hown4
            case measure => simp [intOf]; omega
          · obtain rfl : k = o.nd := by omega
            obtain ⟨p9, c9, rfl, hc9, ho⟩ := ownT_of_row hown
            have B := HA.out.trans (hB.mono HA.out.size)
            have HOO : Hid (OwnR wr w.heap.size p9 _ 1 _) := ho.low HA.out.size
            clear hown hB
            go_wp2_with fail
            go_ret2
            exact ⟨_, _, rfl, HOO.out, B⟩


set_option maxRecDepth 100000 in
set_option maxHeartbeats 8000000 in
theorem progAdded (q : ObjPt) (o : ObjD) (w : World) (hz : o.fits) (hw : o.wf) (hp : ObjAt w q o) (L : List ByteArray) (y : Int) (hl : addO o = (L, y)) :
    Calls Try.prog 22 #[.agg (objC o q)] w fun e w' => NmAns w.heap.size L y w e w' := by
  obtain ⟨i0, hi0, hz0, hz1, hz2⟩ := info_parts Try.info_strO
  have bA := grown1' w (.cells (objC o q) 36)
  have lA := Lies.new w (objC o q) 36
  have hpA := hp.below bA
  have HA : Hid (Below w.heap.size w _) := bA
  have HL : Hid (Lies _ w.heap.size 36 (objC o q)) := lA
  have OK := progObjectOK q o _ hz hw hpA
  have HPA : Hid (ObjAt _ q o) := hpA
  obtain ⟨ok, hok⟩ : ∃ b, ((lintO o).2 == 0) = b := ⟨_, rfl⟩
  rw [hok] at OK
  have HOK : Hid (_ = ok) := hok
  have HUS : Hid (addO o = (L, y)) := hl
  have HW : Hid o.wf := hw
  have hlt := lA.lt
  clear bA lA hp hpA hw hok hl
  go_enter Try.func22, Try.ntmps22
  go_wp2_with fail
  refine OK.mono ?_
  rintro e w1 ⟨rfl, hb⟩
  have B := HA.out.trans (hb.mono HA.out.size)
  have Lq := HL.out.below hb hlt
  have hO := HPA.out.below hb
  clear OK hb HA HL HPA
  have HA : Hid (Below w.heap.size w w1) := B
  have HO : Hid (ObjAt w1 q o) := hO
  have HL : Hid (Lies w1 w.heap.size 36 (objC o q)) := Lq
  have hlt1 := Lq.lt
  have i0' := obj0 Lq
  have i1 := obj1 Lq
  have i2 := obj2 Lq
  have i3 := obj3 Lq
  have i4 := obj4 Lq
  have i5 := obj5 Lq
  clear B Lq hO
  have e := HUS.out
  unfold addO at e
  cases ok with
  | false =>
    rw [if_pos (by have := HOK.out; simpa using this)] at e
    obtain ⟨rfl, rfl⟩ : [] = L ∧ 1 = y := by simpa using e
    clear e HUS
    go_wp2_with fail
    go_ret2
    exact ⟨none, 0, rfl, own_nil _ _ _ _, HA.out⟩
  | true =>
    rw [if_neg (by have := HOK.out; simpa using this)] at e
    have hok := lintO_ok (o := o) (by have := HOK.out; simpa using this)
    obtain ⟨_, _, hnf0, hnf, hnd, _, _⟩ := wholeO_ok hok.1
    have hsF : ∀ i, i < o.nf → (o.F i).nm.size ≤ 1000000 := fun i hi => nameB_size (fltF_ok (hok.2.1 i hi)).1
    have hsD : ∀ i, i < o.nd → (o.D i).nm.size ≤ 1000000 := fun i hi => nameB_size (fltD_ok (hok.2.2.1 i hi)).1
    clear hok HUS
    have he : dtNm o (fnNm o false o.nf) o.nd = L ∧ (0 : Int) = y := by simpa using e
    obtain ⟨rfl, rfl⟩ := he
    have FN := fnNamesI q o false w1 hnf hsF HO.out
    clear e hsF
    go_wp2_with fail
    refine FN.mono ?_
    rintro e w2 ⟨v0, rfl, hown, hb⟩
    have j2 := obj2 (HL.out.below hb hlt1)
    have j3 := obj3 (HL.out.below hb hlt1)
    have HOWN0 : Hid (w2.ownsRow w1.heap.size 9 1 _ _ _) := hown
    have HB0 : Hid (Below w1.heap.size w1 w2) := hb
    clear FN hown hb
    go_wp2_with fail
    go_loopw [4, 15] (fun v i wr => ∃ k : Nat, k ≤ o.nd ∧ i = .int .i64 k ∧ wr.ownsRow w1.heap.size 9 1 v (dtNm o (fnNm o false o.nf) k).length ((dtNm o (fnNm o false o.nf) k).map Value.string) ∧ Below w1.heap.size w1 wr) (fun _ i _ => o.nd - (intOf i).toNat)
    case atStart => exact ⟨0, Nat.zero_le _, rfl, HOWN0.out, HB0.out⟩
    case round =>
      obtain ⟨k, hk, rfl, hown, hB⟩ := hrel
      have j3 := obj3 (HL.out.below hB hlt1)
      have hzw := hB.size
      by_cases hlt : k < o.nd
      · rcases (HO.out.below hB).d with hp1 | ⟨bb, oo, hpf, hbb, hp1⟩
        · omega
        obtain ⟨x0, x1⟩ := hp1.dat hlt
        have hsk := hsD k hlt
        have hlen := dtNm_len o (fnNm o false o.nf) k
        have hlen0 := fnNm_len o false o.nf
        have hstep : dtNm o (fnNm o false o.nf) (k + 1) = dtNm o (fnNm o false o.nf) k ++ [(o.D k).nm] := rfl
        obtain ⟨nm, e0⟩ : ∃ s, (o.D k).nm = s := ⟨_, rfl⟩
        obtain ⟨bs, e1⟩ : ∃ s, (o.D k).bs = s := ⟨_, rfl⟩
        rw [e0] at x0 hsk hstep
        rw [e1] at x1
        have HST : Hid (dtNm o (fnNm o false o.nf) (k + 1) = _) := hstep
        have hll : (dtNm o (fnNm o false o.nf) k).length ≤ 8 := by omega
        have HB : Hid (Below w1.heap.size w1 wr) := hB
        have HOX : Hid (World.ownsRow wr w1.heap.size 9 1 _ _ _) := hown
        clear hp1 e0 e1 hstep hB hlen hlen0 hown
        try rw [hpf] at *
        have bX := grown1' wr (.cells #[.string nm, .string bs] 87)
        have HB1 : Hid (Below w1.heap.size w1 _) := HB.out.trans (bX.mono hzw)
        have HO1 : Hid (World.ownsRow _ w1.heap.size 9 1 _ _ _) := own_row_below HOX.out bX
        clear bX HOX HB
        go_wp2_with fail
        refine (cloneO nm _ hsk).mono ?_
        rintro e w2 ⟨rfl, hb2⟩
        have hown2 := own_row_below HO1.out hb2
        have hB2 := HB1.out.trans (hb2.mono HB1.out.size)
        have s2 := hB2.size
        clear HO1 HB1 hb2 x0 x1
        go_wp2_with (at_builtin; refine wpList_append_own_at _ rfl _ _ 45 rfl w1.heap.size 9 i0 _ 1 16 Try.underlying45 hi0 hz0 hz1 hz2 rfl (by decide) _ _ _ rfl (hown2.alloc _) ⟨w2.heap.size, 0, none⟩ 1 1 [.string nm] rfl rfl (World.news_of_block (cs := #[.string nm]) (t := 9) (fr := (0, 0)) (heap_alloc_new w2 _)) (by simp [Value.oneCell']) (by unfold maxLen; omega) (by omega) (by simp; omega) ?_; intro v' w4 hown4 hg4 hn4 hat4)
        go_roundw
        case rel =>
          refine ⟨k + 1, by omega, by go_num, ?_, (hB2.alloc s2 _).grown hg4 (by simp; omega) (fun i e => (hown2.lt i e).1)⟩
          rw [HST.out, List.length_append, List.map_append]
          exact hown4
        case measure => simp [intOf]; omega
      · obtain rfl : k = o.nd := by omega
        obtain ⟨p9, c9, rfl, hc9, ho⟩ := ownT_of_row hown
        have B := HA.out.trans (hB.mono HA.out.size)
        have HOO : Hid (OwnR wr w.heap.size p9 _ 1 _) := ho.low HA.out.size
        clear hown hB
        go_wp2_with fail
        go_ret2
        exact ⟨_, _, rfl, HOO.out, B⟩
theorem addO_len (o : ObjD) : (addO o).1.length ≤ 8 := by
  unfold addO
  split
  · exact Nat.zero_le _
  · rename_i h
    obtain ⟨_, _, _, h1, h2, _, _⟩ := wholeO_ok (lintO_ok (Classical.byContradiction h)).1
    have h3 := fnNm_len o false o.nf
    show (dtNm o (fnNm o false o.nf) o.nd).length ≤ 8
    rw [dtNm_len]
    omega
theorem repO_len (o : ObjD) : (repO o).1.length ≤ 8 := by
  unfold repO
  split
  · exact Nat.zero_le _
  · rename_i h
    obtain ⟨_, _, _, h1, h2, _, _⟩ := wholeO_ok (lintO_ok (Classical.byContradiction h)).1
    have h3 := fnNm_len o true o.nf
    show (fnNm o true o.nf).length ≤ 8
    omega
theorem addedBoth (o : ObjD) (hz : o.fits) (hw : o.wf) : ∃ (L : List ByteArray) (y : Int), L.length ≤ 8 ∧
    (∀ q w, ObjAt w q o → Calls Try.prog 21 #[.agg (objC o q)] w fun e w' => NmAns w.heap.size L y w e w') ∧
    (∀ q w, ObjAt w q o → Calls Try.prog 22 #[.agg (objC o q)] w fun e w' => NmAns w.heap.size L y w e w') :=
  ⟨_, _, addO_len o, fun q w hp => specAdded q o w hz hw hp _ _ rfl, fun q w hp => progAdded q o w hz hw hp _ _ rfl⟩
theorem replacedBoth (o : ObjD) (hz : o.fits) (hw : o.wf) : ∃ (L : List ByteArray) (y : Int), L.length ≤ 8 ∧
    (∀ q w, ObjAt w q o → Calls Try.prog 27 #[.agg (objC o q)] w fun e w' => NmAns w.heap.size L y w e w') ∧
    (∀ q w, ObjAt w q o → Calls Try.prog 28 #[.agg (objC o q)] w fun e w' => NmAns w.heap.size L y w e w') :=
  ⟨_, _, repO_len o, fun q w hp => specReplaced q o w hz hw hp _ _ rfl, fun q w hp => progReplaced q o w hz hw hp _ _ rfl⟩
end Go.Proofs.Ytdcjddiigipdmaa
