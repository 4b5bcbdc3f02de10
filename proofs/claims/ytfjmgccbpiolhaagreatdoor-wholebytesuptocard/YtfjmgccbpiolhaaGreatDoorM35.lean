import Derived.Test.YtfjmgccbpiolhaaGreatDoorM33
import Derived.WalkMore
import Derived.Deep.LoopGhost
import Derived.Test.YtfjmgccbpiolhaaGreatDoorM28
namespace Go.Proofs.YtfjmgccbpiolhaaGreatDoor
open Go.RowKit Go.Shelf
set_option linter.unusedVariables false
set_option linter.unusedSimpArgs false
attribute [local go_sem] Oper.semAt_some

def clsB (k : Nat) : List UInt8 := if k = 0 then cMk else if k = 1 then [34] else if k = 2 then cLe else cDm
def encT (t : Tok) : Array Value := #[tokV t, .int .i64 (t.err : Int)]
def Missed (c : UInt8) (k : Nat) : Prop := ∀ j, j < k → (clsB j).contains c = false
theorem next_0 {l : List UInt8} {p : Nat} (h : (clsB 0).contains (l.getD p 0) = true) : nextT l p = ⟨(1 + Lib.indexByte cMk (l.getD p 0)).toNat, p, p + 1, [], 0⟩ := by
  unfold nextT; rw [if_pos (show cMk.contains _ = true from h)]
theorem next_1 {l : List UInt8} {p : Nat} (hm : Missed (l.getD p 0) 1) (h : (clsB 1).contains (l.getD p 0) = true) : nextT l p = litT l p ∧ l.getD p 0 = 34 := by
  have h0 : cMk.contains (l.getD p 0) = false := hm 0 (by decide)
  have e : l.getD p 0 = 34 := by
    have : [34].contains (l.getD p 0) = true := h
    simpa using this
  unfold nextT; rw [if_neg (by rw [h0]; decide), if_pos e]; exact ⟨rfl, e⟩
theorem not34 {l : List UInt8} {p : Nat} (h : (clsB 1).contains (l.getD p 0) = false) : ¬ l.getD p 0 = 34 := fun e => by
  have h2 : [34].contains (l.getD p 0) = false := h
  rw [e] at h2; exact absurd h2 (by decide)
theorem next_2 {l : List UInt8} {p : Nat} (hm : Missed (l.getD p 0) 2) (h : (clsB 2).contains (l.getD p 0) = true) : nextT l p = wordT l p := by
  have h0 : cMk.contains (l.getD p 0) = false := hm 0 (by decide)
  have h2 : cLe.contains (l.getD p 0) = true := h
  unfold nextT; rw [if_neg (by rw [h0]; decide), if_neg (not34 (hm 1 (by decide))), if_pos h2]
theorem next_3 {l : List UInt8} {p : Nat} (hm : Missed (l.getD p 0) 3) (h : (clsB 3).contains (l.getD p 0) = true) : nextT l p = numeralT l p := by
  have h0 : cMk.contains (l.getD p 0) = false := hm 0 (by decide)
  have h2 : cLe.contains (l.getD p 0) = false := hm 2 (by decide)
  have h3 : cDm.contains (l.getD p 0) = true := h
  unfold nextT; rw [if_neg (by rw [h0]; decide), if_neg (not34 (hm 1 (by decide))), if_neg (by rw [h2]; decide), if_pos h3]
theorem next_4 {l : List UInt8} {p : Nat} (hm : Missed (l.getD p 0) 4) : nextT l p = ⟨0, p, 0, [], 40⟩ := by
  have h0 : cMk.contains (l.getD p 0) = false := hm 0 (by decide)
  have h2 : cLe.contains (l.getD p 0) = false := hm 2 (by decide)
  have h3 : cDm.contains (l.getD p 0) = false := hm 3 (by decide)
  unfold nextT; rw [if_neg (by rw [h0]; decide), if_neg (not34 (hm 1 (by decide))), if_neg (by rw [h2]; decide), if_neg (by rw [h3]; decide)]
theorem Missed.up {c : UInt8} {k : Nat} (h : Missed c k) (hk : (clsB k).contains c = false) : Missed c (k + 1) := fun j hj => by
  rcases Nat.lt_or_ge j k with h1 | h1
  · exact h j h1
  · obtain rfl : j = k := by omega
    exact hk
theorem ix_no {k : List UInt8} {c : UInt8} (h : k.contains c = false) : Lib.indexByte k c < 0 := by
  have := indexB_has k c
  rw [h] at this
  have h2 : ¬ 0 ≤ Lib.indexByte k c := fun hx => by have := this.2 hx; cases this
  omega
theorem tok_at {l : List UInt8} {pre : List Tok} {p : Nat} (h : At l pre p) (hp : p < l.length) : (pre ++ [nextT l p] <+: allY l) ∧ ((nextT l p).err ≠ 0 → allY l = pre ++ [nextT l p]) ∧ ((nextT l p).err = 0 → (nextT l p).fin ≤ l.length ∧ At l (pre ++ [nextT l p]) (behL l (nextT l p).fin cBl) ∧ p < behL l (nextT l p).fin cBl) :=
  ⟨h.pre hp, h.fault hp, fun he => ⟨(nextT_up hp he).2, h.next hp he⟩⟩
theorem ixk_0 (u : World) : (Instr.index 231 (.agg #[.string ⟨#[123, 125, 91, 93, 58, 44]⟩, .func (.func 158) #[] #[], .string ⟨#[34]⟩, .func (.func 159) #[] #[], .string ⟨#[97, 98, 99, 100, 101, 102, 103, 104, 105, 106, 107, 108, 109, 110, 111, 112, 113, 114, 115, 116, 117, 118, 119, 120, 121, 122, 65, 66, 67, 68, 69, 70, 71, 72, 73, 74, 75, 76, 77, 78, 79, 80, 81, 82, 83, 84, 85, 86, 87, 88, 89, 90, 95]⟩, .func (.func 160) #[] #[], .string ⟨#[48, 49, 50, 51, 52, 53, 54, 55, 56, 57, 45]⟩, .func (.func 161) #[] #[]]) (.int .i64 0)).run Tryz.prog u = .ok (.agg #[.string ⟨#[123, 125, 91, 93, 58, 44]⟩, .func (.func 158) #[] #[]]) u := by kernel_rfl
theorem ixk_1 (u : World) : (Instr.index 231 (.agg #[.string ⟨#[123, 125, 91, 93, 58, 44]⟩, .func (.func 158) #[] #[], .string ⟨#[34]⟩, .func (.func 159) #[] #[], .string ⟨#[97, 98, 99, 100, 101, 102, 103, 104, 105, 106, 107, 108, 109, 110, 111, 112, 113, 114, 115, 116, 117, 118, 119, 120, 121, 122, 65, 66, 67, 68, 69, 70, 71, 72, 73, 74, 75, 76, 77, 78, 79, 80, 81, 82, 83, 84, 85, 86, 87, 88, 89, 90, 95]⟩, .func (.func 160) #[] #[], .string ⟨#[48, 49, 50, 51, 52, 53, 54, 55, 56, 57, 45]⟩, .func (.func 161) #[] #[]]) (.int .i64 1)).run Tryz.prog u = .ok (.agg #[.string ⟨#[34]⟩, .func (.func 159) #[] #[]]) u := by kernel_rfl
theorem ixk_2 (u : World) : (Instr.index 231 (.agg #[.string ⟨#[123, 125, 91, 93, 58, 44]⟩, .func (.func 158) #[] #[], .string ⟨#[34]⟩, .func (.func 159) #[] #[], .string ⟨#[97, 98, 99, 100, 101, 102, 103, 104, 105, 106, 107, 108, 109, 110, 111, 112, 113, 114, 115, 116, 117, 118, 119, 120, 121, 122, 65, 66, 67, 68, 69, 70, 71, 72, 73, 74, 75, 76, 77, 78, 79, 80, 81, 82, 83, 84, 85, 86, 87, 88, 89, 90, 95]⟩, .func (.func 160) #[] #[], .string ⟨#[48, 49, 50, 51, 52, 53, 54, 55, 56, 57, 45]⟩, .func (.func 161) #[] #[]]) (.int .i64 2)).run Tryz.prog u = .ok (.agg #[.string ⟨#[97, 98, 99, 100, 101, 102, 103, 104, 105, 106, 107, 108, 109, 110, 111, 112, 113, 114, 115, 116, 117, 118, 119, 120, 121, 122, 65, 66, 67, 68, 69, 70, 71, 72, 73, 74, 75, 76, 77, 78, 79, 80, 81, 82, 83, 84, 85, 86, 87, 88, 89, 90, 95]⟩, .func (.func 160) #[] #[]]) u := by kernel_rfl
theorem ixk_3 (u : World) : (Instr.index 231 (.agg #[.string ⟨#[123, 125, 91, 93, 58, 44]⟩, .func (.func 158) #[] #[], .string ⟨#[34]⟩, .func (.func 159) #[] #[], .string ⟨#[97, 98, 99, 100, 101, 102, 103, 104, 105, 106, 107, 108, 109, 110, 111, 112, 113, 114, 115, 116, 117, 118, 119, 120, 121, 122, 65, 66, 67, 68, 69, 70, 71, 72, 73, 74, 75, 76, 77, 78, 79, 80, 81, 82, 83, 84, 85, 86, 87, 88, 89, 90, 95]⟩, .func (.func 160) #[] #[], .string ⟨#[48, 49, 50, 51, 52, 53, 54, 55, 56, 57, 45]⟩, .func (.func 161) #[] #[]]) (.int .i64 3)).run Tryz.prog u = .ok (.agg #[.string ⟨#[48, 49, 50, 51, 52, 53, 54, 55, 56, 57, 45]⟩, .func (.func 161) #[] #[]]) u := by kernel_rfl
end Go.Proofs.YtfjmgccbpiolhaaGreatDoor
namespace Go.Proofs.YtfjmgccbpiolhaaGreatDoor
open Go.RowKit Go.Shelf
set_option linter.unusedVariables false
set_option linter.unusedSimpArgs false
attribute [local go_sem] Oper.semAt_some

set_option maxRecDepth 100000 in
set_option maxHeartbeats 8000000 in
theorem cut_inP (E : Nat → Prop) (n : Nat) (hn : 1 ≤ n) (l B : Nat) (s : ByteArray) (ss : s.size ≤ 4294967296)
    (w : World) (hr : rowAt w B = none) (lB : B < w.heap.size) (hE : ∀ b, E b → b < w.heap.size) (hEr : ErrIn w) (hEe : ¬ E 4) (hEl : 4 < w.heap.size)
    (J Jx : List Tok → World → Prop) (Jp : List PanicEntry → List Tok → World → Prop) (W : World) (hW : Below w.heap.size w W) (hJ : AbidesFrom W.heap.size J) (hJx : AbidesFrom W.heap.size Jx)
    (hY : ∀ pre x W1, J pre W1 → pre.length < s.size + 1 → (pre ++ [x] <+: allY s.data.toList) → YieldAt Fence.wide (n - 1) Tryz.prog l (encT x) W1 fun e W' =>
      (e = .returned (.bool true) ∧ J (pre ++ [x]) W' ∧ KpT E B W1 W') ∨ (e = .returned (.bool false) ∧ Jx (pre ++ [x]) W') ∨ (∃ ch, e = .panicked ch ∧ Jp ch (pre ++ [x]) W')) (h0 : J [] W) :
    CallsIn Fence.wide n Tryz.prog 141 #[.string s, .func (.yield l) #[] #[]] W fun e W' => (∃ v, e = .returned v ∧ ((∃ xs, xs = allY s.data.toList ∧ J xs W') ∨ (∃ pre, (pre <+: allY s.data.toList) ∧ Jx pre W'))) ∨ (∃ ch pre, e = .panicked ch ∧ (pre <+: allY s.data.toList) ∧ Jp ch pre W') := by
  have HJ := Hid.mk hJ
  have HY := Hid.mk hY
  have H0 := Hid.mk h0
  have HEr := Hid.mk (hEr.keep hW)
  have HR : Hid (rowAt W B = none) := by
    show rowAt W B = none
    rw [rowAt_below hW lB]; exact hr
  have hws := hW.size
  clear hJ hJx hY h0 hW hr hEr
  have HBl := Hid.mk (fun (p : Nat) u (hp : p ≤ s.size) => w_behind s ⟨#[32, 9, 10, 13]⟩ p u hp (by omega) (by decide) (ascii_all (by decide +kernel)))
  have ebl : (⟨#[32, 9, 10, 13]⟩ : ByteArray).data.toList = cBl := rfl
  rw [ebl] at HBl
  clear ebl
  refine callsIn_of_wp Tryz.func141 rfl trivial ?_ rfl
  simp only [Tryz.ntmps141, List.size_toArray, List.length_cons, List.length_nil, Nat.reduceAdd, Nat.reduceSub, Array.replicate_succ, Array.replicate_zero, List.push_toArray, List.append_toArray, List.nil_append, List.cons_append]
  refine wpIn_wide.2 (wp_scope_straight ((wpIn_wide (n := n)).1 ?_))
  gi_wp2_with fail
  refine ⟨trivial, (callsIn_wide.2 (w_beginnings _)).mono ?_⟩
  rintro e w1 ⟨rfl, hb1⟩
  have HB1 := Hid.mk hb1
  clear hb1
  unfold known fnV cLe cDm
  gi_wp2_with fail
  refine ⟨trivial, (callsIn_wide.2 (HBl.out 0 _ (Nat.zero_le _))).mono ?_⟩
  rintro e w2 ⟨rfl, hb2⟩
  obtain ⟨Bk, hBk⟩ : ∃ Bk, Bk = w1.heap.size := ⟨_, rfl⟩
  have HBk := Hid.mk hBk
  have HS : Hid (CuSt E B Bk w2 ∧ J [] w2) := by
    have hb1 := HB1.out
    have hx := (below1 w1 (.cells known 231))
    have hkn := heap_lowT hb2 (show w1.heap.size < _ by simp) (heap_alloc_new w1 (.cells known 231))
    have hb3 : Below W.heap.size W w2 := (hb1.trans (hx.mono hb1.size)).trans (hb2.mono (by have := hb1.size; simp; omega))
    refine ⟨⟨by rw [hBk]; exact hkn, .inl ?_, HEr.out.keep hb3, ⟨by have := hb1.size; omega, by have := hb1.size; omega, fun h => by have := hE _ h; have := hb1.size; omega, hEe, fun b h => by have := hE _ h; have := hb1.size; omega⟩⟩, ab_below HJ.out H0.out hb3⟩
    rw [rowAt_below hb3 (by omega)]; exact HR.out
  rw [← hBk]
  clear hb2 hBk HB1 H0 HR HEr
  have HAt : Hid (At s.data.toList [] (behL s.data.toList 0 cBl)) := at_start _
  generalize behL s.data.toList 0 cBl = p0 at *
  gi_wp2_with fail
  refine wpIn_label ?_
  gi_wp2_with fail
  gi_loopw [5] (fun a wr => ∃ (p : Nat) (pre : List Tok), p ≤ s.size ∧ a = .int .i64 (p : Int) ∧ Hid (At s.data.toList pre p ∧ CuSt E B Bk wr ∧ J pre wr)) (fun a _ => s.size - (intOf a).toNat)
  case atStart => exact ⟨p0, [], by have := HAt.out.1; rwa [size_lst] at this, rfl, HAt.out, HS.out.1, HS.out.2⟩
  case round =>
    clear HAt HS
    obtain ⟨p, pre, hps, rfl, HQ⟩ := hrel
    have hk0 := cell_of_row _ _ 0 _ _ _ HQ.out.2.1.kn
    have hk1 := cell_of_row _ _ 1 _ _ _ HQ.out.2.1.kn
    have hk2 := cell_of_row _ _ 2 _ _ _ HQ.out.2.1.kn
    have hk3 := cell_of_row _ _ 3 _ _ _ HQ.out.2.1.kn
    have hk4 := cell_of_row _ _ 4 _ _ _ HQ.out.2.1.kn
    have hk5 := cell_of_row _ _ 5 _ _ _ HQ.out.2.1.kn
    have hk6 := cell_of_row _ _ 6 _ _ _ HQ.out.2.1.kn
    have hk7 := cell_of_row _ _ 7 _ _ _ HQ.out.2.1.kn
    unfold known fnV cLe cDm at hk0 hk1 hk2 hk3 hk4 hk5 hk6 hk7
    simp only [List.getElem?_toArray, Array.getElem?_toList, List.getElem?_cons_zero, List.getElem?_cons_succ] at hk0 hk1 hk2 hk3 hk4 hk5 hk6 hk7
    by_cases hlt : p < s.size
    · have hl1 : (p : Int) < (s.size : Int) := by omega
      have hl0 : (0 : Int) ≤ (p : Int) := by omega
      gi_wp2_with fail
      gi_loopw [5, 18] (fun a i wr => ∃ k : Nat, k ≤ 4 ∧ a = .int .i64 (p : Int) ∧ i = .int .i64 (k : Int) ∧ Hid (CuSt E B Bk wr ∧ J pre wr ∧ Missed (s.data.toList.getD p 0) k)) (fun _ i _ => 4 - (intOf i).toNat)
      case atStart => exact ⟨0, by omega, rfl, rfl, HQ.out.2.1, HQ.out.2.2, fun j hj => absurd hj (Nat.not_lt_zero _)⟩
      case round =>
        obtain ⟨k, hk, rfl, rfl, HK⟩ := hrel
        have hmx : Tryz.prog.follows .mixedOrders = true := by kernel_rfl
        have hps2 : p < s.data.toList.length := by rw [size_lst]; exact hlt
        have hlp : pre.length < s.size + 1 := by have := HQ.out.1.2.1; omega
        have hcs : k = 0 ∨ k = 1 ∨ k = 2 ∨ k = 3 ∨ k = 4 := by omega
        rcases hcs with rfl | rfl | rfl | rfl | rfl
        · have HI : Hid (∀ u, Calls Tryz.prog 149 #[.string ⟨#[123, 125, 91, 93, 58, 44]⟩, .int .u8 ((s[p].toNat : Nat) : Int)] u fun e w' => e = .returned (.int .i64 (Lib.indexByte (clsB 0) (s.data.toList.getD p 0))) ∧ w' = u) := fun u => by
            have := Tryz.strings_IndexByte ⟨#[123, 125, 91, 93, 58, 44]⟩ ((s[p].toNat : Nat) : Int) u
            rw [byte_back] at this
            rw [getD_byte hlt]; exact this
          have hixk := ixk_0
          have hbx := Hid.mk ((below1 wr (.cells #[.string ⟨#[123, 125, 91, 93, 58, 44]⟩, .func (.func 158) #[] #[]] 230)).drew)
          have HKd : Hid (CuSt E B Bk (wr.alloc (.cells #[.string ⟨#[123, 125, 91, 93, 58, 44]⟩, .func (.func 158) #[] #[]] 230)).drew ∧ J pre (wr.alloc (.cells #[.string ⟨#[123, 125, 91, 93, 58, 44]⟩, .func (.func 158) #[] #[]] 230)).drew) := ⟨HK.out.1.keep hbx.out, ab_below HJ.out HK.out.2.1 hbx.out⟩
          clear hbx
          cases hc : (clsB 0).contains (s.data.toList.getD p 0) with
          | false =>
            have hi := ix_no hc
            have HM : Hid (Missed (s.data.toList.getD p 0) 1) := HK.out.2.2.up hc
            generalize Lib.indexByte (clsB 0) (s.data.toList.getD p 0) = ix at *
            clear hc HK
            gi_wp2_with fail
            gi_region_with_o (refine ⟨trivial, ?_⟩; gi_at_call 149; refine (callsIn_wide.2 (HI.out _)).mono ?_; rintro e w' ⟨rfl, hw⟩; obtain rfl := hw.symm)
            all_goals
              gi_wp2_with fail
              go_roundw
              case rel => exact ⟨1, by omega, rfl, by go_num, HKd.out.1, HKd.out.2, HM.out⟩
              case measure => simp [intOf]
          | true =>
            have hi : ¬ Lib.indexByte (clsB 0) (s.data.toList.getD p 0) < 0 := by have := (indexB_has _ _).1 hc; omega
            have HT : Hid (∀ u, ErrIn u → Calls Tryz.prog 158 #[.string s, .int .i64 (p : Int)] u fun e w' => TokR (nextT s.data.toList p) u w' e) := fun u hu => by rw [next_0 hc]; exact w_mark s p u hlt (by omega) hc
            generalize Lib.indexByte (clsB 0) (s.data.toList.getD p 0) = ix at *
            clear hc HK
            have HTk := Hid.mk (tok_at HQ.out.1 hps2)
            obtain ⟨t, ht⟩ : ∃ t, nextT s.data.toList p = t := ⟨_, rfl⟩
            rw [ht] at HT HTk
            clear ht
            obtain ⟨kd, pa, fi, tx, er⟩ := t
            unfold TokR tokV at HT
            dsimp only at HT
            gi_wp2_with fail
            gi_region_with_o (refine ⟨trivial, ?_⟩; gi_at_call 149; refine (callsIn_wide.2 (HI.out _)).mono ?_; rintro e w' ⟨rfl, hw⟩; obtain rfl := hw.symm)
            all_goals
              gi_wp2_with fail
              refine ⟨trivial, (callsIn_wide.2 (HT.out _ HKd.out.1.err)).mono ?_⟩
              rintro e w3 ⟨rfl, hb3⟩
              have HK3 : Hid (CuSt E B Bk w3 ∧ J pre w3) := ⟨HKd.out.1.keep hb3, ab_below HJ.out HKd.out.2 hb3⟩
              clear hb3
              have HJ3 := Hid.mk (ab_below HJ.out HK3.out.2 (below1 w3 (.cells #[.int .i64 (kd : Int), .int .i64 (pa : Int), .int .i64 (fi : Int), .string ⟨tx.toArray⟩] 126)))
              obtain ⟨fn, tmps, assign, body, hy, hR⟩ := HY.out _ ⟨kd, pa, fi, tx, er⟩ _ HJ3.out hlp HTk.out.1
              unfold encT tokV at hy
              dsimp only at hy
              have HRd := Hid.mk hR
              clear hR HJ3
              gi_wp2_with fail
              refine HRd.out.mono ?_
              rintro e W4 (⟨rfl, hJ4, hk4⟩ | ⟨rfl, hJx4⟩ | ⟨ch, rfl, hJp4⟩)
              · by_cases he : er = 0
                · subst he
                  obtain ⟨hT1, hT2, hT3⟩ := HTk.out.2.2 rfl
                  have hfs : fi ≤ s.size := by rw [size_lst] at hT1; exact hT1
                  have HC4 := Hid.mk ((HK3.out.1.keep (below1 w3 _)).round hk4)
                  have hce : W4.cell? ⟨w3.heap.size, 2, none⟩ = some (.int .i64 (fi : Int)) := HK3.out.1.fresh hk4 (cell_of_row _ _ 2 _ _ _ (heap_alloc_new w3 _))
                  have HJ4 := Hid.mk hJ4
                  have HN := Hid.mk (And.intro hT2 hT3)
                  (try dsimp only at HN)
                  clear hJ4 hk4 hy hT1 hT2 hT3
                  gi_wp2_with fail
                  refine ⟨trivial, (callsIn_wide.2 (HBl.out fi _ hfs)).mono ?_⟩
                  rintro e w5 ⟨rfl, hb5⟩
                  have HS5 : Hid (CuSt E B Bk w5 ∧ J (pre ++ [⟨kd, pa, fi, tx, 0⟩]) w5) := ⟨HC4.out.keep hb5, ab_below HJ.out HJ4.out hb5⟩
                  clear hb5 hce HC4 HJ4
                  generalize behL s.data.toList fi cBl = pn at *
                  gi_wp2_with fail
                  go_roundw
                  case rel => exact ⟨pn, _, by have := HN.out.1.1; rwa [size_lst] at this, rfl, HN.out.1, HS5.out.1, HS5.out.2⟩
                  case measure => have := HN.out.2; simp [intOf]; omega
                · have heb : (((er : Nat) : Int) == 0) = false := by rw [beq_eq_false_iff_ne]; omega
                  have HF : Hid (J (allY s.data.toList) W4) := by have := HTk.out.2.1 he; rw [this]; exact hJ4
                  clear hJ4 hk4 hy he
                  gi_wp2_with fail
                  (try rw [Exit.noGoto_ret])
                  refine bodyPost_ret (results_none rfl _ _ _) rfl ?_
                  exact .inl ⟨_, rfl, .inl ⟨_, rfl, HF.out⟩⟩
              · have HX := Hid.mk hJx4
                clear hJx4 hy
                gi_wp2_with fail
                (try rw [Exit.noGoto_ret])
                refine bodyPost_ret (results_none rfl _ _ _) rfl ?_
                exact .inl ⟨_, rfl, .inr ⟨_, HTk.out.1, HX.out⟩⟩
              · have HX := Hid.mk hJp4
                clear hJp4 hy
                first | exact ⟨rfl, .inr ⟨ch, _, rfl, HTk.out.1, HX.out⟩⟩ | exact .inr ⟨ch, _, rfl, HTk.out.1, HX.out⟩
        · have HI : Hid (∀ u, Calls Tryz.prog 149 #[.string ⟨#[34]⟩, .int .u8 ((s[p].toNat : Nat) : Int)] u fun e w' => e = .returned (.int .i64 (Lib.indexByte (clsB 1) (s.data.toList.getD p 0))) ∧ w' = u) := fun u => by
            have := Tryz.strings_IndexByte ⟨#[34]⟩ ((s[p].toNat : Nat) : Int) u
            rw [byte_back] at this
            rw [getD_byte hlt]; exact this
          have hixk := ixk_1
          have hbx := Hid.mk ((below1 wr (.cells #[.string ⟨#[34]⟩, .func (.func 159) #[] #[]] 230)).drew)
          have HKd : Hid (CuSt E B Bk (wr.alloc (.cells #[.string ⟨#[34]⟩, .func (.func 159) #[] #[]] 230)).drew ∧ J pre (wr.alloc (.cells #[.string ⟨#[34]⟩, .func (.func 159) #[] #[]] 230)).drew) := ⟨HK.out.1.keep hbx.out, ab_below HJ.out HK.out.2.1 hbx.out⟩
          clear hbx
          cases hc : (clsB 1).contains (s.data.toList.getD p 0) with
          | false =>
            have hi := ix_no hc
            have HM : Hid (Missed (s.data.toList.getD p 0) 2) := HK.out.2.2.up hc
            generalize Lib.indexByte (clsB 1) (s.data.toList.getD p 0) = ix at *
            clear hc HK
            gi_wp2_with fail
            gi_region_with_o (refine ⟨trivial, ?_⟩; gi_at_call 149; refine (callsIn_wide.2 (HI.out _)).mono ?_; rintro e w' ⟨rfl, hw⟩; obtain rfl := hw.symm)
            all_goals
              gi_wp2_with fail
              go_roundw
              case rel => exact ⟨2, by omega, rfl, by go_num, HKd.out.1, HKd.out.2, HM.out⟩
              case measure => simp [intOf]
          | true =>
            have hi : ¬ Lib.indexByte (clsB 1) (s.data.toList.getD p 0) < 0 := by have := (indexB_has _ _).1 hc; omega
            have HT : Hid (∀ u, ErrIn u → Calls Tryz.prog 159 #[.string s, .int .i64 (p : Int)] u fun e w' => TokR (nextT s.data.toList p) u w' e) := fun u hu => by obtain ⟨e1, e2⟩ := next_1 HK.out.2.2 hc; rw [e1]; exact w_literal s p u hlt (by omega) (by rw [← getD_byte hlt]; exact e2) hu
            generalize Lib.indexByte (clsB 1) (s.data.toList.getD p 0) = ix at *
            clear hc HK
            have HTk := Hid.mk (tok_at HQ.out.1 hps2)
            obtain ⟨t, ht⟩ : ∃ t, nextT s.data.toList p = t := ⟨_, rfl⟩
            rw [ht] at HT HTk
            clear ht
            obtain ⟨kd, pa, fi, tx, er⟩ := t
            unfold TokR tokV at HT
            dsimp only at HT
            gi_wp2_with fail
            gi_region_with_o (refine ⟨trivial, ?_⟩; gi_at_call 149; refine (callsIn_wide.2 (HI.out _)).mono ?_; rintro e w' ⟨rfl, hw⟩; obtain rfl := hw.symm)
            all_goals
              gi_wp2_with fail
              refine ⟨trivial, (callsIn_wide.2 (HT.out _ HKd.out.1.err)).mono ?_⟩
              rintro e w3 ⟨rfl, hb3⟩
              have HK3 : Hid (CuSt E B Bk w3 ∧ J pre w3) := ⟨HKd.out.1.keep hb3, ab_below HJ.out HKd.out.2 hb3⟩
              clear hb3
              have HJ3 := Hid.mk (ab_below HJ.out HK3.out.2 (below1 w3 (.cells #[.int .i64 (kd : Int), .int .i64 (pa : Int), .int .i64 (fi : Int), .string ⟨tx.toArray⟩] 126)))
              obtain ⟨fn, tmps, assign, body, hy, hR⟩ := HY.out _ ⟨kd, pa, fi, tx, er⟩ _ HJ3.out hlp HTk.out.1
              unfold encT tokV at hy
              dsimp only at hy
              have HRd := Hid.mk hR
              clear hR HJ3
              gi_wp2_with fail
              refine HRd.out.mono ?_
              rintro e W4 (⟨rfl, hJ4, hk4⟩ | ⟨rfl, hJx4⟩ | ⟨ch, rfl, hJp4⟩)
              · by_cases he : er = 0
                · subst he
                  obtain ⟨hT1, hT2, hT3⟩ := HTk.out.2.2 rfl
                  have hfs : fi ≤ s.size := by rw [size_lst] at hT1; exact hT1
                  have HC4 := Hid.mk ((HK3.out.1.keep (below1 w3 _)).round hk4)
                  have hce : W4.cell? ⟨w3.heap.size, 2, none⟩ = some (.int .i64 (fi : Int)) := HK3.out.1.fresh hk4 (cell_of_row _ _ 2 _ _ _ (heap_alloc_new w3 _))
                  have HJ4 := Hid.mk hJ4
                  have HN := Hid.mk (And.intro hT2 hT3)
                  (try dsimp only at HN)
                  clear hJ4 hk4 hy hT1 hT2 hT3
                  gi_wp2_with fail
                  refine ⟨trivial, (callsIn_wide.2 (HBl.out fi _ hfs)).mono ?_⟩
                  rintro e w5 ⟨rfl, hb5⟩
                  have HS5 : Hid (CuSt E B Bk w5 ∧ J (pre ++ [⟨kd, pa, fi, tx, 0⟩]) w5) := ⟨HC4.out.keep hb5, ab_below HJ.out HJ4.out hb5⟩
                  clear hb5 hce HC4 HJ4
                  generalize behL s.data.toList fi cBl = pn at *
                  gi_wp2_with fail
                  go_roundw
                  case rel => exact ⟨pn, _, by have := HN.out.1.1; rwa [size_lst] at this, rfl, HN.out.1, HS5.out.1, HS5.out.2⟩
                  case measure => have := HN.out.2; simp [intOf]; omega
                · have heb : (((er : Nat) : Int) == 0) = false := by rw [beq_eq_false_iff_ne]; omega
                  have HF : Hid (J (allY s.data.toList) W4) := by have := HTk.out.2.1 he; rw [this]; exact hJ4
                  clear hJ4 hk4 hy he
                  gi_wp2_with fail
                  (try rw [Exit.noGoto_ret])
                  refine bodyPost_ret (results_none rfl _ _ _) rfl ?_
                  exact .inl ⟨_, rfl, .inl ⟨_, rfl, HF.out⟩⟩
              · have HX := Hid.mk hJx4
                clear hJx4 hy
                gi_wp2_with fail
                (try rw [Exit.noGoto_ret])
                refine bodyPost_ret (results_none rfl _ _ _) rfl ?_
                exact .inl ⟨_, rfl, .inr ⟨_, HTk.out.1, HX.out⟩⟩
              · have HX := Hid.mk hJp4
                clear hJp4 hy
                first | exact ⟨rfl, .inr ⟨ch, _, rfl, HTk.out.1, HX.out⟩⟩ | exact .inr ⟨ch, _, rfl, HTk.out.1, HX.out⟩
        · have HI : Hid (∀ u, Calls Tryz.prog 149 #[.string ⟨#[97, 98, 99, 100, 101, 102, 103, 104, 105, 106, 107, 108, 109, 110, 111, 112, 113, 114, 115, 116, 117, 118, 119, 120, 121, 122, 65, 66, 67, 68, 69, 70, 71, 72, 73, 74, 75, 76, 77, 78, 79, 80, 81, 82, 83, 84, 85, 86, 87, 88, 89, 90, 95]⟩, .int .u8 ((s[p].toNat : Nat) : Int)] u fun e w' => e = .returned (.int .i64 (Lib.indexByte (clsB 2) (s.data.toList.getD p 0))) ∧ w' = u) := fun u => by
            have := Tryz.strings_IndexByte ⟨#[97, 98, 99, 100, 101, 102, 103, 104, 105, 106, 107, 108, 109, 110, 111, 112, 113, 114, 115, 116, 117, 118, 119, 120, 121, 122, 65, 66, 67, 68, 69, 70, 71, 72, 73, 74, 75, 76, 77, 78, 79, 80, 81, 82, 83, 84, 85, 86, 87, 88, 89, 90, 95]⟩ ((s[p].toNat : Nat) : Int) u
            rw [byte_back] at this
            rw [getD_byte hlt]; exact this
          have hixk := ixk_2
          have hbx := Hid.mk ((below1 wr (.cells #[.string ⟨#[97, 98, 99, 100, 101, 102, 103, 104, 105, 106, 107, 108, 109, 110, 111, 112, 113, 114, 115, 116, 117, 118, 119, 120, 121, 122, 65, 66, 67, 68, 69, 70, 71, 72, 73, 74, 75, 76, 77, 78, 79, 80, 81, 82, 83, 84, 85, 86, 87, 88, 89, 90, 95]⟩, .func (.func 160) #[] #[]] 230)).drew)
          have HKd : Hid (CuSt E B Bk (wr.alloc (.cells #[.string ⟨#[97, 98, 99, 100, 101, 102, 103, 104, 105, 106, 107, 108, 109, 110, 111, 112, 113, 114, 115, 116, 117, 118, 119, 120, 121, 122, 65, 66, 67, 68, 69, 70, 71, 72, 73, 74, 75, 76, 77, 78, 79, 80, 81, 82, 83, 84, 85, 86, 87, 88, 89, 90, 95]⟩, .func (.func 160) #[] #[]] 230)).drew ∧ J pre (wr.alloc (.cells #[.string ⟨#[97, 98, 99, 100, 101, 102, 103, 104, 105, 106, 107, 108, 109, 110, 111, 112, 113, 114, 115, 116, 117, 118, 119, 120, 121, 122, 65, 66, 67, 68, 69, 70, 71, 72, 73, 74, 75, 76, 77, 78, 79, 80, 81, 82, 83, 84, 85, 86, 87, 88, 89, 90, 95]⟩, .func (.func 160) #[] #[]] 230)).drew) := ⟨HK.out.1.keep hbx.out, ab_below HJ.out HK.out.2.1 hbx.out⟩
          clear hbx
          cases hc : (clsB 2).contains (s.data.toList.getD p 0) with
          | false =>
            have hi := ix_no hc
            have HM : Hid (Missed (s.data.toList.getD p 0) 3) := HK.out.2.2.up hc
            generalize Lib.indexByte (clsB 2) (s.data.toList.getD p 0) = ix at *
            clear hc HK
            gi_wp2_with fail
            gi_region_with_o (refine ⟨trivial, ?_⟩; gi_at_call 149; refine (callsIn_wide.2 (HI.out _)).mono ?_; rintro e w' ⟨rfl, hw⟩; obtain rfl := hw.symm)
            all_goals
              gi_wp2_with fail
              go_roundw
              case rel => exact ⟨3, by omega, rfl, by go_num, HKd.out.1, HKd.out.2, HM.out⟩
              case measure => simp [intOf]
          | true =>
            have hi : ¬ Lib.indexByte (clsB 2) (s.data.toList.getD p 0) < 0 := by have := (indexB_has _ _).1 hc; omega
            have HT : Hid (∀ u, ErrIn u → Calls Tryz.prog 160 #[.string s, .int .i64 (p : Int)] u fun e w' => TokR (nextT s.data.toList p) u w' e) := fun u hu => by rw [next_2 HK.out.2.2 hc]; exact w_word s p u hlt (by omega)
            generalize Lib.indexByte (clsB 2) (s.data.toList.getD p 0) = ix at *
            clear hc HK
            have HTk := Hid.mk (tok_at HQ.out.1 hps2)
            obtain ⟨t, ht⟩ : ∃ t, nextT s.data.toList p = t := ⟨_, rfl⟩
            rw [ht] at HT HTk
            clear ht
            obtain ⟨kd, pa, fi, tx, er⟩ := t
            unfold TokR tokV at HT
            dsimp only at HT
            gi_wp2_with fail
            gi_region_with_o (refine ⟨trivial, ?_⟩; gi_at_call 149; refine (callsIn_wide.2 (HI.out _)).mono ?_; rintro e w' ⟨rfl, hw⟩; obtain rfl := hw.symm)
            all_goals
              gi_wp2_with fail
              refine ⟨trivial, (callsIn_wide.2 (HT.out _ HKd.out.1.err)).mono ?_⟩
              rintro e w3 ⟨rfl, hb3⟩
              have HK3 : Hid (CuSt E B Bk w3 ∧ J pre w3) := ⟨HKd.out.1.keep hb3, ab_below HJ.out HKd.out.2 hb3⟩
              clear hb3
              have HJ3 := Hid.mk (ab_below HJ.out HK3.out.2 (below1 w3 (.cells #[.int .i64 (kd : Int), .int .i64 (pa : Int), .int .i64 (fi : Int), .string ⟨tx.toArray⟩] 126)))
              obtain ⟨fn, tmps, assign, body, hy, hR⟩ := HY.out _ ⟨kd, pa, fi, tx, er⟩ _ HJ3.out hlp HTk.out.1
              unfold encT tokV at hy
              dsimp only at hy
              have HRd := Hid.mk hR
              clear hR HJ3
              gi_wp2_with fail
              refine HRd.out.mono ?_
              rintro e W4 (⟨rfl, hJ4, hk4⟩ | ⟨rfl, hJx4⟩ | ⟨ch, rfl, hJp4⟩)
              · by_cases he : er = 0
                · subst he
                  obtain ⟨hT1, hT2, hT3⟩ := HTk.out.2.2 rfl
                  have hfs : fi ≤ s.size := by rw [size_lst] at hT1; exact hT1
                  have HC4 := Hid.mk ((HK3.out.1.keep (below1 w3 _)).round hk4)
                  have hce : W4.cell? ⟨w3.heap.size, 2, none⟩ = some (.int .i64 (fi : Int)) := HK3.out.1.fresh hk4 (cell_of_row _ _ 2 _ _ _ (heap_alloc_new w3 _))
                  have HJ4 := Hid.mk hJ4
                  have HN := Hid.mk (And.intro hT2 hT3)
                  (try dsimp only at HN)
                  clear hJ4 hk4 hy hT1 hT2 hT3
                  gi_wp2_with fail
                  refine ⟨trivial, (callsIn_wide.2 (HBl.out fi _ hfs)).mono ?_⟩
                  rintro e w5 ⟨rfl, hb5⟩
                  have HS5 : Hid (CuSt E B Bk w5 ∧ J (pre ++ [⟨kd, pa, fi, tx, 0⟩]) w5) := ⟨HC4.out.keep hb5, ab_below HJ.out HJ4.out hb5⟩
                  clear hb5 hce HC4 HJ4
                  generalize behL s.data.toList fi cBl = pn at *
                  gi_wp2_with fail
                  go_roundw
                  case rel => exact ⟨pn, _, by have := HN.out.1.1; rwa [size_lst] at this, rfl, HN.out.1, HS5.out.1, HS5.out.2⟩
                  case measure => have := HN.out.2; simp [intOf]; omega
                · have heb : (((er : Nat) : Int) == 0) = false := by rw [beq_eq_false_iff_ne]; omega
                  have HF : Hid (J (allY s.data.toList) W4) := by have := HTk.out.2.1 he; rw [this]; exact hJ4
                  clear hJ4 hk4 hy he
                  gi_wp2_with fail
                  (try rw [Exit.noGoto_ret])
                  refine bodyPost_ret (results_none rfl _ _ _) rfl ?_
                  exact .inl ⟨_, rfl, .inl ⟨_, rfl, HF.out⟩⟩
              · have HX := Hid.mk hJx4
                clear hJx4 hy
                gi_wp2_with fail
                (try rw [Exit.noGoto_ret])
                refine bodyPost_ret (results_none rfl _ _ _) rfl ?_
                exact .inl ⟨_, rfl, .inr ⟨_, HTk.out.1, HX.out⟩⟩
              · have HX := Hid.mk hJp4
                clear hJp4 hy
                first | exact ⟨rfl, .inr ⟨ch, _, rfl, HTk.out.1, HX.out⟩⟩ | exact .inr ⟨ch, _, rfl, HTk.out.1, HX.out⟩
        · have HI : Hid (∀ u, Calls Tryz.prog 149 #[.string ⟨#[48, 49, 50, 51, 52, 53, 54, 55, 56, 57, 45]⟩, .int .u8 ((s[p].toNat : Nat) : Int)] u fun e w' => e = .returned (.int .i64 (Lib.indexByte (clsB 3) (s.data.toList.getD p 0))) ∧ w' = u) := fun u => by
            have := Tryz.strings_IndexByte ⟨#[48, 49, 50, 51, 52, 53, 54, 55, 56, 57, 45]⟩ ((s[p].toNat : Nat) : Int) u
            rw [byte_back] at this
            rw [getD_byte hlt]; exact this
          have hixk := ixk_3
          have hbx := Hid.mk ((below1 wr (.cells #[.string ⟨#[48, 49, 50, 51, 52, 53, 54, 55, 56, 57, 45]⟩, .func (.func 161) #[] #[]] 230)).drew)
          have HKd : Hid (CuSt E B Bk (wr.alloc (.cells #[.string ⟨#[48, 49, 50, 51, 52, 53, 54, 55, 56, 57, 45]⟩, .func (.func 161) #[] #[]] 230)).drew ∧ J pre (wr.alloc (.cells #[.string ⟨#[48, 49, 50, 51, 52, 53, 54, 55, 56, 57, 45]⟩, .func (.func 161) #[] #[]] 230)).drew) := ⟨HK.out.1.keep hbx.out, ab_below HJ.out HK.out.2.1 hbx.out⟩
          clear hbx
          cases hc : (clsB 3).contains (s.data.toList.getD p 0) with
          | false =>
            have hi := ix_no hc
            have HM : Hid (Missed (s.data.toList.getD p 0) 4) := HK.out.2.2.up hc
            generalize Lib.indexByte (clsB 3) (s.data.toList.getD p 0) = ix at *
            clear hc HK
            gi_wp2_with fail
            gi_region_with_o (refine ⟨trivial, ?_⟩; gi_at_call 149; refine (callsIn_wide.2 (HI.out _)).mono ?_; rintro e w' ⟨rfl, hw⟩; obtain rfl := hw.symm)
            all_goals
              gi_wp2_with fail
              go_roundw
              case rel => exact ⟨4, by omega, rfl, by go_num, HKd.out.1, HKd.out.2, HM.out⟩
              case measure => simp [intOf]
          | true =>
            have hi : ¬ Lib.indexByte (clsB 3) (s.data.toList.getD p 0) < 0 := by have := (indexB_has _ _).1 hc; omega
            have HT : Hid (∀ u, ErrIn u → Calls Tryz.prog 161 #[.string s, .int .i64 (p : Int)] u fun e w' => TokR (nextT s.data.toList p) u w' e) := fun u hu => by rw [next_3 HK.out.2.2 hc]; exact w_numeral s p u hlt (by omega)
            generalize Lib.indexByte (clsB 3) (s.data.toList.getD p 0) = ix at *
            clear hc HK
            have HTk := Hid.mk (tok_at HQ.out.1 hps2)
            obtain ⟨t, ht⟩ : ∃ t, nextT s.data.toList p = t := ⟨_, rfl⟩
            rw [ht] at HT HTk
            clear ht
            obtain ⟨kd, pa, fi, tx, er⟩ := t
            unfold TokR tokV at HT
            dsimp only at HT
            gi_wp2_with fail
            gi_region_with_o (refine ⟨trivial, ?_⟩; gi_at_call 149; refine (callsIn_wide.2 (HI.out _)).mono ?_; rintro e w' ⟨rfl, hw⟩; obtain rfl := hw.symm)
            all_goals
              gi_wp2_with fail
              refine ⟨trivial, (callsIn_wide.2 (HT.out _ HKd.out.1.err)).mono ?_⟩
              rintro e w3 ⟨rfl, hb3⟩
              have HK3 : Hid (CuSt E B Bk w3 ∧ J pre w3) := ⟨HKd.out.1.keep hb3, ab_below HJ.out HKd.out.2 hb3⟩
              clear hb3
              have HJ3 := Hid.mk (ab_below HJ.out HK3.out.2 (below1 w3 (.cells #[.int .i64 (kd : Int), .int .i64 (pa : Int), .int .i64 (fi : Int), .string ⟨tx.toArray⟩] 126)))
              obtain ⟨fn, tmps, assign, body, hy, hR⟩ := HY.out _ ⟨kd, pa, fi, tx, er⟩ _ HJ3.out hlp HTk.out.1
              unfold encT tokV at hy
              dsimp only at hy
              have HRd := Hid.mk hR
              clear hR HJ3
              gi_wp2_with fail
              refine HRd.out.mono ?_
              rintro e W4 (⟨rfl, hJ4, hk4⟩ | ⟨rfl, hJx4⟩ | ⟨ch, rfl, hJp4⟩)
              · by_cases he : er = 0
                · subst he
                  obtain ⟨hT1, hT2, hT3⟩ := HTk.out.2.2 rfl
                  have hfs : fi ≤ s.size := by rw [size_lst] at hT1; exact hT1
                  have HC4 := Hid.mk ((HK3.out.1.keep (below1 w3 _)).round hk4)
                  have hce : W4.cell? ⟨w3.heap.size, 2, none⟩ = some (.int .i64 (fi : Int)) := HK3.out.1.fresh hk4 (cell_of_row _ _ 2 _ _ _ (heap_alloc_new w3 _))
                  have HJ4 := Hid.mk hJ4
                  have HN := Hid.mk (And.intro hT2 hT3)
                  (try dsimp only at HN)
                  clear hJ4 hk4 hy hT1 hT2 hT3
                  gi_wp2_with fail
                  refine ⟨trivial, (callsIn_wide.2 (HBl.out fi _ hfs)).mono ?_⟩
                  rintro e w5 ⟨rfl, hb5⟩
                  have HS5 : Hid (CuSt E B Bk w5 ∧ J (pre ++ [⟨kd, pa, fi, tx, 0⟩]) w5) := ⟨HC4.out.keep hb5, ab_below HJ.out HJ4.out hb5⟩
                  clear hb5 hce HC4 HJ4
                  generalize behL s.data.toList fi cBl = pn at *
                  gi_wp2_with fail
                  go_roundw
                  case rel => exact ⟨pn, _, by have := HN.out.1.1; rwa [size_lst] at this, rfl, HN.out.1, HS5.out.1, HS5.out.2⟩
                  case measure => have := HN.out.2; simp [intOf]; omega
                · have heb : (((er : Nat) : Int) == 0) = false := by rw [beq_eq_false_iff_ne]; omega
                  have HF : Hid (J (allY s.data.toList) W4) := by have := HTk.out.2.1 he; rw [this]; exact hJ4
                  clear hJ4 hk4 hy he
                  gi_wp2_with fail
                  (try rw [Exit.noGoto_ret])
                  refine bodyPost_ret (results_none rfl _ _ _) rfl ?_
                  exact .inl ⟨_, rfl, .inl ⟨_, rfl, HF.out⟩⟩
              · have HX := Hid.mk hJx4
                clear hJx4 hy
                gi_wp2_with fail
                (try rw [Exit.noGoto_ret])
                refine bodyPost_ret (results_none rfl _ _ _) rfl ?_
                exact .inl ⟨_, rfl, .inr ⟨_, HTk.out.1, HX.out⟩⟩
              · have HX := Hid.mk hJp4
                clear hJp4 hy
                first | exact ⟨rfl, .inr ⟨ch, _, rfl, HTk.out.1, HX.out⟩⟩ | exact .inr ⟨ch, _, rfl, HTk.out.1, HX.out⟩
        · have HM := Hid.mk HK.out.2.2
          have HTk := Hid.mk (tok_at HQ.out.1 hps2)
          rw [next_4 HM.out] at HTk
          gi_wp2_with fail
          refine ⟨trivial, (callsIn_wide.2 (w_fault _ _ _)).mono ?_⟩
          rintro e w3 ⟨rfl, hb3⟩
          have HJ3 := Hid.mk (ab_below HJ.out HK.out.2.1 hb3)
          clear hb3
          obtain ⟨fn, tmps, assign, body, hy, hR⟩ := HY.out _ ⟨0, p, 0, [], 40⟩ _ HJ3.out hlp HTk.out.1
          replace hy : (Instr.yield l #[.agg #[.int .i64 0, .int .i64 (p : Int), .int .i64 0, .string ⟨#[]⟩], .int .i64 40]).run Tryz.prog w3 = .ok (.round l fn tmps assign body) w3 := hy
          have HRd := Hid.mk hR
          clear hR HJ3
          gi_wp2_with fail
          refine HRd.out.mono ?_
          rintro e W4 (⟨rfl, hJ4, hk4⟩ | ⟨rfl, hJx4⟩ | ⟨ch, rfl, hJp4⟩)
          · have HF : Hid (J (allY s.data.toList) W4) := by have := HTk.out.2.1 (by decide); rw [this]; exact hJ4
            clear hJ4 hk4 hy
            gi_wp2_with fail
            (try rw [Exit.noGoto_ret])
            refine bodyPost_ret (results_none rfl _ _ _) rfl ?_
            exact .inl ⟨_, rfl, .inl ⟨_, rfl, HF.out⟩⟩
          · have HX := Hid.mk hJx4
            clear hJx4 hy
            gi_wp2_with fail
            (try rw [Exit.noGoto_ret])
            refine bodyPost_ret (results_none rfl _ _ _) rfl ?_
            exact .inl ⟨_, rfl, .inr ⟨_, HTk.out.1, HX.out⟩⟩
          · have HX := Hid.mk hJp4
            clear hJp4 hy
            first | exact ⟨rfl, .inr ⟨ch, _, rfl, HTk.out.1, HX.out⟩⟩ | exact .inr ⟨ch, _, rfl, HTk.out.1, HX.out⟩
    · have hl1 : ¬ (p : Int) < (s.size : Int) := by omega
      have HF : Hid (J (allY s.data.toList) wr) := by rw [HQ.out.1.done (by rw [size_lst]; exact hlt)]; exact HQ.out.2.2
      gi_wp2_with fail
      go_end0
      first | exact .inl ⟨_, rfl, .inl HF.out⟩ | exact .inl ⟨_, rfl, .inl ⟨_, rfl, HF.out⟩⟩ | exact .inl (.inl HF.out) | (simp; exact .inl HF.out)

end Go.Proofs.YtfjmgccbpiolhaaGreatDoor
namespace Go.Proofs.YtfjmgccbpiolhaaGreatDoor
open Go.RowKit Go.Shelf
set_option linter.unusedVariables false
set_option linter.unusedSimpArgs false
attribute [local go_sem] Oper.semAt_some

set_option maxRecDepth 100000 in
set_option maxHeartbeats 800000 in
theorem w_Seq (s : ByteArray) (w : World) : Calls Tryz.prog 126 #[.string s] w fun e w' => e = .returned (.func (.func 141) #[.string s] #[]) ∧ w' = w := by
  go_enter Tryz.func126, Tryz.ntmps126
  go_wp2_with fail
  go_ret
  exact ⟨rfl, rfl⟩

end Go.Proofs.YtfjmgccbpiolhaaGreatDoor
namespace Go.Proofs.YtfjmgccbpiolhaaGreatDoor
open Go.RowKit Go.Shelf
set_option linter.unusedVariables false
set_option linter.unusedSimpArgs false
attribute [local go_sem] Oper.semAt_some

def TRow (w : World) (so : Option Addr) (l : List Tok) : Prop := ∀ i, (h : i < l.length) → ∃ g off, so = some ⟨g, off, none⟩ ∧ g < w.heap.size ∧ w.cell? ⟨g, off + i * 4, none⟩ = some (.int .i64 (l[i].kind : Int)) ∧ w.cell? ⟨g, off + i * 4 + 1, none⟩ = some (.int .i64 (l[i].at_ : Int)) ∧ w.cell? ⟨g, off + i * 4 + 2, none⟩ = some (.int .i64 (l[i].fin : Int)) ∧ w.cell? ⟨g, off + i * 4 + 3, none⟩ = some (.string ⟨l[i].text.toArray⟩)
theorem TRow.keep {w w' : World} {so : Option Addr} {l : List Tok} (h : TRow w so l) (hb : Below w.heap.size w w') : TRow w' so l := fun i hi => by
  obtain ⟨g, off, e, hg, a0, a1, a2, a3⟩ := h i hi
  exact ⟨g, off, e, Nat.lt_of_lt_of_le hg hb.size, (hb.cell (p := ⟨_, _, _⟩) hg).trans a0, (hb.cell (p := ⟨_, _, _⟩) hg).trans a1, (hb.cell (p := ⟨_, _, _⟩) hg).trans a2, (hb.cell (p := ⟨_, _, _⟩) hg).trans a3⟩
end Go.Proofs.YtfjmgccbpiolhaaGreatDoor
namespace Go.Proofs.YtfjmgccbpiolhaaGreatDoor
open Go.RowKit
set_option linter.unusedVariables false
set_option linter.unusedSimpArgs false

theorem dropWhile_app (p : UInt8 → Bool) (c : UInt8) (y : List UInt8) (hc : p c = false) : ∀ x : List UInt8, ((x ++ c :: y).dropWhile p).length = (x.dropWhile p).length + (c :: y).length := by
  intro x
  induction x with
  | nil => rw [List.nil_append, List.dropWhile_cons, if_neg (by rw [hc]; decide)]; simp
  | cons a x ih =>
    rw [List.cons_append, List.dropWhile_cons, List.dropWhile_cons]
    split
    · exact ih
    · simp; omega
theorem behL_app {a b : List UInt8} {c : UInt8} {p : Nat} {cs : List UInt8} (hp : p ≤ a.length) (hc : cs.contains c = false) : behL (a ++ c :: b) p cs = behL a p cs := by
  unfold behL
  rw [List.drop_append_of_le_length hp, dropWhile_app (cs.contains ·) c b hc]
  have := dropWhile_le (cs.contains ·) (a.drop p)
  rw [List.length_drop] at this
  simp
  omega
theorem cut_app {a b : List UInt8} {p q : Nat} (hq : q ≤ a.length) : cut (a ++ b) p q = cut a p q := by
  unfold cut
  by_cases h : p ≤ a.length
  · rw [List.drop_append_of_le_length h, List.take_append_of_le_length (by rw [List.length_drop]; omega)]
  · rw [show q - p = 0 by omega]; simp
theorem getD_app {a b : List UInt8} {p : Nat} (hp : p < a.length) : (a ++ b).getD p 0 = a.getD p 0 := by
  rw [List.getD, List.getD, List.getElem?_append_left hp]
theorem wordT_app {a b : List UInt8} {p : Nat} (hp : p < a.length) : wordT (a ++ 10 :: b) p = wordT a p := by
  have hb := behL_app (a := a) (b := b) (c := 10) (p := p) (cs := cWd) (by omega) (by decide +kernel)
  have hl := (behL_ge (l := a) (p := p) cWd (by omega)).2
  unfold wordT
  rw [hb, cut_app hl]
theorem drop_pre {x b : List UInt8} {p : Nat} : (x ++ b).drop (x.length + p) = b.drop p := by
  rw [← List.drop_drop]; simp
theorem behL_pre {x b : List UInt8} {p : Nat} {cs : List UInt8} (hp : p ≤ b.length) : behL (x ++ b) (x.length + p) cs = x.length + behL b p cs := by
  unfold behL
  rw [drop_pre, List.length_append]
  have := dropWhile_le (cs.contains ·) (b.drop p)
  rw [List.length_drop] at this
  omega
theorem cut_pre {x b : List UInt8} {p q : Nat} : cut (x ++ b) (x.length + p) (x.length + q) = cut b p q := by
  unfold cut
  rw [drop_pre, show x.length + q - (x.length + p) = q - p by omega]
theorem getD_pre {x b : List UInt8} {p : Nat} : (x ++ b).getD (x.length + p) 0 = b.getD p 0 := by
  rw [List.getD, List.getD, List.getElem?_append_right (by omega), show x.length + p - x.length = p by omega]
def shiftT (m : Nat) (t : Tok) : Tok := if t.err = 0 then ⟨t.kind, m + t.at_, m + t.fin, t.text, 0⟩ else ⟨t.kind, m + t.at_, t.fin, t.text, t.err⟩
theorem wordT_pre {x b : List UInt8} {p : Nat} (hp : p < b.length) : wordT (x ++ b) (x.length + p) = shiftT x.length (wordT b p) := by
  unfold wordT
  rw [behL_pre (by omega), cut_pre]
  split
  · rfl
  · split
    · rfl
    · split <;> rfl
theorem numeralT_pre {x b : List UInt8} {p : Nat} (hp : p < b.length) : numeralT (x ++ b) (x.length + p) = shiftT x.length (numeralT b p) := by
  unfold numeralT
  rw [behL_pre (by omega), cut_pre]
  split <;> rfl
end Go.Proofs.YtfjmgccbpiolhaaGreatDoor
namespace Go.Proofs.YtfjmgccbpiolhaaGreatDoor
open Go.RowKit
set_option linter.unusedVariables false
set_option linter.unusedSimpArgs false

theorem escL_pre (x b : List UInt8) (k : Nat) : escL (x ++ b) (x.length + k) = ((escL b k).1, x.length + (escL b k).2.1, (escL b k).2.2) := by
  unfold escL
  rw [drop_pre, show x.length + k + 6 = x.length + (k + 6) by omega, drop_pre]
  split
  · simp [Nat.add_assoc]
  · split
    · rfl
    · split
      · simp [Nat.add_assoc]
      · split
        · rfl
        · split
          · simp [Nat.add_assoc]
          · rfl
theorem unqL_step {l : List UInt8} {p : Nat} (acc : List Nat) (h : p < l.length) : unqL l p acc =
    (if (decL (l.drop p)).1 = 34 then (acc, p + 1, 0)
    else if (decL (l.drop p)).1 < 32 then ([], p, 22)
    else if strayL (l.drop p) = true then ([], p, 20)
    else if (decL (l.drop p)).1 = 92 then
      (if (escL l p).2.2 = 0 then (if p < (escL l p).2.1 then unqL l (escL l p).2.1 (acc ++ [(escL l p).1]) else ([], 0, 0)) else ([], (escL l p).2.1, (escL l p).2.2))
    else (if 0 < (decL (l.drop p)).2 then unqL l (p + (decL (l.drop p)).2) (acc ++ [(decL (l.drop p)).1]) else ([], 0, 0))) := by
  rw [unqL, dif_pos h]
theorem unqL_pre (x b : List UInt8) : ∀ (n p : Nat) (acc : List Nat), b.length - p ≤ n → p ≤ b.length → unqL (x ++ b) (x.length + p) acc = ((unqL b p acc).1, x.length + (unqL b p acc).2.1, (unqL b p acc).2.2) := by
  intro n
  induction n with
  | zero =>
    intro p acc hn hp
    rw [unqL_end acc (by simp; omega), unqL_end acc (by omega)]
    simp
  | succ n ih =>
    intro p acc hn hp
    by_cases hlt : p < b.length
    · have e1 := unqL_step (l := x ++ b) (p := x.length + p) acc (by simp; omega)
      rw [drop_pre, escL_pre] at e1
      have e2 := unqL_step (l := b) acc hlt
      rw [e1, e2]
      by_cases h1 : (decL (b.drop p)).1 = 34
      · rw [if_pos h1, if_pos h1]; rfl
      · rw [if_neg h1, if_neg h1]
        by_cases h2 : (decL (b.drop p)).1 < 32
        · rw [if_pos h2, if_pos h2]
        · rw [if_neg h2, if_neg h2]
          by_cases h3 : strayL (b.drop p) = true
          · rw [if_pos h3, if_pos h3]
          · rw [if_neg h3, if_neg h3]
            by_cases h4 : (decL (b.drop p)).1 = 92
            · rw [if_pos h4, if_pos h4]
              dsimp only
              by_cases h5 : (escL b p).2.2 = 0
              · obtain ⟨g1, g2, _⟩ := escL_ok h5
                rw [if_pos h5, if_pos h5, if_pos g1, if_pos (by omega), ih _ _ (by omega) g2]
              · rw [if_neg h5, if_neg h5]
            · rw [if_neg h4, if_neg h4]
              have hz := decL_pos (b.drop p)
              have hst := decL_le (b.drop p) (fun e => by have := congrArg List.length e; rw [List.length_drop] at this; simp at this; omega)
              rw [List.length_drop] at hst
              rw [if_pos (by omega), if_pos (by omega), show x.length + p + (decL (b.drop p)).2 = x.length + (p + (decL (b.drop p)).2) by omega, ih _ _ (by omega) (by omega)]
    · rw [unqL_end acc (by simp; omega), unqL_end acc (by omega)]
      simp
theorem shiftT_err (m : Nat) (t : Tok) : (shiftT m t).err = t.err := by
  unfold shiftT
  split
  · next h => exact h.symm
  · rfl
theorem litT_pre {x b : List UInt8} {p : Nat} (hp : p < b.length) : litT (x ++ b) (x.length + p) = shiftT x.length (litT b p) := by
  unfold litT
  rw [show x.length + p + 1 = x.length + (p + 1) by omega, unqL_pre x b (b.length - (p + 1)) (p + 1) [] (Nat.le_refl _) (by omega)]
  dsimp only
  by_cases h : (unqL b (p + 1) []).2.2 = 0
  · rw [if_pos h, if_pos h]; rfl
  · rw [if_neg h, if_neg h]
    unfold shiftT
    rw [if_neg h]
theorem nextT_pre {x b : List UInt8} {p : Nat} (hp : p < b.length) : nextT (x ++ b) (x.length + p) = shiftT x.length (nextT b p) := by
  unfold nextT
  rw [getD_pre, litT_pre hp, wordT_pre hp, numeralT_pre hp]
  split
  · rfl
  · split
    · rfl
    · split
      · rfl
      · split <;> rfl
end Go.Proofs.YtfjmgccbpiolhaaGreatDoor
namespace Go.Proofs.YtfjmgccbpiolhaaGreatDoor
open Go.RowKit
set_option linter.unusedVariables false
set_option linter.unusedSimpArgs false

theorem dec_app {x : List UInt8} (y : List UInt8) (hx : x ≠ []) (hs : strayL x = false) : decL (x ++ y) = decL x ∧ strayL (x ++ y) = false := by
  rcases stray_or x hx with ⟨n, post, hn, rfl, _⟩ | ⟨_, h⟩
  · rw [List.append_assoc, dec_enc n hn, dec_enc n hn]
    exact ⟨rfl, stray_enc n hn _⟩
  · rw [h] at hs; cases hs
theorem shortL_app {x : List UInt8} (y : List UInt8) (h : 2 ≤ x.length) : shortL (x ++ y) = shortL x := by
  unfold shortL
  rw [getD_app (by omega), getD_app (by omega)]
  have : 2 ≤ (x ++ y).length := by simp; omega
  simp only [this, h, and_true]
theorem numL_app {x : List UInt8} (y : List UInt8) (h : 6 ≤ x.length) : numL (x ++ y) = numL x := by
  unfold numL
  rw [getD_app (by omega), getD_app (by omega), List.drop_append_of_le_length (by omega), List.take_append_of_le_length (by rw [List.length_drop]; omega)]
  have : 6 ≤ (x ++ y).length := by simp; omega
  simp only [this, h, true_and]
theorem shortL_len {x : List UInt8} {r : Nat} (h : shortL x = some r) : 2 ≤ x.length := by
  unfold shortL at h
  split at h
  · next h1 => exact h1.2
  · cases h
theorem numL_len {x : List UInt8} {r : Nat} (h : numL x = some r) : 6 ≤ x.length := by
  unfold numL at h
  split at h
  · next h1 => exact h1.1
  · cases h
theorem escL_app {a : List UInt8} (y : List UInt8) {k : Nat} (hk : k ≤ a.length) (h : (escL a k).2.2 = 0) : escL (a ++ y) k = escL a k := by
  unfold escL at h ⊢
  rw [List.drop_append_of_le_length hk]
  cases hs : shortL (a.drop k) with
  | some r => rw [shortL_app y (shortL_len hs), hs]
  | none =>
    rw [hs] at h
    dsimp only at h
    cases hn : numL (a.drop k) with
    | none => rw [hn] at h; cases h
    | some n =>
      have h6 := numL_len hn
      rw [hn] at h
      dsimp only at h
      rw [shortL_app y (by omega), hs, numL_app y h6, hn]
      dsimp only
      rw [List.length_drop] at h6
      split
      · rfl
      · next hc =>
        rw [if_neg hc] at h
        cases hm : numL (a.drop (k + 6)) with
        | none => rw [hm] at h; cases h
        | some m => rw [List.drop_append_of_le_length (by omega), numL_app y (numL_len hm), hm]
theorem unqL_app {a : List UInt8} (y : List UInt8) : ∀ (n p : Nat) (acc : List Nat), a.length - p ≤ n → (unqL a p acc).2.2 = 0 → unqL (a ++ y) p acc = unqL a p acc := by
  intro n
  induction n with
  | zero => intro p acc hn h0; rw [unqL_end acc (by omega)] at h0; cases h0
  | succ n ih =>
    intro p acc hn h0
    by_cases hlt : p < a.length
    · have hne : a.drop p ≠ [] := fun e => by have := congrArg List.length e; rw [List.length_drop] at this; simp at this; omega
      have e2 := unqL_step (l := a) acc hlt
      have hs : strayL (a.drop p) = false := by
        cases hst : strayL (a.drop p) with
        | false => rfl
        | true =>
          exfalso
          rcases stray_or (a.drop p) hne with ⟨_, _, _, _, h⟩ | ⟨hd, _⟩
          · rw [h] at hst; cases hst
          · rw [e2, if_neg (by rw [hd]; decide), if_neg (by rw [hd]; decide), if_pos hst] at h0
            cases h0
      obtain ⟨d1, d2⟩ := dec_app y hne hs
      have e1 := unqL_step (l := a ++ y) (p := p) acc (by simp; omega)
      rw [List.drop_append_of_le_length (Nat.le_of_lt hlt), d1] at e1
      rw [e2] at h0
      rw [e1, e2]
      by_cases h1 : (decL (a.drop p)).1 = 34
      · rw [if_pos h1, if_pos h1]
      · rw [if_neg h1] at h0
        rw [if_neg h1, if_neg h1]
        by_cases h2 : (decL (a.drop p)).1 < 32
        · rw [if_pos h2] at h0; cases h0
        · rw [if_neg h2] at h0
          rw [if_neg h2, if_neg h2]
          rw [if_neg (show ¬ strayL (a.drop p) = true by rw [hs]; decide)] at h0
          rw [if_neg (show ¬ strayL (a.drop p ++ y) = true by rw [d2]; decide), if_neg (show ¬ strayL (a.drop p) = true by rw [hs]; decide)]
          by_cases h4 : (decL (a.drop p)).1 = 92
          · rw [if_pos h4] at h0
            rw [if_pos h4, if_pos h4]
            by_cases h5 : (escL a p).2.2 = 0
            · obtain ⟨g1, g2, _⟩ := escL_ok h5
              rw [if_pos h5, if_pos g1] at h0
              rw [escL_app y (Nat.le_of_lt hlt) h5, if_pos h5, if_pos h5, if_pos g1, if_pos g1, ih _ _ (by omega) h0]
            · rw [if_neg h5] at h0; exact absurd h0 h5
          · rw [if_neg h4] at h0
            rw [if_neg h4, if_neg h4]
            have hz := decL_pos (a.drop p)
            rw [if_pos (by omega)] at h0
            rw [if_pos (by omega), if_pos (by omega), ih _ _ (by omega) h0]
    · rw [unqL_end acc hlt] at h0; cases h0
theorem litT_app {a : List UInt8} (y : List UInt8) {p : Nat} (h : (litT a p).err = 0) : litT (a ++ y) p = litT a p := by
  have hu : (unqL a (p + 1) []).2.2 = 0 := by
    unfold litT at h
    split at h
    · assumption
    · exact h
  unfold litT
  rw [unqL_app y (a.length - (p + 1)) (p + 1) [] (Nat.le_refl _) hu]
end Go.Proofs.YtfjmgccbpiolhaaGreatDoor
namespace Go.Proofs.YtfjmgccbpiolhaaGreatDoor
open Go.RowKit
set_option linter.unusedVariables false
set_option linter.unusedSimpArgs false

theorem run_take (p : UInt8 → Bool) : ∀ l : List UInt8, (l.take (l.length - (l.dropWhile p).length)).dropWhile p = [] := by
  intro l
  induction l with
  | nil => rfl
  | cons c r ih =>
    have h := dropWhile_le p r
    by_cases hc : p c = true
    · rw [List.dropWhile_cons, if_pos hc, List.length_cons, show r.length + 1 - (r.dropWhile p).length = (r.length - (r.dropWhile p).length) + 1 by omega, List.take_succ_cons, List.dropWhile_cons, if_pos hc]
      exact ih
    · rw [List.dropWhile_cons, if_neg hc, Nat.sub_self]
      rfl
theorem behL_take (l cs : List UInt8) : behL (l.take (behL l 0 cs)) 0 cs = behL l 0 cs := by
  have h := run_take (cs.contains ·) l
  unfold behL
  rw [List.drop_zero, List.drop_zero, h, List.length_take]
  simp
theorem getD_take {x : List UInt8} {k p : Nat} (hp : p < k) : (x.take k).getD p 0 = x.getD p 0 := by
  rw [List.getD, List.getD, List.getElem?_take, if_pos hp]
theorem dec_take {x : List UInt8} {k : Nat} (hx : x ≠ []) (hs : strayL x = false) (hk : (decL x).2 ≤ k) : decL (x.take k) = decL x ∧ strayL (x.take k) = false := by
  rcases stray_or x hx with ⟨n, post, hn, rfl, _⟩ | ⟨_, h⟩
  · rw [dec_enc n hn] at hk ⊢
    dsimp only at hk
    rw [List.take_append, List.take_of_length_le hk, dec_enc n hn]
    exact ⟨rfl, stray_enc n hn _⟩
  · rw [h] at hs; cases hs
theorem dec_one {x : List UInt8} (hx : x ≠ []) (hs : strayL x = false) (h : (decL x).1 < 128) : (decL x).2 = 1 := by
  rcases stray_or x hx with ⟨n, post, hn, rfl, _⟩ | ⟨_, h2⟩
  · rw [dec_enc n hn] at h ⊢
    dsimp only at h ⊢
    unfold enc
    rw [if_pos h]
    rfl
  · rw [h2] at hs; cases hs
theorem shortL_take {x : List UInt8} {k : Nat} (h : 2 ≤ x.length) (hk : 2 ≤ k) : shortL (x.take k) = shortL x := by
  unfold shortL
  rw [getD_take (by omega), getD_take (by omega)]
  have : 2 ≤ (x.take k).length := by rw [List.length_take]; omega
  simp only [this, h, and_true]
theorem numL_take {x : List UInt8} {k : Nat} (h : 6 ≤ x.length) (hk : 6 ≤ k) : numL (x.take k) = numL x := by
  unfold numL
  rw [getD_take (by omega), getD_take (by omega), List.drop_take, List.take_take, Nat.min_eq_left (by omega)]
  have : 6 ≤ (x.take k).length := by rw [List.length_take]; omega
  simp only [this, h, true_and]
theorem escL_take {a : List UInt8} {f k : Nat} (hk : k ≤ a.length) (h : (escL a k).2.2 = 0) (hf : (escL a k).2.1 ≤ f) : escL (a.take f) k = escL a k := by
  unfold escL at h hf ⊢
  rw [List.drop_take]
  cases hs : shortL (a.drop k) with
  | some r =>
    rw [hs] at hf
    dsimp only at hf
    rw [shortL_take (shortL_len hs) (by omega), hs]
  | none =>
    rw [hs] at h hf
    dsimp only at h hf
    cases hn : numL (a.drop k) with
    | none => rw [hn] at h; cases h
    | some n =>
      have h6 := numL_len hn
      rw [hn] at h hf
      dsimp only at h hf
      by_cases hc : n < 55296 ∨ 57344 ≤ n
      · rw [if_pos hc] at hf
        dsimp only at hf
        rw [shortL_take (by omega) (by omega), hs, numL_take h6 (by omega), hn]
        dsimp only
        rw [if_pos hc, if_pos hc]
      · rw [if_neg hc] at h hf
        cases hm : numL (a.drop (k + 6)) with
        | none => rw [hm] at h; cases h
        | some m =>
          rw [hm] at h hf
          dsimp only at h hf
          by_cases hd : n < 56320 ∧ 56320 ≤ m ∧ m < 57344
          · rw [if_pos hd] at hf
            dsimp only at hf
            rw [shortL_take (by omega) (by omega), hs, numL_take h6 (by omega), hn]
            dsimp only
            rw [if_neg hc, if_neg hc, List.drop_take, numL_take (numL_len hm) (by omega), hm]
          · rw [if_neg hd] at h; cases h
theorem unqL_take {a : List UInt8} {f : Nat} : ∀ (n p : Nat) (acc : List Nat), a.length - p ≤ n → (unqL a p acc).2.2 = 0 → (unqL a p acc).2.1 ≤ f → unqL (a.take f) p acc = unqL a p acc := by
  intro n
  induction n with
  | zero => intro p acc hn h0; rw [unqL_end acc (by omega)] at h0; cases h0
  | succ n ih =>
    intro p acc hn h0 hf
    by_cases hlt : p < a.length
    · have hne : a.drop p ≠ [] := fun e => by have := congrArg List.length e; rw [List.length_drop] at this; simp at this; omega
      have e2 := unqL_step (l := a) acc hlt
      have hs : strayL (a.drop p) = false := by
        cases hst : strayL (a.drop p) with
        | false => rfl
        | true =>
          exfalso
          rcases stray_or (a.drop p) hne with ⟨_, _, _, _, h⟩ | ⟨hd, _⟩
          · rw [h] at hst; cases hst
          · rw [e2, if_neg (by rw [hd]; decide), if_neg (by rw [hd]; decide), if_pos hst] at h0
            cases h0
      have hz := decL_pos (a.drop p)
      have hst := decL_le (a.drop p) hne
      rw [List.length_drop] at hst
      rw [e2] at h0 hf
      have key : ∀ hk : (decL (a.drop p)).2 ≤ f - p, unqL (a.take f) p acc =
          (if (decL (a.drop p)).1 = 34 then (acc, p + 1, 0)
          else if (decL (a.drop p)).1 < 32 then ([], p, 22)
          else if strayL (a.drop p) = true then ([], p, 20)
          else if (decL (a.drop p)).1 = 92 then
            (if (escL (a.take f) p).2.2 = 0 then (if p < (escL (a.take f) p).2.1 then unqL (a.take f) (escL (a.take f) p).2.1 (acc ++ [(escL (a.take f) p).1]) else ([], 0, 0)) else ([], (escL (a.take f) p).2.1, (escL (a.take f) p).2.2))
          else (if 0 < (decL (a.drop p)).2 then unqL (a.take f) (p + (decL (a.drop p)).2) (acc ++ [(decL (a.drop p)).1]) else ([], 0, 0))) := by
        intro hk
        obtain ⟨d1, d2⟩ := dec_take hne hs hk
        have e1 := unqL_step (l := a.take f) (p := p) acc (by rw [List.length_take]; omega)
        rw [List.drop_take, d1, d2, ← hs] at e1
        exact e1
      rw [e2]
      by_cases h1 : (decL (a.drop p)).1 = 34
      · rw [if_pos h1] at hf
        dsimp only at hf
        rw [key (by rw [dec_one hne hs (by omega)]; omega), if_pos h1, if_pos h1]
      · rw [if_neg h1] at h0 hf
        by_cases h2 : (decL (a.drop p)).1 < 32
        · rw [if_pos h2] at h0; cases h0
        · rw [if_neg h2] at h0 hf
          rw [if_neg (show ¬ strayL (a.drop p) = true by rw [hs]; decide)] at h0 hf
          by_cases h4 : (decL (a.drop p)).1 = 92
          · rw [if_pos h4] at h0 hf
            by_cases h5 : (escL a p).2.2 = 0
            · obtain ⟨g1, g2, _⟩ := escL_ok h5
              rw [if_pos h5, if_pos g1] at h0 hf
              have := unqL_le a _ _ _ (Nat.le_refl _) h0 g2
              rw [key (by rw [dec_one hne hs (by omega)]; omega), if_neg h1, if_neg h1, if_neg h2, if_neg h2, if_neg (show ¬ strayL (a.drop p) = true by rw [hs]; decide), if_neg (show ¬ strayL (a.drop p) = true by rw [hs]; decide), if_pos h4, if_pos h4]
              rw [escL_take (Nat.le_of_lt hlt) h5 (by omega), if_pos h5, if_pos h5, if_pos g1, if_pos g1, ih _ _ (by omega) h0 hf]
            · rw [if_neg h5] at h0; exact absurd h0 h5
          · rw [if_neg h4] at h0 hf
            rw [if_pos (by omega)] at h0 hf
            have := unqL_le a _ _ _ (Nat.le_refl _) h0 (by omega)
            rw [key (by omega), if_neg h1, if_neg h1, if_neg h2, if_neg h2, if_neg (show ¬ strayL (a.drop p) = true by rw [hs]; decide), if_neg (show ¬ strayL (a.drop p) = true by rw [hs]; decide), if_neg h4, if_neg h4]
            rw [if_pos (by omega), if_pos (by omega), ih _ _ (by omega) h0 hf]
    · rw [unqL_end acc hlt] at h0; cases h0

theorem cut_zero (l : List UInt8) (e : Nat) : cut (l.take e) 0 e = cut l 0 e := by
  unfold cut
  rw [List.drop_zero, List.drop_zero, List.take_take, Nat.sub_zero, Nat.min_self]
theorem wordT_take {l : List UInt8} (h : (wordT l 0).err = 0) : wordT (l.take (wordT l 0).fin) 0 = wordT l 0 := by
  have hf : (wordT l 0).fin = behL l 0 cWd := by
    unfold wordT at h ⊢
    split
    · rfl
    · next h1 =>
      rw [if_neg h1] at h
      split
      · rfl
      · next h2 =>
        rw [if_neg h2] at h
        split
        · rfl
        · next h3 => rw [if_neg h3] at h; cases h
  rw [hf]
  unfold wordT
  rw [behL_take, cut_zero]
theorem numeralT_take {l : List UInt8} (h : (numeralT l 0).err = 0) : numeralT (l.take (numeralT l 0).fin) 0 = numeralT l 0 := by
  have hf : (numeralT l 0).fin = behL l 0 cNm := by
    unfold numeralT at h ⊢
    split
    · rfl
    · next h1 => rw [if_neg h1] at h; cases h
  rw [hf]
  unfold numeralT
  rw [behL_take, cut_zero]
theorem litT_take {l : List UInt8} (h : (litT l 0).err = 0) : litT (l.take (litT l 0).fin) 0 = litT l 0 := by
  have hu : (unqL l (0 + 1) []).2.2 = 0 := by
    unfold litT at h
    split at h
    · assumption
    · exact h
  have hf : (litT l 0).fin = (unqL l (0 + 1) []).2.1 := by unfold litT; rw [if_pos hu]
  rw [hf]
  unfold litT
  rw [unqL_take _ _ _ (Nat.le_refl _) hu (Nat.le_refl _)]
theorem nextT_take {l : List UInt8} (hl : 0 < l.length) (h : (nextT l 0).err = 0) : nextT (l.take (nextT l 0).fin) 0 = nextT l 0 := by
  have hup := (nextT_up hl h).1
  have hg := getD_take (x := l) hup
  unfold nextT at h ⊢
  unfold nextT at hg
  rw [hg]
  split
  · rfl
  · next h1 =>
    rw [if_neg h1] at h
    split
    · next h2 => rw [if_pos h2] at h; exact litT_take h
    · next h2 =>
      rw [if_neg h2] at h
      split
      · next h3 => rw [if_pos h3] at h; exact wordT_take h
      · next h3 =>
        rw [if_neg h3] at h
        split
        · next h4 => rw [if_pos h4] at h; exact numeralT_take h
        · next h4 => exact absurd h (by rw [if_neg h4]; decide)
theorem nextT_cut {s : List UInt8} {p : Nat} (hp : p < s.length) (h : (nextT s p).err = 0) : nextT s p = shiftT p (nextT (cut s p (nextT s p).fin) 0) ∧ (nextT (cut s p (nextT s p).fin) 0).err = 0 ∧ (nextT (cut s p (nextT s p).fin) 0).fin = (nextT s p).fin - p ∧ (cut s p (nextT s p).fin).length = (nextT s p).fin - p := by
  have e := nextT_pre (x := s.take p) (b := s.drop p) (p := 0) (by rw [List.length_drop]; omega)
  rw [List.take_append_drop, List.length_take, Nat.min_eq_left (by omega), Nat.add_zero] at e
  have he : (nextT (s.drop p) 0).err = 0 := by rw [e, shiftT_err] at h; exact h
  have hf : (nextT s p).fin = p + (nextT (s.drop p) 0).fin := by rw [e]; unfold shiftT; rw [if_pos he]
  have ht := nextT_take (l := s.drop p) (by rw [List.length_drop]; omega) he
  have hc : cut s p (nextT s p).fin = (s.drop p).take (nextT (s.drop p) 0).fin := by
    unfold cut
    rw [hf, Nat.add_sub_cancel_left]
  have hup := nextT_up hp h
  refine ⟨?_, ?_, ?_, ?_⟩
  · rw [hc, ht]; exact e
  · rw [hc, ht]; exact he
  · rw [hc, ht]; omega
  · rw [hc, List.length_take, List.length_drop]; omega

theorem wordT_app2 {a b : List UInt8} {p : Nat} (hp : p < a.length) : wordT (a ++ 32 :: b) p = wordT a p := by
  have hb := behL_app (a := a) (b := b) (c := 32) (p := p) (cs := cWd) (by omega) (by decide +kernel)
  have hl := (behL_ge (l := a) (p := p) cWd (by omega)).2
  unfold wordT
  rw [hb, cut_app hl]
theorem numeralT_app2 {a b : List UInt8} {p : Nat} (hp : p < a.length) : numeralT (a ++ 32 :: b) p = numeralT a p := by
  have hb := behL_app (a := a) (b := b) (c := 32) (p := p) (cs := cNm) (by omega) (by decide +kernel)
  have hl := (behL_ge (l := a) (p := p) cNm (by omega)).2
  unfold numeralT
  rw [hb, cut_app hl]
theorem nextT_app2 {a b : List UInt8} {p : Nat} (hp : p < a.length) (h : (nextT a p).err = 0) : nextT (a ++ 32 :: b) p = nextT a p := by
  unfold nextT at h ⊢
  rw [getD_app hp, wordT_app2 hp, numeralT_app2 hp]
  split
  · rfl
  · next h1 =>
    rw [if_neg h1] at h
    split
    · next h2 =>
      rw [if_pos h2] at h
      exact litT_app _ h
    · rfl

def blk : Nat → List UInt8
  | 0 => []
  | n + 1 => blk n ++ [cBl.getD (n % 4) 0]
theorem dropw_all (p : UInt8 → Bool) : ∀ x y : List UInt8, (∀ c ∈ x, p c = true) → (x ++ y).dropWhile p = y.dropWhile p := by
  intro x
  induction x with
  | nil => intro y _; rfl
  | cons c x ih =>
    intro y h
    rw [List.cons_append, List.dropWhile_cons, if_pos (h c (List.mem_cons_self ..))]
    exact ih y fun d hd => h d (List.mem_cons_of_mem _ hd)

end Go.Proofs.YtfjmgccbpiolhaaGreatDoor
