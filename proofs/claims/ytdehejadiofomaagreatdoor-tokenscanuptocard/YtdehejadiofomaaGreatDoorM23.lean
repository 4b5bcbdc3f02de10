import Derived.Test.YtdehejadiofomaaGreatDoorM22
import Derived.WalkMore
import Derived.Deep.LoopGhost
namespace Go.Proofs.YtdehejadiofomaaGreatDoor
open Go.RowKit Go.Shelf
set_option linter.unusedVariables false
set_option linter.unusedSimpArgs false
attribute [local go_sem] Oper.semAt_some

def clsB (k : Nat) : List UInt8 := if k = 0 then cMk else if k = 1 then [34] else if k = 2 then cLe else cDm
def encT (t : Tok) : Array Value := #[tokV t, .int .i64 (t.err : Int)]
/-- where the byte belongs to none of the first classes -/
def Missed (c : UInt8) (k : Nat) : Prop := ∀ j, j < k → (clsB j).contains c = false
theorem next_0 {l : List UInt8} {p : Nat} (h : (clsB 0).contains (l.getD p 0) = true) : nextT l p = ⟨(1 + Lib.indexByte cMk (l.getD p 0)).toNat, p, p + 1, [], 0⟩ := by
  unfold nextT; rw [if_pos (show cMk.contains _ = true from h)]
theorem next_1 {l : List UInt8} {p : Nat} (hm : Missed (l.getD p 0) 1) (h : (clsB 1).contains (l.getD p 0) = true) : nextT l p = litT l p ∧ l.getD p 0 = 34 := by
  have h0 : cMk.contains (l.getD p 0) = false := hm 0 (by decide)
  have e : l.getD p 0 = 34 := by
    have : [34].contains (l.getD p 0) = true := h
    simpa using this
  unfold nextT; rw [if_neg (by rw [h0]; decide), if_pos e]; exact ⟨rfl, e⟩
theorem not34 {l : List UInt8} {p : Nat} (h : (clsB 1).contains (l.getD p 0) = false) : ¬ l.getD p 0 = 34 := fun e => by
  have h2 : [34].contains (l.getD p 0) = false := h
  rw [e] at h2; exact absurd h2 (by decide)
theorem next_2 {l : List UInt8} {p : Nat} (hm : Missed (l.getD p 0) 2) (h : (clsB 2).contains (l.getD p 0) = true) : nextT l p = wordT l p := by
  have h0 : cMk.contains (l.getD p 0) = false := hm 0 (by decide)
  have h2 : cLe.contains (l.getD p 0) = true := h
  unfold nextT; rw [if_neg (by rw [h0]; decide), if_neg (not34 (hm 1 (by decide))), if_pos h2]
theorem next_3 {l : List UInt8} {p : Nat} (hm : Missed (l.getD p 0) 3) (h : (clsB 3).contains (l.getD p 0) = true) : nextT l p = numeralT l p := by
  have h0 : cMk.contains (l.getD p 0) = false := hm 0 (by decide)
  have h2 : cLe.contains (l.getD p 0) = false := hm 2 (by decide)
  have h3 : cDm.contains (l.getD p 0) = true := h
  unfold nextT; rw [if_neg (by rw [h0]; decide), if_neg (not34 (hm 1 (by decide))), if_neg (by rw [h2]; decide), if_pos h3]
theorem next_4 {l : List UInt8} {p : Nat} (hm : Missed (l.getD p 0) 4) : nextT l p = ⟨0, p, 0, [], 40⟩ := by
  have h0 : cMk.contains (l.getD p 0) = false := hm 0 (by decide)
  have h2 : cLe.contains (l.getD p 0) = false := hm 2 (by decide)
  have h3 : cDm.contains (l.getD p 0) = false := hm 3 (by decide)
  unfold nextT; rw [if_neg (by rw [h0]; decide), if_neg (not34 (hm 1 (by decide))), if_neg (by rw [h2]; decide), if_neg (by rw [h3]; decide)]
theorem Missed.up {c : UInt8} {k : Nat} (h : Missed c k) (hk : (clsB k).contains c = false) : Missed c (k + 1) := fun j hj => by
  rcases Nat.lt_or_ge j k with h1 | h1
  · exact h j h1
  · obtain rfl : j = k := by omega
    exact hk
theorem ix_no {k : List UInt8} {c : UInt8} (h : k.contains c = false) : Lib.indexByte k c < 0 := by
  have := indexB_has k c
  rw [h] at this
  have h2 : ¬ 0 ≤ Lib.indexByte k c := fun hx => by have := this.2 hx; cases this
  omega
theorem tok_at {l : List UInt8} {pre : List Tok} {p : Nat} (h : At l pre p) (hp : p < l.length) : (pre ++ [nextT l p] <+: allY l) ∧ ((nextT l p).err ≠ 0 → allY l = pre ++ [nextT l p]) ∧ ((nextT l p).err = 0 → (nextT l p).fin ≤ l.length ∧ At l (pre ++ [nextT l p]) (behL l (nextT l p).fin cBl) ∧ p < behL l (nextT l p).fin cBl) :=
  ⟨h.pre hp, h.fault hp, fun he => ⟨(nextT_up hp he).2, h.next hp he⟩⟩
theorem ixk_0 (u : World) : (Instr.index 153 (.agg #[.string ⟨#[123, 125, 91, 93, 58, 44]⟩, .func (.func 90) #[] #[], .string ⟨#[34]⟩, .func (.func 91) #[] #[], .string ⟨#[97, 98, 99, 100, 101, 102, 103, 104, 105, 106, 107, 108, 109, 110, 111, 112, 113, 114, 115, 116, 117, 118, 119, 120, 121, 122, 65, 66, 67, 68, 69, 70, 71, 72, 73, 74, 75, 76, 77, 78, 79, 80, 81, 82, 83, 84, 85, 86, 87, 88, 89, 90, 95]⟩, .func (.func 92) #[] #[], .string ⟨#[48, 49, 50, 51, 52, 53, 54, 55, 56, 57, 45]⟩, .func (.func 93) #[] #[]]) (.int .i64 0)).run Tryz.prog u = .ok (.agg #[.string ⟨#[123, 125, 91, 93, 58, 44]⟩, .func (.func 90) #[] #[]]) u := by kernel_rfl
theorem ixk_1 (u : World) : (Instr.index 153 (.agg #[.string ⟨#[123, 125, 91, 93, 58, 44]⟩, .func (.func 90) #[] #[], .string ⟨#[34]⟩, .func (.func 91) #[] #[], .string ⟨#[97, 98, 99, 100, 101, 102, 103, 104, 105, 106, 107, 108, 109, 110, 111, 112, 113, 114, 115, 116, 117, 118, 119, 120, 121, 122, 65, 66, 67, 68, 69, 70, 71, 72, 73, 74, 75, 76, 77, 78, 79, 80, 81, 82, 83, 84, 85, 86, 87, 88, 89, 90, 95]⟩, .func (.func 92) #[] #[], .string ⟨#[48, 49, 50, 51, 52, 53, 54, 55, 56, 57, 45]⟩, .func (.func 93) #[] #[]]) (.int .i64 1)).run Tryz.prog u = .ok (.agg #[.string ⟨#[34]⟩, .func (.func 91) #[] #[]]) u := by kernel_rfl
theorem ixk_2 (u : World) : (Instr.index 153 (.agg #[.string ⟨#[123, 125, 91, 93, 58, 44]⟩, .func (.func 90) #[] #[], .string ⟨#[34]⟩, .func (.func 91) #[] #[], .string ⟨#[97, 98, 99, 100, 101, 102, 103, 104, 105, 106, 107, 108, 109, 110, 111, 112, 113, 114, 115, 116, 117, 118, 119, 120, 121, 122, 65, 66, 67, 68, 69, 70, 71, 72, 73, 74, 75, 76, 77, 78, 79, 80, 81, 82, 83, 84, 85, 86, 87, 88, 89, 90, 95]⟩, .func (.func 92) #[] #[], .string ⟨#[48, 49, 50, 51, 52, 53, 54, 55, 56, 57, 45]⟩, .func (.func 93) #[] #[]]) (.int .i64 2)).run Tryz.prog u = .ok (.agg #[.string ⟨#[97, 98, 99, 100, 101, 102, 103, 104, 105, 106, 107, 108, 109, 110, 111, 112, 113, 114, 115, 116, 117, 118, 119, 120, 121, 122, 65, 66, 67, 68, 69, 70, 71, 72, 73, 74, 75, 76, 77, 78, 79, 80, 81, 82, 83, 84, 85, 86, 87, 88, 89, 90, 95]⟩, .func (.func 92) #[] #[]]) u := by kernel_rfl
theorem ixk_3 (u : World) : (Instr.index 153 (.agg #[.string ⟨#[123, 125, 91, 93, 58, 44]⟩, .func (.func 90) #[] #[], .string ⟨#[34]⟩, .func (.func 91) #[] #[], .string ⟨#[97, 98, 99, 100, 101, 102, 103, 104, 105, 106, 107, 108, 109, 110, 111, 112, 113, 114, 115, 116, 117, 118, 119, 120, 121, 122, 65, 66, 67, 68, 69, 70, 71, 72, 73, 74, 75, 76, 77, 78, 79, 80, 81, 82, 83, 84, 85, 86, 87, 88, 89, 90, 95]⟩, .func (.func 92) #[] #[], .string ⟨#[48, 49, 50, 51, 52, 53, 54, 55, 56, 57, 45]⟩, .func (.func 93) #[] #[]]) (.int .i64 3)).run Tryz.prog u = .ok (.agg #[.string ⟨#[48, 49, 50, 51, 52, 53, 54, 55, 56, 57, 45]⟩, .func (.func 93) #[] #[]]) u := by kernel_rfl
def bCls (k : Nat) : ByteArray := ⟨(clsB k).toArray⟩

set_option maxRecDepth 100000 in
set_option maxHeartbeats 8000000 in
theorem cut_in (E : Nat → Prop) (n : Nat) (hn : 1 ≤ n) (l B : Nat) (s : ByteArray) (ss : s.size ≤ 4294967296)
    (w : World) (hr : rowAt w B = none) (lB : B < w.heap.size) (hE : ∀ b, E b → b < w.heap.size) (hEr : ErrIn w) (hEe : ¬ E 3) (hEl : 3 < w.heap.size)
    (J Jx : List Tok → World → Prop) (W : World) (hW : Below w.heap.size w W) (hJ : AbidesFrom W.heap.size J) (hJx : AbidesFrom W.heap.size Jx)
    (hY : ∀ pre x W1, J pre W1 → pre.length < s.size + 1 → YieldAt Fence.wide (n - 1) Tryz.prog l (encT x) W1 fun e W' =>
      (e = .returned (.bool true) ∧ J (pre ++ [x]) W' ∧ KpT E B W1 W') ∨ (e = .returned (.bool false) ∧ Jx (pre ++ [x]) W')) (h0 : J [] W) :
    CallsIn Fence.wide n Tryz.prog 34 #[.string s, .func (.yield l) #[] #[]] W fun e W' => (∃ v, e = .returned v) ∧
      ((∃ xs, xs = allY s.data.toList ∧ J xs W') ∨ (∃ pre, (pre <+: allY s.data.toList) ∧ Jx pre W')) := by
  have HJ := Hid.mk hJ
  have HY := Hid.mk hY
  have H0 := Hid.mk h0
  have HEr := Hid.mk (hEr.keep hW)
  have HR : Hid (rowAt W B = none) := by
    show rowAt W B = none
    rw [rowAt_below hW lB]; exact hr
  have hws := hW.size
  clear hJ hJx hY h0 hW hr hEr
  have HBl := Hid.mk (fun (p : Nat) u (hp : p ≤ s.size) => w_behind s ⟨#[32, 9, 10, 13]⟩ p u hp (by omega) (by decide) (ascii_all (by decide +kernel)))
  have ebl : (⟨#[32, 9, 10, 13]⟩ : ByteArray).data.toList = cBl := rfl
  rw [ebl] at HBl
  clear ebl
  refine callsIn_of_wp Tryz.func34 rfl trivial ?_ rfl
  simp only [Tryz.ntmps34, List.size_toArray, List.length_cons, List.length_nil, Nat.reduceAdd, Nat.reduceSub, Array.replicate_succ, Array.replicate_zero, List.push_toArray, List.append_toArray, List.nil_append, List.cons_append]
  refine wpIn_wide.2 (wp_scope_straight ((wpIn_wide (n := n)).1 ?_))
  gi_wp2_with fail
  refine ⟨trivial, (callsIn_wide.2 (w_beginnings _)).mono ?_⟩
  rintro e w1 ⟨rfl, hb1⟩
  have HB1 := Hid.mk hb1
  clear hb1
  unfold known fnV cLe cDm
  gi_wp2_with fail
  refine ⟨trivial, (callsIn_wide.2 (HBl.out 0 _ (Nat.zero_le _))).mono ?_⟩
  rintro e w2 ⟨rfl, hb2⟩
  obtain ⟨Bk, hBk⟩ : ∃ Bk, Bk = w1.heap.size := ⟨_, rfl⟩
  have HBk := Hid.mk hBk
  have HS : Hid (CuSt E B Bk w2 ∧ J [] w2) := by
    have hb1 := HB1.out
    have hx := (below1 w1 (.cells known 153))
    have hkn := heap_lowT hb2 (show w1.heap.size < _ by simp) (heap_alloc_new w1 (.cells known 153))
    have hb3 : Below W.heap.size W w2 := (hb1.trans (hx.mono hb1.size)).trans (hb2.mono (by have := hb1.size; simp; omega))
    refine ⟨⟨by rw [hBk]; exact hkn, .inl ?_, HEr.out.keep hb3, ⟨by have := hb1.size; omega, by have := hb1.size; omega, fun h => by have := hE _ h; have := hb1.size; omega, hEe, fun b h => by have := hE _ h; have := hb1.size; omega⟩⟩, ab_below HJ.out H0.out hb3⟩
    rw [rowAt_below hb3 (by omega)]; exact HR.out
  rw [← hBk]
  clear hb2 hBk HB1 H0 HR HEr
  have HAt : Hid (At s.data.toList [] (behL s.data.toList 0 cBl)) := at_start _
  generalize behL s.data.toList 0 cBl = p0 at *
  gi_wp2_with fail
  refine wpIn_label ?_
  gi_wp2_with fail
  gi_loopw [5] (fun a wr => ∃ (p : Nat) (pre : List Tok), p ≤ s.size ∧ a = .int .i64 (p : Int) ∧ Hid (At s.data.toList pre p ∧ CuSt E B Bk wr ∧ J pre wr)) (fun a _ => s.size - (intOf a).toNat)
  case atStart => exact ⟨p0, [], by have := HAt.out.1; rwa [size_lst] at this, rfl, HAt.out, HS.out.1, HS.out.2⟩
  case round =>
    clear HAt HS
    obtain ⟨p, pre, hps, rfl, HQ⟩ := hrel
    have hk0 := cell_of_row _ _ 0 _ _ _ HQ.out.2.1.kn
    have hk1 := cell_of_row _ _ 1 _ _ _ HQ.out.2.1.kn
    have hk2 := cell_of_row _ _ 2 _ _ _ HQ.out.2.1.kn
    have hk3 := cell_of_row _ _ 3 _ _ _ HQ.out.2.1.kn
    have hk4 := cell_of_row _ _ 4 _ _ _ HQ.out.2.1.kn
    have hk5 := cell_of_row _ _ 5 _ _ _ HQ.out.2.1.kn
    have hk6 := cell_of_row _ _ 6 _ _ _ HQ.out.2.1.kn
    have hk7 := cell_of_row _ _ 7 _ _ _ HQ.out.2.1.kn
    unfold known fnV cLe cDm at hk0 hk1 hk2 hk3 hk4 hk5 hk6 hk7
    simp only [List.getElem?_toArray, Array.getElem?_toList, List.getElem?_cons_zero, List.getElem?_cons_succ] at hk0 hk1 hk2 hk3 hk4 hk5 hk6 hk7
    by_cases hlt : p < s.size
    · have hl1 : (p : Int) < (s.size : Int) := by omega
      have hl0 : (0 : Int) ≤ (p : Int) := by omega
      gi_wp2_with fail
      gi_loopw [5, 18] (fun a i wr => ∃ k : Nat, k ≤ 4 ∧ a = .int .i64 (p : Int) ∧ i = .int .i64 (k : Int) ∧ Hid (CuSt E B Bk wr ∧ J pre wr ∧ Missed (s.data.toList.getD p 0) k)) (fun _ i _ => 4 - (intOf i).toNat)
      case atStart => exact ⟨0, by omega, rfl, rfl, HQ.out.2.1, HQ.out.2.2, fun j hj => absurd hj (Nat.not_lt_zero _)⟩
      case round =>
        obtain ⟨k, hk, rfl, rfl, HK⟩ := hrel
        have hmx : Tryz.prog.follows .mixedOrders = true := by kernel_rfl
        have hps2 : p < s.data.toList.length := by rw [size_lst]; exact hlt
        have hlp : pre.length < s.size + 1 := by have := HQ.out.1.2.1; omega
        have hcs : k = 0 ∨ k = 1 ∨ k = 2 ∨ k = 3 ∨ k = 4 := by omega
        rcases hcs with rfl | rfl | rfl | rfl | rfl
        · have HI : Hid (∀ u, Calls Tryz.prog 73 #[.string ⟨#[123, 125, 91, 93, 58, 44]⟩, .int .u8 ((s[p].toNat : Nat) : Int)] u fun e w' => e = .returned (.int .i64 (Lib.indexByte (clsB 0) (s.data.toList.getD p 0))) ∧ w' = u) := fun u => by
            have := Tryz.strings_IndexByte ⟨#[123, 125, 91, 93, 58, 44]⟩ ((s[p].toNat : Nat) : Int) u
            rw [byte_back] at this
            rw [getD_byte hlt]; exact this
          have hixk := ixk_0
          have hbx := Hid.mk ((below1 wr (.cells #[.string ⟨#[123, 125, 91, 93, 58, 44]⟩, .func (.func 90) #[] #[]] 152)).drew)
          have HKd : Hid (CuSt E B Bk (wr.alloc (.cells #[.string ⟨#[123, 125, 91, 93, 58, 44]⟩, .func (.func 90) #[] #[]] 152)).drew ∧ J pre (wr.alloc (.cells #[.string ⟨#[123, 125, 91, 93, 58, 44]⟩, .func (.func 90) #[] #[]] 152)).drew) := ⟨HK.out.1.keep hbx.out, ab_below HJ.out HK.out.2.1 hbx.out⟩
          clear hbx
          cases hc : (clsB 0).contains (s.data.toList.getD p 0) with
          | false =>
            have hi := ix_no hc
            have HM : Hid (Missed (s.data.toList.getD p 0) 1) := HK.out.2.2.up hc
            generalize Lib.indexByte (clsB 0) (s.data.toList.getD p 0) = ix at *
            clear hc HK
            gi_wp2_with fail
            gi_region_with_o (refine ⟨trivial, ?_⟩; gi_at_call 73; refine (callsIn_wide.2 (HI.out _)).mono ?_; rintro e w' ⟨rfl, hw⟩; obtain rfl := hw.symm)
            all_goals
              gi_wp2_with fail
              go_roundw
              case rel => exact ⟨1, by omega, rfl, by go_num, HKd.out.1, HKd.out.2, HM.out⟩
              case measure => simp [intOf]
          | true =>
            have hi : ¬ Lib.indexByte (clsB 0) (s.data.toList.getD p 0) < 0 := by have := (indexB_has _ _).1 hc; omega
            have HT : Hid (∀ u, ErrIn u → Calls Tryz.prog 90 #[.string s, .int .i64 (p : Int)] u fun e w' => TokR (nextT s.data.toList p) u w' e) := fun u hu => by rw [next_0 hc]; exact w_mark s p u hlt (by omega) hc
            generalize Lib.indexByte (clsB 0) (s.data.toList.getD p 0) = ix at *
            clear hc HK
            have HTk := Hid.mk (tok_at HQ.out.1 hps2)
            obtain ⟨t, ht⟩ : ∃ t, nextT s.data.toList p = t := ⟨_, rfl⟩
            rw [ht] at HT HTk
            clear ht
            obtain ⟨kd, pa, fi, tx, er⟩ := t
            unfold TokR tokV at HT
            dsimp only at HT
            gi_wp2_with fail
            gi_region_with_o (refine ⟨trivial, ?_⟩; gi_at_call 73; refine (callsIn_wide.2 (HI.out _)).mono ?_; rintro e w' ⟨rfl, hw⟩; obtain rfl := hw.symm)
            all_goals
              gi_wp2_with fail
              refine ⟨trivial, (callsIn_wide.2 (HT.out _ HKd.out.1.err)).mono ?_⟩
              rintro e w3 ⟨rfl, hb3⟩
              have HK3 : Hid (CuSt E B Bk w3 ∧ J pre w3) := ⟨HKd.out.1.keep hb3, ab_below HJ.out HKd.out.2 hb3⟩
              clear hb3
              have HJ3 := Hid.mk (ab_below HJ.out HK3.out.2 (below1 w3 (.cells #[.int .i64 (kd : Int), .int .i64 (pa : Int), .int .i64 (fi : Int), .string ⟨tx.toArray⟩] 52)))
              obtain ⟨fn, tmps, assign, body, hy, hR⟩ := HY.out _ ⟨kd, pa, fi, tx, er⟩ _ HJ3.out hlp
              unfold encT tokV at hy
              dsimp only at hy
              have HRd := Hid.mk hR
              clear hR HJ3
              gi_wp2_with fail
              refine HRd.out.mono ?_
              rintro e W4 (⟨rfl, hJ4, hk4⟩ | ⟨rfl, hJx4⟩)
              · by_cases he : er = 0
                · subst he
                  obtain ⟨hT1, hT2, hT3⟩ := HTk.out.2.2 rfl
                  have hfs : fi ≤ s.size := by rw [size_lst] at hT1; exact hT1
                  have HC4 := Hid.mk ((HK3.out.1.keep (below1 w3 _)).round hk4)
                  have hce : W4.cell? ⟨w3.heap.size, 2, none⟩ = some (.int .i64 (fi : Int)) := HK3.out.1.fresh hk4 (cell_of_row _ _ 2 _ _ _ (heap_alloc_new w3 _))
                  have HJ4 := Hid.mk hJ4
                  have HN := Hid.mk (And.intro hT2 hT3)
                  (try dsimp only at HN)
                  clear hJ4 hk4 hy hT1 hT2 hT3
                  gi_wp2_with fail
                  refine ⟨trivial, (callsIn_wide.2 (HBl.out fi _ hfs)).mono ?_⟩
                  rintro e w5 ⟨rfl, hb5⟩
                  have HS5 : Hid (CuSt E B Bk w5 ∧ J (pre ++ [⟨kd, pa, fi, tx, 0⟩]) w5) := ⟨HC4.out.keep hb5, ab_below HJ.out HJ4.out hb5⟩
                  clear hb5 hce HC4 HJ4
                  generalize behL s.data.toList fi cBl = pn at *
                  gi_wp2_with fail
                  go_roundw
                  case rel => exact ⟨pn, _, by have := HN.out.1.1; rwa [size_lst] at this, rfl, HN.out.1, HS5.out.1, HS5.out.2⟩
                  case measure => have := HN.out.2; simp [intOf]; omega
                · have heb : (((er : Nat) : Int) == 0) = false := by rw [beq_eq_false_iff_ne]; omega
                  have HF : Hid (J (allY s.data.toList) W4) := by have := HTk.out.2.1 he; rw [this]; exact hJ4
                  clear hJ4 hk4 hy he
                  gi_wp2_with fail
                  (try rw [Exit.noGoto_ret])
                  refine bodyPost_ret (results_none rfl _ _ _) rfl ?_
                  exact ⟨⟨_, rfl⟩, .inl ⟨_, rfl, HF.out⟩⟩
              · have HX := Hid.mk hJx4
                clear hJx4 hy
                gi_wp2_with fail
                (try rw [Exit.noGoto_ret])
                refine bodyPost_ret (results_none rfl _ _ _) rfl ?_
                exact ⟨⟨_, rfl⟩, .inr ⟨_, HTk.out.1, HX.out⟩⟩
        · have HI : Hid (∀ u, Calls Tryz.prog 73 #[.string ⟨#[34]⟩, .int .u8 ((s[p].toNat : Nat) : Int)] u fun e w' => e = .returned (.int .i64 (Lib.indexByte (clsB 1) (s.data.toList.getD p 0))) ∧ w' = u) := fun u => by
            have := Tryz.strings_IndexByte ⟨#[34]⟩ ((s[p].toNat : Nat) : Int) u
            rw [byte_back] at this
            rw [getD_byte hlt]; exact this
          have hixk := ixk_1
          have hbx := Hid.mk ((below1 wr (.cells #[.string ⟨#[34]⟩, .func (.func 91) #[] #[]] 152)).drew)
          have HKd : Hid (CuSt E B Bk (wr.alloc (.cells #[.string ⟨#[34]⟩, .func (.func 91) #[] #[]] 152)).drew ∧ J pre (wr.alloc (.cells #[.string ⟨#[34]⟩, .func (.func 91) #[] #[]] 152)).drew) := ⟨HK.out.1.keep hbx.out, ab_below HJ.out HK.out.2.1 hbx.out⟩
          clear hbx
          cases hc : (clsB 1).contains (s.data.toList.getD p 0) with
          | false =>
            have hi := ix_no hc
            have HM : Hid (Missed (s.data.toList.getD p 0) 2) := HK.out.2.2.up hc
            generalize Lib.indexByte (clsB 1) (s.data.toList.getD p 0) = ix at *
            clear hc HK
            gi_wp2_with fail
            gi_region_with_o (refine ⟨trivial, ?_⟩; gi_at_call 73; refine (callsIn_wide.2 (HI.out _)).mono ?_; rintro e w' ⟨rfl, hw⟩; obtain rfl := hw.symm)
            all_goals
              gi_wp2_with fail
              go_roundw
              case rel => exact ⟨2, by omega, rfl, by go_num, HKd.out.1, HKd.out.2, HM.out⟩
              case measure => simp [intOf]
          | true =>
            have hi : ¬ Lib.indexByte (clsB 1) (s.data.toList.getD p 0) < 0 := by have := (indexB_has _ _).1 hc; omega
            have HT : Hid (∀ u, ErrIn u → Calls Tryz.prog 91 #[.string s, .int .i64 (p : Int)] u fun e w' => TokR (nextT s.data.toList p) u w' e) := fun u hu => by obtain ⟨e1, e2⟩ := next_1 HK.out.2.2 hc; rw [e1]; exact w_literal s p u hlt (by omega) (by rw [← getD_byte hlt]; exact e2) hu
            generalize Lib.indexByte (clsB 1) (s.data.toList.getD p 0) = ix at *
            clear hc HK
            have HTk := Hid.mk (tok_at HQ.out.1 hps2)
            obtain ⟨t, ht⟩ : ∃ t, nextT s.data.toList p = t := ⟨_, rfl⟩
            rw [ht] at HT HTk
            clear ht
            obtain ⟨kd, pa, fi, tx, er⟩ := t
            unfold TokR tokV at HT
            dsimp only at HT
            gi_wp2_with fail
            gi_region_with_o (refine ⟨trivial, ?_⟩; gi_at_call 73; refine (callsIn_wide.2 (HI.out _)).mono ?_; rintro e w' ⟨rfl, hw⟩; obtain rfl := hw.symm)
            all_goals
              gi_wp2_with fail
              refine ⟨trivial, (callsIn_wide.2 (HT.out _ HKd.out.1.err)).mono ?_⟩
              rintro e w3 ⟨rfl, hb3⟩
              have HK3 : Hid (CuSt E B Bk w3 ∧ J pre w3) := ⟨HKd.out.1.keep hb3, ab_below HJ.out HKd.out.2 hb3⟩
              clear hb3
              have HJ3 := Hid.mk (ab_below HJ.out HK3.out.2 (below1 w3 (.cells #[.int .i64 (kd : Int), .int .i64 (pa : Int), .int .i64 (fi : Int), .string ⟨tx.toArray⟩] 52)))
              obtain ⟨fn, tmps, assign, body, hy, hR⟩ := HY.out _ ⟨kd, pa, fi, tx, er⟩ _ HJ3.out hlp
              unfold encT tokV at hy
              dsimp only at hy
              have HRd := Hid.mk hR
              clear hR HJ3
              gi_wp2_with fail
              refine HRd.out.mono ?_
              rintro e W4 (⟨rfl, hJ4, hk4⟩ | ⟨rfl, hJx4⟩)
              · by_cases he : er = 0
                · subst he
                  obtain ⟨hT1, hT2, hT3⟩ := HTk.out.2.2 rfl
                  have hfs : fi ≤ s.size := by rw [size_lst] at hT1; exact hT1
                  have HC4 := Hid.mk ((HK3.out.1.keep (below1 w3 _)).round hk4)
                  have hce : W4.cell? ⟨w3.heap.size, 2, none⟩ = some (.int .i64 (fi : Int)) := HK3.out.1.fresh hk4 (cell_of_row _ _ 2 _ _ _ (heap_alloc_new w3 _))
                  have HJ4 := Hid.mk hJ4
                  have HN := Hid.mk (And.intro hT2 hT3)
                  (try dsimp only at HN)
                  clear hJ4 hk4 hy hT1 hT2 hT3
                  gi_wp2_with fail
                  refine ⟨trivial, (callsIn_wide.2 (HBl.out fi _ hfs)).mono ?_⟩
                  rintro e w5 ⟨rfl, hb5⟩
                  have HS5 : Hid (CuSt E B Bk w5 ∧ J (pre ++ [⟨kd, pa, fi, tx, 0⟩]) w5) := ⟨HC4.out.keep hb5, ab_below HJ.out HJ4.out hb5⟩
                  clear hb5 hce HC4 HJ4
                  generalize behL s.data.toList fi cBl = pn at *
                  gi_wp2_with fail
                  go_roundw
                  case rel => exact ⟨pn, _, by have := HN.out.1.1; rwa [size_lst] at this, rfl, HN.out.1, HS5.out.1, HS5.out.2⟩
                  case measure => have := HN.out.2; simp [intOf]; omega
                · have heb : (((er : Nat) : Int) == 0) = false := by rw [beq_eq_false_iff_ne]; omega
                  have HF : Hid (J (allY s.data.toList) W4) := by have := HTk.out.2.1 he; rw [this]; exact hJ4
                  clear hJ4 hk4 hy he
                  gi_wp2_with fail
                  (try rw [Exit.noGoto_ret])
                  refine bodyPost_ret (results_none rfl _ _ _) rfl ?_
                  exact ⟨⟨_, rfl⟩, .inl ⟨_, rfl, HF.out⟩⟩
              · have HX := Hid.mk hJx4
                clear hJx4 hy
                gi_wp2_with fail
                (try rw [Exit.noGoto_ret])
                refine bodyPost_ret (results_none rfl _ _ _) rfl ?_
                exact ⟨⟨_, rfl⟩, .inr ⟨_, HTk.out.1, HX.out⟩⟩
        · have HI : Hid (∀ u, Calls Tryz.prog 73 #[.string ⟨#[97, 98, 99, 100, 101, 102, 103, 104, 105, 106, 107, 108, 109, 110, 111, 112, 113, 114, 115, 116, 117, 118, 119, 120, 121, 122, 65, 66, 67, 68, 69, 70, 71, 72, 73, 74, 75, 76, 77, 78, 79, 80, 81, 82, 83, 84, 85, 86, 87, 88, 89, 90, 95]⟩, .int .u8 ((s[p].toNat : Nat) : Int)] u fun e w' => e = .returned (.int .i64 (Lib.indexByte (clsB 2) (s.data.toList.getD p 0))) ∧ w' = u) := fun u => by
            have := Tryz.strings_IndexByte ⟨#[97, 98, 99, 100, 101, 102, 103, 104, 105, 106, 107, 108, 109, 110, 111, 112, 113, 114, 115, 116, 117, 118, 119, 120, 121, 122, 65, 66, 67, 68, 69, 70, 71, 72, 73, 74, 75, 76, 77, 78, 79, 80, 81, 82, 83, 84, 85, 86, 87, 88, 89, 90, 95]⟩ ((s[p].toNat : Nat) : Int) u
            rw [byte_back] at this
            rw [getD_byte hlt]; exact this
          have hixk := ixk_2
          have hbx := Hid.mk ((below1 wr (.cells #[.string ⟨#[97, 98, 99, 100, 101, 102, 103, 104, 105, 106, 107, 108, 109, 110, 111, 112, 113, 114, 115, 116, 117, 118, 119, 120, 121, 122, 65, 66, 67, 68, 69, 70, 71, 72, 73, 74, 75, 76, 77, 78, 79, 80, 81, 82, 83, 84, 85, 86, 87, 88, 89, 90, 95]⟩, .func (.func 92) #[] #[]] 152)).drew)
          have HKd : Hid (CuSt E B Bk (wr.alloc (.cells #[.string ⟨#[97, 98, 99, 100, 101, 102, 103, 104, 105, 106, 107, 108, 109, 110, 111, 112, 113, 114, 115, 116, 117, 118, 119, 120, 121, 122, 65, 66, 67, 68, 69, 70, 71, 72, 73, 74, 75, 76, 77, 78, 79, 80, 81, 82, 83, 84, 85, 86, 87, 88, 89, 90, 95]⟩, .func (.func 92) #[] #[]] 152)).drew ∧ J pre (wr.alloc (.cells #[.string ⟨#[97, 98, 99, 100, 101, 102, 103, 104, 105, 106, 107, 108, 109, 110, 111, 112, 113, 114, 115, 116, 117, 118, 119, 120, 121, 122, 65, 66, 67, 68, 69, 70, 71, 72, 73, 74, 75, 76, 77, 78, 79, 80, 81, 82, 83, 84, 85, 86, 87, 88, 89, 90, 95]⟩, .func (.func 92) #[] #[]] 152)).drew) := ⟨HK.out.1.keep hbx.out, ab_below HJ.out HK.out.2.1 hbx.out⟩
          clear hbx
          cases hc : (clsB 2).contains (s.data.toList.getD p 0) with
          | false =>
            have hi := ix_no hc
            have HM : Hid (Missed (s.data.toList.getD p 0) 3) := HK.out.2.2.up hc
            generalize Lib.indexByte (clsB 2) (s.data.toList.getD p 0) = ix at *
            clear hc HK
            gi_wp2_with fail
            gi_region_with_o (refine ⟨trivial, ?_⟩; gi_at_call 73; refine (callsIn_wide.2 (HI.out _)).mono ?_; rintro e w' ⟨rfl, hw⟩; obtain rfl := hw.symm)
            all_goals
              gi_wp2_with fail
              go_roundw
              case rel => exact ⟨3, by omega, rfl, by go_num, HKd.out.1, HKd.out.2, HM.out⟩
              case measure => simp [intOf]
          | true =>
            have hi : ¬ Lib.indexByte (clsB 2) (s.data.toList.getD p 0) < 0 := by have := (indexB_has _ _).1 hc; omega
            have HT : Hid (∀ u, ErrIn u → Calls Tryz.prog 92 #[.string s, .int .i64 (p : Int)] u fun e w' => TokR (nextT s.data.toList p) u w' e) := fun u hu => by rw [next_2 HK.out.2.2 hc]; exact w_word s p u hlt (by omega)
            generalize Lib.indexByte (clsB 2) (s.data.toList.getD p 0) = ix at *
            clear hc HK
            have HTk := Hid.mk (tok_at HQ.out.1 hps2)
            obtain ⟨t, ht⟩ : ∃ t, nextT s.data.toList p = t := ⟨_, rfl⟩
            rw [ht] at HT HTk
            clear ht
            obtain ⟨kd, pa, fi, tx, er⟩ := t
            unfold TokR tokV at HT
            dsimp only at HT
            gi_wp2_with fail
            gi_region_with_o (refine ⟨trivial, ?_⟩; gi_at_call 73; refine (callsIn_wide.2 (HI.out _)).mono ?_; rintro e w' ⟨rfl, hw⟩; obtain rfl := hw.symm)
            all_goals
              gi_wp2_with fail
              refine ⟨trivial, (callsIn_wide.2 (HT.out _ HKd.out.1.err)).mono ?_⟩
              rintro e w3 ⟨rfl, hb3⟩
              have HK3 : Hid (CuSt E B Bk w3 ∧ J pre w3) := ⟨HKd.out.1.keep hb3, ab_below HJ.out HKd.out.2 hb3⟩
              clear hb3
              have HJ3 := Hid.mk (ab_below HJ.out HK3.out.2 (below1 w3 (.cells #[.int .i64 (kd : Int), .int .i64 (pa : Int), .int .i64 (fi : Int), .string ⟨tx.toArray⟩] 52)))
              obtain ⟨fn, tmps, assign, body, hy, hR⟩ := HY.out _ ⟨kd, pa, fi, tx, er⟩ _ HJ3.out hlp
              unfold encT tokV at hy
              dsimp only at hy
              have HRd := Hid.mk hR
              clear hR HJ3
              gi_wp2_with fail
              refine HRd.out.mono ?_
              rintro e W4 (⟨rfl, hJ4, hk4⟩ | ⟨rfl, hJx4⟩)
              · by_cases he : er = 0
                · subst he
                  obtain ⟨hT1, hT2, hT3⟩ := HTk.out.2.2 rfl
                  have hfs : fi ≤ s.size := by rw [size_lst] at hT1; exact hT1
                  have HC4 := Hid.mk ((HK3.out.1.keep (below1 w3 _)).round hk4)
                  have hce : W4.cell? ⟨w3.heap.size, 2, none⟩ = some (.int .i64 (fi : Int)) := HK3.out.1.fresh hk4 (cell_of_row _ _ 2 _ _ _ (heap_alloc_new w3 _))
                  have HJ4 := Hid.mk hJ4
                  have HN := Hid.mk (And.intro hT2 hT3)
                  (try dsimp only at HN)
                  clear hJ4 hk4 hy hT1 hT2 hT3
                  gi_wp2_with fail
                  refine ⟨trivial, (callsIn_wide.2 (HBl.out fi _ hfs)).mono ?_⟩
                  rintro e w5 ⟨rfl, hb5⟩
                  have HS5 : Hid (CuSt E B Bk w5 ∧ J (pre ++ [⟨kd, pa, fi, tx, 0⟩]) w5) := ⟨HC4.out.keep hb5, ab_below HJ.out HJ4.out hb5⟩
                  clear hb5 hce HC4 HJ4
                  generalize behL s.data.toList fi cBl = pn at *
                  gi_wp2_with fail
                  go_roundw
                  case rel => exact ⟨pn, _, by have := HN.out.1.1; rwa [size_lst] at this, rfl, HN.out.1, HS5.out.1, HS5.out.2⟩
                  case measure => have := HN.out.2; simp [intOf]; omega
                · have heb : (((er : Nat) : Int) == 0) = false := by rw [beq_eq_false_iff_ne]; omega
                  have HF : Hid (J (allY s.data.toList) W4) := by have := HTk.out.2.1 he; rw [this]; exact hJ4
                  clear hJ4 hk4 hy he
                  gi_wp2_with fail
                  (try rw [Exit.noGoto_ret])
                  refine bodyPost_ret (results_none rfl _ _ _) rfl ?_
                  exact ⟨⟨_, rfl⟩, .inl ⟨_, rfl, HF.out⟩⟩
              · have HX := Hid.mk hJx4
                clear hJx4 hy
                gi_wp2_with fail
                (try rw [Exit.noGoto_ret])
                refine bodyPost_ret (results_none rfl _ _ _) rfl ?_
                exact ⟨⟨_, rfl⟩, .inr ⟨_, HTk.out.1, HX.out⟩⟩
        · have HI : Hid (∀ u, Calls Tryz.prog 73 #[.string ⟨#[48, 49, 50, 51, 52, 53, 54, 55, 56, 57, 45]⟩, .int .u8 ((s[p].toNat : Nat) : Int)] u fun e w' => e = .returned (.int .i64 (Lib.indexByte (clsB 3) (s.data.toList.getD p 0))) ∧ w' = u) := fun u => by
            have := Tryz.strings_IndexByte ⟨#[48, 49, 50, 51, 52, 53, 54, 55, 56, 57, 45]⟩ ((s[p].toNat : Nat) : Int) u
            rw [byte_back] at this
            rw [getD_byte hlt]; exact this
          have hixk := ixk_3
          have hbx := Hid.mk ((below1 wr (.cells #[.string ⟨#[48, 49, 50, 51, 52, 53, 54, 55, 56, 57, 45]⟩, .func (.func 93) #[] #[]] 152)).drew)
          have HKd : Hid (CuSt E B Bk (wr.alloc (.cells #[.string ⟨#[48, 49, 50, 51, 52, 53, 54, 55, 56, 57, 45]⟩, .func (.func 93) #[] #[]] 152)).drew ∧ J pre (wr.alloc (.cells #[.string ⟨#[48, 49, 50, 51, 52, 53, 54, 55, 56, 57, 45]⟩, .func (.func 93) #[] #[]] 152)).drew) := ⟨HK.out.1.keep hbx.out, ab_below HJ.out HK.out.2.1 hbx.out⟩
          clear hbx
          cases hc : (clsB 3).contains (s.data.toList.getD p 0) with
          | false =>
            have hi := ix_no hc
            have HM : Hid (Missed (s.data.toList.getD p 0) 4) := HK.out.2.2.up hc
            generalize Lib.indexByte (clsB 3) (s.data.toList.getD p 0) = ix at *
            clear hc HK
            gi_wp2_with fail
            gi_region_with_o (refine ⟨trivial, ?_⟩; gi_at_call 73; refine (callsIn_wide.2 (HI.out _)).mono ?_; rintro e w' ⟨rfl, hw⟩; obtain rfl := hw.symm)
            all_goals
              gi_wp2_with fail
              go_roundw
              case rel => exact ⟨4, by omega, rfl, by go_num, HKd.out.1, HKd.out.2, HM.out⟩
              case measure => simp [intOf]
          | true =>
            have hi : ¬ Lib.indexByte (clsB 3) (s.data.toList.getD p 0) < 0 := by have := (indexB_has _ _).1 hc; omega
            have HT : Hid (∀ u, ErrIn u → Calls Tryz.prog 93 #[.string s, .int .i64 (p : Int)] u fun e w' => TokR (nextT s.data.toList p) u w' e) := fun u hu => by rw [next_3 HK.out.2.2 hc]; exact w_numeral s p u hlt (by omega)
            generalize Lib.indexByte (clsB 3) (s.data.toList.getD p 0) = ix at *
            clear hc HK
            have HTk := Hid.mk (tok_at HQ.out.1 hps2)
            obtain ⟨t, ht⟩ : ∃ t, nextT s.data.toList p = t := ⟨_, rfl⟩
            rw [ht] at HT HTk
            clear ht
            obtain ⟨kd, pa, fi, tx, er⟩ := t
            unfold TokR tokV at HT
            dsimp only at HT
            gi_wp2_with fail
            gi_region_with_o (refine ⟨trivial, ?_⟩; gi_at_call 73; refine (callsIn_wide.2 (HI.out _)).mono ?_; rintro e w' ⟨rfl, hw⟩; obtain rfl := hw.symm)
            all_goals
              gi_wp2_with fail
              refine ⟨trivial, (callsIn_wide.2 (HT.out _ HKd.out.1.err)).mono ?_⟩
              rintro e w3 ⟨rfl, hb3⟩
              have HK3 : Hid (CuSt E B Bk w3 ∧ J pre w3) := ⟨HKd.out.1.keep hb3, ab_below HJ.out HKd.out.2 hb3⟩
              clear hb3
              have HJ3 := Hid.mk (ab_below HJ.out HK3.out.2 (below1 w3 (.cells #[.int .i64 (kd : Int), .int .i64 (pa : Int), .int .i64 (fi : Int), .string ⟨tx.toArray⟩] 52)))
              obtain ⟨fn, tmps, assign, body, hy, hR⟩ := HY.out _ ⟨kd, pa, fi, tx, er⟩ _ HJ3.out hlp
              unfold encT tokV at hy
              dsimp only at hy
              have HRd := Hid.mk hR
              clear hR HJ3
              gi_wp2_with fail
              refine HRd.out.mono ?_
              rintro e W4 (⟨rfl, hJ4, hk4⟩ | ⟨rfl, hJx4⟩)
              · by_cases he : er = 0
                · subst he
                  obtain ⟨hT1, hT2, hT3⟩ := HTk.out.2.2 rfl
                  have hfs : fi ≤ s.size := by rw [size_lst] at hT1; exact hT1
                  have HC4 := Hid.mk ((HK3.out.1.keep (below1 w3 _)).round hk4)
                  have hce : W4.cell? ⟨w3.heap.size, 2, none⟩ = some (.int .i64 (fi : Int)) := HK3.out.1.fresh hk4 (cell_of_row _ _ 2 _ _ _ (heap_alloc_new w3 _))
                  have HJ4 := Hid.mk hJ4
                  have HN := Hid.mk (And.intro hT2 hT3)
                  (try dsimp only at HN)
                  clear hJ4 hk4 hy hT1 hT2 hT3
                  gi_wp2_with fail
                  refine ⟨trivial, (callsIn_wide.2 (HBl.out fi _ hfs)).mono ?_⟩
                  rintro e w5 ⟨rfl, hb5⟩
                  have HS5 : Hid (CuSt E B Bk w5 ∧ J (pre ++ [⟨kd, pa, fi, tx, 0⟩]) w5) := ⟨HC4.out.keep hb5, ab_below HJ.out HJ4.out hb5⟩
                  clear hb5 hce HC4 HJ4
                  generalize behL s.data.toList fi cBl = pn at *
                  gi_wp2_with fail
                  go_roundw
                  case rel => exact ⟨pn, _, by have := HN.out.1.1; rwa [size_lst] at this, rfl, HN.out.1, HS5.out.1, HS5.out.2⟩
                  case measure => have := HN.out.2; simp [intOf]; omega
                · have heb : (((er : Nat) : Int) == 0) = false := by rw [beq_eq_false_iff_ne]; omega
                  have HF : Hid (J (allY s.data.toList) W4) := by have := HTk.out.2.1 he; rw [this]; exact hJ4
                  clear hJ4 hk4 hy he
                  gi_wp2_with fail
                  (try rw [Exit.noGoto_ret])
                  refine bodyPost_ret (results_none rfl _ _ _) rfl ?_
                  exact ⟨⟨_, rfl⟩, .inl ⟨_, rfl, HF.out⟩⟩
              · have HX := Hid.mk hJx4
                clear hJx4 hy
                gi_wp2_with fail
                (try rw [Exit.noGoto_ret])
                refine bodyPost_ret (results_none rfl _ _ _) rfl ?_
                exact ⟨⟨_, rfl⟩, .inr ⟨_, HTk.out.1, HX.out⟩⟩
        · have HM := Hid.mk HK.out.2.2
          have HTk := Hid.mk (tok_at HQ.out.1 hps2)
          rw [next_4 HM.out] at HTk
          gi_wp2_with fail
          refine ⟨trivial, (callsIn_wide.2 (w_fault _ _ _)).mono ?_⟩
          rintro e w3 ⟨rfl, hb3⟩
          have HJ3 := Hid.mk (ab_below HJ.out HK.out.2.1 hb3)
          clear hb3
          obtain ⟨fn, tmps, assign, body, hy, hR⟩ := HY.out _ ⟨0, p, 0, [], 40⟩ _ HJ3.out hlp
          replace hy : (Instr.yield l #[.agg #[.int .i64 0, .int .i64 (p : Int), .int .i64 0, .string ⟨#[]⟩], .int .i64 40]).run Tryz.prog w3 = .ok (.round l fn tmps assign body) w3 := hy
          have HRd := Hid.mk hR
          clear hR HJ3
          gi_wp2_with fail
          refine HRd.out.mono ?_
          rintro e W4 (⟨rfl, hJ4, hk4⟩ | ⟨rfl, hJx4⟩)
          · have HF : Hid (J (allY s.data.toList) W4) := by have := HTk.out.2.1 (by decide); rw [this]; exact hJ4
            clear hJ4 hk4 hy
            gi_wp2_with fail
            (try rw [Exit.noGoto_ret])
            refine bodyPost_ret (results_none rfl _ _ _) rfl ?_
            exact ⟨⟨_, rfl⟩, .inl ⟨_, rfl, HF.out⟩⟩
          · have HX := Hid.mk hJx4
            clear hJx4 hy
            gi_wp2_with fail
            (try rw [Exit.noGoto_ret])
            refine bodyPost_ret (results_none rfl _ _ _) rfl ?_
            exact ⟨⟨_, rfl⟩, .inr ⟨_, HTk.out.1, HX.out⟩⟩
    · have hl1 : ¬ (p : Int) < (s.size : Int) := by omega
      have HF : Hid (J (allY s.data.toList) wr) := by rw [HQ.out.1.done (by rw [size_lst]; exact hlt)]; exact HQ.out.2.2
      gi_wp2_with fail
      go_end0
      exact ⟨⟨_, rfl⟩, .inl HF.out⟩

end Go.Proofs.YtdehejadiofomaaGreatDoor
