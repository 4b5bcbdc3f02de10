import Derived.Test.YtcadknhedfnaoaaGreatDoorM29
import Derived.Test.YtcadknhedfnaoaaGreatDoorM38
namespace Go.Proofs.YtcadknhedfnaoaaGreatDoor
open Go.RowKit
set_option linter.unusedVariables false
set_option linter.unusedSimpArgs false

set_option maxHeartbeats 1600000 in
set_option maxRecDepth 100000 in
theorem w_String (B S : Nat) (l : List UInt8) (w : World) (h : Pen B S w l) :
    Calls Tryz.prog 16 #[.pointer (some ⟨S, 0, none⟩)] w fun e w' => e = .returned (.string ⟨l.toArray⟩) ∧ Below B w w' := by
  obtain ⟨p, v, hb, hp, hown, hnil⟩ := h.at_
  by_cases h0 : l = []
  · subst h0
    obtain rfl := hnil rfl
    have hUS := fun (W : World) (q : Option Addr) => Lib.run_unsafeString_none (P := Tryz.prog) W 62 3 9 q
    have c1 : w.drew.cell? ⟨S, 1, none⟩ = some (.slice none 0 0) := by
      have : w.drew.heap[S]? = some (.cells #[p, .slice none 0 0] 43 (0, 0)) := hb
      rw [Lib.cell_of_heap this]; rfl
    have hSD : (Builtin.unsafeSliceData_ #[39] 62 #[.slice none 0 0]).run Tryz.prog w.drew = .ok (.pointer none) w.drew := rfl
    clear h hb hp hown hnil
    have mixed : Tryz.prog.follows .mixedOrders = true := by kernel_rfl
    go_enter Tryz.func16, Tryz.ntmps16
    go_wp2
    go_region_o
    all_goals (go_wp2; go_ret; exact ⟨rfl, Below.drew (Below.refl B w)⟩)
  · have hl0 : l.length ≠ 0 := by simpa using h0
    obtain ⟨g, cap, cur, rfl, hbg, hg, hnc, hcm, hcs, htake⟩ : ∃ g cap cur, v = .slice (some ⟨g, 0, none⟩) l.length cap ∧ B ≤ g ∧ w.heap[g]? = some (.cells cur 5 (0, 0)) ∧ l.length ≤ cap ∧ cap ≤ maxLen ∧ cur.size = cap * 1 ∧ cur.toList.take (l.length * 1) = Lib.byteCells l := by
      rcases hown.2 with ⟨_, hz⟩ | ⟨g, cap, cur, hv, r⟩
      · exact absurd hz hl0
      · exact ⟨g, cap, cur, hv, r⟩
    have c1 : w.drew.cell? ⟨S, 1, none⟩ = some (.slice (some ⟨g, 0, none⟩) l.length cap) := by
      have : w.drew.heap[S]? = some (.cells #[p, .slice (some ⟨g, 0, none⟩) l.length cap] 43 (0, 0)) := hb
      rw [Lib.cell_of_heap this]; rfl
    have hSD : (Builtin.unsafeSliceData_ #[39] 62 #[.slice (some ⟨g, 0, none⟩) l.length cap]).run Tryz.prog w.drew = .ok (.pointer (some ⟨g, 0, none⟩)) w.drew :=
      Lib.run_unsafeSliceData_row _ _ _ _ _ _ (by omega)
    have hUS : (Builtin.unsafeString_ #[62, 3] 9 #[.pointer (some ⟨g, 0, none⟩), .int .i64 l.length]).run Tryz.prog w.drew = .ok (.string ⟨l.toArray⟩) (w.drew.freeze ⟨g, 0, none⟩ l.length) := by
      refine Lib.run_unsafeString_row w.drew 62 3 9 5 Tryz.underlying62 (by kernel_rfl) g cur.size (by have hg' : w.drew.heap[g]? = some (.cells cur 5 (0, 0)) := hg; simp [World.shape?, hg']) l h0 (by omega) (by unfold maxLen at hcm; omega) ?_
      intro j x hx
      have := hown.cells (g := g) rfl j (.int .u8 x.toNat) (by simp [Lib.byteCells, hx])
      exact this
    have HF := Hid.mk (Lib.below_freeze (Below.drew (Below.refl B w)) (p := ⟨g, 0, none⟩) hbg l.length)
    clear h hb hp hown hnil hg hnc hcm hcs htake h0 hl0 hbg
    have mixed : Tryz.prog.follows .mixedOrders = true := by kernel_rfl
    go_enter Tryz.func16, Tryz.ntmps16
    go_wp2
    go_region_o
    all_goals (go_wp2; go_ret; exact ⟨rfl, HF.out⟩)

end Go.Proofs.YtcadknhedfnaoaaGreatDoor
namespace Go.Proofs.YtcadknhedfnaoaaGreatDoor
open Go.RowKit Go.Shelf Go.Sort
set_option linter.unusedVariables false
set_option linter.unusedSimpArgs false
attribute [local go_sem] Oper.semAt_some

/-- Text's answer -/
noncomputable def txA (h : Nat) (A : NT) : List UInt8 := if fpN h A = true then shT h A else []
noncomputable def txE (h : Nat) (A : NT) : Int := if fpN h A = true then 0 else 1
theorem pen_new (w : World) (hT : PTabIn w) : PS w w.heap.size (w.alloc (.cells #[.pointer none, .slice none 0 0] 43)) [] :=
  ⟨⟨Nat.le_refl _, _, _, heap_alloc_new w _, .inl rfl, ⟨rfl, .inl ⟨rfl, rfl⟩⟩, fun _ => rfl⟩, below1 w _, hT⟩

set_option maxRecDepth 100000 in
set_option maxHeartbeats 3200000 in
theorem w_TextP (h : Nat) (A : NT) (va : Value) (w : World) (hA : InA w h A va) (hT : PTabIn w) (htx : TxB h A) (hlen : (shT h A).length ≤ 140737488355328) : Calls Tryz.prog 8 #[va] w fun e w' => e = .returned (.tuple #[.string ⟨(txA h A).toArray⟩, .int .i64 (txE h A)]) ∧ Below w.heap.size w w' := by
  obtain ⟨aop, aat, avk, atx, avn, avx, aio, ayo, ano, ako, avi, aic, avy, ayc, ann, anc, akn, akc, rfl⟩ := inA_shape hA
  have hb1 := below1 w (.cells #[.int .i64 aop, .int .i64 aat, .string atx, .int .i64 avk, .string avn, .string avx, .slice aio avi aic, .slice ayo avy ayc, .slice ano ann anc, .slice ako akn akc] 28)
  have HF := Hid.mk (w_FormedP h A _ _ (hA.low hb1))
  have HX := Hid.mk (B1.new (w := w) (ca := #[.int .i64 aop, .int .i64 aat, .string atx, .int .i64 avk, .string avn, .string avx, .slice aio avi aic, .slice ayo avy ayc, .slice ano ann anc, .slice ako akn akc]) (t := 28) rfl)
  have HN : Hid (∀ u, Below w.heap.size w u → B1 w #[.int .i64 aop, .int .i64 aat, .string atx, .int .i64 avk, .string avn, .string avx, .slice aio avi aic, .slice ayo avy ayc, .slice ano ann anc, .slice ako akn akc] 28 u → NAt u h A w.heap.size 0) := fun u hu hx => nat_box (c := c10 (.int .i64 aop) (.int .i64 aat) (.string atx) (.int .i64 avk) (.string avn) (.string avx) (.slice aio avi aic) (.slice ayo avy ayc) (.slice ano ann anc) (.slice ako akn akc)) hx.a (hA.low hu)
  have HTb : Hid (∀ u, Below w.heap.size w u → PTabIn u) := fun u hu => hT.keep hu
  have HTx := Hid.mk htx
  have HL := Hid.mk hlen
  unfold txA txE
  cases hf : fpN h A with
  | false =>
    rw [hf] at HF
    rw [if_neg (by decide), if_neg (by decide)]
    clear hA hT htx hlen hf hb1
    go_enter Tryz.func8, Tryz.ntmps8
    go_wp2_with fail
    refine HF.out.mono ?_
    rintro e w2 ⟨rfl, hb2⟩
    have HB2 := Hid.mk (HX.out.keep hb2)
    clear hb2
    go_wp2_with fail
    go_ret2
    exact ⟨rfl, HB2.out.below⟩
  | true =>
    have HTl := Hid.mk (fun u (hu : NAt u h A w.heap.size 0) (S : Nat) => w_tell u S h A w.heap.size 0 hu hf HTx.out)
    rw [hf] at HF
    rw [if_pos rfl, if_pos rfl]
    clear hA hT htx hlen hf hb1 HTx
    go_enter Tryz.func8, Tryz.ntmps8
    go_wp2_with fail
    refine HF.out.mono ?_
    rintro e w2 ⟨rfl, hb2⟩
    have HB2 := Hid.mk (HX.out.keep hb2)
    clear hb2
    have HP2 := Hid.mk (pen_new w2 (HTb.out _ HB2.out.below))
    have HS2 := Hid.mk (HTl.out w2 (HN.out _ HB2.out.below HB2.out) w2.heap.size)
    clear HTl HN HX HF
    go_wp2_with fail
    refine (HS2.out _ _ HP2.out (by have := HL.out; simpa using this)).mono ?_
    rintro e w3 ⟨rfl, hp3, hk3⟩
    rw [List.nil_append] at hp3
    have HP3 := Hid.mk hp3
    have HStr := Hid.mk (w_String w2.heap.size w2.heap.size _ w3 hp3.pen)
    clear hp3 hk3 HS2 HP2
    go_wp2_with fail
    refine HStr.out.mono ?_
    rintro e w4 ⟨rfl, hb4⟩
    have HB4 : Hid (Below w.heap.size w w4) := HB2.out.below.trans ((HP3.out.low.trans hb4).mono HB2.out.below.size)
    clear hb4
    go_wp2_with fail
    go_ret2
    exact ⟨rfl, HB4.out⟩
end Go.Proofs.YtcadknhedfnaoaaGreatDoor
