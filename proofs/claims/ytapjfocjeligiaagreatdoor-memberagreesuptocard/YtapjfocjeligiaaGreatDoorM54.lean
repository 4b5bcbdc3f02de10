import Derived.Test.YtapjfocjeligiaaGreatDoorM50
import Derived.Test.YtapjfocjeligiaaGreatDoorM53
import Derived.Deep.RegionHeld3
namespace Go.Proofs.YtapjfocjeligiaaGreatDoor
open Go.RowKit Go.Shelf Go.Sort
set_option linter.unusedVariables false
set_option linter.unusedSimpArgs false
attribute [local go_sem] Oper.semAt_some

set_option maxRecDepth 100000 in
set_option maxHeartbeats 1600000 in
theorem w_whole (s : ByteArray) (w : World) : Calls Tryz.prog 8 #[.string s] w fun e w' => e = .returned (.agg #[.int .i64 3, .string s, .string ⟨#[]⟩, .slice none 0 0, .slice none 0 0]) ∧ Below w.heap.size w w' := by
  have HB := Hid.mk (below1 w (.cells #[.int .i64 3, .string s, .string ⟨#[]⟩, .slice none 0 0, .slice none 0 0] 37))
  go_enter Tryz.func8, Tryz.ntmps8
  go_wp2_with fail
  (try simp only [Exit.inBlock, Exit.then])
  refine bodyPost_ret (v := .agg #[.int .i64 3, .string s, .string ⟨#[]⟩, .slice none 0 0, .slice none 0 0]) (by simp [results, Tryz.results8, go_sem]) rfl ?_
  exact ⟨rfl, HB.out⟩
set_option maxRecDepth 100000 in
set_option maxHeartbeats 1600000 in
theorem w_word (s : ByteArray) (w : World) : Calls Tryz.prog 10 #[.string s] w fun e w' => e = .returned (.agg #[.int .i64 4, .string ⟨#[]⟩, .string s, .slice none 0 0, .slice none 0 0]) ∧ Below w.heap.size w w' := by
  have HB := Hid.mk (below1 w (.cells #[.int .i64 4, .string ⟨#[]⟩, .string s, .slice none 0 0, .slice none 0 0] 37))
  go_enter Tryz.func10, Tryz.ntmps10
  go_wp2_with fail
  (try simp only [Exit.inBlock, Exit.then])
  refine bodyPost_ret (v := .agg #[.int .i64 4, .string ⟨#[]⟩, .string s, .slice none 0 0, .slice none 0 0]) (by simp [results, Tryz.results10, go_sem]) rfl ?_
  exact ⟨rfl, HB.out⟩

theorem leafH (W : World) (h : Nat) (k : Int) (n t : ByteArray) (hn : n.size ≤ 140737488355328) (ht : t.size ≤ 140737488355328) : InH W (h + 1) (.mk k n t [] []) (.agg #[.int .i64 k, .string n, .string t, .slice none 0 0, .slice none 0 0]) :=
  ⟨none, 0, none, 0, rfl, hn, ht, Nat.zero_le _, Nat.zero_le _, Nat.le_refl _, Nat.le_refl _, fun k hk => (by cases hk), ⟨fun h0 => absurd h0 (Nat.not_lt_zero _)⟩, fun h0 => absurd h0 (Nat.not_lt_zero _)⟩
set_option maxRecDepth 100000 in
set_option maxHeartbeats 6400000 in
theorem w_why (hv h : Nat) (V : VT) (T : TT) (P : List VT) (po : Option Addr) (np pcap : Nat) (reason : Int) (vv vt : Value) (w : World) (hI : InH w hv V vv) (hT : InT w h T vt) (ht : Tab2 w) (hg : ErrT w) (hl : ∀ q, agN h V T = some q → q.1.length ≤ 1048576) (hP : IIn w 1 po P) (hn : P.length = np) (hc : np ≤ pcap) (hn2 : np ≤ 140737488355328) (hw : whR hv h V T = (P, reason, 0)) :
    Calls Tryz.prog 9 #[vv, vt, .slice po np pcap, .int .i64 reason] w fun e w' => e = .returned (.bool true) ∧ Below w.heap.size w w' := by
  have HW := Hid.mk (fun u (hu : Below w.heap.size w u) => w_mWhy hv h V T vv vt u (hI.keep hu) (hT.keep hu) (ht.keep hu) (hg.keep hu) hl)
  rw [hw] at HW
  have HS := Hid.mk (fun (io : Option Addr) (cap : Nat) (u : World) (hu : Below w.heap.size w u) (hO : WhO u P io cap) => w_SameValues 1 io P.length cap P po np pcap P u hO.2 (hP.keep hu) rfl hn hO.1 hc (by rw [hn]; exact hn2) hn2)
  simp only [sm_yes] at HS
  simp only at HW
  generalize P.length = n1 at *
  obtain ⟨io, icap, vo, vcap, rfl⟩ := inH_shape hI
  generalize V.kind = kd at *
  generalize V.num = nm at *
  generalize V.text = tx at *
  generalize V.items.length = NI at *
  generalize V.keys.length = NK at *
  obtain ⟨sa, sb, sc, sd, ⟨seo, sen, sec⟩, sf, ⟨sgo, sgn, sgc⟩, ⟨sio, sinn, sic⟩, ⟨sjo, sjn, sjc⟩, rfl⟩ := inT_shape hT
  clear hI hT ht hg hl hP hw hn
  have HX := Hid.mk (bx2_two w #[.int .i64 kd, .string nm, .string tx, .slice io NI icap, .slice vo NK vcap] #[.bool sa, .bool sb, .bool sc, .bool sd, .slice seo sen sec, .bool sf, .slice sgo sgn sgc, .slice sio sinn sic, .slice sjo sjn sjc] 37 29)
  obtain ⟨W0, hW0⟩ : ∃ W0, (w.alloc (.cells #[.int .i64 kd, .string nm, .string tx, .slice io NI icap, .slice vo NK vcap] 37)).alloc (.cells #[.bool sa, .bool sb, .bool sc, .bool sd, .slice seo sen sec, .bool sf, .slice sgo sgn sgc, .slice sio sinn sic, .slice sjo sjn sjc] 29) = W0 := ⟨_, rfl⟩
  rw [hW0] at HX
  have p0 : W0.cell? ⟨w.heap.size, 0, none⟩ = some (.int .i64 kd) := HX.out.one 0
  have p1 : W0.cell? ⟨w.heap.size, 1, none⟩ = some (.string nm) := HX.out.one 1
  have p2 : W0.cell? ⟨w.heap.size, 2, none⟩ = some (.string tx) := HX.out.one 2
  have p3 : W0.cell? ⟨w.heap.size, 3, none⟩ = some (.slice io NI icap) := HX.out.one 3
  have p4 : W0.cell? ⟨w.heap.size, 4, none⟩ = some (.slice vo NK vcap) := HX.out.one 4
  have q0 : W0.cell? ⟨w.heap.size + 1, 0, none⟩ = some (.bool sa) := HX.out.two 0
  have q1 : W0.cell? ⟨w.heap.size + 1, 1, none⟩ = some (.bool sb) := HX.out.two 1
  have q2 : W0.cell? ⟨w.heap.size + 1, 2, none⟩ = some (.bool sc) := HX.out.two 2
  have q3 : W0.cell? ⟨w.heap.size + 1, 3, none⟩ = some (.bool sd) := HX.out.two 3
  have q4 : W0.cell? ⟨w.heap.size + 1, 4, none⟩ = some (.slice seo sen sec) := HX.out.two 4
  have q5 : W0.cell? ⟨w.heap.size + 1, 5, none⟩ = some (.bool sf) := HX.out.two 5
  have q6 : W0.cell? ⟨w.heap.size + 1, 6, none⟩ = some (.slice sgo sgn sgc) := HX.out.two 6
  have q7 : W0.cell? ⟨w.heap.size + 1, 7, none⟩ = some (.slice sio sinn sic) := HX.out.two 7
  have q8 : W0.cell? ⟨w.heap.size + 1, 8, none⟩ = some (.slice sjo sjn sjc) := HX.out.two 8
  go_enter Tryz.func9, Tryz.ntmps9
  go_wp2_with fail
  refine (HW.out _ HX.out.below).mono ?_
  rintro e w1 ⟨⟨io1, cap1, rfl, hO⟩, hb1⟩
  have HX1 := Hid.mk (HX.out.keep hb1)
  have HS1 := Hid.mk (HS.out io1 cap1 w1 HX1.out.below hO)
  have e1 : (reason == reason) = true := by simp
  clear hb1 hO hW0 p0 p1 p2 p3 p4 q0 q1 q2 q3 q4 q5 q6 q7 q8
  go_wp2_with fail
  refine HS1.out.mono ?_
  rintro e w2 ⟨rfl, hb2⟩
  have HX2 := Hid.mk (HX1.out.keep hb2)
  clear hb2
  go_wp2_with fail
  go_ret
  exact ⟨by first | rfl | simp, HX2.out.below⟩
end Go.Proofs.YtapjfocjeligiaaGreatDoor
namespace Go.Proofs.YtapjfocjeligiaaGreatDoor
open Go.RowKit Go.Shelf Go.Sort
set_option linter.unusedVariables false
set_option linter.unusedSimpArgs false
attribute [local go_sem] Oper.semAt_some

/-- the examples' types -/
def tnT : TT := .mk false false false false false [(⟨#[49]⟩, ⟨#[51]⟩)] [] [] []
def tlT : TT := .mk false false false false false [] [] [.mk tnT 1 2] []
def txT : TT := .mk false false false false false [] [⟨#[97]⟩, ⟨#[98]⟩] [] []
def nuT : TT := .mk false true false false false [] [] [] []
def tfT : TT := .mk false false false false false [] [] [] [.mk [⟨#[107]⟩, ⟨#[110]⟩] [txT, tnT] [true, false] nuT]
theorem tn_in {W : World} {h B : Nat} (h0 : W.cell? ⟨B, 0, none⟩ = some (.string ⟨#[49]⟩)) (h1 : W.cell? ⟨B, 1, none⟩ = some (.string ⟨#[51]⟩)) : InT W (h + 1) tnT (.agg #[.bool false, .bool false, .bool false, .bool false, .slice (some ⟨B, 0, none⟩) 1 1, .bool false, .slice none 0 0, .slice none 0 0, .slice none 0 0]) := by
  have hl := World.block_lt_of_cell? _ _ h0
  refine ⟨some ⟨B, 0, none⟩, 1, none, 0, none, 0, none, 0, rfl, ⟨by decide, by decide, by decide, by decide⟩, ⟨by decide, by decide, by decide, by decide⟩, fun p hp => ?_, fun k hk => (by cases hk), ⟨fun _ => ⟨B, 0, rfl, hl, fun i hi => ?_⟩⟩, ⟨fun h => absurd h (by decide)⟩, fun h => absurd h (by decide), fun h => absurd h (by decide)⟩
  · have hp' : p ∈ [((⟨#[49]⟩ : ByteArray), (⟨#[51]⟩ : ByteArray))] := hp
    rw [List.mem_singleton] at hp'
    subst hp'
    exact ⟨by decide, by decide⟩
  · have hi' : i < 1 := hi
    obtain rfl : i = 0 := by omega
    exact ⟨h0, h1⟩
theorem nu_in (W : World) (h : Nat) : InT W (h + 1) nuT (.agg #[.bool false, .bool true, .bool false, .bool false, .slice none 0 0, .bool false, .slice none 0 0, .slice none 0 0, .slice none 0 0]) :=
  ⟨none, 0, none, 0, none, 0, none, 0, rfl, ⟨by decide, by decide, by decide, by decide⟩, ⟨by decide, by decide, by decide, by decide⟩, fun p hp => (by cases hp), fun k hk => (by cases hk), ⟨fun h => absurd h (by decide)⟩, ⟨fun h => absurd h (by decide)⟩, fun h => absurd h (by decide), fun h => absurd h (by decide)⟩
theorem bare_in (W : World) (h : Nat) (a b : Bool) : InT W (h + 1) (.mk a b false false false [] [] [] []) (.agg #[.bool a, .bool b, .bool false, .bool false, .slice none 0 0, .bool false, .slice none 0 0, .slice none 0 0, .slice none 0 0]) :=
  ⟨none, 0, none, 0, none, 0, none, 0, rfl, ⟨Nat.le_refl _, Nat.le_refl _, Nat.le_refl _, Nat.le_refl _⟩, ⟨Nat.zero_le _, Nat.zero_le _, Nat.zero_le _, Nat.zero_le _⟩, fun p hp => (by cases hp), fun k hk => (by cases hk), ⟨fun h => absurd h (Nat.not_lt_zero _)⟩, ⟨fun h => absurd h (Nat.not_lt_zero _)⟩, fun h => absurd h (Nat.not_lt_zero _), fun h => absurd h (Nat.not_lt_zero _)⟩
theorem tx_in {W : World} {h B : Nat} (h0 : W.cell? ⟨B, 0, none⟩ = some (.string ⟨#[97]⟩)) (h1 : W.cell? ⟨B, 1, none⟩ = some (.string ⟨#[98]⟩)) : InT W (h + 1) txT (.agg #[.bool false, .bool false, .bool false, .bool false, .slice none 0 0, .bool false, .slice (some ⟨B, 0, none⟩) 2 2, .slice none 0 0, .slice none 0 0]) := by
  have hl := World.block_lt_of_cell? _ _ h0
  refine ⟨none, 0, some ⟨B, 0, none⟩, 2, none, 0, none, 0, rfl, ⟨by decide, by decide, by decide, by decide⟩, ⟨by decide, by decide, by decide, by decide⟩, fun p hp => (by cases hp), fun k hk => ?_, ⟨fun h => absurd h (by decide)⟩, ⟨fun _ => ⟨B, 0, rfl, hl, fun i hi => ?_⟩⟩, fun h => absurd h (by decide), fun h => absurd h (by decide)⟩
  · have hk' : k ∈ [(⟨#[97]⟩ : ByteArray), ⟨#[98]⟩] := hk
    rcases List.mem_cons.1 hk' with rfl | hk'
    · decide
    · rw [List.mem_singleton] at hk'; subst hk'; decide
  · have hi' : i < 2 := hi
    match i, hi' with
    | 0, _ => exact h0
    | 1, _ => exact h1
theorem tl_in {W : World} {h Bn B : Nat} (hn0 : W.cell? ⟨Bn, 0, none⟩ = some (.string ⟨#[49]⟩)) (hn1 : W.cell? ⟨Bn, 1, none⟩ = some (.string ⟨#[51]⟩)) (hb : W.heap[B]? = some (.cells #[.bool false, .bool false, .bool false, .bool false, .slice (some ⟨Bn, 0, none⟩) 1 1, .bool false, .slice none 0 0, .slice none 0 0, .slice none 0 0, .int .i64 1, .int .i64 2] 31 (0, 0))) : InT W (h + 1 + 1) tlT (.agg #[.bool false, .bool false, .bool false, .bool false, .slice none 0 0, .bool false, .slice none 0 0, .slice (some ⟨B, 0, none⟩) 1 1, .slice none 0 0]) := by
  have hl : B < W.heap.size := lt_row hb
  have hc := fun j => cell_of_row W B j _ _ _ hb
  refine ⟨none, 0, none, 0, some ⟨B, 0, none⟩, 1, none, 0, rfl, ⟨by decide, by decide, by decide, by decide⟩, ⟨by decide, by decide, by decide, by decide⟩, fun p hp => (by cases hp), fun k hk => (by cases hk), ⟨fun h => absurd h (by decide)⟩, ⟨fun h => absurd h (by decide)⟩, fun _ => ⟨B, 0, rfl, hl, fun i hi => ?_⟩, fun h => absurd h (by decide)⟩
  have hi' : i < 1 := hi
  obtain rfl : i = 0 := by omega
  exact ⟨_, _, _, _, _, _, _, _, _, ⟨hc 0, hc 1, hc 2, hc 3, hc 4, hc 5, hc 6, hc 7, hc 8⟩, hc 9, hc 10, tn_in hn0 hn1⟩
theorem tf_in {W : World} {h Bn Bk Bt Bf Bm B : Nat} (hn0 : W.cell? ⟨Bn, 0, none⟩ = some (.string ⟨#[49]⟩)) (hn1 : W.cell? ⟨Bn, 1, none⟩ = some (.string ⟨#[51]⟩)) (ht0 : W.cell? ⟨Bt, 0, none⟩ = some (.string ⟨#[97]⟩)) (ht1 : W.cell? ⟨Bt, 1, none⟩ = some (.string ⟨#[98]⟩))
    (hk0 : W.cell? ⟨Bk, 0, none⟩ = some (.string ⟨#[107]⟩)) (hk1 : W.cell? ⟨Bk, 1, none⟩ = some (.string ⟨#[110]⟩)) (hm0 : W.cell? ⟨Bm, 0, none⟩ = some (.bool true)) (hm1 : W.cell? ⟨Bm, 1, none⟩ = some (.bool false))
    (hf : W.heap[Bf]? = some (.cells #[.bool false, .bool false, .bool false, .bool false, .slice none 0 0, .bool false, .slice (some ⟨Bt, 0, none⟩) 2 2, .slice none 0 0, .slice none 0 0, .bool false, .bool false, .bool false, .bool false, .slice (some ⟨Bn, 0, none⟩) 1 1, .bool false, .slice none 0 0, .slice none 0 0, .slice none 0 0] 29 (0, 0))) (hb : W.heap[B]? = some (.cells #[.slice (some ⟨Bk, 0, none⟩) 2 2, .slice (some ⟨Bf, 0, none⟩) 2 2, .slice (some ⟨Bm, 0, none⟩) 2 2, .bool false, .bool true, .bool false, .bool false, .slice none 0 0, .bool false, .slice none 0 0, .slice none 0 0, .slice none 0 0] 60 (0, 0))) : InT W (h + 1 + 1) tfT (.agg #[.bool false, .bool false, .bool false, .bool false, .slice none 0 0, .bool false, .slice none 0 0, .slice none 0 0, .slice (some ⟨B, 0, none⟩) 1 1]) := by
  have hl : B < W.heap.size := lt_row hb
  have hfl : Bf < W.heap.size := lt_row hf
  have hkl := World.block_lt_of_cell? _ _ hk0
  have hml := World.block_lt_of_cell? _ _ hm0
  have hc := fun j => cell_of_row W B j _ _ _ hb
  have hd := fun j => cell_of_row W Bf j _ _ _ hf
  refine ⟨none, 0, none, 0, none, 0, some ⟨B, 0, none⟩, 1, rfl, ⟨by decide, by decide, by decide, by decide⟩, ⟨by decide, by decide, by decide, by decide⟩, fun p hp => (by cases hp), fun k hk => (by cases hk), ⟨fun h => absurd h (by decide)⟩, ⟨fun h => absurd h (by decide)⟩, fun h => absurd h (by decide), fun _ => ⟨B, 0, rfl, hl, fun i hi => ?_⟩⟩
  have hi' : i < 1 := hi
  obtain rfl : i = 0 := by omega
  refine ⟨some ⟨Bk, 0, none⟩, 2, some ⟨Bf, 0, none⟩, 2, some ⟨Bm, 0, none⟩, 2, _, _, _, _, _, _, _, _, _, ⟨hc 0, hc 1, hc 2⟩, ⟨hc 3, hc 4, hc 5, hc 6, hc 7, hc 8, hc 9, hc 10, hc 11⟩, ⟨Nat.le_refl 2, Nat.le_refl 2, Nat.le_refl 2⟩, ⟨(by decide : (2 : Nat) ≤ 140737488355328), (by decide : (2 : Nat) ≤ 140737488355328), (by decide : (2 : Nat) ≤ 140737488355328), fun k hk => ?_⟩, ⟨fun _ => ⟨Bk, 0, rfl, hkl, fun j hj => ?_⟩⟩, ⟨fun _ => ⟨Bm, 0, rfl, hml, fun j hj => ?_⟩⟩, fun _ => ⟨Bf, 0, rfl, hfl, fun j hj => ?_⟩, nu_in W h⟩
  · have hk' : k ∈ [(⟨#[107]⟩ : ByteArray), ⟨#[110]⟩] := hk
    rcases List.mem_cons.1 hk' with rfl | hk'
    · decide
    · rw [List.mem_singleton] at hk'; subst hk'; decide
  · have hj' : j < 2 := hj
    match j, hj' with
    | 0, _ => exact hk0
    | 1, _ => exact hk1
  · have hj' : j < 2 := hj
    match j, hj' with
    | 0, _ => exact hm0
    | 1, _ => exact hm1
  · have hj' : j < 2 := hj
    match j, hj' with
    | 0, _ => exact ⟨_, _, _, _, _, _, _, _, _, ⟨hd 0, hd 1, hd 2, hd 3, hd 4, hd 5, hd 6, hd 7, hd 8⟩, tx_in ht0 ht1⟩
    | 1, _ => exact ⟨_, _, _, _, _, _, _, _, _, ⟨hd 9, hd 10, hd 11, hd 12, hd 13, hd 14, hd 15, hd 16, hd 17⟩, tn_in hn0 hn1⟩

theorem push_old : ∀ (os : List Obj) (w : World) (j : Nat), j < w.heap.size → (os.foldl World.alloc w).heap[j]? = w.heap[j]? ∧ w.heap.size ≤ (os.foldl World.alloc w).heap.size
  | [], w, j, _ => ⟨rfl, Nat.le_refl _⟩
  | o :: os, w, j, hj => by
    have ih := push_old os (w.alloc o) j (by simp; omega)
    refine ⟨ih.1.trans (Below.heap_alloc _ _ _ hj), ?_⟩
    have h2 := ih.2
    rw [World.size_alloc] at h2
    exact Nat.le_trans (Nat.le_succ _) h2
theorem push_all : ∀ (os : List Obj) (w : World) (i : Nat), i < os.length → (os.foldl World.alloc w).heap[w.heap.size + i]? = os[i]?
  | [], w, i, hi => absurd hi (Nat.not_lt_zero _)
  | o :: os, w, 0, _ => by
    rw [List.foldl_cons, Nat.add_zero, (push_old os (w.alloc o) w.heap.size (by simp)).1]
    exact World.alloc_heap_new w o
  | o :: os, w, i + 1, hi => by
    have ih := push_all os (w.alloc o) i (by simpa using hi)
    rw [World.size_alloc] at ih
    rw [List.foldl_cons, show w.heap.size + (i + 1) = w.heap.size + 1 + i by omega]
    exact ih
theorem below_all : ∀ (os : List Obj) (w : World), Below w.heap.size w (os.foldl World.alloc w)
  | [], w => Below.refl _ _
  | o :: os, w => by
    have ih := below_all os (w.alloc o)
    exact (below1 w o).trans (ih.mono (by simp))

set_option maxRecDepth 100000 in
set_option maxHeartbeats 6400000 in
theorem w_fields (w : World) : Calls Tryz.prog 11 #[] w fun e w' => (∃ vt, e = .returned vt ∧ InT w' 2 tfT vt) ∧ Below w.heap.size w w' := by
  have hA := push_all [Obj.cells (#[.bool false, .bool false, .bool false, .bool false, .slice none 0 0, .bool false, .slice none 0 0, .slice none 0 0, .slice (some ⟨w.heap.size + 1 + 1 + 1 + 1 + 1 + 1 + 1, 0, none⟩) 1 1] : Array Value) 29 (0, 0), Obj.cells (#[.string ⟨#[49]⟩, .string ⟨#[51]⟩] : Array Value) 23 (0, 0), Obj.cells (#[.bool false, .bool false, .bool false, .bool false, .slice (some ⟨w.heap.size + 1, 0, none⟩) 1 1, .bool false, .slice none 0 0, .slice none 0 0, .slice none 0 0] : Array Value) 29 (0, 0), Obj.cells (#[.string ⟨#[107]⟩, .string ⟨#[110]⟩] : Array Value) 9 (0, 0), Obj.cells (#[.string ⟨#[97]⟩, .string ⟨#[98]⟩] : Array Value) 9 (0, 0), Obj.cells (#[.bool false, .bool false, .bool false, .bool false, .slice none 0 0, .bool false, .slice (some ⟨w.heap.size + 1 + 1 + 1 + 1, 0, none⟩) 2 2, .slice none 0 0, .slice none 0 0, .bool false, .bool false, .bool false, .bool false, .slice (some ⟨w.heap.size + 1, 0, none⟩) 1 1, .bool false, .slice none 0 0, .slice none 0 0, .slice none 0 0] : Array Value) 29 (0, 0), Obj.cells (#[.bool true, .bool false] : Array Value) 4 (0, 0), Obj.cells (#[.slice (some ⟨w.heap.size + 1 + 1 + 1, 0, none⟩) 2 2, .slice (some ⟨w.heap.size + 1 + 1 + 1 + 1 + 1, 0, none⟩) 2 2, .slice (some ⟨w.heap.size + 1 + 1 + 1 + 1 + 1 + 1, 0, none⟩) 2 2, .bool false, .bool true, .bool false, .bool false, .slice none 0 0, .bool false, .slice none 0 0, .slice none 0 0, .slice none 0 0] : Array Value) 60 (0, 0)] w
  have hB := below_all [Obj.cells (#[.bool false, .bool false, .bool false, .bool false, .slice none 0 0, .bool false, .slice none 0 0, .slice none 0 0, .slice (some ⟨w.heap.size + 1 + 1 + 1 + 1 + 1 + 1 + 1, 0, none⟩) 1 1] : Array Value) 29 (0, 0), Obj.cells (#[.string ⟨#[49]⟩, .string ⟨#[51]⟩] : Array Value) 23 (0, 0), Obj.cells (#[.bool false, .bool false, .bool false, .bool false, .slice (some ⟨w.heap.size + 1, 0, none⟩) 1 1, .bool false, .slice none 0 0, .slice none 0 0, .slice none 0 0] : Array Value) 29 (0, 0), Obj.cells (#[.string ⟨#[107]⟩, .string ⟨#[110]⟩] : Array Value) 9 (0, 0), Obj.cells (#[.string ⟨#[97]⟩, .string ⟨#[98]⟩] : Array Value) 9 (0, 0), Obj.cells (#[.bool false, .bool false, .bool false, .bool false, .slice none 0 0, .bool false, .slice (some ⟨w.heap.size + 1 + 1 + 1 + 1, 0, none⟩) 2 2, .slice none 0 0, .slice none 0 0, .bool false, .bool false, .bool false, .bool false, .slice (some ⟨w.heap.size + 1, 0, none⟩) 1 1, .bool false, .slice none 0 0, .slice none 0 0, .slice none 0 0] : Array Value) 29 (0, 0), Obj.cells (#[.bool true, .bool false] : Array Value) 4 (0, 0), Obj.cells (#[.slice (some ⟨w.heap.size + 1 + 1 + 1, 0, none⟩) 2 2, .slice (some ⟨w.heap.size + 1 + 1 + 1 + 1 + 1, 0, none⟩) 2 2, .slice (some ⟨w.heap.size + 1 + 1 + 1 + 1 + 1 + 1, 0, none⟩) 2 2, .bool false, .bool true, .bool false, .bool false, .slice none 0 0, .bool false, .slice none 0 0, .slice none 0 0, .slice none 0 0] : Array Value) 60 (0, 0)] w
  obtain ⟨W, hW⟩ : ∃ W, [Obj.cells (#[.bool false, .bool false, .bool false, .bool false, .slice none 0 0, .bool false, .slice none 0 0, .slice none 0 0, .slice (some ⟨w.heap.size + 1 + 1 + 1 + 1 + 1 + 1 + 1, 0, none⟩) 1 1] : Array Value) 29 (0, 0), Obj.cells (#[.string ⟨#[49]⟩, .string ⟨#[51]⟩] : Array Value) 23 (0, 0), Obj.cells (#[.bool false, .bool false, .bool false, .bool false, .slice (some ⟨w.heap.size + 1, 0, none⟩) 1 1, .bool false, .slice none 0 0, .slice none 0 0, .slice none 0 0] : Array Value) 29 (0, 0), Obj.cells (#[.string ⟨#[107]⟩, .string ⟨#[110]⟩] : Array Value) 9 (0, 0), Obj.cells (#[.string ⟨#[97]⟩, .string ⟨#[98]⟩] : Array Value) 9 (0, 0), Obj.cells (#[.bool false, .bool false, .bool false, .bool false, .slice none 0 0, .bool false, .slice (some ⟨w.heap.size + 1 + 1 + 1 + 1, 0, none⟩) 2 2, .slice none 0 0, .slice none 0 0, .bool false, .bool false, .bool false, .bool false, .slice (some ⟨w.heap.size + 1, 0, none⟩) 1 1, .bool false, .slice none 0 0, .slice none 0 0, .slice none 0 0] : Array Value) 29 (0, 0), Obj.cells (#[.bool true, .bool false] : Array Value) 4 (0, 0), Obj.cells (#[.slice (some ⟨w.heap.size + 1 + 1 + 1, 0, none⟩) 2 2, .slice (some ⟨w.heap.size + 1 + 1 + 1 + 1 + 1, 0, none⟩) 2 2, .slice (some ⟨w.heap.size + 1 + 1 + 1 + 1 + 1 + 1, 0, none⟩) 2 2, .bool false, .bool true, .bool false, .bool false, .slice none 0 0, .bool false, .slice none 0 0, .slice none 0 0, .slice none 0 0] : Array Value) 60 (0, 0)].foldl World.alloc w = W := ⟨_, rfl⟩
  rw [hW] at hB
  have hH : ∀ i, (hi : i < 8) → W.heap[w.heap.size + i]? = [Obj.cells (#[.bool false, .bool false, .bool false, .bool false, .slice none 0 0, .bool false, .slice none 0 0, .slice none 0 0, .slice (some ⟨w.heap.size + 1 + 1 + 1 + 1 + 1 + 1 + 1, 0, none⟩) 1 1] : Array Value) 29 (0, 0), Obj.cells (#[.string ⟨#[49]⟩, .string ⟨#[51]⟩] : Array Value) 23 (0, 0), Obj.cells (#[.bool false, .bool false, .bool false, .bool false, .slice (some ⟨w.heap.size + 1, 0, none⟩) 1 1, .bool false, .slice none 0 0, .slice none 0 0, .slice none 0 0] : Array Value) 29 (0, 0), Obj.cells (#[.string ⟨#[107]⟩, .string ⟨#[110]⟩] : Array Value) 9 (0, 0), Obj.cells (#[.string ⟨#[97]⟩, .string ⟨#[98]⟩] : Array Value) 9 (0, 0), Obj.cells (#[.bool false, .bool false, .bool false, .bool false, .slice none 0 0, .bool false, .slice (some ⟨w.heap.size + 1 + 1 + 1 + 1, 0, none⟩) 2 2, .slice none 0 0, .slice none 0 0, .bool false, .bool false, .bool false, .bool false, .slice (some ⟨w.heap.size + 1, 0, none⟩) 1 1, .bool false, .slice none 0 0, .slice none 0 0, .slice none 0 0] : Array Value) 29 (0, 0), Obj.cells (#[.bool true, .bool false] : Array Value) 4 (0, 0), Obj.cells (#[.slice (some ⟨w.heap.size + 1 + 1 + 1, 0, none⟩) 2 2, .slice (some ⟨w.heap.size + 1 + 1 + 1 + 1 + 1, 0, none⟩) 2 2, .slice (some ⟨w.heap.size + 1 + 1 + 1 + 1 + 1 + 1, 0, none⟩) 2 2, .bool false, .bool true, .bool false, .bool false, .slice none 0 0, .bool false, .slice none 0 0, .slice none 0 0, .slice none 0 0] : Array Value) 60 (0, 0)][i]? := fun i hi => by rw [← hW]; exact hA i hi
  have HF : Hid (InT W 2 tfT (.agg #[.bool false, .bool false, .bool false, .bool false, .slice none 0 0, .bool false, .slice none 0 0, .slice none 0 0, .slice (some ⟨w.heap.size + 1 + 1 + 1 + 1 + 1 + 1 + 1, 0, none⟩) 1 1])) := tf_in (cell_of_row _ _ 0 _ _ _ (hH 1 (by decide))) (cell_of_row _ _ 1 _ _ _ (hH 1 (by decide))) (cell_of_row _ _ 0 _ _ _ (hH 4 (by decide))) (cell_of_row _ _ 1 _ _ _ (hH 4 (by decide))) (cell_of_row _ _ 0 _ _ _ (hH 3 (by decide))) (cell_of_row _ _ 1 _ _ _ (hH 3 (by decide))) (cell_of_row _ _ 0 _ _ _ (hH 6 (by decide))) (cell_of_row _ _ 1 _ _ _ (hH 6 (by decide))) (hH 5 (by decide)) (hH 7 (by decide))
  have HB := Hid.mk hB
  have hR : ∀ j, W.cell? ⟨w.heap.size, j, none⟩ = (#[.bool false, .bool false, .bool false, .bool false, .slice none 0 0, .bool false, .slice none 0 0, .slice none 0 0, .slice (some ⟨w.heap.size + 1 + 1 + 1 + 1 + 1 + 1 + 1, 0, none⟩) 1 1] : Array Value)[j]? := fun j => cell_of_row _ _ j _ _ _ (hH 0 (by decide))
  have d0 := hR 0
  have d1 := hR 1
  have d2 := hR 2
  have d3 := hR 3
  have d4 := hR 4
  have d5 := hR 5
  have d6 := hR 6
  have d7 := hR 7
  have d8 := hR 8
  have hW2 : ((((((((w.alloc (.cells #[.bool false, .bool false, .bool false, .bool false, .slice none 0 0, .bool false, .slice none 0 0, .slice none 0 0, .slice (some ⟨w.heap.size + 1 + 1 + 1 + 1 + 1 + 1 + 1, 0, none⟩) 1 1] 29)).alloc (.cells #[.string ⟨#[49]⟩, .string ⟨#[51]⟩] 23)).alloc (.cells #[.bool false, .bool false, .bool false, .bool false, .slice (some ⟨w.heap.size + 1, 0, none⟩) 1 1, .bool false, .slice none 0 0, .slice none 0 0, .slice none 0 0] 29)).alloc (.cells #[.string ⟨#[107]⟩, .string ⟨#[110]⟩] 9)).alloc (.cells #[.string ⟨#[97]⟩, .string ⟨#[98]⟩] 9)).alloc (.cells #[.bool false, .bool false, .bool false, .bool false, .slice none 0 0, .bool false, .slice (some ⟨w.heap.size + 1 + 1 + 1 + 1, 0, none⟩) 2 2, .slice none 0 0, .slice none 0 0, .bool false, .bool false, .bool false, .bool false, .slice (some ⟨w.heap.size + 1, 0, none⟩) 1 1, .bool false, .slice none 0 0, .slice none 0 0, .slice none 0 0] 29)).alloc (.cells #[.bool true, .bool false] 4)).alloc (.cells #[.slice (some ⟨w.heap.size + 1 + 1 + 1, 0, none⟩) 2 2, .slice (some ⟨w.heap.size + 1 + 1 + 1 + 1 + 1, 0, none⟩) 2 2, .slice (some ⟨w.heap.size + 1 + 1 + 1 + 1 + 1 + 1, 0, none⟩) 2 2, .bool false, .bool true, .bool false, .bool false, .slice none 0 0, .bool false, .slice none 0 0, .slice none 0 0, .slice none 0 0] 60)) = W := hW
  have HW2 := Hid.mk hW2
  clear hA hB hH hW hW2 hR
  go_enter Tryz.func11, Tryz.ntmps11
  go_wp2_with fail
  (try simp only [Exit.inBlock, Exit.then])
  rw [HW2.out]
  refine bodyPost_ret (v := .agg #[.bool false, .bool false, .bool false, .bool false, .slice none 0 0, .bool false, .slice none 0 0, .slice none 0 0, .slice (some ⟨w.heap.size + 1 + 1 + 1 + 1 + 1 + 1 + 1, 0, none⟩) 1 1]) (by simp [results, Tryz.results11, go_sem, d0, d1, d2, d3, d4, d5, d6, d7, d8]) rfl ?_
  exact ⟨⟨_, rfl, HF.out⟩, HB.out⟩
end Go.Proofs.YtapjfocjeligiaaGreatDoor
namespace Go.Proofs.YtapjfocjeligiaaGreatDoor
open Go.RowKit Go.Shelf Go.Sort
set_option linter.unusedVariables false
set_option linter.unusedSimpArgs false

abbrev noB : ByteArray := ⟨#[]⟩
abbrev nmV (s : ByteArray) : VT := .mk 3 s ⟨#[]⟩ [] []
abbrev txV (s : ByteArray) : VT := .mk 4 ⟨#[]⟩ s [] []
theorem kn_in1 : inR 2 2 (.mk 5 ⟨#[]⟩ ⟨#[]⟩ [nmV ⟨#[49]⟩, nmV ⟨#[51]⟩] []) tlT = (true, 0) := by kernel_rfl
theorem kn_in2 : inR 1 2 (.mk 5 ⟨#[]⟩ ⟨#[]⟩ [] []) tlT = (false, 0) := by kernel_rfl
theorem kn_y1 : whR 1 1 (nmV ⟨#[52]⟩) tnT = ([], 2, 0) := by kernel_rfl
theorem kn_y2 : whR 1 1 (txV ⟨#[97]⟩) tnT = ([], 1, 0) := by kernel_rfl
theorem kn_y3 : whR 1 2 (.mk 5 ⟨#[]⟩ ⟨#[]⟩ [] []) tlT = ([], 4, 0) := by kernel_rfl
theorem kn_y4 : whR 1 1 (.mk 0 ⟨#[]⟩ ⟨#[]⟩ [] []) (.mk true false false false false [] [] [] []) = ([], 0, 0) := by kernel_rfl
theorem kn_y5 : whR 1 1 (.mk 0 ⟨#[]⟩ ⟨#[]⟩ [] []) (.mk false false false false false [] [] [] []) = ([], 1, 0) := by kernel_rfl
theorem kn_y6 : whR 2 2 (.mk 5 ⟨#[]⟩ ⟨#[]⟩ [nmV ⟨#[49]⟩, nmV ⟨#[57]⟩] []) tlT = ([nmV ⟨#[49]⟩], 2, 0) := by kernel_rfl
theorem kn_y7 : whR 2 2 (.mk 6 ⟨#[]⟩ ⟨#[]⟩ [nmV ⟨#[55]⟩] [⟨#[110]⟩]) tfT = ([txV ⟨#[107]⟩], 6, 0) := by kernel_rfl
theorem kn_y8 : whR 2 2 (.mk 6 ⟨#[]⟩ ⟨#[]⟩ [txV ⟨#[97]⟩, nmV ⟨#[55]⟩] [⟨#[107]⟩, ⟨#[110]⟩]) tfT = ([txV ⟨#[110]⟩], 2, 0) := by kernel_rfl
theorem kn_y9 : whR 1 1 (.mk 8 ⟨#[]⟩ ⟨#[]⟩ [] []) tnT = ([], 0, 1) := by kernel_rfl
/-- the ways that againstʼs answers tell are no longer than the types are high -/
theorem agIt_len {f : VT → TT → Er} {A : TT} {n : Nat} (h : ∀ x q, f x A = some q → q.1.length ≤ n) : ∀ (its : List VT) (i : Nat) (q : List VT × Int), agIt f A i its = some q → q.1.length ≤ n + 1
  | [], i, q, e => by simp [agIt] at e
  | x :: xs, i, q, e => by
    unfold agIt at e
    cases hx : f x A with
    | none => rw [hx] at e; exact agIt_len h xs (i + 1) q e
    | some r =>
      rw [hx] at e
      have := h x r hx
      simp only [Er.under, Option.some.injEq] at e
      subst e
      simp; omega
theorem agFl_len {f : VT → TT → Er} {o : OB} {n : Nat} (h : ∀ x A q, f x A = some q → q.1.length ≤ n) : ∀ (l : List (ByteArray × VT)) (q : List VT × Int), agFl f o l = some q → q.1.length ≤ n + 1
  | [], q, e => by simp [agFl] at e
  | x :: xs, q, e => by
    unfold agFl at e
    cases hx : f x.2 (fldO o x.1).1 with
    | none => rw [hx] at e; exact agFl_len h xs q e
    | some r =>
      rw [hx] at e
      have := h _ _ r hx
      simp only [Er.under, Option.some.injEq] at e
      subst e
      simp; omega
theorem agLk_len {ks : List ByteArray} : ∀ (l : List (ByteArray × Bool)) (q : List VT × Int), agLk ks l = some q → q.1.length ≤ 1
  | [], q, e => by simp [agLk] at e
  | x :: xs, q, e => by
    unfold agLk at e
    split at e
    · simp only [Option.some.injEq] at e; subst e; simp
    · exact agLk_len xs q e
theorem agOb_len {f : VT → TT → Er} {V : VT} {o : OB} {n : Nat} (h : ∀ x A q, f x A = some q → q.1.length ≤ n) (q : List VT × Int) (e : agOb f V o = some q) : q.1.length ≤ n + 1 := by
  unfold agOb at e
  split at e
  · rename_i r hr
    simp only [Option.some.injEq] at e
    subst e
    have := agLk_len _ _ hr
    omega
  · exact agFl_len h _ _ e
theorem ag_len : ∀ (h : Nat) (V : VT) (T : TT) (q : List VT × Int), agN h V T = some q → q.1.length ≤ h
  | 0, V, T, q, e => by simp [agN] at e
  | h + 1, V, T, q, e => by
    have ih := ag_len h
    unfold agN agK at e
    split at e
    · cases e
    · split at e
      · simp only [Option.some.injEq] at e; subst e; simp
      · split at e
        · unfold agNm agSp at e
          split at e
          · cases e
          · split at e
            · cases e
            · simp only [Option.some.injEq] at e; subst e; simp
        · split at e
          · unfold agTx at e
            split at e
            · cases e
            · simp only [Option.some.injEq] at e; subst e; simp
          · split at e
            · unfold agArs at e
              split at e
              · cases e
              · unfold agAr at e
                split at e
                · simp only [Option.some.injEq] at e; subst e; simp
                · split at e
                  · simp only [Option.some.injEq] at e; subst e; simp
                  · exact agIt_len (fun x q hq => ih x _ q hq) _ _ _ e
            · split at e
              · unfold agObs at e
                split at e
                · exact agOb_len (fun x A q hq => ih x A q hq) _ e
                · split at e
                  · cases e
                  · simp only [Option.some.injEq] at e; subst e; simp
              · cases e
end Go.Proofs.YtapjfocjeligiaaGreatDoor
namespace Go.Proofs.YtapjfocjeligiaaGreatDoor
open Go.RowKit Go.Shelf Go.Sort
set_option linter.unusedVariables false
set_option linter.unusedSimpArgs false
attribute [local go_sem] Oper.semAt_some

/-- the examples' two types, as they lie -/
structure KnB (w u : World) : Prop where
  below : Below w.heap.size w u
  sp : u.heap[w.heap.size]? = some (.cells #[.string ⟨#[49]⟩, .string ⟨#[51]⟩] 23 (0, 0))
  bn : u.heap[w.heap.size + 1]? = some (.cells #[.bool false, .bool false, .bool false, .bool false, .slice (some ⟨w.heap.size, 0, none⟩) 1 1, .bool false, .slice none 0 0, .slice none 0 0, .slice none 0 0] 29 (0, 0))
  ar : u.heap[w.heap.size + 1 + 1]? = some (.cells #[.bool false, .bool false, .bool false, .bool false, .slice (some ⟨w.heap.size, 0, none⟩) 1 1, .bool false, .slice none 0 0, .slice none 0 0, .slice none 0 0, .int .i64 1, .int .i64 2] 31 (0, 0))
  bl : u.heap[w.heap.size + 1 + 1 + 1]? = some (.cells #[.bool false, .bool false, .bool false, .bool false, .slice none 0 0, .bool false, .slice none 0 0, .slice (some ⟨w.heap.size + 1 + 1, 0, none⟩) 1 1, .slice none 0 0] 29 (0, 0))
theorem KnB.keep {w u u' : World} (h : KnB w u) (hb : Below u.heap.size u u') : KnB w u' :=
  ⟨h.below.trans (hb.mono h.below.size), (hb.block _ (lt_row h.sp)).trans h.sp, (hb.block _ (lt_row h.bn)).trans h.bn, (hb.block _ (lt_row h.ar)).trans h.ar, (hb.block _ (lt_row h.bl)).trans h.bl⟩
theorem KnB.tn {w u : World} (h : KnB w u) (k : Nat) : InT u (k + 1) tnT (.agg #[.bool false, .bool false, .bool false, .bool false, .slice (some ⟨w.heap.size, 0, none⟩) 1 1, .bool false, .slice none 0 0, .slice none 0 0, .slice none 0 0]) := tn_in (cell_of_row _ _ 0 _ _ _ h.sp) (cell_of_row _ _ 1 _ _ _ h.sp)
theorem KnB.tl {w u : World} (h : KnB w u) (k : Nat) : InT u (k + 1 + 1) tlT (.agg #[.bool false, .bool false, .bool false, .bool false, .slice none 0 0, .bool false, .slice none 0 0, .slice (some ⟨w.heap.size + 1 + 1, 0, none⟩) 1 1, .slice none 0 0]) := tl_in (cell_of_row _ _ 0 _ _ _ h.sp) (cell_of_row _ _ 1 _ _ _ h.sp) h.ar
/-- rows of one and of two leaves, as they lie -/
theorem row2_in {W : World} {B : Nat} {k1 k2 : Int} {n1 t1 n2 t2 : ByteArray} (h : W.heap[B]? = some (.cells #[.int .i64 k1, .string n1, .string t1, .slice none 0 0, .slice none 0 0, .int .i64 k2, .string n2, .string t2, .slice none 0 0, .slice none 0 0] 37 (0, 0))) (a1 : n1.size ≤ 140737488355328) (a2 : t1.size ≤ 140737488355328) (a3 : n2.size ≤ 140737488355328) (a4 : t2.size ≤ 140737488355328) : IIn W 1 (some ⟨B, 0, none⟩) [.mk k1 n1 t1 [] [], .mk k2 n2 t2 [] []] := by
  have hl := lt_row h
  have hc := fun j => cell_of_row W B j _ _ _ h
  refine ⟨fun _ => ⟨B, 0, rfl, hl, fun i hi => ?_⟩⟩
  have hi' : i < 2 := hi
  match i, hi' with
  | 0, _ => exact ⟨_, _, _, _, _, ⟨hc 0, hc 1, hc 2, hc 3, hc 4⟩, leafH W 0 k1 n1 t1 a1 a2⟩
  | 1, _ => exact ⟨_, _, _, _, _, ⟨hc 5, hc 6, hc 7, hc 8, hc 9⟩, leafH W 0 k2 n2 t2 a3 a4⟩
theorem row1_in {W : World} {B : Nat} {k1 : Int} {n1 t1 : ByteArray} (h : W.heap[B]? = some (.cells #[.int .i64 k1, .string n1, .string t1, .slice none 0 0, .slice none 0 0] 37 (0, 0))) (a1 : n1.size ≤ 140737488355328) (a2 : t1.size ≤ 140737488355328) : IIn W 1 (some ⟨B, 0, none⟩) [.mk k1 n1 t1 [] []] := by
  have hl := lt_row h
  have hc := fun j => cell_of_row W B j _ _ _ h
  refine ⟨fun _ => ⟨B, 0, rfl, hl, fun i hi => ?_⟩⟩
  have hi' : i < 1 := hi
  obtain rfl : i = 0 := by omega
  exact ⟨_, _, _, _, _, ⟨hc 0, hc 1, hc 2, hc 3, hc 4⟩, leafH W 0 k1 n1 t1 a1 a2⟩
theorem arrH {W : World} {h : Nat} {io : Option Addr} {n c : Nat} {l : List VT} (hi : IIn W h io l) (hn : l.length = n) (hc : n ≤ c) (h2 : n ≤ 140737488355328) : InH W (h + 1) (.mk 5 ⟨#[]⟩ ⟨#[]⟩ l []) (.agg #[.int .i64 5, .string ⟨#[]⟩, .string ⟨#[]⟩, .slice io n c, .slice none 0 0]) := by
  subst hn
  exact ⟨io, c, none, 0, rfl, Nat.zero_le _, Nat.zero_le _, h2, Nat.zero_le _, hc, Nat.le_refl _, fun k hk => (by cases hk), ⟨fun h0 => absurd h0 (Nat.not_lt_zero _)⟩, hi.row⟩
theorem objH {W : World} {h : Nat} {io ko : Option Addr} {n c m d : Nat} {l : List VT} {ks : List ByteArray} (hi : IIn W h io l) (hn : l.length = n) (hc : n ≤ c) (h2 : n ≤ 140737488355328) (hk : KIn W ko ks) (hm : ks.length = m) (hd : m ≤ d) (h3 : m ≤ 140737488355328) (hz : ∀ k ∈ ks, k.size ≤ 140737488355328) : InH W (h + 1) (.mk 6 ⟨#[]⟩ ⟨#[]⟩ l ks) (.agg #[.int .i64 6, .string ⟨#[]⟩, .string ⟨#[]⟩, .slice io n c, .slice ko m d]) := by
  subst hn
  subst hm
  exact ⟨io, c, ko, d, rfl, Nat.zero_le _, Nat.zero_le _, h2, h3, hc, hd, hz, hk, hi.row⟩
theorem key1_in {W : World} {B : Nat} {s : ByteArray} (h : W.heap[B]? = some (.cells #[.string s] 9 (0, 0))) : KIn W (some ⟨B, 0, none⟩) [s] := by
  have hl := lt_row h
  refine ⟨fun _ => ⟨B, 0, rfl, hl, fun i hi => ?_⟩⟩
  have hi' : i < 1 := hi
  obtain rfl : i = 0 := by omega
  exact cell_of_row _ _ 0 _ _ _ h
theorem key2_in {W : World} {B : Nat} {s t : ByteArray} (h : W.heap[B]? = some (.cells #[.string s, .string t] 9 (0, 0))) : KIn W (some ⟨B, 0, none⟩) [s, t] := by
  have hl := lt_row h
  refine ⟨fun _ => ⟨B, 0, rfl, hl, fun i hi => ?_⟩⟩
  have hi' : i < 2 := hi
  match i, hi' with
  | 0, _ => exact cell_of_row _ _ 0 _ _ _ h
  | 1, _ => exact cell_of_row _ _ 1 _ _ _ h
theorem nil_in (W : World) (h : Nat) : IIn W h none [] := ⟨fun h0 => absurd h0 (Nat.not_lt_zero _)⟩

set_option maxRecDepth 100000 in
set_option maxHeartbeats 25600000 in
theorem w_MemberKnown (w : World) (ht : Tab2 w) (hg : ErrT w) : Calls Tryz.prog 3 #[] w fun e w' => e = .returned (.bool true) ∧ Below w.heap.size w w' := by
  have HT := Hid.mk ht
  have HG := Hid.mk hg
  have hA := push_all [Obj.cells (#[.string ⟨#[49]⟩, .string ⟨#[51]⟩] : Array Value) 23 (0, 0), Obj.cells (#[.bool false, .bool false, .bool false, .bool false, .slice (some ⟨w.heap.size, 0, none⟩) 1 1, .bool false, .slice none 0 0, .slice none 0 0, .slice none 0 0] : Array Value) 29 (0, 0), Obj.cells (#[.bool false, .bool false, .bool false, .bool false, .slice (some ⟨w.heap.size, 0, none⟩) 1 1, .bool false, .slice none 0 0, .slice none 0 0, .slice none 0 0, .int .i64 1, .int .i64 2] : Array Value) 31 (0, 0), Obj.cells (#[.bool false, .bool false, .bool false, .bool false, .slice none 0 0, .bool false, .slice none 0 0, .slice (some ⟨w.heap.size + 1 + 1, 0, none⟩) 1 1, .slice none 0 0] : Array Value) 29 (0, 0)] w
  have hB := below_all [Obj.cells (#[.string ⟨#[49]⟩, .string ⟨#[51]⟩] : Array Value) 23 (0, 0), Obj.cells (#[.bool false, .bool false, .bool false, .bool false, .slice (some ⟨w.heap.size, 0, none⟩) 1 1, .bool false, .slice none 0 0, .slice none 0 0, .slice none 0 0] : Array Value) 29 (0, 0), Obj.cells (#[.bool false, .bool false, .bool false, .bool false, .slice (some ⟨w.heap.size, 0, none⟩) 1 1, .bool false, .slice none 0 0, .slice none 0 0, .slice none 0 0, .int .i64 1, .int .i64 2] : Array Value) 31 (0, 0), Obj.cells (#[.bool false, .bool false, .bool false, .bool false, .slice none 0 0, .bool false, .slice none 0 0, .slice (some ⟨w.heap.size + 1 + 1, 0, none⟩) 1 1, .slice none 0 0] : Array Value) 29 (0, 0)] w
  obtain ⟨W2, hW⟩ : ∃ W, [Obj.cells (#[.string ⟨#[49]⟩, .string ⟨#[51]⟩] : Array Value) 23 (0, 0), Obj.cells (#[.bool false, .bool false, .bool false, .bool false, .slice (some ⟨w.heap.size, 0, none⟩) 1 1, .bool false, .slice none 0 0, .slice none 0 0, .slice none 0 0] : Array Value) 29 (0, 0), Obj.cells (#[.bool false, .bool false, .bool false, .bool false, .slice (some ⟨w.heap.size, 0, none⟩) 1 1, .bool false, .slice none 0 0, .slice none 0 0, .slice none 0 0, .int .i64 1, .int .i64 2] : Array Value) 31 (0, 0), Obj.cells (#[.bool false, .bool false, .bool false, .bool false, .slice none 0 0, .bool false, .slice none 0 0, .slice (some ⟨w.heap.size + 1 + 1, 0, none⟩) 1 1, .slice none 0 0] : Array Value) 29 (0, 0)].foldl World.alloc w = W := ⟨_, rfl⟩
  rw [hW] at hB
  have hH : ∀ i, (hi : i < 4) → W2.heap[w.heap.size + i]? = [Obj.cells (#[.string ⟨#[49]⟩, .string ⟨#[51]⟩] : Array Value) 23 (0, 0), Obj.cells (#[.bool false, .bool false, .bool false, .bool false, .slice (some ⟨w.heap.size, 0, none⟩) 1 1, .bool false, .slice none 0 0, .slice none 0 0, .slice none 0 0] : Array Value) 29 (0, 0), Obj.cells (#[.bool false, .bool false, .bool false, .bool false, .slice (some ⟨w.heap.size, 0, none⟩) 1 1, .bool false, .slice none 0 0, .slice none 0 0, .slice none 0 0, .int .i64 1, .int .i64 2] : Array Value) 31 (0, 0), Obj.cells (#[.bool false, .bool false, .bool false, .bool false, .slice none 0 0, .bool false, .slice none 0 0, .slice (some ⟨w.heap.size + 1 + 1, 0, none⟩) 1 1, .slice none 0 0] : Array Value) 29 (0, 0)][i]? := fun i hi => by rw [← hW]; exact hA i hi
  have HK : Hid (KnB w W2) := ⟨hB, hH 0 (by decide), hH 1 (by decide), hH 2 (by decide), hH 3 (by decide)⟩
  have hW2 : ((((w.alloc (.cells #[.string ⟨#[49]⟩, .string ⟨#[51]⟩] 23)).alloc (.cells #[.bool false, .bool false, .bool false, .bool false, .slice (some ⟨w.heap.size, 0, none⟩) 1 1, .bool false, .slice none 0 0, .slice none 0 0, .slice none 0 0] 29)).alloc (.cells #[.bool false, .bool false, .bool false, .bool false, .slice (some ⟨w.heap.size, 0, none⟩) 1 1, .bool false, .slice none 0 0, .slice none 0 0, .slice none 0 0, .int .i64 1, .int .i64 2] 31)).alloc (.cells #[.bool false, .bool false, .bool false, .bool false, .slice none 0 0, .bool false, .slice none 0 0, .slice (some ⟨w.heap.size + 1 + 1, 0, none⟩) 1 1, .slice none 0 0] 29)) = W2 := hW
  have HW2 := Hid.mk hW2
  have HWh := Hid.mk (fun s u => w_whole s u)
  have HWo := Hid.mk (fun s u => w_word s u)
  have HIn1 := Hid.mk (fun (B : Nat) (u : World) (hu : KnB w u) (hi : IIn u 1 (some ⟨B, 0, none⟩) [nmV ⟨#[49]⟩, nmV ⟨#[51]⟩]) => w_mIn 2 2 (.mk 5 ⟨#[]⟩ ⟨#[]⟩ [nmV ⟨#[49]⟩, nmV ⟨#[51]⟩] []) tlT _ _ u (arrH (n := 2) (c := 2) hi rfl (Nat.le_refl _) (by decide)) (hu.tl 0) (ht.keep hu.below))
  rw [kn_in1] at HIn1
  have HIn2 := Hid.mk (fun (u : World) (hu : KnB w u) => w_mIn 1 2 (.mk 5 ⟨#[]⟩ ⟨#[]⟩ [] []) tlT _ _ u (leafH u 0 5 ⟨#[]⟩ ⟨#[]⟩ (by decide) (by decide)) (hu.tl 0) (ht.keep hu.below))
  rw [kn_in2] at HIn2
  have hln : ∀ (h : Nat), h ≤ 2 → ∀ V T q, agN h V T = some q → q.1.length ≤ 1048576 := fun h hh V T q e => by have := ag_len h V T q e; omega
  have HY1 := Hid.mk (fun (u : World) (hu : KnB w u) => w_why 1 1 (nmV ⟨#[52]⟩) tnT [] none 0 0 2 _ _ u (leafH u 0 3 ⟨#[52]⟩ ⟨#[]⟩ (by decide) (by decide)) (hu.tn 0) (ht.keep hu.below) (hg.keep hu.below) (hln 1 (by decide) _ _) (nil_in u 1) rfl (Nat.le_refl _) (by decide) kn_y1)
  have HY2 := Hid.mk (fun (u : World) (hu : KnB w u) => w_why 1 1 (txV ⟨#[97]⟩) tnT [] none 0 0 1 _ _ u (leafH u 0 4 ⟨#[]⟩ ⟨#[97]⟩ (by decide) (by decide)) (hu.tn 0) (ht.keep hu.below) (hg.keep hu.below) (hln 1 (by decide) _ _) (nil_in u 1) rfl (Nat.le_refl _) (by decide) kn_y2)
  have HY3 := Hid.mk (fun (u : World) (hu : KnB w u) => w_why 1 2 (.mk 5 ⟨#[]⟩ ⟨#[]⟩ [] []) tlT [] none 0 0 4 _ _ u (leafH u 0 5 ⟨#[]⟩ ⟨#[]⟩ (by decide) (by decide)) (hu.tl 0) (ht.keep hu.below) (hg.keep hu.below) (hln 2 (by decide) _ _) (nil_in u 1) rfl (Nat.le_refl _) (by decide) kn_y3)
  have HY4 := Hid.mk (fun (u : World) (hu : KnB w u) => w_why 1 1 (.mk 0 ⟨#[]⟩ ⟨#[]⟩ [] []) (.mk true false false false false [] [] [] []) [] none 0 0 0 _ _ u (leafH u 0 0 ⟨#[]⟩ ⟨#[]⟩ (by decide) (by decide)) (bare_in u 0 true false) (ht.keep hu.below) (hg.keep hu.below) (hln 1 (by decide) _ _) (nil_in u 1) rfl (Nat.le_refl _) (by decide) kn_y4)
  have HY5 := Hid.mk (fun (u : World) (hu : KnB w u) => w_why 1 1 (.mk 0 ⟨#[]⟩ ⟨#[]⟩ [] []) (.mk false false false false false [] [] [] []) [] none 0 0 1 _ _ u (leafH u 0 0 ⟨#[]⟩ ⟨#[]⟩ (by decide) (by decide)) (bare_in u 0 false false) (ht.keep hu.below) (hg.keep hu.below) (hln 1 (by decide) _ _) (nil_in u 1) rfl (Nat.le_refl _) (by decide) kn_y5)
  have HY6 := Hid.mk (fun (B C : Nat) (u : World) (hu : KnB w u) (hi : IIn u 1 (some ⟨B, 0, none⟩) [nmV ⟨#[49]⟩, nmV ⟨#[57]⟩]) (hp : IIn u 1 (some ⟨C, 0, none⟩) [nmV ⟨#[49]⟩]) => w_why 2 2 (.mk 5 ⟨#[]⟩ ⟨#[]⟩ [nmV ⟨#[49]⟩, nmV ⟨#[57]⟩] []) tlT [nmV ⟨#[49]⟩] (some ⟨C, 0, none⟩) 1 1 2 _ _ u (arrH (n := 2) (c := 2) hi rfl (Nat.le_refl _) (by decide)) (hu.tl 0) (ht.keep hu.below) (hg.keep hu.below) (hln 2 (by decide) _ _) hp rfl (Nat.le_refl _) (by decide) kn_y6)
  have HY7 := Hid.mk (fun (A B C : Nat) (vt : Value) (u : World) (hu : KnB w u) (hk : KIn u (some ⟨A, 0, none⟩) [⟨#[110]⟩]) (hi : IIn u 1 (some ⟨B, 0, none⟩) [nmV ⟨#[55]⟩]) (hT : InT u 2 tfT vt) (hp : IIn u 1 (some ⟨C, 0, none⟩) [txV ⟨#[107]⟩]) => w_why 2 2 (.mk 6 ⟨#[]⟩ ⟨#[]⟩ [nmV ⟨#[55]⟩] [⟨#[110]⟩]) tfT [txV ⟨#[107]⟩] (some ⟨C, 0, none⟩) 1 1 6 _ vt u (objH (n := 1) (c := 1) (m := 1) (d := 1) hi rfl (Nat.le_refl _) (by decide) hk rfl (Nat.le_refl _) (by decide) (fun k h => by rw [List.mem_singleton] at h; subst h; decide)) hT (ht.keep hu.below) (hg.keep hu.below) (hln 2 (by decide) _ _) hp rfl (Nat.le_refl _) (by decide) kn_y7)
  have HY8 := Hid.mk (fun (A B C : Nat) (vt : Value) (u : World) (hu : KnB w u) (hk : KIn u (some ⟨A, 0, none⟩) [⟨#[107]⟩, ⟨#[110]⟩]) (hi : IIn u 1 (some ⟨B, 0, none⟩) [txV ⟨#[97]⟩, nmV ⟨#[55]⟩]) (hT : InT u 2 tfT vt) (hp : IIn u 1 (some ⟨C, 0, none⟩) [txV ⟨#[110]⟩]) => w_why 2 2 (.mk 6 ⟨#[]⟩ ⟨#[]⟩ [txV ⟨#[97]⟩, nmV ⟨#[55]⟩] [⟨#[107]⟩, ⟨#[110]⟩]) tfT [txV ⟨#[110]⟩] (some ⟨C, 0, none⟩) 1 1 2 _ vt u (objH (n := 2) (c := 2) (m := 2) (d := 2) hi rfl (Nat.le_refl _) (by decide) hk rfl (Nat.le_refl _) (by decide) (fun k h => by rcases List.mem_cons.1 h with rfl | h; decide; rw [List.mem_singleton] at h; subst h; decide)) hT (ht.keep hu.below) (hg.keep hu.below) (hln 2 (by decide) _ _) hp rfl (Nat.le_refl _) (by decide) kn_y8)
  have HY9 := Hid.mk (fun (u : World) (hu : KnB w u) => w_mWhy 1 1 (.mk 8 ⟨#[]⟩ ⟨#[]⟩ [] []) tnT _ _ u (leafH u 0 8 ⟨#[]⟩ ⟨#[]⟩ (by decide) (by decide)) (hu.tn 0) (ht.keep hu.below) (hg.keep hu.below) (hln 1 (by decide) _ _))
  rw [kn_y9] at HY9
  simp only [VT.kind, VT.num, VT.text, VT.items, VT.keys, nmV, txV, List.length_nil, List.length_cons] at HIn1 HIn2 HY1 HY2 HY3 HY4 HY5 HY6 HY7 HY8 HY9
  have HWF := Hid.mk (fun u => w_fields u)
  clear ht hg hA hB hW hH hW2 hln
  have HSS : Hid (∀ u, Below W2.heap.size W2 u → u.cell? ⟨w.heap.size + 1 + 1 + 1, 0, none⟩ = some (.bool false) ∧ u.cell? ⟨w.heap.size + 1 + 1 + 1, 1, none⟩ = some (.bool false) ∧ u.cell? ⟨w.heap.size + 1 + 1 + 1, 2, none⟩ = some (.bool false) ∧ u.cell? ⟨w.heap.size + 1 + 1 + 1, 3, none⟩ = some (.bool false) ∧ u.cell? ⟨w.heap.size + 1 + 1 + 1, 4, none⟩ = some (.slice none 0 0) ∧ u.cell? ⟨w.heap.size + 1 + 1 + 1, 5, none⟩ = some (.bool false) ∧ u.cell? ⟨w.heap.size + 1 + 1 + 1, 6, none⟩ = some (.slice none 0 0) ∧ u.cell? ⟨w.heap.size + 1 + 1 + 1, 7, none⟩ = some (.slice (some ⟨w.heap.size + 1 + 1, 0, none⟩) 1 1) ∧ u.cell? ⟨w.heap.size + 1 + 1 + 1, 8, none⟩ = some (.slice none 0 0)) := fun u hu => ⟨cell_of_row _ _ 0 _ _ _ (HK.out.keep hu).bl, cell_of_row _ _ 1 _ _ _ (HK.out.keep hu).bl, cell_of_row _ _ 2 _ _ _ (HK.out.keep hu).bl, cell_of_row _ _ 3 _ _ _ (HK.out.keep hu).bl, cell_of_row _ _ 4 _ _ _ (HK.out.keep hu).bl, cell_of_row _ _ 5 _ _ _ (HK.out.keep hu).bl, cell_of_row _ _ 6 _ _ _ (HK.out.keep hu).bl, cell_of_row _ _ 7 _ _ _ (HK.out.keep hu).bl, cell_of_row _ _ 8 _ _ _ (HK.out.keep hu).bl⟩
  have HD := Hid.mk ((Below.refl W2.heap.size W2).drew)
  go_enter Tryz.func3, Tryz.ntmps3
  go_wp2_with fail
  rw [HW2.out]
  clear HW2
  refine wp_region_held_drew (S := fun u => u.cell? ⟨w.heap.size + 1 + 1 + 1, 0, none⟩ = some (.bool false) ∧ u.cell? ⟨w.heap.size + 1 + 1 + 1, 1, none⟩ = some (.bool false) ∧ u.cell? ⟨w.heap.size + 1 + 1 + 1, 2, none⟩ = some (.bool false) ∧ u.cell? ⟨w.heap.size + 1 + 1 + 1, 3, none⟩ = some (.bool false) ∧ u.cell? ⟨w.heap.size + 1 + 1 + 1, 4, none⟩ = some (.slice none 0 0) ∧ u.cell? ⟨w.heap.size + 1 + 1 + 1, 5, none⟩ = some (.bool false) ∧ u.cell? ⟨w.heap.size + 1 + 1 + 1, 6, none⟩ = some (.slice none 0 0) ∧ u.cell? ⟨w.heap.size + 1 + 1 + 1, 7, none⟩ = some (.slice (some ⟨w.heap.size + 1 + 1, 0, none⟩) 1 1) ∧ u.cell? ⟨w.heap.size + 1 + 1 + 1, 8, none⟩ = some (.slice none 0 0)) (by kernel_rfl) (HSS.out _ HD.out) (fun hHeld => ?_)
  refine wpAnyH_take (i := 4) (oi := _) (v := .agg #[.bool false, .bool false, .bool false, .bool false, .slice none 0 0, .bool false, .slice none 0 0, .slice (some ⟨w.heap.size + 1 + 1, 0, none⟩) 1 1, .slice none 0 0]) rfl (by kernel_rfl) (by kernel_rfl) (by kernel_rfl) (fun _ _ _ h => h) (Or.inl ⟨by rfl, ?_⟩) (by assumption) ?_
  · intro w hSw
    go_simp
  try simp only [Act.put, List.getElem_toArray, List.getElem_cons_succ, List.getElem_cons_zero, List.setIfInBounds_toArray, List.set_cons_zero, List.set_cons_succ]
  refine wpAnyH_ready (rs := [0]) (by kernel_rfl) (by simp) ?_
  refine AllReadyH.cons (o := _) rfl (fun K hK => ?_) AllReadyH.nil
  go_simp
  go_at_call 8
  refine (HWh.out _ _).mono ?_
  rintro e w4 ⟨rfl, hq⟩
  have HB4 := Hid.mk (HD.out.trans (hq.mono HD.out.size))
  clear hq
  go_wp2_with fail
  refine hK.out _ _ (HSS.out _ HB4.out) (fun hHeld => ?_)
  clear hK K
  try simp only [Act.put, List.getElem_toArray, List.getElem_cons_succ, List.getElem_cons_zero, List.setIfInBounds_toArray, List.set_cons_zero, List.set_cons_succ]
  refine wpAnyH_ready (rs := [1]) (by kernel_rfl) (by simp) ?_
  refine AllReadyH.cons (o := _) rfl (fun K hK => ?_) AllReadyH.nil
  go_simp
  go_at_call 8
  refine (HWh.out _ _).mono ?_
  rintro e w5 ⟨rfl, hq⟩
  have HB5 := Hid.mk (HB4.out.trans (hq.mono HB4.out.size))
  clear hq
  go_wp2_with fail
  refine hK.out _ _ (HSS.out _ HB5.out) (fun hHeld => ?_)
  clear hK K
  try simp only [Act.put, List.getElem_toArray, List.getElem_cons_succ, List.getElem_cons_zero, List.setIfInBounds_toArray, List.set_cons_zero, List.set_cons_succ]
  refine wpAnyH_ready (rs := [2]) (by kernel_rfl) (by simp) ?_
  refine AllReadyH.cons (o := _) rfl (fun K hK => ?_) AllReadyH.nil
  go_simp
  obtain ⟨W6, hW6⟩ : ∃ W6, w5.alloc (.cells #[.int .i64 3, .string ⟨#[49]⟩, .string ⟨#[]⟩, .slice none 0 0, .slice none 0 0, .int .i64 3, .string ⟨#[51]⟩, .string ⟨#[]⟩, .slice none 0 0, .slice none 0 0] 37) = W6 := ⟨_, rfl⟩
  have h6 : Below w5.heap.size w5 W6 := by rw [← hW6]; exact below1 w5 _
  have HB6 := Hid.mk (HB5.out.trans (h6.mono HB5.out.size))
  have HR6 := Hid.mk (row2_in (W := W6) (B := w5.heap.size) (k1 := 3) (k2 := 3) (n1 := ⟨#[49]⟩) (t1 := ⟨#[]⟩) (n2 := ⟨#[51]⟩) (t2 := ⟨#[]⟩) (by rw [← hW6]; exact World.alloc_heap_new w5 _) (by decide) (by decide) (by decide) (by decide))
  try rw [hW6]
  clear hW6 h6
  refine hK.out _ _ (HSS.out _ HB6.out) (fun hHeld => ?_)
  clear hK K
  try simp only [Act.put, List.getElem_toArray, List.getElem_cons_succ, List.getElem_cons_zero, List.setIfInBounds_toArray, List.set_cons_zero, List.set_cons_succ]
  refine wpAnyH_take (i := 3) (oi := _) (v := .agg #[.int .i64 5, .string ⟨#[]⟩, .string ⟨#[]⟩, .slice (some ⟨w5.heap.size, 0, none⟩) 2 2, .slice none 0 0]) rfl (by kernel_rfl) (by kernel_rfl) (by kernel_rfl) (fun _ _ _ h => h) (Or.inl ⟨by rfl, ?_⟩) (by assumption) ?_
  · intro w hSw
    go_simp
  try simp only [Act.put, List.getElem_toArray, List.getElem_cons_succ, List.getElem_cons_zero, List.setIfInBounds_toArray, List.set_cons_zero, List.set_cons_succ]
  refine wpAnyH_ready (rs := [5]) (by kernel_rfl) (by simp) ?_
  refine AllReadyH.cons (o := _) rfl (fun K hK => ?_) AllReadyH.nil
  go_simp
  go_at_call 7
  refine (HIn1.out w5.heap.size W6 (HK.out.keep HB6.out) HR6.out).mono ?_
  rintro e w7 ⟨rfl, hq⟩
  have HB7 := Hid.mk (HB6.out.trans (hq.mono HB6.out.size))
  clear hq
  go_wp2_with fail
  refine hK.out _ _ (HSS.out _ HB7.out) (fun hHeld => ?_)
  clear hK K
  try simp only [Act.put, List.getElem_toArray, List.getElem_cons_succ, List.getElem_cons_zero, List.setIfInBounds_toArray, List.set_cons_zero, List.set_cons_succ]
  refine wpAnyH_take (i := 6) (oi := _) (v := .tuple #[.bool true, .int .i64 0]) rfl (by kernel_rfl) (by kernel_rfl) (by kernel_rfl) (fun _ _ _ h => h) (Or.inl ⟨by rfl, ?_⟩) (by assumption) ?_
  · intro w hSw
    go_simp
  try simp only [Act.put, List.getElem_toArray, List.getElem_cons_succ, List.getElem_cons_zero, List.setIfInBounds_toArray, List.set_cons_zero, List.set_cons_succ]
  refine wpAnyH_take (i := 7) (oi := _) (v := .bool true) rfl (by kernel_rfl) (by kernel_rfl) (by kernel_rfl) (fun _ _ _ h => h) (Or.inl ⟨by rfl, ?_⟩) (by assumption) ?_
  · intro w hSw
    go_simp
  try simp only [Act.put, List.getElem_toArray, List.getElem_cons_succ, List.getElem_cons_zero, List.setIfInBounds_toArray, List.set_cons_zero, List.set_cons_succ]
  refine wpAnyH_take (i := 8) (oi := _) (v := .int .i64 0) rfl (by kernel_rfl) (by kernel_rfl) (by kernel_rfl) (fun _ _ _ h => h) (Or.inl ⟨by rfl, ?_⟩) (by assumption) ?_
  · intro w hSw
    go_simp
  try simp only [Act.put, List.getElem_toArray, List.getElem_cons_succ, List.getElem_cons_zero, List.setIfInBounds_toArray, List.set_cons_zero, List.set_cons_succ]
  refine wpAnyH_ready (rs := [9]) (by kernel_rfl) (by simp) ?_
  refine AllReadyH.cons (o := _) rfl (fun K hK => ?_) AllReadyH.nil
  go_simp
  refine hK.out _ _ (HSS.out _ HB7.out) (fun hHeld => ?_)
  clear hK K
  try simp only [Act.put, List.getElem_toArray, List.getElem_cons_succ, List.getElem_cons_zero, List.setIfInBounds_toArray, List.set_cons_zero, List.set_cons_succ]
  refine wpAnyH_ready (rs := [10]) (by kernel_rfl) (by simp) ?_
  refine AllReadyH.cons (o := _) rfl (fun K hK => ?_) AllReadyH.nil
  go_simp
  refine hK.out _ _ (HSS.out _ HB7.out) (fun hHeld => ?_)
  clear hK K
  try simp only [Act.put, List.getElem_toArray, List.getElem_cons_succ, List.getElem_cons_zero, List.setIfInBounds_toArray, List.set_cons_zero, List.set_cons_succ]
  refine wpAnyH_done (by kernel_rfl) ?_ _
  try simp only [Act.put, List.getElem_toArray, List.getElem_cons_succ, List.getElem_cons_zero, List.setIfInBounds_toArray, List.set_cons_zero, List.set_cons_succ]
  have HK7 := Hid.mk (HK.out.keep HB7.out)
  clear hHeld HSS HD HB4 HB5 HB6 HR6 HIn1
  have z0 : w7.cell? ⟨w.heap.size + 1 + 1 + 1, 0, none⟩ = some (.bool false) := cell_of_row _ _ 0 _ _ _ HK7.out.bl
  have z1 : w7.cell? ⟨w.heap.size + 1 + 1 + 1, 1, none⟩ = some (.bool false) := cell_of_row _ _ 1 _ _ _ HK7.out.bl
  have z2 : w7.cell? ⟨w.heap.size + 1 + 1 + 1, 2, none⟩ = some (.bool false) := cell_of_row _ _ 2 _ _ _ HK7.out.bl
  have z3 : w7.cell? ⟨w.heap.size + 1 + 1 + 1, 3, none⟩ = some (.bool false) := cell_of_row _ _ 3 _ _ _ HK7.out.bl
  have z4 : w7.cell? ⟨w.heap.size + 1 + 1 + 1, 4, none⟩ = some (.slice none 0 0) := cell_of_row _ _ 4 _ _ _ HK7.out.bl
  have z5 : w7.cell? ⟨w.heap.size + 1 + 1 + 1, 5, none⟩ = some (.bool false) := cell_of_row _ _ 5 _ _ _ HK7.out.bl
  have z6 : w7.cell? ⟨w.heap.size + 1 + 1 + 1, 6, none⟩ = some (.slice none 0 0) := cell_of_row _ _ 6 _ _ _ HK7.out.bl
  have z7 : w7.cell? ⟨w.heap.size + 1 + 1 + 1, 7, none⟩ = some (.slice (some ⟨w.heap.size + 1 + 1, 0, none⟩) 1 1) := cell_of_row _ _ 7 _ _ _ HK7.out.bl
  have z8 : w7.cell? ⟨w.heap.size + 1 + 1 + 1, 8, none⟩ = some (.slice none 0 0) := cell_of_row _ _ 8 _ _ _ HK7.out.bl
  go_wp2_with fail
  refine (HIn2.out _ HK7.out).mono ?_
  rintro e w8 ⟨rfl, hq⟩
  have HK8 := Hid.mk (HK7.out.keep hq)
  clear hq HIn2 z0 z1 z2 z3 z4 z5 z6 z7 z8
  go_wp2_with fail
  have z0 : w8.cell? ⟨w.heap.size + 1 + 1 + 1, 0, none⟩ = some (.bool false) := cell_of_row _ _ 0 _ _ _ HK8.out.bl
  have Az0 := fun d os => cell_regrown z0 d os
  have z1 : w8.cell? ⟨w.heap.size + 1 + 1 + 1, 1, none⟩ = some (.bool false) := cell_of_row _ _ 1 _ _ _ HK8.out.bl
  have Az1 := fun d os => cell_regrown z1 d os
  have z2 : w8.cell? ⟨w.heap.size + 1 + 1 + 1, 2, none⟩ = some (.bool false) := cell_of_row _ _ 2 _ _ _ HK8.out.bl
  have Az2 := fun d os => cell_regrown z2 d os
  have z3 : w8.cell? ⟨w.heap.size + 1 + 1 + 1, 3, none⟩ = some (.bool false) := cell_of_row _ _ 3 _ _ _ HK8.out.bl
  have Az3 := fun d os => cell_regrown z3 d os
  have z4 : w8.cell? ⟨w.heap.size + 1 + 1 + 1, 4, none⟩ = some (.slice none 0 0) := cell_of_row _ _ 4 _ _ _ HK8.out.bl
  have Az4 := fun d os => cell_regrown z4 d os
  have z5 : w8.cell? ⟨w.heap.size + 1 + 1 + 1, 5, none⟩ = some (.bool false) := cell_of_row _ _ 5 _ _ _ HK8.out.bl
  have Az5 := fun d os => cell_regrown z5 d os
  have z6 : w8.cell? ⟨w.heap.size + 1 + 1 + 1, 6, none⟩ = some (.slice none 0 0) := cell_of_row _ _ 6 _ _ _ HK8.out.bl
  have Az6 := fun d os => cell_regrown z6 d os
  have z7 : w8.cell? ⟨w.heap.size + 1 + 1 + 1, 7, none⟩ = some (.slice (some ⟨w.heap.size + 1 + 1, 0, none⟩) 1 1) := cell_of_row _ _ 7 _ _ _ HK8.out.bl
  have Az7 := fun d os => cell_regrown z7 d os
  have z8 : w8.cell? ⟨w.heap.size + 1 + 1 + 1, 8, none⟩ = some (.slice none 0 0) := cell_of_row _ _ 8 _ _ _ HK8.out.bl
  have Az8 := fun d os => cell_regrown z8 d os
  have y0 : w8.cell? ⟨w.heap.size + 1, 0, none⟩ = some (.bool false) := cell_of_row _ _ 0 _ _ _ HK8.out.bn
  have Ay0 := fun d os => cell_regrown y0 d os
  have y1 : w8.cell? ⟨w.heap.size + 1, 1, none⟩ = some (.bool false) := cell_of_row _ _ 1 _ _ _ HK8.out.bn
  have Ay1 := fun d os => cell_regrown y1 d os
  have y2 : w8.cell? ⟨w.heap.size + 1, 2, none⟩ = some (.bool false) := cell_of_row _ _ 2 _ _ _ HK8.out.bn
  have Ay2 := fun d os => cell_regrown y2 d os
  have y3 : w8.cell? ⟨w.heap.size + 1, 3, none⟩ = some (.bool false) := cell_of_row _ _ 3 _ _ _ HK8.out.bn
  have Ay3 := fun d os => cell_regrown y3 d os
  have y4 : w8.cell? ⟨w.heap.size + 1, 4, none⟩ = some (.slice (some ⟨w.heap.size, 0, none⟩) 1 1) := cell_of_row _ _ 4 _ _ _ HK8.out.bn
  have Ay4 := fun d os => cell_regrown y4 d os
  have y5 : w8.cell? ⟨w.heap.size + 1, 5, none⟩ = some (.bool false) := cell_of_row _ _ 5 _ _ _ HK8.out.bn
  have Ay5 := fun d os => cell_regrown y5 d os
  have y6 : w8.cell? ⟨w.heap.size + 1, 6, none⟩ = some (.slice none 0 0) := cell_of_row _ _ 6 _ _ _ HK8.out.bn
  have Ay6 := fun d os => cell_regrown y6 d os
  have y7 : w8.cell? ⟨w.heap.size + 1, 7, none⟩ = some (.slice none 0 0) := cell_of_row _ _ 7 _ _ _ HK8.out.bn
  have Ay7 := fun d os => cell_regrown y7 d os
  have y8 : w8.cell? ⟨w.heap.size + 1, 8, none⟩ = some (.slice none 0 0) := cell_of_row _ _ 8 _ _ _ HK8.out.bn
  have Ay8 := fun d os => cell_regrown y8 d os
  have HQ1 := Hid.mk (fun (d : Nat) (os : Array Obj) => HY1.out (grow (redrawn w8 d) os) (HK8.out.keep (below_regrown w8 d os)))
  have HQ2 := Hid.mk (fun (d : Nat) (os : Array Obj) => HY2.out (grow (redrawn w8 d) os) (HK8.out.keep (below_regrown w8 d os)))
  have HQ3 := Hid.mk (fun (d : Nat) (os : Array Obj) => HY3.out (grow (redrawn w8 d) os) (HK8.out.keep (below_regrown w8 d os)))
  have HQ4 := Hid.mk (fun (d : Nat) (os : Array Obj) => HY4.out (grow (redrawn w8 d) os) (HK8.out.keep (below_regrown w8 d os)))
  have HQ5 := Hid.mk (fun (d : Nat) (os : Array Obj) => HY5.out (grow (redrawn w8 d) os) (HK8.out.keep (below_regrown w8 d os)))
  have HQh := Hid.mk (fun (d : Nat) (os : Array Obj) => HWh.out ⟨#[52]⟩ (grow (redrawn w8 d) os))
  have HQo := Hid.mk (fun (d : Nat) (os : Array Obj) => HWo.out ⟨#[97]⟩ (grow (redrawn w8 d) os))
  refine wp_region_quiet_below (by kernel_rfl) (by kernel_rfl) ?_
  go_big_quiet_step (exact Calls.regrown_of (HQh.out _ _))
  iterate 1 (go_big_quiet_step (fail))
  go_big_quiet_step (exact Calls.regrown_of (HQ1.out _ _))
  iterate 2 (go_big_quiet_step (fail))
  go_big_quiet_step (exact Calls.regrown_of (HQo.out _ _))
  iterate 1 (go_big_quiet_step (fail))
  go_big_quiet_step (exact Calls.regrown_of (HQ2.out _ _))
  iterate 3 (go_big_quiet_step (fail))
  iterate 2 (go_big_quiet_step (fail))
  go_big_quiet_step (exact Calls.regrown_of (HQ3.out _ _))
  iterate 3 (go_big_quiet_step (fail))
  iterate 2 (go_big_quiet_step (fail))
  go_big_quiet_step (exact Calls.regrown_of (HQ4.out _ _))
  iterate 3 (go_big_quiet_step (fail))
  iterate 2 (go_big_quiet_step (fail))
  go_big_quiet_step (exact Calls.regrown_of (HQ5.out _ _))
  iterate 2 (go_big_quiet_step (fail))
  refine wpQuiet_nil ?_
  intro w9 hw'
  have hb9 : Below w8.heap.size w8 w9 := by
    obtain ⟨⟨dq, osq⟩, rfl⟩ := hw'
    exact below_regrown w8 dq osq
  have HK9 := Hid.mk (HK8.out.keep hb9)
  clear hw' hb9 HY1 HY2 HY3 HY4 HY5 HQ1 HQ2 HQ3 HQ4 HQ5 HQh HQo z0 Az0 y0 Ay0 z1 Az1 y1 Ay1 z2 Az2 y2 Ay2 z3 Az3 y3 Ay3 z4 Az4 y4 Ay4 z5 Az5 y5 Ay5 z6 Az6 y6 Ay6 z7 Az7 y7 Ay7 z8 Az8 y8 Ay8
  have HSS : Hid (∀ u, Below w9.heap.size w9 u → u.cell? ⟨w.heap.size + 1 + 1 + 1, 0, none⟩ = some (.bool false) ∧ u.cell? ⟨w.heap.size + 1 + 1 + 1, 1, none⟩ = some (.bool false) ∧ u.cell? ⟨w.heap.size + 1 + 1 + 1, 2, none⟩ = some (.bool false) ∧ u.cell? ⟨w.heap.size + 1 + 1 + 1, 3, none⟩ = some (.bool false) ∧ u.cell? ⟨w.heap.size + 1 + 1 + 1, 4, none⟩ = some (.slice none 0 0) ∧ u.cell? ⟨w.heap.size + 1 + 1 + 1, 5, none⟩ = some (.bool false) ∧ u.cell? ⟨w.heap.size + 1 + 1 + 1, 6, none⟩ = some (.slice none 0 0) ∧ u.cell? ⟨w.heap.size + 1 + 1 + 1, 7, none⟩ = some (.slice (some ⟨w.heap.size + 1 + 1, 0, none⟩) 1 1) ∧ u.cell? ⟨w.heap.size + 1 + 1 + 1, 8, none⟩ = some (.slice none 0 0)) := fun u hu => ⟨cell_of_row _ _ 0 _ _ _ (HK9.out.keep hu).bl, cell_of_row _ _ 1 _ _ _ (HK9.out.keep hu).bl, cell_of_row _ _ 2 _ _ _ (HK9.out.keep hu).bl, cell_of_row _ _ 3 _ _ _ (HK9.out.keep hu).bl, cell_of_row _ _ 4 _ _ _ (HK9.out.keep hu).bl, cell_of_row _ _ 5 _ _ _ (HK9.out.keep hu).bl, cell_of_row _ _ 6 _ _ _ (HK9.out.keep hu).bl, cell_of_row _ _ 7 _ _ _ (HK9.out.keep hu).bl, cell_of_row _ _ 8 _ _ _ (HK9.out.keep hu).bl⟩
  have HD := Hid.mk ((Below.refl w9.heap.size w9).drew)
  go_wp2_with fail
  have KEY : ∀ (B C : Nat) (W8 : World), Hid (KnB w W8) → (?PP : Nat → Nat → World → Prop) B C W8 := ?key
  refine wp_region_held_drew (S := fun u => u.cell? ⟨w.heap.size + 1 + 1 + 1, 0, none⟩ = some (.bool false) ∧ u.cell? ⟨w.heap.size + 1 + 1 + 1, 1, none⟩ = some (.bool false) ∧ u.cell? ⟨w.heap.size + 1 + 1 + 1, 2, none⟩ = some (.bool false) ∧ u.cell? ⟨w.heap.size + 1 + 1 + 1, 3, none⟩ = some (.bool false) ∧ u.cell? ⟨w.heap.size + 1 + 1 + 1, 4, none⟩ = some (.slice none 0 0) ∧ u.cell? ⟨w.heap.size + 1 + 1 + 1, 5, none⟩ = some (.bool false) ∧ u.cell? ⟨w.heap.size + 1 + 1 + 1, 6, none⟩ = some (.slice none 0 0) ∧ u.cell? ⟨w.heap.size + 1 + 1 + 1, 7, none⟩ = some (.slice (some ⟨w.heap.size + 1 + 1, 0, none⟩) 1 1) ∧ u.cell? ⟨w.heap.size + 1 + 1 + 1, 8, none⟩ = some (.slice none 0 0)) (by kernel_rfl) (HSS.out _ HD.out) (fun hHeld => ?_)
  refine wpAnyH_take (i := 4) (oi := _) (v := .agg #[.bool false, .bool false, .bool false, .bool false, .slice none 0 0, .bool false, .slice none 0 0, .slice (some ⟨w.heap.size + 1 + 1, 0, none⟩) 1 1, .slice none 0 0]) rfl (by kernel_rfl) (by kernel_rfl) (by kernel_rfl) (fun _ _ _ h => h) (Or.inl ⟨by rfl, ?_⟩) (by assumption) ?_
  · intro w hSw
    go_simp
  try simp only [Act.put, List.getElem_toArray, List.getElem_cons_succ, List.getElem_cons_zero, List.setIfInBounds_toArray, List.set_cons_zero, List.set_cons_succ]
  refine wpAnyH_ready (rs := [0]) (by kernel_rfl) (by simp) ?_
  refine AllReadyH.cons (o := _) rfl (fun K hK => ?_) AllReadyH.nil
  go_simp
  go_at_call 8
  refine (HWh.out _ _).mono ?_
  rintro e w4 ⟨rfl, hq⟩
  have HB4 := Hid.mk (HD.out.trans (hq.mono HD.out.size))
  clear hq
  go_wp2_with fail
  refine hK.out _ _ (HSS.out _ HB4.out) (fun hHeld => ?_)
  clear hK K
  try simp only [Act.put, List.getElem_toArray, List.getElem_cons_succ, List.getElem_cons_zero, List.setIfInBounds_toArray, List.set_cons_zero, List.set_cons_succ]
  refine wpAnyH_ready (rs := [1]) (by kernel_rfl) (by simp) ?_
  refine AllReadyH.cons (o := _) rfl (fun K hK => ?_) AllReadyH.nil
  go_simp
  go_at_call 8
  refine (HWh.out _ _).mono ?_
  rintro e w5 ⟨rfl, hq⟩
  have HB5 := Hid.mk (HB4.out.trans (hq.mono HB4.out.size))
  clear hq
  go_wp2_with fail
  refine hK.out _ _ (HSS.out _ HB5.out) (fun hHeld => ?_)
  clear hK K
  try simp only [Act.put, List.getElem_toArray, List.getElem_cons_succ, List.getElem_cons_zero, List.setIfInBounds_toArray, List.set_cons_zero, List.set_cons_succ]
  refine wpAnyH_ready (rs := [2, 5]) (by kernel_rfl) (by simp) ?_
  refine AllReadyH.cons (o := _) rfl (fun K hK => ?_) ?_
  · skip
    go_simp
    obtain ⟨W6, hW6⟩ : ∃ W, w5.alloc (.cells #[.int .i64 3, .string ⟨#[49]⟩, .string ⟨#[]⟩, .slice none 0 0, .slice none 0 0, .int .i64 3, .string ⟨#[57]⟩, .string ⟨#[]⟩, .slice none 0 0, .slice none 0 0] 37) = W := ⟨_, rfl⟩
    have hbW6 : Below w5.heap.size w5 W6 := by rw [← hW6]; exact below1 w5 _
    have HB6 := Hid.mk (HB5.out.trans (hbW6.mono HB5.out.size))
    have HR2 := Hid.mk (row2_in (W := W6) (B := w5.heap.size) (k1 := 3) (k2 := 3) (n1 := ⟨#[49]⟩) (t1 := ⟨#[]⟩) (n2 := ⟨#[57]⟩) (t2 := ⟨#[]⟩) (by rw [← hW6]; exact World.alloc_heap_new w5 _) (by decide) (by decide) (by decide) (by decide))
    try rw [hW6]
    generalize w5.heap.size = Bx at HR2 ⊢
    clear hW6 hbW6
    refine hK.out _ _ (HSS.out _ HB6.out) (fun hHeld => ?_)
    clear hK K
    try simp only [Act.put, List.getElem_toArray, List.getElem_cons_succ, List.getElem_cons_zero, List.setIfInBounds_toArray, List.set_cons_zero, List.set_cons_succ]
    refine wpAnyH_take (i := 3) (oi := _) (v := .agg #[.int .i64 5, .string ⟨#[]⟩, .string ⟨#[]⟩, .slice (some ⟨Bx, 0, none⟩) 2 2, .slice none 0 0]) rfl (by kernel_rfl) (by kernel_rfl) (by kernel_rfl) (fun _ _ _ h => h) (Or.inl ⟨by rfl, ?_⟩) (by assumption) ?_
    · intro w hSw
      go_simp
    try simp only [Act.put, List.getElem_toArray, List.getElem_cons_succ, List.getElem_cons_zero, List.setIfInBounds_toArray, List.set_cons_zero, List.set_cons_succ]
    refine wpAnyH_ready (rs := [5]) (by kernel_rfl) (by simp) ?_
    refine AllReadyH.cons (o := _) rfl (fun K hK => ?_) AllReadyH.nil
    go_simp
    go_at_call 8
    refine (HWh.out _ _).mono ?_
    rintro e w7 ⟨rfl, hq⟩
    have HB7 := Hid.mk (HB6.out.trans (hq.mono HB6.out.size))
    replace HR2 := Hid.mk (HR2.out.keep hq)
    clear hq
    go_wp2_with fail
    refine hK.out _ _ (HSS.out _ HB7.out) (fun hHeld => ?_)
    clear hK K
    try simp only [Act.put, List.getElem_toArray, List.getElem_cons_succ, List.getElem_cons_zero, List.setIfInBounds_toArray, List.set_cons_zero, List.set_cons_succ]
    refine wpAnyH_ready (rs := [6]) (by kernel_rfl) (by simp) ?_
    refine AllReadyH.cons (o := _) rfl (fun K hK => ?_) AllReadyH.nil
    go_simp
    obtain ⟨W8, hW8⟩ : ∃ W, w7.alloc (.cells #[.int .i64 3, .string ⟨#[49]⟩, .string ⟨#[]⟩, .slice none 0 0, .slice none 0 0] 37) = W := ⟨_, rfl⟩
    have hbW8 : Below w7.heap.size w7 W8 := by rw [← hW8]; exact below1 w7 _
    have HB8 := Hid.mk (HB7.out.trans (hbW8.mono HB7.out.size))
    have HR1 := Hid.mk (row1_in (W := W8) (B := w7.heap.size) (k1 := 3) (n1 := ⟨#[49]⟩) (t1 := ⟨#[]⟩) (by rw [← hW8]; exact World.alloc_heap_new w7 _) (by decide) (by decide))
    replace HR2 := Hid.mk (HR2.out.keep hbW8)
    try rw [hW8]
    generalize w7.heap.size = Cx at HR1 ⊢
    clear hW8 hbW8
    refine hK.out _ _ (HSS.out _ HB8.out) (fun hHeld => ?_)
    clear hK K
    try simp only [Act.put, List.getElem_toArray, List.getElem_cons_succ, List.getElem_cons_zero, List.setIfInBounds_toArray, List.set_cons_zero, List.set_cons_succ]
    refine wpAnyH_ready (rs := [7]) (by kernel_rfl) (by simp) ?_
    refine AllReadyH.cons (o := _) rfl (fun K hK => ?_) AllReadyH.nil
    go_simp
    go_at_call 9
    refine (HY6.out Bx Cx W8 (HK9.out.keep HB8.out) HR2.out HR1.out).mono ?_
    rintro e wz ⟨rfl, hq⟩
    have HBz := Hid.mk (HB8.out.trans (hq.mono HB8.out.size))
    clear hq
    go_wp2_with fail
    refine hK.out _ _ (HSS.out _ HBz.out) (fun hHeld => ?_)
    clear hK K
    try simp only [Act.put, List.getElem_toArray, List.getElem_cons_succ, List.getElem_cons_zero, List.setIfInBounds_toArray, List.set_cons_zero, List.set_cons_succ]
    refine wpAnyH_take (i := 8) (oi := _) (v := .bool false) rfl (by kernel_rfl) (by kernel_rfl) (by kernel_rfl) (fun _ _ _ h => h) (Or.inl ⟨by rfl, ?_⟩) (by assumption) ?_
    · intro w hSw
      go_simp
    try simp only [Act.put, List.getElem_toArray, List.getElem_cons_succ, List.getElem_cons_zero, List.setIfInBounds_toArray, List.set_cons_zero, List.set_cons_succ]
    refine wpAnyH_done (by kernel_rfl) ?_ _
    try simp only [Act.put, List.getElem_toArray, List.getElem_cons_succ, List.getElem_cons_zero, List.setIfInBounds_toArray, List.set_cons_zero, List.set_cons_succ]
    exact KEY Bx Cx wz (Hid.mk (HK9.out.keep HBz.out))
  refine AllReadyH.cons (o := _) rfl (fun K hK => ?_) AllReadyH.nil
  go_simp
  go_at_call 8
  refine (HWh.out _ _).mono ?_
  rintro e w6 ⟨rfl, hq⟩
  have HB6 := Hid.mk (HB5.out.trans (hq.mono HB5.out.size))
  clear hq
  go_wp2_with fail
  refine hK.out _ _ (HSS.out _ HB6.out) (fun hHeld => ?_)
  clear hK K
  try simp only [Act.put, List.getElem_toArray, List.getElem_cons_succ, List.getElem_cons_zero, List.setIfInBounds_toArray, List.set_cons_zero, List.set_cons_succ]
  refine wpAnyH_ready (rs := [2, 6]) (by kernel_rfl) (by simp) ?_
  refine AllReadyH.cons (o := _) rfl (fun K hK => ?_) ?_
  · skip
    go_simp
    obtain ⟨W7, hW7⟩ : ∃ W, w6.alloc (.cells #[.int .i64 3, .string ⟨#[49]⟩, .string ⟨#[]⟩, .slice none 0 0, .slice none 0 0, .int .i64 3, .string ⟨#[57]⟩, .string ⟨#[]⟩, .slice none 0 0, .slice none 0 0] 37) = W := ⟨_, rfl⟩
    have hbW7 : Below w6.heap.size w6 W7 := by rw [← hW7]; exact below1 w6 _
    have HB7 := Hid.mk (HB6.out.trans (hbW7.mono HB6.out.size))
    have HR2 := Hid.mk (row2_in (W := W7) (B := w6.heap.size) (k1 := 3) (k2 := 3) (n1 := ⟨#[49]⟩) (t1 := ⟨#[]⟩) (n2 := ⟨#[57]⟩) (t2 := ⟨#[]⟩) (by rw [← hW7]; exact World.alloc_heap_new w6 _) (by decide) (by decide) (by decide) (by decide))
    try rw [hW7]
    generalize w6.heap.size = Bx at HR2 ⊢
    clear hW7 hbW7
    refine hK.out _ _ (HSS.out _ HB7.out) (fun hHeld => ?_)
    clear hK K
    try simp only [Act.put, List.getElem_toArray, List.getElem_cons_succ, List.getElem_cons_zero, List.setIfInBounds_toArray, List.set_cons_zero, List.set_cons_succ]
    refine wpAnyH_take (i := 3) (oi := _) (v := .agg #[.int .i64 5, .string ⟨#[]⟩, .string ⟨#[]⟩, .slice (some ⟨Bx, 0, none⟩) 2 2, .slice none 0 0]) rfl (by kernel_rfl) (by kernel_rfl) (by kernel_rfl) (fun _ _ _ h => h) (Or.inl ⟨by rfl, ?_⟩) (by assumption) ?_
    · intro w hSw
      go_simp
    try simp only [Act.put, List.getElem_toArray, List.getElem_cons_succ, List.getElem_cons_zero, List.setIfInBounds_toArray, List.set_cons_zero, List.set_cons_succ]
    refine wpAnyH_ready (rs := [6]) (by kernel_rfl) (by simp) ?_
    refine AllReadyH.cons (o := _) rfl (fun K hK => ?_) AllReadyH.nil
    go_simp
    obtain ⟨W8, hW8⟩ : ∃ W, W7.alloc (.cells #[.int .i64 3, .string ⟨#[49]⟩, .string ⟨#[]⟩, .slice none 0 0, .slice none 0 0] 37) = W := ⟨_, rfl⟩
    have hbW8 : Below W7.heap.size W7 W8 := by rw [← hW8]; exact below1 W7 _
    have HB8 := Hid.mk (HB7.out.trans (hbW8.mono HB7.out.size))
    have HR1 := Hid.mk (row1_in (W := W8) (B := W7.heap.size) (k1 := 3) (n1 := ⟨#[49]⟩) (t1 := ⟨#[]⟩) (by rw [← hW8]; exact World.alloc_heap_new W7 _) (by decide) (by decide))
    replace HR2 := Hid.mk (HR2.out.keep hbW8)
    try rw [hW8]
    generalize W7.heap.size = Cx at HR1 ⊢
    clear hW8 hbW8
    refine hK.out _ _ (HSS.out _ HB8.out) (fun hHeld => ?_)
    clear hK K
    try simp only [Act.put, List.getElem_toArray, List.getElem_cons_succ, List.getElem_cons_zero, List.setIfInBounds_toArray, List.set_cons_zero, List.set_cons_succ]
    refine wpAnyH_ready (rs := [7]) (by kernel_rfl) (by simp) ?_
    refine AllReadyH.cons (o := _) rfl (fun K hK => ?_) AllReadyH.nil
    go_simp
    go_at_call 9
    refine (HY6.out Bx Cx W8 (HK9.out.keep HB8.out) HR2.out HR1.out).mono ?_
    rintro e wz ⟨rfl, hq⟩
    have HBz := Hid.mk (HB8.out.trans (hq.mono HB8.out.size))
    clear hq
    go_wp2_with fail
    refine hK.out _ _ (HSS.out _ HBz.out) (fun hHeld => ?_)
    clear hK K
    try simp only [Act.put, List.getElem_toArray, List.getElem_cons_succ, List.getElem_cons_zero, List.setIfInBounds_toArray, List.set_cons_zero, List.set_cons_succ]
    refine wpAnyH_take (i := 8) (oi := _) (v := .bool false) rfl (by kernel_rfl) (by kernel_rfl) (by kernel_rfl) (fun _ _ _ h => h) (Or.inl ⟨by rfl, ?_⟩) (by assumption) ?_
    · intro w hSw
      go_simp
    try simp only [Act.put, List.getElem_toArray, List.getElem_cons_succ, List.getElem_cons_zero, List.setIfInBounds_toArray, List.set_cons_zero, List.set_cons_succ]
    refine wpAnyH_done (by kernel_rfl) ?_ _
    try simp only [Act.put, List.getElem_toArray, List.getElem_cons_succ, List.getElem_cons_zero, List.setIfInBounds_toArray, List.set_cons_zero, List.set_cons_succ]
    exact KEY Bx Cx wz (Hid.mk (HK9.out.keep HBz.out))
  refine AllReadyH.cons (o := _) rfl (fun K hK => ?_) AllReadyH.nil
  go_simp
  obtain ⟨W7, hW7⟩ : ∃ W, w6.alloc (.cells #[.int .i64 3, .string ⟨#[49]⟩, .string ⟨#[]⟩, .slice none 0 0, .slice none 0 0] 37) = W := ⟨_, rfl⟩
  have hbW7 : Below w6.heap.size w6 W7 := by rw [← hW7]; exact below1 w6 _
  have HB7 := Hid.mk (HB6.out.trans (hbW7.mono HB6.out.size))
  have HR1 := Hid.mk (row1_in (W := W7) (B := w6.heap.size) (k1 := 3) (n1 := ⟨#[49]⟩) (t1 := ⟨#[]⟩) (by rw [← hW7]; exact World.alloc_heap_new w6 _) (by decide) (by decide))
  try rw [hW7]
  generalize w6.heap.size = Cx at HR1 ⊢
  clear hW7 hbW7
  refine hK.out _ _ (HSS.out _ HB7.out) (fun hHeld => ?_)
  clear hK K
  try simp only [Act.put, List.getElem_toArray, List.getElem_cons_succ, List.getElem_cons_zero, List.setIfInBounds_toArray, List.set_cons_zero, List.set_cons_succ]
  refine wpAnyH_ready (rs := [2]) (by kernel_rfl) (by simp) ?_
  refine AllReadyH.cons (o := _) rfl (fun K hK => ?_) AllReadyH.nil
  go_simp
  obtain ⟨W8, hW8⟩ : ∃ W, W7.alloc (.cells #[.int .i64 3, .string ⟨#[49]⟩, .string ⟨#[]⟩, .slice none 0 0, .slice none 0 0, .int .i64 3, .string ⟨#[57]⟩, .string ⟨#[]⟩, .slice none 0 0, .slice none 0 0] 37) = W := ⟨_, rfl⟩
  have hbW8 : Below W7.heap.size W7 W8 := by rw [← hW8]; exact below1 W7 _
  have HB8 := Hid.mk (HB7.out.trans (hbW8.mono HB7.out.size))
  have HR2 := Hid.mk (row2_in (W := W8) (B := W7.heap.size) (k1 := 3) (k2 := 3) (n1 := ⟨#[49]⟩) (t1 := ⟨#[]⟩) (n2 := ⟨#[57]⟩) (t2 := ⟨#[]⟩) (by rw [← hW8]; exact World.alloc_heap_new W7 _) (by decide) (by decide) (by decide) (by decide))
  replace HR1 := Hid.mk (HR1.out.keep hbW8)
  try rw [hW8]
  generalize W7.heap.size = Bx at HR2 ⊢
  clear hW8 hbW8
  refine hK.out _ _ (HSS.out _ HB8.out) (fun hHeld => ?_)
  clear hK K
  try simp only [Act.put, List.getElem_toArray, List.getElem_cons_succ, List.getElem_cons_zero, List.setIfInBounds_toArray, List.set_cons_zero, List.set_cons_succ]
  refine wpAnyH_take (i := 3) (oi := _) (v := .agg #[.int .i64 5, .string ⟨#[]⟩, .string ⟨#[]⟩, .slice (some ⟨Bx, 0, none⟩) 2 2, .slice none 0 0]) rfl (by kernel_rfl) (by kernel_rfl) (by kernel_rfl) (fun _ _ _ h => h) (Or.inl ⟨by rfl, ?_⟩) (by assumption) ?_
  · intro w hSw
    go_simp
  try simp only [Act.put, List.getElem_toArray, List.getElem_cons_succ, List.getElem_cons_zero, List.setIfInBounds_toArray, List.set_cons_zero, List.set_cons_succ]
  refine wpAnyH_ready (rs := [7]) (by kernel_rfl) (by simp) ?_
  refine AllReadyH.cons (o := _) rfl (fun K hK => ?_) AllReadyH.nil
  go_simp
  go_at_call 9
  refine (HY6.out Bx Cx W8 (HK9.out.keep HB8.out) HR2.out HR1.out).mono ?_
  rintro e wz ⟨rfl, hq⟩
  have HBz := Hid.mk (HB8.out.trans (hq.mono HB8.out.size))
  clear hq
  go_wp2_with fail
  refine hK.out _ _ (HSS.out _ HBz.out) (fun hHeld => ?_)
  clear hK K
  try simp only [Act.put, List.getElem_toArray, List.getElem_cons_succ, List.getElem_cons_zero, List.setIfInBounds_toArray, List.set_cons_zero, List.set_cons_succ]
  refine wpAnyH_take (i := 8) (oi := _) (v := .bool false) rfl (by kernel_rfl) (by kernel_rfl) (by kernel_rfl) (fun _ _ _ h => h) (Or.inl ⟨by rfl, ?_⟩) (by assumption) ?_
  · intro w hSw
    go_simp
  try simp only [Act.put, List.getElem_toArray, List.getElem_cons_succ, List.getElem_cons_zero, List.setIfInBounds_toArray, List.set_cons_zero, List.set_cons_succ]
  refine wpAnyH_done (by kernel_rfl) ?_ _
  try simp only [Act.put, List.getElem_toArray, List.getElem_cons_succ, List.getElem_cons_zero, List.setIfInBounds_toArray, List.set_cons_zero, List.set_cons_succ]
  exact KEY Bx Cx wz (Hid.mk (HK9.out.keep HBz.out))
  case key =>
  intro B C W8 HK8b
  clear HSS HD HY6
  obtain ⟨Wa, hWa⟩ : ∃ W, W8.alloc (.cells #[.string ⟨#[110]⟩] 9) = W := ⟨_, rfl⟩
  have hbWa : Below W8.heap.size W8 Wa := by rw [← hWa]; exact below1 W8 _
  have HKa := Hid.mk (HK8b.out.keep hbWa)
  have NWa : Hid (Wa.heap[W8.heap.size]? = some (.cells #[.string ⟨#[110]⟩] 9 (0, 0))) := by show _ = _; rw [← hWa]; exact World.alloc_heap_new W8 _
  clear hbWa
  go_wp2_with fail
  refine (HWh.out _ _).mono ?_
  rintro e wb ⟨rfl, hq⟩
  replace hq := hq
  try rw [hWa] at hq
  have HKb := Hid.mk (HKa.out.keep hq)
  replace NWa : Hid _ := Hid.mk ((hq.block _ (lt_row NWa.out)).trans NWa.out)
  clear hq
  clear hWa
  obtain ⟨Wc, hWc⟩ : ∃ W, wb.alloc (.cells #[.int .i64 3, .string ⟨#[55]⟩, .string ⟨#[]⟩, .slice none 0 0, .slice none 0 0] 37) = W := ⟨_, rfl⟩
  have hbWc : Below wb.heap.size wb Wc := by rw [← hWc]; exact below1 wb _
  have HKc := Hid.mk (HKb.out.keep hbWc)
  have NWc : Hid (Wc.heap[wb.heap.size]? = some (.cells #[.int .i64 3, .string ⟨#[55]⟩, .string ⟨#[]⟩, .slice none 0 0, .slice none 0 0] 37 (0, 0))) := by show _ = _; rw [← hWc]; exact World.alloc_heap_new wb _
  replace NWa : Hid _ := Hid.mk ((hbWc.block _ (lt_row NWa.out)).trans NWa.out)
  clear hbWc
  go_wp2_with fail
  refine (HWF.out _).mono ?_
  rintro e wd ⟨⟨vt, rfl, hvt⟩, hq⟩
  try rw [hWc] at hq
  have HKd := Hid.mk (HKc.out.keep hq)
  replace NWa : Hid _ := Hid.mk ((hq.block _ (lt_row NWa.out)).trans NWa.out)
  replace NWc : Hid _ := Hid.mk ((hq.block _ (lt_row NWc.out)).trans NWc.out)
  clear hq
  clear hWc
  have HVT := Hid.mk hvt
  obtain ⟨sa, sb, sc, sd, ⟨seo, sen, sec⟩, sf, ⟨sgo, sgn, sgc⟩, ⟨sio, sinn, sic⟩, ⟨sjo, sjn, sjc⟩, rfl⟩ := inT_shape hvt
  clear hvt
  go_wp2_with fail
  refine (HWo.out _ _).mono ?_
  rintro e we ⟨rfl, hq⟩
  have HKe := Hid.mk (HKd.out.keep hq)
  replace NWa : Hid _ := Hid.mk ((hq.block _ (lt_row NWa.out)).trans NWa.out)
  replace NWc : Hid _ := Hid.mk ((hq.block _ (lt_row NWc.out)).trans NWc.out)
  replace HVT := Hid.mk (HVT.out.keep hq)
  clear hq
  obtain ⟨Wf, hWf⟩ : ∃ W, we.alloc (.cells #[.int .i64 4, .string ⟨#[]⟩, .string ⟨#[107]⟩, .slice none 0 0, .slice none 0 0] 37) = W := ⟨_, rfl⟩
  have hbWf : Below we.heap.size we Wf := by rw [← hWf]; exact below1 we _
  have HKf := Hid.mk (HKe.out.keep hbWf)
  have NWf : Hid (Wf.heap[we.heap.size]? = some (.cells #[.int .i64 4, .string ⟨#[]⟩, .string ⟨#[107]⟩, .slice none 0 0, .slice none 0 0] 37 (0, 0))) := by show _ = _; rw [← hWf]; exact World.alloc_heap_new we _
  replace NWa : Hid _ := Hid.mk ((hbWf.block _ (lt_row NWa.out)).trans NWa.out)
  replace NWc : Hid _ := Hid.mk ((hbWf.block _ (lt_row NWc.out)).trans NWc.out)
  replace HVT := Hid.mk (HVT.out.keep hbWf)
  clear hbWf
  have HCy := Hid.mk (HY7.out W8.heap.size wb.heap.size we.heap.size _ Wf HKf.out (key1_in NWa.out) (row1_in (k1 := 3) (n1 := ⟨#[55]⟩) (t1 := ⟨#[]⟩) NWc.out (by decide) (by decide)) HVT.out (row1_in (k1 := 4) (n1 := ⟨#[]⟩) (t1 := ⟨#[107]⟩) NWf.out (by decide) (by decide)))
  go_wp2_with fail
  try rw [hWf]
  clear hWf
  refine HCy.out.mono ?_
  rintro e wg ⟨rfl, hq⟩
  have HKg := Hid.mk (HKf.out.keep hq)
  clear hq HCy HY7 NWa NWc NWf HVT
  obtain ⟨Xa, hXa⟩ : ∃ W, wg.alloc (.cells #[.string ⟨#[107]⟩, .string ⟨#[110]⟩] 9) = W := ⟨_, rfl⟩
  have hbXa : Below wg.heap.size wg Xa := by rw [← hXa]; exact below1 wg _
  have HXa := Hid.mk (HKg.out.keep hbXa)
  have NXa : Hid (Xa.heap[wg.heap.size]? = some (.cells #[.string ⟨#[107]⟩, .string ⟨#[110]⟩] 9 (0, 0))) := by show _ = _; rw [← hXa]; exact World.alloc_heap_new wg _
  clear hbXa
  go_wp2_with fail
  refine (HWo.out _ _).mono ?_
  rintro e xb ⟨rfl, hq⟩
  try rw [hXa] at hq
  have HXb := Hid.mk (HXa.out.keep hq)
  replace NXa : Hid _ := Hid.mk ((hq.block _ (lt_row NXa.out)).trans NXa.out)
  clear hq
  clear hXa
  go_wp2_with fail
  refine (HWh.out _ _).mono ?_
  rintro e xc ⟨rfl, hq⟩
  have HXc := Hid.mk (HXb.out.keep hq)
  replace NXa : Hid _ := Hid.mk ((hq.block _ (lt_row NXa.out)).trans NXa.out)
  clear hq
  obtain ⟨Xd, hXd⟩ : ∃ W, xc.alloc (.cells #[.int .i64 4, .string ⟨#[]⟩, .string ⟨#[97]⟩, .slice none 0 0, .slice none 0 0, .int .i64 3, .string ⟨#[55]⟩, .string ⟨#[]⟩, .slice none 0 0, .slice none 0 0] 37) = W := ⟨_, rfl⟩
  have hbXd : Below xc.heap.size xc Xd := by rw [← hXd]; exact below1 xc _
  have HXd := Hid.mk (HXc.out.keep hbXd)
  have NXd : Hid (Xd.heap[xc.heap.size]? = some (.cells #[.int .i64 4, .string ⟨#[]⟩, .string ⟨#[97]⟩, .slice none 0 0, .slice none 0 0, .int .i64 3, .string ⟨#[55]⟩, .string ⟨#[]⟩, .slice none 0 0, .slice none 0 0] 37 (0, 0))) := by show _ = _; rw [← hXd]; exact World.alloc_heap_new xc _
  replace NXa : Hid _ := Hid.mk ((hbXd.block _ (lt_row NXa.out)).trans NXa.out)
  clear hbXd
  go_wp2_with fail
  refine (HWF.out _).mono ?_
  rintro e xe ⟨⟨vt2, rfl, hvt⟩, hq⟩
  try rw [hXd] at hq
  have HXe := Hid.mk (HXd.out.keep hq)
  replace NXa : Hid _ := Hid.mk ((hq.block _ (lt_row NXa.out)).trans NXa.out)
  replace NXd : Hid _ := Hid.mk ((hq.block _ (lt_row NXd.out)).trans NXd.out)
  clear hq
  clear hXd
  have HVT := Hid.mk hvt
  obtain ⟨ua, ub, uc, ud, ⟨ueo, uen, uec⟩, uf, ⟨ugo, ugn, ugc⟩, ⟨uio, uinn, uic⟩, ⟨ujo, ujn, ujc⟩, rfl⟩ := inT_shape hvt
  clear hvt
  go_wp2_with fail
  refine (HWo.out _ _).mono ?_
  rintro e xf ⟨rfl, hq⟩
  have HXf := Hid.mk (HXe.out.keep hq)
  replace NXa : Hid _ := Hid.mk ((hq.block _ (lt_row NXa.out)).trans NXa.out)
  replace NXd : Hid _ := Hid.mk ((hq.block _ (lt_row NXd.out)).trans NXd.out)
  replace HVT := Hid.mk (HVT.out.keep hq)
  clear hq
  obtain ⟨Xg, hXg⟩ : ∃ W, xf.alloc (.cells #[.int .i64 4, .string ⟨#[]⟩, .string ⟨#[110]⟩, .slice none 0 0, .slice none 0 0] 37) = W := ⟨_, rfl⟩
  have hbXg : Below xf.heap.size xf Xg := by rw [← hXg]; exact below1 xf _
  have HXg := Hid.mk (HXf.out.keep hbXg)
  have NXg : Hid (Xg.heap[xf.heap.size]? = some (.cells #[.int .i64 4, .string ⟨#[]⟩, .string ⟨#[110]⟩, .slice none 0 0, .slice none 0 0] 37 (0, 0))) := by show _ = _; rw [← hXg]; exact World.alloc_heap_new xf _
  replace NXa : Hid _ := Hid.mk ((hbXg.block _ (lt_row NXa.out)).trans NXa.out)
  replace NXd : Hid _ := Hid.mk ((hbXg.block _ (lt_row NXd.out)).trans NXd.out)
  replace HVT := Hid.mk (HVT.out.keep hbXg)
  clear hbXg
  have HCy := Hid.mk (HY8.out wg.heap.size xc.heap.size xf.heap.size _ Xg HXg.out (key2_in NXa.out) (row2_in (k1 := 4) (n1 := ⟨#[]⟩) (t1 := ⟨#[97]⟩) (k2 := 3) (n2 := ⟨#[55]⟩) (t2 := ⟨#[]⟩) NXd.out (by decide) (by decide) (by decide) (by decide)) HVT.out (row1_in (k1 := 4) (n1 := ⟨#[]⟩) (t1 := ⟨#[110]⟩) NXg.out (by decide) (by decide)))
  go_wp2_with fail
  try rw [hXg]
  clear hXg
  refine HCy.out.mono ?_
  rintro e xh ⟨rfl, hq⟩
  have HXh := Hid.mk (HXg.out.keep hq)
  clear hq HCy HY8 NXa NXd NXg HVT
  have y0 : xh.cell? ⟨w.heap.size + 1, 0, none⟩ = some (.bool false) := cell_of_row _ _ 0 _ _ _ HXh.out.bn
  have y1 : xh.cell? ⟨w.heap.size + 1, 1, none⟩ = some (.bool false) := cell_of_row _ _ 1 _ _ _ HXh.out.bn
  have y2 : xh.cell? ⟨w.heap.size + 1, 2, none⟩ = some (.bool false) := cell_of_row _ _ 2 _ _ _ HXh.out.bn
  have y3 : xh.cell? ⟨w.heap.size + 1, 3, none⟩ = some (.bool false) := cell_of_row _ _ 3 _ _ _ HXh.out.bn
  have y4 : xh.cell? ⟨w.heap.size + 1, 4, none⟩ = some (.slice (some ⟨w.heap.size, 0, none⟩) 1 1) := cell_of_row _ _ 4 _ _ _ HXh.out.bn
  have y5 : xh.cell? ⟨w.heap.size + 1, 5, none⟩ = some (.bool false) := cell_of_row _ _ 5 _ _ _ HXh.out.bn
  have y6 : xh.cell? ⟨w.heap.size + 1, 6, none⟩ = some (.slice none 0 0) := cell_of_row _ _ 6 _ _ _ HXh.out.bn
  have y7 : xh.cell? ⟨w.heap.size + 1, 7, none⟩ = some (.slice none 0 0) := cell_of_row _ _ 7 _ _ _ HXh.out.bn
  have y8 : xh.cell? ⟨w.heap.size + 1, 8, none⟩ = some (.slice none 0 0) := cell_of_row _ _ 8 _ _ _ HXh.out.bn
  go_wp2_with fail
  refine (HY9.out _ HXh.out).mono ?_
  rintro e xi ⟨⟨io9, cap9, rfl, hO⟩, hq⟩
  have HXi := Hid.mk (HXh.out.keep hq)
  clear hq hO
  go_wp2_with fail
  go_ret
  exact ⟨rfl, HXi.out.below⟩
end Go.Proofs.YtapjfocjeligiaaGreatDoor
