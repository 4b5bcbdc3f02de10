import Derived.Test.YtbfjpmbninlbbabGreatDoorM19
import Derived.Test.YtbfjpmbninlbbabGreatDoorM17
import Derived.Test.YtbfjpmbninlbbabGreatDoorM18
namespace Go.Proofs.YtbfjpmbninlbbabGreatDoor
open Go.RowKit
set_option linter.unusedVariables false
set_option linter.unusedSimpArgs false

/-- the numbers of the pieces that begin at one of the places X -/
def fnd (t : List UInt8) (X : List Nat) (k : Nat) : List Nat := (List.range k).filter fun j => decide (off t j ∈ X)
theorem fnd_up (t : List UInt8) (X : List Nat) (k : Nat) : fnd t X (k + 1) = fnd t X k ++ (if off t k ∈ X then [k] else []) := by
  unfold fnd
  rw [List.range_succ, List.filter_append]
  congr 1
  by_cases h : off t k ∈ X <;> simp [h]
theorem fnd_len (t : List UInt8) (X : List Nat) (k : Nat) : (fnd t X k).length ≤ k := by
  have := List.length_filter_le (fun j => decide (off t j ∈ X)) (List.range k)
  rw [List.length_range] at this
  exact this

/-- the first place that isn't passed tells whether a place is among them -/
theorem head_mem {X : List Nat} (hX : X.Pairwise (· < ·)) {d pos : Nat} (h1 : ∀ i, (hi : i < X.length) → i < d → X[i] < pos) (h2 : ∀ h : d < X.length, pos ≤ X[d]) : pos ∈ X ↔ ∃ h : d < X.length, X[d] = pos := by
  constructor
  · intro hm
    obtain ⟨e, he, hx⟩ := List.getElem_of_mem hm
    have hde : d ≤ e := by
      rcases Nat.lt_or_ge e d with g | g
      · have := h1 e he g; omega
      · exact g
    refine ⟨by omega, ?_⟩
    have h3 := h2 (by omega)
    rcases Nat.eq_or_lt_of_le hde with g | g
    · subst g; exact hx
    · have := List.pairwise_iff_getElem.1 hX d e (by omega) he g
      omega
  · rintro ⟨h, hx⟩
    rw [← hx]; exact List.getElem_mem h

theorem itp {w : World} {k : Nat} {s : ByteArray} {p : Nat} (h : w.heap[k]? = some (.stringIter s p)) : w.iterPos k = p := by simp [World.iterPos, h]

/-- while Find goes through the pieces -/
structure FdSt (B k0 : Nat) (w wr : World) (v : Value) (n : Nat) (s : ByteArray) (X : List Nat) (pos j : Nat) : Prop where
  iter : wr.heap[k0]? = some (.stringIter s pos)
  own : wr.ownsRow B 3 1 v n (ivals .i64 (natI (fnd s.data.toList X j)))
  len : (fnd s.data.toList X j).length = n
  below : Below B w wr
  at_ : pos = off s.data.toList j
  num : j ≤ (runes s.data.toList).length

/-- the places that are left -/
structure AhSt (w : World) (ga : Nat) (X : List Nat) (d : Nat) (ao : Option Addr) (la : Nat) : Prop where
  len : la + d = X.length
  ptr : 0 < la → ao = some ⟨ga, d, none⟩
  cell : ∀ i, (hi : i < X.length) → w.cell? ⟨ga, i, none⟩ = some (.int .i64 (X[i] : Int))
  lt : 0 < X.length → ga < w.heap.size

def lenOfV' : Value → Nat
  | .slice _ n _ => n
  | _ => 0

set_option maxRecDepth 100000 in
set_option maxHeartbeats 4000000 in
theorem w_FindO (s p : ByteArray) (w : World) (ss : s.size ≤ 4294967296) :
    Calls Tryz.prog 22 #[.string s, .string p] w fun e w' => ∃ so sc n, e = .returned (.slice so n sc) ∧ Hid ((fnd s.data.toList (plcs s p) (runes s.data.toList).length).length = n ∧ w'.ownsRow w.heap.size 3 1 (.slice so n sc) n (ivals .i64 (natI (fnd s.data.toList (plcs s p) (runes s.data.toList).length)))) ∧ Below w.heap.size w w' := by
  obtain ⟨i0, hi0, hz0, hz1, hz2⟩ := info_parts Tryz.infoI
  have HRL := Hid.mk (runes_len_le s.data.toList)
  go_enter Tryz.func22, Tryz.ntmps22
  go_wp2_with fail
  refine (w_places s p w).mono ?_
  rintro e w1 ⟨rfl, hw1⟩
  have hz : w1.heap.size = w.heap.size + 2 := by rw [hw1]; simp
  have hb1 : Below w.heap.size w w1 := by rw [hw1]; exact ((Below.refl _ _).alloc (Nat.le_refl _) _).alloc (by simp) _
  have HCl := Hid.mk (w_Collect (w.heap.size + 1) w.heap.size s p ss w1 (by rw [hw1]; simp [go_sem]) (by rw [hw1]; simp [go_sem]) (by omega) (by omega))
  have HB1 := Hid.mk hb1
  clear hw1 hz hb1
  go_wp2_with fail
  refine HCl.out.mono ?_
  rintro e w2 ⟨so, sc, rfl, HR2, hb2⟩
  have HB2 := Hid.mk (below_more HB1.out hb2)
  clear hb2 HCl
  have HXr : Hid ((plcs s p).Pairwise (· < ·)) := by
    show List.Pairwise _ _
    unfold plcs
    split
    · exact .nil
    · exact occs_rise (by rw [size_len]; omega) _
  generalize hX : plcs s p = X at *
  obtain ⟨ga, HA0, hcap0⟩ : ∃ ga, Hid (AhSt w2 ga X 0 so X.length) ∧ X.length ≤ sc := by
    rcases id HR2.out.2 with ⟨e1, e2⟩ | ⟨g, cap, cur, e1, hb, hg, hnc, hcm, hcs, htk⟩
    · refine ⟨0, ⟨rfl, fun h => by omega, fun i hi => by omega, fun h => by omega⟩, by omega⟩
    · cases e1
      refine ⟨g, ⟨rfl, fun _ => rfl, fun i hi => ?_, fun _ => (Array.getElem?_eq_some_iff.1 hg).1⟩, hnc⟩
      have := HR2.out.cells (g := g) rfl i (.int .i64 (X[i] : Int)) (by simp [ivals, natI, hi])
      have hadd : (⟨g, 0, none⟩ : Addr).add i = ⟨g, i, none⟩ := by unfold Addr.add; split <;> simp_all
      rwa [hadd] at this
  obtain ⟨lx, hlx⟩ : ∃ lx, lx = X.length := ⟨_, rfl⟩
  have HLX := Hid.mk hlx
  rw [← hlx] at HA0 hcap0 ⊢
  have HXE := Hid.mk hX
  clear HR2 HB1 hX hlx
  have HS : Hid (FdSt w2.heap.size w2.heap.size w2 (w2.iter s 0) (.slice none 0 0) 0 s X 0 0) :=
    ⟨World.iter_heap w2 s 0, by simpa [fnd, natI, ivals] using World.ownsRow_nil _ _ _ _, rfl, (Below.refl _ _).alloc (Nat.le_refl _) _, rfl, Nat.zero_le _⟩
  obtain ⟨k0, hk0⟩ : ∃ k0, k0 = w2.heap.size := ⟨_, rfl⟩
  have HKK := Hid.mk hk0
  have HS' : Hid (FdSt w2.heap.size k0 w2 (w2.iter s 0) (.slice none 0 0) 0 s X 0 0) := by rw [hk0]; exact HS
  go_wp2_with fail
  rw [← hk0]
  clear hk0 HS
  go_loopw [5, 6, 7] (fun f a num wr => ∃ (pos j n d la : Nat) (fo ao : Option Addr) (fc ca : Nat), pos ≤ s.size ∧ j ≤ s.size ∧ n ≤ j ∧ la ≤ ca ∧ f = .slice fo n fc ∧ a = .slice ao la ca ∧ num = .int .i64 (j : Int) ∧ Hid (FdSt w2.heap.size k0 w2 wr (.slice fo n fc) n s X pos j) ∧ Hid (AhSt w2 ga X d ao la) ∧ Hid (∀ i, (hi : i < X.length) → i < d → X[i] < pos)) (fun _ _ _ wr => s.size - wr.iterPos k0)
  case atStart => exact ⟨0, 0, 0, 0, lx, none, so, 0, sc, by omega, by omega, by omega, hcap0, rfl, rfl, rfl, HS', HA0, fun i hi h => absurd h (by omega)⟩
  case round =>
    obtain ⟨pos, j, n, d, la, fo, ao, fc, ca, hpos, hj, hnj, hca, rfl, rfl, rfl, HQ, HA, HP⟩ := hrel
    have hkr := HQ.out.iter
    have HM : Hid (wr.iterPos k0 = pos) := itp hkr
    by_cases hp : pos < s.size
    · obtain ⟨q, hq⟩ : ∃ q, q = pos + (decL (s.data.toList.drop pos)).2 := ⟨_, rfl⟩
      obtain ⟨r, hr⟩ : ∃ r, r = (decL (s.data.toList.drop pos)).1 := ⟨_, rfl⟩
      have h1 := decL_pos (s.data.toList.drop pos)
      have h2 := step_le hp
      obtain ⟨W1, hW1⟩ : ∃ W : World, W = wr.iterAt k0 s q := ⟨_, rfl⟩
      have hn1 := nxtAt wr k0 s pos r q hkr hp (by rw [decode_eq s pos hpos]; exact Prod.ext hr.symm (by show _ = q - pos; omega)) (by omega)
      have HK1 := Hid.mk (Lib.iterAt_heap wr k0 s pos q hkr)
      have HO1 := Hid.mk (own_iterAt HQ.out.own hkr q)
      have hkk : w2.heap.size ≤ k0 := Nat.le_of_eq HKK.out.symm
      have HBW := Hid.mk (Lib.below_iterAt HQ.out.below hkk s q)
      have HNx : Hid (q = off s.data.toList (j + 1) ∧ j < (runes s.data.toList).length) := by
        have e1 := HQ.out.at_
        refine ⟨?_, ?_⟩
        · rw [off_step _ _ (by rw [← e1]; exact drop_ne hp), ← e1]; exact hq
        · rcases Nat.lt_or_ge j (runes s.data.toList).length with g | g
          · exact g
          · have := off_end j s.data.toList g
            rw [← e1, size_len] at this
            omega
      rw [← hW1] at hn1 HK1 HO1 HBW
      rw [← hq] at h2
      have hq1 : pos + 1 ≤ q := by omega
      have hjs : j < s.size := by have := HNx.out.2; have := HRL.out; rw [size_len] at this; omega
      clear hW1 hr hq h1
      go_wp2_with fail
      go_loopw [6] (fun a wr' => ∃ (d la : Nat) (ao : Option Addr) (ca : Nat), la ≤ ca ∧ a = .slice ao la ca ∧ Hid (AhSt w2 ga X d ao la) ∧ Hid (∀ i, (hi : i < X.length) → i < d → X[i] < pos) ∧ W1 = wr') (fun a _ => lenOfV' a)
      case atStart => exact ⟨d, la, ao, ca, hca, rfl, HA, HP, rfl⟩
      case round =>
        clear HA HP hca
        obtain ⟨d, la, ao, ca, hca, rfl, HA, HP, rfl⟩ := hrel
        by_cases hla : 0 < la
        · have hla2 : (0 : Int) < (la : Int) := by omega
          have hd : d < X.length := by have := HA.out.len; omega
          have hao := HA.out.ptr hla
          have cX := (HBW.out.cell (p := ⟨ga, d, none⟩) (HA.out.lt (by omega))).trans (HA.out.cell d hd)
          subst hao
          by_cases hxp : X[d] < pos
          · have hx2 : (X[d] : Int) < (pos : Int) := by omega
            have HA2 : Hid (AhSt w2 ga X (d + 1) (if ca = 1 then some ⟨ga, d, none⟩ else some ⟨ga, d + 1, none⟩) (la - 1)) := ⟨by have := HA.out.len; omega, fun h => if_neg (by omega), HA.out.cell, HA.out.lt⟩
            have HP2 : Hid (∀ i, (hi : i < X.length) → i < d + 1 → X[i] < pos) := fun i hi h => by
              rcases Nat.lt_or_ge i d with g | g
              · exact HP.out i hi g
              · obtain rfl : i = d := by omega
                exact hxp
            generalize (X[d] : Int) = xd at cX hx2
            go_wp2_with fail
            go_roundw
            case rel => exact ⟨d + 1, la - 1, _, ca - 1, by omega, rfl, HA2, HP2, trivial⟩
            case measure => simp [lenOfV']; omega
          · have hx2 : ¬ (X[d] : Int) < (pos : Int) := by omega
            have HMem := Hid.mk (head_mem HXr.out (pos := pos) HP.out (fun _ => by omega))
            have hPq : Hid (∀ i, (hi : i < X.length) → i < d → X[i] < q) := fun i hi h => by have := HP.out i hi h; omega
            by_cases hxe : X[d] = pos
            · have hx3 : ((X[d] : Int) == (pos : Int)) = true := by simp; omega
              have HIn : Hid (off s.data.toList j ∈ X) := by
                show _ ∈ _
                rw [← HQ.out.at_]; exact HMem.out.2 ⟨hd, hxe⟩
              have hown := HO1.out
              have hszw := HBW.out.size
              generalize (X[d] : Int) = xd at cX hx2 hx3
              clear hxe hxp
              go_wp2_with (at_builtin; refine wpList_append_own _ rfl _ _ 39 rfl w2.heap.size 3 i0 (.int .i64 0) 1 8 Tryz.underlying39 hi0 hz0 hz1 hz2 rfl (by decide) _ _ _ rfl (hown.alloc _) ⟨W1.heap.size, 0, none⟩ 1 1 [.int .i64 (j : Int)] rfl rfl (by intro jj u hj; match jj, hj with | 0, hj => simp at hj; subst hj; simp [Addr.add]) (by intro u hu; simp at hu; subst hu; rfl) (by unfold maxLen; omega) (by omega) (by simp; omega) ?_)
              intro v3 w3 hown3 hgrow3 hnn
              obtain ⟨g3, c3, hv3⟩ := own_shape hown3
              have HN : Hid (FdSt w2.heap.size k0 w2 w3 v3 (n + 1) s X q (j + 1)) := by
                have e3 : fnd s.data.toList X (j + 1) = fnd s.data.toList X j ++ [j] := by rw [fnd_up, if_pos HIn.out]
                refine ⟨iter_kept (hown.alloc _) ((Below.heap_alloc _ _ _ (Array.getElem?_eq_some_iff.1 HK1.out).1).trans HK1.out) hgrow3, ?_, ?_, below_app hown hszw HBW.out hgrow3, HNx.out.1, HNx.out.2⟩
                · rw [e3, ← natI_snoc]; exact hown3
                · rw [e3, List.length_append, HQ.out.len]; rfl
              have HM3 : Hid (w3.iterPos k0 = q) := itp HN.out.iter
              subst hv3
              clear hown3 hgrow3 hnn hown
              go_wp2_with fail
              go_roundw
              case rel => exact ⟨q, j + 1, n + 1, d, la, g3, some ⟨ga, d, none⟩, c3, ca, h2, by omega, by omega, hca, rfl, rfl, by go_num, HN, HA, hPq⟩
              case measure => rw [HM3.out, HM.out]; omega
            · have hx3 : ((X[d] : Int) == (pos : Int)) = false := by simp; omega
              have HN : Hid (FdSt w2.heap.size k0 w2 W1 (.slice fo n fc) n s X q (j + 1)) := by
                have hno : ¬ off s.data.toList j ∈ X := by
                  rw [← HQ.out.at_]; intro hm
                  obtain ⟨_, h⟩ := HMem.out.1 hm
                  exact hxe h
                have e3 : fnd s.data.toList X (j + 1) = fnd s.data.toList X j := by rw [fnd_up, if_neg hno, List.append_nil]
                exact ⟨HK1.out, by rw [e3]; exact HO1.out, by rw [e3]; exact HQ.out.len, HBW.out, HNx.out.1, HNx.out.2⟩
              have HM3 : Hid (W1.iterPos k0 = q) := itp HN.out.iter
              generalize (X[d] : Int) = xd at cX hx2 hx3
              clear hxe hxp
              go_wp2_with fail
              go_roundw
              case rel => exact ⟨q, j + 1, n, d, la, fo, some ⟨ga, d, none⟩, fc, ca, h2, by omega, by omega, hca, rfl, rfl, by go_num, HN, HA, hPq⟩
              case measure => rw [HM3.out, HM.out]; omega
        · have hla2 : ¬ (0 : Int) < (la : Int) := by omega
          have hd : ¬ d < X.length := by have := HA.out.len; omega
          have HMem := Hid.mk (head_mem HXr.out (pos := pos) HP.out (fun h => absurd h hd))
          have hPq : Hid (∀ i, (hi : i < X.length) → i < d → X[i] < q) := fun i hi h => by have := HP.out i hi h; omega
          have HN : Hid (FdSt w2.heap.size k0 w2 W1 (.slice fo n fc) n s X q (j + 1)) := by
            have hno : ¬ off s.data.toList j ∈ X := by
              rw [← HQ.out.at_]; intro hm
              obtain ⟨h, _⟩ := HMem.out.1 hm
              exact hd h
            have e3 : fnd s.data.toList X (j + 1) = fnd s.data.toList X j := by rw [fnd_up, if_neg hno, List.append_nil]
            exact ⟨HK1.out, by rw [e3]; exact HO1.out, by rw [e3]; exact HQ.out.len, HBW.out, HNx.out.1, HNx.out.2⟩
          have HM3 : Hid (W1.iterPos k0 = q) := itp HN.out.iter
          clear hd
          go_wp2_with fail
          go_roundw
          case rel => exact ⟨q, j + 1, n, d, la, fo, ao, fc, ca, h2, by omega, by omega, hca, rfl, rfl, by go_num, HN, HA, hPq⟩
          case measure => rw [HM3.out, HM.out]; omega
    · have hne := fun ty => Lib.run_next_end_at (P := Tryz.prog) wr k0 s pos ty hkr hp
      have HJN : Hid (j = (runes s.data.toList).length) := by
        have e1 := HQ.out.at_
        have e2 := HQ.out.num
        rcases Nat.lt_or_ge j (runes s.data.toList).length with g | g
        · have := off_lt j s.data.toList g
          rw [← e1, size_len] at this
          omega
        · show _ = _; omega
      have HE : Hid ((fnd s.data.toList (plcs s p) (runes s.data.toList).length).length = n ∧ wr.ownsRow w.heap.size 3 1 (.slice fo n fc) n (ivals .i64 (natI (fnd s.data.toList (plcs s p) (runes s.data.toList).length)))) := by
        rw [HXE.out, ← HJN.out]
        have h := HQ.out.own
        exact ⟨HQ.out.len, h.1, h.2.imp id (fun ⟨g, cap, cur, e, hb, rest⟩ => ⟨g, cap, cur, e, Nat.le_trans HB2.out.size hb, rest⟩)⟩
      have HBf : Hid (Below w.heap.size w wr) := below_more HB2.out HQ.out.below
      clear hkr
      go_wp2_with fail
      go_ret
      exact ⟨fo, fc, n, rfl, HE, HBf.out⟩

theorem w_Find (s p : ByteArray) (w : World) (ss : s.size ≤ 4294967296) :
    Calls Tryz.prog 22 #[.string s, .string p] w fun e w' => ∃ so sc n, e = .returned (.slice so n sc) ∧ Hid ((fnd s.data.toList (plcs s p) (runes s.data.toList).length).length = n ∧ Ints .i64 w' (.slice so n sc) (natI (fnd s.data.toList (plcs s p) (runes s.data.toList).length))) ∧ Below w.heap.size w w' :=
  (w_FindO s p w ss).mono fun e w' ⟨so, sc, n, h1, h2, h3⟩ => ⟨so, sc, n, h1, ⟨h2.out.1, own_ints h2.out.2⟩, h3⟩
end Go.Proofs.YtbfjpmbninlbbabGreatDoor
namespace Go.Proofs.YtbfjpmbninlbbabGreatDoor
open Go.RowKit
set_option linter.unusedVariables false
set_option linter.unusedSimpArgs false

theorem plcs_stands (s p : ByteArray) (hp : 0 < p.size) (o : Nat) : o ∈ plcs s p ↔ stands s o p.data.toList := by
  rw [plcs_occs s p hp, occs_mem (by rw [size_len]; exact hp), stands_occ, size_len]
  constructor
  · exact fun h => h.2
  · intro h
    refine ⟨?_, h⟩
    have := h.1
    rw [size_len, size_len] at this
    exact this

/-- while the reference finds -/
structure RfSt (s p : ByteArray) (w wr : World) (v : Value) (c k : Nat) : Prop where
  own : wr.ownsRow w.heap.size 3 1 v c (ivals .i64 (natI (fnd s.data.toList (plcs s p) k)))
  len : c = (fnd s.data.toList (plcs s p) k).length
  below : Below w.heap.size w wr

set_option maxRecDepth 100000 in
set_option maxHeartbeats 4000000 in
theorem w_rFind (s p : ByteArray) (w : World) (hs : s.size ≤ 1048576) (sp : p.size ≤ 1048576) :
    Calls Tryz.prog 23 #[.string s, .string p] w fun e w' => ∃ so sc n, e = .returned (.slice so n sc) ∧ Hid (n = (fnd s.data.toList (plcs s p) (runes s.data.toList).length).length ∧ Ints .i64 w' (.slice so n sc) (natI (fnd s.data.toList (plcs s p) (runes s.data.toList).length))) ∧ Below w.heap.size w w' := by
  obtain ⟨i0, hi0, hz0, hz1, hz2⟩ := info_parts Tryz.infoI
  have hrl := runes_len_le s.data.toList
  rw [size_len] at hrl
  have HPc := Hid.mk (fun u => w_Pieces s u (by omega))
  go_enter Tryz.func23, Tryz.ntmps23
  go_wp2_with fail
  refine (HPc.out _).mono ?_
  rintro e w1 ⟨so, sc, rfl, ho, hb1⟩
  obtain ⟨N, hN⟩ : ∃ N, N = (runes s.data.toList).length := ⟨_, rfl⟩
  have HNN := Hid.mk hN
  have HR : Hid (0 < N → ∃ g, so = some ⟨g, 0, none⟩ ∧ PRow s w1 g) := by
    intro h0
    rcases ho.out.2 with ⟨_, e⟩ | ⟨g, cap, cur, e, _, hr, _, _, _, ht⟩
    · omega
    · simp only [Value.slice.injEq] at e
      exact ⟨g, e.1, ⟨cur, hr, ht⟩⟩
  have HC0 : Hid (RfSt s p w (w1.alloc (.cells #[] 3)) (.slice (some ⟨w1.heap.size, 0, none⟩) 0 0) 0 0) := by
    have h := own_empty w1 3
    exact ⟨⟨h.1, h.2.imp id (fun ⟨g, cap, cur, e, hb, rest⟩ => ⟨g, cap, cur, e, Nat.le_trans hb1.size hb, rest⟩)⟩, rfl, hb1.alloc hb1.size _⟩
  have HBA := Hid.mk (below1 w1 (.cells #[] 3))
  rw [← hN] at hrl ⊢
  rw [← hN] at ho
  clear ho hb1 HPc hN
  go_wp2_with fail
  go_loopw [6, 7] (fun l i wr => ∃ (k c : Nat) (ao : Option Addr) (cap : Nat), k ≤ N ∧ c ≤ k ∧ l = .slice ao c cap ∧ i = .int .i64 (k : Int) ∧ Hid (RfSt s p w wr (.slice ao c cap) c k) ∧ Hid (∀ g, PRow s w1 g → PRow s wr g)) (fun _ i _ => N - (intOf i).toNat)
  case atStart => exact ⟨0, 0, _, 0, Nat.zero_le _, Nat.zero_le _, rfl, rfl, HC0, fun g h => h.keep HBA.out⟩
  case round =>
    obtain ⟨k, c, ao, cap, hk, hck, rfl, rfl, HQ, HP⟩ := hrel
    by_cases hlt : k < N
    · have hl1 : (k : Int) < (N : Int) := by omega
      have hkN : k < (runes s.data.toList).length := by rw [← HNN.out]; exact hlt
      by_cases hp : 0 < p.size
      · have hp1 : (0 : Int) < (p.size : Int) := by omega
        obtain ⟨g, hg, hpr⟩ := HR.out (by omega)
        subst hg
        have c0 : wr.cell? ⟨g, k * 4, none⟩ = some (.int .i64 (off s.data.toList k : Int)) := (HP.out g hpr).get hkN 0 (by omega)
        have hoff := off_size s k
        have HMem := Hid.mk (plcs_stands s p hp (off s.data.toList k))
        have HFu := Hid.mk (fnd_up s.data.toList (plcs s p) k)
        have hcv := Lib.run_convert_string_bytes (P := Tryz.prog) wr 9 55 5 p (u := .string) Tryz.underlying9 Tryz.underlying55 Tryz.underlying5
        obtain ⟨hbc, hbb⟩ := bcells_conv wr p
        obtain ⟨cp, hcp⟩ : ∃ cp, cp = grownCap wr p.size 0 5 := ⟨_, rfl⟩
        obtain ⟨W1, hW1⟩ : ∃ W1, W1 = Lib.bytesWorld wr 5 p := ⟨_, rfl⟩
        rw [← hcp, ← hW1] at hcv
        rw [← hW1] at hbc hbb
        have HSm := Hid.mk (w_sameC s (off s.data.toList k) wr.heap.size cp p.data.toList W1 hbc hoff (by omega) (by rw [size_len]; omega))
        rw [size_len] at HSm
        have HBB := Hid.mk hbb
        generalize off s.data.toList k = f at c0 hoff HMem HFu HSm
        clear hcp hW1 hbc hbb hpr hkN
        go_wp2_with fail
        refine HSm.out.mono ?_
        rintro e w2 ⟨rfl, hb2⟩
        have HB2 := Hid.mk (HBB.out.trans (hb2.mono HBB.out.size))
        have hown := own_below' HQ.out.own HB2.out
        have HBw := Hid.mk (HQ.out.below.trans (HB2.out.mono HQ.out.below.size))
        have hsz := HBw.out.size
        have HP2 : Hid (∀ g, PRow s w1 g → PRow s w2 g) := fun g h => (HP.out g h).keep HB2.out
        clear hb2 HSm hcv c0
        by_cases hst : stands s f p.data.toList
        · rw [decide_eq_true hst]
          have HE : Hid (fnd s.data.toList (plcs s p) (k + 1) = fnd s.data.toList (plcs s p) k ++ [k]) := by
            show _ = _; rw [HFu.out, if_pos (HMem.out.2 hst)]
          clear hst
          go_wp2_with (at_builtin; refine wpList_append_own _ rfl (.tmp 31) (.tmp 33) 39 rfl w.heap.size 3 i0 (.int .i64 0) 1 8 Tryz.underlying39 hi0 hz0 hz1 hz2 rfl (by decide) _ _ _ rfl (hown.alloc _) ⟨w2.heap.size, 0, none⟩ 1 1 [.int .i64 (k : Int)] rfl rfl (by intro j u hj; match j, hj with | 0, hj => simp at hj; subst hj; simp [Addr.add]) (by intro u hu; simp at hu; subst hu; rfl) (by unfold maxLen; omega) (by omega) (by simp; omega) ?_)
          intro v1 w3 hown1 hgrow1 hnn
          obtain ⟨so1, sc1, hv1⟩ := own_shape hown1
          have HN1 : Hid (RfSt s p w w3 v1 (c + 1) (k + 1)) := by
            refine ⟨?_, ?_, below_app hown hsz HBw.out hgrow1⟩
            · rw [HE.out]
              have : ivals .i64 (natI (fnd s.data.toList (plcs s p) k ++ [k])) = ivals .i64 (natI (fnd s.data.toList (plcs s p) k)) ++ [.int .i64 (k : Int)] := by simp [ivals, natI]
              rw [this]; exact hown1
            · rw [HE.out, List.length_append, ← HQ.out.len]; rfl
          have HP3 : Hid (∀ g, PRow s w1 g → PRow s w3 g) := fun g h => prow_kept3 hown (HP2.out g h) hgrow1
          subst hv1
          clear hown1 hgrow1 hnn hown
          go_wp2_with fail
          go_roundw
          case rel => exact ⟨k + 1, c + 1, so1, sc1, hlt, by omega, rfl, by go_num, HN1, HP3⟩
          case measure => simp [intOf]; omega
        · rw [decide_eq_false hst]
          have HE : Hid (fnd s.data.toList (plcs s p) (k + 1) = fnd s.data.toList (plcs s p) k) := by
            show _ = _; rw [HFu.out, if_neg (fun h => hst (HMem.out.1 h)), List.append_nil]
          have HN1 : Hid (RfSt s p w w2 (.slice ao c cap) c (k + 1)) := ⟨by rw [HE.out]; exact hown, by rw [HE.out]; exact HQ.out.len, HBw.out⟩
          clear hst hown
          go_wp2_with fail
          go_roundw
          case rel => exact ⟨k + 1, c, ao, cap, hlt, by omega, rfl, by go_num, HN1, HP2⟩
          case measure => simp [intOf]; omega
      · have hp1 : ¬ (0 : Int) < (p.size : Int) := by omega
        have HE : Hid (fnd s.data.toList (plcs s p) (k + 1) = fnd s.data.toList (plcs s p) k) := by
          show _ = _
          rw [fnd_up, if_neg, List.append_nil]
          unfold plcs
          rw [if_pos (by omega)]
          simp
        have HN1 : Hid (RfSt s p w wr (.slice ao c cap) c (k + 1)) := ⟨by rw [HE.out]; exact HQ.out.own, by rw [HE.out]; exact HQ.out.len, HQ.out.below⟩
        clear hkN
        go_wp2_with fail
        go_roundw
        case rel => exact ⟨k + 1, c, ao, cap, hlt, by omega, rfl, by go_num, HN1, HP⟩
        case measure => simp [intOf]; omega
    · have hl1 : ¬ (k : Int) < (N : Int) := by omega
      have HK : Hid (k = N) := by show _ = _; omega
      have HF : Hid (c = (fnd s.data.toList (plcs s p) N).length ∧ Ints .i64 wr (.slice ao c cap) (natI (fnd s.data.toList (plcs s p) N))) := by
        have h := HQ.out.own
        have h2 := HQ.out.len
        rw [HK.out] at h h2
        exact ⟨h2, own_ints h⟩
      go_wp2_with fail
      go_ret
      exact ⟨ao, cap, c, rfl, by rw [← HNN.out]; exact HF, HQ.out.below⟩
end Go.Proofs.YtbfjpmbninlbbabGreatDoor
