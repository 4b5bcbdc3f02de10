import Derived.Test.YtapjfocjeligiaaGreatDoorM43
import Derived.Test.YtapjfocjeligiaaGreatDoorM44
import Derived.Deep.RegionHeld3
import Derived.Test.YtapjfocjeligiaaGreatDoorM27
namespace Go.Proofs.YtapjfocjeligiaaGreatDoor
open Go.RowKit Go.Shelf Go.Sort
set_option linter.unusedVariables false
set_option linter.unusedSimpArgs false
attribute [local go_sem] Oper.semAt_some

theorem ob_open {f : TT → Bool} {o : OB} (h : obOk f o = true) : o.names.length = o.fields.length ∧ o.names.length = o.must.length ∧ rK o.names o.names.length = true ∧ f o.rest = true ∧ ∀ x ∈ o.fields, f x = true := by
  unfold obOk at h
  simp only [Bool.and_eq_true, decide_eq_true_eq] at h
  obtain ⟨h1, h2, ⟨h3, _⟩, h4, h5⟩ := h
  refine ⟨h1, h2, h3, h4, fun x hx => ?_⟩
  obtain ⟨i, hi, rfl⟩ := List.getElem_of_mem hx
  have hz : i < (o.fields.zip o.must).length := by rw [List.length_zip]; omega
  have h6 := List.all_eq_true.1 h5 _ (List.getElem_mem hz)
  rw [List.getElem_zip] at h6
  unfold fdOk at h6
  exact (Bool.and_eq_true _ _ ▸ h6).1
theorem fld_fm {f : TT → Bool} {o : OB} (h4 : f o.rest = true) (h5 : ∀ x ∈ o.fields, f x = true) (s : ByteArray) : f (fldO o s).1 = true := by
  have go : ∀ (ns : List ByteArray) (fs : List TT) (ms : List Bool), (∀ x ∈ fs, f x = true) → f (fldL ns fs ms o.rest s).1 = true := by
    intro ns
    induction ns with
    | nil => intro fs ms _; simpa [fldL] using h4
    | cons n ns ih =>
      intro fs ms hh
      cases fs with
      | nil => simpa [fldL] using h4
      | cons x fs =>
        cases ms with
        | nil => simpa [fldL] using h4
        | cons mm ms =>
          rw [fldL]
          split
          · exact hh _ (List.mem_cons_self ..)
          · exact ih fs ms (fun y hy => hh y (List.mem_cons_of_mem _ hy))
  exact go _ _ _ h5
theorem form6 {h : Nat} {V : VT} (hf : formN (h + 1) V = true) (h6 : V.kind = 6) : V.keys.length = V.items.length ∧ rK V.keys V.keys.length = true ∧ ∀ x ∈ V.items, formN h x = true := by
  rcases form_open hf with (rfl | rfl | rfl) | ⟨n, rfl, _⟩ | ⟨n, rfl, _⟩ | ⟨i, rfl, hi⟩ | ⟨i, ks, rfl, hl, hr, _, hi⟩
  all_goals first | exact ⟨hl, hr, hi⟩ | (simp [VT.kind] at h6)

set_option maxRecDepth 100000 in
set_option maxHeartbeats 12800000 in
theorem w_agObj (h : Nat) (ih : AgOk h) (hv : Nat) (V : VT) (ob : OB) (N : Nat) (kd : Int) (nm tx : ByteArray) (io : Option Addr) (NI icap : Nat) (vo : Option Addr) (NK vcap : Nat) (ko : Option Addr) (kc : Nat) (fo : Option Addr) (fc : Nat) (mo : Option Addr) (mc : Nat) (sa sb sc sd : Bool) (seo : Option Addr) (sen sec : Nat) (sf : Bool) (sgo : Option Addr) (sgn sgc : Nat) (sio : Option Addr) (sinn sic : Nat) (sjo : Option Addr) (sjn sjc : Nat) (w : World)
    (hI : InH w (hv + 1) V (.agg #[.int .i64 kd, .string nm, .string tx, .slice io NI icap, .slice vo NK vcap])) (hf : formN (hv + 1) V = true) (h6 : V.kind = 6) (hO : InO w h ob ko kc fo fc mo mc (.bool sa) (.bool sb) (.bool sc) (.bool sd) (.slice seo sen sec) (.bool sf) (.slice sgo sgn sgc) (.slice sio sinn sic) (.slice sjo sjn sjc)) (hN : ob.names.length = N) (hob : obOk (fmN h) ob = true) (ht : Tab2 w) :
    Calls Tryz.prog 64 #[.agg #[.int .i64 kd, .string nm, .string tx, .slice io NI icap, .slice vo NK vcap], .agg #[.slice ko N kc, .slice fo N fc, .slice mo N mc, .bool sa, .bool sb, .bool sc, .bool sd, .slice seo sen sec, .bool sf, .slice sgo sgn sgc, .slice sio sinn sic, .slice sjo sjn sjc]] w fun e w' => (∃ v, e = .returned v ∧ ErV w' (agOb (agN h) V ob) v) ∧ Below w.heap.size w w' := by
  obtain ⟨hlen, hrk, hfi⟩ := form6 hf h6
  obtain ⟨l1, l2, hrn, gr, gf⟩ := ob_open hob
  obtain ⟨io', icap', vo', vcap', ev, a1, a2, a3, a4, a5, a6, a7, hk, hi⟩ := hI
  simp only [Value.agg.injEq, Array.mk.injEq, List.cons.injEq, Value.int.injEq, Value.string.injEq, Value.slice.injEq, and_true, true_and] at ev
  obtain ⟨ekd, enm, etx, ⟨rfl, eNI, rfl⟩, ⟨rfl, eNK, rfl⟩⟩ := ev
  have hff : ob.fields.length = N := by omega
  have hmm : ob.must.length = N := by omega
  have HHas := Hid.mk (fun (s : ByteArray) (u : World) (hu : Below w.heap.size w u) => w_mHas kd nm tx io NI icap vo NK vcap V.keys s u (hk.keep hu) eNK.symm (by rw [eNK]; exact a6) (by rw [eNK]; exact a4) hrk)
  have HFo := Hid.mk (fun (s : ByteArray) (u : World) (hu : Below w.heap.size w u) => w_fieldOf h ob s N ko kc fo fc mo mc sa sb sc sd seo sen sec sf sgo sgn sgc sio sinn sic sjo sjn sjc u (hO.keep hu) hN hff hmm hrn)
  have HIV := Hid.mk (fun (x : VT) (s : ByteArray) (vx va : Value) (u : World) (hxi : InH u hv x vx) (fx : formN hv x = true) (hA : InT u h (fldO ob s).1 va) (hu : Tab2 u) => ih hv x (fldO ob s).1 vx va u hxi fx (fld_fm gr gf s) hA hu)
  have HNM := Hid.mk (fun u (hu : Below w.heap.size w u) => hO.nm.keep hu)
  have HMS := Hid.mk (fun u (hu : Below w.heap.size w u) => hO.ms.keep hu)
  have HKS := Hid.mk (fun u (hu : Below w.heap.size w u) => hk.keep hu)
  have HIT := Hid.mk (fun u (hu : Below w.heap.size w u) => (⟨hi⟩ : IIn w hv io V.items).keep hu)
  have HFI := Hid.mk hfi
  have HT := Hid.mk ht
  have HH6 := Hid.mk (fun u => w_here 6 u)
  have HAF := Hid.mk (fun (s : ByteArray) (q : List VT × Int) (v : Value) (u : World) (hz : s.size ≤ 140737488355328) (hv : ErV u (some q) v) => w_atField s q v u hz hv)
  have HZ1 := Hid.mk hO.lens.2.2.2
  have HZ2 := Hid.mk a7
  have hcap := hO.caps
  have hln := hO.lens.1
  rw [hN, hff, hmm] at hcap
  rw [hN] at hln
  obtain ⟨hc1, hc2, hc3⟩ := hcap
  obtain ⟨R, hR⟩ : ∃ R, agOb (agN h) V ob = R := ⟨_, rfl⟩
  obtain ⟨L1, hL1⟩ : ∃ L, ob.names.zip ob.must = L := ⟨_, rfl⟩
  obtain ⟨L2, hL2⟩ : ∃ L, V.keys.zip V.items = L := ⟨_, rfl⟩
  have HR : Hid (R = match agLk V.keys L1 with | some q => some q | none => agFl (agN h) ob L2) := by show _ = _; rw [← hR, ← hL1, ← hL2]; rfl
  rw [hR]
  have HLL : Hid (L1.length = N) := by show _ = _; rw [← hL1, List.length_zip]; omega
  have HLE : Hid (∀ k, (hk : k < L1.length) → ∃ (g1 : k < ob.names.length) (g3 : k < ob.must.length), L1[k] = (ob.names[k], ob.must[k])) := fun k hk => by
    have q0 := HLL.out
    subst hL1
    exact ⟨by omega, by omega, by rw [List.getElem_zip]⟩
  have HML : Hid (L2.length = NK) := by show _ = _; rw [← hL2, List.length_zip]; omega
  have HME : Hid (∀ k, (hk : k < L2.length) → ∃ (g1 : k < V.keys.length) (g3 : k < V.items.length), L2[k] = (V.keys[k], V.items[k])) := fun k hk => by
    have q0 := HML.out
    subst hL2
    exact ⟨by omega, by omega, by rw [List.getElem_zip]⟩
  have eNN : NI = NK := by omega
  have ENN := Hid.mk eNN
  have HLK := Hid.mk eNK
  have b1 : NI ≤ icap := by rw [eNI]; exact a5
  have b2 : NK ≤ vcap := by rw [eNK]; exact a6
  have b3 : NI ≤ 140737488355328 := by rw [eNI]; exact a3
  have b4 : NK ≤ 140737488355328 := by rw [eNK]; exact a4
  clear hlen hrk hf h6 hO hob l1 l2 hrn gr gf hff hmm ekd enm etx eNI eNK hk hi a1 a2 a3 a4 a5 a6 a7 ih hR hL1 hL2 hfi ht hN eNN
  have HX := Hid.mk (bx2_two w #[.int .i64 kd, .string nm, .string tx, .slice io NI icap, .slice vo NK vcap] #[.slice ko N kc, .slice fo N fc, .slice mo N mc, .bool sa, .bool sb, .bool sc, .bool sd, .slice seo sen sec, .bool sf, .slice sgo sgn sgc, .slice sio sinn sic, .slice sjo sjn sjc] 37 60)
  obtain ⟨W0, hW0⟩ : ∃ W0, (w.alloc (.cells #[.int .i64 kd, .string nm, .string tx, .slice io NI icap, .slice vo NK vcap] 37)).alloc (.cells #[.slice ko N kc, .slice fo N fc, .slice mo N mc, .bool sa, .bool sb, .bool sc, .bool sd, .slice seo sen sec, .bool sf, .slice sgo sgn sgc, .slice sio sinn sic, .slice sjo sjn sjc] 60) = W0 := ⟨_, rfl⟩
  rw [hW0] at HX
  have q0 : W0.cell? ⟨w.heap.size + 1, 0, none⟩ = some (.slice ko N kc) := HX.out.two 0
  go_enter Tryz.func64, Tryz.ntmps64
  go_wp2_with fail
  try rw [hW0]
  clear hW0 q0
  go_loopw [13] (fun i wr => ∃ k : Nat, k ≤ N ∧ i = .int .i64 (k : Int) ∧ Hid (Bx2 w wr #[.int .i64 kd, .string nm, .string tx, .slice io NI icap, .slice vo NK vcap] #[.slice ko N kc, .slice fo N fc, .slice mo N mc, .bool sa, .bool sb, .bool sc, .bool sd, .slice seo sen sec, .bool sf, .slice sgo sgn sgc, .slice sio sinn sic, .slice sjo sjn sjc]) ∧ Hid (∀ j, (hj : j < L1.length) → j < k → (L1[j].2 && !hasK V.keys L1[j].1) = false)) (fun i _ => N - (intOf i).toNat)
  case atStart => exact ⟨0, Nat.zero_le _, rfl, HX, fun j _ hj => absurd hj (Nat.not_lt_zero _)⟩
  case round =>
    clear HX
    obtain ⟨k, hk, rfl, HX, HQ⟩ := hrel
    by_cases hlt : k < N
    · have hl1 : (k : Int) < (N : Int) := by omega
      have hl0 : (0 : Int) ≤ (k : Int) := by omega
      have hkl : k < L1.length := by rw [HLL.out]; exact hlt
      obtain ⟨g1, g3, hz⟩ := HLE.out k hkl
      obtain ⟨nb, noff, hno, hnb, hnrow⟩ := (HNM.out wr HX.out.below).row (by omega)
      have x0 := hnrow k g1
      rw [show ob.names.getD k .empty = ob.names[k] by simp [List.getD, g1]] at x0
      obtain ⟨mb, moff, hmo, hmb, hmrow⟩ := (HMS.out wr HX.out.below).row (by omega)
      have m0 := hmrow k g3
      subst hno hmo
      have HC := Hid.mk (HHas.out ob.names[k] wr HX.out.below)
      have HSZ := Hid.mk (HZ1.out _ (List.getElem_mem g1))
      have HNx : Hid ((ob.must[k] && !hasK V.keys ob.names[k]) = false → ∀ j, (hj : j < L1.length) → j < k + 1 → (L1[j].2 && !hasK V.keys L1[j].1) = false) := fun hh j hj hj2 => by
        by_cases e : j = k
        · subst e; rw [hz]; exact hh
        · exact HQ.out j hj (by omega)
      have HAt : Hid ((ob.must[k] && !hasK V.keys ob.names[k]) = true → R = some ([stT ob.names[k]], 6)) := fun hh => by
        rw [HR.out, agLk_at hkl HQ.out (by rw [hz]; exact hh), hz]
      generalize hasK V.keys ob.names[k] = hs at *
      generalize ob.names[k] = nk at *
      generalize ob.must[k] = mk at *
      have q2 : wr.cell? ⟨w.heap.size + 1, 2, none⟩ = some (.slice (some ⟨mb, moff, none⟩) N mc) := HX.out.two 2
      have p0 : wr.cell? ⟨w.heap.size, 0, none⟩ = some (.int .i64 kd) := HX.out.one 0
      have p1 : wr.cell? ⟨w.heap.size, 1, none⟩ = some (.string nm) := HX.out.one 1
      have p2 : wr.cell? ⟨w.heap.size, 2, none⟩ = some (.string tx) := HX.out.one 2
      have p3 : wr.cell? ⟨w.heap.size, 3, none⟩ = some (.slice io NI icap) := HX.out.one 3
      have p4 : wr.cell? ⟨w.heap.size, 4, none⟩ = some (.slice vo NK vcap) := HX.out.one 4
      clear hnrow hmrow hz hkl g1 g3 hnb hmb
      cases mk with
      | false =>
        have HN := Hid.mk (HNx.out rfl)
        clear HNx HAt HQ HC
        go_wp2_with fail
        go_roundw
        case rel => exact ⟨k + 1, hlt, by go_num, HX, HN⟩
        case measure => simp [intOf]; omega
      | true =>
        cases hs with
        | true =>
          have HN := Hid.mk (HNx.out rfl)
          clear HNx HAt HQ
          go_wp2_with fail
          refine HC.out.mono ?_
          rintro e w2 ⟨rfl, hb2⟩
          have HX2 := Hid.mk (HX.out.keep hb2)
          clear hb2 x0 m0 q2 p0 p1 p2 p3 p4
          go_wp2_with fail
          go_roundw
          case rel => exact ⟨k + 1, hlt, by go_num, HX2, HN⟩
          case measure => simp [intOf]; omega
        | false =>
          have HF := Hid.mk (HAt.out rfl)
          clear HNx HAt HQ
          go_wp2_with fail
          refine HC.out.mono ?_
          rintro e w2 ⟨rfl, hb2⟩
          have HX2 := Hid.mk (HX.out.keep hb2)
          clear hb2 x0 m0 q2 p0 p1 p2 p3 p4
          go_wp2_with fail
          refine (HH6.out _).mono ?_
          rintro e w3 ⟨⟨x, rfl, hx⟩, hb3⟩
          have HX3 := Hid.mk (HX2.out.keep hb3)
          obtain ⟨t, b2, rfl, hx⟩ := hx
          have HE := Hid.mk (show ErV w3 (some ([], 6)) _ from ⟨t, b2, rfl, hx⟩)
          clear hx hb3
          go_wp2_with fail
          refine (HAF.out _ _ _ _ HSZ.out HE.out).mono ?_
          rintro e w4 ⟨⟨y, rfl, hy⟩, hb4⟩
          have HB4 := Hid.mk (HX3.out.keep hb4).below
          have HY := Hid.mk hy
          clear hy hb4
          go_wp2_with fail
          go_ret
          exact ⟨⟨_, rfl, by rw [HF.out]; exact HY.out⟩, HB4.out⟩
    · have hl1 : ¬ (k : Int) < (N : Int) := by omega
      have HR2 : Hid (R = agFl (agN h) ob L2) := by
        show _ = _
        rw [HR.out, agLk_end (fun j hj _ => HQ.out j hj (by have := HLL.out; omega))]
      have p4 : wr.cell? ⟨w.heap.size, 4, none⟩ = some (.slice vo NK vcap) := HX.out.one 4
      clear HQ HR
      go_wp2_with fail
      clear p4
      go_loopw [36] (fun i wr => ∃ k : Nat, k ≤ NK ∧ i = .int .i64 (k : Int) ∧ Hid (Bx2 w wr #[.int .i64 kd, .string nm, .string tx, .slice io NI icap, .slice vo NK vcap] #[.slice ko N kc, .slice fo N fc, .slice mo N mc, .bool sa, .bool sb, .bool sc, .bool sd, .slice seo sen sec, .bool sf, .slice sgo sgn sgc, .slice sio sinn sic, .slice sjo sjn sjc]) ∧ Hid (∀ j, (hj : j < L2.length) → j < k → agN h L2[j].2 (fldO ob L2[j].1).1 = none)) (fun i _ => NK - (intOf i).toNat)
      case atStart => exact ⟨0, Nat.zero_le _, rfl, HX, fun j _ hj => absurd hj (Nat.not_lt_zero _)⟩
      case round =>
        clear HX hl1 hlt hk
        obtain ⟨k, hk, rfl, HX, HQ⟩ := hrel
        by_cases hlt : k < NK
        · have hl1 : (k : Int) < (NK : Int) := by omega
          have hl0 : (0 : Int) ≤ (k : Int) := by omega
          have hl2 : (k : Int) < (NI : Int) := by have := ENN.out; omega
          have hkl : k < L2.length := by rw [HML.out]; exact hlt
          obtain ⟨g1, g3, hz⟩ := HME.out k hkl
          obtain ⟨nb, noff, hno, hnb, hnrow⟩ := (HKS.out wr HX.out.below).row (by omega)
          have x0 := hnrow k g1
          rw [show V.keys.getD k .empty = V.keys[k] by simp [List.getD, g1]] at x0
          obtain ⟨ib, ioff, hio, hib, hirow⟩ := (HIT.out wr HX.out.below).row (by have := ENN.out; omega)
          subst hno hio
          obtain ⟨v0, v1, v2, v3, v4, ⟨e1, e2, e3, e4, e5⟩, hxt⟩ := hirow k g3
          obtain ⟨ik, inm, itx, iio, iN, iicap, iko, iK, ikcap, rfl, rfl, rfl, rfl, rfl⟩ := hxt.shape
          obtain ⟨vt, hvt, hfo⟩ := HFo.out V.keys[k] wr HX.out.below
          have HCF := Hid.mk hfo
          have HSZ := Hid.mk (HZ2.out _ (List.getElem_mem g1))
          have HCA := Hid.mk (fun u (hu : Below wr.heap.size wr u) => HIV.out V.items[k] V.keys[k] _ vt u (hxt.keep hu) (HFI.out _ (List.getElem_mem g3)) (hvt.keep hu) (HT.out.keep (HX.out.below.trans (hu.mono HX.out.below.size))))
          have HNx : Hid (agN h V.items[k] (fldO ob V.keys[k]).1 = none → ∀ j, (hj : j < L2.length) → j < k + 1 → agN h L2[j].2 (fldO ob L2[j].1).1 = none) := fun hh j hj hj2 => by
            by_cases e : j = k
            · subst e; rw [hz]; exact hh
            · exact HQ.out j hj (by omega)
          have HAt : Hid (∀ q, agN h V.items[k] (fldO ob V.keys[k]).1 = some q → R = some (stT V.keys[k] :: q.1, q.2)) := fun q hh => by
            rw [HR2.out, agFl_at hkl HQ.out (by rw [hz]; exact hh), hz]
          obtain ⟨za, zb, zc, zd, ⟨zeo, zen, zec⟩, zf, ⟨zgo, zgn, zgc⟩, ⟨zio, zinn, zic⟩, ⟨zjo, zjn, zjc⟩, eshz⟩ := inT_shape hvt
          simp only [Value.agg.injEq, Array.mk.injEq, List.cons.injEq, and_true] at eshz
          obtain ⟨rfl, rfl, rfl, rfl, rfl, rfl, rfl, rfl, rfl⟩ := eshz
          obtain ⟨r, hr⟩ : ∃ r, agN h V.items[k] (fldO ob V.keys[k]).1 = r := ⟨_, rfl⟩
          rw [hr] at HCA HNx HAt
          generalize V.keys[k] = nk at *
          have e0 : wr.cell? ⟨w.heap.size, 3, none⟩ = some (.slice (some ⟨ib, ioff, none⟩) NI icap) := HX.out.one 3
          have e6 : wr.cell? ⟨w.heap.size + 1, 0, none⟩ = some (.slice ko N kc) := HX.out.two 0
          have e7 : wr.cell? ⟨w.heap.size + 1, 1, none⟩ = some (.slice fo N fc) := HX.out.two 1
          have e8 : wr.cell? ⟨w.heap.size + 1, 2, none⟩ = some (.slice mo N mc) := HX.out.two 2
          have e9 : wr.cell? ⟨w.heap.size + 1, 3, none⟩ = some (.bool sa) := HX.out.two 3
          have e10 : wr.cell? ⟨w.heap.size + 1, 4, none⟩ = some (.bool sb) := HX.out.two 4
          have e11 : wr.cell? ⟨w.heap.size + 1, 5, none⟩ = some (.bool sc) := HX.out.two 5
          have e12 : wr.cell? ⟨w.heap.size + 1, 6, none⟩ = some (.bool sd) := HX.out.two 6
          have e13 : wr.cell? ⟨w.heap.size + 1, 7, none⟩ = some (.slice seo sen sec) := HX.out.two 7
          have e14 : wr.cell? ⟨w.heap.size + 1, 8, none⟩ = some (.bool sf) := HX.out.two 8
          have e15 : wr.cell? ⟨w.heap.size + 1, 9, none⟩ = some (.slice sgo sgn sgc) := HX.out.two 9
          have e16 : wr.cell? ⟨w.heap.size + 1, 10, none⟩ = some (.slice sio sinn sic) := HX.out.two 10
          have e17 : wr.cell? ⟨w.heap.size + 1, 11, none⟩ = some (.slice sjo sjn sjc) := HX.out.two 11
          have HSS : Hid (∀ u, Below wr.heap.size wr u → u.cell? ⟨w.heap.size, 3, none⟩ = some (.slice (some ⟨ib, ioff, none⟩) NI icap) ∧ u.cell? ⟨ib, ioff + k * 5, none⟩ = some (.int .i64 ik) ∧ u.cell? ⟨ib, ioff + k * 5 + 1, none⟩ = some (.string inm) ∧ u.cell? ⟨ib, ioff + k * 5 + 2, none⟩ = some (.string itx) ∧ u.cell? ⟨ib, ioff + k * 5 + 3, none⟩ = some (.slice iio iN iicap) ∧ u.cell? ⟨ib, ioff + k * 5 + 4, none⟩ = some (.slice iko iK ikcap) ∧ u.cell? ⟨w.heap.size + 1, 0, none⟩ = some (.slice ko N kc) ∧ u.cell? ⟨w.heap.size + 1, 1, none⟩ = some (.slice fo N fc) ∧ u.cell? ⟨w.heap.size + 1, 2, none⟩ = some (.slice mo N mc) ∧ u.cell? ⟨w.heap.size + 1, 3, none⟩ = some (.bool sa) ∧ u.cell? ⟨w.heap.size + 1, 4, none⟩ = some (.bool sb) ∧ u.cell? ⟨w.heap.size + 1, 5, none⟩ = some (.bool sc) ∧ u.cell? ⟨w.heap.size + 1, 6, none⟩ = some (.bool sd) ∧ u.cell? ⟨w.heap.size + 1, 7, none⟩ = some (.slice seo sen sec) ∧ u.cell? ⟨w.heap.size + 1, 8, none⟩ = some (.bool sf) ∧ u.cell? ⟨w.heap.size + 1, 9, none⟩ = some (.slice sgo sgn sgc) ∧ u.cell? ⟨w.heap.size + 1, 10, none⟩ = some (.slice sio sinn sic) ∧ u.cell? ⟨w.heap.size + 1, 11, none⟩ = some (.slice sjo sjn sjc)) := fun u hu => ⟨(hu.cell (p := ⟨_, _, _⟩) (World.block_lt_of_cell? _ _ e0)).trans e0, (hu.cell (p := ⟨_, _, _⟩) (World.block_lt_of_cell? _ _ e1)).trans e1, (hu.cell (p := ⟨_, _, _⟩) (World.block_lt_of_cell? _ _ e2)).trans e2, (hu.cell (p := ⟨_, _, _⟩) (World.block_lt_of_cell? _ _ e3)).trans e3, (hu.cell (p := ⟨_, _, _⟩) (World.block_lt_of_cell? _ _ e4)).trans e4, (hu.cell (p := ⟨_, _, _⟩) (World.block_lt_of_cell? _ _ e5)).trans e5, (hu.cell (p := ⟨_, _, _⟩) (World.block_lt_of_cell? _ _ e6)).trans e6, (hu.cell (p := ⟨_, _, _⟩) (World.block_lt_of_cell? _ _ e7)).trans e7, (hu.cell (p := ⟨_, _, _⟩) (World.block_lt_of_cell? _ _ e8)).trans e8, (hu.cell (p := ⟨_, _, _⟩) (World.block_lt_of_cell? _ _ e9)).trans e9, (hu.cell (p := ⟨_, _, _⟩) (World.block_lt_of_cell? _ _ e10)).trans e10, (hu.cell (p := ⟨_, _, _⟩) (World.block_lt_of_cell? _ _ e11)).trans e11, (hu.cell (p := ⟨_, _, _⟩) (World.block_lt_of_cell? _ _ e12)).trans e12, (hu.cell (p := ⟨_, _, _⟩) (World.block_lt_of_cell? _ _ e13)).trans e13, (hu.cell (p := ⟨_, _, _⟩) (World.block_lt_of_cell? _ _ e14)).trans e14, (hu.cell (p := ⟨_, _, _⟩) (World.block_lt_of_cell? _ _ e15)).trans e15, (hu.cell (p := ⟨_, _, _⟩) (World.block_lt_of_cell? _ _ e16)).trans e16, (hu.cell (p := ⟨_, _, _⟩) (World.block_lt_of_cell? _ _ e17)).trans e17⟩
          clear hnrow hirow hxt hvt hfo hr hz hkl g1 g3 hnb hib HQ e0 e1 e2 e3 e4 e5 e6 e7 e8 e9 e10 e11 e12 e13 e14 e15 e16 e17
          have HD := Hid.mk ((Below.refl wr.heap.size wr).drew)
          cases r with
          | none =>
            have HN := Hid.mk (HNx.out rfl)
            clear HNx HAt
            go_wp2_with fail
            refine wp_region_held_drew (S := fun u => u.cell? ⟨w.heap.size, 3, none⟩ = some (.slice (some ⟨ib, ioff, none⟩) NI icap) ∧ u.cell? ⟨ib, ioff + k * 5, none⟩ = some (.int .i64 ik) ∧ u.cell? ⟨ib, ioff + k * 5 + 1, none⟩ = some (.string inm) ∧ u.cell? ⟨ib, ioff + k * 5 + 2, none⟩ = some (.string itx) ∧ u.cell? ⟨ib, ioff + k * 5 + 3, none⟩ = some (.slice iio iN iicap) ∧ u.cell? ⟨ib, ioff + k * 5 + 4, none⟩ = some (.slice iko iK ikcap) ∧ u.cell? ⟨w.heap.size + 1, 0, none⟩ = some (.slice ko N kc) ∧ u.cell? ⟨w.heap.size + 1, 1, none⟩ = some (.slice fo N fc) ∧ u.cell? ⟨w.heap.size + 1, 2, none⟩ = some (.slice mo N mc) ∧ u.cell? ⟨w.heap.size + 1, 3, none⟩ = some (.bool sa) ∧ u.cell? ⟨w.heap.size + 1, 4, none⟩ = some (.bool sb) ∧ u.cell? ⟨w.heap.size + 1, 5, none⟩ = some (.bool sc) ∧ u.cell? ⟨w.heap.size + 1, 6, none⟩ = some (.bool sd) ∧ u.cell? ⟨w.heap.size + 1, 7, none⟩ = some (.slice seo sen sec) ∧ u.cell? ⟨w.heap.size + 1, 8, none⟩ = some (.bool sf) ∧ u.cell? ⟨w.heap.size + 1, 9, none⟩ = some (.slice sgo sgn sgc) ∧ u.cell? ⟨w.heap.size + 1, 10, none⟩ = some (.slice sio sinn sic) ∧ u.cell? ⟨w.heap.size + 1, 11, none⟩ = some (.slice sjo sjn sjc)) (by kernel_rfl) (HSS.out _ HD.out) (fun hHeld => ?_)
            refine wpAnyH_take (i := 0) (oi := _) (v := .pointer (some ⟨w.heap.size, 3, none⟩)) rfl (by kernel_rfl) (by kernel_rfl) (by kernel_rfl) (fun _ _ _ h => h) (Or.inl ⟨by rfl, ?_⟩) (by assumption) ?_
            · intro w hSw
              go_simp
            try simp only [Act.put, List.getElem_toArray, List.getElem_cons_succ, List.getElem_cons_zero, List.setIfInBounds_toArray, List.set_cons_zero, List.set_cons_succ]
            refine wpAnyH_take (i := 1) (oi := _) (v := .slice (some ⟨ib, ioff, none⟩) NI icap) rfl (by kernel_rfl) (by kernel_rfl) (by kernel_rfl) (fun _ _ _ h => h) (Or.inl ⟨by rfl, ?_⟩) (by assumption) ?_
            · intro w hSw
              go_simp
            try simp only [Act.put, List.getElem_toArray, List.getElem_cons_succ, List.getElem_cons_zero, List.setIfInBounds_toArray, List.set_cons_zero, List.set_cons_succ]
            refine wpAnyH_take (i := 2) (oi := _) (v := .int .i64 (k : Int)) rfl (by kernel_rfl) (by kernel_rfl) (by kernel_rfl) (fun _ _ _ h => h) (Or.inl ⟨by rfl, ?_⟩) (by assumption) ?_
            · intro w hSw
              go_simp
            try simp only [Act.put, List.getElem_toArray, List.getElem_cons_succ, List.getElem_cons_zero, List.setIfInBounds_toArray, List.set_cons_zero, List.set_cons_succ]
            refine wpAnyH_take (i := 3) (oi := _) (v := .pointer (some ⟨ib, ioff + k * 5, none⟩)) rfl (by kernel_rfl) (by kernel_rfl) (by kernel_rfl) (fun _ _ _ h => h) (Or.inl ⟨by rfl, ?_⟩) (by assumption) ?_
            · intro w hSw
              go_simp
            try simp only [Act.put, List.getElem_toArray, List.getElem_cons_succ, List.getElem_cons_zero, List.setIfInBounds_toArray, List.set_cons_zero, List.set_cons_succ]
            refine wpAnyH_take (i := 4) (oi := _) (v := .agg #[.int .i64 ik, .string inm, .string itx, .slice iio iN iicap, .slice iko iK ikcap]) rfl (by kernel_rfl) (by kernel_rfl) (by kernel_rfl) (fun _ _ _ h => h) (Or.inl ⟨by rfl, ?_⟩) (by assumption) ?_
            · intro w hSw
              go_simp
            try simp only [Act.put, List.getElem_toArray, List.getElem_cons_succ, List.getElem_cons_zero, List.setIfInBounds_toArray, List.set_cons_zero, List.set_cons_succ]
            refine wpAnyH_take (i := 5) (oi := _) (v := .agg #[.slice ko N kc, .slice fo N fc, .slice mo N mc, .bool sa, .bool sb, .bool sc, .bool sd, .slice seo sen sec, .bool sf, .slice sgo sgn sgc, .slice sio sinn sic, .slice sjo sjn sjc]) rfl (by kernel_rfl) (by kernel_rfl) (by kernel_rfl) (fun _ _ _ h => h) (Or.inl ⟨by rfl, ?_⟩) (by assumption) ?_
            · intro w hSw
              go_simp
            try simp only [Act.put, List.getElem_toArray, List.getElem_cons_succ, List.getElem_cons_zero, List.setIfInBounds_toArray, List.set_cons_zero, List.set_cons_succ]
            refine wpAnyH_take (i := 6) (oi := _) (v := .string nk) rfl (by kernel_rfl) (by kernel_rfl) (by kernel_rfl) (fun _ _ _ h => h) (Or.inl ⟨by rfl, ?_⟩) (by assumption) ?_
            · intro w hSw
              go_simp
            try simp only [Act.put, List.getElem_toArray, List.getElem_cons_succ, List.getElem_cons_zero, List.setIfInBounds_toArray, List.set_cons_zero, List.set_cons_succ]
            refine wpAnyH_ready (rs := [7]) (by kernel_rfl) (by simp) ?_
            refine AllReadyH.cons (o := _) rfl (fun K hK => ?_) AllReadyH.nil
            go_simp
            go_at_call 94
            refine (HCF.out _ HD.out).mono ?_
            rintro e w4 ⟨rfl, hq⟩
            have HB4 := Hid.mk (HD.out.trans (hq.mono HD.out.size))
            clear hq
            go_wp2_with fail
            refine hK.out _ _ (HSS.out _ HB4.out) (fun hHeld => ?_)
            clear hK K
            try simp only [Act.put, List.getElem_toArray, List.getElem_cons_succ, List.getElem_cons_zero, List.setIfInBounds_toArray, List.set_cons_zero, List.set_cons_succ]
            refine wpAnyH_ready (rs := [8]) (by kernel_rfl) (by simp) ?_
            refine AllReadyH.cons (o := _) rfl (fun K hK => ?_) AllReadyH.nil
            go_simp
            go_at_call 20
            refine (HCA.out _ HB4.out).mono ?_
            rintro e w5 ⟨⟨x, rfl, hx⟩, hq⟩
            have HB5 := Hid.mk (HB4.out.trans (hq.mono HB4.out.size))
            clear hq
            obtain rfl : x = .nilIface := hx
            go_wp2_with fail
            refine hK.out _ _ (HSS.out _ HB5.out) (fun hHeld => ?_)
            clear hK K
            try simp only [Act.put, List.getElem_toArray, List.getElem_cons_succ, List.getElem_cons_zero, List.setIfInBounds_toArray, List.set_cons_zero, List.set_cons_succ]
            refine wpAnyH_ready (rs := [9]) (by kernel_rfl) (by simp) ?_
            refine AllReadyH.cons (o := _) rfl (fun K hK => ?_) AllReadyH.nil
            go_simp
            refine hK.out _ _ (HSS.out _ HB5.out) (fun hHeld => ?_)
            clear hK K
            try simp only [Act.put, List.getElem_toArray, List.getElem_cons_succ, List.getElem_cons_zero, List.setIfInBounds_toArray, List.set_cons_zero, List.set_cons_succ]
            refine wpAnyH_done (by kernel_rfl) ?_ _
            try simp only [Act.put, List.getElem_toArray, List.getElem_cons_succ, List.getElem_cons_zero, List.setIfInBounds_toArray, List.set_cons_zero, List.set_cons_succ]
            have HX5 := Hid.mk (HX.out.keep HB5.out)
            clear hHeld HSS HCF HCA x0
            go_wp2_with fail
            go_roundw
            case rel => exact ⟨k + 1, hlt, by go_num, HX5, HN⟩
            case measure => simp [intOf]; omega
          | some q =>
            have HF := Hid.mk (HAt.out q rfl)
            clear HNx HAt
            go_wp2_with fail
            refine wp_region_held_drew (S := fun u => u.cell? ⟨w.heap.size, 3, none⟩ = some (.slice (some ⟨ib, ioff, none⟩) NI icap) ∧ u.cell? ⟨ib, ioff + k * 5, none⟩ = some (.int .i64 ik) ∧ u.cell? ⟨ib, ioff + k * 5 + 1, none⟩ = some (.string inm) ∧ u.cell? ⟨ib, ioff + k * 5 + 2, none⟩ = some (.string itx) ∧ u.cell? ⟨ib, ioff + k * 5 + 3, none⟩ = some (.slice iio iN iicap) ∧ u.cell? ⟨ib, ioff + k * 5 + 4, none⟩ = some (.slice iko iK ikcap) ∧ u.cell? ⟨w.heap.size + 1, 0, none⟩ = some (.slice ko N kc) ∧ u.cell? ⟨w.heap.size + 1, 1, none⟩ = some (.slice fo N fc) ∧ u.cell? ⟨w.heap.size + 1, 2, none⟩ = some (.slice mo N mc) ∧ u.cell? ⟨w.heap.size + 1, 3, none⟩ = some (.bool sa) ∧ u.cell? ⟨w.heap.size + 1, 4, none⟩ = some (.bool sb) ∧ u.cell? ⟨w.heap.size + 1, 5, none⟩ = some (.bool sc) ∧ u.cell? ⟨w.heap.size + 1, 6, none⟩ = some (.bool sd) ∧ u.cell? ⟨w.heap.size + 1, 7, none⟩ = some (.slice seo sen sec) ∧ u.cell? ⟨w.heap.size + 1, 8, none⟩ = some (.bool sf) ∧ u.cell? ⟨w.heap.size + 1, 9, none⟩ = some (.slice sgo sgn sgc) ∧ u.cell? ⟨w.heap.size + 1, 10, none⟩ = some (.slice sio sinn sic) ∧ u.cell? ⟨w.heap.size + 1, 11, none⟩ = some (.slice sjo sjn sjc)) (by kernel_rfl) (HSS.out _ HD.out) (fun hHeld => ?_)
            refine wpAnyH_take (i := 0) (oi := _) (v := .pointer (some ⟨w.heap.size, 3, none⟩)) rfl (by kernel_rfl) (by kernel_rfl) (by kernel_rfl) (fun _ _ _ h => h) (Or.inl ⟨by rfl, ?_⟩) (by assumption) ?_
            · intro w hSw
              go_simp
            try simp only [Act.put, List.getElem_toArray, List.getElem_cons_succ, List.getElem_cons_zero, List.setIfInBounds_toArray, List.set_cons_zero, List.set_cons_succ]
            refine wpAnyH_take (i := 1) (oi := _) (v := .slice (some ⟨ib, ioff, none⟩) NI icap) rfl (by kernel_rfl) (by kernel_rfl) (by kernel_rfl) (fun _ _ _ h => h) (Or.inl ⟨by rfl, ?_⟩) (by assumption) ?_
            · intro w hSw
              go_simp
            try simp only [Act.put, List.getElem_toArray, List.getElem_cons_succ, List.getElem_cons_zero, List.setIfInBounds_toArray, List.set_cons_zero, List.set_cons_succ]
            refine wpAnyH_take (i := 2) (oi := _) (v := .int .i64 (k : Int)) rfl (by kernel_rfl) (by kernel_rfl) (by kernel_rfl) (fun _ _ _ h => h) (Or.inl ⟨by rfl, ?_⟩) (by assumption) ?_
            · intro w hSw
              go_simp
            try simp only [Act.put, List.getElem_toArray, List.getElem_cons_succ, List.getElem_cons_zero, List.setIfInBounds_toArray, List.set_cons_zero, List.set_cons_succ]
            refine wpAnyH_take (i := 3) (oi := _) (v := .pointer (some ⟨ib, ioff + k * 5, none⟩)) rfl (by kernel_rfl) (by kernel_rfl) (by kernel_rfl) (fun _ _ _ h => h) (Or.inl ⟨by rfl, ?_⟩) (by assumption) ?_
            · intro w hSw
              go_simp
            try simp only [Act.put, List.getElem_toArray, List.getElem_cons_succ, List.getElem_cons_zero, List.setIfInBounds_toArray, List.set_cons_zero, List.set_cons_succ]
            refine wpAnyH_take (i := 4) (oi := _) (v := .agg #[.int .i64 ik, .string inm, .string itx, .slice iio iN iicap, .slice iko iK ikcap]) rfl (by kernel_rfl) (by kernel_rfl) (by kernel_rfl) (fun _ _ _ h => h) (Or.inl ⟨by rfl, ?_⟩) (by assumption) ?_
            · intro w hSw
              go_simp
            try simp only [Act.put, List.getElem_toArray, List.getElem_cons_succ, List.getElem_cons_zero, List.setIfInBounds_toArray, List.set_cons_zero, List.set_cons_succ]
            refine wpAnyH_take (i := 5) (oi := _) (v := .agg #[.slice ko N kc, .slice fo N fc, .slice mo N mc, .bool sa, .bool sb, .bool sc, .bool sd, .slice seo sen sec, .bool sf, .slice sgo sgn sgc, .slice sio sinn sic, .slice sjo sjn sjc]) rfl (by kernel_rfl) (by kernel_rfl) (by kernel_rfl) (fun _ _ _ h => h) (Or.inl ⟨by rfl, ?_⟩) (by assumption) ?_
            · intro w hSw
              go_simp
            try simp only [Act.put, List.getElem_toArray, List.getElem_cons_succ, List.getElem_cons_zero, List.setIfInBounds_toArray, List.set_cons_zero, List.set_cons_succ]
            refine wpAnyH_take (i := 6) (oi := _) (v := .string nk) rfl (by kernel_rfl) (by kernel_rfl) (by kernel_rfl) (fun _ _ _ h => h) (Or.inl ⟨by rfl, ?_⟩) (by assumption) ?_
            · intro w hSw
              go_simp
            try simp only [Act.put, List.getElem_toArray, List.getElem_cons_succ, List.getElem_cons_zero, List.setIfInBounds_toArray, List.set_cons_zero, List.set_cons_succ]
            refine wpAnyH_ready (rs := [7]) (by kernel_rfl) (by simp) ?_
            refine AllReadyH.cons (o := _) rfl (fun K hK => ?_) AllReadyH.nil
            go_simp
            go_at_call 94
            refine (HCF.out _ HD.out).mono ?_
            rintro e w4 ⟨rfl, hq⟩
            have HB4 := Hid.mk (HD.out.trans (hq.mono HD.out.size))
            clear hq
            go_wp2_with fail
            refine hK.out _ _ (HSS.out _ HB4.out) (fun hHeld => ?_)
            clear hK K
            try simp only [Act.put, List.getElem_toArray, List.getElem_cons_succ, List.getElem_cons_zero, List.setIfInBounds_toArray, List.set_cons_zero, List.set_cons_succ]
            refine wpAnyH_ready (rs := [8]) (by kernel_rfl) (by simp) ?_
            refine AllReadyH.cons (o := _) rfl (fun K hK => ?_) AllReadyH.nil
            go_simp
            go_at_call 20
            refine (HCA.out _ HB4.out).mono ?_
            rintro e w5 ⟨⟨x, rfl, hx⟩, hq⟩
            have HB5 := Hid.mk (HB4.out.trans (hq.mono HB4.out.size))
            clear hq
            obtain ⟨t, b2, rfl, hx⟩ := hx
            have HE := Hid.mk (show ErV w5 (some q) _ from ⟨t, b2, rfl, hx⟩)
            clear hx
            go_wp2_with fail
            refine hK.out _ _ (HSS.out _ HB5.out) (fun hHeld => ?_)
            clear hK K
            try simp only [Act.put, List.getElem_toArray, List.getElem_cons_succ, List.getElem_cons_zero, List.setIfInBounds_toArray, List.set_cons_zero, List.set_cons_succ]
            refine wpAnyH_ready (rs := [9]) (by kernel_rfl) (by simp) ?_
            refine AllReadyH.cons (o := _) rfl (fun K hK => ?_) AllReadyH.nil
            go_simp
            refine hK.out _ _ (HSS.out _ HB5.out) (fun hHeld => ?_)
            clear hK K
            try simp only [Act.put, List.getElem_toArray, List.getElem_cons_succ, List.getElem_cons_zero, List.setIfInBounds_toArray, List.set_cons_zero, List.set_cons_succ]
            refine wpAnyH_done (by kernel_rfl) ?_ _
            try simp only [Act.put, List.getElem_toArray, List.getElem_cons_succ, List.getElem_cons_zero, List.setIfInBounds_toArray, List.set_cons_zero, List.set_cons_succ]
            have HX5 := Hid.mk (HX.out.keep HB5.out)
            clear hHeld HSS HCF HCA x0
            go_wp2_with fail
            refine (HAF.out _ q _ _ HSZ.out HE.out).mono ?_
            rintro e w6 ⟨⟨y, rfl, hy⟩, hb6⟩
            have HB6 := Hid.mk (HX5.out.keep hb6).below
            have HY := Hid.mk hy
            clear hy hb6
            go_wp2_with fail
            go_ret
            exact ⟨⟨_, rfl, by rw [HF.out]; exact HY.out⟩, HB6.out⟩
        · have hl1 : ¬ (k : Int) < (NK : Int) := by omega
          have HF : Hid (R = none) := by
            show _ = _
            rw [HR2.out]
            exact agFl_end (fun j hj _ => HQ.out j hj (by have := HML.out; omega))
          clear HQ
          go_wp2_with fail
          go_ret
          exact ⟨⟨_, rfl, by rw [HF.out]; rfl⟩, HX.out.below⟩
end Go.Proofs.YtapjfocjeligiaaGreatDoor
namespace Go.Proofs.YtapjfocjeligiaaGreatDoor
open Go.RowKit Go.Shelf Go.Sort
set_option linter.unusedVariables false
set_option linter.unusedSimpArgs false
attribute [local go_sem] Oper.semAt_some

theorem agObs_ne {f : VT → TT → Er} {V : VT} {os : List OB} (h : ¬ os.length = 1) : agObs f V os = if os.any (fun o => (agOb f V o).isNone) then none else some ([], 7) := by
  match os, h with
  | [], _ => rfl
  | [o], h => exact absurd rfl h
  | o :: p :: r, _ => rfl
theorem agObs_one {f : VT → TT → Er} {V : VT} {os : List OB} (h : os.length = 1) : agObs f V os = agOb f V (os[0]'(by omega)) := by
  match os, h with
  | [o], _ => rfl

set_option maxRecDepth 100000 in
set_option maxHeartbeats 12800000 in
theorem w_agObjs (h : Nat) (ih : AgOk h) (hv : Nat) (V : VT) (os : List OB) (kd : Int) (nm tx : ByteArray) (io : Option Addr) (NI icap : Nat) (vo : Option Addr) (NK vcap : Nat) (oo : Option Addr) (NO oc : Nat) (w : World)
    (hI : InH w (hv + 1) V (.agg #[.int .i64 kd, .string nm, .string tx, .slice io NI icap, .slice vo NK vcap])) (hf : formN (hv + 1) V = true) (h6 : V.kind = 6) (hO : ObIn w h oo os) (hN : os.length = NO) (hc : NO ≤ oc) (hN2 : NO ≤ 140737488355328) (hob : ∀ o ∈ os, obOk (fmN h) o = true) (ht : Tab2 w) :
    Calls Tryz.prog 40 #[.agg #[.int .i64 kd, .string nm, .string tx, .slice io NI icap, .slice vo NK vcap], .slice oo NO oc] w fun e w' => (∃ v, e = .returned v ∧ ErV w' (agObs (agN h) V os) v) ∧ Below w.heap.size w w' := by
  have HOR := Hid.mk hO
  have HNO := Hid.mk hN
  have HOB := Hid.mk hob
  have HCO := Hid.mk (fun (o : OB) (ho : o ∈ os) (N : Nat) (ko : Option Addr) (kc : Nat) (fo : Option Addr) (fc : Nat) (mo : Option Addr) (mc : Nat) (sa sb sc sd : Bool) (seo : Option Addr) (sen sec : Nat) (sf : Bool) (sgo : Option Addr) (sgn sgc : Nat) (sio : Option Addr) (sinn sic : Nat) (sjo : Option Addr) (sjn sjc : Nat) (u : World) (hu : Below w.heap.size w u) (hoo : InO u h o ko kc fo fc mo mc (.bool sa) (.bool sb) (.bool sc) (.bool sd) (.slice seo sen sec) (.bool sf) (.slice sgo sgn sgc) (.slice sio sinn sic) (.slice sjo sjn sjc)) (hNN : o.names.length = N) => w_agObj h ih hv V o N kd nm tx io NI icap vo NK vcap ko kc fo fc mo mc sa sb sc sd seo sen sec sf sgo sgn sgc sio sinn sic sjo sjn sjc u (hI.keep hu) hf h6 hoo hNN (hob o ho) (ht.keep hu))
  have HH7 := Hid.mk (fun u => w_here 7 u)
  obtain ⟨R, hR⟩ : ∃ R, agObs (agN h) V os = R := ⟨_, rfl⟩
  rw [hR]
  have HX := Hid.mk (bx1_new w #[.int .i64 kd, .string nm, .string tx, .slice io NI icap, .slice vo NK vcap] 37)
  obtain ⟨W0, hW0⟩ : ∃ W0, w.alloc (.cells #[.int .i64 kd, .string nm, .string tx, .slice io NI icap, .slice vo NK vcap] 37) = W0 := ⟨_, rfl⟩
  rw [hW0] at HX
  by_cases h1 : NO = 1
  · have hN1 : os.length = 1 := by omega
    have HF : Hid (R = agOb (agN h) V (os[0]'(by omega))) := by show _ = _; rw [← hR]; exact agObs_one hN1
    have hn1 : ((NO : Int) == 1) = true := by rw [h1]; rfl
    have hn2 : (0 : Int) < (NO : Int) := by omega
    have hn3 : (NO : Int) = 1 := by omega
    obtain ⟨b, off, hio, hbl, hrow⟩ := (HOR.out.keep HX.out.below).row (by omega)
    subst hio
    obtain ⟨k, hk0⟩ : ∃ k : Nat, k = 0 := ⟨0, rfl⟩
    have hkl : k < os.length := by omega
    obtain ⟨ko, kc, fo, fc, mo, mc, c0, c1, c2, c3, c4, c5, c6, c7, c8, ⟨x0, x1, x2⟩, ⟨x3, x4, x5, x6, x7, x8, x9, x10, x11⟩, hoo⟩ := hrow k hkl
    have HOO := hoo.rest
    obtain ⟨sa, sb, sc, sd, ⟨seo, sen, sec⟩, sf, ⟨sgo, sgn, sgc⟩, ⟨sio, sinn, sic⟩, ⟨sjo, sjn, sjc⟩, eshs⟩ := inT_shape HOO
    simp only [Value.agg.injEq, Array.mk.injEq, List.cons.injEq, and_true] at eshs
    obtain ⟨rfl, rfl, rfl, rfl, rfl, rfl, rfl, rfl, rfl⟩ := eshs
    have l1 := (ob_open (HOB.out _ (List.getElem_mem hkl))).1
    have l2 := (ob_open (HOB.out _ (List.getElem_mem hkl))).2.1
    obtain ⟨N, hNN⟩ : ∃ N, os[k].names.length = N := ⟨_, rfl⟩
    rw [← l1, hNN] at x1
    rw [← l2, hNN] at x2
    rw [hNN] at x0
    have HC := Hid.mk (fun u (hu : Below W0.heap.size W0 u) => HCO.out os[k] (List.getElem_mem hkl) N ko kc fo fc mo mc sa sb sc sd seo sen sec sf sgo sgn sgc sio sinn sic sjo sjn sjc u (HX.out.below.trans (hu.mono HX.out.below.size)) (hoo.keep hu) hNN)
    have HF2 : Hid (R = agOb (agN h) V os[k]) := by show _ = _; rw [HF.out]; simp only [hk0]
    rw [← HF2.out] at HC
    have p0 : W0.cell? ⟨w.heap.size, 0, none⟩ = some (.int .i64 kd) := HX.out.one 0
    have p1 : W0.cell? ⟨w.heap.size, 1, none⟩ = some (.string nm) := HX.out.one 1
    have p2 : W0.cell? ⟨w.heap.size, 2, none⟩ = some (.string tx) := HX.out.one 2
    have p3 : W0.cell? ⟨w.heap.size, 3, none⟩ = some (.slice io NI icap) := HX.out.one 3
    have p4 : W0.cell? ⟨w.heap.size, 4, none⟩ = some (.slice vo NK vcap) := HX.out.one 4
    have HSS : Hid (∀ u, Below W0.heap.size W0 u → u.cell? ⟨w.heap.size, 0, none⟩ = some (.int .i64 kd) ∧ u.cell? ⟨w.heap.size, 1, none⟩ = some (.string nm) ∧ u.cell? ⟨w.heap.size, 2, none⟩ = some (.string tx) ∧ u.cell? ⟨w.heap.size, 3, none⟩ = some (.slice io NI icap) ∧ u.cell? ⟨w.heap.size, 4, none⟩ = some (.slice vo NK vcap) ∧ u.cell? ⟨b, off + k * 12, none⟩ = some (.slice ko N kc) ∧ u.cell? ⟨b, off + k * 12 + 1, none⟩ = some (.slice fo N fc) ∧ u.cell? ⟨b, off + k * 12 + 2, none⟩ = some (.slice mo N mc) ∧ u.cell? ⟨b, off + k * 12 + 3, none⟩ = some (.bool sa) ∧ u.cell? ⟨b, off + k * 12 + 4, none⟩ = some (.bool sb) ∧ u.cell? ⟨b, off + k * 12 + 5, none⟩ = some (.bool sc) ∧ u.cell? ⟨b, off + k * 12 + 6, none⟩ = some (.bool sd) ∧ u.cell? ⟨b, off + k * 12 + 7, none⟩ = some (.slice seo sen sec) ∧ u.cell? ⟨b, off + k * 12 + 8, none⟩ = some (.bool sf) ∧ u.cell? ⟨b, off + k * 12 + 9, none⟩ = some (.slice sgo sgn sgc) ∧ u.cell? ⟨b, off + k * 12 + 10, none⟩ = some (.slice sio sinn sic) ∧ u.cell? ⟨b, off + k * 12 + 11, none⟩ = some (.slice sjo sjn sjc)) := fun u hu => ⟨(hu.cell (p := ⟨_, _, _⟩) (World.block_lt_of_cell? _ _ p0)).trans p0, (hu.cell (p := ⟨_, _, _⟩) (World.block_lt_of_cell? _ _ p1)).trans p1, (hu.cell (p := ⟨_, _, _⟩) (World.block_lt_of_cell? _ _ p2)).trans p2, (hu.cell (p := ⟨_, _, _⟩) (World.block_lt_of_cell? _ _ p3)).trans p3, (hu.cell (p := ⟨_, _, _⟩) (World.block_lt_of_cell? _ _ p4)).trans p4, (hu.cell (p := ⟨_, _, _⟩) (World.block_lt_of_cell? _ _ x0)).trans x0, (hu.cell (p := ⟨_, _, _⟩) (World.block_lt_of_cell? _ _ x1)).trans x1, (hu.cell (p := ⟨_, _, _⟩) (World.block_lt_of_cell? _ _ x2)).trans x2, (hu.cell (p := ⟨_, _, _⟩) (World.block_lt_of_cell? _ _ x3)).trans x3, (hu.cell (p := ⟨_, _, _⟩) (World.block_lt_of_cell? _ _ x4)).trans x4, (hu.cell (p := ⟨_, _, _⟩) (World.block_lt_of_cell? _ _ x5)).trans x5, (hu.cell (p := ⟨_, _, _⟩) (World.block_lt_of_cell? _ _ x6)).trans x6, (hu.cell (p := ⟨_, _, _⟩) (World.block_lt_of_cell? _ _ x7)).trans x7, (hu.cell (p := ⟨_, _, _⟩) (World.block_lt_of_cell? _ _ x8)).trans x8, (hu.cell (p := ⟨_, _, _⟩) (World.block_lt_of_cell? _ _ x9)).trans x9, (hu.cell (p := ⟨_, _, _⟩) (World.block_lt_of_cell? _ _ x10)).trans x10, (hu.cell (p := ⟨_, _, _⟩) (World.block_lt_of_cell? _ _ x11)).trans x11⟩
    subst hk0
    clear hrow hoo HOO hNN l1 l2 hkl HF HF2 hN1 h1 hR hI hf h6 hO hN hob ht ih p0 p1 p2 p3 p4 x0 x1 x2 x3 x4 x5 x6 x7 x8 x9 x10 x11
    have HD := Hid.mk ((Below.refl W0.heap.size W0).drew)
    go_enter Tryz.func40, Tryz.ntmps40
    go_wp2_with fail
    refine wp_region_held_drew (S := fun u => u.cell? ⟨w.heap.size, 0, none⟩ = some (.int .i64 kd) ∧ u.cell? ⟨w.heap.size, 1, none⟩ = some (.string nm) ∧ u.cell? ⟨w.heap.size, 2, none⟩ = some (.string tx) ∧ u.cell? ⟨w.heap.size, 3, none⟩ = some (.slice io NI icap) ∧ u.cell? ⟨w.heap.size, 4, none⟩ = some (.slice vo NK vcap) ∧ u.cell? ⟨b, off, none⟩ = some (.slice ko N kc) ∧ u.cell? ⟨b, off + 1, none⟩ = some (.slice fo N fc) ∧ u.cell? ⟨b, off + 2, none⟩ = some (.slice mo N mc) ∧ u.cell? ⟨b, off + 3, none⟩ = some (.bool sa) ∧ u.cell? ⟨b, off + 4, none⟩ = some (.bool sb) ∧ u.cell? ⟨b, off + 5, none⟩ = some (.bool sc) ∧ u.cell? ⟨b, off + 6, none⟩ = some (.bool sd) ∧ u.cell? ⟨b, off + 7, none⟩ = some (.slice seo sen sec) ∧ u.cell? ⟨b, off + 8, none⟩ = some (.bool sf) ∧ u.cell? ⟨b, off + 9, none⟩ = some (.slice sgo sgn sgc) ∧ u.cell? ⟨b, off + 10, none⟩ = some (.slice sio sinn sic) ∧ u.cell? ⟨b, off + 11, none⟩ = some (.slice sjo sjn sjc)) (by kernel_rfl) (HSS.out _ HD.out) (fun hHeld => ?_)
    refine wpAnyH_take (i := 0) (oi := _) (v := .agg #[.int .i64 kd, .string nm, .string tx, .slice io NI icap, .slice vo NK vcap]) rfl (by kernel_rfl) (by kernel_rfl) (by kernel_rfl) (fun _ _ _ h => h) (Or.inl ⟨by rfl, ?_⟩) (by assumption) ?_
    · intro w hSw
      go_simp
    try simp only [Act.put, List.getElem_toArray, List.getElem_cons_succ, List.getElem_cons_zero, List.setIfInBounds_toArray, List.set_cons_zero, List.set_cons_succ]
    refine wpAnyH_take (i := 1) (oi := _) (v := .slice (some ⟨b, off, none⟩) NO oc) rfl (by kernel_rfl) (by kernel_rfl) (by kernel_rfl) (fun _ _ _ h => h) (Or.inl ⟨by rfl, ?_⟩) (by assumption) ?_
    · intro w hSw
      go_simp
    try simp only [Act.put, List.getElem_toArray, List.getElem_cons_succ, List.getElem_cons_zero, List.setIfInBounds_toArray, List.set_cons_zero, List.set_cons_succ]
    refine wpAnyH_take (i := 2) (oi := _) (v := .pointer (some ⟨b, off, none⟩)) rfl (by kernel_rfl) (by kernel_rfl) (by kernel_rfl) (fun _ _ _ h => h) (Or.inl ⟨by rfl, ?_⟩) (by assumption) ?_
    · intro w hSw
      go_simp
    try simp only [Act.put, List.getElem_toArray, List.getElem_cons_succ, List.getElem_cons_zero, List.setIfInBounds_toArray, List.set_cons_zero, List.set_cons_succ]
    refine wpAnyH_take (i := 3) (oi := _) (v := .agg #[.slice ko N kc, .slice fo N fc, .slice mo N mc, .bool sa, .bool sb, .bool sc, .bool sd, .slice seo sen sec, .bool sf, .slice sgo sgn sgc, .slice sio sinn sic, .slice sjo sjn sjc]) rfl (by kernel_rfl) (by kernel_rfl) (by kernel_rfl) (fun _ _ _ h => h) (Or.inl ⟨by rfl, ?_⟩) (by assumption) ?_
    · intro w hSw
      go_simp
    try simp only [Act.put, List.getElem_toArray, List.getElem_cons_succ, List.getElem_cons_zero, List.setIfInBounds_toArray, List.set_cons_zero, List.set_cons_succ]
    refine wpAnyH_ready (rs := [4]) (by kernel_rfl) (by simp) ?_
    refine AllReadyH.cons (o := _) rfl (fun K hK => ?_) AllReadyH.nil
    go_simp
    go_at_call 64
    refine (HC.out _ HD.out).mono ?_
    rintro e w5 ⟨⟨x, rfl, hx⟩, hq⟩
    have HB5 := Hid.mk (HD.out.trans (hq.mono HD.out.size))
    have HE := Hid.mk hx
    clear hq hx
    go_wp2_with fail
    refine hK.out _ _ (HSS.out _ HB5.out) (fun hHeld => ?_)
    clear hK K
    try simp only [Act.put, List.getElem_toArray, List.getElem_cons_succ, List.getElem_cons_zero, List.setIfInBounds_toArray, List.set_cons_zero, List.set_cons_succ]
    refine wpAnyH_ready (rs := [5]) (by kernel_rfl) (by simp) ?_
    refine AllReadyH.cons (o := _) rfl (fun K hK => ?_) AllReadyH.nil
    go_simp
    refine hK.out _ _ (HSS.out _ HB5.out) (fun hHeld => ?_)
    clear hK K
    try simp only [Act.put, List.getElem_toArray, List.getElem_cons_succ, List.getElem_cons_zero, List.setIfInBounds_toArray, List.set_cons_zero, List.set_cons_succ]
    refine wpAnyH_done (by kernel_rfl) ?_ _
    try simp only [Act.put, List.getElem_toArray, List.getElem_cons_succ, List.getElem_cons_zero, List.setIfInBounds_toArray, List.set_cons_zero, List.set_cons_succ]
    have HX5 := Hid.mk (HX.out.keep HB5.out)
    clear hHeld HSS HC
    go_wp2_with fail
    go_ret
    exact ⟨⟨_, rfl, HE.out⟩, HX5.out.below⟩
  · have HR2 : Hid (R = if os.any (fun o => (agOb (agN h) V o).isNone) then none else some ([], 7)) := by show _ = _; rw [← hR]; exact agObs_ne (by omega)
    have hn1 : ((NO : Int) == 1) = false := by rw [beq_eq_false_iff_ne]; omega
    have hn3 : ¬ (NO : Int) = 1 := by omega
    clear hR hI hf h6 hO hN hob ht ih h1
    go_enter Tryz.func40, Tryz.ntmps40
    go_wp2_with fail
    go_loopw [17] (fun i wr => ∃ k : Nat, k ≤ NO ∧ i = .int .i64 (k : Int) ∧ Hid (Bx1 w wr #[.int .i64 kd, .string nm, .string tx, .slice io NI icap, .slice vo NK vcap]) ∧ Hid (∀ j, (hj : j < os.length) → j < k → (agOb (agN h) V os[j]).isNone = false)) (fun i _ => NO - (intOf i).toNat)
    case atStart => exact ⟨0, Nat.zero_le _, rfl, HX, fun j _ hj => absurd hj (Nat.not_lt_zero _)⟩
    case round =>
      clear HX
      obtain ⟨k, hk, rfl, HX, HQ⟩ := hrel
      by_cases hlt : k < NO
      · have hl1 : (k : Int) < (NO : Int) := by omega
        have hl0 : (0 : Int) ≤ (k : Int) := by omega
        have hkl : k < os.length := by rw [HNO.out]; exact hlt
        obtain ⟨b, off, hio, hbl, hrow⟩ := (HOR.out.keep HX.out.below).row (by omega)
        subst hio
        obtain ⟨ko, kc, fo, fc, mo, mc, c0, c1, c2, c3, c4, c5, c6, c7, c8, ⟨x0, x1, x2⟩, ⟨x3, x4, x5, x6, x7, x8, x9, x10, x11⟩, hoo⟩ := hrow k hkl
        have HOO := hoo.rest
        obtain ⟨sa, sb, sc, sd, ⟨seo, sen, sec⟩, sf, ⟨sgo, sgn, sgc⟩, ⟨sio, sinn, sic⟩, ⟨sjo, sjn, sjc⟩, eshs⟩ := inT_shape HOO
        simp only [Value.agg.injEq, Array.mk.injEq, List.cons.injEq, and_true] at eshs
        obtain ⟨rfl, rfl, rfl, rfl, rfl, rfl, rfl, rfl, rfl⟩ := eshs
        have l1 := (ob_open (HOB.out _ (List.getElem_mem hkl))).1
        have l2 := (ob_open (HOB.out _ (List.getElem_mem hkl))).2.1
        obtain ⟨N, hNN⟩ : ∃ N, os[k].names.length = N := ⟨_, rfl⟩
        rw [← l1, hNN] at x1
        rw [← l2, hNN] at x2
        rw [hNN] at x0
        obtain ⟨W1, hW1⟩ : ∃ W1, wr.alloc (.cells #[.slice ko N kc, .slice fo N fc, .slice mo N mc, .bool sa, .bool sb, .bool sc, .bool sd, .slice seo sen sec, .bool sf, .slice sgo sgn sgc, .slice sio sinn sic, .slice sjo sjn sjc] 60) = W1 := ⟨_, rfl⟩
        have hB1 : Below wr.heap.size wr W1 := by rw [← hW1]; exact below1 wr _
        have HX1 := Hid.mk (HX.out.keep hB1)
        have p0 : W1.cell? ⟨w.heap.size, 0, none⟩ = some (.int .i64 kd) := HX1.out.one 0
        have p1 : W1.cell? ⟨w.heap.size, 1, none⟩ = some (.string nm) := HX1.out.one 1
        have p2 : W1.cell? ⟨w.heap.size, 2, none⟩ = some (.string tx) := HX1.out.one 2
        have p3 : W1.cell? ⟨w.heap.size, 3, none⟩ = some (.slice io NI icap) := HX1.out.one 3
        have p4 : W1.cell? ⟨w.heap.size, 4, none⟩ = some (.slice vo NK vcap) := HX1.out.one 4
        have y0 : W1.cell? ⟨wr.heap.size, 0, none⟩ = some (.slice ko N kc) := by rw [← hW1]; simp [go_sem]
        have y1 : W1.cell? ⟨wr.heap.size, 1, none⟩ = some (.slice fo N fc) := by rw [← hW1]; simp [go_sem]
        have y2 : W1.cell? ⟨wr.heap.size, 2, none⟩ = some (.slice mo N mc) := by rw [← hW1]; simp [go_sem]
        have y3 : W1.cell? ⟨wr.heap.size, 3, none⟩ = some (.bool sa) := by rw [← hW1]; simp [go_sem]
        have y4 : W1.cell? ⟨wr.heap.size, 4, none⟩ = some (.bool sb) := by rw [← hW1]; simp [go_sem]
        have y5 : W1.cell? ⟨wr.heap.size, 5, none⟩ = some (.bool sc) := by rw [← hW1]; simp [go_sem]
        have y6 : W1.cell? ⟨wr.heap.size, 6, none⟩ = some (.bool sd) := by rw [← hW1]; simp [go_sem]
        have y7 : W1.cell? ⟨wr.heap.size, 7, none⟩ = some (.slice seo sen sec) := by rw [← hW1]; simp [go_sem]
        have y8 : W1.cell? ⟨wr.heap.size, 8, none⟩ = some (.bool sf) := by rw [← hW1]; simp [go_sem]
        have y9 : W1.cell? ⟨wr.heap.size, 9, none⟩ = some (.slice sgo sgn sgc) := by rw [← hW1]; simp [go_sem]
        have y10 : W1.cell? ⟨wr.heap.size, 10, none⟩ = some (.slice sio sinn sic) := by rw [← hW1]; simp [go_sem]
        have y11 : W1.cell? ⟨wr.heap.size, 11, none⟩ = some (.slice sjo sjn sjc) := by rw [← hW1]; simp [go_sem]
        have HC := Hid.mk (HCO.out os[k] (List.getElem_mem hkl) N ko kc fo fc mo mc sa sb sc sd seo sen sec sf sgo sgn sgc sio sinn sic sjo sjn sjc W1 HX1.out.below (hoo.keep hB1) hNN)
        have HNx : Hid ((agOb (agN h) V os[k]).isNone = false → ∀ j, (hj : j < os.length) → j < k + 1 → (agOb (agN h) V os[j]).isNone = false) := fun hh j hj hj2 => by
          by_cases e : j = k
          · subst e; exact hh
          · exact HQ.out j hj (by omega)
        have HAt : Hid ((agOb (agN h) V os[k]).isNone = true → R = none) := fun hh => by rw [HR2.out, any_yes (f := fun o => (agOb (agN h) V o).isNone) hkl hh]; rfl
        obtain ⟨r, hr⟩ : ∃ r, agOb (agN h) V os[k] = r := ⟨_, rfl⟩
        rw [hr] at HC HNx HAt
        clear hr hrow hoo HOO hNN l1 l2 hkl hB1 hbl
        cases r with
        | none =>
          have HF := Hid.mk (HAt.out rfl)
          clear HNx HAt HQ
          go_wp2_with fail
          refine HC.out.mono ?_
          rintro e w2 ⟨⟨x, rfl, hx⟩, hb2⟩
          obtain rfl : x = .nilIface := hx
          have HX2 := Hid.mk (HX1.out.keep hb2)
          clear hb2 p0 p1 p2 p3 p4 y0 y1 y2 y3 y4 y5 y6 y7 y8 y9 y10 y11 x0 x1 x2 x3 x4 x5 x6 x7 x8 x9 x10 x11
          go_wp2_with fail
          go_ret
          exact ⟨⟨_, rfl, by rw [HF.out]; rfl⟩, HX2.out.below⟩
        | some q =>
          have HN := Hid.mk (HNx.out rfl)
          clear HNx HAt HQ
          go_wp2_with fail
          refine HC.out.mono ?_
          rintro e w2 ⟨⟨x, rfl, hx⟩, hb2⟩
          have HX2 := Hid.mk (HX1.out.keep hb2)
          obtain ⟨t, b2, rfl, hx⟩ := hx
          clear hx hb2 p0 p1 p2 p3 p4 y0 y1 y2 y3 y4 y5 y6 y7 y8 y9 y10 y11 x0 x1 x2 x3 x4 x5 x6 x7 x8 x9 x10 x11
          go_wp2_with fail
          go_roundw
          case rel => exact ⟨k + 1, hlt, by go_num, HX2, HN⟩
          case measure => simp [intOf]; omega
      · have hl1 : ¬ (k : Int) < (NO : Int) := by omega
        have HF : Hid (R = some ([], 7)) := by
          show _ = _
          rw [HR2.out, if_neg]
          rw [Bool.not_eq_true, List.any_eq_false]
          intro o ho
          obtain ⟨j, hj, rfl⟩ := List.getElem_of_mem ho
          rw [HQ.out j hj (by have := HNO.out; omega)]
          simp
        clear HQ
        go_wp2_with fail
        refine (HH7.out _).mono ?_
        rintro e v3 ⟨⟨x, rfl, hx⟩, hq⟩
        have HE := Hid.mk hx
        have HB := Hid.mk (HX.out.keep hq).below
        clear hq hx
        go_wp2_with fail
        go_ret
        exact ⟨⟨_, rfl, by rw [HF.out]; exact HE.out⟩, HB.out⟩
end Go.Proofs.YtapjfocjeligiaaGreatDoor
namespace Go.Proofs.YtapjfocjeligiaaGreatDoor
open Go.RowKit Go.Shelf Go.Sort
set_option linter.unusedVariables false
set_option linter.unusedSimpArgs false
attribute [local go_sem] Oper.semAt_some

theorem kbit0 : ∀ b0 b1 b2 b3 b4 b5 b6 : Bool, (bits .and .u8 (kvL [b0, b1, b2, b3, b4, b5, b6]) 1 == 0) = !b0 := by decide +kernel
theorem kbit1 : ∀ b0 b1 b2 b3 b4 b5 b6 : Bool, (bits .and .u8 (kvL [b0, b1, b2, b3, b4, b5, b6] / 2) 1 == 0) = !b1 := by decide +kernel
theorem kbit2 : ∀ b0 b1 b2 b3 b4 b5 b6 : Bool, (bits .and .u8 (kvL [b0, b1, b2, b3, b4, b5, b6] / 4) 1 == 0) = !b2 := by decide +kernel
theorem kbit3 : ∀ b0 b1 b2 b3 b4 b5 b6 : Bool, (bits .and .u8 (kvL [b0, b1, b2, b3, b4, b5, b6] / 8) 1 == 0) = !b3 := by decide +kernel
theorem kbit4 : ∀ b0 b1 b2 b3 b4 b5 b6 : Bool, (bits .and .u8 (kvL [b0, b1, b2, b3, b4, b5, b6] / 16) 1 == 0) = !b4 := by decide +kernel
theorem kbit5 : ∀ b0 b1 b2 b3 b4 b5 b6 : Bool, (bits .and .u8 (kvL [b0, b1, b2, b3, b4, b5, b6] / 32) 1 == 0) = !b5 := by decide +kernel
theorem kbit6 : ∀ b0 b1 b2 b3 b4 b5 b6 : Bool, (bits .and .u8 (kvL [b0, b1, b2, b3, b4, b5, b6] / 64) 1 == 0) = !b6 := by decide +kernel

set_option maxRecDepth 100000 in
set_option maxHeartbeats 6400000 in
theorem ag_all (kd : Int) (nm tx : ByteArray) (io : Option Addr) (NI icap : Nat) (vo : Option Addr) (NK vcap : Nat) (sb sc sd : Bool) (seo : Option Addr) (sen sec : Nat) (sf : Bool) (sgo : Option Addr) (sgn sgc : Nat) (sio : Option Addr) (sinn sic : Nat) (sjo : Option Addr) (sjn sjc : Nat) (w : World) :
    Calls Tryz.prog 20 #[.agg #[.int .i64 kd, .string nm, .string tx, .slice io NI icap, .slice vo NK vcap], .agg #[.bool true, .bool sb, .bool sc, .bool sd, .slice seo sen sec, .bool sf, .slice sgo sgn sgc, .slice sio sinn sic, .slice sjo sjn sjc]] w fun e w' => (∃ v, e = .returned v ∧ ErV w' (none) v) ∧ Below w.heap.size w w' := by
  have HX := Hid.mk (bx2_two w #[.int .i64 kd, .string nm, .string tx, .slice io NI icap, .slice vo NK vcap] #[.bool true, .bool sb, .bool sc, .bool sd, .slice seo sen sec, .bool sf, .slice sgo sgn sgc, .slice sio sinn sic, .slice sjo sjn sjc] 37 29)
  obtain ⟨W0, hW0⟩ : ∃ W0, (w.alloc (.cells #[.int .i64 kd, .string nm, .string tx, .slice io NI icap, .slice vo NK vcap] 37)).alloc (.cells #[.bool true, .bool sb, .bool sc, .bool sd, .slice seo sen sec, .bool sf, .slice sgo sgn sgc, .slice sio sinn sic, .slice sjo sjn sjc] 29) = W0 := ⟨_, rfl⟩
  rw [hW0] at HX
  have q0 : W0.cell? ⟨w.heap.size + 1, 0, none⟩ = some (.bool true) := HX.out.two 0
  go_enter Tryz.func20, Tryz.ntmps20
  go_wp2_with fail
  go_ret
  exact ⟨⟨_, rfl, rfl⟩, HX.out.below⟩

set_option maxRecDepth 100000 in
set_option maxHeartbeats 6400000 in
theorem ag_k0 (n : Int) (nm tx : ByteArray) (io : Option Addr) (NI icap : Nat) (vo : Option Addr) (NK vcap : Nat) (sb sc sd : Bool) (seo : Option Addr) (sen sec : Nat) (sf : Bool) (sgo : Option Addr) (sgn sgc : Nat) (sio : Option Addr) (sinn sic : Nat) (sjo : Option Addr) (sjn sjc : Nat) (w : World) (R : Er) (kb : Bool)
    (HK : Hid (∀ u, Below w.heap.size w u → Calls Tryz.prog 35 #[.agg #[.bool false, .bool sb, .bool sc, .bool sd, .slice seo sen sec, .bool sf, .slice sgo sgn sgc, .slice sio sinn sic, .slice sjo sjn sjc]] u fun e w' => e = .returned (.int .u8 n) ∧ Below u.heap.size u w')) (HBit : Hid ((bits BinOp.and IntKind.u8 n 1 == 0) = !kb)) (HR0 : Hid (kb = false → R = some ([], 1))) (HR1 : Hid (kb = true → R = none)) :
    Calls Tryz.prog 20 #[.agg #[.int .i64 0, .string nm, .string tx, .slice io NI icap, .slice vo NK vcap], .agg #[.bool false, .bool sb, .bool sc, .bool sd, .slice seo sen sec, .bool sf, .slice sgo sgn sgc, .slice sio sinn sic, .slice sjo sjn sjc]] w fun e w' => (∃ v, e = .returned v ∧ ErV w' (R) v) ∧ Below w.heap.size w w' := by
  have HX := Hid.mk (bx2_two w #[.int .i64 0, .string nm, .string tx, .slice io NI icap, .slice vo NK vcap] #[.bool false, .bool sb, .bool sc, .bool sd, .slice seo sen sec, .bool sf, .slice sgo sgn sgc, .slice sio sinn sic, .slice sjo sjn sjc] 37 29)
  obtain ⟨W0, hW0⟩ : ∃ W0, (w.alloc (.cells #[.int .i64 0, .string nm, .string tx, .slice io NI icap, .slice vo NK vcap] 37)).alloc (.cells #[.bool false, .bool sb, .bool sc, .bool sd, .slice seo sen sec, .bool sf, .slice sgo sgn sgc, .slice sio sinn sic, .slice sjo sjn sjc] 29) = W0 := ⟨_, rfl⟩
  rw [hW0] at HX
  have HC := Hid.mk (fun (d : Nat) (os : Array Obj) => HK.out (grow (redrawn W0 d) os) (HX.out.below.trans ((below_regrown W0 d os).mono HX.out.below.size)))
  have HH := Hid.mk (fun u => w_here 1 u)
  have p0 : W0.cell? ⟨w.heap.size, 0, none⟩ = some (.int .i64 0) := HX.out.one 0
  have Ap0 := fun d os => cell_regrown p0 d os
  have q0 : W0.cell? ⟨w.heap.size + 1, 0, none⟩ = some (.bool false) := HX.out.two 0
  have Aq0 := fun d os => cell_regrown q0 d os
  have q1 : W0.cell? ⟨w.heap.size + 1, 1, none⟩ = some (.bool sb) := HX.out.two 1
  have Aq1 := fun d os => cell_regrown q1 d os
  have q2 : W0.cell? ⟨w.heap.size + 1, 2, none⟩ = some (.bool sc) := HX.out.two 2
  have Aq2 := fun d os => cell_regrown q2 d os
  have q3 : W0.cell? ⟨w.heap.size + 1, 3, none⟩ = some (.bool sd) := HX.out.two 3
  have Aq3 := fun d os => cell_regrown q3 d os
  have q4 : W0.cell? ⟨w.heap.size + 1, 4, none⟩ = some (.slice seo sen sec) := HX.out.two 4
  have Aq4 := fun d os => cell_regrown q4 d os
  have q5 : W0.cell? ⟨w.heap.size + 1, 5, none⟩ = some (.bool sf) := HX.out.two 5
  have Aq5 := fun d os => cell_regrown q5 d os
  have q6 : W0.cell? ⟨w.heap.size + 1, 6, none⟩ = some (.slice sgo sgn sgc) := HX.out.two 6
  have Aq6 := fun d os => cell_regrown q6 d os
  have q7 : W0.cell? ⟨w.heap.size + 1, 7, none⟩ = some (.slice sio sinn sic) := HX.out.two 7
  have Aq7 := fun d os => cell_regrown q7 d os
  have q8 : W0.cell? ⟨w.heap.size + 1, 8, none⟩ = some (.slice sjo sjn sjc) := HX.out.two 8
  have Aq8 := fun d os => cell_regrown q8 d os
  go_enter Tryz.func20, Tryz.ntmps20
  go_wp2_with fail
  refine wp_region_quiet_below (by kernel_rfl) (by kernel_rfl) ?_
  repeat (go_big_quiet_step (exact Calls.regrown_of (HC.out _ _)))
  refine wpQuiet_nil ?_
  intro w9 hw'
  have hbw9 : Below W0.heap.size W0 w9 := by
    obtain ⟨⟨dq, osq⟩, rfl⟩ := hw'
    exact below_regrown W0 dq osq
  clear hw'
  have HX9 := Hid.mk (HX.out.keep hbw9)
  clear hbw9 p0 Ap0 q0 Aq0 q1 Aq1 q2 Aq2 q3 Aq3 q4 Aq4 q5 Aq5 q6 Aq6 q7 Aq7 q8 Aq8 hW0 HX HC HK
  rw [HBit.out]
  clear HBit
  have p0 : w9.cell? ⟨w.heap.size, 0, none⟩ = some (.int .i64 0) := HX9.out.one 0
  cases kb with
  | false =>
    have HF := Hid.mk (HR0.out rfl)
    clear HR0 HR1
    go_wp2_with fail
    refine (HH.out _).mono ?_
    rintro e v3 ⟨⟨x, rfl, hx⟩, hq⟩
    have HE := Hid.mk hx
    have HB := Hid.mk (HX9.out.keep hq).below
    clear hq hx
    go_wp2_with fail
    go_ret
    exact ⟨⟨_, rfl, by rw [HF.out]; exact HE.out⟩, HB.out⟩
  | true =>
    have HF := Hid.mk (HR1.out rfl)
    clear HR0 HR1
    go_wp2_with fail
    go_ret
    exact ⟨⟨_, rfl, by rw [HF.out]; rfl⟩, HX9.out.below⟩

set_option maxRecDepth 100000 in
set_option maxHeartbeats 6400000 in
theorem ag_k1 (n : Int) (nm tx : ByteArray) (io : Option Addr) (NI icap : Nat) (vo : Option Addr) (NK vcap : Nat) (sb sc sd : Bool) (seo : Option Addr) (sen sec : Nat) (sf : Bool) (sgo : Option Addr) (sgn sgc : Nat) (sio : Option Addr) (sinn sic : Nat) (sjo : Option Addr) (sjn sjc : Nat) (w : World) (R : Er) (kb : Bool)
    (HK : Hid (∀ u, Below w.heap.size w u → Calls Tryz.prog 35 #[.agg #[.bool false, .bool sb, .bool sc, .bool sd, .slice seo sen sec, .bool sf, .slice sgo sgn sgc, .slice sio sinn sic, .slice sjo sjn sjc]] u fun e w' => e = .returned (.int .u8 n) ∧ Below u.heap.size u w')) (HBit : Hid ((bits BinOp.and IntKind.u8 (n / 2) 1 == 0) = !kb)) (HR0 : Hid (kb = false → R = some ([], 1))) (HR1 : Hid (kb = true → R = none)) :
    Calls Tryz.prog 20 #[.agg #[.int .i64 1, .string nm, .string tx, .slice io NI icap, .slice vo NK vcap], .agg #[.bool false, .bool sb, .bool sc, .bool sd, .slice seo sen sec, .bool sf, .slice sgo sgn sgc, .slice sio sinn sic, .slice sjo sjn sjc]] w fun e w' => (∃ v, e = .returned v ∧ ErV w' (R) v) ∧ Below w.heap.size w w' := by
  have HX := Hid.mk (bx2_two w #[.int .i64 1, .string nm, .string tx, .slice io NI icap, .slice vo NK vcap] #[.bool false, .bool sb, .bool sc, .bool sd, .slice seo sen sec, .bool sf, .slice sgo sgn sgc, .slice sio sinn sic, .slice sjo sjn sjc] 37 29)
  obtain ⟨W0, hW0⟩ : ∃ W0, (w.alloc (.cells #[.int .i64 1, .string nm, .string tx, .slice io NI icap, .slice vo NK vcap] 37)).alloc (.cells #[.bool false, .bool sb, .bool sc, .bool sd, .slice seo sen sec, .bool sf, .slice sgo sgn sgc, .slice sio sinn sic, .slice sjo sjn sjc] 29) = W0 := ⟨_, rfl⟩
  rw [hW0] at HX
  have HC := Hid.mk (fun (d : Nat) (os : Array Obj) => HK.out (grow (redrawn W0 d) os) (HX.out.below.trans ((below_regrown W0 d os).mono HX.out.below.size)))
  have HH := Hid.mk (fun u => w_here 1 u)
  have p0 : W0.cell? ⟨w.heap.size, 0, none⟩ = some (.int .i64 1) := HX.out.one 0
  have Ap0 := fun d os => cell_regrown p0 d os
  have q0 : W0.cell? ⟨w.heap.size + 1, 0, none⟩ = some (.bool false) := HX.out.two 0
  have Aq0 := fun d os => cell_regrown q0 d os
  have q1 : W0.cell? ⟨w.heap.size + 1, 1, none⟩ = some (.bool sb) := HX.out.two 1
  have Aq1 := fun d os => cell_regrown q1 d os
  have q2 : W0.cell? ⟨w.heap.size + 1, 2, none⟩ = some (.bool sc) := HX.out.two 2
  have Aq2 := fun d os => cell_regrown q2 d os
  have q3 : W0.cell? ⟨w.heap.size + 1, 3, none⟩ = some (.bool sd) := HX.out.two 3
  have Aq3 := fun d os => cell_regrown q3 d os
  have q4 : W0.cell? ⟨w.heap.size + 1, 4, none⟩ = some (.slice seo sen sec) := HX.out.two 4
  have Aq4 := fun d os => cell_regrown q4 d os
  have q5 : W0.cell? ⟨w.heap.size + 1, 5, none⟩ = some (.bool sf) := HX.out.two 5
  have Aq5 := fun d os => cell_regrown q5 d os
  have q6 : W0.cell? ⟨w.heap.size + 1, 6, none⟩ = some (.slice sgo sgn sgc) := HX.out.two 6
  have Aq6 := fun d os => cell_regrown q6 d os
  have q7 : W0.cell? ⟨w.heap.size + 1, 7, none⟩ = some (.slice sio sinn sic) := HX.out.two 7
  have Aq7 := fun d os => cell_regrown q7 d os
  have q8 : W0.cell? ⟨w.heap.size + 1, 8, none⟩ = some (.slice sjo sjn sjc) := HX.out.two 8
  have Aq8 := fun d os => cell_regrown q8 d os
  go_enter Tryz.func20, Tryz.ntmps20
  go_wp2_with fail
  refine wp_region_quiet_below (by kernel_rfl) (by kernel_rfl) ?_
  repeat (go_big_quiet_step (exact Calls.regrown_of (HC.out _ _)))
  refine wpQuiet_nil ?_
  intro w9 hw'
  have hbw9 : Below W0.heap.size W0 w9 := by
    obtain ⟨⟨dq, osq⟩, rfl⟩ := hw'
    exact below_regrown W0 dq osq
  clear hw'
  have HX9 := Hid.mk (HX.out.keep hbw9)
  clear hbw9 p0 Ap0 q0 Aq0 q1 Aq1 q2 Aq2 q3 Aq3 q4 Aq4 q5 Aq5 q6 Aq6 q7 Aq7 q8 Aq8 hW0 HX HC HK
  rw [HBit.out]
  clear HBit
  have p0 : w9.cell? ⟨w.heap.size, 0, none⟩ = some (.int .i64 1) := HX9.out.one 0
  cases kb with
  | false =>
    have HF := Hid.mk (HR0.out rfl)
    clear HR0 HR1
    go_wp2_with fail
    refine (HH.out _).mono ?_
    rintro e v3 ⟨⟨x, rfl, hx⟩, hq⟩
    have HE := Hid.mk hx
    have HB := Hid.mk (HX9.out.keep hq).below
    clear hq hx
    go_wp2_with fail
    go_ret
    exact ⟨⟨_, rfl, by rw [HF.out]; exact HE.out⟩, HB.out⟩
  | true =>
    have HF := Hid.mk (HR1.out rfl)
    clear HR0 HR1
    go_wp2_with fail
    go_ret
    exact ⟨⟨_, rfl, by rw [HF.out]; rfl⟩, HX9.out.below⟩

set_option maxRecDepth 100000 in
set_option maxHeartbeats 6400000 in
theorem ag_k2 (n : Int) (nm tx : ByteArray) (io : Option Addr) (NI icap : Nat) (vo : Option Addr) (NK vcap : Nat) (sb sc sd : Bool) (seo : Option Addr) (sen sec : Nat) (sf : Bool) (sgo : Option Addr) (sgn sgc : Nat) (sio : Option Addr) (sinn sic : Nat) (sjo : Option Addr) (sjn sjc : Nat) (w : World) (R : Er) (kb : Bool)
    (HK : Hid (∀ u, Below w.heap.size w u → Calls Tryz.prog 35 #[.agg #[.bool false, .bool sb, .bool sc, .bool sd, .slice seo sen sec, .bool sf, .slice sgo sgn sgc, .slice sio sinn sic, .slice sjo sjn sjc]] u fun e w' => e = .returned (.int .u8 n) ∧ Below u.heap.size u w')) (HBit : Hid ((bits BinOp.and IntKind.u8 (n / 4) 1 == 0) = !kb)) (HR0 : Hid (kb = false → R = some ([], 1))) (HR1 : Hid (kb = true → R = none)) :
    Calls Tryz.prog 20 #[.agg #[.int .i64 2, .string nm, .string tx, .slice io NI icap, .slice vo NK vcap], .agg #[.bool false, .bool sb, .bool sc, .bool sd, .slice seo sen sec, .bool sf, .slice sgo sgn sgc, .slice sio sinn sic, .slice sjo sjn sjc]] w fun e w' => (∃ v, e = .returned v ∧ ErV w' (R) v) ∧ Below w.heap.size w w' := by
  have HX := Hid.mk (bx2_two w #[.int .i64 2, .string nm, .string tx, .slice io NI icap, .slice vo NK vcap] #[.bool false, .bool sb, .bool sc, .bool sd, .slice seo sen sec, .bool sf, .slice sgo sgn sgc, .slice sio sinn sic, .slice sjo sjn sjc] 37 29)
  obtain ⟨W0, hW0⟩ : ∃ W0, (w.alloc (.cells #[.int .i64 2, .string nm, .string tx, .slice io NI icap, .slice vo NK vcap] 37)).alloc (.cells #[.bool false, .bool sb, .bool sc, .bool sd, .slice seo sen sec, .bool sf, .slice sgo sgn sgc, .slice sio sinn sic, .slice sjo sjn sjc] 29) = W0 := ⟨_, rfl⟩
  rw [hW0] at HX
  have HC := Hid.mk (fun (d : Nat) (os : Array Obj) => HK.out (grow (redrawn W0 d) os) (HX.out.below.trans ((below_regrown W0 d os).mono HX.out.below.size)))
  have HH := Hid.mk (fun u => w_here 1 u)
  have p0 : W0.cell? ⟨w.heap.size, 0, none⟩ = some (.int .i64 2) := HX.out.one 0
  have Ap0 := fun d os => cell_regrown p0 d os
  have q0 : W0.cell? ⟨w.heap.size + 1, 0, none⟩ = some (.bool false) := HX.out.two 0
  have Aq0 := fun d os => cell_regrown q0 d os
  have q1 : W0.cell? ⟨w.heap.size + 1, 1, none⟩ = some (.bool sb) := HX.out.two 1
  have Aq1 := fun d os => cell_regrown q1 d os
  have q2 : W0.cell? ⟨w.heap.size + 1, 2, none⟩ = some (.bool sc) := HX.out.two 2
  have Aq2 := fun d os => cell_regrown q2 d os
  have q3 : W0.cell? ⟨w.heap.size + 1, 3, none⟩ = some (.bool sd) := HX.out.two 3
  have Aq3 := fun d os => cell_regrown q3 d os
  have q4 : W0.cell? ⟨w.heap.size + 1, 4, none⟩ = some (.slice seo sen sec) := HX.out.two 4
  have Aq4 := fun d os => cell_regrown q4 d os
  have q5 : W0.cell? ⟨w.heap.size + 1, 5, none⟩ = some (.bool sf) := HX.out.two 5
  have Aq5 := fun d os => cell_regrown q5 d os
  have q6 : W0.cell? ⟨w.heap.size + 1, 6, none⟩ = some (.slice sgo sgn sgc) := HX.out.two 6
  have Aq6 := fun d os => cell_regrown q6 d os
  have q7 : W0.cell? ⟨w.heap.size + 1, 7, none⟩ = some (.slice sio sinn sic) := HX.out.two 7
  have Aq7 := fun d os => cell_regrown q7 d os
  have q8 : W0.cell? ⟨w.heap.size + 1, 8, none⟩ = some (.slice sjo sjn sjc) := HX.out.two 8
  have Aq8 := fun d os => cell_regrown q8 d os
  go_enter Tryz.func20, Tryz.ntmps20
  go_wp2_with fail
  refine wp_region_quiet_below (by kernel_rfl) (by kernel_rfl) ?_
  repeat (go_big_quiet_step (exact Calls.regrown_of (HC.out _ _)))
  refine wpQuiet_nil ?_
  intro w9 hw'
  have hbw9 : Below W0.heap.size W0 w9 := by
    obtain ⟨⟨dq, osq⟩, rfl⟩ := hw'
    exact below_regrown W0 dq osq
  clear hw'
  have HX9 := Hid.mk (HX.out.keep hbw9)
  clear hbw9 p0 Ap0 q0 Aq0 q1 Aq1 q2 Aq2 q3 Aq3 q4 Aq4 q5 Aq5 q6 Aq6 q7 Aq7 q8 Aq8 hW0 HX HC HK
  rw [HBit.out]
  clear HBit
  have p0 : w9.cell? ⟨w.heap.size, 0, none⟩ = some (.int .i64 2) := HX9.out.one 0
  cases kb with
  | false =>
    have HF := Hid.mk (HR0.out rfl)
    clear HR0 HR1
    go_wp2_with fail
    refine (HH.out _).mono ?_
    rintro e v3 ⟨⟨x, rfl, hx⟩, hq⟩
    have HE := Hid.mk hx
    have HB := Hid.mk (HX9.out.keep hq).below
    clear hq hx
    go_wp2_with fail
    go_ret
    exact ⟨⟨_, rfl, by rw [HF.out]; exact HE.out⟩, HB.out⟩
  | true =>
    have HF := Hid.mk (HR1.out rfl)
    clear HR0 HR1
    go_wp2_with fail
    go_ret
    exact ⟨⟨_, rfl, by rw [HF.out]; rfl⟩, HX9.out.below⟩

set_option maxRecDepth 100000 in
set_option maxHeartbeats 6400000 in
theorem ag_k3 (n : Int) (nm tx : ByteArray) (io : Option Addr) (NI icap : Nat) (vo : Option Addr) (NK vcap : Nat) (sb sc sd : Bool) (seo : Option Addr) (sen sec : Nat) (sf : Bool) (sgo : Option Addr) (sgn sgc : Nat) (sio : Option Addr) (sinn sic : Nat) (sjo : Option Addr) (sjn sjc : Nat) (w : World) (R : Er) (kb : Bool)
    (HK : Hid (∀ u, Below w.heap.size w u → Calls Tryz.prog 35 #[.agg #[.bool false, .bool sb, .bool sc, .bool sd, .slice seo sen sec, .bool sf, .slice sgo sgn sgc, .slice sio sinn sic, .slice sjo sjn sjc]] u fun e w' => e = .returned (.int .u8 n) ∧ Below u.heap.size u w')) (HBit : Hid ((bits BinOp.and IntKind.u8 (n / 8) 1 == 0) = !kb)) (HR0 : Hid (kb = false → R = some ([], 1))) (nb noff : Nat) (l hh : ByteArray) (hseo : kb = true → seo = some ⟨nb, noff, none⟩ ∧ 0 < sen ∧ w.cell? ⟨nb, noff, none⟩ = some (.string l) ∧ w.cell? ⟨nb, noff + 1, none⟩ = some (.string hh)) (HR1 : Hid (kb = true → ∀ u, Below w.heap.size w u → Calls Tryz.prog 37 #[.string nm, .agg #[.string l, .string hh]] u fun e w' => (∃ v, e = .returned v ∧ ErV w' R v) ∧ Below u.heap.size u w')) :
    Calls Tryz.prog 20 #[.agg #[.int .i64 3, .string nm, .string tx, .slice io NI icap, .slice vo NK vcap], .agg #[.bool false, .bool sb, .bool sc, .bool sd, .slice seo sen sec, .bool sf, .slice sgo sgn sgc, .slice sio sinn sic, .slice sjo sjn sjc]] w fun e w' => (∃ v, e = .returned v ∧ ErV w' (R) v) ∧ Below w.heap.size w w' := by
  have HX := Hid.mk (bx2_two w #[.int .i64 3, .string nm, .string tx, .slice io NI icap, .slice vo NK vcap] #[.bool false, .bool sb, .bool sc, .bool sd, .slice seo sen sec, .bool sf, .slice sgo sgn sgc, .slice sio sinn sic, .slice sjo sjn sjc] 37 29)
  obtain ⟨W0, hW0⟩ : ∃ W0, (w.alloc (.cells #[.int .i64 3, .string nm, .string tx, .slice io NI icap, .slice vo NK vcap] 37)).alloc (.cells #[.bool false, .bool sb, .bool sc, .bool sd, .slice seo sen sec, .bool sf, .slice sgo sgn sgc, .slice sio sinn sic, .slice sjo sjn sjc] 29) = W0 := ⟨_, rfl⟩
  rw [hW0] at HX
  have HC := Hid.mk (fun (d : Nat) (os : Array Obj) => HK.out (grow (redrawn W0 d) os) (HX.out.below.trans ((below_regrown W0 d os).mono HX.out.below.size)))
  have HH := Hid.mk (fun u => w_here 1 u)
  have HSE := Hid.mk hseo
  clear hseo
  have p0 : W0.cell? ⟨w.heap.size, 0, none⟩ = some (.int .i64 3) := HX.out.one 0
  have Ap0 := fun d os => cell_regrown p0 d os
  have q0 : W0.cell? ⟨w.heap.size + 1, 0, none⟩ = some (.bool false) := HX.out.two 0
  have Aq0 := fun d os => cell_regrown q0 d os
  have q1 : W0.cell? ⟨w.heap.size + 1, 1, none⟩ = some (.bool sb) := HX.out.two 1
  have Aq1 := fun d os => cell_regrown q1 d os
  have q2 : W0.cell? ⟨w.heap.size + 1, 2, none⟩ = some (.bool sc) := HX.out.two 2
  have Aq2 := fun d os => cell_regrown q2 d os
  have q3 : W0.cell? ⟨w.heap.size + 1, 3, none⟩ = some (.bool sd) := HX.out.two 3
  have Aq3 := fun d os => cell_regrown q3 d os
  have q4 : W0.cell? ⟨w.heap.size + 1, 4, none⟩ = some (.slice seo sen sec) := HX.out.two 4
  have Aq4 := fun d os => cell_regrown q4 d os
  have q5 : W0.cell? ⟨w.heap.size + 1, 5, none⟩ = some (.bool sf) := HX.out.two 5
  have Aq5 := fun d os => cell_regrown q5 d os
  have q6 : W0.cell? ⟨w.heap.size + 1, 6, none⟩ = some (.slice sgo sgn sgc) := HX.out.two 6
  have Aq6 := fun d os => cell_regrown q6 d os
  have q7 : W0.cell? ⟨w.heap.size + 1, 7, none⟩ = some (.slice sio sinn sic) := HX.out.two 7
  have Aq7 := fun d os => cell_regrown q7 d os
  have q8 : W0.cell? ⟨w.heap.size + 1, 8, none⟩ = some (.slice sjo sjn sjc) := HX.out.two 8
  have Aq8 := fun d os => cell_regrown q8 d os
  go_enter Tryz.func20, Tryz.ntmps20
  go_wp2_with fail
  refine wp_region_quiet_below (by kernel_rfl) (by kernel_rfl) ?_
  repeat (go_big_quiet_step (exact Calls.regrown_of (HC.out _ _)))
  refine wpQuiet_nil ?_
  intro w9 hw'
  have hbw9 : Below W0.heap.size W0 w9 := by
    obtain ⟨⟨dq, osq⟩, rfl⟩ := hw'
    exact below_regrown W0 dq osq
  clear hw'
  have HX9 := Hid.mk (HX.out.keep hbw9)
  clear hbw9 p0 Ap0 q0 Aq0 q1 Aq1 q2 Aq2 q3 Aq3 q4 Aq4 q5 Aq5 q6 Aq6 q7 Aq7 q8 Aq8 hW0 HX HC HK
  rw [HBit.out]
  clear HBit
  have p0 : w9.cell? ⟨w.heap.size, 0, none⟩ = some (.int .i64 3) := HX9.out.one 0
  cases kb with
  | false =>
    have HF := Hid.mk (HR0.out rfl)
    clear HR0 HR1
    go_wp2_with fail
    refine (HH.out _).mono ?_
    rintro e v3 ⟨⟨x, rfl, hx⟩, hq⟩
    have HE := Hid.mk hx
    have HB := Hid.mk (HX9.out.keep hq).below
    clear hq hx
    go_wp2_with fail
    go_ret
    exact ⟨⟨_, rfl, by rw [HF.out]; exact HE.out⟩, HB.out⟩
  | true =>
    obtain ⟨hse, hsn, c0, c1⟩ := HSE.out rfl
    subst hse
    have HC1 := Hid.mk (fun u (hu : Below w9.heap.size w9 u) => HR1.out rfl u (HX9.out.below.trans (hu.mono HX9.out.below.size)))
    clear HR0 HR1 HSE
    have e0 : w9.cell? ⟨w.heap.size, 1, none⟩ = some (.string nm) := HX9.out.one 1
    have e1 : w9.cell? ⟨w.heap.size + 1, 4, none⟩ = some (.slice (some ⟨nb, noff, none⟩) sen sec) := HX9.out.two 4
    have e2 := (HX9.out.below.cell (p := ⟨_, _, _⟩) (World.block_lt_of_cell? _ _ c0)).trans c0
    have e3 := (HX9.out.below.cell (p := ⟨_, _, _⟩) (World.block_lt_of_cell? _ _ c1)).trans c1
    have hn2 : (0 : Int) < (sen : Int) := by omega
    have HSS : Hid (∀ u, Below w9.heap.size w9 u → u.cell? ⟨w.heap.size, 1, none⟩ = some (.string nm) ∧ u.cell? ⟨w.heap.size + 1, 4, none⟩ = some (.slice (some ⟨nb, noff, none⟩) sen sec) ∧ u.cell? ⟨nb, noff, none⟩ = some (.string l) ∧ u.cell? ⟨nb, noff + 1, none⟩ = some (.string hh)) := fun u hu => ⟨(hu.cell (p := ⟨_, _, _⟩) (World.block_lt_of_cell? _ _ e0)).trans e0, (hu.cell (p := ⟨_, _, _⟩) (World.block_lt_of_cell? _ _ e1)).trans e1, (hu.cell (p := ⟨_, _, _⟩) (World.block_lt_of_cell? _ _ e2)).trans e2, (hu.cell (p := ⟨_, _, _⟩) (World.block_lt_of_cell? _ _ e3)).trans e3⟩
    clear e0 e1 e2 e3 c0 c1
    have HD := Hid.mk ((Below.refl w9.heap.size w9).drew)
    go_wp2_with fail
    refine wp_region_held_drew (S := fun u => u.cell? ⟨w.heap.size, 1, none⟩ = some (.string nm) ∧ u.cell? ⟨w.heap.size + 1, 4, none⟩ = some (.slice (some ⟨nb, noff, none⟩) sen sec) ∧ u.cell? ⟨nb, noff, none⟩ = some (.string l) ∧ u.cell? ⟨nb, noff + 1, none⟩ = some (.string hh)) (by kernel_rfl) (HSS.out _ HD.out) (fun hHeld => ?_)
    refine wpAnyH_take (i := 0) (oi := _) (v := .pointer (some ⟨w.heap.size, 1, none⟩)) rfl (by kernel_rfl) (by kernel_rfl) (by kernel_rfl) (fun _ _ _ h => h) (Or.inl ⟨by rfl, ?_⟩) (by assumption) ?_
    · intro w hSw
      go_simp
    try simp only [Act.put, List.getElem_toArray, List.getElem_cons_succ, List.getElem_cons_zero, List.setIfInBounds_toArray, List.set_cons_zero, List.set_cons_succ]
    refine wpAnyH_take (i := 1) (oi := _) (v := .string nm) rfl (by kernel_rfl) (by kernel_rfl) (by kernel_rfl) (fun _ _ _ h => h) (Or.inl ⟨by rfl, ?_⟩) (by assumption) ?_
    · intro w hSw
      go_simp
    try simp only [Act.put, List.getElem_toArray, List.getElem_cons_succ, List.getElem_cons_zero, List.setIfInBounds_toArray, List.set_cons_zero, List.set_cons_succ]
    refine wpAnyH_take (i := 2) (oi := _) (v := .pointer (some ⟨w.heap.size + 1, 4, none⟩)) rfl (by kernel_rfl) (by kernel_rfl) (by kernel_rfl) (fun _ _ _ h => h) (Or.inl ⟨by rfl, ?_⟩) (by assumption) ?_
    · intro w hSw
      go_simp
    try simp only [Act.put, List.getElem_toArray, List.getElem_cons_succ, List.getElem_cons_zero, List.setIfInBounds_toArray, List.set_cons_zero, List.set_cons_succ]
    refine wpAnyH_take (i := 3) (oi := _) (v := .slice (some ⟨nb, noff, none⟩) sen sec) rfl (by kernel_rfl) (by kernel_rfl) (by kernel_rfl) (fun _ _ _ h => h) (Or.inl ⟨by rfl, ?_⟩) (by assumption) ?_
    · intro w hSw
      go_simp
    try simp only [Act.put, List.getElem_toArray, List.getElem_cons_succ, List.getElem_cons_zero, List.setIfInBounds_toArray, List.set_cons_zero, List.set_cons_succ]
    refine wpAnyH_take (i := 4) (oi := _) (v := .pointer (some ⟨nb, noff, none⟩)) rfl (by kernel_rfl) (by kernel_rfl) (by kernel_rfl) (fun _ _ _ h => h) (Or.inl ⟨by rfl, ?_⟩) (by assumption) ?_
    · intro w hSw
      go_simp
    try simp only [Act.put, List.getElem_toArray, List.getElem_cons_succ, List.getElem_cons_zero, List.setIfInBounds_toArray, List.set_cons_zero, List.set_cons_succ]
    refine wpAnyH_take (i := 5) (oi := _) (v := .agg #[.string l, .string hh]) rfl (by kernel_rfl) (by kernel_rfl) (by kernel_rfl) (fun _ _ _ h => h) (Or.inl ⟨by rfl, ?_⟩) (by assumption) ?_
    · intro w hSw
      go_simp
    try simp only [Act.put, List.getElem_toArray, List.getElem_cons_succ, List.getElem_cons_zero, List.setIfInBounds_toArray, List.set_cons_zero, List.set_cons_succ]
    refine wpAnyH_ready (rs := [6]) (by kernel_rfl) (by simp) ?_
    refine AllReadyH.cons (o := _) rfl (fun K hK => ?_) AllReadyH.nil
    go_simp
    go_at_call 37
    refine (HC1.out _ HD.out).mono ?_
    rintro e w5 ⟨⟨x, rfl, hx⟩, hq⟩
    have HB5 := Hid.mk (HD.out.trans (hq.mono HD.out.size))
    have HE := Hid.mk hx
    clear hq hx
    go_wp2_with fail
    refine hK.out _ _ (HSS.out _ HB5.out) (fun hHeld => ?_)
    clear hK K
    try simp only [Act.put, List.getElem_toArray, List.getElem_cons_succ, List.getElem_cons_zero, List.setIfInBounds_toArray, List.set_cons_zero, List.set_cons_succ]
    refine wpAnyH_ready (rs := [7]) (by kernel_rfl) (by simp) ?_
    refine AllReadyH.cons (o := _) rfl (fun K hK => ?_) AllReadyH.nil
    go_simp
    refine hK.out _ _ (HSS.out _ HB5.out) (fun hHeld => ?_)
    clear hK K
    try simp only [Act.put, List.getElem_toArray, List.getElem_cons_succ, List.getElem_cons_zero, List.setIfInBounds_toArray, List.set_cons_zero, List.set_cons_succ]
    refine wpAnyH_done (by kernel_rfl) ?_ _
    try simp only [Act.put, List.getElem_toArray, List.getElem_cons_succ, List.getElem_cons_zero, List.setIfInBounds_toArray, List.set_cons_zero, List.set_cons_succ]
    have HX5 := Hid.mk (HX9.out.keep HB5.out)
    clear hHeld HSS HC1
    go_wp2_with fail
    go_ret
    exact ⟨⟨_, rfl, HE.out⟩, HX5.out.below⟩

set_option maxRecDepth 100000 in
set_option maxHeartbeats 6400000 in
theorem ag_k4 (n : Int) (nm tx : ByteArray) (io : Option Addr) (NI icap : Nat) (vo : Option Addr) (NK vcap : Nat) (sb sc sd : Bool) (seo : Option Addr) (sen sec : Nat) (sf : Bool) (sgo : Option Addr) (sgn sgc : Nat) (sio : Option Addr) (sinn sic : Nat) (sjo : Option Addr) (sjn sjc : Nat) (w : World) (R : Er) (kb : Bool)
    (HK : Hid (∀ u, Below w.heap.size w u → Calls Tryz.prog 35 #[.agg #[.bool false, .bool sb, .bool sc, .bool sd, .slice seo sen sec, .bool sf, .slice sgo sgn sgc, .slice sio sinn sic, .slice sjo sjn sjc]] u fun e w' => e = .returned (.int .u8 n) ∧ Below u.heap.size u w')) (HBit : Hid ((bits BinOp.and IntKind.u8 (n / 16) 1 == 0) = !kb)) (HR0 : Hid (kb = false → R = some ([], 1))) (HR1 : Hid (kb = true → ∀ u, Below w.heap.size w u → Calls Tryz.prog 38 #[.string tx, .agg #[.bool false, .bool sb, .bool sc, .bool sd, .slice seo sen sec, .bool sf, .slice sgo sgn sgc, .slice sio sinn sic, .slice sjo sjn sjc]] u fun e w' => (∃ v, e = .returned v ∧ ErV w' R v) ∧ Below u.heap.size u w')) :
    Calls Tryz.prog 20 #[.agg #[.int .i64 4, .string nm, .string tx, .slice io NI icap, .slice vo NK vcap], .agg #[.bool false, .bool sb, .bool sc, .bool sd, .slice seo sen sec, .bool sf, .slice sgo sgn sgc, .slice sio sinn sic, .slice sjo sjn sjc]] w fun e w' => (∃ v, e = .returned v ∧ ErV w' (R) v) ∧ Below w.heap.size w w' := by
  have HX := Hid.mk (bx2_two w #[.int .i64 4, .string nm, .string tx, .slice io NI icap, .slice vo NK vcap] #[.bool false, .bool sb, .bool sc, .bool sd, .slice seo sen sec, .bool sf, .slice sgo sgn sgc, .slice sio sinn sic, .slice sjo sjn sjc] 37 29)
  obtain ⟨W0, hW0⟩ : ∃ W0, (w.alloc (.cells #[.int .i64 4, .string nm, .string tx, .slice io NI icap, .slice vo NK vcap] 37)).alloc (.cells #[.bool false, .bool sb, .bool sc, .bool sd, .slice seo sen sec, .bool sf, .slice sgo sgn sgc, .slice sio sinn sic, .slice sjo sjn sjc] 29) = W0 := ⟨_, rfl⟩
  rw [hW0] at HX
  have HC := Hid.mk (fun (d : Nat) (os : Array Obj) => HK.out (grow (redrawn W0 d) os) (HX.out.below.trans ((below_regrown W0 d os).mono HX.out.below.size)))
  have HH := Hid.mk (fun u => w_here 1 u)
  have p0 : W0.cell? ⟨w.heap.size, 0, none⟩ = some (.int .i64 4) := HX.out.one 0
  have Ap0 := fun d os => cell_regrown p0 d os
  have q0 : W0.cell? ⟨w.heap.size + 1, 0, none⟩ = some (.bool false) := HX.out.two 0
  have Aq0 := fun d os => cell_regrown q0 d os
  have q1 : W0.cell? ⟨w.heap.size + 1, 1, none⟩ = some (.bool sb) := HX.out.two 1
  have Aq1 := fun d os => cell_regrown q1 d os
  have q2 : W0.cell? ⟨w.heap.size + 1, 2, none⟩ = some (.bool sc) := HX.out.two 2
  have Aq2 := fun d os => cell_regrown q2 d os
  have q3 : W0.cell? ⟨w.heap.size + 1, 3, none⟩ = some (.bool sd) := HX.out.two 3
  have Aq3 := fun d os => cell_regrown q3 d os
  have q4 : W0.cell? ⟨w.heap.size + 1, 4, none⟩ = some (.slice seo sen sec) := HX.out.two 4
  have Aq4 := fun d os => cell_regrown q4 d os
  have q5 : W0.cell? ⟨w.heap.size + 1, 5, none⟩ = some (.bool sf) := HX.out.two 5
  have Aq5 := fun d os => cell_regrown q5 d os
  have q6 : W0.cell? ⟨w.heap.size + 1, 6, none⟩ = some (.slice sgo sgn sgc) := HX.out.two 6
  have Aq6 := fun d os => cell_regrown q6 d os
  have q7 : W0.cell? ⟨w.heap.size + 1, 7, none⟩ = some (.slice sio sinn sic) := HX.out.two 7
  have Aq7 := fun d os => cell_regrown q7 d os
  have q8 : W0.cell? ⟨w.heap.size + 1, 8, none⟩ = some (.slice sjo sjn sjc) := HX.out.two 8
  have Aq8 := fun d os => cell_regrown q8 d os
  go_enter Tryz.func20, Tryz.ntmps20
  go_wp2_with fail
  refine wp_region_quiet_below (by kernel_rfl) (by kernel_rfl) ?_
  repeat (go_big_quiet_step (exact Calls.regrown_of (HC.out _ _)))
  refine wpQuiet_nil ?_
  intro w9 hw'
  have hbw9 : Below W0.heap.size W0 w9 := by
    obtain ⟨⟨dq, osq⟩, rfl⟩ := hw'
    exact below_regrown W0 dq osq
  clear hw'
  have HX9 := Hid.mk (HX.out.keep hbw9)
  clear hbw9 p0 Ap0 q0 Aq0 q1 Aq1 q2 Aq2 q3 Aq3 q4 Aq4 q5 Aq5 q6 Aq6 q7 Aq7 q8 Aq8 hW0 HX HC HK
  rw [HBit.out]
  clear HBit
  have p0 : w9.cell? ⟨w.heap.size, 0, none⟩ = some (.int .i64 4) := HX9.out.one 0
  cases kb with
  | false =>
    have HF := Hid.mk (HR0.out rfl)
    clear HR0 HR1
    go_wp2_with fail
    refine (HH.out _).mono ?_
    rintro e v3 ⟨⟨x, rfl, hx⟩, hq⟩
    have HE := Hid.mk hx
    have HB := Hid.mk (HX9.out.keep hq).below
    clear hq hx
    go_wp2_with fail
    go_ret
    exact ⟨⟨_, rfl, by rw [HF.out]; exact HE.out⟩, HB.out⟩
  | true =>
    have HC1 := Hid.mk (HR1.out rfl _ HX9.out.below)
    clear HR0 HR1
    have p2 : w9.cell? ⟨w.heap.size, 2, none⟩ = some (.string tx) := HX9.out.one 2
    have q0 : w9.cell? ⟨w.heap.size + 1, 0, none⟩ = some (.bool false) := HX9.out.two 0
    have q1 : w9.cell? ⟨w.heap.size + 1, 1, none⟩ = some (.bool sb) := HX9.out.two 1
    have q2 : w9.cell? ⟨w.heap.size + 1, 2, none⟩ = some (.bool sc) := HX9.out.two 2
    have q3 : w9.cell? ⟨w.heap.size + 1, 3, none⟩ = some (.bool sd) := HX9.out.two 3
    have q4 : w9.cell? ⟨w.heap.size + 1, 4, none⟩ = some (.slice seo sen sec) := HX9.out.two 4
    have q5 : w9.cell? ⟨w.heap.size + 1, 5, none⟩ = some (.bool sf) := HX9.out.two 5
    have q6 : w9.cell? ⟨w.heap.size + 1, 6, none⟩ = some (.slice sgo sgn sgc) := HX9.out.two 6
    have q7 : w9.cell? ⟨w.heap.size + 1, 7, none⟩ = some (.slice sio sinn sic) := HX9.out.two 7
    have q8 : w9.cell? ⟨w.heap.size + 1, 8, none⟩ = some (.slice sjo sjn sjc) := HX9.out.two 8
    go_wp2_with fail
    refine HC1.out.mono ?_
    rintro e v3 ⟨⟨x, rfl, hx⟩, hq⟩
    have HE := Hid.mk hx
    have HB := Hid.mk (HX9.out.keep hq).below
    clear hq hx
    go_wp2_with fail
    go_ret
    exact ⟨⟨_, rfl, HE.out⟩, HB.out⟩

set_option maxRecDepth 100000 in
set_option maxHeartbeats 6400000 in
theorem ag_k5 (n : Int) (nm tx : ByteArray) (io : Option Addr) (NI icap : Nat) (vo : Option Addr) (NK vcap : Nat) (sb sc sd : Bool) (seo : Option Addr) (sen sec : Nat) (sf : Bool) (sgo : Option Addr) (sgn sgc : Nat) (sio : Option Addr) (sinn sic : Nat) (sjo : Option Addr) (sjn sjc : Nat) (w : World) (R : Er) (kb : Bool)
    (HK : Hid (∀ u, Below w.heap.size w u → Calls Tryz.prog 35 #[.agg #[.bool false, .bool sb, .bool sc, .bool sd, .slice seo sen sec, .bool sf, .slice sgo sgn sgc, .slice sio sinn sic, .slice sjo sjn sjc]] u fun e w' => e = .returned (.int .u8 n) ∧ Below u.heap.size u w')) (HBit : Hid ((bits BinOp.and IntKind.u8 (n / 32) 1 == 0) = !kb)) (HR0 : Hid (kb = false → R = some ([], 1))) (nb noff : Nat) (za zb zc zd : Bool) (zeo : Option Addr) (zen zec : Nat) (zf : Bool) (zgo : Option Addr) (zgn zgc : Nat) (zio : Option Addr) (zinn zic : Nat) (zjo : Option Addr) (zjn zjc : Nat) (m1 n1 : Int) (hseo : kb = true → sio = some ⟨nb, noff, none⟩ ∧ 0 < sinn ∧ w.cell? ⟨nb, noff, none⟩ = some (.bool za) ∧ w.cell? ⟨nb, noff + 1, none⟩ = some (.bool zb) ∧ w.cell? ⟨nb, noff + 2, none⟩ = some (.bool zc) ∧ w.cell? ⟨nb, noff + 3, none⟩ = some (.bool zd) ∧ w.cell? ⟨nb, noff + 4, none⟩ = some (.slice zeo zen zec) ∧ w.cell? ⟨nb, noff + 5, none⟩ = some (.bool zf) ∧ w.cell? ⟨nb, noff + 6, none⟩ = some (.slice zgo zgn zgc) ∧ w.cell? ⟨nb, noff + 7, none⟩ = some (.slice zio zinn zic) ∧ w.cell? ⟨nb, noff + 8, none⟩ = some (.slice zjo zjn zjc) ∧ w.cell? ⟨nb, noff + 9, none⟩ = some (.int .i64 m1) ∧ w.cell? ⟨nb, noff + 10, none⟩ = some (.int .i64 n1)) (HR1 : Hid (kb = true → ∀ u, Below w.heap.size w u → Calls Tryz.prog 39 #[.slice io NI icap, .agg #[.bool za, .bool zb, .bool zc, .bool zd, .slice zeo zen zec, .bool zf, .slice zgo zgn zgc, .slice zio zinn zic, .slice zjo zjn zjc, .int .i64 m1, .int .i64 n1]] u fun e w' => (∃ v, e = .returned v ∧ ErV w' R v) ∧ Below u.heap.size u w')) :
    Calls Tryz.prog 20 #[.agg #[.int .i64 5, .string nm, .string tx, .slice io NI icap, .slice vo NK vcap], .agg #[.bool false, .bool sb, .bool sc, .bool sd, .slice seo sen sec, .bool sf, .slice sgo sgn sgc, .slice sio sinn sic, .slice sjo sjn sjc]] w fun e w' => (∃ v, e = .returned v ∧ ErV w' (R) v) ∧ Below w.heap.size w w' := by
  have HX := Hid.mk (bx2_two w #[.int .i64 5, .string nm, .string tx, .slice io NI icap, .slice vo NK vcap] #[.bool false, .bool sb, .bool sc, .bool sd, .slice seo sen sec, .bool sf, .slice sgo sgn sgc, .slice sio sinn sic, .slice sjo sjn sjc] 37 29)
  obtain ⟨W0, hW0⟩ : ∃ W0, (w.alloc (.cells #[.int .i64 5, .string nm, .string tx, .slice io NI icap, .slice vo NK vcap] 37)).alloc (.cells #[.bool false, .bool sb, .bool sc, .bool sd, .slice seo sen sec, .bool sf, .slice sgo sgn sgc, .slice sio sinn sic, .slice sjo sjn sjc] 29) = W0 := ⟨_, rfl⟩
  rw [hW0] at HX
  have HC := Hid.mk (fun (d : Nat) (os : Array Obj) => HK.out (grow (redrawn W0 d) os) (HX.out.below.trans ((below_regrown W0 d os).mono HX.out.below.size)))
  have HH := Hid.mk (fun u => w_here 1 u)
  have HSE := Hid.mk hseo
  clear hseo
  have p0 : W0.cell? ⟨w.heap.size, 0, none⟩ = some (.int .i64 5) := HX.out.one 0
  have Ap0 := fun d os => cell_regrown p0 d os
  have q0 : W0.cell? ⟨w.heap.size + 1, 0, none⟩ = some (.bool false) := HX.out.two 0
  have Aq0 := fun d os => cell_regrown q0 d os
  have q1 : W0.cell? ⟨w.heap.size + 1, 1, none⟩ = some (.bool sb) := HX.out.two 1
  have Aq1 := fun d os => cell_regrown q1 d os
  have q2 : W0.cell? ⟨w.heap.size + 1, 2, none⟩ = some (.bool sc) := HX.out.two 2
  have Aq2 := fun d os => cell_regrown q2 d os
  have q3 : W0.cell? ⟨w.heap.size + 1, 3, none⟩ = some (.bool sd) := HX.out.two 3
  have Aq3 := fun d os => cell_regrown q3 d os
  have q4 : W0.cell? ⟨w.heap.size + 1, 4, none⟩ = some (.slice seo sen sec) := HX.out.two 4
  have Aq4 := fun d os => cell_regrown q4 d os
  have q5 : W0.cell? ⟨w.heap.size + 1, 5, none⟩ = some (.bool sf) := HX.out.two 5
  have Aq5 := fun d os => cell_regrown q5 d os
  have q6 : W0.cell? ⟨w.heap.size + 1, 6, none⟩ = some (.slice sgo sgn sgc) := HX.out.two 6
  have Aq6 := fun d os => cell_regrown q6 d os
  have q7 : W0.cell? ⟨w.heap.size + 1, 7, none⟩ = some (.slice sio sinn sic) := HX.out.two 7
  have Aq7 := fun d os => cell_regrown q7 d os
  have q8 : W0.cell? ⟨w.heap.size + 1, 8, none⟩ = some (.slice sjo sjn sjc) := HX.out.two 8
  have Aq8 := fun d os => cell_regrown q8 d os
  go_enter Tryz.func20, Tryz.ntmps20
  go_wp2_with fail
  refine wp_region_quiet_below (by kernel_rfl) (by kernel_rfl) ?_
  repeat (go_big_quiet_step (exact Calls.regrown_of (HC.out _ _)))
  refine wpQuiet_nil ?_
  intro w9 hw'
  have hbw9 : Below W0.heap.size W0 w9 := by
    obtain ⟨⟨dq, osq⟩, rfl⟩ := hw'
    exact below_regrown W0 dq osq
  clear hw'
  have HX9 := Hid.mk (HX.out.keep hbw9)
  clear hbw9 p0 Ap0 q0 Aq0 q1 Aq1 q2 Aq2 q3 Aq3 q4 Aq4 q5 Aq5 q6 Aq6 q7 Aq7 q8 Aq8 hW0 HX HC HK
  rw [HBit.out]
  clear HBit
  have p0 : w9.cell? ⟨w.heap.size, 0, none⟩ = some (.int .i64 5) := HX9.out.one 0
  cases kb with
  | false =>
    have HF := Hid.mk (HR0.out rfl)
    clear HR0 HR1
    go_wp2_with fail
    refine (HH.out _).mono ?_
    rintro e v3 ⟨⟨x, rfl, hx⟩, hq⟩
    have HE := Hid.mk hx
    have HB := Hid.mk (HX9.out.keep hq).below
    clear hq hx
    go_wp2_with fail
    go_ret
    exact ⟨⟨_, rfl, by rw [HF.out]; exact HE.out⟩, HB.out⟩
  | true =>
    obtain ⟨hse, hsn, c0, c1, c2, c3, c4, c5, c6, c7, c8, c9, c10⟩ := HSE.out rfl
    subst hse
    have HC1 := Hid.mk (fun u (hu : Below w9.heap.size w9 u) => HR1.out rfl u (HX9.out.below.trans (hu.mono HX9.out.below.size)))
    clear HR0 HR1 HSE
    have e0 : w9.cell? ⟨w.heap.size, 3, none⟩ = some (.slice io NI icap) := HX9.out.one 3
    have e1 : w9.cell? ⟨w.heap.size + 1, 7, none⟩ = some (.slice (some ⟨nb, noff, none⟩) sinn sic) := HX9.out.two 7
    have e2 := (HX9.out.below.cell (p := ⟨_, _, _⟩) (World.block_lt_of_cell? _ _ c0)).trans c0
    have e3 := (HX9.out.below.cell (p := ⟨_, _, _⟩) (World.block_lt_of_cell? _ _ c1)).trans c1
    have e4 := (HX9.out.below.cell (p := ⟨_, _, _⟩) (World.block_lt_of_cell? _ _ c2)).trans c2
    have e5 := (HX9.out.below.cell (p := ⟨_, _, _⟩) (World.block_lt_of_cell? _ _ c3)).trans c3
    have e6 := (HX9.out.below.cell (p := ⟨_, _, _⟩) (World.block_lt_of_cell? _ _ c4)).trans c4
    have e7 := (HX9.out.below.cell (p := ⟨_, _, _⟩) (World.block_lt_of_cell? _ _ c5)).trans c5
    have e8 := (HX9.out.below.cell (p := ⟨_, _, _⟩) (World.block_lt_of_cell? _ _ c6)).trans c6
    have e9 := (HX9.out.below.cell (p := ⟨_, _, _⟩) (World.block_lt_of_cell? _ _ c7)).trans c7
    have e10 := (HX9.out.below.cell (p := ⟨_, _, _⟩) (World.block_lt_of_cell? _ _ c8)).trans c8
    have e11 := (HX9.out.below.cell (p := ⟨_, _, _⟩) (World.block_lt_of_cell? _ _ c9)).trans c9
    have e12 := (HX9.out.below.cell (p := ⟨_, _, _⟩) (World.block_lt_of_cell? _ _ c10)).trans c10
    have hn2 : (0 : Int) < (sinn : Int) := by omega
    have HSS : Hid (∀ u, Below w9.heap.size w9 u → u.cell? ⟨w.heap.size, 3, none⟩ = some (.slice io NI icap) ∧ u.cell? ⟨w.heap.size + 1, 7, none⟩ = some (.slice (some ⟨nb, noff, none⟩) sinn sic) ∧ u.cell? ⟨nb, noff, none⟩ = some (.bool za) ∧ u.cell? ⟨nb, noff + 1, none⟩ = some (.bool zb) ∧ u.cell? ⟨nb, noff + 2, none⟩ = some (.bool zc) ∧ u.cell? ⟨nb, noff + 3, none⟩ = some (.bool zd) ∧ u.cell? ⟨nb, noff + 4, none⟩ = some (.slice zeo zen zec) ∧ u.cell? ⟨nb, noff + 5, none⟩ = some (.bool zf) ∧ u.cell? ⟨nb, noff + 6, none⟩ = some (.slice zgo zgn zgc) ∧ u.cell? ⟨nb, noff + 7, none⟩ = some (.slice zio zinn zic) ∧ u.cell? ⟨nb, noff + 8, none⟩ = some (.slice zjo zjn zjc) ∧ u.cell? ⟨nb, noff + 9, none⟩ = some (.int .i64 m1) ∧ u.cell? ⟨nb, noff + 10, none⟩ = some (.int .i64 n1)) := fun u hu => ⟨(hu.cell (p := ⟨_, _, _⟩) (World.block_lt_of_cell? _ _ e0)).trans e0, (hu.cell (p := ⟨_, _, _⟩) (World.block_lt_of_cell? _ _ e1)).trans e1, (hu.cell (p := ⟨_, _, _⟩) (World.block_lt_of_cell? _ _ e2)).trans e2, (hu.cell (p := ⟨_, _, _⟩) (World.block_lt_of_cell? _ _ e3)).trans e3, (hu.cell (p := ⟨_, _, _⟩) (World.block_lt_of_cell? _ _ e4)).trans e4, (hu.cell (p := ⟨_, _, _⟩) (World.block_lt_of_cell? _ _ e5)).trans e5, (hu.cell (p := ⟨_, _, _⟩) (World.block_lt_of_cell? _ _ e6)).trans e6, (hu.cell (p := ⟨_, _, _⟩) (World.block_lt_of_cell? _ _ e7)).trans e7, (hu.cell (p := ⟨_, _, _⟩) (World.block_lt_of_cell? _ _ e8)).trans e8, (hu.cell (p := ⟨_, _, _⟩) (World.block_lt_of_cell? _ _ e9)).trans e9, (hu.cell (p := ⟨_, _, _⟩) (World.block_lt_of_cell? _ _ e10)).trans e10, (hu.cell (p := ⟨_, _, _⟩) (World.block_lt_of_cell? _ _ e11)).trans e11, (hu.cell (p := ⟨_, _, _⟩) (World.block_lt_of_cell? _ _ e12)).trans e12⟩
    clear e0 e1 e2 e3 e4 e5 e6 e7 e8 e9 e10 e11 e12 c0 c1 c2 c3 c4 c5 c6 c7 c8 c9 c10
    have HD := Hid.mk ((Below.refl w9.heap.size w9).drew)
    go_wp2_with fail
    refine wp_region_held_drew (S := fun u => u.cell? ⟨w.heap.size, 3, none⟩ = some (.slice io NI icap) ∧ u.cell? ⟨w.heap.size + 1, 7, none⟩ = some (.slice (some ⟨nb, noff, none⟩) sinn sic) ∧ u.cell? ⟨nb, noff, none⟩ = some (.bool za) ∧ u.cell? ⟨nb, noff + 1, none⟩ = some (.bool zb) ∧ u.cell? ⟨nb, noff + 2, none⟩ = some (.bool zc) ∧ u.cell? ⟨nb, noff + 3, none⟩ = some (.bool zd) ∧ u.cell? ⟨nb, noff + 4, none⟩ = some (.slice zeo zen zec) ∧ u.cell? ⟨nb, noff + 5, none⟩ = some (.bool zf) ∧ u.cell? ⟨nb, noff + 6, none⟩ = some (.slice zgo zgn zgc) ∧ u.cell? ⟨nb, noff + 7, none⟩ = some (.slice zio zinn zic) ∧ u.cell? ⟨nb, noff + 8, none⟩ = some (.slice zjo zjn zjc) ∧ u.cell? ⟨nb, noff + 9, none⟩ = some (.int .i64 m1) ∧ u.cell? ⟨nb, noff + 10, none⟩ = some (.int .i64 n1)) (by kernel_rfl) (HSS.out _ HD.out) (fun hHeld => ?_)
    refine wpAnyH_take (i := 0) (oi := _) (v := .pointer (some ⟨w.heap.size, 3, none⟩)) rfl (by kernel_rfl) (by kernel_rfl) (by kernel_rfl) (fun _ _ _ h => h) (Or.inl ⟨by rfl, ?_⟩) (by assumption) ?_
    · intro w hSw
      go_simp
    try simp only [Act.put, List.getElem_toArray, List.getElem_cons_succ, List.getElem_cons_zero, List.setIfInBounds_toArray, List.set_cons_zero, List.set_cons_succ]
    refine wpAnyH_take (i := 1) (oi := _) (v := .slice io NI icap) rfl (by kernel_rfl) (by kernel_rfl) (by kernel_rfl) (fun _ _ _ h => h) (Or.inl ⟨by rfl, ?_⟩) (by assumption) ?_
    · intro w hSw
      go_simp
    try simp only [Act.put, List.getElem_toArray, List.getElem_cons_succ, List.getElem_cons_zero, List.setIfInBounds_toArray, List.set_cons_zero, List.set_cons_succ]
    refine wpAnyH_take (i := 2) (oi := _) (v := .pointer (some ⟨w.heap.size + 1, 7, none⟩)) rfl (by kernel_rfl) (by kernel_rfl) (by kernel_rfl) (fun _ _ _ h => h) (Or.inl ⟨by rfl, ?_⟩) (by assumption) ?_
    · intro w hSw
      go_simp
    try simp only [Act.put, List.getElem_toArray, List.getElem_cons_succ, List.getElem_cons_zero, List.setIfInBounds_toArray, List.set_cons_zero, List.set_cons_succ]
    refine wpAnyH_take (i := 3) (oi := _) (v := .slice (some ⟨nb, noff, none⟩) sinn sic) rfl (by kernel_rfl) (by kernel_rfl) (by kernel_rfl) (fun _ _ _ h => h) (Or.inl ⟨by rfl, ?_⟩) (by assumption) ?_
    · intro w hSw
      go_simp
    try simp only [Act.put, List.getElem_toArray, List.getElem_cons_succ, List.getElem_cons_zero, List.setIfInBounds_toArray, List.set_cons_zero, List.set_cons_succ]
    refine wpAnyH_take (i := 4) (oi := _) (v := .pointer (some ⟨nb, noff, none⟩)) rfl (by kernel_rfl) (by kernel_rfl) (by kernel_rfl) (fun _ _ _ h => h) (Or.inl ⟨by rfl, ?_⟩) (by assumption) ?_
    · intro w hSw
      go_simp
    try simp only [Act.put, List.getElem_toArray, List.getElem_cons_succ, List.getElem_cons_zero, List.setIfInBounds_toArray, List.set_cons_zero, List.set_cons_succ]
    refine wpAnyH_take (i := 5) (oi := _) (v := .agg #[.bool za, .bool zb, .bool zc, .bool zd, .slice zeo zen zec, .bool zf, .slice zgo zgn zgc, .slice zio zinn zic, .slice zjo zjn zjc, .int .i64 m1, .int .i64 n1]) rfl (by kernel_rfl) (by kernel_rfl) (by kernel_rfl) (fun _ _ _ h => h) (Or.inl ⟨by rfl, ?_⟩) (by assumption) ?_
    · intro w hSw
      go_simp
    try simp only [Act.put, List.getElem_toArray, List.getElem_cons_succ, List.getElem_cons_zero, List.setIfInBounds_toArray, List.set_cons_zero, List.set_cons_succ]
    refine wpAnyH_ready (rs := [6]) (by kernel_rfl) (by simp) ?_
    refine AllReadyH.cons (o := _) rfl (fun K hK => ?_) AllReadyH.nil
    go_simp
    go_at_call 39
    refine (HC1.out _ HD.out).mono ?_
    rintro e w5 ⟨⟨x, rfl, hx⟩, hq⟩
    have HB5 := Hid.mk (HD.out.trans (hq.mono HD.out.size))
    have HE := Hid.mk hx
    clear hq hx
    go_wp2_with fail
    refine hK.out _ _ (HSS.out _ HB5.out) (fun hHeld => ?_)
    clear hK K
    try simp only [Act.put, List.getElem_toArray, List.getElem_cons_succ, List.getElem_cons_zero, List.setIfInBounds_toArray, List.set_cons_zero, List.set_cons_succ]
    refine wpAnyH_ready (rs := [7]) (by kernel_rfl) (by simp) ?_
    refine AllReadyH.cons (o := _) rfl (fun K hK => ?_) AllReadyH.nil
    go_simp
    refine hK.out _ _ (HSS.out _ HB5.out) (fun hHeld => ?_)
    clear hK K
    try simp only [Act.put, List.getElem_toArray, List.getElem_cons_succ, List.getElem_cons_zero, List.setIfInBounds_toArray, List.set_cons_zero, List.set_cons_succ]
    refine wpAnyH_done (by kernel_rfl) ?_ _
    try simp only [Act.put, List.getElem_toArray, List.getElem_cons_succ, List.getElem_cons_zero, List.setIfInBounds_toArray, List.set_cons_zero, List.set_cons_succ]
    have HX5 := Hid.mk (HX9.out.keep HB5.out)
    clear hHeld HSS HC1
    go_wp2_with fail
    go_ret
    exact ⟨⟨_, rfl, HE.out⟩, HX5.out.below⟩

set_option maxRecDepth 100000 in
set_option maxHeartbeats 6400000 in
theorem ag_k6 (n : Int) (nm tx : ByteArray) (io : Option Addr) (NI icap : Nat) (vo : Option Addr) (NK vcap : Nat) (sb sc sd : Bool) (seo : Option Addr) (sen sec : Nat) (sf : Bool) (sgo : Option Addr) (sgn sgc : Nat) (sio : Option Addr) (sinn sic : Nat) (sjo : Option Addr) (sjn sjc : Nat) (w : World) (R : Er) (kb : Bool)
    (HK : Hid (∀ u, Below w.heap.size w u → Calls Tryz.prog 35 #[.agg #[.bool false, .bool sb, .bool sc, .bool sd, .slice seo sen sec, .bool sf, .slice sgo sgn sgc, .slice sio sinn sic, .slice sjo sjn sjc]] u fun e w' => e = .returned (.int .u8 n) ∧ Below u.heap.size u w')) (HBit : Hid ((bits BinOp.and IntKind.u8 (n / 64) 1 == 0) = !kb)) (HR0 : Hid (kb = false → R = some ([], 1))) (HR1 : Hid (kb = true → ∀ u, Below w.heap.size w u → Calls Tryz.prog 40 #[.agg #[.int .i64 6, .string nm, .string tx, .slice io NI icap, .slice vo NK vcap], .slice sjo sjn sjc] u fun e w' => (∃ v, e = .returned v ∧ ErV w' R v) ∧ Below u.heap.size u w')) :
    Calls Tryz.prog 20 #[.agg #[.int .i64 6, .string nm, .string tx, .slice io NI icap, .slice vo NK vcap], .agg #[.bool false, .bool sb, .bool sc, .bool sd, .slice seo sen sec, .bool sf, .slice sgo sgn sgc, .slice sio sinn sic, .slice sjo sjn sjc]] w fun e w' => (∃ v, e = .returned v ∧ ErV w' (R) v) ∧ Below w.heap.size w w' := by
  have HX := Hid.mk (bx2_two w #[.int .i64 6, .string nm, .string tx, .slice io NI icap, .slice vo NK vcap] #[.bool false, .bool sb, .bool sc, .bool sd, .slice seo sen sec, .bool sf, .slice sgo sgn sgc, .slice sio sinn sic, .slice sjo sjn sjc] 37 29)
  obtain ⟨W0, hW0⟩ : ∃ W0, (w.alloc (.cells #[.int .i64 6, .string nm, .string tx, .slice io NI icap, .slice vo NK vcap] 37)).alloc (.cells #[.bool false, .bool sb, .bool sc, .bool sd, .slice seo sen sec, .bool sf, .slice sgo sgn sgc, .slice sio sinn sic, .slice sjo sjn sjc] 29) = W0 := ⟨_, rfl⟩
  rw [hW0] at HX
  have HC := Hid.mk (fun (d : Nat) (os : Array Obj) => HK.out (grow (redrawn W0 d) os) (HX.out.below.trans ((below_regrown W0 d os).mono HX.out.below.size)))
  have HH := Hid.mk (fun u => w_here 1 u)
  have p0 : W0.cell? ⟨w.heap.size, 0, none⟩ = some (.int .i64 6) := HX.out.one 0
  have Ap0 := fun d os => cell_regrown p0 d os
  have q0 : W0.cell? ⟨w.heap.size + 1, 0, none⟩ = some (.bool false) := HX.out.two 0
  have Aq0 := fun d os => cell_regrown q0 d os
  have q1 : W0.cell? ⟨w.heap.size + 1, 1, none⟩ = some (.bool sb) := HX.out.two 1
  have Aq1 := fun d os => cell_regrown q1 d os
  have q2 : W0.cell? ⟨w.heap.size + 1, 2, none⟩ = some (.bool sc) := HX.out.two 2
  have Aq2 := fun d os => cell_regrown q2 d os
  have q3 : W0.cell? ⟨w.heap.size + 1, 3, none⟩ = some (.bool sd) := HX.out.two 3
  have Aq3 := fun d os => cell_regrown q3 d os
  have q4 : W0.cell? ⟨w.heap.size + 1, 4, none⟩ = some (.slice seo sen sec) := HX.out.two 4
  have Aq4 := fun d os => cell_regrown q4 d os
  have q5 : W0.cell? ⟨w.heap.size + 1, 5, none⟩ = some (.bool sf) := HX.out.two 5
  have Aq5 := fun d os => cell_regrown q5 d os
  have q6 : W0.cell? ⟨w.heap.size + 1, 6, none⟩ = some (.slice sgo sgn sgc) := HX.out.two 6
  have Aq6 := fun d os => cell_regrown q6 d os
  have q7 : W0.cell? ⟨w.heap.size + 1, 7, none⟩ = some (.slice sio sinn sic) := HX.out.two 7
  have Aq7 := fun d os => cell_regrown q7 d os
  have q8 : W0.cell? ⟨w.heap.size + 1, 8, none⟩ = some (.slice sjo sjn sjc) := HX.out.two 8
  have Aq8 := fun d os => cell_regrown q8 d os
  go_enter Tryz.func20, Tryz.ntmps20
  go_wp2_with fail
  refine wp_region_quiet_below (by kernel_rfl) (by kernel_rfl) ?_
  repeat (go_big_quiet_step (exact Calls.regrown_of (HC.out _ _)))
  refine wpQuiet_nil ?_
  intro w9 hw'
  have hbw9 : Below W0.heap.size W0 w9 := by
    obtain ⟨⟨dq, osq⟩, rfl⟩ := hw'
    exact below_regrown W0 dq osq
  clear hw'
  have HX9 := Hid.mk (HX.out.keep hbw9)
  clear hbw9 p0 Ap0 q0 Aq0 q1 Aq1 q2 Aq2 q3 Aq3 q4 Aq4 q5 Aq5 q6 Aq6 q7 Aq7 q8 Aq8 hW0 HX HC HK
  rw [HBit.out]
  clear HBit
  have p0 : w9.cell? ⟨w.heap.size, 0, none⟩ = some (.int .i64 6) := HX9.out.one 0
  cases kb with
  | false =>
    have HF := Hid.mk (HR0.out rfl)
    clear HR0 HR1
    go_wp2_with fail
    refine (HH.out _).mono ?_
    rintro e v3 ⟨⟨x, rfl, hx⟩, hq⟩
    have HE := Hid.mk hx
    have HB := Hid.mk (HX9.out.keep hq).below
    clear hq hx
    go_wp2_with fail
    go_ret
    exact ⟨⟨_, rfl, by rw [HF.out]; exact HE.out⟩, HB.out⟩
  | true =>
    have HC1 := Hid.mk (HR1.out rfl _ HX9.out.below)
    clear HR0 HR1
    have p1 : w9.cell? ⟨w.heap.size, 1, none⟩ = some (.string nm) := HX9.out.one 1
    have p2 : w9.cell? ⟨w.heap.size, 2, none⟩ = some (.string tx) := HX9.out.one 2
    have p3 : w9.cell? ⟨w.heap.size, 3, none⟩ = some (.slice io NI icap) := HX9.out.one 3
    have p4 : w9.cell? ⟨w.heap.size, 4, none⟩ = some (.slice vo NK vcap) := HX9.out.one 4
    have q8 : w9.cell? ⟨w.heap.size + 1, 8, none⟩ = some (.slice sjo sjn sjc) := HX9.out.two 8
    go_wp2_with fail
    refine HC1.out.mono ?_
    rintro e v3 ⟨⟨x, rfl, hx⟩, hq⟩
    have HE := Hid.mk hx
    have HB := Hid.mk (HX9.out.keep hq).below
    clear hq hx
    go_wp2_with fail
    go_ret
    exact ⟨⟨_, rfl, HE.out⟩, HB.out⟩

end Go.Proofs.YtapjfocjeligiaaGreatDoor
