import Derived.Test.YtfgfgcecbodjeaaGreatDoorZJ2
import Derived.Test.YtfgfgcecbodjeaaGreatDoorZRR19
import Derived.Maps.AppendAt
import Derived.Lib.QuietBelow
import Derived.BigQuiet
namespace Go.Proofs.YtfgfgcecbodjeaaGreatDoor
open Go.RowKit Go.Shelf Go.Sort
set_option linter.unusedVariables false
set_option linter.unusedSimpArgs false
attribute [local go_sem] Oper.semAt_some

theorem run_append_nil5 (P : Program) (w : World) (t ty e : TypeId) (i : TypeInfo) (ht : P.underlying t = some (.slice e)) (hi : P.info? e = some i) (p : Option Addr) (n c : Nat) (hn : n ≤ c) :
    (Builtin.append_ #[t, t] ty #[.slice p n c, .slice none 0 0]).run P w = .ok (.slice p n c) w := by
  cases p with
  | none => simp [Builtin.append_, run_underlying ht, sizeOf, typeInfo, hi, Builtin.lenOf, hn, Builtin.firstCells]
  | some a => simp [Builtin.append_, run_underlying ht, sizeOf, typeInfo, hi, Builtin.lenOf, hn, Builtin.firstCells, storeCells]
/-- 'append(s, x...)' of a whole row -/
theorem wpList_append_row {P : Program} {w : World} {ops : Array Oper} {rest : List Oper} {o : Oper} {a : Act} {Q : Exit → Act → World → Prop} (hgd : o.guard = none) (s x : Operand) (t : TypeId)
    (ho : o.op = .call { callee := .builtin .append, args := #[s, x], argTypes := #[t, t] })
    (base : Nat) (e : TypeId) (i : TypeInfo) (z : Value) (size bytes : Nat) (ht : P.underlying t = some (.slice e)) (hi : P.info? e = some i) (hz : i.zero = some z)
    (hsize : i.size = size) (hby : i.bytes = bytes) (hzs : z.cells.size = size) (hsz : 0 < size)
    (v : Value) (n : Nat) (xs : List Value) (hs : a.eval s = v) (hown : w.ownsRow base e size v n xs)
    (io : Option Addr) (m c : Nat) (news : List Value) (hx : a.eval x = .slice io m c) (hl : news.length = m * size) (hrow : (io = none ∧ m = 0 ∧ c = 0) ∨ ∃ ad, io = some ad ∧ ∀ j u, news[j]? = some u → w.cell? (ad.add j) = some u) (h1 : ∀ u ∈ news, u.oneCell' = true)
    (h63 : n + m ≤ maxLen) (hbytes : (n + m) * bytes ≤ 140737488355328) (hbase : base ≤ w.heap.size)
    (h : ∀ v' w', w'.ownsRow base e size v' (n + m) (xs ++ news) → w.grownBy w' v.ownBlock → (v'.ownBlock = v.ownBlock ∨ v'.ownBlock = some w.heap.size) → wpList P ops Q rest (a.put o.dst v') w') : wpList P ops Q (o :: rest) a w := by
  rcases hrow with ⟨rfl, rfl, rfl⟩ | ⟨ad, rfl, hnews⟩
  · obtain rfl : news = [] := List.eq_nil_of_length_eq_zero (by rw [hl, Nat.zero_mul])
    obtain ⟨p, cap, rfl, hcap⟩ : ∃ p cap, v = .slice p n cap ∧ n ≤ cap := by
      rcases hown.2 with ⟨e1, e2⟩ | ⟨g, cap, cur, e1, _, _, e3, _⟩
      · exact ⟨none, 0, by rw [e1, e2], by omega⟩
      · exact ⟨_, _, e1, e3⟩
    refine wpList_plain hgd fun K hK => ?_
    have hr := run_append_nil5 P w t o.type e i ht hi p n cap hcap
    unfold Oper.wp execOp
    simp only [ho, resolve, invoke, builtin, Sem.run_bind, Sem.run_pure, Result.andThen_ok, List.map_toArray, List.map_cons, List.map_nil, hs, hx, hr]
    exact hK _ _ (h _ w (by rw [List.append_nil]; exact hown) ⟨rfl, rfl, rfl, Nat.le_refl _, fun _ _ _ => rfl⟩ (.inl rfl))
  · exact wpList_append_own_at (P := P) w hgd s x t ho base e i z size bytes ht hi hz hsize hby hzs hsz v n xs hs hown ad m c news hx hl hnews h1 h63 hbytes hbase (fun v' w' a1 a2 _ a4 => h v' w' a1 a2 a4)
theorem join32 (a b : ByteArray) : (a ++ ⟨#[32]⟩ ++ b).data.toList = a.data.toList ++ 32 :: b.data.toList := by simp
theorem manyW {H : Nat} {R : List VT × Nat × Nat} {w w' : World} {e : Ending} (h : ManyR H R w e w') : Below w.heap.size w w' ∧ ∃ (io : Option Addr) (k cap er q : Nat), e = .returned (.tuple #[.slice io k cap, .int .i64 (er : Int), .int .i64 (q : Int)]) := by
  obtain ⟨hb, hw⟩ := h
  refine ⟨hb, ?_⟩
  rcases hw with ⟨_, k, io, cap, c, rfl, _⟩ | ⟨_, rfl⟩
  · exact ⟨io, k, cap, 0, 0, rfl⟩
  · exact ⟨none, 0, 0, _, _, rfl⟩
/-- a row of values, and the row's cells -/
structure RwV (w : World) (h : Nat) (xs : List VT) (io : Option Addr) (k cap : Nat) (c : Nat → Fin 5 → Value) : Prop where
  len : xs.length = k
  le : k ≤ cap
  nil : io = none → k = 0 ∧ cap = 0
  at_ : ∀ ad, io = some ad → (∀ j, (ad.add j).block < w.heap.size) ∧ ∀ j u, (flat c k)[j]? = some u → w.cell? (ad.add j) = some u
  one : ∀ u ∈ flat c k, u.oneCell' = true
  lit : ∀ ad, io = some ad → ∃ g, ad = ⟨g, 0, none⟩
  trees : ∀ i, (hi : i < xs.length) → InH w h xs[i] (.agg #[c i 0, c i 1, c i 2, c i 3, c i 4])
theorem RwV.keep {w w' : World} {h : Nat} {xs : List VT} {io : Option Addr} {k cap : Nat} {c : Nat → Fin 5 → Value} (r : RwV w h xs io k cap c) (hb : Below w.heap.size w w') : RwV w' h xs io k cap c :=
  ⟨r.len, r.le, r.nil, fun ad e => ⟨fun j => Nat.lt_of_lt_of_le ((r.at_ ad e).1 j) hb.size, fun j u hu => (hb.cell (p := ad.add j) ((r.at_ ad e).1 j)).trans ((r.at_ ad e).2 j u hu)⟩, r.one, r.lit, fun i hi => (r.trees i hi).keep hb⟩
theorem flat_one {w : World} {h : Nat} {c : Nat → Fin 5 → Value} : ∀ k : Nat, (∀ i, i < k → ∃ T, InH w h T (.agg #[c i 0, c i 1, c i 2, c i 3, c i 4])) → ∀ u ∈ flat c k, u.oneCell' = true
  | 0, _, u, hu => by cases hu
  | k + 1, H, u, hu => by
    rw [flat_up] at hu
    rcases List.mem_append.1 hu with hu | hu
    · exact flat_one k (fun i hi => H i (by omega)) u hu
    · obtain ⟨T, hT⟩ := H k (by omega)
      obtain ⟨_, _, _, _, _, _, _, _, _, e⟩ := inH_shape hT
      simp only [Value.agg.injEq, Array.mk.injEq, List.cons.injEq, and_true] at e
      obtain ⟨e0, e1, e2, e3, e4⟩ := e
      rw [e0, e1, e2, e3, e4] at hu
      simp at hu
      rcases hu with rfl | rfl | rfl | rfl | rfl <;> rfl
theorem RwV.of {w : World} {lo h k cap : Nat} {io : Option Addr} {c : Nat → Fin 5 → Value} {xs : List VT} {D : Nat → Prop} (hlen : xs.length = k) (own : w.ownsRow lo 37 5 (.slice io k cap) k (flat c k)) (trees : ∀ i, (hi : i < xs.length) → InD D w h xs[i] (.agg #[c i 0, c i 1, c i 2, c i 3, c i 4])) : RwV w h xs io k cap c := by
  have hone := flat_one (w := w) (h := h) (c := c) k (fun i hi => ⟨_, (trees i (by omega)).toH⟩)
  rcases id own.2 with ⟨e, h0⟩ | ⟨g, cap', cur, e, e1, e2, e3, e4, _⟩
  · simp only [Value.slice.injEq] at e
    exact ⟨hlen, by omega, fun _ => ⟨by omega, by omega⟩, fun ad ha => (by rw [e.1] at ha; cases ha), hone, fun ad ha => (by rw [e.1] at ha; cases ha), fun i hi => (trees i hi).toH⟩
  · simp only [Value.slice.injEq] at e
    obtain ⟨rfl, _, rfl⟩ := e
    refine ⟨hlen, by omega, fun h => (by cases h), fun ad ha => ?_, hone, fun ad ha => (by injection ha with ha; exact ⟨g, ha.symm⟩), fun i hi => (trees i hi).toH⟩
    injection ha with ha
    subst ha
    refine ⟨fun j => (by rw [Addr.add_lit]; exact (Array.getElem?_eq_some_iff.1 e2).1), fun j u hu => ?_⟩
    have hj : j < k * 5 := by
      have := (List.getElem?_eq_some_iff.1 hu).1
      rw [flat_len] at this; exact this
    rw [Addr.add_lit, Nat.zero_add, own_cellAt own hj]
    exact hu
/-- two rows laid one behind the other -/
theorem two_rows {w : World} {lo h ka kb capa capb : Nat} {ioa iob : Option Addr} {ca cb : Nat → Fin 5 → Value} {xa xb : List VT} {v : Value} (ra : RwV w h xa ioa ka capa ca) (rb : RwV w h xb iob kb capb cb) (own : w.ownsRow lo 37 5 v (ka + kb) (flat ca ka ++ flat cb kb)) : ∃ io cap, v = .slice io (ka + kb) cap ∧ ka + kb ≤ cap ∧ VRw w h (xa ++ xb) io := by
  have la := ra.len
  have lb := rb.len
  rcases id own.2 with ⟨e, h0⟩ | ⟨g, cap', cur, e, e1, e2, e3, e4, _⟩
  · refine ⟨none, 0, by rw [e, h0], by omega, ⟨fun h => by rw [List.length_append] at h; omega⟩⟩
  · subst e
    refine ⟨_, _, rfl, by omega, ⟨fun _ => ⟨g, 0, rfl, (Array.getElem?_eq_some_iff.1 e2).1, fun i hi => ?_⟩⟩⟩
    rw [List.length_append] at hi
    have gt : ∀ j, j < (ka + kb) * 5 → w.cell? ⟨g, 0 + j, none⟩ = (flat ca ka ++ flat cb kb)[j]? := fun j hj => by rw [Nat.zero_add]; exact own_cellAt own hj
    by_cases hil : i < xa.length
    · have cc : ∀ j : Fin 5, w.cell? ⟨g, 0 + i * 5 + j.1, none⟩ = some (ca i j) := fun j => by
        have hj := j.2
        rw [Nat.add_assoc, gt _ (by omega), List.getElem?_append_left (by rw [flat_len]; omega)]
        exact flat_get _ _ i j (by omega)
      rw [List.getElem_append_left hil]
      exact ⟨_, _, _, _, _, ⟨cc 0, cc 1, cc 2, cc 3, cc 4⟩, ra.trees i hil⟩
    · have cc : ∀ j : Fin 5, w.cell? ⟨g, 0 + i * 5 + j.1, none⟩ = some (cb (i - xa.length) j) := fun j => by
        have hj := j.2
        rw [Nat.add_assoc, gt _ (by omega), List.getElem?_append_right (by rw [flat_len]; omega), flat_len]
        rw [show i * 5 + j.1 - ka * 5 = (i - xa.length) * 5 + j.1 from by rw [Nat.sub_mul, la]; omega]
        exact flat_get _ _ (i - xa.length) j (by omega)
      rw [List.getElem_append_right (by omega)]
      exact ⟨_, _, _, _, _, ⟨cc 0, cc 1, cc 2, cc 3, cc 4⟩, rb.trees _ (by omega)⟩
end Go.Proofs.YtfgfgcecbodjeaaGreatDoor
namespace Go.Proofs.YtfgfgcecbodjeaaGreatDoor
open Go.RowKit Go.Shelf Go.Sort
set_option linter.unusedVariables false
set_option linter.unusedSimpArgs false
attribute [local go_sem] Oper.semAt_some

set_option maxRecDepth 100000 in
set_option maxHeartbeats 6400000 in
theorem w_ReaderJoins (a b : ByteArray) (w : World) (sa : a.size ≤ 1048576) (sb : b.size ≤ 1048576) (hE : ErrIn w) : Calls Tryz.prog 7 #[.string a, .string b] w fun e w' => Below w.heap.size w w' ∧ e = .returned (.bool true) := by
  obtain ⟨i0, hi0, hz0, hz1, hz2⟩ := info_parts Tryz.infoVr
  have hsz : (a ++ ⟨#[32]⟩ ++ b : ByteArray).size = a.size + 1 + b.size := by rw [ByteArray.size_append, ByteArray.size_append]; rfl
  have hsz1 : (a ++ ⟨#[32]⟩ : ByteArray).size = a.size + 1 := by rw [ByteArray.size_append]; rfl
  have HF := Hid.mk (w_fixed5 w hE)
  have HMa := Hid.mk (fun u (h : ErrIn u) => w_Many5 a (by omega) u h)
  have HMb := Hid.mk (fun u (h : ErrIn u) => w_Many5 b (by omega) u h)
  have HMt := Hid.mk (fun u (h : ErrIn u) => w_Many5 (a ++ ⟨#[32]⟩ ++ b) (by omega) u h)
  have HOa := Hid.mk (fun u (h : ErrIn u) => w_One5 a (by omega) u h)
  have HJoin := Hid.mk (fun xa xb qa qb ha hb => each_join a b (a ++ ⟨#[32]⟩ ++ b) (join32 a b) (by omega) (by omega) (by omega) (xa := xa) (xb := xb) (qa := qa) (qb := qb) ha hb)
  have HOnly := Hid.mk (fun xa qa ha => only_each a (by omega) (xa := xa) (qa := qa) ha)
  have HLa := Hid.mk (eachL_len a (vL a) (vL_up (by omega)) (a.size + 1) [] 0 (Nat.zero_le _) (Nat.zero_le _))
  have HLb := Hid.mk (eachL_len b (vL b) (vL_up (by omega)) (b.size + 1) [] 0 (Nat.zero_le _) (Nat.zero_le _))
  have HSame := Hid.mk (fun (T : VT) (va vb : Value) (u : World) (h1 : InH u 65 T va) (h2 : InH u 65 T vb) => w_5Same 65 T va vb u h1 h2)
  have n1 : ¬ 9223372036854775807 < a.size + 1 := by omega
  have n2 : ¬ (9223372036854775807 : Int) < (a.size : Int) + 1 := by omega
  have n3 : ¬ 9223372036854775807 < a.size + 1 + b.size := by omega
  have n4 : ¬ (9223372036854775807 : Int) < (a.size : Int) + 1 + (b.size : Int) := by omega
  have n5 : ¬ 9223372036854775807 < (a ++ ⟨#[32]⟩ : ByteArray).size + b.size := by omega
  have n6 : ¬ (9223372036854775807 : Int) < ((a ++ ⟨#[32]⟩ : ByteArray).size : Int) + (b.size : Int) := by omega
  have HE := Hid.mk hE
  have HSz := Hid.mk (And.intro sa sb)
  clear hE hsz hsz1
  obtain ⟨Ra, hRa⟩ : ∃ R, eachL a.data.toList (vL a) (a.size + 1) [] 0 = R := ⟨_, rfl⟩
  obtain ⟨Rb, hRb⟩ : ∃ R, eachL b.data.toList (vL b) (b.size + 1) [] 0 = R := ⟨_, rfl⟩
  obtain ⟨Rt, hRt⟩ : ∃ R, eachL (a ++ ⟨#[32]⟩ ++ b : ByteArray).data.toList (vL (a ++ ⟨#[32]⟩ ++ b)) ((a ++ ⟨#[32]⟩ ++ b : ByteArray).size + 1) [] 0 = R := ⟨_, rfl⟩
  rw [hRa] at HMa HJoin HOnly HLa
  rw [hRb] at HMb HJoin HLb
  rw [hRt] at HMt HJoin
  clear hRa hRb hRt
  obtain ⟨xa, ea, qa⟩ := Ra
  obtain ⟨xb, eb, qb⟩ := Rb
  go_enter Tryz.func7, Tryz.ntmps7
  go_wp2_with fail
  refine HF.out.mono ?_
  rintro e w0 ⟨hb0, rfl⟩
  have HB0 := Hid.mk hb0
  clear hb0 HF
  go_wp2_with fail
  refine (HMa.out _ (HE.out.keep HB0.out)).mono ?_
  rintro e w1 ⟨hb1, hm1⟩
  have HB1 : Hid (Below w.heap.size w w1) := HB0.out.trans (hb1.mono HB0.out.size)
  clear hb1
  rcases hm1 with ⟨h0, ka, ioa, capa, ca, rfl, hMa⟩ | ⟨h0, rfl⟩
  · dsimp only at h0 hMa
    subst h0
    have HRa := Hid.mk (RwV.of hMa.len hMa.own hMa.trees)
    have hka : ka ≤ 1048576 := by have h1 := HRa.out.len; have h2 : xa.length ≤ a.size := HLa.out; have h3 := HSz.out.1; omega
    clear hMa
    go_wp2_with fail
    refine (HMb.out _ (HE.out.keep HB1.out)).mono ?_
    rintro e w2 ⟨hb2, hm2⟩
    have HB2 : Hid (Below w.heap.size w w2) := HB1.out.trans (hb2.mono HB1.out.size)
    have HRa2 := Hid.mk (HRa.out.keep hb2)
    clear hb2 HRa
    rcases hm2 with ⟨h0, kb, iob, capb, cb, rfl, hMb⟩ | ⟨h0, rfl⟩
    · dsimp only at h0 hMb
      subst h0
      have HRb2 := Hid.mk (RwV.of hMb.len hMb.own hMb.trees)
      have hkb : kb ≤ 1048576 := by have h1 := HRb2.out.len; have h2 : xb.length ≤ b.size := HLb.out; have h3 := HSz.out.2; omega
      clear hMb
      go_wp2_with fail
      refine (HMt.out _ (HE.out.keep HB2.out)).mono ?_
      rintro e w3 ⟨hb3, hm3⟩
      have HB3 : Hid (Below w.heap.size w w3) := HB2.out.trans (hb3.mono HB2.out.size)
      have HRa3 := Hid.mk (HRa2.out.keep hb3)
      have HRb3 := Hid.mk (HRb2.out.keep hb3)
      obtain ⟨hj1, hj2⟩ := HJoin.out xa xb qa qb rfl rfl
      clear hb3 HRa2 HRb2
      rcases hm3 with ⟨_, kt, iot, capt, ct, rfl, hMt⟩ | ⟨h0, _⟩
      · have HRt3 := Hid.mk (RwV.of hMt.len hMt.own hMt.trees)
        have HVt := Hid.mk (VRw.of hMt.len hMt.own hMt.trees)
        rw [hj1] at HRt3 HVt
        have hkt : kt = ka + kb := by have h1 := HRt3.out.len; have h2 := HRa3.out.len; have h3 := HRb3.out.len; rw [List.length_append] at h1; omega
        subst hkt
        clear hMt hj1 hj2
        obtain ⟨W4, hW4⟩ : ∃ W4, w3.alloc (.cells #[] 37) = W4 := ⟨_, rfl⟩
        have hb4 : Below w3.heap.size w3 W4 := by rw [← hW4]; exact below1 w3 _
        have hown4 : W4.ownsRow w3.heap.size 37 5 (.slice (some ⟨w3.heap.size, 0, none⟩) 0 0) 0 [] := by rw [← hW4]; exact own_empty5 w3
        have HRa4 := Hid.mk (HRa3.out.keep hb4)
        have hl4 : w3.heap.size ≤ W4.heap.size := hb4.size
        have HB4 := Hid.mk hb4
        have Hw4 : Hid (∀ ad, ioa = some ad → ∀ j u, (flat ca ka)[j]? = some u → W4.cell? (ad.add j) = some u) := fun ad e => (HRa4.out.at_ ad e).2
        clear hb4
        go_wp2_with (at_builtin; refine wpList_append_row (by rfl) _ _ 29 (by rfl) w3.heap.size 37 i0 (.agg #[.int .i64 0, .string ⟨#[]⟩, .string ⟨#[]⟩, .slice none 0 0, .slice none 0 0]) 5 88 Tryz.underlying29 hi0 hz0 hz1 hz2 rfl (by decide) _ _ _ (by rfl) hown4 ioa ka capa (flat ca ka) (by rfl) (flat_len _ _) (by cases hio : ioa with | none => exact .inl ⟨rfl, HRa4.out.nil hio⟩ | some ad => exact .inr ⟨ad, rfl, Hw4.out ad hio⟩) HRa4.out.one (by unfold maxLen; omega) (by omega) hl4 ?_)
        intro v5 w5 hown5 hgrow5 _
        (try rw [Nat.zero_add] at hown5)
        (try rw [List.nil_append] at hown5)
        have hb5 : Below w3.heap.size w3 w5 := HB4.out.grown hgrow5 hl4 (fun r e => by simp [Value.ownBlock] at e; omega)
        obtain ⟨p5, cap5, rfl⟩ : ∃ p5 cap5, v5 = .slice p5 ka cap5 := by
          rcases hown5.2 with ⟨e1, e2⟩ | ⟨g, cap, cur, e1, _⟩
          · exact ⟨none, 0, by rw [e1, e2]⟩
          · exact ⟨_, _, e1⟩
        have HRb5 := Hid.mk (HRb3.out.keep hb5)
        have hl5 : w3.heap.size ≤ w5.heap.size := hb5.size
        have HB5 := Hid.mk hb5
        have Hw5 : Hid (∀ ad, iob = some ad → ∀ j u, (flat cb kb)[j]? = some u → w5.cell? (ad.add j) = some u) := fun ad e => (HRb5.out.at_ ad e).2
        clear hb5 hgrow5 hown4 HRa4 Hw4 HB4 hl4 hW4 n1 n2 n3 n4 n5 n6
        go_wp2_with (at_builtin; refine wpList_append_row (by rfl) _ _ 29 (by rfl) w3.heap.size 37 i0 (.agg #[.int .i64 0, .string ⟨#[]⟩, .string ⟨#[]⟩, .slice none 0 0, .slice none 0 0]) 5 88 Tryz.underlying29 hi0 hz0 hz1 hz2 rfl (by decide) _ _ _ (by rfl) hown5 iob kb capb (flat cb kb) (by rfl) (flat_len _ _) (by cases hio : iob with | none => exact .inl ⟨rfl, HRb5.out.nil hio⟩ | some ad => exact .inr ⟨ad, rfl, Hw5.out ad hio⟩) HRb5.out.one (by unfold maxLen; omega) (by omega) hl5 ?_)
        intro v6 w6 hown6 hgrow6 _
        have hb6 : Below w3.heap.size w3 w6 := HB5.out.grown hgrow6 hl5 (fun r e => (own_cellsR hown5 e).choose_spec.2)
        obtain ⟨io6, cap6, rfl, hle6, hV6⟩ := two_rows (HRa3.out.keep hb6) (HRb3.out.keep hb6) hown6
        have HAl := Hid.mk (w_alike5 65 (ka + kb) (xa ++ xb) iot io6 capt cap6 w6 (by rw [List.length_append, HRa3.out.len, HRb3.out.len]) (HVt.out.1.keep hb6) hV6 HVt.out.2 hle6 (by omega))
        have HB6 := Hid.mk hb6
        clear hb6 hown6 hgrow6 hown5 HRb5 Hw5 HB5 hl5 hV6
        go_wp2_with fail
        refine HAl.out.mono ?_
        rintro e w7 ⟨rfl, hb7⟩
        have HB7 : Hid (Below w3.heap.size w3 w7) := HB6.out.trans (hb7.mono HB6.out.size)
        have HBw7 : Hid (Below w.heap.size w w7) := HB3.out.trans (HB7.out.mono HB3.out.size)
        have HRa7 := Hid.mk (HRa3.out.keep HB7.out)
        clear hb7 HAl HB6 HRa3 HRb3
        go_wp2_with fail
        refine (HOa.out _ (HE.out.keep HBw7.out)).mono ?_
        rintro e w8 ⟨hb8, hm8⟩
        have HB8 : Hid (Below w.heap.size w w8) := HBw7.out.trans (hb8.mono HBw7.out.size)
        have HRa8 := Hid.mk (HRa7.out.keep hb8)
        clear HRa7 hb8
        rcases HOnly.out xa qa rfl with ⟨T, q, hx, hon⟩ | ⟨hne, er, q, he0, hon⟩
        · rw [hon] at hm8
          obtain ⟨v, rfl, hF⟩ := hm8
          subst hx
          have hk1 : 1 = ka := HRa8.out.len
          subst hk1
          have HFv := Hid.mk hF.toH
          obtain ⟨jo, jc, jk, jkc, rfl, hrest⟩ := id hF
          have hA := HRa8.out.trees 0 (by show 0 < 1; omega)
          have hA' : InH w8 65 T (.agg #[ca 0 0, ca 0 1, ca 0 2, ca 0 3, ca 0 4]) := hA
          have HAv := Hid.mk hA'
          obtain ⟨po, pc, pk, pkc, hsh, _⟩ := id hA'
          simp only [Value.agg.injEq, Array.mk.injEq, List.cons.injEq, and_true] at hsh
          obtain ⟨s0, s1, s2, s3, s4⟩ := hsh
          obtain ⟨ad, had⟩ : ∃ ad, ioa = some ad := by
            cases hio : ioa with
            | none => exact absurd (HRa8.out.nil hio).1 (by decide)
            | some ad => exact ⟨ad, rfl⟩
          obtain ⟨g, rfl⟩ := HRa8.out.lit ad had
          subst had
          have hcl := (HRa8.out.at_ _ rfl).2
          have c0 := hcl 0 _ (flat_get ca 1 0 0 (by omega))
          have c1 := hcl 1 _ (flat_get ca 1 0 1 (by omega))
          have c2 := hcl 2 _ (flat_get ca 1 0 2 (by omega))
          have c3 := hcl 3 _ (flat_get ca 1 0 3 (by omega))
          have c4 := hcl 4 _ (flat_get ca 1 0 4 (by omega))
          rw [Addr.add_lit, Nat.zero_add] at c0 c1 c2 c3 c4
          rw [s0] at c0 HAv
          rw [s1] at c1 HAv
          rw [s2] at c2 HAv
          rw [s3] at c3 HAv
          rw [s4] at c4 HAv
          have hgl : g < w8.heap.size := by have := (HRa8.out.at_ _ rfl).1 0; rw [Addr.add_lit] at this; exact this
          have hcapa : 1 ≤ capa := HRa8.out.le
          obtain ⟨W9, hW9⟩ : ∃ W9, w8.alloc (.cells #[.int .i64 T.kind, .string T.num, .string T.text, .slice jo T.items.length jc, .slice jk T.keys.length jkc] 37) = W9 := ⟨_, rfl⟩
          have hb9 : Below w8.heap.size w8 W9 := by rw [← hW9]; exact below1 w8 _
          have hbx : W9.heap[w8.heap.size]? = some (.cells #[.int .i64 T.kind, .string T.num, .string T.text, .slice jo T.items.length jc, .slice jk T.keys.length jkc] 37 (0, 0)) := by rw [← hW9]; exact heap_alloc_new w8 _
          have kc : ∀ {o : Nat} {v : Value}, w8.cell? ⟨g, o, none⟩ = some v → W9.cell? ⟨g, o, none⟩ = some v := fun {o v} h => (World.cell?_of_block (a := ⟨g, o, none⟩) (hb9.block g hgl)).trans h
          obtain ⟨z0, z1, z2, z3, z4, _, _, _, _, _⟩ := vbox_cells hbx
          have HC := Hid.mk (fun (d : Nat) (os : Array Obj) => HSame.out T _ _ (grow (redrawn W9 d) os) ((HFv.out.keep hb9).keep (below_regrown W9 d os)) ((HAv.out.keep hb9).keep (below_regrown W9 d os)))
          have HB9 : Hid (Below w.heap.size w W9) := HB8.out.trans (hb9.mono HB8.out.size)
          have R0 := fun d os => cell_regrown (kc c0) d os
          have S0 := fun d os => cell_regrown z0 d os
          have R1 := fun d os => cell_regrown (kc c1) d os
          have S1 := fun d os => cell_regrown z1 d os
          have R2 := fun d os => cell_regrown (kc c2) d os
          have S2 := fun d os => cell_regrown z2 d os
          have R3 := fun d os => cell_regrown (kc c3) d os
          have S3 := fun d os => cell_regrown z3 d os
          have R4 := fun d os => cell_regrown (kc c4) d os
          have S4 := fun d os => cell_regrown z4 d os
          have HW9 := Hid.mk hW9
          clear hW9 hF hrest hA hA' s0 s1 s2 s3 s4 hcl c0 c1 c2 c3 c4 hb9 hbx kc z0 z1 z2 z3 z4 hon
          go_wp2_with fail
          rw [HW9.out]
          refine wp_region_quiet_below (by kernel_rfl) (by kernel_rfl) ?_
          repeat (go_big_quiet_step (exact Calls.regrown_of (HC.out _ _)))
          refine wpQuiet_nil ?_
          intro wz hw'
          have HBz : Hid (Below w.heap.size w wz) := by
            obtain ⟨⟨dq, osq⟩, rfl⟩ := hw'
            exact HB9.out.trans ((below_regrown W9 dq osq).mono HB9.out.size)
          clear hw'
          go_wp2_with fail
          refine bodyPost_ret (v := .bool true) (by simp [results, Tryz.results7, go_sem]) rfl ?_
          exact ⟨HBz.out, rfl⟩
        · rw [hon] at hm8
          have hm9 : e = .returned (.tuple #[v0V, .int .i64 (er : Int), .int .i64 (q : Int)]) := hm8
          subst hm9
          have hk1 : ka ≠ 1 := fun h => hne (by rw [HRa8.out.len]; exact h)
          have g1 : (((er : Nat) : Int) == 0) = false := by rw [beq_eq_false_iff_ne]; omega
          have g2 : (((er : Nat) : Int) != 0) = true := by simp [bne, g1]
          have g3 : (((ka : Nat) : Int) == 1) = false := by rw [beq_eq_false_iff_ne]; omega
          have g4 : (ka == 1) = false := by rw [beq_eq_false_iff_ne]; exact hk1
          have g5 : ¬ ((er : Nat) : Int) = 0 := by omega
          have g6 : ¬ ((ka : Nat) : Int) = 1 := by omega
          clear hm8 hon hne hk1 he0
          unfold v0V
          go_wp2_with fail
          refine wp_region_quiet_below (by kernel_rfl) (by kernel_rfl) ?_
          repeat (go_big_quiet_step (fail))
          refine wpQuiet_nil ?_
          intro wz hw'
          have HBz : Hid (Below w.heap.size w wz) := by
            obtain ⟨⟨dq, osq⟩, rfl⟩ := hw'
            have h9 := HB8.out.alloc HB8.out.size (.cells #[.int .i64 0, .string ⟨#[]⟩, .string ⟨#[]⟩, .slice none 0 0, .slice none 0 0] 37)
            exact h9.trans ((below_regrown _ dq osq).mono h9.size)
          clear hw'
          go_wp2_with fail
          refine bodyPost_ret (v := .bool true) (by simp [results, Tryz.results7, go_sem]) rfl ?_
          exact ⟨HBz.out, rfl⟩
      · exact absurd hj2 h0
    · have hcb : (((eb : Nat) : Int) == 0) = false := by rw [beq_eq_false_iff_ne]; dsimp only at h0; omega
      have hcn : ¬ ((eb : Nat) : Int) = 0 := by dsimp only at h0; omega
      clear h0
      dsimp only
      go_wp2_with fail
      refine (HMt.out _ (HE.out.keep HB2.out)).mono ?_
      intro e w3 hmw
      obtain ⟨hbw, io_w3, k_w3, cap_w3, er_w3, q_w3, rfl⟩ := manyW hmw
      have HB3 : Hid (Below w.heap.size w w3) := HB2.out.trans (hbw.mono HB2.out.size)
      clear hbw hmw
      clear n1 n2 n3 n4 n5 n6
      go_wp2_with fail
      refine bodyPost_ret (v := .bool true) (by simp [results, Tryz.results7, go_sem]) rfl ?_
      exact ⟨HB3.out, rfl⟩
  · have hcb : (((ea : Nat) : Int) == 0) = false := by rw [beq_eq_false_iff_ne]; dsimp only at h0; omega
    have hcn : ¬ ((ea : Nat) : Int) = 0 := by dsimp only at h0; omega
    clear h0
    dsimp only
    go_wp2_with fail
    refine (HMb.out _ (HE.out.keep HB1.out)).mono ?_
    intro e w2 hmw
    obtain ⟨hbw, io_w2, k_w2, cap_w2, er_w2, q_w2, rfl⟩ := manyW hmw
    have HB2 : Hid (Below w.heap.size w w2) := HB1.out.trans (hbw.mono HB1.out.size)
    clear hbw hmw
    go_wp2_with fail
    refine (HMt.out _ (HE.out.keep HB2.out)).mono ?_
    intro e w3 hmw
    obtain ⟨hbw, io_w3, k_w3, cap_w3, er_w3, q_w3, rfl⟩ := manyW hmw
    have HB3 : Hid (Below w.heap.size w w3) := HB2.out.trans (hbw.mono HB2.out.size)
    clear hbw hmw
    clear n1 n2 n3 n4 n5 n6
    go_wp2_with fail
    refine bodyPost_ret (v := .bool true) (by simp [results, Tryz.results7, go_sem]) rfl ?_
    exact ⟨HB3.out, rfl⟩
end Go.Proofs.YtfgfgcecbodjeaaGreatDoor
