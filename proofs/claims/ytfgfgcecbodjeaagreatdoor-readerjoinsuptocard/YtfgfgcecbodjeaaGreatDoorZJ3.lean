import Derived.Test.YtfgfgcecbodjeaaGreatDoorZJ2
import Derived.Test.YtfgfgcecbodjeaaGreatDoorZRR19
import Derived.Maps.AppendAt
namespace Go.Proofs.YtfgfgcecbodjeaaGreatDoor
open Go.RowKit Go.Shelf Go.Sort
set_option linter.unusedVariables false
set_option linter.unusedSimpArgs false
attribute [local go_sem] Oper.semAt_some

theorem run_append_nil5 (P : Program) (w : World) (t ty e : TypeId) (i : TypeInfo) (ht : P.underlying t = some (.slice e)) (hi : P.info? e = some i) (p : Option Addr) (n c : Nat) (hn : n ≤ c) :
    (Builtin.append_ #[t, t] ty #[.slice p n c, .slice none 0 0]).run P w = .ok (.slice p n c) w := by
  cases p with
  | none => simp [Builtin.append_, run_underlying ht, sizeOf, typeInfo, hi, Builtin.lenOf, hn, Builtin.firstCells]
  | some a => simp [Builtin.append_, run_underlying ht, sizeOf, typeInfo, hi, Builtin.lenOf, hn, Builtin.firstCells, storeCells]
/-- 'append(s, x...)' of a whole row -/
theorem wpList_append_row {P : Program} {w : World} {ops : Array Oper} {rest : List Oper} {o : Oper} {a : Act} {Q : Exit → Act → World → Prop} (hgd : o.guard = none) (s x : Operand) (t : TypeId)
    (ho : o.op = .call { callee := .builtin .append, args := #[s, x], argTypes := #[t, t] })
    (base : Nat) (e : TypeId) (i : TypeInfo) (z : Value) (size bytes : Nat) (ht : P.underlying t = some (.slice e)) (hi : P.info? e = some i) (hz : i.zero = some z)
    (hsize : i.size = size) (hby : i.bytes = bytes) (hzs : z.cells.size = size) (hsz : 0 < size)
    (v : Value) (n : Nat) (xs : List Value) (hs : a.eval s = v) (hown : w.ownsRow base e size v n xs)
    (io : Option Addr) (m c : Nat) (news : List Value) (hx : a.eval x = .slice io m c) (hl : news.length = m * size) (hrow : (io = none ∧ m = 0 ∧ c = 0) ∨ ∃ ad, io = some ad ∧ ∀ j u, news[j]? = some u → w.cell? (ad.add j) = some u) (h1 : ∀ u ∈ news, u.oneCell' = true)
    (h63 : n + m ≤ maxLen) (hbytes : (n + m) * bytes ≤ 140737488355328) (hbase : base ≤ w.heap.size)
    (h : ∀ v' w', w'.ownsRow base e size v' (n + m) (xs ++ news) → w.grownBy w' v.ownBlock → (v'.ownBlock = v.ownBlock ∨ v'.ownBlock = some w.heap.size) → wpList P ops Q rest (a.put o.dst v') w') : wpList P ops Q (o :: rest) a w := by
  rcases hrow with ⟨rfl, rfl, rfl⟩ | ⟨ad, rfl, hnews⟩
  · obtain rfl : news = [] := List.eq_nil_of_length_eq_zero (by rw [hl, Nat.zero_mul])
    obtain ⟨p, cap, rfl, hcap⟩ : ∃ p cap, v = .slice p n cap ∧ n ≤ cap := by
      rcases hown.2 with ⟨e1, e2⟩ | ⟨g, cap, cur, e1, _, _, e3, _⟩
      · exact ⟨none, 0, by rw [e1, e2], by omega⟩
      · exact ⟨_, _, e1, e3⟩
    refine wpList_plain hgd fun K hK => ?_
    have hr := run_append_nil5 P w t o.type e i ht hi p n cap hcap
    unfold Oper.wp execOp
    simp only [ho, resolve, invoke, builtin, Sem.run_bind, Sem.run_pure, Result.andThen_ok, List.map_toArray, List.map_cons, List.map_nil, hs, hx, hr]
    exact hK _ _ (h _ w (by rw [List.append_nil]; exact hown) ⟨rfl, rfl, rfl, Nat.le_refl _, fun _ _ _ => rfl⟩ (.inl rfl))
  · exact wpList_append_own_at (P := P) w hgd s x t ho base e i z size bytes ht hi hz hsize hby hzs hsz v n xs hs hown ad m c news hx hl hnews h1 h63 hbytes hbase (fun v' w' a1 a2 _ a4 => h v' w' a1 a2 a4)
theorem join32 (a b : ByteArray) : (a ++ ⟨#[32]⟩ ++ b).data.toList = a.data.toList ++ 32 :: b.data.toList := by simp
theorem manyW {H : Nat} {R : List VT × Nat × Nat} {w w' : World} {e : Ending} (h : ManyR H R w e w') : Below w.heap.size w w' ∧ ∃ (io : Option Addr) (k cap er q : Nat), e = .returned (.tuple #[.slice io k cap, .int .i64 (er : Int), .int .i64 (q : Int)]) := by
  obtain ⟨hb, hw⟩ := h
  refine ⟨hb, ?_⟩
  rcases hw with ⟨_, k, io, cap, c, rfl, _⟩ | ⟨_, rfl⟩
  · exact ⟨io, k, cap, 0, 0, rfl⟩
  · exact ⟨none, 0, 0, _, _, rfl⟩
/-- a row of values, and the row's cells -/
structure RwV (w : World) (h : Nat) (xs : List VT) (io : Option Addr) (k cap : Nat) (c : Nat → Fin 5 → Value) : Prop where
  len : xs.length = k
  le : k ≤ cap
  nil : io = none → k = 0 ∧ cap = 0
  at_ : ∀ ad, io = some ad → (∀ j, (ad.add j).block < w.heap.size) ∧ ∀ j u, (flat c k)[j]? = some u → w.cell? (ad.add j) = some u
  one : ∀ u ∈ flat c k, u.oneCell' = true
  lit : ∀ ad, io = some ad → ∃ g, ad = ⟨g, 0, none⟩
  trees : ∀ i, (hi : i < xs.length) → InH w h xs[i] (.agg #[c i 0, c i 1, c i 2, c i 3, c i 4])
theorem RwV.keep {w w' : World} {h : Nat} {xs : List VT} {io : Option Addr} {k cap : Nat} {c : Nat → Fin 5 → Value} (r : RwV w h xs io k cap c) (hb : Below w.heap.size w w') : RwV w' h xs io k cap c :=
  ⟨r.len, r.le, r.nil, fun ad e => ⟨fun j => Nat.lt_of_lt_of_le ((r.at_ ad e).1 j) hb.size, fun j u hu => (hb.cell (p := ad.add j) ((r.at_ ad e).1 j)).trans ((r.at_ ad e).2 j u hu)⟩, r.one, r.lit, fun i hi => (r.trees i hi).keep hb⟩
theorem flat_one {w : World} {h : Nat} {c : Nat → Fin 5 → Value} : ∀ k : Nat, (∀ i, i < k → ∃ T, InH w h T (.agg #[c i 0, c i 1, c i 2, c i 3, c i 4])) → ∀ u ∈ flat c k, u.oneCell' = true
  | 0, _, u, hu => by cases hu
  | k + 1, H, u, hu => by
    rw [flat_up] at hu
    rcases List.mem_append.1 hu with hu | hu
    · exact flat_one k (fun i hi => H i (by omega)) u hu
    · obtain ⟨T, hT⟩ := H k (by omega)
      obtain ⟨_, _, _, _, _, _, _, _, _, e⟩ := inH_shape hT
      simp only [Value.agg.injEq, Array.mk.injEq, List.cons.injEq, and_true] at e
      obtain ⟨e0, e1, e2, e3, e4⟩ := e
      rw [e0, e1, e2, e3, e4] at hu
      simp at hu
      rcases hu with rfl | rfl | rfl | rfl | rfl <;> rfl
theorem RwV.of {w : World} {lo h k cap : Nat} {io : Option Addr} {c : Nat → Fin 5 → Value} {xs : List VT} {D : Nat → Prop} (hlen : xs.length = k) (own : w.ownsRow lo 37 5 (.slice io k cap) k (flat c k)) (trees : ∀ i, (hi : i < xs.length) → InD D w h xs[i] (.agg #[c i 0, c i 1, c i 2, c i 3, c i 4])) : RwV w h xs io k cap c := by
  have hone := flat_one (w := w) (h := h) (c := c) k (fun i hi => ⟨_, (trees i (by omega)).toH⟩)
  rcases id own.2 with ⟨e, h0⟩ | ⟨g, cap', cur, e, e1, e2, e3, e4, _⟩
  · simp only [Value.slice.injEq] at e
    exact ⟨hlen, by omega, fun _ => ⟨by omega, by omega⟩, fun ad ha => (by rw [e.1] at ha; cases ha), hone, fun ad ha => (by rw [e.1] at ha; cases ha), fun i hi => (trees i hi).toH⟩
  · simp only [Value.slice.injEq] at e
    obtain ⟨rfl, _, rfl⟩ := e
    refine ⟨hlen, by omega, fun h => (by cases h), fun ad ha => ?_, hone, fun ad ha => (by injection ha with ha; exact ⟨g, ha.symm⟩), fun i hi => (trees i hi).toH⟩
    injection ha with ha
    subst ha
    refine ⟨fun j => (by rw [Addr.add_lit]; exact (Array.getElem?_eq_some_iff.1 e2).1), fun j u hu => ?_⟩
    have hj : j < k * 5 := by
      have := (List.getElem?_eq_some_iff.1 hu).1
      rw [flat_len] at this; exact this
    rw [Addr.add_lit, Nat.zero_add, own_cellAt own hj]
    exact hu
/-- two rows laid one behind the other -/
theorem two_rows {w : World} {lo h ka kb capa capb : Nat} {ioa iob : Option Addr} {ca cb : Nat → Fin 5 → Value} {xa xb : List VT} {v : Value} (ra : RwV w h xa ioa ka capa ca) (rb : RwV w h xb iob kb capb cb) (own : w.ownsRow lo 37 5 v (ka + kb) (flat ca ka ++ flat cb kb)) : ∃ io cap, v = .slice io (ka + kb) cap ∧ ka + kb ≤ cap ∧ VRw w h (xa ++ xb) io := by
  have la := ra.len
  have lb := rb.len
  rcases id own.2 with ⟨e, h0⟩ | ⟨g, cap', cur, e, e1, e2, e3, e4, _⟩
  · refine ⟨none, 0, by rw [e, h0], by omega, ⟨fun h => by rw [List.length_append] at h; omega⟩⟩
  · subst e
    refine ⟨_, _, rfl, by omega, ⟨fun _ => ⟨g, 0, rfl, (Array.getElem?_eq_some_iff.1 e2).1, fun i hi => ?_⟩⟩⟩
    rw [List.length_append] at hi
    have gt : ∀ j, j < (ka + kb) * 5 → w.cell? ⟨g, 0 + j, none⟩ = (flat ca ka ++ flat cb kb)[j]? := fun j hj => by rw [Nat.zero_add]; exact own_cellAt own hj
    by_cases hil : i < xa.length
    · have cc : ∀ j : Fin 5, w.cell? ⟨g, 0 + i * 5 + j.1, none⟩ = some (ca i j) := fun j => by
        have hj := j.2
        rw [Nat.add_assoc, gt _ (by omega), List.getElem?_append_left (by rw [flat_len]; omega)]
        exact flat_get _ _ i j (by omega)
      rw [List.getElem_append_left hil]
      exact ⟨_, _, _, _, _, ⟨cc 0, cc 1, cc 2, cc 3, cc 4⟩, ra.trees i hil⟩
    · have cc : ∀ j : Fin 5, w.cell? ⟨g, 0 + i * 5 + j.1, none⟩ = some (cb (i - xa.length) j) := fun j => by
        have hj := j.2
        rw [Nat.add_assoc, gt _ (by omega), List.getElem?_append_right (by rw [flat_len]; omega), flat_len]
        rw [show i * 5 + j.1 - ka * 5 = (i - xa.length) * 5 + j.1 from by rw [Nat.sub_mul, la]; omega]
        exact flat_get _ _ (i - xa.length) j (by omega)
      rw [List.getElem_append_right (by omega)]
      exact ⟨_, _, _, _, _, ⟨cc 0, cc 1, cc 2, cc 3, cc 4⟩, rb.trees _ (by omega)⟩
end Go.Proofs.YtfgfgcecbodjeaaGreatDoor
