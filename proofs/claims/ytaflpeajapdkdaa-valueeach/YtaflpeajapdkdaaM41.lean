import Derived.Test.YtaflpeajapdkdaaM40
import Derived.WalkKit
import Derived.Maps.AppendAt
import Derived.Deep.Onto
import Derived.ChangeAgain
namespace Go.Proofs.Ytaflpeajapdkdaa
open Go.RowKit Go.Shelf Go.Sort Go.Maps Go.WideMaps
set_option linter.unusedVariables false
set_option linter.unusedSimpArgs false
attribute [local go_sem] Oper.semAt_some

/-- whatever lies in a row of one's own still lies in a row of that length; only rows of texts and of values have been written into -/
def Shp (w w' : World) : Prop := ∀ (g : Nat) (cur : Array Value) (e : TypeId), w.heap[g]? = some (.cells cur e (0, 0)) → ∃ cur' : Array Value, w'.heap[g]? = some (.cells cur' e (0, 0)) ∧ cur'.size = cur.size ∧ (e ≠ 9 → e ≠ 25 → cur' = cur)
theorem Shp.refl (w : World) : Shp w w := fun g cur e h => ⟨cur, h, rfl, fun _ _ => rfl⟩
theorem Shp.trans {a b c : World} (h : Shp a b) (k : Shp b c) : Shp a c := fun g cur e hg => by
  obtain ⟨c1, h1, h2, h3⟩ := h g cur e hg
  obtain ⟨c2, k1, k2, k3⟩ := k g c1 e h1
  exact ⟨c2, k1, k2.trans h2, fun p q => (k3 p q).trans (h3 p q)⟩
theorem Shp.alloc {w w' : World} (h : Shp w w') (o : Obj) : Shp w (w'.alloc o) := fun g cur e hg => by
  obtain ⟨c1, h1, h2, h3⟩ := h g cur e hg
  exact ⟨c1, (Below.heap_alloc w' o g (Array.getElem?_eq_some_iff.1 h1).1).trans h1, h2, h3⟩
/-- a row of one's own stays one -/
theorem Shp.own {w w' : World} (h : Shp w w') {B e size n : Nat} {v : Value} {xs : List Value} (ho : w.ownsRow B e size v n xs) : ∃ ys, w'.ownsRow B e size v n ys := by
  rcases ho.2 with ⟨h1, h2⟩ | ⟨g, cap, cur, e1, e2, e3, e4, e5, e6, e7⟩
  · exact ⟨xs, ho.1, .inl ⟨h1, h2⟩⟩
  · obtain ⟨c', k1, k2, _⟩ := h g cur e e3
    refine ⟨c'.toList.take (n * size), ?_, .inr ⟨g, cap, c', e1, e2, k1, e4, e5, k2.trans e6, rfl⟩⟩
    rw [List.length_take, Array.length_toList, k2, e6, Nat.min_eq_left (Nat.mul_le_mul_right _ e4)]
theorem Shp.ownSame {w w' : World} (h : Shp w w') {B e size n : Nat} {v : Value} {xs : List Value} (ho : w.ownsRow B e size v n xs) (h9 : e ≠ 9) (hV : e ≠ 25) : w'.ownsRow B e size v n xs := by
  rcases ho.2 with ⟨h1, h2⟩ | ⟨g, cap, cur, e1, e2, e3, e4, e5, e6, e7⟩
  · exact ⟨ho.1, .inl ⟨h1, h2⟩⟩
  · obtain ⟨c', k1, k2, k3⟩ := h g cur e e3
    rw [k3 h9 hV] at k1
    exact ⟨ho.1, .inr ⟨g, cap, cur, e1, e2, k1, e4, e5, e6, e7⟩⟩

/-- a row of one's own, as a slice that came in -/
theorem came_own {w : World} {B e size n cap g : Nat} {xs : List Value} (h : w.ownsRow B e size (.slice (some ⟨g, 0, none⟩) n cap) n xs) : Came w size (some ⟨g, 0, none⟩) g 0 n cap xs := by
  rcases h.2 with ⟨h1, _⟩ | ⟨g', cap', cur, e1, e2, e3, e4, e5, e6, e7⟩
  · cases h1
  · cases e1
    refine ⟨e4, fun _ => rfl, fun _ => (Array.getElem?_eq_some_iff.1 e3).1, h.1, fun j u hu => ?_, fun j hj => ?_⟩
    · rw [Nat.zero_add]
      have := h.cellAt j (by rw [← h.1]; exact (List.getElem?_eq_some_iff.1 hu).1)
      exact this.trans hu
    · have h2 : 0 + n * size + j < cur.size := by
        rw [e6]
        have : (cap - n) * size = cap * size - n * size := Nat.sub_mul _ _ _
        omega
      refine ⟨?_, ?_⟩
      · rw [show w.cell? ⟨g, 0 + n * size + j, none⟩ = cur[0 + n * size + j]? from by simp [World.cell?, e3]]
        rw [Array.getElem?_eq_getElem h2]; rfl
      · simp [World.frozen?, e3]

section
variable {P : Program}
/-- ONE MORE BEHIND A ROW OF ONE'S OWN: what else is known: all rows stay rows of their lengths -/
theorem run_append_sh (w : World) (base : Nat) (t ty e : TypeId) (i : TypeInfo) (z : Value) (size bytes : Nat) (ht : P.underlying t = some (.slice e)) (hi : P.info? e = some i) (hz : i.zero = some z)
    (hsize : i.size = size) (hby : i.bytes = bytes) (hzs : z.cells.size = size) (hsz : 0 < size)
    (v : Value) (n : Nat) (xs : List Value) (hown : w.ownsRow base e size v n xs)
    (a : Addr) (c : Nat) (news : List Value) (hl : news.length = 1 * size) (hnews : ∀ j u, news[j]? = some u → w.cell? (a.add j) = some u) (h1 : ∀ u ∈ news, u.oneCell' = true)
    (h63 : n + 1 ≤ maxLen) (hbytes : (n + 1) * bytes ≤ 140737488355328) (hbase : base ≤ w.heap.size) (hte : e = 9 ∨ e = 25) :
    ∃ v' w', (Builtin.append_ #[t, t] ty #[v, .slice (some a) 1 c]).run P w = .ok v' w' ∧ w'.ownsRow base e size v' (n + 1) (xs ++ news) ∧ w.grownBy w' v.ownBlock ∧ Shp w w' := by
  obtain ⟨v', w', hr, h2, h3, h4, h5⟩ := run_append_own_at (P := P) w base t ty e i z size bytes ht hi hz hsize hby hzs hsz v n xs hown a 1 c news hl hnews h1 h63 hbytes hbase
  refine ⟨v', w', hr, h2, h3, fun g cur e' hg => ?_⟩
  have hgl := (Array.getElem?_eq_some_iff.1 hg).1
  by_cases hgo : some g = v.ownBlock
  · rcases hown.2 with ⟨h6, _⟩ | ⟨g', cap, cur', e1, e2, e3, e4, e5, e6, e7⟩
    · rw [h6] at hgo; cases hgo
    · subst e1
      have hgg : g = g' := by simpa [Value.ownBlock] using hgo
      subst hgg
      rw [hg] at e3
      simp only [Option.some.injEq, Obj.cells.injEq] at e3
      obtain ⟨rfl, rfl, _⟩ := e3
      have hc := came_own hown
      obtain ⟨v2, w2, hr2, hon⟩ := run_append_onto (P := P) hc t ty i z bytes ht hi hz hsize hby hzs hsz (Onto.start (e := e') hc) a c news hl hnews h1 h63 hbytes
      rw [hr] at hr2
      simp only [Result.ok.injEq] at hr2
      obtain ⟨rfl, rfl⟩ := hr2
      have hne : e' ≠ 9 → e' ≠ 25 → False := fun p q => hte.elim p q
      rcases hon.val with ⟨k1, k2⟩ | ⟨k1, k2⟩
      · rcases h2.2 with ⟨k3, _⟩ | ⟨g2, cap2, cur2, f1, f2, f3, f4, f5, f6, f7⟩
        · rw [k2] at k3; cases k3
        · rw [k2] at f1
          simp only [Value.slice.injEq, Option.some.injEq, Addr.mk.injEq] at f1
          obtain ⟨⟨rfl, _⟩, _, rfl⟩ := f1
          exact ⟨cur2, f3, f6.trans e6.symm, fun p q => (hne p q).elim⟩
      · have hb := hon.kept.block hgl (fun p hp => by
          obtain ⟨j, hj1, hj2, _⟩ := hp
          have : cap - n = 0 := by omega
          rw [this] at hj2
          simp at hj2)
        exact ⟨cur, hb.trans hg, rfl, fun _ _ => rfl⟩
  · exact ⟨cur, (h3.block g hgl hgo).trans hg, rfl, fun _ _ => rfl⟩

theorem wpList_append_sh {w : World} {ops : Array Oper} {rest : List Oper} {o : Oper} {a : Act} {Q : Exit → Act → World → Prop} (hgd : o.guard = none) (s x : Operand) (t : TypeId)
    (ho : o.op = .call { callee := .builtin .append, args := #[s, x], argTypes := #[t, t] })
    (base : Nat) (e : TypeId) (i : TypeInfo) (z : Value) (size bytes : Nat) (ht : P.underlying t = some (.slice e)) (hi : P.info? e = some i) (hz : i.zero = some z)
    (hsize : i.size = size) (hby : i.bytes = bytes) (hzs : z.cells.size = size) (hsz : 0 < size)
    (v : Value) (n : Nat) (xs : List Value) (hs : a.eval s = v) (hown : w.ownsRow base e size v n xs)
    (ad : Addr) (c : Nat) (news : List Value) (hx : a.eval x = .slice (some ad) 1 c) (hl : news.length = 1 * size) (hnews : ∀ j u, news[j]? = some u → w.cell? (ad.add j) = some u) (h1 : ∀ u ∈ news, u.oneCell' = true)
    (h63 : n + 1 ≤ maxLen) (hbytes : (n + 1) * bytes ≤ 140737488355328) (hbase : base ≤ w.heap.size) (hte : e = 9 ∨ e = 25)
    (h : ∀ v' w', w'.ownsRow base e size v' (n + 1) (xs ++ news) → w.grownBy w' v.ownBlock → Shp w w' → wpList P ops Q rest (a.put o.dst v') w') :
    wpList P ops Q (o :: rest) a w := by
  refine wpList_plain hgd fun K hK => ?_
  obtain ⟨v', w', hr, h2, h3, h4⟩ := run_append_sh (P := P) w base t o.type e i z size bytes ht hi hz hsize hby hzs hsz v n xs hown ad c news hl hnews h1 h63 hbytes hbase hte
  unfold Oper.wp execOp
  simp only [ho, resolve, invoke, builtin, Sem.run_bind, Sem.run_pure, Result.andThen_ok, List.map_toArray, List.map_cons, List.map_nil, hs, hx, hr]
  exact hK _ _ (h v' w' h2 h3 h4)
end

theorem own_baseE {w : World} {base : Nat} {e : TypeId} {size : Nat} {v : Value} {n : Nat} {xs : List Value} (h : w.ownsRow base e size v n xs) : ∀ k, v.ownBlock = some k → base ≤ k := by
  intro k hk
  obtain ⟨_, ⟨rfl, _⟩ | ⟨g, cap, cur, rfl, hg, _⟩⟩ := h
  · cases hk
  · simp [Value.ownBlock] at hk; omega
theorem below_appE {B : Nat} {w wr w1 : World} {e : TypeId} {size : Nat} {v : Value} {n : Nat} {xs : List Value} {o : Obj} (hown : wr.ownsRow B e size v n xs) (hBw : B ≤ wr.heap.size) (hb : Below B w wr) (hg : (wr.alloc o).grownBy w1 v.ownBlock) : Below B w w1 :=
  (hb.alloc hBw o).grown hg (by simp; omega) (own_baseE hown)

set_option maxRecDepth 100000 in
set_option maxHeartbeats 6400000 in
/-- more texts behind a row of one's own -/
theorem w_growKeys (B : Nat) (v : Value) (n : Nat) (w : World) (hB : B ≤ w.heap.size) (hn : n ≤ 1048577) (hown : ∃ xs, w.ownsRow B 9 1 v n xs) :
    Calls Try.prog 27 #[v] w fun e w' => (∃ r, e = .returned r) ∧ Hid (Below B w w' ∧ Shp w w') := by
  obtain ⟨j0, hj0, hy0, hy1, hy2⟩ := info_parts Try.infoSt
  have H0 : Hid (∃ xs, w.ownsRow B 9 1 v (n + 0) xs) := hown
  have HB0 := Hid.mk (Below.refl B w)
  have HS0 := Hid.mk (Shp.refl w)
  clear hown
  go_enter Try.func27, Try.ntmps27
  go_wp2_with fail
  go_loopw [0, 2] (fun l i wr => ∃ (k : Nat), k ≤ 40 ∧ i = .int .i64 (k : Int) ∧ Hid (Below B w wr) ∧ Hid (Shp w wr) ∧ Hid (∃ xs, wr.ownsRow B 9 1 l (n + k) xs)) (fun _ i _ => 40 - (intOf i).toNat)
  case atStart => exact ⟨0, Nat.zero_le _, rfl, HB0, HS0, H0⟩
  case round =>
    obtain ⟨k, hk, rfl, HB, HS, HO⟩ := hrel
    have hsz := HB.out.size
    by_cases hlt : k < 40
    · have hl1 : (k : Int) < 40 := by omega
      obtain ⟨xs, hown⟩ := HO.out
      go_wp2_with (at_builtin; go_loud (refine wpList_append_sh (by rfl) _ _ 23 (by rfl) B 9 j0 (.string ⟨#[]⟩) 1 16 Try.underlying23 hj0 hy0 hy1 hy2 rfl (by decide) _ _ _ (by rfl) (hown.alloc _) ⟨wr.heap.size, 0, none⟩ 1 [.string ⟨#[103, 114, 111, 119, 110]⟩] (by rfl) (by rfl) (World.news_of_block (cs := #[.string ⟨#[103, 114, 111, 119, 110]⟩]) (fr := (0, 0)) (heap_alloc_new wr _)) (by simp [Value.oneCell']) (by unfold maxLen; omega) (by omega) (by simp; omega) (.inl rfl) ?_))
      intro v' w4 hown4 hgrow4 hsh4
      have HB4 := Hid.mk (below_appE hown (by omega) HB.out hgrow4)
      have HS4 := Hid.mk ((HS.out.alloc _).trans hsh4)
      have HO4 : Hid (∃ ys, w4.ownsRow B 9 1 v' (n + (k + 1)) ys) := ⟨_, hown4⟩
      clear hown4 hgrow4 hsh4 hown
      go_wp2_with fail
      go_roundw
      case rel => exact ⟨k + 1, hlt, by go_num, HB4, HS4, HO4⟩
      case measure => simp [intOf]; omega
    · have hl1 : ¬ (k : Int) < 40 := by omega
      have HF : Hid (Below B w wr ∧ Shp w wr) := ⟨HB.out, HS.out⟩
      clear HB HS HO
      go_wp2_with fail
      refine bodyPost_end (results_none rfl _ _ _) rfl ?_
      exact ⟨⟨_, rfl⟩, HF⟩
set_option maxRecDepth 100000 in
set_option maxHeartbeats 6400000 in
/-- more values behind a row of one's own -/
theorem w_growItems (B : Nat) (v : Value) (sd : Int) (n : Nat) (w : World) (hB : B ≤ w.heap.size) (hn : n ≤ 1048577) (hown : ∃ xs, w.ownsRow B 25 5 v n xs) :
    Calls Try.prog 26 #[v, .int .i64 sd] w fun e w' => (∃ r, e = .returned r) ∧ Hid (Below B w w' ∧ Shp w w') := by
  obtain ⟨j0, hj0, hy0, hy1, hy2⟩ := info_parts Try.infoV
  have H0 : Hid (∃ xs, w.ownsRow B 25 5 v (n + 0) xs) := hown
  have HB0 := Hid.mk (Below.refl B w)
  have HS0 := Hid.mk (Shp.refl w)
  clear hown
  go_enter Try.func26, Try.ntmps26
  go_wp2_with fail
  go_loopw [0, 4] (fun l i wr => ∃ (k : Nat), k ≤ 40 ∧ i = .int .i64 (k : Int) ∧ Hid (Below B w wr) ∧ Hid (Shp w wr) ∧ Hid (∃ xs, wr.ownsRow B 25 5 l (n + k) xs)) (fun _ i _ => 40 - (intOf i).toNat)
  case atStart => exact ⟨0, Nat.zero_le _, rfl, HB0, HS0, H0⟩
  case round =>
    obtain ⟨k, hk, rfl, HB, HS, HO⟩ := hrel
    have hsz := HB.out.size
    by_cases hlt : k < 40
    · have hl1 : (k : Int) < 40 := by omega
      obtain ⟨xs, hown⟩ := HO.out
      go_wp2_with (at_builtin; go_loud (refine wpList_append_sh (by rfl) _ _ 22 (by rfl) B 25 j0 (.agg #[.int .i64 0, .string ⟨#[]⟩, .string ⟨#[]⟩, .slice none 0 0, .slice none 0 0]) 5 88 Try.underlying22 hj0 hy0 hy1 hy2 rfl (by decide) _ _ _ (by rfl) (hown.alloc _) ⟨wr.heap.size, 0, none⟩ 1 [.int .i64 (wrap64 (-7 - sd)), .string ⟨#[103, 114, 111, 119, 110]⟩, .string ⟨#[]⟩, .slice none 0 0, .slice none 0 0] (by rfl) (by rfl) (World.news_of_block (cs := #[.int .i64 (wrap64 (-7 - sd)), .string ⟨#[103, 114, 111, 119, 110]⟩, .string ⟨#[]⟩, .slice none 0 0, .slice none 0 0]) (fr := (0, 0)) (heap_alloc_new wr _)) (by simp [Value.oneCell']) (by unfold maxLen; omega) (by omega) (by simp; omega) (.inr rfl) ?_))
      intro v' w4 hown4 hgrow4 hsh4
      have HB4 := Hid.mk (below_appE hown (by omega) HB.out hgrow4)
      have HS4 := Hid.mk ((HS.out.alloc _).trans hsh4)
      have HO4 : Hid (∃ ys, w4.ownsRow B 25 5 v' (n + (k + 1)) ys) := ⟨_, hown4⟩
      clear hown4 hgrow4 hsh4 hown
      go_wp2_with fail
      go_roundw
      case rel => exact ⟨k + 1, hlt, by go_num, HB4, HS4, HO4⟩
      case measure => simp [intOf]; omega
    · have hl1 : ¬ (k : Int) < 40 := by omega
      have HF : Hid (Below B w wr ∧ Shp w wr) := ⟨HB.out, HS.out⟩
      clear HB HS HO
      go_wp2_with fail
      refine bodyPost_end (results_none rfl _ _ _) rfl ?_
      exact ⟨⟨_, rfl⟩, HF⟩
end Go.Proofs.Ytaflpeajapdkdaa
namespace Go.Proofs.Ytaflpeajapdkdaa
open Go.RowKit Go.Shelf Go.Sort Go.Maps Go.WideMaps
set_option linter.unusedVariables false
set_option linter.unusedSimpArgs false
attribute [local go_sem] Oper.semAt_some

theorem Shp.of_below {w w' : World} (h : Below w.heap.size w w') : Shp w w' := fun g cur e hg => ⟨cur, (h.block g (Array.getElem?_eq_some_iff.1 hg).1).trans hg, rfl, fun _ _ => rfl⟩

set_option maxRecDepth 100000 in
set_option maxHeartbeats 3200000 in
theorem w_markItem (a b : Int) (w : World) : Calls Try.prog 24 #[.int .i64 a, .int .i64 b] w fun e w' => (∃ x, e = .returned (.agg #[.int .i64 x, .string ⟨#[]⟩, .string ⟨#[]⟩, .slice none 0 0, .slice none 0 0])) ∧ Below w.heap.size w w' := by
  go_enter Try.func24, Try.ntmps24
  go_wp2_with fail
  refine bodyPost_ret (v := .agg #[.int .i64 (wrap64 (wrap64 (1000 + wrap64 (a * 100000)) + b)), .string ⟨#[]⟩, .string ⟨#[]⟩, .slice none 0 0, .slice none 0 0]) (by simp [results, Try.results24, go_sem]) rfl ?_
  exact ⟨⟨_, rfl⟩, below1 _ _⟩

set_option maxRecDepth 100000 in
set_option maxHeartbeats 3200000 in
theorem w_markKey (a b : Int) (w : World) : Calls Try.prog 25 #[.int .i64 a, .int .i64 b] w fun e w' => (∃ s, e = .returned (.string s)) ∧ Below w.heap.size w w' := by
  have h := run_convert_bytes_arg (P := Try.prog) (w.alloc (Obj.cells #[Value.int IntKind.u8 35, Value.int IntKind.u8 (a % 256), Value.int IntKind.u8 (b / 256 % 256), Value.int IntKind.u8 (b % 256)] 5)) 56 5 (by kernel_rfl) (by kernel_rfl) w.heap.size 0 4 4 [35, a % 256, b / 256 % 256, b % 256] rfl (fun i hi => by
    have hn := heap_alloc_new w (Obj.cells #[Value.int IntKind.u8 35, Value.int IntKind.u8 (a % 256), Value.int IntKind.u8 (b / 256 % 256), Value.int IntKind.u8 (b % 256)] 5)
    match i, hi with
    | 0, _ => exact cell_of_row _ _ 0 _ _ _ hn
    | 1, _ => exact cell_of_row _ _ 1 _ _ _ hn
    | 2, _ => exact cell_of_row _ _ 2 _ _ _ hn
    | 3, _ => exact cell_of_row _ _ 3 _ _ _ hn) 9 (by kernel_rfl)
  go_enter Try.func25, Try.ntmps25
  go_wp2_with fail
  go_ret
  exact ⟨⟨_, rfl⟩, below1 _ _⟩

theorem Shp.drew {w w' : World} (h : Shp w w') : Shp w w'.drew := h
theorem Shp.setCell {w u : World} (h : Shp w u) {g : Nat} {cur : Array Value} {e : TypeId} (hg : u.heap[g]? = some (.cells cur e (0, 0))) (he : e = 9 ∨ e = 25) (o : Nat) (v : Value) : Shp w (u.setCell ⟨g, o, none⟩ v) ∧ ∃ cur', (u.setCell ⟨g, o, none⟩ v).heap[g]? = some (.cells cur' e (0, 0)) := by
  have hs : (u.setCell ⟨g, o, none⟩ v).heap[g]? = some (.cells (cur.setIfInBounds o v) e (0, 0)) := heap_setCell_same u g o cur e v hg
  refine ⟨fun b c t hb => ?_, _, hs⟩
  obtain ⟨c1, h1, h2, h3⟩ := h b c t hb
  by_cases hbg : b = g
  · subst hbg
    rw [hg] at h1
    simp only [Option.some.injEq, Obj.cells.injEq] at h1
    obtain ⟨rfl, rfl, _⟩ := h1
    refine ⟨_, hs, by rw [Array.size_setIfInBounds]; exact h2, fun p q => ?_⟩
    rcases he with he | he
    · exact absurd he p
    · exact absurd he q
  · exact ⟨c1, (RowKit.Below.heap_setCell u ⟨g, o, none⟩ v b hbg).trans h1, h2, h3⟩
theorem Shp.setCells {w : World} {g : Nat} {e : TypeId} (he : e = 9 ∨ e = 25) : ∀ (vs : List Value) (o : Nat) (u : World) (cur : Array Value), Shp w u → u.heap[g]? = some (.cells cur e (0, 0)) → Shp w (u.setCells g o vs)
  | [], _, _, _, h, _ => h
  | v :: r, o, u, cur, h, hg => by
    obtain ⟨h1, c2, h2⟩ := h.setCell hg he o v
    exact Shp.setCells he r (o + 1) _ c2 h1 h2
theorem below_cell1 {B : Nat} {w u : World} (h : Below B w u) (g o : Nat) (hg : B ≤ g) (v : Value) : Below B w (u.setCell ⟨g, o, none⟩ v) :=
  ⟨h.os, h.tape, h.output, by simpa [World.setCell] using h.size, fun b hb => (RowKit.Below.heap_setCell u ⟨g, o, none⟩ v b (by show b ≠ g; omega)).trans (h.block b hb)⟩
theorem below_cells {B : Nat} {w : World} (g : Nat) (hg : B ≤ g) : ∀ (vs : List Value) (o : Nat) (u : World), Below B w u → Below B w (u.setCells g o vs)
  | [], _, _, h => h
  | v :: r, o, u, h => below_cells g hg r (o + 1) _ (below_cell1 h g o hg v)

/-- a row of lists, each of which is a row of one's own -/
def SpR (w : World) (B : Nat) (e eV : TypeId) (sz : Nat) (so : Option Addr) (n : Nat) : Prop :=
  0 < n → ∃ g, so = some ⟨g, 0, none⟩ ∧ (∃ cur, w.heap[g]? = some (.cells cur e (0, 0))) ∧ ∀ k, k < n → ∃ xo m xc, w.cell? ⟨g, k, none⟩ = some (.slice xo m xc) ∧ m ≤ 1048577 ∧ m ≤ xc ∧ ∃ xs, w.ownsRow B eV sz (.slice xo m xc) m xs
theorem SpR.keep {w u : World} {B : Nat} {e eV : TypeId} {sz : Nat} {so : Option Addr} {n : Nat} (h : SpR w B e eV sz so n) (hs : Shp w u) (h9 : e ≠ 9) (hV : e ≠ 25) : SpR u B e eV sz so n := fun hn => by
  obtain ⟨g, h1, ⟨cur, h2⟩, h3⟩ := h hn
  obtain ⟨c', k1, _, k3⟩ := hs g cur e h2
  have hc := k3 h9 hV
  subst hc
  have hcell : ∀ o, u.cell? ⟨g, o, none⟩ = w.cell? ⟨g, o, none⟩ := fun o => World.cell?_of_block (by show u.heap[g]? = w.heap[g]?; rw [k1, h2])
  refine ⟨g, h1, ⟨_, k1⟩, fun k hk => ?_⟩
  obtain ⟨xo, m, xc, a1, a2, a3, xs, a4⟩ := h3 k hk
  obtain ⟨ys, a5⟩ := hs.own a4
  exact ⟨xo, m, xc, (hcell k).trans a1, a2, a3, ys, a5⟩
theorem shp_box {w u : World} {g : Nat} {cs : Array Value} {e : TypeId} (h : Shp w u) (hg : w.heap[g]? = some (.cells cs e (0, 0))) (h9 : e ≠ 9) (hV : e ≠ 25) : u.heap[g]? = some (.cells cs e (0, 0)) := by
  obtain ⟨c', k1, _, k3⟩ := h g cs e hg
  rw [k3 h9 hV] at k1
  exact k1
/-- a place in a row of one's own may be written -/
theorem own_place {u : World} {B : Nat} {e : TypeId} {sz m xc : Nat} {xo : Option Addr} {xs : List Value} (h : u.ownsRow B e sz (.slice xo m xc) m xs) {i : Nat} (hi : i < m) : ∃ g cur, xo = some ⟨g, 0, none⟩ ∧ B ≤ g ∧ u.heap[g]? = some (.cells cur e (0, 0)) ∧ u.there g (i * sz) sz := by
  rcases h.2 with ⟨h1, h2⟩ | ⟨g, cap, cur, e1, e2, e3, e4, e5, e6, e7⟩
  · omega
  · cases e1
    refine ⟨g, cur, rfl, e2, e3, fun j hj => ?_⟩
    have hlt : i * sz + j < cur.size := by
      have h1 : (i + 1) * sz ≤ cur.size := by rw [e6]; exact Nat.mul_le_mul_right _ (by omega)
      rw [Nat.add_mul, Nat.one_mul] at h1
      omega
    refine ⟨?_, ?_⟩
    · rw [show u.cell? ⟨g, i * sz + j, none⟩ = cur[i * sz + j]? from by simp [World.cell?, e3]]
      rw [Array.getElem?_eq_getElem hlt]; rfl
    · simp [World.frozen?, e3]

set_option maxRecDepth 100000 in
set_option maxHeartbeats 12800000 in
/-- the reference's Spoil: nothing below B is written, if all lists are rows of one's own from B on -/
theorem w_Spoil (B : Nat) (io : Option Addr) (nI cI : Nat) (ko : Option Addr) (nK cK : Nat) (w : World) (hB : B ≤ w.heap.size) (bI : nI ≤ 1048577) (bK : nK ≤ 1048577) (cI0 : nI ≤ cI) (cK0 : nK ≤ cK) (hI : SpR w B 22 25 5 io nI) (hK : SpR w B 23 9 1 ko nK) :
    Calls Try.prog 10 #[.agg #[.slice io nI cI, .slice ko nK cK], .int .i64 3] w fun e w' => (∃ r, e = .returned r) ∧ Hid (Below B w w') := by
  obtain ⟨W1, hW1⟩ : ∃ W1, w.alloc (.cells #[.slice io nI cI, .slice ko nK cK] 35) = W1 := ⟨_, rfl⟩
  have HBX : Hid (W1.heap[w.heap.size]? = some (.cells #[.slice io nI cI, .slice ko nK cK] 35 (0, 0))) := by
    show _ = _; rw [← hW1]; exact heap_alloc_new w _
  have HB : Hid (Below B w W1) := by rw [← hW1]; exact (Below.refl B w).alloc hB _
  have HS : Hid (Shp W1 W1) := Shp.refl W1
  have h01 : Shp w W1 := by rw [← hW1]; exact (Shp.refl w).alloc _
  have HI := Hid.mk (hI.keep h01 (by decide) (by decide))
  have HK := Hid.mk (hK.keep h01 (by decide) (by decide))
  clear hI hK h01
  go_enter Try.func10, Try.ntmps10
  go_wp2_with fail
  clear hW1
  go_loopw [4] (fun a wr => ∃ k : Nat, k ≤ nI ∧ a = .int .i64 (k : Int) ∧ Hid (Below B w wr) ∧ Hid (Shp W1 wr)) (fun a _ => nI - (intOf a).toNat)
  case atStart => exact ⟨0, Nat.zero_le _, rfl, HB, HS⟩
  case round =>
    clear HB HS
    obtain ⟨k, hk, rfl, HB, HS⟩ := hrel
    obtain ⟨wo, hwo⟩ : ∃ u, u = wr := ⟨_, rfl⟩
    subst hwo
    have hbox := shp_box HS.out HBX.out (by decide) (by decide)
    have c0 : wo.cell? ⟨w.heap.size, 0, none⟩ = some (.slice io nI cI) := cell_of_row _ _ 0 _ _ _ hbox
    by_cases hlt : k < nI
    · have hl1 : (k : Int) < (nI : Int) := by omega
      have hl0 : (0 : Int) ≤ (k : Int) := by omega
      obtain ⟨g, hso, _, hrow⟩ := HI.out.keep HS.out (by decide) (by decide) (by omega)
      subst hso
      obtain ⟨xo, m, xc, ck, hm, hmc, hown⟩ := hrow k hlt
      have HO : Hid (∃ xs, wo.ownsRow B 25 5 (.slice xo m xc) m xs) := hown
      have HSS : Hid (∀ u, Shp wo u → u.cell? ⟨w.heap.size, 0, none⟩ = some (.slice (some ⟨g, 0, none⟩) nI cI) ∧ u.cell? ⟨g, k, none⟩ = some (.slice xo m xc)) := fun u hu => by
        refine ⟨cell_of_row _ _ 0 _ _ _ (shp_box hu hbox (by decide) (by decide)), ?_⟩
        obtain ⟨cur, hcur⟩ := ‹∃ cur, wo.heap[g]? = some (.cells cur 22 (0, 0))›
        have := shp_box hu hcur (by decide) (by decide)
        exact (World.cell?_of_block (by show u.heap[g]? = wo.heap[g]?; rw [this, hcur])).trans ck
      clear hown hrow hbox
      go_wp2_with fail
      obtain ⟨HBq, HSq⟩ : Hid (Below B w wo) ∧ Hid (Shp wo wo) := ⟨HB, Shp.refl wo⟩
      go_loopw [5] (fun b wr => ∃ i : Nat, i ≤ m ∧ b = .int .i64 (i : Int) ∧ Hid (Below B w wr) ∧ Hid (Shp wo wr)) (fun b _ => m - (intOf b).toNat)
      case atStart => exact ⟨0, Nat.zero_le _, rfl, HBq, HSq⟩
      case round =>
        clear HBq HSq c0 ck
        obtain ⟨i, hi, rfl, HBq, HSq⟩ := hrel
        obtain ⟨c0, ck⟩ := HSS.out _ HSq.out
        by_cases hlt2 : i < m
        · have hm1 : (i : Int) < (m : Int) := by omega
          have hm0 : (0 : Int) ≤ (i : Int) := by omega
          go_wp2_with fail
          refine wp_region_held_drew (S := fun u => u.cell? ⟨w.heap.size, 0, none⟩ = some (.slice (some ⟨g, 0, none⟩) nI cI) ∧ u.cell? ⟨g, k, none⟩ = some (.slice xo m xc)) (by kernel_rfl) (HSS.out _ HSq.out.drew) (fun hHeld => ?_)
          have hsq := HBq.out.size
          clear c0 ck
          refine wpAnyH_take (i := 0) (oi := _) (v := .pointer (some ⟨w.heap.size, 0, none⟩)) rfl (by kernel_rfl) (by kernel_rfl) (by kernel_rfl) (fun _ _ _ h => h) (Or.inl ⟨by rfl, ?_⟩) (by assumption) ?_
          · intro u hSu
            go_simp
          try simp only [Act.put, List.getElem_toArray, List.getElem_cons_succ, List.getElem_cons_zero, List.setIfInBounds_toArray, List.set_cons_zero, List.set_cons_succ]
          refine wpAnyH_take (i := 1) (oi := _) (v := .slice (some ⟨g, 0, none⟩) nI cI) rfl (by kernel_rfl) (by kernel_rfl) (by kernel_rfl) (fun _ _ _ h => h) (Or.inl ⟨by rfl, ?_⟩) (by assumption) ?_
          · intro u hSu
            go_simp
          try simp only [Act.put, List.getElem_toArray, List.getElem_cons_succ, List.getElem_cons_zero, List.setIfInBounds_toArray, List.set_cons_zero, List.set_cons_succ]
          refine wpAnyH_take (i := 2) (oi := _) (v := .int .i64 (k : Int)) rfl (by kernel_rfl) (by kernel_rfl) (by kernel_rfl) (fun _ _ _ h => h) (Or.inl ⟨by rfl, ?_⟩) (by assumption) ?_
          · intro u hSu
            go_simp
          try simp only [Act.put, List.getElem_toArray, List.getElem_cons_succ, List.getElem_cons_zero, List.setIfInBounds_toArray, List.set_cons_zero, List.set_cons_succ]
          refine wpAnyH_take (i := 3) (oi := _) (v := .pointer (some ⟨g, k, none⟩)) rfl (by kernel_rfl) (by kernel_rfl) (by kernel_rfl) (fun _ _ _ h => h) (Or.inl ⟨by rfl, ?_⟩) (by assumption) ?_
          · intro u hSu
            go_simp
          try simp only [Act.put, List.getElem_toArray, List.getElem_cons_succ, List.getElem_cons_zero, List.setIfInBounds_toArray, List.set_cons_zero, List.set_cons_succ]
          refine wpAnyH_take (i := 4) (oi := _) (v := .slice xo m xc) rfl (by kernel_rfl) (by kernel_rfl) (by kernel_rfl) (fun _ _ _ h => h) (Or.inl ⟨by rfl, ?_⟩) (by assumption) ?_
          · intro u hSu
            go_simp
          try simp only [Act.put, List.getElem_toArray, List.getElem_cons_succ, List.getElem_cons_zero, List.setIfInBounds_toArray, List.set_cons_zero, List.set_cons_succ]
          refine wpAnyH_take (i := 5) (oi := _) (v := .int .i64 (i : Int)) rfl (by kernel_rfl) (by kernel_rfl) (by kernel_rfl) (fun _ _ _ h => h) (Or.inl ⟨by rfl, ?_⟩) (by assumption) ?_
          · intro u hSu
            go_simp
          try simp only [Act.put, List.getElem_toArray, List.getElem_cons_succ, List.getElem_cons_zero, List.setIfInBounds_toArray, List.set_cons_zero, List.set_cons_succ]
          refine wpAnyH_take (i := 6) (oi := _) (v := .int .i64 3) rfl (by kernel_rfl) (by kernel_rfl) (by kernel_rfl) (fun _ _ _ h => h) (Or.inl ⟨by rfl, ?_⟩) (by assumption) ?_
          · intro u hSu
            go_simp
          try simp only [Act.put, List.getElem_toArray, List.getElem_cons_succ, List.getElem_cons_zero, List.setIfInBounds_toArray, List.set_cons_zero, List.set_cons_succ]
          refine wpAnyH_take (i := 7) (oi := _) (v := .int .i64 (k : Int)) rfl (by kernel_rfl) (by kernel_rfl) (by kernel_rfl) (fun _ _ _ h => h) (Or.inl ⟨by rfl, ?_⟩) (by assumption) ?_
          · intro u hSu
            go_simp
          try simp only [Act.put, List.getElem_toArray, List.getElem_cons_succ, List.getElem_cons_zero, List.setIfInBounds_toArray, List.set_cons_zero, List.set_cons_succ]
          refine wpAnyH_ready (rs := [8]) (by kernel_rfl) (by simp) ?_
          refine AllReadyH.cons (o := _) rfl (fun K hK => ?_) AllReadyH.nil
          go_simp
          go_at_call 24
          refine (w_markItem 3 k _).mono ?_
          rintro e w5 ⟨⟨x, rfl⟩, hb5⟩
          have HB5 : Hid (Below B w w5) := HBq.out.drew.trans (hb5.mono (by show B ≤ wr.heap.size; omega))
          have HS5 : Hid (Shp wo w5) := HSq.out.drew.trans (Shp.of_below hb5)
          clear hb5
          go_wp2_with fail
          refine hK.out _ _ (HSS.out _ HS5.out) (fun hHeld => ?_)
          clear hK K
          try simp only [Act.put, List.getElem_toArray, List.getElem_cons_succ, List.getElem_cons_zero, List.setIfInBounds_toArray, List.set_cons_zero, List.set_cons_succ]
          obtain ⟨xs0, hx0⟩ := HO.out
          obtain ⟨ys, hys⟩ := HS5.out.own hx0
          obtain ⟨g2, cur, hxo, hBg, hcur, hth⟩ := own_place hys hlt2
          subst hxo
          clear hx0 hys
          refine wpAnyH_take (i := 9) (oi := _) (v := .pointer (some ⟨g2, i * 5, none⟩)) rfl (by kernel_rfl) (by kernel_rfl) (by kernel_rfl) (fun _ _ _ h => h) (Or.inl ⟨by rfl, ?_⟩) (by assumption) ?_
          · intro u hSu
            go_simp
          try simp only [Act.put, List.getElem_toArray, List.getElem_cons_succ, List.getElem_cons_zero, List.setIfInBounds_toArray, List.set_cons_zero, List.set_cons_succ]
          have HS6 : Hid (Shp wo (w5.setCells g2 (i * 5) [.int .i64 x, .string ⟨#[]⟩, .string ⟨#[]⟩, .slice none 0 0, .slice none 0 0])) := Shp.setCells (.inr rfl) _ _ _ _ HS5.out hcur
          have HB6 : Hid (Below B w (w5.setCells g2 (i * 5) [.int .i64 x, .string ⟨#[]⟩, .string ⟨#[]⟩, .slice none 0 0, .slice none 0 0])) := below_cells _ hBg _ _ _ HB5.out
          refine wpAnyH_ready (rs := [10]) (by kernel_rfl) (by simp) ?_
          refine AllReadyH.cons (o := _) rfl (fun K hK => ?_) AllReadyH.nil
          refine wp_store_mid 25 _ _ rfl g2 (i * 5) #[.int .i64 x, .string ⟨#[]⟩, .string ⟨#[]⟩, .slice none 0 0, .slice none 0 0] (by rfl) (by rfl) hth (by kernel_rfl) (by simp [Value.oneCell']) ?_
          refine hK _ _ (HSS.out _ HS6.out) (fun hHeld => ?_)
          clear hK K
          try simp only [Act.put, List.getElem_toArray, List.getElem_cons_succ, List.getElem_cons_zero, List.setIfInBounds_toArray, List.set_cons_zero, List.set_cons_succ]
          refine wpAnyH_done (by kernel_rfl) ?_ _
          try simp only [Act.put, List.getElem_toArray, List.getElem_cons_succ, List.getElem_cons_zero, List.setIfInBounds_toArray, List.set_cons_zero, List.set_cons_succ]
          clear hHeld hcur hth HB5 HS5 HSS
          go_wp2_with fail
          go_roundw
          case rel => exact ⟨i + 1, hlt2, by go_num, HB6, HS6⟩
          case measure => simp [intOf]; omega
        · have hm1 : ¬ (i : Int) < (m : Int) := by omega
          have HS7 : Hid (Shp W1 wr) := HS.out.trans HSq.out
          clear HSS HS HSq
          go_wp2_with fail
          go_roundw
          case rel => exact ⟨k + 1, hlt, by go_num, HBq, HS7⟩
          case measure => simp [intOf]; omega
    · have hl1 : ¬ (k : Int) < (nI : Int) := by omega
      go_wp2_with fail
      go_loopw [6] (fun a wr => ∃ k : Nat, k ≤ nK ∧ a = .int .i64 (k : Int) ∧ Hid (Below B w wr) ∧ Hid (Shp W1 wr)) (fun a _ => nK - (intOf a).toNat)
      case atStart => exact ⟨0, Nat.zero_le _, rfl, HB, HS⟩
      case round =>
        clear HB HS
        obtain ⟨k, hk, rfl, HB, HS⟩ := hrel
        obtain ⟨wo, hwo⟩ : ∃ u, u = wr := ⟨_, rfl⟩
        subst hwo
        have hbox := shp_box HS.out HBX.out (by decide) (by decide)
        have c0 : wo.cell? ⟨w.heap.size, 1, none⟩ = some (.slice ko nK cK) := cell_of_row _ _ 1 _ _ _ hbox
        by_cases hlt : k < nK
        · have hl1 : (k : Int) < (nK : Int) := by omega
          have hl0 : (0 : Int) ≤ (k : Int) := by omega
          obtain ⟨g, hso, _, hrow⟩ := HK.out.keep HS.out (by decide) (by decide) (by omega)
          subst hso
          obtain ⟨xo, m, xc, ck, hm, hmc, hown⟩ := hrow k hlt
          have HO : Hid (∃ xs, wo.ownsRow B 9 1 (.slice xo m xc) m xs) := hown
          have HSS : Hid (∀ u, Shp wo u → u.cell? ⟨w.heap.size, 1, none⟩ = some (.slice (some ⟨g, 0, none⟩) nK cK) ∧ u.cell? ⟨g, k, none⟩ = some (.slice xo m xc)) := fun u hu => by
            refine ⟨cell_of_row _ _ 1 _ _ _ (shp_box hu hbox (by decide) (by decide)), ?_⟩
            obtain ⟨cur, hcur⟩ := ‹∃ cur, wo.heap[g]? = some (.cells cur 23 (0, 0))›
            have := shp_box hu hcur (by decide) (by decide)
            exact (World.cell?_of_block (by show u.heap[g]? = wo.heap[g]?; rw [this, hcur])).trans ck
          clear hown hrow hbox
          go_wp2_with fail
          obtain ⟨HBq, HSq⟩ : Hid (Below B w wo) ∧ Hid (Shp wo wo) := ⟨HB, Shp.refl wo⟩
          go_loopw [7] (fun b wr => ∃ i : Nat, i ≤ m ∧ b = .int .i64 (i : Int) ∧ Hid (Below B w wr) ∧ Hid (Shp wo wr)) (fun b _ => m - (intOf b).toNat)
          case atStart => exact ⟨0, Nat.zero_le _, rfl, HBq, HSq⟩
          case round =>
            clear HBq HSq c0 ck
            obtain ⟨i, hi, rfl, HBq, HSq⟩ := hrel
            obtain ⟨c0, ck⟩ := HSS.out _ HSq.out
            by_cases hlt2 : i < m
            · have hm1 : (i : Int) < (m : Int) := by omega
              have hm0 : (0 : Int) ≤ (i : Int) := by omega
              go_wp2_with fail
              refine wp_region_held_drew (S := fun u => u.cell? ⟨w.heap.size, 1, none⟩ = some (.slice (some ⟨g, 0, none⟩) nK cK) ∧ u.cell? ⟨g, k, none⟩ = some (.slice xo m xc)) (by kernel_rfl) (HSS.out _ HSq.out.drew) (fun hHeld => ?_)
              have hsq := HBq.out.size
              clear c0 ck
              refine wpAnyH_take (i := 0) (oi := _) (v := .pointer (some ⟨w.heap.size, 1, none⟩)) rfl (by kernel_rfl) (by kernel_rfl) (by kernel_rfl) (fun _ _ _ h => h) (Or.inl ⟨by rfl, ?_⟩) (by assumption) ?_
              · intro u hSu
                go_simp
              try simp only [Act.put, List.getElem_toArray, List.getElem_cons_succ, List.getElem_cons_zero, List.setIfInBounds_toArray, List.set_cons_zero, List.set_cons_succ]
              refine wpAnyH_take (i := 1) (oi := _) (v := .slice (some ⟨g, 0, none⟩) nK cK) rfl (by kernel_rfl) (by kernel_rfl) (by kernel_rfl) (fun _ _ _ h => h) (Or.inl ⟨by rfl, ?_⟩) (by assumption) ?_
              · intro u hSu
                go_simp
              try simp only [Act.put, List.getElem_toArray, List.getElem_cons_succ, List.getElem_cons_zero, List.setIfInBounds_toArray, List.set_cons_zero, List.set_cons_succ]
              refine wpAnyH_take (i := 2) (oi := _) (v := .int .i64 (k : Int)) rfl (by kernel_rfl) (by kernel_rfl) (by kernel_rfl) (fun _ _ _ h => h) (Or.inl ⟨by rfl, ?_⟩) (by assumption) ?_
              · intro u hSu
                go_simp
              try simp only [Act.put, List.getElem_toArray, List.getElem_cons_succ, List.getElem_cons_zero, List.setIfInBounds_toArray, List.set_cons_zero, List.set_cons_succ]
              refine wpAnyH_take (i := 3) (oi := _) (v := .pointer (some ⟨g, k, none⟩)) rfl (by kernel_rfl) (by kernel_rfl) (by kernel_rfl) (fun _ _ _ h => h) (Or.inl ⟨by rfl, ?_⟩) (by assumption) ?_
              · intro u hSu
                go_simp
              try simp only [Act.put, List.getElem_toArray, List.getElem_cons_succ, List.getElem_cons_zero, List.setIfInBounds_toArray, List.set_cons_zero, List.set_cons_succ]
              refine wpAnyH_take (i := 4) (oi := _) (v := .slice xo m xc) rfl (by kernel_rfl) (by kernel_rfl) (by kernel_rfl) (fun _ _ _ h => h) (Or.inl ⟨by rfl, ?_⟩) (by assumption) ?_
              · intro u hSu
                go_simp
              try simp only [Act.put, List.getElem_toArray, List.getElem_cons_succ, List.getElem_cons_zero, List.setIfInBounds_toArray, List.set_cons_zero, List.set_cons_succ]
              refine wpAnyH_take (i := 5) (oi := _) (v := .int .i64 (i : Int)) rfl (by kernel_rfl) (by kernel_rfl) (by kernel_rfl) (fun _ _ _ h => h) (Or.inl ⟨by rfl, ?_⟩) (by assumption) ?_
              · intro u hSu
                go_simp
              try simp only [Act.put, List.getElem_toArray, List.getElem_cons_succ, List.getElem_cons_zero, List.setIfInBounds_toArray, List.set_cons_zero, List.set_cons_succ]
              refine wpAnyH_take (i := 6) (oi := _) (v := .int .i64 3) rfl (by kernel_rfl) (by kernel_rfl) (by kernel_rfl) (fun _ _ _ h => h) (Or.inl ⟨by rfl, ?_⟩) (by assumption) ?_
              · intro u hSu
                go_simp
              try simp only [Act.put, List.getElem_toArray, List.getElem_cons_succ, List.getElem_cons_zero, List.setIfInBounds_toArray, List.set_cons_zero, List.set_cons_succ]
              refine wpAnyH_take (i := 7) (oi := _) (v := .int .i64 (k : Int)) rfl (by kernel_rfl) (by kernel_rfl) (by kernel_rfl) (fun _ _ _ h => h) (Or.inl ⟨by rfl, ?_⟩) (by assumption) ?_
              · intro u hSu
                go_simp
              try simp only [Act.put, List.getElem_toArray, List.getElem_cons_succ, List.getElem_cons_zero, List.setIfInBounds_toArray, List.set_cons_zero, List.set_cons_succ]
              refine wpAnyH_ready (rs := [8]) (by kernel_rfl) (by simp) ?_
              refine AllReadyH.cons (o := _) rfl (fun K hK => ?_) AllReadyH.nil
              go_simp
              go_at_call 25
              refine (w_markKey 3 k _).mono ?_
              rintro e w5 ⟨⟨x, rfl⟩, hb5⟩
              have HB5 : Hid (Below B w w5) := HBq.out.drew.trans (hb5.mono (by show B ≤ wr.heap.size; omega))
              have HS5 : Hid (Shp wo w5) := HSq.out.drew.trans (Shp.of_below hb5)
              clear hb5
              go_wp2_with fail
              refine hK.out _ _ (HSS.out _ HS5.out) (fun hHeld => ?_)
              clear hK K
              try simp only [Act.put, List.getElem_toArray, List.getElem_cons_succ, List.getElem_cons_zero, List.setIfInBounds_toArray, List.set_cons_zero, List.set_cons_succ]
              obtain ⟨xs0, hx0⟩ := HO.out
              obtain ⟨ys, hys⟩ := HS5.out.own hx0
              obtain ⟨g2, cur, hxo, hBg, hcur, hth⟩ := own_place hys hlt2
              subst hxo
              clear hx0 hys
              rw [Nat.mul_one] at hth
              obtain ⟨ht1, ht2⟩ := hth 0 Nat.zero_lt_one
              rw [Nat.add_zero] at ht1 ht2
              obtain ⟨y, hy⟩ := Option.isSome_iff_exists.1 ht1
              refine wpAnyH_take (i := 9) (oi := _) (v := .pointer (some ⟨g2, i, none⟩)) rfl (by kernel_rfl) (by kernel_rfl) (by kernel_rfl) (fun _ _ _ h => h) (Or.inl ⟨by rfl, ?_⟩) (by assumption) ?_
              · intro u hSu
                go_simp
              try simp only [Act.put, List.getElem_toArray, List.getElem_cons_succ, List.getElem_cons_zero, List.setIfInBounds_toArray, List.set_cons_zero, List.set_cons_succ]
              have HS6 : Hid (Shp wo (w5.setCell ⟨g2, i, none⟩ (.string x))) := (HS5.out.setCell hcur (.inl rfl) i (.string x)).1
              have HB6 : Hid (Below B w (w5.setCell ⟨g2, i, none⟩ (.string x))) := below_cell1 HB5.out g2 i hBg _
              refine wpAnyH_ready (rs := [10]) (by kernel_rfl) (by simp) ?_
              refine AllReadyH.cons (o := _) rfl (fun K hK => ?_) AllReadyH.nil
              go_simp
              refine hK _ _ (HSS.out _ HS6.out) (fun hHeld => ?_)
              clear hK K
              try simp only [Act.put, List.getElem_toArray, List.getElem_cons_succ, List.getElem_cons_zero, List.setIfInBounds_toArray, List.set_cons_zero, List.set_cons_succ]
              refine wpAnyH_done (by kernel_rfl) ?_ _
              try simp only [Act.put, List.getElem_toArray, List.getElem_cons_succ, List.getElem_cons_zero, List.setIfInBounds_toArray, List.set_cons_zero, List.set_cons_succ]
              clear hHeld hcur hth HB5 HS5 HSS
              go_wp2_with fail
              go_roundw
              case rel => exact ⟨i + 1, hlt2, by go_num, HB6, HS6⟩
              case measure => simp [intOf]; omega
            · have hm1 : ¬ (i : Int) < (m : Int) := by omega
              have HS7 : Hid (Shp W1 wr) := HS.out.trans HSq.out
              clear HSS HS HSq
              go_wp2_with fail
              go_roundw
              case rel => exact ⟨k + 1, hlt, by go_num, HBq, HS7⟩
              case measure => simp [intOf]; omega
        · have hl1 : ¬ (k : Int) < (nK : Int) := by omega
          go_wp2_with fail
          go_loopw [8] (fun a wr => ∃ k : Nat, k ≤ nI ∧ a = .int .i64 (k : Int) ∧ Hid (Below B w wr) ∧ Hid (Shp W1 wr)) (fun a _ => nI - (intOf a).toNat)
          case atStart => exact ⟨0, Nat.zero_le _, rfl, HB, HS⟩
          case round =>
            clear HB HS
            obtain ⟨k, hk, rfl, HB, HS⟩ := hrel
            have hbox := shp_box HS.out HBX.out (by decide) (by decide)
            have hsz := HB.out.size
            have c0 : wr.cell? ⟨w.heap.size, 0, none⟩ = some (.slice io nI cI) := cell_of_row _ _ 0 _ _ _ hbox
            by_cases hlt : k < nI
            · have hl1 : (k : Int) < (nI : Int) := by omega
              have hl0 : (0 : Int) ≤ (k : Int) := by omega
              obtain ⟨g, hso, _, hrow⟩ := HI.out.keep HS.out (by decide) (by decide) (by omega)
              subst hso
              obtain ⟨xo, m, xc, ck, hm, hmc, hown⟩ := hrow k hlt
              have HC := Hid.mk (w_growItems B _ 3 m wr (by omega) hm hown)
              clear hown hrow hbox
              go_wp2_with fail
              refine HC.out.mono ?_
              rintro e w5 ⟨⟨x, rfl⟩, hq⟩
              have HB5 : Hid (Below B w w5) := HB.out.trans hq.out.1
              have HS5 : Hid (Shp W1 w5) := HS.out.trans hq.out.2
              clear hq HC HB HS
              go_wp2_with fail
              go_roundw
              case rel => exact ⟨k + 1, hlt, by go_num, HB5, HS5⟩
              case measure => simp [intOf]; omega
            · have hl1 : ¬ (k : Int) < (nI : Int) := by omega
              go_wp2_with fail
              go_loopw [9] (fun a wr => ∃ k : Nat, k ≤ nK ∧ a = .int .i64 (k : Int) ∧ Hid (Below B w wr) ∧ Hid (Shp W1 wr)) (fun a _ => nK - (intOf a).toNat)
              case atStart => exact ⟨0, Nat.zero_le _, rfl, HB, HS⟩
              case round =>
                clear HB HS
                obtain ⟨k, hk, rfl, HB, HS⟩ := hrel
                have hbox := shp_box HS.out HBX.out (by decide) (by decide)
                have hsz := HB.out.size
                have c0 : wr.cell? ⟨w.heap.size, 1, none⟩ = some (.slice ko nK cK) := cell_of_row _ _ 1 _ _ _ hbox
                by_cases hlt : k < nK
                · have hl1 : (k : Int) < (nK : Int) := by omega
                  have hl0 : (0 : Int) ≤ (k : Int) := by omega
                  obtain ⟨g, hso, _, hrow⟩ := HK.out.keep HS.out (by decide) (by decide) (by omega)
                  subst hso
                  obtain ⟨xo, m, xc, ck, hm, hmc, hown⟩ := hrow k hlt
                  have HC := Hid.mk (w_growKeys B _ m wr (by omega) hm hown)
                  clear hown hrow hbox
                  go_wp2_with fail
                  refine HC.out.mono ?_
                  rintro e w5 ⟨⟨x, rfl⟩, hq⟩
                  have HB5 : Hid (Below B w w5) := HB.out.trans hq.out.1
                  have HS5 : Hid (Shp W1 w5) := HS.out.trans hq.out.2
                  clear hq HC HB HS
                  go_wp2_with fail
                  go_roundw
                  case rel => exact ⟨k + 1, hlt, by go_num, HB5, HS5⟩
                  case measure => simp [intOf]; omega
                · have hl1 : ¬ (k : Int) < (nK : Int) := by omega
                  go_wp2_with fail
                  refine bodyPost_end (results_none rfl _ _ _) rfl ?_
                  exact ⟨⟨_, rfl⟩, HB⟩
end Go.Proofs.Ytaflpeajapdkdaa
