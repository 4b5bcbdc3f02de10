import Derived.Test.YtaflpeajapdkdaaM23
namespace Go.Proofs.Ytaflpeajapdkdaa
open Go.RowKit
set_option linter.unusedVariables false
set_option linter.unusedSimpArgs false

/-- a tree all of whose lists are rows of one's own -/
def OwT (w : World) (B : Nat) : Nat → VT → Value → Prop
  | 0, _, _ => False
  | h + 1, T, v => ∃ (kd : Int) (nm tx : ByteArray) (io : Option Addr) (ic : Nat) (ko : Option Addr) (kc : Nat), v = .agg #[.int .i64 kd, .string nm, .string tx, .slice io T.items.length ic, .slice ko T.keys.length kc] ∧ T.items.length ≤ ic ∧ T.keys.length ≤ kc ∧
      (∃ ys, w.ownsRow B 9 1 (.slice ko T.keys.length kc) T.keys.length ys) ∧ ∃ c : Nat → Fin 5 → Value, w.ownsRow B 25 5 (.slice io T.items.length ic) T.items.length (flat c T.items.length) ∧ ∀ i (hi : i < T.items.length), OwT w B h (T.items[i]) (.agg #[c i 0, c i 1, c i 2, c i 3, c i 4])
theorem own_oth {w w' : World} {base lo : Nat} {e : TypeId} {size : Nat} {v : Value} {n : Nat} {xs : List Value} (h : w.ownsRow base e size v n xs) (hs : ∀ b, base ≤ b → b < w.heap.size → w'.heap[b]? = w.heap[b]?) (hlo : lo ≤ base) : w'.ownsRow lo e size v n xs := by
  refine ⟨h.1, h.2.imp id ?_⟩
  rintro ⟨g, cap, cur, e1, e2, e3, rest⟩
  exact ⟨g, cap, cur, e1, Nat.le_trans hlo e2, (hs g e2 (Array.getElem?_eq_some_iff.1 e3).1).trans e3, rest⟩
theorem OwT.keepB {w w' : World} {lo lo' : Nat} (hs : ∀ b, lo ≤ b → b < w.heap.size → w'.heap[b]? = w.heap[b]?) (hlo : lo' ≤ lo) : ∀ {h : Nat} {T : VT} {v : Value}, OwT w lo h T v → OwT w' lo' h T v
  | 0, _, _, h => h
  | h + 1, T, v, hv => by
    obtain ⟨kd, nm, tx, io, ic, ko, kc, h1, h2, h3, ⟨ys, h4⟩, c, h5, h6⟩ := hv
    exact ⟨kd, nm, tx, io, ic, ko, kc, h1, h2, h3, ⟨ys, own_oth h4 hs hlo⟩, c, own_oth h5 hs hlo, fun i hi => OwT.keepB hs hlo (h6 i hi)⟩
/-- a tree from lo on, in rows of one's own -/
def InO (lo : Nat) (W : World) (h : Nat) (T : VT) (v : Value) : Prop := InF lo W h T v ∧ OwT W lo h T v
theorem InO.keepB {lo lo' : Nat} {W W' : World} (hz : W.heap.size ≤ W'.heap.size) (hs : ∀ b, lo ≤ b → b < W.heap.size → W'.heap[b]? = W.heap[b]?) (hlo : lo' ≤ lo) {h : Nat} {T : VT} {v : Value} (hI : InO lo W h T v) : InO lo' W' h T v := ⟨InF.keepB hz hs hlo hI.1, OwT.keepB hs hlo hI.2⟩
theorem InO.low {lo : Nat} {W W' : World} {h : Nat} {T : VT} {v : Value} (hI : InO lo W h T v) (hb : Below W.heap.size W W') : InO lo W' h T v := InO.keepB hb.size (fun b _ hl => hb.block b hl) (Nat.le_refl _) hI
theorem InO.shape {lo : Nat} {W : World} {h : Nat} {T : VT} {v : Value} (hI : InO lo W h T v) : ∃ (k : Int) (n t : ByteArray) (io : Option Addr) (N icap : Nat) (ko : Option Addr) (K kcap : Nat), v = .agg #[.int .i64 k, .string n, .string t, .slice io N icap, .slice ko K kcap] := InF.shape hI.1



/-- value.Twin, at a height -/
def TwOkO (h : Nat) : Prop := ∀ (T : VT) (v : Value) (w : World), InH w h T v → szN h T ≤ 1048577 → Calls Try.prog 13 #[v] w fun e w' => ∃ v', e = .returned v' ∧ InO w.heap.size w' h T v' ∧ Below w.heap.size w w'

/-- what Twin holds in its loop -/
structure TwStO (w wr : World) (h : Nat) (ts : List VT) (a0 a1 a2 a3 a4 : Value) (N : Nat) (v : Value) (k : Nat) : Prop where
  below : Below w.heap.size w wr
  box : wr.heap[w.heap.size]? = some (.cells #[a0, a1, a2, a3, a4] 25 (0, 0))
  res : wr.heap[w.heap.size + 1]? = some (.cells #[.int .i64 0, .string ⟨#[]⟩, .string ⟨#[]⟩, .slice none 0 0, .slice none 0 0] 25 (0, 0))
  out : wr.heap[w.heap.size + 1 + 1]? = some (.cells #[a0, a1, a2, v, a4] 25 (0, 0))
  its : ∃ c : Nat → Fin 5 → Value, wr.ownsRow (w.heap.size + 3) 25 5 v k (flat c k) ∧ ∀ i, (hi : i < ts.length) → i < k → InO (w.heap.size + 4) wr h ts[i] (.agg #[c i 0, c i 1, c i 2, c i 3, c i 4])
  shape : (N = 0 ∧ k = 0 ∧ v = .slice none 0 0) ∨ ∃ cap, N ≤ cap ∧ v = .slice (some ⟨w.heap.size + 3, 0, none⟩) k cap

theorem TwStO.low {w wr u : World} {h : Nat} {ts : List VT} {a0 a1 a2 a3 a4 : Value} {N : Nat} {v : Value} {k : Nat} (H : TwStO w wr h ts a0 a1 a2 a3 a4 N v k) (hb : Below wr.heap.size wr u) : TwStO w u h ts a0 a1 a2 a3 a4 N v k := by
  have lt : ∀ {b : Nat} {o : Obj}, wr.heap[b]? = some o → u.heap[b]? = some o := fun {b o} e => heap_low hb (Array.getElem?_eq_some_iff.1 e).1 e
  obtain ⟨c, h1, h2⟩ := H.its
  exact ⟨H.below.trans (hb.mono H.below.size), lt H.box, lt H.res, lt H.out, ⟨c, own_low h1 hb, fun i hi hk => (h2 i hi hk).low hb⟩, H.shape⟩

/-- one item more -/
theorem TwStO.more {w w4 w5 : World} {h : Nat} {ts : List VT} {a0 a1 a2 a3 a4 : Value} {N k cap : Nat} {o : Obj} (hkl : k < ts.length) (hw3 : w.heap.size + 3 < w4.heap.size) (H : TwStO w w4 h ts a0 a1 a2 a3 a4 N (.slice (some ⟨w.heap.size + 3, 0, none⟩) k cap) k)
    (c : Nat → Fin 5 → Value) (y0 y1 y2 y3 y4 : Value) (hc : ∀ i, (hi : i < ts.length) → i < k → InO (w.heap.size + 4) w4 h ts[i] (.agg #[c i 0, c i 1, c i 2, c i 3, c i 4]))
    (hy : InO (w.heap.size + 4) w4 h ts[k] (.agg #[y0, y1, y2, y3, y4])) (hN : N ≤ cap)
    (hg : (w4.alloc o).grownBy w5 (some (w.heap.size + 3))) (hown : w5.ownsRow (w.heap.size + 3) 25 5 (.slice (some ⟨w.heap.size + 3, 0, none⟩) (k + 1) cap) (k + 1) (flat c k ++ [y0, y1, y2, y3, y4])) :
    TwStO w (w5.setCell ⟨w.heap.size + 1 + 1, 3, none⟩ (.slice (some ⟨w.heap.size + 3, 0, none⟩) (k + 1) cap)) h ts a0 a1 a2 a3 a4 N (.slice (some ⟨w.heap.size + 3, 0, none⟩) (k + 1) cap) (k + 1) := by
  have hgs := hg.size
  simp at hgs
  have old : ∀ b, b ≠ w.heap.size + 3 → b < w4.heap.size → w5.heap[b]? = w4.heap[b]? := fun b hb hl => (hg.block b (by simp; omega) (fun e => hb (Option.some.inj e))).trans (Below.heap_alloc _ _ b hl)
  have oth : ∀ b, b ≠ w.heap.size + 1 + 1 → (w5.setCell ⟨w.heap.size + 1 + 1, 3, none⟩ (.slice (some ⟨w.heap.size + 3, 0, none⟩) (k + 1) cap)).heap[b]? = w5.heap[b]? := fun b hb => Below.heap_setCell _ _ _ _ hb
  have sz : (w5.setCell ⟨w.heap.size + 1 + 1, 3, none⟩ (.slice (some ⟨w.heap.size + 3, 0, none⟩) (k + 1) cap)).heap.size = w5.heap.size := by simp
  obtain ⟨d, hd⟩ : ∃ d : Nat → Fin 5 → Value, (∀ i, i < k → d i = c i) ∧ d k = (fun j => match j with | 0 => y0 | 1 => y1 | 2 => y2 | 3 => y3 | 4 => y4) := ⟨fun i => if i < k then c i else (fun j => match j with | 0 => y0 | 1 => y1 | 2 => y2 | 3 => y3 | 4 => y4), fun i hi => by simp [hi], by simp⟩
  have keep : ∀ {T : VT} {v : Value}, InO (w.heap.size + 4) w4 h T v → InO (w.heap.size + 4) (w5.setCell ⟨w.heap.size + 1 + 1, 3, none⟩ (.slice (some ⟨w.heap.size + 3, 0, none⟩) (k + 1) cap)) h T v := fun {T v} hI =>
    InO.keepB (by rw [sz]; omega) (fun b hb hl => (oth b (by omega)).trans (old b (by omega) hl)) (Nat.le_refl _) hI
  refine ⟨?_, ?_, ?_, ?_, ⟨d, ?_, fun i hi hk => ?_⟩, .inr ⟨cap, hN, rfl⟩⟩
  · refine ((H.below.alloc H.below.size o).grown hg (by simp; have := H.below.size; omega) (fun j e => by cases e; omega)).setCell (p := ⟨w.heap.size + 1 + 1, 3, none⟩) (by show _ ≤ w.heap.size + 1 + 1; omega) _
  · rw [oth _ (by omega), old _ (by omega) (by omega)]; exact H.box
  · rw [oth _ (by omega), old _ (by omega) (by omega)]; exact H.res
  · have h1 := H.out
    rw [← old _ (by omega) (by omega)] at h1
    exact setCell_box _ _ _ _ _ _ _ _ _ h1
  · rw [flat_up, flat_eq hd.1, hd.2]
    refine ⟨hown.1, hown.2.imp id ?_⟩
    rintro ⟨g, cap', cur, e1, e2, e3, rest⟩
    refine ⟨g, cap', cur, e1, e2, ?_, rest⟩
    have : g = w.heap.size + 3 := by simp only [Value.slice.injEq, Option.some.injEq, Addr.mk.injEq] at e1; exact e1.1.1.symm
    rw [oth g (by omega)]; exact e3
  · by_cases hik : i < k
    · rw [hd.1 i hik]; exact keep (hc i hi hik)
    · obtain rfl : i = k := by omega
      rw [hd.2]; exact keep hy



theorem TwStO.c3 {w wr : World} {h : Nat} {ts : List VT} {a0 a1 a2 a3 a4 : Value} {N : Nat} {v : Value} {k : Nat} (H : TwStO w wr h ts a0 a1 a2 a3 a4 N v k) : wr.cell? ⟨w.heap.size, 3, none⟩ = some a3 := cell_of_row _ _ 3 _ _ _ H.box
theorem TwStO.c4 {w wr : World} {h : Nat} {ts : List VT} {a0 a1 a2 a3 a4 : Value} {N : Nat} {v : Value} {k : Nat} (H : TwStO w wr h ts a0 a1 a2 a3 a4 N v k) : wr.cell? ⟨w.heap.size, 4, none⟩ = some a4 := cell_of_row _ _ 4 _ _ _ H.box
theorem TwStO.o3 {w wr : World} {h : Nat} {ts : List VT} {a0 a1 a2 a3 a4 : Value} {N : Nat} {v : Value} {k : Nat} (H : TwStO w wr h ts a0 a1 a2 a3 a4 N v k) : wr.cell? ⟨w.heap.size + 1 + 1, 3, none⟩ = some v := cell_of_row _ _ 3 _ _ _ H.out
theorem TwStO.lt {w wr : World} {h : Nat} {ts : List VT} {a0 a1 a2 a3 a4 : Value} {N : Nat} {v : Value} {k : Nat} (H : TwStO w wr h ts a0 a1 a2 a3 a4 N v k) : w.heap.size + 1 + 1 < wr.heap.size := (Array.getElem?_eq_some_iff.1 H.out).1

/-- the start of Twin's loop -/
theorem TwStO.start {w w2 : World} {h : Nat} {ts : List VT} {a0 a1 a2 a3 a4 : Value} {N : Nat} {v : Value}
    (hb : Below w.heap.size w w2) (h0 : w2.heap[w.heap.size]? = some (.cells #[a0, a1, a2, a3, a4] 25 (0, 0)))
    (h1 : w2.heap[w.heap.size + 1]? = some (.cells #[.int .i64 0, .string ⟨#[]⟩, .string ⟨#[]⟩, .slice none 0 0, .slice none 0 0] 25 (0, 0)))
    (h2 : w2.heap[w.heap.size + 1 + 1]? = some (.cells #[a0, a1, a2, a3, a4] 25 (0, 0)))
    (hs : (N = 0 ∧ v = .slice none 0 0) ∨ ∃ cap, N ≤ cap ∧ v = .slice (some ⟨w.heap.size + 3, 0, none⟩) 0 cap ∧ w2.ownsRow (w.heap.size + 3) 25 5 v 0 []) :
    TwStO w (w2.setCell ⟨w.heap.size + 1 + 1, 3, none⟩ v) h ts a0 a1 a2 a3 a4 N v 0 := by
  have oth : ∀ b, b ≠ w.heap.size + 1 + 1 → (w2.setCell ⟨w.heap.size + 1 + 1, 3, none⟩ v).heap[b]? = w2.heap[b]? := fun b hb => Below.heap_setCell _ _ _ _ hb
  refine ⟨hb.setCell (p := ⟨w.heap.size + 1 + 1, 3, none⟩) (by show _ ≤ w.heap.size + 1 + 1; omega) _, (oth _ (by omega)).trans h0, (oth _ (by omega)).trans h1, setCell_box _ _ _ _ _ _ _ _ _ h2, ⟨fun _ _ => undef, ?_, fun i hi hk => by omega⟩, ?_⟩
  · rcases hs with ⟨_, rfl⟩ | ⟨cap, _, rfl, ho⟩
    · exact World.ownsRow_nil _ _ _ _
    · refine ⟨ho.1, ho.2.imp id ?_⟩
      rintro ⟨g, cap', cur, e1, e2, e3, rest⟩
      refine ⟨g, cap', cur, e1, e2, ?_, rest⟩
      have : g = w.heap.size + 3 := by simp only [Value.slice.injEq, Option.some.injEq, Addr.mk.injEq] at e1; exact e1.1.1.symm
      rw [oth g (by omega)]; exact e3
  · rcases hs with ⟨rfl, rfl⟩ | ⟨cap, hc, rfl, _⟩
    · exact .inl ⟨rfl, rfl, rfl⟩
    · exact .inr ⟨cap, hc, rfl⟩


/-- what Twin has made -/
structure TwRO (w w' : World) (h : Nat) (ts : List VT) (keys : List ByteArray) (N K : Nat) (io ko : Option Addr) (ic kc : Nat) : Prop where
  keys : 0 < K → ∃ b off, ko = some ⟨b, off, none⟩ ∧ w.heap.size ≤ b ∧ b < w'.heap.size ∧ ∀ i, i < K → w'.cell? ⟨b, off + i, none⟩ = some (.string (keys.getD i .empty))
  items : 0 < N → ∃ b off, io = some ⟨b, off, none⟩ ∧ w.heap.size ≤ b ∧ b < w'.heap.size ∧ ∀ i, (hi : i < ts.length) → ∃ v0 v1 v2 v3 v4 : Value,
        (w'.cell? ⟨b, off + i * 5, none⟩ = some v0 ∧ w'.cell? ⟨b, off + i * 5 + 1, none⟩ = some v1 ∧ w'.cell? ⟨b, off + i * 5 + 2, none⟩ = some v2 ∧ w'.cell? ⟨b, off + i * 5 + 3, none⟩ = some v3 ∧ w'.cell? ⟨b, off + i * 5 + 4, none⟩ = some v4) ∧ InF w.heap.size w' h ts[i] (.agg #[v0, v1, v2, v3, v4])
  below : Below w.heap.size w w'
  own : ∃ c : Nat → Fin 5 → Value, w'.ownsRow w.heap.size 25 5 (.slice io N ic) N (flat c N) ∧ ∀ i (hi : i < ts.length), OwT w' w.heap.size h ts[i] (.agg #[c i 0, c i 1, c i 2, c i 3, c i 4])
  ownk : ∃ ys, w'.ownsRow w.heap.size 9 1 (.slice ko K kc) K ys
theorem twin_finO {w wr w7 wz : World} {h : Nat} {ts : List VT} {a0 a1 a2 a3 a4 : Value} {N : Nat} {vo : Option Addr} {vn vc : Nat} (H : TwStO w wr h ts a0 a1 a2 a3 a4 N (.slice vo vn vc) N) (hN : ts.length = N) (hb : Below wr.heap.size wr w7)
    (hoth : ∀ b, b ≠ w.heap.size + 1 → b ≠ w.heap.size + 1 + 1 → wz.heap[b]? = w7.heap[b]?) (hsz : wz.heap.size = w7.heap.size) (hbz : Below w.heap.size w7 wz) {keys : List ByteArray} {K kc : Nat} {ko : Option Addr}
    (hkeys : 0 < K → ∃ b off, ko = some ⟨b, off, none⟩ ∧ w.heap.size ≤ b ∧ b < wz.heap.size ∧ ∀ i, i < K → wz.cell? ⟨b, off + i, none⟩ = some (.string (keys.getD i .empty))) (hok : ∃ ys, wz.ownsRow w.heap.size 9 1 (.slice ko K kc) K ys) :
    vn = N ∧ N ≤ vc ∧ TwRO w wz h ts keys N K vo ko vc kc := by
  have H7 := H.low hb
  have hsh : vn = N ∧ N ≤ vc ∧ (0 < N → vo = some ⟨w.heap.size + 3, 0, none⟩) := by
    rcases H.shape with ⟨h0, _, e⟩ | ⟨cap, hc, e⟩
    · simp only [Value.slice.injEq] at e
      obtain ⟨_, rfl, rfl⟩ := e
      exact ⟨h0.symm, by omega, fun h => by omega⟩
    · simp only [Value.slice.injEq] at e
      obtain ⟨rfl, rfl, rfl⟩ := e
      exact ⟨rfl, hc, fun _ => rfl⟩
  obtain ⟨e1, e2, e3⟩ := hsh
  refine ⟨e1, e2, hkeys, fun h0 => ?_, H7.below.trans hbz, ?_, hok⟩
  rotate_left
  · obtain ⟨c, hown, hc⟩ := H7.its
    rw [e1] at hown
    exact ⟨c, own_oth hown (fun b hb hl => hoth b (by omega) (by omega)) (by omega), fun i hi => (InO.keepB (by omega) (fun b hb hl => hoth b (by omega) (by omega)) (by omega) (hc i hi (by omega))).2⟩
  have ho := e3 h0
  subst e1 ho
  obtain ⟨c, hown, hc⟩ := H7.its
  have hlt := (hown.lt (w.heap.size + 3) rfl).2
  have cc : ∀ o u, w7.cell? ⟨w.heap.size + 3, o, none⟩ = some u → wz.cell? ⟨w.heap.size + 3, o, none⟩ = some u := fun o u hu => (World.cell?_of_block (a := ⟨w.heap.size + 3, o, none⟩) (hoth (w.heap.size + 3) (by omega) (by omega))).trans hu
  refine ⟨w.heap.size + 3, 0, rfl, by omega, by omega, fun i hi => ?_⟩
  have g : ∀ j : Fin 5, w7.cell? ⟨w.heap.size + 3, i * 5 + j.1, none⟩ = some (c i j) := fun j => by
    have hj := j.2
    rw [own_cellAt hown (by omega)]
    exact flat_get c _ i j (by omega)
  refine ⟨c i 0, c i 1, c i 2, c i 3, c i 4, ⟨?_, ?_, ?_, ?_, ?_⟩, (InO.keepB (by omega) (fun b hb hl => hoth b (by omega) (by omega)) (by omega) (hc i hi (by omega))).1⟩
  · rw [Nat.zero_add]; exact cc _ _ (g 0)
  · rw [Nat.zero_add]; exact cc _ _ (g 1)
  · rw [Nat.zero_add]; exact cc _ _ (g 2)
  · rw [Nat.zero_add]; exact cc _ _ (g 3)
  · rw [Nat.zero_add]; exact cc _ _ (g 4)
theorem twin_endO {w wr w7 : World} {h : Nat} {ts : List VT} {a0 a1 a2 a3 a4 : Value} {N : Nat} {v ks : Value} {k : Nat} (H : TwStO w wr h ts a0 a1 a2 a3 a4 N v k) (hb : Below wr.heap.size wr w7) (w8 : World) (h8 : w8 = w7.setCell ⟨w.heap.size + 1 + 1, 4, none⟩ ks) : TwEnd w w8 a0 a1 a2 v ks := by
  have H7 := H.low hb
  have ho := setCell_box4 _ _ _ _ _ _ _ ks _ H7.out
  have hr : w8.heap[w.heap.size + 1]? = some (.cells #[.int .i64 0, .string ⟨#[]⟩, .string ⟨#[]⟩, .slice none 0 0, .slice none 0 0] 25 (0, 0)) := by rw [h8]; exact (Below.heap_setCell _ _ _ _ (by show w.heap.size + 1 ≠ w.heap.size + 1 + 1; omega)).trans H7.res
  rw [← h8] at ho
  exact ⟨cell_of_row _ _ 0 _ _ _ ho, cell_of_row _ _ 1 _ _ _ ho, cell_of_row _ _ 2 _ _ _ ho, cell_of_row _ _ 3 _ _ _ ho, cell_of_row _ _ 4 _ _ _ ho, cell_of_row _ _ 0 _ _ _ hr, cell_of_row _ _ 1 _ _ _ hr, cell_of_row _ _ 2 _ _ _ hr, cell_of_row _ _ 3 _ _ _ hr, cell_of_row _ _ 4 _ _ _ hr, fun j => frozen_row hr, hr⟩

set_option maxRecDepth 100000 in
set_option maxHeartbeats 6400000 in
theorem twin_stepO (h : Nat) (ih : TwOkO h) (kd : Int) (nm tx : ByteArray) (io : Option Addr) (N icap : Nat) (ko : Option Addr) (K kcap : Nat) (ts : List VT) (keys : List ByteArray) (w : World)
    (hi : IIn w h io ts) (hk : KIn w ko keys) (hN : ts.length = N) (hK : keys.length = K) (hcN : N ≤ icap) (hcK : K ≤ kcap) (hN2 : N ≤ 1048577) (hK2 : K ≤ 1048577) (hsz : ∀ i, (hi : i < ts.length) → szN h ts[i] ≤ 1048577) :
    Calls Try.prog 13 #[.agg #[.int .i64 kd, .string nm, .string tx, .slice io N icap, .slice ko K kcap]] w fun e w' =>
      ∃ (io' : Option Addr) (ic' : Nat) (ko' : Option Addr) (kc' : Nat), e = .returned (.agg #[.int .i64 kd, .string nm, .string tx, .slice io' N ic', .slice ko' K kc']) ∧ Hid (N ≤ ic' ∧ K ≤ kc' ∧ TwRO w w' h ts keys N K io' ko' ic' kc') := by
  obtain ⟨i0, hi0, hz0, hz1, hz2⟩ := info_parts Try.infoV
  have HI := Hid.mk hi
  have HK := Hid.mk hk
  have HNN := Hid.mk hN
  have HKK := Hid.mk hK
  have HIh := Hid.mk ih
  have HSZ := Hid.mk hsz
  obtain ⟨x0, x1, x2, x3⟩ := boxes3 w (.cells #[.int .i64 kd, .string nm, .string tx, .slice io N icap, .slice ko K kcap] 25) (.cells #[.int .i64 0, .string ⟨#[]⟩, .string ⟨#[]⟩, .slice none 0 0, .slice none 0 0] 25) (.cells #[.int .i64 kd, .string nm, .string tx, .slice io N icap, .slice ko K kcap] 25)
  have HX := Hid.mk (And.intro x0 (And.intro x1 (And.intro x2 x3)))
  have HB3 := Hid.mk (below_more (below2 w (.cells #[.int .i64 kd, .string nm, .string tx, .slice io N icap, .slice ko K kcap] 25) (.cells #[.int .i64 0, .string ⟨#[]⟩, .string ⟨#[]⟩, .slice none 0 0, .slice none 0 0] 25)) (below1 _ (.cells #[.int .i64 kd, .string nm, .string tx, .slice io N icap, .slice ko K kcap] 25)))
  clear hi hk hN hK ih hsz x0 x1 x2 x3
  go_enter Try.func13, Try.ntmps13
  go_wp2_with fail
  refine (w_Grow N _ hN2).mono ?_
  rintro e w2 hG
  obtain ⟨v, hev, HS⟩ : ∃ v, e = .returned v ∧ Hid (TwStO w (w2.setCell ⟨w.heap.size + 1 + 1, 3, none⟩ v) h ts (.int .i64 kd) (.string nm) (.string tx) (.slice io N icap) (.slice ko K kcap) N v 0 ∧ w2.heap[w.heap.size + 1 + 1]? = some (.cells #[.int .i64 kd, .string nm, .string tx, .slice io N icap, .slice ko K kcap] 25 (0, 0)) ∧ ∃ ao n c, v = .slice ao n c) := by
    obtain ⟨x0, x1, x2, x3⟩ := HX.out
    rcases hG with ⟨h0, rfl, rfl⟩ | ⟨h0, cap, hcap, rfl, HO, HB⟩
    · exact ⟨_, rfl, TwStO.start HB3.out x0 x1 x2 (.inl ⟨h0, rfl⟩), x2, _, _, _, rfl⟩
    · have lt : ∀ {b : Nat} {o : Obj}, b < w.heap.size + 3 → (((w.alloc (.cells #[.int .i64 kd, .string nm, .string tx, .slice io N icap, .slice ko K kcap] 25)).alloc (.cells #[.int .i64 0, .string ⟨#[]⟩, .string ⟨#[]⟩, .slice none 0 0, .slice none 0 0] 25)).alloc (.cells #[.int .i64 kd, .string nm, .string tx, .slice io N icap, .slice ko K kcap] 25)).heap[b]? = some o → w2.heap[b]? = some o := fun {b o} hl e => heap_low HB.out (by rw [x3]; exact hl) e
      refine ⟨_, rfl, TwStO.start (below_more HB3.out HB.out) (lt (by omega) x0) (lt (by omega) x1) (lt (by omega) x2) (.inr ⟨cap, hcap, ?_, ?_⟩), lt (by omega) x2, _, _, _, rfl⟩
      · rw [x3]
      · have := HO.out; rw [x3] at this ⊢; exact this
  subst hev
  clear hG HX HB3
  obtain ⟨ao, an, ac, hv⟩ := HS.out.2.2
  subst hv
  have o3 := cell_of_row _ _ 3 _ _ _ HS.out.2.1
  have f3 := frozen_row (j := 3) HS.out.2.1
  have c3 := HS.out.1.c3
  go_wp2_with fail
  obtain ⟨w3, hw3⟩ : ∃ w3, w2.setCell ⟨w.heap.size + 1 + 1, 3, none⟩ (.slice ao an ac) = w3 := ⟨_, rfl⟩
  have HS3 : Hid (TwStO w w3 h ts (.int .i64 kd) (.string nm) (.string tx) (.slice io N icap) (.slice ko K kcap) N (.slice ao an ac) 0) := by rw [← hw3]; exact HS.out.1
  rw [hw3]
  clear hw3 HS o3 f3 c3
  go_loopw [15] (fun i wr => ∃ (k : Nat) (v : Value), k ≤ N ∧ i = .int .i64 (k : Int) ∧ Hid (TwStO w wr h ts (.int .i64 kd) (.string nm) (.string tx) (.slice io N icap) (.slice ko K kcap) N v k)) (fun i _ => N - (intOf i).toNat)
  case atStart => exact ⟨0, _, Nat.zero_le _, rfl, HS3⟩
  case round =>
    clear HS3
    obtain ⟨k, v, hk, rfl, HQ⟩ := hrel
    by_cases hlt : k < N
    · have hl1 : (k : Int) < (N : Int) := by omega
      have hkl : k < ts.length := by rw [HNN.out]; exact hlt
      obtain ⟨cap, hcap, hv⟩ : ∃ cap, N ≤ cap ∧ v = .slice (some ⟨w.heap.size + 3, 0, none⟩) k cap := by
        rcases HQ.out.shape with ⟨h1, _⟩ | h1
        · omega
        · exact h1
      subst hv
      obtain ⟨b, off, hio, hbl, hrow⟩ := (HI.out.keep HQ.out.below).row (by omega)
      subst hio
      obtain ⟨v0, v1, v2, v3, v4, ⟨c0, c1, c2, c3, c4⟩, ht⟩ := hrow k hkl
      obtain ⟨ik, inm, itx, iio, iN, iicap, iko, iK, ikcap, rfl, rfl, rfl, rfl, rfl⟩ := ht.shape
      have hw3 : w.heap.size + 3 < wr.heap.size := by
        obtain ⟨c, ho, _⟩ := HQ.out.its
        exact (ho.lt (w.heap.size + 3) rfl).2
      have HBx := Hid.mk (below1 wr (.cells #[.int .i64 ik, .string inm, .string itx, .slice iio iN iicap, .slice iko iK ikcap] 25))
      have o3 := HQ.out.o3
      have o3a : ∀ o, (wr.alloc o).cell? ⟨w.heap.size + 1 + 1, 3, none⟩ = some (.slice (some ⟨w.heap.size + 3, 0, none⟩) k cap) := fun o => ((below1 wr o).cell (p := ⟨_, _, _⟩) HQ.out.lt).trans o3
      have HC : Hid (∀ u, Below (wr.alloc (.cells #[.int .i64 ik, .string inm, .string itx, .slice iio iN iicap, .slice iko iK ikcap] 25)).heap.size (wr.alloc (.cells #[.int .i64 ik, .string inm, .string itx, .slice iio iN iicap, .slice iko iK ikcap] 25)) u → Calls Try.prog 13 #[.agg #[.int .i64 ik, .string inm, .string itx, .slice iio iN iicap, .slice iko iK ikcap]] u fun e w4 =>
          ∃ (yk : Int) (yn yt : ByteArray) (yio : Option Addr) (yN yic : Nat) (yko : Option Addr) (yK ykc : Nat) (c : Nat → Fin 5 → Value), e = .returned (.agg #[.int .i64 yk, .string yn, .string yt, .slice yio yN yic, .slice yko yK ykc]) ∧
            Hid (TwStO w w4 h ts (.int .i64 kd) (.string nm) (.string tx) (.slice (some ⟨b, off, none⟩) N icap) (.slice ko K kcap) N (.slice (some ⟨w.heap.size + 3, 0, none⟩) k cap) k ∧ (∀ i, (hi : i < ts.length) → i < k → InO (w.heap.size + 4) w4 h ts[i] (.agg #[c i 0, c i 1, c i 2, c i 3, c i 4])) ∧ InO (w.heap.size + 4) w4 h ts[k] (.agg #[.int .i64 yk, .string yn, .string yt, .slice yio yN yic, .slice yko yK ykc]) ∧ w.heap.size + 3 < w4.heap.size) ∧
            w4.ownsRow (w.heap.size + 3) 25 5 (.slice (some ⟨w.heap.size + 3, 0, none⟩) k cap) k (flat c k) ∧ (∀ o, (w4.alloc o).cell? ⟨w.heap.size + 1 + 1, 3, none⟩ = some (.slice (some ⟨w.heap.size + 3, 0, none⟩) k cap)) ∧ w4.cell? ⟨w.heap.size + 1 + 1, 3, none⟩ = some (.slice (some ⟨w.heap.size + 3, 0, none⟩) k cap)) := by
        intro u hu
        have hu2 := below_more HBx.out hu
        refine (HIh.out _ _ u (ht.keep hu2) (HSZ.out k hkl)).mono ?_
        rintro e w4 ⟨v', rfl, hF, hb4⟩
        have hw4 := below_more hu2 hb4
        obtain ⟨yk, yn, yt, yio, yN, yic, yko, yK, ykc, rfl⟩ := hF.shape
        have hT := HQ.out.low hw4
        obtain ⟨c, ho, hc⟩ := hT.its
        have husz := hu.size
        simp at husz
        have hsz4 := hw4.size
        exact ⟨yk, yn, yt, yio, yN, yic, yko, yK, ykc, c, rfl, ⟨hT, hc, InO.keepB (Nat.le_refl _) (fun _ _ _ => rfl) (by omega) hF, by omega⟩, ho, fun o => ((below1 w4 o).cell (p := ⟨_, _, _⟩) hT.lt).trans hT.o3, hT.o3⟩
      have hkc : k + 1 ≤ cap := by omega
      clear hrow hbl ht o3
      go_wp2_with fail
      go_region_law (first | (refine step_append_fits (by rfl) _ _ _ (by rfl) (w.heap.size + 3) 25 i0 5 Try.underlying22 hi0 hz1 (w.heap.size + 3) k cap (flat c k) (by rfl) (ho4.alloc _) ⟨w4.heap.size, 0, none⟩ 1 1 [.int .i64 yk, .string yn, .string yt, .slice yio yN yic, .slice yko yK ykc] (by rfl) (by rfl) (new5 (heap_alloc_new w4 _)) (by intro u hu; simp at hu; rcases hu with rfl | rfl | rfl | rfl | rfl <;> rfl) hkc ?_; intro w5 hown5 hgrow5; have hq5 : w5.cell? ⟨w.heap.size + 1 + 1, 3, none⟩ = some (.slice (some ⟨w.heap.size + 3, 0, none⟩) k cap) := hgrow5.cell (q4a _) (by intro e; have h2 : w.heap.size + 1 + 1 = w.heap.size + 3 := Option.some.inj e; omega); have hf5 : w5.frozen? ⟨w.heap.size + 1 + 1, 3, none⟩ = false := frozen_row (j := 3) ((hgrow5.block (w.heap.size + 1 + 1) (by simp; have := HT4.out.1.lt; omega) (by intro e; have h2 : w.heap.size + 1 + 1 = w.heap.size + 3 := Option.some.inj e; omega)).trans ((Below.heap_alloc _ _ _ HT4.out.1.lt).trans HT4.out.1.out))) | (go_simp; go_wp2_with (go_at_call 13; refine (HC.out _ (by first | exact Below.refl _ _ | exact (Below.refl _ _).drew)).mono ?_; rintro e w4 ⟨yk, yn, yt, yio, yN, yic, yko, yK, ykc, c, rfl, HT4, ho4, q4a, q4⟩)))
      all_goals have HN : Hid (TwStO w (w5.setCell ⟨w.heap.size + 1 + 1, 3, none⟩ (.slice (some ⟨w.heap.size + 3, 0, none⟩) (k + 1) cap)) h ts (.int .i64 kd) (.string nm) (.string tx) (.slice (some ⟨b, off, none⟩) N icap) (.slice ko K kcap) N (.slice (some ⟨w.heap.size + 3, 0, none⟩) (k + 1) cap) (k + 1)) := TwStO.more hkl HT4.out.2.2.2 HT4.out.1 c _ _ _ _ _ HT4.out.2.1 HT4.out.2.2.1 hcap hgrow5 hown5
      all_goals clear hown5 hgrow5 hq5 hf5 ho4 q4a q4
      all_goals go_wp2_with fail
      all_goals go_roundw
      all_goals first | (case rel => exact ⟨k + 1, _, hlt, by go_num, HN⟩) | skip
      all_goals simp [intOf]
      all_goals omega
    · have hl1 : ¬ (k : Int) < (N : Int) := by omega
      obtain rfl : k = N := by omega
      have c4 := HQ.out.c4
      have hz := HQ.out.lt
      obtain ⟨vo, vn, vc, hv⟩ : ∃ vo vn vc, v = .slice vo vn vc := by
        rcases HQ.out.shape with ⟨_, _, h1⟩ | ⟨cap, _, h1⟩
        · exact ⟨_, _, _, h1⟩
        · exact ⟨_, _, _, h1⟩
      subst hv
      rcases Nat.eq_zero_or_pos K with hK0 | hK0
      · subst hK0
        have fo4 := frozen_row (j := 4) HQ.out.out
        have ho4 := cell_of_row _ _ 4 _ _ _ HQ.out.out
        obtain ⟨w8, hw8⟩ : ∃ w8, wr.setCell ⟨w.heap.size + 1 + 1, 4, none⟩ (.slice none 0 0) = w8 := ⟨_, rfl⟩
        have HE := Hid.mk (twin_endO (w7 := wr) (ks := .slice none 0 0) HQ.out (Below.refl _ _) w8 hw8.symm)
        have l0 := HE.out.l0
        have l1 := HE.out.l1
        have l2 := HE.out.l2
        have l3 := HE.out.l3
        have l4 := HE.out.l4
        have r0 := HE.out.r0
        have r1 := HE.out.r1
        have r2 := HE.out.r2
        have r3 := HE.out.r3
        have r4 := HE.out.r4
        have fr := HE.out.fr
        cases ko with
        | none =>
          go_wp2_with fail
          (try simp only [Exit.inBlock, Exit.then])
          obtain ⟨wz, hwz⟩ : ∃ wz, ((((w8.setCell ⟨w.heap.size + 1, 0, none⟩ (.int .i64 kd)).setCell ⟨w.heap.size + 1, 1, none⟩ (.string nm)).setCell ⟨w.heap.size + 1, 2, none⟩ (.string tx)).setCell ⟨w.heap.size + 1, 3, none⟩ (.slice vo vn vc)).setCell ⟨w.heap.size + 1, 4, none⟩ (.slice none 0 0) = wz := ⟨_, rfl⟩
          rw [hwz]
          obtain ⟨zb, zo, zs, zbl⟩ := set5 w8 (w.heap.size + 1) _ _ _ _ _ _ _ _ _ _ _ HE.out.blk wz hwz.symm
          have z0 := cell_of_row _ _ 0 _ _ _ zb
          have z1 := cell_of_row _ _ 1 _ _ _ zb
          have z2 := cell_of_row _ _ 2 _ _ _ zb
          have z3 := cell_of_row _ _ 3 _ _ _ zb
          have z4 := cell_of_row _ _ 4 _ _ _ zb
          have hoth : ∀ b, b ≠ w.heap.size + 1 → b ≠ w.heap.size + 1 + 1 → wz.heap[b]? = wr.heap[b]? := fun b h1 h2 => (zo b h1).trans (by rw [← hw8]; exact Below.heap_setCell _ _ _ _ h2)
          have hzs : wz.heap.size = wr.heap.size := by rw [zs, ← hw8]; simp
          have hbz : Below w.heap.size wr wz := ((Below.refl _ wr).setCell (p := ⟨w.heap.size + 1 + 1, 4, none⟩) (by show _ ≤ w.heap.size + 1 + 1; omega) (.slice none 0 0)).trans (by rw [hw8]; exact zbl _ (by omega))
          obtain ⟨e1, e2, hR⟩ := twin_finO (keys := keys) (K := 0) (ko := none) (kc := 0) HQ.out HNN.out (Below.refl _ _) hoth hzs hbz (fun h => by omega) ⟨[], World.ownsRow_nil _ _ _ _⟩
          subst e1
          refine bodyPost_ret (v := .agg #[.int .i64 kd, .string nm, .string tx, .slice vo vn vc, .slice none 0 0]) (by simp [results, Try.results13, go_sem, z0, z1, z2, z3, z4]) rfl ?_
          first | exact ⟨_, _, _, _, rfl, e2, Nat.le_refl _, hR⟩ | exact ⟨_, _, _, _, rfl, e2, hR⟩
        | some ad =>
          go_wp2_with fail
          (try simp only [Exit.inBlock, Exit.then])
          obtain ⟨wz, hwz⟩ : ∃ wz, ((((w8.setCell ⟨w.heap.size + 1, 0, none⟩ (.int .i64 kd)).setCell ⟨w.heap.size + 1, 1, none⟩ (.string nm)).setCell ⟨w.heap.size + 1, 2, none⟩ (.string tx)).setCell ⟨w.heap.size + 1, 3, none⟩ (.slice vo vn vc)).setCell ⟨w.heap.size + 1, 4, none⟩ (.slice none 0 0) = wz := ⟨_, rfl⟩
          rw [hwz]
          obtain ⟨zb, zo, zs, zbl⟩ := set5 w8 (w.heap.size + 1) _ _ _ _ _ _ _ _ _ _ _ HE.out.blk wz hwz.symm
          have z0 := cell_of_row _ _ 0 _ _ _ zb
          have z1 := cell_of_row _ _ 1 _ _ _ zb
          have z2 := cell_of_row _ _ 2 _ _ _ zb
          have z3 := cell_of_row _ _ 3 _ _ _ zb
          have z4 := cell_of_row _ _ 4 _ _ _ zb
          have hoth : ∀ b, b ≠ w.heap.size + 1 → b ≠ w.heap.size + 1 + 1 → wz.heap[b]? = wr.heap[b]? := fun b h1 h2 => (zo b h1).trans (by rw [← hw8]; exact Below.heap_setCell _ _ _ _ h2)
          have hzs : wz.heap.size = wr.heap.size := by rw [zs, ← hw8]; simp
          have hbz : Below w.heap.size wr wz := ((Below.refl _ wr).setCell (p := ⟨w.heap.size + 1 + 1, 4, none⟩) (by show _ ≤ w.heap.size + 1 + 1; omega) (.slice none 0 0)).trans (by rw [hw8]; exact zbl _ (by omega))
          obtain ⟨e1, e2, hR⟩ := twin_finO (keys := keys) (K := 0) (ko := none) (kc := 0) HQ.out HNN.out (Below.refl _ _) hoth hzs hbz (fun h => by omega) ⟨[], World.ownsRow_nil _ _ _ _⟩
          subst e1
          refine bodyPost_ret (v := .agg #[.int .i64 kd, .string nm, .string tx, .slice vo vn vc, .slice none 0 0]) (by simp [results, Try.results13, go_sem, z0, z1, z2, z3, z4]) rfl ?_
          first | exact ⟨_, _, _, _, rfl, e2, Nat.le_refl _, hR⟩ | exact ⟨_, _, _, _, rfl, e2, hR⟩
      · obtain ⟨kb, koff, hko, hkbl, hkrow⟩ := (HK.out.keep HQ.out.below).row (by rw [HKK.out]; exact hK0)
        subst hko
        obtain ⟨j0, hj0, hy0, hy1, hy2⟩ := info_parts Try.infoSt
        go_wp2_with (at_builtin; refine wpList_append_lies _ (by rfl) _ _ 23 (by rfl) w.heap.size 9 j0 (.string ⟨#[]⟩) 1 16 Try.underlying23 hj0 hy0 hy1 hy2 rfl (by decide) (.slice none 0 0) 0 [] (by rfl) (World.ownsRow_nil _ _ _ _) ⟨kb, koff, none⟩ K kcap (keys.map .string) (by rfl) (by simp [HKK.out]) (fun j u hu => by
          rw [Go.WideShapes.add_plain]
          obtain ⟨hjl, hje⟩ := List.getElem?_eq_some_iff.1 hu
          simp at hjl hje
          rw [hkrow j hjl, getD_key hjl, hje]) (by intro u hu; obtain ⟨s, _, rfl⟩ := List.mem_map.1 hu; rfl) hK0 (by unfold maxLen; omega) (by omega) HQ.out.below.size wr.heap.size rfl ?_)
        intro g7 cap7 w7 hown7 hgrow7 hat7 hlt7
        (try rw [Nat.zero_add] at hown7)
        (try rw [Nat.zero_add])
        have HC7 : Hid (K ≤ cap7) := by
          rcases hown7.2 with ⟨h1, _⟩ | ⟨g, cp, cur, h1, _, _, h2, _⟩
          · cases h1
          · simp only [Value.slice.injEq] at h1
            show K ≤ cap7
            omega
        have hb7 : Below wr.heap.size wr w7 := ⟨hgrow7.os, hgrow7.tape, hgrow7.output, hgrow7.size, fun b hb => hgrow7.block b hb (fun e => by cases e)⟩
        have hQ7 := HQ.out.low hb7
        have fo4 := frozen_row (j := 4) hQ7.out
        have ho4 := cell_of_row _ _ 4 _ _ _ hQ7.out
        obtain ⟨w8, hw8⟩ : ∃ w8, w7.setCell ⟨w.heap.size + 1 + 1, 4, none⟩ (.slice (some ⟨g7, 0, none⟩) K cap7) = w8 := ⟨_, rfl⟩
        have HE := Hid.mk (twin_endO (ks := .slice (some ⟨g7, 0, none⟩) K cap7) HQ.out hb7 w8 hw8.symm)
        have HO7 := Hid.mk hown7
        have HB7 := Hid.mk hb7
        have HG7 : Hid (g7 = wr.heap.size) := by
          rcases hat7 with h1 | h1
          · cases h1
          · exact h1
        have l0 := HE.out.l0
        have l1 := HE.out.l1
        have l2 := HE.out.l2
        have l3 := HE.out.l3
        have l4 := HE.out.l4
        have r0 := HE.out.r0
        have r1 := HE.out.r1
        have r2 := HE.out.r2
        have r3 := HE.out.r3
        have r4 := HE.out.r4
        have fr := HE.out.fr
        clear hown7 hgrow7 hat7 hQ7 hkrow hb7
        go_wp2_with fail
        (try simp only [Exit.inBlock, Exit.then])
        obtain ⟨wz, hwz⟩ : ∃ wz, ((((w8.setCell ⟨w.heap.size + 1, 0, none⟩ (.int .i64 kd)).setCell ⟨w.heap.size + 1, 1, none⟩ (.string nm)).setCell ⟨w.heap.size + 1, 2, none⟩ (.string tx)).setCell ⟨w.heap.size + 1, 3, none⟩ (.slice vo vn vc)).setCell ⟨w.heap.size + 1, 4, none⟩ (.slice (some ⟨g7, 0, none⟩) K cap7) = wz := ⟨_, rfl⟩
        rw [hwz]
        obtain ⟨zb, zo, zs, zbl⟩ := set5 w8 (w.heap.size + 1) _ _ _ _ _ _ _ _ _ _ _ HE.out.blk wz hwz.symm
        have z0 := cell_of_row _ _ 0 _ _ _ zb
        have z1 := cell_of_row _ _ 1 _ _ _ zb
        have z2 := cell_of_row _ _ 2 _ _ _ zb
        have z3 := cell_of_row _ _ 3 _ _ _ zb
        have z4 := cell_of_row _ _ 4 _ _ _ zb
        have hoth : ∀ b, b ≠ w.heap.size + 1 → b ≠ w.heap.size + 1 + 1 → wz.heap[b]? = w7.heap[b]? := fun b h1 h2 => (zo b h1).trans (by rw [← hw8]; exact Below.heap_setCell _ _ _ _ h2)
        have hzs : wz.heap.size = w7.heap.size := by rw [zs, ← hw8]; simp
        have hbz : Below w.heap.size w7 wz := ((Below.refl _ w7).setCell (p := ⟨w.heap.size + 1 + 1, 4, none⟩) (by show _ ≤ w.heap.size + 1 + 1; omega) (.slice (some ⟨g7, 0, none⟩) K cap7)).trans (by rw [hw8]; exact zbl _ (by omega))
        obtain ⟨e1, e2, hR⟩ := twin_finO (keys := keys) (K := K) (ko := some ⟨g7, 0, none⟩) (kc := cap7) HQ.out HNN.out HB7.out hoth hzs hbz (fun _ => by
          have hg := HG7.out
          have hl7 := (HO7.out.lt g7 rfl).2
          refine ⟨g7, 0, rfl, by omega, by omega, fun i hi => ?_⟩
          rw [Nat.zero_add]
          refine (World.cell?_of_block (a := ⟨g7, i, none⟩) (hoth g7 (by omega) (by omega))).trans ?_
          have hik : i < keys.length := by rw [HKK.out]; exact hi
          rw [own_cellAt HO7.out (by omega), List.getElem?_map, List.getElem?_eq_getElem hik, getD_key hik]; rfl) ⟨_, by
          have hg := HG7.out
          have hl7 := HQ.out.below.size
          have hlt2 := HQ.out.lt
          obtain ⟨q1, q2⟩ := HO7.out
          refine ⟨q1, q2.imp id ?_⟩
          rintro ⟨g, cp, cur, y1, y2, y3, rest⟩
          have hgg : g = g7 := by simp only [Value.slice.injEq, Option.some.injEq, Addr.mk.injEq] at y1; exact y1.1.1.symm
          exact ⟨g, cp, cur, y1, y2, (hoth g (by omega) (by omega)).trans y3, rest⟩⟩
        subst e1
        refine bodyPost_ret (v := .agg #[.int .i64 kd, .string nm, .string tx, .slice vo vn vc, .slice (some ⟨g7, 0, none⟩) K cap7]) (by simp [results, Try.results13, go_sem, z0, z1, z2, z3, z4]) rfl ?_
        exact ⟨_, _, _, _, rfl, e2, HC7.out, hR⟩

theorem w_TwinO : ∀ h, TwOkO h
  | 0 => fun T v w hI _ => hI.elim
  | h + 1 => fun T v w hI hsz => by
    obtain ⟨io, icap, ko, kcap, rfl, a1, a2, a3, a4, a5, a6, a7, hk, hi⟩ := hI.open
    have hz : 1 + T.keys.length + sumL (T.items.map (szN h)) ≤ 1048577 := hsz
    have hN : T.items.length ≤ 1048577 := by
      rcases Nat.eq_zero_or_pos T.items.length with h0 | h0
      · omega
      · cases h with
        | zero =>
          obtain ⟨b, off, _, _, hr⟩ := hi.row h0
          obtain ⟨_, _, _, _, _, _, ht⟩ := hr 0 h0
          exact ht.elim
        | succ h =>
          have := sz_items (h := h) (T := T)
          omega
    refine (twin_stepO h (w_TwinO h) T.kind T.num T.text io _ icap ko _ kcap T.items T.keys w hi hk rfl rfl a5 a6 hN (by omega) (fun i hi' => by have := szN_item (h := h) hi'; omega)).mono ?_
    rintro e w' ⟨io', ic', ko', kc', rfl, e1, e2, hR⟩
    exact ⟨_, rfl, ⟨⟨io', ic', ko', kc', rfl, a1, a2, a3, a4, e1, e2, a7, hR.keys, hR.items⟩, _, _, _, io', ic', ko', kc', rfl, e1, e2, hR.ownk, hR.own⟩, hR.below⟩

end Go.Proofs.Ytaflpeajapdkdaa
