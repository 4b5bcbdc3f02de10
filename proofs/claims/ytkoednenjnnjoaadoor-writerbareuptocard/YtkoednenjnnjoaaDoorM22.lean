import Derived.Test.YtkoednenjnnjoaaDoorM20
import Derived.Test.YtkoednenjnnjoaaDoorM21
namespace Go.Proofs.YtkoednenjnnjoaaDoor
open Go.RowKit Go.Sort
set_option linter.unusedVariables false
set_option linter.unusedSimpArgs false

set_option maxHeartbeats 1600000 in
set_option maxRecDepth 100000 in
theorem value_gen {B S fk : Nat} {St : World → List UInt8 → Prop} (P : PutOk B S fk St) (nf : Nat) (ent : ∀ args w, (callFunc nf args).run Tryd.prog w = .ok (.enter nf args) w) (w : World) (Wr : Nat) (kd : Int) (nm tx : ByteArray) (io ko : Value) (l' : List UInt8) (hB : B ≤ w.heap.size)
    (hnx : ∀ u, Calls Tryd.prog 40 #[.pointer (some ⟨Wr, 0, none⟩), .int .i64 kd] u fun e w' => e = .returned (.func (.func nf) #[.pointer (some ⟨Wr, 0, none⟩)] #[]) ∧ w' = u)
    (hbd : ∀ u, Below w.heap.size w u → Calls Tryd.prog nf #[.pointer (some ⟨Wr, 0, none⟩), .agg #[.int .i64 kd, .string nm, .string tx, io, ko]] u fun e w' => e = .returned (.tuple #[]) ∧ St w' l' ∧ Below B u w' ∧ Lib.OthersKept 5 (some S) u w') :
    Calls Tryd.prog 24 #[.pointer (some ⟨Wr, 0, none⟩), .agg #[.int .i64 kd, .string nm, .string tx, io, ko]] w fun e w' => e = .returned (.tuple #[]) ∧ St w' l' ∧ Below B w w' ∧ Lib.OthersKept 5 (some S) w w' := by
  have HX := Hid.mk (vbx_new w (.int .i64 kd) (.string nm) (.string tx) io ko)
  obtain ⟨W0, hW0⟩ : ∃ W0, W0 = w.alloc (.cells #[.int .i64 kd, .string nm, .string tx, io, ko] 25) := ⟨_, rfl⟩
  rw [← hW0] at HX
  have b0 := HX.out.c0
  have b1 := HX.out.c1
  have b2 := HX.out.c2
  have b3 := HX.out.c3
  have b4 := HX.out.c4
  have HN := Hid.mk (hnx W0)
  have HB : Hid (Calls Tryd.prog nf #[.pointer (some ⟨Wr, 0, none⟩), .agg #[.int .i64 kd, .string nm, .string tx, io, ko]] W0 fun e w' => e = .returned (.tuple #[]) ∧ St w' l' ∧ Below B w w' ∧ Lib.OthersKept 5 (some S) w w') := by
    refine (hbd W0 HX.out.below).mono ?_
    rintro e w' ⟨he, h1, h2, h3⟩
    exact ⟨he, h1, (HX.out.below.mono hB).trans h2, (others_of_below HX.out.below).trans h3⟩
  have HW0 := Hid.mk hW0
  clear hnx hbd hW0
  go_enter Tryd.func24, Tryd.ntmps24
  go_wp2_with fail
  rw [← HW0.out]
  refine HN.out.mono ?_
  rintro e w1 ⟨rfl, rfl⟩
  go_wp2_with fail
  refine HB.out.mono ?_
  rintro e w2 ⟨rfl, hR⟩
  have HR := Hid.mk hR
  clear hR b0 b1 b2 b3 b4
  go_wp2_with fail
  go_end0
  exact ⟨rfl, HR.out⟩

theorem noName_ok (B S Wr fk : Nat) (st : Option Nat) (N : Nat) : NameOk B S 58 #[] Wr fk st N (fun _ => True) (fun _ => []) :=
  ⟨enters_of Tryd.func58 (by kernel_rfl) rfl, fun w d i _ _ _ => w_noname w i, fun _ _ _ _ _ => trivial, fun _ _ _ _ => trivial⟩

set_option maxHeartbeats 1600000 in
set_option maxRecDepth 100000 in
theorem w_array {B S fk : Nat} {St : World → List UInt8 → Prop} (P : PutOk B S fk St) (Wr : Nat) (st : Option Nat) (w0 : World) (h : Nat) (ih : VOk B S fk St Wr st w0 h) (N : Nat) (nm tx : ByteArray) (ko : Value)
    (io : Option Addr) (icap : Nat) (ts : List VT) (hts : ts.length = N) (hI : IIn w0 h io ts) (hN : N ≤ icap) (hN2 : N ≤ 140737488355328) (hf : ∀ t ∈ ts, formN h t = true) (hsh : ∀ t ∈ ts, ShV h t) (w : World) (d : Nat) (l : List UInt8) (hb : Below w0.heap.size w0 w) (hW : WrAt w Wr fk S st d) (hSt : St w l) (hB : B ≤ w.heap.size) (hB0 : w0.heap.size ≤ B) (hBW : B ≤ Wr) (hS : S < w.heap.size) (hne : Wr ≠ S) (hst : ∀ s, st = some s → s ≤ 8) (hd : d + 1 ≤ 1099511627776) (hdt : ∀ t ∈ ts, d + 1 + szN h t ≤ 1099511627776)
    (it : Nat → List UInt8) (hit : ∀ i, (hi : i < ts.length) → it i = wrV st h (d + 1) ts[i]) (hlen : l.length + (rowW 91 93 (lnW st (d + 1)) (lnW st d) (fun _ => []) it N).length ≤ 140737488355328) :
    Calls Tryd.prog 50 #[.pointer (some ⟨Wr, 0, none⟩), .agg #[.int .i64 5, .string nm, .string tx, .slice io N icap, ko]] w fun e w' => e = .returned (.tuple #[]) ∧ St w' (l ++ rowW 91 93 (lnW st (d + 1)) (lnW st d) (fun _ => []) it N) ∧ Below B w w' ∧ Lib.OthersKept 5 (some S) w w' := by
  have HX := Hid.mk (vbx_new w (.int .i64 5) (.string nm) (.string tx) (.slice io N icap) ko)
  obtain ⟨W0, hW0⟩ : ∃ W0, W0 = w.alloc (.cells #[.int .i64 5, .string nm, .string tx, .slice io N icap, ko] 25) := ⟨_, rfl⟩
  rw [← hW0] at HX
  have b3 := HX.out.c3
  have hwb := HX.out.below
  have HB : Hid (Calls Tryd.prog 57 #[.pointer (some ⟨Wr, 0, none⟩), .string ⟨#[91]⟩, .string ⟨#[93]⟩, .slice io N icap, .func (.func 58) #[] #[]] W0 fun e w' => e = .returned (.tuple #[]) ∧ St w' (l ++ rowW 91 93 (lnW st (d + 1)) (lnW st d) (fun _ => []) it N) ∧ Below B w w' ∧ Lib.OthersKept 5 (some S) w w') := by
    refine (w_row P Wr st w0 h ih _ #[] N _ _ (noName_ok B S Wr fk st N) 91 93 io icap ts hts hI hN hN2 hf hsh W0 d l (hb.trans (hwb.mono hb.size)) (hW.below hwb) (P.below hSt hwb) trivial (Nat.le_trans hB hwb.size) hB0 hBW (Nat.lt_of_lt_of_le hS hwb.size) hne hst hd hdt it hit hlen).mono ?_
    rintro e w' ⟨he, h1, h2, h3⟩
    exact ⟨he, h1, (hwb.mono hB).trans h2, (others_of_below hwb).trans h3⟩
  have HW0 := Hid.mk hW0
  clear hW0 hwb hI hf hsh hit hdt hlen hst
  go_enter Tryd.func50, Tryd.ntmps50
  go_wp2_with fail
  rw [← HW0.out]
  refine HB.out.mono ?_
  rintro e w2 ⟨rfl, hR⟩
  have HR := Hid.mk hR
  clear hR b3
  go_wp2_with fail
  go_end0
  exact ⟨rfl, HR.out⟩

/-- what the names' function stands on -/
structure NmP (w0 : World) (wb vb Wr : Nat) (a : Array Value) (u : World) : Prop where
  box : u.heap[wb]? = some (.cells #[.pointer (some ⟨Wr, 0, none⟩)] 65 (0, 0))
  val : u.heap[vb]? = some (.cells a 25 (0, 0))
  below : Below w0.heap.size w0 u
theorem name_ok (w0 : World) (B S Wr fk wb vb : Nat) (st : Option Nat) (kd : Int) (nm tx : ByteArray) (io : Value) (ko : Option Addr) (K kcap : Nat) (keys : List ByteArray) (hK : keys.length = K) (hkc : K ≤ kcap) (hK2 : K ≤ 140737488355328) (hk : KIn w0 ko keys) (hsz : ∀ k ∈ keys, k.size ≤ 68719476736) (hB0 : w0.heap.size ≤ B) (hBW : B ≤ Wr) (hwS : wb ≠ S) (hvS : vb ≠ S) (hwW : wb ≠ Wr) (hvW : vb ≠ Wr) :
    NameOk B S 59 #[.pointer (some ⟨vb, 0, none⟩), .pointer (some ⟨wb, 0, none⟩)] Wr fk st K (NmP w0 wb vb Wr #[.int .i64 kd, .string nm, .string tx, io, .slice ko K kcap]) (fun i => wQ (keys.getD i .empty).data.toList ++ clW st) where
  ent := enters_of Tryd.func59 (by kernel_rfl) rfl
  call := fun w d i hP hW hi => w_name w vb wb Wr fk S st d ko K kcap keys i hi hK hkc hK2 hW (hk.keep hP.below) (by rw [Lib.cell_of_heap hP.val]; rfl) (by rw [Lib.cell_of_heap hP.box]; rfl) hsz
  keepO := fun w w' hP ho hb => ⟨ho _ _ hP.box (fun e => hwS (Option.some.inj e)) (fun c fz e => by injection e with _ e2; exact absurd e2 (by decide)), ho _ _ hP.val (fun e => hvS (Option.some.inj e)) (fun c fz e => by injection e with _ e2; exact absurd e2 (by decide)), hP.below.trans (hb.mono hB0)⟩
  keepW := fun w x hP _ => ⟨(Below.heap_setCell _ _ _ _ (fun e => hwW (by simpa using e))).trans hP.box, (Below.heap_setCell _ _ _ _ (fun e => hvW (by simpa using e))).trans hP.val, hP.below.setCell (p := ⟨Wr, 3, none⟩) (Nat.le_trans hB0 hBW) _⟩
end Go.Proofs.YtkoednenjnnjoaaDoor
namespace Go.Proofs.YtkoednenjnnjoaaDoor
open Go.RowKit Go.Sort
set_option linter.unusedVariables false
set_option linter.unusedSimpArgs false

set_option maxHeartbeats 1600000 in
set_option maxRecDepth 100000 in
theorem w_object {B S fk : Nat} {St : World → List UInt8 → Prop} (P : PutOk B S fk St) (Wr : Nat) (st : Option Nat) (w0 : World) (h : Nat) (ih : VOk B S fk St Wr st w0 h) (N : Nat) (nm tx : ByteArray) (ko : Option Addr) (kcap : Nat) (keys : List ByteArray) (hK : keys.length = N) (hkc : N ≤ kcap) (hk : KIn w0 ko keys) (hsz : ∀ k ∈ keys, k.size ≤ 68719476736)
    (io : Option Addr) (icap : Nat) (ts : List VT) (hts : ts.length = N) (hI : IIn w0 h io ts) (hN : N ≤ icap) (hN2 : N ≤ 140737488355328) (hf : ∀ t ∈ ts, formN h t = true) (hsh : ∀ t ∈ ts, ShV h t) (w : World) (d : Nat) (l : List UInt8) (hb : Below w0.heap.size w0 w) (hW : WrAt w Wr fk S st d) (hSt : St w l) (hB : B ≤ w.heap.size) (hB0 : w0.heap.size ≤ B) (hBW : B ≤ Wr) (hS : S < w.heap.size) (hne : Wr ≠ S) (hst : ∀ s, st = some s → s ≤ 8) (hd : d + 1 ≤ 1099511627776) (hdt : ∀ t ∈ ts, d + 1 + szN h t ≤ 1099511627776)
    (it : Nat → List UInt8) (hit : ∀ i, (hi : i < ts.length) → it i = wrV st h (d + 1) ts[i]) (hlen : l.length + (rowW 123 125 (lnW st (d + 1)) (lnW st d) (fun i => wQ (keys.getD i .empty).data.toList ++ clW st) it N).length ≤ 140737488355328) :
    Calls Tryd.prog 51 #[.pointer (some ⟨Wr, 0, none⟩), .agg #[.int .i64 6, .string nm, .string tx, .slice io N icap, .slice ko N kcap]] w fun e w' => e = .returned (.tuple #[]) ∧ St w' (l ++ rowW 123 125 (lnW st (d + 1)) (lnW st d) (fun i => wQ (keys.getD i .empty).data.toList ++ clW st) it N) ∧ Below B w w' ∧ Lib.OthersKept 5 (some S) w w' := by
  have hmf : ∀ (fn : Fn) (first cap : Array Value) (w : World), (Instr.makeFunc fn first cap).run Tryd.prog w = .ok (.func fn first cap) w := fun _ _ _ _ => rfl
  obtain ⟨W0, hW0⟩ : ∃ W0, W0 = (w.alloc (.cells #[.pointer (some ⟨Wr, 0, none⟩)] 65)).alloc (.cells #[.int .i64 6, .string nm, .string tx, .slice io N icap, .slice ko N kcap] 25) := ⟨_, rfl⟩
  have hwb : Below w.heap.size w W0 := by rw [hW0]; exact ((Below.refl _ _).alloc (Nat.le_refl _) _).alloc (by simp) _
  have hx1 : W0.heap[w.heap.size]? = some (.cells #[.pointer (some ⟨Wr, 0, none⟩)] 65 (0, 0)) := by
    rw [hW0, Lib.alloc_old _ _ _ (by simp)]
    exact heap_alloc_new w _
  have hx2 : W0.heap[w.heap.size + 1]? = some (.cells #[.int .i64 6, .string nm, .string tx, .slice io N icap, .slice ko N kcap] 25 (0, 0)) := by
    rw [hW0]
    have e := heap_alloc_new (w.alloc (.cells #[.pointer (some ⟨Wr, 0, none⟩)] 65)) (.cells #[.int .i64 6, .string nm, .string tx, .slice io N icap, .slice ko N kcap] 25)
    rw [World.size_alloc] at e
    exact e
  have hWl := heap_lt hW
  have b0 : W0.cell? ⟨w.heap.size, 0, none⟩ = some (.pointer (some ⟨Wr, 0, none⟩)) := by rw [Lib.cell_of_heap hx1]; rfl
  have b3 : W0.cell? ⟨w.heap.size + 1, 3, none⟩ = some (.slice io N icap) := by rw [Lib.cell_of_heap hx2]; rfl
  have HB : Hid (Calls Tryd.prog 57 #[.pointer (some ⟨Wr, 0, none⟩), .string ⟨#[123]⟩, .string ⟨#[125]⟩, .slice io N icap, .func (.func 59) #[] #[.pointer (some ⟨w.heap.size + 1, 0, none⟩), .pointer (some ⟨w.heap.size, 0, none⟩)]] W0 fun e w' => e = .returned (.tuple #[]) ∧ St w' (l ++ rowW 123 125 (lnW st (d + 1)) (lnW st d) (fun i => wQ (keys.getD i .empty).data.toList ++ clW st) it N) ∧ Below B w w' ∧ Lib.OthersKept 5 (some S) w w') := by
    refine (w_row P Wr st w0 h ih _ _ N _ _ (name_ok w0 B S Wr fk w.heap.size (w.heap.size + 1) st 6 nm tx (.slice io N icap) ko N kcap keys hK hkc hN2 hk hsz hB0 hBW (by omega) (by omega) (by omega) (by omega)) 123 125 io icap ts hts hI hN hN2 hf hsh W0 d l (hb.trans (hwb.mono hb.size)) (hW.below hwb) (P.below hSt hwb) ⟨hx1, hx2, hb.trans (hwb.mono hb.size)⟩ (Nat.le_trans hB hwb.size) hB0 hBW (Nat.lt_of_lt_of_le hS hwb.size) hne hst hd hdt it hit hlen).mono ?_
    rintro e w' ⟨he, h1, h2, h3⟩
    exact ⟨he, h1, (hwb.mono hB).trans h2, (others_of_below hwb).trans h3⟩
  have HW0 := Hid.mk hW0
  clear hW0 hwb hI hf hsh hit hdt hlen hst hx1 hx2 hk hsz
  go_enter Tryd.func51, Tryd.ntmps51
  go_wp2_with fail
  rw [← HW0.out]
  refine HB.out.mono ?_
  rintro e w2 ⟨rfl, hR⟩
  have HR := Hid.mk hR
  clear hR b0 b3
  go_wp2_with fail
  go_end0
  exact ⟨rfl, HR.out⟩

theorem joinR_nil : ∀ (k : Nat), joinR (fun _ => []) k = [] | 0 => rfl | k + 1 => by simp [joinR, joinR_nil k]

set_option maxRecDepth 100000 in
set_option maxHeartbeats 1600000 in
theorem w_value {B S fk : Nat} {St : World → List UInt8 → Prop} (P : PutOk B S fk St) (Wr : Nat) (st : Option Nat) (w0 : World) (hB0 : w0.heap.size ≤ B) (hBW : B ≤ Wr) (hne : Wr ≠ S) (hst : ∀ s, st = some s → s ≤ 8) (hwd : WordsAt w0) : ∀ h, VOk B S fk St Wr st w0 h
  | 0 => by intro T v w d l hI; exact hI.elim
  | h + 1 => by
    intro T v w d l hI hf hsh hb hW hSt hB hS hd hlen
    have ih := w_value P Wr st w0 hB0 hBW hne hst hwd h
    obtain ⟨io, icap, ko, kcap, rfl, a1, a2, a3, a4, a5, a6, a7, hk, hi⟩ := hI.open
    obtain ⟨s1, s2, s3, s4⟩ := hsh
    have hgB : 0 < B := Nat.lt_of_lt_of_le hwd.lt hB0
    have hge : ∀ (t : VT), t ∈ T.items → d + 1 + szN h t ≤ 1099511627776 := by
      intro t ht
      obtain ⟨i, hil, rfl⟩ := List.getElem_of_mem ht
      have := szN_item (h := h) hil
      omega
    have hd1 : d + 1 ≤ 1099511627776 := by
      have : 1 ≤ szN (h + 1) T := by show 1 ≤ 1 + T.keys.length + _; omega
      omega
    have hit : ∀ i, (hi : i < T.items.length) → (T.items[i]?.map (wrV st h (d + 1))).getD [] = wrV st h (d + 1) T.items[i] := by
      intro i hil
      rw [List.getElem?_eq_getElem hil]; rfl
    rcases form_kind hf with ⟨hk0, hk5⟩ | hk5 | hk6
    · by_cases e0 : T.kind = 0
      · have hw : wrV st (h + 1) d T = [110, 117, 108, 108] := by unfold wrV; rw [if_pos e0]
        rw [hw] at hlen ⊢
        rw [e0]
        exact value_gen P 52 (enters_of Tryd.func52 (by kernel_rfl) rfl) w Wr 0 _ _ _ _ _ hB (fun u => w_next0 u Wr) (fun u hu => w_word0 P u Wr st d l _ _ _ _ (hW.below hu) (P.below hSt hu) hne hlen (Nat.le_trans hB hu.size) (Nat.lt_of_lt_of_le hS hu.size) (hwd.keep (hb.trans (hu.mono hb.size))) hgB)
      by_cases e1 : T.kind = 1
      · have hw : wrV st (h + 1) d T = [102, 97, 108, 115, 101] := by unfold wrV; rw [if_neg e0, if_pos e1]
        rw [hw] at hlen ⊢
        rw [e1]
        exact value_gen P 52 (enters_of Tryd.func52 (by kernel_rfl) rfl) w Wr 1 _ _ _ _ _ hB (fun u => w_next1 u Wr) (fun u hu => w_word1 P u Wr st d l _ _ _ _ (hW.below hu) (P.below hSt hu) hne hlen (Nat.le_trans hB hu.size) (Nat.lt_of_lt_of_le hS hu.size) (hwd.keep (hb.trans (hu.mono hb.size))) hgB)
      by_cases e2 : T.kind = 2
      · have hw : wrV st (h + 1) d T = [116, 114, 117, 101] := by unfold wrV; rw [if_neg e0, if_neg e1, if_pos e2]
        rw [hw] at hlen ⊢
        rw [e2]
        exact value_gen P 52 (enters_of Tryd.func52 (by kernel_rfl) rfl) w Wr 2 _ _ _ _ _ hB (fun u => w_next2 u Wr) (fun u hu => w_word2 P u Wr st d l _ _ _ _ (hW.below hu) (P.below hSt hu) hne hlen (Nat.le_trans hB hu.size) (Nat.lt_of_lt_of_le hS hu.size) (hwd.keep (hb.trans (hu.mono hb.size))) hgB)
      by_cases e3 : T.kind = 3
      · have hw : wrV st (h + 1) d T = T.num.data.toList := by unfold wrV; rw [if_neg e0, if_neg e1, if_neg e2, if_pos e3]
        rw [hw] at hlen ⊢
        rw [e3]
        have hlen2 : l.length + T.num.size ≤ 140737488355328 := by rw [Array.length_toList] at hlen; exact hlen
        exact value_gen P 48 (enters_of Tryd.func48 (by kernel_rfl) rfl) w Wr 3 _ _ _ _ _ hB (fun u => w_next3 u Wr) (fun u hu => w_number P u Wr st d l 3 _ _ _ _ (hW.below hu) (P.below hSt hu) hne hlen2 (Nat.le_trans hB hu.size))
      · have e4 : T.kind = 4 := by omega
        have hw : wrV st (h + 1) d T = wQ T.text.data.toList := by unfold wrV; rw [if_neg e0, if_neg e1, if_neg e2, if_neg e3, if_pos e4]
        rw [hw] at hlen ⊢
        rw [e4]
        exact value_gen P 49 (enters_of Tryd.func49 (by kernel_rfl) rfl) w Wr 4 _ _ _ _ _ hB (fun u => w_next4 u Wr) (fun u hu => w_text P u Wr st d l 4 _ _ _ _ (hW.below hu) (P.below hSt hu) hne hlen (Nat.le_trans hB hu.size) (by omega) (Nat.lt_of_lt_of_le hS hu.size))
    · have hfi : ∀ t ∈ T.items, formN h t = true := by
        intro t ht
        obtain ⟨i, hil, rfl⟩ := List.getElem_of_mem ht
        exact form_items hf (.inl hk5) i hil
      have hnm : nmV T st = fun _ => [] := by funext i; unfold nmV; rw [if_neg (by omega)]
      have hw : wrV st (h + 1) d T = rowW 91 93 (lnW st (d + 1)) (lnW st d) (fun _ => []) (fun i => (T.items[i]?.map (wrV st h (d + 1))).getD []) T.items.length := by
        unfold wrV
        rw [if_neg (by omega), if_neg (by omega), if_neg (by omega), if_neg (by omega), if_neg (by omega), if_neg (by omega), if_neg (by omega), hnm]
      rw [hw] at hlen ⊢
      rw [hk5]
      exact value_gen P 50 (enters_of Tryd.func50 (by kernel_rfl) rfl) w Wr 5 _ _ _ _ _ hB (fun u => w_next5 u Wr) (fun u hu => w_array P Wr st w0 h ih _ _ _ _ io icap T.items rfl hi a5 a3 hfi s4 u d l (hb.trans (hu.mono hb.size)) (hW.below hu) (P.below hSt hu) (Nat.le_trans hB hu.size) hB0 hBW (Nat.lt_of_lt_of_le hS hu.size) hne hst hd1 hge _ hit hlen)
    · have hfi : ∀ t ∈ T.items, formN h t = true := by
        intro t ht
        obtain ⟨i, hil, rfl⟩ := List.getElem_of_mem ht
        exact form_items hf (.inr hk6) i hil
      have hKN : T.keys.length = T.items.length := (form_empty hf).2.2.2 hk6
      have hnm : nmV T st = fun i => wQ (T.keys.getD i .empty).data.toList ++ clW st := by funext i; unfold nmV; rw [if_pos hk6]
      have hw : wrV st (h + 1) d T = rowW 123 125 (lnW st (d + 1)) (lnW st d) (fun i => wQ (T.keys.getD i .empty).data.toList ++ clW st) (fun i => (T.items[i]?.map (wrV st h (d + 1))).getD []) T.items.length := by
        unfold wrV
        rw [if_neg (by omega), if_neg (by omega), if_neg (by omega), if_neg (by omega), if_neg (by omega), if_pos hk6, if_pos hk6, hnm]
      rw [hw] at hlen ⊢
      rw [hk6, hKN]
      rw [hKN] at a6
      exact value_gen P 51 (enters_of Tryd.func51 (by kernel_rfl) rfl) w Wr 6 _ _ _ _ _ hB (fun u => w_next6 u Wr) (fun u hu => w_object P Wr st w0 h ih _ _ _ ko kcap T.keys hKN a6 hk (fun k hk2 => by have := s3 k hk2; omega) io icap T.items rfl hi a5 a3 hfi s4 u d l (hb.trans (hu.mono hb.size)) (hW.below hu) (P.below hSt hu) (Nat.le_trans hB hu.size) hB0 hBW (Nat.lt_of_lt_of_le hS hu.size) hne hst hd1 hge _ hit hlen)
end Go.Proofs.YtkoednenjnnjoaaDoor
