import Derived.Test.YtfjmgccbpiolhaaGreatDoorMW27
namespace Go.Proofs.YtfjmgccbpiolhaaGreatDoor
open Go.RowKit Go.Sort
set_option linter.unusedVariables false
set_option linter.unusedSimpArgs false

set_option maxHeartbeats 1600000 in
set_option maxRecDepth 100000 in
theorem w_Wobject {B S fk : Nat} {St : World → List UInt8 → Prop} (P : PutOk B S fk St) (Wr : Nat) (st : Option Nat) (w0 : World) (h : Nat) (ih : VOk B S fk St Wr st w0 h) (N : Nat) (nm tx : ByteArray) (ko : Option Addr) (kcap : Nat) (keys : List ByteArray) (hK : keys.length = N) (hkc : N ≤ kcap) (hk : KIn w0 ko keys) (hsz : ∀ k ∈ keys, k.size ≤ 68719476736)
    (io : Option Addr) (icap : Nat) (ts : List VT) (hts : ts.length = N) (hI : IIn w0 h io ts) (hN : N ≤ icap) (hN2 : N ≤ 140737488355328) (hf : ∀ t ∈ ts, formN h t = true) (hsh : ∀ t ∈ ts, ShV h t) (w : World) (d : Nat) (l : List UInt8) (hb : Below w0.heap.size w0 w) (hW : WrAt w Wr fk S st d) (hSt : St w l) (hB : B ≤ w.heap.size) (hB0 : w0.heap.size ≤ B) (hBW : B ≤ Wr) (hS : S < w.heap.size) (hne : Wr ≠ S) (hst : ∀ s, st = some s → s ≤ 8) (hd : d + 1 ≤ 1099511627776) (hdt : ∀ t ∈ ts, d + 1 + szN h t ≤ 1099511627776)
    (it : Nat → List UInt8) (hit : ∀ i, (hi : i < ts.length) → it i = wrV st h (d + 1) ts[i]) (hlen : l.length + (rowW 123 125 (lnW st (d + 1)) (lnW st d) (fun i => wQ (keys.getD i .empty).data.toList ++ clW st) it N).length ≤ 140737488355328) :
    Calls Tryz.prog 111 #[.pointer (some ⟨Wr, 0, none⟩), .agg #[.int .i64 6, .string nm, .string tx, .slice io N icap, .slice ko N kcap]] w fun e w' => e = .returned (.tuple #[]) ∧ St w' (l ++ rowW 123 125 (lnW st (d + 1)) (lnW st d) (fun i => wQ (keys.getD i .empty).data.toList ++ clW st) it N) ∧ Below B w w' ∧ Lib.OthersKept 5 (some S) w w' := by
  have hmf : ∀ (fn : Fn) (first cap : Array Value) (w : World), (Instr.makeFunc fn first cap).run Tryz.prog w = .ok (.func fn first cap) w := fun _ _ _ _ => rfl
  obtain ⟨W0, hW0⟩ : ∃ W0, W0 = (w.alloc (.cells #[.pointer (some ⟨Wr, 0, none⟩)] 116)).alloc (.cells #[.int .i64 6, .string nm, .string tx, .slice io N icap, .slice ko N kcap] 49) := ⟨_, rfl⟩
  have hwb : Below w.heap.size w W0 := by rw [hW0]; exact ((Below.refl _ _).alloc (Nat.le_refl _) _).alloc (by simp) _
  have hx1 : W0.heap[w.heap.size]? = some (.cells #[.pointer (some ⟨Wr, 0, none⟩)] 116 (0, 0)) := by
    rw [hW0, Lib.alloc_old _ _ _ (by simp)]
    exact heap_alloc_new w _
  have hx2 : W0.heap[w.heap.size + 1]? = some (.cells #[.int .i64 6, .string nm, .string tx, .slice io N icap, .slice ko N kcap] 49 (0, 0)) := by
    rw [hW0]
    have e := heap_alloc_new (w.alloc (.cells #[.pointer (some ⟨Wr, 0, none⟩)] 116)) (.cells #[.int .i64 6, .string nm, .string tx, .slice io N icap, .slice ko N kcap] 49)
    rw [World.size_alloc] at e
    exact e
  have hWl := heap_lt hW
  have b0 : W0.cell? ⟨w.heap.size, 0, none⟩ = some (.pointer (some ⟨Wr, 0, none⟩)) := by rw [Lib.cell_of_heap hx1]; rfl
  have b3 : W0.cell? ⟨w.heap.size + 1, 3, none⟩ = some (.slice io N icap) := by rw [Lib.cell_of_heap hx2]; rfl
  have HB : Hid (Calls Tryz.prog 132 #[.pointer (some ⟨Wr, 0, none⟩), .string ⟨#[123]⟩, .string ⟨#[125]⟩, .slice io N icap, .func (.func 134) #[] #[.pointer (some ⟨w.heap.size + 1, 0, none⟩), .pointer (some ⟨w.heap.size, 0, none⟩)]] W0 fun e w' => e = .returned (.tuple #[]) ∧ St w' (l ++ rowW 123 125 (lnW st (d + 1)) (lnW st d) (fun i => wQ (keys.getD i .empty).data.toList ++ clW st) it N) ∧ Below B w w' ∧ Lib.OthersKept 5 (some S) w w') := by
    refine (w_row P Wr st w0 h ih _ _ N _ _ (name_ok w0 B S Wr fk w.heap.size (w.heap.size + 1) st 6 nm tx (.slice io N icap) ko N kcap keys hK hkc hN2 hk hsz hB0 hBW (by omega) (by omega) (by omega) (by omega)) 123 125 io icap ts hts hI hN hN2 hf hsh W0 d l (hb.trans (hwb.mono hb.size)) (hW.below hwb) (P.below hSt hwb) ⟨hx1, hx2, hb.trans (hwb.mono hb.size)⟩ (Nat.le_trans hB hwb.size) hB0 hBW (Nat.lt_of_lt_of_le hS hwb.size) hne hst hd hdt it hit hlen).mono ?_
    rintro e w' ⟨he, h1, h2, h3⟩
    exact ⟨he, h1, (hwb.mono hB).trans h2, (others_of_below hwb).trans h3⟩
  have HW0 := Hid.mk hW0
  clear hW0 hwb hI hf hsh hit hdt hlen hst hx1 hx2 hk hsz
  go_enter Tryz.func111, Tryz.ntmps111
  go_wp2_with fail
  rw [← HW0.out]
  refine HB.out.mono ?_
  rintro e w2 ⟨rfl, hR⟩
  have HR := Hid.mk hR
  clear hR b0 b3
  go_wp2_with fail
  go_end0
  exact ⟨rfl, HR.out⟩

theorem joinR_nil : ∀ (k : Nat), joinR (fun _ => []) k = [] | 0 => rfl | k + 1 => by simp [joinR, joinR_nil k]

set_option maxRecDepth 100000 in
set_option maxHeartbeats 1600000 in
theorem w_value {B S fk : Nat} {St : World → List UInt8 → Prop} (P : PutOk B S fk St) (Wr : Nat) (st : Option Nat) (w0 : World) (hB0 : w0.heap.size ≤ B) (hBW : B ≤ Wr) (hne : Wr ≠ S) (hst : ∀ s, st = some s → s ≤ 8) (hwd : WordsAt w0) : ∀ h, VOk B S fk St Wr st w0 h
  | 0 => by intro T v w d l hI; exact hI.elim
  | h + 1 => by
    intro T v w d l hI hf hsh hb hW hSt hB hS hd hlen
    have ih := w_value P Wr st w0 hB0 hBW hne hst hwd h
    obtain ⟨io, icap, ko, kcap, rfl, a1, a2, a3, a4, a5, a6, a7, hk, hi⟩ := hI.open
    obtain ⟨s1, s2, s3, s4⟩ := hsh
    have hgB : 0 < B := Nat.lt_of_lt_of_le hwd.lt hB0
    have hge : ∀ (t : VT), t ∈ T.items → d + 1 + szN h t ≤ 1099511627776 := by
      intro t ht
      obtain ⟨i, hil, rfl⟩ := List.getElem_of_mem ht
      have := szN_item (h := h) hil
      omega
    have hd1 : d + 1 ≤ 1099511627776 := by
      have : 1 ≤ szN (h + 1) T := by show 1 ≤ 1 + T.keys.length + _; omega
      omega
    have hit : ∀ i, (hi : i < T.items.length) → (T.items[i]?.map (wrV st h (d + 1))).getD [] = wrV st h (d + 1) T.items[i] := by
      intro i hil
      rw [List.getElem?_eq_getElem hil]; rfl
    rcases form_kind hf with ⟨hk0, hk5⟩ | hk5 | hk6
    · by_cases e0 : T.kind = 0
      · have hw : wrV st (h + 1) d T = [110, 117, 108, 108] := by unfold wrV; rw [if_pos e0]
        rw [hw] at hlen ⊢
        rw [e0]
        exact value_gen P 112 (enters_of Tryz.func112 (by kernel_rfl) rfl) w Wr 0 _ _ _ _ _ hB (fun u => w_next0 u Wr) (fun u hu => w_word0 P u Wr st d l _ _ _ _ (hW.below hu) (P.below hSt hu) hne hlen (Nat.le_trans hB hu.size) (Nat.lt_of_lt_of_le hS hu.size) (hwd.keep (hb.trans (hu.mono hb.size))) hgB)
      by_cases e1 : T.kind = 1
      · have hw : wrV st (h + 1) d T = [102, 97, 108, 115, 101] := by unfold wrV; rw [if_neg e0, if_pos e1]
        rw [hw] at hlen ⊢
        rw [e1]
        exact value_gen P 112 (enters_of Tryz.func112 (by kernel_rfl) rfl) w Wr 1 _ _ _ _ _ hB (fun u => w_next1 u Wr) (fun u hu => w_word1 P u Wr st d l _ _ _ _ (hW.below hu) (P.below hSt hu) hne hlen (Nat.le_trans hB hu.size) (Nat.lt_of_lt_of_le hS hu.size) (hwd.keep (hb.trans (hu.mono hb.size))) hgB)
      by_cases e2 : T.kind = 2
      · have hw : wrV st (h + 1) d T = [116, 114, 117, 101] := by unfold wrV; rw [if_neg e0, if_neg e1, if_pos e2]
        rw [hw] at hlen ⊢
        rw [e2]
        exact value_gen P 112 (enters_of Tryz.func112 (by kernel_rfl) rfl) w Wr 2 _ _ _ _ _ hB (fun u => w_next2 u Wr) (fun u hu => w_word2 P u Wr st d l _ _ _ _ (hW.below hu) (P.below hSt hu) hne hlen (Nat.le_trans hB hu.size) (Nat.lt_of_lt_of_le hS hu.size) (hwd.keep (hb.trans (hu.mono hb.size))) hgB)
      by_cases e3 : T.kind = 3
      · have hw : wrV st (h + 1) d T = T.num.data.toList := by unfold wrV; rw [if_neg e0, if_neg e1, if_neg e2, if_pos e3]
        rw [hw] at hlen ⊢
        rw [e3]
        have hlen2 : l.length + T.num.size ≤ 140737488355328 := by rw [Array.length_toList] at hlen; exact hlen
        exact value_gen P 108 (enters_of Tryz.func108 (by kernel_rfl) rfl) w Wr 3 _ _ _ _ _ hB (fun u => w_next3 u Wr) (fun u hu => w_number P u Wr st d l 3 _ _ _ _ (hW.below hu) (P.below hSt hu) hne hlen2 (Nat.le_trans hB hu.size))
      · have e4 : T.kind = 4 := by omega
        have hw : wrV st (h + 1) d T = wQ T.text.data.toList := by unfold wrV; rw [if_neg e0, if_neg e1, if_neg e2, if_neg e3, if_pos e4]
        rw [hw] at hlen ⊢
        rw [e4]
        exact value_gen P 109 (enters_of Tryz.func109 (by kernel_rfl) rfl) w Wr 4 _ _ _ _ _ hB (fun u => w_next4 u Wr) (fun u hu => w_text P u Wr st d l 4 _ _ _ _ (hW.below hu) (P.below hSt hu) hne hlen (Nat.le_trans hB hu.size) (by omega) (Nat.lt_of_lt_of_le hS hu.size))
    · have hfi : ∀ t ∈ T.items, formN h t = true := by
        intro t ht
        obtain ⟨i, hil, rfl⟩ := List.getElem_of_mem ht
        exact form_items hf (.inl hk5) i hil
      have hnm : nmV T st = fun _ => [] := by funext i; unfold nmV; rw [if_neg (by omega)]
      have hw : wrV st (h + 1) d T = rowW 91 93 (lnW st (d + 1)) (lnW st d) (fun _ => []) (fun i => (T.items[i]?.map (wrV st h (d + 1))).getD []) T.items.length := by
        unfold wrV
        rw [if_neg (by omega), if_neg (by omega), if_neg (by omega), if_neg (by omega), if_neg (by omega), if_neg (by omega), if_neg (by omega), hnm]
      rw [hw] at hlen ⊢
      rw [hk5]
      exact value_gen P 110 (enters_of Tryz.func110 (by kernel_rfl) rfl) w Wr 5 _ _ _ _ _ hB (fun u => w_next5 u Wr) (fun u hu => w_Warray P Wr st w0 h ih _ _ _ _ io icap T.items rfl hi a5 a3 hfi s4 u d l (hb.trans (hu.mono hb.size)) (hW.below hu) (P.below hSt hu) (Nat.le_trans hB hu.size) hB0 hBW (Nat.lt_of_lt_of_le hS hu.size) hne hst hd1 hge _ hit hlen)
    · have hfi : ∀ t ∈ T.items, formN h t = true := by
        intro t ht
        obtain ⟨i, hil, rfl⟩ := List.getElem_of_mem ht
        exact form_items hf (.inr hk6) i hil
      have hKN : T.keys.length = T.items.length := (form_empty hf).2.2.2 hk6
      have hnm : nmV T st = fun i => wQ (T.keys.getD i .empty).data.toList ++ clW st := by funext i; unfold nmV; rw [if_pos hk6]
      have hw : wrV st (h + 1) d T = rowW 123 125 (lnW st (d + 1)) (lnW st d) (fun i => wQ (T.keys.getD i .empty).data.toList ++ clW st) (fun i => (T.items[i]?.map (wrV st h (d + 1))).getD []) T.items.length := by
        unfold wrV
        rw [if_neg (by omega), if_neg (by omega), if_neg (by omega), if_neg (by omega), if_neg (by omega), if_pos hk6, if_pos hk6, hnm]
      rw [hw] at hlen ⊢
      rw [hk6, hKN]
      rw [hKN] at a6
      exact value_gen P 111 (enters_of Tryz.func111 (by kernel_rfl) rfl) w Wr 6 _ _ _ _ _ hB (fun u => w_next6 u Wr) (fun u hu => w_Wobject P Wr st w0 h ih _ _ _ ko kcap T.keys hKN a6 hk (fun k hk2 => by have := s3 k hk2; omega) io icap T.items rfl hi a5 a3 hfi s4 u d l (hb.trans (hu.mono hb.size)) (hW.below hu) (P.below hSt hu) (Nat.le_trans hB hu.size) hB0 hBW (Nat.lt_of_lt_of_le hS hu.size) hne hst hd1 hge _ hit hlen)
end Go.Proofs.YtfjmgccbpiolhaaGreatDoor
