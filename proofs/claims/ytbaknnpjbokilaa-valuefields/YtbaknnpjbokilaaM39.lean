import Derived.Test.YtbaknnpjbokilaaM38
import Derived.Test.YtbaknnpjbokilaaM34
namespace Go.Proofs.Ytbaknnpjbokilaa
open Go.RowKit Go.Maps Go.Sort Go.Shelf
set_option linter.unusedVariables false
set_option linter.unusedSimpArgs false

/-- what united hands back: the iterator, over boxes of its own -/
structure UnR (w w' : World) (xs ys : Array Value) : Prop where
  below : Below w.heap.size w w'
  a : w'.heap[w.heap.size]? = some (.cells xs 25 (0, 0))
  b : w'.heap[w.heap.size + 1]? = some (.cells ys 25 (0, 0))
  f : w'.cell? ⟨w.heap.size + 1 + 1, 0, none⟩ = some (.func (.func 29) #[] #[])
set_option maxRecDepth 100000 in
set_option maxHeartbeats 3200000 in
theorem w_united (x0 : Int) (x1 x2 : ByteArray) (x3 : Option Addr) (x4 x5 : Nat) (x6 : Option Addr) (x7 x8 : Nat) (y0 : Int) (y1 y2 : ByteArray) (y3 : Option Addr) (y4 y5 : Nat) (y6 : Option Addr) (y7 y8 : Nat) (w : World) :
    Calls Try.prog 38 #[.agg #[.int .i64 x0, .string x1, .string x2, .slice x3 x4 x5, .slice x6 x7 x8], .agg #[.int .i64 y0, .string y1, .string y2, .slice y3 y4 y5, .slice y6 y7 y8], .func (.func 29) #[] #[]] w fun e w' =>
      e = .returned (.func (.func 47) #[] #[.pointer (some ⟨w.heap.size, 0, none⟩), .pointer (some ⟨w.heap.size + 1, 0, none⟩), .pointer (some ⟨w.heap.size + 1 + 1, 0, none⟩)]) ∧
      UnR w w' #[.int .i64 x0, .string x1, .string x2, .slice x3 x4 x5, .slice x6 x7 x8] #[.int .i64 y0, .string y1, .string y2, .slice y3 y4 y5, .slice y6 y7 y8] := by
  go_enter Try.func38, Try.ntmps38
  go_wp2_with fail
  go_ret
  obtain ⟨b1, b2, b3, _⟩ := boxes3 w (.cells #[.int .i64 x0, .string x1, .string x2, .slice x3 x4 x5, .slice x6 x7 x8] 25) (.cells #[.int .i64 y0, .string y1, .string y2, .slice y3 y4 y5, .slice y6 y7 y8] 25) (.cells #[.func (.func 29) #[] #[]] 54)
  exact ⟨rfl, below_more (below2 w _ _) (below1 _ _), b1, b2, cell_of_row _ _ 0 _ _ _ b3⟩

def uniK (kA kB : List ByteArray) : List (Nat ⊕ Nat) := uniF (fun i => kA.getD i .empty) (fun j => kB.getD j .empty) kA.length kB.length (kA.length + kB.length) 0 0
def tU (tA tB : List VT) : Nat ⊕ Nat → VT
  | .inl i => tA.getD i (.mk 0 .empty .empty [] [])
  | .inr j => tB.getD j (.mk 0 .empty .empty [] [])
/-- the object of the fields of two -/
def mgT (kA kB : List ByteArray) (tA tB : List VT) : VT :=
  .mk 6 .empty .empty ((List.range (uniK kA kB).length).map fun k => tU tA tB ((uniK kA kB).getD k (.inl 0))) ((List.range (uniK kA kB).length).map fun k => kyU (fun i => kA.getD i .empty) (fun j => kB.getD j .empty) ((uniK kA kB).getD k (.inl 0)))
theorem uniK_in {kA kB : List ByteArray} {k : Nat} (hk : k < (uniK kA kB).length) : InU kA.length kB.length ((uniK kA kB).getD k (.inl 0)) := by
  rw [List.getD_eq_getElem?_getD, List.getElem?_eq_getElem hk]
  exact uni_in _ _ _ _ (List.getElem_mem hk)

/-- united, then gathered -/
theorem gathered_united (h : Nat) (kA kB : List ByteArray) (tA tB : List VT) (koa : Option Addr) (kca : Nat) (ioa : Option Addr) (ica : Nat) (kob : Option Addr) (kcb : Nat) (iob : Option Addr) (icb : Nat) (x0 : Int) (x1 x2 : ByteArray) (y0 : Int) (y1 y2 : ByteArray) (u w : World) (hkA : KIn u koa kA) (hiA : IIn u h ioa tA) (hkB : KIn u kob kB) (hiB : IIn u h iob tB)
    (lA : tA.length = kA.length) (lB : tB.length = kB.length) (hc : kA.length ≤ kca ∧ kA.length ≤ ica ∧ kB.length ≤ kcb ∧ kB.length ≤ icb) (hsz : kA.length + kB.length ≤ 100000) (hsA : ∀ k ∈ kA, k.size ≤ 140737488355328) (hsB : ∀ k ∈ kB, k.size ≤ 140737488355328)
    (hU : UnR u w #[.int .i64 x0, .string x1, .string x2, .slice ioa kA.length ica, .slice koa kA.length kca] #[.int .i64 y0, .string y1, .string y2, .slice iob kB.length icb, .slice kob kB.length kcb]) :
    Calls Try.prog 22 #[.func (.func 47) #[] #[.pointer (some ⟨u.heap.size, 0, none⟩), .pointer (some ⟨u.heap.size + 1, 0, none⟩), .pointer (some ⟨u.heap.size + 1 + 1, 0, none⟩)]] w fun e w' => ∃ io ic ko kc, e = .returned (.agg #[.int .i64 6, .string ⟨#[]⟩, .string ⟨#[]⟩, .slice io (uniK kA kB).length ic, .slice ko (uniK kA kB).length kc]) ∧
      Hid (InH w' (h + 1) (mgT kA kB tA tB) (.agg #[.int .i64 6, .string ⟨#[]⟩, .string ⟨#[]⟩, .slice io (uniK kA kB).length ic, .slice ko (uniK kA kB).length kc])) ∧ Hid (Below w.heap.size w w') := by
  obtain ⟨ca, ha1, ha2, ha3⟩ := items_fun hiA
  obtain ⟨cb, hb1, hb2, hb3⟩ := items_fun hiB
  have hM : (uniK kA kB).length ≤ 100000 := by
    have := uni_len (ka := fun i => kA.getD i .empty) (kb := fun j => kB.getD j .empty) (kA.length + kB.length) 0 0 (Nat.zero_le kA.length) (Nat.zero_le kB.length)
    unfold uniK
    omega
  have hbu := hU.below.size
  have hlt2 : u.heap.size + 1 + 1 < w.heap.size := by
    have hf := hU.f
    unfold World.cell? at hf
    cases ho : w.heap[u.heap.size + 1 + 1]? with
    | none => simp [ho] at hf
    | some o => exact (Array.getElem?_eq_some_iff.1 ho).1
  have hone : ∀ k, k < (uniK kA kB).length → OneC (cU ca cb ((uniK kA kB).getD k (.inl 0))) := fun k hk => by
    have := uniK_in hk
    cases hx : (uniK kA kB).getD k (.inl 0) with
    | inl i => rw [hx] at this; exact ha3 i (by rw [lA]; exact this)
    | inr j => rw [hx] at this; exact hb3 j (by rw [lB]; exact this)
  refine (w_gathered 47 _ (uniK kA kB).length (fun k => kyU (fun i => kA.getD i .empty) (fun j => kB.getD j .empty) ((uniK kA kB).getD k (.inl 0))) (fun k => cU ca cb ((uniK kA kB).getD k (.inl 0))) w hone hM (enters_of Try.func47 (by kernel_rfl) rfl) ?_).mono ?_
  · intro W hW hrw hlW l J Jx W' hW' hJ hJx hY h0
    have hWW : Below w.heap.size w W' := hW.trans (hW'.mono hW.size)
    refine united1_in l w.heap.size (w.heap.size + 1) u.heap.size (u.heap.size + 1) (u.heap.size + 1 + 1) kA.length kB.length koa kca ioa ica kob kcb iob icb (fun i => kA.getD i .empty) (fun j => kB.getD j .empty) ca cb hc (by omega) (fun i hi => ha3 i (by omega)) (fun i hi => hb3 i (by omega)) (uniK kA kB) rfl J Jx W' hWW.size ?_ hJ hJx hY h0
    have hS : UnS w w.heap.size u.heap.size (u.heap.size + 1) (u.heap.size + 1 + 1) kA.length kB.length koa kca ioa ica kob kcb iob icb (fun i => kA.getD i .empty) (fun j => kB.getD j .empty) ca cb := by
      refine ⟨cell_of_row _ _ 3 _ _ _ hU.a, cell_of_row _ _ 4 _ _ _ hU.a, cell_of_row _ _ 3 _ _ _ hU.b, cell_of_row _ _ 4 _ _ _ hU.b, hU.f, fun i hi => ?_, fun i hi => ?_, fun i hi => ?_, fun i hi => ?_, by omega, by omega, by omega⟩
      · obtain ⟨b, off, e, hb0, a0, a1, a2, a3, a4⟩ := ha1 i (by omega)
        exact ⟨b, off, e, by omega, (hU.below.cell (p := ⟨_, _, _⟩) hb0).trans a0, (hU.below.cell (p := ⟨_, _, _⟩) hb0).trans a1, (hU.below.cell (p := ⟨_, _, _⟩) hb0).trans a2, (hU.below.cell (p := ⟨_, _, _⟩) hb0).trans a3, (hU.below.cell (p := ⟨_, _, _⟩) hb0).trans a4⟩
      · obtain ⟨b, off, e, hb0, a0, a1, a2, a3, a4⟩ := hb1 i (by omega)
        exact ⟨b, off, e, by omega, (hU.below.cell (p := ⟨_, _, _⟩) hb0).trans a0, (hU.below.cell (p := ⟨_, _, _⟩) hb0).trans a1, (hU.below.cell (p := ⟨_, _, _⟩) hb0).trans a2, (hU.below.cell (p := ⟨_, _, _⟩) hb0).trans a3, (hU.below.cell (p := ⟨_, _, _⟩) hb0).trans a4⟩
      · obtain ⟨b, off, e, hb0, hr⟩ := hkA.row (by omega)
        exact ⟨b, off, e, by omega, (hU.below.cell (p := ⟨_, _, _⟩) hb0).trans (hr i hi)⟩
      · obtain ⟨b, off, e, hb0, hr⟩ := hkB.row (by omega)
        exact ⟨b, off, e, by omega, (hU.below.cell (p := ⟨_, _, _⟩) hb0).trans (hr i hi)⟩
    exact hS.keep hWW
  · rintro e w' ⟨io', ic', ko', kc', rfl, hR⟩
    refine ⟨io', ic', ko', kc', rfl, ?_, hR.out.below⟩
    refine rows_in hR.out (fun k => tU tA tB ((uniK kA kB).getD k (.inl 0))) (fun k hk => ?_) hM (fun k hk => ?_)
    · have hx := uniK_in hk
      have hbb := hU.below.trans (hR.out.below.mono hU.below.size)
      cases he : (uniK kA kB).getD k (.inl 0) with
      | inl i =>
        rw [he] at hx
        have h1 : i < tA.length := by rw [lA]; exact hx
        have e1 : tA.getD i (.mk 0 .empty .empty [] []) = tA[i] := by simp [List.getD, h1]
        show InH w' h (tA.getD i _) _
        rw [e1]
        exact (ha2 i h1).keep hbb
      | inr j =>
        rw [he] at hx
        have h1 : j < tB.length := by rw [lB]; exact hx
        have e1 : tB.getD j (.mk 0 .empty .empty [] []) = tB[j] := by simp [List.getD, h1]
        show InH w' h (tB.getD j _) _
        rw [e1]
        exact (hb2 j h1).keep hbb
    · have hx := uniK_in hk
      cases he : (uniK kA kB).getD k (.inl 0) with
      | inl i =>
        rw [he] at hx
        show (kA.getD i .empty).size ≤ _
        rw [getD_key hx]
        exact hsA _ (List.getElem_mem hx)
      | inr j =>
        rw [he] at hx
        show (kB.getD j .empty).size ≤ _
        rw [getD_key hx]
        exact hsB _ (List.getElem_mem hx)
end Go.Proofs.Ytbaknnpjbokilaa
