/- Contracts and plain facts that this claim leans on (texts XUL); no statement of the seat is proved here. -/
import Derived.Test.YtdnojnkcmncffaaWk34
import Derived.Test.YtdnojnkcmncffaaWk29

/- The program's reader of lists: contracts; no statement of the seat is proved here. -/
namespace Go.Proofs.Ytdnojnkcmncffaa
open Go.RowKit

theorem Upd.transW {S T : Nat → Prop} {a b c : World} (h : Upd S a b) (k : Upd T b c) (hT : ∀ i, T i → S i ∨ a.heap.size ≤ i) : Upd S a c :=
  ⟨k.os.trans h.os, k.tape.trans h.tape, k.output.trans h.output, Nat.le_trans h.size k.size,
    fun i hi hS => (k.block i (Nat.lt_of_lt_of_le hi h.size) (fun ht => by rcases hT i ht with h1 | h1; exact hS h1; omega)).trans (h.block i hi hS)⟩

theorem pcU_new (w : World) (x : Pc) (e : TypeId) : ∀ j u, (pcell x)[j]? = some u → (w.alloc (.cells #[.int .i64 x.1, .int .i64 x.2.1, .int .i64 x.2.2.1, .int .i64 x.2.2.2] e)).cell? ((⟨w.heap.size, 0, none⟩ : Addr).add j) = some u := by
  intro j u h
  rw [Addr.add_lit, Nat.zero_add, boxAt (heap_alloc_new w _)]
  simpa [pcell] using h
theorem lcU_new (w : World) (x : Lc) (e : TypeId) : ∀ j u, (lcell x)[j]? = some u → (w.alloc (.cells #[.int .i64 x.1, .int .i64 x.2] e)).cell? ((⟨w.heap.size, 0, none⟩ : Addr).add j) = some u := by
  intro j u h
  rw [Addr.add_lit, Nat.zero_add, boxAt (heap_alloc_new w _)]
  simpa [lcell] using h

/-- What taking a list gives. -/
def TkL {α : Type} (most : Nat) (num : α → List Int) (w0 w : World) (G : Nat) (bs : List Nat) (xs : List α) (w' : World) : Prop := ∃ bs', Tk w0 w' G bs' ∧ Rdl most num bs xs bs' ∧ Upd (fun j => j = G) w w'

set_option maxRecDepth 100000 in
set_option maxHeartbeats 4000000 in
theorem takeP_any (w0 w : World) (G : Nat) (bs : List Nat) (h : Tk w0 w G bs) :
    Calls Try.prog 68 #[.pointer (some ⟨G, 0, none⟩), .int .i64 60, .func (.func 69) #[] #[]] w fun e w' => ∃ (po : Option Addr) (pc m : Nat), e = .returned (.slice po m pc) ∧ ∃ (xs : List Pc), m = xs.length ∧ RowA w' w.heap.size 83 4 (.slice po m pc) m (pcells xs) ∧ m ≤ 60 ∧ TkL 60 pnum w0 w G bs xs w' := by
  obtain ⟨hGl, hG0, hw0⟩ := h.lt
  obtain ⟨i1, gi, gz0, gz1, gz2⟩ := info_parts infoPc
  go_enter Try.func68, Try.ntmps68
  go_wp2_with fail
  refine (takeNumber_any w0 w G bs h).mono ?_
  rintro e w1 ⟨a, rfl, b1, tk1, rd1, u1⟩
  have LP := hide (Lpt.start (num := pnum) rd1)
  have TK := hide tk1
  have U1 := hide u1
  clear h rd1 tk1 u1
  by_cases ha : a ≤ 60
  · go_wp2
    go_loopw [7, 13] (fun lv iv wr => ∃ (i : Nat) (xs : List Pc) (po : Option Addr) (pc : Nat) (bs' : List Nat), lv = .slice po i pc ∧ iv = .int .i64 i ∧ i = xs.length ∧ (i = 0 ∨ (i : Int) ≤ a) ∧ RowA wr w.heap.size 83 4 (.slice po i pc) i (pcells xs) ∧ Tk w0 wr G bs' ∧ Lpt pnum bs xs (a - i) bs' ∧ Upd (fun j => j = G) w wr) (fun _ iv _ => (a : Int).toNat - (intOf iv).toNat)
    case atStart => exact ⟨0, [], none, 0, b1, rfl, rfl, rfl, .inl rfl, .inr ⟨rfl, rfl, _, rfl⟩, TK.out, by simpa using LP.out, U1.out⟩
    case round =>
      obtain ⟨i, xs, po, pc, bs', rfl, rfl, hi, hle, hrow, htk, hlp, hupd⟩ := hrel
      have HI := hide hi
      have HRW := hide hrow
      have HTK := hide htk
      have HLP := hide hlp
      have HUP := hide hupd
      have hzr := hupd.size
      clear hi hrow htk hlp hupd TK LP U1
      have hi60 : i ≤ 60 := by omega
      by_cases hlt : (i : Int) < a
      · have al1 := bal (Below.refl wr.heap.size wr) (.cells #[.int .i64 0, .int .i64 0, .int .i64 0, .int .i64 0] 83)
        have D1 := hide (heap_alloc_new wr (.cells #[.int .i64 0, .int .i64 0, .int .i64 0, .int .i64 0] 83))
        have CN := hide (pieceNumbers_any wr.heap.size (wr.alloc (.cells #[.int .i64 0, .int .i64 0, .int .i64 0, .int .i64 0] 83)))
        have al2 := bal (Below.refl (wr.alloc (.cells #[.int .i64 0, .int .i64 0, .int .i64 0, .int .i64 0] 83)).heap.size (wr.alloc (.cells #[.int .i64 0, .int .i64 0, .int .i64 0, .int .i64 0] 83))) (.cells (#[.pointer (some ⟨wr.heap.size, 0, none⟩), .pointer (some ⟨wr.heap.size, 1, none⟩), .pointer (some ⟨wr.heap.size, 2, none⟩), .pointer (some ⟨wr.heap.size, 3, none⟩)] : Array Value) 115)
        have B2 := hide (heap_alloc_new (wr.alloc (.cells #[.int .i64 0, .int .i64 0, .int .i64 0, .int .i64 0] 83)) (.cells (#[.pointer (some ⟨wr.heap.size, 0, none⟩), .pointer (some ⟨wr.heap.size, 1, none⟩), .pointer (some ⟨wr.heap.size, 2, none⟩), .pointer (some ⟨wr.heap.size, 3, none⟩)] : Array Value) 115))
        simp only [World.size_alloc] at B2
        go_wp2_with fail
        refine CN.out.mono ?_
        rintro e w2 ⟨rfl, rfl⟩
        have al12 := hide (bDrewB (bAll al1 al2))
        have TK2 := HTK.out.keepB al12.out
        have D2 := hide (bKeeps (bDrewB al2) D1.out)
        have B2v := hide (bKeeps ((Below.refl _ _).drew) B2.out)
        have hGr := HTK.out.lt.1
        clear CN al1 al2 D1 B2
        generalize World.drew _ = V at TK2 D2 al12 B2v ⊢
        go_wp2_with fail
        refine (take_any w0 V G wr.heap.size (wr.heap.size + 1) 0 4 4 _ _ bs' TK2 D2.out (Nat.le_refl _) (by omega) (by omega) (by omega) (by omega) (by omega) ?ptrs).mono ?_
        case ptrs =>
          intro k hk
          rw [Nat.zero_add, boxAt B2v.out k]
          match k, hk with
          | 0, _ => rfl
          | 1, _ => rfl
          | 2, _ => rfl
          | 3, _ => rfl
        rintro e w3 ⟨rfl, ys, b3, hyl, tk3, rd3, hD3, u3⟩
        obtain ⟨d, b, c, t, rfl⟩ : ∃ d b c t, ys = [d, b, c, t] := by
          match ys, hyl with
          | [d, b, c, t], _ => exact ⟨d, b, c, t, rfl⟩
        have D3 : w3.heap[wr.heap.size]? = some (.cells #[.int .i64 d, .int .i64 b, .int .i64 c, .int .i64 t] 83 (0, 0)) := hD3
        have y0 : w3.cell? ⟨wr.heap.size, 0, none⟩ = some (.int .i64 d) := boxAt D3 0
        have y1 : w3.cell? ⟨wr.heap.size, 1, none⟩ = some (.int .i64 b) := boxAt D3 1
        have y2 : w3.cell? ⟨wr.heap.size, 2, none⟩ = some (.int .i64 c) := boxAt D3 2
        have y3 : w3.cell? ⟨wr.heap.size, 3, none⟩ = some (.int .i64 t) := boxAt D3 3
        have U3 := hide ((Upd.ofBelow (S := fun j => j = G) al12.out).transW u3 (fun i h => by omega))
        have al5 := bal (Below.refl w3.heap.size w3) (.cells #[.int .i64 d, .int .i64 b, .int .i64 c, .int .i64 t] 83)
        have row3 := (HRW.out.keep U3.out (fun k h e => by omega)).keepB al5
        have HN3 := hide (pcU_new w3 (d, b, c, t) 83)
        have LP2 := hide (HLP.out.step (x := (d, b, c, t)) (by omega) rd3 (fun _ => rfl) (fun y e => by obtain ⟨y0, y1, y2, y3⟩ := y; simp [pnum] at e; simp [e]))
        have TK3 := hide tk3
        have z3 := U3.out.size
        clear HLP rd3 tk3 u3 D2 B2v al12 TK2 HTK hD3 D3 hyl
        go_wp2_with (at_builtin; refine wpList_appendA _ rfl _ _ 31 rfl w.heap.size 83 i1 (.agg #[.int .i64 0, .int .i64 0, .int .i64 0, .int .i64 0]) 4 32 Try.underlying31 gi gz0 gz1 gz2 rfl (by decide) _ i (pcells xs) rfl row3 ⟨w3.heap.size, 0, none⟩ 1 1 (pcell (d, b, c, t)) rfl rfl HN3.out (pcell_one _) (by decide) ?q63 ?qby ?qbase ?_)
        case q63 => unfold maxLen; omega
        case qby => omega
        case qbase => first | omega | (simp; omega)
        intro v5 w5 hown u5
        obtain ⟨mo, cm, rfl⟩ := (Row.ofOwns hown (by omega)).shape
        go_wp2
        go_roundw
        case rel =>
          refine ⟨i + 1, xs ++ [(d, b, c, t)], mo, cm, b3, rfl, by go_num, by rw [List.length_append, ← HI.out]; rfl, .inr (by omega), .inl (by rw [pcells_snoc]; exact hown), (TK3.out.keepB al5).keep u5 (fun h => by have := h.1; omega) (fun k h => by have := h.1; omega), ?_, ((HUP.out.trans U3.out).trans (Upd.ofBelow al5)).transW u5 (fun k h => .inr h.1)⟩
          have := LP2.out
          rwa [show a - (i : Int) - 1 = a - ((i + 1 : Nat) : Int) by omega] at this
        case measure => simp [intOf]; omega
      · have hd : Rdl 60 pnum bs xs bs' := HLP.out.done (by omega) (by have := HI.out; omega)
        have HDN := hide hd
        clear hd
        go_wp2
        go_ret
        exact ⟨po, pc, i, rfl, xs, HI.out, HRW.out, hi60, bs', HTK.out, HDN.out, HUP.out⟩
  · go_wp2
    go_loopw [7, 13] (fun lv iv wr => ∃ (i : Nat) (xs : List Pc) (po : Option Addr) (pc : Nat) (bs' : List Nat), lv = .slice po i pc ∧ iv = .int .i64 i ∧ i = xs.length ∧ (i = 0 ∨ (i : Int) ≤ 60) ∧ RowA wr w.heap.size 83 4 (.slice po i pc) i (pcells xs) ∧ Tk w0 wr G bs' ∧ Lpt pnum bs xs (a - i) bs' ∧ Upd (fun j => j = G) w wr) (fun _ iv _ => (60 : Int).toNat - (intOf iv).toNat)
    case atStart => exact ⟨0, [], none, 0, b1, rfl, rfl, rfl, .inl rfl, .inr ⟨rfl, rfl, _, rfl⟩, TK.out, by simpa using LP.out, U1.out⟩
    case round =>
      obtain ⟨i, xs, po, pc, bs', rfl, rfl, hi, hle, hrow, htk, hlp, hupd⟩ := hrel
      have HI := hide hi
      have HRW := hide hrow
      have HTK := hide htk
      have HLP := hide hlp
      have HUP := hide hupd
      have hzr := hupd.size
      clear hi hrow htk hlp hupd TK LP U1
      have hi60 : i ≤ 60 := by omega
      by_cases hlt : (i : Int) < 60
      · have al1 := bal (Below.refl wr.heap.size wr) (.cells #[.int .i64 0, .int .i64 0, .int .i64 0, .int .i64 0] 83)
        have D1 := hide (heap_alloc_new wr (.cells #[.int .i64 0, .int .i64 0, .int .i64 0, .int .i64 0] 83))
        have CN := hide (pieceNumbers_any wr.heap.size (wr.alloc (.cells #[.int .i64 0, .int .i64 0, .int .i64 0, .int .i64 0] 83)))
        have al2 := bal (Below.refl (wr.alloc (.cells #[.int .i64 0, .int .i64 0, .int .i64 0, .int .i64 0] 83)).heap.size (wr.alloc (.cells #[.int .i64 0, .int .i64 0, .int .i64 0, .int .i64 0] 83))) (.cells (#[.pointer (some ⟨wr.heap.size, 0, none⟩), .pointer (some ⟨wr.heap.size, 1, none⟩), .pointer (some ⟨wr.heap.size, 2, none⟩), .pointer (some ⟨wr.heap.size, 3, none⟩)] : Array Value) 115)
        have B2 := hide (heap_alloc_new (wr.alloc (.cells #[.int .i64 0, .int .i64 0, .int .i64 0, .int .i64 0] 83)) (.cells (#[.pointer (some ⟨wr.heap.size, 0, none⟩), .pointer (some ⟨wr.heap.size, 1, none⟩), .pointer (some ⟨wr.heap.size, 2, none⟩), .pointer (some ⟨wr.heap.size, 3, none⟩)] : Array Value) 115))
        simp only [World.size_alloc] at B2
        go_wp2_with fail
        refine CN.out.mono ?_
        rintro e w2 ⟨rfl, rfl⟩
        have al12 := hide (bDrewB (bAll al1 al2))
        have TK2 := HTK.out.keepB al12.out
        have D2 := hide (bKeeps (bDrewB al2) D1.out)
        have B2v := hide (bKeeps ((Below.refl _ _).drew) B2.out)
        have hGr := HTK.out.lt.1
        clear CN al1 al2 D1 B2
        generalize World.drew _ = V at TK2 D2 al12 B2v ⊢
        go_wp2_with fail
        refine (take_any w0 V G wr.heap.size (wr.heap.size + 1) 0 4 4 _ _ bs' TK2 D2.out (Nat.le_refl _) (by omega) (by omega) (by omega) (by omega) (by omega) ?ptrs).mono ?_
        case ptrs =>
          intro k hk
          rw [Nat.zero_add, boxAt B2v.out k]
          match k, hk with
          | 0, _ => rfl
          | 1, _ => rfl
          | 2, _ => rfl
          | 3, _ => rfl
        rintro e w3 ⟨rfl, ys, b3, hyl, tk3, rd3, hD3, u3⟩
        obtain ⟨d, b, c, t, rfl⟩ : ∃ d b c t, ys = [d, b, c, t] := by
          match ys, hyl with
          | [d, b, c, t], _ => exact ⟨d, b, c, t, rfl⟩
        have D3 : w3.heap[wr.heap.size]? = some (.cells #[.int .i64 d, .int .i64 b, .int .i64 c, .int .i64 t] 83 (0, 0)) := hD3
        have y0 : w3.cell? ⟨wr.heap.size, 0, none⟩ = some (.int .i64 d) := boxAt D3 0
        have y1 : w3.cell? ⟨wr.heap.size, 1, none⟩ = some (.int .i64 b) := boxAt D3 1
        have y2 : w3.cell? ⟨wr.heap.size, 2, none⟩ = some (.int .i64 c) := boxAt D3 2
        have y3 : w3.cell? ⟨wr.heap.size, 3, none⟩ = some (.int .i64 t) := boxAt D3 3
        have U3 := hide ((Upd.ofBelow (S := fun j => j = G) al12.out).transW u3 (fun i h => by omega))
        have al5 := bal (Below.refl w3.heap.size w3) (.cells #[.int .i64 d, .int .i64 b, .int .i64 c, .int .i64 t] 83)
        have row3 := (HRW.out.keep U3.out (fun k h e => by omega)).keepB al5
        have HN3 := hide (pcU_new w3 (d, b, c, t) 83)
        have LP2 := hide (HLP.out.step (x := (d, b, c, t)) (by omega) rd3 (fun _ => rfl) (fun y e => by obtain ⟨y0, y1, y2, y3⟩ := y; simp [pnum] at e; simp [e]))
        have TK3 := hide tk3
        have z3 := U3.out.size
        clear HLP rd3 tk3 u3 D2 B2v al12 TK2 HTK hD3 D3 hyl
        go_wp2_with (at_builtin; refine wpList_appendA _ rfl _ _ 31 rfl w.heap.size 83 i1 (.agg #[.int .i64 0, .int .i64 0, .int .i64 0, .int .i64 0]) 4 32 Try.underlying31 gi gz0 gz1 gz2 rfl (by decide) _ i (pcells xs) rfl row3 ⟨w3.heap.size, 0, none⟩ 1 1 (pcell (d, b, c, t)) rfl rfl HN3.out (pcell_one _) (by decide) ?q63 ?qby ?qbase ?_)
        case q63 => unfold maxLen; omega
        case qby => omega
        case qbase => first | omega | (simp; omega)
        intro v5 w5 hown u5
        obtain ⟨mo, cm, rfl⟩ := (Row.ofOwns hown (by omega)).shape
        go_wp2
        go_roundw
        case rel =>
          refine ⟨i + 1, xs ++ [(d, b, c, t)], mo, cm, b3, rfl, by go_num, by rw [List.length_append, ← HI.out]; rfl, .inr (by omega), .inl (by rw [pcells_snoc]; exact hown), (TK3.out.keepB al5).keep u5 (fun h => by have := h.1; omega) (fun k h => by have := h.1; omega), ?_, ((HUP.out.trans U3.out).trans (Upd.ofBelow al5)).transW u5 (fun k h => .inr h.1)⟩
          have := LP2.out
          rwa [show a - (i : Int) - 1 = a - ((i + 1 : Nat) : Int) by omega] at this
        case measure => simp [intOf]; omega
      · have hd : Rdl 60 pnum bs xs bs' := HLP.out.done (by omega) (by have := HI.out; omega)
        have HDN := hide hd
        clear hd
        go_wp2
        go_ret
        exact ⟨po, pc, i, rfl, xs, HI.out, HRW.out, hi60, bs', HTK.out, HDN.out, HUP.out⟩

set_option maxRecDepth 100000 in
set_option maxHeartbeats 4000000 in
theorem takeL_any (w0 w : World) (G : Nat) (bs : List Nat) (h : Tk w0 w G bs) :
    Calls Try.prog 70 #[.pointer (some ⟨G, 0, none⟩), .int .i64 4, .func (.func 71) #[] #[]] w fun e w' => ∃ (po : Option Addr) (pc m : Nat), e = .returned (.slice po m pc) ∧ ∃ (xs : List Lc), m = xs.length ∧ RowA w' w.heap.size 86 2 (.slice po m pc) m (lcells xs) ∧ m ≤ 4 ∧ TkL 4 lnum w0 w G bs xs w' := by
  obtain ⟨hGl, hG0, hw0⟩ := h.lt
  obtain ⟨i1, gi, gz0, gz1, gz2⟩ := info_parts infoLc
  go_enter Try.func70, Try.ntmps70
  go_wp2_with fail
  refine (takeNumber_any w0 w G bs h).mono ?_
  rintro e w1 ⟨a, rfl, b1, tk1, rd1, u1⟩
  have LP := hide (Lpt.start (num := lnum) rd1)
  have TK := hide tk1
  have U1 := hide u1
  clear h rd1 tk1 u1
  by_cases ha : a ≤ 4
  · go_wp2
    go_loopw [7, 13] (fun lv iv wr => ∃ (i : Nat) (xs : List Lc) (po : Option Addr) (pc : Nat) (bs' : List Nat), lv = .slice po i pc ∧ iv = .int .i64 i ∧ i = xs.length ∧ (i = 0 ∨ (i : Int) ≤ a) ∧ RowA wr w.heap.size 86 2 (.slice po i pc) i (lcells xs) ∧ Tk w0 wr G bs' ∧ Lpt lnum bs xs (a - i) bs' ∧ Upd (fun j => j = G) w wr) (fun _ iv _ => (a : Int).toNat - (intOf iv).toNat)
    case atStart => exact ⟨0, [], none, 0, b1, rfl, rfl, rfl, .inl rfl, .inr ⟨rfl, rfl, _, rfl⟩, TK.out, by simpa using LP.out, U1.out⟩
    case round =>
      obtain ⟨i, xs, po, pc, bs', rfl, rfl, hi, hle, hrow, htk, hlp, hupd⟩ := hrel
      have HI := hide hi
      have HRW := hide hrow
      have HTK := hide htk
      have HLP := hide hlp
      have HUP := hide hupd
      have hzr := hupd.size
      clear hi hrow htk hlp hupd TK LP U1
      have hi60 : i ≤ 4 := by omega
      by_cases hlt : (i : Int) < a
      · have al1 := bal (Below.refl wr.heap.size wr) (.cells #[.int .i64 0, .int .i64 0] 86)
        have D1 := hide (heap_alloc_new wr (.cells #[.int .i64 0, .int .i64 0] 86))
        have CN := hide (lastNumbers_any wr.heap.size (wr.alloc (.cells #[.int .i64 0, .int .i64 0] 86)))
        have al2 := bal (Below.refl (wr.alloc (.cells #[.int .i64 0, .int .i64 0] 86)).heap.size (wr.alloc (.cells #[.int .i64 0, .int .i64 0] 86))) (.cells (#[.pointer (some ⟨wr.heap.size, 0, none⟩), .pointer (some ⟨wr.heap.size, 1, none⟩)] : Array Value) 115)
        have B2 := hide (heap_alloc_new (wr.alloc (.cells #[.int .i64 0, .int .i64 0] 86)) (.cells (#[.pointer (some ⟨wr.heap.size, 0, none⟩), .pointer (some ⟨wr.heap.size, 1, none⟩)] : Array Value) 115))
        simp only [World.size_alloc] at B2
        go_wp2_with fail
        refine CN.out.mono ?_
        rintro e w2 ⟨rfl, rfl⟩
        have al12 := hide (bDrewB (bAll al1 al2))
        have TK2 := HTK.out.keepB al12.out
        have D2 := hide (bKeeps (bDrewB al2) D1.out)
        have B2v := hide (bKeeps ((Below.refl _ _).drew) B2.out)
        have hGr := HTK.out.lt.1
        clear CN al1 al2 D1 B2
        generalize World.drew _ = V at TK2 D2 al12 B2v ⊢
        go_wp2_with fail
        refine (take_any w0 V G wr.heap.size (wr.heap.size + 1) 0 2 2 _ _ bs' TK2 D2.out (Nat.le_refl _) (by omega) (by omega) (by omega) (by omega) (by omega) ?ptrs).mono ?_
        case ptrs =>
          intro k hk
          rw [Nat.zero_add, boxAt B2v.out k]
          match k, hk with
          | 0, _ => rfl
          | 1, _ => rfl
        rintro e w3 ⟨rfl, ys, b3, hyl, tk3, rd3, hD3, u3⟩
        obtain ⟨d, b, rfl⟩ : ∃ d b, ys = [d, b] := by
          match ys, hyl with
          | [d, b], _ => exact ⟨d, b, rfl⟩
        have D3 : w3.heap[wr.heap.size]? = some (.cells #[.int .i64 d, .int .i64 b] 86 (0, 0)) := hD3
        have y0 : w3.cell? ⟨wr.heap.size, 0, none⟩ = some (.int .i64 d) := boxAt D3 0
        have y1 : w3.cell? ⟨wr.heap.size, 1, none⟩ = some (.int .i64 b) := boxAt D3 1
        have U3 := hide ((Upd.ofBelow (S := fun j => j = G) al12.out).transW u3 (fun i h => by omega))
        have al5 := bal (Below.refl w3.heap.size w3) (.cells #[.int .i64 d, .int .i64 b] 86)
        have row3 := (HRW.out.keep U3.out (fun k h e => by omega)).keepB al5
        have HN3 := hide (lcU_new w3 (d, b) 86)
        have LP2 := hide (HLP.out.step (x := (d, b)) (by omega) rd3 (fun _ => rfl) (fun y e => by obtain ⟨y0, y1⟩ := y; simp [lnum] at e; simp [e]))
        have TK3 := hide tk3
        have z3 := U3.out.size
        clear HLP rd3 tk3 u3 D2 B2v al12 TK2 HTK hD3 D3 hyl
        go_wp2_with (at_builtin; refine wpList_appendA _ rfl _ _ 32 rfl w.heap.size 86 i1 (.agg #[.int .i64 0, .int .i64 0]) 2 16 Try.underlying32 gi gz0 gz1 gz2 rfl (by decide) _ i (lcells xs) rfl row3 ⟨w3.heap.size, 0, none⟩ 1 1 (lcell (d, b)) rfl rfl HN3.out (lcell_one _) (by decide) ?q63 ?qby ?qbase ?_)
        case q63 => unfold maxLen; omega
        case qby => omega
        case qbase => first | omega | (simp; omega)
        intro v5 w5 hown u5
        obtain ⟨mo, cm, rfl⟩ := (Row.ofOwns hown (by omega)).shape
        go_wp2
        go_roundw
        case rel =>
          refine ⟨i + 1, xs ++ [(d, b)], mo, cm, b3, rfl, by go_num, by rw [List.length_append, ← HI.out]; rfl, .inr (by omega), .inl (by rw [lcells_snoc]; exact hown), (TK3.out.keepB al5).keep u5 (fun h => by have := h.1; omega) (fun k h => by have := h.1; omega), ?_, ((HUP.out.trans U3.out).trans (Upd.ofBelow al5)).transW u5 (fun k h => .inr h.1)⟩
          have := LP2.out
          rwa [show a - (i : Int) - 1 = a - ((i + 1 : Nat) : Int) by omega] at this
        case measure => simp [intOf]; omega
      · have hd : Rdl 4 lnum bs xs bs' := HLP.out.done (by omega) (by have := HI.out; omega)
        have HDN := hide hd
        clear hd
        go_wp2
        go_ret
        exact ⟨po, pc, i, rfl, xs, HI.out, HRW.out, hi60, bs', HTK.out, HDN.out, HUP.out⟩
  · go_wp2
    go_loopw [7, 13] (fun lv iv wr => ∃ (i : Nat) (xs : List Lc) (po : Option Addr) (pc : Nat) (bs' : List Nat), lv = .slice po i pc ∧ iv = .int .i64 i ∧ i = xs.length ∧ (i = 0 ∨ (i : Int) ≤ 4) ∧ RowA wr w.heap.size 86 2 (.slice po i pc) i (lcells xs) ∧ Tk w0 wr G bs' ∧ Lpt lnum bs xs (a - i) bs' ∧ Upd (fun j => j = G) w wr) (fun _ iv _ => (4 : Int).toNat - (intOf iv).toNat)
    case atStart => exact ⟨0, [], none, 0, b1, rfl, rfl, rfl, .inl rfl, .inr ⟨rfl, rfl, _, rfl⟩, TK.out, by simpa using LP.out, U1.out⟩
    case round =>
      obtain ⟨i, xs, po, pc, bs', rfl, rfl, hi, hle, hrow, htk, hlp, hupd⟩ := hrel
      have HI := hide hi
      have HRW := hide hrow
      have HTK := hide htk
      have HLP := hide hlp
      have HUP := hide hupd
      have hzr := hupd.size
      clear hi hrow htk hlp hupd TK LP U1
      have hi60 : i ≤ 4 := by omega
      by_cases hlt : (i : Int) < 4
      · have al1 := bal (Below.refl wr.heap.size wr) (.cells #[.int .i64 0, .int .i64 0] 86)
        have D1 := hide (heap_alloc_new wr (.cells #[.int .i64 0, .int .i64 0] 86))
        have CN := hide (lastNumbers_any wr.heap.size (wr.alloc (.cells #[.int .i64 0, .int .i64 0] 86)))
        have al2 := bal (Below.refl (wr.alloc (.cells #[.int .i64 0, .int .i64 0] 86)).heap.size (wr.alloc (.cells #[.int .i64 0, .int .i64 0] 86))) (.cells (#[.pointer (some ⟨wr.heap.size, 0, none⟩), .pointer (some ⟨wr.heap.size, 1, none⟩)] : Array Value) 115)
        have B2 := hide (heap_alloc_new (wr.alloc (.cells #[.int .i64 0, .int .i64 0] 86)) (.cells (#[.pointer (some ⟨wr.heap.size, 0, none⟩), .pointer (some ⟨wr.heap.size, 1, none⟩)] : Array Value) 115))
        simp only [World.size_alloc] at B2
        go_wp2_with fail
        refine CN.out.mono ?_
        rintro e w2 ⟨rfl, rfl⟩
        have al12 := hide (bDrewB (bAll al1 al2))
        have TK2 := HTK.out.keepB al12.out
        have D2 := hide (bKeeps (bDrewB al2) D1.out)
        have B2v := hide (bKeeps ((Below.refl _ _).drew) B2.out)
        have hGr := HTK.out.lt.1
        clear CN al1 al2 D1 B2
        generalize World.drew _ = V at TK2 D2 al12 B2v ⊢
        go_wp2_with fail
        refine (take_any w0 V G wr.heap.size (wr.heap.size + 1) 0 2 2 _ _ bs' TK2 D2.out (Nat.le_refl _) (by omega) (by omega) (by omega) (by omega) (by omega) ?ptrs).mono ?_
        case ptrs =>
          intro k hk
          rw [Nat.zero_add, boxAt B2v.out k]
          match k, hk with
          | 0, _ => rfl
          | 1, _ => rfl
        rintro e w3 ⟨rfl, ys, b3, hyl, tk3, rd3, hD3, u3⟩
        obtain ⟨d, b, rfl⟩ : ∃ d b, ys = [d, b] := by
          match ys, hyl with
          | [d, b], _ => exact ⟨d, b, rfl⟩
        have D3 : w3.heap[wr.heap.size]? = some (.cells #[.int .i64 d, .int .i64 b] 86 (0, 0)) := hD3
        have y0 : w3.cell? ⟨wr.heap.size, 0, none⟩ = some (.int .i64 d) := boxAt D3 0
        have y1 : w3.cell? ⟨wr.heap.size, 1, none⟩ = some (.int .i64 b) := boxAt D3 1
        have U3 := hide ((Upd.ofBelow (S := fun j => j = G) al12.out).transW u3 (fun i h => by omega))
        have al5 := bal (Below.refl w3.heap.size w3) (.cells #[.int .i64 d, .int .i64 b] 86)
        have row3 := (HRW.out.keep U3.out (fun k h e => by omega)).keepB al5
        have HN3 := hide (lcU_new w3 (d, b) 86)
        have LP2 := hide (HLP.out.step (x := (d, b)) (by omega) rd3 (fun _ => rfl) (fun y e => by obtain ⟨y0, y1⟩ := y; simp [lnum] at e; simp [e]))
        have TK3 := hide tk3
        have z3 := U3.out.size
        clear HLP rd3 tk3 u3 D2 B2v al12 TK2 HTK hD3 D3 hyl
        go_wp2_with (at_builtin; refine wpList_appendA _ rfl _ _ 32 rfl w.heap.size 86 i1 (.agg #[.int .i64 0, .int .i64 0]) 2 16 Try.underlying32 gi gz0 gz1 gz2 rfl (by decide) _ i (lcells xs) rfl row3 ⟨w3.heap.size, 0, none⟩ 1 1 (lcell (d, b)) rfl rfl HN3.out (lcell_one _) (by decide) ?q63 ?qby ?qbase ?_)
        case q63 => unfold maxLen; omega
        case qby => omega
        case qbase => first | omega | (simp; omega)
        intro v5 w5 hown u5
        obtain ⟨mo, cm, rfl⟩ := (Row.ofOwns hown (by omega)).shape
        go_wp2
        go_roundw
        case rel =>
          refine ⟨i + 1, xs ++ [(d, b)], mo, cm, b3, rfl, by go_num, by rw [List.length_append, ← HI.out]; rfl, .inr (by omega), .inl (by rw [lcells_snoc]; exact hown), (TK3.out.keepB al5).keep u5 (fun h => by have := h.1; omega) (fun k h => by have := h.1; omega), ?_, ((HUP.out.trans U3.out).trans (Upd.ofBelow al5)).transW u5 (fun k h => .inr h.1)⟩
          have := LP2.out
          rwa [show a - (i : Int) - 1 = a - ((i + 1 : Nat) : Int) by omega] at this
        case measure => simp [intOf]; omega
      · have hd : Rdl 4 lnum bs xs bs' := HLP.out.done (by omega) (by have := HI.out; omega)
        have HDN := hide hd
        clear hd
        go_wp2
        go_ret
        exact ⟨po, pc, i, rfl, xs, HI.out, HRW.out, hi60, bs', HTK.out, HDN.out, HUP.out⟩

end Go.Proofs.Ytdnojnkcmncffaa
