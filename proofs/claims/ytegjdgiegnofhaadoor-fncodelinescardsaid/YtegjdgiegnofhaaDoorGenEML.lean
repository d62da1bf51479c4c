/- What draws nodes stands in: what is known, what may be performed; the contract of the whole drawer. -/
import Derived.Test.YtegjdgiegnofhaaDoorGenDML
import Derived.Test.YtegjdgiegnofhaaDoorEffM
namespace Go.Proofs.YtegjdgiegnofhaaDoor
open Go.RowKit Go.Deep

def EffsD (d : Dr) (W : World) (v : Value) (es : List Ef) : Prop := Lies d W v es.length 3 (fun i => (es.getD (i / 3) default).cell (i % 3)) ∧ ∀ e ∈ es, Brief e.name

theorem EffsD.grew {d : Dr} {W W' : World} {v : Value} {es : List Ef} (h : EffsD d W v es) (g : Grew d W W') : EffsD d W' v es := ⟨h.1.grew g, h.2⟩
theorem EffsD.is {d : Dr} {W : World} {v : Value} {es : List Ef} (h : EffsD d W v es) : ∃ ad cp, v = .slice ad es.length cp := h.1.is

theorem EffsD.at {d : Dr} {W : World} {ad : Option Addr} {n cp : Nat} {es : List Ef} (h : EffsD d W (.slice ad n cp) es) {i : Nat} (hi : i < n) : ∃ b off nm ar re, ad = some ⟨b, off, none⟩ ∧ es.getD i default = ⟨nm, ar, re⟩ ∧ Brief nm ∧ d.free W b ∧ W.cell? ⟨b, off + i * 3, none⟩ = some (.string nm) ∧ W.cell? ⟨b, off + i * 3 + 1, none⟩ = some (.int .i64 ar) ∧ W.cell? ⟨b, off + i * 3 + 2, none⟩ = some (.int .i64 re) := by
  obtain ⟨h, hB⟩ := h
  obtain ⟨hl, -, b, off, rfl, hq, hc⟩ := h.at (by omega)
  obtain ⟨k, hk⟩ : ∃ k, es.getD i default = k := ⟨_, rfl⟩
  have hb := hB _ (getD_mem (l := es) (k := i) (by omega))
  have e : ∀ c, c < 3 → W.cell? ⟨b, off + (i * 3 + c), none⟩ = some (k.cell c) := fun c hc' => by
    rw [hc (i * 3 + c) (by omega), ← hk]
    exact congrArg some (cell_div es Ef.cell 3 i c hc')
  rw [hk] at hb
  obtain ⟨nm, ar, re⟩ := k
  exact ⟨b, off, nm, ar, re, rfl, hk, hb, hq, e 0 (by omega), e 1 (by omega), e 2 (by omega)⟩

/-- What is known and what may be performed, at a depth. -/
structure Env (d : Dr) (ve : Value) (es : List Ef) (X : World) (v : Value) (ks : List Kn) (vm : Value) (ms : List Bool) (D : Nat) : Prop where
  know : KnowsD d X v ks
  may : BoolsD d X vm ms
  len : ms.length = es.length
  effs : EffsD d X ve es
  room : ks.length + 4 * D ≤ 400
  few : es.length ≤ 4

theorem Env.grew {d : Dr} {ve : Value} {es : List Ef} {X X' : World} {v : Value} {ks : List Kn} {vm : Value} {ms : List Bool} {D : Nat} (h : Env d ve es X v ks vm ms D) (g : Grew d X X') : Env d ve es X' v ks vm ms D :=
  ⟨h.know.grew g, h.may.grew g, h.len, h.effs.grew g, h.room, h.few⟩

theorem Env.down {d : Dr} {ve : Value} {es : List Ef} {X : World} {v : Value} {ks : List Kn} {vm : Value} {ms : List Bool} {D : Nat} (h : Env d ve es X v ks vm ms (D + 1)) : Env d ve es X v ks vm ms D :=
  ⟨h.know, h.may, h.len, h.effs, by have := h.room; omega, h.few⟩

theorem Env.with {d : Dr} {ve : Value} {es : List Ef} {X : World} {v u : Value} {ks ks' : List Kn} {vm : Value} {ms : List Bool} {D : Nat} (h : Env d ve es X v ks vm ms (D + 1)) (hk : KnowsD d X u ks') (hl : ks'.length ≤ ks.length + 4) : Env d ve es X u ks' vm ms D :=
  ⟨hk, h.may, h.len, h.effs, by have := h.room; omega, h.few⟩

theorem Env.let {d : Dr} {ve : Value} {es : List Ef} {X : World} {v um : Value} {ks : List Kn} {vm : Value} {ms ms' : List Bool} {D : Nat} (h : Env d ve es X v ks vm ms (D + 1)) (hm : BoolsD d X um ms') (hl : ms'.length = es.length) : Env d ve es X v ks um ms' D :=
  ⟨h.know, hm, hl, h.effs, by have := h.room; omega, h.few⟩

/-- The drawer keeps its contract at depths up to D. -/
def OfC (d : Dr) (ve : Value) (es : List Ef) (D : Nat) : Prop :=
  ∀ (deep ty : Int) (v vm : Value) (ks : List Kn) (ms : List Bool) (X : World) (s : Cn), deep ≤ D → -100 ≤ deep → Fit s 10 → Gen d ve X s → Env d ve es X v ks vm ms D →
    Calls Tryd.prog 34 #[.pointer (some ⟨d.G, 0, none⟩), .int .i64 ty, v, vm, .int .i64 deep] X (NodesPost d ve X s 10)

set_option maxRecDepth 100000 in
theorem base_calls (b : Int) (W : World) : Calls Tryd.prog 74 #[.int .i64 b] W fun e W' => e = .returned (.int .i64 b) ∧ W = W' := by
  go_enter Tryd.func74, Tryd.ntmps74
  go_wp2_with fail
  go_ret
  exact ⟨rfl, rfl⟩

theorem nd_lit_at {d : Dr} (W : World) (n : Nd) (q : Nat) (hq : W.heap.size = q) (h1 : d.B < W.heap.size) (h2 : d.G < W.heap.size) (hb : Brief n.a ∧ Brief n.b ∧ Brief n.c) : NodesD d (W.alloc (.cells #[.int .i64 n.kind, .int .i64 n.num, .string n.a, .string n.b, .string n.c, .int .i64 n.kids] 90)) (.slice (some ⟨q, 0, none⟩) 1 1) [n] := by
  subst hq
  exact nd_lit W n h1 h2 hb

theorem two_get (a b : Int) (m : Int) (h0 : 0 ≤ m) (h1 : m < 2) : ∃ k : Int, (#[.int .i64 a, .int .i64 b] : Array Value)[m.toNat]? = some (.int .i64 k) := by
  have h : m = 0 ∨ m = 1 := by omega
  rcases h with rfl | rfl <;> exact ⟨_, rfl⟩

theorem KidsV.grew {d : Dr} {X X' : World} {v : Value} {ls : List (Value × List Nd)} (h : KidsV d X v ls) (g : Grew d X X') : KidsV d X' v ls := ⟨h.1.grew g, fun x hx => (h.2 x hx).grew g⟩

/-- Trees put together that lie in a list. -/
theorem At.put_kids {d : Dr} {ve : Value} {W X : World} {s s1 : Cn} {t c : Nat} (h : At d ve W s X s1 t c) {ls : List (Value × List Nd)} {vk : Value} (k nm kd : Int) (a b e' : ByteArray) (hk : KidsV d X vk ls) (hb : Brief a ∧ Brief b ∧ Brief e') (hl : ls.length ≤ 1000) (hfl : (flatL ls).length ≤ 800000) :
    Calls Tryd.prog 51 #[.agg #[.int .i64 k, .int .i64 nm, .string a, .string b, .string e', .int .i64 kd], vk] X fun e X' => ∃ v ns, e = .returned v ∧ NodesD d X' v ns ∧ ns.length = 1 + (flatL ls).length ∧ At d ve W s X' s1 t c ∧ Grew d X X' := by
  refine (gput_calls (d := d) k nm kd a b e' X _ ls h.1.ltB h.1.ltG hk hb hl hfl).mono ?_
  rintro e X' ⟨v, rfl, hn, hbl⟩
  exact ⟨v, _, rfl, hn, by simp; omega, h.below hbl, Grew.of_below hbl⟩
end Go.Proofs.YtegjdgiegnofhaaDoor
