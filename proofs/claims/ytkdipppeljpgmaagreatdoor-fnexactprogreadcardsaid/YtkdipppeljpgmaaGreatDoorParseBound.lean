/- How far the specification reads, and how much it makes of that. -/
import Derived.Test.YtkdipppeljpgmaaGreatDoorParsePure
import Derived.Test.YtkdipppeljpgmaaGreatDoorGenKit
namespace Go.Proofs.YtkdipppeljpgmaaGreatDoor
open Go.RowKit

def BriefN (l : List Nd) : Prop := ∀ n ∈ l, Brief n.a ∧ Brief n.b ∧ Brief n.c
def BriefW (ws : List Wd) : Prop := ∀ w ∈ ws, Brief w.text

/-- From wherever it begins: it goes on so far, and tells of that. -/
def Mv {α : Type} (N : Nat) (p : PS α) (Q : Nat → α → Prop) : Prop := ∀ s : Ps, s.at_ ≤ N → ∃ c, (p s).2.at_ = s.at_ + c ∧ s.at_ + c ≤ N ∧ Q c (p s).1

section
variable {N : Nat} {α β : Type}

theorem Mv.bind {p : PS α} {k : α → PS β} {Q : Nat → α → Prop} {R : Nat → β → Prop} (h : Mv N p Q) (hk : ∀ c a, Q c a → Mv N (k a) (fun e b => R (c + e) b)) : Mv N (bindS p k) R := fun s hs => by
  obtain ⟨c, h1, h2, h3⟩ := h s hs
  obtain ⟨e, h4, h5, h6⟩ := hk c _ h3 (p s).2 (by omega)
  exact ⟨c + e, by unfold bindS; omega, by omega, h6⟩

theorem Mv.pure {R : Nat → α → Prop} {a : α} (h : R 0 a) : Mv N (pureS a) R := fun s hs => ⟨0, rfl, by omega, h⟩

theorem Mv.mono {p : PS α} {Q R : Nat → α → Prop} (h : Mv N p Q) (hq : ∀ c a, Q c a → R c a) : Mv N p R := fun s hs => by
  obtain ⟨c, h1, h2, h3⟩ := h s hs
  exact ⟨c, h1, h2, hq _ _ h3⟩
end

section
variable {ws : List Wd}

theorem cur_mem {i : Nat} (h : i < ws.length) : curW ws i ∈ ws := by
  unfold curW
  simp only [List.getD_eq_getElem?_getD]
  rw [List.getElem?_eq_getElem h]
  exact List.getElem_mem _

theorem sees_lt {s : Ps} {l : List UInt8} (hl : l ≠ []) (h : seesS ws s l = true) : s.at_ < ws.length := by
  unfold seesS txt at h
  by_cases hc : s.bad = true ∨ ws.length ≤ s.at_ ∨ (curW ws s.at_).kind < 3
  · rw [if_pos hc, no_bytes] at h
    cases l with
    | nil => exact absurd rfl hl
    | cons a l => cases h
  · exact Nat.lt_of_not_le (fun e => hc (Or.inr (Or.inl e)))

theorem Mv.or {α : Type} {l : List UInt8} (hl : l ≠ []) {p q : PS α} {R : Nat → α → Prop} (h : Mv ws.length p (fun c a => R (c + 1) a)) (h' : Mv ws.length q R) : Mv ws.length (orS ws l p q) R := fun s hs => by
  unfold orS
  cases hc : seesS ws s l with
  | true =>
    have := sees_lt hl hc
    obtain ⟨c, h1, h2, h3⟩ := h s.next (by show s.at_ + 1 ≤ _; omega)
    have e : s.next.at_ = s.at_ + 1 := rfl
    exact ⟨c + 1, by rw [if_pos rfl]; omega, by omega, by rw [if_pos rfl]; exact h3⟩
  | false =>
    rw [if_neg (by simp)]
    exact h' s hs

theorem Mv.take {l : List UInt8} (hl : l ≠ []) : Mv ws.length (takeS ws l) (fun _ _ => True) := fun s hs => by
  unfold takeS
  cases hc : seesS ws s l with
  | true =>
    have := sees_lt hl hc
    exact ⟨1, rfl, by omega, trivial⟩
  | false => exact ⟨0, rfl, by omega, trivial⟩

theorem Mv.name (hb : BriefW ws) : Mv ws.length (nameS ws) (fun _ x => Brief x) := fun s hs => by
  unfold nameS
  cases hc : isNm ws s with
  | true =>
    have h2 : s.at_ < ws.length := by
      unfold isNm at hc
      simp only [Bool.and_eq_true, decide_eq_true_eq] at hc
      exact hc.2.1
    exact ⟨1, rfl, by omega, hb _ (cur_mem h2)⟩
  | false => exact ⟨0, rfl, by omega, brief_nil⟩
where brief_nil : Brief ⟨#[]⟩ := by unfold Brief; decide

/-- So many nodes at most. -/
def Len (k : Nat) (c : Nat) (l : List Nd) : Prop := l.length ≤ 3 * c + k ∧ BriefN l

def accN : Nt (List Nd) → Nat
  | .sumL a => a.length
  | .prodL a => a.length
  | .callL a => a.length
  | .hand _ => 2
  | .opsL _ ks => 1 + ks.flatten.length
  | _ => 0

def NtB : Nt (List Nd) → Prop
  | .sumL a => BriefN a
  | .prodL a => BriefN a
  | .callL a => BriefN a
  | .opsL _ ks => BriefN ks.flatten
  | _ => True

/-- What an atom makes. -/
def LenA (c : Nat) (l : List Nd) : Prop := l.length ≤ 3 * c - 1 ∧ BriefN l

theorem put_len' (n : Nd) (ks : List (List Nd)) : (putN n ks).length = 1 + ks.flatten.length := by unfold putN; simp; omega

theorem brief_put {n : Nd} {ks : List (List Nd)} (hn : Brief n.a ∧ Brief n.b ∧ Brief n.c) (hk : BriefN ks.flatten) : BriefN (putN n ks) := fun m hm => by
  unfold putN at hm
  rcases List.mem_cons.1 hm with rfl | hm
  · exact hn
  · exact hk m hm

theorem brief_two {a b : List Nd} (h : BriefN a) (h' : BriefN b) : BriefN (a ++ b) := fun m hm => by
  rcases List.mem_append.1 hm with hm | hm
  · exact h m hm
  · exact h' m hm

theorem brief_no : BriefN [] := fun m hm => by cases hm

theorem brief_e : Brief ⟨#[]⟩ := by unfold Brief; decide

theorem len0' {n : Nd} {c k : Nat} (hn : Brief n.a ∧ Brief n.b ∧ Brief n.c) (h : 1 ≤ 3 * c + k) : Len k c (putN n []) := ⟨by rw [put_len']; simpa using h, brief_put hn brief_no⟩
theorem len1' {n : Nd} {a : List Nd} {c k : Nat} (hn : Brief n.a ∧ Brief n.b ∧ Brief n.c) (ha : BriefN a) (h : 1 + a.length ≤ 3 * c + k) : Len k c (putN n [a]) := ⟨by rw [put_len']; simpa using h, brief_put hn (by simpa using ha)⟩
theorem len2' {n : Nd} {a b : List Nd} {c k : Nat} (hn : Brief n.a ∧ Brief n.b ∧ Brief n.c) (ha : BriefN a) (hb : BriefN b) (h : 1 + a.length + b.length ≤ 3 * c + k) : Len k c (putN n [a, b]) := ⟨by rw [put_len']; simp; omega, brief_put hn (by simpa using brief_two ha hb)⟩
theorem len3' {n : Nd} {a b d : List Nd} {c k : Nat} (hn : Brief n.a ∧ Brief n.b ∧ Brief n.c) (ha : BriefN a) (hb : BriefN b) (hd : BriefN d) (h : 1 + a.length + b.length + d.length ≤ 3 * c + k) : Len k c (putN n [a, b, d]) := ⟨by rw [put_len']; simp; omega, brief_put hn (by simpa using brief_two ha (brief_two hb hd))⟩

structure PartM (ws : List Wd) (go : Nt (List Nd) → PS (List Nd)) : Prop where
  at_ : ∀ nt, NtB nt → nt ≠ .atom → Mv ws.length (go nt) (Len (accN nt))
  atom : Mv ws.length (go .atom) LenA
  live : (∀ s, startsS ws s = true → s.at_ + 1 ≤ (go .atom s).2.at_) ∨ ∀ nt s, (go nt s).1 = []

variable {go : Nt (List Nd) → PS (List Nd)}

theorem PartM.at (h : PartM ws go) (nt : Nt (List Nd)) (hb : NtB nt) (ha : nt ≠ .atom) : Mv ws.length (go nt) (Len (accN nt)) := h.at_ nt hb ha

theorem brack_m (hg : PartM ws go) : Mv ws.length (brackS ws go) (Len 1) := by
  have ex := hg.at .expr trivial (by simp)
  refine Mv.or (by decide) (Mv.pure (len0' ⟨brief_e, brief_e, brief_e⟩ (by omega))) (ex.bind fun c1 a ha => Mv.or (by decide) (ex.bind fun c2 b hb => (Mv.take (by decide)).bind fun c3 _ _ => Mv.pure (len2' ⟨brief_e, brief_e, brief_e⟩ ha.2 hb.2 ?_)) ((Mv.take (by decide)).bind fun c2 _ _ => Mv.pure ⟨?_, ha.2⟩))
  · have h1 := ha.1
    have h2 := hb.1
    simp only [accN] at h1 h2
    omega
  · have h1 := ha.1
    simp only [accN] at h1
    omega

theorem atom_m (hw : BriefW ws) (hg : PartM ws go) (s : Ps) (hs : s.at_ ≤ ws.length) : ∃ c, (atomS ws go s).2.at_ = s.at_ + c ∧ s.at_ + c ≤ ws.length ∧ LenA c (atomS ws go s).1 ∧ (startsS ws s = true → 1 ≤ c) := by
  unfold atomS
  cases hc : startsS ws s with
  | false => exact ⟨0, rfl, by omega, ⟨Nat.zero_le _, brief_no⟩, fun h => by cases h⟩
  | true =>
    rw [if_pos rfl]
    have hlt : s.at_ < ws.length := by
      unfold startsS at hc
      simp only [Bool.and_eq_true, decide_eq_true_eq] at hc
      exact hc.2.1
    have hbw := hw _ (cur_mem hlt)
    obtain ⟨w, hw'⟩ : ∃ w, curW ws s.at_ = w := ⟨_, rfl⟩
    rw [hw'] at hbw ⊢
    have key : Mv ws.length (wordS ws go w) (fun c l => l.length ≤ 3 * c + 2 ∧ BriefN l) := by
      have leaf : ∀ n : Nd, Brief n.a ∧ Brief n.b ∧ Brief n.c → Mv ws.length (pureS (putN n [])) (fun c l => l.length ≤ 3 * c + 2 ∧ BriefN l) := fun n hn => Mv.pure ⟨by rw [put_len']; simp, brief_put hn brief_no⟩
      unfold wordS
      split
      · exact leaf _ ⟨brief_e, brief_e, brief_e⟩
      split
      · exact leaf _ ⟨hbw, brief_e, brief_e⟩
      split
      · exact leaf _ ⟨brief_e, brief_e, brief_e⟩
      split
      · exact leaf _ ⟨brief_e, brief_e, brief_e⟩
      split
      · exact leaf _ ⟨brief_e, brief_e, brief_e⟩
      split
      · exact hg.at (.hand 23) trivial (by simp)
      split
      · exact hg.at (.hand 24) trivial (by simp)
      · exact (brack_m hg).mono fun c l hl => ⟨by have := hl.1; omega, hl.2⟩
    obtain ⟨c, h1, h2, h3, h4⟩ := key s.next (by show s.at_ + 1 ≤ _; omega)
    have e : s.next.at_ = s.at_ + 1 := rfl
    exact ⟨c + 1, by omega, by omega, ⟨by omega, h4⟩, fun _ => by omega⟩
theorem step_m (hw : BriefW ws) (hg : PartM ws go) : ∀ nt, NtB nt → nt ≠ .atom → Mv ws.length (stepS ws go nt) (Len (accN nt)) := by
  have ex := hg.at .expr trivial (by simp)
  have at' := hg.atom
  have e3 : Brief (nd0 0).a ∧ Brief (nd0 0).b ∧ Brief (nd0 0).c := ⟨brief_e, brief_e, brief_e⟩
  intro nt hb hna
  cases nt with
  | expr =>
    show Mv ws.length (exprS ws go) (Len 0)
    refine Mv.or (by decide) (Mv.or (by decide) ?_ ?_) (Mv.or (by decide) ?_ (Mv.or (by decide) ?_ (Mv.or (by decide) ?_ (hg.at .cons trivial (by simp)))))
    · refine (Mv.name hw).bind fun c1 f hf => (Mv.name hw).bind fun c2 x hx => (Mv.take (by decide)).bind fun c3 _ _ => ex.bind fun c4 a ha => (Mv.take (by decide)).bind fun c5 _ _ => ex.bind fun c6 b hb => Mv.pure (len2' ⟨hf, hx, brief_e⟩ ha.2 hb.2 ?_)
      have h1 := ha.1
      have h2 := hb.1
      simp only [accN] at h1 h2
      omega
    · refine (Mv.name hw).bind fun c2 x hx => (Mv.take (by decide)).bind fun c3 _ _ => ex.bind fun c4 a ha => (Mv.take (by decide)).bind fun c5 _ _ => ex.bind fun c6 b hb => Mv.pure (len2' ⟨hx, brief_e, brief_e⟩ ha.2 hb.2 ?_)
      have h1 := ha.1
      have h2 := hb.1
      simp only [accN] at h1 h2
      omega
    · refine ex.bind fun c1 a ha => (Mv.take (by decide)).bind fun c2 _ _ => ex.bind fun c3 b hb => (Mv.take (by decide)).bind fun c4 _ _ => ex.bind fun c5 d hd => Mv.pure (len3' e3 ha.2 hb.2 hd.2 ?_)
      have h1 := ha.1
      have h2 := hb.1
      have h3 := hd.1
      simp only [accN] at h1 h2 h3
      omega
    · refine (Mv.name hw).bind fun c2 x hx => (Mv.take (by decide)).bind fun c3 _ _ => ex.bind fun c4 a ha => Mv.pure (len1' ⟨hx, brief_e, brief_e⟩ ha.2 ?_)
      have h1 := ha.1
      simp only [accN] at h1
      omega
    · refine ex.bind fun c1 a ha => (Mv.take (by decide)).bind fun c2 _ _ => (Mv.take (by decide)).bind fun c3 _ _ => (Mv.take (by decide)).bind fun c4 _ _ => ex.bind fun c5 b hb => (Mv.take (by decide)).bind fun c6 _ _ => (Mv.name hw).bind fun c7 x hx => (Mv.take (by decide)).bind fun c8 _ _ => (Mv.name hw).bind fun c9 y hy => (Mv.take (by decide)).bind fun c10 _ _ => ex.bind fun c11 d hd => Mv.pure (len3' ⟨hx, hy, brief_e⟩ ha.2 hb.2 hd.2 ?_)
      have h1 := ha.1
      have h2 := hb.1
      have h3 := hd.1
      simp only [accN] at h1 h2 h3
      omega
  | cons =>
    show Mv ws.length (consS ws go) (Len 0)
    unfold consS
    refine (hg.at .comp trivial (by simp)).bind fun c1 a ha => Mv.or (by decide) ((hg.at .cons trivial (by simp)).bind fun c2 b hb => Mv.pure (len2' e3 ha.2 hb.2 ?_)) (Mv.pure ha)
    have h1 := ha.1
    have h2 := hb.1
    simp only [accN] at h1 h2
    omega
  | comp =>
    have sm := hg.at .sum trivial (by simp)
    show Mv ws.length (compS ws go) (Len 0)
    unfold compS
    refine sm.bind fun c1 a ha => Mv.or (by decide) (sm.bind fun c2 b hb => Mv.pure (len2' e3 ha.2 hb.2 ?_)) (Mv.or (by decide) (sm.bind fun c2 b hb => Mv.pure (len2' e3 ha.2 hb.2 ?_)) (Mv.pure ha))
    all_goals
      have h1 := ha.1
      have h2 := hb.1
      simp only [accN] at h1 h2
      omega
  | sum =>
    refine (hg.at .prod trivial (by simp)).bind fun c1 a ha => (hg.at (.sumL a) ha.2 (by simp)).mono fun c2 l hl => ⟨?_, hl.2⟩
    have h1 := ha.1
    have h2 := hl.1
    simp only [accN] at h1 h2
    omega
  | prod =>
    refine (hg.at .call trivial (by simp)).bind fun c1 a ha => (hg.at (.prodL a) ha.2 (by simp)).mono fun c2 l hl => ⟨?_, hl.2⟩
    have h1 := ha.1
    have h2 := hl.1
    simp only [accN] at h1 h2
    omega
  | call =>
    refine (?_ : Mv ws.length (headS ws go) (Len 0)).bind fun c1 a ha => (hg.at (.callL a) ha.2 (by simp)).mono fun c2 l hl => ⟨?_, hl.2⟩
    · refine Mv.or (by decide) (at'.bind fun c1 a ha => Mv.pure (len1' e3 ha.2 ?_)) (Mv.or (by decide) (at'.bind fun c1 a ha => Mv.pure (len1' e3 ha.2 ?_)) (Mv.or (by decide) (at'.bind fun c1 a ha => Mv.pure (len1' e3 ha.2 ?_)) (Mv.or (by decide) ((Mv.name hw).bind fun c0 x hx => at'.bind fun c1 a ha => Mv.pure (len1' ⟨hx, brief_e, brief_e⟩ ha.2 ?_)) (at'.mono fun c l hl => ⟨by have := hl.1; omega, hl.2⟩))))
      all_goals
        have h1 := ha.1
        omega
    · have h1 := ha.1
      have h2 := hl.1
      simp only [accN] at h1 h2
      omega
  | atom => exact absurd rfl hna
  | sumL a0 =>
    have pr := hg.at .prod trivial (by simp)
    show Mv ws.length (sumLS ws go a0) (Len a0.length)
    refine Mv.or (by decide) (pr.bind fun c1 b hb' => (hg.at (.sumL (putN (nd0 11) [a0, b])) ?_ (by simp)).mono fun c2 l hl => ⟨?_, hl.2⟩) (Mv.or (by decide) (pr.bind fun c1 b hb' => (hg.at (.sumL (putN (nd0 12) [a0, b])) ?_ (by simp)).mono fun c2 l hl => ⟨?_, hl.2⟩) (Mv.pure ⟨by omega, hb⟩))
    · exact brief_put e3 (by simpa using brief_two hb hb'.2)
    · have h1 := hb'.1
      have h2 := hl.1
      simp only [accN, put_len'] at h1 h2
      simp at h2
      omega
    · exact brief_put e3 (by simpa using brief_two hb hb'.2)
    · have h1 := hb'.1
      have h2 := hl.1
      simp only [accN, put_len'] at h1 h2
      simp at h2
      omega
  | prodL a0 =>
    have pr := hg.at .call trivial (by simp)
    show Mv ws.length (prodLS ws go a0) (Len a0.length)
    refine Mv.or (by decide) (pr.bind fun c1 b hb' => (hg.at (.prodL (putN (nd0 13) [a0, b])) ?_ (by simp)).mono fun c2 l hl => ⟨?_, hl.2⟩) (Mv.pure ⟨by omega, hb⟩)
    · exact brief_put e3 (by simpa using brief_two hb hb'.2)
    · have h1 := hb'.1
      have h2 := hl.1
      simp only [accN, put_len'] at h1 h2
      simp at h2
      omega
  | callL a0 =>
    show Mv ws.length (callLS ws go a0) (Len a0.length)
    intro s hs
    unfold callLS
    cases hc : startsS ws s with
    | false => exact ⟨0, rfl, by omega, by show a0.length ≤ _; omega, hb⟩
    | true =>
      rw [if_pos rfl]
      obtain ⟨c1, h1, h2, h3, h3b⟩ := at' s hs
      obtain ⟨c2, h4, h5, h6, h7⟩ := hg.at (.callL (putN (nd0 7) [a0, (go .atom s).1])) (brief_put e3 (by simpa using brief_two hb h3b)) (by simp) (go .atom s).2 (by omega)
      have e : bindS (go .atom) (fun b => go (.callL (putN (nd0 7) [a0, b]))) s = go (.callL (putN (nd0 7) [a0, (go .atom s).1])) (go .atom s).2 := rfl
      rw [e]
      refine ⟨c1 + c2, by omega, by omega, ?_, h7⟩
      rcases hg.live with hl | hd
      · have := hl s hc
        simp only [accN, put_len'] at h6
        simp at h6
        omega
      · rw [hd]
        exact Nat.zero_le _
  | hand k =>
    show Mv ws.length (handS ws go k) (Len 2)
    refine ex.bind fun c1 a ha => (Mv.take (by decide)).bind fun c2 _ _ => (Mv.take (by decide)).bind fun c3 _ _ => (Mv.name hw).bind fun c4 x hx => (Mv.take (by decide)).bind fun c5 _ _ => ex.bind fun c6 b hb' => (hg.at (.opsL k [a, putN (nd1 25 x) [b]]) ?_ (by simp)).mono fun c7 l hl => ⟨?_, hl.2⟩
    · show BriefN [a, putN (nd1 25 x) [b]].flatten
      simpa using brief_two ha.2 (brief_put (n := nd1 25 x) ⟨hx, brief_e, brief_e⟩ (ks := [b]) (by simpa using hb'.2))
    · have h1 := ha.1
      have h2 := hb'.1
      have h3 := hl.1
      simp only [accN, List.flatten_cons, List.flatten_nil, List.length_append, put_len', List.length_nil] at h1 h2 h3
      omega
  | opsL k ks =>
    show Mv ws.length (opsLS ws go k ks) (Len (1 + ks.flatten.length))
    have hks : BriefN ks.flatten := hb
    refine Mv.or (by decide) ((Mv.name hw).bind fun c1 a ha => (Mv.name hw).bind fun c2 b hb' => (Mv.name hw).bind fun c3 c hc => (Mv.take (by decide)).bind fun c4 _ _ => ex.bind fun c5 e he => (hg.at (.opsL k (ks ++ [putN (nd3 26 a b c) [e]])) ?_ (by simp)).mono fun c7 l hl => ⟨?_, hl.2⟩) ((Mv.take (by decide)).bind fun c1 _ _ => Mv.pure ⟨by rw [put_len']; omega, brief_put e3 hks⟩)
    · show BriefN (ks ++ [putN (nd3 26 a b c) [e]]).flatten
      simpa using brief_two hks (brief_put (n := nd3 26 a b c) ⟨ha, hb', hc⟩ (ks := [e]) (by simpa using he.2))
    · have h1 := he.1
      have h3 := hl.1
      simp only [accN, List.flatten_append, List.flatten_cons, List.flatten_nil, List.length_append, put_len', List.length_nil] at h1 h3
      omega

theorem part_m (hw : BriefW ws) : ∀ f, PartM ws (spz ws f)
  | 0 => ⟨fun nt _ _ s hs => ⟨0, rfl, by omega, Nat.zero_le _, brief_no⟩, fun s hs => ⟨0, rfl, by omega, Nat.zero_le _, brief_no⟩, Or.inr fun _ _ => rfl⟩
  | f + 1 => by
    have hg := part_m hw f
    refine ⟨step_m hw hg, fun s hs => ?_, Or.inl fun s hc => ?_⟩
    · obtain ⟨c, h1, h2, h3, -⟩ := atom_m hw hg s hs
      exact ⟨c, h1, h2, h3⟩
    · have hlt : s.at_ < ws.length := by
        unfold startsS at hc
        simp only [Bool.and_eq_true, decide_eq_true_eq] at hc
        exact hc.2.1
      obtain ⟨c, h1, h2, h3, h4⟩ := atom_m hw hg s (by omega)
      have := h4 hc
      show s.at_ + 1 ≤ (atomS ws (spz ws f) s).2.at_
      omega
end
end Go.Proofs.YtkdipppeljpgmaaGreatDoor
