import PyProof.Rows.All
import Wide.All
import OpenK.AllK
import Wide.FinOn
import HandS.ForMost
import HandS.IsInst
import HandS.EndBits
import HandS.Wide
import HandS.WideBits
import HandS.TupAny
import HandS.Codes
import HandS.Defaults
import HandS.ForExc
import HandS.TryMany
import HandS.ExcIs
import HandS.TryElse
import HandS.DictComp
import HandS.Walk
import HandS.More
import HandS.Flow
import HandS.MakeKwOnly
import HandS.Property
import HandS.Dict
import PyProof.RulesMatchSeq
import PyProof.Rows.MatchSeqLen
import PySem.Challenge.RW_majordomo_k46_caller_one_at_a_time
set_option Elab.async false
set_option linter.all false
set_option maxRecDepth 100000
set_option maxHeartbeats 4000000

namespace My
open PySem PySem.Spec PyProof.Rows L2
/-! own words: tests, heaps, items -/
theorem ifd {p A B : Prop} [Decidable p] (h1 : p → A) (h2 : ¬ p → B) : if decide p = true then A else B := by
  by_cases h : p
  · rw [decide_eq_true h]; exact (if_pos rfl).mpr (h1 h)
  · rw [decide_eq_false h]; exact (if_neg Bool.false_ne_true).mpr (h2 h)
theorem ifn {p A B : Prop} [Decidable p] (h1 : ¬ p → A) (h2 : p → B) : if (!decide p) = true then A else B := by
  by_cases h : p
  · rw [decide_eq_true h]; exact (if_neg Bool.false_ne_true).mpr (h2 h)
  · rw [decide_eq_false h]; exact (if_pos rfl).mpr (h1 h)
theorem ift {p A B : Prop} [Decidable p] (h : p) (h1 : A) : if decide p = true then A else B := by
  rw [decide_eq_true h]; exact (if_pos rfl).mpr h1
theorem iff0 {p A B : Prop} [Decidable p] (h : ¬ p) (h1 : B) : if decide p = true then A else B := by
  rw [decide_eq_false h]; exact (if_neg Bool.false_ne_true).mpr h1
theorem ifnt {p A B : Prop} [Decidable p] (h : p) (h1 : B) : if (!decide p) = true then A else B := by
  rw [decide_eq_true h]; exact (if_neg Bool.false_ne_true).mpr h1
theorem ifbt {b : Bool} {A B : Prop} (h : b = true) (h1 : A) : if b = true then A else B := (if_pos h).mpr h1
theorem ifbf {b : Bool} {A B : Prop} (h : b = false) (h1 : B) : if b = true then A else B := by rw [h]; exact h1
theorem ifb2 {b : Bool} {A B : Prop} (h1 : b = true → A) (h2 : b = false → B) : if b = true then A else B := by
  cases b with
  | true => exact h1 rfl
  | false => exact h2 rfl
theorem same_upd {H : Hp} {p : Addr} {o : HO} (h : H p = none) : Same H (upd H p o) := fun b x e => by
  rw [upd_ne (ne_of_none e h)]
  exact e
theorem same_put {H H' : Hp} {p : Addr} {o : HO} (e : Same H H') (h : H p = none) : Same H (upd H' p o) := fun b x q => by
  rw [upd_ne (ne_of_none q h)]
  exact e b x q
theorem sqt_same {K : PySem.W.Frag} {H H' : Hp} {a : Addr} {xs : List V} (e : Same H H') (h : SqT K H a xs) : SqT K H' a xs := by
  rcases h with (h | ⟨o, h⟩) | h
  · exact .inl (.inl (e _ _ h))
  · exact .inl (.inr ⟨o, e _ _ h⟩)
  · exact .inr h
theorem sql {K : PySem.W.Frag} {H : Hp} {a : Addr} {xs : List V} (h : H a = some (.lst xs)) : SqL K H a xs := .inl (.inl h)
theorem sqt {K : PySem.W.Frag} {H : Hp} {a : Addr} {xs : List V} (h : H a = some (.tup xs)) : SqT K H a xs := .inl (.inl h)
theorem sz {n : Nat} (h : n ≤ 100000) : n ≤ sizeLine := Nat.le_trans h (by decide)
theorem szl {n : Nat} (h : n ≤ 100000) : n < sizeLine := Nat.lt_of_le_of_lt h (by decide)
theorem map_at {α : Type} {f : α → V} {xs : List α} {i : Nat} {y : V} (h : (xs.map f)[i]? = some y) : ∃ x, xs[i]? = some x ∧ y = f x := by
  rw [List.getElem?_map] at h
  cases e : xs[i]? with
  | none => rw [e] at h; cases h
  | some x => rw [e] at h; exact ⟨x, rfl, (Option.some.inj h).symm⟩
theorem at_map {α : Type} {f : α → V} {xs : List α} {i : Nat} {x : α} (h : xs[i]? = some x) : atI (xs.map f) (i : Int) = some (f x) := atI_nat (by rw [List.getElem?_map, h]; rfl)
theorem take_more {α : Type} {l : List α} {i : Nat} {x : α} (h : l[i]? = some x) : l.take (i + 1) = l.take i ++ [x] := by
  rw [List.take_add_one, h]; rfl
/-! deep data stands as long as what was tracked stands -/
mutual
theorem dp_same {K : PySem.W.Frag} {H H' : Hp} (e : Same H H') : ∀ (d : PyData) {v : V}, Dp K H v d → Dp K H' v d
  | _, _, .non => .non
  | _, _, .bl b => .bl b
  | _, _, .int i => .int i
  | _, _, .str x => .str x
  | .list ds, _, .lst h a => .lst (e.seq h) (dpa_same e ds a)
  | .tuple ds, _, .tup h a => .tup (sqt_same e h) (dpa_same e ds a)
theorem dpa_same {K : PySem.W.Frag} {H H' : Hp} (e : Same H H') : ∀ (ds : List PyData) {vs : List V}, DpAll K H vs ds → DpAll K H' vs ds
  | [], _, .nil => .nil
  | d :: ds, _, .cons h a => .cons (dp_same e d h) (dpa_same e ds a)
end
theorem dpa_len {K : PySem.W.Frag} {H : Hp} : ∀ {vs : List V} {ds : List PyData}, DpAll K H vs ds → vs.length = ds.length
  | _, _, .nil => rfl
  | _, _, .cons _ a => by rw [List.length_cons, List.length_cons, dpa_len a]
theorem dpa_at {K : PySem.W.Frag} {H : Hp} : ∀ {vs : List V} {ds : List PyData} {i : Nat} {v : V}, DpAll K H vs ds → vs[i]? = some v → ∃ d, ds[i]? = some d ∧ Dp K H v d
  | _, _, _, _, .nil, h => by simp at h
  | _, _, 0, _, .cons h _, e => ⟨_, rfl, by have := Option.some.inj e; subst this; exact h⟩
  | _, _, i + 1, _, .cons _ a, e => dpa_at (i := i) a (by simpa using e)
theorem dpa_app {K : PySem.W.Frag} {H : Hp} : ∀ {vs ws : List V} {ds es : List PyData}, DpAll K H vs ds → DpAll K H ws es → DpAll K H (vs ++ ws) (ds ++ es)
  | _, _, _, _, .nil, b => b
  | _, _, _, _, .cons h a, b => .cons h (dpa_app a b)
theorem eqv_self {d : PyData} (h : SeqAt.shaped d = true) : PyData.eqv d d = true := SeqAt.eqv_refl d (SeqAt.canLay_of_shaped h)
/-! data that may be compared -/
theorem layAll : ∀ {ds : List PyData}, (∀ d ∈ ds, d.canLay0 = true) → PyData.canLayAll0 ds = true
  | [], _ => rfl
  | d :: ds, h => by
    rw [PyData.canLayAll0, h d List.mem_cons_self, layAll fun e he => h e (List.mem_cons_of_mem _ he)]; rfl
theorem depAll {n : Nat} : ∀ {ds : List PyData}, (∀ d ∈ ds, d.depth ≤ n) → PyData.depthAll ds ≤ n
  | [], _ => Nat.zero_le _
  | d :: ds, h => by
    have h1 := h d List.mem_cons_self
    have h2 := depAll (ds := ds) fun e he => h e (List.mem_cons_of_mem _ he)
    simp only [PyData.depthAll]
    omega
/-- plain data of at most this depth -/
def Flat (n : Nat) (d : PyData) : Prop := d.canLay0 = true ∧ d.depth ≤ n
theorem flat_list {n : Nat} {ds : List PyData} (h : ∀ d ∈ ds, Flat n d) : Flat (n + 1) (.list ds) :=
  ⟨by rw [PyData.canLay0]; exact layAll fun d hd => (h d hd).1, by have := depAll (n := n) fun d hd => (h d hd).2; simp only [PyData.depth]; omega⟩
theorem flat_tup {n : Nat} {ds : List PyData} (h : ∀ d ∈ ds, Flat n d) : Flat (n + 1) (.tuple ds) :=
  ⟨by rw [PyData.canLay0]; exact layAll fun d hd => (h d hd).1, by have := depAll (n := n) fun d hd => (h d hd).2; simp only [PyData.depth]; omega⟩
theorem flat_int (n : Nat) (i : Int) : Flat n (.int i) := ⟨rfl, by simp [PyData.depth]⟩
theorem flat_str (n : Nat) (x : Str) (h : (PyData.str x).canLay0 = true := by decide +kernel) : Flat n (.str x) := ⟨h, by simp [PyData.depth]⟩
theorem flat_bl (n : Nat) (b : Bool) : Flat n (.bool b) := ⟨rfl, by simp [PyData.depth]⟩
theorem flat_non (n : Nat) : Flat n .none := ⟨rfl, by simp [PyData.depth]⟩
theorem Flat.mono {n m : Nat} {d : PyData} (h : Flat n d) (hm : n ≤ m) : Flat m d := ⟨h.1, Nat.le_trans h.2 hm⟩
theorem Flat.sh {n : Nat} {d : PyData} (h : Flat n d) (hn : n ≤ 64) : SeqAt.shaped d = true := by
  show (d.canLay0 && decide (d.depth ≤ 64)) = true
  rw [Bool.and_eq_true]
  exact ⟨h.1, decide_eq_true (Nat.le_trans h.2 hn)⟩
theorem tyx_t {K : PySem.W.Frag} {H : Hp} {a : Addr} {xs : List V} (h : SqT K H a xs) : TyX K H (.ref a) (.type "tuple") := by
  rcases h with (h | ⟨o, h⟩) | ⟨o, its, n, h, hc, _⟩
  · exact .base (.tup h)
  · exact .fTuple h
  · exact .kTuple h hc
theorem tyx_l {K : PySem.W.Frag} {H : Hp} {a : Addr} {xs : List V} (h : SqL K H a xs) : TyX K H (.ref a) (.type "list") := by
  rcases h with (h | ⟨o, h⟩) | ⟨o, its, n, h, hc, _⟩
  · exact .base (.lst h)
  · exact .base (.frz h)
  · exact .kList h hc
theorem same_both {G H : Hp} {t : Addr} {x : HO} (e : Same G H) : Same (upd G t x) (upd H t x) := fun b o h => by
  by_cases hb : b = t
  · subst hb; rw [upd_same] at h ⊢; exact h
  · rw [upd_ne hb] at h ⊢; exact e b o h
theorem set_self {α : Type} : ∀ {l : List α} {i : Nat} {x : α}, l[i]? = some x → l.set i x = l
  | [], i, x, h => by simp at h
  | a :: l, 0, x, h => by
    have e : a = x := Option.some.inj h
    subst e
    rfl
  | a :: l, i + 1, x, h => by
    show a :: l.set i x = a :: l
    rw [set_self (by simpa using h)]
theorem ixn {n j : Nat} {i : Int} (hi : i = (j : Int)) (hj : j < n) : ixN n i = some j := by
  unfold ixN
  rw [if_pos (by omega), if_pos (by omega)]
  congr 1
  omega
/-! shifts and masks in place -/
section
variable {X : Cx}
theorem ip_shr : PIp X .RShift (fun x y H Q => ∃ (i : Int) (k : Nat), x = .int i ∧ y = .int (k : Int) ∧ Q (.int (i / 2 ^ k)) H) := by
  intro pins s σ H x y v u Q I r1 r2 h
  obtain ⟨i, k, e1, e2, q⟩ := h
  subst e1; subst e2
  obtain ⟨t, rfl⟩ := r1
  obtain ⟨t', rfl⟩ := r2
  refine irshift_int (Int.natCast_nonneg k) ⟨.int _, H, I.tok _, ⟨_, rfl⟩, ?_⟩
  rw [Int.toNat_natCast, Int.fdiv_eq_ediv_of_nonneg _ (Int.le_of_lt (Int.pow_pos (by decide)))]
  exact q
theorem ip_or : PIp X .BitOr (fun x y H Q => ∃ (r a : Int) (k : Nat), x = .int r ∧ y = .int (a * 2 ^ k) ∧ (0 ≤ a ∧ 0 ≤ r ∧ r < 2 ^ k) ∧ Q (.int (r + a * 2 ^ k)) H) := by
  intro pins s σ H x y v u Q I r1 r2 h
  obtain ⟨r, a, k, e1, e2, ⟨h0, h1, h2⟩, q⟩ := h
  subst e1; subst e2
  obtain ⟨t, rfl⟩ := r1
  obtain ⟨t', rfl⟩ := r2
  refine ior_int ⟨.int _, H, I.tok _, ⟨_, rfl⟩, ?_⟩
  have e : Builtin.bitOr r (a * 2 ^ k) = r + a * 2 ^ k := by
    have hp : (0 : Int) ≤ a * 2 ^ k := Int.mul_nonneg h0 (Int.le_of_lt (Int.pow_pos (by decide)))
    rw [bitOr_nn h1 hp, Nat.or_comm, ← bitOr_nn hp h1, or_low h0 h1 h2, Int.add_comm]
  rw [e]
  exact q
end
theorem bits_small : ∀ n : Nat, n < 128 → Builtin.Int.intBits (n : Int) ≤ 8 := by decide +kernel
/-- isinstance(e, c) of the error that a suite holds, its class known by the reading -/
theorem call_isE1 {X : Cx} {a D : Addr} {oe : Obj} {cls : Value} {d : Option Addr} {pn : List (Addr × Obj)} (C : ExcC X.K D) (hz : Zc cls d oe) (hf : ∃ vs, oe.data = .fields vs) :
    CallR (X.suite a ((a, oe) :: pn)) (.builtin "isinstance") (fun xs H Q => cls = .ref D ∧ d = none ∧ rIsE X.K D a xs H Q) := fun pins s σ H xs us Q I r h => by
  obtain ⟨h1, h2, h⟩ := h
  subst h1
  subst h2
  exact call_isE C hz hf pins s σ H xs us Q I r h
/-! slices -/
theorem sIx_le {n d : Nat} {i : Nat} : HT.sIx n d (some (i : Int)) = min i n := HT.sIx_nat n d i
theorem cut0n (xs : List V) (j : Nat) : cutV xs none (some (j : Int)) = xs.take j := by
  unfold cutV
  rw [sIx_le, HT.sIx_none, List.drop_zero, Nat.sub_zero]
  exact (List.take_eq_take_min).symm
theorem cutnn (xs : List V) (i j : Nat) : cutV xs (some (i : Int)) (some (j : Int)) = (xs.drop i).take (j - i) := by
  unfold cutV
  rw [sIx_le, sIx_le]
  by_cases hi : i ≤ xs.length
  · rw [Nat.min_eq_left hi]
    by_cases hj : j ≤ xs.length
    · rw [Nat.min_eq_left hj]
    · rw [Nat.min_eq_right (by omega), List.take_of_length_le (by rw [List.length_drop]; omega), List.take_of_length_le (by rw [List.length_drop]; omega)]
  · have e : min i xs.length = xs.length := by omega
    rw [e, List.drop_of_length_le (Nat.le_refl _), List.drop_of_length_le (show xs.length ≤ i by omega), List.take_nil, List.take_nil]
theorem cut_ints (ns : List Int) {i j : Nat} {a b : Int} (ha : a = i) (hb : b = j) : cutV (ns.map V.int) (some a) (some b) = ((ns.drop i).take (j - i)).map V.int := by
  rw [ha, hb, cutnn, ← List.map_drop, ← List.map_take]
theorem rep_ints (ns : List Int) (k : Nat) : (List.replicate k (ns.map V.int)).flatten = (List.replicate k ns).flatten.map V.int := by
  rw [List.map_flatten, List.map_replicate]
/-- [e for x in a slice], e changes nothing -/
theorem lc_cut {K : PySem.W.Frag} {wi : TI} {te : TE} {s : Nat} {σ : L2.St} {H : Hp} {Q : VK} (xs : List V) (f : V → V)
    (hwi : ∀ R : It → Hp → Prop, (∀ p, H p = none → R (Itl K p) (upd H p (.lst xs))) → wi σ H R) (hlen : xs.length ≤ 90000)
    (hw : ∀ x, wipe ((wipe σ [s]).set s (some x)) [s] = wipe σ [s])
    (he : ∀ (i : Nat) (x : V) (G : Hp) (Q' : VK), xs[i]? = some x → Same H G → Q' (f x) G → te ((wipe σ [s]).set s (some x)) G Q')
    (k : ∀ D H', H D = none → Same H H' → H' D = some (.lst (xs.map f)) → Q (.ref D) H') : tLc wi (gName s) tYes te [s] σ H Q := by
  refine hwi _ fun p hp D hD => ?_
  have nD : D ≠ p := fun z => by rw [z, upd_same] at hD; cases hD
  have hD0 : H D = none := by rw [upd_ne nD] at hD; exact hD
  refine lc_list (K := K) (a := p) (xs := xs) (fun i H' => Same H H' ∧ H' p = some (.lst xs) ∧ H' D = some (.lst ((xs.take i).map f)))
    ⟨(same_upd hp).trans (same_upd hD), by rw [upd_ne nD.symm, upd_same], by rw [upd_same]; rfl⟩ (fun i H' _ h => sql h.2.1) (fun i x G hx hG => ?_) (fun G hG => ?_)
  · refine ⟨hw x, ?_⟩
    refine he i x G _ hx hG.1 ⟨_, hG.2.2, szl (by rw [List.length_map, List.length_take]; omega), same_put hG.1 hD0, by rw [upd_ne nD.symm]; exact hG.2.1, ?_⟩
    rw [upd_same, take_more hx, List.map_append]
    rfl
  · refine k D G hD0 hG.1 ?_
    rw [List.take_length] at hG
    exact hG.2.2
/-- lists of ints as data -/
theorem dpa_ints {K : PySem.W.Frag} {H : Hp} : ∀ ns : List Int, DpAll K H (ns.map V.int) (ns.map PyData.int)
  | [] => .nil
  | n :: ns => .cons (.int n) (dpa_ints ns)
theorem dp_ints {K : PySem.W.Frag} {H : Hp} {a : Addr} {ns : List Int} (h : SqL K H a (ns.map V.int)) : Dp K H (.ref a) (.list (ns.map PyData.int)) := .lst h (dpa_ints ns)
theorem flat_ints (ns : List Int) : Flat 1 (.list (ns.map PyData.int)) := flat_list (n := 0) fun d hd => by
  obtain ⟨i, _, rfl⟩ := List.mem_map.mp hd
  exact flat_int _ _
theorem flat_tints (ns : List Int) : Flat 1 (.tuple (ns.map PyData.int)) := flat_tup (n := 0) fun d hd => by
  obtain ⟨i, _, rfl⟩ := List.mem_map.mp hd
  exact flat_int _ _
theorem eqvAll_ints : ∀ xs ys : List Int, PyData.eqvAll (xs.map .int) (ys.map .int) = decide (xs = ys)
  | [], [] => rfl
  | [], _ :: _ => rfl
  | _ :: _, [] => rfl
  | x :: xs, y :: ys => by
    show ((x == y) && PyData.eqvAll (xs.map .int) (ys.map .int)) = _
    rw [eqvAll_ints xs ys, Bool.eq_iff_iff]
    simp
theorem eqv_ints (xs ys : List Int) : PyData.eqv (.list (xs.map .int)) (.list (ys.map .int)) = decide (xs = ys) := eqvAll_ints xs ys
theorem eqv_tints (xs ys : List Int) : PyData.eqv (.tuple (xs.map .int)) (.tuple (ys.map .int)) = decide (xs = ys) := eqvAll_ints xs ys
/-- a def with defaults that lets nothing out -/
theorem okD {P : Program} {w : World} {K : PySem.W.Frag} {mg : Str → Option Value} {base : Heap} {x qual : Str} {params : Arguments} {body : List Stmt} {scope : Scope} {dvs : List V} {kws : List (Str × V)} {f : Addr} {fd : FuncData} {N ps : List Str} {k : Nat} {sp : Sp}
    (F : FunD K x qual params body scope dvs kws f fd) (S : FnScope N ps scope) (len : ∀ vs H Q E, sp vs H Q E → vs.length = ps.length)
    (hb : ∀ (cdv : Value) (A : Around) (outer : List Env) (s : Shared) (H : Hp) (vs : List V) (Q : VK) (E : XK), Room k (A.deeper (envOfC qual scope s.heap.objs.size f cdv)) → sp vs H Q E →
      ∃ t, PSs (cxOf CX0 P w K mg base N qual scope f cdv A outer s H E).nox body t ∧ t { nx := fun _ H' => Q .non H', rt := Q } (start N vs) H) : FnOk P w K mg base CX0 (k + 1) f fd ps sp :=
  F.ok S len fun cdv A outer s H vs Q E hr h => by
    obtain ⟨t, h1, q⟩ := hb cdv A outer s H vs Q E hr h
    exact ⟨t, h1.nox, q⟩
/-! what an expression gives, whatever stands besides -/
def EI (te : TE) (σ : L2.St) (H : Hp) (v : V) : Prop := ∀ G, Same H G → ∀ Q : VK, Q v G → te σ G Q
def EA (ta : TA) (σ : L2.St) (H : Hp) (vs : List V) : Prop := ∀ G, Same H G → ∀ Q : List V → Hp → Prop, Q vs G → ta σ G Q
/-- a list, new or old -/
def EL (te : TE) (σ : L2.St) (H : Hp) (xs : List V) : Prop := ∀ G, Same H G → ∀ Q : VK, (∀ p G', Same G G' → G' p = some (.lst xs) → Q (.ref p) G') → te σ G Q
section
variable {K : PySem.W.Frag} {σ : L2.St} {H : Hp} {ta tb te : TE} {x y z v : V} {xs ys : List V}
theorem ei_var {i : Nat} (h : σ[i]? = some (some v)) : EI (tVar i) σ H v := fun _ _ _ q => ⟨v, h, q⟩
theorem ei_c : EI (tC v) σ H v := fun _ _ _ q => q
theorem ei_op {r : R2} (ha : EI ta σ H x) (hb : EI tb σ H y) (hr : ∀ G, Same H G → ∀ Q : VK, Q z G → r x y G Q) : EI (tOp r ta tb) σ H z := fun G s Q q => ha G s _ (hb G s _ (hr G s Q q))
theorem ei_i0 {g : Int → Int → V} {i j : Int} (ha : EI ta σ H (.int i)) (hb : EI tb σ H (.int j)) : EI (tOp (rI0 g) ta tb) σ H (g i j) := ei_op ha hb fun _ _ _ q => ⟨i, j, rfl, rfl, q⟩
theorem ei_ic {C : Int → Int → Prop} {g : Int → Int → V} {i j : Int} (ha : EI ta σ H (.int i)) (hb : EI tb σ H (.int j)) (hc : C i j) : EI (tOp (rI C g) ta tb) σ H (g i j) := ei_op ha hb fun _ _ _ q => ⟨i, j, rfl, rfl, hc, q⟩
theorem ea_nil : EA tNil σ H [] := fun _ _ _ q => q
theorem ea_cons {tr : TA} {vs : List V} (h : EI ta σ H x) (g : EA tr σ H vs) : EA (tCons ta tr) σ H (x :: vs) := fun G s _ q => h G s _ (g G s _ q)
theorem ei_cb {r : List V → Hp → VK → Prop} {tr : TA} {vs : List V} (ha : EA tr σ H vs) (hr : ∀ G, Same H G → ∀ Q : VK, Q z G → r vs G Q) : EI (tCB r tr) σ H z := fun G s Q q => ha G s _ (hr G s Q q)
/-- len of a list, list(..) of a list or a tuple, as they are read -/
def rLen (K : PySem.W.Frag) : List V → Hp → VK → Prop := fun xs H Q => ∃ p ys, xs = [.ref p] ∧ (SqL K H p ys ∨ SqT K H p ys) ∧ Q (.int ys.length) H
def rLst (K : PySem.W.Frag) : List V → Hp → VK → Prop := fun xs H Q => ∃ p ys, xs = [.ref p] ∧ (SqL K H p ys ∨ SqT K H p ys) ∧ ∀ l, H l = none → Q (.ref l) (upd H l (.lst ys))
def rTup (K : PySem.W.Frag) : List V → Hp → VK → Prop := fun xs H Q => ∃ p ys, xs = [.ref p] ∧ ((SqL K H p ys ∧ ∀ l, H l = none → Q (.ref l) (upd H l (.tup ys))) ∨ (SqT K H p ys ∧ Q (.ref p) H))
theorem callK_tuple {X : Cx} (h : X.K = K) : CallR X (.type "tuple") (rTup K) := by subst h; exact call_tuple_of
theorem callK_list {X : Cx} (h : X.K = K) : CallR X (.type "list") (rLst K) := by subst h; exact call_list_of
theorem opK_catA {X : Cx} (h : X.K = K) : OpR X (binaryOp .Add) (rCatA K) := by subst h; exact op_catA
theorem ixK_list {X : Cx} (h : X.K = K) : IxR X (rIxL K) := by subst h; exact ix_list
theorem ixK_tup {X : Cx} (h : X.K = K) : IxR X (rIxT K) := by subst h; exact ix_tup
theorem pe_fldK {X : Cx} {e : Expr} {f : Str} {pos : Pos} {ta : TE} (h : X.K = K) (he : PE X e ta) (hb : attributeBase e f X.env (eval e X.env) = eval e X.env) : PE X (.Attribute e f pos) (tFld K ta f) := by subst h; exact pe_fld he hb
theorem callK_len {X : Cx} (h : X.K = K) : CallR X (.builtin "len") (rLen K) := by subst h; exact call_len_seq
theorem ei_lenL {i : Nat} {p : Addr} (h : σ[i]? = some (some (.ref p))) (e : SqL K H p xs) : EI (tCB (rLen K) (tCons (tVar i) tNil)) σ H (.int (xs.length : Int)) := ei_cb (ea_cons (ei_var h) ea_nil) fun _ s _ q => ⟨p, xs, rfl, .inl (s.seq e), q⟩
theorem ei_lenT {i : Nat} {p : Addr} (h : σ[i]? = some (some (.ref p))) (e : SqT K H p xs) : EI (tCB (rLen K) (tCons (tVar i) tNil)) σ H (.int (xs.length : Int)) := ei_cb (ea_cons (ei_var h) ea_nil) fun _ s _ q => ⟨p, xs, rfl, .inr (sqt_same s e), q⟩
theorem ei_fld {i : Nat} {p C dx : Addr} {fs : List (Str × V)} {f : Str} (h : σ[i]? = some (some (.ref p))) (hp : H p = some (.ins C dx fs)) (c : Cls K C) (n : NoAttr K C f) (l : fs.lookup f = some v) : EI (tFld K (tVar i) f) σ H v := fun _ s _ q => ⟨.ref p, h, p, C, dx, fs, v, rfl, s _ _ hp, c, n, l, q⟩
theorem ei_din {td : TE} {d : Addr} {kvs : List (Key × V)} {k : Key} (hy : EI te σ H (kV k)) (hd : EI td σ H (.ref d)) (e : H d = some (.dK kvs)) : EI (tDIn te td) σ H (.bl (valV kvs k).isSome) := fun G s _ q => hy G s _ (hd G s _ ⟨d, _, rfl, DGet.k (s _ _ e), q⟩)
theorem ei_dnotin {td : TE} {d : Addr} {kvs : List (Key × V)} {k : Key} (hy : EI te σ H (kV k)) (hd : EI td σ H (.ref d)) (e : H d = some (.dK kvs)) : EI (tDNotIn te td) σ H (.bl (!(valV kvs k).isSome)) := fun G s _ q => hy G s _ (hd G s _ ⟨d, _, rfl, DGet.k (s _ _ e), q⟩)
theorem ei_dget {td : TE} {d : Addr} {kvs : List (Key × V)} {k : Key} (hy : EI te σ H (kV k)) (hd : EI td σ H (.ref d)) (e : H d = some (.dK kvs)) (hv : valV kvs k = some v) : EI (tDGet td te) σ H v := fun G s _ q => hd G s _ (hy G s _ ⟨d, v, rfl, by rw [← hv]; exact DGet.k (s _ _ e), q⟩)
theorem ei_ixL {p : Addr} {j : Int} (ha : EI ta σ H (.ref p)) (hi : EI tb σ H (.int j)) (e : SqL K H p xs) (h : atI xs j = some v) : EI (tOp (rIxL K) ta tb) σ H v := ei_op ha hi fun _ s _ q => ⟨p, xs, j, v, rfl, rfl, s.seq e, h, q⟩
theorem ei_ixT {p : Addr} {j : Int} (ha : EI ta σ H (.ref p)) (hi : EI tb σ H (.int j)) (e : SqT K H p xs) (h : atI xs j = some v) : EI (tOp (rIxT K) ta tb) σ H v := ei_op ha hi fun _ s _ q => ⟨p, xs, j, v, rfl, rfl, sqt_same s e, h, q⟩
theorem ei_eq (ha : EI ta σ H x) (hb : EI tb σ H y) (h : scal x y = true) : EI (tOp rEq ta tb) σ H (.bl (decide (x = y))) := ei_op ha hb fun _ _ _ q => ⟨h, q⟩
theorem ei_ne (ha : EI ta σ H x) (hb : EI tb σ H y) (h : scal x y = true) : EI (tOp rNe ta tb) σ H (.bl (!decide (x = y))) := ei_op ha hb fun _ _ _ q => ⟨h, q⟩
/-- a test by its value -/
theorem tt_use {b : Bool} {Q : Bool → Hp → Prop} (h : EI te σ H (.bl b)) (k : Q b H) : tTest te σ H Q := h H (Same.refl _) _ ⟨b, rfl, k⟩
theorem tb_use {b : Bool} {Q : Bool → Hp → Prop} (h : EI te σ H (.bl b)) (k : Q b H) : tB te σ H Q := h H (Same.refl _) _ ⟨b, rfl, k⟩
theorem el_var {i : Nat} {p : Addr} (h : σ[i]? = some (some (.ref p))) (e : H p = some (.lst xs)) : EL (tVar i) σ H xs := fun G s _ q => ⟨.ref p, h, q p G (Same.refl _) (s _ _ e)⟩
/-- a new list -/
def EN (te : TE) (σ : L2.St) (H : Hp) (xs : List V) : Prop := ∀ G, Same H G → ∀ Q : VK, (∀ p G', G p = none → Same G G' → G' p = some (.lst xs) → Q (.ref p) G') → te σ G Q
theorem EN.el (h : EN te σ H xs) : EL te σ H xs := fun G s Q q => h G s Q fun p G' _ => q p G'
theorem en_lst {tr : TA} {vs : List V} (ha : EA tr σ H vs) (hl : vs.length ≤ 90000) : EN (tLst tr) σ H vs := fun G s _ q => ha G s _ ⟨sz (by omega), fun p hp => q p _ hp (same_upd hp) upd_same⟩
theorem en_cat (ha : EL ta σ H xs) (hb : EL tb σ H ys) (hl : xs.length + ys.length ≤ 90000) : EN (tOp rCat ta tb) σ H (xs ++ ys) := fun G s _ q =>
  ha G s _ fun p G1 s1 e1 => hb G1 (s.trans s1) _ fun p2 G2 s2 e2 => ⟨p, p2, xs, ys, rfl, rfl, s2 _ _ e1, e2, sz (by omega), fun p3 h3 => q p3 _ ((s1.trans s2).free h3) ((s1.trans s2).trans (same_upd h3)) upd_same⟩
theorem en_rep {k : Int} (ha : EL ta σ H xs) (hb : EI tb σ H (.int k)) (h1 : -1000000 ≤ k) (h2 : k ≤ 1000000) (hl : xs.length * k.toNat ≤ 90000) : EN (tOp rRep ta tb) σ H (List.replicate k.toNat xs).flatten := fun G s _ q =>
  ha G s _ fun p G1 s1 e1 => hb G1 (s.trans s1) _ ⟨p, k, xs, rfl, rfl, e1, by omega, by omega, sz (by omega), fun p3 h3 => q p3 _ (s1.free h3) (s1.trans (same_upd h3)) upd_same⟩
theorem el_lst {tr : TA} {vs : List V} (ha : EA tr σ H vs) (hl : vs.length ≤ 90000) : EL (tLst tr) σ H vs := (en_lst ha hl).el
theorem el_cat (ha : EL ta σ H xs) (hb : EL tb σ H ys) (hl : xs.length + ys.length ≤ 90000) : EL (tOp rCat ta tb) σ H (xs ++ ys) := (en_cat ha hb hl).el
theorem el_rep {k : Int} (ha : EL ta σ H xs) (hb : EI tb σ H (.int k)) (h1 : -1000000 ≤ k) (h2 : k ≤ 1000000) (hl : xs.length * k.toNat ≤ 90000) : EL (tOp rRep ta tb) σ H (List.replicate k.toNat xs).flatten := (en_rep ha hb h1 h2 hl).el
theorem el_cb {r : List V → Hp → VK → Prop} {tr : TA} {vs : List V} (ha : EA tr σ H vs) (hr : ∀ G, Same H G → ∀ Q : VK, (∀ p G', Same G G' → G' p = some (.lst xs) → Q (.ref p) G') → r vs G Q) : EL (tCB r tr) σ H xs := fun G s Q q => ha G s _ (hr G s Q q)
theorem el_call {sp : Sp} {dvs : List V} {E : XK} {tr : TA} {vs : List V} (ha : EA tr σ H vs) (hr : ∀ G, Same H G → ∀ Q : VK, (∀ p G', Same G G' → G' p = some (.lst xs) → Q (.ref p) G') → sp (vs ++ dvs) G Q E) : EL (tCall sp dvs E tr) σ H xs := fun G s Q q => ha G s _ (hr G s Q q)
theorem el_listL {i : Nat} {p : Addr} (h : σ[i]? = some (some (.ref p))) (e : SqL K H p xs) : EL (tCB (rLst K) (tCons (tVar i) tNil)) σ H xs := el_cb (ea_cons (ei_var h) ea_nil) fun _ s _ q => ⟨p, xs, rfl, .inl (s.seq e), fun l hl => q l _ (same_upd hl) upd_same⟩
theorem el_listT {i : Nat} {p : Addr} (h : σ[i]? = some (some (.ref p))) (e : SqT K H p xs) : EL (tCB (rLst K) (tCons (tVar i) tNil)) σ H xs := el_cb (ea_cons (ei_var h) ea_nil) fun _ s _ q => ⟨p, xs, rfl, .inr (sqt_same s e), fun l hl => q l _ (same_upd hl) upd_same⟩
/-- x = an expression that gives a list -/
theorem EL.use {Q : VK} (h : EL te σ H xs) (k : ∀ p H', Same H H' → H' p = some (.lst xs) → Q (.ref p) H') : te σ H Q := h H (Same.refl _) Q k
theorem EN.use {Q : VK} (h : EN te σ H xs) (k : ∀ p H', H p = none → Same H H' → H' p = some (.lst xs) → Q (.ref p) H') : te σ H Q := h H (Same.refl _) Q k
theorem EI.use {Q : VK} (h : EI te σ H v) (k : Q v H) : te σ H Q := h H (Same.refl _) Q k
end
/-- defaults: what is bound where keywords give the rest -/
theorem kb_one {K : PySem.W.Frag} {x qual : Str} {params : Arguments} {body : List Stmt} {scope : Scope} {dvs : List V} {f : Addr} {fd : FuncData} {ps : List Str} (F : FunD K x qual params body scope dvs [] f fd) (n : Nat) (ks : List Str) (hd : dvs ≠ [])
    (h : ∀ (T : Addr) (kV doc pm : Value) (an : Option Addr) (cdv ct : Value) (us ws its : List Value), us.length = n → ws.length = ks.length → its.length = dvs.length →
      ∃ k, bindArgs (PySem.W.fnOf x qual params body scope (.ref T) kV doc pm an cdv ct) ⟨us, ks.zip ws⟩ = seqItems? (.ref T) >>= k ∧ k (some its.toArray) = pure (ps.zip (us ++ ws))) :
    KBn K fd ps n ks (fun us ws => us ++ ws) (fun vs zs => vs ++ zs) := by
  obtain ⟨oc, od, dV, kV, doc, pm, an, cdv, ct, osl, rfl, lk, hcd, hD, hK⟩ := F.ex
  rcases hD with ⟨e, _⟩ | ⟨_, T, o, its, m, rfl, lT, oT, rT⟩
  · exact absurd e hd
  · refine ⟨fun s us ws X h1 h2 => BindsTo.of_looks fun M => ?_, fun r1 r2 => r1.append r2⟩
    obtain ⟨k, e1, e2⟩ := h T kV doc pm an cdv ct us ws its h1 h2 rT.length.symm
    rw [e1]
    exact looks_items X lT oT (.of_pure e2)
theorem andV_use {ta tb : TE} {σ : L2.St} {H : Hp} {Q : VK} {x y : Bool} (h1 : EI ta σ H (.bl x)) (h2 : x = true → ∀ Q' : VK, (∀ H', Same H H' → Q' (.bl y) H') → tb σ H Q') (k : ∀ H', Same H H' → Q (.bl (x && y)) H') : tAndV ta tb σ H Q := by
  refine h1 H (Same.refl _) _ ⟨x, rfl, ?_⟩
  cases x with
  | true => exact (if_pos rfl).mpr (h2 rfl _ k)
  | false => exact (if_neg Bool.false_ne_true).mpr (k H (Same.refl _))
/-- what is locked and let go stands as it stood -/
theorem unlock {H H' : Hp} {d : Addr} {od : Obj} {u : HO} (e : H d = some u) (s : Same (upd H d (.frz od u)) H') : Same H (upd H' d u) := fun b o h => by
  by_cases hb : b = d
  · subst hb
    rw [upd_same, ← e]
    exact h
  · rw [upd_ne hb]
    exact s b o (by rw [upd_ne hb]; exact h)
theorem take_filter {α : Type} {l : List α} {i : Nat} {x : α} (f : α → Bool) (h : l[i]? = some x) : (l.take (i + 1)).filter f = (l.take i).filter f ++ if f x then [x] else [] := by
  rw [take_more h, List.filter_append]
  cases e : f x <;> simp [e]
/-- [e for k in d if t] over the keys of a dict, t and e change nothing -/
theorem lc_keys {td te : TE} {tt : TT} {s : Nat} {σ : L2.St} {H : Hp} {Q : VK} (d : Addr) (kvs : List (Key × V)) (f : Key → Bool) (g : Key → V) (e : H d = some (.dK kvs)) (hlen : kvs.length ≤ 90000)
    (htd : ∀ od, EI td σ (upd H d (.frz od (.dK kvs))) (.ref d))
    (hw : ∀ x, wipe ((wipe σ [s]).set s (some x)) [s] = wipe σ [s])
    (ht : ∀ (od : Obj) (i : Nat) (k : Key) (v : V) (G : Hp) (Q' : Bool → Hp → Prop), kvs[i]? = some (k, v) → Same (upd H d (.frz od (.dK kvs))) G → Q' (f k) G → tt ((wipe σ [s]).set s (some (kV k))) G Q')
    (he : ∀ (od : Obj) (i : Nat) (k : Key) (v : V) (G : Hp) (Q' : VK), kvs[i]? = some (k, v) → Same (upd H d (.frz od (.dK kvs))) G → Q' (g k) G → te ((wipe σ [s]).set s (some (kV k))) G Q')
    (k : ∀ D H', H D = none → Same H H' → H' D = some (.lst ((kvs.filter fun kv => f kv.1).map fun kv => g kv.1)) → Q (.ref D) H') : tLockE (tLc (iKeys td) (gName s) tt te [s]) σ H Q := by
  refine ⟨d, _, e, trivial, fun od => htd od _ (Same.refl _) _ ⟨d, od, rfl, .inl ⟨kvs, upd_same, fun D hD => ?_⟩⟩⟩
  have nD : D ≠ d := fun z => by rw [z, upd_same] at hD; cases hD
  have hD0 : H D = none := by rw [upd_ne nD] at hD; exact hD
  refine lc_it walk_keys (fun i G => Same (upd H d (.frz od (.dK kvs))) G ∧ G D = some (.lst (((kvs.take i).filter fun kv => f kv.1).map fun kv => g kv.1)))
    ⟨same_upd hD, upd_same⟩ (fun i G _ h => h.1 _ _ upd_same) (fun i x G G' hi hG hy => ?_) (fun G hG => ?_)
  · obtain ⟨rfl, key, v, hkv, rfl⟩ := hy
    have hfl : ((kvs.take i).filter fun kv => f kv.1).length ≤ 90000 := Nat.le_trans (List.length_filter_le _ _) (by rw [List.length_take]; omega)
    refine ⟨hw _, ht od i key v _ _ hkv hG.1 ?_⟩
    have hts := take_filter (fun kv : Key × V => f kv.1) hkv
    cases hf : f key with
    | true =>
      refine (if_pos rfl).mpr (he od i key v _ _ hkv hG.1 ⟨_, hG.2, szl (by rw [List.length_map]; omega), same_put hG.1 hD, ?_⟩)
      rw [upd_same, hts, List.map_append]
      simp only [hf, if_true]
      rfl
    | false =>
      refine (if_neg Bool.false_ne_true).mpr ⟨hG.1, ?_⟩
      rw [hts]
      simp only [hf, Bool.false_eq_true, if_false, List.append_nil]
      exact hG.2
  · rw [List.take_length] at hG
    refine ⟨hG.1 _ _ upd_same, k D _ hD0 (unlock e hG.1) ?_⟩
    rw [upd_ne nD]
    exact hG.2
theorem put_fresh {kvs : List (Key × V)} {k : Key} {v : V} (h : ∀ kv ∈ kvs, kv.1 ≠ k) : putK kvs k v = kvs ++ [(k, v)] := by
  unfold putK
  rw [if_neg]
  intro z
  obtain ⟨kv, hm, hk⟩ := List.any_eq_true.mp z
  exact h kv hm (of_decide_eq_true hk)
theorem nd_ne {α β : Type} {l : List (α × β)} {i : Nat} {x : α × β} (nd : (l.map (·.1)).Nodup) (h : l[i]? = some x) : ∀ y ∈ l.take i, y.1 ≠ x.1 := fun y hy z => by
  obtain ⟨j, hj, rfl⟩ := List.getElem_of_mem hy
  rw [List.length_take] at hj
  rw [List.getElem_take] at z
  obtain ⟨hi, rfl⟩ := List.getElem?_eq_some_iff.mp h
  have e1 : (l.map (·.1))[j]? = some l[i].1 := by rw [List.getElem?_map, List.getElem?_eq_getElem (by omega), ← z]; rfl
  have e2 : (l.map (·.1))[i]? = some l[i].1 := by rw [List.getElem?_map, List.getElem?_eq_getElem hi]; rfl
  have := nd_ix nd e1 e2
  omega
/-- {k: e for k in d if t} over the keys of a dict -/
theorem dc_keys {td tv : TE} {tt : TT} {s : Nat} {σ : L2.St} {H : Hp} {Q : VK} (d : Addr) (kvs : List (Key × V)) (f : Key → Bool) (g : Key × V → V) (e : H d = some (.dK kvs)) (hlen : kvs.length ≤ 90000) (nd : (kvs.map (·.1)).Nodup)
    (htd : ∀ od, EI td σ (upd H d (.frz od (.dK kvs))) (.ref d))
    (hw : ∀ x, wipe ((wipe σ [s]).set s (some x)) [s] = wipe σ [s])
    (ht : ∀ (od : Obj) (i : Nat) (k : Key) (v : V) (G : Hp) (Q' : Bool → Hp → Prop), kvs[i]? = some (k, v) → Same (upd H d (.frz od (.dK kvs))) G → Q' (f k) G → tt ((wipe σ [s]).set s (some (kV k))) G Q')
    (he : ∀ (od : Obj) (i : Nat) (k : Key) (v : V) (G : Hp) (Q' : VK), kvs[i]? = some (k, v) → f k = true → Same (upd H d (.frz od (.dK kvs))) G → Q' (g (k, v)) G → tv ((wipe σ [s]).set s (some (kV k))) G Q')
    (hn : ∀ i, (wipe σ [s]).length = i → s < i)
    (k : ∀ D H', H D = none → Same H H' → H' D = some (.dK ((kvs.filter fun kv => f kv.1).map fun kv => (kv.1, g kv))) → Q (.ref D) H') : tLockE (tDc (iKeys td) (gName s) tt (tVar s) tv [s]) σ H Q := by
  have hs : s < (wipe σ [s]).length := hn _ rfl
  refine ⟨d, _, e, trivial, fun od => htd od _ (Same.refl _) _ ⟨d, od, rfl, .inl ⟨kvs, upd_same, fun D hD => ?_⟩⟩⟩
  have nD : D ≠ d := fun z => by rw [z, upd_same] at hD; cases hD
  have hD0 : H D = none := by rw [upd_ne nD] at hD; exact hD
  let Pv : Nat → Hp → Prop := fun i G => Same (upd H d (.frz od (.dK kvs))) G ∧ G D = some (.dK (((kvs.take i).filter fun kv => f kv.1).map fun kv => (kv.1, g kv)))
  have step : ∀ i x G G', i < kvs.length → Pv i G → (G' = G ∧ ∃ k v, kvs[i]? = some (k, v) ∧ x = kV k) → gName s x (wipe σ [s]) G' fun σ2 H2 => wipe σ2 [s] = wipe σ [s] ∧ tt σ2 H2 fun b H3 =>
      if b = true then tVar s σ2 H3 fun y H4 => tv σ2 H4 fun z H5 => ∃ kvs' k', y = kV k' ∧ H5 D = some (.dK kvs') ∧ kvs'.length < sizeLine ∧ Pv (i + 1) (upd H5 D (.dK (putK kvs' k' z))) else Pv (i + 1) H3 := fun i x G G' hi hG hy => by
    obtain ⟨rfl, key, v, hkv, rfl⟩ := hy
    have hfl : ((kvs.take i).filter fun kv => f kv.1).length ≤ 90000 := Nat.le_trans (List.length_filter_le _ _) (by rw [List.length_take]; omega)
    refine ⟨hw _, ht od i key v _ _ hkv hG.1 ?_⟩
    have hts := take_filter (fun kv : Key × V => f kv.1) hkv
    cases hf : f key with
    | true =>
      refine (if_pos rfl).mpr ⟨kV key, by rw [List.getElem?_set_self hs], he od i key v _ _ hkv hf hG.1 ⟨_, key, rfl, hG.2, szl (by rw [List.length_map]; omega), same_put hG.1 hD, ?_⟩⟩
      rw [upd_same, hts, List.map_append, put_fresh]
      · simp only [hf, if_true]
        rfl
      · intro kv hm
        obtain ⟨y, hy, rfl⟩ := List.mem_map.mp hm
        exact nd_ne nd hkv y (List.mem_filter.mp hy).1
    | false =>
      refine (if_neg Bool.false_ne_true).mpr ⟨hG.1, ?_⟩
      rw [hts]
      simp only [hf, Bool.false_eq_true, if_false, List.append_nil]
      exact hG.2
  refine ⟨fun i m G => m = kvs.length - i ∧ i ≤ kvs.length ∧ Pv i G, ⟨kvs.length, by simp, Nat.zero_le _, same_upd hD, upd_same⟩, ?_⟩
  rintro i m G ⟨rfl, hi, hP⟩
  by_cases hlt : i < kvs.length
  · exact .inr ⟨⟨hP.1 _ _ upd_same, hlt⟩, Pv (i + 1), fun G' p' => ⟨kvs.length - (i + 1), by omega, rfl, hlt, p'⟩, fun x G' y => step i x G G' hlt hP y⟩
  · have ei : i = kvs.length := by omega
    subst ei
    obtain ⟨h1, h2⟩ := hP
    rw [List.take_length] at h2
    refine .inl ⟨⟨h1 _ _ upd_same, Nat.le_refl _⟩, h1 _ _ upd_same, k D _ hD0 (unlock e h1) ?_⟩
    rw [upd_ne nD]
    exact h2
/-! the same within a comprehension -/
section
variable {K : PySem.W.Frag} {X : Cx} {pos : Pos}
theorem pgK_tup {es : List Expr} {k : Nat} {t : TGs} {n : Nat} (hK : X.K = K) (hc : X.calm = true) (h : PGs X es t)
    (hn : (assignEach es X.env).length = n := by rfl) (hst : (assignEach es X.env).findIdx? (·.1) = none := by rfl) : PG X (.Tuple es k pos) (gTup K n t) := by subst hK; exact pg_tup hc h hn hst
theorem opK_in (h : X.K = K) : OpR X (compareOp .In) (rIn K false) := by subst h; exact op_in_seq
theorem opK_notIn (h : X.K = K) : OpR X (compareOp .NotIn) (rIn K true) := by subst h; exact op_notIn_seq
theorem opK_eqD (h : X.K = K) (hu : X.A.units + 64 < cLine) : OpR X (compareOp .Eq) (rEqD K) := by subst h; exact op_eqD hu
theorem opK_neD (h : X.K = K) (hu : X.A.units + 64 < cLine) : OpR X (compareOp .NotEq) (rNeD K) := by subst h; exact op_neD hu
theorem callK_isi (h : X.K = K) : CallR X (.builtin "isinstance") (rIsi K) := by subst h; exact call_isi
theorem slK_tup (h : X.K = K) : SlR X (rSlT K) := by subst h; exact sl_tup
end
end My
local macro_rules | `(tactic| walk_at "go") => `(tactic| try dsimp only [L2.gName, L2.tSeq, L2.tAsg, L2.tNext, L2.tDrop])
namespace My
open PySem PySem.Spec PyProof.Rows L2
def topS (i : Nat) : Stmt := PySem.Challenge.pw_majordomo_k46_caller_one_at_a_time.main.body.getD i (.Pass ⟨0, 0, 0, 0⟩)
abbrev s_Rota___init__ : Stmt := (inClass (topS 5) 0)
theorem sc_Rota___init__ : FnScope ["self", "names"] ["self", "names"] (defScope s_Rota___init__) := ⟨rfl, rfl, rfl, by decide +kernel, rfl, by decide +kernel, by decide +kernel⟩
abbrev s_Rota_take_turn : Stmt := (inClass (topS 5) 1)
theorem sc_Rota_take_turn : FnScope ["self", "name"] ["self"] (defScope s_Rota_take_turn) := ⟨rfl, rfl, rfl, by decide +kernel, rfl, by decide +kernel, by decide +kernel⟩
abbrev s_Caller___init__ : Stmt := (inClass (topS 7) 0)
theorem sc_Caller___init__ : FnScope ["self", "origin", "fronts", "patience"] ["self", "origin", "fronts", "patience"] (defScope s_Caller___init__) := ⟨rfl, rfl, rfl, by decide +kernel, rfl, by decide +kernel, by decide +kernel⟩
abbrev s_Caller_busy : Stmt := (inClass (topS 7) 1)
theorem sc_Caller_busy : FnScope ["self"] ["self"] (defScope s_Caller_busy) := ⟨rfl, rfl, rfl, by decide +kernel, rfl, by decide +kernel, by decide +kernel⟩
abbrev s_Caller_ask : Stmt := (inClass (topS 7) 2)
theorem sc_Caller_ask : FnScope ["self", "transaction"] ["self", "transaction"] (defScope s_Caller_ask) := ⟨rfl, rfl, rfl, by decide +kernel, rfl, by decide +kernel, by decide +kernel⟩
abbrev s_Caller_tick : Stmt := (inClass (topS 7) 3)
theorem sc_Caller_tick : FnScope ["self"] ["self"] (defScope s_Caller_tick) := ⟨rfl, rfl, rfl, by decide +kernel, rfl, by decide +kernel, by decide +kernel⟩
abbrev s_Caller_hear : Stmt := (inClass (topS 7) 4)
theorem sc_Caller_hear : FnScope ["self", "letter", "origin", "number", "answer"] ["self", "letter"] (defScope s_Caller_hear) := ⟨rfl, rfl, rfl, by decide +kernel, rfl, by decide +kernel, by decide +kernel⟩
abbrev s_Caller__send : Stmt := (inClass (topS 7) 5)
theorem sc_Caller__send : FnScope ["self"] ["self"] (defScope s_Caller__send) := ⟨rfl, rfl, rfl, by decide +kernel, rfl, by decide +kernel, by decide +kernel⟩
abbrev s__law_mix : Stmt := (topS 9)
theorem sc__law_mix : FnScope ["cell", "k", "low"] ["cell", "k"] (defScope s__law_mix) := ⟨rfl, rfl, rfl, by decide +kernel, rfl, by decide +kernel, by decide +kernel⟩
abbrev s__law_row : Stmt := (topS 10)
theorem sc__law_row : FnScope ["script", "most", "row", "k", "rest", "j"] ["script", "most"] (defScope s__law_row) := ⟨rfl, rfl, rfl, by decide +kernel, rfl, by decide +kernel, by decide +kernel⟩
abbrev s__law_transaction : Stmt := (topS 11)
theorem sc__law_transaction : FnScope ["number"] ["number"] (defScope s__law_transaction) := ⟨rfl, rfl, rfl, by decide +kernel, rfl, by decide +kernel, by decide +kernel⟩
abbrev s__law_fronts : Stmt := (topS 12)
theorem sc__law_fronts : FnScope ["number", "names", "k"] ["number"] (defScope s__law_fronts) := ⟨rfl, rfl, rfl, by decide +kernel, rfl, by decide +kernel, by decide +kernel⟩
abbrev s__law_sent : Stmt := (topS 13)
theorem sc__law_sent : FnScope ["state", "fronts", "origin", "command"] ["state", "fronts", "origin"] (defScope s__law_sent) := ⟨rfl, rfl, rfl, by decide +kernel, rfl, by decide +kernel, by decide +kernel⟩
abbrev s__law_tick : Stmt := (topS 14)
theorem sc__law_tick : FnScope ["state", "fronts", "origin", "patience"] ["state", "fronts", "origin", "patience"] (defScope s__law_tick) := ⟨rfl, rfl, rfl, by decide +kernel, rfl, by decide +kernel, by decide +kernel⟩
abbrev s__law_ask : Stmt := (topS 15)
theorem sc__law_ask : FnScope ["caller", "state", "fronts", "origin", "number", "asked", "e", "told"] ["caller", "state", "fronts", "origin", "number"] (defScope s__law_ask) := ⟨rfl, rfl, rfl, by decide +kernel, rfl, by decide +kernel, by decide +kernel⟩
abbrev s__law_letter : Stmt := (topS 16)
theorem sc__law_letter : FnScope ["state", "origin", "number", "answer", "kind"] ["state", "origin", "number"] (defScope s__law_letter) := ⟨rfl, rfl, rfl, by decide +kernel, rfl, by decide +kernel, by decide +kernel⟩
abbrev s__law_hear : Stmt := (topS 17)
theorem sc__law_hear : FnScope ["caller", "state", "letter", "origin", "due"] ["caller", "state", "letter", "origin"] (defScope s__law_hear) := ⟨rfl, rfl, rfl, by decide +kernel, rfl, by decide +kernel, by decide +kernel⟩
abbrev s__law_deed : Stmt := (topS 18)
theorem sc__law_deed : FnScope ["caller", "state", "fronts", "origin", "patience", "number", "deed", "told"] ["caller", "state", "fronts", "origin", "patience", "number"] (defScope s__law_deed) := ⟨rfl, rfl, rfl, by decide +kernel, rfl, by decide +kernel, by decide +kernel⟩
abbrev s__law_same : Stmt := (topS 19)
theorem sc__law_same : FnScope ["caller", "state", "fronts", "origin"] ["caller", "state", "fronts", "origin"] (defScope s__law_same) := ⟨rfl, rfl, rfl, by decide +kernel, rfl, by decide +kernel, by decide +kernel⟩
abbrev s_law : Stmt := (topS 20)
theorem sc_law : FnScope ["script", "first", "fronts", "origin", "patience", "caller", "state", "number"] ["script"] (defScope s_law) := ⟨rfl, rfl, rfl, by decide +kernel, rfl, by decide +kernel, by decide +kernel⟩

structure TX (K : PySem.W.Frag) (mg : Str → Option Value) where
  a_MajordomoError : Addr
  g_MajordomoError : mg "MajordomoError" = some (.ref a_MajordomoError)
  x_MajordomoError : PySem.W.excIn K a_MajordomoError [.type "ValueError", .type "Exception", .type "BaseException", .type "object"] "ValueError.__new__" = true
  k_MajordomoError : PySem.W.keepIn K (.ref a_MajordomoError) = true
  s_MajordomoError : PySem.W.subIn K (.ref a_MajordomoError) (.type "BaseException") = some true
  t_MajordomoError : PySem.W.typeIn K (.ref a_MajordomoError) = some (.type "type")
  a_CallerError : Addr
  g_CallerError : mg "CallerError" = some (.ref a_CallerError)
  x_CallerError : PySem.W.excIn K a_CallerError [.type "ValueError", .type "Exception", .type "BaseException", .type "object"] "ValueError.__new__" = true
  k_CallerError : PySem.W.keepIn K (.ref a_CallerError) = true
  s_CallerError : PySem.W.subIn K (.ref a_CallerError) (.type "BaseException") = some true
  t_CallerError : PySem.W.typeIn K (.ref a_CallerError) = some (.type "type")
  a_Busy : Addr
  g_Busy : mg "Busy" = some (.ref a_Busy)
  x_Busy : PySem.W.excIn K a_Busy [.type "ValueError", .type "Exception", .type "BaseException", .type "object"] "ValueError.__new__" = true
  k_Busy : PySem.W.keepIn K (.ref a_Busy) = true
  s_Busy : PySem.W.subIn K (.ref a_Busy) (.type "BaseException") = some true
  t_Busy : PySem.W.typeIn K (.ref a_Busy) = some (.type "type")
  ee_Busy : PySem.W.exmOne K (.ref a_Busy) (.ref a_Busy) = some true
  a_Rota : Addr
  a_Caller : Addr
  X_Busy : ExcC K a_Busy
  y_Busy_MajordomoError : PySem.W.kitOne K (.ref a_Busy) (.ref a_MajordomoError) = some true
  a_Rota___init__ : Addr
  d_Rota___init__ : FuncData
  F_Rota___init__ : Fun K "__init__" "Rota.__init__" s_Rota___init__ a_Rota___init__ d_Rota___init__
  b_Rota___init__ : Binds K d_Rota___init__ ["self", "names"] []
  a_Rota_take_turn : Addr
  d_Rota_take_turn : FuncData
  F_Rota_take_turn : Fun K "take_turn" "Rota.take_turn" s_Rota_take_turn a_Rota_take_turn d_Rota_take_turn
  b_Rota_take_turn : Binds K d_Rota_take_turn ["self"] []
  m_Rota_take_turn : Meth K a_Rota "take_turn" a_Rota_take_turn
  a_Caller___init__ : Addr
  d_Caller___init__ : FuncData
  FD_Caller___init__ : FunD K "__init__" "Caller.__init__" (defArgs s_Caller___init__) (defBody s_Caller___init__) (defScope s_Caller___init__) [] [("patience", .int 4)] a_Caller___init__ d_Caller___init__
  bD_Caller___init__ : ∃ ds, Vals (([.int 4] : List V)) ds ∧ Binds K d_Caller___init__ ["self", "origin", "fronts", "patience"] ds
  kb_Caller___init__ : ∃ mv : List Value, KBn K d_Caller___init__ ["self", "origin", "fronts", "patience"] 3 ["patience"] (fun us ws => us ++ (mv ++ ws)) (fun vs zs => vs ++ ([] ++ zs))
  a_Caller_busy : Addr
  d_Caller_busy : FuncData
  pp_Caller_busy : Addr
  pr_Caller_busy : PropOf K a_Caller "busy" pp_Caller_busy a_Caller_busy
  F_Caller_busy : Fun K "busy" "Caller.busy" s_Caller_busy a_Caller_busy d_Caller_busy
  b_Caller_busy : Binds K d_Caller_busy ["self"] []
  a_Caller_ask : Addr
  d_Caller_ask : FuncData
  F_Caller_ask : Fun K "ask" "Caller.ask" s_Caller_ask a_Caller_ask d_Caller_ask
  b_Caller_ask : Binds K d_Caller_ask ["self", "transaction"] []
  m_Caller_ask : Meth K a_Caller "ask" a_Caller_ask
  a_Caller_tick : Addr
  d_Caller_tick : FuncData
  F_Caller_tick : Fun K "tick" "Caller.tick" s_Caller_tick a_Caller_tick d_Caller_tick
  b_Caller_tick : Binds K d_Caller_tick ["self"] []
  m_Caller_tick : Meth K a_Caller "tick" a_Caller_tick
  a_Caller_hear : Addr
  d_Caller_hear : FuncData
  F_Caller_hear : Fun K "hear" "Caller.hear" s_Caller_hear a_Caller_hear d_Caller_hear
  b_Caller_hear : Binds K d_Caller_hear ["self", "letter"] []
  m_Caller_hear : Meth K a_Caller "hear" a_Caller_hear
  a_Caller__send : Addr
  d_Caller__send : FuncData
  F_Caller__send : Fun K "_send" "Caller._send" s_Caller__send a_Caller__send d_Caller__send
  b_Caller__send : Binds K d_Caller__send ["self"] []
  m_Caller__send : Meth K a_Caller "_send" a_Caller__send
  a__law_mix : Addr
  d__law_mix : FuncData
  F__law_mix : Fun K "_law_mix" "_law_mix" s__law_mix a__law_mix d__law_mix
  b__law_mix : Binds K d__law_mix ["cell", "k"] []
  g__law_mix : mg "_law_mix" = some (.ref a__law_mix)
  a__law_row : Addr
  d__law_row : FuncData
  F__law_row : Fun K "_law_row" "_law_row" s__law_row a__law_row d__law_row
  b__law_row : Binds K d__law_row ["script", "most"] []
  g__law_row : mg "_law_row" = some (.ref a__law_row)
  a__law_transaction : Addr
  d__law_transaction : FuncData
  F__law_transaction : Fun K "_law_transaction" "_law_transaction" s__law_transaction a__law_transaction d__law_transaction
  b__law_transaction : Binds K d__law_transaction ["number"] []
  g__law_transaction : mg "_law_transaction" = some (.ref a__law_transaction)
  a__law_fronts : Addr
  d__law_fronts : FuncData
  F__law_fronts : Fun K "_law_fronts" "_law_fronts" s__law_fronts a__law_fronts d__law_fronts
  b__law_fronts : Binds K d__law_fronts ["number"] []
  g__law_fronts : mg "_law_fronts" = some (.ref a__law_fronts)
  a__law_sent : Addr
  d__law_sent : FuncData
  F__law_sent : Fun K "_law_sent" "_law_sent" s__law_sent a__law_sent d__law_sent
  b__law_sent : Binds K d__law_sent ["state", "fronts", "origin"] []
  g__law_sent : mg "_law_sent" = some (.ref a__law_sent)
  a__law_tick : Addr
  d__law_tick : FuncData
  F__law_tick : Fun K "_law_tick" "_law_tick" s__law_tick a__law_tick d__law_tick
  b__law_tick : Binds K d__law_tick ["state", "fronts", "origin", "patience"] []
  g__law_tick : mg "_law_tick" = some (.ref a__law_tick)
  a__law_ask : Addr
  d__law_ask : FuncData
  F__law_ask : Fun K "_law_ask" "_law_ask" s__law_ask a__law_ask d__law_ask
  b__law_ask : Binds K d__law_ask ["caller", "state", "fronts", "origin", "number"] []
  g__law_ask : mg "_law_ask" = some (.ref a__law_ask)
  a__law_letter : Addr
  d__law_letter : FuncData
  F__law_letter : Fun K "_law_letter" "_law_letter" s__law_letter a__law_letter d__law_letter
  b__law_letter : Binds K d__law_letter ["state", "origin", "number"] []
  g__law_letter : mg "_law_letter" = some (.ref a__law_letter)
  a__law_hear : Addr
  d__law_hear : FuncData
  F__law_hear : Fun K "_law_hear" "_law_hear" s__law_hear a__law_hear d__law_hear
  b__law_hear : Binds K d__law_hear ["caller", "state", "letter", "origin"] []
  g__law_hear : mg "_law_hear" = some (.ref a__law_hear)
  a__law_deed : Addr
  d__law_deed : FuncData
  F__law_deed : Fun K "_law_deed" "_law_deed" s__law_deed a__law_deed d__law_deed
  b__law_deed : Binds K d__law_deed ["caller", "state", "fronts", "origin", "patience", "number"] []
  g__law_deed : mg "_law_deed" = some (.ref a__law_deed)
  a__law_same : Addr
  d__law_same : FuncData
  F__law_same : Fun K "_law_same" "_law_same" s__law_same a__law_same d__law_same
  b__law_same : Binds K d__law_same ["caller", "state", "fronts", "origin"] []
  g__law_same : mg "_law_same" = some (.ref a__law_same)
  a_law : Addr
  d_law : FuncData
  F_law : Fun K "law" "law" s_law a_law d_law
  b_law : Binds K d_law ["script"] []
  g_law : mg "law" = some (.ref a_law)
  K_Rota : Cls K a_Rota
  g_Rota : mg "Rota" = some (.ref a_Rota)
  M_Rota : Mk K a_Rota a_Rota___init__
  na_Rota__names : NoAttr K a_Rota "_names"
  na_Rota__turn : NoAttr K a_Rota "_turn"
  K_Caller : Cls K a_Caller
  g_Caller : mg "Caller" = some (.ref a_Caller)
  M_Caller : Mk K a_Caller a_Caller___init__
  na_Caller_origin : NoAttr K a_Caller "origin"
  na_Caller_number : NoAttr K a_Caller "number"
  na_Caller_age : NoAttr K a_Caller "age"
  na_Caller__rota : NoAttr K a_Caller "_rota"
  na_Caller_front : NoAttr K a_Caller "front"
  na_Caller__patience : NoAttr K a_Caller "_patience"
  na_Caller__waited : NoAttr K a_Caller "_waited"
  na_Caller__command : NoAttr K a_Caller "_command"
  n_tuple : mg "tuple" = none
  n_len : mg "len" = none
  n_int : mg "int" = none
  n_str : mg "str" = none
  n_isinstance : mg "isinstance" = none
  n_list : mg "list" = none
  n_bool : mg "bool" = none
  n_range : mg "range" = none
  n_min : mg "min" = none

theorem ne_Rota__names__turn : (Str.ofString "_names" == Str.ofString "_turn") = false := by decide +kernel
theorem ne_Rota__names__turn_p : ¬ (Str.ofString "_names" = Str.ofString "_turn") := by decide +kernel
theorem ne_Rota__turn__names : (Str.ofString "_turn" == Str.ofString "_names") = false := by decide +kernel
theorem ne_Rota__turn__names_p : ¬ (Str.ofString "_turn" = Str.ofString "_names") := by decide +kernel
theorem ne_Rota_take_turn__names : (Str.ofString "take_turn" == Str.ofString "_names") = false := by decide +kernel
theorem ne_Rota_take_turn__names_p : ¬ (Str.ofString "take_turn" = Str.ofString "_names") := by decide +kernel
theorem ne_Rota_take_turn__turn : (Str.ofString "take_turn" == Str.ofString "_turn") = false := by decide +kernel
theorem ne_Rota_take_turn__turn_p : ¬ (Str.ofString "take_turn" = Str.ofString "_turn") := by decide +kernel
/-- the attributes of a Rota, in the order in which they are stored -/
def fl_Rota (v0 v1 : V) : List (Str × V) := [("_names", v0), ("_turn", v1)]
theorem fl_Rota__names {v0 v1 : V} : (fl_Rota v0 v1).lookup ("_names" : Str) = some v0 := by unfold fl_Rota; simp [List.lookup, ne_Rota__names__turn, ne_Rota__turn__names, ne_Rota_take_turn__names, ne_Rota_take_turn__turn, ne_Rota__names__turn_p, ne_Rota__turn__names_p, ne_Rota_take_turn__names_p, ne_Rota_take_turn__turn_p]
theorem pf_Rota__names {v0 v1 x : V} : putF ("_names" : Str) x (fl_Rota v0 v1) = fl_Rota x v1 := by unfold fl_Rota; simp [putF, ne_Rota__names__turn, ne_Rota__turn__names, ne_Rota_take_turn__names, ne_Rota_take_turn__turn, ne_Rota__names__turn_p, ne_Rota__turn__names_p, ne_Rota_take_turn__names_p, ne_Rota_take_turn__turn_p]
theorem fl_Rota__turn {v0 v1 : V} : (fl_Rota v0 v1).lookup ("_turn" : Str) = some v1 := by unfold fl_Rota; simp [List.lookup, ne_Rota__names__turn, ne_Rota__turn__names, ne_Rota_take_turn__names, ne_Rota_take_turn__turn, ne_Rota__names__turn_p, ne_Rota__turn__names_p, ne_Rota_take_turn__names_p, ne_Rota_take_turn__turn_p]
theorem pf_Rota__turn {v0 v1 x : V} : putF ("_turn" : Str) x (fl_Rota v0 v1) = fl_Rota v0 x := by unfold fl_Rota; simp [putF, ne_Rota__names__turn, ne_Rota__turn__names, ne_Rota_take_turn__names, ne_Rota_take_turn__turn, ne_Rota__names__turn_p, ne_Rota__turn__names_p, ne_Rota_take_turn__names_p, ne_Rota_take_turn__turn_p]
theorem fl_Rota_no_take_turn {v0 v1 : V} : (fl_Rota v0 v1).lookup ("take_turn" : Str) = none := by unfold fl_Rota; simp [List.lookup, ne_Rota__names__turn, ne_Rota__turn__names, ne_Rota_take_turn__names, ne_Rota_take_turn__turn, ne_Rota__names__turn_p, ne_Rota__turn__names_p, ne_Rota_take_turn__names_p, ne_Rota_take_turn__turn_p]
theorem fl_Rota_new {v0 v1 : V} : putF ("_turn" : Str) v1 (putF ("_names" : Str) v0 ([])) = fl_Rota v0 v1 := by unfold fl_Rota; simp [putF, ne_Rota__names__turn, ne_Rota__turn__names, ne_Rota_take_turn__names, ne_Rota_take_turn__turn, ne_Rota__names__turn_p, ne_Rota__turn__names_p, ne_Rota_take_turn__names_p, ne_Rota_take_turn__turn_p]
theorem ne_Caller_origin_number : (Str.ofString "origin" == Str.ofString "number") = false := by decide +kernel
theorem ne_Caller_origin_number_p : ¬ (Str.ofString "origin" = Str.ofString "number") := by decide +kernel
theorem ne_Caller_origin_age : (Str.ofString "origin" == Str.ofString "age") = false := by decide +kernel
theorem ne_Caller_origin_age_p : ¬ (Str.ofString "origin" = Str.ofString "age") := by decide +kernel
theorem ne_Caller_origin__rota : (Str.ofString "origin" == Str.ofString "_rota") = false := by decide +kernel
theorem ne_Caller_origin__rota_p : ¬ (Str.ofString "origin" = Str.ofString "_rota") := by decide +kernel
theorem ne_Caller_origin_front : (Str.ofString "origin" == Str.ofString "front") = false := by decide +kernel
theorem ne_Caller_origin_front_p : ¬ (Str.ofString "origin" = Str.ofString "front") := by decide +kernel
theorem ne_Caller_origin__patience : (Str.ofString "origin" == Str.ofString "_patience") = false := by decide +kernel
theorem ne_Caller_origin__patience_p : ¬ (Str.ofString "origin" = Str.ofString "_patience") := by decide +kernel
theorem ne_Caller_origin__waited : (Str.ofString "origin" == Str.ofString "_waited") = false := by decide +kernel
theorem ne_Caller_origin__waited_p : ¬ (Str.ofString "origin" = Str.ofString "_waited") := by decide +kernel
theorem ne_Caller_origin__command : (Str.ofString "origin" == Str.ofString "_command") = false := by decide +kernel
theorem ne_Caller_origin__command_p : ¬ (Str.ofString "origin" = Str.ofString "_command") := by decide +kernel
theorem ne_Caller_number_origin : (Str.ofString "number" == Str.ofString "origin") = false := by decide +kernel
theorem ne_Caller_number_origin_p : ¬ (Str.ofString "number" = Str.ofString "origin") := by decide +kernel
theorem ne_Caller_number_age : (Str.ofString "number" == Str.ofString "age") = false := by decide +kernel
theorem ne_Caller_number_age_p : ¬ (Str.ofString "number" = Str.ofString "age") := by decide +kernel
theorem ne_Caller_number__rota : (Str.ofString "number" == Str.ofString "_rota") = false := by decide +kernel
theorem ne_Caller_number__rota_p : ¬ (Str.ofString "number" = Str.ofString "_rota") := by decide +kernel
theorem ne_Caller_number_front : (Str.ofString "number" == Str.ofString "front") = false := by decide +kernel
theorem ne_Caller_number_front_p : ¬ (Str.ofString "number" = Str.ofString "front") := by decide +kernel
theorem ne_Caller_number__patience : (Str.ofString "number" == Str.ofString "_patience") = false := by decide +kernel
theorem ne_Caller_number__patience_p : ¬ (Str.ofString "number" = Str.ofString "_patience") := by decide +kernel
theorem ne_Caller_number__waited : (Str.ofString "number" == Str.ofString "_waited") = false := by decide +kernel
theorem ne_Caller_number__waited_p : ¬ (Str.ofString "number" = Str.ofString "_waited") := by decide +kernel
theorem ne_Caller_number__command : (Str.ofString "number" == Str.ofString "_command") = false := by decide +kernel
theorem ne_Caller_number__command_p : ¬ (Str.ofString "number" = Str.ofString "_command") := by decide +kernel
theorem ne_Caller_age_origin : (Str.ofString "age" == Str.ofString "origin") = false := by decide +kernel
theorem ne_Caller_age_origin_p : ¬ (Str.ofString "age" = Str.ofString "origin") := by decide +kernel
theorem ne_Caller_age_number : (Str.ofString "age" == Str.ofString "number") = false := by decide +kernel
theorem ne_Caller_age_number_p : ¬ (Str.ofString "age" = Str.ofString "number") := by decide +kernel
theorem ne_Caller_age__rota : (Str.ofString "age" == Str.ofString "_rota") = false := by decide +kernel
theorem ne_Caller_age__rota_p : ¬ (Str.ofString "age" = Str.ofString "_rota") := by decide +kernel
theorem ne_Caller_age_front : (Str.ofString "age" == Str.ofString "front") = false := by decide +kernel
theorem ne_Caller_age_front_p : ¬ (Str.ofString "age" = Str.ofString "front") := by decide +kernel
theorem ne_Caller_age__patience : (Str.ofString "age" == Str.ofString "_patience") = false := by decide +kernel
theorem ne_Caller_age__patience_p : ¬ (Str.ofString "age" = Str.ofString "_patience") := by decide +kernel
theorem ne_Caller_age__waited : (Str.ofString "age" == Str.ofString "_waited") = false := by decide +kernel
theorem ne_Caller_age__waited_p : ¬ (Str.ofString "age" = Str.ofString "_waited") := by decide +kernel
theorem ne_Caller_age__command : (Str.ofString "age" == Str.ofString "_command") = false := by decide +kernel
theorem ne_Caller_age__command_p : ¬ (Str.ofString "age" = Str.ofString "_command") := by decide +kernel
theorem ne_Caller__rota_origin : (Str.ofString "_rota" == Str.ofString "origin") = false := by decide +kernel
theorem ne_Caller__rota_origin_p : ¬ (Str.ofString "_rota" = Str.ofString "origin") := by decide +kernel
theorem ne_Caller__rota_number : (Str.ofString "_rota" == Str.ofString "number") = false := by decide +kernel
theorem ne_Caller__rota_number_p : ¬ (Str.ofString "_rota" = Str.ofString "number") := by decide +kernel
theorem ne_Caller__rota_age : (Str.ofString "_rota" == Str.ofString "age") = false := by decide +kernel
theorem ne_Caller__rota_age_p : ¬ (Str.ofString "_rota" = Str.ofString "age") := by decide +kernel
theorem ne_Caller__rota_front : (Str.ofString "_rota" == Str.ofString "front") = false := by decide +kernel
theorem ne_Caller__rota_front_p : ¬ (Str.ofString "_rota" = Str.ofString "front") := by decide +kernel
theorem ne_Caller__rota__patience : (Str.ofString "_rota" == Str.ofString "_patience") = false := by decide +kernel
theorem ne_Caller__rota__patience_p : ¬ (Str.ofString "_rota" = Str.ofString "_patience") := by decide +kernel
theorem ne_Caller__rota__waited : (Str.ofString "_rota" == Str.ofString "_waited") = false := by decide +kernel
theorem ne_Caller__rota__waited_p : ¬ (Str.ofString "_rota" = Str.ofString "_waited") := by decide +kernel
theorem ne_Caller__rota__command : (Str.ofString "_rota" == Str.ofString "_command") = false := by decide +kernel
theorem ne_Caller__rota__command_p : ¬ (Str.ofString "_rota" = Str.ofString "_command") := by decide +kernel
theorem ne_Caller_front_origin : (Str.ofString "front" == Str.ofString "origin") = false := by decide +kernel
theorem ne_Caller_front_origin_p : ¬ (Str.ofString "front" = Str.ofString "origin") := by decide +kernel
theorem ne_Caller_front_number : (Str.ofString "front" == Str.ofString "number") = false := by decide +kernel
theorem ne_Caller_front_number_p : ¬ (Str.ofString "front" = Str.ofString "number") := by decide +kernel
theorem ne_Caller_front_age : (Str.ofString "front" == Str.ofString "age") = false := by decide +kernel
theorem ne_Caller_front_age_p : ¬ (Str.ofString "front" = Str.ofString "age") := by decide +kernel
theorem ne_Caller_front__rota : (Str.ofString "front" == Str.ofString "_rota") = false := by decide +kernel
theorem ne_Caller_front__rota_p : ¬ (Str.ofString "front" = Str.ofString "_rota") := by decide +kernel
theorem ne_Caller_front__patience : (Str.ofString "front" == Str.ofString "_patience") = false := by decide +kernel
theorem ne_Caller_front__patience_p : ¬ (Str.ofString "front" = Str.ofString "_patience") := by decide +kernel
theorem ne_Caller_front__waited : (Str.ofString "front" == Str.ofString "_waited") = false := by decide +kernel
theorem ne_Caller_front__waited_p : ¬ (Str.ofString "front" = Str.ofString "_waited") := by decide +kernel
theorem ne_Caller_front__command : (Str.ofString "front" == Str.ofString "_command") = false := by decide +kernel
theorem ne_Caller_front__command_p : ¬ (Str.ofString "front" = Str.ofString "_command") := by decide +kernel
theorem ne_Caller__patience_origin : (Str.ofString "_patience" == Str.ofString "origin") = false := by decide +kernel
theorem ne_Caller__patience_origin_p : ¬ (Str.ofString "_patience" = Str.ofString "origin") := by decide +kernel
theorem ne_Caller__patience_number : (Str.ofString "_patience" == Str.ofString "number") = false := by decide +kernel
theorem ne_Caller__patience_number_p : ¬ (Str.ofString "_patience" = Str.ofString "number") := by decide +kernel
theorem ne_Caller__patience_age : (Str.ofString "_patience" == Str.ofString "age") = false := by decide +kernel
theorem ne_Caller__patience_age_p : ¬ (Str.ofString "_patience" = Str.ofString "age") := by decide +kernel
theorem ne_Caller__patience__rota : (Str.ofString "_patience" == Str.ofString "_rota") = false := by decide +kernel
theorem ne_Caller__patience__rota_p : ¬ (Str.ofString "_patience" = Str.ofString "_rota") := by decide +kernel
theorem ne_Caller__patience_front : (Str.ofString "_patience" == Str.ofString "front") = false := by decide +kernel
theorem ne_Caller__patience_front_p : ¬ (Str.ofString "_patience" = Str.ofString "front") := by decide +kernel
theorem ne_Caller__patience__waited : (Str.ofString "_patience" == Str.ofString "_waited") = false := by decide +kernel
theorem ne_Caller__patience__waited_p : ¬ (Str.ofString "_patience" = Str.ofString "_waited") := by decide +kernel
theorem ne_Caller__patience__command : (Str.ofString "_patience" == Str.ofString "_command") = false := by decide +kernel
theorem ne_Caller__patience__command_p : ¬ (Str.ofString "_patience" = Str.ofString "_command") := by decide +kernel
theorem ne_Caller__waited_origin : (Str.ofString "_waited" == Str.ofString "origin") = false := by decide +kernel
theorem ne_Caller__waited_origin_p : ¬ (Str.ofString "_waited" = Str.ofString "origin") := by decide +kernel
theorem ne_Caller__waited_number : (Str.ofString "_waited" == Str.ofString "number") = false := by decide +kernel
theorem ne_Caller__waited_number_p : ¬ (Str.ofString "_waited" = Str.ofString "number") := by decide +kernel
theorem ne_Caller__waited_age : (Str.ofString "_waited" == Str.ofString "age") = false := by decide +kernel
theorem ne_Caller__waited_age_p : ¬ (Str.ofString "_waited" = Str.ofString "age") := by decide +kernel
theorem ne_Caller__waited__rota : (Str.ofString "_waited" == Str.ofString "_rota") = false := by decide +kernel
theorem ne_Caller__waited__rota_p : ¬ (Str.ofString "_waited" = Str.ofString "_rota") := by decide +kernel
theorem ne_Caller__waited_front : (Str.ofString "_waited" == Str.ofString "front") = false := by decide +kernel
theorem ne_Caller__waited_front_p : ¬ (Str.ofString "_waited" = Str.ofString "front") := by decide +kernel
theorem ne_Caller__waited__patience : (Str.ofString "_waited" == Str.ofString "_patience") = false := by decide +kernel
theorem ne_Caller__waited__patience_p : ¬ (Str.ofString "_waited" = Str.ofString "_patience") := by decide +kernel
theorem ne_Caller__waited__command : (Str.ofString "_waited" == Str.ofString "_command") = false := by decide +kernel
theorem ne_Caller__waited__command_p : ¬ (Str.ofString "_waited" = Str.ofString "_command") := by decide +kernel
theorem ne_Caller__command_origin : (Str.ofString "_command" == Str.ofString "origin") = false := by decide +kernel
theorem ne_Caller__command_origin_p : ¬ (Str.ofString "_command" = Str.ofString "origin") := by decide +kernel
theorem ne_Caller__command_number : (Str.ofString "_command" == Str.ofString "number") = false := by decide +kernel
theorem ne_Caller__command_number_p : ¬ (Str.ofString "_command" = Str.ofString "number") := by decide +kernel
theorem ne_Caller__command_age : (Str.ofString "_command" == Str.ofString "age") = false := by decide +kernel
theorem ne_Caller__command_age_p : ¬ (Str.ofString "_command" = Str.ofString "age") := by decide +kernel
theorem ne_Caller__command__rota : (Str.ofString "_command" == Str.ofString "_rota") = false := by decide +kernel
theorem ne_Caller__command__rota_p : ¬ (Str.ofString "_command" = Str.ofString "_rota") := by decide +kernel
theorem ne_Caller__command_front : (Str.ofString "_command" == Str.ofString "front") = false := by decide +kernel
theorem ne_Caller__command_front_p : ¬ (Str.ofString "_command" = Str.ofString "front") := by decide +kernel
theorem ne_Caller__command__patience : (Str.ofString "_command" == Str.ofString "_patience") = false := by decide +kernel
theorem ne_Caller__command__patience_p : ¬ (Str.ofString "_command" = Str.ofString "_patience") := by decide +kernel
theorem ne_Caller__command__waited : (Str.ofString "_command" == Str.ofString "_waited") = false := by decide +kernel
theorem ne_Caller__command__waited_p : ¬ (Str.ofString "_command" = Str.ofString "_waited") := by decide +kernel
theorem ne_Caller_busy_origin : (Str.ofString "busy" == Str.ofString "origin") = false := by decide +kernel
theorem ne_Caller_busy_origin_p : ¬ (Str.ofString "busy" = Str.ofString "origin") := by decide +kernel
theorem ne_Caller_busy_number : (Str.ofString "busy" == Str.ofString "number") = false := by decide +kernel
theorem ne_Caller_busy_number_p : ¬ (Str.ofString "busy" = Str.ofString "number") := by decide +kernel
theorem ne_Caller_busy_age : (Str.ofString "busy" == Str.ofString "age") = false := by decide +kernel
theorem ne_Caller_busy_age_p : ¬ (Str.ofString "busy" = Str.ofString "age") := by decide +kernel
theorem ne_Caller_busy__rota : (Str.ofString "busy" == Str.ofString "_rota") = false := by decide +kernel
theorem ne_Caller_busy__rota_p : ¬ (Str.ofString "busy" = Str.ofString "_rota") := by decide +kernel
theorem ne_Caller_busy_front : (Str.ofString "busy" == Str.ofString "front") = false := by decide +kernel
theorem ne_Caller_busy_front_p : ¬ (Str.ofString "busy" = Str.ofString "front") := by decide +kernel
theorem ne_Caller_busy__patience : (Str.ofString "busy" == Str.ofString "_patience") = false := by decide +kernel
theorem ne_Caller_busy__patience_p : ¬ (Str.ofString "busy" = Str.ofString "_patience") := by decide +kernel
theorem ne_Caller_busy__waited : (Str.ofString "busy" == Str.ofString "_waited") = false := by decide +kernel
theorem ne_Caller_busy__waited_p : ¬ (Str.ofString "busy" = Str.ofString "_waited") := by decide +kernel
theorem ne_Caller_busy__command : (Str.ofString "busy" == Str.ofString "_command") = false := by decide +kernel
theorem ne_Caller_busy__command_p : ¬ (Str.ofString "busy" = Str.ofString "_command") := by decide +kernel
theorem ne_Caller_ask_origin : (Str.ofString "ask" == Str.ofString "origin") = false := by decide +kernel
theorem ne_Caller_ask_origin_p : ¬ (Str.ofString "ask" = Str.ofString "origin") := by decide +kernel
theorem ne_Caller_ask_number : (Str.ofString "ask" == Str.ofString "number") = false := by decide +kernel
theorem ne_Caller_ask_number_p : ¬ (Str.ofString "ask" = Str.ofString "number") := by decide +kernel
theorem ne_Caller_ask_age : (Str.ofString "ask" == Str.ofString "age") = false := by decide +kernel
theorem ne_Caller_ask_age_p : ¬ (Str.ofString "ask" = Str.ofString "age") := by decide +kernel
theorem ne_Caller_ask__rota : (Str.ofString "ask" == Str.ofString "_rota") = false := by decide +kernel
theorem ne_Caller_ask__rota_p : ¬ (Str.ofString "ask" = Str.ofString "_rota") := by decide +kernel
theorem ne_Caller_ask_front : (Str.ofString "ask" == Str.ofString "front") = false := by decide +kernel
theorem ne_Caller_ask_front_p : ¬ (Str.ofString "ask" = Str.ofString "front") := by decide +kernel
theorem ne_Caller_ask__patience : (Str.ofString "ask" == Str.ofString "_patience") = false := by decide +kernel
theorem ne_Caller_ask__patience_p : ¬ (Str.ofString "ask" = Str.ofString "_patience") := by decide +kernel
theorem ne_Caller_ask__waited : (Str.ofString "ask" == Str.ofString "_waited") = false := by decide +kernel
theorem ne_Caller_ask__waited_p : ¬ (Str.ofString "ask" = Str.ofString "_waited") := by decide +kernel
theorem ne_Caller_ask__command : (Str.ofString "ask" == Str.ofString "_command") = false := by decide +kernel
theorem ne_Caller_ask__command_p : ¬ (Str.ofString "ask" = Str.ofString "_command") := by decide +kernel
theorem ne_Caller_tick_origin : (Str.ofString "tick" == Str.ofString "origin") = false := by decide +kernel
theorem ne_Caller_tick_origin_p : ¬ (Str.ofString "tick" = Str.ofString "origin") := by decide +kernel
theorem ne_Caller_tick_number : (Str.ofString "tick" == Str.ofString "number") = false := by decide +kernel
theorem ne_Caller_tick_number_p : ¬ (Str.ofString "tick" = Str.ofString "number") := by decide +kernel
theorem ne_Caller_tick_age : (Str.ofString "tick" == Str.ofString "age") = false := by decide +kernel
theorem ne_Caller_tick_age_p : ¬ (Str.ofString "tick" = Str.ofString "age") := by decide +kernel
theorem ne_Caller_tick__rota : (Str.ofString "tick" == Str.ofString "_rota") = false := by decide +kernel
theorem ne_Caller_tick__rota_p : ¬ (Str.ofString "tick" = Str.ofString "_rota") := by decide +kernel
theorem ne_Caller_tick_front : (Str.ofString "tick" == Str.ofString "front") = false := by decide +kernel
theorem ne_Caller_tick_front_p : ¬ (Str.ofString "tick" = Str.ofString "front") := by decide +kernel
theorem ne_Caller_tick__patience : (Str.ofString "tick" == Str.ofString "_patience") = false := by decide +kernel
theorem ne_Caller_tick__patience_p : ¬ (Str.ofString "tick" = Str.ofString "_patience") := by decide +kernel
theorem ne_Caller_tick__waited : (Str.ofString "tick" == Str.ofString "_waited") = false := by decide +kernel
theorem ne_Caller_tick__waited_p : ¬ (Str.ofString "tick" = Str.ofString "_waited") := by decide +kernel
theorem ne_Caller_tick__command : (Str.ofString "tick" == Str.ofString "_command") = false := by decide +kernel
theorem ne_Caller_tick__command_p : ¬ (Str.ofString "tick" = Str.ofString "_command") := by decide +kernel
theorem ne_Caller_hear_origin : (Str.ofString "hear" == Str.ofString "origin") = false := by decide +kernel
theorem ne_Caller_hear_origin_p : ¬ (Str.ofString "hear" = Str.ofString "origin") := by decide +kernel
theorem ne_Caller_hear_number : (Str.ofString "hear" == Str.ofString "number") = false := by decide +kernel
theorem ne_Caller_hear_number_p : ¬ (Str.ofString "hear" = Str.ofString "number") := by decide +kernel
theorem ne_Caller_hear_age : (Str.ofString "hear" == Str.ofString "age") = false := by decide +kernel
theorem ne_Caller_hear_age_p : ¬ (Str.ofString "hear" = Str.ofString "age") := by decide +kernel
theorem ne_Caller_hear__rota : (Str.ofString "hear" == Str.ofString "_rota") = false := by decide +kernel
theorem ne_Caller_hear__rota_p : ¬ (Str.ofString "hear" = Str.ofString "_rota") := by decide +kernel
theorem ne_Caller_hear_front : (Str.ofString "hear" == Str.ofString "front") = false := by decide +kernel
theorem ne_Caller_hear_front_p : ¬ (Str.ofString "hear" = Str.ofString "front") := by decide +kernel
theorem ne_Caller_hear__patience : (Str.ofString "hear" == Str.ofString "_patience") = false := by decide +kernel
theorem ne_Caller_hear__patience_p : ¬ (Str.ofString "hear" = Str.ofString "_patience") := by decide +kernel
theorem ne_Caller_hear__waited : (Str.ofString "hear" == Str.ofString "_waited") = false := by decide +kernel
theorem ne_Caller_hear__waited_p : ¬ (Str.ofString "hear" = Str.ofString "_waited") := by decide +kernel
theorem ne_Caller_hear__command : (Str.ofString "hear" == Str.ofString "_command") = false := by decide +kernel
theorem ne_Caller_hear__command_p : ¬ (Str.ofString "hear" = Str.ofString "_command") := by decide +kernel
theorem ne_Caller__send_origin : (Str.ofString "_send" == Str.ofString "origin") = false := by decide +kernel
theorem ne_Caller__send_origin_p : ¬ (Str.ofString "_send" = Str.ofString "origin") := by decide +kernel
theorem ne_Caller__send_number : (Str.ofString "_send" == Str.ofString "number") = false := by decide +kernel
theorem ne_Caller__send_number_p : ¬ (Str.ofString "_send" = Str.ofString "number") := by decide +kernel
theorem ne_Caller__send_age : (Str.ofString "_send" == Str.ofString "age") = false := by decide +kernel
theorem ne_Caller__send_age_p : ¬ (Str.ofString "_send" = Str.ofString "age") := by decide +kernel
theorem ne_Caller__send__rota : (Str.ofString "_send" == Str.ofString "_rota") = false := by decide +kernel
theorem ne_Caller__send__rota_p : ¬ (Str.ofString "_send" = Str.ofString "_rota") := by decide +kernel
theorem ne_Caller__send_front : (Str.ofString "_send" == Str.ofString "front") = false := by decide +kernel
theorem ne_Caller__send_front_p : ¬ (Str.ofString "_send" = Str.ofString "front") := by decide +kernel
theorem ne_Caller__send__patience : (Str.ofString "_send" == Str.ofString "_patience") = false := by decide +kernel
theorem ne_Caller__send__patience_p : ¬ (Str.ofString "_send" = Str.ofString "_patience") := by decide +kernel
theorem ne_Caller__send__waited : (Str.ofString "_send" == Str.ofString "_waited") = false := by decide +kernel
theorem ne_Caller__send__waited_p : ¬ (Str.ofString "_send" = Str.ofString "_waited") := by decide +kernel
theorem ne_Caller__send__command : (Str.ofString "_send" == Str.ofString "_command") = false := by decide +kernel
theorem ne_Caller__send__command_p : ¬ (Str.ofString "_send" = Str.ofString "_command") := by decide +kernel
/-- the attributes of a Caller, in the order in which they are stored -/
def fl_Caller (v0 v1 v2 v3 v4 v5 v6 v7 : V) : List (Str × V) := [("origin", v0), ("number", v1), ("age", v2), ("_rota", v3), ("front", v4), ("_patience", v5), ("_waited", v6), ("_command", v7)]
theorem fl_Caller_origin {v0 v1 v2 v3 v4 v5 v6 v7 : V} : (fl_Caller v0 v1 v2 v3 v4 v5 v6 v7).lookup ("origin" : Str) = some v0 := by unfold fl_Caller; simp [List.lookup, ne_Caller_origin_number, ne_Caller_origin_age, ne_Caller_origin__rota, ne_Caller_origin_front, ne_Caller_origin__patience, ne_Caller_origin__waited, ne_Caller_origin__command, ne_Caller_number_origin, ne_Caller_number_age, ne_Caller_number__rota, ne_Caller_number_front, ne_Caller_number__patience, ne_Caller_number__waited, ne_Caller_number__command, ne_Caller_age_origin, ne_Caller_age_number, ne_Caller_age__rota, ne_Caller_age_front, ne_Caller_age__patience, ne_Caller_age__waited, ne_Caller_age__command, ne_Caller__rota_origin, ne_Caller__rota_number, ne_Caller__rota_age, ne_Caller__rota_front, ne_Caller__rota__patience, ne_Caller__rota__waited, ne_Caller__rota__command, ne_Caller_front_origin, ne_Caller_front_number, ne_Caller_front_age, ne_Caller_front__rota, ne_Caller_front__patience, ne_Caller_front__waited, ne_Caller_front__command, ne_Caller__patience_origin, ne_Caller__patience_number, ne_Caller__patience_age, ne_Caller__patience__rota, ne_Caller__patience_front, ne_Caller__patience__waited, ne_Caller__patience__command, ne_Caller__waited_origin, ne_Caller__waited_number, ne_Caller__waited_age, ne_Caller__waited__rota, ne_Caller__waited_front, ne_Caller__waited__patience, ne_Caller__waited__command, ne_Caller__command_origin, ne_Caller__command_number, ne_Caller__command_age, ne_Caller__command__rota, ne_Caller__command_front, ne_Caller__command__patience, ne_Caller__command__waited, ne_Caller_busy_origin, ne_Caller_busy_number, ne_Caller_busy_age, ne_Caller_busy__rota, ne_Caller_busy_front, ne_Caller_busy__patience, ne_Caller_busy__waited, ne_Caller_busy__command, ne_Caller_ask_origin, ne_Caller_ask_number, ne_Caller_ask_age, ne_Caller_ask__rota, ne_Caller_ask_front, ne_Caller_ask__patience, ne_Caller_ask__waited, ne_Caller_ask__command, ne_Caller_tick_origin, ne_Caller_tick_number, ne_Caller_tick_age, ne_Caller_tick__rota, ne_Caller_tick_front, ne_Caller_tick__patience, ne_Caller_tick__waited, ne_Caller_tick__command, ne_Caller_hear_origin, ne_Caller_hear_number, ne_Caller_hear_age, ne_Caller_hear__rota, ne_Caller_hear_front, ne_Caller_hear__patience, ne_Caller_hear__waited, ne_Caller_hear__command, ne_Caller__send_origin, ne_Caller__send_number, ne_Caller__send_age, ne_Caller__send__rota, ne_Caller__send_front, ne_Caller__send__patience, ne_Caller__send__waited, ne_Caller__send__command, ne_Caller_origin_number_p, ne_Caller_origin_age_p, ne_Caller_origin__rota_p, ne_Caller_origin_front_p, ne_Caller_origin__patience_p, ne_Caller_origin__waited_p, ne_Caller_origin__command_p, ne_Caller_number_origin_p, ne_Caller_number_age_p, ne_Caller_number__rota_p, ne_Caller_number_front_p, ne_Caller_number__patience_p, ne_Caller_number__waited_p, ne_Caller_number__command_p, ne_Caller_age_origin_p, ne_Caller_age_number_p, ne_Caller_age__rota_p, ne_Caller_age_front_p, ne_Caller_age__patience_p, ne_Caller_age__waited_p, ne_Caller_age__command_p, ne_Caller__rota_origin_p, ne_Caller__rota_number_p, ne_Caller__rota_age_p, ne_Caller__rota_front_p, ne_Caller__rota__patience_p, ne_Caller__rota__waited_p, ne_Caller__rota__command_p, ne_Caller_front_origin_p, ne_Caller_front_number_p, ne_Caller_front_age_p, ne_Caller_front__rota_p, ne_Caller_front__patience_p, ne_Caller_front__waited_p, ne_Caller_front__command_p, ne_Caller__patience_origin_p, ne_Caller__patience_number_p, ne_Caller__patience_age_p, ne_Caller__patience__rota_p, ne_Caller__patience_front_p, ne_Caller__patience__waited_p, ne_Caller__patience__command_p, ne_Caller__waited_origin_p, ne_Caller__waited_number_p, ne_Caller__waited_age_p, ne_Caller__waited__rota_p, ne_Caller__waited_front_p, ne_Caller__waited__patience_p, ne_Caller__waited__command_p, ne_Caller__command_origin_p, ne_Caller__command_number_p, ne_Caller__command_age_p, ne_Caller__command__rota_p, ne_Caller__command_front_p, ne_Caller__command__patience_p, ne_Caller__command__waited_p, ne_Caller_busy_origin_p, ne_Caller_busy_number_p, ne_Caller_busy_age_p, ne_Caller_busy__rota_p, ne_Caller_busy_front_p, ne_Caller_busy__patience_p, ne_Caller_busy__waited_p, ne_Caller_busy__command_p, ne_Caller_ask_origin_p, ne_Caller_ask_number_p, ne_Caller_ask_age_p, ne_Caller_ask__rota_p, ne_Caller_ask_front_p, ne_Caller_ask__patience_p, ne_Caller_ask__waited_p, ne_Caller_ask__command_p, ne_Caller_tick_origin_p, ne_Caller_tick_number_p, ne_Caller_tick_age_p, ne_Caller_tick__rota_p, ne_Caller_tick_front_p, ne_Caller_tick__patience_p, ne_Caller_tick__waited_p, ne_Caller_tick__command_p, ne_Caller_hear_origin_p, ne_Caller_hear_number_p, ne_Caller_hear_age_p, ne_Caller_hear__rota_p, ne_Caller_hear_front_p, ne_Caller_hear__patience_p, ne_Caller_hear__waited_p, ne_Caller_hear__command_p, ne_Caller__send_origin_p, ne_Caller__send_number_p, ne_Caller__send_age_p, ne_Caller__send__rota_p, ne_Caller__send_front_p, ne_Caller__send__patience_p, ne_Caller__send__waited_p, ne_Caller__send__command_p]
theorem pf_Caller_origin {v0 v1 v2 v3 v4 v5 v6 v7 x : V} : putF ("origin" : Str) x (fl_Caller v0 v1 v2 v3 v4 v5 v6 v7) = fl_Caller x v1 v2 v3 v4 v5 v6 v7 := by unfold fl_Caller; simp [putF, ne_Caller_origin_number, ne_Caller_origin_age, ne_Caller_origin__rota, ne_Caller_origin_front, ne_Caller_origin__patience, ne_Caller_origin__waited, ne_Caller_origin__command, ne_Caller_number_origin, ne_Caller_number_age, ne_Caller_number__rota, ne_Caller_number_front, ne_Caller_number__patience, ne_Caller_number__waited, ne_Caller_number__command, ne_Caller_age_origin, ne_Caller_age_number, ne_Caller_age__rota, ne_Caller_age_front, ne_Caller_age__patience, ne_Caller_age__waited, ne_Caller_age__command, ne_Caller__rota_origin, ne_Caller__rota_number, ne_Caller__rota_age, ne_Caller__rota_front, ne_Caller__rota__patience, ne_Caller__rota__waited, ne_Caller__rota__command, ne_Caller_front_origin, ne_Caller_front_number, ne_Caller_front_age, ne_Caller_front__rota, ne_Caller_front__patience, ne_Caller_front__waited, ne_Caller_front__command, ne_Caller__patience_origin, ne_Caller__patience_number, ne_Caller__patience_age, ne_Caller__patience__rota, ne_Caller__patience_front, ne_Caller__patience__waited, ne_Caller__patience__command, ne_Caller__waited_origin, ne_Caller__waited_number, ne_Caller__waited_age, ne_Caller__waited__rota, ne_Caller__waited_front, ne_Caller__waited__patience, ne_Caller__waited__command, ne_Caller__command_origin, ne_Caller__command_number, ne_Caller__command_age, ne_Caller__command__rota, ne_Caller__command_front, ne_Caller__command__patience, ne_Caller__command__waited, ne_Caller_busy_origin, ne_Caller_busy_number, ne_Caller_busy_age, ne_Caller_busy__rota, ne_Caller_busy_front, ne_Caller_busy__patience, ne_Caller_busy__waited, ne_Caller_busy__command, ne_Caller_ask_origin, ne_Caller_ask_number, ne_Caller_ask_age, ne_Caller_ask__rota, ne_Caller_ask_front, ne_Caller_ask__patience, ne_Caller_ask__waited, ne_Caller_ask__command, ne_Caller_tick_origin, ne_Caller_tick_number, ne_Caller_tick_age, ne_Caller_tick__rota, ne_Caller_tick_front, ne_Caller_tick__patience, ne_Caller_tick__waited, ne_Caller_tick__command, ne_Caller_hear_origin, ne_Caller_hear_number, ne_Caller_hear_age, ne_Caller_hear__rota, ne_Caller_hear_front, ne_Caller_hear__patience, ne_Caller_hear__waited, ne_Caller_hear__command, ne_Caller__send_origin, ne_Caller__send_number, ne_Caller__send_age, ne_Caller__send__rota, ne_Caller__send_front, ne_Caller__send__patience, ne_Caller__send__waited, ne_Caller__send__command, ne_Caller_origin_number_p, ne_Caller_origin_age_p, ne_Caller_origin__rota_p, ne_Caller_origin_front_p, ne_Caller_origin__patience_p, ne_Caller_origin__waited_p, ne_Caller_origin__command_p, ne_Caller_number_origin_p, ne_Caller_number_age_p, ne_Caller_number__rota_p, ne_Caller_number_front_p, ne_Caller_number__patience_p, ne_Caller_number__waited_p, ne_Caller_number__command_p, ne_Caller_age_origin_p, ne_Caller_age_number_p, ne_Caller_age__rota_p, ne_Caller_age_front_p, ne_Caller_age__patience_p, ne_Caller_age__waited_p, ne_Caller_age__command_p, ne_Caller__rota_origin_p, ne_Caller__rota_number_p, ne_Caller__rota_age_p, ne_Caller__rota_front_p, ne_Caller__rota__patience_p, ne_Caller__rota__waited_p, ne_Caller__rota__command_p, ne_Caller_front_origin_p, ne_Caller_front_number_p, ne_Caller_front_age_p, ne_Caller_front__rota_p, ne_Caller_front__patience_p, ne_Caller_front__waited_p, ne_Caller_front__command_p, ne_Caller__patience_origin_p, ne_Caller__patience_number_p, ne_Caller__patience_age_p, ne_Caller__patience__rota_p, ne_Caller__patience_front_p, ne_Caller__patience__waited_p, ne_Caller__patience__command_p, ne_Caller__waited_origin_p, ne_Caller__waited_number_p, ne_Caller__waited_age_p, ne_Caller__waited__rota_p, ne_Caller__waited_front_p, ne_Caller__waited__patience_p, ne_Caller__waited__command_p, ne_Caller__command_origin_p, ne_Caller__command_number_p, ne_Caller__command_age_p, ne_Caller__command__rota_p, ne_Caller__command_front_p, ne_Caller__command__patience_p, ne_Caller__command__waited_p, ne_Caller_busy_origin_p, ne_Caller_busy_number_p, ne_Caller_busy_age_p, ne_Caller_busy__rota_p, ne_Caller_busy_front_p, ne_Caller_busy__patience_p, ne_Caller_busy__waited_p, ne_Caller_busy__command_p, ne_Caller_ask_origin_p, ne_Caller_ask_number_p, ne_Caller_ask_age_p, ne_Caller_ask__rota_p, ne_Caller_ask_front_p, ne_Caller_ask__patience_p, ne_Caller_ask__waited_p, ne_Caller_ask__command_p, ne_Caller_tick_origin_p, ne_Caller_tick_number_p, ne_Caller_tick_age_p, ne_Caller_tick__rota_p, ne_Caller_tick_front_p, ne_Caller_tick__patience_p, ne_Caller_tick__waited_p, ne_Caller_tick__command_p, ne_Caller_hear_origin_p, ne_Caller_hear_number_p, ne_Caller_hear_age_p, ne_Caller_hear__rota_p, ne_Caller_hear_front_p, ne_Caller_hear__patience_p, ne_Caller_hear__waited_p, ne_Caller_hear__command_p, ne_Caller__send_origin_p, ne_Caller__send_number_p, ne_Caller__send_age_p, ne_Caller__send__rota_p, ne_Caller__send_front_p, ne_Caller__send__patience_p, ne_Caller__send__waited_p, ne_Caller__send__command_p]
theorem fl_Caller_number {v0 v1 v2 v3 v4 v5 v6 v7 : V} : (fl_Caller v0 v1 v2 v3 v4 v5 v6 v7).lookup ("number" : Str) = some v1 := by unfold fl_Caller; simp [List.lookup, ne_Caller_origin_number, ne_Caller_origin_age, ne_Caller_origin__rota, ne_Caller_origin_front, ne_Caller_origin__patience, ne_Caller_origin__waited, ne_Caller_origin__command, ne_Caller_number_origin, ne_Caller_number_age, ne_Caller_number__rota, ne_Caller_number_front, ne_Caller_number__patience, ne_Caller_number__waited, ne_Caller_number__command, ne_Caller_age_origin, ne_Caller_age_number, ne_Caller_age__rota, ne_Caller_age_front, ne_Caller_age__patience, ne_Caller_age__waited, ne_Caller_age__command, ne_Caller__rota_origin, ne_Caller__rota_number, ne_Caller__rota_age, ne_Caller__rota_front, ne_Caller__rota__patience, ne_Caller__rota__waited, ne_Caller__rota__command, ne_Caller_front_origin, ne_Caller_front_number, ne_Caller_front_age, ne_Caller_front__rota, ne_Caller_front__patience, ne_Caller_front__waited, ne_Caller_front__command, ne_Caller__patience_origin, ne_Caller__patience_number, ne_Caller__patience_age, ne_Caller__patience__rota, ne_Caller__patience_front, ne_Caller__patience__waited, ne_Caller__patience__command, ne_Caller__waited_origin, ne_Caller__waited_number, ne_Caller__waited_age, ne_Caller__waited__rota, ne_Caller__waited_front, ne_Caller__waited__patience, ne_Caller__waited__command, ne_Caller__command_origin, ne_Caller__command_number, ne_Caller__command_age, ne_Caller__command__rota, ne_Caller__command_front, ne_Caller__command__patience, ne_Caller__command__waited, ne_Caller_busy_origin, ne_Caller_busy_number, ne_Caller_busy_age, ne_Caller_busy__rota, ne_Caller_busy_front, ne_Caller_busy__patience, ne_Caller_busy__waited, ne_Caller_busy__command, ne_Caller_ask_origin, ne_Caller_ask_number, ne_Caller_ask_age, ne_Caller_ask__rota, ne_Caller_ask_front, ne_Caller_ask__patience, ne_Caller_ask__waited, ne_Caller_ask__command, ne_Caller_tick_origin, ne_Caller_tick_number, ne_Caller_tick_age, ne_Caller_tick__rota, ne_Caller_tick_front, ne_Caller_tick__patience, ne_Caller_tick__waited, ne_Caller_tick__command, ne_Caller_hear_origin, ne_Caller_hear_number, ne_Caller_hear_age, ne_Caller_hear__rota, ne_Caller_hear_front, ne_Caller_hear__patience, ne_Caller_hear__waited, ne_Caller_hear__command, ne_Caller__send_origin, ne_Caller__send_number, ne_Caller__send_age, ne_Caller__send__rota, ne_Caller__send_front, ne_Caller__send__patience, ne_Caller__send__waited, ne_Caller__send__command, ne_Caller_origin_number_p, ne_Caller_origin_age_p, ne_Caller_origin__rota_p, ne_Caller_origin_front_p, ne_Caller_origin__patience_p, ne_Caller_origin__waited_p, ne_Caller_origin__command_p, ne_Caller_number_origin_p, ne_Caller_number_age_p, ne_Caller_number__rota_p, ne_Caller_number_front_p, ne_Caller_number__patience_p, ne_Caller_number__waited_p, ne_Caller_number__command_p, ne_Caller_age_origin_p, ne_Caller_age_number_p, ne_Caller_age__rota_p, ne_Caller_age_front_p, ne_Caller_age__patience_p, ne_Caller_age__waited_p, ne_Caller_age__command_p, ne_Caller__rota_origin_p, ne_Caller__rota_number_p, ne_Caller__rota_age_p, ne_Caller__rota_front_p, ne_Caller__rota__patience_p, ne_Caller__rota__waited_p, ne_Caller__rota__command_p, ne_Caller_front_origin_p, ne_Caller_front_number_p, ne_Caller_front_age_p, ne_Caller_front__rota_p, ne_Caller_front__patience_p, ne_Caller_front__waited_p, ne_Caller_front__command_p, ne_Caller__patience_origin_p, ne_Caller__patience_number_p, ne_Caller__patience_age_p, ne_Caller__patience__rota_p, ne_Caller__patience_front_p, ne_Caller__patience__waited_p, ne_Caller__patience__command_p, ne_Caller__waited_origin_p, ne_Caller__waited_number_p, ne_Caller__waited_age_p, ne_Caller__waited__rota_p, ne_Caller__waited_front_p, ne_Caller__waited__patience_p, ne_Caller__waited__command_p, ne_Caller__command_origin_p, ne_Caller__command_number_p, ne_Caller__command_age_p, ne_Caller__command__rota_p, ne_Caller__command_front_p, ne_Caller__command__patience_p, ne_Caller__command__waited_p, ne_Caller_busy_origin_p, ne_Caller_busy_number_p, ne_Caller_busy_age_p, ne_Caller_busy__rota_p, ne_Caller_busy_front_p, ne_Caller_busy__patience_p, ne_Caller_busy__waited_p, ne_Caller_busy__command_p, ne_Caller_ask_origin_p, ne_Caller_ask_number_p, ne_Caller_ask_age_p, ne_Caller_ask__rota_p, ne_Caller_ask_front_p, ne_Caller_ask__patience_p, ne_Caller_ask__waited_p, ne_Caller_ask__command_p, ne_Caller_tick_origin_p, ne_Caller_tick_number_p, ne_Caller_tick_age_p, ne_Caller_tick__rota_p, ne_Caller_tick_front_p, ne_Caller_tick__patience_p, ne_Caller_tick__waited_p, ne_Caller_tick__command_p, ne_Caller_hear_origin_p, ne_Caller_hear_number_p, ne_Caller_hear_age_p, ne_Caller_hear__rota_p, ne_Caller_hear_front_p, ne_Caller_hear__patience_p, ne_Caller_hear__waited_p, ne_Caller_hear__command_p, ne_Caller__send_origin_p, ne_Caller__send_number_p, ne_Caller__send_age_p, ne_Caller__send__rota_p, ne_Caller__send_front_p, ne_Caller__send__patience_p, ne_Caller__send__waited_p, ne_Caller__send__command_p]
theorem pf_Caller_number {v0 v1 v2 v3 v4 v5 v6 v7 x : V} : putF ("number" : Str) x (fl_Caller v0 v1 v2 v3 v4 v5 v6 v7) = fl_Caller v0 x v2 v3 v4 v5 v6 v7 := by unfold fl_Caller; simp [putF, ne_Caller_origin_number, ne_Caller_origin_age, ne_Caller_origin__rota, ne_Caller_origin_front, ne_Caller_origin__patience, ne_Caller_origin__waited, ne_Caller_origin__command, ne_Caller_number_origin, ne_Caller_number_age, ne_Caller_number__rota, ne_Caller_number_front, ne_Caller_number__patience, ne_Caller_number__waited, ne_Caller_number__command, ne_Caller_age_origin, ne_Caller_age_number, ne_Caller_age__rota, ne_Caller_age_front, ne_Caller_age__patience, ne_Caller_age__waited, ne_Caller_age__command, ne_Caller__rota_origin, ne_Caller__rota_number, ne_Caller__rota_age, ne_Caller__rota_front, ne_Caller__rota__patience, ne_Caller__rota__waited, ne_Caller__rota__command, ne_Caller_front_origin, ne_Caller_front_number, ne_Caller_front_age, ne_Caller_front__rota, ne_Caller_front__patience, ne_Caller_front__waited, ne_Caller_front__command, ne_Caller__patience_origin, ne_Caller__patience_number, ne_Caller__patience_age, ne_Caller__patience__rota, ne_Caller__patience_front, ne_Caller__patience__waited, ne_Caller__patience__command, ne_Caller__waited_origin, ne_Caller__waited_number, ne_Caller__waited_age, ne_Caller__waited__rota, ne_Caller__waited_front, ne_Caller__waited__patience, ne_Caller__waited__command, ne_Caller__command_origin, ne_Caller__command_number, ne_Caller__command_age, ne_Caller__command__rota, ne_Caller__command_front, ne_Caller__command__patience, ne_Caller__command__waited, ne_Caller_busy_origin, ne_Caller_busy_number, ne_Caller_busy_age, ne_Caller_busy__rota, ne_Caller_busy_front, ne_Caller_busy__patience, ne_Caller_busy__waited, ne_Caller_busy__command, ne_Caller_ask_origin, ne_Caller_ask_number, ne_Caller_ask_age, ne_Caller_ask__rota, ne_Caller_ask_front, ne_Caller_ask__patience, ne_Caller_ask__waited, ne_Caller_ask__command, ne_Caller_tick_origin, ne_Caller_tick_number, ne_Caller_tick_age, ne_Caller_tick__rota, ne_Caller_tick_front, ne_Caller_tick__patience, ne_Caller_tick__waited, ne_Caller_tick__command, ne_Caller_hear_origin, ne_Caller_hear_number, ne_Caller_hear_age, ne_Caller_hear__rota, ne_Caller_hear_front, ne_Caller_hear__patience, ne_Caller_hear__waited, ne_Caller_hear__command, ne_Caller__send_origin, ne_Caller__send_number, ne_Caller__send_age, ne_Caller__send__rota, ne_Caller__send_front, ne_Caller__send__patience, ne_Caller__send__waited, ne_Caller__send__command, ne_Caller_origin_number_p, ne_Caller_origin_age_p, ne_Caller_origin__rota_p, ne_Caller_origin_front_p, ne_Caller_origin__patience_p, ne_Caller_origin__waited_p, ne_Caller_origin__command_p, ne_Caller_number_origin_p, ne_Caller_number_age_p, ne_Caller_number__rota_p, ne_Caller_number_front_p, ne_Caller_number__patience_p, ne_Caller_number__waited_p, ne_Caller_number__command_p, ne_Caller_age_origin_p, ne_Caller_age_number_p, ne_Caller_age__rota_p, ne_Caller_age_front_p, ne_Caller_age__patience_p, ne_Caller_age__waited_p, ne_Caller_age__command_p, ne_Caller__rota_origin_p, ne_Caller__rota_number_p, ne_Caller__rota_age_p, ne_Caller__rota_front_p, ne_Caller__rota__patience_p, ne_Caller__rota__waited_p, ne_Caller__rota__command_p, ne_Caller_front_origin_p, ne_Caller_front_number_p, ne_Caller_front_age_p, ne_Caller_front__rota_p, ne_Caller_front__patience_p, ne_Caller_front__waited_p, ne_Caller_front__command_p, ne_Caller__patience_origin_p, ne_Caller__patience_number_p, ne_Caller__patience_age_p, ne_Caller__patience__rota_p, ne_Caller__patience_front_p, ne_Caller__patience__waited_p, ne_Caller__patience__command_p, ne_Caller__waited_origin_p, ne_Caller__waited_number_p, ne_Caller__waited_age_p, ne_Caller__waited__rota_p, ne_Caller__waited_front_p, ne_Caller__waited__patience_p, ne_Caller__waited__command_p, ne_Caller__command_origin_p, ne_Caller__command_number_p, ne_Caller__command_age_p, ne_Caller__command__rota_p, ne_Caller__command_front_p, ne_Caller__command__patience_p, ne_Caller__command__waited_p, ne_Caller_busy_origin_p, ne_Caller_busy_number_p, ne_Caller_busy_age_p, ne_Caller_busy__rota_p, ne_Caller_busy_front_p, ne_Caller_busy__patience_p, ne_Caller_busy__waited_p, ne_Caller_busy__command_p, ne_Caller_ask_origin_p, ne_Caller_ask_number_p, ne_Caller_ask_age_p, ne_Caller_ask__rota_p, ne_Caller_ask_front_p, ne_Caller_ask__patience_p, ne_Caller_ask__waited_p, ne_Caller_ask__command_p, ne_Caller_tick_origin_p, ne_Caller_tick_number_p, ne_Caller_tick_age_p, ne_Caller_tick__rota_p, ne_Caller_tick_front_p, ne_Caller_tick__patience_p, ne_Caller_tick__waited_p, ne_Caller_tick__command_p, ne_Caller_hear_origin_p, ne_Caller_hear_number_p, ne_Caller_hear_age_p, ne_Caller_hear__rota_p, ne_Caller_hear_front_p, ne_Caller_hear__patience_p, ne_Caller_hear__waited_p, ne_Caller_hear__command_p, ne_Caller__send_origin_p, ne_Caller__send_number_p, ne_Caller__send_age_p, ne_Caller__send__rota_p, ne_Caller__send_front_p, ne_Caller__send__patience_p, ne_Caller__send__waited_p, ne_Caller__send__command_p]
theorem fl_Caller_age {v0 v1 v2 v3 v4 v5 v6 v7 : V} : (fl_Caller v0 v1 v2 v3 v4 v5 v6 v7).lookup ("age" : Str) = some v2 := by unfold fl_Caller; simp [List.lookup, ne_Caller_origin_number, ne_Caller_origin_age, ne_Caller_origin__rota, ne_Caller_origin_front, ne_Caller_origin__patience, ne_Caller_origin__waited, ne_Caller_origin__command, ne_Caller_number_origin, ne_Caller_number_age, ne_Caller_number__rota, ne_Caller_number_front, ne_Caller_number__patience, ne_Caller_number__waited, ne_Caller_number__command, ne_Caller_age_origin, ne_Caller_age_number, ne_Caller_age__rota, ne_Caller_age_front, ne_Caller_age__patience, ne_Caller_age__waited, ne_Caller_age__command, ne_Caller__rota_origin, ne_Caller__rota_number, ne_Caller__rota_age, ne_Caller__rota_front, ne_Caller__rota__patience, ne_Caller__rota__waited, ne_Caller__rota__command, ne_Caller_front_origin, ne_Caller_front_number, ne_Caller_front_age, ne_Caller_front__rota, ne_Caller_front__patience, ne_Caller_front__waited, ne_Caller_front__command, ne_Caller__patience_origin, ne_Caller__patience_number, ne_Caller__patience_age, ne_Caller__patience__rota, ne_Caller__patience_front, ne_Caller__patience__waited, ne_Caller__patience__command, ne_Caller__waited_origin, ne_Caller__waited_number, ne_Caller__waited_age, ne_Caller__waited__rota, ne_Caller__waited_front, ne_Caller__waited__patience, ne_Caller__waited__command, ne_Caller__command_origin, ne_Caller__command_number, ne_Caller__command_age, ne_Caller__command__rota, ne_Caller__command_front, ne_Caller__command__patience, ne_Caller__command__waited, ne_Caller_busy_origin, ne_Caller_busy_number, ne_Caller_busy_age, ne_Caller_busy__rota, ne_Caller_busy_front, ne_Caller_busy__patience, ne_Caller_busy__waited, ne_Caller_busy__command, ne_Caller_ask_origin, ne_Caller_ask_number, ne_Caller_ask_age, ne_Caller_ask__rota, ne_Caller_ask_front, ne_Caller_ask__patience, ne_Caller_ask__waited, ne_Caller_ask__command, ne_Caller_tick_origin, ne_Caller_tick_number, ne_Caller_tick_age, ne_Caller_tick__rota, ne_Caller_tick_front, ne_Caller_tick__patience, ne_Caller_tick__waited, ne_Caller_tick__command, ne_Caller_hear_origin, ne_Caller_hear_number, ne_Caller_hear_age, ne_Caller_hear__rota, ne_Caller_hear_front, ne_Caller_hear__patience, ne_Caller_hear__waited, ne_Caller_hear__command, ne_Caller__send_origin, ne_Caller__send_number, ne_Caller__send_age, ne_Caller__send__rota, ne_Caller__send_front, ne_Caller__send__patience, ne_Caller__send__waited, ne_Caller__send__command, ne_Caller_origin_number_p, ne_Caller_origin_age_p, ne_Caller_origin__rota_p, ne_Caller_origin_front_p, ne_Caller_origin__patience_p, ne_Caller_origin__waited_p, ne_Caller_origin__command_p, ne_Caller_number_origin_p, ne_Caller_number_age_p, ne_Caller_number__rota_p, ne_Caller_number_front_p, ne_Caller_number__patience_p, ne_Caller_number__waited_p, ne_Caller_number__command_p, ne_Caller_age_origin_p, ne_Caller_age_number_p, ne_Caller_age__rota_p, ne_Caller_age_front_p, ne_Caller_age__patience_p, ne_Caller_age__waited_p, ne_Caller_age__command_p, ne_Caller__rota_origin_p, ne_Caller__rota_number_p, ne_Caller__rota_age_p, ne_Caller__rota_front_p, ne_Caller__rota__patience_p, ne_Caller__rota__waited_p, ne_Caller__rota__command_p, ne_Caller_front_origin_p, ne_Caller_front_number_p, ne_Caller_front_age_p, ne_Caller_front__rota_p, ne_Caller_front__patience_p, ne_Caller_front__waited_p, ne_Caller_front__command_p, ne_Caller__patience_origin_p, ne_Caller__patience_number_p, ne_Caller__patience_age_p, ne_Caller__patience__rota_p, ne_Caller__patience_front_p, ne_Caller__patience__waited_p, ne_Caller__patience__command_p, ne_Caller__waited_origin_p, ne_Caller__waited_number_p, ne_Caller__waited_age_p, ne_Caller__waited__rota_p, ne_Caller__waited_front_p, ne_Caller__waited__patience_p, ne_Caller__waited__command_p, ne_Caller__command_origin_p, ne_Caller__command_number_p, ne_Caller__command_age_p, ne_Caller__command__rota_p, ne_Caller__command_front_p, ne_Caller__command__patience_p, ne_Caller__command__waited_p, ne_Caller_busy_origin_p, ne_Caller_busy_number_p, ne_Caller_busy_age_p, ne_Caller_busy__rota_p, ne_Caller_busy_front_p, ne_Caller_busy__patience_p, ne_Caller_busy__waited_p, ne_Caller_busy__command_p, ne_Caller_ask_origin_p, ne_Caller_ask_number_p, ne_Caller_ask_age_p, ne_Caller_ask__rota_p, ne_Caller_ask_front_p, ne_Caller_ask__patience_p, ne_Caller_ask__waited_p, ne_Caller_ask__command_p, ne_Caller_tick_origin_p, ne_Caller_tick_number_p, ne_Caller_tick_age_p, ne_Caller_tick__rota_p, ne_Caller_tick_front_p, ne_Caller_tick__patience_p, ne_Caller_tick__waited_p, ne_Caller_tick__command_p, ne_Caller_hear_origin_p, ne_Caller_hear_number_p, ne_Caller_hear_age_p, ne_Caller_hear__rota_p, ne_Caller_hear_front_p, ne_Caller_hear__patience_p, ne_Caller_hear__waited_p, ne_Caller_hear__command_p, ne_Caller__send_origin_p, ne_Caller__send_number_p, ne_Caller__send_age_p, ne_Caller__send__rota_p, ne_Caller__send_front_p, ne_Caller__send__patience_p, ne_Caller__send__waited_p, ne_Caller__send__command_p]
theorem pf_Caller_age {v0 v1 v2 v3 v4 v5 v6 v7 x : V} : putF ("age" : Str) x (fl_Caller v0 v1 v2 v3 v4 v5 v6 v7) = fl_Caller v0 v1 x v3 v4 v5 v6 v7 := by unfold fl_Caller; simp [putF, ne_Caller_origin_number, ne_Caller_origin_age, ne_Caller_origin__rota, ne_Caller_origin_front, ne_Caller_origin__patience, ne_Caller_origin__waited, ne_Caller_origin__command, ne_Caller_number_origin, ne_Caller_number_age, ne_Caller_number__rota, ne_Caller_number_front, ne_Caller_number__patience, ne_Caller_number__waited, ne_Caller_number__command, ne_Caller_age_origin, ne_Caller_age_number, ne_Caller_age__rota, ne_Caller_age_front, ne_Caller_age__patience, ne_Caller_age__waited, ne_Caller_age__command, ne_Caller__rota_origin, ne_Caller__rota_number, ne_Caller__rota_age, ne_Caller__rota_front, ne_Caller__rota__patience, ne_Caller__rota__waited, ne_Caller__rota__command, ne_Caller_front_origin, ne_Caller_front_number, ne_Caller_front_age, ne_Caller_front__rota, ne_Caller_front__patience, ne_Caller_front__waited, ne_Caller_front__command, ne_Caller__patience_origin, ne_Caller__patience_number, ne_Caller__patience_age, ne_Caller__patience__rota, ne_Caller__patience_front, ne_Caller__patience__waited, ne_Caller__patience__command, ne_Caller__waited_origin, ne_Caller__waited_number, ne_Caller__waited_age, ne_Caller__waited__rota, ne_Caller__waited_front, ne_Caller__waited__patience, ne_Caller__waited__command, ne_Caller__command_origin, ne_Caller__command_number, ne_Caller__command_age, ne_Caller__command__rota, ne_Caller__command_front, ne_Caller__command__patience, ne_Caller__command__waited, ne_Caller_busy_origin, ne_Caller_busy_number, ne_Caller_busy_age, ne_Caller_busy__rota, ne_Caller_busy_front, ne_Caller_busy__patience, ne_Caller_busy__waited, ne_Caller_busy__command, ne_Caller_ask_origin, ne_Caller_ask_number, ne_Caller_ask_age, ne_Caller_ask__rota, ne_Caller_ask_front, ne_Caller_ask__patience, ne_Caller_ask__waited, ne_Caller_ask__command, ne_Caller_tick_origin, ne_Caller_tick_number, ne_Caller_tick_age, ne_Caller_tick__rota, ne_Caller_tick_front, ne_Caller_tick__patience, ne_Caller_tick__waited, ne_Caller_tick__command, ne_Caller_hear_origin, ne_Caller_hear_number, ne_Caller_hear_age, ne_Caller_hear__rota, ne_Caller_hear_front, ne_Caller_hear__patience, ne_Caller_hear__waited, ne_Caller_hear__command, ne_Caller__send_origin, ne_Caller__send_number, ne_Caller__send_age, ne_Caller__send__rota, ne_Caller__send_front, ne_Caller__send__patience, ne_Caller__send__waited, ne_Caller__send__command, ne_Caller_origin_number_p, ne_Caller_origin_age_p, ne_Caller_origin__rota_p, ne_Caller_origin_front_p, ne_Caller_origin__patience_p, ne_Caller_origin__waited_p, ne_Caller_origin__command_p, ne_Caller_number_origin_p, ne_Caller_number_age_p, ne_Caller_number__rota_p, ne_Caller_number_front_p, ne_Caller_number__patience_p, ne_Caller_number__waited_p, ne_Caller_number__command_p, ne_Caller_age_origin_p, ne_Caller_age_number_p, ne_Caller_age__rota_p, ne_Caller_age_front_p, ne_Caller_age__patience_p, ne_Caller_age__waited_p, ne_Caller_age__command_p, ne_Caller__rota_origin_p, ne_Caller__rota_number_p, ne_Caller__rota_age_p, ne_Caller__rota_front_p, ne_Caller__rota__patience_p, ne_Caller__rota__waited_p, ne_Caller__rota__command_p, ne_Caller_front_origin_p, ne_Caller_front_number_p, ne_Caller_front_age_p, ne_Caller_front__rota_p, ne_Caller_front__patience_p, ne_Caller_front__waited_p, ne_Caller_front__command_p, ne_Caller__patience_origin_p, ne_Caller__patience_number_p, ne_Caller__patience_age_p, ne_Caller__patience__rota_p, ne_Caller__patience_front_p, ne_Caller__patience__waited_p, ne_Caller__patience__command_p, ne_Caller__waited_origin_p, ne_Caller__waited_number_p, ne_Caller__waited_age_p, ne_Caller__waited__rota_p, ne_Caller__waited_front_p, ne_Caller__waited__patience_p, ne_Caller__waited__command_p, ne_Caller__command_origin_p, ne_Caller__command_number_p, ne_Caller__command_age_p, ne_Caller__command__rota_p, ne_Caller__command_front_p, ne_Caller__command__patience_p, ne_Caller__command__waited_p, ne_Caller_busy_origin_p, ne_Caller_busy_number_p, ne_Caller_busy_age_p, ne_Caller_busy__rota_p, ne_Caller_busy_front_p, ne_Caller_busy__patience_p, ne_Caller_busy__waited_p, ne_Caller_busy__command_p, ne_Caller_ask_origin_p, ne_Caller_ask_number_p, ne_Caller_ask_age_p, ne_Caller_ask__rota_p, ne_Caller_ask_front_p, ne_Caller_ask__patience_p, ne_Caller_ask__waited_p, ne_Caller_ask__command_p, ne_Caller_tick_origin_p, ne_Caller_tick_number_p, ne_Caller_tick_age_p, ne_Caller_tick__rota_p, ne_Caller_tick_front_p, ne_Caller_tick__patience_p, ne_Caller_tick__waited_p, ne_Caller_tick__command_p, ne_Caller_hear_origin_p, ne_Caller_hear_number_p, ne_Caller_hear_age_p, ne_Caller_hear__rota_p, ne_Caller_hear_front_p, ne_Caller_hear__patience_p, ne_Caller_hear__waited_p, ne_Caller_hear__command_p, ne_Caller__send_origin_p, ne_Caller__send_number_p, ne_Caller__send_age_p, ne_Caller__send__rota_p, ne_Caller__send_front_p, ne_Caller__send__patience_p, ne_Caller__send__waited_p, ne_Caller__send__command_p]
theorem fl_Caller__rota {v0 v1 v2 v3 v4 v5 v6 v7 : V} : (fl_Caller v0 v1 v2 v3 v4 v5 v6 v7).lookup ("_rota" : Str) = some v3 := by unfold fl_Caller; simp [List.lookup, ne_Caller_origin_number, ne_Caller_origin_age, ne_Caller_origin__rota, ne_Caller_origin_front, ne_Caller_origin__patience, ne_Caller_origin__waited, ne_Caller_origin__command, ne_Caller_number_origin, ne_Caller_number_age, ne_Caller_number__rota, ne_Caller_number_front, ne_Caller_number__patience, ne_Caller_number__waited, ne_Caller_number__command, ne_Caller_age_origin, ne_Caller_age_number, ne_Caller_age__rota, ne_Caller_age_front, ne_Caller_age__patience, ne_Caller_age__waited, ne_Caller_age__command, ne_Caller__rota_origin, ne_Caller__rota_number, ne_Caller__rota_age, ne_Caller__rota_front, ne_Caller__rota__patience, ne_Caller__rota__waited, ne_Caller__rota__command, ne_Caller_front_origin, ne_Caller_front_number, ne_Caller_front_age, ne_Caller_front__rota, ne_Caller_front__patience, ne_Caller_front__waited, ne_Caller_front__command, ne_Caller__patience_origin, ne_Caller__patience_number, ne_Caller__patience_age, ne_Caller__patience__rota, ne_Caller__patience_front, ne_Caller__patience__waited, ne_Caller__patience__command, ne_Caller__waited_origin, ne_Caller__waited_number, ne_Caller__waited_age, ne_Caller__waited__rota, ne_Caller__waited_front, ne_Caller__waited__patience, ne_Caller__waited__command, ne_Caller__command_origin, ne_Caller__command_number, ne_Caller__command_age, ne_Caller__command__rota, ne_Caller__command_front, ne_Caller__command__patience, ne_Caller__command__waited, ne_Caller_busy_origin, ne_Caller_busy_number, ne_Caller_busy_age, ne_Caller_busy__rota, ne_Caller_busy_front, ne_Caller_busy__patience, ne_Caller_busy__waited, ne_Caller_busy__command, ne_Caller_ask_origin, ne_Caller_ask_number, ne_Caller_ask_age, ne_Caller_ask__rota, ne_Caller_ask_front, ne_Caller_ask__patience, ne_Caller_ask__waited, ne_Caller_ask__command, ne_Caller_tick_origin, ne_Caller_tick_number, ne_Caller_tick_age, ne_Caller_tick__rota, ne_Caller_tick_front, ne_Caller_tick__patience, ne_Caller_tick__waited, ne_Caller_tick__command, ne_Caller_hear_origin, ne_Caller_hear_number, ne_Caller_hear_age, ne_Caller_hear__rota, ne_Caller_hear_front, ne_Caller_hear__patience, ne_Caller_hear__waited, ne_Caller_hear__command, ne_Caller__send_origin, ne_Caller__send_number, ne_Caller__send_age, ne_Caller__send__rota, ne_Caller__send_front, ne_Caller__send__patience, ne_Caller__send__waited, ne_Caller__send__command, ne_Caller_origin_number_p, ne_Caller_origin_age_p, ne_Caller_origin__rota_p, ne_Caller_origin_front_p, ne_Caller_origin__patience_p, ne_Caller_origin__waited_p, ne_Caller_origin__command_p, ne_Caller_number_origin_p, ne_Caller_number_age_p, ne_Caller_number__rota_p, ne_Caller_number_front_p, ne_Caller_number__patience_p, ne_Caller_number__waited_p, ne_Caller_number__command_p, ne_Caller_age_origin_p, ne_Caller_age_number_p, ne_Caller_age__rota_p, ne_Caller_age_front_p, ne_Caller_age__patience_p, ne_Caller_age__waited_p, ne_Caller_age__command_p, ne_Caller__rota_origin_p, ne_Caller__rota_number_p, ne_Caller__rota_age_p, ne_Caller__rota_front_p, ne_Caller__rota__patience_p, ne_Caller__rota__waited_p, ne_Caller__rota__command_p, ne_Caller_front_origin_p, ne_Caller_front_number_p, ne_Caller_front_age_p, ne_Caller_front__rota_p, ne_Caller_front__patience_p, ne_Caller_front__waited_p, ne_Caller_front__command_p, ne_Caller__patience_origin_p, ne_Caller__patience_number_p, ne_Caller__patience_age_p, ne_Caller__patience__rota_p, ne_Caller__patience_front_p, ne_Caller__patience__waited_p, ne_Caller__patience__command_p, ne_Caller__waited_origin_p, ne_Caller__waited_number_p, ne_Caller__waited_age_p, ne_Caller__waited__rota_p, ne_Caller__waited_front_p, ne_Caller__waited__patience_p, ne_Caller__waited__command_p, ne_Caller__command_origin_p, ne_Caller__command_number_p, ne_Caller__command_age_p, ne_Caller__command__rota_p, ne_Caller__command_front_p, ne_Caller__command__patience_p, ne_Caller__command__waited_p, ne_Caller_busy_origin_p, ne_Caller_busy_number_p, ne_Caller_busy_age_p, ne_Caller_busy__rota_p, ne_Caller_busy_front_p, ne_Caller_busy__patience_p, ne_Caller_busy__waited_p, ne_Caller_busy__command_p, ne_Caller_ask_origin_p, ne_Caller_ask_number_p, ne_Caller_ask_age_p, ne_Caller_ask__rota_p, ne_Caller_ask_front_p, ne_Caller_ask__patience_p, ne_Caller_ask__waited_p, ne_Caller_ask__command_p, ne_Caller_tick_origin_p, ne_Caller_tick_number_p, ne_Caller_tick_age_p, ne_Caller_tick__rota_p, ne_Caller_tick_front_p, ne_Caller_tick__patience_p, ne_Caller_tick__waited_p, ne_Caller_tick__command_p, ne_Caller_hear_origin_p, ne_Caller_hear_number_p, ne_Caller_hear_age_p, ne_Caller_hear__rota_p, ne_Caller_hear_front_p, ne_Caller_hear__patience_p, ne_Caller_hear__waited_p, ne_Caller_hear__command_p, ne_Caller__send_origin_p, ne_Caller__send_number_p, ne_Caller__send_age_p, ne_Caller__send__rota_p, ne_Caller__send_front_p, ne_Caller__send__patience_p, ne_Caller__send__waited_p, ne_Caller__send__command_p]
theorem pf_Caller__rota {v0 v1 v2 v3 v4 v5 v6 v7 x : V} : putF ("_rota" : Str) x (fl_Caller v0 v1 v2 v3 v4 v5 v6 v7) = fl_Caller v0 v1 v2 x v4 v5 v6 v7 := by unfold fl_Caller; simp [putF, ne_Caller_origin_number, ne_Caller_origin_age, ne_Caller_origin__rota, ne_Caller_origin_front, ne_Caller_origin__patience, ne_Caller_origin__waited, ne_Caller_origin__command, ne_Caller_number_origin, ne_Caller_number_age, ne_Caller_number__rota, ne_Caller_number_front, ne_Caller_number__patience, ne_Caller_number__waited, ne_Caller_number__command, ne_Caller_age_origin, ne_Caller_age_number, ne_Caller_age__rota, ne_Caller_age_front, ne_Caller_age__patience, ne_Caller_age__waited, ne_Caller_age__command, ne_Caller__rota_origin, ne_Caller__rota_number, ne_Caller__rota_age, ne_Caller__rota_front, ne_Caller__rota__patience, ne_Caller__rota__waited, ne_Caller__rota__command, ne_Caller_front_origin, ne_Caller_front_number, ne_Caller_front_age, ne_Caller_front__rota, ne_Caller_front__patience, ne_Caller_front__waited, ne_Caller_front__command, ne_Caller__patience_origin, ne_Caller__patience_number, ne_Caller__patience_age, ne_Caller__patience__rota, ne_Caller__patience_front, ne_Caller__patience__waited, ne_Caller__patience__command, ne_Caller__waited_origin, ne_Caller__waited_number, ne_Caller__waited_age, ne_Caller__waited__rota, ne_Caller__waited_front, ne_Caller__waited__patience, ne_Caller__waited__command, ne_Caller__command_origin, ne_Caller__command_number, ne_Caller__command_age, ne_Caller__command__rota, ne_Caller__command_front, ne_Caller__command__patience, ne_Caller__command__waited, ne_Caller_busy_origin, ne_Caller_busy_number, ne_Caller_busy_age, ne_Caller_busy__rota, ne_Caller_busy_front, ne_Caller_busy__patience, ne_Caller_busy__waited, ne_Caller_busy__command, ne_Caller_ask_origin, ne_Caller_ask_number, ne_Caller_ask_age, ne_Caller_ask__rota, ne_Caller_ask_front, ne_Caller_ask__patience, ne_Caller_ask__waited, ne_Caller_ask__command, ne_Caller_tick_origin, ne_Caller_tick_number, ne_Caller_tick_age, ne_Caller_tick__rota, ne_Caller_tick_front, ne_Caller_tick__patience, ne_Caller_tick__waited, ne_Caller_tick__command, ne_Caller_hear_origin, ne_Caller_hear_number, ne_Caller_hear_age, ne_Caller_hear__rota, ne_Caller_hear_front, ne_Caller_hear__patience, ne_Caller_hear__waited, ne_Caller_hear__command, ne_Caller__send_origin, ne_Caller__send_number, ne_Caller__send_age, ne_Caller__send__rota, ne_Caller__send_front, ne_Caller__send__patience, ne_Caller__send__waited, ne_Caller__send__command, ne_Caller_origin_number_p, ne_Caller_origin_age_p, ne_Caller_origin__rota_p, ne_Caller_origin_front_p, ne_Caller_origin__patience_p, ne_Caller_origin__waited_p, ne_Caller_origin__command_p, ne_Caller_number_origin_p, ne_Caller_number_age_p, ne_Caller_number__rota_p, ne_Caller_number_front_p, ne_Caller_number__patience_p, ne_Caller_number__waited_p, ne_Caller_number__command_p, ne_Caller_age_origin_p, ne_Caller_age_number_p, ne_Caller_age__rota_p, ne_Caller_age_front_p, ne_Caller_age__patience_p, ne_Caller_age__waited_p, ne_Caller_age__command_p, ne_Caller__rota_origin_p, ne_Caller__rota_number_p, ne_Caller__rota_age_p, ne_Caller__rota_front_p, ne_Caller__rota__patience_p, ne_Caller__rota__waited_p, ne_Caller__rota__command_p, ne_Caller_front_origin_p, ne_Caller_front_number_p, ne_Caller_front_age_p, ne_Caller_front__rota_p, ne_Caller_front__patience_p, ne_Caller_front__waited_p, ne_Caller_front__command_p, ne_Caller__patience_origin_p, ne_Caller__patience_number_p, ne_Caller__patience_age_p, ne_Caller__patience__rota_p, ne_Caller__patience_front_p, ne_Caller__patience__waited_p, ne_Caller__patience__command_p, ne_Caller__waited_origin_p, ne_Caller__waited_number_p, ne_Caller__waited_age_p, ne_Caller__waited__rota_p, ne_Caller__waited_front_p, ne_Caller__waited__patience_p, ne_Caller__waited__command_p, ne_Caller__command_origin_p, ne_Caller__command_number_p, ne_Caller__command_age_p, ne_Caller__command__rota_p, ne_Caller__command_front_p, ne_Caller__command__patience_p, ne_Caller__command__waited_p, ne_Caller_busy_origin_p, ne_Caller_busy_number_p, ne_Caller_busy_age_p, ne_Caller_busy__rota_p, ne_Caller_busy_front_p, ne_Caller_busy__patience_p, ne_Caller_busy__waited_p, ne_Caller_busy__command_p, ne_Caller_ask_origin_p, ne_Caller_ask_number_p, ne_Caller_ask_age_p, ne_Caller_ask__rota_p, ne_Caller_ask_front_p, ne_Caller_ask__patience_p, ne_Caller_ask__waited_p, ne_Caller_ask__command_p, ne_Caller_tick_origin_p, ne_Caller_tick_number_p, ne_Caller_tick_age_p, ne_Caller_tick__rota_p, ne_Caller_tick_front_p, ne_Caller_tick__patience_p, ne_Caller_tick__waited_p, ne_Caller_tick__command_p, ne_Caller_hear_origin_p, ne_Caller_hear_number_p, ne_Caller_hear_age_p, ne_Caller_hear__rota_p, ne_Caller_hear_front_p, ne_Caller_hear__patience_p, ne_Caller_hear__waited_p, ne_Caller_hear__command_p, ne_Caller__send_origin_p, ne_Caller__send_number_p, ne_Caller__send_age_p, ne_Caller__send__rota_p, ne_Caller__send_front_p, ne_Caller__send__patience_p, ne_Caller__send__waited_p, ne_Caller__send__command_p]
theorem fl_Caller_front {v0 v1 v2 v3 v4 v5 v6 v7 : V} : (fl_Caller v0 v1 v2 v3 v4 v5 v6 v7).lookup ("front" : Str) = some v4 := by unfold fl_Caller; simp [List.lookup, ne_Caller_origin_number, ne_Caller_origin_age, ne_Caller_origin__rota, ne_Caller_origin_front, ne_Caller_origin__patience, ne_Caller_origin__waited, ne_Caller_origin__command, ne_Caller_number_origin, ne_Caller_number_age, ne_Caller_number__rota, ne_Caller_number_front, ne_Caller_number__patience, ne_Caller_number__waited, ne_Caller_number__command, ne_Caller_age_origin, ne_Caller_age_number, ne_Caller_age__rota, ne_Caller_age_front, ne_Caller_age__patience, ne_Caller_age__waited, ne_Caller_age__command, ne_Caller__rota_origin, ne_Caller__rota_number, ne_Caller__rota_age, ne_Caller__rota_front, ne_Caller__rota__patience, ne_Caller__rota__waited, ne_Caller__rota__command, ne_Caller_front_origin, ne_Caller_front_number, ne_Caller_front_age, ne_Caller_front__rota, ne_Caller_front__patience, ne_Caller_front__waited, ne_Caller_front__command, ne_Caller__patience_origin, ne_Caller__patience_number, ne_Caller__patience_age, ne_Caller__patience__rota, ne_Caller__patience_front, ne_Caller__patience__waited, ne_Caller__patience__command, ne_Caller__waited_origin, ne_Caller__waited_number, ne_Caller__waited_age, ne_Caller__waited__rota, ne_Caller__waited_front, ne_Caller__waited__patience, ne_Caller__waited__command, ne_Caller__command_origin, ne_Caller__command_number, ne_Caller__command_age, ne_Caller__command__rota, ne_Caller__command_front, ne_Caller__command__patience, ne_Caller__command__waited, ne_Caller_busy_origin, ne_Caller_busy_number, ne_Caller_busy_age, ne_Caller_busy__rota, ne_Caller_busy_front, ne_Caller_busy__patience, ne_Caller_busy__waited, ne_Caller_busy__command, ne_Caller_ask_origin, ne_Caller_ask_number, ne_Caller_ask_age, ne_Caller_ask__rota, ne_Caller_ask_front, ne_Caller_ask__patience, ne_Caller_ask__waited, ne_Caller_ask__command, ne_Caller_tick_origin, ne_Caller_tick_number, ne_Caller_tick_age, ne_Caller_tick__rota, ne_Caller_tick_front, ne_Caller_tick__patience, ne_Caller_tick__waited, ne_Caller_tick__command, ne_Caller_hear_origin, ne_Caller_hear_number, ne_Caller_hear_age, ne_Caller_hear__rota, ne_Caller_hear_front, ne_Caller_hear__patience, ne_Caller_hear__waited, ne_Caller_hear__command, ne_Caller__send_origin, ne_Caller__send_number, ne_Caller__send_age, ne_Caller__send__rota, ne_Caller__send_front, ne_Caller__send__patience, ne_Caller__send__waited, ne_Caller__send__command, ne_Caller_origin_number_p, ne_Caller_origin_age_p, ne_Caller_origin__rota_p, ne_Caller_origin_front_p, ne_Caller_origin__patience_p, ne_Caller_origin__waited_p, ne_Caller_origin__command_p, ne_Caller_number_origin_p, ne_Caller_number_age_p, ne_Caller_number__rota_p, ne_Caller_number_front_p, ne_Caller_number__patience_p, ne_Caller_number__waited_p, ne_Caller_number__command_p, ne_Caller_age_origin_p, ne_Caller_age_number_p, ne_Caller_age__rota_p, ne_Caller_age_front_p, ne_Caller_age__patience_p, ne_Caller_age__waited_p, ne_Caller_age__command_p, ne_Caller__rota_origin_p, ne_Caller__rota_number_p, ne_Caller__rota_age_p, ne_Caller__rota_front_p, ne_Caller__rota__patience_p, ne_Caller__rota__waited_p, ne_Caller__rota__command_p, ne_Caller_front_origin_p, ne_Caller_front_number_p, ne_Caller_front_age_p, ne_Caller_front__rota_p, ne_Caller_front__patience_p, ne_Caller_front__waited_p, ne_Caller_front__command_p, ne_Caller__patience_origin_p, ne_Caller__patience_number_p, ne_Caller__patience_age_p, ne_Caller__patience__rota_p, ne_Caller__patience_front_p, ne_Caller__patience__waited_p, ne_Caller__patience__command_p, ne_Caller__waited_origin_p, ne_Caller__waited_number_p, ne_Caller__waited_age_p, ne_Caller__waited__rota_p, ne_Caller__waited_front_p, ne_Caller__waited__patience_p, ne_Caller__waited__command_p, ne_Caller__command_origin_p, ne_Caller__command_number_p, ne_Caller__command_age_p, ne_Caller__command__rota_p, ne_Caller__command_front_p, ne_Caller__command__patience_p, ne_Caller__command__waited_p, ne_Caller_busy_origin_p, ne_Caller_busy_number_p, ne_Caller_busy_age_p, ne_Caller_busy__rota_p, ne_Caller_busy_front_p, ne_Caller_busy__patience_p, ne_Caller_busy__waited_p, ne_Caller_busy__command_p, ne_Caller_ask_origin_p, ne_Caller_ask_number_p, ne_Caller_ask_age_p, ne_Caller_ask__rota_p, ne_Caller_ask_front_p, ne_Caller_ask__patience_p, ne_Caller_ask__waited_p, ne_Caller_ask__command_p, ne_Caller_tick_origin_p, ne_Caller_tick_number_p, ne_Caller_tick_age_p, ne_Caller_tick__rota_p, ne_Caller_tick_front_p, ne_Caller_tick__patience_p, ne_Caller_tick__waited_p, ne_Caller_tick__command_p, ne_Caller_hear_origin_p, ne_Caller_hear_number_p, ne_Caller_hear_age_p, ne_Caller_hear__rota_p, ne_Caller_hear_front_p, ne_Caller_hear__patience_p, ne_Caller_hear__waited_p, ne_Caller_hear__command_p, ne_Caller__send_origin_p, ne_Caller__send_number_p, ne_Caller__send_age_p, ne_Caller__send__rota_p, ne_Caller__send_front_p, ne_Caller__send__patience_p, ne_Caller__send__waited_p, ne_Caller__send__command_p]
theorem pf_Caller_front {v0 v1 v2 v3 v4 v5 v6 v7 x : V} : putF ("front" : Str) x (fl_Caller v0 v1 v2 v3 v4 v5 v6 v7) = fl_Caller v0 v1 v2 v3 x v5 v6 v7 := by unfold fl_Caller; simp [putF, ne_Caller_origin_number, ne_Caller_origin_age, ne_Caller_origin__rota, ne_Caller_origin_front, ne_Caller_origin__patience, ne_Caller_origin__waited, ne_Caller_origin__command, ne_Caller_number_origin, ne_Caller_number_age, ne_Caller_number__rota, ne_Caller_number_front, ne_Caller_number__patience, ne_Caller_number__waited, ne_Caller_number__command, ne_Caller_age_origin, ne_Caller_age_number, ne_Caller_age__rota, ne_Caller_age_front, ne_Caller_age__patience, ne_Caller_age__waited, ne_Caller_age__command, ne_Caller__rota_origin, ne_Caller__rota_number, ne_Caller__rota_age, ne_Caller__rota_front, ne_Caller__rota__patience, ne_Caller__rota__waited, ne_Caller__rota__command, ne_Caller_front_origin, ne_Caller_front_number, ne_Caller_front_age, ne_Caller_front__rota, ne_Caller_front__patience, ne_Caller_front__waited, ne_Caller_front__command, ne_Caller__patience_origin, ne_Caller__patience_number, ne_Caller__patience_age, ne_Caller__patience__rota, ne_Caller__patience_front, ne_Caller__patience__waited, ne_Caller__patience__command, ne_Caller__waited_origin, ne_Caller__waited_number, ne_Caller__waited_age, ne_Caller__waited__rota, ne_Caller__waited_front, ne_Caller__waited__patience, ne_Caller__waited__command, ne_Caller__command_origin, ne_Caller__command_number, ne_Caller__command_age, ne_Caller__command__rota, ne_Caller__command_front, ne_Caller__command__patience, ne_Caller__command__waited, ne_Caller_busy_origin, ne_Caller_busy_number, ne_Caller_busy_age, ne_Caller_busy__rota, ne_Caller_busy_front, ne_Caller_busy__patience, ne_Caller_busy__waited, ne_Caller_busy__command, ne_Caller_ask_origin, ne_Caller_ask_number, ne_Caller_ask_age, ne_Caller_ask__rota, ne_Caller_ask_front, ne_Caller_ask__patience, ne_Caller_ask__waited, ne_Caller_ask__command, ne_Caller_tick_origin, ne_Caller_tick_number, ne_Caller_tick_age, ne_Caller_tick__rota, ne_Caller_tick_front, ne_Caller_tick__patience, ne_Caller_tick__waited, ne_Caller_tick__command, ne_Caller_hear_origin, ne_Caller_hear_number, ne_Caller_hear_age, ne_Caller_hear__rota, ne_Caller_hear_front, ne_Caller_hear__patience, ne_Caller_hear__waited, ne_Caller_hear__command, ne_Caller__send_origin, ne_Caller__send_number, ne_Caller__send_age, ne_Caller__send__rota, ne_Caller__send_front, ne_Caller__send__patience, ne_Caller__send__waited, ne_Caller__send__command, ne_Caller_origin_number_p, ne_Caller_origin_age_p, ne_Caller_origin__rota_p, ne_Caller_origin_front_p, ne_Caller_origin__patience_p, ne_Caller_origin__waited_p, ne_Caller_origin__command_p, ne_Caller_number_origin_p, ne_Caller_number_age_p, ne_Caller_number__rota_p, ne_Caller_number_front_p, ne_Caller_number__patience_p, ne_Caller_number__waited_p, ne_Caller_number__command_p, ne_Caller_age_origin_p, ne_Caller_age_number_p, ne_Caller_age__rota_p, ne_Caller_age_front_p, ne_Caller_age__patience_p, ne_Caller_age__waited_p, ne_Caller_age__command_p, ne_Caller__rota_origin_p, ne_Caller__rota_number_p, ne_Caller__rota_age_p, ne_Caller__rota_front_p, ne_Caller__rota__patience_p, ne_Caller__rota__waited_p, ne_Caller__rota__command_p, ne_Caller_front_origin_p, ne_Caller_front_number_p, ne_Caller_front_age_p, ne_Caller_front__rota_p, ne_Caller_front__patience_p, ne_Caller_front__waited_p, ne_Caller_front__command_p, ne_Caller__patience_origin_p, ne_Caller__patience_number_p, ne_Caller__patience_age_p, ne_Caller__patience__rota_p, ne_Caller__patience_front_p, ne_Caller__patience__waited_p, ne_Caller__patience__command_p, ne_Caller__waited_origin_p, ne_Caller__waited_number_p, ne_Caller__waited_age_p, ne_Caller__waited__rota_p, ne_Caller__waited_front_p, ne_Caller__waited__patience_p, ne_Caller__waited__command_p, ne_Caller__command_origin_p, ne_Caller__command_number_p, ne_Caller__command_age_p, ne_Caller__command__rota_p, ne_Caller__command_front_p, ne_Caller__command__patience_p, ne_Caller__command__waited_p, ne_Caller_busy_origin_p, ne_Caller_busy_number_p, ne_Caller_busy_age_p, ne_Caller_busy__rota_p, ne_Caller_busy_front_p, ne_Caller_busy__patience_p, ne_Caller_busy__waited_p, ne_Caller_busy__command_p, ne_Caller_ask_origin_p, ne_Caller_ask_number_p, ne_Caller_ask_age_p, ne_Caller_ask__rota_p, ne_Caller_ask_front_p, ne_Caller_ask__patience_p, ne_Caller_ask__waited_p, ne_Caller_ask__command_p, ne_Caller_tick_origin_p, ne_Caller_tick_number_p, ne_Caller_tick_age_p, ne_Caller_tick__rota_p, ne_Caller_tick_front_p, ne_Caller_tick__patience_p, ne_Caller_tick__waited_p, ne_Caller_tick__command_p, ne_Caller_hear_origin_p, ne_Caller_hear_number_p, ne_Caller_hear_age_p, ne_Caller_hear__rota_p, ne_Caller_hear_front_p, ne_Caller_hear__patience_p, ne_Caller_hear__waited_p, ne_Caller_hear__command_p, ne_Caller__send_origin_p, ne_Caller__send_number_p, ne_Caller__send_age_p, ne_Caller__send__rota_p, ne_Caller__send_front_p, ne_Caller__send__patience_p, ne_Caller__send__waited_p, ne_Caller__send__command_p]
theorem fl_Caller__patience {v0 v1 v2 v3 v4 v5 v6 v7 : V} : (fl_Caller v0 v1 v2 v3 v4 v5 v6 v7).lookup ("_patience" : Str) = some v5 := by unfold fl_Caller; simp [List.lookup, ne_Caller_origin_number, ne_Caller_origin_age, ne_Caller_origin__rota, ne_Caller_origin_front, ne_Caller_origin__patience, ne_Caller_origin__waited, ne_Caller_origin__command, ne_Caller_number_origin, ne_Caller_number_age, ne_Caller_number__rota, ne_Caller_number_front, ne_Caller_number__patience, ne_Caller_number__waited, ne_Caller_number__command, ne_Caller_age_origin, ne_Caller_age_number, ne_Caller_age__rota, ne_Caller_age_front, ne_Caller_age__patience, ne_Caller_age__waited, ne_Caller_age__command, ne_Caller__rota_origin, ne_Caller__rota_number, ne_Caller__rota_age, ne_Caller__rota_front, ne_Caller__rota__patience, ne_Caller__rota__waited, ne_Caller__rota__command, ne_Caller_front_origin, ne_Caller_front_number, ne_Caller_front_age, ne_Caller_front__rota, ne_Caller_front__patience, ne_Caller_front__waited, ne_Caller_front__command, ne_Caller__patience_origin, ne_Caller__patience_number, ne_Caller__patience_age, ne_Caller__patience__rota, ne_Caller__patience_front, ne_Caller__patience__waited, ne_Caller__patience__command, ne_Caller__waited_origin, ne_Caller__waited_number, ne_Caller__waited_age, ne_Caller__waited__rota, ne_Caller__waited_front, ne_Caller__waited__patience, ne_Caller__waited__command, ne_Caller__command_origin, ne_Caller__command_number, ne_Caller__command_age, ne_Caller__command__rota, ne_Caller__command_front, ne_Caller__command__patience, ne_Caller__command__waited, ne_Caller_busy_origin, ne_Caller_busy_number, ne_Caller_busy_age, ne_Caller_busy__rota, ne_Caller_busy_front, ne_Caller_busy__patience, ne_Caller_busy__waited, ne_Caller_busy__command, ne_Caller_ask_origin, ne_Caller_ask_number, ne_Caller_ask_age, ne_Caller_ask__rota, ne_Caller_ask_front, ne_Caller_ask__patience, ne_Caller_ask__waited, ne_Caller_ask__command, ne_Caller_tick_origin, ne_Caller_tick_number, ne_Caller_tick_age, ne_Caller_tick__rota, ne_Caller_tick_front, ne_Caller_tick__patience, ne_Caller_tick__waited, ne_Caller_tick__command, ne_Caller_hear_origin, ne_Caller_hear_number, ne_Caller_hear_age, ne_Caller_hear__rota, ne_Caller_hear_front, ne_Caller_hear__patience, ne_Caller_hear__waited, ne_Caller_hear__command, ne_Caller__send_origin, ne_Caller__send_number, ne_Caller__send_age, ne_Caller__send__rota, ne_Caller__send_front, ne_Caller__send__patience, ne_Caller__send__waited, ne_Caller__send__command, ne_Caller_origin_number_p, ne_Caller_origin_age_p, ne_Caller_origin__rota_p, ne_Caller_origin_front_p, ne_Caller_origin__patience_p, ne_Caller_origin__waited_p, ne_Caller_origin__command_p, ne_Caller_number_origin_p, ne_Caller_number_age_p, ne_Caller_number__rota_p, ne_Caller_number_front_p, ne_Caller_number__patience_p, ne_Caller_number__waited_p, ne_Caller_number__command_p, ne_Caller_age_origin_p, ne_Caller_age_number_p, ne_Caller_age__rota_p, ne_Caller_age_front_p, ne_Caller_age__patience_p, ne_Caller_age__waited_p, ne_Caller_age__command_p, ne_Caller__rota_origin_p, ne_Caller__rota_number_p, ne_Caller__rota_age_p, ne_Caller__rota_front_p, ne_Caller__rota__patience_p, ne_Caller__rota__waited_p, ne_Caller__rota__command_p, ne_Caller_front_origin_p, ne_Caller_front_number_p, ne_Caller_front_age_p, ne_Caller_front__rota_p, ne_Caller_front__patience_p, ne_Caller_front__waited_p, ne_Caller_front__command_p, ne_Caller__patience_origin_p, ne_Caller__patience_number_p, ne_Caller__patience_age_p, ne_Caller__patience__rota_p, ne_Caller__patience_front_p, ne_Caller__patience__waited_p, ne_Caller__patience__command_p, ne_Caller__waited_origin_p, ne_Caller__waited_number_p, ne_Caller__waited_age_p, ne_Caller__waited__rota_p, ne_Caller__waited_front_p, ne_Caller__waited__patience_p, ne_Caller__waited__command_p, ne_Caller__command_origin_p, ne_Caller__command_number_p, ne_Caller__command_age_p, ne_Caller__command__rota_p, ne_Caller__command_front_p, ne_Caller__command__patience_p, ne_Caller__command__waited_p, ne_Caller_busy_origin_p, ne_Caller_busy_number_p, ne_Caller_busy_age_p, ne_Caller_busy__rota_p, ne_Caller_busy_front_p, ne_Caller_busy__patience_p, ne_Caller_busy__waited_p, ne_Caller_busy__command_p, ne_Caller_ask_origin_p, ne_Caller_ask_number_p, ne_Caller_ask_age_p, ne_Caller_ask__rota_p, ne_Caller_ask_front_p, ne_Caller_ask__patience_p, ne_Caller_ask__waited_p, ne_Caller_ask__command_p, ne_Caller_tick_origin_p, ne_Caller_tick_number_p, ne_Caller_tick_age_p, ne_Caller_tick__rota_p, ne_Caller_tick_front_p, ne_Caller_tick__patience_p, ne_Caller_tick__waited_p, ne_Caller_tick__command_p, ne_Caller_hear_origin_p, ne_Caller_hear_number_p, ne_Caller_hear_age_p, ne_Caller_hear__rota_p, ne_Caller_hear_front_p, ne_Caller_hear__patience_p, ne_Caller_hear__waited_p, ne_Caller_hear__command_p, ne_Caller__send_origin_p, ne_Caller__send_number_p, ne_Caller__send_age_p, ne_Caller__send__rota_p, ne_Caller__send_front_p, ne_Caller__send__patience_p, ne_Caller__send__waited_p, ne_Caller__send__command_p]
theorem pf_Caller__patience {v0 v1 v2 v3 v4 v5 v6 v7 x : V} : putF ("_patience" : Str) x (fl_Caller v0 v1 v2 v3 v4 v5 v6 v7) = fl_Caller v0 v1 v2 v3 v4 x v6 v7 := by unfold fl_Caller; simp [putF, ne_Caller_origin_number, ne_Caller_origin_age, ne_Caller_origin__rota, ne_Caller_origin_front, ne_Caller_origin__patience, ne_Caller_origin__waited, ne_Caller_origin__command, ne_Caller_number_origin, ne_Caller_number_age, ne_Caller_number__rota, ne_Caller_number_front, ne_Caller_number__patience, ne_Caller_number__waited, ne_Caller_number__command, ne_Caller_age_origin, ne_Caller_age_number, ne_Caller_age__rota, ne_Caller_age_front, ne_Caller_age__patience, ne_Caller_age__waited, ne_Caller_age__command, ne_Caller__rota_origin, ne_Caller__rota_number, ne_Caller__rota_age, ne_Caller__rota_front, ne_Caller__rota__patience, ne_Caller__rota__waited, ne_Caller__rota__command, ne_Caller_front_origin, ne_Caller_front_number, ne_Caller_front_age, ne_Caller_front__rota, ne_Caller_front__patience, ne_Caller_front__waited, ne_Caller_front__command, ne_Caller__patience_origin, ne_Caller__patience_number, ne_Caller__patience_age, ne_Caller__patience__rota, ne_Caller__patience_front, ne_Caller__patience__waited, ne_Caller__patience__command, ne_Caller__waited_origin, ne_Caller__waited_number, ne_Caller__waited_age, ne_Caller__waited__rota, ne_Caller__waited_front, ne_Caller__waited__patience, ne_Caller__waited__command, ne_Caller__command_origin, ne_Caller__command_number, ne_Caller__command_age, ne_Caller__command__rota, ne_Caller__command_front, ne_Caller__command__patience, ne_Caller__command__waited, ne_Caller_busy_origin, ne_Caller_busy_number, ne_Caller_busy_age, ne_Caller_busy__rota, ne_Caller_busy_front, ne_Caller_busy__patience, ne_Caller_busy__waited, ne_Caller_busy__command, ne_Caller_ask_origin, ne_Caller_ask_number, ne_Caller_ask_age, ne_Caller_ask__rota, ne_Caller_ask_front, ne_Caller_ask__patience, ne_Caller_ask__waited, ne_Caller_ask__command, ne_Caller_tick_origin, ne_Caller_tick_number, ne_Caller_tick_age, ne_Caller_tick__rota, ne_Caller_tick_front, ne_Caller_tick__patience, ne_Caller_tick__waited, ne_Caller_tick__command, ne_Caller_hear_origin, ne_Caller_hear_number, ne_Caller_hear_age, ne_Caller_hear__rota, ne_Caller_hear_front, ne_Caller_hear__patience, ne_Caller_hear__waited, ne_Caller_hear__command, ne_Caller__send_origin, ne_Caller__send_number, ne_Caller__send_age, ne_Caller__send__rota, ne_Caller__send_front, ne_Caller__send__patience, ne_Caller__send__waited, ne_Caller__send__command, ne_Caller_origin_number_p, ne_Caller_origin_age_p, ne_Caller_origin__rota_p, ne_Caller_origin_front_p, ne_Caller_origin__patience_p, ne_Caller_origin__waited_p, ne_Caller_origin__command_p, ne_Caller_number_origin_p, ne_Caller_number_age_p, ne_Caller_number__rota_p, ne_Caller_number_front_p, ne_Caller_number__patience_p, ne_Caller_number__waited_p, ne_Caller_number__command_p, ne_Caller_age_origin_p, ne_Caller_age_number_p, ne_Caller_age__rota_p, ne_Caller_age_front_p, ne_Caller_age__patience_p, ne_Caller_age__waited_p, ne_Caller_age__command_p, ne_Caller__rota_origin_p, ne_Caller__rota_number_p, ne_Caller__rota_age_p, ne_Caller__rota_front_p, ne_Caller__rota__patience_p, ne_Caller__rota__waited_p, ne_Caller__rota__command_p, ne_Caller_front_origin_p, ne_Caller_front_number_p, ne_Caller_front_age_p, ne_Caller_front__rota_p, ne_Caller_front__patience_p, ne_Caller_front__waited_p, ne_Caller_front__command_p, ne_Caller__patience_origin_p, ne_Caller__patience_number_p, ne_Caller__patience_age_p, ne_Caller__patience__rota_p, ne_Caller__patience_front_p, ne_Caller__patience__waited_p, ne_Caller__patience__command_p, ne_Caller__waited_origin_p, ne_Caller__waited_number_p, ne_Caller__waited_age_p, ne_Caller__waited__rota_p, ne_Caller__waited_front_p, ne_Caller__waited__patience_p, ne_Caller__waited__command_p, ne_Caller__command_origin_p, ne_Caller__command_number_p, ne_Caller__command_age_p, ne_Caller__command__rota_p, ne_Caller__command_front_p, ne_Caller__command__patience_p, ne_Caller__command__waited_p, ne_Caller_busy_origin_p, ne_Caller_busy_number_p, ne_Caller_busy_age_p, ne_Caller_busy__rota_p, ne_Caller_busy_front_p, ne_Caller_busy__patience_p, ne_Caller_busy__waited_p, ne_Caller_busy__command_p, ne_Caller_ask_origin_p, ne_Caller_ask_number_p, ne_Caller_ask_age_p, ne_Caller_ask__rota_p, ne_Caller_ask_front_p, ne_Caller_ask__patience_p, ne_Caller_ask__waited_p, ne_Caller_ask__command_p, ne_Caller_tick_origin_p, ne_Caller_tick_number_p, ne_Caller_tick_age_p, ne_Caller_tick__rota_p, ne_Caller_tick_front_p, ne_Caller_tick__patience_p, ne_Caller_tick__waited_p, ne_Caller_tick__command_p, ne_Caller_hear_origin_p, ne_Caller_hear_number_p, ne_Caller_hear_age_p, ne_Caller_hear__rota_p, ne_Caller_hear_front_p, ne_Caller_hear__patience_p, ne_Caller_hear__waited_p, ne_Caller_hear__command_p, ne_Caller__send_origin_p, ne_Caller__send_number_p, ne_Caller__send_age_p, ne_Caller__send__rota_p, ne_Caller__send_front_p, ne_Caller__send__patience_p, ne_Caller__send__waited_p, ne_Caller__send__command_p]
theorem fl_Caller__waited {v0 v1 v2 v3 v4 v5 v6 v7 : V} : (fl_Caller v0 v1 v2 v3 v4 v5 v6 v7).lookup ("_waited" : Str) = some v6 := by unfold fl_Caller; simp [List.lookup, ne_Caller_origin_number, ne_Caller_origin_age, ne_Caller_origin__rota, ne_Caller_origin_front, ne_Caller_origin__patience, ne_Caller_origin__waited, ne_Caller_origin__command, ne_Caller_number_origin, ne_Caller_number_age, ne_Caller_number__rota, ne_Caller_number_front, ne_Caller_number__patience, ne_Caller_number__waited, ne_Caller_number__command, ne_Caller_age_origin, ne_Caller_age_number, ne_Caller_age__rota, ne_Caller_age_front, ne_Caller_age__patience, ne_Caller_age__waited, ne_Caller_age__command, ne_Caller__rota_origin, ne_Caller__rota_number, ne_Caller__rota_age, ne_Caller__rota_front, ne_Caller__rota__patience, ne_Caller__rota__waited, ne_Caller__rota__command, ne_Caller_front_origin, ne_Caller_front_number, ne_Caller_front_age, ne_Caller_front__rota, ne_Caller_front__patience, ne_Caller_front__waited, ne_Caller_front__command, ne_Caller__patience_origin, ne_Caller__patience_number, ne_Caller__patience_age, ne_Caller__patience__rota, ne_Caller__patience_front, ne_Caller__patience__waited, ne_Caller__patience__command, ne_Caller__waited_origin, ne_Caller__waited_number, ne_Caller__waited_age, ne_Caller__waited__rota, ne_Caller__waited_front, ne_Caller__waited__patience, ne_Caller__waited__command, ne_Caller__command_origin, ne_Caller__command_number, ne_Caller__command_age, ne_Caller__command__rota, ne_Caller__command_front, ne_Caller__command__patience, ne_Caller__command__waited, ne_Caller_busy_origin, ne_Caller_busy_number, ne_Caller_busy_age, ne_Caller_busy__rota, ne_Caller_busy_front, ne_Caller_busy__patience, ne_Caller_busy__waited, ne_Caller_busy__command, ne_Caller_ask_origin, ne_Caller_ask_number, ne_Caller_ask_age, ne_Caller_ask__rota, ne_Caller_ask_front, ne_Caller_ask__patience, ne_Caller_ask__waited, ne_Caller_ask__command, ne_Caller_tick_origin, ne_Caller_tick_number, ne_Caller_tick_age, ne_Caller_tick__rota, ne_Caller_tick_front, ne_Caller_tick__patience, ne_Caller_tick__waited, ne_Caller_tick__command, ne_Caller_hear_origin, ne_Caller_hear_number, ne_Caller_hear_age, ne_Caller_hear__rota, ne_Caller_hear_front, ne_Caller_hear__patience, ne_Caller_hear__waited, ne_Caller_hear__command, ne_Caller__send_origin, ne_Caller__send_number, ne_Caller__send_age, ne_Caller__send__rota, ne_Caller__send_front, ne_Caller__send__patience, ne_Caller__send__waited, ne_Caller__send__command, ne_Caller_origin_number_p, ne_Caller_origin_age_p, ne_Caller_origin__rota_p, ne_Caller_origin_front_p, ne_Caller_origin__patience_p, ne_Caller_origin__waited_p, ne_Caller_origin__command_p, ne_Caller_number_origin_p, ne_Caller_number_age_p, ne_Caller_number__rota_p, ne_Caller_number_front_p, ne_Caller_number__patience_p, ne_Caller_number__waited_p, ne_Caller_number__command_p, ne_Caller_age_origin_p, ne_Caller_age_number_p, ne_Caller_age__rota_p, ne_Caller_age_front_p, ne_Caller_age__patience_p, ne_Caller_age__waited_p, ne_Caller_age__command_p, ne_Caller__rota_origin_p, ne_Caller__rota_number_p, ne_Caller__rota_age_p, ne_Caller__rota_front_p, ne_Caller__rota__patience_p, ne_Caller__rota__waited_p, ne_Caller__rota__command_p, ne_Caller_front_origin_p, ne_Caller_front_number_p, ne_Caller_front_age_p, ne_Caller_front__rota_p, ne_Caller_front__patience_p, ne_Caller_front__waited_p, ne_Caller_front__command_p, ne_Caller__patience_origin_p, ne_Caller__patience_number_p, ne_Caller__patience_age_p, ne_Caller__patience__rota_p, ne_Caller__patience_front_p, ne_Caller__patience__waited_p, ne_Caller__patience__command_p, ne_Caller__waited_origin_p, ne_Caller__waited_number_p, ne_Caller__waited_age_p, ne_Caller__waited__rota_p, ne_Caller__waited_front_p, ne_Caller__waited__patience_p, ne_Caller__waited__command_p, ne_Caller__command_origin_p, ne_Caller__command_number_p, ne_Caller__command_age_p, ne_Caller__command__rota_p, ne_Caller__command_front_p, ne_Caller__command__patience_p, ne_Caller__command__waited_p, ne_Caller_busy_origin_p, ne_Caller_busy_number_p, ne_Caller_busy_age_p, ne_Caller_busy__rota_p, ne_Caller_busy_front_p, ne_Caller_busy__patience_p, ne_Caller_busy__waited_p, ne_Caller_busy__command_p, ne_Caller_ask_origin_p, ne_Caller_ask_number_p, ne_Caller_ask_age_p, ne_Caller_ask__rota_p, ne_Caller_ask_front_p, ne_Caller_ask__patience_p, ne_Caller_ask__waited_p, ne_Caller_ask__command_p, ne_Caller_tick_origin_p, ne_Caller_tick_number_p, ne_Caller_tick_age_p, ne_Caller_tick__rota_p, ne_Caller_tick_front_p, ne_Caller_tick__patience_p, ne_Caller_tick__waited_p, ne_Caller_tick__command_p, ne_Caller_hear_origin_p, ne_Caller_hear_number_p, ne_Caller_hear_age_p, ne_Caller_hear__rota_p, ne_Caller_hear_front_p, ne_Caller_hear__patience_p, ne_Caller_hear__waited_p, ne_Caller_hear__command_p, ne_Caller__send_origin_p, ne_Caller__send_number_p, ne_Caller__send_age_p, ne_Caller__send__rota_p, ne_Caller__send_front_p, ne_Caller__send__patience_p, ne_Caller__send__waited_p, ne_Caller__send__command_p]
theorem pf_Caller__waited {v0 v1 v2 v3 v4 v5 v6 v7 x : V} : putF ("_waited" : Str) x (fl_Caller v0 v1 v2 v3 v4 v5 v6 v7) = fl_Caller v0 v1 v2 v3 v4 v5 x v7 := by unfold fl_Caller; simp [putF, ne_Caller_origin_number, ne_Caller_origin_age, ne_Caller_origin__rota, ne_Caller_origin_front, ne_Caller_origin__patience, ne_Caller_origin__waited, ne_Caller_origin__command, ne_Caller_number_origin, ne_Caller_number_age, ne_Caller_number__rota, ne_Caller_number_front, ne_Caller_number__patience, ne_Caller_number__waited, ne_Caller_number__command, ne_Caller_age_origin, ne_Caller_age_number, ne_Caller_age__rota, ne_Caller_age_front, ne_Caller_age__patience, ne_Caller_age__waited, ne_Caller_age__command, ne_Caller__rota_origin, ne_Caller__rota_number, ne_Caller__rota_age, ne_Caller__rota_front, ne_Caller__rota__patience, ne_Caller__rota__waited, ne_Caller__rota__command, ne_Caller_front_origin, ne_Caller_front_number, ne_Caller_front_age, ne_Caller_front__rota, ne_Caller_front__patience, ne_Caller_front__waited, ne_Caller_front__command, ne_Caller__patience_origin, ne_Caller__patience_number, ne_Caller__patience_age, ne_Caller__patience__rota, ne_Caller__patience_front, ne_Caller__patience__waited, ne_Caller__patience__command, ne_Caller__waited_origin, ne_Caller__waited_number, ne_Caller__waited_age, ne_Caller__waited__rota, ne_Caller__waited_front, ne_Caller__waited__patience, ne_Caller__waited__command, ne_Caller__command_origin, ne_Caller__command_number, ne_Caller__command_age, ne_Caller__command__rota, ne_Caller__command_front, ne_Caller__command__patience, ne_Caller__command__waited, ne_Caller_busy_origin, ne_Caller_busy_number, ne_Caller_busy_age, ne_Caller_busy__rota, ne_Caller_busy_front, ne_Caller_busy__patience, ne_Caller_busy__waited, ne_Caller_busy__command, ne_Caller_ask_origin, ne_Caller_ask_number, ne_Caller_ask_age, ne_Caller_ask__rota, ne_Caller_ask_front, ne_Caller_ask__patience, ne_Caller_ask__waited, ne_Caller_ask__command, ne_Caller_tick_origin, ne_Caller_tick_number, ne_Caller_tick_age, ne_Caller_tick__rota, ne_Caller_tick_front, ne_Caller_tick__patience, ne_Caller_tick__waited, ne_Caller_tick__command, ne_Caller_hear_origin, ne_Caller_hear_number, ne_Caller_hear_age, ne_Caller_hear__rota, ne_Caller_hear_front, ne_Caller_hear__patience, ne_Caller_hear__waited, ne_Caller_hear__command, ne_Caller__send_origin, ne_Caller__send_number, ne_Caller__send_age, ne_Caller__send__rota, ne_Caller__send_front, ne_Caller__send__patience, ne_Caller__send__waited, ne_Caller__send__command, ne_Caller_origin_number_p, ne_Caller_origin_age_p, ne_Caller_origin__rota_p, ne_Caller_origin_front_p, ne_Caller_origin__patience_p, ne_Caller_origin__waited_p, ne_Caller_origin__command_p, ne_Caller_number_origin_p, ne_Caller_number_age_p, ne_Caller_number__rota_p, ne_Caller_number_front_p, ne_Caller_number__patience_p, ne_Caller_number__waited_p, ne_Caller_number__command_p, ne_Caller_age_origin_p, ne_Caller_age_number_p, ne_Caller_age__rota_p, ne_Caller_age_front_p, ne_Caller_age__patience_p, ne_Caller_age__waited_p, ne_Caller_age__command_p, ne_Caller__rota_origin_p, ne_Caller__rota_number_p, ne_Caller__rota_age_p, ne_Caller__rota_front_p, ne_Caller__rota__patience_p, ne_Caller__rota__waited_p, ne_Caller__rota__command_p, ne_Caller_front_origin_p, ne_Caller_front_number_p, ne_Caller_front_age_p, ne_Caller_front__rota_p, ne_Caller_front__patience_p, ne_Caller_front__waited_p, ne_Caller_front__command_p, ne_Caller__patience_origin_p, ne_Caller__patience_number_p, ne_Caller__patience_age_p, ne_Caller__patience__rota_p, ne_Caller__patience_front_p, ne_Caller__patience__waited_p, ne_Caller__patience__command_p, ne_Caller__waited_origin_p, ne_Caller__waited_number_p, ne_Caller__waited_age_p, ne_Caller__waited__rota_p, ne_Caller__waited_front_p, ne_Caller__waited__patience_p, ne_Caller__waited__command_p, ne_Caller__command_origin_p, ne_Caller__command_number_p, ne_Caller__command_age_p, ne_Caller__command__rota_p, ne_Caller__command_front_p, ne_Caller__command__patience_p, ne_Caller__command__waited_p, ne_Caller_busy_origin_p, ne_Caller_busy_number_p, ne_Caller_busy_age_p, ne_Caller_busy__rota_p, ne_Caller_busy_front_p, ne_Caller_busy__patience_p, ne_Caller_busy__waited_p, ne_Caller_busy__command_p, ne_Caller_ask_origin_p, ne_Caller_ask_number_p, ne_Caller_ask_age_p, ne_Caller_ask__rota_p, ne_Caller_ask_front_p, ne_Caller_ask__patience_p, ne_Caller_ask__waited_p, ne_Caller_ask__command_p, ne_Caller_tick_origin_p, ne_Caller_tick_number_p, ne_Caller_tick_age_p, ne_Caller_tick__rota_p, ne_Caller_tick_front_p, ne_Caller_tick__patience_p, ne_Caller_tick__waited_p, ne_Caller_tick__command_p, ne_Caller_hear_origin_p, ne_Caller_hear_number_p, ne_Caller_hear_age_p, ne_Caller_hear__rota_p, ne_Caller_hear_front_p, ne_Caller_hear__patience_p, ne_Caller_hear__waited_p, ne_Caller_hear__command_p, ne_Caller__send_origin_p, ne_Caller__send_number_p, ne_Caller__send_age_p, ne_Caller__send__rota_p, ne_Caller__send_front_p, ne_Caller__send__patience_p, ne_Caller__send__waited_p, ne_Caller__send__command_p]
theorem fl_Caller__command {v0 v1 v2 v3 v4 v5 v6 v7 : V} : (fl_Caller v0 v1 v2 v3 v4 v5 v6 v7).lookup ("_command" : Str) = some v7 := by unfold fl_Caller; simp [List.lookup, ne_Caller_origin_number, ne_Caller_origin_age, ne_Caller_origin__rota, ne_Caller_origin_front, ne_Caller_origin__patience, ne_Caller_origin__waited, ne_Caller_origin__command, ne_Caller_number_origin, ne_Caller_number_age, ne_Caller_number__rota, ne_Caller_number_front, ne_Caller_number__patience, ne_Caller_number__waited, ne_Caller_number__command, ne_Caller_age_origin, ne_Caller_age_number, ne_Caller_age__rota, ne_Caller_age_front, ne_Caller_age__patience, ne_Caller_age__waited, ne_Caller_age__command, ne_Caller__rota_origin, ne_Caller__rota_number, ne_Caller__rota_age, ne_Caller__rota_front, ne_Caller__rota__patience, ne_Caller__rota__waited, ne_Caller__rota__command, ne_Caller_front_origin, ne_Caller_front_number, ne_Caller_front_age, ne_Caller_front__rota, ne_Caller_front__patience, ne_Caller_front__waited, ne_Caller_front__command, ne_Caller__patience_origin, ne_Caller__patience_number, ne_Caller__patience_age, ne_Caller__patience__rota, ne_Caller__patience_front, ne_Caller__patience__waited, ne_Caller__patience__command, ne_Caller__waited_origin, ne_Caller__waited_number, ne_Caller__waited_age, ne_Caller__waited__rota, ne_Caller__waited_front, ne_Caller__waited__patience, ne_Caller__waited__command, ne_Caller__command_origin, ne_Caller__command_number, ne_Caller__command_age, ne_Caller__command__rota, ne_Caller__command_front, ne_Caller__command__patience, ne_Caller__command__waited, ne_Caller_busy_origin, ne_Caller_busy_number, ne_Caller_busy_age, ne_Caller_busy__rota, ne_Caller_busy_front, ne_Caller_busy__patience, ne_Caller_busy__waited, ne_Caller_busy__command, ne_Caller_ask_origin, ne_Caller_ask_number, ne_Caller_ask_age, ne_Caller_ask__rota, ne_Caller_ask_front, ne_Caller_ask__patience, ne_Caller_ask__waited, ne_Caller_ask__command, ne_Caller_tick_origin, ne_Caller_tick_number, ne_Caller_tick_age, ne_Caller_tick__rota, ne_Caller_tick_front, ne_Caller_tick__patience, ne_Caller_tick__waited, ne_Caller_tick__command, ne_Caller_hear_origin, ne_Caller_hear_number, ne_Caller_hear_age, ne_Caller_hear__rota, ne_Caller_hear_front, ne_Caller_hear__patience, ne_Caller_hear__waited, ne_Caller_hear__command, ne_Caller__send_origin, ne_Caller__send_number, ne_Caller__send_age, ne_Caller__send__rota, ne_Caller__send_front, ne_Caller__send__patience, ne_Caller__send__waited, ne_Caller__send__command, ne_Caller_origin_number_p, ne_Caller_origin_age_p, ne_Caller_origin__rota_p, ne_Caller_origin_front_p, ne_Caller_origin__patience_p, ne_Caller_origin__waited_p, ne_Caller_origin__command_p, ne_Caller_number_origin_p, ne_Caller_number_age_p, ne_Caller_number__rota_p, ne_Caller_number_front_p, ne_Caller_number__patience_p, ne_Caller_number__waited_p, ne_Caller_number__command_p, ne_Caller_age_origin_p, ne_Caller_age_number_p, ne_Caller_age__rota_p, ne_Caller_age_front_p, ne_Caller_age__patience_p, ne_Caller_age__waited_p, ne_Caller_age__command_p, ne_Caller__rota_origin_p, ne_Caller__rota_number_p, ne_Caller__rota_age_p, ne_Caller__rota_front_p, ne_Caller__rota__patience_p, ne_Caller__rota__waited_p, ne_Caller__rota__command_p, ne_Caller_front_origin_p, ne_Caller_front_number_p, ne_Caller_front_age_p, ne_Caller_front__rota_p, ne_Caller_front__patience_p, ne_Caller_front__waited_p, ne_Caller_front__command_p, ne_Caller__patience_origin_p, ne_Caller__patience_number_p, ne_Caller__patience_age_p, ne_Caller__patience__rota_p, ne_Caller__patience_front_p, ne_Caller__patience__waited_p, ne_Caller__patience__command_p, ne_Caller__waited_origin_p, ne_Caller__waited_number_p, ne_Caller__waited_age_p, ne_Caller__waited__rota_p, ne_Caller__waited_front_p, ne_Caller__waited__patience_p, ne_Caller__waited__command_p, ne_Caller__command_origin_p, ne_Caller__command_number_p, ne_Caller__command_age_p, ne_Caller__command__rota_p, ne_Caller__command_front_p, ne_Caller__command__patience_p, ne_Caller__command__waited_p, ne_Caller_busy_origin_p, ne_Caller_busy_number_p, ne_Caller_busy_age_p, ne_Caller_busy__rota_p, ne_Caller_busy_front_p, ne_Caller_busy__patience_p, ne_Caller_busy__waited_p, ne_Caller_busy__command_p, ne_Caller_ask_origin_p, ne_Caller_ask_number_p, ne_Caller_ask_age_p, ne_Caller_ask__rota_p, ne_Caller_ask_front_p, ne_Caller_ask__patience_p, ne_Caller_ask__waited_p, ne_Caller_ask__command_p, ne_Caller_tick_origin_p, ne_Caller_tick_number_p, ne_Caller_tick_age_p, ne_Caller_tick__rota_p, ne_Caller_tick_front_p, ne_Caller_tick__patience_p, ne_Caller_tick__waited_p, ne_Caller_tick__command_p, ne_Caller_hear_origin_p, ne_Caller_hear_number_p, ne_Caller_hear_age_p, ne_Caller_hear__rota_p, ne_Caller_hear_front_p, ne_Caller_hear__patience_p, ne_Caller_hear__waited_p, ne_Caller_hear__command_p, ne_Caller__send_origin_p, ne_Caller__send_number_p, ne_Caller__send_age_p, ne_Caller__send__rota_p, ne_Caller__send_front_p, ne_Caller__send__patience_p, ne_Caller__send__waited_p, ne_Caller__send__command_p]
theorem pf_Caller__command {v0 v1 v2 v3 v4 v5 v6 v7 x : V} : putF ("_command" : Str) x (fl_Caller v0 v1 v2 v3 v4 v5 v6 v7) = fl_Caller v0 v1 v2 v3 v4 v5 v6 x := by unfold fl_Caller; simp [putF, ne_Caller_origin_number, ne_Caller_origin_age, ne_Caller_origin__rota, ne_Caller_origin_front, ne_Caller_origin__patience, ne_Caller_origin__waited, ne_Caller_origin__command, ne_Caller_number_origin, ne_Caller_number_age, ne_Caller_number__rota, ne_Caller_number_front, ne_Caller_number__patience, ne_Caller_number__waited, ne_Caller_number__command, ne_Caller_age_origin, ne_Caller_age_number, ne_Caller_age__rota, ne_Caller_age_front, ne_Caller_age__patience, ne_Caller_age__waited, ne_Caller_age__command, ne_Caller__rota_origin, ne_Caller__rota_number, ne_Caller__rota_age, ne_Caller__rota_front, ne_Caller__rota__patience, ne_Caller__rota__waited, ne_Caller__rota__command, ne_Caller_front_origin, ne_Caller_front_number, ne_Caller_front_age, ne_Caller_front__rota, ne_Caller_front__patience, ne_Caller_front__waited, ne_Caller_front__command, ne_Caller__patience_origin, ne_Caller__patience_number, ne_Caller__patience_age, ne_Caller__patience__rota, ne_Caller__patience_front, ne_Caller__patience__waited, ne_Caller__patience__command, ne_Caller__waited_origin, ne_Caller__waited_number, ne_Caller__waited_age, ne_Caller__waited__rota, ne_Caller__waited_front, ne_Caller__waited__patience, ne_Caller__waited__command, ne_Caller__command_origin, ne_Caller__command_number, ne_Caller__command_age, ne_Caller__command__rota, ne_Caller__command_front, ne_Caller__command__patience, ne_Caller__command__waited, ne_Caller_busy_origin, ne_Caller_busy_number, ne_Caller_busy_age, ne_Caller_busy__rota, ne_Caller_busy_front, ne_Caller_busy__patience, ne_Caller_busy__waited, ne_Caller_busy__command, ne_Caller_ask_origin, ne_Caller_ask_number, ne_Caller_ask_age, ne_Caller_ask__rota, ne_Caller_ask_front, ne_Caller_ask__patience, ne_Caller_ask__waited, ne_Caller_ask__command, ne_Caller_tick_origin, ne_Caller_tick_number, ne_Caller_tick_age, ne_Caller_tick__rota, ne_Caller_tick_front, ne_Caller_tick__patience, ne_Caller_tick__waited, ne_Caller_tick__command, ne_Caller_hear_origin, ne_Caller_hear_number, ne_Caller_hear_age, ne_Caller_hear__rota, ne_Caller_hear_front, ne_Caller_hear__patience, ne_Caller_hear__waited, ne_Caller_hear__command, ne_Caller__send_origin, ne_Caller__send_number, ne_Caller__send_age, ne_Caller__send__rota, ne_Caller__send_front, ne_Caller__send__patience, ne_Caller__send__waited, ne_Caller__send__command, ne_Caller_origin_number_p, ne_Caller_origin_age_p, ne_Caller_origin__rota_p, ne_Caller_origin_front_p, ne_Caller_origin__patience_p, ne_Caller_origin__waited_p, ne_Caller_origin__command_p, ne_Caller_number_origin_p, ne_Caller_number_age_p, ne_Caller_number__rota_p, ne_Caller_number_front_p, ne_Caller_number__patience_p, ne_Caller_number__waited_p, ne_Caller_number__command_p, ne_Caller_age_origin_p, ne_Caller_age_number_p, ne_Caller_age__rota_p, ne_Caller_age_front_p, ne_Caller_age__patience_p, ne_Caller_age__waited_p, ne_Caller_age__command_p, ne_Caller__rota_origin_p, ne_Caller__rota_number_p, ne_Caller__rota_age_p, ne_Caller__rota_front_p, ne_Caller__rota__patience_p, ne_Caller__rota__waited_p, ne_Caller__rota__command_p, ne_Caller_front_origin_p, ne_Caller_front_number_p, ne_Caller_front_age_p, ne_Caller_front__rota_p, ne_Caller_front__patience_p, ne_Caller_front__waited_p, ne_Caller_front__command_p, ne_Caller__patience_origin_p, ne_Caller__patience_number_p, ne_Caller__patience_age_p, ne_Caller__patience__rota_p, ne_Caller__patience_front_p, ne_Caller__patience__waited_p, ne_Caller__patience__command_p, ne_Caller__waited_origin_p, ne_Caller__waited_number_p, ne_Caller__waited_age_p, ne_Caller__waited__rota_p, ne_Caller__waited_front_p, ne_Caller__waited__patience_p, ne_Caller__waited__command_p, ne_Caller__command_origin_p, ne_Caller__command_number_p, ne_Caller__command_age_p, ne_Caller__command__rota_p, ne_Caller__command_front_p, ne_Caller__command__patience_p, ne_Caller__command__waited_p, ne_Caller_busy_origin_p, ne_Caller_busy_number_p, ne_Caller_busy_age_p, ne_Caller_busy__rota_p, ne_Caller_busy_front_p, ne_Caller_busy__patience_p, ne_Caller_busy__waited_p, ne_Caller_busy__command_p, ne_Caller_ask_origin_p, ne_Caller_ask_number_p, ne_Caller_ask_age_p, ne_Caller_ask__rota_p, ne_Caller_ask_front_p, ne_Caller_ask__patience_p, ne_Caller_ask__waited_p, ne_Caller_ask__command_p, ne_Caller_tick_origin_p, ne_Caller_tick_number_p, ne_Caller_tick_age_p, ne_Caller_tick__rota_p, ne_Caller_tick_front_p, ne_Caller_tick__patience_p, ne_Caller_tick__waited_p, ne_Caller_tick__command_p, ne_Caller_hear_origin_p, ne_Caller_hear_number_p, ne_Caller_hear_age_p, ne_Caller_hear__rota_p, ne_Caller_hear_front_p, ne_Caller_hear__patience_p, ne_Caller_hear__waited_p, ne_Caller_hear__command_p, ne_Caller__send_origin_p, ne_Caller__send_number_p, ne_Caller__send_age_p, ne_Caller__send__rota_p, ne_Caller__send_front_p, ne_Caller__send__patience_p, ne_Caller__send__waited_p, ne_Caller__send__command_p]
theorem fl_Caller_no_busy {v0 v1 v2 v3 v4 v5 v6 v7 : V} : (fl_Caller v0 v1 v2 v3 v4 v5 v6 v7).lookup ("busy" : Str) = none := by unfold fl_Caller; simp [List.lookup, ne_Caller_origin_number, ne_Caller_origin_age, ne_Caller_origin__rota, ne_Caller_origin_front, ne_Caller_origin__patience, ne_Caller_origin__waited, ne_Caller_origin__command, ne_Caller_number_origin, ne_Caller_number_age, ne_Caller_number__rota, ne_Caller_number_front, ne_Caller_number__patience, ne_Caller_number__waited, ne_Caller_number__command, ne_Caller_age_origin, ne_Caller_age_number, ne_Caller_age__rota, ne_Caller_age_front, ne_Caller_age__patience, ne_Caller_age__waited, ne_Caller_age__command, ne_Caller__rota_origin, ne_Caller__rota_number, ne_Caller__rota_age, ne_Caller__rota_front, ne_Caller__rota__patience, ne_Caller__rota__waited, ne_Caller__rota__command, ne_Caller_front_origin, ne_Caller_front_number, ne_Caller_front_age, ne_Caller_front__rota, ne_Caller_front__patience, ne_Caller_front__waited, ne_Caller_front__command, ne_Caller__patience_origin, ne_Caller__patience_number, ne_Caller__patience_age, ne_Caller__patience__rota, ne_Caller__patience_front, ne_Caller__patience__waited, ne_Caller__patience__command, ne_Caller__waited_origin, ne_Caller__waited_number, ne_Caller__waited_age, ne_Caller__waited__rota, ne_Caller__waited_front, ne_Caller__waited__patience, ne_Caller__waited__command, ne_Caller__command_origin, ne_Caller__command_number, ne_Caller__command_age, ne_Caller__command__rota, ne_Caller__command_front, ne_Caller__command__patience, ne_Caller__command__waited, ne_Caller_busy_origin, ne_Caller_busy_number, ne_Caller_busy_age, ne_Caller_busy__rota, ne_Caller_busy_front, ne_Caller_busy__patience, ne_Caller_busy__waited, ne_Caller_busy__command, ne_Caller_ask_origin, ne_Caller_ask_number, ne_Caller_ask_age, ne_Caller_ask__rota, ne_Caller_ask_front, ne_Caller_ask__patience, ne_Caller_ask__waited, ne_Caller_ask__command, ne_Caller_tick_origin, ne_Caller_tick_number, ne_Caller_tick_age, ne_Caller_tick__rota, ne_Caller_tick_front, ne_Caller_tick__patience, ne_Caller_tick__waited, ne_Caller_tick__command, ne_Caller_hear_origin, ne_Caller_hear_number, ne_Caller_hear_age, ne_Caller_hear__rota, ne_Caller_hear_front, ne_Caller_hear__patience, ne_Caller_hear__waited, ne_Caller_hear__command, ne_Caller__send_origin, ne_Caller__send_number, ne_Caller__send_age, ne_Caller__send__rota, ne_Caller__send_front, ne_Caller__send__patience, ne_Caller__send__waited, ne_Caller__send__command, ne_Caller_origin_number_p, ne_Caller_origin_age_p, ne_Caller_origin__rota_p, ne_Caller_origin_front_p, ne_Caller_origin__patience_p, ne_Caller_origin__waited_p, ne_Caller_origin__command_p, ne_Caller_number_origin_p, ne_Caller_number_age_p, ne_Caller_number__rota_p, ne_Caller_number_front_p, ne_Caller_number__patience_p, ne_Caller_number__waited_p, ne_Caller_number__command_p, ne_Caller_age_origin_p, ne_Caller_age_number_p, ne_Caller_age__rota_p, ne_Caller_age_front_p, ne_Caller_age__patience_p, ne_Caller_age__waited_p, ne_Caller_age__command_p, ne_Caller__rota_origin_p, ne_Caller__rota_number_p, ne_Caller__rota_age_p, ne_Caller__rota_front_p, ne_Caller__rota__patience_p, ne_Caller__rota__waited_p, ne_Caller__rota__command_p, ne_Caller_front_origin_p, ne_Caller_front_number_p, ne_Caller_front_age_p, ne_Caller_front__rota_p, ne_Caller_front__patience_p, ne_Caller_front__waited_p, ne_Caller_front__command_p, ne_Caller__patience_origin_p, ne_Caller__patience_number_p, ne_Caller__patience_age_p, ne_Caller__patience__rota_p, ne_Caller__patience_front_p, ne_Caller__patience__waited_p, ne_Caller__patience__command_p, ne_Caller__waited_origin_p, ne_Caller__waited_number_p, ne_Caller__waited_age_p, ne_Caller__waited__rota_p, ne_Caller__waited_front_p, ne_Caller__waited__patience_p, ne_Caller__waited__command_p, ne_Caller__command_origin_p, ne_Caller__command_number_p, ne_Caller__command_age_p, ne_Caller__command__rota_p, ne_Caller__command_front_p, ne_Caller__command__patience_p, ne_Caller__command__waited_p, ne_Caller_busy_origin_p, ne_Caller_busy_number_p, ne_Caller_busy_age_p, ne_Caller_busy__rota_p, ne_Caller_busy_front_p, ne_Caller_busy__patience_p, ne_Caller_busy__waited_p, ne_Caller_busy__command_p, ne_Caller_ask_origin_p, ne_Caller_ask_number_p, ne_Caller_ask_age_p, ne_Caller_ask__rota_p, ne_Caller_ask_front_p, ne_Caller_ask__patience_p, ne_Caller_ask__waited_p, ne_Caller_ask__command_p, ne_Caller_tick_origin_p, ne_Caller_tick_number_p, ne_Caller_tick_age_p, ne_Caller_tick__rota_p, ne_Caller_tick_front_p, ne_Caller_tick__patience_p, ne_Caller_tick__waited_p, ne_Caller_tick__command_p, ne_Caller_hear_origin_p, ne_Caller_hear_number_p, ne_Caller_hear_age_p, ne_Caller_hear__rota_p, ne_Caller_hear_front_p, ne_Caller_hear__patience_p, ne_Caller_hear__waited_p, ne_Caller_hear__command_p, ne_Caller__send_origin_p, ne_Caller__send_number_p, ne_Caller__send_age_p, ne_Caller__send__rota_p, ne_Caller__send_front_p, ne_Caller__send__patience_p, ne_Caller__send__waited_p, ne_Caller__send__command_p]
theorem fl_Caller_no_ask {v0 v1 v2 v3 v4 v5 v6 v7 : V} : (fl_Caller v0 v1 v2 v3 v4 v5 v6 v7).lookup ("ask" : Str) = none := by unfold fl_Caller; simp [List.lookup, ne_Caller_origin_number, ne_Caller_origin_age, ne_Caller_origin__rota, ne_Caller_origin_front, ne_Caller_origin__patience, ne_Caller_origin__waited, ne_Caller_origin__command, ne_Caller_number_origin, ne_Caller_number_age, ne_Caller_number__rota, ne_Caller_number_front, ne_Caller_number__patience, ne_Caller_number__waited, ne_Caller_number__command, ne_Caller_age_origin, ne_Caller_age_number, ne_Caller_age__rota, ne_Caller_age_front, ne_Caller_age__patience, ne_Caller_age__waited, ne_Caller_age__command, ne_Caller__rota_origin, ne_Caller__rota_number, ne_Caller__rota_age, ne_Caller__rota_front, ne_Caller__rota__patience, ne_Caller__rota__waited, ne_Caller__rota__command, ne_Caller_front_origin, ne_Caller_front_number, ne_Caller_front_age, ne_Caller_front__rota, ne_Caller_front__patience, ne_Caller_front__waited, ne_Caller_front__command, ne_Caller__patience_origin, ne_Caller__patience_number, ne_Caller__patience_age, ne_Caller__patience__rota, ne_Caller__patience_front, ne_Caller__patience__waited, ne_Caller__patience__command, ne_Caller__waited_origin, ne_Caller__waited_number, ne_Caller__waited_age, ne_Caller__waited__rota, ne_Caller__waited_front, ne_Caller__waited__patience, ne_Caller__waited__command, ne_Caller__command_origin, ne_Caller__command_number, ne_Caller__command_age, ne_Caller__command__rota, ne_Caller__command_front, ne_Caller__command__patience, ne_Caller__command__waited, ne_Caller_busy_origin, ne_Caller_busy_number, ne_Caller_busy_age, ne_Caller_busy__rota, ne_Caller_busy_front, ne_Caller_busy__patience, ne_Caller_busy__waited, ne_Caller_busy__command, ne_Caller_ask_origin, ne_Caller_ask_number, ne_Caller_ask_age, ne_Caller_ask__rota, ne_Caller_ask_front, ne_Caller_ask__patience, ne_Caller_ask__waited, ne_Caller_ask__command, ne_Caller_tick_origin, ne_Caller_tick_number, ne_Caller_tick_age, ne_Caller_tick__rota, ne_Caller_tick_front, ne_Caller_tick__patience, ne_Caller_tick__waited, ne_Caller_tick__command, ne_Caller_hear_origin, ne_Caller_hear_number, ne_Caller_hear_age, ne_Caller_hear__rota, ne_Caller_hear_front, ne_Caller_hear__patience, ne_Caller_hear__waited, ne_Caller_hear__command, ne_Caller__send_origin, ne_Caller__send_number, ne_Caller__send_age, ne_Caller__send__rota, ne_Caller__send_front, ne_Caller__send__patience, ne_Caller__send__waited, ne_Caller__send__command, ne_Caller_origin_number_p, ne_Caller_origin_age_p, ne_Caller_origin__rota_p, ne_Caller_origin_front_p, ne_Caller_origin__patience_p, ne_Caller_origin__waited_p, ne_Caller_origin__command_p, ne_Caller_number_origin_p, ne_Caller_number_age_p, ne_Caller_number__rota_p, ne_Caller_number_front_p, ne_Caller_number__patience_p, ne_Caller_number__waited_p, ne_Caller_number__command_p, ne_Caller_age_origin_p, ne_Caller_age_number_p, ne_Caller_age__rota_p, ne_Caller_age_front_p, ne_Caller_age__patience_p, ne_Caller_age__waited_p, ne_Caller_age__command_p, ne_Caller__rota_origin_p, ne_Caller__rota_number_p, ne_Caller__rota_age_p, ne_Caller__rota_front_p, ne_Caller__rota__patience_p, ne_Caller__rota__waited_p, ne_Caller__rota__command_p, ne_Caller_front_origin_p, ne_Caller_front_number_p, ne_Caller_front_age_p, ne_Caller_front__rota_p, ne_Caller_front__patience_p, ne_Caller_front__waited_p, ne_Caller_front__command_p, ne_Caller__patience_origin_p, ne_Caller__patience_number_p, ne_Caller__patience_age_p, ne_Caller__patience__rota_p, ne_Caller__patience_front_p, ne_Caller__patience__waited_p, ne_Caller__patience__command_p, ne_Caller__waited_origin_p, ne_Caller__waited_number_p, ne_Caller__waited_age_p, ne_Caller__waited__rota_p, ne_Caller__waited_front_p, ne_Caller__waited__patience_p, ne_Caller__waited__command_p, ne_Caller__command_origin_p, ne_Caller__command_number_p, ne_Caller__command_age_p, ne_Caller__command__rota_p, ne_Caller__command_front_p, ne_Caller__command__patience_p, ne_Caller__command__waited_p, ne_Caller_busy_origin_p, ne_Caller_busy_number_p, ne_Caller_busy_age_p, ne_Caller_busy__rota_p, ne_Caller_busy_front_p, ne_Caller_busy__patience_p, ne_Caller_busy__waited_p, ne_Caller_busy__command_p, ne_Caller_ask_origin_p, ne_Caller_ask_number_p, ne_Caller_ask_age_p, ne_Caller_ask__rota_p, ne_Caller_ask_front_p, ne_Caller_ask__patience_p, ne_Caller_ask__waited_p, ne_Caller_ask__command_p, ne_Caller_tick_origin_p, ne_Caller_tick_number_p, ne_Caller_tick_age_p, ne_Caller_tick__rota_p, ne_Caller_tick_front_p, ne_Caller_tick__patience_p, ne_Caller_tick__waited_p, ne_Caller_tick__command_p, ne_Caller_hear_origin_p, ne_Caller_hear_number_p, ne_Caller_hear_age_p, ne_Caller_hear__rota_p, ne_Caller_hear_front_p, ne_Caller_hear__patience_p, ne_Caller_hear__waited_p, ne_Caller_hear__command_p, ne_Caller__send_origin_p, ne_Caller__send_number_p, ne_Caller__send_age_p, ne_Caller__send__rota_p, ne_Caller__send_front_p, ne_Caller__send__patience_p, ne_Caller__send__waited_p, ne_Caller__send__command_p]
theorem fl_Caller_no_tick {v0 v1 v2 v3 v4 v5 v6 v7 : V} : (fl_Caller v0 v1 v2 v3 v4 v5 v6 v7).lookup ("tick" : Str) = none := by unfold fl_Caller; simp [List.lookup, ne_Caller_origin_number, ne_Caller_origin_age, ne_Caller_origin__rota, ne_Caller_origin_front, ne_Caller_origin__patience, ne_Caller_origin__waited, ne_Caller_origin__command, ne_Caller_number_origin, ne_Caller_number_age, ne_Caller_number__rota, ne_Caller_number_front, ne_Caller_number__patience, ne_Caller_number__waited, ne_Caller_number__command, ne_Caller_age_origin, ne_Caller_age_number, ne_Caller_age__rota, ne_Caller_age_front, ne_Caller_age__patience, ne_Caller_age__waited, ne_Caller_age__command, ne_Caller__rota_origin, ne_Caller__rota_number, ne_Caller__rota_age, ne_Caller__rota_front, ne_Caller__rota__patience, ne_Caller__rota__waited, ne_Caller__rota__command, ne_Caller_front_origin, ne_Caller_front_number, ne_Caller_front_age, ne_Caller_front__rota, ne_Caller_front__patience, ne_Caller_front__waited, ne_Caller_front__command, ne_Caller__patience_origin, ne_Caller__patience_number, ne_Caller__patience_age, ne_Caller__patience__rota, ne_Caller__patience_front, ne_Caller__patience__waited, ne_Caller__patience__command, ne_Caller__waited_origin, ne_Caller__waited_number, ne_Caller__waited_age, ne_Caller__waited__rota, ne_Caller__waited_front, ne_Caller__waited__patience, ne_Caller__waited__command, ne_Caller__command_origin, ne_Caller__command_number, ne_Caller__command_age, ne_Caller__command__rota, ne_Caller__command_front, ne_Caller__command__patience, ne_Caller__command__waited, ne_Caller_busy_origin, ne_Caller_busy_number, ne_Caller_busy_age, ne_Caller_busy__rota, ne_Caller_busy_front, ne_Caller_busy__patience, ne_Caller_busy__waited, ne_Caller_busy__command, ne_Caller_ask_origin, ne_Caller_ask_number, ne_Caller_ask_age, ne_Caller_ask__rota, ne_Caller_ask_front, ne_Caller_ask__patience, ne_Caller_ask__waited, ne_Caller_ask__command, ne_Caller_tick_origin, ne_Caller_tick_number, ne_Caller_tick_age, ne_Caller_tick__rota, ne_Caller_tick_front, ne_Caller_tick__patience, ne_Caller_tick__waited, ne_Caller_tick__command, ne_Caller_hear_origin, ne_Caller_hear_number, ne_Caller_hear_age, ne_Caller_hear__rota, ne_Caller_hear_front, ne_Caller_hear__patience, ne_Caller_hear__waited, ne_Caller_hear__command, ne_Caller__send_origin, ne_Caller__send_number, ne_Caller__send_age, ne_Caller__send__rota, ne_Caller__send_front, ne_Caller__send__patience, ne_Caller__send__waited, ne_Caller__send__command, ne_Caller_origin_number_p, ne_Caller_origin_age_p, ne_Caller_origin__rota_p, ne_Caller_origin_front_p, ne_Caller_origin__patience_p, ne_Caller_origin__waited_p, ne_Caller_origin__command_p, ne_Caller_number_origin_p, ne_Caller_number_age_p, ne_Caller_number__rota_p, ne_Caller_number_front_p, ne_Caller_number__patience_p, ne_Caller_number__waited_p, ne_Caller_number__command_p, ne_Caller_age_origin_p, ne_Caller_age_number_p, ne_Caller_age__rota_p, ne_Caller_age_front_p, ne_Caller_age__patience_p, ne_Caller_age__waited_p, ne_Caller_age__command_p, ne_Caller__rota_origin_p, ne_Caller__rota_number_p, ne_Caller__rota_age_p, ne_Caller__rota_front_p, ne_Caller__rota__patience_p, ne_Caller__rota__waited_p, ne_Caller__rota__command_p, ne_Caller_front_origin_p, ne_Caller_front_number_p, ne_Caller_front_age_p, ne_Caller_front__rota_p, ne_Caller_front__patience_p, ne_Caller_front__waited_p, ne_Caller_front__command_p, ne_Caller__patience_origin_p, ne_Caller__patience_number_p, ne_Caller__patience_age_p, ne_Caller__patience__rota_p, ne_Caller__patience_front_p, ne_Caller__patience__waited_p, ne_Caller__patience__command_p, ne_Caller__waited_origin_p, ne_Caller__waited_number_p, ne_Caller__waited_age_p, ne_Caller__waited__rota_p, ne_Caller__waited_front_p, ne_Caller__waited__patience_p, ne_Caller__waited__command_p, ne_Caller__command_origin_p, ne_Caller__command_number_p, ne_Caller__command_age_p, ne_Caller__command__rota_p, ne_Caller__command_front_p, ne_Caller__command__patience_p, ne_Caller__command__waited_p, ne_Caller_busy_origin_p, ne_Caller_busy_number_p, ne_Caller_busy_age_p, ne_Caller_busy__rota_p, ne_Caller_busy_front_p, ne_Caller_busy__patience_p, ne_Caller_busy__waited_p, ne_Caller_busy__command_p, ne_Caller_ask_origin_p, ne_Caller_ask_number_p, ne_Caller_ask_age_p, ne_Caller_ask__rota_p, ne_Caller_ask_front_p, ne_Caller_ask__patience_p, ne_Caller_ask__waited_p, ne_Caller_ask__command_p, ne_Caller_tick_origin_p, ne_Caller_tick_number_p, ne_Caller_tick_age_p, ne_Caller_tick__rota_p, ne_Caller_tick_front_p, ne_Caller_tick__patience_p, ne_Caller_tick__waited_p, ne_Caller_tick__command_p, ne_Caller_hear_origin_p, ne_Caller_hear_number_p, ne_Caller_hear_age_p, ne_Caller_hear__rota_p, ne_Caller_hear_front_p, ne_Caller_hear__patience_p, ne_Caller_hear__waited_p, ne_Caller_hear__command_p, ne_Caller__send_origin_p, ne_Caller__send_number_p, ne_Caller__send_age_p, ne_Caller__send__rota_p, ne_Caller__send_front_p, ne_Caller__send__patience_p, ne_Caller__send__waited_p, ne_Caller__send__command_p]
theorem fl_Caller_no_hear {v0 v1 v2 v3 v4 v5 v6 v7 : V} : (fl_Caller v0 v1 v2 v3 v4 v5 v6 v7).lookup ("hear" : Str) = none := by unfold fl_Caller; simp [List.lookup, ne_Caller_origin_number, ne_Caller_origin_age, ne_Caller_origin__rota, ne_Caller_origin_front, ne_Caller_origin__patience, ne_Caller_origin__waited, ne_Caller_origin__command, ne_Caller_number_origin, ne_Caller_number_age, ne_Caller_number__rota, ne_Caller_number_front, ne_Caller_number__patience, ne_Caller_number__waited, ne_Caller_number__command, ne_Caller_age_origin, ne_Caller_age_number, ne_Caller_age__rota, ne_Caller_age_front, ne_Caller_age__patience, ne_Caller_age__waited, ne_Caller_age__command, ne_Caller__rota_origin, ne_Caller__rota_number, ne_Caller__rota_age, ne_Caller__rota_front, ne_Caller__rota__patience, ne_Caller__rota__waited, ne_Caller__rota__command, ne_Caller_front_origin, ne_Caller_front_number, ne_Caller_front_age, ne_Caller_front__rota, ne_Caller_front__patience, ne_Caller_front__waited, ne_Caller_front__command, ne_Caller__patience_origin, ne_Caller__patience_number, ne_Caller__patience_age, ne_Caller__patience__rota, ne_Caller__patience_front, ne_Caller__patience__waited, ne_Caller__patience__command, ne_Caller__waited_origin, ne_Caller__waited_number, ne_Caller__waited_age, ne_Caller__waited__rota, ne_Caller__waited_front, ne_Caller__waited__patience, ne_Caller__waited__command, ne_Caller__command_origin, ne_Caller__command_number, ne_Caller__command_age, ne_Caller__command__rota, ne_Caller__command_front, ne_Caller__command__patience, ne_Caller__command__waited, ne_Caller_busy_origin, ne_Caller_busy_number, ne_Caller_busy_age, ne_Caller_busy__rota, ne_Caller_busy_front, ne_Caller_busy__patience, ne_Caller_busy__waited, ne_Caller_busy__command, ne_Caller_ask_origin, ne_Caller_ask_number, ne_Caller_ask_age, ne_Caller_ask__rota, ne_Caller_ask_front, ne_Caller_ask__patience, ne_Caller_ask__waited, ne_Caller_ask__command, ne_Caller_tick_origin, ne_Caller_tick_number, ne_Caller_tick_age, ne_Caller_tick__rota, ne_Caller_tick_front, ne_Caller_tick__patience, ne_Caller_tick__waited, ne_Caller_tick__command, ne_Caller_hear_origin, ne_Caller_hear_number, ne_Caller_hear_age, ne_Caller_hear__rota, ne_Caller_hear_front, ne_Caller_hear__patience, ne_Caller_hear__waited, ne_Caller_hear__command, ne_Caller__send_origin, ne_Caller__send_number, ne_Caller__send_age, ne_Caller__send__rota, ne_Caller__send_front, ne_Caller__send__patience, ne_Caller__send__waited, ne_Caller__send__command, ne_Caller_origin_number_p, ne_Caller_origin_age_p, ne_Caller_origin__rota_p, ne_Caller_origin_front_p, ne_Caller_origin__patience_p, ne_Caller_origin__waited_p, ne_Caller_origin__command_p, ne_Caller_number_origin_p, ne_Caller_number_age_p, ne_Caller_number__rota_p, ne_Caller_number_front_p, ne_Caller_number__patience_p, ne_Caller_number__waited_p, ne_Caller_number__command_p, ne_Caller_age_origin_p, ne_Caller_age_number_p, ne_Caller_age__rota_p, ne_Caller_age_front_p, ne_Caller_age__patience_p, ne_Caller_age__waited_p, ne_Caller_age__command_p, ne_Caller__rota_origin_p, ne_Caller__rota_number_p, ne_Caller__rota_age_p, ne_Caller__rota_front_p, ne_Caller__rota__patience_p, ne_Caller__rota__waited_p, ne_Caller__rota__command_p, ne_Caller_front_origin_p, ne_Caller_front_number_p, ne_Caller_front_age_p, ne_Caller_front__rota_p, ne_Caller_front__patience_p, ne_Caller_front__waited_p, ne_Caller_front__command_p, ne_Caller__patience_origin_p, ne_Caller__patience_number_p, ne_Caller__patience_age_p, ne_Caller__patience__rota_p, ne_Caller__patience_front_p, ne_Caller__patience__waited_p, ne_Caller__patience__command_p, ne_Caller__waited_origin_p, ne_Caller__waited_number_p, ne_Caller__waited_age_p, ne_Caller__waited__rota_p, ne_Caller__waited_front_p, ne_Caller__waited__patience_p, ne_Caller__waited__command_p, ne_Caller__command_origin_p, ne_Caller__command_number_p, ne_Caller__command_age_p, ne_Caller__command__rota_p, ne_Caller__command_front_p, ne_Caller__command__patience_p, ne_Caller__command__waited_p, ne_Caller_busy_origin_p, ne_Caller_busy_number_p, ne_Caller_busy_age_p, ne_Caller_busy__rota_p, ne_Caller_busy_front_p, ne_Caller_busy__patience_p, ne_Caller_busy__waited_p, ne_Caller_busy__command_p, ne_Caller_ask_origin_p, ne_Caller_ask_number_p, ne_Caller_ask_age_p, ne_Caller_ask__rota_p, ne_Caller_ask_front_p, ne_Caller_ask__patience_p, ne_Caller_ask__waited_p, ne_Caller_ask__command_p, ne_Caller_tick_origin_p, ne_Caller_tick_number_p, ne_Caller_tick_age_p, ne_Caller_tick__rota_p, ne_Caller_tick_front_p, ne_Caller_tick__patience_p, ne_Caller_tick__waited_p, ne_Caller_tick__command_p, ne_Caller_hear_origin_p, ne_Caller_hear_number_p, ne_Caller_hear_age_p, ne_Caller_hear__rota_p, ne_Caller_hear_front_p, ne_Caller_hear__patience_p, ne_Caller_hear__waited_p, ne_Caller_hear__command_p, ne_Caller__send_origin_p, ne_Caller__send_number_p, ne_Caller__send_age_p, ne_Caller__send__rota_p, ne_Caller__send_front_p, ne_Caller__send__patience_p, ne_Caller__send__waited_p, ne_Caller__send__command_p]
theorem fl_Caller_no__send {v0 v1 v2 v3 v4 v5 v6 v7 : V} : (fl_Caller v0 v1 v2 v3 v4 v5 v6 v7).lookup ("_send" : Str) = none := by unfold fl_Caller; simp [List.lookup, ne_Caller_origin_number, ne_Caller_origin_age, ne_Caller_origin__rota, ne_Caller_origin_front, ne_Caller_origin__patience, ne_Caller_origin__waited, ne_Caller_origin__command, ne_Caller_number_origin, ne_Caller_number_age, ne_Caller_number__rota, ne_Caller_number_front, ne_Caller_number__patience, ne_Caller_number__waited, ne_Caller_number__command, ne_Caller_age_origin, ne_Caller_age_number, ne_Caller_age__rota, ne_Caller_age_front, ne_Caller_age__patience, ne_Caller_age__waited, ne_Caller_age__command, ne_Caller__rota_origin, ne_Caller__rota_number, ne_Caller__rota_age, ne_Caller__rota_front, ne_Caller__rota__patience, ne_Caller__rota__waited, ne_Caller__rota__command, ne_Caller_front_origin, ne_Caller_front_number, ne_Caller_front_age, ne_Caller_front__rota, ne_Caller_front__patience, ne_Caller_front__waited, ne_Caller_front__command, ne_Caller__patience_origin, ne_Caller__patience_number, ne_Caller__patience_age, ne_Caller__patience__rota, ne_Caller__patience_front, ne_Caller__patience__waited, ne_Caller__patience__command, ne_Caller__waited_origin, ne_Caller__waited_number, ne_Caller__waited_age, ne_Caller__waited__rota, ne_Caller__waited_front, ne_Caller__waited__patience, ne_Caller__waited__command, ne_Caller__command_origin, ne_Caller__command_number, ne_Caller__command_age, ne_Caller__command__rota, ne_Caller__command_front, ne_Caller__command__patience, ne_Caller__command__waited, ne_Caller_busy_origin, ne_Caller_busy_number, ne_Caller_busy_age, ne_Caller_busy__rota, ne_Caller_busy_front, ne_Caller_busy__patience, ne_Caller_busy__waited, ne_Caller_busy__command, ne_Caller_ask_origin, ne_Caller_ask_number, ne_Caller_ask_age, ne_Caller_ask__rota, ne_Caller_ask_front, ne_Caller_ask__patience, ne_Caller_ask__waited, ne_Caller_ask__command, ne_Caller_tick_origin, ne_Caller_tick_number, ne_Caller_tick_age, ne_Caller_tick__rota, ne_Caller_tick_front, ne_Caller_tick__patience, ne_Caller_tick__waited, ne_Caller_tick__command, ne_Caller_hear_origin, ne_Caller_hear_number, ne_Caller_hear_age, ne_Caller_hear__rota, ne_Caller_hear_front, ne_Caller_hear__patience, ne_Caller_hear__waited, ne_Caller_hear__command, ne_Caller__send_origin, ne_Caller__send_number, ne_Caller__send_age, ne_Caller__send__rota, ne_Caller__send_front, ne_Caller__send__patience, ne_Caller__send__waited, ne_Caller__send__command, ne_Caller_origin_number_p, ne_Caller_origin_age_p, ne_Caller_origin__rota_p, ne_Caller_origin_front_p, ne_Caller_origin__patience_p, ne_Caller_origin__waited_p, ne_Caller_origin__command_p, ne_Caller_number_origin_p, ne_Caller_number_age_p, ne_Caller_number__rota_p, ne_Caller_number_front_p, ne_Caller_number__patience_p, ne_Caller_number__waited_p, ne_Caller_number__command_p, ne_Caller_age_origin_p, ne_Caller_age_number_p, ne_Caller_age__rota_p, ne_Caller_age_front_p, ne_Caller_age__patience_p, ne_Caller_age__waited_p, ne_Caller_age__command_p, ne_Caller__rota_origin_p, ne_Caller__rota_number_p, ne_Caller__rota_age_p, ne_Caller__rota_front_p, ne_Caller__rota__patience_p, ne_Caller__rota__waited_p, ne_Caller__rota__command_p, ne_Caller_front_origin_p, ne_Caller_front_number_p, ne_Caller_front_age_p, ne_Caller_front__rota_p, ne_Caller_front__patience_p, ne_Caller_front__waited_p, ne_Caller_front__command_p, ne_Caller__patience_origin_p, ne_Caller__patience_number_p, ne_Caller__patience_age_p, ne_Caller__patience__rota_p, ne_Caller__patience_front_p, ne_Caller__patience__waited_p, ne_Caller__patience__command_p, ne_Caller__waited_origin_p, ne_Caller__waited_number_p, ne_Caller__waited_age_p, ne_Caller__waited__rota_p, ne_Caller__waited_front_p, ne_Caller__waited__patience_p, ne_Caller__waited__command_p, ne_Caller__command_origin_p, ne_Caller__command_number_p, ne_Caller__command_age_p, ne_Caller__command__rota_p, ne_Caller__command_front_p, ne_Caller__command__patience_p, ne_Caller__command__waited_p, ne_Caller_busy_origin_p, ne_Caller_busy_number_p, ne_Caller_busy_age_p, ne_Caller_busy__rota_p, ne_Caller_busy_front_p, ne_Caller_busy__patience_p, ne_Caller_busy__waited_p, ne_Caller_busy__command_p, ne_Caller_ask_origin_p, ne_Caller_ask_number_p, ne_Caller_ask_age_p, ne_Caller_ask__rota_p, ne_Caller_ask_front_p, ne_Caller_ask__patience_p, ne_Caller_ask__waited_p, ne_Caller_ask__command_p, ne_Caller_tick_origin_p, ne_Caller_tick_number_p, ne_Caller_tick_age_p, ne_Caller_tick__rota_p, ne_Caller_tick_front_p, ne_Caller_tick__patience_p, ne_Caller_tick__waited_p, ne_Caller_tick__command_p, ne_Caller_hear_origin_p, ne_Caller_hear_number_p, ne_Caller_hear_age_p, ne_Caller_hear__rota_p, ne_Caller_hear_front_p, ne_Caller_hear__patience_p, ne_Caller_hear__waited_p, ne_Caller_hear__command_p, ne_Caller__send_origin_p, ne_Caller__send_number_p, ne_Caller__send_age_p, ne_Caller__send__rota_p, ne_Caller__send_front_p, ne_Caller__send__patience_p, ne_Caller__send__waited_p, ne_Caller__send__command_p]
theorem fl_Caller_new {v0 v1 v2 v3 v4 v5 v6 v7 : V} : putF ("_command" : Str) v7 (putF ("_waited" : Str) v6 (putF ("_patience" : Str) v5 (putF ("front" : Str) v4 (putF ("_rota" : Str) v3 (putF ("age" : Str) v2 (putF ("number" : Str) v1 (putF ("origin" : Str) v0 ([])))))))) = fl_Caller v0 v1 v2 v3 v4 v5 v6 v7 := by unfold fl_Caller; simp [putF, ne_Caller_origin_number, ne_Caller_origin_age, ne_Caller_origin__rota, ne_Caller_origin_front, ne_Caller_origin__patience, ne_Caller_origin__waited, ne_Caller_origin__command, ne_Caller_number_origin, ne_Caller_number_age, ne_Caller_number__rota, ne_Caller_number_front, ne_Caller_number__patience, ne_Caller_number__waited, ne_Caller_number__command, ne_Caller_age_origin, ne_Caller_age_number, ne_Caller_age__rota, ne_Caller_age_front, ne_Caller_age__patience, ne_Caller_age__waited, ne_Caller_age__command, ne_Caller__rota_origin, ne_Caller__rota_number, ne_Caller__rota_age, ne_Caller__rota_front, ne_Caller__rota__patience, ne_Caller__rota__waited, ne_Caller__rota__command, ne_Caller_front_origin, ne_Caller_front_number, ne_Caller_front_age, ne_Caller_front__rota, ne_Caller_front__patience, ne_Caller_front__waited, ne_Caller_front__command, ne_Caller__patience_origin, ne_Caller__patience_number, ne_Caller__patience_age, ne_Caller__patience__rota, ne_Caller__patience_front, ne_Caller__patience__waited, ne_Caller__patience__command, ne_Caller__waited_origin, ne_Caller__waited_number, ne_Caller__waited_age, ne_Caller__waited__rota, ne_Caller__waited_front, ne_Caller__waited__patience, ne_Caller__waited__command, ne_Caller__command_origin, ne_Caller__command_number, ne_Caller__command_age, ne_Caller__command__rota, ne_Caller__command_front, ne_Caller__command__patience, ne_Caller__command__waited, ne_Caller_busy_origin, ne_Caller_busy_number, ne_Caller_busy_age, ne_Caller_busy__rota, ne_Caller_busy_front, ne_Caller_busy__patience, ne_Caller_busy__waited, ne_Caller_busy__command, ne_Caller_ask_origin, ne_Caller_ask_number, ne_Caller_ask_age, ne_Caller_ask__rota, ne_Caller_ask_front, ne_Caller_ask__patience, ne_Caller_ask__waited, ne_Caller_ask__command, ne_Caller_tick_origin, ne_Caller_tick_number, ne_Caller_tick_age, ne_Caller_tick__rota, ne_Caller_tick_front, ne_Caller_tick__patience, ne_Caller_tick__waited, ne_Caller_tick__command, ne_Caller_hear_origin, ne_Caller_hear_number, ne_Caller_hear_age, ne_Caller_hear__rota, ne_Caller_hear_front, ne_Caller_hear__patience, ne_Caller_hear__waited, ne_Caller_hear__command, ne_Caller__send_origin, ne_Caller__send_number, ne_Caller__send_age, ne_Caller__send__rota, ne_Caller__send_front, ne_Caller__send__patience, ne_Caller__send__waited, ne_Caller__send__command, ne_Caller_origin_number_p, ne_Caller_origin_age_p, ne_Caller_origin__rota_p, ne_Caller_origin_front_p, ne_Caller_origin__patience_p, ne_Caller_origin__waited_p, ne_Caller_origin__command_p, ne_Caller_number_origin_p, ne_Caller_number_age_p, ne_Caller_number__rota_p, ne_Caller_number_front_p, ne_Caller_number__patience_p, ne_Caller_number__waited_p, ne_Caller_number__command_p, ne_Caller_age_origin_p, ne_Caller_age_number_p, ne_Caller_age__rota_p, ne_Caller_age_front_p, ne_Caller_age__patience_p, ne_Caller_age__waited_p, ne_Caller_age__command_p, ne_Caller__rota_origin_p, ne_Caller__rota_number_p, ne_Caller__rota_age_p, ne_Caller__rota_front_p, ne_Caller__rota__patience_p, ne_Caller__rota__waited_p, ne_Caller__rota__command_p, ne_Caller_front_origin_p, ne_Caller_front_number_p, ne_Caller_front_age_p, ne_Caller_front__rota_p, ne_Caller_front__patience_p, ne_Caller_front__waited_p, ne_Caller_front__command_p, ne_Caller__patience_origin_p, ne_Caller__patience_number_p, ne_Caller__patience_age_p, ne_Caller__patience__rota_p, ne_Caller__patience_front_p, ne_Caller__patience__waited_p, ne_Caller__patience__command_p, ne_Caller__waited_origin_p, ne_Caller__waited_number_p, ne_Caller__waited_age_p, ne_Caller__waited__rota_p, ne_Caller__waited_front_p, ne_Caller__waited__patience_p, ne_Caller__waited__command_p, ne_Caller__command_origin_p, ne_Caller__command_number_p, ne_Caller__command_age_p, ne_Caller__command__rota_p, ne_Caller__command_front_p, ne_Caller__command__patience_p, ne_Caller__command__waited_p, ne_Caller_busy_origin_p, ne_Caller_busy_number_p, ne_Caller_busy_age_p, ne_Caller_busy__rota_p, ne_Caller_busy_front_p, ne_Caller_busy__patience_p, ne_Caller_busy__waited_p, ne_Caller_busy__command_p, ne_Caller_ask_origin_p, ne_Caller_ask_number_p, ne_Caller_ask_age_p, ne_Caller_ask__rota_p, ne_Caller_ask_front_p, ne_Caller_ask__patience_p, ne_Caller_ask__waited_p, ne_Caller_ask__command_p, ne_Caller_tick_origin_p, ne_Caller_tick_number_p, ne_Caller_tick_age_p, ne_Caller_tick__rota_p, ne_Caller_tick_front_p, ne_Caller_tick__patience_p, ne_Caller_tick__waited_p, ne_Caller_tick__command_p, ne_Caller_hear_origin_p, ne_Caller_hear_number_p, ne_Caller_hear_age_p, ne_Caller_hear__rota_p, ne_Caller_hear_front_p, ne_Caller_hear__patience_p, ne_Caller_hear__waited_p, ne_Caller_hear__command_p, ne_Caller__send_origin_p, ne_Caller__send_number_p, ne_Caller__send_age_p, ne_Caller__send__rota_p, ne_Caller__send_front_p, ne_Caller__send__patience_p, ne_Caller__send__waited_p, ne_Caller__send__command_p]

section
open L2
variable {X : Cx} {pos : Pos}
/-- the members of a sequence pattern, by values: what is bound in each case -/
abbrev TM := List V → (Option (List V) → Prop) → Prop
structure MPs (X : Cx) (ps : List Pattern) (ns : List Str) (t : TM) : Prop where
  run : ∀ (pins : List (Addr × Obj)) (s : Shared) (σ : L2.St) (H : Hp) (vs : List V) (us : List Value) (Q : Option (List V) → Prop), Inv X pins σ H s → Vals vs us → t vs Q →
    wpAny (model X.prog X.w) X.A (matchEach ps X.env us) (fun r s' => Inv X pins σ H s' ∧ match r with
      | none => Q none
      | some bs => ∃ ws uws, bs = ns.zip uws ∧ uws.length = ns.length ∧ Vals ws uws ∧ Q (some ws)) X.xe s
def mNil : TM := fun vs Q => vs = [] ∧ Q (some [])
def mCap (t : TM) : TM := fun vs Q => ∃ v r, vs = v :: r ∧ t r fun o => Q (o.map (v :: ·))
def mLit (c : Str) (t : TM) : TM := fun vs Q => ∃ x r, vs = .str x :: r ∧ if x = c then t r Q else Q none
theorem mp_nil : MPs X [] [] mNil := by
  refine ⟨fun pins s σ H vs us Q I r h => ?_⟩
  obtain ⟨e, h⟩ := h
  subst e; cases r
  exact wpAny_matchEach_nil ⟨I, [], [], rfl, rfl, .nil, h⟩
theorem mp_cap {ps : List Pattern} {n : Str} {ns : List Str} {t : TM} (h1 : MPs X ps ns t) : MPs X (.MatchAs none (some n) pos :: ps) (n :: ns) (mCap t) := by
  refine ⟨fun pins s σ H vs us Q I r h => ?_⟩
  obtain ⟨v, vr, e, h⟩ := h
  subst e
  cases r with
  | cons rv rr =>
    refine wpAny_matchEach_cons (wpAny_matchPattern_Capture ?_) rfl
    dsimp only
    refine thn (h1.run pins s σ H _ _ _ I rr h) fun r' s1 q => ?_
    obtain ⟨I1, q⟩ := q
    cases r' with
    | none => exact ⟨I1, q⟩
    | some more =>
      obtain ⟨ws, uws, e1, e2, rw', q⟩ := q
      subst e1
      exact ⟨I1, _ :: ws, _ :: uws, rfl, by simp [e2], .cons rv rw', q⟩
theorem mp_lit {ps : List Pattern} {c : Str} {j : Nat} {pc : Pos} {ns : List Str} {t : TM} (h1 : MPs X ps ns t) : MPs X (.MatchValue (.Constant (.str c) j pc) pos :: ps) ns (mLit c t) := by
  refine ⟨fun pins s σ H vs us Q I r h => ?_⟩
  obtain ⟨x, vr, e, h⟩ := h
  subst e
  cases r with
  | cons rv rr =>
    obtain ⟨tx, rfl⟩ := rv
    refine wpAny_matchEach_cons (wpAny_matchPattern_Value (Calls.Constant_str ?_)) rfl
    have I1 := I.tok (s.toks + 1)
    refine thn (op_eq pins _ σ H (.str x) (.str c) _ _ (fun v H' => v = .bl (decide (x = c)) ∧ H' = H) I1 ⟨_, rfl⟩ ⟨_, rfl⟩ ⟨rfl, by simp, rfl⟩) fun u s2 q => ?_
    obtain ⟨v, H', I2, ru, e1, e2⟩ := q
    subst e1; subst e2
    cases ru
    refine wpAny_truthy_bool ?_
    by_cases hx : x = c
    · rw [if_pos hx] at h
      rw [decide_eq_true hx, if_pos rfl]
      dsimp only
      refine thn (h1.run pins s2 σ H' _ _ _ I2 rr h) fun r' s3 q => ?_
      obtain ⟨I3, q⟩ := q
      cases r' with
      | none => exact ⟨I3, q⟩
      | some more => exact ⟨I3, by simpa using q⟩
    · rw [if_neg hx] at h
      rw [decide_eq_false hx, if_neg (by decide)]
      exact ⟨I2, h⟩
/-- the names of the pattern are locals at these places -/
def NsAt (X : Cx) : List Str → List Nat → Prop
  | [], [] => True
  | x :: ns, i :: is => (X.N[i]? = some x ∧ X.env.scope.names.lookup x = some .local) ∧ NsAt X ns is
  | _, _ => False
def setAll : L2.St → List Nat → List V → L2.St
  | σ, i :: is, v :: vs => setAll (σ.set i (some v)) is vs
  | σ, _, _ => σ
theorem assign_all (hN : X.N.Nodup) : ∀ (ns : List Str) (is : List Nat) (pins : List (Addr × Obj)) (s : Shared) (σ : L2.St) (H : Hp) (ws : List V) (uws : List Value) (Q : Shared → Prop), NsAt X ns is → Inv X pins σ H s → uws.length = ns.length → Vals ws uws →
    (∀ s', Inv X pins (setAll σ is ws) H s' → Q s') →
    wpAny (model X.prog X.w) X.A (assignInOrder ((ns.zip uws).map fun (n, _) => bindName X.env n) ((ns.zip uws).map (·.2))) (fun _ s' => Q s') X.xe s
  | [], [], pins, s, σ, H, ws, uws, Q, hn, I, hl, r, h => wpAny_assignInOrder_none (h s (by cases r <;> simpa [setAll] using I))
  | x :: ns, i :: is, pins, s, σ, H, ws, uws, Q, hn, I, hl, r, h => by
    cases r with
    | nil => simp at hl
    | cons rv rr =>
      show wpAny _ _ (assignInOrder (_ :: _) (_ :: _)) _ _ _
      refine wpAny_assignInOrder_more (wpAny_bindName (store_ok I hN hn.1.1 (.inl hn.1.2) rv (fun s1 I1 => ?_) (.inr hn.1.2)))
      exact assign_all hN ns is pins s1 _ H _ _ Q hn.2 I1 (by simpa using hl) rr h
  | [], _ :: _, _, _, _, _, _, _, _, hn, _, _, _, _ => hn.elim
  | _ :: _, [], _, _, _, _, _, _, _, hn, _, _, _, _ => hn.elim
/-- the cases from one on, for a subject -/
structure MCs (X : Cx) (cs : List MatchCase) (t : V → TS) : Prop where
  run : ∀ (pins : List (Addr × Obj)) (s : Shared) (σ : L2.St) (H : Hp) (D : Ends) (v : V) (u : Value) (first : Bool), Inv X pins σ H s → RelV v u → t v D σ H →
    wpAny (model X.prog X.w) X.A (matchCases cs X.env u first) (SP X pins D) X.xe s
def cNil : V → TS := fun _ D σ H => D.nx σ H
theorem mc_nil : MCs X [] cNil := ⟨fun pins s σ H D v u first I r h => wpAny_matchCases_nil ⟨σ, H, I, h⟩⟩
def cSeq (K : PySem.W.Frag) (n : Nat) (tm : TM) (is : List Nat) (tb : TS) (tr : V → TS) : V → TS := fun v D σ H =>
  ∃ a xs, v = .ref a ∧ SqT K H a xs ∧ if xs.length = n then tm xs (fun o => match o with | none => tr v D σ H | some ws => tb D (setAll σ is ws) H) else tr v D σ H
theorem mc_seq {ps : List Pattern} {ns : List Str} {is : List Nat} {tm : TM} {body : List Stmt} {rest : List MatchCase} {tb : TS} {tr : V → TS} {n : Nat} (hc : X.calm = true) (hN : X.N.Nodup) (hp : MPs X ps ns tm) (hn : ps.length = n) (hi : NsAt X ns is) (hb : PSs X body tb) (hr : MCs X rest tr)
    (hstar : ps.findIdx? (·.isStar) = none := by rfl)
    (hwild : (ps.all fun p => p.isWildcard || (p.isStar && p.names.isEmpty)) = false := by rfl) :
    MCs X (⟨.MatchSequence ps pos, none, body⟩ :: rest) (cSeq X.K n tm is tb tr) := by
  refine ⟨fun pins s σ H D v u first I r h => ?_⟩
  obtain ⟨a, xs, e, hq, h⟩ := h
  subst e
  cases r
  obtain ⟨its, rv, ht, hz⟩ := I.tuple hq
  have hz2 : ((its.toArray.size : Nat) : Int) < 2 ^ 63 := by
    have e1 := rv.length
    have : sizeLine ≤ 2 ^ 62 := by decide
    simp only [List.size_toArray]
    omega
  have I0 := I.tok (s.toks + 1 + 1)
  refine wpAny_matchCases_cons ?_
  by_cases hx : xs.length = n
  · rw [if_pos hx] at h
    have hlen : its.toArray.size = ps.length := by rw [hn, ← hx, rv.length]; simp
    refine matchSeq_tuple_hit ht hz2 hlen ?_ hstar hwild
    rw [← hlen]
    refine unpackItems_tuple (s := { s with toks := s.toks + 1 + 1 }) (I.ok.hd hc) ht fun h' hx' => ?_
    have I1 : Inv X pins σ H { s with heap := h', toks := s.toks + 1 + 1 } := I.kept (t' := s.toks + 1 + 1) fun b o e => hx' b o (Nat.ne_of_lt (Heap.lt_size e)) e
    refine thn (hp.run pins _ σ H xs _ _ I1 (by simpa using rv) h) fun r' s1 q => ?_
    obtain ⟨I2, q⟩ := q
    cases r' with
    | none => exact hr.run pins s1 σ H D (.ref a) _ false I2 rfl q
    | some bs =>
      obtain ⟨ws, uws, e1, e2, rw', q⟩ := q
      subst e1
      exact assign_all hN ns is pins s1 σ H ws uws _ hi I2 e2 rw' fun s2 I3 => hb.run pins s2 _ H D I3 q
  · rw [if_neg hx] at h
    refine matchSeq_tuple_miss ht hz2 (by rw [hn]; intro e1; apply hx; rw [rv.length, ← e1]; simp) ?_ hstar hwild
    exact hr.run pins _ σ H D (.ref a) _ false I0 rfl h
def tMat (te : TE) (tc : V → TS) : TS := fun D σ H => te σ H fun v H1 => tc v D σ H1
theorem ps_match {e : Expr} {cs : List MatchCase} {te : TE} {tc : V → TS} (he : PE X e te) (hcs : MCs X cs tc) : PS X (.Match e cs pos) (tMat te tc) := by
  refine ⟨fun pins s σ H D I h => ?_⟩
  refine wpAny_Match (thn (he.run pins s σ H _ I h) fun u s1 ⟨v, H1, I1, r1, q1⟩ => ?_)
  exact hcs.run pins s1 σ H1 D v u true I1 r1 q1
end
/-! callers -/
def Fr (L : List Addr) (H H' : Hp) : Prop := ∀ x o, H x = some o → x ∉ L → H' x = some o
theorem Fr.refl (L : List Addr) (H : Hp) : Fr L H H := fun _ _ h _ => h
theorem Fr.trans {L : List Addr} {H H' H2 : Hp} (h : Fr L H H') (g : Fr L H' H2) : Fr L H H2 := fun x o e n => g x o (h x o e n) n
theorem Fr.of_same {L : List Addr} {H H' : Hp} (h : Same H H') : Fr L H H' := fun x o e _ => h x o e
theorem Fr.up {L : List Addr} {H H' : Hp} {a : Addr} {o : HO} (h : Fr L H H') (ha : a ∈ L) : Fr L H (upd H' a o) := fun x u e n => by
  rw [upd_ne (fun z => n (by rw [z]; exact ha))]
  exact h x u e n
theorem Fr.more {L M : List Addr} {H H' : Hp} (h : Fr L H H') (s : ∀ x ∈ L, x ∈ M) : Fr M H H' := fun x o e n => h x o e fun z => n (s x z)
/-- nothing of these is a list or a tuple -/
def NoSeq (H : Hp) (a : Addr) : Prop := (∃ C dx fs, H a = some (.ins C dx fs)) ∨ ∃ kvs, H a = some (.dK kvs)
section
variable {K : PySem.W.Frag} {H H' : Hp} {L : List Addr}
theorem rd_fr {a : Addr} {u : HO} (hu : ∀ C dx fs, u ≠ .ins C dx fs) (hd : ∀ kvs, u ≠ .dK kvs) (f : Fr L H H') (n : ∀ x ∈ L, NoSeq H x) (h : Rd H a u) : Rd H' a u := by
  rcases h with h | ⟨o, h⟩
  · refine .inl (f a _ h fun hm => ?_)
    rcases n a hm with ⟨C, dx, fs, e⟩ | ⟨kvs, e⟩
    · rw [e] at h; injection h with h; exact hu _ _ _ h.symm
    · rw [e] at h; injection h with h; exact hd _ h.symm
  · refine .inr ⟨o, f a _ h fun hm => ?_⟩
    rcases n a hm with ⟨C, dx, fs, e⟩ | ⟨kvs, e⟩
    · rw [e] at h; cases h
    · rw [e] at h; cases h
theorem sqt_fr {a : Addr} {xs : List V} (f : Fr L H H') (n : ∀ x ∈ L, NoSeq H x) (h : SqT K H a xs) : SqT K H' a xs :=
  h.imp (rd_fr (fun _ _ _ z => by cases z) (fun _ z => by cases z) f n) id
theorem sql_fr {a : Addr} {xs : List V} (f : Fr L H H') (n : ∀ x ∈ L, NoSeq H x) (h : SqL K H a xs) : SqL K H' a xs :=
  h.imp (rd_fr (fun _ _ _ z => by cases z) (fun _ z => by cases z) f n) id
mutual
theorem dp_fr (f : Fr L H H') (n : ∀ x ∈ L, NoSeq H x) : ∀ {v : V} {d : PyData}, Dp K H v d → Dp K H' v d
  | _, _, .non => .non
  | _, _, .bl b => .bl b
  | _, _, .int i => .int i
  | _, _, .str x => .str x
  | _, _, .lst q a => .lst (sql_fr f n q) (dpa_fr f n a)
  | _, _, .tup q a => .tup (sqt_fr f n q) (dpa_fr f n a)
theorem dpa_fr (f : Fr L H H') (n : ∀ x ∈ L, NoSeq H x) : ∀ {vs : List V} {ds : List PyData}, DpAll K H vs ds → DpAll K H' vs ds
  | _, _, .nil => .nil
  | _, _, .cons h t => .cons (dp_fr f n h) (dpa_fr f n t)
end
end
/-- what a caller and its model keep -/
structure CS where
  n : Int
  i : Nat
  w : Int
  g : Int
  t : Option Addr
structure CP where
  p : Addr
  r : Addr
  f : Addr
def tv : Option Addr → V
  | none => .non
  | some a => .ref a
structure PAt (K : PySem.W.Frag) (C R : Addr) (H : Hp) (a : CP) (org : Str) (fs : List Str) (pat : Int) (c : CS) : Prop where
  ob : ∃ dx cmd fr, H a.p = some (.ins C dx (fl_Caller (.str org) (.int c.n) (.int c.g) (.ref a.r) (.str fr) (.int pat) (.int c.w) cmd)) ∧ fs[c.i]? = some fr ∧ ((c.t = none ∧ cmd = .non) ∨ ∃ x y, c.t = some x ∧ cmd = .ref y ∧ SqT K H y [.str org, .int c.n, .ref x])
  ro : ∃ dx, H a.r = some (.ins R dx (fl_Rota (.ref a.f) (.int (((c.i + 1) % fs.length : Nat) : Int))))
  fr : SqT K H a.f (fs.map V.str)
  le : fs.length ≤ 4
def CP.all (a : CP) : List Addr := [a.p, a.r]
section
variable {K : PySem.W.Frag} {C R : Addr} {H H' : Hp} {a : CP} {org : Str} {fs : List Str} {pat : Int} {c : CS}
theorem PAt.frame {L : List Addr} (h : PAt K C R H a org fs pat c) (f : Fr L H H') (n : ∀ x ∈ L, NoSeq H x) (m : ∀ x ∈ a.all, x ∉ L) : PAt K C R H' a org fs pat c := by
  obtain ⟨⟨dx, cmd, fr, ob, e1, e2⟩, ⟨dx2, ro⟩, h3, h4⟩ := h
  refine ⟨⟨dx, cmd, fr, f _ _ ob (m _ (by simp [CP.all])), e1, ?_⟩, ⟨dx2, f _ _ ro (m _ (by simp [CP.all]))⟩, sqt_fr f n h3, h4⟩
  rcases e2 with e2 | ⟨x, y, e2, e3, e4⟩
  · exact .inl e2
  · exact .inr ⟨x, y, e2, e3, sqt_fr f n e4⟩
theorem PAt.same (h : PAt K C R H a org fs pat c) (s : Same H H') : PAt K C R H' a org fs pat c := h.frame (L := []) (fun x o e _ => s x o e) (fun x hx => by cases hx) (fun x _ => by simp)
theorem PAt.noseq (h : PAt K C R H a org fs pat c) : ∀ x ∈ a.all, NoSeq H x := fun x hx => by
  obtain ⟨⟨dx, cmd, fr, ob, _⟩, ⟨dx2, ro⟩, _⟩ := h
  have : x = a.p ∨ x = a.r := by simpa [CP.all] using hx
  rcases this with rfl | rfl
  · exact .inl ⟨_, _, _, ob⟩
  · exact .inl ⟨_, _, _, ro⟩
end
def trD (m : Int) (z : Str) : PyData := .tuple [.tuple [.tuple [.str "note", .str z, .int m]], .tuple [.tuple [.str "note", .str z, .tuple [.str "t", .str "", .str "", .int 0]]], .tuple []]
/-- the one effect: a transaction is sent -/
def sentD (org fr : Str) (n : Int) (d : PyData) : PyData := .list [.tuple [.str "send", .str fr, .tuple [.str "ask", .tuple [.str org, .int n, d]]]]
/-- the transaction under way, told as data -/
def TrIs (K : PySem.W.Frag) (H : Hp) (c : CS) (d : PyData) : Prop := ∀ x, c.t = some x → Dp K H (.ref x) d
def sp_rotanew (K : PySem.W.Frag) (R : Addr) : Sp := fun vs H Q _ => ∃ (p dx f : Addr) (xs : List V), vs = [.ref p, .ref f] ∧ H p = some (.ins R dx []) ∧ SqT K H f xs ∧ Q .non (upd H p (.ins R dx (fl_Rota (.ref f) (.int 0))))
def sp_turn (K : PySem.W.Frag) (R : Addr) : Sp := fun vs H Q _ => ∃ (r dx f : Addr) (fs : List Str) (i : Nat) (z : Str), vs = [.ref r] ∧ H r = some (.ins R dx (fl_Rota (.ref f) (.int (i : Int)))) ∧ SqT K H f (fs.map V.str) ∧ fs[i]? = some z ∧
  Q (.str z) (upd H r (.ins R dx (fl_Rota (.ref f) (.int (((i + 1) % fs.length : Nat) : Int)))))
section
variable {P : Program} {w : World} {K : PySem.W.Frag} {mg : Str → Option Value} {base : Heap}
theorem ok_Rota___init__ (T : TX K mg) : FnOk P w K mg base CX0 1 T.a_Rota___init__ T.d_Rota___init__ ["self", "names"] (sp_rotanew K T.a_Rota) := by
  refine T.F_Rota___init__.ok sc_Rota___init__ (fun vs H Q E h => ?_) (fun cdv A outer s H vs Q E hr h => ?_)
  · obtain ⟨p, dx, f, xs, rfl, _⟩ := h
    rfl
  · obtain ⟨p, dx, f, xs, rfl, ob, hf, q⟩ := h
    refine ⟨_, (pss_cons (ps_fld (pv 0) (pe_callTy call_tuple_of (by rfl) T.n_tuple (by decide +kernel) (pa_cons (pv 1) pa_nil)) rfl)
      (pss_one (ps_fld (pv 0) pe_int rfl))), ?_⟩
    refine ⟨_, rfl, f, xs, rfl, .inr ⟨hf, ?_⟩⟩
    refine ⟨_, rfl, p, T.a_Rota, dx, [], rfl, ob, T.K_Rota, T.na_Rota__names, (by show 0 < 1000; decide), ?_⟩
    refine ⟨_, rfl, p, T.a_Rota, dx, _, rfl, upd_same, T.K_Rota, T.na_Rota__turn, (by show 1 < 1000; decide), ?_⟩
    rw [upd_upd, fl_Rota_new]
    exact q
theorem ok_Rota_take_turn (T : TX K mg) : FnOk P w K mg base CX0 1 T.a_Rota_take_turn T.d_Rota_take_turn ["self"] (sp_turn K T.a_Rota) := by
  refine T.F_Rota_take_turn.ok sc_Rota_take_turn (fun vs H Q E h => ?_) (fun cdv A outer s H vs Q E hr h => ?_)
  · obtain ⟨r, dx, f, fs, i, z, rfl, _⟩ := h
    rfl
  · obtain ⟨r, dx, f, fs, i, z, rfl, ob, hf, hz, q⟩ := h
    refine ⟨_, (pss_cons (ps_set (i := 1) sc_Rota_take_turn.nd rfl (Or.inl rfl) (pe_ix ix_tup (pe_fld (pv 0) rfl) (pe_fld (pv 0) rfl) (fun _ _ => rfl)))
      (pss_cons (ps_fld (pv 0) (pe_op op_mod (pe_op op_add (pe_fld (pv 0) rfl) pe_int) (pe_callB call_len_seq (by rfl) T.n_len PySem.boot_len (pa_cons (pe_fld (pv 0) rfl) pa_nil))) rfl)
      (pss_one (ps_ret (pv 1))))), ?_⟩
    have hi : i < fs.length := (List.getElem?_eq_some_iff.mp hz).1
    refine ⟨_, rfl, r, _, dx, _, _, rfl, ob, T.K_Rota, T.na_Rota__names, fl_Rota__names, _, rfl, r, _, dx, _, _, rfl, ob, T.K_Rota, T.na_Rota__turn, fl_Rota__turn, f, _, _, .str z, rfl, rfl, hf, ?_, ?_⟩
    · exact atI_nat (by rw [List.getElem?_map, hz]; rfl)
    refine ⟨_, rfl, r, _, dx, _, _, rfl, ob, T.K_Rota, T.na_Rota__turn, fl_Rota__turn, _, _, rfl, rfl, _, rfl, r, _, dx, _, _, rfl, ob, T.K_Rota, T.na_Rota__names, fl_Rota__names, f, _, rfl, .inr hf, _, _, rfl, rfl, (by show (0 : Int) < _; rw [List.length_map]; omega), ?_⟩
    refine ⟨_, rfl, r, T.a_Rota, dx, _, rfl, ob, T.K_Rota, T.na_Rota__turn, (by show 2 < 1000; decide), ?_⟩
    rw [pf_Rota__turn]
    refine ⟨_, rfl, ?_⟩
    have e : ((i : Int) + 1) % (((fs.map V.str).length : Nat) : Int) = (((i + 1) % fs.length : Nat) : Int) := by rw [List.length_map]; simp
    dsimp only
    rw [e]
    exact q
def sp_cnew (K : PySem.W.Frag) (C R : Addr) : Sp := fun vs H Q _ => ∃ (p dx f : Addr) (org : Str) (fs : List Str) (pat : Int) (z : Str), vs = [.ref p, .str org, .ref f, .int pat] ∧ H p = some (.ins C dx []) ∧ SqT K H f (fs.map V.str) ∧ fs[0]? = some z ∧ fs.length ≤ 4 ∧
  ∀ (r : Addr) (H' : Hp), H r = none → PAt K C R H' ⟨p, r, f⟩ org fs pat ⟨0, 0, 0, 0, none⟩ → Fr [p] H H' → Q .non H'
def sp_busy (K : PySem.W.Frag) (C R : Addr) : Sp := fun vs H Q _ => ∃ (a : CP) (org : Str) (fs : List Str) (pat : Int) (c : CS), vs = [.ref a.p] ∧ PAt K C R H a org fs pat c ∧ Q (.bl c.t.isSome) H
def sp_csend (K : PySem.W.Frag) (C R : Addr) : Sp := fun vs H Q _ => ∃ (a : CP) (org : Str) (fs : List Str) (pat : Int) (c : CS) (x : Addr) (z : Str) (d : PyData), vs = [.ref a.p] ∧ PAt K C R H a org fs pat c ∧ c.t = some x ∧ fs[c.i]? = some z ∧ Dp K H (.ref x) d ∧
  ∀ (l : Addr) (xs : List V) (H' : Hp), H' l = some (.lst xs) → PAt K C R H' a org fs pat { c with w := 0 } → Dp K H' (.ref l) (sentD org z c.n d) → Fr a.all H H' → Q (.ref l) H'
theorem ok_Caller_busy (T : TX K mg) : FnOk P w K mg base CX0 1 T.a_Caller_busy T.d_Caller_busy ["self"] (sp_busy K T.a_Caller T.a_Rota) := by
  refine T.F_Caller_busy.ok sc_Caller_busy (fun vs H Q E h => ?_) (fun cdv A outer s H vs Q E hr h => ?_)
  · obtain ⟨a, org, fs, pat, c, rfl, _⟩ := h
    rfl
  · obtain ⟨a, org, fs, pat, c, rfl, hP, q⟩ := h
    refine ⟨_, (pss_one (ps_ret (pe_cmpR op_notN (pe_fld (pv 0) rfl) pe_non (nomark _)))), ?_⟩
    obtain ⟨dx, cmd, fr, ob, e1, e2⟩ := hP.ob
    refine ⟨_, rfl, a.p, _, dx, _, _, rfl, ob, T.K_Caller, T.na_Caller__command, fl_Caller__command, ?_⟩
    rcases e2 with ⟨e2, rfl⟩ | ⟨x, y, e2, rfl, _⟩
    · rw [e2] at q
      exact ⟨rfl, by simpa using q⟩
    · rw [e2] at q
      exact ⟨rfl, by simpa using q⟩
theorem ok_Caller__send (T : TX K mg) : FnOk P w K mg base CX0 1 T.a_Caller__send T.d_Caller__send ["self"] (sp_csend K T.a_Caller T.a_Rota) := by
  refine T.F_Caller__send.ok sc_Caller__send (fun vs H Q E h => ?_) (fun cdv A outer s H vs Q E hr h => ?_)
  · obtain ⟨a, org, fs, pat, c, x, z, d, rfl, _⟩ := h
    rfl
  · obtain ⟨a, org, fs, pat, c, x, z, d, rfl, hP, ht, hz, hd, q⟩ := h
    refine ⟨_, (pss_cons (ps_fld (pv 0) pe_int rfl)
      (pss_one (ps_ret (pe_lst (pa_cons (pe_tup (pa_cons pe_str (pa_cons (pe_fld (pv 0) rfl) (pa_cons (pe_tup (pa_cons pe_str (pa_cons (pe_fld (pv 0) rfl) pa_nil))) pa_nil)))) pa_nil))))), ?_⟩
    have ns := hP.noseq
    obtain ⟨⟨dx, cmd, fr, ob, e1, e2⟩, ⟨dx2, ro⟩, h3, h4⟩ := hP
    rw [hz] at e1
    injection e1 with e1
    subst e1
    rcases e2 with ⟨e2, _⟩ | ⟨x', y, e2, rfl, e4⟩
    · rw [ht] at e2; cases e2
    rw [ht] at e2
    injection e2 with e2
    subst e2
    have npr : a.p ≠ a.r := ne_of ob ro (by intro z; injection z with z1 z2 z3; simp [fl_Caller, fl_Rota] at z3)
    refine ⟨_, rfl, a.p, T.a_Caller, dx, _, rfl, ob, T.K_Caller, T.na_Caller__waited, (by show 8 < 1000; decide), ?_⟩
    rw [pf_Caller__waited]
    have f0 : Fr a.all H (upd H a.p (.ins T.a_Caller dx (fl_Caller (.str org) (.int c.n) (.int c.g) (.ref a.r) (.str z) (.int pat) (.int 0) (.ref y)))) := (Fr.refl _ _).up (by simp [CP.all])
    have ob2 : (upd H a.p (.ins T.a_Caller dx (fl_Caller (.str org) (.int c.n) (.int c.g) (.ref a.r) (.str z) (.int pat) (.int 0) (.ref y)))) a.p = some (.ins T.a_Caller dx (fl_Caller (.str org) (.int c.n) (.int c.g) (.ref a.r) (.str z) (.int pat) (.int 0) (.ref y))) := upd_same
    have ro2 : (upd H a.p (.ins T.a_Caller dx (fl_Caller (.str org) (.int c.n) (.int c.g) (.ref a.r) (.str z) (.int pat) (.int 0) (.ref y)))) a.r = some (.ins T.a_Rota dx2 (fl_Rota (.ref a.f) (.int (((c.i + 1) % fs.length : Nat) : Int)))) := by rw [upd_ne npr.symm]; exact ro
    have h32 := sqt_fr f0 ns h3
    have e42 := sqt_fr f0 ns e4
    have hd2 := dp_fr f0 ns hd
    dsimp only [L2.tSeq]
    generalize upd H a.p (.ins T.a_Caller dx (fl_Caller (.str org) (.int c.n) (.int c.g) (.ref a.r) (.str z) (.int pat) (.int 0) (.ref y))) = G at f0 ob2 ro2 h32 e42 hd2
    have hP2 : PAt K T.a_Caller T.a_Rota G a org fs pat { c with w := 0 } := ⟨⟨dx, _, z, ob2, hz, .inr ⟨x, y, ht, rfl, e42⟩⟩, ⟨dx2, ro2⟩, h32, h4⟩
    refine ⟨_, rfl, a.p, _, dx, _, _, rfl, ob2, T.K_Caller, T.na_Caller_front, fl_Caller_front, _, rfl, a.p, _, dx, _, _, rfl, ob2, T.K_Caller, T.na_Caller__command, fl_Caller__command, (by show 2 ≤ sizeLine; decide), fun t1 h1 => ⟨(by show 3 ≤ sizeLine; decide), fun t2 h2 => ⟨(by show 1 ≤ sizeLine; decide), fun l hl => ?_⟩⟩⟩
    have s1 := same_upd (o := .tup [.str "ask", .ref y]) h1
    have s2 := same_upd (o := .tup [.str "send", .str z, .ref t1]) h2
    have s3 := same_upd (o := .lst [.ref t2]) hl
    refine q l [.ref t2] _ upd_same (hP2.same ((s1.trans s2).trans s3)) (.lst (sql upd_same) (.cons (.tup (sqt_same s3 (sqt upd_same)) (.cons (.str _) (.cons (.str _) (.cons (.tup (sqt_same (s2.trans s3) (sqt upd_same)) (.cons (.str _) (.cons (.tup (sqt_same ((s1.trans s2).trans s3) e42) (.cons (.str _) (.cons (.int _) (.cons (dp_same ((s1.trans s2).trans s3) _ hd2) .nil)))) .nil))) .nil)))) .nil)) (f0.trans (Fr.of_same ((s1.trans s2).trans s3)))
def sp_cask (K : PySem.W.Frag) (C R B : Addr) : Sp := fun vs H Q E => ∃ (a : CP) (org : Str) (fs : List Str) (pat : Int) (c : CS) (x : Addr) (z : Str) (d : PyData), vs = [.ref a.p, .ref x] ∧ PAt K C R H a org fs pat c ∧ fs[c.i]? = some z ∧ Dp K H (.ref x) d ∧
  (c.t ≠ none → ∀ G, Same H G → E (.ref B) none G) ∧
  (c.t = none → ∀ (l : Addr) (xs : List V) (H' : Hp), H' l = some (.lst xs) → PAt K C R H' a org fs pat { c with n := c.n + 1, g := 0, w := 0, t := some x } → Dp K H' (.ref l) (sentD org z (c.n + 1) d) → Fr a.all H H' → Q (.ref l) H')
/-- the state behind a tick -/
def CS.aged (c : CS) : CS := { c with g := if 0 < c.n then c.g + 1 else c.g }
def CS.tick (c : CS) (pat : Int) (m : Nat) : CS :=
  if c.t = none then c.aged else if c.w + 1 < pat then { c.aged with w := c.w + 1 } else { c.aged with i := (c.i + 1) % m, w := 0 }
def tickD (c : CS) (pat : Int) (org : Str) (fs : List Str) (d : PyData) : PyData :=
  if c.t = none then .list [] else if c.w + 1 < pat then .list [] else sentD org ((fs[(c.i + 1) % fs.length]?).getD "") c.n d
def sp_ctick (K : PySem.W.Frag) (C R : Addr) : Sp := fun vs H Q _ => ∃ (a : CP) (org : Str) (fs : List Str) (pat : Int) (c : CS) (d : PyData), vs = [.ref a.p] ∧ PAt K C R H a org fs pat c ∧ TrIs K H c d ∧
  ∀ (l : Addr) (xs : List V) (H' : Hp), H' l = some (.lst xs) → PAt K C R H' a org fs pat (c.tick pat fs.length) → Dp K H' (.ref l) (tickD c pat org fs d) → Fr a.all H H' → Q (.ref l) H'
/-- a letter -/
inductive Lt where
  | told (o : Str) (n : Int) (an : Addr)
  | other
def LtAt (K : PySem.W.Frag) (H : Hp) (l : Addr) : Lt → Prop
  | .told o n an => SqT K H l [.str "told", .str o, .int n, .ref an]
  | .other => ∃ x y z, SqT K H l [.str "changes", x, y, z]
/-- the answer that a letter brings -/
def heard (c : CS) (org : Str) : Lt → Option Addr
  | .told o n an => if c.t ≠ none ∧ o = org ∧ n = c.n then some an else none
  | .other => none
def CS.hear (c : CS) (org : Str) (q : Lt) : CS := if heard c org q = none then c else { c with t := none }
def sp_chear (K : PySem.W.Frag) (C R : Addr) : Sp := fun vs H Q _ => ∃ (a : CP) (org : Str) (fs : List Str) (pat : Int) (c : CS) (l : Addr) (q : Lt), vs = [.ref a.p, .ref l] ∧ PAt K C R H a org fs pat c ∧ LtAt K H l q ∧
  ∀ H', PAt K C R H' a org fs pat (c.hear org q) → Fr a.all H H' → Q (tv (heard c org q)) H'
theorem npr_of {H : Hp} {a : CP} {org : Str} {fs : List Str} {pat : Int} {c : CS} {C R : Addr} (h : PAt K C R H a org fs pat c) : a.p ≠ a.r := by
  obtain ⟨⟨dx, cmd, fr, ob, e1, e2⟩, ⟨dx2, ro⟩, h3, h4⟩ := h
  exact ne_of ob ro (by intro z; injection z with z1 z2 z3; simp [fl_Caller, fl_Rota] at z3)
/-- the caller's own record is put anew -/
theorem PAt.put {H : Hp} {a : CP} {org : Str} {fs : List Str} {pat : Int} {c : CS} {C R : Addr} (h : PAt K C R H a org fs pat c) {dx : Addr} {n g w : Int} {fr : Str} {cmd : V} {t : Option Addr} (hf : fs[c.i]? = some fr) (hc : (t = none ∧ cmd = .non) ∨ ∃ x y, t = some x ∧ cmd = .ref y ∧ SqT K H y [.str org, .int n, .ref x]) :
    PAt K C R (upd H a.p (.ins C dx (fl_Caller (.str org) (.int n) (.int g) (.ref a.r) (.str fr) (.int pat) (.int w) cmd))) a org fs pat { n := n, i := c.i, w := w, g := g, t := t } := by
  have f0 : Fr a.all H (upd H a.p (.ins C dx (fl_Caller (.str org) (.int n) (.int g) (.ref a.r) (.str fr) (.int pat) (.int w) cmd))) := (Fr.refl _ _).up (by simp [CP.all])
  have ns := h.noseq
  have npr := npr_of h
  obtain ⟨⟨_, _, _, _⟩, ⟨dx2, ro⟩, h3, h4⟩ := h
  refine ⟨⟨dx, cmd, fr, upd_same, hf, ?_⟩, ⟨dx2, by rw [upd_ne npr.symm]; exact ro⟩, sqt_fr f0 ns h3, h4⟩
  rcases hc with hc | ⟨x, y, e1, e2, e3⟩
  · exact .inl hc
  · exact .inr ⟨x, y, e1, e2, sqt_fr f0 ns e3⟩
end
theorem same_new {H H' : Hp} {p dx : Addr} {o u : HO} (hp : H p = none) (hd : H dx = none) (f : Fr [p] (upd (upd H dx o) p u) H') : Same H H' := fun x v hx => by
  have n1 : x ≠ p := ne_of_none hx hp
  refine f x v ?_ (by simp [n1])
  rw [upd_ne n1, upd_ne (ne_of_none hx hd)]
  exact hx
section
variable {P : Program} {w : World} {K : PySem.W.Frag} {mg : Str → Option Value} {base : Heap}
theorem ok_Caller_ask (T : TX K mg) : FnOk P w K mg base (L2.CX P w) 3 T.a_Caller_ask T.d_Caller_ask ["self", "transaction"] (sp_cask K T.a_Caller T.a_Rota T.a_Busy) := by
  refine T.F_Caller_ask.okX sc_Caller_ask (fun vs H Q E h => ?_) (fun cdv A outer s H vs Q E hr h => ?_)
  · obtain ⟨a, org, fs, pat, c, x, z, d, rfl, _⟩ := h
    rfl
  · obtain ⟨a, org, fs, pat, c, x, z, d, rfl, hP, hz, hd, cB, cN⟩ := h
    refine ⟨_, (pss_cons (ps_if (pt_val (pe_prop (pv 0) T.K_Caller T.pr_Caller_busy (ok_Caller_busy T) (hr.mono (by decide)) T.b_Caller_busy .nil pass0 rfl)) (pss_one (ps_raise rfl (takes_of rfl rfl rfl rfl) (pmk_own PySem.F.excBase_ValueError T.x_Busy T.g_Busy T.k_Busy (raises_own T.s_Busy T.t_Busy) rfl))) pss_nil)
      (pss_cons (ps_fldaug (pv 0) pe_int in_add)
      (pss_cons (ps_fld (pv 0) pe_int rfl)
      (pss_cons (ps_fld (pv 0) (pe_tup (pa_cons (pe_fld (pv 0) rfl) (pa_cons (pe_fld (pv 0) rfl) (pa_cons (pv 1) pa_nil)))) rfl)
      (pss_one (ps_ret (pe_meth0 (pv 0) T.K_Caller T.m_Caller__send (ok_Caller__send T) (hr.mono (by decide)) T.b_Caller__send .nil pass0))))))), ?_⟩
    obtain ⟨dx, cmd, fr, ob, e1, e2⟩ := hP.ob
    refine ⟨_, rfl, a.p, dx, _, rfl, ob, a, org, fs, pat, c, rfl, hP, _, rfl, ifb2 (fun hb => ?_) (fun hb => ?_)⟩
    · have hn : c.t ≠ none := fun z => by rw [z] at hb; cases hb
      exact cB hn _ (fun _ _ z => z)
    have hn : c.t = none := by cases e : c.t with | none => rfl | some _ => rw [e] at hb; cases hb
    have c2 := cN hn
    rw [hz] at e1
    injection e1 with e1
    subst e1
    obtain ⟨_, rfl⟩ : c.t = none ∧ cmd = .non := e2.resolve_right fun ⟨x, y, q, _⟩ => by rw [hn] at q; cases q
    refine ⟨_, rfl, a.p, _, dx, _, _, rfl, ob, T.K_Caller, T.na_Caller_number, fl_Caller_number, _, _, rfl, rfl, dx, _, ob, (by show 8 < 1000; decide), ?_⟩
    rw [pf_Caller_number]
    refine ⟨_, rfl, a.p, T.a_Caller, dx, _, rfl, upd_same, T.K_Caller, T.na_Caller_age, (by show 8 < 1000; decide), ?_⟩
    rw [pf_Caller_age, upd_upd]
    have hP1 := hP.put (dx := dx) (n := c.n + 1) (g := 0) (w := c.w) (cmd := .non) (t := none) hz (.inl ⟨rfl, rfl⟩)
    have f1 : Fr a.all H (upd H a.p (.ins T.a_Caller dx (fl_Caller (.str org) (.int (c.n + 1)) (.int 0) (.ref a.r) (.str z) (.int pat) (.int c.w) .non))) := (Fr.refl _ _).up (by simp [CP.all])
    have ob1 : (upd H a.p (.ins T.a_Caller dx (fl_Caller (.str org) (.int (c.n + 1)) (.int 0) (.ref a.r) (.str z) (.int pat) (.int c.w) .non))) a.p = some (.ins T.a_Caller dx (fl_Caller (.str org) (.int (c.n + 1)) (.int 0) (.ref a.r) (.str z) (.int pat) (.int c.w) .non)) := upd_same
    have hd1 := dp_fr f1 hP.noseq hd
    dsimp only [L2.tSeq]
    generalize upd H a.p (.ins T.a_Caller dx (fl_Caller (.str org) (.int (c.n + 1)) (.int 0) (.ref a.r) (.str z) (.int pat) (.int c.w) .non)) = H1 at hP1 f1 ob1 hd1
    refine ⟨_, rfl, a.p, _, dx, _, _, rfl, ob1, T.K_Caller, T.na_Caller_origin, fl_Caller_origin, _, rfl, a.p, _, dx, _, _, rfl, ob1, T.K_Caller, T.na_Caller_number, fl_Caller_number, _, rfl, (by show 3 ≤ sizeLine; decide), fun y hy => ?_⟩
    have s2 := same_upd (o := .tup [.str org, .int (c.n + 1), .ref x]) hy
    have hP2 := hP1.same s2
    have ob2 := s2 _ _ ob1
    have hd2 := dp_same s2 _ hd1
    have hy2 : (upd H1 y (.tup [.str org, .int (c.n + 1), .ref x])) y = some (.tup [.str org, .int (c.n + 1), .ref x]) := upd_same
    have f2 := f1.trans (Fr.of_same (L := a.all) s2)
    generalize upd H1 y (.tup [.str org, .int (c.n + 1), .ref x]) = H2 at hP2 ob2 hd2 hy2 f2
    refine ⟨_, rfl, a.p, T.a_Caller, dx, _, rfl, ob2, T.K_Caller, T.na_Caller__command, (by show 8 < 1000; decide), ?_⟩
    rw [pf_Caller__command]
    have hP3 := hP2.put (dx := dx) (n := c.n + 1) (g := 0) (w := c.w) (cmd := .ref y) (t := some x) hz (.inr ⟨x, y, rfl, rfl, sqt hy2⟩)
    have f3 := f2.up (a := a.p) (o := .ins T.a_Caller dx (fl_Caller (.str org) (.int (c.n + 1)) (.int 0) (.ref a.r) (.str z) (.int pat) (.int c.w) (.ref y))) (by simp [CP.all])
    have ob3 : (upd H2 a.p (.ins T.a_Caller dx (fl_Caller (.str org) (.int (c.n + 1)) (.int 0) (.ref a.r) (.str z) (.int pat) (.int c.w) (.ref y)))) a.p = some (.ins T.a_Caller dx (fl_Caller (.str org) (.int (c.n + 1)) (.int 0) (.ref a.r) (.str z) (.int pat) (.int c.w) (.ref y))) := upd_same
    have hd3 := dp_fr f3 hP.noseq hd
    generalize upd H2 a.p (.ins T.a_Caller dx (fl_Caller (.str org) (.int (c.n + 1)) (.int 0) (.ref a.r) (.str z) (.int pat) (.int c.w) (.ref y))) = H3 at hP3 f3 ob3 hd3
    exact ⟨_, rfl, a.p, dx, _, rfl, ob3, fl_Caller_no__send, a, org, fs, pat, _, x, z, d, rfl, hP3, rfl, hz, hd3, fun l xs H4 e4 hP4 d4 f4 => c2 l xs H4 e4 hP4 d4 (f3.trans f4)⟩
theorem ok_Caller_hear (T : TX K mg) : FnOk P w K mg base CX0 3 T.a_Caller_hear T.d_Caller_hear ["self", "letter"] (sp_chear K T.a_Caller T.a_Rota) := by
  refine T.F_Caller_hear.ok sc_Caller_hear (fun vs H Q E h => ?_) (fun cdv A outer s H vs Q E hr h => ?_)
  · obtain ⟨a, org, fs, pat, c, l, q, rfl, _⟩ := h
    rfl
  · obtain ⟨a, org, fs, pat, c, l, q, rfl, hP, hL, cN⟩ := h
    refine ⟨_, (pss_cons (ps_match (pv 1) (mc_seq (n := 4) (is := [2, 3, 4]) (by rfl) sc_Caller_hear.nd (mp_lit (mp_cap (mp_cap (mp_cap mp_nil)))) rfl ⟨⟨rfl, rfl⟩, ⟨⟨rfl, rfl⟩, ⟨⟨rfl, rfl⟩, trivial⟩⟩⟩ (pss_one (ps_if (PW.pt (pw_and (pt_val (pe_prop (pv 0) T.K_Caller T.pr_Caller_busy (ok_Caller_busy T) (hr.mono (by decide)) T.b_Caller_busy .nil pass0 rfl)) (pw_and (pt_cmpR op_eq (pv 2) (pe_fld (pv 0) rfl) (nomark _)) (pw_and1 (pt_cmpR op_eq (pv 3) (pe_fld (pv 0) rfl) (nomark _)))))) (pss_cons (ps_fld (pv 0) pe_non rfl)
            (pss_one (ps_ret (pv 4)))) pss_nil)) mc_nil))
      (pss_one (ps_ret pe_non))), ?_⟩
    obtain ⟨dx, cmd, fr, ob, e1, e2⟩ := hP.ob
    cases q with
    | other =>
      obtain ⟨x, y, z, hL⟩ := hL
      refine ⟨_, rfl, l, _, rfl, hL, (if_pos (by rfl)).mpr ⟨_, _, rfl, (if_neg (by decide +kernel)).mpr ?_⟩⟩
      exact cN H hP (Fr.refl _ _)
    | told o n an =>
      refine ⟨_, rfl, l, _, rfl, hL, (if_pos (by rfl)).mpr ⟨_, _, rfl, (if_pos rfl).mpr ⟨_, _, rfl, _, _, rfl, _, _, rfl, rfl, ?_⟩⟩⟩
      have out : heard c org (.told o n an) = none → Q .non H := fun e => by
        have := cN H (by unfold CS.hear; rw [if_pos e]; exact hP) (Fr.refl _ _)
        rw [e] at this
        exact this
      dsimp only
      refine ⟨_, rfl, a.p, dx, _, rfl, ob, a, org, fs, pat, c, rfl, hP, _, rfl, ?_⟩
      refine ifb2 (fun hb => ?_) (fun hb => out ?_)
      · refine ⟨_, rfl, _, rfl, a.p, _, dx, _, _, rfl, ob, T.K_Caller, T.na_Caller_origin, fl_Caller_origin, rfl, _, rfl, ?_⟩
        dsimp only
        have ht : c.t ≠ none := fun z => by rw [z] at hb; cases hb
        by_cases ho : o = org
        · subst ho
          refine ifbt (by simp) ⟨_, rfl, _, rfl, a.p, _, dx, _, _, rfl, ob, T.K_Caller, T.na_Caller_number, fl_Caller_number, rfl, _, rfl, ?_⟩
          by_cases hn : n = c.n
          · subst hn
            refine ifbt (by simp) ?_
            have eh : heard c o (.told o c.n an) = some an := if_pos ⟨ht, rfl, rfl⟩
            refine ⟨_, rfl, a.p, T.a_Caller, dx, _, rfl, ob, T.K_Caller, T.na_Caller__command, (by show 8 < 1000; decide), ?_⟩
            rw [pf_Caller__command]
            refine ⟨_, rfl, ?_⟩
            have hP3 := hP.put (dx := dx) (n := c.n) (g := c.g) (w := c.w) (cmd := .non) (t := none) e1 (.inl ⟨rfl, rfl⟩)
            have := cN _ (by unfold CS.hear; rw [if_neg (by rw [eh]; simp)]; exact hP3) ((Fr.refl _ _).up (by simp [CP.all]))
            rw [eh] at this
            exact this
          · refine ifbf (by simp [hn]) (out ?_)
            exact if_neg fun h => hn h.2.2
        · refine ifbf (by simp [ho]) (out ?_)
          exact if_neg fun h => ho h.2.1
      · refine if_neg ?_
        rintro ⟨h1, _⟩
        cases e : c.t with
        | none => exact h1 e
        | some _ => rw [e] at hb; cases hb
theorem ok_Caller_tick (T : TX K mg) : FnOk P w K mg base CX0 3 T.a_Caller_tick T.d_Caller_tick ["self"] (sp_ctick K T.a_Caller T.a_Rota) := by
  refine T.F_Caller_tick.ok sc_Caller_tick (fun vs H Q E h => ?_) (fun cdv A outer s H vs Q E hr h => ?_)
  · obtain ⟨a, org, fs, pat, c, d, rfl, _⟩ := h
    rfl
  · obtain ⟨a, org, fs, pat, c, d, rfl, hP, hT, cN⟩ := h
    refine ⟨_, (C8.pss_cut (ps_if (pt_cmpR op_gt (pe_fld (pv 0) rfl) pe_int (nomark _)) (pss_one (ps_fldaug (pv 0) pe_int in_add)) pss_nil)
      (pss_cons (ps_if (pt_not (pt_val (pe_prop (pv 0) T.K_Caller T.pr_Caller_busy (ok_Caller_busy T) (hr.mono (by decide)) T.b_Caller_busy .nil pass0 rfl))) (pss_one (ps_ret (pe_lst pa_nil))) pss_nil)
      (pss_cons (ps_fldaug (pv 0) pe_int in_add)
      (pss_cons (ps_if (pt_cmpR op_lt (pe_fld (pv 0) rfl) (pe_fld (pv 0) rfl) (nomark _)) (pss_one (ps_ret (pe_lst pa_nil))) pss_nil)
      (pss_cons (ps_fld (pv 0) (pe_meth0 (pe_fld (pv 0) rfl) T.K_Rota T.m_Rota_take_turn (ok_Rota_take_turn T) (hr.mono (by decide)) T.b_Rota_take_turn .nil pass0) rfl)
      (pss_one (ps_ret (pe_meth0 (pv 0) T.K_Caller T.m_Caller__send (ok_Caller__send T) (hr.mono (by decide)) T.b_Caller__send .nil pass0)))))))), ?_⟩
    obtain ⟨dx, cmd, fr, ob, e1, e2⟩ := hP.ob
    refine ⟨fun σ' G => σ' = [some (.ref a.p)] ∧ PAt K T.a_Caller T.a_Rota G a org fs pat c.aged ∧ Fr a.all H G, ?_, ?_⟩
    · refine ⟨_, rfl, a.p, _, dx, _, _, rfl, ob, T.K_Caller, T.na_Caller_number, fl_Caller_number, _, _, rfl, rfl, _, rfl, ifd (fun hg => ?_) (fun hg => ?_)⟩
      · refine ⟨_, rfl, a.p, _, dx, _, _, rfl, ob, T.K_Caller, T.na_Caller_age, fl_Caller_age, _, _, rfl, rfl, dx, _, ob, (by show 8 < 1000; decide), ?_⟩
        rw [pf_Caller_age]
        refine ⟨rfl, ?_, (Fr.refl _ _).up (by simp [CP.all])⟩
        have := hP.put (dx := dx) (n := c.n) (g := c.g + 1) (w := c.w) (cmd := cmd) (t := c.t) e1 e2
        have e : c.aged = { n := c.n, i := c.i, w := c.w, g := c.g + 1, t := c.t } := by
          unfold CS.aged
          rw [if_pos (by simpa using hg)]
        rw [e]
        exact this
      · refine ⟨rfl, ?_, Fr.refl _ _⟩
        have e : c.aged = c := by
          unfold CS.aged
          rw [if_neg (by simpa using hg)]
        rw [e]
        exact hP
    rintro σ' G ⟨rfl, hP1, f1⟩
    obtain ⟨dx, cmd, fr, ob, e1, e2⟩ := hP1.ob
    have ti : c.aged.t = c.t := rfl
    refine ⟨_, rfl, a.p, dx, _, rfl, ob, a, org, fs, pat, c.aged, rfl, hP1, _, rfl, ?_⟩
    rw [ti]
    refine ifb2 (fun hb => ?_) (fun hb => ?_)
    · have hn : c.t = none := by cases e : c.t with | none => rfl | some _ => rw [e] at hb; cases hb
      refine ⟨Nat.zero_le _, fun l hl => ?_⟩
      have s2 := same_upd (o := .lst []) hl
      refine cN l [] _ upd_same ?_ ?_ (f1.trans (Fr.of_same s2))
      · unfold CS.tick
        rw [if_pos hn]
        exact hP1.same s2
      · unfold tickD
        rw [if_pos hn]
        exact .lst (sql upd_same) .nil
    have hn : c.t ≠ none := fun z => by rw [z] at hb; cases hb
    refine ⟨_, rfl, a.p, _, dx, _, _, rfl, ob, T.K_Caller, T.na_Caller__waited, fl_Caller__waited, _, _, rfl, rfl, dx, _, ob, (by show 8 < 1000; decide), ?_⟩
    rw [pf_Caller__waited]
    have hP2 := hP1.put (dx := dx) (n := c.n) (g := c.aged.g) (w := c.w + 1) (cmd := cmd) (t := c.t) e1 e2
    have ob2 : (upd G a.p (.ins T.a_Caller dx (fl_Caller (.str org) (.int c.n) (.int c.aged.g) (.ref a.r) (.str fr) (.int pat) (.int (c.w + 1)) cmd))) a.p = some (.ins T.a_Caller dx (fl_Caller (.str org) (.int c.n) (.int c.aged.g) (.ref a.r) (.str fr) (.int pat) (.int (c.w + 1)) cmd)) := upd_same
    have f2 : Fr a.all H (upd G a.p (.ins T.a_Caller dx (fl_Caller (.str org) (.int c.n) (.int c.aged.g) (.ref a.r) (.str fr) (.int pat) (.int (c.w + 1)) cmd))) := f1.up (by simp [CP.all])
    have f2' : Fr a.all G (upd G a.p (.ins T.a_Caller dx (fl_Caller (.str org) (.int c.n) (.int c.aged.g) (.ref a.r) (.str fr) (.int pat) (.int (c.w + 1)) cmd))) := (Fr.refl _ _).up (by simp [CP.all])
    dsimp only [L2.tSeq]
    change tIfS _ _ _ _ _ (upd G a.p (.ins T.a_Caller dx (fl_Caller (.str org) (.int c.n) (.int c.aged.g) (.ref a.r) (.str fr) (.int pat) (.int (c.w + 1)) cmd)))
    generalize upd G a.p (.ins T.a_Caller dx (fl_Caller (.str org) (.int c.n) (.int c.aged.g) (.ref a.r) (.str fr) (.int pat) (.int (c.w + 1)) cmd)) = G2 at hP2 ob2 f2 f2'
    refine ⟨_, rfl, a.p, _, dx, _, _, rfl, ob2, T.K_Caller, T.na_Caller__waited, fl_Caller__waited, _, rfl, a.p, _, dx, _, _, rfl, ob2, T.K_Caller, T.na_Caller__patience, fl_Caller__patience, _, _, rfl, rfl, _, rfl, ifd (fun hw => ?_) (fun hw => ?_)⟩
    · refine ⟨Nat.zero_le _, fun l hl => ?_⟩
      have s2 := same_upd (o := .lst []) hl
      have hw' : c.w + 1 < pat := hw
      refine cN l [] _ upd_same ?_ ?_ (f2.trans (Fr.of_same s2))
      · unfold CS.tick
        rw [if_neg hn, if_pos hw']
        exact hP2.same s2
      · unfold tickD
        rw [if_neg hn, if_pos hw']
        exact .lst (sql upd_same) .nil
    have hw' : ¬ c.w + 1 < pat := hw
    have npr := npr_of hP2
    have ns2 := hP2.noseq
    have hi : c.i < fs.length := (List.getElem?_eq_some_iff.mp e1).1
    have hj : (c.i + 1) % fs.length < fs.length := Nat.mod_lt _ (by omega)
    have hz : fs[(c.i + 1) % fs.length]? = some fs[(c.i + 1) % fs.length] := List.getElem?_eq_getElem hj
    obtain ⟨dx2, ro⟩ := hP2.ro
    refine ⟨_, rfl, a.p, _, dx, _, _, rfl, ob2, T.K_Caller, T.na_Caller__rota, fl_Caller__rota, a.r, dx2, _, rfl, ro, fl_Rota_no_take_turn, a.r, dx2, a.f, fs, (c.i + 1) % fs.length, _, rfl, ro, hP2.fr, hz, ?_⟩
    have hg : (fs[(c.i + 1) % fs.length]?).getD "" = fs[(c.i + 1) % fs.length] := by rw [hz]; rfl
    generalize fs[(c.i + 1) % fs.length] = z at hz hg
    have f3 : Fr a.all G2 (upd G2 a.r (.ins T.a_Rota dx2 (fl_Rota (.ref a.f) (.int ((((c.i + 1) % fs.length + 1) % fs.length : Nat) : Int))))) := (Fr.refl _ _).up (by simp [CP.all])
    have ro3 : (upd G2 a.r (.ins T.a_Rota dx2 (fl_Rota (.ref a.f) (.int ((((c.i + 1) % fs.length + 1) % fs.length : Nat) : Int))))) a.r = some (.ins T.a_Rota dx2 (fl_Rota (.ref a.f) (.int ((((c.i + 1) % fs.length + 1) % fs.length : Nat) : Int)))) := upd_same
    have ob3 : (upd G2 a.r (.ins T.a_Rota dx2 (fl_Rota (.ref a.f) (.int ((((c.i + 1) % fs.length + 1) % fs.length : Nat) : Int))))) a.p = some (.ins T.a_Caller dx (fl_Caller (.str org) (.int c.n) (.int c.aged.g) (.ref a.r) (.str fr) (.int pat) (.int (c.w + 1)) cmd)) := by rw [upd_ne npr]; exact ob2
    generalize upd G2 a.r (.ins T.a_Rota dx2 (fl_Rota (.ref a.f) (.int ((((c.i + 1) % fs.length + 1) % fs.length : Nat) : Int)))) = G3 at f3 ro3 ob3
    refine ⟨_, rfl, a.p, T.a_Caller, dx, _, rfl, ob3, T.K_Caller, T.na_Caller_front, (by show 8 < 1000; decide), ?_⟩
    rw [pf_Caller_front]
    have f4 := f3.up (a := a.p) (o := .ins T.a_Caller dx (fl_Caller (.str org) (.int c.n) (.int c.aged.g) (.ref a.r) (.str z) (.int pat) (.int (c.w + 1)) cmd)) (by simp [CP.all])
    have ob4 : (upd G3 a.p (.ins T.a_Caller dx (fl_Caller (.str org) (.int c.n) (.int c.aged.g) (.ref a.r) (.str z) (.int pat) (.int (c.w + 1)) cmd))) a.p = some (.ins T.a_Caller dx (fl_Caller (.str org) (.int c.n) (.int c.aged.g) (.ref a.r) (.str z) (.int pat) (.int (c.w + 1)) cmd)) := upd_same
    have ro4 : (upd G3 a.p (.ins T.a_Caller dx (fl_Caller (.str org) (.int c.n) (.int c.aged.g) (.ref a.r) (.str z) (.int pat) (.int (c.w + 1)) cmd))) a.r = some (.ins T.a_Rota dx2 (fl_Rota (.ref a.f) (.int ((((c.i + 1) % fs.length + 1) % fs.length : Nat) : Int)))) := by rw [upd_ne npr.symm]; exact ro3
    generalize upd G3 a.p (.ins T.a_Caller dx (fl_Caller (.str org) (.int c.n) (.int c.aged.g) (.ref a.r) (.str z) (.int pat) (.int (c.w + 1)) cmd)) = G4 at f4 ro4 ob4
    have hP4 : PAt K T.a_Caller T.a_Rota G4 a org fs pat { n := c.n, i := (c.i + 1) % fs.length, w := c.w + 1, g := c.aged.g, t := c.t } := by
      refine ⟨⟨dx, cmd, z, ob4, hz, ?_⟩, ⟨dx2, ro4⟩, sqt_fr f4 ns2 hP2.fr, hP2.le⟩
      rcases e2 with e2 | ⟨x, y, e2, e3, e4⟩
      · exact .inl e2
      · exact .inr ⟨x, y, e2, e3, sqt_fr f4 ns2 (sqt_fr f2' hP1.noseq e4)⟩
    obtain ⟨x, hx⟩ := Option.ne_none_iff_exists'.mp hn
    have f04 := f2.trans f4
    have hd := dp_fr f04 hP.noseq (hT x hx)
    refine ⟨_, rfl, a.p, dx, _, rfl, ob4, fl_Caller_no__send, a, org, fs, pat, _, x, z, d, rfl, hP4, hx, hz, hd, fun l xs H5 e5 hP5 d5 f5 => ?_⟩
    refine cN l xs H5 e5 ?_ ?_ (f04.trans f5)
    · unfold CS.tick
      rw [if_neg hn, if_neg hw']
      exact hP5
    · unfold tickD
      rw [if_neg hn, if_neg hw', hg]
      exact d5
theorem putF_le {f : Str} {v : V} {fs : List (Str × V)} {n : Nat} (h : fs.length ≤ n) : (putF f v fs).length ≤ n + 1 := by
  induction fs generalizing n with
  | nil => simp [putF]
  | cons p r ih =>
    unfold putF
    split
    · simp only [List.length_cons] at h ⊢
      omega
    · simp only [List.length_cons] at h ⊢
      have := ih (n := n - 1) (by omega)
      omega
theorem putF_lt {fs : List (Str × V)} {n : Nat} (h : fs.length ≤ n) (g : n < 1000) : fs.length < 1000 := by omega
theorem ok_Caller___init__ (T : TX K mg) : FnOk P w K mg base CX0 3 T.a_Caller___init__ T.d_Caller___init__ ["self", "origin", "fronts", "patience"] (sp_cnew K T.a_Caller T.a_Rota) := by
  refine okD T.FD_Caller___init__ sc_Caller___init__ (fun vs H Q E h => ?_) (fun cdv A outer s H vs Q E hr h => ?_)
  · obtain ⟨p, dx, f, org, fs, pat, z, rfl, _⟩ := h
    rfl
  · obtain ⟨p, dx, f, org, fs, pat, z, rfl, ob, hf, hz, h4, cN⟩ := h
    refine ⟨_, (pss_cons (ps_fld (pv 0) (pv 1) rfl)
      (pss_cons (ps_fld (pv 0) pe_int rfl)
      (pss_cons (ps_fld (pv 0) pe_int rfl)
      (pss_cons (ps_fld (pv 0) (pe_make T.M_Rota (ok_Rota___init__ T) (hr.mono (by decide)) (by rfl) T.g_Rota T.b_Rota___init__ .nil pass0 (pa_cons (pv 2) pa_nil)) rfl)
      (pss_cons (ps_fld (pv 0) (pe_meth0 (pe_fld (pv 0) rfl) T.K_Rota T.m_Rota_take_turn (ok_Rota_take_turn T) (hr.mono (by decide)) T.b_Rota_take_turn .nil pass0) rfl)
      (pss_cons (ps_fld (pv 0) (pv 3) rfl)
      (pss_cons (ps_fld (pv 0) pe_int rfl)
      (pss_one (ps_fld (pv 0) pe_non rfl))))))))), ?_⟩
    refine ⟨_, rfl, _, rfl, p, T.a_Caller, dx, [], rfl, ob, T.K_Caller, T.na_Caller_origin, (by show 0 < 1000; decide), ?_⟩
    refine ⟨_, rfl, p, T.a_Caller, dx, _, rfl, upd_same, T.K_Caller, T.na_Caller_number, (by show 1 < 1000; decide), ?_⟩
    rw [upd_upd]
    refine ⟨_, rfl, p, T.a_Caller, dx, _, rfl, upd_same, T.K_Caller, T.na_Caller_age, (putF_lt (putF_le (putF_le (Nat.le_refl 0))) (by decide)), ?_⟩
    rw [upd_upd]
    have f1 : Fr [p] H (upd H p (.ins T.a_Caller dx (putF "age" (.int 0) (putF "number" (.int 0) (putF "origin" (.str org) []))))) := (Fr.refl _ _).up (by simp)
    have ob1 : (upd H p (.ins T.a_Caller dx (putF "age" (.int 0) (putF "number" (.int 0) (putF "origin" (.str org) []))))) p = some (.ins T.a_Caller dx (putF "age" (.int 0) (putF "number" (.int 0) (putF "origin" (.str org) [])))) := upd_same
    have nf : ∀ x ∈ [p], NoSeq H x := fun x hx => by rw [List.mem_singleton] at hx; rw [hx]; exact .inl ⟨_, _, _, ob⟩
    have np : ∀ y, (upd H p (.ins T.a_Caller dx (putF "age" (.int 0) (putF "number" (.int 0) (putF "origin" (.str org) []))))) y = none → H y = none := fun y hy => by
      by_cases e : y = p
      · rw [e, upd_same] at hy; cases hy
      · rwa [upd_ne e] at hy
    dsimp only [L2.tSeq]
    generalize upd H p (.ins T.a_Caller dx (putF "age" (.int 0) (putF "number" (.int 0) (putF "origin" (.str org) [])))) = G at f1 ob1 np
    refine ⟨_, rfl, fun r dx2 hr hdx2 nr => ⟨r, dx2, f, _, rfl, upd_same, sqt_same (same_new hr hdx2 (Fr.refl _ _)) (sqt_fr f1 nf hf), rfl, ?_⟩⟩
    have s2 : Same G (upd (upd (upd G dx2 (.own r)) r (.ins T.a_Rota dx2 [])) r (.ins T.a_Rota dx2 (fl_Rota (.ref f) (.int 0)))) := same_new hr hdx2 ((Fr.refl _ _).up (by simp))
    have ro2 : (upd (upd (upd G dx2 (.own r)) r (.ins T.a_Rota dx2 [])) r (.ins T.a_Rota dx2 (fl_Rota (.ref f) (.int 0)))) r = some (.ins T.a_Rota dx2 (fl_Rota (.ref f) (.int ((0 : Nat) : Int)))) := upd_same
    have ob2 := s2 _ _ ob1
    have hr0 : H r = none := np _ hr
    have npr : p ≠ r := fun z => by rw [← z, ob1] at hr; cases hr
    have f2 : Fr [p] H (upd (upd (upd G dx2 (.own r)) r (.ins T.a_Rota dx2 [])) r (.ins T.a_Rota dx2 (fl_Rota (.ref f) (.int 0)))) := f1.trans (Fr.of_same s2)
    generalize upd (upd (upd G dx2 (.own r)) r (.ins T.a_Rota dx2 [])) r (.ins T.a_Rota dx2 (fl_Rota (.ref f) (.int 0))) = G2 at s2 ro2 ob2 f2
    have lk : (putF "_rota" (.ref r) (putF "age" (.int 0) (putF "number" (.int 0) (putF "origin" (.str org) [])))).lookup ("_rota" : Str) = some (.ref r) := by simp [putF, List.lookup, ne_Caller_origin_number, ne_Caller_origin_number_p, ne_Caller_number_origin, ne_Caller_number_origin_p, ne_Caller_age_origin, ne_Caller_age_origin_p, ne_Caller_age_number, ne_Caller_age_number_p, ne_Caller__rota_origin, ne_Caller__rota_origin_p, ne_Caller__rota_number, ne_Caller__rota_number_p, ne_Caller__rota_age, ne_Caller__rota_age_p, ne_Caller_origin__rota_p, ne_Caller_number__rota_p, ne_Caller_age__rota_p, ne_Caller_origin_age_p, ne_Caller_number_age_p]
    have lk2 : (putF "_rota" (.ref r) (putF "age" (.int 0) (putF "number" (.int 0) (putF "origin" (.str org) [])))).length < 1000 := putF_lt (putF_le (putF_le (putF_le (putF_le (Nat.le_refl 0))))) (by decide)
    refine ⟨_, rfl, p, T.a_Caller, dx, _, rfl, ob2, T.K_Caller, T.na_Caller__rota, (putF_lt (putF_le (putF_le (putF_le (Nat.le_refl 0)))) (by decide)), ?_⟩
    have ob3 : (upd G2 p (.ins T.a_Caller dx (putF "_rota" (.ref r) (putF "age" (.int 0) (putF "number" (.int 0) (putF "origin" (.str org) [])))))) p = some (.ins T.a_Caller dx (putF "_rota" (.ref r) (putF "age" (.int 0) (putF "number" (.int 0) (putF "origin" (.str org) []))))) := upd_same
    have ro3 : (upd G2 p (.ins T.a_Caller dx (putF "_rota" (.ref r) (putF "age" (.int 0) (putF "number" (.int 0) (putF "origin" (.str org) [])))))) r = some (.ins T.a_Rota dx2 (fl_Rota (.ref f) (.int ((0 : Nat) : Int)))) := by rw [upd_ne npr.symm]; exact ro2
    have f3 := f2.up (a := p) (o := .ins T.a_Caller dx (putF "_rota" (.ref r) (putF "age" (.int 0) (putF "number" (.int 0) (putF "origin" (.str org) []))))) (by simp)
    have f3' : Fr [p] H (upd G2 p (.ins T.a_Caller dx (putF "_rota" (.ref r) (putF "age" (.int 0) (putF "number" (.int 0) (putF "origin" (.str org) [])))))) := f3
    generalize upd G2 p (.ins T.a_Caller dx (putF "_rota" (.ref r) (putF "age" (.int 0) (putF "number" (.int 0) (putF "origin" (.str org) []))))) = G3 at ob3 ro3 f3 f3'
    refine ⟨_, rfl, p, _, dx, _, _, rfl, ob3, T.K_Caller, T.na_Caller__rota, lk, r, dx2, _, rfl, ro3, fl_Rota_no_take_turn, r, dx2, f, fs, 0, z, rfl, ro3, sqt_fr f3 nf hf, hz, ?_⟩
    have f4 : Fr [p, r] H (upd G3 r (.ins T.a_Rota dx2 (fl_Rota (.ref f) (.int (((0 + 1) % fs.length : Nat) : Int))))) := (f3.more (by intro x hx; simp at hx; simp [hx])).up (by simp)
    have ro4 : (upd G3 r (.ins T.a_Rota dx2 (fl_Rota (.ref f) (.int (((0 + 1) % fs.length : Nat) : Int))))) r = some (.ins T.a_Rota dx2 (fl_Rota (.ref f) (.int (((0 + 1) % fs.length : Nat) : Int)))) := upd_same
    have ob4 : (upd G3 r (.ins T.a_Rota dx2 (fl_Rota (.ref f) (.int (((0 + 1) % fs.length : Nat) : Int))))) p = some (.ins T.a_Caller dx (putF "_rota" (.ref r) (putF "age" (.int 0) (putF "number" (.int 0) (putF "origin" (.str org) []))))) := by rw [upd_ne npr]; exact ob3
    generalize upd G3 r (.ins T.a_Rota dx2 (fl_Rota (.ref f) (.int (((0 + 1) % fs.length : Nat) : Int)))) = G4 at f4 ro4 ob4
    refine ⟨_, rfl, p, T.a_Caller, dx, _, rfl, ob4, T.K_Caller, T.na_Caller_front, lk2, ?_⟩
    refine ⟨_, rfl, _, rfl, p, T.a_Caller, dx, _, rfl, upd_same, T.K_Caller, T.na_Caller__patience, (putF_lt (putF_le (putF_le (putF_le (putF_le (putF_le (Nat.le_refl 0)))))) (by decide)), ?_⟩
    rw [upd_upd]
    refine ⟨_, rfl, p, T.a_Caller, dx, _, rfl, upd_same, T.K_Caller, T.na_Caller__waited, (putF_lt (putF_le (putF_le (putF_le (putF_le (putF_le (putF_le (Nat.le_refl 0))))))) (by decide)), ?_⟩
    rw [upd_upd]
    refine ⟨_, rfl, p, T.a_Caller, dx, _, rfl, upd_same, T.K_Caller, T.na_Caller__command, (putF_lt (putF_le (putF_le (putF_le (putF_le (putF_le (putF_le (putF_le (Nat.le_refl 0)))))))) (by decide)), ?_⟩
    rw [upd_upd, fl_Caller_new]
    refine (fun fz => cN r _ hr0 ⟨⟨dx, .non, z, upd_same, hz, .inl ⟨rfl, rfl⟩⟩, ⟨dx2, by rw [upd_ne npr.symm]; exact ro4⟩, sqt_fr fz nf hf, h4⟩ fz) ?_
    intro x o hx hn
    simp only [List.mem_singleton] at hn
    rw [upd_ne hn]
    exact f4 x o hx (by simp [hn, ne_of_none hx hr0])
end
/-! the law's own dict -/
def stK (c : CS) : List (Key × V) := [(.inr "number", .int c.n), (.inr "at", .int (c.i : Int)), (.inr "waited", .int c.w), (.inr "age", .int c.g), (.inr "transaction", tv c.t)]
theorem v_n {c : CS} : valV (stK c) (.inr ("number" : Str)) = some (.int c.n) := rfl
theorem v_i {c : CS} : valV (stK c) (.inr ("at" : Str)) = some (.int (c.i : Int)) := rfl
theorem v_w {c : CS} : valV (stK c) (.inr ("waited" : Str)) = some (.int c.w) := rfl
theorem v_g {c : CS} : valV (stK c) (.inr ("age" : Str)) = some (.int c.g) := rfl
theorem v_t {c : CS} : valV (stK c) (.inr ("transaction" : Str)) = some (tv c.t) := rfl
theorem p_n {c : CS} {x : Int} : putK (stK c) (.inr ("number" : Str)) (.int x) = stK { c with n := x } := rfl
theorem p_i {c : CS} {x : Nat} : putK (stK c) (.inr ("at" : Str)) (.int (x : Int)) = stK { c with i := x } := rfl
theorem p_w {c : CS} {x : Int} : putK (stK c) (.inr ("waited" : Str)) (.int x) = stK { c with w := x } := rfl
theorem p_g {c : CS} {x : Int} : putK (stK c) (.inr ("age" : Str)) (.int x) = stK { c with g := x } := rfl
theorem p_t {c : CS} {x : Option Addr} : putK (stK c) (.inr ("transaction" : Str)) (tv x) = stK { c with t := x } := rfl
theorem p_0 : mergeK [] [(Sum.inr ("number" : Str), V.int 0), (.inr ("at" : Str), .int 0), (.inr ("waited" : Str), .int 0), (.inr ("age" : Str), .int 0), (.inr ("transaction" : Str), .non)] = stK ⟨0, 0, 0, 0, none⟩ := rfl
section
variable {H : Hp} {s : Addr} {c : CS}
theorem gg_n (e : H s = some (.dK (stK c))) : DGet H s (.str "number") (some (.int c.n)) := DGet.k (k := .inr ("number" : Str)) e
theorem gg_i (e : H s = some (.dK (stK c))) : DGet H s (.str "at") (some (.int (c.i : Int))) := DGet.k (k := .inr ("at" : Str)) e
theorem gg_w (e : H s = some (.dK (stK c))) : DGet H s (.str "waited") (some (.int c.w)) := DGet.k (k := .inr ("waited" : Str)) e
theorem gg_g (e : H s = some (.dK (stK c))) : DGet H s (.str "age") (some (.int c.g)) := DGet.k (k := .inr ("age" : Str)) e
theorem gg_t (e : H s = some (.dK (stK c))) : DGet H s (.str "transaction") (some (tv c.t)) := DGet.k (k := .inr ("transaction" : Str)) e
theorem pp_n (e : H s = some (.dK (stK c))) (x : Int) : DPut H s (.str "number") (.int x) (upd H s (.dK (stK { c with n := x }))) := DPut.k (k := .inr ("number" : Str)) e (by show 5 < sizeLine; decide)
theorem pp_i (e : H s = some (.dK (stK c))) (x : Nat) : DPut H s (.str "at") (.int (x : Int)) (upd H s (.dK (stK { c with i := x }))) := DPut.k (k := .inr ("at" : Str)) e (by show 5 < sizeLine; decide)
theorem pp_w (e : H s = some (.dK (stK c))) (x : Int) : DPut H s (.str "waited") (.int x) (upd H s (.dK (stK { c with w := x }))) := DPut.k (k := .inr ("waited" : Str)) e (by show 5 < sizeLine; decide)
theorem pp_g (e : H s = some (.dK (stK c))) (x : Int) : DPut H s (.str "age") (.int x) (upd H s (.dK (stK { c with g := x }))) := DPut.k (k := .inr ("age" : Str)) e (by show 5 < sizeLine; decide)
theorem pp_t (e : H s = some (.dK (stK c))) (x : Option Addr) : DPut H s (.str "transaction") (tv x) (upd H s (.dK (stK { c with t := x }))) := DPut.k (k := .inr ("transaction" : Str)) e (by show 5 < sizeLine; decide)
theorem st_noseq (e : H s = some (.dK (stK c))) : ∀ x ∈ [s], NoSeq H x := fun x hx => by rw [List.mem_singleton] at hx; rw [hx]; exact .inr ⟨_, e⟩
end
def sp_lsent (K : PySem.W.Frag) : Sp := fun vs H Q _ => ∃ (s f : Addr) (org : Str) (fs : List Str) (c : CS) (x : Addr) (z : Str) (d : PyData), vs = [.ref s, .ref f, .str org] ∧ H s = some (.dK (stK c)) ∧ SqT K H f (fs.map V.str) ∧ fs[c.i]? = some z ∧ c.t = some x ∧ Dp K H (.ref x) d ∧
  ∀ (l : Addr) (xs : List V) (H' : Hp), H' l = some (.lst xs) → H' s = some (.dK (stK { c with w := 0 })) → Dp K H' (.ref l) (sentD org z c.n d) → Fr [s] H H' → Q (.ref l) H'
def sp_ltick (K : PySem.W.Frag) : Sp := fun vs H Q _ => ∃ (s f : Addr) (org : Str) (fs : List Str) (pat : Int) (c : CS) (d : PyData), vs = [.ref s, .ref f, .str org, .int pat] ∧ H s = some (.dK (stK c)) ∧ SqT K H f (fs.map V.str) ∧ c.i < fs.length ∧ TrIs K H c d ∧
  ∀ (l : Addr) (xs : List V) (H' : Hp), H' l = some (.lst xs) → H' s = some (.dK (stK (c.tick pat fs.length))) → Dp K H' (.ref l) (tickD c pat org fs d) → Fr [s] H H' → Q (.ref l) H'
def sp_ltrans (K : PySem.W.Frag) : Sp := fun vs H Q _ => ∃ (n : Int), vs = [.int n] ∧ ∀ (x : Addr) (H' : Hp) (z : Str), PyData.strOk z = true → Same H H' → Dp K H' (.ref x) (trD n z) → Q (.ref x) H'
theorem len_small {i : Int} (h0 : 0 ≤ i) (h : i < 100) : (toString i : Str).length ≤ 10 := by
  have z : ∀ k : Nat, k < 100 → ((toString (k : Int) : String) : Str).length ≤ 10 := by decide +kernel
  have := z i.toNat (by omega)
  rwa [Int.toNat_of_nonneg h0] at this
theorem n_ok {i : Int} (h0 : 0 ≤ i) (h : i < 5) : PyData.strOk (Str.ofString "n" ++ Str.ofString (toString i)) = true := by
  have z : ∀ k : Nat, k < 5 → PyData.strOk (Str.ofString "n" ++ Str.ofString (toString (k : Int))) = true := by decide +kernel
  have := z i.toNat (by omega)
  rwa [Int.toNat_of_nonneg h0] at this
theorem m_ok {i : Int} (h0 : 0 ≤ i) (h : i < 31) : PyData.strOk (Str.ofString "m1." ++ Str.ofString (toString i)) = true := by
  have z : ∀ k : Nat, k < 31 → PyData.strOk (Str.ofString "m1." ++ Str.ofString (toString (k : Int))) = true := by decide +kernel
  have := z i.toNat (by omega)
  rwa [Int.toNat_of_nonneg h0] at this
theorem log_small {i : Int} (h0 : 0 ≤ i) (h : i < 1000) : i.natAbs.log2 < 1920 := Nat.lt_of_le_of_lt (Nat.log2_le_self _) (by omega)
section
variable {P : Program} {w : World} {K : PySem.W.Frag} {mg : Str → Option Value} {base : Heap}
theorem ok__law_sent (T : TX K mg) : FnOk P w K mg base CX0 1 T.a__law_sent T.d__law_sent ["state", "fronts", "origin"] (sp_lsent K) := by
  refine T.F__law_sent.ok sc__law_sent (fun vs H Q E h => ?_) (fun cdv A outer s' H vs Q E hr h => ?_)
  · obtain ⟨s, f, org, fs, c, x, z, d, rfl, _⟩ := h
    rfl
  · obtain ⟨s, f, org, fs, c, x, z, d, rfl, hs, hf, hz, ht, hd, q⟩ := h
    refine ⟨_, (pss_cons (ps_dput (hu_of hr) (pv 0) pe_str pe_int rfl)
      (pss_cons (ps_set (i := 3) sc__law_sent.nd rfl (Or.inl rfl) (pe_tup (pa_cons (pv 2) (pa_cons (pe_dget (hu_of hr) (pv 0) pe_str (fun _ _ => rfl)) (pa_cons (pe_dget (hu_of hr) (pv 0) pe_str (fun _ _ => rfl)) pa_nil)))))
      (pss_one (ps_ret (pe_lst (pa_cons (pe_tup (pa_cons pe_str (pa_cons (pe_ix ix_tup (pv 1) (pe_dget (hu_of hr) (pv 0) pe_str (fun _ _ => rfl)) (fun _ _ => rfl)) (pa_cons (pe_tup (pa_cons pe_str (pa_cons (pv 3) pa_nil))) pa_nil)))) pa_nil)))))), ?_⟩
    refine ⟨_, rfl, s, _, rfl, pp_w hs 0, ?_⟩
    have f1 : Fr [s] H (upd H s (.dK (stK { c with w := 0 }))) := (Fr.refl _ _).up (by simp)
    have hs1 : (upd H s (.dK (stK { c with w := 0 }))) s = some (.dK (stK { c with w := 0 })) := upd_same
    have hf1 := sqt_fr f1 (st_noseq hs) hf
    have hd1 := dp_fr f1 (st_noseq hs) hd
    change tSeq _ _ _ _ (upd H s (.dK (stK { c with w := 0 })))
    generalize upd H s (.dK (stK { c with w := 0 })) = G at f1 hs1 hf1 hd1
    have gt := gg_t hs1
    rw [show ({ c with w := 0 } : CS).t = some x from ht] at gt
    refine ⟨_, rfl, _, rfl, s, _, rfl, gg_n hs1, _, rfl, s, _, rfl, gt, (by show 3 ≤ sizeLine; decide), fun y hy => ?_⟩
    have s2 := same_upd (o := .tup [.str org, .int c.n, .ref x]) hy
    have hs2 := s2 _ _ hs1
    have hf2 := sqt_same s2 hf1
    have hd2 := dp_same s2 _ hd1
    have hy2 : (upd G y (.tup [.str org, .int c.n, .ref x])) y = some (.tup [.str org, .int c.n, .ref x]) := upd_same
    have f2 := f1.trans (Fr.of_same (L := [s]) s2)
    dsimp only [tv]
    generalize upd G y (.tup [.str org, .int c.n, .ref x]) = G2 at hs2 hf2 hd2 hy2 f2
    refine ⟨_, rfl, _, rfl, s, _, rfl, gg_i hs2, f, _, _, .str z, rfl, rfl, hf2, atI_nat (by rw [List.getElem?_map, hz]; rfl), _, rfl, (by show 2 ≤ sizeLine; decide), fun t1 h1 => ⟨(by show 3 ≤ sizeLine; decide), fun t2 h2 => ⟨(by show 1 ≤ sizeLine; decide), fun l hl => ?_⟩⟩⟩
    have s1 := same_upd (o := .tup [.str "ask", .ref y]) h1
    have s2 := same_upd (o := .tup [.str "send", .str z, .ref t1]) h2
    have s3 := same_upd (o := .lst [.ref t2]) hl
    have s13 := (s1.trans s2).trans s3
    exact q l [.ref t2] _ upd_same (s13 _ _ hs2) (.lst (sql upd_same) (.cons (.tup (sqt_same s3 (sqt upd_same)) (.cons (.str _) (.cons (.str _) (.cons (.tup (sqt_same (s2.trans s3) (sqt upd_same)) (.cons (.str _) (.cons (.tup (sqt_same s13 (sqt hy2)) (.cons (.str _) (.cons (.int _) (.cons (dp_same s13 _ hd2) .nil)))) .nil))) .nil)))) .nil)) (f2.trans (Fr.of_same s13))
theorem ok__law_tick (T : TX K mg) : FnOk P w K mg base CX0 2 T.a__law_tick T.d__law_tick ["state", "fronts", "origin", "patience"] (sp_ltick K) := by
  refine T.F__law_tick.ok sc__law_tick (fun vs H Q E h => ?_) (fun cdv A outer s' H vs Q E hr h => ?_)
  · obtain ⟨s, f, org, fs, pat, c, d, rfl, _⟩ := h
    rfl
  · obtain ⟨s, f, org, fs, pat, c, d, rfl, hs, hf, hi, hT, cN⟩ := h
    refine ⟨_, (C8.pss_cut (ps_if (pt_cmpR op_gt (pe_dget (hu_of hr) (pv 0) pe_str (fun _ _ => rfl)) pe_int (nomark _)) (pss_one (ps_dput (hu_of hr) (pv 0) pe_str (pe_op op_add (pe_dget (hu_of hr) (pv 0) pe_str (fun _ _ => rfl)) pe_int) rfl)) pss_nil)
      (pss_cons (ps_if (pt_cmpR op_isN (pe_dget (hu_of hr) (pv 0) pe_str (fun _ _ => rfl)) pe_non (nomark _)) (pss_one (ps_ret (pe_lst pa_nil))) pss_nil)
      (pss_cons (ps_dput (hu_of hr) (pv 0) pe_str (pe_op op_add (pe_dget (hu_of hr) (pv 0) pe_str (fun _ _ => rfl)) pe_int) rfl)
      (pss_cons (ps_if (pt_cmpR op_lt (pe_dget (hu_of hr) (pv 0) pe_str (fun _ _ => rfl)) (pv 3) (nomark _)) (pss_one (ps_ret (pe_lst pa_nil))) pss_nil)
      (pss_cons (ps_dput (hu_of hr) (pv 0) pe_str (pe_op op_mod (pe_callTy call_int1 (by rfl) T.n_int (by decide +kernel) (pa_cons (pe_op op_add (pe_dget (hu_of hr) (pv 0) pe_str (fun _ _ => rfl)) pe_int) pa_nil)) (pe_callB call_len_seq (by rfl) T.n_len PySem.boot_len (pa_cons (pv 1) pa_nil))) rfl)
      (pss_one (ps_ret (pe_call (ok__law_sent T) (hr.mono (by decide)) (by rfl) T.g__law_sent T.F__law_sent.kp T.b__law_sent .nil pass0 (pa_cons (pv 0) (pa_cons (pv 1) (pa_cons (pv 2) pa_nil))))))))))), ?_⟩
    refine ⟨fun σ' G => σ' = [some (.ref s), some (.ref f), some (.str org), some (.int pat)] ∧ G s = some (.dK (stK c.aged)) ∧ Fr [s] H G, ?_, ?_⟩
    · refine ⟨_, rfl, s, _, rfl, gg_n hs, _, _, rfl, rfl, _, rfl, ifd (fun hg => ?_) (fun hg => ?_)⟩
      · refine ⟨_, rfl, s, _, rfl, gg_g hs, _, _, rfl, rfl, _, rfl, s, _, rfl, pp_g hs _, rfl, ?_, (Fr.refl _ _).up (by simp)⟩
        rw [upd_same]
        unfold CS.aged
        rw [if_pos (by simpa using hg)]
      · refine ⟨rfl, ?_, Fr.refl _ _⟩
        have e : c.aged = c := by
          unfold CS.aged
          rw [if_neg (by simpa using hg)]
        rw [e]
        exact hs
    rintro σ' G ⟨rfl, hs1, f1⟩
    have ti : c.aged.t = c.t := rfl
    have gt := gg_t hs1
    rw [ti] at gt
    refine ⟨_, rfl, s, _, rfl, gt, rfl, _, rfl, ?_⟩
    by_cases hn : c.t = none
    · refine ifbt (by rw [hn]; simp [tv]) ⟨Nat.zero_le _, fun l hl => ?_⟩
      have s2 := same_upd (o := .lst []) hl
      refine cN l [] _ upd_same ?_ ?_ (f1.trans (Fr.of_same s2))
      · unfold CS.tick
        rw [if_pos hn]
        exact s2 _ _ hs1
      · unfold tickD
        rw [if_pos hn]
        exact .lst (sql upd_same) .nil
    obtain ⟨x, hx⟩ := Option.ne_none_iff_exists'.mp hn
    refine ifbf (by rw [hx]; simp [tv]) ?_
    refine ⟨_, rfl, s, _, rfl, gg_w hs1, _, _, rfl, rfl, _, rfl, s, _, rfl, pp_w hs1 _, ?_⟩
    have f2 := f1.up (a := s) (o := .dK (stK { c.aged with w := c.aged.w + 1 })) (by simp)
    have hs2 : (upd G s (.dK (stK { c.aged with w := c.aged.w + 1 }))) s = some (.dK (stK { c.aged with w := c.aged.w + 1 })) := upd_same
    change tSeq _ _ _ _ (upd G s (.dK (stK { c.aged with w := c.aged.w + 1 })))
    generalize upd G s (.dK (stK { c.aged with w := c.aged.w + 1 })) = G2 at hs2 f2
    have fe2 : Fr [s] H G2 := f2
    refine ⟨_, rfl, s, _, rfl, gg_w hs2, _, rfl, _, _, rfl, rfl, _, rfl, ifd (fun hw => ?_) (fun hw => ?_)⟩
    · refine ⟨Nat.zero_le _, fun l hl => ?_⟩
      have s2 := same_upd (o := .lst []) hl
      have hw' : c.w + 1 < pat := hw
      refine cN l [] _ upd_same ?_ ?_ (f2.trans (Fr.of_same s2))
      · unfold CS.tick
        rw [if_neg hn, if_pos hw']
        exact s2 _ _ hs2
      · unfold tickD
        rw [if_neg hn, if_pos hw']
        exact .lst (sql upd_same) .nil
    have hw' : ¬ c.w + 1 < pat := hw
    have hj : (c.i + 1) % fs.length < fs.length := Nat.mod_lt _ (by omega)
    have hz : fs[(c.i + 1) % fs.length]? = some fs[(c.i + 1) % fs.length] := List.getElem?_eq_getElem hj
    have hg : (fs[(c.i + 1) % fs.length]?).getD "" = fs[(c.i + 1) % fs.length] := by rw [hz]; rfl
    generalize fs[(c.i + 1) % fs.length] = z at hz hg
    have hf2 := sqt_fr f2 (st_noseq hs) hf
    have e : ((c.i : Int) + 1) % (((fs.map V.str).length : Nat) : Int) = (((c.i + 1) % fs.length : Nat) : Int) := by rw [List.length_map]; simp
    have pp := pp_i hs2 ((c.i + 1) % fs.length)
    rw [← e] at pp
    refine ⟨_, rfl, s, _, rfl, gg_i hs2, _, _, rfl, rfl, .inl ⟨_, rfl, _, rfl, f, _, rfl, .inr hf2, _, _, rfl, rfl, (by show (0 : Int) < _; rw [List.length_map]; omega), _, rfl, s, _, rfl, pp, ?_⟩⟩
    dsimp only
    generalize hh : upd G2 s _ = G3
    have hs3 : G3 s = some (.dK (stK { n := c.n, i := (c.i + 1) % fs.length, w := c.w + 1, g := c.aged.g, t := c.t })) := by rw [← hh]; exact upd_same
    have f3 : Fr [s] H G3 := by rw [← hh]; exact f2.up (by simp)
    refine ⟨_, rfl, _, rfl, _, rfl, s, f, org, fs, _, x, z, d, rfl, hs3, sqt_fr f3 (st_noseq hs) hf, hz, hx, dp_fr f3 (st_noseq hs) (hT x hx), fun l xs H5 e5 hs5 d5 f5 => ?_⟩
    refine cN l xs H5 e5 ?_ ?_ (f3.trans f5)
    · unfold CS.tick
      rw [if_neg hn, if_neg hw']
      exact hs5
    · unfold tickD
      rw [if_neg hn, if_neg hw', hg]
      exact d5
theorem ok__law_transaction (T : TX K mg) : FnOk P w K mg base CX0 1 T.a__law_transaction T.d__law_transaction ["number"] (sp_ltrans K) := by
  refine T.F__law_transaction.ok sc__law_transaction (fun vs H Q E h => ?_) (fun cdv A outer s' H vs Q E hr h => ?_)
  · obtain ⟨n, rfl, _⟩ := h
    rfl
  · obtain ⟨n, rfl, q⟩ := h
    refine ⟨_, (pss_one (ps_ret (pe_tup (pa_cons (pe_tup (pa_cons (pe_tup (pa_cons pe_str (pa_cons (pe_op op_add_str pe_str (pe_callTy call_str_int (by rfl) T.n_str (by decide +kernel) (pa_cons (pe_op op_mod (pv 0) pe_int) pa_nil))) (pa_cons (pv 0) pa_nil)))) pa_nil)) (pa_cons (pe_tup (pa_cons (pe_tup (pa_cons pe_str (pa_cons (pe_op op_add_str pe_str (pe_callTy call_str_int (by rfl) T.n_str (by decide +kernel) (pa_cons (pe_op op_mod (pv 0) pe_int) pa_nil))) (pa_cons (pe_tup (pa_cons pe_str (pa_cons pe_str (pa_cons pe_str (pa_cons pe_int pa_nil))))) pa_nil)))) pa_nil)) (pa_cons (pe_tup pa_nil) pa_nil)))))), ?_⟩
    have b0 := Int.emod_nonneg n (show (5 : Int) ≠ 0 by decide)
    have b1 := Int.emod_lt_of_pos n (show (0 : Int) < 5 by decide)
    have lg := log_small b0 (by omega)
    have ln := len_small b0 (by omega)
    have l1 : (("n" : Str)).length = 1 := by decide +kernel
    have ls : ∀ z : Str, z.length ≤ 10 → ("n" : Str).length + z.length ≤ sizeLine := fun z hz => by rw [l1]; exact Nat.le_trans (Nat.add_le_add_left hz 1) (by decide)
    refine ⟨_, rfl, _, _, rfl, rfl, (by show (0 : Int) < _; decide), _, rfl, lg, _, _, rfl, rfl, ls _ ln, _, rfl, (by show 3 ≤ sizeLine; decide), fun t1 h1 => ⟨(by show 1 ≤ sizeLine; decide), fun t2 h2 => ?_⟩⟩
    refine ⟨_, rfl, _, _, rfl, rfl, (by show (0 : Int) < _; decide), _, rfl, lg, _, _, rfl, rfl, ls _ ln, (by show 4 ≤ sizeLine; decide), fun t3 h3 => ⟨(by show 3 ≤ sizeLine; decide), fun t4 h4 => ⟨(by show 1 ≤ sizeLine; decide), fun t5 h5 => ⟨Nat.zero_le _, fun t6 h6 => ⟨(by show 3 ≤ sizeLine; decide), fun t7 h7 => ?_⟩⟩⟩⟩⟩
    have s1 := same_upd (o := .tup [.str "note", .str (Str.ofString "n" ++ Str.ofString (toString (n % 5))), .int n]) h1
    have s2 := same_upd (o := .tup [.ref t1]) h2
    have s3 := same_upd (o := .tup [.str "t", .str "", .str "", .int 0]) h3
    have s4 := same_upd (o := .tup [.str "note", .str (Str.ofString "n" ++ Str.ofString (toString (n % 5))), .ref t3]) h4
    have s5 := same_upd (o := .tup [.ref t4]) h5
    have s6 := same_upd (o := .tup []) h6
    have s7 := same_upd (o := .tup [.ref t2, .ref t5, .ref t6]) h7
    have u67 := s6.trans s7
    have u57 := s5.trans u67
    have u47 := s4.trans u57
    have u37 := s3.trans u47
    have u27 := s2.trans u37
    refine q t7 _ (Str.ofString "n" ++ Str.ofString (toString (n % 5))) (n_ok b0 b1) (s1.trans u27) (.tup (sqt upd_same) (.cons (.tup (sqt_same u37 (sqt upd_same)) (.cons (.tup (sqt_same u27 (sqt upd_same)) (.cons (.str _) (.cons (.str _) (.cons (.int _) .nil)))) .nil)) (.cons (.tup (sqt_same u67 (sqt upd_same)) (.cons (.tup (sqt_same u57 (sqt upd_same)) (.cons (.str _) (.cons (.str _) (.cons (.tup (sqt_same u47 (sqt upd_same)) (.cons (.str _) (.cons (.str _) (.cons (.str _) (.cons (.int _) .nil))))) .nil)))) .nil)) (.cons (.tup (sqt_same s7 (sqt upd_same)) .nil) .nil))))
end
section
variable {X : Cx} {CX : CXT} {k : Nat} {f C : Addr} {fd : FuncData} {ps : List Str} {sp : Sp} {E : L2.St → XK} {m : Str} {pos apos : Pos} {e o : Expr} {es : List Expr} {ta : TE} {t : TA}
def tMethE (C : Addr) (m : Str) (sp : Sp) (E : L2.St → XK) (ta : TE) (t : TA) : TE := fun σ H Q => tMeth C m sp [] (E σ) ta t σ H Q
theorem pe_methS {pl : Sem Bool} (he : PE X o ta) (c : Cls X.K C) (hm : Meth X.K C m f) (F : FnOk X.prog X.w X.K X.mg X.base CX k f fd ps sp) (hr : Room k X.A) (hb : Binds X.K fd ps []) (hx : ∀ σ, PassesAt CX X σ (E σ)) (ha : PA X (e :: es) t)
    (hst : starEach (e :: es) X.env = (false, eval e X.env) :: starEach es X.env := by rfl) (hpl : (backTo pos (starEach es X.env)).any (·.1) = false := by rfl)
    (ht : eval (.Call (.Attribute o m apos) (e :: es) [] pos) X.env = (eval o X.env >>= fun ov => standAt apos.atName >>= fun _ => holding [ov] (getMethod ov m pl) >>= fun fm =>
      callWith pos fm.1 fm.2 (backTo pos (starEach (e :: es) X.env)) (backToKw pos (keywordEach [] X.env))) := by rfl) : PE X (.Call (.Attribute o m apos) (e :: es) [] pos) (tMethE C m sp E ta t) :=
  ⟨fun pins s σ H Q I h => PySem.W.methodCall_KW (pl := pl) (thn (he.run pins s σ H _ I h) fun u s1 ⟨x, H1, I1, rx, a, dx, fs, ex, ea, l, q⟩ => by
    subst ex
    obtain rfl : u = Value.ref a := rx
    exact getmeth_ok I1 ea c hm l (PySem.W.callWith_K (first := [.ref a]) (h₀ := X.base) I.ok.mod.kin hm.kp (thn (ha.run pos pins s1 σ H1 _ I1 q) fun us s2 ⟨vs, H2, I2, r, q2⟩ =>
      ⟨I2.kIn, run_fnS (us := .ref a :: us) (vs := .ref a :: vs) F hr hb (hx σ) I2 (.cons rfl r) (by have : sp (V.ref a :: (vs ++ [])) H2 Q (E σ) := q2; rwa [List.append_nil] at this)⟩) hst hpl)) ht⟩
end
/-- caller and law's dict, side by side -/
structure W46 (K : PySem.W.Frag) (C R : Addr) (H : Hp) (a : CP) (s : Addr) (org : Str) (fs : List Str) (pat : Int) (c : CS) : Prop where
  P : PAt K C R H a org fs pat c
  L : H s = some (.dK (stK c))
  T : ∃ m z, PyData.strOk z = true ∧ TrIs K H c (trD m z)
  oo : PyData.strOk org = true
  fo : ∀ z ∈ fs, PyData.strOk z = true
def FrA (a : CP) (s : Addr) (H H' : Hp) : Prop := Fr (s :: a.all) H H'
section
variable {K : PySem.W.Frag} {C R : Addr} {H H' : Hp} {a : CP} {s : Addr} {org : Str} {fs : List Str} {pat : Int} {c c' : CS}
theorem W46.same (h : W46 K C R H a s org fs pat c) (e : Same H H') : W46 K C R H' a s org fs pat c := by
  obtain ⟨m, z, hz, hT⟩ := h.T
  exact ⟨h.P.same e, e _ _ h.L, ⟨m, z, hz, fun x hx => dp_same e _ (hT x hx)⟩, h.oo, h.fo⟩
theorem W46.sp (h : W46 K C R H a s org fs pat c) : ∀ x ∈ a.all, x ∉ [s] := fun x hx hm => by
  rw [List.mem_singleton] at hm
  subst hm
  rcases h.P.noseq x hx with ⟨C, dx, fs, e⟩ | ⟨kvs, e⟩
  · rw [h.L] at e; cases e
  · obtain ⟨⟨dx, cmd, fr, ob, _⟩, ⟨dx2, ro⟩, _⟩ := h.P
    have : x = a.p ∨ x = a.r := by simpa [CP.all] using hx
    rcases this with rfl | rfl
    · rw [ob] at e; cases e
    · rw [ro] at e; cases e
theorem W46.sn (h : W46 K C R H a s org fs pat c) : s ∉ a.all := fun hm => h.sp s hm (by simp)
theorem W46.nq (h : W46 K C R H a s org fs pat c) : ∀ x ∈ s :: a.all, NoSeq H x := fun x hx => by
  rcases List.mem_cons.mp hx with rfl | hx
  · exact .inr ⟨_, h.L⟩
  · exact h.P.noseq x hx
theorem W46.fi (h : W46 K C R H a s org fs pat c) : ∃ z, fs[c.i]? = some z := by
  obtain ⟨dx, cmd, fr, _, e, _⟩ := h.P.ob
  exact ⟨fr, e⟩
end
theorem sent_sh {org fr z : Str} {n m : Int} (h1 : PyData.strOk org = true) (h2 : PyData.strOk fr = true) (h3 : PyData.strOk z = true) : SeqAt.shaped (sentD org fr n (trD m z)) = true := by
  have a1 : PyData.strOk "send" = true := by decide +kernel
  have a2 : PyData.strOk "ask" = true := by decide +kernel
  have a3 : PyData.strOk "note" = true := by decide +kernel
  have a4 : PyData.strOk "t" = true := by decide +kernel
  have a5 : PyData.strOk "" = true := by decide +kernel
  unfold SeqAt.shaped sentD trD
  simp [PyData.canLay0, PyData.canLayAll0, PyData.depth, PyData.depthAll, h1, h2, h3, a1, a2, a3, a4, a5]
theorem eqD_refl {K : PySem.W.Frag} {H : Hp} {x y : V} {d : PyData} {Q : VK} (h1 : Dp K H x d) (h2 : Dp K H y d) (s : SeqAt.shaped d = true) (q : Q (.bl true) H) : rEqD K x y H Q := ⟨d, d, h1, h2, s, s, by rw [eqv_self s]; exact q⟩
theorem neD_refl {K : PySem.W.Frag} {H : Hp} {x y : V} {d : PyData} {Q : VK} (h1 : Dp K H x d) (h2 : Dp K H y d) (s : SeqAt.shaped d = true) (q : Q (.bl false) H) : rNeD K x y H Q := ⟨d, d, h1, h2, s, s, by rw [eqv_self s]; exact q⟩
def sp_lask (K : PySem.W.Frag) (C R : Addr) : Sp := fun vs H Q _ => ∃ (a : CP) (s : Addr) (org : Str) (fs : List Str) (pat : Int) (c : CS) (n : Int), vs = [.ref a.p, .ref s, .ref a.f, .str org, .int n] ∧ W46 K C R H a s org fs pat c ∧
  ∀ H' c', W46 K C R H' a s org fs pat c' → FrA a s H H' → Q (.bl true) H'
section
variable {P : Program} {w : World} {K : PySem.W.Frag} {mg : Str → Option Value} {base : Heap}
theorem ok__law_ask (T : TX K mg) : FnOk P w K mg base CX0 4 T.a__law_ask T.d__law_ask ["caller", "state", "fronts", "origin", "number"] (sp_lask K T.a_Caller T.a_Rota) := by
  refine T.F__law_ask.ok sc__law_ask (fun vs H Q E h => ?_) (fun cdv A outer s' H vs Q E hr h => ?_)
  · obtain ⟨a, s, org, fs, pat, c, n, rfl, _⟩ := h
    rfl
  · obtain ⟨a, s, org, fs, pat, c, n, rfl, hW, q⟩ := h
    refine ⟨_, (pss_cons (ps_set (i := 5) sc__law_ask.nd rfl (Or.inl rfl) (pe_call (ok__law_transaction T) (hr.mono (by decide)) (by rfl) T.g__law_transaction T.F__law_transaction.kp T.b__law_transaction .nil pass0 (pa_cons (pv 4) pa_nil)))
      (pss_cons (ps_if (pt_cmpR op_notN (pe_dget (hu_of hr) (pv 1) pe_str (fun _ _ => rfl)) pe_non (nomark _)) (pss_cons (ps_try_as (i := 6) rfl rfl sc__law_ask.nd rfl rfl ⟨rfl, by decide, .inl T.g_Busy⟩ takes0 (fun W pn xe tk po => (pss_one (ps_expr (pe_methS (pv 0) T.K_Caller T.m_Caller_ask (ok_Caller_ask T) (hr.mono (by decide)) T.b_Caller_ask (fun σ => passAt tk σ) (pa_cons (pv 5) pa_nil))))) (fun a oe cls d pn hz hf => (pss_one (ps_ret (pe_callB (call_isE1 T.X_Busy hz hf) (by rfl) T.n_isinstance (by decide +kernel) (pa_cons (pv 6) (pa_cons (pe_glob (v := .ref T.a_MajordomoError) (by rfl) T.g_MajordomoError rfl) pa_nil)))))))
        (pss_one (ps_ret pe_bl))) pss_nil)
      (pss_cons (ps_dput (hu_of hr) (pv 1) pe_str (pe_op op_add (pe_dget (hu_of hr) (pv 1) pe_str (fun _ _ => rfl)) pe_int) rfl)
      (pss_cons (ps_dput (hu_of hr) (pv 1) pe_str pe_int rfl)
      (pss_cons (ps_dput (hu_of hr) (pv 1) pe_str (pv 5) rfl)
      (pss_cons (ps_set (i := 7) sc__law_ask.nd rfl (Or.inl rfl) (pe_meth (pv 0) T.K_Caller T.m_Caller_ask (ok_Caller_ask T) (hr.mono (by decide)) T.b_Caller_ask .nil passL (pa_cons (pv 5) pa_nil)))
      (pss_one (ps_ret (pe_and (pe_callB call_isi (by rfl) T.n_isinstance (by decide +kernel) (pa_cons (pv 7) (pa_cons (pe_bltn (v := .ty "list") (u := .type "list") (by rfl) T.n_list (by decide +kernel) rfl) pa_nil))) (pe_one (pe_cmpR (op_eqD hr.units) (pv 7) (pe_call (ok__law_sent T) (hr.mono (by decide)) (by rfl) T.g__law_sent T.F__law_sent.kp T.b__law_sent .nil pass0 (pa_cons (pv 1) (pa_cons (pv 2) (pa_cons (pv 3) pa_nil)))) (nomark _)))))))))))), ?_⟩
    obtain ⟨zf, hz⟩ := hW.fi
    refine ⟨_, rfl, n, rfl, fun x G z zo sG hx => ?_⟩
    have hW1 := hW.same sG
    have gt := gg_t hW1.L
    refine ⟨_, rfl, s, _, rfl, gt, rfl, _, rfl, ?_⟩
    obtain ⟨dx, cmd, fr, ob, e1, e2⟩ := hW1.P.ob
    by_cases hn : c.t = none
    · refine ifbf (by rw [hn]; simp [tv]) ?_
      refine ⟨_, rfl, s, _, rfl, gg_n hW1.L, _, _, rfl, rfl, _, rfl, s, _, rfl, pp_n hW1.L _, ?_⟩
      refine ⟨_, rfl, s, _, rfl, pp_g upd_same 0, ?_⟩
      refine ⟨_, rfl, _, rfl, s, _, rfl, pp_t upd_same (some x), ?_⟩
      rw [upd_upd, upd_upd]
      dsimp only
      have f1 : Fr [s] G (upd G s (.dK (stK { n := c.n + 1, i := c.i, w := c.w, g := 0, t := some x }))) := (Fr.refl _ _).up (by simp)
      have hs1 : (upd G s (.dK (stK { n := c.n + 1, i := c.i, w := c.w, g := 0, t := some x }))) s = some (.dK (stK { n := c.n + 1, i := c.i, w := c.w, g := 0, t := some x })) := upd_same
      generalize upd G s (.dK (stK { n := c.n + 1, i := c.i, w := c.w, g := 0, t := some x })) = G1 at f1 hs1
      have hP1 := hW1.P.frame f1 (st_noseq hW1.L) hW1.sp
      have hx1 := dp_fr f1 (st_noseq hW1.L) hx
      obtain ⟨dx1, cmd1, fr1, ob1, _, _⟩ := hP1.ob
      refine ⟨_, rfl, a.p, dx1, _, rfl, ob1, fl_Caller_no_ask, _, rfl, a, org, fs, pat, c, x, zf, _, rfl, hP1, hz, hx1, (fun z => absurd hn z), fun _ l xs G2 el hP2 hd2 f2 => ?_⟩
      have f2' : Fr a.all G1 G2 := f2
      have hs2 : G2 s = some (.dK (stK { n := c.n + 1, i := c.i, w := c.w, g := 0, t := some x })) := f2 _ _ hs1 (hW1.sn)
      have hx2 := dp_fr f2 hP1.noseq hx1
      have fa : FrA a s H G2 := (Fr.of_same sG).trans ((f1.more (by intro y hy; simp at hy; simp [hy])).trans (f2.more (by intro y hy; simp [hy])))
      have hWf : ∀ H', H' s = some (.dK (stK { n := c.n + 1, i := c.i, w := 0, g := 0, t := some x })) → Fr [s] G2 H' → Q (.bl true) H' := fun H' e f => by
        have n2 : ∀ y ∈ a.all, y ∉ [s] := fun y hy hm => by rw [List.mem_singleton] at hm; exact hW1.sn (by rw [← hm]; exact hy)
        refine q H' { n := c.n + 1, i := c.i, w := 0, g := 0, t := some x } ⟨hP2.frame f (st_noseq hs2) n2, e, ⟨n, z, zo, fun y hy => ?_⟩, hW1.oo, hW1.fo⟩ (fa.trans (f.more (by intro y hy; simp at hy; simp [hy])))
        injection hy with hy
        subst hy
        exact dp_fr f (st_noseq hs2) hx2
      refine ⟨_, rfl, .ref l, .ty "list", .type "list", .type "list", true, rfl, .ty _, tyx_l (sql el), kit_ty (by decide +kernel), _, rfl, ifbt rfl ?_⟩
      refine ⟨_, rfl, _, rfl, _, rfl, _, rfl, s, a.f, org, fs, _, x, zf, _, rfl, hs2, hP2.fr, hz, rfl, hx2, fun l2 xs2 G3 el2 hs3 hd3 f3 => ?_⟩
      exact eqD_refl (dp_fr f3 (st_noseq hs2) hd2) hd3 (sent_sh hW.oo (hW.fo _ (List.mem_of_getElem? hz)) zo) (hWf G3 hs3 f3)
    · obtain ⟨x0, hx0⟩ := Option.ne_none_iff_exists'.mp hn
      refine ifbt (by rw [hx0]; simp [tv]) ?_
      refine ⟨_, rfl, a.p, dx, _, rfl, ob, fl_Caller_no_ask, _, rfl, a, org, fs, pat, c, x, zf, _, rfl, hW1.P, hz, hx, (fun _ G2 s2 => ⟨true, T.ee_Busy, fun _ a' ha' => ?_, fun z => Bool.noConfusion z⟩), fun z => absurd z hn⟩
      exact ⟨_, rfl, rfl, rfl, .ref T.a_MajordomoError, .ref T.a_MajordomoError, true, rfl, (fun u h => h), T.y_Busy_MajordomoError, q _ _ (hW1.same s2) (Fr.of_same (sG.trans s2))⟩
end
def AnsOk (K : PySem.W.Frag) (H : Hp) (q : Lt) : Prop := ∀ o m an, q = .told o m an → ∃ d, Dp K H (.ref an) d ∧ SeqAt.shaped d = true
def sp_lletter (K : PySem.W.Frag) : Sp := fun vs H Q _ => ∃ (s : Addr) (org : Str) (c : CS) (n : Int), vs = [.ref s, .str org, .int n] ∧ H s = some (.dK (stK c)) ∧ org.length ≤ 100 ∧
  ∀ l q H', Same H H' → LtAt K H' l q → AnsOk K H' q → Q (.ref l) H'
def sp_lhear (K : PySem.W.Frag) (C R : Addr) : Sp := fun vs H Q _ => ∃ (a : CP) (s : Addr) (org : Str) (fs : List Str) (pat : Int) (c : CS) (l : Addr) (q : Lt), vs = [.ref a.p, .ref s, .ref l, .str org] ∧ W46 K C R H a s org fs pat c ∧ LtAt K H l q ∧ AnsOk K H q ∧
  ∀ H' c', W46 K C R H' a s org fs pat c' → FrA a s H H' → Q (.bl true) H'
def sp_lsame (K : PySem.W.Frag) (C R : Addr) : Sp := fun vs H Q _ => ∃ (a : CP) (s : Addr) (org : Str) (fs : List Str) (pat : Int) (c : CS), vs = [.ref a.p, .ref s, .ref a.f, .str org] ∧ W46 K C R H a s org fs pat c ∧ Q (.bl true) H
theorem heard_twice (c : CS) (org : Str) (q : Lt) : heard (c.hear org q) org q = none := by
  unfold CS.hear
  by_cases h : heard c org q = none
  · rw [if_pos h]; exact h
  · rw [if_neg h]
    cases q with
    | other => rfl
    | told o n an =>
      show (if (none : Option Addr) ≠ none ∧ o = org ∧ n = c.n then some an else none) = none
      exact if_neg fun z => z.1 rfl
theorem lt_fr {K : PySem.W.Frag} {H H' : Hp} {L : List Addr} (f : Fr L H H') (n : ∀ x ∈ L, NoSeq H x) {l : Addr} {q : Lt} (h : LtAt K H l q) : LtAt K H' l q := by
  cases q with
  | told o m an => exact sqt_fr f n h
  | other => obtain ⟨x, y, z, h⟩ := h; exact ⟨x, y, z, sqt_fr f n h⟩
theorem ans_fr {K : PySem.W.Frag} {H H' : Hp} {L : List Addr} (f : Fr L H H') (n : ∀ x ∈ L, NoSeq H x) {q : Lt} (h : AnsOk K H q) : AnsOk K H' q := fun o m an e => by
  obtain ⟨d, h1, h2⟩ := h o m an e
  exact ⟨d, dp_fr f n h1, h2⟩
theorem heard_dp {K : PySem.W.Frag} {H : Hp} {c : CS} {org : Str} {q : Lt} (h : AnsOk K H q) : ∃ d, Dp K H (tv (heard c org q)) d ∧ SeqAt.shaped d = true := by
  cases q with
  | other => exact ⟨.none, .non, rfl⟩
  | told o m an =>
    obtain ⟨d, h1, h2⟩ := h o m an rfl
    unfold heard
    by_cases hc : c.t ≠ none ∧ o = org ∧ m = c.n
    · dsimp only
      rw [if_pos hc]; exact ⟨d, h1, h2⟩
    · dsimp only
      rw [if_neg hc]; exact ⟨.none, .non, rfl⟩
section
variable {P : Program} {w : World} {K : PySem.W.Frag} {mg : Str → Option Value} {base : Heap}
theorem ok__law_same (T : TX K mg) : FnOk P w K mg base CX0 3 T.a__law_same T.d__law_same ["caller", "state", "fronts", "origin"] (sp_lsame K T.a_Caller T.a_Rota) := by
  refine T.F__law_same.ok sc__law_same (fun vs H Q E h => ?_) (fun cdv A outer s' H vs Q E hr h => ?_)
  · obtain ⟨a, s, org, fs, pat, c, rfl, _⟩ := h
    rfl
  · obtain ⟨a, s, org, fs, pat, c, rfl, hW, q⟩ := h
    refine ⟨_, (pss_cons (ps_if (PW.pt (pw_or (pt_cmpR op_ne (pe_fld (pv 0) rfl) (pv 3) (nomark _)) (pw_or (pt_cmpR op_ne (pe_fld (pv 0) rfl) (pe_dget (hu_of hr) (pv 1) pe_str (fun _ _ => rfl)) (nomark _)) (pw_or1 (pt_cmpR op_ne (pe_fld (pv 0) rfl) (pe_ix ix_tup (pv 2) (pe_dget (hu_of hr) (pv 1) pe_str (fun _ _ => rfl)) (fun _ _ => rfl)) (nomark _)))))) (pss_one (ps_ret pe_bl)) pss_nil)
      (pss_cons (ps_if (PW.pt (pw_or (pt_not (pt_val (pe_callB call_isi (by rfl) T.n_isinstance (by decide +kernel) (pa_cons (pe_prop (pv 0) T.K_Caller T.pr_Caller_busy (ok_Caller_busy T) (hr.mono (by decide)) T.b_Caller_busy .nil pass0 rfl) (pa_cons (pe_bltn (v := .ty "bool") (u := .type "bool") (by rfl) T.n_bool (by decide +kernel) rfl) pa_nil))))) (pw_or1 (pt_cmpR op_ne (pe_prop (pv 0) T.K_Caller T.pr_Caller_busy (ok_Caller_busy T) (hr.mono (by decide)) T.b_Caller_busy .nil pass0 rfl) (pe_cmpR op_notN (pe_dget (hu_of hr) (pv 1) pe_str (fun _ _ => rfl)) pe_non (nomark _)) (nomark _))))) (pss_one (ps_ret pe_bl)) pss_nil)
      (pss_one (ps_ret (pe_cmpR op_eq (pe_fld (pv 0) rfl) (pe_dget (hu_of hr) (pv 1) pe_str (fun _ _ => rfl)) (nomark _)))))), ?_⟩
    obtain ⟨dx, cmd, fr, ob, e1, e2⟩ := hW.P.ob
    refine ⟨_, rfl, a.p, _, dx, _, _, rfl, ob, T.K_Caller, T.na_Caller_origin, fl_Caller_origin, _, rfl, rfl, _, rfl, ifbf (by simp) ?_⟩
    refine ⟨_, rfl, a.p, _, dx, _, _, rfl, ob, T.K_Caller, T.na_Caller_number, fl_Caller_number, _, rfl, s, _, rfl, gg_n hW.L, rfl, _, rfl, ifbf (by simp) ?_⟩
    refine ⟨_, rfl, a.p, _, dx, _, _, rfl, ob, T.K_Caller, T.na_Caller_front, fl_Caller_front, _, rfl, _, rfl, s, _, rfl, gg_i hW.L, a.f, _, _, .str fr, rfl, rfl, hW.P.fr, atI_nat (by rw [List.getElem?_map, e1]; rfl), rfl, _, rfl, ifbf (by simp) ?_⟩
    refine ⟨_, rfl, a.p, dx, _, rfl, ob, a, org, fs, pat, c, rfl, hW.P, .bl _, .ty "bool", .type "bool", .type "bool", true, rfl, .ty _, .base (.bl _), kit_ty (by decide +kernel), _, rfl, ifbf rfl ?_⟩
    refine ⟨_, rfl, a.p, dx, _, rfl, ob, a, org, fs, pat, c, rfl, hW.P, _, rfl, s, _, rfl, gg_t hW.L, ?_⟩
    refine ⟨rfl, rfl, _, rfl, ifbf (by cases c.t <;> simp [tv]) ?_⟩
    refine ⟨_, rfl, a.p, _, dx, _, _, rfl, ob, T.K_Caller, T.na_Caller_age, fl_Caller_age, _, rfl, s, _, rfl, gg_g hW.L, rfl, ?_⟩
    simpa using q
theorem ok__law_hear (T : TX K mg) : FnOk P w K mg base CX0 4 T.a__law_hear T.d__law_hear ["caller", "state", "letter", "origin"] (sp_lhear K T.a_Caller T.a_Rota) := by
  refine T.F__law_hear.ok sc__law_hear (fun vs H Q E h => ?_) (fun cdv A outer s' H vs Q E hr h => ?_)
  · obtain ⟨a, s, org, fs, pat, c, l, q, rfl, _⟩ := h
    rfl
  · obtain ⟨a, s, org, fs, pat, c, l, q, rfl, hW, hL, hA, cN⟩ := h
    refine ⟨_, (pss_cons (ps_set (i := 4) sc__law_hear.nd rfl (Or.inl rfl) pe_non)
      (C8.pss_cut (ps_if (PW.pt (pw_and (pt_cmpR op_notN (pe_dget (hu_of hr) (pv 1) pe_str (fun _ _ => rfl)) pe_non (nomark _)) (pw_and1 (pt_cmpR op_eq (pe_ix ix_tup (pv 2) pe_int (fun _ _ => rfl)) pe_str (nomark _))))) (pss_one (ps_if (PW.pt (pw_and (pt_cmpR op_eq (pe_ix ix_tup (pv 2) pe_int (fun _ _ => rfl)) (pv 3) (nomark _)) (pw_and1 (pt_cmpR op_eq (pe_ix ix_tup (pv 2) pe_int (fun _ _ => rfl)) (pe_dget (hu_of hr) (pv 1) pe_str (fun _ _ => rfl)) (nomark _))))) (pss_cons (ps_set (i := 4) sc__law_hear.nd rfl (Or.inl rfl) (pe_ix ix_tup (pv 2) pe_int (fun _ _ => rfl)))
          (pss_one (ps_dput (hu_of hr) (pv 1) pe_str pe_non rfl))) pss_nil)) pss_nil)
      (pss_cons (ps_if (pt_cmpR (op_neD hr.units) (pe_meth (pv 0) T.K_Caller T.m_Caller_hear (ok_Caller_hear T) (hr.mono (by decide)) T.b_Caller_hear .nil pass0 (pa_cons (pv 2) pa_nil)) (pv 4) (nomark _)) (pss_one (ps_ret pe_bl)) pss_nil)
      (pss_one (ps_ret (pe_cmpR op_isN (pe_meth (pv 0) T.K_Caller T.m_Caller_hear (ok_Caller_hear T) (hr.mono (by decide)) T.b_Caller_hear .nil pass0 (pa_cons (pv 2) pa_nil)) pe_non (nomark _))))))), ?_⟩
    obtain ⟨m, z, zo, hT⟩ := hW.T
    refine ⟨fun σ' G => σ' = [some (.ref a.p), some (.ref s), some (.ref l), some (.str org), some (tv (heard c org q))] ∧ G s = some (.dK (stK (c.hear org q))) ∧ Fr [s] H G, ?_, ?_⟩
    · have hno : heard c org q = none → [some (V.ref a.p), some (.ref s), some (.ref l), some (.str org), some .non] = [some (V.ref a.p), some (.ref s), some (.ref l), some (.str org), some (tv (heard c org q))] ∧ H s = some (.dK (stK (c.hear org q))) ∧ Fr [s] H H := fun e => by
        refine ⟨by rw [e]; rfl, ?_, Fr.refl _ _⟩
        unfold CS.hear
        rw [if_pos e]
        exact hW.L
      refine ⟨_, rfl, s, _, rfl, gg_t hW.L, rfl, _, rfl, ?_⟩
      by_cases hn : c.t = none
      · refine ifbf (by rw [hn]; simp [tv]) (ifbf rfl (hno ?_))
        cases q with
        | other => rfl
        | told o n an => exact if_neg fun z => z.1 hn
      obtain ⟨x0, hx0⟩ := Option.ne_none_iff_exists'.mp hn
      refine ifbt (by rw [hx0]; simp [tv]) ?_
      cases q with
      | other =>
        obtain ⟨x, y, u, hL⟩ := hL
        refine ⟨_, rfl, l, _, _, _, rfl, rfl, hL, atI_nat (j := 0) rfl, rfl, _, rfl, ifbf (by decide +kernel) (hno rfl)⟩
      | told o n an =>
        refine ⟨_, rfl, l, _, _, _, rfl, rfl, hL, atI_nat (j := 0) rfl, rfl, _, rfl, ifbt (by simp) ?_⟩
        refine ⟨_, rfl, l, _, _, _, rfl, rfl, hL, atI_nat (j := 1) rfl, _, rfl, rfl, _, rfl, ?_⟩
        by_cases ho : o = org
        · subst ho
          refine ifbt (by simp) ⟨_, rfl, l, _, _, _, rfl, rfl, hL, atI_nat (j := 2) rfl, _, rfl, s, _, rfl, gg_n hW.L, rfl, _, rfl, ?_⟩
          by_cases hm : n = c.n
          · subst hm
            have eh : heard c o (.told o c.n an) = some an := if_pos ⟨hn, rfl, rfl⟩
            refine ifbt (by simp) ⟨_, rfl, l, _, _, _, rfl, rfl, hL, atI_nat (j := 3) rfl, _, rfl, s, _, rfl, pp_t hW.L none, ?_⟩
            refine ⟨by rw [eh]; rfl, ?_, (Fr.refl _ _).up (by simp)⟩
            rw [upd_same]
            unfold CS.hear
            rw [if_neg (by rw [eh]; simp)]
          · exact ifbf (by simp [hm]) (hno (if_neg fun h => hm h.2.2))
        · exact ifbf (by simp [ho]) (hno (if_neg fun h => ho h.2.1))
    rintro σ' G ⟨rfl, hs1, f1⟩
    have hP1 := hW.P.frame f1 (st_noseq hW.L) hW.sp
    have hL1 := lt_fr f1 (st_noseq hW.L) hL
    have hA1 := ans_fr f1 (st_noseq hW.L) hA
    obtain ⟨dx, cmd, fr, ob, _, _⟩ := hP1.ob
    refine ⟨_, rfl, a.p, dx, _, rfl, ob, fl_Caller_no_hear, _, rfl, a, org, fs, pat, c, l, q, rfl, hP1, hL1, fun G2 hP2 f2 => ?_⟩
    have hs2 := f2 _ _ hs1 hW.sn
    have hL2 := lt_fr f2 hP1.noseq hL1
    have hA2 := ans_fr f2 hP1.noseq hA1
    obtain ⟨d, hd, sd⟩ := heard_dp (c := c) (org := org) hA2
    refine ⟨_, rfl, neD_refl hd hd sd ⟨_, rfl, ifbf rfl ?_⟩⟩
    obtain ⟨dx2, cmd2, fr2, ob2, _, _⟩ := hP2.ob
    refine ⟨_, rfl, a.p, dx2, _, rfl, ob2, fl_Caller_no_hear, _, rfl, a, org, fs, pat, _, l, q, rfl, hP2, hL2, fun G3 hP3 f3 => ?_⟩
    rw [heard_twice]
    have e3 : (c.hear org q).hear org q = c.hear org q := if_pos (heard_twice c org q)
    rw [e3] at hP3
    refine ⟨rfl, ?_⟩
    have f23 := f2.trans f3
    refine cN G3 (c.hear org q) ⟨hP3, f3 _ _ hs2 hW.sn, ⟨m, z, zo, fun x hx => ?_⟩, hW.oo, hW.fo⟩ ((f1.more (by intro y hy; simp at hy; simp [hy])).trans (f23.more (by intro y hy; simp [hy])))
    refine dp_fr f23 hP1.noseq (dp_fr f1 (st_noseq hW.L) (hT x ?_))
    unfold CS.hear at hx
    split at hx
    · exact hx
    · cases hx
end
section
variable {P : Program} {w : World} {K : PySem.W.Frag} {mg : Str → Option Value} {base : Heap}
theorem ok__law_letter (T : TX K mg) : FnOk P w K mg base CX0 1 T.a__law_letter T.d__law_letter ["state", "origin", "number"] (sp_lletter K) := by
  refine T.F__law_letter.ok sc__law_letter (fun vs H Q E h => ?_) (fun cdv A outer s' H vs Q E hr h => ?_)
  · obtain ⟨s, org, c, n, rfl, _⟩ := h
    rfl
  · obtain ⟨s, org, c, n, rfl, hs, ho, q⟩ := h
    refine ⟨_, (pss_cons (ps_set (i := 3) sc__law_letter.nd rfl (Or.inl rfl) (pe_ix ix_list (pe_lst (pa_cons (pe_tup (pa_cons pe_str (pa_cons (pv 2) pa_nil))) (pa_cons (pe_tup (pa_cons pe_str (pa_cons (pe_op op_mod (pv 2) pe_int) pa_nil))) (pa_cons (pe_tup (pa_cons pe_str pa_nil)) pa_nil)))) (pe_op op_mod (pe_op op_fdiv (pv 2) pe_int) pe_int) (fun _ _ => rfl)))
      (pss_cons (ps_set (i := 4) sc__law_letter.nd rfl (Or.inl rfl) (pe_op op_mod (pe_op op_fdiv (pv 2) pe_int) pe_int))
      (pss_cons (ps_if (pt_cmpR op_in_seq (pv 4) (pe_tup (pa_cons pe_int (pa_cons pe_int (pa_cons pe_int pa_nil)))) rfl) (pss_one (ps_ret (pe_tup (pa_cons pe_str (pa_cons (pv 1) (pa_cons (pe_dget (hu_of hr) (pv 0) pe_str (fun _ _ => rfl)) (pa_cons (pv 3) pa_nil))))))) pss_nil)
      (pss_cons (ps_if (pt_cmpR op_eq (pv 4) pe_int (nomark _)) (pss_one (ps_ret (pe_tup (pa_cons pe_str (pa_cons (pv 1) (pa_cons (pe_op op_sub (pe_op op_add (pe_dget (hu_of hr) (pv 0) pe_str (fun _ _ => rfl)) pe_int) (pe_op op_mod (pe_op op_fdiv (pv 2) pe_int) pe_int)) (pa_cons (pv 3) pa_nil))))))) pss_nil)
      (pss_cons (ps_if (pt_cmpR op_eq (pv 4) pe_int (nomark _)) (pss_one (ps_ret (pe_tup (pa_cons pe_str (pa_cons (pe_op op_add_str (pv 1) pe_str) (pa_cons (pe_dget (hu_of hr) (pv 0) pe_str (fun _ _ => rfl)) (pa_cons (pv 3) pa_nil))))))) pss_nil)
      (pss_one (ps_ret (pe_tup (pa_cons pe_str (pa_cons (pe_op op_mod (pv 2) pe_int) (pa_cons (pe_tup pa_nil) (pa_cons (pe_op op_mod (pv 2) pe_int) pa_nil)))))))))))), ?_⟩
    refine ⟨_, rfl, (by show 2 ≤ sizeLine; decide), fun t1 h1 => ⟨_, rfl, _, _, rfl, rfl, (by show (0 : Int) < _; decide), (by show 2 ≤ sizeLine; decide), fun t2 h2 => ⟨(by show 1 ≤ sizeLine; decide), fun t3 h3 => ⟨(by show 3 ≤ sizeLine; decide), fun l0 h0 => ?_⟩⟩⟩⟩
    have s1 := same_upd (o := .tup [.str "done", .int n]) h1
    have s2 := same_upd (o := .tup [.str "no", .int (n % 7)]) h2
    have s3 := same_upd (o := .tup [.str "old"]) h3
    have s4 := same_upd (o := .lst [.ref t1, .ref t2, .ref t3]) h0
    have b0 := Int.emod_nonneg (n / 8) (show (3 : Int) ≠ 0 by decide)
    have b1 := Int.emod_lt_of_pos (n / 8) (show (0 : Int) < 3 by decide)
    have a1 : PyData.strOk "done" = true := by decide +kernel
    have a2 : PyData.strOk "no" = true := by decide +kernel
    have a3 : PyData.strOk "old" = true := by decide +kernel
    obtain ⟨an, han, d, hd, sd⟩ : ∃ an, atI [V.ref t1, .ref t2, .ref t3] (n / 8 % 3) = some (.ref an) ∧ ∃ d, Dp K (upd (upd (upd (upd H t1 (.tup [.str "done", .int n])) t2 (.tup [.str "no", .int (n % 7)])) t3 (.tup [.str "old"])) l0 (.lst [.ref t1, .ref t2, .ref t3])) (.ref an) d ∧ SeqAt.shaped d = true := by
      have : n / 8 % 3 = 0 ∨ n / 8 % 3 = 1 ∨ n / 8 % 3 = 2 := by omega
      rcases this with e | e | e
      · exact ⟨t1, by rw [e]; exact atI_nat (j := 0) rfl, _, .tup (sqt_same ((s2.trans s3).trans s4) (sqt upd_same)) (.cons (.str _) (.cons (.int _) .nil)), by unfold SeqAt.shaped; simp [PyData.canLay0, PyData.canLayAll0, PyData.depth, PyData.depthAll, a1]⟩
      · exact ⟨t2, by rw [e]; exact atI_nat (j := 1) rfl, _, .tup (sqt_same (s3.trans s4) (sqt upd_same)) (.cons (.str _) (.cons (.int _) .nil)), by unfold SeqAt.shaped; simp [PyData.canLay0, PyData.canLayAll0, PyData.depth, PyData.depthAll, a2]⟩
      · exact ⟨t3, by rw [e]; exact atI_nat (j := 2) rfl, _, .tup (sqt_same s4 (sqt upd_same)) (.cons (.str _) .nil), by unfold SeqAt.shaped; simp [PyData.canLay0, PyData.canLayAll0, PyData.depth, PyData.depthAll, a3]⟩
    refine ⟨_, rfl, _, _, rfl, rfl, ⟨by decide, by decide⟩, _, _, rfl, rfl, (by show (0 : Int) < _; decide), l0, _, _, _, rfl, rfl, sql upd_same, han, ?_⟩
    have sG := ((s1.trans s2).trans s3).trans s4
    have hs1 := sG _ _ hs
    dsimp only [L2.tSeq]
    generalize upd (upd (upd (upd H t1 (.tup [.str "done", .int n])) t2 (.tup [.str "no", .int (n % 7)])) t3 (.tup [.str "old"])) l0 (.lst [.ref t1, .ref t2, .ref t3]) = G at sG hs1 hd
    -- a letter told
    have tell : ∀ (G2 : Hp) (o : Str) (m : Int) (l : Addr), Same G G2 → G2 l = none → Q (.ref l) (upd G2 l (.tup [.str "told", .str o, .int m, .ref an])) := fun G2 o m l sg hl => by
      have s5 := same_upd (o := .tup [.str "told", .str o, .int m, .ref an]) hl
      refine q l (.told o m an) _ ((sG.trans sg).trans s5) (sqt upd_same) fun o' m' an' e => ?_
      injection e with e1 e2 e3
      subst e3
      exact ⟨d, dp_same (sg.trans s5) _ hd, sd⟩
    refine ⟨_, rfl, _, _, rfl, rfl, ⟨by decide, by decide⟩, _, _, rfl, rfl, (by show (0 : Int) < _; decide), ?_⟩
    generalize n / 24 % 6 = kd
    refine ⟨_, rfl, (by show 3 ≤ sizeLine; decide), fun t4 h4 => ⟨t4, _, rfl, .inr (sqt upd_same), rfl, rfl, _, rfl, ?_⟩⟩
    have s5 := same_upd (o := .tup [.int 0, .int 1, .int 2]) h4
    have hs5 := s5 _ _ hs1
    dsimp only
    generalize upd G t4 (.tup [.int 0, .int 1, .int 2]) = G1 at s5 hs5
    refine ifb2 (fun _ => ?_) (fun _ => ?_)
    · exact ⟨_, rfl, _, rfl, s, _, rfl, gg_n hs5, _, rfl, (by show 4 ≤ sizeLine; decide), fun l hl => tell G1 _ _ l s5 hl⟩
    refine ⟨_, rfl, rfl, _, rfl, ifd (fun _ => ?_) (fun _ => ?_)⟩
    · exact ⟨_, rfl, _, rfl, s, _, rfl, gg_n hs5, _, _, rfl, rfl, _, rfl, _, _, rfl, rfl, ⟨by decide, by decide⟩, _, _, rfl, rfl, (by show (0 : Int) < _; decide), _, _, rfl, rfl, _, rfl, (by show 4 ≤ sizeLine; decide), fun l hl => tell G1 _ _ l s5 hl⟩
    refine ⟨_, rfl, rfl, _, rfl, ifd (fun _ => ?_) (fun _ => ?_)⟩
    · have l1 : (("1" : Str)).length = 1 := by decide +kernel
      exact ⟨_, rfl, _, _, rfl, rfl, (by rw [l1]; exact Nat.le_trans (Nat.add_le_add_right ho 1) (by decide)), _, rfl, s, _, rfl, gg_n hs5, _, rfl, (by show 4 ≤ sizeLine; decide), fun l hl => tell G1 _ _ l s5 hl⟩
    · refine ⟨_, rfl, _, _, rfl, rfl, (by show (0 : Int) < _; decide), Nat.zero_le _, fun t5 h5 => ⟨_, rfl, _, _, rfl, rfl, (by show (0 : Int) < _; decide), (by show 4 ≤ sizeLine; decide), fun l hl => ?_⟩⟩
      have s6 := same_upd (o := .tup []) h5
      have s7 := same_upd (o := .tup [.str "changes", .int (n % 9), .ref t5, .int (n % 9)]) hl
      exact q l .other _ (((sG.trans s5).trans s6).trans s7) ⟨_, _, _, sqt upd_same⟩ fun o m an e => by cases e
def sp_ldeed (K : PySem.W.Frag) (C R : Addr) : Sp := fun vs H Q _ => ∃ (a : CP) (s : Addr) (org : Str) (fs : List Str) (pat : Int) (c : CS) (n : Int), vs = [.ref a.p, .ref s, .ref a.f, .str org, .int pat, .int n] ∧ W46 K C R H a s org fs pat c ∧ org.length ≤ 100 ∧
  ∀ H' c', W46 K C R H' a s org fs pat c' → FrA a s H H' → Q (.bl true) H'
theorem tick_sh {c : CS} {pat : Int} {org z : Str} {fs : List Str} {m : Int} (h1 : PyData.strOk org = true) (h2 : ∀ z ∈ fs, PyData.strOk z = true) (h3 : PyData.strOk z = true) : SeqAt.shaped (tickD c pat org fs (trD m z)) = true := by
  unfold tickD
  split
  · rfl
  split
  · rfl
  refine sent_sh h1 ?_ h3
  cases e : fs[(c.i + 1) % fs.length]? with
  | none => decide +kernel
  | some y => exact h2 _ (List.mem_of_getElem? e)
theorem ok__law_deed (T : TX K mg) : FnOk P w K mg base CX0 5 T.a__law_deed T.d__law_deed ["caller", "state", "fronts", "origin", "patience", "number"] (sp_ldeed K T.a_Caller T.a_Rota) := by
  refine T.F__law_deed.ok sc__law_deed (fun vs H Q E h => ?_) (fun cdv A outer s' H vs Q E hr h => ?_)
  · obtain ⟨a, s, org, fs, pat, c, n, rfl, _⟩ := h
    rfl
  · obtain ⟨a, s, org, fs, pat, c, n, rfl, hW, ho, q⟩ := h
    refine ⟨_, (pss_cons (ps_set (i := 6) sc__law_deed.nd rfl (Or.inl rfl) (pe_op op_mod (pe_callTy call_int1 (by rfl) T.n_int (by decide +kernel) (pa_cons (pv 5) pa_nil)) pe_int))
      (pss_cons (ps_if (pt_cmpR op_in_seq (pv 6) (pe_tup (pa_cons pe_int (pa_cons pe_int (pa_cons pe_int (pa_cons pe_int pa_nil))))) rfl) (pss_cons (ps_set (i := 7) sc__law_deed.nd rfl (Or.inl rfl) (pe_meth0 (pv 0) T.K_Caller T.m_Caller_tick (ok_Caller_tick T) (hr.mono (by decide)) T.b_Caller_tick .nil pass0))
        (pss_one (ps_ret (pe_and (pe_callB call_isi (by rfl) T.n_isinstance (by decide +kernel) (pa_cons (pv 7) (pa_cons (pe_bltn (v := .ty "list") (u := .type "list") (by rfl) T.n_list (by decide +kernel) rfl) pa_nil))) (pe_one (pe_cmpR (op_eqD hr.units) (pv 7) (pe_call (ok__law_tick T) (hr.mono (by decide)) (by rfl) T.g__law_tick T.F__law_tick.kp T.b__law_tick .nil pass0 (pa_cons (pv 1) (pa_cons (pv 2) (pa_cons (pv 3) (pa_cons (pv 4) pa_nil))))) (nomark _))))))) pss_nil)
      (pss_cons (ps_if (pt_cmpR op_in_seq (pv 6) (pe_tup (pa_cons pe_int (pa_cons pe_int pa_nil))) rfl) (pss_one (ps_ret (pe_call (ok__law_ask T) (hr.mono (by decide)) (by rfl) T.g__law_ask T.F__law_ask.kp T.b__law_ask .nil pass0 (pa_cons (pv 0) (pa_cons (pv 1) (pa_cons (pv 2) (pa_cons (pv 3) (pa_cons (pe_callTy call_int1 (by rfl) T.n_int (by decide +kernel) (pa_cons (pv 5) pa_nil)) pa_nil)))))))) pss_nil)
      (pss_one (ps_ret (pe_call (ok__law_hear T) (hr.mono (by decide)) (by rfl) T.g__law_hear T.F__law_hear.kp T.b__law_hear .nil pass0 (pa_cons (pv 0) (pa_cons (pv 1) (pa_cons (pe_call (ok__law_letter T) (hr.mono (by decide)) (by rfl) T.g__law_letter T.F__law_letter.kp T.b__law_letter .nil pass0 (pa_cons (pv 1) (pa_cons (pv 3) (pa_cons (pe_callTy call_int1 (by rfl) T.n_int (by decide +kernel) (pa_cons (pv 5) pa_nil)) pa_nil)))) (pa_cons (pv 3) pa_nil)))))))))), ?_⟩
    refine ⟨_, rfl, .inl ⟨_, rfl, _, _, rfl, rfl, (by show (0 : Int) < _; decide), ?_⟩⟩
    dsimp only
    generalize n % 8 = dd
    refine ⟨_, rfl, (by show 4 ≤ sizeLine; decide), fun t1 h1 => ⟨t1, _, rfl, .inr (sqt upd_same), rfl, rfl, _, rfl, ?_⟩⟩
    have s1 := same_upd (o := .tup [.int 0, .int 1, .int 2, .int 3]) h1
    have hW1 := hW.same s1
    dsimp only
    generalize upd H t1 (.tup [.int 0, .int 1, .int 2, .int 3]) = H1 at hW1 s1
    refine ifb2 (fun _ => ?_) (fun _ => ?_)
    · -- a tick
      obtain ⟨dx, cmd, fr, ob, e1, _⟩ := hW1.P.ob
      obtain ⟨m, z, zo, hT⟩ := hW1.T
      refine ⟨_, rfl, a.p, dx, _, rfl, ob, fl_Caller_no_tick, a, org, fs, pat, c, _, rfl, hW1.P, hT, fun l xs G el hP2 hd2 f2 => ?_⟩
      have hs2 := f2 _ _ hW1.L hW1.sn
      refine ⟨_, rfl, .ref l, .ty "list", .type "list", .type "list", true, rfl, .ty _, tyx_l (sql el), kit_ty (by decide +kernel), _, rfl, ifbt rfl ?_⟩
      have hT2 : TrIs K G c (trD m z) := fun x hx => dp_fr f2 hW1.P.noseq (hT x hx)
      refine ⟨_, rfl, _, rfl, _, rfl, _, rfl, _, rfl, s, a.f, org, fs, pat, c, _, rfl, hs2, hP2.fr, (List.getElem?_eq_some_iff.mp e1).1, hT2, fun l2 xs2 G3 el2 hs3 hd3 f3 => ?_⟩
      refine eqD_refl (dp_fr f3 (st_noseq hs2) hd2) hd3 (tick_sh hW.oo hW.fo zo) ?_
      have n2 : ∀ y ∈ a.all, y ∉ [s] := fun y hy hm => by rw [List.mem_singleton] at hm; exact hW1.sn (by rw [← hm]; exact hy)
      have tt : (c.tick pat fs.length).t = c.t := by
        unfold CS.tick
        split
        · rfl
        split <;> rfl
      refine q G3 (c.tick pat fs.length) ⟨hP2.frame f3 (st_noseq hs2) n2, hs3, ⟨m, z, zo, fun x hx => ?_⟩, hW.oo, hW.fo⟩ ?_
      · rw [tt] at hx
        exact dp_fr f3 (st_noseq hs2) (hT2 x hx)
      · exact (Fr.of_same s1).trans ((f2.more (by intro y hy; simp [hy])).trans (f3.more (by intro y hy; simp at hy; simp [hy])))
    · refine ⟨_, rfl, (by show 2 ≤ sizeLine; decide), fun t2 h2 => ⟨t2, _, rfl, .inr (sqt upd_same), rfl, rfl, _, rfl, ?_⟩⟩
      have s2 := same_upd (o := .tup [.int 4, .int 5]) h2
      have hW2 := hW1.same s2
      dsimp only
      generalize upd H1 t2 (.tup [.int 4, .int 5]) = H2 at hW2 s2
      have s12 := s1.trans s2
      refine ifb2 (fun _ => ?_) (fun _ => ?_)
      · exact ⟨_, rfl, _, rfl, _, rfl, _, rfl, _, rfl, .inl ⟨_, rfl, a, s, org, fs, pat, c, n, rfl, hW2, fun G c' hW3 f => q G c' hW3 ((Fr.of_same s12).trans f)⟩⟩
      · refine ⟨_, rfl, _, rfl, _, rfl, _, rfl, _, rfl, .inl ⟨_, rfl, s, org, c, n, rfl, hW2.L, ho, fun l lt G sG hL hA => ?_⟩⟩
        exact ⟨_, rfl, a, s, org, fs, pat, c, l, lt, rfl, hW2.same sG, hL, hA, fun G2 c' hW3 f => q G2 c' hW3 ((Fr.of_same (s12.trans sG)).trans f)⟩
end
/-! the draws of a script: some numbers from 0 to 999 -/
def Drawn (ds : List Int) : Prop := ∀ d ∈ ds, 0 ≤ d ∧ d < 1000
theorem drawn_snoc {ds : List Int} {d : Int} (h : Drawn ds) (h0 : 0 ≤ d) (h1 : d < 1000) : Drawn (ds ++ [d]) := fun e he => by
  rcases List.mem_append.mp he with he | he
  · exact h e he
  · rw [List.mem_singleton] at he
    subst he
    exact ⟨h0, h1⟩
def sp_mix : Sp := fun vs H Q _ => ∃ (c k : Int), vs = [.int c, .int k] ∧ ∀ x : Int, 0 ≤ x → x < 1000 → Q (.int x) H
def sp_row (K : PySem.W.Frag) : Sp := fun vs H Q _ => ∃ (a : Addr) (ns : List Int) (most : Int), vs = [.ref a, .int most] ∧ SqL K H a (ns.map V.int) ∧ ns.length ≤ 63 ∧ 0 ≤ most ∧ most ≤ 1000 ∧
  ∀ (p : Addr) (H' : Hp) (ds : List Int), H p = none → Same H H' → H' p = some (.lst (ds.map V.int)) → Drawn ds → ds.length ≤ most → Q (.ref p) H'
section
variable {P : Program} {w : World} {K : PySem.W.Frag} {mg : Str → Option Value} {base : Heap}
theorem ok__law_mix (T : TX K mg) : FnOk P w K mg base CX0 1 T.a__law_mix T.d__law_mix ["cell", "k"] sp_mix := by
  refine T.F__law_mix.ok sc__law_mix (fun vs H Q E h => ?_) (fun cdv A outer s H vs Q E hr h => ?_)
  · obtain ⟨c, k, rfl, _⟩ := h
    rfl
  · obtain ⟨c, k, rfl, q⟩ := h
    refine ⟨_, (pss_cons (ps_set (i := 2) sc__law_mix.nd rfl (Or.inl rfl) (pe_op op_mod (pe_callTy call_int1 (by rfl) T.n_int (by decide +kernel) (pa_cons (pe_op op_add (pe_op op_add (pe_op op_mul (pv 0) pe_int) (pe_op op_mul (pv 1) pe_int)) pe_int) pa_nil)) pe_int))
      (pss_one (ps_ret (pe_op op_mod (pe_op op_mod (pe_callTy call_int1 (by rfl) T.n_int (by decide +kernel) (pa_cons (pe_op op_add (pe_op op_add (pe_op op_add (pe_op op_mul (pv 2) (pv 2)) (pe_op op_mul (pv 0) pe_int)) (pe_op op_mul (pv 1) pe_int)) pe_int) pa_nil)) pe_int) pe_int)))), ?_⟩
    refine ⟨_, rfl, _, _, rfl, rfl, .inr ⟨by decide, by decide⟩, _, rfl, _, _, rfl, rfl, .inr ⟨by decide, by decide⟩, _, _, rfl, rfl, _, _, rfl, rfl, .inl ⟨_, rfl, _, _, rfl, rfl, (by show (0 : Int) < _; decide), ?_⟩⟩
    dsimp only
    have l0 := Int.emod_nonneg (c * 48271 + k * 69621 + 11) (show (2147483647 : Int) ≠ 0 by decide)
    have l1 := Int.emod_lt_of_pos (c * 48271 + k * 69621 + 11) (show (0 : Int) < 2147483647 by decide)
    generalize (c * 48271 + k * 69621 + 11) % 2147483647 = low at l0 l1
    refine ⟨_, rfl, _, rfl, _, _, rfl, rfl, .inl ⟨by omega, by omega⟩, _, rfl, _, _, rfl, rfl, .inr ⟨by decide, by decide⟩, _, _, rfl, rfl, _, rfl, _, _, rfl, rfl, .inr ⟨by decide, by decide⟩, _, _, rfl, rfl, _, _, rfl, rfl, .inl ⟨_, rfl, _, _, rfl, rfl, (by show (0 : Int) < _; decide), _, _, rfl, rfl, (by show (0 : Int) < _; decide), ?_⟩⟩
    exact q _ (Int.emod_nonneg _ (by decide)) (Int.emod_lt_of_pos _ (by decide))
theorem ok__law_row (T : TX K mg) : FnOk P w K mg base CX0 2 T.a__law_row T.d__law_row ["script", "most"] (sp_row K) := by
  refine T.F__law_row.ok sc__law_row (fun vs H Q E h => ?_) (fun cdv A outer s H vs Q E hr h => ?_)
  · obtain ⟨a, ns, most, rfl, _⟩ := h
    rfl
  · obtain ⟨a, ns, most, rfl, hS, hns, hm0, hm1, q⟩ := h
    refine ⟨_, (pss_cons (ps_set (i := 2) sc__law_row.nd rfl (Or.inl rfl) (pe_lst pa_nil))
      (pss_cons (ps_for PassesOwn.never rfl (pi_range1 (by rfl) T.n_range (pa_cons (pe_callB (call_min2 rfl) (by rfl) T.n_min (by decide +kernel) (pa_cons (pe_callB call_len_seq (by rfl) T.n_len PySem.boot_len (pa_cons (pv 0) pa_nil)) (pa_cons pe_int pa_nil))) pa_nil)) (pg_name (i := 3) sc__law_row.nd rfl (Or.inl rfl))
        (pss_cons (ps_set (i := 4) sc__law_row.nd rfl (Or.inl rfl) (pe_ix ix_list (pv 0) (pv 3) (fun _ _ => rfl)))
        (pss_one (ps_if (pt_cmpR op_ge (pv 4) (pe_op op_pow pe_int pe_int) (nomark _)) (pss_one (ps_for PassesOwn.never rfl (pi_range1 (by rfl) T.n_range (pa_cons pe_int pa_nil)) (pg_name (i := 5) sc__law_row.nd rfl (Or.inl rfl))
            (pss_one (ps_if (PW.pt (pw_and (pt_cmpR op_gt (pv 4) pe_int (nomark _)) (pw_and1 (pt_cmpR op_lt (pe_callB call_len_seq (by rfl) T.n_len PySem.boot_len (pa_cons (pv 2) pa_nil)) (pv 1) (nomark _))))) (pss_cons (ps_expr (pe_bm PySem.F.plainAttrs_list PySem.F.slot_list_append PySem.F.type_list_append mt_append (pv 2) (pa_cons (pe_op op_mod (pe_callTy call_int1 (by rfl) T.n_int (by decide +kernel) (pa_cons (pv 4) pa_nil)) pe_int) pa_nil)))
              (pss_one (ps_set (i := 4) sc__law_row.nd rfl (Or.inl rfl) (pe_op op_fdiv (pv 4) pe_int)))) pss_nil)))) (pss_one (ps_for PassesOwn.never rfl (pi_range1 (by rfl) T.n_range (pa_cons pe_int pa_nil)) (pg_name (i := 5) sc__law_row.nd rfl (Or.inl rfl))
            (pss_one (ps_if (pt_cmpR op_lt (pe_callB call_len_seq (by rfl) T.n_len PySem.boot_len (pa_cons (pv 2) pa_nil)) (pv 1) (nomark _)) (pss_one (ps_expr (pe_bm PySem.F.plainAttrs_list PySem.F.slot_list_append PySem.F.type_list_append mt_append (pv 2) (pa_cons (pe_call (ok__law_mix T) (hr.mono (by decide)) (by rfl) T.g__law_mix T.F__law_mix.kp T.b__law_mix .nil pass0 (pa_cons (pv 4) (pa_cons (pe_op op_add (pe_op op_mul pe_int (pv 5)) (pv 3)) pa_nil))) pa_nil)))) pss_nil))))))))
      (pss_one (ps_ret (pv 2))))), ?_⟩
    refine ⟨Nat.zero_le _, fun o ho => ?_⟩
    have s1 := same_upd (o := .lst []) ho
    have hml : (ns.map V.int).length = ns.length := List.length_map _
    refine ⟨_, rfl, a, _, rfl, .inl (s1.seq hS), _, _, rfl, ?_⟩
    obtain ⟨m, hm, hm63, hmn⟩ : ∃ m : Nat, (if (63 : Int) < ((ns.map V.int).length : Int) then (63 : Int) else ((ns.map V.int).length : Int)) = (m : Int) ∧ m ≤ 63 ∧ m ≤ ns.length := by
      rw [hml]
      refine ⟨min ns.length 63, ?_, by omega, by omega⟩
      split <;> omega
    refine ⟨(m : Int), by rw [← hm], by omega, by omega, for_range (lo := 0) (n := _) (fun i σ H2 => ∃ (ds : List Int) (x3 x4 x5 : Option V), σ = [some (.ref a), some (.int most), some (.ref o), x3, x4, x5] ∧ Same H H2 ∧ H2 o = some (.lst (ds.map V.int)) ∧ Drawn ds ∧ (ds.length : Int) ≤ most)
      ⟨[], none, none, none, rfl, s1, upd_same, (fun _ h => by cases h), hm0⟩ ?_ ?_⟩
    · rintro i σ H2 hi ⟨ds, x3, x4, x5, rfl, g1, g2, g3, g4⟩
      have him : i < m := by omega
      have hg : ns[i]? = some ns[i] := List.getElem?_eq_getElem (by omega)
      have ha : atI (ns.map V.int) (0 + (i : Int)) = some (.int ns[i]) := by rw [Int.zero_add]; exact at_map hg
      generalize ns[i] = c at ha
      refine ⟨_, rfl, _, rfl, a, _, _, _, rfl, rfl, g1.seq hS, ha, ?_⟩
      refine ⟨_, rfl, _, _, rfl, rfl, ⟨by decide, by decide, by decide⟩, _, _, rfl, rfl, _, rfl, ifd (fun hb => ?_) (fun hb => ?_)⟩
      · have hc : 0 ≤ c := by
          have hb' : c ≥ 10 ^ 18 := hb
          omega
        refine ⟨60, rfl, by decide, by decide, for_range (lo := 0) (n := 60) (fun j σ H3 => ∃ (es : List Int) (rest : Int) (x5 : Option V), 0 ≤ rest ∧ σ = [some (.ref a), some (.int most), some (.ref o), some (.int (0 + (i : Int))), some (.int rest), x5] ∧ Same H H3 ∧ H3 o = some (.lst (es.map V.int)) ∧ Drawn es ∧ (es.length : Int) ≤ most)
          ⟨ds, c, x5, hc, rfl, g1, g2, g3, g4⟩ ?_ ?_⟩
        · rintro j σ H3 hj ⟨es, rest, x5, h0, rfl, k1, k2, k3, k4⟩
          refine ⟨_, rfl, _, _, rfl, rfl, _, rfl, ifd (fun hb => ?_) (fun hb => ?_)⟩
          · refine ⟨_, rfl, o, _, rfl, .inl (sql k2), _, rfl, _, _, rfl, rfl, _, rfl, ifd (fun hb2 => ?_) (fun hb2 => ?_)⟩
            · have hb3 : ((es.map V.int).length : Int) < most := hb2
              rw [List.length_map] at hb3
              refine ⟨_, rfl, .inl ⟨rfl, _, sql k2⟩, _, rfl, .inl ⟨_, rfl, _, _, rfl, rfl, (by show (0 : Int) < _; decide), o, _, _, rfl, rfl, k2, szl (by rw [List.length_map]; omega), ?_⟩⟩
              refine ⟨_, rfl, _, _, rfl, rfl, ⟨by decide, by decide⟩, ?_⟩
              refine ⟨es ++ [rest % 1000], rest / 1000, some (.int (0 + (j : Int))), Int.ediv_nonneg h0 (by decide), rfl, same_put k1 ho, ?_, drawn_snoc k3 (Int.emod_nonneg _ (by decide)) (Int.emod_lt_of_pos _ (by decide)), by rw [List.length_append]; simp only [List.length_cons, List.length_nil]; omega⟩
              rw [upd_same, List.map_append]
              rfl
            · exact ⟨es, rest, some (.int (0 + (j : Int))), h0, rfl, k1, k2, k3, k4⟩
          · exact ⟨es, rest, some (.int (0 + (j : Int))), h0, rfl, k1, k2, k3, k4⟩
        · rintro σ H3 ⟨es, rest, x5, h0, rfl, k1, k2, k3, k4⟩
          exact ⟨es, _, _, _, rfl, k1, k2, k3, k4⟩
      · refine ⟨3, rfl, by decide, by decide, for_range (lo := 0) (n := 3) (fun j σ H3 => ∃ (es : List Int) (x5 : Option V), σ = [some (.ref a), some (.int most), some (.ref o), some (.int (0 + (i : Int))), some (.int c), x5] ∧ Same H H3 ∧ H3 o = some (.lst (es.map V.int)) ∧ Drawn es ∧ (es.length : Int) ≤ most)
          ⟨ds, x5, rfl, g1, g2, g3, g4⟩ ?_ ?_⟩
        · rintro j σ H3 hj ⟨es, x5, rfl, k1, k2, k3, k4⟩
          refine ⟨_, rfl, o, _, rfl, .inl (sql k2), _, rfl, _, _, rfl, rfl, _, rfl, ifd (fun hb2 => ?_) (fun hb2 => ?_)⟩
          · have hb3 : ((es.map V.int).length : Int) < most := hb2
            rw [List.length_map] at hb3
            refine ⟨_, rfl, .inl ⟨rfl, _, sql k2⟩, _, rfl, _, rfl, _, _, rfl, rfl, .inl ⟨by decide, by decide⟩, _, rfl, _, _, rfl, rfl, _, _, rfl, fun x hx0 hx1 => ⟨o, _, _, rfl, rfl, k2, szl (by rw [List.length_map]; omega), ?_⟩⟩
            refine ⟨es ++ [x], some (.int (0 + (j : Int))), rfl, same_put k1 ho, ?_, drawn_snoc k3 hx0 hx1, by rw [List.length_append]; simp only [List.length_cons, List.length_nil]; omega⟩
            rw [upd_same, List.map_append]
            rfl
          · exact ⟨es, some (.int (0 + (j : Int))), rfl, k1, k2, k3, k4⟩
        · rintro σ H3 ⟨es, x5, rfl, k1, k2, k3, k4⟩
          exact ⟨es, _, _, _, rfl, k1, k2, k3, k4⟩
    · rintro σ H2 ⟨ds, x3, x4, x5, rfl, g1, g2, g3, g4⟩
      exact ⟨_, rfl, q o _ ds ho g1 g2 g3 g4⟩
end
def sp_lfronts (K : PySem.W.Frag) : Sp := fun vs H Q _ => ∃ (n : Int), vs = [.int n] ∧ 0 ≤ n ∧ ∀ f (fs : List Str) H', Same H H' → SqT K H' f (fs.map V.str) → 1 ≤ fs.length → fs.length ≤ 4 → (∀ z ∈ fs, PyData.strOk z = true) → Q (.ref f) H'
def names46 : List Str := ["f1", "f22", "f3", "f444"]
section
variable {P : Program} {w : World} {K : PySem.W.Frag} {mg : Str → Option Value} {base : Heap}
theorem ok__law_fronts (T : TX K mg) : FnOk P w K mg base CX0 1 T.a__law_fronts T.d__law_fronts ["number"] (sp_lfronts K) := by
  refine T.F__law_fronts.ok sc__law_fronts (fun vs H Q E h => ?_) (fun cdv A outer s' H vs Q E hr h => ?_)
  · obtain ⟨n, rfl, _⟩ := h
    rfl
  · obtain ⟨n, rfl, hn, q⟩ := h
    refine ⟨_, (pss_cons (ps_set (i := 1) sc__law_fronts.nd rfl (Or.inr rfl) (pe_lst (pa_cons pe_str (pa_cons pe_str (pa_cons pe_str (pa_cons pe_str pa_nil))))))
      (pss_one (ps_ret (pe_callTy call_tuple_of (by rfl) T.n_tuple (by decide +kernel) (pa_cons (pe_lc (own := [("k", 2)]) (g := gName 2) (tt := tYes) (by rfl) sc__law_fronts.nd (pi_range1 (by rfl) T.n_range (pa_cons (pe_op op_add pe_int (pe_op op_mod (pe_op op_fdiv (pv 0) pe_int) pe_int)) pa_nil)) (blkOk_by (own := [("k", 2)]) (N := ["number", "names", "k"]) (sc := defScope s__law_fronts) (by decide +kernel)) (fun _ _ _ _ _ => pg_name (i := 2) sc__law_fronts.nd rfl (Or.inl rfl)) (fun _ _ _ _ _ => pts_nil) (fun _ _ _ _ _ => (pe_ix (ixK_list (K := K) rfl) (pv 1) (pe_op op_mod (pe_op op_add (pv 2) (pv 0)) pe_int) (fun _ _ => rfl)))) pa_nil))))), ?_⟩
    refine ⟨(by show 4 ≤ sizeLine; decide), fun nm hnm => ?_⟩
    have s1 := same_upd (o := .lst [.str "f1", .str "f22", .str "f3", .str "f444"]) hnm
    have b0 := Int.emod_nonneg (n / 4) (show (4 : Int) ≠ 0 by decide)
    have b1 := Int.emod_lt_of_pos (n / 4) (show (0 : Int) < 4 by decide)
    have en : (upd H nm (.lst [.str "f1", .str "f22", .str "f3", .str "f444"])) nm = some (.lst (names46.map V.str)) := upd_same
    dsimp only
    generalize upd H nm (.lst [.str "f1", .str "f22", .str "f3", .str "f444"]) = G at s1 en
    refine ⟨_, rfl, _, _, rfl, rfl, ⟨by decide, by decide⟩, _, _, rfl, rfl, (by show (0 : Int) < _; decide), _, _, rfl, rfl, 1 + n / 4 % 4, rfl, by omega, by omega, fun D hD => lc_range (lo := 0) (n := _) (fun i G2 => ∃ acc : List Str, Same G G2 ∧ G2 D = some (.lst (acc.map V.str)) ∧ acc.length = i ∧ ∀ z ∈ acc, PyData.strOk z = true) ⟨[], same_upd hD, upd_same, rfl, fun _ h => by cases h⟩ ?_ ?_⟩
    · rintro i G2 hi ⟨acc, s2, eD, hl, ok⟩
      have c0 := Int.emod_nonneg (0 + (i : Int) + n) (show (4 : Int) ≠ 0 by decide)
      have c1 := Int.emod_lt_of_pos (0 + (i : Int) + n) (show (0 : Int) < 4 by decide)
      obtain ⟨z, hz, zo⟩ : ∃ z, atI (names46.map V.str) ((0 + (i : Int) + n) % 4) = some (.str z) ∧ PyData.strOk z = true := by
        have : (0 + (i : Int) + n) % 4 = 0 ∨ (0 + (i : Int) + n) % 4 = 1 ∨ (0 + (i : Int) + n) % 4 = 2 ∨ (0 + (i : Int) + n) % 4 = 3 := by omega
        rcases this with e | e | e | e <;> rw [e]
        · exact ⟨"f1", atI_nat (j := 0) rfl, by decide +kernel⟩
        · exact ⟨"f22", atI_nat (j := 1) rfl, by decide +kernel⟩
        · exact ⟨"f3", atI_nat (j := 2) rfl, by decide +kernel⟩
        · exact ⟨"f444", atI_nat (j := 3) rfl, by decide +kernel⟩
      refine ⟨rfl, _, rfl, _, rfl, _, rfl, _, _, rfl, rfl, _, _, rfl, rfl, (by show (0 : Int) < _; decide), nm, names46.map V.str, _, _, rfl, rfl, sql (s2 _ _ en), hz, ?_⟩
      refine ⟨_, eD, szl (by rw [List.length_map]; omega), acc ++ [z], same_put s2 hD, by rw [upd_same, List.map_append]; rfl, by rw [List.length_append, hl]; rfl, fun y hy => ?_⟩
      rcases List.mem_append.mp hy with hy | hy
      · exact ok y hy
      · rw [List.mem_singleton] at hy
        rw [hy]; exact zo
    · rintro G2 ⟨acc, s2, eD, hl, ok⟩
      refine ⟨D, _, rfl, .inl ⟨sql eD, fun f hf => ?_⟩⟩
      have s3 := same_upd (o := .tup (acc.map V.str)) hf
      exact q f acc _ ((s1.trans s2).trans s3) (sqt upd_same) (by omega) (by omega) ok
end
def sp_law (K : PySem.W.Frag) : Sp := fun vs H Q _ => ∃ (a : Addr) (ns : List Int), vs = [.ref a] ∧ SqL K H a (ns.map V.int) ∧ ns.length ≤ 63 ∧ ∀ H', Q (.bl true) H'
theorem m_len {i : Int} (h0 : 0 ≤ i) (h : i < 31) : (Str.ofString "m1." ++ Str.ofString (toString i)).length ≤ 100 := by
  have z : ∀ k : Nat, k < 31 → (Str.ofString "m1." ++ Str.ofString (toString (k : Int))).length ≤ 100 := by decide +kernel
  have := z i.toNat (by omega)
  rwa [Int.toNat_of_nonneg h0] at this
section
variable {P : Program} {w : World} {K : PySem.W.Frag} {mg : Str → Option Value} {base : Heap}
theorem ok_law (T : TX K mg) : FnOk P w K mg base CX0 6 T.a_law T.d_law ["script"] (sp_law K) := by
  refine T.F_law.ok sc_law (fun vs H Q E h => ?_) (fun cdv A outer s H vs Q E hr h => ?_)
  · obtain ⟨a, ns, rfl, _⟩ := h
    rfl
  · obtain ⟨A0, ns, rfl, hS, hns, q⟩ := h
    refine ⟨_, (pss_cons (ps_set (i := 1) sc_law.nd rfl (Or.inl rfl) pe_int)
      (C8.pss_cut (ps_if (pt_truth (pv 0) (by intro _; rfl)) (pss_one (ps_set (i := 1) sc_law.nd rfl (Or.inl rfl) (pe_op op_mod (pe_callTy call_int1 (by rfl) T.n_int (by decide +kernel) (pa_cons (pe_ix ix_list (pv 0) pe_int (fun _ _ => rfl)) pa_nil)) pe_int))) pss_nil)
      (pss_cons (ps_set (i := 2) sc_law.nd rfl (Or.inl rfl) (pe_call (ok__law_fronts T) (hr.mono (by decide)) (by rfl) T.g__law_fronts T.F__law_fronts.kp T.b__law_fronts .nil pass0 (pa_cons (pv 1) pa_nil)))
      (pss_cons (ps_set (i := 3) sc_law.nd rfl (Or.inl rfl) (pe_op op_add_str pe_str (pe_callTy call_str_int (by rfl) T.n_str (by decide +kernel) (pa_cons (pe_op op_add pe_int (pe_op op_mod (pe_op op_fdiv (pv 1) pe_int) pe_int)) pa_nil))))
      (pss_cons (ps_set (i := 4) sc_law.nd rfl (Or.inl rfl) (pe_op op_add pe_int (pe_op op_mod (pe_op op_fdiv (pv 1) pe_int) pe_int)))
      (C8.pss_cut (ps_if (pt_cmpR op_eq (pe_op op_mod (pe_op op_fdiv (pv 1) pe_int) pe_int) pe_int (nomark _)) (pss_one (ps_set (i := 4) sc_law.nd rfl (Or.inl rfl) (pe_op op_add pe_int (pe_op op_mod (pv 1) pe_int)))) pss_nil)
      (pss_cons (ps_set (i := 5) sc_law.nd rfl (Or.inl rfl) (pe_makeK T.M_Caller (ok_Caller___init__ T) (hr.mono (by decide)) (by rfl) T.g_Caller T.kb_Caller___init__.choose_spec pass0 (pa_cons (pv 3) (pa_cons (pv 2) pa_nil)) (pk_cons (pv 4) pk_nil)))
      (C8.pss_cut (ps_if (pt_cmpR op_eq (pe_op op_mod (pe_op op_fdiv (pv 1) pe_int) pe_int) pe_int (nomark _)) (pss_cons (ps_set (i := 5) sc_law.nd rfl (Or.inl rfl) (pe_make T.M_Caller (ok_Caller___init__ T) (hr.mono (by decide)) (by rfl) T.g_Caller T.bD_Caller___init__.choose_spec.2 T.bD_Caller___init__.choose_spec.1 pass0 (pa_cons (pv 3) (pa_cons (pv 2) pa_nil))))
        (pss_one (ps_set (i := 4) sc_law.nd rfl (Or.inl rfl) pe_int))) pss_nil)
      (pss_cons (ps_set (i := 6) sc_law.nd rfl (Or.inl rfl) (pe_disp (pps_cons pe_str pe_int (pps_cons pe_str pe_int (pps_cons pe_str pe_int (pps_cons pe_str pe_int (pps_cons pe_str pe_non pps_nil))))) rfl rfl (by simp) (by decide)))
      (pss_cons (ps_if (pt_not (pt_val (pe_call (ok__law_same T) (hr.mono (by decide)) (by rfl) T.g__law_same T.F__law_same.kp T.b__law_same .nil pass0 (pa_cons (pv 5) (pa_cons (pv 6) (pa_cons (pv 2) (pa_cons (pv 3) pa_nil))))))) (pss_one (ps_ret pe_bl)) pss_nil)
      (pss_cons (ps_for PassesOwn.never rfl (pi_list (pe_call (ok__law_row T) (hr.mono (by decide)) (by rfl) T.g__law_row T.F__law_row.kp T.b__law_row .nil pass0 (pa_cons (pv 0) (pa_cons pe_int pa_nil)))) (pg_name (i := 7) sc_law.nd rfl (Or.inl rfl))
        (pss_cons (ps_if (pt_not (pt_val (pe_call (ok__law_deed T) (hr.mono (by decide)) (by rfl) T.g__law_deed T.F__law_deed.kp T.b__law_deed .nil pass0 (pa_cons (pv 5) (pa_cons (pv 6) (pa_cons (pv 2) (pa_cons (pv 3) (pa_cons (pv 4) (pa_cons (pv 7) pa_nil))))))))) (pss_one (ps_ret pe_bl)) pss_nil)
        (pss_one (ps_if (pt_not (pt_val (pe_call (ok__law_same T) (hr.mono (by decide)) (by rfl) T.g__law_same T.F__law_same.kp T.b__law_same .nil pass0 (pa_cons (pv 5) (pa_cons (pv 6) (pa_cons (pv 2) (pa_cons (pv 3) pa_nil))))))) (pss_one (ps_ret pe_bl)) pss_nil))))
      (pss_one (ps_ret pe_bl))))))))))))), ?_⟩
    refine ⟨fun σ' G => ∃ first : Int, 0 ≤ first ∧ σ' = [some (.ref A0), some (.int first), none, none, none, none, none, none] ∧ H = G, ?_, ?_⟩
    · refine ⟨_, rfl, _, .inl ⟨_, hS, rfl⟩, ?_⟩
      cases ns with
      | nil => exact ⟨0, by decide, rfl, rfl⟩
      | cons c r =>
        exact ⟨_, rfl, A0, _, 0, .int c, rfl, rfl, hS, at_map (i := 0) rfl, .inl ⟨_, rfl, _, _, rfl, rfl, (by show (0 : Int) < _; decide), _, Int.emod_nonneg _ (by decide), rfl, rfl⟩⟩
    rintro σ' _ ⟨first, f0, rfl, rfl⟩
    refine ⟨_, rfl, first, rfl, f0, fun f fs H1 s1 hf l1 l4 fo => ?_⟩
    have b0 := Int.emod_nonneg (first / 16) (show (30 : Int) ≠ 0 by decide)
    have b1 := Int.emod_lt_of_pos (first / 16) (show (0 : Int) < 30 by decide)
    have l3 : ("m1." : Str).length = 3 := by decide +kernel
    have oo := m_ok (i := 1 + first / 16 % 30) (by omega) (by omega)
    have ol := m_len (i := 1 + first / 16 % 30) (by omega) (by omega)
    have ln := len_small (i := 1 + first / 16 % 30) (by omega) (by omega)
    refine ⟨_, rfl, _, _, rfl, rfl, ⟨by decide, by decide⟩, _, _, rfl, rfl, (by show (0 : Int) < _; decide), _, _, rfl, rfl, _, rfl, log_small (by omega) (by omega), _, _, rfl, rfl, (by rw [l3]; exact Nat.le_trans (Nat.add_le_add_left ln 3) (by decide)), ?_⟩
    have eo : (Str.ofString "m1." ++ Str.ofString (toString (1 + first / 16 % 30))) = (Str.ofString "m1." ++ Str.ofString (toString (1 + first / 16 % 30))) := rfl
    dsimp only [L2.tSeq]
    generalize (Str.ofString "m1." ++ Str.ofString (toString (1 + first / 16 % 30))) = org at oo ol
    refine ⟨_, rfl, _, _, rfl, rfl, ⟨by decide, by decide⟩, _, _, rfl, rfl, (by show (0 : Int) < _; decide), _, _, rfl, rfl, ?_⟩
    refine ⟨fun σ' G => ∃ pat : Int, σ' = [some (.ref A0), some (.int first), some (.ref f), some (.str org), some (.int pat), none, none, none] ∧ H1 = G, ?_, ?_⟩
    · refine ⟨_, rfl, _, _, rfl, rfl, ⟨by decide, by decide⟩, _, _, rfl, rfl, (by show (0 : Int) < _; decide), rfl, _, rfl, ifd (fun _ => ?_) (fun _ => ⟨_, rfl, rfl⟩)⟩
      exact ⟨_, rfl, _, _, rfl, rfl, (by show (0 : Int) < _; decide), _, _, rfl, rfl, _, rfl, rfl⟩
    rintro σ' _ ⟨pat, rfl, rfl⟩
    have hz : fs[0]? = some fs[0] := List.getElem?_eq_getElem (by omega)
    generalize fs[0] = z at hz
    refine ⟨_, rfl, _, rfl, _, rfl, rfl, rfl, fun p dx hp hdx npd => ⟨p, dx, f, org, fs, pat, z, rfl, upd_same, sqt_same (same_new hp hdx (Fr.refl _ _)) hf, hz, l4, fun r H2 hr hP f1 => ⟨rfl, ?_⟩⟩⟩
    have s2 := same_new hp hdx f1
    dsimp only [L2.tSeq]
    clear f1 hr
    refine ⟨fun σ' G => ∃ (a : CP) (pat : Int), a.f = f ∧ σ' = [some (.ref A0), some (.int first), some (.ref f), some (.str org), some (.int pat), some (.ref a.p), none, none] ∧ PAt K T.a_Caller T.a_Rota G a org fs pat ⟨0, 0, 0, 0, none⟩ ∧ Same H G, ?_, ?_⟩
    · refine ⟨_, rfl, _, _, rfl, rfl, ⟨by decide, by decide⟩, _, _, rfl, rfl, (by show (0 : Int) < _; decide), rfl, _, rfl, ifd (fun _ => ?_) (fun _ => ?_)⟩
      · refine ⟨_, rfl, _, rfl, fun p3 dx3 hp3 hdx3 npd3 => ⟨p3, dx3, f, org, fs, 4, z, rfl, upd_same, sqt_same (s2.trans (same_new hp3 hdx3 (Fr.refl _ _))) hf, hz, l4, fun r3 H3 hr3 hP3 f3 => ⟨rfl, ?_⟩⟩⟩
        exact ⟨_, _, rfl, rfl, hP3, (s1.trans s2).trans (same_new hp3 hdx3 f3)⟩
      · exact ⟨⟨p, r, f⟩, pat, rfl, rfl, hP, s1.trans s2⟩
    rintro σ' G ⟨a, pat, rfl, rfl, hP, s3⟩
    -- the law's dict
    refine fun s hs => ⟨upd_same, [(Sum.inr ("number" : Str), V.int 0), (.inr ("at" : Str), .int 0), (.inr ("waited" : Str), .int 0), (.inr ("age" : Str), .int 0), (.inr ("transaction" : Str), .non)], rfl, by decide, ?_⟩
    rw [upd_upd, p_0]
    have s4 := same_upd (o := .dK (stK ⟨0, 0, 0, 0, none⟩)) hs
    have hW : W46 K T.a_Caller T.a_Rota (upd G s (.dK (stK ⟨0, 0, 0, 0, none⟩))) a s org fs pat ⟨0, 0, 0, 0, none⟩ := ⟨hP.same s4, upd_same, ⟨0, "", by decide +kernel, fun x hx => by cases hx⟩, oo, fo⟩
    have s5 := s3.trans s4
    dsimp only [L2.tSeq]
    generalize upd G s (.dK (stK ⟨0, 0, 0, 0, none⟩)) = G1 at hW s5
    refine ⟨_, rfl, _, rfl, _, rfl, _, rfl, a, s, org, fs, pat, _, rfl, hW, _, rfl, ifbf rfl ?_⟩
    refine ⟨_, rfl, A0, ns, 200, rfl, s5.seq hS, hns, by decide, by decide, fun rw' G2 ds hr2 s6 er hD hl => ?_⟩
    have hW2 := hW.same s6
    refine ⟨rw', rfl, ⟨_, sql er⟩, for_list (K := K) (a := rw') (xs := ds.map V.int) (fun i σ G => ∃ (c : CS) (x7 : Option V), σ = [some (.ref A0), some (.int first), some (.ref a.f), some (.str org), some (.int pat), some (.ref a.p), some (.ref s), x7] ∧ W46 K T.a_Caller T.a_Rota G a s org fs pat c ∧ G rw' = some (.lst (ds.map V.int)))
      ⟨_, none, rfl, hW2, er⟩ (fun i σ G _ ⟨_, _, _, _, e⟩ => sql e) ?_ ?_⟩
    · rintro i x σ G3 hx ⟨c, x7, rfl, hW3, e⟩
      obtain ⟨n, hn, rfl⟩ := map_at hx
      refine ⟨_, rfl, _, rfl, _, rfl, _, rfl, _, rfl, _, rfl, a, s, org, fs, pat, c, n, rfl, hW3, ol, fun G4 c' hW4 f4 => ⟨_, rfl, ifbf rfl ?_⟩⟩
      refine ⟨_, rfl, _, rfl, _, rfl, _, rfl, a, s, org, fs, pat, _, rfl, hW4, _, rfl, ifbf rfl ?_⟩
      refine ⟨c', _, rfl, hW4, f4 _ _ e fun hm => ?_⟩
      rcases hW3.nq _ hm with ⟨C, dx, fs, e'⟩ | ⟨kvs, e'⟩
      · rw [e] at e'; cases e'
      · rw [e] at e'; cases e'
    · rintro σ G3 ⟨c, x7, rfl, hW3, e⟩
      exact q _
end
theorem all_mk {l : PySem.W.OpenLaw} {w : World} {K : PySem.W.Frag} {h : Heap} {mg : Str → Option Value} {fa : Addr} (X : K.In h) (G : h.Ns mainGlobals mg) (hfa : mg "law" = some (.ref fa))
    {e_MajordomoError : Addr} {e_CallerError : Addr} {e_Busy : Addr} {C_Rota : Addr} {C_Caller : Addr} {f_Rota___init__ : Addr} {od_Rota___init__ an_Rota___init__ : Option Addr} {sl_Rota___init__ : Array (Option Value)} {oc_Rota___init__ kV_Rota___init__ dc_Rota___init__ pm_Rota___init__ cd_Rota___init__ ct_Rota___init__ : Value} {f_Rota_take_turn : Addr} {od_Rota_take_turn an_Rota_take_turn : Option Addr} {sl_Rota_take_turn : Array (Option Value)} {oc_Rota_take_turn kV_Rota_take_turn dc_Rota_take_turn pm_Rota_take_turn cd_Rota_take_turn ct_Rota_take_turn : Value} {f_Caller___init__ : Addr} {od_Caller___init__ an_Caller___init__ : Option Addr} {sl_Caller___init__ : Array (Option Value)} {oc_Caller___init__ dc_Caller___init__ pm_Caller___init__ cd_Caller___init__ ct_Caller___init__ : Value} {kD_Caller___init__ : Addr} {kt_Caller___init___patience : Tok} {f_Caller_busy : Addr} {od_Caller_busy an_Caller_busy : Option Addr} {sl_Caller_busy : Array (Option Value)} {oc_Caller_busy kV_Caller_busy dc_Caller_busy pm_Caller_busy cd_Caller_busy ct_Caller_busy : Value} {pp_Caller_busy : Addr} {prr_Caller_busy : List Value} {f_Caller_ask : Addr} {od_Caller_ask an_Caller_ask : Option Addr} {sl_Caller_ask : Array (Option Value)} {oc_Caller_ask kV_Caller_ask dc_Caller_ask pm_Caller_ask cd_Caller_ask ct_Caller_ask : Value} {f_Caller_tick : Addr} {od_Caller_tick an_Caller_tick : Option Addr} {sl_Caller_tick : Array (Option Value)} {oc_Caller_tick kV_Caller_tick dc_Caller_tick pm_Caller_tick cd_Caller_tick ct_Caller_tick : Value} {f_Caller_hear : Addr} {od_Caller_hear an_Caller_hear : Option Addr} {sl_Caller_hear : Array (Option Value)} {oc_Caller_hear kV_Caller_hear dc_Caller_hear pm_Caller_hear cd_Caller_hear ct_Caller_hear : Value} {f_Caller__send : Addr} {od_Caller__send an_Caller__send : Option Addr} {sl_Caller__send : Array (Option Value)} {oc_Caller__send kV_Caller__send dc_Caller__send pm_Caller__send cd_Caller__send ct_Caller__send : Value} {f__law_mix : Addr} {od__law_mix an__law_mix : Option Addr} {sl__law_mix : Array (Option Value)} {oc__law_mix kV__law_mix dc__law_mix pm__law_mix cd__law_mix ct__law_mix : Value} {f__law_row : Addr} {od__law_row an__law_row : Option Addr} {sl__law_row : Array (Option Value)} {oc__law_row kV__law_row dc__law_row pm__law_row cd__law_row ct__law_row : Value} {f__law_transaction : Addr} {od__law_transaction an__law_transaction : Option Addr} {sl__law_transaction : Array (Option Value)} {oc__law_transaction kV__law_transaction dc__law_transaction pm__law_transaction cd__law_transaction ct__law_transaction : Value} {f__law_fronts : Addr} {od__law_fronts an__law_fronts : Option Addr} {sl__law_fronts : Array (Option Value)} {oc__law_fronts kV__law_fronts dc__law_fronts pm__law_fronts cd__law_fronts ct__law_fronts : Value} {f__law_sent : Addr} {od__law_sent an__law_sent : Option Addr} {sl__law_sent : Array (Option Value)} {oc__law_sent kV__law_sent dc__law_sent pm__law_sent cd__law_sent ct__law_sent : Value} {f__law_tick : Addr} {od__law_tick an__law_tick : Option Addr} {sl__law_tick : Array (Option Value)} {oc__law_tick kV__law_tick dc__law_tick pm__law_tick cd__law_tick ct__law_tick : Value} {f__law_ask : Addr} {od__law_ask an__law_ask : Option Addr} {sl__law_ask : Array (Option Value)} {oc__law_ask kV__law_ask dc__law_ask pm__law_ask cd__law_ask ct__law_ask : Value} {f__law_letter : Addr} {od__law_letter an__law_letter : Option Addr} {sl__law_letter : Array (Option Value)} {oc__law_letter kV__law_letter dc__law_letter pm__law_letter cd__law_letter ct__law_letter : Value} {f__law_hear : Addr} {od__law_hear an__law_hear : Option Addr} {sl__law_hear : Array (Option Value)} {oc__law_hear kV__law_hear dc__law_hear pm__law_hear cd__law_hear ct__law_hear : Value} {f__law_deed : Addr} {od__law_deed an__law_deed : Option Addr} {sl__law_deed : Array (Option Value)} {oc__law_deed kV__law_deed dc__law_deed pm__law_deed cd__law_deed ct__law_deed : Value} {f__law_same : Addr} {od__law_same an__law_same : Option Addr} {sl__law_same : Array (Option Value)} {oc__law_same kV__law_same dc__law_same pm__law_same cd__law_same ct__law_same : Value} {f_law : Addr} {od_law an_law : Option Addr} {sl_law : Array (Option Value)} {oc_law kV_law dc_law pm_law cd_law ct_law : Value}
    (g_MajordomoError : PySem.W.nsIn K mainGlobals "MajordomoError" = some (some (.ref e_MajordomoError)))
    (x_MajordomoError : PySem.W.excIn K e_MajordomoError [.type "ValueError", .type "Exception", .type "BaseException", .type "object"] "ValueError.__new__" = true)
    (k_MajordomoError : PySem.W.keepIn K (.ref e_MajordomoError) = true)
    (s_MajordomoError : PySem.W.subIn K (.ref e_MajordomoError) (.type "BaseException") = some true)
    (t_MajordomoError : PySem.W.typeIn K (.ref e_MajordomoError) = some (.type "type"))
    (g_CallerError : PySem.W.nsIn K mainGlobals "CallerError" = some (some (.ref e_CallerError)))
    (x_CallerError : PySem.W.excIn K e_CallerError [.type "ValueError", .type "Exception", .type "BaseException", .type "object"] "ValueError.__new__" = true)
    (k_CallerError : PySem.W.keepIn K (.ref e_CallerError) = true)
    (s_CallerError : PySem.W.subIn K (.ref e_CallerError) (.type "BaseException") = some true)
    (t_CallerError : PySem.W.typeIn K (.ref e_CallerError) = some (.type "type"))
    (g_Busy : PySem.W.nsIn K mainGlobals "Busy" = some (some (.ref e_Busy)))
    (x_Busy : PySem.W.excIn K e_Busy [.type "ValueError", .type "Exception", .type "BaseException", .type "object"] "ValueError.__new__" = true)
    (k_Busy : PySem.W.keepIn K (.ref e_Busy) = true)
    (s_Busy : PySem.W.subIn K (.ref e_Busy) (.type "BaseException") = some true)
    (t_Busy : PySem.W.typeIn K (.ref e_Busy) = some (.type "type"))
    (hx_Busy : PySem.W.hasDictIn K e_Busy = true)
    (su_Busy : PySem.W.subIn K (.ref e_Busy) (.ref e_Busy) = some true)
    (Xhg_Busy : PySem.W.findIn K (.ref e_Busy) "__getattribute__" = some (some (.builtin "BaseException.__getattribute__")))
    (Xhk_Busy : PySem.W.findIn K (.ref e_Busy) "__getattr__" = some none)
    (Xhs_Busy : PySem.W.subIn K (.ref e_Busy) (.type "BaseException") = some true)
    (Xhd_Busy : PySem.W.hasDictIn K e_Busy = true)
    (Xha_Busy : PySem.W.findIn K (.ref e_Busy) "__class__" = some (some (.builtin "object.__class__")))
    (Xhn_Busy : PySem.W.specialIn K (.builtin "object.__class__") "__get__" = some (some (.builtin "getset_descriptor.__get__")))
    (Xht_Busy : PySem.W.takesIn K (.builtin "object.__class__") = some true)
    (Xhm_Busy : PySem.W.mroIn K e_Busy (.type "object") = some true)
    (y_Busy_MajordomoError : PySem.W.kitOne K (.ref e_Busy) (.ref e_MajordomoError) = some true)
    (gc_Rota : PySem.W.nsIn K mainGlobals "Rota" = some (some (.ref C_Rota)))
    (m_Rota___init__ : PySem.W.findIn K (.ref C_Rota) "__init__" = some (some (.ref f_Rota___init__)))
    (i_Rota___init__ : PySem.W.isFn K (.ref f_Rota___init__) = true)
    (l_Rota___init__ : K.lookup f_Rota___init__ = some ⟨oc_Rota___init__, od_Rota___init__, .func (PySem.W.fnOf "__init__" "Rota.__init__" (defArgs s_Rota___init__) (defBody s_Rota___init__) (defScope s_Rota___init__) .none kV_Rota___init__ dc_Rota___init__ pm_Rota___init__ an_Rota___init__ cd_Rota___init__ ct_Rota___init__), sl_Rota___init__⟩)
    (c_Rota___init__ : PySem.W.codeIn K cd_Rota___init__ "Rota.__init__" = true)
    (k_Rota___init__ : PySem.W.keepIn K (.ref f_Rota___init__) = true)
    (m_Rota_take_turn : PySem.W.findIn K (.ref C_Rota) "take_turn" = some (some (.ref f_Rota_take_turn)))
    (i_Rota_take_turn : PySem.W.isFn K (.ref f_Rota_take_turn) = true)
    (l_Rota_take_turn : K.lookup f_Rota_take_turn = some ⟨oc_Rota_take_turn, od_Rota_take_turn, .func (PySem.W.fnOf "take_turn" "Rota.take_turn" (defArgs s_Rota_take_turn) (defBody s_Rota_take_turn) (defScope s_Rota_take_turn) .none kV_Rota_take_turn dc_Rota_take_turn pm_Rota_take_turn an_Rota_take_turn cd_Rota_take_turn ct_Rota_take_turn), sl_Rota_take_turn⟩)
    (c_Rota_take_turn : PySem.W.codeIn K cd_Rota_take_turn "Rota.take_turn" = true)
    (k_Rota_take_turn : PySem.W.keepIn K (.ref f_Rota_take_turn) = true)
    (gc_Caller : PySem.W.nsIn K mainGlobals "Caller" = some (some (.ref C_Caller)))
    (m_Caller___init__ : PySem.W.findIn K (.ref C_Caller) "__init__" = some (some (.ref f_Caller___init__)))
    (i_Caller___init__ : PySem.W.isFn K (.ref f_Caller___init__) = true)
    (l_Caller___init__ : K.lookup f_Caller___init__ = some ⟨oc_Caller___init__, od_Caller___init__, .func (PySem.W.fnOf "__init__" "Caller.__init__" (defArgs s_Caller___init__) (defBody s_Caller___init__) (defScope s_Caller___init__) .none (.ref kD_Caller___init__) dc_Caller___init__ pm_Caller___init__ an_Caller___init__ cd_Caller___init__ ct_Caller___init__), sl_Caller___init__⟩)
    (c_Caller___init__ : PySem.W.codeIn K cd_Caller___init__ "Caller.__init__" = true)
    (k_Caller___init__ : PySem.W.keepIn K (.ref f_Caller___init__) = true)
    (kq_Caller___init___patience : PySem.W.nsIn K kD_Caller___init__ "patience" = some (some (.int 4 kt_Caller___init___patience)))
    (pa_Caller_busy : PySem.W.findIn K (.ref C_Caller) "busy" = some (some (.ref pp_Caller_busy)))
    (pb_Caller_busy : PySem.W.specialIn K (.ref pp_Caller_busy) "__get__" = some (some (.builtin "property.__get__")))
    (pc_Caller_busy : PySem.W.takesIn K (.ref pp_Caller_busy) = some true)
    (pd_Caller_busy : PySem.W.recIn K pp_Caller_busy "property" = some (.ref f_Caller_busy :: prr_Caller_busy))
    (l_Caller_busy : K.lookup f_Caller_busy = some ⟨oc_Caller_busy, od_Caller_busy, .func (PySem.W.fnOf "busy" "Caller.busy" (defArgs s_Caller_busy) (defBody s_Caller_busy) (defScope s_Caller_busy) .none kV_Caller_busy dc_Caller_busy pm_Caller_busy an_Caller_busy cd_Caller_busy ct_Caller_busy), sl_Caller_busy⟩)
    (c_Caller_busy : PySem.W.codeIn K cd_Caller_busy "Caller.busy" = true)
    (k_Caller_busy : PySem.W.keepIn K (.ref f_Caller_busy) = true)
    (m_Caller_ask : PySem.W.findIn K (.ref C_Caller) "ask" = some (some (.ref f_Caller_ask)))
    (i_Caller_ask : PySem.W.isFn K (.ref f_Caller_ask) = true)
    (l_Caller_ask : K.lookup f_Caller_ask = some ⟨oc_Caller_ask, od_Caller_ask, .func (PySem.W.fnOf "ask" "Caller.ask" (defArgs s_Caller_ask) (defBody s_Caller_ask) (defScope s_Caller_ask) .none kV_Caller_ask dc_Caller_ask pm_Caller_ask an_Caller_ask cd_Caller_ask ct_Caller_ask), sl_Caller_ask⟩)
    (c_Caller_ask : PySem.W.codeIn K cd_Caller_ask "Caller.ask" = true)
    (k_Caller_ask : PySem.W.keepIn K (.ref f_Caller_ask) = true)
    (m_Caller_tick : PySem.W.findIn K (.ref C_Caller) "tick" = some (some (.ref f_Caller_tick)))
    (i_Caller_tick : PySem.W.isFn K (.ref f_Caller_tick) = true)
    (l_Caller_tick : K.lookup f_Caller_tick = some ⟨oc_Caller_tick, od_Caller_tick, .func (PySem.W.fnOf "tick" "Caller.tick" (defArgs s_Caller_tick) (defBody s_Caller_tick) (defScope s_Caller_tick) .none kV_Caller_tick dc_Caller_tick pm_Caller_tick an_Caller_tick cd_Caller_tick ct_Caller_tick), sl_Caller_tick⟩)
    (c_Caller_tick : PySem.W.codeIn K cd_Caller_tick "Caller.tick" = true)
    (k_Caller_tick : PySem.W.keepIn K (.ref f_Caller_tick) = true)
    (m_Caller_hear : PySem.W.findIn K (.ref C_Caller) "hear" = some (some (.ref f_Caller_hear)))
    (i_Caller_hear : PySem.W.isFn K (.ref f_Caller_hear) = true)
    (l_Caller_hear : K.lookup f_Caller_hear = some ⟨oc_Caller_hear, od_Caller_hear, .func (PySem.W.fnOf "hear" "Caller.hear" (defArgs s_Caller_hear) (defBody s_Caller_hear) (defScope s_Caller_hear) .none kV_Caller_hear dc_Caller_hear pm_Caller_hear an_Caller_hear cd_Caller_hear ct_Caller_hear), sl_Caller_hear⟩)
    (c_Caller_hear : PySem.W.codeIn K cd_Caller_hear "Caller.hear" = true)
    (k_Caller_hear : PySem.W.keepIn K (.ref f_Caller_hear) = true)
    (m_Caller__send : PySem.W.findIn K (.ref C_Caller) "_send" = some (some (.ref f_Caller__send)))
    (i_Caller__send : PySem.W.isFn K (.ref f_Caller__send) = true)
    (l_Caller__send : K.lookup f_Caller__send = some ⟨oc_Caller__send, od_Caller__send, .func (PySem.W.fnOf "_send" "Caller._send" (defArgs s_Caller__send) (defBody s_Caller__send) (defScope s_Caller__send) .none kV_Caller__send dc_Caller__send pm_Caller__send an_Caller__send cd_Caller__send ct_Caller__send), sl_Caller__send⟩)
    (c_Caller__send : PySem.W.codeIn K cd_Caller__send "Caller._send" = true)
    (k_Caller__send : PySem.W.keepIn K (.ref f_Caller__send) = true)
    (g__law_mix : PySem.W.nsIn K mainGlobals "_law_mix" = some (some (.ref f__law_mix)))
    (l__law_mix : K.lookup f__law_mix = some ⟨oc__law_mix, od__law_mix, .func (PySem.W.fnOf "_law_mix" "_law_mix" (defArgs s__law_mix) (defBody s__law_mix) (defScope s__law_mix) .none kV__law_mix dc__law_mix pm__law_mix an__law_mix cd__law_mix ct__law_mix), sl__law_mix⟩)
    (c__law_mix : PySem.W.codeIn K cd__law_mix "_law_mix" = true)
    (k__law_mix : PySem.W.keepIn K (.ref f__law_mix) = true)
    (g__law_row : PySem.W.nsIn K mainGlobals "_law_row" = some (some (.ref f__law_row)))
    (l__law_row : K.lookup f__law_row = some ⟨oc__law_row, od__law_row, .func (PySem.W.fnOf "_law_row" "_law_row" (defArgs s__law_row) (defBody s__law_row) (defScope s__law_row) .none kV__law_row dc__law_row pm__law_row an__law_row cd__law_row ct__law_row), sl__law_row⟩)
    (c__law_row : PySem.W.codeIn K cd__law_row "_law_row" = true)
    (k__law_row : PySem.W.keepIn K (.ref f__law_row) = true)
    (g__law_transaction : PySem.W.nsIn K mainGlobals "_law_transaction" = some (some (.ref f__law_transaction)))
    (l__law_transaction : K.lookup f__law_transaction = some ⟨oc__law_transaction, od__law_transaction, .func (PySem.W.fnOf "_law_transaction" "_law_transaction" (defArgs s__law_transaction) (defBody s__law_transaction) (defScope s__law_transaction) .none kV__law_transaction dc__law_transaction pm__law_transaction an__law_transaction cd__law_transaction ct__law_transaction), sl__law_transaction⟩)
    (c__law_transaction : PySem.W.codeIn K cd__law_transaction "_law_transaction" = true)
    (k__law_transaction : PySem.W.keepIn K (.ref f__law_transaction) = true)
    (g__law_fronts : PySem.W.nsIn K mainGlobals "_law_fronts" = some (some (.ref f__law_fronts)))
    (l__law_fronts : K.lookup f__law_fronts = some ⟨oc__law_fronts, od__law_fronts, .func (PySem.W.fnOf "_law_fronts" "_law_fronts" (defArgs s__law_fronts) (defBody s__law_fronts) (defScope s__law_fronts) .none kV__law_fronts dc__law_fronts pm__law_fronts an__law_fronts cd__law_fronts ct__law_fronts), sl__law_fronts⟩)
    (c__law_fronts : PySem.W.codeIn K cd__law_fronts "_law_fronts" = true)
    (k__law_fronts : PySem.W.keepIn K (.ref f__law_fronts) = true)
    (g__law_sent : PySem.W.nsIn K mainGlobals "_law_sent" = some (some (.ref f__law_sent)))
    (l__law_sent : K.lookup f__law_sent = some ⟨oc__law_sent, od__law_sent, .func (PySem.W.fnOf "_law_sent" "_law_sent" (defArgs s__law_sent) (defBody s__law_sent) (defScope s__law_sent) .none kV__law_sent dc__law_sent pm__law_sent an__law_sent cd__law_sent ct__law_sent), sl__law_sent⟩)
    (c__law_sent : PySem.W.codeIn K cd__law_sent "_law_sent" = true)
    (k__law_sent : PySem.W.keepIn K (.ref f__law_sent) = true)
    (g__law_tick : PySem.W.nsIn K mainGlobals "_law_tick" = some (some (.ref f__law_tick)))
    (l__law_tick : K.lookup f__law_tick = some ⟨oc__law_tick, od__law_tick, .func (PySem.W.fnOf "_law_tick" "_law_tick" (defArgs s__law_tick) (defBody s__law_tick) (defScope s__law_tick) .none kV__law_tick dc__law_tick pm__law_tick an__law_tick cd__law_tick ct__law_tick), sl__law_tick⟩)
    (c__law_tick : PySem.W.codeIn K cd__law_tick "_law_tick" = true)
    (k__law_tick : PySem.W.keepIn K (.ref f__law_tick) = true)
    (g__law_ask : PySem.W.nsIn K mainGlobals "_law_ask" = some (some (.ref f__law_ask)))
    (l__law_ask : K.lookup f__law_ask = some ⟨oc__law_ask, od__law_ask, .func (PySem.W.fnOf "_law_ask" "_law_ask" (defArgs s__law_ask) (defBody s__law_ask) (defScope s__law_ask) .none kV__law_ask dc__law_ask pm__law_ask an__law_ask cd__law_ask ct__law_ask), sl__law_ask⟩)
    (c__law_ask : PySem.W.codeIn K cd__law_ask "_law_ask" = true)
    (k__law_ask : PySem.W.keepIn K (.ref f__law_ask) = true)
    (g__law_letter : PySem.W.nsIn K mainGlobals "_law_letter" = some (some (.ref f__law_letter)))
    (l__law_letter : K.lookup f__law_letter = some ⟨oc__law_letter, od__law_letter, .func (PySem.W.fnOf "_law_letter" "_law_letter" (defArgs s__law_letter) (defBody s__law_letter) (defScope s__law_letter) .none kV__law_letter dc__law_letter pm__law_letter an__law_letter cd__law_letter ct__law_letter), sl__law_letter⟩)
    (c__law_letter : PySem.W.codeIn K cd__law_letter "_law_letter" = true)
    (k__law_letter : PySem.W.keepIn K (.ref f__law_letter) = true)
    (g__law_hear : PySem.W.nsIn K mainGlobals "_law_hear" = some (some (.ref f__law_hear)))
    (l__law_hear : K.lookup f__law_hear = some ⟨oc__law_hear, od__law_hear, .func (PySem.W.fnOf "_law_hear" "_law_hear" (defArgs s__law_hear) (defBody s__law_hear) (defScope s__law_hear) .none kV__law_hear dc__law_hear pm__law_hear an__law_hear cd__law_hear ct__law_hear), sl__law_hear⟩)
    (c__law_hear : PySem.W.codeIn K cd__law_hear "_law_hear" = true)
    (k__law_hear : PySem.W.keepIn K (.ref f__law_hear) = true)
    (g__law_deed : PySem.W.nsIn K mainGlobals "_law_deed" = some (some (.ref f__law_deed)))
    (l__law_deed : K.lookup f__law_deed = some ⟨oc__law_deed, od__law_deed, .func (PySem.W.fnOf "_law_deed" "_law_deed" (defArgs s__law_deed) (defBody s__law_deed) (defScope s__law_deed) .none kV__law_deed dc__law_deed pm__law_deed an__law_deed cd__law_deed ct__law_deed), sl__law_deed⟩)
    (c__law_deed : PySem.W.codeIn K cd__law_deed "_law_deed" = true)
    (k__law_deed : PySem.W.keepIn K (.ref f__law_deed) = true)
    (g__law_same : PySem.W.nsIn K mainGlobals "_law_same" = some (some (.ref f__law_same)))
    (l__law_same : K.lookup f__law_same = some ⟨oc__law_same, od__law_same, .func (PySem.W.fnOf "_law_same" "_law_same" (defArgs s__law_same) (defBody s__law_same) (defScope s__law_same) .none kV__law_same dc__law_same pm__law_same an__law_same cd__law_same ct__law_same), sl__law_same⟩)
    (c__law_same : PySem.W.codeIn K cd__law_same "_law_same" = true)
    (k__law_same : PySem.W.keepIn K (.ref f__law_same) = true)
    (g_law : PySem.W.nsIn K mainGlobals "law" = some (some (.ref f_law)))
    (l_law : K.lookup f_law = some ⟨oc_law, od_law, .func (PySem.W.fnOf "law" "law" (defArgs s_law) (defBody s_law) (defScope s_law) .none kV_law dc_law pm_law an_law cd_law ct_law), sl_law⟩)
    (c_law : PySem.W.codeIn K cd_law "law" = true)
    (k_law : PySem.W.keepIn K (.ref f_law) = true)
    (pg_Rota : PySem.W.plainGet K C_Rota Str.empty = true)
    (hd_Rota : PySem.W.hasDictIn K C_Rota = true)
    (po_Rota : PySem.W.plainOver K C_Rota = true)
    (sa_Rota : PySem.W.findIn K (.ref C_Rota) "__setattr__" = some (some (.builtin "object.__setattr__")))
    (mk_Rota : PySem.W.makesIn K C_Rota = true)
    (kc_Rota : PySem.W.keepIn K (.ref C_Rota) = true)
    (na_Rota__names : PySem.W.findIn K (.ref C_Rota) "_names" = some none)
    (na_Rota__turn : PySem.W.findIn K (.ref C_Rota) "_turn" = some none)
    (pg_Caller : PySem.W.plainGet K C_Caller Str.empty = true)
    (hd_Caller : PySem.W.hasDictIn K C_Caller = true)
    (po_Caller : PySem.W.plainOver K C_Caller = true)
    (sa_Caller : PySem.W.findIn K (.ref C_Caller) "__setattr__" = some (some (.builtin "object.__setattr__")))
    (mk_Caller : PySem.W.makesIn K C_Caller = true)
    (kc_Caller : PySem.W.keepIn K (.ref C_Caller) = true)
    (na_Caller_origin : PySem.W.findIn K (.ref C_Caller) "origin" = some none)
    (na_Caller_number : PySem.W.findIn K (.ref C_Caller) "number" = some none)
    (na_Caller_age : PySem.W.findIn K (.ref C_Caller) "age" = some none)
    (na_Caller__rota : PySem.W.findIn K (.ref C_Caller) "_rota" = some none)
    (na_Caller_front : PySem.W.findIn K (.ref C_Caller) "front" = some none)
    (na_Caller__patience : PySem.W.findIn K (.ref C_Caller) "_patience" = some none)
    (na_Caller__waited : PySem.W.findIn K (.ref C_Caller) "_waited" = some none)
    (na_Caller__command : PySem.W.findIn K (.ref C_Caller) "_command" = some none)
    (n_tuple : PySem.W.nsIn K mainGlobals "tuple" = some none)
    (n_len : PySem.W.nsIn K mainGlobals "len" = some none)
    (n_int : PySem.W.nsIn K mainGlobals "int" = some none)
    (n_str : PySem.W.nsIn K mainGlobals "str" = some none)
    (n_isinstance : PySem.W.nsIn K mainGlobals "isinstance" = some none)
    (n_list : PySem.W.nsIn K mainGlobals "list" = some none)
    (n_bool : PySem.W.nsIn K mainGlobals "bool" = some none)
    (n_range : PySem.W.nsIn K mainGlobals "range" = some none)
    (n_min : PySem.W.nsIn K mainGlobals "min" = some none) :
    ∃ fd : FuncData, (∀ (s : Shared) (v : Value), BindsTo s fd ⟨[v], []⟩ [("script", v)]) ∧ ∀ base : Heap, K.In base → base.Ns mainGlobals mg → FnOk l.prog w K mg base CX0 6 fa fd ["script"] (sp_law K) := by
  have e : fa = f_law := by
    have z := hfa.symm.trans (PySem.W.mg_of X G g_law)
    injection z with z
    injection z
  rw [e]
  let T : TX K mg := ⟨e_MajordomoError, (PySem.W.mg_of X G g_MajordomoError), x_MajordomoError, k_MajordomoError, s_MajordomoError, t_MajordomoError, e_CallerError, (PySem.W.mg_of X G g_CallerError), x_CallerError, k_CallerError, s_CallerError, t_CallerError, e_Busy, (PySem.W.mg_of X G g_Busy), x_Busy, k_Busy, s_Busy, t_Busy, (PySem.W.exm_ref s_Busy hx_Busy t_Busy su_Busy), C_Rota, C_Caller, ⟨Xhg_Busy, Xhk_Busy, Xhs_Busy, Xhd_Busy, Xha_Busy, Xhn_Busy, Xht_Busy, Xhm_Busy⟩, y_Busy_MajordomoError, f_Rota___init__, (PySem.W.fnOf "__init__" "Rota.__init__" (defArgs s_Rota___init__) (defBody s_Rota___init__) (defScope s_Rota___init__) .none kV_Rota___init__ dc_Rota___init__ pm_Rota___init__ an_Rota___init__ cd_Rota___init__ ct_Rota___init__), (fun_mk (st := s_Rota___init__) l_Rota___init__ c_Rota___init__ k_Rota___init__), ((fun_mk (st := s_Rota___init__) l_Rota___init__ c_Rota___init__ k_Rota___init__).binds (ps := ["self", "names"]) fun _ _ _ _ _ _ us hl => match us, hl with | [_, _], _ => rfl), f_Rota_take_turn, (PySem.W.fnOf "take_turn" "Rota.take_turn" (defArgs s_Rota_take_turn) (defBody s_Rota_take_turn) (defScope s_Rota_take_turn) .none kV_Rota_take_turn dc_Rota_take_turn pm_Rota_take_turn an_Rota_take_turn cd_Rota_take_turn ct_Rota_take_turn), (fun_mk (st := s_Rota_take_turn) l_Rota_take_turn c_Rota_take_turn k_Rota_take_turn), ((fun_mk (st := s_Rota_take_turn) l_Rota_take_turn c_Rota_take_turn k_Rota_take_turn).binds (ps := ["self"]) fun _ _ _ _ _ _ us hl => match us, hl with | [_], _ => rfl), ⟨m_Rota_take_turn, i_Rota_take_turn, k_Rota_take_turn⟩, f_Caller___init__, (PySem.W.fnOf "__init__" "Caller.__init__" (defArgs s_Caller___init__) (defBody s_Caller___init__) (defScope s_Caller___init__) .none (.ref kD_Caller___init__) dc_Caller___init__ pm_Caller___init__ an_Caller___init__ cd_Caller___init__ ct_Caller___init__), (show FunD K "__init__" "Caller.__init__" (defArgs s_Caller___init__) (defBody s_Caller___init__) (defScope s_Caller___init__) [] [("patience", .int 4)] f_Caller___init__ (PySem.W.fnOf "__init__" "Caller.__init__" (defArgs s_Caller___init__) (defBody s_Caller___init__) (defScope s_Caller___init__) .none (.ref kD_Caller___init__) dc_Caller___init__ pm_Caller___init__ an_Caller___init__ cd_Caller___init__ ct_Caller___init__) from ⟨⟨oc_Caller___init__, od_Caller___init__, .none, .ref kD_Caller___init__, dc_Caller___init__, pm_Caller___init__, an_Caller___init__, cd_Caller___init__, ct_Caller___init__, sl_Caller___init__, rfl, l_Caller___init__, c_Caller___init__, Or.inl ⟨rfl, rfl⟩, Or.inr ⟨kD_Caller___init__, rfl, (fun q hq => by simp only [List.mem_cons, List.not_mem_nil, or_false] at hq; rcases hq with rfl <;> exact ⟨_, by assumption, ⟨_, rfl⟩⟩)⟩⟩, k_Caller___init__⟩), ((show FunD K "__init__" "Caller.__init__" (defArgs s_Caller___init__) (defBody s_Caller___init__) (defScope s_Caller___init__) [] [("patience", .int 4)] f_Caller___init__ (PySem.W.fnOf "__init__" "Caller.__init__" (defArgs s_Caller___init__) (defBody s_Caller___init__) (defScope s_Caller___init__) .none (.ref kD_Caller___init__) dc_Caller___init__ pm_Caller___init__ an_Caller___init__ cd_Caller___init__ ct_Caller___init__) from ⟨⟨oc_Caller___init__, od_Caller___init__, .none, .ref kD_Caller___init__, dc_Caller___init__, pm_Caller___init__, an_Caller___init__, cd_Caller___init__, ct_Caller___init__, sl_Caller___init__, rfl, l_Caller___init__, c_Caller___init__, Or.inl ⟨rfl, rfl⟩, Or.inr ⟨kD_Caller___init__, rfl, (fun q hq => by simp only [List.mem_cons, List.not_mem_nil, or_false] at hq; rcases hq with rfl <;> exact ⟨_, by assumption, ⟨_, rfl⟩⟩)⟩⟩, k_Caller___init__⟩).binds0 3 (by simp) rfl (fun D doc pm an cdv ct us ks h1 h2 => match us, ks, h1, h2 with | [_, _, _], [_], _, _ => ⟨_, _, _, _, _, _, rfl, rfl, rfl⟩)), ((show FunD K "__init__" "Caller.__init__" (defArgs s_Caller___init__) (defBody s_Caller___init__) (defScope s_Caller___init__) [] [("patience", .int 4)] f_Caller___init__ (PySem.W.fnOf "__init__" "Caller.__init__" (defArgs s_Caller___init__) (defBody s_Caller___init__) (defScope s_Caller___init__) .none (.ref kD_Caller___init__) dc_Caller___init__ pm_Caller___init__ an_Caller___init__ cd_Caller___init__ ct_Caller___init__) from ⟨⟨oc_Caller___init__, od_Caller___init__, .none, .ref kD_Caller___init__, dc_Caller___init__, pm_Caller___init__, an_Caller___init__, cd_Caller___init__, ct_Caller___init__, sl_Caller___init__, rfl, l_Caller___init__, c_Caller___init__, Or.inl ⟨rfl, rfl⟩, Or.inr ⟨kD_Caller___init__, rfl, (fun q hq => by simp only [List.mem_cons, List.not_mem_nil, or_false] at hq; rcases hq with rfl <;> exact ⟨_, by assumption, ⟨_, rfl⟩⟩)⟩⟩, k_Caller___init__⟩).kbinds0 3 ["patience"] [] (fun us mv ws => us ++ (mv ++ ws)) (by simp) (fun q hq => by cases hq) (fun r1 r2 r3 => r1.append (r2.append r3)) (fun D doc pm an cdv ct us mv ws h1 h2 h3 => match us, mv, ws, h1, h2, h3 with | [_, _, _], [], [_], _, _, _ => rfl)), f_Caller_busy, (PySem.W.fnOf "busy" "Caller.busy" (defArgs s_Caller_busy) (defBody s_Caller_busy) (defScope s_Caller_busy) .none kV_Caller_busy dc_Caller_busy pm_Caller_busy an_Caller_busy cd_Caller_busy ct_Caller_busy), pp_Caller_busy, ⟨pa_Caller_busy, pb_Caller_busy, pc_Caller_busy, ⟨_, pd_Caller_busy⟩⟩, (fun_mk (st := s_Caller_busy) l_Caller_busy c_Caller_busy k_Caller_busy), ((fun_mk (st := s_Caller_busy) l_Caller_busy c_Caller_busy k_Caller_busy).binds (ps := ["self"]) fun _ _ _ _ _ _ us hl => match us, hl with | [_], _ => rfl), f_Caller_ask, (PySem.W.fnOf "ask" "Caller.ask" (defArgs s_Caller_ask) (defBody s_Caller_ask) (defScope s_Caller_ask) .none kV_Caller_ask dc_Caller_ask pm_Caller_ask an_Caller_ask cd_Caller_ask ct_Caller_ask), (fun_mk (st := s_Caller_ask) l_Caller_ask c_Caller_ask k_Caller_ask), ((fun_mk (st := s_Caller_ask) l_Caller_ask c_Caller_ask k_Caller_ask).binds (ps := ["self", "transaction"]) fun _ _ _ _ _ _ us hl => match us, hl with | [_, _], _ => rfl), ⟨m_Caller_ask, i_Caller_ask, k_Caller_ask⟩, f_Caller_tick, (PySem.W.fnOf "tick" "Caller.tick" (defArgs s_Caller_tick) (defBody s_Caller_tick) (defScope s_Caller_tick) .none kV_Caller_tick dc_Caller_tick pm_Caller_tick an_Caller_tick cd_Caller_tick ct_Caller_tick), (fun_mk (st := s_Caller_tick) l_Caller_tick c_Caller_tick k_Caller_tick), ((fun_mk (st := s_Caller_tick) l_Caller_tick c_Caller_tick k_Caller_tick).binds (ps := ["self"]) fun _ _ _ _ _ _ us hl => match us, hl with | [_], _ => rfl), ⟨m_Caller_tick, i_Caller_tick, k_Caller_tick⟩, f_Caller_hear, (PySem.W.fnOf "hear" "Caller.hear" (defArgs s_Caller_hear) (defBody s_Caller_hear) (defScope s_Caller_hear) .none kV_Caller_hear dc_Caller_hear pm_Caller_hear an_Caller_hear cd_Caller_hear ct_Caller_hear), (fun_mk (st := s_Caller_hear) l_Caller_hear c_Caller_hear k_Caller_hear), ((fun_mk (st := s_Caller_hear) l_Caller_hear c_Caller_hear k_Caller_hear).binds (ps := ["self", "letter"]) fun _ _ _ _ _ _ us hl => match us, hl with | [_, _], _ => rfl), ⟨m_Caller_hear, i_Caller_hear, k_Caller_hear⟩, f_Caller__send, (PySem.W.fnOf "_send" "Caller._send" (defArgs s_Caller__send) (defBody s_Caller__send) (defScope s_Caller__send) .none kV_Caller__send dc_Caller__send pm_Caller__send an_Caller__send cd_Caller__send ct_Caller__send), (fun_mk (st := s_Caller__send) l_Caller__send c_Caller__send k_Caller__send), ((fun_mk (st := s_Caller__send) l_Caller__send c_Caller__send k_Caller__send).binds (ps := ["self"]) fun _ _ _ _ _ _ us hl => match us, hl with | [_], _ => rfl), ⟨m_Caller__send, i_Caller__send, k_Caller__send⟩, f__law_mix, (PySem.W.fnOf "_law_mix" "_law_mix" (defArgs s__law_mix) (defBody s__law_mix) (defScope s__law_mix) .none kV__law_mix dc__law_mix pm__law_mix an__law_mix cd__law_mix ct__law_mix), (fun_mk (st := s__law_mix) l__law_mix c__law_mix k__law_mix), ((fun_mk (st := s__law_mix) l__law_mix c__law_mix k__law_mix).binds (ps := ["cell", "k"]) fun _ _ _ _ _ _ us hl => match us, hl with | [_, _], _ => rfl), (PySem.W.mg_of X G g__law_mix), f__law_row, (PySem.W.fnOf "_law_row" "_law_row" (defArgs s__law_row) (defBody s__law_row) (defScope s__law_row) .none kV__law_row dc__law_row pm__law_row an__law_row cd__law_row ct__law_row), (fun_mk (st := s__law_row) l__law_row c__law_row k__law_row), ((fun_mk (st := s__law_row) l__law_row c__law_row k__law_row).binds (ps := ["script", "most"]) fun _ _ _ _ _ _ us hl => match us, hl with | [_, _], _ => rfl), (PySem.W.mg_of X G g__law_row), f__law_transaction, (PySem.W.fnOf "_law_transaction" "_law_transaction" (defArgs s__law_transaction) (defBody s__law_transaction) (defScope s__law_transaction) .none kV__law_transaction dc__law_transaction pm__law_transaction an__law_transaction cd__law_transaction ct__law_transaction), (fun_mk (st := s__law_transaction) l__law_transaction c__law_transaction k__law_transaction), ((fun_mk (st := s__law_transaction) l__law_transaction c__law_transaction k__law_transaction).binds (ps := ["number"]) fun _ _ _ _ _ _ us hl => match us, hl with | [_], _ => rfl), (PySem.W.mg_of X G g__law_transaction), f__law_fronts, (PySem.W.fnOf "_law_fronts" "_law_fronts" (defArgs s__law_fronts) (defBody s__law_fronts) (defScope s__law_fronts) .none kV__law_fronts dc__law_fronts pm__law_fronts an__law_fronts cd__law_fronts ct__law_fronts), (fun_mk (st := s__law_fronts) l__law_fronts c__law_fronts k__law_fronts), ((fun_mk (st := s__law_fronts) l__law_fronts c__law_fronts k__law_fronts).binds (ps := ["number"]) fun _ _ _ _ _ _ us hl => match us, hl with | [_], _ => rfl), (PySem.W.mg_of X G g__law_fronts), f__law_sent, (PySem.W.fnOf "_law_sent" "_law_sent" (defArgs s__law_sent) (defBody s__law_sent) (defScope s__law_sent) .none kV__law_sent dc__law_sent pm__law_sent an__law_sent cd__law_sent ct__law_sent), (fun_mk (st := s__law_sent) l__law_sent c__law_sent k__law_sent), ((fun_mk (st := s__law_sent) l__law_sent c__law_sent k__law_sent).binds (ps := ["state", "fronts", "origin"]) fun _ _ _ _ _ _ us hl => match us, hl with | [_, _, _], _ => rfl), (PySem.W.mg_of X G g__law_sent), f__law_tick, (PySem.W.fnOf "_law_tick" "_law_tick" (defArgs s__law_tick) (defBody s__law_tick) (defScope s__law_tick) .none kV__law_tick dc__law_tick pm__law_tick an__law_tick cd__law_tick ct__law_tick), (fun_mk (st := s__law_tick) l__law_tick c__law_tick k__law_tick), ((fun_mk (st := s__law_tick) l__law_tick c__law_tick k__law_tick).binds (ps := ["state", "fronts", "origin", "patience"]) fun _ _ _ _ _ _ us hl => match us, hl with | [_, _, _, _], _ => rfl), (PySem.W.mg_of X G g__law_tick), f__law_ask, (PySem.W.fnOf "_law_ask" "_law_ask" (defArgs s__law_ask) (defBody s__law_ask) (defScope s__law_ask) .none kV__law_ask dc__law_ask pm__law_ask an__law_ask cd__law_ask ct__law_ask), (fun_mk (st := s__law_ask) l__law_ask c__law_ask k__law_ask), ((fun_mk (st := s__law_ask) l__law_ask c__law_ask k__law_ask).binds (ps := ["caller", "state", "fronts", "origin", "number"]) fun _ _ _ _ _ _ us hl => match us, hl with | [_, _, _, _, _], _ => rfl), (PySem.W.mg_of X G g__law_ask), f__law_letter, (PySem.W.fnOf "_law_letter" "_law_letter" (defArgs s__law_letter) (defBody s__law_letter) (defScope s__law_letter) .none kV__law_letter dc__law_letter pm__law_letter an__law_letter cd__law_letter ct__law_letter), (fun_mk (st := s__law_letter) l__law_letter c__law_letter k__law_letter), ((fun_mk (st := s__law_letter) l__law_letter c__law_letter k__law_letter).binds (ps := ["state", "origin", "number"]) fun _ _ _ _ _ _ us hl => match us, hl with | [_, _, _], _ => rfl), (PySem.W.mg_of X G g__law_letter), f__law_hear, (PySem.W.fnOf "_law_hear" "_law_hear" (defArgs s__law_hear) (defBody s__law_hear) (defScope s__law_hear) .none kV__law_hear dc__law_hear pm__law_hear an__law_hear cd__law_hear ct__law_hear), (fun_mk (st := s__law_hear) l__law_hear c__law_hear k__law_hear), ((fun_mk (st := s__law_hear) l__law_hear c__law_hear k__law_hear).binds (ps := ["caller", "state", "letter", "origin"]) fun _ _ _ _ _ _ us hl => match us, hl with | [_, _, _, _], _ => rfl), (PySem.W.mg_of X G g__law_hear), f__law_deed, (PySem.W.fnOf "_law_deed" "_law_deed" (defArgs s__law_deed) (defBody s__law_deed) (defScope s__law_deed) .none kV__law_deed dc__law_deed pm__law_deed an__law_deed cd__law_deed ct__law_deed), (fun_mk (st := s__law_deed) l__law_deed c__law_deed k__law_deed), ((fun_mk (st := s__law_deed) l__law_deed c__law_deed k__law_deed).binds (ps := ["caller", "state", "fronts", "origin", "patience", "number"]) fun _ _ _ _ _ _ us hl => match us, hl with | [_, _, _, _, _, _], _ => rfl), (PySem.W.mg_of X G g__law_deed), f__law_same, (PySem.W.fnOf "_law_same" "_law_same" (defArgs s__law_same) (defBody s__law_same) (defScope s__law_same) .none kV__law_same dc__law_same pm__law_same an__law_same cd__law_same ct__law_same), (fun_mk (st := s__law_same) l__law_same c__law_same k__law_same), ((fun_mk (st := s__law_same) l__law_same c__law_same k__law_same).binds (ps := ["caller", "state", "fronts", "origin"]) fun _ _ _ _ _ _ us hl => match us, hl with | [_, _, _, _], _ => rfl), (PySem.W.mg_of X G g__law_same), f_law, (PySem.W.fnOf "law" "law" (defArgs s_law) (defBody s_law) (defScope s_law) .none kV_law dc_law pm_law an_law cd_law ct_law), (fun_mk (st := s_law) l_law c_law k_law), ((fun_mk (st := s_law) l_law c_law k_law).binds (ps := ["script"]) fun _ _ _ _ _ _ us hl => match us, hl with | [_], _ => rfl), (PySem.W.mg_of X G g_law), ⟨pg_Rota, hd_Rota, po_Rota, sa_Rota⟩, (PySem.W.mg_of X G gc_Rota), ⟨mk_Rota, m_Rota___init__, i_Rota___init__, kc_Rota⟩, na_Rota__names, na_Rota__turn, ⟨pg_Caller, hd_Caller, po_Caller, sa_Caller⟩, (PySem.W.mg_of X G gc_Caller), ⟨mk_Caller, m_Caller___init__, i_Caller___init__, kc_Caller⟩, na_Caller_origin, na_Caller_number, na_Caller_age, na_Caller__rota, na_Caller_front, na_Caller__patience, na_Caller__waited, na_Caller__command, (PySem.W.mg_none_of X G n_tuple), (PySem.W.mg_none_of X G n_len), (PySem.W.mg_none_of X G n_int), (PySem.W.mg_none_of X G n_str), (PySem.W.mg_none_of X G n_isinstance), (PySem.W.mg_none_of X G n_list), (PySem.W.mg_none_of X G n_bool), (PySem.W.mg_none_of X G n_range), (PySem.W.mg_none_of X G n_min)⟩
  exact ⟨T.d_law, fun s v => .of_eq rfl, fun base _ _ => ok_law T⟩
end My
open PySem PySem.W PyProof.Rows
set_option maxHeartbeats 0 in
theorem PySem.Challenge.cw_majordomo_k46_caller_one_at_a_time_holds : PySem.Challenge.rw_majordomo_k46_caller_one_at_a_time.Holds := by
  w_on; o_law; k_head; (case hw => w_witness2)
  k_fill
  refine L2.walk_of (l := PySem.Challenge.rw_majordomo_k46_caller_one_at_a_time) (n := 63) (k := 6) (x := "script") (CX := (fun _ => L2.CX0)) (sp := fun w => My.sp_law _) rfl (by decide) rfl ⟨rfl, by decide, by decide⟩ (fun w h Y => PySem.W.kIn_of Y) ?F (fun _ _ a ns hl _ hS => ⟨a, ns, rfl, hS, hl, fun _ => rfl⟩) (fun _ _ _ _ _ h => h)
  case F =>
    intro w mg fa h KX G hmg
    refine' My.all_mk KX G hmg ?g_MajordomoError ?x_MajordomoError ?k_MajordomoError ?s_MajordomoError ?t_MajordomoError ?g_CallerError ?x_CallerError ?k_CallerError ?s_CallerError ?t_CallerError ?g_Busy ?x_Busy ?k_Busy ?s_Busy ?t_Busy ?hx_Busy ?su_Busy ?Xhg_Busy ?Xhk_Busy ?Xhs_Busy ?Xhd_Busy ?Xha_Busy ?Xhn_Busy ?Xht_Busy ?Xhm_Busy ?y_Busy_MajordomoError ?gc_Rota ?m_Rota___init__ ?i_Rota___init__ ?l_Rota___init__ ?c_Rota___init__ ?k_Rota___init__ ?m_Rota_take_turn ?i_Rota_take_turn ?l_Rota_take_turn ?c_Rota_take_turn ?k_Rota_take_turn ?gc_Caller ?m_Caller___init__ ?i_Caller___init__ ?l_Caller___init__ ?c_Caller___init__ ?k_Caller___init__ ?kq_Caller___init___patience ?pa_Caller_busy ?pb_Caller_busy ?pc_Caller_busy ?pd_Caller_busy ?l_Caller_busy ?c_Caller_busy ?k_Caller_busy ?m_Caller_ask ?i_Caller_ask ?l_Caller_ask ?c_Caller_ask ?k_Caller_ask ?m_Caller_tick ?i_Caller_tick ?l_Caller_tick ?c_Caller_tick ?k_Caller_tick ?m_Caller_hear ?i_Caller_hear ?l_Caller_hear ?c_Caller_hear ?k_Caller_hear ?m_Caller__send ?i_Caller__send ?l_Caller__send ?c_Caller__send ?k_Caller__send ?g__law_mix ?l__law_mix ?c__law_mix ?k__law_mix ?g__law_row ?l__law_row ?c__law_row ?k__law_row ?g__law_transaction ?l__law_transaction ?c__law_transaction ?k__law_transaction ?g__law_fronts ?l__law_fronts ?c__law_fronts ?k__law_fronts ?g__law_sent ?l__law_sent ?c__law_sent ?k__law_sent ?g__law_tick ?l__law_tick ?c__law_tick ?k__law_tick ?g__law_ask ?l__law_ask ?c__law_ask ?k__law_ask ?g__law_letter ?l__law_letter ?c__law_letter ?k__law_letter ?g__law_hear ?l__law_hear ?c__law_hear ?k__law_hear ?g__law_deed ?l__law_deed ?c__law_deed ?k__law_deed ?g__law_same ?l__law_same ?c__law_same ?k__law_same ?g_law ?l_law ?c_law ?k_law ?pg_Rota ?hd_Rota ?po_Rota ?sa_Rota ?mk_Rota ?kc_Rota ?na_Rota__names ?na_Rota__turn ?pg_Caller ?hd_Caller ?po_Caller ?sa_Caller ?mk_Caller ?kc_Caller ?na_Caller_origin ?na_Caller_number ?na_Caller_age ?na_Caller__rota ?na_Caller_front ?na_Caller__patience ?na_Caller__waited ?na_Caller__command ?n_tuple ?n_len ?n_int ?n_str ?n_isinstance ?n_list ?n_bool ?n_range ?n_min
    (case g_MajordomoError => k_is); (case x_MajordomoError => k_exc); (case k_MajordomoError => k_is); (case s_MajordomoError => k_is); (case t_MajordomoError => k_is); (case g_CallerError => k_is); (case x_CallerError => k_exc); (case k_CallerError => k_is); (case s_CallerError => k_is); (case t_CallerError => k_is); (case g_Busy => k_is); (case x_Busy => k_exc); (case k_Busy => k_is); (case s_Busy => k_is); (case t_Busy => k_is); (case hx_Busy => k_is); (case su_Busy => k_is); (case Xhg_Busy => k_is); (case Xhk_Busy => k_is); (case Xhs_Busy => k_is); (case Xhd_Busy => k_is); (case Xha_Busy => k_is); (case Xhn_Busy => k_is); (case Xht_Busy => k_is); (case Xhm_Busy => k_is); (case y_Busy_MajordomoError => kit_is); (case gc_Rota => k_is); (case m_Rota___init__ => k_is); (case i_Rota___init__ => k_is); (case l_Rota___init__ => k_is); (case c_Rota___init__ => k_is); (case k_Rota___init__ => k_is); (case m_Rota_take_turn => k_is); (case i_Rota_take_turn => k_is); (case l_Rota_take_turn => k_is); (case c_Rota_take_turn => k_is); (case k_Rota_take_turn => k_is); (case gc_Caller => k_is); (case m_Caller___init__ => k_is); (case i_Caller___init__ => k_is); (case l_Caller___init__ => k_is); (case c_Caller___init__ => k_is); (case k_Caller___init__ => k_is); (case kq_Caller___init___patience => k_is); (case pa_Caller_busy => k_is); (case pb_Caller_busy => k_is); (case pc_Caller_busy => k_is); (case pd_Caller_busy => k_is); (case l_Caller_busy => k_is); (case c_Caller_busy => k_is); (case k_Caller_busy => k_is); (case m_Caller_ask => k_is); (case i_Caller_ask => k_is); (case l_Caller_ask => k_is); (case c_Caller_ask => k_is); (case k_Caller_ask => k_is); (case m_Caller_tick => k_is); (case i_Caller_tick => k_is); (case l_Caller_tick => k_is); (case c_Caller_tick => k_is); (case k_Caller_tick => k_is); (case m_Caller_hear => k_is); (case i_Caller_hear => k_is); (case l_Caller_hear => k_is); (case c_Caller_hear => k_is); (case k_Caller_hear => k_is); (case m_Caller__send => k_is); (case i_Caller__send => k_is); (case l_Caller__send => k_is); (case c_Caller__send => k_is); (case k_Caller__send => k_is); (case g__law_mix => k_is); (case l__law_mix => k_is); (case c__law_mix => k_is); (case k__law_mix => k_is); (case g__law_row => k_is); (case l__law_row => k_is); (case c__law_row => k_is); (case k__law_row => k_is); (case g__law_transaction => k_is); (case l__law_transaction => k_is); (case c__law_transaction => k_is); (case k__law_transaction => k_is); (case g__law_fronts => k_is); (case l__law_fronts => k_is); (case c__law_fronts => k_is); (case k__law_fronts => k_is); (case g__law_sent => k_is); (case l__law_sent => k_is); (case c__law_sent => k_is); (case k__law_sent => k_is); (case g__law_tick => k_is); (case l__law_tick => k_is); (case c__law_tick => k_is); (case k__law_tick => k_is); (case g__law_ask => k_is); (case l__law_ask => k_is); (case c__law_ask => k_is); (case k__law_ask => k_is); (case g__law_letter => k_is); (case l__law_letter => k_is); (case c__law_letter => k_is); (case k__law_letter => k_is); (case g__law_hear => k_is); (case l__law_hear => k_is); (case c__law_hear => k_is); (case k__law_hear => k_is); (case g__law_deed => k_is); (case l__law_deed => k_is); (case c__law_deed => k_is); (case k__law_deed => k_is); (case g__law_same => k_is); (case l__law_same => k_is); (case c__law_same => k_is); (case k__law_same => k_is); (case g_law => k_is); (case l_law => k_is); (case c_law => k_is); (case k_law => k_is); (case pg_Rota => k_is); (case hd_Rota => k_is); (case po_Rota => k_is); (case sa_Rota => k_is); (case mk_Rota => k_is); (case kc_Rota => k_is); (case na_Rota__names => k_is); (case na_Rota__turn => k_is); (case pg_Caller => k_is); (case hd_Caller => k_is); (case po_Caller => k_is); (case sa_Caller => k_is); (case mk_Caller => k_is); (case kc_Caller => k_is); (case na_Caller_origin => k_is); (case na_Caller_number => k_is); (case na_Caller_age => k_is); (case na_Caller__rota => k_is); (case na_Caller_front => k_is); (case na_Caller__patience => k_is); (case na_Caller__waited => k_is); (case na_Caller__command => k_is); (case n_tuple => k_is); (case n_len => k_is); (case n_int => k_is); (case n_str => k_is); (case n_isinstance => k_is); (case n_list => k_is); (case n_bool => k_is); (case n_range => k_is); (case n_min => k_is)

