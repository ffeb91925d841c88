/-
  DOCUMENTS, PLAINLY: a log, and what its batches wrote, one write behind the other; what a batch that is applied adds.
  No conditions.
  A DOCUMENT IN MEMORY: its box, its log, its graph, its registers; each block has a colour: whose it is.
  No conditions but sizes.
-/
import Derived.Test.YthfhefdfehlbkaaGreatK10
import Derived.Test.YthfhefdfehlbkaaGreatK23
import Derived.Test.YthfhefdfehlbkaaGreatK13
import Derived.Test.YthfhefdfehlbkaaGreatK24
import Derived.Test.YthfhefdfehlbkaaGreatK26
namespace Go.Proofs.YthfhefdfehlbkaaGreat
open Go.RowKit
def wrB (b:Bat):List Pm.Wr:=(List.range b.ops.length).map fun (i:Nat)=>⟨(b.t+(i:Int),b.r),opOf b.ops i⟩
theorem wrB_length (b:Bat):(wrB b).length=b.ops.length:=by simp [wrB]
theorem wrB_take (b:Bat) (j:Nat) (h:j<b.ops.length):(wrB b).take (j+1)=(wrB b).take j ++ [⟨(b.t+(j:Int),b.r),opOf b.ops j⟩]:=by
 rw [List.take_add_one]
 congr 1
 simp [wrB,h]
def wrL (l:List Bat):List Pm.Wr:=l.flatMap wrB
theorem wrL_append (l m:List Bat):wrL (l ++ m)=wrL l ++ wrL m:=by simp [wrL]
theorem wrL_cons (x:Bat) (l:List Bat):wrL (x :: l)=wrB x ++ wrL l:=by simp [wrL]
theorem wrL_perm {l m:List Bat} (h:l.Perm m):(wrL l).Perm (wrL m):=h.flatMap_right _
theorem wrL_take (l:List Bat) (k:Nat) (x:Bat) (h:l[k]?=some x):wrL (l.take (k+1))=wrL (l.take k) ++ wrB x:=by
 obtain ⟨hk,h2⟩:=List.getElem?_eq_some_iff.1 h
 rw [List.take_add_one,h,wrL_append]
 simp [wrL]
def wtB:List Bat→Nat
 | []=>0
 | x :: l=>x.ops.length+wtB l
theorem wtB_append:∀ (l m:List Bat),wtB (l ++ m)=wtB l+wtB m
 | [],m=>by simp [wtB]
 | x :: l,m=>by simp only [List.cons_append,wtB,wtB_append l m]; omega
theorem wrL_length:∀ (l:List Bat),(wrL l).length=wtB l
 | []=>rfl
 | x :: l=>by rw [wrL_cons,List.length_append,wrB_length,wrL_length l]; rfl
theorem wtB_filter (p:Bat→Bool):∀ (l:List Bat),wtB (l.filter p)≤wtB l
 | []=>Nat.le_refl _
 | x :: l=>by
  have:=wtB_filter p l
  rw [List.filter_cons]
  split <;> simp only [wtB] <;> omega
theorem wtB_drop {p:Bat→Bool} {x:Bat} (hx:p x=false):∀ {l:List Bat},x ∈ l→wtB (l.filter p)+x.ops.length≤wtB l
 | [],h=>by cases h
 | y :: l,h=>by
  rw [List.filter_cons]
  rcases List.mem_cons.1 h with rfl | h
  ·rw [hx]
   have:=wtB_filter p l
   simp only [Bool.false_eq_true,if_false,wtB]
   omega
  ·have:=wtB_drop hx h
   split <;> simp only [wtB] <;> omega
theorem wtB_perm {l m:List Bat} (h:l.Perm m):wtB l=wtB m:=by rw [← wrL_length,← wrL_length]; exact (wrL_perm h).length_eq
theorem allB_more {L L':Lg} {j:Nat} {t:List Bat} (h1:L'.row j=L.row j ++ t) (h2:∀ k,k≠j→L'.row k=L.row k):∀ k,(allB L' k).Perm (allB L k ++ if j<k then t else [])
 | 0=>by simp [allB]
 | k+1=>by
  rw [allB_succ,allB_succ]
  have ih:=allB_more h1 h2 k
  by_cases e:k=j
  ·subst e
   rw [if_neg (Nat.lt_irrefl k),List.append_nil] at ih
   rw [if_pos (Nat.lt_succ_self k),h1,List.append_assoc]
   exact ih.append_right _
  ·rw [h2 k e]
   by_cases hj:j<k
   ·rw [if_pos hj] at ih
    rw [if_pos (by omega)]
    refine (ih.append_right _).trans ?_
    rw [List.append_assoc,List.append_assoc]
    exact List.perm_append_comm.append_left _
   ·rw [if_neg hj,List.append_nil] at ih
    rw [if_neg (by omega),List.append_nil]
    exact ih.append_right _
abbrev allL (L:Lg):List Bat:=allB L 16
theorem enterL_all (L:Lg) (x:Bat) (hr:x.r.toNat<16):(allL (enterL L x)).Perm (allL L ++ [x]):=by
 have h:=allB_more (L:=L) (L':=enterL L x) (j:=x.r.toNat) (t:=[x]) (by simp [enterL]) (fun k hk=>by simp [enterL,hk]) 16
 rwa [if_pos hr] at h
theorem addL_all (L:Lg) (x:Bat):(allL (addL L x).1).Perm (allL L ++ (addL L x).2.1):=by
 obtain ⟨h1,h2,h3⟩:=addL_row L x
 have h:=allB_more h1 h2 16
 by_cases hr:rightT x=true
 ·rwa [if_pos (right_r hr).1] at h
 ·rw [addL_bad (by simpa using hr)]
  simp
def wtL (L:Lg):Nat:=wtB (allL L)+wtB L.wait
theorem wtL_drop {L:Lg} {r s:Int} {x:Bat} (hx:x ∈ L.wait) (ha:atPl r s x=true):wtL (dropL L r s)+x.ops.length≤wtL L:=by
 have:=wtB_drop (p:=fun a=>!atPl r s a) (x:=x) (by simp [ha]) hx
 show wtB (allL L)+wtB (L.wait.filter fun a=>!atPl r s a)+x.ops.length≤wtB (allL L)+wtB L.wait
 omega
theorem wtL_enter {L:Lg} {x:Bat} (hr:x.r.toNat<16):wtL (enterL L x)=wtL L+x.ops.length:=by
 unfold wtL
 rw [wtB_perm (enterL_all L x hr),wtB_append]
 show _+wtB L.wait=_
 simp only [wtB]
 omega
theorem wtL_follow:∀ (n:Nat) {L:Lg} {r:Nat},LgOk L→wtL (followL n L r)≤wtL L
 | 0,_,_,_=>Nat.le_refl _
 | n+1,L,r,ho=>by
  rw [followL]
  split
  ·exact Nat.le_refl _
  ·next ht =>
   cases hf:L.wait.find? (atPl (r:Int) (nextS L r)) with
   | none=>exact Nat.le_refl _
   | some x =>
    have hm:=List.mem_of_find?_eq_some hf
    have ha:=List.find?_some hf
    have hd:=wtL_drop hm ha
    have hx:=ho.wright x hm
    dsimp only
    split
    ·refine Nat.le_trans (wtL_follow n ((ho.drop _ _).enter hx ht)) ?_
     rw [wtL_enter (right_r hx.right).1]
     exact hd
    ·omega
theorem wtL_add {L:Lg} {x:Bat} (ho:LgOk L) (hx:rightT x=true→OkB x):wtL (addL L x).1≤wtL L+x.ops.length:=by
 unfold addL
 split
 ·exact Nat.le_add_right _ _
 ·next hr =>
  have hr':rightT x=true:=by simpa using hr
  split
  ·exact Nat.le_add_right _ _
  ·split
   ·split
    ·exact Nat.le_add_right _ _
    ·show wtB (allL L)+wtB (L.wait ++ [x])≤_
     rw [wtB_append]
     unfold wtL
     simp only [wtB]
     omega
   ·split
    ·exact Nat.le_add_right _ _
    ·next ht =>
     split
     ·exact Nat.le_add_right _ _
     ·refine Nat.le_trans (wtL_follow _ (ho.enter (hx hr') ht)) ?_
      rw [wtL_enter (right_r hr').1]
      exact Nat.le_refl _
structure DocOk (n:Nat) (L:Lg) (ws:List Pm.Wr):Prop where
 ws:ws.Perm (wrL (allL L))
 wt:wtL L≤n
theorem DocOk.zero:DocOk 0 Lg.zero []:=⟨by simp [allB,Lg.zero,wrL],by decide⟩
theorem DocOk.len {n:Nat} {L:Lg} {ws:List Pm.Wr} (h:DocOk n L ws):ws.length≤n:=by
 rw [h.ws.length_eq,wrL_length]
 have:=h.wt
 unfold wtL at this
 omega
def addW (L:Lg) (ws:List Pm.Wr) (x:Bat):List Pm.Wr:=ws ++ wrL (addL L x).2.1
theorem DocOk.add {n:Nat} {L:Lg} {ws:List Pm.Wr} (h:DocOk n L ws) (ho:LgOk L) {x:Bat} (hx:rightT x=true→OkB x):DocOk (n+x.ops.length) (addL L x).1 (addW L ws x):=by
 refine ⟨?_,Nat.le_trans (wtL_add ho hx) (Nat.add_le_add_right h.wt _)⟩
 refine (h.ws.append_right _).trans ?_
 rw [← wrL_append]
 exact (wrL_perm (addL_all L x)).symm
theorem DocOk.came {n:Nat} {L:Lg} {ws:List Pm.Wr} (h:DocOk n L ws) (ho:LgOk L) {x:Bat} (hx:rightT x=true→OkB x):ws.length+wtB (addL L x).2.1≤n+x.ops.length:=by
 have h1:=(h.add ho hx).len
 unfold addW at h1
 rw [List.length_append,wrL_length] at h1
 exact h1
open Go.RowKit
structure Dcx (W:World) (d l S M:Nat) (m:Sm) (F:Nat→Prop) (gg:Nat) (ws:List Pm.Wr) (χ:Nat→Nat) (P M1 M2 M3:Nat) (c:Nat→Nat):Prop where
 box:AgAt W d #[ptV l,ptV gg,ptV P]
 lo:Lo W l S M m F
 gr:Gra W gg (Gm.insAll ws) χ
 re:PLay W P M1 M2 M3 (Pm.allR ws)
 cF:∀ k,F k→c k=1
 cl:c l=1
 cg:∀ k,χ k≠0→c k=2
 cgg:c gg=2
 cP:c P=3
 c1:c M1=3
 c2:c M2=3
 c3:c M3=3
 cd:c d=4
 lt:∀ k,c k≠0→k<W.heap.size
def Dc (W:World) (d l gg P:Nat) (L:Lg) (ws:List Pm.Wr) (c:Nat→Nat):Prop:=∃ S M m F χ M1 M2 M3,Dcx W d l S M m F gg ws χ P M1 M2 M3 c∧m.lg=L
structure DGo (w:World) (c:Nat→Nat) (w':World) (c':Nat→Nat):Prop where
 turns:Turns (fun k=>1≤c k∧c k≤3) w w'
 keep:∀ k,k<w.heap.size→c' k=c k
theorem DGo.trans {w w1 w2:World} {c c1 c2:Nat→Nat} (h:DGo w c w1 c1) (k:DGo w1 c1 w2 c2):DGo w c w2 c2 :=
 ⟨h.turns.trans (k.turns.mono fun i hi hf=>by
  by_cases hl:i<w.heap.size
  ·rw [h.keep i hl] at hf; exact Or.inl hf
  ·exact Or.inr (by omega)),fun i hi=>(k.keep i (Nat.lt_of_lt_of_le hi h.turns.size)).trans (h.keep i hi)⟩
theorem DGo.of_below {w w':World} {c:Nat→Nat} (h:Below w.heap.size w w'):DGo w c w' c:=⟨Turns.of_below h,fun _ _=>rfl⟩
section
variable {W W':World} {d l S M gg P M1 M2 M3:Nat} {m m':Sm} {F G:Nat→Prop} {ws ws':List Pm.Wr} {χ χ' c:Nat→Nat} {L:Lg}
theorem Dcx.turns (h:Dcx W d l S M m F gg ws χ P M1 M2 M3 c) (ht:Turns G W W') (hd:∀ k,c k≠0→¬ G k):Dcx W' d l S M m F gg ws χ P M1 M2 M3 c :=
 have h1:∀ k n,c k=n+1→¬ G k:=fun k n e=>hd k (by rw [e]; exact Nat.succ_ne_zero n)
 ⟨h.box.turn ht (h1 _ _ h.cd),h.lo.turns ht (fun k hk=>h1 _ _ (h.cF k hk)) (h1 _ _ h.cl),h.gr.turns ht (fun k hk=>h1 _ _ (h.cg k hk)) (h1 _ _ h.cgg),
  h.re.turns ht (h1 _ _ h.cP) (h1 _ _ h.c1) (h1 _ _ h.c2) (h1 _ _ h.c3),h.cF,h.cl,h.cg,h.cgg,h.cP,h.c1,h.c2,h.c3,h.cd,fun k hk=>Nat.lt_of_lt_of_le (h.lt k hk) ht.size⟩
theorem Dc.turns (h:Dc W d l gg P L ws c) (ht:Turns G W W') (hd:∀ k,c k≠0→¬ G k):Dc W' d l gg P L ws c:=by
 obtain ⟨S,M,m,F,χ,M1,M2,M3,h,e⟩:=h
 exact ⟨S,M,m,F,χ,M1,M2,M3,h.turns ht hd,e⟩
theorem Dc.kept (h:Dc W d l gg P L ws c) (hb:Below W.heap.size W W'):Dc W' d l gg P L ws c:=h.turns (Turns.of_below (F:=fun _=>False) hb) fun _ _ h=>h
theorem Dc.lt (h:Dc W d l gg P L ws c):∀ k,c k≠0→k<W.heap.size:=by
 obtain ⟨S,M,m,F,χ,M1,M2,M3,h,e⟩:=h
 exact h.lt
theorem Dc.zero (h:Dc W d l gg P L ws c) {k:Nat} (hk:W.heap.size≤k):c k=0:=by
 by_cases e:c k=0
 ·exact e
 ·have:=h.lt k e; omega
theorem Dc.box (h:Dc W d l gg P L ws c):AgAt W d #[ptV l,ptV gg,ptV P]:=by
 obtain ⟨S,M,m,F,χ,M1,M2,M3,h,e⟩:=h
 exact h.box
theorem Dc.ok (h:Dc W d l gg P L ws c):LgOk L:=by
 obtain ⟨S,M,m,F,χ,M1,M2,M3,h,e⟩:=h
 rw [← e]
 exact h.lo.ok
theorem Dcx.graph (h:Dcx W d l S M m F gg ws χ P M1 M2 M3 c) (hg:Gra W' gg (Gm.insAll ws') χ') (hgo:Goes W χ W' χ') (he:Pm.allR ws'=Pm.allR ws):∃ c',Dcx W' d l S M m F gg ws' χ' P M1 M2 M3 c'∧DGo W c W' c'∧∀ k,W.heap.size≤k→χ' k=0→c' k=0:=by
 have hold:∀ k,c k≠0→k<W.heap.size:=h.lt
 have k0:∀ k n,c k=n+1→(if k<W.heap.size then c k else if χ' k≠0 then 2 else 0)=n+1:=fun k n e=>by rw [if_pos (hold k (by omega)),e]
 have hG:∀ k n,c k=n+1→n≠1→¬ (1≤χ k∧χ k≤5):=fun k n e hn hh=>by
  have:=h.cg k (by omega)
  omega
 refine ⟨fun k=>if k<W.heap.size then c k else if χ' k≠0 then 2 else 0,⟨h.box.turn hgo.turns (hG _ _ h.cd (by decide)),h.lo.turns hgo.turns (fun k hk=>hG _ _ (h.cF k hk) (by decide)) (hG _ _ h.cl (by decide)),hg,?_,
  fun k hk=>k0 _ _ (h.cF k hk),k0 _ _ h.cl,fun k hk=>?_,k0 _ _ h.cgg,k0 _ _ h.cP,k0 _ _ h.c1,k0 _ _ h.c2,k0 _ _ h.c3,k0 _ _ h.cd,fun k hk=>?_⟩,⟨?_,fun k hk=>if_pos hk⟩,fun k h1 h2=>?_⟩
 ·rw [he]
  exact h.re.turns hgo.turns (hG _ _ h.cP (by decide)) (hG _ _ h.c1 (by decide)) (hG _ _ h.c2 (by decide)) (hG _ _ h.c3 (by decide))
 ·show (if k<W.heap.size then c k else if χ' k≠0 then 2 else 0)=2
  by_cases hl:k<W.heap.size
  ·rw [if_pos hl]
   rw [hgo.keep k hl] at hk
   exact h.cg k hk
  ·rw [if_neg hl,if_pos hk]
 ·have hk':(if k<W.heap.size then c k else if χ' k≠0 then 2 else 0)≠0:=hk
  by_cases hl:k<W.heap.size
  ·exact Nat.lt_of_lt_of_le hl hgo.turns.size
  ·rw [if_neg hl] at hk'
   by_cases h2:χ' k≠0
   ·exact hg.lts h2
   ·rw [if_neg h2] at hk'; exact absurd rfl hk'
 ·exact hgo.turns.mono fun k _ hk=>by have:=h.cg k (by omega); omega
 ·show (if k<W.heap.size then c k else if χ' k≠0 then 2 else 0)=0
  rw [if_neg (by omega),if_neg (by omega)]
theorem Dcx.regs (h:Dcx W d l S M m F gg ws χ P M1 M2 M3 c) (hr:PLay W' P M1 M2 M3 (Pm.allR ws')) (ht:Turns (fun k=>k=M1∨k=M2∨k=M3) W W') (he:Gm.insAll ws'=Gm.insAll ws):Dcx W' d l S M m F gg ws' χ P M1 M2 M3 c∧DGo W c W' c:=by
 have hG:∀ k n,c k=n→n≠3→¬ (k=M1∨k=M2∨k=M3):=fun k n e hn hh=>by
  have h1:=h.c1
  have h2:=h.c2
  have h3:=h.c3
  rcases hh with rfl | rfl | rfl <;> omega
 refine ⟨⟨h.box.turn ht (hG _ _ h.cd (by decide)),h.lo.turns ht (fun k hk=>hG _ _ (h.cF k hk) (by decide)) (hG _ _ h.cl (by decide)),?_,hr,h.cF,h.cl,h.cg,h.cgg,h.cP,h.c1,h.c2,h.c3,h.cd,fun k hk=>Nat.lt_of_lt_of_le (h.lt k hk) ht.size⟩,ht.mono fun k _ hk=>?_,fun _ _=>rfl⟩
 ·rw [he]
  exact h.gr.turns ht (fun k hk=>hG _ _ (h.cg k hk) (by decide)) (hG _ _ h.cgg (by decide))
 ·have h1:=h.c1
  have h2:=h.c2
  have h3:=h.c3
  rcases hk with rfl | rfl | rfl <;> omega
theorem Dcx.log {n1:Nat} (h:Dcx W d l S M m F gg ws χ P M1 M2 M3 c) (hl:Lo W' l S M m' (fun k=>F k∨(W.heap.size≤k∧k<n1))) (ht:Turns F W W') (hn:n1≤W'.heap.size) :
  ∃ c',Dcx W' d l S M m' (fun k=>F k∨(W.heap.size≤k∧k<n1)) gg ws χ P M1 M2 M3 c'∧DGo W c W' c'∧∀ k,n1≤k→W.heap.size≤k→c' k=0:=by
 have hold:∀ k,c k≠0→k<W.heap.size:=h.lt
 have k0:∀ k n,c k=n+1→(if k<W.heap.size then c k else if k<n1 then 1 else 0)=n+1:=fun k n e=>by rw [if_pos (hold k (by omega)),e]
 have hG:∀ k n,c k=n→n≠1→¬ F k:=fun k n e hn hh=>by
  have:=h.cF k hh
  omega
 refine ⟨fun k=>if k<W.heap.size then c k else if k<n1 then 1 else 0,⟨h.box.turn ht (hG _ _ h.cd (by decide)),hl,h.gr.turns ht (fun k hk=>hG _ _ (h.cg k hk) (by decide)) (hG _ _ h.cgg (by decide)),
  h.re.turns ht (hG _ _ h.cP (by decide)) (hG _ _ h.c1 (by decide)) (hG _ _ h.c2 (by decide)) (hG _ _ h.c3 (by decide)),fun k hk=>?_,k0 _ _ h.cl,fun k hk=>k0 _ _ (h.cg k hk),k0 _ _ h.cgg,k0 _ _ h.cP,k0 _ _ h.c1,k0 _ _ h.c2,k0 _ _ h.c3,k0 _ _ h.cd,fun k hk=>?_⟩,⟨?_,fun k hk=>if_pos hk⟩,fun k h1 h2=>?_⟩
 ·rcases hk with hk | hk
  ·exact k0 _ _ (h.cF k hk)
  ·show (if k<W.heap.size then c k else if k<n1 then 1 else 0)=1
   rw [if_neg (by omega),if_pos hk.2]
 ·have hk':(if k<W.heap.size then c k else if k<n1 then 1 else 0)≠0:=hk
  by_cases hl:k<W.heap.size
  ·exact Nat.lt_of_lt_of_le hl ht.size
  ·rw [if_neg hl] at hk'
   by_cases h2:k<n1
   ·omega
   ·rw [if_neg h2] at hk'; exact absurd rfl hk'
 ·exact ht.mono fun k _ hk=>by have:=h.cF k hk; omega
 ·show (if k<W.heap.size then c k else if k<n1 then 1 else 0)=0
  rw [if_neg (by omega),if_neg (by omega)]
end
end Go.Proofs.YthfhefdfehlbkaaGreat
