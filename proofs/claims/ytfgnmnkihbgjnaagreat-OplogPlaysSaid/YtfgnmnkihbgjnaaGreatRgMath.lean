/-
  THE DOCUMENT'S LOG, PLAINLY: an entry more at its place, all entries one by one; the greatest time.
  No conditions.
-/
import Derived.Test.YtfgnmnkihbgjnaaGreatGR
namespace Go.Proofs.YtfgnmnkihbgjnaaGreat
open Go.RowKit
theorem ins_rises {α:Type} (f:α→Qm.St) {l:List α} {x:α} {n:Nat} (h:l.Pairwise fun a b=>Qm.ltS (f a) (f b)) (hne:∀ a ∈ l,f a≠f x) (h1:∀ a ∈ l.drop n,Qm.ltS (f x) (f a)) (h2:∀ a,(l.take n).getLast?=some a→¬ Qm.ltS (f x) (f a)) :
  (l.take n ++ [x] ++ l.drop n).Pairwise fun a b=>Qm.ltS (f a) (f b):=by
 have hsp:=h
 rw [← List.take_append_drop n l] at hsp
 obtain ⟨ht,hd,htd⟩:=List.pairwise_append.1 hsp
 have hlt:∀ a ∈ l.take n,Qm.ltS (f a) (f x):=by
  intro a ha
  cases hg:(l.take n).getLast? with
  | none =>
   rw [List.getLast?_eq_none_iff.1 hg] at ha
   cases ha
  | some z =>
   have hz:Qm.ltS (f z) (f x):=by
    rcases Qm.ltS_tri (f z) (f x) with h5 | h5 | h5
    ·exact h5
    ·exact absurd h5 (hne z (List.mem_of_mem_take (List.mem_of_getLast? hg)))
    ·exact absurd h5 (h2 z hg)
   obtain ⟨ys,hys⟩:=List.getLast?_eq_some_iff.1 hg
   rw [hys] at ht ha
   rcases List.mem_append.1 ha with ha | ha
   ·exact Qm.ltS_trans ((List.pairwise_append.1 ht).2.2 a ha z (by simp)) hz
   ·obtain rfl:a=z:=by simpa using ha
    exact hz
 refine List.pairwise_append.2 ⟨List.pairwise_append.2 ⟨ht,List.pairwise_singleton _ _,fun a ha b hb=>?_⟩,hd,fun a ha b hb=>?_⟩
 ·obtain rfl:b=x:=by simpa using hb
  exact hlt a ha
 ·rcases List.mem_append.1 ha with ha | ha
  ·exact htd a ha b hb
  ·obtain rfl:a=x:=by simpa using ha
   exact h1 b hb
theorem ins_perm {α:Type} (l:List α) (x:α) (n:Nat):(l.take n ++ [x] ++ l.drop n).Perm (l ++ [x]):=by
 have h1:(l.take n ++ [x] ++ l.drop n).Perm (l.take n ++ (l.drop n ++ [x])):=by
  rw [List.append_assoc]
  exact List.Perm.append_left _ List.perm_append_comm
 refine h1.trans ?_
 rw [← List.append_assoc,List.take_append_drop]
def preEn (L:Lg) (k:Nat):List Ent:=(List.range k).flatMap fun r=>entR (L.row r)
theorem preEn_succ (L:Lg) (k:Nat):preEn L (k+1)=preEn L k ++ entR (L.row k):=by
 unfold preEn
 rw [List.range_succ,List.flatMap_append]
 simp
theorem preEn_pre (L:Lg) {k m:Nat} (h:k≤m):∃ t,preEn L m=preEn L k ++ t:=by
 induction m with
 | zero =>
      obtain rfl:k=0:=by omega
      exact ⟨[],by simp⟩
 | succ m ih =>
  by_cases e:k=m+1
  ·exact ⟨[],by rw [e]; simp⟩
  ·obtain ⟨t,ht⟩:=ih (by omega)
   exact ⟨t ++ entR (L.row m),by rw [preEn_succ,ht,List.append_assoc]⟩
theorem entA_pre (L:Lg):entA L=preEn L 16:=rfl
theorem entR_app (l m:List Bat):entR (l ++ m)=entR l ++ entR m:=by simp [entR]
theorem entA_at (L:Lg) {i k m:Nat} (hi:i<16) (hk:k<(L.row i).length) (hm:m<(L.row i)[k].ops.length) :
  ∃ t,entA L=(preEn L i ++ entR ((L.row i).take k) ++ (entB (L.row i)[k]).take m) ++ [(((L.row i)[k].t+(m:Int),(L.row i)[k].r),opOf (L.row i)[k].ops m)] ++ t:=by
 obtain ⟨t1,h1⟩:=preEn_pre L (k:=i+1) (m:=16) (by omega)
 have h2:entR (L.row i)=entR ((L.row i).take k) ++ entB (L.row i)[k] ++ entR ((L.row i).drop (k+1)):=by
  rw [← entR_succ _ _ hk,← entR_app,List.take_append_drop]
 have h3:entB (L.row i)[k]=(entB (L.row i)[k]).take m ++ [(((L.row i)[k].t+(m:Int),(L.row i)[k].r),opOf (L.row i)[k].ops m)] ++ (entB (L.row i)[k]).drop (m+1):=by
  rw [← entB_take _ _ hm,List.take_append_drop]
 refine ⟨(entB (L.row i)[k]).drop (m+1) ++ entR ((L.row i).drop (k+1)) ++ t1,?_⟩
 rw [entA_pre,h1,preEn_succ,h2]
 conv=>lhs; rw [h3]
 simp only [List.append_assoc]
theorem RowsOk.ne {L:Lg} (h:RowsOk L):(entA L).Pairwise fun a b=>a.1≠b.1:=by
 unfold entA
 rw [List.flatMap_def,List.pairwise_flatten]
 refine ⟨fun l hl=>?_,?_⟩
 ·obtain ⟨r,hr,rfl⟩:=List.mem_map.1 hl
  refine (h.ris r (List.mem_range.1 hr)).imp ?_
  intro a b hab e
  rw [e] at hab
  exact Qm.ltS_irrefl _ hab
 ·rw [List.pairwise_map]
  refine (pair_range 16).imp_of_mem ?_
  intro a b ha hb hab x hx y hy e
  have h1:=h.own a (List.mem_range.1 ha) x hx
  have h2:=h.own b (List.mem_range.1 hb) y hy
  rw [e] at h1
  omega
theorem eeOf_at {l:List Ee} {i:Nat} (h:i<l.length):eeOf l i=l[i]:=by simp [eeOf,h]
structure EnD (L:Lg) (P:List Ent) (lo:List Ee):Prop where
 perm:(lo.map Ee.en).Perm P
 ris:RowsOk L→lo.Pairwise fun a b=>Qm.ltS a.s b.s
theorem EnD.start (L:Lg):EnD L [] []:=⟨List.Perm.refl _,fun _=>List.Pairwise.nil⟩
structure CutAt (s:Qm.St) (lo:List Ee) (n:Nat):Prop where
 le:n≤lo.length
 gt:∀ i,n≤i→i<lo.length→Qm.ltS s (eeOf lo i).s
theorem EnD.step {L:Lg} {P t:List Ent} {lo:List Ee} {e:Ee} {n:Nat} (h:EnD L P lo) (hp:entA L=P ++ [e.en] ++ t) (hc:CutAt e.s lo n) (h0:0<n→¬ Qm.ltS e.s (eeOf lo (n - 1)).s):EnD L (P ++ [e.en]) (lo.take n ++ [e] ++ lo.drop n):=by
 have hle:=hc.le
 refine ⟨?_,fun hr=>?_⟩
 ·refine ((ins_perm lo e n).map Ee.en).trans ?_
  rw [List.map_append]
  exact h.perm.append_right _
 ·have hn:=hr.ne
  rw [hp] at hn
  refine ins_rises Ee.s (h.ris hr) (fun a ha ea=>?_) (fun a ha=>?_) (fun a ha=>?_)
  ·have h1:a.en ∈ P:=h.perm.mem_iff.1 (List.mem_map.2 ⟨a,ha,rfl⟩)
   exact (List.pairwise_append.1 (List.pairwise_append.1 hn).1).2.2 a.en h1 e.en (by simp) ea
  ·obtain ⟨i,hi,rfl⟩:=List.mem_iff_getElem.1 ha
   rw [List.length_drop] at hi
   have:=hc.gt (n+i) (by omega) (by omega)
   rw [eeOf_at (by omega)] at this
   rw [List.getElem_drop]
   exact this
  ·rw [List.getLast?_eq_getElem?,List.length_take,Nat.min_eq_left hle] at ha
   by_cases hz:n=0
   ·subst hz; simp at ha
   ·rw [List.getElem?_take_of_lt (by omega)] at ha
    obtain ⟨h1,e1⟩:=List.getElem?_eq_some_iff.1 ha
    have:=h0 (by omega)
    rw [eeOf_at h1,e1] at this
    exact this
def tmD (L:Lg):Nat→Int
 | 0=>0
 | k+1=>if (L.row k).length=0 then tmD L k else max (tmD L k) (lastR L k).1
theorem tmD_nonneg (L:Lg):∀ k,0≤tmD L k
 | 0=>Int.le_refl _
 | k+1=>by
  have:=tmD_nonneg L k
  unfold tmD
  split <;> omega
theorem max2_fst (a b:Qm.St):(maxOf [a,b]).1=max a.1 b.1:=by
 have h:maxOf [a,b]=maxS a b:=by simp [maxOf,maxL,stAt]
 rw [h]
 unfold maxS cmpS
 by_cases h1:b.1=a.1
 ·have:∀ (q:Prop) [Decidable q],(if q then b else a).1=a.1:=fun q _=>by split <;> simp [h1]
  rw [this]
  omega
 ·rw [if_neg h1]
  by_cases h2:b.1<a.1
  ·rw [if_pos h2,if_neg (by decide)]; omega
  ·rw [if_neg h2,if_pos (by decide)]; omega
theorem tmS_fst (L:Lg):∀ k,(tmS L k).1=tmD L k
 | 0=>rfl
 | k+1=>by
  have h1:tmS L (k+1)=maxOf [tmS L k,lastR L k]:=rfl
  rw [h1,max2_fst,tmS_fst L k,tmD]
  split
  ·next h =>
   have:lastR L k=(0,0):=by unfold lastR; rw [List.eq_nil_of_length_eq_zero h]; rfl
   rw [this]
   have:=tmD_nonneg L k
   dsimp only
   omega
  ·rfl
end Go.Proofs.YtfgnmnkihbgjnaaGreat
