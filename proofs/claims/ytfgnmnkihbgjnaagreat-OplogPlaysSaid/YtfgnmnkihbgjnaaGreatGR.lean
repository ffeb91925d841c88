/-
  LOGS, PLAINLY: each replica's batches are Seqs 1 and on, their times rise; what Add adds.
  No conditions.
  THE LAW's Light: are batches few and small?
  No conditions.
  THE SAME BATCHES IN WHICHEVER ORDER, PLAINLY: what a log holds that has been given a list of batches.
  No conditions.
  A ROW OF BATCHES, two of which change places.
  No conditions but sizes.
-/
import Derived.Test.YtfgnmnkihbgjnaaGreatSh
import Derived.Test.YtfgnmnkihbgjnaaGreatGQ
import Derived.Test.YtfgnmnkihbgjnaaGreatLgAdd
import Derived.Test.YtfgnmnkihbgjnaaGreatGH
set_option maxRecDepth 100000
set_option maxHeartbeats 8000000
namespace Go.Proofs.YtfgnmnkihbgjnaaGreat
open Go.RowKit
theorem endT_right {x:Bat} (h:rightT x=true):endT x=(x.t+((x.ops.length:Int) - 1),x.r):=by
 have h1:=(rightT_iff.1 h).2.2.1
 exact stampT_yes ⟨by omega,by omega,h⟩
theorem endT_ge {x:Bat} (h:rightT x=true):x.t≤(endT x).1:=by
 have h1:=(rightT_iff.1 h).2.2.1
 rw [endT_right h]
 dsimp only
 omega
def RowSeq (r:Nat) (l:List Bat):Prop:=(∀ i (h:i<l.length),l[i].r=(r:Int)∧l[i].s=(i:Int)+1)∧l.Pairwise fun a b=>(endT a).1<b.t
def SeqOk (L:Lg):Prop:=∀ r,r<16→RowSeq r (L.row r)
theorem SeqOk.zero:SeqOk Lg.zero:=fun _ _=>⟨fun _ h=>(by cases h),List.Pairwise.nil⟩
theorem RowSeq.append {r:Nat} {l:List Bat} {x:Bat} (h:RowSeq r l) (hr:x.r=(r:Int)) (hs:x.s=(l.length:Int)+1) (hall:∀ a ∈ l,rightT a=true)
  (hf:(match l.getLast? with | none=>((0,0):Qm.St) | some y=>endT y).1<x.t):RowSeq r (l ++ [x]):=by
 refine ⟨fun i hi=>?_,List.pairwise_append.2 ⟨h.2,List.pairwise_singleton _ _,fun a ha b hb=>?_⟩⟩
 ·by_cases e:i<l.length
  ·rw [List.getElem_append_left e]; exact h.1 i e
  ·have hi':i=l.length:=by simp at hi; omega
   subst hi'
   rw [List.getElem_append_right (Nat.le_refl _)]
   simp [hr,hs]
 ·obtain rfl:b=x:=by simpa using hb
  cases hg:l.getLast? with
  | none =>
   have:=List.getLast?_eq_none_iff.1 hg
   subst this
   cases ha
  | some y =>
   rw [hg] at hf
   obtain ⟨ys,rfl⟩:=List.getLast?_eq_some_iff.1 hg
   dsimp only at hf
   rcases List.mem_append.1 ha with ha | ha
   ·have h1:=(List.pairwise_append.1 h.2).2.2 a ha y (by simp)
    have h2:=endT_ge (hall y (by simp))
    omega
   ·obtain rfl:a=y:=by simpa using ha
    exact hf
theorem SeqOk.enter {L:Lg} (h:SeqOk L) (ho:LgOk L) {x:Bat} (hx:rightT x=true) (hs:x.s=nextS L x.r.toNat) (hf:fitsL L x=true):SeqOk (enterL L x):=fun r hr=>by
 unfold enterL
 dsimp only
 split
 ·next e =>
  subst e
  refine (h _ hr).append ?_ hs (fun a ha=>(ho.right _ hr a ha).right) ?_
  ·exact (right_r hx).2.symm
  ·have:=of_decide_eq_true hf
   unfold lastR at this
   exact this
 ·exact h r hr
theorem SeqOk.drop {L:Lg} (h:SeqOk L) (r s:Int):SeqOk (dropL L r s):=h
theorem SeqOk.follow:∀ (n:Nat) {L:Lg} {r:Nat},SeqOk L→LgOk L→SeqOk (followL n L r)
 | 0,_,_,h,_=>h
 | n+1,L,r,h,ho=>by
  rw [followL]
  split
  ·exact h
  ·next ht =>
   cases hf:L.wait.find? (atPl (r:Int) (nextS L r)) with
   | none=>exact h
   | some x =>
    dsimp only
    split
    ·next hfit =>
     have hx:=ho.wright x (List.mem_of_find?_eq_some hf)
     have hat:=atPl_iff.1 (List.find?_some hf)
     have hd:=ho.drop (r:Int) (nextS L r)
     have hrr:x.r.toNat=r:=by rw [hat.1]; simp
     refine SeqOk.follow n (SeqOk.enter (h.drop _ _) hd hx.right ?_ hfit) (hd.enter hx ?_)
     ·rw [hat.2,hrr]; rfl
     ·exact ht
    ·exact h
theorem SeqOk.add {L:Lg} {x:Bat} (h:SeqOk L) (ho:LgOk L) (hx:rightT x=true→OkB x):SeqOk (addL L x).1:=by
 unfold addL
 split
 ·exact h
 ·next hr =>
  split
  ·exact h
  ·split
   ·split
    ·exact h
    ·exact h
   ·next hs =>
    split
    ·exact h
    ·next ht =>
     split
     ·exact h
     ·next hf =>
      have hr':rightT x=true:=by simpa using hr
      have hx':=hx hr'
      refine SeqOk.follow _ (h.enter ho hr' (by simpa using hs) (by simpa using hf)) (ho.enter hx' ht)
theorem followL_row:∀ (n:Nat) (L:Lg) (r:Nat),(∃ t,(followL n L r).row r=L.row r ++ t)∧∀ k,k≠r→(followL n L r).row k=L.row k
 | 0,L,r=>⟨⟨[],by simp [followL]⟩,fun _ _=>rfl⟩
 | n+1,L,r=>by
  rw [followL]
  split
  ·exact ⟨⟨[],by simp⟩,fun _ _=>rfl⟩
  ·cases hf:L.wait.find? (atPl (r:Int) (nextS L r)) with
   | none=>exact ⟨⟨[],by simp⟩,fun _ _=>rfl⟩
   | some x =>
    have hat:=atPl_iff.1 (List.find?_some hf)
    have hrr:x.r.toNat=r:=by rw [hat.1]; simp
    dsimp only
    split
    ·obtain ⟨⟨t,h1⟩,h2⟩:=followL_row n (enterL (dropL L (r:Int) (nextS L r)) x) r
     refine ⟨⟨x :: t,?_⟩,fun k hk=>?_⟩
     ·rw [h1]; simp [enterL,dropL,hrr]
     ·rw [h2 k hk]; simp [enterL,dropL,hrr,hk]
    ·exact ⟨⟨[],by simp [dropL]⟩,fun _ _=>rfl⟩
theorem addL_row (L:Lg) (x:Bat):(addL L x).1.row x.r.toNat=L.row x.r.toNat ++ (addL L x).2.1∧(∀ k,k≠x.r.toNat→(addL L x).1.row k=L.row k)∧((addL L x).2.2≠0→(addL L x).2.1=[]):=by
 unfold addL
 split
 ·exact ⟨by simp,fun _ _=>rfl,fun _=>rfl⟩
 ·next hr =>
  split
  ·exact ⟨by simp,fun _ _=>rfl,fun _=>rfl⟩
  ·split
   ·split
    ·exact ⟨by simp,fun _ _=>rfl,fun _=>rfl⟩
    ·exact ⟨by simp,fun _ _=>rfl,fun _=>rfl⟩
   ·next hs =>
    split
    ·exact ⟨by simp,fun _ _=>rfl,fun _=>rfl⟩
    ·split
     ·exact ⟨by simp,fun _ _=>rfl,fun _=>rfl⟩
     ·have hs':x.s=nextS L x.r.toNat:=by simpa using hs
      have hsn:x.s.toNat - 1=(L.row x.r.toNat).length:=by rw [hs']; simp [nextS]
      obtain ⟨⟨t,h1⟩,h2⟩:=followL_row (L.wait.length+1) (enterL L x) x.r.toNat
      dsimp only
      have h3:(enterL L x).row x.r.toNat=L.row x.r.toNat ++ [x]:=by simp [enterL]
      rw [h3] at h1
      refine ⟨?_,fun k hk=>?_,fun h=>absurd rfl h⟩
      ·rw [h1,hsn,List.append_assoc,List.drop_left]
      ·rw [h2 k hk]; simp [enterL,hk]
theorem sumTo_one (a b:Nat→Int) (j:Nat) (d:Int) (h1:∀ i,i≠j→b i=a i) (h2:b j=a j+d):∀ k,sumTo b k=sumTo a k+(if j<k then d else 0)
 | 0=>by simp [sumTo]
 | k+1=>by
  simp only [sumTo,sumTo_one a b j d h1 h2 k]
  by_cases e:k=j
  ·subst e; rw [h2]; simp; omega
  ·rw [h1 k e]
   by_cases h:j<k
   ·simp [h,show j<k+1 from by omega]; omega
   ·simp [h,show ¬ j<k+1 from by omega]
theorem addL_vec (L:Lg) (x:Bat) (hL:LgOk L) (hL':LgOk (addL L x).1):coversB (vecL9 (addL L x).1) (vecL9 L)=true∧totL (addL L x).1=totL L+((addL L x).2.1.length:Int):=by
 obtain ⟨h1,h2,h3⟩:=addL_row L x
 have hv1:vecL9 (addL L x).1 x.r.toNat=vecL9 L x.r.toNat+((addL L x).2.1.length:Int):=by unfold vecL9; rw [h1]; simp
 have hv2:∀ i,i≠x.r.toNat→vecL9 (addL L x).1 i=vecL9 L i:=fun i hi=>by unfold vecL9; rw [h2 i hi]
 refine ⟨coversB_iff.2 fun i hi=>?_,?_⟩
 ·by_cases e:i=x.r.toNat
  ·subst e; rw [hv1]; omega
  ·rw [hv2 i e]; exact Int.le_refl _
 ·rw [hL.totL,hL'.totL,sumTo_one (vecL9 L) (vecL9 (addL L x).1) x.r.toNat _ hv2 hv1]
  by_cases hr:rightT x=true
  ·rw [if_pos (right_r hr).1]
  ·have:(addL L x).2.1=[]:=by
    have:rightT x=false:=by simpa using hr
    rw [addL_bad this]
   rw [this]
   simp
structure CntOk (b n:Nat) (L:Lg):Prop where
 row:∀ r,r<16→∀ x ∈ L.row r,x.ops.length≤b
 wait:∀ x ∈ L.wait,x.ops.length≤b
 cnt:sumTo (vecL9 L) 16+(L.wait.length:Int)≤(n:Int)
theorem CntOk.zero (b:Nat):CntOk b 0 Lg.zero:=⟨fun _ _ _ h=>(by cases h),fun _ h=>(by cases h),by decide⟩
theorem CntOk.enter {b n:Nat} {L:Lg} (h:CntOk b n L) {x:Bat} (hx:x.ops.length≤b) (hr:rightT x=true):CntOk b (n+1) (enterL L x):=by
 refine ⟨fun r hr2 y hy=>?_,h.wait,?_⟩
 ·unfold enterL at hy
  dsimp only at hy
  split at hy
  ·rcases List.mem_append.1 hy with hy | hy
   ·exact h.row r hr2 y hy
   ·obtain rfl:y=x:=by simpa using hy
    exact hx
  ·exact h.row r hr2 y hy
 ·have:=h.cnt
  rw [vecL9_enter,sumTo_enter,if_pos (right_r hr).1]
  show _+1+(L.wait.length:Int)≤_
  omega
theorem CntOk.mono {b n m:Nat} {L:Lg} (h:CntOk b n L) (hm:n≤m):CntOk b m L:=⟨h.row,h.wait,by have:=h.cnt; omega⟩
theorem CntOk.dropped {b n:Nat} {L:Lg} (h:CntOk b (n+1) L) {r s:Int} {x:Bat} (hx:x ∈ L.wait) (ha:atPl r s x=true):CntOk b n (dropL L r s):=by
 refine ⟨h.row,fun y hy=>h.wait y (List.mem_filter.1 hy).1,?_⟩
 have h2:(L.wait.filter fun a=>!atPl r s a).length<L.wait.length:=by
  rw [List.length_filter_lt_length_iff_exists]
  exact ⟨x,hx,by simp [ha]⟩
 have h3:=h.cnt
 show sumTo (vecL9 L) 16+((L.wait.filter fun a=>!atPl r s a).length:Int)≤_
 omega
theorem CntOk.follow {b:Nat}:∀ (g:Nat) {n:Nat} {L:Lg} {r:Nat},CntOk b n L→LgOk L→CntOk b n (followL g L r)
 | 0,_,_,_,h,_=>h
 | g+1,n,L,r,h,ho=>by
  rw [followL]
  split
  ·exact h
  ·next ht =>
   cases hf:L.wait.find? (atPl (r:Int) (nextS L r)) with
   | none=>exact h
   | some x =>
    have hm:=List.mem_of_find?_eq_some hf
    have ha:=List.find?_some hf
    obtain ⟨n',rfl⟩:∃ n',n=n'+1:=by
     have h1:=h.cnt
     have h2:0<L.wait.length:=List.length_pos_of_mem hm
     have h3:0≤sumTo (vecL9 L) 16:=by
      have:=sumTo_mono (a:=vecL9 L) (fun i=>by simp [vecL9]) (Nat.zero_le 16)
      simpa [sumTo] using this
     exact ⟨n - 1,by omega⟩
    have hd:=h.dropped hm ha
    have hx:=ho.wright x hm
    dsimp only
    split
    ·exact CntOk.follow g (hd.enter (h.wait x hm) hx.right) ((ho.drop _ _).enter hx ht)
    ·exact hd.mono (Nat.le_succ _)
theorem CntOk.add {b n:Nat} {L:Lg} {x:Bat} (h:CntOk b n L) (ho:LgOk L) (hx:rightT x=true→OkB x) (hb:x.ops.length≤b):CntOk b (n+1) (addL L x).1:=by
 have hs:=h.mono (Nat.le_succ n)
 unfold addL
 split
 ·exact hs
 ·next hr =>
  have hr':rightT x=true:=by simpa using hr
  split
  ·exact hs
  ·split
   ·split
    ·exact hs
    ·refine ⟨h.row,fun y hy=>?_,?_⟩
     ·rcases List.mem_append.1 hy with hy | hy
      ·exact h.wait y hy
      ·obtain rfl:y=x:=by simpa using hy
       exact hb
     ·have:=h.cnt
      show sumTo (vecL9 L) 16+((L.wait ++ [x]).length:Int)≤_
      simp only [List.length_append,List.length_cons,List.length_nil]
      omega
   ·split
    ·exact hs
    ·next ht =>
     split
     ·exact hs
     ·exact CntOk.follow _ (h.enter hb hr') (ho.enter (hx hr') ht)
theorem entR_cnt (b:Nat):∀ (l:List Bat),(∀ x ∈ l,x.ops.length≤b)→(entR l).length≤b * l.length
 | [],_=>by simp [entR]
 | x :: l,h=>by
  have h1:=entR_cnt b l fun y hy=>h y (List.mem_cons_of_mem _ hy)
  have h2:=h x (List.mem_cons_self ..)
  have h3:entR (x :: l)=entB x ++ entR l:=by simp [entR]
  rw [h3,List.length_append,entB_length,List.length_cons,Nat.mul_add]
  omega
theorem CntOk.ents {b n:Nat} {L:Lg} (h:CntOk b n L):(entA L).length≤b * n:=by
 have hk:∀ k,k≤16→(((List.range k).flatMap fun r=>entR (L.row r)).length:Int)≤(b:Int) * sumTo (vecL9 L) k:=by
  intro k
  induction k with
  | zero=>simp [sumTo]
  | succ k ih =>
   intro hk
   have h1:=ih (by omega)
   have h2:=entR_cnt b (L.row k) (h.row k (by omega))
   rw [List.range_succ,List.flatMap_append,List.length_append]
   simp only [List.flatMap_cons,List.flatMap_nil,List.append_nil,sumTo,Int.mul_add]
   have h3:((entR (L.row k)).length:Int)≤(b:Int) * vecL9 L k:=by
    unfold vecL9
    exact_mod_cast h2
   omega
 have h1:=hk 16 (Nat.le_refl _)
 have h2:=h.cnt
 have h3:(b:Int) * sumTo (vecL9 L) 16≤(b:Int) * (n:Int):=Int.mul_le_mul_of_nonneg_left (by omega) (by omega)
 have h4:((entA L).length:Int)≤(b:Int) * (n:Int):=Int.le_trans h1 h3
 exact_mod_cast h4
theorem pair_range (n:Nat):(List.range n).Pairwise fun a b=>a<b:=by
 induction n with
 | zero=>exact List.Pairwise.nil
 | succ n ih =>
  rw [List.range_succ]
  exact List.pairwise_append.2 ⟨ih,List.pairwise_singleton _ _,fun a ha b hb=>by
   have:=List.mem_range.1 ha
   have:b=n:=by simpa using hb
   omega⟩
theorem entB_rises (x:Bat):(entB x).Pairwise fun a b=>Qm.ltS a.1 b.1:=by
 unfold entB
 rw [List.pairwise_map]
 exact (pair_range _).imp fun h=>Or.inl (by dsimp only; omega)
theorem entB_mem {x:Bat} {e:Ent} (h:e ∈ entB x):∃ i:Nat,i<x.ops.length∧e.1=(x.t+(i:Int),x.r):=by
 obtain ⟨i,hi,rfl⟩:=List.mem_map.1 h
 exact ⟨i,List.mem_range.1 hi,rfl⟩
theorem SeqOk.rows {L:Lg} (h:SeqOk L) (ho:LgOk L):RowsOk L:=by
 refine ⟨fun r hr=>?_,fun r hr e he=>?_⟩
 ·unfold entR
  rw [List.flatMap_def,List.pairwise_flatten]
  refine ⟨fun l hl=>?_,?_⟩
  ·obtain ⟨x,-,rfl⟩:=List.mem_map.1 hl
   exact entB_rises x
  ·rw [List.pairwise_map]
   refine List.Pairwise.imp_of_mem ?_ (h r hr).2
   intro a b ha hb hab e he f hf
   obtain ⟨i,hi,h1⟩:=entB_mem he
   obtain ⟨j,hj,h2⟩:=entB_mem hf
   rw [endT_right (ho.right r hr a ha).right] at hab
   dsimp only at hab
   rw [h1,h2]
   exact Or.inl (by dsimp only; omega)
 ·obtain ⟨x,hx,he⟩:=List.mem_flatMap.1 he
  obtain ⟨i,-,h1⟩:=entB_mem he
  obtain ⟨k,hk,rfl⟩:=List.mem_iff_getElem.1 hx
  rw [h1]
  exact ((h r hr).1 k hk).1
open Go.RowKit
def light1 (x:Bat):Bool:=lightT x && decide (x.ops.length≤20)
def light9 (l:List Be):Bool:=(l.all fun e=>light1 e.x) && decide (l.length≤80)
theorem light9_no {l:List Be} {k:Nat} (hk:k<l.length) (h:light1 (beOf l k).x=false):light9 l=false:=by
 unfold light9
 rw [Bool.and_eq_false_iff]
 refine Or.inl ?_
 rw [List.all_eq_false]
 exact ⟨_,beOf_mem hk,by rw [h]; simp⟩
theorem light9_end {l:List Be} {k:Nat} (hk:k=l.length∨k=90) (hl:k≤l.length) (h:∀ j,j<k→light1 (beOf l j).x=true):light9 l=decide (l.length≤80):=by
 unfold light9
 by_cases h80:l.length≤80
 ·obtain rfl:k=l.length:=by omega
  have:(l.all fun e=>light1 e.x)=true:=List.all_eq_true.2 fun e he=>by
   obtain ⟨j,hj,rfl⟩:=List.mem_iff_getElem.1 he
   have:=h j hj
   rwa [show beOf l j=l[j] from by simp [beOf,hj]] at this
  rw [this,Bool.true_and]
 ·rw [decide_eq_false h80,Bool.and_false]
theorem light9_mem {l:List Be} (h:light9 l=true) {e:Be} (he:e ∈ l):lightT e.x=true∧e.x.ops.length≤20:=by
 simp only [light9,light1,Bool.and_eq_true,decide_eq_true_eq,List.all_eq_true] at h
 exact h.1 e he
theorem light9_any (p:Option Addr) (c:Nat) (l:List Be) (w:World) (h:Rd w p (beCells l)) (ho:∀ e,e ∈ l→Bops w e.x e.p e.c) :
  Calls Tryz.prog 5 #[.slice p l.length c] w fun e w'=>e=.returned (.bool (light9 l))∧Below w.heap.size w w':=by
 have HR:=Hi (fun W (hW:Below w.heap.size w W)=>h.below hW)
 have HLI:=Hi (fun (k:Nat) (hk:k<l.length) W (hW:Below w.heap.size w W)=>light_any (beOf l k).x (beOf l k).p (beOf l k).c W ((ho _ (beOf_mem hk)).kept hW))
 clear h ho
 go_enter Tryz.func5,Tryz.ntmps5
 go_wp2
 go_loopw [3] (fun i wr=>∃ k:Nat,k≤l.length∧k≤90∧i=.int .i64 (k:Int)∧(∀ j,j<k→light1 (beOf l j).x=true)∧Below w.heap.size w wr) (fun i _=>l.length - (intOf i).toNat)
 case atStart=>exact ⟨0,Nat.zero_le _,by omega,rfl,fun j hj=>by omega,Below.refl _ _⟩
 case round =>
  obtain ⟨k,hk,hk9,rfl,hgood,hbw⟩:=hrel
  have HG:=Hi hgood
  have HB:=Hi hbw
  clear hgood hbw
  by_cases hlt:k<l.length
  ·have hd0:decide ((k:Int)<(l.length:Int))=true:=decide_eq_true (by omega)
   by_cases h90:k<90
   ·have hd1:decide ((k:Int)<90)=true:=decide_eq_true (by omega)
    have HRD:=Hi (HR.out _ HB.out)
    obtain ⟨b,o,rfl,-⟩:=HRD.out.addr (by rw [beCells_length]; omega)
    have HC:=Hi (HLI.out k hlt wr HB.out)
    have HN:=Hi (fun (h:light1 (beOf l k).x=false)=>light9_no hlt h)
    have HGK:=Hi (fun (h:light1 (beOf l k).x=true)=>(fun j hj=>by
     by_cases e:j=k
     ·rw [e]; exact h
     ·exact HG.out j (by omega):∀ j,j<k+1→light1 (beOf l j).x=true))
    go_wp2_with (refine wpList_load_be btR rfl _ rfl b o k rfl l HRD.out hlt ?_)
    refine HC.out.mono ?_
    rintro e w2 ⟨rfl,hb2⟩
    have hrd2:=(HRD.out.below hb2).be k hlt
    have HB2:=Hi (HB.out.trans (hb2.mono HB.out.size))
    have y3:=hrd2 3 _ rfl
    clear hb2 hrd2
    cases hl:lightT (beOf l k).x with
    | false =>
     have HE:=Hi (HN.out (by unfold light1; rw [hl]; rfl))
     clear hl
     go_wp2
     go_ret
     exact ⟨by rw [HE.out]; rfl,HB2.out⟩
    | true =>
     by_cases h20:(beOf l k).x.ops.length≤20
     ·have hd2:decide (20<((beOf l k).x.ops.length:Int))=false:=decide_eq_false (by omega)
      have HGN:=Hi (HGK.out (by unfold light1; rw [hl,decide_eq_true h20]; rfl))
      clear hl h20
      go_wp2
      go_roundw
      case rel=>exact ⟨k+1,by omega,by omega,by go_num,HGN.out,HB2.out⟩
      case measure=>simp [intOf]; omega
     ·have hd2:decide (20<((beOf l k).x.ops.length:Int))=true:=decide_eq_true (by omega)
      have HE:=Hi (HN.out (by unfold light1; rw [hl,decide_eq_false h20]; rfl))
      clear hl h20
      go_wp2
      go_ret
      exact ⟨by rw [HE.out]; rfl,HB2.out⟩
   ·have hd1:decide ((k:Int)<90)=false:=decide_eq_false (by omega)
    have HE:=Hi (light9_end (Or.inr (by omega)) hk HG.out)
    go_wp2
    go_ret
    exact ⟨by rw [HE.out,← show decide ((l.length:Int)≤80)=decide (l.length≤80) from decide_eq_decide.2 (by omega)]; rfl,HB.out⟩
  ·obtain rfl:k=l.length:=by omega
   have hd0:decide ((l.length:Int)<(l.length:Int))=false:=decide_eq_false (by omega)
   have HE:=Hi (light9_end (Or.inl rfl) (Nat.le_refl _) HG.out)
   go_wp2
   go_ret
   exact ⟨by rw [HE.out,← show decide ((l.length:Int)≤80)=decide (l.length≤80) from decide_eq_decide.2 (by omega)]; rfl,HB.out⟩
open Go.RowKit
def fairB (a b:Bat):Prop:=a.r=b.r→a.s≠b.s∧rightT a=true∧rightT b=true∧(a.s<b.s→(endT a).1<b.t)∧(b.s<a.s→(endT b).1<a.t)
theorem fairB.symm {a b:Bat} (h:fairB a b):fairB b a:=fun e=>by
 obtain ⟨h1,h2,h3,h4,h5⟩:=h e.symm
 exact ⟨fun e=>h1 e.symm,h3,h2,h5,h4⟩
def FairP (P:List Bat):Prop:=P.Pairwise fairB
theorem FairP.perm {P Q:List Bat} (h:FairP P) (hp:P.Perm Q):FairP Q:=hp.pairwise h fairB.symm
theorem FairP.two {P:List Bat} (h:FairP P) {a b:Bat} (ha:a ∈ P) (hb:b ∈ P) (hn:a.s≠b.s):fairB a b:=by
 induction P with
 | nil=>cases ha
 | cons c P ih =>
  have h1:=List.pairwise_cons.1 h
  rcases List.mem_cons.1 ha with e | ha2 <;> rcases List.mem_cons.1 hb with e2 | hb2
  ·exact absurd (by rw [e,e2]) hn
  ·rw [e]; exact h1.1 _ hb2
  ·rw [e2]; exact (h1.1 _ ha2).symm
  ·exact ih h1.2 ha2 hb2
theorem FairP.inj {P:List Bat} (h:FairP P) {a b:Bat} (ha:a ∈ P) (hb:b ∈ P) (hr:a.r=b.r) (hs:a.s=b.s):a=b:=by
 induction P with
 | nil=>cases ha
 | cons c P ih =>
  have h1:=List.pairwise_cons.1 h
  rcases List.mem_cons.1 ha with e | ha2 <;> rcases List.mem_cons.1 hb with e2 | hb2
  ·rw [e,e2]
  ·rw [e] at hr hs; exact absurd hs (h1.1 _ hb2 hr).1
  ·rw [e2] at hr hs; exact absurd hs ((h1.1 _ ha2).symm hr).1
  ·exact ih h1.2 ha2 hb2
def waitsP (L:Lg) (x:Bat):Bool:=rightT x && decide (((L.row x.r.toNat).length:Int)<x.s)
def RowIn (L:Lg) (P:List Bat):Prop:=∀ r,r<16→∀ i (h:i<(L.row r).length),(L.row r)[i] ∈ P∧rightT (L.row r)[i]=true∧(L.row r)[i].r=(r:Int)∧(L.row r)[i].s=(i:Int)+1
structure OrdI (L:Lg) (P:List Bat):Prop where
 row:RowIn L P
 wait:L.wait.Perm (P.filter (waitsP L))
structure OrdS (L:Lg) (P:List Bat):Prop extends OrdI L P where
 next:∀ x ∈ P,rightT x=true→x.s≠nextS L x.r.toNat
theorem OrdS.zero:OrdS Lg.zero []:=⟨⟨fun _ _ _ h=>(by cases h),List.Perm.refl _⟩,fun _ h=>(by cases h)⟩
theorem RowIn.fits {L:Lg} {P:List Bat} (h:RowIn L P) (hf:FairP P) {x:Bat} (hx:x ∈ P) (hr:rightT x=true) (hs:x.s=nextS L x.r.toNat):fitsL L x=true:=by
 unfold fitsL
 refine decide_eq_true ?_
 have h16:=(right_r hr).1
 unfold lastR
 cases hg:(L.row x.r.toNat).getLast? with
 | none =>
  have:=(rightT_iff.1 hr).2.2.2.1
  dsimp only
  omega
 | some y =>
  have hne:0<(L.row x.r.toNat).length:=by
   cases hl:L.row x.r.toNat with
   | nil=>rw [hl] at hg; cases hg
   | cons a t=>simp
  rw [List.getLast?_eq_getElem?] at hg
  obtain ⟨hl,e⟩:=List.getElem?_eq_some_iff.1 hg
  obtain ⟨h1,h2,h3,h4⟩:=h _ h16 _ hl
  rw [e] at h1 h2 h3 h4
  have hsx:x.s=((L.row x.r.toNat).length:Int)+1:=hs
  have hlt:y.s<x.s:=by omega
  have:=hf.two h1 hx (by omega) (by rw [h3]; exact (right_r hr).2)
  exact this.2.2.2.1 hlt
theorem filter_perm_cons {P:List Bat} (p q:Bat→Bool) {x:Bat} (hx:x ∈ P) (hnd:P.Pairwise fun a b=>a≠b) (hp:p x=true) (hq:q x=false) (hpq:∀ y ∈ P,y≠x→p y=q y):(P.filter p).Perm (x :: P.filter q):=by
 induction P with
 | nil=>cases hx
 | cons a P ih =>
  have h1:=List.pairwise_cons.1 hnd
  rcases List.mem_cons.1 hx with rfl | hx
  ·rw [List.filter_cons_of_pos hp,List.filter_cons_of_neg (by rw [hq]; simp)]
   have:P.filter p=P.filter q:=List.filter_congr fun y hy=>hpq y (List.mem_cons_of_mem _ hy) (fun e=>h1.1 y hy e.symm)
   rw [this]
  ·have hax:a≠x:=fun e=>h1.1 x hx e
   have hpa:=hpq a (List.mem_cons_self ..) hax
   have h2:=ih hx h1.2 fun y hy=>hpq y (List.mem_cons_of_mem _ hy)
   by_cases hh:p a=true
   ·rw [List.filter_cons_of_pos hh,List.filter_cons_of_pos (by rw [← hpa]; exact hh)]
    exact (h2.cons a).trans (List.Perm.swap x a _)
   ·rw [List.filter_cons_of_neg hh,List.filter_cons_of_neg (by rw [← hpa]; exact hh)]
    exact h2
theorem waitsP_enter {L:Lg} {x:Bat} (hr:rightT x=true) (hs:x.s=nextS L x.r.toNat) {P:List Bat} (hf:FairP P) (hx:x ∈ P):waitsP (enterL L x) x=false∧waitsP L x=true∧∀ y ∈ P,y≠x→waitsP L y=waitsP (enterL L x) y:=by
 have hs':x.s=((L.row x.r.toNat).length:Int)+1:=hs
 have hrow:∀ k,(enterL L x).row k=if k=x.r.toNat then L.row k ++ [x] else L.row k:=fun k=>rfl
 refine ⟨?_,?_,fun y hy hne=>?_⟩
 ·unfold waitsP enterL
  simp [hr]
  omega
 ·unfold waitsP
  simp [hr]
  omega
 ·unfold waitsP
  cases hry:rightT y with
  | false=>rfl
  | true =>
   simp only [Bool.true_and]
   by_cases e:y.r.toNat=x.r.toNat
   ·have er:y.r=x.r:=by rw [← (right_r hry).2,← (right_r hr).2,e]
    have hsn:y.s≠x.s:=fun es=>hne (hf.inj hy hx er es)
    rw [decide_eq_decide,hrow,e,if_pos rfl]
    simp only [List.length_append,List.length_cons,List.length_nil]
    omega
   ·rw [decide_eq_decide,hrow,if_neg e]
theorem fair_ne {P:List Bat} (h:FairP P):P.Pairwise fun a b=>a≠b:=h.imp fun {a b} hab e=>by
 subst e
 exact (hab rfl).1 rfl
theorem OrdI.enter {L:Lg} {P:List Bat} {x:Bat} {wt:List Bat} (h:RowIn L P)
  (hw:(x :: wt).Perm (P.filter (waitsP L))) (hf:FairP P) (hx:x ∈ P) (hr:rightT x=true) (hs:x.s=nextS L x.r.toNat):OrdI { enterL L x with wait:=wt } P:=by
 have hs':x.s=((L.row x.r.toNat).length:Int)+1:=hs
 refine ⟨fun r hr16 i hi=>?_,?_⟩
 ·have key:∀ (l':List Bat),l'=(if r=x.r.toNat then L.row r ++ [x] else L.row r)→∀ (i:Nat) (hi:i<l'.length),l'[i] ∈ P∧rightT l'[i]=true∧l'[i].r=(r:Int)∧l'[i].s=(i:Int)+1:=by
   intro l' hl' i hi
   by_cases e:r=x.r.toNat
   ·rw [if_pos e] at hl'
    subst hl'
    by_cases hl:i<(L.row r).length
    ·rw [List.getElem_append_left hl]; exact h r hr16 i hl
    ·have hi':i=(L.row r).length:=by simp at hi; omega
     subst hi'
     rw [List.getElem_append_right (Nat.le_refl _)]
     simp only [Nat.sub_self,List.getElem_cons_zero]
     refine ⟨hx,hr,?_,?_⟩
     ·rw [e]; exact (right_r hr).2.symm
     ·rw [e]; exact hs'
   ·rw [if_neg e] at hl'
    subst hl'
    exact h r hr16 i hi
  exact key _ rfl i hi
 ·obtain ⟨h1,h2,h3⟩:=waitsP_enter hr hs hf hx
  have h4:=filter_perm_cons (waitsP L) (waitsP (enterL L x)) hx (fair_ne hf) h2 h1 h3
  exact (List.perm_cons x).1 (hw.trans h4)
theorem CntOk.small {b n:Nat} {L:Lg} (h:CntOk b n L) (hn:n≤60) (ho:LgOk L):¬ 512≤totL L∧L.wait.length≤60:=by
 have h1:=h.cnt
 have h2:0≤sumTo (vecL9 L) 16:=by
  have:=sumTo_mono (a:=vecL9 L) (fun i=>by simp [vecL9]) (Nat.zero_le 16)
  simpa [sumTo] using this
 rw [ho.totL]
 omega
theorem OrdI.inP {L:Lg} {P:List Bat} (h:OrdI L P) {x:Bat} (hx:x ∈ L.wait):x ∈ P∧rightT x=true∧waitsP L x=true:=by
 have h1:=List.mem_filter.1 (h.wait.mem_iff.1 hx)
 refine ⟨h1.1,?_,h1.2⟩
 have:=h1.2
 unfold waitsP at this
 simp only [Bool.and_eq_true] at this
 exact this.1
theorem OrdI.follow {P:List Bat} (hf:FairP P):∀ (g:Nat) {n:Nat} {L:Lg} {r:Nat},OrdI L P→LgOk L→CntOk 20 n L→n≤60→L.wait.length<g→(∀ x ∈ P,rightT x=true→x.r.toNat≠r→x.s≠nextS L x.r.toNat)→OrdS (followL g L r) P
 | 0,_,_,_,_,_,_,_,h,_=>absurd h (Nat.not_lt_zero _)
 | g+1,n,L,r,h,ho,hc,hn,hg,hnx=>by
  rw [followL,if_neg (hc.small hn ho).1]
  cases hfi:L.wait.find? (atPl (r:Int) (nextS L r)) with
  | none =>
   refine ⟨h,fun x hx hr hs=>?_⟩
   by_cases e:x.r.toNat=r
   ·have hw:waitsP L x=true:=by
     have hs':x.s=((L.row x.r.toNat).length:Int)+1:=hs
     unfold waitsP
     simp [hr]
     omega
    have hm:x ∈ L.wait:=h.wait.mem_iff.2 (List.mem_filter.2 ⟨hx,hw⟩)
    have:=List.find?_eq_none.1 hfi x hm
    rw [atPl_iff] at this
    refine this ⟨?_,?_⟩
    ·rw [← e]; exact (right_r hr).2.symm
    ·rw [hs,e]
   ·exact hnx x hx hr e hs
  | some x =>
   have hm:=List.mem_of_find?_eq_some hfi
   have hat:=atPl_iff.1 (List.find?_some hfi)
   obtain ⟨hx,hr,hw⟩:=h.inP hm
   have hrr:x.r.toNat=r:=by rw [hat.1]; simp
   have hs:x.s=nextS L x.r.toNat:=by rw [hat.2,hrr]
   have hfit:fitsL (dropL L (r:Int) (nextS L r)) x=true:=h.row.fits hf hx hr hs
   dsimp only
   rw [if_pos hfit]
   have hwp:L.wait.Perm (x :: L.wait.filter fun a=>!atPl (r:Int) (nextS L r) a):=by
    have h1:=filter_perm_cons (fun _=>true) (fun a=>!atPl (r:Int) (nextS L r) a) hm (h.wait.symm.pairwise ((fair_ne hf).filter _) fun h=>h.symm) rfl (by simp [atPl_iff.2 hat]) (fun y hy hne=>by
     by_cases hh:atPl (r:Int) (nextS L r) y=true
     ·have h2:=atPl_iff.1 hh
      exact absurd (hf.inj (h.inP hy).1 hx (h2.1.trans hat.1.symm) (h2.2.trans hat.2.symm)) hne
     ·simp [hh])
    rw [List.filter_eq_self.2 fun _ _=>rfl] at h1
    exact h1
   have hI:OrdI { enterL L x with wait:=L.wait.filter fun a=>!atPl (r:Int) (nextS L r) a } P:=OrdI.enter h.row (hwp.symm.trans h.wait) hf hx hr hs
   have hI':OrdI (enterL (dropL L (r:Int) (nextS L r)) x) P:=hI
   have hlen:(enterL (dropL L (r:Int) (nextS L r)) x).wait.length<g:=by
    have:=hwp.length_eq
    simp only [List.length_cons] at this
    show (L.wait.filter fun a=>!atPl (r:Int) (nextS L r) a).length<g
    omega
   have hox:=ho.wright x hm
   obtain ⟨n',rfl⟩:∃ n',n=n'+1:=by
    have h1:=hc.cnt
    have h2:0<L.wait.length:=List.length_pos_of_mem hm
    have h3:0≤sumTo (vecL9 L) 16:=by
     have:=sumTo_mono (a:=vecL9 L) (fun i=>by simp [vecL9]) (Nat.zero_le 16)
     simpa [sumTo] using this
    exact ⟨n - 1,by omega⟩
   refine OrdI.follow hf g hI' ((ho.drop _ _).enter hox (hc.small hn ho).1) ((hc.dropped hm (List.find?_some hfi)).enter (hc.wait x hm) hr) hn hlen fun y hy hry hne=>?_
   have h3:=hnx y hy hry hne
   have h4:nextS (enterL (dropL L (r:Int) (nextS L r)) x) y.r.toNat=nextS L y.r.toNat:=by
    unfold nextS enterL dropL
    dsimp only
    rw [if_neg (by rw [hrr]; exact hne)]
   rw [h4]
   exact h3
theorem OrdS.add {L:Lg} {P:List Bat} {x:Bat} {n:Nat} (h:OrdS L P) (ho:LgOk L) (hok:rightT x=true→OkB x) (hf:FairP (x :: P)) (hc:CntOk 20 n L) (hb:x.ops.length≤20) (hn:n<60):OrdS (addL L x).1 (x :: P):=by
 have hrow:RowIn L (x :: P):=fun r hr i hi=>by
  obtain ⟨h1,h2⟩:=h.row r hr i hi
  exact ⟨List.mem_cons_of_mem _ h1,h2⟩
 by_cases hr:rightT x=true
 ·have hnew:∀ y ∈ P,y.r=x.r→y.s≠x.s:=fun y hy e es=>((List.pairwise_cons.1 hf).1 y hy e.symm).1 es.symm
  have hwn:L.wait.any (atPl x.r x.s)=false:=by
   rw [List.any_eq_false]
   intro y hy hat
   have h1:=atPl_iff.1 hat
   exact hnew y (h.toOrdI.inP hy).1 h1.1 h1.2
  have h16:=(right_r hr).1
  have hge:¬ x.s<nextS L x.r.toNat:=fun hlt=>by
   have hs1:=(rightT_iff.1 hr).2.1.1
   have hlt':x.s<((L.row x.r.toNat).length:Int)+1:=hlt
   have hi:x.s.toNat - 1<(L.row x.r.toNat).length:=by omega
   obtain ⟨h1,h2,h3,h4⟩:=h.row _ h16 _ hi
   exact hnew _ h1 (by rw [h3]; exact (right_r hr).2) (by rw [h4]; omega)
  have hsm:=hc.small (by omega) ho
  by_cases hs:x.s=nextS L x.r.toNat
  ·have hfit:=hrow.fits hf (List.mem_cons_self ..) hr hs
   rw [addL_ok hr hwn hs hsm.1 hfit]
   have hwx:waitsP L x=true:=by
    have hs':x.s=((L.row x.r.toNat).length:Int)+1:=hs
    unfold waitsP
    simp [hr]
    omega
   have hI:OrdI (enterL L x) (x :: P):=OrdI.enter (wt:=L.wait) hrow (by rw [List.filter_cons_of_pos hwx]; exact h.wait.cons x) hf (List.mem_cons_self ..) hr hs
   refine OrdI.follow hf _ hI (ho.enter (hok hr) hsm.1) (hc.enter hb hr) (by omega) (Nat.lt_succ_self _) fun y hy hry hne=>?_
   have h4:nextS (enterL L x) y.r.toNat=nextS L y.r.toNat:=by
    unfold nextS enterL
    dsimp only
    rw [if_neg hne]
   rw [h4]
   rcases List.mem_cons.1 hy with rfl | hy
   ·exact absurd rfl hne
   ·exact h.next y hy hry
  ·have hgt:nextS L x.r.toNat<x.s:=by omega
   rw [addL_gap hr hwn hgt (by omega)]
   have hwx:waitsP L x=true:=by
    have hgt':((L.row x.r.toNat).length:Int)+1<x.s:=hgt
    unfold waitsP
    simp [hr]
    omega
   refine ⟨⟨hrow,?_⟩,fun y hy hry=>?_⟩
   ·show (L.wait ++ [x]).Perm ((x :: P).filter (waitsP L))
    rw [List.filter_cons_of_pos hwx]
    exact (List.perm_append_comm).trans (h.wait.cons x)
   ·rcases List.mem_cons.1 hy with rfl | hy
    ·exact hs
    ·exact h.next y hy hry
 ·have hr':rightT x=false:=by simpa using hr
  rw [addL_bad hr']
  refine ⟨⟨hrow,?_⟩,fun y hy hry=>?_⟩
  ·rw [List.filter_cons_of_neg (by unfold waitsP; rw [hr']; simp)]
   exact h.wait
  ·rcases List.mem_cons.1 hy with rfl | hy
   ·exact absurd hry hr
   ·exact h.next y hy hry
open Go.RowKit
theorem setL_be (l:List Be) (i:Nat) (e:Be) (h:i<l.length):setL (beCells l) (i * 4) (beL e)=beCells (l.set i e):=by
 apply List.ext_getElem?
 intro j
 have hb:i * 4+4≤(beCells l).length:=by rw [beCells_length]; omega
 rw [setL_get _ _ _ (by rw [beL_length]; exact hb),beL_length]
 by_cases hj:j<(beCells l).length
 ·rw [beCells_length] at hj
  obtain ⟨a,b,rfl,hb'⟩:∃ a b,j=a * 4+b∧b<4:=⟨j / 4,j % 4,by omega,by omega⟩
  have ha:a<l.length:=by omega
  rw [beCells_get (l.set i e) a b (by simpa using ha) hb']
  have he:beOf (l.set i e) a=if a=i then e else beOf l a:=by
   unfold beOf
   by_cases q:a=i
   ·subst q; simp [List.getD,ha]
   ·simp [List.getD,q,Ne.symm q]
  by_cases q:a=i
  ·subst q
   rw [if_pos (by omega),he,if_pos rfl,show a * 4+b - a * 4=b from by omega]
  ·rw [if_neg (by omega),beCells_get l a b ha hb',he,if_neg q]
 ·rw [if_neg (by omega),List.getElem?_eq_none (by omega),List.getElem?_eq_none (by rw [beCells_length] at hj ⊢; simpa using hj)]
theorem BRow.set {B:Nat} {w:World} {g c:Nat} {l:List Be} (h:BRow B w (some ⟨g,0,none⟩) c l) {i:Nat} (hi:i<l.length) {e:Be} (he:BopsF (fun k=>B≤k∧(Value.slice (some ⟨g,0,none⟩) l.length c).ownBlock≠some k) w e.x e.p e.c) :
  BRow B (w.setCells g (i * 4) (beL e)) (some ⟨g,0,none⟩) c (l.set i e)∧w.grownBy (w.setCells g (i * 4) (beL e)) (some g) ∧
  ∀ x:Be,BopsF (fun k=>B≤k∧(Value.slice (some ⟨g,0,none⟩) l.length c).ownBlock≠some k) w x.x x.p x.c→BopsF (fun k=>B≤k∧(Value.slice (some ⟨g,0,none⟩) (l.set i e).length c).ownBlock≠some k) (w.setCells g (i * 4) (beL e)) x.x x.p x.c:=by
 obtain ⟨h1,h2⟩:=own_setCells (beL e) w (i * 4) h.own
 rw [setL_be _ _ _ hi] at h1
 have hl:(l.set i e).length=l.length:=by simp
 have key:∀ x:Be,BopsF (fun k=>B≤k∧(Value.slice (some ⟨g,0,none⟩) l.length c).ownBlock≠some k) w x.x x.p x.c→BopsF (fun k=>B≤k∧(Value.slice (some ⟨g,0,none⟩) (l.set i e).length c).ownBlock≠some k) (w.setCells g (i * 4) (beL e)) x.x x.p x.c:=fun x hx=>by
  rw [hl]
  refine hx.turns (Turns.of_grown h2) fun k hk hh=>hk.2 ?_
  cases hh
  rfl
 refine ⟨⟨by rw [hl]; exact h1,fun x hx=>?_⟩,h2,key⟩
 rcases List.mem_or_eq_of_mem_set hx with hx | rfl
 ·exact key x (h.ops x hx)
 ·exact key x he
end Go.Proofs.YtfgnmnkihbgjnaaGreat
