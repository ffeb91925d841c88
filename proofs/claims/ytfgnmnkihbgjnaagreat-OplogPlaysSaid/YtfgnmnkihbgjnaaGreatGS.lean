/-
  THE DIGEST: the sum of all batches' bytes.
  No conditions but sizes.
  A LIST OF BATCHES GIVEN TO A LOG, ONE BY ONE ('AdS'); two logs of the same batches tell the same.
  No conditions.
-/
import Derived.Test.YtfgnmnkihbgjnaaGreatSh
import Derived.Test.YtfgnmnkihbgjnaaGreatGQ
import Derived.Test.YtfgnmnkihbgjnaaGreatBtPut
import Derived.Test.YtfgnmnkihbgjnaaGreatGR
set_option maxRecDepth 100000
set_option maxHeartbeats 8000000
namespace Go.Proofs.YtfgnmnkihbgjnaaGreat
open Go.RowKit
def rowBy (l:List Bat):List UInt8:=l.flatMap batB
def preBy (L:Lg) (k:Nat):List UInt8:=(List.range k).flatMap fun r=>rowBy (L.row r)
def digL (L:Lg):Int:=Wm.crc (preBy L 16)
theorem preBy_succ (L:Lg) (k:Nat):preBy L (k+1)=preBy L k ++ rowBy (L.row k):=by
 unfold preBy
 rw [List.range_succ,List.flatMap_append]
 simp
theorem rowBy_take (l:List Bat) (j:Nat) (h:j<l.length):rowBy (l.take (j+1))=rowBy (l.take j) ++ batB l[j]:=by
 rw [List.take_succ_eq_append_getElem h]
 unfold rowBy
 rw [List.flatMap_append]
 simp
theorem ldigest_any {l S M:Nat} {m:Sm} {F:Nat→Prop} (w:World) (h:Lo w l S M m F) :
  Calls Tryz.prog 22 #[.pointer (some ⟨l,0,none⟩)] w fun e w'=>e=.returned (.int .i64 (digL m.lg))∧Below w.heap.size w w':=by
 obtain ⟨i0,hi,hz0,hz1,hz2⟩:=info_parts info_u8
 have HO:=Hi (lours_yes h.cell)
 have HL:=Hi h
 have HS:=Hi h.st
 have y0:=h.cell
 clear h
 go_enter Tryz.func22,Tryz.ntmps22
 go_wp2_with fail
 refine HO.out.mono ?_
 rintro e w1 ⟨rfl,rfl⟩
 go_wp2_with (refine wpList_load_sl HS.out rfl _ rfl rfl ?_)
 clear y0
 go_loopw [20,3] (fun i v wr=>∃ k:Nat,k≤16∧i=.int .i64 (k:Int)∧Own 5 wr w.heap.size v (preBy m.lg k)∧Below w.heap.size w wr∧(preBy m.lg k).length≤40000000 * k) (fun i _ _=>16 - (intOf i).toNat)
 case atStart=>exact ⟨0,by omega,rfl,World.ownsRow_nil _ _ _ _,Below.refl _ _,by simp [preBy]⟩
 case round =>
  obtain ⟨k,hk,rfl,hown,hbw,hlen⟩:=hrel
  have HOW:=Hi hown
  have HB:=Hi hbw
  have HLN:=Hi hlen
  clear hown hbw hlen
  by_cases hlt:k<16
  ·have hd16:decide ((k:Int)<16)=true:=decide_eq_true (by omega)
   have ix:=fun (W:World)=>run_index_sl W m k hlt
   have HLG:=Hi (show m.lg.row k=(m.el k).map (·.x) from rfl)
   have HL5:=Hi (Sm.len HL.out.ok hlt)
   have hl5:=HL5.out
   have HRD:=Hi (fun W (hW:Below w.heap.size w W)=>((HS.out.kept hW).rd hlt).1)
   have hrd0:=(HS.out.rd hlt).1
   have HPT:=Hi (fun (j:Nat) (hj:j<(m.el k).length) W (hW:Below w.heap.size w W)=>by
    have hok:=Sm.okB HL.out.ok hlt (beOf_mem hj)
    have:=bput_any (beOf (m.el k) j).x (beOf (m.el k) j).p (beOf (m.el k) j).c W hok.szs (((HS.out.kept hW).ops k hlt _ (beOf_mem hj)).bops)
    rw [putT_ok hok.right] at this
    exact this)
   have HBL:=Hi (fun (j:Nat) (hj:j<(m.el k).length)=>batB_len (Sm.okB HL.out.ok hlt (beOf_mem hj)).right)
   generalize hqr:m.q k=qr at *
   go_wp2
   go_loopw [25,3] (fun i v wr=>∃ j:Nat,j≤(m.el k).length∧i=.int .i64 (j:Int)∧Own 5 wr w.heap.size v (preBy m.lg k ++ rowBy ((m.lg.row k).take j))∧Below w.heap.size w wr∧(preBy m.lg k ++ rowBy ((m.lg.row k).take j)).length≤40000000 * k+70000 * j) (fun i _ _=>(m.el k).length - (intOf i).toNat)
   case atStart=>exact ⟨0,Nat.zero_le _,rfl,by simpa [rowBy] using HOW.out,HB.out,by have:=HLN.out; simp [rowBy]; omega⟩
   case round =>
    obtain ⟨j,hj,rfl,hown,hbw,hlen⟩:=hrel
    have HOW2:=Hi hown
    have HB2:=Hi hbw
    have HLN2:=Hi hlen
    clear hown hbw hlen HOW HB
    by_cases hjl:j<(m.el k).length
    ·have hd0:decide ((j:Int)<((m.el k).length:Int))=true:=decide_eq_true (by omega)
     obtain ⟨b,o,rfl,-⟩:=hrd0.addr (by rw [beCells_length]; omega)
     have HRDJ:=Hi (HRD.out _ HB2.out)
     have HPJ:=Hi (HPT.out j hjl)
     have HBJ:=Hi (HBL.out j hjl)
     have HTK:=Hi (show rowBy ((m.lg.row k).take (j+1))=rowBy ((m.lg.row k).take j) ++ batB (beOf (m.el k) j).x from by
      rw [rowBy_take _ _ (by rw [HLG.out,List.length_map]; exact hjl)]
      simp [HLG.out,beOf,hjl])
     go_wp2_with (first | (refine wpList_load_be btP rfl _ rfl b o j rfl (m.el k) HRDJ.out hjl ?_) | (refine wpList_store_newag btP rfl _ _ rfl rfl _ rfl rfl rfl (btA_one _ _ _) ?_; intro w4 hv4 hb4) | (refine wpList_load_ag btP rfl _ rfl _ rfl rfl hv4 ?_))
     have HB4:=Hi (HB2.out.trans (hb4.mono HB2.out.size))
     have HOW4:=Hi (Own.below HOW2.out hb4)
     clear hb4 hv4
     refine (HPJ.out w4 HB4.out).mono ?_
     rintro e w5 ⟨v5,rfl,hown5,hb5⟩
     dsimp only at hown5
     obtain ⟨p5,c5,rfl,hbs5,-,-,hpn5,-⟩:=hown5.bs
     have HB5:=Hi (HB4.out.trans (hb5.mono HB4.out.size))
     have HOW5:=Hi (Own.below HOW4.out hb5)
     have HBS5:=Hi hbs5
     have HSZ5:=Hi HB5.out.size
     clear hown5 hb5 hbs5
     generalize hacc:preBy m.lg k ++ rowBy ((m.lg.row k).take j)=acc at *
     generalize hbb:batB (beOf (m.el k) j).x=bb at *
     go_wp2_with (at_builtin; refine wpList_append_bs rfl _ _ 103 rfl w.heap.size 5 i0 Tryz.underlying103 hi hz0 hz1 hz2 _ acc rfl HOW5.out p5 c5 bb rfl HBS5.out hpn5 ?b0 ?b1 ?_)
     case b0=>have:=HLN2.out; have:=HBJ.out; omega
     case b1=>exact HSZ5.out
     intro v6 w6 hown6 hbel6 _ _
     have HOW6:=Hi (show Own 5 w6 w.heap.size v6 (preBy m.lg k ++ rowBy ((m.lg.row k).take (j+1))) from by rw [HTK.out,← List.append_assoc,hacc]; exact hown6)
     have HB6:=Hi (HB5.out.trans hbel6)
     have HLN6:=Hi (show (preBy m.lg k ++ rowBy ((m.lg.row k).take (j+1))).length≤40000000 * k+70000 * (j+1) from by rw [HTK.out,← List.append_assoc,hacc,List.length_append]; have:=HLN2.out; have:=HBJ.out; omega)
     clear hown6 hbel6
     go_wp2
     go_roundw
     case rel=>exact ⟨j+1,by omega,by go_num,HOW6.out,HB6.out,HLN6.out⟩
     case measure=>simp [intOf]; omega
    ·obtain rfl:j=(m.el k).length:=by omega
     have hd0:decide (((m.el k).length:Int)<((m.el k).length:Int))=false:=decide_eq_false (by omega)
     have HT:=Hi (show preBy m.lg k ++ rowBy ((m.lg.row k).take (m.el k).length)=preBy m.lg (k+1) from by
      rw [preBy_succ,List.take_of_length_le (by rw [HLG.out,List.length_map]; exact Nat.le_refl _)])
     rw [HT.out] at HOW2 HLN2
     go_wp2
     go_roundw
     case rel=>exact ⟨k+1,by omega,by go_num,HOW2.out,HB2.out,by have:=HLN2.out; omega⟩
     case measure=>simp [intOf]; omega
  ·obtain rfl:k=16:=by omega
   obtain ⟨p,c,e,hbs,-,-,-,-⟩:=HOW.out.bs
   subst e
   have HSU:=Hi (sum_any p c (preBy m.lg 16) wr hbs (by have:=HLN.out; simp [maxLen]; omega))
   go_wp2_with fail
   refine HSU.out.mono ?_
   rintro e w2 ⟨rfl,rfl⟩
   go_wp2
   go_ret
   exact ⟨rfl,HB.out⟩
open Go.RowKit
structure AdS (w0:World) (lg S M:Nat) (F0:Nat→Prop) (X:List Bat) (k:Nat) (m:Sm) (F:Nat→Prop) (wr:World):Prop where
 lo:Lo wr lg S M m F
 ord:∃ P,OrdS m.lg P∧P.Perm (X.take k)
 cnt:CntOk 20 k m.lg
 sub:∀ j,F j→F0 j∨w0.heap.size≤j
 turns:Turns F0 w0 wr
theorem AdS.start {w0:World} {lg S M:Nat} {F0:Nat→Prop} {X:List Bat} {m:Sm} (h:Lo w0 lg S M m F0) (hz:m.lg=Lg.zero):AdS w0 lg S M F0 X 0 m F0 w0 :=
 ⟨h,⟨[],by rw [hz]; exact OrdS.zero,by simp⟩,by rw [hz]; exact CntOk.zero 20,fun _ h=>Or.inl h,Turns.refl _ _⟩
theorem AdS.step {w0:World} {lg S M:Nat} {F0:Nat→Prop} {X:List Bat} {k:Nat} {m:Sm} {F:Nat→Prop} {wr w':World} {x:Bat} {e:Ending} (h:AdS w0 lg S M F0 X k m F wr) (hX:FairP X) (hk:k<X.length) (hx:X[k]=x)
  (hs:Szs x.ops) (hcp:CpSz x) (hb:x.ops.length≤20) (hn:X.length≤40) (ha:Added lg S M F m.lg x wr e w'):∃ m' F' p c n,e=.returned (.tuple #[.slice p n c,.int .i64 (addL m.lg x).2.2])∧AdS w0 lg S M F0 X (k+1) m' F' w':=by
 obtain ⟨P,hP,hperm⟩:=h.ord
 obtain ⟨m',p,c,n1,lo,he,hlo,hlg,-,-,hn1,-,ht⟩:=ha
 have hw0:=h.turns.size
 have htk:(x :: P).Perm (X.take (k+1)):=by
  rw [List.take_succ_eq_append_getElem hk,hx]
  exact (hperm.cons x).trans (List.perm_append_comm (l₁:=[x]) (l₂:=X.take k))
 have hf:FairP (x :: P):=FairP.perm (List.Pairwise.sublist (List.take_sublist ..) hX) htk.symm
 have hok:rightT x=true→OkB x:=fun hr=>⟨hr,hs,hcp⟩
 refine ⟨m',_,p,c,lo.length,he,hlo,⟨x :: P,by rw [hlg]; exact hP.add h.lo.ok hok hf h.cnt hb (by omega),htk⟩,by rw [hlg]; exact h.cnt.add h.lo.ok hok hb,fun j hj=>?_,h.turns.trans (ht.mono fun j _ hj=>h.sub j hj)⟩
 rcases hj with hj | hj
 ·exact h.sub j hj
 ·exact Or.inr (by omega)
theorem AdS.kept {w0:World} {lg S M:Nat} {F0:Nat→Prop} {X:List Bat} {k:Nat} {m:Sm} {F:Nat→Prop} {wr w':World} (h:AdS w0 lg S M F0 X k m F wr) (hb:Below wr.heap.size wr w'):AdS w0 lg S M F0 X k m F w' :=
 ⟨h.lo.kept hb,h.ord,h.cnt,h.sub,h.turns.trans (Turns.of_below hb)⟩
theorem tmS_congr {L L':Lg} (h:∀ r,r<16→L.row r=L'.row r):∀ k,k≤16→tmS L k=tmS L' k
 | 0,_=>rfl
 | k+1,hk=>by
  rw [tmS,tmS,tmS_congr h k (by omega)]
  unfold lastR
  rw [h k (by omega)]
theorem same_tell {L L':Lg} (h:∀ r,r<16→L.row r=L'.row r):vecA (vecL9 L')=vecA (vecL9 L)∧digL L'=digL L∧tmS L' 16=tmS L 16∧entA L'=entA L:=by
 refine ⟨vecA_congr fun r hr=>by unfold vecL9; rw [h r hr],?_,(tmS_congr h 16 (Nat.le_refl _)).symm,?_⟩
 ·unfold digL preBy
  rw [List.flatMap_def,List.flatMap_def,List.map_congr_left (f:=fun r=>rowBy (L'.row r)) (g:=fun r=>rowBy (L.row r)) fun k hk=>by rw [h k (List.mem_range.1 hk)]]
 ·unfold entA
  rw [List.flatMap_def,List.flatMap_def,List.map_congr_left (f:=fun r=>entR (L'.row r)) (g:=fun r=>entR (L.row r)) fun k hk=>by rw [h k (List.mem_range.1 hk)]]
end Go.Proofs.YtfgnmnkihbgjnaaGreat
